import Derived.Test.YtkfjajbalegoeaaGreatFA1
import Derived.Deep.DeepCutAuto
namespace Go.Proofs.YtkfjajbalegoeaaGreat
open Go.Value renaming slice→O,int→Xe,bool→Xh,agg→Xi,pointer→Xj,tuple→Xm
open Go.IntKind renaming i64→Xf,u8→Xg
open Go.Obj renaming cells→Xk
open Go.Ending renaming returned→Xl
open Go renaming World→Xn,Calls→Xp,Value→Xq
open Go.RowKit renaming Hid→Xo
open Option renaming some→Xa,none→Xb
open Bool renaming true→Xc,false→Xd
open List renaming replicate→Xr
open Go.Sem renaming run_bind→Xs,run_pure→Xx
open _root_.List renaming length_set→Xt,take→Xu,drop→Xv,ext_getElem?→Xw,flatMap_append→Xy,take_of_length_le→Xz,countP_le_length→Yb,getElem?_map→Yc,getElem?_of_mem→Yd,map_nil→Ye,mem_map→Yg,mem_or_eq_of_mem_set→Yh,map_toArray→Yi,length_map→Yk,range→Yl,mem_range→Ym,take_zero→Yn,length→Yo,length_cons→Yp,any_eq_true→Yq,length_filter_le→Yt,contains_iff_mem→Yu,mem_map_of_mem→Yx,pairwise_cons→Yy,getElem?_set→Ob
open _root_.Nat renaming lt_of_lt_of_le→Ya,mul_le_mul_right→Yj,le_of_ble_eq_true→Yv,add_mul→Oc
open Go.Act renaming put→Yf
open Go.Addr renaming add_lit→Yr
open _root_.Bool renaming eq_iff_iff→Ys
open _root_.Array renaming toList_modify→Yw,forIn_toList→Yz,toList_push→Oa
set_option maxRecDepth 100000
set_option maxHeartbeats 4000000
variable{α:Type}{a:Act}{U:Array Xq}{E:Elt α}{Z:En}{Y:Fr}{C z:Int}{S:Int×Int}{X:Int×Int->Option Int}{G:List (List En)}{r:List (List Int)}{M:List Fl}{L:List Int}{K:List Oper}{D:List Xq}{y:List α}{b k p:Nat}{u:Nat->En}{s:Sp}{t:TypeId}{w:Xn}{A:Xq}{N:Xq->Xn->Prop}
variable{B B0 B1 b cl fi hi ix j:Nat}{L:List Int}{Q:Exit->Act->Xn->Prop}{T:List (Nat->En)}{V:MaV}{W w' w0:Xn}{hd z:Int}{l:List Ar}{m m' m1:Ma}{o:Oper}{ops:Array Oper}{t:TypeId}{us vs xs:List Xq}{vl vt:Sli}
open Go.Proofs.Tryz
section
open Go.RowKit
def zrR(w0:Xn)(hi b:Nat)(w:Xn)(L:List Int)(V:MaV)(m:Ma)(vt:Sli)(T:List (Nat->En))(fi ix j:Nat)(w':Xn):Prop:=∃(q:Fr)(p:Pg)(u d:Bool)(s:Sli),m.fs[j]?=Xa q/\q.r=0/\(∀c∈m.ca,¬(c.file=(fi:Int)/\c.idx=(ix:Int)))/\MkE w0 hi b w L {V with ca:=s} {m with fs:=m.fs.set j ⟨p,1,u,d,fi,ix⟩,ca:=ZD m.ca ⟨fi,ix,j⟩} vt T w'
def zqL(m:Ma)(fi ix:Nat)(q:List Int)(d:Bool):Prop:=ZF q (ix:Int) (QJ m (fi:Int))=q/\(d=Xd->ZX m (fi:Int) (ix:Int)=q)
def znX(q:List Int)(ix:Nat)(size:Int)(i:Nat):Prop:=∀j,j<i->size<=8*(ix:Int)+(j:Int)->q[j]?=Xa 0
theorem znX.set{a:Int}(h:znX L ix a k)(hi:k<L.length):znX (L.set k 0) ix a (k+1):=fun j a a=>by
 by_cases e:j=k;·grind
 rw[sN (fun h=>e h.symm)];exact h j Wm a
theorem znX.next(h:znX L ix z k)(d:¬z<=8*(ix:Int)+(k:Int)):znX L ix z (k+1):=fun j c b=>by
 by_cases e:j=k;·grind
 exact h j Wm b
theorem znX.all(h:znX L ix C 8)(b:L.length=8):ZF L (ix:Int) C=L:=by
 unfold ZF;refine Xw fun i=>?_;rw[List.getElem?_mapIdx];cases C:L[i]? with
 |none=>rfl
 |some z=>
  have b:=(gS.1 C).1;simp only[Option.map_some,Option.some.injEq];split
  ·rename_i b
   have:=h i Wm b;rw[C]at this;exact(Option.some.inj this).symm
  rfl
theorem zpc(p)(idx a:Int):ZF (ZF p idx a) idx a=ZF p idx a:=by unfold ZF;grind
theorem zmR(a:∀c∈m.ca,¬(c.file=(fi:Int)/\c.idx=(ix:Int))):zqL m fi ix (zU m (fi:Int) (ix:Int)) Xd:=by
 have d:m.ca.find? (Qe (fi:Int) (ix:Int))=Xb:=List.find?_eq_none.2 fun c b e=>a c b (by grind[Qe]);have e:zU m (fi:Int) (ix:Int)=ZX m (fi:Int) (ix:Int):=by
  unfold zU;rw[d];rfl
 rw[e];refine⟨?_,fun _=>rfl⟩;unfold ZX;split;·unfold ZF zw;simp
 exact zpc _ _ _
theorem zpL{f:Fl}(a:m.fl[fi]?=Xa f):QJ m (fi:Int)=f.size:=by unfold QJ;rw[tN,gD,a];rfl
theorem zlB(fi ix:Nat)(f:Fl)(i2:Int)(t:Mk w0 hi w b vl L V m vt T)(dx:∀c∈m.ca,0<=c.file/\c.file<=1000/\0<=c.idx/\c.idx<=1000/\0<=c.fr/\c.fr<m.fs.length)(i9:m.fl[fi]?=Xa f)(dw:f.bl[ix]?=Xa i2)(gm:ix<=1000)(je:fi<=1000)(dy:m.ca.length<=1000):
  Xp prog 96 #[Xj (Xa ⟨b,0,Xb⟩),I6 (fi:Int),I6 (ix:Int)] w fun e w'=>(e=Xl (I6 (-1))/\MkE w0 hi b w L V m vt T w')\/(∃c,c∈m.ca/\c.file=(fi:Int)/\c.idx=(ix:Int)/\e=Xl (I6 c.fr)/\MkE w0 hi b w L V m vt T w')\/∃j:Nat,e=Xl (I6 (j:Int))/\zrR w0 hi b w L V m vt T fi ix j w':=by
 have c8:=dD t;have da:=dD dx;have f0:=dD i9;have fd:=dD dw;obtain⟨C,c9⟩:=kA V.ca.n;have a5:Xo (m.ca.length=C):=show _=_ by rw[<-c9.out,t.rows.ca.n]
 have k9:C<=1000:=Ry a5.out dy;have db:Xo (C<=V.ca.c):=dD<|by
  have:=t.rows.ca.cap;(try simp only[Sli.x]at this);rw[c9.out]at this;exact this
 obtain⟨a8,ag⟩:∃a,Xo (V.ca.a=a):=⟨_,rfl⟩;have dc:Xo (∀cf,(∃b8 d3 gt,gt.ca=m.ca/\Mk w0 hi cf b b8 d3 V gt vt T)->zib cf a8 m.ca):=dD<|fun cf⟨_,_,gt,e,k⟩=>by
  have:=k.rows.at.cas;rw[e,ag.out]at this;exact this
 clear t dx i9 dw dy;go_enter func96,ntmps96;have S:=c8.box.box.c 10 rfl;(try simp only[Sli.x]at S);rw[c9.out,ag.out]at S;go_wp2;clear S;go_loopg[20] C (fun dr gw wr=>∃ae:Nat,ae<=C/\C-ae<=dr/\gw=I6 ae/\Xo (zc w wr)/\Xo (∀(j:Nat)c,j<ae->m.ca[j]?=Xa c->¬(c.file=(fi:Int)/\c.idx=(ix:Int))))
 exact⟨0,nZ _,Wm,rfl,zc.refl _,fun j c am=>absurd am (nL _)⟩;obtain⟨ae,jl,jh,rfl,ez,hs⟩:=hrel;by_cases cx:ae<C
 ·have eg:=kC cx
  obtain⟨c,bs⟩:∃c,Xo (m.ca[ae]?=Xa c):=⟨_,gE (Rx a5.out cx)⟩;obtain⟨gc,rfl,ed⟩:=dc.out wr ⟨vl,L,m,rfl,c8.aA ez⟩ ae c bs.out;obtain⟨gd,i4,ge⟩:=ed wr (zc.refl _);clear ed;go_upto_region 4 with fail;refine nW fun g8 bl=>?_;have bd:=gT bl ez;have il:=xA bl;clear bl gd i4 ge;obtain⟨k6,k7,k8⟩:=il.c3;have dg:Xo (¬(c.file=(fi:Int)/\c.idx=(ix:Int))->∀(j:Nat)c,j<ae+1->m.ca[j]?=Xa c->¬(c.file=(fi:Int)/\c.idx=(ix:Int))):=dD<|fun bi j aj am al=>by
   by_cases e:j=ae;·subst e;rw[bs.out]at al;cases al;exact bi
   exact hs j aj Wm al
  by_cases ci:c.file=(fi:Int)
  ·have gi:(c.file==(fi:Int))=Xc:=by simp[ci]
   by_cases d6:c.idx=(ix:Int)
   ·have gj:(c.idx==(ix:Int))=Xc:=by simp[d6]
    have h9:Xo (c.file=(fi:Int)/\c.idx=(ix:Int)):=dD<|⟨ci,d6⟩;clear ci d6;go_wp2;go_ret;exact .inr (.inl ⟨c,mG bs,h9.1,h9.2,rfl,vl,L,c8.aA bd,zbl.refl L,zP.aA bd⟩)
   have gj:(c.idx==(ix:Int))=Xd:=(by simp[d6]);have ce:=dD<|dg.out (fun t=>d6 t.2);clear ci d6;go_wp2;go_roundg (C-(ae+1));exact⟨ae+1,Wm,Wm,Gn,bd,ce⟩;omega
  have gi:(c.file==(fi:Int))=Xd:=by simp[ci]
  have ce:=dD<|dg.out (fun t=>ci t.1);clear ci;go_wp2;go_roundg (C-(ae+1));exact⟨ae+1,Wm,Wm,Gn,bd,ce⟩;omega
 have eg:=kD cx;have ec:ae=C:=Wm;have df:Xo (∀c∈m.ca,¬(c.file=(fi:Int)/\c.idx=(ix:Int))):=dD<|fun c co=>by
  obtain⟨j,am⟩:=Yd co;exact hs j c (by rw[ec,<-a5.out];exact(gS.1 am).1) am
 clear ec;have hh:=dD (c8.aA ez);have D:=hh.box.box;have jp:=D.c 1 rfl;have jq:=D.c 2 rfl;have jr:=D.c 3 rfl;have js:=D.c 4 rfl;have jt:=D.c 5 rfl;have ju:=D.c 6 rfl;have jv:=D.c 7 rfl;have f6:=D.c 8 rfl;have jw:=D.c 9 rfl;have S:=D.c 10 rfl;have h5:=D.c 11 rfl;clear D;have az:=zbj V m fi ix f i2 wr hh.rows.at (fun c co _=>(da c co).2.2.2.2) f0 fd gm;go_wp2_with fail;refine az.mono ?_;clear az jp jq jr js jt ju jv f6 jw S h5;rintro e g8⟨rfl,cw,i7⟩;have f8:=dD (ez.trans i7);clear i7;have cs:=zmR df.out;generalize zU m fi ix=q at cw cs;obtain⟨W,X,Y,Z,a0,a1,a2,a4,rfl⟩:=zch q cw;have fg:=dD cs;clear cw cs;simp only[pgc,mP,Ye];go_upto_region 8 with fail;obtain⟨F,bg⟩:=kA g8.heap.size;obtain⟨i0,bm⟩:=kB (g8.alloc (Xk #[U8 W,U8 X,U8 Y,U8 Z,U8 a0,U8 a1,U8 a2,U8 a4] 44));have h6:=gT bm f8;have j2:Xo (zt i0 F 44 (pgc [W,X,Y,Z,a0,a1,a2,a4])):=dD<|by rw[<-bm];exact zt.aE _ (pgc [W,X,Y,Z,a0,a1,a2,a4]) _ bg.symm
 have bf:Xo (hi<=F):=dD<|by rw[<-bg.out];exact(c8.aA f8).rows.hw
 have cb:Xo (w.heap.size<=F):=dD<|by rw[<-bg.out];exact bS f8.out
 have c4:Xo (b≠F):=dD<|by have:=c8.box.box.lt;have:=cb.out;omega
 have he:=dD (c8.aA h6);have ip:Xo (zP hi w i0):=zP.aA h6.out;rw[bm,bg.out];clear bm;have ej:=qw 2 he.out;go_wp2_with fail;refine ej.mono ?_;clear ej;rintro e j5⟨h3,iw,y,rfl,eq,cg,gy,jx,jy,yn,ib⟩;have fy:=dD eq;have ha:=dD (ip.trans (he.keeps cg));have ht:Xo (zt j5 F 44 (pgc [W,X,Y,Z,a0,a1,a2,a4])):=j2.beside cg (fun ak e=>by cases e;exact fun t=>c4.out t.symm);have dj:=dD ib;clear eq cg gy jx jy yn ib;go_upto_if 46 with fail
 go_cut[10,11] (fun gv jo d9=>∃(av:Bool)(q:List Int)(b8:Sli)(d3:List Int),gv=Xh av/\Xo (Mk w0 hi d9 b b8 d3 V m vt T)/\Xo (zt d9 F 44 (pgc q))/\Xo (q.length=8)/\Xo (zP hi w d9)/\Xo (zbl L d3)/\Xo (zqL m fi ix q av))
 case first=>
  by_cases f3:y=1
  ·have gn:(y==1)=Xc:=by simp[f3]
   clear f3;have ei:=zc5 fy.out;go_wp2_with fail;refine ei.mono ?_;clear ei;rintro e j6⟨ey,hd,ih,rfl,et,er,ch,eo⟩;have iy:=dD er;have iq:=dD (ha.trans (fy.keeps ch));have hu:Xo (zt j6 F 44 (pgc [W,X,Y,Z,a0,a1,a2,a4])):=ht.beside ch (fun ak e=>by cases e;exact fun t=>c4.out t.symm);have fw:=dD (dj.trans eo);have hw:=dD et;clear er ch eo et;go_wp2_with(refine zS rfl 44 (.tmp 9) (.tmp 48) rfl F rfl (pgc ih) rfl hu (by simp[pgc,hw.out]) zsd (qg _) ?_)
   intro jz dv cr _;have iz:=dD<|iy.page hu bf cr;have ir:=dD<|iq.own cr cb.out;have j3:=dD dv;clear dv cr;go_wp2;go_loopg[49] 8 (fun dr gx wr=>∃(i:Nat)(q:List Int),i<=8/\8-i<=dr/\gx=I6 i/\Xo (Mk w0 hi wr b ey hd V m vt T)/\Xo (zt wr F 44 (pgc q))/\Xo (q.length=8)/\Xo (zP hi w wr)/\Xo (znX q ix f.size i))
   exact⟨0,ih,nZ _,Wm,rfl,iz,j3,hw,ir,fun j am=>absurd am (nL _)⟩;obtain⟨i,q,jj,jg,rfl,au,ah,ai,cc,bx⟩:=hrel;by_cases bv:i<8
   ·have cy:(i:Int)<8:=Wm
    obtain⟨ik,f4⟩:∃ik,q[i]?=Xa ik:=⟨_,gE (Rx ai.out bv)⟩;have kb:=ah.box.c i (ze7 f4);have kc:=ah.box.f;have e9:=au.rows.at.fl;have f6:=au.box.box.c 8 rfl;obtain⟨_,_,b0,_,K⟩:=qa.rows e9;have ek:zaz wr V.fl.a m.fl:=by
     simp only[vJ]at b0;rw[b0.1];exact K
    have gl:V.fl.n=m.fl.length:=by
     simp only[vJ]at b0;exact b0.2.1
    obtain⟨gb,el,k4,k5,_,ef⟩:=ek fi f f0.out;obtain⟨gd,-⟩:=ef wr (zc.refl _);obtain⟨gf,bu⟩:=kB V.fl.n;have jf:(fi:Int)<(gf:Int):=by
     have:=(gS.1 f0).1;omega
    (try simp only[Sli.x]at f6);rw[el,bu]at f6;clear e9 b0 K ek gl el ef bu f4;by_cases co:f.size<=8*(ix:Int)+(i:Int)
    ·have gk:decide (f.size<=8*(ix:Int)+(i:Int))=Xc:=Si co
     have de:Xo (wr.grownBy (wr.setCell ⟨F,i,Xb⟩ (U8 0)) (Xa F)):=⟨rfl,rfl,rfl,by simp[World.setCell],fun k _ G=>Below.heap_setCell _ _ _ _ (fun e=>G (by rw[e]))⟩;have j4:Xo (zt (wr.setCell ⟨F,i,Xb⟩ (U8 0)) F 44 (pgc (q.set i 0))):=dD (by rw[zdH];exact ah.set i _);have g2:=dD<|au.page ah bf de.out;have ft:=dD<|cc.own de cb.out;have f7:Xo (znX (q.set i 0) ix f.size (i+1)):=show znX _ _ _ _ from bx.set (Rx ai.out bv);go_wp2;go_roundg (8-(i+1));exact⟨i+1,q.set i 0,Wm,Wm,Gn,g2,j4,(show(q.set i 0).length=8 by rw[Xt];exact ai),ft,f7⟩;omega
    have gk:decide (f.size<=8*(ix:Int)+(i:Int))=Xd:=Si co;have f7:=dD<|bx.next co;go_wp2;go_roundg (8-(i+1));exact⟨i+1,q,Wm,Wm,Gn,au,ah,ai,cc,f7⟩;omega
   have cy:¬(i:Int)<8:=Wm;have jd:i=8:=Wm;subst jd;have c5:Xo (zqL m fi ix q Xc):=dD<|⟨by rw[zpL f0.out];exact bx.all ai,fun e=>Bool.noConfusion e⟩;go_wp2;go_meet;exact⟨Xc,q,ey,hd,rfl,au,ah,ai,cc,fw,c5⟩
  have gn:(y==1)=Xd:=by simp[f3]
  clear f3;go_wp2;go_meet;exact⟨Xd,[W,X,Y,Z,a0,a1,a2,a4],h3,iw,rfl,fy,ht,rfl,ha,dj,fg⟩
 obtain⟨av,q,ex,fv,rfl,fz,g4,g6,fq,dk,c5⟩:=hcut;obtain⟨W,X,Y,Z,a0,a1,a2,a4,rfl⟩:=zch q g6.out;go_upto_region 16 with fail;obtain⟨N,i8⟩:∃N:Xn->Prop,N=fun u=>zt u F 44 (pgc [W,X,Y,Z,a0,a1,a2,a4]):=⟨_,rfl⟩;have x:Xo (∀u,N u↔zt u F 44 (pgc [W,X,Y,Z,a0,a1,a2,a4])):=dD<|fun u=>by rw[i8]
 clear i8;have a9:=(x _).2 (g4.aA (gW _));have cl:MkE w0 hi b w L V m vt T wc.drew:=⟨ex,fv,fz.aA (gW _),dk.out,fq.trans (zP.aA (gW _))⟩;have dz:=fun y:zg N=>((x _).1 y.holds).box.c 0 rfl;have e0:=fun y:zg N=>((x _).1 y.holds).box.c 1 rfl;have e3:=fun y:zg N=>((x _).1 y.holds).box.c 2 rfl;have e4:=fun y:zg N=>((x _).1 y.holds).box.c 3 rfl;have e5:=fun y:zg N=>((x _).1 y.holds).box.c 4 rfl;have e6:=fun y:zg N=>((x _).1 y.holds).box.c 5 rfl;have e7:=fun y:zg N=>((x _).1 y.holds).box.c 6 rfl;have e8:=fun y:zg N=>((x _).1 y.holds).box.c 7 rfl;have bn:Nonempty (zg N):=⟨⟨_,a9⟩⟩;refine zN (I:=N) 10 [(3,fun r=>∃B:Int,r=I6 B),(9,fun r=>r=I6 (-1)\/∃j:Nat,r=I6 (j:Int))] (fun u=>MkE w0 hi b w L V m vt T u) a9 cl z0 Kr rfl rfl Dc (Sb ⟨_,0,rfl⟩ ⟨_,.inl rfl⟩) Kr ?_;simp only[Xu,Xv];iterate 3 refine zj ?_
 refine zC rfl rfl (fun _ u=>MkE w0 hi b w L V m vt T u) (fun w' z ck=>?_) (fun d8 ao=>?_);·obtain⟨b8,d3,bq,bp,bo⟩:=ck;refine zJ.call [Xj (Xa ⟨b,0,Xb⟩),I6 2] rfl func22 rfl rfl rfl ?_;refine(qw 2 bq).mono ?_;rintro e h4⟨gz,iv,B,rfl,gu,ds,_,_,_,_,gs⟩;exact⟨_,rfl,(x _).2 (((x _).1 z).beside ds (fun ak e=>by cases e;exact fun t=>c4.out t.symm)),⟨B,rfl⟩,gz,iv,gu,bp.trans gs,bo.trans (bq.keeps ds)⟩
 obtain⟨B,rfl⟩:=ao;refine Uq ?_;iterate 5 refine zj ?_
 refine zC rfl rfl (fun r u=>(r=I6 (-1)/\MkE w0 hi b w L V m vt T u)\/∃(j:Nat)(q:Fr),r=I6 (j:Int)/\m.fs[j]?=Xa q/\q.r=0/\MkE w0 hi b w L V {m with fs:=m.fs.set j ⟨⟨W,X,Y,Z,a0,a1,a2,a4⟩,1,B==1,av,(fi:Int),(ix:Int)⟩} vt T u) (fun w' z ck=>?_) (fun d8 ao=>?_)
 ·obtain⟨b8,d3,bq,bp,bo⟩:=ck;refine zJ.call [Xj (Xa ⟨b,0,Xb⟩),Xi (frv ⟨⟨W,X,Y,Z,a0,a1,a2,a4⟩,1,B==1,av,(fi:Int),(ix:Int)⟩).toArray] rfl func97 rfl rfl rfl ?_;refine(zhB ⟨⟨W,X,Y,Z,a0,a1,a2,a4⟩,1,B==1,av,(fi:Int),(ix:Int)⟩ bq ⟨fun e=>by have:(fi:Int)=-1:=e;omega,fun _ _=>c5.out⟩).mono ?_;rintro e h4(⟨rfl,cj⟩|⟨j,q,rfl,d7,bw,cj⟩);·have cv:=cj;obtain⟨_,_,_,_,gr⟩:=cv;exact⟨_,rfl,(x _).2 (gr.1 F _ _ ((x _).1 z) (zjK bf)),.inl rfl,.inl ⟨rfl,cj.trans bp bo⟩⟩
  have cv:=cj;obtain⟨_,_,_,_,gr⟩:=cv;exact⟨_,rfl,(x _).2 (gr.1 F _ _ ((x _).1 z) (zjK bf)),.inr ⟨j,rfl⟩,.inr ⟨j,q,rfl,d7,bw,cj.trans bp bo⟩⟩
 rcases ao with rfl|⟨j,rfl⟩
 ·refine Uq ?_;refine qn fun g9 cm ax=>?_;have im:Xo (MkE w0 hi b w L V m vt T g9):=dD<|by
   rcases ax with⟨_,t⟩|⟨j,q,e,_⟩;·exact t
   simp only[Value.int.injEq,true_and]at e;omega
  clear ax cm a9 cl bn dz e0 e3 e4 e5 e6 e7 e8;go_wp2;go_ret;exact .inl ⟨rfl,im⟩
 refine Uq ?_;refine qn fun g9 cm ax=>?_;obtain⟨q,d7,bw,b9,dl,es,ep,en⟩:∃q:Fr,m.fs[j]?=Xa q/\q.r=0/\MkE w0 hi b w L V {m with fs:=m.fs.set j ⟨⟨W,X,Y,Z,a0,a1,a2,a4⟩,1,B==1,av,(fi:Int),(ix:Int)⟩} vt T g9:=by
  rcases ax with⟨e,_⟩|⟨jm,q,e,d7,bw,cj⟩;·simp only[Value.int.injEq,true_and]at e;omega
  simp only[Value.int.injEq,true_and]at e;obtain rfl:j=jm:=Wm;exact⟨q,d7,bw,cj⟩
 have io:=dD d7;have fl:=dD bw;have g2:=dD es;have ft:=dD en;have fx:=dD ep;clear ax cm a9 cl bn d7 bw es ep en dz e0 e3 e4 e5 e6 e7 e8;have jk:¬(j:Int)<0:=Wm;go_wp2;go_loopg[13] C (fun dr cz wr=>∃d:Nat,d<=C/\C-d<=dr/\cz=I6 d/\Xo (Mk w0 hi wr b b9 dl V {m with fs:=m.fs.set j ⟨⟨W,X,Y,Z,a0,a1,a2,a4⟩,1,B==1,av,(fi:Int),(ix:Int)⟩} vt T)/\Xo (zP hi w wr)/\Xo (∀(i:Nat)c,i<d->m.ca[i]?=Xa c->decide (z1 c<z1 ⟨(fi:Int),(ix:Int),(j:Int)⟩)=Xc))
 exact⟨0,nZ _,Wm,rfl,g2,ft,fun i c hi=>absurd hi (nL _)⟩;obtain⟨d,ay,aa,rfl,dm,fu,dn⟩:=hrel;have S:=dm.box.box.c 10 rfl;(try simp only[Sli.x]at S);rw[c9.out,ag.out]at S;go_upto_region 20 with fail;go_cut[13,116] (fun cz ev d9=>cz=I6 d/\∃ew:Bool,ev=Xh ew/\Xo (Mk w0 hi d9 b b9 dl V {m with fs:=m.fs.set j ⟨⟨W,X,Y,Z,a0,a1,a2,a4⟩,1,B==1,av,(fi:Int),(ix:Int)⟩} vt T)/\Xo (zP hi w d9)/\Xo (ew=Xc->d<C/\∀c,m.ca[d]?=Xa c->decide (z1 c<z1 ⟨(fi:Int),(ix:Int),(j:Int)⟩)=Xc)/\Xo (ew=Xd->∀B,m.ca[d]?=Xa B->decide (z1 B<z1 ⟨(fi:Int),(ix:Int),(j:Int)⟩)=Xd))
 case first=>
  by_cases ab:d<C
  ·have R:=kC ab
   obtain⟨c,bs⟩:∃c,Xo (m.ca[d]?=Xa c):=⟨_,gE (Rx a5.out ab)⟩;obtain⟨gc,rfl,ed⟩:=dc.out wr ⟨b9,dl,{m with fs:=m.fs.set j ⟨⟨W,X,Y,Z,a0,a1,a2,a4⟩,1,B==1,av,(fi:Int),(ix:Int)⟩},rfl,dm⟩ d c bs.out;obtain⟨gd,i4,ge⟩:=ed wr (zc.refl _);obtain⟨k0,k1,k2,k3,-⟩:=da.out c (mG bs);clear ed ge;by_cases G:100*c.file+c.idx<100*(fi:Int)+(ix:Int)
   ·have cu:decide (100*c.file+c.idx<100*(fi:Int)+(ix:Int))=Xc:=Si G
    have ea:decide ((d:Int)<(C:Int))=Xc:=Si R;have ar:Xo (∀B,m.ca[d]?=Xa B->decide (z1 B<z1 ⟨(fi:Int),(ix:Int),(j:Int)⟩)=Xc):=dD<|fun B ap=>by
     rw[bs.out]at ap;cases ap;exact cu
    clear G;go_quiet(fail);go_wp2;go_meet;exact⟨rfl,Xc,rfl,dm.aA (show Below _ _ _ from bD (bR _ _) _),fu.trans (zP.aA (show Below _ _ _ from bD (bR _ _) _)),fun _=>⟨ab,ar⟩,(fun t=>nomatch t)⟩
   have cu:decide (100*c.file+c.idx<100*(fi:Int)+(ix:Int))=Xd:=Si G;have ea:decide ((d:Int)<(C:Int))=Xc:=Si R;have ar:Xo (∀B,m.ca[d]?=Xa B->decide (z1 B<z1 ⟨(fi:Int),(ix:Int),(j:Int)⟩)=Xd):=dD<|fun B ap=>by
    rw[bs.out]at ap;cases ap;exact cu
   clear G;go_quiet(fail);go_wp2;go_meet;exact⟨rfl,Xd,rfl,dm.aA (show Below _ _ _ from bD (bR _ _) _),fu.trans (zP.aA (show Below _ _ _ from bD (bR _ _) _)),(fun t=>nomatch t),fun _=>ar.out⟩
  have R:=kD ab;have ea:decide ((d:Int)<(C:Int))=Xd:=Si R;have ar:Xo (∀B,m.ca[d]?=Xa B->decide (z1 B<z1 ⟨(fi:Int),(ix:Int),(j:Int)⟩)=Xd):=dD<|fun B ap=>by
   have:=(gS.1 ap).1;have:=a5.out;omega
  go_quiet(fail);go_wp2;go_meet;exact⟨rfl,Xd,rfl,dm.aA (show Below _ _ _ from bD (bR _ _) _),fu.trans (zP.aA (show Below _ _ _ from bD (bR _ _) _)),(fun t=>nomatch t),fun _=>ar.out⟩
 clear S;obtain⟨rfl,ew,rfl,d4,hb,fp,fo⟩:=hcut;cases ew with
 |true=>
  obtain⟨ab,az⟩:=fp.out rfl;have g3:Xo (∀(i:Nat)c,i<d+1->m.ca[i]?=Xa c->decide (z1 c<z1 ⟨(fi:Int),(ix:Int),(j:Int)⟩)=Xc):=dD<|fun i aj ji al=>by
   by_cases e:i=d;·subst e;exact az aj al
   exact dn i aj Wm al
  clear az;go_wp2;go_roundg (C-(d+1));exact⟨d+1,Wm,Wm,Gn,d4,hb,g3⟩;omega
 |false=>
  have fn:=dD<|fo.out rfl;have bh:Xo (ZD m.ca ⟨(fi:Int),(ix:Int),(j:Int)⟩=m.ca.take d++[⟨(fi:Int),(ix:Int),(j:Int)⟩]++m.ca.drop d):=dD<|by
   obtain⟨jb,jc⟩:=zjx (p:=fun ja=>decide (z1 ja<z1 ⟨(fi:Int),(ix:Int),(j:Int)⟩)) (l:=m.ca) (k:=d) dn fn (Rx a5.out ay);unfold ZD;rw[jb,jc];simp
  go_upto_region 22 with fail;obtain⟨M,f9⟩:=kA (m.ca.take d);obtain⟨bz,ff⟩:=kA (m.ca.drop d);rw[f9.out,ff.out]at bh;have H:Xo (M.length=d):=dD (by rw[<-f9.out,List.length_take,a5.out];omega);have fh:Xo (bz.length=C-d):=dD (by rw[<-ff.out,List.length_drop,a5.out]);obtain⟨P,bb⟩:∃P:Ca,Xo (P=⟨(fi:Int),(ix:Int),(j:Int)⟩):=⟨_,rfl⟩;rw[<-bb.out]at bh;obtain⟨d5,fk⟩:=kA ((M++[P]++bz).length);obtain⟨N,x⟩:=Ww fun u=>zc wc u;have a9:=(x _).2 (gW _);have bn:Nonempty (zg N):=⟨⟨_,a9⟩⟩;have ac:∀y:zg N,y.world.cell? ⟨b,10,Xb⟩=Xa (O a8 C V.ca.c):=fun y=>by
   have:=(d4.box.box.aA ((x _).1 y.holds)).c 10 rfl;(try simp only[Sli.x]at this);rw[c9.out,ag.out]at this;exact this
  have di:Xo (zs qX wc (O a8 C V.ca.c) m.ca):=dD<|by
   have:=d4.rows.ca.at;(try dsimp only at this);rw[c9.out,ag.out]at this;exact this
  have b7:=fun cf=>zoe (w:=cf) (a:=a8) (n:=C) (c:=V.ca.c) (k:=d) (nT ay db);have K:=fun cf=>zoh (w:=cf) (a:=a8) (n:=C) (c:=V.ca.c) (k:=d) ay;obtain⟨i5,cp⟩:=kB ((a8:Option Addr).map fun gb=>if V.ca.c=d then gb else gb.add (d*3));have fm:Xo (zs qX wc (O a8 d V.ca.c) M):=dD<|Ry f9.out (di.upto ay);have dh:Xo (zs qX wc (O i5 (C-d) (V.ca.c-d)) bz):=dD (by rw[<-ff.out,<-cp];exact di.from ay db.out);rw[cp]at K;clear cp;obtain⟨jn,fj⟩:=kA (C-d);obtain⟨j9,fe⟩:=kA (V.ca.c-d);rw[fj.out,fe.out]at K dh;refine qB (I:=N) 27 [(1,⟨fun r=>∃ak,r=O (Xa ⟨ak,0,Xb⟩) 0 0,fun r w'=>zb qX wc.heap.size w' r [],fun p q=>zc p q,fun _=>True⟩),(9,⟨fun r=>(∃a c,r=O a d c)/\(d=0->∃ak,r=O (Xa ⟨ak,0,Xb⟩) 0 0),fun r w'=>zb qX wc.heap.size w' r M,fun p q=>zc p q,fun _=>True⟩),(14,⟨fun r=>∃ak,r=O (Xa ⟨ak,0,Xb⟩) 1 1,fun r w'=>zb qX wc.heap.size w' r [P],fun p q=>zc p q,fun _=>True⟩),(15,⟨fun r=>∃a c,r=O a (d+1) c,fun r w'=>zb qX wc.heap.size w' r (M++[P]),fun p q=>(∀u m,m.length<=d\/m.length<=1->zb qX wc.heap.size p u m->zb qX wc.heap.size q u m),fun _=>True⟩),(23,⟨fun r=>∃a c,r=O a d5 c,fun r w'=>zb qX wc.heap.size w' r (M++[P]++bz),fun p q=>(∀u m,m.length<=d+1->zb qX wc.heap.size p u m->zb qX wc.heap.size q u m),fun _=>True⟩)] a9 z0 Kr rfl rfl Dc ?hS ?hp ?hpre ?hpr0 ?_;case hS=>
   intro B ap;simp only[mC,nM,or_false]at ap;rcases ap with rfl|rfl|rfl|rfl|rfl;·exact⟨_,0,rfl⟩
   ·by_cases bi:d=0
    ·exact⟨O (Xa ⟨0,0,Xb⟩) 0 0,⟨Xa ⟨0,0,Xb⟩,0,by rw[bi]⟩,fun _=>⟨0,rfl⟩⟩
    exact⟨O Xb d 0,⟨_,_,rfl⟩,fun t=>absurd t bi⟩
   ·exact⟨_,0,rfl⟩
   ·exact⟨_,Xb,0,rfl⟩
   exact⟨_,Xb,0,rfl⟩
  case hp=>
   intro k s j ii G am an du r p q g h;have b5:=zB G;have Q:=zB am;clear G am;simp only[mC,pJ,nM,or_false]at b5 Q;rcases b5 with⟨rfl,rfl⟩|⟨rfl,rfl⟩|⟨rfl,rfl⟩|⟨rfl,rfl⟩|⟨rfl,rfl⟩
   ·rcases Q with⟨rfl,rfl⟩|⟨rfl,rfl⟩|⟨rfl,rfl⟩|⟨rfl,rfl⟩|⟨rfl,rfl⟩
    ·exact absurd rfl an
    ·exact zb.aA h g
    ·exact zb.aA h g
    ·exact g r [] (.inl (nZ _)) h
    exact g r [] (nZ _) h
   ·rcases Q with⟨rfl,rfl⟩|⟨rfl,rfl⟩|⟨rfl,rfl⟩|⟨rfl,rfl⟩|⟨rfl,rfl⟩
    ·exact zb.aA h g
    ·exact absurd rfl an
    ·exact zb.aA h g
    ·exact g r M (.inl (by rw[H.out];exact nR _)) h
    exact g r M (by rw[H.out];omega) h
   ·rcases Q with⟨rfl,rfl⟩|⟨rfl,rfl⟩|⟨rfl,rfl⟩|⟨rfl,rfl⟩|⟨rfl,rfl⟩
    ·exact zb.aA h g
    ·exact zb.aA h g
    ·exact absurd rfl an
    ·exact g r [P] (.inr (nR _)) h
    exact g r [P] Sm h
   ·rcases Q with⟨rfl,rfl⟩|⟨rfl,rfl⟩|⟨rfl,rfl⟩|⟨rfl,rfl⟩|⟨rfl,rfl⟩
    ·exact zb.aA h g
    ·exact zb.aA h g
    ·exact zb.aA h g
    ·exact absurd rfl an
    exact g r (M++[P]) (by rw[lA,H.out];simp) h
   rcases Q with⟨rfl,rfl⟩|⟨rfl,rfl⟩|⟨rfl,rfl⟩|⟨rfl,rfl⟩|⟨rfl,rfl⟩;·exact zb.aA h g
   ·exact zb.aA h g
   ·exact zb.aA h g
   ·exact Bool.noConfusion (du.symm.trans (show _=Xc by kernel_rfl))
   exact absurd rfl an
  case hpre=>
   intro j ii k s am G an p q g b6;have Q:=zB am;clear G am;simp only[mC,pJ,nM,or_false]at Q;rcases Q with⟨rfl,rfl⟩|⟨rfl,rfl⟩|⟨rfl,rfl⟩|⟨rfl,rfl⟩|⟨rfl,rfl⟩<;>trivial
  case hpr0=>
   intro k ii G;have b5:=zB G;clear G;simp only[mC,pJ,nM,or_false]at b5;rcases b5 with⟨rfl,rfl⟩|⟨rfl,rfl⟩|⟨rfl,rfl⟩|⟨rfl,rfl⟩|⟨rfl,rfl⟩<;>trivial
  simp only[Xu,Xv];refine zr ?_;refine zR rfl rfl (fun w' z b6 aw=>?_) (fun d8 ao=>?_);·have U:=(x _).1 z;refine zJ.step (v:=O (Xa ⟨w'.heap.size,0,Xb⟩) 0 0) (w':=w'.alloc (Xk #[] 108)) (by simp only[execOp];go_simp) ⟨(x _).2 (U.trans (za _ _)),za _ _,⟨_,rfl⟩,(zb.made qX w').base (bS U)⟩
  obtain⟨i6,rfl⟩:=ao;refine Uq ?_;refine zr ?_;refine Qu (.tmp 121) ⟨b,0,Xb⟩ rfl rfl rfl rfl ?_;refine Uq ?_;iterate 5 refine zr ?_
  refine zR rfl rfl (fun w' z b6 aw=>?_) (fun d8 ao=>?_)
  ·have U:=(x _).1 z;have bi:zb qX wc.heap.size w' (O (Xa ⟨i6,0,Xb⟩) 0 0) []:=aw 1 Kr;obtain⟨br,af,A,aq,aa,f4⟩:=ZQ (E:=qX) (w:=w') 38 bi (O a8 d V.ca.c) M (fm.aA U) (bS U);obtain⟨bt,aj,rfl⟩:=aq.form;refine zJ.step (v:=O bt M.length aj) (w':=af) ?_ ⟨(x _).2 (U.trans aa),aa,⟨⟨bt,aj,by rw[H.out]⟩,fun t=>⟨i6,f4 (eN (Rx H.out t))⟩⟩,aq⟩;clear ac b7 K;simp only[execOp,resolve,invoke,builtin,pure_bind,Xs,Xx,Yi,mP,Ye];exact Eq.trans (congrArg (fun eu=>Result.andThen eu (fun a w'=>Result.ok (Next.value a) w')) A) rfl
  obtain⟨⟨i1,i3,rfl⟩,gp⟩:=ao;refine Uq ?_;iterate 4 refine zr ?_
  refine zR rfl rfl (fun w' z b6 aw=>?_) (fun d8 ao=>?_);·have U:=(x _).1 z;have eh:=(zkI w' P).base (bS U);rw[bb.out]at eh;refine zJ.step (v:=O (Xa ⟨w'.heap.size,0,Xb⟩) 1 1) (w':=w'.alloc (Xk #[I6 (fi:Int),I6 (ix:Int),I6 (j:Int)] 108)) (by clear ac b7 K;simp only[execOp];go_simp) ⟨(x _).2 (U.trans (za _ _)),za _ _,⟨_,rfl⟩,Rx bb.out eh⟩
  obtain⟨f2,rfl⟩:=ao;refine Uq ?_;refine zR rfl rfl (fun w' z b6 aw=>?_) (fun d8 ao=>?_)
  ·have U:=(x _).1 z;have f5:zb qX wc.heap.size w' (O i1 d i3) M:=aw 9 Kr;have ic:zb qX wc.heap.size w' (O (Xa ⟨f2,0,Xb⟩) 1 1) [P]:=aw 14 Kr;have gq:∃br af,(Builtin.append_ #[38,38] 38 #[O i1 d i3,O (Xa ⟨f2,0,Xb⟩) 1 1]).run prog w'=.ok br af/\zb qX wc.heap.size af br (M++[P])/\zc wc af/\∀u m,m.length<=d\/m.length<=1->zb qX wc.heap.size w' u m->zb qX wc.heap.size af u m:=by
    by_cases bi:d=0
    ·have em:M=[]:=eN (Rx H.out bi)
     obtain⟨ak,eb⟩:=gp bi;rw[eb,em]at f5;rw[eb,em];obtain⟨br,af,A,aq,aa,_⟩:=ZQ (E:=qX) (w:=w') 38 f5 (O (Xa ⟨f2,0,Xb⟩) 1 1) [P] ic.at (bS U);exact⟨br,af,A,aq,U.trans aa,fun u m _ t=>t.aA aa⟩
    obtain⟨br,af,A,aq,ct,G⟩:=qj (E:=qX) (w:=w') 38 f5 (O (Xa ⟨f2,0,Xb⟩) 1 1) [P] ic.at (by rw[H.out];show(d+1)*24<=_;omega) (bS U);refine⟨br,af,A,aq,zW U ct (fun ak cq=>(f5.lt ak cq).1),fun u m ia t=>G u m ?_ t⟩;rw[H.out];omega
   obtain⟨br,af,A,aq,aa,G⟩:=gq;obtain⟨bt,aj,rfl⟩:=aq.form;refine zJ.step (v:=.slice bt (M++[P]).length aj) (w':=af) ?_ ⟨(x _).2 aa,G,⟨bt,aj,by rw[lA,H.out];rfl⟩,aq⟩;clear ac b7 K;simp only[execOp,resolve,invoke,builtin,pure_bind,Xs,Xx,Yi,mP,Ye];exact Eq.trans (congrArg (fun eu=>Result.andThen eu (fun a w'=>Result.ok (Next.value a) w')) A) rfl
  obtain⟨j7,j8,rfl⟩:=ao;refine Uq ?_;refine zr ?_;refine Qu (.tmp 135) ⟨b,0,Xb⟩ rfl rfl rfl rfl ?_;refine Uq ?_;iterate 5 refine zr ?_
  refine zR rfl rfl (fun w' z b6 aw=>?_) (fun d8 ao=>?_)
  ·have U:=(x _).1 z;have ie:zb qX wc.heap.size w' (O j7 (d+1) j8) (M++[P]):=aw 15 Kr;have ee:(M++[P]).length=d+1:=(by rw[lA,H.out];rfl);obtain⟨br,af,A,aq,ct,G⟩:=qj (E:=qX) (w:=w') 38 ie (O i5 jn j9) bz (dh.aA U) (by rw[ee,fh.out];show(d+1+(C-d))*24<=_;omega) (bS U);obtain⟨bt,aj,rfl⟩:=aq.form;refine zJ.step (v:=.slice bt (M++[P]++bz).length aj) (w':=af) ?_ ⟨(x _).2 (zW U ct (fun ak cq=>(ie.lt ak cq).1)),(fun u m ia t=>G u m (Rx ee ia) t),⟨bt,aj,by rw[fk.out]⟩,aq⟩;clear ac b7 K;simp only[execOp,resolve,invoke,builtin,pure_bind,Xs,Xx,Yi,mP,Ye];exact Eq.trans (congrArg (fun eu=>Result.andThen eu (fun a w'=>Result.ok (Next.value a) w')) A) rfl
  obtain⟨dp,dq,rfl⟩:=ao;refine Uq ?_;refine Qu (.tmp 119) ⟨b,0,Xb⟩ rfl rfl rfl rfl ?_;refine Uq ?_;iterate 2 refine zr ?_
  refine Zb fun ga dt aw=>?_;have ig:=aw 23;have gh:=(x _).1 dt;have f1:=dD (d4.aA gh);have it:=dD (hb.trans (zP.aA gh));have j1:=dD ig;have fb:=dD<|bS d4.gr;have fc:=dD d4.box.box.lt;clear ig gh aw dt ac b7 K bn a9;have ij:=f1.box.box.c 10 rfl;(try simp only[Sli.x]at ij);rw[c9.out,ag.out]at ij;have ka:=f1.box.box.f;have be:Xo (ga.grownBy (ga.setCell ⟨b,10,Xb⟩ (O dp d5 dq)) (Xa b)):=⟨rfl,rfl,rfl,by simp[World.setCell],fun k _ G=>Below.heap_setCell _ _ _ _ (fun e=>G (by rw[e]))⟩;have j0:Xo (Mk w0 hi (ga.setCell ⟨b,10,Xb⟩ (O dp d5 dq)) b b9 dl {V with ca:=⟨dp,d5,dq⟩} {m with fs:=m.fs.set j ⟨⟨W,X,Y,Z,a0,a1,a2,a4⟩,1,B==1,av,(fi:Int),(ix:Int)⟩,ca:=ZD m.ca ⟨(fi:Int),(ix:Int),(j:Int)⟩} vt T):=dD<|by
   have bj:=f1.out;refine⟨zd bj.gr be bj.hb,bj.hb,bj.box.set 10 _,bj.lr,bj.lc,bj.lb,?_⟩;have bw:=bj.rows.var be bj.box be.size (.inl rfl);have:=bw.setCa (s:=⟨dp,d5,dq⟩) (ca:=M++[P]++bz) ((j1.setCell (by have:=fc.out;simp;omega) _).base fb);rw[bb.out]at this bh;rw[bh.out];exact this
  have iu:=dD (it.trans (f1.keeps be));go_wp2;go_ret;exact .inr (.inr ⟨j,rfl,q,_,_,_,⟨dp,d5,dq⟩,io,fl,df,b9,dl,j0,fx,iu⟩)
theorem zn8(f:Nat->En)(n:Nat)(e):tab (q6 f n e)=(tab f).set n e:=(zit f n e).symm
theorem zbW(f:Nat->En)(a:k<64)(e):zcS.enc (q6 f k e)=splice (zcS.enc f) (k*3) (env e):=by show qp (tab (q6 f k e))=splice (qp (tab f)) (k*3) (env e);rw[zn8];exact(Q8 (enc:=env) (k:=3) e rfl (tab f) k (fun _ _=>rfl) (Rx QZ a)).symm
theorem zjF{key:Ca->Int}:∀{l:List Ca}{lo N:Nat},l.Pairwise (fun a b=>key a<key b)->(∀c∈l,(lo:Int)<=key c/\key c<(N:Int))->l.length<=N-lo
 |[],_,_,_,_=>nZ _
 |c::l,lo,N,h,e=>by
  obtain⟨g,d⟩:=Yy.1 h;have f:=e c Sm
  have f:=zjF (lo:=(key c).toNat+1) (N:=N) d (fun d f=>by
   have:=g d f;have:=e d (by simp[f])
   omega)
  simp only[Yp];omega
section
variable{m:Ma}{T:List (Nat->En)}
theorem qq.bY(h:qq m T):(∀c∈m.ca,0<=c.file/\c.file<=1000/\0<=c.idx/\c.idx<=1000/\0<=c.fr/\c.fr<m.fs.length)/\m.ca.length<=1000/\∀c∈m.ca,∃(k:Nat)(fr:Fr),c.fr=(k:Int)/\m.fs[k]?=Xa fr/\fr.f=c.file/\fr.x=c.idx:=by
 obtain⟨i,p,j⟩:=zo.1 h.ca;have e:∀c∈m.ca,(0<=c.file/\c.file<5/\0<=c.idx/\c.idx<12/\0<=c.fr/\c.fr<m.fs.length)/\(zZ m c.fr).f=c.file/\(zZ m c.fr).x=c.idx:=fun c a=>by
  have b:=i c a;unfold caE at b;split at b;·cases b
  rename_i r
  split at b;·cases b
  rename_i n
  have q:=h.cG (file:=c.file) Wm Wm;refine⟨Wm,?_,?_⟩;·grind
  grind
 refine⟨fun c a=>?_,?_,fun c a=>?_⟩;·grind
 ·refine nT (zjF (key:=z1) (lo:=0) (N:=1000) j fun c a=>?_) (nR _)
  have:=(e c a).1;unfold z1;omega
 obtain⟨s,f,g⟩:=e c a;have d:c.fr.toNat<m.fs.length:=Wm;have l:zZ m c.fr=m.fs[c.fr.toNat]:=by
  unfold zZ;rw[gD,gE d];rfl
 rw[l]at f g;exact⟨c.fr.toNat,m.fs[c.fr.toNat],Wm,gE d,f,g⟩
theorem qq.alone(h:qq m T){n:Nat}(a:m.sp[k]?=Xa s)(g:(zl s.aC n).is=Xc):-1<=(zl s.aC n).file/\0<=(zl s.aC n).page/\(zl s.aC n).page<=1000/\((zl s.aC n).file<0->(zl s.aC n).sh=Xd):=by have b:=(h.aT s (mG a)).1;have f:=qU.1 b;obtain⟨i,c,d,b,e⟩:=Qs g;have a:=f.2.all c (mG d);rw[e];unfold jD at a;unfold z5;have b:=qG.1 b;grind
end
section
variable{w0 w w':Xn}{hi b:Nat}{vl:Sli}{L:List Int}{V:MaV}{m:Ma}{vt:Sli}{T:List (Nat->En)}
theorem Mk.bF(h:Mk w0 hi w b vl L V m vt T)(c:(V.f.x).ownBlock=Xa k)(a:w.grownBy w' (Xa k))(i:w'.heap.size=w.heap.size){fs:List Fr}(f:zb qy w0.heap.size w' (V.f.x) fs)(d:zfz {m with fs:=fs}):Mk w0 hi w' b vl L V {m with fs:=fs} vt T/\zP hi w w':=by refine⟨⟨zd h.gr a (h.rows.fs.lt k c).1,h.hb,h.box.beside a (fun g e=>by cases e;exact h.rows.fs.ne h.box Dc k c),h.lr,h.lc,h.lb,h.rows.bF c a i f d⟩,?_⟩;obtain⟨d,d⟩:=h.rows.fs.obj c;exact zP.kind a d (fun _ a=>absurd rfl a.2.1)
theorem Mk.cC(h:Mk w0 hi w b vl L V m vt T)(c:(V.s.x).ownBlock=Xa k)(a:w.grownBy w' (Xa k))(i:w'.heap.size=w.heap.size){d:List Int}(f:zb slE w0.heap.size w' (V.s.x) d):Mk w0 hi w' b vl L V {m with sl:=d} vt T/\zP hi w w':=by refine⟨⟨zd h.gr a (h.rows.sl.lt k c).1,h.hb,h.box.beside a (fun g e=>by cases e;exact h.rows.sl.ne h.box Dc k c),h.lr,h.lc,h.lb,h.rows.cC c a i f⟩,?_⟩;obtain⟨d,d⟩:=h.rows.sl.obj c;exact zP.kind a d (fun _ a=>absurd rfl a.2.2.1)
theorem Mk.bQ(h:Mk w0 hi w b vl L V m vt T)(c:(vt.x).ownBlock=Xa k)(a:w.grownBy w' (Xa k))(i:w'.heap.size=w.heap.size){d:List (Nat->En)}(f:zb zcS w0.heap.size w' (vt.x) d):Mk w0 hi w' b vl L V m vt d/\zP hi w w':=by refine⟨⟨zd h.gr a (h.rows.tt.lt k c).1,h.hb,h.box.beside a (fun g e=>by cases e;exact h.rows.tt.ne h.box Dc k c),h.lr,h.lc,h.lb,h.rows.bQ c a i f⟩,?_⟩;obtain⟨d,d⟩:=h.rows.tt.obj c;exact zP.kind a d (fun _ a=>absurd rfl a.2.2.2.2.2.2.2.1)
theorem QU(h:zm k w A r){g:Nat}(a:A.ownBlock=Xa g):k<=g/\∃cs,w.heap[g]?=Xa (Xk cs 44 (0,0)):=by
 rcases h.1.2 with⟨rfl,_⟩|⟨v,r,r,rfl,r,r,_⟩;·cases a
 simp only[Value.ownBlock,Option.some.injEq]at a;grind
theorem Mk.setSb(h:Mk w0 hi w b vl L V m vt T)(c:(V.sb.x).ownBlock=Xa k)(a:w.grownBy w' (Xa k))(i:w'.heap.size=w.heap.size)(f:zm w0.heap.size w' (V.sb.x) r):Mk w0 hi w' b vl L V {m with sb:=r} vt T/\zP hi w w':=by
 obtain⟨e,r,r⟩:=QU h.rows.sb c;refine⟨⟨zd h.gr a e,h.hb,h.box.beside a (fun g e=>?_),h.lr,h.lc,h.lb,h.rows.setSb r c a i f⟩,zP.kind a r (fun p a=>?_)⟩
 ·cases e;intro e;subst e;have r:w.heap[b]?=_:=h.box;grind
 have:=a.2.2.2.2.2.2.2.2 rfl;have:=h.rows.bI k c;omega
end
theorem zeZ(l:List Xq)(h:k<l.length)(u):splice l k [u]=l.set k u:=by rw[List.set_eq_take_append_cons_drop,kE h];simp[splice]
theorem zb.box(h:zb E k w A y)(v:A.ownBlock=Xa b):∃cs,zt w b E.ty cs:=by obtain⟨cs,a⟩:=h.obj v;exact⟨cs.toList,by unfold zt;rw[a]⟩
theorem zb.bL(h:zb E k w A y)(v:A.ownBlock=Xa b):∀j,w.frozen? ⟨b,j,Xb⟩=Xd:=by obtain⟨a,a⟩:=h.box v;exact a.box.f
theorem zb.cell{g:Nat}{l:List α}(h:zb E p w A l){o:Nat}(c:A.ownBlock=Xa g){x y:α}(f:l[k]?=Xa x){u:Xq}(s:E.enc y=(E.enc x).set o u)(r:o<E.k):
  zb E p (w.setCell ⟨g,k*E.k+o,Xb⟩ u) A (l.set k y)/\w.grownBy (w.setCell ⟨g,k*E.k+o,Xb⟩ u) (Xa g)/\(w.setCell ⟨g,k*E.k+o,Xb⟩ u).heap.size=w.heap.size:=by
 refine⟨⟨?_,Rx Xt h.2⟩,⟨rfl,rfl,rfl,by simp[World.setCell],fun j _ a=>Below.heap_setCell _ _ _ _ (fun e=>a (by rw[e]))⟩,by simp[World.setCell]⟩;have d:=(gS.1 f).1;refine⟨by rw[Xt,qe,Xt],?_⟩;rcases h.1.2 with⟨rfl,_⟩|⟨e,b,a,rfl,h,i,j,m,n,v⟩;·cases c
 simp only[Value.ownBlock,Option.some.injEq]at c;subst c;have q:zt w e E.ty a.toList:=by unfold zt;rw[i]
 have c:=q.set (k*E.k+o) u;refine .inr ⟨e,b,(a.toList.set (k*E.k+o) u).toArray,by rw[Xt],h,c,Rx Xt j,m,Si n,?_⟩;rw[Xt,List.toList_toArray,List.take_set,v,<-zeZ _ ?_ u]
 ·refine Ju o [u] (y:=y) ?_ (by simp;omega) l k f
  rw[s,zeZ _ (by rw[E.len];exact r)]
 rw[qe];have:(k+1)*E.k<=l.length*E.k:=Yj _ d;grind
theorem JD:Loc hi k 67:=⟨Dc,Dc,Dc,Dc,Dc,Dc,Dc,Dc,fun h=>absurd h Dc⟩
theorem qq.refs(h:qq m T)(a:m.fs[k]?=Xa Y):0<=Y.r/\Y.r<=2000:=by have b:=(h.cf k Y a).1;have a:=zan T 1 k;have a:zL m.ca k<=m.ca.length:=Yb;have a:=h.bY.2.1;have a:=h.tl;have a:=h.aI;omega
def Ent(w0:Xn)(hi b:Nat)(w:Xn)(L:List Int)(m:Ma)(vt:Sli)(T:List (Nat->En))(p n:Nat)(f:Nat->En)(w':Xn):Prop:=∃vl' L' V' m' T',Mk w0 hi w' b vl' L' V' m' vt T'/\zbl L L'/\zP hi w w'/\qq m' T'/\(m'.sp=m.sp/\m'.fl=m.fl/\m'.aB=m.aB/\m'.fs.length=m.fs.length)/\(T'=T\/∃e,T'=T.set p (q6 f n e))/\(L=[]->m'=m/\T'=T)
theorem Ent.same(p n:Nat)(f:Nat->En)(i:qq m T)(h:MkE w0 hi b w L V m vt T w'):Ent w0 hi b w L m vt T p n f w':=by obtain⟨a,c,d,e,g⟩:=h;exact⟨a,c,V,m,T,d,e,g,i,⟨rfl,rfl,rfl,rfl⟩,.inl rfl,fun _=>⟨rfl,rfl⟩⟩
theorem znf(p n:Nat)(s:Sp)(f:Nat->En)(x:On)(B:Mk w0 hi w b vl L V m vt T)(gr:qq m T)(h5:m.sp[p]?=Xa s)(gv:T[p]?=Xa f)(d3:n<64)(i4:f n=en0)(Q:zl s.aC n=x)(bp:x.is=Xc)(ek:qT m.fl.length s.aC):
  Xp prog 61 #[Xj (Xa ⟨b,0,Xb⟩),I6 (p:Int),I6 (n:Int),Xi (onv x).toArray] w fun e w'=>(∃v,e=Xl v)/\Ent w0 hi b w L m vt T p n f w':=by
 have eg:=gr.alone h5 (n:=n) (Rx Q bp);have d2:x.file<(m.fl.length:Int):=by rw[<-Q];exact ek n d3 (Rx Q bp)
 rw[Q]at eg;obtain⟨al1,al2,al3,al4⟩:=eg;obtain⟨jo,t,d,j,i,K⟩:=x;dsimp only at bp al1 al2 al3 al4 d2;subst bp;have js:=dD Q;have jr:=dD B;have a8:=dD gr;have g2:=dD h5;have di:=dD gv;have ft:=dD i4;obtain⟨a2,a3⟩:=kA T.length;have ja:p<a2:=by rw[<-a3.out];exact(gS.1 gv).1
 have cc:Xo ((zl s.aC n).is=Xc):=dD<|by rw[Q]
 have e5:Xo ((zl s.aC n).wr=d):=dD<|by rw[Q]
 have al:Xo ((zl s.aC n).sh=j/\(zl s.aC n).file=i/\(zl s.aC n).page=K):=dD<|by rw[Q];exact⟨rfl,rfl,rfl⟩
 obtain⟨ac,ch⟩:=kA w.heap.size;obtain⟨i1,bo⟩:=kB (w.alloc (Xk #[Xh Xc,Xh t,Xh d,Xh j,I6 i,I6 K] 67));have e2:=gA bo;have ip:=xPT bo ch;have i0:=dD<|B.aA e2.out;have fw:Xo (b<w.heap.size):=show _<_ from B.box.box.lt;have g4:Xo (_=i1):=bo;clear bo B gr h5 gv i4 Q ek;go_enter func61,ntmps61;go_upto_region 1 with fail;have ia:w.alloc (Xk (onv ⟨Xc,t,d,j,i,K⟩).toArray 67)=i1:=g4.out;rw[ia,ch.out];clear ia;have ev:=qw 4 i0.out;go_wp2_with fail;refine ev.mono ?_;clear ev;rintro e bi⟨fc,hu,g,rfl,f5,co,hd,jy,ie,yn,ib⟩;have ah:=dD f5;have e6:=dD<|(zP.aA e2).trans (i0.keeps co);have cm:Xo (zt bi ac 67 [Xh Xc,Xh t,Xh d,Xh j,I6 i,I6 K]):=ip.beside co (fun bj e=>by cases e;have:=fw.out;have:=ch.out;omega);have a4:=dD ib;have je:g<4:=by rcases ie with B|B<;>omega
 have g5:=dD yn;clear f5 co hd ie yn ib;by_cases ez:g=0
 ·have h7:(g==0)=Xc:=by simp[ez]
  clear ez;have A:=dD<|Ent.same p n f a8 ⟨fc,hu,ah,a4,e6⟩;go_wp2;exact Wq A.out
 have h7:(g==0)=Xd:=by simp[ez]
 have ce:Xo (L≠[]):=dD<|fun e=>ez (g5 e);clear ez;have fn:=cm.box.c 3 rfl;have dp:=cm.box.c 4 rfl;have fu:Xo (i<0->j=Xd):=dD<|fun B=>al4 Wm;clear al4;go_upto_region 6 with fail;go_cut[44] (fun hb hh=>∃ed:Bool,hb=Xh ed/\hh=bi/\Xo (ed=Xc->0<=i)/\Xo (ed=Xd->j=Xd))
 case first=>
  by_cases ax:0<=i
  ·have gy:decide ((0:Int)<=i)=Xc:=Si ax
   cases j with
   |true=>
    go_wp2;go_meet;exact⟨Xc,rfl,rfl,fun _=>ax,fun B=>(by cases B)⟩
   |false=>
    go_wp2;go_meet;exact⟨(g==1),rfl,rfl,fun _=>ax,fun _=>(by first|rfl|trivial)⟩
  have gy:decide ((0:Int)<=i)=Xd:=Si ax;have g3:Xo (j=Xd):=fu.out Wm;go_wp2;go_meet;exact⟨Xd,rfl,rfl,fun B=>(by cases B),fun _=>g3.out⟩
 obtain⟨ed,rfl,b1,fy,fx⟩:=hcut;rw[b1];clear b1 fn dp;cases ed with
 |true=>
  have ax:=fy.out rfl;obtain⟨a9,rfl⟩:∃a9:Nat,i=(a9:Int):=⟨i.toNat,Wm⟩;obtain⟨ab,rfl⟩:∃ab:Nat,K=(ab:Int):=⟨K.toNat,Wm⟩;obtain⟨fl,bd⟩:∃fl,Xo (m.fl[a9]?=Xa fl):=⟨_,gE Wm⟩;obtain⟨_,_,_,fn,dp,fo⟩:=cm.box.k6;go_upto_region 7 with fail;have fq:=ah.box.box.c 8 rfl;obtain⟨_,_,aw,_,em⟩:=qa.rows ah.rows.at.fl;have l:zaz bi V.fl.a m.fl:=by
   simp only[vJ]at aw;rw[aw.1];exact em
  have gz:V.fl.n=m.fl.length:=by
   simp only[vJ]at aw;exact aw.2.1
  obtain⟨ju,ey,jv,jw,_,eq⟩:=l a9 fl bd.out;obtain⟨-,gn⟩:=eq bi (zc.refl _);obtain⟨gp,bx⟩:=kB V.fl.n;have i6:(a9:Int)<(gp:Int):=by
   have:=(gS.1 bd).1;omega
  (try simp only[Sli.x]at fq);rw[ey,bx]at fq;obtain⟨gl,c9⟩:=kA fl.bl.length;rw[c9.out]at gn;clear aw em l gz ey eq bx;by_cases et:gl<=ab
  ·have eu:decide ((gl:Int)<=(ab:Int))=Xc:=Si et
   go_quiet(fail);obtain⟨cl,a6⟩:=kB (bi.drewN nq);have dh:Xo (zc bi cl):=dD (by rw[<-a6];exact(show Below _ _ _ from bD (bR _ _) _));rw[a6];clear a6 fq gn fn dp fo;have A:=dD<|Ent.same p n f a8 ⟨fc,hu,ah.aA dh,a4,e6.trans (zP.aA dh)⟩;go_wp2;exact Wq A.out
  have eu:decide ((gl:Int)<=(ab:Int))=Xd:=Si et;obtain⟨gk,fv⟩:∃gk,Xo (fl.bl[ab]?=Xa gk):=⟨_,gE (by rw[c9.out];omega)⟩;go_quiet(fail);obtain⟨cl,a6⟩:=kB (bi.drewN nq);have dh:Xo (zc bi cl):=dD (by rw[<-a6];exact(show Below _ _ _ from bD (bR _ _) _));rw[a6];clear a6 fq gn fn dp fo;have ck:=dD (ah.aA dh);have dj:=dD (e6.trans (zP.aA dh));have ec:=dD (cm.aA dh);obtain⟨_,_,_,_,dp,fo⟩:=ec.box.k6;have ei:=zlB a9 ab fl gk ck a8.bY.1 bd fv Wm (by have:=(a8.cG (file:=(a9:Int)) Wm d2).2;omega) a8.bY.2.1;go_wp2_with fail;refine ei.mono ?_;clear ei dp fo;rintro e ao az;have d4:(e=Xl (I6 (-1))/\MkE w0 hi b w L V m vt T ao)\/∃(a:Nat)(dl:MaV)(Z:Ma)(M:Fr),e=Xl (I6 (a:Int))/\MkE w0 hi b w L dl Z vt T ao/\qq Z T/\Z.fs[a]?=Xa M/\M.f=(a9:Int)/\M.x=(ab:Int)/\(Z.sp=m.sp/\Z.fl=m.fl/\Z.aB=m.aB/\Z.fs.length=m.fs.length):=by
   rcases az with⟨ej,ar⟩|⟨iw,j5,gw,gx,ej,ar⟩|⟨jf,ej,dy,jk,c,j1,jx,i7,fp,h4,ar⟩;·exact .inl ⟨ej,ar.trans a4 dj⟩
   ·obtain⟨a,M,jg,jh,ji,jj⟩:=a8.bY.2.2 iw j5;exact .inr ⟨a,V,m,M,by rw[ej,jg],ar.trans a4 dj,a8,jh,ji.trans gw,jj.trans gx,rfl,rfl,rfl,rfl⟩
   refine .inr ⟨jf,_,_,⟨jk,1,c,j1,a9,ab⟩,ej,ar.trans a4 dj,a8.cache i7 fp ⟨Wm,d2⟩ ⟨Wm,?_⟩ h4,?_,rfl,rfl,rfl,rfl,rfl,Xt⟩;·unfold bkN;rw[tN,gD,bd.out];simp only[Option.getD_some];have:=c9.out;omega
   exact sF (gS.1 i7).1
  have iq:Xo (zt ao ac 67 [Xh Xc,Xh t,Xh d,Xh j,I6 (a9:Int),I6 (ab:Int)]):=dD<|by
   rcases az with⟨_,_,_,_,_,bb⟩|⟨_,_,_,_,_,_,_,_,_,bb⟩|⟨_,_,_,_,_,_,_,_,_,_,_,_,_,_,bb⟩;·exact bb.1 _ _ _ ec JD
   ·exact bb.1 _ _ _ ec JD
   exact bb.1 _ _ _ ec JD
  clear az;rcases d4 with⟨rfl,ar⟩|⟨a,dl,Z,M,rfl,⟨de,ga,b7,bq,f1⟩,cz,bb,en,ep,b0⟩
  ·have ca:=dD ar;clear ar;have A:Xo (Ent w0 hi b w L m vt T p n f ao):=show Ent _ _ _ _ _ _ _ _ _ _ _ _ from Ent.same p n f a8 ca.out;go_wp2;exact Wq A.out
  have bh:=dD b7;have g7:=dD f1;have gd:=dD bq;have e0:=dD cz;have fe:=dD bb;have cd:Xo (M.f=(a9:Int)/\M.x=(ab:Int)):=show _/\_ from⟨en,ep⟩;have am:=dD b0;obtain⟨jb,jc⟩:=cz.refs bb;obtain⟨h9,cg⟩:=kA Z.fs.length;have j7:a<h9:=by rw[<-cg.out];exact(gS.1 bb).1
  have j8:(a:Int)<(h9:Int):=Wm;have h3:¬(a:Int)<0:=Wm;clear b7 bq f1 cz bb en ep b0;obtain⟨bj,iy,a7⟩:=bh.rows.fs.aG (by rw[cg.out];omega);rw[cg.out]at a7;have q:Xo (dl.f.x=O (Xa ⟨bj,0,Xb⟩) h9 iy):=a7;have ho:=bh.box.box.c 1 rfl;(first|rw[q.out]at ho|rw[show O _ _ _=_ from q.out]at ho);have l:=bh.rows.fs;(first|rw[q.out]at l|rw[show O _ _ _=_ from q.out]at l);have ak:=dD l;have av:=l.one fe.out;have j3:ao.cell? ⟨bj,a*13+8,Xb⟩=Xa (I6 M.r):=by
   have:=av 8 _ rfl;rw[zY,Yr,zA]at this;exact this
  clear av l a7;have hp:=ak.bL rfl;go_upto_region 11 with fail;obtain⟨bs,cp,dd⟩:=ak.cell (k:=a) (o:=8) rfl fe (y:={M with r:=M.r+1}) (u:=I6 (M.r+1)) rfl Dc;obtain⟨fj,cy⟩:=kB (ao.setCell ⟨bj,a*13+8,Xb⟩ (I6 (M.r+1)));have i3:ao.setCell ⟨bj,a*qy.k+8,Xb⟩ (I6 (M.r+1))=fj:=cy;rw[i3]at bs cp dd;rw[cy];rw[<-q.out]at bs;clear i3 cy hp;have bm:=bh.bF (Rr q.out) cp dd bs (bh.rows.ap.2.inc e0 fe);have gg:=dD bm.1;have ii:=dD<|g7.trans bm.2;have ir:Xo (zt fj ac 67 [Xh Xc,Xh t,Xh d,Xh j,I6 (a9:Int),I6 (ab:Int)]):=bm.2.1 _ _ _ iq JD;have aj:Xo (∀c7:Bool,(c7=Xc->j=Xc/\d=Xc)->qq {Z with fs:=Z.fs.set a {M with r:=M.r+1}} (T.set p (q6 f n ⟨1,(a:Int),c7⟩))):=show∀c7:Bool,_ from fun c7 d6=>e0.hold fe (by rw[cd.1];omega) (Rx am.1 g2) di d3 ft cc (Rx cd.1 al.2.1) (Rx cd.2 al.2.2) (fun e=>by rw[al.1,e5.out];exact d6 e);clear bm bs cp dd ho j3;obtain⟨N,a5,F⟩:=gg.rows.tt.aG (by rw[a3.out];omega);rw[a3.out]at F;have h:Xo (vt.x=O (Xa ⟨N,0,Xb⟩) a2 a5):=F;clear F;obtain⟨z,R⟩:=Ww fun c=>c.cell? ⟨b,12,Xb⟩=Xa (O (Xa ⟨N,0,Xb⟩) a2 a5)/\zt c ac 67 [Xh Xc,Xh t,Xh d,Xh j,I6 (a9:Int),I6 (ab:Int)];have S:Xo (∀c H an eb c6,Mk w0 hi c b H an eb c6 vt T->c.cell? ⟨b,12,Xb⟩=Xa (O (Xa ⟨N,0,Xb⟩) a2 a5)):=dD<|fun c H an eb c6 er=>by
   have:=er.box.box.c 12 rfl;(first|rw[h.out]at this|rw[show O _ _ _=_ from h.out]at this);exact this
  have C:z fj.drew:=(R _).2 ⟨S _ _ _ _ _ (gg.aA (gW _)),ir.aA (gW _)⟩;have X:MkE w0 hi b w L dl {Z with fs:=Z.fs.set a {M with r:=M.r+1}} vt T fj.drew:=⟨de,ga,gg.aA (gW _),gd,ii.trans (zP.aA (gW _))⟩;have ew:=fun g:zg z=>((R _).1 g.holds).1;have d7:=fun g:zg z=>((R _).1 g.holds).2.box.c 2 rfl;have d9:=fun g:zg z=>((R _).1 g.holds).2.box.c 3 rfl;have ay:Nonempty (zg z):=⟨⟨_,C⟩⟩;have c0:(p:Int)<(a2:Int):=Wm;have es:(n:Int)<64:=Wm;cases j<;>cases d
  all_goals(
   refine zN (I:=z) 21 [(15,fun v=>∃x:Int,v=I6 x)] (fun c=>MkE w0 hi b w L dl {Z with fs:=Z.fs.set a {M with r:=M.r+1}} vt T c) C X z0 Kr rfl rfl Dc (by intro x Q;simp only[mC,nM,or_false]at Q;subst Q;exact⟨_,0,rfl⟩) Kr ?_;simp only[Xu,Xv];refine zj ?_;refine zX (.tmp 92) ⟨b,0,Xb⟩ rfl rfl rfl rfl ?_;refine Uq ?_;iterate 8 refine zj ?_
   iterate 4 (first|(refine Qv rfl ?_;simp only[Yf,sB,sS,sZ])|(refine Zw rfl rfl rfl (fun bf aa=>?_);go_big_quiet_op;refine aa _ ?_;clear aa bf))
   (first|(refine Qv rfl ?_;simp only[Yf,sB,sS,sZ])|(refine Zw rfl rfl rfl (fun bf aa=>?_);go_big_quiet_op;refine aa _ ?_;clear aa bf));(first|(refine Qv rfl ?_;simp only[Yf,sB,sS,sZ])|(refine zC rfl rfl (fun _ c=>MkE w0 hi b w L dl {Z with fs:=Z.fs.set a {M with r:=M.r+1}} vt T c) (fun w' bl au=>by obtain⟨H,an,P,b4,b2⟩:=au;refine zJ.call [Xj (Xa ⟨b,0,Xb⟩),I6 2] rfl func22 rfl rfl rfl ?_;refine(qw 2 P).mono ?_;rintro e fd⟨ag,dk,x,rfl,a0,U,_,_,_,_,ae⟩;exact⟨_,rfl,(R _).2 ⟨S _ _ _ _ _ a0,(P.keeps U).1 _ _ _ ((R _).1 bl).2 JD⟩,⟨x,rfl⟩,ag,dk,a0,b4.trans ae,b2.trans (P.keeps U)⟩) (fun ic ex=>?_);obtain⟨jp,rfl⟩:=ex;simp only[Yf,sB,sS,sZ]));(first|(refine Qv rfl ?_;simp only[Yf,sB,sS,sZ])|(refine Zw rfl rfl rfl (fun bf aa=>?_);go_big_quiet_op;refine aa _ ?_;clear aa bf));iterate 4 refine zj ?_
   refine qn fun fk cu cs=>?_;obtain⟨bt,fg,b9,b6,b3⟩:=cs;have e9:=dD b9;have cj:=dD b6;have g9:=dD b3;clear b9 b6 b3 cu C X ew d7 d9 ay;have gi:Xo (zb zcS w0.heap.size fk (O (Xa ⟨N,0,Xb⟩) a2 a5) T):=show zb _ _ _ _ _ by rw[<-h.out];exact e9.rows.tt
   refine zu (E:=zcS) rfl (.tmp 112) (.tmp 110) 55 rfl w0.heap.size _ T gi N p (n*3) rfl f (q6 f n ⟨1,(a:Int),_⟩) di (env ⟨1,(a:Int),_⟩) Kr (zbW f d3 _) (by show n*3+3<=192;omega) (enE.one _) ⟨N,p*192+n*3,Xb⟩ rfl rfl _ rfl rfl ?_;intro dn G W a1;rw[<-h.out]at G;have D:=e9.bQ (Rr h.out) W a1 G;have ea:Xo _:=D.1;have e7:=dD<|g9.trans D.2;clear D G W a1;have A:Xo (Ent w0 hi b w L m vt T p n f dn):=show Ent _ _ _ _ _ _ _ _ _ _ _ _ from⟨bt,fg,_,_,_,ea,cj,e7,aj _ (by intro e;first|exact⟨rfl,rfl⟩|cases e),⟨am.1,am.2.1,am.2.2.1,List.length_set.trans am.2.2.2⟩,.inr ⟨_,rfl⟩,fun B=>absurd B ce⟩;go_wp2
   exact Wq A.out)
 |false=>
  have h6:=fx.out rfl;subst h6;have c8:=ah.box.box.c 3 rfl;obtain⟨af,d5⟩:=kB V.s.n;have be:Xo (m.sl.length=af):=dD<|Ry d5 ah.rows.sl.n.symm;(try simp only[Sli.x]at c8);rw[d5]at c8;clear d5;go_upto_region 12 with fail;go_cut[113] (fun fa hh=>∃fm:Bool,fa=Xh fm/\hh=bi/\Xo (fm=Xc->0<af))
  case first=>
   by_cases ef:g=2
   ·have gq:(g==2)=Xc:=by simp[ef]
    clear ef;go_wp2;go_meet;exact⟨_,rfl,rfl,fun B=>Si B⟩
   have gq:(g==2)=Xd:=(by simp[ef]);clear ef;go_wp2;go_meet;exact⟨Xd,rfl,rfl,fun B=>(by cases B)⟩
  obtain⟨fm,rfl,b1,fz⟩:=hcut;rw[b1];clear b1;cases fm with
  |true=>
   have jd:=fz.out rfl;have Y:=qw (af:Int) ah.out;go_wp2_with fail;refine Y.mono ?_;clear Y;rintro e cl⟨ag,dk,bu,rfl,a0,U,hf,jq,ig,_,ae⟩;obtain⟨a,rfl⟩:∃a:Nat,bu=(a:Int):=⟨bu.toNat,Wm⟩;have eo:a<af:=(by rcases ig with B|B<;>omega);have i8:(a:Int)<(af:Int):=Wm;have ck:=dD a0;have dj:=dD (e6.trans (ah.keeps U));have e8:=dD (a4.trans ae);clear a0 U hf jq ig ae c8;obtain⟨bj,iz,a7⟩:=ck.rows.sl.aG (by rw[be.out];omega);rw[be.out]at a7;have q:=dD a7;have c8:=ck.box.box.c 3 rfl;(first|rw[q.out]at c8|rw[show O _ _ _=_ from q.out]at c8);have l:=ck.rows.sl;(first|rw[q.out]at l|rw[show O _ _ _=_ from q.out]at l);have ak:=dD l;obtain⟨dz,ci⟩:∃dz,Xo (m.sl[a]?=Xa dz):=⟨_,gE (Rx be.out eo)⟩;have av:=l.one ci.out;have j2:cl.cell? ⟨bj,a,Xb⟩=Xa (I6 dz):=by
    have:=av 0 _ rfl;rw[zY,Yr,zA]at this;simpa[slE,Nat.mul_one]using this
   clear av l a7;by_cases f0:dz=0
   ·have h8:(dz==0)=Xc:=by simp[f0]
    have g6:Xo (m.sl[a]?=Xa 0):=dD (by rw[ci.out,f0]);clear f0;have hp:=ak.bL rfl;go_upto_region 16 with fail;obtain⟨br,aq,dc⟩:=ak.cell (k:=a) (o:=0) rfl ci (y:=1) (u:=I6 1) rfl Dc;obtain⟨ao,cx⟩:=kB (cl.setCell ⟨bj,a,Xb⟩ (I6 1));have i2:cl.setCell ⟨bj,a*slE.k+0,Xb⟩ (I6 1)=ao:=(by rw[<-cx];simp[slE]);rw[i2]at br aq dc;rw[cx];rw[<-q.out]at br;clear i2 cx hp;have cv:=ck.cC (Rr q.out) aq dc br;have bh:=dD cv.1;have g7:=dD<|dj.trans cv.2;clear cv br aq dc c8 j2;have bv:Xo (m.sb.length=af):=show _=_ by rw[a8.bG,be.out]
    obtain⟨ap,cn,eh⟩:∃ap cn,V.sb.x=O (Xa ⟨ap,0,Xb⟩) af cn:=by
     have i5:=bh.rows.sb.1;have j9:({m with sl:=m.sl.set a 1}:Ma).sb.length=af:=bv.out;rw[j9]at i5;rcases i5.2 with⟨_,ef⟩|⟨ap,gm,j0,j4,_⟩;·omega
     exact⟨ap,gm,j4⟩
    have ai:=dD eh;clear eh;obtain⟨z,R⟩:=Ww fun c=>c.cell? ⟨b,4,Xb⟩=Xa (O (Xa ⟨ap,0,Xb⟩) af cn);have S:Xo (∀c H an c6,Mk w0 hi c b H an V c6 vt T->c.cell? ⟨b,4,Xb⟩=Xa (O (Xa ⟨ap,0,Xb⟩) af cn)):=dD<|fun c H an c6 er=>by
     have:=er.box.box.c 4 rfl;(first|rw[ai.out]at this|rw[show O _ _ _=_ from ai.out]at this);exact this
    have C:z ao.drew:=(R _).2 (S _ _ _ _ (bh.aA (gW _)));have X:MkE w0 hi b w L V {m with sl:=m.sl.set a 1} vt T ao.drew:=⟨ag,dk,bh.aA (gW _),e8,g7.trans (zP.aA (gW _))⟩;have ew:=fun g:zg z=>(R _).1 g.holds;have ay:Nonempty (zg z):=⟨⟨_,C⟩⟩;refine zN (I:=z) 10 [(8,fun v=>∃dy:List Int,v=Xi (pgc dy).toArray/\dy.length=8)] (fun c=>MkE w0 hi b w L V {m with sl:=m.sl.set a 1} vt T c) C X z0 Kr rfl rfl Dc (Sa ⟨_,zw,rfl,rfl⟩) Kr ?_;simp only[Xu,Xv];refine zj ?_;refine zX (.tmp 149) ⟨b,0,Xb⟩ rfl rfl rfl rfl ?_;refine Uq ?_;iterate 6 refine zj ?_
    refine zC rfl rfl (fun _ c=>MkE w0 hi b w L V {m with sl:=m.sl.set a 1} vt T c) (fun w' bl au=>?_) (fun ic ex=>?_);·obtain⟨H,an,P,b4,b2⟩:=au;refine zJ.call [Xj (Xa ⟨b,0,Xb⟩)] rfl func25 rfl rfl rfl ?_;refine(zc5 P).mono ?_;rintro e fd⟨de,ga,dy,rfl,jm,b7,aq,bq⟩;exact⟨_,rfl,(R _).2 (S _ _ _ _ b7),⟨dy,rfl,jm⟩,de,ga,b7,b4.trans bq,b2.trans (P.keeps aq)⟩
    obtain⟨ha,rfl,f9⟩:=ex;have g0:=dD f9;clear f9;refine Uq ?_;refine zj ?_;refine qn fun gj gu gs=>?_;obtain⟨df,gc,b8,b5,f2⟩:=gs;have fh:=dD b8;have bg:=dD b5;have ff:=dD f2;clear b8 b5 f2 gu C X ew ay;have il:Xo (zm w0.heap.size gj (O (Xa ⟨ap,0,Xb⟩) af cn) m.sb):=show zm _ _ _ _ by rw[<-ai.out];exact fh.rows.sb
    refine ZJ rfl (.tmp 158) (.tmp 157) rfl w0.heap.size _ m.sb il ap a rfl (Rx bv.out eo) ha g0 ⟨ap,a*8,Xb⟩ rfl rfl rfl ?_;intro dm db ee fb;rw[<-ai.out]at db;have cw:=fh.setSb (Rr ai.out) ee fb db;have bw:=dD cw.1;have g8:=dD<|ff.trans cw.2;clear cw db ee fb;obtain⟨N,a5,F⟩:=bw.rows.tt.aG (by rw[a3.out];omega);rw[a3.out]at F;have h:=dD F;have im:Xo (zb zcS w0.heap.size dm (O (Xa ⟨N,0,Xb⟩) a2 a5) T):=show zb _ _ _ _ _ by rw[<-h.out];exact bw.rows.tt
    have dg:=bw.box.box.c 12 rfl;(first|rw[h.out]at dg|rw[show O _ _ _=_ from h.out]at dg);have c0:(p:Int)<(a2:Int):=Wm;have es:(n:Int)<64:=Wm;clear F;go_wp2_with(refine zu (E:=zcS) rfl (.tmp 168) (.tmp 166) 55 rfl w0.heap.size _ T im N p (n*3) rfl f (q6 f n ⟨2,(a:Int),Xd⟩) di (env ⟨2,(a:Int),Xd⟩) Kr (zbW f d3 _) (by show n*3+3<=192;omega) (enE.one _) ⟨N,p*192+n*3,Xb⟩ rfl rfl (Xi (env ⟨2,(a:Int),Xd⟩).toArray) rfl rfl ?_)
    intro dn G W a1;rw[<-h.out]at G;have D:=bw.bQ (Rr h.out) W a1 G;have ea:Xo (Mk w0 hi dn b df gc V {m with sl:=m.sl.set a 1,sb:=m.sb.set a ha} vt (T.set p (q6 f n ⟨2,(a:Int),Xd⟩))):=D.1;have e7:=dD<|g8.trans D.2;have aj:Xo (qq {m with sl:=m.sl.set a 1,sb:=m.sb.set a ha} (T.set p (q6 f n ⟨2,(a:Int),Xd⟩))):=a8.swap g6 g2 di d3 ft cc al.1;clear D G W a1 dg;have A:Xo (Ent w0 hi b w L m vt T p n f dn):=show Ent _ _ _ _ _ _ _ _ _ _ _ _ from⟨df,gc,_,_,_,ea,bg,e7,aj,⟨rfl,rfl,rfl,rfl⟩,.inr ⟨_,rfl⟩,fun B=>absurd B ce⟩;go_wp2;exact Wq A.out
   have h8:(dz==0)=Xd:=(by simp[f0]);clear f0;have A:=dD<|Ent.same p n f a8 ⟨ag,dk,ck,e8,dj⟩;go_wp2;exact Wq A.out
  |false=>
   go_upto_region 2 with fail;clear c8;have bz:=zc5 ah.out;go_wp2_with fail;refine bz.mono ?_;clear bz;rintro e io⟨jn,jt,jl,rfl,f8,f6,cq,f3⟩;obtain⟨dq,dr,ds,dt,du,dv,dw,dx,rfl⟩:=zch jl f8;simp only[pgc,mP,Ye];have gh:=dD f6;have ij:=dD (e6.trans (ah.keeps cq));have it:Xo (zt io ac 67 [Xh Xc,Xh t,Xh d,Xh Xd,I6 i,I6 K]):=(ah.keeps cq).1 _ _ _ cm JD;have ge:=dD (a4.trans f3);clear f8 f6 cq f3;have Y:=qw 2 gh.out;go_wp2_with fail;refine Y.mono ?_;clear Y;rintro e gj⟨df,gc,bu,rfl,b8,cr,_,_,_,_,b5⟩;have fh:=dD b8;have ff:=dD (ij.trans (gh.keeps cr));have iu:Xo (zt gj ac 67 [Xh Xc,Xh t,Xh d,Xh Xd,I6 i,I6 K]):=(gh.keeps cr).1 _ _ _ it JD;have bg:=dD (ge.trans b5);clear b8 cr b5;have el:=zhB ⟨⟨dq,dr,ds,dt,du,dv,dw,dx⟩,1,bu==1,Xd,-1,0⟩ fh ⟨fun _=>rfl,fun _ e=>absurd rfl e⟩;go_wp2_with fail;refine el.mono ?_;clear el;rintro e dm(⟨rfl,ar⟩|⟨a,dy,rfl,i9,fp,hg,ik,f7,f4,da⟩)
   ·have ca:=dD<|ar.trans bg ff.out;clear ar;have A:Xo (Ent w0 hi b w L m vt T p n f dm):=show Ent _ _ _ _ _ _ _ _ _ _ _ _ from Ent.same p n f a8 ca.out;go_wp2;exact Wq A.out
   have ih:=dD i9;have g1:=dD fp;have bw:=dD f7;have g8:=dD (ff.trans da);have iv:Xo (zt dm ac 67 [Xh Xc,Xh t,Xh d,Xh Xd,I6 i,I6 K]):=da.1 _ _ _ iu JD;have gf:=dD (bg.trans f4);clear i9 fp f7 f4 da;have h3:(0:Int)<=(a:Int):=Wm;have j6:decide ((0:Int)<=(a:Int))=Xc:=Sm;have aj:Xo (∀c7:Bool,(c7=Xc->d=Xc)->qq {m with fs:=m.fs.set a ⟨⟨dq,dr,ds,dt,du,dv,dw,dx⟩,1,bu==1,Xd,-1,0⟩} (T.set p (q6 f n ⟨1,(a:Int),c7⟩))):=dD<|fun c7 d6=>a8.mine ih g1 g2 di d3 ft cc al.1 (fun e=>by rw[e5.out];exact d6 e);go_upto_region 4 with fail;obtain⟨N,a5,F⟩:=bw.rows.tt.aG (by rw[a3.out];omega);rw[a3.out]at F;have h:Xo (vt.x=O (Xa ⟨N,0,Xb⟩) a2 a5):=F;clear F;obtain⟨z,R⟩:=Ww fun c=>c.cell? ⟨b,12,Xb⟩=Xa (O (Xa ⟨N,0,Xb⟩) a2 a5)/\zt c ac 67 [Xh Xc,Xh t,Xh d,Xh Xd,I6 i,I6 K];have S:Xo (∀c H an eb c6,Mk w0 hi c b H an eb c6 vt T->c.cell? ⟨b,12,Xb⟩=Xa (O (Xa ⟨N,0,Xb⟩) a2 a5)):=dD<|fun c H an eb c6 er=>by
    have:=er.box.box.c 12 rfl;(first|rw[h.out]at this|rw[show O _ _ _=_ from h.out]at this);exact this
   have C:z dm.drew:=(R _).2 ⟨S _ _ _ _ _ (bw.aA (gW _)),iv.aA (gW _)⟩;have X:MkE w0 hi b w L V {m with fs:=m.fs.set a ⟨⟨dq,dr,ds,dt,du,dv,dw,dx⟩,1,bu==1,Xd,-1,0⟩} vt T dm.drew:=⟨hg,ik,bw.aA (gW _),gf,g8.trans (zP.aA (gW _))⟩;have ew:=fun g:zg z=>((R _).1 g.holds).1;have d7:=fun g:zg z=>((R _).1 g.holds).2.box.c 2 rfl;have d9:=fun g:zg z=>((R _).1 g.holds).2.box.c 3 rfl;have ay:Nonempty (zg z):=⟨⟨_,C⟩⟩;have c0:(p:Int)<(a2:Int):=Wm;have es:(n:Int)<64:=Wm;cases d
   all_goals(
    refine zN (I:=z) 17 [(11,fun v=>∃x:Int,v=I6 x)] (fun c=>MkE w0 hi b w L V {m with fs:=m.fs.set a ⟨⟨dq,dr,ds,dt,du,dv,dw,dx⟩,1,bu==1,Xd,-1,0⟩} vt T c) C X z0 Kr rfl rfl Dc (by intro x Q;simp only[mC,nM,or_false]at Q;subst Q;exact⟨_,0,rfl⟩) Kr ?_;simp only[Xu,Xv];refine zj ?_;refine zX (.tmp 24) ⟨b,0,Xb⟩ rfl rfl rfl rfl ?_;refine Uq ?_;iterate 8 refine zj ?_
    (first|(refine Qv rfl ?_;simp only[Yf,sB,sS,sZ])|(refine Zw rfl rfl rfl (fun bf aa=>?_);go_big_quiet_op;refine aa _ ?_;clear aa bf));(first|(refine Qv rfl ?_;simp only[Yf,sB,sS,sZ])|(refine zC rfl rfl (fun _ c=>MkE w0 hi b w L V {m with fs:=m.fs.set a ⟨⟨dq,dr,ds,dt,du,dv,dw,dx⟩,1,bu==1,Xd,-1,0⟩} vt T c) (fun w' bl au=>by obtain⟨H,an,P,b4,b2⟩:=au;refine zJ.call [Xj (Xa ⟨b,0,Xb⟩),I6 2] rfl func22 rfl rfl rfl ?_;refine(qw 2 P).mono ?_;rintro e fd⟨ag,dk,x,rfl,a0,U,_,_,_,_,ae⟩;exact⟨_,rfl,(R _).2 ⟨S _ _ _ _ _ a0,(P.keeps U).1 _ _ _ ((R _).1 bl).2 JD⟩,⟨x,rfl⟩,ag,dk,a0,b4.trans ae,b2.trans (P.keeps U)⟩) (fun ic ex=>?_);obtain⟨jp,rfl⟩:=ex;simp only[Yf,sB,sS,sZ]));(first|(refine Qv rfl ?_;simp only[Yf,sB,sS,sZ])|(refine Zw rfl rfl rfl (fun bf aa=>?_);go_big_quiet_op;refine aa _ ?_;clear aa bf));iterate 4 refine zj ?_
    refine qn fun fk cu cs=>?_;obtain⟨bt,fg,b9,b6,b3⟩:=cs;have e9:Xo (Mk w0 hi fk b bt fg V {m with fs:=m.fs.set a ⟨⟨dq,dr,ds,dt,du,dv,dw,dx⟩,1,bu==1,Xd,-1,0⟩} vt T):=b9;have cj:=dD b6;have g9:=dD b3;clear b9 b6 b3 cu C X ew d7 d9 ay;have gi:Xo (zb zcS w0.heap.size fk (O (Xa ⟨N,0,Xb⟩) a2 a5) T):=show zb _ _ _ _ _ by rw[<-h.out];exact e9.rows.tt
    refine zu (E:=zcS) rfl (.tmp 40) (.tmp 38) 55 rfl w0.heap.size _ T gi N p (n*3) rfl f (q6 f n ⟨1,(a:Int),_⟩) di (env ⟨1,(a:Int),_⟩) Kr (zbW f d3 _) (by show n*3+3<=192;omega) (enE.one _) ⟨N,p*192+n*3,Xb⟩ rfl rfl _ rfl rfl ?_;intro dn G W a1;rw[<-h.out]at G;have D:=e9.bQ (Rr h.out) W a1 G;have ea:Xo _:=D.1;have e7:=dD<|g9.trans D.2;clear D G W a1;have A:Xo (Ent w0 hi b w L m vt T p n f dn):=show Ent _ _ _ _ _ _ _ _ _ _ _ _ from⟨bt,fg,_,_,_,ea,cj,e7,aj _ (by intro e;first|rfl|cases e),⟨rfl,rfl,rfl,Xt⟩,.inr ⟨_,rfl⟩,fun B=>absurd B ce⟩;go_wp2
    exact Wq A.out)
end
section
def ZC(m:Ma)(x:On)(e:En):List Int×Bool×Int:=
 if x.is=Xd then(zw,Xd,5)
 else if e.kind=1 then(pgL (zZ m e.n).p,decide ((zZ m e.n).f<0),0)
 else if e.kind=2 then(qv m.sb m.sq e.n,Xc,0)
 else if x.file<0 then(zw,Xd,0)
 else if bkN m x.file<=x.page then(zw,Xd,9)
 else(zU m x.file x.page,Xd,0)
theorem zc0(a:m.sp[k]?=Xa s)(p:b<64):jS m (k:Int) (b:Int)=ZC m (zl s.aC b) (zh s b):=by have p:=(gS.1 a).1;unfold jS;rw[kF Wm];simp only[tN,gD,a,Option.getD_some];rfl
theorem zjv(h:z<0\/(m.sp.length:Int)<=z\/C<0\/63<C):jS m z C=(zw,Xd,5):=by unfold jS;rw[kE h]
def yn(b:Bool):Int:=if b=Xc then 121 else 110
def zpU(m:Ma)(p:Nat)(s:Sp):List Int:=
 112::(if s.aF=Xc then[108]else[])++(Yl 64).flatMap fun n=>
  if(zl s.aC n).is=Xd then[]
  else[(n:Int),(jS m (p:Int) (n:Int)).2.2%256,(zl s.aC n).file%256,(zl s.aC n).page%256]++(jS m (p:Int) (n:Int)).1++[yn (zl s.aC n).rd,yn (zl s.aC n).wr,yn (zl s.aC n).sh,yn ((jS m (p:Int) (n:Int)).2.1&&decide (0<=(zl s.aC n).file))]
def zoc(m:Ma)(f:Nat):List Int:=102::((Zx m (f:Int)).length:Int)%256::Zx m (f:Int)
def zgU(m:Ma):List Sp->Nat->List Int
 |[],_=>[]
 |s::l,p=>zpU m p s++zgU m l (p+1)
def zkx(m:Ma):List Int:=zgU m m.sp 0++(Yl m.fl.length).flatMap (zoc m)
theorem zc1{x:On}{e':En}(f:e'.kind=Z.kind)(g:e'.n=Z.n)(a:Z.kind=1->(zZ m' Z.n).p=(zZ m Z.n).p/\((zZ m' Z.n).f<0↔(zZ m Z.n).f<0))(b:Z.kind=2->qv m'.sb m'.sq Z.n=qv m.sb m.sq Z.n)
  (c:∀file,bkN m' file=bkN m file)(d:∀file idx,zU m' file idx=zU m file idx):ZC m' x e'=ZC m x Z:=by grind[ZC]
theorem zhV(a:m'.ca=m.ca)(e:m'.fl=m.fl)(b:m'.db=m.db)(d:m'.dq=m.dq)(f:∀c∈m.ca,(zZ m' c.fr).p=(zZ m c.fr).p)(file idx:Int):zU m' file idx=zU m file idx:=by grind[zU,Qe,List.mem_of_find?_eq_some,zgu,QJ]
section
variable{m:Ma}{T:List (Nat->En)}
theorem qq.marks(h:qq m T){p:Pg}{u d:Bool}(c:m.fs[k]?=Xa Y)(t:Y.r≠0):qq {m with fs:=m.fs.set k {Y with p:=p,u:=u,d:=d}} T:=by
 have f:=(gS.1 c).1;have e:=h.bC Y (mG c);have a:∀z:Int,0<=z->(zZ {m with fs:=m.fs.set k {Y with p:=p,u:=u,d:=d}} z).f=(zZ m z).f/\(zZ {m with fs:=m.fs.set k {Y with p:=p,u:=u,d:=d}} z).x=(zZ m z).x/\(zZ {m with fs:=m.fs.set k {Y with p:=p,u:=u,d:=d}} z).r=(zZ m z).r:=fun z a=>by grind[qF,zH]
 refine⟨by simpa using h.aL,fun g b=>?_,h.aU,h.bG,h.sq,h.bK,h.st,h.cnt,h.bH,h.aX,h.aI,h.aT,h.tl,?_,fun q w g v b j a=>?_,fun j g a=>?_,h.cs⟩
 ·rcases Yh b with b|rfl
  ·exact h.bC g b
  obtain⟨i,l,n,s,r⟩:=e;exact⟨i,l,n,fun h=>absurd h t,r⟩
 ·obtain⟨e,e,e⟩:=zo.1 h.ca;refine zo.2 ⟨fun r t=>?_,fun q r r=>(by cases r),e⟩;grind[jR,zaW,bkN]
 ·rcases h.aN q w g v b j a with e|e
  ·exact .inl e
  refine .inr ⟨e.1,e.2.1,jJ e.2.2 rfl Sm fun b=>?_⟩;obtain⟨i,l,n,s⟩:=zT e b;grind
 by_cases e:j=k;·subst e;simp only at a;rw[sF f]at a;cases a;exact h.cf j Y c
 simp only at a;rw[sN (fun h=>e h.symm)]at a;exact h.cf j g a
theorem qq.entry(h:qq m T)(j:m.sp[k]?=Xa s)(p:T[k]?=Xa u)(r:b<64)(a:Z.kind=(u b).kind)(c:Z.n=(u b).n)(w:QI m (zl s.aC b) Z):qq m (T.set k (q6 u b Z)):=by
 have d:=(gS.1 p).1;have i:=zhz (e':=Z) p r a c;refine⟨h.aL,h.bC,h.aU,h.bG,h.sq,h.bK,h.st,h.cnt,h.bH,h.aX,h.aI,h.aT,by simpa using h.tl,h.ca,?_,fun n g a=>?_,fun n z a=>?_⟩
 ·refine zas d rfl p (fun v s g j l f q _=>h.aN v s g j l f q) (fun x t=>?_)
  grind
 ·rw[i];exact h.cf n g a
 rw[i];exact h.cs n z a
def JF(fr:Fr):Fr:=if fr.r=1 then frF else{fr with r:=fr.r-1}
theorem zp6(fr:Fr):(JF fr).r=fr.r-1:=by
 unfold JF;split;·simp[frF];omega
 rfl
theorem qq.drop(h:qq m T){n:Nat}(y:m.fs[k]?=Xa Y)(D:T[p]?=Xa u)(X:n<64)(V:(u n).kind=1)(f:(u n).n=(k:Int)):
  qq {m with fs:=m.fs.set k (JF Y)} (T.set p (q6 u n en0)):=by
 have W:=(gS.1 y).1;have d:=(gS.1 D).1;have A:=h.bC Y (mG y);have U:=h.cf k Y y;have G:1<=qh T 1 k:=by grind[Q4]
 have i:∀kind j:Int,qh (T.set p (q6 u n en0)) kind j+(isE (u n) kind j).toNat=qh T kind j+(isE en0 kind j).toNat:=fun kind j=>Zp en0 kind j D X;have x:Y.r≠1->JF Y={Y with r:=Y.r-1}:=fun h=>by unfold JF;rw[kF h]
 have E:zL m.ca k≠0->Y.r≠1:=fun R S=>Wm;have F:qh T 1 k≥2->Y.r≠1:=fun R S=>Wm;refine⟨by simpa using h.aL,fun g a=>?_,h.aU,h.bG,h.sq,h.bK,h.st,h.cnt,h.bH,h.aX,h.aI,h.aT,by simpa using h.tl,?_,?_,fun j g b=>?_,fun j a0 b=>?_⟩
 ·rcases Yh a with a|rfl
  ·exact h.bC g a
  by_cases e:Y.r=1;·unfold JF;rw[kE e];exact⟨Dc,Dc,.inl rfl,fun _=>rfl,fun _=>rfl⟩
  rw[x e];obtain⟨L,B,C,M,N⟩:=A;exact⟨by simp only;omega,B,C,fun h=>by simp only at h;omega,N⟩
 ·obtain⟨a4,a5,H⟩:=zo.1 h.ca;refine zo.2 ⟨fun K a6=>?_,fun q K fr=>(by cases fr),H⟩;grind[jR,qF,JF,Qi,zH,zaW,bkN]
 ·intro q I g Z a j b
  by_cases l:q=p/\j=n
  ·obtain⟨rfl,rfl⟩:=l;rw[sF d]at a;cases a;grind[q6]
  have c:∃s,T[q]?=Xa s/\g j=s j:=by
   by_cases Q:q=p
   ·subst Q;rw[sF d]at a;cases a;grind[q6]
   grind
  obtain⟨s,v,w⟩:=c;rw[w];rcases h.aN q I s Z v j b with e|e;·exact .inl e
  refine .inr ⟨e.1,e.2.1,jJ e.2.2 rfl Sm fun z=>?_⟩;obtain⟨L,B,C,M⟩:=zT e z;grind[qF,zda,isE,zH]
 ·simp only at b⊢;have t:=i 1 j;rw[qx 1 j Dc]at t;by_cases P:j=k;·grind[sF,isE,zp6,JF,frF]
  rw[sN (fun h=>P h.symm)]at b;rw[ZV (by rw[f];omega)]at t;have:=h.cf j g b;grind
 simp only at b⊢;have t:=i 2 j;rw[qx 2 j Dc,QW (by rw[V];decide)]at t;have:=h.cs j a0 b;grind
theorem qq.dropS(h:qq m T)(D:m.sl[k]?=Xa z)(f:T[b]?=Xa u)(E:p<64)(v:(u p).kind=2)(n:(u p).n=(k:Int)):
  qq {m with sl:=m.sl.set k (z-1)} (T.set b (q6 u p en0)):=by
 have A:=(gS.1 D).1;have d:=(gS.1 f).1;have F:1<=qh T 2 k:=zaF f E (by simp[isE,v,n]) Dc;have i:∀kind j:Int,qh (T.set b (q6 u p en0)) kind j+(isE (u p) kind j).toNat=qh T kind j+(isE en0 kind j).toNat:=fun kind j=>Zp en0 kind j f E;refine⟨h.aL,h.bC,by simpa using h.aU,by simpa using h.bG,h.sq,h.bK,h.st,h.cnt,h.bH,h.aX,h.aI,h.aT,by simpa using h.tl,?_,?_,fun j t a=>?_,fun j S a=>?_⟩;·obtain⟨G,U,H⟩:=zo.1 h.ca;exact zo.2 ⟨fun B N=>G B N,fun q B P=>(by cases P),H⟩
 ·intro q R t Q s j a
  by_cases l:q=b/\j=p
  ·obtain⟨rfl,rfl⟩:=l;rw[sF d]at s;cases s;grind[q6]
  have c:∃r,T[q]?=Xa r/\t j=r j:=by
   by_cases L:q=b
   ·subst L;rw[sF d]at s;cases s;grind[q6]
   grind
  obtain⟨r,w,x⟩:=c;rw[x];rcases h.aN q R r Q w j a with e|e;·exact .inl e
  refine .inr ⟨e.1,e.2.1,jJ e.2.2 Sm rfl fun y=>?_⟩;obtain⟨V,W,X,K⟩:=zT e y;exact⟨rfl,rfl,K⟩
 ·have g:=i 1 j;rw[qx 1 j Dc,QW (by rw[v];decide)]at g;have:=h.cf j t a;grind
 simp only at a⊢;have g:=i 2 j;rw[qx 2 j Dc]at g;by_cases C:j=k
 ·subst C;rw[sF A]at a;cases a;have M:isE (u p) 2 (j:Int)=Xc:=by simp[isE,v,n]
  rw[M]at g;have:=h.cs j z D;grind
 rw[sN (fun h=>C h.symm)]at a;rw[ZV (by rw[n];omega)]at g;have:=h.cs j S a;grind
end
def zrv(g:Nat->Nat):Nat->Nat
 |0=>0
 |n+1=>zrv g n+g n
def QF(l:List Ar):Nat->Nat
 |0=>0
 |n+1=>QF l n+(zl l n).is.toNat
theorem zpm{a:Ar}(h:(zdQ l a).2=0):QF (zdQ l a).1 64<=QF l 64+(a.tz-a.fr).toNat:=by
 obtain⟨c,d,b,b,f⟩:=ziN h;have b:=Qc.1 d;have d:=zbH (qU.1 c).2 b;unfold jD at b;have c:∀n:Nat,n<=64->QF (zdQ l a).1 n<=QF l n+(min (n:Int) a.tz-min (n:Int) a.fr).toNat:=by
  intro n;induction n with
  |zero=>intro _;simp[QF]
  |succ n b=>
   intro e;have e:=b Wm;unfold QF;have e:(zl (zdQ l a).1 n).is=(ziM l a n).is:=(by rw[f,zf6 d Wm]);rw[e];unfold ziM;by_cases b:ZI a n=Xc;·have:=qG.1 b;rw[kE b,zjH];simp only[Bool.toNat_true];omega
   grind
 have:=c 64 (nR _);omega
end
section
open Go.RowKit
section
variable{base hi S0:Nat}{w w':Xn}{V:MaV}{m:Ma}{vt:Sli}{T:List (Nat->En)}
def SpB(base S0:Nat)(w:Xn)(V:MaV)(m:Ma):Prop:=∃xs:List SpV,zb Z4 base w (O V.sp.a V.sp.n V.sp.c) xs/\xs.length=m.sp.length/\∀(i:Nat)x s,xs[i]?=Xa x->m.sp[i]?=Xa s->(x.aF=s.aF/\zb arE base w x.ar.v s.aC/\x.tab=JA/\s.tb=qI)/\∀g,x.ar.v.ownBlock=Xa g->g<S0
theorem MkR.spB(h:MkR base hi w V m vt T):SpB base w.heap.size w V m:=by obtain⟨d,b,c,a⟩:=h.sp;exact⟨d,b,c,fun i x s c b=>⟨a i x s c b,fun g d=>((a i x s c b).2.1.lt g d).2⟩⟩
theorem SpB.aA(h:SpB base S0 w V m)(k:zc w w'):SpB base S0 w' V m:=by obtain⟨c,a,b,e⟩:=h;refine⟨c,a.aA k,b,fun i x s g f=>?_⟩;obtain⟨⟨a,b,c⟩,d⟩:=e i x s g f;exact⟨⟨a,b.aA k,c⟩,d⟩
theorem SpB.kind(h:SpB base S0 w V m)(b:w.grownBy w' (Xa k))(e:w.heap[k]?=Xa (Xk U t (0,0)))(c:t≠63)(a:t≠77\/S0<=k):SpB base S0 w' V m:=by
 obtain⟨i,d,f,l⟩:=h;refine⟨i,d.kind b e c,f,fun g x s j i=>?_⟩;obtain⟨⟨f,c,h⟩,d⟩:=l g x s j i;refine⟨⟨f,?_,h⟩,d⟩;rcases a with a|a;·exact c.kind b e a
 exact c.grown b fun g a e=>by cases e;have:=d _ a;omega
theorem MkR.area(h:MkR base hi w V m vt T)(b:SpB base S0 w V m)(a:w.grownBy w' (Xa k))(c:w.heap[k]?=Xa (Xk U 77 (0,0)))(d:S0<=k):MkR base hi w' V m vt T:=by obtain⟨e,f,i,j,g,l,n,p,p⟩:=h.kept a c;obtain⟨t,q,r,s⟩:=b.kind a c Dc (.inr d);exact⟨nT h.hw a.size,h.bh,e Dc,f (.inl Dc),h.bA,i (.inl Dc),h.bI,h.sq,j (.inl Dc),h.bE,g Dc,l Dc (.inl Dc),n Dc,⟨t,q,r,fun i x c a b=>(s i x c a b).1⟩,p Dc,h.ap⟩
theorem qr(h:w.grownBy w' Xb):zc w w':=zW (zc.refl _) h (fun g e=>by cases e)
theorem MkR.addSp{a:List SpV}(h:MkR base hi w V m vt T)(s1:zb Z4 base w (V.sp.x) a)(s2:a.length=m.sp.length)(s3:∀(i:Nat)x s,a[i]?=Xa x->m.sp[i]?=Xa s->x.aF=s.aF/\zb arE base w x.ar.v s.aC/\x.tab=JA/\s.tb=qI)
  (b:w.grownBy w' (V.sp.x).ownBlock)(s c:Sli){l:List Ar}(j:zb arE base w c.v l)(e:zb Z4 base w' (s.x) (a++[⟨Xc,c,zQ,zQ,zQ,zQ,zQ,zQ,zQ,zQ⟩])):MkR base hi w' {V with sp:=s} {m with sp:=m.sp++[⟨Xc,l,qI⟩]} vt T:=by
 have d:(∀{x:SpV}{q:Sp},zb arE base w x.ar.v q.aC->zb arE base w' x.ar.v q.aC)->zb arE base w' c.v l->∃c:List SpV,zb Z4 base w' (s.x) c/\c.length=(m.sp++[(⟨Xc,l,qI⟩:Sp)]).length/\∀(i:Nat)x q,c[i]?=Xa x->(m.sp++[(⟨Xc,l,qI⟩:Sp)])[i]?=Xa q->x.aF=q.aF/\zb arE base w' x.ar.v q.aC/\x.tab=JA/\q.tb=qI:=fun n g=>by
  refine⟨_,e,by simp[s2],fun i x q f e=>?_⟩;rcases Nat.lt_or_ge i a.length with hi|hi;·grind
  rw[aR hi]at f;rw[aR Wm,<-s2]at e;have c:i-a.length=0:=by grind
  rw[c]at f e;cases f;cases e;exact⟨rfl,g,rfl,rfl⟩
 cases c:(V.sp.x).ownBlock with
 |none=>
  rw[c]at b;have k:=qr b;have a:=h.aA k;exact⟨a.hw,a.bh,a.fs,a.sl,a.bA,a.sb,a.bI,a.sq,a.db,a.bE,a.dq,a.fl,a.ca,d (fun h=>h.aA k) (j.aA k),a.tt,a.ap⟩
 |some a=>
  rw[c]at b;obtain⟨a,a⟩:=s1.obj c;obtain⟨n,g,c,e,f,k,p,q,q⟩:=h.kept b a;exact⟨nT h.hw b.size,h.bh,n Dc,g (.inl Dc),h.bA,c (.inl Dc),h.bI,h.sq,e (.inl Dc),h.bE,f Dc,k Dc (.inl Dc),p Dc,d (fun h=>h.kind b a Dc) (j.kind b a Dc),q Dc,h.ap⟩
theorem MkR.addT(h:MkR base hi w V m vt T)(c:w.grownBy w' (vt.x).ownBlock)(s:Sli)(d:zb zcS base w' (s.x) (T++[u])):MkR base hi w' V m s (T++[u]):=by
 cases b:(vt.x).ownBlock with
 |none=>
  rw[b]at c;have a:=h.aA (qr c);exact⟨a.hw,a.bh,a.fs,a.sl,a.bA,a.sb,a.bI,a.sq,a.db,a.bE,a.dq,a.fl,a.ca,a.sp,d,a.ap⟩
 |some g=>
  rw[b]at c;obtain⟨a,a⟩:=h.tt.obj b;obtain⟨b,e,g,i,j,k,l,n,p⟩:=h.kept c a;exact⟨nT h.hw c.size,h.bh,b Dc,e (.inl Dc),h.bA,g (.inl Dc),h.bI,h.sq,i (.inl Dc),h.bE,j Dc,k Dc (.inl Dc),l Dc,n Dc Dc,d,h.ap⟩
theorem zP.row(h:zb E base w A y)(b:w.grownBy w' A.ownBlock)(d:∀p,¬Loc hi p E.ty):zP hi w w':=by
 cases a:A.ownBlock with
 |none=>
  rw[a]at b;exact zP.aA (qr b)
 |some g=>
  rw[a]at b;obtain⟨c,c⟩:=h.obj a;exact zP.kind b c (fun p a=>absurd a (d p))
theorem zt.row(h:zb E base w A y)(c:w.grownBy w' A.ownBlock)(a:zt w b t D)(ht:t≠E.ty):zt w' b t D:=a.beside c fun g e=>h.ne a ht g e
theorem zc.row(h:zb E w0.heap.size w A y)(b:w.grownBy w' A.ownBlock)(a:zc w0 w):zc w0 w':=zW a b fun g e=>(h.lt g e).1
end
section
variable{w0 w w':Xn}{hi b S0:Nat}{vl:Sli}{L:List Int}{V:MaV}{m:Ma}{vt:Sli}{T:List (Nat->En)}
theorem Mk.area(h:Mk w0 hi w b vl L V m vt T)(i:SpB w0.heap.size S0 w V m)(a:w.grownBy w' (Xa k))(d:zt w k 77 D)(f:S0<=k)(c:w0.heap.size<=k):Mk w0 hi w' b vl L V m vt T/\SpB w0.heap.size S0 w' V m:=by refine⟨⟨zd h.gr a c,h.hb,h.box.beside a (fun g e=>?_),h.lr,h.lc,h.lb,h.rows.area i a d f⟩,i.kind a d Dc (.inr f)⟩;cases e;intro e;subst e;have a:w.heap[b]?=_:=h.box;rw[show w.heap[b]?=_ from d]at a;cases a
theorem SpB.pick(c:SpB w0.heap.size S0 w V m)(h:Mk w0 hi w b vl L V m vt T)(a:w.grownBy w' (Xa b)):SpB w0.heap.size S0 w' V m:=c.kind a h.box Dc (.inl Dc)
theorem zb.pick(c:zb arE w0.heap.size w A l)(h:Mk w0 hi w b vl L V m vt T)(a:w.grownBy w' (Xa b)):zb arE w0.heap.size w' A l:=c.kind a h.box Dc
end
theorem JE:Loc hi k 77:=⟨Dc,Dc,Dc,Dc,Dc,Dc,Dc,Dc,fun h=>absurd h Dc⟩
theorem q9(w:Xn)(g i:Nat)(u):w.grownBy (w.setCell ⟨g,i,Xb⟩ u) (Xa g):=⟨rfl,rfl,rfl,by simp[World.setCell],fun k _ a=>Below.heap_setCell _ _ _ _ (fun e=>a (by rw[e]))⟩
def Spc(w0:Xn)(hi b:Nat)(w:Xn)(L:List Int)(m:Ma)(T:List (Nat->En))(w':Xn):Prop:=∃vl' L' V' m' vt' T' l,Mk w0 hi w' b vl' L' V' m' vt' T'/\zbl L L'/\zP hi w w'/\qq m' T'/\(m'.sp=m.sp++[⟨Xc,l,qI⟩]/\m'.fl=m.fl/\m'.aB=m.aB/\m'.fs.length=m.fs.length)/\(qT m.fl.length l/\QF l 64<=12)/\(L=[]->m'={m with sp:=m.sp++[⟨Xc,[],qI⟩]}/\T'=T++[fun _=>en0])
theorem zdo(f:Nat->En)(n:Nat):q6 f n (f n)=f:=by
 funext j;unfold q6;split
 ·rename_i e
  rw[e]
 rfl
theorem zfL{x:α}(h:y[k]?=Xa x):y.set k x=y:=by apply Xw;grind
section
variable{m:Ma}{T:List (Nat->En)}{s0 s1:Sp}{fA fB:Nat->En}{n:Nat}
theorem qq.entry0(h:qq m T)(a:m.sp[0]?=Xa s0)(b:T[0]?=Xa fA)(c:n<64):fA n=en0\/(∃(k:Nat)(fr:Fr),(fA n).kind=1/\(fA n).n=(k:Int)/\m.fs[k]?=Xa fr)\/(∃(k:Nat)(z:Int),(fA n).kind=2/\(fA n).n=(k:Int)/\m.sl[k]?=Xa z/\0<=z/\z<=1000):=by
 rcases h.aN 0 s0 fA a b n c with e|e;·exact .inl e
 by_cases b:(fA n).kind=2
 ·refine .inr (.inr ?_);obtain⟨c,a,a⟩:=e;obtain⟨d,d,d⟩:=q7 c;unfold zaK at a;by_cases c:(zl s0.aC n).is=Xd;·grind
  rw[kF c,kE b]at a;split at a;·cases a
  rename_i a
  have a:(fA n).n.toNat<m.sl.length:=by grind
  have c:=h.cs _ _ (gE a);have c:=zan T 2 ((fA n).n.toNat:Int);have c:=h.tl;have c:=h.aI;grind
 obtain⟨c,d,d,_⟩:=zT e b;have a:(fA n).n.toNat<m.fs.length:=Wm;exact .inr (.inl ⟨(fA n).n.toNat,m.fs[(fA n).n.toNat],c,Wm,gE a⟩)
theorem qq.forkP(h:qq m T)(hs0:m.sp[0]?=Xa s0)(hs1:m.sp[1]?=Xa s1)(har:s1.aC=s0.aC)(hA:T[0]?=Xa fA)(hB:T[1]?=Xa fB)(hn:n<64)(hBn:fB n=en0)(hk:m.fs[k]?=Xa Y)(hkind:(fA n).kind=1)(hen:(fA n).n=(k:Int))(he:Z=if(zl s0.aC n).sh=Xc then fA n else{fA n with wr:=false}):
  qq {m with fs:=m.fs.set k {Y with r:=Y.r+1}} ((T.set 0 (q6 fA n Z)).set 1 (q6 fB n Z)):=by
 have hne:fA n≠en0:=fun e=>by rw[e]at hkind;cases hkind
 have hok:QI m (zl s0.aC n) (fA n):=(h.aN 0 s0 fA hs0 hA n hn).resolve_left hne;by_cases hsh:(zl s0.aC n).sh=Xc
 ·rw[kE hsh]at he;subst he;rw[zdo,zfL hA];refine h.share hk hA rfl hB Dc hn hBn hs1 (Rx har hok) hkind hen (fun _ hf=>?_);obtain⟨h1,h2,h3⟩:=hok;grind[zaK,zl,zZ,zH]
 rw[kF hsh]at he;subst he;have g:=h.guard hA hn hne;have hA':(T.set 0 (q6 fA n {fA n with wr:=false}))[0]?=Xa (q6 fA n {fA n with wr:=false}):=sF (gS.1 hA).1;have hB':(T.set 0 (q6 fA n {fA n with wr:=false}))[1]?=Xa fB:=by rw[sN Dc];exact hB
 have hv:q6 fA n {fA n with wr:=false} n={fA n with wr:=false}:=by unfold q6;rw[kE rfl]
 refine g.share hk hA' hv hB' Dc hn hBn hs1 ?_ hkind hen (fun e=>by cases e);rw[har];have:=g.aN 0 s0 _ hs0 hA' n hn;rw[hv]at this;refine this.resolve_left fun e=>?_;have:({fA n with wr:=false}:En).kind=en0.kind:=by rw[e]
 rw[show({fA n with wr:=false}:En).kind=(fA n).kind from rfl,hkind]at this;cases this
theorem qq.forkS(h:qq m T)(f:m.sp[0]?=Xa s0)(g:m.sp[1]?=Xa s1)(c:s1.aC=s0.aC)(i:T[0]?=Xa fA)(p:T[1]?=Xa fB)(j:n<64)(b:fB n=en0)(q:m.sl[k]?=Xa z)(a:(fA n).kind=2)(d:(fA n).n=(k:Int)):
  qq {m with sl:=m.sl.set k (z+1)} ((T.set 0 (q6 fA n (fA n))).set 1 (q6 fB n (fA n))):=by
 have e:fA n≠en0:=fun l=>by rw[l]at a;cases a
 rw[zdo,zfL i];exact h.shareS q p j b g (by rw[c];exact(h.aN 0 s0 fA f i n j).resolve_left e) a d
theorem zm1(c:T[0]?=Xa fA)(d:T[1]?=Xa fB)(a:fA n=en0)(b:fB n=en0):(T.set 0 (q6 fA n en0)).set 1 (q6 fB n en0)=T:=by grind[q6,en0,zdo,zfL]
end
section
variable{α:Type}{E:Elt α}
theorem zaT(p x t)(A:o.op=.store t p x)(base:Nat)(v:Xq)(l:List α)(b:zb E base w v l)
  (g i j:Nat)(s:v.ownBlock=Xa g)(e y:α)(hi:l[i]?=Xa e)(cs:List Xq)(f:(Tryz.prog.info? t).map (·.size)=Xa cs.length)(D:E.enc y=splice (E.enc e) j cs)(z:j+cs.length<=E.k)(n:∀u∈cs,u.oneCell'=Xc)
  (ad:Addr)(hp:a.eval p=Xj (Xa ad))(c:ad=⟨g,i*E.k+j,Xb⟩)(k:Xq)(C:a.eval x=k)(h:k.cells=cs.toArray):
  ∃w',(execOp a.eval o).run prog w=.ok .skip w'/\zb E base w' v (l.set i y)/\w.grownBy w' (Xa g)/\w'.heap.size=w.heap.size:=by
 subst c;have d:=(gS.1 hi).1;have c:i*E.k+j+cs.length<=l.length*E.k:=by
  have:(i+1)*E.k<=l.length*E.k:=Yj _ d;rw[Oc]at this;omega
 obtain⟨w',B,m,q,r⟩:=jP (P:=prog) b.1 s (i*E.k+j) cs c n;have d:(Go.sizeOf t).run prog w=.ok cs.length w:=by
  cases c:Tryz.prog.info? t with
  |none=>simp[c]at f
  |some i=>simp[c]at f;simp[Go.sizeOf,typeInfo,c,f]
 have c:(Instr.storeAt t (Xj (Xa ⟨g,i*E.k+j,Xb⟩)) k).run prog w=.ok () w':=by
  simp[Instr.storeAt,Instr.sureAddr,storeVar,Xs,d,Result.andThen,h,B]
 rw[Ju j cs D z l i hi]at m;refine⟨w',?_,⟨Rx Xt m,Rx Xt b.2⟩,q,r⟩;simp only[execOp,A,hp,C,Xs,c,Result.andThen,Xx]
theorem zei{P:Program}(b:(execOp a.eval o).run P w=.ok .skip w')(h:N undef w'):zJ P o a w N:=by unfold zJ;rw[b];exact h
end
theorem zdR:Loc hi k 55:=⟨Dc,Dc,Dc,Dc,Dc,Dc,Dc,Dc,fun h=>absurd h Dc⟩
theorem zc8:Loc hi k 68:=⟨Dc,Dc,Dc,Dc,Dc,Dc,Dc,Dc,fun h=>absurd h Dc⟩
theorem Zs{K:Xq->Xn->Prop}(d p x)(n:o.op=.store d p x)(b c:Nat)(hp:a.eval p=Xj (Xa ⟨b,c,Xb⟩))(g:Xq)(r:a.eval x=g)(vs:List Xq)(f:g.cells=vs.toArray)
  {t:TypeId}{cs:List Xq}(h:zt w b t cs)(m:c+vs.length<=cs.length)(hi:(Tryz.prog.info? d).map (·.size)=Xa vs.length)(j:∀v∈vs,v.oneCell'=Xc)
  (i:∀w',zt w' b t (splice cs c vs)->w.grownBy w' (Xa b)->w'.heap.size=w.heap.size->K undef w'):zJ prog o a w K:=by
 have e:(Value.agg vs.toArray).cells=vs.toArray:=by
  unfold Value.cells;simp
 have q:(execOp a.eval o).run prog w=.ok .skip (w.setCells b c vs):=by
  have k:=run_storeAt_mid (P:=prog) w b c d vs.toArray (fun s l=>by
   have:=h.box.there (c+s) (by simp at l;omega)
   rw[zA]at this;exact this) (Si hi) (all_oneCell_toArray j)
  have j:(Instr.storeAt d (Xj (Xa ⟨b,c,Xb⟩)) g).run prog w=(Instr.storeAt d (Xj (Xa ⟨b,c,Xb⟩)) (Xi vs.toArray)).run prog w:=by
   simp only[Instr.storeAt,Instr.sureAddr,storeVar,f,e]
  simp only[execOp,n,hp,r,Xs,j,k,rA,Xx]
 exact zei q (i _ (h.part (ds:=vs) (o:=c) m) (zV b vs c w).1 (zV b vs c w).2)
theorem ZR(d:o.guard=Xb)(f p x)(l:o.op=.store f p x)(b c:Nat)(hp:a.eval p=Xj (Xa ⟨b,c,Xb⟩))(g:Xq)(m:a.eval x=g)(vs:List Xq)(e:g.cells=vs.toArray)
  {t:TypeId}{cs:List Xq}(j:zt w b t cs)(k:c+vs.length<=cs.length)(hi:(Tryz.prog.info? f).map (·.size)=Xa vs.length)(i:∀v∈vs,v.oneCell'=Xc)
  (h:∀w',zt w' b t (splice cs c vs)->w.grownBy w' (Xa b)->w'.heap.size=w.heap.size->wpList prog ops Q K (a.put o.dst undef) w'):wpList prog ops Q (o::K) a w:=
 wpList_plain d fun _ d=>(Zs (K:=fun v w'=>v=undef/\wpList prog ops Q K (a.put o.dst undef) w') f p x l b c hp g m vs e j k hi i (fun w' c e f=>⟨rfl,h w' c e f⟩)).wp (fun v w' c=>d _ _ (Rx c.1 c.2))
theorem zbZ(e x)(g:o.op=.load e x)(b c:Nat)(j:a.eval x=Xj (Xa ⟨b,c,Xb⟩))(vs:List Xq)(f:w.rangeAt b c vs){d:TypeDesc}(i:Tryz.prog.underlying e=Xa d)(hd:d.isRow=Xc)(hi:(Tryz.prog.info? e).map (·.size)=Xa vs.length)(h:N (Xi vs.toArray) w):zJ prog o a w N:=by have:=run_loadAt_mid (P:=prog) w b c e vs d f i hd hi;exact zJ.step (by simp only[execOp,g,j,Xs,this,rA,Xx]) h
theorem zln(f:TypeId)(x:Operand)(j:o.op=.load f x)(b c:Nat)(l:a.eval x=Xj (Xa ⟨b,c,Xb⟩))(v:Xq)(i:w.cell? ⟨b,c,Xb⟩=Xa v){d:TypeDesc}(k:Tryz.prog.underlying f=Xa d)(hd:d.isRow=Xd)(h:N v w):zJ prog o a w N:=by
 have e:(isAgg f).run prog w=.ok Xd w:=by
  unfold isAgg;rw[Xs,run_underlying k w];cases d<;>simp_all [TypeDesc.isRow]
 have g:(loadVar f ⟨b,c,Xb⟩).run prog w=.ok v w:=by simp[loadVar,Xs,e,i]
 exact zJ.step (by simp only[execOp,j,l,Instr.loadAt,Instr.sureAddr,Xs,Xx,g,rA]) h
theorem zcT(p x t)(r:o.op=.store t p x)(base:Nat)(v:Xq)(l:List α)(b:zb E base w v l)
  (g i j:Nat)(m:v.ownBlock=Xa g)(e y:α)(hi:l[i]?=Xa e)(cs:List Xq)(q:(Tryz.prog.info? t).map (·.size)=Xa cs.length)(z:E.enc y=splice (E.enc e) j cs)(n:j+cs.length<=E.k)(k:∀u∈cs,u.oneCell'=Xc)
  (ad:Addr)(hp:a.eval p=Xj (Xa ad))(d:ad=⟨g,i*E.k+j,Xb⟩)(c:Xq)(s:a.eval x=c)(f:c.cells=cs.toArray)
  (h:∀w',zb E base w' v (l.set i y)->w.grownBy w' (Xa g)->w'.heap.size=w.heap.size->N undef w'):zJ prog o a w N:=by grind[zaT,zei]
theorem Q6.form(h:Q6 B0 B1 w us G):∃a t1 t2 b c d e f:Sli,us=[a.v,t1.v,t2.v,b.v,c.v,d.v,e.v,f.v]:=by obtain⟨u0,u1,u2,u3,u4,u5,u6,u7,rfl⟩:=znl h.len;obtain⟨a,a,a,a,a,a,a,a,rfl⟩:=znl h.aJ;obtain⟨a,j,rfl,_⟩:=(h.row 0 _ _ rfl rfl).now.rows;obtain⟨b,k,rfl,_⟩:=(h.row 1 _ _ rfl rfl).now.rows;obtain⟨c,l,rfl,_⟩:=(h.row 2 _ _ rfl rfl).now.rows;obtain⟨d,m,rfl,_⟩:=(h.row 3 _ _ rfl rfl).now.rows;obtain⟨e,n,rfl,_⟩:=(h.row 4 _ _ rfl rfl).now.rows;obtain⟨f,p,rfl,_⟩:=(h.row 5 _ _ rfl rfl).now.rows;obtain⟨g,q,rfl,_⟩:=(h.row 6 _ _ rfl rfl).now.rows;obtain⟨i,r,rfl,_⟩:=(h.row 7 _ _ rfl rfl).now.rows;exact⟨⟨a,_,j⟩,⟨b,_,k⟩,⟨c,_,l⟩,⟨d,_,m⟩,⟨e,_,n⟩,⟨f,_,p⟩,⟨g,_,q⟩,⟨i,_,r⟩,rfl⟩
theorem zjR(m:Ma)(e:En)(n:Int):(Q3 m e n).sp=m.sp:=by
 unfold Q3;split;·rfl
 split<;>rfl
theorem zlj(m:Ma)(q:Nat)(n:Int)(e):(jQ m q n e).sp.length=m.sp.length:=by simp[jQ]
def znQ(m:Ma):Prop:=∀s∈m.sp,(wrL s.aC).1=0/\tbW s.tb=0
theorem zmi(h:QY m=0):znQ m:=fun s a=>by
 unfold QY at h;split at h;·cases h
 have:=zk.1 h (spE s) (Yg.2 ⟨s,a,rfl⟩);grind[spE]
theorem zql(h:tbW s.tb=0)(n:Nat):enW (zh s n)=0:=by
 unfold zh zbf;have a:=Zo.1 h;have:zie (s.tb[n/8]?.getD []):=by
  cases e:s.tb[n/8]? with
  |none=>exact .inl rfl
  |some x=>exact a x (mG e)
 exact this.get (n%8)
theorem zgh(h:k<64):zeM s.tb (k:Int)=zh s k:=by unfold zeM zh;rw[kE Wm,tN]
theorem zg5(h:(qW s)[j]?=Xa k):k<64:=by have:=mG h;unfold qW at this;rw[List.mem_filter,Ym]at this;exact this.1
theorem zgq:∀{l:List Ar}{p:Option Ar}{k:Nat}{a:Ar},QP p l->l[k]?=Xa a->jD a
 |[],_,_,_,_,h=>by simp at h
 |b::l,p,0,a,c,h=>by
  simp at h
  subst h;exact c.1
 |b::l,p,k+1,a,c,h=>zgq c.2.2 (Si h)
structure zaM where
 ty:TypeId
 enc:Int×Int->Xq
 bJ:∃fs,Tryz.prog.underlying ty=Xa (.struct fs)
 check:∀(em:Bool)(a:Int×Int)(w:Xn),(Instr.checkKey em 10000 ty (enc a)).run prog w=.ok () w
 same:∀(a b:Int×Int)(w:Xn),(Op.equal ty (enc a) (enc b)).run prog w=.ok (decide (a=b)) w
 bits:∀a:Int×Int,Instr.sameBits 10000 (enc a) (enc a)=Xc
def zaP:List ((Int×Int)×Int)->Int×Int->Option Int
 |[],_=>Xb
 |p::l,k=>if k=p.1 then Xa p.2 else zaP l k
def zec:List ((Int×Int)×Int)->Int×Int->Nat->Option (Nat×Xq)
 |[],_,_=>Xb
 |p::l,k,i=>if k=p.1 then Xa (i,Xe Xf p.2)else zec l k (i+1)
def ziD:List ((Int×Int)×Int)->Int×Int->Int->List ((Int×Int)×Int)
 |[],k,v=>[(k,v)]
 |p::l,k,v=>if k=p.1 then(k,v)::l else p::ziD l k v
theorem zbI:∀(l:List ((Int×Int)×Int))(k x:Int×Int)(v:Int),zaP (ziD l k v) x=if x=k then Xa v else zaP l x
 |[],k,x,v=>by simp[ziD,zaP]
 |p::l,k,x,v=>by
  unfold ziD
  by_cases h:k=p.1
  ·rw[kE h];unfold zaP
   by_cases a:x=k
   ·simp[a]
   have b:¬x=p.1:=fun e=>a (e.trans h.symm)
   simp[a,b]
  rw[kF h];unfold zaP;rw[zbI l];by_cases a:x=p.1;·rw[kE a,kE a,kF (fun e=>h (e.symm.trans a))]
  rw[kF a,kF a]
theorem zaJ:∀{l:List ((Int×Int)×Int)}{k:Int×Int}{i:Nat},zec l k i=Xb->zaP l k=Xb/\∀v,ziD l k v=l++[(k,v)]
 |[],k,i,_=>⟨rfl,fun v=>rfl⟩
 |p::l,k,i,h=>by
  unfold zec at h
  by_cases e:k=p.1
  ·rw[kE e]at h;cases h
  rw[kF e]at h;obtain⟨a,b⟩:=zaJ h;refine⟨by unfold zaP;rw[kF e,a],fun v=>?_⟩
  unfold ziD;rw[kF e,b];rfl
theorem zaI:∀{l:List ((Int×Int)×Int)}{k:Int×Int}{i j:Nat}{u:Xq},zec l k i=Xa (j,u)->∃n z,u=I6 z/\j=i+n/\l[n]?=Xa (k,z)/\zaP l k=Xa z/\∀v,ziD l k v=l.set n (k,v)
 |[],k,i,j,u,h=>by cases h
 |p::l,k,i,j,u,h=>by
  unfold zec at h
  by_cases e:k=p.1
  ·rw[kE e]at h;cases h;refine⟨0,p.2,rfl,rfl,Rr e,by unfold zaP;rw[kE e],fun v=>?_⟩
   unfold ziD;rw[kE e];rfl
  rw[kF e]at h;obtain⟨n,z,a,b,b,c,d⟩:=zaI h;refine⟨n+1,z,a,Wm,Si b,by unfold zaP;rw[kF e,c],fun v=>?_⟩
  unfold ziD;rw[kF e,d];rfl
def Qk(K:zaM)(w:Xn)(b:Nat)(g:Int×Int->Option Int):Prop:=
 ∃es clock l,w.heap[b]?=Xa (.map es clock)/\(es.toList.map (fun e=>(e.key,e.val))=l.map (fun p:(Int×Int)×Int=>(K.enc p.1,Value.int .i64 p.2))/\(es.toList.map (·.born)).Pairwise (·<·)/\∀e∈es.toList,e.born<clock)/\∀k,zaP l k=g k
theorem Qk.lt{K:zaM}(h:Qk K w b X):b<w.heap.size:=by obtain⟨a,c,l,a,_⟩:=h;exact(aS.1 a).1
theorem Qk.made(K:zaM)(w:Xn):Qk K (w.alloc (.map #[] 0)) w.heap.size (fun _=>Xb):=⟨#[],0,[],by
 show(w.heap.push _)[w.heap.size]?=_
 simp,⟨rfl,List.Pairwise.nil,fun e a=>by cases a⟩,fun k=>rfl⟩
theorem Qk.aA{K:zaM}{g:Int×Int->Option Int}(h:Qk K w b g)(i:zc w w'):Qk K w' b g:=by have a:=h.lt;obtain⟨d,c,l,e,f⟩:=h;exact⟨d,c,l,(Below.block i b a).trans e,f⟩
theorem Qk.kept{K:zaM}{a:Option Nat}(h:Qk K w b X)(j:w.grownBy w' a)(c:Xa b≠a):Qk K w' b X:=by have a:=h.lt;obtain⟨e,d,l,f,i⟩:=h;exact⟨e,d,l,(j.block b a c).trans f,i⟩
theorem Qk.congr{K:zaM}{a:Int×Int->Option Int}(h:Qk K w b X)(e:∀k,X k=a k):Qk K w b a:=by obtain⟨a,c,l,d,f,i⟩:=h;exact⟨a,c,l,d,f,fun k=>(i k).trans (e k)⟩
theorem zaU(K:zaM)(k:Int×Int)(w):∀(l:List ((Int×Int)×Int))(a:List MapEntry)(i:Nat),a.map (fun e=>(e.key,e.val))=l.map (fun p=>(K.enc p.1,I6 p.2))->(Instr.findAsking K.ty (K.enc k) a i).run prog w=.ok (zec l k i) w
 |[],[],i,_=>rfl
 |[],e::a,i,h=>by simp at h
 |p::l,[],i,h=>by simp at h
 |p::l,e::a,i,h=>by
  simp only[mP,List.cons.injEq,pJ]at h;obtain⟨⟨b,c⟩,d⟩:=h;unfold Instr.findAsking zec;simp only[Xs,b,K.same,rA]
  by_cases b:k=p.1;·simp[b,c]
  simp[b,zaU K k w l a (i+1) d]
theorem za3(K:zaM)(k:Int×Int)(w)(l:List ((Int×Int)×Int))(a:List MapEntry)(h:a.map (fun e=>(e.key,e.val))=l.map (fun p=>(K.enc p.1,I6 p.2))):(Instr.findKey K.ty (K.enc k) a).run prog w=.ok (zec l k 0) w:=by
 obtain⟨b,c⟩:=K.bJ;unfold Instr.findKey;simp only[Xs,run_underlying c,rA];cases a with
 |nil=>
  cases l with
  |nil=>rfl
  |cons p l=>simp at h
 |cons e a=>
  have:Instr.findNow (.struct b) (K.enc k) (e::a) 0=Xb:=by simp[Instr.findNow,Instr.sameNow]
  rw[this];exact zaU K k w l (e::a) 0 h
theorem Qk.look{K:zaM}(a:Qk K w b X){e:TypeId}(ht:Tryz.prog.underlying t=Xa (.map K.ty e))(j:(zeroValue e).run prog w=.ok (I6 0) w)(k:Int×Int)(c:Bool):
  (Instr.lookup t (.map (Xa b)) (K.enc k) c).run prog w=.ok (if c then Xm #[I6 ((X k).getD 0),Xh (X k).isSome]else I6 ((X k).getD 0)) w:=by
 obtain⟨d,f,l,f,⟨i,_⟩,h⟩:=a;have a:=za3 K k w l d.toList i;unfold Instr.lookup;cases d:zec l k 0 with
 |none=>
  rw[d]at a;have:=(zaJ d).1;rw[h k]at this;cases c<;>simp[run_underlying ht,MapKept.run_getObj_map f,K.check,a,j,this]
 |some q=>
  obtain⟨j,u⟩:=q;rw[d]at a;obtain⟨n,z,rfl,_,_,i,_⟩:=zaI d;rw[h k]at i;cases c<;>simp[run_underlying ht,MapKept.run_getObj_map f,K.check,a,i]
theorem zdN(f:MapEntry->MapEntry)(b:∀e,(f e).born=e.born):∀(a:List MapEntry)(n:Nat),(a.modify n f).map (·.born)=a.map (·.born)
 |[],n=>Sm
 |e::a,0=>by simp[b]
 |e::a,n+1=>by simp[zdN f b a n]
structure ZP(K:zaM)(es:Array MapEntry)(cl:Nat)(l:List ((Int×Int)×Int)):Prop where
 cJ:es.toList.map (fun e=>(e.key,e.val))=l.map (fun p=>(K.enc p.1,Value.int .i64 p.2))
 rise:(es.toList.map (·.born)).Pairwise (·<·)
 low:∀e∈es.toList,e.born<cl
theorem ZP.push{K:zaM}{a:Array MapEntry}{l:List ((Int×Int)×Int)}(h:ZP K a cl l)(k:Int×Int)(v:Int):ZP K (a.push ⟨K.enc k,I6 v,cl⟩) (cl+1) (l++[(k,v)]):=by
 refine⟨by simp[h.cJ],?_,fun e a=>?_⟩
 ·simp only[Oa,List.map_append,mP,Ye];rw[List.pairwise_append];refine⟨h.rise,Sm,fun b c b b=>?_⟩;obtain⟨e,a,rfl⟩:=Yg.1 c;simp at b;rw[b];exact h.low e a
 simp only[Oa,List.mem_append,List.mem_singleton]at a;rcases a with a|rfl;·have:=h.low e a;omega
 simp
theorem ZP.modify{K:zaM}{a:Array MapEntry}{l:List ((Int×Int)×Int)}(h:ZP K a cl l)(d:l[k]?=Xa (S,z))(f:MapEntry->MapEntry)(v:Int)(c:∀e,(f e).born=e.born)(b:∀e,e.key=K.enc S->e.val=I6 z->(f e).key=K.enc S/\(f e).val=I6 v):ZP K (a.modify k f) cl (l.set k (S,v)):=by
 have b:(a.modify k f).toList.map (·.born)=a.toList.map (·.born):=by rw[Yw];exact zdN f c a.toList k
 refine⟨?_,Rx b h.rise,fun e c=>?_⟩
 ·have d:=h.cJ;rw[Yw];apply Xw;intro j;have g:=congrArg (fun(x:List (Xq×Xq))=>x[j]?) d;grind
 have:e.born∈a.toList.map (·.born):=by rw[<-b];exact Yg.2 ⟨e,c,rfl⟩
 obtain⟨b,a,c⟩:=Yg.1 this;rw[<-c];exact h.low b a
theorem ZP.at{K:zaM}{b:Array MapEntry}{l:List ((Int×Int)×Int)}(h:ZP K b cl l)(a:l[k]?=Xa (S,z)):∃a,b[k]?=Xa a/\a.key=K.enc S/\a.val=I6 z:=by have:=congrArg (fun(x:List (Xq×Xq))=>x[k]?) h.cJ;grind
theorem zkb:∀{l:List Nat},l.Pairwise (·<·)->∀{i j:Nat}{x:Nat},l[i]?=Xa x->l[j]?=Xa x->i=j
 |[],_,i,j,x,h,_=>by simp at h
 |a::l,hp,i,j,x,h,b=>by
  rw[Yy]at hp
  cases i with
  |zero=>
   cases j with
   |zero=>rfl
   |succ j=>
    simp at h b
    subst h;have:=hp.1 a (mG b);omega
  |succ i=>
   cases j with
   |zero=>
    simp at h b;subst b;have:=hp.1 a (mG h);omega
   |succ j=>
    simp at h b;rw[zkb hp.2 h b]
theorem zdP{K:zaM}{f c:Array MapEntry}{l:List ((Int×Int)×Int)}{k:Int×Int}{v:Int}(e:w.heap[b]?=Xa (.map f cl))(h:∀k,zaP l k=X k)(d:ZP K c p (ziD l k v)):
  Qk K (ChangeMaps.setBlock w b (.map c p)) b (fun x=>if x=k then Xa v else X x)/\w.grownBy (ChangeMaps.setBlock w b (.map c p)) (Xa b)/\(ChangeMaps.setBlock w b (.map c p)).heap.size=w.heap.size:=by refine⟨⟨c,p,ziD l k v,ChangeMaps.heap_setBlock_same e _,⟨d.cJ,d.rise,d.low⟩,fun x=>?_⟩,⟨rfl,rfl,rfl,by simp[ChangeMaps.setBlock],fun i _ p=>ChangeMaps.heap_setBlock_other e _ (fun e=>p (by rw[e]))⟩,by simp[ChangeMaps.setBlock]⟩;rw[zbI,h]
theorem Qk.put{K:zaM}(a:Qk K w b X){e:TypeId}(ht:Tryz.prog.underlying t=Xa (.map K.ty e))(k:Int×Int)(v:Int):
  ∃w',(Instr.mapUpdate t (.map (Xa b)) (K.enc k) (I6 v)).run prog w=.ok () w'/\Qk K w' b (fun x=>if x=k then Xa v else X x)/\w.grownBy w' (Xa b)/\w'.heap.size=w.heap.size:=by
 obtain⟨i,h,l,c,⟨f,d,j⟩,m⟩:=a;have a:ZP K i h l:=⟨f,d,j⟩;have d:=za3 K k w l i.toList f;cases j:zec l k 0 with
 |none=>
  rw[j]at d;have f:=(zaJ j).2 v;refine⟨ChangeMaps.setBlock w b (.map (i.push ⟨K.enc k,I6 v,h⟩) (h+1)),?_,zdP c m (Rx f (a.push k v))⟩;simp[Instr.mapUpdate,run_underlying ht,MapKept.run_getObj_map c,K.check,d,MapKept.run_setObj_map _ c,ChangeMaps.setBlock]
 |some q=>
  obtain⟨f,u⟩:=q;rw[j]at d;obtain⟨p,z,rfl,rfl,l,_,n⟩:=zaI j;rw[zA]at d;obtain⟨f,f,j,_⟩:=a.at l;refine⟨ChangeMaps.setBlock w b (.map (i.modify p fun e=>{e with key:=K.enc k,val:=I6 v}) h),?_,zdP c m (by rw[n];exact a.modify l _ v (fun _=>rfl) (fun _ _ _=>⟨rfl,rfl⟩))⟩;simp[Instr.mapUpdate,run_underlying ht,MapKept.run_getObj_map c,K.check,d,f,j,Instr.keyThatStays,K.bits,MapKept.run_setObj_map _ c,ChangeMaps.setBlock]
def zqP(K:zaM)(w:Xn)(b:Nat)(g:Int×Int->Option Int)(k:Int×Int)(st:Int):Prop:=
 ∃es cl l,w.heap[b]?=Xa (.map es cl)/\ZP K es cl l/\(∀k,zaP l k=g k)/\∃(n:Nat)(z:Int)(e:MapEntry),l[n]?=Xa (k,z)/\(∀v,ziD l k v=l.set n (k,v))/\es[n]?=Xa e/\(e.born:Int)=st
theorem zqP.f{K:zaM}{k:Int×Int}{a:Int}(h:zqP K w b X k a):Qk K w b X:=by obtain⟨d,c,l,e,a,f,_⟩:=h;exact⟨d,c,l,e,⟨a.cJ,a.rise,a.low⟩,f⟩
theorem zg1:∀{l:List ((Int×Int)×Int)}{k:Int×Int}(z v:Int),zaP l k=Xb->ziD (l++[(k,z)]) k v=(l++[(k,z)]).set l.length (k,v)
 |[],k,z,v,_=>by simp[ziD]
 |p::l,k,z,v,h=>by
  unfold zaP at h
  by_cases e:k=p.1
  ·rw[kE e]at h;cases h
  rw[kF e]at h;simp only[List.cons_append,ziD,e,if_false,Yp,sS];rw[zg1 z v h]
theorem Qk.entry{K:zaM}(h:Qk K w b X){e:TypeId}(ht:Tryz.prog.underlying t=Xa (.map K.ty e))(s:(zeroValue e).run prog w=.ok (I6 0) w)(k:Int×Int):
  ∃w' a,(Instr.mapEntry t (.map (Xa b)) (K.enc k)).run prog w=.ok (Xm #[I6 ((X k).getD 0),I6 a]) w'/\zqP K w' b (fun x=>if x=k then Xa ((X k).getD 0)else X x) k a/\w.grownBy w' (Xa b)/\w'.heap.size=w.heap.size:=by
 obtain⟨i,f,l,c,⟨r,a,d⟩,j⟩:=h;have h:ZP K i f l:=⟨r,a,d⟩;have m:=za3 K k w l i.toList r;cases q:zec l k 0 with
 |none=>
  rw[q]at m;obtain⟨p,d⟩:=zaJ q;have n:X k=Xb:=Ry j p;have a:=h.push k 0;have u:=zdP c j (k:=k) (v:=0) (Rx d a);refine⟨ChangeMaps.setBlock w b (.map (i.push ⟨K.enc k,I6 0,f⟩) (f+1)),f,?_,⟨_,_,_,ChangeMaps.heap_setBlock_same c _,a,fun x=>?_,l.length,0,⟨K.enc k,I6 0,f⟩,Sm,fun A=>zg1 0 A p,?_,rfl⟩,u.2⟩
  ·rw[n]
   simp[Instr.mapEntry,run_underlying ht,MapKept.run_getObj_map c,K.check,m,s,MapKept.run_setObj_map _ c,ChangeMaps.setBlock,goInt]
  ·rw[n,<-d,zbI,j];rfl
  have:i.size=l.length:=by have:=congrArg Yo r;simpa using this
  simp[<-this]
 |some d=>
  obtain⟨p,p⟩:=d;rw[q]at m;obtain⟨r,z,rfl,rfl,p,B,s⟩:=zaI q;rw[zA]at m;obtain⟨y,d,q,C⟩:=h.at p;have n:X k=Xa z:=Ry j B;have a:ZP K (i.modify r fun e=>{e with key:=K.enc k}) f (l.set r (k,z)):=h.modify p (fun e=>{e with key:=K.enc k}) z (fun _=>rfl) (fun _ _ h=>⟨rfl,h⟩);have u:=zdP c j (k:=k) (v:=z) (Rx s a);have h:=(gS.1 p).1;refine⟨ChangeMaps.setBlock w b (.map (i.modify r fun e=>{e with key:=K.enc k}) f),y.born,?_,⟨_,_,_,ChangeMaps.heap_setBlock_same c _,a,fun x=>?_,r,z,{y with key:=K.enc k},sF h,fun A=>?_,?_,rfl⟩,u.2⟩
  ·rw[n]
   simp[Instr.mapEntry,run_underlying ht,MapKept.run_getObj_map c,K.check,m,d,q,Instr.keyThatStays,K.bits,MapKept.run_setObj_map _ c,ChangeMaps.setBlock,goInt]
  ·rw[n,<-s,zbI,j];rfl
  ·rw[zfM p,s]
  rw[Array.getElem?_modify,kE rfl,d];rfl
theorem zqP.store{K:zaM}(h:zqP K w b X S C)(t)(v:Int):
  ∃w',(Instr.entryStore t (.map (Xa b)) (I6 C) (I6 v)).run prog w=.ok () w'/\Qk K w' b (fun x=>if x=S then Xa v else X x)/\w.grownBy w' (Xa b)/\w'.heap.size=w.heap.size:=by
 obtain⟨C,p,l,i,f,q,n,z,e,r,s,c,rfl⟩:=h;have j:=(aS.1 c).1;have d:C.findIdx? (fun h=>(h.born:Int)==(e.born:Int))=Xa n:=by
  rw[Array.findIdx?_eq_some_iff_getElem];refine⟨j,?_,fun j l=>?_⟩
  ·have:C[n]=e:=(aS.1 c).2
   simp[this]
  intro u;have m:j<C.size:=Wm;have l:C[j].born=e.born:=by
   have:(C[j].born:Int)=(e.born:Int):=Si u;omega
  have u:(C.toList.map (·.born))[n]?=Xa e.born:=by simp[c]
  have c:(C.toList.map (·.born))[j]?=Xa e.born:=by simp[m,l]
  have:=zkb f.rise u c;omega
 refine⟨ChangeMaps.setBlock w b (.map (C.modify n fun h=>{h with val:=I6 v}) p),?_,zdP i q (by rw[s];exact f.modify r _ v (fun _=>rfl) (fun _ C _=>⟨C,rfl⟩))⟩;simp[Instr.entryStore,MapKept.run_getObj_map i,asInt,asIntOf,d,MapKept.run_setObj_map _ i,ChangeMaps.setBlock]
theorem zlV{K:zaM}{rest:List Oper}(c:o.guard=Xb)(t e m x v)(f:o.op=.mapUpdate t m x v)(ht:Tryz.prog.underlying t=Xa (.map K.ty e))(b:Nat)(g:Int×Int->Option Int)(h:Qk K w b g)(k:Int×Int)(z:Int)
  (j:a.eval m=.map (Xa b))(n:a.eval x=K.enc k)(l:a.eval v=I6 z)
  (i:∀w',Qk K w' b (fun x=>if x=k then Xa z else g x)->w.grownBy w' (Xa b)->w'.heap.size=w.heap.size->wpList prog ops Q rest (a.put o.dst undef) w'):wpList prog ops Q (o::rest) a w:=by refine wpList_plain c fun c d=>?_;obtain⟨w',c,p,q,r⟩:=h.put ht k z;unfold Oper.wp;simp[execOp,f,j,n,l,c,Result.andThen];exact d _ _ (i w' p q r)
theorem zmk(em:Bool)(a:Int×Int)(w):(Instr.checkKey em 10000 174 (Xi #[I6 a.1,I6 a.2])).run prog w=.ok () w:=by
 have hf:(Tryz.prog.fieldsOf 174).toList.map (fun f=>(f.name,f.type,f.offset))=[("file",3,0),("index",3,1)]:=by kernel_rfl
 have hu:∃fs,Tryz.prog.underlying 174=Xa (.struct fs)/\Tryz.prog.fieldsOf 174=fs:=⟨_,underlying174,Kr⟩;obtain⟨fs,hu,hfe⟩:=hu;rw[hfe]at hf;obtain⟨f0,f1,hfs⟩:∃f0 f1,fs.toList=[f0,f1]:=by
  have hl:fs.toList.length=2:=by have:=congrArg Yo hf;simpa using this
  match hq:fs.toList,hl with
  |[f0,f1],_=>exact⟨f0,f1,rfl⟩
 rw[hfs]at hf;simp at hf;obtain⟨⟨n0,t0,o0⟩,⟨n1,t1,o1⟩⟩:=hf;have pI:=zcA w;have pB:=zdG w;have cI:∀(v:Int)(n:Nat),(Instr.checkKey em (n+1) 3 (I6 v)).run prog w=.ok () w:=fun v n=>by
  unfold Instr.checkKey;simp[run_underlying underlying3]
 have cB:∀(v:Bool)(n:Nat),(Instr.checkKey em (n+1) 4 (Xh v)).run prog w=.ok () w:=fun v n=>by
  unfold Instr.checkKey;simp[run_underlying underlying4]
 rw[show(10000:Nat)=9999+1 from rfl,Instr.checkKey];simp only[Xs,run_underlying hu,rA];rw[<-Yz,hfs];have k1:=cI a.1 9998;have k2:=cI a.2 9998;have k3:=cB Xd 9998;have q0:=pI (#[I6 a.1,I6 a.2]) 0 a.1 rfl;have q1:=pI (#[I6 a.1,I6 a.2]) 1 a.2 rfl;simp[List.forIn_cons,n0,t0,o0,n1,t1,o1,q0,q1,k1,k2]
theorem zol(a b:Int×Int)(w):(Op.equal 174 (Xi #[I6 a.1,I6 a.2]) (Xi #[I6 b.1,I6 b.2])).run prog w=.ok (decide (a=b)) w:=by
 have hf:(Tryz.prog.fieldsOf 174).toList.map (fun f=>(f.name,f.type,f.offset))=[("file",3,0),("index",3,1)]:=by kernel_rfl
 unfold Op.equal Op.maxDepth;rw[run_equalIn_struct w 9999 174 _ _ Kr Kr];obtain⟨f0,f1,hfs⟩:∃f0 f1,(Tryz.prog.fieldsOf 174).toList=[f0,f1]:=by
  have hl:(Tryz.prog.fieldsOf 174).toList.length=2:=by have:=congrArg Yo hf;simpa using this
  match hq:(Tryz.prog.fieldsOf 174).toList,hl with
  |[f0,f1],_=>exact⟨f0,f1,rfl⟩
 rw[hfs]at hf⊢;simp at hf;obtain⟨⟨n0,t0,o0⟩,⟨n1,t1,o1⟩⟩:=hf;have pI:=zcA w;have pB:=zdG w;simp only[Op.eqFields,n0,t0,o0,n1,t1,o1];obtain⟨a1,a2⟩:=a;obtain⟨b1,b2⟩:=b;simp[pI,run_equalIn_int w _ _ _ _ _ _ underlying3];by_cases e1:a1=b1<;>by_cases e2:a2=b2<;>simp[e1,e2]
def plK:zaM where
 ty:=174
 enc:=fun a=>Xi #[Xe Xf a.1,Xe Xf a.2]
 bJ:=⟨_,underlying174⟩
 check:=zmk
 same:=zol
 bits:=fun a=>by simp[Instr.sameBits]
theorem znj(em:Bool)(a:Int×Int)(w):(Instr.checkKey em 10000 55 (Xi #[I6 a.1,I6 a.2,Xh Xd])).run prog w=.ok () w:=by
 have hf:(Tryz.prog.fieldsOf 55).toList.map (fun f=>(f.name,f.type,f.offset))=[("Kind",3,0),("N",3,1),("Write",4,2)]:=by kernel_rfl
 have hu:∃fs,Tryz.prog.underlying 55=Xa (.struct fs)/\Tryz.prog.fieldsOf 55=fs:=⟨_,underlying55,Kr⟩;obtain⟨fs,hu,hfe⟩:=hu;rw[hfe]at hf;obtain⟨f0,f1,f2,hfs⟩:∃f0 f1 f2,fs.toList=[f0,f1,f2]:=by
  have hl:fs.toList.length=3:=by have:=congrArg Yo hf;simpa using this
  match hq:fs.toList,hl with
  |[f0,f1,f2],_=>exact⟨f0,f1,f2,rfl⟩
 rw[hfs]at hf;simp at hf;obtain⟨⟨n0,t0,o0⟩,⟨n1,t1,o1⟩,⟨n2,t2,o2⟩⟩:=hf;have pI:=zcA w;have pB:=zdG w;have cI:∀(v:Int)(n:Nat),(Instr.checkKey em (n+1) 3 (I6 v)).run prog w=.ok () w:=fun v n=>by
  unfold Instr.checkKey;simp[run_underlying underlying3]
 have cB:∀(v:Bool)(n:Nat),(Instr.checkKey em (n+1) 4 (Xh v)).run prog w=.ok () w:=fun v n=>by
  unfold Instr.checkKey;simp[run_underlying underlying4]
 rw[show(10000:Nat)=9999+1 from rfl,Instr.checkKey];simp only[Xs,run_underlying hu,rA];rw[<-Yz,hfs];have k1:=cI a.1 9998;have k2:=cI a.2 9998;have k3:=cB Xd 9998;have q0:=pI (#[I6 a.1,I6 a.2,Xh Xd]) 0 a.1 rfl;have q1:=pI (#[I6 a.1,I6 a.2,Xh Xd]) 1 a.2 rfl;have q2:=pB (#[I6 a.1,I6 a.2,Xh Xd]) 2 Xd rfl;simp[List.forIn_cons,n0,t0,o0,n1,t1,o1,n2,t2,o2,q0,q1,q2,k1,k2,k3]
theorem zo8(a b:Int×Int)(w):(Op.equal 55 (Xi #[I6 a.1,I6 a.2,Xh Xd]) (Xi #[I6 b.1,I6 b.2,Xh Xd])).run prog w=.ok (decide (a=b)) w:=by
 have hf:(Tryz.prog.fieldsOf 55).toList.map (fun f=>(f.name,f.type,f.offset))=[("Kind",3,0),("N",3,1),("Write",4,2)]:=by kernel_rfl
 unfold Op.equal Op.maxDepth;rw[run_equalIn_struct w 9999 55 _ _ Kr Kr];obtain⟨f0,f1,f2,hfs⟩:∃f0 f1 f2,(Tryz.prog.fieldsOf 55).toList=[f0,f1,f2]:=by
  have hl:(Tryz.prog.fieldsOf 55).toList.length=3:=by have:=congrArg Yo hf;simpa using this
  match hq:(Tryz.prog.fieldsOf 55).toList,hl with
  |[f0,f1,f2],_=>exact⟨f0,f1,f2,rfl⟩
 rw[hfs]at hf⊢;simp at hf;obtain⟨⟨n0,t0,o0⟩,⟨n1,t1,o1⟩,⟨n2,t2,o2⟩⟩:=hf;have pI:=zcA w;have pB:=zdG w;simp only[Op.eqFields,n0,t0,o0,n1,t1,o1,n2,t2,o2];obtain⟨a1,a2⟩:=a;obtain⟨b1,b2⟩:=b;simp[pI,pB,run_equalIn_bool' w _ _ _ _ underlying4,run_equalIn_int w _ _ _ _ _ _ underlying3];by_cases e1:a1=b1<;>by_cases e2:a2=b2<;>simp[e1,e2]
def enK:zaM where
 ty:=55
 enc:=fun a=>Xi #[Xe Xf a.1,Xe Xf a.2,Xh Xd]
 bJ:=⟨_,underlying55⟩
 check:=znj
 same:=zo8
 bits:=fun a=>by simp[Instr.sameBits]
theorem Box.bU{K:zaM}(h:Box w b D)(k:Qk K w B X):b≠B:=fun e=>by
 subst e;obtain⟨t,h⟩:=h;obtain⟨a,a,l,a,_⟩:=k;grind
theorem zb.bU{K:zaM}(h:zb E k w A y)(v:Qk K w B X):∀x,A.ownBlock=Xa x->Xa B≠Xa x:=fun x a e=>by
 cases e;obtain⟨b,b⟩:=h.obj a;obtain⟨a,a,y,a,_⟩:=v;grind
theorem zsf(w):(zeroValue 3).run prog w=.ok (I6 0) w:=by kernel_rfl
theorem zbr(V:MaV)(m:Ma)(w)(z:zK w V m):
  Xp prog 67 #[Xi (mL V m).toArray] w fun e w'=>∃Q,e=Xl (Xi #[V.f.x,I6 m.aB,V.s.x,V.sb.x,V.sq.x,V.db.x,V.dq.x,V.fl.x,I6 m.cnt,V.ca.x,V.sp.x,.map (Xa Q)])/\Qk plK w' Q (QM m.ca)/\zc w w':=by
 obtain⟨s,t,h,j,d,f,g,⟨l,a,b⟩,i⟩:=V;dsimp only[mL];obtain⟨-,-,-,-,-,-,-,L,-⟩:=z.ns;dsimp only at L;have a4:=dD z.cas;have S:=dD L.symm;have Z:a<=9223372036854775807:=Hm z.ca.short;clear z L;have H:=@run_makeMap prog;obtain⟨x,n⟩:=kB (((w.alloc (Xk #[s.x,I6 m.aB,t.x,h.x,j.x,d.x,f.x,g.x,I6 m.cnt,O l a b,i.x] 41)).alloc (Xk #[eS,I6 0,eS,eS,eS,eS,eS,eS,I6 0,eS,eS,.map Xb] 140)).alloc (.map #[] 0));have B:Xo (zc w x):=dD<|by rw[<-n];exact((za _ _).trans (za _ _)).trans (za _ _)
 have W:Xo (Box x w.heap.size [s.x,I6 m.aB,t.x,h.x,j.x,d.x,f.x,g.x,I6 m.cnt,O l a b,i.x]):=dD<|by rw[<-n];exact((Box.aE _ _ _ rfl).alloc _).alloc _
 have ac:Xo (Box x (w.heap.size+1) [eS,I6 0,eS,eS,eS,eS,eS,eS,I6 0,eS,eS,.map Xb]):=dD<|by rw[<-n];exact(Box.aE _ _ _ Sm).alloc _
 have a5:Xo (Qk plK x (w.heap.size+1+1) (QM (m.ca.take 0))):=dD<|by
  rw[<-n];have:=Qk.made plK ((w.alloc (Xk #[s.x,I6 m.aB,t.x,h.x,j.x,d.x,f.x,g.x,I6 m.cnt,O l a b,i.x] 41)).alloc (Xk #[eS,I6 0,eS,eS,eS,eS,eS,eS,I6 0,eS,eS,.map Xb] 140));have aq:((w.alloc (Xk #[s.x,I6 m.aB,t.x,h.x,j.x,d.x,f.x,g.x,I6 m.cnt,O l a b,i.x] 41)).alloc (Xk #[eS,I6 0,eS,eS,eS,eS,eS,eS,I6 0,eS,eS,.map Xb] 140)).heap.size=w.heap.size+1+1:=Sm;rw[aq]at this;exact this.congr fun ar=>Rr Yn
 have E:=dD n;clear n;go_enter func67,ntmps67;go_upto_region 2 with fail;rw[E.out];clear H;have P:=W.c 9 rfl;go_wp2;clear P;go_loopg[10] a (fun an M wr=>∃k:Nat,k<=a/\a-k<=an/\M=I6 k/\Xo (zc w wr)/\Xo (Box wr w.heap.size [s.x,I6 m.aB,t.x,h.x,j.x,d.x,f.x,g.x,I6 m.cnt,O l a b,i.x])/\Xo (Box wr (w.heap.size+1) [eS,I6 0,eS,eS,eS,eS,eS,eS,I6 0,eS,eS,.map Xb])/\Xo (Qk plK wr (w.heap.size+1+1) (QM (m.ca.take k))))
 exact⟨0,nZ _,Wm,rfl,B,W,ac,a5⟩;obtain⟨k,ap,ao,rfl,A,X,Y,T⟩:=hrel;by_cases r:k<a
 ·have v:=kC r
  obtain⟨p,R⟩:∃p,Xo (m.ca[k]?=Xa p):=⟨_,gE (Rx S.out r)⟩;obtain⟨ag,rfl,I⟩:=a4.out k p R.out;obtain⟨ak,al,am⟩:=I wr A.out;clear I;go_upto_region 5 with fail;obtain⟨a9,c⟩:=kB (wr.alloc (Xk #[I6 p.file,I6 p.idx,I6 p.fr] 108));have C:=gT c A;have aa:=yA c X;have ae:=yA c Y;have a6:Xo (Qk plK a9 (w.heap.size+1+1) (QM (m.ca.take k))):=dD (by rw[<-c];exact T.aA (za _ _));have a2:=xA c;rw[c];clear c ak al am;obtain⟨ah,ai,aj⟩:=a2.c3;go_wp2_with(refine zlV (K:=plK) rfl 138 3 (.tmp 14) (.tmp 19) (.tmp 21) rfl underlying138 (w.heap.size+1+1) _ a6 (p.file,p.idx) p.fr rfl rfl rfl ?_)
  clear ah ai aj;intro y a1 q _;have a7:Xo (Qk plK y (w.heap.size+1+1) (QM (m.ca.take (k+1)))):=dD<|a1.congr fun ar=>by rw[qQ R.out,zhx]
  have D:Xo (zc w y):=dD<|zd C q Wm;have ab:Xo (Box y w.heap.size [s.x,I6 m.aB,t.x,h.x,j.x,d.x,f.x,g.x,I6 m.cnt,O (Xa ag) a b,i.x]):=aa.grown q Wm;have af:Xo (Box y (w.heap.size+1) [eS,I6 0,eS,eS,eS,eS,eS,eS,I6 0,eS,eS,.map Xb]):=ae.grown q Wm;clear a1 q;go_wp2;go_roundg (a-(k+1));exact⟨k+1,Wm,Wm,Gn,D,ab,af,a7⟩;omega
 have v:=kD r;have:k=a:=Wm;subst this;have F:Xo (Qk plK wr (w.heap.size+1+1) (QM m.ca)):=dD<|by
  have:=T.out;rw[Xz (by rw[S.out];exact nR _)]at this;exact this
 obtain⟨au,av,aw,ax,ay,az,b0,b1,b2,P,N⟩:=X.aY
 go_wp2_with(refine zn rfl 140 (.tmp 2) (.tmp 25) rfl (w.heap.size+1) rfl [s.x,I6 m.aB,t.x,h.x,j.x,d.x,f.x,g.x,I6 m.cnt,O l k b,i.x,.map (Xa (w.heap.size+1+1))] rfl Y rfl Kr (fun b3 a0=>by
  simp only[mC,nM,or_false]at a0
  rcases a0 with rfl|rfl|rfl|rfl|rfl|rfl|rfl|rfl|rfl|rfl|rfl|rfl<;>rfl) ?_)
 clear au av aw ax ay az b0 b1 b2 P N;intro U G u _;have a3:Xo (zc w U):=dD<|zd A u Wm;have a8:Xo (Qk plK U (w.heap.size+1+1) (QM m.ca)):=F.kept u Sm;go_wp2;refine bodyPost_ret (z6 rfl _ rfl G underlying140 rfl Kr) rfl ⟨_,rfl,a8,a3⟩
theorem zgg(V:MaV)(m:Ma)(B k:Nat)(g:Int×Int->Option Int)(w)(b:zK w V m)(s:k<m.fs.length)(d:Qk plK w B g):
  Xp prog 135 #[Xi #[V.f.x,I6 m.aB,V.s.x,V.sb.x,V.sq.x,V.db.x,V.dq.x,V.fl.x,I6 m.cnt,V.ca.x,V.sp.x,.map (Xa B)],I6 (k:Int)] w fun e w'=>e=Xl (Xh (decide (g ((zZ m k).f,(zZ m k).x)=Xa (k:Int))))/\zc w w':=by
 obtain⟨⟨x,r,y⟩,z,j,p,f,h,i,c,n⟩:=V;dsimp only[mL];obtain⟨t,-⟩:=b.ns;dsimp only at t;have a:k<r:=Wm;obtain⟨q,l⟩:∃q,Xo (m.fs[k]?=Xa q):=⟨_,gE s⟩;have a:zZ m (k:Int)=q:=by unfold zZ;rw[tN,gD,l.out];rfl
 rw[a];obtain⟨v,rfl,u⟩:=(show zki w x m.fs from b.bB) k q l.out;clear a b t s;obtain⟨l,b⟩:=kB (w.alloc (Xk #[O (Xa v) r y,I6 m.aB,z.x,j.x,p.x,f.x,h.x,i.x,I6 m.cnt,c.x,n.x,.map (Xa B)] 140));have a:=gA b;have t:=xA b;have h:=sA b;obtain⟨x,y,z,A,C,D,E,F,G,H,n,p,r⟩:=u l a.out;obtain⟨i,c⟩:=kB (l.alloc (Xk #[U8 q.p.b0,U8 q.p.b1,U8 q.p.b2,U8 q.p.b3,U8 q.p.b4,U8 q.p.b5,U8 q.p.b6,U8 q.p.b7,I6 q.r,Xh q.u,Xh q.d,I6 q.f,I6 q.x] 53));have f:=gT c a;have v:=yA c t;have s:=xP c h;have a:(Instr.lookup 138 (.map (Xa B)) (Xi #[I6 q.f,I6 q.x]) Xc).run prog i=.ok (Xm #[I6 ((g (q.f,q.x)).getD 0),Xh (g (q.f,q.x)).isSome]) i:=(d.aA f).look (K:=plK) underlying138 (zsf i) (q.f,q.x) Xc;have j:Xo (_=l):=b;have l:Xo (_=i):=c;clear b c u d;obtain⟨R,b⟩:=kA (decide (g (q.f,q.x)=Xa (k:Int)));rw[b.out];obtain⟨d,c⟩:=kA (g (q.f,q.x));rw[c.out]at a b;go_enter func135,ntmps135;go_upto_region 1 with fail;rw[j.out];have c:=t.c 0 rfl;go_upto_region 2 with fail;rw[l.out];rw[h.out];clear x y z A C D E F G H n p r c;have c:=v.c 11 rfl;have c:=s.c 11 rfl;have c:=s.c 12 rfl;cases d with
 |none=>
  simp only[Option.getD_none,Option.isSome_none]at a;go_wp2;go_ret;exact⟨by rw[<-b.out];rfl,f⟩
 |some z=>
  simp only[Option.getD_some,Option.isSome_some]at a;have a:Xo ((z==(k:Int))=R):=dD (by rw[<-b.out,Ys];simp);go_wp2;go_ret;exact⟨by rw[<-a.out];rfl,f⟩
def JY(K:zaM)(w:Xn)(b:Nat)(H:Int×Int->Int):Prop:=∃g,Qk K w b g/\∀k,(g k).getD 0=H k
theorem JY.aA{K:zaM}{H:Int×Int->Int}(h:JY K w b H)(k:zc w w'):JY K w' b H:=by obtain⟨g,a,c⟩:=h;exact⟨g,a.aA k,c⟩
theorem JY.congr{K:zaM}{H a:Int×Int->Int}(h:JY K w b H)(e:∀k,H k=a k):JY K w b a:=by obtain⟨g,a,c⟩:=h;exact⟨g,a,fun k=>(c k).trans (e k)⟩
theorem JY.bT{K:zaM}{H:Int×Int->Int}(k:JY K w B H)(h:Box w b D):b≠B:=by obtain⟨g,a,_⟩:=k;exact h.bU a
theorem JY.ne_own{K:zaM}{H:Int×Int->Int}(v:JY K w B H)(h:zb E k w A y):∀x,A.ownBlock=Xa x->Xa B≠Xa x:=by obtain⟨g,a,_⟩:=v;exact h.bU a
def zeS(K:zaM)(w:Xn)(b:Nat)(H:Int×Int->Int)(k:Int×Int)(st:Int):Prop:=∃g,zqP K w b g k st/\∀x,(g x).getD 0=H x
theorem JY.entry{K:zaM}{H:Int×Int->Int}(h:JY K w b H){e:TypeId}(ht:Tryz.prog.underlying t=Xa (.map K.ty e))(g:(zeroValue e).run prog w=.ok (I6 0) w)(k:Int×Int):
  ∃w' a,(Instr.mapEntry t (.map (Xa b)) (K.enc k)).run prog w=.ok (Xm #[I6 (H k),I6 a]) w'/\zeS K w' b H k a/\w.grownBy w' (Xa b)/\w'.heap.size=w.heap.size:=by
 obtain⟨c,f,c⟩:=h;obtain⟨w',a,d,h,i,j⟩:=f.entry ht g k;rw[c k]at d;refine⟨w',a,d,⟨_,h,fun x=>?_⟩,i,j⟩;by_cases e:x=k;·subst e;rw[kE rfl];exact c x
 rw[kF e];exact c x
theorem zeS.h{K:zaM}{H:Int×Int->Int}{k:Int×Int}{a:Int}(h:zeS K w b H k a):JY K w b H:=by obtain⟨g,a,c⟩:=h;exact⟨g,a.f,c⟩
theorem JY.look{K:zaM}{H:Int×Int->Int}(h:JY K w b H){e:TypeId}(ht:Tryz.prog.underlying t=Xa (.map K.ty e))(d:(zeroValue e).run prog w=.ok (I6 0) w)(k:Int×Int):
  (Instr.lookup t (.map (Xa b)) (K.enc k) Xd).run prog w=.ok (I6 (H k)) w:=by obtain⟨g,a,c⟩:=h;have:=a.look ht d k Xd;rw[c k]at this;exact this
def zrG(H:Int×Int->Int)(k:Int×Int):Int×Int->Int:=fun x=>H x+(if x=k then 1 else 0)
theorem zbp{K:zaM}{rest:List Oper}(c:o.guard=Xb)(t m s x)(e:o.op=.entryStore t m s x)(b:Nat)(H:Int×Int->Int)(k:Int×Int)(d:Int)(h:zeS K w b H k d)
  (j:a.eval m=.map (Xa b))(l:a.eval s=I6 d)(n:a.eval x=I6 (H k+1))
  (i:∀w',JY K w' b (zrG H k)->w.grownBy w' (Xa b)->w'.heap.size=w.heap.size->wpList prog ops Q rest (a.put o.dst undef) w'):wpList prog ops Q (o::rest) a w:=by
 refine wpList_plain c fun c d=>?_;obtain⟨g,f,g⟩:=h;obtain⟨w',c,h,p,q⟩:=f.store t (H k+1);unfold Oper.wp;simp[execOp,e,j,l,n,c,Result.andThen];refine d _ _ (i w' ⟨_,h,fun y=>?_⟩ p q);unfold zrG;by_cases e:y=k;·subst e;rw[kE rfl,kE rfl];rfl
 rw[kF e,kF e,g y];omega
theorem zoN(l:List Ca)(key:Int×Int):0<=zao l key/\zao l key<=l.length:=by grind[zao,zL,Yb,Ca]
theorem ze8(s):(qW s).length<=64:=by unfold qW;have:=Yt (fun n=>enS (zh s n)) (Yl 64);simpa using this
theorem zqa(m:Ma)(i:Nat)(l:List Nat)(s)(key:Int×Int):0<=qo m i l s key/\qo m i l s key<=m.ca.length+64*m.sp.length+l.length:=by
 unfold qo;have a:(if key.1=1 then zL m.ca key.2 else 0)<=m.ca.length:=by
  split;·exact Yb
  omega
 have a:∀(L:List Sp),(L.map fun s=>(qW s).countP fun n=>isE (zh s n) key.1 key.2).sum<=64*L.length:=by
  intro L;induction L with
  |nil=>simp
  |cons a L b=>
   have b:=Yb (p:=fun n=>isE (zh a n) key.1 key.2) (l:=qW a);have b:=ze8 a;simp only[mP,List.sum_cons,Yp];omega
 grind
def ze0:Sp:=⟨Xc,[],[]⟩
theorem ziS(V)(m:Ma)(w)(g:zK w V m)(u:m.sp.length<=4)(y:∀s∈m.sp,tbW s.tb=0):
  Xp prog 134 #[Xi (mL V m).toArray] w fun e w'=>∃B,e=Xl (.map (Xa B))/\JY enK w' B (qo m m.sp.length [] ze0)/\zc w w':=by
 obtain⟨a3,a4,t,z,p,q,r,⟨d,a,l⟩,⟨h,b,n⟩⟩:=V;dsimp only[mL];obtain⟨-,-,-,-,-,-,-,D,E⟩:=g.ns;dsimp only at D E;have F:Xo (zib w d m.ca):=g.cas;have b9:=dD D.symm;have c:a<=140737488355328:=by have:=g.ca.2;have c:qX.bytes=24:=rfl;rw[c]at this;omega
 obtain⟨bb,A,f,k⟩:=g.aM;have b1:=dD A;have az:Xo (∀(j:Nat)x,bb[j]?=Xa x->∃a8,h=Xa a8/\∀W,zc w W->zkd W (a8.add (j*10)) x):=f;have b0:=dD k;have a6:=dD E.symm;have c:=dD y;have C:Xo (∀j c,0<=zao (m.ca.take j) c/\zao (m.ca.take j) c<=140737488355328):=show∀j c,_ from fun j c=>by
  have G:=zoN (m.ca.take j) c;have i:(m.ca.take j).length<=m.ca.length:=by simp;omega
  omega
 have ay:Xo (∀i B s c,B.length<=64->0<=qo m i B s c/\qo m i B s c<=140737488360000):=dD<|fun i B s c aj=>by
  have G:=zqa m i B s c;omega
 have c:b<=4:=Wm;clear g D E A f k u y;have u:=@run_makeMap prog;obtain⟨f,c⟩:=kB ((w.alloc (Xk #[a3.x,I6 m.aB,a4.x,t.x,z.x,p.x,q.x,r.x,I6 m.cnt,O d a l,O h b n] 41)).alloc (.map #[] 0));have g:Xo (zc w f):=dD<|by rw[<-c];exact(za _ _).trans (za _ _)
 have y:Xo (Box f w.heap.size [a3.x,I6 m.aB,a4.x,t.x,z.x,p.x,q.x,r.x,I6 m.cnt,O d a l,O h b n]):=dD<|by rw[<-c];exact(Box.aE _ _ _ rfl).alloc _
 have A:Xo (JY enK f (w.heap.size+1) (zao (m.ca.take 0))):=dD<|by
  rw[<-c];have:=Qk.made enK (w.alloc (Xk #[a3.x,I6 m.aB,a4.x,t.x,z.x,p.x,q.x,r.x,I6 m.cnt,O d a l,O h b n] 41));have k:(w.alloc (Xk #[a3.x,I6 m.aB,a4.x,t.x,z.x,p.x,q.x,r.x,I6 m.cnt,O d a l,O h b n] 41)).heap.size=w.heap.size+1:=Sm;rw[k]at this;exact⟨_,this,fun G=>by rw[Yn,zmN];rfl⟩
 have k:Xo (_=f):=c;clear c;go_enter func134,ntmps134;go_upto_region 2 with fail;rw[k.out];clear u;have c:=y.c 9 rfl;go_wp2;clear c;go_loopg[15] a (fun ak c wr=>∃B:Nat,B<=a/\a-B<=ak/\c=I6 B/\Xo (zc w wr)/\Xo (Box wr w.heap.size [a3.x,I6 m.aB,a4.x,t.x,z.x,p.x,q.x,r.x,I6 m.cnt,O d a l,O h b n])/\Xo (JY enK wr (w.heap.size+1) (zao (m.ca.take B))))
 exact⟨0,nZ _,Wm,rfl,g,y,A⟩;obtain⟨B,c,c,rfl,N,ba,a0⟩:=hrel;by_cases ae:B<a
 ·have an:=kC ae
  obtain⟨c,b8⟩:∃c,Xo (m.ca[B]?=Xa c):=⟨_,gE (Rx b9.out ae)⟩;obtain⟨a8,rfl,aj⟩:=F.out B c b8.out;obtain⟨b2,b3,b4⟩:=aj wr N.out;clear aj;go_upto_region 5 with fail;obtain⟨L,d⟩:=kB (wr.alloc (Xk #[I6 c.file,I6 c.idx,I6 c.fr] 108));have P:=gT d N;have g:=yA d ba;have av:Xo (JY enK L (w.heap.size+1) (zao (m.ca.take B))):=dD (by rw[<-d];exact a0.aA (za _ _));have f:=xA d;rw[d];clear d b2 b3 b4;obtain⟨ah,a7⟩:=kA wr.heap.size;rw[a7.out]at f⊢;obtain⟨H,a5⟩:=kA (zao (m.ca.take B));rw[a5.out]at av;obtain⟨ab,ac⟩:0<=H (1,c.fr)/\H (1,c.fr)<=140737488355328:=by rw[<-a5.out];exact C B (1,c.fr)
  obtain⟨k,am⟩:∃k:Xn->Prop,k=fun u=>JY enK u (w.heap.size+1) H/\Box u ah [I6 c.file,I6 c.idx,I6 c.fr]/\Box u w.heap.size [a3.x,I6 m.aB,a4.x,t.x,z.x,p.x,q.x,r.x,I6 m.cnt,O (Xa a8) a l,O h b n]/\zc w u:=⟨_,rfl⟩;have E:Xo (∀u,k u↔JY enK u (w.heap.size+1) H/\Box u ah [I6 c.file,I6 c.idx,I6 c.fr]/\Box u w.heap.size [a3.x,I6 m.aB,a4.x,t.x,z.x,p.x,q.x,r.x,I6 m.cnt,O (Xa a8) a l,O h b n]/\zc w u):=dD<|fun u=>by rw[am]
  clear am;have ao:=fun y:zg k=>((E _).1 y.holds).2.1.c 2 rfl;have S:∀y:zg k,(Instr.lookup 204 (.map (Xa (w.heap.size+1))) (Xi #[I6 1,I6 c.fr,Xh Xd]) Xd).run prog y.world=.ok (I6 (H (1,c.fr))) y.world:=fun y=>((E _).1 y.holds).1.look (K:=enK) underlying204 (zsf _) (1,c.fr);have A:k L.drew:=(E _).2 ⟨av.aA (gW _),f.aA (gW _),g.aA (gW _),P.trans (gW _)⟩;have T:Nonempty (zg k):=⟨⟨_,A⟩⟩;refine qB (I:=k) 8 [(6,⟨fun M=>∃g,M=Xm #[I6 (H (1,c.fr)),I6 g],fun M w'=>∃g,M=Xm #[I6 (H (1,c.fr)),I6 g]/\zeS enK w' (w.heap.size+1) H (1,c.fr) g,fun _ _=>True,fun _=>True⟩)] A z0 Kr rfl rfl Dc (Sa ⟨_,0,rfl⟩) ?hp ?hpre ?hpr0 ?_;case hp=>
   intro G s j ar Y a1 R _ M b7 C f b5;obtain⟨rfl,rfl⟩:=zcg Y;obtain⟨rfl,rfl⟩:=zcg a1;exact absurd rfl R
  case hpre=>
   intro j ar G s a1 Y R b7 C f af;obtain⟨rfl,rfl⟩:=zcg a1;trivial
  case hpr0=>
   intro G ar Y;obtain⟨rfl,rfl⟩:=zcg Y;trivial
  simp only[Xu,Xv];iterate 6 refine zr ?_
  refine zR rfl rfl (fun w' aa af a9=>?_) (fun bf b6=>?_);·obtain⟨F,Z,W,X⟩:=(E _).1 aa;obtain⟨au,g,U,aq,a2,be⟩:=F.entry (K:=enK) underlying204 (zsf w') (1,c.fr);have ag:(Instr.mapEntry 204 (.map (Xa (w.heap.size+1))) (Xi #[I6 1,I6 c.fr,Xh Xd])).run prog w'=.ok (Xm #[I6 (H (1,c.fr)),I6 g]) au:=U;clear ao S T;refine zJ.step (v:=Xm #[I6 (H (1,c.fr)),I6 g]) (w':=au) (by simp only[execOp];go_simp) ⟨(E _).2 ⟨aq.h,Z.grown a2 (F.bT Z),W.grown a2 (F.bT W),zd X a2 Wm⟩,trivial,⟨_,rfl⟩,_,rfl,aq⟩
  obtain⟨g,rfl⟩:=b6;refine Uq ?_;refine zr ?_;refine Zb fun aw ai a9=>?_;obtain⟨F,Z,W,X⟩:=(E _).1 ai;obtain⟨D,f,al⟩:∃D,(Value.tuple #[I6 (H (1,c.fr)),I6 g])=Xm #[I6 (H (1,c.fr)),I6 D]/\zeS enK aw (w.heap.size+1) H (1,c.fr) D:=a9 6;have Q:zeS enK aw (w.heap.size+1) H (1,c.fr) g:=by
   simp at f;rw[f];exact al
  have bc:=dD W;have ax:=dD X;have aw:=dD Q;clear ao S T a9 ai F Z W X al f Q A;refine zbp (K:=enK) rfl 204 (.tmp 19) (.tmp 26) (.tmp 24) rfl (w.heap.size+1) H (1,c.fr) g aw rfl rfl Gn ?_;intro ai aw c _;have bd:Xo (Box ai w.heap.size [a3.x,I6 m.aB,a4.x,t.x,z.x,p.x,q.x,r.x,I6 m.cnt,O (Xa a8) a l,O h b n]):=bc.grown c Wm;have p:Xo (zc w ai):=dD<|zd ax c Wm;have ao:Xo (JY enK ai (w.heap.size+1) (zao (m.ca.take (B+1)))):=dD<|aw.congr fun G=>by rw[qQ b8.out,zk2,<-a5.out];rfl
  clear aw c ab ac;go_wp2;go_roundg (a-(B+1));exact⟨B+1,Wm,Wm,Gn,p,bd,ao⟩;omega
 have an:=kD ae;have:B=a:=Wm;subst this;have h:Xo (JY enK wr (w.heap.size+1) (qo m 0 [] ze0)):=dD<|a0.congr fun G=>by
  rw[Xz (by rw[b9.out];exact nR _)];exact zmO m ze0 G
 have a:=ba.c 10 rfl;go_wp2;clear a;have a:Xo (zc w wr):=N;go_loopg[31] b (fun ak l wr=>∃i:Nat,i<=b/\b-i<=ak/\l=I6 i/\Xo (zc w wr)/\Xo (JY enK wr (w.heap.size+1) (qo m i [] ze0)))
 exact⟨0,nZ _,Wm,rfl,a,h⟩;obtain⟨i,a,a,rfl,N,a0⟩:=hrel;by_cases h:i<b
 ·have z:=kC h
  obtain⟨s,b8⟩:∃s,Xo (m.sp[i]?=Xa s):=⟨_,gE (Rx a6.out h)⟩;obtain⟨x,a⟩:∃x,Xo (bb[i]?=Xa x):=⟨_,gE (by rw[b1.out,a6.out];exact h)⟩;have a3:=dD<|b0.out i x s a b8.out;obtain⟨a8,rfl,aj⟩:=az.out i x a.out;obtain⟨b2,b3,b4,a,n,q,r,t,B,a4⟩:=aj wr N.out;clear aj;go_upto_region 10 with fail;refine nW fun L d=>?_;have P:=gT d N;have av:Xo (JY enK L (w.heap.size+1) (qo m i [] s)):=dD (by rw[<-d];exact(a0.aA (za _ _)).congr fun G=>by unfold qo;simp);have l:=xA d;clear d b2 b3 b4 a n q r t B a4;obtain⟨ah,a7⟩:=kA wr.heap.size;rw[a7.out]at l⊢;have a:Xp prog 90 #[Xi #[x.t0.x,x.t1.x,x.t2.x,x.t3.x,x.t4.x,x.t5.x,x.t6.x,x.t7.x]] L fun e w'=>∃M,e=Xl M/\zb blE L.heap.size w' M (jA s.tb zct 64)/\zc L w':=za5 x.tab s.tb L (a3.aA P).tb;obtain⟨_,_,an,aw,ax,az,b0,b1,b2,b3⟩:=l.k10;go_wp2_with fail;refine a.mono ?_;clear a an aw ax az b0 b1 b2 b3;rintro b4 a⟨a,rfl,a,d⟩;have q:=dD (P.trans d);have r:=dD (av.aA d);have t:=dD (l.aA d);have l:=dD<|bS P.out;clear d;obtain⟨n,ae,rfl⟩:=a.form;have d:=a.at.short;rw[Jz]at a d⊢;rw[Yk]at a d⊢;obtain⟨C,a8⟩:=kA ((qW s).length);rw[a8.out]at a d⊢;have d:=dD a;have l:C<=64:=by rw[<-a8.out];exact ze8 s
  clear a;go_wp2;go_loopg[39] C (fun ak a wr=>∃j:Nat,j<=C/\C-j<=ak/\a=I6 j/\Xo (zc w wr)/\Xo (zb blE L.heap.size wr (O n C ae) ((qW s).map fun(n:Nat)=>(n:Int)))/\Xo (Box wr ah [Xh x.aF,x.ar.x,x.t0.x,x.t1.x,x.t2.x,x.t3.x,x.t4.x,x.t5.x,x.t6.x,x.t7.x])/\Xo (JY enK wr (w.heap.size+1) (qo m i ((qW s).take j) s)))
  exact⟨0,nZ _,Wm,rfl,q,d,t,Rx Yn r⟩;obtain⟨j,a1,a,rfl,N,ak,l,a0⟩:=hrel;by_cases d:j<C
  ·have B:=kC d
   obtain⟨n,q⟩:∃n,Xo ((qW s)[j]?=Xa n):=⟨_,gE (Rx a8.out d)⟩;have a4:=zg5 q.out;have aj:=dD<|qQ q.out;obtain⟨_,_,t,a7⟩:=ak.at.aW;simp only[vJ]at t;obtain⟨r,a,P⟩:=a7 j (n:Int) (by rw[Yc,q.out];rfl);have av:=P wr (zc.refl _);rw[<-t.1]at a;subst a;clear P t a7;have q:Xp prog 69 #[Xi #[x.t0.x,x.t1.x,x.t2.x,x.t3.x,x.t4.x,x.t5.x,x.t6.x,x.t7.x],I6 (n:Int)] wr fun e w'=>e=Xl (enV (zh s n))/\zc wr w':=by
    have:=Je x.tab s.tb (n:Int) wr (a3.aA N).tb;rw[zgh a4]at this;exact this
   obtain⟨a,t⟩:=kA (zh s n);rw[t.out]at q;obtain⟨_,_,an,aw,ax,az,b0,b1,b2,b3⟩:=l.k10;go_wp2_with fail;refine q.mono ?_;clear q av an aw ax az b0 b1 b2 b3;rintro b4 ai⟨rfl,c⟩;have p:=dD (N.trans c);have P:=dD (ak.aA c);have a4:=dD (l.aA c);have ao:=dD (a0.aA c);clear c;unfold enV;go_upto_region 14 with fail;obtain⟨a3,c⟩:=kB (ai.alloc (Xk #[I6 a.kind,I6 a.n,Xh a.wr] 55));have q:=gT c p;have p:Xo (zb blE L.heap.size a3 (O (Xa r) C ae) ((qW s).map fun(n:Nat)=>(n:Int))):=dD (by rw[<-c];exact P.aA (za _ _));have a7:=yA c a4;have a4:Xo (JY enK a3 (w.heap.size+1) (qo m i ((qW s).take j) s)):=dD (by rw[<-c];exact ao.aA (za _ _));have P:=xA c;rw[c];clear c;obtain⟨c,l⟩:=kA ai.heap.size;rw[l.out]at P⊢;obtain⟨H,a5⟩:=kA (qo m i ((qW s).take j) s);rw[a5.out]at a4;obtain⟨ab,ac⟩:0<=H (a.kind,a.n)/\H (a.kind,a.n)<=140737488360000:=(by rw[<-a5.out];exact ay i _ s (a.kind,a.n) (by simp;omega));obtain⟨k,am⟩:∃k:Xn->Prop,k=fun u=>JY enK u (w.heap.size+1) H/\Box u c [I6 a.kind,I6 a.n,Xh a.wr]/\Box u ah [Xh x.aF,x.ar.x,x.t0.x,x.t1.x,x.t2.x,x.t3.x,x.t4.x,x.t5.x,x.t6.x,x.t7.x]/\zb blE L.heap.size u (O (Xa r) C ae) ((qW s).map fun(n:Nat)=>(n:Int))/\zc w u:=⟨_,rfl⟩;have E:Xo (∀u,k u↔JY enK u (w.heap.size+1) H/\Box u c [I6 a.kind,I6 a.n,Xh a.wr]/\Box u ah [Xh x.aF,x.ar.x,x.t0.x,x.t1.x,x.t2.x,x.t3.x,x.t4.x,x.t5.x,x.t6.x,x.t7.x]/\zb blE L.heap.size u (O (Xa r) C ae) ((qW s).map fun(n:Nat)=>(n:Int))/\zc w u):=dD<|fun u=>(by rw[am]);clear am;have l:=fun y:zg k=>((E _).1 y.holds).2.1.c 0 rfl;have n:=fun y:zg k=>((E _).1 y.holds).2.1.c 1 rfl;have S:∀y:zg k,(Instr.lookup 204 (.map (Xa (w.heap.size+1))) (Xi #[I6 a.kind,I6 a.n,Xh Xd]) Xd).run prog y.world=.ok (I6 (H (a.kind,a.n))) y.world:=fun y=>((E _).1 y.holds).1.look (K:=enK) underlying204 (zsf _) (a.kind,a.n);have A:k a3.drew:=(E _).2 ⟨a4.aA (gW _),P.aA (gW _),a7.aA (gW _),p.aA (gW _),q.trans (gW _)⟩;have T:Nonempty (zg k):=⟨⟨_,A⟩⟩;refine qB (I:=k) 10 [(8,⟨fun M=>∃g,M=Xm #[I6 (H (a.kind,a.n)),I6 g],fun M w'=>∃g,M=Xm #[I6 (H (a.kind,a.n)),I6 g]/\zeS enK w' (w.heap.size+1) H (a.kind,a.n) g,fun _ _=>True,fun _=>True⟩)] A z0 Kr rfl rfl Dc (Sa ⟨_,0,rfl⟩) ?hp ?hpre ?hpr0 ?_;case hp=>
    intro G s j ar Y a1 R _ M b7 C f b5;obtain⟨rfl,rfl⟩:=zcg Y;obtain⟨rfl,rfl⟩:=zcg a1;exact absurd rfl R
   case hpre=>
    intro j ar G s a1 Y R b7 C f af;obtain⟨rfl,rfl⟩:=zcg a1;trivial
   case hpr0=>
    intro G ar Y;obtain⟨rfl,rfl⟩:=zcg Y;trivial
   simp only[Xu,Xv];iterate 8 refine zr ?_
   refine zR rfl rfl (fun w' aa af a9=>?_) (fun bf b6=>?_);·obtain⟨F,Z,W,X,p⟩:=(E _).1 aa;obtain⟨au,g,U,aq,a2,be⟩:=F.entry (K:=enK) underlying204 (zsf w') (a.kind,a.n);have ag:(Instr.mapEntry 204 (.map (Xa (w.heap.size+1))) (Xi #[I6 a.kind,I6 a.n,Xh Xd])).run prog w'=.ok (Xm #[I6 (H (a.kind,a.n)),I6 g]) au:=U;clear l n S T;refine zJ.step (v:=Xm #[I6 (H (a.kind,a.n)),I6 g]) (w':=au) (by simp only[execOp];go_simp) ⟨(E _).2 ⟨aq.h,Z.grown a2 (F.bT Z),W.grown a2 (F.bT W),X.grown a2 (F.ne_own X),zd p a2 Wm⟩,trivial,⟨_,rfl⟩,_,rfl,aq⟩
   obtain⟨g,rfl⟩:=b6;refine Uq ?_;refine zr ?_;refine Zb fun c k a9=>?_;obtain⟨F,Z,W,X,p⟩:=(E _).1 k;obtain⟨D,f,al⟩:∃D,(Value.tuple #[I6 (H (a.kind,a.n)),I6 g])=Xm #[I6 (H (a.kind,a.n)),I6 D]/\zeS enK c (w.heap.size+1) H (a.kind,a.n) D:=a9 8;have Q:zeS enK c (w.heap.size+1) H (a.kind,a.n) g:=by
    simp at f;rw[f];exact al
   have x:=dD W;have c:=dD X;have r:=dD p;have u:=dD F;have q:=dD Q;clear l n S T a9 k F Z W X p al f Q A;refine zbp (K:=enK) rfl 204 (.tmp 47) (.tmp 56) (.tmp 54) rfl (w.heap.size+1) H (a.kind,a.n) g q rfl rfl Gn ?_;intro g k a _;have n:=dD<|x.grown a (u.bT x);have f:=dD<|c.grown a (u.ne_own c);have c:Xo (zc w g):=dD<|zd r a Wm;have l:Xo (JY enK g (w.heap.size+1) (qo m i ((qW s).take (j+1)) s)):=dD<|k.congr fun G=>(by rw[aj.out,zmL,t.out,a5.out];rfl);clear k a ab ac;go_wp2;go_roundg (C-(j+1));exact⟨j+1,Wm,Wm,Gn,c,f,n,l⟩;omega
  have B:=kD d;have:j=C:=Wm;subst this;have a:Xo (JY enK wr (w.heap.size+1) (qo m (i+1) [] ze0)):=dD<|a0.congr fun G=>by
   rw[Xz (by rw[a8.out];exact nR _)];exact zmM m i s ze0 b8 G
  go_wp2;go_roundg (b-(i+1));exact⟨i+1,Wm,Wm,Gn,N,a⟩;omega
 have z:=kD h;have:i=b:=Wm;subst this;have a:Xo (JY enK wr (w.heap.size+1) (qo m m.sp.length [] ze0)):=dD<|Rx a6.out a0.out;go_wp2;go_ret;exact⟨_,rfl,a,N⟩
def qS(fl:List Fl)(i:Nat)(bl:List Int):List Int:=(QK (fl.take i))++bl
theorem zbb{h:List Int}(e:∀i:Nat,i<k->L.contains (i:Int)=h.contains (i:Int)):qR k L=qR k h:=by grind[qR,List.map_congr_left,Ym.1]
theorem zlg(fl)(i:Nat)(bl)(a:z<0)(n:Nat):qR n (qS fl i (bl++[z]))=qR n (qS fl i bl):=zbb fun j _=>by grind[qS]
theorem znb(fl)(i:Nat)(bl)(b:Nat)(n:Nat):qR n ((b:Int)::qS fl i bl)=qR n (qS fl i (bl++[(b:Int)])):=zbb fun j _=>by
 unfold qS;grind
theorem zlh{f:Fl}(a:M[k]?=Xa f):qS M k f.bl=qS M (k+1) []:=by unfold qS QK;rw[List.take_add_one,a];simp
theorem znc(fl:List Fl)(b:Int):(qS fl fl.length []).contains b=z3 fl b:=by unfold qS QK z3;rw[List.take_length,List.append_nil,Ys];simp
theorem zsg:(Tryz.prog.info? 198).map (·.size)=Xa 80:=by kernel_rfl
theorem zhl(n:Nat)(g):∀v∈qR n g,v.oneCell'=Xc:=fun v a=>by
 unfold qR at a;obtain⟨i,_,rfl⟩:=Yg.1 a;rfl
theorem zbF(n:Nat)(g):(qR n g).length=n:=by simp[qR]
theorem zed(v)(fl:List Fl)(d:Int)(w)(a7:qa w v fl)(H:stW fl d=0):
  Xp prog 129 #[Xi #[v,I6 d]] w fun e w'=>e=Xl (Xi (qR 80 (qS fl fl.length [])).toArray)/\zc w w':=by
 have ay:=zca;obtain⟨a0,a1,rfl,D,n⟩:=a7.rows;have af:=dD n;clear n a7;have ac:Xo (∀f∈fl,∀b∈f.bl,b=-1\/(0<=b/\b<80)):=show∀f∈fl,_ from fun f au b a5=>by
  obtain⟨⟨_,_,ar⟩,aq,_⟩:=(z8 fl d).1 H;rcases(aq f au).2.2 b a5 with a3|a3;·exact .inl a3
  exact .inr Wm
 clear H;obtain⟨q,I⟩:=kA fl.length;rw[I.out]at D⊢;obtain⟨K,a⟩:=kB (((w.alloc (Xk #[O a0 q a1,I6 d] 37)).alloc (Xk zgB 198)).alloc (Xk zgB 198));have M:Xo (zc w K):=dD<|by rw[<-a];exact((za _ _).trans (za _ _)).trans (za _ _)
 have ah:Xo (Box K w.heap.size [O a0 q a1,I6 d]):=dD<|by rw[<-a];exact((Box.aE _ _ _ rfl).alloc _).alloc _
 have ai:Xo (Box K (w.heap.size+1) (qR 80 [])):=dD<|by rw[<-a,zdO];exact(Box.aE _ (Xr 80 (Xh Xd)) _ Sm).alloc _
 have al:Xo (Box K (w.heap.size+1+1) (qR 80 (qS fl 0 []))):=dD<|by
  have:qR 80 (qS fl 0 [])=qR 80 []:=zbb fun i _=>by simp[qS,QK]
  rw[<-a,this,zdO];exact Box.aE _ (Xr 80 (Xh Xd)) _ Sm
 have T:=dD a;clear a;go_enter func129,ntmps129;go_upto_region 2 with fail;rw[T.out];clear ay;have az:=ah.c 0 rfl;go_wp2;clear az;go_loopg[5,11] q (fun U _ Y wr=>∃i:Nat,i<=q/\q-i<=U/\Y=I6 i/\Xo (zc w wr)/\Xo (Box wr (w.heap.size+1) (qR 80 []))/\Xo (Box wr (w.heap.size+1+1) (qR 80 (qS fl i []))))
 exact⟨0,nZ _,Wm,rfl,M,ai,al⟩;obtain⟨i,b4,aw,rfl,h,A,l⟩:=hrel;by_cases x:i<q
 ·have F:=kC x
  obtain⟨f,L⟩:∃f,Xo (fl[i]?=Xa f):=⟨_,gE (Rx I.out x)⟩;obtain⟨b2,rfl,a8,b0,z,a6⟩:=af.out i f L.out;obtain⟨ao,a2⟩:=a6 wr h.out;obtain⟨_,_,u,G⟩:=z.aW;have ax:=z.short;have Q:Xo (znT w a8 f.bl):=dD<|by
   simp only[vJ]at u;rw[u.1];exact G
  clear u G z a6;obtain⟨r,R⟩:=kA f.bl.length;rw[R.out]at a2 ax;go_upto_region 5 with fail;refine nW fun b1 c=>?_;have N:=gT c h;have a9:=xA c;have aj:=yA c A;have am:=yA c l;clear c ao a2;have ap:=a9.c 1 rfl;go_wp2;clear ap;have ae:=dD h;go_loopg[7,18] r (fun U _ Z wr=>∃j:Nat,j<=r/\r-j<=U/\Z=I6 j/\Xo (zc w wr)/\Xo (Box wr (w.heap.size+1) (qR 80 []))/\Xo (Box wr (w.heap.size+1+1) (qR 80 (qS fl i (f.bl.take j)))))
  exact⟨0,nZ _,Wm,rfl,N,aj,Rx Yn am⟩;obtain⟨j,b5,av,rfl,h,A,l⟩:=hrel;by_cases g:j<r
  ·have y:=kC g
   obtain⟨b,s⟩:∃b,Xo (f.bl[j]?=Xa b):=⟨_,gE (Rx R.out g)⟩;obtain⟨an,rfl,E⟩:=Q.out j b s.out;have b3:=E wr h.out;have S:=dD<|ac.out f (mG L) b (mG s);have B:=dD<|qQ s.out;clear E;by_cases a5:0<=b
   ·obtain⟨p,rfl⟩:∃p:Nat,b=(p:Int):=⟨b.toNat,Wm⟩
    have m:p<80:=Hm S.out;have b6:=l.c p (zbG _ m);have b7:=l.f;have C:Xo (Box (wr.setCell ⟨w.heap.size+1+1,p,Xb⟩ (Xh Xc)) (w.heap.size+1+1) (qR 80 (qS fl i (f.bl.take (j+1))))):=dD<|by
     rw[B.out,<-znb,<-zhk _ m];exact l.set p _
    have ak:Xo (Box (wr.setCell ⟨w.heap.size+1+1,p,Xb⟩ (Xh Xc)) (w.heap.size+1) (qR 80 [])):=dD<|A.other Sm _;have aa:Xo (zc w (wr.setCell ⟨w.heap.size+1+1,p,Xb⟩ (Xh Xc))):=dD<|zz h (by simp;omega) _;go_wp2;go_roundg (r-(j+1));exact⟨j+1,Wm,Wm,Gn,aa,ak,C⟩;omega
   have C:Xo (Box wr (w.heap.size+1+1) (qR 80 (qS fl i (f.bl.take (j+1))))):=dD<|by
    rw[B.out,zlg _ _ _ Wm];exact l.out
   go_wp2;go_roundg (r-(j+1));exact⟨j+1,Wm,Wm,Gn,h,A,C⟩;omega
  have y:=kD g;have:j=r:=Wm;subst this;have C:Xo (Box wr (w.heap.size+1+1) (qR 80 (qS fl (i+1) []))):=dD<|by
   have a4:=l.out;rw[Xz (by rw[R.out];exact nR _),zlh L.out]at a4;exact a4
  go_wp2;go_roundg (q-(i+1));exact⟨i+1,Wm,Wm,Gn,h,A,C⟩;omega
 have F:=kD x;have:i=q:=Wm;subst this;obtain⟨X,k⟩:=kA (qR 80 (qS fl i []));have t:Xo (X.length=80):=dD<|by rw[<-k.out];exact zbF _ _
 have P:Xo (∀v∈X,v.oneCell'=Xc):=dD<|by rw[<-k.out];exact zhl _ _
 rw[k.out]at l;go_upto_region 12 with fail;go_wp2_with(first|(refine zD rfl 198 (.tmp 3) rfl (w.heap.size+1+1) rfl l underlying198 rfl (Rx t.out zsg) ?_)|(refine zn rfl 198 (.tmp 2) (.tmp 28) rfl (w.heap.size+1) rfl X rfl A (by rw[t.out,zbF]) (Rx zbF zsg) P.out ?_))
 intro ag V W _;have ab:Xo (zc w ag):=dD<|zd h W Wm;go_wp2;refine bodyPost_ret (z6 rfl _ rfl V underlying198 rfl (Rx t.out zsg)) rfl ⟨by rw[<-k.out],ab⟩
theorem zgz(a b c d e f g h:Int):zcR ⟨a,b,c,d,e,f,g,h⟩ ⟨0,0,0,0,0,0,0,0⟩=([a,b,c,d,e,f,g,h]==zw):=by rw[Ys,zbA];simp[zw]
def zcJ(m:Ma)(b:Nat):Bool:=!z3 m.fl (b:Int)&&!(m.db.getD b []==zw)
theorem zfv(a:b<m.db.length)(h:zcJ m b=Xc):zav m=7:=by unfold zav;rw[kE];rw[Yq];exact⟨b,Ym.2 a,h⟩
theorem ze4{q:Int×List Int}(a:m.dq[j]?=Xa q)(h:z3 m.fl q.1=Xd):zae m=7:=by grind[zae,Yq,mG]
theorem zih{n:Nat}{a:List (Int×List Int)}(h:zO n a=0):n<=80/\∀(j:Nat)q,a[j]?=Xa q->0<=q.1/\q.1<n:=by grind[zO,Zh,Yq.2,mG]
theorem zo2(a:b<80):(qR 80 (qS m.fl m.fl.length []))[b]?=Xa (Xh (z3 m.fl (b:Int))):=by rw[zbG _ a,znc]
theorem zoX(a:zaQ m Xb m.ca=0)(k:Nat):frE m k=if(zZ m k).r≠qo m m.sp.length [] ze0 (1,(k:Int))\/(0<=(zZ m k).f/\¬QM m.ca ((zZ m k).f,(zZ m k).x)=Xa (k:Int))then 7 else 0:=by unfold frE;rw[zjS m ze0 (k:Int) (by decide:(1:Int)≠0),kE rfl];grind[zk4,zL,QM,zZ]
theorem zl6(m:Ma)(k:Nat):zku m k=if m.sl.getD k 0≠qo m m.sp.length [] ze0 (2,(k:Int))then 7 else 0:=by unfold zku;have h:=zjS m ze0 (k:Int) (by decide:(2:Int)≠0);grind
def chk:List Nat:=[98,99,100,101,102,103]
def zqx(m:Ma):List Int:=[zF (Jt m),zF (J3 m),QY m,zeY m,zgM m,za2 m]
theorem zgL(h:QY m=0):m.sp.length<=4:=by
 unfold QY at h;split at h;·cases h
 omega
theorem zly(k f:Nat)(a:chk[k]?=Xa f):∀b w,(callFunc f b).run prog w=.ok (.enter f b) w:=by
 match k,a with
 |0,a=>cases a;exact enters_of func98 Kr rfl
 |1,a=>cases a;exact enters_of func99 Kr rfl
 |2,a=>cases a;exact enters_of func100 Kr rfl
 |3,a=>cases a;exact enters_of func101 Kr rfl
 |4,a=>cases a;exact enters_of func102 Kr rfl
 |5,a=>cases a;exact enters_of func103 Kr rfl
 |k+6,a=>simp[chk]at a
def fnV(f:Nat):Xq:=.func (.func f) #[] #[]
theorem za6{g:Nat}(h:w.ownsRow b t k A p xs)(c:A.ownBlock=Xa g):b<=g/\g<w.heap.size/\∃cs,w.heap[g]?=Xa (Xk cs t (0,0)):=by
 rcases h.2 with⟨rfl,_⟩|⟨v,k,k,rfl,k,k,k⟩;·cases c
 simp only[Value.ownBlock,Option.some.injEq]at c;grind
theorem zcB{D:Nat->Prop}(h:w.ownsRow b t k A p xs)(v:qA D w W)(i:∀g,A.ownBlock=Xa g->¬D g):W.ownsRow b t k A p xs:=by
 refine⟨h.1,?_⟩;rcases h.2 with k|⟨g,k,c,rfl,f,d,h⟩;·grind
 exact .inr ⟨g,k,c,rfl,f,by rw[v.block g (aS.1 d).1 (i g rfl)];exact d,h⟩
theorem zg7{D:Nat->Prop}(h:w.ownsRow b t k A p xs)(v:qA D w W)(i:∀g,A.ownBlock=Xa g->¬D g):W.ownsRow b t k A p xs:=by
 refine⟨h.1,?_⟩;rcases h.2 with k|⟨g,k,c,rfl,f,d,h⟩;·grind
 exact .inr ⟨g,k,c,rfl,f,by rw[v.block g (aS.1 d).1 (i g rfl)];exact d,h⟩
def oB(s:Sli)(b:Nat):Prop:=(O s.a s.n s.c).ownBlock=Xa b
def Dw(p:Nat)(V:MaV):Nat->Prop:=fun b=>b=p\/oB V.f b\/oB V.ca b\/oB V.sp b
def Dr(B p:Nat)(V:MaV):Nat->Prop:=fun b=>b<B\/Dw p V b
structure znR(w:Xn)(V:MaV)(m:Ma):Prop where
 sl:zs slE w (O V.s.a V.s.n V.s.c) m.sl
 sb:Zj w (O V.sb.a V.sb.n V.sb.c) m.sb
 sq:jW w (O V.sq.a V.sq.n V.sq.c) m.sq
 db:Zj w (O V.db.a V.db.n V.db.c) m.db
 dq:jW w (O V.dq.a V.dq.n V.dq.c) m.dq
 fl:qa w (O V.fl.a V.fl.n V.fl.c) m.fl
structure ChW(w0:Xn)(p:Nat)(w:Xn)(V:MaV)(m:Ma):Prop where
 gr:zc w0 w
 lo:w0.heap.size<=p
 box:zt w p 102 (chL V m)
 fs:zb qy w0.heap.size w (O V.f.a V.f.n V.f.c) m.fs
 ca:zb qX w0.heap.size w (O V.ca.a V.ca.n V.ca.c) m.ca
 sp:∃xs:List SpV,zb Z4 w0.heap.size w (O V.sp.a V.sp.n V.sp.c) xs/\xs.length=m.sp.length/\∀(i:Nat)x s,xs[i]?=Xa x->m.sp[i]?=Xa s->∀W,qA (Dr w0.heap.size p V) w W->QG W x s
 rest:∀W,qA (Dr w0.heap.size p V) w W->znR W V m
def Chg(w0:Xn)(p:Nat)(w:Xn)(V:MaV)(m':Ma)(w':Xn):Prop:=∃V':MaV,ChW w0 p w' V' m'/\qA (Dw p V) w w'/\∀k,Dw p V' k->Dw p V k\/w.heap.size<=k
section
variable{w0 w w1 w2:Xn}{p:Nat}{V V':MaV}{m m':Ma}
theorem ChW.bN(h:ChW w0 p w V m):∀k,Dw p V k->k<w.heap.size:=by
 rintro k(rfl|a|a|a);·exact h.box.box.lt
 ·exact(h.fs.lt k a).2
 ·exact(h.ca.lt k a).2
 obtain⟨b,b,_⟩:=h.sp;exact(b.lt k a).2
theorem ChW.dlo(h:ChW w0 p w V m):∀k,Dw p V k->w0.heap.size<=k:=by
 rintro k(rfl|a|a|a);·exact h.lo
 ·exact(h.fs.lt k a).1
 ·exact(h.ca.lt k a).1
 obtain⟨b,b,_⟩:=h.sp;exact(b.lt k a).1
theorem ChW.drt(h:ChW w0 p w V m):∀k,Dr w0.heap.size p V k->k<w.heap.size:=by
 rintro k(a|a);·exact Ya a (bS h.gr)
 exact h.bN k a
theorem ChW.aA(h:ChW w0 p w V m)(k:zc w w1):ChW w0 p w1 V m:=by obtain⟨c,a,b,d⟩:=h.sp;exact⟨h.gr.trans k,h.lo,h.box.aA k,h.fs.aA k,h.ca.aA k,⟨c,a.aA k,b,fun i x s c b W a=>d i x s c b W ((qA.aA k).trans a)⟩,fun W a=>h.rest W ((qA.aA k).trans a)⟩
theorem ChW.at(h:ChW w0 p w V m):zK w V m:=by have r:=h.rest w (qA.refl _ _);obtain⟨d,a,b,c⟩:=h.sp;exact⟨h.fs.at,r.sl,r.sb,r.sq,r.db,r.dq,r.fl,h.ca.at,⟨d,a.at,b,fun i x s b a=>c i x s b a w (qA.refl _ _)⟩⟩
theorem ChW.nf(h:ChW w0 p w V m):∀g,oB V.f g->p≠g:=h.fs.ne h.box Dc
theorem ChW.nc(h:ChW w0 p w V m):∀g,oB V.ca g->p≠g:=h.ca.ne h.box Dc
theorem ChW.ns(h:ChW w0 p w V m):∀g,oB V.sp g->p≠g:=by obtain⟨a,a,_⟩:=h.sp;exact a.ne h.box Dc
theorem ChW.fc(h:ChW w0 p w V m):∀g,oB V.f g->¬oB V.ca g:=h.fs.apart h.ca Dc
theorem ChW.fS(h:ChW w0 p w V m):∀g,oB V.f g->¬oB V.sp g:=by obtain⟨a,a,_⟩:=h.sp;exact h.fs.apart a Dc
theorem ChW.cS(h:ChW w0 p w V m):∀g,oB V.ca g->¬oB V.sp g:=by obtain⟨a,a,_⟩:=h.sp;exact h.ca.apart a Dc
theorem ChW.key(k:qA (Dw p V) w w1)(hd:∀k,Dw p V' k->Dw p V k\/w.heap.size<=k)(a:qA (Dr w0.heap.size p V') w1 W):qA (Dr w0.heap.size p V) w W:=
 ⟨a.os.trans k.os,a.tape.trans k.tape,a.output.trans k.output,nT k.size a.size,fun b d c=>(a.block b (Ya d k.size) (fun e=>by
  rcases e with e|e;·exact c (.inl e)
  rcases hd b e with e|e;·exact c (.inr e)
  omega)).trans (k.block b d (fun e=>c (.inr e)))⟩
theorem ChW.bV(h:ChW w0 p w V m)(k:qA (Dw p V) w w1):zc w0 w1:=
 ⟨k.os.trans (Below.os h.gr),k.tape.trans (Below.tape h.gr),k.output.trans (Below.output h.gr),nT (bS h.gr) k.size,fun b a=>(k.block b (Ya a (bS h.gr)) (fun e=>Hm (h.dlo b e))).trans (Below.block h.gr b a)⟩
theorem Chg.refl(h:ChW w0 p w V m)(g:zc w w1):Chg w0 p w V m w1:=⟨V,h.aA g,qA.aA g,fun _ a=>.inl a⟩
theorem Chg.aH(g:zc w w1)(h:Chg w0 p w1 V m' w2):Chg w0 p w V m' w2:=by
 obtain⟨a,b,d,c⟩:=h;refine⟨a,b,(qA.aA g).trans d,fun k a=>?_⟩;rcases c k a with e|e;·grind
 exact .inr (nT (bS g) e)
theorem Chg.step{b:MaV}(a:qA (Dw p V) w w1)(c:∀k,Dw p b k->Dw p V k\/w.heap.size<=k)(e:Chg w0 p w1 b m' w2):Chg w0 p w V m' w2:=by
 obtain⟨c,d,b,f⟩:=e;refine⟨c,d,⟨b.os.trans a.os,b.tape.trans a.tape,b.output.trans a.output,nT a.size b.size,fun c d g=>(b.block c (Ya d a.size) (fun e=>?_)).trans (a.block c d g)⟩,fun k b=>?_⟩;·grind
 rcases f k b with e|e;·grind
 exact .inr (nT a.size e)
theorem Chg.far{a:MaV}(g:zc w w1)(d:∀k,Dw p a k->Dw p V k\/w1.heap.size<=k):∀k,Dw p a k->Dw p V k\/w.heap.size<=k:=fun k a=>(d k a).elim .inl fun e=>.inr (nT (bS g) e)
theorem zt.chg(h:zt w b t D)(k:qA (Dw p V) w w1)(a:¬Dw p V b):zt w1 b t D:=h.aV k a
theorem ChW.field(h:ChW w0 p w V m)(k:zc w w1)(c:w1.grownBy w2 (Xa p))(f:V'.f=V.f)(n:V'.ca=V.ca)(q:V'.sp=V.sp)(g:m'.fs=m.fs)(u:m'.ca=m.ca)(r:m'.sp=m.sp)(a:zt w2 p 102 (chL V' m'))(rs:∀W,qA (Dr w0.heap.size p V) w W->qA (Dr w0.heap.size p V) w1 W->znR W V m->znR W V' m'):Chg w0 p w V m' w2:=by
 have j:qA (Dw p V) w w2:=(qA.aA k).trans (qA.grown c (.inl rfl));have e:Dw p V'=Dw p V:=by unfold Dw;rw[f,n,q]
 have d:Dr w0.heap.size p V'=Dr w0.heap.size p V:=by unfold Dr;rw[e]
 obtain⟨i,x,b,y⟩:=h.sp;refine⟨V',⟨h.bV j,h.lo,a,?_,?_,⟨i,?_,Rx r b,fun t z v s i W b=>?_⟩,fun W b=>?_⟩,j,fun l a=>.inl (by rw[e]at a;exact a)⟩;·rw[f,g];exact(h.fs.aA k).grown c (fun g f e=>h.nf g f (by cases e;rfl))
 ·rw[n,u];exact(h.ca.aA k).grown c (fun g f e=>h.nc g f (by cases e;rfl))
 ·rw[q];exact(x.aA k).grown c (fun g f e=>h.ns g f (by cases e;rfl))
 ·rw[d]at b;rw[r]at i;exact y t z v s i W ((j.wide fun l a=>.inr a).trans b)
 rw[d]at b;exact rs W ((j.wide fun l a=>.inr a).trans b) (((qA.grown c (.inr (.inl rfl)))).trans b) (h.rest W ((j.wide fun l a=>.inr a).trans b))
theorem ChW.cC(h:ChW w0 p w V m){b:Sli}(d:zc w w1)(f:qH slE w.heap.size w1 (b.x) L)(e:w1.grownBy w2 (Xa p))(c:zt w2 p 102 (chL {V with s:=b} {m with sl:=L})):Chg w0 p w V {m with sl:=L} w2:=
 h.field (V':={V with s:=b}) (m':={m with sl:=L}) d e rfl rfl rfl rfl rfl rfl c (fun W _ L r=>⟨f.aZ h.drt W L,r.sb,r.sq,r.db,r.dq,r.fl⟩)
theorem ChW.bF(h:ChW w0 p w V m){b:Sli}{fs:List Fr}(i:zc w w1)(j:zb qy w.heap.size w1 (b.x) fs)(c:w1.grownBy w2 (Xa p))(a:zt w2 p 102 (chL {V with f:=b} {m with fs:=fs,aB:=hd})):Chg w0 p w V {m with fs:=fs,aB:=hd} w2:=by
 have d:qA (Dw p V) w w2:=(qA.aA i).trans (qA.grown c (.inl rfl));have e:=h.bN p (.inl rfl);have hd:∀k,Dw p {V with f:=b} k->Dw p V k\/w.heap.size<=k:=by
  rintro k(e|e|e|e);·exact .inl (.inl e)
  ·exact .inr (j.lt k e).1
  ·exact .inl (.inr (.inr (.inl e)))
  exact .inl (.inr (.inr (.inr e)))
 obtain⟨q,k,l,n⟩:=h.sp;refine⟨{V with f:=b},⟨h.bV d,h.lo,a,(j.base (bS h.gr)).grown c (fun g a e=>?_),(h.ca.aA i).grown c (fun g a e=>h.nc g a (by cases e;rfl)),⟨q,(k.aA i).grown c (fun g a e=>h.ns g a (by cases e;rfl)),l,fun k x s i g W c=>n k x s i g W (ChW.key d hd c)⟩,fun W c=>?_⟩,d,hd⟩;·cases e;have:=(j.lt _ a).1;omega
 have r:=h.rest W (ChW.key d hd c);exact⟨r.sl,r.sb,r.sq,r.db,r.dq,r.fl⟩
theorem ChW.frame(h:ChW w0 p w V m){fs:List Fr}(c:oB V.f k)(b:w.grownBy w1 (Xa k))(q:zb qy w0.heap.size w1 (V.f.x) fs):Chg w0 p w V {m with fs:=fs} w1:=by have d:qA (Dw p V) w w1:=qA.grown b (.inr (.inl c));have i:∀g,Dw p V g->Dw p V g\/w.heap.size<=g:=fun _ a=>.inl a;obtain⟨y,t,u,v⟩:=h.sp;refine⟨V,⟨h.bV d,h.lo,h.box.beside b (fun g e=>by cases e;exact h.nf k c),q,h.ca.grown b (fun g a e=>by cases e;exact h.fc _ c a),⟨y,t.grown b (fun g a e=>by cases e;exact h.fS _ c a),u,fun n x s l j W f=>v n x s l j W (ChW.key d i f)⟩,fun W f=>?_⟩,d,i⟩;have r:=h.rest W (ChW.key d i f);exact⟨r.sl,r.sb,r.sq,r.db,r.dq,r.fl⟩
theorem ChW.cache(h:ChW w0 p w V m){b:Sli}{l:List Ca}(j:qA (oB V.ca) w w1)(i:∀g,oB b g->oB V.ca g\/w.heap.size<=g)(r:zb qX w0.heap.size w1 (b.x) l)(c:w1.grownBy w2 (Xa p))(n:zt w2 p 102 (chL {V with ca:=b} {m with ca:=l})):Chg w0 p w V {m with ca:=l} w2:=by
 have a:qA (Dw p V) w w2:=(j.wide fun k d=>.inr (.inr (.inl d))).trans (qA.grown c (.inl rfl));have d:∀k,Dw p {V with ca:=b} k->Dw p V k\/w.heap.size<=k:=by
  rintro k(e|e|e|e);·exact .inl (.inl e)
  ·exact .inl (.inr (.inl e))
  ·rcases i k e with e|e
   ·exact .inl (.inr (.inr (.inl e)))
   grind
  exact .inl (.inr (.inr (.inr e)))
 have f:=h.bN p (.inl rfl);have own:∀{f:Type}{E:Elt f}{s:Sli}{l:List f},zb E w0.heap.size w (s.x) l->(∀g,oB s g->¬oB V.ca g)->(∀g,oB s g->p≠g)->zb E w0.heap.size w2 (s.x) l:=fun f k q=>by refine zb.grown ⟨zg7 f.1 j k,f.2⟩ c (fun g f e=>q g f (by cases e;rfl))
 obtain⟨t,j,k,q⟩:=h.sp;refine⟨{V with ca:=b},⟨h.bV a,h.lo,n,own h.fs h.fc h.nf,r.grown c (fun g f e=>?_),⟨t,own j (fun g c b=>h.cS g b c) h.ns,k,fun n x s k j W c=>q n x s k j W (ChW.key a d c)⟩,fun W c=>?_⟩,a,d⟩
 ·cases e
  rcases i _ f with e|e;·exact h.nc _ e rfl
  omega
 have r:=h.rest W (ChW.key a d c);exact⟨r.sl,r.sb,r.sq,r.db,r.dq,r.fl⟩
theorem ChW.bQ(h:ChW w0 p w V m){xs:List SpV}{x y:SpV}(s2:xs.length=m.sp.length)(s3:∀(i:Nat)x s,xs[i]?=Xa x->m.sp[i]?=Xa s->∀W,qA (Dr w0.heap.size p V) w W->QG W x s)(n:xs[k]?=Xa x)(l:m.sp[k]?=Xa s)(t:oB V.sp b)
  (d:zc w w1)(z:Q6 0 w.heap.size w1 us G)(a:w1.grownBy w2 (Xa b))(v:zb Z4 w0.heap.size w2 (V.sp.x) (xs.set k y))(r:y.aF=x.aF/\y.ar=x.ar/\y.tab=us):Chg w0 p w V {m with sp:=m.sp.set k {s with tb:=G}} w2:=by
 have u:qA (Dr w0.heap.size p V) w1 w2:=qA.grown a (.inr (.inr (.inr (.inr t))));have f:qA (Dw p V) w w2:=(qA.aA d).trans (qA.grown a (.inr (.inr (.inr t))));have j:∀q,Dw p V q->Dw p V q\/w.heap.size<=q:=fun _ c=>.inl c;refine⟨V,⟨h.bV f,h.lo,(h.box.aA d).beside a (fun q e=>by cases e;exact h.ns b t),(h.fs.aA d).grown a (fun q c e=>by cases e;exact h.fS _ c t),(h.ca.aA d).grown a (fun q c e=>by cases e;exact h.cS _ c t),⟨xs.set k y,v,by simp[s2],fun i a d t a W c=>?_⟩,fun W c=>?_⟩,f,j⟩
 ·by_cases e:i=k
  ·subst e;rw[sF (gS.1 n).1]at t;have a:(m.sp.set i {s with tb:=G})[i]?=Xa d:=a;rw[sF (gS.1 l).1]at a;cases t;cases a;have q:=s3 i x s n l W (ChW.key f j c);obtain⟨t,a,d⟩:=r;refine⟨t.trans q.aF,Rx a q.ar,Rx a q.cap,?_⟩;rw[d];exact z.aV h.drt (u.trans c)
  grind[sN,ChW.key]
 have r:=h.rest W (ChW.key f j c);exact⟨r.sl,r.sb,r.sq,r.db,r.dq,r.fl⟩
end
section
variable{α:Type}{E:Elt α}
theorem zcP{l0:List α}(u:TypeId)(p:zb E k w A l0)(F:Xq)(l:List α)(V:zs E w F l)(n:(l0.length+l.length)*E.bytes<=140737488355328)(b:k<=w.heap.size):
  ∃e w',(Builtin.append_ #[E.st,E.st] u #[A,F]).run prog w=.ok e w'/\zb E k w' e (l0++l)/\w.grownBy w' A.ownBlock/\∀g,e.ownBlock=Xa g->A.ownBlock=Xa g\/w.heap.size<=g:=by
 obtain⟨C,y,s,base,t⟩:=info_parts E.aD;obtain⟨⟨G,x,rfl,i,a⟩,L⟩:=V;have K:(l0.length+l.length)*1<=(l0.length+l.length)*E.bytes:=Nat.mul_le_mul_left _ (nT E.pos E.few);cases G with
 |none=>
  have B:=i rfl;subst B;exact⟨A,w,Qq u p x,Si p,World.grownBy.rfl' _ _,fun g h=>.inl h⟩
 |some m=>
  rcases p.1.2 with⟨rfl,v⟩|⟨g,f,H,rfl,R,S,U,M,N,Q⟩
  ·have z:l0=[]:=eN v;subst z;obtain⟨e,w',r,q,d,_⟩:=run_append_own (P:=prog) w w.heap.size E.st u E.ty C _ E.k E.bytes E.bJ y s base t (zif E) E.pos _ 0 [] (World.ownsRow_nil _ _ _ _) m l.length x (l.flatMap E.enc) (qe E l) (a m rfl) (qt E.one l) (qD (by simp at K n⊢;omega)) (Si n) (nR _);have c:zb E w.heap.size w' e ([]++l):=⟨Si q,Si n⟩;exact⟨e,w',r,c.base b,d,fun g h=>.inr (c.lt g h).1⟩
  by_cases j:l0.length+l.length<=f;·obtain⟨w',r,q,d⟩:=run_append_fits (P:=prog) w k E.st u E.ty C E.k E.bJ y base g l0.length f _ p.1 m l.length x (l.flatMap E.enc) (qe E l) (a m rfl) (qt E.one l) j;exact⟨_,w',r,⟨by rw[lA,Xy];exact q,Rx lA n⟩,d,fun D h=>.inl h⟩
  obtain⟨e,w',r,q,d⟩:=run_append_arg_grows (P:=prog) w E.st u E.ty C _ E.k E.bytes E.bJ y s base t (zif E) E.pos ⟨g,0,Xb⟩ l0.length f (l0.flatMap E.enc) (qe E l0) (p.1.cells rfl) m l.length x (l.flatMap E.enc) (qe E l) (a m rfl) Wm (qD Wm) n;have c:zb E w.heap.size w' e (l0++l):=⟨by rw[lA,Xy];exact q,Rx lA n⟩;exact⟨e,w',r,c.base b,⟨d.os,d.tape,d.output,d.size,fun W T _=>d.block W T Sm⟩,fun D h=>.inr (c.lt D h).1⟩
theorem Qn(f:o.guard=Xb)(s x:Operand)(q:o.op=.call {callee:=.builtin .append,args:=#[s,x],argTypes:=#[E.st,E.st]})
  (base:Nat)(vs:Xq)(l0:List α)(r:a.eval s=vs)(c:zb E base w vs l0)(h:Xq)(l:List α)(u:a.eval x=h)(t:zs E w h l)(p:(l0.length+l.length)*E.bytes<=140737488355328)(b:base<=w.heap.size)
  (i:∀e w',zb E base w' e (l0++l)->w.grownBy w' vs.ownBlock->(∀g,e.ownBlock=Xa g->vs.ownBlock=Xa g\/w.heap.size<=g)->wpList prog ops Q K (a.put o.dst e) w'):wpList prog ops Q (o::K) a w:=by refine wpList_plain f fun rest n=>?_;obtain⟨e,w',d,j,k,m⟩:=zcP o.type c h l t p b;unfold Oper.wp execOp;simp only[q,resolve,invoke,builtin,Xs,Xx,rA,Yi,mP,Ye,r,u,d];exact n _ _ (i e w' j k m)
end
theorem zeC(V m)(a:Ar)(n:Nat)(e:En)(w)(a9:zK w V m)(ar:jD a)(av:n<=64)(bg:0<=e.n)(b:zeX m a n e=0):
  Xp prog 133 #[Xi (mL V m).toArray,Xi #[I6 a.fr,I6 a.tz,Xh a.rd,Xh a.wr,Xh a.sh,I6 a.file,I6 a.base],I6 (n:Int),Xi #[I6 e.kind,I6 e.n,Xh e.wr]] w fun e' w'=>e'=Xl (I6 0)/\zc w w':=by
 obtain⟨aa,ab,-⟩:=a9.ns;have u:(0<=a.base/\a.base<=100)/\(0<=a.fr/\a.fr<=100):=by
  obtain⟨bp,bq,br,bs,bt,bu,be,bf⟩:=ar;by_cases bh:a.file<0;·have:=be bh;omega
  have:=bf Wm;omega
 have y:Xo (∀(q:Fr)W,Xp prog 159 #[Xi (frv q).toArray,Xi #[I6 a.fr,I6 a.tz,Xh a.rd,Xh a.wr,Xh a.sh,I6 a.file,I6 a.base],I6 (n:Int)] W fun e w'=>e=Xl (Xh (QV q a n))/\zc W w'):=dD<|fun q W=>ziL q a n W u.1 u.2 av;have z:Xo (∀(q:Fr)W,Xp prog 160 #[Xi (frv q).toArray,Xi #[I6 a.fr,I6 a.tz,Xh a.rd,Xh a.wr,Xh a.sh,I6 a.file,I6 a.base]] W fun e w'=>e=Xl (Xh (ZT q a))/\zc W w'):=dD<|fun q W=>zhj q a W;have bl:=dD ab.symm;have ay:=dD aa.symm;have P:=dD a9.bB;have al:Xo (zeX m a n e=if e.kind=2 then(if(V.s.n:Int)<=e.n\/a.sh=Xc then 7 else 0)else if(V.f.n:Int)<=e.n then 3 else if QV (zZ m e.n) a n=Xd\/(e.wr=Xc/\ZT (zZ m e.n) a=Xd)then 7 else 0):=show _=_ by
  unfold zeX;rw[aa,ab]
 rw[al.out]at b;clear a9 ar u aa ab av;have D:zc w (((w.alloc (Xk (mL V m).toArray 41)).alloc (Xk #[I6 a.fr,I6 a.tz,Xh a.rd,Xh a.wr,Xh a.sh,I6 a.file,I6 a.base] 77)).alloc (Xk #[I6 e.kind,I6 e.n,Xh e.wr] 55)):=((za _ _).trans (za _ _)).trans (za _ _);have c:=dD D;clear D;by_cases v:e.kind=2
 ·have F:(e.kind==2)=Xc:=by simp[v]
  rw[kE v]at b;clear v;have a6:¬(V.s.n:Int)<=e.n:=fun a5=>by rw[kE (.inl a5)]at b;exact absurd b Dc
  have aw:a.sh=Xd:=by
   cases C:a.sh;·rfl
   rw[kE (.inr C)]at b;exact absurd b Dc
  rw[aw]at c y z;rw[aw];clear b;go_enter func133,ntmps133;go_wp2;go_ret;exact⟨rfl,c⟩
 have F:(e.kind==2)=Xd:=by simp[v]
 rw[kF v]at b;clear v;have a6:¬(V.f.n:Int)<=e.n:=fun a5=>by rw[kE a5]at b;exact absurd b Dc
 rw[kF a6]at b;obtain⟨ap,aq,L⟩:=e;simp only at bg F a6 b al c⊢;obtain⟨l,rfl⟩:∃l:Nat,aq=(l:Int):=⟨aq.toNat,Wm⟩;have a8:l<V.f.n:=Wm;obtain⟨q,ak⟩:∃q,Xo (m.fs[l]?=Xa q):=⟨_,gE (Rx ay.out a8)⟩;have E:zZ m (l:Int)=q:=by unfold zZ;rw[tN,gD,ak.out];rfl
 rw[E]at b;clear E;obtain⟨ao,K,au⟩:=P.out l q ak.out;(try simp only[mL,Sli.x]at c P⊢);rw[K]at c P⊢;clear K;obtain⟨p,d⟩:=kB (((w.alloc (Xk #[O (Xa ao) V.f.n V.f.c,I6 m.aB,V.s.x,V.sb.x,V.sq.x,V.db.x,V.dq.x,V.fl.x,I6 m.cnt,V.ca.x,V.sp.x] 41)).alloc (Xk #[I6 a.fr,I6 a.tz,Xh a.rd,Xh a.wr,Xh a.sh,I6 a.file,I6 a.base] 77)).alloc (Xk #[I6 ap,I6 (l:Int),Xh L] 55));rw[d]at c;have b0:Xo (Box p (w.heap.size+1) [I6 a.fr,I6 a.tz,Xh a.rd,Xh a.wr,Xh a.sh,I6 a.file,I6 a.base]):=dD<|by rw[<-d];exact(Box.aE _ _ _ Sm).alloc _
 have an:Xo (Box p (w.heap.size+1+1) [I6 ap,I6 (l:Int),Xh L]):=dD<|by rw[<-d];exact Box.aE _ _ _ Sm
 have az:Xo (Box p w.heap.size [O (Xa ao) V.f.n V.f.c,I6 m.aB,V.s.x,V.sb.x,V.sq.x,V.db.x,V.dq.x,V.fl.x,I6 m.cnt,V.ca.x,V.sp.x]):=dD<|by rw[<-d];exact((Box.aE _ _ _ rfl).alloc _).alloc _
 have bi:=az.c 0 rfl;have bj:=an.c 1 rfl;have B:Xo (p.heap.size=w.heap.size+1+1+1):=dD<|by rw[<-d];simp
 obtain⟨b3,b4,b5,b6,b7,b8,b9,ba,bb,bc,R,S,T⟩:=au p c.out;have Q:Xo (_=p):=d;clear d au;have G:QV q a n=Xc:=by
  cases C:QV q a n;·rw[kE (.inl C)]at b;exact absurd b Dc
  rfl
 have A:Xo (L=Xc->ZT q a=Xc):=dD<|fun bd=>by
  cases C:ZT q a;·rw[kE (.inr ⟨bd,C⟩)]at b;exact absurd b Dc
  rfl
 clear b;have j:=y.out q;rw[G]at j;have ax:=dD j;clear j;clear G;go_enter func133,ntmps133;go_upto_region 7 with fail;rw[Q.out];go_upto_region 8 with fail;refine nW fun bm h=>?_;have N:=gT h c;have am:=yA h b0;have b2:=yA h an;have f:=xP h B;rw[B.out];clear h bi bj b3 b4 b5 b6 b7 b8 b9 ba bb bc R S T;obtain⟨ac,ae,af,ag,ah,ai,aj⟩:=am.c7;have U:=f.c 0 rfl;have X:=f.c 1 rfl;have Y:=f.c 2 rfl;have Z:=f.c 3 rfl;have I:=f.c 4 rfl;have a0:=f.c 5 rfl;have a1:=f.c 6 rfl;have a2:=f.c 7 rfl;have a3:=f.c 8 rfl;have a4:=f.c 9 rfl;have r:=f.c 10 rfl;have s:=f.c 11 rfl;have t:=f.c 12 rfl;go_wp2_with fail;refine(ax _).mono ?_;clear ac ae af ag ah ai aj U X Y Z I a0 a1 a2 a3 a4 r s t;rintro e bn⟨rfl,i⟩;have x:=dD (N.trans i);have b1:=am.aA i;have bk:=(b2.aA i).c 2 rfl;have g:=f.aA i;clear i;cases L with
 |false=>
  go_wp2;go_ret;exact⟨rfl,x⟩
 |true=>
 have H:=A.out rfl;have k:=z.out q;rw[H]at k;have M:=dD k;clear k;clear H;obtain⟨ac,ae,af,ag,ah,ai,aj⟩:=b1.c7;have U:=g.c 0 rfl;have X:=g.c 1 rfl;have Y:=g.c 2 rfl;have Z:=g.c 3 rfl;have I:=g.c 4 rfl;have a0:=g.c 5 rfl;have a1:=g.c 6 rfl;have a2:=g.c 7 rfl;have a3:=g.c 8 rfl;have a4:=g.c 9 rfl;have r:=g.c 10 rfl;have s:=g.c 11 rfl;have t:=g.c 12 rfl;go_wp2_with(go_at_call 160;refine(M _).mono ?_;clear ac ae af ag ah ai aj U X Y Z I a0 a1 a2 a3 a4 r s t bk;rintro e bo⟨rfl,a7⟩)
 go_ret;exact⟨rfl,x.trans a7⟩
theorem zeB(V m w)(ah:zK w V m)(cr:zke m)(cs:znQ m)(cq:zgM m=0):
  Xp prog 102 #[Xi (mL V m).toArray] w fun e w'=>e=Xl (I6 0)/\zc w w':=by
 have a7:=dD<|fun(a:Ar)(n:Nat)(e:En)W(a9:zc w W)(dr:jD a)(bj:n<=64)(ds:0<=e.n)=>zeC V m a n e W (ah.aA a9) dr bj ds;have b6:=dD cr.mem;have b8:=dD cs;obtain⟨aw,ax,L,M,G,H,K,F,⟨ar,d,E⟩⟩:=V;dsimp only[mL]at a7⊢;obtain⟨-,-,-,-,-,-,-,-,cc⟩:=ah.ns;dsimp only at cc;obtain⟨eb,ap,S,al⟩:=ah.aM;have bd:=dD ap;have cy:=dD S;have ba:=dD al;have cj:=dD cc.symm;have ct:d<=9223372036854775807:=by
  obtain⟨ek,dy,ef,_⟩:=ah.sp;have:=dy.short;omega
 have b0:Xo (∀s∈m.sp,∀n∈qW s,zaK m (zl s.aC n) (zh s n)=0):=dD<|fun s dw n bj=>zk.1 ((ziv m s).symm.trans (zk.1 cq _ (Yx dw))) _ (Yx bj);clear ah ap S al cc cr cs cq;obtain⟨ec,C⟩:=kB (w.alloc (Xk #[aw.x,I6 m.aB,ax.x,L.x,M.x,G.x,H.x,K.x,I6 m.cnt,F.x,O ar d E] 41));have b2:=gA C;have cn:=xA C;have bc:=dD C;clear C;go_enter func102,ntmps102;go_upto_region 1 with fail;rw[bc.out];have ch:=cn.c 10 rfl;go_wp2;clear ch;go_loopg[12] d (fun bf ce wr=>∃f:Nat,f<=d/\d-f<=bf/\ce=I6 f/\Xo (zc w wr)/\Xo (Box wr w.heap.size [aw.x,I6 m.aB,ax.x,L.x,M.x,G.x,H.x,K.x,I6 m.cnt,F.x,O ar d E]))
 exact⟨0,nZ _,Wm,rfl,b2,cn⟩;obtain⟨f,du,dt,rfl,g,dc⟩:=hrel;by_cases D:f<d
 ·have ag:=kC D
  obtain⟨s,b9⟩:∃s,Xo (m.sp[f]?=Xa s):=⟨_,gE (Rx cj.out D)⟩;obtain⟨x,cl⟩:∃x,Xo (eb[f]?=Xa x):=⟨_,gE (by rw[bd.out,cj.out];exact D)⟩;have h:=dD<|ba.out f x s cl b9.out;obtain⟨Q,R⟩:=b8.out s (mG b9);have a1:=dD<|(qU.1 Q).2;have bb:=dD R;have ay:=dD h.ar.n.symm;have az:Xo (znZ w x.ar.a s.aC):=show znZ _ _ _ by
   obtain⟨_,_,aq,cd⟩:=h.ar.aC;simp only[vJ]at aq;rw[aq.1];exact cd
  clear Q R;obtain⟨cp,rfl,q⟩:=cy.out f x cl.out;obtain⟨df,dg,dh,di,dj,dk,dl,dm,dn,dp⟩:=q wr g.out;clear q;go_upto_region 4 with fail;refine nW fun cz j=>?_;have a4:=gT j g;have db:=yA j dc;have t:=xA j;clear j df dg dh di dj dk dl dm dn dp;obtain⟨eh,b7⟩:=kA wr.heap.size;rw[b7.out]at t⊢;have l:=za5 x.tab s.tb cz (h.aA a4).tb;obtain⟨_,_,e2,e3,e4,e5,e6,e7,e8,e9⟩:=t.k10;go_wp2_with fail;refine l.mono ?_;clear l e2 e3 e4 e5 e6 e7 e8 e9;rintro be da⟨ej,rfl,Z,p⟩;have v:=dD (a4.trans p);have co:=dD (db.aA p);have cm:=dD (t.aA p);clear p;obtain⟨eg,ei,rfl,aj⟩:=Z.at.aW;have ak:=Z.at.short;have a6:=dD aj;rw[Jz,Yk]at ak⊢;rw[Jz]at a6;clear Z aj;obtain⟨I,ck⟩:=kA ((qW s).length);rw[ck.out]at ak⊢;go_wp2;have cx:=dD g;go_loopg[20] I (fun bf cf wr=>∃u:Nat,u<=I/\I-u<=bf/\cf=I6 u/\Xo (zc da wr))
  exact⟨0,nZ _,Wm,rfl,zc.refl _⟩;obtain⟨u,ee,p,rfl,g⟩:=hrel;by_cases r:u<I
  ·have X:=kC r
   obtain⟨n,T⟩:∃n,Xo ((qW s)[u]?=Xa n):=⟨_,gE (Rx ck.out r)⟩;have ai:=zg5 T.out;obtain⟨de,rfl,af⟩:=a6.out u (n:Int) (by rw[Yc,T.out];rfl);have dq:=af wr g.out;clear af;have ab:=b0.out s (mG b9) n (mG T);have a2:=dD ab;clear ab;have b4:=dD (v.trans g);have aa:=zgm (x.ar.x) s.aC (n:Int) wr (h.ar.aA b4);have e1:=(cm.aA g).c 1 rfl;go_wp2_with fail;refine aa.mono ?_;clear aa dq e1;rintro be N⟨⟨cv,rfl,cu⟩,ac⟩;have a3:=dD cu;have z:=dD (g.trans ac);have b:=dD (v.trans z);clear ac cu;have dx:¬cv<0:=fun av=>by
    have:=zjZ a3.out;rw[decide_eq_false Wm]at this;have bg:=a2.out;unfold zaK at bg;rw[kE this.symm]at bg;exact absurd bg Dc
   obtain⟨k,a,rfl,A,b5⟩:∃(k:Nat)(a:Ar),cv=(k:Int)/\Xo (s.aC[k]?=Xa a)/\Xo (inZ a (n:Int)=Xc):=by
    rcases a3 with⟨k,a,aq,cd,dz⟩|⟨aq,_⟩;·exact⟨k,a,aq,cd,dz⟩
    omega
   have a0:=dD<|zgq a1 A.out;have dv:k<x.ar.n:=(by rw[<-ay.out];exact(gS.1 A).1);have b1:Xo (zeX m a n (zh s n)=0):=dD (by rw[<-a2.out,zbB a1.out A.out b5.out,zlY b6.out a0.out]);have P:=(q7 (zql bb n)).2.1.1;have a8:Xo (∀W,zc w W->Xp prog 133 #[Xi #[aw.x,I6 m.aB,ax.x,L.x,M.x,G.x,H.x,K.x,I6 m.cnt,F.x,O (Xa cp) d E],Xi #[I6 a.fr,I6 a.tz,Xh a.rd,Xh a.wr,Xh a.sh,I6 a.file,I6 a.base],I6 (n:Int),enV (zh s n)] W fun be w'=>be=Xl (I6 0)/\zc W w'):=dD<|fun W a9=>a7.out a n (zh s n) W a9 a0 Wm P b1.out;have b3:Xo (∀W,zc w W->Xp prog 69 #[Xi #[x.t0.x,x.t1.x,x.t2.x,x.t3.x,x.t4.x,x.t5.x,x.t6.x,x.t7.x],I6 (n:Int)] W fun e w'=>e=Xl (enV (zh s n))/\zc W w'):=dD<|fun W a9=>by
    have:=Je x.tab s.tb (n:Int) W (h.aA a9).tb;rw[zgh ai]at this;exact this
   clear P;go_upto_region 10 with fail;obtain⟨c,am,q⟩:=az.out k a A.out;have i:=dD (co.aA z);have B:=dD (cm.aA z);have bu:=i.gw 0 rfl;have bv:=i.gw 1 rfl;have bw:=i.gw 2 rfl;have bx:=i.gw 3 rfl;have bz:=i.gw 4 rfl;have c0:=i.gw 5 rfl;have c1:=i.gw 6 rfl;have c2:=i.gw 7 rfl;have c3:=i.gw 8 rfl;have c4:=i.gw 9 rfl;have ao:=i.gw 10 rfl;have Y:=B.gw 1 rfl;have bl:=B.gw 2 rfl;have bm:=B.gw 3 rfl;have bn:=B.gw 4 rfl;have bo:=B.gw 5 rfl;have bp:=B.gw 6 rfl;have bq:=B.gw 7 rfl;have br:=B.gw 8 rfl;have bs:=B.gw 9 rfl;(try simp only[Sli.x]at Y);rw[am]at Y;have c5:=fun y:zf N=>(q _ (b.trans y.aA)).1;have c6:=fun y:zf N=>(q _ (b.trans y.aA)).2.1;have c7:=fun y:zf N=>(q _ (b.trans y.aA)).2.2.1;have c8:=fun y:zf N=>(q _ (b.trans y.aA)).2.2.2.1;have c9:=fun y:zf N=>(q _ (b.trans y.aA)).2.2.2.2.1;have ca:=fun y:zf N=>(q _ (b.trans y.aA)).2.2.2.2.2.1;have cb:=fun y:zf N=>(q _ (b.trans y.aA)).2.2.2.2.2.2;have bk:Nonempty (zf N):=⟨⟨_,zc.refl _⟩⟩;clear q am;refine qY [(10,⟨fun au=>au=enV (zh s n),fun au w'=>True⟩),(11,⟨fun au=>au=I6 0,fun au w'=>True⟩)] z0 Kr (Sb ⟨_,rfl⟩ ⟨_,rfl⟩) ?hp ?_;case hp=>
    intro x an;simp only[mC,nM,or_false]at an;rcases an with rfl|rfl;·exact fun _ _ _ _ av=>av
    exact fun _ _ _ _ av=>av
   iterate 10 refine ze ?_
   refine zG rfl rfl (fun w' bi bh=>?_) (fun ea bt=>?_);·refine zJ.call [Xi #[x.t0.x,x.t1.x,x.t2.x,x.t3.x,x.t4.x,x.t5.x,x.t6.x,x.t7.x],I6 (n:Int)] rfl func69 rfl rfl rfl ?_;refine(b3 w' (b.trans bi)).mono ?_;rintro e cg⟨rfl,U⟩;exact⟨_,rfl,U,rfl,trivial⟩
   subst bt;refine Uq ?_;refine zG rfl rfl (fun w' bi bh=>?_) (fun ea bt=>?_);·refine zJ.call [Xi #[aw.x,I6 m.aB,ax.x,L.x,M.x,G.x,H.x,K.x,I6 m.cnt,F.x,O (Xa cp) d E],Xi #[I6 a.fr,I6 a.tz,Xh a.rd,Xh a.wr,Xh a.sh,I6 a.file,I6 a.base],I6 (n:Int),enV (zh s n)] rfl func133 rfl rfl rfl ?_;refine(a8 w' (b.trans bi)).mono ?_;rintro e cg⟨rfl,U⟩;exact⟨_,rfl,U,rfl,trivial⟩
   subst bt;refine Uq ?_;refine ze ?_;refine z2 fun ed ae bh=>?_;have a5:=dD (z.trans ae);have ci:=dD (v.trans a5);clear ae bh bu bv bw bx bz c0 c1 c2 c3 c4 ao Y bl bm bn bo bp bq br bs c5 c6 c7 c8 c9 ca cb bk;go_wp2;go_roundg (I-(u+1));exact⟨u+1,Wm,Wm,Gn,a5⟩;omega
  have X:=kD r;have:u=I:=Wm;subst this;have dd:=dD (co.aA g);have cw:=dD (v.trans g);go_wp2;go_roundg (d-(f+1));exact⟨f+1,Wm,Wm,Gn,cw,dd⟩;omega
 have ag:=kD D;have:f=d:=Wm;subst this;go_wp2;go_ret;exact⟨rfl,g⟩
theorem zbn(a w)(k:frW a=0):Xp prog 149 #[Xi (frv a).toArray] w fun e w'=>e=Xl (I6 0)/\zc w w':=by
 obtain⟨⟨n,p,q,s,t,u,v,y⟩,r,B,z,h,x⟩:=a;show Xp prog 149 #[Xi #[U8 n,U8 p,U8 q,U8 s,U8 t,U8 u,U8 v,U8 y,I6 r,Xh B,Xh z,I6 h,I6 x]] w _;cases b:inB r 1001 with
 |false=>simp[frW,b]at k
 |true=>
 cases d:inB x 12 with
 |false=>simp[frW,b,d]at k
 |true=>
 by_cases l:h=-1
 ·have f:(h==-1)=Xc:=by simp[l]
  have i:(h !=-1)=Xd:=by simp[l]
  by_cases m:r=0
  ·have c:(r==0)=Xc:=by simp[m]
   cases g:QN (⟨⟨n,p,q,s,t,u,v,y⟩,r,B,z,h,x⟩:Fr) frF with
   |false=>simp[frW,b,d,f,c,g]at k
   |true=>
    have j:x=0:=(by have:=zdb g;simp only[frF,Fr.mk.injEq]at this;exact this.2.2.2.2.2);exact wf7 _ _ _ _ _ _ _ _ _ _ _ _ _ w b d i f c g (by simp[j])
  have c:(r==0)=Xd:=by simp[m]
  by_cases j:x=0;·exact wf9 _ _ _ _ _ _ _ _ _ _ _ _ _ w b d i f c (by simp[j])
  have A:(x==0)=Xd:=by simp[j]
  simp[frW,b,d,f,c,A]at k
 have f:(h==-1)=Xd:=by simp[l]
 have i:(h !=-1)=Xc:=by simp[l]
 cases j:inB h 5 with
 |false=>simp[frW,b,d,f,j]at k
 |true=>
  by_cases m:r=0
  ·have c:(r==0)=Xc:=by simp[m]
   have g:QN (⟨⟨n,p,q,s,t,u,v,y⟩,r,B,z,h,x⟩:Fr) frF=Xd:=by
    refine zoW fun h=>?_;simp only[frF,Fr.mk.injEq]at h;exact l h.2.2.2.2.1
   simp[frW,b,d,f,j,c,g]at k
  have c:(r==0)=Xd:=by simp[m]
  exact wf5 _ _ _ _ _ _ _ _ _ _ _ _ _ w b d i f j c
theorem zmY:∀{fs:List Fr},zco fs=0->∀f∈fs,frW f=0
 |[],_,_,a=>by cases a
 |g::fs,h,f,a=>by
  unfold zco at h
  by_cases b:frW g=0
  ·rw[kE b]at h
   rcases mC.1 a with rfl|a
   ·exact b
   exact zmY h f a
  rw[kF b]at h;exact absurd h b
theorem Ql(a)(c:Nat)(fs:List Fr)(h:Int)(w)(g:zs qy w (O a fs.length c) fs)(i:Zv fs h=0):
  Xp prog 125 #[Xi #[O a fs.length c,I6 h]] w fun e w'=>e=Xl (I6 0)/\zc w w':=by
 have d:=g.short;obtain⟨b,b,f,b⟩:=g.bB;cases f;have r:=dD b;clear b g;have b:Zv fs h=if 40<fs.length then 4 else if zco fs=0 then(if inB h (max fs.length 1)then 0 else 3)else zco fs:=rfl;rw[i]at b;obtain⟨n,k⟩:=kA fs.length;rw[k.out]at d b⊢;have d:¬40<n:=fun e=>by rw[kE e]at b;cases b
 rw[kF d]at b;have p:Xo (∀f∈fs,frW f=0):=dD<|zmY (Decidable.byContradiction fun e=>e (by rw[kF e]at b;exact b.symm));have g:zco fs=0:=Decidable.byContradiction fun e=>e (by rw[kF e]at b;exact b.symm);rw[kE g]at b;have f:inB h (max n 1)=Xc:=by
  cases e:inB h (max n 1)with
  |true=>rfl
  |false=>rw[e]at b;cases b
 clear b g i;have b:¬(40:Int)<(n:Int):=Wm;have j:Xo (∀W,Xp prog 144 #[I6 h,I6 (max (n:Int) 1)] W fun e w'=>e=Xl (Xh Xc)/\w'=W):=dD<|fun W=>by
  have b:=ZM h (max (n:Int) 1) W;rw[show inB h (max (n:Int) 1)=inB h (max n 1) by simp,f]at b;exact b
 clear f;obtain⟨g,b⟩:=kB (w.alloc (Xk #[O a n c,I6 h] 28));have h:=gA b;have m:=xA b;have f:=dD b;clear b d;go_enter func125,ntmps125;go_wp2;rw[f.out];go_loopg[13] n (fun f d wr=>∃b:Nat,b<=n/\n-b<=f/\d=I6 b/\Xo (zc g wr))
 exact⟨0,nZ _,Wm,rfl,zc.refl _⟩;obtain⟨b,d,d,rfl,g⟩:=hrel;by_cases f:b<n
 ·have i:=kC f
  obtain⟨q,l⟩:∃q,Xo (fs[b]?=Xa q):=⟨_,gE (Rx k.out f)⟩;obtain⟨d,rfl,k⟩:=r.out b q l.out;obtain⟨d,d,d,d,d,d,d,d,d,d,d,d,d⟩:=k wr (h.trans g);have d:=fun W=>zbn q W (p q (mG l));clear k;go_wp2_with(go_at_call 149;refine(d _).mono ?_;rintro e w'⟨rfl,d⟩)
  go_roundg (n-(b+1));exact⟨b+1,Wm,Wm,Gn,(g.trans (za _ _)).trans d⟩;omega
 have i:=kD f;have:b=n:=Wm;subst this;obtain⟨b,b⟩:=(m.aA g).k2;have b:=j.out;go_wp2_with(go_at_call 144;refine(b _).mono ?_;rintro e w'⟨rfl,rfl⟩)
 go_ret;exact⟨rfl,h.trans g⟩
theorem zem(h:za2 m=0):(∀k:Nat,k<m.fs.length->frE m k=0)/\∀k:Nat,k<m.sl.length->zku m k=0:=by have a:∀(f:Nat->Int)(n:Nat),zF ((Yl n).map f)=0->∀k,k<n->f k=0:=fun f n a k b=>zk.1 a _ (Yg.2 ⟨k,Ym.2 b,rfl⟩);grind[za2,zF,Yl,frE]
theorem zeD(V)(m:Ma)(w)(a3:zK w V m)(b2:zaQ m Xb m.ca=0)(a9:m.sp.length<=4)(b9:∀s∈m.sp,tbW s.tb=0)(ck:za2 m=0):
  Xp prog 103 #[Xi (mL V m).toArray] w fun e w'=>e=Xl (I6 0)/\zc w w':=by
 have au:Xo (∀W,zc w W->Xp prog 67 #[Xi (mL V m).toArray] W fun e w'=>∃B,e=Xl (Xi #[V.f.x,I6 m.aB,V.s.x,V.sb.x,V.sq.x,V.db.x,V.dq.x,V.fl.x,I6 m.cnt,V.ca.x,V.sp.x,.map (Xa B)])/\Qk plK w' B (QM m.ca)/\zc W w'):=dD<|fun W a6=>zbr V m W (a3.aA a6);have ar:Xo (∀W,zc w W->Xp prog 134 #[Xi (mL V m).toArray] W fun e w'=>∃B,e=Xl (.map (Xa B))/\JY enK w' B (qo m m.sp.length [] ze0)/\zc W w'):=dD<|fun W a6=>ziS V m W (a3.aA a6) a9 b9;have aq:=dD<|fun(B:Nat)(k:Nat)W(a6:zc w W)(b5:k<m.fs.length)(ay:Qk plK W B (QM m.ca))=>zgg V m B k (QM m.ca) W (a3.aA a6) b5 ay;obtain⟨⟨a4,j,S⟩,⟨U,n,X⟩,g,i,c,d,f,b,h⟩:=V;dsimp only[mL]at au ar aq⊢;obtain⟨cn,co,-⟩:=a3.ns;dsimp only at cn co;have c3:=dD a3.bB;have cb:=dD a3.sls;have c7:=dD cn.symm;have c8:=dD co.symm;have e4:j<=9223372036854775807:=Hm a3.fs.short;have e5:n<=9223372036854775807:=Hm a3.sl.short;have c2:Xo (∀k:Nat,k<m.fs.length->(zZ m k).r=qo m m.sp.length [] ze0 (1,(k:Int))/\(0<=(zZ m k).f->QM m.ca ((zZ m k).f,(zZ m k).x)=Xa (k:Int))):=dD<|fun k b5=>by
  have l:=(zem ck).1 k b5;rw[zoX b2 k]at l;by_cases ao:(zZ m k).r≠qo m m.sp.length [] ze0 (1,(k:Int))\/(0<=(zZ m k).f/\¬QM m.ca ((zZ m k).f,(zZ m k).x)=Xa (k:Int));·rw[kE ao]at l;cases l
  exact⟨Decidable.byContradiction fun e=>ao (.inl e),fun e=>Decidable.byContradiction fun dv=>ao (.inr ⟨e,dv⟩)⟩
 have ca:Xo (∀k:Nat,k<m.sl.length->m.sl.getD k 0=qo m m.sp.length [] ze0 (2,(k:Int))):=dD<|fun k b5=>by
  have l:=(zem ck).2 k b5;rw[zl6 m k]at l;by_cases ao:m.sl.getD k 0≠qo m m.sp.length [] ze0 (2,(k:Int));·rw[kE ao]at l;cases l
  exact Decidable.byContradiction ao
 clear a3 b2 a9 b9 cn co ck;obtain⟨di,a0⟩:=kB (w.alloc (Xk #[O a4 j S,I6 m.aB,O U n X,g.x,i.x,c.x,d.x,f.x,I6 m.cnt,b.x,h.x] 41));have I:=gA a0;have A:=xA a0;have cc:=dD a0;clear a0;go_enter func103,ntmps103;go_upto_region 1 with fail;rw[cc.out];have ba:=A.gw 0 rfl;have bb:=A.gw 1 rfl;have bc:=A.gw 2 rfl;have bd:=A.gw 3 rfl;have be:=A.gw 4 rfl;have bf:=A.gw 5 rfl;have bg:=A.gw 6 rfl;have bh:=A.gw 7 rfl;have bi:=A.gw 8 rfl;have bj:=A.gw 9 rfl;have aa:=A.gw 10 rfl;have P:Nonempty (zf di):=⟨⟨_,zc.refl _⟩⟩;refine qP 5 [(1,⟨fun r=>∃B,r=Xi #[O a4 j S,I6 m.aB,O U n X,g.x,i.x,c.x,d.x,f.x,I6 m.cnt,b.x,h.x,.map (Xa B)],fun r w'=>∃B,r=Xi #[O a4 j S,I6 m.aB,O U n X,g.x,i.x,c.x,d.x,f.x,I6 m.cnt,b.x,h.x,.map (Xa B)]/\Qk plK w' B (QM m.ca)⟩),(3,⟨fun r=>∃B,r=.map (Xa B),fun r w'=>∃B,r=.map (Xa B)/\JY enK w' B (qo m m.sp.length [] ze0)⟩),(4,⟨fun r=>∃R,r=Xj (Xa ⟨R,0,Xb⟩),fun r w'=>∃R,r=Xj (Xa ⟨R,0,Xb⟩)/\Box w' R [eS,I6 0,eS,eS,eS,eS,eS,eS,I6 0,eS,eS,.map Xb]/\w.heap.size<=R⟩)] z0 Kr rfl rfl Dc (Sc ⟨_,0,rfl⟩ ⟨_,0,rfl⟩ ⟨_,0,rfl⟩) ?hp ?_;case hp=>
  intro cs Q;simp only[mC,nM,or_false]at Q;rcases Q with rfl|rfl|rfl;·exact fun _ _ _ z t=>by obtain⟨B,l,a5⟩:=t;exact⟨B,l,a5.aA z⟩
  ·exact fun _ _ _ z t=>by obtain⟨B,l,a5⟩:=t;exact⟨B,l,a5.aA z⟩
  exact fun _ _ _ z t=>by obtain⟨R,l,a5,e0⟩:=t;exact⟨R,l,a5.aA z,e0⟩
 simp only[Xu,Xv];refine ze ?_;refine zG rfl rfl (fun w' z D=>?_) (fun cr T=>?_);·refine zJ.call [Xi #[O a4 j S,I6 m.aB,O U n X,g.x,i.x,c.x,d.x,f.x,I6 m.cnt,b.x,h.x]] rfl func67 rfl rfl rfl ?_;refine(au w' (I.trans z)).mono ?_;rintro e bu⟨B,rfl,ay,a2⟩;exact⟨_,rfl,a2,⟨B,rfl⟩,B,rfl,ay⟩
 obtain⟨ct,rfl⟩:=T;refine Uq ?_;refine ze ?_;refine zG rfl rfl (fun w' z D=>?_) (fun cr T=>?_);·refine zJ.call [Xi #[O a4 j S,I6 m.aB,O U n X,g.x,i.x,c.x,d.x,f.x,I6 m.cnt,b.x,h.x]] rfl func134 rfl rfl rfl ?_;refine(ar w' (I.trans z)).mono ?_;rintro e bu⟨B,rfl,ay,a2⟩;exact⟨_,rfl,a2,⟨B,rfl⟩,B,rfl,ay⟩
 obtain⟨cu,rfl⟩:=T;refine Uq ?_;refine zG rfl rfl (fun w' z D=>?_) (fun cr T=>?_);·have b8:Box (w'.alloc (Xk #[eS,I6 0,eS,eS,eS,eS,eS,eS,I6 0,eS,eS,.map Xb] 140)) w'.heap.size [eS,I6 0,eS,eS,eS,eS,eS,eS,I6 0,eS,eS,.map Xb]:=Box.aE _ _ _ rfl;have cl:=bS (I.trans z);clear ba bb bc bd be bf bg bh bi bj aa P;refine zJ.step (v:=Xj (Xa ⟨w'.heap.size,0,Xb⟩)) (w':=w'.alloc (Xk #[eS,I6 0,eS,eS,eS,eS,eS,eS,I6 0,eS,eS,.map Xb] 140)) (by simp only[execOp];go_simp) ⟨za _ _,⟨_,rfl⟩,_,rfl,b8,cl⟩
 obtain⟨de,rfl⟩:=T;refine Uq ?_;refine z2 fun ce H D=>?_;obtain⟨u,af,az⟩:∃B,(Value.agg #[O a4 j S,I6 m.aB,O U n X,g.x,i.x,c.x,d.x,f.x,I6 m.cnt,b.x,h.x,.map (Xa ct)])=Xi #[O a4 j S,I6 m.aB,O U n X,g.x,i.x,c.x,d.x,f.x,I6 m.cnt,b.x,h.x,.map (Xa B)]/\Qk plK ce B (QM m.ca):=D 1;obtain⟨Y,ag,b0⟩:∃B,(Value.map (Xa cu))=.map (Xa B)/\JY enK ce B (qo m m.sp.length [] ze0):=D 3;obtain⟨an,ah,ax,a8⟩:∃R,(Value.pointer (Xa ⟨de,0,Xb⟩))=Xj (Xa ⟨R,0,Xb⟩)/\Box ce R [eS,I6 0,eS,eS,eS,eS,eS,eS,I6 0,eS,eS,.map Xb]/\w.heap.size<=R:=D 4;have dw:u=ct:=by simp at af;exact af.symm
 have dx:Y=cu:=by simp at ag;exact ag.symm
 have dy:an=de:=by simp at ah;exact ah.symm
 subst dw dx dy;have cx:=dD az;have dg:=dD b0;have bw:=dD ax;have c6:=dD a8;have c4:=dD (I.trans H);have da:=dD (A.aA H);clear af ag ah az b0 ax a8 H D ba bb bc bd be bf bg bh bi bj aa P;have cd:Xo (w.heap.size≠an):=show _≠_ from fun e=>by
  obtain⟨ed,l⟩:=da.out;obtain⟨ee,a5⟩:=bw.out;rw[<-e,l]at a5;simp at a5
 go_wp2_with(refine zn rfl 140 (.tmp 3) (.tmp 10) rfl an rfl [O a4 j S,I6 m.aB,O U n X,g.x,i.x,c.x,d.x,f.x,I6 m.cnt,b.x,h.x,.map (Xa u)] rfl bw rfl Kr (fun r T=>by
    simp only[mC,nM,or_false]at T
    rcases T with rfl|rfl|rfl|rfl|rfl|rfl|rfl|rfl|rfl|rfl|rfl|rfl<;>rfl) ?_)
 intro aw b1 L _;have dk:=dD b1;have db:=dD<|da.grown L cd.out;have dh:Xo (Qk plK aw u (QM m.ca)):=cx.kept L (fun e=>by cases e;exact bw.bU cx rfl);have cy:Xo (JY enK aw Y (qo m m.sp.length [] ze0)):=dD<|by
  obtain⟨dz,dd,e8⟩:=dg.out;exact⟨dz,dd.kept L (fun e=>by cases e;exact bw.bU dd rfl),e8⟩
 have E:=dD<|zd c4 L c6.out;clear b1 L;have e9:=db.c 0 rfl;go_wp2;clear e9;go_loopg[17] j (fun cj cp wr=>∃a:Nat,a<=j/\j-a<=cj/\cp=I6 a/\Xo (zc aw wr))
 exact⟨0,nZ _,Wm,rfl,zc.refl _⟩;obtain⟨a,e7,e6,rfl,Z⟩:=hrel;by_cases ak:a<j
 ·have b7:=kC ak
  have y:Xo (a<m.fs.length):=dD<|Rx c7.out ak;obtain⟨q,cw⟩:∃q,Xo (m.fs[a]?=Xa q):=⟨_,gE y⟩;have ap:Xo (zZ m (a:Int)=q):=dD (by unfold zZ;rw[tN,gD,cw.out];rfl);obtain⟨cf,rfl,b6⟩:=c3.out a q cw.out;obtain⟨dc,dl,dm,dn,dp,dq,dr,ds,dt,du,cg,ch,ci⟩:=b6 wr (E.trans Z);clear b6;go_upto_region 5 with fail;refine nW fun cz a1=>?_;have x:=gT a1 Z;have cv:=dD (E.trans x);have bz:=xA a1;have C:=dD (dk.aA x);clear a1 dc dl dm dn dp dq dr ds dt du cg ch ci;obtain⟨ec,c9⟩:=kA wr.heap.size;rw[c9.out]at bz⊢;obtain⟨t,F⟩:=kA ((qo m m.sp.length [] ze0) (1,(a:Int)));have aj:∀bx:zf cz,(Instr.lookup 204 (.map (Xa Y)) (Xi #[I6 1,I6 (a:Int),Xh Xd]) Xd).run prog bx.world=.ok (I6 t) bx.world:=fun bx=>by
   have:=(cy.aA (x.trans bx.aA)).look (K:=enK) underlying204 (zsf _) (1,(a:Int));rw[F.out]at this;exact this
  have b4:=bz.gw 8 rfl;have a7:=bz.gw 11 rfl;have bk:=C.gw 0 rfl;have bl:=C.gw 1 rfl;have bm:=C.gw 2 rfl;have bn:=C.gw 3 rfl;have bo:=C.gw 4 rfl;have bp:=C.gw 5 rfl;have bq:=C.gw 6 rfl;have br:=C.gw 7 rfl;have bs:=C.gw 8 rfl;have bt:=C.gw 9 rfl;have ab:=C.gw 10 rfl;have ac:=C.gw 11 rfl;have P:Nonempty (zf cz):=⟨⟨_,zc.refl _⟩⟩;obtain⟨am,ai⟩:=c2.out a y.out;rw[ap.out,F.out]at am;have cm:(q.r !=t)=Xd:=by simp[am]
  by_cases G:0<=q.f
  ·have b3:decide (0<=q.f)=Xc:=Si G
   have df:Xo (decide (QM m.ca ((zZ m (a:Int)).f,(zZ m (a:Int)).x)=Xa (a:Int))=Xc):=dD<|decide_eq_true (ai (Rx ap.out G));have c1:Xo (∀W,zc aw W->Xp prog 135 #[Xi #[O (Xa cf) j S,I6 m.aB,O U n X,g.x,i.x,c.x,d.x,f.x,I6 m.cnt,b.x,h.x,.map (Xa u)],I6 (a:Int)] W fun e w'=>e=Xl (Xh Xc)/\zc W w'):=dD<|fun W a6=>by
    have l:=aq.out u a W (E.trans a6) y (dh.aA a6);rw[df.out]at l;exact l
   clear am G ai;refine qY [(14,⟨fun r=>r=Xh Xc,fun r w'=>True⟩)] z0 Kr (Sa ⟨_,rfl⟩) ?hp ?_;case hp=>
    intro cs Q;simp only[mC,nM,or_false]at Q;subst Q;exact fun _ _ _ _ t=>t
   iterate 14 refine ze ?_
   refine zG rfl rfl (fun w' z D=>?_) (fun cr T=>?_);·refine zJ.call [Xi #[O (Xa cf) j S,I6 m.aB,O U n X,g.x,i.x,c.x,d.x,f.x,I6 m.cnt,b.x,h.x,.map (Xa u)],I6 (a:Int)] rfl func135 rfl rfl rfl ?_;refine(c1 w' (x.trans z)).mono ?_;rintro e bu⟨rfl,H⟩;exact⟨_,rfl,H,rfl,trivial⟩
   subst T;refine Uq ?_;iterate 3 refine ze ?_
   refine z2 fun dj M D=>?_;have ae:=dD (x.trans M);clear M D aj b4 a7 bk bl bm bn bo bp bq br bs bt ab ac P;go_wp2;go_roundg (j-(a+1));exact⟨a+1,Wm,Wm,Gn,ae⟩;omega
  have b3:decide (0<=q.f)=Xd:=Si G;clear am G ai;refine qY [] z0 Kr Sm Sm ?_;iterate 12 refine ze ?_
  iterate 4 (refine Za Kr ?_;simp only[Yf,sB,sS,sZ])
  iterate 2 refine ze ?_
  refine z2 fun dj M D=>?_;have ae:=dD (x.trans M);clear M D aj b4 a7 bk bl bm bn bo bp bq br bs bt ab ac P;go_wp2;go_roundg (j-(a+1));exact⟨a+1,Wm,Wm,Gn,ae⟩;omega
 have b7:=kD ak;have:a=j:=Wm;subst this;have ea:=(db.aA Z).c 2 rfl;go_wp2;clear ea;have c0:=dD Z;go_loopg[44] n (fun cj cq wr=>∃p:Nat,p<=n/\n-p<=cj/\cq=I6 p/\Xo (zc aw wr))
 exact⟨0,nZ _,Wm,rfl,c0⟩;obtain⟨p,eb,a2,rfl,Z⟩:=hrel;by_cases N:p<n
 ·have al:=kC N
  have y:Xo (p<m.sl.length):=dD<|Rx c8.out N;obtain⟨bv,av⟩:∃bv,Xo (m.sl[p]?=Xa bv):=⟨_,gE y⟩;obtain⟨cf,rfl,b6⟩:=cb.out p bv av.out;have dc:=b6 wr (E.trans Z);clear b6;obtain⟨t,F⟩:=kA ((qo m m.sp.length [] ze0) (2,(p:Int)));have aj:(Instr.lookup 204 (.map (Xa Y)) (Xi #[I6 2,I6 (p:Int),Xh Xd]) Xd).run prog wr=.ok (I6 t) wr:=by
   have:=(cy.aA Z).look (K:=enK) underlying204 (zsf _) (2,(p:Int));rw[F.out]at this;exact this
  have am:bv=t:=by
   have:=ca.out p y.out;rw[gD,av.out,F.out]at this;exact this
  have cm:(bv !=t)=Xd:=by simp[am]
  clear am;go_wp2;go_roundg (n-(p+1));exact⟨p+1,Wm,Wm,Gn,Z⟩;omega
 have al:=kD N;have:p=n:=Wm;subst this;have c5:=dD (E.trans Z);go_wp2;go_ret;exact⟨rfl,c5⟩
theorem zfE(V m w)(a3:zK w V m)(bu:zke m)(ch:zF (J3 m)=0):
  Xp prog 99 #[Xi (mL V m).toArray] w fun e w'=>e=Xl (I6 0)/\zc w w':=by
 obtain⟨c6,y,f,T,⟨D,d,E⟩,⟨F,i,G⟩,R,Q,S⟩:=V;dsimp only[mL];have df:=zca;obtain⟨-,s,bx,-,am,bz,-⟩:=a3.ns;dsimp only at s bx am bz;have aq:=dD<|fun ai(d9:zc w ai)=>zed _ m.fl m.cnt ai (a3.aA d9).fl bu.st;have b9:=dD a3.pgs;have ba:=dD a3.puts;obtain⟨ab,ah⟩:=zih bu.dq;have bd:=dD ah;have B:=dD am.symm;have az:=dD bz.symm;have bw:i<=9223372036854775807:=Hm a3.dq.2.2;rw[B.out]at ab;have h:zm5 m=if y.n≠f.n\/m.cnt≠(d:Int)then 7 else 0:=by unfold zm5;rw[s,bx,am]
 have v:=zk.1 ch;have n:zav m=0:=v _ (by simp[J3]);have r:zae m=0:=v _ (by simp[J3]);rw[v (zm5 m) (by simp[J3])]at h;have ao:Xo (∀c,c<m.db.length->zcJ m c=Xd):=dD<|fun c bv=>by
  cases aa:zcJ m c with
  |false=>rfl
  |true=>rw[zfv bv aa]at n;cases n
 have be:Xo (∀(j:Nat)x,m.dq[j]?=Xa x->z3 m.fl x.1=Xc):=dD<|fun j x de=>by
  cases aa:z3 m.fl x.1 with
  |true=>rfl
  |false=>rw[ze4 de aa]at r;cases r
 have da:¬(y.n≠f.n\/m.cnt≠(d:Int)):=fun aa=>by rw[kE aa]at h;cases h
 have al:f.n=y.n:=Wm;have bk:m.cnt=(d:Int):=Wm;clear a3 bu ah s bx am bz h v n r ch da;obtain⟨cb,k⟩:=kB (w.alloc (Xk #[c6.x,I6 m.aB,y.x,f.x,T.x,O D d E,O F i G,R.x,I6 m.cnt,Q.x,S.x] 41));have a5:=gA k;have C:=xA k;have cn:Xo (w.heap.size<cb.heap.size):=dD<|by rw[<-k];simp
 have bf:=dD k;clear k;have cw:((f.n:Int)!=(y.n:Int))=Xd:=by simp[al]
 have cy:((d:Int)!=m.cnt)=Xd:=by simp[bk]
 have cx:(f.n !=y.n)=Xd:=by simp[al]
 have ac:=aq.out cb a5.out;have cl:=dD al;have cm:=dD bk;clear al bk;go_enter func99,ntmps99;go_upto_region 1 with fail;rw[bf.out];have dn:=C.c 2 rfl;have dp:=C.c 3 rfl;have c7:=C.c 5 rfl;have c8:=C.c 6 rfl;have dq:=C.c 7 rfl;have dr:=C.c 8 rfl;go_upto_region 3 with fail;go_wp2_with fail;refine ac.mono ?_;clear ac dn dp c7 c8 dq dr;rintro e aj⟨rfl,H⟩;have a6:=dD (a5.trans H);have cc:=dD (C.aA H);clear H;obtain⟨a4,u⟩:=kA (qR 80 (qS m.fl m.fl.length []));have aw:Xo (a4.length=80):=show _=_ by rw[<-u.out];exact zbF _ _
 have ax:Xo (∀dm∈a4,dm.oneCell'=Xc):=dD<|by rw[<-u.out];exact zhl _ _
 have a8:Xo (∀c:Nat,c<80->a4[c]?=Xa (Xh (z3 m.fl (c:Int)))):=dD<|fun c bv=>by rw[<-u.out];exact zo2 bv
 rw[u.out];obtain⟨cq,l⟩:=kB (aj.alloc (Xk zgB 198));have ar:=gT l a6;have ct:=yA l cc;have cu:Xo (Box cq aj.heap.size (Xr 80 (Xh Xd))):=dD<|by rw[<-l];exact Box.aE _ (Xr 80 (Xh Xd)) _ rfl
 have bg:=dD l;clear l;have av:=dD<|bS a6.out;have bh:=dD cc.lt;go_wp2_with(first|(rw[bg.out];refine zn rfl 198 (.tmp 3) (.tmp 28) rfl aj.heap.size rfl a4 rfl cu (by rw[aw.out];simp) (Si zsg) ax.out ?_))
 intro cr ae K _;have au:=dD<|zd ar K av.out;have cd:Xo (Box cr w.heap.size [c6.x,I6 m.aB,y.x,f.x,T.x,O D d E,O F i G,R.x,I6 m.cnt,Q.x,S.x]):=ct.grown K (Hm bh.out);have cg:=dD ae;obtain⟨an,b8⟩:=kA aj.heap.size;rw[b8.out]at cg⊢;clear ae K df;have c7:=cd.c 5 rfl;go_wp2;clear c7;obtain⟨P,ay⟩:=kA d;rw[ay.out]at ab⊢;go_loopg[33] P (fun bt c4 wr=>∃b:Nat,b<=P/\P-b<=bt/\c4=I6 b/\Xo (zc w wr)/\Xo (Box wr w.heap.size [c6.x,I6 m.aB,y.x,f.x,T.x,O D d E,O F i G,R.x,I6 m.cnt,Q.x,S.x])/\Xo (Box wr an a4))
 exact⟨0,nZ _,Wm,rfl,au,cd,cg⟩;obtain⟨b,dd,dc,rfl,z,cf,ak⟩:=hrel;by_cases L:b<P
 ·have ag:=kC L
  have p:b<80:=Wm;have a7:Xo (b<m.db.length):=dD (by rw[B.out,ay.out];exact L);obtain⟨c0,c9⟩:∃c0,Xo (m.db[b]?=Xa c0):=⟨_,gE a7⟩;obtain⟨cv,W,X,Y,Z,I,a0,a1,a2,rfl,rfl,af⟩:=b9.out b c0 c9.out;have A:Xo (zcJ m b=(!z3 m.fl (b:Int)&&!([W,X,Y,Z,I,a0,a1,a2]==zw))):=dD (by unfold zcJ;rw[gD,c9.out];rfl);obtain⟨bl,bm,bn,bo,bp,bq,br,bs⟩:=af wr z.out;have N:=fun ai=>Qd 9998 W X Y Z I a0 a1 a2 0 0 0 0 0 0 0 0 ai;simp only[zgz]at N;obtain⟨cp,ca⟩:=kA (z3 m.fl (b:Int));have g:=a8.out b p;rw[ca.out]at g;rw[ca.out]at A;obtain⟨co,bb⟩:=kA ([W,X,Y,Z,I,a0,a1,a2]==zw);rw[bb.out]at N A;clear af;go_upto_region 7 with fail;refine nW fun cs a=>?_;have t:=gT a z;have ce:=yA a cf;have U:=yA a ak;have bj:=xA a;clear a bl bm bn bo bp bq br bs;have ds:=U.c b g;obtain⟨cj,dg,dh,an,di,dj,dk,dl⟩:=bj.c8;clear g;cases cp with
  |true=>
   clear cj dg dh an di dj dk dl N;go_wp2;go_roundg (P-(b+1));exact⟨b+1,Wm,Wm,Gn,t,ce,U⟩;omega
  |false=>
   cases co with
   |true=>
    go_wp2;go_roundg (P-(b+1));exact⟨b+1,Wm,Wm,Gn,t,ce,U⟩;omega
   |false=>
    have:=ao.out b a7.out;rw[A.out]at this;cases this
 have ag:=kD L;have:b=P:=Wm;subst this;have c8:=cf.c 6 rfl;go_wp2;clear c8;obtain⟨s,a9⟩:=kA i;rw[a9.out]at bw⊢;have ap:=dD z;have bi:=dD ak;go_loopg[52] s (fun bt c5 wr=>∃j:Nat,j<=s/\s-j<=bt/\c5=I6 j/\Xo (zc w wr)/\Xo (Box wr an a4))
 exact⟨0,nZ _,Wm,rfl,ap,bi⟩;obtain⟨j,dt,db,rfl,z,ak⟩:=hrel;by_cases q:j<s
 ·have M:=kC q
  obtain⟨x,bc⟩:∃x,Xo (m.dq[j]?=Xa x):=⟨_,gE (by rw[az.out,a9.out];exact q)⟩;obtain⟨cv,ci,W,X,Y,Z,I,a0,a1,a2,rfl,rfl,af⟩:=ba.out j x bc.out;obtain⟨ck,c3⟩:=bd.out j _ bc.out;simp only at ck c3;obtain⟨c,rfl⟩:∃c:Nat,ci=(c:Int):=⟨ci.toNat,Wm⟩;have p:c<80:=by rw[B.out,ay.out]at c3;omega
  obtain⟨bl,bm,bn,bo,bp,bq,br,bs,cz⟩:=af wr z.out;have g:=a8.out c p;rw[show z3 m.fl (c:Int)=Xc from be.out j _ bc.out]at g;clear af ck c3;go_upto_region 13 with fail;refine nW fun cs a=>?_;have t:=gT a z;have U:=yA a ak;have bj:=xA a;clear a bl bm bn bo bp bq br bs cz;have ds:=U.c c g;have cj:=bj.c 0 rfl;clear g;go_wp2;go_roundg (s-(j+1));exact⟨j+1,Wm,Wm,Gn,t,U⟩;omega
 have M:=kD q;have:j=s:=Wm;subst this;go_wp2;go_ret;exact⟨rfl,z⟩
theorem zrm(V m w)(b:zK w V m)(d:maW m=0)(k:Nat)(f:Nat)(a:chk[k]?=Xa f):
  Xp prog f #[Xi (mL V m).toArray] w fun e w'=>e=Xl (I6 0)/\zc w w':=by
 have c:∀e∈zqx m,e=0:=zk.1 (by rw[<-d,zp5];rfl);have g:zF (Jt m)=0:=c _ (by simp[zqx]);have n:zF (J3 m)=0:=c _ (by simp[zqx]);have d:QY m=0:=c _ (by simp[zqx]);have j:zeY m=0:=c _ (by simp[zqx]);have p:zgM m=0:=c _ (by simp[zqx]);have q:za2 m=0:=c _ (by simp[zqx]);have c:=zq1.1 g
 match k,a with
 |0,a=>
  cases a;have k:=zfB V m w b fun W i=>by
   obtain⟨l,-⟩:=b.ns;have h:=(b.aA i).fs;(try simp only[Sli.x]at h⊢);rw[l]at h⊢;have i:Zv m.fs m.aB=0:=zk.1 g _ (by simp[Jt]);rw[i];exact Ql _ _ m.fs m.aB W h i
  rw[g]at k;exact k
 |1,a=>cases a;exact zfE V m w b c n
 |2,a=>cases a;rw[<-d];exact zdh V m w b
 |3,a=>cases a;rw[<-j];exact zeE V m w b c
 |4,a=>cases a;exact zeB V m w b c (zmi d) p
 |5,a=>cases a;exact zeD V m w b j (zgL d) (fun s b=>(zmi d s b).2) q
 |k+6,a=>simp[chk]at a
theorem zgD(V m w)(b:zK w V m)(a:maW m=0):
  Xp prog 64 #[Xi (mL V m).toArray] w fun e w'=>e=Xl (I6 0)/\zc w w':=by
 have g:Xo (∀W,zc w W->∀(k f:Nat),chk[k]?=Xa f->Xp prog f #[Xi (mL V m).toArray] W fun e w'=>e=Xl (I6 0)/\zc W w'):=dD<|fun W c k f d=>zrm V m W (b.aA c) a k f d;clear b a;obtain⟨d,a⟩:=kB ((w.alloc (Xk (mL V m).toArray 41)).alloc (Xk #[.func (.func 98) #[] #[],.func (.func 99) #[] #[],.func (.func 100) #[] #[],.func (.func 101) #[] #[],.func (.func 102) #[] #[],.func (.func 103) #[] #[]] 51));have b:=gD2 a;have j:=x2a a;have k:Xo (Box d (w.heap.size+1) (chk.map fnV)):=dD<|by rw[<-a];exact Box.aE _ (chk.map fnV) _ Sm
 have c:=dD a;clear a;go_enter func64,ntmps64;go_upto_region 2 with fail;rw[c.out];go_wp2;go_loopg[10] 6 (fun h c wr=>∃a:Nat,a<=6/\6-a<=h/\c=I6 a/\Xo (zc d wr))
 exact⟨0,nZ _,Wm,rfl,zc.refl _⟩;obtain⟨a,c,c,rfl,d⟩:=hrel;have i:=dD (b.trans d);by_cases b:a<6
 ·have c:(a:Int)<6:=Wm
  obtain⟨f,h⟩:∃f,Xo (chk[a]?=Xa f):=⟨_,gE (by simp[chk];exact b)⟩;have v:wr.cell? ⟨w.heap.size+1,a,Xb⟩=Xa (.func (.func f) #[] #[]):=(k.aA d).c a (by rw[Yc,h.out];rfl);have k:=zly a f h.out;have b:=g.out wr i a f h.out;have g:=dD (j.aA d);obtain⟨h,j,l,n,p,q,r,s,t,u,f⟩:=g.aY;go_wp2_with fail;refine b.mono ?_;clear b h j l n p q r s t u f v;rintro b b⟨rfl,b⟩;have f:=dD (d.trans b);clear b k;go_wp2;go_roundg (6-(a+1));exact⟨a+1,Wm,Wm,Gn,f⟩;omega
 have c:¬(a:Int)<6:=Wm;go_wp2;go_ret;exact⟨rfl,i⟩
section
variable{α:Type}{E:Elt α}
theorem zkt(m:List α):∀(l:List α)(a:Nat),a+m.length<=l.length->splice (l.flatMap E.enc) (a*E.k) (m.flatMap E.enc)=(l.take a++(m++l.drop (a+m.length))).flatMap E.enc:=fun l a h=>by
 have b:∀(l:List α)(j:Nat),j<=l.length->(l.flatMap E.enc).take (j*E.k)=(l.take j).flatMap E.enc/\(l.flatMap E.enc).drop (j*E.k)=(l.drop j).flatMap E.enc:=fun l j c=>by
  have d:l.flatMap E.enc=(l.take j).flatMap E.enc++(l.drop j).flatMap E.enc:=by rw[<-Xy,List.take_append_drop]
  have e:((l.take j).flatMap E.enc).length=j*E.k:=by rw[qe E,List.length_take,Nat.min_eq_left c]
  constructor;·grind
  grind
 unfold splice;rw[qe E m,<-Oc,(b l a Wm).1,(b l (a+m.length) h).2,Xy,Xy]
theorem zfN(z:TypeId)(base:Nat)(v:Xq)(l:List α)(d:zb E base w v l)(g:Nat)(t:v.ownBlock=Xa g)(a b h:Nat)(ad:Addr)(e k:Nat)
  (m:List α)(x:m.length=Nat.min e b)(j:jX w ad (m.flatMap E.enc))(c:a+m.length<=l.length):
  ∃w',(Builtin.copy_ #[E.st,E.st] z #[O (Xa ⟨g,a*E.k,Xb⟩) b h,O (Xa ad) e k]).run prog w=.ok (goInt m.length) w'/\zb E base w' v (l.take a++(m++l.drop (a+m.length)))/\w.grownBy w' (Xa g)/\w'.heap.size=w.heap.size:=by
 obtain⟨A,u,_,n,_⟩:=info_parts E.aD;have i:(m.flatMap E.enc).length=m.length*E.k:=qe E m;have f:a*E.k+(m.flatMap E.enc).length<=l.length*E.k:=by
  rw[i,<-Oc];exact Yj _ c
 obtain⟨w',y,p,r,s⟩:=jP (P:=prog) d.1 t (a*E.k) (m.flatMap E.enc) f (qt E.one m);have q:=run_loadCells_list (P:=prog) w ad (m.flatMap E.enc) j;rw[i]at q;rw[zkt m l a c]at p;have hlen:(l.take a++(m++l.drop (a+m.length))).length=l.length:=by simp;omega
 refine⟨w',?_,⟨by rw[hlen];exact p,by rw[hlen];exact d.2⟩,r,s⟩;simp[Builtin.copy_,run_underlying E.bJ,Builtin.lenOf,Builtin.firstCells,sizeOf,typeInfo,u,n,<-x,q,y]
theorem Z3(q:o.guard=Xb)(d s:Operand)(C:o.op=.call {callee:=.builtin .copy,args:=#[d,s],argTypes:=#[E.st,E.st]})
  (base:Nat)(v:Xq)(l:List α)(j:zb E base w v l)(g:Nat)(A:v.ownBlock=Xa g)(c b f:Nat)(r:Addr)(hd:a.eval d=O (Xa r) b f)(p:r=⟨g,c*E.k,Xb⟩)(ad:Addr)(e h:Nat)(D:a.eval s=O (Xa ad) e h)
  (m:List α)(B:m.length=Nat.min e b)(n:jX w ad (m.flatMap E.enc))(i:c+m.length<=l.length)
  (t:∀w',zb E base w' v (l.take c++(m++l.drop (c+m.length)))->w.grownBy w' (Xa g)->w'.heap.size=w.heap.size->wpList prog ops Q K (a.put o.dst (goInt m.length)) w'):wpList prog ops Q (o::K) a w:=by subst p;refine wpList_plain q fun rest z=>?_;obtain⟨w',k,u,x,y⟩:=zfN o.type base v l j g A c b f ad e h m B n i;unfold Oper.wp;simp[execOp,C,resolve,invoke,builtin,hd,D,k,Result.andThen];exact z _ _ (t w' u x y)
end
theorem zhv(v)(fs:List Int)(b:Int)(w)(x:zs blE w v fs):
  Xp prog 213 #[v,I6 b] w fun e w'=>(∃z:Int,e=Xl (I6 z)/\decide (0<=z)=fs.contains b)/\zc w w':=by
 have k:=x.short;obtain⟨K,M,rfl,d⟩:=x.aW;have C:=dD d;clear d x;obtain⟨n,s⟩:=kA fs.length;rw[s.out]at k⊢;obtain⟨i,c⟩:=kA (fs.contains b);rw[c.out];go_enter func213,ntmps213;go_wp2;go_loopg[5,8] n (fun D _ H wr=>∃a:Nat,a<=n/\n-a<=D/\H=I6 a/\Xo (zc w wr)/\Xo (∀(j:Nat)q,j<a->fs[j]?=Xa q->¬b=q))
 exact⟨0,nZ _,Wm,rfl,zc.refl w,fun j q l=>absurd l (nL _)⟩;obtain⟨a,F,P,rfl,p,A⟩:=hrel;by_cases f:a<n
 ·have m:=kC f
  obtain⟨q,t⟩:∃q,Xo (fs[a]?=Xa q):=⟨_,gE (Rx s.out f)⟩;obtain⟨L,rfl,y⟩:=C.out a q t.out;have N:=y wr p.out;clear y;by_cases h:b=q
  ·have u:(b==q)=Xc:=Si h
   have r:Xo (decide (0<=(a:Int))=i):=dD<|by
    rw[<-c.out,h,Yu.2 (mG t.out)];simp
   clear h;go_wp2;go_ret;exact⟨⟨_,rfl,r⟩,p⟩
  have u:(b==q)=Xd:=Si h;have B:Xo (∀(j:Nat)q,j<a+1->fs[j]?=Xa q->¬b=q):=dD<|fun j G l g=>by
   by_cases e:j=a;·subst e;rw[t.out]at g;cases g;exact h
   exact A j G Wm g
  clear h;go_wp2;go_roundg (n-(a+1));exact⟨a+1,Wm,Wm,Gn,p,B⟩;omega
 have m:=kD f;have:a=n:=Wm;subst this;have r:Xo (decide (0<=(-1:Int))=i):=dD<|by
  have:fs.contains b=Xd:=by
   cases E:fs.contains b with
   |false=>rfl
   |true=>
    obtain⟨j,l⟩:=Yd (Yu.1 E);exact absurd rfl (A j b (by rw[<-s.out];exact(gS.1 l).1) l)
  rw[<-c.out,this];rfl
 go_wp2;go_ret;exact⟨⟨_,rfl,r⟩,p⟩
theorem zen(v)(fs:List Int)(b:Int)(w)(c:zs blE w v fs):
  Xp prog 211 #[v,I6 b] w fun e w'=>e=Xl (Xh (fs.contains b))/\zc w w':=by have a:=zhv v fs b w c;obtain⟨d,d,rfl,_⟩:=c.aW;clear c;generalize fs.contains b=c at a⊢;generalize fs.length=n at a⊢;go_enter func211,ntmps211;go_wp2_with fail;refine a.mono ?_;rintro e c⟨⟨z,rfl,d⟩,c⟩;have f:=dD c;clear c a;have a:=dD d;clear d;go_wp2;go_ret;exact⟨by rw[<-a.out];rfl,f⟩
theorem zqb(f:Fl)(g)(h:Nat)(b:Int)(p:Nat)(w)(k:Box w p [I6 b])(q:zs blE w (O g f.bl.length h) f.bl):
  Xp prog 210 #[Xi #[I6 f.size,O g f.bl.length h],Xj (Xa ⟨p,0,Xb⟩)] w fun e w'=>e=Xl (Xh (f.bl.contains b))/\zc w w':=by have j:∀W,zc w W->Xp prog 211 #[O g f.bl.length h,I6 b] W fun e w'=>e=Xl (Xh (f.bl.contains b))/\zc W w':=fun W c=>zen _ f.bl b W (q.aA c);have l:=k.lt;have c:p≠w.heap.size:=Wm;have c:w.heap.size≠p:=Wm;obtain⟨c,c⟩:=kB (w.alloc (Xk #[I6 f.size,O g f.bl.length h] 84));have d:=gA c;have m:=(k.aA d).c 0 rfl;have n:(w.alloc (Xk #[I6 f.size,O g f.bl.length h] 84)).cell? ⟨p,0,Xb⟩=Xa (I6 b):=Rx c m;have i:=dD c;clear c q k;generalize f.bl.contains b=c at j⊢;generalize f.bl.length=k at*;generalize f.size=q at*;have c:=World.cell?_of_block (w:=w) (w':=w.alloc (Xk #[I6 q,O g k h] 84)) (a:=⟨p,0,Xb⟩) (Below.heap_alloc _ _ _ l);rw[n]at c;have g:=c.symm;clear m n c;go_enter func210,ntmps210;go_wp2_with fail;rw[i.out];refine(j _ d).mono ?_;rintro e c⟨rfl,c⟩;have g:=dD (d.trans c);clear c j;go_wp2;go_ret;exact⟨rfl,g⟩
theorem zgd(v fs)(b:Int)(p:Nat)(w)(d:Box w p [I6 b])(f:qa w v fs):
  Xp prog 214 #[v,.func (.func 210) #[] #[Xj (Xa ⟨p,0,Xb⟩)]] w fun e w'=>(∃z:Int,e=Xl (I6 z)/\decide (0<=z)=z3 fs b)/\zc w w':=by
 obtain⟨a,c,rfl,c,a⟩:=f.rows;have s:=dD a;have l:=dD d;have g:=enters_of func210 Kr rfl;clear a f d;obtain⟨n,u⟩:=kA fs.length;rw[u.out]at c⊢;obtain⟨k,d⟩:=kA (z3 fs b);rw[d.out];go_enter func214,ntmps214;go_wp2;go_loopg[5,8] n (fun a _ f wr=>∃c:Nat,c<=n/\n-c<=a/\f=I6 c/\Xo (zc w wr)/\Xo (∀(j:Nat)(q:Fl),j<c->fs[j]?=Xa q->q.bl.contains b=Xd))
 exact⟨0,nZ _,Wm,rfl,zc.refl w,fun j q m=>absurd m (nL _)⟩;obtain⟨c,a,a,rfl,h,A⟩:=hrel;by_cases f:c<n
 ·have r:=kC f
  obtain⟨q,x⟩:∃q,Xo (fs[c]?=Xa q):=⟨_,gE (Rx u.out f)⟩;obtain⟨a,rfl,t,y,g,i⟩:=s.out c q x.out;obtain⟨a,a⟩:=i wr h.out;have a:=zqb q t y b p wr (l.aA h) (g.aA h);clear i g;cases i:q.bl.contains b with
  |true=>
   rw[i]at a;have t:Xo (decide (0<=(c:Int))=k):=dD<|by
    rw[<-d.out];unfold z3;rw[zqG x.out i];simp
   clear i;go_wp2_with fail;refine a.mono ?_;rintro e z⟨rfl,l⟩;have s:=dD (h.trans l);clear l a;go_wp2;go_ret;exact⟨⟨_,rfl,t⟩,s⟩
  |false=>
   rw[i]at a;have y:Xo (∀(j:Nat)(q:Fl),j<c+1->fs[j]?=Xa q->q.bl.contains b=Xd):=dD<|fun j B m g=>by
    by_cases e:j=c;·subst e;rw[x.out]at g;cases g;exact i
    exact A j B Wm g
   clear i;go_wp2_with fail;refine a.mono ?_;rintro e z⟨rfl,l⟩;have s:=dD (h.trans l);clear l a;go_wp2;go_roundg (n-(c+1));exact⟨c+1,Wm,Wm,Gn,s,y⟩;omega
 have r:=kD f;have:c=n:=Wm;subst this;have t:Xo (decide (0<=(-1:Int))=k):=dD<|by
  rw[<-d.out];unfold z3;rw[zqF (fun j q m=>A.out j q (by rw[<-u.out];exact(gS.1 m).1) m)];rfl
 go_wp2;go_ret;exact⟨⟨_,rfl,t⟩,h⟩
theorem zcW(v fs)(b:Int)(p:Nat)(w)(d:Box w p [I6 b])(c:qa w v fs):
  Xp prog 212 #[v,.func (.func 210) #[] #[Xj (Xa ⟨p,0,Xb⟩)]] w fun e w'=>e=Xl (Xh (z3 fs b))/\zc w w':=by have a:=zgd v fs b p w d c;obtain⟨f,f,rfl,_⟩:=c.rows;clear c d;generalize z3 fs b=c at a⊢;generalize fs.length=n at a⊢;go_enter func212,ntmps212;go_wp2_with fail;refine a.mono ?_;rintro e c⟨⟨z,rfl,d⟩,c⟩;have f:=dD c;clear c a;have a:=dD d;clear d;go_wp2;go_ret;exact⟨by rw[<-a.out];rfl,f⟩
def Ze(fs:List Fl)(k:Nat):List Int:=((Yl k).filter fun(b:Nat)=>!z3 fs (b:Int)).map fun(b:Nat)=>(b:Int)
theorem ziO(fs)(k:Nat):Ze fs (k+1)=if z3 fs (k:Int)=Xc then Ze fs k else Ze fs k++[(k:Int)]:=by
 unfold Ze;rw[List.range_succ,List.filter_append];cases h:z3 fs (k:Int)with
 |true=>simp[h]
 |false=>simp[h]
theorem zkV(fs)(n:Nat):Ze fs n=(Qt fs (n:Int)).map fun(b:Nat)=>(b:Int):=by unfold Ze Qt;rw[tN]
theorem zkU(fs)(k:Nat):(Ze fs k).length<=k:=by unfold Ze;rw[Yk];exact nT (Yt _ _) Sm
theorem zjL(v fs)(m:Nat)(a:m<=80)(w:Xn)(c:qa w v fs):
  Xp prog 209 #[Xi #[v,I6 (m:Int)]] w fun e w'=>∃b,e=Xl b/\zb blE (w.heap.size+1) w' b (Ze fs m)/\zc w w':=by
 have f:=dD c;obtain⟨d,g,rfl,a,_⟩:=c.rows;clear c;obtain⟨n,c⟩:=kA fs.length;rw[c.out]at a f⊢;have a:∀(c:Fn)(first a:Array Xq)(w:Xn),(Instr.makeFunc c first a).run prog w=.ok (.func c first a) w:=fun _ _ _ _=>rfl;obtain⟨B,a⟩:=kB (w.alloc (Xk #[O d n g,I6 (m:Int)] 37));have j:=gA a;have s:=xA a;have k:=sA a;have c:=dD a;clear a;go_enter func209,ntmps209;go_wp2;rw[c.out];go_loopg[3,4,5,8] m (fun a d _ _ g wr=>∃(c:Nat)(p:Option Addr)(q:Nat),c<=m/\m-c<=a/\g=I6 c/\d=.slice p (Ze fs c).length q/\Xo (zc B wr)/\Xo (zb blE (w.heap.size+1) wr (.slice p (Ze fs c).length q) (Ze fs c)))
 exact⟨0,Xb,0,nZ _,Wm,rfl,rfl,zc.refl _,zb.nil _ _ _⟩;obtain⟨c,p,q,a,a,rfl,rfl,h,A⟩:=hrel;by_cases l:c<m
 ·have n:=kC l
  obtain⟨g,d⟩:=kB (wr.alloc (Xk #[I6 (c:Int)] 3));have i:=gA d;have r:=xA d;have a:=zcW _ fs (c:Int) wr.heap.size g r (f.aA ((j.trans h).trans i));have z:=dD (A.aA i);have g:=dD d;have f:=ziO fs c;have F:=dD<|zkU fs c;clear d;go_upto_region 5 with fail;rw[g.out];have C:=(s.aA (h.trans i)).c 0 rfl;have D:=(s.aA (h.trans i)).c 1 rfl;have g:=dD r.lt;obtain⟨d,d⟩:=kB wr.heap.size;rw[d]at a r g⊢;clear d;cases x:z3 fs (c:Int)with
  |true=>
   rw[x]at a f;rw[kE rfl]at f;have d:=dD f;clear f x;go_wp2_with fail;refine a.mono ?_;rintro e u⟨rfl,g⟩;have s:=dD ((h.trans i).trans g);have t:Xo (zb blE (w.heap.size+1) u (.slice p (Ze fs (c+1)).length q) (Ze fs (c+1))):=show zb _ _ _ _ _ by rw[d.out];exact z.aA g
   have y:Xo ((Ze fs (c+1)).length=(Ze fs c).length):=dD (by rw[d.out]);rw[<-y.out];clear g a C D;go_wp2;go_roundg (m-(c+1));exact⟨c+1,p,q,Wm,Wm,Gn,rfl,s,t⟩;omega
  |false=>
   rw[x]at a f;rw[kF Dc]at f;have d:=dD f;clear f x;go_wp2_with fail;refine a.mono ?_;rintro e u⟨rfl,g⟩;have s:=dD ((h.trans i).trans g);have t:=dD (z.aA g);have f:=(r.aA g).c 0 rfl;clear g a C D;have a:Xo (w.heap.size+1<=u.heap.size):=show _<=_ by
    have:=bS s.out;rw[k.out]at this;exact this
   go_wp2_with(at_builtin;refine zq (E:=blE) rfl (.tmp 17) (.tmp 19) rfl (w.heap.size+1) _ (Ze fs c) rfl (t.aA (za _ _)) _ [(c:Int)] rfl (qK blE u (c:Int) _ _ rfl (by show 8<=_;omega)) ?qb ?qc ?_)
   case qb=>
    have:=F.out;show(_+1)*8<=_;omega
   case qc=>simp;have:=a.out;omega
   intro a p a f;obtain⟨g,i,rfl⟩:=a.form;have r:Xo (zb blE (w.heap.size+1) p (.slice g (Ze fs (c+1)).length i) (Ze fs (c+1))):=dD<|Rx d.out a
   have q:Xo (zc B p):=dD<|zW (s.trans (za _ _)) f (fun p u=>by
    have s:=(t.lt p u).1;rw[k.out];exact s)
   rw[<-d.out];clear a f;go_wp2;go_roundg (m-(c+1));exact⟨c+1,g,i,Wm,Wm,Gn,rfl,q,r⟩;omega
 have n:=kD l;have:c=m:=Wm;subst this;have a:=dD (j.trans h);go_wp2;go_ret;exact⟨_,rfl,A,a⟩
def zn0(fs:List Fl)(cnt k:Int):Int:=if stW fs cnt=0 then(if inL fs.length k=Xc then 0 else 5)else stW fs cnt
theorem zgC(v fs)(a k:Int)(w)(m:qa w v fs):
  Xp prog 208 #[Xi #[v,I6 a],I6 k] w fun e w'=>e=Xl (I6 (zn0 fs a k))/\zc w w':=by
 have i:∀W,zc w W->Xp prog 128 #[Xi #[v,I6 a]] W fun e w'=>e=Xl (I6 (stW fs a))/\zc W w':=fun W t=>zdg v fs a W (m.aA t);obtain⟨r,s,rfl,q,_⟩:=m.rows;clear m;have d:Xo (zn0 fs a k=if stW fs a=0 then(if inL fs.length k=Xc then 0 else 5)else stW fs a):=rfl;have c:∀W,Xp prog 155 #[I6 k,I6 (fs.length:Int)] W fun e w'=>e=Xl (Xh (inL fs.length k))/\w'=W:=fun W=>zet k _ W;generalize zn0 fs a k=Z at d⊢;generalize inL fs.length k=B at d c;generalize stW fs a=S at d i;generalize fs.length=x at*;obtain⟨z,g⟩:=kB (w.alloc (Xk #[O r x s,I6 a] 37));have b:=gA g;have p:=xA g;have h:=dD g;clear g;by_cases l:S=0
 ·rw[kE l]at d;subst l;cases B with
  |true=>
   rw[kE rfl]at d;go_enter func208,ntmps208;go_wp2_with fail;rw[h.out];refine(i _ b).mono ?_;rintro e n⟨rfl,f⟩;have j:=dD (b.trans f);have y:=(p.aA f).c 0 rfl;clear f i;go_wp2_with(go_at_call 155;refine(c _).mono ?_;rintro e w'⟨rfl,rfl⟩)
   go_ret;exact⟨Rr d.out,j⟩
  |false=>
   rw[kF Dc]at d;go_enter func208,ntmps208;go_wp2_with fail;rw[h.out];refine(i _ b).mono ?_;rintro e n⟨rfl,f⟩;have j:=dD (b.trans f);have y:=(p.aA f).c 0 rfl;clear f i;go_wp2_with(go_at_call 155;refine(c _).mono ?_;rintro e w'⟨rfl,rfl⟩)
   go_ret;exact⟨Rr d.out,j⟩
 rw[kF l]at d;have u:(S !=0)=Xc:=Si l;go_enter func208,ntmps208;go_wp2_with fail;rw[h.out];refine(i _ b).mono ?_;rintro e n⟨rfl,f⟩;have j:=dD (b.trans f);clear f i;go_wp2;go_ret;exact⟨Rr d.out,j⟩
def zrw(f s b:Int):Ma:=⟨Xr f.toNat frF,0,Xr s.toNat 0,Xr s.toNat zw,[],Xr b.toNat zw,[],[],b,[],[⟨Xc,[],qI⟩]⟩
theorem zI{e:Func}{p u c:Tmp}(h:e.results=#[.cell p t,.tmp u,.tmp c])(a:Array Xq)(hp:a.getD p undef=Xj (Xa ⟨b,0,Xb⟩))(f:Box w b vs){d:TypeDesc}(g:Tryz.prog.underlying t=Xa d)(hd:d.isRow=Xc)(hi:(Tryz.prog.info? t).map (·.size)=Xa vs.length):
  (results e a).run prog w=.ok (Xm #[Xi vs.toArray,a.getD u undef,a.getD c undef]) w:=by have e:a[p]?.getD undef=Xj (Xa ⟨b,0,Xb⟩):=Si hp;have a:=run_loadVar_mid (P:=prog) w b 0 t vs d f.range g hd hi;simp[results,h,e,asAddr,a]
theorem znq(h:(k:Int)<=z\/k=0):Qb L 0 z k=L:=by unfold Qb;apply Xw;grind
theorem znr(l)(idx a:Int):ZF l 0 (a-idx*8)=ZF l idx a:=by grind[ZF]
theorem zdI(l:List Int)(n:Int)(w)(f:l.length=8)(a:-9223372036854775808<=n)(b:n<=9223372036854775807):
  Xp prog 162 #[Xi (pgc l).toArray,I6 n] w fun e w'=>e=Xl (Xi (pgc (ZF l 0 n)).toArray)/\(ZF l 0 n).length=8/\zc w w':=by
 have h:=dD f;have a:Xo ((ZF l 0 n).length=8):=show _=_ by unfold ZF;simp[f]
 obtain⟨c,b⟩:=kB ((w.alloc (Xk (pgc l).toArray 44)).alloc (Xk #[U8 0,U8 0,U8 0,U8 0,U8 0,U8 0,U8 0,U8 0] 44));have g:=gD2 b;have i:=x2a b;have p:Xo (Box c (w.heap.size+1) (pgc zw)):=dD<|by rw[<-b];exact Box.aE _ (pgc zw) _ Sm
 have d:=dD b;have m:Xo (Box c w.heap.size (pgc (Qb l 0 n n.toNat))):=show Box _ _ _ by rw[znq Wm];exact i.out
 obtain⟨j,c⟩:=kA (ZF l 0 n);rw[c.out]at a⊢;clear b f;go_enter func162,ntmps162;go_upto_region 1 with fail;rw[d.out];go_wp2;all_goals
  go_loopg[5] 8 (fun b d wr=>∃k:Nat,n<=(k:Int)/\(k:Int)<=9223372036854775807/\8-k<=b/\d=I6 k/\Xo (zc w wr)/\Xo (Box wr w.heap.size (pgc (Qb l 0 n k)))/\Xo (Box wr (w.heap.size+1) (pgc zw)))
  case atStart=>
   exact⟨n.toNat,Wm,Wm,Wm,(by first|rw[Int.toNat_eq_max]|(congr 1;omega)|(congr 1;rw[Int.max_def];split<;>omega)|(congr 1;split<;>omega)),g,m,p⟩
  obtain⟨k,b,b,b,rfl,m,d,p⟩:=hrel;by_cases f:k<8
  ·have g:(k:Int)<8:=Wm
   obtain⟨z,b⟩:∃z,(Qb l 0 n k)[k]?=Xa z:=⟨_,gE (by rw[zhQ,h.out];exact f)⟩;have s:=d.c k (ze7 b);have t:=d.f;clear b;go_wp2;obtain⟨i,b⟩:=kB (wr.setCell ⟨w.heap.size,k,Xb⟩ (U8 0));have q:Xo (Box i w.heap.size (pgc (Qb l 0 n (k+1)))):=dD (by rw[<-b,<-zhR (Rx h.out f) Wm,zdH];exact d.set k _);have r:Xo (Box i (w.heap.size+1) (pgc zw)):=dD (by rw[<-b];exact p.other Sm _);have f:Xo (zc w i):=dD (by rw[<-b];exact zz m Sm _);rw[b];clear b s t;go_roundg (8-(k+1));exact⟨k+1,Wm,Wm,Wm,Gn,f,q,r⟩;omega
  have g:¬(k:Int)<8:=Wm;have b:Xo (Qb l 0 n k=j):=dD (by rw[zhS (by rw[h.out];omega),c.out]);rw[b.out]at d;go_wp2_with(first|refine zD rfl 44 (.tmp 2) rfl w.heap.size rfl d underlying44 rfl (by rw[Zz,a.out];exact zsd) ?_|refine zn rfl 44 (.tmp 4) (.tmp 14) rfl (w.heap.size+1) rfl (pgc j) rfl p (by rw[Zz,a.out];rfl) zsd (qg _) ?_)
  intro f c d _;have b:Xo (zc w f):=dD<|zd m d Wm;go_wp2;refine bodyPost_ret (z6 rfl _ rfl c underlying44 rfl (by rw[Zz,a.out];exact zsd)) rfl ⟨rfl,a,b⟩
theorem zJ.bM(d p x)(g:o.op=.store d p x)(b:Nat)(hp:a.eval p=Xj (Xa ⟨b,0,Xb⟩))(vs:List Xq)(j:a.eval x=Xi vs.toArray)
  {t:TypeId}{cs:List Xq}(e:zt w b t cs)(c:vs.length=cs.length)(hi:(Tryz.prog.info? d).map (·.size)=Xa cs.length)(f:∀v∈vs,v.oneCell'=Xc)
  (h:∀w',zt w' b t vs->w.grownBy w' (Xa b)->w'.heap.size=w.heap.size->N undef w'):zJ prog o a w N:=by
 unfold zJ;have i:(execOp a.eval o).run prog w=.ok .skip (w.setCells b 0 vs):=by
  have:=run_storeAt_mid (P:=prog) w b 0 d vs.toArray (by simpa[c]using e.box.there) (by simpa[c]using hi) (all_oneCell_toArray f);simp only[execOp,g,hp,j,Xs,this,rA,Xx]
 rw[i];have hp:=e.part (ds:=vs) (o:=0) Wm;rw[zaB c]at hp;exact h _ hp (zV b vs 0 w).1 (zV b vs 0 w).2
theorem zej(a:∀p∈m.db,p.length=8)(b:∀q∈m.dq,q.2.length=8)(file idx:Int):(ZX m file idx).length=8:=by
 unfold ZX;split;·rfl
 grind[ZF,ze3]
theorem zpa{f:Fl}(d:m.fl[fi]?=Xa f)(b:f.bl[ix]?=Xa z):ZX m fi ix=if z<0 then zw else ZF (qv m.db m.dq z) ix f.size:=by
 have c:m.fl.getD ((fi:Int).toNat) ⟨0,[]⟩=f:=by rw[tN,gD,d];rfl
 have d:zgu m fi ix=z:=by unfold zgu;rw[c,tN,gD,b];rfl
 have z:QJ m fi=f.size:=by unfold QJ;rw[c]
 unfold ZX;rw[d,z]
theorem zqd{f:Fl}(b:M[fi]?=Xa f)(a:f.bl[ix]?=Xa z):zoO M fi ix=Xc:=by
 have z:=(gS.1 b).1;have z:=(gS.1 a).1;have a:M.getD ((fi:Int).toNat) ⟨0,[]⟩=f:=by rw[tN,gD,b];rfl
 unfold zoO;rw[a,QE.2 ⟨Wm,Wm⟩,QE.2 ⟨Wm,Wm⟩];rfl
theorem zdq(V)(m:Ma)(fi ix:Nat)(f:Fl)(d:Int)(w)(g:zK w V m)(x:m.fl[fi]?=Xa f)(b:f.bl[ix]?=Xa d)(a:ix<=1000)(H:0<=f.size/\f.size<=1000):
  Xp prog 138 #[Xi (mL V m).toArray,I6 (fi:Int),I6 (ix:Int)] w fun e w'=>e=Xl (Xi (pgc (ZX m fi ix)).toArray)/\(ZX m fi ix).length=8/\zc w w':=by
 have l:=dD<|fun W(a:zc w W)=>zjE _ m.db m.dq d W ⟨_,_,rfl,(g.aA a).db,(g.aA a).dq⟩;have r:Xo (∀W,zc w W->Xp prog 108 #[Xi #[V.fl.x,I6 m.cnt],I6 (fi:Int),I6 (ix:Int)] W fun e w'=>e=Xl (Xh Xc)/\zc W w'):=dD<|fun W a=>by
  have:=zbd (V.fl.x) m.fl m.cnt fi ix W (g.aA a).fl;rw[zqd x b]at this;exact this
 have u:Xo ((qv m.db m.dq d).length=8):=ze3 g.db.2.1 g.dq.2.1;have j:Xo ((ZX m fi ix).length=8):=zej g.db.2.1 g.dq.2.1 _ _;have a:=dD<|zpa x b;obtain⟨a6,c⟩:=kA (ZX m fi ix);rw[c.out]at a j⊢;obtain⟨⟨X,Z,Y⟩,a0,L,N,S,T,⟨h,k,F⟩,⟨C,E,D⟩,M⟩:=V;dsimp only[mL]at l r⊢;obtain⟨-,-,-,-,-,-,K,-,-⟩:=g.ns;dsimp only at K;obtain⟨_,_,q,_,z⟩:=qa.rows g.fl;have c:Xo (zaz w h m.fl):=show zaz _ _ _ by
  simp only[vJ]at q;rw[q.1];exact z
 have h:fi<k:=by rw[K];exact(gS.1 x).1
 obtain⟨R,rfl,P,U,t,y⟩:=c.out fi f x;have i:=dD y;obtain⟨_,_,p,s⟩:=t.aW;have G:=(gS.1 b).1;obtain⟨n,h,c⟩:=s ix d b;have B:Xo (P=Xa n/\∀W,zc w W->W.cell? (n.add ix)=Xa (I6 d)):=dD<|⟨by simp only[vJ]at p;rw[p.1];exact h,c⟩;obtain⟨Q,A⟩:=kA f.bl.length;rw[A.out]at G i;clear g K q z x b y t p s h c;obtain⟨a5,b⟩:=kA f.size;rw[b.out]at i a H;have b:(fi:Int)<(k:Int):=Wm;have b:(ix:Int)<(Q:Int):=Wm;obtain⟨s,b⟩:=kB ((w.alloc (Xk #[O X Z Y,I6 m.aB,a0.x,L.x,N.x,S.x,T.x,O (Xa R) k F,I6 m.cnt,O C E D,M.x] 41)).alloc (Xk #[U8 0,U8 0,U8 0,U8 0,U8 0,U8 0,U8 0,U8 0] 44));have q:=gD2 b;have h:=x2a b;have t:Xo (Box s (w.heap.size+1) (pgc zw)):=dD<|by rw[<-b];exact Box.aE _ (pgc zw) _ Sm
 have g:=dD b;clear b;go_enter func138,ntmps138;go_upto_region 1 with fail;rw[g.out];have p:=h.c 7 rfl;have g:=h.c 8 rfl;have b:=r.out s q.out;go_wp2_with fail;refine b.mono ?_;clear b p g;rintro W k⟨rfl,b⟩;have r:=dD (q.trans b);have q:=dD (h.aA b);have s:=dD (t.aA b);clear b;have p:=q.c 7 rfl;obtain⟨t,y⟩:=i.out k r.out;go_upto_region 4 with fail;obtain⟨b,g⟩:=kA k.heap.size;refine nW fun h b=>?_;have i:=gP b;have X:=xP b g;have A:=dD (r.trans i);have x:=dD (q.aA i);have a2:=dD (s.aA i);rw[g.out];clear b i t y p;obtain⟨b,c⟩:=B.out;subst b;have b:=dD c;clear c;have p:=X.c 1 rfl;have i:=b.out h A.out;by_cases c:d<0
 ·rw[kE c]at a
  go_wp2_with(refine zn rfl 44 (.tmp 6) (.tmp 29) rfl (w.heap.size+1) rfl (pgc zw) rfl a2 rfl zsd (qg _) ?_)
  intro Y s t _;have k:Xo (zc w Y):=dD<|zd A t Wm;go_wp2;refine bodyPost_ret (z6 rfl _ rfl s underlying44 rfl zsd) rfl ⟨by rw[a.out],Rr a.out,k⟩
 rw[kF c]at a;have g:decide (d<0)=Xd:=decide_eq_false c;go_upto_region 6 with fail;clear p i c g;obtain⟨p,c⟩:=kA (qv m.db m.dq d);rw[c.out]at a u l;obtain⟨H,K,L,M,N,P,Q,R,rfl⟩:=zch p u.out;obtain⟨g,c⟩:=Ww fun u=>zc h u;have r:=(c _).2 (gW _);have F:=x.h c 5 rfl;have G:=x.h c 6 rfl;have D:=X.h c 1 rfl;have C:∀y:zg g,y.world.cell? (n.add ix)=Xa (I6 d):=fun y=>b.out _ (A.trans ((c _).1 y.holds));have a0:Nonempty (zg g):=⟨⟨_,r⟩⟩;refine J0 (I:=g) 14 [(7,⟨.const (Xh Xd),fun b=>b=Xm #[Xi #[U8 H,U8 K,U8 L,U8 M,U8 N,U8 P,U8 Q,U8 R],I6 (zp m.db.length m.dq d)],fun _ _ _=>True,fun p q=>zc p q,fun _=>True⟩),(11,⟨.const (Xh Xd),fun b=>∃g,b=Xj (Xa ⟨g,0,Xb⟩),fun _ b u=>∃g x,b=Xj (Xa ⟨g,0,Xb⟩)/\h.heap.size<=g/\zt u g 44 x/\x.length=8,fun p q=>zc p q,fun _=>True⟩),(12,⟨.tmp 8,fun _=>True,fun W _ u=>∃g,W=Xj (Xa ⟨g,0,Xb⟩)/\h.heap.size<=g/\Box u g (pgc [H,K,L,M,N,P,Q,R]),fun p q=>∃g,h.heap.size<=g/\p.grownBy q (Xa g)/\zt q g 44 (pgc [H,K,L,M,N,P,Q,R]),fun _=>True⟩)] r z0 Kr Kr rfl rfl Dc (Sc ⟨_,rfl⟩ ⟨_,0,rfl⟩ ⟨Xh Xc,trivial⟩) ?hp ?hpre ?hpr0 ?_;case hp=>
  intro a1 aa a7 a4 u U n h W b p q i E;have h:=zB u;have b:=zB U;clear u U;simp only[mC,pJ,nM,or_false]at h b;rcases h with⟨rfl,rfl⟩|⟨rfl,rfl⟩|⟨rfl,rfl⟩;·trivial
  ·obtain⟨g,x,y,z,B,a3⟩:=E
   rcases b with⟨rfl,rfl⟩|⟨rfl,rfl⟩|⟨rfl,rfl⟩;·exact⟨g,x,y,z,B.aA i,a3⟩
   ·exact absurd rfl n
   obtain⟨Z,a8,a8,a9⟩:=i;by_cases e:g=Z;·subst e;exact⟨g,_,y,z,a9,rfl⟩
   exact⟨g,x,y,z,B.beside a8 (fun a1 u=>by cases u;exact e),a3⟩
  obtain⟨g,y,z,B⟩:=E;rcases b with⟨rfl,rfl⟩|⟨rfl,rfl⟩|⟨rfl,rfl⟩;·exact⟨g,y,z,B.aA i⟩
  ·exact⟨g,y,z,B.aA i⟩
  exact absurd rfl n
 case hpre=>
  intro a7 a4 a1 aa U u n p q i i;have b:=zB U;simp only[mC,pJ,nM,or_false]at b;rcases b with⟨rfl,rfl⟩|⟨rfl,rfl⟩|⟨rfl,rfl⟩<;>trivial
 case hpr0=>
  intro a1 a4 u;have h:=zB u;simp only[mC,pJ,nM,or_false]at h;rcases h with⟨rfl,rfl⟩|⟨rfl,rfl⟩|⟨rfl,rfl⟩<;>trivial
 simp only[Xu,Xv];iterate 7 refine ZL ?_
 refine jU rfl rfl (fun w' b i n=>?_) (fun q h=>?_);·refine zJ.call [Xi #[S.x,T.x],I6 d] rfl func106 rfl rfl rfl ?_;refine(l w' (A.trans ((c _).1 b))).mono ?_;rintro e p⟨rfl,d⟩;exact⟨_,rfl,(c _).2 (((c _).1 b).trans d),d,rfl,trivial⟩
 subst h;refine Uq ?_;iterate 3 refine ZL ?_
 refine jU rfl rfl (fun w' b i n=>?_) (fun q h=>?_);·refine zJ.step (v:=Xj (Xa ⟨w'.heap.size,0,Xb⟩)) (w':=w'.alloc (Xk #[U8 0,U8 0,U8 0,U8 0,U8 0,U8 0,U8 0,U8 0] 44)) (by clear F G D C;simp only[execOp];go_simp) ⟨(c _).2 (((c _).1 b).trans (za _ _)),za _ _,⟨_,rfl⟩,_,_,rfl,bS ((c _).1 b),zt.aE _ (pgc zw) _ rfl,rfl⟩
 obtain⟨l,rfl⟩:=h;refine Uq ?_;refine jU rfl rfl (fun w' b i n=>?_) (fun q h=>?_)
 ·obtain⟨g,x,g,d,h,i⟩:=n 11 Kr
  simp only[Value.pointer.injEq,Option.some.injEq,Addr.mk.injEq,and_true]at g;subst g;refine zJ.bM 44 (.tmp 8) (.tmp 39) rfl l rfl (pgc [H,K,L,M,N,P,Q,R]) rfl h (Rr i) (Rx i zsd) (qg _) fun p i p q=>?_;exact⟨(c _).2 (zd ((c _).1 b) p d),⟨l,d,p,i⟩,trivial,l,rfl,d,i.box⟩
 simp only[Yf];refine ZL ?_;refine zbL fun u i n=>?_;obtain⟨Z,g,h,d⟩:=n 12;have b:(Value.pointer (Xa ⟨l,0,Xb⟩):Xq)=Xj (Xa ⟨Z,0,Xb⟩):=g;simp only[Value.pointer.injEq,Option.some.injEq,Addr.mk.injEq,and_true]at b;subst b;have b:=(c _).1 i;have p:=dD (A.trans b);have c:=dD (X.aA b);have x:=dD (a2.aA b);have q:=dD d;clear n i r a0 F G D C b g d h;have hcut:=zdI [H,K,L,M,N,P,Q,R] (a5-(ix:Int)*8) u rfl Wm Wm;rw[znr]at hcut;rw[<-a.out]at hcut;have a:=c.c 0 rfl;go_wp2_with(refine zD rfl 44 (.tmp 8) rfl l rfl q underlying44 rfl zsd ?_)
 refine hcut.mono ?_;clear hcut a;rintro W a⟨rfl,-,a⟩;have c:=dD (x.aA a);have b:=dD (p.trans a);clear a;go_wp2_with(refine zn rfl 44 (.tmp 6) (.tmp 47) rfl (w.heap.size+1) rfl (pgc a6) rfl c (by rw[Zz,j.out];rfl) zsd (qg _) ?_)
 intro Y s t _;have k:Xo (zc w Y):=dD<|zd b t Wm;go_wp2;refine bodyPost_ret (z6 rfl _ rfl s underlying44 rfl (by rw[Zz,j.out];exact zsd)) rfl ⟨rfl,j,k⟩
theorem QC(h:ChW w0 k w V m)(q:Nat)(t:q<m.sp.length)(n:Int):
  Xp prog 91 #[Xj (Xa ⟨k,0,Xb⟩),Xi #[I6 (q:Int),I6 n]] w fun e w'=>e=Xl (enV (Q5 m q n))/\zc w w':=by
 obtain⟨s,u⟩:∃s,m.sp[q]?=Xa s:=⟨_,gE t⟩;obtain⟨b,f,z,A⟩:=h.sp;obtain⟨x,d⟩:∃x,b[q]?=Xa x:=⟨_,gE (Rx z t)⟩;have g:=dD<|A q x s d u w (qA.refl _ _);obtain⟨B,a⟩:=kA b.length;obtain⟨l,C,b⟩:=f.aG Wm;rw[a.out]at b;have c:=h.box.box.c 10 rfl;rw[b]at c f;have i:(q:Int)<(B:Int):=Hm a.out;have a:=dD c;have i:=dD h.box;have a:=(f.one d).sp10;rw[Yr,zA]at a;have j:Xo (∀W,zc w W->zkd W ⟨l,q*10,Xb⟩ x):=show∀W,_ from fun W r=>by
  have:=((f.aA r).one d).sp10;rw[Yr,zA]at this;exact this
 have p:=dD b;obtain⟨E,v⟩:=kA (Q5 m q n);have D:Xo (∀W,zc w W->Xp prog 69 #[Xi #[x.t0.x,x.t1.x,x.t2.x,x.t3.x,x.t4.x,x.t5.x,x.t6.x,x.t7.x],I6 n] W fun e w'=>e=Xl (enV E)/\zc W w'):=show∀W,_ from fun W r=>by
  have y:=Je x.tab s.tb n W (g.tb.aA r);rw[show zeM s.tb n=E from by rw[<-v.out];unfold Q5;rw[Sp.aK u]]at y;exact y
 rw[v.out];clear h t u f z A d b c a;obtain⟨s,b⟩:=kB ((w.alloc (Xk #[I6 (q:Int),I6 n] 95)).alloc (Xk #[I6 0,I6 0,Xh Xd] 55));have g:=gD2 b;have h:=x2a b;have t:=x2b b;have c:=dD b;clear b;go_enter func91,ntmps91;go_upto_region 1 with fail;rw[c.out];obtain⟨F,r⟩:=kA w.heap.size;rw[r.out]at h t⊢;obtain⟨f,b⟩:=Ww fun u=>zc s u;have c:=(b _).2 (gW _);have G:∀y:zg f,y.world.cell? ⟨k,10,Xb⟩=Xa (O (Xa ⟨l,0,Xb⟩) B C):=fun y=>by rw[<-p.out];exact(i.box.aA (g.trans ((b _).1 y.holds))).c 10 rfl
 have i:=h.h b 0 rfl;have p:=h.h b 1 rfl;have a:∀y:zg f,zkd y.world ⟨l,q*10,Xb⟩ x:=fun y=>j.out _ (g.trans ((b _).1 y.holds));have j:=fun y=>(a y).2.2.1;have l:=fun y=>(a y).2.2.2.1;have s:=fun y=>(a y).2.2.2.2.1;have v:=fun y=>(a y).2.2.2.2.2.1;have z:=fun y=>(a y).2.2.2.2.2.2.1;have A:=fun y=>(a y).2.2.2.2.2.2.2.1;have B:=fun y=>(a y).2.2.2.2.2.2.2.2.1;have C:=fun y=>(a y).2.2.2.2.2.2.2.2.2;dsimp only at j l s v z A B C;clear a;have h:Nonempty (zg f):=⟨⟨_,c⟩⟩;refine zN (I:=f) 13 [(12,fun a=>a=enV E)] (fun u=>True) c trivial z0 Kr rfl rfl Dc (Sa ⟨_,rfl⟩) Kr ?_;simp only[Xu,Xv];refine zj ?_;refine zX (.tmp 5) ⟨k,0,Xb⟩ rfl rfl rfl rfl ?_;refine Uq ?_;iterate 10 refine zj ?_
 refine zC rfl rfl (fun _ u=>True) (fun w' a d=>?_) (fun d f=>?_);·refine zJ.call [Xi #[x.t0.x,x.t1.x,x.t2.x,x.t3.x,x.t4.x,x.t5.x,x.t6.x,x.t7.x],I6 n] rfl func69 rfl rfl rfl ?_;refine(D w' (g.trans ((b _).1 a))).mono ?_;rintro e d⟨rfl,d⟩;exact⟨_,rfl,(b _).2 (((b _).1 a).trans d),rfl,trivial⟩
 cases f;refine Uq ?_;refine qn fun a a d=>?_;have f:=dD<|(b _).1 a;have b:=dD (t.aA f);clear a d c G i p j l s v z A B C h;unfold enV;refine zn rfl 55 (.tmp 4) (.tmp 17) rfl (F+1) rfl [I6 E.kind,I6 E.n,Xh E.wr] rfl b rfl Kr (by simp[Value.oneCell']) ?_;intro c a b _;have d:Xo (zc w c):=dD<|zd (g.trans f) b (Hm r.out);have c:=dD a;clear a b;go_wp2;refine bodyPost_ret (z6 rfl _ rfl c underlying55 rfl Kr) rfl ⟨rfl,d⟩
theorem hoF(a)(c:Nat)(fs:List Fr)(h:Int)(i:Nat)(q:Fr)(u:Int)(w:Xn)(F:zs qy w (O a fs.length c) fs)(T:Zv fs h=0)(Q:fs[i]?=Xa q)(bp:(q.r==0)=Xd)(bo:¬u< -q.r)(bf:¬1000-q.r<u)(av:q.r+u=0):
  Xp prog 121 #[Xi #[O a fs.length c,I6 h],I6 (i:Int),I6 u] w fun e w'=>∃b,e=Xl (Xm #[Xi #[b,I6 h],I6 0])/\zb qy w.heap.size w' b (fs.set i frF)/\zc w w':=by
 have a1:=dD F;have b6:=dD av;clear av;have I:∀W,zc w W->Xp prog 125 #[Xi #[O a fs.length c,I6 h]] W fun e w'=>e=Xl (I6 (Zv fs h))/\zc W w':=fun W af=>by rw[T];exact Ql a c fs h W (a1.aA af) T
 have A:∀W,Xp prog 144 #[I6 (i:Int),I6 (fs.length:Int)] W fun e w'=>e=Xl (Xh (inB (i:Int) fs.length))/\w'=W:=fun W=>ZM (i:Int) _ W;have ai:∀W,zc w W->Xp prog 46 #[Xi #[O a fs.length c,I6 h]] W fun e w'=>∃b,e=Xl (Xi #[b,I6 h])/\zb qy W.heap.size w' b fs/\zc W w':=fun W af=>Ja a c fs h W (a1.aA af);have s:=zbS ((jI T).2.1 q (mG Q));have t:=(gS.1 Q).1;obtain⟨bl,bm,ag,x⟩:=F.bB;cases ag;obtain⟨b7,rfl,au⟩:=x i q Q;have b5:=dD au;have an:=dD Q;clear x au Q;simp only[show inB (i:Int) fs.length=Xc from by simp[inB];exact t]at A;have N:=F.short;clear F;simp only[T]at I;clear T;obtain⟨y,G⟩:=kA fs.length;simp only[G.out]at I a1 N A ai t⊢;have be:(i:Int)<(y:Int):=Wm;obtain⟨bb,bc⟩:=s;obtain⟨ao,j⟩:=kB ((w.alloc (Xk #[O (Xa b7) y c,I6 h] 28)).alloc (Xk #[eS,I6 0] 28));have g:=gD2 j;have Y:=x2a j;have ap:=x2b j;have a2:=dD j;clear j;go_enter func121,ntmps121;go_upto_region 1 with fail;rw[a2.out];obtain⟨aa,ab⟩:=Y.k2;go_wp2_with fail;refine(I _ g).mono ?_;rintro e a6⟨rfl,aq⟩;have B:=dD aq;clear aq aa ab I;obtain⟨-,-,-,-,-,-,-,-,b8,-,-,-,-⟩:=b5.out a6 (g.trans B);obtain⟨aa,ab⟩:=(Y.aA B).k2;go_wp2_with(go_at_call 144;refine(A _).mono ?_;rintro e w'⟨rfl,R⟩;rw[R];clear R w')
 refine(ai _ (g.trans B)).mono ?_;rintro e C⟨b,rfl,f,ae⟩;obtain⟨l,D,rfl⟩:=f.aG (by rw[G.out];omega);rw[G.out]at f⊢;have a3:=dD f;have am:=dD (B.trans ae);have ac:=dD<|bS ae;clear f ae aa ab ai b8;have bd:=a3.lt l rfl;have bg:l≠C.heap.size:=Wm;have u8:=(a3.aA (za C (Xk #[O (Xa ⟨l,0,Xb⟩) y D,I6 h] 28))).frc an 8 rfl;go_wp2_with(refine zu (E:=qy) rfl (.tmp 61) (.tmp 59) 3 rfl a6.heap.size (O (Xa ⟨l,0,Xb⟩) y D) fs (a3.aA (za _ _)) l i 8 rfl q {q with r:=q.r+u} an.out [I6 (q.r+u)] Kr rfl (Yv rfl) (by intro bq aw;simp at aw;subst aw;rfl) _ rfl (by simp[qy]) _ rfl rfl ?_)
 intro K U n ak;have H:=dD U;have ba:=ac.out;have b9:=bS B.out;have bi:=ap.lt;have Z:Xo (Box K C.heap.size [O (Xa ⟨l,0,Xb⟩) y D,I6 h]):=(Box.aE C _ _ rfl).beside n (fun M d=>by cases d;omega);have m:Xo (Box K (w.heap.size+1) [eS,I6 0]):=((ap.aA am).alloc _).beside n (fun M d=>by cases d;omega);have b2:Xo (zc ao K):=zW (am.trans (za _ _)) n (fun M d=>by cases d;omega);have a0:Xo ((fs.set i {q with r:=q.r+u})[i]?=Xa {q with r:=q.r+u}):=dD<|by rw[sF (Rx G.out t)]
 clear U n ak u8;have u8:=H.frc a0 8 rfl;obtain⟨ax,ay⟩:=Z.k2;obtain⟨az,b0⟩:=m.k2;have b1:=m.f;simp only at u8;have bh:(q.r+u==0)=Xc:=by simp[b6.out]
 go_wp2;have aj:=fun X:zf K=>(Z.aA X.aA).c 0 rfl;have P:Nonempty (zf K):=⟨⟨_,zc.refl _⟩⟩;clear u8 ax ay az b0 b1;refine qP 5 [(3,⟨fun v=>v=Xi (frv frF).toArray,fun _ _=>True⟩)] z0 Kr rfl rfl Dc ?_ ?_ ?_
 ·intro X S
  simp at S;subst S;exact⟨_,rfl⟩
 ·intro X S
  simp at S;subst S;exact fun _ _ _ _ h=>h
 simp only[Xu,Xv];iterate 3 refine ze ?_
 refine zG rfl rfl (fun w' bn ar=>?_) (fun br F=>?_);·refine zJ.call [] rfl func145 rfl rfl rfl ?_;refine(zbR w').mono ?_;rintro e bj⟨rfl,ah⟩;exact⟨_,rfl,ah,rfl,trivial⟩
 subst F;simp only[Yf,sB,sS,sZ,frv,frF,pg0];refine ze ?_;refine z2 fun bk k ar=>?_;have a4:=dD (H.aA k);have a9:=dD (Z.aA k);have a8:=dD (m.aA k);have b3:=dD (b2.trans k);clear ar aj k P;go_wp2_with(refine qd (E:=qy) rfl (.tmp 73) (.tmp 72) rfl a6.heap.size _ _ a4 l i rfl frF (by rw[Xt,G.out];exact t) _ rfl (by simp[qy]) _ rfl rfl ?_)
 intro a7 V p al;have a5:=dD V;have L:Xo (Box a7 C.heap.size [O (Xa ⟨l,0,Xb⟩) y D,I6 h]):=a9.beside p (fun M d=>by cases d;omega);have z:Xo (Box a7 (w.heap.size+1) [eS,I6 0]):=a8.beside p (fun M d=>by cases d;omega);have b4:Xo (zc ao a7):=zW b3 p (fun M d=>by cases d;omega);clear V p al;obtain⟨ax,ay⟩:=L.k2;obtain⟨az,b0⟩:=z.k2;have b1:=z.f;go_wp2;refine bodyPost_ret (v:=Xm #[Xi #[O (Xa ⟨l,0,Xb⟩) y D,I6 h],I6 0]) (by simp[results,Tryz.results121,go_sem, *]) rfl ⟨_,rfl,?_,?_⟩;·exact((a5.setCell (a:=⟨w.heap.size+1,0,Xb⟩) (by show w.heap.size+1<_;omega) _).setCell (a:=⟨w.heap.size+1,1,Xb⟩) (by show w.heap.size+1<_;omega) _).base (Hm (bS g.out))
 exact zz (zz (g.trans b4) Sm _) Sm _
theorem hoG(a)(c:Nat)(fs:List Fr)(h:Int)(i:Nat)(q:Fr)(m:Int)(w:Xn)(M:zs qy w (O a fs.length c) fs)(D:Zv fs h=0)(B:fs[i]?=Xa q)(av:(q.r==0)=Xd)(au:¬m< -q.r)(an:¬1000-q.r<m)(aw:(q.r+m==0)=Xd):
  Xp prog 121 #[Xi #[O a fs.length c,I6 h],I6 (i:Int),I6 m] w fun e w'=>∃b,e=Xl (Xm #[Xi #[b,I6 h],I6 0])/\zb qy w.heap.size w' b (fs.set i {q with r:=q.r+m})/\zc w w':=by
 have Q:=dD M;have N:∀W,zc w W->Xp prog 125 #[Xi #[O a fs.length c,I6 h]] W fun e w'=>e=Xl (I6 (Zv fs h))/\zc W w':=fun W Z=>by rw[D];exact Ql a c fs h W (Q.aA Z) D
 have t:∀W,Xp prog 144 #[I6 (i:Int),I6 (fs.length:Int)] W fun e w'=>e=Xl (Xh (inB (i:Int) fs.length))/\w'=W:=fun W=>ZM (i:Int) _ W;have a0:∀W,zc w W->Xp prog 46 #[Xi #[O a fs.length c,I6 h]] W fun e w'=>∃b,e=Xl (Xi #[b,I6 h])/\zb qy W.heap.size w' b fs/\zc W w':=fun W Z=>Ja a c fs h W (Q.aA Z);have l:=zbS ((jI D).2.1 q (mG B));have u:=(gS.1 B).1;obtain⟨aq,ar,I,n⟩:=M.bB;cases I;obtain⟨af,rfl,a9⟩:=n i q B;have ac:=dD a9;have a3:=dD B;clear n a9 B;simp only[show inB (i:Int) fs.length=Xc from by simp[inB];exact u]at t;have A:=M.short;clear M;simp only[D]at N;clear D;obtain⟨y,G⟩:=kA fs.length;simp only[G.out]at N Q A t a0 u⊢;have am:(i:Int)<(y:Int):=Wm;obtain⟨aj,ak⟩:=l;obtain⟨ae,g⟩:=kB ((w.alloc (Xk #[O (Xa af) y c,I6 h] 28)).alloc (Xk #[eS,I6 0] 28));have f:=gD2 g;have K:=x2a g;have a5:=x2b g;have R:=dD g;clear g;go_enter func121,ntmps121;go_upto_region 1 with fail;rw[R.out];obtain⟨U,V⟩:=K.k2;go_wp2_with fail;refine(N _ f).mono ?_;rintro e a4⟨rfl,a8⟩;have x:=dD a8;clear a8 U V N;obtain⟨-,-,-,-,-,-,-,-,ag,-,-,-,-⟩:=ac.out a4 (f.trans x);obtain⟨U,V⟩:=(K.aA x).k2;go_wp2_with(go_at_call 144;refine(t _).mono ?_;rintro e w'⟨rfl,C⟩;rw[C];clear C w')
 refine(a0 _ (f.trans x)).mono ?_;rintro e H⟨b,rfl,d,Y⟩;obtain⟨s,L,rfl⟩:=d.aG (by rw[G.out];omega);rw[G.out]at d⊢;have S:=dD d;have a2:=dD (x.trans Y);have X:=dD<|bS Y;clear d Y U V a0 ag;have al:=S.lt s rfl;have ao:s≠H.heap.size:=Wm;have u8:=(S.aA (za H (Xk #[O (Xa ⟨s,0,Xb⟩) y L,I6 h] 28))).frc a3 8 rfl;go_wp2_with(refine zu (E:=qy) rfl (.tmp 61) (.tmp 59) 3 rfl a4.heap.size (O (Xa ⟨s,0,Xb⟩) y L) fs (S.aA (za _ _)) s i 8 rfl q {q with r:=q.r+m} a3.out [I6 (q.r+m)] Kr rfl (Yv rfl) (by intro b2 aa;simp at aa;subst aa;rfl) _ rfl (by simp[qy]) _ rfl rfl ?_)
 intro T F k a1;have z:=dD F;have ai:=X.out;have ah:=bS x.out;have ap:=a5.lt;have a6:Xo (Box T H.heap.size [O (Xa ⟨s,0,Xb⟩) y L,I6 h]):=(Box.aE H _ _ rfl).beside k (fun a7 j=>by cases j;omega);have p:Xo (Box T (w.heap.size+1) [eS,I6 0]):=((a5.aA a2).alloc _).beside k (fun a7 j=>by cases j;omega);have ab:Xo (zc ae T):=zW (a2.trans (za _ _)) k (fun a7 j=>by cases j;omega);have P:Xo ((fs.set i {q with r:=q.r+m})[i]?=Xa {q with r:=q.r+m}):=dD<|by rw[sF (Rx G.out u)]
 clear F k a1 u8;have u8:=z.frc P 8 rfl;obtain⟨ax,ay⟩:=a6.k2;obtain⟨az,b0⟩:=p.k2;have b1:=p.f;simp only at u8;go_wp2;refine bodyPost_ret (v:=Xm #[Xi #[O (Xa ⟨s,0,Xb⟩) y L,I6 h],I6 0]) (by simp[results,Tryz.results121,go_sem, *]) rfl ⟨_,rfl,?_,?_⟩;·exact((z.setCell (a:=⟨w.heap.size+1,0,Xb⟩) (by show w.heap.size+1<_;omega) _).setCell (a:=⟨w.heap.size+1,1,Xb⟩) (by show w.heap.size+1<_;omega) _).base (Hm (bS f.out))
 exact zz (zz (f.trans ab) Sm _) Sm _
theorem zaG{fs:List Fr}{nn:Int}(he:ZE fs z C nn=0):∃(i:Nat)(q:Fr),C=(i:Int)/\fs[i]?=Xa q/\Zv fs z=0/\q.r≠0/\-q.r<=nn/\nn<=1000-q.r/\Jd fs z C nn=fs.set i (frH q nn)/\zmJ fs z C nn=z:=by
 have he0:=he;unfold ZE at he;split at he
 ·rename_i h0
  split at he
  ·rename_i h1
   simp only[inB,Bool.and_eq_true,decide_eq_true_eq,Bool.not_eq_true',beq_eq_false_iff_ne]at h1;obtain⟨⟨h2,h3⟩,h4⟩:=h1;split at he
   ·rename_i h5
    have hl:C.toNat<fs.length:=Wm;have e:fs.getD C.toNat fr0=fs[C.toNat]:=(by rw[gD,gE hl];rfl);rw[e]at h4 h5;refine⟨C.toNat,fs[C.toNat],Wm,gE hl,h0,h4,h5.1,h5.2,?_,?_⟩;·grind[Jd]
    grind[zmJ]
   cases he
  cases he
 grind
theorem zgf(a)(c:Nat)(fs:List Fr)(h k d:Int)(w:Xn)(l:zs qy w (O a fs.length c) fs)(f:ZE fs h k d=0):
  Xp prog 121 #[Xi #[O a fs.length c,I6 h],I6 k,I6 d] w fun e w'=>∃b,e=Xl (Xm #[Xi #[b,I6 h],I6 0])/\zb qy w.heap.size w' b (Jd fs h k d)/\zc w w':=by
 obtain⟨m,q,rfl,i,g,j,n,n,n,_⟩:=zaG f;rw[n];by_cases f:q.r+d=0
 ·rw[show frH q d=frF from kE f]
  exact hoF a c fs h m q d w l g i (Si j) Wm Wm f
 rw[show frH q d={q with r:=q.r+d}from kF f];exact hoG a c fs h m q d w l g i (Si j) Wm Wm (Si f)
theorem zfo(h:ChW w0 k w V m)(z:En)(n:Int)(j:z.kind=1->ZE m.fs m.aB z.n n=0):
  Xp prog 92 #[Xj (Xa ⟨k,0,Xb⟩),Xi #[I6 z.kind,I6 z.n,Xh z.wr],I6 n] w fun e w'=>(∃v,e=Xl v)/\Chg w0 k w V (Q3 m z n) w':=by
 have A:=dD h;obtain⟨l,q,-⟩:=h.at.ns;have x:Xo (z.kind=1->∀W,zc w W->Xp prog 121 #[Xi #[V.f.x,I6 m.aB],I6 z.n,I6 n] W fun e w'=>∃d:Sli,e=Xl (Xm #[Xi #[d.x,I6 m.aB],I6 0])/\zb qy W.heap.size w' (d.x) (Jd m.fs m.aB z.n n)/\zc W w'):=show _->∀W,_ from fun D W f=>by
  have p:=(h.at.aA f).fs;(try simp only[Sli.x]at p⊢);rw[l]at p⊢;refine(zgf V.f.a V.f.c m.fs m.aB z.n n W p (j D)).mono ?_;rintro e w'⟨d,rfl,a,g⟩;have i:zb qy W.heap.size w' d (Jd m.fs m.aB z.n n):=a;obtain⟨b,c,rfl,_⟩:=i.at.rows;exact⟨⟨b,_,c⟩,rfl,a,g⟩
 have X:Xo (∀W,zc w W->Xp prog 122 #[V.s.x,I6 z.n,I6 n] W fun e w'=>∃d:Sli,e=Xl (Xm #[d.x,I6 (ZB m.sl z.n n)])/\qH slE W.heap.size w' (d.x) (Z9 m.sl z.n n)/\zc W w'):=dD<|fun W f=>by
  have p:=(h.at.aA f).sl;(try simp only[Sli.x]at p⊢);rw[q]at p⊢;refine(zmI V.s.a V.s.c m.sl z.n n W p).mono ?_;rintro e w'⟨b,c,rfl,a,g⟩;exact⟨⟨b,_,c⟩,rfl,a,g⟩
 have a7:=dD h.bN;clear h l q;obtain⟨h,a⟩:=kB (w.alloc (Xk #[I6 z.kind,I6 z.n,Xh z.wr] 55));have r:=gA a;have T:=xA a;have b:=dD a;clear a;have a6:=T.c 0 rfl;go_enter func92,ntmps92;go_upto_region 1 with fail;rw[b.out];obtain⟨d,U⟩:=kA w.heap.size;rw[U.out]at T a6⊢;by_cases q:z.kind=1
 ·have D:(z.kind==1)=Xc:=Rr q
  have L:Xo (Q3 m z n={m with fs:=Jd m.fs m.aB z.n n,aB:=m.aB}):=dD<|by
   obtain⟨_,_,_,_,_,_,_,_,_,a⟩:=zaG (j q);unfold Q3;rw[kE q,a]
  have x:=dD<|x.out q;clear q;go_upto_region 3 with fail;clear a6;obtain⟨g,f⟩:=Ww fun u=>Box u d [I6 z.kind,I6 z.n,Xh z.wr];have c:=(f _).2 (T.aA (gW _));have j:zc h h.drew:=show Below _ _ _ from(bR _ _).drew;have G:=fun H:zg g=>((f _).1 H.holds).c 1 rfl;have E:Nonempty (zg g):=⟨⟨_,c⟩⟩;refine zN (I:=g) 17 [(5,fun v=>v=Xi #[V.f.x,I6 m.aB]),(9,fun v=>∃s:Sli,v=Xm #[Xi #[s.x,I6 m.aB],I6 0]),(16,fun _=>True)] (fun u=>zc h u) c j z0 Kr rfl rfl Dc (Sc ⟨_,rfl⟩ ⟨_,zQ,rfl⟩ ⟨undef,trivial⟩) Kr ?_;simp only[Xu,Xv];iterate 2 refine zj ?_
  refine zX (.tmp 12) ⟨k,0,Xb⟩ rfl rfl rfl rfl ?_;refine Uq ?_;iterate 2 refine zj ?_
  refine zC rfl rfl (fun _ u=>zc h u) (fun w' b a=>?_) (fun S l=>?_)
  ·refine zbZ 28 (.tmp 15) rfl k 0 rfl [V.f.x,I6 m.aB] ((A.box.box.aA (r.trans a)).mid 0 (fun p v i=>by
    match p,i with
    |0,i=>exact i
    |1,i=>exact i)) underlying28 rfl Kr ⟨b,rfl,a⟩
  cases l;refine Uq ?_;iterate 3 refine zj ?_
  refine zC rfl rfl (fun v u=>∃(s:Sli)(t:Xn),v=Xm #[Xi #[s.x,I6 m.aB],I6 0]/\zc h t/\zc t u/\zb qy t.heap.size u (s.x) (Jd m.fs m.aB z.n n)) (fun w' b a=>?_) (fun S l=>?_);·refine zJ.call [Xi #[V.f.x,I6 m.aB],I6 z.n,I6 n] rfl func121 rfl rfl rfl ?_;refine(x w' (r.trans a)).mono ?_;rintro e a5⟨s,rfl,a0,N⟩;exact⟨_,rfl,(f _).2 (((f _).1 b).aA N),⟨s,rfl⟩,s,w',rfl,a,N,a0⟩
  obtain⟨s,rfl⟩:=l;refine Uq ?_;iterate 3 refine zj ?_
  refine zX (.tmp 11) ⟨k,0,Xb⟩ rfl rfl rfl rfl ?_;refine Uq ?_;iterate 2 refine zj ?_
  refine zC rfl rfl (fun _ u=>Chg w0 k w V {m with fs:=Jd m.fs m.aB z.n n,aB:=m.aB} u) (fun w' b a=>?_) (fun S l=>?_)
  ·obtain⟨x,t,Q,P,W,a4⟩:=a;have F:x=s:=by
    obtain⟨a8,a9,aa⟩:=s;obtain⟨ab,ac,ad⟩:=x;simp only[Value.tuple.injEq,Array.mk.injEq,List.cons.injEq,Value.agg.injEq,vJ,and_true]at Q;obtain⟨rfl,rfl,rfl⟩:=Q;rfl
   subst F;have K:=(r.trans P).trans W;refine Zs 28 (.tmp 25) (.tmp 21) rfl k 0 rfl (Xi #[x.x,I6 m.aB]) rfl [x.x,I6 m.aB] rfl (A.box.aA K) (by simp[chL]) Kr (by simp[Value.oneCell']) ?_;intro M B i _;have Z:=a7.out k (.inl rfl);exact⟨(f _).2 (((f _).1 b).grown i (Hm U.out)),trivial,A.bF K (a4.base (nT (bS r) (bS P))) i B⟩
  clear l;try simp only[Yf]
  refine qn fun M C p=>?_;have y:Xo (Chg w0 k w V (Q3 m z n) M):=dD<|Rx L.out p;clear C p c j G E;go_wp2;exact Wq y.out
 have D:(z.kind==1)=Xd:=Si q;by_cases D:z.kind=2
 ·have Y:(z.kind==2)=Xc:=Rr D
  have L:Xo (Q3 m z n={m with sl:=Z9 m.sl z.n n}):=dD (by unfold Q3;rw[kF q,kE D]);clear q D;go_upto_region 5 with fail;clear a6;obtain⟨g,f⟩:=Ww fun u=>Box u d [I6 z.kind,I6 z.n,Xh z.wr];have c:=(f _).2 (T.aA (gW _));have j:zc h h.drew:=show Below _ _ _ from(bR _ _).drew;have G:=fun H:zg g=>((f _).1 H.holds).c 1 rfl;have E:Nonempty (zg g):=⟨⟨_,c⟩⟩;refine zN (I:=g) 17 [(5,fun v=>v=V.s.x),(9,fun v=>∃s:Sli,v=Xm #[s.x,I6 (ZB m.sl z.n n)]),(16,fun _=>True)] (fun u=>zc h u) c j z0 Kr rfl rfl Dc (Sc ⟨_,rfl⟩ ⟨_,zQ,rfl⟩ ⟨undef,trivial⟩) Kr ?_;simp only[Xu,Xv];iterate 2 refine zj ?_
  refine zX (.tmp 30) ⟨k,0,Xb⟩ rfl rfl rfl rfl ?_;refine Uq ?_;iterate 2 refine zj ?_
  refine zC rfl rfl (fun _ u=>zc h u) (fun w' b a=>?_) (fun S l=>?_);·exact zln 30 (.tmp 33) rfl k 2 rfl (V.s.x) ((A.box.box.aA (r.trans a)).c 2 rfl) underlying30 rfl ⟨b,rfl,a⟩
  cases l;refine Uq ?_;iterate 3 refine zj ?_
  refine zC rfl rfl (fun v u=>∃(s:Sli)(t:Xn),v=Xm #[s.x,I6 (ZB m.sl z.n n)]/\zc h t/\zc t u/\qH slE t.heap.size u (s.x) (Z9 m.sl z.n n)) (fun w' b a=>?_) (fun S l=>?_);·refine zJ.call [V.s.x,I6 z.n,I6 n] rfl func122 rfl rfl rfl ?_;refine(X w' (r.trans a)).mono ?_;rintro e a5⟨s,rfl,a0,N⟩;exact⟨_,rfl,(f _).2 (((f _).1 b).aA N),⟨s,rfl⟩,s,w',rfl,a,N,a0⟩
  obtain⟨s,rfl⟩:=l;refine Uq ?_;iterate 3 refine zj ?_
  refine zX (.tmp 29) ⟨k,0,Xb⟩ rfl rfl rfl rfl ?_;refine Uq ?_;iterate 2 refine zj ?_
  refine zC rfl rfl (fun _ u=>Chg w0 k w V {m with sl:=Z9 m.sl z.n n} u) (fun w' b a=>?_) (fun S l=>?_)
  ·obtain⟨x,t,Q,P,W,a4⟩:=a;have F:x=s:=by
    obtain⟨a8,a9,aa⟩:=s;obtain⟨ab,ac,ad⟩:=x;simp only[Value.tuple.injEq,Array.mk.injEq,List.cons.injEq,vJ,and_true]at Q;obtain⟨rfl,rfl,rfl⟩:=Q;rfl
   subst F;have K:=(r.trans P).trans W;refine Zs 30 (.tmp 43) (.tmp 39) rfl k 2 rfl (x.x) rfl [x.x] rfl (A.box.aA K) (by simp[chL]) Kr (by simp[Value.oneCell']) ?_;intro M B i _;have Z:=a7.out k (.inl rfl);exact⟨(f _).2 (((f _).1 b).grown i (Hm U.out)),trivial,A.cC K (a4.base (nT (bS r) (bS P))) i B⟩
  clear l;try simp only[Yf]
  refine qn fun M C p=>?_;have y:Xo (Chg w0 k w V (Q3 m z n) M):=dD<|Rx L.out p;clear C p c j G E;go_wp2;exact Wq y.out
 have Y:(z.kind==2)=Xd:=Si D;have L:Xo (Q3 m z n=m):=dD<|by unfold Q3;rw[kF q,kF D]
 clear q D;have y:Xo (Chg w0 k w V (Q3 m z n) h):=dD<|Rx L.out (Chg.refl A r.out);go_wp2;exact Wq y.out
def zeT(w0:Xn)(p:Nat)(w:Xn)(V:MaV)(m':Ma)(w':Xn):Prop:=∃V':MaV,V'.ca=V.ca/\ChW w0 p w' V' m'/\qA (Dw p V) w w'/\∀k,Dw p V' k->Dw p V k\/w.heap.size<=k
section
variable{w0 w w1 w2:Xn}{p:Nat}{V V':MaV}{m m':Ma}
theorem zeT.chg(h:zeT w0 p w V m' w1):Chg w0 p w V m' w1:=by obtain⟨a,_,h⟩:=h;exact⟨a,h⟩
theorem zeT.refl(h:ChW w0 p w V m)(g:zc w w1):zeT w0 p w V m w1:=⟨V,rfl,h.aA g,qA.aA g,fun _ a=>.inl a⟩
theorem zeT.aH(g:zc w w1)(h:zeT w0 p w1 V m' w2):zeT w0 p w V m' w2:=by obtain⟨a,e,b,d,c⟩:=h;exact⟨a,e,b,(qA.aA g).trans d,Chg.far g c⟩
theorem zeT.step{b:MaV}(a:qA (Dw p V) w w1)(c:∀k,Dw p b k->Dw p V k\/w.heap.size<=k)(g:b.ca=V.ca)(h:zeT w0 p w1 b m' w2):zeT w0 p w V m' w2:=by
 obtain⟨c,e,d,b,f⟩:=h;refine⟨c,e.trans g,d,⟨b.os.trans a.os,b.tape.trans a.tape,b.output.trans a.output,nT a.size b.size,fun c d g=>(b.block c (Ya d a.size) (fun e=>?_)).trans (a.block c d g)⟩,fun k b=>?_⟩;·grind
 rcases f k b with e|e;·grind
 exact .inr (nT a.size e)
theorem ChW.fieldC(h:ChW w0 p w V m)(k:zc w w1)(c:w1.grownBy w2 (Xa p))(f:V'.f=V.f)(l:V'.ca=V.ca)(q:V'.sp=V.sp)(g:m'.fs=m.fs)(u:m'.ca=m.ca)(r:m'.sp=m.sp)(a:zt w2 p 102 (chL V' m'))(rs:∀W,qA (Dr w0.heap.size p V) w W->qA (Dr w0.heap.size p V) w1 W->znR W V m->znR W V' m'):zeT w0 p w V m' w2:=by
 have j:qA (Dw p V) w w2:=(qA.aA k).trans (qA.grown c (.inl rfl));have e:Dw p V'=Dw p V:=by unfold Dw;rw[f,l,q]
 have d:Dr w0.heap.size p V'=Dr w0.heap.size p V:=by unfold Dr;rw[e]
 obtain⟨i,x,b,y⟩:=h.sp;refine⟨V',l,⟨h.bV j,h.lo,a,?_,?_,⟨i,?_,Rx r b,fun t z v s i W b=>?_⟩,fun W b=>?_⟩,j,fun n a=>.inl (by rw[e]at a;exact a)⟩;·rw[f,g];exact(h.fs.aA k).grown c (fun g f e=>h.nf g f (by cases e;rfl))
 ·rw[l,u];exact(h.ca.aA k).grown c (fun g f e=>h.nc g f (by cases e;rfl))
 ·rw[q];exact(x.aA k).grown c (fun g f e=>h.ns g f (by cases e;rfl))
 ·rw[d]at b;rw[r]at i;exact y t z v s i W ((j.wide fun n a=>.inr a).trans b)
 rw[d]at b;exact rs W ((j.wide fun n a=>.inr a).trans b) (((qA.grown c (.inr (.inl rfl)))).trans b) (h.rest W ((j.wide fun n a=>.inr a).trans b))
end
end
section
theorem Qg(d:k<m.fs.length)(a:zaQ m Xb m.ca=0)(b:zL m.ca k≠0->Y.p=(zZ m k).p)(file idx:Int):zU {m with fs:=m.fs.set k Y} file idx=zU m file idx:=by obtain⟨b,_,_⟩:=zo.1 a;refine zhV (m:=m) (m':={m with fs:=m.fs.set k Y}) rfl rfl rfl rfl (fun c a=>?_) file idx;rw[qF d c.fr (jR (b c a)).1.2.2.2.2.1];grind[Qi]
theorem zbv{x:On}(c:k<m.fs.length)(a:zaQ m Xb m.ca=0)(b:zL m.ca k≠0->Y.p=(zZ m k).p)(d:Z.kind=1->0<=Z.n)(f:Z.kind=1->Z.n=(k:Int)->Y.p=(zZ m k).p/\(Y.f<0↔(zZ m k).f<0)):ZC {m with fs:=m.fs.set k Y} x Z=ZC m x Z:=by refine zc1 rfl rfl (fun d=>?_) (fun _=>rfl) (fun _=>rfl) (Qg c a b);grind[qF]
section
variable{m:Ma}{T:List (Nat->En)}
theorem zod(h:qq m T){fr:Fr}(q:m.fs[j]?=Xa Y)(c:Y.r=0)(e:T[k]?=Xa u)(f:b<64):ZC {m with fs:=m.fs.set j fr} (zl s.aC b) (u b)=ZC m (zl s.aC b) (u b):=by
 obtain⟨l,i⟩:=h.free q c;refine zbv (gS.1 q).1 h.ca (fun h=>absurd i h) (fun d=>?_) (fun d n=>?_);·have:=(q7 (h.en e f)).2.1;omega
 grind[Q4]
theorem zjA{x:On}(h:qq m T)(a:m.fs[k]?=Xa Y)(b:Z.kind=1->0<=Z.n):ZC {m with fs:=m.fs.set k {Y with r:=z}} x Z=ZC m x Z:=by refine zbv (gS.1 a).1 h.ca (fun _=>by rw[zH a]) b (fun _ _=>by rw[zH a];exact⟨rfl,Iff.rfl⟩)
theorem zmc(h:qq m T)(n:m.fs[k]?=Xa Y)(w:T[b]?=Xa u)(y:p<64)(x:(u p).kind=1)(e:(u p).n=(k:Int)){q:Nat}{g:Nat->En}(i:T[q]?=Xa g)(t:j<64)(fr:q≠b\/j≠p):ZC {m with fs:=m.fs.set k (JF Y)} (zl s.aC j) (g j)=ZC m (zl s.aC j) (g j):=by
 have d:=h.cf k Y n;have c:1<=qh T 1 k:=by grind[Q4]
 have l:Y.r≠1->JF Y={Y with r:=Y.r-1}:=fun h=>by unfold JF;rw[kF h]
 refine zbv (gS.1 n).1 h.ca (fun a=>?_) (fun a=>?_) (fun a v=>?_);·grind[zH]
 ·have:=(q7 (h.en i t)).2.1;omega
 grind[zda,isE,zH]
theorem zfq(h:qq m T){n:Nat}(a:m.fs[k]?=Xa Y)(g:T[p]?=Xa u)(j:n<64)(i:(u n).kind=1)(d:(u n).n=(k:Int))(file idx:Int):zU {m with fs:=m.fs.set k (JF Y)} file idx=zU m file idx:=by
 have c:=h.cf k Y a;have b:1<=qh T 1 k:=by grind[Q4]
 refine Qg (gS.1 a).1 h.ca (fun e=>?_) file idx;grind[JF,zH]
theorem znt(h:qq m T){fr:Fr}(b:m.fs[j]?=Xa Y)(c:Y.r=0)(file idx:Int):zU {m with fs:=m.fs.set j fr} file idx=zU m file idx:=Qg (gS.1 b).1 h.ca (fun d=>absurd (h.free b c).2 d) file idx
end
structure Rt(m:Ma):Prop where
 w:maW m=0
 t8:∀s∈m.sp,s.tb.length=8
theorem Rt.inv(h:Rt m):qq m (Zm m):=(zaa h.w).1
theorem Rt.aB(h:Rt m):0<=m.aB/\m.aB<max (m.fs.length:Int) 1:=(zaa h.w).2
theorem Rt.tb(h:Rt m)(c:s∈m.sp):Qj s.tb:=by refine⟨h.t8 s c,Zo.1 ?_⟩;have a:=h.w;unfold maW at a;rw[zk]at a;have b:Jy m=0:=a _ Sm;unfold Jy at b;rw[zk]at b;have a:=zk.1 (b (zF (m.sp.map spE)) Sm) (spE s) (Yg.2 ⟨s,c,rfl⟩);grind[spE]
theorem Rt.of(c:qq m (Zm m))(ht:∀s∈m.sp,Qj s.tb)(a:0<=m.aB)(b:m.aB<max (m.fs.length:Int) 1):Rt m:=by refine⟨?_,fun s d=>(ht s d).1⟩;have:=c.right a b;grind[zj1]
theorem qz(h:m.sp[k]?=Xa s):(Zm m)[k]?=Xa (zh s):=by unfold Zm;rw[Yc,h];rfl
theorem qq.tabs(h:qq m T){sp':List Sp}(d:sp'.length=m.sp.length)(b:∀(p:Nat)s a,m.sp[p]?=Xa s->sp'[p]?=Xa a->a.aF=s.aF/\a.aC=s.aC):qq {m with sp:=sp'} T:=by
 have b:∀(p:Nat)a,sp'[p]?=Xa a->∃s,m.sp[p]?=Xa s/\a.aF=s.aF/\a.aC=s.aC:=fun p a c=>by grind
 refine⟨h.aL,h.bC,h.aU,h.bG,h.sq,h.bK,h.st,h.cnt,h.bH,h.aX,by show sp'.length<=4;rw[d];exact h.aI,fun a c=>?_,h.tl.trans d.symm,?_,fun p a k c l r q=>?_,h.cf,h.cs⟩;·obtain⟨p,f⟩:=Yd c;obtain⟨s,d,g,e⟩:=b p a f;rw[g,e];exact h.aT s (mG d)
 ·obtain⟨i,f,j⟩:=zo.1 h.ca;exact zo.2 ⟨fun f n=>i f n,fun i f f=>(by cases f),j⟩
 obtain⟨s,d,g,e⟩:=b p a c;rw[e];exact h.aN p s k d l r q
def JP(m:Ma)(p n:Nat)(e:En):Ma:={m with sp:=m.sp.modify p fun s=>{s with tb:=zkv s.tb n e}}
theorem ze5:(JP m k b Z).sp[p]?=(m.sp[p]?).map fun s=>if k=p then{s with tb:=zkv s.tb b Z}else s:=by
 unfold JP;simp only[List.getElem?_modify];by_cases h:k=p;·simp[h]
 simp[h]
theorem zc4(ht:Qj s.tb)(b:k<64)(a:enW Z=0):zh {s with tb:=zkv s.tb k Z}=q6 (zh s) k Z:=by grind[zh,q6,zoQ,Nat.mod_lt]
theorem zm2(p:m.sp[k]?=Xa s)(ht:Qj s.tb)(d:b<64)(c:enW Z=0):Zm (JP m k b Z)=(Zm m).set k (q6 (zh s) b Z):=by
 apply Xw;intro q;have a:=(gS.1 p).1;unfold Zm;rw[Yc,ze5,Ob,Yk];by_cases h:k=q;·subst h;rw[p,kE rfl,kE a];simp only[Option.map_some,kE,zc4 ht d c]
 grind
theorem zcc:(JP m k b Z).sp.length=m.sp.length:=by simp[JP]
theorem zdD{q:Sp}(c:m.sp[p]?=Xa s)(a:(JP m k b Z).sp[p]?=Xa q):q.aF=s.aF/\q.aC=s.aC:=by rw[ze5,c]at a;simp only[Option.map_some,Option.some.injEq]at a;subst a;split<;>exact⟨rfl,rfl⟩
theorem zc3(ht:∀s∈m.sp,Qj s.tb)(c:enW Z=0):∀s∈(JP m k p Z).sp,Qj s.tb:=fun s d=>by
 obtain⟨q,a⟩:=Yd d;rw[ze5]at a;cases h:m.sp[q]? with
 |none=>rw[h]at a;cases a
 |some x=>
  rw[h]at a;simp only[Option.map_some,Option.some.injEq]at a;have b:=ht x (mG h);subst a;split;·exact zpS b c
  exact b
theorem zdC(c:m.sp[k]?=Xa s)(ht:∀s∈m.sp,Qj s.tb)(h:b<64)(p:enW Z=0)(g:qq m ((Zm m).set k (q6 (zh s) b Z)))(a:0<=m.aB/\m.aB<max (m.fs.length:Int) 1):Rt (JP m k b Z):=by refine Rt.of ?_ (zc3 ht p) a.1 a.2;rw[zm2 c (ht s (mG c)) h p];exact g.tabs zcc fun q s i d f=>zdD d f
structure Sam(S:Nat->Nat->Prop)(m m':Ma):Prop where
 aI:m'.sp.length=m.sp.length
 sp:∀(q:Nat)s s',m.sp[q]?=Xa s->m'.sp[q]?=Xa s'->s'.aF=s.aF/\s'.aC=s.aC
 see:∀(q n:Nat)s s',m.sp[q]?=Xa s->m'.sp[q]?=Xa s'->n<64->¬S q n->ZC m' (zl s.aC n) (zh s' n)=ZC m (zl s.aC n) (zh s n)
 fll:m'.fl.length=m.fl.length
 sz:∀f,QJ m' f=QJ m f
 bk:∀f,bkN m' f=bkN m f
 byt:∀(file k:Nat),(k:Int)<QJ m (file:Int)->(zU m' (file:Int) ((k/8:Nat):Int)).getD (k%8) 0=(zU m (file:Int) ((k/8:Nat):Int)).getD (k%8) 0
theorem Sam.refl(S:Nat->Nat->Prop)(m):Sam S m m:=⟨rfl,fun q s b h a=>by rw[h]at a;cases a;exact⟨rfl,rfl⟩,fun q n s b h a _ _=>by rw[h]at a;cases a;rfl,rfl,fun _=>rfl,fun _=>rfl,fun _ _ _=>rfl⟩
theorem Sam.trans{S d:Nat->Nat->Prop}{a b c:Ma}(h:Sam S a b)(k:Sam d b c):Sam (fun q n=>S q n\/d q n) a c:=by
 have g:∀(q:Nat)s,a.sp[q]?=Xa s->∃t,b.sp[q]?=Xa t:=fun q s e=>⟨_,gE (by rw[h.aI];exact(gS.1 e).1)⟩;refine⟨k.aI.trans h.aI,fun q s j e f=>?_,fun q n s j e f p m=>?_,k.fll.trans h.fll,fun d=>(k.sz d).trans (h.sz d),fun d=>(k.bk d).trans (h.bk d),fun d l i=>(k.byt d l (by rw[h.sz];exact i)).trans (h.byt d l i)⟩
 ·obtain⟨t,d⟩:=g q s e;have l:=h.sp q s t e d;have i:=k.sp q t j d f;grind
 obtain⟨t,d⟩:=g q s e;have l:=h.sp q s t e d;have i:=k.see q n t j d f p (fun f=>m (.inr f));rw[l.2]at i;exact i.trans (h.see q n s t e d p (fun f=>m (.inl f)))
theorem Sam.mono{S c:Nat->Nat->Prop}{a b:Ma}(h:Sam S a b)(hS:∀q n,S q n->c q n):Sam c a b:=⟨h.aI,h.sp,fun q n s g f d e c=>h.see q n s g f d e (fun e=>c (hS q n e)),h.fll,h.sz,h.bk,h.byt⟩
theorem Sam.put(c:m1.sp=m.sp)(b:m1.fl=m.fl)(ht:∀s∈m.sp,Qj s.tb)(t:k<64)(r:enW Z=0)(h:∀(q j:Nat)s,m.sp[q]?=Xa s->j<64->(q≠p\/j≠k)->ZC m1 (zl s.aC j) (zh s j)=ZC m (zl s.aC j) (zh s j))(l:∀file idx,zU m1 file idx=zU m file idx):Sam (fun q j=>q=p/\j=k) m (JP m1 p k Z):=by
 refine⟨by rw[zcc,c],fun q s i d a=>zdD (Rx c d) a,fun q j s i d a v u=>?_,by show m1.fl.length=_;rw[b],fun f=>by show QJ m1 f=_;unfold QJ;rw[b],fun f=>by show bkN m1 f=_;unfold bkN;rw[b],fun file w _=>?_⟩
 ·rw[ze5,c,d]at a;simp only[Option.map_some,Option.some.injEq]at a;have g:zh i j=zh s j:=by
   subst a;split
   ·rename_i n
    subst n;rw[zc4 (ht s (mG d)) t r];grind[q6]
   rfl
  rw[g];show ZC m1 _ _=_;grind
 show(zU m1 _ _).getD _ _=_;rw[l]
def Jl(m:Ma)(p n:Nat):Ma:=
 let e:=zh (m.sp.getD p ⟨Xd,[],[]⟩) n
 if e.kind=1 then JP {m with fs:=m.fs.set e.n.toNat (JF (zZ m e.n))} p n en0
 else if e.kind=2 then JP {m with sl:=m.sl.set e.n.toNat (m.sl.getD e.n.toNat 0-1)} p n en0
 else JP m p n en0
section
variable{m:Ma}{p n:Nat}{s:Sp}
theorem Rt.aN(h:Rt m)(a:m.sp[p]?=Xa s)(b:n<64):zh s n=en0\/QI m (zl s.aC n) (zh s n):=h.inv.aN p s _ a (qz a) n b
theorem Rt.aO(h:Rt m)(c:m.sp[p]?=Xa s)(b:n<64)(a:(zh s n).kind=1):∃(k:Nat)(fr:Fr),(zh s n).n=(k:Int)/\m.fs[k]?=Xa fr/\zZ m (zh s n).n=fr/\fr.r≠0:=by
 rcases h.aN c b with e|e;·rw[e]at a;cases a
 obtain⟨d,d,d,_⟩:=zT e Wm;refine⟨(zh s n).n.toNat,m.fs[(zh s n).n.toNat]' Wm,Wm,gE _,?_,fun d=>?_⟩
 ·have:=zH (m:=m) (k:=(zh s n).n.toNat) (gE Wm)
  grind
 have e:=(h.inv.free (gE (show(zh s n).n.toNat<m.fs.length by omega)) d).1;have d:=Q4 (qz c) b a;grind
theorem Rt.cD(h:Rt m)(f:m.sp[p]?=Xa s)(d:n<64)(b:(zh s n).kind=2):∃(k:Nat)(z:Int),(zh s n).n=(k:Int)/\m.sl[k]?=Xa z/\m.sl.getD (zh s n).n.toNat 0=z/\0<z/\(zl s.aC n).is=Xc/\(zl s.aC n).sh=Xd/\k<m.sb.length:=by
 rcases h.aN f d with e|e;·rw[e]at b;cases b
 obtain⟨g,q,a⟩:=e;unfold zaK at a;split at a;·cases a
 rename_i i
 split at a;·cases a
 rename_i r
 have l:=(q7 g).2.1.1;have j:(zh s n).n<(m.sl.length:Int):=by grind
 have c:(zh s n).n.toNat<m.sl.length:=Wm;refine⟨(zh s n).n.toNat,m.sl[(zh s n).n.toNat],Wm,gE c,?_,?_,?_,?_,?_⟩;·grind
 ·rw[h.inv.cs _ _ (gE c)];have:=zaF (qz f) d (kind:=2) (k:=(((zh s n).n.toNat:Nat):Int)) (by simp[isE,b];omega) Dc;omega
 ·grind
 ·grind
 have:=h.inv.bG;omega
theorem zqr(h:Rt m)(b:m.sp[p]?=Xa s)(a:n<64):Rt (Jl m p n)/\Sam (fun q j=>q=p/\j=n) m (Jl m p n):=by
 have C:m.sp.getD p ⟨Xd,[],[]⟩=s:=by rw[gD,b];rfl
 have k:∀s∈m.sp,Qj s.tb:=fun s b=>h.tb b;unfold Jl;simp only[C];by_cases i:(zh s n).kind=1;·rw[kE i];obtain⟨r,y,d,l,v,B⟩:=h.aO b a i;rw[v,d,tN];have w:=h.inv.drop l (qz b) a i d;refine⟨zdC (m:={m with fs:=m.fs.set r (JF y)}) b k a Jk w (Si h.aB),Sam.put (m1:={m with fs:=m.fs.set r (JF y)}) rfl rfl k a Jk (fun q j z f x e=>zmc h.inv l (qz b) a i d (qz f) x e) (fun c g=>zfq h.inv l (qz b) a i d c g)⟩
 rw[kF i];by_cases u:(zh s n).kind=2;·rw[kE u];obtain⟨r,A,d,l,v,B,E,F,G⟩:=h.cD b a u;rw[v,d,tN];have w:=h.inv.dropS l (qz b) a u d;exact⟨zdC (m:={m with sl:=m.sl.set r (A-1)}) b k a Jk w h.aB,Sam.put (m1:={m with sl:=m.sl.set r (A-1)}) rfl rfl k a Jk (fun q j z f x e=>rfl) (fun c g=>rfl)⟩
 rw[kF u];have D:zh s n=en0:=by
  rcases h.aN b a with t|t;·exact t
  have:=(q7 t.1).1;have:=t.2.1;omega
 refine⟨zdC b k a Jk ?_ h.aB,Sam.put rfl rfl k a Jk (fun q j z f x e=>rfl) (fun c g=>rfl)⟩;have:q6 (zh s) n en0=zh s:=by grind[q6]
 rw[this];have:(Zm m).set p (zh s)=Zm m:=by
  apply Xw;intro q;rw[Ob];split;·grind[gS.1,qz]
  rfl
 rw[this];exact h.inv
end
section
variable{m:Ma}{T:List (Nat->En)}
theorem qq.joinAs(h:qq m T){q n f:Nat}{g:Nat->En}(E:m.fs[f]?=Xa Y)(hp:T[k]?=Xa u)(hi:p<64)(F:u p=Z)(z:T[q]?=Xa g)(af:n<64)(ab:g n=en0)(ag:m.sp[q]?=Xa s)
  (ad:QI m (zl s.aC n) Z)(l:Z.kind=1)(t:Z.n=(f:Int))(a4:Z.wr=Xc->Y.f≠-1):
  qq {m with fs:=m.fs.set f {Y with r:=Y.r+1}} (T.set q (q6 g n Z)):=by
 have I:=(gS.1 E).1;have G:=(gS.1 z).1;have K:=h.bC Y (mG E);have Q:1<=qh T 1 f:=by grind[Q4]
 have fr:=h.cf f Y E;have v:∀kind j:Int,qh (T.set q (q6 g n Z)) kind j+(isE en0 kind j).toNat=qh T kind j+(isE Z kind j).toNat:=fun kind j=>by grind[Zp]
 refine⟨by simpa using h.aL,fun x L=>?_,h.aU,h.bG,h.sq,h.bK,h.st,h.cnt,h.bH,h.aX,h.aI,h.aT,by simpa using h.tl,?_,?_,fun j x b=>?_,fun j a8 b=>?_⟩
 ·rcases Yh L with L|rfl
  ·exact h.bC x L
  obtain⟨B,C,D,N,U⟩:=K;exact⟨by simp only;omega,C,D,fun h=>by simp only at h;omega,U⟩
 ·obtain⟨a9,aa,R⟩:=zo.1 h.ca;refine zo.2 ⟨fun S ac=>?_,fun q S z=>(by cases z),R⟩;grind[jR,qF,zH,zaW,bkN]
 ·have w:∀(x:On)(a:En),QI m x a->(a.kind≠2->a.n=(f:Int)->a.wr=Xc->Y.f≠-1)->QI {m with fs:=m.fs.set f {Y with r:=Y.r+1}} x a:=fun x a d ae=>by
   refine⟨d.1,d.2.1,jJ d.2.2 rfl Sm fun c=>?_⟩;obtain⟨B,C,D,N⟩:=zT d c;grind[qF,zH]
  refine zas G rfl z (fun M a7 X H e j b a0=>?_) (fun ai a5=>?_)
  ·rcases h.aN M a7 X H e j b with a|a
   ·exact .inl a
   refine .inr (w _ _ a fun c a6 ah=>?_);obtain⟨B,C,D,N⟩:=zT a c;by_cases y:M=k/\j=p;·grind
   intro i;have d:=zda hp hi (kind:=1) (k:=(f:Int)) (by rw[F];simp[isE,l,t]) e b (by simp[isE,B,a6]) (by
    by_cases P:k=M;·right;intro V;exact y ⟨P.symm,V.symm⟩
    exact .inl P) Dc
   grind[zH]
  grind
 ·simp only at b⊢;have A:=v 1 j;rw[qx 1 j Dc]at A;by_cases W:j=f;·grind[sF,isE]
  rw[sN (fun h=>W h.symm)]at b;rw[ZV (by rw[t];omega)]at A;have:=h.cf j x b;grind
 simp only at b⊢;have A:=v 2 j;rw[qx 2 j Dc,QW (by rw[l];decide)]at A;have:=h.cs j a8 b;grind
end
def jV(m:Ma)(k p n:Nat):Ma:=JP {m with fs:=m.fs.set k {zZ m (k:Int)with r:=(zZ m (k:Int)).r+1}} p n ⟨1,(k:Int),Xd⟩
theorem zcE(h:qq m (Zm m))(a:k<m.fs.length)(w:Bool):enW ⟨1,(k:Int),w⟩=0:=
 Jj Sm ⟨Sm,by simp only;have:=h.aL;omega,fun _=>by simp only;have:=h.aL;omega⟩ Sm
section
variable{m:Ma}{k p n:Nat}{fr:Fr}{s:Sp}
theorem zhW(h:Rt m)(a:m.fs[k]?=Xa fr)(b:Int)(file idx:Int):zU {m with fs:=m.fs.set k {fr with r:=b}} file idx=zU m file idx:=
 Qg (gS.1 a).1 h.inv.ca (fun _=>by rw[zH a]) file idx
theorem Rt.kind0(h:Rt m)(c:m.sp[p]?=Xa s)(b:n<64)(a:(zh s n).kind=1):0<=(zh s n).n:=by obtain⟨k,_,e,_⟩:=h.aO c b a;omega
theorem zhr(h:Rt m)(a:m.fs[k]?=Xa fr)(c:0<=fr.f)(b:m.sp[p]?=Xa s)(e:n<64)(x:zh s n=en0)
  (A:(zl s.aC n).is=Xc)(g:(zl s.aC n).file=fr.f)(i:(zl s.aC n).page=fr.x):
  Rt (jV m k p n)/\Sam (fun q j=>q=p/\j=n) m (jV m k p n):=by have u:∀s∈m.sp,Qj s.tb:=fun s b=>h.tb b;have d:=(gS.1 a).1;have t:=zcE h.inv d Xd;unfold jV;rw[zH a];have y:=h.inv.hold (w:=false) a c b (qz b) e x A g i (fun v=>by cases v);refine⟨zdC (m:={m with fs:=m.fs.set k {fr with r:=fr.r+1}}) b u e t y (Si h.aB),Sam.put (m1:={m with fs:=m.fs.set k {fr with r:=fr.r+1}}) rfl rfl u e t (fun q j B f z _=>zjA h.inv a (h.kind0 f z)) (fun file l=>zhW h a _ file l)⟩
theorem zmF(h:Rt m)(c:m.fs[k]?=Xa fr)(A:fr.f=-1){q i:Nat}{t:Sp}(C:m.sp[q]?=Xa t)(hi:i<64)(l:zh t i=⟨1,(k:Int),Xd⟩)(d:m.sp[p]?=Xa s)(g:n<64)(y:zh s n=en0)
  (E:(zl s.aC n).is=Xc)(D:(zl s.aC n).sh=Xd):
  Rt (jV m k p n)/\Sam (fun q j=>q=p/\j=n) m (jV m k p n):=by
 have w:∀s∈m.sp,Qj s.tb:=fun s d=>h.tb d;have f:=(gS.1 c).1;have e:=zcE h.inv f Xd;unfold jV;rw[zH c];have b:QI m (zl s.aC n) ⟨1,(k:Int),Xd⟩:=by
  refine⟨e,Sm,?_⟩;grind[zaK,zH]
 have z:=h.inv.joinAs c (qz C) hi l (qz d) g y d b rfl rfl (fun x=>by cases x);refine⟨zdC (m:={m with fs:=m.fs.set k {fr with r:=fr.r+1}}) d w g e z (Si h.aB),Sam.put (m1:={m with fs:=m.fs.set k {fr with r:=fr.r+1}}) rfl rfl w g e (fun q j F u B _=>zjA h.inv c (h.kind0 u B)) (fun a v=>zhW h c _ a v)⟩
theorem zp2(h:Rt m)(c:m.fs[k]?=Xa fr)(f:fr.r=0)(pg:Pg)(u:Bool)(b:m.sp[p]?=Xa s)(e:n<64)(x:zh s n=en0)
  (A:(zl s.aC n).is=Xc)(i:(zl s.aC n).sh=Xd):
  Rt (JP {m with fs:=m.fs.set k ⟨pg,1,u,Xd,-1,0⟩} p n ⟨1,(k:Int),Xd⟩)/\Sam (fun q j=>q=p/\j=n) m (JP {m with fs:=m.fs.set k ⟨pg,1,u,Xd,-1,0⟩} p n ⟨1,(k:Int),Xd⟩):=by have t:∀s∈m.sp,Qj s.tb:=fun s b=>h.tb b;have d:=(gS.1 c).1;have r:=zcE h.inv d Xd;have y:=h.inv.mine (pg:=pg) (u:=u) (w:=false) c f b (qz b) e x A i (fun v=>by cases v);refine⟨zdC (m:={m with fs:=m.fs.set k ⟨pg,1,u,Xd,-1,0⟩}) b t e r y (Si h.aB),Sam.put (m1:={m with fs:=m.fs.set k ⟨pg,1,u,Xd,-1,0⟩}) rfl rfl t e r (fun q j B g z _=>zod h.inv c f (qz g) z) (fun a l=>znt h.inv c f a l)⟩
theorem zaf(ht:∀s∈m1.sp,Qj s.tb)(c:m1.sp[p]?=Xa s)(f:n<64)(d:enW Z=0){b:Sp}(a:(JP m1 p n Z).sp[p]?=Xa b):zh b n=Z/\b.aC=s.aC:=by rw[ze5,c]at a;simp only[Option.map_some,Option.some.injEq,if_true]at a;subst a;rw[zc4 (ht s (mG c)) f d];grind[q6]
end
end
end Go.Proofs.YtkfjajbalegoeaaGreat
