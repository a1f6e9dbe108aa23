import Derived.Test.YtkfjajbalegoeaaGreatFP1
import Derived.Deep.DeepCutAuto
namespace Go.Proofs.YtkfjajbalegoeaaGreat
open Go.Value renaming slice→O,int→Xe,bool→Xh,agg→Xi,pointer→Xj,tuple→Xm
open Go.IntKind renaming i64→Xf,u8→Xg
open Go.Obj renaming cells→Xk
open Go.Ending renaming returned→Xl
open Go renaming World→Xn,Calls→Xp,Value→Xq
open Go.RowKit renaming Hid→Xo
open Option renaming some→Xa,none→Xb
open Bool renaming true→Xc,false→Xd
open List renaming replicate→Xr
open Go.Sem renaming run_bind→Xs,run_pure→Xx
open _root_.List renaming length_set→Xt,take→Xv,drop→Xw,flatMap_append→Xy,take_of_length_le→Xz,countP_le_length→Ya,map_nil→Yb,ext_getElem?→Yd,mem_map→Ye,map_toArray→Yf,mem_range→Yh,take_zero→Yi,mem_or_eq_of_mem_set→Yj,length→Yk,getElem?_map→Yl,length_cons→Ym,any_eq_true→Yn,length_map→Yq,length_filter_le→Yr,contains_iff_mem→Ys,getElem?_of_mem→Yu,mem_map_of_mem→Yw,pairwise_cons→Yx,range→Yz,flatMap_cons→Oa
open _root_.Nat renaming lt_of_lt_of_le→Xu,mul_le_mul_right→Yg,le_of_ble_eq_true→Yt,add_mul→Oc
open Go.Act renaming put→Yc
open Go.Addr renaming add_lit→Yo
open _root_.Bool renaming eq_iff_iff→Yp
open _root_.Array renaming toList_modify→Yv,forIn_toList→Yy,toList_push→Ob
set_option maxRecDepth 100000
set_option maxHeartbeats 4000000
variable{α:Type}{a:Act}{U:Array Xq}{E:Elt α}{Z:En}{Y:Fr}{z:Int}{S:Int×Int}{X:Int×Int->Option Int}{G:List (List En)}{r:List (List Int)}{M:List Fl}{R:List Fr}{L:List Int}{K:List Oper}{D:List Xq}{y:List α}{b k p:Nat}{d:Nat->En}{s:Sp}{t:TypeId}{w:Xn}{A:Xq}{N:Xq->Xn->Prop}
variable{B B0 B1 b cl fi hi ix j:Nat}{L:List Int}{Q:Exit->Act->Xn->Prop}{T:List (Nat->En)}{V:MaV}{W w' w0:Xn}{hd z:Int}{l:List Ar}{m m':Ma}{o:Oper}{ops:Array Oper}{t:TypeId}{us vs xs:List Xq}{vl vt:Sli}
open Go.Proofs.Tryz
section
open Go.RowKit
def zsD(w0:Xn)(hi b:Nat)(w:Xn)(L:List Int)(V:MaV)(m:Ma)(vt:Sli)(T:List (Nat->En))(fi ix j:Nat)(w':Xn):Prop:=∃(q:Fr)(p:Pg)(u d:Bool)(s:Sli),m.fs[j]?=Xa q/\q.r=0/\(∀c∈m.ca,¬(c.file=(fi:Int)/\c.idx=(ix:Int)))/\MkE w0 hi b w L {V with ca:=s} {m with fs:=m.fs.set j ⟨p,1,u,d,fi,ix⟩,ca:=Z7 m.ca ⟨fi,ix,j⟩} vt T w'
def zrq(m:Ma)(fi ix:Nat)(q:List Int)(d:Bool):Prop:=Z8 q (ix:Int) (JC m (fi:Int))=q/\(d=Xd->Qr m (fi:Int) (ix:Int)=q)
def zoA(q:List Int)(ix:Nat)(size:Int)(i:Nat):Prop:=∀j,j<i->size<=8*(ix:Int)+(j:Int)->q[j]?=Xa 0
theorem zoA.set{a:Int}(h:zoA L ix a k)(hi:k<L.length):zoA (L.set k 0) ix a (k+1):=fun j a a=>by
 by_cases e:j=k;·grind
 rw[sN (fun h=>e h.symm)];exact h j Wm a
theorem zoA.next(h:zoA L ix z k)(d:¬z<=8*(ix:Int)+(k:Int)):zoA L ix z (k+1):=fun j c b=>by
 by_cases e:j=k;·grind
 exact h j Wm b
theorem zoA.all{a:Int}(h:zoA L ix a 8)(b:L.length=8):Z8 L (ix:Int) a=L:=by
 unfold Z8;refine Yd fun i=>?_;rw[List.getElem?_mapIdx];cases a:L[i]? with
 |none=>rfl
 |some z=>
  have b:=(gS.1 a).1;simp only[Option.map_some,Option.some.injEq];split
  ·rename_i b
   have:=h i Wm b;rw[a]at this;exact(Option.some.inj this).symm
  rfl
theorem zpN(p)(idx a:Int):Z8 (Z8 p idx a) idx a=Z8 p idx a:=by unfold Z8;grind
theorem zns(a:∀c∈m.ca,¬(c.file=(fi:Int)/\c.idx=(ix:Int))):zrq m fi ix (zU m (fi:Int) (ix:Int)) Xd:=by
 have d:m.ca.find? (QM (fi:Int) (ix:Int))=Xb:=List.find?_eq_none.2 fun c b e=>a c b (by grind[QM]);have e:zU m (fi:Int) (ix:Int)=Qr m (fi:Int) (ix:Int):=by
  unfold zU;rw[d];rfl
 rw[e];refine⟨?_,fun _=>rfl⟩;unfold Qr;split;·unfold Z8 zt;simp
 exact zpN _ _ _
theorem zqr{f:Fl}(a:m.fl[fi]?=Xa f):JC m (fi:Int)=f.size:=by unfold JC;rw[tN,gD,a];rfl
theorem zmf(fi ix:Nat)(f:Fl)(i2:Int)(t:Mk w0 hi w b vl L V m vt T)(dx:∀c∈m.ca,0<=c.file/\c.file<=1000/\0<=c.idx/\c.idx<=1000/\0<=c.fr/\c.fr<m.fs.length)(i9:m.fl[fi]?=Xa f)(dw:f.bl[ix]?=Xa i2)(gm:ix<=1000)(je:fi<=1000)(dy:m.ca.length<=1000):
  Xp prog 96 #[Xj (Xa ⟨b,0,Xb⟩),I6 (fi:Int),I6 (ix:Int)] w fun e w'=>(e=Xl (I6 (-1))/\MkE w0 hi b w L V m vt T w')\/(∃c,c∈m.ca/\c.file=(fi:Int)/\c.idx=(ix:Int)/\e=Xl (I6 c.fr)/\MkE w0 hi b w L V m vt T w')\/∃j:Nat,e=Xl (I6 (j:Int))/\zsD w0 hi b w L V m vt T fi ix j w':=by
 have c8:=dD t;have da:=dD dx;have f0:=dD i9;have fd:=dD dw;obtain⟨C,c9⟩:=kA V.ca.n;have a5:Xo (m.ca.length=C):=show _=_ by rw[<-c9.out,t.rows.ca.n]
 have k9:C<=1000:=Ry a5.out dy;have db:Xo (C<=V.ca.c):=dD<|by
  have:=t.rows.ca.cap;(try simp only[Sli.x]at this);rw[c9.out]at this;exact this
 obtain⟨a8,ag⟩:∃a,Xo (V.ca.a=a):=⟨_,rfl⟩;have dc:Xo (∀cf,(∃b8 d3 gt,gt.ca=m.ca/\Mk w0 hi cf b b8 d3 V gt vt T)->zf5 cf a8 m.ca):=dD<|fun cf⟨_,_,gt,e,k⟩=>by
  have:=k.rows.at.cas;rw[e,ag.out]at this;exact this
 clear t dx i9 dw dy;go_enter func96,ntmps96;have S:=c8.box.box.c 10 rfl;(try simp only[Sli.x]at S);rw[c9.out,ag.out]at S;go_wp2;clear S;go_loopg[20] C (fun dr gw wr=>∃ae:Nat,ae<=C/\C-ae<=dr/\gw=I6 ae/\Xo (zc w wr)/\Xo (∀(j:Nat)c,j<ae->m.ca[j]?=Xa c->¬(c.file=(fi:Int)/\c.idx=(ix:Int))))
 exact⟨0,nZ _,Wm,rfl,zc.refl _,fun j c am=>absurd am (nL _)⟩;obtain⟨ae,jl,jh,rfl,ez,hs⟩:=hrel;by_cases cx:ae<C
 ·have eg:=kC cx
  obtain⟨c,bs⟩:∃c,Xo (m.ca[ae]?=Xa c):=⟨_,gE (Rx a5.out cx)⟩;obtain⟨gc,rfl,ed⟩:=dc.out wr ⟨vl,L,m,rfl,c8.aA ez⟩ ae c bs.out;obtain⟨gd,i4,ge⟩:=ed wr (zc.refl _);clear ed;go_upto_region 4 with fail;refine nW fun g8 bl=>?_;have bd:=gT bl ez;have il:=xA bl;clear bl gd i4 ge;obtain⟨k6,k7,k8⟩:=il.c3;have dg:Xo (¬(c.file=(fi:Int)/\c.idx=(ix:Int))->∀(j:Nat)c,j<ae+1->m.ca[j]?=Xa c->¬(c.file=(fi:Int)/\c.idx=(ix:Int))):=dD<|fun bi j aj am al=>by
   by_cases e:j=ae;·subst e;rw[bs.out]at al;cases al;exact bi
   exact hs j aj Wm al
  by_cases ci:c.file=(fi:Int)
  ·have gi:(c.file==(fi:Int))=Xc:=by simp[ci]
   by_cases d6:c.idx=(ix:Int)
   ·have gj:(c.idx==(ix:Int))=Xc:=by simp[d6]
    have h9:Xo (c.file=(fi:Int)/\c.idx=(ix:Int)):=dD<|⟨ci,d6⟩;clear ci d6;go_wp2;go_ret;exact .inr (.inl ⟨c,mG bs,h9.1,h9.2,rfl,vl,L,c8.aA bd,zbr.refl L,zR.aA bd⟩)
   have gj:(c.idx==(ix:Int))=Xd:=(by simp[d6]);have ce:=dD<|dg.out (fun t=>d6 t.2);clear ci d6;go_wp2;go_roundg (C-(ae+1));exact⟨ae+1,Wm,Wm,Gn,bd,ce⟩;omega
  have gi:(c.file==(fi:Int))=Xd:=by simp[ci]
  have ce:=dD<|dg.out (fun t=>ci t.1);clear ci;go_wp2;go_roundg (C-(ae+1));exact⟨ae+1,Wm,Wm,Gn,bd,ce⟩;omega
 have eg:=kD cx;have ec:ae=C:=Wm;have df:Xo (∀c∈m.ca,¬(c.file=(fi:Int)/\c.idx=(ix:Int))):=dD<|fun c co=>by
  obtain⟨j,am⟩:=Yu co;exact hs j c (by rw[ec,<-a5.out];exact(gS.1 am).1) am
 clear ec;have hh:=dD (c8.aA ez);have D:=hh.box.box;have jp:=D.c 1 rfl;have jq:=D.c 2 rfl;have jr:=D.c 3 rfl;have js:=D.c 4 rfl;have jt:=D.c 5 rfl;have ju:=D.c 6 rfl;have jv:=D.c 7 rfl;have f6:=D.c 8 rfl;have jw:=D.c 9 rfl;have S:=D.c 10 rfl;have h5:=D.c 11 rfl;clear D;have az:=zeO V m fi ix f i2 wr hh.rows.at (fun c co _=>(da c co).2.2.2.2) f0 fd gm;go_wp2_with fail;refine az.mono ?_;clear az jp jq jr js jt ju jv f6 jw S h5;rintro e g8⟨rfl,cw,i7⟩;have f8:=dD (ez.trans i7);clear i7;have cs:=zns df.out;generalize zU m fi ix=q at cw cs;obtain⟨W,X,Y,Z,a0,a1,a2,a4,rfl⟩:=zc2 q cw;have fg:=dD cs;clear cw cs;simp only[pgc,mP,Yb];go_upto_region 8 with fail;obtain⟨F,bg⟩:=kA g8.heap.size;obtain⟨i0,bm⟩:=kB (g8.alloc (Xk #[U8 W,U8 X,U8 Y,U8 Z,U8 a0,U8 a1,U8 a2,U8 a4] 44));have h6:=gT bm f8;have j2:Xo (zm i0 F 44 (pgc [W,X,Y,Z,a0,a1,a2,a4])):=dD<|by rw[<-bm];exact zm.aE _ (pgc [W,X,Y,Z,a0,a1,a2,a4]) _ bg.symm
 have bf:Xo (hi<=F):=dD<|by rw[<-bg.out];exact(c8.aA f8).rows.hw
 have cb:Xo (w.heap.size<=F):=dD<|by rw[<-bg.out];exact bS f8.out
 have c4:Xo (b≠F):=dD<|by have:=c8.box.box.lt;have:=cb.out;omega
 have he:=dD (c8.aA h6);have ip:Xo (zR hi w i0):=zR.aA h6.out;rw[bm,bg.out];clear bm;have ej:=qY 2 he.out;go_wp2_with fail;refine ej.mono ?_;clear ej;rintro e j5⟨h3,iw,y,rfl,eq,cg,gy,jx,jy,yn,ib⟩;have fy:=dD eq;have ha:=dD (ip.trans (he.keeps cg));have ht:Xo (zm j5 F 44 (pgc [W,X,Y,Z,a0,a1,a2,a4])):=j2.beside cg (fun ak e=>by cases e;exact fun t=>c4.out t.symm);have dj:=dD ib;clear eq cg gy jx jy yn ib;go_upto_if 46 with fail
 go_cut[10,11] (fun gv jo d9=>∃(av:Bool)(q:List Int)(b8:Sli)(d3:List Int),gv=Xh av/\Xo (Mk w0 hi d9 b b8 d3 V m vt T)/\Xo (zm d9 F 44 (pgc q))/\Xo (q.length=8)/\Xo (zR hi w d9)/\Xo (zbr L d3)/\Xo (zrq m fi ix q av))
 case first=>
  by_cases f3:y=1
  ·have gn:(y==1)=Xc:=by simp[f3]
   clear f3;have ei:=zdx fy.out;go_wp2_with fail;refine ei.mono ?_;clear ei;rintro e j6⟨ey,hd,ih,rfl,et,er,ch,eo⟩;have iy:=dD er;have iq:=dD (ha.trans (fy.keeps ch));have hu:Xo (zm j6 F 44 (pgc [W,X,Y,Z,a0,a1,a2,a4])):=ht.beside ch (fun ak e=>by cases e;exact fun t=>c4.out t.symm);have fw:=dD (dj.trans eo);have hw:=dD et;clear er ch eo et;go_wp2_with(refine zP rfl 44 (.tmp 9) (.tmp 48) rfl F rfl (pgc ih) rfl hu (by simp[pgc,hw.out]) zsZ (qM _) ?_)
   intro jz dv cr _;have iz:=dD<|iy.page hu bf cr;have ir:=dD<|iq.own cr cb.out;have j3:=dD dv;clear dv cr;go_wp2;go_loopg[49] 8 (fun dr gx wr=>∃(i:Nat)(q:List Int),i<=8/\8-i<=dr/\gx=I6 i/\Xo (Mk w0 hi wr b ey hd V m vt T)/\Xo (zm wr F 44 (pgc q))/\Xo (q.length=8)/\Xo (zR hi w wr)/\Xo (zoA q ix f.size i))
   exact⟨0,ih,nZ _,Wm,rfl,iz,j3,hw,ir,fun j am=>absurd am (nL _)⟩;obtain⟨i,q,jj,jg,rfl,au,ah,ai,cc,bx⟩:=hrel;by_cases bv:i<8
   ·have cy:(i:Int)<8:=Wm
    obtain⟨ik,f4⟩:∃ik,q[i]?=Xa ik:=⟨_,gE (Rx ai.out bv)⟩;have kb:=ah.box.c i (zhC f4);have kc:=ah.box.f;have e9:=au.rows.at.fl;have f6:=au.box.box.c 8 rfl;obtain⟨_,_,b0,_,K⟩:=qH.rows e9;have ek:zbs wr V.fl.a m.fl:=by
     simp only[vJ]at b0;rw[b0.1];exact K
    have gl:V.fl.n=m.fl.length:=by
     simp only[vJ]at b0;exact b0.2.1
    obtain⟨gb,el,k4,k5,_,ef⟩:=ek fi f f0.out;obtain⟨gd,-⟩:=ef wr (zc.refl _);obtain⟨gf,bu⟩:=kB V.fl.n;have jf:(fi:Int)<(gf:Int):=by
     have:=(gS.1 f0).1;omega
    (try simp only[Sli.x]at f6);rw[el,bu]at f6;clear e9 b0 K ek gl el ef bu f4;by_cases co:f.size<=8*(ix:Int)+(i:Int)
    ·have gk:decide (f.size<=8*(ix:Int)+(i:Int))=Xc:=Si co
     have de:Xo (wr.grownBy (wr.setCell ⟨F,i,Xb⟩ (U8 0)) (Xa F)):=⟨rfl,rfl,rfl,by simp[World.setCell],fun k _ G=>Below.heap_setCell _ _ _ _ (fun e=>G (by rw[e]))⟩;have j4:Xo (zm (wr.setCell ⟨F,i,Xb⟩ (U8 0)) F 44 (pgc (q.set i 0))):=dD (by rw[zd9];exact ah.set i _);have g2:=dD<|au.page ah bf de.out;have ft:=dD<|cc.own de cb.out;have f7:Xo (zoA (q.set i 0) ix f.size (i+1)):=show zoA _ _ _ _ from bx.set (Rx ai.out bv);go_wp2;go_roundg (8-(i+1));exact⟨i+1,q.set i 0,Wm,Wm,Gn,g2,j4,(show(q.set i 0).length=8 by rw[Xt];exact ai),ft,f7⟩;omega
    have gk:decide (f.size<=8*(ix:Int)+(i:Int))=Xd:=Si co;have f7:=dD<|bx.next co;go_wp2;go_roundg (8-(i+1));exact⟨i+1,q,Wm,Wm,Gn,au,ah,ai,cc,f7⟩;omega
   have cy:¬(i:Int)<8:=Wm;have jd:i=8:=Wm;subst jd;have c5:Xo (zrq m fi ix q Xc):=dD<|⟨by rw[zqr f0.out];exact bx.all ai,fun e=>Bool.noConfusion e⟩;go_wp2;go_meet;exact⟨Xc,q,ey,hd,rfl,au,ah,ai,cc,fw,c5⟩
  have gn:(y==1)=Xd:=by simp[f3]
  clear f3;go_wp2;go_meet;exact⟨Xd,[W,X,Y,Z,a0,a1,a2,a4],h3,iw,rfl,fy,ht,rfl,ha,dj,fg⟩
 obtain⟨av,q,ex,fv,rfl,fz,g4,g6,fq,dk,c5⟩:=hcut;obtain⟨W,X,Y,Z,a0,a1,a2,a4,rfl⟩:=zc2 q g6.out;go_upto_region 16 with fail;obtain⟨N,i8⟩:∃N:Xn->Prop,N=fun u=>zm u F 44 (pgc [W,X,Y,Z,a0,a1,a2,a4]):=⟨_,rfl⟩;have x:Xo (∀u,N u↔zm u F 44 (pgc [W,X,Y,Z,a0,a1,a2,a4])):=dD<|fun u=>by rw[i8]
 clear i8;have a9:=(x _).2 (g4.aA (gW _));have cl:MkE w0 hi b w L V m vt T wc.drew:=⟨ex,fv,fz.aA (gW _),dk.out,fq.trans (zR.aA (gW _))⟩;have dz:=fun y:zh N=>((x _).1 y.holds).box.c 0 rfl;have e0:=fun y:zh N=>((x _).1 y.holds).box.c 1 rfl;have e3:=fun y:zh N=>((x _).1 y.holds).box.c 2 rfl;have e4:=fun y:zh N=>((x _).1 y.holds).box.c 3 rfl;have e5:=fun y:zh N=>((x _).1 y.holds).box.c 4 rfl;have e6:=fun y:zh N=>((x _).1 y.holds).box.c 5 rfl;have e7:=fun y:zh N=>((x _).1 y.holds).box.c 6 rfl;have e8:=fun y:zh N=>((x _).1 y.holds).box.c 7 rfl;have bn:Nonempty (zh N):=⟨⟨_,a9⟩⟩;refine zH (I:=N) 10 [(3,fun r=>∃B:Int,r=I6 B),(9,fun r=>r=I6 (-1)\/∃j:Nat,r=I6 (j:Int))] (fun u=>MkE w0 hi b w L V m vt T u) a9 cl zY Kr rfl rfl Dc (Sb ⟨_,0,rfl⟩ ⟨_,.inl rfl⟩) Kr ?_;simp only[Xv,Xw];iterate 3 refine zg ?_
 refine zy rfl rfl (fun _ u=>MkE w0 hi b w L V m vt T u) (fun w' z ck=>?_) (fun d8 ao=>?_);·obtain⟨b8,d3,bq,bp,bo⟩:=ck;refine zO.call [Xj (Xa ⟨b,0,Xb⟩),I6 2] rfl func22 rfl rfl rfl ?_;refine(qY 2 bq).mono ?_;rintro e h4⟨gz,iv,B,rfl,gu,ds,_,_,_,_,gs⟩;exact⟨_,rfl,(x _).2 (((x _).1 z).beside ds (fun ak e=>by cases e;exact fun t=>c4.out t.symm)),⟨B,rfl⟩,gz,iv,gu,bp.trans gs,bo.trans (bq.keeps ds)⟩
 obtain⟨B,rfl⟩:=ao;refine Uq ?_;iterate 5 refine zg ?_
 refine zy rfl rfl (fun r u=>(r=I6 (-1)/\MkE w0 hi b w L V m vt T u)\/∃(j:Nat)(q:Fr),r=I6 (j:Int)/\m.fs[j]?=Xa q/\q.r=0/\MkE w0 hi b w L V {m with fs:=m.fs.set j ⟨⟨W,X,Y,Z,a0,a1,a2,a4⟩,1,B==1,av,(fi:Int),(ix:Int)⟩} vt T u) (fun w' z ck=>?_) (fun d8 ao=>?_)
 ·obtain⟨b8,d3,bq,bp,bo⟩:=ck;refine zO.call [Xj (Xa ⟨b,0,Xb⟩),Xi (frv ⟨⟨W,X,Y,Z,a0,a1,a2,a4⟩,1,B==1,av,(fi:Int),(ix:Int)⟩).toArray] rfl func97 rfl rfl rfl ?_;refine(zh8 ⟨⟨W,X,Y,Z,a0,a1,a2,a4⟩,1,B==1,av,(fi:Int),(ix:Int)⟩ bq ⟨fun e=>by have:(fi:Int)=-1:=e;omega,fun _ _=>c5.out⟩).mono ?_;rintro e h4(⟨rfl,cj⟩|⟨j,q,rfl,d7,bw,cj⟩);·have cv:=cj;obtain⟨_,_,_,_,gr⟩:=cv;exact⟨_,rfl,(x _).2 (gr.1 F _ _ ((x _).1 z) (zkr bf)),.inl rfl,.inl ⟨rfl,cj.trans bp bo⟩⟩
  have cv:=cj;obtain⟨_,_,_,_,gr⟩:=cv;exact⟨_,rfl,(x _).2 (gr.1 F _ _ ((x _).1 z) (zkr bf)),.inr ⟨j,rfl⟩,.inr ⟨j,q,rfl,d7,bw,cj.trans bp bo⟩⟩
 rcases ao with rfl|⟨j,rfl⟩
 ·refine Uq ?_;refine qE fun g9 cm ax=>?_;have im:Xo (MkE w0 hi b w L V m vt T g9):=dD<|by
   rcases ax with⟨_,t⟩|⟨j,q,e,_⟩;·exact t
   simp only[Value.int.injEq,true_and]at e;omega
  clear ax cm a9 cl bn dz e0 e3 e4 e5 e6 e7 e8;go_wp2;go_ret;exact .inl ⟨rfl,im⟩
 refine Uq ?_;refine qE fun g9 cm ax=>?_;obtain⟨q,d7,bw,b9,dl,es,ep,en⟩:∃q:Fr,m.fs[j]?=Xa q/\q.r=0/\MkE w0 hi b w L V {m with fs:=m.fs.set j ⟨⟨W,X,Y,Z,a0,a1,a2,a4⟩,1,B==1,av,(fi:Int),(ix:Int)⟩} vt T g9:=by
  rcases ax with⟨e,_⟩|⟨jm,q,e,d7,bw,cj⟩;·simp only[Value.int.injEq,true_and]at e;omega
  simp only[Value.int.injEq,true_and]at e;obtain rfl:j=jm:=Wm;exact⟨q,d7,bw,cj⟩
 have io:=dD d7;have fl:=dD bw;have g2:=dD es;have ft:=dD en;have fx:=dD ep;clear ax cm a9 cl bn d7 bw es ep en dz e0 e3 e4 e5 e6 e7 e8;have jk:¬(j:Int)<0:=Wm;go_wp2;go_loopg[13] C (fun dr cz wr=>∃d:Nat,d<=C/\C-d<=dr/\cz=I6 d/\Xo (Mk w0 hi wr b b9 dl V {m with fs:=m.fs.set j ⟨⟨W,X,Y,Z,a0,a1,a2,a4⟩,1,B==1,av,(fi:Int),(ix:Int)⟩} vt T)/\Xo (zR hi w wr)/\Xo (∀(i:Nat)c,i<d->m.ca[i]?=Xa c->decide (zZ c<zZ ⟨(fi:Int),(ix:Int),(j:Int)⟩)=Xc))
 exact⟨0,nZ _,Wm,rfl,g2,ft,fun i c hi=>absurd hi (nL _)⟩;obtain⟨d,ay,aa,rfl,dm,fu,dn⟩:=hrel;have S:=dm.box.box.c 10 rfl;(try simp only[Sli.x]at S);rw[c9.out,ag.out]at S;go_upto_region 20 with fail;go_cut[13,116] (fun cz ev d9=>cz=I6 d/\∃ew:Bool,ev=Xh ew/\Xo (Mk w0 hi d9 b b9 dl V {m with fs:=m.fs.set j ⟨⟨W,X,Y,Z,a0,a1,a2,a4⟩,1,B==1,av,(fi:Int),(ix:Int)⟩} vt T)/\Xo (zR hi w d9)/\Xo (ew=Xc->d<C/\∀c,m.ca[d]?=Xa c->decide (zZ c<zZ ⟨(fi:Int),(ix:Int),(j:Int)⟩)=Xc)/\Xo (ew=Xd->∀B,m.ca[d]?=Xa B->decide (zZ B<zZ ⟨(fi:Int),(ix:Int),(j:Int)⟩)=Xd))
 case first=>
  by_cases ab:d<C
  ·have R:=kC ab
   obtain⟨c,bs⟩:∃c,Xo (m.ca[d]?=Xa c):=⟨_,gE (Rx a5.out ab)⟩;obtain⟨gc,rfl,ed⟩:=dc.out wr ⟨b9,dl,{m with fs:=m.fs.set j ⟨⟨W,X,Y,Z,a0,a1,a2,a4⟩,1,B==1,av,(fi:Int),(ix:Int)⟩},rfl,dm⟩ d c bs.out;obtain⟨gd,i4,ge⟩:=ed wr (zc.refl _);obtain⟨k0,k1,k2,k3,-⟩:=da.out c (mG bs);clear ed ge;by_cases G:100*c.file+c.idx<100*(fi:Int)+(ix:Int)
   ·have cu:decide (100*c.file+c.idx<100*(fi:Int)+(ix:Int))=Xc:=Si G
    have ea:decide ((d:Int)<(C:Int))=Xc:=Si R;have ar:Xo (∀B,m.ca[d]?=Xa B->decide (zZ B<zZ ⟨(fi:Int),(ix:Int),(j:Int)⟩)=Xc):=dD<|fun B ap=>by
     rw[bs.out]at ap;cases ap;exact cu
    clear G;go_quiet(fail);go_wp2;go_meet;exact⟨rfl,Xc,rfl,dm.aA (show Below _ _ _ from bD (bR _ _) _),fu.trans (zR.aA (show Below _ _ _ from bD (bR _ _) _)),fun _=>⟨ab,ar⟩,(fun t=>nomatch t)⟩
   have cu:decide (100*c.file+c.idx<100*(fi:Int)+(ix:Int))=Xd:=Si G;have ea:decide ((d:Int)<(C:Int))=Xc:=Si R;have ar:Xo (∀B,m.ca[d]?=Xa B->decide (zZ B<zZ ⟨(fi:Int),(ix:Int),(j:Int)⟩)=Xd):=dD<|fun B ap=>by
    rw[bs.out]at ap;cases ap;exact cu
   clear G;go_quiet(fail);go_wp2;go_meet;exact⟨rfl,Xd,rfl,dm.aA (show Below _ _ _ from bD (bR _ _) _),fu.trans (zR.aA (show Below _ _ _ from bD (bR _ _) _)),(fun t=>nomatch t),fun _=>ar.out⟩
  have R:=kD ab;have ea:decide ((d:Int)<(C:Int))=Xd:=Si R;have ar:Xo (∀B,m.ca[d]?=Xa B->decide (zZ B<zZ ⟨(fi:Int),(ix:Int),(j:Int)⟩)=Xd):=dD<|fun B ap=>by
   have:=(gS.1 ap).1;have:=a5.out;omega
  go_quiet(fail);go_wp2;go_meet;exact⟨rfl,Xd,rfl,dm.aA (show Below _ _ _ from bD (bR _ _) _),fu.trans (zR.aA (show Below _ _ _ from bD (bR _ _) _)),(fun t=>nomatch t),fun _=>ar.out⟩
 clear S;obtain⟨rfl,ew,rfl,d4,hb,fp,fo⟩:=hcut;cases ew with
 |true=>
  obtain⟨ab,az⟩:=fp.out rfl;have g3:Xo (∀(i:Nat)c,i<d+1->m.ca[i]?=Xa c->decide (zZ c<zZ ⟨(fi:Int),(ix:Int),(j:Int)⟩)=Xc):=dD<|fun i aj ji al=>by
   by_cases e:i=d;·subst e;exact az aj al
   exact dn i aj Wm al
  clear az;go_wp2;go_roundg (C-(d+1));exact⟨d+1,Wm,Wm,Gn,d4,hb,g3⟩;omega
 |false=>
  have fn:=dD<|fo.out rfl;have bh:Xo (Z7 m.ca ⟨(fi:Int),(ix:Int),(j:Int)⟩=m.ca.take d++[⟨(fi:Int),(ix:Int),(j:Int)⟩]++m.ca.drop d):=dD<|by
   obtain⟨jb,jc⟩:=zkd (p:=fun ja=>decide (zZ ja<zZ ⟨(fi:Int),(ix:Int),(j:Int)⟩)) (l:=m.ca) (k:=d) dn fn (Rx a5.out ay);unfold Z7;rw[jb,jc];simp
  go_upto_region 22 with fail;obtain⟨M,f9⟩:=kA (m.ca.take d);obtain⟨bz,ff⟩:=kA (m.ca.drop d);rw[f9.out,ff.out]at bh;have H:Xo (M.length=d):=dD (by rw[<-f9.out,List.length_take,a5.out];omega);have fh:Xo (bz.length=C-d):=dD (by rw[<-ff.out,List.length_drop,a5.out]);obtain⟨P,bb⟩:∃P:Ca,Xo (P=⟨(fi:Int),(ix:Int),(j:Int)⟩):=⟨_,rfl⟩;rw[<-bb.out]at bh;obtain⟨d5,fk⟩:=kA ((M++[P]++bz).length);obtain⟨N,x⟩:=Ww fun u=>zc wc u;have a9:=(x _).2 (gW _);have bn:Nonempty (zh N):=⟨⟨_,a9⟩⟩;have ac:∀y:zh N,y.world.cell? ⟨b,10,Xb⟩=Xa (O a8 C V.ca.c):=fun y=>by
   have:=(d4.box.box.aA ((x _).1 y.holds)).c 10 rfl;(try simp only[Sli.x]at this);rw[c9.out,ag.out]at this;exact this
  have di:Xo (zq jF wc (O a8 C V.ca.c) m.ca):=dD<|by
   have:=d4.rows.ca.at;(try dsimp only at this);rw[c9.out,ag.out]at this;exact this
  have b7:=fun cf=>zoR (w:=cf) (a:=a8) (n:=C) (c:=V.ca.c) (k:=d) (nT ay db);have K:=fun cf=>zoT (w:=cf) (a:=a8) (n:=C) (c:=V.ca.c) (k:=d) ay;obtain⟨i5,cp⟩:=kB ((a8:Option Addr).map fun gb=>if V.ca.c=d then gb else gb.add (d*3));have fm:Xo (zq jF wc (O a8 d V.ca.c) M):=dD<|Ry f9.out (di.upto ay);have dh:Xo (zq jF wc (O i5 (C-d) (V.ca.c-d)) bz):=dD (by rw[<-ff.out,<-cp];exact di.from ay db.out);rw[cp]at K;clear cp;obtain⟨jn,fj⟩:=kA (C-d);obtain⟨j9,fe⟩:=kA (V.ca.c-d);rw[fj.out,fe.out]at K dh;refine q4 (I:=N) 27 [(1,⟨fun r=>∃ak,r=O (Xa ⟨ak,0,Xb⟩) 0 0,fun r w'=>zb jF wc.heap.size w' r [],fun p q=>zc p q,fun _=>True⟩),(9,⟨fun r=>(∃a c,r=O a d c)/\(d=0->∃ak,r=O (Xa ⟨ak,0,Xb⟩) 0 0),fun r w'=>zb jF wc.heap.size w' r M,fun p q=>zc p q,fun _=>True⟩),(14,⟨fun r=>∃ak,r=O (Xa ⟨ak,0,Xb⟩) 1 1,fun r w'=>zb jF wc.heap.size w' r [P],fun p q=>zc p q,fun _=>True⟩),(15,⟨fun r=>∃a c,r=O a (d+1) c,fun r w'=>zb jF wc.heap.size w' r (M++[P]),fun p q=>(∀u m,m.length<=d\/m.length<=1->zb jF wc.heap.size p u m->zb jF wc.heap.size q u m),fun _=>True⟩),(23,⟨fun r=>∃a c,r=O a d5 c,fun r w'=>zb jF wc.heap.size w' r (M++[P]++bz),fun p q=>(∀u m,m.length<=d+1->zb jF wc.heap.size p u m->zb jF wc.heap.size q u m),fun _=>True⟩)] a9 zY Kr rfl rfl Dc ?hS ?hp ?hpre ?hpr0 ?_;case hS=>
   intro B ap;simp only[mC,nM,or_false]at ap;rcases ap with rfl|rfl|rfl|rfl|rfl;·exact⟨_,0,rfl⟩
   ·by_cases bi:d=0
    ·exact⟨O (Xa ⟨0,0,Xb⟩) 0 0,⟨Xa ⟨0,0,Xb⟩,0,by rw[bi]⟩,fun _=>⟨0,rfl⟩⟩
    exact⟨O Xb d 0,⟨_,_,rfl⟩,fun t=>absurd t bi⟩
   ·exact⟨_,0,rfl⟩
   ·exact⟨_,Xb,0,rfl⟩
   exact⟨_,Xb,0,rfl⟩
  case hp=>
   intro k s j ii G am an du r p q g h;have b5:=zC G;have Q:=zC am;clear G am;simp only[mC,pJ,nM,or_false]at b5 Q;rcases b5 with⟨rfl,rfl⟩|⟨rfl,rfl⟩|⟨rfl,rfl⟩|⟨rfl,rfl⟩|⟨rfl,rfl⟩
   ·rcases Q with⟨rfl,rfl⟩|⟨rfl,rfl⟩|⟨rfl,rfl⟩|⟨rfl,rfl⟩|⟨rfl,rfl⟩
    ·exact absurd rfl an
    ·exact zb.aA h g
    ·exact zb.aA h g
    ·exact g r [] (.inl (nZ _)) h
    exact g r [] (nZ _) h
   ·rcases Q with⟨rfl,rfl⟩|⟨rfl,rfl⟩|⟨rfl,rfl⟩|⟨rfl,rfl⟩|⟨rfl,rfl⟩
    ·exact zb.aA h g
    ·exact absurd rfl an
    ·exact zb.aA h g
    ·exact g r M (.inl (by rw[H.out];exact nR _)) h
    exact g r M (by rw[H.out];omega) h
   ·rcases Q with⟨rfl,rfl⟩|⟨rfl,rfl⟩|⟨rfl,rfl⟩|⟨rfl,rfl⟩|⟨rfl,rfl⟩
    ·exact zb.aA h g
    ·exact zb.aA h g
    ·exact absurd rfl an
    ·exact g r [P] (.inr (nR _)) h
    exact g r [P] Sm h
   ·rcases Q with⟨rfl,rfl⟩|⟨rfl,rfl⟩|⟨rfl,rfl⟩|⟨rfl,rfl⟩|⟨rfl,rfl⟩
    ·exact zb.aA h g
    ·exact zb.aA h g
    ·exact zb.aA h g
    ·exact absurd rfl an
    exact g r (M++[P]) (by rw[lA,H.out];simp) h
   rcases Q with⟨rfl,rfl⟩|⟨rfl,rfl⟩|⟨rfl,rfl⟩|⟨rfl,rfl⟩|⟨rfl,rfl⟩;·exact zb.aA h g
   ·exact zb.aA h g
   ·exact zb.aA h g
   ·exact Bool.noConfusion (du.symm.trans (show _=Xc by kernel_rfl))
   exact absurd rfl an
  case hpre=>
   intro j ii k s am G an p q g b6;have Q:=zC am;clear G am;simp only[mC,pJ,nM,or_false]at Q;rcases Q with⟨rfl,rfl⟩|⟨rfl,rfl⟩|⟨rfl,rfl⟩|⟨rfl,rfl⟩|⟨rfl,rfl⟩<;>trivial
  case hpr0=>
   intro k ii G;have b5:=zC G;clear G;simp only[mC,pJ,nM,or_false]at b5;rcases b5 with⟨rfl,rfl⟩|⟨rfl,rfl⟩|⟨rfl,rfl⟩|⟨rfl,rfl⟩|⟨rfl,rfl⟩<;>trivial
  simp only[Xv,Xw];refine zs ?_;refine zT rfl rfl (fun w' z b6 aw=>?_) (fun d8 ao=>?_);·have U:=(x _).1 z;refine zO.step (v:=O (Xa ⟨w'.heap.size,0,Xb⟩) 0 0) (w':=w'.alloc (Xk #[] 108)) (by simp only[execOp];go_simp) ⟨(x _).2 (U.trans (za _ _)),za _ _,⟨_,rfl⟩,(zb.made jF w').base (bS U)⟩
  obtain⟨i6,rfl⟩:=ao;refine Uq ?_;refine zs ?_;refine Q2 (.tmp 121) ⟨b,0,Xb⟩ rfl rfl rfl rfl ?_;refine Uq ?_;iterate 5 refine zs ?_
  refine zT rfl rfl (fun w' z b6 aw=>?_) (fun d8 ao=>?_)
  ·have U:=(x _).1 z;have bi:zb jF wc.heap.size w' (O (Xa ⟨i6,0,Xb⟩) 0 0) []:=aw 1 Kr;obtain⟨br,af,A,aq,aa,f4⟩:=Ql (E:=jF) (w:=w') 38 bi (O a8 d V.ca.c) M (fm.aA U) (bS U);obtain⟨bt,aj,rfl⟩:=aq.form;refine zO.step (v:=O bt M.length aj) (w':=af) ?_ ⟨(x _).2 (U.trans aa),aa,⟨⟨bt,aj,by rw[H.out]⟩,fun t=>⟨i6,f4 (eN (Rx H.out t))⟩⟩,aq⟩;clear ac b7 K;simp only[execOp,resolve,invoke,builtin,pure_bind,Xs,Xx,Yf,mP,Yb];exact Eq.trans (congrArg (fun eu=>Result.andThen eu (fun a w'=>Result.ok (Next.value a) w')) A) rfl
  obtain⟨⟨i1,i3,rfl⟩,gp⟩:=ao;refine Uq ?_;iterate 4 refine zs ?_
  refine zT rfl rfl (fun w' z b6 aw=>?_) (fun d8 ao=>?_);·have U:=(x _).1 z;have eh:=(zln w' P).base (bS U);rw[bb.out]at eh;refine zO.step (v:=O (Xa ⟨w'.heap.size,0,Xb⟩) 1 1) (w':=w'.alloc (Xk #[I6 (fi:Int),I6 (ix:Int),I6 (j:Int)] 108)) (by clear ac b7 K;simp only[execOp];go_simp) ⟨(x _).2 (U.trans (za _ _)),za _ _,⟨_,rfl⟩,Rx bb.out eh⟩
  obtain⟨f2,rfl⟩:=ao;refine Uq ?_;refine zT rfl rfl (fun w' z b6 aw=>?_) (fun d8 ao=>?_)
  ·have U:=(x _).1 z;have f5:zb jF wc.heap.size w' (O i1 d i3) M:=aw 9 Kr;have ic:zb jF wc.heap.size w' (O (Xa ⟨f2,0,Xb⟩) 1 1) [P]:=aw 14 Kr;have gq:∃br af,(Builtin.append_ #[38,38] 38 #[O i1 d i3,O (Xa ⟨f2,0,Xb⟩) 1 1]).run prog w'=.ok br af/\zb jF wc.heap.size af br (M++[P])/\zc wc af/\∀u m,m.length<=d\/m.length<=1->zb jF wc.heap.size w' u m->zb jF wc.heap.size af u m:=by
    by_cases bi:d=0
    ·have em:M=[]:=eN (Rx H.out bi)
     obtain⟨ak,eb⟩:=gp bi;rw[eb,em]at f5;rw[eb,em];obtain⟨br,af,A,aq,aa,_⟩:=Ql (E:=jF) (w:=w') 38 f5 (O (Xa ⟨f2,0,Xb⟩) 1 1) [P] ic.at (bS U);exact⟨br,af,A,aq,U.trans aa,fun u m _ t=>t.aA aa⟩
    obtain⟨br,af,A,aq,ct,G⟩:=qP (E:=jF) (w:=w') 38 f5 (O (Xa ⟨f2,0,Xb⟩) 1 1) [P] ic.at (by rw[H.out];show(d+1)*24<=_;omega) (bS U);refine⟨br,af,A,aq,z2 U ct (fun ak cq=>(f5.lt ak cq).1),fun u m ia t=>G u m ?_ t⟩;rw[H.out];omega
   obtain⟨br,af,A,aq,aa,G⟩:=gq;obtain⟨bt,aj,rfl⟩:=aq.form;refine zO.step (v:=.slice bt (M++[P]).length aj) (w':=af) ?_ ⟨(x _).2 aa,G,⟨bt,aj,by rw[lA,H.out];rfl⟩,aq⟩;clear ac b7 K;simp only[execOp,resolve,invoke,builtin,pure_bind,Xs,Xx,Yf,mP,Yb];exact Eq.trans (congrArg (fun eu=>Result.andThen eu (fun a w'=>Result.ok (Next.value a) w')) A) rfl
  obtain⟨j7,j8,rfl⟩:=ao;refine Uq ?_;refine zs ?_;refine Q2 (.tmp 135) ⟨b,0,Xb⟩ rfl rfl rfl rfl ?_;refine Uq ?_;iterate 5 refine zs ?_
  refine zT rfl rfl (fun w' z b6 aw=>?_) (fun d8 ao=>?_)
  ·have U:=(x _).1 z;have ie:zb jF wc.heap.size w' (O j7 (d+1) j8) (M++[P]):=aw 15 Kr;have ee:(M++[P]).length=d+1:=(by rw[lA,H.out];rfl);obtain⟨br,af,A,aq,ct,G⟩:=qP (E:=jF) (w:=w') 38 ie (O i5 jn j9) bz (dh.aA U) (by rw[ee,fh.out];show(d+1+(C-d))*24<=_;omega) (bS U);obtain⟨bt,aj,rfl⟩:=aq.form;refine zO.step (v:=.slice bt (M++[P]++bz).length aj) (w':=af) ?_ ⟨(x _).2 (z2 U ct (fun ak cq=>(ie.lt ak cq).1)),(fun u m ia t=>G u m (Rx ee ia) t),⟨bt,aj,by rw[fk.out]⟩,aq⟩;clear ac b7 K;simp only[execOp,resolve,invoke,builtin,pure_bind,Xs,Xx,Yf,mP,Yb];exact Eq.trans (congrArg (fun eu=>Result.andThen eu (fun a w'=>Result.ok (Next.value a) w')) A) rfl
  obtain⟨dp,dq,rfl⟩:=ao;refine Uq ?_;refine Q2 (.tmp 119) ⟨b,0,Xb⟩ rfl rfl rfl rfl ?_;refine Uq ?_;iterate 2 refine zs ?_
  refine Zv fun ga dt aw=>?_;have ig:=aw 23;have gh:=(x _).1 dt;have f1:=dD (d4.aA gh);have it:=dD (hb.trans (zR.aA gh));have j1:=dD ig;have fb:=dD<|bS d4.gr;have fc:=dD d4.box.box.lt;clear ig gh aw dt ac b7 K bn a9;have ij:=f1.box.box.c 10 rfl;(try simp only[Sli.x]at ij);rw[c9.out,ag.out]at ij;have ka:=f1.box.box.f;have be:Xo (ga.grownBy (ga.setCell ⟨b,10,Xb⟩ (O dp d5 dq)) (Xa b)):=⟨rfl,rfl,rfl,by simp[World.setCell],fun k _ G=>Below.heap_setCell _ _ _ _ (fun e=>G (by rw[e]))⟩;have j0:Xo (Mk w0 hi (ga.setCell ⟨b,10,Xb⟩ (O dp d5 dq)) b b9 dl {V with ca:=⟨dp,d5,dq⟩} {m with fs:=m.fs.set j ⟨⟨W,X,Y,Z,a0,a1,a2,a4⟩,1,B==1,av,(fi:Int),(ix:Int)⟩,ca:=Z7 m.ca ⟨(fi:Int),(ix:Int),(j:Int)⟩} vt T):=dD<|by
   have bj:=f1.out;refine⟨zd bj.gr be bj.hb,bj.hb,bj.box.set 10 _,bj.lr,bj.lc,bj.lb,?_⟩;have bw:=bj.rows.var be bj.box be.size (.inl rfl);have:=bw.setCa (s:=⟨dp,d5,dq⟩) (ca:=M++[P]++bz) ((j1.setCell (by have:=fc.out;simp;omega) _).base fb);rw[bb.out]at this bh;rw[bh.out];exact this
  have iu:=dD (it.trans (f1.keeps be));go_wp2;go_ret;exact .inr (.inr ⟨j,rfl,q,_,_,_,⟨dp,d5,dq⟩,io,fl,df,b9,dl,j0,fx,iu⟩)
theorem zoN(f:Nat->En)(n:Nat)(e):tab (jG f n e)=(tab f).set n e:=(zi3 f n e).symm
theorem zcn(f:Nat->En)(a:k<64)(e):zdk.enc (jG f k e)=splice (zdk.enc f) (k*3) (env e):=by show qN (tab (jG f k e))=splice (qN (tab f)) (k*3) (env e);rw[zoN];exact(JD (enc:=env) (k:=3) e rfl (tab f) k (fun _ _=>rfl) (Rx Ju a)).symm
theorem zkm{key:Ca->Int}:∀{l:List Ca}{lo N:Nat},l.Pairwise (fun a b=>key a<key b)->(∀c∈l,(lo:Int)<=key c/\key c<(N:Int))->l.length<=N-lo
 |[],_,_,_,_=>nZ _
 |c::l,lo,N,h,hb=>by
  obtain⟨f,d⟩:=Yx.1 h;have e:=hb c Sm
  have e:=zkm (lo:=(key c).toNat+1) (N:=N) d (fun d e=>by
   have:=f d e;have:=hb d (by simp[e])
   omega)
  simp only[Ym];omega
section
variable{m:Ma}{T:List (Nat->En)}
theorem qT.cA(h:qT m T):(∀c∈m.ca,0<=c.file/\c.file<=1000/\0<=c.idx/\c.idx<=1000/\0<=c.fr/\c.fr<m.fs.length)/\m.ca.length<=1000/\∀c∈m.ca,∃(k:Nat)(fr:Fr),c.fr=(k:Int)/\m.fs[k]?=Xa fr/\fr.f=c.file/\fr.x=c.idx:=by
 obtain⟨i,p,j⟩:=zo.1 h.ca;have e:∀c∈m.ca,(0<=c.file/\c.file<5/\0<=c.idx/\c.idx<12/\0<=c.fr/\c.fr<m.fs.length)/\(z1 m c.fr).f=c.file/\(z1 m c.fr).x=c.idx:=fun c a=>by
  have b:=i c a;unfold caE at b;split at b;·cases b
  rename_i r
  split at b;·cases b
  rename_i n
  have q:=h.cK (file:=c.file) Wm Wm;refine⟨Wm,?_,?_⟩;·grind
  grind
 refine⟨fun c a=>?_,?_,fun c a=>?_⟩;·grind
 ·refine nT (zkm (key:=zZ) (lo:=0) (N:=1000) j fun c a=>?_) (nR _)
  have:=(e c a).1;unfold zZ;omega
 obtain⟨s,f,g⟩:=e c a;have d:c.fr.toNat<m.fs.length:=Wm;have l:z1 m c.fr=m.fs[c.fr.toNat]:=by
  unfold z1;rw[gD,gE d];rfl
 rw[l]at f g;exact⟨c.fr.toNat,m.fs[c.fr.toNat],Wm,gE d,f,g⟩
theorem qT.alone(h:qT m T){n:Nat}(a:m.sp[k]?=Xa s)(g:(zr s.aC n).is=Xc):-1<=(zr s.aC n).file/\0<=(zr s.aC n).page/\(zr s.aC n).page<=1000/\((zr s.aC n).file<0->(zr s.aC n).sh=Xd):=by have b:=(h.aP s (mG a)).1;have f:=jJ.1 b;obtain⟨i,c,d,b,e⟩:=QZ g;have a:=f.2.all c (mG d);rw[e];unfold jS at a;unfold qq;have b:=q7.1 b;grind
end
section
variable{w0 w w':Xn}{hi b:Nat}{vl:Sli}{L:List Int}{V:MaV}{m:Ma}{vt:Sli}{T:List (Nat->En)}
theorem Mk.bK(h:Mk w0 hi w b vl L V m vt T)(c:(V.f.x).ownBlock=Xa k)(a:w.grownBy w' (Xa k))(i:w'.heap.size=w.heap.size)(f:zb q3 w0.heap.size w' (V.f.x) R)(d:zf4 {m with fs:=R}):Mk w0 hi w' b vl L V {m with fs:=R} vt T/\zR hi w w':=by refine⟨⟨zd h.gr a (h.rows.fs.lt k c).1,h.hb,h.box.beside a (fun g e=>by cases e;exact h.rows.fs.ne h.box Dc k c),h.lr,h.lc,h.lb,h.rows.bK c a i f d⟩,?_⟩;obtain⟨d,d⟩:=h.rows.fs.obj c;exact zR.kind a d (fun _ a=>absurd rfl a.2.1)
theorem Mk.cE(h:Mk w0 hi w b vl L V m vt T)(c:(V.s.x).ownBlock=Xa k)(a:w.grownBy w' (Xa k))(i:w'.heap.size=w.heap.size){d:List Int}(f:zb slE w0.heap.size w' (V.s.x) d):Mk w0 hi w' b vl L V {m with sl:=d} vt T/\zR hi w w':=by refine⟨⟨zd h.gr a (h.rows.sl.lt k c).1,h.hb,h.box.beside a (fun g e=>by cases e;exact h.rows.sl.ne h.box Dc k c),h.lr,h.lc,h.lb,h.rows.cE c a i f⟩,?_⟩;obtain⟨d,d⟩:=h.rows.sl.obj c;exact zR.kind a d (fun _ a=>absurd rfl a.2.2.1)
theorem Mk.bX(h:Mk w0 hi w b vl L V m vt T)(c:(vt.x).ownBlock=Xa k)(a:w.grownBy w' (Xa k))(i:w'.heap.size=w.heap.size){d:List (Nat->En)}(f:zb zdk w0.heap.size w' (vt.x) d):Mk w0 hi w' b vl L V m vt d/\zR hi w w':=by refine⟨⟨zd h.gr a (h.rows.tt.lt k c).1,h.hb,h.box.beside a (fun g e=>by cases e;exact h.rows.tt.ne h.box Dc k c),h.lr,h.lc,h.lb,h.rows.bX c a i f⟩,?_⟩;obtain⟨d,d⟩:=h.rows.tt.obj c;exact zR.kind a d (fun _ a=>absurd rfl a.2.2.2.2.2.2.2.1)
theorem Jp(h:zl k w A r){g:Nat}(a:A.ownBlock=Xa g):k<=g/\∃cs,w.heap[g]?=Xa (Xk cs 44 (0,0)):=by
 rcases h.1.2 with⟨rfl,_⟩|⟨v,r,r,rfl,r,r,_⟩;·cases a
 simp only[Value.ownBlock,Option.some.injEq]at a;grind
theorem Mk.setSb(h:Mk w0 hi w b vl L V m vt T)(c:(V.sb.x).ownBlock=Xa k)(a:w.grownBy w' (Xa k))(i:w'.heap.size=w.heap.size)(f:zl w0.heap.size w' (V.sb.x) r):Mk w0 hi w' b vl L V {m with sb:=r} vt T/\zR hi w w':=by
 obtain⟨e,r,r⟩:=Jp h.rows.sb c;refine⟨⟨zd h.gr a e,h.hb,h.box.beside a (fun g e=>?_),h.lr,h.lc,h.lb,h.rows.setSb r c a i f⟩,zR.kind a r (fun p a=>?_)⟩
 ·cases e;intro e;subst e;have r:w.heap[b]?=_:=h.box;grind
 have:=a.2.2.2.2.2.2.2.2 rfl;have:=h.rows.bJ k c;omega
end
theorem zfw(l:List Xq)(h:k<l.length)(u):splice l k [u]=l.set k u:=by rw[List.set_eq_take_append_cons_drop,kE h];simp[splice]
theorem zb.box(h:zb E k w A y)(v:A.ownBlock=Xa b):∃cs,zm w b E.ty cs:=by obtain⟨cs,a⟩:=h.obj v;exact⟨cs.toList,by unfold zm;rw[a]⟩
theorem zb.bN(h:zb E k w A y)(v:A.ownBlock=Xa b):∀j,w.frozen? ⟨b,j,Xb⟩=Xd:=by obtain⟨a,a⟩:=h.box v;exact a.box.f
theorem zb.cell{g:Nat}{l:List α}(h:zb E p w A l){o:Nat}(c:A.ownBlock=Xa g){x y:α}(f:l[k]?=Xa x){u:Xq}(s:E.enc y=(E.enc x).set o u)(r:o<E.k):
  zb E p (w.setCell ⟨g,k*E.k+o,Xb⟩ u) A (l.set k y)/\w.grownBy (w.setCell ⟨g,k*E.k+o,Xb⟩ u) (Xa g)/\(w.setCell ⟨g,k*E.k+o,Xb⟩ u).heap.size=w.heap.size:=by
 refine⟨⟨?_,Rx Xt h.2⟩,⟨rfl,rfl,rfl,by simp[World.setCell],fun j _ a=>Below.heap_setCell _ _ _ _ (fun e=>a (by rw[e]))⟩,by simp[World.setCell]⟩;have d:=(gS.1 f).1;refine⟨by rw[Xt,qF,Xt],?_⟩;rcases h.1.2 with⟨rfl,_⟩|⟨e,b,a,rfl,h,i,j,m,n,v⟩;·cases c
 simp only[Value.ownBlock,Option.some.injEq]at c;subst c;have q:zm w e E.ty a.toList:=by unfold zm;rw[i]
 have c:=q.set (k*E.k+o) u;refine .inr ⟨e,b,(a.toList.set (k*E.k+o) u).toArray,by rw[Xt],h,c,Rx Xt j,m,Si n,?_⟩;rw[Xt,List.toList_toArray,List.take_set,v,<-zfw _ ?_ u]
 ·refine JY o [u] (y:=y) ?_ (by simp;omega) l k f
  rw[s,zfw _ (by rw[E.len];exact r)]
 rw[qF];have:(k+1)*E.k<=l.length*E.k:=Yg _ d;grind
theorem J4:Loc hi k 67:=⟨Dc,Dc,Dc,Dc,Dc,Dc,Dc,Dc,fun h=>absurd h Dc⟩
theorem qT.refs(h:qT m T)(a:m.fs[k]?=Xa Y):0<=Y.r/\Y.r<=2000:=by have b:=(h.cf k Y a).1;have a:=zaI T 1 k;have a:zN m.ca k<=m.ca.length:=Ya;have a:=h.cA.2.1;have a:=h.tl;have a:=h.aI;omega
def Ent(w0:Xn)(hi b:Nat)(w:Xn)(L:List Int)(m:Ma)(vt:Sli)(T:List (Nat->En))(p n:Nat)(f:Nat->En)(w':Xn):Prop:=∃vl' L' V' m' T',Mk w0 hi w' b vl' L' V' m' vt T'/\zbr L L'/\zR hi w w'/\qT m' T'/\(m'.sp=m.sp/\m'.fl=m.fl/\m'.aB=m.aB/\m'.fs.length=m.fs.length)/\(T'=T\/∃e,T'=T.set p (jG f n e))/\(L=[]->m'=m/\T'=T)
theorem Ent.same(p n:Nat)(f:Nat->En)(hb:qT m T)(h:MkE w0 hi b w L V m vt T w'):Ent w0 hi b w L m vt T p n f w':=by obtain⟨a,c,d,e,g⟩:=h;exact⟨a,c,V,m,T,d,e,g,hb,⟨rfl,rfl,rfl,rfl⟩,.inl rfl,fun _=>⟨rfl,rfl⟩⟩
theorem znT(p n:Nat)(s:Sp)(f:Nat->En)(x:On)(B:Mk w0 hi w b vl L V m vt T)(gr:qT m T)(h5:m.sp[p]?=Xa s)(gv:T[p]?=Xa f)(d3:n<64)(i4:f n=en0)(Q:zr s.aC n=x)(bp:x.is=Xc)(ek:jQ m.fl.length s.aC):
  Xp prog 61 #[Xj (Xa ⟨b,0,Xb⟩),I6 (p:Int),I6 (n:Int),Xi (onv x).toArray] w fun e w'=>(∃v,e=Xl v)/\Ent w0 hi b w L m vt T p n f w':=by
 have eg:=gr.alone h5 (n:=n) (Rx Q bp);have d2:x.file<(m.fl.length:Int):=by rw[<-Q];exact ek n d3 (Rx Q bp)
 rw[Q]at eg;obtain⟨al1,al2,al3,al4⟩:=eg;obtain⟨jo,t,d,j,i,K⟩:=x;dsimp only at bp al1 al2 al3 al4 d2;subst bp;have js:=dD Q;have jr:=dD B;have a8:=dD gr;have g2:=dD h5;have di:=dD gv;have ft:=dD i4;obtain⟨a2,a3⟩:=kA T.length;have ja:p<a2:=by rw[<-a3.out];exact(gS.1 gv).1
 have cc:Xo ((zr s.aC n).is=Xc):=dD<|by rw[Q]
 have e5:Xo ((zr s.aC n).wr=d):=dD<|by rw[Q]
 have al:Xo ((zr s.aC n).sh=j/\(zr s.aC n).file=i/\(zr s.aC n).page=K):=dD<|by rw[Q];exact⟨rfl,rfl,rfl⟩
 obtain⟨ac,ch⟩:=kA w.heap.size;obtain⟨i1,bo⟩:=kB (w.alloc (Xk #[Xh Xc,Xh t,Xh d,Xh j,I6 i,I6 K] 67));have e2:=gA bo;have ip:=xPT bo ch;have i0:=dD<|B.aA e2.out;have fw:Xo (b<w.heap.size):=show _<_ from B.box.box.lt;have g4:Xo (_=i1):=bo;clear bo B gr h5 gv i4 Q ek;go_enter func61,ntmps61;go_upto_region 1 with fail;have ia:w.alloc (Xk (onv ⟨Xc,t,d,j,i,K⟩).toArray 67)=i1:=g4.out;rw[ia,ch.out];clear ia;have ev:=qY 4 i0.out;go_wp2_with fail;refine ev.mono ?_;clear ev;rintro e bi⟨fc,hu,g,rfl,f5,co,hd,jy,ie,yn,ib⟩;have ah:=dD f5;have e6:=dD<|(zR.aA e2).trans (i0.keeps co);have cm:Xo (zm bi ac 67 [Xh Xc,Xh t,Xh d,Xh j,I6 i,I6 K]):=ip.beside co (fun bj e=>by cases e;have:=fw.out;have:=ch.out;omega);have a4:=dD ib;have je:g<4:=by rcases ie with B|B<;>omega
 have g5:=dD yn;clear f5 co hd ie yn ib;by_cases ez:g=0
 ·have h7:(g==0)=Xc:=by simp[ez]
  clear ez;have A:=dD<|Ent.same p n f a8 ⟨fc,hu,ah,a4,e6⟩;go_wp2;exact Wq A.out
 have h7:(g==0)=Xd:=by simp[ez]
 have ce:Xo (L≠[]):=dD<|fun e=>ez (g5 e);clear ez;have fn:=cm.box.c 3 rfl;have dp:=cm.box.c 4 rfl;have fu:Xo (i<0->j=Xd):=dD<|fun B=>al4 Wm;clear al4;go_upto_region 6 with fail;go_cut[44] (fun hb hh=>∃ed:Bool,hb=Xh ed/\hh=bi/\Xo (ed=Xc->0<=i)/\Xo (ed=Xd->j=Xd))
 case first=>
  by_cases ax:0<=i
  ·have gy:decide ((0:Int)<=i)=Xc:=Si ax
   cases j with
   |true=>
    go_wp2;go_meet;exact⟨Xc,rfl,rfl,fun _=>ax,fun B=>(by cases B)⟩
   |false=>
    go_wp2;go_meet;exact⟨(g==1),rfl,rfl,fun _=>ax,fun _=>(by first|rfl|trivial)⟩
  have gy:decide ((0:Int)<=i)=Xd:=Si ax;have g3:Xo (j=Xd):=fu.out Wm;go_wp2;go_meet;exact⟨Xd,rfl,rfl,fun B=>(by cases B),fun _=>g3.out⟩
 obtain⟨ed,rfl,b1,fy,fx⟩:=hcut;rw[b1];clear b1 fn dp;cases ed with
 |true=>
  have ax:=fy.out rfl;obtain⟨a9,rfl⟩:∃a9:Nat,i=(a9:Int):=⟨i.toNat,Wm⟩;obtain⟨ab,rfl⟩:∃ab:Nat,K=(ab:Int):=⟨K.toNat,Wm⟩;obtain⟨fl,bd⟩:∃fl,Xo (m.fl[a9]?=Xa fl):=⟨_,gE Wm⟩;obtain⟨_,_,_,fn,dp,fo⟩:=cm.box.k6;go_upto_region 7 with fail;have fq:=ah.box.box.c 8 rfl;obtain⟨_,_,aw,_,em⟩:=qH.rows ah.rows.at.fl;have l:zbs bi V.fl.a m.fl:=by
   simp only[vJ]at aw;rw[aw.1];exact em
  have gz:V.fl.n=m.fl.length:=by
   simp only[vJ]at aw;exact aw.2.1
  obtain⟨ju,ey,jv,jw,_,eq⟩:=l a9 fl bd.out;obtain⟨-,gn⟩:=eq bi (zc.refl _);obtain⟨gp,bx⟩:=kB V.fl.n;have i6:(a9:Int)<(gp:Int):=by
   have:=(gS.1 bd).1;omega
  (try simp only[Sli.x]at fq);rw[ey,bx]at fq;obtain⟨gl,c9⟩:=kA fl.bl.length;rw[c9.out]at gn;clear aw em l gz ey eq bx;by_cases et:gl<=ab
  ·have eu:decide ((gl:Int)<=(ab:Int))=Xc:=Si et
   go_quiet(fail);obtain⟨cl,a6⟩:=kB (bi.drewN nq);have dh:Xo (zc bi cl):=dD (by rw[<-a6];exact(show Below _ _ _ from bD (bR _ _) _));rw[a6];clear a6 fq gn fn dp fo;have A:=dD<|Ent.same p n f a8 ⟨fc,hu,ah.aA dh,a4,e6.trans (zR.aA dh)⟩;go_wp2;exact Wq A.out
  have eu:decide ((gl:Int)<=(ab:Int))=Xd:=Si et;obtain⟨gk,fv⟩:∃gk,Xo (fl.bl[ab]?=Xa gk):=⟨_,gE (by rw[c9.out];omega)⟩;go_quiet(fail);obtain⟨cl,a6⟩:=kB (bi.drewN nq);have dh:Xo (zc bi cl):=dD (by rw[<-a6];exact(show Below _ _ _ from bD (bR _ _) _));rw[a6];clear a6 fq gn fn dp fo;have ck:=dD (ah.aA dh);have dj:=dD (e6.trans (zR.aA dh));have ec:=dD (cm.aA dh);obtain⟨_,_,_,_,dp,fo⟩:=ec.box.k6;have ei:=zmf a9 ab fl gk ck a8.cA.1 bd fv Wm (by have:=(a8.cK (file:=(a9:Int)) Wm d2).2;omega) a8.cA.2.1;go_wp2_with fail;refine ei.mono ?_;clear ei dp fo;rintro e ao az;have d4:(e=Xl (I6 (-1))/\MkE w0 hi b w L V m vt T ao)\/∃(a:Nat)(dl:MaV)(Z:Ma)(M:Fr),e=Xl (I6 (a:Int))/\MkE w0 hi b w L dl Z vt T ao/\qT Z T/\Z.fs[a]?=Xa M/\M.f=(a9:Int)/\M.x=(ab:Int)/\(Z.sp=m.sp/\Z.fl=m.fl/\Z.aB=m.aB/\Z.fs.length=m.fs.length):=by
   rcases az with⟨ej,ar⟩|⟨iw,j5,gw,gx,ej,ar⟩|⟨jf,ej,dy,jk,c,j1,jx,i7,fp,h4,ar⟩;·exact .inl ⟨ej,ar.trans a4 dj⟩
   ·obtain⟨a,M,jg,jh,ji,jj⟩:=a8.cA.2.2 iw j5;exact .inr ⟨a,V,m,M,by rw[ej,jg],ar.trans a4 dj,a8,jh,ji.trans gw,jj.trans gx,rfl,rfl,rfl,rfl⟩
   refine .inr ⟨jf,_,_,⟨jk,1,c,j1,a9,ab⟩,ej,ar.trans a4 dj,a8.cache i7 fp ⟨Wm,d2⟩ ⟨Wm,?_⟩ h4,?_,rfl,rfl,rfl,rfl,rfl,Xt⟩;·unfold bkN;rw[tN,gD,bd.out];simp only[Option.getD_some];have:=c9.out;omega
   exact sF (gS.1 i7).1
  have iq:Xo (zm ao ac 67 [Xh Xc,Xh t,Xh d,Xh j,I6 (a9:Int),I6 (ab:Int)]):=dD<|by
   rcases az with⟨_,_,_,_,_,bb⟩|⟨_,_,_,_,_,_,_,_,_,bb⟩|⟨_,_,_,_,_,_,_,_,_,_,_,_,_,_,bb⟩;·exact bb.1 _ _ _ ec J4
   ·exact bb.1 _ _ _ ec J4
   exact bb.1 _ _ _ ec J4
  clear az;rcases d4 with⟨rfl,ar⟩|⟨a,dl,Z,M,rfl,⟨de,ga,b7,bq,f1⟩,cz,bb,en,ep,b0⟩
  ·have ca:=dD ar;clear ar;have A:Xo (Ent w0 hi b w L m vt T p n f ao):=show Ent _ _ _ _ _ _ _ _ _ _ _ _ from Ent.same p n f a8 ca.out;go_wp2;exact Wq A.out
  have bh:=dD b7;have g7:=dD f1;have gd:=dD bq;have e0:=dD cz;have fe:=dD bb;have cd:Xo (M.f=(a9:Int)/\M.x=(ab:Int)):=show _/\_ from⟨en,ep⟩;have am:=dD b0;obtain⟨jb,jc⟩:=cz.refs bb;obtain⟨h9,cg⟩:=kA Z.fs.length;have j7:a<h9:=by rw[<-cg.out];exact(gS.1 bb).1
  have j8:(a:Int)<(h9:Int):=Wm;have h3:¬(a:Int)<0:=Wm;clear b7 bq f1 cz bb en ep b0;obtain⟨bj,iy,a7⟩:=bh.rows.fs.aG (by rw[cg.out];omega);rw[cg.out]at a7;have q:Xo (dl.f.x=O (Xa ⟨bj,0,Xb⟩) h9 iy):=a7;have ho:=bh.box.box.c 1 rfl;(first|rw[q.out]at ho|rw[show O _ _ _=_ from q.out]at ho);have l:=bh.rows.fs;(first|rw[q.out]at l|rw[show O _ _ _=_ from q.out]at l);have ak:=dD l;have av:=l.one fe.out;have j3:ao.cell? ⟨bj,a*13+8,Xb⟩=Xa (I6 M.r):=by
   have:=av 8 _ rfl;rw[zX,Yo,zA]at this;exact this
  clear av l a7;have hp:=ak.bN rfl;go_upto_region 11 with fail;obtain⟨bs,cp,dd⟩:=ak.cell (k:=a) (o:=8) rfl fe (y:={M with r:=M.r+1}) (u:=I6 (M.r+1)) rfl Dc;obtain⟨fj,cy⟩:=kB (ao.setCell ⟨bj,a*13+8,Xb⟩ (I6 (M.r+1)));have i3:ao.setCell ⟨bj,a*q3.k+8,Xb⟩ (I6 (M.r+1))=fj:=cy;rw[i3]at bs cp dd;rw[cy];rw[<-q.out]at bs;clear i3 cy hp;have bm:=bh.bK (Rr q.out) cp dd bs (bh.rows.ap.2.inc e0 fe);have gg:=dD bm.1;have ii:=dD<|g7.trans bm.2;have ir:Xo (zm fj ac 67 [Xh Xc,Xh t,Xh d,Xh j,I6 (a9:Int),I6 (ab:Int)]):=bm.2.1 _ _ _ iq J4;have aj:Xo (∀c7:Bool,(c7=Xc->j=Xc/\d=Xc)->qT {Z with fs:=Z.fs.set a {M with r:=M.r+1}} (T.set p (jG f n ⟨1,(a:Int),c7⟩))):=show∀c7:Bool,_ from fun c7 d6=>e0.hold fe (by rw[cd.1];omega) (Rx am.1 g2) di d3 ft cc (Rx cd.1 al.2.1) (Rx cd.2 al.2.2) (fun e=>by rw[al.1,e5.out];exact d6 e);clear bm bs cp dd ho j3;obtain⟨N,a5,F⟩:=gg.rows.tt.aG (by rw[a3.out];omega);rw[a3.out]at F;have h:Xo (vt.x=O (Xa ⟨N,0,Xb⟩) a2 a5):=F;clear F;obtain⟨z,R⟩:=Ww fun c=>c.cell? ⟨b,12,Xb⟩=Xa (O (Xa ⟨N,0,Xb⟩) a2 a5)/\zm c ac 67 [Xh Xc,Xh t,Xh d,Xh j,I6 (a9:Int),I6 (ab:Int)];have S:Xo (∀c H an eb c6,Mk w0 hi c b H an eb c6 vt T->c.cell? ⟨b,12,Xb⟩=Xa (O (Xa ⟨N,0,Xb⟩) a2 a5)):=dD<|fun c H an eb c6 er=>by
   have:=er.box.box.c 12 rfl;(first|rw[h.out]at this|rw[show O _ _ _=_ from h.out]at this);exact this
  have C:z fj.drew:=(R _).2 ⟨S _ _ _ _ _ (gg.aA (gW _)),ir.aA (gW _)⟩;have X:MkE w0 hi b w L dl {Z with fs:=Z.fs.set a {M with r:=M.r+1}} vt T fj.drew:=⟨de,ga,gg.aA (gW _),gd,ii.trans (zR.aA (gW _))⟩;have ew:=fun g:zh z=>((R _).1 g.holds).1;have d7:=fun g:zh z=>((R _).1 g.holds).2.box.c 2 rfl;have d9:=fun g:zh z=>((R _).1 g.holds).2.box.c 3 rfl;have ay:Nonempty (zh z):=⟨⟨_,C⟩⟩;have c0:(p:Int)<(a2:Int):=Wm;have es:(n:Int)<64:=Wm;cases j<;>cases d
  all_goals(
   refine zH (I:=z) 21 [(15,fun v=>∃x:Int,v=I6 x)] (fun c=>MkE w0 hi b w L dl {Z with fs:=Z.fs.set a {M with r:=M.r+1}} vt T c) C X zY Kr rfl rfl Dc (by intro x Q;simp only[mC,nM,or_false]at Q;subst Q;exact⟨_,0,rfl⟩) Kr ?_;simp only[Xv,Xw];refine zg ?_;refine zQ (.tmp 92) ⟨b,0,Xb⟩ rfl rfl rfl rfl ?_;refine Uq ?_;iterate 8 refine zg ?_
   iterate 4 (first|(refine Q3 rfl ?_;simp only[Yc,sB,sS,sZ])|(refine ZS rfl rfl rfl (fun bf aa=>?_);go_big_quiet_op;refine aa _ ?_;clear aa bf))
   (first|(refine Q3 rfl ?_;simp only[Yc,sB,sS,sZ])|(refine ZS rfl rfl rfl (fun bf aa=>?_);go_big_quiet_op;refine aa _ ?_;clear aa bf));(first|(refine Q3 rfl ?_;simp only[Yc,sB,sS,sZ])|(refine zy rfl rfl (fun _ c=>MkE w0 hi b w L dl {Z with fs:=Z.fs.set a {M with r:=M.r+1}} vt T c) (fun w' bl au=>by obtain⟨H,an,P,b4,b2⟩:=au;refine zO.call [Xj (Xa ⟨b,0,Xb⟩),I6 2] rfl func22 rfl rfl rfl ?_;refine(qY 2 P).mono ?_;rintro e fd⟨ag,dk,x,rfl,a0,U,_,_,_,_,ae⟩;exact⟨_,rfl,(R _).2 ⟨S _ _ _ _ _ a0,(P.keeps U).1 _ _ _ ((R _).1 bl).2 J4⟩,⟨x,rfl⟩,ag,dk,a0,b4.trans ae,b2.trans (P.keeps U)⟩) (fun ic ex=>?_);obtain⟨jp,rfl⟩:=ex;simp only[Yc,sB,sS,sZ]));(first|(refine Q3 rfl ?_;simp only[Yc,sB,sS,sZ])|(refine ZS rfl rfl rfl (fun bf aa=>?_);go_big_quiet_op;refine aa _ ?_;clear aa bf));iterate 4 refine zg ?_
   refine qE fun fk cu cs=>?_;obtain⟨bt,fg,b9,b6,b3⟩:=cs;have e9:=dD b9;have cj:=dD b6;have g9:=dD b3;clear b9 b6 b3 cu C X ew d7 d9 ay;have gi:Xo (zb zdk w0.heap.size fk (O (Xa ⟨N,0,Xb⟩) a2 a5) T):=show zb _ _ _ _ _ by rw[<-h.out];exact e9.rows.tt
   refine zx (E:=zdk) rfl (.tmp 112) (.tmp 110) 55 rfl w0.heap.size _ T gi N p (n*3) rfl f (jG f n ⟨1,(a:Int),_⟩) di (env ⟨1,(a:Int),_⟩) Kr (zcn f d3 _) (by show n*3+3<=192;omega) (enE.one _) ⟨N,p*192+n*3,Xb⟩ rfl rfl _ rfl rfl ?_;intro dn G W a1;rw[<-h.out]at G;have D:=e9.bX (Rr h.out) W a1 G;have ea:Xo _:=D.1;have e7:=dD<|g9.trans D.2;clear D G W a1;have A:Xo (Ent w0 hi b w L m vt T p n f dn):=show Ent _ _ _ _ _ _ _ _ _ _ _ _ from⟨bt,fg,_,_,_,ea,cj,e7,aj _ (by intro e;first|exact⟨rfl,rfl⟩|cases e),⟨am.1,am.2.1,am.2.2.1,List.length_set.trans am.2.2.2⟩,.inr ⟨_,rfl⟩,fun B=>absurd B ce⟩;go_wp2
   exact Wq A.out)
 |false=>
  have h6:=fx.out rfl;subst h6;have c8:=ah.box.box.c 3 rfl;obtain⟨af,d5⟩:=kB V.s.n;have be:Xo (m.sl.length=af):=dD<|Ry d5 ah.rows.sl.n.symm;(try simp only[Sli.x]at c8);rw[d5]at c8;clear d5;go_upto_region 12 with fail;go_cut[113] (fun fa hh=>∃fm:Bool,fa=Xh fm/\hh=bi/\Xo (fm=Xc->0<af))
  case first=>
   by_cases ef:g=2
   ·have gq:(g==2)=Xc:=by simp[ef]
    clear ef;go_wp2;go_meet;exact⟨_,rfl,rfl,fun B=>Si B⟩
   have gq:(g==2)=Xd:=(by simp[ef]);clear ef;go_wp2;go_meet;exact⟨Xd,rfl,rfl,fun B=>(by cases B)⟩
  obtain⟨fm,rfl,b1,fz⟩:=hcut;rw[b1];clear b1;cases fm with
  |true=>
   have jd:=fz.out rfl;have Y:=qY (af:Int) ah.out;go_wp2_with fail;refine Y.mono ?_;clear Y;rintro e cl⟨ag,dk,bu,rfl,a0,U,hf,jq,ig,_,ae⟩;obtain⟨a,rfl⟩:∃a:Nat,bu=(a:Int):=⟨bu.toNat,Wm⟩;have eo:a<af:=(by rcases ig with B|B<;>omega);have i8:(a:Int)<(af:Int):=Wm;have ck:=dD a0;have dj:=dD (e6.trans (ah.keeps U));have e8:=dD (a4.trans ae);clear a0 U hf jq ig ae c8;obtain⟨bj,iz,a7⟩:=ck.rows.sl.aG (by rw[be.out];omega);rw[be.out]at a7;have q:=dD a7;have c8:=ck.box.box.c 3 rfl;(first|rw[q.out]at c8|rw[show O _ _ _=_ from q.out]at c8);have l:=ck.rows.sl;(first|rw[q.out]at l|rw[show O _ _ _=_ from q.out]at l);have ak:=dD l;obtain⟨dz,ci⟩:∃dz,Xo (m.sl[a]?=Xa dz):=⟨_,gE (Rx be.out eo)⟩;have av:=l.one ci.out;have j2:cl.cell? ⟨bj,a,Xb⟩=Xa (I6 dz):=by
    have:=av 0 _ rfl;rw[zX,Yo,zA]at this;simpa[slE,Nat.mul_one]using this
   clear av l a7;by_cases f0:dz=0
   ·have h8:(dz==0)=Xc:=by simp[f0]
    have g6:Xo (m.sl[a]?=Xa 0):=dD (by rw[ci.out,f0]);clear f0;have hp:=ak.bN rfl;go_upto_region 16 with fail;obtain⟨br,aq,dc⟩:=ak.cell (k:=a) (o:=0) rfl ci (y:=1) (u:=I6 1) rfl Dc;obtain⟨ao,cx⟩:=kB (cl.setCell ⟨bj,a,Xb⟩ (I6 1));have i2:cl.setCell ⟨bj,a*slE.k+0,Xb⟩ (I6 1)=ao:=(by rw[<-cx];simp[slE]);rw[i2]at br aq dc;rw[cx];rw[<-q.out]at br;clear i2 cx hp;have cv:=ck.cE (Rr q.out) aq dc br;have bh:=dD cv.1;have g7:=dD<|dj.trans cv.2;clear cv br aq dc c8 j2;have bv:Xo (m.sb.length=af):=show _=_ by rw[a8.bF,be.out]
    obtain⟨ap,cn,eh⟩:∃ap cn,V.sb.x=O (Xa ⟨ap,0,Xb⟩) af cn:=by
     have i5:=bh.rows.sb.1;have j9:({m with sl:=m.sl.set a 1}:Ma).sb.length=af:=bv.out;rw[j9]at i5;rcases i5.2 with⟨_,ef⟩|⟨ap,gm,j0,j4,_⟩;·omega
     exact⟨ap,gm,j4⟩
    have ai:=dD eh;clear eh;obtain⟨z,R⟩:=Ww fun c=>c.cell? ⟨b,4,Xb⟩=Xa (O (Xa ⟨ap,0,Xb⟩) af cn);have S:Xo (∀c H an c6,Mk w0 hi c b H an V c6 vt T->c.cell? ⟨b,4,Xb⟩=Xa (O (Xa ⟨ap,0,Xb⟩) af cn)):=dD<|fun c H an c6 er=>by
     have:=er.box.box.c 4 rfl;(first|rw[ai.out]at this|rw[show O _ _ _=_ from ai.out]at this);exact this
    have C:z ao.drew:=(R _).2 (S _ _ _ _ (bh.aA (gW _)));have X:MkE w0 hi b w L V {m with sl:=m.sl.set a 1} vt T ao.drew:=⟨ag,dk,bh.aA (gW _),e8,g7.trans (zR.aA (gW _))⟩;have ew:=fun g:zh z=>(R _).1 g.holds;have ay:Nonempty (zh z):=⟨⟨_,C⟩⟩;refine zH (I:=z) 10 [(8,fun v=>∃dy:List Int,v=Xi (pgc dy).toArray/\dy.length=8)] (fun c=>MkE w0 hi b w L V {m with sl:=m.sl.set a 1} vt T c) C X zY Kr rfl rfl Dc (Sa ⟨_,zt,rfl,rfl⟩) Kr ?_;simp only[Xv,Xw];refine zg ?_;refine zQ (.tmp 149) ⟨b,0,Xb⟩ rfl rfl rfl rfl ?_;refine Uq ?_;iterate 6 refine zg ?_
    refine zy rfl rfl (fun _ c=>MkE w0 hi b w L V {m with sl:=m.sl.set a 1} vt T c) (fun w' bl au=>?_) (fun ic ex=>?_);·obtain⟨H,an,P,b4,b2⟩:=au;refine zO.call [Xj (Xa ⟨b,0,Xb⟩)] rfl func25 rfl rfl rfl ?_;refine(zdx P).mono ?_;rintro e fd⟨de,ga,dy,rfl,jm,b7,aq,bq⟩;exact⟨_,rfl,(R _).2 (S _ _ _ _ b7),⟨dy,rfl,jm⟩,de,ga,b7,b4.trans bq,b2.trans (P.keeps aq)⟩
    obtain⟨ha,rfl,f9⟩:=ex;have g0:=dD f9;clear f9;refine Uq ?_;refine zg ?_;refine qE fun gj gu gs=>?_;obtain⟨df,gc,b8,b5,f2⟩:=gs;have fh:=dD b8;have bg:=dD b5;have ff:=dD f2;clear b8 b5 f2 gu C X ew ay;have il:Xo (zl w0.heap.size gj (O (Xa ⟨ap,0,Xb⟩) af cn) m.sb):=show zl _ _ _ _ by rw[<-ai.out];exact fh.rows.sb
    refine Qc rfl (.tmp 158) (.tmp 157) rfl w0.heap.size _ m.sb il ap a rfl (Rx bv.out eo) ha g0 ⟨ap,a*8,Xb⟩ rfl rfl rfl ?_;intro dm db ee fb;rw[<-ai.out]at db;have cw:=fh.setSb (Rr ai.out) ee fb db;have bw:=dD cw.1;have g8:=dD<|ff.trans cw.2;clear cw db ee fb;obtain⟨N,a5,F⟩:=bw.rows.tt.aG (by rw[a3.out];omega);rw[a3.out]at F;have h:=dD F;have im:Xo (zb zdk w0.heap.size dm (O (Xa ⟨N,0,Xb⟩) a2 a5) T):=show zb _ _ _ _ _ by rw[<-h.out];exact bw.rows.tt
    have dg:=bw.box.box.c 12 rfl;(first|rw[h.out]at dg|rw[show O _ _ _=_ from h.out]at dg);have c0:(p:Int)<(a2:Int):=Wm;have es:(n:Int)<64:=Wm;clear F;go_wp2_with(refine zx (E:=zdk) rfl (.tmp 168) (.tmp 166) 55 rfl w0.heap.size _ T im N p (n*3) rfl f (jG f n ⟨2,(a:Int),Xd⟩) di (env ⟨2,(a:Int),Xd⟩) Kr (zcn f d3 _) (by show n*3+3<=192;omega) (enE.one _) ⟨N,p*192+n*3,Xb⟩ rfl rfl (Xi (env ⟨2,(a:Int),Xd⟩).toArray) rfl rfl ?_)
    intro dn G W a1;rw[<-h.out]at G;have D:=bw.bX (Rr h.out) W a1 G;have ea:Xo (Mk w0 hi dn b df gc V {m with sl:=m.sl.set a 1,sb:=m.sb.set a ha} vt (T.set p (jG f n ⟨2,(a:Int),Xd⟩))):=D.1;have e7:=dD<|g8.trans D.2;have aj:Xo (qT {m with sl:=m.sl.set a 1,sb:=m.sb.set a ha} (T.set p (jG f n ⟨2,(a:Int),Xd⟩))):=a8.swap g6 g2 di d3 ft cc al.1;clear D G W a1 dg;have A:Xo (Ent w0 hi b w L m vt T p n f dn):=show Ent _ _ _ _ _ _ _ _ _ _ _ _ from⟨df,gc,_,_,_,ea,bg,e7,aj,⟨rfl,rfl,rfl,rfl⟩,.inr ⟨_,rfl⟩,fun B=>absurd B ce⟩;go_wp2;exact Wq A.out
   have h8:(dz==0)=Xd:=(by simp[f0]);clear f0;have A:=dD<|Ent.same p n f a8 ⟨ag,dk,ck,e8,dj⟩;go_wp2;exact Wq A.out
  |false=>
   go_upto_region 2 with fail;clear c8;have bz:=zdx ah.out;go_wp2_with fail;refine bz.mono ?_;clear bz;rintro e io⟨jn,jt,jl,rfl,f8,f6,cq,f3⟩;obtain⟨dq,dr,ds,dt,du,dv,dw,dx,rfl⟩:=zc2 jl f8;simp only[pgc,mP,Yb];have gh:=dD f6;have ij:=dD (e6.trans (ah.keeps cq));have it:Xo (zm io ac 67 [Xh Xc,Xh t,Xh d,Xh Xd,I6 i,I6 K]):=(ah.keeps cq).1 _ _ _ cm J4;have ge:=dD (a4.trans f3);clear f8 f6 cq f3;have Y:=qY 2 gh.out;go_wp2_with fail;refine Y.mono ?_;clear Y;rintro e gj⟨df,gc,bu,rfl,b8,cr,_,_,_,_,b5⟩;have fh:=dD b8;have ff:=dD (ij.trans (gh.keeps cr));have iu:Xo (zm gj ac 67 [Xh Xc,Xh t,Xh d,Xh Xd,I6 i,I6 K]):=(gh.keeps cr).1 _ _ _ it J4;have bg:=dD (ge.trans b5);clear b8 cr b5;have el:=zh8 ⟨⟨dq,dr,ds,dt,du,dv,dw,dx⟩,1,bu==1,Xd,-1,0⟩ fh ⟨fun _=>rfl,fun _ e=>absurd rfl e⟩;go_wp2_with fail;refine el.mono ?_;clear el;rintro e dm(⟨rfl,ar⟩|⟨a,dy,rfl,i9,fp,hg,ik,f7,f4,da⟩)
   ·have ca:=dD<|ar.trans bg ff.out;clear ar;have A:Xo (Ent w0 hi b w L m vt T p n f dm):=show Ent _ _ _ _ _ _ _ _ _ _ _ _ from Ent.same p n f a8 ca.out;go_wp2;exact Wq A.out
   have ih:=dD i9;have g1:=dD fp;have bw:=dD f7;have g8:=dD (ff.trans da);have iv:Xo (zm dm ac 67 [Xh Xc,Xh t,Xh d,Xh Xd,I6 i,I6 K]):=da.1 _ _ _ iu J4;have gf:=dD (bg.trans f4);clear i9 fp f7 f4 da;have h3:(0:Int)<=(a:Int):=Wm;have j6:decide ((0:Int)<=(a:Int))=Xc:=Sm;have aj:Xo (∀c7:Bool,(c7=Xc->d=Xc)->qT {m with fs:=m.fs.set a ⟨⟨dq,dr,ds,dt,du,dv,dw,dx⟩,1,bu==1,Xd,-1,0⟩} (T.set p (jG f n ⟨1,(a:Int),c7⟩))):=dD<|fun c7 d6=>a8.mine ih g1 g2 di d3 ft cc al.1 (fun e=>by rw[e5.out];exact d6 e);go_upto_region 4 with fail;obtain⟨N,a5,F⟩:=bw.rows.tt.aG (by rw[a3.out];omega);rw[a3.out]at F;have h:Xo (vt.x=O (Xa ⟨N,0,Xb⟩) a2 a5):=F;clear F;obtain⟨z,R⟩:=Ww fun c=>c.cell? ⟨b,12,Xb⟩=Xa (O (Xa ⟨N,0,Xb⟩) a2 a5)/\zm c ac 67 [Xh Xc,Xh t,Xh d,Xh Xd,I6 i,I6 K];have S:Xo (∀c H an eb c6,Mk w0 hi c b H an eb c6 vt T->c.cell? ⟨b,12,Xb⟩=Xa (O (Xa ⟨N,0,Xb⟩) a2 a5)):=dD<|fun c H an eb c6 er=>by
    have:=er.box.box.c 12 rfl;(first|rw[h.out]at this|rw[show O _ _ _=_ from h.out]at this);exact this
   have C:z dm.drew:=(R _).2 ⟨S _ _ _ _ _ (bw.aA (gW _)),iv.aA (gW _)⟩;have X:MkE w0 hi b w L V {m with fs:=m.fs.set a ⟨⟨dq,dr,ds,dt,du,dv,dw,dx⟩,1,bu==1,Xd,-1,0⟩} vt T dm.drew:=⟨hg,ik,bw.aA (gW _),gf,g8.trans (zR.aA (gW _))⟩;have ew:=fun g:zh z=>((R _).1 g.holds).1;have d7:=fun g:zh z=>((R _).1 g.holds).2.box.c 2 rfl;have d9:=fun g:zh z=>((R _).1 g.holds).2.box.c 3 rfl;have ay:Nonempty (zh z):=⟨⟨_,C⟩⟩;have c0:(p:Int)<(a2:Int):=Wm;have es:(n:Int)<64:=Wm;cases d
   all_goals(
    refine zH (I:=z) 17 [(11,fun v=>∃x:Int,v=I6 x)] (fun c=>MkE w0 hi b w L V {m with fs:=m.fs.set a ⟨⟨dq,dr,ds,dt,du,dv,dw,dx⟩,1,bu==1,Xd,-1,0⟩} vt T c) C X zY Kr rfl rfl Dc (by intro x Q;simp only[mC,nM,or_false]at Q;subst Q;exact⟨_,0,rfl⟩) Kr ?_;simp only[Xv,Xw];refine zg ?_;refine zQ (.tmp 24) ⟨b,0,Xb⟩ rfl rfl rfl rfl ?_;refine Uq ?_;iterate 8 refine zg ?_
    (first|(refine Q3 rfl ?_;simp only[Yc,sB,sS,sZ])|(refine ZS rfl rfl rfl (fun bf aa=>?_);go_big_quiet_op;refine aa _ ?_;clear aa bf));(first|(refine Q3 rfl ?_;simp only[Yc,sB,sS,sZ])|(refine zy rfl rfl (fun _ c=>MkE w0 hi b w L V {m with fs:=m.fs.set a ⟨⟨dq,dr,ds,dt,du,dv,dw,dx⟩,1,bu==1,Xd,-1,0⟩} vt T c) (fun w' bl au=>by obtain⟨H,an,P,b4,b2⟩:=au;refine zO.call [Xj (Xa ⟨b,0,Xb⟩),I6 2] rfl func22 rfl rfl rfl ?_;refine(qY 2 P).mono ?_;rintro e fd⟨ag,dk,x,rfl,a0,U,_,_,_,_,ae⟩;exact⟨_,rfl,(R _).2 ⟨S _ _ _ _ _ a0,(P.keeps U).1 _ _ _ ((R _).1 bl).2 J4⟩,⟨x,rfl⟩,ag,dk,a0,b4.trans ae,b2.trans (P.keeps U)⟩) (fun ic ex=>?_);obtain⟨jp,rfl⟩:=ex;simp only[Yc,sB,sS,sZ]));(first|(refine Q3 rfl ?_;simp only[Yc,sB,sS,sZ])|(refine ZS rfl rfl rfl (fun bf aa=>?_);go_big_quiet_op;refine aa _ ?_;clear aa bf));iterate 4 refine zg ?_
    refine qE fun fk cu cs=>?_;obtain⟨bt,fg,b9,b6,b3⟩:=cs;have e9:Xo (Mk w0 hi fk b bt fg V {m with fs:=m.fs.set a ⟨⟨dq,dr,ds,dt,du,dv,dw,dx⟩,1,bu==1,Xd,-1,0⟩} vt T):=b9;have cj:=dD b6;have g9:=dD b3;clear b9 b6 b3 cu C X ew d7 d9 ay;have gi:Xo (zb zdk w0.heap.size fk (O (Xa ⟨N,0,Xb⟩) a2 a5) T):=show zb _ _ _ _ _ by rw[<-h.out];exact e9.rows.tt
    refine zx (E:=zdk) rfl (.tmp 40) (.tmp 38) 55 rfl w0.heap.size _ T gi N p (n*3) rfl f (jG f n ⟨1,(a:Int),_⟩) di (env ⟨1,(a:Int),_⟩) Kr (zcn f d3 _) (by show n*3+3<=192;omega) (enE.one _) ⟨N,p*192+n*3,Xb⟩ rfl rfl _ rfl rfl ?_;intro dn G W a1;rw[<-h.out]at G;have D:=e9.bX (Rr h.out) W a1 G;have ea:Xo _:=D.1;have e7:=dD<|g9.trans D.2;clear D G W a1;have A:Xo (Ent w0 hi b w L m vt T p n f dn):=show Ent _ _ _ _ _ _ _ _ _ _ _ _ from⟨bt,fg,_,_,_,ea,cj,e7,aj _ (by intro e;first|rfl|cases e),⟨rfl,rfl,rfl,Xt⟩,.inr ⟨_,rfl⟩,fun B=>absurd B ce⟩;go_wp2
    exact Wq A.out)
end
section
def Z2(m:Ma)(x:On)(e:En):List Int×Bool×Int:=
 if x.is=Xd then(zt,Xd,5)
 else if e.kind=1 then(pgL (z1 m e.n).p,decide ((z1 m e.n).f<0),0)
 else if e.kind=2 then(qU m.sb m.sq e.n,Xc,0)
 else if x.file<0 then(zt,Xd,0)
 else if bkN m x.file<=x.page then(zt,Xd,9)
 else(zU m x.file x.page,Xd,0)
theorem zdt(a:m.sp[k]?=Xa s)(p:b<64):ZY m (k:Int) (b:Int)=Z2 m (zr s.aC b) (ze s b):=by have p:=(gS.1 a).1;unfold ZY;rw[kF Wm];simp only[tN,gD,a,Option.getD_some];rfl
theorem zkb{n:Int}(h:z<0\/(m.sp.length:Int)<=z\/n<0\/63<n):ZY m z n=(zt,Xd,5):=by unfold ZY;rw[kE h]
def yn(b:Bool):Int:=if b=Xc then 121 else 110
theorem zfN{b:Type}{f g:α->List b}:∀{l:List α},(∀x∈l,f x=g x)->l.flatMap f=l.flatMap g
 |[],_=>rfl
 |x::l,h=>by
  rw[Oa,Oa,h x Sm,zfN fun y a=>h y (by simp[a])]
theorem zdv{x:On}{e':En}(d:e'.kind=Z.kind)(f:e'.n=Z.n)(a:Z.kind=1->(z1 m' Z.n).p=(z1 m Z.n).p/\((z1 m' Z.n).f<0↔(z1 m Z.n).f<0))(b:Z.kind=2->qU m'.sb m'.sq Z.n=qU m.sb m.sq Z.n)
  (hb:∀file,bkN m' file=bkN m file)(c:∀file idx,zU m' file idx=zU m file idx):Z2 m' x e'=Z2 m x Z:=by grind[Z2]
theorem zit(a:m'.ca=m.ca)(e:m'.fl=m.fl)(b:m'.db=m.db)(d:m'.dq=m.dq)(f:∀c∈m.ca,(z1 m' c.fr).p=(z1 m c.fr).p)(file idx:Int):zU m' file idx=zU m file idx:=by grind[zU,QM,List.mem_of_find?_eq_some,zg2,JC]
section
variable{m:Ma}{T:List (Nat->En)}
theorem qT.marks(h:qT m T){p:Pg}{u d:Bool}(c:m.fs[k]?=Xa Y)(t:Y.r≠0):qT {m with fs:=m.fs.set k {Y with p:=p,u:=u,d:=d}} T:=by
 have f:=(gS.1 c).1;have e:=h.bE Y (mG c);have a:∀z:Int,0<=z->(z1 {m with fs:=m.fs.set k {Y with p:=p,u:=u,d:=d}} z).f=(z1 m z).f/\(z1 {m with fs:=m.fs.set k {Y with p:=p,u:=u,d:=d}} z).x=(z1 m z).x/\(z1 {m with fs:=m.fs.set k {Y with p:=p,u:=u,d:=d}} z).r=(z1 m z).r:=fun z a=>by grind[q6,zL]
 refine⟨by simpa using h.aN,fun g b=>?_,h.aT,h.bF,h.sq,h.bM,h.st,h.cnt,h.bI,h.aZ,h.aI,h.aP,h.tl,?_,fun q w g v b j a=>?_,fun j g a=>?_,h.cs⟩
 ·rcases Yj b with b|rfl
  ·exact h.bE g b
  obtain⟨i,l,n,s,r⟩:=e;exact⟨i,l,n,fun h=>absurd h t,r⟩
 ·obtain⟨e,e,e⟩:=zo.1 h.ca;refine zo.2 ⟨fun r t=>?_,fun q r r=>(by cases r),e⟩;grind[Zl,zbo,bkN]
 ·rcases h.aM q w g v b j a with e|e
  ·exact .inl e
  refine .inr ⟨e.1,e.2.1,Ze e.2.2 rfl Sm fun b=>?_⟩;obtain⟨i,l,n,s⟩:=zV e b;grind
 by_cases e:j=k;·subst e;simp only at a;rw[sF f]at a;cases a;exact h.cf j Y c
 simp only at a;rw[sN (fun h=>e h.symm)]at a;exact h.cf j g a
theorem qT.entry(h:qT m T)(j:m.sp[k]?=Xa s)(p:T[k]?=Xa d)(r:b<64)(a:Z.kind=(d b).kind)(c:Z.n=(d b).n)(w:QJ m (zr s.aC b) Z):qT m (T.set k (jG d b Z)):=by
 have n:=(gS.1 p).1;have i:=zh6 (e':=Z) p r a c;refine⟨h.aN,h.bE,h.aT,h.bF,h.sq,h.bM,h.st,h.cnt,h.bI,h.aZ,h.aI,h.aP,by simpa using h.tl,h.ca,?_,fun f g a=>?_,fun f z a=>?_⟩
 ·refine zaQ n rfl p (fun v s g j l u q _=>h.aM v s g j l u q) (fun x t=>?_)
  grind
 ·rw[i];exact h.cf f g a
 rw[i];exact h.cs f z a
def J6(fr:Fr):Fr:=if fr.r=1 then frF else{fr with r:=fr.r-1}
theorem zqL(fr:Fr):(J6 fr).r=fr.r-1:=by
 unfold J6;split;·simp[frF];omega
 rfl
theorem qT.drop(h:qT m T){n:Nat}(y:m.fs[k]?=Xa Y)(D:T[p]?=Xa d)(X:n<64)(V:(d n).kind=1)(u:(d n).n=(k:Int)):
  qT {m with fs:=m.fs.set k (J6 Y)} (T.set p (jG d n en0)):=by
 have W:=(gS.1 y).1;have f:=(gS.1 D).1;have A:=h.bE Y (mG y);have U:=h.cf k Y y;have G:1<=qK T 1 k:=by grind[Q6]
 have i:∀kind j:Int,qK (T.set p (jG d n en0)) kind j+(isE (d n) kind j).toNat=qK T kind j+(isE en0 kind j).toNat:=fun kind j=>ZI en0 kind j D X;have x:Y.r≠1->J6 Y={Y with r:=Y.r-1}:=fun h=>by unfold J6;rw[kF h]
 have E:zN m.ca k≠0->Y.r≠1:=fun R S=>Wm;have F:qK T 1 k≥2->Y.r≠1:=fun R S=>Wm;refine⟨by simpa using h.aN,fun g a=>?_,h.aT,h.bF,h.sq,h.bM,h.st,h.cnt,h.bI,h.aZ,h.aI,h.aP,by simpa using h.tl,?_,?_,fun j g b=>?_,fun j a0 b=>?_⟩
 ·rcases Yj a with a|rfl
  ·exact h.bE g a
  by_cases e:Y.r=1;·unfold J6;rw[kE e];exact⟨Dc,Dc,.inl rfl,fun _=>rfl,fun _=>rfl⟩
  rw[x e];obtain⟨L,B,C,M,N⟩:=A;exact⟨by simp only;omega,B,C,fun h=>by simp only at h;omega,N⟩
 ·obtain⟨a4,a5,H⟩:=zo.1 h.ca;refine zo.2 ⟨fun K a6=>?_,fun q K fr=>(by cases fr),H⟩;grind[Zl,q6,J6,QP,zL,zbo,bkN]
 ·intro q I g Z a j b
  by_cases l:q=p/\j=n
  ·obtain⟨rfl,rfl⟩:=l;rw[sF f]at a;cases a;grind[jG]
  have c:∃s,T[q]?=Xa s/\g j=s j:=by
   by_cases Q:q=p
   ·subst Q;rw[sF f]at a;cases a;grind[jG]
   grind
  obtain⟨s,v,w⟩:=c;rw[w];rcases h.aM q I s Z v j b with e|e;·exact .inl e
  refine .inr ⟨e.1,e.2.1,Ze e.2.2 rfl Sm fun z=>?_⟩;obtain⟨L,B,C,M⟩:=zV e z;grind[q6,zcf,isE,zL]
 ·simp only at b⊢;have t:=i 1 j;rw[qZ 1 j Dc]at t;by_cases P:j=k;·grind[sF,isE,zqL,J6,frF]
  rw[sN (fun h=>P h.symm)]at b;rw[Qo (by rw[u];omega)]at t;have:=h.cf j g b;grind
 simp only at b⊢;have t:=i 2 j;rw[qZ 2 j Dc,Jr (by rw[V];decide)]at t;have:=h.cs j a0 b;grind
theorem qT.dropS(h:qT m T)(D:m.sl[k]?=Xa z)(u:T[b]?=Xa d)(E:p<64)(v:(d p).kind=2)(n:(d p).n=(k:Int)):
  qT {m with sl:=m.sl.set k (z-1)} (T.set b (jG d p en0)):=by
 have A:=(gS.1 D).1;have f:=(gS.1 u).1;have F:1<=qK T 2 k:=za5 u E (by simp[isE,v,n]) Dc;have i:∀kind j:Int,qK (T.set b (jG d p en0)) kind j+(isE (d p) kind j).toNat=qK T kind j+(isE en0 kind j).toNat:=fun kind j=>ZI en0 kind j u E;refine⟨h.aN,h.bE,by simpa using h.aT,by simpa using h.bF,h.sq,h.bM,h.st,h.cnt,h.bI,h.aZ,h.aI,h.aP,by simpa using h.tl,?_,?_,fun j t a=>?_,fun j S a=>?_⟩;·obtain⟨G,U,H⟩:=zo.1 h.ca;exact zo.2 ⟨fun B N=>G B N,fun q B P=>(by cases P),H⟩
 ·intro q R t Q s j a
  by_cases l:q=b/\j=p
  ·obtain⟨rfl,rfl⟩:=l;rw[sF f]at s;cases s;grind[jG]
  have c:∃r,T[q]?=Xa r/\t j=r j:=by
   by_cases L:q=b
   ·subst L;rw[sF f]at s;cases s;grind[jG]
   grind
  obtain⟨r,w,x⟩:=c;rw[x];rcases h.aM q R r Q w j a with e|e;·exact .inl e
  refine .inr ⟨e.1,e.2.1,Ze e.2.2 Sm rfl fun y=>?_⟩;obtain⟨V,W,X,K⟩:=zV e y;exact⟨rfl,rfl,K⟩
 ·have g:=i 1 j;rw[qZ 1 j Dc,Jr (by rw[v];decide)]at g;have:=h.cf j t a;grind
 simp only at a⊢;have g:=i 2 j;rw[qZ 2 j Dc]at g;by_cases C:j=k
 ·subst C;rw[sF A]at a;cases a;have M:isE (d p) 2 (j:Int)=Xc:=by simp[isE,v,n]
  rw[M]at g;have:=h.cs j z D;grind
 rw[sN (fun h=>C h.symm)]at a;rw[Qo (by rw[n];omega)]at g;have:=h.cs j S a;grind
end
def zsa(g:Nat->Nat):Nat->Nat
 |0=>0
 |n+1=>zsa g n+g n
def Jd(l:List Ar):Nat->Nat
 |0=>0
 |n+1=>Jd l n+(zr l n).is.toNat
theorem zpY{a:Ar}(h:(zej l a).2=0):Jd (zej l a).1 64<=Jd l 64+(a.tz-a.fr).toNat:=by
 obtain⟨c,d,b,b,f⟩:=zjr h;have b:=QG.1 d;have d:=zb8 (jJ.1 c).2 b;unfold jS at b;have c:∀n:Nat,n<=64->Jd (zej l a).1 n<=Jd l n+(min (n:Int) a.tz-min (n:Int) a.fr).toNat:=by
  intro n;induction n with
  |zero=>intro _;simp[Jd]
  |succ n b=>
   intro e;have e:=b Wm;unfold Jd;have e:(zr (zej l a).1 n).is=(zjq l a n).is:=(by rw[f,zgD d Wm]);rw[e];unfold zjq;by_cases b:Qb a n=Xc;·have:=q7.1 b;rw[kE b,zko];simp only[Bool.toNat_true];omega
   grind
 have:=c 64 (nR _);omega
end
section
open Go.RowKit
section
variable{base hi S0:Nat}{w w':Xn}{V:MaV}{m:Ma}{vt:Sli}{T:List (Nat->En)}
def SpB(base S0:Nat)(w:Xn)(V:MaV)(m:Ma):Prop:=∃xs:List SpV,zb ZP base w (O V.sp.a V.sp.n V.sp.c) xs/\xs.length=m.sp.length/\∀(i:Nat)x s,xs[i]?=Xa x->m.sp[i]?=Xa s->(x.aD=s.aD/\zb arE base w x.ar.v s.aC/\x.tab=J2/\s.tb=qG)/\∀g,x.ar.v.ownBlock=Xa g->g<S0
theorem MkR.spB(h:MkR base hi w V m vt T):SpB base w.heap.size w V m:=by obtain⟨d,b,c,a⟩:=h.sp;exact⟨d,b,c,fun i x s c b=>⟨a i x s c b,fun g d=>((a i x s c b).2.1.lt g d).2⟩⟩
theorem SpB.aA(h:SpB base S0 w V m)(k:zc w w'):SpB base S0 w' V m:=by obtain⟨c,a,b,e⟩:=h;refine⟨c,a.aA k,b,fun i x s g f=>?_⟩;obtain⟨⟨a,b,c⟩,d⟩:=e i x s g f;exact⟨⟨a,b.aA k,c⟩,d⟩
theorem SpB.kind(h:SpB base S0 w V m)(b:w.grownBy w' (Xa k))(e:w.heap[k]?=Xa (Xk U t (0,0)))(c:t≠63)(a:t≠77\/S0<=k):SpB base S0 w' V m:=by
 obtain⟨i,d,f,l⟩:=h;refine⟨i,d.kind b e c,f,fun g x s j i=>?_⟩;obtain⟨⟨f,c,h⟩,d⟩:=l g x s j i;refine⟨⟨f,?_,h⟩,d⟩;rcases a with a|a;·exact c.kind b e a
 exact c.grown b fun g a e=>by cases e;have:=d _ a;omega
theorem MkR.area(h:MkR base hi w V m vt T)(b:SpB base S0 w V m)(a:w.grownBy w' (Xa k))(c:w.heap[k]?=Xa (Xk U 77 (0,0)))(hb:S0<=k):MkR base hi w' V m vt T:=by obtain⟨d,e,f,i,j,g,l,n,n⟩:=h.kept a c;obtain⟨s,p,q,r⟩:=b.kind a c Dc (.inr hb);exact⟨nT h.hw a.size,h.bh,d Dc,e (.inl Dc),h.bB,f (.inl Dc),h.bJ,h.sq,i (.inl Dc),h.bG,j Dc,g Dc (.inl Dc),l Dc,⟨s,p,q,fun i x s a b=>(r i x s a b).1⟩,n Dc,h.ap⟩
theorem qV(h:w.grownBy w' Xb):zc w w':=z2 (zc.refl _) h (fun g e=>by cases e)
theorem MkR.addSp{a:List SpV}(h:MkR base hi w V m vt T)(s1:zb ZP base w (V.sp.x) a)(s2:a.length=m.sp.length)(s3:∀(i:Nat)x s,a[i]?=Xa x->m.sp[i]?=Xa s->x.aD=s.aD/\zb arE base w x.ar.v s.aC/\x.tab=J2/\s.tb=qG)
  (b:w.grownBy w' (V.sp.x).ownBlock)(s c:Sli){l:List Ar}(j:zb arE base w c.v l)(e:zb ZP base w' (s.x) (a++[⟨Xc,c,zJ,zJ,zJ,zJ,zJ,zJ,zJ,zJ⟩])):MkR base hi w' {V with sp:=s} {m with sp:=m.sp++[⟨Xc,l,qG⟩]} vt T:=by
 have d:(∀{x:SpV}{q:Sp},zb arE base w x.ar.v q.aC->zb arE base w' x.ar.v q.aC)->zb arE base w' c.v l->∃c:List SpV,zb ZP base w' (s.x) c/\c.length=(m.sp++[(⟨Xc,l,qG⟩:Sp)]).length/\∀(i:Nat)x q,c[i]?=Xa x->(m.sp++[(⟨Xc,l,qG⟩:Sp)])[i]?=Xa q->x.aD=q.aD/\zb arE base w' x.ar.v q.aC/\x.tab=J2/\q.tb=qG:=fun n g=>by
  refine⟨_,e,by simp[s2],fun i x q f e=>?_⟩;rcases Nat.lt_or_ge i a.length with hi|hi;·grind
  rw[aR hi]at f;rw[aR Wm,<-s2]at e;have c:i-a.length=0:=by grind
  rw[c]at f e;cases f;cases e;exact⟨rfl,g,rfl,rfl⟩
 cases c:(V.sp.x).ownBlock with
 |none=>
  rw[c]at b;have k:=qV b;have a:=h.aA k;exact⟨a.hw,a.bh,a.fs,a.sl,a.bB,a.sb,a.bJ,a.sq,a.db,a.bG,a.dq,a.fl,a.ca,d (fun h=>h.aA k) (j.aA k),a.tt,a.ap⟩
 |some a=>
  rw[c]at b;obtain⟨a,a⟩:=s1.obj c;obtain⟨n,g,c,e,f,k,p,q,q⟩:=h.kept b a;exact⟨nT h.hw b.size,h.bh,n Dc,g (.inl Dc),h.bB,c (.inl Dc),h.bJ,h.sq,e (.inl Dc),h.bG,f Dc,k Dc (.inl Dc),p Dc,d (fun h=>h.kind b a Dc) (j.kind b a Dc),q Dc,h.ap⟩
theorem MkR.addT(h:MkR base hi w V m vt T)(c:w.grownBy w' (vt.x).ownBlock)(s:Sli)(f:zb zdk base w' (s.x) (T++[d])):MkR base hi w' V m s (T++[d]):=by
 cases b:(vt.x).ownBlock with
 |none=>
  rw[b]at c;have a:=h.aA (qV c);exact⟨a.hw,a.bh,a.fs,a.sl,a.bB,a.sb,a.bJ,a.sq,a.db,a.bG,a.dq,a.fl,a.ca,a.sp,f,a.ap⟩
 |some g=>
  rw[b]at c;obtain⟨a,a⟩:=h.tt.obj b;obtain⟨b,e,g,i,j,k,l,n,p⟩:=h.kept c a;exact⟨nT h.hw c.size,h.bh,b Dc,e (.inl Dc),h.bB,g (.inl Dc),h.bJ,h.sq,i (.inl Dc),h.bG,j Dc,k Dc (.inl Dc),l Dc,n Dc Dc,f,h.ap⟩
theorem zR.row(h:zb E base w A y)(b:w.grownBy w' A.ownBlock)(d:∀p,¬Loc hi p E.ty):zR hi w w':=by
 cases a:A.ownBlock with
 |none=>
  rw[a]at b;exact zR.aA (qV b)
 |some g=>
  rw[a]at b;obtain⟨c,c⟩:=h.obj a;exact zR.kind b c (fun p a=>absurd a (d p))
theorem zm.row(h:zb E base w A y)(a:w.grownBy w' A.ownBlock)(hb:zm w b t D)(ht:t≠E.ty):zm w' b t D:=hb.beside a fun g e=>h.ne hb ht g e
theorem zc.row(h:zb E w0.heap.size w A y)(b:w.grownBy w' A.ownBlock)(a:zc w0 w):zc w0 w':=z2 a b fun g e=>(h.lt g e).1
end
section
variable{w0 w w':Xn}{hi b S0:Nat}{vl:Sli}{L:List Int}{V:MaV}{m:Ma}{vt:Sli}{T:List (Nat->En)}
theorem Mk.area(h:Mk w0 hi w b vl L V m vt T)(f:SpB w0.heap.size S0 w V m)(a:w.grownBy w' (Xa k))(d:zm w k 77 D)(hb:S0<=k)(c:w0.heap.size<=k):Mk w0 hi w' b vl L V m vt T/\SpB w0.heap.size S0 w' V m:=by refine⟨⟨zd h.gr a c,h.hb,h.box.beside a (fun g e=>?_),h.lr,h.lc,h.lb,h.rows.area f a d hb⟩,f.kind a d Dc (.inr hb)⟩;cases e;intro e;subst e;have a:w.heap[b]?=_:=h.box;rw[show w.heap[b]?=_ from d]at a;cases a
theorem SpB.pick(c:SpB w0.heap.size S0 w V m)(h:Mk w0 hi w b vl L V m vt T)(a:w.grownBy w' (Xa b)):SpB w0.heap.size S0 w' V m:=c.kind a h.box Dc (.inl Dc)
theorem zb.pick(c:zb arE w0.heap.size w A l)(h:Mk w0 hi w b vl L V m vt T)(a:w.grownBy w' (Xa b)):zb arE w0.heap.size w' A l:=c.kind a h.box Dc
end
theorem J5:Loc hi k 77:=⟨Dc,Dc,Dc,Dc,Dc,Dc,Dc,Dc,fun h=>absurd h Dc⟩
theorem jV(w:Xn)(g i:Nat)(u):w.grownBy (w.setCell ⟨g,i,Xb⟩ u) (Xa g):=⟨rfl,rfl,rfl,by simp[World.setCell],fun k _ a=>Below.heap_setCell _ _ _ _ (fun e=>a (by rw[e]))⟩
def Spc(w0:Xn)(hi b:Nat)(w:Xn)(L:List Int)(m:Ma)(T:List (Nat->En))(w':Xn):Prop:=∃vl' L' V' m' vt' T' l,Mk w0 hi w' b vl' L' V' m' vt' T'/\zbr L L'/\zR hi w w'/\qT m' T'/\(m'.sp=m.sp++[⟨Xc,l,qG⟩]/\m'.fl=m.fl/\m'.aB=m.aB/\m'.fs.length=m.fs.length)/\(jQ m.fl.length l/\Jd l 64<=12)/\(L=[]->m'={m with sp:=m.sp++[⟨Xc,[],qG⟩]}/\T'=T++[fun _=>en0])
theorem zdS(f:Nat->En)(n:Nat):jG f n (f n)=f:=by
 funext j;unfold jG;split
 ·rename_i e
  rw[e]
 rfl
theorem zgi{x:α}(h:y[k]?=Xa x):y.set k x=y:=by apply Yd;grind
section
variable{m:Ma}{T:List (Nat->En)}{s0 s1:Sp}{fA fB:Nat->En}{n:Nat}
theorem qT.entry0(h:qT m T)(a:m.sp[0]?=Xa s0)(b:T[0]?=Xa fA)(c:n<64):fA n=en0\/(∃(k:Nat)(fr:Fr),(fA n).kind=1/\(fA n).n=(k:Int)/\m.fs[k]?=Xa fr)\/(∃(k:Nat)(z:Int),(fA n).kind=2/\(fA n).n=(k:Int)/\m.sl[k]?=Xa z/\0<=z/\z<=1000):=by
 rcases h.aM 0 s0 fA a b n c with e|e;·exact .inl e
 by_cases b:(fA n).kind=2
 ·refine .inr (.inr ?_);obtain⟨c,a,a⟩:=e;obtain⟨d,d,d⟩:=jE c;unfold zah at a;by_cases c:(zr s0.aC n).is=Xd;·grind
  rw[kF c,kE b]at a;split at a;·cases a
  rename_i a
  have a:(fA n).n.toNat<m.sl.length:=by grind
  have c:=h.cs _ _ (gE a);have c:=zaI T 2 ((fA n).n.toNat:Int);have c:=h.tl;have c:=h.aI;grind
 obtain⟨c,d,d,_⟩:=zV e b;have a:(fA n).n.toNat<m.fs.length:=Wm;exact .inr (.inl ⟨(fA n).n.toNat,m.fs[(fA n).n.toNat],c,Wm,gE a⟩)
theorem qT.forkP(h:qT m T)(hs0:m.sp[0]?=Xa s0)(hs1:m.sp[1]?=Xa s1)(har:s1.aC=s0.aC)(hA:T[0]?=Xa fA)(hB:T[1]?=Xa fB)(hn:n<64)(hBn:fB n=en0)(hk:m.fs[k]?=Xa Y)(hkind:(fA n).kind=1)(hen:(fA n).n=(k:Int))(he:Z=if(zr s0.aC n).sh=Xc then fA n else{fA n with wr:=false}):
  qT {m with fs:=m.fs.set k {Y with r:=Y.r+1}} ((T.set 0 (jG fA n Z)).set 1 (jG fB n Z)):=by
 have hne:fA n≠en0:=fun e=>by rw[e]at hkind;cases hkind
 have hok:QJ m (zr s0.aC n) (fA n):=(h.aM 0 s0 fA hs0 hA n hn).resolve_left hne;by_cases hsh:(zr s0.aC n).sh=Xc
 ·rw[kE hsh]at he;subst he;rw[zdS,zgi hA];refine h.share hk hA rfl hB Dc hn hBn hs1 (Rx har hok) hkind hen (fun _ hf=>?_);obtain⟨h1,h2,h3⟩:=hok;grind[zah,zr,z1,zL]
 rw[kF hsh]at he;subst he;have g:=h.guard hA hn hne;have hA':(T.set 0 (jG fA n {fA n with wr:=false}))[0]?=Xa (jG fA n {fA n with wr:=false}):=sF (gS.1 hA).1;have hB':(T.set 0 (jG fA n {fA n with wr:=false}))[1]?=Xa fB:=by rw[sN Dc];exact hB
 have hv:jG fA n {fA n with wr:=false} n={fA n with wr:=false}:=by unfold jG;rw[kE rfl]
 refine g.share hk hA' hv hB' Dc hn hBn hs1 ?_ hkind hen (fun e=>by cases e);rw[har];have:=g.aM 0 s0 _ hs0 hA' n hn;rw[hv]at this;refine this.resolve_left fun e=>?_;have:({fA n with wr:=false}:En).kind=en0.kind:=by rw[e]
 rw[show({fA n with wr:=false}:En).kind=(fA n).kind from rfl,hkind]at this;cases this
theorem qT.forkS(h:qT m T)(f:m.sp[0]?=Xa s0)(g:m.sp[1]?=Xa s1)(c:s1.aC=s0.aC)(i:T[0]?=Xa fA)(p:T[1]?=Xa fB)(j:n<64)(b:fB n=en0)(q:m.sl[k]?=Xa z)(a:(fA n).kind=2)(d:(fA n).n=(k:Int)):
  qT {m with sl:=m.sl.set k (z+1)} ((T.set 0 (jG fA n (fA n))).set 1 (jG fB n (fA n))):=by
 have e:fA n≠en0:=fun l=>by rw[l]at a;cases a
 rw[zdS,zgi i];exact h.shareS q p j b g (by rw[c];exact(h.aM 0 s0 fA f i n j).resolve_left e) a d
theorem znC(c:T[0]?=Xa fA)(d:T[1]?=Xa fB)(a:fA n=en0)(b:fB n=en0):(T.set 0 (jG fA n en0)).set 1 (jG fB n en0)=T:=by grind[jG,en0,zdS,zgi]
end
section
variable{α:Type}{E:Elt α}
theorem zbk(p x t)(A:o.op=.store t p x)(base:Nat)(v:Xq)(l:List α)(b:zb E base w v l)
  (g i j:Nat)(s:v.ownBlock=Xa g)(e y:α)(hi:l[i]?=Xa e)(cs:List Xq)(f:(Tryz.prog.info? t).map (·.size)=Xa cs.length)(D:E.enc y=splice (E.enc e) j cs)(z:j+cs.length<=E.k)(n:∀u∈cs,u.oneCell'=Xc)
  (ad:Addr)(hp:a.eval p=Xj (Xa ad))(c:ad=⟨g,i*E.k+j,Xb⟩)(k:Xq)(C:a.eval x=k)(h:k.cells=cs.toArray):
  ∃w',(execOp a.eval o).run prog w=.ok .skip w'/\zb E base w' v (l.set i y)/\w.grownBy w' (Xa g)/\w'.heap.size=w.heap.size:=by
 subst c;have d:=(gS.1 hi).1;have c:i*E.k+j+cs.length<=l.length*E.k:=by
  have:(i+1)*E.k<=l.length*E.k:=Yg _ d;rw[Oc]at this;omega
 obtain⟨w',B,m,q,r⟩:=Zk (P:=prog) b.1 s (i*E.k+j) cs c n;have d:(Go.sizeOf t).run prog w=.ok cs.length w:=by
  cases c:Tryz.prog.info? t with
  |none=>simp[c]at f
  |some i=>simp[c]at f;simp[Go.sizeOf,typeInfo,c,f]
 have c:(Instr.storeAt t (Xj (Xa ⟨g,i*E.k+j,Xb⟩)) k).run prog w=.ok () w':=by
  simp[Instr.storeAt,Instr.sureAddr,storeVar,Xs,d,Result.andThen,h,B]
 rw[JY j cs D z l i hi]at m;refine⟨w',?_,⟨Rx Xt m,Rx Xt b.2⟩,q,r⟩;simp only[execOp,A,hp,C,Xs,c,Result.andThen,Xx]
theorem zeJ{P:Program}(b:(execOp a.eval o).run P w=.ok .skip w')(h:N undef w'):zO P o a w N:=by unfold zO;rw[b];exact h
end
theorem zek:Loc hi k 55:=⟨Dc,Dc,Dc,Dc,Dc,Dc,Dc,Dc,fun h=>absurd h Dc⟩
theorem zdA:Loc hi k 68:=⟨Dc,Dc,Dc,Dc,Dc,Dc,Dc,Dc,fun h=>absurd h Dc⟩
theorem ZM{K:Xq->Xn->Prop}(d p x)(m:o.op=.store d p x)(b c:Nat)(hp:a.eval p=Xj (Xa ⟨b,c,Xb⟩))(g:Xq)(q:a.eval x=g)(vs:List Xq)(f:g.cells=vs.toArray)
  {t:TypeId}{cs:List Xq}(hb:zm w b t cs)(l:c+vs.length<=cs.length)(hi:(Tryz.prog.info? d).map (·.size)=Xa vs.length)(i:∀v∈vs,v.oneCell'=Xc)
  (h:∀w',zm w' b t (splice cs c vs)->w.grownBy w' (Xa b)->w'.heap.size=w.heap.size->K undef w'):zO prog o a w K:=by
 have e:(Value.agg vs.toArray).cells=vs.toArray:=by
  unfold Value.cells;simp
 have n:(execOp a.eval o).run prog w=.ok .skip (w.setCells b c vs):=by
  have j:=run_storeAt_mid (P:=prog) w b c d vs.toArray (fun r k=>by
   have:=hb.box.there (c+r) (by simp at k;omega)
   rw[zA]at this;exact this) (Si hi) (all_oneCell_toArray i)
  have i:(Instr.storeAt d (Xj (Xa ⟨b,c,Xb⟩)) g).run prog w=(Instr.storeAt d (Xj (Xa ⟨b,c,Xb⟩)) (Xi vs.toArray)).run prog w:=by
   simp only[Instr.storeAt,Instr.sureAddr,storeVar,f,e]
  simp only[execOp,m,hp,q,Xs,i,j,rA,Xx]
 exact zeJ n (h _ (hb.part (ds:=vs) (o:=c) l) (zW b vs c w).1 (zW b vs c w).2)
theorem ZW(d:o.guard=Xb)(f p x)(k:o.op=.store f p x)(b c:Nat)(hp:a.eval p=Xj (Xa ⟨b,c,Xb⟩))(g:Xq)(l:a.eval x=g)(vs:List Xq)(e:g.cells=vs.toArray)
  {t:TypeId}{cs:List Xq}(hb:zm w b t cs)(j:c+vs.length<=cs.length)(hi:(Tryz.prog.info? f).map (·.size)=Xa vs.length)(i:∀v∈vs,v.oneCell'=Xc)
  (h:∀w',zm w' b t (splice cs c vs)->w.grownBy w' (Xa b)->w'.heap.size=w.heap.size->wpList prog ops Q K (a.put o.dst undef) w'):wpList prog ops Q (o::K) a w:=
 wpList_plain d fun _ d=>(ZM (K:=fun v w'=>v=undef/\wpList prog ops Q K (a.put o.dst undef) w') f p x k b c hp g l vs e hb j hi i (fun w' c e f=>⟨rfl,h w' c e f⟩)).wp (fun v w' c=>d _ _ (Rx c.1 c.2))
theorem zcq(e x)(g:o.op=.load e x)(b c:Nat)(j:a.eval x=Xj (Xa ⟨b,c,Xb⟩))(vs:List Xq)(f:w.rangeAt b c vs){d:TypeDesc}(i:Tryz.prog.underlying e=Xa d)(hd:d.isRow=Xc)(hi:(Tryz.prog.info? e).map (·.size)=Xa vs.length)(h:N (Xi vs.toArray) w):zO prog o a w N:=by have:=run_loadAt_mid (P:=prog) w b c e vs d f i hd hi;exact zO.step (by simp only[execOp,g,j,Xs,this,rA,Xx]) h
theorem zfS(f:TypeId)(x:Operand)(j:o.op=.load f x)(b c:Nat)(l:a.eval x=Xj (Xa ⟨b,c,Xb⟩))(v:Xq)(i:w.cell? ⟨b,c,Xb⟩=Xa v){d:TypeDesc}(k:Tryz.prog.underlying f=Xa d)(hd:d.isRow=Xd)(h:N v w):zO prog o a w N:=by
 have e:(isAgg f).run prog w=.ok Xd w:=by
  unfold isAgg;rw[Xs,run_underlying k w];cases d<;>simp_all [TypeDesc.isRow]
 have g:(loadVar f ⟨b,c,Xb⟩).run prog w=.ok v w:=by simp[loadVar,Xs,e,i]
 exact zO.step (by simp only[execOp,j,l,Instr.loadAt,Instr.sureAddr,Xs,Xx,g,rA]) h
theorem zdl(p x t)(r:o.op=.store t p x)(base:Nat)(v:Xq)(l:List α)(b:zb E base w v l)
  (g i j:Nat)(m:v.ownBlock=Xa g)(e y:α)(hi:l[i]?=Xa e)(cs:List Xq)(q:(Tryz.prog.info? t).map (·.size)=Xa cs.length)(z:E.enc y=splice (E.enc e) j cs)(n:j+cs.length<=E.k)(k:∀u∈cs,u.oneCell'=Xc)
  (ad:Addr)(hp:a.eval p=Xj (Xa ad))(d:ad=⟨g,i*E.k+j,Xb⟩)(c:Xq)(s:a.eval x=c)(f:c.cells=cs.toArray)
  (h:∀w',zb E base w' v (l.set i y)->w.grownBy w' (Xa g)->w'.heap.size=w.heap.size->N undef w'):zO prog o a w N:=by grind[zbk,zeJ]
theorem Js.form(h:Js B0 B1 w us G):∃a t1 t2 b c d e f:Sli,us=[a.v,t1.v,t2.v,b.v,c.v,d.v,e.v,f.v]:=by obtain⟨u0,u1,u2,u3,u4,u5,u6,u7,rfl⟩:=zl0 h.len;obtain⟨a,a,a,a,a,a,a,a,rfl⟩:=zl0 h.aL;obtain⟨a,j,rfl,_⟩:=(h.row 0 _ _ rfl rfl).now.rows;obtain⟨b,k,rfl,_⟩:=(h.row 1 _ _ rfl rfl).now.rows;obtain⟨c,l,rfl,_⟩:=(h.row 2 _ _ rfl rfl).now.rows;obtain⟨d,m,rfl,_⟩:=(h.row 3 _ _ rfl rfl).now.rows;obtain⟨e,n,rfl,_⟩:=(h.row 4 _ _ rfl rfl).now.rows;obtain⟨f,p,rfl,_⟩:=(h.row 5 _ _ rfl rfl).now.rows;obtain⟨g,q,rfl,_⟩:=(h.row 6 _ _ rfl rfl).now.rows;obtain⟨i,r,rfl,_⟩:=(h.row 7 _ _ rfl rfl).now.rows;exact⟨⟨a,_,j⟩,⟨b,_,k⟩,⟨c,_,l⟩,⟨d,_,m⟩,⟨e,_,n⟩,⟨f,_,p⟩,⟨g,_,q⟩,⟨i,_,r⟩,rfl⟩
theorem zcg(m:Ma)(e:En)(n:Int):(Z4 m e n).sp=m.sp:=by
 unfold Z4;split;·rfl
 split<;>rfl
theorem za9(m:Ma)(q:Nat)(n:Int)(e):(jN m q n e).sp.length=m.sp.length:=by simp[jN]
def zov(m:Ma):Prop:=∀s∈m.sp,(wrL s.aC).1=0/\tbW s.tb=0
theorem zmU(h:Jt m=0):zov m:=fun s a=>by
 unfold Jt at h;split at h;·cases h
 have:=zk.1 h (spE s) (Ye.2 ⟨s,a,rfl⟩);grind[spE]
theorem zq1(h:tbW s.tb=0)(n:Nat):enW (ze s n)=0:=by
 unfold ze zbg;have a:=ZZ.1 h;have:ziJ (s.tb[n/8]?.getD []):=by
  cases e:s.tb[n/8]? with
  |none=>exact .inl rfl
  |some x=>exact a x (mG e)
 exact this.get (n%8)
theorem zgO(h:k<64):zfi s.tb (k:Int)=ze s k:=by unfold zfi ze;rw[kE Wm,tN]
theorem zhD(h:(qQ s)[j]?=Xa k):k<64:=by have:=mG h;unfold qQ at this;rw[List.mem_filter,Yh]at this;exact this.1
theorem zgX:∀{l:List Ar}{p:Option Ar}{k:Nat}{a:Ar},Jh p l->l[k]?=Xa a->jS a
 |[],_,_,_,_,h=>by simp at h
 |b::l,p,0,a,c,h=>by
  simp at h
  subst h;exact c.1
 |b::l,p,k+1,a,c,h=>zgX c.2.2 (Si h)
structure zbb where
 ty:TypeId
 enc:Int×Int->Xq
 bL:∃fs,Tryz.prog.underlying ty=Xa (.struct fs)
 check:∀(em:Bool)(a:Int×Int)(w:Xn),(Instr.checkKey em 10000 ty (enc a)).run prog w=.ok () w
 same:∀(a b:Int×Int)(w:Xn),(Op.equal ty (enc a) (enc b)).run prog w=.ok (decide (a=b)) w
 bits:∀a:Int×Int,Instr.sameBits 10000 (enc a) (enc a)=Xc
def zbf:List ((Int×Int)×Int)->Int×Int->Option Int
 |[],_=>Xb
 |p::l,k=>if k=p.1 then Xa p.2 else zbf l k
def zeF:List ((Int×Int)×Int)->Int×Int->Nat->Option (Nat×Xq)
 |[],_,_=>Xb
 |p::l,k,i=>if k=p.1 then Xa (i,Xe Xf p.2)else zeF l k (i+1)
def zjh:List ((Int×Int)×Int)->Int×Int->Int->List ((Int×Int)×Int)
 |[],k,v=>[(k,v)]
 |p::l,k,v=>if k=p.1 then(k,v)::l else p::zjh l k v
theorem zb9:∀(l:List ((Int×Int)×Int))(k x:Int×Int)(v:Int),zbf (zjh l k v) x=if x=k then Xa v else zbf l x
 |[],k,x,v=>by simp[zjh,zbf]
 |p::l,k,x,v=>by
  unfold zjh
  by_cases h:k=p.1
  ·rw[kE h];unfold zbf
   by_cases a:x=k
   ·simp[a]
   have b:¬x=p.1:=fun e=>a (e.trans h.symm)
   simp[a,b]
  rw[kF h];unfold zbf;rw[zb9 l];by_cases a:x=p.1;·rw[kE a,kE a,kF (fun e=>h (e.symm.trans a))]
  rw[kF a,kF a]
theorem za8:∀{l:List ((Int×Int)×Int)}{k:Int×Int}{i:Nat},zeF l k i=Xb->zbf l k=Xb/\∀v,zjh l k v=l++[(k,v)]
 |[],k,i,_=>⟨rfl,fun v=>rfl⟩
 |p::l,k,i,h=>by
  unfold zeF at h
  by_cases e:k=p.1
  ·rw[kE e]at h;cases h
  rw[kF e]at h;obtain⟨a,b⟩:=za8 h;refine⟨by unfold zbf;rw[kF e,a],fun v=>?_⟩
  unfold zjh;rw[kF e,b];rfl
theorem za7:∀{l:List ((Int×Int)×Int)}{k:Int×Int}{i j:Nat}{u:Xq},zeF l k i=Xa (j,u)->∃n z,u=I6 z/\j=i+n/\l[n]?=Xa (k,z)/\zbf l k=Xa z/\∀v,zjh l k v=l.set n (k,v)
 |[],k,i,j,u,h=>by cases h
 |p::l,k,i,j,u,h=>by
  unfold zeF at h
  by_cases e:k=p.1
  ·rw[kE e]at h;cases h;refine⟨0,p.2,rfl,rfl,Rr e,by unfold zbf;rw[kE e],fun v=>?_⟩
   unfold zjh;rw[kE e];rfl
  rw[kF e]at h;obtain⟨n,z,a,b,b,c,d⟩:=za7 h;refine⟨n+1,z,a,Wm,Si b,by unfold zbf;rw[kF e,c],fun v=>?_⟩
  unfold zjh;rw[kF e,d];rfl
def QI(K:zbb)(w:Xn)(b:Nat)(g:Int×Int->Option Int):Prop:=
 ∃es clock l,w.heap[b]?=Xa (.map es clock)/\(es.toList.map (fun e=>(e.key,e.val))=l.map (fun p:(Int×Int)×Int=>(K.enc p.1,Value.int .i64 p.2))/\(es.toList.map (·.born)).Pairwise (·<·)/\∀e∈es.toList,e.born<clock)/\∀k,zbf l k=g k
theorem QI.lt{K:zbb}(h:QI K w b X):b<w.heap.size:=by obtain⟨a,c,l,a,_⟩:=h;exact(aS.1 a).1
theorem QI.made(K:zbb)(w:Xn):QI K (w.alloc (.map #[] 0)) w.heap.size (fun _=>Xb):=⟨#[],0,[],by
 show(w.heap.push _)[w.heap.size]?=_
 simp,⟨rfl,List.Pairwise.nil,fun e a=>by cases a⟩,fun k=>rfl⟩
theorem QI.aA{K:zbb}{g:Int×Int->Option Int}(h:QI K w b g)(i:zc w w'):QI K w' b g:=by have a:=h.lt;obtain⟨d,c,l,e,f⟩:=h;exact⟨d,c,l,(Below.block i b a).trans e,f⟩
theorem QI.kept{K:zbb}{a:Option Nat}(h:QI K w b X)(j:w.grownBy w' a)(c:Xa b≠a):QI K w' b X:=by have a:=h.lt;obtain⟨e,d,l,f,i⟩:=h;exact⟨e,d,l,(j.block b a c).trans f,i⟩
theorem QI.congr{K:zbb}{a:Int×Int->Option Int}(h:QI K w b X)(e:∀k,X k=a k):QI K w b a:=by obtain⟨a,c,l,d,f,i⟩:=h;exact⟨a,c,l,d,f,fun k=>(i k).trans (e k)⟩
theorem zbl(K:zbb)(k:Int×Int)(w):∀(l:List ((Int×Int)×Int))(a:List MapEntry)(i:Nat),a.map (fun e=>(e.key,e.val))=l.map (fun p=>(K.enc p.1,I6 p.2))->(Instr.findAsking K.ty (K.enc k) a i).run prog w=.ok (zeF l k i) w
 |[],[],i,_=>rfl
 |[],e::a,i,h=>by simp at h
 |p::l,[],i,h=>by simp at h
 |p::l,e::a,i,h=>by
  simp only[mP,List.cons.injEq,pJ]at h;obtain⟨⟨b,c⟩,d⟩:=h;unfold Instr.findAsking zeF;simp only[Xs,b,K.same,rA]
  by_cases b:k=p.1;·simp[b,c]
  simp[b,zbl K k w l a (i+1) d]
theorem zbw(K:zbb)(k:Int×Int)(w)(l:List ((Int×Int)×Int))(a:List MapEntry)(h:a.map (fun e=>(e.key,e.val))=l.map (fun p=>(K.enc p.1,I6 p.2))):(Instr.findKey K.ty (K.enc k) a).run prog w=.ok (zeF l k 0) w:=by
 obtain⟨b,c⟩:=K.bL;unfold Instr.findKey;simp only[Xs,run_underlying c,rA];cases a with
 |nil=>
  cases l with
  |nil=>rfl
  |cons p l=>simp at h
 |cons e a=>
  have:Instr.findNow (.struct b) (K.enc k) (e::a) 0=Xb:=by simp[Instr.findNow,Instr.sameNow]
  rw[this];exact zbl K k w l (e::a) 0 h
theorem QI.look{K:zbb}(a:QI K w b X){e:TypeId}(ht:Tryz.prog.underlying t=Xa (.map K.ty e))(j:(zeroValue e).run prog w=.ok (I6 0) w)(k:Int×Int)(c:Bool):
  (Instr.lookup t (.map (Xa b)) (K.enc k) c).run prog w=.ok (if c then Xm #[I6 ((X k).getD 0),Xh (X k).isSome]else I6 ((X k).getD 0)) w:=by
 obtain⟨d,f,l,f,⟨i,_⟩,h⟩:=a;have a:=zbw K k w l d.toList i;unfold Instr.lookup;cases d:zeF l k 0 with
 |none=>
  rw[d]at a;have:=(za8 d).1;rw[h k]at this;cases c<;>simp[run_underlying ht,MapKept.run_getObj_map f,K.check,a,j,this]
 |some q=>
  obtain⟨j,u⟩:=q;rw[d]at a;obtain⟨n,z,rfl,_,_,i,_⟩:=za7 d;rw[h k]at i;cases c<;>simp[run_underlying ht,MapKept.run_getObj_map f,K.check,a,i]
theorem zeg(f:MapEntry->MapEntry)(b:∀e,(f e).born=e.born):∀(a:List MapEntry)(n:Nat),(a.modify n f).map (·.born)=a.map (·.born)
 |[],n=>Sm
 |e::a,0=>by simp[b]
 |e::a,n+1=>by simp[zeg f b a n]
structure Qk(K:zbb)(es:Array MapEntry)(cl:Nat)(l:List ((Int×Int)×Int)):Prop where
 cJ:es.toList.map (fun e=>(e.key,e.val))=l.map (fun p=>(K.enc p.1,Value.int .i64 p.2))
 rise:(es.toList.map (·.born)).Pairwise (·<·)
 low:∀e∈es.toList,e.born<cl
theorem Qk.push{K:zbb}{a:Array MapEntry}{l:List ((Int×Int)×Int)}(h:Qk K a cl l)(k:Int×Int)(v:Int):Qk K (a.push ⟨K.enc k,I6 v,cl⟩) (cl+1) (l++[(k,v)]):=by
 refine⟨by simp[h.cJ],?_,fun e a=>?_⟩
 ·simp only[Ob,List.map_append,mP,Yb];rw[List.pairwise_append];refine⟨h.rise,Sm,fun b c b b=>?_⟩;obtain⟨e,a,rfl⟩:=Ye.1 c;simp at b;rw[b];exact h.low e a
 simp only[Ob,List.mem_append,List.mem_singleton]at a;rcases a with a|rfl;·have:=h.low e a;omega
 simp
theorem Qk.modify{K:zbb}{a:Array MapEntry}{l:List ((Int×Int)×Int)}(h:Qk K a cl l)(d:l[k]?=Xa (S,z))(f:MapEntry->MapEntry)(v:Int)(c:∀e,(f e).born=e.born)(b:∀e,e.key=K.enc S->e.val=I6 z->(f e).key=K.enc S/\(f e).val=I6 v):Qk K (a.modify k f) cl (l.set k (S,v)):=by
 have b:(a.modify k f).toList.map (·.born)=a.toList.map (·.born):=by rw[Yv];exact zeg f c a.toList k
 refine⟨?_,Rx b h.rise,fun e c=>?_⟩
 ·have d:=h.cJ;rw[Yv];apply Yd;intro j;have g:=congrArg (fun(x:List (Xq×Xq))=>x[j]?) d;grind
 have:e.born∈a.toList.map (·.born):=by rw[<-b];exact Ye.2 ⟨e,c,rfl⟩
 obtain⟨b,a,c⟩:=Ye.1 this;rw[<-c];exact h.low b a
theorem Qk.at{K:zbb}{b:Array MapEntry}{l:List ((Int×Int)×Int)}(h:Qk K b cl l)(a:l[k]?=Xa (S,z)):∃a,b[k]?=Xa a/\a.key=K.enc S/\a.val=I6 z:=by have:=congrArg (fun(x:List (Xq×Xq))=>x[k]?) h.cJ;grind
theorem zkS:∀{l:List Nat},l.Pairwise (·<·)->∀{i j:Nat}{x:Nat},l[i]?=Xa x->l[j]?=Xa x->i=j
 |[],_,i,j,x,h,_=>by simp at h
 |a::l,hp,i,j,x,h,b=>by
  rw[Yx]at hp
  cases i with
  |zero=>
   cases j with
   |zero=>rfl
   |succ j=>
    simp at h b
    subst h;have:=hp.1 a (mG b);omega
  |succ i=>
   cases j with
   |zero=>
    simp at h b;subst b;have:=hp.1 a (mG h);omega
   |succ j=>
    simp at h b;rw[zkS hp.2 h b]
theorem zei{K:zbb}{f c:Array MapEntry}{l:List ((Int×Int)×Int)}{k:Int×Int}{v:Int}(e:w.heap[b]?=Xa (.map f cl))(h:∀k,zbf l k=X k)(d:Qk K c p (zjh l k v)):
  QI K (ChangeMaps.setBlock w b (.map c p)) b (fun x=>if x=k then Xa v else X x)/\w.grownBy (ChangeMaps.setBlock w b (.map c p)) (Xa b)/\(ChangeMaps.setBlock w b (.map c p)).heap.size=w.heap.size:=by refine⟨⟨c,p,zjh l k v,ChangeMaps.heap_setBlock_same e _,⟨d.cJ,d.rise,d.low⟩,fun x=>?_⟩,⟨rfl,rfl,rfl,by simp[ChangeMaps.setBlock],fun i _ p=>ChangeMaps.heap_setBlock_other e _ (fun e=>p (by rw[e]))⟩,by simp[ChangeMaps.setBlock]⟩;rw[zb9,h]
theorem QI.put{K:zbb}(a:QI K w b X){e:TypeId}(ht:Tryz.prog.underlying t=Xa (.map K.ty e))(k:Int×Int)(v:Int):
  ∃w',(Instr.mapUpdate t (.map (Xa b)) (K.enc k) (I6 v)).run prog w=.ok () w'/\QI K w' b (fun x=>if x=k then Xa v else X x)/\w.grownBy w' (Xa b)/\w'.heap.size=w.heap.size:=by
 obtain⟨i,h,l,c,⟨f,d,j⟩,m⟩:=a;have a:Qk K i h l:=⟨f,d,j⟩;have d:=zbw K k w l i.toList f;cases j:zeF l k 0 with
 |none=>
  rw[j]at d;have f:=(za8 j).2 v;refine⟨ChangeMaps.setBlock w b (.map (i.push ⟨K.enc k,I6 v,h⟩) (h+1)),?_,zei c m (Rx f (a.push k v))⟩;simp[Instr.mapUpdate,run_underlying ht,MapKept.run_getObj_map c,K.check,d,MapKept.run_setObj_map _ c,ChangeMaps.setBlock]
 |some q=>
  obtain⟨f,u⟩:=q;rw[j]at d;obtain⟨p,z,rfl,rfl,l,_,n⟩:=za7 j;rw[zA]at d;obtain⟨f,f,j,_⟩:=a.at l;refine⟨ChangeMaps.setBlock w b (.map (i.modify p fun e=>{e with key:=K.enc k,val:=I6 v}) h),?_,zei c m (by rw[n];exact a.modify l _ v (fun _=>rfl) (fun _ _ _=>⟨rfl,rfl⟩))⟩;simp[Instr.mapUpdate,run_underlying ht,MapKept.run_getObj_map c,K.check,d,f,j,Instr.keyThatStays,K.bits,MapKept.run_setObj_map _ c,ChangeMaps.setBlock]
def zru(K:zbb)(w:Xn)(b:Nat)(g:Int×Int->Option Int)(k:Int×Int)(st:Int):Prop:=
 ∃es cl l,w.heap[b]?=Xa (.map es cl)/\Qk K es cl l/\(∀k,zbf l k=g k)/\∃(n:Nat)(z:Int)(e:MapEntry),l[n]?=Xa (k,z)/\(∀v,zjh l k v=l.set n (k,v))/\es[n]?=Xa e/\(e.born:Int)=st
theorem zru.f{K:zbb}{k:Int×Int}{a:Int}(h:zru K w b X k a):QI K w b X:=by obtain⟨d,c,l,e,a,f,_⟩:=h;exact⟨d,c,l,e,⟨a.cJ,a.rise,a.low⟩,f⟩
theorem zhx:∀{l:List ((Int×Int)×Int)}{k:Int×Int}(z v:Int),zbf l k=Xb->zjh (l++[(k,z)]) k v=(l++[(k,z)]).set l.length (k,v)
 |[],k,z,v,_=>by simp[zjh]
 |p::l,k,z,v,h=>by
  unfold zbf at h
  by_cases e:k=p.1
  ·rw[kE e]at h;cases h
  rw[kF e]at h;simp only[List.cons_append,zjh,e,if_false,Ym,sS];rw[zhx z v h]
theorem QI.entry{K:zbb}(h:QI K w b X){e:TypeId}(ht:Tryz.prog.underlying t=Xa (.map K.ty e))(s:(zeroValue e).run prog w=.ok (I6 0) w)(k:Int×Int):
  ∃w' a,(Instr.mapEntry t (.map (Xa b)) (K.enc k)).run prog w=.ok (Xm #[I6 ((X k).getD 0),I6 a]) w'/\zru K w' b (fun x=>if x=k then Xa ((X k).getD 0)else X x) k a/\w.grownBy w' (Xa b)/\w'.heap.size=w.heap.size:=by
 obtain⟨i,f,l,c,⟨r,a,d⟩,j⟩:=h;have h:Qk K i f l:=⟨r,a,d⟩;have m:=zbw K k w l i.toList r;cases q:zeF l k 0 with
 |none=>
  rw[q]at m;obtain⟨p,d⟩:=za8 q;have n:X k=Xb:=Ry j p;have a:=h.push k 0;have u:=zei c j (k:=k) (v:=0) (Rx d a);refine⟨ChangeMaps.setBlock w b (.map (i.push ⟨K.enc k,I6 0,f⟩) (f+1)),f,?_,⟨_,_,_,ChangeMaps.heap_setBlock_same c _,a,fun x=>?_,l.length,0,⟨K.enc k,I6 0,f⟩,Sm,fun A=>zhx 0 A p,?_,rfl⟩,u.2⟩
  ·rw[n]
   simp[Instr.mapEntry,run_underlying ht,MapKept.run_getObj_map c,K.check,m,s,MapKept.run_setObj_map _ c,ChangeMaps.setBlock,goInt]
  ·rw[n,<-d,zb9,j];rfl
  have:i.size=l.length:=by have:=congrArg Yk r;simpa using this
  simp[<-this]
 |some d=>
  obtain⟨p,p⟩:=d;rw[q]at m;obtain⟨r,z,rfl,rfl,p,B,s⟩:=za7 q;rw[zA]at m;obtain⟨y,d,q,C⟩:=h.at p;have n:X k=Xa z:=Ry j B;have a:Qk K (i.modify r fun e=>{e with key:=K.enc k}) f (l.set r (k,z)):=h.modify p (fun e=>{e with key:=K.enc k}) z (fun _=>rfl) (fun _ _ h=>⟨rfl,h⟩);have u:=zei c j (k:=k) (v:=z) (Rx s a);have h:=(gS.1 p).1;refine⟨ChangeMaps.setBlock w b (.map (i.modify r fun e=>{e with key:=K.enc k}) f),y.born,?_,⟨_,_,_,ChangeMaps.heap_setBlock_same c _,a,fun x=>?_,r,z,{y with key:=K.enc k},sF h,fun A=>?_,?_,rfl⟩,u.2⟩
  ·rw[n]
   simp[Instr.mapEntry,run_underlying ht,MapKept.run_getObj_map c,K.check,m,d,q,Instr.keyThatStays,K.bits,MapKept.run_setObj_map _ c,ChangeMaps.setBlock,goInt]
  ·rw[n,<-s,zb9,j];rfl
  ·rw[zgj p,s]
  rw[Array.getElem?_modify,kE rfl,d];rfl
theorem zru.store{K:zbb}{a:Int}(h:zru K w b X S a)(t)(v:Int):
  ∃w',(Instr.entryStore t (.map (Xa b)) (I6 a) (I6 v)).run prog w=.ok () w'/\QI K w' b (fun x=>if x=S then Xa v else X x)/\w.grownBy w' (Xa b)/\w'.heap.size=w.heap.size:=by
 obtain⟨a,p,l,i,f,q,n,z,e,r,s,c,rfl⟩:=h;have j:=(aS.1 c).1;have d:a.findIdx? (fun h=>(h.born:Int)==(e.born:Int))=Xa n:=by
  rw[Array.findIdx?_eq_some_iff_getElem];refine⟨j,?_,fun j l=>?_⟩
  ·have:a[n]=e:=(aS.1 c).2
   simp[this]
  intro u;have m:j<a.size:=Wm;have l:a[j].born=e.born:=by
   have:(a[j].born:Int)=(e.born:Int):=Si u;omega
  have u:(a.toList.map (·.born))[n]?=Xa e.born:=by simp[c]
  have c:(a.toList.map (·.born))[j]?=Xa e.born:=by simp[m,l]
  have:=zkS f.rise u c;omega
 refine⟨ChangeMaps.setBlock w b (.map (a.modify n fun h=>{h with val:=I6 v}) p),?_,zei i q (by rw[s];exact f.modify r _ v (fun _=>rfl) (fun _ a _=>⟨a,rfl⟩))⟩;simp[Instr.entryStore,MapKept.run_getObj_map i,asInt,asIntOf,d,MapKept.run_setObj_map _ i,ChangeMaps.setBlock]
theorem zmz{K:zbb}{rest:List Oper}(c:o.guard=Xb)(t e m x v)(f:o.op=.mapUpdate t m x v)(ht:Tryz.prog.underlying t=Xa (.map K.ty e))(b:Nat)(g:Int×Int->Option Int)(h:QI K w b g)(k:Int×Int)(z:Int)
  (j:a.eval m=.map (Xa b))(n:a.eval x=K.enc k)(l:a.eval v=I6 z)
  (i:∀w',QI K w' b (fun x=>if x=k then Xa z else g x)->w.grownBy w' (Xa b)->w'.heap.size=w.heap.size->wpList prog ops Q rest (a.put o.dst undef) w'):wpList prog ops Q (o::rest) a w:=by refine wpList_plain c fun c d=>?_;obtain⟨w',c,p,q,r⟩:=h.put ht k z;unfold Oper.wp;simp[execOp,f,j,n,l,c,Result.andThen];exact d _ _ (i w' p q r)
theorem zmW(em:Bool)(a:Int×Int)(w):(Instr.checkKey em 10000 174 (Xi #[I6 a.1,I6 a.2])).run prog w=.ok () w:=by
 have hf:(Tryz.prog.fieldsOf 174).toList.map (fun f=>(f.name,f.type,f.offset))=[("file",3,0),("index",3,1)]:=by kernel_rfl
 have hu:∃fs,Tryz.prog.underlying 174=Xa (.struct fs)/\Tryz.prog.fieldsOf 174=fs:=⟨_,underlying174,Kr⟩;obtain⟨fs,hu,hfe⟩:=hu;rw[hfe]at hf;obtain⟨f0,f1,hfs⟩:∃f0 f1,fs.toList=[f0,f1]:=by
  have hl:fs.toList.length=2:=by have:=congrArg Yk hf;simpa using this
  match hq:fs.toList,hl with
  |[f0,f1],_=>exact⟨f0,f1,rfl⟩
 rw[hfs]at hf;simp at hf;obtain⟨⟨n0,t0,o0⟩,⟨n1,t1,o1⟩⟩:=hf;have pI:=zc0 w;have pB:=zd8 w;have cI:∀(v:Int)(n:Nat),(Instr.checkKey em (n+1) 3 (I6 v)).run prog w=.ok () w:=fun v n=>by
  unfold Instr.checkKey;simp[run_underlying underlying3]
 have cB:∀(v:Bool)(n:Nat),(Instr.checkKey em (n+1) 4 (Xh v)).run prog w=.ok () w:=fun v n=>by
  unfold Instr.checkKey;simp[run_underlying underlying4]
 rw[show(10000:Nat)=9999+1 from rfl,Instr.checkKey];simp only[Xs,run_underlying hu,rA];rw[<-Yy,hfs];have k1:=cI a.1 9998;have k2:=cI a.2 9998;have k3:=cB Xd 9998;have q0:=pI (#[I6 a.1,I6 a.2]) 0 a.1 rfl;have q1:=pI (#[I6 a.1,I6 a.2]) 1 a.2 rfl;simp[List.forIn_cons,n0,t0,o0,n1,t1,o1,q0,q1,k1,k2]
theorem zoW(a b:Int×Int)(w):(Op.equal 174 (Xi #[I6 a.1,I6 a.2]) (Xi #[I6 b.1,I6 b.2])).run prog w=.ok (decide (a=b)) w:=by
 have hf:(Tryz.prog.fieldsOf 174).toList.map (fun f=>(f.name,f.type,f.offset))=[("file",3,0),("index",3,1)]:=by kernel_rfl
 unfold Op.equal Op.maxDepth;rw[run_equalIn_struct w 9999 174 _ _ Kr Kr];obtain⟨f0,f1,hfs⟩:∃f0 f1,(Tryz.prog.fieldsOf 174).toList=[f0,f1]:=by
  have hl:(Tryz.prog.fieldsOf 174).toList.length=2:=by have:=congrArg Yk hf;simpa using this
  match hq:(Tryz.prog.fieldsOf 174).toList,hl with
  |[f0,f1],_=>exact⟨f0,f1,rfl⟩
 rw[hfs]at hf⊢;simp at hf;obtain⟨⟨n0,t0,o0⟩,⟨n1,t1,o1⟩⟩:=hf;have pI:=zc0 w;have pB:=zd8 w;simp only[Op.eqFields,n0,t0,o0,n1,t1,o1];obtain⟨a1,a2⟩:=a;obtain⟨b1,b2⟩:=b;simp[pI,run_equalIn_int w _ _ _ _ _ _ underlying3];by_cases e1:a1=b1<;>by_cases e2:a2=b2<;>simp[e1,e2]
def plK:zbb where
 ty:=174
 enc:=fun a=>Xi #[Xe Xf a.1,Xe Xf a.2]
 bL:=⟨_,underlying174⟩
 check:=zmW
 same:=zoW
 bits:=fun a=>by simp[Instr.sameBits]
theorem znY(em:Bool)(a:Int×Int)(w):(Instr.checkKey em 10000 55 (Xi #[I6 a.1,I6 a.2,Xh Xd])).run prog w=.ok () w:=by
 have hf:(Tryz.prog.fieldsOf 55).toList.map (fun f=>(f.name,f.type,f.offset))=[("Kind",3,0),("N",3,1),("Write",4,2)]:=by kernel_rfl
 have hu:∃fs,Tryz.prog.underlying 55=Xa (.struct fs)/\Tryz.prog.fieldsOf 55=fs:=⟨_,underlying55,Kr⟩;obtain⟨fs,hu,hfe⟩:=hu;rw[hfe]at hf;obtain⟨f0,f1,f2,hfs⟩:∃f0 f1 f2,fs.toList=[f0,f1,f2]:=by
  have hl:fs.toList.length=3:=by have:=congrArg Yk hf;simpa using this
  match hq:fs.toList,hl with
  |[f0,f1,f2],_=>exact⟨f0,f1,f2,rfl⟩
 rw[hfs]at hf;simp at hf;obtain⟨⟨n0,t0,o0⟩,⟨n1,t1,o1⟩,⟨n2,t2,o2⟩⟩:=hf;have pI:=zc0 w;have pB:=zd8 w;have cI:∀(v:Int)(n:Nat),(Instr.checkKey em (n+1) 3 (I6 v)).run prog w=.ok () w:=fun v n=>by
  unfold Instr.checkKey;simp[run_underlying underlying3]
 have cB:∀(v:Bool)(n:Nat),(Instr.checkKey em (n+1) 4 (Xh v)).run prog w=.ok () w:=fun v n=>by
  unfold Instr.checkKey;simp[run_underlying underlying4]
 rw[show(10000:Nat)=9999+1 from rfl,Instr.checkKey];simp only[Xs,run_underlying hu,rA];rw[<-Yy,hfs];have k1:=cI a.1 9998;have k2:=cI a.2 9998;have k3:=cB Xd 9998;have q0:=pI (#[I6 a.1,I6 a.2,Xh Xd]) 0 a.1 rfl;have q1:=pI (#[I6 a.1,I6 a.2,Xh Xd]) 1 a.2 rfl;have q2:=pB (#[I6 a.1,I6 a.2,Xh Xd]) 2 Xd rfl;simp[List.forIn_cons,n0,t0,o0,n1,t1,o1,n2,t2,o2,q0,q1,q2,k1,k2,k3]
theorem zpJ(a b:Int×Int)(w):(Op.equal 55 (Xi #[I6 a.1,I6 a.2,Xh Xd]) (Xi #[I6 b.1,I6 b.2,Xh Xd])).run prog w=.ok (decide (a=b)) w:=by
 have hf:(Tryz.prog.fieldsOf 55).toList.map (fun f=>(f.name,f.type,f.offset))=[("Kind",3,0),("N",3,1),("Write",4,2)]:=by kernel_rfl
 unfold Op.equal Op.maxDepth;rw[run_equalIn_struct w 9999 55 _ _ Kr Kr];obtain⟨f0,f1,f2,hfs⟩:∃f0 f1 f2,(Tryz.prog.fieldsOf 55).toList=[f0,f1,f2]:=by
  have hl:(Tryz.prog.fieldsOf 55).toList.length=3:=by have:=congrArg Yk hf;simpa using this
  match hq:(Tryz.prog.fieldsOf 55).toList,hl with
  |[f0,f1,f2],_=>exact⟨f0,f1,f2,rfl⟩
 rw[hfs]at hf⊢;simp at hf;obtain⟨⟨n0,t0,o0⟩,⟨n1,t1,o1⟩,⟨n2,t2,o2⟩⟩:=hf;have pI:=zc0 w;have pB:=zd8 w;simp only[Op.eqFields,n0,t0,o0,n1,t1,o1,n2,t2,o2];obtain⟨a1,a2⟩:=a;obtain⟨b1,b2⟩:=b;simp[pI,pB,run_equalIn_bool' w _ _ _ _ underlying4,run_equalIn_int w _ _ _ _ _ _ underlying3];by_cases e1:a1=b1<;>by_cases e2:a2=b2<;>simp[e1,e2]
def enK:zbb where
 ty:=55
 enc:=fun a=>Xi #[Xe Xf a.1,Xe Xf a.2,Xh Xd]
 bL:=⟨_,underlying55⟩
 check:=znY
 same:=zpJ
 bits:=fun a=>by simp[Instr.sameBits]
theorem Box.bU{K:zbb}(h:Box w b D)(k:QI K w B X):b≠B:=fun e=>by
 subst e;obtain⟨t,h⟩:=h;obtain⟨a,a,l,a,_⟩:=k;grind
theorem zb.bU{K:zbb}(h:zb E k w A y)(v:QI K w B X):∀x,A.ownBlock=Xa x->Xa B≠Xa x:=fun x a e=>by
 cases e;obtain⟨b,b⟩:=h.obj a;obtain⟨a,a,y,a,_⟩:=v;grind
theorem zs1(w):(zeroValue 3).run prog w=.ok (I6 0) w:=by kernel_rfl
theorem zbR(V:MaV)(m:Ma)(w)(z:zK w V m):
  Xp prog 67 #[Xi (mL V m).toArray] w fun e w'=>∃B,e=Xl (Xi #[V.f.x,I6 m.aB,V.s.x,V.sb.x,V.sq.x,V.db.x,V.dq.x,V.fl.x,I6 m.cnt,V.ca.x,V.sp.x,.map (Xa B)])/\QI plK w' B (Jf m.ca)/\zc w w':=by
 obtain⟨s,t,h,j,d,f,g,⟨l,a,b⟩,i⟩:=V;dsimp only[mL];obtain⟨-,-,-,-,-,-,-,M,-⟩:=z.ns;dsimp only at M;have a4:=dD z.cas;have S:=dD M.symm;have Z:a<=9223372036854775807:=Hm z.ca.short;clear z M;have L:=@run_makeMap prog;obtain⟨x,n⟩:=kB (((w.alloc (Xk #[s.x,I6 m.aB,t.x,h.x,j.x,d.x,f.x,g.x,I6 m.cnt,O l a b,i.x] 41)).alloc (Xk #[eS,I6 0,eS,eS,eS,eS,eS,eS,I6 0,eS,eS,.map Xb] 140)).alloc (.map #[] 0));have C:Xo (zc w x):=dD<|by rw[<-n];exact((za _ _).trans (za _ _)).trans (za _ _)
 have W:Xo (Box x w.heap.size [s.x,I6 m.aB,t.x,h.x,j.x,d.x,f.x,g.x,I6 m.cnt,O l a b,i.x]):=dD<|by rw[<-n];exact((Box.aE _ _ _ rfl).alloc _).alloc _
 have ac:Xo (Box x (w.heap.size+1) [eS,I6 0,eS,eS,eS,eS,eS,eS,I6 0,eS,eS,.map Xb]):=dD<|by rw[<-n];exact(Box.aE _ _ _ Sm).alloc _
 have a5:Xo (QI plK x (w.heap.size+1+1) (Jf (m.ca.take 0))):=dD<|by
  rw[<-n];have:=QI.made plK ((w.alloc (Xk #[s.x,I6 m.aB,t.x,h.x,j.x,d.x,f.x,g.x,I6 m.cnt,O l a b,i.x] 41)).alloc (Xk #[eS,I6 0,eS,eS,eS,eS,eS,eS,I6 0,eS,eS,.map Xb] 140));have aq:((w.alloc (Xk #[s.x,I6 m.aB,t.x,h.x,j.x,d.x,f.x,g.x,I6 m.cnt,O l a b,i.x] 41)).alloc (Xk #[eS,I6 0,eS,eS,eS,eS,eS,eS,I6 0,eS,eS,.map Xb] 140)).heap.size=w.heap.size+1+1:=Sm;rw[aq]at this;exact this.congr fun ar=>Rr Yi
 have F:=dD n;clear n;go_enter func67,ntmps67;go_upto_region 2 with fail;rw[F.out];clear L;have Q:=W.c 9 rfl;go_wp2;clear Q;go_loopg[10] a (fun an N wr=>∃k:Nat,k<=a/\a-k<=an/\N=I6 k/\Xo (zc w wr)/\Xo (Box wr w.heap.size [s.x,I6 m.aB,t.x,h.x,j.x,d.x,f.x,g.x,I6 m.cnt,O l a b,i.x])/\Xo (Box wr (w.heap.size+1) [eS,I6 0,eS,eS,eS,eS,eS,eS,I6 0,eS,eS,.map Xb])/\Xo (QI plK wr (w.heap.size+1+1) (Jf (m.ca.take k))))
 exact⟨0,nZ _,Wm,rfl,C,W,ac,a5⟩;obtain⟨k,ap,ao,rfl,A,X,Y,T⟩:=hrel;by_cases r:k<a
 ·have v:=kC r
  obtain⟨p,R⟩:∃p,Xo (m.ca[k]?=Xa p):=⟨_,gE (Rx S.out r)⟩;obtain⟨ag,rfl,I⟩:=a4.out k p R.out;obtain⟨ak,al,am⟩:=I wr A.out;clear I;go_upto_region 5 with fail;obtain⟨a9,c⟩:=kB (wr.alloc (Xk #[I6 p.file,I6 p.idx,I6 p.fr] 108));have D:=gT c A;have aa:=yA c X;have ae:=yA c Y;have a6:Xo (QI plK a9 (w.heap.size+1+1) (Jf (m.ca.take k))):=dD (by rw[<-c];exact T.aA (za _ _));have a2:=xA c;rw[c];clear c ak al am;obtain⟨ah,ai,aj⟩:=a2.c3;go_wp2_with(refine zmz (K:=plK) rfl 138 3 (.tmp 14) (.tmp 19) (.tmp 21) rfl underlying138 (w.heap.size+1+1) _ a6 (p.file,p.idx) p.fr rfl rfl rfl ?_)
  clear ah ai aj;intro y a1 q _;have a7:Xo (QI plK y (w.heap.size+1+1) (Jf (m.ca.take (k+1)))):=dD<|a1.congr fun ar=>by rw[jU R.out,zh4]
  have E:Xo (zc w y):=dD<|zd D q Wm;have ab:Xo (Box y w.heap.size [s.x,I6 m.aB,t.x,h.x,j.x,d.x,f.x,g.x,I6 m.cnt,O (Xa ag) a b,i.x]):=aa.grown q Wm;have af:Xo (Box y (w.heap.size+1) [eS,I6 0,eS,eS,eS,eS,eS,eS,I6 0,eS,eS,.map Xb]):=ae.grown q Wm;clear a1 q;go_wp2;go_roundg (a-(k+1));exact⟨k+1,Wm,Wm,Gn,E,ab,af,a7⟩;omega
 have v:=kD r;have:k=a:=Wm;subst this;have G:Xo (QI plK wr (w.heap.size+1+1) (Jf m.ca)):=dD<|by
  have:=T.out;rw[Xz (by rw[S.out];exact nR _)]at this;exact this
 obtain⟨au,av,aw,ax,ay,az,b0,b1,b2,Q,P⟩:=X.aY
 go_wp2_with(refine zn rfl 140 (.tmp 2) (.tmp 25) rfl (w.heap.size+1) rfl [s.x,I6 m.aB,t.x,h.x,j.x,d.x,f.x,g.x,I6 m.cnt,O l k b,i.x,.map (Xa (w.heap.size+1+1))] rfl Y rfl Kr (fun b3 a0=>by
  simp only[mC,nM,or_false]at a0
  rcases a0 with rfl|rfl|rfl|rfl|rfl|rfl|rfl|rfl|rfl|rfl|rfl|rfl<;>rfl) ?_)
 clear au av aw ax ay az b0 b1 b2 Q P;intro U H u _;have a3:Xo (zc w U):=dD<|zd A u Wm;have a8:Xo (QI plK U (w.heap.size+1+1) (Jf m.ca)):=G.kept u Sm;go_wp2;refine bodyPost_ret (z8 rfl _ rfl H underlying140 rfl Kr) rfl ⟨_,rfl,a8,a3⟩
theorem zgN(V:MaV)(m:Ma)(B k:Nat)(g:Int×Int->Option Int)(w)(b:zK w V m)(s:k<m.fs.length)(d:QI plK w B g):
  Xp prog 135 #[Xi #[V.f.x,I6 m.aB,V.s.x,V.sb.x,V.sq.x,V.db.x,V.dq.x,V.fl.x,I6 m.cnt,V.ca.x,V.sp.x,.map (Xa B)],I6 (k:Int)] w fun e w'=>e=Xl (Xh (decide (g ((z1 m k).f,(z1 m k).x)=Xa (k:Int))))/\zc w w':=by
 obtain⟨⟨x,r,y⟩,z,j,p,f,h,i,c,n⟩:=V;dsimp only[mL];obtain⟨t,-⟩:=b.ns;dsimp only at t;have a:k<r:=Wm;obtain⟨q,l⟩:∃q,Xo (m.fs[k]?=Xa q):=⟨_,gE s⟩;have a:z1 m (k:Int)=q:=by unfold z1;rw[tN,gD,l.out];rfl
 rw[a];obtain⟨v,rfl,u⟩:=(show ziK w x m.fs from b.bC) k q l.out;clear a b t s;obtain⟨l,b⟩:=kB (w.alloc (Xk #[O (Xa v) r y,I6 m.aB,z.x,j.x,p.x,f.x,h.x,i.x,I6 m.cnt,c.x,n.x,.map (Xa B)] 140));have a:=gA b;have t:=xA b;have h:=sA b;obtain⟨x,y,z,A,C,D,E,F,G,H,n,p,r⟩:=u l a.out;obtain⟨i,c⟩:=kB (l.alloc (Xk #[U8 q.p.b0,U8 q.p.b1,U8 q.p.b2,U8 q.p.b3,U8 q.p.b4,U8 q.p.b5,U8 q.p.b6,U8 q.p.b7,I6 q.r,Xh q.u,Xh q.d,I6 q.f,I6 q.x] 53));have f:=gT c a;have v:=yA c t;have s:=xP c h;have a:(Instr.lookup 138 (.map (Xa B)) (Xi #[I6 q.f,I6 q.x]) Xc).run prog i=.ok (Xm #[I6 ((g (q.f,q.x)).getD 0),Xh (g (q.f,q.x)).isSome]) i:=(d.aA f).look (K:=plK) underlying138 (zs1 i) (q.f,q.x) Xc;have j:Xo (_=l):=b;have l:Xo (_=i):=c;clear b c u d;obtain⟨R,b⟩:=kA (decide (g (q.f,q.x)=Xa (k:Int)));rw[b.out];obtain⟨d,c⟩:=kA (g (q.f,q.x));rw[c.out]at a b;go_enter func135,ntmps135;go_upto_region 1 with fail;rw[j.out];have c:=t.c 0 rfl;go_upto_region 2 with fail;rw[l.out];rw[h.out];clear x y z A C D E F G H n p r c;have c:=v.c 11 rfl;have c:=s.c 11 rfl;have c:=s.c 12 rfl;cases d with
 |none=>
  simp only[Option.getD_none,Option.isSome_none]at a;go_wp2;go_ret;exact⟨by rw[<-b.out];rfl,f⟩
 |some z=>
  simp only[Option.getD_some,Option.isSome_some]at a;have a:Xo ((z==(k:Int))=R):=dD (by rw[<-b.out,Yp];simp);go_wp2;go_ret;exact⟨by rw[<-a.out];rfl,f⟩
def zap(K:zbb)(w:Xn)(b:Nat)(H:Int×Int->Int):Prop:=∃g,QI K w b g/\∀k,(g k).getD 0=H k
theorem zap.aA{K:zbb}{H:Int×Int->Int}(h:zap K w b H)(k:zc w w'):zap K w' b H:=by obtain⟨g,a,c⟩:=h;exact⟨g,a.aA k,c⟩
theorem zap.congr{K:zbb}{H a:Int×Int->Int}(h:zap K w b H)(e:∀k,H k=a k):zap K w b a:=by obtain⟨g,a,c⟩:=h;exact⟨g,a,fun k=>(c k).trans (e k)⟩
theorem zap.bW{K:zbb}{H:Int×Int->Int}(k:zap K w B H)(h:Box w b D):b≠B:=by obtain⟨g,a,_⟩:=k;exact h.bU a
theorem zap.ne_own{K:zbb}{H:Int×Int->Int}(v:zap K w B H)(h:zb E k w A y):∀x,A.ownBlock=Xa x->Xa B≠Xa x:=by obtain⟨g,a,_⟩:=v;exact h.bU a
def zfp(K:zbb)(w:Xn)(b:Nat)(H:Int×Int->Int)(k:Int×Int)(st:Int):Prop:=∃g,zru K w b g k st/\∀x,(g x).getD 0=H x
theorem zap.entry{K:zbb}{H:Int×Int->Int}(h:zap K w b H){e:TypeId}(ht:Tryz.prog.underlying t=Xa (.map K.ty e))(g:(zeroValue e).run prog w=.ok (I6 0) w)(k:Int×Int):
  ∃w' a,(Instr.mapEntry t (.map (Xa b)) (K.enc k)).run prog w=.ok (Xm #[I6 (H k),I6 a]) w'/\zfp K w' b H k a/\w.grownBy w' (Xa b)/\w'.heap.size=w.heap.size:=by
 obtain⟨c,f,c⟩:=h;obtain⟨w',a,d,h,i,j⟩:=f.entry ht g k;rw[c k]at d;refine⟨w',a,d,⟨_,h,fun x=>?_⟩,i,j⟩;by_cases e:x=k;·subst e;rw[kE rfl];exact c x
 rw[kF e];exact c x
theorem zfp.h{K:zbb}{H:Int×Int->Int}{k:Int×Int}{a:Int}(h:zfp K w b H k a):zap K w b H:=by obtain⟨g,a,c⟩:=h;exact⟨g,a.f,c⟩
theorem zap.look{K:zbb}{H:Int×Int->Int}(h:zap K w b H){e:TypeId}(ht:Tryz.prog.underlying t=Xa (.map K.ty e))(d:(zeroValue e).run prog w=.ok (I6 0) w)(k:Int×Int):
  (Instr.lookup t (.map (Xa b)) (K.enc k) Xd).run prog w=.ok (I6 (H k)) w:=by obtain⟨g,a,c⟩:=h;have:=a.look ht d k Xd;rw[c k]at this;exact this
def zsr(H:Int×Int->Int)(k:Int×Int):Int×Int->Int:=fun x=>H x+(if x=k then 1 else 0)
theorem zbP{K:zbb}{rest:List Oper}(c:o.guard=Xb)(t m s x)(e:o.op=.entryStore t m s x)(b:Nat)(H:Int×Int->Int)(k:Int×Int)(d:Int)(h:zfp K w b H k d)
  (j:a.eval m=.map (Xa b))(l:a.eval s=I6 d)(n:a.eval x=I6 (H k+1))
  (i:∀w',zap K w' b (zsr H k)->w.grownBy w' (Xa b)->w'.heap.size=w.heap.size->wpList prog ops Q rest (a.put o.dst undef) w'):wpList prog ops Q (o::rest) a w:=by
 refine wpList_plain c fun c d=>?_;obtain⟨g,f,g⟩:=h;obtain⟨w',c,h,p,q⟩:=f.store t (H k+1);unfold Oper.wp;simp[execOp,e,j,l,n,c,Result.andThen];refine d _ _ (i w' ⟨_,h,fun y=>?_⟩ p q);unfold zsr;by_cases e:y=k;·subst e;rw[kE rfl,kE rfl];rfl
 rw[kF e,kF e,g y];omega
theorem zpn(l:List Ca)(key:Int×Int):0<=zaJ l key/\zaJ l key<=l.length:=by grind[zaJ,zN,Ya,Ca]
theorem zfC(s):(qQ s).length<=64:=by unfold qQ;have:=Yr (fun n=>enS (ze s n)) (Yz 64);simpa using this
theorem zqP(m:Ma)(i:Nat)(l:List Nat)(s)(key:Int×Int):0<=qR m i l s key/\qR m i l s key<=m.ca.length+64*m.sp.length+l.length:=by
 unfold qR;have a:(if key.1=1 then zN m.ca key.2 else 0)<=m.ca.length:=by
  split;·exact Ya
  omega
 have a:∀(L:List Sp),(L.map fun s=>(qQ s).countP fun n=>isE (ze s n) key.1 key.2).sum<=64*L.length:=by
  intro L;induction L with
  |nil=>simp
  |cons a L b=>
   have b:=Ya (p:=fun n=>isE (ze a n) key.1 key.2) (l:=qQ a);have b:=zfC a;simp only[mP,List.sum_cons,Ym];omega
 grind
def zfa:Sp:=⟨Xc,[],[]⟩
theorem zjw(V)(m:Ma)(w)(g:zK w V m)(u:m.sp.length<=4)(y:∀s∈m.sp,tbW s.tb=0):
  Xp prog 134 #[Xi (mL V m).toArray] w fun e w'=>∃B,e=Xl (.map (Xa B))/\zap enK w' B (qR m m.sp.length [] zfa)/\zc w w':=by
 obtain⟨a4,a5,t,z,p,q,r,⟨d,a,l⟩,⟨h,b,n⟩⟩:=V;dsimp only[mL];obtain⟨-,-,-,-,-,-,-,E,F⟩:=g.ns;dsimp only at E F;have G:Xo (zf5 w d m.ca):=g.cas;have ba:=dD E.symm;have c:a<=140737488355328:=by have:=g.ca.2;have c:jF.bytes=24:=rfl;rw[c]at this;omega
 obtain⟨bc,A,f,k⟩:=g.aU;have b2:=dD A;have b0:Xo (∀(j:Nat)x,bc[j]?=Xa x->∃a9,h=Xa a9/\∀W,zc w W->ziN W (a9.add (j*10)) x):=f;have b1:=dD k;have a7:=dD F.symm;have c:=dD y;have D:Xo (∀j c,0<=zaJ (m.ca.take j) c/\zaJ (m.ca.take j) c<=140737488355328):=show∀j c,_ from fun j c=>by
  have H:=zpn (m.ca.take j) c;have i:(m.ca.take j).length<=m.ca.length:=by simp;omega
  omega
 have az:Xo (∀i C s c,C.length<=64->0<=qR m i C s c/\qR m i C s c<=140737488360000):=dD<|fun i C s c ak=>by
  have H:=zqP m i C s c;omega
 have c:b<=4:=Wm;clear g E F A f k u y;have u:=@run_makeMap prog;obtain⟨f,c⟩:=kB ((w.alloc (Xk #[a4.x,I6 m.aB,a5.x,t.x,z.x,p.x,q.x,r.x,I6 m.cnt,O d a l,O h b n] 41)).alloc (.map #[] 0));have g:Xo (zc w f):=dD<|by rw[<-c];exact(za _ _).trans (za _ _)
 have y:Xo (Box f w.heap.size [a4.x,I6 m.aB,a5.x,t.x,z.x,p.x,q.x,r.x,I6 m.cnt,O d a l,O h b n]):=dD<|by rw[<-c];exact(Box.aE _ _ _ rfl).alloc _
 have A:Xo (zap enK f (w.heap.size+1) (zaJ (m.ca.take 0))):=dD<|by
  rw[<-c];have:=QI.made enK (w.alloc (Xk #[a4.x,I6 m.aB,a5.x,t.x,z.x,p.x,q.x,r.x,I6 m.cnt,O d a l,O h b n] 41));have k:(w.alloc (Xk #[a4.x,I6 m.aB,a5.x,t.x,z.x,p.x,q.x,r.x,I6 m.cnt,O d a l,O h b n] 41)).heap.size=w.heap.size+1:=Sm;rw[k]at this;exact⟨_,this,fun L=>by rw[Yi,zno];rfl⟩
 have k:Xo (_=f):=c;clear c;go_enter func134,ntmps134;go_upto_region 2 with fail;rw[k.out];clear u;have c:=y.c 9 rfl;go_wp2;clear c;go_loopg[15] a (fun al c wr=>∃C:Nat,C<=a/\a-C<=al/\c=I6 C/\Xo (zc w wr)/\Xo (Box wr w.heap.size [a4.x,I6 m.aB,a5.x,t.x,z.x,p.x,q.x,r.x,I6 m.cnt,O d a l,O h b n])/\Xo (zap enK wr (w.heap.size+1) (zaJ (m.ca.take C))))
 exact⟨0,nZ _,Wm,rfl,g,y,A⟩;obtain⟨C,c,c,rfl,P,bb,a1⟩:=hrel;by_cases af:C<a
 ·have ao:=kC af
  obtain⟨c,b9⟩:∃c,Xo (m.ca[C]?=Xa c):=⟨_,gE (Rx ba.out af)⟩;obtain⟨a9,rfl,ak⟩:=G.out C c b9.out;obtain⟨b3,b4,b5⟩:=ak wr P.out;clear ak;go_upto_region 5 with fail;obtain⟨M,d⟩:=kB (wr.alloc (Xk #[I6 c.file,I6 c.idx,I6 c.fr] 108));have Q:=gT d P;have g:=yA d bb;have aw:Xo (zap enK M (w.heap.size+1) (zaJ (m.ca.take C))):=dD (by rw[<-d];exact a1.aA (za _ _));have f:=xA d;rw[d];clear d b3 b4 b5;obtain⟨ai,a8⟩:=kA wr.heap.size;rw[a8.out]at f⊢;obtain⟨H,a6⟩:=kA (zaJ (m.ca.take C));rw[a6.out]at aw;obtain⟨ac,ae⟩:0<=H (1,c.fr)/\H (1,c.fr)<=140737488355328:=by rw[<-a6.out];exact D C (1,c.fr)
  obtain⟨k,an⟩:∃k:Xn->Prop,k=fun u=>zap enK u (w.heap.size+1) H/\Box u ai [I6 c.file,I6 c.idx,I6 c.fr]/\Box u w.heap.size [a4.x,I6 m.aB,a5.x,t.x,z.x,p.x,q.x,r.x,I6 m.cnt,O (Xa a9) a l,O h b n]/\zc w u:=⟨_,rfl⟩;have F:Xo (∀u,k u↔zap enK u (w.heap.size+1) H/\Box u ai [I6 c.file,I6 c.idx,I6 c.fr]/\Box u w.heap.size [a4.x,I6 m.aB,a5.x,t.x,z.x,p.x,q.x,r.x,I6 m.cnt,O (Xa a9) a l,O h b n]/\zc w u):=dD<|fun u=>by rw[an]
  clear an;have ap:=fun y:zh k=>((F _).1 y.holds).2.1.c 2 rfl;have T:∀y:zh k,(Instr.lookup 204 (.map (Xa (w.heap.size+1))) (Xi #[I6 1,I6 c.fr,Xh Xd]) Xd).run prog y.world=.ok (I6 (H (1,c.fr))) y.world:=fun y=>((F _).1 y.holds).1.look (K:=enK) underlying204 (zs1 _) (1,c.fr);have A:k M.drew:=(F _).2 ⟨aw.aA (gW _),f.aA (gW _),g.aA (gW _),Q.trans (gW _)⟩;have U:Nonempty (zh k):=⟨⟨_,A⟩⟩;refine q4 (I:=k) 8 [(6,⟨fun N=>∃g,N=Xm #[I6 (H (1,c.fr)),I6 g],fun N w'=>∃g,N=Xm #[I6 (H (1,c.fr)),I6 g]/\zfp enK w' (w.heap.size+1) H (1,c.fr) g,fun _ _=>True,fun _=>True⟩)] A zY Kr rfl rfl Dc (Sa ⟨_,0,rfl⟩) ?hp ?hpre ?hpr0 ?_;case hp=>
   intro L s j au Z a2 S _ N b8 D f b6;obtain⟨rfl,rfl⟩:=zcG Z;obtain⟨rfl,rfl⟩:=zcG a2;exact absurd rfl S
  case hpre=>
   intro j au L s a2 Z S b8 D f ag;obtain⟨rfl,rfl⟩:=zcG a2;trivial
  case hpr0=>
   intro L au Z;obtain⟨rfl,rfl⟩:=zcG Z;trivial
  simp only[Xv,Xw];iterate 6 refine zs ?_
  refine zT rfl rfl (fun w' ab ag aa=>?_) (fun bg b7=>?_);·obtain⟨G,a0,X,Y⟩:=(F _).1 ab;obtain⟨av,g,W,ar,a3,bf⟩:=G.entry (K:=enK) underlying204 (zs1 w') (1,c.fr);have ah:(Instr.mapEntry 204 (.map (Xa (w.heap.size+1))) (Xi #[I6 1,I6 c.fr,Xh Xd])).run prog w'=.ok (Xm #[I6 (H (1,c.fr)),I6 g]) av:=W;clear ap T U;refine zO.step (v:=Xm #[I6 (H (1,c.fr)),I6 g]) (w':=av) (by simp only[execOp];go_simp) ⟨(F _).2 ⟨ar.h,a0.grown a3 (G.bW a0),X.grown a3 (G.bW X),zd Y a3 Wm⟩,trivial,⟨_,rfl⟩,_,rfl,ar⟩
  obtain⟨g,rfl⟩:=b7;refine Uq ?_;refine zs ?_;refine Zv fun ax aj aa=>?_;obtain⟨G,a0,X,Y⟩:=(F _).1 aj;obtain⟨E,f,am⟩:∃E,(Value.tuple #[I6 (H (1,c.fr)),I6 g])=Xm #[I6 (H (1,c.fr)),I6 E]/\zfp enK ax (w.heap.size+1) H (1,c.fr) E:=aa 6;have R:zfp enK ax (w.heap.size+1) H (1,c.fr) g:=by
   simp at f;rw[f];exact am
  have bd:=dD X;have ay:=dD Y;have ax:=dD R;clear ap T U aa aj G a0 X Y am f R A;refine zbP (K:=enK) rfl 204 (.tmp 19) (.tmp 26) (.tmp 24) rfl (w.heap.size+1) H (1,c.fr) g ax rfl rfl Gn ?_;intro aj ax c _;have be:Xo (Box aj w.heap.size [a4.x,I6 m.aB,a5.x,t.x,z.x,p.x,q.x,r.x,I6 m.cnt,O (Xa a9) a l,O h b n]):=bd.grown c Wm;have p:Xo (zc w aj):=dD<|zd ay c Wm;have ap:Xo (zap enK aj (w.heap.size+1) (zaJ (m.ca.take (C+1)))):=dD<|ax.congr fun L=>by rw[jU b9.out,zlH,<-a6.out];rfl
  clear ax c ac ae;go_wp2;go_roundg (a-(C+1));exact⟨C+1,Wm,Wm,Gn,p,be,ap⟩;omega
 have ao:=kD af;have:C=a:=Wm;subst this;have h:Xo (zap enK wr (w.heap.size+1) (qR m 0 [] zfa)):=dD<|a1.congr fun L=>by
  rw[Xz (by rw[ba.out];exact nR _)];exact znp m zfa L
 have a:=bb.c 10 rfl;go_wp2;clear a;have a:Xo (zc w wr):=P;go_loopg[31] b (fun al l wr=>∃i:Nat,i<=b/\b-i<=al/\l=I6 i/\Xo (zc w wr)/\Xo (zap enK wr (w.heap.size+1) (qR m i [] zfa)))
 exact⟨0,nZ _,Wm,rfl,a,h⟩;obtain⟨i,a,a,rfl,P,a1⟩:=hrel;by_cases h:i<b
 ·have z:=kC h
  obtain⟨s,b9⟩:∃s,Xo (m.sp[i]?=Xa s):=⟨_,gE (Rx a7.out h)⟩;obtain⟨x,a⟩:∃x,Xo (bc[i]?=Xa x):=⟨_,gE (by rw[b2.out,a7.out];exact h)⟩;have a4:=dD<|b1.out i x s a b9.out;obtain⟨a9,rfl,ak⟩:=b0.out i x a.out;obtain⟨b3,b4,b5,a,n,q,r,t,C,a5⟩:=ak wr P.out;clear ak;go_upto_region 10 with fail;refine nW fun M d=>?_;have Q:=gT d P;have aw:Xo (zap enK M (w.heap.size+1) (qR m i [] s)):=dD (by rw[<-d];exact(a1.aA (za _ _)).congr fun L=>by unfold qR;simp);have l:=xA d;clear d b3 b4 b5 a n q r t C a5;obtain⟨ai,a8⟩:=kA wr.heap.size;rw[a8.out]at l⊢;have a:Xp prog 90 #[Xi #[x.t0.x,x.t1.x,x.t2.x,x.t3.x,x.t4.x,x.t5.x,x.t6.x,x.t7.x]] M fun e w'=>∃N,e=Xl N/\zb blE M.heap.size w' N (qB s.tb Qt 64)/\zc M w':=J0 x.tab s.tb M (a4.aA Q).tb;obtain⟨_,_,ao,ax,ay,b0,b1,b2,b3,b4⟩:=l.k10;go_wp2_with fail;refine a.mono ?_;clear a ao ax ay b0 b1 b2 b3 b4;rintro b5 a⟨a,rfl,a,d⟩;have q:=dD (Q.trans d);have r:=dD (aw.aA d);have t:=dD (l.aA d);have l:=dD<|bS Q.out;clear d;obtain⟨n,af,rfl⟩:=a.form;have d:=a.at.short;rw[ZL]at a d⊢;rw[Yq]at a d⊢;obtain⟨D,a9⟩:=kA ((qQ s).length);rw[a9.out]at a d⊢;have d:=dD a;have l:D<=64:=by rw[<-a9.out];exact zfC s
  clear a;go_wp2;go_loopg[39] D (fun al a wr=>∃j:Nat,j<=D/\D-j<=al/\a=I6 j/\Xo (zc w wr)/\Xo (zb blE M.heap.size wr (O n D af) ((qQ s).map fun(n:Nat)=>(n:Int)))/\Xo (Box wr ai [Xh x.aD,x.ar.x,x.t0.x,x.t1.x,x.t2.x,x.t3.x,x.t4.x,x.t5.x,x.t6.x,x.t7.x])/\Xo (zap enK wr (w.heap.size+1) (qR m i ((qQ s).take j) s)))
  exact⟨0,nZ _,Wm,rfl,q,d,t,Rx Yi r⟩;obtain⟨j,a2,a,rfl,P,al,l,a1⟩:=hrel;by_cases d:j<D
  ·have C:=kC d
   obtain⟨n,q⟩:∃n,Xo ((qQ s)[j]?=Xa n):=⟨_,gE (Rx a9.out d)⟩;have a5:=zhD q.out;have ak:=dD<|jU q.out;obtain⟨_,_,t,a8⟩:=al.at.aX;simp only[vJ]at t;obtain⟨r,a,Q⟩:=a8 j (n:Int) (by rw[Yl,q.out];rfl);have aw:=Q wr (zc.refl _);rw[<-t.1]at a;subst a;clear Q t a8;have q:Xp prog 69 #[Xi #[x.t0.x,x.t1.x,x.t2.x,x.t3.x,x.t4.x,x.t5.x,x.t6.x,x.t7.x],I6 (n:Int)] wr fun e w'=>e=Xl (enV (ze s n))/\zc wr w':=by
    have:=JJ x.tab s.tb (n:Int) wr (a4.aA P).tb;rw[zgO a5]at this;exact this
   obtain⟨a,t⟩:=kA (ze s n);rw[t.out]at q;obtain⟨_,_,ao,ax,ay,b0,b1,b2,b3,b4⟩:=l.k10;go_wp2_with fail;refine q.mono ?_;clear q aw ao ax ay b0 b1 b2 b3 b4;rintro b5 aj⟨rfl,c⟩;have p:=dD (P.trans c);have Q:=dD (al.aA c);have a5:=dD (l.aA c);have ap:=dD (a1.aA c);clear c;unfold enV;go_upto_region 14 with fail;obtain⟨a4,c⟩:=kB (aj.alloc (Xk #[I6 a.kind,I6 a.n,Xh a.wr] 55));have q:=gT c p;have p:Xo (zb blE M.heap.size a4 (O (Xa r) D af) ((qQ s).map fun(n:Nat)=>(n:Int))):=dD (by rw[<-c];exact Q.aA (za _ _));have a8:=yA c a5;have a5:Xo (zap enK a4 (w.heap.size+1) (qR m i ((qQ s).take j) s)):=dD (by rw[<-c];exact ap.aA (za _ _));have Q:=xA c;rw[c];clear c;obtain⟨c,l⟩:=kA aj.heap.size;rw[l.out]at Q⊢;obtain⟨H,a6⟩:=kA (qR m i ((qQ s).take j) s);rw[a6.out]at a5;obtain⟨ac,ae⟩:0<=H (a.kind,a.n)/\H (a.kind,a.n)<=140737488360000:=(by rw[<-a6.out];exact az i _ s (a.kind,a.n) (by simp;omega));obtain⟨k,an⟩:∃k:Xn->Prop,k=fun u=>zap enK u (w.heap.size+1) H/\Box u c [I6 a.kind,I6 a.n,Xh a.wr]/\Box u ai [Xh x.aD,x.ar.x,x.t0.x,x.t1.x,x.t2.x,x.t3.x,x.t4.x,x.t5.x,x.t6.x,x.t7.x]/\zb blE M.heap.size u (O (Xa r) D af) ((qQ s).map fun(n:Nat)=>(n:Int))/\zc w u:=⟨_,rfl⟩;have F:Xo (∀u,k u↔zap enK u (w.heap.size+1) H/\Box u c [I6 a.kind,I6 a.n,Xh a.wr]/\Box u ai [Xh x.aD,x.ar.x,x.t0.x,x.t1.x,x.t2.x,x.t3.x,x.t4.x,x.t5.x,x.t6.x,x.t7.x]/\zb blE M.heap.size u (O (Xa r) D af) ((qQ s).map fun(n:Nat)=>(n:Int))/\zc w u):=dD<|fun u=>(by rw[an]);clear an;have l:=fun y:zh k=>((F _).1 y.holds).2.1.c 0 rfl;have n:=fun y:zh k=>((F _).1 y.holds).2.1.c 1 rfl;have T:∀y:zh k,(Instr.lookup 204 (.map (Xa (w.heap.size+1))) (Xi #[I6 a.kind,I6 a.n,Xh Xd]) Xd).run prog y.world=.ok (I6 (H (a.kind,a.n))) y.world:=fun y=>((F _).1 y.holds).1.look (K:=enK) underlying204 (zs1 _) (a.kind,a.n);have A:k a4.drew:=(F _).2 ⟨a5.aA (gW _),Q.aA (gW _),a8.aA (gW _),p.aA (gW _),q.trans (gW _)⟩;have U:Nonempty (zh k):=⟨⟨_,A⟩⟩;refine q4 (I:=k) 10 [(8,⟨fun N=>∃g,N=Xm #[I6 (H (a.kind,a.n)),I6 g],fun N w'=>∃g,N=Xm #[I6 (H (a.kind,a.n)),I6 g]/\zfp enK w' (w.heap.size+1) H (a.kind,a.n) g,fun _ _=>True,fun _=>True⟩)] A zY Kr rfl rfl Dc (Sa ⟨_,0,rfl⟩) ?hp ?hpre ?hpr0 ?_;case hp=>
    intro L s j au Z a2 S _ N b8 D f b6;obtain⟨rfl,rfl⟩:=zcG Z;obtain⟨rfl,rfl⟩:=zcG a2;exact absurd rfl S
   case hpre=>
    intro j au L s a2 Z S b8 D f ag;obtain⟨rfl,rfl⟩:=zcG a2;trivial
   case hpr0=>
    intro L au Z;obtain⟨rfl,rfl⟩:=zcG Z;trivial
   simp only[Xv,Xw];iterate 8 refine zs ?_
   refine zT rfl rfl (fun w' ab ag aa=>?_) (fun bg b7=>?_);·obtain⟨G,a0,X,Y,p⟩:=(F _).1 ab;obtain⟨av,g,W,ar,a3,bf⟩:=G.entry (K:=enK) underlying204 (zs1 w') (a.kind,a.n);have ah:(Instr.mapEntry 204 (.map (Xa (w.heap.size+1))) (Xi #[I6 a.kind,I6 a.n,Xh Xd])).run prog w'=.ok (Xm #[I6 (H (a.kind,a.n)),I6 g]) av:=W;clear l n T U;refine zO.step (v:=Xm #[I6 (H (a.kind,a.n)),I6 g]) (w':=av) (by simp only[execOp];go_simp) ⟨(F _).2 ⟨ar.h,a0.grown a3 (G.bW a0),X.grown a3 (G.bW X),Y.grown a3 (G.ne_own Y),zd p a3 Wm⟩,trivial,⟨_,rfl⟩,_,rfl,ar⟩
   obtain⟨g,rfl⟩:=b7;refine Uq ?_;refine zs ?_;refine Zv fun c k aa=>?_;obtain⟨G,a0,X,Y,p⟩:=(F _).1 k;obtain⟨E,f,am⟩:∃E,(Value.tuple #[I6 (H (a.kind,a.n)),I6 g])=Xm #[I6 (H (a.kind,a.n)),I6 E]/\zfp enK c (w.heap.size+1) H (a.kind,a.n) E:=aa 8;have R:zfp enK c (w.heap.size+1) H (a.kind,a.n) g:=by
    simp at f;rw[f];exact am
   have x:=dD X;have c:=dD Y;have r:=dD p;have u:=dD G;have q:=dD R;clear l n T U aa k G a0 X Y p am f R A;refine zbP (K:=enK) rfl 204 (.tmp 47) (.tmp 56) (.tmp 54) rfl (w.heap.size+1) H (a.kind,a.n) g q rfl rfl Gn ?_;intro g k a _;have n:=dD<|x.grown a (u.bW x);have f:=dD<|c.grown a (u.ne_own c);have c:Xo (zc w g):=dD<|zd r a Wm;have l:Xo (zap enK g (w.heap.size+1) (qR m i ((qQ s).take (j+1)) s)):=dD<|k.congr fun L=>(by rw[ak.out,znm,t.out,a6.out];rfl);clear k a ac ae;go_wp2;go_roundg (D-(j+1));exact⟨j+1,Wm,Wm,Gn,c,f,n,l⟩;omega
  have C:=kD d;have:j=D:=Wm;subst this;have a:Xo (zap enK wr (w.heap.size+1) (qR m (i+1) [] zfa)):=dD<|a1.congr fun L=>by
   rw[Xz (by rw[a9.out];exact nR _)];exact znn m i s zfa b9 L
  go_wp2;go_roundg (b-(i+1));exact⟨i+1,Wm,Wm,Gn,P,a⟩;omega
 have z:=kD h;have:i=b:=Wm;subst this;have a:Xo (zap enK wr (w.heap.size+1) (qR m m.sp.length [] zfa)):=dD<|Rx a7.out a1.out;go_wp2;go_ret;exact⟨_,rfl,a,P⟩
def jD(fl:List Fl)(i:Nat)(bl:List Int):List Int:=(Jg (fl.take i))++bl
theorem zbD{h:List Int}(e:∀i:Nat,i<k->L.contains (i:Int)=h.contains (i:Int)):jC k L=jC k h:=by grind[jC,List.map_congr_left,Yh.1]
theorem zlV(fl)(i:Nat)(bl)(hb:z<0)(n:Nat):jC n (jD fl i (bl++[z]))=jC n (jD fl i bl):=zbD fun j _=>by grind[jD]
theorem znO(fl)(i:Nat)(bl)(b:Nat)(n:Nat):jC n ((b:Int)::jD fl i bl)=jC n (jD fl i (bl++[(b:Int)])):=zbD fun j _=>by
 unfold jD;grind
theorem zlW{f:Fl}(a:M[k]?=Xa f):jD M k f.bl=jD M (k+1) []:=by unfold jD Jg;rw[List.take_add_one,a];simp
theorem znP(fl:List Fl)(b:Int):(jD fl fl.length []).contains b=z4 fl b:=by unfold jD Jg z4;rw[List.take_length,List.append_nil,Yp];simp
theorem zs2:(Tryz.prog.info? 198).map (·.size)=Xa 80:=by kernel_rfl
theorem zhS(n:Nat)(g):∀v∈jC n g,v.oneCell'=Xc:=fun v a=>by
 unfold jC at a;obtain⟨i,_,rfl⟩:=Ye.1 a;rfl
theorem zb6(n:Nat)(g):(jC n g).length=n:=by simp[jC]
theorem zeG(v)(fl:List Fl)(d:Int)(w)(a7:qH w v fl)(H:stW fl d=0):
  Xp prog 129 #[Xi #[v,I6 d]] w fun e w'=>e=Xl (Xi (jC 80 (jD fl fl.length [])).toArray)/\zc w w':=by
 have ay:=zcA;obtain⟨a0,a1,rfl,D,n⟩:=a7.rows;have af:=dD n;clear n a7;have ac:Xo (∀f∈fl,∀b∈f.bl,b=-1\/(0<=b/\b<80)):=show∀f∈fl,_ from fun f au b a5=>by
  obtain⟨⟨_,_,ar⟩,aq,_⟩:=(qJ fl d).1 H;rcases(aq f au).2.2 b a5 with a3|a3;·exact .inl a3
  exact .inr Wm
 clear H;obtain⟨q,I⟩:=kA fl.length;rw[I.out]at D⊢;obtain⟨K,a⟩:=kB (((w.alloc (Xk #[O a0 q a1,I6 d] 37)).alloc (Xk zg9 198)).alloc (Xk zg9 198));have M:Xo (zc w K):=dD<|by rw[<-a];exact((za _ _).trans (za _ _)).trans (za _ _)
 have ah:Xo (Box K w.heap.size [O a0 q a1,I6 d]):=dD<|by rw[<-a];exact((Box.aE _ _ _ rfl).alloc _).alloc _
 have ai:Xo (Box K (w.heap.size+1) (jC 80 [])):=dD<|by rw[<-a,zeh];exact(Box.aE _ (Xr 80 (Xh Xd)) _ Sm).alloc _
 have al:Xo (Box K (w.heap.size+1+1) (jC 80 (jD fl 0 []))):=dD<|by
  have:jC 80 (jD fl 0 [])=jC 80 []:=zbD fun i _=>by simp[jD,Jg]
  rw[<-a,this,zeh];exact Box.aE _ (Xr 80 (Xh Xd)) _ Sm
 have T:=dD a;clear a;go_enter func129,ntmps129;go_upto_region 2 with fail;rw[T.out];clear ay;have az:=ah.c 0 rfl;go_wp2;clear az;go_loopg[5,11] q (fun U _ Y wr=>∃i:Nat,i<=q/\q-i<=U/\Y=I6 i/\Xo (zc w wr)/\Xo (Box wr (w.heap.size+1) (jC 80 []))/\Xo (Box wr (w.heap.size+1+1) (jC 80 (jD fl i []))))
 exact⟨0,nZ _,Wm,rfl,M,ai,al⟩;obtain⟨i,b4,aw,rfl,h,A,l⟩:=hrel;by_cases x:i<q
 ·have F:=kC x
  obtain⟨f,L⟩:∃f,Xo (fl[i]?=Xa f):=⟨_,gE (Rx I.out x)⟩;obtain⟨b2,rfl,a8,b0,z,a6⟩:=af.out i f L.out;obtain⟨ao,a2⟩:=a6 wr h.out;obtain⟨_,_,u,G⟩:=z.aX;have ax:=z.short;have Q:Xo (zox w a8 f.bl):=dD<|by
   simp only[vJ]at u;rw[u.1];exact G
  clear u G z a6;obtain⟨r,R⟩:=kA f.bl.length;rw[R.out]at a2 ax;go_upto_region 5 with fail;refine nW fun b1 c=>?_;have N:=gT c h;have a9:=xA c;have aj:=yA c A;have am:=yA c l;clear c ao a2;have ap:=a9.c 1 rfl;go_wp2;clear ap;have ae:=dD h;go_loopg[7,18] r (fun U _ Z wr=>∃j:Nat,j<=r/\r-j<=U/\Z=I6 j/\Xo (zc w wr)/\Xo (Box wr (w.heap.size+1) (jC 80 []))/\Xo (Box wr (w.heap.size+1+1) (jC 80 (jD fl i (f.bl.take j)))))
  exact⟨0,nZ _,Wm,rfl,N,aj,Rx Yi am⟩;obtain⟨j,b5,av,rfl,h,A,l⟩:=hrel;by_cases g:j<r
  ·have y:=kC g
   obtain⟨b,s⟩:∃b,Xo (f.bl[j]?=Xa b):=⟨_,gE (Rx R.out g)⟩;obtain⟨an,rfl,E⟩:=Q.out j b s.out;have b3:=E wr h.out;have S:=dD<|ac.out f (mG L) b (mG s);have B:=dD<|jU s.out;clear E;by_cases a5:0<=b
   ·obtain⟨p,rfl⟩:∃p:Nat,b=(p:Int):=⟨b.toNat,Wm⟩
    have m:p<80:=Hm S.out;have b6:=l.c p (zb7 _ m);have b7:=l.f;have C:Xo (Box (wr.setCell ⟨w.heap.size+1+1,p,Xb⟩ (Xh Xc)) (w.heap.size+1+1) (jC 80 (jD fl i (f.bl.take (j+1))))):=dD<|by
     rw[B.out,<-znO,<-zhR _ m];exact l.set p _
    have ak:Xo (Box (wr.setCell ⟨w.heap.size+1+1,p,Xb⟩ (Xh Xc)) (w.heap.size+1) (jC 80 [])):=dD<|A.other Sm _;have aa:Xo (zc w (wr.setCell ⟨w.heap.size+1+1,p,Xb⟩ (Xh Xc))):=dD<|zB h (by simp;omega) _;go_wp2;go_roundg (r-(j+1));exact⟨j+1,Wm,Wm,Gn,aa,ak,C⟩;omega
   have C:Xo (Box wr (w.heap.size+1+1) (jC 80 (jD fl i (f.bl.take (j+1))))):=dD<|by
    rw[B.out,zlV _ _ _ Wm];exact l.out
   go_wp2;go_roundg (r-(j+1));exact⟨j+1,Wm,Wm,Gn,h,A,C⟩;omega
  have y:=kD g;have:j=r:=Wm;subst this;have C:Xo (Box wr (w.heap.size+1+1) (jC 80 (jD fl (i+1) []))):=dD<|by
   have a4:=l.out;rw[Xz (by rw[R.out];exact nR _),zlW L.out]at a4;exact a4
  go_wp2;go_roundg (q-(i+1));exact⟨i+1,Wm,Wm,Gn,h,A,C⟩;omega
 have F:=kD x;have:i=q:=Wm;subst this;obtain⟨X,k⟩:=kA (jC 80 (jD fl i []));have t:Xo (X.length=80):=dD<|by rw[<-k.out];exact zb6 _ _
 have P:Xo (∀v∈X,v.oneCell'=Xc):=dD<|by rw[<-k.out];exact zhS _ _
 rw[k.out]at l;go_upto_region 12 with fail;go_wp2_with(first|(refine zE rfl 198 (.tmp 3) rfl (w.heap.size+1+1) rfl l underlying198 rfl (Rx t.out zs2) ?_)|(refine zn rfl 198 (.tmp 2) (.tmp 28) rfl (w.heap.size+1) rfl X rfl A (by rw[t.out,zb6]) (Rx zb6 zs2) P.out ?_))
 intro ag V W _;have ab:Xo (zc w ag):=dD<|zd h W Wm;go_wp2;refine bodyPost_ret (z8 rfl _ rfl V underlying198 rfl (Rx t.out zs2)) rfl ⟨by rw[<-k.out],ab⟩
theorem zg7(a b c d e f g h:Int):zdi ⟨a,b,c,d,e,f,g,h⟩ ⟨0,0,0,0,0,0,0,0⟩=([a,b,c,d,e,f,g,h]==zt):=by rw[Yp,zb1];simp[zt]
def zda(m:Ma)(b:Nat):Bool:=!z4 m.fl (b:Int)&&!(m.db.getD b []==zt)
theorem zf1(hb:b<m.db.length)(h:zda m b=Xc):zaU m=7:=by unfold zaU;rw[kE];rw[Yn];exact⟨b,Yh.2 hb,h⟩
theorem zfB{q:Int×List Int}(a:m.dq[j]?=Xa q)(h:z4 m.fl q.1=Xd):zaz m=7:=by grind[zaz,Yn,mG]
theorem ziQ{n:Nat}{a:List (Int×List Int)}(h:zS n a=0):n<=80/\∀(j:Nat)q,a[j]?=Xa q->0<=q.1/\q.1<n:=by grind[zS,ZB,Yn.2,mG]
theorem zpD(hb:b<80):(jC 80 (jD m.fl m.fl.length []))[b]?=Xa (Xh (z4 m.fl (b:Int))):=by rw[zb7 _ hb,znP]
theorem zpx(a:zbh m Xb m.ca=0)(k:Nat):frE m k=if(z1 m k).r≠qR m m.sp.length [] zfa (1,(k:Int))\/(0<=(z1 m k).f/\¬Jf m.ca ((z1 m k).f,(z1 m k).x)=Xa (k:Int))then 7 else 0:=by unfold frE;rw[zky m zfa (k:Int) (by decide:(1:Int)≠0),kE rfl];grind[zlJ,zN,Jf,z1]
theorem zmJ(m:Ma)(k:Nat):zlc m k=if m.sl.getD k 0≠qR m m.sp.length [] zfa (2,(k:Int))then 7 else 0:=by unfold zlc;have h:=zky m zfa (k:Int) (by decide:(2:Int)≠0);grind
def chk:List Nat:=[98,99,100,101,102,103]
def zrc(m:Ma):List Int:=[zG (JX m),zG (zat m),Jt m,zfv m,zhj m,zbv m]
theorem zhi(h:Jt m=0):m.sp.length<=4:=by
 unfold Jt at h;split at h;·cases h
 omega
theorem zmc(k f:Nat)(a:chk[k]?=Xa f):∀b w,(callFunc f b).run prog w=.ok (.enter f b) w:=by
 match k,a with
 |0,a=>cases a;exact enters_of func98 Kr rfl
 |1,a=>cases a;exact enters_of func99 Kr rfl
 |2,a=>cases a;exact enters_of func100 Kr rfl
 |3,a=>cases a;exact enters_of func101 Kr rfl
 |4,a=>cases a;exact enters_of func102 Kr rfl
 |5,a=>cases a;exact enters_of func103 Kr rfl
 |k+6,a=>simp[chk]at a
def fnV(f:Nat):Xq:=.func (.func f) #[] #[]
theorem zby{g:Nat}(h:w.ownsRow b t k A p xs)(c:A.ownBlock=Xa g):b<=g/\g<w.heap.size/\∃cs,w.heap[g]?=Xa (Xk cs t (0,0)):=by
 rcases h.2 with⟨rfl,_⟩|⟨v,k,k,rfl,k,k,k⟩;·cases c
 simp only[Value.ownBlock,Option.some.injEq]at c;grind
theorem zc1{D:Nat->Prop}(h:w.ownsRow b t k A p xs)(v:qC D w W)(i:∀g,A.ownBlock=Xa g->¬D g):W.ownsRow b t k A p xs:=by
 refine⟨h.1,?_⟩;rcases h.2 with k|⟨g,k,c,rfl,f,d,h⟩;·grind
 exact .inr ⟨g,k,c,rfl,f,by rw[v.block g (aS.1 d).1 (i g rfl)];exact d,h⟩
theorem zeb{D:Nat->Prop}(h:w.ownsRow b t k A p xs)(v:qC D w W)(i:∀g,A.ownBlock=Xa g->¬D g):W.ownsRow b t k A p xs:=by
 refine⟨h.1,?_⟩;rcases h.2 with k|⟨g,k,c,rfl,f,d,h⟩;·grind
 exact .inr ⟨g,k,c,rfl,f,by rw[v.block g (aS.1 d).1 (i g rfl)];exact d,h⟩
def oB(s:Sli)(b:Nat):Prop:=(O s.a s.n s.c).ownBlock=Xa b
def Dw(p:Nat)(V:MaV):Nat->Prop:=fun b=>b=p\/oB V.f b\/oB V.ca b\/oB V.sp b
def Dr(B p:Nat)(V:MaV):Nat->Prop:=fun b=>b<B\/Dw p V b
structure zmn(w:Xn)(V:MaV)(m:Ma):Prop where
 sl:zq slE w (O V.s.a V.s.n V.s.c) m.sl
 sb:ZD w (O V.sb.a V.sb.n V.sb.c) m.sb
 sq:ZA w (O V.sq.a V.sq.n V.sq.c) m.sq
 db:ZD w (O V.db.a V.db.n V.db.c) m.db
 dq:ZA w (O V.dq.a V.dq.n V.dq.c) m.dq
 fl:qH w (O V.fl.a V.fl.n V.fl.c) m.fl
structure ChW(w0:Xn)(p:Nat)(w:Xn)(V:MaV)(m:Ma):Prop where
 gr:zc w0 w
 lo:w0.heap.size<=p
 box:zm w p 102 (chL V m)
 fs:zb q3 w0.heap.size w (O V.f.a V.f.n V.f.c) m.fs
 ca:zb jF w0.heap.size w (O V.ca.a V.ca.n V.ca.c) m.ca
 sp:∃xs:List SpV,zb ZP w0.heap.size w (O V.sp.a V.sp.n V.sp.c) xs/\xs.length=m.sp.length/\∀(i:Nat)x s,xs[i]?=Xa x->m.sp[i]?=Xa s->∀W,qC (Dr w0.heap.size p V) w W->ZC W x s
 rest:∀W,qC (Dr w0.heap.size p V) w W->zmn W V m
def Chg(w0:Xn)(p:Nat)(w:Xn)(V:MaV)(m':Ma)(w':Xn):Prop:=∃V':MaV,ChW w0 p w' V' m'/\qC (Dw p V) w w'/\∀k,Dw p V' k->Dw p V k\/w.heap.size<=k
section
variable{w0 w w1 w2:Xn}{p:Nat}{V V':MaV}{m m':Ma}
theorem ChW.bA(h:ChW w0 p w V m):∀k,Dw p V k->k<w.heap.size:=by
 rintro k(rfl|a|a|a);·exact h.box.box.lt
 ·exact(h.fs.lt k a).2
 ·exact(h.ca.lt k a).2
 obtain⟨b,b,_⟩:=h.sp;exact(b.lt k a).2
theorem ChW.dlo(h:ChW w0 p w V m):∀k,Dw p V k->w0.heap.size<=k:=by
 rintro k(rfl|a|a|a);·exact h.lo
 ·exact(h.fs.lt k a).1
 ·exact(h.ca.lt k a).1
 obtain⟨b,b,_⟩:=h.sp;exact(b.lt k a).1
theorem ChW.drt(h:ChW w0 p w V m):∀k,Dr w0.heap.size p V k->k<w.heap.size:=by
 rintro k(a|a);·exact Xu a (bS h.gr)
 exact h.bA k a
theorem ChW.aA(h:ChW w0 p w V m)(k:zc w w1):ChW w0 p w1 V m:=by obtain⟨c,a,b,d⟩:=h.sp;exact⟨h.gr.trans k,h.lo,h.box.aA k,h.fs.aA k,h.ca.aA k,⟨c,a.aA k,b,fun i x s c b W a=>d i x s c b W ((qC.aA k).trans a)⟩,fun W a=>h.rest W ((qC.aA k).trans a)⟩
theorem ChW.at(h:ChW w0 p w V m):zK w V m:=by have r:=h.rest w (qC.refl _ _);obtain⟨d,a,b,c⟩:=h.sp;exact⟨h.fs.at,r.sl,r.sb,r.sq,r.db,r.dq,r.fl,h.ca.at,⟨d,a.at,b,fun i x s b a=>c i x s b a w (qC.refl _ _)⟩⟩
theorem ChW.nf(h:ChW w0 p w V m):∀g,oB V.f g->p≠g:=h.fs.ne h.box Dc
theorem ChW.nc(h:ChW w0 p w V m):∀g,oB V.ca g->p≠g:=h.ca.ne h.box Dc
theorem ChW.ns(h:ChW w0 p w V m):∀g,oB V.sp g->p≠g:=by obtain⟨a,a,_⟩:=h.sp;exact a.ne h.box Dc
theorem ChW.fc(h:ChW w0 p w V m):∀g,oB V.f g->¬oB V.ca g:=h.fs.apart h.ca Dc
theorem ChW.fS(h:ChW w0 p w V m):∀g,oB V.f g->¬oB V.sp g:=by obtain⟨a,a,_⟩:=h.sp;exact h.fs.apart a Dc
theorem ChW.cS(h:ChW w0 p w V m):∀g,oB V.ca g->¬oB V.sp g:=by obtain⟨a,a,_⟩:=h.sp;exact h.ca.apart a Dc
theorem ChW.key(k:qC (Dw p V) w w1)(hd:∀k,Dw p V' k->Dw p V k\/w.heap.size<=k)(a:qC (Dr w0.heap.size p V') w1 W):qC (Dr w0.heap.size p V) w W:=
 ⟨a.os.trans k.os,a.tape.trans k.tape,a.output.trans k.output,nT k.size a.size,fun b d c=>(a.block b (Xu d k.size) (fun e=>by
  rcases e with e|e;·exact c (.inl e)
  rcases hd b e with e|e;·exact c (.inr e)
  omega)).trans (k.block b d (fun e=>c (.inr e)))⟩
theorem ChW.bP(h:ChW w0 p w V m)(k:qC (Dw p V) w w1):zc w0 w1:=
 ⟨k.os.trans (Below.os h.gr),k.tape.trans (Below.tape h.gr),k.output.trans (Below.output h.gr),nT (bS h.gr) k.size,fun b a=>(k.block b (Xu a (bS h.gr)) (fun e=>Hm (h.dlo b e))).trans (Below.block h.gr b a)⟩
theorem Chg.refl(h:ChW w0 p w V m)(g:zc w w1):Chg w0 p w V m w1:=⟨V,h.aA g,qC.aA g,fun _ a=>.inl a⟩
theorem Chg.aH(g:zc w w1)(h:Chg w0 p w1 V m' w2):Chg w0 p w V m' w2:=by
 obtain⟨a,b,d,c⟩:=h;refine⟨a,b,(qC.aA g).trans d,fun k a=>?_⟩;rcases c k a with e|e;·grind
 exact .inr (nT (bS g) e)
theorem Chg.step{b:MaV}(a:qC (Dw p V) w w1)(c:∀k,Dw p b k->Dw p V k\/w.heap.size<=k)(e:Chg w0 p w1 b m' w2):Chg w0 p w V m' w2:=by
 obtain⟨c,d,b,f⟩:=e;refine⟨c,d,⟨b.os.trans a.os,b.tape.trans a.tape,b.output.trans a.output,nT a.size b.size,fun c d g=>(b.block c (Xu d a.size) (fun e=>?_)).trans (a.block c d g)⟩,fun k b=>?_⟩;·grind
 rcases f k b with e|e;·grind
 exact .inr (nT a.size e)
theorem Chg.far{a:MaV}(g:zc w w1)(d:∀k,Dw p a k->Dw p V k\/w1.heap.size<=k):∀k,Dw p a k->Dw p V k\/w.heap.size<=k:=fun k a=>(d k a).elim .inl fun e=>.inr (nT (bS g) e)
theorem zm.chg(h:zm w b t D)(k:qC (Dw p V) w w1)(a:¬Dw p V b):zm w1 b t D:=h.aK k a
theorem ChW.field(h:ChW w0 p w V m)(k:zc w w1)(c:w1.grownBy w2 (Xa p))(f:V'.f=V.f)(n:V'.ca=V.ca)(q:V'.sp=V.sp)(g:m'.fs=m.fs)(u:m'.ca=m.ca)(r:m'.sp=m.sp)(a:zm w2 p 102 (chL V' m'))(rs:∀W,qC (Dr w0.heap.size p V) w W->qC (Dr w0.heap.size p V) w1 W->zmn W V m->zmn W V' m'):Chg w0 p w V m' w2:=by
 have j:qC (Dw p V) w w2:=(qC.aA k).trans (qC.grown c (.inl rfl));have e:Dw p V'=Dw p V:=by unfold Dw;rw[f,n,q]
 have d:Dr w0.heap.size p V'=Dr w0.heap.size p V:=by unfold Dr;rw[e]
 obtain⟨i,x,b,y⟩:=h.sp;refine⟨V',⟨h.bP j,h.lo,a,?_,?_,⟨i,?_,Rx r b,fun t z v s i W b=>?_⟩,fun W b=>?_⟩,j,fun l a=>.inl (by rw[e]at a;exact a)⟩;·rw[f,g];exact(h.fs.aA k).grown c (fun g f e=>h.nf g f (by cases e;rfl))
 ·rw[n,u];exact(h.ca.aA k).grown c (fun g f e=>h.nc g f (by cases e;rfl))
 ·rw[q];exact(x.aA k).grown c (fun g f e=>h.ns g f (by cases e;rfl))
 ·rw[d]at b;rw[r]at i;exact y t z v s i W ((j.wide fun l a=>.inr a).trans b)
 rw[d]at b;exact rs W ((j.wide fun l a=>.inr a).trans b) (((qC.grown c (.inr (.inl rfl)))).trans b) (h.rest W ((j.wide fun l a=>.inr a).trans b))
theorem ChW.cE(h:ChW w0 p w V m){b:Sli}(d:zc w w1)(f:q9 slE w.heap.size w1 (b.x) L)(e:w1.grownBy w2 (Xa p))(c:zm w2 p 102 (chL {V with s:=b} {m with sl:=L})):Chg w0 p w V {m with sl:=L} w2:=
 h.field (V':={V with s:=b}) (m':={m with sl:=L}) d e rfl rfl rfl rfl rfl rfl c (fun W _ L r=>⟨f.aV h.drt W L,r.sb,r.sq,r.db,r.dq,r.fl⟩)
theorem ChW.bK(h:ChW w0 p w V m){b:Sli}(i:zc w w1)(j:zb q3 w.heap.size w1 (b.x) R)(c:w1.grownBy w2 (Xa p))(a:zm w2 p 102 (chL {V with f:=b} {m with fs:=R,aB:=hd})):Chg w0 p w V {m with fs:=R,aB:=hd} w2:=by
 have d:qC (Dw p V) w w2:=(qC.aA i).trans (qC.grown c (.inl rfl));have e:=h.bA p (.inl rfl);have hd:∀k,Dw p {V with f:=b} k->Dw p V k\/w.heap.size<=k:=by
  rintro k(e|e|e|e);·exact .inl (.inl e)
  ·exact .inr (j.lt k e).1
  ·exact .inl (.inr (.inr (.inl e)))
  exact .inl (.inr (.inr (.inr e)))
 obtain⟨q,k,l,n⟩:=h.sp;refine⟨{V with f:=b},⟨h.bP d,h.lo,a,(j.base (bS h.gr)).grown c (fun g a e=>?_),(h.ca.aA i).grown c (fun g a e=>h.nc g a (by cases e;rfl)),⟨q,(k.aA i).grown c (fun g a e=>h.ns g a (by cases e;rfl)),l,fun k x s i g W c=>n k x s i g W (ChW.key d hd c)⟩,fun W c=>?_⟩,d,hd⟩;·cases e;have:=(j.lt _ a).1;omega
 have r:=h.rest W (ChW.key d hd c);exact⟨r.sl,r.sb,r.sq,r.db,r.dq,r.fl⟩
theorem ChW.frame(h:ChW w0 p w V m)(c:oB V.f k)(b:w.grownBy w1 (Xa k))(q:zb q3 w0.heap.size w1 (V.f.x) R):Chg w0 p w V {m with fs:=R} w1:=by have d:qC (Dw p V) w w1:=qC.grown b (.inr (.inl c));have i:∀g,Dw p V g->Dw p V g\/w.heap.size<=g:=fun _ a=>.inl a;obtain⟨y,t,u,v⟩:=h.sp;refine⟨V,⟨h.bP d,h.lo,h.box.beside b (fun g e=>by cases e;exact h.nf k c),q,h.ca.grown b (fun g a e=>by cases e;exact h.fc _ c a),⟨y,t.grown b (fun g a e=>by cases e;exact h.fS _ c a),u,fun n x s l j W f=>v n x s l j W (ChW.key d i f)⟩,fun W f=>?_⟩,d,i⟩;have r:=h.rest W (ChW.key d i f);exact⟨r.sl,r.sb,r.sq,r.db,r.dq,r.fl⟩
theorem ChW.cache(h:ChW w0 p w V m){b:Sli}{l:List Ca}(i:qC (oB V.ca) w w1)(hb:∀g,oB b g->oB V.ca g\/w.heap.size<=g)(q:zb jF w0.heap.size w1 (b.x) l)(c:w1.grownBy w2 (Xa p))(j:zm w2 p 102 (chL {V with ca:=b} {m with ca:=l})):Chg w0 p w V {m with ca:=l} w2:=by
 have a:qC (Dw p V) w w2:=(i.wide fun k d=>.inr (.inr (.inl d))).trans (qC.grown c (.inl rfl));have d:∀k,Dw p {V with ca:=b} k->Dw p V k\/w.heap.size<=k:=by
  rintro k(e|e|e|e);·exact .inl (.inl e)
  ·exact .inl (.inr (.inl e))
  ·rcases hb k e with e|e
   ·exact .inl (.inr (.inr (.inl e)))
   grind
  exact .inl (.inr (.inr (.inr e)))
 have f:=h.bA p (.inl rfl);have own:∀{f:Type}{E:Elt f}{s:Sli}{l:List f},zb E w0.heap.size w (s.x) l->(∀g,oB s g->¬oB V.ca g)->(∀g,oB s g->p≠g)->zb E w0.heap.size w2 (s.x) l:=fun f k n=>by refine zb.grown ⟨zeb f.1 i k,f.2⟩ c (fun g f e=>n g f (by cases e;rfl))
 obtain⟨r,i,k,n⟩:=h.sp;refine⟨{V with ca:=b},⟨h.bP a,h.lo,j,own h.fs h.fc h.nf,q.grown c (fun g f e=>?_),⟨r,own i (fun g c b=>h.cS g b c) h.ns,k,fun k x s j i W c=>n k x s j i W (ChW.key a d c)⟩,fun W c=>?_⟩,a,d⟩
 ·cases e
  rcases hb _ f with e|e;·exact h.nc _ e rfl
  omega
 have r:=h.rest W (ChW.key a d c);exact⟨r.sl,r.sb,r.sq,r.db,r.dq,r.fl⟩
theorem ChW.bX(h:ChW w0 p w V m){xs:List SpV}{x y:SpV}(s2:xs.length=m.sp.length)(s3:∀(i:Nat)x s,xs[i]?=Xa x->m.sp[i]?=Xa s->∀W,qC (Dr w0.heap.size p V) w W->ZC W x s)(n:xs[k]?=Xa x)(l:m.sp[k]?=Xa s)(t:oB V.sp b)
  (d:zc w w1)(z:Js 0 w.heap.size w1 us G)(a:w1.grownBy w2 (Xa b))(v:zb ZP w0.heap.size w2 (V.sp.x) (xs.set k y))(r:y.aD=x.aD/\y.ar=x.ar/\y.tab=us):Chg w0 p w V {m with sp:=m.sp.set k {s with tb:=G}} w2:=by
 have u:qC (Dr w0.heap.size p V) w1 w2:=qC.grown a (.inr (.inr (.inr (.inr t))));have f:qC (Dw p V) w w2:=(qC.aA d).trans (qC.grown a (.inr (.inr (.inr t))));have j:∀q,Dw p V q->Dw p V q\/w.heap.size<=q:=fun _ c=>.inl c;refine⟨V,⟨h.bP f,h.lo,(h.box.aA d).beside a (fun q e=>by cases e;exact h.ns b t),(h.fs.aA d).grown a (fun q c e=>by cases e;exact h.fS _ c t),(h.ca.aA d).grown a (fun q c e=>by cases e;exact h.cS _ c t),⟨xs.set k y,v,by simp[s2],fun i a d t a W c=>?_⟩,fun W c=>?_⟩,f,j⟩
 ·by_cases e:i=k
  ·subst e;rw[sF (gS.1 n).1]at t;have a:(m.sp.set i {s with tb:=G})[i]?=Xa d:=a;rw[sF (gS.1 l).1]at a;cases t;cases a;have q:=s3 i x s n l W (ChW.key f j c);obtain⟨t,a,d⟩:=r;refine⟨t.trans q.aD,Rx a q.ar,Rx a q.cap,?_⟩;rw[d];exact z.aK h.drt (u.trans c)
  grind[sN,ChW.key]
 have r:=h.rest W (ChW.key f j c);exact⟨r.sl,r.sb,r.sq,r.db,r.dq,r.fl⟩
end
theorem zdF.cM(h:zdF k w V m)(a:B<=k)(hp:w.heap.size<=p)(base:qC (Dr B p V) w W):zmn W V m/\∀(g:List SpV)(c:Nat->Nat),k<=c 0->(∀i,c i<=c (i+1))->(∀(i:Nat)x s,g[i]?=Xa x->m.sp[i]?=Xa s->zac (c i) (c (i+1)) w x s)->∀(i:Nat)x s,g[i]?=Xa x->m.sp[i]?=Xa s->ZC W x s:=by
 obtain⟨a,_,r,_⟩:=h.sp;have b:∀{e a n:Nat}{d:TypeId}{v:Xq}{g:List Xq},w.ownsRow e d a v n g->k<=e->ZP.ty≠d/\q3.ty≠d/\jF.ty≠d->W.ownsRow e d a v n g:=fun n d l=>zc1 n base fun a j a=>by
  obtain⟨f,f,f,f⟩:=zby n j;rcases a with a|a|a|a|a;·omega
  ·omega
  ·obtain⟨q,j⟩:=h.fs.obj a;rw[j]at f;cases f;exact l.2.1 rfl
  ·obtain⟨q,j⟩:=h.ca.obj a;rw[j]at f;cases f;exact l.2.2 rfl
  obtain⟨q,j⟩:=r.obj a;rw[j]at f;cases f;exact l.1 rfl
 have a:∀{j:Type}{E:Elt j}{e:Nat}{v:Xq}{f:List j},zb E e w v f->k<=e->ZP.ty≠E.ty/\q3.ty≠E.ty/\jF.ty≠E.ty->zb E e W v f:=fun n d l=>⟨b n.1 d l,n.2⟩;obtain⟨n,⟨t,e,j,l,r⟩,q,f⟩:=h.fl;have f:q8 n W (V.fl.x) m.fl:=⟨t,a e q Dc,j,fun i x j e n=>⟨(l i x j e n).1,a (l i x j e n).2 q Dc⟩,r⟩;have d:=nR k;refine⟨⟨(a h.sl d Dc).at,zl.at ⟨b h.sb.1 d Dc,h.sb.2⟩,zu.at ⟨b h.sq.1 d Dc,h.sq.2⟩,zl.at ⟨b h.db.1 d Dc,h.db.2⟩,zu.at ⟨b h.dq.1 d Dc,h.dq.2⟩,f.new.now0⟩,fun g c f g d i x s e h=>?_⟩;have b:=d i x s e h;have d:=nT f (zef g (nZ i));have f:zac (c i) (c (i+1)) W x s:=⟨b.aD,a b.ar d Dc,⟨b.tb.len,b.tb.aL,fun j v y c e=>a (b.tb.row j v y c e) d Dc,b.tb.two⟩,b.arh,b.tbh⟩;exact f.at
theorem zkN(V m w)(c:zK w V m):
  Xp prog 32 #[Xi (mL V m).toArray] w fun e w'=>∃(p:Nat)(V':MaV),e=Xl (Xj (Xa ⟨p,0,Xb⟩))/\ChW w p w' V' m:=by
 obtain⟨d,a⟩:=kB (w.alloc (Xk (mL V m).toArray 41));have f:=gA a;have g:=xA a;have b:=dD a;clear a;have a:=zgq V m d (c.aA f);clear c;go_enter func32,ntmps32;go_upto_region 1 with fail;rw[b.out];obtain⟨c,d,h,i,j,k,l,n,q,r,b⟩:=g.aY;go_wp2_with fail;refine a.mono ?_;clear a c d h i j k l n q r b;rintro e d⟨V',rfl,h,a⟩;have g:=dD (f.trans a);have c:=dD h;have b:=dD<|bS f.out;clear h a;have h:Xo (ChW w d.heap.size (d.alloc (Xk (chL V' m).toArray 102)) V' m):=dD<|by
  have a:zc d (d.alloc (Xk (chL V' m).toArray 102)):=za _ _;obtain⟨f,B,d,i,k,l,n⟩:=c.sp;refine⟨g.trans a,bS g,zm.aE _ _ _ rfl,(c.fs.aA a).base b,(c.ca.aA a).base b,⟨f,(d.aA a).base b,i,fun j x s i g W d=>(c.cM b (nR _) ((qC.aA a).trans d)).2 f B k l n j x s i g⟩,fun W d=>(c.cM b (nR _) ((qC.aA a).trans d)).1⟩
 go_wp2;go_ret;exact⟨_,V',rfl,h⟩
section
variable{α:Type}{E:Elt α}
theorem zdg{l0:List α}(t:TypeId)(n:zb E k w A l0)(D:Xq)(l:List α)(U:zq E w D l)(hb:(l0.length+l.length)*E.bytes<=140737488355328)(b:k<=w.heap.size):
  ∃e w',(Builtin.append_ #[E.st,E.st] t #[A,D]).run prog w=.ok e w'/\zb E k w' e (l0++l)/\w.grownBy w' A.ownBlock/\∀g,e.ownBlock=Xa g->A.ownBlock=Xa g\/w.heap.size<=g:=by
 obtain⟨B,x,r,base,s⟩:=info_parts E.aF;obtain⟨⟨F,u,rfl,i,a⟩,K⟩:=U;have H:(l0.length+l.length)*1<=(l0.length+l.length)*E.bytes:=Nat.mul_le_mul_left _ (nT E.pos E.few);cases F with
 |none=>
  have v:=i rfl;subst v;exact⟨A,w,QW t n u,Si n,World.grownBy.rfl' _ _,fun g h=>.inl h⟩
 |some m=>
  rcases n.1.2 with⟨rfl,z⟩|⟨g,f,G,rfl,Q,R,T,L,M,N⟩
  ·have y:l0=[]:=eN z;subst y;obtain⟨e,w',q,p,d,_⟩:=run_append_own (P:=prog) w w.heap.size E.st t E.ty B _ E.k E.bytes E.bL x r base s (ziO E) E.pos _ 0 [] (World.ownsRow_nil _ _ _ _) m l.length u (l.flatMap E.enc) (qF E l) (a m rfl) (qW E.one l) (q5 (by simp at H hb⊢;omega)) (Si hb) (nR _);have c:zb E w.heap.size w' e ([]++l):=⟨Si p,Si hb⟩;exact⟨e,w',q,c.base b,d,fun g h=>.inr (c.lt g h).1⟩
  by_cases j:l0.length+l.length<=f;·obtain⟨w',q,p,d⟩:=run_append_fits (P:=prog) w k E.st t E.ty B E.k E.bL x base g l0.length f _ n.1 m l.length u (l.flatMap E.enc) (qF E l) (a m rfl) (qW E.one l) j;exact⟨_,w',q,⟨by rw[lA,Xy];exact p,Rx lA hb⟩,d,fun C h=>.inl h⟩
  obtain⟨e,w',q,p,d⟩:=run_append_arg_grows (P:=prog) w E.st t E.ty B _ E.k E.bytes E.bL x r base s (ziO E) E.pos ⟨g,0,Xb⟩ l0.length f (l0.flatMap E.enc) (qF E l0) (n.1.cells rfl) m l.length u (l.flatMap E.enc) (qF E l) (a m rfl) Wm (q5 Wm) hb;have c:zb E w.heap.size w' e (l0++l):=⟨by rw[lA,Xy];exact p,Rx lA hb⟩;exact⟨e,w',q,c.base b,⟨d.os,d.tape,d.output,d.size,fun V S _=>d.block V S Sm⟩,fun C h=>.inr (c.lt C h).1⟩
theorem ZJ(f:o.guard=Xb)(s x:Operand)(p:o.op=.call {callee:=.builtin .append,args:=#[s,x],argTypes:=#[E.st,E.st]})
  (base:Nat)(vs:Xq)(l0:List α)(q:a.eval s=vs)(c:zb E base w vs l0)(h:Xq)(l:List α)(t:a.eval x=h)(r:zq E w h l)(hb:(l0.length+l.length)*E.bytes<=140737488355328)(b:base<=w.heap.size)
  (i:∀e w',zb E base w' e (l0++l)->w.grownBy w' vs.ownBlock->(∀g,e.ownBlock=Xa g->vs.ownBlock=Xa g\/w.heap.size<=g)->wpList prog ops Q K (a.put o.dst e) w'):wpList prog ops Q (o::K) a w:=by refine wpList_plain f fun rest n=>?_;obtain⟨e,w',d,j,k,m⟩:=zdg o.type c h l r hb b;unfold Oper.wp execOp;simp only[p,resolve,invoke,builtin,Xs,Xx,rA,Yf,mP,Yb,q,t,d];exact n _ _ (i e w' j k m)
end
theorem ziY(x:SpV)(w:Xn):
  Xp prog 89 #[Xi #[Xh x.aD,x.ar.x,x.t0.x,x.t1.x,x.t2.x,x.t3.x,x.t4.x,x.t5.x,x.t6.x,x.t7.x]] w fun e w'=>e=Xl (Xh (!x.aD))/\zc w w':=by obtain⟨d,a⟩:=kB (w.alloc (Xk #[Xh x.aD,x.ar.x,x.t0.x,x.t1.x,x.t2.x,x.t3.x,x.t4.x,x.t5.x,x.t6.x,x.t7.x] 63));have b:=gA a;have f:=xA a;have c:Xo (_=d):=a;clear a;go_enter func89,ntmps89;go_upto_region 1 with fail;rw[c.out];have g:=f.c 0 rfl;go_wp2;go_ret;exact⟨rfl,b⟩
def zr4(l:List SpV)(z:Int):Prop:=(∃(k:Nat)(x:SpV),z=k/\l[k]?=Xa x/\x.aD=Xd/\∀(j:Nat)(q:SpV),j<k->l[j]?=Xa q->q.aD=Xc)\/(z=-1/\∀(j:Nat)(q:SpV),l[j]?=Xa q->q.aD=Xc)
theorem zfh(v:Xq)(l:List SpV)(w:Xn)(C:zq ZP w v l):
  Xp prog 88 #[v,.func (.func 89) #[] #[]] w fun e w'=>(∃z:Int,e=Xl (I6 z)/\zr4 l z)/\zc w w':=by
 have m:=C.short;obtain⟨U,Z,rfl,g⟩:=C.sps;have S:Xo (zqf w U l):=g;have I:=enters_of func89 Kr rfl;clear g C;obtain⟨p,y⟩:=kA l.length;rw[y.out]at m⊢;obtain⟨f,d⟩:∃f:Int->Prop,Xo (∀z,zr4 l z=f z):=⟨zr4 l,fun _=>rfl⟩;simp only[d.out];go_enter func88,ntmps88;go_wp2;go_loopg[5,8] p (fun V _ X wr=>∃b:Nat,b<=p/\p-b<=V/\X=I6 b/\Xo (zc w wr)/\Xo (∀(j:Nat)(q:SpV),j<b->l[j]?=Xa q->q.aD=Xc))
 exact⟨0,nZ _,Wm,rfl,zc.refl w,fun j q P=>absurd P (nL _)⟩;obtain⟨b,W,a0,rfl,r,A⟩:=hrel;by_cases h:b<p
 ·have n:=kC h
  obtain⟨x,B⟩:∃q,Xo (l[b]?=Xa q):=⟨_,gE (Rx y.out h)⟩;obtain⟨Y,rfl,Q⟩:=S.out b x B.out;obtain⟨s,D,E,F,G,H,K,L,M,N⟩:=jY.bO (Q wr r);have a:=ziY x wr;clear Q;cases i:x.aD with
  |false=>
   have u:Xo (f (b:Int)):=dD<|by
    rw[<-d.out];exact .inl ⟨b,x,rfl,B,i,A⟩
   rw[i]at a s;clear i;go_wp2_with fail;refine a.mono ?_;rintro e T⟨rfl,k⟩;have t:=dD (r.trans k);clear k a s D E F G H K L M N;go_wp2;go_ret;exact⟨⟨_,rfl,u⟩,t⟩
  |true=>
   have R:Xo (∀(j:Nat)(q:SpV),j<b+1->l[j]?=Xa q->q.aD=Xc):=dD<|fun j q P c=>by
    by_cases e:j=b;·subst e;rw[B.out]at c;cases c;exact i
    exact A j q Wm c
   rw[i]at a s;clear i;go_wp2_with fail;refine a.mono ?_;rintro e T⟨rfl,k⟩;have t:=dD (r.trans k);clear k a s D E F G H K L M N;go_wp2;go_roundg (p-(b+1));exact⟨b+1,Wm,Wm,Gn,t,R⟩;omega
 have n:=kD h;have u:Xo (f (-1)):=dD<|by
  rw[<-d.out];refine .inr ⟨rfl,fun j q c=>A.out j q ?_ c⟩;have:=(gS.1 c).1;have:=y.out;omega
 go_wp2;go_ret;exact⟨⟨_,rfl,u⟩,r⟩
def Vac(l:List Sp)(k:Nat):Prop:=k<=l.length/\(∀s,l[k]?=Xa s->s.aD=Xd)/\∀(j:Nat)(s:Sp),j<k->l[j]?=Xa s->s.aD=Xc
theorem zk6(v:Xq)(d:List Sp)(w:Xn)(K:QH w v d):
  Xp prog 54 #[v] w fun e w'=>(∃k:Nat,e=Xl (I6 (k:Int))/\Vac d k)/\zc w w':=by
 obtain⟨g,r,n,C⟩:=K;have b:=zfh v g w r;have u:Xo (∀z,zr4 g z->(∃k:Nat,z=(k:Int)/\Vac d k)\/(z=-1/\Vac d g.length)):=dD<|fun z m=>by
  have c:∀(j:Nat)s,d[j]?=Xa s->∃x,g[j]?=Xa x/\x.aD=s.aD:=fun j s a=>by
   have i:j<g.length:=(by rw[n];exact(gS.1 a).1);exact⟨_,gE i,(C j _ s (gE i) a).aD⟩
  rcases m with⟨k,x,rfl,p,G,H⟩|⟨rfl,p⟩
  ·refine .inl ⟨k,rfl,?_,fun s a=>?_,fun j s i a=>?_⟩
   ·rw[<-n];exact Nat.le_of_lt (gS.1 p).1
   ·obtain⟨y,f,h⟩:=c k s a;rw[p]at f;cases f;rw[<-h,G]
   obtain⟨y,f,h⟩:=c j s a;rw[<-h];exact H j y i f
  refine .inr ⟨rfl,by rw[n];exact nR _,fun s a=>?_,fun j s i a=>?_⟩;·rw[n,gN (nR _)]at a;cases a
  obtain⟨y,f,h⟩:=c j s a;rw[<-h];exact p j y f
 obtain⟨L,M,rfl,_⟩:=r.rows;clear r n C;obtain⟨D,E⟩:=kA g.length;rw[E.out]at b u⊢;go_enter func54,ntmps54;go_wp2_with fail;refine b.mono ?_;clear b;rintro e F⟨⟨z,rfl,m⟩,A⟩;have t:Xo (zc w F):=A;clear A;rcases u z m with⟨k,rfl,l⟩|⟨rfl,l⟩
 ·have q:Xo (Vac d k):=l;have B:¬(k:Int)<0:=Wm;clear l m;go_wp2;go_ret;exact⟨⟨k,rfl,q⟩,t⟩
 have q:Xo (Vac d D):=l;clear l m;go_wp2;go_ret;exact⟨⟨D,rfl,q⟩,t⟩
def zbd{α:Type}(l:List α)(k:Nat)(y:α):List α:=if k=l.length then l++[y]else l.set k y
theorem QV(b:k<=y.length)(l:α)(i:Nat):(zbd y k l)[i]?=if i=k then Xa l else y[i]?:=by
 unfold zbd;by_cases h:k=y.length
 ·rw[kE h];subst h;by_cases e:i=y.length;·subst e;simp
  rw[kF e];rcases Nat.lt_or_gt_of_ne e with a|a;·rw[List.getElem?_append_left a]
  rw[gN (by simp;omega),gN Wm]
 rw[kF h,List.getElem?_set];by_cases e:k=i;·subst e;rw[kE rfl,kE rfl,kE Wm]
 rw[kF e,kF (fun h=>e h.symm)]
theorem zdu(a:k<=y.length)(l:α):(zbd y k l).length=max y.length (k+1):=by grind[zbd]
theorem zi8(base:Nat)(v:Xq)(xs:List SpV)(k:Nat)(y:SpV)(w:Xn)(M:zb ZP base w v xs)(hb:base<=w.heap.size)(W:k<=xs.length)(V:xs.length<=4):
  Xp prog 55 #[v,I6 (k:Int),Xi #[Xh y.aD,y.ar.x,y.t0.x,y.t1.x,y.t2.x,y.t3.x,y.t4.x,y.t5.x,y.t6.x,y.t7.x]] w fun e w'=>∃p,e=Xl p/\zb ZP base w' p (zbd xs k y)/\w.grownBy w' v.ownBlock/\∀g,p.ownBlock=Xa g->v.ownBlock=Xa g\/w.heap.size<=g:=by
 have z:=dD M;have R:=dD hb;obtain⟨Q,m,rfl⟩:=M.form;obtain⟨n,i⟩:=kA xs.length;rw[i.out]at z W V⊢;clear M hb;obtain⟨G,d⟩:=kB (w.alloc (Xk #[Xh y.aD,y.ar.x,y.t0.x,y.t1.x,y.t2.x,y.t3.x,y.t4.x,y.t5.x,y.t6.x,y.t7.x] 63));have h:=gA d;have P:=xA d;have D:=dD d;clear d;go_enter func55,ntmps55;go_upto_region 1 with fail;rw[D.out];obtain⟨a7,B⟩:=kA w.heap.size;rw[B.out]at P⊢;obtain⟨Y,Z,I,a0,a1,a2,a3,a4,a5,a6⟩:=P.c10;by_cases s:k=n
 ·have H:((k:Int)==(n:Int))=Xc:=by rw[s];simp
  have j:Xo (zbd xs k y=xs++[y]):=dD (by unfold zbd;rw[kE (Rx i.out s)]);clear s;obtain⟨T,f⟩:=kB (G.alloc (Xk #[Xh y.aD,y.ar.x,y.t0.x,y.t1.x,y.t2.x,y.t3.x,y.t4.x,y.t5.x,y.t6.x,y.t7.x] 63));have c:=gT f h;have S:Xo (zq ZP T (O (Xa ⟨G.heap.size,0,Xb⟩) 1 1) [y]):=dD (by rw[<-f];exact zcB ZP G [y] _ rfl (show 1*224<=140737488355328 by decide));have F:=dD f;clear f;go_wp2_with(at_builtin;rw[F.out];refine ZJ (E:=ZP) rfl (.tmp 11) (.tmp 13) rfl base _ xs rfl (z.aA c) _ [y] rfl S.out ?hb (nT R (bS c)) ?_)
  case hb=>
   show(xs.length+1)*224<=_;rw[i.out];omega
  intro p q b a r;have C:Xo (zb ZP base q p (zbd xs k y)/\w.grownBy q (O Q n m).ownBlock/\∀g,p.ownBlock=Xa g->(O Q n m).ownBlock=Xa g\/w.heap.size<=g):=dD<|⟨Rx j.out b,⟨a.os.trans (Below.os c),a.tape.trans (Below.tape c),a.output.trans (Below.output c),nT (bS c) a.size,fun x u l=>(a.block x (Xu u (bS c)) l).trans (Below.block c x u)⟩,fun g K=>(r g K).imp id (fun U=>nT (bS c) U)⟩;clear b a r;go_wp2;go_ret;exact⟨_,rfl,C⟩
 have H:((k:Int)==(n:Int))=Xd:=by
  have:(k:Int)≠(n:Int):=Wm;simpa using this
 have j:Xo (zbd xs k y=xs.set k y):=dD<|by unfold zbd;rw[kF (Rx i.out s)]
 have L:k<n:=Wm;have X:(k:Int)<(n:Int):=Wm;clear s;obtain⟨g,a8,t⟩:=z.aG (by rw[i.out];omega);rw[i.out]at t;cases t;go_wp2_with(refine z3 (E:=ZP) rfl (.tmp 18) (.tmp 17) rfl base _ xs (z.aA h) g k rfl y (Rx i.out L) _ rfl (by simp[ZP]) _ rfl rfl ?_)
 intro q b a N;have C:Xo (zb ZP base q (O (Xa ⟨g,0,Xb⟩) n m) (zbd xs k y)/\w.grownBy q (O (Xa ⟨g,0,Xb⟩) n m).ownBlock/\∀A,(O (Xa ⟨g,0,Xb⟩) n m).ownBlock=Xa A->(O (Xa ⟨g,0,Xb⟩) n m).ownBlock=Xa A\/w.heap.size<=A):=dD<|⟨Rx j.out b,⟨a.os.trans (Below.os h),a.tape.trans (Below.tape h),a.output.trans (Below.output h),nT (bS h) a.size,fun x u l=>(a.block x (Xu u (bS h)) l).trans (Below.block h x u)⟩,fun A K=>.inl K⟩;clear b a N Y Z I a0 a1 a2 a3 a4 a5 a6;go_wp2;go_ret;exact⟨_,rfl,C⟩
theorem ze6(V m)(a:Ar)(n:Nat)(e:En)(w)(a9:zK w V m)(ar:jS a)(av:n<=64)(bg:0<=e.n)(b:zfu m a n e=0):
  Xp prog 133 #[Xi (mL V m).toArray,Xi #[I6 a.fr,I6 a.tz,Xh a.rd,Xh a.wr,Xh a.sh,I6 a.file,I6 a.base],I6 (n:Int),Xi #[I6 e.kind,I6 e.n,Xh e.wr]] w fun e' w'=>e'=Xl (I6 0)/\zc w w':=by
 obtain⟨aa,ab,-⟩:=a9.ns;have u:(0<=a.base/\a.base<=100)/\(0<=a.fr/\a.fr<=100):=by
  obtain⟨bp,bq,br,bs,bt,bu,be,bf⟩:=ar;by_cases bh:a.file<0;·have:=be bh;omega
  have:=bf Wm;omega
 have y:Xo (∀(q:Fr)W,Xp prog 159 #[Xi (frv q).toArray,Xi #[I6 a.fr,I6 a.tz,Xh a.rd,Xh a.wr,Xh a.sh,I6 a.file,I6 a.base],I6 (n:Int)] W fun e w'=>e=Xl (Xh (Jq q a n))/\zc W w'):=dD<|fun q W=>zjp q a n W u.1 u.2 av;have z:Xo (∀(q:Fr)W,Xp prog 160 #[Xi (frv q).toArray,Xi #[I6 a.fr,I6 a.tz,Xh a.rd,Xh a.wr,Xh a.sh,I6 a.file,I6 a.base]] W fun e w'=>e=Xl (Xh (Qn q a))/\zc W w'):=dD<|fun q W=>zhQ q a W;have bl:=dD ab.symm;have ay:=dD aa.symm;have P:=dD a9.bC;have al:Xo (zfu m a n e=if e.kind=2 then(if(V.s.n:Int)<=e.n\/a.sh=Xc then 7 else 0)else if(V.f.n:Int)<=e.n then 3 else if Jq (z1 m e.n) a n=Xd\/(e.wr=Xc/\Qn (z1 m e.n) a=Xd)then 7 else 0):=show _=_ by
  unfold zfu;rw[aa,ab]
 rw[al.out]at b;clear a9 ar u aa ab av;have D:zc w (((w.alloc (Xk (mL V m).toArray 41)).alloc (Xk #[I6 a.fr,I6 a.tz,Xh a.rd,Xh a.wr,Xh a.sh,I6 a.file,I6 a.base] 77)).alloc (Xk #[I6 e.kind,I6 e.n,Xh e.wr] 55)):=((za _ _).trans (za _ _)).trans (za _ _);have c:=dD D;clear D;by_cases v:e.kind=2
 ·have F:(e.kind==2)=Xc:=by simp[v]
  rw[kE v]at b;clear v;have a6:¬(V.s.n:Int)<=e.n:=fun a5=>by rw[kE (.inl a5)]at b;exact absurd b Dc
  have aw:a.sh=Xd:=by
   cases C:a.sh;·rfl
   rw[kE (.inr C)]at b;exact absurd b Dc
  rw[aw]at c y z;rw[aw];clear b;go_enter func133,ntmps133;go_wp2;go_ret;exact⟨rfl,c⟩
 have F:(e.kind==2)=Xd:=by simp[v]
 rw[kF v]at b;clear v;have a6:¬(V.f.n:Int)<=e.n:=fun a5=>by rw[kE a5]at b;exact absurd b Dc
 rw[kF a6]at b;obtain⟨ap,aq,L⟩:=e;simp only at bg F a6 b al c⊢;obtain⟨l,rfl⟩:∃l:Nat,aq=(l:Int):=⟨aq.toNat,Wm⟩;have a8:l<V.f.n:=Wm;obtain⟨q,ak⟩:∃q,Xo (m.fs[l]?=Xa q):=⟨_,gE (Rx ay.out a8)⟩;have E:z1 m (l:Int)=q:=by unfold z1;rw[tN,gD,ak.out];rfl
 rw[E]at b;clear E;obtain⟨ao,K,au⟩:=P.out l q ak.out;(try simp only[mL,Sli.x]at c P⊢);rw[K]at c P⊢;clear K;obtain⟨p,d⟩:=kB (((w.alloc (Xk #[O (Xa ao) V.f.n V.f.c,I6 m.aB,V.s.x,V.sb.x,V.sq.x,V.db.x,V.dq.x,V.fl.x,I6 m.cnt,V.ca.x,V.sp.x] 41)).alloc (Xk #[I6 a.fr,I6 a.tz,Xh a.rd,Xh a.wr,Xh a.sh,I6 a.file,I6 a.base] 77)).alloc (Xk #[I6 ap,I6 (l:Int),Xh L] 55));rw[d]at c;have b0:Xo (Box p (w.heap.size+1) [I6 a.fr,I6 a.tz,Xh a.rd,Xh a.wr,Xh a.sh,I6 a.file,I6 a.base]):=dD<|by rw[<-d];exact(Box.aE _ _ _ Sm).alloc _
 have an:Xo (Box p (w.heap.size+1+1) [I6 ap,I6 (l:Int),Xh L]):=dD<|by rw[<-d];exact Box.aE _ _ _ Sm
 have az:Xo (Box p w.heap.size [O (Xa ao) V.f.n V.f.c,I6 m.aB,V.s.x,V.sb.x,V.sq.x,V.db.x,V.dq.x,V.fl.x,I6 m.cnt,V.ca.x,V.sp.x]):=dD<|by rw[<-d];exact((Box.aE _ _ _ rfl).alloc _).alloc _
 have bi:=az.c 0 rfl;have bj:=an.c 1 rfl;have B:Xo (p.heap.size=w.heap.size+1+1+1):=dD<|by rw[<-d];simp
 obtain⟨b3,b4,b5,b6,b7,b8,b9,ba,bb,bc,R,S,T⟩:=au p c.out;have Q:Xo (_=p):=d;clear d au;have G:Jq q a n=Xc:=by
  cases C:Jq q a n;·rw[kE (.inl C)]at b;exact absurd b Dc
  rfl
 have A:Xo (L=Xc->Qn q a=Xc):=dD<|fun bd=>by
  cases C:Qn q a;·rw[kE (.inr ⟨bd,C⟩)]at b;exact absurd b Dc
  rfl
 clear b;have j:=y.out q;rw[G]at j;have ax:=dD j;clear j;clear G;go_enter func133,ntmps133;go_upto_region 7 with fail;rw[Q.out];go_upto_region 8 with fail;refine nW fun bm h=>?_;have N:=gT h c;have am:=yA h b0;have b2:=yA h an;have f:=xP h B;rw[B.out];clear h bi bj b3 b4 b5 b6 b7 b8 b9 ba bb bc R S T;obtain⟨ac,ae,af,ag,ah,ai,aj⟩:=am.c7;have U:=f.c 0 rfl;have X:=f.c 1 rfl;have Y:=f.c 2 rfl;have Z:=f.c 3 rfl;have I:=f.c 4 rfl;have a0:=f.c 5 rfl;have a1:=f.c 6 rfl;have a2:=f.c 7 rfl;have a3:=f.c 8 rfl;have a4:=f.c 9 rfl;have r:=f.c 10 rfl;have s:=f.c 11 rfl;have t:=f.c 12 rfl;go_wp2_with fail;refine(ax _).mono ?_;clear ac ae af ag ah ai aj U X Y Z I a0 a1 a2 a3 a4 r s t;rintro e bn⟨rfl,i⟩;have x:=dD (N.trans i);have b1:=am.aA i;have bk:=(b2.aA i).c 2 rfl;have g:=f.aA i;clear i;cases L with
 |false=>
  go_wp2;go_ret;exact⟨rfl,x⟩
 |true=>
 have H:=A.out rfl;have k:=z.out q;rw[H]at k;have M:=dD k;clear k;clear H;obtain⟨ac,ae,af,ag,ah,ai,aj⟩:=b1.c7;have U:=g.c 0 rfl;have X:=g.c 1 rfl;have Y:=g.c 2 rfl;have Z:=g.c 3 rfl;have I:=g.c 4 rfl;have a0:=g.c 5 rfl;have a1:=g.c 6 rfl;have a2:=g.c 7 rfl;have a3:=g.c 8 rfl;have a4:=g.c 9 rfl;have r:=g.c 10 rfl;have s:=g.c 11 rfl;have t:=g.c 12 rfl;go_wp2_with(go_at_call 160;refine(M _).mono ?_;clear ac ae af ag ah ai aj U X Y Z I a0 a1 a2 a3 a4 r s t bk;rintro e bo⟨rfl,a7⟩)
 go_ret;exact⟨rfl,x.trans a7⟩
theorem ze5(V m w)(ah:zK w V m)(cr:zkV m)(cs:zov m)(cq:zhj m=0):
  Xp prog 102 #[Xi (mL V m).toArray] w fun e w'=>e=Xl (I6 0)/\zc w w':=by
 have a7:=dD<|fun(a:Ar)(n:Nat)(e:En)W(a9:zc w W)(dr:jS a)(bj:n<=64)(ds:0<=e.n)=>ze6 V m a n e W (ah.aA a9) dr bj ds;have b6:=dD cr.mem;have b8:=dD cs;obtain⟨aw,ax,L,M,G,H,K,F,⟨ar,d,E⟩⟩:=V;dsimp only[mL]at a7⊢;obtain⟨-,-,-,-,-,-,-,-,cc⟩:=ah.ns;dsimp only at cc;obtain⟨eb,ap,S,al⟩:=ah.aU;have bd:=dD ap;have cy:=dD S;have ba:=dD al;have cj:=dD cc.symm;have ct:d<=9223372036854775807:=by
  obtain⟨ek,dy,ef,_⟩:=ah.sp;have:=dy.short;omega
 have b0:Xo (∀s∈m.sp,∀n∈qQ s,zah m (zr s.aC n) (ze s n)=0):=dD<|fun s dw n bj=>zk.1 ((zi5 m s).symm.trans (zk.1 cq _ (Yw dw))) _ (Yw bj);clear ah ap S al cc cr cs cq;obtain⟨ec,C⟩:=kB (w.alloc (Xk #[aw.x,I6 m.aB,ax.x,L.x,M.x,G.x,H.x,K.x,I6 m.cnt,F.x,O ar d E] 41));have b2:=gA C;have cn:=xA C;have bc:=dD C;clear C;go_enter func102,ntmps102;go_upto_region 1 with fail;rw[bc.out];have ch:=cn.c 10 rfl;go_wp2;clear ch;go_loopg[12] d (fun bf ce wr=>∃f:Nat,f<=d/\d-f<=bf/\ce=I6 f/\Xo (zc w wr)/\Xo (Box wr w.heap.size [aw.x,I6 m.aB,ax.x,L.x,M.x,G.x,H.x,K.x,I6 m.cnt,F.x,O ar d E]))
 exact⟨0,nZ _,Wm,rfl,b2,cn⟩;obtain⟨f,du,dt,rfl,g,dc⟩:=hrel;by_cases D:f<d
 ·have ag:=kC D
  obtain⟨s,b9⟩:∃s,Xo (m.sp[f]?=Xa s):=⟨_,gE (Rx cj.out D)⟩;obtain⟨x,cl⟩:∃x,Xo (eb[f]?=Xa x):=⟨_,gE (by rw[bd.out,cj.out];exact D)⟩;have h:=dD<|ba.out f x s cl b9.out;obtain⟨Q,R⟩:=b8.out s (mG b9);have a1:=dD<|(jJ.1 Q).2;have bb:=dD R;have ay:=dD h.ar.n.symm;have az:Xo (zoC w x.ar.a s.aC):=show zoC _ _ _ by
   obtain⟨_,_,aq,cd⟩:=h.ar.aC;simp only[vJ]at aq;rw[aq.1];exact cd
  clear Q R;obtain⟨cp,rfl,q⟩:=cy.out f x cl.out;obtain⟨df,dg,dh,di,dj,dk,dl,dm,dn,dp⟩:=q wr g.out;clear q;go_upto_region 4 with fail;refine nW fun cz j=>?_;have a4:=gT j g;have db:=yA j dc;have t:=xA j;clear j df dg dh di dj dk dl dm dn dp;obtain⟨eh,b7⟩:=kA wr.heap.size;rw[b7.out]at t⊢;have l:=J0 x.tab s.tb cz (h.aA a4).tb;obtain⟨_,_,e2,e3,e4,e5,e6,e7,e8,e9⟩:=t.k10;go_wp2_with fail;refine l.mono ?_;clear l e2 e3 e4 e5 e6 e7 e8 e9;rintro be da⟨ej,rfl,Z,p⟩;have v:=dD (a4.trans p);have co:=dD (db.aA p);have cm:=dD (t.aA p);clear p;obtain⟨eg,ei,rfl,aj⟩:=Z.at.aX;have ak:=Z.at.short;have a6:=dD aj;rw[ZL,Yq]at ak⊢;rw[ZL]at a6;clear Z aj;obtain⟨I,ck⟩:=kA ((qQ s).length);rw[ck.out]at ak⊢;go_wp2;have cx:=dD g;go_loopg[20] I (fun bf cf wr=>∃u:Nat,u<=I/\I-u<=bf/\cf=I6 u/\Xo (zc da wr))
  exact⟨0,nZ _,Wm,rfl,zc.refl _⟩;obtain⟨u,ee,p,rfl,g⟩:=hrel;by_cases r:u<I
  ·have X:=kC r
   obtain⟨n,T⟩:∃n,Xo ((qQ s)[u]?=Xa n):=⟨_,gE (Rx ck.out r)⟩;have ai:=zhD T.out;obtain⟨de,rfl,af⟩:=a6.out u (n:Int) (by rw[Yl,T.out];rfl);have dq:=af wr g.out;clear af;have ab:=b0.out s (mG b9) n (mG T);have a2:=dD ab;clear ab;have b4:=dD (v.trans g);have aa:=zgT (x.ar.x) s.aC (n:Int) wr (h.ar.aA b4);have e1:=(cm.aA g).c 1 rfl;go_wp2_with fail;refine aa.mono ?_;clear aa dq e1;rintro be N⟨⟨cv,rfl,cu⟩,ac⟩;have a3:=dD cu;have z:=dD (g.trans ac);have b:=dD (v.trans z);clear ac cu;have dx:¬cv<0:=fun av=>by
    have:=zkG a3.out;rw[decide_eq_false Wm]at this;have bg:=a2.out;unfold zah at bg;rw[kE this.symm]at bg;exact absurd bg Dc
   obtain⟨k,a,rfl,A,b5⟩:∃(k:Nat)(a:Ar),cv=(k:Int)/\Xo (s.aC[k]?=Xa a)/\Xo (inZ a (n:Int)=Xc):=by
    rcases a3 with⟨k,a,aq,cd,dz⟩|⟨aq,_⟩;·exact⟨k,a,aq,cd,dz⟩
    omega
   have a0:=dD<|zgX a1 A.out;have dv:k<x.ar.n:=(by rw[<-ay.out];exact(gS.1 A).1);have b1:Xo (zfu m a n (ze s n)=0):=dD (by rw[<-a2.out,zb2 a1.out A.out b5.out,zmB b6.out a0.out]);have P:=(jE (zq1 bb n)).2.1.1;have a8:Xo (∀W,zc w W->Xp prog 133 #[Xi #[aw.x,I6 m.aB,ax.x,L.x,M.x,G.x,H.x,K.x,I6 m.cnt,F.x,O (Xa cp) d E],Xi #[I6 a.fr,I6 a.tz,Xh a.rd,Xh a.wr,Xh a.sh,I6 a.file,I6 a.base],I6 (n:Int),enV (ze s n)] W fun be w'=>be=Xl (I6 0)/\zc W w'):=dD<|fun W a9=>a7.out a n (ze s n) W a9 a0 Wm P b1.out;have b3:Xo (∀W,zc w W->Xp prog 69 #[Xi #[x.t0.x,x.t1.x,x.t2.x,x.t3.x,x.t4.x,x.t5.x,x.t6.x,x.t7.x],I6 (n:Int)] W fun e w'=>e=Xl (enV (ze s n))/\zc W w'):=dD<|fun W a9=>by
    have:=JJ x.tab s.tb (n:Int) W (h.aA a9).tb;rw[zgO ai]at this;exact this
   clear P;go_upto_region 10 with fail;obtain⟨c,am,q⟩:=az.out k a A.out;have i:=dD (co.aA z);have B:=dD (cm.aA z);have bu:=i.gw 0 rfl;have bv:=i.gw 1 rfl;have bw:=i.gw 2 rfl;have bx:=i.gw 3 rfl;have bz:=i.gw 4 rfl;have c0:=i.gw 5 rfl;have c1:=i.gw 6 rfl;have c2:=i.gw 7 rfl;have c3:=i.gw 8 rfl;have c4:=i.gw 9 rfl;have ao:=i.gw 10 rfl;have Y:=B.gw 1 rfl;have bl:=B.gw 2 rfl;have bm:=B.gw 3 rfl;have bn:=B.gw 4 rfl;have bo:=B.gw 5 rfl;have bp:=B.gw 6 rfl;have bq:=B.gw 7 rfl;have br:=B.gw 8 rfl;have bs:=B.gw 9 rfl;(try simp only[Sli.x]at Y);rw[am]at Y;have c5:=fun y:zj N=>(q _ (b.trans y.aA)).1;have c6:=fun y:zj N=>(q _ (b.trans y.aA)).2.1;have c7:=fun y:zj N=>(q _ (b.trans y.aA)).2.2.1;have c8:=fun y:zj N=>(q _ (b.trans y.aA)).2.2.2.1;have c9:=fun y:zj N=>(q _ (b.trans y.aA)).2.2.2.2.1;have ca:=fun y:zj N=>(q _ (b.trans y.aA)).2.2.2.2.2.1;have cb:=fun y:zj N=>(q _ (b.trans y.aA)).2.2.2.2.2.2;have bk:Nonempty (zj N):=⟨⟨_,zc.refl _⟩⟩;clear q am;refine jK [(10,⟨fun au=>au=enV (ze s n),fun au w'=>True⟩),(11,⟨fun au=>au=I6 0,fun au w'=>True⟩)] zY Kr (Sb ⟨_,rfl⟩ ⟨_,rfl⟩) ?hp ?_;case hp=>
    intro x an;simp only[mC,nM,or_false]at an;rcases an with rfl|rfl;·exact fun _ _ _ _ av=>av
    exact fun _ _ _ _ av=>av
   iterate 10 refine zf ?_
   refine zI rfl rfl (fun w' bi bh=>?_) (fun ea bt=>?_);·refine zO.call [Xi #[x.t0.x,x.t1.x,x.t2.x,x.t3.x,x.t4.x,x.t5.x,x.t6.x,x.t7.x],I6 (n:Int)] rfl func69 rfl rfl rfl ?_;refine(b3 w' (b.trans bi)).mono ?_;rintro e cg⟨rfl,U⟩;exact⟨_,rfl,U,rfl,trivial⟩
   subst bt;refine Uq ?_;refine zI rfl rfl (fun w' bi bh=>?_) (fun ea bt=>?_);·refine zO.call [Xi #[aw.x,I6 m.aB,ax.x,L.x,M.x,G.x,H.x,K.x,I6 m.cnt,F.x,O (Xa cp) d E],Xi #[I6 a.fr,I6 a.tz,Xh a.rd,Xh a.wr,Xh a.sh,I6 a.file,I6 a.base],I6 (n:Int),enV (ze s n)] rfl func133 rfl rfl rfl ?_;refine(a8 w' (b.trans bi)).mono ?_;rintro e cg⟨rfl,U⟩;exact⟨_,rfl,U,rfl,trivial⟩
   subst bt;refine Uq ?_;refine zf ?_;refine z5 fun ed ae bh=>?_;have a5:=dD (z.trans ae);have ci:=dD (v.trans a5);clear ae bh bu bv bw bx bz c0 c1 c2 c3 c4 ao Y bl bm bn bo bp bq br bs c5 c6 c7 c8 c9 ca cb bk;go_wp2;go_roundg (I-(u+1));exact⟨u+1,Wm,Wm,Gn,a5⟩;omega
  have X:=kD r;have:u=I:=Wm;subst this;have dd:=dD (co.aA g);have cw:=dD (v.trans g);go_wp2;go_roundg (d-(f+1));exact⟨f+1,Wm,Wm,Gn,cw,dd⟩;omega
 have ag:=kD D;have:f=d:=Wm;subst this;go_wp2;go_ret;exact⟨rfl,g⟩
theorem zbN(a w)(k:frW a=0):Xp prog 149 #[Xi (frv a).toArray] w fun e w'=>e=Xl (I6 0)/\zc w w':=by
 obtain⟨⟨n,p,q,s,t,u,v,y⟩,r,B,z,h,x⟩:=a;show Xp prog 149 #[Xi #[U8 n,U8 p,U8 q,U8 s,U8 t,U8 u,U8 v,U8 y,I6 r,Xh B,Xh z,I6 h,I6 x]] w _;cases b:inB r 1001 with
 |false=>simp[frW,b]at k
 |true=>
 cases d:inB x 12 with
 |false=>simp[frW,b,d]at k
 |true=>
 by_cases l:h=-1
 ·have f:(h==-1)=Xc:=by simp[l]
  have i:(h !=-1)=Xd:=by simp[l]
  by_cases m:r=0
  ·have c:(r==0)=Xc:=by simp[m]
   cases g:Jj (⟨⟨n,p,q,s,t,u,v,y⟩,r,B,z,h,x⟩:Fr) frF with
   |false=>simp[frW,b,d,f,c,g]at k
   |true=>
    have j:x=0:=(by have:=zdC g;simp only[frF,Fr.mk.injEq]at this;exact this.2.2.2.2.2);exact wf7 _ _ _ _ _ _ _ _ _ _ _ _ _ w b d i f c g (by simp[j])
  have c:(r==0)=Xd:=by simp[m]
  by_cases j:x=0;·exact wf9 _ _ _ _ _ _ _ _ _ _ _ _ _ w b d i f c (by simp[j])
  have A:(x==0)=Xd:=by simp[j]
  simp[frW,b,d,f,c,A]at k
 have f:(h==-1)=Xd:=by simp[l]
 have i:(h !=-1)=Xc:=by simp[l]
 cases j:inB h 5 with
 |false=>simp[frW,b,d,f,j]at k
 |true=>
  by_cases m:r=0
  ·have c:(r==0)=Xc:=by simp[m]
   have g:Jj (⟨⟨n,p,q,s,t,u,v,y⟩,r,B,z,h,x⟩:Fr) frF=Xd:=by
    refine zpw fun h=>?_;simp only[frF,Fr.mk.injEq]at h;exact l h.2.2.2.2.1
   simp[frW,b,d,f,j,c,g]at k
  have c:(r==0)=Xd:=by simp[m]
  exact wf5 _ _ _ _ _ _ _ _ _ _ _ _ _ w b d i f j c
theorem znz:∀{fs:List Fr},zcO fs=0->∀f∈fs,frW f=0
 |[],_,_,a=>by cases a
 |g::fs,h,f,a=>by
  unfold zcO at h
  by_cases b:frW g=0
  ·rw[kE b]at h
   rcases mC.1 a with rfl|a
   ·exact b
   exact znz h f a
  rw[kF b]at h;exact absurd h b
theorem QQ(a)(c:Nat)(fs:List Fr)(h:Int)(w)(g:zq q3 w (O a fs.length c) fs)(i:ZR fs h=0):
  Xp prog 125 #[Xi #[O a fs.length c,I6 h]] w fun e w'=>e=Xl (I6 0)/\zc w w':=by
 have d:=g.short;obtain⟨b,b,f,b⟩:=g.bC;cases f;have r:=dD b;clear b g;have b:ZR fs h=if 40<fs.length then 4 else if zcO fs=0 then(if inB h (max fs.length 1)then 0 else 3)else zcO fs:=rfl;rw[i]at b;obtain⟨n,k⟩:=kA fs.length;rw[k.out]at d b⊢;have d:¬40<n:=fun e=>by rw[kE e]at b;cases b
 rw[kF d]at b;have p:Xo (∀f∈fs,frW f=0):=dD<|znz (Decidable.byContradiction fun e=>e (by rw[kF e]at b;exact b.symm));have g:zcO fs=0:=Decidable.byContradiction fun e=>e (by rw[kF e]at b;exact b.symm);rw[kE g]at b;have f:inB h (max n 1)=Xc:=by
  cases e:inB h (max n 1)with
  |true=>rfl
  |false=>rw[e]at b;cases b
 clear b g i;have b:¬(40:Int)<(n:Int):=Wm;have j:Xo (∀W,Xp prog 144 #[I6 h,I6 (max (n:Int) 1)] W fun e w'=>e=Xl (Xh Xc)/\w'=W):=dD<|fun W=>by
  have b:=Qf h (max (n:Int) 1) W;rw[show inB h (max (n:Int) 1)=inB h (max n 1) by simp,f]at b;exact b
 clear f;obtain⟨g,b⟩:=kB (w.alloc (Xk #[O a n c,I6 h] 28));have h:=gA b;have m:=xA b;have f:=dD b;clear b d;go_enter func125,ntmps125;go_wp2;rw[f.out];go_loopg[13] n (fun f d wr=>∃b:Nat,b<=n/\n-b<=f/\d=I6 b/\Xo (zc g wr))
 exact⟨0,nZ _,Wm,rfl,zc.refl _⟩;obtain⟨b,d,d,rfl,g⟩:=hrel;by_cases f:b<n
 ·have i:=kC f
  obtain⟨q,l⟩:∃q,Xo (fs[b]?=Xa q):=⟨_,gE (Rx k.out f)⟩;obtain⟨d,rfl,k⟩:=r.out b q l.out;obtain⟨d,d,d,d,d,d,d,d,d,d,d,d,d⟩:=k wr (h.trans g);have d:=fun W=>zbN q W (p q (mG l));clear k;go_wp2_with(go_at_call 149;refine(d _).mono ?_;rintro e w'⟨rfl,d⟩)
  go_roundg (n-(b+1));exact⟨b+1,Wm,Wm,Gn,(g.trans (za _ _)).trans d⟩;omega
 have i:=kD f;have:b=n:=Wm;subst this;obtain⟨b,b⟩:=(m.aA g).k2;have b:=j.out;go_wp2_with(go_at_call 144;refine(b _).mono ?_;rintro e w'⟨rfl,rfl⟩)
 go_ret;exact⟨rfl,h.trans g⟩
theorem zeN(h:zbv m=0):(∀k:Nat,k<m.fs.length->frE m k=0)/\∀k:Nat,k<m.sl.length->zlc m k=0:=by have a:∀(f:Nat->Int)(n:Nat),zG ((Yz n).map f)=0->∀k,k<n->f k=0:=fun f n a k b=>zk.1 a _ (Ye.2 ⟨k,Yh.2 b,rfl⟩);grind[zbv,zG,Yz,frE]
theorem ze7(V)(m:Ma)(w)(a3:zK w V m)(b2:zbh m Xb m.ca=0)(a9:m.sp.length<=4)(b9:∀s∈m.sp,tbW s.tb=0)(ck:zbv m=0):
  Xp prog 103 #[Xi (mL V m).toArray] w fun e w'=>e=Xl (I6 0)/\zc w w':=by
 have au:Xo (∀W,zc w W->Xp prog 67 #[Xi (mL V m).toArray] W fun e w'=>∃B,e=Xl (Xi #[V.f.x,I6 m.aB,V.s.x,V.sb.x,V.sq.x,V.db.x,V.dq.x,V.fl.x,I6 m.cnt,V.ca.x,V.sp.x,.map (Xa B)])/\QI plK w' B (Jf m.ca)/\zc W w'):=dD<|fun W a6=>zbR V m W (a3.aA a6);have ar:Xo (∀W,zc w W->Xp prog 134 #[Xi (mL V m).toArray] W fun e w'=>∃B,e=Xl (.map (Xa B))/\zap enK w' B (qR m m.sp.length [] zfa)/\zc W w'):=dD<|fun W a6=>zjw V m W (a3.aA a6) a9 b9;have aq:=dD<|fun(B:Nat)(k:Nat)W(a6:zc w W)(b5:k<m.fs.length)(ay:QI plK W B (Jf m.ca))=>zgN V m B k (Jf m.ca) W (a3.aA a6) b5 ay;obtain⟨⟨a4,j,S⟩,⟨U,n,X⟩,g,i,c,d,f,b,h⟩:=V;dsimp only[mL]at au ar aq⊢;obtain⟨cn,co,-⟩:=a3.ns;dsimp only at cn co;have c3:=dD a3.bC;have cb:=dD a3.sls;have c7:=dD cn.symm;have c8:=dD co.symm;have e4:j<=9223372036854775807:=Hm a3.fs.short;have e5:n<=9223372036854775807:=Hm a3.sl.short;have c2:Xo (∀k:Nat,k<m.fs.length->(z1 m k).r=qR m m.sp.length [] zfa (1,(k:Int))/\(0<=(z1 m k).f->Jf m.ca ((z1 m k).f,(z1 m k).x)=Xa (k:Int))):=dD<|fun k b5=>by
  have l:=(zeN ck).1 k b5;rw[zpx b2 k]at l;by_cases ao:(z1 m k).r≠qR m m.sp.length [] zfa (1,(k:Int))\/(0<=(z1 m k).f/\¬Jf m.ca ((z1 m k).f,(z1 m k).x)=Xa (k:Int));·rw[kE ao]at l;cases l
  exact⟨Decidable.byContradiction fun e=>ao (.inl e),fun e=>Decidable.byContradiction fun dv=>ao (.inr ⟨e,dv⟩)⟩
 have ca:Xo (∀k:Nat,k<m.sl.length->m.sl.getD k 0=qR m m.sp.length [] zfa (2,(k:Int))):=dD<|fun k b5=>by
  have l:=(zeN ck).2 k b5;rw[zmJ m k]at l;by_cases ao:m.sl.getD k 0≠qR m m.sp.length [] zfa (2,(k:Int));·rw[kE ao]at l;cases l
  exact Decidable.byContradiction ao
 clear a3 b2 a9 b9 cn co ck;obtain⟨di,a0⟩:=kB (w.alloc (Xk #[O a4 j S,I6 m.aB,O U n X,g.x,i.x,c.x,d.x,f.x,I6 m.cnt,b.x,h.x] 41));have I:=gA a0;have A:=xA a0;have cc:=dD a0;clear a0;go_enter func103,ntmps103;go_upto_region 1 with fail;rw[cc.out];have ba:=A.gw 0 rfl;have bb:=A.gw 1 rfl;have bc:=A.gw 2 rfl;have bd:=A.gw 3 rfl;have be:=A.gw 4 rfl;have bf:=A.gw 5 rfl;have bg:=A.gw 6 rfl;have bh:=A.gw 7 rfl;have bi:=A.gw 8 rfl;have bj:=A.gw 9 rfl;have aa:=A.gw 10 rfl;have P:Nonempty (zj di):=⟨⟨_,zc.refl _⟩⟩;refine jO 5 [(1,⟨fun r=>∃B,r=Xi #[O a4 j S,I6 m.aB,O U n X,g.x,i.x,c.x,d.x,f.x,I6 m.cnt,b.x,h.x,.map (Xa B)],fun r w'=>∃B,r=Xi #[O a4 j S,I6 m.aB,O U n X,g.x,i.x,c.x,d.x,f.x,I6 m.cnt,b.x,h.x,.map (Xa B)]/\QI plK w' B (Jf m.ca)⟩),(3,⟨fun r=>∃B,r=.map (Xa B),fun r w'=>∃B,r=.map (Xa B)/\zap enK w' B (qR m m.sp.length [] zfa)⟩),(4,⟨fun r=>∃R,r=Xj (Xa ⟨R,0,Xb⟩),fun r w'=>∃R,r=Xj (Xa ⟨R,0,Xb⟩)/\Box w' R [eS,I6 0,eS,eS,eS,eS,eS,eS,I6 0,eS,eS,.map Xb]/\w.heap.size<=R⟩)] zY Kr rfl rfl Dc (Sc ⟨_,0,rfl⟩ ⟨_,0,rfl⟩ ⟨_,0,rfl⟩) ?hp ?_;case hp=>
  intro cs Q;simp only[mC,nM,or_false]at Q;rcases Q with rfl|rfl|rfl;·exact fun _ _ _ z t=>by obtain⟨B,l,a5⟩:=t;exact⟨B,l,a5.aA z⟩
  ·exact fun _ _ _ z t=>by obtain⟨B,l,a5⟩:=t;exact⟨B,l,a5.aA z⟩
  exact fun _ _ _ z t=>by obtain⟨R,l,a5,e0⟩:=t;exact⟨R,l,a5.aA z,e0⟩
 simp only[Xv,Xw];refine zf ?_;refine zI rfl rfl (fun w' z D=>?_) (fun cr T=>?_);·refine zO.call [Xi #[O a4 j S,I6 m.aB,O U n X,g.x,i.x,c.x,d.x,f.x,I6 m.cnt,b.x,h.x]] rfl func67 rfl rfl rfl ?_;refine(au w' (I.trans z)).mono ?_;rintro e bu⟨B,rfl,ay,a2⟩;exact⟨_,rfl,a2,⟨B,rfl⟩,B,rfl,ay⟩
 obtain⟨ct,rfl⟩:=T;refine Uq ?_;refine zf ?_;refine zI rfl rfl (fun w' z D=>?_) (fun cr T=>?_);·refine zO.call [Xi #[O a4 j S,I6 m.aB,O U n X,g.x,i.x,c.x,d.x,f.x,I6 m.cnt,b.x,h.x]] rfl func134 rfl rfl rfl ?_;refine(ar w' (I.trans z)).mono ?_;rintro e bu⟨B,rfl,ay,a2⟩;exact⟨_,rfl,a2,⟨B,rfl⟩,B,rfl,ay⟩
 obtain⟨cu,rfl⟩:=T;refine Uq ?_;refine zI rfl rfl (fun w' z D=>?_) (fun cr T=>?_);·have b8:Box (w'.alloc (Xk #[eS,I6 0,eS,eS,eS,eS,eS,eS,I6 0,eS,eS,.map Xb] 140)) w'.heap.size [eS,I6 0,eS,eS,eS,eS,eS,eS,I6 0,eS,eS,.map Xb]:=Box.aE _ _ _ rfl;have cl:=bS (I.trans z);clear ba bb bc bd be bf bg bh bi bj aa P;refine zO.step (v:=Xj (Xa ⟨w'.heap.size,0,Xb⟩)) (w':=w'.alloc (Xk #[eS,I6 0,eS,eS,eS,eS,eS,eS,I6 0,eS,eS,.map Xb] 140)) (by simp only[execOp];go_simp) ⟨za _ _,⟨_,rfl⟩,_,rfl,b8,cl⟩
 obtain⟨de,rfl⟩:=T;refine Uq ?_;refine z5 fun ce H D=>?_;obtain⟨u,af,az⟩:∃B,(Value.agg #[O a4 j S,I6 m.aB,O U n X,g.x,i.x,c.x,d.x,f.x,I6 m.cnt,b.x,h.x,.map (Xa ct)])=Xi #[O a4 j S,I6 m.aB,O U n X,g.x,i.x,c.x,d.x,f.x,I6 m.cnt,b.x,h.x,.map (Xa B)]/\QI plK ce B (Jf m.ca):=D 1;obtain⟨Y,ag,b0⟩:∃B,(Value.map (Xa cu))=.map (Xa B)/\zap enK ce B (qR m m.sp.length [] zfa):=D 3;obtain⟨an,ah,ax,a8⟩:∃R,(Value.pointer (Xa ⟨de,0,Xb⟩))=Xj (Xa ⟨R,0,Xb⟩)/\Box ce R [eS,I6 0,eS,eS,eS,eS,eS,eS,I6 0,eS,eS,.map Xb]/\w.heap.size<=R:=D 4;have dw:u=ct:=by simp at af;exact af.symm
 have dx:Y=cu:=by simp at ag;exact ag.symm
 have dy:an=de:=by simp at ah;exact ah.symm
 subst dw dx dy;have cx:=dD az;have dg:=dD b0;have bw:=dD ax;have c6:=dD a8;have c4:=dD (I.trans H);have da:=dD (A.aA H);clear af ag ah az b0 ax a8 H D ba bb bc bd be bf bg bh bi bj aa P;have cd:Xo (w.heap.size≠an):=show _≠_ from fun e=>by
  obtain⟨ed,l⟩:=da.out;obtain⟨ee,a5⟩:=bw.out;rw[<-e,l]at a5;simp at a5
 go_wp2_with(refine zn rfl 140 (.tmp 3) (.tmp 10) rfl an rfl [O a4 j S,I6 m.aB,O U n X,g.x,i.x,c.x,d.x,f.x,I6 m.cnt,b.x,h.x,.map (Xa u)] rfl bw rfl Kr (fun r T=>by
    simp only[mC,nM,or_false]at T
    rcases T with rfl|rfl|rfl|rfl|rfl|rfl|rfl|rfl|rfl|rfl|rfl|rfl<;>rfl) ?_)
 intro aw b1 L _;have dk:=dD b1;have db:=dD<|da.grown L cd.out;have dh:Xo (QI plK aw u (Jf m.ca)):=cx.kept L (fun e=>by cases e;exact bw.bU cx rfl);have cy:Xo (zap enK aw Y (qR m m.sp.length [] zfa)):=dD<|by
  obtain⟨dz,dd,e8⟩:=dg.out;exact⟨dz,dd.kept L (fun e=>by cases e;exact bw.bU dd rfl),e8⟩
 have E:=dD<|zd c4 L c6.out;clear b1 L;have e9:=db.c 0 rfl;go_wp2;clear e9;go_loopg[17] j (fun cj cp wr=>∃a:Nat,a<=j/\j-a<=cj/\cp=I6 a/\Xo (zc aw wr))
 exact⟨0,nZ _,Wm,rfl,zc.refl _⟩;obtain⟨a,e7,e6,rfl,Z⟩:=hrel;by_cases ak:a<j
 ·have b7:=kC ak
  have y:Xo (a<m.fs.length):=dD<|Rx c7.out ak;obtain⟨q,cw⟩:∃q,Xo (m.fs[a]?=Xa q):=⟨_,gE y⟩;have ap:Xo (z1 m (a:Int)=q):=dD (by unfold z1;rw[tN,gD,cw.out];rfl);obtain⟨cf,rfl,b6⟩:=c3.out a q cw.out;obtain⟨dc,dl,dm,dn,dp,dq,dr,ds,dt,du,cg,ch,ci⟩:=b6 wr (E.trans Z);clear b6;go_upto_region 5 with fail;refine nW fun cz a1=>?_;have x:=gT a1 Z;have cv:=dD (E.trans x);have bz:=xA a1;have C:=dD (dk.aA x);clear a1 dc dl dm dn dp dq dr ds dt du cg ch ci;obtain⟨ec,c9⟩:=kA wr.heap.size;rw[c9.out]at bz⊢;obtain⟨t,F⟩:=kA ((qR m m.sp.length [] zfa) (1,(a:Int)));have aj:∀bx:zj cz,(Instr.lookup 204 (.map (Xa Y)) (Xi #[I6 1,I6 (a:Int),Xh Xd]) Xd).run prog bx.world=.ok (I6 t) bx.world:=fun bx=>by
   have:=(cy.aA (x.trans bx.aA)).look (K:=enK) underlying204 (zs1 _) (1,(a:Int));rw[F.out]at this;exact this
  have b4:=bz.gw 8 rfl;have a7:=bz.gw 11 rfl;have bk:=C.gw 0 rfl;have bl:=C.gw 1 rfl;have bm:=C.gw 2 rfl;have bn:=C.gw 3 rfl;have bo:=C.gw 4 rfl;have bp:=C.gw 5 rfl;have bq:=C.gw 6 rfl;have br:=C.gw 7 rfl;have bs:=C.gw 8 rfl;have bt:=C.gw 9 rfl;have ab:=C.gw 10 rfl;have ac:=C.gw 11 rfl;have P:Nonempty (zj cz):=⟨⟨_,zc.refl _⟩⟩;obtain⟨am,ai⟩:=c2.out a y.out;rw[ap.out,F.out]at am;have cm:(q.r !=t)=Xd:=by simp[am]
  by_cases G:0<=q.f
  ·have b3:decide (0<=q.f)=Xc:=Si G
   have df:Xo (decide (Jf m.ca ((z1 m (a:Int)).f,(z1 m (a:Int)).x)=Xa (a:Int))=Xc):=dD<|decide_eq_true (ai (Rx ap.out G));have c1:Xo (∀W,zc aw W->Xp prog 135 #[Xi #[O (Xa cf) j S,I6 m.aB,O U n X,g.x,i.x,c.x,d.x,f.x,I6 m.cnt,b.x,h.x,.map (Xa u)],I6 (a:Int)] W fun e w'=>e=Xl (Xh Xc)/\zc W w'):=dD<|fun W a6=>by
    have l:=aq.out u a W (E.trans a6) y (dh.aA a6);rw[df.out]at l;exact l
   clear am G ai;refine jK [(14,⟨fun r=>r=Xh Xc,fun r w'=>True⟩)] zY Kr (Sa ⟨_,rfl⟩) ?hp ?_;case hp=>
    intro cs Q;simp only[mC,nM,or_false]at Q;subst Q;exact fun _ _ _ _ t=>t
   iterate 14 refine zf ?_
   refine zI rfl rfl (fun w' z D=>?_) (fun cr T=>?_);·refine zO.call [Xi #[O (Xa cf) j S,I6 m.aB,O U n X,g.x,i.x,c.x,d.x,f.x,I6 m.cnt,b.x,h.x,.map (Xa u)],I6 (a:Int)] rfl func135 rfl rfl rfl ?_;refine(c1 w' (x.trans z)).mono ?_;rintro e bu⟨rfl,H⟩;exact⟨_,rfl,H,rfl,trivial⟩
   subst T;refine Uq ?_;iterate 3 refine zf ?_
   refine z5 fun dj M D=>?_;have ae:=dD (x.trans M);clear M D aj b4 a7 bk bl bm bn bo bp bq br bs bt ab ac P;go_wp2;go_roundg (j-(a+1));exact⟨a+1,Wm,Wm,Gn,ae⟩;omega
  have b3:decide (0<=q.f)=Xd:=Si G;clear am G ai;refine jK [] zY Kr Sm Sm ?_;iterate 12 refine zf ?_
  iterate 4 (refine Zu Kr ?_;simp only[Yc,sB,sS,sZ])
  iterate 2 refine zf ?_
  refine z5 fun dj M D=>?_;have ae:=dD (x.trans M);clear M D aj b4 a7 bk bl bm bn bo bp bq br bs bt ab ac P;go_wp2;go_roundg (j-(a+1));exact⟨a+1,Wm,Wm,Gn,ae⟩;omega
 have b7:=kD ak;have:a=j:=Wm;subst this;have ea:=(db.aA Z).c 2 rfl;go_wp2;clear ea;have c0:=dD Z;go_loopg[44] n (fun cj cq wr=>∃p:Nat,p<=n/\n-p<=cj/\cq=I6 p/\Xo (zc aw wr))
 exact⟨0,nZ _,Wm,rfl,c0⟩;obtain⟨p,eb,a2,rfl,Z⟩:=hrel;by_cases N:p<n
 ·have al:=kC N
  have y:Xo (p<m.sl.length):=dD<|Rx c8.out N;obtain⟨bv,av⟩:∃bv,Xo (m.sl[p]?=Xa bv):=⟨_,gE y⟩;obtain⟨cf,rfl,b6⟩:=cb.out p bv av.out;have dc:=b6 wr (E.trans Z);clear b6;obtain⟨t,F⟩:=kA ((qR m m.sp.length [] zfa) (2,(p:Int)));have aj:(Instr.lookup 204 (.map (Xa Y)) (Xi #[I6 2,I6 (p:Int),Xh Xd]) Xd).run prog wr=.ok (I6 t) wr:=by
   have:=(cy.aA Z).look (K:=enK) underlying204 (zs1 _) (2,(p:Int));rw[F.out]at this;exact this
  have am:bv=t:=by
   have:=ca.out p y.out;rw[gD,av.out,F.out]at this;exact this
  have cm:(bv !=t)=Xd:=by simp[am]
  clear am;go_wp2;go_roundg (n-(p+1));exact⟨p+1,Wm,Wm,Gn,Z⟩;omega
 have al:=kD N;have:p=n:=Wm;subst this;have c5:=dD (E.trans Z);go_wp2;go_ret;exact⟨rfl,c5⟩
theorem zgc(V m w)(a3:zK w V m)(bu:zkV m)(ch:zG (zat m)=0):
  Xp prog 99 #[Xi (mL V m).toArray] w fun e w'=>e=Xl (I6 0)/\zc w w':=by
 obtain⟨c6,y,f,T,⟨D,d,E⟩,⟨F,i,G⟩,R,Q,S⟩:=V;dsimp only[mL];have df:=zcA;obtain⟨-,s,bx,-,am,bz,-⟩:=a3.ns;dsimp only at s bx am bz;have aq:=dD<|fun ai(d9:zc w ai)=>zeG _ m.fl m.cnt ai (a3.aA d9).fl bu.st;have b9:=dD a3.pgs;have ba:=dD a3.puts;obtain⟨ab,ah⟩:=ziQ bu.dq;have bd:=dD ah;have B:=dD am.symm;have az:=dD bz.symm;have bw:i<=9223372036854775807:=Hm a3.dq.2.2;rw[B.out]at ab;have h:znI m=if y.n≠f.n\/m.cnt≠(d:Int)then 7 else 0:=by unfold znI;rw[s,bx,am]
 have v:=zk.1 ch;have n:zaU m=0:=v _ (by simp[zat]);have r:zaz m=0:=v _ (by simp[zat]);rw[v (znI m) (by simp[zat])]at h;have ao:Xo (∀c,c<m.db.length->zda m c=Xd):=dD<|fun c bv=>by
  cases aa:zda m c with
  |false=>rfl
  |true=>rw[zf1 bv aa]at n;cases n
 have be:Xo (∀(j:Nat)x,m.dq[j]?=Xa x->z4 m.fl x.1=Xc):=dD<|fun j x de=>by
  cases aa:z4 m.fl x.1 with
  |true=>rfl
  |false=>rw[zfB de aa]at r;cases r
 have da:¬(y.n≠f.n\/m.cnt≠(d:Int)):=fun aa=>by rw[kE aa]at h;cases h
 have al:f.n=y.n:=Wm;have bk:m.cnt=(d:Int):=Wm;clear a3 bu ah s bx am bz h v n r ch da;obtain⟨cb,k⟩:=kB (w.alloc (Xk #[c6.x,I6 m.aB,y.x,f.x,T.x,O D d E,O F i G,R.x,I6 m.cnt,Q.x,S.x] 41));have a5:=gA k;have C:=xA k;have cn:Xo (w.heap.size<cb.heap.size):=dD<|by rw[<-k];simp
 have bf:=dD k;clear k;have cw:((f.n:Int)!=(y.n:Int))=Xd:=by simp[al]
 have cy:((d:Int)!=m.cnt)=Xd:=by simp[bk]
 have cx:(f.n !=y.n)=Xd:=by simp[al]
 have ac:=aq.out cb a5.out;have cl:=dD al;have cm:=dD bk;clear al bk;go_enter func99,ntmps99;go_upto_region 1 with fail;rw[bf.out];have dn:=C.c 2 rfl;have dp:=C.c 3 rfl;have c7:=C.c 5 rfl;have c8:=C.c 6 rfl;have dq:=C.c 7 rfl;have dr:=C.c 8 rfl;go_upto_region 3 with fail;go_wp2_with fail;refine ac.mono ?_;clear ac dn dp c7 c8 dq dr;rintro e aj⟨rfl,H⟩;have a6:=dD (a5.trans H);have cc:=dD (C.aA H);clear H;obtain⟨a4,u⟩:=kA (jC 80 (jD m.fl m.fl.length []));have aw:Xo (a4.length=80):=show _=_ by rw[<-u.out];exact zb6 _ _
 have ax:Xo (∀dm∈a4,dm.oneCell'=Xc):=dD<|by rw[<-u.out];exact zhS _ _
 have a8:Xo (∀c:Nat,c<80->a4[c]?=Xa (Xh (z4 m.fl (c:Int)))):=dD<|fun c bv=>by rw[<-u.out];exact zpD bv
 rw[u.out];obtain⟨cq,l⟩:=kB (aj.alloc (Xk zg9 198));have ar:=gT l a6;have ct:=yA l cc;have cu:Xo (Box cq aj.heap.size (Xr 80 (Xh Xd))):=dD<|by rw[<-l];exact Box.aE _ (Xr 80 (Xh Xd)) _ rfl
 have bg:=dD l;clear l;have av:=dD<|bS a6.out;have bh:=dD cc.lt;go_wp2_with(first|(rw[bg.out];refine zn rfl 198 (.tmp 3) (.tmp 28) rfl aj.heap.size rfl a4 rfl cu (by rw[aw.out];simp) (Si zs2) ax.out ?_))
 intro cr ae K _;have au:=dD<|zd ar K av.out;have cd:Xo (Box cr w.heap.size [c6.x,I6 m.aB,y.x,f.x,T.x,O D d E,O F i G,R.x,I6 m.cnt,Q.x,S.x]):=ct.grown K (Hm bh.out);have cg:=dD ae;obtain⟨an,b8⟩:=kA aj.heap.size;rw[b8.out]at cg⊢;clear ae K df;have c7:=cd.c 5 rfl;go_wp2;clear c7;obtain⟨P,ay⟩:=kA d;rw[ay.out]at ab⊢;go_loopg[33] P (fun bt c4 wr=>∃b:Nat,b<=P/\P-b<=bt/\c4=I6 b/\Xo (zc w wr)/\Xo (Box wr w.heap.size [c6.x,I6 m.aB,y.x,f.x,T.x,O D d E,O F i G,R.x,I6 m.cnt,Q.x,S.x])/\Xo (Box wr an a4))
 exact⟨0,nZ _,Wm,rfl,au,cd,cg⟩;obtain⟨b,dd,dc,rfl,z,cf,ak⟩:=hrel;by_cases L:b<P
 ·have ag:=kC L
  have p:b<80:=Wm;have a7:Xo (b<m.db.length):=dD (by rw[B.out,ay.out];exact L);obtain⟨c0,c9⟩:∃c0,Xo (m.db[b]?=Xa c0):=⟨_,gE a7⟩;obtain⟨cv,W,X,Y,Z,I,a0,a1,a2,rfl,rfl,af⟩:=b9.out b c0 c9.out;have A:Xo (zda m b=(!z4 m.fl (b:Int)&&!([W,X,Y,Z,I,a0,a1,a2]==zt))):=dD (by unfold zda;rw[gD,c9.out];rfl);obtain⟨bl,bm,bn,bo,bp,bq,br,bs⟩:=af wr z.out;have N:=fun ai=>QL 9998 W X Y Z I a0 a1 a2 0 0 0 0 0 0 0 0 ai;simp only[zg7]at N;obtain⟨cp,ca⟩:=kA (z4 m.fl (b:Int));have g:=a8.out b p;rw[ca.out]at g;rw[ca.out]at A;obtain⟨co,bb⟩:=kA ([W,X,Y,Z,I,a0,a1,a2]==zt);rw[bb.out]at N A;clear af;go_upto_region 7 with fail;refine nW fun cs a=>?_;have t:=gT a z;have ce:=yA a cf;have U:=yA a ak;have bj:=xA a;clear a bl bm bn bo bp bq br bs;have ds:=U.c b g;obtain⟨cj,dg,dh,an,di,dj,dk,dl⟩:=bj.c8;clear g;cases cp with
  |true=>
   clear cj dg dh an di dj dk dl N;go_wp2;go_roundg (P-(b+1));exact⟨b+1,Wm,Wm,Gn,t,ce,U⟩;omega
  |false=>
   cases co with
   |true=>
    go_wp2;go_roundg (P-(b+1));exact⟨b+1,Wm,Wm,Gn,t,ce,U⟩;omega
   |false=>
    have:=ao.out b a7.out;rw[A.out]at this;cases this
 have ag:=kD L;have:b=P:=Wm;subst this;have c8:=cf.c 6 rfl;go_wp2;clear c8;obtain⟨s,a9⟩:=kA i;rw[a9.out]at bw⊢;have ap:=dD z;have bi:=dD ak;go_loopg[52] s (fun bt c5 wr=>∃j:Nat,j<=s/\s-j<=bt/\c5=I6 j/\Xo (zc w wr)/\Xo (Box wr an a4))
 exact⟨0,nZ _,Wm,rfl,ap,bi⟩;obtain⟨j,dt,db,rfl,z,ak⟩:=hrel;by_cases q:j<s
 ·have M:=kC q
  obtain⟨x,bc⟩:∃x,Xo (m.dq[j]?=Xa x):=⟨_,gE (by rw[az.out,a9.out];exact q)⟩;obtain⟨cv,ci,W,X,Y,Z,I,a0,a1,a2,rfl,rfl,af⟩:=ba.out j x bc.out;obtain⟨ck,c3⟩:=bd.out j _ bc.out;simp only at ck c3;obtain⟨c,rfl⟩:∃c:Nat,ci=(c:Int):=⟨ci.toNat,Wm⟩;have p:c<80:=by rw[B.out,ay.out]at c3;omega
  obtain⟨bl,bm,bn,bo,bp,bq,br,bs,cz⟩:=af wr z.out;have g:=a8.out c p;rw[show z4 m.fl (c:Int)=Xc from be.out j _ bc.out]at g;clear af ck c3;go_upto_region 13 with fail;refine nW fun cs a=>?_;have t:=gT a z;have U:=yA a ak;have bj:=xA a;clear a bl bm bn bo bp bq br bs cz;have ds:=U.c c g;have cj:=bj.c 0 rfl;clear g;go_wp2;go_roundg (s-(j+1));exact⟨j+1,Wm,Wm,Gn,t,U⟩;omega
 have M:=kD q;have:j=s:=Wm;subst this;go_wp2;go_ret;exact⟨rfl,z⟩
theorem zrY(V m w)(b:zK w V m)(d:maW m=0)(k:Nat)(f:Nat)(a:chk[k]?=Xa f):
  Xp prog f #[Xi (mL V m).toArray] w fun e w'=>e=Xl (I6 0)/\zc w w':=by
 have c:∀e∈zrc m,e=0:=zk.1 (by rw[<-d,zqK];rfl);have g:zG (JX m)=0:=c _ (by simp[zrc]);have n:zG (zat m)=0:=c _ (by simp[zrc]);have d:Jt m=0:=c _ (by simp[zrc]);have j:zfv m=0:=c _ (by simp[zrc]);have p:zhj m=0:=c _ (by simp[zrc]);have q:zbv m=0:=c _ (by simp[zrc]);have c:=zrF.1 g
 match k,a with
 |0,a=>
  cases a;have k:=zf9 V m w b fun W i=>by
   obtain⟨l,-⟩:=b.ns;have h:=(b.aA i).fs;(try simp only[Sli.x]at h⊢);rw[l]at h⊢;have i:ZR m.fs m.aB=0:=zk.1 g _ (by simp[JX]);rw[i];exact QQ _ _ m.fs m.aB W h i
  rw[g]at k;exact k
 |1,a=>cases a;exact zgc V m w b c n
 |2,a=>cases a;rw[<-d];exact zdJ V m w b
 |3,a=>cases a;rw[<-j];exact ze8 V m w b c
 |4,a=>cases a;exact ze5 V m w b c (zmU d) p
 |5,a=>cases a;exact ze7 V m w b j (zhi d) (fun s b=>(zmU d s b).2) q
 |k+6,a=>simp[chk]at a
theorem zdK(V m w)(b:zK w V m)(a:maW m=0):
  Xp prog 64 #[Xi (mL V m).toArray] w fun e w'=>e=Xl (I6 0)/\zc w w':=by
 have g:Xo (∀W,zc w W->∀(k f:Nat),chk[k]?=Xa f->Xp prog f #[Xi (mL V m).toArray] W fun e w'=>e=Xl (I6 0)/\zc W w'):=dD<|fun W c k f d=>zrY V m W (b.aA c) a k f d;clear b a;obtain⟨d,a⟩:=kB ((w.alloc (Xk (mL V m).toArray 41)).alloc (Xk #[.func (.func 98) #[] #[],.func (.func 99) #[] #[],.func (.func 100) #[] #[],.func (.func 101) #[] #[],.func (.func 102) #[] #[],.func (.func 103) #[] #[]] 51));have b:=gD2 a;have j:=x2a a;have k:Xo (Box d (w.heap.size+1) (chk.map fnV)):=dD<|by rw[<-a];exact Box.aE _ (chk.map fnV) _ Sm
 have c:=dD a;clear a;go_enter func64,ntmps64;go_upto_region 2 with fail;rw[c.out];go_wp2;go_loopg[10] 6 (fun h c wr=>∃a:Nat,a<=6/\6-a<=h/\c=I6 a/\Xo (zc d wr))
 exact⟨0,nZ _,Wm,rfl,zc.refl _⟩;obtain⟨a,c,c,rfl,d⟩:=hrel;have i:=dD (b.trans d);by_cases b:a<6
 ·have c:(a:Int)<6:=Wm
  obtain⟨f,h⟩:∃f,Xo (chk[a]?=Xa f):=⟨_,gE (by simp[chk];exact b)⟩;have v:wr.cell? ⟨w.heap.size+1,a,Xb⟩=Xa (.func (.func f) #[] #[]):=(k.aA d).c a (by rw[Yl,h.out];rfl);have k:=zmc a f h.out;have b:=g.out wr i a f h.out;have g:=dD (j.aA d);obtain⟨h,j,l,n,p,q,r,s,t,u,f⟩:=g.aY;go_wp2_with fail;refine b.mono ?_;clear b h j l n p q r s t u f v;rintro b b⟨rfl,b⟩;have f:=dD (d.trans b);clear b k;go_wp2;go_roundg (6-(a+1));exact⟨a+1,Wm,Wm,Gn,f⟩;omega
 have c:¬(a:Int)<6:=Wm;go_wp2;go_ret;exact⟨rfl,i⟩
def zaX(m:Ma)(p:Int)(q:Nat)(s:Sp):Prop:=p=(q:Int)/\m.sp[q]?=Xa s/\s.aD=Xc
theorem zad(V m)(p:Int)(w)(u:zK w V m)(F:maW m=0):
  Xp prog 53 #[Xi (mL V m).toArray,I6 p] w fun e w'=>((e=Xl (I6 0)/\∃q s,zaX m p q s)\/(e=Xl (I6 5)/\∀q s,¬zaX m p q s))/\zc w w':=by
 obtain⟨W,c⟩:=kB (w.alloc (Xk (mL V m).toArray 41));have C:=gA c;have y:=xA c;have U:=dD u;have v:=dD c;clear c;have r:=zdK V m W (u.aA C) F;obtain⟨-,-,-,-,-,-,-,-,N⟩:=u.ns;have i:=dD N;clear u F N;go_enter func53,ntmps53;go_upto_region 1 with fail;rw[v.out];obtain⟨ae,T⟩:=kA w.heap.size;rw[T.out]at y⊢;obtain⟨a1,a2,a3,a4,a5,a6,a7,a8,a9,aa,a⟩:=y.aY;go_wp2_with fail;refine r.mono ?_;clear r a1 a2 a3 a4 a5 a6 a7 a8 a9 aa a;rintro e X⟨rfl,z⟩;have l:=dD (C.trans z);have Y:=dD (y.aA z);clear z;have a:=Y.c 10 rfl;obtain⟨S,b⟩:=kA V.sp.n;(try simp only[Sli.x]at a);rw[b.out]at a;by_cases M:p<0
 ·have g:Xo (∀q s,¬zaX m p q s):=dD<|fun q s h=>Hm h.1
  go_wp2;go_ret;exact⟨.inr ⟨rfl,g⟩,l⟩
 by_cases I:(S:Int)<=p
 ·have g:Xo (∀q s,¬zaX m p q s):=dD<|fun q s h=>by
   have:=h.1;have:=(gS.1 h.2.1).1;have:=b.out;have:=i.out;omega
  go_wp2;go_ret;exact⟨.inr ⟨rfl,g⟩,l⟩
 obtain⟨q,rfl⟩:∃q:Nat,p=(q:Int):=⟨p.toNat,Wm⟩;have a0:(q:Int)<(S:Int):=Wm;obtain⟨ab,P,Q,R⟩:=(U.aA l).sp;obtain⟨x,B⟩:∃x,ab[q]?=Xa x:=⟨_,gE (by rw[Q,<-i.out,b.out];omega)⟩;obtain⟨s,A⟩:∃s,m.sp[q]?=Xa s:=⟨_,gE (by rw[<-i.out,b.out];omega)⟩;have d:=(R q x s B A).aD;obtain⟨Z,af,j,f⟩:=P.sps;have K:V.sp.a=Z:=by
  simp only[vJ]at j;exact j.1
 obtain⟨ac,n,L⟩:=f q x B;have D:=dD A;obtain⟨E,-⟩:=jY.bO (L X (zc.refl _));(try simp only[Sli.x]at a);rw[K,n]at a;clear L f j K n P Q R B A;cases k:s.aD with
 |true=>
  rw[d,k]at E;have g:Xo (∃t s,zaX m (q:Int) t s):=dD<|⟨q,s,rfl,D,k⟩;clear k d;go_wp2;go_ret;exact⟨.inl ⟨rfl,g⟩,l⟩
 |false=>
  rw[d,k]at E;have g:Xo (∀t s,¬zaX m (q:Int) t s):=dD<|fun t ag h=>by
   have e:t=q:=Hm h.1;rw[e]at h;have G:=h.2.1;rw[D.out]at G;cases G;have H:=h.2.2;rw[k]at H;cases H
  clear k d;go_wp2;go_ret;exact⟨.inr ⟨rfl,g⟩,l⟩
section
variable{α:Type}{E:Elt α}
theorem zlb(m:List α):∀(l:List α)(a:Nat),a+m.length<=l.length->splice (l.flatMap E.enc) (a*E.k) (m.flatMap E.enc)=(l.take a++(m++l.drop (a+m.length))).flatMap E.enc:=fun l a h=>by
 have b:∀(l:List α)(j:Nat),j<=l.length->(l.flatMap E.enc).take (j*E.k)=(l.take j).flatMap E.enc/\(l.flatMap E.enc).drop (j*E.k)=(l.drop j).flatMap E.enc:=fun l j c=>by
  have d:l.flatMap E.enc=(l.take j).flatMap E.enc++(l.drop j).flatMap E.enc:=by rw[<-Xy,List.take_append_drop]
  have e:((l.take j).flatMap E.enc).length=j*E.k:=by rw[qF E,List.length_take,Nat.min_eq_left c]
  constructor;·grind
  grind
 unfold splice;rw[qF E m,<-Oc,(b l a Wm).1,(b l (a+m.length) h).2,Xy,Xy]
theorem zgl(z:TypeId)(base:Nat)(v:Xq)(l:List α)(d:zb E base w v l)(g:Nat)(t:v.ownBlock=Xa g)(a b h:Nat)(ad:Addr)(e k:Nat)
  (m:List α)(x:m.length=Nat.min e b)(j:jY w ad (m.flatMap E.enc))(c:a+m.length<=l.length):
  ∃w',(Builtin.copy_ #[E.st,E.st] z #[O (Xa ⟨g,a*E.k,Xb⟩) b h,O (Xa ad) e k]).run prog w=.ok (goInt m.length) w'/\zb E base w' v (l.take a++(m++l.drop (a+m.length)))/\w.grownBy w' (Xa g)/\w'.heap.size=w.heap.size:=by
 obtain⟨A,u,_,n,_⟩:=info_parts E.aF;have i:(m.flatMap E.enc).length=m.length*E.k:=qF E m;have f:a*E.k+(m.flatMap E.enc).length<=l.length*E.k:=by
  rw[i,<-Oc];exact Yg _ c
 obtain⟨w',y,p,r,s⟩:=Zk (P:=prog) d.1 t (a*E.k) (m.flatMap E.enc) f (qW E.one m);have q:=run_loadCells_list (P:=prog) w ad (m.flatMap E.enc) j;rw[i]at q;rw[zlb m l a c]at p;have hlen:(l.take a++(m++l.drop (a+m.length))).length=l.length:=by simp;omega
 refine⟨w',?_,⟨by rw[hlen];exact p,by rw[hlen];exact d.2⟩,r,s⟩;simp[Builtin.copy_,run_underlying E.bL,Builtin.lenOf,Builtin.firstCells,sizeOf,typeInfo,u,n,<-x,q,y]
theorem Qx(q:o.guard=Xb)(d s:Operand)(C:o.op=.call {callee:=.builtin .copy,args:=#[d,s],argTypes:=#[E.st,E.st]})
  (base:Nat)(v:Xq)(l:List α)(j:zb E base w v l)(g:Nat)(A:v.ownBlock=Xa g)(c b f:Nat)(r:Addr)(hd:a.eval d=O (Xa r) b f)(p:r=⟨g,c*E.k,Xb⟩)(ad:Addr)(e h:Nat)(D:a.eval s=O (Xa ad) e h)
  (m:List α)(B:m.length=Nat.min e b)(n:jY w ad (m.flatMap E.enc))(i:c+m.length<=l.length)
  (t:∀w',zb E base w' v (l.take c++(m++l.drop (c+m.length)))->w.grownBy w' (Xa g)->w'.heap.size=w.heap.size->wpList prog ops Q K (a.put o.dst (goInt m.length)) w'):wpList prog ops Q (o::K) a w:=by subst p;refine wpList_plain q fun rest z=>?_;obtain⟨w',k,u,x,y⟩:=zgl o.type base v l j g A c b f ad e h m B n i;unfold Oper.wp;simp[execOp,C,resolve,invoke,builtin,hd,D,k,Result.andThen];exact z _ _ (t w' u x y)
end
theorem zh2(v)(fs:List Int)(b:Int)(w)(x:zq blE w v fs):
  Xp prog 213 #[v,I6 b] w fun e w'=>(∃z:Int,e=Xl (I6 z)/\decide (0<=z)=fs.contains b)/\zc w w':=by
 have k:=x.short;obtain⟨K,M,rfl,d⟩:=x.aX;have C:=dD d;clear d x;obtain⟨n,s⟩:=kA fs.length;rw[s.out]at k⊢;obtain⟨i,c⟩:=kA (fs.contains b);rw[c.out];go_enter func213,ntmps213;go_wp2;go_loopg[5,8] n (fun D _ H wr=>∃a:Nat,a<=n/\n-a<=D/\H=I6 a/\Xo (zc w wr)/\Xo (∀(j:Nat)q,j<a->fs[j]?=Xa q->¬b=q))
 exact⟨0,nZ _,Wm,rfl,zc.refl w,fun j q l=>absurd l (nL _)⟩;obtain⟨a,F,P,rfl,p,A⟩:=hrel;by_cases f:a<n
 ·have m:=kC f
  obtain⟨q,t⟩:∃q,Xo (fs[a]?=Xa q):=⟨_,gE (Rx s.out f)⟩;obtain⟨L,rfl,y⟩:=C.out a q t.out;have N:=y wr p.out;clear y;by_cases h:b=q
  ·have u:(b==q)=Xc:=Si h
   have r:Xo (decide (0<=(a:Int))=i):=dD<|by
    rw[<-c.out,h,Ys.2 (mG t.out)];simp
   clear h;go_wp2;go_ret;exact⟨⟨_,rfl,r⟩,p⟩
  have u:(b==q)=Xd:=Si h;have B:Xo (∀(j:Nat)q,j<a+1->fs[j]?=Xa q->¬b=q):=dD<|fun j G l g=>by
   by_cases e:j=a;·subst e;rw[t.out]at g;cases g;exact h
   exact A j G Wm g
  clear h;go_wp2;go_roundg (n-(a+1));exact⟨a+1,Wm,Wm,Gn,p,B⟩;omega
 have m:=kD f;have:a=n:=Wm;subst this;have r:Xo (decide (0<=(-1:Int))=i):=dD<|by
  have:fs.contains b=Xd:=by
   cases E:fs.contains b with
   |false=>rfl
   |true=>
    obtain⟨j,l⟩:=Yu (Ys.1 E);exact absurd rfl (A j b (by rw[<-s.out];exact(gS.1 l).1) l)
  rw[<-c.out,this];rfl
 go_wp2;go_ret;exact⟨⟨_,rfl,r⟩,p⟩
theorem zeP(v)(fs:List Int)(b:Int)(w)(c:zq blE w v fs):
  Xp prog 211 #[v,I6 b] w fun e w'=>e=Xl (Xh (fs.contains b))/\zc w w':=by have a:=zh2 v fs b w c;obtain⟨d,d,rfl,_⟩:=c.aX;clear c;generalize fs.contains b=c at a⊢;generalize fs.length=n at a⊢;go_enter func211,ntmps211;go_wp2_with fail;refine a.mono ?_;rintro e c⟨⟨z,rfl,d⟩,c⟩;have f:=dD c;clear c a;have a:=dD d;clear d;go_wp2;go_ret;exact⟨by rw[<-a.out];rfl,f⟩
theorem zqQ(f:Fl)(g)(h:Nat)(b:Int)(p:Nat)(w)(hb:Box w p [I6 b])(n:zq blE w (O g f.bl.length h) f.bl):
  Xp prog 210 #[Xi #[I6 f.size,O g f.bl.length h],Xj (Xa ⟨p,0,Xb⟩)] w fun e w'=>e=Xl (Xh (f.bl.contains b))/\zc w w':=by have j:∀W,zc w W->Xp prog 211 #[O g f.bl.length h,I6 b] W fun e w'=>e=Xl (Xh (f.bl.contains b))/\zc W w':=fun W c=>zeP _ f.bl b W (n.aA c);have k:=hb.lt;have c:p≠w.heap.size:=Wm;have c:w.heap.size≠p:=Wm;obtain⟨c,c⟩:=kB (w.alloc (Xk #[I6 f.size,O g f.bl.length h] 84));have d:=gA c;have l:=(hb.aA d).c 0 rfl;have m:(w.alloc (Xk #[I6 f.size,O g f.bl.length h] 84)).cell? ⟨p,0,Xb⟩=Xa (I6 b):=Rx c l;have i:=dD c;clear c n hb;generalize f.bl.contains b=c at j⊢;generalize f.bl.length=n at*;generalize f.size=q at*;have c:=World.cell?_of_block (w:=w) (w':=w.alloc (Xk #[I6 q,O g n h] 84)) (a:=⟨p,0,Xb⟩) (Below.heap_alloc _ _ _ k);rw[m]at c;have g:=c.symm;clear l m c;go_enter func210,ntmps210;go_wp2_with fail;rw[i.out];refine(j _ d).mono ?_;rintro e c⟨rfl,c⟩;have g:=dD (d.trans c);clear c j;go_wp2;go_ret;exact⟨rfl,g⟩
theorem zgK(v fs)(b:Int)(p:Nat)(w)(hb:Box w p [I6 b])(d:qH w v fs):
  Xp prog 214 #[v,.func (.func 210) #[] #[Xj (Xa ⟨p,0,Xb⟩)]] w fun e w'=>(∃z:Int,e=Xl (I6 z)/\decide (0<=z)=z4 fs b)/\zc w w':=by
 obtain⟨a,c,rfl,c,a⟩:=d.rows;have s:=dD a;have l:=dD hb;have f:=enters_of func210 Kr rfl;clear a d hb;obtain⟨n,u⟩:=kA fs.length;rw[u.out]at c⊢;obtain⟨k,d⟩:=kA (z4 fs b);rw[d.out];go_enter func214,ntmps214;go_wp2;go_loopg[5,8] n (fun a _ f wr=>∃c:Nat,c<=n/\n-c<=a/\f=I6 c/\Xo (zc w wr)/\Xo (∀(j:Nat)(q:Fl),j<c->fs[j]?=Xa q->q.bl.contains b=Xd))
 exact⟨0,nZ _,Wm,rfl,zc.refl w,fun j q m=>absurd m (nL _)⟩;obtain⟨c,a,a,rfl,h,A⟩:=hrel;by_cases f:c<n
 ·have r:=kC f
  obtain⟨q,x⟩:∃q,Xo (fs[c]?=Xa q):=⟨_,gE (Rx u.out f)⟩;obtain⟨a,rfl,t,y,g,i⟩:=s.out c q x.out;obtain⟨a,a⟩:=i wr h.out;have a:=zqQ q t y b p wr (l.aA h) (g.aA h);clear i g;cases i:q.bl.contains b with
  |true=>
   rw[i]at a;have t:Xo (decide (0<=(c:Int))=k):=dD<|by
    rw[<-d.out];unfold z4;rw[zrl x.out i];simp
   clear i;go_wp2_with fail;refine a.mono ?_;rintro e B⟨rfl,l⟩;have s:=dD (h.trans l);clear l a;go_wp2;go_ret;exact⟨⟨_,rfl,t⟩,s⟩
  |false=>
   rw[i]at a;have y:Xo (∀(j:Nat)(q:Fl),j<c+1->fs[j]?=Xa q->q.bl.contains b=Xd):=dD<|fun j C m g=>by
    by_cases e:j=c;·subst e;rw[x.out]at g;cases g;exact i
    exact A j C Wm g
   clear i;go_wp2_with fail;refine a.mono ?_;rintro e B⟨rfl,l⟩;have s:=dD (h.trans l);clear l a;go_wp2;go_roundg (n-(c+1));exact⟨c+1,Wm,Wm,Gn,s,y⟩;omega
 have r:=kD f;have:c=n:=Wm;subst this;have t:Xo (decide (0<=(-1:Int))=k):=dD<|by
  rw[<-d.out];unfold z4;rw[zrk (fun j q m=>A.out j q (by rw[<-u.out];exact(gS.1 m).1) m)];rfl
 go_wp2;go_ret;exact⟨⟨_,rfl,t⟩,h⟩
theorem zdo(v fs)(b:Int)(p:Nat)(w)(hb:Box w p [I6 b])(c:qH w v fs):
  Xp prog 212 #[v,.func (.func 210) #[] #[Xj (Xa ⟨p,0,Xb⟩)]] w fun e w'=>e=Xl (Xh (z4 fs b))/\zc w w':=by have a:=zgK v fs b p w hb c;obtain⟨d,d,rfl,_⟩:=c.rows;clear c hb;generalize z4 fs b=c at a⊢;generalize fs.length=n at a⊢;go_enter func212,ntmps212;go_wp2_with fail;refine a.mono ?_;rintro e c⟨⟨z,rfl,d⟩,c⟩;have f:=dD c;clear c a;have a:=dD d;clear d;go_wp2;go_ret;exact⟨by rw[<-a.out];rfl,f⟩
def Zx(fs:List Fl)(k:Nat):List Int:=((Yz k).filter fun(b:Nat)=>!z4 fs (b:Int)).map fun(b:Nat)=>(b:Int)
theorem zjs(fs)(k:Nat):Zx fs (k+1)=if z4 fs (k:Int)=Xc then Zx fs k else Zx fs k++[(k:Int)]:=by
 unfold Zx;rw[List.range_succ,List.filter_append];cases h:z4 fs (k:Int)with
 |true=>simp[h]
 |false=>simp[h]
theorem zlA(fs)(n:Nat):Zx fs n=(Q1 fs (n:Int)).map fun(b:Nat)=>(b:Int):=by unfold Zx Q1;rw[tN]
theorem zlz(fs)(k:Nat):(Zx fs k).length<=k:=by unfold Zx;rw[Yq];exact nT (Yr _ _) Sm
theorem zks(v fs)(m:Nat)(a:m<=80)(w:Xn)(c:qH w v fs):
  Xp prog 209 #[Xi #[v,I6 (m:Int)]] w fun e w'=>∃b,e=Xl b/\zb blE (w.heap.size+1) w' b (Zx fs m)/\zc w w':=by
 have f:=dD c;obtain⟨d,g,rfl,a,_⟩:=c.rows;clear c;obtain⟨n,c⟩:=kA fs.length;rw[c.out]at a f⊢;have a:∀(c:Fn)(first a:Array Xq)(w:Xn),(Instr.makeFunc c first a).run prog w=.ok (.func c first a) w:=fun _ _ _ _=>rfl;obtain⟨B,a⟩:=kB (w.alloc (Xk #[O d n g,I6 (m:Int)] 37));have j:=gA a;have s:=xA a;have k:=sA a;have c:=dD a;clear a;go_enter func209,ntmps209;go_wp2;rw[c.out];go_loopg[3,4,5,8] m (fun a d _ _ g wr=>∃(c:Nat)(p:Option Addr)(q:Nat),c<=m/\m-c<=a/\g=I6 c/\d=.slice p (Zx fs c).length q/\Xo (zc B wr)/\Xo (zb blE (w.heap.size+1) wr (.slice p (Zx fs c).length q) (Zx fs c)))
 exact⟨0,Xb,0,nZ _,Wm,rfl,rfl,zc.refl _,zb.nil _ _ _⟩;obtain⟨c,p,q,a,a,rfl,rfl,h,A⟩:=hrel;by_cases l:c<m
 ·have n:=kC l
  obtain⟨g,d⟩:=kB (wr.alloc (Xk #[I6 (c:Int)] 3));have i:=gA d;have r:=xA d;have a:=zdo _ fs (c:Int) wr.heap.size g r (f.aA ((j.trans h).trans i));have z:=dD (A.aA i);have g:=dD d;have f:=zjs fs c;have F:=dD<|zlz fs c;clear d;go_upto_region 5 with fail;rw[g.out];have C:=(s.aA (h.trans i)).c 0 rfl;have D:=(s.aA (h.trans i)).c 1 rfl;have g:=dD r.lt;obtain⟨d,d⟩:=kB wr.heap.size;rw[d]at a r g⊢;clear d;cases x:z4 fs (c:Int)with
  |true=>
   rw[x]at a f;rw[kE rfl]at f;have d:=dD f;clear f x;go_wp2_with fail;refine a.mono ?_;rintro e u⟨rfl,g⟩;have s:=dD ((h.trans i).trans g);have t:Xo (zb blE (w.heap.size+1) u (.slice p (Zx fs (c+1)).length q) (Zx fs (c+1))):=show zb _ _ _ _ _ by rw[d.out];exact z.aA g
   have y:Xo ((Zx fs (c+1)).length=(Zx fs c).length):=dD (by rw[d.out]);rw[<-y.out];clear g a C D;go_wp2;go_roundg (m-(c+1));exact⟨c+1,p,q,Wm,Wm,Gn,rfl,s,t⟩;omega
  |false=>
   rw[x]at a f;rw[kF Dc]at f;have d:=dD f;clear f x;go_wp2_with fail;refine a.mono ?_;rintro e u⟨rfl,g⟩;have s:=dD ((h.trans i).trans g);have t:=dD (z.aA g);have f:=(r.aA g).c 0 rfl;clear g a C D;have a:Xo (w.heap.size+1<=u.heap.size):=show _<=_ by
    have:=bS s.out;rw[k.out]at this;exact this
   go_wp2_with(at_builtin;refine zw (E:=blE) rfl (.tmp 17) (.tmp 19) rfl (w.heap.size+1) _ (Zx fs c) rfl (t.aA (za _ _)) _ [(c:Int)] rfl (Zp blE u (c:Int) _ _ rfl (by show 8<=_;omega)) ?qb ?qc ?_)
   case qb=>
    have:=F.out;show(_+1)*8<=_;omega
   case qc=>simp;have:=a.out;omega
   intro a p a f;obtain⟨g,i,rfl⟩:=a.form;have r:Xo (zb blE (w.heap.size+1) p (.slice g (Zx fs (c+1)).length i) (Zx fs (c+1))):=dD<|Rx d.out a
   have q:Xo (zc B p):=dD<|z2 (s.trans (za _ _)) f (fun p u=>by
    have s:=(t.lt p u).1;rw[k.out];exact s)
   rw[<-d.out];clear a f;go_wp2;go_roundg (m-(c+1));exact⟨c+1,g,i,Wm,Wm,Gn,rfl,q,r⟩;omega
 have n:=kD l;have:c=m:=Wm;subst this;have a:=dD (j.trans h);go_wp2;go_ret;exact⟨_,rfl,A,a⟩
def zoD(fs:List Fl)(cnt k:Int):Int:=if stW fs cnt=0 then(if inL fs.length k=Xc then 0 else 5)else stW fs cnt
theorem zha(v fs)(a k:Int)(w)(m:qH w v fs):
  Xp prog 208 #[Xi #[v,I6 a],I6 k] w fun e w'=>e=Xl (I6 (zoD fs a k))/\zc w w':=by
 have i:∀W,zc w W->Xp prog 128 #[Xi #[v,I6 a]] W fun e w'=>e=Xl (I6 (stW fs a))/\zc W w':=fun W t=>zdI v fs a W (m.aA t);obtain⟨r,s,rfl,q,_⟩:=m.rows;clear m;have d:Xo (zoD fs a k=if stW fs a=0 then(if inL fs.length k=Xc then 0 else 5)else stW fs a):=rfl;have c:∀W,Xp prog 155 #[I6 k,I6 (fs.length:Int)] W fun e w'=>e=Xl (Xh (inL fs.length k))/\w'=W:=fun W=>zeV k _ W;generalize zoD fs a k=Z at d⊢;generalize inL fs.length k=B at d c;generalize stW fs a=S at d i;generalize fs.length=x at*;obtain⟨z,g⟩:=kB (w.alloc (Xk #[O r x s,I6 a] 37));have b:=gA g;have p:=xA g;have h:=dD g;clear g;by_cases l:S=0
 ·rw[kE l]at d;subst l;cases B with
  |true=>
   rw[kE rfl]at d;go_enter func208,ntmps208;go_wp2_with fail;rw[h.out];refine(i _ b).mono ?_;rintro e n⟨rfl,f⟩;have j:=dD (b.trans f);have y:=(p.aA f).c 0 rfl;clear f i;go_wp2_with(go_at_call 155;refine(c _).mono ?_;rintro e w'⟨rfl,rfl⟩)
   go_ret;exact⟨Rr d.out,j⟩
  |false=>
   rw[kF Dc]at d;go_enter func208,ntmps208;go_wp2_with fail;rw[h.out];refine(i _ b).mono ?_;rintro e n⟨rfl,f⟩;have j:=dD (b.trans f);have y:=(p.aA f).c 0 rfl;clear f i;go_wp2_with(go_at_call 155;refine(c _).mono ?_;rintro e w'⟨rfl,rfl⟩)
   go_ret;exact⟨Rr d.out,j⟩
 rw[kF l]at d;have u:(S !=0)=Xc:=Si l;go_enter func208,ntmps208;go_wp2_with fail;rw[h.out];refine(i _ b).mono ?_;rintro e n⟨rfl,f⟩;have j:=dD (b.trans f);clear f i;go_wp2;go_ret;exact⟨Rr d.out,j⟩
def zsf(f s b:Int):Prop:=(0<=f/\f<=40)/\(0<=s/\s<=60)/\(0<=b/\b<=80)
def zqF(f s b:Int):Ma:=⟨Xr f.toNat frF,0,Xr s.toNat 0,Xr s.toNat zt,[],Xr b.toNat zt,[],[],b,[],[⟨Xc,[],qG⟩]⟩
theorem zF{e:Func}{p u c:Tmp}(h:e.results=#[.cell p t,.tmp u,.tmp c])(a:Array Xq)(hp:a.getD p undef=Xj (Xa ⟨b,0,Xb⟩))(hb:Box w b vs){d:TypeDesc}(f:Tryz.prog.underlying t=Xa d)(hd:d.isRow=Xc)(hi:(Tryz.prog.info? t).map (·.size)=Xa vs.length):
  (results e a).run prog w=.ok (Xm #[Xi vs.toArray,a.getD u undef,a.getD c undef]) w:=by have e:a[p]?.getD undef=Xj (Xa ⟨b,0,Xb⟩):=Si hp;have a:=run_loadVar_mid (P:=prog) w b 0 t vs d hb.range f hd hi;simp[results,h,e,asAddr,a]
theorem zn3(h:(k:Int)<=z\/k=0):QF L 0 z k=L:=by unfold QF;apply Yd;grind
theorem zn4(l)(idx a:Int):Z8 l 0 (a-idx*8)=Z8 l idx a:=by grind[Z8]
theorem zea(l:List Int)(n:Int)(w)(f:l.length=8)(a:-9223372036854775808<=n)(b:n<=9223372036854775807):
  Xp prog 162 #[Xi (pgc l).toArray,I6 n] w fun e w'=>e=Xl (Xi (pgc (Z8 l 0 n)).toArray)/\(Z8 l 0 n).length=8/\zc w w':=by
 have h:=dD f;have a:Xo ((Z8 l 0 n).length=8):=show _=_ by unfold Z8;simp[f]
 obtain⟨c,b⟩:=kB ((w.alloc (Xk (pgc l).toArray 44)).alloc (Xk #[U8 0,U8 0,U8 0,U8 0,U8 0,U8 0,U8 0,U8 0] 44));have g:=gD2 b;have i:=x2a b;have p:Xo (Box c (w.heap.size+1) (pgc zt)):=dD<|by rw[<-b];exact Box.aE _ (pgc zt) _ Sm
 have d:=dD b;have m:Xo (Box c w.heap.size (pgc (QF l 0 n n.toNat))):=show Box _ _ _ by rw[zn3 Wm];exact i.out
 obtain⟨j,c⟩:=kA (Z8 l 0 n);rw[c.out]at a⊢;clear b f;go_enter func162,ntmps162;go_upto_region 1 with fail;rw[d.out];go_wp2;all_goals
  go_loopg[5] 8 (fun b d wr=>∃k:Nat,n<=(k:Int)/\(k:Int)<=9223372036854775807/\8-k<=b/\d=I6 k/\Xo (zc w wr)/\Xo (Box wr w.heap.size (pgc (QF l 0 n k)))/\Xo (Box wr (w.heap.size+1) (pgc zt)))
  case atStart=>
   exact⟨n.toNat,Wm,Wm,Wm,(by first|rw[Int.toNat_eq_max]|(congr 1;omega)|(congr 1;rw[Int.max_def];split<;>omega)|(congr 1;split<;>omega)),g,m,p⟩
  obtain⟨k,b,b,b,rfl,m,d,p⟩:=hrel;by_cases f:k<8
  ·have g:(k:Int)<8:=Wm
   obtain⟨z,b⟩:∃z,(QF l 0 n k)[k]?=Xa z:=⟨_,gE (by rw[zip,h.out];exact f)⟩;have s:=d.c k (zhC b);have t:=d.f;clear b;go_wp2;obtain⟨i,b⟩:=kB (wr.setCell ⟨w.heap.size,k,Xb⟩ (U8 0));have q:Xo (Box i w.heap.size (pgc (QF l 0 n (k+1)))):=dD (by rw[<-b,<-ziq (Rx h.out f) Wm,zd9];exact d.set k _);have r:Xo (Box i (w.heap.size+1) (pgc zt)):=dD (by rw[<-b];exact p.other Sm _);have f:Xo (zc w i):=dD (by rw[<-b];exact zB m Sm _);rw[b];clear b s t;go_roundg (8-(k+1));exact⟨k+1,Wm,Wm,Wm,Gn,f,q,r⟩;omega
  have g:¬(k:Int)<8:=Wm;have b:Xo (QF l 0 n k=j):=dD (by rw[zir (by rw[h.out];omega),c.out]);rw[b.out]at d;go_wp2_with(first|refine zE rfl 44 (.tmp 2) rfl w.heap.size rfl d underlying44 rfl (by rw[Z3,a.out];exact zsZ) ?_|refine zn rfl 44 (.tmp 4) (.tmp 14) rfl (w.heap.size+1) rfl (pgc j) rfl p (by rw[Z3,a.out];rfl) zsZ (qM _) ?_)
  intro f c d _;have b:Xo (zc w f):=dD<|zd m d Wm;go_wp2;refine bodyPost_ret (z8 rfl _ rfl c underlying44 rfl (by rw[Z3,a.out];exact zsZ)) rfl ⟨rfl,a,b⟩
theorem zO.bH(d p x)(f:o.op=.store d p x)(b:Nat)(hp:a.eval p=Xj (Xa ⟨b,0,Xb⟩))(vs:List Xq)(i:a.eval x=Xi vs.toArray)
  {t:TypeId}{cs:List Xq}(hb:zm w b t cs)(c:vs.length=cs.length)(hi:(Tryz.prog.info? d).map (·.size)=Xa cs.length)(e:∀v∈vs,v.oneCell'=Xc)
  (h:∀w',zm w' b t vs->w.grownBy w' (Xa b)->w'.heap.size=w.heap.size->N undef w'):zO prog o a w N:=by
 unfold zO;have g:(execOp a.eval o).run prog w=.ok .skip (w.setCells b 0 vs):=by
  have:=run_storeAt_mid (P:=prog) w b 0 d vs.toArray (by simpa[c]using hb.box.there) (by simpa[c]using hi) (all_oneCell_toArray e);simp only[execOp,f,hp,i,Xs,this,rA,Xx]
 rw[g];have hp:=hb.part (ds:=vs) (o:=0) Wm;rw[zaZ c]at hp;exact h _ hp (zW b vs 0 w).1 (zW b vs 0 w).2
theorem zeK(a:∀p∈m.db,p.length=8)(b:∀q∈m.dq,q.2.length=8)(file idx:Int):(Qr m file idx).length=8:=by
 unfold Qr;split;·rfl
 grind[Z8,zfA]
theorem zpL{f:Fl}(d:m.fl[fi]?=Xa f)(b:f.bl[ix]?=Xa z):Qr m fi ix=if z<0 then zt else Z8 (qU m.db m.dq z) ix f.size:=by
 have c:m.fl.getD ((fi:Int).toNat) ⟨0,[]⟩=f:=by rw[tN,gD,d];rfl
 have d:zg2 m fi ix=z:=by unfold zg2;rw[c,tN,gD,b];rfl
 have z:JC m fi=f.size:=by unfold JC;rw[c]
 unfold Qr;rw[d,z]
theorem zqS{f:Fl}(b:M[fi]?=Xa f)(a:f.bl[ix]?=Xa z):zpo M fi ix=Xc:=by
 have z:=(gS.1 b).1;have z:=(gS.1 a).1;have a:M.getD ((fi:Int).toNat) ⟨0,[]⟩=f:=by rw[tN,gD,b];rfl
 unfold zpo;rw[a,Jc.2 ⟨Wm,Wm⟩,Jc.2 ⟨Wm,Wm⟩];rfl
theorem zdU(V)(m:Ma)(fi ix:Nat)(f:Fl)(d:Int)(w)(g:zK w V m)(x:m.fl[fi]?=Xa f)(b:f.bl[ix]?=Xa d)(a:ix<=1000)(H:0<=f.size/\f.size<=1000):
  Xp prog 138 #[Xi (mL V m).toArray,I6 (fi:Int),I6 (ix:Int)] w fun e w'=>e=Xl (Xi (pgc (Qr m fi ix)).toArray)/\(Qr m fi ix).length=8/\zc w w':=by
 have l:=dD<|fun W(a:zc w W)=>zkl _ m.db m.dq d W ⟨_,_,rfl,(g.aA a).db,(g.aA a).dq⟩;have r:Xo (∀W,zc w W->Xp prog 108 #[Xi #[V.fl.x,I6 m.cnt],I6 (fi:Int),I6 (ix:Int)] W fun e w'=>e=Xl (Xh Xc)/\zc W w'):=dD<|fun W a=>by
  have:=zbF (V.fl.x) m.fl m.cnt fi ix W (g.aA a).fl;rw[zqS x b]at this;exact this
 have u:Xo ((qU m.db m.dq d).length=8):=zfA g.db.2.1 g.dq.2.1;have j:Xo ((Qr m fi ix).length=8):=zeK g.db.2.1 g.dq.2.1 _ _;have a:=dD<|zpL x b;obtain⟨a6,c⟩:=kA (Qr m fi ix);rw[c.out]at a j⊢;obtain⟨⟨X,Z,Y⟩,a0,L,N,S,T,⟨h,k,F⟩,⟨C,E,D⟩,M⟩:=V;dsimp only[mL]at l r⊢;obtain⟨-,-,-,-,-,-,K,-,-⟩:=g.ns;dsimp only at K;obtain⟨_,_,q,_,z⟩:=qH.rows g.fl;have c:Xo (zbs w h m.fl):=show zbs _ _ _ by
  simp only[vJ]at q;rw[q.1];exact z
 have h:fi<k:=by rw[K];exact(gS.1 x).1
 obtain⟨R,rfl,P,U,t,y⟩:=c.out fi f x;have i:=dD y;obtain⟨_,_,p,s⟩:=t.aX;have G:=(gS.1 b).1;obtain⟨n,h,c⟩:=s ix d b;have B:Xo (P=Xa n/\∀W,zc w W->W.cell? (n.add ix)=Xa (I6 d)):=dD<|⟨by simp only[vJ]at p;rw[p.1];exact h,c⟩;obtain⟨Q,A⟩:=kA f.bl.length;rw[A.out]at G i;clear g K q z x b y t p s h c;obtain⟨a5,b⟩:=kA f.size;rw[b.out]at i a H;have b:(fi:Int)<(k:Int):=Wm;have b:(ix:Int)<(Q:Int):=Wm;obtain⟨s,b⟩:=kB ((w.alloc (Xk #[O X Z Y,I6 m.aB,a0.x,L.x,N.x,S.x,T.x,O (Xa R) k F,I6 m.cnt,O C E D,M.x] 41)).alloc (Xk #[U8 0,U8 0,U8 0,U8 0,U8 0,U8 0,U8 0,U8 0] 44));have q:=gD2 b;have h:=x2a b;have t:Xo (Box s (w.heap.size+1) (pgc zt)):=dD<|by rw[<-b];exact Box.aE _ (pgc zt) _ Sm
 have g:=dD b;clear b;go_enter func138,ntmps138;go_upto_region 1 with fail;rw[g.out];have p:=h.c 7 rfl;have g:=h.c 8 rfl;have b:=r.out s q.out;go_wp2_with fail;refine b.mono ?_;clear b p g;rintro W k⟨rfl,b⟩;have r:=dD (q.trans b);have q:=dD (h.aA b);have s:=dD (t.aA b);clear b;have p:=q.c 7 rfl;obtain⟨t,y⟩:=i.out k r.out;go_upto_region 4 with fail;obtain⟨b,g⟩:=kA k.heap.size;refine nW fun h b=>?_;have i:=gP b;have X:=xP b g;have A:=dD (r.trans i);have x:=dD (q.aA i);have a2:=dD (s.aA i);rw[g.out];clear b i t y p;obtain⟨b,c⟩:=B.out;subst b;have b:=dD c;clear c;have p:=X.c 1 rfl;have i:=b.out h A.out;by_cases c:d<0
 ·rw[kE c]at a
  go_wp2_with(refine zn rfl 44 (.tmp 6) (.tmp 29) rfl (w.heap.size+1) rfl (pgc zt) rfl a2 rfl zsZ (qM _) ?_)
  intro Y s t _;have k:Xo (zc w Y):=dD<|zd A t Wm;go_wp2;refine bodyPost_ret (z8 rfl _ rfl s underlying44 rfl zsZ) rfl ⟨by rw[a.out],Rr a.out,k⟩
 rw[kF c]at a;have g:decide (d<0)=Xd:=decide_eq_false c;go_upto_region 6 with fail;clear p i c g;obtain⟨p,c⟩:=kA (qU m.db m.dq d);rw[c.out]at a u l;obtain⟨H,K,L,M,N,P,Q,R,rfl⟩:=zc2 p u.out;obtain⟨g,c⟩:=Ww fun u=>zc h u;have r:=(c _).2 (gW _);have F:=x.h c 5 rfl;have G:=x.h c 6 rfl;have D:=X.h c 1 rfl;have C:∀y:zh g,y.world.cell? (n.add ix)=Xa (I6 d):=fun y=>b.out _ (A.trans ((c _).1 y.holds));have a0:Nonempty (zh g):=⟨⟨_,r⟩⟩;refine zar (I:=g) 14 [(7,⟨.const (Xh Xd),fun b=>b=Xm #[Xi #[U8 H,U8 K,U8 L,U8 M,U8 N,U8 P,U8 Q,U8 R],I6 (zp m.db.length m.dq d)],fun _ _ _=>True,fun p q=>zc p q,fun _=>True⟩),(11,⟨.const (Xh Xd),fun b=>∃g,b=Xj (Xa ⟨g,0,Xb⟩),fun _ b u=>∃g x,b=Xj (Xa ⟨g,0,Xb⟩)/\h.heap.size<=g/\zm u g 44 x/\x.length=8,fun p q=>zc p q,fun _=>True⟩),(12,⟨.tmp 8,fun _=>True,fun W _ u=>∃g,W=Xj (Xa ⟨g,0,Xb⟩)/\h.heap.size<=g/\Box u g (pgc [H,K,L,M,N,P,Q,R]),fun p q=>∃g,h.heap.size<=g/\p.grownBy q (Xa g)/\zm q g 44 (pgc [H,K,L,M,N,P,Q,R]),fun _=>True⟩)] r zY Kr Kr rfl rfl Dc (Sc ⟨_,rfl⟩ ⟨_,0,rfl⟩ ⟨Xh Xc,trivial⟩) ?hp ?hpre ?hpr0 ?_;case hp=>
  intro a1 aa a7 a4 u U n h W b p q i E;have h:=zC u;have b:=zC U;clear u U;simp only[mC,pJ,nM,or_false]at h b;rcases h with⟨rfl,rfl⟩|⟨rfl,rfl⟩|⟨rfl,rfl⟩;·trivial
  ·obtain⟨g,x,y,z,B,a3⟩:=E
   rcases b with⟨rfl,rfl⟩|⟨rfl,rfl⟩|⟨rfl,rfl⟩;·exact⟨g,x,y,z,B.aA i,a3⟩
   ·exact absurd rfl n
   obtain⟨Z,a8,a8,a9⟩:=i;by_cases e:g=Z;·subst e;exact⟨g,_,y,z,a9,rfl⟩
   exact⟨g,x,y,z,B.beside a8 (fun a1 u=>by cases u;exact e),a3⟩
  obtain⟨g,y,z,B⟩:=E;rcases b with⟨rfl,rfl⟩|⟨rfl,rfl⟩|⟨rfl,rfl⟩;·exact⟨g,y,z,B.aA i⟩
  ·exact⟨g,y,z,B.aA i⟩
  exact absurd rfl n
 case hpre=>
  intro a7 a4 a1 aa U u n p q i i;have b:=zC U;simp only[mC,pJ,nM,or_false]at b;rcases b with⟨rfl,rfl⟩|⟨rfl,rfl⟩|⟨rfl,rfl⟩<;>trivial
 case hpr0=>
  intro a1 a4 u;have h:=zC u;simp only[mC,pJ,nM,or_false]at h;rcases h with⟨rfl,rfl⟩|⟨rfl,rfl⟩|⟨rfl,rfl⟩<;>trivial
 simp only[Xv,Xw];iterate 7 refine Qe ?_
 refine Zr rfl rfl (fun w' b i n=>?_) (fun q h=>?_);·refine zO.call [Xi #[S.x,T.x],I6 d] rfl func106 rfl rfl rfl ?_;refine(l w' (A.trans ((c _).1 b))).mono ?_;rintro e p⟨rfl,d⟩;exact⟨_,rfl,(c _).2 (((c _).1 b).trans d),d,rfl,trivial⟩
 subst h;refine Uq ?_;iterate 3 refine Qe ?_
 refine Zr rfl rfl (fun w' b i n=>?_) (fun q h=>?_);·refine zO.step (v:=Xj (Xa ⟨w'.heap.size,0,Xb⟩)) (w':=w'.alloc (Xk #[U8 0,U8 0,U8 0,U8 0,U8 0,U8 0,U8 0,U8 0] 44)) (by clear F G D C;simp only[execOp];go_simp) ⟨(c _).2 (((c _).1 b).trans (za _ _)),za _ _,⟨_,rfl⟩,_,_,rfl,bS ((c _).1 b),zm.aE _ (pgc zt) _ rfl,rfl⟩
 obtain⟨l,rfl⟩:=h;refine Uq ?_;refine Zr rfl rfl (fun w' b i n=>?_) (fun q h=>?_)
 ·obtain⟨g,x,g,d,h,i⟩:=n 11 Kr
  simp only[Value.pointer.injEq,Option.some.injEq,Addr.mk.injEq,and_true]at g;subst g;refine zO.bH 44 (.tmp 8) (.tmp 39) rfl l rfl (pgc [H,K,L,M,N,P,Q,R]) rfl h (Rr i) (Rx i zsZ) (qM _) fun p i p q=>?_;exact⟨(c _).2 (zd ((c _).1 b) p d),⟨l,d,p,i⟩,trivial,l,rfl,d,i.box⟩
 simp only[Yc];refine Qe ?_;refine zcc fun u i n=>?_;obtain⟨Z,g,h,d⟩:=n 12;have b:(Value.pointer (Xa ⟨l,0,Xb⟩):Xq)=Xj (Xa ⟨Z,0,Xb⟩):=g;simp only[Value.pointer.injEq,Option.some.injEq,Addr.mk.injEq,and_true]at b;subst b;have b:=(c _).1 i;have p:=dD (A.trans b);have c:=dD (X.aA b);have x:=dD (a2.aA b);have q:=dD d;clear n i r a0 F G D C b g d h;have hcut:=zea [H,K,L,M,N,P,Q,R] (a5-(ix:Int)*8) u rfl Wm Wm;rw[zn4]at hcut;rw[<-a.out]at hcut;have a:=c.c 0 rfl;go_wp2_with(refine zE rfl 44 (.tmp 8) rfl l rfl q underlying44 rfl zsZ ?_)
 refine hcut.mono ?_;clear hcut a;rintro W a⟨rfl,-,a⟩;have c:=dD (x.aA a);have b:=dD (p.trans a);clear a;go_wp2_with(refine zn rfl 44 (.tmp 6) (.tmp 47) rfl (w.heap.size+1) rfl (pgc a6) rfl c (by rw[Z3,j.out];rfl) zsZ (qM _) ?_)
 intro Y s t _;have k:Xo (zc w Y):=dD<|zd b t Wm;go_wp2;refine bodyPost_ret (z8 rfl _ rfl s underlying44 rfl (by rw[Z3,j.out];exact zsZ)) rfl ⟨rfl,j,k⟩
def Z5(m:Ma)(k:Nat)(s:Sp):Ma:={m with sp:=zbd m.sp k ⟨Xc,s.aC,qG⟩}
def QU(m:Ma)(k q:Nat)(l:List Int):Ma:=l.foldl (fun m n=>JE m k q n) m
theorem zi7(m:Ma)(k q:Nat)(l:List Int)(n:Int):QU m k q (l++[n])=JE (QU m k q l) k q n:=by simp[QU]
theorem zle(m:Ma)(k q:Nat)(n:Int):(JE m k q n).sp.length=m.sp.length:=by unfold JE;rw[za9,za9,zcg]
theorem zcz(m:Ma)(k q:Nat):∀(l:List Int),(QU m k q l).sp.length=m.sp.length:=by
 intro l;unfold QU;induction l generalizing m with
 |nil=>rfl
 |cons n l a=>rw[List.foldl_cons,a,zle]
def zaN(m:Ma)(k q:Nat)(s:Sp):Ma:=QU (Z5 m k s) k q (qB s.tb Qt 64)
def zqi(m:Ma)(p:Int)(e:Ending)(w':Xn):Prop:=
 ((∀q s,¬zaX m p q s)/\e=Xl (Xm #[Xi qA.toArray,Xe Xf 0,Xe Xf 5]))\/
 ∃q s k,zaX m p q s/\Vac m.sp k/\((k=4/\e=Xl (Xm #[Xi qA.toArray,Xe Xf 0,Xe Xf 4]))\/(k<4/\∃V':MaV,e=Xl (Xm #[Xi #[O V'.f.a V'.f.n V'.f.c,Xe Xf (zaN m k q s).aB,O V'.s.a V'.s.n V'.s.c,O V'.sb.a V'.sb.n V'.sb.c,O V'.sq.a V'.sq.n V'.sq.c,O V'.db.a V'.db.n V'.db.c,O V'.dq.a V'.dq.n V'.dq.c,O V'.fl.a V'.fl.n V'.fl.c,Xe Xf (zaN m k q s).cnt,O V'.ca.a V'.ca.n V'.ca.c,O V'.sp.a V'.sp.n V'.sp.c],Xe Xf (k:Int),Xe Xf 0])/\zK w' V' (zaN m k q s)))
theorem ChW.doneD(h:ChW w0 k w V m)(o:qC (fun p=>p<w0.heap.size) w W):zK W V m:=by have c:qC (Dr w0.heap.size k V) w W:=o.wide fun p a=>.inl a;have r:=h.rest W c;obtain⟨n,f,i,j⟩:=h.sp;have a:∀{b:Type}{E:Elt b}{v:Xq}{l:List b},zb E w0.heap.size w v l->zq E W v l:=fun b=>zb.at (base:=w0.heap.size) ⟨zeb b.1 o (fun g d e=>by have:=(b.lt g d).1;have e:g<w0.heap.size:=e;omega),b.2⟩;exact⟨a h.fs,r.sl,r.sb,r.sq,r.db,r.dq,r.fl,a h.ca,⟨n,a f,i,fun i x s b a=>j i x s b a W c⟩⟩
theorem Qh(h:ChW w0 k w V m)(q:Nat)(t:q<m.sp.length)(n:Int):
  Xp prog 91 #[Xj (Xa ⟨k,0,Xb⟩),Xi #[I6 (q:Int),I6 n]] w fun e w'=>e=Xl (enV (Z6 m q n))/\zc w w':=by
 obtain⟨s,u⟩:∃s,m.sp[q]?=Xa s:=⟨_,gE t⟩;obtain⟨b,f,z,A⟩:=h.sp;obtain⟨x,d⟩:∃x,b[q]?=Xa x:=⟨_,gE (Rx z t)⟩;have g:=dD<|A q x s d u w (qC.refl _ _);obtain⟨B,a⟩:=kA b.length;obtain⟨l,C,b⟩:=f.aG Wm;rw[a.out]at b;have c:=h.box.box.c 10 rfl;rw[b]at c f;have i:(q:Int)<(B:Int):=Hm a.out;have a:=dD c;have i:=dD h.box;have a:=(f.one d).bO;rw[Yo,zA]at a;have j:Xo (∀W,zc w W->ziN W ⟨l,q*10,Xb⟩ x):=show∀W,_ from fun W r=>by
  have:=((f.aA r).one d).bO;rw[Yo,zA]at this;exact this
 have p:=dD b;obtain⟨E,v⟩:=kA (Z6 m q n);have D:Xo (∀W,zc w W->Xp prog 69 #[Xi #[x.t0.x,x.t1.x,x.t2.x,x.t3.x,x.t4.x,x.t5.x,x.t6.x,x.t7.x],I6 n] W fun e w'=>e=Xl (enV E)/\zc W w'):=show∀W,_ from fun W r=>by
  have y:=JJ x.tab s.tb n W (g.tb.aA r);rw[show zfi s.tb n=E from by rw[<-v.out];unfold Z6;rw[Sp.aJ u]]at y;exact y
 rw[v.out];clear h t u f z A d b c a;obtain⟨s,b⟩:=kB ((w.alloc (Xk #[I6 (q:Int),I6 n] 95)).alloc (Xk #[I6 0,I6 0,Xh Xd] 55));have g:=gD2 b;have h:=x2a b;have t:=x2b b;have c:=dD b;clear b;go_enter func91,ntmps91;go_upto_region 1 with fail;rw[c.out];obtain⟨F,r⟩:=kA w.heap.size;rw[r.out]at h t⊢;obtain⟨f,b⟩:=Ww fun u=>zc s u;have c:=(b _).2 (gW _);have G:∀y:zh f,y.world.cell? ⟨k,10,Xb⟩=Xa (O (Xa ⟨l,0,Xb⟩) B C):=fun y=>by rw[<-p.out];exact(i.box.aA (g.trans ((b _).1 y.holds))).c 10 rfl
 have i:=h.h b 0 rfl;have p:=h.h b 1 rfl;have a:∀y:zh f,ziN y.world ⟨l,q*10,Xb⟩ x:=fun y=>j.out _ (g.trans ((b _).1 y.holds));have j:=fun y=>(a y).2.2.1;have l:=fun y=>(a y).2.2.2.1;have s:=fun y=>(a y).2.2.2.2.1;have v:=fun y=>(a y).2.2.2.2.2.1;have z:=fun y=>(a y).2.2.2.2.2.2.1;have A:=fun y=>(a y).2.2.2.2.2.2.2.1;have B:=fun y=>(a y).2.2.2.2.2.2.2.2.1;have C:=fun y=>(a y).2.2.2.2.2.2.2.2.2;dsimp only at j l s v z A B C;clear a;have h:Nonempty (zh f):=⟨⟨_,c⟩⟩;refine zH (I:=f) 13 [(12,fun a=>a=enV E)] (fun u=>True) c trivial zY Kr rfl rfl Dc (Sa ⟨_,rfl⟩) Kr ?_;simp only[Xv,Xw];refine zg ?_;refine zQ (.tmp 5) ⟨k,0,Xb⟩ rfl rfl rfl rfl ?_;refine Uq ?_;iterate 10 refine zg ?_
 refine zy rfl rfl (fun _ u=>True) (fun w' a d=>?_) (fun d f=>?_);·refine zO.call [Xi #[x.t0.x,x.t1.x,x.t2.x,x.t3.x,x.t4.x,x.t5.x,x.t6.x,x.t7.x],I6 n] rfl func69 rfl rfl rfl ?_;refine(D w' (g.trans ((b _).1 a))).mono ?_;rintro e d⟨rfl,d⟩;exact⟨_,rfl,(b _).2 (((b _).1 a).trans d),rfl,trivial⟩
 cases f;refine Uq ?_;refine qE fun a a d=>?_;have f:=dD<|(b _).1 a;have b:=dD (t.aA f);clear a d c G i p j l s v z A B C h;unfold enV;refine zn rfl 55 (.tmp 4) (.tmp 17) rfl (F+1) rfl [I6 E.kind,I6 E.n,Xh E.wr] rfl b rfl Kr (by simp[Value.oneCell']) ?_;intro c a b _;have d:Xo (zc w c):=dD<|zd (g.trans f) b (Hm r.out);have c:=dD a;clear a b;go_wp2;refine bodyPost_ret (z8 rfl _ rfl c underlying55 rfl Kr) rfl ⟨rfl,d⟩
theorem hoF(a)(c:Nat)(fs:List Fr)(h:Int)(i:Nat)(q:Fr)(u:Int)(w:Xn)(F:zq q3 w (O a fs.length c) fs)(T:ZR fs h=0)(Q:fs[i]?=Xa q)(bp:(q.r==0)=Xd)(bo:¬u< -q.r)(bf:¬1000-q.r<u)(av:q.r+u=0):
  Xp prog 121 #[Xi #[O a fs.length c,I6 h],I6 (i:Int),I6 u] w fun e w'=>∃b,e=Xl (Xm #[Xi #[b,I6 h],I6 0])/\zb q3 w.heap.size w' b (fs.set i frF)/\zc w w':=by
 have a1:=dD F;have b6:=dD av;clear av;have I:∀W,zc w W->Xp prog 125 #[Xi #[O a fs.length c,I6 h]] W fun e w'=>e=Xl (I6 (ZR fs h))/\zc W w':=fun W af=>by rw[T];exact QQ a c fs h W (a1.aA af) T
 have A:∀W,Xp prog 144 #[I6 (i:Int),I6 (fs.length:Int)] W fun e w'=>e=Xl (Xh (inB (i:Int) fs.length))/\w'=W:=fun W=>Qf (i:Int) _ W;have ai:∀W,zc w W->Xp prog 46 #[Xi #[O a fs.length c,I6 h]] W fun e w'=>∃b,e=Xl (Xi #[b,I6 h])/\zb q3 W.heap.size w' b fs/\zc W w':=fun W af=>JG a c fs h W (a1.aA af);have s:=zcl ((Zd T).2.1 q (mG Q));have t:=(gS.1 Q).1;obtain⟨bl,bm,ag,x⟩:=F.bC;cases ag;obtain⟨b7,rfl,au⟩:=x i q Q;have b5:=dD au;have an:=dD Q;clear x au Q;simp only[show inB (i:Int) fs.length=Xc from by simp[inB];exact t]at A;have N:=F.short;clear F;simp only[T]at I;clear T;obtain⟨y,G⟩:=kA fs.length;simp only[G.out]at I a1 N A ai t⊢;have be:(i:Int)<(y:Int):=Wm;obtain⟨bb,bc⟩:=s;obtain⟨ao,j⟩:=kB ((w.alloc (Xk #[O (Xa b7) y c,I6 h] 28)).alloc (Xk #[eS,I6 0] 28));have g:=gD2 j;have Y:=x2a j;have ap:=x2b j;have a2:=dD j;clear j;go_enter func121,ntmps121;go_upto_region 1 with fail;rw[a2.out];obtain⟨aa,ab⟩:=Y.k2;go_wp2_with fail;refine(I _ g).mono ?_;rintro e a6⟨rfl,aq⟩;have B:=dD aq;clear aq aa ab I;obtain⟨-,-,-,-,-,-,-,-,b8,-,-,-,-⟩:=b5.out a6 (g.trans B);obtain⟨aa,ab⟩:=(Y.aA B).k2;go_wp2_with(go_at_call 144;refine(A _).mono ?_;rintro e w'⟨rfl,R⟩;rw[R];clear R w')
 refine(ai _ (g.trans B)).mono ?_;rintro e C⟨b,rfl,f,ae⟩;obtain⟨l,D,rfl⟩:=f.aG (by rw[G.out];omega);rw[G.out]at f⊢;have a3:=dD f;have am:=dD (B.trans ae);have ac:=dD<|bS ae;clear f ae aa ab ai b8;have bd:=a3.lt l rfl;have bg:l≠C.heap.size:=Wm;have u8:=(a3.aA (za C (Xk #[O (Xa ⟨l,0,Xb⟩) y D,I6 h] 28))).frc an 8 rfl;go_wp2_with(refine zx (E:=q3) rfl (.tmp 61) (.tmp 59) 3 rfl a6.heap.size (O (Xa ⟨l,0,Xb⟩) y D) fs (a3.aA (za _ _)) l i 8 rfl q {q with r:=q.r+u} an.out [I6 (q.r+u)] Kr rfl (Yt rfl) (by intro bq aw;simp at aw;subst aw;rfl) _ rfl (by simp[q3]) _ rfl rfl ?_)
 intro K U n ak;have H:=dD U;have ba:=ac.out;have b9:=bS B.out;have bi:=ap.lt;have Z:Xo (Box K C.heap.size [O (Xa ⟨l,0,Xb⟩) y D,I6 h]):=(Box.aE C _ _ rfl).beside n (fun M d=>by cases d;omega);have m:Xo (Box K (w.heap.size+1) [eS,I6 0]):=((ap.aA am).alloc _).beside n (fun M d=>by cases d;omega);have b2:Xo (zc ao K):=z2 (am.trans (za _ _)) n (fun M d=>by cases d;omega);have a0:Xo ((fs.set i {q with r:=q.r+u})[i]?=Xa {q with r:=q.r+u}):=dD<|by rw[sF (Rx G.out t)]
 clear U n ak u8;have u8:=H.frc a0 8 rfl;obtain⟨ax,ay⟩:=Z.k2;obtain⟨az,b0⟩:=m.k2;have b1:=m.f;simp only at u8;have bh:(q.r+u==0)=Xc:=by simp[b6.out]
 go_wp2;have aj:=fun X:zj K=>(Z.aA X.aA).c 0 rfl;have P:Nonempty (zj K):=⟨⟨_,zc.refl _⟩⟩;clear u8 ax ay az b0 b1;refine jO 5 [(3,⟨fun v=>v=Xi (frv frF).toArray,fun _ _=>True⟩)] zY Kr rfl rfl Dc ?_ ?_ ?_
 ·intro X S
  simp at S;subst S;exact⟨_,rfl⟩
 ·intro X S
  simp at S;subst S;exact fun _ _ _ _ h=>h
 simp only[Xv,Xw];iterate 3 refine zf ?_
 refine zI rfl rfl (fun w' bn ar=>?_) (fun br F=>?_);·refine zO.call [] rfl func145 rfl rfl rfl ?_;refine(zck w').mono ?_;rintro e bj⟨rfl,ah⟩;exact⟨_,rfl,ah,rfl,trivial⟩
 subst F;simp only[Yc,sB,sS,sZ,frv,frF,pg0];refine zf ?_;refine z5 fun bk k ar=>?_;have a4:=dD (H.aA k);have a9:=dD (Z.aA k);have a8:=dD (m.aA k);have b3:=dD (b2.trans k);clear ar aj k P;go_wp2_with(refine z3 (E:=q3) rfl (.tmp 73) (.tmp 72) rfl a6.heap.size _ _ a4 l i rfl frF (by rw[Xt,G.out];exact t) _ rfl (by simp[q3]) _ rfl rfl ?_)
 intro a7 V p al;have a5:=dD V;have L:Xo (Box a7 C.heap.size [O (Xa ⟨l,0,Xb⟩) y D,I6 h]):=a9.beside p (fun M d=>by cases d;omega);have z:Xo (Box a7 (w.heap.size+1) [eS,I6 0]):=a8.beside p (fun M d=>by cases d;omega);have b4:Xo (zc ao a7):=z2 b3 p (fun M d=>by cases d;omega);clear V p al;obtain⟨ax,ay⟩:=L.k2;obtain⟨az,b0⟩:=z.k2;have b1:=z.f;go_wp2;refine bodyPost_ret (v:=Xm #[Xi #[O (Xa ⟨l,0,Xb⟩) y D,I6 h],I6 0]) (by simp[results,Tryz.results121,go_sem, *]) rfl ⟨_,rfl,?_,?_⟩;·exact((a5.setCell (a:=⟨w.heap.size+1,0,Xb⟩) (by show w.heap.size+1<_;omega) _).setCell (a:=⟨w.heap.size+1,1,Xb⟩) (by show w.heap.size+1<_;omega) _).base (Hm (bS g.out))
 exact zB (zB (g.trans b4) Sm _) Sm _
theorem hoG(a)(c:Nat)(fs:List Fr)(h:Int)(i:Nat)(q:Fr)(m:Int)(w:Xn)(M:zq q3 w (O a fs.length c) fs)(D:ZR fs h=0)(B:fs[i]?=Xa q)(av:(q.r==0)=Xd)(au:¬m< -q.r)(an:¬1000-q.r<m)(aw:(q.r+m==0)=Xd):
  Xp prog 121 #[Xi #[O a fs.length c,I6 h],I6 (i:Int),I6 m] w fun e w'=>∃b,e=Xl (Xm #[Xi #[b,I6 h],I6 0])/\zb q3 w.heap.size w' b (fs.set i {q with r:=q.r+m})/\zc w w':=by
 have Q:=dD M;have N:∀W,zc w W->Xp prog 125 #[Xi #[O a fs.length c,I6 h]] W fun e w'=>e=Xl (I6 (ZR fs h))/\zc W w':=fun W Z=>by rw[D];exact QQ a c fs h W (Q.aA Z) D
 have t:∀W,Xp prog 144 #[I6 (i:Int),I6 (fs.length:Int)] W fun e w'=>e=Xl (Xh (inB (i:Int) fs.length))/\w'=W:=fun W=>Qf (i:Int) _ W;have a0:∀W,zc w W->Xp prog 46 #[Xi #[O a fs.length c,I6 h]] W fun e w'=>∃b,e=Xl (Xi #[b,I6 h])/\zb q3 W.heap.size w' b fs/\zc W w':=fun W Z=>JG a c fs h W (Q.aA Z);have l:=zcl ((Zd D).2.1 q (mG B));have u:=(gS.1 B).1;obtain⟨aq,ar,I,n⟩:=M.bC;cases I;obtain⟨af,rfl,a9⟩:=n i q B;have ac:=dD a9;have a3:=dD B;clear n a9 B;simp only[show inB (i:Int) fs.length=Xc from by simp[inB];exact u]at t;have A:=M.short;clear M;simp only[D]at N;clear D;obtain⟨y,G⟩:=kA fs.length;simp only[G.out]at N Q A t a0 u⊢;have am:(i:Int)<(y:Int):=Wm;obtain⟨aj,ak⟩:=l;obtain⟨ae,g⟩:=kB ((w.alloc (Xk #[O (Xa af) y c,I6 h] 28)).alloc (Xk #[eS,I6 0] 28));have f:=gD2 g;have K:=x2a g;have a5:=x2b g;have R:=dD g;clear g;go_enter func121,ntmps121;go_upto_region 1 with fail;rw[R.out];obtain⟨U,V⟩:=K.k2;go_wp2_with fail;refine(N _ f).mono ?_;rintro e a4⟨rfl,a8⟩;have x:=dD a8;clear a8 U V N;obtain⟨-,-,-,-,-,-,-,-,ag,-,-,-,-⟩:=ac.out a4 (f.trans x);obtain⟨U,V⟩:=(K.aA x).k2;go_wp2_with(go_at_call 144;refine(t _).mono ?_;rintro e w'⟨rfl,C⟩;rw[C];clear C w')
 refine(a0 _ (f.trans x)).mono ?_;rintro e H⟨b,rfl,d,Y⟩;obtain⟨s,L,rfl⟩:=d.aG (by rw[G.out];omega);rw[G.out]at d⊢;have S:=dD d;have a2:=dD (x.trans Y);have X:=dD<|bS Y;clear d Y U V a0 ag;have al:=S.lt s rfl;have ao:s≠H.heap.size:=Wm;have u8:=(S.aA (za H (Xk #[O (Xa ⟨s,0,Xb⟩) y L,I6 h] 28))).frc a3 8 rfl;go_wp2_with(refine zx (E:=q3) rfl (.tmp 61) (.tmp 59) 3 rfl a4.heap.size (O (Xa ⟨s,0,Xb⟩) y L) fs (S.aA (za _ _)) s i 8 rfl q {q with r:=q.r+m} a3.out [I6 (q.r+m)] Kr rfl (Yt rfl) (by intro b2 aa;simp at aa;subst aa;rfl) _ rfl (by simp[q3]) _ rfl rfl ?_)
 intro T F k a1;have z:=dD F;have ai:=X.out;have ah:=bS x.out;have ap:=a5.lt;have a6:Xo (Box T H.heap.size [O (Xa ⟨s,0,Xb⟩) y L,I6 h]):=(Box.aE H _ _ rfl).beside k (fun a7 j=>by cases j;omega);have p:Xo (Box T (w.heap.size+1) [eS,I6 0]):=((a5.aA a2).alloc _).beside k (fun a7 j=>by cases j;omega);have ab:Xo (zc ae T):=z2 (a2.trans (za _ _)) k (fun a7 j=>by cases j;omega);have P:Xo ((fs.set i {q with r:=q.r+m})[i]?=Xa {q with r:=q.r+m}):=dD<|by rw[sF (Rx G.out u)]
 clear F k a1 u8;have u8:=z.frc P 8 rfl;obtain⟨ax,ay⟩:=a6.k2;obtain⟨az,b0⟩:=p.k2;have b1:=p.f;simp only at u8;go_wp2;refine bodyPost_ret (v:=Xm #[Xi #[O (Xa ⟨s,0,Xb⟩) y L,I6 h],I6 0]) (by simp[results,Tryz.results121,go_sem, *]) rfl ⟨_,rfl,?_,?_⟩;·exact((z.setCell (a:=⟨w.heap.size+1,0,Xb⟩) (by show w.heap.size+1<_;omega) _).setCell (a:=⟨w.heap.size+1,1,Xb⟩) (by show w.heap.size+1<_;omega) _).base (Hm (bS f.out))
 exact zB (zB (f.trans ab) Sm _) Sm _
theorem za6{k nn:Int}(he:Zm R z k nn=0):∃(i:Nat)(q:Fr),k=(i:Int)/\R[i]?=Xa q/\ZR R z=0/\q.r≠0/\-q.r<=nn/\nn<=1000-q.r/\Jz R z k nn=R.set i (frH q nn)/\zlF R z k nn=z:=by
 have he0:=he;unfold Zm at he;split at he
 ·rename_i h0
  split at he
  ·rename_i h1
   simp only[inB,Bool.and_eq_true,decide_eq_true_eq,Bool.not_eq_true',beq_eq_false_iff_ne]at h1;obtain⟨⟨h2,h3⟩,h4⟩:=h1;split at he
   ·rename_i h5
    have hl:k.toNat<R.length:=Wm;have e:R.getD k.toNat fr0=R[k.toNat]:=(by rw[gD,gE hl];rfl);rw[e]at h4 h5;refine⟨k.toNat,R[k.toNat],Wm,gE hl,h0,h4,h5.1,h5.2,?_,?_⟩;·grind[Jz]
    grind[zlF]
   cases he
  cases he
 grind
theorem zgM(a)(c:Nat)(fs:List Fr)(h k d:Int)(w:Xn)(l:zq q3 w (O a fs.length c) fs)(f:Zm fs h k d=0):
  Xp prog 121 #[Xi #[O a fs.length c,I6 h],I6 k,I6 d] w fun e w'=>∃b,e=Xl (Xm #[Xi #[b,I6 h],I6 0])/\zb q3 w.heap.size w' b (Jz fs h k d)/\zc w w':=by
 obtain⟨m,q,rfl,i,g,j,n,n,n,_⟩:=za6 f;rw[n];by_cases f:q.r+d=0
 ·rw[show frH q d=frF from kE f]
  exact hoF a c fs h m q d w l g i (Si j) Wm Wm f
 rw[show frH q d={q with r:=q.r+d}from kF f];exact hoG a c fs h m q d w l g i (Si j) Wm Wm (Si f)
theorem zcS(h:ChW w0 k w V m)(z:En)(n:Int)(j:z.kind=1->Zm m.fs m.aB z.n n=0):
  Xp prog 92 #[Xj (Xa ⟨k,0,Xb⟩),Xi #[I6 z.kind,I6 z.n,Xh z.wr],I6 n] w fun e w'=>(∃v,e=Xl v)/\Chg w0 k w V (Z4 m z n) w':=by
 have A:=dD h;obtain⟨l,q,-⟩:=h.at.ns;have x:Xo (z.kind=1->∀W,zc w W->Xp prog 121 #[Xi #[V.f.x,I6 m.aB],I6 z.n,I6 n] W fun e w'=>∃d:Sli,e=Xl (Xm #[Xi #[d.x,I6 m.aB],I6 0])/\zb q3 W.heap.size w' (d.x) (Jz m.fs m.aB z.n n)/\zc W w'):=show _->∀W,_ from fun D W f=>by
  have p:=(h.at.aA f).fs;(try simp only[Sli.x]at p⊢);rw[l]at p⊢;refine(zgM V.f.a V.f.c m.fs m.aB z.n n W p (j D)).mono ?_;rintro e w'⟨d,rfl,a,g⟩;have i:zb q3 W.heap.size w' d (Jz m.fs m.aB z.n n):=a;obtain⟨b,c,rfl,_⟩:=i.at.rows;exact⟨⟨b,_,c⟩,rfl,a,g⟩
 have X:Xo (∀W,zc w W->Xp prog 122 #[V.s.x,I6 z.n,I6 n] W fun e w'=>∃d:Sli,e=Xl (Xm #[d.x,I6 (ZG m.sl z.n n)])/\q9 slE W.heap.size w' (d.x) (Qp m.sl z.n n)/\zc W w'):=dD<|fun W f=>by
  have p:=(h.at.aA f).sl;(try simp only[Sli.x]at p⊢);rw[q]at p⊢;refine(znk V.s.a V.s.c m.sl z.n n W p).mono ?_;rintro e w'⟨b,c,rfl,a,g⟩;exact⟨⟨b,_,c⟩,rfl,a,g⟩
 have a7:=dD h.bA;clear h l q;obtain⟨h,a⟩:=kB (w.alloc (Xk #[I6 z.kind,I6 z.n,Xh z.wr] 55));have r:=gA a;have T:=xA a;have b:=dD a;clear a;have a6:=T.c 0 rfl;go_enter func92,ntmps92;go_upto_region 1 with fail;rw[b.out];obtain⟨d,U⟩:=kA w.heap.size;rw[U.out]at T a6⊢;by_cases q:z.kind=1
 ·have D:(z.kind==1)=Xc:=Rr q
  have L:Xo (Z4 m z n={m with fs:=Jz m.fs m.aB z.n n,aB:=m.aB}):=dD<|by
   obtain⟨_,_,_,_,_,_,_,_,_,a⟩:=za6 (j q);unfold Z4;rw[kE q,a]
  have x:=dD<|x.out q;clear q;go_upto_region 3 with fail;clear a6;obtain⟨g,f⟩:=Ww fun u=>Box u d [I6 z.kind,I6 z.n,Xh z.wr];have c:=(f _).2 (T.aA (gW _));have j:zc h h.drew:=show Below _ _ _ from(bR _ _).drew;have G:=fun H:zh g=>((f _).1 H.holds).c 1 rfl;have E:Nonempty (zh g):=⟨⟨_,c⟩⟩;refine zH (I:=g) 17 [(5,fun v=>v=Xi #[V.f.x,I6 m.aB]),(9,fun v=>∃s:Sli,v=Xm #[Xi #[s.x,I6 m.aB],I6 0]),(16,fun _=>True)] (fun u=>zc h u) c j zY Kr rfl rfl Dc (Sc ⟨_,rfl⟩ ⟨_,zJ,rfl⟩ ⟨undef,trivial⟩) Kr ?_;simp only[Xv,Xw];iterate 2 refine zg ?_
  refine zQ (.tmp 12) ⟨k,0,Xb⟩ rfl rfl rfl rfl ?_;refine Uq ?_;iterate 2 refine zg ?_
  refine zy rfl rfl (fun _ u=>zc h u) (fun w' b a=>?_) (fun S l=>?_)
  ·refine zcq 28 (.tmp 15) rfl k 0 rfl [V.f.x,I6 m.aB] ((A.box.box.aA (r.trans a)).mid 0 (fun p v i=>by
    match p,i with
    |0,i=>exact i
    |1,i=>exact i)) underlying28 rfl Kr ⟨b,rfl,a⟩
  cases l;refine Uq ?_;iterate 3 refine zg ?_
  refine zy rfl rfl (fun v u=>∃(s:Sli)(t:Xn),v=Xm #[Xi #[s.x,I6 m.aB],I6 0]/\zc h t/\zc t u/\zb q3 t.heap.size u (s.x) (Jz m.fs m.aB z.n n)) (fun w' b a=>?_) (fun S l=>?_);·refine zO.call [Xi #[V.f.x,I6 m.aB],I6 z.n,I6 n] rfl func121 rfl rfl rfl ?_;refine(x w' (r.trans a)).mono ?_;rintro e a5⟨s,rfl,a0,N⟩;exact⟨_,rfl,(f _).2 (((f _).1 b).aA N),⟨s,rfl⟩,s,w',rfl,a,N,a0⟩
  obtain⟨s,rfl⟩:=l;refine Uq ?_;iterate 3 refine zg ?_
  refine zQ (.tmp 11) ⟨k,0,Xb⟩ rfl rfl rfl rfl ?_;refine Uq ?_;iterate 2 refine zg ?_
  refine zy rfl rfl (fun _ u=>Chg w0 k w V {m with fs:=Jz m.fs m.aB z.n n,aB:=m.aB} u) (fun w' b a=>?_) (fun S l=>?_)
  ·obtain⟨x,t,Q,P,W,a4⟩:=a;have F:x=s:=by
    obtain⟨a8,a9,aa⟩:=s;obtain⟨ab,ac,ad⟩:=x;simp only[Value.tuple.injEq,Array.mk.injEq,List.cons.injEq,Value.agg.injEq,vJ,and_true]at Q;obtain⟨rfl,rfl,rfl⟩:=Q;rfl
   subst F;have K:=(r.trans P).trans W;refine ZM 28 (.tmp 25) (.tmp 21) rfl k 0 rfl (Xi #[x.x,I6 m.aB]) rfl [x.x,I6 m.aB] rfl (A.box.aA K) (by simp[chL]) Kr (by simp[Value.oneCell']) ?_;intro M B i _;have Z:=a7.out k (.inl rfl);exact⟨(f _).2 (((f _).1 b).grown i (Hm U.out)),trivial,A.bK K (a4.base (nT (bS r) (bS P))) i B⟩
  clear l;try simp only[Yc]
  refine qE fun M C p=>?_;have y:Xo (Chg w0 k w V (Z4 m z n) M):=dD<|Rx L.out p;clear C p c j G E;go_wp2;exact Wq y.out
 have D:(z.kind==1)=Xd:=Si q;by_cases D:z.kind=2
 ·have Y:(z.kind==2)=Xc:=Rr D
  have L:Xo (Z4 m z n={m with sl:=Qp m.sl z.n n}):=dD (by unfold Z4;rw[kF q,kE D]);clear q D;go_upto_region 5 with fail;clear a6;obtain⟨g,f⟩:=Ww fun u=>Box u d [I6 z.kind,I6 z.n,Xh z.wr];have c:=(f _).2 (T.aA (gW _));have j:zc h h.drew:=show Below _ _ _ from(bR _ _).drew;have G:=fun H:zh g=>((f _).1 H.holds).c 1 rfl;have E:Nonempty (zh g):=⟨⟨_,c⟩⟩;refine zH (I:=g) 17 [(5,fun v=>v=V.s.x),(9,fun v=>∃s:Sli,v=Xm #[s.x,I6 (ZG m.sl z.n n)]),(16,fun _=>True)] (fun u=>zc h u) c j zY Kr rfl rfl Dc (Sc ⟨_,rfl⟩ ⟨_,zJ,rfl⟩ ⟨undef,trivial⟩) Kr ?_;simp only[Xv,Xw];iterate 2 refine zg ?_
  refine zQ (.tmp 30) ⟨k,0,Xb⟩ rfl rfl rfl rfl ?_;refine Uq ?_;iterate 2 refine zg ?_
  refine zy rfl rfl (fun _ u=>zc h u) (fun w' b a=>?_) (fun S l=>?_);·exact zfS 30 (.tmp 33) rfl k 2 rfl (V.s.x) ((A.box.box.aA (r.trans a)).c 2 rfl) underlying30 rfl ⟨b,rfl,a⟩
  cases l;refine Uq ?_;iterate 3 refine zg ?_
  refine zy rfl rfl (fun v u=>∃(s:Sli)(t:Xn),v=Xm #[s.x,I6 (ZG m.sl z.n n)]/\zc h t/\zc t u/\q9 slE t.heap.size u (s.x) (Qp m.sl z.n n)) (fun w' b a=>?_) (fun S l=>?_);·refine zO.call [V.s.x,I6 z.n,I6 n] rfl func122 rfl rfl rfl ?_;refine(X w' (r.trans a)).mono ?_;rintro e a5⟨s,rfl,a0,N⟩;exact⟨_,rfl,(f _).2 (((f _).1 b).aA N),⟨s,rfl⟩,s,w',rfl,a,N,a0⟩
  obtain⟨s,rfl⟩:=l;refine Uq ?_;iterate 3 refine zg ?_
  refine zQ (.tmp 29) ⟨k,0,Xb⟩ rfl rfl rfl rfl ?_;refine Uq ?_;iterate 2 refine zg ?_
  refine zy rfl rfl (fun _ u=>Chg w0 k w V {m with sl:=Qp m.sl z.n n} u) (fun w' b a=>?_) (fun S l=>?_)
  ·obtain⟨x,t,Q,P,W,a4⟩:=a;have F:x=s:=by
    obtain⟨a8,a9,aa⟩:=s;obtain⟨ab,ac,ad⟩:=x;simp only[Value.tuple.injEq,Array.mk.injEq,List.cons.injEq,vJ,and_true]at Q;obtain⟨rfl,rfl,rfl⟩:=Q;rfl
   subst F;have K:=(r.trans P).trans W;refine ZM 30 (.tmp 43) (.tmp 39) rfl k 2 rfl (x.x) rfl [x.x] rfl (A.box.aA K) (by simp[chL]) Kr (by simp[Value.oneCell']) ?_;intro M B i _;have Z:=a7.out k (.inl rfl);exact⟨(f _).2 (((f _).1 b).grown i (Hm U.out)),trivial,A.cE K (a4.base (nT (bS r) (bS P))) i B⟩
  clear l;try simp only[Yc]
  refine qE fun M C p=>?_;have y:Xo (Chg w0 k w V (Z4 m z n) M):=dD<|Rx L.out p;clear C p c j G E;go_wp2;exact Wq y.out
 have Y:(z.kind==2)=Xd:=Si D;have L:Xo (Z4 m z n=m):=dD<|by unfold Z4;rw[kF q,kF D]
 clear q D;have y:Xo (Chg w0 k w V (Z4 m z n) h):=dD<|Rx L.out (Chg.refl A r.out);go_wp2;exact Wq y.out
end
end Go.Proofs.YtkfjajbalegoeaaGreat
