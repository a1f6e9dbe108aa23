import Derived.Test.YtkfjajbalegoeaaGreatFF1
import Derived.Deep.DeepCutAuto
namespace Go.Proofs.YtkfjajbalegoeaaGreat
open Go.Value renaming slice→O,int→Xe,bool→Xh,agg→Xi,pointer→Xj,tuple→Xm
open Go.IntKind renaming i64→Xf,u8→Xg
open Go.Obj renaming cells→Xk
open Go.Ending renaming returned→Xl
open Go renaming World→Xn,Calls→Xp,Value→Xq
open Go.RowKit renaming Hid→Xo
open Option renaming some→Xa,none→Xb
open Bool renaming true→Xc,false→Xd
open List renaming replicate→Xr
open Go.Sem renaming run_bind→Xs,run_pure→Xy
open _root_.List renaming length_set→Xt,take→Xv,drop→Xw,ext_getElem?→Xx,flatMap_append→Xz,take_of_length_le→Ya,countP_le_length→Yc,getElem?_map→Yd,getElem?_of_mem→Ye,map_nil→Yf,length_cons→Yg,mem_map→Yh,map_toArray→Yi,length_map→Yk,mem_range→Yl,take_zero→Ym,mem_or_eq_of_mem_set→Yn,length→Yo,any_eq_true→Yp,length_filter_le→Yt,contains_iff_mem→Yu,mem_map_of_mem→Yx,pairwise_cons→Yy,range→Oa,getElem?_set→Oc
open Go.Act renaming put→Xu
open _root_.Nat renaming lt_of_lt_of_le→Yb,mul_le_mul_right→Yj,le_of_ble_eq_true→Yv,add_mul→Od
open Go.Addr renaming add_lit→Yq
open _root_.Bool renaming toNat_true→Yr,eq_iff_iff→Ys
open _root_.Array renaming toList_modify→Yw,forIn_toList→Yz,toList_push→Ob
set_option maxRecDepth 100000
set_option maxHeartbeats 4000000
variable{α:Type}{a:Act}{Y:Array Xq}{E:Elt α}{Z:En}{X:Fr}{H z:Int}{S:Int × Int}{U:Int × Int->Option Int}{G:List (List En)}{r:List (List Int)}{N:List Fl}{L:List Int}{K:List Oper}{D:List Xq}{y:List α}{b k p:Nat}{u:Nat->En}{s:Sp}{t:TypeId}{w:Xn}{A:Xq}{M:Xq->Xn->Prop}
variable{B B0 B1 b cl fi hi ix j:Nat} {L:List Int} {Q:Exit->Act->Xn->Prop} {T:List (Nat->En)} {V:MaV} {W w' w0:Xn} {hd z:Int} {l:List Ar} {m m' m1:Ma} {o:Oper} {ops:Array Oper} {t:TypeId} {us vs xs:List Xq} {vl vt:Sli}
open Go.Proofs.Tryz
section
open Go.RowKit
def zsf (w0:Xn) (hi b:Nat) (w:Xn) (L:List Int) (V:MaV) (m:Ma) (vt:Sli) (T:List (Nat->En)) (fi ix j:Nat) (w':Xn):Prop:=∃(q:Fr) (p:Pg) (u d:Bool) (s:Sli),m.fs[j]? =Xa q/\q.r=0/\(∀c∈m.ca,¬(c.file=(fi:Int)/\c.idx=(ix:Int)))/\MkE w0 hi b w L { V with ca:=s } { m with fs:=m.fs.set j ⟨p,1,u,d,fi,ix⟩,ca:=Z4 m.ca ⟨fi,ix,j⟩ } vt T w'
def zq7 (m:Ma) (fi ix:Nat) (q:List Int) (d:Bool):Prop:=Z7 q (ix:Int) (JF m (fi:Int))=q/\(d=Xd->Qr m (fi:Int) (ix:Int)=q)
def zoo (q:List Int) (ix:Nat) (size:Int) (i:Nat):Prop:=∀j,j<i->size<=8*(ix:Int)+(j:Int)->q[j]? =Xa 0
theorem zoo.set {a:Int} (h:zoo L ix a k) (hi:k<L.length):zoo (L.set k 0) ix a (k+1):=fun j a a=>by
 by_cases e:j=k;·grind
 rw[sN (fun h=>e h.symm)];exact h j Wm a
theorem zoo.next (h:zoo L ix z k) (d:¬z<=8*(ix:Int)+(k:Int)):zoo L ix z (k+1):=fun j c b=>by
 by_cases e:j=k;·grind
 exact h j Wm b
theorem zoo.all (h:zoo L ix H 8) (b:L.length=8):Z7 L (ix:Int) H=L:=by
 unfold Z7;refine Xx fun i=>?_;rw[List.getElem?_mapIdx];cases H:L[i]? with
 | none=>rfl
 | some z=>
  have b:=(gS.1 H).1;simp only[Option.map_some,Option.some.injEq];split
  ·rename_i b
   have:=h i Wm b;rw[H]at this;exact(Option.some.inj this).symm
  rfl
theorem zpB (p) (idx a:Int):Z7 (Z7 p idx a) idx a=Z7 p idx a:=by unfold Z7;grind
theorem zni (a:∀c∈m.ca,¬(c.file=(fi:Int)/\c.idx=(ix:Int))):zq7 m fi ix (zU m (fi:Int) (ix:Int)) Xd:=by
 have d:m.ca.find? (QK (fi:Int) (ix:Int))=Xb:=List.find?_eq_none.2 fun c b e=>a c b (by grind [QK]);have e:zU m (fi:Int) (ix:Int)=Qr m (fi:Int) (ix:Int):=by
  unfold zU;rw[d];rfl
 rw[e];refine⟨?_,fun _=>rfl⟩;unfold Qr;split;·unfold Z7 zq;simp
 exact zpB _ _ _
theorem zqc {f:Fl} (a:m.fl[fi]? =Xa f):JF m (fi:Int)=f.size:=by unfold JF;rw[tN,gD,a];rfl
theorem zl3 (fi ix:Nat) (f:Fl) (i2:Int) (t:Mk w0 hi w b vl L V m vt T) (dx:∀c∈m.ca,0<=c.file/\c.file<=1000/\0<=c.idx/\c.idx<=1000/\0<=c.fr/\c.fr<m.fs.length) (i9:m.fl[fi]? =Xa f) (dw:f.bl[ix]? =Xa i2) (gm:ix<=1000) (je:fi<=1000) (dy:m.ca.length<=1000):
  Xp prog 96 #[Xj (Xa ⟨b,0,Xb⟩),I6 (fi:Int),I6 (ix:Int)] w fun e w'=>(e= Xl (I6 (-1))/\MkE w0 hi b w L V m vt T w')\/(∃c,c∈m.ca/\c.file=(fi:Int)/\c.idx=(ix:Int)/\e= Xl (I6 c.fr)/\MkE w0 hi b w L V m vt T w')\/∃j:Nat,e= Xl (I6 (j:Int))/\zsf w0 hi b w L V m vt T fi ix j w':=by
 have c8:=dD t;have da:=dD dx;have f0:=dD i9;have fd:=dD dw;obtain⟨C,c9⟩:=kA V.ca.n;have a5:Xo (m.ca.length=C):=show _=_ by rw[<-c9.out,t.rows.ca.n]
 have k9:C<=1000:=Ry a5.out dy;have db:Xo (C<=V.ca.c):=dD<|by
  have:=t.rows.ca.cap;(try simp only[Sli.x]at this);rw[c9.out]at this;exact this
 obtain⟨a8,ag⟩:∃a,Xo (V.ca.a=a):=⟨_,rfl⟩;have dc:Xo (∀cf,(∃b8 d3 gt,gt.ca=m.ca/\Mk w0 hi cf b b8 d3 V gt vt T)->zfZ cf a8 m.ca):=dD<|fun cf ⟨_,_,gt,e,k⟩=>by
  have:=k.rows.at.cas;rw[e,ag.out]at this;exact this
 clear t dx i9 dw dy;go_enter func96,ntmps96;have S:=c8.box.box.c 10 rfl;(try simp only[Sli.x]at S);rw[c9.out,ag.out]at S;go_wp2;clear S;go_loopg [20] C (fun dr gw wr=>∃ae:Nat,ae<=C/\C - ae<=dr/\gw=I6 ae/\Xo (zc w wr)/\Xo (∀(j:Nat) c,j<ae->m.ca[j]? =Xa c->¬(c.file=(fi:Int)/\c.idx=(ix:Int))))
 exact⟨0,nZ _,Wm,rfl,zc.refl _,fun j c am=>absurd am (nL _)⟩;obtain⟨ae,jl,jh,rfl,ez,hs⟩:=hrel;by_cases cx:ae<C
 ·have eg:=kC cx
  obtain⟨c,bs⟩:∃c,Xo (m.ca[ae]? =Xa c):=⟨_,gE (Rx a5.out cx)⟩;obtain⟨gc,rfl,ed⟩:=dc.out wr ⟨vl,L,m,rfl,c8.aA ez⟩ ae c bs.out;obtain⟨gd,i4,ge⟩:=ed wr (zc.refl _);clear ed;go_upto_region 4 with fail;refine nW fun g8 bl=>?_;have bd:=gT bl ez;have il:=xA bl;clear bl gd i4 ge;obtain⟨k6,k7,k8⟩:=il.c3;have dg:Xo (¬(c.file=(fi:Int)/\c.idx=(ix:Int))->∀(j:Nat) c,j<ae+1->m.ca[j]? =Xa c->¬(c.file=(fi:Int)/\c.idx=(ix:Int))):=dD<|fun bi j aj am al=>by
   by_cases e:j=ae;·subst e;rw[bs.out]at al;cases al;exact bi
   exact hs j aj Wm al
  by_cases ci:c.file=(fi:Int)
  ·have gi:(c.file ==(fi:Int))=Xc:=by simp[ci]
   by_cases d6:c.idx=(ix:Int)
   ·have gj:(c.idx ==(ix:Int))=Xc:=by simp[d6]
    have h9:Xo (c.file=(fi:Int)/\c.idx=(ix:Int)):=dD<|⟨ci,d6⟩;clear ci d6;go_wp2;go_ret;exact .inr (.inl ⟨c,mG bs,h9.1,h9.2,rfl,vl,L,c8.aA bd,J0.refl L,zI.aA bd⟩)
   have gj:(c.idx ==(ix:Int))=Xd:=(by simp[d6]);have ce:=dD<|dg.out (fun t=>d6 t.2);clear ci d6;go_wp2;go_roundg (C -(ae+1));exact⟨ae+1,Wm,Wm,Gn,bd,ce⟩;omega
  have gi:(c.file ==(fi:Int))=Xd:=by simp[ci]
  have ce:=dD<|dg.out (fun t=>ci t.1);clear ci;go_wp2;go_roundg (C -(ae+1));exact⟨ae+1,Wm,Wm,Gn,bd,ce⟩;omega
 have eg:=kD cx;have ec:ae=C:=Wm;have df:Xo (∀c∈m.ca,¬(c.file=(fi:Int)/\c.idx=(ix:Int))):=dD<|fun c co=>by
  obtain⟨j,am⟩:=Ye co;exact hs j c (by rw[ec,<-a5.out];exact(gS.1 am).1) am
 clear ec;have hh:=dD (c8.aA ez);have D:=hh.box.box;have jp:=D.c 1 rfl;have jq:=D.c 2 rfl;have jr:=D.c 3 rfl;have js:=D.c 4 rfl;have jt:=D.c 5 rfl;have ju:=D.c 6 rfl;have jv:=D.c 7 rfl;have f6:=D.c 8 rfl;have jw:=D.c 9 rfl;have S:=D.c 10 rfl;have h5:=D.c 11 rfl;clear D;have az:=zeO V m fi ix f i2 wr hh.rows.at (fun c co _=>(da c co).2.2.2.2) f0 fd gm;go_wp2_with fail;refine az.mono ?_;clear az jp jq jr js jt ju jv f6 jw S h5;rintro e g8 ⟨rfl,cw,i7⟩;have f8:=dD (ez.trans i7);clear i7;have cs:=zni df.out;generalize zU m fi ix=q at cw cs;obtain⟨W,X,Y,Z,a0,a1,a2,a4,rfl⟩:=zc4 q cw;have fg:=dD cs;clear cw cs;simp only[pgc,mP,Yf];go_upto_region 8 with fail;obtain⟨F,bg⟩:=kA g8.heap.size;obtain⟨i0,bm⟩:=kB (g8.alloc (Xk #[U8 W,U8 X,U8 Y,U8 Z,U8 a0,U8 a1,U8 a2,U8 a4] 44));have h6:=gT bm f8;have j2:Xo (zt i0 F 44 (pgc [W,X,Y,Z,a0,a1,a2,a4])):=dD<|by rw[<-bm];exact zt.aE _ (pgc [W,X,Y,Z,a0,a1,a2,a4]) _ bg.symm
 have bf:Xo (hi<=F):=dD<|by rw[<-bg.out];exact(c8.aA f8).rows.hw
 have cb:Xo (w.heap.size<=F):=dD<|by rw[<-bg.out];exact bS f8.out
 have c4:Xo (b≠F):=dD<|by have:=c8.box.box.lt;have:=cb.out;omega
 have he:=dD (c8.aA h6);have ip:Xo (zI hi w i0):=zI.aA h6.out;rw[bm,bg.out];clear bm;have ej:=qT 2 he.out;go_wp2_with fail;refine ej.mono ?_;clear ej;rintro e j5 ⟨h3,iw,y,rfl,eq,cg,gy,jx,jy,yn,ib⟩;have fy:=dD eq;have ha:=dD (ip.trans (he.keeps cg));have ht:Xo (zt j5 F 44 (pgc [W,X,Y,Z,a0,a1,a2,a4])):=j2.beside cg (fun ak e=>by cases e;exact fun t=>c4.out t.symm);have dj:=dD ib;clear eq cg gy jx jy yn ib;go_upto_if 46 with fail
 go_cut [10,11] (fun gv jo d9=>∃(av:Bool) (q:List Int) (b8:Sli) (d3:List Int),gv= Xh av/\Xo (Mk w0 hi d9 b b8 d3 V m vt T)/\Xo (zt d9 F 44 (pgc q))/\Xo (q.length=8)/\Xo (zI hi w d9)/\Xo (J0 L d3)/\Xo (zq7 m fi ix q av))
 case first=>
  by_cases f3:y=1
  ·have gn:(y == 1)=Xc:=by simp[f3]
   clear f3;have ei:=zdy fy.out;go_wp2_with fail;refine ei.mono ?_;clear ei;rintro e j6 ⟨ey,hd,ih,rfl,et,er,ch,eo⟩;have iy:=dD er;have iq:=dD (ha.trans (fy.keeps ch));have hu:Xo (zt j6 F 44 (pgc [W,X,Y,Z,a0,a1,a2,a4])):=ht.beside ch (fun ak e=>by cases e;exact fun t=>c4.out t.symm);have fw:=dD (dj.trans eo);have hw:=dD et;clear er ch eo et;go_wp2_with (refine z6 rfl 44 (.tmp 9) (.tmp 48) rfl F rfl (pgc ih) rfl hu (by simp[pgc,hw.out]) zsB (qJ _) ?_)
   intro jz dv cr _;have iz:=dD<|iy.page hu bf cr;have ir:=dD<|iq.own cr cb.out;have j3:=dD dv;clear dv cr;go_wp2;go_loopg [49] 8 (fun dr gx wr=>∃(i:Nat) (q:List Int),i<=8/\8 - i<=dr/\gx=I6 i/\Xo (Mk w0 hi wr b ey hd V m vt T)/\Xo (zt wr F 44 (pgc q))/\Xo (q.length=8)/\Xo (zI hi w wr)/\Xo (zoo q ix f.size i))
   exact⟨0,ih,nZ _,Wm,rfl,iz,j3,hw,ir,fun j am=>absurd am (nL _)⟩;obtain⟨i,q,jj,jg,rfl,au,ah,ai,cc,bx⟩:=hrel;by_cases bv:i<8
   ·have cy:(i:Int)<8:=Wm
    obtain⟨ik,f4⟩:∃ik,q[i]? =Xa ik:=⟨_,gE (Rx ai.out bv)⟩;have kb:=ah.box.c i (zhC f4);have kc:=ah.box.f;have e9:=au.rows.at.fl;have f6:=au.box.box.c 8 rfl;obtain⟨_,_,b0,_,K⟩:=qE.rows e9;have ek:za0 wr V.fl.a m.fl:=by
     simp only[vJ]at b0;rw[b0.1];exact K
    have gl:V.fl.n=m.fl.length:=by
     simp only[vJ]at b0;exact b0.2.1
    obtain⟨gb,el,k4,k5,_,ef⟩:=ek fi f f0.out;obtain⟨gd,-⟩:=ef wr (zc.refl _);obtain⟨gf,bu⟩:=kB V.fl.n;have jf:(fi:Int)< (gf:Int):=by
     have:=(gS.1 f0).1;omega
    (try simp only[Sli.x]at f6);rw[el,bu]at f6;clear e9 b0 K ek gl el ef bu f4;by_cases co:f.size<=8*(ix:Int)+(i:Int)
    ·have gk:decide (f.size<=8*(ix:Int)+(i:Int))=Xc:=Si co
     have de:Xo (wr.grownBy (wr.setCell ⟨F,i,Xb⟩ (U8 0)) (Xa F)):=⟨rfl,rfl,rfl,by simp[World.setCell],fun k _ G=>Below.heap_setCell _ _ _ _ (fun e=>G (by rw[e]))⟩;have j4:Xo (zt (wr.setCell ⟨F,i,Xb⟩ (U8 0)) F 44 (pgc (q.set i 0))):=dD (by rw[zea];exact ah.set i _);have g2:=dD<|au.page ah bf de.out;have ft:=dD<|cc.own de cb.out;have f7:Xo (zoo (q.set i 0) ix f.size (i+1)):=show zoo _ _ _ _ from bx.set (Rx ai.out bv);go_wp2;go_roundg (8 -(i+1));exact⟨i+1,q.set i 0,Wm,Wm,Gn,g2,j4,(show(q.set i 0).length=8 by rw[Xt];exact ai),ft,f7⟩;omega
    have gk:decide (f.size<=8*(ix:Int)+(i:Int))=Xd:=Si co;have f7:=dD<|bx.next co;go_wp2;go_roundg (8 -(i+1));exact⟨i+1,q,Wm,Wm,Gn,au,ah,ai,cc,f7⟩;omega
   have cy:¬(i:Int)<8:=Wm;have jd:i=8:=Wm;subst jd;have c5:Xo (zq7 m fi ix q Xc):=dD<|⟨by rw[zqc f0.out];exact bx.all ai,fun e=>Bool.noConfusion e⟩;go_wp2;go_meet;exact⟨Xc,q,ey,hd,rfl,au,ah,ai,cc,fw,c5⟩
  have gn:(y == 1)=Xd:=by simp[f3]
  clear f3;go_wp2;go_meet;exact⟨Xd,[W,X,Y,Z,a0,a1,a2,a4],h3,iw,rfl,fy,ht,rfl,ha,dj,fg⟩
 obtain⟨av,q,ex,fv,rfl,fz,g4,g6,fq,dk,c5⟩:=hcut;obtain⟨W,X,Y,Z,a0,a1,a2,a4,rfl⟩:=zc4 q g6.out;go_upto_region 16 with fail;obtain⟨N,i8⟩:∃N:Xn->Prop,N=fun u=>zt u F 44 (pgc [W,X,Y,Z,a0,a1,a2,a4]):=⟨_,rfl⟩;have x:Xo (∀u,N u↔zt u F 44 (pgc [W,X,Y,Z,a0,a1,a2,a4])):=dD<|fun u=>by rw[i8]
 clear i8;have a9:=(x _).2 (g4.aA (gW _));have cl:MkE w0 hi b w L V m vt T wc.drew:=⟨ex,fv,fz.aA (gW _),dk.out,fq.trans (zI.aA (gW _))⟩;have dz:=fun y:zg N=>((x _).1 y.holds).box.c 0 rfl;have e0:=fun y:zg N=>((x _).1 y.holds).box.c 1 rfl;have e3:=fun y:zg N=>((x _).1 y.holds).box.c 2 rfl;have e4:=fun y:zg N=>((x _).1 y.holds).box.c 3 rfl;have e5:=fun y:zg N=>((x _).1 y.holds).box.c 4 rfl;have e6:=fun y:zg N=>((x _).1 y.holds).box.c 5 rfl;have e7:=fun y:zg N=>((x _).1 y.holds).box.c 6 rfl;have e8:=fun y:zg N=>((x _).1 y.holds).box.c 7 rfl;have bn:Nonempty (zg N):=⟨⟨_,a9⟩⟩;refine zQ (I:=N) 10 [(3,fun r=>∃B:Int,r=I6 B),(9,fun r=>r=I6 (-1)\/∃j:Nat,r=I6 (j:Int))] (fun u=>MkE w0 hi b w L V m vt T u) a9 cl z3 Kr rfl rfl Dc (Sb ⟨_,0,rfl⟩ ⟨_,.inl rfl⟩) Kr ?_;simp only[Xv,Xw];iterate 3 refine zi ?_
 refine zH rfl rfl (fun _ u=>MkE w0 hi b w L V m vt T u) (fun w' z ck=>?_) (fun d8 ao=>?_);·obtain⟨b8,d3,bq,bp,bo⟩:=ck;refine zN.call [Xj (Xa ⟨b,0,Xb⟩),I6 2] rfl func22 rfl rfl rfl ?_;refine(qT 2 bq).mono ?_;rintro e h4 ⟨gz,iv,B,rfl,gu,ds,_,_,_,_,gs⟩;exact⟨_,rfl,(x _).2 (((x _).1 z).beside ds (fun ak e=>by cases e;exact fun t=>c4.out t.symm)),⟨B,rfl⟩,gz,iv,gu,bp.trans gs,bo.trans (bq.keeps ds)⟩
 obtain⟨B,rfl⟩:=ao;refine Uq ?_;iterate 5 refine zi ?_
 refine zH rfl rfl (fun r u=>(r=I6 (-1)/\MkE w0 hi b w L V m vt T u)\/∃(j:Nat) (q:Fr),r=I6 (j:Int)/\m.fs[j]? =Xa q/\q.r=0/\MkE w0 hi b w L V { m with fs:=m.fs.set j ⟨⟨W,X,Y,Z,a0,a1,a2,a4⟩,1,B == 1,av,(fi:Int),(ix:Int)⟩ } vt T u) (fun w' z ck=>?_) (fun d8 ao=>?_)
 ·obtain⟨b8,d3,bq,bp,bo⟩:=ck;refine zN.call [Xj (Xa ⟨b,0,Xb⟩),Xi (frv ⟨⟨W,X,Y,Z,a0,a1,a2,a4⟩,1,B == 1,av,(fi:Int),(ix:Int)⟩).toArray] rfl func97 rfl rfl rfl ?_;refine(zh9 ⟨⟨W,X,Y,Z,a0,a1,a2,a4⟩,1,B == 1,av,(fi:Int),(ix:Int)⟩ bq ⟨fun e=>by have:(fi:Int)=-1:=e;omega,fun _ _=>c5.out⟩).mono ?_;rintro e h4 (⟨rfl,cj⟩|⟨j,q,rfl,d7,bw,cj⟩);·have cv:=cj;obtain⟨_,_,_,_,gr⟩:=cv;exact⟨_,rfl,(x _).2 (gr.1 F _ _ ((x _).1 z) (zkk bf)),.inl rfl,.inl ⟨rfl,cj.trans bp bo⟩⟩
  have cv:=cj;obtain⟨_,_,_,_,gr⟩:=cv;exact⟨_,rfl,(x _).2 (gr.1 F _ _ ((x _).1 z) (zkk bf)),.inr ⟨j,rfl⟩,.inr ⟨j,q,rfl,d7,bw,cj.trans bp bo⟩⟩
 rcases ao with rfl|⟨j,rfl⟩
 ·refine Uq ?_;refine qV fun g9 cm ax=>?_;have im:Xo (MkE w0 hi b w L V m vt T g9):=dD<|by
   rcases ax with⟨_,t⟩|⟨j,q,e,_⟩;·exact t
   simp only[Value.int.injEq,true_and]at e;omega
  clear ax cm a9 cl bn dz e0 e3 e4 e5 e6 e7 e8;go_wp2;go_ret;exact .inl ⟨rfl,im⟩
 refine Uq ?_;refine qV fun g9 cm ax=>?_;obtain⟨q,d7,bw,b9,dl,es,ep,en⟩:∃q:Fr,m.fs[j]? =Xa q/\q.r=0/\MkE w0 hi b w L V { m with fs:=m.fs.set j ⟨⟨W,X,Y,Z,a0,a1,a2,a4⟩,1,B == 1,av,(fi:Int),(ix:Int)⟩ } vt T g9:=by
  rcases ax with⟨e,_⟩|⟨jm,q,e,d7,bw,cj⟩;·simp only[Value.int.injEq,true_and]at e;omega
  simp only[Value.int.injEq,true_and]at e;obtain rfl:j=jm:=Wm;exact⟨q,d7,bw,cj⟩
 have io:=dD d7;have fl:=dD bw;have g2:=dD es;have ft:=dD en;have fx:=dD ep;clear ax cm a9 cl bn d7 bw es ep en dz e0 e3 e4 e5 e6 e7 e8;have jk:¬(j:Int)<0:=Wm;go_wp2;go_loopg [13] C (fun dr cz wr=>∃d:Nat,d<=C/\C - d<=dr/\cz=I6 d/\Xo (Mk w0 hi wr b b9 dl V { m with fs:=m.fs.set j ⟨⟨W,X,Y,Z,a0,a1,a2,a4⟩,1,B == 1,av,(fi:Int),(ix:Int)⟩ } vt T)/\Xo (zI hi w wr)/\Xo (∀(i:Nat) c,i<d->m.ca[i]? =Xa c->decide (zY c<zY ⟨(fi:Int),(ix:Int),(j:Int)⟩)=Xc))
 exact⟨0,nZ _,Wm,rfl,g2,ft,fun i c hi=>absurd hi (nL _)⟩;obtain⟨d,ay,aa,rfl,dm,fu,dn⟩:=hrel;have S:=dm.box.box.c 10 rfl;(try simp only[Sli.x]at S);rw[c9.out,ag.out]at S;go_upto_region 20 with fail;go_cut [13,116] (fun cz ev d9=>cz=I6 d/\∃ew:Bool,ev= Xh ew/\Xo (Mk w0 hi d9 b b9 dl V { m with fs:=m.fs.set j ⟨⟨W,X,Y,Z,a0,a1,a2,a4⟩,1,B == 1,av,(fi:Int),(ix:Int)⟩ } vt T)/\Xo (zI hi w d9)/\Xo (ew=Xc->d<C/\∀c,m.ca[d]? =Xa c->decide (zY c<zY ⟨(fi:Int),(ix:Int),(j:Int)⟩)=Xc)/\Xo (ew=Xd->∀B,m.ca[d]? =Xa B->decide (zY B<zY ⟨(fi:Int),(ix:Int),(j:Int)⟩)=Xd))
 case first=>
  by_cases ab:d<C
  ·have R:=kC ab
   obtain⟨c,bs⟩:∃c,Xo (m.ca[d]? =Xa c):=⟨_,gE (Rx a5.out ab)⟩;obtain⟨gc,rfl,ed⟩:=dc.out wr ⟨b9,dl,{ m with fs:=m.fs.set j ⟨⟨W,X,Y,Z,a0,a1,a2,a4⟩,1,B == 1,av,(fi:Int),(ix:Int)⟩ },rfl,dm⟩ d c bs.out;obtain⟨gd,i4,ge⟩:=ed wr (zc.refl _);obtain⟨k0,k1,k2,k3,-⟩:=da.out c (mG bs);clear ed ge;by_cases G:100*c.file+c.idx<100*(fi:Int)+(ix:Int)
   ·have cu:decide (100*c.file+c.idx<100*(fi:Int)+(ix:Int))=Xc:=Si G
    have ea:decide ((d:Int)< (C:Int))=Xc:=Si R;have ar:Xo (∀B,m.ca[d]? =Xa B->decide (zY B<zY ⟨(fi:Int),(ix:Int),(j:Int)⟩)=Xc):=dD<|fun B ap=>by
     rw[bs.out]at ap;cases ap;exact cu
    clear G;go_quiet (fail);go_wp2;go_meet;exact⟨rfl,Xc,rfl,dm.aA (show Below _ _ _ from bD (bR _ _) _),fu.trans (zI.aA (show Below _ _ _ from bD (bR _ _) _)),fun _=>⟨ab,ar⟩,(fun t=>nomatch t)⟩
   have cu:decide (100*c.file+c.idx<100*(fi:Int)+(ix:Int))=Xd:=Si G;have ea:decide ((d:Int)< (C:Int))=Xc:=Si R;have ar:Xo (∀B,m.ca[d]? =Xa B->decide (zY B<zY ⟨(fi:Int),(ix:Int),(j:Int)⟩)=Xd):=dD<|fun B ap=>by
    rw[bs.out]at ap;cases ap;exact cu
   clear G;go_quiet (fail);go_wp2;go_meet;exact⟨rfl,Xd,rfl,dm.aA (show Below _ _ _ from bD (bR _ _) _),fu.trans (zI.aA (show Below _ _ _ from bD (bR _ _) _)),(fun t=>nomatch t),fun _=>ar.out⟩
  have R:=kD ab;have ea:decide ((d:Int)< (C:Int))=Xd:=Si R;have ar:Xo (∀B,m.ca[d]? =Xa B->decide (zY B<zY ⟨(fi:Int),(ix:Int),(j:Int)⟩)=Xd):=dD<|fun B ap=>by
   have:=(gS.1 ap).1;have:=a5.out;omega
  go_quiet (fail);go_wp2;go_meet;exact⟨rfl,Xd,rfl,dm.aA (show Below _ _ _ from bD (bR _ _) _),fu.trans (zI.aA (show Below _ _ _ from bD (bR _ _) _)),(fun t=>nomatch t),fun _=>ar.out⟩
 clear S;obtain⟨rfl,ew,rfl,d4,hb,fp,fo⟩:=hcut;cases ew with
 | true=>
  obtain⟨ab,az⟩:=fp.out rfl;have g3:Xo (∀(i:Nat) c,i<d+1->m.ca[i]? =Xa c->decide (zY c<zY ⟨(fi:Int),(ix:Int),(j:Int)⟩)=Xc):=dD<|fun i aj ji al=>by
   by_cases e:i=d;·subst e;exact az aj al
   exact dn i aj Wm al
  clear az;go_wp2;go_roundg (C -(d+1));exact⟨d+1,Wm,Wm,Gn,d4,hb,g3⟩;omega
 | false=>
  have fn:=dD<|fo.out rfl;have bh:Xo (Z4 m.ca ⟨(fi:Int),(ix:Int),(j:Int)⟩=m.ca.take d++ [⟨(fi:Int),(ix:Int),(j:Int)⟩]++m.ca.drop d):=dD<|by
   obtain⟨jb,jc⟩:=zj7 (p:=fun ja=>decide (zY ja<zY ⟨(fi:Int),(ix:Int),(j:Int)⟩)) (l:=m.ca) (k:=d) dn fn (Rx a5.out ay);unfold Z4;rw[jb,jc];simp
  go_upto_region 22 with fail;obtain⟨M,f9⟩:=kA (m.ca.take d);obtain⟨bz,ff⟩:=kA (m.ca.drop d);rw[f9.out,ff.out]at bh;have H:Xo (M.length=d):=dD (by rw[<-f9.out,List.length_take,a5.out];omega);have fh:Xo (bz.length=C - d):=dD (by rw[<-ff.out,List.length_drop,a5.out]);obtain⟨P,bb⟩:∃P:Ca,Xo (P=⟨(fi:Int),(ix:Int),(j:Int)⟩):=⟨_,rfl⟩;rw[<-bb.out]at bh;obtain⟨d5,fk⟩:=kA ((M++ [P]++bz).length);obtain⟨N,x⟩:=Ww fun u=>zc wc u;have a9:=(x _).2 (gW _);have bn:Nonempty (zg N):=⟨⟨_,a9⟩⟩;have ac:∀y:zg N,y.world.cell? ⟨b,10,Xb⟩=Xa (O a8 C V.ca.c):=fun y=>by
   have:=(d4.box.box.aA ((x _).1 y.holds)).c 10 rfl;(try simp only[Sli.x]at this);rw[c9.out,ag.out]at this;exact this
  have di:Xo (zr jA wc (O a8 C V.ca.c) m.ca):=dD<|by
   have:=d4.rows.ca.at;(try dsimp only at this);rw[c9.out,ag.out]at this;exact this
  have b7:=fun cf=>zoF (w:=cf) (a:=a8) (n:=C) (c:=V.ca.c) (k:=d) (nT ay db);have K:=fun cf=>zoH (w:=cf) (a:=a8) (n:=C) (c:=V.ca.c) (k:=d) ay;obtain⟨i5,cp⟩:=kB ((a8:Option Addr).map fun gb=>if V.ca.c=d then gb else gb.add (d*3));have fm:Xo (zr jA wc (O a8 d V.ca.c) M):=dD<|Ry f9.out (di.upto ay);have dh:Xo (zr jA wc (O i5 (C - d) (V.ca.c - d)) bz):=dD (by rw[<-ff.out,<-cp];exact di.from ay db.out);rw[cp]at K;clear cp;obtain⟨jn,fj⟩:=kA (C - d);obtain⟨j9,fe⟩:=kA (V.ca.c - d);rw[fj.out,fe.out]at K dh;refine qZ (I:=N) 27 [(1,⟨fun r=>∃ak,r= O (Xa ⟨ak,0,Xb⟩) 0 0,fun r w'=>zb jA wc.heap.size w' r [],fun p q=>zc p q,fun _=>True⟩),(9,⟨fun r=>(∃a c,r= O a d c)/\(d=0->∃ak,r= O (Xa ⟨ak,0,Xb⟩) 0 0),fun r w'=>zb jA wc.heap.size w' r M,fun p q=>zc p q,fun _=>True⟩),(14,⟨fun r=>∃ak,r= O (Xa ⟨ak,0,Xb⟩) 1 1,fun r w'=>zb jA wc.heap.size w' r [P],fun p q=>zc p q,fun _=>True⟩),(15,⟨fun r=>∃a c,r= O a (d+1) c,fun r w'=>zb jA wc.heap.size w' r (M++ [P]),fun p q=>(∀u m,m.length<=d\/m.length<=1->zb jA wc.heap.size p u m->zb jA wc.heap.size q u m),fun _=>True⟩),(23,⟨fun r=>∃a c,r= O a d5 c,fun r w'=>zb jA wc.heap.size w' r (M++ [P]++bz),fun p q=>(∀u m,m.length<=d+1->zb jA wc.heap.size p u m->zb jA wc.heap.size q u m),fun _=>True⟩)] a9 z3 Kr rfl rfl Dc ?hS ?hp ?hpre ?hpr0 ?_;case hS=>
   intro B ap;simp only[mC,nM,or_false]at ap;rcases ap with rfl|rfl|rfl|rfl|rfl;·exact⟨_,0,rfl⟩
   ·by_cases bi:d=0
    ·exact⟨O (Xa ⟨0,0,Xb⟩) 0 0,⟨Xa ⟨0,0,Xb⟩,0,by rw[bi]⟩,fun _=>⟨0,rfl⟩⟩
    exact⟨O Xb d 0,⟨_,_,rfl⟩,fun t=>absurd t bi⟩
   ·exact⟨_,0,rfl⟩
   ·exact⟨_,Xb,0,rfl⟩
   exact⟨_,Xb,0,rfl⟩
  case hp=>
   intro k s j ii G am an du r p q g h;have b5:=zC G;have Q:=zC am;clear G am;simp only[mC,pJ,nM,or_false]at b5 Q;rcases b5 with⟨rfl,rfl⟩|⟨rfl,rfl⟩|⟨rfl,rfl⟩|⟨rfl,rfl⟩|⟨rfl,rfl⟩
   ·rcases Q with⟨rfl,rfl⟩|⟨rfl,rfl⟩|⟨rfl,rfl⟩|⟨rfl,rfl⟩|⟨rfl,rfl⟩
    ·exact absurd rfl an
    ·exact zb.aA h g
    ·exact zb.aA h g
    ·exact g r [] (.inl (nZ _)) h
    exact g r [] (nZ _) h
   ·rcases Q with⟨rfl,rfl⟩|⟨rfl,rfl⟩|⟨rfl,rfl⟩|⟨rfl,rfl⟩|⟨rfl,rfl⟩
    ·exact zb.aA h g
    ·exact absurd rfl an
    ·exact zb.aA h g
    ·exact g r M (.inl (by rw[H.out];exact nR _)) h
    exact g r M (by rw[H.out];omega) h
   ·rcases Q with⟨rfl,rfl⟩|⟨rfl,rfl⟩|⟨rfl,rfl⟩|⟨rfl,rfl⟩|⟨rfl,rfl⟩
    ·exact zb.aA h g
    ·exact zb.aA h g
    ·exact absurd rfl an
    ·exact g r [P] (.inr (nR _)) h
    exact g r [P] Sm h
   ·rcases Q with⟨rfl,rfl⟩|⟨rfl,rfl⟩|⟨rfl,rfl⟩|⟨rfl,rfl⟩|⟨rfl,rfl⟩
    ·exact zb.aA h g
    ·exact zb.aA h g
    ·exact zb.aA h g
    ·exact absurd rfl an
    exact g r (M++ [P]) (by rw[lA,H.out];simp) h
   rcases Q with⟨rfl,rfl⟩|⟨rfl,rfl⟩|⟨rfl,rfl⟩|⟨rfl,rfl⟩|⟨rfl,rfl⟩;·exact zb.aA h g
   ·exact zb.aA h g
   ·exact zb.aA h g
   ·exact Bool.noConfusion (du.symm.trans (show _=Xc by kernel_rfl))
   exact absurd rfl an
  case hpre=>
   intro j ii k s am G an p q g b6;have Q:=zC am;clear G am;simp only[mC,pJ,nM,or_false]at Q;rcases Q with⟨rfl,rfl⟩|⟨rfl,rfl⟩|⟨rfl,rfl⟩|⟨rfl,rfl⟩|⟨rfl,rfl⟩ <;> trivial
  case hpr0=>
   intro k ii G;have b5:=zC G;clear G;simp only[mC,pJ,nM,or_false]at b5;rcases b5 with⟨rfl,rfl⟩|⟨rfl,rfl⟩|⟨rfl,rfl⟩|⟨rfl,rfl⟩|⟨rfl,rfl⟩ <;> trivial
  simp only[Xv,Xw];refine zs ?_;refine zR rfl rfl (fun w' z b6 aw=>?_) (fun d8 ao=>?_);·have U:=(x _).1 z;refine zN.step (v:= O (Xa ⟨w'.heap.size,0,Xb⟩) 0 0) (w':=w'.alloc (Xk #[] 108)) (by simp only[execOp];go_simp) ⟨(x _).2 (U.trans (za _ _)),za _ _,⟨_,rfl⟩,(zb.made jA w').base (bS U)⟩
  obtain⟨i6,rfl⟩:=ao;refine Uq ?_;refine zs ?_;refine Q2 (.tmp 121) ⟨b,0,Xb⟩ rfl rfl rfl rfl ?_;refine Uq ?_;iterate 5 refine zs ?_
  refine zR rfl rfl (fun w' z b6 aw=>?_) (fun d8 ao=>?_)
  ·have U:=(x _).1 z;have bi:zb jA wc.heap.size w' (O (Xa ⟨i6,0,Xb⟩) 0 0) []:=aw 1 Kr;obtain⟨br,af,A,aq,aa,f4⟩:=Qj (E:=jA) (w:=w') 38 bi (O a8 d V.ca.c) M (fm.aA U) (bS U);obtain⟨bt,aj,rfl⟩:=aq.form;refine zN.step (v:= O bt M.length aj) (w':=af) ?_ ⟨(x _).2 (U.trans aa),aa,⟨⟨bt,aj,by rw[H.out]⟩,fun t=>⟨i6,f4 (eN (Rx H.out t))⟩⟩,aq⟩;clear ac b7 K;simp only[execOp,resolve,invoke,builtin,pure_bind,Xs,Xy,Yi,mP,Yf];exact Eq.trans (congrArg (fun eu=>Result.andThen eu (fun a w'=>Result.ok (Next.value a) w')) A) rfl
  obtain⟨⟨i1,i3,rfl⟩,gp⟩:=ao;refine Uq ?_;iterate 4 refine zs ?_
  refine zR rfl rfl (fun w' z b6 aw=>?_) (fun d8 ao=>?_);·have U:=(x _).1 z;have eh:=(zlc w' P).base (bS U);rw[bb.out]at eh;refine zN.step (v:= O (Xa ⟨w'.heap.size,0,Xb⟩) 1 1) (w':=w'.alloc (Xk #[I6 (fi:Int),I6 (ix:Int),I6 (j:Int)] 108)) (by clear ac b7 K;simp only[execOp];go_simp) ⟨(x _).2 (U.trans (za _ _)),za _ _,⟨_,rfl⟩,Rx bb.out eh⟩
  obtain⟨f2,rfl⟩:=ao;refine Uq ?_;refine zR rfl rfl (fun w' z b6 aw=>?_) (fun d8 ao=>?_)
  ·have U:=(x _).1 z;have f5:zb jA wc.heap.size w' (O i1 d i3) M:=aw 9 Kr;have ic:zb jA wc.heap.size w' (O (Xa ⟨f2,0,Xb⟩) 1 1) [P]:=aw 14 Kr;have gq:∃br af,(Builtin.append_ #[38,38] 38 #[O i1 d i3,O (Xa ⟨f2,0,Xb⟩) 1 1]).run prog w'= .ok br af/\zb jA wc.heap.size af br (M++ [P])/\zc wc af/\∀u m,m.length<=d\/m.length<=1->zb jA wc.heap.size w' u m->zb jA wc.heap.size af u m:=by
    by_cases bi:d=0
    ·have em:M=[]:=eN (Rx H.out bi)
     obtain⟨ak,eb⟩:=gp bi;rw[eb,em]at f5;rw[eb,em];obtain⟨br,af,A,aq,aa,_⟩:=Qj (E:=jA) (w:=w') 38 f5 (O (Xa ⟨f2,0,Xb⟩) 1 1) [P] ic.at (bS U);exact⟨br,af,A,aq,U.trans aa,fun u m _ t=>t.aA aa⟩
    obtain⟨br,af,A,aq,ct,G⟩:=jO (E:=jA) (w:=w') 38 f5 (O (Xa ⟨f2,0,Xb⟩) 1 1) [P] ic.at (by rw[H.out];show(d+1)*24<=_;omega) (bS U);refine⟨br,af,A,aq,z2 U ct (fun ak cq=>(f5.lt ak cq).1),fun u m ia t=>G u m ?_ t⟩;rw[H.out];omega
   obtain⟨br,af,A,aq,aa,G⟩:=gq;obtain⟨bt,aj,rfl⟩:=aq.form;refine zN.step (v:= .slice bt (M++ [P]).length aj) (w':=af) ?_ ⟨(x _).2 aa,G,⟨bt,aj,by rw[lA,H.out];rfl⟩,aq⟩;clear ac b7 K;simp only[execOp,resolve,invoke,builtin,pure_bind,Xs,Xy,Yi,mP,Yf];exact Eq.trans (congrArg (fun eu=>Result.andThen eu (fun a w'=>Result.ok (Next.value a) w')) A) rfl
  obtain⟨j7,j8,rfl⟩:=ao;refine Uq ?_;refine zs ?_;refine Q2 (.tmp 135) ⟨b,0,Xb⟩ rfl rfl rfl rfl ?_;refine Uq ?_;iterate 5 refine zs ?_
  refine zR rfl rfl (fun w' z b6 aw=>?_) (fun d8 ao=>?_)
  ·have U:=(x _).1 z;have ie:zb jA wc.heap.size w' (O j7 (d+1) j8) (M++ [P]):=aw 15 Kr;have ee:(M++ [P]).length=d+1:=(by rw[lA,H.out];rfl);obtain⟨br,af,A,aq,ct,G⟩:=jO (E:=jA) (w:=w') 38 ie (O i5 jn j9) bz (dh.aA U) (by rw[ee,fh.out];show(d+1+(C - d))*24<=_;omega) (bS U);obtain⟨bt,aj,rfl⟩:=aq.form;refine zN.step (v:= .slice bt (M++ [P]++bz).length aj) (w':=af) ?_ ⟨(x _).2 (z2 U ct (fun ak cq=>(ie.lt ak cq).1)),(fun u m ia t=>G u m (Rx ee ia) t),⟨bt,aj,by rw[fk.out]⟩,aq⟩;clear ac b7 K;simp only[execOp,resolve,invoke,builtin,pure_bind,Xs,Xy,Yi,mP,Yf];exact Eq.trans (congrArg (fun eu=>Result.andThen eu (fun a w'=>Result.ok (Next.value a) w')) A) rfl
  obtain⟨dp,dq,rfl⟩:=ao;refine Uq ?_;refine Q2 (.tmp 119) ⟨b,0,Xb⟩ rfl rfl rfl rfl ?_;refine Uq ?_;iterate 2 refine zs ?_
  refine ZD fun ga dt aw=>?_;have ig:=aw 23;have gh:=(x _).1 dt;have f1:=dD (d4.aA gh);have it:=dD (hb.trans (zI.aA gh));have j1:=dD ig;have fb:=dD<|bS d4.gr;have fc:=dD d4.box.box.lt;clear ig gh aw dt ac b7 K bn a9;have ij:=f1.box.box.c 10 rfl;(try simp only[Sli.x]at ij);rw[c9.out,ag.out]at ij;have ka:=f1.box.box.f;have be:Xo (ga.grownBy (ga.setCell ⟨b,10,Xb⟩ (O dp d5 dq)) (Xa b)):=⟨rfl,rfl,rfl,by simp[World.setCell],fun k _ G=>Below.heap_setCell _ _ _ _ (fun e=>G (by rw[e]))⟩;have j0:Xo (Mk w0 hi (ga.setCell ⟨b,10,Xb⟩ (O dp d5 dq)) b b9 dl { V with ca:=⟨dp,d5,dq⟩ } { m with fs:=m.fs.set j ⟨⟨W,X,Y,Z,a0,a1,a2,a4⟩,1,B == 1,av,(fi:Int),(ix:Int)⟩,ca:=Z4 m.ca ⟨(fi:Int),(ix:Int),(j:Int)⟩ } vt T):=dD<|by
   have bj:=f1.out;refine⟨zd bj.gr be bj.hb,bj.hb,bj.box.set 10 _,bj.lr,bj.lc,bj.lb,?_⟩;have bw:=bj.rows.var be bj.box be.size (.inl rfl);have:=bw.setCa (s:=⟨dp,d5,dq⟩) (ca:=M++ [P]++bz) ((j1.setCell (by have:=fc.out;simp;omega) _).base fb);rw[bb.out]at this bh;rw[bh.out];exact this
  have iu:=dD (it.trans (f1.keeps be));go_wp2;go_ret;exact .inr (.inr ⟨j,rfl,q,_,_,_,⟨dp,d5,dq⟩,io,fl,df,b9,dl,j0,fx,iu⟩)
theorem zoB (f:Nat->En) (n:Nat) (e):tab (jM f n e)=(tab f).set n e:=(zi2 f n e).symm
theorem zcl (f:Nat->En) (a:k<64) (e):zdl.enc (jM f k e)=splice (zdl.enc f) (k*3) (env e):=by show qG (tab (jM f k e))=splice (qG (tab f)) (k*3) (env e);rw[zoB];exact(JG (enc:=env) (k:=3) e rfl (tab f) k (fun _ _=>rfl) (Rx Jt a)).symm
theorem zkf {key:Ca->Int}:∀{l:List Ca} {lo N:Nat},l.Pairwise (fun a b=>key a<key b)->(∀c∈l,(lo:Int)<=key c/\key c< (N:Int))->l.length<=N - lo
 | [],_,_,_,_=>nZ _
 | c :: l,lo,N,h,e=>by
  obtain⟨g,d⟩:=Yy.1 h;have f:=e c Sm
  have f:=zkf (lo:=(key c).toNat+1) (N:=N) d (fun d f=>by
   have:=g d f;have:=e d (by simp[f])
   omega)
  simp only[Yg];omega
section
variable{m:Ma} {T:List (Nat->En)}
theorem qF.bZ (h:qF m T):(∀c∈m.ca,0<=c.file/\c.file<=1000/\0<=c.idx/\c.idx<=1000/\0<=c.fr/\c.fr<m.fs.length)/\m.ca.length<=1000/\∀c∈m.ca,∃(k:Nat) (fr:Fr),c.fr=(k:Int)/\m.fs[k]? =Xa fr/\fr.f=c.file/\fr.x=c.idx:=by
 obtain⟨i,p,j⟩:=zo.1 h.ca;have e:∀c∈m.ca,(0<=c.file/\c.file<5/\0<=c.idx/\c.idx<12/\0<=c.fr/\c.fr<m.fs.length)/\(zX m c.fr).f=c.file/\(zX m c.fr).x=c.idx:=fun c a=>by
  have b:=i c a;unfold caE at b;split at b;·cases b
  rename_i r
  split at b;·cases b
  rename_i n
  have q:=h.cK (file:=c.file) Wm Wm;refine⟨Wm,?_,?_⟩;·grind
  grind
 refine⟨fun c a=>?_,?_,fun c a=>?_⟩;·grind
 ·refine nT (zkf (key:=zY) (lo:=0) (N:=1000) j fun c a=>?_) (nR _)
  have:=(e c a).1;unfold zY;omega
 obtain⟨s,f,g⟩:=e c a;have d:c.fr.toNat<m.fs.length:=Wm;have l:zX m c.fr=m.fs[c.fr.toNat]:=by
  unfold zX;rw[gD,gE d];rfl
 rw[l]at f g;exact⟨c.fr.toNat,m.fs[c.fr.toNat],Wm,gE d,f,g⟩
theorem qF.alone (h:qF m T) {n:Nat} (a:m.sp[k]? =Xa s) (g:(zl s.aC n).is=Xc):-1<=(zl s.aC n).file/\0<=(zl s.aC n).page/\(zl s.aC n).page<=1000/\((zl s.aC n).file<0->(zl s.aC n).sh=Xd):=by have b:=(h.aO s (mG a)).1;have f:=jJ.1 b;obtain⟨i,c,d,b,e⟩:=QZ g;have a:=f.2.all c (mG d);rw[e];unfold jU at a;unfold z5;have b:=jC.1 b;grind
end
section
variable{w0 w w':Xn} {hi b:Nat} {vl:Sli} {L:List Int} {V:MaV} {m:Ma} {vt:Sli} {T:List (Nat->En)}
theorem Mk.bM (h:Mk w0 hi w b vl L V m vt T) (c:(V.f.x).ownBlock=Xa k) (a:w.grownBy w' (Xa k)) (i:w'.heap.size=w.heap.size) {fs:List Fr} (f:zb qR w0.heap.size w' (V.f.x) fs) (d:zfY { m with fs:=fs }):Mk w0 hi w' b vl L V { m with fs:=fs } vt T/\zI hi w w':=by refine⟨⟨zd h.gr a (h.rows.fs.lt k c).1,h.hb,h.box.beside a (fun g e=>by cases e;exact h.rows.fs.ne h.box Dc k c),h.lr,h.lc,h.lb,h.rows.bM c a i f d⟩,?_⟩;obtain⟨d,d⟩:=h.rows.fs.obj c;exact zI.kind a d (fun _ a=>absurd rfl a.2.1)
theorem Mk.cE (h:Mk w0 hi w b vl L V m vt T) (c:(V.s.x).ownBlock=Xa k) (a:w.grownBy w' (Xa k)) (i:w'.heap.size=w.heap.size) {d:List Int} (f:zb slE w0.heap.size w' (V.s.x) d):Mk w0 hi w' b vl L V { m with sl:=d } vt T/\zI hi w w':=by refine⟨⟨zd h.gr a (h.rows.sl.lt k c).1,h.hb,h.box.beside a (fun g e=>by cases e;exact h.rows.sl.ne h.box Dc k c),h.lr,h.lc,h.lb,h.rows.cE c a i f⟩,?_⟩;obtain⟨d,d⟩:=h.rows.sl.obj c;exact zI.kind a d (fun _ a=>absurd rfl a.2.2.1)
theorem Mk.bQ (h:Mk w0 hi w b vl L V m vt T) (c:(vt.x).ownBlock=Xa k) (a:w.grownBy w' (Xa k)) (i:w'.heap.size=w.heap.size) {d:List (Nat->En)} (f:zb zdl w0.heap.size w' (vt.x) d):Mk w0 hi w' b vl L V m vt d/\zI hi w w':=by refine⟨⟨zd h.gr a (h.rows.tt.lt k c).1,h.hb,h.box.beside a (fun g e=>by cases e;exact h.rows.tt.ne h.box Dc k c),h.lr,h.lc,h.lb,h.rows.bQ c a i f⟩,?_⟩;obtain⟨d,d⟩:=h.rows.tt.obj c;exact zI.kind a d (fun _ a=>absurd rfl a.2.2.2.2.2.2.2.1)
theorem Jo (h:zm k w A r) {g:Nat} (a:A.ownBlock=Xa g):k<=g/\∃cs,w.heap[g]? =Xa (Xk cs 44 (0,0)):=by
 rcases h.1.2 with⟨rfl,_⟩|⟨v,r,r,rfl,r,r,_⟩;·cases a
 simp only[Value.ownBlock,Option.some.injEq]at a;grind
theorem Mk.setSb (h:Mk w0 hi w b vl L V m vt T) (c:(V.sb.x).ownBlock=Xa k) (a:w.grownBy w' (Xa k)) (i:w'.heap.size=w.heap.size) (f:zm w0.heap.size w' (V.sb.x) r):Mk w0 hi w' b vl L V { m with sb:=r } vt T/\zI hi w w':=by
 obtain⟨e,r,r⟩:=Jo h.rows.sb c;refine⟨⟨zd h.gr a e,h.hb,h.box.beside a (fun g e=>?_),h.lr,h.lc,h.lb,h.rows.setSb r c a i f⟩,zI.kind a r (fun p a=>?_)⟩
 ·cases e;intro e;subst e;have r:w.heap[b]? =_:=h.box;grind
 have:=a.2.2.2.2.2.2.2.2 rfl;have:=h.rows.bG k c;omega
end
theorem zfq (l:List Xq) (h:k<l.length) (u):splice l k [u]=l.set k u:=by rw[List.set_eq_take_append_cons_drop,kE h];simp[splice]
theorem zb.box (h:zb E k w A y) (v:A.ownBlock=Xa b):∃cs,zt w b E.ty cs:=by obtain⟨cs,a⟩:=h.obj v;exact⟨cs.toList,by unfold zt;rw[a]⟩
theorem zb.bJ (h:zb E k w A y) (v:A.ownBlock=Xa b):∀j,w.frozen? ⟨b,j,Xb⟩=Xd:=by obtain⟨a,a⟩:=h.box v;exact a.box.f
theorem zb.cell {g:Nat} {l:List α} (h:zb E p w A l) {o:Nat} (c:A.ownBlock=Xa g) {x y:α} (f:l[k]? =Xa x) {u:Xq} (s:E.enc y=(E.enc x).set o u) (r:o<E.k):
  zb E p (w.setCell ⟨g,k*E.k+o,Xb⟩ u) A (l.set k y)/\w.grownBy (w.setCell ⟨g,k*E.k+o,Xb⟩ u) (Xa g)/\(w.setCell ⟨g,k*E.k+o,Xb⟩ u).heap.size=w.heap.size:=by
 refine⟨⟨?_,Rx Xt h.2⟩,⟨rfl,rfl,rfl,by simp[World.setCell],fun j _ a=>Below.heap_setCell _ _ _ _ (fun e=>a (by rw[e]))⟩,by simp[World.setCell]⟩;have d:=(gS.1 f).1;refine⟨by rw[Xt,qD,Xt],?_⟩;rcases h.1.2 with⟨rfl,_⟩|⟨e,b,a,rfl,h,i,j,m,n,v⟩;·cases c
 simp only[Value.ownBlock,Option.some.injEq]at c;subst c;have q:zt w e E.ty a.toList:=by unfold zt;rw[i]
 have c:=q.set (k*E.k+o) u;refine .inr ⟨e,b,(a.toList.set (k*E.k+o) u).toArray,by rw[Xt],h,c,Rx Xt j,m,Si n,?_⟩;rw[Xt,List.toList_toArray,List.take_set,v,<-zfq _ ?_ u]
 ·refine J4 o [u] (y:=y) ?_ (by simp;omega) l k f
  rw[s,zfq _ (by rw[E.len];exact r)]
 rw[qD];have:(k+1)*E.k<=l.length*E.k:=Yj _ d;grind
theorem J7:Loc hi k 67:=⟨Dc,Dc,Dc,Dc,Dc,Dc,Dc,Dc,fun h=>absurd h Dc⟩
theorem qF.refs (h:qF m T) (a:m.fs[k]? =Xa X):0<=X.r/\X.r<=2000:=by have b:=(h.cf k X a).1;have a:=zaN T 1 k;have a:zG m.ca k<=m.ca.length:=Yc;have a:=h.bZ.2.1;have a:=h.tl;have a:=h.aI;omega
def Ent (w0:Xn) (hi b:Nat) (w:Xn) (L:List Int) (m:Ma) (vt:Sli) (T:List (Nat->En)) (p n:Nat) (f:Nat->En) (w':Xn):Prop:=∃vl' L' V' m' T',Mk w0 hi w' b vl' L' V' m' vt T'/\J0 L L'/\zI hi w w'/\qF m' T'/\(m'.sp=m.sp/\m'.fl=m.fl/\m'.aB=m.aB/\m'.fs.length=m.fs.length)/\(T'=T\/∃e,T'=T.set p (jM f n e))/\(L=[]->m'=m/\T'=T)
theorem Ent.same (p n:Nat) (f:Nat->En) (i:qF m T) (h:MkE w0 hi b w L V m vt T w'):Ent w0 hi b w L m vt T p n f w':=by obtain⟨a,c,d,e,g⟩:=h;exact⟨a,c,V,m,T,d,e,g,i,⟨rfl,rfl,rfl,rfl⟩,.inl rfl,fun _=>⟨rfl,rfl⟩⟩
theorem znH (p n:Nat) (s:Sp) (f:Nat->En) (x:On) (h:Mk w0 hi w b vl L V m vt T) (hB:qF m T) (hs:m.sp[p]? =Xa s) (hT:T[p]? =Xa f) (hn:n<64) (h0:f n=en0) (hx:zl s.aC n=x) (his:x.is=Xc) (hfi:ZA m.fl.length s.aC):
  Xp prog 61 #[Xj (Xa ⟨b,0,Xb⟩),I6 (p:Int),I6 (n:Int),Xi (onv x).toArray] w fun e w'=>(∃v,e= Xl v)/\Ent w0 hi b w L m vt T p n f w':=by
 have hal:=hB.alone hs (n:=n) (Rx hx his);have hfl:x.file< (m.fl.length:Int):=by rw[<-hx];exact hfi n hn (Rx hx his)
 rw[hx]at hal;obtain⟨al1,al2,al3,al4⟩:=hal;obtain⟨xis,xrd,xwr,xsh,xfi,xpg⟩:=x;dsimp only at his al1 al2 al3 al4 hfl;subst his;have HX:Xo (zl s.aC n=⟨Xc,xrd,xwr,xsh,xfi,xpg⟩):=hx;have HM:Xo (Mk w0 hi w b vl L V m vt T):=h;have HB:Xo (qF m T):=hB;have HS:Xo (m.sp[p]? =Xa s):=hs;have HT:Xo (T[p]? =Xa f):=hT;have H0:Xo (f n=en0):=h0;obtain⟨tn,HTL⟩:=kA T.length;have hpt:p<tn:=by rw[<-HTL.out];exact(gS.1 hT).1
 have HIS:Xo ((zl s.aC n).is=Xc):=dD<|by rw[hx]
 have HWR:Xo ((zl s.aC n).wr=xwr):=dD<|by rw[hx]
 have HSE:Xo ((zl s.aC n).sh=xsh/\(zl s.aC n).file=xfi/\(zl s.aC n).page=xpg):=dD<|by rw[hx];exact⟨rfl,rfl,rfl⟩
 obtain⟨px,HPX⟩:=kA w.heap.size;obtain⟨W0,hW0⟩:=kB (w.alloc (Xk #[Xh Xc,Xh xrd,Xh xwr,Xh xsh,I6 xfi,I6 xpg] 67));have HG0:=gA hW0;have X0:=xPT hW0 HPX;have M0:Xo (Mk w0 hi W0 b vl L V m vt T):=h.aA HG0.out;have HBX:Xo (b<w.heap.size):=show _<_ from h.box.box.lt;have HW0:Xo (_=W0):=hW0;clear hW0 h hB hs hT h0 hx hfi;go_enter func61,ntmps61;go_upto_region 1 with fail;have hw:w.alloc (Xk (onv ⟨Xc,xrd,xwr,xsh,xfi,xpg⟩).toArray 67)=W0:=HW0.out;rw[hw,HPX.out];clear hw;have hpk:=qT 4 M0.out;go_wp2_with fail;refine hpk.mono ?_;clear hpk;rintro e W1 ⟨vl1,L1,y,rfl,mk1,gr1,sz1,y0,y1,yn,ll⟩;have M1:Xo (Mk w0 hi W1 b vl1 L1 V m vt T):=mk1;have K1:Xo (zI hi w W1):=(zI.aA HG0).trans (M0.keeps gr1);have X1:Xo (zt W1 px 67 [Xh Xc,Xh xrd,Xh xwr,Xh xsh,I6 xfi,I6 xpg]):=X0.beside gr1 (fun g e=>by cases e;have:=HBX.out;have:=HPX.out;omega);have LL1:Xo (J0 L L1):=ll;have hy4:y<4:=by rcases y1 with h | h <;> omega
 have HYN:Xo (L=[]->y=0):=yn;clear mk1 gr1 sz1 y1 yn ll;by_cases hy:y=0
 ·have hye:(y == 0)=Xc:=by simp[hy]
  clear hy;have HE:Xo (Ent w0 hi b w L m vt T p n f W1):=dD<|Ent.same p n f HB ⟨vl1,L1,M1,LL1,K1⟩;go_wp2;exact Wq HE.out
 have hye:(y == 0)=Xd:=by simp[hy]
 have HLN:Xo (L≠[]):=dD<|fun e=>hy (HYN e);clear hy;have c3:=X1.box.c 3 rfl;have c4:=X1.box.c 4 rfl;have HA4:Xo (xfi<0->xsh=Xd):=dD<|fun h=>al4 Wm;clear al4;go_upto_region 6 with fail;go_cut [44] (fun s44 wx=>∃c1:Bool,s44= Xh c1/\wx=W1/\Xo (c1=Xc->0<=xfi)/\Xo (c1=Xd->xsh=Xd))
 case first=>
  by_cases hfz:0<=xfi
  ·have hfd:decide ((0:Int)<=xfi)=Xc:=Si hfz
   cases xsh with
   | true=>
    go_wp2;go_meet;exact⟨Xc,rfl,rfl,fun _=>hfz,fun h=>(by cases h)⟩
   | false=>
    go_wp2;go_meet;exact⟨(y == 1),rfl,rfl,fun _=>hfz,fun _=>(by first | rfl | trivial)⟩
  have hfd:decide ((0:Int)<=xfi)=Xd:=Si hfz;have HSF:Xo (xsh=Xd):=HA4.out Wm;go_wp2;go_meet;exact⟨Xd,rfl,rfl,fun h=>(by cases h),fun _=>HSF.out⟩
 obtain⟨c1,rfl,hwc,HC1,HC0⟩:=hcut;rw[hwc];clear hwc c3 c4;cases c1 with
 | true=>
  have hfz:=HC1.out rfl;obtain⟨fi,rfl⟩:∃fi:Nat,xfi=(fi:Int):=⟨xfi.toNat,Wm⟩;obtain⟨ix,rfl⟩:∃ix:Nat,xpg=(ix:Int):=⟨xpg.toNat,Wm⟩;obtain⟨fl,HFL⟩:∃fl,Xo (m.fl[fi]? =Xa fl):=⟨_,gE Wm⟩;obtain⟨_,_,_,c3,c4,c5⟩:=X1.box.k6;go_upto_region 7 with fail;have x8:=M1.box.box.c 8 rfl;obtain⟨_,_,hfe,_,hfr⟩:=qE.rows M1.rows.at.fl;have hrw:za0 W1 V.fl.a m.fl:=by
   simp only[vJ]at hfe;rw[hfe.1];exact hfr
  have hfn:V.fl.n=m.fl.length:=by
   simp only[vJ]at hfe;exact hfe.2.1
  obtain⟨ad,hva,ba,bc,_,hlf⟩:=hrw fi fl HFL.out;obtain⟨-,d1⟩:=hlf W1 (zc.refl _);obtain⟨fln,hfln⟩:=kB V.fl.n;have hflz:(fi:Int)< (fln:Int):=by
   have:=(gS.1 HFL).1;omega
  (try simp only[Sli.x]at x8);rw[hva,hfln]at x8;obtain⟨bn,HBN⟩:=kA fl.bl.length;rw[HBN.out]at d1;clear hfe hfr hrw hfn hva hlf hfln;by_cases hpg:bn<=ix
  ·have hpgd:decide ((bn:Int)<=(ix:Int))=Xc:=Si hpg
   go_quiet (fail);obtain⟨W2,hW2⟩:=kB (W1.drewN nq);have G2:Xo (zc W1 W2):=dD (by rw[<-hW2];exact(show Below _ _ _ from bD (bR _ _) _));rw[hW2];clear hW2 x8 d1 c3 c4 c5;have HE:Xo (Ent w0 hi b w L m vt T p n f W2):=dD<|Ent.same p n f HB ⟨vl1,L1,M1.aA G2,LL1,K1.trans (zI.aA G2)⟩;go_wp2;exact Wq HE.out
  have hpgd:decide ((bn:Int)<=(ix:Int))=Xd:=Si hpg;obtain⟨bk,HBK⟩:∃bk,Xo (fl.bl[ix]? =Xa bk):=⟨_,gE (by rw[HBN.out];omega)⟩;go_quiet (fail);obtain⟨W2,hW2⟩:=kB (W1.drewN nq);have G2:Xo (zc W1 W2):=dD (by rw[<-hW2];exact(show Below _ _ _ from bD (bR _ _) _));rw[hW2];clear hW2 x8 d1 c3 c4 c5;have M2:=dD (M1.aA G2);have K2:=dD (K1.trans (zI.aA G2));have X2:=dD (X1.aA G2);obtain⟨_,_,_,_,c4,c5⟩:=X2.box.k6;have hcd:=zl3 fi ix fl bk M2 HB.bZ.1 HFL HBK Wm (by have:=(HB.cK (file:=(fi:Int)) Wm hfl).2;omega) HB.bZ.2.1;go_wp2_with fail;refine hcd.mono ?_;clear hcd c4 c5;rintro e W3 hres;have hres2:(e= Xl (I6 (-1))/\MkE w0 hi b w L V m vt T W3)\/∃(k:Nat) (V1:MaV) (m1:Ma) (fr:Fr),e= Xl (I6 (k:Int))/\MkE w0 hi b w L V1 m1 vt T W3/\qF m1 T/\m1.fs[k]? =Xa fr/\fr.f=(fi:Int)/\fr.x=(ix:Int)/\(m1.sp=m.sp/\m1.fl=m.fl/\m1.aB=m.aB/\m1.fs.length=m.fs.length):=by
   rcases hres with⟨he,hE⟩|⟨c,hc,hc1,hc2,he,hE⟩|⟨j,he,q,pg,u,d,sl,hj,hr,hno,hE⟩;·exact .inl ⟨he,hE.trans LL1 K2⟩
   ·obtain⟨k,fr,k1,k2,k3,k4⟩:=HB.bZ.2.2 c hc;exact .inr ⟨k,V,m,fr,by rw[he,k1],hE.trans LL1 K2,HB,k2,k3.trans hc1,k4.trans hc2,rfl,rfl,rfl,rfl⟩
   refine .inr ⟨j,_,_,⟨pg,1,u,d,fi,ix⟩,he,hE.trans LL1 K2,HB.cache hj hr ⟨Wm,hfl⟩ ⟨Wm,?_⟩ hno,?_,rfl,rfl,rfl,rfl,rfl,Xt⟩;·unfold bkN;rw[tN,gD,HFL.out];simp only[Option.getD_some];have:=HBN.out;omega
   exact sF (gS.1 hj).1
  have X3:Xo (zt W3 px 67 [Xh Xc,Xh xrd,Xh xwr,Xh xsh,I6 (fi:Int),I6 (ix:Int)]):=dD<|by
   rcases hres with⟨_,_,_,_,_,hk⟩|⟨_,_,_,_,_,_,_,_,_,hk⟩|⟨_,_,_,_,_,_,_,_,_,_,_,_,_,_,hk⟩;·exact hk.1 _ _ _ X2 J7
   ·exact hk.1 _ _ _ X2 J7
   exact hk.1 _ _ _ X2 J7
  clear hres;rcases hres2 with⟨rfl,hE⟩|⟨k,V1,m1,fr,rfl,⟨vl3,L3,mk3,ll3,kp3⟩,hb1,hk,hkf,hkx,hsame⟩
  ·have HEE:Xo (MkE w0 hi b w L V m vt T W3):=hE;clear hE;have HE:Xo (Ent w0 hi b w L m vt T p n f W3):=show Ent _ _ _ _ _ _ _ _ _ _ _ _ from Ent.same p n f HB HEE.out;go_wp2;exact Wq HE.out
  have M3:Xo (Mk w0 hi W3 b vl3 L3 V1 m1 vt T):=mk3;have K3:Xo (zI hi w W3):=kp3;have LL3:Xo (J0 L L3):=ll3;have HB1:Xo (qF m1 T):=hb1;have HK:Xo (m1.fs[k]? =Xa fr):=hk;have HKF:Xo (fr.f=(fi:Int)/\fr.x=(ix:Int)):=show _/\_ from⟨hkf,hkx⟩;have HSM:Xo (m1.sp=m.sp/\m1.fl=m.fl/\m1.aB=m.aB/\m1.fs.length=m.fs.length):=dD<|hsame;obtain⟨hr0,hr1⟩:=hb1.refs hk;obtain⟨nf,HNF⟩:=kA m1.fs.length;have hkn:k<nf:=by rw[<-HNF.out];exact(gS.1 hk).1
  have hkz:(k:Int)< (nf:Int):=Wm;have hk0:¬(k:Int)<0:=Wm;clear mk3 ll3 kp3 hb1 hk hkf hkx hsame;obtain⟨g,cf,heq⟩:=M3.rows.fs.aG (by rw[HNF.out];omega);rw[HNF.out]at heq;have HEQ:Xo (V1.f.x= O (Xa ⟨g,0,Xb⟩) nf cf):=heq;have x1:=M3.box.box.c 1 rfl;(first|rw[HEQ.out]at x1|rw[show O _ _ _=_ from HEQ.out]at x1);have hrw:=M3.rows.fs;(first|rw[HEQ.out]at hrw|rw[show O _ _ _=_ from HEQ.out]at hrw);have HRW:Xo (zb qR w0.heap.size W3 (O (Xa ⟨g,0,Xb⟩) nf cf) m1.fs):=hrw;have hce:=hrw.one HK.out;have d8:W3.cell? ⟨g,k*13+8,Xb⟩=Xa (I6 fr.r):=by
   have:=hce 8 _ rfl;rw[zZ,Yq,zA]at this;exact this
  clear hce hrw heq;have xf:=HRW.bJ rfl;go_upto_region 11 with fail;obtain⟨ow4,gr4,sz4⟩:=HRW.cell (k:=k) (o:=8) rfl HK (y:={ fr with r:=fr.r+1 }) (u:=I6 (fr.r+1)) rfl Dc;obtain⟨W4,hW4⟩:=kB (W3.setCell ⟨g,k*13+8,Xb⟩ (I6 (fr.r+1)));have e4:W3.setCell ⟨g,k*qR.k+8,Xb⟩ (I6 (fr.r+1))=W4:=hW4;rw[e4]at ow4 gr4 sz4;rw[hW4];rw[<-HEQ.out]at ow4;clear e4 hW4 xf;have hM4:=M3.bM (Rr HEQ.out) gr4 sz4 ow4 (M3.rows.ap.2.inc HB1 HK);have M4:Xo (Mk w0 hi W4 b vl3 L3 V1 { m1 with fs:=m1.fs.set k { fr with r:=fr.r+1 } } vt T):=hM4.1;have K4:Xo (zI hi w W4):=K3.trans hM4.2;have X4:Xo (zt W4 px 67 [Xh Xc,Xh xrd,Xh xwr,Xh xsh,I6 (fi:Int),I6 (ix:Int)]):=hM4.2.1 _ _ _ X3 J7;have HBF:Xo (∀wf:Bool,(wf=Xc->xsh=Xc/\xwr=Xc)->qF { m1 with fs:=m1.fs.set k { fr with r:=fr.r+1 } } (T.set p (jM f n ⟨1,(k:Int),wf⟩))):=show∀wf:Bool,_ from fun wf hwf=>HB1.hold HK (by rw[HKF.1];omega) (Rx HSM.1 HS) HT hn H0 HIS (Rx HKF.1 HSE.2.1) (Rx HKF.2 HSE.2.2) (fun e=>by rw[HSE.1,HWR.out];exact hwf e);clear hM4 ow4 gr4 sz4 x1 d8;obtain⟨gt,ct,hte⟩:=M4.rows.tt.aG (by rw[HTL.out];omega);rw[HTL.out]at hte;have HTE:Xo (vt.x= O (Xa ⟨gt,0,Xb⟩) tn ct):=hte;clear hte;obtain⟨I,HI⟩:=Ww fun u=>u.cell? ⟨b,12,Xb⟩=Xa (O (Xa ⟨gt,0,Xb⟩) tn ct)/\zt u px 67 [Xh Xc,Xh xrd,Xh xwr,Xh xsh,I6 (fi:Int),I6 (ix:Int)];have HIM:Xo (∀u vl' L' V' m',Mk w0 hi u b vl' L' V' m' vt T->u.cell? ⟨b,12,Xb⟩=Xa (O (Xa ⟨gt,0,Xb⟩) tn ct)):=dD<|fun u vl' L' V' m' hm=>by
   have:=hm.box.box.c 12 rfl;(first|rw[HTE.out]at this|rw[show O _ _ _=_ from HTE.out]at this);exact this
  have hI0:I W4.drew:=(HI _).2 ⟨HIM _ _ _ _ _ (M4.aA (gW _)),X4.aA (gW _)⟩;have hF0:MkE w0 hi b w L V1 { m1 with fs:=m1.fs.set k { fr with r:=fr.r+1 } } vt T W4.drew:=⟨vl3,L3,M4.aA (gW _),LL3,K4.trans (zI.aA (gW _))⟩;have ht:=fun y:zg I=>((HI _).1 y.holds).1;have hx2:=fun y:zg I=>((HI _).1 y.holds).2.box.c 2 rfl;have hx3:=fun y:zg I=>((HI _).1 y.holds).2.box.c 3 rfl;have hne:Nonempty (zg I):=⟨⟨_,hI0⟩⟩;have hptz:(p:Int)< (tn:Int):=Wm;have hnz:(n:Int)<64:=Wm;cases xsh <;> cases xwr
  all_goals (
   refine zQ (I:=I) 21 [(15,fun v=>∃x:Int,v=I6 x)] (fun u=>MkE w0 hi b w L V1 { m1 with fs:=m1.fs.set k { fr with r:=fr.r+1 } } vt T u) hI0 hF0 z3 Kr rfl rfl Dc (by intro x hx;simp only[mC,nM,or_false]at hx;subst hx;exact⟨_,0,rfl⟩) Kr ?_;simp only[Xv,Xw];iterate 1 (refine z9 rfl rfl rfl (fun K hK=>?_);go_big_quiet_op;refine hK _ ?_;clear hK K)
   refine zW (.tmp 92) ⟨b,0,Xb⟩ rfl rfl rfl rfl ?_;simp only[Xu,sB,sS,sZ];iterate 8 (refine z9 rfl rfl rfl (fun K hK=>?_);go_big_quiet_op;refine hK _ ?_;clear hK K)
   iterate 4 (first | (refine Q3 rfl ?_;simp only[Xu,sB,sS,sZ]) | (refine z9 rfl rfl rfl (fun K hK=>?_);go_big_quiet_op;refine hK _ ?_;clear hK K))
   (first | (refine Q3 rfl ?_;simp only[Xu,sB,sS,sZ]) | (refine z9 rfl rfl rfl (fun K hK=>?_);go_big_quiet_op;refine hK _ ?_;clear hK K));(first | (refine Q3 rfl ?_;simp only[Xu,sB,sS,sZ]) | (refine zH rfl rfl (fun _ u=>MkE w0 hi b w L V1 { m1 with fs:=m1.fs.set k { fr with r:=fr.r+1 } } vt T u) (fun w' hI' hF'=>by obtain⟨vl',L',mk',ll',kp'⟩:=hF';refine zN.call [Xj (Xa ⟨b,0,Xb⟩),I6 2] rfl func22 rfl rfl rfl ?_;refine(qT 2 mk').mono ?_;rintro e w'' ⟨vl2,L2,x,rfl,mk2,gr2,_,_,_,_,ll2⟩;exact⟨_,rfl,(HI _).2 ⟨HIM _ _ _ _ _ mk2,(mk'.keeps gr2).1 _ _ _ ((HI _).1 hI').2 J7⟩,⟨x,rfl⟩,vl2,L2,mk2,ll'.trans ll2,kp'.trans (mk'.keeps gr2)⟩) (fun v1 hv=>?_);obtain⟨xq,rfl⟩:=hv;simp only[Xu,sB,sS,sZ]));(first | (refine Q3 rfl ?_;simp only[Xu,sB,sS,sZ]) | (refine z9 rfl rfl rfl (fun K hK=>?_);go_big_quiet_op;refine hK _ ?_;clear hK K));iterate 4 (refine z9 rfl rfl rfl (fun K hK=>?_);go_big_quiet_op;refine hK _ ?_;clear hK K)
   refine qV fun W8 hI8 hF8=>?_;obtain⟨vl8,L8,mk8,ll8,kp8⟩:=hF8;have M8:Xo (Mk w0 hi W8 b vl8 L8 V1 { m1 with fs:=m1.fs.set k { fr with r:=fr.r+1 } } vt T):=mk8;have LL8:Xo (J0 L L8):=ll8;have K8:Xo (zI hi w W8):=kp8;clear mk8 ll8 kp8 hI8 hI0 hF0 ht hx2 hx3 hne;have R8:Xo (zb zdl w0.heap.size W8 (O (Xa ⟨gt,0,Xb⟩) tn ct) T):=show zb _ _ _ _ _ by rw[<-HTE.out];exact M8.rows.tt
   refine zx (E:=zdl) rfl (.tmp 112) (.tmp 110) 55 rfl w0.heap.size _ T R8 gt p (n*3) rfl f (jM f n ⟨1,(k:Int),_⟩) HT (env ⟨1,(k:Int),_⟩) Kr (zcl f hn _) (by show n*3+3<=192;omega) (enE.one _) ⟨gt,p*192+n*3,Xb⟩ rfl rfl _ rfl rfl ?_;intro W9 ow9 gr9 sz9;rw[<-HTE.out]at ow9;have hM9:=M8.bQ (Rr HTE.out) gr9 sz9 ow9;have M9:Xo _:=hM9.1;have K9:Xo (zI hi w W9):=K8.trans hM9.2;clear hM9 ow9 gr9 sz9;have HE:Xo (Ent w0 hi b w L m vt T p n f W9):=show Ent _ _ _ _ _ _ _ _ _ _ _ _ from⟨vl8,L8,_,_,_,M9,LL8,K9,HBF _ (by intro e;first | exact⟨rfl,rfl⟩ | cases e),⟨HSM.1,HSM.2.1,HSM.2.2.1,List.length_set.trans HSM.2.2.2⟩,.inr ⟨_,rfl⟩,fun h=>absurd h HLN⟩;go_wp2
   exact Wq HE.out)
 | false=>
  have hsh:=HC0.out rfl;subst hsh;have x3:=M1.box.box.c 3 rfl;obtain⟨sn,hsn⟩:=kB V.s.n;have HSL:Xo (m.sl.length=sn):=dD<|Ry hsn M1.rows.sl.n.symm;(try simp only[Sli.x]at x3);rw[hsn]at x3;clear hsn;go_upto_region 12 with fail;go_cut [113] (fun s113 wx=>∃c2:Bool,s113= Xh c2/\wx=W1/\Xo (c2=Xc->0<sn))
  case first=>
   by_cases h2:y=2
   ·have h2e:(y == 2)=Xc:=by simp[h2]
    clear h2;go_wp2;go_meet;exact⟨_,rfl,rfl,fun h=>Si h⟩
   have h2e:(y == 2)=Xd:=(by simp[h2]);clear h2;go_wp2;go_meet;exact⟨Xd,rfl,rfl,fun h=>(by cases h)⟩
  obtain⟨c2,rfl,hwc,HC2⟩:=hcut;rw[hwc];clear hwc;cases c2 with
  | true=>
   have hs0:=HC2.out rfl;have hpk2:=qT (sn:Int) M1.out;go_wp2_with fail;refine hpk2.mono ?_;clear hpk2;rintro e W2 ⟨vl2,L2,z,rfl,mk2,gr2,sz2,z0,z1,_,ll2⟩;obtain⟨k,rfl⟩:∃k:Nat,z=(k:Int):=⟨z.toNat,Wm⟩;have hks:k<sn:=(by rcases z1 with h | h <;> omega);have hksz:(k:Int)< (sn:Int):=Wm;have M2:Xo (Mk w0 hi W2 b vl2 L2 V m vt T):=mk2;have K2:=dD (K1.trans (M1.keeps gr2));have LL2:=dD (LL1.trans ll2);clear mk2 gr2 sz2 z0 z1 ll2 x3;obtain⟨g,cs',heq⟩:=M2.rows.sl.aG (by rw[HSL.out];omega);rw[HSL.out]at heq;have HEQ:Xo (V.s.x= O (Xa ⟨g,0,Xb⟩) sn cs'):=heq;have x3:=M2.box.box.c 3 rfl;(first|rw[HEQ.out]at x3|rw[show O _ _ _=_ from HEQ.out]at x3);have hrw:=M2.rows.sl;(first|rw[HEQ.out]at hrw|rw[show O _ _ _=_ from HEQ.out]at hrw);have HRW:Xo (zb slE w0.heap.size W2 (O (Xa ⟨g,0,Xb⟩) sn cs') m.sl):=hrw;obtain⟨zv,HZV⟩:∃zv,Xo (m.sl[k]? =Xa zv):=⟨_,gE (Rx HSL.out hks)⟩;have hce:=hrw.one HZV.out;have d0:W2.cell? ⟨g,k,Xb⟩=Xa (I6 zv):=by
    have:=hce 0 _ rfl;rw[zZ,Yq,zA]at this;simpa [slE,Nat.mul_one]using this
   clear hce hrw heq;by_cases hz:zv=0
   ·have hze:(zv == 0)=Xc:=by simp[hz]
    have HZ0:Xo (m.sl[k]? =Xa 0):=dD (by rw[HZV.out,hz]);clear hz;have xf:=HRW.bJ rfl;go_upto_region 16 with fail;obtain⟨ow3,gr3,sz3⟩:=HRW.cell (k:=k) (o:=0) rfl HZV (y:=1) (u:=I6 1) rfl Dc;obtain⟨W3,hW3⟩:=kB (W2.setCell ⟨g,k,Xb⟩ (I6 1));have e3:W2.setCell ⟨g,k*slE.k+0,Xb⟩ (I6 1)=W3:=(by rw[<-hW3];simp[slE]);rw[e3]at ow3 gr3 sz3;rw[hW3];rw[<-HEQ.out]at ow3;clear e3 hW3 xf;have hM3:=M2.cE (Rr HEQ.out) gr3 sz3 ow3;have M3:Xo (Mk w0 hi W3 b vl2 L2 V { m with sl:=m.sl.set k 1 } vt T):=hM3.1;have K3:Xo (zI hi w W3):=K2.trans hM3.2;clear hM3 ow3 gr3 sz3 x3 d0;have HSBL:Xo (m.sb.length=sn):=show _=_ by rw[HB.bC,HSL.out]
    obtain⟨gb,cb,hbe⟩:∃gb cb,V.sb.x= O (Xa ⟨gb,0,Xb⟩) sn cb:=by
     have h1:=M3.rows.sb.1;have hl:({ m with sl:=m.sl.set k 1 }:Ma).sb.length=sn:=HSBL.out;rw[hl]at h1;rcases h1.2 with⟨_,h2⟩|⟨gb,cap,cur,e1,_⟩;·omega
     exact⟨gb,cap,e1⟩
    have HBE:Xo (V.sb.x= O (Xa ⟨gb,0,Xb⟩) sn cb):=hbe;clear hbe;obtain⟨I,HI⟩:=Ww fun u=>u.cell? ⟨b,4,Xb⟩=Xa (O (Xa ⟨gb,0,Xb⟩) sn cb);have HIM:Xo (∀u vl' L' m',Mk w0 hi u b vl' L' V m' vt T->u.cell? ⟨b,4,Xb⟩=Xa (O (Xa ⟨gb,0,Xb⟩) sn cb)):=dD<|fun u vl' L' m' hm=>by
     have:=hm.box.box.c 4 rfl;(first|rw[HBE.out]at this|rw[show O _ _ _=_ from HBE.out]at this);exact this
    have hI0:I W3.drew:=(HI _).2 (HIM _ _ _ _ (M3.aA (gW _)));have hF0:MkE w0 hi b w L V { m with sl:=m.sl.set k 1 } vt T W3.drew:=⟨vl2,L2,M3.aA (gW _),LL2,K3.trans (zI.aA (gW _))⟩;have ht:=fun y:zg I=>(HI _).1 y.holds;have hne:Nonempty (zg I):=⟨⟨_,hI0⟩⟩;refine zQ (I:=I) 10 [(8,fun v=>∃q:List Int,v= Xi (pgc q).toArray/\q.length=8)] (fun u=>MkE w0 hi b w L V { m with sl:=m.sl.set k 1 } vt T u) hI0 hF0 z3 Kr rfl rfl Dc (Sa ⟨_,zq,rfl,rfl⟩) Kr ?_;simp only[Xv,Xw];iterate 1 (refine z9 rfl rfl rfl (fun K hK=>?_);go_big_quiet_op;refine hK _ ?_;clear hK K)
    refine zW (.tmp 149) ⟨b,0,Xb⟩ rfl rfl rfl rfl ?_;simp only[Xu,sB,sS,sZ];iterate 6 (refine z9 rfl rfl rfl (fun K hK=>?_);go_big_quiet_op;refine hK _ ?_;clear hK K)
    refine zH rfl rfl (fun _ u=>MkE w0 hi b w L V { m with sl:=m.sl.set k 1 } vt T u) (fun w' hI' hF'=>?_) (fun v1 hv=>?_);·obtain⟨vl',L',mk',ll',kp'⟩:=hF';refine zN.call [Xj (Xa ⟨b,0,Xb⟩)] rfl func25 rfl rfl rfl ?_;refine(zdy mk').mono ?_;rintro e w'' ⟨vl3,L3,q,rfl,ql,mk3,gr3,ll3⟩;exact⟨_,rfl,(HI _).2 (HIM _ _ _ _ mk3),⟨q,rfl,ql⟩,vl3,L3,mk3,ll'.trans ll3,kp'.trans (mk'.keeps gr3)⟩
    obtain⟨q6,rfl,ql6⟩:=hv;have HQL:Xo (q6.length=8):=ql6;clear ql6;simp only[Xu,sB,sS,sZ];iterate 1 (refine z9 rfl rfl rfl (fun K hK=>?_);go_big_quiet_op;refine hK _ ?_;clear hK K)
    refine qV fun W6 hI6 hF6=>?_;obtain⟨vl6,L6,mk6,ll6,kp6⟩:=hF6;have M6:Xo (Mk w0 hi W6 b vl6 L6 V { m with sl:=m.sl.set k 1 } vt T):=mk6;have LL6:Xo (J0 L L6):=ll6;have K6:Xo (zI hi w W6):=kp6;clear mk6 ll6 kp6 hI6 hI0 hF0 ht hne;have R6:Xo (zm w0.heap.size W6 (O (Xa ⟨gb,0,Xb⟩) sn cb) m.sb):=show zm _ _ _ _ by rw[<-HBE.out];exact M6.rows.sb
    refine Qc rfl (.tmp 158) (.tmp 157) rfl w0.heap.size _ m.sb R6 gb k rfl (by rw[HSBL.out];exact hks) q6 HQL ⟨gb,k*8,Xb⟩ rfl rfl rfl ?_;intro W7 ow7 gr7 sz7;rw[<-HBE.out]at ow7;have hM7:=M6.setSb (Rr HBE.out) gr7 sz7 ow7;have M7:Xo (Mk w0 hi W7 b vl6 L6 V { m with sl:=m.sl.set k 1,sb:=m.sb.set k q6 } vt T):=hM7.1;have K7:Xo (zI hi w W7):=K6.trans hM7.2;clear hM7 ow7 gr7 sz7;obtain⟨gt,ct,hte⟩:=M7.rows.tt.aG (by rw[HTL.out];omega);rw[HTL.out]at hte;have HTE:Xo (vt.x= O (Xa ⟨gt,0,Xb⟩) tn ct):=hte;have R7:Xo (zb zdl w0.heap.size W7 (O (Xa ⟨gt,0,Xb⟩) tn ct) T):=show zb _ _ _ _ _ by rw[<-HTE.out];exact M7.rows.tt
    have x12:=M7.box.box.c 12 rfl;(first|rw[HTE.out]at x12|rw[show O _ _ _=_ from HTE.out]at x12);have hptz:(p:Int)< (tn:Int):=Wm;have hnz:(n:Int)<64:=Wm;clear hte;go_wp2_with (refine zx (E:=zdl) rfl (.tmp 168) (.tmp 166) 55 rfl w0.heap.size _ T R7 gt p (n*3) rfl f (jM f n ⟨2,(k:Int),Xd⟩) HT (env ⟨2,(k:Int),Xd⟩) Kr (zcl f hn _) (by show n*3+3<=192;omega) (enE.one _) ⟨gt,p*192+n*3,Xb⟩ rfl rfl (Xi (env ⟨2,(k:Int),Xd⟩).toArray) rfl rfl ?_)
    intro W9 ow9 gr9 sz9;rw[<-HTE.out]at ow9;have hM9:=M7.bQ (Rr HTE.out) gr9 sz9 ow9;have M9:Xo (Mk w0 hi W9 b vl6 L6 V { m with sl:=m.sl.set k 1,sb:=m.sb.set k q6 } vt (T.set p (jM f n ⟨2,(k:Int),Xd⟩))):=hM9.1;have K9:Xo (zI hi w W9):=K7.trans hM9.2;have HBF:Xo (qF { m with sl:=m.sl.set k 1,sb:=m.sb.set k q6 } (T.set p (jM f n ⟨2,(k:Int),Xd⟩))):=HB.swap HZ0 HS HT hn H0 HIS HSE.1;clear hM9 ow9 gr9 sz9 x12;have HE:Xo (Ent w0 hi b w L m vt T p n f W9):=show Ent _ _ _ _ _ _ _ _ _ _ _ _ from⟨vl6,L6,_,_,_,M9,LL6,K9,HBF,⟨rfl,rfl,rfl,rfl⟩,.inr ⟨_,rfl⟩,fun h=>absurd h HLN⟩;go_wp2;exact Wq HE.out
   have hze:(zv == 0)=Xd:=(by simp[hz]);clear hz;have HE:Xo (Ent w0 hi b w L m vt T p n f W2):=dD<|Ent.same p n f HB ⟨vl2,L2,M2,LL2,K2⟩;go_wp2;exact Wq HE.out
  | false=>
   go_upto_region 2 with fail;clear x3;have hpg2:=zdy M1.out;go_wp2_with fail;refine hpg2.mono ?_;clear hpg2;rintro e W5 ⟨vl5,L5,q5,rfl,ql5,mk5,gr5,ll5⟩;obtain⟨p0,p1,p2,p3,p4,p5,p6,p7,rfl⟩:=zc4 q5 ql5;simp only[pgc,mP,Yf];have M5:Xo (Mk w0 hi W5 b vl5 L5 V m vt T):=mk5;have K5:=dD (K1.trans (M1.keeps gr5));have X5:Xo (zt W5 px 67 [Xh Xc,Xh xrd,Xh xwr,Xh Xd,I6 xfi,I6 xpg]):=(M1.keeps gr5).1 _ _ _ X1 J7;have LL5:=dD (LL1.trans ll5);clear ql5 mk5 gr5 ll5;have hpk2:=qT 2 M5.out;go_wp2_with fail;refine hpk2.mono ?_;clear hpk2;rintro e W6 ⟨vl6,L6,z,rfl,mk6,gr6,_,_,_,_,ll6⟩;have M6:Xo (Mk w0 hi W6 b vl6 L6 V m vt T):=mk6;have K6:=dD (K5.trans (M5.keeps gr6));have X6:Xo (zt W6 px 67 [Xh Xc,Xh xrd,Xh xwr,Xh Xd,I6 xfi,I6 xpg]):=(M5.keeps gr6).1 _ _ _ X5 J7;have LL6:=dD (LL5.trans ll6);clear mk6 gr6 ll6;have hfm:=zh9 ⟨⟨p0,p1,p2,p3,p4,p5,p6,p7⟩,1,z == 1,Xd,-1,0⟩ M6 ⟨fun _=>rfl,fun _ e=>absurd rfl e⟩;go_wp2_with fail;refine hfm.mono ?_;clear hfm;rintro e W7 (⟨rfl,hE⟩|⟨k,q,rfl,hq,hr,vl7,L7,mk7,ll7,kp7⟩)
   ·have HEE:Xo (MkE w0 hi b w L V m vt T W7):=hE.trans LL6 K6.out;clear hE;have HE:Xo (Ent w0 hi b w L m vt T p n f W7):=show Ent _ _ _ _ _ _ _ _ _ _ _ _ from Ent.same p n f HB HEE.out;go_wp2;exact Wq HE.out
   have HQ:Xo (m.fs[k]? =Xa q):=hq;have HR0:Xo (q.r=0):=hr;have M7:Xo (Mk w0 hi W7 b vl7 L7 V { m with fs:=m.fs.set k ⟨⟨p0,p1,p2,p3,p4,p5,p6,p7⟩,1,z == 1,Xd,-1,0⟩ } vt T):=mk7;have K7:=dD (K6.trans kp7);have X7:Xo (zt W7 px 67 [Xh Xc,Xh xrd,Xh xwr,Xh Xd,I6 xfi,I6 xpg]):=kp7.1 _ _ _ X6 J7;have LL7:=dD (LL6.trans ll7);clear hq hr mk7 ll7 kp7;have hk0:(0:Int)<=(k:Int):=Wm;have hkd:decide ((0:Int)<=(k:Int))=Xc:=Sm;have HBF:Xo (∀wf:Bool,(wf=Xc->xwr=Xc)->qF { m with fs:=m.fs.set k ⟨⟨p0,p1,p2,p3,p4,p5,p6,p7⟩,1,z == 1,Xd,-1,0⟩ } (T.set p (jM f n ⟨1,(k:Int),wf⟩))):=dD<|fun wf hwf=>HB.mine HQ HR0 HS HT hn H0 HIS HSE.1 (fun e=>by rw[HWR.out];exact hwf e);go_upto_region 4 with fail;obtain⟨gt,ct,hte⟩:=M7.rows.tt.aG (by rw[HTL.out];omega);rw[HTL.out]at hte;have HTE:Xo (vt.x= O (Xa ⟨gt,0,Xb⟩) tn ct):=hte;clear hte;obtain⟨I,HI⟩:=Ww fun u=>u.cell? ⟨b,12,Xb⟩=Xa (O (Xa ⟨gt,0,Xb⟩) tn ct)/\zt u px 67 [Xh Xc,Xh xrd,Xh xwr,Xh Xd,I6 xfi,I6 xpg];have HIM:Xo (∀u vl' L' V' m',Mk w0 hi u b vl' L' V' m' vt T->u.cell? ⟨b,12,Xb⟩=Xa (O (Xa ⟨gt,0,Xb⟩) tn ct)):=dD<|fun u vl' L' V' m' hm=>by
    have:=hm.box.box.c 12 rfl;(first|rw[HTE.out]at this|rw[show O _ _ _=_ from HTE.out]at this);exact this
   have hI0:I W7.drew:=(HI _).2 ⟨HIM _ _ _ _ _ (M7.aA (gW _)),X7.aA (gW _)⟩;have hF0:MkE w0 hi b w L V { m with fs:=m.fs.set k ⟨⟨p0,p1,p2,p3,p4,p5,p6,p7⟩,1,z == 1,Xd,-1,0⟩ } vt T W7.drew:=⟨vl7,L7,M7.aA (gW _),LL7,K7.trans (zI.aA (gW _))⟩;have ht:=fun y:zg I=>((HI _).1 y.holds).1;have hx2:=fun y:zg I=>((HI _).1 y.holds).2.box.c 2 rfl;have hx3:=fun y:zg I=>((HI _).1 y.holds).2.box.c 3 rfl;have hne:Nonempty (zg I):=⟨⟨_,hI0⟩⟩;have hptz:(p:Int)< (tn:Int):=Wm;have hnz:(n:Int)<64:=Wm;cases xwr
   all_goals (
    refine zQ (I:=I) 17 [(11,fun v=>∃x:Int,v=I6 x)] (fun u=>MkE w0 hi b w L V { m with fs:=m.fs.set k ⟨⟨p0,p1,p2,p3,p4,p5,p6,p7⟩,1,z == 1,Xd,-1,0⟩ } vt T u) hI0 hF0 z3 Kr rfl rfl Dc (by intro x hx;simp only[mC,nM,or_false]at hx;subst hx;exact⟨_,0,rfl⟩) Kr ?_;simp only[Xv,Xw];iterate 1 (refine z9 rfl rfl rfl (fun K hK=>?_);go_big_quiet_op;refine hK _ ?_;clear hK K)
    refine zW (.tmp 24) ⟨b,0,Xb⟩ rfl rfl rfl rfl ?_;simp only[Xu,sB,sS,sZ];iterate 8 (refine z9 rfl rfl rfl (fun K hK=>?_);go_big_quiet_op;refine hK _ ?_;clear hK K)
    (first | (refine Q3 rfl ?_;simp only[Xu,sB,sS,sZ]) | (refine z9 rfl rfl rfl (fun K hK=>?_);go_big_quiet_op;refine hK _ ?_;clear hK K));(first | (refine Q3 rfl ?_;simp only[Xu,sB,sS,sZ]) | (refine zH rfl rfl (fun _ u=>MkE w0 hi b w L V { m with fs:=m.fs.set k ⟨⟨p0,p1,p2,p3,p4,p5,p6,p7⟩,1,z == 1,Xd,-1,0⟩ } vt T u) (fun w' hI' hF'=>by obtain⟨vl',L',mk',ll',kp'⟩:=hF';refine zN.call [Xj (Xa ⟨b,0,Xb⟩),I6 2] rfl func22 rfl rfl rfl ?_;refine(qT 2 mk').mono ?_;rintro e w'' ⟨vl2,L2,x,rfl,mk2,gr2,_,_,_,_,ll2⟩;exact⟨_,rfl,(HI _).2 ⟨HIM _ _ _ _ _ mk2,(mk'.keeps gr2).1 _ _ _ ((HI _).1 hI').2 J7⟩,⟨x,rfl⟩,vl2,L2,mk2,ll'.trans ll2,kp'.trans (mk'.keeps gr2)⟩) (fun v1 hv=>?_);obtain⟨xq,rfl⟩:=hv;simp only[Xu,sB,sS,sZ]));(first | (refine Q3 rfl ?_;simp only[Xu,sB,sS,sZ]) | (refine z9 rfl rfl rfl (fun K hK=>?_);go_big_quiet_op;refine hK _ ?_;clear hK K));iterate 4 (refine z9 rfl rfl rfl (fun K hK=>?_);go_big_quiet_op;refine hK _ ?_;clear hK K)
    refine qV fun W8 hI8 hF8=>?_;obtain⟨vl8,L8,mk8,ll8,kp8⟩:=hF8;have M8:Xo (Mk w0 hi W8 b vl8 L8 V { m with fs:=m.fs.set k ⟨⟨p0,p1,p2,p3,p4,p5,p6,p7⟩,1,z == 1,Xd,-1,0⟩ } vt T):=mk8;have LL8:Xo (J0 L L8):=ll8;have K8:Xo (zI hi w W8):=kp8;clear mk8 ll8 kp8 hI8 hI0 hF0 ht hx2 hx3 hne;have R8:Xo (zb zdl w0.heap.size W8 (O (Xa ⟨gt,0,Xb⟩) tn ct) T):=show zb _ _ _ _ _ by rw[<-HTE.out];exact M8.rows.tt
    refine zx (E:=zdl) rfl (.tmp 40) (.tmp 38) 55 rfl w0.heap.size _ T R8 gt p (n*3) rfl f (jM f n ⟨1,(k:Int),_⟩) HT (env ⟨1,(k:Int),_⟩) Kr (zcl f hn _) (by show n*3+3<=192;omega) (enE.one _) ⟨gt,p*192+n*3,Xb⟩ rfl rfl _ rfl rfl ?_;intro W9 ow9 gr9 sz9;rw[<-HTE.out]at ow9;have hM9:=M8.bQ (Rr HTE.out) gr9 sz9 ow9;have M9:Xo _:=hM9.1;have K9:Xo (zI hi w W9):=K8.trans hM9.2;clear hM9 ow9 gr9 sz9;have HE:Xo (Ent w0 hi b w L m vt T p n f W9):=show Ent _ _ _ _ _ _ _ _ _ _ _ _ from⟨vl8,L8,_,_,_,M9,LL8,K9,HBF _ (by intro e;first | rfl | cases e),⟨rfl,rfl,rfl,Xt⟩,.inr ⟨_,rfl⟩,fun h=>absurd h HLN⟩;go_wp2
    exact Wq HE.out)
end
section
def ZP (m:Ma) (x:On) (e:En):List Int × Bool × Int:=
 if x.is=Xd then(zq,Xd,5)
 else if e.kind=1 then(pgL (zX m e.n).p,decide ((zX m e.n).f<0),0)
 else if e.kind=2 then(qN m.sb m.sq e.n,Xc,0)
 else if x.file<0 then(zq,Xd,0)
 else if bkN m x.file<=x.page then(zq,Xd,9)
 else(zU m x.file x.page,Xd,0)
theorem zf7 (a:m.sp[k]? =Xa s) (p:b<64):Qd m (k:Int) (b:Int)=ZP m (zl s.aC b) (zf s b):=by have p:=(gS.1 a).1;unfold Qd;rw[kF Wm];simp only[tN,gD,a,Option.getD_some];rfl
theorem zj5 (h:z<0\/(m.sp.length:Int)<=z\/H<0\/63<H):Qd m z H=(zq,Xd,5):=by unfold Qd;rw[kE h]
def yn (b:Bool):Int:=if b=Xc then 121 else 110
theorem zdu {x:On} {e':En} (f:e'.kind=Z.kind) (g:e'.n=Z.n) (a:Z.kind=1->(zX m' Z.n).p=(zX m Z.n).p/\((zX m' Z.n).f<0↔(zX m Z.n).f<0)) (b:Z.kind=2->qN m'.sb m'.sq Z.n=qN m.sb m.sq Z.n)
  (c:∀file,bkN m' file=bkN m file) (d:∀file idx,zU m' file idx=zU m file idx):ZP m' x e'=ZP m x Z:=by grind [ZP]
theorem zis (a:m'.ca=m.ca) (e:m'.fl=m.fl) (b:m'.db=m.db) (d:m'.dq=m.dq) (f:∀c∈m.ca,(zX m' c.fr).p=(zX m c.fr).p) (file idx:Int):zU m' file idx=zU m file idx:=by grind [zU,QK,List.mem_of_find?_eq_some,zgV,JF]
section
variable{m:Ma} {T:List (Nat->En)}
theorem qF.marks (h:qF m T) {p:Pg} {u d:Bool} (c:m.fs[k]? =Xa X) (t:X.r≠0):qF { m with fs:=m.fs.set k { X with p:=p,u:=u,d:=d } } T:=by
 have f:=(gS.1 c).1;have e:=h.bB X (mG c);have a:∀z:Int,0<=z->(zX { m with fs:=m.fs.set k { X with p:=p,u:=u,d:=d } } z).f=(zX m z).f/\(zX { m with fs:=m.fs.set k { X with p:=p,u:=u,d:=d } } z).x=(zX m z).x/\(zX { m with fs:=m.fs.set k { X with p:=p,u:=u,d:=d } } z).r=(zX m z).r:=fun z a=>by grind [jB,zK]
 refine⟨by simpa using h.aL,fun g b=>?_,h.aP,h.bC,h.sq,h.bH,h.st,h.cnt,h.bF,h.aW,h.aI,h.aO,h.tl,?_,fun q w g v b j a=>?_,fun j g a=>?_,h.cs⟩
 ·rcases Yn b with b|rfl
  ·exact h.bB g b
  obtain⟨i,l,n,s,r⟩:=e;exact⟨i,l,n,fun h=>absurd h t,r⟩
 ·obtain⟨e,e,e⟩:=zo.1 h.ca;refine zo.2 ⟨fun r t=>?_,fun q r r=>(by cases r),e⟩;grind [Zo,zbk,bkN]
 ·rcases h.aM q w g v b j a with e|e
  ·exact .inl e
  refine .inr ⟨e.1,e.2.1,Zm e.2.2 rfl Sm fun b=>?_⟩;obtain⟨i,l,n,s⟩:=zS e b;grind
 by_cases e:j=k;·subst e;simp only at a;rw[sF f]at a;cases a;exact h.cf j X c
 simp only at a;rw[sN (fun h=>e h.symm)]at a;exact h.cf j g a
theorem qF.entry (h:qF m T) (j:m.sp[k]? =Xa s) (p:T[k]? =Xa u) (r:b<64) (a:Z.kind=(u b).kind) (c:Z.n=(u b).n) (w:Jf m (zl s.aC b) Z):qF m (T.set k (jM u b Z)):=by
 have d:=(gS.1 p).1;have i:=zh6 (e':=Z) p r a c;refine⟨h.aL,h.bB,h.aP,h.bC,h.sq,h.bH,h.st,h.cnt,h.bF,h.aW,h.aI,h.aO,by simpa using h.tl,h.ca,?_,fun n g a=>?_,fun n z a=>?_⟩
 ·refine zaS d rfl p (fun v s g j l f q _=>h.aM v s g j l f q) (fun x t=>?_)
  grind
 ·rw[i];exact h.cf n g a
 rw[i];exact h.cs n z a
def Jy (fr:Fr):Fr:=if fr.r=1 then frF else{ fr with r:=fr.r - 1 }
theorem zqv (fr:Fr):(Jy fr).r=fr.r - 1:=by
 unfold Jy;split;·simp[frF];omega
 rfl
theorem qF.drop (h:qF m T) {n:Nat} (y:m.fs[k]? =Xa X) (D:T[p]? =Xa u) (fr:n<64) (V:(u n).kind=1) (f:(u n).n=(k:Int)):
  qF { m with fs:=m.fs.set k (Jy X) } (T.set p (jM u n en0)):=by
 have W:=(gS.1 y).1;have d:=(gS.1 D).1;have A:=h.bB X (mG y);have U:=h.cf k X y;have G:1<=qA T 1 k:=by grind [JC]
 have i:∀kind j:Int,qA (T.set p (jM u n en0)) kind j+(isE (u n) kind j).toNat=qA T kind j+(isE en0 kind j).toNat:=fun kind j=>ZQ en0 kind j D fr;have x:X.r≠1->Jy X={ X with r:=X.r - 1 }:=fun h=>by unfold Jy;rw[kF h]
 have E:zG m.ca k≠0->X.r≠1:=fun R S=>Wm;have F:qA T 1 k ≥ 2->X.r≠1:=fun R S=>Wm;refine⟨by simpa using h.aL,fun g a=>?_,h.aP,h.bC,h.sq,h.bH,h.st,h.cnt,h.bF,h.aW,h.aI,h.aO,by simpa using h.tl,?_,?_,fun j g b=>?_,fun j a0 b=>?_⟩
 ·rcases Yn a with a|rfl
  ·exact h.bB g a
  by_cases e:X.r=1;·unfold Jy;rw[kE e];exact⟨Dc,Dc,.inl rfl,fun _=>rfl,fun _=>rfl⟩
  rw[x e];obtain⟨L,B,C,M,N⟩:=A;exact⟨by simp only;omega,B,C,fun h=>by simp only at h;omega,N⟩
 ·obtain⟨a4,a5,H⟩:=zo.1 h.ca;refine zo.2 ⟨fun K a6=>?_,fun q K Y=>(by cases Y),H⟩;grind [Zo,jB,Jy,QO,zK,zbk,bkN]
 ·intro q I g Z a j b
  by_cases l:q=p/\j=n
  ·obtain⟨rfl,rfl⟩:=l;rw[sF d]at a;cases a;grind [jM]
  have c:∃s,T[q]? =Xa s/\g j=s j:=by
   by_cases Q:q=p
   ·subst Q;rw[sF d]at a;cases a;grind [jM]
   grind
  obtain⟨s,v,w⟩:=c;rw[w];rcases h.aM q I s Z v j b with e|e;·exact .inl e
  refine .inr ⟨e.1,e.2.1,Zm e.2.2 rfl Sm fun z=>?_⟩;obtain⟨L,B,C,M⟩:=zS e z;grind [jB,zdD,isE,zK]
 ·simp only at b⊢;have t:=i 1 j;rw[qW 1 j Dc]at t;by_cases P:j=k;·grind [sF,isE,zqv,Jy,frF]
  rw[sN (fun h=>P h.symm)]at b;rw[Qp (by rw[f];omega)]at t;have:=h.cf j g b;grind
 simp only at b⊢;have t:=i 2 j;rw[qW 2 j Dc,Jq (by rw[V];decide)]at t;have:=h.cs j a0 b;grind
theorem qF.dropS (h:qF m T) (D:m.sl[k]? =Xa z) (f:T[b]? =Xa u) (E:p<64) (v:(u p).kind=2) (n:(u p).n=(k:Int)):
  qF { m with sl:=m.sl.set k (z - 1) } (T.set b (jM u p en0)):=by
 have A:=(gS.1 D).1;have d:=(gS.1 f).1;have F:1<=qA T 2 k:=za6 f E (by simp[isE,v,n]) Dc;have i:∀kind j:Int,qA (T.set b (jM u p en0)) kind j+(isE (u p) kind j).toNat=qA T kind j+(isE en0 kind j).toNat:=fun kind j=>ZQ en0 kind j f E;refine⟨h.aL,h.bB,by simpa using h.aP,by simpa using h.bC,h.sq,h.bH,h.st,h.cnt,h.bF,h.aW,h.aI,h.aO,by simpa using h.tl,?_,?_,fun j t a=>?_,fun j S a=>?_⟩;·obtain⟨G,U,H⟩:=zo.1 h.ca;exact zo.2 ⟨fun B N=>G B N,fun q B P=>(by cases P),H⟩
 ·intro q R t Q s j a
  by_cases l:q=b/\j=p
  ·obtain⟨rfl,rfl⟩:=l;rw[sF d]at s;cases s;grind [jM]
  have c:∃r,T[q]? =Xa r/\t j=r j:=by
   by_cases L:q=b
   ·subst L;rw[sF d]at s;cases s;grind [jM]
   grind
  obtain⟨r,w,x⟩:=c;rw[x];rcases h.aM q R r Q w j a with e|e;·exact .inl e
  refine .inr ⟨e.1,e.2.1,Zm e.2.2 Sm rfl fun y=>?_⟩;obtain⟨V,W,X,K⟩:=zS e y;exact⟨rfl,rfl,K⟩
 ·have g:=i 1 j;rw[qW 1 j Dc,Jq (by rw[v];decide)]at g;have:=h.cf j t a;grind
 simp only at a⊢;have g:=i 2 j;rw[qW 2 j Dc]at g;by_cases C:j=k
 ·subst C;rw[sF A]at a;cases a;have M:isE (u p) 2 (j:Int)=Xc:=by simp[isE,v,n]
  rw[M]at g;have:=h.cs j z D;grind
 rw[sN (fun h=>C h.symm)]at a;rw[Qp (by rw[n];omega)]at g;have:=h.cs j S a;grind
end
def QU (g:Nat->Nat):Nat->Nat
 | 0=>0
 | n+1=>QU g n+g n
theorem zdU (g h:Nat->Nat):∀n,QU (fun k=>g k+h k) n=QU g n+QU h n
 | 0=>rfl
 | n+1=>by
  have:=zdU g h n;unfold QU;omega
theorem zrj {g h:Nat->Nat}:∀{n:Nat},(∀k,k<n->g k<=h k)->QU g n<=QU h n
 | 0,_=>nR _
 | n+1,a=>by
  have:=zrj (n:=n) fun k b=>a k Wm
  have:=a n Wm;unfold QU;omega
theorem zbT:∀n,QU (fun _=>0) n=0
 | 0=>rfl
 | n+1=>by
  unfold QU;rw[zbT n]
theorem zi4 (z:Int):∀n,QU (fun k=>(decide (z=(k:Int))).toNat) n<=1/\((n:Int)<=z->QU (fun k=>(decide (z=(k:Int))).toNat) n=0)
 | 0=>⟨nZ _,fun _=>rfl⟩
 | n+1=>by
  obtain⟨c,a⟩:=zi4 z n;unfold QU
  by_cases e:z=(n:Int)
  ·have b:=a Wm
   simp only[e,decide_true,Yr]at b⊢;exact⟨Wm,fun h=>Wm⟩
  simp only[e,decide_false,Bool.toNat_false];exact⟨Wm,fun h=>Hm (a Wm)⟩
def zd8 (f:Nat->En):Nat->Nat
 | 0=>0
 | n+1=>zd8 f n+(decide ((f n).kind=1)).toNat
def zmI (T:List (Nat->En)):Nat:=(T.map fun f=>zd8 f 64).sum
theorem zkH (f:Nat->En) (N:Nat):∀n,QU (fun k=>Zg f 1 (k:Int) n) N<=zd8 f n
 | 0=>by
  have:(fun k:Nat=>Zg f 1 (k:Int) 0)=fun _=>0:=rfl
  rw[this,zbT];exact nR _
 | n+1=>by
  have d:=zkH f N n;have b:(fun k:Nat=>Zg f 1 (k:Int) (n+1))=fun k:Nat=>Zg f 1 (k:Int) n+(isE (f n) 1 (k:Int)).toNat:=rfl;rw[b,zdU];have c:QU (fun k:Nat=>(isE (f n) 1 (k:Int)).toNat) N<=(decide ((f n).kind=1)).toNat:=by
   by_cases e:(f n).kind=1
   ·have a:(fun k:Nat=>(isE (f n) 1 (k:Int)).toNat)=fun k:Nat=>(decide ((f n).n=(k:Int))).toNat:=by
     funext k;simp[isE,e]
    rw[a];simp only[e,decide_true,Yr];exact(zi4 _ N).1
   have a:(fun k:Nat=>(isE (f n) 1 (k:Int)).toNat)=fun _=>0:=by
    funext k;simp[isE,e]
   rw[a,zbT];exact nZ _
  unfold zd8;omega
theorem zh7 (N:Nat):∀T:List (Nat->En),QU (fun k=>qA T 1 (k:Int)) N<=zmI T
 | []=>by
  have:(fun k:Nat=>qA [] 1 (k:Int))=fun _=>0:=rfl
  rw[this,zbT];exact nZ _
 | f :: T=>by
  have c:=zkH f N 64;have a:=zh7 N T;have b:(fun k:Nat=>qA (f :: T) 1 (k:Int))=fun k:Nat=>Zg f 1 (k:Int) 64+qA T 1 (k:Int):=by
   funext k;simp[qA]
  rw[b,zdU];simp only[zmI,mP,List.sum_cons]at a⊢;omega
theorem zfR (N:Nat):∀ca:List Ca,QU (fun k=>zG ca (k:Int)) N<=ca.length
 | []=>by
  have:(fun k:Nat=>zG [] (k:Int))=fun _=>0:=rfl
  rw[this,zbT];exact nZ _
 | c :: ca=>by
  have b:=zfR N ca;have d:=(zi4 c.fr N).1;have a:(fun k:Nat=>zG (c :: ca) (k:Int))=fun k:Nat=>zG ca (k:Int)+(decide (c.fr=(k:Int))).toNat:=by
   funext k;unfold zG;rw[List.countP_cons];by_cases e:c.fr=(k:Int) <;> simp[e]
  rw[a,zdU];simp only[Yg];omega
def zju (fs:List Fr):Nat:=fs.countP fun f=>!decide (f.r=0)
theorem zks:∀(fs:List Fr) (o:Nat) (g:Nat->Nat),(∀(k:Nat) f,fs[k]? =Xa f->f.r≠0->1<=g (o+k))->zju fs<=QU (fun k=>g (o+k)) fs.length
 | [],_,_,_=>by simp[zju]
 | f :: fs,o,g,h=>by
  have i:=zks fs (o+1) g fun k x d c=>by
   have:=h (k+1) x (Si d) c;rw[show o+(k+1)=o+1+k by omega]at this;exact this
  have a:∀n,QU (fun k=>g (o+k)) (n+1)=g o+QU (fun k=>g (o+1+k)) n:=by
   intro n;induction n with
   | zero=>simp[QU]
   | succ n b=>
    unfold QU;rw[b,show o+(n+1)=o+1+n by omega];unfold QU;omega
  rw[Yg,a];unfold zju at i⊢;rw[List.countP_cons];by_cases e:f.r=0
  ·simp[e]
   omega
  have:=h 0 f rfl e;simp[e];rw[Nat.add_zero]at this;omega
theorem qF.heldLe (h:qF m T):zju m.fs<=zmI T+m.ca.length:=by
 have a:=zks m.fs 0 (fun k=>qA T 1 (k:Int)+zG m.ca (k:Int)) fun k f b e=>by
  have:=(h.cf k f b).1;grind
 have c:=zh7 m.fs.length T;have d:=zfR m.fs.length m.ca;simp only[zA]at a;grind [zdU]
def Qb (l:List Ar):Nat->Nat
 | 0=>0
 | n+1=>Qb l n+(zl l n).is.toNat
theorem zhA {f:Nat->En} {l:List Ar}:∀{n:Nat},(∀j,j<n->(f j).kind=1->(zl l j).is=Xc)->zd8 f n<=Qb l n
 | 0,_=>nR _
 | n+1,h=>by
  have:=zhA (n:=n) fun j a=>h j Wm
  unfold zd8 Qb;by_cases e:(f n).kind=1
  ·rw[h n Wm e]
   simp[e];omega
  simp[e];omega
theorem zpM {a:Ar} (h:(zei l a).2=0):Qb (zei l a).1 64<=Qb l 64+(a.tz - a.fr).toNat:=by
 obtain⟨c,d,b,b,f⟩:=zjn h;have b:=QH.1 d;have d:=zb8 (jJ.1 c).2 b;unfold jU at b;have c:∀n:Nat,n<=64->Qb (zei l a).1 n<=Qb l n+(min (n:Int) a.tz - min (n:Int) a.fr).toNat:=by
  intro n;induction n with
  | zero=>intro _;simp[Qb]
  | succ n b=>
   intro e;have e:=b Wm;unfold Qb;have e:(zl (zei l a).1 n).is=(ziK l a n).is:=(by rw[f,zgx d Wm]);rw[e];unfold ziK;by_cases b:Z8 a n=Xc;·have:=jC.1 b;rw[kE b,zkh];simp only[Yr];omega
   grind
 have:=c 64 (nR _);omega
end
section
open Go.RowKit
section
variable{base hi S0:Nat} {w w':Xn} {V:MaV} {m:Ma} {vt:Sli} {T:List (Nat->En)}
def SpB (base S0:Nat) (w:Xn) (V:MaV) (m:Ma):Prop:=∃xs:List SpV,zb Qm base w (O V.sp.a V.sp.n V.sp.c) xs/\xs.length=m.sp.length/\∀(i:Nat) x s,xs[i]? =Xa x->m.sp[i]? =Xa s->(x.aF=s.aF/\zb arE base w x.ar.v s.aC/\x.tab=JJ/\s.tb=qU)/\∀g,x.ar.v.ownBlock=Xa g->g<S0
theorem MkR.spB (h:MkR base hi w V m vt T):SpB base w.heap.size w V m:=by obtain⟨d,b,c,a⟩:=h.sp;exact⟨d,b,c,fun i x s c b=>⟨a i x s c b,fun g d=>((a i x s c b).2.1.lt g d).2⟩⟩
theorem SpB.aA (h:SpB base S0 w V m) (k:zc w w'):SpB base S0 w' V m:=by obtain⟨c,a,b,e⟩:=h;refine⟨c,a.aA k,b,fun i x s g f=>?_⟩;obtain⟨⟨a,b,c⟩,d⟩:=e i x s g f;exact⟨⟨a,b.aA k,c⟩,d⟩
theorem SpB.kind (h:SpB base S0 w V m) (b:w.grownBy w' (Xa k)) (e:w.heap[k]? =Xa (Xk Y t (0,0))) (c:t≠63) (a:t≠77\/S0<=k):SpB base S0 w' V m:=by
 obtain⟨i,d,f,l⟩:=h;refine⟨i,d.kind b e c,f,fun g x s j i=>?_⟩;obtain⟨⟨f,c,h⟩,d⟩:=l g x s j i;refine⟨⟨f,?_,h⟩,d⟩;rcases a with a|a;·exact c.kind b e a
 exact c.grown b fun g a e=>by cases e;have:=d _ a;omega
theorem MkR.area (h:MkR base hi w V m vt T) (b:SpB base S0 w V m) (a:w.grownBy w' (Xa k)) (c:w.heap[k]? =Xa (Xk Y 77 (0,0))) (d:S0<=k):MkR base hi w' V m vt T:=by obtain⟨e,f,i,j,g,l,n,p,p⟩:=h.kept a c;obtain⟨t,q,r,s⟩:=b.kind a c Dc (.inr d);exact⟨nT h.hw a.size,h.bh,e Dc,f (.inl Dc),h.aZ,i (.inl Dc),h.bG,h.sq,j (.inl Dc),h.bE,g Dc,l Dc (.inl Dc),n Dc,⟨t,q,r,fun i x c a b=>(s i x c a b).1⟩,p Dc,h.ap⟩
theorem qP (h:w.grownBy w' Xb):zc w w':=z2 (zc.refl _) h (fun g e=>by cases e)
theorem MkR.addSp {a:List SpV} (h:MkR base hi w V m vt T) (s1:zb Qm base w (V.sp.x) a) (s2:a.length=m.sp.length) (s3:∀(i:Nat) x s,a[i]? =Xa x->m.sp[i]? =Xa s->x.aF=s.aF/\zb arE base w x.ar.v s.aC/\x.tab=JJ/\s.tb=qU)
  (b:w.grownBy w' (V.sp.x).ownBlock) (s c:Sli) {l:List Ar} (j:zb arE base w c.v l) (e:zb Qm base w' (s.x) (a++ [⟨Xc,c,zE,zE,zE,zE,zE,zE,zE,zE⟩])):MkR base hi w' { V with sp:=s } { m with sp:=m.sp++ [⟨Xc,l,qU⟩] } vt T:=by
 have d:(∀{x:SpV} {q:Sp},zb arE base w x.ar.v q.aC->zb arE base w' x.ar.v q.aC)->zb arE base w' c.v l->∃c:List SpV,zb Qm base w' (s.x) c/\c.length=(m.sp++ [(⟨Xc,l,qU⟩:Sp)]).length/\∀(i:Nat) x q,c[i]? =Xa x->(m.sp++ [(⟨Xc,l,qU⟩:Sp)])[i]? =Xa q->x.aF=q.aF/\zb arE base w' x.ar.v q.aC/\x.tab=JJ/\q.tb=qU:=fun n g=>by
  refine⟨_,e,by simp[s2],fun i x q f e=>?_⟩;rcases Nat.lt_or_ge i a.length with hi|hi;·grind
  rw[aR hi]at f;rw[aR Wm,<-s2]at e;have c:i - a.length=0:=by grind
  rw[c]at f e;cases f;cases e;exact⟨rfl,g,rfl,rfl⟩
 cases c:(V.sp.x).ownBlock with
 | none=>
  rw[c]at b;have k:=qP b;have a:=h.aA k;exact⟨a.hw,a.bh,a.fs,a.sl,a.aZ,a.sb,a.bG,a.sq,a.db,a.bE,a.dq,a.fl,a.ca,d (fun h=>h.aA k) (j.aA k),a.tt,a.ap⟩
 | some a=>
  rw[c]at b;obtain⟨a,a⟩:=s1.obj c;obtain⟨n,g,c,e,f,k,p,q,q⟩:=h.kept b a;exact⟨nT h.hw b.size,h.bh,n Dc,g (.inl Dc),h.aZ,c (.inl Dc),h.bG,h.sq,e (.inl Dc),h.bE,f Dc,k Dc (.inl Dc),p Dc,d (fun h=>h.kind b a Dc) (j.kind b a Dc),q Dc,h.ap⟩
theorem MkR.addT (h:MkR base hi w V m vt T) (c:w.grownBy w' (vt.x).ownBlock) (s:Sli) (d:zb zdl base w' (s.x) (T++ [u])):MkR base hi w' V m s (T++ [u]):=by
 cases b:(vt.x).ownBlock with
 | none=>
  rw[b]at c;have a:=h.aA (qP c);exact⟨a.hw,a.bh,a.fs,a.sl,a.aZ,a.sb,a.bG,a.sq,a.db,a.bE,a.dq,a.fl,a.ca,a.sp,d,a.ap⟩
 | some g=>
  rw[b]at c;obtain⟨a,a⟩:=h.tt.obj b;obtain⟨b,e,g,i,j,k,l,n,p⟩:=h.kept c a;exact⟨nT h.hw c.size,h.bh,b Dc,e (.inl Dc),h.aZ,g (.inl Dc),h.bG,h.sq,i (.inl Dc),h.bE,j Dc,k Dc (.inl Dc),l Dc,n Dc Dc,d,h.ap⟩
theorem zI.row (h:zb E base w A y) (b:w.grownBy w' A.ownBlock) (d:∀p,¬Loc hi p E.ty):zI hi w w':=by
 cases a:A.ownBlock with
 | none=>
  rw[a]at b;exact zI.aA (qP b)
 | some g=>
  rw[a]at b;obtain⟨c,c⟩:=h.obj a;exact zI.kind b c (fun p a=>absurd a (d p))
theorem zt.row (h:zb E base w A y) (c:w.grownBy w' A.ownBlock) (a:zt w b t D) (ht:t≠E.ty):zt w' b t D:=a.beside c fun g e=>h.ne a ht g e
theorem zc.row (h:zb E w0.heap.size w A y) (b:w.grownBy w' A.ownBlock) (a:zc w0 w):zc w0 w':=z2 a b fun g e=>(h.lt g e).1
end
section
variable{w0 w w':Xn} {hi b S0:Nat} {vl:Sli} {L:List Int} {V:MaV} {m:Ma} {vt:Sli} {T:List (Nat->En)}
theorem Mk.area (h:Mk w0 hi w b vl L V m vt T) (i:SpB w0.heap.size S0 w V m) (a:w.grownBy w' (Xa k)) (d:zt w k 77 D) (f:S0<=k) (c:w0.heap.size<=k):Mk w0 hi w' b vl L V m vt T/\SpB w0.heap.size S0 w' V m:=by refine⟨⟨zd h.gr a c,h.hb,h.box.beside a (fun g e=>?_),h.lr,h.lc,h.lb,h.rows.area i a d f⟩,i.kind a d Dc (.inr f)⟩;cases e;intro e;subst e;have a:w.heap[b]? =_:=h.box;rw[show w.heap[b]? =_ from d]at a;cases a
theorem SpB.pick (c:SpB w0.heap.size S0 w V m) (h:Mk w0 hi w b vl L V m vt T) (a:w.grownBy w' (Xa b)):SpB w0.heap.size S0 w' V m:=c.kind a h.box Dc (.inl Dc)
theorem zb.pick (c:zb arE w0.heap.size w A l) (h:Mk w0 hi w b vl L V m vt T) (a:w.grownBy w' (Xa b)):zb arE w0.heap.size w' A l:=c.kind a h.box Dc
end
theorem J8:Loc hi k 77:=⟨Dc,Dc,Dc,Dc,Dc,Dc,Dc,Dc,fun h=>absurd h Dc⟩
theorem jY (w:Xn) (g i:Nat) (u):w.grownBy (w.setCell ⟨g,i,Xb⟩ u) (Xa g):=⟨rfl,rfl,rfl,by simp[World.setCell],fun k _ a=>Below.heap_setCell _ _ _ _ (fun e=>a (by rw[e]))⟩
def Spc (w0:Xn) (hi b:Nat) (w:Xn) (L:List Int) (m:Ma) (T:List (Nat->En)) (w':Xn):Prop:=∃vl' L' V' m' vt' T' l,Mk w0 hi w' b vl' L' V' m' vt' T'/\J0 L L'/\zI hi w w'/\qF m' T'/\(m'.sp=m.sp++ [⟨Xc,l,qU⟩]/\m'.fl=m.fl/\m'.aB=m.aB/\m'.fs.length=m.fs.length)/\(ZA m.fl.length l/\Qb l 64<=12)/\(L=[]->m'={ m with sp:=m.sp++ [⟨Xc,[],qU⟩] }/\T'=T++ [fun _=>en0])
theorem zdS (f:Nat->En) (n:Nat):jM f n (f n)=f:=by
 funext j;unfold jM;split
 ·rename_i e
  rw[e]
 rfl
theorem zgc {x:α} (h:y[k]? =Xa x):y.set k x=y:=by apply Xx;grind
section
variable{m:Ma} {T:List (Nat->En)} {s0 s1:Sp} {fA fB:Nat->En} {n:Nat}
theorem qF.entry0 (h:qF m T) (a:m.sp[0]? =Xa s0) (b:T[0]? =Xa fA) (c:n<64):fA n=en0\/(∃(k:Nat) (fr:Fr),(fA n).kind=1/\(fA n).n=(k:Int)/\m.fs[k]? =Xa fr)\/(∃(k:Nat) (z:Int),(fA n).kind=2/\(fA n).n=(k:Int)/\m.sl[k]? =Xa z/\0<=z/\z<=1000):=by
 rcases h.aM 0 s0 fA a b n c with e|e;·exact .inl e
 by_cases b:(fA n).kind=2
 ·refine .inr (.inr ?_);obtain⟨c,a,a⟩:=e;obtain⟨d,d,d⟩:=jV c;unfold zal at a;by_cases c:(zl s0.aC n).is=Xd;·grind
  rw[kF c,kE b]at a;split at a;·cases a
  rename_i a
  have a:(fA n).n.toNat<m.sl.length:=by grind
  have c:=h.cs _ _ (gE a);have c:=zaN T 2 ((fA n).n.toNat:Int);have c:=h.tl;have c:=h.aI;grind
 obtain⟨c,d,d,_⟩:=zS e b;have a:(fA n).n.toNat<m.fs.length:=Wm;exact .inr (.inl ⟨(fA n).n.toNat,m.fs[(fA n).n.toNat],c,Wm,gE a⟩)
theorem qF.forkP (h:qF m T) (hs0:m.sp[0]? =Xa s0) (hs1:m.sp[1]? =Xa s1) (har:s1.aC=s0.aC) (hA:T[0]? =Xa fA) (hB:T[1]? =Xa fB) (hn:n<64) (hBn:fB n=en0) (hk:m.fs[k]? =Xa X) (hkind:(fA n).kind=1) (hen:(fA n).n=(k:Int)) (he:Z=if(zl s0.aC n).sh=Xc then fA n else{ fA n with wr:=false }):
  qF { m with fs:=m.fs.set k { X with r:=X.r+1 } } ((T.set 0 (jM fA n Z)).set 1 (jM fB n Z)):=by
 have hne:fA n≠en0:=fun e=>by rw[e]at hkind;cases hkind
 have hok:Jf m (zl s0.aC n) (fA n):=(h.aM 0 s0 fA hs0 hA n hn).resolve_left hne;by_cases hsh:(zl s0.aC n).sh=Xc
 ·rw[kE hsh]at he;subst he;rw[zdS,zgc hA];refine h.share hk hA rfl hB Dc hn hBn hs1 (Rx har hok) hkind hen (fun _ hf=>?_);obtain⟨h1,h2,h3⟩:=hok;grind [zal,zl,zX,zK]
 rw[kF hsh]at he;subst he;have g:=h.guard hA hn hne;have hA':(T.set 0 (jM fA n { fA n with wr:=false }))[0]? =Xa (jM fA n { fA n with wr:=false }):=sF (gS.1 hA).1;have hB':(T.set 0 (jM fA n { fA n with wr:=false }))[1]? =Xa fB:=by rw[sN Dc];exact hB
 have hv:jM fA n { fA n with wr:=false } n={ fA n with wr:=false }:=by unfold jM;rw[kE rfl]
 refine g.share hk hA' hv hB' Dc hn hBn hs1 ?_ hkind hen (fun e=>by cases e);rw[har];have:=g.aM 0 s0 _ hs0 hA' n hn;rw[hv]at this;refine this.resolve_left fun e=>?_;have:({ fA n with wr:=false }:En).kind=en0.kind:=by rw[e]
 rw[show({ fA n with wr:=false }:En).kind=(fA n).kind from rfl,hkind]at this;cases this
theorem qF.forkS (h:qF m T) (f:m.sp[0]? =Xa s0) (g:m.sp[1]? =Xa s1) (c:s1.aC=s0.aC) (i:T[0]? =Xa fA) (p:T[1]? =Xa fB) (j:n<64) (b:fB n=en0) (q:m.sl[k]? =Xa z) (a:(fA n).kind=2) (d:(fA n).n=(k:Int)):
  qF { m with sl:=m.sl.set k (z+1) } ((T.set 0 (jM fA n (fA n))).set 1 (jM fB n (fA n))):=by
 have e:fA n≠en0:=fun l=>by rw[l]at a;cases a
 rw[zdS,zgc i];exact h.shareS q p j b g (by rw[c];exact(h.aM 0 s0 fA f i n j).resolve_left e) a d
theorem znt (c:T[0]? =Xa fA) (d:T[1]? =Xa fB) (a:fA n=en0) (b:fB n=en0):(T.set 0 (jM fA n en0)).set 1 (jM fB n en0)=T:=by grind [jM,en0,zdS,zgc]
end
section
variable{α:Type} {E:Elt α}
theorem zbh (p x t) (A:o.op= .store t p x) (base:Nat) (v:Xq) (l:List α) (b:zb E base w v l)
  (g i j:Nat) (s:v.ownBlock=Xa g) (e y:α) (hi:l[i]? =Xa e) (cs:List Xq) (f:(Tryz.prog.info? t).map (·.size)=Xa cs.length) (D:E.enc y=splice (E.enc e) j cs) (z:j+cs.length<=E.k) (n:∀u∈cs,u.oneCell'=Xc)
  (ad:Addr) (hp:a.eval p= Xj (Xa ad)) (c:ad=⟨g,i*E.k+j,Xb⟩) (k:Xq) (C:a.eval x=k) (h:k.cells=cs.toArray):
  ∃w',(execOp a.eval o).run prog w= .ok .skip w'/\zb E base w' v (l.set i y)/\w.grownBy w' (Xa g)/\w'.heap.size=w.heap.size:=by
 subst c;have d:=(gS.1 hi).1;have c:i*E.k+j+cs.length<=l.length*E.k:=by
  have:(i+1)*E.k<=l.length*E.k:=Yj _ d;rw[Od]at this;omega
 obtain⟨w',B,m,q,r⟩:=Zt (P:=prog) b.1 s (i*E.k+j) cs c n;have d:(Go.sizeOf t).run prog w= .ok cs.length w:=by
  cases c:Tryz.prog.info? t with
  | none=>simp[c]at f
  | some i=>simp[c]at f;simp[Go.sizeOf,typeInfo,c,f]
 have c:(Instr.storeAt t (Xj (Xa ⟨g,i*E.k+j,Xb⟩)) k).run prog w= .ok () w':=by
  simp[Instr.storeAt,Instr.sureAddr,storeVar,Xs,d,Result.andThen,h,B]
 rw[J4 j cs D z l i hi]at m;refine⟨w',?_,⟨Rx Xt m,Rx Xt b.2⟩,q,r⟩;simp only[execOp,A,hp,C,Xs,c,Result.andThen,Xy]
theorem zeJ {P:Program} (b:(execOp a.eval o).run P w= .ok .skip w') (h:M undef w'):zN P o a w M:=by unfold zN;rw[b];exact h
end
theorem zej:Loc hi k 55:=⟨Dc,Dc,Dc,Dc,Dc,Dc,Dc,Dc,fun h=>absurd h Dc⟩
theorem zdB:Loc hi k 68:=⟨Dc,Dc,Dc,Dc,Dc,Dc,Dc,Dc,fun h=>absurd h Dc⟩
theorem ZT {K:Xq->Xn->Prop} (d p x) (n:o.op= .store d p x) (b c:Nat) (hp:a.eval p= Xj (Xa ⟨b,c,Xb⟩)) (g:Xq) (r:a.eval x=g) (vs:List Xq) (f:g.cells=vs.toArray)
  {t:TypeId} {cs:List Xq} (h:zt w b t cs) (m:c+vs.length<=cs.length) (hi:(Tryz.prog.info? d).map (·.size)=Xa vs.length) (j:∀v∈vs,v.oneCell'=Xc)
  (i:∀w',zt w' b t (splice cs c vs)->w.grownBy w' (Xa b)->w'.heap.size=w.heap.size->K undef w'):zN prog o a w K:=by
 have e:(Value.agg vs.toArray).cells=vs.toArray:=by
  unfold Value.cells;simp
 have q:(execOp a.eval o).run prog w= .ok .skip (w.setCells b c vs):=by
  have k:=run_storeAt_mid (P:=prog) w b c d vs.toArray (fun s l=>by
   have:=h.box.there (c+s) (by simp at l;omega)
   rw[zA]at this;exact this) (Si hi) (all_oneCell_toArray j)
  have j:(Instr.storeAt d (Xj (Xa ⟨b,c,Xb⟩)) g).run prog w=(Instr.storeAt d (Xj (Xa ⟨b,c,Xb⟩)) (Xi vs.toArray)).run prog w:=by
   simp only[Instr.storeAt,Instr.sureAddr,storeVar,f,e]
  simp only[execOp,n,hp,r,Xs,j,k,rA,Xy]
 exact zeJ q (i _ (h.part (ds:=vs) (o:=c) m) (zT b vs c w).1 (zT b vs c w).2)
theorem Qk (d:o.guard=Xb) (f p x) (l:o.op= .store f p x) (b c:Nat) (hp:a.eval p= Xj (Xa ⟨b,c,Xb⟩)) (g:Xq) (m:a.eval x=g) (vs:List Xq) (e:g.cells=vs.toArray)
  {t:TypeId} {cs:List Xq} (j:zt w b t cs) (k:c+vs.length<=cs.length) (hi:(Tryz.prog.info? f).map (·.size)=Xa vs.length) (i:∀v∈vs,v.oneCell'=Xc)
  (h:∀w',zt w' b t (splice cs c vs)->w.grownBy w' (Xa b)->w'.heap.size=w.heap.size->wpList prog ops Q K (a.put o.dst undef) w'):wpList prog ops Q (o :: K) a w:=
 wpList_plain d fun _ d=>(ZT (K:=fun v w'=>v=undef/\wpList prog ops Q K (a.put o.dst undef) w') f p x l b c hp g m vs e j k hi i (fun w' c e f=>⟨rfl,h w' c e f⟩)).wp (fun v w' c=>d _ _ (Rx c.1 c.2))
theorem zco (e x) (g:o.op= .load e x) (b c:Nat) (j:a.eval x= Xj (Xa ⟨b,c,Xb⟩)) (vs:List Xq) (f:w.rangeAt b c vs) {d:TypeDesc} (i:Tryz.prog.underlying e=Xa d) (hd:d.isRow=Xc) (hi:(Tryz.prog.info? e).map (·.size)=Xa vs.length) (h:M (Xi vs.toArray) w):zN prog o a w M:=by have:=run_loadAt_mid (P:=prog) w b c e vs d f i hd hi;exact zN.step (by simp only[execOp,g,j,Xs,this,rA,Xy]) h
theorem zlP (f:TypeId) (x:Operand) (j:o.op= .load f x) (b c:Nat) (l:a.eval x= Xj (Xa ⟨b,c,Xb⟩)) (v:Xq) (i:w.cell? ⟨b,c,Xb⟩=Xa v) {d:TypeDesc} (k:Tryz.prog.underlying f=Xa d) (hd:d.isRow=Xd) (h:M v w):zN prog o a w M:=by
 have e:(isAgg f).run prog w= .ok Xd w:=by
  unfold isAgg;rw[Xs,run_underlying k w];cases d <;> simp_all [TypeDesc.isRow]
 have g:(loadVar f ⟨b,c,Xb⟩).run prog w= .ok v w:=by simp[loadVar,Xs,e,i]
 exact zN.step (by simp only[execOp,j,l,Instr.loadAt,Instr.sureAddr,Xs,Xy,g,rA]) h
theorem zdm (p x t) (r:o.op= .store t p x) (base:Nat) (v:Xq) (l:List α) (b:zb E base w v l)
  (g i j:Nat) (m:v.ownBlock=Xa g) (e y:α) (hi:l[i]? =Xa e) (cs:List Xq) (q:(Tryz.prog.info? t).map (·.size)=Xa cs.length) (z:E.enc y=splice (E.enc e) j cs) (n:j+cs.length<=E.k) (k:∀u∈cs,u.oneCell'=Xc)
  (ad:Addr) (hp:a.eval p= Xj (Xa ad)) (d:ad=⟨g,i*E.k+j,Xb⟩) (c:Xq) (s:a.eval x=c) (f:c.cells=cs.toArray)
  (h:∀w',zb E base w' v (l.set i y)->w.grownBy w' (Xa g)->w'.heap.size=w.heap.size->M undef w'):zN prog o a w M:=by grind [zbh,zeJ]
theorem Jr.form (h:Jr B0 B1 w us G):∃a t1 t2 b c d e f:Sli,us=[a.v,t1.v,t2.v,b.v,c.v,d.v,e.v,f.v]:=by obtain⟨u0,u1,u2,u3,u4,u5,u6,u7,rfl⟩:=znN h.len;obtain⟨a,a,a,a,a,a,a,a,rfl⟩:=znN h.aJ;obtain⟨a,j,rfl,_⟩:=(h.row 0 _ _ rfl rfl).now.rows;obtain⟨b,k,rfl,_⟩:=(h.row 1 _ _ rfl rfl).now.rows;obtain⟨c,l,rfl,_⟩:=(h.row 2 _ _ rfl rfl).now.rows;obtain⟨d,m,rfl,_⟩:=(h.row 3 _ _ rfl rfl).now.rows;obtain⟨e,n,rfl,_⟩:=(h.row 4 _ _ rfl rfl).now.rows;obtain⟨f,p,rfl,_⟩:=(h.row 5 _ _ rfl rfl).now.rows;obtain⟨g,q,rfl,_⟩:=(h.row 6 _ _ rfl rfl).now.rows;obtain⟨i,r,rfl,_⟩:=(h.row 7 _ _ rfl rfl).now.rows;exact⟨⟨a,_,j⟩,⟨b,_,k⟩,⟨c,_,l⟩,⟨d,_,m⟩,⟨e,_,n⟩,⟨f,_,p⟩,⟨g,_,q⟩,⟨i,_,r⟩,rfl⟩
theorem zkr (m:Ma) (e:En) (n:Int):(Q8 m e n).sp=m.sp:=by
 unfold Q8;split;·rfl
 split <;> rfl
theorem zlM (m:Ma) (q:Nat) (n:Int) (e):(Zl m q n e).sp.length=m.sp.length:=by simp[Zl]
def zoi (m:Ma):Prop:=∀s∈m.sp,(wrL s.aC).1=0/\tbW s.tb=0
theorem zmG (h:Js m=0):zoi m:=fun s a=>by
 unfold Js at h;split at h;·cases h
 have:=zj.1 h (spE s) (Yh.2 ⟨s,a,rfl⟩);grind [spE]
theorem zqK (h:tbW s.tb=0) (n:Nat):enW (zf s n)=0:=by
 unfold zf zbF;have a:=ZY.1 h;have:ziH (s.tb[n / 8]?.getD []):=by
  cases e:s.tb[n / 8]? with
  | none=>exact .inl rfl
  | some x=>exact a x (mG e)
 exact this.get (n % 8)
theorem zgJ (h:k<64):zfe s.tb (k:Int)=zf s k:=by unfold zfe zf;rw[kE Wm,tN]
theorem zhD (h:(jL s)[j]? =Xa k):k<64:=by have:=mG h;unfold jL at this;rw[List.mem_filter,Yl]at this;exact this.1
theorem zgR:∀{l:List Ar} {p:Option Ar} {k:Nat} {a:Ar},QQ p l->l[k]? =Xa a->jU a
 | [],_,_,_,_,h=>by simp at h
 | b :: l,p,0,a,c,h=>by
  simp at h
  subst h;exact c.1
 | b :: l,p,k+1,a,c,h=>zgR c.2.2 (Si h)
structure zbb where
 ty:TypeId
 enc:Int × Int->Xq
 bI:∃fs,Tryz.prog.underlying ty=Xa (.struct fs)
 check:∀(em:Bool) (a:Int × Int) (w:Xn),(Instr.checkKey em 10000 ty (enc a)).run prog w= .ok () w
 same:∀(a b:Int × Int) (w:Xn),(Op.equal ty (enc a) (enc b)).run prog w= .ok (decide (a=b)) w
 bits:∀a:Int × Int,Instr.sameBits 10000 (enc a) (enc a)=Xc
def zbd:List ((Int × Int) × Int)->Int × Int->Option Int
 | [],_=>Xb
 | p :: l,k=>if k=p.1 then Xa p.2 else zbd l k
def zeE:List ((Int × Int) × Int)->Int × Int->Nat->Option (Nat × Xq)
 | [],_,_=>Xb
 | p :: l,k,i=>if k=p.1 then Xa (i,Xe Xf p.2)else zeE l k (i+1)
def zjf:List ((Int × Int) × Int)->Int × Int->Int->List ((Int × Int) × Int)
 | [],k,v=>[(k,v)]
 | p :: l,k,v=>if k=p.1 then(k,v) :: l else p :: zjf l k v
theorem zb9:∀(l:List ((Int × Int) × Int)) (k x:Int × Int) (v:Int),zbd (zjf l k v) x=if x=k then Xa v else zbd l x
 | [],k,x,v=>by simp[zjf,zbd]
 | p :: l,k,x,v=>by
  unfold zjf
  by_cases h:k=p.1
  ·rw[kE h];unfold zbd
   by_cases a:x=k
   ·simp[a]
   have b:¬x=p.1:=fun e=>a (e.trans h.symm)
   simp[a,b]
  rw[kF h];unfold zbd;rw[zb9 l];by_cases a:x=p.1;·rw[kE a,kE a,kF (fun e=>h (e.symm.trans a))]
  rw[kF a,kF a]
theorem za9:∀{l:List ((Int × Int) × Int)} {k:Int × Int} {i:Nat},zeE l k i=Xb->zbd l k=Xb/\∀v,zjf l k v=l++ [(k,v)]
 | [],k,i,_=>⟨rfl,fun v=>rfl⟩
 | p :: l,k,i,h=>by
  unfold zeE at h
  by_cases e:k=p.1
  ·rw[kE e]at h;cases h
  rw[kF e]at h;obtain⟨a,b⟩:=za9 h;refine⟨by unfold zbd;rw[kF e,a],fun v=>?_⟩
  unfold zjf;rw[kF e,b];rfl
theorem za8:∀{l:List ((Int × Int) × Int)} {k:Int × Int} {i j:Nat} {u:Xq},zeE l k i=Xa (j,u)->∃n z,u=I6 z/\j=i+n/\l[n]? =Xa (k,z)/\zbd l k=Xa z/\∀v,zjf l k v=l.set n (k,v)
 | [],k,i,j,u,h=>by cases h
 | p :: l,k,i,j,u,h=>by
  unfold zeE at h
  by_cases e:k=p.1
  ·rw[kE e]at h;cases h;refine⟨0,p.2,rfl,rfl,Rr e,by unfold zbd;rw[kE e],fun v=>?_⟩
   unfold zjf;rw[kE e];rfl
  rw[kF e]at h;obtain⟨n,z,a,b,b,c,d⟩:=za8 h;refine⟨n+1,z,a,Wm,Si b,by unfold zbd;rw[kF e,c],fun v=>?_⟩
  unfold zjf;rw[kF e,d];rfl
def QA (K:zbb) (w:Xn) (b:Nat) (g:Int × Int->Option Int):Prop:=
 ∃es clock l,w.heap[b]? =Xa (.map es clock)/\(es.toList.map (fun e=>(e.key,e.val))=l.map (fun p:(Int × Int) × Int=>(K.enc p.1,Value.int .i64 p.2))/\(es.toList.map (·.born)).Pairwise (·< ·)/\∀e∈es.toList,e.born<clock)/\∀k,zbd l k=g k
theorem QA.lt {K:zbb} (h:QA K w b U):b<w.heap.size:=by obtain⟨a,c,l,a,_⟩:=h;exact(aS.1 a).1
theorem QA.made (K:zbb) (w:Xn):QA K (w.alloc (.map #[] 0)) w.heap.size (fun _=>Xb):=⟨#[],0,[],by
 show(w.heap.push _)[w.heap.size]? =_
 simp,⟨rfl,List.Pairwise.nil,fun e a=>by cases a⟩,fun k=>rfl⟩
theorem QA.aA {K:zbb} {g:Int × Int->Option Int} (h:QA K w b g) (i:zc w w'):QA K w' b g:=by have a:=h.lt;obtain⟨d,c,l,e,f⟩:=h;exact⟨d,c,l,(Below.block i b a).trans e,f⟩
theorem QA.kept {K:zbb} {a:Option Nat} (h:QA K w b U) (j:w.grownBy w' a) (c:Xa b≠a):QA K w' b U:=by have a:=h.lt;obtain⟨e,d,l,f,i⟩:=h;exact⟨e,d,l,(j.block b a c).trans f,i⟩
theorem QA.congr {K:zbb} {a:Int × Int->Option Int} (h:QA K w b U) (e:∀k,U k=a k):QA K w b a:=by obtain⟨a,c,l,d,f,i⟩:=h;exact⟨a,c,l,d,f,fun k=>(i k).trans (e k)⟩
theorem zbi (K:zbb) (k:Int × Int) (w):∀(l:List ((Int × Int) × Int)) (a:List MapEntry) (i:Nat),a.map (fun e=>(e.key,e.val))=l.map (fun p=>(K.enc p.1,I6 p.2))->(Instr.findAsking K.ty (K.enc k) a i).run prog w= .ok (zeE l k i) w
 | [],[],i,_=>rfl
 | [],e :: a,i,h=>by simp at h
 | p :: l,[],i,h=>by simp at h
 | p :: l,e :: a,i,h=>by
  simp only[mP,List.cons.injEq,pJ]at h;obtain⟨⟨b,c⟩,d⟩:=h;unfold Instr.findAsking zeE;simp only[Xs,b,K.same,rA]
  by_cases b:k=p.1;·simp[b,c]
  simp[b,zbi K k w l a (i+1) d]
theorem zbs (K:zbb) (k:Int × Int) (w) (l:List ((Int × Int) × Int)) (a:List MapEntry) (h:a.map (fun e=>(e.key,e.val))=l.map (fun p=>(K.enc p.1,I6 p.2))):(Instr.findKey K.ty (K.enc k) a).run prog w= .ok (zeE l k 0) w:=by
 obtain⟨b,c⟩:=K.bI;unfold Instr.findKey;simp only[Xs,run_underlying c,rA];cases a with
 | nil=>
  cases l with
  | nil=>rfl
  | cons p l=>simp at h
 | cons e a=>
  have:Instr.findNow (.struct b) (K.enc k) (e :: a) 0=Xb:=by simp[Instr.findNow,Instr.sameNow]
  rw[this];exact zbi K k w l (e :: a) 0 h
theorem QA.look {K:zbb} (a:QA K w b U) {e:TypeId} (ht:Tryz.prog.underlying t=Xa (.map K.ty e)) (j:(zeroValue e).run prog w= .ok (I6 0) w) (k:Int × Int) (c:Bool):
  (Instr.lookup t (.map (Xa b)) (K.enc k) c).run prog w= .ok (if c then Xm #[I6 ((U k).getD 0),Xh (U k).isSome]else I6 ((U k).getD 0)) w:=by
 obtain⟨d,f,l,f,⟨i,_⟩,h⟩:=a;have a:=zbs K k w l d.toList i;unfold Instr.lookup;cases d:zeE l k 0 with
 | none=>
  rw[d]at a;have:=(za9 d).1;rw[h k]at this;cases c <;> simp[run_underlying ht,MapKept.run_getObj_map f,K.check,a,j,this]
 | some q=>
  obtain⟨j,u⟩:=q;rw[d]at a;obtain⟨n,z,rfl,_,_,i,_⟩:=za8 d;rw[h k]at i;cases c <;> simp[run_underlying ht,MapKept.run_getObj_map f,K.check,a,i]
theorem zef (f:MapEntry->MapEntry) (b:∀e,(f e).born=e.born):∀(a:List MapEntry) (n:Nat),(a.modify n f).map (·.born)=a.map (·.born)
 | [],n=>Sm
 | e :: a,0=>by simp[b]
 | e :: a,n+1=>by simp[zef f b a n]
structure Qi (K:zbb) (es:Array MapEntry) (cl:Nat) (l:List ((Int × Int) × Int)):Prop where
 cJ:es.toList.map (fun e=>(e.key,e.val))=l.map (fun p=>(K.enc p.1,Value.int .i64 p.2))
 rise:(es.toList.map (·.born)).Pairwise (·< ·)
 low:∀e∈es.toList,e.born<cl
theorem Qi.push {K:zbb} {a:Array MapEntry} {l:List ((Int × Int) × Int)} (h:Qi K a cl l) (k:Int × Int) (v:Int):Qi K (a.push ⟨K.enc k,I6 v,cl⟩) (cl+1) (l++ [(k,v)]):=by
 refine⟨by simp[h.cJ],?_,fun e a=>?_⟩
 ·simp only[Ob,List.map_append,mP,Yf];rw[List.pairwise_append];refine⟨h.rise,Sm,fun b c b b=>?_⟩;obtain⟨e,a,rfl⟩:=Yh.1 c;simp at b;rw[b];exact h.low e a
 simp only[Ob,List.mem_append,List.mem_singleton]at a;rcases a with a|rfl;·have:=h.low e a;omega
 simp
theorem Qi.modify {K:zbb} {a:Array MapEntry} {l:List ((Int × Int) × Int)} (h:Qi K a cl l) (d:l[k]? =Xa (S,z)) (f:MapEntry->MapEntry) (v:Int) (c:∀e,(f e).born=e.born) (b:∀e,e.key=K.enc S->e.val=I6 z->(f e).key=K.enc S/\(f e).val=I6 v):Qi K (a.modify k f) cl (l.set k (S,v)):=by
 have b:(a.modify k f).toList.map (·.born)=a.toList.map (·.born):=by rw[Yw];exact zef f c a.toList k
 refine⟨?_,Rx b h.rise,fun e c=>?_⟩
 ·have d:=h.cJ;rw[Yw];apply Xx;intro j;have g:=congrArg (fun(x:List (Xq × Xq))=>x[j]?) d;grind
 have:e.born∈a.toList.map (·.born):=by rw[<-b];exact Yh.2 ⟨e,c,rfl⟩
 obtain⟨b,a,c⟩:=Yh.1 this;rw[<-c];exact h.low b a
theorem Qi.at {K:zbb} {b:Array MapEntry} {l:List ((Int × Int) × Int)} (h:Qi K b cl l) (a:l[k]? =Xa (S,z)):∃a,b[k]? =Xa a/\a.key=K.enc S/\a.val=I6 z:=by have:=congrArg (fun(x:List (Xq × Xq))=>x[k]?) h.cJ;grind
theorem zkL:∀{l:List Nat},l.Pairwise (·< ·)->∀{i j:Nat} {x:Nat},l[i]? =Xa x->l[j]? =Xa x->i=j
 | [],_,i,j,x,h,_=>by simp at h
 | a :: l,hp,i,j,x,h,b=>by
  rw[Yy]at hp
  cases i with
  | zero=>
   cases j with
   | zero=>rfl
   | succ j=>
    simp at h b
    subst h;have:=hp.1 a (mG b);omega
  | succ i=>
   cases j with
   | zero=>
    simp at h b;subst b;have:=hp.1 a (mG h);omega
   | succ j=>
    simp at h b;rw[zkL hp.2 h b]
theorem zeh {K:zbb} {f c:Array MapEntry} {l:List ((Int × Int) × Int)} {k:Int × Int} {v:Int} (e:w.heap[b]? =Xa (.map f cl)) (h:∀k,zbd l k=U k) (d:Qi K c p (zjf l k v)):
  QA K (ChangeMaps.setBlock w b (.map c p)) b (fun x=>if x=k then Xa v else U x)/\w.grownBy (ChangeMaps.setBlock w b (.map c p)) (Xa b)/\(ChangeMaps.setBlock w b (.map c p)).heap.size=w.heap.size:=by refine⟨⟨c,p,zjf l k v,ChangeMaps.heap_setBlock_same e _,⟨d.cJ,d.rise,d.low⟩,fun x=>?_⟩,⟨rfl,rfl,rfl,by simp[ChangeMaps.setBlock],fun i _ p=>ChangeMaps.heap_setBlock_other e _ (fun e=>p (by rw[e]))⟩,by simp[ChangeMaps.setBlock]⟩;rw[zb9,h]
theorem QA.put {K:zbb} (a:QA K w b U) {e:TypeId} (ht:Tryz.prog.underlying t=Xa (.map K.ty e)) (k:Int × Int) (v:Int):
  ∃w',(Instr.mapUpdate t (.map (Xa b)) (K.enc k) (I6 v)).run prog w= .ok () w'/\QA K w' b (fun x=>if x=k then Xa v else U x)/\w.grownBy w' (Xa b)/\w'.heap.size=w.heap.size:=by
 obtain⟨i,h,l,c,⟨f,d,j⟩,m⟩:=a;have a:Qi K i h l:=⟨f,d,j⟩;have d:=zbs K k w l i.toList f;cases j:zeE l k 0 with
 | none=>
  rw[j]at d;have f:=(za9 j).2 v;refine⟨ChangeMaps.setBlock w b (.map (i.push ⟨K.enc k,I6 v,h⟩) (h+1)),?_,zeh c m (Rx f (a.push k v))⟩;simp[Instr.mapUpdate,run_underlying ht,MapKept.run_getObj_map c,K.check,d,MapKept.run_setObj_map _ c,ChangeMaps.setBlock]
 | some q=>
  obtain⟨f,u⟩:=q;rw[j]at d;obtain⟨p,z,rfl,rfl,l,_,n⟩:=za8 j;rw[zA]at d;obtain⟨f,f,j,_⟩:=a.at l;refine⟨ChangeMaps.setBlock w b (.map (i.modify p fun e=>{ e with key:=K.enc k,val:=I6 v }) h),?_,zeh c m (by rw[n];exact a.modify l _ v (fun _=>rfl) (fun _ _ _=>⟨rfl,rfl⟩))⟩;simp[Instr.mapUpdate,run_underlying ht,MapKept.run_getObj_map c,K.check,d,f,j,Instr.keyThatStays,K.bits,MapKept.run_setObj_map _ c,ChangeMaps.setBlock]
def zrb (K:zbb) (w:Xn) (b:Nat) (g:Int × Int->Option Int) (k:Int × Int) (st:Int):Prop:=
 ∃es cl l,w.heap[b]? =Xa (.map es cl)/\Qi K es cl l/\(∀k,zbd l k=g k)/\∃(n:Nat) (z:Int) (e:MapEntry),l[n]? =Xa (k,z)/\(∀v,zjf l k v=l.set n (k,v))/\es[n]? =Xa e/\(e.born:Int)=st
theorem zrb.f {K:zbb} {k:Int × Int} {a:Int} (h:zrb K w b U k a):QA K w b U:=by obtain⟨d,c,l,e,a,f,_⟩:=h;exact⟨d,c,l,e,⟨a.cJ,a.rise,a.low⟩,f⟩
theorem zhw:∀{l:List ((Int × Int) × Int)} {k:Int × Int} (z v:Int),zbd l k=Xb->zjf (l++ [(k,z)]) k v=(l++ [(k,z)]).set l.length (k,v)
 | [],k,z,v,_=>by simp[zjf]
 | p :: l,k,z,v,h=>by
  unfold zbd at h
  by_cases e:k=p.1
  ·rw[kE e]at h;cases h
  rw[kF e]at h;simp only[List.cons_append,zjf,e,if_false,Yg,sS];rw[zhw z v h]
theorem QA.entry {K:zbb} (h:QA K w b U) {e:TypeId} (ht:Tryz.prog.underlying t=Xa (.map K.ty e)) (s:(zeroValue e).run prog w= .ok (I6 0) w) (k:Int × Int):
  ∃w' a,(Instr.mapEntry t (.map (Xa b)) (K.enc k)).run prog w= .ok (Xm #[I6 ((U k).getD 0),I6 a]) w'/\zrb K w' b (fun x=>if x=k then Xa ((U k).getD 0)else U x) k a/\w.grownBy w' (Xa b)/\w'.heap.size=w.heap.size:=by
 obtain⟨i,f,l,c,⟨r,a,d⟩,j⟩:=h;have h:Qi K i f l:=⟨r,a,d⟩;have m:=zbs K k w l i.toList r;cases q:zeE l k 0 with
 | none=>
  rw[q]at m;obtain⟨p,d⟩:=za9 q;have n:U k=Xb:=Ry j p;have a:=h.push k 0;have u:=zeh c j (k:=k) (v:=0) (Rx d a);refine⟨ChangeMaps.setBlock w b (.map (i.push ⟨K.enc k,I6 0,f⟩) (f+1)),f,?_,⟨_,_,_,ChangeMaps.heap_setBlock_same c _,a,fun x=>?_,l.length,0,⟨K.enc k,I6 0,f⟩,Sm,fun A=>zhw 0 A p,?_,rfl⟩,u.2⟩
  ·rw[n]
   simp[Instr.mapEntry,run_underlying ht,MapKept.run_getObj_map c,K.check,m,s,MapKept.run_setObj_map _ c,ChangeMaps.setBlock,goInt]
  ·rw[n,<-d,zb9,j];rfl
  have:i.size=l.length:=by have:=congrArg Yo r;simpa using this
  simp[<-this]
 | some d=>
  obtain⟨p,p⟩:=d;rw[q]at m;obtain⟨r,z,rfl,rfl,p,B,s⟩:=za8 q;rw[zA]at m;obtain⟨y,d,q,C⟩:=h.at p;have n:U k=Xa z:=Ry j B;have a:Qi K (i.modify r fun e=>{ e with key:=K.enc k }) f (l.set r (k,z)):=h.modify p (fun e=>{ e with key:=K.enc k }) z (fun _=>rfl) (fun _ _ h=>⟨rfl,h⟩);have u:=zeh c j (k:=k) (v:=z) (Rx s a);have h:=(gS.1 p).1;refine⟨ChangeMaps.setBlock w b (.map (i.modify r fun e=>{ e with key:=K.enc k }) f),y.born,?_,⟨_,_,_,ChangeMaps.heap_setBlock_same c _,a,fun x=>?_,r,z,{ y with key:=K.enc k },sF h,fun A=>?_,?_,rfl⟩,u.2⟩
  ·rw[n]
   simp[Instr.mapEntry,run_underlying ht,MapKept.run_getObj_map c,K.check,m,d,q,Instr.keyThatStays,K.bits,MapKept.run_setObj_map _ c,ChangeMaps.setBlock,goInt]
  ·rw[n,<-s,zb9,j];rfl
  ·rw[zgd p,s]
  rw[Array.getElem?_modify,kE rfl,d];rfl
theorem zrb.store {K:zbb} (h:zrb K w b U S H) (t) (v:Int):
  ∃w',(Instr.entryStore t (.map (Xa b)) (I6 H) (I6 v)).run prog w= .ok () w'/\QA K w' b (fun x=>if x=S then Xa v else U x)/\w.grownBy w' (Xa b)/\w'.heap.size=w.heap.size:=by
 obtain⟨H,p,l,i,f,q,n,z,e,r,s,c,rfl⟩:=h;have j:=(aS.1 c).1;have d:H.findIdx? (fun h=>(h.born:Int) ==(e.born:Int))=Xa n:=by
  rw[Array.findIdx?_eq_some_iff_getElem];refine⟨j,?_,fun j l=>?_⟩
  ·have:H[n]=e:=(aS.1 c).2
   simp[this]
  intro u;have m:j<H.size:=Wm;have l:H[j].born=e.born:=by
   have:(H[j].born:Int)=(e.born:Int):=Si u;omega
  have u:(H.toList.map (·.born))[n]? =Xa e.born:=by simp[c]
  have c:(H.toList.map (·.born))[j]? =Xa e.born:=by simp[m,l]
  have:=zkL f.rise u c;omega
 refine⟨ChangeMaps.setBlock w b (.map (H.modify n fun h=>{ h with val:=I6 v }) p),?_,zeh i q (by rw[s];exact f.modify r _ v (fun _=>rfl) (fun _ H _=>⟨H,rfl⟩))⟩;simp[Instr.entryStore,MapKept.run_getObj_map i,asInt,asIntOf,d,MapKept.run_setObj_map _ i,ChangeMaps.setBlock]
theorem zmm {K:zbb} {rest:List Oper} (c:o.guard=Xb) (t e m x v) (f:o.op= .mapUpdate t m x v) (ht:Tryz.prog.underlying t=Xa (.map K.ty e)) (b:Nat) (g:Int × Int->Option Int) (h:QA K w b g) (k:Int × Int) (z:Int)
  (j:a.eval m= .map (Xa b)) (n:a.eval x=K.enc k) (l:a.eval v=I6 z)
  (i:∀w',QA K w' b (fun x=>if x=k then Xa z else g x)->w.grownBy w' (Xa b)->w'.heap.size=w.heap.size->wpList prog ops Q rest (a.put o.dst undef) w'):wpList prog ops Q (o :: rest) a w:=by refine wpList_plain c fun c d=>?_;obtain⟨w',c,p,q,r⟩:=h.put ht k z;unfold Oper.wp;simp[execOp,f,j,n,l,c,Result.andThen];exact d _ _ (i w' p q r)
theorem zmJ (em:Bool) (a:Int × Int) (w):(Instr.checkKey em 10000 174 (Xi #[I6 a.1,I6 a.2])).run prog w= .ok () w:=by
 have hf : (Tryz.prog.fieldsOf 174).toList.map (fun f => (f.name, f.type, f.offset)) = [("file", 3, 0), ("index", 3, 1)] := by kernel_rfl
 have hu:∃fs,Tryz.prog.underlying 174=Xa (.struct fs)/\Tryz.prog.fieldsOf 174=fs:=⟨_,underlying174,Kr⟩;obtain⟨fs,hu,hfe⟩:=hu;rw[hfe]at hf;obtain⟨f0,f1,hfs⟩:∃f0 f1,fs.toList=[f0,f1]:=by
  have hl:fs.toList.length=2:=by have:=congrArg Yo hf;simpa using this
  match hq:fs.toList,hl with
  | [f0,f1],_=>exact⟨f0,f1,rfl⟩
 rw[hfs]at hf;simp at hf;obtain⟨⟨n0,t0,o0⟩,⟨n1,t1,o1⟩⟩:=hf;have pI:=zc2 w;have pB:=zd9 w;have cI:∀(v:Int) (n:Nat),(Instr.checkKey em (n+1) 3 (I6 v)).run prog w= .ok () w:=fun v n=>by
  unfold Instr.checkKey;simp[run_underlying underlying3]
 have cB:∀(v:Bool) (n:Nat),(Instr.checkKey em (n+1) 4 (Xh v)).run prog w= .ok () w:=fun v n=>by
  unfold Instr.checkKey;simp[run_underlying underlying4]
 rw[show(10000:Nat)=9999+1 from rfl,Instr.checkKey];simp only[Xs,run_underlying hu,rA];rw[<-Yz,hfs];have k1:=cI a.1 9998;have k2:=cI a.2 9998;have k3:=cB Xd 9998;have q0:=pI (#[I6 a.1,I6 a.2]) 0 a.1 rfl;have q1:=pI (#[I6 a.1,I6 a.2]) 1 a.2 rfl;simp[List.forIn_cons,n0,t0,o0,n1,t1,o1,q0,q1,k1,k2]
theorem zoK (a b:Int × Int) (w):(Op.equal 174 (Xi #[I6 a.1,I6 a.2]) (Xi #[I6 b.1,I6 b.2])).run prog w= .ok (decide (a=b)) w:=by
 have hf : (Tryz.prog.fieldsOf 174).toList.map (fun f => (f.name, f.type, f.offset)) = [("file", 3, 0), ("index", 3, 1)] := by kernel_rfl
 unfold Op.equal Op.maxDepth;rw[run_equalIn_struct w 9999 174 _ _ Kr Kr];obtain⟨f0,f1,hfs⟩:∃f0 f1,(Tryz.prog.fieldsOf 174).toList=[f0,f1]:=by
  have hl:(Tryz.prog.fieldsOf 174).toList.length=2:=by have:=congrArg Yo hf;simpa using this
  match hq:(Tryz.prog.fieldsOf 174).toList,hl with
  | [f0,f1],_=>exact⟨f0,f1,rfl⟩
 rw[hfs]at hf⊢;simp at hf;obtain⟨⟨n0,t0,o0⟩,⟨n1,t1,o1⟩⟩:=hf;have pI:=zc2 w;have pB:=zd9 w;simp only[Op.eqFields,n0,t0,o0,n1,t1,o1];obtain⟨a1,a2⟩:=a;obtain⟨b1,b2⟩:=b;simp[pI,run_equalIn_int w _ _ _ _ _ _ underlying3];by_cases e1:a1=b1 <;> by_cases e2:a2=b2 <;> simp[e1,e2]
def plK:zbb where
 ty:=174
 enc:=fun a=> Xi #[Xe Xf a.1,Xe Xf a.2]
 bI:=⟨_,underlying174⟩
 check:=zmJ
 same:=zoK
 bits:=fun a=>by simp[Instr.sameBits]
theorem znL (em:Bool) (a:Int × Int) (w):(Instr.checkKey em 10000 55 (Xi #[I6 a.1,I6 a.2,Xh Xd])).run prog w= .ok () w:=by
 have hf : (Tryz.prog.fieldsOf 55).toList.map (fun f => (f.name, f.type, f.offset)) = [("Kind", 3, 0), ("N", 3, 1), ("Write", 4, 2)] := by kernel_rfl
 have hu:∃fs,Tryz.prog.underlying 55=Xa (.struct fs)/\Tryz.prog.fieldsOf 55=fs:=⟨_,underlying55,Kr⟩;obtain⟨fs,hu,hfe⟩:=hu;rw[hfe]at hf;obtain⟨f0,f1,f2,hfs⟩:∃f0 f1 f2,fs.toList=[f0,f1,f2]:=by
  have hl:fs.toList.length=3:=by have:=congrArg Yo hf;simpa using this
  match hq:fs.toList,hl with
  | [f0,f1,f2],_=>exact⟨f0,f1,f2,rfl⟩
 rw[hfs]at hf;simp at hf;obtain⟨⟨n0,t0,o0⟩,⟨n1,t1,o1⟩,⟨n2,t2,o2⟩⟩:=hf;have pI:=zc2 w;have pB:=zd9 w;have cI:∀(v:Int) (n:Nat),(Instr.checkKey em (n+1) 3 (I6 v)).run prog w= .ok () w:=fun v n=>by
  unfold Instr.checkKey;simp[run_underlying underlying3]
 have cB:∀(v:Bool) (n:Nat),(Instr.checkKey em (n+1) 4 (Xh v)).run prog w= .ok () w:=fun v n=>by
  unfold Instr.checkKey;simp[run_underlying underlying4]
 rw[show(10000:Nat)=9999+1 from rfl,Instr.checkKey];simp only[Xs,run_underlying hu,rA];rw[<-Yz,hfs];have k1:=cI a.1 9998;have k2:=cI a.2 9998;have k3:=cB Xd 9998;have q0:=pI (#[I6 a.1,I6 a.2,Xh Xd]) 0 a.1 rfl;have q1:=pI (#[I6 a.1,I6 a.2,Xh Xd]) 1 a.2 rfl;have q2:=pB (#[I6 a.1,I6 a.2,Xh Xd]) 2 Xd rfl;simp[List.forIn_cons,n0,t0,o0,n1,t1,o1,n2,t2,o2,q0,q1,q2,k1,k2,k3]
theorem zpx (a b:Int × Int) (w):(Op.equal 55 (Xi #[I6 a.1,I6 a.2,Xh Xd]) (Xi #[I6 b.1,I6 b.2,Xh Xd])).run prog w= .ok (decide (a=b)) w:=by
 have hf : (Tryz.prog.fieldsOf 55).toList.map (fun f => (f.name, f.type, f.offset)) = [("Kind", 3, 0), ("N", 3, 1), ("Write", 4, 2)] := by kernel_rfl
 unfold Op.equal Op.maxDepth;rw[run_equalIn_struct w 9999 55 _ _ Kr Kr];obtain⟨f0,f1,f2,hfs⟩:∃f0 f1 f2,(Tryz.prog.fieldsOf 55).toList=[f0,f1,f2]:=by
  have hl:(Tryz.prog.fieldsOf 55).toList.length=3:=by have:=congrArg Yo hf;simpa using this
  match hq:(Tryz.prog.fieldsOf 55).toList,hl with
  | [f0,f1,f2],_=>exact⟨f0,f1,f2,rfl⟩
 rw[hfs]at hf⊢;simp at hf;obtain⟨⟨n0,t0,o0⟩,⟨n1,t1,o1⟩,⟨n2,t2,o2⟩⟩:=hf;have pI:=zc2 w;have pB:=zd9 w;simp only[Op.eqFields,n0,t0,o0,n1,t1,o1,n2,t2,o2];obtain⟨a1,a2⟩:=a;obtain⟨b1,b2⟩:=b;simp[pI,pB,run_equalIn_bool' w _ _ _ _ underlying4,run_equalIn_int w _ _ _ _ _ _ underlying3];by_cases e1:a1=b1 <;> by_cases e2:a2=b2 <;> simp[e1,e2]
def enK:zbb where
 ty:=55
 enc:=fun a=> Xi #[Xe Xf a.1,Xe Xf a.2,Xh Xd]
 bI:=⟨_,underlying55⟩
 check:=znL
 same:=zpx
 bits:=fun a=>by simp[Instr.sameBits]
theorem Box.bT {K:zbb} (h:Box w b D) (k:QA K w B U):b≠B:=fun e=>by
 subst e;obtain⟨t,h⟩:=h;obtain⟨a,a,l,a,_⟩:=k;grind
theorem zb.bT {K:zbb} (h:zb E k w A y) (v:QA K w B U):∀x,A.ownBlock=Xa x->Xa B≠Xa x:=fun x a e=>by
 cases e;obtain⟨b,b⟩:=h.obj a;obtain⟨a,a,y,a,_⟩:=v;grind
theorem zsD (w):(zeroValue 3).run prog w= .ok (I6 0) w:=by kernel_rfl
theorem zbQ (V:MaV) (m:Ma) (w) (z:zP w V m):
  Xp prog 67 #[Xi (mL V m).toArray] w fun e w'=>∃Q,e= Xl (Xi #[V.f.x,I6 m.aB,V.s.x,V.sb.x,V.sq.x,V.db.x,V.dq.x,V.fl.x,I6 m.cnt,V.ca.x,V.sp.x,.map (Xa Q)])/\QA plK w' Q (QE m.ca)/\zc w w':=by
 obtain⟨s,t,h,j,d,f,g,⟨l,a,b⟩,i⟩:=V;dsimp only[mL];obtain⟨-,-,-,-,-,-,-,L,-⟩:=z.ns;dsimp only at L;have a4:=dD z.cas;have S:=dD L.symm;have Z:a<=9223372036854775807:=Hm z.ca.short;clear z L;have H:=@run_makeMap prog;obtain⟨x,n⟩:=kB (((w.alloc (Xk #[s.x,I6 m.aB,t.x,h.x,j.x,d.x,f.x,g.x,I6 m.cnt,O l a b,i.x] 41)).alloc (Xk #[eS,I6 0,eS,eS,eS,eS,eS,eS,I6 0,eS,eS,.map Xb] 140)).alloc (.map #[] 0));have B:Xo (zc w x):=dD<|by rw[<-n];exact((za _ _).trans (za _ _)).trans (za _ _)
 have W:Xo (Box x w.heap.size [s.x,I6 m.aB,t.x,h.x,j.x,d.x,f.x,g.x,I6 m.cnt,O l a b,i.x]):=dD<|by rw[<-n];exact((Box.aE _ _ _ rfl).alloc _).alloc _
 have ac:Xo (Box x (w.heap.size+1) [eS,I6 0,eS,eS,eS,eS,eS,eS,I6 0,eS,eS,.map Xb]):=dD<|by rw[<-n];exact(Box.aE _ _ _ Sm).alloc _
 have a5:Xo (QA plK x (w.heap.size+1+1) (QE (m.ca.take 0))):=dD<|by
  rw[<-n];have:=QA.made plK ((w.alloc (Xk #[s.x,I6 m.aB,t.x,h.x,j.x,d.x,f.x,g.x,I6 m.cnt,O l a b,i.x] 41)).alloc (Xk #[eS,I6 0,eS,eS,eS,eS,eS,eS,I6 0,eS,eS,.map Xb] 140));have aq:((w.alloc (Xk #[s.x,I6 m.aB,t.x,h.x,j.x,d.x,f.x,g.x,I6 m.cnt,O l a b,i.x] 41)).alloc (Xk #[eS,I6 0,eS,eS,eS,eS,eS,eS,I6 0,eS,eS,.map Xb] 140)).heap.size=w.heap.size+1+1:=Sm;rw[aq]at this;exact this.congr fun ar=>Rr Ym
 have E:=dD n;clear n;go_enter func67,ntmps67;go_upto_region 2 with fail;rw[E.out];clear H;have P:=W.c 9 rfl;go_wp2;clear P;go_loopg [10] a (fun an M wr=>∃k:Nat,k<=a/\a - k<=an/\M=I6 k/\Xo (zc w wr)/\Xo (Box wr w.heap.size [s.x,I6 m.aB,t.x,h.x,j.x,d.x,f.x,g.x,I6 m.cnt,O l a b,i.x])/\Xo (Box wr (w.heap.size+1) [eS,I6 0,eS,eS,eS,eS,eS,eS,I6 0,eS,eS,.map Xb])/\Xo (QA plK wr (w.heap.size+1+1) (QE (m.ca.take k))))
 exact⟨0,nZ _,Wm,rfl,B,W,ac,a5⟩;obtain⟨k,ap,ao,rfl,A,X,Y,T⟩:=hrel;by_cases r:k<a
 ·have v:=kC r
  obtain⟨p,R⟩:∃p,Xo (m.ca[k]? =Xa p):=⟨_,gE (Rx S.out r)⟩;obtain⟨ag,rfl,I⟩:=a4.out k p R.out;obtain⟨ak,al,am⟩:=I wr A.out;clear I;go_upto_region 5 with fail;obtain⟨a9,c⟩:=kB (wr.alloc (Xk #[I6 p.file,I6 p.idx,I6 p.fr] 108));have C:=gT c A;have aa:=yA c X;have ae:=yA c Y;have a6:Xo (QA plK a9 (w.heap.size+1+1) (QE (m.ca.take k))):=dD (by rw[<-c];exact T.aA (za _ _));have a2:=xA c;rw[c];clear c ak al am;obtain⟨ah,ai,aj⟩:=a2.c3;go_wp2_with (refine zmm (K:=plK) rfl 138 3 (.tmp 14) (.tmp 19) (.tmp 21) rfl underlying138 (w.heap.size+1+1) _ a6 (p.file,p.idx) p.fr rfl rfl rfl ?_)
  clear ah ai aj;intro y a1 q _;have a7:Xo (QA plK y (w.heap.size+1+1) (QE (m.ca.take (k+1)))):=dD<|a1.congr fun ar=>by rw[Zj R.out,zh4]
  have D:Xo (zc w y):=dD<|zd C q Wm;have ab:Xo (Box y w.heap.size [s.x,I6 m.aB,t.x,h.x,j.x,d.x,f.x,g.x,I6 m.cnt,O (Xa ag) a b,i.x]):=aa.grown q Wm;have af:Xo (Box y (w.heap.size+1) [eS,I6 0,eS,eS,eS,eS,eS,eS,I6 0,eS,eS,.map Xb]):=ae.grown q Wm;clear a1 q;go_wp2;go_roundg (a -(k+1));exact⟨k+1,Wm,Wm,Gn,D,ab,af,a7⟩;omega
 have v:=kD r;have:k=a:=Wm;subst this;have F:Xo (QA plK wr (w.heap.size+1+1) (QE m.ca)):=dD<|by
  have:=T.out;rw[Ya (by rw[S.out];exact nR _)]at this;exact this
 obtain⟨au,av,aw,ax,ay,az,b0,b1,b2,P,N⟩:=X.bN
 go_wp2_with (refine zp rfl 140 (.tmp 2) (.tmp 25) rfl (w.heap.size+1) rfl [s.x,I6 m.aB,t.x,h.x,j.x,d.x,f.x,g.x,I6 m.cnt,O l k b,i.x,.map (Xa (w.heap.size+1+1))] rfl Y rfl Kr (fun b3 a0=>by
  simp only[mC,nM,or_false]at a0
  rcases a0 with rfl|rfl|rfl|rfl|rfl|rfl|rfl|rfl|rfl|rfl|rfl|rfl <;> rfl) ?_)
 clear au av aw ax ay az b0 b1 b2 P N;intro U G u _;have a3:Xo (zc w U):=dD<|zd A u Wm;have a8:Xo (QA plK U (w.heap.size+1+1) (QE m.ca)):=F.kept u Sm;go_wp2;refine bodyPost_ret (z8 rfl _ rfl G underlying140 rfl Kr) rfl ⟨_,rfl,a8,a3⟩
theorem zgI (V:MaV) (m:Ma) (B k:Nat) (g:Int × Int->Option Int) (w) (b:zP w V m) (s:k<m.fs.length) (d:QA plK w B g):
  Xp prog 135 #[Xi #[V.f.x,I6 m.aB,V.s.x,V.sb.x,V.sq.x,V.db.x,V.dq.x,V.fl.x,I6 m.cnt,V.ca.x,V.sp.x,.map (Xa B)],I6 (k:Int)] w fun e w'=>e= Xl (Xh (decide (g ((zX m k).f,(zX m k).x)=Xa (k:Int))))/\zc w w':=by
 obtain⟨⟨x,r,y⟩,z,j,p,f,h,i,c,n⟩:=V;dsimp only[mL];obtain⟨t,-⟩:=b.ns;dsimp only at t;have a:k<r:=Wm;obtain⟨q,l⟩:∃q,Xo (m.fs[k]? =Xa q):=⟨_,gE s⟩;have a:zX m (k:Int)=q:=by unfold zX;rw[tN,gD,l.out];rfl
 rw[a];obtain⟨v,rfl,u⟩:=(show zaZ w x m.fs from b.bA) k q l.out;clear a b t s;obtain⟨l,b⟩:=kB (w.alloc (Xk #[O (Xa v) r y,I6 m.aB,z.x,j.x,p.x,f.x,h.x,i.x,I6 m.cnt,c.x,n.x,.map (Xa B)] 140));have a:=gA b;have t:=xA b;have h:=sA b;obtain⟨x,y,z,A,C,D,E,F,G,H,n,p,r⟩:=u l a.out;obtain⟨i,c⟩:=kB (l.alloc (Xk #[U8 q.p.b0,U8 q.p.b1,U8 q.p.b2,U8 q.p.b3,U8 q.p.b4,U8 q.p.b5,U8 q.p.b6,U8 q.p.b7,I6 q.r,Xh q.u,Xh q.d,I6 q.f,I6 q.x] 53));have f:=gT c a;have v:=yA c t;have s:=xP c h;have a:(Instr.lookup 138 (.map (Xa B)) (Xi #[I6 q.f,I6 q.x]) Xc).run prog i= .ok (Xm #[I6 ((g (q.f,q.x)).getD 0),Xh (g (q.f,q.x)).isSome]) i:=(d.aA f).look (K:=plK) underlying138 (zsD i) (q.f,q.x) Xc;have j:Xo (_=l):=b;have l:Xo (_=i):=c;clear b c u d;obtain⟨R,b⟩:=kA (decide (g (q.f,q.x)=Xa (k:Int)));rw[b.out];obtain⟨d,c⟩:=kA (g (q.f,q.x));rw[c.out]at a b;go_enter func135,ntmps135;go_upto_region 1 with fail;rw[j.out];have c:=t.c 0 rfl;go_upto_region 2 with fail;rw[l.out];rw[h.out];clear x y z A C D E F G H n p r c;have c:=v.c 11 rfl;have c:=s.c 11 rfl;have c:=s.c 12 rfl;cases d with
 | none=>
  simp only[Option.getD_none,Option.isSome_none]at a;go_wp2;go_ret;exact⟨by rw[<-b.out];rfl,f⟩
 | some z=>
  simp only[Option.getD_some,Option.isSome_some]at a;have a:Xo ((z ==(k:Int))=R):=dD (by rw[<-b.out,Ys];simp);go_wp2;go_ret;exact⟨by rw[<-a.out];rfl,f⟩
def zan (K:zbb) (w:Xn) (b:Nat) (H:Int × Int->Int):Prop:=∃g,QA K w b g/\∀k,(g k).getD 0=H k
theorem zan.aA {K:zbb} {H:Int × Int->Int} (h:zan K w b H) (k:zc w w'):zan K w' b H:=by obtain⟨g,a,c⟩:=h;exact⟨g,a.aA k,c⟩
theorem zan.congr {K:zbb} {H a:Int × Int->Int} (h:zan K w b H) (e:∀k,H k=a k):zan K w b a:=by obtain⟨g,a,c⟩:=h;exact⟨g,a,fun k=>(c k).trans (e k)⟩
theorem zan.bU {K:zbb} {H:Int × Int->Int} (k:zan K w B H) (h:Box w b D):b≠B:=by obtain⟨g,a,_⟩:=k;exact h.bT a
theorem zan.ne_own {K:zbb} {H:Int × Int->Int} (v:zan K w B H) (h:zb E k w A y):∀x,A.ownBlock=Xa x->Xa B≠Xa x:=by obtain⟨g,a,_⟩:=v;exact h.bT a
def zfj (K:zbb) (w:Xn) (b:Nat) (H:Int × Int->Int) (k:Int × Int) (st:Int):Prop:=∃g,zrb K w b g k st/\∀x,(g x).getD 0=H x
theorem zan.entry {K:zbb} {H:Int × Int->Int} (h:zan K w b H) {e:TypeId} (ht:Tryz.prog.underlying t=Xa (.map K.ty e)) (g:(zeroValue e).run prog w= .ok (I6 0) w) (k:Int × Int):
  ∃w' a,(Instr.mapEntry t (.map (Xa b)) (K.enc k)).run prog w= .ok (Xm #[I6 (H k),I6 a]) w'/\zfj K w' b H k a/\w.grownBy w' (Xa b)/\w'.heap.size=w.heap.size:=by
 obtain⟨c,f,c⟩:=h;obtain⟨w',a,d,h,i,j⟩:=f.entry ht g k;rw[c k]at d;refine⟨w',a,d,⟨_,h,fun x=>?_⟩,i,j⟩;by_cases e:x=k;·subst e;rw[kE rfl];exact c x
 rw[kF e];exact c x
theorem zfj.h {K:zbb} {H:Int × Int->Int} {k:Int × Int} {a:Int} (h:zfj K w b H k a):zan K w b H:=by obtain⟨g,a,c⟩:=h;exact⟨g,a.f,c⟩
theorem zan.look {K:zbb} {H:Int × Int->Int} (h:zan K w b H) {e:TypeId} (ht:Tryz.prog.underlying t=Xa (.map K.ty e)) (d:(zeroValue e).run prog w= .ok (I6 0) w) (k:Int × Int):
  (Instr.lookup t (.map (Xa b)) (K.enc k) Xd).run prog w= .ok (I6 (H k)) w:=by obtain⟨g,a,c⟩:=h;have:=a.look ht d k Xd;rw[c k]at this;exact this
def zr4 (H:Int × Int->Int) (k:Int × Int):Int × Int->Int:=fun x=>H x+(if x=k then 1 else 0)
theorem zbO {K:zbb} {rest:List Oper} (c:o.guard=Xb) (t m s x) (e:o.op= .entryStore t m s x) (b:Nat) (H:Int × Int->Int) (k:Int × Int) (d:Int) (h:zfj K w b H k d)
  (j:a.eval m= .map (Xa b)) (l:a.eval s=I6 d) (n:a.eval x=I6 (H k+1))
  (i:∀w',zan K w' b (zr4 H k)->w.grownBy w' (Xa b)->w'.heap.size=w.heap.size->wpList prog ops Q rest (a.put o.dst undef) w'):wpList prog ops Q (o :: rest) a w:=by
 refine wpList_plain c fun c d=>?_;obtain⟨g,f,g⟩:=h;obtain⟨w',c,h,p,q⟩:=f.store t (H k+1);unfold Oper.wp;simp[execOp,e,j,l,n,c,Result.andThen];refine d _ _ (i w' ⟨_,h,fun y=>?_⟩ p q);unfold zr4;by_cases e:y=k;·subst e;rw[kE rfl,kE rfl];rfl
 rw[kF e,kF e,g y];omega
theorem zpe (l:List Ca) (key:Int × Int):0<=zaO l key/\zaO l key<=l.length:=by grind [zaO,zG,Yc,Ca]
theorem zfu (s):(jL s).length<=64:=by unfold jL;have:=Yt (fun n=>enS (zf s n)) (Oa 64);simpa using this
theorem zqz (m:Ma) (i:Nat) (l:List Nat) (s) (key:Int × Int):0<=qK m i l s key/\qK m i l s key<=m.ca.length+64*m.sp.length+l.length:=by
 unfold qK;have a:(if key.1=1 then zG m.ca key.2 else 0)<=m.ca.length:=by
  split;·exact Yc
  omega
 have a:∀(L:List Sp),(L.map fun s=>(jL s).countP fun n=>isE (zf s n) key.1 key.2).sum<=64*L.length:=by
  intro L;induction L with
  | nil=>simp
  | cons a L b=>
   have b:=Yc (p:=fun n=>isE (zf a n) key.1 key.2) (l:=jL a);have b:=zfu a;simp only[mP,List.sum_cons,Yg];omega
 grind
def zeY:Sp:=⟨Xc,[],[]⟩
theorem zjr (V) (m:Ma) (w) (g:zP w V m) (u:m.sp.length<=4) (y:∀s∈m.sp,tbW s.tb=0):
  Xp prog 134 #[Xi (mL V m).toArray] w fun e w'=>∃B,e= Xl (.map (Xa B))/\zan enK w' B (qK m m.sp.length [] zeY)/\zc w w':=by
 obtain⟨a3,a4,t,z,p,q,r,⟨d,a,l⟩,⟨h,b,n⟩⟩:=V;dsimp only[mL];obtain⟨-,-,-,-,-,-,-,D,E⟩:=g.ns;dsimp only at D E;have F:Xo (zfZ w d m.ca):=g.cas;have b9:=dD D.symm;have c:a<=140737488355328:=by have:=g.ca.2;have c:jA.bytes=24:=rfl;rw[c]at this;omega
 obtain⟨bb,A,f,k⟩:=g.aT;have b1:=dD A;have az:Xo (∀(j:Nat) x,bb[j]? =Xa x->∃a8,h=Xa a8/\∀W,zc w W->zgY W (a8.add (j*10)) x):=f;have b0:=dD k;have a6:=dD E.symm;have c:=dD y;have C:Xo (∀j c,0<=zaO (m.ca.take j) c/\zaO (m.ca.take j) c<=140737488355328):=show∀j c,_ from fun j c=>by
  have G:=zpe (m.ca.take j) c;have i:(m.ca.take j).length<=m.ca.length:=by simp;omega
  omega
 have ay:Xo (∀i B s c,B.length<=64->0<=qK m i B s c/\qK m i B s c<=140737488360000):=dD<|fun i B s c aj=>by
  have G:=zqz m i B s c;omega
 have c:b<=4:=Wm;clear g D E A f k u y;have u:=@run_makeMap prog;obtain⟨f,c⟩:=kB ((w.alloc (Xk #[a3.x,I6 m.aB,a4.x,t.x,z.x,p.x,q.x,r.x,I6 m.cnt,O d a l,O h b n] 41)).alloc (.map #[] 0));have g:Xo (zc w f):=dD<|by rw[<-c];exact(za _ _).trans (za _ _)
 have y:Xo (Box f w.heap.size [a3.x,I6 m.aB,a4.x,t.x,z.x,p.x,q.x,r.x,I6 m.cnt,O d a l,O h b n]):=dD<|by rw[<-c];exact(Box.aE _ _ _ rfl).alloc _
 have A:Xo (zan enK f (w.heap.size+1) (zaO (m.ca.take 0))):=dD<|by
  rw[<-c];have:=QA.made enK (w.alloc (Xk #[a3.x,I6 m.aB,a4.x,t.x,z.x,p.x,q.x,r.x,I6 m.cnt,O d a l,O h b n] 41));have k:(w.alloc (Xk #[a3.x,I6 m.aB,a4.x,t.x,z.x,p.x,q.x,r.x,I6 m.cnt,O d a l,O h b n] 41)).heap.size=w.heap.size+1:=Sm;rw[k]at this;exact⟨_,this,fun G=>by rw[Ym,zne];rfl⟩
 have k:Xo (_=f):=c;clear c;go_enter func134,ntmps134;go_upto_region 2 with fail;rw[k.out];clear u;have c:=y.c 9 rfl;go_wp2;clear c;go_loopg [15] a (fun ak c wr=>∃B:Nat,B<=a/\a - B<=ak/\c=I6 B/\Xo (zc w wr)/\Xo (Box wr w.heap.size [a3.x,I6 m.aB,a4.x,t.x,z.x,p.x,q.x,r.x,I6 m.cnt,O d a l,O h b n])/\Xo (zan enK wr (w.heap.size+1) (zaO (m.ca.take B))))
 exact⟨0,nZ _,Wm,rfl,g,y,A⟩;obtain⟨B,c,c,rfl,N,ba,a0⟩:=hrel;by_cases ae:B<a
 ·have an:=kC ae
  obtain⟨c,b8⟩:∃c,Xo (m.ca[B]? =Xa c):=⟨_,gE (Rx b9.out ae)⟩;obtain⟨a8,rfl,aj⟩:=F.out B c b8.out;obtain⟨b2,b3,b4⟩:=aj wr N.out;clear aj;go_upto_region 5 with fail;obtain⟨L,d⟩:=kB (wr.alloc (Xk #[I6 c.file,I6 c.idx,I6 c.fr] 108));have P:=gT d N;have g:=yA d ba;have av:Xo (zan enK L (w.heap.size+1) (zaO (m.ca.take B))):=dD (by rw[<-d];exact a0.aA (za _ _));have f:=xA d;rw[d];clear d b2 b3 b4;obtain⟨ah,a7⟩:=kA wr.heap.size;rw[a7.out]at f⊢;obtain⟨H,a5⟩:=kA (zaO (m.ca.take B));rw[a5.out]at av;obtain⟨ab,ac⟩:0<=H (1,c.fr)/\H (1,c.fr)<=140737488355328:=by rw[<-a5.out];exact C B (1,c.fr)
  obtain⟨k,am⟩:∃k:Xn->Prop,k=fun u=>zan enK u (w.heap.size+1) H/\Box u ah [I6 c.file,I6 c.idx,I6 c.fr]/\Box u w.heap.size [a3.x,I6 m.aB,a4.x,t.x,z.x,p.x,q.x,r.x,I6 m.cnt,O (Xa a8) a l,O h b n]/\zc w u:=⟨_,rfl⟩;have E:Xo (∀u,k u↔zan enK u (w.heap.size+1) H/\Box u ah [I6 c.file,I6 c.idx,I6 c.fr]/\Box u w.heap.size [a3.x,I6 m.aB,a4.x,t.x,z.x,p.x,q.x,r.x,I6 m.cnt,O (Xa a8) a l,O h b n]/\zc w u):=dD<|fun u=>by rw[am]
  clear am;have ao:=fun y:zg k=>((E _).1 y.holds).2.1.c 2 rfl;have S:∀y:zg k,(Instr.lookup 204 (.map (Xa (w.heap.size+1))) (Xi #[I6 1,I6 c.fr,Xh Xd]) Xd).run prog y.world= .ok (I6 (H (1,c.fr))) y.world:=fun y=>((E _).1 y.holds).1.look (K:=enK) underlying204 (zsD _) (1,c.fr);have A:k L.drew:=(E _).2 ⟨av.aA (gW _),f.aA (gW _),g.aA (gW _),P.trans (gW _)⟩;have T:Nonempty (zg k):=⟨⟨_,A⟩⟩;refine qZ (I:=k) 8 [(6,⟨fun M=>∃g,M= Xm #[I6 (H (1,c.fr)),I6 g],fun M w'=>∃g,M= Xm #[I6 (H (1,c.fr)),I6 g]/\zfj enK w' (w.heap.size+1) H (1,c.fr) g,fun _ _=>True,fun _=>True⟩)] A z3 Kr rfl rfl Dc (Sa ⟨_,0,rfl⟩) ?hp ?hpre ?hpr0 ?_;case hp=>
   intro G s j ar Y a1 R _ M b7 C f b5;obtain⟨rfl,rfl⟩:=zcG Y;obtain⟨rfl,rfl⟩:=zcG a1;exact absurd rfl R
  case hpre=>
   intro j ar G s a1 Y R b7 C f af;obtain⟨rfl,rfl⟩:=zcG a1;trivial
  case hpr0=>
   intro G ar Y;obtain⟨rfl,rfl⟩:=zcG Y;trivial
  simp only[Xv,Xw];iterate 6 refine zs ?_
  refine zR rfl rfl (fun w' aa af a9=>?_) (fun bf b6=>?_);·obtain⟨F,Z,W,X⟩:=(E _).1 aa;obtain⟨au,g,U,aq,a2,be⟩:=F.entry (K:=enK) underlying204 (zsD w') (1,c.fr);have ag:(Instr.mapEntry 204 (.map (Xa (w.heap.size+1))) (Xi #[I6 1,I6 c.fr,Xh Xd])).run prog w'= .ok (Xm #[I6 (H (1,c.fr)),I6 g]) au:=U;clear ao S T;refine zN.step (v:= Xm #[I6 (H (1,c.fr)),I6 g]) (w':=au) (by simp only[execOp];go_simp) ⟨(E _).2 ⟨aq.h,Z.grown a2 (F.bU Z),W.grown a2 (F.bU W),zd X a2 Wm⟩,trivial,⟨_,rfl⟩,_,rfl,aq⟩
  obtain⟨g,rfl⟩:=b6;refine Uq ?_;refine zs ?_;refine ZD fun aw ai a9=>?_;obtain⟨F,Z,W,X⟩:=(E _).1 ai;obtain⟨D,f,al⟩:∃D,(Value.tuple #[I6 (H (1,c.fr)),I6 g])= Xm #[I6 (H (1,c.fr)),I6 D]/\zfj enK aw (w.heap.size+1) H (1,c.fr) D:=a9 6;have Q:zfj enK aw (w.heap.size+1) H (1,c.fr) g:=by
   simp at f;rw[f];exact al
  have bc:=dD W;have ax:=dD X;have aw:=dD Q;clear ao S T a9 ai F Z W X al f Q A;refine zbO (K:=enK) rfl 204 (.tmp 19) (.tmp 26) (.tmp 24) rfl (w.heap.size+1) H (1,c.fr) g aw rfl rfl Gn ?_;intro ai aw c _;have bd:Xo (Box ai w.heap.size [a3.x,I6 m.aB,a4.x,t.x,z.x,p.x,q.x,r.x,I6 m.cnt,O (Xa a8) a l,O h b n]):=bc.grown c Wm;have p:Xo (zc w ai):=dD<|zd ax c Wm;have ao:Xo (zan enK ai (w.heap.size+1) (zaO (m.ca.take (B+1)))):=dD<|aw.congr fun G=>by rw[Zj b8.out,zlv,<-a5.out];rfl
  clear aw c ab ac;go_wp2;go_roundg (a -(B+1));exact⟨B+1,Wm,Wm,Gn,p,bd,ao⟩;omega
 have an:=kD ae;have:B=a:=Wm;subst this;have h:Xo (zan enK wr (w.heap.size+1) (qK m 0 [] zeY)):=dD<|a0.congr fun G=>by
  rw[Ya (by rw[b9.out];exact nR _)];exact znf m zeY G
 have a:=ba.c 10 rfl;go_wp2;clear a;have a:Xo (zc w wr):=N;go_loopg [31] b (fun ak l wr=>∃i:Nat,i<=b/\b - i<=ak/\l=I6 i/\Xo (zc w wr)/\Xo (zan enK wr (w.heap.size+1) (qK m i [] zeY)))
 exact⟨0,nZ _,Wm,rfl,a,h⟩;obtain⟨i,a,a,rfl,N,a0⟩:=hrel;by_cases h:i<b
 ·have z:=kC h
  obtain⟨s,b8⟩:∃s,Xo (m.sp[i]? =Xa s):=⟨_,gE (Rx a6.out h)⟩;obtain⟨x,a⟩:∃x,Xo (bb[i]? =Xa x):=⟨_,gE (by rw[b1.out,a6.out];exact h)⟩;have a3:=dD<|b0.out i x s a b8.out;obtain⟨a8,rfl,aj⟩:=az.out i x a.out;obtain⟨b2,b3,b4,a,n,q,r,t,B,a4⟩:=aj wr N.out;clear aj;go_upto_region 10 with fail;refine nW fun L d=>?_;have P:=gT d N;have av:Xo (zan enK L (w.heap.size+1) (qK m i [] s)):=dD (by rw[<-d];exact(a0.aA (za _ _)).congr fun G=>by unfold qK;simp);have l:=xA d;clear d b2 b3 b4 a n q r t B a4;obtain⟨ah,a7⟩:=kA wr.heap.size;rw[a7.out]at l⊢;have a:Xp prog 90 #[Xi #[x.t0.x,x.t1.x,x.t2.x,x.t3.x,x.t4.x,x.t5.x,x.t6.x,x.t7.x]] L fun e w'=>∃M,e= Xl M/\zb blE L.heap.size w' M (jZ s.tb zcU 64)/\zc L w':=zbu x.tab s.tb L (a3.aA P).tb;obtain⟨_,_,an,aw,ax,az,b0,b1,b2,b3⟩:=l.k10;go_wp2_with fail;refine a.mono ?_;clear a an aw ax az b0 b1 b2 b3;rintro b4 a ⟨a,rfl,a,d⟩;have q:=dD (P.trans d);have r:=dD (av.aA d);have t:=dD (l.aA d);have l:=dD<|bS P.out;clear d;obtain⟨n,ae,rfl⟩:=a.form;have d:=a.at.short;rw[J5]at a d⊢;rw[Yk]at a d⊢;obtain⟨C,a8⟩:=kA ((jL s).length);rw[a8.out]at a d⊢;have d:=dD a;have l:C<=64:=by rw[<-a8.out];exact zfu s
  clear a;go_wp2;go_loopg [39] C (fun ak a wr=>∃j:Nat,j<=C/\C - j<=ak/\a=I6 j/\Xo (zc w wr)/\Xo (zb blE L.heap.size wr (O n C ae) ((jL s).map fun(n:Nat)=>(n:Int)))/\Xo (Box wr ah [Xh x.aF,x.ar.x,x.t0.x,x.t1.x,x.t2.x,x.t3.x,x.t4.x,x.t5.x,x.t6.x,x.t7.x])/\Xo (zan enK wr (w.heap.size+1) (qK m i ((jL s).take j) s)))
  exact⟨0,nZ _,Wm,rfl,q,d,t,Rx Ym r⟩;obtain⟨j,a1,a,rfl,N,ak,l,a0⟩:=hrel;by_cases d:j<C
  ·have B:=kC d
   obtain⟨n,q⟩:∃n,Xo ((jL s)[j]? =Xa n):=⟨_,gE (Rx a8.out d)⟩;have a4:=zhD q.out;have aj:=dD<|Zj q.out;obtain⟨_,_,t,a7⟩:=ak.at.aV;simp only[vJ]at t;obtain⟨r,a,P⟩:=a7 j (n:Int) (by rw[Yd,q.out];rfl);have av:=P wr (zc.refl _);rw[<-t.1]at a;subst a;clear P t a7;have q:Xp prog 69 #[Xi #[x.t0.x,x.t1.x,x.t2.x,x.t3.x,x.t4.x,x.t5.x,x.t6.x,x.t7.x],I6 (n:Int)] wr fun e w'=>e= Xl (enV (zf s n))/\zc wr w':=by
    have:=JL x.tab s.tb (n:Int) wr (a3.aA N).tb;rw[zgJ a4]at this;exact this
   obtain⟨a,t⟩:=kA (zf s n);rw[t.out]at q;obtain⟨_,_,an,aw,ax,az,b0,b1,b2,b3⟩:=l.k10;go_wp2_with fail;refine q.mono ?_;clear q av an aw ax az b0 b1 b2 b3;rintro b4 ai ⟨rfl,c⟩;have p:=dD (N.trans c);have P:=dD (ak.aA c);have a4:=dD (l.aA c);have ao:=dD (a0.aA c);clear c;unfold enV;go_upto_region 14 with fail;obtain⟨a3,c⟩:=kB (ai.alloc (Xk #[I6 a.kind,I6 a.n,Xh a.wr] 55));have q:=gT c p;have p:Xo (zb blE L.heap.size a3 (O (Xa r) C ae) ((jL s).map fun(n:Nat)=>(n:Int))):=dD (by rw[<-c];exact P.aA (za _ _));have a7:=yA c a4;have a4:Xo (zan enK a3 (w.heap.size+1) (qK m i ((jL s).take j) s)):=dD (by rw[<-c];exact ao.aA (za _ _));have P:=xA c;rw[c];clear c;obtain⟨c,l⟩:=kA ai.heap.size;rw[l.out]at P⊢;obtain⟨H,a5⟩:=kA (qK m i ((jL s).take j) s);rw[a5.out]at a4;obtain⟨ab,ac⟩:0<=H (a.kind,a.n)/\H (a.kind,a.n)<=140737488360000:=(by rw[<-a5.out];exact ay i _ s (a.kind,a.n) (by simp;omega));obtain⟨k,am⟩:∃k:Xn->Prop,k=fun u=>zan enK u (w.heap.size+1) H/\Box u c [I6 a.kind,I6 a.n,Xh a.wr]/\Box u ah [Xh x.aF,x.ar.x,x.t0.x,x.t1.x,x.t2.x,x.t3.x,x.t4.x,x.t5.x,x.t6.x,x.t7.x]/\zb blE L.heap.size u (O (Xa r) C ae) ((jL s).map fun(n:Nat)=>(n:Int))/\zc w u:=⟨_,rfl⟩;have E:Xo (∀u,k u↔zan enK u (w.heap.size+1) H/\Box u c [I6 a.kind,I6 a.n,Xh a.wr]/\Box u ah [Xh x.aF,x.ar.x,x.t0.x,x.t1.x,x.t2.x,x.t3.x,x.t4.x,x.t5.x,x.t6.x,x.t7.x]/\zb blE L.heap.size u (O (Xa r) C ae) ((jL s).map fun(n:Nat)=>(n:Int))/\zc w u):=dD<|fun u=>(by rw[am]);clear am;have l:=fun y:zg k=>((E _).1 y.holds).2.1.c 0 rfl;have n:=fun y:zg k=>((E _).1 y.holds).2.1.c 1 rfl;have S:∀y:zg k,(Instr.lookup 204 (.map (Xa (w.heap.size+1))) (Xi #[I6 a.kind,I6 a.n,Xh Xd]) Xd).run prog y.world= .ok (I6 (H (a.kind,a.n))) y.world:=fun y=>((E _).1 y.holds).1.look (K:=enK) underlying204 (zsD _) (a.kind,a.n);have A:k a3.drew:=(E _).2 ⟨a4.aA (gW _),P.aA (gW _),a7.aA (gW _),p.aA (gW _),q.trans (gW _)⟩;have T:Nonempty (zg k):=⟨⟨_,A⟩⟩;refine qZ (I:=k) 10 [(8,⟨fun M=>∃g,M= Xm #[I6 (H (a.kind,a.n)),I6 g],fun M w'=>∃g,M= Xm #[I6 (H (a.kind,a.n)),I6 g]/\zfj enK w' (w.heap.size+1) H (a.kind,a.n) g,fun _ _=>True,fun _=>True⟩)] A z3 Kr rfl rfl Dc (Sa ⟨_,0,rfl⟩) ?hp ?hpre ?hpr0 ?_;case hp=>
    intro G s j ar Y a1 R _ M b7 C f b5;obtain⟨rfl,rfl⟩:=zcG Y;obtain⟨rfl,rfl⟩:=zcG a1;exact absurd rfl R
   case hpre=>
    intro j ar G s a1 Y R b7 C f af;obtain⟨rfl,rfl⟩:=zcG a1;trivial
   case hpr0=>
    intro G ar Y;obtain⟨rfl,rfl⟩:=zcG Y;trivial
   simp only[Xv,Xw];iterate 8 refine zs ?_
   refine zR rfl rfl (fun w' aa af a9=>?_) (fun bf b6=>?_);·obtain⟨F,Z,W,X,p⟩:=(E _).1 aa;obtain⟨au,g,U,aq,a2,be⟩:=F.entry (K:=enK) underlying204 (zsD w') (a.kind,a.n);have ag:(Instr.mapEntry 204 (.map (Xa (w.heap.size+1))) (Xi #[I6 a.kind,I6 a.n,Xh Xd])).run prog w'= .ok (Xm #[I6 (H (a.kind,a.n)),I6 g]) au:=U;clear l n S T;refine zN.step (v:= Xm #[I6 (H (a.kind,a.n)),I6 g]) (w':=au) (by simp only[execOp];go_simp) ⟨(E _).2 ⟨aq.h,Z.grown a2 (F.bU Z),W.grown a2 (F.bU W),X.grown a2 (F.ne_own X),zd p a2 Wm⟩,trivial,⟨_,rfl⟩,_,rfl,aq⟩
   obtain⟨g,rfl⟩:=b6;refine Uq ?_;refine zs ?_;refine ZD fun c k a9=>?_;obtain⟨F,Z,W,X,p⟩:=(E _).1 k;obtain⟨D,f,al⟩:∃D,(Value.tuple #[I6 (H (a.kind,a.n)),I6 g])= Xm #[I6 (H (a.kind,a.n)),I6 D]/\zfj enK c (w.heap.size+1) H (a.kind,a.n) D:=a9 8;have Q:zfj enK c (w.heap.size+1) H (a.kind,a.n) g:=by
    simp at f;rw[f];exact al
   have x:=dD W;have c:=dD X;have r:=dD p;have u:=dD F;have q:=dD Q;clear l n S T a9 k F Z W X p al f Q A;refine zbO (K:=enK) rfl 204 (.tmp 47) (.tmp 56) (.tmp 54) rfl (w.heap.size+1) H (a.kind,a.n) g q rfl rfl Gn ?_;intro g k a _;have n:=dD<|x.grown a (u.bU x);have f:=dD<|c.grown a (u.ne_own c);have c:Xo (zc w g):=dD<|zd r a Wm;have l:Xo (zan enK g (w.heap.size+1) (qK m i ((jL s).take (j+1)) s)):=dD<|k.congr fun G=>(by rw[aj.out,znc,t.out,a5.out];rfl);clear k a ab ac;go_wp2;go_roundg (C -(j+1));exact⟨j+1,Wm,Wm,Gn,c,f,n,l⟩;omega
  have B:=kD d;have:j=C:=Wm;subst this;have a:Xo (zan enK wr (w.heap.size+1) (qK m (i+1) [] zeY)):=dD<|a0.congr fun G=>by
   rw[Ya (by rw[a8.out];exact nR _)];exact znd m i s zeY b8 G
  go_wp2;go_roundg (b -(i+1));exact⟨i+1,Wm,Wm,Gn,N,a⟩;omega
 have z:=kD h;have:i=b:=Wm;subst this;have a:Xo (zan enK wr (w.heap.size+1) (qK m m.sp.length [] zeY)):=dD<|Rx a6.out a0.out;go_wp2;go_ret;exact⟨_,rfl,a,N⟩
def jI (fl:List Fl) (i:Nat) (bl:List Int):List Int:=(Jg (fl.take i))++bl
theorem zbB {h:List Int} (e:∀i:Nat,i<k->L.contains (i:Int)=h.contains (i:Int)):jH k L=jH k h:=by grind [jH,List.map_congr_left,Yl.1]
theorem zlI (fl) (i:Nat) (bl) (a:z<0) (n:Nat):jH n (jI fl i (bl++ [z]))=jH n (jI fl i bl):=zbB fun j _=>by grind [jI]
theorem znD (fl) (i:Nat) (bl) (b:Nat) (n:Nat):jH n ((b:Int) :: jI fl i bl)=jH n (jI fl i (bl++ [(b:Int)])):=zbB fun j _=>by
 unfold jI;grind
theorem zlJ {f:Fl} (a:N[k]? =Xa f):jI N k f.bl=jI N (k+1) []:=by unfold jI Jg;rw[List.take_add_one,a];simp
theorem znE (fl:List Fl) (b:Int):(jI fl fl.length []).contains b=z4 fl b:=by unfold jI Jg z4;rw[List.take_length,List.append_nil,Ys];simp
theorem zsE:(Tryz.prog.info? 198).map (·.size)=Xa 80:=by kernel_rfl
theorem zhT (n:Nat) (g):∀v∈jH n g,v.oneCell'=Xc:=fun v a=>by
 unfold jH at a;obtain⟨i,_,rfl⟩:=Yh.1 a;rfl
theorem zb6 (n:Nat) (g):(jH n g).length=n:=by simp[jH]
theorem zeF (v) (fl:List Fl) (d:Int) (w) (a7:qE w v fl) (H:stW fl d=0):
  Xp prog 129 #[Xi #[v,I6 d]] w fun e w'=>e= Xl (Xi (jH 80 (jI fl fl.length [])).toArray)/\zc w w':=by
 have ay:=zcA;obtain⟨a0,a1,rfl,D,n⟩:=a7.rows;have af:=dD n;clear n a7;have ac:Xo (∀f∈fl,∀b∈f.bl,b=-1\/(0<=b/\b<80)):=show∀f∈fl,_ from fun f au b a5=>by
  obtain⟨⟨_,_,ar⟩,aq,_⟩:=(qC fl d).1 H;rcases(aq f au).2.2 b a5 with a3|a3;·exact .inl a3
  exact .inr Wm
 clear H;obtain⟨q,I⟩:=kA fl.length;rw[I.out]at D⊢;obtain⟨K,a⟩:=kB (((w.alloc (Xk #[O a0 q a1,I6 d] 37)).alloc (Xk zg7 198)).alloc (Xk zg7 198));have M:Xo (zc w K):=dD<|by rw[<-a];exact((za _ _).trans (za _ _)).trans (za _ _)
 have ah:Xo (Box K w.heap.size [O a0 q a1,I6 d]):=dD<|by rw[<-a];exact((Box.aE _ _ _ rfl).alloc _).alloc _
 have ai:Xo (Box K (w.heap.size+1) (jH 80 [])):=dD<|by rw[<-a,zeg];exact(Box.aE _ (Xr 80 (Xh Xd)) _ Sm).alloc _
 have al:Xo (Box K (w.heap.size+1+1) (jH 80 (jI fl 0 []))):=dD<|by
  have:jH 80 (jI fl 0 [])=jH 80 []:=zbB fun i _=>by simp[jI,Jg]
  rw[<-a,this,zeg];exact Box.aE _ (Xr 80 (Xh Xd)) _ Sm
 have T:=dD a;clear a;go_enter func129,ntmps129;go_upto_region 2 with fail;rw[T.out];clear ay;have az:=ah.c 0 rfl;go_wp2;clear az;go_loopg [5,11] q (fun U _ Y wr=>∃i:Nat,i<=q/\q - i<=U/\Y=I6 i/\Xo (zc w wr)/\Xo (Box wr (w.heap.size+1) (jH 80 []))/\Xo (Box wr (w.heap.size+1+1) (jH 80 (jI fl i []))))
 exact⟨0,nZ _,Wm,rfl,M,ai,al⟩;obtain⟨i,b4,aw,rfl,h,A,l⟩:=hrel;by_cases x:i<q
 ·have F:=kC x
  obtain⟨f,L⟩:∃f,Xo (fl[i]? =Xa f):=⟨_,gE (Rx I.out x)⟩;obtain⟨b2,rfl,a8,b0,z,a6⟩:=af.out i f L.out;obtain⟨ao,a2⟩:=a6 wr h.out;obtain⟨_,_,u,G⟩:=z.aV;have ax:=z.short;have Q:Xo (zjY w a8 f.bl):=dD<|by
   simp only[vJ]at u;rw[u.1];exact G
  clear u G z a6;obtain⟨r,R⟩:=kA f.bl.length;rw[R.out]at a2 ax;go_upto_region 5 with fail;refine nW fun b1 c=>?_;have N:=gT c h;have a9:=xA c;have aj:=yA c A;have am:=yA c l;clear c ao a2;have ap:=a9.c 1 rfl;go_wp2;clear ap;have ae:=dD h;go_loopg [7,18] r (fun U _ Z wr=>∃j:Nat,j<=r/\r - j<=U/\Z=I6 j/\Xo (zc w wr)/\Xo (Box wr (w.heap.size+1) (jH 80 []))/\Xo (Box wr (w.heap.size+1+1) (jH 80 (jI fl i (f.bl.take j)))))
  exact⟨0,nZ _,Wm,rfl,N,aj,Rx Ym am⟩;obtain⟨j,b5,av,rfl,h,A,l⟩:=hrel;by_cases g:j<r
  ·have y:=kC g
   obtain⟨b,s⟩:∃b,Xo (f.bl[j]? =Xa b):=⟨_,gE (Rx R.out g)⟩;obtain⟨an,rfl,E⟩:=Q.out j b s.out;have b3:=E wr h.out;have S:=dD<|ac.out f (mG L) b (mG s);have B:=dD<|Zj s.out;clear E;by_cases a5:0<=b
   ·obtain⟨p,rfl⟩:∃p:Nat,b=(p:Int):=⟨b.toNat,Wm⟩
    have m:p<80:=Hm S.out;have b6:=l.c p (zb7 _ m);have b7:=l.f;have C:Xo (Box (wr.setCell ⟨w.heap.size+1+1,p,Xb⟩ (Xh Xc)) (w.heap.size+1+1) (jH 80 (jI fl i (f.bl.take (j+1))))):=dD<|by
     rw[B.out,<-znD,<-zhS _ m];exact l.set p _
    have ak:Xo (Box (wr.setCell ⟨w.heap.size+1+1,p,Xb⟩ (Xh Xc)) (w.heap.size+1) (jH 80 [])):=dD<|A.other Sm _;have aa:Xo (zc w (wr.setCell ⟨w.heap.size+1+1,p,Xb⟩ (Xh Xc))):=dD<|zB h (by simp;omega) _;go_wp2;go_roundg (r -(j+1));exact⟨j+1,Wm,Wm,Gn,aa,ak,C⟩;omega
   have C:Xo (Box wr (w.heap.size+1+1) (jH 80 (jI fl i (f.bl.take (j+1))))):=dD<|by
    rw[B.out,zlI _ _ _ Wm];exact l.out
   go_wp2;go_roundg (r -(j+1));exact⟨j+1,Wm,Wm,Gn,h,A,C⟩;omega
  have y:=kD g;have:j=r:=Wm;subst this;have C:Xo (Box wr (w.heap.size+1+1) (jH 80 (jI fl (i+1) []))):=dD<|by
   have a4:=l.out;rw[Ya (by rw[R.out];exact nR _),zlJ L.out]at a4;exact a4
  go_wp2;go_roundg (q -(i+1));exact⟨i+1,Wm,Wm,Gn,h,A,C⟩;omega
 have F:=kD x;have:i=q:=Wm;subst this;obtain⟨X,k⟩:=kA (jH 80 (jI fl i []));have t:Xo (X.length=80):=dD<|by rw[<-k.out];exact zb6 _ _
 have P:Xo (∀v∈X,v.oneCell'=Xc):=dD<|by rw[<-k.out];exact zhT _ _
 rw[k.out]at l;go_upto_region 12 with fail;go_wp2_with (first | (refine zD rfl 198 (.tmp 3) rfl (w.heap.size+1+1) rfl l underlying198 rfl (Rx t.out zsE) ?_) | (refine zp rfl 198 (.tmp 2) (.tmp 28) rfl (w.heap.size+1) rfl X rfl A (by rw[t.out,zb6]) (Rx zb6 zsE) P.out ?_))
 intro ag V W _;have ab:Xo (zc w ag):=dD<|zd h W Wm;go_wp2;refine bodyPost_ret (z8 rfl _ rfl V underlying198 rfl (Rx t.out zsE)) rfl ⟨by rw[<-k.out],ab⟩
theorem zg5 (a b c d e f g h:Int):zdj ⟨a,b,c,d,e,f,g,h⟩ ⟨0,0,0,0,0,0,0,0⟩=([a,b,c,d,e,f,g,h] == zq):=by rw[Ys,zb1];simp[zq]
def zdc (m:Ma) (b:Nat):Bool:=!z4 m.fl (b:Int) && !(m.db.getD b [] == zq)
theorem zfT (a:b<m.db.length) (h:zdc m b=Xc):zaV m=7:=by unfold zaV;rw[kE];rw[Yp];exact⟨b,Yl.2 a,h⟩
theorem zfs {q:Int × List Int} (a:m.dq[j]? =Xa q) (h:z4 m.fl q.1=Xd):zaE m=7:=by grind [zaE,Yp,mG]
theorem ziQ {n:Nat} {a:List (Int × List Int)} (h:zO n a=0):n<=80/\∀(j:Nat) q,a[j]? =Xa q->0<=q.1/\q.1<n:=by grind [zO,ZJ,Yp.2,mG]
theorem zps (a:b<80):(jH 80 (jI m.fl m.fl.length []))[b]? =Xa (Xh (z4 m.fl (b:Int))):=by rw[zb7 _ a,znE]
theorem zpn (a:zbe m Xb m.ca=0) (k:Nat):frE m k=if(zX m k).r≠qK m m.sp.length [] zeY (1,(k:Int))\/(0<=(zX m k).f/\¬QE m.ca ((zX m k).f,(zX m k).x)=Xa (k:Int))then 7 else 0:=by unfold frE;rw[zkt m zeY (k:Int) (by decide:(1:Int)≠0),kE rfl];grind [zlx,zG,QE,zX]
theorem zmw (m:Ma) (k:Nat):zk2 m k=if m.sl.getD k 0≠qK m m.sp.length [] zeY (2,(k:Int))then 7 else 0:=by unfold zk2;have h:=zkt m zeY (k:Int) (by decide:(2:Int)≠0);grind
def chk:List Nat:=[98,99,100,101,102,103]
def zqV (m:Ma):List Int:=[zF (J3 m),zF (zay m),Js m,zfp m,zhi m,zbq m]
theorem zhh (h:Js m=0):m.sp.length<=4:=by
 unfold Js at h;split at h;·cases h
 omega
theorem zl0 (k f:Nat) (a:chk[k]? =Xa f):∀b w,(callFunc f b).run prog w= .ok (.enter f b) w:=by
 match k,a with
 | 0,a=>cases a;exact enters_of func98 Kr rfl
 | 1,a=>cases a;exact enters_of func99 Kr rfl
 | 2,a=>cases a;exact enters_of func100 Kr rfl
 | 3,a=>cases a;exact enters_of func101 Kr rfl
 | 4,a=>cases a;exact enters_of func102 Kr rfl
 | 5,a=>cases a;exact enters_of func103 Kr rfl
 | k+6,a=>simp[chk]at a
def fnV (f:Nat):Xq:= .func (.func f) #[] #[]
theorem zbv {g:Nat} (h:w.ownsRow b t k A p xs) (c:A.ownBlock=Xa g):b<=g/\g<w.heap.size/\∃cs,w.heap[g]? =Xa (Xk cs t (0,0)):=by
 rcases h.2 with⟨rfl,_⟩|⟨v,k,k,rfl,k,k,k⟩;·cases c
 simp only[Value.ownBlock,Option.some.injEq]at c;grind
theorem zc3 {D:Nat->Prop} (h:w.ownsRow b t k A p xs) (v:qH D w W) (i:∀g,A.ownBlock=Xa g->¬D g):W.ownsRow b t k A p xs:=by
 refine⟨h.1,?_⟩;rcases h.2 with k|⟨g,k,c,rfl,f,d,h⟩;·grind
 exact .inr ⟨g,k,c,rfl,f,by rw[v.block g (aS.1 d).1 (i g rfl)];exact d,h⟩
theorem zhF {D:Nat->Prop} (h:w.ownsRow b t k A p xs) (v:qH D w W) (i:∀g,A.ownBlock=Xa g->¬D g):W.ownsRow b t k A p xs:=by
 refine⟨h.1,?_⟩;rcases h.2 with k|⟨g,k,c,rfl,f,d,h⟩;·grind
 exact .inr ⟨g,k,c,rfl,f,by rw[v.block g (aS.1 d).1 (i g rfl)];exact d,h⟩
def oB (s:Sli) (b:Nat):Prop:=(O s.a s.n s.c).ownBlock=Xa b
def Dw (p:Nat) (V:MaV):Nat->Prop:=fun b=>b=p\/oB V.f b\/oB V.ca b\/oB V.sp b
def Dr (B p:Nat) (V:MaV):Nat->Prop:=fun b=>b<B\/Dw p V b
structure zoj (w:Xn) (V:MaV) (m:Ma):Prop where
 sl:zr slE w (O V.s.a V.s.n V.s.c) m.sl
 sb:Zz w (O V.sb.a V.sb.n V.sb.c) m.sb
 sq:Zu w (O V.sq.a V.sq.n V.sq.c) m.sq
 db:Zz w (O V.db.a V.db.n V.db.c) m.db
 dq:Zu w (O V.dq.a V.dq.n V.dq.c) m.dq
 fl:qE w (O V.fl.a V.fl.n V.fl.c) m.fl
structure ChW (w0:Xn) (p:Nat) (w:Xn) (V:MaV) (m:Ma):Prop where
 gr:zc w0 w
 lo:w0.heap.size<=p
 box:zt w p 102 (chL V m)
 fs:zb qR w0.heap.size w (O V.f.a V.f.n V.f.c) m.fs
 ca:zb jA w0.heap.size w (O V.ca.a V.ca.n V.ca.c) m.ca
 sp:∃xs:List SpV,zb Qm w0.heap.size w (O V.sp.a V.sp.n V.sp.c) xs/\xs.length=m.sp.length/\∀(i:Nat) x s,xs[i]? =Xa x->m.sp[i]? =Xa s->∀W,qH (Dr w0.heap.size p V) w W->jN W x s
 rest:∀W,qH (Dr w0.heap.size p V) w W->zoj W V m
def Chg (w0:Xn) (p:Nat) (w:Xn) (V:MaV) (m':Ma) (w':Xn):Prop:=∃V':MaV,ChW w0 p w' V' m'/\qH (Dw p V) w w'/\∀k,Dw p V' k->Dw p V k\/w.heap.size<=k
section
variable{w0 w w1 w2:Xn} {p:Nat} {V V':MaV} {m m':Ma}
theorem ChW.bK (h:ChW w0 p w V m):∀k,Dw p V k->k<w.heap.size:=by
 rintro k (rfl|a|a|a);·exact h.box.box.lt
 ·exact(h.fs.lt k a).2
 ·exact(h.ca.lt k a).2
 obtain⟨b,b,_⟩:=h.sp;exact(b.lt k a).2
theorem ChW.dlo (h:ChW w0 p w V m):∀k,Dw p V k->w0.heap.size<=k:=by
 rintro k (rfl|a|a|a);·exact h.lo
 ·exact(h.fs.lt k a).1
 ·exact(h.ca.lt k a).1
 obtain⟨b,b,_⟩:=h.sp;exact(b.lt k a).1
theorem ChW.drt (h:ChW w0 p w V m):∀k,Dr w0.heap.size p V k->k<w.heap.size:=by
 rintro k (a|a);·exact Yb a (bS h.gr)
 exact h.bK k a
theorem ChW.aA (h:ChW w0 p w V m) (k:zc w w1):ChW w0 p w1 V m:=by obtain⟨c,a,b,d⟩:=h.sp;exact⟨h.gr.trans k,h.lo,h.box.aA k,h.fs.aA k,h.ca.aA k,⟨c,a.aA k,b,fun i x s c b W a=>d i x s c b W ((qH.aA k).trans a)⟩,fun W a=>h.rest W ((qH.aA k).trans a)⟩
theorem ChW.at (h:ChW w0 p w V m):zP w V m:=by have r:=h.rest w (qH.refl _ _);obtain⟨d,a,b,c⟩:=h.sp;exact⟨h.fs.at,r.sl,r.sb,r.sq,r.db,r.dq,r.fl,h.ca.at,⟨d,a.at,b,fun i x s b a=>c i x s b a w (qH.refl _ _)⟩⟩
theorem ChW.nf (h:ChW w0 p w V m):∀g,oB V.f g->p≠g:=h.fs.ne h.box Dc
theorem ChW.nc (h:ChW w0 p w V m):∀g,oB V.ca g->p≠g:=h.ca.ne h.box Dc
theorem ChW.ns (h:ChW w0 p w V m):∀g,oB V.sp g->p≠g:=by obtain⟨a,a,_⟩:=h.sp;exact a.ne h.box Dc
theorem ChW.fc (h:ChW w0 p w V m):∀g,oB V.f g->¬oB V.ca g:=h.fs.apart h.ca Dc
theorem ChW.fS (h:ChW w0 p w V m):∀g,oB V.f g->¬oB V.sp g:=by obtain⟨a,a,_⟩:=h.sp;exact h.fs.apart a Dc
theorem ChW.cS (h:ChW w0 p w V m):∀g,oB V.ca g->¬oB V.sp g:=by obtain⟨a,a,_⟩:=h.sp;exact h.ca.apart a Dc
theorem ChW.key (k:qH (Dw p V) w w1) (hd:∀k,Dw p V' k->Dw p V k\/w.heap.size<=k) (a:qH (Dr w0.heap.size p V') w1 W):qH (Dr w0.heap.size p V) w W:=
 ⟨a.os.trans k.os,a.tape.trans k.tape,a.output.trans k.output,nT k.size a.size,fun b d c=>(a.block b (Yb d k.size) (fun e=>by
  rcases e with e|e;·exact c (.inl e)
  rcases hd b e with e|e;·exact c (.inr e)
  omega)).trans (k.block b d (fun e=>c (.inr e)))⟩
theorem ChW.bV (h:ChW w0 p w V m) (k:qH (Dw p V) w w1):zc w0 w1:=
 ⟨k.os.trans (Below.os h.gr),k.tape.trans (Below.tape h.gr),k.output.trans (Below.output h.gr),nT (bS h.gr) k.size,fun b a=>(k.block b (Yb a (bS h.gr)) (fun e=>Hm (h.dlo b e))).trans (Below.block h.gr b a)⟩
theorem Chg.refl (h:ChW w0 p w V m) (g:zc w w1):Chg w0 p w V m w1:=⟨V,h.aA g,qH.aA g,fun _ a=> .inl a⟩
theorem Chg.aH (g:zc w w1) (h:Chg w0 p w1 V m' w2):Chg w0 p w V m' w2:=by
 obtain⟨a,b,d,c⟩:=h;refine⟨a,b,(qH.aA g).trans d,fun k a=>?_⟩;rcases c k a with e|e;·grind
 exact .inr (nT (bS g) e)
theorem Chg.step {b:MaV} (a:qH (Dw p V) w w1) (c:∀k,Dw p b k->Dw p V k\/w.heap.size<=k) (e:Chg w0 p w1 b m' w2):Chg w0 p w V m' w2:=by
 obtain⟨c,d,b,f⟩:=e;refine⟨c,d,⟨b.os.trans a.os,b.tape.trans a.tape,b.output.trans a.output,nT a.size b.size,fun c d g=>(b.block c (Yb d a.size) (fun e=>?_)).trans (a.block c d g)⟩,fun k b=>?_⟩;·grind
 rcases f k b with e|e;·grind
 exact .inr (nT a.size e)
theorem Chg.far {a:MaV} (g:zc w w1) (d:∀k,Dw p a k->Dw p V k\/w1.heap.size<=k):∀k,Dw p a k->Dw p V k\/w.heap.size<=k:=fun k a=>(d k a).elim .inl fun e=> .inr (nT (bS g) e)
theorem zt.chg (h:zt w b t D) (k:qH (Dw p V) w w1) (a:¬Dw p V b):zt w1 b t D:=h.aU k a
theorem ChW.field (h:ChW w0 p w V m) (k:zc w w1) (c:w1.grownBy w2 (Xa p)) (f:V'.f=V.f) (n:V'.ca=V.ca) (q:V'.sp=V.sp) (g:m'.fs=m.fs) (u:m'.ca=m.ca) (r:m'.sp=m.sp) (a:zt w2 p 102 (chL V' m')) (rs:∀W,qH (Dr w0.heap.size p V) w W->qH (Dr w0.heap.size p V) w1 W->zoj W V m->zoj W V' m'):Chg w0 p w V m' w2:=by
 have j:qH (Dw p V) w w2:=(qH.aA k).trans (qH.grown c (.inl rfl));have e:Dw p V'=Dw p V:=by unfold Dw;rw[f,n,q]
 have d:Dr w0.heap.size p V'=Dr w0.heap.size p V:=by unfold Dr;rw[e]
 obtain⟨i,x,b,y⟩:=h.sp;refine⟨V',⟨h.bV j,h.lo,a,?_,?_,⟨i,?_,Rx r b,fun t z v s i W b=>?_⟩,fun W b=>?_⟩,j,fun l a=> .inl (by rw[e]at a;exact a)⟩;·rw[f,g];exact(h.fs.aA k).grown c (fun g f e=>h.nf g f (by cases e;rfl))
 ·rw[n,u];exact(h.ca.aA k).grown c (fun g f e=>h.nc g f (by cases e;rfl))
 ·rw[q];exact(x.aA k).grown c (fun g f e=>h.ns g f (by cases e;rfl))
 ·rw[d]at b;rw[r]at i;exact y t z v s i W ((j.wide fun l a=> .inr a).trans b)
 rw[d]at b;exact rs W ((j.wide fun l a=> .inr a).trans b) (((qH.grown c (.inr (.inl rfl)))).trans b) (h.rest W ((j.wide fun l a=> .inr a).trans b))
theorem ChW.cE (h:ChW w0 p w V m) {b:Sli} (d:zc w w1) (f:jD slE w.heap.size w1 (b.x) L) (e:w1.grownBy w2 (Xa p)) (c:zt w2 p 102 (chL { V with s:=b } { m with sl:=L })):Chg w0 p w V { m with sl:=L } w2:=
 h.field (V':={ V with s:=b }) (m':={ m with sl:=L }) d e rfl rfl rfl rfl rfl rfl c (fun W _ L r=>⟨f.aY h.drt W L,r.sb,r.sq,r.db,r.dq,r.fl⟩)
theorem ChW.bM (h:ChW w0 p w V m) {b:Sli} {fs:List Fr} (i:zc w w1) (j:zb qR w.heap.size w1 (b.x) fs) (c:w1.grownBy w2 (Xa p)) (a:zt w2 p 102 (chL { V with f:=b } { m with fs:=fs,aB:=hd })):Chg w0 p w V { m with fs:=fs,aB:=hd } w2:=by
 have d:qH (Dw p V) w w2:=(qH.aA i).trans (qH.grown c (.inl rfl));have e:=h.bK p (.inl rfl);have hd:∀k,Dw p { V with f:=b } k->Dw p V k\/w.heap.size<=k:=by
  rintro k (e|e|e|e);·exact .inl (.inl e)
  ·exact .inr (j.lt k e).1
  ·exact .inl (.inr (.inr (.inl e)))
  exact .inl (.inr (.inr (.inr e)))
 obtain⟨q,k,l,n⟩:=h.sp;refine⟨{ V with f:=b },⟨h.bV d,h.lo,a,(j.base (bS h.gr)).grown c (fun g a e=>?_),(h.ca.aA i).grown c (fun g a e=>h.nc g a (by cases e;rfl)),⟨q,(k.aA i).grown c (fun g a e=>h.ns g a (by cases e;rfl)),l,fun k x s i g W c=>n k x s i g W (ChW.key d hd c)⟩,fun W c=>?_⟩,d,hd⟩;·cases e;have:=(j.lt _ a).1;omega
 have r:=h.rest W (ChW.key d hd c);exact⟨r.sl,r.sb,r.sq,r.db,r.dq,r.fl⟩
theorem ChW.frame (h:ChW w0 p w V m) {fs:List Fr} (c:oB V.f k) (b:w.grownBy w1 (Xa k)) (q:zb qR w0.heap.size w1 (V.f.x) fs):Chg w0 p w V { m with fs:=fs } w1:=by have d:qH (Dw p V) w w1:=qH.grown b (.inr (.inl c));have i:∀g,Dw p V g->Dw p V g\/w.heap.size<=g:=fun _ a=> .inl a;obtain⟨y,t,u,v⟩:=h.sp;refine⟨V,⟨h.bV d,h.lo,h.box.beside b (fun g e=>by cases e;exact h.nf k c),q,h.ca.grown b (fun g a e=>by cases e;exact h.fc _ c a),⟨y,t.grown b (fun g a e=>by cases e;exact h.fS _ c a),u,fun n x s l j W f=>v n x s l j W (ChW.key d i f)⟩,fun W f=>?_⟩,d,i⟩;have r:=h.rest W (ChW.key d i f);exact⟨r.sl,r.sb,r.sq,r.db,r.dq,r.fl⟩
theorem ChW.cache (h:ChW w0 p w V m) {b:Sli} {l:List Ca} (j:qH (oB V.ca) w w1) (i:∀g,oB b g->oB V.ca g\/w.heap.size<=g) (r:zb jA w0.heap.size w1 (b.x) l) (c:w1.grownBy w2 (Xa p)) (n:zt w2 p 102 (chL { V with ca:=b } { m with ca:=l })):Chg w0 p w V { m with ca:=l } w2:=by
 have a:qH (Dw p V) w w2:=(j.wide fun k d=> .inr (.inr (.inl d))).trans (qH.grown c (.inl rfl));have d:∀k,Dw p { V with ca:=b } k->Dw p V k\/w.heap.size<=k:=by
  rintro k (e|e|e|e);·exact .inl (.inl e)
  ·exact .inl (.inr (.inl e))
  ·rcases i k e with e|e
   ·exact .inl (.inr (.inr (.inl e)))
   grind
  exact .inl (.inr (.inr (.inr e)))
 have f:=h.bK p (.inl rfl);have own:∀{f:Type} {E:Elt f} {s:Sli} {l:List f},zb E w0.heap.size w (s.x) l->(∀g,oB s g->¬oB V.ca g)->(∀g,oB s g->p≠g)->zb E w0.heap.size w2 (s.x) l:=fun f k q=>by refine zb.grown ⟨zhF f.1 j k,f.2⟩ c (fun g f e=>q g f (by cases e;rfl))
 obtain⟨t,j,k,q⟩:=h.sp;refine⟨{ V with ca:=b },⟨h.bV a,h.lo,n,own h.fs h.fc h.nf,r.grown c (fun g f e=>?_),⟨t,own j (fun g c b=>h.cS g b c) h.ns,k,fun n x s k j W c=>q n x s k j W (ChW.key a d c)⟩,fun W c=>?_⟩,a,d⟩
 ·cases e
  rcases i _ f with e|e;·exact h.nc _ e rfl
  omega
 have r:=h.rest W (ChW.key a d c);exact⟨r.sl,r.sb,r.sq,r.db,r.dq,r.fl⟩
theorem ChW.bQ (h:ChW w0 p w V m) {xs:List SpV} {x y:SpV} (s2:xs.length=m.sp.length) (s3:∀(i:Nat) x s,xs[i]? =Xa x->m.sp[i]? =Xa s->∀W,qH (Dr w0.heap.size p V) w W->jN W x s) (n:xs[k]? =Xa x) (l:m.sp[k]? =Xa s) (t:oB V.sp b)
  (d:zc w w1) (z:Jr 0 w.heap.size w1 us G) (a:w1.grownBy w2 (Xa b)) (v:zb Qm w0.heap.size w2 (V.sp.x) (xs.set k y)) (r:y.aF=x.aF/\y.ar=x.ar/\y.tab=us):Chg w0 p w V { m with sp:=m.sp.set k { s with tb:=G } } w2:=by
 have u:qH (Dr w0.heap.size p V) w1 w2:=qH.grown a (.inr (.inr (.inr (.inr t))));have f:qH (Dw p V) w w2:=(qH.aA d).trans (qH.grown a (.inr (.inr (.inr t))));have j:∀q,Dw p V q->Dw p V q\/w.heap.size<=q:=fun _ c=> .inl c;refine⟨V,⟨h.bV f,h.lo,(h.box.aA d).beside a (fun q e=>by cases e;exact h.ns b t),(h.fs.aA d).grown a (fun q c e=>by cases e;exact h.fS _ c t),(h.ca.aA d).grown a (fun q c e=>by cases e;exact h.cS _ c t),⟨xs.set k y,v,by simp[s2],fun i a d t a W c=>?_⟩,fun W c=>?_⟩,f,j⟩
 ·by_cases e:i=k
  ·subst e;rw[sF (gS.1 n).1]at t;have a:(m.sp.set i { s with tb:=G })[i]? =Xa d:=a;rw[sF (gS.1 l).1]at a;cases t;cases a;have q:=s3 i x s n l W (ChW.key f j c);obtain⟨t,a,d⟩:=r;refine⟨t.trans q.aF,Rx a q.ar,Rx a q.cap,?_⟩;rw[d];exact z.aU h.drt (u.trans c)
  grind [sN,ChW.key]
 have r:=h.rest W (ChW.key f j c);exact⟨r.sl,r.sb,r.sq,r.db,r.dq,r.fl⟩
end
section
variable{α:Type} {E:Elt α}
theorem zdh {l0:List α} (u:TypeId) (p:zb E k w A l0) (F:Xq) (l:List α) (V:zr E w F l) (n:(l0.length+l.length)*E.bytes<=140737488355328) (b:k<=w.heap.size):
  ∃e w',(Builtin.append_ #[E.st,E.st] u #[A,F]).run prog w= .ok e w'/\zb E k w' e (l0++l)/\w.grownBy w' A.ownBlock/\∀g,e.ownBlock=Xa g->A.ownBlock=Xa g\/w.heap.size<=g:=by
 obtain⟨C,y,s,base,t⟩:=info_parts E.aD;obtain⟨⟨G,x,rfl,i,a⟩,L⟩:=V;have K:(l0.length+l.length)*1<=(l0.length+l.length)*E.bytes:=Nat.mul_le_mul_left _ (nT E.pos E.few);cases G with
 | none=>
  have B:=i rfl;subst B;exact⟨A,w,QX u p x,Si p,World.grownBy.rfl' _ _,fun g h=> .inl h⟩
 | some m=>
  rcases p.1.2 with⟨rfl,v⟩|⟨g,f,H,rfl,R,S,U,M,N,Q⟩
  ·have z:l0=[]:=eN v;subst z;obtain⟨e,w',r,q,d,_⟩:=run_append_own (P:=prog) w w.heap.size E.st u E.ty C _ E.k E.bytes E.bI y s base t (ziO E) E.pos _ 0 [] (World.ownsRow_nil _ _ _ _) m l.length x (l.flatMap E.enc) (qD E l) (a m rfl) (qQ E.one l) (q9 (by simp at K n⊢;omega)) (Si n) (nR _);have c:zb E w.heap.size w' e ([]++l):=⟨Si q,Si n⟩;exact⟨e,w',r,c.base b,d,fun g h=> .inr (c.lt g h).1⟩
  by_cases j:l0.length+l.length<=f;·obtain⟨w',r,q,d⟩:=run_append_fits (P:=prog) w k E.st u E.ty C E.k E.bI y base g l0.length f _ p.1 m l.length x (l.flatMap E.enc) (qD E l) (a m rfl) (qQ E.one l) j;exact⟨_,w',r,⟨by rw[lA,Xz];exact q,Rx lA n⟩,d,fun D h=> .inl h⟩
  obtain⟨e,w',r,q,d⟩:=run_append_arg_grows (P:=prog) w E.st u E.ty C _ E.k E.bytes E.bI y s base t (ziO E) E.pos ⟨g,0,Xb⟩ l0.length f (l0.flatMap E.enc) (qD E l0) (p.1.cells rfl) m l.length x (l.flatMap E.enc) (qD E l) (a m rfl) Wm (q9 Wm) n;have c:zb E w.heap.size w' e (l0++l):=⟨by rw[lA,Xz];exact q,Rx lA n⟩;exact⟨e,w',r,c.base b,⟨d.os,d.tape,d.output,d.size,fun W T _=>d.block W T Sm⟩,fun D h=> .inr (c.lt D h).1⟩
theorem QT (f:o.guard=Xb) (s x:Operand) (q:o.op= .call { callee:= .builtin .append,args:=#[s,x],argTypes:=#[E.st,E.st] })
  (base:Nat) (vs:Xq) (l0:List α) (r:a.eval s=vs) (c:zb E base w vs l0) (h:Xq) (l:List α) (u:a.eval x=h) (t:zr E w h l) (p:(l0.length+l.length)*E.bytes<=140737488355328) (b:base<=w.heap.size)
  (i:∀e w',zb E base w' e (l0++l)->w.grownBy w' vs.ownBlock->(∀g,e.ownBlock=Xa g->vs.ownBlock=Xa g\/w.heap.size<=g)->wpList prog ops Q K (a.put o.dst e) w'):wpList prog ops Q (o :: K) a w:=by refine wpList_plain f fun rest n=>?_;obtain⟨e,w',d,j,k,m⟩:=zdh o.type c h l t p b;unfold Oper.wp execOp;simp only[q,resolve,invoke,builtin,Xs,Xy,rA,Yi,mP,Yf,r,u,d];exact n _ _ (i e w' j k m)
end
theorem ze3 (V m) (a:Ar) (n:Nat) (e:En) (w) (a9:zP w V m) (ar:jU a) (av:n<=64) (bg:0<=e.n) (b:zfo m a n e=0):
  Xp prog 133 #[Xi (mL V m).toArray,Xi #[I6 a.fr,I6 a.tz,Xh a.rd,Xh a.wr,Xh a.sh,I6 a.file,I6 a.base],I6 (n:Int),Xi #[I6 e.kind,I6 e.n,Xh e.wr]] w fun e' w'=>e'= Xl (I6 0)/\zc w w':=by
 obtain⟨aa,ab,-⟩:=a9.ns;have u:(0<=a.base/\a.base<=100)/\(0<=a.fr/\a.fr<=100):=by
  obtain⟨bp,bq,br,bs,bt,bu,be,bf⟩:=ar;by_cases bh:a.file<0;·have:=be bh;omega
  have:=bf Wm;omega
 have y:Xo (∀(q:Fr) W,Xp prog 159 #[Xi (frv q).toArray,Xi #[I6 a.fr,I6 a.tz,Xh a.rd,Xh a.wr,Xh a.sh,I6 a.file,I6 a.base],I6 (n:Int)] W fun e w'=>e= Xl (Xh (Jp q a n))/\zc W w'):=dD<|fun q W=>zjm q a n W u.1 u.2 av;have z:Xo (∀(q:Fr) W,Xp prog 160 #[Xi (frv q).toArray,Xi #[I6 a.fr,I6 a.tz,Xh a.rd,Xh a.wr,Xh a.sh,I6 a.file,I6 a.base]] W fun e w'=>e= Xl (Xh (Qo q a))/\zc W w'):=dD<|fun q W=>zhR q a W;have bl:=dD ab.symm;have ay:=dD aa.symm;have P:=dD a9.bA;have al:Xo (zfo m a n e=if e.kind=2 then(if(V.s.n:Int)<=e.n\/a.sh=Xc then 7 else 0)else if(V.f.n:Int)<=e.n then 3 else if Jp (zX m e.n) a n=Xd\/(e.wr=Xc/\Qo (zX m e.n) a=Xd)then 7 else 0):=show _=_ by
  unfold zfo;rw[aa,ab]
 rw[al.out]at b;clear a9 ar u aa ab av;have D:zc w (((w.alloc (Xk (mL V m).toArray 41)).alloc (Xk #[I6 a.fr,I6 a.tz,Xh a.rd,Xh a.wr,Xh a.sh,I6 a.file,I6 a.base] 77)).alloc (Xk #[I6 e.kind,I6 e.n,Xh e.wr] 55)):=((za _ _).trans (za _ _)).trans (za _ _);have c:=dD D;clear D;by_cases v:e.kind=2
 ·have F:(e.kind == 2)=Xc:=by simp[v]
  rw[kE v]at b;clear v;have a6:¬(V.s.n:Int)<=e.n:=fun a5=>by rw[kE (.inl a5)]at b;exact absurd b Dc
  have aw:a.sh=Xd:=by
   cases C:a.sh;·rfl
   rw[kE (.inr C)]at b;exact absurd b Dc
  rw[aw]at c y z;rw[aw];clear b;go_enter func133,ntmps133;go_wp2;go_ret;exact⟨rfl,c⟩
 have F:(e.kind == 2)=Xd:=by simp[v]
 rw[kF v]at b;clear v;have a6:¬(V.f.n:Int)<=e.n:=fun a5=>by rw[kE a5]at b;exact absurd b Dc
 rw[kF a6]at b;obtain⟨ap,aq,L⟩:=e;simp only at bg F a6 b al c⊢;obtain⟨l,rfl⟩:∃l:Nat,aq=(l:Int):=⟨aq.toNat,Wm⟩;have a8:l<V.f.n:=Wm;obtain⟨q,ak⟩:∃q,Xo (m.fs[l]? =Xa q):=⟨_,gE (Rx ay.out a8)⟩;have E:zX m (l:Int)=q:=by unfold zX;rw[tN,gD,ak.out];rfl
 rw[E]at b;clear E;obtain⟨ao,K,au⟩:=P.out l q ak.out;(try simp only[mL,Sli.x]at c P⊢);rw[K]at c P⊢;clear K;obtain⟨p,d⟩:=kB (((w.alloc (Xk #[O (Xa ao) V.f.n V.f.c,I6 m.aB,V.s.x,V.sb.x,V.sq.x,V.db.x,V.dq.x,V.fl.x,I6 m.cnt,V.ca.x,V.sp.x] 41)).alloc (Xk #[I6 a.fr,I6 a.tz,Xh a.rd,Xh a.wr,Xh a.sh,I6 a.file,I6 a.base] 77)).alloc (Xk #[I6 ap,I6 (l:Int),Xh L] 55));rw[d]at c;have b0:Xo (Box p (w.heap.size+1) [I6 a.fr,I6 a.tz,Xh a.rd,Xh a.wr,Xh a.sh,I6 a.file,I6 a.base]):=dD<|by rw[<-d];exact(Box.aE _ _ _ Sm).alloc _
 have an:Xo (Box p (w.heap.size+1+1) [I6 ap,I6 (l:Int),Xh L]):=dD<|by rw[<-d];exact Box.aE _ _ _ Sm
 have az:Xo (Box p w.heap.size [O (Xa ao) V.f.n V.f.c,I6 m.aB,V.s.x,V.sb.x,V.sq.x,V.db.x,V.dq.x,V.fl.x,I6 m.cnt,V.ca.x,V.sp.x]):=dD<|by rw[<-d];exact((Box.aE _ _ _ rfl).alloc _).alloc _
 have bi:=az.c 0 rfl;have bj:=an.c 1 rfl;have B:Xo (p.heap.size=w.heap.size+1+1+1):=dD<|by rw[<-d];simp
 obtain⟨b3,b4,b5,b6,b7,b8,b9,ba,bb,bc,R,S,T⟩:=au p c.out;have Q:Xo (_=p):=d;clear d au;have G:Jp q a n=Xc:=by
  cases C:Jp q a n;·rw[kE (.inl C)]at b;exact absurd b Dc
  rfl
 have A:Xo (L=Xc->Qo q a=Xc):=dD<|fun bd=>by
  cases C:Qo q a;·rw[kE (.inr ⟨bd,C⟩)]at b;exact absurd b Dc
  rfl
 clear b;have j:=y.out q;rw[G]at j;have ax:=dD j;clear j;clear G;go_enter func133,ntmps133;go_upto_region 7 with fail;rw[Q.out];go_upto_region 8 with fail;refine nW fun bm h=>?_;have N:=gT h c;have am:=yA h b0;have b2:=yA h an;have f:=xP h B;rw[B.out];clear h bi bj b3 b4 b5 b6 b7 b8 b9 ba bb bc R S T;obtain⟨ac,ae,af,ag,ah,ai,aj⟩:=am.c7;have U:=f.c 0 rfl;have X:=f.c 1 rfl;have Y:=f.c 2 rfl;have Z:=f.c 3 rfl;have I:=f.c 4 rfl;have a0:=f.c 5 rfl;have a1:=f.c 6 rfl;have a2:=f.c 7 rfl;have a3:=f.c 8 rfl;have a4:=f.c 9 rfl;have r:=f.c 10 rfl;have s:=f.c 11 rfl;have t:=f.c 12 rfl;go_wp2_with fail;refine(ax _).mono ?_;clear ac ae af ag ah ai aj U X Y Z I a0 a1 a2 a3 a4 r s t;rintro e bn ⟨rfl,i⟩;have x:=dD (N.trans i);have b1:=am.aA i;have bk:=(b2.aA i).c 2 rfl;have g:=f.aA i;clear i;cases L with
 | false=>
  go_wp2;go_ret;exact⟨rfl,x⟩
 | true=>
 have H:=A.out rfl;have k:=z.out q;rw[H]at k;have M:=dD k;clear k;clear H;obtain⟨ac,ae,af,ag,ah,ai,aj⟩:=b1.c7;have U:=g.c 0 rfl;have X:=g.c 1 rfl;have Y:=g.c 2 rfl;have Z:=g.c 3 rfl;have I:=g.c 4 rfl;have a0:=g.c 5 rfl;have a1:=g.c 6 rfl;have a2:=g.c 7 rfl;have a3:=g.c 8 rfl;have a4:=g.c 9 rfl;have r:=g.c 10 rfl;have s:=g.c 11 rfl;have t:=g.c 12 rfl;go_wp2_with (go_at_call 160;refine(M _).mono ?_;clear ac ae af ag ah ai aj U X Y Z I a0 a1 a2 a3 a4 r s t bk;rintro e bo ⟨rfl,a7⟩)
 go_ret;exact⟨rfl,x.trans a7⟩
theorem ze2 (V m w) (ah:zP w V m) (cr:zkO m) (cs:zoi m) (cq:zhi m=0):
  Xp prog 102 #[Xi (mL V m).toArray] w fun e w'=>e= Xl (I6 0)/\zc w w':=by
 have a7:=dD<|fun (a:Ar) (n:Nat) (e:En) W (a9:zc w W) (dr:jU a) (bj:n<=64) (ds:0<=e.n)=>ze3 V m a n e W (ah.aA a9) dr bj ds;have b6:=dD cr.mem;have b8:=dD cs;obtain⟨aw,ax,L,M,G,H,K,F,⟨ar,d,E⟩⟩:=V;dsimp only[mL]at a7⊢;obtain⟨-,-,-,-,-,-,-,-,cc⟩:=ah.ns;dsimp only at cc;obtain⟨eb,ap,S,al⟩:=ah.aT;have bd:=dD ap;have cy:=dD S;have ba:=dD al;have cj:=dD cc.symm;have ct:d<=9223372036854775807:=by
  obtain⟨ek,dy,ef,_⟩:=ah.sp;have:=dy.short;omega
 have b0:Xo (∀s∈m.sp,∀n∈jL s,zal m (zl s.aC n) (zf s n)=0):=dD<|fun s dw n bj=>zj.1 ((zi5 m s).symm.trans (zj.1 cq _ (Yx dw))) _ (Yx bj);clear ah ap S al cc cr cs cq;obtain⟨ec,C⟩:=kB (w.alloc (Xk #[aw.x,I6 m.aB,ax.x,L.x,M.x,G.x,H.x,K.x,I6 m.cnt,F.x,O ar d E] 41));have b2:=gA C;have cn:=xA C;have bc:=dD C;clear C;go_enter func102,ntmps102;go_upto_region 1 with fail;rw[bc.out];have ch:=cn.c 10 rfl;go_wp2;clear ch;go_loopg [12] d (fun bf ce wr=>∃f:Nat,f<=d/\d - f<=bf/\ce=I6 f/\Xo (zc w wr)/\Xo (Box wr w.heap.size [aw.x,I6 m.aB,ax.x,L.x,M.x,G.x,H.x,K.x,I6 m.cnt,F.x,O ar d E]))
 exact⟨0,nZ _,Wm,rfl,b2,cn⟩;obtain⟨f,du,dt,rfl,g,dc⟩:=hrel;by_cases D:f<d
 ·have ag:=kC D
  obtain⟨s,b9⟩:∃s,Xo (m.sp[f]? =Xa s):=⟨_,gE (Rx cj.out D)⟩;obtain⟨x,cl⟩:∃x,Xo (eb[f]? =Xa x):=⟨_,gE (by rw[bd.out,cj.out];exact D)⟩;have h:=dD<|ba.out f x s cl b9.out;obtain⟨Q,R⟩:=b8.out s (mG b9);have a1:=dD<|(jJ.1 Q).2;have bb:=dD R;have ay:=dD h.ar.n.symm;have az:Xo (ziI w x.ar.a s.aC):=show ziI _ _ _ by
   obtain⟨_,_,aq,cd⟩:=h.ar.aC;simp only[vJ]at aq;rw[aq.1];exact cd
  clear Q R;obtain⟨cp,rfl,q⟩:=cy.out f x cl.out;obtain⟨df,dg,dh,di,dj,dk,dl,dm,dn,dp⟩:=q wr g.out;clear q;go_upto_region 4 with fail;refine nW fun cz j=>?_;have a4:=gT j g;have db:=yA j dc;have t:=xA j;clear j df dg dh di dj dk dl dm dn dp;obtain⟨eh,b7⟩:=kA wr.heap.size;rw[b7.out]at t⊢;have l:=zbu x.tab s.tb cz (h.aA a4).tb;obtain⟨_,_,e2,e3,e4,e5,e6,e7,e8,e9⟩:=t.k10;go_wp2_with fail;refine l.mono ?_;clear l e2 e3 e4 e5 e6 e7 e8 e9;rintro be da ⟨ej,rfl,Z,p⟩;have v:=dD (a4.trans p);have co:=dD (db.aA p);have cm:=dD (t.aA p);clear p;obtain⟨eg,ei,rfl,aj⟩:=Z.at.aV;have ak:=Z.at.short;have a6:=dD aj;rw[J5,Yk]at ak⊢;rw[J5]at a6;clear Z aj;obtain⟨I,ck⟩:=kA ((jL s).length);rw[ck.out]at ak⊢;go_wp2;have cx:=dD g;go_loopg [20] I (fun bf cf wr=>∃u:Nat,u<=I/\I - u<=bf/\cf=I6 u/\Xo (zc da wr))
  exact⟨0,nZ _,Wm,rfl,zc.refl _⟩;obtain⟨u,ee,p,rfl,g⟩:=hrel;by_cases r:u<I
  ·have X:=kC r
   obtain⟨n,T⟩:∃n,Xo ((jL s)[u]? =Xa n):=⟨_,gE (Rx ck.out r)⟩;have ai:=zhD T.out;obtain⟨de,rfl,af⟩:=a6.out u (n:Int) (by rw[Yd,T.out];rfl);have dq:=af wr g.out;clear af;have ab:=b0.out s (mG b9) n (mG T);have a2:=dD ab;clear ab;have b4:=dD (v.trans g);have aa:=zgN (x.ar.x) s.aC (n:Int) wr (h.ar.aA b4);have e1:=(cm.aA g).c 1 rfl;go_wp2_with fail;refine aa.mono ?_;clear aa dq e1;rintro be N ⟨⟨cv,rfl,cu⟩,ac⟩;have a3:=dD cu;have z:=dD (g.trans ac);have b:=dD (v.trans z);clear ac cu;have dx:¬cv<0:=fun av=>by
    have:=zkz a3.out;rw[decide_eq_false Wm]at this;have bg:=a2.out;unfold zal at bg;rw[kE this.symm]at bg;exact absurd bg Dc
   obtain⟨k,a,rfl,A,b5⟩:∃(k:Nat) (a:Ar),cv=(k:Int)/\Xo (s.aC[k]? =Xa a)/\Xo (inZ a (n:Int)=Xc):=by
    rcases a3 with⟨k,a,aq,cd,dz⟩|⟨aq,_⟩;·exact⟨k,a,aq,cd,dz⟩
    omega
   have a0:=dD<|zgR a1 A.out;have dv:k<x.ar.n:=(by rw[<-ay.out];exact(gS.1 A).1);have b1:Xo (zfo m a n (zf s n)=0):=dD (by rw[<-a2.out,zb2 a1.out A.out b5.out,zmo b6.out a0.out]);have P:=(jV (zqK bb n)).2.1.1;have a8:Xo (∀W,zc w W->Xp prog 133 #[Xi #[aw.x,I6 m.aB,ax.x,L.x,M.x,G.x,H.x,K.x,I6 m.cnt,F.x,O (Xa cp) d E],Xi #[I6 a.fr,I6 a.tz,Xh a.rd,Xh a.wr,Xh a.sh,I6 a.file,I6 a.base],I6 (n:Int),enV (zf s n)] W fun be w'=>be= Xl (I6 0)/\zc W w'):=dD<|fun W a9=>a7.out a n (zf s n) W a9 a0 Wm P b1.out;have b3:Xo (∀W,zc w W->Xp prog 69 #[Xi #[x.t0.x,x.t1.x,x.t2.x,x.t3.x,x.t4.x,x.t5.x,x.t6.x,x.t7.x],I6 (n:Int)] W fun e w'=>e= Xl (enV (zf s n))/\zc W w'):=dD<|fun W a9=>by
    have:=JL x.tab s.tb (n:Int) W (h.aA a9).tb;rw[zgJ ai]at this;exact this
   clear P;go_upto_region 10 with fail;obtain⟨c,am,q⟩:=az.out k a A.out;have i:=dD (co.aA z);have B:=dD (cm.aA z);have bu:=i.gw 0 rfl;have bv:=i.gw 1 rfl;have bw:=i.gw 2 rfl;have bx:=i.gw 3 rfl;have bz:=i.gw 4 rfl;have c0:=i.gw 5 rfl;have c1:=i.gw 6 rfl;have c2:=i.gw 7 rfl;have c3:=i.gw 8 rfl;have c4:=i.gw 9 rfl;have ao:=i.gw 10 rfl;have Y:=B.gw 1 rfl;have bl:=B.gw 2 rfl;have bm:=B.gw 3 rfl;have bn:=B.gw 4 rfl;have bo:=B.gw 5 rfl;have bp:=B.gw 6 rfl;have bq:=B.gw 7 rfl;have br:=B.gw 8 rfl;have bs:=B.gw 9 rfl;(try simp only[Sli.x]at Y);rw[am]at Y;have c5:=fun y:zk N=>(q _ (b.trans y.aA)).1;have c6:=fun y:zk N=>(q _ (b.trans y.aA)).2.1;have c7:=fun y:zk N=>(q _ (b.trans y.aA)).2.2.1;have c8:=fun y:zk N=>(q _ (b.trans y.aA)).2.2.2.1;have c9:=fun y:zk N=>(q _ (b.trans y.aA)).2.2.2.2.1;have ca:=fun y:zk N=>(q _ (b.trans y.aA)).2.2.2.2.2.1;have cb:=fun y:zk N=>(q _ (b.trans y.aA)).2.2.2.2.2.2;have bk:Nonempty (zk N):=⟨⟨_,zc.refl _⟩⟩;clear q am;refine jQ [(10,⟨fun au=>au=enV (zf s n),fun au w'=>True⟩),(11,⟨fun au=>au=I6 0,fun au w'=>True⟩)] z3 Kr (Sb ⟨_,rfl⟩ ⟨_,rfl⟩) ?hp ?_;case hp=>
    intro x an;simp only[mC,nM,or_false]at an;rcases an with rfl|rfl;·exact fun _ _ _ _ av=>av
    exact fun _ _ _ _ av=>av
   iterate 10 refine zh ?_
   refine zJ rfl rfl (fun w' bi bh=>?_) (fun ea bt=>?_);·refine zN.call [Xi #[x.t0.x,x.t1.x,x.t2.x,x.t3.x,x.t4.x,x.t5.x,x.t6.x,x.t7.x],I6 (n:Int)] rfl func69 rfl rfl rfl ?_;refine(b3 w' (b.trans bi)).mono ?_;rintro e cg ⟨rfl,U⟩;exact⟨_,rfl,U,rfl,trivial⟩
   subst bt;refine Uq ?_;refine zJ rfl rfl (fun w' bi bh=>?_) (fun ea bt=>?_);·refine zN.call [Xi #[aw.x,I6 m.aB,ax.x,L.x,M.x,G.x,H.x,K.x,I6 m.cnt,F.x,O (Xa cp) d E],Xi #[I6 a.fr,I6 a.tz,Xh a.rd,Xh a.wr,Xh a.sh,I6 a.file,I6 a.base],I6 (n:Int),enV (zf s n)] rfl func133 rfl rfl rfl ?_;refine(a8 w' (b.trans bi)).mono ?_;rintro e cg ⟨rfl,U⟩;exact⟨_,rfl,U,rfl,trivial⟩
   subst bt;refine Uq ?_;refine zh ?_;refine z7 fun ed ae bh=>?_;have a5:=dD (z.trans ae);have ci:=dD (v.trans a5);clear ae bh bu bv bw bx bz c0 c1 c2 c3 c4 ao Y bl bm bn bo bp bq br bs c5 c6 c7 c8 c9 ca cb bk;go_wp2;go_roundg (I -(u+1));exact⟨u+1,Wm,Wm,Gn,a5⟩;omega
  have X:=kD r;have:u=I:=Wm;subst this;have dd:=dD (co.aA g);have cw:=dD (v.trans g);go_wp2;go_roundg (d -(f+1));exact⟨f+1,Wm,Wm,Gn,cw,dd⟩;omega
 have ag:=kD D;have:f=d:=Wm;subst this;go_wp2;go_ret;exact⟨rfl,g⟩
theorem zbM (a w) (k:frW a=0):Xp prog 149 #[Xi (frv a).toArray] w fun e w'=>e= Xl (I6 0)/\zc w w':=by
 obtain⟨⟨n,p,q,s,t,u,v,y⟩,r,B,z,h,x⟩:=a;show Xp prog 149 #[Xi #[U8 n,U8 p,U8 q,U8 s,U8 t,U8 u,U8 v,U8 y,I6 r,Xh B,Xh z,I6 h,I6 x]] w _;cases b:inB r 1001 with
 | false=>simp[frW,b]at k
 | true=>
 cases d:inB x 12 with
 | false=>simp[frW,b,d]at k
 | true=>
 by_cases l:h=-1
 ·have f:(h == -1)=Xc:=by simp[l]
  have i:(h != -1)=Xd:=by simp[l]
  by_cases m:r=0
  ·have c:(r == 0)=Xc:=by simp[m]
   cases g:Ji (⟨⟨n,p,q,s,t,u,v,y⟩,r,B,z,h,x⟩:Fr) frF with
   | false=>simp[frW,b,d,f,c,g]at k
   | true=>
    have j:x=0:=(by have:=zdE g;simp only[frF,Fr.mk.injEq]at this;exact this.2.2.2.2.2);exact wf7 _ _ _ _ _ _ _ _ _ _ _ _ _ w b d i f c g (by simp[j])
  have c:(r == 0)=Xd:=by simp[m]
  by_cases j:x=0;·exact wf9 _ _ _ _ _ _ _ _ _ _ _ _ _ w b d i f c (by simp[j])
  have A:(x == 0)=Xd:=by simp[j]
  simp[frW,b,d,f,c,A]at k
 have f:(h == -1)=Xd:=by simp[l]
 have i:(h != -1)=Xc:=by simp[l]
 cases j:inB h 5 with
 | false=>simp[frW,b,d,f,j]at k
 | true=>
  by_cases m:r=0
  ·have c:(r == 0)=Xc:=by simp[m]
   have g:Ji (⟨⟨n,p,q,s,t,u,v,y⟩,r,B,z,h,x⟩:Fr) frF=Xd:=by
    refine zpm fun h=>?_;simp only[frF,Fr.mk.injEq]at h;exact l h.2.2.2.2.1
   simp[frW,b,d,f,j,c,g]at k
  have c:(r == 0)=Xd:=by simp[m]
  exact wf5 _ _ _ _ _ _ _ _ _ _ _ _ _ w b d i f j c
theorem znp:∀{fs:List Fr},zcO fs=0->∀f∈fs,frW f=0
 | [],_,_,a=>by cases a
 | g :: fs,h,f,a=>by
  unfold zcO at h
  by_cases b:frW g=0
  ·rw[kE b]at h
   rcases mC.1 a with rfl|a
   ·exact b
   exact znp h f a
  rw[kF b]at h;exact absurd h b
theorem QR (a) (c:Nat) (fs:List Fr) (h:Int) (w) (g:zr qR w (O a fs.length c) fs) (i:ZW fs h=0):
  Xp prog 125 #[Xi #[O a fs.length c,I6 h]] w fun e w'=>e= Xl (I6 0)/\zc w w':=by
 have d:=g.short;obtain⟨b,b,f,b⟩:=g.bA;cases f;have r:=dD b;clear b g;have b:ZW fs h=if 40<fs.length then 4 else if zcO fs=0 then(if inB h (max fs.length 1)then 0 else 3)else zcO fs:=rfl;rw[i]at b;obtain⟨n,k⟩:=kA fs.length;rw[k.out]at d b⊢;have d:¬40<n:=fun e=>by rw[kE e]at b;cases b
 rw[kF d]at b;have p:Xo (∀f∈fs,frW f=0):=dD<|znp (Decidable.byContradiction fun e=>e (by rw[kF e]at b;exact b.symm));have g:zcO fs=0:=Decidable.byContradiction fun e=>e (by rw[kF e]at b;exact b.symm);rw[kE g]at b;have f:inB h (max n 1)=Xc:=by
  cases e:inB h (max n 1)with
  | true=>rfl
  | false=>rw[e]at b;cases b
 clear b g i;have b:¬(40:Int)< (n:Int):=Wm;have j:Xo (∀W,Xp prog 144 #[I6 h,I6 (max (n:Int) 1)] W fun e w'=>e= Xl (Xh Xc)/\w'=W):=dD<|fun W=>by
  have b:=Qg h (max (n:Int) 1) W;rw[show inB h (max (n:Int) 1)=inB h (max n 1) by simp,f]at b;exact b
 clear f;obtain⟨g,b⟩:=kB (w.alloc (Xk #[O a n c,I6 h] 28));have h:=gA b;have m:=xA b;have f:=dD b;clear b d;go_enter func125,ntmps125;go_wp2;rw[f.out];go_loopg [13] n (fun f d wr=>∃b:Nat,b<=n/\n - b<=f/\d=I6 b/\Xo (zc g wr))
 exact⟨0,nZ _,Wm,rfl,zc.refl _⟩;obtain⟨b,d,d,rfl,g⟩:=hrel;by_cases f:b<n
 ·have i:=kC f
  obtain⟨q,l⟩:∃q,Xo (fs[b]? =Xa q):=⟨_,gE (Rx k.out f)⟩;obtain⟨d,rfl,k⟩:=r.out b q l.out;obtain⟨d,d,d,d,d,d,d,d,d,d,d,d,d⟩:=k wr (h.trans g);have d:=fun W=>zbM q W (p q (mG l));clear k;go_wp2_with (go_at_call 149;refine(d _).mono ?_;rintro e w' ⟨rfl,d⟩)
  go_roundg (n -(b+1));exact⟨b+1,Wm,Wm,Gn,(g.trans (za _ _)).trans d⟩;omega
 have i:=kD f;have:b=n:=Wm;subst this;obtain⟨b,b⟩:=(m.aA g).k2;have b:=j.out;go_wp2_with (go_at_call 144;refine(b _).mono ?_;rintro e w' ⟨rfl,rfl⟩)
 go_ret;exact⟨rfl,h.trans g⟩
theorem zeN (h:zbq m=0):(∀k:Nat,k<m.fs.length->frE m k=0)/\∀k:Nat,k<m.sl.length->zk2 m k=0:=by have a:∀(f:Nat->Int) (n:Nat),zF ((Oa n).map f)=0->∀k,k<n->f k=0:=fun f n a k b=>zj.1 a _ (Yh.2 ⟨k,Yl.2 b,rfl⟩);grind [zbq,zF,Oa,frE]
theorem ze4 (V:MaV) (m:Ma) (w:Xn) (hm:zP w V m) (hca:zbe m Xb m.ca=0) (hsp4:m.sp.length<=4) (htb:∀s∈m.sp,tbW s.tb=0) (h0:zbq m=0):
  Xp prog 103 #[Xi (mL V m).toArray] w fun e w'=>e= Xl (I6 0)/\zc w w':=by
 have HWI:Xo (∀W,zc w W->Xp prog 67 #[Xi (mL V m).toArray] W fun e w'=>∃B,e= Xl (Xi #[V.f.x,I6 m.aB,V.s.x,V.sb.x,V.sq.x,V.db.x,V.dq.x,V.fl.x,I6 m.cnt,V.ca.x,V.sp.x,.map (Xa B)])/\QA plK w' B (QE m.ca)/\zc W w'):=dD<|fun W hW=>zbQ V m W (hm.aA hW);have HHO:Xo (∀W,zc w W->Xp prog 134 #[Xi (mL V m).toArray] W fun e w'=>∃B,e= Xl (.map (Xa B))/\zan enK w' B (qK m m.sp.length [] zeY)/\zc W w'):=dD<|fun W hW=>zjr V m W (hm.aA hW) hsp4 htb;have HHC:Xo (∀(B k:Nat) W,zc w W->k<m.fs.length->QA plK W B (QE m.ca)->Xp prog 135 #[Xi #[V.f.x,I6 m.aB,V.s.x,V.sb.x,V.sq.x,V.db.x,V.dq.x,V.fl.x,I6 m.cnt,V.ca.x,V.sp.x,.map (Xa B)],I6 (k:Int)] W fun e w'=>e= Xl (Xh (decide (QE m.ca ((zX m k).f,(zX m k).x)=Xa (k:Int))))/\zc W w'):=dD<|fun B k W hW hk hM=>zgI V m B k (QE m.ca) W (hm.aA hW) hk hM;obtain⟨⟨fa,fn,fc⟩,⟨sa,sn,sc⟩,vsb,vsq,vdb,vdq,vfl,vca,vsp⟩:=V;dsimp only[mL]at HWI HHO HHC⊢;obtain⟨n1,n2,-⟩:=hm.ns;dsimp only at n1 n2;have HFR:Xo (zaZ w fa m.fs):=hm.bA;have HSL:Xo (zfX w sa m.sl):=hm.sls;have HN1:Xo (m.fs.length=fn):=n1.symm;have HN2:Xo (m.sl.length=sn):=n2.symm;have hb1:fn<=9223372036854775807:=Hm hm.fs.short;have hb2:sn<=9223372036854775807:=Hm hm.sl.short;have HFE:Xo (∀k:Nat,k<m.fs.length->(zX m k).r=qK m m.sp.length [] zeY (1,(k:Int))/\(0<=(zX m k).f->QE m.ca ((zX m k).f,(zX m k).x)=Xa (k:Int))):=dD<|fun k hk=>by
  have h1:=(zeN h0).1 k hk;rw[zpn hca k]at h1;by_cases hc:(zX m k).r≠qK m m.sp.length [] zeY (1,(k:Int))\/(0<=(zX m k).f/\¬QE m.ca ((zX m k).f,(zX m k).x)=Xa (k:Int));·rw[kE hc]at h1;cases h1
  exact⟨Decidable.byContradiction fun e=>hc (.inl e),fun e=>Decidable.byContradiction fun e'=>hc (.inr ⟨e,e'⟩)⟩
 have HSE:Xo (∀k:Nat,k<m.sl.length->m.sl.getD k 0=qK m m.sp.length [] zeY (2,(k:Int))):=dD<|fun k hk=>by
  have h1:=(zeN h0).2 k hk;rw[zmw m k]at h1;by_cases hc:m.sl.getD k 0≠qK m m.sp.length [] zeY (2,(k:Int));·rw[kE hc]at h1;cases h1
  exact Decidable.byContradiction hc
 clear hm hca hsp4 htb n1 n2 h0;obtain⟨W0,hW0⟩:=kB (w.alloc (Xk #[O fa fn fc,I6 m.aB,O sa sn sc,vsb.x,vsq.x,vdb.x,vdq.x,vfl.x,I6 m.cnt,vca.x,vsp.x] 41));have HG0:=gA hW0;have X0:=xA hW0;have HW0:Xo (_=W0):=hW0;clear hW0;go_enter func103,ntmps103;go_upto_region 1 with fail;rw[HW0.out];have hx0:=X0.gw 0 rfl;have hx1:=X0.gw 1 rfl;have hx2:=X0.gw 2 rfl;have hx3:=X0.gw 3 rfl;have hx4:=X0.gw 4 rfl;have hx5:=X0.gw 5 rfl;have hx6:=X0.gw 6 rfl;have hx7:=X0.gw 7 rfl;have hx8:=X0.gw 8 rfl;have hx9:=X0.gw 9 rfl;have hx10:=X0.gw 10 rfl;have hne:Nonempty (zk W0):=⟨⟨_,zc.refl _⟩⟩;refine Zd 5 [(1,⟨fun v=>∃B,v= Xi #[O fa fn fc,I6 m.aB,O sa sn sc,vsb.x,vsq.x,vdb.x,vdq.x,vfl.x,I6 m.cnt,vca.x,vsp.x,.map (Xa B)],fun v w'=>∃B,v= Xi #[O fa fn fc,I6 m.aB,O sa sn sc,vsb.x,vsq.x,vdb.x,vdq.x,vfl.x,I6 m.cnt,vca.x,vsp.x,.map (Xa B)]/\QA plK w' B (QE m.ca)⟩),(3,⟨fun v=>∃B,v= .map (Xa B),fun v w'=>∃B,v= .map (Xa B)/\zan enK w' B (qK m m.sp.length [] zeY)⟩),(4,⟨fun v=>∃p,v= Xj (Xa ⟨p,0,Xb⟩),fun v w'=>∃p,v= Xj (Xa ⟨p,0,Xb⟩)/\Box w' p [eS,I6 0,eS,eS,eS,eS,eS,eS,I6 0,eS,eS,.map Xb]/\w.heap.size<=p⟩)] z3 Kr rfl rfl Dc (Sc ⟨_,0,rfl⟩ ⟨_,0,rfl⟩ ⟨_,0,rfl⟩) ?hp ?_;case hp=>
  intro x hx;simp only[mC,nM,or_false]at hx;rcases hx with rfl|rfl|rfl;·exact fun _ _ _ hg h=>by obtain⟨B,h1,h2⟩:=h;exact⟨B,h1,h2.aA hg⟩
  ·exact fun _ _ _ hg h=>by obtain⟨B,h1,h2⟩:=h;exact⟨B,h1,h2.aA hg⟩
  exact fun _ _ _ hg h=>by obtain⟨p,h1,h2,h3⟩:=h;exact⟨p,h1,h2.aA hg,h3⟩
 simp only[Xv,Xw];iterate 1 (refine jS rfl rfl rfl (fun K hK=>?_);go_big_quiet_op;refine hK _ ?_;clear hK K)
 refine zJ rfl rfl (fun w' hg hF=>?_) (fun v1 hv=>?_);·refine zN.call [Xi #[O fa fn fc,I6 m.aB,O sa sn sc,vsb.x,vsq.x,vdb.x,vdq.x,vfl.x,I6 m.cnt,vca.x,vsp.x]] rfl func67 rfl rfl rfl ?_;refine(HWI w' (HG0.trans hg)).mono ?_;rintro e w'' ⟨B,rfl,hM,hg2⟩;exact⟨_,rfl,hg2,⟨B,rfl⟩,B,rfl,hM⟩
 obtain⟨B1,rfl⟩:=hv;simp only[Xu,sB,sS,sZ];iterate 1 (refine jS rfl rfl rfl (fun K hK=>?_);go_big_quiet_op;refine hK _ ?_;clear hK K)
 refine zJ rfl rfl (fun w' hg hF=>?_) (fun v1 hv=>?_);·refine zN.call [Xi #[O fa fn fc,I6 m.aB,O sa sn sc,vsb.x,vsq.x,vdb.x,vdq.x,vfl.x,I6 m.cnt,vca.x,vsp.x]] rfl func134 rfl rfl rfl ?_;refine(HHO w' (HG0.trans hg)).mono ?_;rintro e w'' ⟨B,rfl,hM,hg2⟩;exact⟨_,rfl,hg2,⟨B,rfl⟩,B,rfl,hM⟩
 obtain⟨B2,rfl⟩:=hv;simp only[Xu,sB,sS,sZ];refine zJ rfl rfl (fun w' hg hF=>?_) (fun v1 hv=>?_);·have hnew:Box (w'.alloc (Xk #[eS,I6 0,eS,eS,eS,eS,eS,eS,I6 0,eS,eS,.map Xb] 140)) w'.heap.size [eS,I6 0,eS,eS,eS,eS,eS,eS,I6 0,eS,eS,.map Xb]:=Box.aE _ _ _ rfl;have hle:w.heap.size<=w'.heap.size:=bS (HG0.trans hg);clear hx0 hx1 hx2 hx3 hx4 hx5 hx6 hx7 hx8 hx9 hx10 hne;refine zN.step (v:= Xj (Xa ⟨w'.heap.size,0,Xb⟩)) (w':=w'.alloc (Xk #[eS,I6 0,eS,eS,eS,eS,eS,eS,I6 0,eS,eS,.map Xb] 140)) (by simp only[execOp];go_simp) ⟨za _ _,⟨_,rfl⟩,_,rfl,hnew,hle⟩
 obtain⟨p3,rfl⟩:=hv;simp only[Xu,sB,sS,sZ];refine z7 fun W3 hg3 hF=>?_;obtain⟨B1',he1,hM1⟩:∃B,(Value.agg #[O fa fn fc,I6 m.aB,O sa sn sc,vsb.x,vsq.x,vdb.x,vdq.x,vfl.x,I6 m.cnt,vca.x,vsp.x,.map (Xa B1)])= Xi #[O fa fn fc,I6 m.aB,O sa sn sc,vsb.x,vsq.x,vdb.x,vdq.x,vfl.x,I6 m.cnt,vca.x,vsp.x,.map (Xa B)]/\QA plK W3 B (QE m.ca):=hF 1;obtain⟨B2',he2,hM2⟩:∃B,(Value.map (Xa B2))= .map (Xa B)/\zan enK W3 B (qK m m.sp.length [] zeY):=hF 3;obtain⟨p3',he3,hB3,hle3⟩:∃p,(Value.pointer (Xa ⟨p3,0,Xb⟩))= Xj (Xa ⟨p,0,Xb⟩)/\Box W3 p [eS,I6 0,eS,eS,eS,eS,eS,eS,I6 0,eS,eS,.map Xb]/\w.heap.size<=p:=hF 4;have e1:B1'=B1:=by simp at he1;exact he1.symm
 have e2:B2'=B2:=by simp at he2;exact he2.symm
 have e3:p3'=p3:=by simp at he3;exact he3.symm
 subst e1 e2 e3;have M1:Xo (QA plK W3 B1' (QE m.ca)):=hM1;have M2:Xo (zan enK W3 B2' (qK m m.sp.length [] zeY)):=hM2;have Y3:Xo (Box W3 p3' [eS,I6 0,eS,eS,eS,eS,eS,eS,I6 0,eS,eS,.map Xb]):=hB3;have HL3:Xo (w.heap.size<=p3'):=hle3;have HG3:=dD (HG0.trans hg3);have X3:=dD (X0.aA hg3);clear he1 he2 he3 hM1 hM2 hB3 hle3 hg3 hF hx0 hx1 hx2 hx3 hx4 hx5 hx6 hx7 hx8 hx9 hx10 hne;have HXP:Xo (w.heap.size≠p3'):=show _≠_ from fun e=>by
  obtain⟨t1,h1⟩:=X3.out;obtain⟨t2,h2⟩:=Y3.out;rw[<-e,h1]at h2;simp at h2
 go_wp2_with (refine zp rfl 140 (.tmp 3) (.tmp 10) rfl p3' rfl [O fa fn fc,I6 m.aB,O sa sn sc,vsb.x,vsq.x,vdb.x,vdq.x,vfl.x,I6 m.cnt,vca.x,vsp.x,.map (Xa B1')] rfl Y3 rfl Kr (fun v hv=>by
    simp only[mC,nM,or_false]at hv
    rcases hv with rfl|rfl|rfl|rfl|rfl|rfl|rfl|rfl|rfl|rfl|rfl|rfl <;> rfl) ?_)
 intro W4 hb4 hg4 _;have Y4:Xo (Box W4 p3' [O fa fn fc,I6 m.aB,O sa sn sc,vsb.x,vsq.x,vdb.x,vdq.x,vfl.x,I6 m.cnt,vca.x,vsp.x,.map (Xa B1')]):=hb4;have X4:Xo (Box W4 w.heap.size [O fa fn fc,I6 m.aB,O sa sn sc,vsb.x,vsq.x,vdb.x,vdq.x,vfl.x,I6 m.cnt,vca.x,vsp.x]):=X3.grown hg4 HXP.out;have N1:Xo (QA plK W4 B1' (QE m.ca)):=M1.kept hg4 (fun e=>by cases e;exact Y3.bT M1 rfl);have N2:Xo (zan enK W4 B2' (qK m m.sp.length [] zeY)):=dD<|by
  obtain⟨g,k1,k2⟩:=M2.out;exact⟨g,k1.kept hg4 (fun e=>by cases e;exact Y3.bT k1 rfl),k2⟩
 have HG4:Xo (zc w W4):=dD<|zd HG3 hg4 HL3.out;clear hb4 hg4;have x0:=X4.c 0 rfl;go_wp2;clear x0;go_loopg [17] fn (fun gg s17 wr=>∃kk:Nat,kk<=fn/\fn - kk<=gg/\s17=I6 kk/\Xo (zc W4 wr))
 exact⟨0,nZ _,Wm,rfl,zc.refl _⟩;obtain⟨kk,hkk,hgg,rfl,BW⟩:=hrel;by_cases hlt:kk<fn
 ·have hltz:=kC hlt
  have HKL:Xo (kk<m.fs.length):=dD<|Rx HN1.out hlt;obtain⟨q,HQ⟩:∃q,Xo (m.fs[kk]? =Xa q):=⟨_,gE HKL⟩;have HFQ:Xo (zX m (kk:Int)=q):=dD (by unfold zX;rw[tN,gD,HQ.out];rfl);obtain⟨ad,rfl,hl⟩:=HFR.out kk q HQ.out;obtain⟨d0,d1,d2,d3,d4,d5,d6,d7,d8,d9,d10,d11,d12⟩:=hl wr (HG4.trans BW);clear hl;go_upto_region 5 with fail;refine nW fun W5 hW5=>?_;have HG5:=gT hW5 BW;have HGw5:=dD (HG4.trans HG5);have F5:=xA hW5;have Y5:=dD (Y4.aA HG5);clear hW5 d0 d1 d2 d3 d4 d5 d6 d7 d8 d9 d10 d11 d12;obtain⟨pf,HPF⟩:=kA wr.heap.size;rw[HPF.out]at F5⊢;obtain⟨h,HHK⟩:=kA ((qK m m.sp.length [] zeY) (1,(kk:Int)));have hlk:∀y:zk W5,(Instr.lookup 204 (.map (Xa B2')) (Xi #[I6 1,I6 (kk:Int),Xh Xd]) Xd).run prog y.world= .ok (I6 h) y.world:=fun y=>by
   have:=(N2.aA (HG5.trans y.aA)).look (K:=enK) underlying204 (zsD _) (1,(kk:Int));rw[HHK.out]at this;exact this
  have hf8:=F5.gw 8 rfl;have hf11:=F5.gw 11 rfl;have hy0:=Y5.gw 0 rfl;have hy1:=Y5.gw 1 rfl;have hy2:=Y5.gw 2 rfl;have hy3:=Y5.gw 3 rfl;have hy4:=Y5.gw 4 rfl;have hy5:=Y5.gw 5 rfl;have hy6:=Y5.gw 6 rfl;have hy7:=Y5.gw 7 rfl;have hy8:=Y5.gw 8 rfl;have hy9:=Y5.gw 9 rfl;have hy10:=Y5.gw 10 rfl;have hy11:=Y5.gw 11 rfl;have hne:Nonempty (zk W5):=⟨⟨_,zc.refl _⟩⟩;obtain⟨hr,hix⟩:=HFE.out kk HKL.out;rw[HFQ.out,HHK.out]at hr;have hre:(q.r != h)=Xd:=by simp[hr]
  by_cases hf0:0<=q.f
  ·have hf0d:decide (0<=q.f)=Xc:=Si hf0
   have HU:Xo (decide (QE m.ca ((zX m (kk:Int)).f,(zX m (kk:Int)).x)=Xa (kk:Int))=Xc):=dD<|decide_eq_true (hix (Rx HFQ.out hf0));have HCC:Xo (∀W,zc W4 W->Xp prog 135 #[Xi #[O (Xa ad) fn fc,I6 m.aB,O sa sn sc,vsb.x,vsq.x,vdb.x,vdq.x,vfl.x,I6 m.cnt,vca.x,vsp.x,.map (Xa B1')],I6 (kk:Int)] W fun e w'=>e= Xl (Xh Xc)/\zc W w'):=dD<|fun W hW=>by
    have h1:=HHC.out B1' kk W (HG4.trans hW) HKL (N1.aA hW);rw[HU.out]at h1;exact h1
   clear hr hf0 hix;refine jQ [(14,⟨fun v=>v= Xh Xc,fun v w'=>True⟩)] z3 Kr (Sa ⟨_,rfl⟩) ?hp ?_;case hp=>
    intro x hx;simp only[mC,nM,or_false]at hx;subst hx;exact fun _ _ _ _ h=>h
   iterate 14 (refine jS rfl rfl rfl (fun K hK=>?_);go_big_quiet_op;refine hK _ ?_;clear hK K)
   refine zJ rfl rfl (fun w' hg hF=>?_) (fun v1 hv=>?_);·refine zN.call [Xi #[O (Xa ad) fn fc,I6 m.aB,O sa sn sc,vsb.x,vsq.x,vdb.x,vdq.x,vfl.x,I6 m.cnt,vca.x,vsp.x,.map (Xa B1')],I6 (kk:Int)] rfl func135 rfl rfl rfl ?_;refine(HCC w' (HG5.trans hg)).mono ?_;rintro e w'' ⟨rfl,hg3⟩;exact⟨_,rfl,hg3,rfl,trivial⟩
   subst hv;simp only[Xu,sB,sS,sZ];iterate 3 (refine jS rfl rfl rfl (fun K hK=>?_);go_big_quiet_op;refine hK _ ?_;clear hK K)
   refine z7 fun W6 hg6 hF=>?_;have HG6:=dD (HG5.trans hg6);clear hg6 hF hlk hf8 hf11 hy0 hy1 hy2 hy3 hy4 hy5 hy6 hy7 hy8 hy9 hy10 hy11 hne;go_wp2;go_roundg (fn -(kk+1));exact⟨kk+1,Wm,Wm,Gn,HG6⟩;omega
  have hf0d:decide (0<=q.f)=Xd:=Si hf0;clear hr hf0 hix;refine jQ [] z3 Kr Sm Sm ?_;iterate 12 (refine jS rfl rfl rfl (fun K hK=>?_);go_big_quiet_op;refine hK _ ?_;clear hK K)
  iterate 4 (refine ZC Kr ?_;simp only[Xu,sB,sS,sZ])
  iterate 2 (refine jS rfl rfl rfl (fun K hK=>?_);go_big_quiet_op;refine hK _ ?_;clear hK K)
  refine z7 fun W6 hg6 hF=>?_;have HG6:=dD (HG5.trans hg6);clear hg6 hF hlk hf8 hf11 hy0 hy1 hy2 hy3 hy4 hy5 hy6 hy7 hy8 hy9 hy10 hy11 hne;go_wp2;go_roundg (fn -(kk+1));exact⟨kk+1,Wm,Wm,Gn,HG6⟩;omega
 have hltz:=kD hlt;have:kk=fn:=Wm;subst this;have x2:=(X4.aA BW).c 2 rfl;go_wp2;clear x2;have HBW:Xo (zc W4 wr):=BW;go_loopg [44] sn (fun gg s44 wr=>∃i:Nat,i<=sn/\sn - i<=gg/\s44=I6 i/\Xo (zc W4 wr))
 exact⟨0,nZ _,Wm,rfl,HBW⟩;obtain⟨i,hi,hg2,rfl,BW⟩:=hrel;by_cases hlt2:i<sn
 ·have hltz2:=kC hlt2
  have HKL:Xo (i<m.sl.length):=dD (by rw[HN2.out];exact hlt2);obtain⟨z,HZI⟩:∃z,Xo (m.sl[i]? =Xa z):=⟨_,gE HKL⟩;obtain⟨ad,rfl,hl⟩:=HSL.out i z HZI.out;have d0:=hl wr (HG4.trans BW);clear hl;obtain⟨h,HHK⟩:=kA ((qK m m.sp.length [] zeY) (2,(i:Int)));have hlk:(Instr.lookup 204 (.map (Xa B2')) (Xi #[I6 2,I6 (i:Int),Xh Xd]) Xd).run prog wr= .ok (I6 h) wr:=by
   have:=(N2.aA BW).look (K:=enK) underlying204 (zsD _) (2,(i:Int));rw[HHK.out]at this;exact this
  have hr:z=h:=by
   have:=HSE.out i HKL.out;rw[gD,HZI.out,HHK.out]at this;exact this
  have hre:(z != h)=Xd:=by simp[hr]
  clear hr;go_wp2;go_roundg (sn -(i+1));exact⟨i+1,Wm,Wm,Gn,BW⟩;omega
 have hltz2:=kD hlt2;have:i=sn:=Wm;subst this;have HGW:=dD (HG4.trans BW);go_wp2;go_ret;exact⟨rfl,HGW⟩
theorem zf4 (V m w) (a3:zP w V m) (bu:zkO m) (ch:zF (zay m)=0):
  Xp prog 99 #[Xi (mL V m).toArray] w fun e w'=>e= Xl (I6 0)/\zc w w':=by
 obtain⟨c6,y,f,T,⟨D,d,E⟩,⟨F,i,G⟩,R,Q,S⟩:=V;dsimp only[mL];have df:=zcA;obtain⟨-,s,bx,-,am,bz,-⟩:=a3.ns;dsimp only at s bx am bz;have aq:=dD<|fun ai (d9:zc w ai)=>zeF _ m.fl m.cnt ai (a3.aA d9).fl bu.st;have b9:=dD a3.pgs;have ba:=dD a3.puts;obtain⟨ab,ah⟩:=ziQ bu.dq;have bd:=dD ah;have B:=dD am.symm;have az:=dD bz.symm;have bw:i<=9223372036854775807:=Hm a3.dq.2.2;rw[B.out]at ab;have h:znx m=if y.n≠f.n\/m.cnt≠(d:Int)then 7 else 0:=by unfold znx;rw[s,bx,am]
 have v:=zj.1 ch;have n:zaV m=0:=v _ (by simp[zay]);have r:zaE m=0:=v _ (by simp[zay]);rw[v (znx m) (by simp[zay])]at h;have ao:Xo (∀c,c<m.db.length->zdc m c=Xd):=dD<|fun c bv=>by
  cases aa:zdc m c with
  | false=>rfl
  | true=>rw[zfT bv aa]at n;cases n
 have be:Xo (∀(j:Nat) x,m.dq[j]? =Xa x->z4 m.fl x.1=Xc):=dD<|fun j x de=>by
  cases aa:z4 m.fl x.1 with
  | true=>rfl
  | false=>rw[zfs de aa]at r;cases r
 have da:¬(y.n≠f.n\/m.cnt≠(d:Int)):=fun aa=>by rw[kE aa]at h;cases h
 have al:f.n=y.n:=Wm;have bk:m.cnt=(d:Int):=Wm;clear a3 bu ah s bx am bz h v n r ch da;obtain⟨cb,k⟩:=kB (w.alloc (Xk #[c6.x,I6 m.aB,y.x,f.x,T.x,O D d E,O F i G,R.x,I6 m.cnt,Q.x,S.x] 41));have a5:=gA k;have C:=xA k;have cn:Xo (w.heap.size<cb.heap.size):=dD<|by rw[<-k];simp
 have bf:=dD k;clear k;have cw:((f.n:Int) !=(y.n:Int))=Xd:=by simp[al]
 have cy:((d:Int) != m.cnt)=Xd:=by simp[bk]
 have cx:(f.n != y.n)=Xd:=by simp[al]
 have ac:=aq.out cb a5.out;have cl:=dD al;have cm:=dD bk;clear al bk;go_enter func99,ntmps99;go_upto_region 1 with fail;rw[bf.out];have dn:=C.c 2 rfl;have dp:=C.c 3 rfl;have c7:=C.c 5 rfl;have c8:=C.c 6 rfl;have dq:=C.c 7 rfl;have dr:=C.c 8 rfl;go_upto_region 3 with fail;go_wp2_with fail;refine ac.mono ?_;clear ac dn dp c7 c8 dq dr;rintro e aj ⟨rfl,H⟩;have a6:=dD (a5.trans H);have cc:=dD (C.aA H);clear H;obtain⟨a4,u⟩:=kA (jH 80 (jI m.fl m.fl.length []));have aw:Xo (a4.length=80):=show _=_ by rw[<-u.out];exact zb6 _ _
 have ax:Xo (∀dm∈a4,dm.oneCell'=Xc):=dD<|by rw[<-u.out];exact zhT _ _
 have a8:Xo (∀c:Nat,c<80->a4[c]? =Xa (Xh (z4 m.fl (c:Int)))):=dD<|fun c bv=>by rw[<-u.out];exact zps bv
 rw[u.out];obtain⟨cq,l⟩:=kB (aj.alloc (Xk zg7 198));have ar:=gT l a6;have ct:=yA l cc;have cu:Xo (Box cq aj.heap.size (Xr 80 (Xh Xd))):=dD<|by rw[<-l];exact Box.aE _ (Xr 80 (Xh Xd)) _ rfl
 have bg:=dD l;clear l;have av:=dD<|bS a6.out;have bh:=dD cc.lt;go_wp2_with (first | (rw[bg.out];refine zp rfl 198 (.tmp 3) (.tmp 28) rfl aj.heap.size rfl a4 rfl cu (by rw[aw.out];simp) (Si zsE) ax.out ?_))
 intro cr ae K _;have au:=dD<|zd ar K av.out;have cd:Xo (Box cr w.heap.size [c6.x,I6 m.aB,y.x,f.x,T.x,O D d E,O F i G,R.x,I6 m.cnt,Q.x,S.x]):=ct.grown K (Hm bh.out);have cg:=dD ae;obtain⟨an,b8⟩:=kA aj.heap.size;rw[b8.out]at cg⊢;clear ae K df;have c7:=cd.c 5 rfl;go_wp2;clear c7;obtain⟨P,ay⟩:=kA d;rw[ay.out]at ab⊢;go_loopg [33] P (fun bt c4 wr=>∃b:Nat,b<=P/\P - b<=bt/\c4=I6 b/\Xo (zc w wr)/\Xo (Box wr w.heap.size [c6.x,I6 m.aB,y.x,f.x,T.x,O D d E,O F i G,R.x,I6 m.cnt,Q.x,S.x])/\Xo (Box wr an a4))
 exact⟨0,nZ _,Wm,rfl,au,cd,cg⟩;obtain⟨b,dd,dc,rfl,z,cf,ak⟩:=hrel;by_cases L:b<P
 ·have ag:=kC L
  have p:b<80:=Wm;have a7:Xo (b<m.db.length):=dD (by rw[B.out,ay.out];exact L);obtain⟨c0,c9⟩:∃c0,Xo (m.db[b]? =Xa c0):=⟨_,gE a7⟩;obtain⟨cv,W,X,Y,Z,I,a0,a1,a2,rfl,rfl,af⟩:=b9.out b c0 c9.out;have A:Xo (zdc m b=(!z4 m.fl (b:Int) && !([W,X,Y,Z,I,a0,a1,a2] == zq))):=dD (by unfold zdc;rw[gD,c9.out];rfl);obtain⟨bl,bm,bn,bo,bp,bq,br,bs⟩:=af wr z.out;have N:=fun ai=>QJ 9998 W X Y Z I a0 a1 a2 0 0 0 0 0 0 0 0 ai;simp only[zg5]at N;obtain⟨cp,ca⟩:=kA (z4 m.fl (b:Int));have g:=a8.out b p;rw[ca.out]at g;rw[ca.out]at A;obtain⟨co,bb⟩:=kA ([W,X,Y,Z,I,a0,a1,a2] == zq);rw[bb.out]at N A;clear af;go_upto_region 7 with fail;refine nW fun cs a=>?_;have t:=gT a z;have ce:=yA a cf;have U:=yA a ak;have bj:=xA a;clear a bl bm bn bo bp bq br bs;have ds:=U.c b g;obtain⟨cj,dg,dh,an,di,dj,dk,dl⟩:=bj.c8;clear g;cases cp with
  | true=>
   clear cj dg dh an di dj dk dl N;go_wp2;go_roundg (P -(b+1));exact⟨b+1,Wm,Wm,Gn,t,ce,U⟩;omega
  | false=>
   cases co with
   | true=>
    go_wp2;go_roundg (P -(b+1));exact⟨b+1,Wm,Wm,Gn,t,ce,U⟩;omega
   | false=>
    have:=ao.out b a7.out;rw[A.out]at this;cases this
 have ag:=kD L;have:b=P:=Wm;subst this;have c8:=cf.c 6 rfl;go_wp2;clear c8;obtain⟨s,a9⟩:=kA i;rw[a9.out]at bw⊢;have ap:=dD z;have bi:=dD ak;go_loopg [52] s (fun bt c5 wr=>∃j:Nat,j<=s/\s - j<=bt/\c5=I6 j/\Xo (zc w wr)/\Xo (Box wr an a4))
 exact⟨0,nZ _,Wm,rfl,ap,bi⟩;obtain⟨j,dt,db,rfl,z,ak⟩:=hrel;by_cases q:j<s
 ·have M:=kC q
  obtain⟨x,bc⟩:∃x,Xo (m.dq[j]? =Xa x):=⟨_,gE (by rw[az.out,a9.out];exact q)⟩;obtain⟨cv,ci,W,X,Y,Z,I,a0,a1,a2,rfl,rfl,af⟩:=ba.out j x bc.out;obtain⟨ck,c3⟩:=bd.out j _ bc.out;simp only at ck c3;obtain⟨c,rfl⟩:∃c:Nat,ci=(c:Int):=⟨ci.toNat,Wm⟩;have p:c<80:=by rw[B.out,ay.out]at c3;omega
  obtain⟨bl,bm,bn,bo,bp,bq,br,bs,cz⟩:=af wr z.out;have g:=a8.out c p;rw[show z4 m.fl (c:Int)=Xc from be.out j _ bc.out]at g;clear af ck c3;go_upto_region 13 with fail;refine nW fun cs a=>?_;have t:=gT a z;have U:=yA a ak;have bj:=xA a;clear a bl bm bn bo bp bq br bs cz;have ds:=U.c c g;have cj:=bj.c 0 rfl;clear g;go_wp2;go_roundg (s -(j+1));exact⟨j+1,Wm,Wm,Gn,t,U⟩;omega
 have M:=kD q;have:j=s:=Wm;subst this;go_wp2;go_ret;exact⟨rfl,z⟩
theorem zrJ (V m w) (b:zP w V m) (d:maW m=0) (k:Nat) (f:Nat) (a:chk[k]? =Xa f):
  Xp prog f #[Xi (mL V m).toArray] w fun e w'=>e= Xl (I6 0)/\zc w w':=by
 have c:∀e∈zqV m,e=0:=zj.1 (by rw[<-d,zqu];rfl);have g:zF (J3 m)=0:=c _ (by simp[zqV]);have n:zF (zay m)=0:=c _ (by simp[zqV]);have d:Js m=0:=c _ (by simp[zqV]);have j:zfp m=0:=c _ (by simp[zqV]);have p:zhi m=0:=c _ (by simp[zqV]);have q:zbq m=0:=c _ (by simp[zqV]);have c:=zrp.1 g
 match k,a with
 | 0,a=>
  cases a;have k:=zf1 V m w b fun W i=>by
   obtain⟨l,-⟩:=b.ns;have h:=(b.aA i).fs;(try simp only[Sli.x]at h⊢);rw[l]at h⊢;have i:ZW m.fs m.aB=0:=zj.1 g _ (by simp[J3]);rw[i];exact QR _ _ m.fs m.aB W h i
  rw[g]at k;exact k
 | 1,a=>cases a;exact zf4 V m w b c n
 | 2,a=>cases a;rw[<-d];exact zdL V m w b
 | 3,a=>cases a;rw[<-j];exact ze5 V m w b c
 | 4,a=>cases a;exact ze2 V m w b c (zmG d) p
 | 5,a=>cases a;exact ze4 V m w b j (zhh d) (fun s b=>(zmG d s b).2) q
 | k+6,a=>simp[chk]at a
theorem zg9 (V m w) (b:zP w V m) (a:maW m=0):
  Xp prog 64 #[Xi (mL V m).toArray] w fun e w'=>e= Xl (I6 0)/\zc w w':=by
 have g:Xo (∀W,zc w W->∀(k f:Nat),chk[k]? =Xa f->Xp prog f #[Xi (mL V m).toArray] W fun e w'=>e= Xl (I6 0)/\zc W w'):=dD<|fun W c k f d=>zrJ V m W (b.aA c) a k f d;clear b a;obtain⟨d,a⟩:=kB ((w.alloc (Xk (mL V m).toArray 41)).alloc (Xk #[.func (.func 98) #[] #[],.func (.func 99) #[] #[],.func (.func 100) #[] #[],.func (.func 101) #[] #[],.func (.func 102) #[] #[],.func (.func 103) #[] #[]] 51));have b:=gD2 a;have j:=x2a a;have k:Xo (Box d (w.heap.size+1) (chk.map fnV)):=dD<|by rw[<-a];exact Box.aE _ (chk.map fnV) _ Sm
 have c:=dD a;clear a;go_enter func64,ntmps64;go_upto_region 2 with fail;rw[c.out];go_wp2;go_loopg [10] 6 (fun h c wr=>∃a:Nat,a<=6/\6 - a<=h/\c=I6 a/\Xo (zc d wr))
 exact⟨0,nZ _,Wm,rfl,zc.refl _⟩;obtain⟨a,c,c,rfl,d⟩:=hrel;have i:=dD (b.trans d);by_cases b:a<6
 ·have c:(a:Int)<6:=Wm
  obtain⟨f,h⟩:∃f,Xo (chk[a]? =Xa f):=⟨_,gE (by simp[chk];exact b)⟩;have v:wr.cell? ⟨w.heap.size+1,a,Xb⟩=Xa (.func (.func f) #[] #[]):=(k.aA d).c a (by rw[Yd,h.out];rfl);have k:=zl0 a f h.out;have b:=g.out wr i a f h.out;have g:=dD (j.aA d);obtain⟨h,j,l,n,p,q,r,s,t,u,f⟩:=g.bN;go_wp2_with fail;refine b.mono ?_;clear b h j l n p q r s t u f v;rintro b b ⟨rfl,b⟩;have f:=dD (d.trans b);clear b k;go_wp2;go_roundg (6 -(a+1));exact⟨a+1,Wm,Wm,Gn,f⟩;omega
 have c:¬(a:Int)<6:=Wm;go_wp2;go_ret;exact⟨rfl,i⟩
section
variable{α:Type} {E:Elt α}
theorem zk1 (m:List α):∀(l:List α) (a:Nat),a+m.length<=l.length->splice (l.flatMap E.enc) (a*E.k) (m.flatMap E.enc)=(l.take a++(m++l.drop (a+m.length))).flatMap E.enc:=fun l a h=>by
 have b:∀(l:List α) (j:Nat),j<=l.length->(l.flatMap E.enc).take (j*E.k)=(l.take j).flatMap E.enc/\(l.flatMap E.enc).drop (j*E.k)=(l.drop j).flatMap E.enc:=fun l j c=>by
  have d:l.flatMap E.enc=(l.take j).flatMap E.enc++(l.drop j).flatMap E.enc:=by rw[<-Xz,List.take_append_drop]
  have e:((l.take j).flatMap E.enc).length=j*E.k:=by rw[qD E,List.length_take,Nat.min_eq_left c]
  constructor;·grind
  grind
 unfold splice;rw[qD E m,<-Od,(b l a Wm).1,(b l (a+m.length) h).2,Xz,Xz]
theorem zgf (z:TypeId) (base:Nat) (v:Xq) (l:List α) (d:zb E base w v l) (g:Nat) (t:v.ownBlock=Xa g) (a b h:Nat) (ad:Addr) (e k:Nat)
  (m:List α) (x:m.length=Nat.min e b) (j:Zh w ad (m.flatMap E.enc)) (c:a+m.length<=l.length):
  ∃w',(Builtin.copy_ #[E.st,E.st] z #[O (Xa ⟨g,a*E.k,Xb⟩) b h,O (Xa ad) e k]).run prog w= .ok (goInt m.length) w'/\zb E base w' v (l.take a++(m++l.drop (a+m.length)))/\w.grownBy w' (Xa g)/\w'.heap.size=w.heap.size:=by
 obtain⟨A,u,_,n,_⟩:=info_parts E.aD;have i:(m.flatMap E.enc).length=m.length*E.k:=qD E m;have f:a*E.k+(m.flatMap E.enc).length<=l.length*E.k:=by
  rw[i,<-Od];exact Yj _ c
 obtain⟨w',y,p,r,s⟩:=Zt (P:=prog) d.1 t (a*E.k) (m.flatMap E.enc) f (qQ E.one m);have q:=run_loadCells_list (P:=prog) w ad (m.flatMap E.enc) j;rw[i]at q;rw[zk1 m l a c]at p;have hlen:(l.take a++(m++l.drop (a+m.length))).length=l.length:=by simp;omega
 refine⟨w',?_,⟨by rw[hlen];exact p,by rw[hlen];exact d.2⟩,r,s⟩;simp[Builtin.copy_,run_underlying E.bI,Builtin.lenOf,Builtin.firstCells,sizeOf,typeInfo,u,n,<-x,q,y]
theorem Qt (q:o.guard=Xb) (d s:Operand) (C:o.op= .call { callee:= .builtin .copy,args:=#[d,s],argTypes:=#[E.st,E.st] })
  (base:Nat) (v:Xq) (l:List α) (j:zb E base w v l) (g:Nat) (A:v.ownBlock=Xa g) (c b f:Nat) (r:Addr) (hd:a.eval d= O (Xa r) b f) (p:r=⟨g,c*E.k,Xb⟩) (ad:Addr) (e h:Nat) (D:a.eval s= O (Xa ad) e h)
  (m:List α) (B:m.length=Nat.min e b) (n:Zh w ad (m.flatMap E.enc)) (i:c+m.length<=l.length)
  (t:∀w',zb E base w' v (l.take c++(m++l.drop (c+m.length)))->w.grownBy w' (Xa g)->w'.heap.size=w.heap.size->wpList prog ops Q K (a.put o.dst (goInt m.length)) w'):wpList prog ops Q (o :: K) a w:=by subst p;refine wpList_plain q fun rest z=>?_;obtain⟨w',k,u,x,y⟩:=zgf o.type base v l j g A c b f ad e h m B n i;unfold Oper.wp;simp[execOp,C,resolve,invoke,builtin,hd,D,k,Result.andThen];exact z _ _ (t w' u x y)
end
theorem zh2 (v) (fs:List Int) (b:Int) (w) (x:zr blE w v fs):
  Xp prog 213 #[v,I6 b] w fun e w'=>(∃z:Int,e= Xl (I6 z)/\decide (0<=z)=fs.contains b)/\zc w w':=by
 have k:=x.short;obtain⟨K,M,rfl,d⟩:=x.aV;have C:=dD d;clear d x;obtain⟨n,s⟩:=kA fs.length;rw[s.out]at k⊢;obtain⟨i,c⟩:=kA (fs.contains b);rw[c.out];go_enter func213,ntmps213;go_wp2;go_loopg [5,8] n (fun D _ H wr=>∃a:Nat,a<=n/\n - a<=D/\H=I6 a/\Xo (zc w wr)/\Xo (∀(j:Nat) q,j<a->fs[j]? =Xa q->¬b=q))
 exact⟨0,nZ _,Wm,rfl,zc.refl w,fun j q l=>absurd l (nL _)⟩;obtain⟨a,F,P,rfl,p,A⟩:=hrel;by_cases f:a<n
 ·have m:=kC f
  obtain⟨q,t⟩:∃q,Xo (fs[a]? =Xa q):=⟨_,gE (Rx s.out f)⟩;obtain⟨L,rfl,y⟩:=C.out a q t.out;have N:=y wr p.out;clear y;by_cases h:b=q
  ·have u:(b == q)=Xc:=Si h
   have r:Xo (decide (0<=(a:Int))=i):=dD<|by
    rw[<-c.out,h,Yu.2 (mG t.out)];simp
   clear h;go_wp2;go_ret;exact⟨⟨_,rfl,r⟩,p⟩
  have u:(b == q)=Xd:=Si h;have B:Xo (∀(j:Nat) q,j<a+1->fs[j]? =Xa q->¬b=q):=dD<|fun j G l g=>by
   by_cases e:j=a;·subst e;rw[t.out]at g;cases g;exact h
   exact A j G Wm g
  clear h;go_wp2;go_roundg (n -(a+1));exact⟨a+1,Wm,Wm,Gn,p,B⟩;omega
 have m:=kD f;have:a=n:=Wm;subst this;have r:Xo (decide (0<=(-1:Int))=i):=dD<|by
  have:fs.contains b=Xd:=by
   cases E:fs.contains b with
   | false=>rfl
   | true=>
    obtain⟨j,l⟩:=Ye (Yu.1 E);exact absurd rfl (A j b (by rw[<-s.out];exact(gS.1 l).1) l)
  rw[<-c.out,this];rfl
 go_wp2;go_ret;exact⟨⟨_,rfl,r⟩,p⟩
theorem zeP (v) (fs:List Int) (b:Int) (w) (c:zr blE w v fs):
  Xp prog 211 #[v,I6 b] w fun e w'=>e= Xl (Xh (fs.contains b))/\zc w w':=by have a:=zh2 v fs b w c;obtain⟨d,d,rfl,_⟩:=c.aV;clear c;generalize fs.contains b=c at a⊢;generalize fs.length=n at a⊢;go_enter func211,ntmps211;go_wp2_with fail;refine a.mono ?_;rintro e c ⟨⟨z,rfl,d⟩,c⟩;have f:=dD c;clear c a;have a:=dD d;clear d;go_wp2;go_ret;exact⟨by rw[<-a.out];rfl,f⟩
theorem zqA (f:Fl) (g) (h:Nat) (b:Int) (p:Nat) (w) (k:Box w p [I6 b]) (q:zr blE w (O g f.bl.length h) f.bl):
  Xp prog 210 #[Xi #[I6 f.size,O g f.bl.length h],Xj (Xa ⟨p,0,Xb⟩)] w fun e w'=>e= Xl (Xh (f.bl.contains b))/\zc w w':=by have j:∀W,zc w W->Xp prog 211 #[O g f.bl.length h,I6 b] W fun e w'=>e= Xl (Xh (f.bl.contains b))/\zc W w':=fun W c=>zeP _ f.bl b W (q.aA c);have l:=k.lt;have c:p≠w.heap.size:=Wm;have c:w.heap.size≠p:=Wm;obtain⟨c,c⟩:=kB (w.alloc (Xk #[I6 f.size,O g f.bl.length h] 84));have d:=gA c;have m:=(k.aA d).c 0 rfl;have n:(w.alloc (Xk #[I6 f.size,O g f.bl.length h] 84)).cell? ⟨p,0,Xb⟩=Xa (I6 b):=Rx c m;have i:=dD c;clear c q k;generalize f.bl.contains b=c at j⊢;generalize f.bl.length=k at*;generalize f.size=q at*;have c:=World.cell?_of_block (w:=w) (w':=w.alloc (Xk #[I6 q,O g k h] 84)) (a:=⟨p,0,Xb⟩) (Below.heap_alloc _ _ _ l);rw[n]at c;have g:=c.symm;clear m n c;go_enter func210,ntmps210;go_wp2_with fail;rw[i.out];refine(j _ d).mono ?_;rintro e c ⟨rfl,c⟩;have g:=dD (d.trans c);clear c j;go_wp2;go_ret;exact⟨rfl,g⟩
theorem zgE (v fs) (b:Int) (p:Nat) (w) (d:Box w p [I6 b]) (f:qE w v fs):
  Xp prog 214 #[v,.func (.func 210) #[] #[Xj (Xa ⟨p,0,Xb⟩)]] w fun e w'=>(∃z:Int,e= Xl (I6 z)/\decide (0<=z)=z4 fs b)/\zc w w':=by
 obtain⟨a,c,rfl,c,a⟩:=f.rows;have s:=dD a;have l:=dD d;have g:=enters_of func210 Kr rfl;clear a f d;obtain⟨n,u⟩:=kA fs.length;rw[u.out]at c⊢;obtain⟨k,d⟩:=kA (z4 fs b);rw[d.out];go_enter func214,ntmps214;go_wp2;go_loopg [5,8] n (fun a _ f wr=>∃c:Nat,c<=n/\n - c<=a/\f=I6 c/\Xo (zc w wr)/\Xo (∀(j:Nat) (q:Fl),j<c->fs[j]? =Xa q->q.bl.contains b=Xd))
 exact⟨0,nZ _,Wm,rfl,zc.refl w,fun j q m=>absurd m (nL _)⟩;obtain⟨c,a,a,rfl,h,A⟩:=hrel;by_cases f:c<n
 ·have r:=kC f
  obtain⟨q,x⟩:∃q,Xo (fs[c]? =Xa q):=⟨_,gE (Rx u.out f)⟩;obtain⟨a,rfl,t,y,g,i⟩:=s.out c q x.out;obtain⟨a,a⟩:=i wr h.out;have a:=zqA q t y b p wr (l.aA h) (g.aA h);clear i g;cases i:q.bl.contains b with
  | true=>
   rw[i]at a;have t:Xo (decide (0<=(c:Int))=k):=dD<|by
    rw[<-d.out];unfold z4;rw[zq3 x.out i];simp
   clear i;go_wp2_with fail;refine a.mono ?_;rintro e z ⟨rfl,l⟩;have s:=dD (h.trans l);clear l a;go_wp2;go_ret;exact⟨⟨_,rfl,t⟩,s⟩
  | false=>
   rw[i]at a;have y:Xo (∀(j:Nat) (q:Fl),j<c+1->fs[j]? =Xa q->q.bl.contains b=Xd):=dD<|fun j B m g=>by
    by_cases e:j=c;·subst e;rw[x.out]at g;cases g;exact i
    exact A j B Wm g
   clear i;go_wp2_with fail;refine a.mono ?_;rintro e z ⟨rfl,l⟩;have s:=dD (h.trans l);clear l a;go_wp2;go_roundg (n -(c+1));exact⟨c+1,Wm,Wm,Gn,s,y⟩;omega
 have r:=kD f;have:c=n:=Wm;subst this;have t:Xo (decide (0<=(-1:Int))=k):=dD<|by
  rw[<-d.out];unfold z4;rw[zq2 (fun j q m=>A.out j q (by rw[<-u.out];exact(gS.1 m).1) m)];rfl
 go_wp2;go_ret;exact⟨⟨_,rfl,t⟩,h⟩
theorem zdp (v fs) (b:Int) (p:Nat) (w) (d:Box w p [I6 b]) (c:qE w v fs):
  Xp prog 212 #[v,.func (.func 210) #[] #[Xj (Xa ⟨p,0,Xb⟩)]] w fun e w'=>e= Xl (Xh (z4 fs b))/\zc w w':=by have a:=zgE v fs b p w d c;obtain⟨f,f,rfl,_⟩:=c.rows;clear c d;generalize z4 fs b=c at a⊢;generalize fs.length=n at a⊢;go_enter func212,ntmps212;go_wp2_with fail;refine a.mono ?_;rintro e c ⟨⟨z,rfl,d⟩,c⟩;have f:=dD c;clear c a;have a:=dD d;clear d;go_wp2;go_ret;exact⟨by rw[<-a.out];rfl,f⟩
def ZE (fs:List Fl) (k:Nat):List Int:=((Oa k).filter fun(b:Nat)=>!z4 fs (b:Int)).map fun(b:Nat)=>(b:Int)
theorem zjo (fs) (k:Nat):ZE fs (k+1)=if z4 fs (k:Int)=Xc then ZE fs k else ZE fs k++ [(k:Int)]:=by
 unfold ZE;rw[List.range_succ,List.filter_append];cases h:z4 fs (k:Int)with
 | true=>simp[h]
 | false=>simp[h]
theorem zlp (fs) (n:Nat):ZE fs n=(Q1 fs (n:Int)).map fun(b:Nat)=>(b:Int):=by unfold ZE Q1;rw[tN]
theorem zlo (fs) (k:Nat):(ZE fs k).length<=k:=by unfold ZE;rw[Yk];exact nT (Yt _ _) Sm
theorem zkl (v fs) (m:Nat) (a:m<=80) (w:Xn) (c:qE w v fs):
  Xp prog 209 #[Xi #[v,I6 (m:Int)]] w fun e w'=>∃b,e= Xl b/\zb blE (w.heap.size+1) w' b (ZE fs m)/\zc w w':=by
 have f:=dD c;obtain⟨d,g,rfl,a,_⟩:=c.rows;clear c;obtain⟨n,c⟩:=kA fs.length;rw[c.out]at a f⊢;have a:∀(c:Fn) (first a:Array Xq) (w:Xn),(Instr.makeFunc c first a).run prog w= .ok (.func c first a) w:=fun _ _ _ _=>rfl;obtain⟨B,a⟩:=kB (w.alloc (Xk #[O d n g,I6 (m:Int)] 37));have j:=gA a;have s:=xA a;have k:=sA a;have c:=dD a;clear a;go_enter func209,ntmps209;go_wp2;rw[c.out];go_loopg [3,4,5,8] m (fun a d _ _ g wr=>∃(c:Nat) (p:Option Addr) (q:Nat),c<=m/\m - c<=a/\g=I6 c/\d= .slice p (ZE fs c).length q/\Xo (zc B wr)/\Xo (zb blE (w.heap.size+1) wr (.slice p (ZE fs c).length q) (ZE fs c)))
 exact⟨0,Xb,0,nZ _,Wm,rfl,rfl,zc.refl _,zb.nil _ _ _⟩;obtain⟨c,p,q,a,a,rfl,rfl,h,A⟩:=hrel;by_cases l:c<m
 ·have n:=kC l
  obtain⟨g,d⟩:=kB (wr.alloc (Xk #[I6 (c:Int)] 3));have i:=gA d;have r:=xA d;have a:=zdp _ fs (c:Int) wr.heap.size g r (f.aA ((j.trans h).trans i));have z:=dD (A.aA i);have g:=dD d;have f:=zjo fs c;have F:=dD<|zlo fs c;clear d;go_upto_region 5 with fail;rw[g.out];have C:=(s.aA (h.trans i)).c 0 rfl;have D:=(s.aA (h.trans i)).c 1 rfl;have g:=dD r.lt;obtain⟨d,d⟩:=kB wr.heap.size;rw[d]at a r g⊢;clear d;cases x:z4 fs (c:Int)with
  | true=>
   rw[x]at a f;rw[kE rfl]at f;have d:=dD f;clear f x;go_wp2_with fail;refine a.mono ?_;rintro e u ⟨rfl,g⟩;have s:=dD ((h.trans i).trans g);have t:Xo (zb blE (w.heap.size+1) u (.slice p (ZE fs (c+1)).length q) (ZE fs (c+1))):=show zb _ _ _ _ _ by rw[d.out];exact z.aA g
   have y:Xo ((ZE fs (c+1)).length=(ZE fs c).length):=dD (by rw[d.out]);rw[<-y.out];clear g a C D;go_wp2;go_roundg (m -(c+1));exact⟨c+1,p,q,Wm,Wm,Gn,rfl,s,t⟩;omega
  | false=>
   rw[x]at a f;rw[kF Dc]at f;have d:=dD f;clear f x;go_wp2_with fail;refine a.mono ?_;rintro e u ⟨rfl,g⟩;have s:=dD ((h.trans i).trans g);have t:=dD (z.aA g);have f:=(r.aA g).c 0 rfl;clear g a C D;have a:Xo (w.heap.size+1<=u.heap.size):=show _<=_ by
    have:=bS s.out;rw[k.out]at this;exact this
   go_wp2_with (at_builtin;refine zy (E:=blE) rfl (.tmp 17) (.tmp 19) rfl (w.heap.size+1) _ (ZE fs c) rfl (t.aA (za _ _)) _ [(c:Int)] rfl (Zw blE u (c:Int) _ _ rfl (by show 8<=_;omega)) ?qb ?qc ?_)
   case qb=>
    have:=F.out;show(_+1)*8<=_;omega
   case qc=>simp;have:=a.out;omega
   intro a p a f;obtain⟨g,i,rfl⟩:=a.form;have r:Xo (zb blE (w.heap.size+1) p (.slice g (ZE fs (c+1)).length i) (ZE fs (c+1))):=dD<|Rx d.out a
   have q:Xo (zc B p):=dD<|z2 (s.trans (za _ _)) f (fun p u=>by
    have s:=(t.lt p u).1;rw[k.out];exact s)
   rw[<-d.out];clear a f;go_wp2;go_roundg (m -(c+1));exact⟨c+1,g,i,Wm,Wm,Gn,rfl,q,r⟩;omega
 have n:=kD l;have:c=m:=Wm;subst this;have a:=dD (j.trans h);go_wp2;go_ret;exact⟨_,rfl,A,a⟩
def zoq (fs:List Fl) (cnt k:Int):Int:=if stW fs cnt=0 then(if inL fs.length k=Xc then 0 else 5)else stW fs cnt
theorem zg8 (v fs) (a k:Int) (w) (m:qE w v fs):
  Xp prog 208 #[Xi #[v,I6 a],I6 k] w fun e w'=>e= Xl (I6 (zoq fs a k))/\zc w w':=by
 have i:∀W,zc w W->Xp prog 128 #[Xi #[v,I6 a]] W fun e w'=>e= Xl (I6 (stW fs a))/\zc W w':=fun W t=>zdK v fs a W (m.aA t);obtain⟨r,s,rfl,q,_⟩:=m.rows;clear m;have d:Xo (zoq fs a k=if stW fs a=0 then(if inL fs.length k=Xc then 0 else 5)else stW fs a):=rfl;have c:∀W,Xp prog 155 #[I6 k,I6 (fs.length:Int)] W fun e w'=>e= Xl (Xh (inL fs.length k))/\w'=W:=fun W=>zeU k _ W;generalize zoq fs a k=Z at d⊢;generalize inL fs.length k=B at d c;generalize stW fs a=S at d i;generalize fs.length=x at*;obtain⟨z,g⟩:=kB (w.alloc (Xk #[O r x s,I6 a] 37));have b:=gA g;have p:=xA g;have h:=dD g;clear g;by_cases l:S=0
 ·rw[kE l]at d;subst l;cases B with
  | true=>
   rw[kE rfl]at d;go_enter func208,ntmps208;go_wp2_with fail;rw[h.out];refine(i _ b).mono ?_;rintro e n ⟨rfl,f⟩;have j:=dD (b.trans f);have y:=(p.aA f).c 0 rfl;clear f i;go_wp2_with (go_at_call 155;refine(c _).mono ?_;rintro e w' ⟨rfl,rfl⟩)
   go_ret;exact⟨Rr d.out,j⟩
  | false=>
   rw[kF Dc]at d;go_enter func208,ntmps208;go_wp2_with fail;rw[h.out];refine(i _ b).mono ?_;rintro e n ⟨rfl,f⟩;have j:=dD (b.trans f);have y:=(p.aA f).c 0 rfl;clear f i;go_wp2_with (go_at_call 155;refine(c _).mono ?_;rintro e w' ⟨rfl,rfl⟩)
   go_ret;exact⟨Rr d.out,j⟩
 rw[kF l]at d;have u:(S != 0)=Xc:=Si l;go_enter func208,ntmps208;go_wp2_with fail;rw[h.out];refine(i _ b).mono ?_;rintro e n ⟨rfl,f⟩;have j:=dD (b.trans f);clear f i;go_wp2;go_ret;exact⟨Rr d.out,j⟩
def zrU (f s b:Int):Ma:=⟨Xr f.toNat frF,0,Xr s.toNat 0,Xr s.toNat zq,[],Xr b.toNat zq,[],[],b,[],[⟨Xc,[],qU⟩]⟩
theorem zL {e:Func} {p u c:Tmp} (h:e.results=#[.cell p t,.tmp u,.tmp c]) (a:Array Xq) (hp:a.getD p undef= Xj (Xa ⟨b,0,Xb⟩)) (f:Box w b vs) {d:TypeDesc} (g:Tryz.prog.underlying t=Xa d) (hd:d.isRow=Xc) (hi:(Tryz.prog.info? t).map (·.size)=Xa vs.length):
  (results e a).run prog w= .ok (Xm #[Xi vs.toArray,a.getD u undef,a.getD c undef]) w:=by have e:a[p]?.getD undef= Xj (Xa ⟨b,0,Xb⟩):=Si hp;have a:=run_loadVar_mid (P:=prog) w b 0 t vs d f.range g hd hi;simp[results,h,e,asAddr,a]
theorem znS (h:(k:Int)<=z\/k=0):QG L 0 z k=L:=by unfold QG;apply Xx;grind
theorem znT (l) (idx a:Int):Z7 l 0 (a - idx*8)=Z7 l idx a:=by grind [Z7]
theorem zeb (l:List Int) (n:Int) (w) (f:l.length=8) (a:-9223372036854775808<=n) (b:n<=9223372036854775807):
  Xp prog 162 #[Xi (pgc l).toArray,I6 n] w fun e w'=>e= Xl (Xi (pgc (Z7 l 0 n)).toArray)/\(Z7 l 0 n).length=8/\zc w w':=by
 have h:=dD f;have a:Xo ((Z7 l 0 n).length=8):=show _=_ by unfold Z7;simp[f]
 obtain⟨c,b⟩:=kB ((w.alloc (Xk (pgc l).toArray 44)).alloc (Xk #[U8 0,U8 0,U8 0,U8 0,U8 0,U8 0,U8 0,U8 0] 44));have g:=gD2 b;have i:=x2a b;have p:Xo (Box c (w.heap.size+1) (pgc zq)):=dD<|by rw[<-b];exact Box.aE _ (pgc zq) _ Sm
 have d:=dD b;have m:Xo (Box c w.heap.size (pgc (QG l 0 n n.toNat))):=show Box _ _ _ by rw[znS Wm];exact i.out
 obtain⟨j,c⟩:=kA (Z7 l 0 n);rw[c.out]at a⊢;clear b f;go_enter func162,ntmps162;go_upto_region 1 with fail;rw[d.out];go_wp2;all_goals
  go_loopg [5] 8 (fun b d wr=>∃k:Nat,n<=(k:Int)/\(k:Int)<=9223372036854775807/\8 - k<=b/\d=I6 k/\Xo (zc w wr)/\Xo (Box wr w.heap.size (pgc (QG l 0 n k)))/\Xo (Box wr (w.heap.size+1) (pgc zq)))
  case atStart=>
   exact⟨n.toNat,Wm,Wm,Wm,(by first | rw[Int.toNat_eq_max] | (congr 1;omega) | (congr 1;rw[Int.max_def];split <;> omega) | (congr 1;split <;> omega)),g,m,p⟩
  obtain⟨k,b,b,b,rfl,m,d,p⟩:=hrel;by_cases f:k<8
  ·have g:(k:Int)<8:=Wm
   obtain⟨z,b⟩:∃z,(QG l 0 n k)[k]? =Xa z:=⟨_,gE (by rw[zio,h.out];exact f)⟩;have s:=d.c k (zhC b);have t:=d.f;clear b;go_wp2;obtain⟨i,b⟩:=kB (wr.setCell ⟨w.heap.size,k,Xb⟩ (U8 0));have q:Xo (Box i w.heap.size (pgc (QG l 0 n (k+1)))):=dD (by rw[<-b,<-zip (Rx h.out f) Wm,zea];exact d.set k _);have r:Xo (Box i (w.heap.size+1) (pgc zq)):=dD (by rw[<-b];exact p.other Sm _);have f:Xo (zc w i):=dD (by rw[<-b];exact zB m Sm _);rw[b];clear b s t;go_roundg (8 -(k+1));exact⟨k+1,Wm,Wm,Wm,Gn,f,q,r⟩;omega
  have g:¬(k:Int)<8:=Wm;have b:Xo (QG l 0 n k=j):=dD (by rw[ziq (by rw[h.out];omega),c.out]);rw[b.out]at d;go_wp2_with (first | refine zD rfl 44 (.tmp 2) rfl w.heap.size rfl d underlying44 rfl (by rw[ZZ,a.out];exact zsB) ?_ | refine zp rfl 44 (.tmp 4) (.tmp 14) rfl (w.heap.size+1) rfl (pgc j) rfl p (by rw[ZZ,a.out];rfl) zsB (qJ _) ?_)
  intro f c d _;have b:Xo (zc w f):=dD<|zd m d Wm;go_wp2;refine bodyPost_ret (z8 rfl _ rfl c underlying44 rfl (by rw[ZZ,a.out];exact zsB)) rfl ⟨rfl,a,b⟩
theorem zN.bL (d p x) (g:o.op= .store d p x) (b:Nat) (hp:a.eval p= Xj (Xa ⟨b,0,Xb⟩)) (vs:List Xq) (j:a.eval x= Xi vs.toArray)
  {t:TypeId} {cs:List Xq} (e:zt w b t cs) (c:vs.length=cs.length) (hi:(Tryz.prog.info? d).map (·.size)=Xa cs.length) (f:∀v∈vs,v.oneCell'=Xc)
  (h:∀w',zt w' b t vs->w.grownBy w' (Xa b)->w'.heap.size=w.heap.size->M undef w'):zN prog o a w M:=by
 unfold zN;have i:(execOp a.eval o).run prog w= .ok .skip (w.setCells b 0 vs):=by
  have:=run_storeAt_mid (P:=prog) w b 0 d vs.toArray (by simpa [c]using e.box.there) (by simpa [c]using hi) (all_oneCell_toArray f);simp only[execOp,g,hp,j,Xs,this,rA,Xy]
 rw[i];have hp:=e.part (ds:=vs) (o:=0) Wm;rw[za2 c]at hp;exact h _ hp (zT b vs 0 w).1 (zT b vs 0 w).2
theorem zeK (a:∀p∈m.db,p.length=8) (b:∀q∈m.dq,q.2.length=8) (file idx:Int):(Qr m file idx).length=8:=by
 unfold Qr;split;·rfl
 grind [Z7,zfr]
theorem zpz {f:Fl} (d:m.fl[fi]? =Xa f) (b:f.bl[ix]? =Xa z):Qr m fi ix=if z<0 then zq else Z7 (qN m.db m.dq z) ix f.size:=by
 have c:m.fl.getD ((fi:Int).toNat) ⟨0,[]⟩=f:=by rw[tN,gD,d];rfl
 have d:zgV m fi ix=z:=by unfold zgV;rw[c,tN,gD,b];rfl
 have z:JF m fi=f.size:=by unfold JF;rw[c]
 unfold Qr;rw[d,z]
theorem zqC {f:Fl} (b:N[fi]? =Xa f) (a:f.bl[ix]? =Xa z):zos N fi ix=Xc:=by
 have z:=(gS.1 b).1;have z:=(gS.1 a).1;have a:N.getD ((fi:Int).toNat) ⟨0,[]⟩=f:=by rw[tN,gD,b];rfl
 unfold zos;rw[a,Jd.2 ⟨Wm,Wm⟩,Jd.2 ⟨Wm,Wm⟩];rfl
theorem zdV (V) (m:Ma) (fi ix:Nat) (f:Fl) (d:Int) (w) (g:zP w V m) (x:m.fl[fi]? =Xa f) (b:f.bl[ix]? =Xa d) (a:ix<=1000) (H:0<=f.size/\f.size<=1000):
  Xp prog 138 #[Xi (mL V m).toArray,I6 (fi:Int),I6 (ix:Int)] w fun e w'=>e= Xl (Xi (pgc (Qr m fi ix)).toArray)/\(Qr m fi ix).length=8/\zc w w':=by
 have l:=dD<|fun W (a:zc w W)=>zkd _ m.db m.dq d W ⟨_,_,rfl,(g.aA a).db,(g.aA a).dq⟩;have r:Xo (∀W,zc w W->Xp prog 108 #[Xi #[V.fl.x,I6 m.cnt],I6 (fi:Int),I6 (ix:Int)] W fun e w'=>e= Xl (Xh Xc)/\zc W w'):=dD<|fun W a=>by
  have:=zbD (V.fl.x) m.fl m.cnt fi ix W (g.aA a).fl;rw[zqC x b]at this;exact this
 have u:Xo ((qN m.db m.dq d).length=8):=zfr g.db.2.1 g.dq.2.1;have j:Xo ((Qr m fi ix).length=8):=zeK g.db.2.1 g.dq.2.1 _ _;have a:=dD<|zpz x b;obtain⟨a6,c⟩:=kA (Qr m fi ix);rw[c.out]at a j⊢;obtain⟨⟨X,Z,Y⟩,a0,L,N,S,T,⟨h,k,F⟩,⟨C,E,D⟩,M⟩:=V;dsimp only[mL]at l r⊢;obtain⟨-,-,-,-,-,-,K,-,-⟩:=g.ns;dsimp only at K;obtain⟨_,_,q,_,z⟩:=qE.rows g.fl;have c:Xo (za0 w h m.fl):=show za0 _ _ _ by
  simp only[vJ]at q;rw[q.1];exact z
 have h:fi<k:=by rw[K];exact(gS.1 x).1
 obtain⟨R,rfl,P,U,t,y⟩:=c.out fi f x;have i:=dD y;obtain⟨_,_,p,s⟩:=t.aV;have G:=(gS.1 b).1;obtain⟨n,h,c⟩:=s ix d b;have B:Xo (P=Xa n/\∀W,zc w W->W.cell? (n.add ix)=Xa (I6 d)):=dD<|⟨by simp only[vJ]at p;rw[p.1];exact h,c⟩;obtain⟨Q,A⟩:=kA f.bl.length;rw[A.out]at G i;clear g K q z x b y t p s h c;obtain⟨a5,b⟩:=kA f.size;rw[b.out]at i a H;have b:(fi:Int)< (k:Int):=Wm;have b:(ix:Int)< (Q:Int):=Wm;obtain⟨s,b⟩:=kB ((w.alloc (Xk #[O X Z Y,I6 m.aB,a0.x,L.x,N.x,S.x,T.x,O (Xa R) k F,I6 m.cnt,O C E D,M.x] 41)).alloc (Xk #[U8 0,U8 0,U8 0,U8 0,U8 0,U8 0,U8 0,U8 0] 44));have q:=gD2 b;have h:=x2a b;have t:Xo (Box s (w.heap.size+1) (pgc zq)):=dD<|by rw[<-b];exact Box.aE _ (pgc zq) _ Sm
 have g:=dD b;clear b;go_enter func138,ntmps138;go_upto_region 1 with fail;rw[g.out];have p:=h.c 7 rfl;have g:=h.c 8 rfl;have b:=r.out s q.out;go_wp2_with fail;refine b.mono ?_;clear b p g;rintro W k ⟨rfl,b⟩;have r:=dD (q.trans b);have q:=dD (h.aA b);have s:=dD (t.aA b);clear b;have p:=q.c 7 rfl;obtain⟨t,y⟩:=i.out k r.out;go_upto_region 4 with fail;obtain⟨b,g⟩:=kA k.heap.size;refine nW fun h b=>?_;have i:=gP b;have X:=xP b g;have A:=dD (r.trans i);have x:=dD (q.aA i);have a2:=dD (s.aA i);rw[g.out];clear b i t y p;obtain⟨b,c⟩:=B.out;subst b;have b:=dD c;clear c;have p:=X.c 1 rfl;have i:=b.out h A.out;by_cases c:d<0
 ·rw[kE c]at a
  go_wp2_with (refine zp rfl 44 (.tmp 6) (.tmp 29) rfl (w.heap.size+1) rfl (pgc zq) rfl a2 rfl zsB (qJ _) ?_)
  intro Y s t _;have k:Xo (zc w Y):=dD<|zd A t Wm;go_wp2;refine bodyPost_ret (z8 rfl _ rfl s underlying44 rfl zsB) rfl ⟨by rw[a.out],Rr a.out,k⟩
 rw[kF c]at a;have g:decide (d<0)=Xd:=decide_eq_false c;go_upto_region 6 with fail;clear p i c g;obtain⟨p,c⟩:=kA (qN m.db m.dq d);rw[c.out]at a u l;obtain⟨H,K,L,M,N,P,Q,R,rfl⟩:=zc4 p u.out;obtain⟨g,c⟩:=Ww fun u=>zc h u;have r:=(c _).2 (gW _);have F:=x.h c 5 rfl;have G:=x.h c 6 rfl;have D:=X.h c 1 rfl;have C:∀y:zg g,y.world.cell? (n.add ix)=Xa (I6 d):=fun y=>b.out _ (A.trans ((c _).1 y.holds));have a0:Nonempty (zg g):=⟨⟨_,r⟩⟩;refine zaw (I:=g) 14 [(7,⟨.const (Xh Xd),fun b=>b= Xm #[Xi #[U8 H,U8 K,U8 L,U8 M,U8 N,U8 P,U8 Q,U8 R],I6 (zn m.db.length m.dq d)],fun _ _ _=>True,fun p q=>zc p q,fun _=>True⟩),(11,⟨.const (Xh Xd),fun b=>∃g,b= Xj (Xa ⟨g,0,Xb⟩),fun _ b u=>∃g x,b= Xj (Xa ⟨g,0,Xb⟩)/\h.heap.size<=g/\zt u g 44 x/\x.length=8,fun p q=>zc p q,fun _=>True⟩),(12,⟨.tmp 8,fun _=>True,fun W _ u=>∃g,W= Xj (Xa ⟨g,0,Xb⟩)/\h.heap.size<=g/\Box u g (pgc [H,K,L,M,N,P,Q,R]),fun p q=>∃g,h.heap.size<=g/\p.grownBy q (Xa g)/\zt q g 44 (pgc [H,K,L,M,N,P,Q,R]),fun _=>True⟩)] r z3 Kr Kr rfl rfl Dc (Sc ⟨_,rfl⟩ ⟨_,0,rfl⟩ ⟨Xh Xc,trivial⟩) ?hp ?hpre ?hpr0 ?_;case hp=>
  intro a1 aa a7 a4 u U n h W b p q i E;have h:=zC u;have b:=zC U;clear u U;simp only[mC,pJ,nM,or_false]at h b;rcases h with⟨rfl,rfl⟩|⟨rfl,rfl⟩|⟨rfl,rfl⟩;·trivial
  ·obtain⟨g,x,y,z,B,a3⟩:=E
   rcases b with⟨rfl,rfl⟩|⟨rfl,rfl⟩|⟨rfl,rfl⟩;·exact⟨g,x,y,z,B.aA i,a3⟩
   ·exact absurd rfl n
   obtain⟨Z,a8,a8,a9⟩:=i;by_cases e:g=Z;·subst e;exact⟨g,_,y,z,a9,rfl⟩
   exact⟨g,x,y,z,B.beside a8 (fun a1 u=>by cases u;exact e),a3⟩
  obtain⟨g,y,z,B⟩:=E;rcases b with⟨rfl,rfl⟩|⟨rfl,rfl⟩|⟨rfl,rfl⟩;·exact⟨g,y,z,B.aA i⟩
  ·exact⟨g,y,z,B.aA i⟩
  exact absurd rfl n
 case hpre=>
  intro a7 a4 a1 aa U u n p q i i;have b:=zC U;simp only[mC,pJ,nM,or_false]at b;rcases b with⟨rfl,rfl⟩|⟨rfl,rfl⟩|⟨rfl,rfl⟩ <;> trivial
 case hpr0=>
  intro a1 a4 u;have h:=zC u;simp only[mC,pJ,nM,or_false]at h;rcases h with⟨rfl,rfl⟩|⟨rfl,rfl⟩|⟨rfl,rfl⟩ <;> trivial
 simp only[Xv,Xw];iterate 7 refine Qf ?_
 refine Zy rfl rfl (fun w' b i n=>?_) (fun q h=>?_);·refine zN.call [Xi #[S.x,T.x],I6 d] rfl func106 rfl rfl rfl ?_;refine(l w' (A.trans ((c _).1 b))).mono ?_;rintro e p ⟨rfl,d⟩;exact⟨_,rfl,(c _).2 (((c _).1 b).trans d),d,rfl,trivial⟩
 subst h;refine Uq ?_;iterate 3 refine Qf ?_
 refine Zy rfl rfl (fun w' b i n=>?_) (fun q h=>?_);·refine zN.step (v:= Xj (Xa ⟨w'.heap.size,0,Xb⟩)) (w':=w'.alloc (Xk #[U8 0,U8 0,U8 0,U8 0,U8 0,U8 0,U8 0,U8 0] 44)) (by clear F G D C;simp only[execOp];go_simp) ⟨(c _).2 (((c _).1 b).trans (za _ _)),za _ _,⟨_,rfl⟩,_,_,rfl,bS ((c _).1 b),zt.aE _ (pgc zq) _ rfl,rfl⟩
 obtain⟨l,rfl⟩:=h;refine Uq ?_;refine Zy rfl rfl (fun w' b i n=>?_) (fun q h=>?_)
 ·obtain⟨g,x,g,d,h,i⟩:=n 11 Kr
  simp only[Value.pointer.injEq,Option.some.injEq,Addr.mk.injEq,and_true]at g;subst g;refine zN.bL 44 (.tmp 8) (.tmp 39) rfl l rfl (pgc [H,K,L,M,N,P,Q,R]) rfl h (Rr i) (Rx i zsB) (qJ _) fun p i p q=>?_;exact⟨(c _).2 (zd ((c _).1 b) p d),⟨l,d,p,i⟩,trivial,l,rfl,d,i.box⟩
 simp only[Xu];refine Qf ?_;refine zcc fun u i n=>?_;obtain⟨Z,g,h,d⟩:=n 12;have b:(Value.pointer (Xa ⟨l,0,Xb⟩):Xq)= Xj (Xa ⟨Z,0,Xb⟩):=g;simp only[Value.pointer.injEq,Option.some.injEq,Addr.mk.injEq,and_true]at b;subst b;have b:=(c _).1 i;have p:=dD (A.trans b);have c:=dD (X.aA b);have x:=dD (a2.aA b);have q:=dD d;clear n i r a0 F G D C b g d h;have hcut:=zeb [H,K,L,M,N,P,Q,R] (a5 -(ix:Int)*8) u rfl Wm Wm;rw[znT]at hcut;rw[<-a.out]at hcut;have a:=c.c 0 rfl;go_wp2_with (refine zD rfl 44 (.tmp 8) rfl l rfl q underlying44 rfl zsB ?_)
 refine hcut.mono ?_;clear hcut a;rintro W a ⟨rfl,-,a⟩;have c:=dD (x.aA a);have b:=dD (p.trans a);clear a;go_wp2_with (refine zp rfl 44 (.tmp 6) (.tmp 47) rfl (w.heap.size+1) rfl (pgc a6) rfl c (by rw[ZZ,j.out];rfl) zsB (qJ _) ?_)
 intro Y s t _;have k:Xo (zc w Y):=dD<|zd b t Wm;go_wp2;refine bodyPost_ret (z8 rfl _ rfl s underlying44 rfl (by rw[ZZ,j.out];exact zsB)) rfl ⟨rfl,j,k⟩
theorem Jb (h:ChW w0 k w V m) (q:Nat) (t:q<m.sp.length) (n:Int):
  Xp prog 91 #[Xj (Xa ⟨k,0,Xb⟩),Xi #[I6 (q:Int),I6 n]] w fun e w'=>e= Xl (enV (JD m q n))/\zc w w':=by
 obtain⟨s,u⟩:∃s,m.sp[q]? =Xa s:=⟨_,gE t⟩;obtain⟨b,f,z,A⟩:=h.sp;obtain⟨x,d⟩:∃x,b[q]? =Xa x:=⟨_,gE (Rx z t)⟩;have g:=dD<|A q x s d u w (qH.refl _ _);obtain⟨B,a⟩:=kA b.length;obtain⟨l,C,b⟩:=f.aG Wm;rw[a.out]at b;have c:=h.box.box.c 10 rfl;rw[b]at c f;have i:(q:Int)< (B:Int):=Hm a.out;have a:=dD c;have i:=dD h.box;have a:=(f.one d).sp10;rw[Yq,zA]at a;have j:Xo (∀W,zc w W->zgY W ⟨l,q*10,Xb⟩ x):=show∀W,_ from fun W r=>by
  have:=((f.aA r).one d).sp10;rw[Yq,zA]at this;exact this
 have p:=dD b;obtain⟨E,v⟩:=kA (JD m q n);have D:Xo (∀W,zc w W->Xp prog 69 #[Xi #[x.t0.x,x.t1.x,x.t2.x,x.t3.x,x.t4.x,x.t5.x,x.t6.x,x.t7.x],I6 n] W fun e w'=>e= Xl (enV E)/\zc W w'):=show∀W,_ from fun W r=>by
  have y:=JL x.tab s.tb n W (g.tb.aA r);rw[show zfe s.tb n=E from by rw[<-v.out];unfold JD;rw[Sp.aK u]]at y;exact y
 rw[v.out];clear h t u f z A d b c a;obtain⟨s,b⟩:=kB ((w.alloc (Xk #[I6 (q:Int),I6 n] 95)).alloc (Xk #[I6 0,I6 0,Xh Xd] 55));have g:=gD2 b;have h:=x2a b;have t:=x2b b;have c:=dD b;clear b;go_enter func91,ntmps91;go_upto_region 1 with fail;rw[c.out];obtain⟨F,r⟩:=kA w.heap.size;rw[r.out]at h t⊢;obtain⟨f,b⟩:=Ww fun u=>zc s u;have c:=(b _).2 (gW _);have G:∀y:zg f,y.world.cell? ⟨k,10,Xb⟩=Xa (O (Xa ⟨l,0,Xb⟩) B C):=fun y=>by rw[<-p.out];exact(i.box.aA (g.trans ((b _).1 y.holds))).c 10 rfl
 have i:=h.h b 0 rfl;have p:=h.h b 1 rfl;have a:∀y:zg f,zgY y.world ⟨l,q*10,Xb⟩ x:=fun y=>j.out _ (g.trans ((b _).1 y.holds));have j:=fun y=>(a y).2.2.1;have l:=fun y=>(a y).2.2.2.1;have s:=fun y=>(a y).2.2.2.2.1;have v:=fun y=>(a y).2.2.2.2.2.1;have z:=fun y=>(a y).2.2.2.2.2.2.1;have A:=fun y=>(a y).2.2.2.2.2.2.2.1;have B:=fun y=>(a y).2.2.2.2.2.2.2.2.1;have C:=fun y=>(a y).2.2.2.2.2.2.2.2.2;dsimp only at j l s v z A B C;clear a;have h:Nonempty (zg f):=⟨⟨_,c⟩⟩;refine zQ (I:=f) 13 [(12,fun a=>a=enV E)] (fun u=>True) c trivial z3 Kr rfl rfl Dc (Sa ⟨_,rfl⟩) Kr ?_;simp only[Xv,Xw];refine zi ?_;refine zW (.tmp 5) ⟨k,0,Xb⟩ rfl rfl rfl rfl ?_;refine Uq ?_;iterate 10 refine zi ?_
 refine zH rfl rfl (fun _ u=>True) (fun w' a d=>?_) (fun d f=>?_);·refine zN.call [Xi #[x.t0.x,x.t1.x,x.t2.x,x.t3.x,x.t4.x,x.t5.x,x.t6.x,x.t7.x],I6 n] rfl func69 rfl rfl rfl ?_;refine(D w' (g.trans ((b _).1 a))).mono ?_;rintro e d ⟨rfl,d⟩;exact⟨_,rfl,(b _).2 (((b _).1 a).trans d),rfl,trivial⟩
 cases f;refine Uq ?_;refine qV fun a a d=>?_;have f:=dD<|(b _).1 a;have b:=dD (t.aA f);clear a d c G i p j l s v z A B C h;unfold enV;refine zp rfl 55 (.tmp 4) (.tmp 17) rfl (F+1) rfl [I6 E.kind,I6 E.n,Xh E.wr] rfl b rfl Kr (by simp[Value.oneCell']) ?_;intro c a b _;have d:Xo (zc w c):=dD<|zd (g.trans f) b (Hm r.out);have c:=dD a;clear a b;go_wp2;refine bodyPost_ret (z8 rfl _ rfl c underlying55 rfl Kr) rfl ⟨rfl,d⟩
theorem hoF (a) (c:Nat) (fs:List Fr) (h:Int) (i:Nat) (q:Fr) (u:Int) (w:Xn) (F:zr qR w (O a fs.length c) fs) (T:ZW fs h=0) (Q:fs[i]? =Xa q) (bp:(q.r == 0)=Xd) (bo:¬u< -q.r) (bf:¬1000 - q.r<u) (av:q.r+u=0):
  Xp prog 121 #[Xi #[O a fs.length c,I6 h],I6 (i:Int),I6 u] w fun e w'=>∃b,e= Xl (Xm #[Xi #[b,I6 h],I6 0])/\zb qR w.heap.size w' b (fs.set i frF)/\zc w w':=by
 have a1:=dD F;have b6:=dD av;clear av;have I:∀W,zc w W->Xp prog 125 #[Xi #[O a fs.length c,I6 h]] W fun e w'=>e= Xl (I6 (ZW fs h))/\zc W w':=fun W af=>by rw[T];exact QR a c fs h W (a1.aA af) T
 have A:∀W,Xp prog 144 #[I6 (i:Int),I6 (fs.length:Int)] W fun e w'=>e= Xl (Xh (inB (i:Int) fs.length))/\w'=W:=fun W=>Qg (i:Int) _ W;have ai:∀W,zc w W->Xp prog 46 #[Xi #[O a fs.length c,I6 h]] W fun e w'=>∃b,e= Xl (Xi #[b,I6 h])/\zb qR W.heap.size w' b fs/\zc W w':=fun W af=>JI a c fs h W (a1.aA af);have s:=zcj ((Zk T).2.1 q (mG Q));have t:=(gS.1 Q).1;obtain⟨bl,bm,ag,x⟩:=F.bA;cases ag;obtain⟨b7,rfl,au⟩:=x i q Q;have b5:=dD au;have an:=dD Q;clear x au Q;simp only[show inB (i:Int) fs.length=Xc from by simp[inB];exact t]at A;have N:=F.short;clear F;simp only[T]at I;clear T;obtain⟨y,G⟩:=kA fs.length;simp only[G.out]at I a1 N A ai t⊢;have be:(i:Int)< (y:Int):=Wm;obtain⟨bb,bc⟩:=s;obtain⟨ao,j⟩:=kB ((w.alloc (Xk #[O (Xa b7) y c,I6 h] 28)).alloc (Xk #[eS,I6 0] 28));have g:=gD2 j;have Y:=x2a j;have ap:=x2b j;have a2:=dD j;clear j;go_enter func121,ntmps121;go_upto_region 1 with fail;rw[a2.out];obtain⟨aa,ab⟩:=Y.k2;go_wp2_with fail;refine(I _ g).mono ?_;rintro e a6 ⟨rfl,aq⟩;have B:=dD aq;clear aq aa ab I;obtain⟨-,-,-,-,-,-,-,-,b8,-,-,-,-⟩:=b5.out a6 (g.trans B);obtain⟨aa,ab⟩:=(Y.aA B).k2;go_wp2_with (go_at_call 144;refine(A _).mono ?_;rintro e w' ⟨rfl,R⟩;rw[R];clear R w')
 refine(ai _ (g.trans B)).mono ?_;rintro e C ⟨b,rfl,f,ae⟩;obtain⟨l,D,rfl⟩:=f.aG (by rw[G.out];omega);rw[G.out]at f⊢;have a3:=dD f;have am:=dD (B.trans ae);have ac:=dD<|bS ae;clear f ae aa ab ai b8;have bd:=a3.lt l rfl;have bg:l≠C.heap.size:=Wm;have u8:=(a3.aA (za C (Xk #[O (Xa ⟨l,0,Xb⟩) y D,I6 h] 28))).frc an 8 rfl;go_wp2_with (refine zx (E:=qR) rfl (.tmp 61) (.tmp 59) 3 rfl a6.heap.size (O (Xa ⟨l,0,Xb⟩) y D) fs (a3.aA (za _ _)) l i 8 rfl q { q with r:=q.r+u } an.out [I6 (q.r+u)] Kr rfl (Yv rfl) (by intro bq aw;simp at aw;subst aw;rfl) _ rfl (by simp[qR]) _ rfl rfl ?_)
 intro K U n ak;have H:=dD U;have ba:=ac.out;have b9:=bS B.out;have bi:=ap.lt;have Z:Xo (Box K C.heap.size [O (Xa ⟨l,0,Xb⟩) y D,I6 h]):=(Box.aE C _ _ rfl).beside n (fun M d=>by cases d;omega);have m:Xo (Box K (w.heap.size+1) [eS,I6 0]):=((ap.aA am).alloc _).beside n (fun M d=>by cases d;omega);have b2:Xo (zc ao K):=z2 (am.trans (za _ _)) n (fun M d=>by cases d;omega);have a0:Xo ((fs.set i { q with r:=q.r+u })[i]? =Xa { q with r:=q.r+u }):=dD<|by rw[sF (Rx G.out t)]
 clear U n ak u8;have u8:=H.frc a0 8 rfl;obtain⟨ax,ay⟩:=Z.k2;obtain⟨az,b0⟩:=m.k2;have b1:=m.f;simp only at u8;have bh:(q.r+u == 0)=Xc:=by simp[b6.out]
 go_wp2;have aj:=fun X:zk K=>(Z.aA X.aA).c 0 rfl;have P:Nonempty (zk K):=⟨⟨_,zc.refl _⟩⟩;clear u8 ax ay az b0 b1;refine Zd 5 [(3,⟨fun v=>v= Xi (frv frF).toArray,fun _ _=>True⟩)] z3 Kr rfl rfl Dc ?_ ?_ ?_
 ·intro X S
  simp at S;subst S;exact⟨_,rfl⟩
 ·intro X S
  simp at S;subst S;exact fun _ _ _ _ h=>h
 simp only[Xv,Xw];iterate 3 refine zh ?_
 refine zJ rfl rfl (fun w' bn ar=>?_) (fun br F=>?_);·refine zN.call [] rfl func145 rfl rfl rfl ?_;refine(zci w').mono ?_;rintro e bj ⟨rfl,ah⟩;exact⟨_,rfl,ah,rfl,trivial⟩
 subst F;simp only[Xu,sB,sS,sZ,frv,frF,pg0];refine zh ?_;refine z7 fun bk k ar=>?_;have a4:=dD (H.aA k);have a9:=dD (Z.aA k);have a8:=dD (m.aA k);have b3:=dD (b2.trans k);clear ar aj k P;go_wp2_with (refine qB (E:=qR) rfl (.tmp 73) (.tmp 72) rfl a6.heap.size _ _ a4 l i rfl frF (by rw[Xt,G.out];exact t) _ rfl (by simp[qR]) _ rfl rfl ?_)
 intro a7 V p al;have a5:=dD V;have L:Xo (Box a7 C.heap.size [O (Xa ⟨l,0,Xb⟩) y D,I6 h]):=a9.beside p (fun M d=>by cases d;omega);have z:Xo (Box a7 (w.heap.size+1) [eS,I6 0]):=a8.beside p (fun M d=>by cases d;omega);have b4:Xo (zc ao a7):=z2 b3 p (fun M d=>by cases d;omega);clear V p al;obtain⟨ax,ay⟩:=L.k2;obtain⟨az,b0⟩:=z.k2;have b1:=z.f;go_wp2;refine bodyPost_ret (v:= Xm #[Xi #[O (Xa ⟨l,0,Xb⟩) y D,I6 h],I6 0]) (by simp[results,Tryz.results121,go_sem, *]) rfl ⟨_,rfl,?_,?_⟩;·exact((a5.setCell (a:=⟨w.heap.size+1,0,Xb⟩) (by show w.heap.size+1<_;omega) _).setCell (a:=⟨w.heap.size+1,1,Xb⟩) (by show w.heap.size+1<_;omega) _).base (Hm (bS g.out))
 exact zB (zB (g.trans b4) Sm _) Sm _
theorem hoG (a) (c:Nat) (fs:List Fr) (h:Int) (i:Nat) (q:Fr) (m:Int) (w:Xn) (M:zr qR w (O a fs.length c) fs) (D:ZW fs h=0) (B:fs[i]? =Xa q) (av:(q.r == 0)=Xd) (au:¬m< -q.r) (an:¬1000 - q.r<m) (aw:(q.r+m == 0)=Xd):
  Xp prog 121 #[Xi #[O a fs.length c,I6 h],I6 (i:Int),I6 m] w fun e w'=>∃b,e= Xl (Xm #[Xi #[b,I6 h],I6 0])/\zb qR w.heap.size w' b (fs.set i { q with r:=q.r+m })/\zc w w':=by
 have Q:=dD M;have N:∀W,zc w W->Xp prog 125 #[Xi #[O a fs.length c,I6 h]] W fun e w'=>e= Xl (I6 (ZW fs h))/\zc W w':=fun W Z=>by rw[D];exact QR a c fs h W (Q.aA Z) D
 have t:∀W,Xp prog 144 #[I6 (i:Int),I6 (fs.length:Int)] W fun e w'=>e= Xl (Xh (inB (i:Int) fs.length))/\w'=W:=fun W=>Qg (i:Int) _ W;have a0:∀W,zc w W->Xp prog 46 #[Xi #[O a fs.length c,I6 h]] W fun e w'=>∃b,e= Xl (Xi #[b,I6 h])/\zb qR W.heap.size w' b fs/\zc W w':=fun W Z=>JI a c fs h W (Q.aA Z);have l:=zcj ((Zk D).2.1 q (mG B));have u:=(gS.1 B).1;obtain⟨aq,ar,I,n⟩:=M.bA;cases I;obtain⟨af,rfl,a9⟩:=n i q B;have ac:=dD a9;have a3:=dD B;clear n a9 B;simp only[show inB (i:Int) fs.length=Xc from by simp[inB];exact u]at t;have A:=M.short;clear M;simp only[D]at N;clear D;obtain⟨y,G⟩:=kA fs.length;simp only[G.out]at N Q A t a0 u⊢;have am:(i:Int)< (y:Int):=Wm;obtain⟨aj,ak⟩:=l;obtain⟨ae,g⟩:=kB ((w.alloc (Xk #[O (Xa af) y c,I6 h] 28)).alloc (Xk #[eS,I6 0] 28));have f:=gD2 g;have K:=x2a g;have a5:=x2b g;have R:=dD g;clear g;go_enter func121,ntmps121;go_upto_region 1 with fail;rw[R.out];obtain⟨U,V⟩:=K.k2;go_wp2_with fail;refine(N _ f).mono ?_;rintro e a4 ⟨rfl,a8⟩;have x:=dD a8;clear a8 U V N;obtain⟨-,-,-,-,-,-,-,-,ag,-,-,-,-⟩:=ac.out a4 (f.trans x);obtain⟨U,V⟩:=(K.aA x).k2;go_wp2_with (go_at_call 144;refine(t _).mono ?_;rintro e w' ⟨rfl,C⟩;rw[C];clear C w')
 refine(a0 _ (f.trans x)).mono ?_;rintro e H ⟨b,rfl,d,Y⟩;obtain⟨s,L,rfl⟩:=d.aG (by rw[G.out];omega);rw[G.out]at d⊢;have S:=dD d;have a2:=dD (x.trans Y);have X:=dD<|bS Y;clear d Y U V a0 ag;have al:=S.lt s rfl;have ao:s≠H.heap.size:=Wm;have u8:=(S.aA (za H (Xk #[O (Xa ⟨s,0,Xb⟩) y L,I6 h] 28))).frc a3 8 rfl;go_wp2_with (refine zx (E:=qR) rfl (.tmp 61) (.tmp 59) 3 rfl a4.heap.size (O (Xa ⟨s,0,Xb⟩) y L) fs (S.aA (za _ _)) s i 8 rfl q { q with r:=q.r+m } a3.out [I6 (q.r+m)] Kr rfl (Yv rfl) (by intro b2 aa;simp at aa;subst aa;rfl) _ rfl (by simp[qR]) _ rfl rfl ?_)
 intro T F k a1;have z:=dD F;have ai:=X.out;have ah:=bS x.out;have ap:=a5.lt;have a6:Xo (Box T H.heap.size [O (Xa ⟨s,0,Xb⟩) y L,I6 h]):=(Box.aE H _ _ rfl).beside k (fun a7 j=>by cases j;omega);have p:Xo (Box T (w.heap.size+1) [eS,I6 0]):=((a5.aA a2).alloc _).beside k (fun a7 j=>by cases j;omega);have ab:Xo (zc ae T):=z2 (a2.trans (za _ _)) k (fun a7 j=>by cases j;omega);have P:Xo ((fs.set i { q with r:=q.r+m })[i]? =Xa { q with r:=q.r+m }):=dD<|by rw[sF (Rx G.out u)]
 clear F k a1 u8;have u8:=z.frc P 8 rfl;obtain⟨ax,ay⟩:=a6.k2;obtain⟨az,b0⟩:=p.k2;have b1:=p.f;simp only at u8;go_wp2;refine bodyPost_ret (v:= Xm #[Xi #[O (Xa ⟨s,0,Xb⟩) y L,I6 h],I6 0]) (by simp[results,Tryz.results121,go_sem, *]) rfl ⟨_,rfl,?_,?_⟩;·exact((z.setCell (a:=⟨w.heap.size+1,0,Xb⟩) (by show w.heap.size+1<_;omega) _).setCell (a:=⟨w.heap.size+1,1,Xb⟩) (by show w.heap.size+1<_;omega) _).base (Hm (bS f.out))
 exact zB (zB (f.trans ab) Sm _) Sm _
theorem za7 {fs:List Fr} {nn:Int} (he:ZS fs z H nn=0):∃(i:Nat) (q:Fr),H=(i:Int)/\fs[i]? =Xa q/\ZW fs z=0/\q.r≠0/\-q.r<=nn/\nn<=1000 - q.r/\JA fs z H nn=fs.set i (frH q nn)/\zna fs z H nn=z:=by
 have he0:=he;unfold ZS at he;split at he
 ·rename_i h0
  split at he
  ·rename_i h1
   simp only[inB,Bool.and_eq_true,decide_eq_true_eq,Bool.not_eq_true',beq_eq_false_iff_ne]at h1;obtain⟨⟨h2,h3⟩,h4⟩:=h1;split at he
   ·rename_i h5
    have hl:H.toNat<fs.length:=Wm;have e:fs.getD H.toNat fr0=fs[H.toNat]:=(by rw[gD,gE hl];rfl);rw[e]at h4 h5;refine⟨H.toNat,fs[H.toNat],Wm,gE hl,h0,h4,h5.1,h5.2,?_,?_⟩;·grind [JA]
    grind [zna]
   cases he
  cases he
 grind
theorem zgH (a) (c:Nat) (fs:List Fr) (h k d:Int) (w:Xn) (l:zr qR w (O a fs.length c) fs) (f:ZS fs h k d=0):
  Xp prog 121 #[Xi #[O a fs.length c,I6 h],I6 k,I6 d] w fun e w'=>∃b,e= Xl (Xm #[Xi #[b,I6 h],I6 0])/\zb qR w.heap.size w' b (JA fs h k d)/\zc w w':=by
 obtain⟨m,q,rfl,i,g,j,n,n,n,_⟩:=za7 f;rw[n];by_cases f:q.r+d=0
 ·rw[show frH q d=frF from kE f]
  exact hoF a c fs h m q d w l g i (Si j) Wm Wm f
 rw[show frH q d={ q with r:=q.r+d }from kF f];exact hoG a c fs h m q d w l g i (Si j) Wm Wm (Si f)
theorem zfK (M:ChW w0 k w V m) (z:En) (n:Int) (am:z.kind=1->ZS m.fs m.aB z.n n=0):
  Xp prog 92 #[Xj (Xa ⟨k,0,Xb⟩),Xi #[I6 z.kind,I6 z.n,Xh z.wr],I6 n] w fun e w'=>(∃v,e= Xl v)/\Chg w0 k w V (Q8 m z n) w':=by
 have C:Xo (ChW w0 k w V m):=M;obtain⟨an,ao,-⟩:=M.at.ns;have a6:Xo (z.kind=1->∀W,zc w W->Xp prog 121 #[Xi #[V.f.x,I6 m.aB],I6 z.n,I6 n] W fun e w'=>∃f:Sli,e= Xl (Xm #[Xi #[f.x,I6 m.aB],I6 0])/\zb qR W.heap.size w' (f.x) (JA m.fs m.aB z.n n)/\zc W w'):=show _->∀W,_ from fun F W ad=>by
  have q:=(M.at.aA ad).fs;(try simp only[Sli.x]at q⊢);rw[an]at q⊢;refine(zgH V.f.a V.f.c m.fs m.aB z.n n W q (am F)).mono ?_;rintro e w' ⟨f,rfl,a4,ab⟩;have ag:zb qR W.heap.size w' f (JA m.fs m.aB z.n n):=a4;obtain⟨a9,aa,rfl,_⟩:=ag.at.rows;exact⟨⟨a9,_,aa⟩,rfl,a4,ab⟩
 have a7:Xo (∀W,zc w W->Xp prog 122 #[V.s.x,I6 z.n,I6 n] W fun e w'=>∃f:Sli,e= Xl (Xm #[f.x,I6 (Z5 m.sl z.n n)])/\jD slE W.heap.size w' (f.x) (QC m.sl z.n n)/\zc W w'):=dD<|fun W ad=>by
  have q:=(M.at.aA ad).sl;(try simp only[Sli.x]at q⊢);rw[ao]at q⊢;refine(zm9 V.s.a V.s.c m.sl z.n n W q).mono ?_;rintro e w' ⟨a9,aa,rfl,a4,ab⟩;exact⟨⟨a9,_,aa⟩,rfl,a4,ab⟩
 have al:Xo (∀q,Dw k V q->q<w.heap.size):=M.bK;clear M an ao;obtain⟨d,y⟩:=kB (w.alloc (Xk #[I6 z.kind,I6 z.n,Xh z.wr] 55));have t:=gA y;have a0:=xA y;have a8:Xo (_=d):=y;clear y;have ak:=a0.c 0 rfl;go_enter func92,ntmps92;go_upto_region 1 with fail;rw[a8.out];obtain⟨f,a5⟩:=kA w.heap.size;rw[a5.out]at a0 ak⊢;by_cases r:z.kind=1
 ·have F:(z.kind == 1)=Xc:=Rr r
  have Q:Xo (Q8 m z n={ m with fs:=JA m.fs m.aB z.n n,aB:=m.aB }):=dD<|by
   obtain⟨_,_,_,_,_,_,_,_,_,ax⟩:=za7 (am r);unfold Q8;rw[kE r,ax]
  have a6:Xo (∀W,_):=a6.out r;clear r;go_upto_region 3 with fail;clear ak;obtain⟨h,g⟩:=Ww fun u=>Box u f [I6 z.kind,I6 z.n,Xh z.wr];have c:h d.drew:=(g _).2 (a0.aA (gW _));have j:zc d d.drew:=show Below _ _ _ from(bR _ _).drew;have K:=fun L:zg h=>((g _).1 L.holds).c 1 rfl;have G:Nonempty (zg h):=⟨⟨_,c⟩⟩;refine zQ (I:=h) 17 [(5,fun v=>v= Xi #[V.f.x,I6 m.aB]),(9,fun v=>∃s:Sli,v= Xm #[Xi #[s.x,I6 m.aB],I6 0]),(16,fun _=>True)] (fun u=>zc d u) c j z3 Kr rfl rfl Dc (Sc ⟨_,rfl⟩ ⟨_,zE,rfl⟩ ⟨undef,trivial⟩) Kr ?_;simp only[Xv,Xw];iterate 2 refine zi ?_
  refine zW (.tmp 12) ⟨k,0,Xb⟩ rfl rfl rfl rfl ?_;refine Uq ?_;iterate 2 refine zi ?_
  refine zH rfl rfl (fun _ u=>zc d u) (fun w' b a=>?_) (fun Z l=>?_)
  ·refine zco 28 (.tmp 15) rfl k 0 rfl [V.f.x,I6 m.aB] ((C.box.box.aA (t.trans a)).mid 0 (fun ay v X=>by
    match ay,X with
    | 0,X=>exact X
    | 1,X=>exact X)) underlying28 rfl Kr ⟨b,rfl,a⟩
  cases l;refine Uq ?_;iterate 3 refine zi ?_
  refine zH rfl rfl (fun v u=>∃(s:Sli) (x:Xn),v= Xm #[Xi #[s.x,I6 m.aB],I6 0]/\zc d x/\zc x u/\zb qR x.heap.size u (s.x) (JA m.fs m.aB z.n n)) (fun w' b a=>?_) (fun Z l=>?_);·refine zN.call [Xi #[V.f.x,I6 m.aB],I6 z.n,I6 n] rfl func121 rfl rfl rfl ?_;refine(a6 w' (t.trans a)).mono ?_;rintro e aj ⟨s,rfl,ah,S⟩;exact⟨_,rfl,(g _).2 (((g _).1 b).aA S),⟨s,rfl⟩,s,w',rfl,a,S,ah⟩
  obtain⟨s,rfl⟩:=l;refine Uq ?_;iterate 3 refine zi ?_
  refine zW (.tmp 11) ⟨k,0,Xb⟩ rfl rfl rfl rfl ?_;refine Uq ?_;iterate 2 refine zi ?_
  refine zH rfl rfl (fun _ u=>Chg w0 k w V { m with fs:=JA m.fs m.aB z.n n,aB:=m.aB } u) (fun w' b a=>?_) (fun Z l=>?_)
  ·obtain⟨A,x,U,T,ac,ai⟩:=a;have H:A=s:=by
    obtain⟨ap,aq,ar⟩:=s;obtain⟨au,av,aw⟩:=A;simp only[Value.tuple.injEq,Array.mk.injEq,List.cons.injEq,Value.agg.injEq,vJ,and_true]at U;obtain⟨rfl,rfl,rfl⟩:=U;rfl
   subst H;have P:zc w w':=(t.trans T).trans ac;refine ZT 28 (.tmp 25) (.tmp 21) rfl k 0 rfl (Xi #[A.x,I6 m.aB]) rfl [A.x,I6 m.aB] rfl (C.box.aA P) (by simp[chL]) Kr (by simp[Value.oneCell']) ?_;intro R D i _;have af:=al.out k (.inl rfl);exact⟨(g _).2 (((g _).1 b).grown i (Hm a5.out)),trivial,C.bM P (ai.base (nT (bS t) (bS T))) i D⟩
  clear l;try simp only[Xu]
  refine qV fun R E p=>?_;have B:Xo (Chg w0 k w V (Q8 m z n) R):=dD<|Rx Q.out p;clear E p c j K G;go_wp2;exact Wq B.out
 have F:(z.kind == 1)=Xd:=Si r;by_cases N:z.kind=2
 ·have ae:(z.kind == 2)=Xc:=Rr N
  have Q:Xo (Q8 m z n={ m with sl:=QC m.sl z.n n }):=dD (by unfold Q8;rw[kF r,kE N]);clear r N;go_upto_region 5 with fail;clear ak;obtain⟨h,g⟩:=Ww fun u=>Box u f [I6 z.kind,I6 z.n,Xh z.wr];have c:h d.drew:=(g _).2 (a0.aA (gW _));have j:zc d d.drew:=show Below _ _ _ from(bR _ _).drew;have K:=fun L:zg h=>((g _).1 L.holds).c 1 rfl;have G:Nonempty (zg h):=⟨⟨_,c⟩⟩;refine zQ (I:=h) 17 [(5,fun v=>v=V.s.x),(9,fun v=>∃s:Sli,v= Xm #[s.x,I6 (Z5 m.sl z.n n)]),(16,fun _=>True)] (fun u=>zc d u) c j z3 Kr rfl rfl Dc (Sc ⟨_,rfl⟩ ⟨_,zE,rfl⟩ ⟨undef,trivial⟩) Kr ?_;simp only[Xv,Xw];iterate 2 refine zi ?_
  refine zW (.tmp 30) ⟨k,0,Xb⟩ rfl rfl rfl rfl ?_;refine Uq ?_;iterate 2 refine zi ?_
  refine zH rfl rfl (fun _ u=>zc d u) (fun w' b a=>?_) (fun Z l=>?_);·exact zlP 30 (.tmp 33) rfl k 2 rfl (V.s.x) ((C.box.box.aA (t.trans a)).c 2 rfl) underlying30 rfl ⟨b,rfl,a⟩
  cases l;refine Uq ?_;iterate 3 refine zi ?_
  refine zH rfl rfl (fun v u=>∃(s:Sli) (x:Xn),v= Xm #[s.x,I6 (Z5 m.sl z.n n)]/\zc d x/\zc x u/\jD slE x.heap.size u (s.x) (QC m.sl z.n n)) (fun w' b a=>?_) (fun Z l=>?_);·refine zN.call [V.s.x,I6 z.n,I6 n] rfl func122 rfl rfl rfl ?_;refine(a7 w' (t.trans a)).mono ?_;rintro e aj ⟨s,rfl,ah,S⟩;exact⟨_,rfl,(g _).2 (((g _).1 b).aA S),⟨s,rfl⟩,s,w',rfl,a,S,ah⟩
  obtain⟨s,rfl⟩:=l;refine Uq ?_;iterate 3 refine zi ?_
  refine zW (.tmp 29) ⟨k,0,Xb⟩ rfl rfl rfl rfl ?_;refine Uq ?_;iterate 2 refine zi ?_
  refine zH rfl rfl (fun _ u=>Chg w0 k w V { m with sl:=QC m.sl z.n n } u) (fun w' b a=>?_) (fun Z l=>?_)
  ·obtain⟨A,x,U,T,ac,ai⟩:=a;have H:A=s:=by
    obtain⟨ap,aq,ar⟩:=s;obtain⟨au,av,aw⟩:=A;simp only[Value.tuple.injEq,Array.mk.injEq,List.cons.injEq,vJ,and_true]at U;obtain⟨rfl,rfl,rfl⟩:=U;rfl
   subst H;have P:zc w w':=(t.trans T).trans ac;refine ZT 30 (.tmp 43) (.tmp 39) rfl k 2 rfl (A.x) rfl [A.x] rfl (C.box.aA P) (by simp[chL]) Kr (by simp[Value.oneCell']) ?_;intro R D i _;have af:=al.out k (.inl rfl);exact⟨(g _).2 (((g _).1 b).grown i (Hm a5.out)),trivial,C.cE P (ai.base (nT (bS t) (bS T))) i D⟩
  clear l;try simp only[Xu]
  refine qV fun R E p=>?_;have B:Xo (Chg w0 k w V (Q8 m z n) R):=dD<|Rx Q.out p;clear E p c j K G;go_wp2;exact Wq B.out
 have ae:(z.kind == 2)=Xd:=Si N;have Q:Xo (Q8 m z n=m):=dD<|by unfold Q8;rw[kF r,kF N]
 clear r N;have B:Xo (Chg w0 k w V (Q8 m z n) d):=dD<|Rx Q.out (Chg.refl C t.out);go_wp2;exact Wq B.out
def zfk (w0:Xn) (p:Nat) (w:Xn) (V:MaV) (m':Ma) (w':Xn):Prop:=∃V':MaV,V'.ca=V.ca/\ChW w0 p w' V' m'/\qH (Dw p V) w w'/\∀k,Dw p V' k->Dw p V k\/w.heap.size<=k
section
variable{w0 w w1 w2:Xn} {p:Nat} {V V':MaV} {m m':Ma}
theorem zfk.chg (h:zfk w0 p w V m' w1):Chg w0 p w V m' w1:=by obtain⟨a,_,h⟩:=h;exact⟨a,h⟩
theorem zfk.refl (h:ChW w0 p w V m) (g:zc w w1):zfk w0 p w V m w1:=⟨V,rfl,h.aA g,qH.aA g,fun _ a=> .inl a⟩
theorem zfk.aH (g:zc w w1) (h:zfk w0 p w1 V m' w2):zfk w0 p w V m' w2:=by obtain⟨a,e,b,d,c⟩:=h;exact⟨a,e,b,(qH.aA g).trans d,Chg.far g c⟩
theorem zfk.step {b:MaV} (a:qH (Dw p V) w w1) (c:∀k,Dw p b k->Dw p V k\/w.heap.size<=k) (g:b.ca=V.ca) (h:zfk w0 p w1 b m' w2):zfk w0 p w V m' w2:=by
 obtain⟨c,e,d,b,f⟩:=h;refine⟨c,e.trans g,d,⟨b.os.trans a.os,b.tape.trans a.tape,b.output.trans a.output,nT a.size b.size,fun c d g=>(b.block c (Yb d a.size) (fun e=>?_)).trans (a.block c d g)⟩,fun k b=>?_⟩;·grind
 rcases f k b with e|e;·grind
 exact .inr (nT a.size e)
theorem ChW.fieldC (h:ChW w0 p w V m) (k:zc w w1) (c:w1.grownBy w2 (Xa p)) (f:V'.f=V.f) (l:V'.ca=V.ca) (q:V'.sp=V.sp) (g:m'.fs=m.fs) (u:m'.ca=m.ca) (r:m'.sp=m.sp) (a:zt w2 p 102 (chL V' m')) (rs:∀W,qH (Dr w0.heap.size p V) w W->qH (Dr w0.heap.size p V) w1 W->zoj W V m->zoj W V' m'):zfk w0 p w V m' w2:=by
 have j:qH (Dw p V) w w2:=(qH.aA k).trans (qH.grown c (.inl rfl));have e:Dw p V'=Dw p V:=by unfold Dw;rw[f,l,q]
 have d:Dr w0.heap.size p V'=Dr w0.heap.size p V:=by unfold Dr;rw[e]
 obtain⟨i,x,b,y⟩:=h.sp;refine⟨V',l,⟨h.bV j,h.lo,a,?_,?_,⟨i,?_,Rx r b,fun t z v s i W b=>?_⟩,fun W b=>?_⟩,j,fun n a=> .inl (by rw[e]at a;exact a)⟩;·rw[f,g];exact(h.fs.aA k).grown c (fun g f e=>h.nf g f (by cases e;rfl))
 ·rw[l,u];exact(h.ca.aA k).grown c (fun g f e=>h.nc g f (by cases e;rfl))
 ·rw[q];exact(x.aA k).grown c (fun g f e=>h.ns g f (by cases e;rfl))
 ·rw[d]at b;rw[r]at i;exact y t z v s i W ((j.wide fun n a=> .inr a).trans b)
 rw[d]at b;exact rs W ((j.wide fun n a=> .inr a).trans b) (((qH.grown c (.inr (.inl rfl)))).trans b) (h.rest W ((j.wide fun n a=> .inr a).trans b))
end
end
section
theorem QM (d:k<m.fs.length) (a:zbe m Xb m.ca=0) (b:zG m.ca k≠0->X.p=(zX m k).p) (file idx:Int):zU { m with fs:=m.fs.set k X } file idx=zU m file idx:=by obtain⟨b,_,_⟩:=zo.1 a;refine zis (m:=m) (m':={ m with fs:=m.fs.set k X }) rfl rfl rfl rfl (fun c a=>?_) file idx;rw[jB d c.fr (Zo (b c a)).1.2.2.2.2.1];grind [QO]
theorem zbV {x:On} (c:k<m.fs.length) (a:zbe m Xb m.ca=0) (b:zG m.ca k≠0->X.p=(zX m k).p) (d:Z.kind=1->0<=Z.n) (f:Z.kind=1->Z.n=(k:Int)->X.p=(zX m k).p/\(X.f<0↔(zX m k).f<0)):ZP { m with fs:=m.fs.set k X } x Z=ZP m x Z:=by refine zdu rfl rfl (fun d=>?_) (fun _=>rfl) (fun _=>rfl) (QM c a b);grind [jB]
section
variable{m:Ma} {T:List (Nat->En)}
theorem zoE (h:qF m T) {fr:Fr} (q:m.fs[j]? =Xa X) (c:X.r=0) (e:T[k]? =Xa u) (f:b<64):ZP { m with fs:=m.fs.set j fr } (zl s.aC b) (u b)=ZP m (zl s.aC b) (u b):=by
 obtain⟨l,i⟩:=h.free q c;refine zbV (gS.1 q).1 h.ca (fun h=>absurd i h) (fun d=>?_) (fun d n=>?_);·have:=(jV (h.en e f)).2.1;omega
 grind [JC]
theorem zka {x:On} (h:qF m T) (a:m.fs[k]? =Xa X) (b:Z.kind=1->0<=Z.n):ZP { m with fs:=m.fs.set k { X with r:=z } } x Z=ZP m x Z:=by refine zbV (gS.1 a).1 h.ca (fun _=>by rw[zK a]) b (fun _ _=>by rw[zK a];exact⟨rfl,Iff.rfl⟩)
theorem zmC (h:qF m T) (n:m.fs[k]? =Xa X) (w:T[b]? =Xa u) (y:p<64) (x:(u p).kind=1) (e:(u p).n=(k:Int)) {q:Nat} {g:Nat->En} (i:T[q]? =Xa g) (t:j<64) (fr:q≠b\/j≠p):ZP { m with fs:=m.fs.set k (Jy X) } (zl s.aC j) (g j)=ZP m (zl s.aC j) (g j):=by
 have d:=h.cf k X n;have c:1<=qA T 1 k:=by grind [JC]
 have l:X.r≠1->Jy X={ X with r:=X.r - 1 }:=fun h=>by unfold Jy;rw[kF h]
 refine zbV (gS.1 n).1 h.ca (fun a=>?_) (fun a=>?_) (fun a v=>?_);·grind [zK]
 ·have:=(jV (h.en i t)).2.1;omega
 grind [zdD,isE,zK]
theorem zfN (h:qF m T) {n:Nat} (a:m.fs[k]? =Xa X) (g:T[p]? =Xa u) (j:n<64) (i:(u n).kind=1) (d:(u n).n=(k:Int)) (file idx:Int):zU { m with fs:=m.fs.set k (Jy X) } file idx=zU m file idx:=by
 have c:=h.cf k X a;have b:1<=qA T 1 k:=by grind [JC]
 refine QM (gS.1 a).1 h.ca (fun e=>?_) file idx;grind [Jy,zK]
theorem znV (h:qF m T) {fr:Fr} (b:m.fs[j]? =Xa X) (c:X.r=0) (file idx:Int):zU { m with fs:=m.fs.set j fr } file idx=zU m file idx:=QM (gS.1 b).1 h.ca (fun d=>absurd (h.free b c).2 d) file idx
end
structure Rt (m:Ma):Prop where
 w:maW m=0
 t8:∀s∈m.sp,s.tb.length=8
theorem Rt.inv (h:Rt m):qF m (ZN m):=(zbX h.w).1
theorem Rt.aB (h:Rt m):0<=m.aB/\m.aB<max (m.fs.length:Int) 1:=(zbX h.w).2
theorem Rt.tb (h:Rt m) (c:s∈m.sp):QP s.tb:=by refine⟨h.t8 s c,ZY.1 ?_⟩;have a:=h.w;unfold maW at a;rw[zj]at a;have b:zaq m=0:=a _ Sm;unfold zaq at b;rw[zj]at b;have a:=zj.1 (b (zF (m.sp.map spE)) Sm) (spE s) (Yh.2 ⟨s,c,rfl⟩);grind [spE]
theorem Rt.of (c:qF m (ZN m)) (ht:∀s∈m.sp,QP s.tb) (a:0<=m.aB) (b:m.aB<max (m.fs.length:Int) 1):Rt m:=by refine⟨?_,fun s d=>(ht s d).1⟩;have:=c.right a b;grind [zkB]
theorem qX (h:m.sp[k]? =Xa s):(ZN m)[k]? =Xa (zf s):=by unfold ZN;rw[Yd,h];rfl
theorem qF.tabs (h:qF m T) {sp':List Sp} (d:sp'.length=m.sp.length) (b:∀(p:Nat) s a,m.sp[p]? =Xa s->sp'[p]? =Xa a->a.aF=s.aF/\a.aC=s.aC):qF { m with sp:=sp' } T:=by
 have b:∀(p:Nat) a,sp'[p]? =Xa a->∃s,m.sp[p]? =Xa s/\a.aF=s.aF/\a.aC=s.aC:=fun p a c=>by grind
 refine⟨h.aL,h.bB,h.aP,h.bC,h.sq,h.bH,h.st,h.cnt,h.bF,h.aW,by show sp'.length<=4;rw[d];exact h.aI,fun a c=>?_,h.tl.trans d.symm,?_,fun p a k c l r q=>?_,h.cf,h.cs⟩;·obtain⟨p,f⟩:=Ye c;obtain⟨s,d,g,e⟩:=b p a f;rw[g,e];exact h.aO s (mG d)
 ·obtain⟨i,f,j⟩:=zo.1 h.ca;exact zo.2 ⟨fun f n=>i f n,fun i f f=>(by cases f),j⟩
 obtain⟨s,d,g,e⟩:=b p a c;rw[e];exact h.aM p s k d l r q
def zai (m:Ma) (p n:Nat) (e:En):Ma:={ m with sp:=m.sp.modify p fun s=>{ s with tb:=zk3 s.tb n e } }
theorem zft:(zai m k b Z).sp[p]? =(m.sp[p]?).map fun s=>if k=p then{ s with tb:=zk3 s.tb b Z }else s:=by
 unfold zai;simp only[List.getElem?_modify];by_cases h:k=p;·simp[h]
 simp[h]
theorem zdx (ht:QP s.tb) (b:k<64) (a:enW Z=0):zf { s with tb:=zk3 s.tb k Z }=jM (zf s) k Z:=by grind [zf,jM,zpg,Nat.mod_lt]
theorem znu (p:m.sp[k]? =Xa s) (ht:QP s.tb) (d:b<64) (c:enW Z=0):ZN (zai m k b Z)=(ZN m).set k (jM (zf s) b Z):=by
 apply Xx;intro q;have a:=(gS.1 p).1;unfold ZN;rw[Yd,zft,Oc,Yk];by_cases h:k=q;·subst h;rw[p,kE rfl,kE a];simp only[Option.map_some,kE,zdx ht d c]
 grind
theorem zcC:(zai m k b Z).sp.length=m.sp.length:=by simp[zai]
theorem zd5 {q:Sp} (c:m.sp[p]? =Xa s) (a:(zai m k b Z).sp[p]? =Xa q):q.aF=s.aF/\q.aC=s.aC:=by rw[zft,c]at a;simp only[Option.map_some,Option.some.injEq]at a;subst a;split <;> exact⟨rfl,rfl⟩
theorem zdw (ht:∀s∈m.sp,QP s.tb) (c:enW Z=0):∀s∈(zai m k p Z).sp,QP s.tb:=fun s d=>by
 obtain⟨q,a⟩:=Ye d;rw[zft]at a;cases h:m.sp[q]? with
 | none=>rw[h]at a;cases a
 | some x=>
  rw[h]at a;simp only[Option.map_some,Option.some.injEq]at a;have b:=ht x (mG h);subst a;split;·exact zqj b c
  exact b
theorem zd4 (c:m.sp[k]? =Xa s) (ht:∀s∈m.sp,QP s.tb) (h:b<64) (p:enW Z=0) (g:qF m ((ZN m).set k (jM (zf s) b Z))) (a:0<=m.aB/\m.aB<max (m.fs.length:Int) 1):Rt (zai m k b Z):=by refine Rt.of ?_ (zdw ht p) a.1 a.2;rw[znu c (ht s (mG c)) h p];exact g.tabs zcC fun q s i d f=>zd5 d f
structure Sam (S:Nat->Nat->Prop) (m m':Ma):Prop where
 aI:m'.sp.length=m.sp.length
 sp:∀(q:Nat) s s',m.sp[q]? =Xa s->m'.sp[q]? =Xa s'->s'.aF=s.aF/\s'.aC=s.aC
 see:∀(q n:Nat) s s',m.sp[q]? =Xa s->m'.sp[q]? =Xa s'->n<64->¬S q n->ZP m' (zl s.aC n) (zf s' n)=ZP m (zl s.aC n) (zf s n)
 fll:m'.fl.length=m.fl.length
 sz:∀f,JF m' f=JF m f
 bk:∀f,bkN m' f=bkN m f
 byt:∀(file k:Nat),(k:Int)<JF m (file:Int)->(zU m' (file:Int) ((k / 8:Nat):Int)).getD (k % 8) 0=(zU m (file:Int) ((k / 8:Nat):Int)).getD (k % 8) 0
theorem Sam.refl (S:Nat->Nat->Prop) (m):Sam S m m:=⟨rfl,fun q s b h a=>by rw[h]at a;cases a;exact⟨rfl,rfl⟩,fun q n s b h a _ _=>by rw[h]at a;cases a;rfl,rfl,fun _=>rfl,fun _=>rfl,fun _ _ _=>rfl⟩
theorem Sam.trans {S d:Nat->Nat->Prop} {a b c:Ma} (h:Sam S a b) (k:Sam d b c):Sam (fun q n=>S q n\/d q n) a c:=by
 have g:∀(q:Nat) s,a.sp[q]? =Xa s->∃t,b.sp[q]? =Xa t:=fun q s e=>⟨_,gE (by rw[h.aI];exact(gS.1 e).1)⟩;refine⟨k.aI.trans h.aI,fun q s j e f=>?_,fun q n s j e f p m=>?_,k.fll.trans h.fll,fun d=>(k.sz d).trans (h.sz d),fun d=>(k.bk d).trans (h.bk d),fun d l i=>(k.byt d l (by rw[h.sz];exact i)).trans (h.byt d l i)⟩
 ·obtain⟨t,d⟩:=g q s e;have l:=h.sp q s t e d;have i:=k.sp q t j d f;grind
 obtain⟨t,d⟩:=g q s e;have l:=h.sp q s t e d;have i:=k.see q n t j d f p (fun f=>m (.inr f));rw[l.2]at i;exact i.trans (h.see q n s t e d p (fun f=>m (.inl f)))
theorem Sam.mono {S c:Nat->Nat->Prop} {a b:Ma} (h:Sam S a b) (hS:∀q n,S q n->c q n):Sam c a b:=⟨h.aI,h.sp,fun q n s g f d e c=>h.see q n s g f d e (fun e=>c (hS q n e)),h.fll,h.sz,h.bk,h.byt⟩
theorem Sam.put (c:m1.sp=m.sp) (b:m1.fl=m.fl) (ht:∀s∈m.sp,QP s.tb) (t:k<64) (r:enW Z=0) (h:∀(q j:Nat) s,m.sp[q]? =Xa s->j<64->(q≠p\/j≠k)->ZP m1 (zl s.aC j) (zf s j)=ZP m (zl s.aC j) (zf s j)) (l:∀file idx,zU m1 file idx=zU m file idx):Sam (fun q j=>q=p/\j=k) m (zai m1 p k Z):=by
 refine⟨by rw[zcC,c],fun q s i d a=>zd5 (Rx c d) a,fun q j s i d a v u=>?_,by show m1.fl.length=_;rw[b],fun f=>by show JF m1 f=_;unfold JF;rw[b],fun f=>by show bkN m1 f=_;unfold bkN;rw[b],fun file w _=>?_⟩
 ·rw[zft,c,d]at a;simp only[Option.map_some,Option.some.injEq]at a;have g:zf i j=zf s j:=by
   subst a;split
   ·rename_i n
    subst n;rw[zdx (ht s (mG d)) t r];grind [jM]
   rfl
  rw[g];show ZP m1 _ _=_;grind
 show(zU m1 _ _).getD _ _=_;rw[l]
def JS (m:Ma) (p n:Nat):Ma:=
 let e:=zf (m.sp.getD p ⟨Xd,[],[]⟩) n
 if e.kind=1 then zai { m with fs:=m.fs.set e.n.toNat (Jy (zX m e.n)) } p n en0
 else if e.kind=2 then zai { m with sl:=m.sl.set e.n.toNat (m.sl.getD e.n.toNat 0 - 1) } p n en0
 else zai m p n en0
section
variable{m:Ma} {p n:Nat} {s:Sp}
theorem Rt.aM (h:Rt m) (a:m.sp[p]? =Xa s) (b:n<64):zf s n=en0\/Jf m (zl s.aC n) (zf s n):=h.inv.aM p s _ a (qX a) n b
theorem Rt.aQ (h:Rt m) (c:m.sp[p]? =Xa s) (b:n<64) (a:(zf s n).kind=1):∃(k:Nat) (fr:Fr),(zf s n).n=(k:Int)/\m.fs[k]? =Xa fr/\zX m (zf s n).n=fr/\fr.r≠0:=by
 rcases h.aM c b with e|e;·rw[e]at a;cases a
 obtain⟨d,d,d,_⟩:=zS e Wm;refine⟨(zf s n).n.toNat,m.fs[(zf s n).n.toNat]' Wm,Wm,gE _,?_,fun d=>?_⟩
 ·have:=zK (m:=m) (k:=(zf s n).n.toNat) (gE Wm)
  grind
 have e:=(h.inv.free (gE (show(zf s n).n.toNat<m.fs.length by omega)) d).1;have d:=JC (qX c) b a;grind
theorem Rt.cF (h:Rt m) (f:m.sp[p]? =Xa s) (d:n<64) (b:(zf s n).kind=2):∃(k:Nat) (z:Int),(zf s n).n=(k:Int)/\m.sl[k]? =Xa z/\m.sl.getD (zf s n).n.toNat 0=z/\0<z/\(zl s.aC n).is=Xc/\(zl s.aC n).sh=Xd/\k<m.sb.length:=by
 rcases h.aM f d with e|e;·rw[e]at b;cases b
 obtain⟨g,q,a⟩:=e;unfold zal at a;split at a;·cases a
 rename_i i
 split at a;·cases a
 rename_i r
 have l:=(jV g).2.1.1;have j:(zf s n).n< (m.sl.length:Int):=by grind
 have c:(zf s n).n.toNat<m.sl.length:=Wm;refine⟨(zf s n).n.toNat,m.sl[(zf s n).n.toNat],Wm,gE c,?_,?_,?_,?_,?_⟩;·grind
 ·rw[h.inv.cs _ _ (gE c)];have:=za6 (qX f) d (kind:=2) (k:=(((zf s n).n.toNat:Nat):Int)) (by simp[isE,b];omega) Dc;omega
 ·grind
 ·grind
 have:=h.inv.bC;omega
theorem zqP (h:Rt m) (b:m.sp[p]? =Xa s) (a:n<64):Rt (JS m p n)/\Sam (fun q j=>q=p/\j=n) m (JS m p n):=by
 have C:m.sp.getD p ⟨Xd,[],[]⟩=s:=by rw[gD,b];rfl
 have k:∀s∈m.sp,QP s.tb:=fun s b=>h.tb b;unfold JS;simp only[C];by_cases i:(zf s n).kind=1;·rw[kE i];obtain⟨r,y,d,l,v,B⟩:=h.aQ b a i;rw[v,d,tN];have w:=h.inv.drop l (qX b) a i d;refine⟨zd4 (m:={ m with fs:=m.fs.set r (Jy y) }) b k a JR w (Si h.aB),Sam.put (m1:={ m with fs:=m.fs.set r (Jy y) }) rfl rfl k a JR (fun q j z f x e=>zmC h.inv l (qX b) a i d (qX f) x e) (fun c g=>zfN h.inv l (qX b) a i d c g)⟩
 rw[kF i];by_cases u:(zf s n).kind=2;·rw[kE u];obtain⟨r,A,d,l,v,B,E,F,G⟩:=h.cF b a u;rw[v,d,tN];have w:=h.inv.dropS l (qX b) a u d;exact⟨zd4 (m:={ m with sl:=m.sl.set r (A - 1) }) b k a JR w h.aB,Sam.put (m1:={ m with sl:=m.sl.set r (A - 1) }) rfl rfl k a JR (fun q j z f x e=>rfl) (fun c g=>rfl)⟩
 rw[kF u];have D:zf s n=en0:=by
  rcases h.aM b a with t|t;·exact t
  have:=(jV t.1).1;have:=t.2.1;omega
 refine⟨zd4 b k a JR ?_ h.aB,Sam.put rfl rfl k a JR (fun q j z f x e=>rfl) (fun c g=>rfl)⟩;have:jM (zf s) n en0=zf s:=by grind [jM]
 rw[this];have:(ZN m).set p (zf s)=ZN m:=by
  apply Xx;intro q;rw[Oc];split;·grind [gS.1,qX]
  rfl
 rw[this];exact h.inv
end
end
end Go.Proofs.YtkfjajbalegoeaaGreat
