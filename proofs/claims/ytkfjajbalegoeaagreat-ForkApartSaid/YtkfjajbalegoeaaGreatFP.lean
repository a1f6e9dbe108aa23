/- ForkApart,proved:a page that the child writes is not another one for the parent,nor the other way,unless its area is shared,whatever the numbers and bytes. No condition. -/
import Derived.Test.YtkfjajbalegoeaaGreatFP5
import Derived.Deep.CutRange
import Derived.Laws.BytesArg
import Derived.Test.YtkfjajbalegoeaaGreatRows
import Derived.ProofKit
import Derived.OpenShut
import Derived.ShutString
import Derived.ChangeOld
import Derived.Carry
import Derived.SizedLaws
import Derived.Test.YtkfjajbalegoeaaGreatChecked
namespace Go.Proofs.YtkfjajbalegoeaaGreat
open Go.Value renaming slice→O,int→Xe,bool→Xh,agg→Xi,pointer→Xj,tuple→Xm
open Go.IntKind renaming i64→Xf,u8→Xg
open Go.Obj renaming cells→Xk
open Go.Ending renaming returned→Xl
open Go renaming World→Xn,Calls→Xp,Value→Xq
open Go.RowKit renaming Hid→Xo
open Option renaming some→Xa,none→Xb
open Bool renaming true→Xc,false→Xd
open List renaming replicate→Xr
open _root_.List renaming getElem?_of_mem→Xs,map_toArray→Xt,map_nil→Xu,getElem?_append_left→Xw,mem_append→Xx,take→Xz,drop→Ya
open Go.Sem renaming run_bind→Xv,run_pure→Xy
set_option maxRecDepth 100000
set_option maxHeartbeats 4000000
variable{α:Type}{H:Ar}{Y:Fr}{b k p:Nat}{s:Sp}{w:Xn}{A:Xq}
variable{L:List Int}{T:List (Nat->En)}{V:MaV}{b hi:Nat}{hd:Int}{m m':Ma}{t:TypeId}{vt:Sli}{w':Xn}
open Go.Proofs.Tryz
section
open Go.RowKit
theorem ziB(F S B:Int)(nf ns nb:Nat)(m7:max (min F 40) 0=(nf:Int))(m8:max (min S 60) 0=(ns:Int))(m6:max (min B 80) 0=(nb:Int))(vl:Sli)(L w)(rq:zq byE w (vl.x) L)(ro:vl.n<=vl.c)(lb:∀z∈L,0<=z/\z<256):
  Xp prog 9 #[I6 F,I6 S,I6 B,vl.x] w fun e w'=>∃(f7:MaV)(m:Ma)(T:List (Nat->En))(j8:Int)(M bw:Nat)(tr:Sli),e=Xl (Xi #[f7.f.x,I6 j8,f7.s.x,f7.sb.x,f7.sq.x,f7.db.x,f7.dq.x,f7.fl.x,I6 m.cnt,f7.ca.x,f7.sp.x])/\zj7 w nf ns nb L w' f7 m T j8 M bw tr:=by
 have jm:nf<=40:=Wm;have jn:ns<=60:=Wm;have cy:nb<=80:=Wm;obtain⟨n3,em⟩:=kB ((w.alloc (Xk zM.toArray 41)).alloc (Xk #[vl.x,eS,I6 0,eS,eS,eS,eS,eS,eS,I6 0,eS,eS,eS] 81));have km:=gD2 em;have sp:Xo (zm n3 w.heap.size 41 qA):=dD<|by rw[<-em];exact(zm.aE _ qA _ rfl).aA (za _ _)
 have rf:Xo (zm n3 (w.heap.size+1) 81 [vl.x,eS,I6 0,eS,eS,eS,eS,eS,eS,I6 0,eS,eS,eS]):=dD<|by rw[<-em];exact zm.aE _ [vl.x,eS,I6 0,eS,eS,eS,eS,eS,eS,I6 0,eS,eS,eS] _ Sm
 have oa:=dD em;have nx:=dD rq;have nw:=dD ro;have nv:=dD lb;clear em rq ro lb;go_enter func9,ntmps9;go_upto_region 3 with fail;rw[oa.out];try rw[m7]
 try rw[m8]
 try rw[m6]
 clear m7 m8 m6;obtain⟨j,bq⟩:=kA (w.heap.size+1);rw[bq.out]at rf⊢;obtain⟨l,h⟩:=Ww fun b=>zc n3 b;have A:=(h _).2 (gW _);have ay:Nonempty (zh l):=⟨⟨_,A⟩⟩;refine zhg (I:=l) (J:=JB nf ns nb) 17 [(2,⟨fun i=>∃G,i=O (Xa ⟨G,0,Xb⟩) nf nf,fun i b=>zb q3 w.heap.size b i (Xr nf fr0),fun H az=>zc H az,fun _=>True⟩),(5,⟨fun i=>∃G,i=O (Xa ⟨G,0,Xb⟩) ns ns,fun i b=>zb slE w.heap.size b i (Xr ns 0),fun H az=>zc H az,fun _=>True⟩),(7,⟨fun i=>∃G,i=O (Xa ⟨G,0,Xb⟩) ns ns,fun i b=>zl w.heap.size b i (Xr ns zt),fun H az=>zc H az,fun _=>True⟩),(10,⟨fun i=>∃G,i=O (Xa ⟨G,0,Xb⟩) nb nb,fun i b=>zl w.heap.size b i (Xr nb zt),fun H az=>zc H az,fun _=>True⟩)] A ?hJ0 ?hJq ?hJs ?hJu zY Kr rfl rfl Dc ?hS ?hp ?hpre ?hpr0 ?_;case hJ0=>
  refine⟨⟨rfl,rfl,rfl⟩,fun s R=>.inl ?_,fun s R x n c lz=>?_,fun s R gi bw b7 x n c a qn dx lz=>?_⟩
  ·simp only[mC,nM,or_false]at R
   rcases R with rfl|rfl|rfl|rfl<;>rfl
  ·simp only[mC,nM,or_false]at R
   rcases R with rfl|rfl<;>cases lz
  simp only[mC,nM,or_false]at R;rcases R with rfl|rfl<;>cases lz
 case hJq=>
  intro du o av sw cb i b tm el;exact el.quiet (zo3 (Sx:=[2,5,7,10]) Kr av (zlx sw)) Wm Wm cy tm
 case hJs=>
  intro du o s av R cb b tu el tz j8;have mc:=zC R;clear R;simp only[mC,pJ,nM,or_false]at mc;rcases mc with⟨rfl,rfl⟩|⟨rfl,rfl⟩|⟨rfl,rfl⟩|⟨rfl,rfl⟩;·cases av;obtain⟨jt,M,cz,jr,d0⟩:=info_parts q3.aF;exact el.make 26 53 jt _ 32 rfl Sm q3.bL M cz (by rw[d0];decide) Dc j8
  ·cases av;obtain⟨jt,M,cz,jr,d0⟩:=info_parts slE.aF;exact el.make 30 3 jt _ 35 rfl Sm slE.bL M cz (by rw[d0];decide) Dc j8
  ·cases av;obtain⟨jt,M,cz,jr,d0⟩:=info_parts zsG;exact el.make 31 44 jt _ 37 rfl Sm underlying31 M cz (by rw[d0];decide) Dc j8
  cases av;obtain⟨jt,M,cz,jr,d0⟩:=info_parts zsG;exact el.make 31 44 jt _ 40 rfl Sm underlying31 M cz (by rw[d0];decide) Dc j8
 case hJu=>
  intro du o av cb b el;exact el.undef (zo4 Kr av)
 case hS=>
  intro x ac;simp only[mC,nM,or_false]at ac;rcases ac with rfl|rfl|rfl|rfl<;>exact⟨_,0,rfl⟩
 case hp=>
  intro k s du gi ax av g3 lv i H az b7 bv;have ah:=zC ax;have b5:=zC av;clear ax av;simp only[mC,pJ,nM,or_false]at ah b5;have ab:zc H az:=by rcases b5 with⟨rfl,rfl⟩|⟨rfl,rfl⟩|⟨rfl,rfl⟩|⟨rfl,rfl⟩<;>exact b7
  rcases ah with⟨rfl,rfl⟩|⟨rfl,rfl⟩|⟨rfl,rfl⟩|⟨rfl,rfl⟩;·exact zb.aA bv ab
  ·exact zb.aA bv ab
  ·exact zl.aA bv ab
  exact zl.aA bv ab
 case hpre=>
  intro du gi k s av ax g3 H az b7 b6;have b5:=zC av;clear ax av;simp only[mC,pJ,nM,or_false]at b5;rcases b5 with⟨rfl,rfl⟩|⟨rfl,rfl⟩|⟨rfl,rfl⟩|⟨rfl,rfl⟩<;>trivial
 case hpr0=>
  intro k gi ax;have ah:=zC ax;clear ax;simp only[mC,pJ,nM,or_false]at ah;rcases ah with⟨rfl,rfl⟩|⟨rfl,rfl⟩|⟨rfl,rfl⟩|⟨rfl,rfl⟩<;>trivial
 simp only[Xz,Ya];iterate 2 refine zs ?_
 refine zT rfl rfl (fun w' d b6 bu=>?_) (fun di U=>?_);·have ab:=(h _).1 d;exact zcp q3 w' nf (by show nf*40<=_;omega) (.tmp 32) rfl rfl (fun nd ae=>⟨(h _).2 (ab.trans (za _ _)),za _ _,⟨_,rfl⟩,ae.base (nT (bS km) (bS ab))⟩)
 obtain⟨aq,rfl⟩:=U;refine Uq ?_;iterate 2 refine zs ?_
 refine zT rfl rfl (fun w' d b6 bu=>?_) (fun di U=>?_);·have ab:=(h _).1 d;exact zcp slE w' ns (by show ns*8<=_;omega) (.tmp 35) rfl rfl (fun nd ae=>⟨(h _).2 (ab.trans (za _ _)),za _ _,⟨_,rfl⟩,ae.base (nT (bS km) (bS ab))⟩)
 obtain⟨b0,rfl⟩:=U;refine Uq ?_;refine zs ?_;refine zT rfl rfl (fun w' d b6 bu=>?_) (fun di U=>?_);·have ab:=(h _).1 d;exact zaR w' ns Wm (.tmp 37) rfl rfl (fun nd ae=>⟨(h _).2 (ab.trans (za _ _)),za _ _,⟨_,rfl⟩,ae.base (nT (bS km) (bS ab))⟩)
 obtain⟨t,rfl⟩:=U;refine Uq ?_;iterate 2 refine zs ?_
 refine zT rfl rfl (fun w' d b6 bu=>?_) (fun di U=>?_);·have ab:=(h _).1 d;exact zaR w' nb cy (.tmp 40) rfl rfl (fun nd ae=>⟨(h _).2 (ab.trans (za _ _)),za _ _,⟨_,rfl⟩,ae.base (nT (bS km) (bS ab))⟩)
 obtain⟨q,rfl⟩:=U;refine Uq ?_;iterate 4 refine zs ?_
 refine Q2 (.tmp 31) ⟨j,0,Xb⟩ rfl rfl rfl rfl ?_;refine Uq ?_;refine zs ?_;refine Zv fun sk ej bu el=>?_;have lw:t≠q:=el.2.2.2 38 Sm 41 Sm Dc ⟨t,0,Xb⟩ ns ns ⟨q,0,Xb⟩ nb nb rfl rfl;have ju:=bu 2;have jv:=bu 5;have d2:=bu 7;have i4:=bu 10;have j2:=(h _).1 ej;have lf:=dD (rf.aA j2);have sq:=dD (sp.aA j2);have cn:=dD (km.trans j2);clear bu el ej A ay j2;refine zhf rfl 41 (.tmp 47) (.tmp 45) rfl j 1 rfl [O (Xa ⟨aq,0,Xb⟩) nf nf,I6 0,O (Xa ⟨b0,0,Xb⟩) ns ns,O (Xa ⟨t,0,Xb⟩) ns ns,eS,O (Xa ⟨q,0,Xb⟩) nb nb,eS,eS,I6 (nb:Int),eS,eS] rfl lf Sm Kr (fun i U=>by simp only[mC,nM,or_false]at U;rcases U with rfl|rfl|rfl|rfl|rfl|rfl|rfl|rfl|rfl|rfl|rfl<;>rfl) ?_;intro f8 lx a0 qa;have rt:zm f8 j 81 [vl.x,O (Xa ⟨aq,0,Xb⟩) nf nf,I6 0,O (Xa ⟨b0,0,Xb⟩) ns ns,O (Xa ⟨t,0,Xb⟩) ns ns,eS,O (Xa ⟨q,0,Xb⟩) nb nb,eS,eS,I6 (nb:Int),eS,eS,eS]:=lx;have og:Xo (Mk w f8.heap.size f8 j vl L ⟨⟨Xa ⟨aq,0,Xb⟩,nf,nf⟩,⟨Xa ⟨b0,0,Xb⟩,ns,ns⟩,⟨Xa ⟨t,0,Xb⟩,ns,ns⟩,zJ,⟨Xa ⟨q,0,Xb⟩,nb,nb⟩,zJ,zJ,zJ,zJ⟩ ⟨Xr nf fr0,0,Xr ns 0,Xr ns zt,[],Xr nb zt,[],[],nb,[],[]⟩ zJ []):=zo7 (zd cn a0 (Hm bq.out)) (Hm bq.out) rt nx nw nv (ju.kind a0 lf Dc) (jv.kind a0 lf Dc) ⟨z9 d2.1 a0 lf Dc,d2.2⟩ ⟨z9 i4.1 a0 lf Dc,i4.2⟩ lw;have oz:Xo (zm f8 w.heap.size 41 qA):=sq.beside a0 (fun G e=>by cases e;have:=bq.out;omega);clear lx a0 qa ju jv d2 i4 lw;obtain⟨M,nu⟩:=kA f8.heap.size;rw[nu.out]at og;try simp only[Act.put]
 have r7:=og.box.box.c 1 rfl;go_wp2;clear r7;go_loopg[55] nf (fun eg qr wr=>∃dg:Nat,dg<=nf/\nf-dg<=eg/\qr=I6 dg/\Xo (Mk w M wr j vl L ⟨⟨Xa ⟨aq,0,Xb⟩,nf,nf⟩,⟨Xa ⟨b0,0,Xb⟩,ns,ns⟩,⟨Xa ⟨t,0,Xb⟩,ns,ns⟩,zJ,⟨Xa ⟨q,0,Xb⟩,nb,nb⟩,zJ,zJ,zJ,zJ⟩ ⟨zkB nf dg,0,Xr ns 0,Xr ns zt,[],Xr nb zt,[],[],nb,[],[]⟩ zJ [])/\Xo (zm wr w.heap.size 41 qA))
 exact⟨0,nZ _,Wm,rfl,Rx znw og,oz⟩;obtain⟨dg,th,tc,rfl,gv,cq⟩:=hrel;by_cases dt:dg<nf
 ·have m4:=kC dt
  have r7:=gv.box.box.c 1 rfl;dsimp only[Sli.x]at r7;have oo:=dD gv.rows.fs;have tx:wr.cell? ⟨aq,dg*13+11,Xb⟩=Xa (I6 0):=by
   have:=oo.one (zny dt) 11 _ rfl;rw[zX,Addr.add_lit,zA]at this;exact this
  have na:=oo.bN rfl;obtain⟨qo,kd,C⟩:=oo.cell (k:=dg) (o:=11) rfl (zny dt) (y:=frF) (u:=I6 (-1)) rfl Dc;rw[zps dt]at qo;have pr:=gv.bK rfl kd C qo (zf4.free (zqW nf (dg+1)) (znx nf (dg+1)));have oh:=dD pr.1;have p9:Xo (zm (wr.setCell ⟨aq,dg*13+11,Xb⟩ (I6 (-1))) w.heap.size 41 qA):=pr.2.1 _ _ _ cq ⟨Dc,Dc,Dc,Dc,Dc,Dc,Dc,Dc,fun al=>absurd al Dc⟩;clear pr qo kd C;go_wp2;go_roundg (nf-(dg+1));exact⟨dg+1,Wm,Wm,Gn,oh,p9⟩;omega
 have m4:=kD dt;obtain rfl:nf=dg:=Wm;rw[zpt]at gv;have es:=qY 3 gv.out;go_wp2_with fail;refine es.mono ?_;clear es;rintro e sm⟨r5,s5,a,rfl,mm,ls,qu,mz,k7,yn,rp⟩;obtain⟨c,rfl⟩:∃c:Nat,a=(c:Int):=⟨a.toNat,Wm⟩;have sy:c<3:=by rcases k7 with al|al<;>omega
 have nm:Xo (L=[]->c=0):=dD<|fun e=>Hm (yn e);have oh:=dD mm;have p9:Xo (zm sm w.heap.size 41 qA):=cq.beside ls (fun G e=>by cases e;have:=bq.out;omega);have oe:=dD rp;clear mm ls qu mz k7 yn rp;go_wp2;go_loopg[70] c (fun eg qs wr=>∃(f9:Nat)(ag:Sli)(bk:List Int)(mu ao:Sli)(ee:List (List Int))(fv:List (Int×List Int))(fl:List Fl),f9<=c/\c-f9<=eg/\qs=I6 f9/\Xo (Mk w M wr j ag bk ⟨⟨Xa ⟨aq,0,Xb⟩,nf,nf⟩,⟨Xa ⟨b0,0,Xb⟩,ns,ns⟩,⟨Xa ⟨t,0,Xb⟩,ns,ns⟩,zJ,⟨Xa ⟨q,0,Xb⟩,nb,nb⟩,mu,ao,zJ,zJ⟩ ⟨Xr nf frF,0,Xr ns 0,Xr ns zt,[],ee,fv,fl,nb,[],[]⟩ zJ [])/\Xo (zbr L bk)/\Xo (zm wr w.heap.size 41 qA)/\Xo (zg5 fl nb ee fv []/\fl.length<=f9/\ee.length=nb/\∀f∈fl,f.size<40)/\Xo (f9=0->fl=[]/\fv=[]/\ee=Xr nb zt))
 exact⟨0,r5,s5,zJ,zJ,_,_,_,nZ _,Wm,rfl,oh,oe,p9,(show _/\_ from⟨zg5.zero cy,nZ _,lR,fun f au=>(by cases au)⟩),(fun _=>⟨rfl,rfl,rfl⟩)⟩;obtain⟨f9,mw,rb,mu,ao,ee,fv,fl,te,a0,rfl,gv,of,cq,c0,ss⟩:=hrel;by_cases h8:f9<c
 ·have jh:=kC h8
  have hb:=qY 40 gv.out;go_wp2_with fail;refine hb.mono ?_;clear hb;rintro e l8⟨gk,n0,C,rfl,ey,cf,-,ge,gh,-,ew⟩;have me:C<40:=by rcases gh with al|al<;>omega
  have k8:=dD ey;have pa:Xo (zm l8 w.heap.size 41 qA):=cq.beside cf (fun G e=>by cases e;have:=bq.out;omega);have io:=dD (of.trans ew);clear ey cf ew gh;go_upto_region 12 with fail;obtain⟨aw,e7⟩:=kA l8.heap.size;obtain⟨ou,fy⟩:=kB (l8.alloc (Xk #[I6 C,eS] 84));have d6:=gP fy;have re:=xPT fy e7;have s7:=dD (k8.aA d6);have sr:=dD (pa.aA d6);have nk:Xo (FlB w.heap.size M aw ou ⟨⟨Xa ⟨aq,0,Xb⟩,nf,nf⟩,⟨Xa ⟨b0,0,Xb⟩,ns,ns⟩,⟨Xa ⟨t,0,Xb⟩,ns,ns⟩,zJ,⟨Xa ⟨q,0,Xb⟩,nb,nb⟩,mu,ao,zJ,zJ⟩ ⟨Xr nf frF,0,Xr ns 0,Xr ns zt,[],ee,fv,fl,nb,[],[]⟩):=show FlB _ _ _ _ _ _ by rw[<-e7.out];exact k8.rows.flB.aA d6
  have fh:Xo (M<=aw):=dD<|Ry e7.out k8.rows.hw;have nr:Xo (∀G,(ao.x).ownBlock=Xa G->G<aw):=dD<|fun G ab=>by rw[<-e7.out];obtain⟨cl,cj,-,-⟩:=k8.rows.fl;exact(cj.lt G ab).2
  rw[fy,e7.out];clear fy d6;have b9:=re.box.c 0 rfl;have ly:=zcY C ou ge Wm;go_wp2_with fail;refine ly.mono ?_;clear ly b9;rintro e tv⟨rfl,mf⟩;rw[mf];clear mf;have nn:Xo (zaS C<=5):=dD (by unfold zaS;split<;>omega);obtain⟨fm,ih⟩:∃fm:Nat,Xo (zaS C=(fm:Int)):=⟨(zaS C).toNat,show _=_ by unfold zaS;split<;>omega⟩;rw[ih.out];have kv:Xo (0<=C/\C<40):=dD<|⟨ge,me⟩;have rk:fm<=5:=by have:=nn.out;have:=ih.out;omega
  have rv:Xo (FC w M j ou gk n0 ⟨⟨Xa ⟨aq,0,Xb⟩,nf,nf⟩,⟨Xa ⟨b0,0,Xb⟩,ns,ns⟩,⟨Xa ⟨t,0,Xb⟩,ns,ns⟩,zJ,⟨Xa ⟨q,0,Xb⟩,nb,nb⟩,mu,ao,zJ,zJ⟩ ⟨Xr nf frF,0,Xr ns 0,Xr ns zt,[],ee,fv,fl,nb,[],[]⟩ aw C zJ []):=dD<|⟨s7,fh,nk,nr,re,zb.nil _ _ _⟩;have kr:Xo (zg5 fl nb ee fv []/\ee.length=nb):=dD<|⟨c0.1,c0.2.2.1⟩;have ks:=dD c0.2.2.2;have fg:=dD c0.2.1;clear ge me;go_wp2;go_loopg[78] fm (fun eg f3 wr=>∃(d1:Nat)(ag:Sli)(bk:List Int)(k0 ai:Sli)(cv:List (List Int))(ef:List (Int×List Int))(a9:List Int),d1<=fm/\fm-d1<=eg/\f3=I6 d1/\Xo (FC w M j wr ag bk ⟨⟨Xa ⟨aq,0,Xb⟩,nf,nf⟩,⟨Xa ⟨b0,0,Xb⟩,ns,ns⟩,⟨Xa ⟨t,0,Xb⟩,ns,ns⟩,zJ,⟨Xa ⟨q,0,Xb⟩,nb,nb⟩,k0,ao,zJ,zJ⟩ ⟨Xr nf frF,0,Xr ns 0,Xr ns zt,[],cv,ef,fl,nb,[],[]⟩ aw C ai a9)/\Xo (zbr L bk)/\Xo (zm wr w.heap.size 41 qA)/\Xo (zg5 fl nb cv ef a9/\a9.length=d1/\cv.length=nb))
  exact⟨0,gk,n0,mu,zJ,ee,fv,[],nZ _,Wm,rfl,rv,io,sr,(show _/\_ from⟨kr.1,rfl,kr.2⟩)⟩;obtain⟨d1,gm,rd,Q,ai,Z,aa,a9,tf,t8,rfl,ca,f5,ec,cm⟩:=hrel;by_cases h9:d1<fm
  ·have ji:=kC h9
   have hw:=qY (max (nb:Int) 1) ca.mm;go_wp2_with fail;refine hw.mono ?_;clear hw;rintro e ak⟨dv,im,x,rfl,ez,ds,-,ts,-,-,ex⟩;obtain⟨n,rfl⟩:∃n:Nat,x=(n:Int):=⟨x.toNat,Wm⟩;have ff:=dD<|ca.pick ds ez;have ld:Xo (zm ak w.heap.size 41 qA):=ec.kind ds ca.mm.box Dc;have fk:=dD (f5.trans ex);clear ez ds ex ts;go_upto_region 17 with fail;go_cut[78,109]from 78 to 160 (fun f3 mq my=>∃(n9:Bool)(ag:Sli)(bk:List Int),f3=I6 d1/\mq=Xh n9/\Xo (FC w M j my ag bk ⟨⟨Xa ⟨aq,0,Xb⟩,nf,nf⟩,⟨Xa ⟨b0,0,Xb⟩,ns,ns⟩,⟨Xa ⟨t,0,Xb⟩,ns,ns⟩,zJ,⟨Xa ⟨q,0,Xb⟩,nb,nb⟩,Q,ao,zJ,zJ⟩ ⟨Xr nf frF,0,Xr ns 0,Xr ns zt,[],Z,aa,fl,nb,[],[]⟩ aw C ai a9)/\Xo (zbr L bk)/\Xo (zm my w.heap.size 41 qA)/\Xo (n9=Xc->n<nb/\z4 (fl++[⟨C,a9⟩]) (n:Int)=Xd))
   case first=>
    by_cases g4:n<nb
    ·have g6:=kC g4
     have pz:decide ((n:Int)<(nb:Int))=Xc:=Si g6;obtain⟨cl,cj,f0,dh⟩:=ff.fb;have e9:=dD cj;obtain⟨bc,dk⟩:=kA fl.length;have X:Xo (cl.length=bc):=show _=_ by rw[f0];exact dk.out
     have tj:bc<=10:=(by have:=fg.out;have:=dk.out;omega);have s4:Xo (ao.n=bc):=dD (by rw[cj.n];exact X.out);have fi:=dD<|fun(P:Nat)x f(ac:cl[P]?=Xa x)(au:fl[P]?=Xa f)=>(dh P x f ac au).1;clear cj f0 dh;obtain⟨bm,dj⟩:∃bm:FlV,Xo (bm=⟨C,ai.a,ai.n,ai.c⟩):=⟨_,rfl⟩;obtain⟨n2,kx⟩:∃n2,Xo (z4 (fl++[(⟨C,a9⟩:Fl)]) (n:Int)=n2):=⟨z4 (fl++[(⟨C,a9⟩:Fl)]) (n:Int),rfl⟩;have nl:=dD ff.mm.box.box.lt;have rz:Xo (aw≠j):=show _≠_ from fun e=>by
      have ar:ak.heap[aw]?=_:=ff.box;have ad:ak.heap[j]?=_:=ff.mm.box;rw[e,ad]at ar;cases ar
     have kz:Xo (w.heap.size≠j):=dD<|Hm bq.out;obtain⟨l,h⟩:=Ww fun b=>Out j (j+1) ak b/\FCE w M j L ⟨⟨Xa ⟨aq,0,Xb⟩,nf,nf⟩,⟨Xa ⟨b0,0,Xb⟩,ns,ns⟩,⟨Xa ⟨t,0,Xb⟩,ns,ns⟩,zJ,⟨Xa ⟨q,0,Xb⟩,nb,nb⟩,Q,ao,zJ,zJ⟩ ⟨Xr nf frF,0,Xr ns 0,Xr ns zt,[],Z,aa,fl,nb,[],[]⟩ aw C ai a9 b;have A:l ak.drew:=(h _).2 ⟨Out.drew _,dv,im,ff.aA (gW _),fk⟩;have e6:Xo (∀b r3,l b->zc b r3->l r3):=dD<|fun b r3 al k=>by
      obtain⟨ar,ag,bk,ad,bt⟩:=(h _).1 al;exact(h _).2 ⟨ar.trans (Out.aA k),ag,bk,ad.aA k,bt⟩
     have g9:∀a:zh l,a.world.cell? ⟨j,8,Xb⟩=Xa (ao.x):=fun a=>by
      obtain⟨_,_,_,ad,_⟩:=(h _).1 a.holds;exact ad.mm.box.box.c 8 rfl
     have g7:∀a:zh l,a.world.cell? ⟨aw,0,Xb⟩=Xa (I6 C):=fun a=>by
      obtain⟨_,_,_,ad,_⟩:=(h _).1 a.holds;exact ad.box.box.c 0 rfl
     have g8:∀a:zh l,a.world.cell? ⟨aw,1,Xb⟩=Xa (ai.x):=fun a=>by
      obtain⟨_,_,_,ad,_⟩:=(h _).1 a.holds;exact ad.box.box.c 1 rfl
     have ay:Nonempty (zh l):=⟨⟨_,A⟩⟩;refine q4 (I:=l) 25 [(4,⟨fun i=>∃G,i=O (Xa ⟨G,0,Xb⟩) 0 0,fun i b=>zb fvE ak.heap.size b i [],fun H az=>zc H az,fun _=>True⟩),(11,⟨fun i=>(∃cb c,i=O cb bc c)/\(bc=0->∃G,i=O (Xa ⟨G,0,Xb⟩) 0 0),fun i b=>zb fvE ak.heap.size b i cl,fun H az=>zc H az,fun _=>True⟩),(13,⟨fun i=>∃G,i=O (Xa ⟨G,0,Xb⟩) 1 1,fun i b=>zb fvE ak.heap.size b i [bm],fun H az=>zc H az,fun _=>True⟩),(14,⟨fun i=>∃cb c,i=O cb (bc+1) c,fun i b=>zb fvE ak.heap.size b i (cl++[bm]),fun H az=>∀b m,m.length<=bc\/m.length<=1->zb fvE ak.heap.size H b m->zb fvE ak.heap.size az b m,fun _=>True⟩),(17,⟨fun i=>i=Xh n2,fun _ _=>True,fun H az=>zc H az,fun _=>True⟩),(22,⟨fun i=>∃x:Int,i=I6 x,fun _ _=>True,fun H az=>Out j (j+1) H az,fun _=>True⟩)] A zY Kr rfl rfl Dc ?hS ?hp ?hpre ?hpr0 ?_;case hS=>
      intro x ac;simp only[mC,nM,or_false]at ac;rcases ac with rfl|rfl|rfl|rfl|rfl|rfl;·exact⟨_,0,rfl⟩
      ·by_cases h5:bc=0
       ·exact⟨O (Xa ⟨0,0,Xb⟩) 0 0,⟨Xa ⟨0,0,Xb⟩,0,by rw[h5]⟩,fun _=>⟨0,rfl⟩⟩
       exact⟨O Xb bc 0,⟨_,_,rfl⟩,fun al=>absurd al h5⟩
      ·exact⟨_,0,rfl⟩
      ·exact⟨_,Xb,0,rfl⟩
      ·exact⟨_,rfl⟩
      exact⟨_,0,rfl⟩
     case hp=>
      intro k s du gi ax av g3 lv i H az b7 bv;have ah:=zC ax;have b5:=zC av;clear ax av;simp only[mC,pJ,nM,or_false]at ah b5;have df:∀ke:List FlV,ke.length<=bc\/ke.length<=1\/du≠14->zb fvE ak.heap.size H i ke->zb fvE ak.heap.size az i ke:=fun ke v0 ae=>by
       rcases b5 with⟨rfl,rfl⟩|⟨rfl,rfl⟩|⟨rfl,rfl⟩|⟨rfl,rfl⟩|⟨rfl,rfl⟩|⟨rfl,rfl⟩;·exact zb.aA ae b7
       ·exact zb.aA ae b7
       ·exact zb.aA ae b7
       ·exact b7 i ke Wm ae
       ·exact zb.aA ae b7
       exact ae.cF b7 (fun G ab=>by have:=(ae.lt G ab).1;have:=nl.out;omega)
      rcases ah with⟨rfl,rfl⟩|⟨rfl,rfl⟩|⟨rfl,rfl⟩|⟨rfl,rfl⟩|⟨rfl,rfl⟩|⟨rfl,rfl⟩;·exact df _ (.inl (nZ _)) bv
      ·exact df _ (.inl (by rw[X.out];exact nR _)) bv
      ·exact df _ (.inr (.inl (nR _))) bv
      ·exact df _ (.inr (.inr (fun e=>g3 e))) bv
      ·trivial
      trivial
     case hpre=>
      intro du gi k s av ax g3 H az b7 b6;have b5:=zC av;clear ax av;simp only[mC,pJ,nM,or_false]at b5;rcases b5 with⟨rfl,rfl⟩|⟨rfl,rfl⟩|⟨rfl,rfl⟩|⟨rfl,rfl⟩|⟨rfl,rfl⟩|⟨rfl,rfl⟩<;>trivial
     case hpr0=>
      intro k gi ax;have ah:=zC ax;clear ax;simp only[mC,pJ,nM,or_false]at ah;rcases ah with⟨rfl,rfl⟩|⟨rfl,rfl⟩|⟨rfl,rfl⟩|⟨rfl,rfl⟩|⟨rfl,rfl⟩|⟨rfl,rfl⟩<;>trivial
     simp only[Xz,Ya];iterate 4 refine zs ?_
     refine zT rfl rfl (fun w' d b6 bu=>?_) (fun di U=>?_);·have ab:=((h _).1 d).1;exact zO.step (v:=O (Xa ⟨w'.heap.size,0,Xb⟩) 0 0) (w':=w'.alloc (Xk #[] 84)) (by simp only[execOp];go_simp) ⟨e6 _ _ d (za _ _),za _ _,⟨_,rfl⟩,(zb.made fvE w').base ab.size⟩
     obtain⟨aj,rfl⟩:=U;refine Uq ?_;refine zs ?_;refine Q2 (.tmp 90) ⟨j,0,Xb⟩ rfl rfl rfl rfl ?_;refine Uq ?_;iterate 4 refine zs ?_
     refine zT rfl rfl (fun w' d b6 bu=>?_) (fun di U=>?_)
     ·have ab:=((h _).1 d).1;have h5:zb fvE ak.heap.size w' (O (Xa ⟨aj,0,Xb⟩) 0 0) []:=bu 4 Kr
      have sx:=e9.cF ab (fun G am e=>by
       obtain⟨fu,bn⟩:=e9.obj am;have bt:ak.heap[j]?=_:=ff.mm.box;rw[e,bt]at bn
       cases bn)
      obtain⟨fd,bz,a7,ae,a0,ga⟩:=Ql (E:=fvE) (w:=w') 35 h5 (ao.x) cl sx.at ab.size;obtain⟨ed,dx,rfl⟩:=ae.form;refine zO.step (v:=O ed cl.length dx) (w':=bz) ?_ ⟨e6 _ _ d a0,a0,⟨⟨ed,dx,by rw[X.out]⟩,fun al=>⟨aj,ga (eN (Rx X.out al))⟩⟩,ae⟩;simp only[execOp,resolve,invoke,builtin,pure_bind,Xv,Xy,Xt,mP,Xu];exact Eq.trans (congrArg (fun jz=>Result.andThen jz (fun cb w'=>Result.ok (Next.value cb) w')) a7) rfl
     obtain⟨⟨kb,kc,rfl⟩,js⟩:=U;refine Uq ?_;refine zs ?_;refine zT rfl rfl (fun w' d b6 bu=>?_) (fun di U=>?_);·have ab:=((h _).1 d).1;exact zO.step (v:=O (Xa ⟨w'.heap.size,0,Xb⟩) 1 1) (w':=w'.alloc (Xk #[I6 C,ai.x] 84)) (by simp only[execOp];go_simp) ⟨e6 _ _ d (za _ _),za _ _,⟨_,rfl⟩,by rw[dj.out];exact(zo0 w' ⟨C,ai.a,ai.n,ai.c⟩).base ab.size⟩
     obtain⟨d6,rfl⟩:=U;refine Uq ?_;refine zT rfl rfl (fun w' d b6 bu=>?_) (fun di U=>?_)
     ·have ab:=((h _).1 d).1;have d2:zb fvE ak.heap.size w' (O kb bc kc) cl:=bu 11 Kr;have jw:zb fvE ak.heap.size w' (O (Xa ⟨d6,0,Xb⟩) 1 1) [bm]:=bu 13 Kr;have qk:∃fd bz,(Builtin.append_ #[35,35] 35 #[O kb bc kc,O (Xa ⟨d6,0,Xb⟩) 1 1]).run prog w'=.ok fd bz/\zb fvE ak.heap.size bz fd (cl++[bm])/\l bz/\∀b m,m.length<=bc\/m.length<=1->zb fvE ak.heap.size w' b m->zb fvE ak.heap.size bz b m:=by
       by_cases h5:bc=0
       ·have qh:cl=[]:=eN (Rx X.out h5)
        subst qh;obtain⟨G,px⟩:=js h5;rw[px]at d2⊢;obtain⟨fd,bz,a7,ae,a0,_⟩:=Ql (E:=fvE) (w:=w') 35 d2 (O (Xa ⟨d6,0,Xb⟩) 1 1) [bm] jw.at ab.size;exact⟨fd,bz,a7,ae,e6 _ _ d a0,fun b m _ al=>al.aA a0⟩
       obtain⟨fd,bz,a7,ae,V,ax⟩:=qP (E:=fvE) (w:=w') 35 d2 (O (Xa ⟨d6,0,Xb⟩) 1 1) [bm] jw.at (by rw[X.out];show(bc+1)*32<=_;omega) ab.size;refine⟨fd,bz,a7,ae,?_,fun b m v2 al=>ax b m (by rw[X.out];omega) al⟩;obtain⟨ar,ag,bk,ad,bt⟩:=(h _).1 d;obtain⟨kd,tw,eo⟩:=d2.aG (by rw[X.out];omega);obtain⟨fu,fz⟩:=d2.obj (g:=kd) (Rr eo);have bo:w'.grownBy bz (Xa kd):=(by rw[eo]at V;exact V);have g2:=(d2.lt kd (Rr eo)).1;have tl:=ff.box.box.lt;refine(h _).2 ⟨⟨bo.os.trans ar.os,bo.tape.trans ar.tape,bo.output.trans ar.output,nT ar.size bo.size,fun k ah ps=>(bo.block k (Nat.lt_of_lt_of_le ah ar.size) (fun e=>by cases e;omega)).trans (ar.block k ah ps)⟩,ag,bk,ad.fresh bo fz Wm,bt⟩
      obtain⟨fd,bz,a7,ae,pq,ax⟩:=qk;obtain⟨ed,dx,rfl⟩:=ae.form;refine zO.step (v:=.slice ed (cl++[bm]).length dx) (w':=bz) ?_ ⟨pq,ax,⟨ed,dx,by rw[lA,X.out];rfl⟩,ae⟩;simp only[execOp,resolve,invoke,builtin,pure_bind,Xv,Xy,Xt,mP,Xu];exact Eq.trans (congrArg (fun jz=>Result.andThen jz (fun cb w'=>Result.ok (Next.value cb) w')) a7) rfl
     obtain⟨n4,gy,rfl⟩:=U;refine Uq ?_;iterate 2 refine zs ?_
     refine zT rfl rfl (fun w' d b6 bu=>?_) (fun di U=>?_)
     ·obtain⟨ar,ag,bk,ad,bt⟩:=(h _).1 d;have jx:zb fvE ak.heap.size w' (O n4 (bc+1) gy) (cl++[bm]):=bu 14 Kr;have pv:qH w' (O n4 (bc+1) gy) (fl++[⟨C,a9⟩]):=by
       refine⟨jx.cap,cl++[bm],jx.at.s0,by rw[lA,lA,X.out,dk.out];rfl,fun P x f ac au=>?_⟩;rcases Nat.lt_or_ge P bc with ep|ep
       ·rw[Xw (Rx X.out ep)]at ac
        rw[Xw (Rx dk.out ep)]at au
        obtain⟨d5,cu⟩:=fi.out P x f ac au;exact⟨d5,(cu.cF ar (fun G am e=>by
         obtain⟨fu,bn⟩:=cu.obj am;have bt:ak.heap[j]?=_:=ff.mm.box;rw[e,bt]at bn
         cases bn)).at.s0⟩
       rw[aR (Rx X.out ep),X.out]at ac;rw[aR (Rx dk.out ep),dk.out]at au;have py:P-bc=0:=by
        have:=(gS.1 ac).1;simp at this;omega
       rw[py]at ac au;cases ac;cases au;rw[dj.out];exact⟨rfl,ad.row.at.s0⟩
      refine zO.call [Xi #[O n4 (bc+1) gy,I6 0],I6 (n:Int)] rfl func24 rfl rfl rfl ?_;refine(zkc (O n4 (bc+1) gy) (fl++[⟨C,a9⟩]) 0 (n:Int) w' pv).mono ?_;rintro e k4⟨rfl,a0⟩;exact⟨_,rfl,e6 _ _ d a0,a0,by rw[kx.out],trivial⟩
     subst U;refine Uq ?_;iterate 3 refine zs ?_
     cases n2 with
     |true=>
      refine zel ?_;refine zel ?_;refine zel ?_;refine zs ?_;refine Zv fun sn ek j5=>?_;obtain⟨ar,f4,l1,ad,bt⟩:=(h _).1 ek;have gn:=dD ad;have dm:=dD bt;have ka:=dD<|ld.cF ar kz.out;clear ek j5 A g9 g7 g8 ay ar ad bt js;go_wp2;go_meet;exact⟨Xd,f4,l1,rfl,rfl,gn,dm,ka,fun al=>(by cases al)⟩
     |false=>
      refine zs ?_;refine zT rfl rfl (fun w' d b6 bu=>?_) (fun di U=>?_)
      ·obtain⟨ar,ag,bk,ad,bt⟩:=(h _).1 d;refine zO.call [Xj (Xa ⟨j,0,Xb⟩),I6 3] rfl func22 rfl rfl rfl ?_;refine(qY 3 ad.mm).mono ?_;rintro e k4⟨mw,rb,a,rfl,qm,br,-,-,-,-,ql⟩;have ma:Out j (j+1) w' k4:=Out.grown br (fun G e=>by cases e;omega);exact⟨_,rfl,(h _).2 ⟨ar.trans ma,mw,rb,ad.pick br qm,bt.trans ql⟩,ma,⟨a,rfl⟩,trivial⟩
      obtain⟨x,rfl⟩:=U;refine Uq ?_;iterate 2 refine zs ?_
      refine Zv fun sn ek j5=>?_;obtain⟨ar,f4,l1,ad,bt⟩:=(h _).1 ek;have gn:=dD ad;have dm:=dD bt;have ka:=dD<|ld.cF ar kz.out;have dl:Xo (decide (0<x)=Xc->n<nb/\z4 (fl++[⟨C,a9⟩]) (n:Int)=Xd):=show _->_ from fun _=>⟨g4,kx⟩;clear ek j5 A g9 g7 g8 ay ar ad bt js;go_wp2;go_meet;exact⟨decide (0<x),f4,l1,rfl,rfl,gn,dm,ka,dl⟩
    have g6:=kD g4;have pz:decide ((n:Int)<(nb:Int))=Xd:=Si g6;clear g4;go_quiet(fail);go_wp2;go_meet;exact⟨Xd,dv,im,rfl,rfl,ff.aA (show Below _ _ _ from bD (bR _ _) _),fk,ld.aA (show Below _ _ _ from bD (bR _ _) _),fun al=>(by cases al)⟩
   obtain⟨n9,f4,l1,rfl,rfl,gn,dm,ka,o9⟩:=hcut;go_upto_if 109 with fail
   go_cut[13,15,16,78]from 78 to 160 (fun qp tp tq f3 my=>∃(gx:Int)(ag:Sli)(bk:List Int)(k0:Sli)(cv:List (List Int))(ef:List (Int×List Int)),qp=I6 gx/\f3=I6 d1/\Xo (FC w M j my ag bk ⟨⟨Xa ⟨aq,0,Xb⟩,nf,nf⟩,⟨Xa ⟨b0,0,Xb⟩,ns,ns⟩,⟨Xa ⟨t,0,Xb⟩,ns,ns⟩,zJ,⟨Xa ⟨q,0,Xb⟩,nb,nb⟩,k0,ao,zJ,zJ⟩ ⟨Xr nf frF,0,Xr ns 0,Xr ns zt,[],cv,ef,fl,nb,[],[]⟩ aw C ai a9)/\Xo (zbr L bk)/\Xo (zm my w.heap.size 41 qA)/\Xo (zg5 fl nb cv ef (a9++[gx])/\cv.length=nb))
   case first=>
    cases n9 with
    |false=>
     go_wp2;go_meet;exact⟨-1,f4,l1,Q,Z,aa,rfl,rfl,gn,dm,ka,(show _/\_ from⟨cm.1.none,cm.2.2⟩)⟩
    |true=>
     obtain⟨g4,dy⟩:=o9.out rfl;have dl:Xo (z4 fl (n:Int)=Xd/\(n:Int)∉a9):=dD<|by
      have ad:¬(n:Int)∈Jg (fl++[⟨C,a9⟩]):=fun al=>(by rw[(Jm _ _).2 al]at dy;cases dy);have bt:Jg (fl++[⟨C,a9⟩])=Jg fl++a9:=(by simp[Jg]);rw[bt,Xx]at ad;refine⟨?_,fun al=>ad (.inr al)⟩;cases e:z4 fl (n:Int)with
      |false=>rfl
      |true=>exact absurd (.inl ((Jm _ _).1 e)) ad
     have g6:=kC g4;clear dy;have mb:=zdx gn.mm;go_wp2_with fail;refine mb.mono ?_;clear mb;rintro e dw⟨ba,ea,jy,rfl,mp,mn,j4,ml⟩;have ib:=dD<|gn.pick j4 mn;have ft:Xo (zm dw w.heap.size 41 qA):=ka.kind j4 gn.mm.box Dc;have co:=dD (dm.trans ml);clear mn j4 ml;obtain⟨n7,ju,jv,d2,i4,jw,jx,n8,rfl⟩:=zc2 jy mp;clear mp;simp only[pgc,mP,Xu];go_upto_region 20 with fail;obtain⟨af,ii⟩:=kA dw.heap.size;obtain⟨ot,d8⟩:=kB (dw.alloc (Xk #[U8 n7,U8 ju,U8 jv,U8 d2,U8 i4,U8 jw,U8 jx,U8 n8] 44));have j3:=gP d8;have oj:Xo (zm ot af 44 (pgc [n7,ju,jv,d2,i4,jw,jx,n8])):=dD (by rw[<-d8];exact zm.aE _ (pgc [n7,ju,jv,d2,i4,jw,jx,n8]) _ ii.symm);have ng:=dD (ib.aA j3);have ov:=dD (ft.aA j3);have fh:Xo (M<=af):=show _<=_ by rw[<-ii.out];exact ib.mm.rows.hw
     rw[d8,ii.out];clear d8 j3;go_wp2;go_loopg[113] 8 (fun eg mr wr=>∃(P:Nat)(gd:List Int),P<=8/\8-P<=eg/\mr=I6 P/\Xo (FC w M j wr ba ea ⟨⟨Xa ⟨aq,0,Xb⟩,nf,nf⟩,⟨Xa ⟨b0,0,Xb⟩,ns,ns⟩,⟨Xa ⟨t,0,Xb⟩,ns,ns⟩,zJ,⟨Xa ⟨q,0,Xb⟩,nb,nb⟩,Q,ao,zJ,zJ⟩ ⟨Xr nf frF,0,Xr ns 0,Xr ns zt,[],Z,aa,fl,nb,[],[]⟩ aw C ai a9)/\Xo (zm wr af 44 (pgc gd))/\Xo (gd.length=8)/\Xo (zm wr w.heap.size 41 qA))
     exact⟨0,[n7,ju,jv,d2,i4,jw,jx,n8],nZ _,Wm,rfl,ng,oj,rfl,ov⟩;obtain⟨P,gd,td,t9,rfl,c0,fo,n1,cq⟩:=hrel;by_cases m3:P<8
     ·have jj:(P:Int)<8:=Wm
      obtain⟨z,ga⟩:∃z,gd[P]?=Xa z:=⟨_,gE (Rx n1.out m3)⟩;have v8:=fo.box.c P (zhC ga);have v9:=fo.box.f;have mz:=c0.box.box.c 0 rfl;clear ga;by_cases bn:C<=8*(d1:Int)+(P:Int)
      ·have pt:decide (C<=8*(d1:Int)+(P:Int))=Xc:=Si bn
       have nt:Xo (wr.grownBy (wr.setCell ⟨af,P,Xb⟩ (U8 0)) (Xa af)):=jV _ _ _ _;have ol:Xo (zm (wr.setCell ⟨af,P,Xb⟩ (U8 0)) af 44 (pgc (gd.set P 0))):=show zm _ _ _ _ by rw[zd9];exact fo.set P _
       have nh:Xo (FC w M j (wr.setCell ⟨af,P,Xb⟩ (U8 0)) ba ea ⟨⟨Xa ⟨aq,0,Xb⟩,nf,nf⟩,⟨Xa ⟨b0,0,Xb⟩,ns,ns⟩,⟨Xa ⟨t,0,Xb⟩,ns,ns⟩,zJ,⟨Xa ⟨q,0,Xb⟩,nb,nb⟩,Q,ao,zJ,zJ⟩ ⟨Xr nf frF,0,Xr ns 0,Xr ns zt,[],Z,aa,fl,nb,[],[]⟩ aw C ai a9):=c0.kind nt fo Dc Dc (c0.mm.page fo fh nt) rfl rfl;have ox:Xo (zm (wr.setCell ⟨af,P,Xb⟩ (U8 0)) w.heap.size 41 qA):=cq.kind nt fo Dc;go_wp2;go_roundg (8-(P+1));exact⟨P+1,gd.set P 0,Wm,Wm,Gn,nh,ol,(show(gd.set P 0).length=8 by rw[List.length_set];exact n1),ox⟩;omega
      have pt:decide (C<=8*(d1:Int)+(P:Int))=Xd:=Si bn;go_wp2;go_roundg (8-(P+1));exact⟨P+1,gd,Wm,Wm,Gn,c0,fo,n1,cq⟩;omega
     have jj:¬(P:Int)<8:=Wm;obtain⟨b9,bd,be,bf,bg,bh,bi,bj,rfl⟩:=zc2 gd n1.out;go_upto_region 26 with fail;obtain⟨l,h⟩:=Ww fun b=>zc wr b;have A:=(h _).2 (gW _);have cd:Xo (∀b,l b->zm b af 44 (pgc [b9,bd,be,bf,bg,bh,bi,bj])):=dD<|fun b dy=>fo.aA ((h _).1 dy);have qf:=fun a:zh l=>(c0.mm.box.box.aA ((h _).1 a.holds)).c 6 rfl;have j9:=fun a:zh l=>(cd _ a.holds).box.c 0 rfl;have ja:=fun a:zh l=>(cd _ a.holds).box.c 1 rfl;have jb:=fun a:zh l=>(cd _ a.holds).box.c 2 rfl;have jc:=fun a:zh l=>(cd _ a.holds).box.c 3 rfl;have jd:=fun a:zh l=>(cd _ a.holds).box.c 4 rfl;have je:=fun a:zh l=>(cd _ a.holds).box.c 5 rfl;have jf:=fun a:zh l=>(cd _ a.holds).box.c 6 rfl;have jg:=fun a:zh l=>(cd _ a.holds).box.c 7 rfl;have ay:Nonempty (zh l):=⟨⟨_,A⟩⟩;refine q4 (I:=l) 9 [] A zY Kr rfl rfl Dc (fun x ac=>by cases ac) (fun k s du gi ax=>by cases ax) (fun du gi k s av=>by cases av) (fun k gi ax=>by cases ax) ?_;simp only[Xz,Ya];refine zs ?_;refine Q2 (.tmp 126) ⟨j,0,Xb⟩ rfl rfl rfl rfl ?_;refine Uq ?_;iterate 7 refine zs ?_
     refine Zv fun sl h6 _=>?_;have cw:=(h _).1 h6;refine Qc rfl (.tmp 134) (.tmp 133) rfl w.heap.size (O (Xa ⟨q,0,Xb⟩) nb nb) Z (c0.aA cw).mm.rows.db q n rfl (Rx cm.2.2 g4) [b9,bd,be,bf,bg,bh,bi,bj] rfl _ rfl (by first|rfl|simp) rfl ?_;intro l7 i5 ce i9;obtain⟨-,li,en⟩:=Jp (c0.aA cw).mm.rows.db (g:=q) rfl;have fe:Xo (FC w M j l7 ba ea ⟨⟨Xa ⟨aq,0,Xb⟩,nf,nf⟩,⟨Xa ⟨b0,0,Xb⟩,ns,ns⟩,⟨Xa ⟨t,0,Xb⟩,ns,ns⟩,zJ,⟨Xa ⟨q,0,Xb⟩,nb,nb⟩,Q,ao,zJ,zJ⟩ ⟨Xr nf frF,0,Xr ns 0,Xr ns zt,[],(Z.set n [b9,bd,be,bf,bg,bh,bi,bj]),aa,fl,nb,[],[]⟩ aw C ai a9):=(c0.aA cw).kind ce en Dc Dc ((c0.aA cw).mm.setDb rfl ce i9 (zd0 nf) i5).1 rfl rfl;have oy:=dD ((cq.aA cw).kind ce en Dc);have om:Xo (zm l7 af 44 (pgc [b9,bd,be,bf,bg,bh,bi,bj])):=(fo.aA cw).beside ce (fun G e=>by cases e;have:=(c0.mm.rows.bG q rfl);have:=fh.out;omega);clear h6 cw i5 ce i9 li en A qf ay;clear j9 ja jb jc jd je jf jg;have et:=qY 2 fe.mm;go_wp2_with fail;refine et.mono ?_;clear et;rintro e dr⟨bp,fj,a,rfl,i2,d7,-,-,-,-,i1⟩;have N:=dD<|fe.pick d7 i2;have it:Xo (zm dr w.heap.size 41 qA):=oy.kind d7 fe.mm.box Dc;have on:Xo (zm dr af 44 (pgc [b9,bd,be,bf,bg,bh,bi,bj])):=om.kind d7 fe.mm.box Dc;have gu:=dD (co.trans i1);clear i2 d7 i1;have kq:Xo ((Z.set n [b9,bd,be,bf,bg,bh,bi,bj]).length=nb):=show _=_ by rw[List.length_set];exact cm.2.2
     by_cases n6:a=1
     ·have qi:(a==1)=Xc:=by simp[n6]
      clear n6;go_upto_region 28 with fail;have ie:=dD N.mm.rows.dq;have nz:Xo (aa.length<=1000):=show _<=_ by
       have ar:=cm.1.ql;have ad:=zg3 ((qJ _ _).1 cm.1.st).2.1;have bt:=((qJ _ _).1 cm.1.st).1.1;have ty:=cm.2.1;omega
      obtain⟨l,h⟩:=Ww fun b=>zm b j 81 [bp.x,O (Xa ⟨aq,0,Xb⟩) nf nf,I6 0,O (Xa ⟨b0,0,Xb⟩) ns ns,O (Xa ⟨t,0,Xb⟩) ns ns,eS,O (Xa ⟨q,0,Xb⟩) nb nb,Q.x,ao.x,I6 (nb:Int),eS,eS,eS]/\zm b af 44 (pgc [b9,bd,be,bf,bg,bh,bi,bj]);have A:l dr.drew:=(h _).2 ⟨N.mm.box.aA (gW _),on.aA (gW _)⟩;have cd:Xo (∀b,l b->zm b af 44 (pgc [b9,bd,be,bf,bg,bh,bi,bj])):=dD<|fun b dy=>((h _).1 dy).2;have qg:=fun a:zh l=>((h _).1 a.holds).1.box.c 7 rfl;have j9:=fun a:zh l=>(cd _ a.holds).box.c 0 rfl;have ja:=fun a:zh l=>(cd _ a.holds).box.c 1 rfl;have jb:=fun a:zh l=>(cd _ a.holds).box.c 2 rfl;have jc:=fun a:zh l=>(cd _ a.holds).box.c 3 rfl;have jd:=fun a:zh l=>(cd _ a.holds).box.c 4 rfl;have je:=fun a:zh l=>(cd _ a.holds).box.c 5 rfl;have jf:=fun a:zh l=>(cd _ a.holds).box.c 6 rfl;have jg:=fun a:zh l=>(cd _ a.holds).box.c 7 rfl;have ay:Nonempty (zh l):=⟨⟨_,A⟩⟩;refine zH (I:=l) 16 [(10,fun i=>∃G,i=O (Xa ⟨G,0,Xb⟩) 1 1),(11,fun i=>∃cb n c,i=O cb n c)] (fun b=>zc dr b) A (gW _) zY Kr rfl rfl Dc (Sb ⟨_,0,rfl⟩ ⟨_,Xb,0,0,rfl⟩) Kr ?_;simp only[Xz,Ya];iterate 2 refine zg ?_
      refine zQ (.tmp 139) ⟨j,0,Xb⟩ rfl rfl rfl rfl ?_;refine Uq ?_;iterate 7 refine zg ?_
      refine zy rfl rfl (fun i b=>zc dr b/\∃G,i=O (Xa ⟨G,0,Xb⟩) 1 1/\jY b ⟨G,0,Xb⟩ (ptc ((n:Int),[b9,bd,be,bf,bg,bh,bi,bj]))) (fun w' d cx=>?_) (fun di U=>?_);·exact zO.step (v:=O (Xa ⟨w'.heap.size,0,Xb⟩) 1 1) (w':=w'.alloc (Xk #[I6 (n:Int),U8 b9,U8 bd,U8 be,U8 bf,U8 bg,U8 bh,U8 bi,U8 bj] 88)) (by simp only[execOp];go_simp) ⟨(h _).2 ⟨((h _).1 d).1.aA (za _ _),((h _).1 d).2.aA (za _ _)⟩,⟨_,rfl⟩,cx.trans (za _ _),_,rfl,jY.aE w' (ptc ((n:Int),[b9,bd,be,bf,bg,bh,bi,bj])) _ rfl⟩
      obtain⟨d6,rfl⟩:=U;refine Uq ?_;refine zy rfl rfl (fun i b=>∃u0,zc dr u0/\u0.grownBy b (Q.x).ownBlock/\zu w.heap.size b i (aa++[((n:Int),[b9,bd,be,bf,bg,bh,bi,bj])])) (fun w' d cx=>?_) (fun di U=>?_)
      ·obtain⟨am,G,m1,pu⟩:=cx;have m2:d6=G:=by
        simp only[vJ,Option.some.injEq,Addr.mk.injEq]at m1;exact m1.1.1
       subst m2;obtain⟨fd,bz,a7,ae,V⟩:=zfd (w:=w') 32 (ie.aA am) d6 ((n:Int),[b9,bd,be,bf,bg,bh,bi,bj]) rfl pu nz (nT (bS N.mm.gr) (bS am));obtain⟨ed,qn,dx,rfl⟩:=ae.slice;have j7:l bz:=by
        cases a5:(Q.x).ownBlock with
        |none=>
         rw[a5]at V;exact(h _).2 ⟨((h _).1 d).1.aA (qV V),((h _).1 d).2.aA (qV V)⟩
        |some lq=>
         rw[a5]at V;obtain⟨-,fu,bn⟩:=zbz (ie.aA am) a5;exact(h _).2 ⟨((h _).1 d).1.kind V bn Dc,((h _).1 d).2.kind V bn Dc⟩
       refine zO.step (v:=O ed qn dx) (w':=bz) ?_ ⟨j7,⟨ed,qn,dx,rfl⟩,w',am,V,ae⟩;simp only[execOp,resolve,invoke,builtin,pure_bind,Xv,Xy,Xt,mP,Xu];exact Eq.trans (congrArg (fun jz=>Result.andThen jz (fun cb w'=>Result.ok (Next.value cb) w')) a7) rfl
      obtain⟨lj,lm,lk,rfl⟩:=U;refine Uq ?_;refine zQ (.tmp 138) ⟨j,0,Xb⟩ rfl rfl rfl rfl ?_;refine Uq ?_;iterate 3 refine zg ?_
      refine qE fun Y cg ei=>?_;obtain⟨u0,aj,r,ci⟩:=ei;have W:=dD<|((h _).1 cg).1;have iq:=dD<|(N.mm.rows.aA aj).addDq r ⟨lj,lm,lk⟩ (zd0 nf) ci;have eq:zc w Y/\FlB w.heap.size M aw Y ⟨⟨Xa ⟨aq,0,Xb⟩,nf,nf⟩,⟨Xa ⟨b0,0,Xb⟩,ns,ns⟩,⟨Xa ⟨t,0,Xb⟩,ns,ns⟩,zJ,⟨Xa ⟨q,0,Xb⟩,nb,nb⟩,Q,ao,zJ,zJ⟩ ⟨Xr nf frF,0,Xr ns 0,Xr ns zt,[],Z.set n [b9,bd,be,bf,bg,bh,bi,bj],aa,fl,nb,[],[]⟩/\zm Y aw 84 [I6 C,ai.x]/\zb blE (aw+1) Y (ai.x) a9/\zm Y w.heap.size 41 qA:=by
       cases a5:(Q.x).ownBlock with
       |none=>
        rw[a5]at r;have k:=qV r;exact⟨(N.mm.gr.trans aj).trans k,(N.fb.aA aj).aA k,(N.box.aA aj).aA k,(N.row.aA aj).aA k,(it.aA aj).aA k⟩
       |some lq=>
        rw[a5]at r;obtain⟨pw,fu,bn⟩:=zbz (ie.aA aj) a5;exact⟨zd (N.mm.gr.trans aj) r pw,(N.fb.aA aj).kind r bn (.inl Dc) (.inl Dc),(N.box.aA aj).kind r bn Dc,(N.row.aA aj).kind r bn Dc,(it.aA aj).kind r bn Dc⟩
      obtain⟨ln,rh,ri,rj,lo⟩:=eq;have kn:=dD ln;have ki:=dD rh;have l3:=dD ri;have l4:=dD rj;have iu:=dD lo;clear ln rh ri rj lo u0 aj r ci cg A qg ay;clear j9 ja jb jc jd je jf jg;obtain⟨fp,d9⟩:=kB (Y.setCell ⟨j,7,Xb⟩ (O lj lm lk));have K:Y.grownBy fp (Xa j):=(by rw[<-d9];exact jV _ _ _ _);have ip:Mk w M fp j bp fj ⟨⟨Xa ⟨aq,0,Xb⟩,nf,nf⟩,⟨Xa ⟨b0,0,Xb⟩,ns,ns⟩,⟨Xa ⟨t,0,Xb⟩,ns,ns⟩,zJ,⟨Xa ⟨q,0,Xb⟩,nb,nb⟩,⟨lj,lm,lk⟩,ao,zJ,zJ⟩ ⟨Xr nf frF,0,Xr ns 0,Xr ns zt,[],Z.set n [b9,bd,be,bf,bg,bh,bi,bj],aa++[((n:Int),[b9,bd,be,bf,bg,bh,bi,bj])],fl,nb,[],[]⟩ zJ []:=⟨zd kn K N.mm.hb,N.mm.hb,by rw[<-d9];exact W.set 7 _,N.mm.lr,N.mm.lc,N.mm.lb,iq.var K W K.size (.inl rfl)⟩;have nj:Xo (FC w M j fp bp fj ⟨⟨Xa ⟨aq,0,Xb⟩,nf,nf⟩,⟨Xa ⟨b0,0,Xb⟩,ns,ns⟩,⟨Xa ⟨t,0,Xb⟩,ns,ns⟩,zJ,⟨Xa ⟨q,0,Xb⟩,nb,nb⟩,⟨lj,lm,lk⟩,ao,zJ,zJ⟩ ⟨Xr nf frF,0,Xr ns 0,Xr ns zt,[],(Z.set n [b9,bd,be,bf,bg,bh,bi,bj]),(aa++[((n:Int),[b9,bd,be,bf,bg,bh,bi,bj])]),fl,nb,[],[]⟩ aw C ai a9):=dD<|⟨ip,N.hp,(ki.kind K W (.inl Dc) (.inl Dc)).as rfl rfl,N.fn,l3.kind K W Dc,l4.kind K W Dc⟩;have iv:Xo (zm fp w.heap.size 41 qA):=iu.kind K W Dc;have ky:=dD d9;have v5:=W.box.c 7 rfl;have na:=W.box.f;clear d9 K;go_wp2;rw[ky.out];go_meet;exact⟨(n:Int),bp,fj,⟨lj,lm,lk⟩,_,_,rfl,rfl,nj,gu,iv,(show _/\_ from⟨cm.1.block (more:=true) (Rx cm.2.2 g4) dl.1 dl.2,kq⟩)⟩
     have qi:(a==1)=Xd:=(by simp[n6]);clear n6;go_wp2;go_meet;exact⟨(n:Int),bp,fj,Q,_,_,rfl,rfl,N,gu,it,(show _/\_ from⟨cm.1.block (more:=false) (Rx cm.2.2 g4) dl.1 dl.2,kq⟩)⟩
   obtain⟨gx,ba,ea,qt,pi,pj,rfl,rfl,ib,co,ft,kl⟩:=hcut;have k7:=ib.box.box.c 1 rfl;have ko:=dD cm.2.1;have o8:=dD ib.box.box.lt;go_wp2_with(at_builtin;refine zw (E:=blE) rfl (.tmp 155) (.tmp 157) rfl (aw+1) _ a9 rfl (ib.row.aA (za _ _)) _ [gx] rfl (Zp blE wc gx _ _ rfl Dc) ?qb ?qc ?_)
   case qb=>
    rw[ko.out];show(d1+1)*8<=_;omega
   case qc=>exact nT o8 (bS (za _ _))
   intro v3 Y gb cf;obtain⟨lg,iy,rfl⟩:=gb.form;obtain⟨oi,lu⟩:=kB ((a9++[gx]).length);rw[lu]at gb⊢;clear lu;obtain⟨so,j6⟩:=kB (wc.alloc (Xk #[I6 gx] 3));have pk:=gP j6;have gz:so.grownBy Y (ai.x).ownBlock:=Ry j6 cf;clear cf j6;obtain⟨lh,mj,lp⟩:=(ib.aA pk).addB gz ⟨lg,oi,iy⟩ gb;have ni:=dD lp;have iu:Xo (zm (Y.setCell ⟨aw,1,Xb⟩ (O lg oi iy)) w.heap.size 41 qA):=mj _ _ _ Dc Dc (ft.aA pk);have W:=dD lh;clear lh mj lp gz gb pk k7;have k7:=W.box.c 1 rfl;have v7:=W.box.f;go_wp2;go_roundg (fm-(d1+1));exact⟨d1+1,ba,ea,qt,⟨lg,oi,iy⟩,pi,pj,a9++[gx],Wm,Wm,Gn,ni,co,iu,(show _/\_ from⟨kl.1,by rw[lA,ko.out];rfl,kl.2⟩)⟩;omega
  have ji:=kD h9;obtain rfl:d1=fm:=Wm;go_upto_region 31 with fail;obtain⟨cl,cj,f0,dh⟩:=ca.fb;have e9:=dD cj;have X:=dD f0;have fi:=dD<|fun(P:Nat)x f(ac:cl[P]?=Xa x)(au:fl[P]?=Xa f)=>(dh P x f ac au).1;clear cj f0 dh;obtain⟨bm,dj⟩:∃bm:FlV,Xo (bm=⟨C,ai.a,ai.n,ai.c⟩):=⟨_,rfl⟩;obtain⟨l,h⟩:=Ww fun b=>zm b j 81 [gm.x,O (Xa ⟨aq,0,Xb⟩) nf nf,I6 0,O (Xa ⟨b0,0,Xb⟩) ns ns,O (Xa ⟨t,0,Xb⟩) ns ns,eS,O (Xa ⟨q,0,Xb⟩) nb nb,Q.x,ao.x,I6 (nb:Int),eS,eS,eS]/\zm b aw 84 [I6 C,ai.x];have A:l wr.drew:=(h _).2 ⟨ca.mm.box.aA (gW _),ca.box.aA (gW _)⟩;have g9:=fun a:zh l=>((h _).1 a.holds).1.box.c 8 rfl;have g7:=fun a:zh l=>((h _).1 a.holds).2.box.c 0 rfl;have g8:=fun a:zh l=>((h _).1 a.holds).2.box.c 1 rfl;have ay:Nonempty (zh l):=⟨⟨_,A⟩⟩;refine zH (I:=l) 14 [(8,fun i=>∃G,i=O (Xa ⟨G,0,Xb⟩) 1 1),(9,fun i=>∃cb n c,i=O cb n c)] (fun b=>zc wr b) A (gW _) zY Kr rfl rfl Dc (Sb ⟨_,0,rfl⟩ ⟨_,Xb,0,0,rfl⟩) Kr ?_;simp only[Xz,Ya];iterate 2 refine zg ?_
  refine zQ (.tmp 162) ⟨j,0,Xb⟩ rfl rfl rfl rfl ?_;refine Uq ?_;iterate 5 refine zg ?_
  refine zy rfl rfl (fun i b=>zc wr b/\zq fvE b i [bm]) (fun w' d cx=>?_) (fun di U=>?_);·exact zO.step (v:=O (Xa ⟨w'.heap.size,0,Xb⟩) 1 1) (w':=w'.alloc (Xk #[I6 C,ai.x] 84)) (by simp only[execOp];go_simp) ⟨(h _).2 ⟨((h _).1 d).1.aA (za _ _),((h _).1 d).2.aA (za _ _)⟩,⟨_,rfl⟩,cx.trans (za _ _),Zp fvE w' bm _ _ (Rr dj.out) Dc⟩
  obtain⟨d6,rfl⟩:=U;refine Uq ?_;refine zy rfl rfl (fun i b=>∃u0,zc wr u0/\u0.grownBy b (ao.x).ownBlock/\zb fvE w.heap.size b i (cl++[bm])) (fun w' d cx=>?_) (fun di U=>?_)
  ·obtain⟨am,q0⟩:=cx;obtain⟨fd,bz,a7,ae,V,-⟩:=qP (E:=fvE) (w:=w') 35 (e9.aA am) (O (Xa ⟨d6,0,Xb⟩) 1 1) [bm] q0 (by have:=X.out;have:=fg.out;rw[X.out];show(fl.length+1)*32<=_;omega) (nT (bS ca.mm.gr) (bS am));obtain⟨ed,dx,rfl⟩:=ae.form;have j7:l bz:=by
    cases a5:(ao.x).ownBlock with
    |none=>
     rw[a5]at V;exact(h _).2 ⟨((h _).1 d).1.aA (qV V),((h _).1 d).2.aA (qV V)⟩
    |some lq=>
     rw[a5]at V;obtain⟨fu,bn⟩:=(e9.aA am).obj a5;have dt:=ca.fn lq a5;exact(h _).2 ⟨((h _).1 d).1.kind V bn Dc,((h _).1 d).2.beside V (fun k e=>by cases e;omega)⟩
   refine zO.step (v:=.slice ed (cl++[bm]).length dx) (w':=bz) ?_ ⟨j7,⟨ed,_,dx,rfl⟩,w',am,V,ae⟩;simp only[execOp,resolve,invoke,builtin,pure_bind,Xv,Xy,Xt,mP,Xu];exact Eq.trans (congrArg (fun jz=>Result.andThen jz (fun cb w'=>Result.ok (Next.value cb) w')) a7) rfl
  obtain⟨iz,j1,j0,rfl⟩:=U;refine Uq ?_;refine zQ (.tmp 161) ⟨j,0,Xb⟩ rfl rfl rfl rfl ?_;refine Uq ?_;iterate 3 refine zg ?_
  refine qE fun Y cg ei=>?_;obtain⟨u0,aj,r,ci⟩:=ei;have W:=dD<|((h _).1 cg).1;have iq:Xo (MkR w.heap.size M Y ⟨⟨Xa ⟨aq,0,Xb⟩,nf,nf⟩,⟨Xa ⟨b0,0,Xb⟩,ns,ns⟩,⟨Xa ⟨t,0,Xb⟩,ns,ns⟩,zJ,⟨Xa ⟨q,0,Xb⟩,nb,nb⟩,Q,⟨iz,j1,j0⟩,zJ,zJ⟩ ⟨Xr nf frF,0,Xr ns 0,Xr ns zt,[],Z,aa,fl++[⟨C,a9⟩],nb,[],[]⟩ zJ []):=(ca.mm.rows.aA aj).addFl (e9.aA aj) X (fun P x f ac au=>⟨(fi P x f ac au).1,(fi P x f ac au).2.aA aj⟩) r ⟨iz,j1,j0⟩ (x:=bm) (f:=⟨C,a9⟩) (zd0 nf) (by rw[dj.out]) (by rw[dj.out];exact(ca.row.aA aj).base (Hm ca.hp)) ci;have eq:zc w Y/\zm Y w.heap.size 41 qA:=by
   cases a5:(ao.x).ownBlock with
   |none=>
    rw[a5]at r;exact⟨(ca.mm.gr.trans aj).trans (qV r),(ec.aA aj).aA (qV r)⟩
   |some lq=>
    rw[a5]at r;obtain⟨fu,bn⟩:=(e9.aA aj).obj a5;exact⟨zd (ca.mm.gr.trans aj) r ((e9.aA aj).lt lq a5).1,(ec.aA aj).kind r bn Dc⟩
  obtain⟨ln,lo⟩:=eq;have K:=jV Y j 8 (O iz j1 j0);have ip:Xo (Mk w M (Y.setCell ⟨j,8,Xb⟩ (O iz j1 j0)) j gm rd ⟨⟨Xa ⟨aq,0,Xb⟩,nf,nf⟩,⟨Xa ⟨b0,0,Xb⟩,ns,ns⟩,⟨Xa ⟨t,0,Xb⟩,ns,ns⟩,zJ,⟨Xa ⟨q,0,Xb⟩,nb,nb⟩,Q,⟨iz,j1,j0⟩,zJ,zJ⟩ ⟨Xr nf frF,0,Xr ns 0,Xr ns zt,[],Z,aa,fl++[⟨C,a9⟩],nb,[],[]⟩ zJ []):=dD<|⟨zd ln K ca.mm.hb,ca.mm.hb,W.set 8 _,ca.mm.lr,ca.mm.lc,ca.mm.lb,iq.var K W K.size (.inl rfl)⟩;have iv:Xo (zm (Y.setCell ⟨j,8,Xb⟩ (O iz j1 j0)) w.heap.size 41 qA):=lo.kind K W Dc
  have kj:Xo (zg5 (fl++[⟨C,a9⟩]) nb Z aa []/\(fl++[(⟨C,a9⟩:Fl)]).length<=f9+1/\Z.length=nb/\∀f∈fl++[(⟨C,a9⟩:Fl)],f.size<40):=dD<|⟨cm.1.file (Hm fg.out) (Hm kv.out) (by rw[cm.2.1,ih.out]),by have:=fg.out;simp;omega,cm.2.2,fun f au=>by
   rcases Xx.1 au with au|au;·exact ks f au
   simp only[mC,nM,or_false]at au;rw[au];exact kv.2⟩
  clear u0 aj r ci ln lo K cg A g9 g7 g8 ay;have v6:=W.box.c 8 rfl;have na:=W.box.f;go_wp2;go_roundg (c-(f9+1));exact⟨f9+1,gm,rd,Q,⟨iz,j1,j0⟩,Z,aa,fl++[(⟨C,a9⟩:Fl)],Wm,Wm,Gn,ip,f5,iv,kj,(fun al=>absurd al (Nat.succ_ne_zero _))⟩;omega
 have jh:=kD h8;have ru:=dD<|c0.1.start jm jn 0;have kt:Xo (fl.length<=2/\∀f∈fl,f.size<40):=show _/\_ from⟨Hm c0.2.1,c0.2.2.2⟩;have no:Xo (L=[]->fl=[]/\fv=[]/\ee=Xr nb zt):=dD<|fun e=>ss.out (Hm (nm.out e));have hh:=qY 2 gv.out;go_wp2_with fail;refine hh.mono ?_;clear hh;rintro e l8⟨gk,n0,a,rfl,ey,cf,-,ge,gh,kf,ew⟩;obtain⟨dz,ti⟩:∃dz:Nat,1+a=(dz:Int):=⟨(1+a).toNat,Wm⟩;have rm:dz<=2:=by rcases gh with al|al<;>omega
 have rl:1<=dz:=Wm;have ig:Xo (L=[]->dz=1):=dD<|fun e=>Hm (kf (of e));have k8:=dD ey;have pa:Xo (zm l8 w.heap.size 41 qA):=cq.beside cf (fun G e=>by cases e;have:=bq.out;omega);have io:=dD (of.trans ew);clear ey cf ew ge gh kf;go_wp2;go_loopg[179] dz (fun eg ms wr=>∃(an:Nat)(ag:Sli)(bk:List Int)(sj:MaV)(fb:Ma)(r6:Sli)(op:List (Nat->En)),an<=dz/\dz-an<=eg/\ms=I6 an/\Xo (Mk w M wr j ag bk sj fb r6 op)/\Xo (zbr L bk)/\Xo (zm wr w.heap.size 41 qA)/\Xo (qT fb op)/\Xo (fb.sp.length=an/\(∀s∈fb.sp,jQ fb.fl.length s.aC/\Jd s.aC 64<=12)/\fb.aB=0/\fb.fs.length=nf/\(fb.fl.length<=2/\∀f∈fb.fl,f.size<40))/\Xo (L=[]->fb=zhM nf ns nb an/\op=Xr an (fun _=>en0)))
 exact⟨0,gk,n0,_,_,_,_,nZ _,Wm,rfl,k8,io,pa,ru,(show _/\_ from⟨rfl,fun s R=>(by cases R),rfl,lR,kt⟩),(show _->_ from fun e=>by obtain⟨d5,cu,kb⟩:=no.out e;rw[d5,cu,kb];exact⟨rfl,rfl⟩)⟩;obtain⟨an,k1,rc,p,b8,ap,dp,tg,ta,rfl,f6,f5,ec,cc,bb,ne⟩:=hrel;have b3:=dD bb.1;by_cases ha:an<dz
 ·have jk:=kC ha
  by_cases ar:an=1
  ·subst ar;have ku:Xo (L≠[]):=dD<|fun e=>Hm (ig.out e);have pn:((((1:Nat):Int))==1)=Xc:=Dc;have hq:=qY 2 f6.out;go_wp2_with fail;refine hq.mono ?_;clear hq;rintro e ak⟨dv,im,z,rfl,ez,ds,-,-,-,-,ex⟩;have s8:=dD ez;have ld:Xo (zm ak w.heap.size 41 qA):=ec.beside ds (fun G e=>by cases e;have:=bq.out;omega);have fk:=dD (f5.trans ex);clear ez ds ex;obtain⟨f6,f5,ec⟩:Xo (Mk w M ak j dv im p b8 ap dp)/\Xo (zbr L im)/\Xo (zm ak w.heap.size 41 qA):=⟨s8,fk,ld⟩;by_cases ga:z=1
   ·have qj:(z==1)=Xc:=by simp[ga]
    clear ga;obtain⟨ge,md⟩:=List.length_eq_one_iff.1 b3.out;have ik:Xo (b8.sp=[ge]):=md;clear md;have m0:=zpy ge f6 cc ik.out;go_wp2_with fail;refine m0.mono ?_;clear m0;rintro e dw⟨⟨i,rfl⟩,gw,a8,ck,d4,cj,dh,i6,⟨f1,f2,i7,i8⟩⟩;have l2:Xo (Mk w M dw j dv im gw a8 ck d4):=cj;have ft:Xo (zm dw w.heap.size 41 qA):=dh.1 _ _ _ ec zgx;have kg:Xo (qT a8 d4):=i6;have l6:Xo (a8.sp.length=1+1/\(∀s∈a8.sp,jQ a8.fl.length s.aC/\Jd s.aC 64<=12)/\a8.aB=0/\a8.fs.length=nf/\(a8.fl.length<=2/\∀f∈a8.fl,f.size<40)):=show _/\_ from⟨by rw[f1,ik.out];rfl,fun s R=>by
     rw[f1]at R;rw[f2];rcases Xx.1 R with R|R;·exact bb.2.1 s R
     simp only[mC,nM,or_false]at R;rw[R];exact bb.2.1 ge (by rw[ik.out];simp),i7.trans bb.2.2.1,i8.trans bb.2.2.2.1,Rx f2 bb.2.2.2.2⟩
    have kh:Xo (L=[]->a8=zhM nf ns nb (1+1)/\d4=Xr (1+1) (fun _=>en0)):=dD<|fun e=>absurd e ku.out;clear cj dh i6 f1 f2 i7 i8;go_wp2;go_roundg (dz-(1+1));exact⟨1+1,dv,im,gw,a8,ck,d4,Wm,Wm,Gn,l2,f5,ft,kg,l6,kh⟩;omega
   have qj:(z==1)=Xd:=(by simp[ga]);clear ga;have eu:=zho f6 cc (by rw[b3.out];omega)
   go_wp2_with fail;refine eu.mono ?_;clear eu;rintro e dw⟨⟨i,rfl⟩,ba,ea,gw,a8,ck,d4,tn,cj,f0,dh,i6,⟨f1,f2,i7,i8⟩,jy,gc⟩;have l2:Xo (Mk w M dw j ba ea gw a8 ck d4):=cj;have co:=dD (f5.trans f0);have ft:Xo (zm dw w.heap.size 41 qA):=dh.1 _ _ _ ec zgx;have kg:Xo (qT a8 d4):=i6;have l6:Xo (a8.sp.length=1+1/\(∀s∈a8.sp,jQ a8.fl.length s.aC/\Jd s.aC 64<=12)/\a8.aB=0/\a8.fs.length=nf/\(a8.fl.length<=2/\∀f∈a8.fl,f.size<40)):=show _/\_ from⟨by rw[f1,lA,b3.out];rfl,fun s R=>by
    rw[f1]at R;rw[f2];rcases Xx.1 R with R|R;·exact bb.2.1 s R
    simp only[mC,nM,or_false]at R;rw[R];exact jy,i7.trans bb.2.2.1,i8.trans bb.2.2.2.1,Rx f2 bb.2.2.2.2⟩
   have kh:Xo (L=[]->a8=zhM nf ns nb (1+1)/\d4=Xr (1+1) (fun _=>en0)):=dD<|fun e=>absurd e ku.out;clear cj f0 dh i6 f1 f2 i7 i8 jy gc;go_wp2;go_roundg (dz-(1+1));exact⟨1+1,ba,ea,gw,a8,ck,d4,Wm,Wm,Gn,l2,co,ft,kg,l6,kh⟩;omega
  obtain rfl:an=0:=Wm;have pn:((((0:Nat):Int))==1)=Xd:=Dc;have eu:=zho f6 cc (by rw[b3.out];omega)
  go_wp2_with fail;refine eu.mono ?_;clear eu;rintro e dw⟨⟨i,rfl⟩,ba,ea,gw,a8,ck,d4,tn,cj,f0,dh,i6,⟨f1,f2,i7,i8⟩,jy,gc⟩;have l2:Xo (Mk w M dw j ba ea gw a8 ck d4):=cj;have co:=dD (f5.trans f0);have ft:Xo (zm dw w.heap.size 41 qA):=dh.1 _ _ _ ec zgx;have kg:Xo (qT a8 d4):=i6;have l6:Xo (a8.sp.length=0+1/\(∀s∈a8.sp,jQ a8.fl.length s.aC/\Jd s.aC 64<=12)/\a8.aB=0/\a8.fs.length=nf/\(a8.fl.length<=2/\∀f∈a8.fl,f.size<40)):=show _/\_ from⟨by rw[f1,lA,b3.out];rfl,fun s R=>by
   rw[f1]at R;rw[f2];rcases Xx.1 R with R|R;·exact bb.2.1 s R
   simp only[mC,nM,or_false]at R;rw[R];exact jy,i7.trans bb.2.2.1,i8.trans bb.2.2.2.1,Rx f2 bb.2.2.2.2⟩
  have kh:Xo (L=[]->a8=zhM nf ns nb (0+1)/\d4=Xr (0+1) (fun _=>en0)):=dD<|fun e=>by
   obtain⟨d5,cu⟩:=gc (f5 e);obtain⟨st,su⟩:=ne.out e;rw[st]at d5;rw[su]at cu;exact⟨d5,cu⟩
  clear cj f0 dh i6 f1 f2 i7 i8 jy gc;go_wp2;go_roundg (dz-(0+1));exact⟨0+1,ba,ea,gw,a8,ck,d4,Wm,Wm,Gn,l2,co,ft,kg,l6,kh⟩;omega
 have jk:=kD ha;obtain⟨r8,r9,rs,-⟩:=f6.rows.sp;have ny:Xo (p.sp.n=an):=dD<|by rw[r9.n,rs,b3.out]
 obtain⟨bw,e0⟩:=kA wr.heap.size;have kp:Xo (j<bw):=dD<|Ry e0.out f6.box.box.lt;have l0:Xo (w.heap.size<bw):=dD<|Ry e0.out ec.box.lt;have od:Xo (∀G,(p.sp.x).ownBlock=Xa G->G<bw):=dD<|fun G ab=>by rw[<-e0.out];exact(r9.lt G ab).2
 have sa:=dD f6.aX;have si:=dD<|f6.rows.start bw e0.out;have il:Xo (dp.length=an):=show _=_ by rw[cc.tl,b3.out]
 have ry:Xo (∀(H:Nat)f,dp[H]?=Xa f->∀e∈tab f,0<=e.kind):=dD<|fun H f au e lz=>by
  obtain⟨du,av⟩:=Xs lz;have h7:du<64:=by have:=(gS.1 av).1;rw[Ju]at this;exact this
  rw[zau h7]at av;cases av;have rn:H<b8.sp.length:=by rw[<-cc.tl];exact(gS.1 au).1
  rcases cc.aM H _ f (gE rn) au du h7 with e|e;·rw[e];decide
  by_cases ax:(f du).kind=2;·omega
  have:=(zV e ax).1;omega
 have k6:=f6.box.box.c 11 rfl;(try simp only[Sli.x]at k6);rw[ny.out]at k6;clear r9 rs r8;go_wp2;clear k6;go_loopg[200] an (fun eg mt wr=>∃H:Nat,H<=an/\an-H<=eg/\mt=I6 H/\Xo (MkT w.heap.size M bw H wr p b8 ap dp)/\Xo (zrm w wr j k1 rc [p.f.x,I6 b8.aB,p.s.x,p.sb.x,p.sq.x,p.db.x,p.dq.x,p.fl.x,I6 b8.cnt,p.ca.x,p.sp.x,ap.x])/\Xo (zm wr w.heap.size 41 qA)/\Xo (bw<=wr.heap.size))
 exact⟨0,nZ _,Wm,rfl,si,sa,ec,(show _<=_ by rw[e0.out];exact nR _)⟩;obtain⟨H,rn,tb,rfl,k9,d3,cq,ra⟩:=hrel;by_cases er:H<an
 ·have jl:=kC er
  obtain⟨f,np⟩:∃f,Xo (dp[H]?=Xa f):=⟨_,gE (Rx il.out er)⟩;obtain⟨nc,gh,kf,rr⟩:=k9.sp;have mi:nc.length=an:=by rw[kf,b3.out]
  obtain⟨x,e9⟩:∃x,Xo (nc[H]?=Xa x):=⟨_,gE Wm⟩;obtain⟨fw,fu,jo⟩:=gh.aG Wm;rw[mi]at jo;have e8:=dD jo;obtain⟨pl,rg,jp⟩:=k9.tt.aG (by rw[il.out];omega);rw[il.out]at jp;have kw:=dD jp;have l5:Xo (zb ZP w.heap.size wr (O (Xa ⟨fw,0,Xb⟩) an fu) nc):=show zb _ _ _ _ _ by rw[<-e8.out];exact gh
  have sb:Xo (zb zdk w.heap.size wr (O (Xa ⟨pl,0,Xb⟩) an rg) dp):=dD<|Ry kw.out k9.tt;have sc:=dD kf;have se:=dD rr;clear gh kf rr jo jp mi;go_upto_region 43 with fail;obtain⟨l,h⟩:=Ww fun b=>zc wr b;have A:=(h _).2 (gW _);have mg:∀a:zh l,a.world.cell? ⟨j,11,Xb⟩=Xa (O (Xa ⟨fw,0,Xb⟩) an fu):=fun a=>by
   have:=(d3.box.box.aA ((h _).1 a.holds)).c 11 rfl;(try unfold Sli.x at this);rw[e8.out]at this;exact this
  have mh:∀a:zh l,a.world.cell? ⟨j,12,Xb⟩=Xa (O (Xa ⟨pl,0,Xb⟩) an rg):=fun a=>by
   have:=(d3.box.box.aA ((h _).1 a.holds)).c 12 rfl;(try unfold Sli.x at this);rw[kw.out]at this;exact this
  have ay:Nonempty (zh l):=⟨⟨_,A⟩⟩;refine zH (I:=l) 16 [(13,fun i=>∃gj:List Xq,i=Xi gj.toArray)] (fun _=>True) A trivial zY Kr rfl rfl Dc (Sa ⟨_,[],rfl⟩) Kr ?_;simp only[Xz,Ya];refine zg ?_;refine zQ (.tmp 203) ⟨j,0,Xb⟩ rfl rfl rfl rfl ?_;refine Uq ?_;iterate 5 refine zg ?_
  refine zQ (.tmp 209) ⟨j,0,Xb⟩ rfl rfl rfl rfl ?_;refine Uq ?_;iterate 4 refine zg ?_
  refine zpi (Xi (qN (tab f)).toArray) rfl rfl (fun b dy=>zjc (.tmp 214) rfl pl (H*192) rfl ((sb.aA ((h _).1 dy)).range np) (by rw[QO,Ju])) ?_;refine Uq ?_;refine zy rfl rfl (fun i b=>∃gj:List Xq,i=Xi gj.toArray/\Js 0 bw b gj (ZV f)) (fun w' d _=>?_) (fun di U=>?_);·refine zO.call [Xi (qN (tab f)).toArray] rfl func28 rfl rfl rfl ?_;refine(zi2 (tab f) w' (Ju f) (ry H f np)).mono ?_;rintro e k4⟨gj,rfl,ev,qd⟩;exact⟨_,rfl,(h _).2 (((h _).1 d).trans qd),⟨gj,rfl⟩,gj,rfl,ev.less (nR _) (nT ra (bS ((h _).1 d)))⟩
  obtain⟨gj,rfl⟩:=U;refine Uq ?_;iterate 2 refine zg ?_
  refine qE fun sk ej po=>?_;obtain⟨r4,jq,ev⟩:=po;have qe:gj=r4:=by
   simp only[Value.agg.injEq]at jq;simpa using congrArg Array.toList jq
  subst qe;obtain⟨qv,qw,qx,qy,qz,r0,r1,r2,rfl⟩:=zmG ev;have j2:=(h _).1 ej;have sg:=dD ev;have cn:=dD j2;clear jq ev j2 ej A mg mh ay;refine zx (E:=ZP) rfl (.tmp 218) (.tmp 216) 61 rfl w.heap.size _ nc (l5.aA cn) fw H 2 rfl x ⟨x.aD,x.ar,qv,qw,qx,qy,qz,r0,r1,r2⟩ e9.out [qv.v,qw.v,qx.v,qy.v,qz.v,r0.v,r1.v,r2.v] Kr rfl (by show 2+8<=10;omega) (fun b dy=>by simp only[mC,nM,or_false]at dy;rcases dy with rfl|rfl|rfl|rfl|rfl|rfl|rfl|rfl<;>rfl) _ rfl (by first|rfl|simp) _ rfl rfl ?_;intro f8 mo br mv;obtain⟨sv,fz⟩:=(l5.aA cn).obj (g:=fw) rfl;have g2:fw<bw:=od.out fw (Rr e8.out)
  have sh:Xo (MkT w.heap.size M bw (H+1) f8 p b8 ap dp):=(k9.aA cn).table sc (fun P x s f ac R au=>by
   obtain⟨d5,cu,kb,lg⟩:=se.out P x s f ac R au;exact⟨d5,cu.aA cn,fun e=>(kb e).aA cn,lg⟩) fz g2 br e9 np (y:=⟨x.aD,x.ar,qv,qw,qx,qy,qz,r0,r1,r2⟩) ⟨rfl,rfl⟩ (sg.out.out (Out.grown br (fun G e=>by cases e;exact⟨nZ _,g2⟩))) (by(first|rw[e8.out]|rw[show O _ _ _=_ from e8.out]|(unfold Sli.x;rw[e8.out]));exact mo)
  have s9:Xo (zrm w f8 j k1 rc [p.f.x,I6 b8.aB,p.s.x,p.sb.x,p.sq.x,p.db.x,p.dq.x,p.fl.x,I6 b8.cnt,p.ca.x,p.sp.x,ap.x]):=dD<|⟨zd (d3.gr.trans cn) br ((l5.aA cn).lt fw rfl).1,d3.hb,(d3.box.aA cn).beside br (fun G e=>by cases e;exact(l5.aA cn).ne (d3.box.aA cn) Dc fw rfl),d3.lr,d3.lc,d3.lb⟩;have oz:Xo (zm f8 w.heap.size 41 qA):=(cq.aA cn).beside br (fun G e=>by cases e;exact(l5.aA cn).ne (cq.aA cn) Dc fw rfl);have rx:Xo (bw<=f8.heap.size):=dD (by rw[mv];exact nT ra (bS cn));clear mo br mv fz g2;go_wp2;go_roundg (an-(H+1));exact⟨H+1,Wm,Wm,Gn,sh,s9,oz,rx⟩;omega
 have jl:=kD er;obtain rfl:an=H:=Wm;have gp:Xo (1<=b8.sp.length/\b8.sp.length<=2):=dD<|by rw[b3.out];omega
 by_cases h5:0<nf
 ·have pm:decide ((0:Int)<(nf:Int))=Xc:=by simp;omega
  have es:=zoX (nf:Int) d3.out;go_wp2_with fail;refine es.mono ?_;clear es;rintro e fq⟨mx,s6,a,rfl,i3,eh,-,mz,k7,yn,-⟩;have oq:Xo (MkT w.heap.size M bw an fq p b8 ap dp):=k9.other eh d3.box kp (.inl rfl);have p8:Xo (zm fq w.heap.size 41 qA):=cq.kind eh d3.box Dc;have cp:=dD i3;have ob:Xo (0<=a/\a<max (b8.fs.length:Int) 1):=show _/\_ from⟨mz,by rw[bb.2.2.2.1];omega⟩;have oc:Xo (L=[]->a=0):=dD<|fun e=>yn (f5 e);clear i3 eh mz k7 yn;have tt:=cp.box.box.c 2 rfl;have na:=cp.box.box.f;go_upto_region 47 with fail;clear tt na;obtain⟨eb,dd⟩:=kB (fq.setCell ⟨j,2,Xb⟩ (I6 a));have de:fq.grownBy eb (Xa j):=by rw[<-dd];exact jV _ _ _ _
  have D:Xo (zm eb j 81 [mx.x,p.f.x,I6 a,p.s.x,p.sb.x,p.sq.x,p.db.x,p.dq.x,p.fl.x,I6 b8.cnt,p.ca.x,p.sp.x,ap.x]):=dD (by rw[<-dd];exact cp.box.set 2 _);have os:Xo (MkT w.heap.size M bw an eb p b8 ap dp):=oq.other de cp.box kp (.inl rfl);have la:Xo (zm eb w.heap.size 41 qA):=p8.kind de cp.box Dc;have ic:Xo (zc w eb):=zd cp.gr de cp.hb;rw[dd];clear dd de;have pb:=D.box.c 1 rfl;have pc:=D.box.c 2 rfl;have kc:=D.box.c 3 rfl;have iy:=D.box.c 4 rfl;have pd:=D.box.c 5 rfl;have gy:=D.box.c 6 rfl;have pe:=D.box.c 7 rfl;have pg:=D.box.c 8 rfl;have ph:=D.box.c 9 rfl;have iw:=D.box.c 10 rfl;have ix:=D.box.c 11 rfl;go_wp2_with(refine zP rfl 41 (.tmp 8) (.tmp 233) rfl w.heap.size rfl [p.f.x,I6 a,p.s.x,p.sb.x,p.sq.x,p.db.x,p.dq.x,p.fl.x,I6 b8.cnt,p.ca.x,p.sp.x] rfl la rfl zs6 (fun i U=>by simp only[mC,nM,or_false]at U;rcases U with rfl|rfl|rfl|rfl|rfl|rfl|rfl|rfl|rfl|rfl|rfl<;>rfl) ?_)
  intro ir ch b4 _;have ij:Xo (zj7 w nf ns nb L ir p b8 dp a M bw ap):=dD<|⟨zd ic b4 (nR _),by rw[b3.out];exact os.other b4 la l0 (.inr rfl),cc,ob,bb.2.1,bb.2.2.2.2,gp,bb.2.2.2.1,fun e=>by obtain⟨d5,cu⟩:=ne.out e;have ar:=ig.out e;have ad:an=1:=Wm;rw[ad]at d5 cu;exact⟨d5,cu,oc e⟩⟩;have ia:=dD ch.box;clear ch b4;clear pb pc kc iy pd gy pe pg ph iw ix;go_wp2;refine bodyPost_ret (z8 rfl _ rfl ia underlying41 rfl zs6) rfl ⟨p,b8,dp,a,M,bw,ap,rfl,ij⟩
 have pm:decide ((0:Int)<(nf:Int))=Xd:=by simp;omega
 have D:Xo (zm wr j 81 [k1.x,p.f.x,I6 0,p.s.x,p.sb.x,p.sq.x,p.db.x,p.dq.x,p.fl.x,I6 b8.cnt,p.ca.x,p.sp.x,ap.x]):=dD<|by have:=d3.box;rw[bb.2.2.1]at this;exact this
 have ic:=dD d3.gr;have ob:Xo ((0:Int)<=0/\(0:Int)<max (b8.fs.length:Int) 1):=show _/\_ from⟨Int.le_refl _,Wm⟩;have pb:=D.box.c 1 rfl;have pc:=D.box.c 2 rfl;have kc:=D.box.c 3 rfl;have iy:=D.box.c 4 rfl;have pd:=D.box.c 5 rfl;have gy:=D.box.c 6 rfl;have pe:=D.box.c 7 rfl;have pg:=D.box.c 8 rfl;have ph:=D.box.c 9 rfl;have iw:=D.box.c 10 rfl;have ix:=D.box.c 11 rfl;go_wp2_with(refine zP rfl 41 (.tmp 8) (.tmp 233) rfl w.heap.size rfl [p.f.x,I6 0,p.s.x,p.sb.x,p.sq.x,p.db.x,p.dq.x,p.fl.x,I6 b8.cnt,p.ca.x,p.sp.x] rfl cq rfl zs6 (fun i U=>by simp only[mC,nM,or_false]at U;rcases U with rfl|rfl|rfl|rfl|rfl|rfl|rfl|rfl|rfl|rfl|rfl<;>rfl) ?_)
 intro ir ch b4 _;have ij:Xo (zj7 w nf ns nb L ir p b8 dp 0 M bw ap):=dD<|⟨zd ic b4 (nR _),by rw[b3.out];exact k9.other b4 cq l0 (.inr rfl),cc,ob,bb.2.1,bb.2.2.2.2,gp,bb.2.2.2.1,fun e=>by obtain⟨d5,cu⟩:=ne.out e;have ar:=ig.out e;have ad:an=1:=Wm;rw[ad]at d5 cu;exact⟨d5,cu,rfl⟩⟩;have ia:=dD ch.box;clear ch b4;clear pb pc kc iy pd gy pe pg ph iw ix;go_wp2;refine bodyPost_ret (z8 rfl _ rfl ia underlying41 rfl zs6) rfl ⟨p,b8,dp,0,M,bw,ap,rfl,ij⟩
theorem zj7.at{ht:Nat}(h:zj7 w k b p L w' V m T hd hi ht vt):zK w' V (ZT m T hd)/\maW (ZT m T hd)=0:=⟨h.rows.mach h.inv.tl hd,h.inv.right h.aB.1 h.aB.2⟩
theorem zog{w:Xn}{v:Xq}{l:List Int}(b:zq byE w v l):(convert 24 9 v).run prog w=.ok (.string (strOfNums l)) w:=by
 have h:=byE.bL;have g:Tryz.prog.underlying 5=Xa (.int .u8):=underlying5;have f:Tryz.prog.underlying 9=Xa .string:=underlying9;obtain⟨a,d,c,e⟩:=b.rows;subst c;cases a with
 |none=>
  have:l=[]:=by
   cases l with
   |nil=>rfl
   |cons x l=>
    obtain⟨i,b,_⟩:=e 0 x rfl;cases b
  subst this;exact run_convert_bytes_nil w 24 5 h g _ _ 9 f
 |some x=>
  have k:∀(j:Nat)u,(l.map (Value.int .u8))[j]?=Xa u->w.cell? (x.add j)=Xa u:=fun j u a=>by
   rw[List.getElem?_map]at a;cases c:l[j]? with
   |none=>rw[c]at a;cases a
   |some z=>
    rw[c]at a;simp only[Option.map_some,Option.some.injEq]at a;obtain⟨i,b,i⟩:=e j z c;cases b;have:=i w (zc.refl _) 0 u (by rw[<-a];rfl);simp only[byE,Nat.mul_one,zX,Nat.add_zero]at this;exact this
  have a:=run_loadCells_list (P:=prog) w x (l.map (Value.int .u8)) k;rw[List.length_map]at a;rw[run_convert_bytes_string w 24 9 5 _ _ d h g f,run_bytesToString w x l.length d l a,foldl_push_bytes];simp[strOfNums,ByteArray.empty,ByteArray.emptyWithCapacity];rfl
theorem zqB(E:Elt α)(w):zq E w (eS) ([]:List α):=(zb.nil E 0 w).at
theorem zla:ZV (fun _=>en0)=qG:=by kernel_rfl
theorem zpC{F S B:Int}(h:zsf F S B):ZT (zhM F.toNat S.toNat B.toNat 1) [fun _=>en0] 0=zqF F S B:=by grind[ZT,zhM,zqF,List.replicate_one,List.zipWith_cons_cons,List.zipWith_nil_left,zla,zsf]
def nm2:Ma:=zqF 2 2 2
def sp2:Sp:=⟨Xc,[],qG⟩
theorem zmh(w):Xp prog 9 #[I6 2,I6 2,I6 2,eS] w fun e w'=>(∃V:MaV,e=Xl (Xi #[V.f.x,I6 0,V.s.x,V.sb.x,V.sq.x,V.db.x,V.dq.x,V.fl.x,I6 2,V.ca.x,V.sp.x])/\zK w' V nm2)/\Rt nm2/\zc w w':=by
 refine(ziB 2 2 2 2 2 2 Dc Dc Dc zJ [] w (zqB _ _) (nR _) Sm).mono ?_;rintro e w'⟨f,i,a,a,a,a,a,rfl,b⟩;obtain⟨c,g,d⟩:=b.new rfl;have a:=b.at;have h:ZT (zhM 2 2 2 1) [fun _=>en0] 0=nm2:=zpC (F:=2) (S:=2) (B:=2) (by unfold zsf;omega);rw[c,g,d,h]at a;have g:i.cnt=2:=Rr c;refine⟨⟨f,by rw[g,d],a.1⟩,⟨a.2,fun s a=>?_⟩,b.gr⟩;have:s=sp2:=by
  have a:s∈[sp2]:=a;simpa using a
 rw[this];rfl
theorem zsc(h:zaX nm2 0 k s):k=0/\s=sp2:=by have a:k=0:=Hm h.1;subst a;have b:nm2.sp[0]?=Xa s:=h.2.1;have c:nm2.sp[0]?=Xa sp2:=rfl;grind
theorem zst(h:Vac nm2.sp k):k=1:=by
 have a:k<=1:=h.1;by_cases e:k=0;·subst e;have:=h.2.1 sp2 rfl;cases this
 omega
theorem zsd:zaN nm2 1 0 sp2={nm2 with sp:=[sp2,sp2]}:=rfl
theorem zsg:zlX {nm2 with sp:=[sp2,sp2]} 0 sp2={nm2 with sp:=[⟨Xd,[],qG⟩,sp2]}:=rfl
theorem zj0(w):Xp prog 19 #[] w fun e w'=>e=Xl (Xh Xc)/\zc w w':=by
 have v:=zmh w;go_enter func19,ntmps19;go_wp2_with fail;refine v.mono ?_;clear v;rintro e ay⟨⟨V,rfl,ae⟩,B,a9⟩;have al:=dD a9;have ar:=dD ae;have a6:=dD B;clear a9 ae B;go_upto_region 2 with fail;refine nW fun az d=>?_;have L:=gP d;have b2:=xA d;have am:=dD (al.trans L);have au:=dD (ar.aA L);clear d L;have z:=zib V nm2 0 az au a6.out;obtain⟨W,X,Y,Z,I,a0,a1,a2,a3,a4,a⟩:=b2.aY;go_wp2_with fail;refine z.mono ?_;clear z W X Y Z I a0 a1 a2 a3 a4 a;rintro e b0⟨u,aa⟩;have an:=dD (am.trans aa);clear aa;rcases u with⟨n,_⟩|⟨E,S,bd,c,R,u⟩;·exact absurd (show zaX nm2 0 0 sp2 from⟨rfl,rfl,rfl⟩) (n 0 sp2)
 obtain⟨rfl,rfl⟩:=zsc c;have ba:=zst R;subst ba;rcases u with⟨b9,_⟩|⟨_,C,rfl,i⟩;·cases b9
 have s:Xo (Rt (zaN nm2 1 0 sp2)):=dD<|(zkD a6 c.2.1 rfl R Dc).1;rw[zsd]at i s⊢;have av:=dD i;have A:C.sp.n=2:=i.ns.2.2.2.2.2.2.2.2;have r:=dD A;clear i c R A;go_upto_region 3 with fail;refine nW fun G f=>?_;have M:=gP f;have b3:=xA f
 have ao:=dD (an.trans M);have aw:=dD (av.aA M);clear f M;have h:Xp prog 52 #[Xi (mL C nm2).toArray,I6 0] G fun e w'=>zqj {nm2 with sp:=[sp2,sp2]} 0 e w'/\zc G w':=znR C {nm2 with sp:=[sp2,sp2]} 0 G aw s.w (fun E S c=>by
  have bb:E=0:=Hm c.1;have D:=c.2.1;subst bb;cases D
  rfl)
 (try simp only[mL,Sli.x]at h);rw[r.out]at h;obtain⟨W,X,Y,Z,I,a0,a1,a2,a3,a4,a⟩:=b3.aY;(try simp only[Sli.x]at a);rw[r.out]at a;go_wp2_with fail;refine h.mono ?_;clear h W X Y Z I a0 a1 a2 a3 a4 a;rintro e b1⟨u,ab⟩;have ap:=dD (ao.trans ab);clear ab;rcases u with⟨n,_⟩|⟨E,S,c,a7,rfl,j⟩;·exact absurd (show zaX {nm2 with sp:=[sp2,sp2]} 0 0 sp2 from⟨rfl,rfl,rfl⟩) (n 0 sp2)
 have P:E=0:=Hm c.1;subst P;have Q:S=sp2:=by
  have D:=c.2.1;have b8:({nm2 with sp:=[sp2,sp2]}:Ma).sp[0]?=Xa sp2:=rfl;rw[b8]at D;cases D;rfl
 subst Q;rw[zsg]at j⊢;have ax:=dD j;have F:=dD j.ns.2.2.2.2.2.2.2.2;clear j c;go_upto_region 6 with fail;refine nW fun H g=>?_;have N:=gP g;have b4:=xA g;have aq:=dD (ap.trans N);obtain⟨ai,ah,T,U⟩:=(ax.aA N).sp;clear g N;obtain⟨aj,p⟩:∃a5,ai[0]?=Xa a5:=⟨_,gE (by rw[T];decide)⟩;obtain⟨ak,q⟩:∃a5,ai[1]?=Xa a5:=⟨_,gE (by rw[T];decide)⟩;have af:=(U 0 aj _ p rfl).aD;have ag:=(U 1 ak _ q rfl).aD;obtain⟨b5,bc,m,b⟩:=ah.sps;have ac:a7.sp.a=b5:=by
  simp only[vJ]at m;exact m.1
 obtain⟨t,l,x⟩:=b 0 aj p;obtain⟨b6,k,y⟩:=b 1 ak q;rw[l]at k;cases k;obtain⟨a8,-⟩:=jY.bO (x H (zc.refl _));obtain⟨K,-⟩:=jY.bO (y H (zc.refl _));rw[af]at a8;rw[ag]at K;have a:=b4.c 10 rfl;(try simp only[Sli.x]at a);rw[F.out,ac,l]at a;clear x y b m ac l ah T U p q af ag;have b7:t.add (0*10)=t:=by
  cases t;simp[Addr.add]
 rw[b7]at a8;have K:H.cell? {block:=t.block,off:=t.off+10}=Xa (Value.bool Xc):=K;go_wp2;go_ret;exact⟨rfl,aq⟩
theorem zj7.filesIn{nb ht:Nat}(h:zj7 w k p nb L w' V m T hd hi ht vt):∀s∈(ZT m T hd).sp,jQ (ZT m T hd).fl.length s.aC:=fun s c=>by
 obtain⟨i,hi⟩:=Xs c;have hi:(List.zipWith (fun s f=>{s with tb:=ZV f}) m.sp T)[i]?=Xa s:=hi;rw[List.getElem?_zipWith]at hi;cases a:m.sp[i]? with
 |none=>rw[a]at hi;simp at hi
 |some d=>
  cases b:T[i]? with
  |none=>rw[a,b]at hi;simp at hi
  |some f=>
   rw[a,b]at hi;simp only[Option.some.injEq]at hi;rw[<-hi];exact(h.fin d (mG a)).1
theorem zd2(V)(m:Ma)(p n:Int)(w)(D:zK w V m)(d:maW m=0)(a:∀s∈m.sp,jQ m.fl.length s.aC):
  Xp prog 10 #[Xi (mL V m).toArray,I6 p,I6 n] w fun e w'=>e=Xl (zbS (jR m p n))/\(jR m p n).1.length=8/\zc w w':=by
 have g:=dD D;have c:Xo (∀W,zc w W->Xp prog 13 #[Xi (mL V m).toArray] W fun e w'=>e=Xl (I6 (maW m))/\zc W w'):=show∀W,_ from fun W f=>by rw[d];exact zhw V m W (g.aA f) d
 have b:Xo (maW m=0->∀W,zc w W->Xp prog 29 #[Xi (mL V m).toArray,I6 p,I6 n] W fun e w'=>e=Xl (zbS (ZY m p n))/\(ZY m p n).1.length=8/\zc W w'):=dD<|fun d W f=>zjd V m p n W (g.aA f) d a;obtain⟨⟨F,H,G⟩,⟨K,M,L⟩,⟨q,t,r⟩,⟨y,A,z⟩,B,C,⟨j,l,k⟩,⟨f,i,h⟩,⟨u,x,v⟩⟩:=V;dsimp only[mL]at c b⊢;obtain⟨E,g⟩:=kA (maW m);rw[g.out]at c b;clear D a;obtain⟨D,a⟩:=kB ((w.alloc (Xk #[O F H G,I6 m.aB,O K M L,O q t r,O y A z,B.x,C.x,O j l k,I6 m.cnt,O f i h,O u x v] 41)).alloc (Xk #[U8 0,U8 0,U8 0,U8 0,U8 0,U8 0,U8 0,U8 0] 44));have x:=gD2 a;have z:=x2a a;have B:Xo (Box D (w.heap.size+1) (pgc zt)):=dD<|by rw[<-a];exact Box.aE _ (pgc zt) _ Sm
 have f:=dD a;clear a;go_enter func10,ntmps10;go_upto_region 1 with fail;rw[f.out];obtain⟨h,i,j,k,l,q,r,t,u,v,a⟩:=z.aY;have f:=c.out D x.out;go_wp2_with fail;refine f.mono ?_;clear f h i j k l q r t u v a;rintro C A⟨rfl,c⟩;have y:=dD (x.trans c);have x:=dD (z.aA c);have z:=dD (B.aA c);clear c;have c:=g.out▸d;have d:(E !=0)=Xd:=by simp[c]
 have d:Xo (jR m p n=ZY m p n):=dD<|by unfold jR;rw[g.out,kF (fun g=>g c)]
 obtain⟨h,i,j,k,l,q,r,t,u,v,a⟩:=x.aY;have f:=b.out c A y.out;clear c;go_wp2_with fail;refine f.mono ?_;clear f h i j k l q r t u v a;rintro C a⟨rfl,a,c⟩;have t:=dD (y.trans c);have u:=dD (z.aA c);obtain⟨⟨y,v,x⟩,b⟩:∃f,Xo (ZY m p n=f):=⟨_,rfl⟩;rw[b.out]at a⊢;obtain⟨g,h,i,j,k,l,q,r,f⟩:=zc2 y a;subst f;have f:Xo (jR m p n=([g,h,i,j,k,l,q,r],v,x)):=show _=_ by rw[d.out,b.out]
 clear a c;simp only[zbS,pgc,mP,Xu];go_wp2_with(refine zn rfl 44 (.tmp 6) (.tmp 20) rfl (w.heap.size+1) rfl (pgc [g,h,i,j,k,l,q,r]) rfl u rfl zsZ (qM _) ?_)
 intro d b c _;have a:Xo (zc w d):=dD<|zd t c Wm;go_wp2;refine bodyPost_ret (zF rfl _ rfl b underlying44 rfl zsZ) rfl ⟨Rr f.out,Rr f.out,a⟩
theorem zrh{α:Type}(E:Elt α){w:Xn}{cs:List Xq}(h:Box w b cs)(l:List α)(a:cs=l.flatMap E.enc)(hb:l.length*E.bytes<=140737488355328):zq E w (O (Xa ⟨b,0,Xb⟩) l.length l.length) l:=by refine⟨⟨_,l.length,rfl,fun h=>(by cases h),fun y d=>?_⟩,hb⟩;cases d;intro j u c;rw[Addr.add_lit,zA];exact h.c j (Rx a c)
def zr3(m:Ma)(p:Int)(n:Nat):List Int:=([(n:Int),(jR m p n).2.2]++(jR m p n).1)++(if(jR m p n).2.1=Xc then[121]else[])
def zfz(m:Ma)(p:Int)(k:Nat):List Int:=(List.range k).flatMap (zr3 m p)
theorem zmQ(m:Ma)(p:Int)(k:Nat):zfz m p (k+1)=zfz m p k++zr3 m p k:=by unfold zfz;rw[List.range_succ,List.flatMap_append];simp
theorem zoH(h:maW m=0)(p n:Int):(jR m p n).2.2=0\/(jR m p n).2.2=5\/(jR m p n).2.2=9:=by
 unfold jR;rw[kF (by simp[h])];unfold ZY;split;·exact .inr (.inl rfl)
 dsimp only;split;·exact .inr (.inl rfl)
 split;·exact .inl rfl
 split;·exact .inl rfl
 split;·exact .inl rfl
 split;·exact .inr (.inr rfl)
 exact .inl rfl
theorem zkh(V)(m:Ma)(p:Int)(w)(au:zK w V m)(ar:maW m=0)(a4:∀s∈m.sp,jQ m.fl.length s.aC):
  Xp prog 21 #[Xi (mL V m).toArray,I6 p] w fun e w'=>e=Xl (.string (strOfNums (zfz m p 64)))/\zc w w':=by
 have cp:=dD au;have bm:=dD<|fun(aw:Nat)bb(c0:zc w bb)=>zd2 V m p aw bb (au.aA c0) ar a4;have am:=dD<|fun(aw:Nat)=>zoH ar p aw;obtain⟨cq,l⟩:=kB (w.alloc (Xk (mL V m).toArray 41));have bk:=gA l;obtain⟨af,b6⟩:=kA w.heap.size;have bq:=xPT l b6;have ao:=dD l;clear l au ar a4;go_enter func21,ntmps21;go_upto_region 2 with fail;rw[ao.out,b6.out];go_wp2;go_loopg[5,10] 64 (fun bz cd az wr=>∃(a:Nat)(ak:Sli),a<=64/\64-a<=bz/\az=I6 a/\cd=ak.x/\Xo (zc w wr)/\Xo (zm wr af 41 (mL V m))/\Xo (zb byE w.heap.size wr (ak.x) (zfz m p a))/\Xo ((zfz m p a).length<=11*a))
 exact⟨0,zJ,Wm,Wm,rfl,rfl,bk,bq,zb.nil _ _ _,nR _⟩;obtain⟨a,ak,c7,c3,rfl,rfl,al,be,ba,ac⟩:=hrel;by_cases c9:a<64
 ·have a6:(a:Int)<64:=Wm
  have aa:=bm.out a wr al.out;obtain⟨cf,cg,ch,ci,cj,ck,cl,cm,cn,co,b1⟩:=be.box.aY;go_wp2_with fail;refine aa.mono ?_;clear aa cf cg ch ci cj ck cl cm cn co b1;rintro e X⟨rfl,aj,ag⟩;have b2:=dD (al.trans ag);have bc:=dD (be.aA ag);have b7:=dD (ba.aA ag);have ad:=dD<|zmQ m p a;have N:=am.out a;unfold zbS;have f:Xo (zr3 m p a=([(a:Int),(jR m p a).2.2]++(jR m p a).1)++(if(jR m p a).2.1=Xc then[121]else[])):=rfl;obtain⟨⟨cs,cb,le⟩,a9⟩:∃bj,jR m p a=bj:=⟨_,rfl⟩;rw[a9]at aj N f⊢;dsimp only at aj N f⊢;clear a9 ag;obtain⟨t,x,y,z,A,B,C,D,rfl⟩:=zl0 aj;have c8:0<=le/\le<256:=Wm;clear N aj;have i:∀d∈([U8 t,U8 x,U8 y,U8 z,U8 A,U8 B,U8 C,U8 D]:List Xq),d.oneCell'=Xc:=by simp[Value.oneCell']
  go_upto_region 6 with(refine zP rfl 44 (.tmp 7) (.tmp 18) rfl X.heap.size rfl [U8 t,U8 x,U8 y,U8 z,U8 A,U8 B,U8 C,U8 D] rfl (zm.aE X [U8 0,U8 0,U8 0,U8 0,U8 0,U8 0,U8 0,U8 0] 44 rfl) rfl Kr i ?_;intro G Z k _)
  obtain⟨ax,S⟩:=kA X.heap.size;have ai:zc X (X.alloc (Xk #[U8 0,U8 0,U8 0,U8 0,U8 0,U8 0,U8 0,U8 0] 44)):=za _ _;have bn:Xo (zm G ax 44 [U8 t,U8 x,U8 y,U8 z,U8 A,U8 B,U8 C,U8 D]):=dD<|Ry S.out Z;have b3:=dD<|zd (b2.trans ai) k (bS b2);have br:Xo (zm G af 41 (mL V m)):=dD<|(bc.aA ai).beside k (fun cr e=>by cases e;have:=bc.box.lt;omega);have U:Xo (zb byE w.heap.size G (ak.x) (zfz m p a)):=dD<|(b7.aA ai).grown k (fun bf c2 e=>by cases e;have:=(b7.lt _ c2).2;omega);rw[S.out];clear Z k ai i;generalize a3:zfz m p a=b at U ac ad;clear a3;have c1:b.length<=704:=Hm ac.out;obtain⟨T,F⟩:∃T:Xn->Prop,Xo (∀u,T u↔(zm u ax 44 [U8 t,U8 x,U8 y,U8 z,U8 A,U8 B,U8 C,U8 D]/\zm u af 41 (mL V m))):=⟨_,fun _=>Iff.rfl⟩;have M:T G.drew:=(F _).2 ⟨bn.aA (gW _),br.aA (gW _)⟩;have a1:zc G G.drew:=show Below _ _ _ from(bR _ _).drew;have av:Nonempty (zh T):=⟨⟨_,M⟩⟩;have c6:0<=(a:Int)/\(a:Int)<256:=Wm;refine zH (I:=T) 9 [(5,fun d=>∃bf,d=O (Xa ⟨bf,0,Xb⟩) 2 2),(6,fun d=>∃s:Sli,d=s.x),(8,fun d=>∃s:Sli,d=s.x)] (fun u=>zc G u) M a1 zY Kr rfl rfl Dc (Sc ⟨_,0,rfl⟩ ⟨_,zJ,rfl⟩ ⟨_,zJ,rfl⟩) Kr ?_;simp only[Xz,Ya];iterate 5 refine zg ?_
  refine zy rfl rfl (fun d u=>zc G u/\zq byE u d [(a:Int),le]) (fun w' h g=>?_) (fun bi a8=>?_);·obtain⟨P,ab⟩:=(F _).1 h;refine zO.step (v:=O (Xa ⟨w'.heap.size,0,Xb⟩) 2 2) (w':=w'.alloc (Xk #[U8 (a:Int),U8 le] 5)) (by simp only[execOp];go_simp) ⟨(F _).2 ⟨P.aA (za _ _),ab.aA (za _ _)⟩,⟨_,rfl⟩,g.trans (za _ _),zcB byE w' [(a:Int),le] _ rfl (show 2*1<=_ by decide)⟩
  obtain⟨bx,rfl⟩:=a8;refine Uq ?_;refine zy rfl rfl (fun d u=>zc w u/\zb byE w.heap.size u d (b++[(a:Int),le])) (fun w' h g=>?_) (fun bi a8=>?_)
  ·obtain⟨P,ab⟩:=(F _).1 h;obtain⟨q,Q⟩:=g;obtain⟨ce,b0,j,a7,c,c4⟩:=qP (E:=byE) (w:=w') 24 (U.aA q) (O (Xa ⟨bx,0,Xb⟩) 2 2) [(a:Int),le] Q (by show(b.length+2)*1<=_;omega) (nT (bS b3) (bS q));obtain⟨Y,a0,rfl⟩:=a7.form;refine zO.step (w':=b0) (v:=.slice Y (b++[(a:Int),le]).length a0) ?_ ⟨(F _).2 ⟨zm.row (U.aA q) c P Dc,zm.row (U.aA q) c ab Dc⟩,⟨⟨Y,_,a0⟩,rfl⟩,zc.row (U.aA q) c (b3.trans q),a7⟩;simp only[execOp,resolve,invoke,builtin,pure_bind,Xv,Xy,Xt,mP,Xu];exact Eq.trans (congrArg (fun ay=>Result.andThen ay (fun aq w'=>Result.ok (Next.value aq) w')) j) rfl
  obtain⟨ct,rfl⟩:=a8;refine Uq ?_;refine zg ?_;refine zy rfl rfl (fun d u=>zc w u/\zb byE w.heap.size u d ((b++[(a:Int),le])++[t,x,y,z,A,B,C,D])) (fun w' h g=>?_) (fun bi a8=>?_)
  ·obtain⟨P,ab⟩:=(F _).1 h;obtain⟨q,Q⟩:=g;obtain⟨ce,b0,j,a7,c,c4⟩:=qP (E:=byE) (w:=w') 24 Q (O (Xa ⟨ax,0,Xb⟩) 8 8) [t,x,y,z,A,B,C,D] (zrh byE P.box [t,x,y,z,A,B,C,D] rfl (show 8*1<=_ by decide)) (by simp only[lA];show(b.length+2+8)*1<=_;omega) (bS q);obtain⟨Y,a0,rfl⟩:=a7.form;refine zO.step (w':=b0) (v:=.slice Y ((b++[(a:Int),le])++[t,x,y,z,A,B,C,D]).length a0) ?_ ⟨(F _).2 ⟨zm.row Q c P Dc,zm.row Q c ab Dc⟩,⟨⟨Y,_,a0⟩,rfl⟩,zc.row Q c q,a7⟩;simp only[execOp,resolve,invoke,builtin,pure_bind,Xv,Xy,Xt,mP,Xu];exact Eq.trans (congrArg (fun ay=>Result.andThen ay (fun aq w'=>Result.ok (Next.value aq) w')) j) rfl
  obtain⟨bh,rfl⟩:=a8;refine Uq ?_;refine qE fun ae a2 L=>?_;have b4:=dD L.1;have b8:=dD L.2;have bd:=dD<|((F _).1 a2).2;clear a2 L M a1 av;cases cb with
  |false=>
   have W:Xo (zb byE w.heap.size ae (bh.x) (zfz m p (a+1))):=dD<|by
    rw[ad.out,f.out,kF Sm,List.append_nil,<-List.append_assoc];exact b8.out
   have H:Xo ((zfz m p (a+1)).length<=11*(a+1)):=dD<|by
    rw[ad.out,f.out,kF Sm];have:=ac.out;simp only[lA,List.length_cons,List.length_nil];omega
   go_wp2;go_roundg (64-(a+1));exact⟨a+1,bh,Wm,Wm,Gn,rfl,b4,bd,W,H⟩;omega
  |true=>
   obtain⟨bo,n⟩:=kB (ae.alloc (Xk #[U8 121] 5));have ah:=gP n;have bu:Xo (zq byE bo (O (Xa ⟨ae.heap.size,0,Xb⟩) 1 1) [121]):=dD (by rw[<-n];exact zcB byE ae [121] _ rfl (show 1*1<=_ by decide));have b5:=dD (b4.trans ah);have W:=dD (b8.aA ah);have bs:=dD (bd.aA ah);have ap:=dD n;clear n ah;go_wp2_with(at_builtin;rw[ap.out];refine zw (E:=byE) rfl (.tmp 31) (.tmp 32) rfl w.heap.size _ _ rfl W _ [121] rfl bu.out ?hb (bS b5) ?_)
   case hb=>
    show(_+_)*1<=_;simp;omega
   intro cu bp r K;obtain⟨bv,bw,rfl⟩:=r.form;have bl:=dD<|zc.row W K b5.out;have bt:Xo (zm bp af 41 (mL V m)):=dD<|zm.row W K bs Dc;have R:Xo (zfz m p (a+1)=b++[(a:Int),le,t,x,y,z,A,B,C,D,121]):=dD<|by
    rw[ad.out,f.out];simp
   have H:Xo ((zfz m p (a+1)).length<=11*(a+1)):=dD<|by
    rw[R.out];have:=ac.out;simp only[lA,List.length_cons,List.length_nil];omega
   rw[<-R.out]at r⊢;have b9:=dD r;clear r K;obtain⟨cc,an⟩:=kA ((zfz m p (a+1)).length);rw[an.out]at b9⊢;go_wp2;go_roundg (64-(a+1));exact⟨a+1,⟨bv,cc,bw⟩,Wm,Wm,Gn,rfl,bl,bt,b9,H⟩;omega
 have a6:¬(a:Int)<64:=Wm;have:a=64:=Wm;subst this;have ca:=zog ba.at;go_wp2;go_ret;exact⟨rfl,al⟩
theorem Sam.files{S:Nat->Nat->Prop}(g:Sam S m m')(d:∀s∈m.sp,jQ m.fl.length s.aC):∀s∈m'.sp,jQ m'.fl.length s.aC:=fun e a=>by
 obtain⟨i,b⟩:=Xs a;have c:i<m.sp.length:=by rw[<-g.aI];exact(gS.1 b).1
 rw[(g.sp i _ e (gE c) b).2,g.fll];exact d _ (List.getElem_mem c)
section
variable{wr:Bool}{m m':Ma}{q n k:Nat}{s:Sp}{a:Ar}{pg:Pg}{ic:Bool}
theorem zeX.rest(h:zeX wr m q n s a pg ic k m')(f:Rt m)(p j:Nat)(hp:p<m.sp.length)(c:j<64)(d:¬(p=q/\j=n)):jR m' (p:Int) (j:Int)=jR m (p:Int) (j:Int):=by have e:=gE hp;have b:=gE (show p<m'.sp.length by rw[h.aW.aI];exact hp);rw[QK f e c,QK h.rt b c,(h.aW.sp _ _ _ e b).2];exact h.aW.see _ _ _ _ e b c d
end
theorem zpE(x:On)(w:Xn):(Instr.field 67 (Xi #[Xh x.is,Xh x.rd,Xh x.wr,Xh x.sh,I6 x.file,I6 x.page]) 3).run prog w=.ok (Xh x.sh) w:=by simp only[Instr.field,Xv,run_underlying underlying67,rA,asAgg];exact run_part_plain w (by simp[Program.plainKey,underlying4]) rfl
theorem zeX.wrote{pg:Pg}{ic:Bool}(h:zeX Xc m k b s H pg ic p m')(w:H.sh=Xd)(q:Pg):∃(c:Sp)(fr:Fr)(d:Bool),m'.sp[k]?=Xa c/\m'.fs[p]?=Xa fr/\ze c b=⟨1,(p:Int),d⟩/\fr.p=pg/\Rt {m' with fs:=m'.fs.set p {fr with p:=q}}/\jR {m' with fs:=m'.fs.set p {fr with p:=q}} (k:Int) (b:Int)=(pgL q,Xc,0)/\({m' with fs:=(m'.fs.set p {fr with p:=q}).set p {fr with p:=pg}}:Ma)=m':=by
 obtain⟨c,fr,d,e,f,g,i,t,u,v⟩:=h.into;obtain⟨j,r⟩:=zqC h.rt e h.n64 f g q;have l:fr.f=-1:=by grind
 refine⟨c,fr,d,e,f,g,i,j,?_,?_⟩
 ·unfold jR;rw[kF (by rw[j.w];simp),r,l];rfl
 subst i;have:(m'.fs.set p {fr with p:=q}).set p {fr with p:=fr.p}=m'.fs:=by
  rw[List.set_set];apply List.ext_getElem?;grind
 rw[this]
end
section
def zkZ(e e':En):Prop:=e'.kind=e.kind/\e'.n=e.n
theorem zkZ.refl(e:En):zkZ e e:=⟨rfl,rfl⟩
theorem zkZ.trans{a b c:En}(h:zkZ a b)(k:zkZ b c):zkZ a c:=⟨k.1.trans h.1,k.2.trans h.2⟩
structure ShL(m m':Ma)(k q:Nat)(l:List Nat)(sk sq sk' sq':Sp):Prop where
 pk:m'.sp[k]?=Xa sk'
 pq:m'.sp[q]?=Xa sq'
 len:m'.sp.length=m.sp.length
 oth:∀r,r≠k->r≠q->m'.sp[r]?=m.sp[r]?
 av:sk'.aC=sk.aC/\sq'.aC=sq.aC/\sk'.aD=sk.aD/\sq'.aD=sq.aD
 lq:∀j,zkZ (ze sq j) (ze sq' j)
 lk:∀j,j∈l->zkZ (ze sq j) (ze sk' j)
 nk:∀j,j∉l->ze sk' j=ze sk j
 see:∀x e,(e.kind=1->0<=e.n)->Z2 m' x e=Z2 m x e
 con:∀file idx,zU m' file idx=zU m file idx
 rest:m'.fs.length=m.fs.length/\m'.sl.length=m.sl.length/\m'.fl=m.fl/\m'.ca=m.ca
theorem zfy(q:p≠k):∀(l:List Nat){m:Ma}{f d:Sp},Rt m->m.sp[k]?=Xa f->m.sp[p]?=Xa d->f.aC=d.aC->l.Nodup->(∀n∈l,n<64/\ze f n=en0/\ze d n≠en0)->
  ∃i sq',ShL m (QU m k p (l.map fun(n:Nat)=>(n:Int))) k p l f d i sq'
 |[],m,f,d,_,x,y,_,_,_=>⟨f,d,x,y,rfl,fun _ _ _=>rfl,⟨rfl,rfl,rfl,rfl⟩,fun _=>zkZ.refl _,fun j b=>(by cases b),fun _ _=>rfl,fun _ _ _=>rfl,fun _ _=>rfl,⟨rfl,rfl,rfl,rfl⟩⟩
 |n::l,m,f,d,h,x,y,B,hd,D=>by
  obtain⟨Q,R,S⟩:=D n Sm
  obtain⟨U,T,a⟩:=zkf h x y q B Q R S;rw[List.nodup_cons]at hd;have r:∀j∈l,j≠n:=fun j b e=>hd.1 (e▸b)
  obtain⟨i,sq',g⟩:=zfy q l a.rt a.pk a.pq (by rw[a.ak,a.aq,B]) hd.2 (fun j b=>by
   obtain⟨u,v,w⟩:=D j (by simp[b])
   rw[a.fk j (r j b),a.fq j (r j b)];exact⟨u,v,w⟩)
  have s:∀j,zkZ (ze d j) (ze T j):=fun j=>by
   by_cases e:j=n;·rw[e];exact a.kq
   rw[a.fq j e];exact zkZ.refl _
  refine⟨i,sq',g.pk,g.pq,g.len.trans a.len,fun E z A=>(g.oth E z A).trans (a.oth E z A),⟨g.av.1.trans a.ak,g.av.2.1.trans a.aq,g.av.2.2.1.trans a.lv.1,g.av.2.2.2.trans a.lv.2⟩,fun j=>(s j).trans (g.lq j),fun j b=>?_,fun j b=>?_,fun F e C=>(g.see F e C).trans (a.see F e C),fun c t=>(g.con c t).trans (a.con c t),?_⟩
  ·by_cases e:j∈l
   ·exact(s j).trans (g.lk j e)
   have b:j=n:=by
    rcases mC.1 b with h|h;·exact h
    exact absurd h e
   rw[g.nk j e,b];exact a.kk
  ·have N:j∉l:=fun h=>b (mC.2 (.inr h))
   have P:j≠n:=fun h=>b (mC.2 (.inl h));rw[g.nk j N,a.fk j P]
  obtain⟨u,v,w,G⟩:=a.rest;obtain⟨H,K,L,M⟩:=g.rest;exact⟨H.trans u,K.trans v,L.trans w,M.trans G⟩
structure zsn(m x:Ma)(k q:Nat)(s sk sq:Sp):Prop where
 rt:Rt x
 pk:x.sp[k]?=Xa sk
 pq:x.sp[q]?=Xa sq
 len:x.sp.length=max m.sp.length (k+1)
 oth:∀r,r≠k->r≠q->x.sp[r]?=m.sp[r]?
 av:sk.aC=s.aC/\sq.aC=s.aC/\sk.aD=Xc/\sq.aD=s.aD
 lq:∀j,zkZ (ze s j) (ze sq j)
 lk:∀j,j<64->zkZ (ze s j) (ze sk j)
 see:∀y e,(e.kind=1->0<=e.n)->Z2 x y e=Z2 m y e
 con:∀file idx,zU x file idx=zU m file idx
 rest:x.fs.length=m.fs.length/\x.sl.length=m.sl.length/\x.fl=m.fl/\x.ca=m.ca
theorem znE(h:Rt m)(f:m.sp[p]?=Xa s)(y:s.aD=Xc)(a:Vac m.sp k)(q:k<4):∃i l,zsn m (zaN m k p s) k p s i l:=by
 have d:p≠k:=fun e=>by
  have z:=a.2.1 s (Ry e f);grind
 have b:=(zkD h f y a q).1;unfold zaN at b⊢;rw[ZL]at b⊢;have c:(Z5 m k s).sp[k]?=Xa ⟨Xc,s.aC,qG⟩:=by show(zbd m.sp k _)[k]?=_;rw[QV a.1,kE rfl]
 have x:(Z5 m k s).sp[p]?=Xa s:=by show(zbd m.sp k _)[p]?=_;rw[QV a.1,kF d];exact f
 obtain⟨i,l,g⟩:=zfy d (qQ s) (zgZ h f a q) c x rfl ZE.1 (fun u t=>⟨(ZE.2 u t).1,by rw[JL],(ZE.2 u t).2⟩);refine⟨i,l,b,g.pk,g.pq,?_,fun v n w=>?_,⟨g.av.1,g.av.2.1,g.av.2.2.1,g.av.2.2.2⟩,g.lq,fun j r=>?_,g.see,g.con,g.rest⟩
 ·rw[g.len]
  show(zbd m.sp k _).length=_;rw[zdu a.1]
 ·rw[g.oth v n w]
  show(zbd m.sp k _)[v]?=_;rw[QV a.1,kF n]
 by_cases e:j∈qQ s;·exact g.lk j e
 rw[g.nk j e,JL];have:ze s j=en0:=by
  rcases h.aM f r with c|c;·exact c
  exfalso;apply e;unfold qQ;rw[List.mem_filter,List.mem_range];exact⟨r,by unfold enS;simpa using c.2.1⟩
 grind[zkZ.refl]
end
section
open Go.RowKit
theorem zja{p a:Int}(h:∀n:Nat,n<64->jR m' a (n:Int)=jR m p (n:Int)):zfz m' a 64=zfz m p 64:=by grind[zfz,zfN,zr3,List.mem_range.1]
theorem ziU(h:Rt m){q:Nat}{v:Bool}(i:m.sp[k]?=Xa s)(g:p<64)(f:m.fs[q]?=Xa Y)(a:ze s p=⟨1,(q:Int),v⟩)(z:Y.r<=1)(pg:Pg)(e:Rt {m with fs:=m.fs.set q {Y with p:=pg}}){n j:Nat}(hp:n<m.sp.length)(c:j<64)(u:¬(n=k/\j=p)):jR {m with fs:=m.fs.set q {Y with p:=pg}} (n:Int) (j:Int)=jR m (n:Int) (j:Int):=by
 have d:=gE hp;rw[QK h d c,QK e d c];have t:=(h.inv.cf q Y f).1;have b:isE (ze s p) 1 (q:Int)=Xc:=by rw[a];simp[isE]
 have w:1<=qK (Zb m) 1 (q:Int):=by
  have:=Q6 (z7 i) g (by rw[a]);grind
 refine zaw (gS.1 f).1 h.inv.ca (fun y=>?_) (h.cL d c) (fun l r=>?_);·omega
 have x:=zcf (z7 i) g b (z7 d) c (by simp[isE,l,r]) Wm Dc;omega
theorem zeX.apart{pg:Pg}{ic:Bool}(h:zeX Xc m k b s H pg ic p m')(u:Rt m)(A:H.sh=Xd)(q:Pg)(i:m'.fs[p]?=Xa Y)(d:Rt {m' with fs:=m'.fs.set p {Y with p:=q}}){n:Nat}(hp:n<m.sp.length)(c:n≠k):zfz {m' with fs:=m'.fs.set p {Y with p:=q}} (n:Int) 64=zfz m (n:Int) 64:=by
 obtain⟨B,r,C,j,f,l,w,x,y,z⟩:=h.into;rw[i]at f;cases f;have t:Y.r<=1:=by grind
 refine zja fun v g=>?_;rw[ziU h.rt j h.n64 i l t q d (by rw[h.aW.aI];exact hp) g (fun e=>c e.1),h.rest u n v hp g (fun e=>c e.1)]
theorem ziE(F S B:Int)(vl:Sli)(L)(n:Int)(a5:Int)(cp:Bool)(w)(hm:zq byE w (vl.x) L)(hj:vl.n<=vl.c)(lb:∀z∈L,0<=z/\z<256):
  Xp prog 7 #[Xi #[I6 F,I6 S,I6 B],vl.x,I6 n,U8 a5,Xh cp] w fun e w'=>e=Xl (Xh Xc)/\zc w w':=by
 obtain⟨ia,a8⟩:=kB (w.alloc (Xk #[I6 F,I6 S,I6 B] 23));have i1:=gA a8;have hw:=xA a8;have eb:=dD a8;have dw:=dD hm;have dv:=dD hj;have du:=dD lb;obtain⟨ge,dy⟩:∃ge:Nat,Xo (max (min F 40) 0=(ge:Int)):=⟨(max (min F 40) 0).toNat,show _=_ by omega⟩;obtain⟨gf,dz⟩:∃gf:Nat,Xo (max (min S 60) 0=(gf:Int)):=⟨(max (min S 60) 0).toNat,show _=_ by omega⟩;obtain⟨gd,dx⟩:∃gd:Nat,Xo (max (min B 80) 0=(gd:Int)):=⟨(max (min B 80) 0).toNat,show _=_ by omega⟩;clear a8 hm hj lb;have cx:=zj0 ia;go_enter func7,ntmps7;go_wp2_with fail;rw[eb.out];refine cx.mono ?_;clear cx;rintro e ib⟨rfl,ev⟩;have gq:=dD (i1.trans ev);have i0:=dD (hw.aA ev);clear ev;have cy:=ziB F S B ge gf gd dy dz dx vl L ib (dw.aA gq) dv du.out;obtain⟨h4,h5,h6⟩:=i0.c3;go_wp2_with fail;refine cy.mono ?_;clear cy h4 h5 h6;rintro e ek⟨bl,gc,gy,h8,Y,hb,jl,rfl,cv⟩;obtain⟨co,hr⟩:=cv.at;obtain⟨Z,bk⟩:=kA (ZT gc gy h8);have gm:Xo (zK ek bl Z):=show zK _ _ _ by(try unfold Sli.x);rw[<-bk.out];exact co
 have am:Xo (Rt Z):=dD<|⟨Ry bk.out hr,fun s dk=>by
  obtain⟨i,Y⟩:=Xs dk;obtain⟨gl,_,iy,iz⟩:=gm.sp;have b9:i<gl.length:=by rw[iy];exact(gS.1 Y).1
  exact(iz i _ s (gE b9) Y).tb.aL⟩
 have i2:=dD<|gq.trans cv.gr;have d6:h8=Z.aB:=by(try unfold Sli.x);rw[<-bk.out];rfl
 have d5:gc.cnt=Z.cnt:=by(try unfold Sli.x);rw[<-bk.out];rfl
 rw[d6,d5];have aj:Xo (∀s∈Z.sp,jQ Z.fl.length s.aC):=dD<|fun s dk=>by
  rw[<-bk.out]at dk⊢;exact cv.filesIn s dk
 have e0:Xo (Z.sp.length<=2):=dD<|by
  rw[<-bk.out];show(List.zipWith _ gc.sp gy).length<=2;rw[List.length_zipWith];have:=cv.sp.2;omega
 clear cv co hr d6 d5;go_upto_region 4 with fail;obtain⟨jd,cd⟩:=kA ek.heap.size;refine nW fun gz a9=>?_;have ew:=gP a9;have gw:=xPT a9 cd;have gn:=dD (gm.aA ew);have gr:=dD (i2.trans ew);rw[cd.out];clear a9 ew;have d0:=zib bl Z 0 gz gn am.out;obtain⟨I,ba,bc,bd,be,bf,bg,bh,bi,bj,h⟩:=gw.box.aY;go_wp2_with fail;refine d0.mono ?_;clear d0 I ba bc bd be bf bg bh bi bj h;rintro e h0⟨bv,dh⟩;rcases bv with⟨_,rfl⟩|⟨gg,s,ag,iq,af,bv⟩;·unfold qA;have i3:=dD (gr.trans dh);clear dh;go_wp2;go_ret;exact⟨rfl,show zc w _ from i3.trans (za _ _)⟩
 obtain⟨b8,D,ay⟩:=iq;have fc:gg=0:=Wm;subst fc;clear b8;have f7:=nT af.1 e0.out;have d3:ag<4:=Wm;obtain⟨X,gu⟩:=kA (zaN Z ag 0 s);(try unfold Sli.x at bv);rw[gu.out]at bv;rcases bv with⟨es,_⟩|⟨_,ao,rfl,d4⟩;·omega
 obtain⟨j0,j1,b⟩:=znE am D ay af d3;have ax:ag≠0:=fun e=>by
  have:=af.2.1 s (Rx e D);rw[ay]at this;cases this
 (try unfold Sli.x at b);rw[gu.out]at b;have a2:=dD b.rt;have ca:Xo (∀ai∈X.sp,jQ X.fl.length ai.aC):=show∀ai,_ from fun ai hb=>by
  rw[b.rest.2.2.1];obtain⟨i,Y⟩:=Xs hb;by_cases e:i=ag;·rw[e,b.pk]at Y;cases Y;rw[b.av.1];exact aj s (mG D)
  by_cases a6:i=0;·rw[a6,b.pq]at Y;cases Y;rw[b.av.2.1];exact aj s (mG D)
  rw[b.oth i e a6]at Y;exact aj ai (mG Y)
 have an:=dD D;have ee:Xo (∃U H:Nat,(U=if cp=Xc then ag else 0)/\(H=if cp=Xc then 0 else ag)/\U≠H/\H<X.sp.length/\∃ai,X.sp[U]?=Xa ai/\ai.aC=s.aC):=show∃_,_ by
  have io:=(gS.1 b.pk).1;have ip:=(gS.1 b.pq).1;cases cp;·exact⟨0,ag,rfl,rfl,fun e=>ax e.symm,io,j1,b.pq,b.av.2.1⟩
  exact⟨ag,0,rfl,rfl,ax,ip,j0,b.pk,b.av.1⟩
 go_upto_region 5 with fail;obtain⟨u,ce⟩:=kA h0.heap.size;obtain⟨ap,N⟩:=kB (h0.alloc (Xk (mL ao X).toArray 41));have di:zc gz ap:=by rw[<-N];exact dh.trans (za _ _)
 have ih:=xPT N ce;have i9:=dD (gw.aA di);have gp:=dD (gn.aA di);have i7:Xo (zK ap ao X):=show zK _ _ _ by rw[<-N];exact d4.aA (za _ _)
 have dr:=dD (gr.trans di);rw[N,ce.out];clear N dh di d4 D ay af f7 d3 ax;by_cases C:n<0;·have dl:decide (n<0)=Xc:=decide_eq_true C;clear C;go_wp2;go_ret;exact⟨rfl,dr⟩
 by_cases ab:64<=n;·have dl:decide (n<0)=Xd:=decide_eq_false C;have hh:decide (64<=n)=Xc:=decide_eq_true ab;clear C ab;go_wp2;go_ret;exact⟨rfl,dr⟩
 obtain⟨i,rfl⟩:∃i:Nat,n=(i:Int):=⟨n.toNat,Wm⟩;have i5:Xo (i<64):=dD<|Wm;have dl:decide ((i:Int)<0)=Xd:=decide_eq_false C;have hh:decide ((64:Int)<=(i:Int))=Xd:=decide_eq_false ab;have gb:decide (64<=i)=Xd:=decide_eq_false Wm;clear C ab;have e6:Xo (∃z:SpV,∃ar,bl.sp.a=Xa ar/\0<bl.sp.n/\(∀W,zc ap W->ziN W (ar.add (0*10)) z)/\ZC ap z s):=dD<|by
  obtain⟨gl,g9,d7,ff⟩:=gp.aU;obtain⟨-,-,-,-,-,-,-,-,jb⟩:=gp.ns;have ir:=(gS.1 an).1;obtain⟨z,hf⟩:∃z,gl[0]?=Xa z:=⟨_,gE (Rx g9 ir)⟩;obtain⟨ar,au,a6⟩:=d7 0 z hf;exact⟨z,ar,au,Wm,a6,ff 0 z s hf an⟩
 obtain⟨z,ar,au,a6,cq,es⟩:=e6.out;have fe:(0:Int)<(bl.sp.n:Int):=Wm;obtain⟨_,h7,_⟩:=cq ap (zc.refl _);have az:=Zo _ s.aC ap es.ar (jJ.1 ((zhA (Q0 am.w)).ar s (mG an)).1).2.cG;obtain⟨o,gt⟩:=kA (zr s.aC i);have k:∀W,(Instr.index 68 (Xi (zD (tab (zr s.aC))).toArray) (I6 (i:Int))).run prog W=.ok (Xi #[Xh o.is,Xh o.rd,Xh o.wr,Xh o.sh,I6 o.file,I6 o.page]) W:=fun W=>by
  have:=zkk (w:=W) (f:=zr s.aC) i i5.out;(try unfold Sli.x at this);rw[gt.out]at this;exact this
 have aa:=zpE o;generalize zD (tab (zr s.aC))=j4 at az k;have h:=i9.box.c 10 rfl;rw[au]at h;have eq:ap.cell? {block:=ar.block,off:=ar.off+1}=Xa (z.ar.x):=by simpa[Addr.add]using h7
 clear au a6 cq es;go_wp2_with fail;refine az.mono ?_;clear az h7 eq h dl hh gb fe;rintro e ig⟨rfl,dj⟩;have eo:=dD (ih.aA dj);have gv:=dD (i7.aA dj);have ds:=dD (dr.trans dj);clear dj;cases Q:o.sh with
 |true=>
  rw[Q]at aa k;clear Q;go_wp2;go_ret;exact⟨rfl,ds⟩
 |false=>
 rw[Q]at aa k;have e5:Xo ((zr s.aC i).sh=Xd):=dD<|Rx gt.out Q;clear Q;obtain⟨U,H,R,T,dc,dd,ai,de,df⟩:=ee.out;go_upto_if 60 with fail
 go_cut[15,16] (fun gh gi j3=>gh=I6 (U:Int)/\gi=I6 (H:Int)/\j3=ig)
 case first=>
  clear aa k;cases cp
  ·rw[kF Dc]at R T
   subst R T;go_wp2;go_meet;exact⟨rfl,rfl,rfl⟩
  rw[kE rfl]at R T;subst R T;go_wp2;go_meet;exact⟨rfl,rfl,rfl⟩
 case rest=>
 obtain⟨rfl,rfl,rfl⟩:=hcut;have ec:=dD dc;have ed:=dD dd;have e7:=dD de;have e8:=dD df;clear R T dc dd de df aa k;have d9:=zoJ ao X (U:Int) (i:Int) Xc wc gv a2.out;obtain⟨I,ba,bc,bd,be,bf,bg,bh,bi,bj,h⟩:=eo.box.aY;go_wp2_with fail;refine d9.mono ?_;clear d9 I ba bc bd be bf bg bh bi bj h;rintro e h3⟨⟨ik,rfl,h9⟩|⟨ej,bw,jc,l,rfl,hc,cz⟩,bu⟩
 ·have dl:(ik !=0)=Xc:=Si h9.1
  have i4:=dD (ds.trans bu);clear h9 bu;unfold qA;go_wp2;go_ret;exact⟨rfl,show zc w _ from i4.trans (za _ _)⟩
 obtain⟨gg,it,jk,ij,ix,iu,b8,fb,cw⟩:=zqn a2 hc;have fd:U=gg:=Wm;have f0:i=it:=Wm;subst fd f0;have e9:=dD cw;have cg:Xo (ij.sh=Xd):=show _=_ by
  have au:=cw.sp;(try unfold Sli.x at au);rw[e7.out]at au;cases au;have a6:=cw.on;(try unfold Sli.x at a6);rw[e8.out]at a6;have cq:=e5.out;rw[a6]at cq;exact cq
 have i6:=dD cw.rt;clear hc cw b8 fb;go_upto_region 11 with fail;obtain⟨m,a1⟩:=kA h3.heap.size;obtain⟨aq,P⟩:=kB (h3.alloc (Xk (mL ej l).toArray 41));have ex:zc wc aq:=by rw[<-P];exact bu.trans (za _ _)
 have eg:=xPT P a1;have ii:=dD (eo.aA ex);have i8:Xo (zK aq ej l):=show zK _ _ _ by rw[<-P];exact cz.at.aA (za _ _)
 have gs:=dD ex;have K:Xo (u<m/\wc.heap.size<=m):=show _/\_ from⟨by have:=eo.box.lt;have:=bS bu;have:=a1.out;omega,by have:=bS bu;have:=a1.out;omega⟩;rw[P,a1.out];clear P bu ex cz;obtain⟨bm,j5,bn,bo,bp,bq,br,bs⟩:=ix;obtain⟨jj,bt,jm,il,cr,im,et,cs,dg,-⟩:=e9.wrote cg ⟨bm,a5,bn,bo,bp,bq,br,bs⟩;have ad:=zgq ej l aq i8.out;obtain⟨I,ba,bc,bd,be,bf,bg,bh,bi,bj,h⟩:=eg.box.aY;go_wp2_with fail;refine ad.mono ?_;clear ad I ba bc bd be bf bg bh bi bj h;rintro e ic⟨V,rfl,ho,a7⟩;have ei:=dD ho;have ef:=dD (eg.aA a7);have el:=dD (ii.aA a7);have dm:=dD (gs.trans a7);have a0:Xo (m<aq.heap.size/\wc.heap.size<=aq.heap.size):=show _/\_ from⟨eg.box.lt,bS gs⟩;clear ho a7;go_wp2_with(refine zP rfl 41 (.tmp 17) (.tmp 73) rfl m rfl (mL V l) rfl ef rfl Kr (by simp[Value.oneCell']) ?_)
 intro cm ac t _;have cj:=dD ac;have em:Xo (zm cm u 41 (mL ao X)):=el.beside t (fun bw d2=>by cases d2;have:=K.out;omega);have a4:=dD<|ei.below t a0.1 (nR _);have dn:=dD<|zd dm t K.2;clear ac t;have f8:=(gS.1 cr).1;obtain⟨iv,-⟩:=a4.at.ns;have f9:(bw:Int)<(V.f.n:Int):=Wm;obtain⟨eu,c,av⟩:=a4.fs.aG Wm;simp only[vJ]at av;have a3:=dD av.1;have cb:Xo (zb q3 aq.heap.size cm (O (Xa ⟨eu,0,Xb⟩) V.f.n V.f.c) l.fs):=show zb _ _ _ _ _ by(try unfold Sli.x);rw[<-a3.out];exact a4.fs
 have ak:=dD<|(cb.lt eu rfl).1;have dt:=dD cr;have ci:=dD<|e9.apart a2 cg ⟨bm,a5,bn,bo,bp,bq,br,bs⟩ cr cs ed (fun e=>ec.out e.symm);have he:q3.enc {bt with p:=⟨bm,a5,bn,bo,bp,bq,br,bs⟩}=splice (q3.enc bt) 1 [U8 a5]:=by
  have ha:=et;clear cr cs dg et;obtain⟨⟨h4,h5,h6,j6,j7,j8,j9,ja⟩,je,jf,jg,jh,ji⟩:=bt;simp only[Pg.mk.injEq]at ha;obtain⟨rfl,rfl,rfl,rfl,rfl,rfl,rfl,rfl⟩:=ha;rfl
 obtain⟨G,al⟩:∃G:Ma,Xo (({l with fs:=l.fs.set bw {bt with p:=⟨bm,a5,bn,bo,bp,bq,br,bs⟩}}:Ma)=G):=⟨_,rfl⟩;(try unfold Sli.x at cs);(try unfold Sli.x at dg);(try unfold Sli.x at ci);rw[al.out]at cs dg ci;have cf:=dD cs;have ea:=dD dg;have v:Xo (G.aB=l.aB/\G.cnt=l.cnt/\G.sp=l.sp/\G.fl=l.fl):=show _/\_ by
  (try unfold Sli.x);rw[<-al.out];exact⟨rfl,rfl,rfl,rfl⟩
 have I:=cj.box.c 0 rfl;(try unfold Sli.x at I);rw[a3.out]at I;clear av f8 iv il cr im et cs dg;go_wp2_with(refine zx (E:=q3) rfl (.tmp 81) (.tmp 78) 5 rfl aq.heap.size _ l.fs cb eu bw 1 rfl bt {bt with p:=⟨bm,a5,bn,bo,bp,bq,br,bs⟩} dt.out [U8 a5] Kr he (by show 1+1<=13;omega) (by simp[Value.oneCell']) _ rfl (by simp[q3]) _ rfl rfl ?_)
 intro q ah j _;have M:=a4.bK (Rr a3.out) j (Rx a3.out ah);(try unfold Sli.x at M);rw[al.out]at M;have cl:=dD M;have ck:Xo (zm q m 41 (mL V l)):=cj.beside j (fun bw d2=>by cases d2;have:=ak.out;have:=a0.out;omega);have en:Xo (zm q u 41 (mL ao X)):=em.beside j (fun bw d2=>by cases d2;have:=ak.out;have:=a0.out;have:=K.out;omega);have bx:Xo (zc wc q):=dD<|zd dn j (by have:=ak.out;have:=a0.out;omega);have eh:=dD (gv.aA bx);clear I ah j M f9 he;have c9:Xo (∀s∈G.sp,jQ G.fl.length s.aC):=show∀s,_ by
  rw[v.2.2.1,v.2.2.2];exact e9.aW.files ca.out
 have db:Xp prog 10 #[Xi (mL V l).toArray,I6 (U:Int),I6 (i:Int)] q fun e w'=>e=Xl (zbS (jR G (U:Int) (i:Int)))/\(jR G (U:Int) (i:Int)).1.length=8/\zc q w':=by
  have:=zd2 V G (U:Int) (i:Int) q cl.at cf.w c9.out;(try unfold mL at this);rw[v.1,v.2.1]at this;exact this
 obtain⟨I,ba,bc,bd,be,bf,bg,bh,bi,bj,h⟩:=ck.box.aY;go_wp2_with fail;refine db.mono ?_;clear db I ba bc bd be bf bg bh bi bj h;rintro e cn⟨rfl,_,ct⟩;rw[ea.out];simp only[zbS,pgL,pgc,List.map];go_upto_region 16 with fail;obtain⟨iw,cc⟩:=kA cn.heap.size;obtain⟨a,r⟩:=kB (cn.alloc (Xk #[U8 bm,U8 a5,U8 bn,U8 bo,U8 bp,U8 bq,U8 br,U8 bs] 44));have A:zc q a:=by rw[<-r];exact ct.trans (za _ _)
 have ep:=xPT r cc;have d:=dD (ck.aA A);have g:=dD (en.aA A);have bz:Xo (∀W,zc a W->Xp prog 21 #[Xi (mL V l).toArray,I6 (H:Int)] W fun e w'=>e=Xl (.string (strOfNums (zfz X (H:Int) 64)))/\zc W w'):=show∀W,_ from fun W ey=>by
  have:=zkh V G (H:Int) W (cl.at.aA (A.trans ey)) cf.w c9.out;(try unfold Sli.x at this);(try unfold mL at this);rw[ci.out,v.1,v.2.1]at this;exact this
 have c8:=dD<|fun W(ey:zc a W)=>zkh ao X (H:Int) W (eh.aA (A.trans ey)) a2.w ca.out;have dp:=dD<|(ds.trans bx).trans A;rw[r,cc.out];clear r ct A;generalize strOfNums (zfz X (H:Int) 64)=gx at bz c8;have fg:=fun y:zj a=>(d.box.aA y.aA).c 0 rfl;have fh:=fun y:zj a=>(d.box.aA y.aA).c 1 rfl;have fi:=fun y:zj a=>(d.box.aA y.aA).c 2 rfl;have fj:=fun y:zj a=>(d.box.aA y.aA).c 3 rfl;have fk:=fun y:zj a=>(d.box.aA y.aA).c 4 rfl;have fl:=fun y:zj a=>(d.box.aA y.aA).c 5 rfl;have fm:=fun y:zj a=>(d.box.aA y.aA).c 6 rfl;have fn:=fun y:zj a=>(d.box.aA y.aA).c 7 rfl;have fo:=fun y:zj a=>(d.box.aA y.aA).c 8 rfl;have fp:=fun y:zj a=>(d.box.aA y.aA).c 9 rfl;have d8:=fun y:zj a=>(d.box.aA y.aA).c 10 rfl;have fq:=fun y:zj a=>(g.box.aA y.aA).c 0 rfl;have ft:=fun y:zj a=>(g.box.aA y.aA).c 1 rfl;have fu:=fun y:zj a=>(g.box.aA y.aA).c 2 rfl;have fv:=fun y:zj a=>(g.box.aA y.aA).c 3 rfl;have fw:=fun y:zj a=>(g.box.aA y.aA).c 4 rfl;have fx:=fun y:zj a=>(g.box.aA y.aA).c 5 rfl;have fy:=fun y:zj a=>(g.box.aA y.aA).c 6 rfl;have fz:=fun y:zj a=>(g.box.aA y.aA).c 7 rfl;have g0:=fun y:zj a=>(g.box.aA y.aA).c 8 rfl;have g2:=fun y:zj a=>(g.box.aA y.aA).c 9 rfl;have da:=fun y:zj a=>(g.box.aA y.aA).c 10 rfl;have ga:=fun y:zj a=>(ep.box.aA y.aA).c 1 rfl;have fa:Nonempty (zj a):=⟨⟨_,zc.refl _⟩⟩;refine jO 14 [(7,⟨fun gj=>gj=.string gx,fun _ _=>True⟩),(10,⟨fun gj=>gj=.string gx,fun _ _=>True⟩)] zY Kr rfl rfl Dc ?hS ?hp ?_;case hS=>
  intro x b9;simp only[mC,nM,or_false]at b9;rcases b9 with rfl|rfl<;>exact⟨_,rfl⟩
 case hp=>
  intro x b9;simp only[mC,nM,or_false]at b9;rcases b9 with rfl|rfl<;>exact fun _ _ _ _ _=>trivial
 simp only[Xz,Ya];iterate 7 refine zf ?_
 refine zI rfl rfl (fun w' ez bv=>?_) (fun j2 af=>?_);·refine zO.call [Xi (mL V l).toArray,I6 (H:Int)] rfl func21 rfl rfl rfl ?_;refine(bz w' ez).mono ?_;rintro e gk⟨rfl,aw⟩;exact⟨_,rfl,aw,rfl,trivial⟩
 cases af;refine Uq ?_;iterate 2 refine zf ?_
 refine zI rfl rfl (fun w' ez bv=>?_) (fun j2 af=>?_);·refine zO.call [Xi (mL ao X).toArray,I6 (H:Int)] rfl func21 rfl rfl rfl ?_;refine(c8 w' ez).mono ?_;rintro e gk⟨rfl,aw⟩;exact⟨_,rfl,aw,rfl,trivial⟩
 cases af;refine Uq ?_;iterate 3 refine zf ?_
 refine z5 fun ie cu _=>?_;have dq:=dD (dp.trans (show zc _ _ from cu));clear cu fa ga fg fh fi fj fk fl fm fn fo fp d8 fq ft fu fv fw fx fy fz g0 g2 da;go_wp2;go_ret;exact⟨rfl,dq⟩
end
section
open Go.ChangeShapes Go.WideShapes Go.ChangeAt Go.RowKit
theorem zs7:Tryz.prog.cellsOf 3=1:=by kernel_rfl
theorem zs8:Tryz.prog.cellsOf 5=1:=by kernel_rfl
theorem zs9:Tryz.prog.cellsOf 23=3:=by kernel_rfl
theorem zta:Tryz.prog.bytesOf 5=1:=by kernel_rfl
section
variable{H:Type}{enc:TypeId×Xq->H}{w:Xn}{base:Nat}{spare:Nat->Bool}{zg6:Bool}
theorem zfX{b:α->List Xq}:∀(l:List α)(x:Addr),(∀a∈l,(b a).length=k)->(∀(i:Nat)a,l[i]?=Xa a->jY w (x.add (i*k)) (b a))->jY w x (l.flatMap b)
 |[],x,_,_=>fun j u b=>by simp at b
 |a::l,x,d,h=>fun j u b=>by
  rw[List.flatMap_cons]at b;have e:=d a Sm
  rcases Nat.lt_or_ge j k with c|c
  ·rw[Xw Wm]at b
   have:=h 0 a rfl j u b;rw[zX]at this;simpa using this
  rw[aR Wm,e]at b
  have e:=zfX l (x.add k) (fun c f=>d c (by simp[f])) (fun i c d=>by
   have:=h (i+1) c (Si d);rw[zX];rw[show k+i*k=(i+1)*k by rw[Nat.add_mul];omega]
   exact this) (j-k) u b
  rw[zX,show k+(j-k)=j by omega]at e;exact e
theorem zo1[Inhabited α](b:α->List Xq)(Q:α->Prop)(k:Nat){e:TypeId}(M:Tryz.prog.underlying t=Xa (.slice e))(G:Tryz.prog.cellsOf e=k)(c:∀n cs(x:DataW H×List MemPlace),cs.length=k->DataW.trod enc prog w base spare zg6 n e cs=Xa x->∃a,Q a/\cs=b a)
  {g:Nat}{cs:List Xq}{x:DataW H×List MemPlace}(m:DataW.trod enc prog w base spare zg6 g t cs=Xa x):
  ∃v l,cs=[v]/\Je b w v l/\(∀a∈l,Q a/\(b a).length=k)/\(l=[]\/∃y R,x.1=.slice y R/\y.length=l.length):=by
 rcases Go.Deep.open_slice M m with⟨rfl,_⟩|⟨a,d,j,P,n,S,T,rfl,A,W,X,r,s,p⟩;·exact⟨_,[],rfl,⟨Xb,0,rfl,fun _=>rfl,fun x s=>by cases s⟩,Sm,.inl rfl⟩
 have K:d<=P:=by rw[r];split<;>omega
 have q:∀i,i<d->∃f,Q f/\(b f).length=k/\jY w (a.add (i*k)) (b f):=fun i F=>by
  obtain⟨B,z,D⟩:=p i Wm;rw[G]at z;obtain⟨_,h,E⟩:=World.cells?_some z;obtain⟨f,L,rfl⟩:=c _ _ _ h D;refine⟨f,L,h,fun Y Z V=>?_⟩;grind
 obtain⟨C,U⟩:=Go.Deep.choose_lt q;refine⟨_,(List.range d).map C,rfl,⟨Xa a,j,Sm,fun m=>(by cases m),fun I N=>?_⟩,fun u A=>?_,.inr ⟨_,_,by rw[s],Sm⟩⟩
 ·cases N;refine zfX (k:=k) _ _ (fun u A=>?_) (fun i u F=>?_);·grind
  grind
 grind
theorem zlo{r:Reach}{d:DataW H}{p:List MemPlace}(v:Value.okWide prog w r k 24 A)(h:DataW.Trod enc prog w base spare zg6 24 A d p)(l:∀n∈d.weights prog 24,n<=reachBytes):
  ∃(k:Sli)(s:List Int),A=k.x/\zq byE w (k.x) s/\k.n<=k.c/\∀z∈s,0<=z/\z<256:=by
 obtain⟨k,g⟩:=h;obtain⟨k,k,j,h,q,u⟩:=zo1 byE.enc (fun z=>0<=z/\z<256) 1 underlying24 zs8 (fun n b x _ e=>by
  obtain⟨z,f,b,b⟩:=DataW.trod_int underlying5 e;refine⟨z,?_,f⟩;have:=b;simp only[Lit.wf,Bool.and_eq_true,decide_eq_true_eq]at this;have e:IntKind.u8.min=0:=rfl;have b:IntKind.u8.max=255:=rfl;rw[e,b]at this;exact⟨this.1,Hm this.2⟩) g
 obtain⟨b,c,rfl,r,t⟩:=h;obtain⟨h,m,i,rfl⟩:=okWide_slice underlying24 v;have e:O h m i=O b k.length c:=by simpa[Value.cells]using j
 cases e;refine⟨⟨b,k.length,c⟩,k,rfl,⟨⟨b,c,rfl,r,t⟩,?_⟩,?_,fun z f=>(q z f).1⟩
 ·rcases u with rfl|⟨e,f,h,b⟩
  ·grind
  have b:d=.slice e f:=h;have:=l ((e.length+f.length)*Tryz.prog.bytesOf 5) (by rw[b];simp[DataW.weights,underlying24]);rw[zta]at this;unfold reachBytes at this;show k.length*1<=_;omega
 rcases Go.Deep.open_slice underlying24 g with⟨b,_⟩|⟨k,k,k,_,_,_,_,b,_,k,_⟩;·grind
 grind
theorem zjl{r:Reach}{d:DataW H}{p:List MemPlace}(t:Value.okWide prog w r k 23 A)(m:DataW.Trod enc prog w base spare zg6 23 A d p):∃F S B:Int,A=Xi #[I6 F,I6 S,I6 B]:=by
 obtain⟨a,rfl,s,_⟩:∃a,A=Xi a/\a.size=Tryz.prog.cellsOf 23/\Row.okWide prog w r k 23 a:=by simpa[Value.okWide,underlying23]using t
 obtain⟨l,b⟩:=m;obtain⟨g,n,_,_,hlen,q,b⟩:=DataW.trod_struct underlying23 b;rw[zs9]at hlen;have u:g.length=3:=q;obtain⟨a⟩:=a;simp only[Value.cells]at hlen b;have h:DataW.trod enc prog w base spare zg6 n 3 ((a.drop 0).take (Tryz.prog.cellsOf 3))=g[0]?:=b 0 _ rfl;have i:DataW.trod enc prog w base spare zg6 n 3 ((a.drop 1).take (Tryz.prog.cellsOf 3))=g[1]?:=b 1 _ rfl;have j:DataW.trod enc prog w base spare zg6 n 3 ((a.drop 2).take (Tryz.prog.cellsOf 3))=g[2]?:=b 2 _ rfl;rw[zs7]at h i j;rw[gE Wm]at h i j;obtain⟨v,x,_,_⟩:=DataW.trod_int underlying3 h;obtain⟨C,y,_,_⟩:=DataW.trod_int underlying3 i;obtain⟨D,z,_,_⟩:=DataW.trod_int underlying3 j;obtain⟨c,e,f,rfl⟩:∃c e f,a=[c,e,f]:=by
  match a,hlen with
  |[c,e,f],_=>exact⟨c,e,f,rfl⟩
 grind
end
theorem own:ownKnob Tryz.prog.godebug=Xb:=by kernel_rfl
theorem laidOut:laidOutB prog=Xc:=by kernel_rfl
theorem zdj(a0:Os)(f:a0.Started)(H:Type)(enc:TypeId×Xq->H):
  ReturnsInHanded {} Tryz.checked a0 7 .any (Rows.forkApartSpec.pre6 enc prog Tryz.f7 Rows.forkApartRow.domain Xd) (Rows.forkApartSpec.post enc prog Tryz.f7 Xd Xc Xd Xd):=by
 refine returnsInHanded_of_change_sized (C:=Tryz.checked) own f Kr func7
  (ChangeSpec.witness6 (enc:=enc) (C:=Tryz.checked) Xd ⟨#[],#[Xi #[I6 0,I6 0,I6 0],eS,I6 0,U8 0,Xh Xd],[]⟩ 8 Kr Kr Kr Kr) ?_
 intro W k c U ah s e X Y h _;have r:(DataW.weightsEach prog (Tryz.f7.params.toList++Rows.forkApartSpec.plain.varTypes prog) (U++ah)).all (·<=reachBytes)=Xc:=h;have a:∀(Z:Nat)i v,Tryz.f7.params[Z]?=Xa i->c[Z]?=Xa v->Value.okWide prog W .any k i v:=e;have u:=X;obtain⟨ay,bk,l,an,rfl,ap,ar⟩:=X;have V:DataW.TrodAll enc prog W 0 (fun _=>Xc) Xc Tryz.f7.params.toList c.toList U ay:=l;rw[Tryz.params7]at V a r;obtain⟨a1,ba,bf,ac,az,bl,w,rfl,rfl,A,b4⟩:=trodAll_cons V;obtain⟨a2,bb,ab,ad,b0,bm,rfl,rfl,rfl,B,b5⟩:=trodAll_cons b4;obtain⟨a3,bc,bg,ae,b1,bn,rfl,rfl,rfl,D,b6⟩:=trodAll_cons b5;obtain⟨a4,bd,bh,af,b2,bo,rfl,rfl,rfl,F,b7⟩:=trodAll_cons b6;obtain⟨a5,be,bi,ag,b3,bp,rfl,rfl,rfl,K,b8⟩:=trodAll_cons b7;obtain⟨rfl,rfl,rfl⟩:=trodAll_nil b8;obtain rfl:c=#[a1,a2,a3,a4,a5]:=by cases c;simp_all
 obtain⟨rfl,rfl⟩:=trodVars_none an;have M:∀x∈az,x.block<W.heap.size:=by obtain⟨m,g⟩:=A;exact DataW.trod_lt m _ _ _ g
 have N:∀x∈b0,x.block<W.heap.size:=by obtain⟨m,g⟩:=B;exact DataW.trod_lt m _ _ _ g
 have P:∀x∈b1,x.block<W.heap.size:=by obtain⟨m,g⟩:=D;exact DataW.trod_lt m _ _ _ g
 have Q:∀x∈b2,x.block<W.heap.size:=by obtain⟨m,g⟩:=F;exact DataW.trod_lt m _ _ _ g
 have R:∀x∈b3,x.block<W.heap.size:=by obtain⟨m,g⟩:=K;exact DataW.trod_lt m _ _ _ g
 obtain⟨a9,aa,a8,y⟩:=zjl (a 0 23 a1 rfl rfl) A;subst y;obtain⟨b9,au,z,q,p,n⟩:=zlo (a 1 24 a2 rfl rfl) B (fun I aq=>by
  have:=List.all_eq_true.1 r I (DataW.weights_mem_each (j:=1) (t:=24) (d:=ab) rfl rfl I aq)
  simpa using this)
 subst z;have E:=D;have G:=F;have L:=K;obtain⟨av,rfl,rfl,rfl,bq⟩:=open_int underlying3 (a 2 3 a3 rfl rfl) D;obtain⟨aw,rfl,rfl,rfl,br⟩:=open_int underlying5 (a 3 5 a4 rfl rfl) F;obtain⟨ax,rfl,rfl,rfl⟩:=open_bool underlying4 (a 4 4 a5 rfl rfl) K;clear l e h;refine(ziE a9 aa a8 b9 au av aw ax W q p n).mono fun bj a6⟨ao,bel⟩=>?_;subst ao;have b:∀{i:TypeId}{v:Xq}{T:DataW H}{S:List MemPlace},Tryz.prog.readableRec i=Xc->i<Tryz.prog.types.size->DataW.Trod enc prog W 0 (fun _=>Xc) Xc i v T S->(∀x∈S,x.block<W.heap.size)->DataW.Trod enc prog a6 0 (fun a7=>decide (a7<W.heap.size)) Xc i v T S:=
  fun aj ak al am=>Below.trod laidOut aj ak al bel am
 exact⟨_,rfl,_,_,_,[],_,[],u,trodAll_mk1 (shut_bool underlying4 _),(trodAll_cons_mk (b Kr (of_decide_eq_true Kr) A M) (trodAll_cons_mk (b Kr (of_decide_eq_true Kr) B N) (trodAll_cons_mk (b Kr (of_decide_eq_true Kr) E P) (trodAll_cons_mk (b Kr (of_decide_eq_true Kr) G Q) (trodAll_cons_mk (b Kr (of_decide_eq_true Kr) L R) trodAll_mk0))))),rfl,Below.frame bel _,fun ai=>by cases ai⟩
theorem zfk:Rows.forkApartRow.holds Tryz.pinned (OpenSpec.ofChange Rows.forkApartSpec):=
 OpenClaim.holds_of_wide 7 Tryz.f7 rfl rfl rfl rfl rfl rfl rfl ⟨rfl,rfl,rfl,rfl,rfl⟩ rfl rfl rfl rfl rfl Kr func7 Kr
  (of_decide_eq_true Kr) (by unfold Func.isWrapper;first|(rw[kE (by decide+kernel)];kernel_rfl)|(rw[kF (by decide+kernel)];exact⟨rfl,rfl⟩))
  (fun c a H b _=>zdj c a H b)
theorem forkApart_holds:Rows.ForkApartSaid:=zfk
#print axioms forkApart_holds
end
end Go.Proofs.YtkfjajbalegoeaaGreat
