import Derived.Test.YtmfckdkcmbncdaaGreatFP7
namespace Go.Proofs.YtmfckdkcmbncdaaGreat
open Go.Value renaming slice→O,int→Xe,bool→Xh,agg→Xi,pointer→Xj,tuple→Xm
open Go.IntKind renaming i64→Xf,u8→Xg
open Go.Obj renaming cells→Xk
open Go.Ending renaming returned→Xl
open Go renaming World→Xn,Calls→Xp,Value→Xq
open Go.RowKit renaming Hid→Xo
open Option renaming some→Xa,none→Xb
open Bool renaming true→Xc,false→Xd
open List renaming replicate→Xr
open Go.Act renaming put→Xs
open _root_.Nat renaming lt_of_lt_of_le→Xt,le_of_ble_eq_true→Xv
open _root_.List renaming take_of_length_le→Xu,mem_of_mem_take→Xw,takeWhile_cons→Xx,mem_singleton→Xy,pairwise_cons→Xz,map_nil→Ya,take→Yb,drop→Yc
set_option maxRecDepth 100000
set_option maxHeartbeats 4000000
variable{B b fi g:Nat} {V:MaV} {m:Ma} {o:Oper} {t:TypeId} {u1 w' w0 w1:Xn} {xs:List Xq} {z:Int}
open Go.Proofs.Tryz
section
open Go.RowKit
theorem zgc {w:Xn} {a:Act} (b:o.op= .alloc 32):(execOp a.eval o).run prog w= .ok (.value (Xj (Xa ⟨w.heap.size,0,Xb⟩))) (w.alloc (Xk #[eS,I6 0] 32)):=by
 simp only[execOp,b]
 go_simp
theorem zeH {w:Xn} {p:Nat} (ay:ChW w0 p w V m) (c2:Rt m) (pg:Pg) (fi ix:Int) (bl:frW (frT pg fi ix)=0) (c6) (l:List (Nat × Nat)) (a4:zjR zaw (Dw p V) w c6 l) (bn:∀x∈l,x.2<64/\∃s,m.sp[x.1]? =Xa s)
  (U:qL (zh m l).fs=0->∀bz cl,ChW w0 p bz cl (zh m l)->zjR zaw (Dw p cl) bz c6 l->Xp prog 160 #[Xj (Xa ⟨p,0,Xb⟩),c6] bz fun e w'=>e= Xl (Xh (Qe (zh m l) l).1)/\Chg w0 p bz cl (Qe (zh m l) l).2 w'):
  Xp prog 191 #[Xj (Xa ⟨p,0,Xb⟩),Xi #[Xe Xg pg.b0,Xe Xg pg.b1,Xe Xg pg.b2,Xe Xg pg.b3,Xe Xg pg.b4,Xe Xg pg.b5,Xe Xg pg.b6,Xe Xg pg.b7],Xe Xf fi,Xe Xf ix,c6] w fun e w'=>e= Xl (Xm #[Xe Xf ((zct m (frT pg fi ix) l).2.1:Int),Xe Xf (if(zct m (frT pg fi ix) l).1=Xc then 0 else 10)])/\Chg w0 p w V (zct m (frT pg fi ix) l).2.2 w':=by
 have cg:=dD a4;have ej:=dD ay;have fn:=dD c2;have fm:=dD bn;have cb:=dD bl;have ae:=dD U
 obtain⟨fw,fx,rfl,cv⟩:=(a4 w (zm.refl _ _)).spots;have bi:=(a4 w (zm.refl _ _)).short;obtain⟨ax,ah⟩:=kA l.length;rw[ah.out]at cg ae bi⊢;have c9:Xo (∀j,j<=ax->Rt (zh m (l.take j))/\(zh m (l.take j)).sp.length=m.sp.length):=dD<|fun j _=>by
  obtain⟨g,_⟩:=qG (l.take j) c2 (fun x a5=>bn x (Xw a5))
  exact⟨g.rt,g.sam.spl⟩
 have ca:Xo (∀(j:Nat) x,l[j]? =Xa x->zh m (l.take (j+1))=zla (zh m (l.take j)) x.1 (x.2:Int)/\x.1< (zh m (l.take j)).sp.length/\((Zr (zh m (l.take j)) x.1 (x.2:Int)).kind=1->jQ (zh m (l.take j)).fs (zh m (l.take j)).hand (Zr (zh m (l.take j)) x.1 (x.2:Int)).n (-1)=0)):=dD<|fun j x a5=>by
  obtain⟨g,_⟩:=qG (l.take j) c2 (fun x a5=>bn x (Xw a5))
  obtain⟨e6,s,fh⟩:=bn x (mG a5);have bq:x.1< (zh m (l.take j)).sp.length:=by rw[g.sam.spl];exact(gS.1 fh).1
  have bs:=gE bq;refine⟨?_,bq,znn g.rt bs e6⟩;rw[List.take_add_one,a5,zqD g.rt bs e6];exact zcj _ _ _
 have el:Xo (p<w.heap.size):=ay.dlt p (.inl rfl);have ei:=dD ay.dlt;clear ay a4 c2 bn bl cv U;have a:Xo (zct m (frT pg fi ix) l=if(qz (zh m l) l).1=Xc then(Xc,jm (qz (zh m l) l).2.fs,{(qz (zh m l) l).2 with fs:=(qz (zh m l) l).2.fs.set (jm (qz (zh m l) l).2.fs) (frT pg fi ix) })else(Xd,0,(qz (zh m l) l).2)):=show _=_ from rfl
 obtain⟨ck,em⟩:=kA (zct m (frT pg fi ix) l);rw[em.out]at a⊢;obtain⟨fu,ab⟩:=kA (if ck.1=Xc then(0:Int)else 10);rw[ab.out];obtain⟨E,h,f,z,F,G,H,K⟩:=pg;simp only;obtain⟨n,c8⟩:=kA w.heap.size;obtain⟨ey,Y⟩:=kB (w.alloc (Xk #[Xe Xg E,Xe Xg h,Xe Xg f,Xe Xg z,Xe Xg F,Xe Xg G,Xe Xg H,Xe Xg K] 91));have dk:=gA Y
 have f7:=xPT Y c8
 have ch:Xo (_=ey):=Y;have ek:Xo (¬Dw p V n):=show¬_ from fun e=>by have:=ei.out _ e;have:=c8.out;omega
 clear Y
 go_enter func191,ntmps191
 go_upto_region 1 with fail;rw[ch.out,c8.out];go_wp2
 go_loopg [19] ax (fun c1 df wr=>∃(j:Nat) (S:MaV),j<=ax/\ax - j<=c1/\df= Xe Xf j/\Xo (ChW w0 p wr S (zh m (l.take j)))/\Xo (zm (Dw p V) w wr)/\Xo (∀k,Dw p S k->Dw p V k\/w.heap.size<=k)/\Xo (zn wr n 91 [Xe Xg E,Xe Xg h,Xe Xg f,Xe Xg z,Xe Xg F,Xe Xg G,Xe Xg H,Xe Xg K]))
 case atStart=>exact⟨0,V,nZ _,by omega,rfl,ej.grew dk,zm.grew dk,(fun _ ay=> .inl ay:∀k,Dw p V k->Dw p V k\/w.heap.size<=k),f7⟩
 obtain⟨j,S,az,fg,rfl,W,cj,b8,cn⟩:=hrel
 by_cases aq:j<ax
 ·have bp:=kC aq
  obtain⟨x,dl⟩:∃x,Xo (l[j]? =Xa x):=⟨_,gE (by rw[ah.out];exact aq)⟩
  obtain⟨_,_,av,br⟩:=(cg wr cj).spots;simp only[vJ]at av;obtain⟨ft,bh,bj⟩:=br j x dl.out;rw[<-av.1]at bh;subst bh;obtain⟨du,dv⟩:=bj wr (zb.refl _);obtain⟨dy,cp,cq⟩:=ca.out j x dl.out;have b9:=dD dy;obtain⟨bv,bw⟩:=x;simp only at du dv cp cq b9;have an:=zle (W.grew (za wr (Xk #[Xe Xf (bv:Int),Xe Xf (bw:Int)] 142))) bv cp (bw:Int) cq;rw[<-b9.out]at an;clear av br bj dy cp cq;go_wp2_with fail;refine an.mono ?_;clear an du dv;rintro e dq ⟨⟨fy,rfl⟩,X⟩;obtain⟨ex,dr,e7,dw⟩:=Chg.step cj b8 (Chg.of_grew (za _ _) X);have eo:=dD dr;have et:=dD e7;have ef:=dD dw;have f8:Xo (zn dq n 91 [Xe Xg E,Xe Xg h,Xe Xg f,Xe Xg z,Xe Xg F,Xe Xg G,Xe Xg H,Xe Xg K]):=show zn _ _ _ _ by
   obtain⟨_,_,fk,_⟩:=X;exact(cn.grew (za _ _)).outD fk (W.offB cn (by decide) (by decide) (by decide) (by decide))
  clear X dr e7 dw;go_wp2
  go_roundg (ax -(j+1))
  case measure=>omega
  exact⟨j+1,ex,by omega,by omega,by go_num,eo,et,ef,f8⟩
 have bp:=kD aq
 have ap:l.take j=l:=Xu (by rw[ah.out];omega)
 rw[ap]at W;have ba:Xo (Rt (zh m l)):=dD<|by have:=(c9 j az).1;rw[ap]at this;exact this
 clear ap;obtain⟨i,cd⟩:=kA (zh m l);rw[cd.out]at W ba ae a;obtain⟨L,A,al⟩:=zgd ba l;have ag:=dD L.rt;have ac:=dD A
 have ai:Xo (qz i l=if qL i.fs=0 then Qe i l else(Xc,i)):=dD<|rfl
 clear L A al;obtain⟨ew,ce⟩:=kA (qz i l);rw[ce.out]at ag ac ai a;obtain⟨bb,d⟩:=ew;simp only at ag ac a;have r:Xp prog 222 #[Xi #[O S.f.a S.f.n S.f.c,Xe Xf i.hand]] wr fun e w'=>e= Xl (Xe Xf (qL i.fs:Int))/\zb wr w':=by
  obtain⟨dc,-⟩:=W.at.ns;have Q:=W.at.fs;(try simp only[Sli.x]at Q⊢);rw[dc]at Q⊢;rw[<-zoW];exact zgw S.f.a S.f.c i.fs i.hand wr Q
 have bv:=W.box.box.c 0 rfl;have bw:=W.box.box.c 1 rfl;go_upto_region 6 with fail
 go_cut [39] (fun dg di=>∃D:MaV,dg= Xh (!bb)/\Xo (ChW w0 p di D d)/\Xo (zm (Dw p V) w di)/\Xo (∀k,Dw p D k->Dw p V k\/w.heap.size<=k)/\Xo (zn di n 91 [Xe Xg E,Xe Xg h,Xe Xg f,Xe Xg z,Xe Xg F,Xe Xg G,Xe Xg H,Xe Xg K]))
 case first=>
  go_wp2_with fail;refine r.mono ?_;clear r bv bw;rintro e f5 ⟨rfl,c0⟩;have ci:=dD (W.grew c0);have bx:=dD (cj.trans (zm.grew c0));have cm:=dD (cn.grew c0);clear c0
  by_cases ak:qL i.fs=0
  ·have c5:((qL i.fs:Int) == 0)=Xc:=by rw[ak];rfl
   have aa:Xo ((bb,d)=Qe i l):=dD<|by rw[ai.out,kE ak]
   have ao:=ae.out ak f5 S ci (fun a6 c3=>cg.out a6 (zm.far bx b8 c3))
   obtain⟨ff,af⟩:=kA (qL i.fs:Int);rw[af.out]at c5⊢;rw[<-aa.out]at ao;clear ak;go_wp2_with fail;refine ao.mono ?_;clear ao;rintro e f6 ⟨rfl,dp,dt,dd,dx⟩;have eu:=dD<|zm.far bx b8 dd;have eg:Xo (∀k,Dw p dp k->Dw p V k\/w.heap.size<=k):=show∀k,_ from fun k a0=>(dx k a0).elim (fun e=>b8.out k e) (fun e=> .inr (nT bx.size e))
   have f9:Xo (zn f6 n 91 [Xe Xg E,Xe Xg h,Xe Xg f,Xe Xg z,Xe Xg F,Xe Xg G,Xe Xg H,Xe Xg K]):=cm.outD dd (ci.offB cm (by decide) (by decide) (by decide) (by decide))
   have eq:=dD dt;clear dt dd dx c5;simp only;cases bb
   all_goals (go_wp2;go_meet;exact⟨dp,rfl,eq,eu,eg,f9⟩)
  have c5:((qL i.fs:Int) == 0)=Xd:=by simpa using ak
  have aa:Xo ((bb,d)=(Xc,i)):=dD<|by rw[ai.out,kF ak]
  obtain⟨ff,af⟩:=kA (qL i.fs:Int);rw[af.out]at c5⊢;clear ak;have bk:=aa.out;simp only[pJ]at bk;obtain⟨rfl,rfl⟩:=bk;go_wp2
  go_meet
  exact⟨S,rfl,ci,bx,b8,cm⟩
 clear r bv bw;obtain⟨D,rfl,aj,dm,dj,a7⟩:=hcut
 cases bb with
 | false=>
  rw[kF (by decide)]at a
  have es:Xo (Chg w0 p w V ck.2.2 wc):=dD<|by rw[a.out];exact⟨D,aj,dm,dj⟩
  go_wp2
  go_ret2
  exact⟨by rw[<-ab.out,a.out];rfl,es⟩
 | true=>
  rw[kE rfl]at a;obtain⟨bd,cr,fv,dz,fe⟩:=zdw (ac rfl);obtain⟨Q,cc⟩:=kA (jm d.fs);rw[cc.out]at bd cr dz a;have cf:Xo (∀a6,zb wc a6->Xp prog 223 #[Xi #[O D.f.a D.f.n D.f.c,Xe Xf d.hand],Xi #[Xe Xg E,Xe Xg h,Xe Xg f,Xe Xg z,Xe Xg F,Xe Xg G,Xe Xg H,Xe Xg K],Xe Xf fi,Xe Xf ix] a6 fun e w'=>∃s:Sli,e= Xl (Xm #[Xi #[O s.a s.n s.c,Xe Xf d.hand],Xe Xf (Q:Int),Xe Xf 0])/\zc Qy wc.heap.size w' (O s.a s.n s.c) (d.fs.set Q (frT ⟨E,h,f,z,F,G,H,K⟩ fi ix))/\zb a6 w'):=dD<|fun a6 c3=>by
   obtain⟨dc,-⟩:=aj.at.ns;have k:=(aj.at.grew c3).fs;(try simp only[Sli.x]at k⊢);rw[dc]at k⊢;refine(zrF D.f.a D.f.c d.fs d.hand ⟨E,h,f,z,F,G,H,K⟩ fi ix a6 k ag.parts.1 cb Q bd cr).mono ?_;rintro e w' ⟨n,rfl,fj,g⟩;have bt:zc Qy a6.heap.size w' n (d.fs.set Q (frT ⟨E,h,f,z,F,G,H,K⟩ fi ix)):=fj;obtain⟨fa,fb,rfl,_⟩:=bt.at.rows;exact⟨⟨fa,_,fb⟩,rfl,bt.base (bS c3),g⟩
  clear bd cr dz fe;go_upto_region 8 with fail;obtain⟨u,b⟩:∃u:Xn->Prop,Xo (∀R,u R↔zb wc R):=⟨fun R=>zb wc R,fun _=>Iff.rfl⟩
  have am:=(b _).2 (gW _)
  have cw:Nonempty (zk u):=⟨⟨_,am⟩⟩;have cy:∀y:zk u,y.world.cell? ⟨p,0,Xb⟩=_:=fun y=>(aj.box.box.grew ((b _).1 y.holds)).c 0 rfl
  have cz:∀y:zk u,y.world.cell? ⟨p,1,Xb⟩=_:=fun y=>(aj.box.box.grew ((b _).1 y.holds)).c 1 rfl
  have d2:∀y:zk u,y.world.cell? ⟨n,0,Xb⟩=_:=fun y=>(a7.box.grew ((b _).1 y.holds)).c 0 rfl
  have d3:∀y:zk u,y.world.cell? ⟨n,1,Xb⟩=_:=fun y=>(a7.box.grew ((b _).1 y.holds)).c 1 rfl
  have d5:∀y:zk u,y.world.cell? ⟨n,2,Xb⟩=_:=fun y=>(a7.box.grew ((b _).1 y.holds)).c 2 rfl
  have d6:∀y:zk u,y.world.cell? ⟨n,3,Xb⟩=_:=fun y=>(a7.box.grew ((b _).1 y.holds)).c 3 rfl
  have d8:∀y:zk u,y.world.cell? ⟨n,4,Xb⟩=_:=fun y=>(a7.box.grew ((b _).1 y.holds)).c 4 rfl
  have d9:∀y:zk u,y.world.cell? ⟨n,5,Xb⟩=_:=fun y=>(a7.box.grew ((b _).1 y.holds)).c 5 rfl
  have da:∀y:zk u,y.world.cell? ⟨n,6,Xb⟩=_:=fun y=>(a7.box.grew ((b _).1 y.holds)).c 6 rfl
  have db:∀y:zk u,y.world.cell? ⟨n,7,Xb⟩=_:=fun y=>(a7.box.grew ((b _).1 y.holds)).c 7 rfl
  refine JC (I:=u) 17 [(8,⟨.const (Xh Xd),fun v=>∃s:Sli,v= Xm #[Xi #[O s.a s.n s.c,Xe Xf d.hand],Xe Xf (Q:Int),Xe Xf 0],fun _ v R=>∃s:Sli,v= Xm #[Xi #[O s.a s.n s.c,Xe Xf d.hand],Xe Xf (Q:Int),Xe Xf 0]/\zc Qy wc.heap.size R (O s.a s.n s.c) (d.fs.set Q (frT ⟨E,h,f,z,F,G,H,K⟩ fi ix)),fun p a9=>zb p a9,fun _=>True⟩),(13,⟨.const (Xh Xd),fun v=>∃g,v= Xj (Xa ⟨g,0,Xb⟩),fun _ v R=>∃g T,v= Xj (Xa ⟨g,0,Xb⟩)/\wc.heap.size<=g/\zn R g 32 T/\T.length=2,fun p a9=>zb p a9,fun _=>True⟩),(14,⟨.tmp 14,fun _=>True,fun eb _ R=>∃g,∃s:Sli,eb= Xj (Xa ⟨g,0,Xb⟩)/\wc.heap.size<=g/\zn R g 32 [O s.a s.n s.c,Xe Xf d.hand]/\zc Qy wc.heap.size R (O s.a s.n s.c) (d.fs.set Q (frT ⟨E,h,f,z,F,G,H,K⟩ fi ix)),fun p a9=>∃g T co,wc.heap.size<=g/\p.grownBy a9 (Xa g)/\zn p g 32 co/\zn a9 g 32 T/\T.length=2,fun _=>True⟩)] am zZ (by kernel_rfl) (by kernel_rfl) rfl rfl (by decide) ?hS ?hp ?hpre ?hpr0 ?_
  case hS=>
   intro x a5;simp only[mC,nM,or_false]at a5
   rcases a5 with rfl|rfl|rfl
   ·exact⟨_,je,rfl⟩
   ·exact⟨_,0,rfl⟩
   exact⟨Xh Xc,trivial⟩
  case hp=>
   intro k s j ec a0 az Z e4 eb v p a9 c ar;have P:=z9 a0;have t:=z9 az;clear a0 az;simp only[mC,pJ,nM,or_false]at P t
   rcases P with⟨rfl,rfl⟩|⟨rfl,rfl⟩|⟨rfl,rfl⟩
   ·obtain⟨s,L,A⟩:=ar
    rcases t with⟨rfl,rfl⟩|⟨rfl,rfl⟩|⟨rfl,rfl⟩
    ·exact absurd rfl Z
    ·exact⟨s,L,A.grew c⟩
    obtain⟨be,T,co,fl,de,e8,e9,ea⟩:=c;exact⟨s,L,A.grown de fun g cu e=>by cases e;exact A.ne e8 (by decide) be cu rfl⟩
   ·obtain⟨g,T,L,A,al,X⟩:=ar
    rcases t with⟨rfl,rfl⟩|⟨rfl,rfl⟩|⟨rfl,rfl⟩
    ·exact⟨g,T,L,A,al.grew c,X⟩
    ·exact absurd rfl Z
    obtain⟨be,fc,co,fl,de,e8,e9,ea⟩:=c
    by_cases e:g=be
    ·subst e;exact⟨g,_,L,A,e9,ea⟩
    exact⟨g,T,L,A,al.beside de (fun k a0=>by cases a0;exact e),X⟩
   obtain⟨g,s,L,A,al,X⟩:=ar
   rcases t with⟨rfl,rfl⟩|⟨rfl,rfl⟩|⟨rfl,rfl⟩
   ·exact⟨g,s,L,A,al.grew c,X.grew c⟩
   ·exact⟨g,s,L,A,al.grew c,X.grew c⟩
   exact absurd rfl Z
  case hpre=>
   intro j ec k s az a0 Z p a9 c au;have t:=z9 az;simp only[mC,pJ,nM,or_false]at t
   rcases t with⟨rfl,rfl⟩|⟨rfl,rfl⟩|⟨rfl,rfl⟩ <;> trivial
  case hpr0=>
   intro k ec a0;have P:=z9 a0;simp only[mC,pJ,nM,or_false]at P
   rcases P with⟨rfl,rfl⟩|⟨rfl,rfl⟩|⟨rfl,rfl⟩ <;> trivial
  simp only[Yb,Yc];refine zae rfl rfl rfl (fun en e0=>?_);go_big_quiet_op;refine e0 _ ?_;clear e0 en
  refine zgD (.tmp 41) ⟨p,0,Xb⟩ rfl rfl rfl rfl ?_;simp only[Xs,sB,sS,sZ];iterate 6 refine Zi ?_
  refine jw rfl rfl (fun w' q au U=>?_) (fun ed a4=>?_)
  ·refine zR.call [Xi #[O D.f.a D.f.n D.f.c,Xe Xf d.hand],Xi #[Xe Xg E,Xe Xg h,Xe Xg f,Xe Xg z,Xe Xg F,Xe Xg G,Xe Xg H,Xe Xg K],Xe Xf fi,Xe Xf ix] rfl func223 rfl rfl rfl ?_;refine(cf w' ((b _).1 q)).mono ?_;rintro e dh ⟨s,rfl,aw,c1⟩;exact⟨_,rfl,(b _).2 (((b _).1 q).trans c1),c1,⟨s,rfl⟩,s,rfl,aw⟩
  obtain⟨s,rfl⟩:=a4;simp only[Xs,sB,sS,sZ];iterate 4 refine Zi ?_
  refine jw rfl rfl (fun w' q au U=>?_) (fun ed a4=>?_)
  ·refine zR.step (v:= Xj (Xa ⟨w'.heap.size,0,Xb⟩)) (w':=w'.alloc (Xk #[O Xb 0 0,Xe Xf 0] 32)) (zgc rfl) ⟨(b _).2 (((b _).1 q).trans (za _ _)),za _ _,⟨_,rfl⟩,_,_,rfl,bS ((b _).1 q),zn.top _ [O Xb 0 0,Xe Xf 0] _ rfl,rfl⟩
  obtain⟨bu,rfl⟩:=a4;simp only[Xs,sB,sS,sZ];refine jw rfl rfl (fun w' q au U=>?_) (fun ed a4=>?_)
  ·obtain⟨g,T,M,B,N,bm⟩:=U 13 (by kernel_rfl)
   simp only[Value.pointer.injEq,Option.some.injEq,Addr.mk.injEq,and_true]at M;subst M;obtain⟨C,e5,aw⟩:=U 8 (by kernel_rfl)
   have cx:C=s:=by
    obtain⟨fo,fp,fq⟩:=s;obtain⟨h,f,z⟩:=C;simp only[Value.tuple.injEq,Array.mk.injEq,List.cons.injEq,Value.agg.injEq,vJ,and_true]at e5;obtain⟨rfl,rfl,rfl⟩:=e5;rfl
   subst cx;refine zR.storeAllT 32 (.tmp 14) (.tmp 50) rfl bu rfl [O C.a C.n C.c,Xe Xf d.hand] rfl N (by rw[bm];rfl) (by rw[bm];kernel_rfl) (by simp[Value.oneCell']) fun dh h f z=>?_
   exact⟨(b _).2 (zd ((b _).1 q) f B),⟨bu,_,_,B,f,N,h,rfl⟩,trivial,bu,C,rfl,B,h,aw.grown f fun g cu e=>by cases e;exact aw.ne N (by decide) bu cu rfl⟩
  simp only[Xs];iterate 2 refine Zi ?_
  refine zbh fun dq bg U=>?_
  obtain⟨be,C,M,N,B,aw⟩:=U 14;have a8:(Value.pointer (Xa ⟨bu,0,Xb⟩):Xq)= Xj (Xa ⟨be,0,Xb⟩):=M;simp only[Value.pointer.injEq,Option.some.injEq,Addr.mk.injEq,and_true]at a8;subst a8;have ct:=(b _).1 bg;have eh:=dD ct;have dn:=dD B;have ev:=dD aw;have ee:=dD (aj.box.grew ct);clear U bg am cw cy cz d2 d3 d5 d6 d8 d9 da db ct M B N aw;have fd:=dn.box.c 0 rfl;have bd:=dn.box.c 1 rfl
  go_upto_region 12 with(refine jt rfl 32 (.tmp 60) (.tmp 57) rfl p 0 rfl (Xi #[O C.a C.n C.c,Xe Xf d.hand]) rfl [O C.a C.n C.c,Xe Xf d.hand] rfl ee (by simp[chL]) (by kernel_rfl) (by simp[Value.oneCell']) ?_)
  intro ez bc bf _;have ep:Xo (Chg w0 p w V ck.2.2 ez):=dD<|by
   rw[a.out];exact Chg.step dm dj (aj.setF eh ev bf bc)
  clear fd bd bc bf;go_wp2
  go_ret2
  exact⟨by rw[<-ab.out,a.out];rfl,ep⟩
theorem zlg {w:Xn} {p:Nat} (ab:ChW w0 p w V m) (ac:Rt m) (pg:Pg) (R) (l:List (Nat × Nat)) (a8:zjR zaw (Dw p V) w R l) (a5:∀x∈l,x.2<64/\∃s,m.sp[x.1]? =Xa s) (bw:l≠[]) (bu:l.length<=900)
  (bv:qL (zh m l).fs=0->∀z U,ChW w0 p z U (zh m l)->zjR zaw (Dw p U) z R l->Xp prog 160 #[Xj (Xa ⟨p,0,Xb⟩),R] z fun e w'=>e= Xl (Xh (Qe (zh m l) l).1)/\Chg w0 p z U (Qe (zh m l) l).2 w'):
  Xp prog 232 #[Xj (Xa ⟨p,0,Xb⟩),Xi #[U8 pg.b0,U8 pg.b1,U8 pg.b2,U8 pg.b3,U8 pg.b4,U8 pg.b5,U8 pg.b6,U8 pg.b7],R] w fun e w'=>e= Xl (Xm #[I6 ((JY m pg l).2.1:Int),I6 (if(JY m pg l).1=Xc then 0 else 10)])/\Chg w0 p w V (JY m pg l).2.2 w':=by
 have bk:=dD a8;have d8:=dD ab;have d7:=dD ab.dlt;have aq:=zgd (qG l ac a5).1.rt l;have aj:=dD<|(qG l ac a5).1.sam.spl;have ck:Xo (∀x∈l,x.2<64/\x.1<m.sp.length):=show∀x∈l,_ from fun x a9=>by
  obtain⟨ay,s,H⟩:=a5 x a9;exact⟨ay,(gS.1 H).1⟩
 obtain⟨f,g,h,i,k,n,q,r⟩:=pg;simp only;have G:Xo (∀W,zb w W->Xp prog 191 #[Xj (Xa ⟨p,0,Xb⟩),Xi #[U8 f,U8 g,U8 h,U8 i,U8 k,U8 n,U8 q,U8 r],I6 (-1),I6 0,R] W fun e w'=>e= Xl (Xm #[I6 ((zct m (frT ⟨f,g,h,i,k,n,q,r⟩ (-1) 0) l).2.1:Int),I6 (if(zct m (frT ⟨f,g,h,i,k,n,q,r⟩ (-1) 0) l).1=Xc then 0 else 10)])/\Chg w0 p W V (zct m (frT ⟨f,g,h,i,k,n,q,r⟩ (-1) 0) l).2.2 w'):=dD<|fun W ae=>zeH (ab.grew ae) ac ⟨f,g,h,i,k,n,q,r⟩ (-1) 0 (ziz (.inl ⟨rfl,rfl⟩)) R l (fun z t=>a8 z ((zm.grew ae).trans t)) a5 bv
 have a:Xo (JY m ⟨f,g,h,i,k,n,q,r⟩ l=if(qz (zh m l) l).1=Xc then(Xc,jm (qz (zh m l) l).2.fs,zaS (qz (zh m l) l).2 (jm (qz (zh m l) l).2.fs) ⟨f,g,h,i,k,n,q,r⟩ Xc l)else(Xd,0,(qz (zh m l) l).2)):=dD<|rfl
 have c:Xo (zct m (frT ⟨f,g,h,i,k,n,q,r⟩ (-1) 0) l=if(qz (zh m l) l).1=Xc then(Xc,jm (qz (zh m l) l).2.fs,{(qz (zh m l) l).2 with fs:=(qz (zh m l) l).2.fs.set (jm (qz (zh m l) l).2.fs) (frT ⟨f,g,h,i,k,n,q,r⟩ (-1) 0) })else(Xd,0,(qz (zh m l) l).2)):=dD<|rfl
 obtain⟨ah,ci⟩:=kA (JY m ⟨f,g,h,i,k,n,q,r⟩ l);obtain⟨d9,cl⟩:=kA (zct m (frT ⟨f,g,h,i,k,n,q,r⟩ (-1) 0) l);rw[ci.out]at a⊢;obtain⟨dd,C⟩:=kA (if ah.1=Xc then(0:Int)else 10);rw[C.out];rw[cl.out]at c G;obtain⟨t,bs,-⟩:=aq;have F:Xo ((qz (zh m l) l).2.sp.length=m.sp.length):=dD<|by rw[t.sam.spl,aj.out]
 have E:=dD t.rt;have D:=dD bs
 obtain⟨df,dg,rfl,be⟩:=(a8 w (zm.refl _ _)).spots;have a1:=(a8 w (zm.refl _ _)).short;clear t bs ab a8 ac a5 bv be;obtain⟨cq,ar⟩:=kA (qz (zh m l) l);rw[ar.out]at E D a c F;obtain⟨cv,bf⟩:=cq;simp only at E D a c F;have an:=dD bw;have am:=dD bu;clear bw bu;obtain⟨P,v⟩:=kA l.length;rw[v.out]at bk G a1⊢;obtain⟨H,bj⟩:=kA w.heap.size;obtain⟨cs,A⟩:=kB (w.alloc (Xk #[U8 f,U8 g,U8 h,U8 i,U8 k,U8 n,U8 q,U8 r] 91));have ai:=gA A
 have cu:=xPT A bj
 have au:=dD A;clear A;have b:=G.out cs ai.out
 go_enter func232,ntmps232
 go_upto_region 1 with fail;rw[au.out,bj.out];obtain⟨c6,c7,c8,c9,ca,cb,cc,cd⟩:=cu.box.c8
 cases cv with
 | false=>
  rw[kF (by decide)]at a c
  rw[c.out]at b;simp only[Bool.false_eq_true,if_false]at b;go_wp2_with fail;refine b.mono ?_;clear b c6 c7 c8 c9 ca cb cc cd;rintro e z ⟨rfl,t⟩;have av:Xo (Chg w0 p w V ah.2.2 z):=dD<|by rw[a.out];exact Chg.of_grew ai t
  clear t;go_wp2
  go_ret2
  exact⟨by rw[<-C.out,a.out];rfl,av⟩
 | true=>
  rw[kE rfl]at a c;obtain⟨cx,cy,de,bb,cz⟩:=zdw (D rfl);obtain⟨d,al⟩:=kA (jm bf.fs);rw[al.out]at bb c a;obtain⟨az,b8,bm⟩:=zli E bb ⟨f,g,h,i,k,n,q,r⟩ (fun x a9=>by rw[F.out];exact ck x a9) an am.out
  rw[<-bm]at a;clear bm;rw[c.out]at b;simp only[if_true]at b;obtain⟨B,ap⟩:∃B:Ma,Xo (({ bf with fs:=bf.fs.set d (frT ⟨f,g,h,i,k,n,q,r⟩ (-1) 0) }:Ma)=B):=⟨_,rfl⟩;rw[ap.out]at a az b8 b;have cj:Xo (∀j,j<=P->∀x,l[j]? =Xa x->jQ (zF B d (l.take j)).fs (zF B d (l.take j)).hand (d:Int) 1=0/\zF B d (l.take (j+1))=zdl (zF B d (l.take j)) x.1 (x.2:Int) (d:Int)/\x.1< (zF B d (l.take j)).sp.length):=dD<|fun j bd x a9=>(az j (by rw[v.out];exact bd)).2 x a9
  have S:=dD b8;clear az b8 cx cy bb cz;go_wp2_with fail;refine b.mono ?_;clear b c6 c7 c8 c9 ca cb cc cd;rintro e z ⟨rfl,t⟩;obtain⟨U,bx,c0,Y⟩:=Chg.of_grew ai t;have cm:=dD bx;have co:=dD c0;have cf:=dD Y;clear t bx c0 Y;go_wp2
  go_loopg [24] P (fun d3 bh wr=>∃(j:Nat) (Q:MaV),j<=P/\P - j<=d3/\bh=I6 j/\Xo (ChW w0 p wr Q (zF B d (l.take j)))/\Xo (zm (Dw p V) w wr)/\Xo (∀N,Dw p Q N->Dw p V N\/w.heap.size<=N))
  case atStart=>exact⟨0,U,nZ _,by omega,rfl,cm,co,cf⟩
  obtain⟨j,Q,bd,d5,rfl,y,aw,bi⟩:=hrel
  by_cases L:j<P
  ·have a6:=kC L
   obtain⟨x,bl⟩:∃x,Xo (l[j]? =Xa x):=⟨_,gE (by rw[v.out];exact L)⟩
   obtain⟨_,_,M,a7⟩:=(bk wr aw).spots;simp only[vJ]at M;obtain⟨dc,a0,a2⟩:=a7 j x bl.out;rw[<-M.1]at a0;subst a0;obtain⟨bp,Y⟩:=a2 wr (zb.refl _);obtain⟨b9,br,ba⟩:=cj.out j bd x bl.out;have T:=dD br;obtain⟨af,ag⟩:=x;simp only at bp Y b9 ba T;have K:=zb0 (y.grew (za wr (Xk #[I6 (af:Int),I6 (ag:Int)] 142))) af ba (ag:Int) (d:Int) b9;rw[<-T.out]at K;clear M a7 a2 b9 br ba;go_wp2_with fail;refine K.mono ?_;clear K bp Y;rintro e da ⟨⟨dh,rfl⟩,bt⟩;obtain⟨cr,bn,c5,bq⟩:=Chg.step aw bi (Chg.of_grew (za _ _) bt);have cn:=dD bn;have cp:=dD c5;have cg:=dD bq;clear bt bn c5 bq;go_wp2
   go_roundg (P -(j+1))
   case measure=>omega
   exact⟨j+1,cr,by omega,by omega,by go_num,cn,cp,cg⟩
  have a6:=kD L
  have a4:l.take j=l:=Xu (by rw[v.out];omega)
  rw[a4]at y;clear a4;obtain⟨u,ao⟩:=kA (zF B d l);rw[ao.out]at y S a;have ak:Xo (∀W,zb wr W->Xp prog 173 #[Xi #[Q.f.x,I6 u.hand],I6 (d:Int),I6 (-1)] W fun e w'=>∃H:Sli,e= Xl (Xm #[Xi #[H.x,I6 u.hand],I6 0])/\zc Qy W.heap.size w' (H.x) (QI u.fs u.hand (d:Int) (-1))/\zb W w'):=dD<|fun W ae=>by
   obtain⟨d6,-⟩:=y.at.ns;have N:=(y.at.grew ae).fs;(try simp only[Sli.x]at N⊢);rw[d6]at N⊢;refine(zft Q.f.a Q.f.c u.fs u.hand (d:Int) (-1) W N S).mono ?_;rintro e w' ⟨H,rfl,bz,d2⟩;have bg:zc Qy W.heap.size w' H (QI u.fs u.hand (d:Int) (-1)):=bz;obtain⟨ay,cw,rfl,_⟩:=bg.at.rows;exact⟨⟨ay,_,cw⟩,rfl,bz,d2⟩
  have af:=y.box.box.c 0 rfl;have ag:=y.box.box.c 1 rfl;have a3:=ak.out wr (zb.refl _);go_wp2_with fail;refine a3.mono ?_;clear a3 af ag;rintro e db ⟨s,rfl,aa,bc⟩;have ch:=dD bc;have ax:=dD aa;have ce:=dD (y.box.grew bc);clear aa bc
  go_upto_region 10 with(refine jt rfl 32 (.tmp 46) (.tmp 42) rfl p 0 rfl (Xi #[s.x,I6 u.hand]) rfl [s.x,I6 u.hand] rfl ce (by simp[chL]) (by kernel_rfl) (by simp[Value.oneCell']) ?_)
  intro ct X Z _;have I:=y.setF ch ax Z X;have av:Xo (Chg w0 p w V ah.2.2 ct):=dD<|by rw[a.out];exact Chg.step aw bi I
  clear I X Z;go_wp2
  go_ret2
  exact⟨by rw[<-C.out,a.out];rfl,av⟩
theorem zm.row {w:Xn} {a:Option Nat} (g:w.grownBy w' a):zm (fun k=>a=Xa k) w w':=⟨g.os,g.tape,g.output,g.size,fun i a b=>g.block i a (fun e=>b e.symm)⟩
theorem ziq {base n c:Nat} {a:Option Addr} {w:Xn} (b:zc Jw base w (O a n c) []) (x d) (f:Nat) (i:zl Jw w (O d 1 f) [x]) (hb:base<=w.heap.size):
  Xp prog 192 #[O a n c,I6 0,O d 1 f] w fun e w'=>∃(d:Option Addr) (f:Nat),e= Xl (O d 1 f)/\zc Jw base w' (O d 1 f) [x]/\w.grownBy w' (O a n c).ownBlock/\∀g,(O d 1 f).ownBlock=Xa g->(O a n c).ownBlock=Xa g\/w.heap.size<=g:=by
 have h:n=0:=b.n;subst h;have j:=dD b;have k:=dD i;have h:=dD hb;clear b i hb
 go_enter func192,ntmps192
 go_wp2_with (at_builtin;refine ZX (E:=Jw) rfl (.tmp 23) (.tmp 24) rfl base _ [] rfl j _ [x] rfl k.out ?qb h.out ?_)
 case qb=>
  show(0+1)*24<=_
  omega
 intro b w' b i h;obtain⟨d,f,rfl⟩:=b.form;have l:=dD b;have k:=dD i;have j:=dD h;clear b i h;go_wp2;go_ret;exact⟨d,f,rfl,l,k,j⟩
theorem zh7 {t:Ca}:∀{ca:List Ca},zbE ca t=Xc->ze6 ca t<ca.length
 | [],h=>by cases h
 | c :: l,h=>by
  unfold ze6;rw[Xx]
  split
  ·rename_i a
   have a:=of_decide_eq_true a;have a:zbE l t=Xc:=by
    unfold zbE at h⊢;rw[List.any_cons,Bool.or_eq_true]at h
    rcases h with e|e
    ·have:=of_decide_eq_true e;omega
    exact e
   have:=zh7 a;unfold ze6 at this;simp only[List.length_cons];omega
  exact Nat.succ_pos _
theorem zgZ {w:Xn} {p:Nat} (h:ChW w0 p w V m) (g:m.ca.Pairwise fun a b=>z5 a<z5 b) (hi:∀c∈m.ca,0<=c.idx/\c.idx<100) (f:m.ca.length<=1000) (file idx:Int) (i:0<=idx/\idx<100):
  Xp prog 154 #[Xj (Xa ⟨p,0,Xb⟩),I6 file,I6 idx] w fun e w'=>((zbE m.ca ⟨file,idx,0⟩=Xd/\e= Xl (Xm #[I6 0,Xh Xd]))\/(zbE m.ca ⟨file,idx,0⟩=Xc/\∀c,m.ca[ze6 m.ca ⟨file,idx,0⟩]? =Xa c->e= Xl (Xm #[I6 c.fr,Xh Xc])))/\zb w w':=by
 have d:=zaR h g hi f file idx i;obtain⟨P,k⟩:=kA (ze6 m.ca ⟨file,idx,0⟩);rw[k.out]at d⊢;have r:=dD h;have l:=dD h.at.ca.n
 cases f:zbE m.ca ⟨file,idx,0⟩with
 | false=>
  rw[f]at d
  go_enter func154,ntmps154
  go_wp2_with fail;refine d.mono ?_;rintro e n ⟨rfl,g⟩;have j:=dD g;go_wp2
  go_ret2
  exact⟨.inl ⟨by first | rfl | trivial,rfl⟩,j⟩
 | true=>
  rw[f]at d;have i:P<m.ca.length:=by
   rw[<-k.out];exact zh7 f
  obtain⟨c,k⟩:∃c,Xo (m.ca[P]? =Xa c):=⟨_,gE i⟩;have i:(P:Int)< (V.ca.n:Int):=by rw[l.out];omega
  obtain⟨q,t,f⟩:=h.ca.formS (by omega)
  have s:Xo (zc Jw w0.heap.size w (O (Xa ⟨q,0,Xb⟩) m.ca.length t) m.ca):=dD<|by rw[<-f];exact h.ca
  have h:=dD f;obtain⟨f,f⟩:=kA m.ca.length;rw[l.out,f.out]at i
  go_enter func154,ntmps154
  go_wp2_with fail;refine d.mono ?_;rintro e n ⟨rfl,g⟩;have j:=dD g;have d:=(r.box.grew g).box.c 9 rfl;rw[h.out,f.out]at d;have d:n.cell? ⟨q,P*3+2,Xb⟩=Xa (I6 c.fr):=by
   have:=(s.grew g).one k 2 _ rfl;rw[jb,Addr.add_lit,zA]at this;exact this
  go_wp2
  go_ret2
  refine⟨.inr ⟨by first | rfl | trivial,fun d d=>?_⟩,j⟩
  rw[k.out]at d;cases d;rfl
theorem zgY {w:Xn} {p:Nat} (S:ChW w0 p w V m) (T:Rt m) (pg:Pg) (fi ix:Nat) (y:frW (frT pg (fi:Int) (ix:Int))=0) (U:ix<100) (c) (q n:Nat) (s) (B:m.sp[q]? =Xa s) (Y:n<64) (K:zjR zaw (Dw p V) w c [(q,n)]) (x:m.ca=[]) (a:qL (zh m [(q,n)]).fs≠0):
  Xp prog 156 #[Xj (Xa ⟨p,0,Xb⟩),Xi #[U8 pg.b0,U8 pg.b1,U8 pg.b2,U8 pg.b3,U8 pg.b4,U8 pg.b5,U8 pg.b6,U8 pg.b7],I6 (fi:Int),I6 (ix:Int),c] w fun e w'=>e= Xl (Xm #[I6 ((zaA m pg (fi:Int) (ix:Int) [(q,n)]).2.1:Int),I6 0])/\Chg w0 p w V (zaA m pg (fi:Int) (ix:Int) [(q,n)]).2.2 w':=by
 have W:∀c∈[(q,n)],c.2<64/\∃s,m.sp[c.1]? =Xa s:=fun c c=>by rw[Xy.1 c];exact⟨Y,s,B⟩
 obtain⟨C,_,j,_⟩:=qG [(q,n)] T W;have t:qz (zh m [(q,n)]) [(q,n)]=(Xc,zh m [(q,n)]):=by unfold qz;rw[kF a]
 obtain⟨h,i⟩:=kB (zh m [(q,n)]);rw[i]at t C j a;obtain⟨_,_,c,R,ae⟩:=zdw (Nat.pos_of_ne_zero a);obtain⟨c,r⟩:=kB (jm h.fs);rw[r]at R;obtain⟨A,d⟩:∃A:Ma,({ h with fs:=h.fs.set c (frT pg (fi:Int) (ix:Int)) }:Ma)=A:=⟨_,rfl⟩;have z:zct m (frT pg (fi:Int) (ix:Int)) [(q,n)]=(Xc,c,A):=by
  unfold zct;rw[i,t,kE rfl,r,<-d]
 have v:A.ca=[]:=by rw[<-d];exact j.trans x
 obtain⟨g,f⟩:∃g:Ma,({ A with ca:=[⟨(fi:Int),(ix:Int),(c:Int)⟩] }:Ma)=g:=⟨_,rfl⟩;have F:=(gS.1 R).1;have E:g.fs[c]? =Xa (frT pg (fi:Int) (ix:Int)):=by
  rw[<-f,<-d];exact sF F
 have a7:Zb g.fs g.hand=0:=by
  rw[<-f,<-d];exact zid C.rt.parts.1 y
 have G:g.sp.length=m.sp.length:=by
  rw[<-f,<-d];exact C.sam.spl
 have H:∀s∈g.sp,ZU s.tb:=fun s B=>by
  rw[<-f,<-d]at B;exact C.rt.tb B
 have Z:q<g.sp.length:=by rw[G];exact(gS.1 B).1
 obtain⟨a8,a9,_⟩:=zin a7 E (by show(0:Int)<1;omega) (by show(1:Int)<1000;omega) H Z Y
 have D:zaA m pg (fi:Int) (ix:Int) [(q,n)]=(Xc,c,zdl g q (n:Int) (c:Int)):=by
  unfold zaA;rw[i,t,kE rfl,r,a9,<-f,<-d];have k:qZ h c pg Xc Xd (fi:Int) (ix:Int)={ h with fs:=h.fs.set c (frT pg (fi:Int) (ix:Int)),ca:=[⟨(fi:Int),(ix:Int),(c:Int)⟩] }:=by
   unfold qZ;rw[show h.ca=[]from j.trans x]
   rfl
  rw[k];rfl
 rw[D];have N:=dD a8;have aa:=dD Z;have P:=dD f;have h:=dD v;have ab:=dD K;have k:=dD S.dlt;obtain⟨k,k,rfl,X⟩:=(K w (zm.refl _ _)).spots;obtain⟨M,Q,a0,a1,a2,a3,a5,a6⟩:=pg;simp only;try simp only at z
 obtain⟨k,I⟩:=kA w.heap.size;obtain⟨k,k⟩:=kB (w.alloc (Xk #[U8 M,U8 Q,U8 a0,U8 a1,U8 a2,U8 a3,U8 a5,U8 a6] 91));have L:=gA k
 have ac:=xPT k I
 have u:=zeH (S.grew L) T ⟨M,Q,a0,a1,a2,a3,a5,a6⟩ (fi:Int) (ix:Int) y _ [(q,n)] (K.out (zm.grew L)) W (fun M=>absurd (by rw[i]at M;exact M) a)
 rw[z]at u;simp only[if_true]at u;have Q:=dD k;have M:Xo ((0:Int)<=(ix:Int)/\(ix:Int)<100):=show _/\_ by omega
 clear k S T y U B Y K x a W C j t R ae z v f F E a7 G H Z a8 a9 D d r i X
 go_enter func156,ntmps156
 go_upto_region 1 with fail;rw[Q.out,I.out];obtain⟨a,d,f,i,j,k,r,t⟩:=ac.box.c8;go_wp2_with fail;refine u.mono ?_;clear u a d f i j k r t;rintro e a ⟨rfl,k⟩;obtain⟨a,d,r,i⟩:=Chg.of_grew L k;have t:=dD d;have C:=dD r;have B:=dD i;have a:=zaR d (by rw[h.out];exact List.Pairwise.nil) (by rw[h.out];intro f f;cases f) (by rw[h.out];exact nZ _) (fi:Int) (ix:Int) M.out
 have f:ze6 A.ca ⟨(fi:Int),(ix:Int),0⟩=0:=by rw[h.out];rfl
 have j:zbE A.ca ⟨(fi:Int),(ix:Int),0⟩=Xd:=by rw[h.out];rfl
 rw[f,j]at a;clear k d r i f j;go_wp2_with fail;refine a.mono ?_;clear a;rintro e d ⟨rfl,f⟩;have k:=dD (t.grew f);have A:=dD f;have j:=k.box.box.c 9 rfl;have a:=ziq (base:=w0.heap.size) (w:=d.alloc (Xk #[I6 (fi:Int),I6 (ix:Int),I6 (c:Int)] 105)) (by have:=k.ca.grew (za d (Xk #[I6 (fi:Int),I6 (ix:Int),I6 (c:Int)] 105));rw[h.out]at this;exact this) ⟨(fi:Int),(ix:Int),(c:Int)⟩ (Xa ⟨d.heap.size,0,Xb⟩) 1 (Zg Jw d ⟨(fi:Int),(ix:Int),(c:Int)⟩ _ _ rfl (by show 24<=_;omega)) (by have:=bS k.gr;simp;omega)
 clear f
 go_wp2_with (go_at_call 192;refine a.mono ?_)
 clear a j;rintro e a ⟨x,y,rfl,j,a,h⟩;obtain⟨f,f⟩:=kB (d.alloc (Xk #[I6 (fi:Int),I6 (ix:Int),I6 (c:Int)] 105));rw[f]at a h;have d:=gP f
 have u:=dD (k.grew d);have z:=dD<|u.box.outD (zm.row a) (fun e=>u.nc p e rfl)
 have v:=dD j;have r:=dD<|zm.row a;have t:=dD h;have k:=dD<|A.trans d
 clear f d j a h
 go_wp2_with (refine jt rfl 42 (.tmp 52) (.tmp 49) rfl p 9 rfl (O x 1 y) rfl [O x 1 y] rfl z (by simp[chL]) (by kernel_rfl) (by simp[Value.oneCell']) ?_)
 intro a f a _;have d:=u.cache (b:=⟨x,1,y⟩) (l:=[⟨(fi:Int),(ix:Int),(c:Int)⟩]) r t v a f;rw[P.out]at d;obtain⟨x,h,r,j⟩:=Chg.step C B (Chg.of_grew k d);have u:=dD h;have v:=dD r;have t:=dD j;clear f a d h r j;go_wp2
 go_loopg [55] 1 (fun d a wr=>∃(j:Nat) (r:MaV),j<=1/\1 - j<=d/\a=I6 j/\Xo (ChW w0 p wr r (if j=0 then g else zdl g q (n:Int) (c:Int)))/\Xo (zm (Dw p V) w wr)/\Xo (∀k,Dw p r k->Dw p V k\/w.heap.size<=k))
 case atStart=>exact⟨0,x,nZ _,by omega,rfl,u,v,t⟩
 obtain⟨j,r,a,a,rfl,k,t,u⟩:=hrel
 by_cases a:j<1
 ·have a:j=0:=by omega
  subst a;rw[kE rfl]at k;obtain⟨_,_,d,h⟩:=(ab wr t).spots;simp only[vJ]at d;obtain⟨v,f,a⟩:=h 0 (q,n) rfl;rw[<-d.1]at f;subst f;have f:v.add (0*2)=v:=by simp[Addr.add]
  rw[f]at a;obtain⟨v,i⟩:=a wr (zb.refl _);simp only at v i;clear f;have f:=zb0 (k.grew (za wr (Xk #[I6 (q:Int),I6 (n:Int)] 142))) q aa (n:Int) (c:Int) N.out;clear d h a;go_wp2_with fail;refine f.mono ?_;clear f v i;rintro e v ⟨⟨a,rfl⟩,h⟩;obtain⟨a,d,i,f⟩:=Chg.step t u (Chg.of_grew (za _ _) h);have x:Xo (ChW w0 p v a (if(1:Nat)=0 then g else zdl g q (n:Int) (c:Int))):=dD<|by rw[kF (by decide)];exact d
  have y:=dD i;have v:=dD f;clear h d i f;go_wp2
  go_roundg 0
  case measure=>omega
  exact⟨1,a,by omega,by omega,by go_num,x,y,v⟩
 have a:j=1:=by omega
 subst a;rw[kF (by decide)]at k
 have a:Xo (Chg w0 p w V (zdl g q (n:Int) (c:Int)) wr):=dD<|⟨r,k,t,u⟩
 go_wp2
 go_ret2
 exact⟨rfl,a⟩
def ZJ (m:Ma) (pg:Pg) (ic wr:Bool) (q n:Nat):Bool × Nat × Ma:=
 if(Zr m q (n:Int)).kind=1/\ic=Xc/\(wr=Xd\/(zQ m (Zr m q (n:Int)).n).r=1)then(Xc,(Zr m q (n:Int)).n.toNat,m)
 else if(Zr m q (n:Int)).kind=2/\wr=Xd then JY m pg (qK m 2 (Zr m q (n:Int)).n m.sp.length)
 else JY m pg [(q,n)]
theorem zjt {q n:Nat} {s:Sp} (a:m.sp[q]? =Xa s) (c:n<64) (b:(ze s n).kind=2):(q,n)∈qK m 2 (ze s n).n m.sp.length:=
 (QJ (by decide) (nR _)).2 ⟨(gS.1 a).1,c,s,a,by unfold isE;simp[b]⟩
theorem zhI {w:Xn} {p:Nat} (b9:ChW w0 p w V m) (ap:Rt m) (q n:Nat) (s) (aq:m.sp[q]? =Xa s) (be:n<64) (a:Ar) (pg:Pg) (ic wr:Bool)
  (ck:∀(l:List (Nat × Nat)) (M:Xq),(∀x∈l,x.2<64/\∃s,m.sp[x.1]? =Xa s)->qL (zh m l).fs=0->∀an c0,ChW w0 p an c0 (zh m l)->zjR zaw (Dw p c0) an M l->Xp prog 160 #[Xj (Xa ⟨p,0,Xb⟩),M] an fun e w'=>e= Xl (Xh (Qe (zh m l) l).1)/\Chg w0 p an c0 (Qe (zh m l) l).2 w'):
  Xp prog 206 #[Xi #[Xj (Xa ⟨p,0,Xb⟩),I6 (q:Int),I6 (n:Int),I6 a.fr,I6 a.tz,Xh a.rd,Xh a.wr,Xh a.sh,I6 a.file,I6 a.base,U8 pg.b0,U8 pg.b1,U8 pg.b2,U8 pg.b3,U8 pg.b4,U8 pg.b5,U8 pg.b6,U8 pg.b7,Xh ic,Xh wr]] w fun e w'=>e= Xl (Xm #[I6 ((ZJ m pg ic wr q n).2.1:Int),I6 (if(ZJ m pg ic wr q n).1=Xc then 0 else 10)])/\Chg w0 p w V (ZJ m pg ic wr q n).2.2 w':=by
 have ac:=dD b9;have cv:=dD<|(gS.1 aq).1;have cf:=dD b9.dlt;have bu:Xo (Zr m q (n:Int)=ze s n):=show _=_ by unfold Zr;rw[Sp.getD_of aq,Qd be]
 obtain⟨e,bt⟩:=kA (Zr m q (n:Int));have Q:Xo (ze s n=e):=dD<|by rw[<-bu.out,bt.out]
 have ay:Xo (e.kind=1->∃(B:Nat) (fr:Fr),e.n=(B:Int)/\m.fs[B]? =Xa fr):=dD<|fun ak=>by
  obtain⟨d8,fr,ch,d1,_⟩:=ap.present aq be (by rw[Q.out];exact ak)
  rw[Q.out]at ch;exact⟨d8,fr,ch,d1⟩
 have aa:Xo (ZJ m pg ic wr q n=if e.kind=1/\ic=Xc/\(wr=Xd\/(zQ m e.n).r=1)then(Xc,e.n.toNat,m)else if e.kind=2/\wr=Xd then JY m pg (qK m 2 e.n m.sp.length)else JY m pg [(q,n)]):=dD<|by unfold ZJ;rw[bt.out]
 have bw:Xo (∀x∈[(q,n)],x.2<64/\∃s,m.sp[x.1]? =Xa s):=dD<|fun x ar=>by rw[Xy.1 ar];exact⟨be,s,aq⟩
 have bx:Xo (e.kind=2->(∀x∈qK m 2 e.n m.sp.length,x.2<64/\∃s,m.sp[x.1]? =Xa s)/\qK m 2 e.n m.sp.length≠[]/\(qK m 2 e.n m.sp.length).length<=900):=dD<|fun ak=>by
  refine⟨fun x ar=>?_,fun cz=>?_,?_⟩
  ·obtain⟨a,s,d,_⟩:=zcd ap x ar;exact⟨a,s,d⟩
  ·have:=zjt aq be (by rw[Q.out];exact ak)
   rw[Q.out,cz]at this;cases this
  have a7:=zbn m 2 e.n m.sp.length;have af:=ap.inv.spl;omega
 have ct:=dD ap.inv.spl;have ab:Xo (∀W M l,zb w W->zjR zaw (Dw p V) W M l->(∀x∈l,x.2<64/\∃s,m.sp[x.1]? =Xa s)->l≠[]->l.length<=900->Xp prog 232 #[Xj (Xa ⟨p,0,Xb⟩),Xi #[U8 pg.b0,U8 pg.b1,U8 pg.b2,U8 pg.b3,U8 pg.b4,U8 pg.b5,U8 pg.b6,U8 pg.b7],M] W fun e w'=>e= Xl (Xm #[I6 ((JY m pg l).2.1:Int),I6 (if(JY m pg l).1=Xc then 0 else 10)])/\Chg w0 p W V (JY m pg l).2.2 w'):=show∀W,_ from fun W M l bc al cl d2 d3=>zlg (b9.grew bc) ap pg M l al cl d2 d3 (ck l M cl)
 have bv:=dD<|fun W (bc:zb w W)=>zbv (b9.grew bc) 2 e.n ct.out
 obtain⟨S,T,U,X,Y,Z,a0,a1⟩:=pg;simp only at ab⊢;obtain⟨a5,br⟩:=kA (ZJ m ⟨S,T,U,X,Y,Z,a0,a1⟩ ic wr q n);rw[br.out]at aa⊢;obtain⟨d0,P⟩:=kA (if a5.1=Xc then(0:Int)else 10);rw[P.out];clear ap aq be ck;obtain⟨d,ce⟩:=kA w.heap.size;obtain⟨an,a2⟩:=kB (w.alloc (Xk #[Xj (Xa ⟨p,0,Xb⟩),I6 (q:Int),I6 (n:Int),I6 a.fr,I6 a.tz,Xh a.rd,Xh a.wr,Xh a.sh,I6 a.file,I6 a.base,U8 S,U8 T,U8 U,U8 X,U8 Y,U8 Z,U8 a0,U8 a1,Xh ic,Xh wr] 245));have cd:=gA a2
 have cg:=xPT a2 ce
 have bz:=dD a2;clear a2;have aj:=Zm (ac.grew cd) q cv (n:Int);rw[bt.out]at aj
 go_enter func206,ntmps206
 go_upto_region 1 with fail;rw[bz.out,ce.out];obtain⟨u0,u1,u2⟩:=cg.box.c3;go_wp2_with fail;refine aj.mono ?_;clear aj u0 u1 u2 b9;rintro c8 b8 ⟨rfl,ci⟩;unfold enV;go_upto_region 2 with fail;obtain⟨ao,aw⟩:=kA b8.heap.size;obtain⟨L,a3⟩:=kB (b8.alloc (Xk #[I6 e.kind,I6 e.n,Xh e.wr] 127));have ae:zb an L:=by rw[<-a3];exact ci.trans (za _ _)
 have c2:=xPT a3 aw
 have bo:=dD (cg.grew ae);have bq:=dD (cd.trans ae);rw[a3,aw.out];clear a3 ae ci;obtain⟨am,u⟩:=kA (decide (e.kind=1/\ic=Xc/\(wr=Xd\/(zQ m e.n).r=1)))
 go_cut [36] (fun c9 cc=>c9= Xh am/\Xo (zb L cc))
 case first=>
  have z:Nonempty (zg L):=⟨⟨_,zb.refl _⟩⟩;have a4:∀y:zg L,y.world.cell? ⟨ao,0,Xb⟩=_:=fun y=>(c2.box.grew y.grew).c 0 rfl
  have i:∀y:zg L,y.world.cell? ⟨ao,1,Xb⟩=_:=fun y=>(c2.box.grew y.grew).c 1 rfl
  have A:∀y:zg L,y.world.cell? ⟨d,0,Xb⟩=_:=fun y=>(bo.box.grew y.grew).c 0 rfl
  have k:∀y:zg L,y.world.cell? ⟨d,18,Xb⟩=_:=fun y=>(bo.box.grew y.grew).c 18 rfl
  have r:∀y:zg L,y.world.cell? ⟨d,19,Xb⟩=_:=fun y=>(bo.box.grew y.grew).c 19 rfl
  by_cases b:e.kind=1
  ·have h:(e.kind == 1)=Xc:=by rw[b];rfl
   obtain⟨B,fr,a7,af⟩:=ay.out b
   cases ic with
   | false=>
    have G:am=Xd:=by rw[<-u.out];simp
    subst G;clear b;refine qu [] zZ (by kernel_rfl) (by simp) (by simp) ?_
    iterate 2 refine zf ?_
    refine zI rfl rfl rfl (fun R j=>?_);go_big_quiet_op;(try rw[h]);refine j _ ?_;clear j R
    iterate 5 refine zf ?_
    iterate 18 (refine jo rfl ?_;simp only[Xs,sB,sS,sZ])
    refine zf ?_
    refine zP fun c1 F _=>?_
    have E:=dD F
    clear F z a4 i A k r;go_wp2
    go_meet
    exact⟨rfl,E⟩
   | true=>
    cases wr with
    | false=>
     have G:am=Xc:=by rw[<-u.out];simp[b]
     subst G;clear b;refine qu [] zZ (by kernel_rfl) (by simp) (by simp) ?_
     iterate 2 refine zf ?_
     refine zI rfl rfl rfl (fun R j=>?_);go_big_quiet_op;(try rw[h]);refine j _ ?_;clear j R
     iterate 9 refine zf ?_
     iterate 13 (refine jo rfl ?_;simp only[Xs,sB,sS,sZ])
     iterate 2 refine zf ?_
     refine zP fun c1 F _=>?_
     have E:=dD F
     clear F z a4 i A k r;go_wp2
     go_meet
     exact⟨rfl,E⟩
    | true=>
     obtain⟨cs,au⟩:=kA (fr.r == 1);have G:am=cs:=by
      rw[<-u.out,<-au.out,a7,zJ af]
      simp[b]
      exact Bool.beq_eq_decide_eq .. |>.symm
     subst G;obtain⟨ad,a8,bd⟩:=ac.at.frs B fr af;obtain⟨d9,-⟩:=ac.at.ns;have d5:(B:Int)< (V.f.n:Int):=by
      have:=(gS.1 af).1;omega
     have d6:∀y:zg L,y.world.cell? ⟨p,0,Xb⟩=Xa (O (Xa ad) V.f.n V.f.c):=fun y=>by
      have:=(ac.box.box.grew (bq.trans y.grew)).c 0 rfl;(first|rw[a8]at this|(simp only[Sli.x]at this;rw[a8]at this));exact this
     have d4:∀y:zg L,y.world.cell? { block:=(ad.add (B*13)).block,off:=(ad.add (B*13)).off+8 }=Xa (I6 fr.r):=fun y=>(bd _ (bq.trans y.grew)).2.2.2.2.2.2.2.2.1
     have c4:=au.out;rw[a7]at i;clear b a7 af bd a8 d9;refine qu [] zZ (by kernel_rfl) (by simp) (by simp) ?_
     iterate 2 refine zf ?_
     refine zI rfl rfl rfl (fun R j=>?_);go_big_quiet_op;(try rw[h]);refine j _ ?_;clear j R
     iterate 11 refine zf ?_
     refine Zp (.tmp 23) ⟨p,0,Xb⟩ rfl rfl rfl rfl ?_;simp only[Xs,sB,sS,sZ];iterate 9 refine zf ?_
     refine zI rfl rfl rfl (fun R j=>?_);go_big_quiet_op;(try rw[c4]);refine j _ ?_;clear j R
     iterate 2 refine zf ?_
     refine zP fun c1 F _=>?_
     have E:=dD F
     clear F z a4 i A k r;go_wp2
     go_meet
     exact⟨rfl,E⟩
  have h:(e.kind == 1)=Xd:=by simpa using b
  have G:am=Xd:=by rw[<-u.out];simp[b]
  subst G;clear b;refine qu [] zZ (by kernel_rfl) (by simp) (by simp) ?_
  iterate 2 refine zf ?_
  refine zI rfl rfl rfl (fun R j=>?_);go_big_quiet_op;(try rw[h]);refine j _ ?_;clear j R
  refine zf ?_
  iterate 2 (refine jo rfl ?_;simp only[Xs,sB,sS,sZ])
  iterate 2 refine zf ?_
  iterate 18 (refine jo rfl ?_;simp only[Xs,sB,sS,sZ])
  refine zf ?_
  refine zP fun c1 F _=>?_
  have E:=dD F
  clear F z a4 i A k r;go_wp2
  go_meet
  exact⟨rfl,E⟩
 obtain⟨rfl,E⟩:=hcut;have D:=dD (bo.grew E);have bp:=dD (c2.grew E);have K:=dD (bq.trans E);have dd:=bp.box.c 0 rfl;have cr:=bp.box.c 1 rfl
 cases am with
 | true=>
  have ah:=of_decide_eq_true u.out;obtain⟨B,fr,a7,af⟩:=ay.out ah.1;have t:Xo (a5=(Xc,B,m)):=dD<|by rw[aa.out,kE ah,a7,tN]
  have az:Xo (Chg w0 p w V a5.2.2 wc):=dD<|by rw[t.out];exact Chg.refl ac K.out
  rw[a7]at cr;clear ah a7 af;go_wp2
  go_ret2
  exact⟨by rw[<-P.out,t.out];rfl,az⟩
 | false=>
  have a6:Xo (a5=if e.kind=2/\wr=Xd then JY m ⟨S,T,U,X,Y,Z,a0,a1⟩ (qK m 2 e.n m.sp.length)else JY m ⟨S,T,U,X,Y,Z,a0,a1⟩ [(q,n)]):=dD<|by rw[aa.out,kF (of_decide_eq_false u.out)]
  obtain⟨bn,N⟩:=kA (decide (e.kind=2/\wr=Xd));have u19:=D.box.c 19 rfl;go_upto_region 4 with fail
  go_cut [46] (fun ca cc=>ca= Xh bn/\cc=wc)
  case first=>
   by_cases v:e.kind=2
   ·have h:(e.kind == 2)=Xc:=by rw[v];rfl
    have G:bn=!wr:=by rw[<-N.out];cases wr <;> simp[v]
    subst G;clear v;cases wr
    all_goals (go_wp2;go_meet;exact⟨rfl,rfl⟩)
   have h:(e.kind == 2)=Xd:=by simpa using v
   have G:bn=Xd:=by rw[<-N.out];simp[v]
   subst G;clear v;go_wp2
   go_meet
   exact⟨rfl,rfl⟩
  obtain⟨rfl,c5⟩:=hcut;subst c5;clear u19 dd cr
  cases bn with
  | false=>
   have t:Xo (a5=JY m ⟨S,T,U,X,Y,Z,a0,a1⟩ [(q,n)]):=dD<|by rw[a6.out,kF (of_decide_eq_false N.out)]
   obtain⟨u0,u1,u2⟩:=D.box.c3;have u10:=D.box.c 10 rfl;have u11:=D.box.c 11 rfl;have u12:=D.box.c 12 rfl;have u13:=D.box.c 13 rfl;have u14:=D.box.c 14 rfl;have u15:=D.box.c 15 rfl;have u16:=D.box.c 16 rfl;have u17:=D.box.c 17 rfl;have av:=ab.out (wc.alloc (Xk #[I6 (q:Int),I6 (n:Int)] 142)) (O (Xa ⟨wc.heap.size,0,Xb⟩) 1 1) [(q,n)] (K.trans (za _ _)) (qj.staysD (base:=wc.heap.size) ⟨Zg zaw wc (q,n) _ _ rfl (by decide),fun x n dg e=>by cases e;exact nR _⟩ (fun B ak=>Xt (cf B ak) (bS K))) bw (by simp) (by simp)
   rw[<-t.out,P.out]at av;go_wp2_with fail;refine av.mono ?_;clear u0 u1 u2 u10 u11 u12 u13 u14 u15 u16 u17;rintro c8 de ⟨rfl,cj⟩;have az:=dD<|Chg.of_grew (K.trans (za _ _)) cj
   clear cj;go_wp2
   go_ret2
   exact⟨rfl,az⟩
  | true=>
   have ah:=of_decide_eq_true N.out;have t:Xo (a5=JY m ⟨S,T,U,X,Y,Z,a0,a1⟩ (qK m 2 e.n m.sp.length)):=dD<|by rw[a6.out,kE ah]
   obtain⟨cm,cn,co⟩:=bx.out ah.1;have cu:Xo (∀W a9,zb w W->zc zaw W.heap.size W a9 (qK m 2 e.n m.sp.length)->True):=dD<|fun _ _ _ _=>trivial
   have ai:=fun W M bc al=>ab.out W M (qK m 2 e.n m.sp.length) bc al cm cn co
   rw[<-t.out,P.out]at ai;have bs:=dD ai
   clear ai ah cm cn co;go_upto_region 5 with fail;obtain⟨f,c⟩:∃f:Xn->Prop,Xo (∀C,f C↔zn C d 245 [Xj (Xa ⟨p,0,Xb⟩),I6 (q:Int),I6 (n:Int),I6 a.fr,I6 a.tz,Xh a.rd,Xh a.wr,Xh a.sh,I6 a.file,I6 a.base,U8 S,U8 T,U8 U,U8 X,U8 Y,U8 Z,U8 a0,U8 a1,Xh ic,Xh wr]/\zn C ao 127 [I6 e.kind,I6 e.n,Xh e.wr]):=⟨fun C=>zn C d 245 [Xj (Xa ⟨p,0,Xb⟩),I6 (q:Int),I6 (n:Int),I6 a.fr,I6 a.tz,Xh a.rd,Xh a.wr,Xh a.sh,I6 a.file,I6 a.base,U8 S,U8 T,U8 U,U8 X,U8 Y,U8 Z,U8 a0,U8 a1,Xh ic,Xh wr]/\zn C ao 127 [I6 e.kind,I6 e.n,Xh e.wr],fun _=>Iff.rfl⟩
   have ag:f wc.drew:=(c _).2 ⟨D.grew (gW _),bp.grew (gW _)⟩
   have ba:zb wc wc.drew:=show Below _ _ _ from(bR _ _).drew
   have i:∀y:zk f,y.world.cell? ⟨ao,1,Xb⟩=_:=fun y=>((c _).1 y.holds).2.box.c 1 rfl
   have A:∀y:zk f,y.world.cell? ⟨d,0,Xb⟩=_:=fun y=>((c _).1 y.holds).1.box.c 0 rfl
   have bf:∀y:zk f,y.world.cell? ⟨d,10,Xb⟩=_:=fun y=>((c _).1 y.holds).1.box.c 10 rfl
   have bg:∀y:zk f,y.world.cell? ⟨d,11,Xb⟩=_:=fun y=>((c _).1 y.holds).1.box.c 11 rfl
   have bh:∀y:zk f,y.world.cell? ⟨d,12,Xb⟩=_:=fun y=>((c _).1 y.holds).1.box.c 12 rfl
   have bi:∀y:zk f,y.world.cell? ⟨d,13,Xb⟩=_:=fun y=>((c _).1 y.holds).1.box.c 13 rfl
   have bj:∀y:zk f,y.world.cell? ⟨d,14,Xb⟩=_:=fun y=>((c _).1 y.holds).1.box.c 14 rfl
   have bk:∀y:zk f,y.world.cell? ⟨d,15,Xb⟩=_:=fun y=>((c _).1 y.holds).1.box.c 15 rfl
   have bl:∀y:zk f,y.world.cell? ⟨d,16,Xb⟩=_:=fun y=>((c _).1 y.holds).1.box.c 16 rfl
   have bm:∀y:zk f,y.world.cell? ⟨d,17,Xb⟩=_:=fun y=>((c _).1 y.holds).1.box.c 17 rfl
   have z:Nonempty (zk f):=⟨⟨_,ag⟩⟩;have ax:Xo (¬Dw p V d/\¬Dw p V ao):=dD<|⟨(ac.grew K).offB D (by decide) (by decide) (by decide) (by decide),(ac.grew K).offB bp (by decide) (by decide) (by decide) (by decide)⟩
   refine z7 (I:=f) 14 [(8,fun a9=>∃s:Sli,a9=s.x),(9,fun a9=>a9= Xm #[I6 (a5.2.1:Int),I6 d0])] (fun C=>zb wc C) ag ba zZ (by kernel_rfl) rfl rfl (by decide) ?hS (by kernel_rfl) ?_
   case hS=>
    intro x ar;simp only[mC,nM,or_false]at ar
    rcases ar with rfl|rfl
    ·exact⟨_,je,rfl⟩
    exact⟨_,rfl⟩
   simp only[Yb,Yc];iterate 8 refine zt ?_
   refine zK rfl rfl (fun a9 C=>zb wc C/\qj zaw wc.heap.size C a9 (qK m 2 e.n m.sp.length)) (fun w' H g=>?_) (fun da al=>?_)
   ·refine zR.call [Xj (Xa ⟨p,0,Xb⟩),I6 2,I6 e.n] rfl func233 rfl rfl rfl ?_;refine(bv w' (K.trans g)).mono ?_;rintro c8 cb ⟨a9,rfl,cp,ae⟩;obtain⟨db,dc,rfl⟩:=cp.form;exact⟨_,rfl,(c _).2 ⟨((c _).1 H).1.grew ae,((c _).1 H).2.grew ae⟩,⟨⟨db,_,dc⟩,rfl⟩,g.trans ae,(cp.base (bS g)).new⟩
   obtain⟨cq,rfl⟩:=al;simp only[Xs,sB,sS,sZ];refine zK rfl rfl (fun _ C=>Chg w0 p w V a5.2.2 C) (fun w' H g=>?_) (fun da al=>?_)
   ·refine zR.call [Xj (Xa ⟨p,0,Xb⟩),Xi #[U8 S,U8 T,U8 U,U8 X,U8 Y,U8 Z,U8 a0,U8 a1],cq.x] rfl func232 rfl rfl rfl ?_;refine(bs w' (cq.x) (K.trans g.1) (g.2.staysD (fun B ak=>Xt (cf B ak) (bS K)))).mono ?_
    rintro c8 cb ⟨rfl,cw,cx,c6,cy⟩;exact⟨_,rfl,(c _).2 ⟨((c _).1 H).1.outD c6 ax.1,((c _).1 H).2.outD c6 ax.2⟩,rfl,Chg.of_grew (K.trans g.1) ⟨cw,cx,c6,cy⟩⟩
   subst al;simp only[Xs,sB,sS,sZ];iterate 4 refine zt ?_
   refine jp fun df c3 bb=>?_
   have az:=dD bb;clear c3 bb ag ba z i A bf bg bh bi bj bk bl bm;go_wp2
   go_ret2
   exact⟨rfl,az⟩
def qN (m:Ma) (BF:Bool × Nat × Ma) (pg:Pg) (a:Ar) (ic wr:Bool) (q n:Nat):Bool × Nat × Ma:=if(0<=a.file/\ic=Xd)/\(a.sh=Xc\/wr=Xd)then BF else ZJ m pg ic wr q n
theorem zf2 {w:Xn} {p:Nat} (N:ChW w0 p w V m) (Y:Rt m) (q n:Nat) (s) (I:m.sp[q]? =Xa s) (Z:n<64) (a:Ar) (pg:Pg) (ic wr:Bool)
  (X:∀(l:List (Nat × Nat)) (a0:Xq),(∀x∈l,x.2<64/\∃s,m.sp[x.1]? =Xa s)->qL (zh m l).fs=0->∀r T,ChW w0 p r T (zh m l)->zjR zaw (Dw p T) r a0 l->Xp prog 160 #[Xj (Xa ⟨p,0,Xb⟩),a0] r fun e w'=>e= Xl (Xh (Qe (zh m l) l).1)/\Chg w0 p r T (Qe (zh m l) l).2 w')
  (BF:Bool × Nat × Ma) (L:(0<=a.file/\ic=Xd)/\(a.sh=Xc\/wr=Xd)->∀W,zb w W->Xp prog 205 #[Xi #[Xj (Xa ⟨p,0,Xb⟩),I6 (q:Int),I6 (n:Int),I6 a.fr,I6 a.tz,Xh a.rd,Xh a.wr,Xh a.sh,I6 a.file,I6 a.base,U8 pg.b0,U8 pg.b1,U8 pg.b2,U8 pg.b3,U8 pg.b4,U8 pg.b5,U8 pg.b6,U8 pg.b7,Xh ic,Xh wr]] W fun e w'=>e= Xl (Xm #[I6 (BF.2.1:Int),I6 (if BF.1=Xc then 0 else 10)])/\Chg w0 p W V BF.2.2 w'):
  Xp prog 178 #[Xi #[Xj (Xa ⟨p,0,Xb⟩),I6 (q:Int),I6 (n:Int),I6 a.fr,I6 a.tz,Xh a.rd,Xh a.wr,Xh a.sh,I6 a.file,I6 a.base,U8 pg.b0,U8 pg.b1,U8 pg.b2,U8 pg.b3,U8 pg.b4,U8 pg.b5,U8 pg.b6,U8 pg.b7,Xh ic,Xh wr]] w fun e w'=>e= Xl (Xm #[I6 ((qN m BF pg a ic wr q n).2.1:Int),I6 (if(qN m BF pg a ic wr q n).1=Xc then 0 else 10)])/\Chg w0 p w V (qN m BF pg a ic wr q n).2.2 w':=by
 have H:Xo (∀W,zb w W->Xp prog 206 #[Xi #[Xj (Xa ⟨p,0,Xb⟩),I6 (q:Int),I6 (n:Int),I6 a.fr,I6 a.tz,Xh a.rd,Xh a.wr,Xh a.sh,I6 a.file,I6 a.base,U8 pg.b0,U8 pg.b1,U8 pg.b2,U8 pg.b3,U8 pg.b4,U8 pg.b5,U8 pg.b6,U8 pg.b7,Xh ic,Xh wr]] W fun e w'=>e= Xl (Xm #[I6 ((ZJ m pg ic wr q n).2.1:Int),I6 (if(ZJ m pg ic wr q n).1=Xc then 0 else 10)])/\Chg w0 p W V (ZJ m pg ic wr q n).2.2 w'):=dD<|fun W a1=>zhI (N.grew a1) Y q n s I Z a pg ic wr X
 have j:=dD L
 obtain⟨y,z,A,B,C,D,E,F⟩:=pg;simp only at H j⊢;have d:Xo (qN m BF ⟨y,z,A,B,C,D,E,F⟩ a ic wr q n=if(0<=a.file/\ic=Xd)/\(a.sh=Xc\/wr=Xd)then BF else ZJ m ⟨y,z,A,B,C,D,E,F⟩ ic wr q n):=dD<|rfl
 obtain⟨G,Q⟩:=kA (qN m BF ⟨y,z,A,B,C,D,E,F⟩ a ic wr q n);rw[Q.out]at d⊢;obtain⟨a4,h⟩:=kA (if G.1=Xc then(0:Int)else 10);rw[h.out];clear Y I Z X L N;obtain⟨K,U⟩:=kA w.heap.size;obtain⟨r,t⟩:=kB (w.alloc (Xk #[Xj (Xa ⟨p,0,Xb⟩),I6 (q:Int),I6 (n:Int),I6 a.fr,I6 a.tz,Xh a.rd,Xh a.wr,Xh a.sh,I6 a.file,I6 a.base,U8 y,U8 z,U8 A,U8 B,U8 C,U8 D,U8 E,U8 F,Xh ic,Xh wr] 245));have v:=gA t
 have i:=xPT t U
 have S:Xo (_=r):=t;clear t;have b:=H.out r v.out
 go_enter func178,ntmps178
 go_upto_region 1 with fail;rw[S.out,U.out];obtain⟨a3,R⟩:=kA a.sh;rw[R.out]at i d j b;have u7:=i.box.c 7 rfl;have u8:=i.box.c 8 rfl;have u18:=i.box.c 18 rfl;have u19:=i.box.c 19 rfl
 by_cases u:0<=a.file
 ·have a2:decide (0<=a.file)=Xc:=decide_eq_true u
  cases ic with
  | true=>
   have c:Xo (G=ZJ m ⟨y,z,A,B,C,D,E,F⟩ Xc wr q n):=dD<|by rw[d.out,kF (by simp)]
   rw[<-c.out,h.out]at b
   go_wp2_with (refine zo rfl 245 (.tmp 1) rfl K rfl i.box underlying245 rfl (by kernel_rfl) ?_)
   refine b.mono ?_;clear b u7 u8 u18 u19;rintro P M ⟨rfl,g⟩;have k:=dD<|Chg.of_grew v g
   clear g;go_wp2
   go_ret2
   exact⟨rfl,k⟩
  | false=>
   cases a3 with
   | true=>
    have c:Xo (G=BF):=dD<|by rw[d.out,kE (by exact⟨⟨u,rfl⟩,.inl rfl⟩)]
    have f:=j.out (by exact⟨⟨u,rfl⟩,.inl rfl⟩) r v.out
    rw[<-c.out,h.out]at f;clear u b
    go_wp2_with (refine zo rfl 245 (.tmp 1) rfl K rfl i.box underlying245 rfl (by kernel_rfl) ?_)
    refine f.mono ?_;clear f u7 u8 u18 u19;rintro P M ⟨rfl,g⟩;have k:=dD<|Chg.of_grew v g
    clear g;go_wp2
    go_ret2
    exact⟨rfl,k⟩
   | false=>
    cases wr with
    | false=>
     have c:Xo (G=BF):=dD<|by rw[d.out,kE (by exact⟨⟨u,rfl⟩,.inr rfl⟩)]
     have f:=j.out (by exact⟨⟨u,rfl⟩,.inr rfl⟩) r v.out
     rw[<-c.out,h.out]at f;clear u b
     go_wp2_with (refine zo rfl 245 (.tmp 1) rfl K rfl i.box underlying245 rfl (by kernel_rfl) ?_)
     refine f.mono ?_;clear f u7 u8 u18 u19;rintro P M ⟨rfl,g⟩;have k:=dD<|Chg.of_grew v g
     clear g;go_wp2
     go_ret2
     exact⟨rfl,k⟩
    | true=>
     have c:Xo (G=ZJ m ⟨y,z,A,B,C,D,E,F⟩ Xd Xc q n):=dD<|by rw[d.out,kF (by simp)]
     rw[<-c.out,h.out]at b
     go_wp2_with (refine zo rfl 245 (.tmp 1) rfl K rfl i.box underlying245 rfl (by kernel_rfl) ?_)
     refine b.mono ?_;clear b u7 u8 u18 u19;rintro P M ⟨rfl,g⟩;have k:=dD<|Chg.of_grew v g
     clear g;go_wp2
     go_ret2
     exact⟨rfl,k⟩
 have a2:decide (0<=a.file)=Xd:=decide_eq_false u;have c:Xo (G=ZJ m ⟨y,z,A,B,C,D,E,F⟩ ic wr q n):=dD<|by rw[d.out,kF (by exact fun N=>u N.1.1)]
 rw[<-c.out,h.out]at b
 go_wp2_with (refine zo rfl 245 (.tmp 1) rfl K rfl i.box underlying245 rfl (by kernel_rfl) ?_)
 refine b.mono ?_;clear b u7 u8 u18 u19;rintro P M ⟨rfl,g⟩;have k:=dD<|Chg.of_grew v g
 clear g;go_wp2
 go_ret2
 exact⟨rfl,k⟩
def zbt (m:Ma) (pg:Pg) (fi ix:Int) (q n:Nat):Bool × Nat × Ma:=
 match m.ca.find? fun c=>decide (z5 c=z5 ⟨fi,ix,0⟩)with
 | some c=>(Xc,c.fr.toNat,if(Zr m q (n:Int)).kind=0 then q5 m c.fr.toNat q n else m)
 | none=>zaA m pg fi ix [(q,n)]
theorem zjy {t:Ca}:∀{ca:List Ca},(ca.Pairwise fun a b=>z5 a<z5 b)->zbE ca t=Xc->ca.find? (fun c=>decide (z5 c=z5 t))=ca[ze6 ca t]?
 | [],_,h=>by cases h
 | c :: l,g,h=>by
  unfold ze6;rw[Xx,List.find?_cons]
  by_cases e:z5 c=z5 t
  ·rw[decide_eq_true e,decide_eq_false (by omega)]
   rfl
  rw[decide_eq_false e];have d:zbE l t=Xc:=by
   unfold zbE at h⊢;rw[List.any_cons,decide_eq_false e,Bool.false_or]at h;exact h
  have f:z5 c<z5 t:=by
   unfold zbE at d;obtain⟨h,i,j⟩:=List.any_eq_true.1 d;have k:=(Xz.1 g).1 h i;have h:=of_decide_eq_true j;omega
  rw[decide_eq_true f];have f:=zjy (Xz.1 g).2 d;unfold ze6 at f;simp only[if_true,List.length_cons,List.getElem?_cons_succ];exact f
theorem zo4 (a b:Int) (c:Bool) (w):(Instr.field 127 (Xi #[I6 a,I6 b,Xh c]) 0).run prog w= .ok (I6 a) w:=by
 simp only[Instr.field,Sem.run_bind,run_underlying underlying127,rA,asAgg];exact run_part_plain w (by simp[Program.plainKey,underlying3]) rfl
theorem zhH {w:Xn} {p:Nat} (N:ChW w0 p w V m) (P:Rt m) (q n:Nat) (s) (Q:m.sp[q]? =Xa s) (a0:n<64) (a:Ar) (fi ix:Nat) (F:a.file=(fi:Int)) (H:a.base+(n:Int) - a.fr=(ix:Int)) (D:0<=a.base/\a.base<=100) (E:0<=a.fr/\a.fr<=100) (f:ix<100) (pg:Pg) (ic wr:Bool)
  (K:zbE m.ca ⟨(fi:Int),(ix:Int),0⟩=Xd->m.ca=[]/\qL (zh m [(q,n)]).fs≠0/\frW (frT pg (fi:Int) (ix:Int))=0):
  Xp prog 205 #[Xi #[Xj (Xa ⟨p,0,Xb⟩),I6 (q:Int),I6 (n:Int),I6 a.fr,I6 a.tz,Xh a.rd,Xh a.wr,Xh a.sh,I6 a.file,I6 a.base,U8 pg.b0,U8 pg.b1,U8 pg.b2,U8 pg.b3,U8 pg.b4,U8 pg.b5,U8 pg.b6,U8 pg.b7,Xh ic,Xh wr]] w fun e w'=>e= Xl (Xm #[I6 ((zbt m pg (fi:Int) (ix:Int) q n).2.1:Int),I6 0])/\Chg w0 p w V (zbt m pg (fi:Int) (ix:Int) q n).2.2 w':=by
 obtain⟨y,_,_⟩:=zw.1 P.inv.ca;obtain⟨x,G,A⟩:=P.cache;have S:Xo (∀W,zb w W->Xp prog 154 #[Xj (Xa ⟨p,0,Xb⟩),I6 (fi:Int),I6 (ix:Int)] W fun e w'=>((zbE m.ca ⟨(fi:Int),(ix:Int),0⟩=Xd/\e= Xl (Xm #[I6 0,Xh Xd]))\/(zbE m.ca ⟨(fi:Int),(ix:Int),0⟩=Xc/\∀d,m.ca[ze6 m.ca ⟨(fi:Int),(ix:Int),0⟩]? =Xa d->e= Xl (Xm #[I6 d.fr,Xh Xc])))/\zb W w'):=dD<|fun W b=>zgZ (N.grew b) x G A (fi:Int) (ix:Int) (by omega)
 have X:Xo (∀W,Xp prog 169 #[Xi #[I6 a.fr,I6 a.tz,Xh a.rd,Xh a.wr,Xh a.sh,I6 a.file,I6 a.base],I6 (n:Int)] W fun e w'=>e= Xl (I6 (ix:Int))/\zb W w'):=dD<|fun W=>by
  rw[<-H];exact Ja a (n:Int) W D E (by omega)
 have L:=dD N;have M:=dD P;have C:=dD Q;have I:=dD a0;have a2:=dD N.dlt;have W:=show Xo _ from K
 have U:=dD x
 have T:=dD y;have z:=dD f;have B:=dD F;obtain⟨i,j,k,l,r,t,u,v⟩:=pg;simp only;obtain⟨R,h⟩:=kA (zbt m ⟨i,j,k,l,r,t,u,v⟩ (fi:Int) (ix:Int) q n);rw[h.out];obtain⟨b,Z⟩:=kA w.heap.size;obtain⟨a3,c⟩:=kB (w.alloc (Xk #[Xj (Xa ⟨p,0,Xb⟩),I6 (q:Int),I6 (n:Int),I6 a.fr,I6 a.tz,Xh a.rd,Xh a.wr,Xh a.sh,I6 a.file,I6 a.base,U8 i,U8 j,U8 k,U8 l,U8 r,U8 t,U8 u,U8 v,Xh ic,Xh wr] 245));have a1:=gA c
 have b:=xPT c Z
 have Y:=dD c;have g:=X.out a3;clear c N P Q a0 K y x G A f F H D E
 go_enter func205,ntmps205
 go_upto_region 1 with fail;rw[Y.out,Z.out];have u2:=b.box.c 2 rfl;have u3:=b.box.c 3 rfl;have u4:=b.box.c 4 rfl;have u5:=b.box.c 5 rfl;have u6:=b.box.c 6 rfl;have u7:=b.box.c 7 rfl;have u8:=b.box.c 8 rfl;have u9:=b.box.c 9 rfl;go_wp2_with fail;refine g.mono ?_;clear g u2 u3 u4 u5 u6 u7 u8 u9;rintro e g ⟨rfl,c⟩;have x:=dD (a1.trans c);have f:=dD (b.grew c);have u0:=f.box.c 0 rfl;have u8:=f.box.c 8 rfl;rw[B.out]at u8;have b:=S.out g x.out;clear c;go_wp2_with fail;refine b.mono ?_;clear b u0 u8;rintro e D ⟨b,g⟩;have A:=dD (x.trans g);have c:=dD (f.grew g);clear g
 rcases b with⟨y,rfl⟩|⟨y,K⟩
 ·obtain⟨E,F,G⟩:=W.out y;have b:Xo (zbt m ⟨i,j,k,l,r,t,u,v⟩ (fi:Int) (ix:Int) q n=zaA m ⟨i,j,k,l,r,t,u,v⟩ (fi:Int) (ix:Int) [(q,n)]):=dD<|by
   unfold zbt;rw[E];rfl
  have g:=zgY (L.grew (A.trans (za D (Xk #[I6 (q:Int),I6 (n:Int)] 142)))) M ⟨i,j,k,l,r,t,u,v⟩ fi ix G z (O (Xa ⟨D.heap.size,0,Xb⟩) 1 1) q n s C I (qj.staysD (base:=D.heap.size) ⟨Zg zaw D (q,n) _ _ rfl (by decide),fun x n d e=>by cases e;exact nR _⟩ (fun x f=>Xt (a2 x f) (bS A))) E F
  obtain⟨x,x⟩:=kA (zaA m ⟨i,j,k,l,r,t,u,v⟩ (fi:Int) (ix:Int) [(q,n)]);rw[x.out]at g;rw[x.out,h.out]at b;have x:Xo (zb w (D.alloc (Xk #[I6 (q:Int),I6 (n:Int)] 142))):=dD<|A.trans (za _ _)
  obtain⟨u0,u1,u2⟩:=c.box.c3;have u8:=c.box.c 8 rfl;rw[B.out]at u8;have u10:=c.box.c 10 rfl;have u11:=c.box.c 11 rfl;have u12:=c.box.c 12 rfl;have u13:=c.box.c 13 rfl;have u14:=c.box.c 14 rfl;have u15:=c.box.c 15 rfl;have u16:=c.box.c 16 rfl;have u17:=c.box.c 17 rfl;clear y E F G;go_wp2_with fail;refine g.mono ?_;clear g u0 u1 u2 u8 u10 u11 u12 u13 u14 u15 u16 u17;rintro e H ⟨rfl,F⟩;have D:Xo (Chg w0 p w V R.2.2 H):=dD<|by rw[b.out];exact Chg.of_grew x F
  clear F;go_wp2
  go_ret2
  exact⟨by rw[b.out];rfl,D⟩
 have G:=zh7 y;obtain⟨d,g⟩:∃d,Xo (m.ca[ze6 m.ca ⟨(fi:Int),(ix:Int),0⟩]? =Xa d):=⟨_,gE G⟩;have x:=K d g.out;subst x;obtain⟨E,x,_⟩:=jr (T d (mG g));obtain⟨z,B⟩:∃z:Nat,Xo (d.fr=(z:Int)):=⟨d.fr.toNat,show _=_ by omega⟩
 have b:Xo (zbt m ⟨i,j,k,l,r,t,u,v⟩ (fi:Int) (ix:Int) q n=(Xc,z,if(Zr m q (n:Int)).kind=0 then q5 m z q n else m)):=dD<|by
  unfold zbt;rw[zjy U.out y,g.out];simp only;rw[B.out,tN]
 rw[h.out]at b;have g:=dD<|(gS.1 C).1;rw[B.out]at E x⊢;have h:z<m.fs.length:=by omega
 have d:=gE h;rw[zJ d]at x;obtain⟨r,t⟩:=M.refs d;obtain⟨k,l,-⟩:=zin M.parts.1 d (by omega) (by omega) (fun s Q=>M.tb Q) g I.out
 have i:=dD k;have j:=dD l;clear G K E x h d r t k l y;have d:=Zm (L.grew A) q g (n:Int);obtain⟨h,k⟩:=kA (Zr m q (n:Int));rw[k.out]at d b;obtain⟨u0,u1,u2⟩:=c.box.c3;go_wp2_with fail;refine d.mono ?_;clear d u0 u1 u2;rintro r l ⟨rfl,k⟩;have d:=dD (A.trans k);have r:=dD (c.grew k);unfold enV;clear k;have c:=zo4 h.kind h.n h.wr
 by_cases f:h.kind=0
 ·have k:(h.kind == 0)=Xc:=by rw[f];rfl
  have c:=zb0 (L.grew d) q g (n:Int) (z:Int) i.out;obtain⟨u0,u1,u2⟩:=r.box.c3;rw[kE f]at b;clear f;go_wp2_with fail;refine c.mono ?_;clear c u0 u1 u2;rintro e H ⟨⟨c,rfl⟩,F⟩;have D:Xo (Chg w0 p w V R.2.2 H):=dD<|by rw[b.out,<-j.out];exact Chg.of_grew d F
  clear F;go_wp2
  go_ret2
  exact⟨by rw[b.out];rfl,D⟩
 have k:(h.kind == 0)=Xd:=by simpa using f
 rw[kF f]at b;clear f;have D:Xo (Chg w0 p w V R.2.2 l):=dD<|by rw[b.out];exact Chg.refl L d.out
 go_wp2
 go_ret2
 exact⟨by rw[b.out];rfl,D⟩
theorem zoE {q n k:Nat} {fr:Fr} {s:Sp} {w:Bool} (g:∀s∈m.sp,ZU s.tb) (f:m.fs[k]? =Xa fr) (e:m.fs.length<=40) (c:m.sp[q]? =Xa s) (b:n<64) (a:ze s n=⟨1,(k:Int),w⟩) (h:Bool):
  Zc m q n k fr Xd h={ m with fs:=m.fs.set k { fr with u:=true } }/\
  Zc m q n k fr Xc Xd=qV { m with fs:=m.fs.set k { fr with u:=true } } q (n:Int) { Zr { m with fs:=m.fs.set k { fr with u:=true } } q (n:Int)with wr:=true }/\
  Zc m q n k fr Xc Xc={ qV { m with fs:=m.fs.set k { fr with u:=true } } q (n:Int) { Zr { m with fs:=m.fs.set k { fr with u:=true } } q (n:Int)with wr:=true }with fs:=(qV { m with fs:=m.fs.set k { fr with u:=true } } q (n:Int) { Zr { m with fs:=m.fs.set k { fr with u:=true } } q (n:Int)with wr:=true }).fs.set k { fr with u:=true,d:=true } }:=by
 have e:=(gS.1 f).1;have e:Zr { m with fs:=m.fs.set k { fr with u:=true } } q (n:Int)=⟨1,(k:Int),w⟩:=by
  unfold Zr
  show zd8 (m.sp.getD q ⟨Xd,[],[]⟩).tb _=_
  rw[Sp.getD_of c,Qd b,a]
 have f:enW ⟨1,(k:Int),Xc⟩=0:=JV ⟨by simp only;omega,by simp only;omega⟩ ⟨by simp only;omega,by simp only;omega,fun _=>by simp only;omega⟩ (by simp)
 have a:=QN (m:={ m with fs:=m.fs.set k { fr with u:=true } }) g (p:=q) (n:=n) (gS.1 c).1 b f;rw[e];simp only;rw[a];refine⟨rfl,?_,?_⟩
 ·unfold Zc;rw[kE rfl,Bool.or_false]
 unfold Zc Ji;rw[kE rfl,Bool.or_true];simp only[List.set_set]
theorem zhG {w:Xn} {p:Nat} (X:ChW w0 p w V m) (q n k:Nat) (fr) (s:Sp) (br:Bool) (Y:m.fs[k]? =Xa fr) (G:m.fs.length<=40) (bb:∀s∈m.sp,ZU s.tb) (ai:m.sp[q]? =Xa s) (ba:n<64) (K:ze s n=⟨1,(k:Int),br⟩) (a:Ar) (pg:Pg) (ic wr:Bool):
  Xp prog 179 #[Xi #[Xj (Xa ⟨p,0,Xb⟩),Xe Xf (q:Int),Xe Xf (n:Int),Xe Xf a.fr,Xe Xf a.tz,Xh a.rd,Xh a.wr,Xh a.sh,Xe Xf a.file,Xe Xf a.base,Xe Xg pg.b0,Xe Xg pg.b1,Xe Xg pg.b2,Xe Xg pg.b3,Xe Xg pg.b4,Xe Xg pg.b5,Xe Xg pg.b6,Xe Xg pg.b7,Xh ic,Xh wr],Xe Xf (k:Int)] w fun e w'=>(∃v,e= Xl v)/\Chg w0 p w V (Zc m q n k fr wr a.sh) w':=by
 have bs:=dD X;obtain⟨az,b8,b9⟩:=zoE bb Y G ai ba K a.sh;have al:=dD az;have bj:=dD<|(gS.1 ai).1;have ag:=(gS.1 Y).1;have ao:=dD Y;have bi:=dD X.dlt;obtain⟨Q,a4⟩:=kA a.sh;rw[a4.out]at al⊢;have bh:Xo (Zc m q n k fr Xc Xd=qV { m with fs:=m.fs.set k { fr with u:=true } } q (n:Int) { Zr { m with fs:=m.fs.set k { fr with u:=true } } q (n:Int)with wr:=true }):=b8;have am:Xo (Zc m q n k fr Xc Xc={ qV { m with fs:=m.fs.set k { fr with u:=true } } q (n:Int) { Zr { m with fs:=m.fs.set k { fr with u:=true } } q (n:Int)with wr:=true }with fs:=(qV { m with fs:=m.fs.set k { fr with u:=true } } q (n:Int) { Zr { m with fs:=m.fs.set k { fr with u:=true } } q (n:Int)with wr:=true }).fs.set k { fr with u:=true,d:=true } }):=b9;clear az b8 b9 bb Y G ai ba K;obtain⟨a7,a8,a9,aa,ab,ac,ad,ae⟩:=pg;simp only;obtain⟨W,I⟩:=kA w.heap.size;obtain⟨ap,g⟩:=kB (w.alloc (Xk #[Xj (Xa ⟨p,0,Xb⟩),Xe Xf (q:Int),Xe Xf (n:Int),Xe Xf a.fr,Xe Xf a.tz,Xh a.rd,Xh a.wr,Xh Q,Xe Xf a.file,Xe Xf a.base,Xe Xg a7,Xe Xg a8,Xe Xg a9,Xe Xg aa,Xe Xg ab,Xe Xg ac,Xe Xg ad,Xe Xg ae,Xh ic,Xh wr] 245));have ak:=gA g
 have aq:=xPT g I
 have a3:Xo (¬Dw p V W):=dD<|fun e=>by have:=bi.out _ e;have:=I.out;omega
 have a5:Xo (_=ap):=g;clear g;have R:=dD<|X.grew ak.out;obtain⟨t,av,b⟩:=R.fs.formS (by omega)
 have r:=R.box.box.c 0 rfl;(first|rw[b]at r|(simp only[Sli.x]at r;rw[b]at r));have f:Xo (zc Qy w0.heap.size ap (O (Xa ⟨t,0,Xb⟩) m.fs.length av) m.fs):=dD<|by rw[<-b];exact R.fs
 have an:Xo (oB V.f t):=dD<|by unfold oB;rw[b];rfl
 have y:Xo (O V.f.a V.f.n V.f.c= O (Xa ⟨t,0,Xb⟩) m.fs.length av):=b;have ah:(k:Int)< (m.fs.length:Int):=by omega
 obtain⟨af,B⟩:=kA m.fs.length;rw[B.out]at f y r ah;have u0:=aq.box.c 0 rfl;clear X b ag
 go_enter func179,ntmps179
 go_upto_region 1 with fail;rw[a5.out,I.out]
 go_upto_region 2 with(refine z3 (E:=Qy) rfl (.tmp 13) (.const (Xh Xc)) 4 rfl w0.heap.size _ m.fs f t k 9 rfl fr { fr with u:=true } ao.out [Xh Xc] (by kernel_rfl) rfl (Xv rfl) (by intro u L;simp at L;subst L;rfl) ⟨t,k*13+9,Xb⟩ rfl rfl _ rfl rfl ?_)
 intro a6 N j _;have x:Xo (Chg w0 p w V { m with fs:=m.fs.set k { fr with u:=true } } a6):=dD<|by
  refine Chg.of_grew ak (R.frame an j ?_);(first|rw[y.out]|(simp only[Sli.x];rw[y.out]));exact N
 have U:Xo (zn a6 W 245 [Xj (Xa ⟨p,0,Xb⟩),Xe Xf (q:Int),Xe Xf (n:Int),Xe Xf a.fr,Xe Xf a.tz,Xh a.rd,Xh a.wr,Xh Q,Xe Xf a.file,Xe Xf a.base,Xe Xg a7,Xe Xg a8,Xe Xg a9,Xe Xg aa,Xe Xg ab,Xe Xg ac,Xe Xg ad,Xe Xg ae,Xh ic,Xh wr]):=aq.outD (zm.grown j (show Dw p V t from .inr (.inl an))) a3.out
 clear N j r u0;try simp only[Xs]
 have u19:=U.box.c 19 rfl
 cases wr with
 | false=>
  have h:Xo (Chg w0 p w V (Zc m q n k fr Xd Q) a6):=dD<|by rw[al.out];exact x.out
  go_wp2
  (first | go_end0 | ((try simp only[Exit.inBlock,Exit.then]);refine bodyPost_ret (results_none rfl _ _ _) rfl ?_))
  first | exact h.out | exact⟨⟨_,rfl⟩,h⟩
 | true=>
  obtain⟨bn,Z,bd,aw⟩:=x.out;have bt:=dD Z;have bl:=dD bd;have bf:=dD aw;have a2:Xo (¬Dw p bn W):=show¬_ from Z.offB U (by decide) (by decide) (by decide) (by decide)
  have H:=ziH Z q bj (n:Int);clear Z bd aw;obtain⟨u0,u1,u2⟩:=U.box.c3;go_wp2_with fail;refine H.mono ?_;clear H u0 u1 u2 u19;rintro e T ⟨⟨bu,rfl⟩,bq⟩;obtain⟨bo,bc,aj,ax⟩:=bq;have ar:Xo (zn T W 245 [Xj (Xa ⟨p,0,Xb⟩),Xe Xf (q:Int),Xe Xf (n:Int),Xe Xf a.fr,Xe Xf a.tz,Xh a.rd,Xh a.wr,Xh Q,Xe Xf a.file,Xe Xf a.base,Xe Xg a7,Xe Xg a8,Xe Xg a9,Xe Xg aa,Xe Xg ab,Xe Xg ac,Xe Xg ad,Xe Xg ae,Xh ic,Xh Xc]):=U.outD aj a2.out;have i:Xo (Chg w0 p w V (qV { m with fs:=m.fs.set k { fr with u:=true } } q (n:Int) { Zr { m with fs:=m.fs.set k { fr with u:=true } } q (n:Int)with wr:=true }) T):=show Chg _ _ _ _ _ _ from Chg.step bl bf ⟨bo,bc,aj,ax⟩
  clear bc aj ax;have u7:=ar.box.c 7 rfl
  cases Q with
  | false=>
   have h:Xo (Chg w0 p w V (Zc m q n k fr Xc Xd) T):=dD<|by rw[bh.out];exact i.out
   go_wp2
   (first | go_end0 | ((try simp only[Exit.inBlock,Exit.then]);refine bodyPost_ret (results_none rfl _ _ _) rfl ?_))
   first | exact h.out | exact⟨⟨_,rfl⟩,h⟩
  | true=>
   obtain⟨l,C⟩:∃l,Xo (qV { m with fs:=m.fs.set k { fr with u:=true } } q (n:Int) { Zr { m with fs:=m.fs.set k { fr with u:=true } } q (n:Int)with wr:=true }=l):=⟨_,rfl⟩;have A:Xo (l.fs=m.fs.set k { fr with u:=true }):=dD<|by rw[<-C.out];rfl
   rw[C.out]at i am;obtain⟨S,M,be,ay⟩:=i.out;have bk:=dD M;have bm:=dD be;have bg:=dD ay;have c:l.fs.length=af:=by rw[A.out,List.length_set,B.out]
   obtain⟨D,au,b⟩:=M.fs.formS (by rw[c];omega)
   have r:=M.box.box.c 0 rfl;(first|rw[b,c]at r|(simp only[Sli.x]at r;rw[b,c]at r));have a1:Xo (l.fs[k]? =Xa { fr with u:=true }):=dD<|by rw[A.out,sF (gS.1 ao.out).1]
   have f:Xo (zc Qy w0.heap.size T (O (Xa ⟨D,0,Xb⟩) af au) l.fs):=dD<|by rw[<-c,<-b];exact M.fs
   have a0:Xo (oB S.f D):=dD<|by unfold oB;rw[b];rfl
   have z:Xo (O S.f.a S.f.n S.f.c= O (Xa ⟨D,0,Xb⟩) af au):=show S.f.x=_ by rw[b,c]
   have u0:=ar.box.c 0 rfl;clear M be ay b c
   go_wp2_with (refine z3 (E:=Qy) rfl (.tmp 34) (.const (Xh Xc)) 4 rfl w0.heap.size _ l.fs f D k 10 rfl { fr with u:=true } { fr with u:=true,d:=true } a1.out [Xh Xc] (by kernel_rfl) rfl (Xv rfl) (by intro u L;simp at L;subst L;rfl) ⟨D,k*13+10,Xb⟩ rfl rfl _ rfl rfl ?_)
   intro bp P F _;have h:Xo (Chg w0 p w V (Zc m q n k fr Xc Xc) bp):=dD<|by
    rw[am.out];refine Chg.step bm bg (bk.frame a0 F ?_);(first|rw[z.out]|(simp only[Sli.x];rw[z.out]));exact P
   clear P F r u0 u7;go_wp2
   (first | go_end0 | ((try simp only[Exit.inBlock,Exit.then]);refine bodyPost_ret (results_none rfl _ _ _) rfl ?_))
   first | exact h.out | exact⟨⟨_,rfl⟩,h⟩
theorem zpg (h:zb4 m Xb m.ca=0) (file idx:Int):zT m file idx=match ZH m.ca (file,idx)with | some z=>pgL (zQ m z).p | none=>Qk m file idx:=by
 cases e:ZH m.ca (file,idx)with
 | some z=>
  obtain⟨d,b,c,f⟩:=zbk e;have a:=Je h b;simp only[pJ]at c;rw[<-c.1,<-c.2]at a;unfold zT;rw[a];simp only;rw[f]
 | none=>
  have f:=zbj.1 e;have a:m.ca.find? (Jr file idx)=Xb:=by
   rw[List.find?_eq_none];intro d b c;simp only[Jr,Bool.and_eq_true,decide_eq_true_eq]at c;exact f d b (by rw[c.1,c.2])
  unfold zT;rw[a];rfl
theorem zrQ (h:zb4 m Xb m.ca=0) {file idx:Int} (e:ZH m.ca (file,idx)=Xa z):0<=z/\z< (m.fs.length:Int):=by
 obtain⟨c,a,b,b⟩:=zbk e;have:=(jr ((zw.1 h).1 c a)).1;omega
theorem zcf (V:MaV) (m:Ma) (B fi ix:Nat) (f:Fl) (a1:Int) (w) (y:zE w V m) (j:zb4 m Xb m.ca=0) (a2:m.fl[fi]? =Xa f) (t:f.bl[ix]? =Xa a1) (u:ix<=1000) (v:0<=f.size/\f.size<=1000) (d:Zw plK w B (ZH m.ca)):
  Xp prog 150 #[Xi #[V.f.x,I6 m.hand,V.s.x,V.sb.x,V.sq.x,V.db.x,V.dq.x,V.fl.x,I6 m.cnt,V.ca.x,V.sp.x,.map (Xa B)],I6 (fi:Int),I6 (ix:Int)] w fun e w'=>e= Xl (Xi (pgc (zT m fi ix)).toArray)/\(zT m fi ix).length=8/\zb w w':=by
 have s:Xo (∀W,zb w W->Xp prog 155 #[Xi (mL V m).toArray,I6 (fi:Int),I6 (ix:Int)] W fun e w'=>e= Xl (Xi (pgc (Qk m fi ix)).toArray)/\(Qk m fi ix).length=8/\zb W w'):=dD<|fun W ad=>zc0 V m fi ix f a1 W (y.grew ad) a2 t u v
 have p:=dD y.frs;obtain⟨M,-⟩:=y.ns;have b:Xo (zT m fi ix=match ZH m.ca ((fi:Int),(ix:Int))with|some z=>pgL (zQ m z).p|none=>Qk m fi ix):=zpg j _ _
 have q:=dD<|fun z (ae:ZH m.ca ((fi:Int),(ix:Int))=Xa z)=>zrQ j ae
 obtain⟨⟨a9,ab,aa⟩,af,S,U,P,Q,R,N,T⟩:=V;dsimp only[mL]at M s p⊢;have r:=dD M.symm;obtain⟨h,c⟩:=kB ((w.alloc (Xk #[O a9 ab aa,I6 m.hand,af.x,S.x,U.x,P.x,Q.x,R.x,I6 m.cnt,N.x,T.x,.map (Xa B)] 131)).alloc (Xk #[U8 0,U8 0,U8 0,U8 0,U8 0,U8 0,U8 0,U8 0] 91));have n:=gD2 c
 have G:=x2a c
 have a0:Xo (Box h (w.heap.size+1) (pgc z4)):=dD<|by rw[<-c];exact Box.top _ (pgc z4) _ (by simp)
 have a:(Instr.lookup 129 (.map (Xa B)) (Xi #[I6 (fi:Int),I6 (ix:Int)]) Xc).run prog h= .ok (Xm #[I6 ((ZH m.ca ((fi:Int),(ix:Int))).getD 0),Xh (ZH m.ca ((fi:Int),(ix:Int))).isSome]) h:=(d.grew n).look (K:=plK) underlying129 (zsn h) ((fi:Int),(ix:Int)) Xc;have E:Xo (_=h):=c;obtain⟨ac,D⟩:=kA (ZH m.ca ((fi:Int),(ix:Int)));rw[D.out]at a b q;obtain⟨a4,a6⟩:=kA (zT m fi ix);rw[a6.out]at b⊢;clear c y j a2 t u v d M
 go_enter func150,ntmps150
 go_upto_region 1 with fail;rw[E.out];have Z:=G.c 11 rfl
 cases ac with
 | none=>
  simp only[Option.getD_none,Option.isSome_none]at a b;have L:=s.out h n.out;rw[<-b.out]at L;obtain⟨X,ag,ah,ai,aj,ak,al,am,an,ao,Y⟩:=G.c11;go_wp2_with fail;refine L.mono ?_;clear L a X ag ah ai aj ak al am an ao Y Z;rintro b2 ar ⟨rfl,l,H⟩;have a5:=dD (n.trans H);have a7:=dD (a0.grew H);clear H
  go_wp2_with (refine zz rfl 91 (.tmp 6) (.tmp 31) rfl (w.heap.size+1) rfl (pgc a4) rfl a7 (by rw[ZB,l];rfl) zsm (ju _) ?_)
  intro F i k _;have g:Xo (zb w F):=dD<|zd a5 k (by omega)
  go_wp2;refine bodyPost_ret (zG rfl _ rfl i underlying91 rfl (by rw[ZB,l];exact zsm)) rfl ⟨rfl,l,g⟩
 | some z=>
  simp only[Option.getD_some,Option.isSome_some]at a b;obtain⟨ap,aq⟩:=q.out z rfl;obtain⟨A,rfl⟩:∃A:Nat,z=(A:Int):=⟨z.toNat,by omega⟩
  rw[r.out]at aq;obtain⟨C,I⟩:∃C,Xo (m.fs[A]? =Xa C):=⟨_,gE (by rw[r.out];omega)⟩
  rw[zJ I.out]at b;obtain⟨a8,x,a3⟩:=p.out A C I.out;obtain⟨au,av,aw,ax,ay,az,b0,b1,-⟩:=a3 h n.out;have X:=G.c 0 rfl;rw[x]at X;clear a3 x ap
  go_wp2_with (refine zz rfl 91 (.tmp 6) (.tmp 26) rfl (w.heap.size+1) rfl (pgc (pgL C.p)) rfl a0 rfl zsm (ju _) ?_)
  intro F i k _;have g:Xo (zb w F):=dD<|zd n k (by omega)
  go_wp2;refine bodyPost_ret (zG rfl _ rfl i underlying91 rfl zsm) rfl ⟨by rw[b.out],by rw[b.out];rfl,g⟩
theorem zpQ (h:maW m=0):zS m.sb.length m.sq=0:=by
 have a:=JO h;unfold zam at a;rw[zp]at a;exact a _ (by simp)
theorem zjY {n:Nat} {a:List (Int × List Int)} {k:Int} (h:zS n a=0) (b:0<=k) (c:k< (n:Int)):zr n a k=0:=by
 unfold zr;rw[kE h];have:j7 k n=Xc:=by
  unfold j7;simp;omega
 rw[this];rfl
theorem ziB (h:maW m=0) {f:Fl} (c:m.fl[fi]? =Xa f):(0<=f.size/\f.size<=1000)/\f.bl.length<=12:=by
 have a:=JO h;unfold zam at a;rw[zp]at a;have b:=((qC _ _).1 (a (stW m.fl m.cnt) (by simp))).2.1 f (mG c)
 have a:=b.2.1;have c:=b.1;unfold zcl at a
 split at a <;> omega
theorem znB (h:maW m=0):zb4 m Xb m.ca=0:=by
 unfold maW at h;rw[zp]at h;exact h _ (by simp)
theorem zqq {file idx:Int} (a:0<=file) (b:0<=idx):zoQ m.fl file idx=decide (idx<bkN m file):=by
 unfold zoQ bkN;rw[Bool.eq_iff_iff,Bool.and_eq_true,j9,j9,decide_eq_true_eq];constructor
 ·rintro⟨_,h⟩;exact h.2
 intro h;refine⟨⟨a,?_⟩,b,h⟩
 rcases Int.lt_or_le file m.fl.length with a|a
 ·exact a
 rw[gD,gN (by omega)]at h
 simp at h
 omega
theorem zfm (V:MaV) (m:Ma) (B:Nat) (a:Ar) (n:Nat) (e:En) (w) (h:zE w V m) (y:maW m=0) (r:jN a) (E:a.fr<=(n:Int)/\(n:Int)<a.tz) (Y:e.kind=1->0<=e.n/\e.n< (m.fs.length:Int)) (P:e.kind=2->0<=e.n/\e.n< (m.sb.length:Int)) (c:Zw plK w B (ZH m.ca)):
  Xp prog 204 #[Xi #[V.f.x,I6 m.hand,V.s.x,V.sb.x,V.sq.x,V.db.x,V.dq.x,V.fl.x,I6 m.cnt,V.ca.x,V.sp.x,.map (Xa B)],Xi #[I6 a.fr,I6 a.tz,Xh a.rd,Xh a.wr,Xh a.sh,I6 a.file,I6 a.base],I6 (n:Int),Xi #[I6 e.kind,I6 e.n,Xh e.wr]] w fun H w'=>H= Xl (zhA (ZM m (qg a n) e))/\(ZM m (qg a n) e).1.length=8/\zb w w':=by
 have g:=dD h;have i:=dD c;have K:=dD<|fun W (d:Nat) (k:Nat) f F (b:zb w W) (z:m.fl[d]? =Xa f) (j:f.bl[k]? =Xa F) (l:k<=1000)=>zcf V m B d k f F W (g.grew b) (znB y) z j l (ziB y z).1 (i.grew b)
 have M:=dD<|fun W i (b:zb w W)=>zja _ m.sb m.sq i W ⟨_,_,rfl,(g.grew b).sb,(g.grew b).sq⟩
 have L:=dD<|fun W file j (b:zb w W)=>zaN _ m.fl m.cnt file j W (g.grew b).fl
 have Z:Xo (∀i,(qY m.sb m.sq i).length=8):=dD<|fun i=>zjb h.sb.2.1 h.sq.2.1
 have a7:=dD<|zpQ y;have u:=dD h.frs;have b:=dD<|fun (d:Nat) f (z:m.fl[d]? =Xa f)=>(ziB y z).2
 have af:Xo (∀W,Xp prog 169 #[Xi #[I6 a.fr,I6 a.tz,Xh a.rd,Xh a.wr,Xh a.sh,I6 a.file,I6 a.base],I6 (n:Int)] W fun e w'=>e= Xl (I6 (a.base+(n:Int) - a.fr))/\zb W w'):=dD<|fun W=>Ja a n W (by unfold jN at r;omega) (by unfold jN at r;omega) (by unfold jN at r;omega)
 obtain⟨W,-,-,-,-,-,aa,-,-⟩:=h.ns;have b:Xo (ZM m (qg a n) e=if e.kind=1 then(pgL (zQ m e.n).p,decide ((zQ m e.n).f<0),0)else if e.kind=2 then(qY m.sb m.sq e.n,Xc,0)else if a.file<0 then(z4,Xd,0)else if bkN m a.file<=a.base+(n:Int) - a.fr then(z4,Xd,9)else(zT m a.file (a.base+(n:Int) - a.fr),Xd,0)):=dD<|by
  unfold ZM qg;rw[kF (by simp)]
  by_cases l:e.kind=1
  ·rw[kE l,kE l]
  rw[kF l,kF l]
  by_cases p:e.kind=2
  ·rw[kE p,kE p]
  rw[kF p,kF p]
  by_cases t:a.file<0
  ·rw[kE t,kE t]
  rw[kF t,kF t];have g:(if 0<=a.file then a.base+((n:Int) - a.fr)else 0)=a.base+(n:Int) - a.fr:=by rw[kE (by omega)];omega
  simp only[g]
 obtain⟨ac,g⟩:=kA (ZM m (qg a n) e);rw[g.out]at b⊢;obtain⟨⟨X,a9,a8⟩,ab,⟨A,D,C⟩,⟨G,Q,N⟩,S,T,⟨j,v,q⟩,R,U⟩:=V;dsimp only[mL]at W aa K M L u⊢;have g:=dD W.symm;have ag:Xo (0<=a.file->0<=a.base+(n:Int) - a.fr/\a.base+(n:Int) - a.fr<=100):=show _->_ from fun _=>by unfold jN at r;omega
 clear h y r E c W aa;obtain⟨r,c⟩:=kB ((((w.alloc (Xk #[O X a9 a8,I6 m.hand,ab.x,O A D C,O G Q N,S.x,T.x,O j v q,I6 m.cnt,R.x,U.x,.map (Xa B)] 131)).alloc (Xk #[I6 a.fr,I6 a.tz,Xh a.rd,Xh a.wr,Xh a.sh,I6 a.file,I6 a.base] 125)).alloc (Xk #[I6 e.kind,I6 e.n,Xh e.wr] 127)).alloc (Xk #[U8 0,U8 0,U8 0,U8 0,U8 0,U8 0,U8 0,U8 0] 91));have E:Xo (zb w r):=dD<|by rw[<-c];exact(((za _ _).trans (za _ _)).trans (za _ _)).trans (za _ _)
 have W:Xo (Box r w.heap.size [O X a9 a8,I6 m.hand,ab.x,O A D C,O G Q N,S.x,T.x,O j v q,I6 m.cnt,R.x,U.x,.map (Xa B)]):=dD<|by rw[<-c];exact(((Box.top _ _ _ rfl).alloc _).alloc _).alloc _
 have A0:Xo (Box r (w.heap.size+1) [I6 a.fr,I6 a.tz,Xh a.rd,Xh a.wr,Xh a.sh,I6 a.file,I6 a.base]):=dD<|by rw[<-c];exact((Box.top _ _ _ (by simp)).alloc _).alloc _
 have j:Xo (Box r (w.heap.size+1+1) [I6 e.kind,I6 e.n,Xh e.wr]):=dD<|by rw[<-c];exact(Box.top _ _ _ (by simp)).alloc _
 have N:Xo (Box r (w.heap.size+1+1+1) (pgc z4)):=dD<|by rw[<-c];exact Box.top _ (pgc z4) _ (by simp)
 have h:=dD c;clear c
 go_enter func204,ntmps204
 go_upto_region 1 with fail;rw[h.out];have ai:=j.c 0 rfl;have X:=j.c 1 rfl
 by_cases l:e.kind=1
 ·have T:(e.kind == 1)=Xc:=by simp[l]
  obtain⟨C,D⟩:=Y l;obtain⟨i,v⟩:∃i:Nat,e.n=(i:Int):=⟨e.n.toNat,by omega⟩
  rw[v]at D C;rw[g.out]at D;obtain⟨q,h⟩:∃q,Xo (m.fs[i]? =Xa q):=⟨_,gE (by have:=g.out;omega)⟩
  have j:Xo (ac=(pgL q.p,decide (q.f<0),0)):=dD<|by rw[b.out,kE l,v,zJ h.out]
  obtain⟨c,g,c⟩:=u.out i q h.out;obtain⟨aa,ab,ac,ad,ah,aj,ak,al,am,an,u,A,G⟩:=c r E.out;have ae:=W.c 0 rfl;rw[g]at ae;rw[v]at X;clear c g l v Y P C;go_upto_region 4 with fail;obtain⟨h,g⟩:=kA r.heap.size;obtain⟨y,c⟩:=kB (r.alloc (Xk #[U8 q.p.b0,U8 q.p.b1,U8 q.p.b2,U8 q.p.b3,U8 q.p.b4,U8 q.p.b5,U8 q.p.b6,U8 q.p.b7,I6 q.r,Xh q.u,Xh q.d,I6 q.f,I6 q.x] 93));have R:=gP c
  have a8:=xP c g
  have U:=dD (E.trans R);have a9:=dD (N.grew R);have S:w.heap.size+1+1+1≠h:=by have:=N.lt;have P:=g.out;omega
  have Q:h≠w.heap.size+1+1+1:=fun ao=>S ao.symm
  rw[c,g.out];clear c R ae ai X aa ab ac ad ah aj ak al am an u A G;obtain⟨c,g⟩:∃c:Xn->Prop,Xo (∀u,c u↔(zb w u/\Box u h [U8 q.p.b0,U8 q.p.b1,U8 q.p.b2,U8 q.p.b3,U8 q.p.b4,U8 q.p.b5,U8 q.p.b6,U8 q.p.b7,I6 q.r,Xh q.u,Xh q.d,I6 q.f,I6 q.x]/\∃G,Box u (w.heap.size+1+1+1) G/\G.length=8)):=⟨fun u=>(zb w u/\Box u h [U8 q.p.b0,U8 q.p.b1,U8 q.p.b2,U8 q.p.b3,U8 q.p.b4,U8 q.p.b5,U8 q.p.b6,U8 q.p.b7,I6 q.r,Xh q.u,Xh q.d,I6 q.f,I6 q.x]/\∃G,Box u (w.heap.size+1+1+1) G/\G.length=8),fun _=>Iff.rfl⟩
  have R:zb y y.drew:=(gW _)
  have A:c y.drew:=(g _).2 ⟨U.trans R,a8.grew R,_,a9.grew R,rfl⟩;have a8:∀y:zk c,y.world.cell? ⟨h,0,Xb⟩=Xa (U8 q.p.b0):=fun y=>((g _).1 y.holds).2.1.c 0 rfl
  have a9:∀y:zk c,y.world.cell? ⟨h,1,Xb⟩=Xa (U8 q.p.b1):=fun y=>((g _).1 y.holds).2.1.c 1 rfl
  have aa:∀y:zk c,y.world.cell? ⟨h,2,Xb⟩=Xa (U8 q.p.b2):=fun y=>((g _).1 y.holds).2.1.c 2 rfl
  have ab:∀y:zk c,y.world.cell? ⟨h,3,Xb⟩=Xa (U8 q.p.b3):=fun y=>((g _).1 y.holds).2.1.c 3 rfl
  have ac:∀y:zk c,y.world.cell? ⟨h,4,Xb⟩=Xa (U8 q.p.b4):=fun y=>((g _).1 y.holds).2.1.c 4 rfl
  have ad:∀y:zk c,y.world.cell? ⟨h,5,Xb⟩=Xa (U8 q.p.b5):=fun y=>((g _).1 y.holds).2.1.c 5 rfl
  have ah:∀y:zk c,y.world.cell? ⟨h,6,Xb⟩=Xa (U8 q.p.b6):=fun y=>((g _).1 y.holds).2.1.c 6 rfl
  have aj:∀y:zk c,y.world.cell? ⟨h,7,Xb⟩=Xa (U8 q.p.b7):=fun y=>((g _).1 y.holds).2.1.c 7 rfl
  have S:∀y:zk c,y.world.cell? ⟨h,11,Xb⟩=Xa (I6 q.f):=fun y=>((g _).1 y.holds).2.1.c 11 rfl
  have R:Nonempty (zk c):=⟨⟨_,A⟩⟩;refine jU (I:=c) 8 [(5,⟨fun _=>True,fun _ u=>Box u (w.heap.size+1+1+1) (pgc (pgL q.p)),fun y H=>True,fun _=>True⟩)] A zZ (by kernel_rfl) rfl rfl (by decide) ?hS ?hp ?hpre ?hpr0 ?_
  case hS=>
   intro x c;simp only[mC,nM,or_false]at c;subst c;exact⟨Xh Xc,trivial⟩
  case hp=>
   intro i s am al v U u c c y q ak c;have h:=z9 v;have c:=z9 U;simp only[mC,pJ,nM,or_false]at h c;exact absurd (c.1.trans h.1.symm) u
  case hpre=>
   intro am al i s U v u y q ak u;have c:=z9 U;simp only[mC,pJ,nM,or_false]at c;obtain⟨rfl,rfl⟩:=c;trivial
  case hpr0=>
   intro i al v;have h:=z9 v;simp only[mC,pJ,nM,or_false]at h;obtain⟨rfl,rfl⟩:=h;trivial
  simp only[Yb,Yc];iterate 5 refine qI ?_
  refine j5 rfl rfl (fun w' c u h=>?_) (fun i i=>?_)
  ·obtain⟨u,v,G,G,i⟩:=(g _).1 c;refine zR.storeAll 91 (.tmp 8) (.tmp 28) rfl (w.heap.size+1+1+1) rfl (pgc (pgL q.p)) rfl G (by rw[i];rfl) (by rw[i];exact zsm) (ju _) fun c c i q=>?_
   exact⟨(g _).2 ⟨zd u i (by omega),v.grown i Q,_,c,rfl⟩,trivial,trivial,c⟩
  simp only[Xs];iterate 2 refine qI ?_
  refine zad fun c c h=>?_
  have q:=dD<|h 5;have i:=dD<|((g _).1 c).1;clear h c A R a8 a9 aa ab ac ad ah aj S;go_wp2;refine bodyPost_ret (zN rfl _ rfl q underlying91 rfl zsm) rfl ⟨by rw[j.out];rfl,by rw[j.out];rfl,i⟩
 have T:(e.kind == 1)=Xd:=by simp[l]
 rw[kF l]at b
 by_cases p:e.kind=2
 ·have G:(e.kind == 2)=Xc:=by simp[p]
  rw[kE p]at b;obtain⟨C,D⟩:=P p;have c:=dD<|zjY a7 C D;have h:=M.out r e.n E.out;rw[c.out]at h;obtain⟨y,R⟩:=kA (qY m.sb m.sq e.n);have c:Xo (y.length=8):=show _=_ by rw[<-R.out];exact Z _
  rw[R.out]at b h;obtain⟨Z,a7,a8,a9,aa,ab,ac,ad,rfl⟩:=zfh y c.out;have aj:=W.c 3 rfl;have ak:=W.c 4 rfl;clear l p C D Y P;go_wp2_with fail;refine h.mono ?_;clear h aj ak ai X;rintro H S ⟨rfl,q⟩;have Q:=dD (E.trans q);have ah:=dD (N.grew q);simp only[pgc,mP,Ya];go_upto_region 7 with fail;obtain⟨c,g⟩:=kA S.heap.size;obtain⟨al,c⟩:=kB (S.alloc (Xk #[U8 Z,U8 a7,U8 a8,U8 a9,U8 aa,U8 ab,U8 ac,U8 ad] 91));have u:=gP c
  have i:=xP c g
  have A:=dD (Q.trans u);have U:=dD (ah.grew u);rw[c,g.out];clear c u q;have j:=b;obtain⟨c,c,c,c,c,c,c,c⟩:=i.c8
  go_wp2_with (refine zz rfl 91 (.tmp 8) (.tmp 43) rfl (w.heap.size+1+1+1) rfl (pgc [Z,a7,a8,a9,aa,ab,ac,ad]) rfl U rfl zsm (ju _) ?_)
  intro v g i _;have c:Xo (zb w v):=dD<|zd A i (by omega)
  go_wp2;refine bodyPost_ret (zN rfl _ rfl g underlying91 rfl zsm) rfl ⟨by rw[j.out];rfl,by rw[j.out];rfl,c⟩
 have G:(e.kind == 2)=Xd:=by simp[p]
 rw[kF p]at b;clear l p Y P;have p:=A0.c 5 rfl
 by_cases t:a.file<0
 ·have M:decide (a.file<0)=Xc:=decide_eq_true t;rw[kE t]at b;have j:=b;clear t
  go_wp2_with (refine zz rfl 91 (.tmp 8) (.tmp 48) rfl (w.heap.size+1+1+1) rfl (pgc z4) rfl N rfl zsm (ju _) ?_)
  intro v g i _;have c:Xo (zb w v):=dD<|zd E i (by omega)
  go_wp2;refine bodyPost_ret (zN rfl _ rfl g underlying91 rfl zsm) rfl ⟨by rw[j.out];rfl,by rw[j.out];rfl,c⟩
 have M:decide (a.file<0)=Xd:=decide_eq_false t;rw[kF t]at b;obtain⟨C,D⟩:=ag.out (by omega)
 obtain⟨d,l⟩:∃d:Nat,a.file=(d:Int):=⟨a.file.toNat,by omega⟩
 obtain⟨k,t⟩:∃k:Nat,a.base+(n:Int) - a.fr=(k:Int):=⟨(a.base+(n:Int) - a.fr).toNat,by omega⟩
 have h:=af.out r;rw[t]at h C D;rw[t,l]at b;have r:=dD l;clear l t;have l:=A0.c 0 rfl;have t:=A0.c 1 rfl;have C:=A0.c 2 rfl;have D:=A0.c 3 rfl;have P:=A0.c 4 rfl;have Y:=A0.c 6 rfl;go_wp2_with fail;refine h.mono ?_;clear h l t C D P p Y ai X M T G;rintro H S ⟨rfl,q⟩;have Q:=dD (E.trans q);have l:=dD (W.grew q);have A1:=dD (A0.grew q);have ah:=dD (N.grew q);clear q;have h:=L.out S (d:Int) (k:Int) Q.out;rw[zqq (by omega) (by omega)]at h
 have p:=A1.c 5 rfl;rw[r.out]at p;have t:=l.c 7 rfl;have C:=l.c 8 rfl;go_wp2_with fail;refine h.mono ?_;clear h p t C;rintro H al ⟨rfl,u⟩;have A:=dD (Q.trans u);have D:=dD (l.grew u);have A2:=dD (A1.grew u);have U:=dD (ah.grew u);clear u
 by_cases l:bkN m (d:Int)<=(k:Int)
 ·rw[kE l]at b;rw[decide_eq_false (by omega:¬(k:Int)<bkN m (d:Int))]
  have j:=b;clear l
  go_wp2_with (refine zz rfl 91 (.tmp 8) (.tmp 60) rfl (w.heap.size+1+1+1) rfl (pgc z4) rfl U rfl zsm (ju _) ?_)
  intro v g i _;have c:Xo (zb w v):=dD<|zd A i (by omega)
  go_wp2;refine bodyPost_ret (zN rfl _ rfl g underlying91 rfl zsm) rfl ⟨by rw[j.out];rfl,by rw[j.out];rfl,c⟩
 rw[kF l]at b;rw[decide_eq_true (by omega:(k:Int)<bkN m (d:Int))]
 obtain⟨f,z⟩:∃f,m.fl[d]? =Xa f:=by
  cases q:m.fl[d]? with
  | some f=>exact⟨f,rfl⟩
  | none=>
   exfalso;unfold bkN at l;rw[tN,gD,q]at l
   simp at l
 obtain⟨F,q⟩:∃F,f.bl[k]? =Xa F:=⟨_,gE (by
  unfold bkN at l;rw[tN,gD,z]at l;simp only[Option.getD_some]at l
  omega)⟩
 have h:=K.out al d k f F A z q (by omega)
 clear z q l;have p:=A2.c 5 rfl;rw[r.out]at p;obtain⟨ae,r,u,aj,ak,z,E,t,C,F,l,q⟩:=D.c12;go_wp2_with fail;refine h.mono ?_;clear h p ae r u aj ak z E t C F l q;rintro H h ⟨rfl,h,l⟩;have p:=dD (A.trans l);have q:=dD (U.grew l);clear l;obtain⟨y,R⟩:=kA (zT m (d:Int) (k:Int));rw[R.out]at b h⊢;obtain⟨Z,a7,a8,a9,aa,ab,ac,ad,rfl⟩:=zfh y h;have j:=b;clear h;simp only[pgc,mP,Ya]
 go_wp2_with (refine zz rfl 91 (.tmp 8) (.tmp 65) rfl (w.heap.size+1+1+1) rfl (pgc [Z,a7,a8,a9,aa,ab,ac,ad]) rfl q rfl zsm (ju _) ?_)
 intro v g i _;have c:Xo (zb w v):=dD<|zd p i (by omega)
 go_wp2;refine bodyPost_ret (zN rfl _ rfl g underlying91 rfl zsm) rfl ⟨by rw[j.out];rfl,by rw[j.out];rfl,c⟩
theorem zpB (e:maW m=0) {p:Nat} {s:Sp} (b:m.sp[p]? =Xa s) {n:Nat} (d:n<64):((ze s n).kind=1->0<=(ze s n).n/\(ze s n).n< (m.fs.length:Int))/\((ze s n).kind=2->0<=(ze s n).n/\(ze s n).n< (m.sb.length:Int)):=by
 have c:=(za4 e).1;have a:=zqB e s (mG b) n d;have e:(jy m)[p]? =Xa (ze s):=by unfold jy;rw[List.getElem?_map,b];rfl
 have b:=(jD (c.en e d)).2.1.1;have d:=c.sbl;unfold zdD at a;refine⟨fun c=>⟨b,?_⟩,fun c=>⟨b,?_⟩⟩
 ·rw[kF (by omega)]at a
  split at a
  ·cases a
  split at a
  ·omega
  split at a
  ·cases a
  omega
 rw[kF (by omega)]at a
 split at a
 ·cases a
 split at a
 ·cases a
 omega
theorem zpf (a:∀p∈m.db,p.length=8) (b:∀q∈m.dq,q.2.length=8) (file idx:Int):(zT m file idx).length=8:=by
 unfold zT
 split
 ·rfl
 exact zdF a b file idx
theorem zpZ (a1:∀p∈m.sb,p.length=8) (a2:∀q∈m.sq,q.2.length=8) (a:∀p∈m.db,p.length=8) (b:∀q∈m.dq,q.2.length=8) (x:On) (e):(ZM m x e).1.length=8:=by
 unfold ZM
 split
 ·rfl
 split
 ·rfl
 split
 ·exact zjb a1 a2
 split
 ·rfl
 split
 ·rfl
 exact zpf a b _ _
theorem zlV {p:Nat} {s:Sp} (c:m.sp[p]? =Xa s) {n:Int} (b:zco s.ars n z) (a:z<0):zhB m (p:Int) n=(z4,Xd,5):=by
 by_cases h:0<=n/\n<=63
 ·obtain⟨k,rfl⟩:∃k:Nat,n=(k:Int):=⟨n.toNat,by omega⟩
  have a:=zfE b;rw[decide_eq_false (by omega)]at a
  rw[zeV c (by omega)]
  unfold ZM;rw[kE a.symm]
 exact zi1 (by omega)
def js (m:Ma) (p n:Int) (wr:Bool) (a:Ar) (e:Int):Prop:=
 (e=5/\a=ar0/\((p<0\/(m.sp.length:Int)<=p)\/∃(pp:Nat) (s:Sp),p=(pp:Int)/\m.sp[pp]? =Xa s/\∀a∈s.ars,inZ a n=Xd))\/
 (∃(pp nn k:Nat) (s:Sp) (x:Ar),p=(pp:Int)/\n=(nn:Int)/\nn<64/\m.sp[pp]? =Xa s/\s.ars[k]? =Xa x/\jN x/\(x.fr<=(nn:Int)/\(nn:Int)<x.tz)/\zD s.ars nn=qg x nn/\
  ((e=8/\a=ar0/\(if wr=Xc then x.wr else x.rd)=Xd)\/(e=0/\a=x/\(if wr=Xc then x.wr else x.rd)=Xc)))
theorem zj9 (V m) (p n:Int) (wr:Bool) (w) (aj:zE w V m) (az:maW m=0):
  Xp prog 176 #[Xi (mL V m).toArray,I6 p,I6 n,Xh wr] w fun e w'=>(∃(a:Ar) (H:Int),e= Xl (Xm #[Xi #[I6 a.fr,I6 a.tz,Xh a.rd,Xh a.wr,Xh a.sh,I6 a.file,I6 a.base],I6 H])/\js m p n wr a H)/\zb w w':=by
 have bg:=dD aj;have al:=dD az;have R:=dD<|fun W (bn:zb w W)=>QA V m W (bg.grew bn) az
 obtain⟨-,-,-,-,-,-,-,-,b4⟩:=aj.ns;obtain⟨be,a2,s,a1⟩:=aj.spaces;obtain⟨bc,bd,a8,a9,a5,a6,a7,a4,⟨K,j,a3⟩⟩:=V;dsimp only[mL]at b4 s R⊢;have A:=dD b4.symm;have au:Xo (be.length=j):=show _=_ by rw[a2];exact A.out
 have an:=dD s
 have ap:=dD a1
 clear aj b4 a2 s a1 az;obtain⟨B,v⟩:=kA w.heap.size;obtain⟨av,r⟩:=kB ((w.alloc (Xk #[bc.x,I6 m.hand,bd.x,a8.x,a9.x,a5.x,a6.x,a7.x,I6 m.cnt,a4.x,O K j a3] 45)).alloc (Xk #[I6 0,I6 0,Xh Xd,Xh Xd,Xh Xd,I6 0,I6 0] 125));have b7:=gD2 r
 have b9:Xo (Box av B [bc.x,I6 m.hand,bd.x,a8.x,a9.x,a5.x,a6.x,a7.x,I6 m.cnt,a4.x,O K j a3]):=dD<|by rw[<-r];exact(Box.top _ _ _ v.symm).alloc _
 have bj:Xo (zn av (B+1) 125 [I6 0,I6 0,Xh Xd,Xh Xd,Xh Xd,I6 0,I6 0]):=dD<|by rw[<-r];exact zn.top _ [I6 0,I6 0,Xh Xd,Xh Xd,Xh Xd,I6 0,I6 0] _ (by have:=v.out;simp;omega)
 have ar:=dD r;clear r
 go_enter func176,ntmps176
 go_upto_region 1 with fail;rw[ar.out,v.out];obtain⟨bu,bv,bw,bx,bz,c0,c1,c2,c3,c4,E⟩:=b9.c11;have X:=R.out av b7.out;go_wp2_with fail;refine X.mono ?_;clear X bu bv bw bx bz c0 c1 c2 c3 c4 E;rintro bt b8 ⟨rfl,ai⟩;have N:=dD (b7.trans ai);have bi:=dD (b9.grew ai);have aw:=dD (bj.grew ai);clear ai;have E:=bi.c 10 rfl
 by_cases a0:p<0\/(j:Int)<=p
 ·by_cases C:p<0
  ·have b1:decide (p<0)=Xc:=decide_eq_true C;have x:Xo (js m p n wr ar0 5):=dD<|.inl ⟨rfl,rfl,.inl (by rw[A.out];exact a0)⟩
   clear a0 C
   go_wp2_with (refine zj rfl 125 (.tmp 8) (.tmp 29) rfl (B+1) rfl [I6 0,I6 0,Xh Xd,Xh Xd,Xh Xd,I6 0,I6 0] rfl aw rfl (by kernel_rfl) (by simp[Value.oneCell']) ?_)
   intro k b c _;have f:Xo (zb w k):=dD<|zd N c (by have:=v.out;omega)
   have d:=dD b;clear b c;go_wp2;refine bodyPost_ret (qo rfl _ rfl d.box underlying125 rfl (by kernel_rfl)) rfl ⟨⟨ar0,5,rfl,x⟩,f⟩
  have b1:decide (p<0)=Xd:=decide_eq_false C;have Y:decide ((j:Int)<=p)=Xc:=decide_eq_true (by omega)
  have x:Xo (js m p n wr ar0 5):=dD<|.inl ⟨rfl,rfl,.inl (by rw[A.out];exact a0)⟩
  clear a0 C
  go_wp2_with (refine zj rfl 125 (.tmp 8) (.tmp 29) rfl (B+1) rfl [I6 0,I6 0,Xh Xd,Xh Xd,Xh Xd,I6 0,I6 0] rfl aw rfl (by kernel_rfl) (by simp[Value.oneCell']) ?_)
  intro k b c _;have f:Xo (zb w k):=dD<|zd N c (by have:=v.out;omega)
  have d:=dD b;clear b c;go_wp2;refine bodyPost_ret (qo rfl _ rfl d.box underlying125 rfl (by kernel_rfl)) rfl ⟨⟨ar0,5,rfl,x⟩,f⟩
 have b1:decide (p<0)=Xd:=decide_eq_false (by omega)
 have Y:decide ((j:Int)<=p)=Xd:=decide_eq_false (by omega)
 obtain⟨h,rfl⟩:∃h:Nat,p=(h:Int):=⟨p.toNat,by omega⟩
 obtain⟨D,b2⟩:∃D,be[h]? =Xa D:=⟨_,gE (by rw[au.out];omega)⟩
 obtain⟨y,aa⟩:∃y,Xo (m.sp[h]? =Xa y):=⟨_,gE (by rw[A.out];omega)⟩
 have G:=dD<|ap.out h D y b2 aa.out;obtain⟨ax,ao,ba⟩:∃ax,Xo (K=Xa ax)/\∀W,zb w W->zly W (ax.add (h*10)) D:=an.out h D b2;obtain⟨-,bk,-,-,-,-,-,-,-,-⟩:=ba b8 N.out;rw[ao.out]at E;have bq:(h:Int)< (j:Int):=by omega
 clear ba b2 a0;have X:=zcH (D.ar.x) y.ars n b8 (G.ar.grew N);go_wp2_with fail;refine X.mono ?_;clear X bk E b1 Y;rintro bt bh ⟨⟨bf,rfl,bb⟩,ay⟩;have Q:=dD bb;have L:=dD (N.trans ay);have S:=dD (aw.grew ay);clear ay bb
 by_cases b3:bf<0
 ·have I:∀a∈y.ars,inZ a n=Xd:=by
   rcases Q with⟨t,a,M,_⟩|⟨_,br⟩
   ·omega
   exact br
  have x:Xo (js m (h:Int) n wr ar0 5):=dD<|.inl ⟨rfl,rfl,.inr ⟨h,y,rfl,aa,I⟩⟩
  clear I
  go_wp2_with (refine zj rfl 125 (.tmp 8) (.tmp 41) rfl (B+1) rfl [I6 0,I6 0,Xh Xd,Xh Xd,Xh Xd,I6 0,I6 0] rfl S rfl (by kernel_rfl) (by simp[Value.oneCell']) ?_)
  intro k b c _;have f:Xo (zb w k):=dD<|zd L c (by have:=v.out;omega)
  have d:=dD b;clear b c;go_wp2;refine bodyPost_ret (qo rfl _ rfl d.box underlying125 rfl (by kernel_rfl)) rfl ⟨⟨ar0,5,rfl,x⟩,f⟩
 obtain⟨t,a,rfl,l,z⟩:∃(t:Nat) (a:Ar),bf=(t:Int)/\Xo (y.ars[t]? =Xa a)/\Xo (inZ a n=Xc):=by
  rcases Q with⟨t,a,M,b5,b6⟩|⟨M,_⟩
  ·exact⟨t,a,M,b5,b6⟩
  omega
 have P:=dD<|(J6.1 ((zpu (JO al)).ar y (mG aa)).1).2;have F:=dD<|zfK P l.out;obtain⟨u,rfl⟩:∃u:Nat,n=(u:Int):=⟨n.toNat,by have bm:=zbU.1 z.out;have b0:=F.out;unfold jN at b0;omega⟩
 have Z:u<64:=by have bm:=zbU.1 z.out;have b0:=F.out;unfold jN at b0;omega
 have am:Xo (zD y.ars u=qg a u):=za9 P l (by rw[<-zir];exact z)
 have bo:t<D.ar.n:=by rw[G.ar.n];exact(gS.1 l).1
 have bp:(t:Int)< (D.ar.n:Int):=by omega
 obtain⟨q,aq,ak⟩:∃q,Xo (D.ar.a=Xa q)/\Xo (∀W,zb w W->ziZ W (q.add (t*7)) a):=by
  obtain⟨_,_,M,b5⟩:=G.ar.ars;simp only[vJ]at M;obtain⟨q,b6,bs⟩:=b5 t a l.out;exact⟨q,by rw[M.1];exact b6,bs⟩
 have x:Xo (∀H ab,(H=8/\ab=ar0/\(if wr=Xc then a.wr else a.rd)=Xd)\/(H=0/\ab=a/\(if wr=Xc then a.wr else a.rd)=Xc)->js m (h:Int) (u:Int) wr ab H):=dD<|fun H ab bl=> .inr ⟨h,u,t,y,a,rfl,rfl,Z,aa,l,F,zbU.1 z,am,bl⟩
 (first|rw[aq.out]|(simp only[Sli.x];rw[aq.out]));obtain⟨ac,ae,T,U,af,ag,ah⟩:=ak.out bh L.out;clear b3;cases wr
 ·obtain⟨ok,g⟩:=kA a.rd;rw[g.out]at T;cases ok
  ·have i:Xo (js m (h:Int) (u:Int) Xd ar0 8):=x.out 8 ar0 (.inl ⟨rfl,rfl,g⟩)
   go_wp2_with (refine zj rfl 125 (.tmp 8) (.tmp 55) rfl (B+1) rfl [I6 0,I6 0,Xh Xd,Xh Xd,Xh Xd,I6 0,I6 0] rfl S rfl (by kernel_rfl) (by simp[Value.oneCell']) ?_)
   intro k b c _;have f:Xo (zb w k):=dD<|zd L c (by have:=v.out;omega)
   have d:=dD b;clear b c ac ae T U af ag ah;go_wp2;refine bodyPost_ret (qo rfl _ rfl d.box underlying125 rfl (by kernel_rfl)) rfl ⟨⟨ar0,8,rfl,i⟩,f⟩
  have i:Xo (js m (h:Int) (u:Int) Xd a 0):=x.out 0 a (.inr ⟨rfl,rfl,g⟩)
  go_wp2_with (refine zj rfl 125 (.tmp 8) (.tmp 59) rfl (B+1) rfl [I6 a.fr,I6 a.tz,Xh Xc,Xh a.wr,Xh a.sh,I6 a.file,I6 a.base] rfl S rfl (by kernel_rfl) (by simp[Value.oneCell']) ?_)
  intro k b c _;have f:Xo (zb w k):=dD<|zd L c (by have:=v.out;omega)
  have d:=dD b;clear b c ac ae T U af ag ah;go_wp2;refine bodyPost_ret (qo rfl _ rfl d.box underlying125 rfl (by kernel_rfl)) rfl ⟨⟨a,0,by rw[g.out];rfl,i⟩,f⟩
 obtain⟨ok,g⟩:=kA a.wr;rw[g.out]at U;cases ok
 ·have i:Xo (js m (h:Int) (u:Int) Xc ar0 8):=x.out 8 ar0 (.inl ⟨rfl,rfl,g⟩)
  go_wp2_with (refine zj rfl 125 (.tmp 8) (.tmp 55) rfl (B+1) rfl [I6 0,I6 0,Xh Xd,Xh Xd,Xh Xd,I6 0,I6 0] rfl S rfl (by kernel_rfl) (by simp[Value.oneCell']) ?_)
  intro k b c _;have f:Xo (zb w k):=dD<|zd L c (by have:=v.out;omega)
  have d:=dD b;clear b c ac ae T U af ag ah;go_wp2;refine bodyPost_ret (qo rfl _ rfl d.box underlying125 rfl (by kernel_rfl)) rfl ⟨⟨ar0,8,rfl,i⟩,f⟩
 have i:Xo (js m (h:Int) (u:Int) Xc a 0):=x.out 0 a (.inr ⟨rfl,rfl,g⟩)
 go_wp2_with (refine zj rfl 125 (.tmp 8) (.tmp 59) rfl (B+1) rfl [I6 a.fr,I6 a.tz,Xh a.rd,Xh Xc,Xh a.sh,I6 a.file,I6 a.base] rfl S rfl (by kernel_rfl) (by simp[Value.oneCell']) ?_)
 intro k b c _;have f:Xo (zb w k):=dD<|zd L c (by have:=v.out;omega)
 have d:=dD b;clear b c ac ae T U af ag ah;go_wp2;refine bodyPost_ret (qo rfl _ rfl d.box underlying125 rfl (by kernel_rfl)) rfl ⟨⟨a,0,by rw[g.out];rfl,i⟩,f⟩
theorem zc.other {α:Type} {E:Elt α} {w:Xn} {v:Xq} {l:List α} {cs:List Xq} (h:zc E b w v l) (a:w.grownBy w' (Xa g)) (c:zn w g t cs) (d:t≠E.ty):zc E b w' v l:=h.grown a fun k a e=>by
 cases e;exact h.ne c d g a rfl
theorem J8 {a n:Nat} {e:TypeId} {w:Xn} {cs:List Xq} {v:Xq} (h:w.ownsRow b e a v n xs) (l:w.grownBy w' (Xa g)) (d:zn w g t cs) (i:t≠e):w'.ownsRow b e a v n xs:=by
 have f:v.ownBlock≠Xa g:=fun c=>by
  obtain⟨_,_,a,a⟩:=zaH h c;have c:w.heap[g]? =_:=d;rw[c]at a;cases a;exact i rfl
 refine⟨h.1,?_⟩
 rcases h.2 with h|⟨k,c,d,rfl,i,a,j⟩
 ·exact .inl h
 exact .inr ⟨k,c,d,rfl,i,by rw[l.block k (aS.1 a).1 (fun e=>by cases e;exact f rfl)];exact a,j⟩
theorem zn.off {w:Xn} {c:TypeId} {cs ds:List Xq} (h:zn w b t cs) (k:zn w g c ds) (f:t≠c):b≠g:=fun e=>by
 subst e;have d:w.heap[b]? =Xa (Xk cs.toArray t (0,0)):=h;have a:w.heap[b]? =Xa (Xk ds.toArray c (0,0)):=k;rw[d]at a;simp only[Option.some.injEq,Obj.cells.injEq]at a;exact f a.2.1
theorem zdV.other {base:Nat} {w:Xn} {cs:List Xq} (h:zdV base w V m) (a:w.grownBy w' (Xa g)) (hb:zn w g 245 cs):zdV base w' V m:=by
 obtain⟨f,⟨i,c,d,b,e⟩,j,k⟩:=h.fl;obtain⟨s,B,l,n,p,q,r⟩:=h.sp;refine⟨h.fs.other a hb (by decide),h.sl.other a hb (by decide),⟨J8 h.sb.1 a hb (by decide),h.sb.2⟩,⟨J8 h.sq.1 a hb (by decide),h.sq.2⟩,⟨J8 h.db.1 a hb (by decide),h.db.2⟩,⟨J8 h.dq.1 a hb (by decide),h.dq.2⟩,⟨f,⟨i,c.other a hb (by decide),d,fun i x f c d=>⟨(b i x f c d).1,(b i x f c d).2.other a hb (by decide)⟩,e⟩,j,k⟩,h.ca.other a hb (by decide),⟨s,B,l.other a hb (by decide),n,p,q,fun i x s c d=>?_⟩,h.ap⟩
 have b:=r i x s c d;exact⟨b.live,b.ar.other a hb (by decide),⟨b.tb.len,b.tb.tlen,fun j v y c d=>(b.tb.row j v y c d).other a hb (by decide),b.tb.two⟩,b.arh,b.tbh⟩
theorem ChW.of {w:Xn} {p:Nat} (h:zdV B w V m) (j:w0.heap.size<=B) (t:zb w0 w) (l:w0.heap.size<=p) (q:zn w p 88 (chL V m)):ChW w0 p w V m:=by
 obtain⟨x,n,s,u,y,z,A⟩:=h.sp;have b:∀{W:Xn} {e a d:Nat} {c:TypeId} {v:Xq} {f:List Xq},zm (Dr w0.heap.size p V) w W->w.ownsRow e c a v d f->B<=e->ZA.ty≠c/\Qy.ty≠c/\Jw.ty≠c/\88≠c->W.ownsRow e c a v d f:=fun k i d f=>zcb i k fun r g a=>by
  obtain⟨c,c,c,c⟩:=zaH i g
  rcases a with a|a|a|a|a
  ·omega
  ·subst a;have g:w.heap[r]? =_:=q;rw[g]at c;cases c;exact f.2.2.2 rfl
  ·obtain⟨r,g⟩:=h.fs.obj a;rw[g]at c;cases c;exact f.2.1 rfl
  ·obtain⟨r,g⟩:=h.ca.obj a;rw[g]at c;cases c;exact f.2.2.1 rfl
  obtain⟨r,g⟩:=s.obj a;rw[g]at c;cases c;exact f.1 rfl
 have a:∀{W:Xn} {g:Type} {E:Elt g} {e:Nat} {v:Xq} {c:List g},zm (Dr w0.heap.size p V) w W->zc E e w v c->B<=e->ZA.ty≠E.ty/\Qy.ty≠E.ty/\Jw.ty≠E.ty/\88≠E.ty->zc E e W v c:=fun k i d f=>⟨b k i.1 d f,i.2⟩
 refine⟨t,l,q,h.fs.base j,h.ca.base j,⟨x,s.base j,u,fun i x s f e W k=>?_⟩,fun W k=>?_⟩
 ·have c:=A i x s f e;have e:=nT y (zdg z (nZ i));have q:Jf (n i) (n (i+1)) W x s:=⟨c.live,a k c.ar e (by decide),⟨c.tb.len,c.tb.tlen,fun n v y g j=>a k (c.tb.row n v y g j) e (by decide),c.tb.two⟩,c.arh,c.tbh⟩
  exact q.at
 obtain⟨l,⟨r,e,j,g,q⟩,n,c⟩:=h.fl;have c:z2 l W (V.fl.x) m.fl:=⟨r,a k e n (by decide),j,fun i x e f j=>⟨(g i x e f j).1,a k (g i x e f j).2 n (by decide)⟩,q⟩
 have d:=nR B;exact⟨(a k h.sl d (by decide)).at,zB.at ⟨b k h.sb.1 d (by decide),h.sb.2⟩,zy.at ⟨b k h.sq.1 d (by decide),h.sq.2⟩,zB.at ⟨b k h.db.1 d (by decide),h.db.2⟩,zy.at ⟨b k h.dq.1 d (by decide),h.dq.2⟩,c.new.now0⟩
theorem ChW.lower {u:Xn} {p:Nat} (h:ChW w1 p u V m) (b:u.grownBy u1 (Xa g)) (a:g<w1.heap.size) (j:zb w0 u1) (d:w0.heap.size<=w1.heap.size):ChW w0 p u1 V m:=by
 obtain⟨q,i,l,n⟩:=h.sp;have f:∀{W:Xn},zm (Dr w0.heap.size p V) u1 W->zm (Dr w1.heap.size p V) u W:=fun c=>(zm.grown b (show Dr w1.heap.size p V g from .inl a)).trans (c.wide fun k a=>a.elim (fun e=> .inl (Xt e d)) .inr)
 exact⟨j,nT d h.lo,h.box.beside b (fun k e=>by cases e;have:=h.lo;omega),(h.fs.grown b (fun k a e=>by cases e;have:=(h.fs.lt _ a).1;omega)).base d,(h.ca.grown b (fun k a e=>by cases e;have:=(h.ca.lt _ a).1;omega)).base d,⟨q,(i.grown b (fun k a e=>by cases e;have:=(i.lt _ a).1;omega)).base d,l,fun i x s b a W c=>n i x s b a W (f c)⟩,fun W c=>h.rest W (f c)⟩
theorem zgo (V m) (w:Xn) (f:zE w V m):
  Xp prog 24 #[Xi (mL V m).toArray] w fun e w'=>∃(p B:Nat) (V':MaV),e= Xl (Xj (Xa ⟨p,0,Xb⟩))/\zdV B w' V' m/\w.heap.size<=B/\w.heap.size<=p/\zn w' p 88 (chL V' m)/\zb w w':=by
 obtain⟨b,a⟩:=kB (w.alloc (Xk (mL V m).toArray 45));have c:=gA a
 have g:=xA a
 have d:=dD a;clear a;have a:=zfb V m b (f.grew c);clear f
 go_enter func24,ntmps24
 go_upto_region 1 with fail;rw[d.out];obtain⟨f,h,i,j,k,l,n,q,r,s,d⟩:=g.c11;go_wp2_with fail;refine a.mono ?_;clear a f h i j k l n q r s d;rintro e a ⟨V',rfl,g,f⟩;have d:=dD (c.trans f);have i:=dD g;have h:=dD<|bS c.out
 clear g f;have c:Xo (zdV b.heap.size (a.alloc (Xk (chL V' m).toArray 88)) V' m/\w.heap.size<=b.heap.size/\w.heap.size<=a.heap.size/\zn (a.alloc (Xk (chL V' m).toArray 88)) a.heap.size 88 (chL V' m)/\zb w (a.alloc (Xk (chL V' m).toArray 88))):=dD<|⟨i.grew (za _ _),h,bS d,zn.top _ _ _ rfl,d.trans (za _ _)⟩
 go_wp2;go_ret;exact⟨_,b.heap.size,V',rfl,c⟩
theorem zn8 (V m) (p n:Int) (w) (a4:zE w V m) (al:maW m=0):
  Xp prog 177 #[Xi (mL V m).toArray,I6 p,I6 n] w fun e w'=>e= Xl (zhA (ZK m p n))/\(ZK m p n).1.length=8/\zb w w':=by
 have bq:=dD a4;have bt:=dD<|fun x e=>zpZ a4.sb.2.1 a4.sq.2.1 a4.db.2.1 a4.dq.2.1 x e
 have ae:Xo (∀W,zb w W->Xp prog 20 #[Xi (mL V m).toArray] W fun e w'=>e= Xl (I6 (maW m))/\zb W w'):=dD<|fun W U=>by rw[al];exact QA V m W (bq.grew U) al
 have ay:Xo (∀W,zb w W->Xp prog 70 #[Xi (mL V m).toArray] W fun e w'=>∃B,e= Xl (Xi #[V.f.x,I6 m.hand,V.s.x,V.sb.x,V.sq.x,V.db.x,V.dq.x,V.fl.x,I6 m.cnt,V.ca.x,V.sp.x,.map (Xa B)])/\Zw plK w' B (ZH m.ca)/\zb W w'):=dD<|fun W U=>QY V m W (bq.grew U)
 have ac:Xo (maW m=0->∀W B (a:Ar) (n:Nat) (e:En),zb w W->jN a->(a.fr<=(n:Int)/\(n:Int)<a.tz)->(e.kind=1->0<=e.n/\e.n< (m.fs.length:Int))->(e.kind=2->0<=e.n/\e.n< (m.sb.length:Int))->Zw plK W B (ZH m.ca)->Xp prog 204 #[Xi #[V.f.x,I6 m.hand,V.s.x,V.sb.x,V.sq.x,V.db.x,V.dq.x,V.fl.x,I6 m.cnt,V.ca.x,V.sp.x,.map (Xa B)],Xi #[I6 a.fr,I6 a.tz,Xh a.rd,Xh a.wr,Xh a.sh,I6 a.file,I6 a.base],I6 (n:Int),Xi #[I6 e.kind,I6 e.n,Xh e.wr]] W fun a6 w'=>a6= Xl (zhA (ZM m (qg a n) e))/\(ZM m (qg a n) e).1.length=8/\zb W w'):=dD<|fun al W B a n e U ec cd af a2 L=>zfm V m B a n e W (bq.grew U) al ec cd af a2 L
 obtain⟨-,-,-,-,-,-,-,-,dc⟩:=a4.ns;obtain⟨dt,be,M,ba⟩:=a4.spaces;obtain⟨ao,ap,u,v,r,s,t,q,⟨i,d,l⟩⟩:=V;dsimp only[mL]at dc M ae ay ac⊢;have aa:=dD dc.symm;have bz:Xo (dt.length=d):=show _=_ by rw[be];exact aa.out
 have br:=dD M
 have bu:=dD ba
 obtain⟨df,bi⟩:=kA (maW m);rw[bi.out]at ae ac;clear a4 dc be M ba;obtain⟨c1,E⟩:=kB ((w.alloc (Xk #[ao.x,I6 m.hand,ap.x,u.x,v.x,r.x,s.x,t.x,I6 m.cnt,q.x,O i d l] 45)).alloc (Xk #[U8 0,U8 0,U8 0,U8 0,U8 0,U8 0,U8 0,U8 0] 91));have dg:=gD2 E
 have dk:=x2a E
 have dy:Xo (Box c1 (w.heap.size+1) (pgc z4)):=dD<|by rw[<-E];exact Box.top _ (pgc z4) _ (by simp)
 have bx:Xo (_=c1):=E;clear E
 go_enter func177,ntmps177
 go_upto_region 1 with fail;rw[bx.out];obtain⟨es,et,eu,ev,ew,ex,ey,ez,f0,f1,Z⟩:=dk.c11;have b7:=ae.out c1 dg.out;go_wp2_with fail;refine b7.mono ?_;clear b7 es et eu ev ew ex ey ez f0 f1 Z;rintro a6 bj ⟨rfl,bk⟩;have bn:=dD (dg.trans bk);have dl:=dD (dk.grew bk);have dm:=dD (dy.grew bk);clear bk;have a5:df=0:=by rw[<-bi.out];exact al
 clear al;have db:(df != 0)=Xd:=by simp[a5]
 have a9:Xo (maW m=0):=dD<|by rw[bi.out];exact a5
 have ab:Xo (ZK m p n=zhB m p n):=dD<|by unfold ZK;rw[bi.out,kF (fun c4=>c4 a5)]
 have bw:=show Xo _ from ac.out a5
 clear a5;have Z:=dl.c 10 rfl;have a3:=QR p (d:Int) bj;go_wp2_with fail;refine a3.mono ?_;rintro a6 w' ⟨rfl,bc⟩;rw[bc];clear bc w' a3 db
 cases b5:bel p (d:Int)with
 | false=>
  have a0:Xo (ZK m p n=(z4,Xd,5)):=dD<|by
   rw[ab.out];refine zi1 ?_;have af:¬(0<=p/\p< (d:Int)):=fun c4=>by rw[j9.2 c4]at b5;cases b5
   rw[aa.out];omega
  clear b5
  go_wp2_with (refine zz rfl 91 (.tmp 6) (.tmp 24) rfl (w.heap.size+1) rfl (pgc z4) rfl dm rfl zsm (ju _) ?_)
  intro az F G _;have C:Xo (zb w az):=dD<|zd bn G (by omega)
  go_wp2;refine bodyPost_ret (zN rfl _ rfl F underlying91 rfl zsm) rfl ⟨by rw[a0.out];rfl,by rw[a0.out];rfl,C⟩
 | true=>
 obtain⟨e1,f4⟩:=j9.1 b5;obtain⟨Y,rfl⟩:∃Y:Nat,p=(Y:Int):=⟨p.toNat,by omega⟩
 obtain⟨x,am⟩:∃x,dt[Y]? =Xa x:=⟨_,gE (by rw[bz.out];omega)⟩
 obtain⟨N,ak⟩:∃N,Xo (m.sp[Y]? =Xa N):=⟨_,gE (by rw[aa.out];omega)⟩
 have P:=dD<|bu.out Y x N am ak.out;obtain⟨c2,bs,dq⟩:∃c2,Xo (i=Xa c2)/\∀W,zb w W->zly W (c2.add (Y*10)) x:=br.out Y x am;obtain⟨e2,e3,e4,e5,e6,e7,e8,e9,ea,eb⟩:=dq bj bn.out;rw[bs.out]at Z;clear dq am b5 e1;go_upto_region 7 with fail;clear e2 e3 e4 e5 e6 e7 e8 e9 ea eb Z;obtain⟨eo,av⟩:=kA bj.heap.size;obtain⟨dw,X⟩:=kB (bj.alloc (Xk #[Xh x.live,x.ar.x,x.t0.x,x.t1.x,x.t2.x,x.t3.x,x.t4.x,x.t5.x,x.t6.x,x.t7.x] 76));have bl:=gP X
 have di:=xP X av
 have dh:=dD (bn.trans bl);have dx:=dD (dl.grew bl);have dz:=dD (dm.grew bl);rw[X,av.out];clear X bl;have er:=di.c 1 rfl;have b7:=zcH (x.ar.x) N.ars n dw (P.ar.grew dh);go_wp2_with fail;refine b7.mono ?_;clear b7 er;rintro a6 dj ⟨⟨du,rfl,a5⟩,b2⟩;have au:=dD a5;have z:=dD (dh.trans b2);have D:=dD (dx.grew b2);have dn:=dD (dz.grew b2);have T:=dD (di.grew b2);clear b2 a5
 by_cases bf:du<0
 ·have a0:Xo (ZK m (Y:Int) n=(z4,Xd,5)):=dD<|by rw[ab.out];exact zlV ak au bf
  go_wp2_with (refine zz rfl 91 (.tmp 6) (.tmp 36) rfl (w.heap.size+1) rfl (pgc z4) rfl dn rfl zsm (ju _) ?_)
  intro az F G _;have C:Xo (zb w az):=dD<|zd z G (by omega)
  go_wp2;refine bodyPost_ret (zN rfl _ rfl F underlying91 rfl zsm) rfl ⟨by rw[a0.out];rfl,by rw[a0.out];rfl,C⟩
 obtain⟨k,a,rfl,S,R⟩:∃(k:Nat) (a:Ar),du=(k:Int)/\Xo (N.ars[k]? =Xa a)/\Xo (inZ a n=Xc):=by
  rcases au with⟨k,a,bg,dd,de⟩|⟨bg,_⟩
  ·exact⟨k,a,bg,dd,de⟩
  omega
 have aq:=dD<|(J6.1 ((zpu (JO a9)).ar N (mG ak)).1).2;have a8:=dD<|zfK aq S.out;obtain⟨h,rfl⟩:∃h:Nat,n=(h:Int):=⟨n.toNat,by have af:=zbU.1 R.out;have a2:=a8.out;unfold jN at a2;omega⟩
 have j:h<64:=by have af:=zbU.1 R.out;have a2:=a8.out;unfold jN at a2;omega
 obtain⟨e,Q⟩:=kA (ze N h);have ax:Xo (ZK m (Y:Int) (h:Int)=ZM m (qg a h) e):=dD<|by rw[ab.out,zeV ak j,za9 aq S (by rw[<-zir];exact R),Q.out]
 have ar:Xo (∀W B,zb w W->Zw plK W B (ZH m.ca)->Xp prog 204 #[Xi #[ao.x,I6 m.hand,ap.x,u.x,v.x,r.x,s.x,t.x,I6 m.cnt,q.x,O i d l,.map (Xa B)],Xi #[I6 a.fr,I6 a.tz,Xh a.rd,Xh a.wr,Xh a.sh,I6 a.file,I6 a.base],I6 (h:Int),Xi #[I6 e.kind,I6 e.n,Xh e.wr]] W fun a6 w'=>a6= Xl (zhA (ZM m (qg a h) e))/\(ZM m (qg a h) e).1.length=8/\zb W w'):=dD<|fun W B U L=>bw.out W B a h e U a8 (zbU.1 R) (by rw[<-Q.out];exact(zpB a9 ak j).1) (by rw[<-Q.out];exact(zpB a9 ak j).2) L
 have bo:Xo (∀W,zb w W->Xp prog 69 #[Xi #[x.t0.x,x.t1.x,x.t2.x,x.t3.x,x.t4.x,x.t5.x,x.t6.x,x.t7.x],I6 (h:Int)] W fun a6 w'=>a6= Xl (Xi #[I6 e.kind,I6 e.n,Xh e.wr])/\zb W w'):=dD<|fun W U=>by
  have:=QK x.tab N.tb (h:Int) W (P.grew U).tb;rw[zfw j,Q.out]at this;exact this
 have ed:k<x.ar.n:=by rw[P.ar.n];exact(gS.1 S).1
 have ee:(k:Int)< (x.ar.n:Int):=by omega
 obtain⟨b,bv,g⟩:∃b,Xo (x.ar.a=Xa b)/\Xo (∀W,zb w W->ziZ W (b.add (k*7)) a):=by
  obtain⟨_,_,bg,dd⟩:=P.ar.ars;simp only[vJ]at bg;obtain⟨b,de,ep⟩:=dd k a S.out;exact⟨b,by rw[bg.1];exact de,ep⟩
 obtain⟨c0,aw⟩:=kA (ZM m (qg a h) e);have bp:Xo (c0.1.length=8):=dD<|by rw[<-aw.out];exact bt _ _
 rw[aw.out]at ax ar;clear bf;go_upto_region 10 with fail;obtain⟨A,c⟩:∃A:Xn->Prop,Xo (∀an,A an↔zb dj an):=⟨fun an=>zb dj an,fun _=>Iff.rfl⟩
 have ag:=(c _).2 (gW _)
 have cr:=D.h c 0 rfl
 have cs:=D.h c 1 rfl
 have ct:=D.h c 2 rfl
 have cu:=D.h c 3 rfl
 have cv:=D.h c 4 rfl
 have cw:=D.h c 5 rfl
 have cx:=D.h c 6 rfl
 have cy:=D.h c 7 rfl
 have cz:=D.h c 8 rfl
 have da:=D.h c 9 rfl
 have bd:=D.h c 10 rfl
 have cj:=T.h c 2 rfl
 have ck:=T.h c 3 rfl
 have cl:=T.h c 4 rfl
 have cm:=T.h c 5 rfl
 have cn:=T.h c 6 rfl
 have co:=T.h c 7 rfl
 have cp:=T.h c 8 rfl
 have cq:=T.h c 9 rfl
 have ci:∀y:zk A,y.world.cell? ⟨eo,1,Xb⟩=Xa (O (Xa b) x.ar.n x.ar.c):=fun y=>by rw[<-bv.out];exact(T.grew ((c _).1 y.holds)).c 1 rfl
 have c5:∀y:zk A,y.world.cell? (b.add (k*7))=Xa (I6 a.fr):=fun y=>(g _ (z.trans ((c _).1 y.holds))).1
 have c6:∀y:zk A,y.world.cell? { block:=(b.add (k*7)).block,off:=(b.add (k*7)).off+1 }=Xa (I6 a.tz):=fun y=>(g _ (z.trans ((c _).1 y.holds))).2.1
 have c7:∀y:zk A,y.world.cell? { block:=(b.add (k*7)).block,off:=(b.add (k*7)).off+2 }=Xa (Xh a.rd):=fun y=>(g _ (z.trans ((c _).1 y.holds))).2.2.1
 have c8:∀y:zk A,y.world.cell? { block:=(b.add (k*7)).block,off:=(b.add (k*7)).off+3 }=Xa (Xh a.wr):=fun y=>(g _ (z.trans ((c _).1 y.holds))).2.2.2.1
 have c9:∀y:zk A,y.world.cell? { block:=(b.add (k*7)).block,off:=(b.add (k*7)).off+4 }=Xa (Xh a.sh):=fun y=>(g _ (z.trans ((c _).1 y.holds))).2.2.2.2.1
 have ca:∀y:zk A,y.world.cell? { block:=(b.add (k*7)).block,off:=(b.add (k*7)).off+5 }=Xa (I6 a.file):=fun y=>(g _ (z.trans ((c _).1 y.holds))).2.2.2.2.2.1
 have cb:∀y:zk A,y.world.cell? { block:=(b.add (k*7)).block,off:=(b.add (k*7)).off+6 }=Xa (I6 a.base):=fun y=>(g _ (z.trans ((c _).1 y.holds))).2.2.2.2.2.2
 have cf:Nonempty (zk A):=⟨⟨_,ag⟩⟩;refine jU (I:=A) 16 [(1,⟨fun a7=>∃B,a7= Xi #[ao.x,I6 m.hand,ap.x,u.x,v.x,r.x,s.x,t.x,I6 m.cnt,q.x,O i d l,.map (Xa B)],fun a7 an=>∃B,a7= Xi #[ao.x,I6 m.hand,ap.x,u.x,v.x,r.x,s.x,t.x,I6 m.cnt,q.x,O i d l,.map (Xa B)]/\Zw plK an B (ZH m.ca),fun p aj=>zb p aj,fun _=>True⟩),(11,⟨fun a7=>a7= Xi #[I6 e.kind,I6 e.n,Xh e.wr],fun _ _=>True,fun p aj=>zb p aj,fun _=>True⟩),(12,⟨fun a7=>a7=zhA c0,fun _ _=>True,fun p aj=>zb p aj,fun _=>True⟩)] ag zZ (by kernel_rfl) rfl rfl (by decide) ?hS ?hp ?hpre ?hpr0 ?_
 case hS=>
  intro x am;simp only[mC,nM,or_false]at am
  rcases am with rfl|rfl|rfl
  ·exact⟨_,0,rfl⟩
  ·exact⟨_,rfl⟩
  exact⟨_,rfl⟩
 case hp=>
  intro k N ef dr b9 bm b8 dp a7 p aj ai cg;have K:=z9 b9;have H:=z9 bm;clear b9 bm;simp only[mC,pJ,nM,or_false]at K H
  rcases K with⟨rfl,rfl⟩|⟨rfl,rfl⟩|⟨rfl,rfl⟩
  ·obtain⟨B,af,a2⟩:=cg
   rcases H with⟨rfl,rfl⟩|⟨rfl,rfl⟩|⟨rfl,rfl⟩
   ·exact absurd rfl b8
   ·exact⟨B,af,a2.grew ai⟩
   exact⟨B,af,a2.grew ai⟩
  ·trivial
  trivial
 case hpre=>
  intro ef dr k N bm b9 b8 p aj ai ah;have H:=z9 bm;simp only[mC,pJ,nM,or_false]at H
  rcases H with⟨rfl,rfl⟩|⟨rfl,rfl⟩|⟨rfl,rfl⟩ <;> trivial
 case hpr0=>
  intro k dr b9;have K:=z9 b9;simp only[mC,pJ,nM,or_false]at K
  rcases K with⟨rfl,rfl⟩|⟨rfl,rfl⟩|⟨rfl,rfl⟩ <;> trivial
 simp only[Yb,Yc];refine qI ?_
 refine j5 rfl rfl (fun w' f ah b3=>?_) (fun ds bb=>?_)
 ·refine zR.call [Xi #[ao.x,I6 m.hand,ap.x,u.x,v.x,r.x,s.x,t.x,I6 m.cnt,q.x,O i d l]] rfl func70 rfl rfl rfl ?_;refine(ay w' (z.trans ((c _).1 f))).mono ?_;rintro e bh ⟨B,rfl,L,a1⟩;exact⟨_,rfl,(c _).2 (((c _).1 f).trans a1),a1,⟨B,rfl⟩,B,rfl,L⟩
 obtain⟨B,rfl⟩:=bb;simp only[Xs,sB,sS,sZ];iterate 9 refine qI ?_
 refine j5 rfl rfl (fun w' f ah b3=>?_) (fun ds bb=>?_)
 ·refine zR.call [Xi #[x.t0.x,x.t1.x,x.t2.x,x.t3.x,x.t4.x,x.t5.x,x.t6.x,x.t7.x],I6 (h:Int)] rfl func69 rfl rfl rfl ?_;refine(bo w' (z.trans ((c _).1 f))).mono ?_;rintro e bh ⟨rfl,a1⟩;exact⟨_,rfl,(c _).2 (((c _).1 f).trans a1),a1,rfl,trivial⟩
 subst bb;simp only[Xs,sB,sS,sZ];refine j5 rfl rfl (fun w' f ah b3=>?_) (fun ds bb=>?_)
 ·obtain⟨f2,b6,cc⟩:=b3 1 (by kernel_rfl)
  simp only[Value.agg.injEq,Array.mk.injEq,List.cons.injEq,Value.map.injEq,Option.some.injEq,and_true,true_and]at b6;subst b6;refine zR.call [Xi #[ao.x,I6 m.hand,ap.x,u.x,v.x,r.x,s.x,t.x,I6 m.cnt,q.x,O i d l,.map (Xa B)],Xi #[I6 a.fr,I6 a.tz,Xh a.rd,Xh a.wr,Xh a.sh,I6 a.file,I6 a.base],I6 (h:Int),Xi #[I6 e.kind,I6 e.n,Xh e.wr]] rfl func204 rfl rfl rfl ?_;refine(ar w' B (z.trans ((c _).1 f)) cc).mono ?_;rintro e bh ⟨rfl,f5,a1⟩;exact⟨_,rfl,(c _).2 (((c _).1 f).trans a1),a1,rfl,trivial⟩
 obtain⟨eq,f6,f7⟩:=c0;have ce:=bp.out;obtain⟨eg,eh,ei,ej,ek,el,em,en,ch⟩:=zfh eq ce;subst ch;subst bb;simp only[zhA,pgc,mP,Ya];simp only[Xs,sB,sS,sZ];iterate 3 refine qI ?_
 refine zad fun f3 b4 b3=>?_
 have c3:=(c _).1 b4;have dv:=dD (z.trans c3);have e0:=dD (dn.grew c3);have a0:=ax;clear b3 b4 ag cf c3 cr cs ct cu cv cw cx cy cz da bd ci cj ck cl cm cn co cp cq c5 c6 c7 c8 c9 ca cb;refine zz rfl 91 (.tmp 6) (.tmp 50) rfl (w.heap.size+1) rfl (pgc [eg,eh,ei,ej,ek,el,em,en]) rfl e0 rfl zsm (ju _) ?_;intro az F G _;have C:Xo (zb w az):=show zb _ _ from zd dv G (by omega)
 go_wp2;refine bodyPost_ret (zN rfl _ rfl F underlying91 rfl zsm) rfl ⟨by rw[a0.out];rfl,by rw[a0.out];rfl,C⟩
end
end Go.Proofs.YtmfckdkcmbncdaaGreat
