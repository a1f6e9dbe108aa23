import Derived.Test.YtacihbmelcegbaaGreatPE5
namespace Go.Proofs.YtacihbmelcegbaaGreat
open Go.Value renaming slice→O,int→Xe,bool→Xh,agg→Xi,pointer→Xj,tuple→Xm
open Go.IntKind renaming i64→Xf,u8→Xg
open Go.Obj renaming cells→Xk
open Go.Ending renaming returned→Xl
open Go renaming World→Xo,Calls→Xq,Value→Xr
open Go.RowKit renaming Hid→Xp
open Option renaming some→Xa,none→Xb
open Bool renaming true→Xc,false→Xd
open List renaming replicate→Xs
open _root_.Nat renaming le_of_ble_eq_true→Xt,le_succ→Yi,sub_self→Yj
open Go.Sem renaming run_pure→Xu,run_bind→Xw
open _root_.List renaming getElem?_append_left→Xv,getElem?_of_mem→Xx,mem_cons_of_mem→Xy,mem_range→Xz,mem_cons_self→Ya,pairwise_iff_getElem→Yb,getElem?_map→Yc,ext_getElem?→Yd,getElem?_cons_succ→Ye,set_append_right→Yg,getElem?_modify→Yh,mem_map→Yk
open Go.Act renaming put→Yf
set_option maxRecDepth 100000
set_option maxHeartbeats 4000000
variable{Q:Exit->Act->Xo->Prop} {V:MaV} {W w0:Xo} {b fi ix j:Nat} {l:List Ar} {m:Ma} {o:Oper} {ops:Array Oper} {vs:List Xr} {z:Int}
open Go.Proofs.Tryz
section
open Go.RowKit
theorem zQ.storeAllT {a:Act} {w:Xo} {K:Xr->Xo->Prop} (ty:TypeId) (p x:Operand) (ho:o.op= .store ty p x) (b:Nat) (hp:a.eval p= Xj (Xa ⟨b,0,Xb⟩)) (vs:List Xr) (hx:a.eval x= Xi vs.toArray)
  {t:TypeId} {cs:List Xr} (hb:zt w b t cs) (hl:vs.length=cs.length) (hi:(Tryz.prog.info? ty).map (·.size)=Xa cs.length) (h1:∀v∈vs,v.oneCell'=Xc)
  (h:∀w',zt w' b t vs->w.grownBy w' (Xa b)->w'.heap.size=w.heap.size->K undef w'):zQ prog o a w K:=by
 unfold zQ;have hr:(execOp a.eval o).run prog w= .ok .skip (w.setCells b 0 vs):=by
  have:=run_storeAt_mid (P:=prog) w b 0 ty vs.toArray (by simpa [hl]using hb.box.there) (by simpa [hl]using hi) (all_oneCell_toArray h1)
  simp only[execOp,ho,hp,hx,Xw,this,rA,Xu]
 rw[hr];have hp:=hb.part (ds:=vs) (o:=0) (by omega)
 rw[Jw hl]at hp;exact h _ hp (zT b vs 0 w).1 (zT b vs 0 w).2
theorem zfB (h1:∀p∈m.db,p.length=8) (h2:∀q∈m.dq,q.2.length=8) (file idx:Int):(Jn m file idx).length=8:=by
 unfold Jn
 split
 ·rfl
 simp[Qr,zjD h1 h2]
theorem zmn {f:Fl} {bk:Int} (hf:m.fl[fi]? =Xa f) (hbk:f.bl[ix]? =Xa bk):Jn m fi ix=if bk<0 then zx else Qr (jt m.db m.dq bk) ix f.size:=by
 have hg:m.fl.getD ((fi:Int).toNat) ⟨0,[]⟩=f:=by rw[tN,gD,hf];rfl
 have e1:zfS m fi ix=bk:=by unfold zfS;rw[hg,tN,gD,hbk];rfl
 have e2:zcR m fi=f.size:=by unfold zcR;rw[hg]
 unfold Jn;rw[e1,e2]
theorem zng {fl:List Fl} {f:Fl} {bk:Int} (hf:fl[fi]? =Xa f) (hbk:f.bl[ix]? =Xa bk):zmJ fl fi ix=Xc:=by
 have h1:=(gS.1 hf).1;have h2:=(gS.1 hbk).1;have hg:fl.getD ((fi:Int).toNat) ⟨0,[]⟩=f:=by rw[tN,gD,hf];rfl
 unfold zmJ;rw[hg,Jq.2 ⟨by omega,by omega⟩,Jq.2 ⟨by omega,by omega⟩]
 rfl
theorem zgf (V:MaV) (m:Ma) (fi ix:Nat) (f:Fl) (bk:Int) (w:Xo) (hm:zN w V m) (hf:m.fl[fi]? =Xa f) (hbk:f.bl[ix]? =Xa bk) (hix:ix<=1000) (hsz:0<=f.size/\f.size<=1000):
  Xq prog 173 #[Xi (mL V m).toArray,I6 (fi:Int),I6 (ix:Int)] w fun e w'=>e= Xl (Xi (pgc (Jn m fi ix)).toArray)/\(Jn m fi ix).length=8/\zc w w':=by
 have HRD:Xp (∀W,zc w W->Xq prog 134 #[Xi #[V.db.x,V.dq.x],I6 bk] W fun e w'=>e= Xl (Xm #[Xi (pgc (jt m.db m.dq bk)).toArray,I6 (zo m.db.length m.dq bk)])/\zc W w'):=dD<|fun W hW=>zlo _ m.db m.dq bk W ⟨_,_,rfl,(hm.grew hW).db,(hm.grew hW).dq⟩
 have HHP:Xp (∀W,zc w W->Xq prog 136 #[Xi #[V.fl.x,I6 m.cnt],I6 (fi:Int),I6 (ix:Int)] W fun e w'=>e= Xl (Xh Xc)/\zc W w'):=dD<|fun W hW=>by
  have:=zcn (V.fl.x) m.fl m.cnt fi ix W (hm.grew hW).fl;rw[zng hf hbk]at this;exact this
 have HRL:Xp ((jt m.db m.dq bk).length=8):=zjD hm.db.2.1 hm.dq.2.1;have HD8:Xp ((Jn m fi ix).length=8):=zfB hm.db.2.1 hm.dq.2.1 _ _;have HDL:Xp (Jn m fi ix=if bk<0 then zx else Qr (jt m.db m.dq bk) ix f.size):=zmn hf hbk;obtain⟨C,HC⟩:=kA (Jn m fi ix);rw[HC.out]at HDL HD8⊢;obtain⟨⟨fa,fn,fc⟩,vs,vsb,vsq,vdb,vdq,⟨fla,fln,flc⟩,⟨caa,can,cac⟩,vsp⟩:=V;dsimp only[mL]at HRD HHP⊢;obtain⟨-,-,-,-,-,-,n7,-,-⟩:=hm.ns;dsimp only at n7;obtain⟨_,_,hfe,_,hfr⟩:=qh.rows hm.fl;have HFL:Xp (Qv w fla m.fl):=show Qv _ _ _ by
  simp only[vJ]at hfe;rw[hfe.1];exact hfr
 have hfn:fi<fln:=by rw[n7];exact(gS.1 hf).1
 obtain⟨ad,rfl,ba,bc,hbr,hfl⟩:=HFL.out fi f hf;have HBL:Xp (∀W,zc w W->zac W (ad.add (fi*2)) f.size (O ba f.bl.length bc)):=dD<|hfl
 obtain⟨_,_,hbe,hbn⟩:=hbr.nums;have hbl:ix<f.bl.length:=(gS.1 hbk).1;obtain⟨ad2,had2,hb2⟩:=hbn ix bk hbk;have HB2:Xp (ba=Xa ad2/\∀W,zc w W->W.cell? (ad2.add ix)=Xa (I6 bk)):=dD<|⟨by simp only[vJ]at hbe;rw[hbe.1];exact had2,hb2⟩
 obtain⟨bn,HBN⟩:=kA f.bl.length;rw[HBN.out]at hbl HBL;clear hm n7 hfe hfr hf hbk hfl hbr hbe hbn had2 hb2;obtain⟨z,HZ⟩:=kA f.size;rw[HZ.out]at HBL HDL hsz;have hfz:(fi:Int)< (fln:Int):=by omega
 have hbz:(ix:Int)< (bn:Int):=by omega
 obtain⟨W0,hW0⟩:=kB ((w.alloc (Xk #[O fa fn fc,I6 m.hand,vs.x,vsb.x,vsq.x,vdb.x,vdq.x,O (Xa ad) fln flc,I6 m.cnt,O caa can cac,vsp.x] 41)).alloc (Xk #[U8 0,U8 0,U8 0,U8 0,U8 0,U8 0,U8 0,U8 0] 44));have G0:=gD2 hW0
 have X0:=x2a hW0
 have Y0:Xp (Box W0 (w.heap.size+1) (pgc zx)):=dD<|by rw[<-hW0];exact Box.top _ (pgc zx) _ (by simp)
 have HW0:Xp (_=W0):=hW0;clear hW0
 go_enter func173,ntmps173
 go_upto_region 1 with fail;rw[HW0.out];have x7:=X0.c 7 rfl;have x8:=X0.c 8 rfl;have hc:=HHP.out W0 G0.out;go_wp2_with fail;refine hc.mono ?_;clear hc x7 x8;rintro r W1 ⟨rfl,g1⟩;have G1:=dD (G0.trans g1);have X1:=dD (X0.grew g1);have Y1:=dD (Y0.grew g1);clear g1;have x7:=X1.c 7 rfl;obtain⟨d0,d1⟩:=HBL.out W1 G1.out;go_upto_region 4 with fail;obtain⟨pf,HPF⟩:=kA W1.heap.size;obtain⟨W2,hW2⟩:=kB (W1.alloc (Xk #[I6 z,O ba bn bc] 84));have g2:=gP hW2
 have F2:=xP hW2 HPF
 have G2:=dD (G1.trans g2);have X2:=dD (X1.grew g2);have Y2:=dD (Y1.grew g2);rw[hW2,HPF.out];clear hW2 g2 d0 d1 x7;obtain⟨hba,hb2⟩:=HB2.out;subst hba;have HB3:Xp (∀W,zc w W->W.cell? (ad2.add ix)=Xa (I6 bk)):=show∀W,_ from hb2
 clear hb2;have f1:=F2.c 1 rfl;have e0:=HB3.out W2 G2.out
 by_cases hb:bk<0
 ·rw[kE hb]at HDL
  go_wp2_with (refine zK rfl 44 (.tmp 6) (.tmp 29) rfl (w.heap.size+1) rfl (pgc zx) rfl Y2 rfl zoI (Zr _) ?_)
  intro WL hbL hgL _;have HGL:Xp (zc w WL):=dD<|ze G2 hgL (by omega)
  go_wp2;refine bodyPost_ret (zZ rfl _ rfl hbL underlying44 rfl zoI) rfl ⟨by rw[HDL.out],by rw[HDL.out];rfl,HGL⟩
 rw[kF hb]at HDL;have hbd:decide (bk<0)=Xd:=decide_eq_false hb;go_upto_region 6 with fail;clear f1 e0 hb hbd;obtain⟨p,HP⟩:=kA (jt m.db m.dq bk);rw[HP.out]at HDL HRL HRD;obtain⟨p0,p1,p2,p3,p4,p5,p6,p7,rfl⟩:=zdZ p HRL.out;obtain⟨I,HI⟩:∃I:Xo->Prop,Xp (∀u,I u↔zc W2 u):=⟨fun u=>zc W2 u,fun _=>Iff.rfl⟩
 have hI0:I W2.drew:=(HI _).2 (gW _)
 have hx5:=X2.h HI 5 rfl
 have hx6:=X2.h HI 6 rfl
 have hf1:=F2.h HI 1 rfl
 have he0:∀y:zj I,y.world.cell? (ad2.add ix)=Xa (I6 bk):=fun y=>HB3.out _ (G2.trans ((HI _).1 y.holds))
 have hne:Nonempty (zj I):=⟨⟨_,hI0⟩⟩;refine zeG (I:=I) 14 [(7,⟨.const (Xh Xd),fun v=>v= Xm #[Xi #[U8 p0,U8 p1,U8 p2,U8 p3,U8 p4,U8 p5,U8 p6,U8 p7],I6 (zo m.db.length m.dq bk)],fun _ _ _=>True,fun p q=>zc p q,fun _=>True⟩),(11,⟨.const (Xh Xd),fun v=>∃g,v= Xj (Xa ⟨g,0,Xb⟩),fun _ v u=>∃g cs,v= Xj (Xa ⟨g,0,Xb⟩)/\W2.heap.size<=g/\zt u g 44 cs/\cs.length=8,fun p q=>zc p q,fun _=>True⟩),(12,⟨.tmp 8,fun _=>True,fun r _ u=>∃g,r= Xj (Xa ⟨g,0,Xb⟩)/\W2.heap.size<=g/\Box u g (pgc [p0,p1,p2,p3,p4,p5,p6,p7]),fun p q=>∃g,W2.heap.size<=g/\p.grownBy q (Xa g)/\zt q g 44 (pgc [p0,p1,p2,p3,p4,p5,p6,p7]),fun _=>True⟩)] hI0 zW (by kernel_rfl) (by kernel_rfl) rfl rfl (by decide) ?hS ?hp ?hpre ?hpr0 ?_
 case hS=>
  intro x hx;simp only[mC,nM,or_false]at hx
  rcases hx with rfl|rfl|rfl
  ·exact⟨_,rfl⟩
  ·exact⟨_,0,rfl⟩
  exact⟨Xh Xc,trivial⟩
 case hp=>
  intro k s j t hk hj hjk hanc r v p q hst hpo;have hk':=zS hk;have hj':=zS hj;clear hk hj;simp only[mC,pJ,nM,or_false]at hk' hj'
  rcases hk' with⟨rfl,rfl⟩|⟨rfl,rfl⟩|⟨rfl,rfl⟩
  ·trivial
  ·obtain⟨g,cs,h1,h2,h3,h4⟩:=hpo
   rcases hj' with⟨rfl,rfl⟩|⟨rfl,rfl⟩|⟨rfl,rfl⟩
   ·exact⟨g,cs,h1,h2,h3.grew hst,h4⟩
   ·exact absurd rfl hjk
   obtain⟨g',q1,q2,q3⟩:=hst
   by_cases e:g=g'
   ·subst e;exact⟨g,_,h1,h2,q3,rfl⟩
   exact⟨g,cs,h1,h2,h3.beside q2 (fun k hk=>by cases hk;exact e),h4⟩
  obtain⟨g,h1,h2,h3⟩:=hpo
  rcases hj' with⟨rfl,rfl⟩|⟨rfl,rfl⟩|⟨rfl,rfl⟩
  ·exact⟨g,h1,h2,h3.grew hst⟩
  ·exact⟨g,h1,h2,h3.grew hst⟩
  exact absurd rfl hjk
 case hpre=>
  intro j t k s hj hk hjk p q hst hpr;have hj':=zS hj;simp only[mC,pJ,nM,or_false]at hj'
  rcases hj' with⟨rfl,rfl⟩|⟨rfl,rfl⟩|⟨rfl,rfl⟩ <;> trivial
 case hpr0=>
  intro k t hk;have hk':=zS hk;simp only[mC,pJ,nM,or_false]at hk'
  rcases hk' with⟨rfl,rfl⟩|⟨rfl,rfl⟩|⟨rfl,rfl⟩ <;> trivial
 simp only[List.take,List.drop];iterate 7 (refine JC rfl rfl rfl (fun K hK=>?_);go_big_quiet_op;refine hK _ ?_;clear hK)
 refine Jc rfl rfl (fun w' hI' hpr hF=>?_) (fun v1 hv=>?_)
 ·refine zQ.call [Xi #[vdb.x,vdq.x],I6 bk] rfl func134 rfl rfl rfl ?_;refine(HRD w' (G2.trans ((HI _).1 hI'))).mono ?_;rintro e w'' ⟨rfl,gg⟩;exact⟨_,rfl,(HI _).2 (((HI _).1 hI').trans gg),gg,rfl,trivial⟩
 subst hv;simp only[Yf,sB,sS,sZ];iterate 3 (refine JC rfl rfl rfl (fun K hK=>?_);go_big_quiet_op;refine hK _ ?_;clear hK)
 refine Jc rfl rfl (fun w' hI' hpr hF=>?_) (fun v1 hv=>?_)
 ·refine zQ.step (v:= Xj (Xa ⟨w'.heap.size,0,Xb⟩)) (w':=w'.alloc (Xk #[U8 0,U8 0,U8 0,U8 0,U8 0,U8 0,U8 0,U8 0] 44)) (by clear hx5 hx6 hf1 he0;simp only[execOp];go_simp) ⟨(HI _).2 (((HI _).1 hI').trans (za _ _)),za _ _,⟨_,rfl⟩,_,_,rfl,bS ((HI _).1 hI'),zt.top _ (pgc zx) _ rfl,rfl⟩
 obtain⟨pg,rfl⟩:=hv;simp only[Yf,sB,sS,sZ];refine Jc rfl rfl (fun w' hI' hpr hF=>?_) (fun v1 hv=>?_)
 ·obtain⟨g,cs,hg1,hg2,hg3,hg4⟩:=hF 11 (by kernel_rfl)
  simp only[Value.pointer.injEq,Option.some.injEq,Addr.mk.injEq,and_true]at hg1;subst hg1;refine zQ.storeAllT 44 (.tmp 8) (.tmp 39) rfl pg rfl (pgc [p0,p1,p2,p3,p4,p5,p6,p7]) rfl hg3 (by rw[hg4];rfl) (by rw[hg4];exact zoI) (Zr _) fun w'' b1 b2 b3=>?_
  exact⟨(HI _).2 (ze ((HI _).1 hI') b2 hg2),⟨pg,hg2,b2,b1⟩,trivial,pg,rfl,hg2,b1.box⟩
 simp only[Yf];iterate 1 (refine JC rfl rfl rfl (fun K hK=>?_);go_big_quiet_op;refine hK _ ?_;clear hK)
 refine zd2 fun W4 hI4 hF=>?_
 obtain⟨g',hg1,hg3,hg2⟩:=hF 12;have hg1':(Value.pointer (Xa ⟨pg,0,Xb⟩):Xr)= Xj (Xa ⟨g',0,Xb⟩):=hg1;simp only[Value.pointer.injEq,Option.some.injEq,Addr.mk.injEq,and_true]at hg1';subst hg1';have g4:=(HI _).1 hI4;have G4:=dD (G2.trans g4);have F4:=dD (F2.grew g4);have Y4:=dD (Y2.grew g4);have P4:Xp (Box W4 pg (pgc [p0,p1,p2,p3,p4,p5,p6,p7])):=hg2;clear hF hI4 hI0 hne hx5 hx6 hf1 he0 g4 hg1 hg2 hg3;have hcut:=zb4 [p0,p1,p2,p3,p4,p5,p6,p7] (z -(ix:Int)*8) W4 rfl (by omega) (by omega)
 rw[zkI]at hcut;rw[<-HDL.out]at hcut;have f0:=F4.c 0 rfl
 go_wp2_with (refine zR rfl 44 (.tmp 8) rfl pg rfl P4 underlying44 rfl zoI ?_)
 refine hcut.mono ?_;clear hcut f0;rintro r W5 ⟨rfl,-,g5⟩;have Y5:=dD (Y4.grew g5);have G5:=dD (G4.trans g5);clear g5
 go_wp2_with (refine zK rfl 44 (.tmp 6) (.tmp 47) rfl (w.heap.size+1) rfl (pgc C) rfl Y5 (by rw[Zs,HD8.out];rfl) zoI (Zr _) ?_)
 intro WL hbL hgL _;have HGL:Xp (zc w WL):=dD<|ze G5 hgL (by omega)
 go_wp2;refine bodyPost_ret (zZ rfl _ rfl hbL underlying44 rfl (by rw[Zs,HD8.out];exact zoI)) rfl ⟨rfl,HD8,HGL⟩
theorem zdD (a:Fr) (w:Xo) (h0:frW a=0):Xq prog 183 #[Xi (frv a).toArray] w fun e w'=>e= Xl (I6 0)/\zc w w':=by
 obtain⟨⟨b0,b1,b2,b3,b4,b5,b6,b7⟩,r,u,d,f,x⟩:=a
 show Xq prog 183 #[Xi #[U8 b0,U8 b1,U8 b2,U8 b3,U8 b4,U8 b5,U8 b6,U8 b7,I6 r,Xh u,Xh d,I6 f,I6 x]] w _
 cases hb1:inB r 1001 with
 | false=>simp[frW,hb1]at h0
 | true=>
 cases hb2:inB x 12 with
 | false=>simp[frW,hb1,hb2]at h0
 | true=>
 by_cases hf:f=-1
 ·have hfe:(f == -1)=Xc:=by simp[hf]
  have hfn:(f != -1)=Xd:=by simp[hf]
  by_cases hr:r=0
  ·have hre:(r == 0)=Xc:=by simp[hr]
   cases hfr:zaF (⟨⟨b0,b1,b2,b3,b4,b5,b6,b7⟩,r,u,d,f,x⟩:Fr) frF with
   | false=>simp[frW,hb1,hb2,hfe,hre,hfr]at h0
   | true=>
    have hx:x=0:=by have:=zen hfr;simp only[frF,Fr.mk.injEq]at this;exact this.2.2.2.2.2
    exact wf7 _ _ _ _ _ _ _ _ _ _ _ _ _ w hb1 hb2 hfn hfe hre hfr (by simp[hx])
  have hre:(r == 0)=Xd:=by simp[hr]
  by_cases hx:x=0
  ·exact wf9 _ _ _ _ _ _ _ _ _ _ _ _ _ w hb1 hb2 hfn hfe hre (by simp[hx])
  have hxe:(x == 0)=Xd:=by simp[hx]
  simp[frW,hb1,hb2,hfe,hre,hxe]at h0
 have hfe:(f == -1)=Xd:=by simp[hf]
 have hfn:(f != -1)=Xc:=by simp[hf]
 cases hb3:inB f 5 with
 | false=>simp[frW,hb1,hb2,hfe,hb3]at h0
 | true=>
  by_cases hr:r=0
  ·have hre:(r == 0)=Xc:=by simp[hr]
   have hfr:zaF (⟨⟨b0,b1,b2,b3,b4,b5,b6,b7⟩,r,u,d,f,x⟩:Fr) frF=Xd:=by
    refine zl8 fun h=>?_
    simp only[frF,Fr.mk.injEq]at h;exact hf h.2.2.2.2.1
   simp[frW,hb1,hb2,hfe,hb3,hre,hfr]at h0
  have hre:(r == 0)=Xd:=by simp[hr]
  exact wf5 _ _ _ _ _ _ _ _ _ _ _ _ _ w hb1 hb2 hfn hfe hb3 hre
theorem zkl:∀{fs:List Fr},zfp fs=0->∀f∈fs,frW f=0
 | [],_,_,hf=>by cases hf
 | g :: fs,h,f,hf=>by
  unfold zfp at h
  by_cases hg:frW g=0
  ·rw[kE hg]at h
   rcases mC.1 hf with rfl|hf
   ·exact hg
   exact zkl h f hf
  rw[kF hg]at h;exact absurd h hg
theorem Qx (a:Option Addr) (c:Nat) (fs:List Fr) (h:Int) (w:Xo) (hv:qf w (O a fs.length c) fs) (h0:ZR fs h=0):
  Xq prog 152 #[Xi #[O a fs.length c,I6 h]] w fun e w'=>e= Xl (I6 0)/\zc w w':=by
 have hbig:=hv.short;obtain⟨a',c',heq,hrow⟩:=hv.frs;cases heq;have HR:Xp (zaM w a fs):=hrow;clear hrow hv;have hm:ZR fs h=if 40<fs.length then 4 else if zfp fs=0 then(if inB h (max fs.length 1)then 0 else 3)else zfp fs:=rfl;rw[h0]at hm;obtain⟨n,HN⟩:=kA fs.length;rw[HN.out]at hbig hm⊢;have h40:¬40<n:=fun e=>by rw[kE e]at hm;cases hm
 rw[kF h40]at hm;have HF:Xp (∀f∈fs,frW f=0):=dD<|zkl (Decidable.byContradiction fun e=>e (by rw[kF e]at hm;exact hm.symm))
 have hz:zfp fs=0:=Decidable.byContradiction fun e=>e (by rw[kF e]at hm;exact hm.symm)
 rw[kE hz]at hm;have hin:inB h (max n 1)=Xc:=by
  cases e:inB h (max n 1)with
  | true=>rfl
  | false=>rw[e]at hm;cases hm
 clear hm hz h0;have h40z:¬(40:Int)< (n:Int):=by omega
 have HBE:Xp (∀W,Xq prog 179 #[I6 h,I6 (max (n:Int) 1)] W fun e w'=>e= Xl (Xh Xc)/\w'=W):=dD<|fun W=>by
  have k:=Ze h (max (n:Int) 1) W;rw[show inB h (max (n:Int) 1)=inB h (max n 1) by simp,hin]at k
  exact k
 clear hin;obtain⟨W0,hW0⟩:=kB (w.alloc (Xk #[O a n c,I6 h] 28));have HG0:=gA hW0
 have X0:=xA hW0
 have HW0:Xp (_=W0):=hW0;clear hW0 h40
 go_enter func152,ntmps152
 go_wp2;rw[HW0.out]
 go_loopg [13] n (fun gg s13 wr=>∃kk:Nat,kk<=n/\n - kk<=gg/\s13=I6 kk/\Xp (zc W0 wr))
 case atStart=>exact⟨0,nZ _,by omega,rfl,zc.refl _⟩
 obtain⟨kk,hkk,hg,rfl,BW⟩:=hrel
 by_cases hlt:kk<n
 ·have hltz:=kC hlt
  obtain⟨q,HQ⟩:∃q,Xp (fs[kk]? =Xa q):=⟨_,gE (by rw[HN.out];exact hlt)⟩
  obtain⟨ad,rfl,hl⟩:=HR.out kk q HQ.out;obtain⟨d0,d1,d2,d3,d4,d5,d6,d7,d8,d9,d10,d11,d12⟩:=hl wr (HG0.trans BW);have hcall:=fun W=>zdD q W (HF q (mG HQ))
  clear hl
  go_wp2_with (go_at_call 183;refine(hcall _).mono ?_;rintro e w' ⟨rfl,hb'⟩)
  go_roundg (n -(kk+1))
  case measure=>omega
  exact⟨kk+1,by omega,by omega,by go_num,(BW.trans (za _ _)).trans hb'⟩
 have hltz:=kD hlt
 have:kk=n:=by omega
 subst this;have e0:=(X0.grew BW).c 0 rfl;have e1:=(X0.grew BW).c 1 rfl;have hbel:=HBE.out
 go_wp2_with (go_at_call 179;refine(hbel _).mono ?_;rintro e w' ⟨rfl,rfl⟩)
 go_ret;exact⟨rfl,HG0.trans BW⟩
theorem znY (V:MaV) (m:Ma) (w:Xo) (hm:zN w V m) (h0:maW m=0) (k:Nat) (f:Nat) (hf:chk[k]? =Xa f):
  Xq prog f #[Xi (mL V m).toArray] w fun e w'=>e= Xl (I6 0)/\zc w w':=by
 have hz:∀e∈znr m,e=0:=zF.1 (by rw[<-h0,zm8];rfl)
 have z0:zu (Zq m)=0:=hz _ (by simp[znr])
 have z1:zu (Qz m)=0:=hz _ (by simp[znr])
 have z2:Zp m=0:=hz _ (by simp[znr])
 have z3:zc7 m=0:=hz _ (by simp[znr])
 have z4:zba m=0:=hz _ (by simp[znr])
 have z5:QA m=0:=hz _ (by simp[znr])
 have r1:zfW m:=znN.1 z0
 match k,hf with
 | 0,hf=>
  cases hf;have k:=zdB V m w hm fun W hW=>by
   obtain⟨n1,-⟩:=hm.ns;have h:=(hm.grew hW).fs;(try simp only[Sli.x]at h⊢);rw[n1]at h⊢;have hw:ZR m.fs m.hand=0:=zF.1 z0 _ (by simp[Zq])
   rw[hw];exact Qx _ _ m.fs m.hand W h hw
  rw[z0]at k;exact k
 | 1,hf=>cases hf;rw[<-z1];exact zcT V m w hm r1
 | 2,hf=>cases hf;rw[<-z2];exact zbK V m w hm
 | 3,hf=>cases hf;rw[<-z3];exact zcU V m w hm r1
 | 4,hf=>cases hf;rw[<-z4];exact zbL V m w hm r1 (zjC z2)
 | 5,hf=>cases hf;rw[<-z5];exact zbN V m w hm z3 (zeI z2) (fun s hs=>(zjC z2 s hs).2)
 | k+6,hf=>simp[chk]at hf
theorem zag (V:MaV) (m:Ma) (w:Xo) (hm:zN w V m) (h0:maW m=0):
  Xq prog 72 #[Xi (mL V m).toArray] w fun e w'=>e= Xl (I6 0)/\zc w w':=by
 have HCK:Xp (∀W,zc w W->∀(k f:Nat),chk[k]? =Xa f->Xq prog f #[Xi (mL V m).toArray] W fun e w'=>e= Xl (I6 0)/\zc W w'):=dD<|fun W hW k f hf=>znY V m W (hm.grew hW) h0 k f hf
 clear hm h0;obtain⟨W0,hW0⟩:=kB ((w.alloc (Xk (mL V m).toArray 41)).alloc (Xk #[.func (.func 111) #[] #[],.func (.func 112) #[] #[],.func (.func 113) #[] #[],.func (.func 114) #[] #[],.func (.func 115) #[] #[],.func (.func 116) #[] #[]] 51));have HG0:=gD2 hW0
 have X0:=x2a hW0
 have Y0:Xp (Box W0 (w.heap.size+1) (chk.map fnV)):=dD<|by rw[<-hW0];exact Box.top _ (chk.map fnV) _ (by simp)
 have HW0:Xp (_=W0):=hW0;clear hW0
 go_enter func72,ntmps72
 go_upto_region 2 with fail;rw[HW0.out];go_wp2
 go_loopg [10] 6 (fun gg s10 wr=>∃kk:Nat,kk<=6/\6 - kk<=gg/\s10=I6 kk/\Xp (zc W0 wr))
 case atStart=>exact⟨0,nZ _,by omega,rfl,zc.refl _⟩
 obtain⟨kk,hkk,hgg,rfl,BW⟩:=hrel;have HG:=dD (HG0.trans BW)
 by_cases hlt:kk<6
 ·have hltz:(kk:Int)<6:=by omega
  obtain⟨f,HF⟩:∃f,Xp (chk[kk]? =Xa f):=⟨_,gE (by simp[chk];exact hlt)⟩
  have y0:wr.cell? ⟨w.heap.size+1,kk,Xb⟩=Xa (.func (.func f) #[] #[]):=(Y0.grew BW).c kk (by rw[Yc,HF.out];rfl)
  have eg:=ziT kk f HF.out;have hcall:=HCK.out wr HG kk f HF.out;have XW:=dD (X0.grew BW);obtain⟨x0,x1,x2,x3,x4,x5,x6,x7,x8,x9,x10⟩:=XW.c11;go_wp2_with fail;refine hcall.mono ?_;clear hcall x0 x1 x2 x3 x4 x5 x6 x7 x8 x9 x10 y0;rintro e' W2 ⟨rfl,hg2⟩;have BW2:=dD (BW.trans hg2);clear hg2 eg;go_wp2
  go_roundg (6 -(kk+1))
  case measure=>omega
  exact⟨kk+1,by omega,by omega,by go_num,BW2⟩
 have hltz:¬(kk:Int)<6:=by omega
 go_wp2;go_ret;exact⟨rfl,HG⟩
theorem ChW.done {w:Xo} {p g:Nat} (h:ChW w0 p w V m) (g2:w.grownBy W (Xa g)) (hg:g<w0.heap.size):zN W V m:=by
 have o:qW (Dr w0.heap.size p V) w W:=qW.grown g2 (.inl hg);have r:=h.rest W o;obtain⟨xs,s1,s2,s3⟩:=h.sp;have far:∀{α:Type} {E:Elt α} {v:Xr} {l:List α},zb E w0.heap.size w v l->zm E W v l:=fun hr=>(hr.grown g2 (fun k hk e=>by cases e;have:=(hr.lt _ hk).1;omega)).at
 exact⟨far h.fs,r.sl,r.sb,r.sq,r.db,r.dq,r.fl,far h.ca,⟨xs,far s1,s2,fun i x s hx hs=>s3 i x s hx hs W o⟩⟩
theorem zdr (V:MaV) (m:Ma) (w:Xo) (hm:zN w V m) (h0:maW m=0) (R:Bool->Ma->Prop) (hR:∀w0 W p V1,ChW w0 p W V1 m->Xq prog 73 #[Xj (Xa ⟨p,0,Xb⟩),eS] W fun e w'=>∃bo m',e= Xl (Xh bo)/\R bo m'/\Chg w0 p W V1 m' w'):
  Xq prog 28 #[Xi (mL V m).toArray] w fun e w'=>(∃(bo:Bool) (m':Ma) (V':MaV),R bo m'/\e= Xl (Xm #[Xi (mL V' m').toArray,Xh bo,I6 0])/\zN w' V' m')/\zc w w':=by
 obtain⟨W1,hW1⟩:=kB ((w.alloc (Xk (mL V m).toArray 41)).alloc (Xk zM.toArray 41));have G1:=gD2 hW1
 obtain⟨b,HB⟩:=kA w.heap.size;have X1:Xp (zt W1 b 41 (mL V m)):=dD<|by rw[<-hW1];exact(zt.top w (mL V m) _ HB.symm).grew (za _ _)
 have Z1:Xp (zt W1 (b+1) 41 qy):=dD<|by rw[<-hW1];exact zt.top _ qy _ (by have:=HB.out;simp;omega)
 have A1:Xp (zN W1 V m):=hm.grew G1.out;have HW1:Xp (_=W1):=hW1;have hwr:=zag V m W1 A1 h0;clear hW1 hm h0;have HR:Xp (∀w0 W p V1,ChW w0 p W V1 m->Xq prog 73 #[Xj (Xa ⟨p,0,Xb⟩),eS] W fun e w'=>∃bo m',e= Xl (Xh bo)/\R bo m'/\Chg w0 p W V1 m' w'):=show∀w0,_ from hR
 clear hR
 go_enter func28,ntmps28
 go_upto_region 1 with fail;rw[HW1.out,HB.out];obtain⟨x0,x1,x2,x3,x4,x5,x6,x7,x8,x9,x10⟩:=X1.box.c11;go_wp2_with fail;refine hwr.mono ?_;clear hwr x0 x1 x2 x3 x4 x5 x6 x7 x8 x9 x10;rintro e W2 ⟨rfl,g2⟩;have X2:=dD (X1.grew g2);have Z2:=dD (Z1.grew g2);have A2:=dD (A1.grew g2);have G2:=dD (G1.trans g2);clear g2;have hof:=zhF V m W2 A2.out;obtain⟨x0,x1,x2,x3,x4,x5,x6,x7,x8,x9,x10⟩:=X2.box.c11;go_wp2_with fail;refine hof.mono ?_;clear hof x0 x1 x2 x3 x4 x5 x6 x7 x8 x9 x10;rintro e W3 ⟨p,V1,rfl,hc⟩;have C3:Xp (ChW W2 p W3 V1 m):=hc;have HBL:Xp (b+1<W2.heap.size):=Z2.box.lt;have Z3:Xp (zt W3 (b+1) 41 qy):=Z2.grew hc.gr;clear hc;have hff:=HR.out W2 W3 p V1 C3.out;go_wp2_with fail;refine hff.mono ?_;clear hff;rintro e W5 ⟨bo,m5,rfl,hr5,V5,c5,o5,d5⟩;have C5:Xp (ChW W2 p W5 V5 m5):=c5;have HR5:Xp (R bo m5):=hr5;have Z5:Xp (zt W5 (b+1) 41 qy):=Z3.outD o5 (fun e=>by have:=C3.dlo _ e;have:=HBL.out;omega)
 clear c5 o5 d5 hr5;obtain⟨r0,r1,r2,r3,r4,r5,r6,r7,r8,r9,r10⟩:=C5.box.box.c11;have HZL:Xp (∀v∈chL V5 m5,v.oneCell'=Xc):=dD<|by simp[chL,Value.oneCell']
 go_wp2_with (refine qO rfl 41 (.tmp 2) (.tmp 21) rfl (b+1) rfl (chL V5 m5) rfl Z5 rfl (by kernel_rfl) HZL.out ?_)
 clear r0 r1 r2 r3 r4 r5 r6 r7 r8 r9 r10;intro W6 bx gr6 _;have G6:Xp (zc w W6):=dD<|ze (G2.trans C5.gr) gr6 (by have:=HB.out;omega)
 have B6:Xp (zt W6 (b+1) 41 (chL V5 m5)):=bx;have HF:Xp (zN W6 V5 m5):=C5.done gr6 HBL.out;clear bx gr6;go_wp2;refine bodyPost_ret (zan rfl _ rfl B6.box underlying41 rfl (by kernel_rfl)) rfl ⟨⟨bo,m5,V5,HR5,rfl,HF⟩,G6⟩
theorem ziR (V:MaV) (m:Ma) (w:Xo) (hm:zN w V m) (h0:maW m=0) (hc:m.ca=[]):
  Xq prog 30 #[Xi (mL V m).toArray] w fun e w'=>(∃V':MaV,e= Xl (Xm #[Xi (mL V' m).toArray,Xh Xd,I6 0])/\zN w' V' m)/\zc w w':=by
 obtain⟨W1,hW1⟩:=kB ((w.alloc (Xk (mL V m).toArray 41)).alloc (Xk zM.toArray 41));have G1:=gD2 hW1
 obtain⟨b,HB⟩:=kA w.heap.size;have X1:Xp (zt W1 b 41 (mL V m)):=dD<|by rw[<-hW1];exact(zt.top w (mL V m) _ HB.symm).grew (za _ _)
 have Z1:Xp (zt W1 (b+1) 41 qy):=dD<|by rw[<-hW1];exact zt.top _ qy _ (by have:=HB.out;simp;omega)
 have A1:Xp (zN W1 V m):=hm.grew G1.out;have HW1:Xp (_=W1):=hW1;have hwr:=zag V m W1 A1 h0;clear hW1 hm h0;have HCA:Xp (m.ca.length=0):=show _=_ by rw[hc];rfl
 clear hc
 go_enter func30,ntmps30
 go_upto_region 1 with fail;rw[HW1.out,HB.out];obtain⟨x0,x1,x2,x3,x4,x5,x6,x7,x8,x9,x10⟩:=X1.box.c11;go_wp2_with fail;refine hwr.mono ?_;clear hwr x0 x1 x2 x3 x4 x5 x6 x7 x8 x9 x10;rintro e W2 ⟨rfl,g2⟩;have X2:=dD (X1.grew g2);have Z2:=dD (Z1.grew g2);have A2:=dD (A1.grew g2);have G2:=dD (G1.trans g2);clear g2;have hof:=zhF V m W2 A2.out;obtain⟨x0,x1,x2,x3,x4,x5,x6,x7,x8,x9,x10⟩:=X2.box.c11;go_wp2_with fail;refine hof.mono ?_;clear hof x0 x1 x2 x3 x4 x5 x6 x7 x8 x9 x10;rintro e W3 ⟨p,V1,rfl,hc⟩;have C3:Xp (ChW W2 p W3 V1 m):=hc;have HBL:Xp (b+1<W2.heap.size):=Z2.box.lt;have Z3:Xp (zt W3 (b+1) 41 qy):=Z2.grew hc.gr;clear hc;obtain⟨-,-,-,-,-,-,-,n8,-⟩:=C3.at.ns;have x9:=C3.box.box.c 9 rfl;simp only[Sli.x]at x9;rw[n8,HCA.out]at x9;clear n8;go_wp2;clear x9
 go_loopg [23] 1 (fun gg s23 wr=>s23=I6 0/\0<gg/\wr=W3)
 case atStart=>exact⟨rfl,by omega,rfl⟩
 obtain⟨rfl,hgg,rfl⟩:=hrel;have Z5:Xp (zt wr (b+1) 41 qy):=Z3;obtain⟨r0,r1,r2,r3,r4,r5,r6,r7,r8,r9,r10⟩:=C3.box.box.c11;have HZL:Xp (∀v∈chL V1 m,v.oneCell'=Xc):=show∀v∈chL V1 m,_ by simp[chL,Value.oneCell']
 go_wp2_with (refine qO rfl 41 (.tmp 2) (.tmp 52) rfl (b+1) rfl (chL V1 m) rfl Z5 rfl (by kernel_rfl) HZL.out ?_)
 clear r0 r1 r2 r3 r4 r5 r6 r7 r8 r9 r10;intro W6 bx gr6 _;have G6:Xp (zc w W6):=dD<|ze (G2.trans C3.gr) gr6 (by have:=HB.out;omega)
 have B6:Xp (zt W6 (b+1) 41 (chL V1 m)):=bx;have HF:Xp (zN W6 V1 m):=C3.done gr6 HBL.out;clear bx gr6;go_wp2;refine bodyPost_ret (zan rfl _ rfl B6.box underlying41 rfl (by kernel_rfl)) rfl ⟨⟨V1,rfl,HF⟩,G6⟩
theorem zjt (V:MaV) (m:Ma) (file:Int) (w:Xo) (hm:zN w V m) (h0:maW m=0) (hf:file<0\/(m.fl.length:Int)<=file):
  Xq prog 31 #[Xi (mL V m).toArray,I6 file] w fun e w'=>e= Xl (Xm #[Xi qy.toArray,I6 5])/\zc w w':=by
 obtain⟨W1,hW1⟩:=kB ((w.alloc (Xk (mL V m).toArray 41)).alloc (Xk zM.toArray 41));have G1:=gD2 hW1
 obtain⟨b,HB⟩:=kA w.heap.size;have X1:Xp (zt W1 b 41 (mL V m)):=dD<|by rw[<-hW1];exact(zt.top w (mL V m) _ HB.symm).grew (za _ _)
 have Z1:Xp (zt W1 (b+1) 41 qy):=dD<|by rw[<-hW1];exact zt.top _ qy _ (by have:=HB.out;simp;omega)
 have A1:Xp (zN W1 V m):=hm.grew G1.out;have HW1:Xp (_=W1):=hW1;have hwr:=zag V m W1 A1 h0;clear hW1 hm h0;have HFI:Xp (file<0\/(m.fl.length:Int)<=file):=show _\/_ from hf
 clear hf
 go_enter func31,ntmps31
 go_upto_region 1 with fail;rw[HW1.out,HB.out];obtain⟨x0,x1,x2,x3,x4,x5,x6,x7,x8,x9,x10⟩:=X1.box.c11;go_wp2_with fail;refine hwr.mono ?_;clear hwr x0 x1 x2 x3 x4 x5 x6 x7 x8 x9 x10;rintro e W2 ⟨rfl,g2⟩;have X2:=dD (X1.grew g2);have Z2:=dD (Z1.grew g2);have A2:=dD (A1.grew g2);have G2:=dD (G1.trans g2);clear g2;obtain⟨-,-,-,-,-,-,n7,-⟩:=A2.ns;have x7:=X2.box.c 7 rfl;simp only[Sli.x]at x7;rw[n7]at x7;clear n7;obtain⟨fn,HFN⟩:=kA m.fl.length;rw[HFN.out]at x7 HFI
 by_cases h1:file<0
 ·have h1d:decide (file<0)=Xc:=by simpa using h1
  go_wp2_with (refine qO rfl 41 (.tmp 4) (.tmp 26) rfl (b+1) rfl qy rfl Z2 rfl (by kernel_rfl) (by simp[qy,Value.oneCell']) ?_)
  intro W6 bx gr6 _;have G6:Xp (zc w W6):=dD<|ze G2 gr6 (by have:=HB.out;omega)
  have B6:Xp (zt W6 (b+1) 41 qy):=bx;clear bx gr6 x7;go_wp2;refine bodyPost_ret (jj rfl _ rfl B6.box underlying41 rfl (by kernel_rfl)) rfl ⟨rfl,G6⟩
 have h1d:decide (file<0)=Xd:=by simpa using h1
 have h2:(fn:Int)<=file:=by have:=HFI.out;omega
 have h2d:decide ((fn:Int)<=file)=Xc:=by simpa using h2
 go_wp2_with (refine qO rfl 41 (.tmp 4) (.tmp 26) rfl (b+1) rfl qy rfl Z2 rfl (by kernel_rfl) (by simp[qy,Value.oneCell']) ?_)
 intro W6 bx gr6 _;have G6:Xp (zc w W6):=dD<|ze G2 gr6 (by have:=HB.out;omega)
 have B6:Xp (zt W6 (b+1) 41 qy):=bx;clear bx gr6 x7;go_wp2;refine bodyPost_ret (jj rfl _ rfl B6.box underlying41 rfl (by kernel_rfl)) rfl ⟨rfl,G6⟩
def frU (q:Fr):Fr:={ q with u:=false }
def zht (q:Fr):Bool:=decide (0<q.r) && !q.u
theorem zkX {w:Xo} (h:Below b w W) {a:Addr} (ha:b<=a.block) (u:Xr):Below b w (W.setCell a u):=Below.setCell h ha u
theorem zls (B g n cv i base b0:Nat) (fs:List Fr) (q:Fr) (W:Xo) (hn:fs.length=n) (h40:n<=40) (hq:fs[i]? =Xa q) (hB:Box W B [O (Xa ⟨g,0,Xb⟩) n cv,I6 (i:Int)]) (ow:zh base W (O (Xa ⟨g,0,Xb⟩) n cv) fs) (hBg:B≠g) (h1:b0<=B) (h2:b0<=g):
  Xq prog 163 #[Xj (Xa ⟨B,0,Xb⟩)] W fun e W'=>e= Xl (Xm #[I6 (i:Int),Xh (zht q)])/\Box W' B [O (Xa ⟨g,0,Xb⟩) n cv,I6 (((i+1) % n:Nat):Int)]/\zh base W' (O (Xa ⟨g,0,Xb⟩) n cv) (fs.set i (frU q))/\Below b0 W W':=by
 have OW:Xp (zh base W (O (Xa ⟨g,0,Xb⟩) n cv) fs):=ow;have HB:Xp (Box W B [O (Xa ⟨g,0,Xb⟩) n cv,I6 (i:Int)]):=hB;have HQ:Xp (fs[i]? =Xa q):=hq;have hil:i<n:=by rw[<-hn];exact(gS.1 hq).1
 have HN:Xp (fs.length=n):=hn;clear ow hB hq hn;have hiz:(i:Int)< (n:Int):=by omega
 have hn0:(0:Int)< (n:Int):=by omega
 have hnn:¬(n:Int)=0:=by omega
 have hmod:(((i:Int)+1) %(n:Int))=(((i+1) % n:Nat):Int):=by simp
 have HMOD:Xp (((i:Int)+1) %(n:Int)=(((i+1) % n:Nat):Int)):=hmod;clear hmod;have hgB:g≠B:=Ne.symm hBg;have e0:=HB.c 0 rfl;have e1:=HB.c 1 rfl;have ef:=HB.f;have eB:=HB.lt;have hgl:=(OW.lt g rfl).2;have u8:=OW.frc HQ 8 rfl;have u9:=OW.frc HQ 9 rfl
 go_enter func163,ntmps163
 go_upto_region 3 with fail;obtain⟨W1,hW1⟩:=kB (W.setCell ⟨B,1,Xb⟩ (I6 (((i:Int)+1) %(n:Int))));rw[hW1];have HB1:Xp (Box W1 B [O (Xa ⟨g,0,Xb⟩) n cv,I6 (((i:Int)+1) %(n:Int))]):=dD<|by rw[<-hW1];exact HB.set 1 _
 have OW1:Xp (zh base W1 (O (Xa ⟨g,0,Xb⟩) n cv) fs):=dD<|by rw[<-hW1];exact OW.setOther (fun g' hg'=>by cases hg';exact hBg) _
 have BL1:Xp (Below b0 W W1):=dD<|by rw[<-hW1];exact zkX (bR _ _) h1 _
 clear hW1 e0 e1 ef eB u8 u9;have e0:=HB1.c 0 rfl;have u8:=OW1.frc HQ 8 rfl;have u9:=OW1.frc HQ 9 rfl;have HI:Xp (zht q=(decide (0<q.r) && !q.u)):=rfl;obtain⟨r,HRR⟩:=kA q.r;obtain⟨u,HUU⟩:=kA q.u;rw[HRR.out]at u8 HI;rw[HUU.out]at u9 HI
 by_cases hr:0<r
 ·cases u with
  | true=>
   have HF:Xp (zht q=Xd):=dD<|by rw[HI.out];simp[hr]
   skip
   go_wp2_with (refine qu rfl (.tmp 32) (.const (Xh Xd)) 4 rfl base (O (Xa ⟨g,0,Xb⟩) n cv) fs OW1 g i 9 rfl q (frU q) HQ.out [Xh Xd] (by kernel_rfl) rfl (Xt rfl) (by intro u hu;simp at hu;subst hu;rfl) _ rfl (by simp) _ rfl rfl ?_)
   intro W2 ow2 gr2 _;have OW2:Xp (zh base W2 (O (Xa ⟨g,0,Xb⟩) n cv) (fs.set i (frU q))):=ow2;have HB2:Xp (Box W2 B [O (Xa ⟨g,0,Xb⟩) n cv,I6 (((i:Int)+1) %(n:Int))]):=HB1.beside gr2 (fun g' hg'=>by cases hg';exact hBg)
   have BL2:Xp (Below b0 W W2):=Below.grown BL1 gr2 (by have:=bS BL1.out;omega) (fun g' hg'=>by cases hg';exact h2)
   clear ow2 gr2 u8 u9 e0;go_wp2
   go_ret2
   exact⟨by rw[HF.out];rfl,by rw[<-HMOD.out];exact HB2,OW2,BL2⟩
  | false=>
   have HF:Xp (zht q=Xc):=dD<|by rw[HI.out];simp[hr]
   skip
   go_wp2_with (refine qu rfl (.tmp 32) (.const (Xh Xd)) 4 rfl base (O (Xa ⟨g,0,Xb⟩) n cv) fs OW1 g i 9 rfl q (frU q) HQ.out [Xh Xd] (by kernel_rfl) rfl (Xt rfl) (by intro u hu;simp at hu;subst hu;rfl) _ rfl (by simp) _ rfl rfl ?_)
   intro W2 ow2 gr2 _;have OW2:Xp (zh base W2 (O (Xa ⟨g,0,Xb⟩) n cv) (fs.set i (frU q))):=ow2;have HB2:Xp (Box W2 B [O (Xa ⟨g,0,Xb⟩) n cv,I6 (((i:Int)+1) %(n:Int))]):=HB1.beside gr2 (fun g' hg'=>by cases hg';exact hBg)
   have BL2:Xp (Below b0 W W2):=Below.grown BL1 gr2 (by have:=bS BL1.out;omega) (fun g' hg'=>by cases hg';exact h2)
   clear ow2 gr2 u8 u9 e0;go_wp2
   go_ret2
   exact⟨by rw[HF.out];rfl,by rw[<-HMOD.out];exact HB2,OW2,BL2⟩
 
 have HF:Xp (zht q=Xd):=dD<|by rw[HI.out];simp[hr]
 skip
 go_wp2_with (refine qu rfl (.tmp 32) (.const (Xh Xd)) 4 rfl base (O (Xa ⟨g,0,Xb⟩) n cv) fs OW1 g i 9 rfl q (frU q) HQ.out [Xh Xd] (by kernel_rfl) rfl (Xt rfl) (by intro u hu;simp at hu;subst hu;rfl) _ rfl (by simp) _ rfl rfl ?_)
 intro W2 ow2 gr2 _;have OW2:Xp (zh base W2 (O (Xa ⟨g,0,Xb⟩) n cv) (fs.set i (frU q))):=ow2;have HB2:Xp (Box W2 B [O (Xa ⟨g,0,Xb⟩) n cv,I6 (((i:Int)+1) %(n:Int))]):=HB1.beside gr2 (fun g' hg'=>by cases hg';exact hBg)
 have BL2:Xp (Below b0 W W2):=Below.grown BL1 gr2 (by have:=bS BL1.out;omega) (fun g' hg'=>by cases hg';exact h2)
 clear ow2 gr2 u8 u9 e0;go_wp2
 go_ret2
 exact⟨by rw[HF.out];rfl,by rw[<-HMOD.out];exact HB2,OW2,BL2⟩
def jC:Nat->List Fr->Nat->List Fr × Nat × Int
 | 0,fs,h=>(fs,h,-1)
 | m+1,fs,h=>if zht (fs.getD h fr0)then(fs.set h (frU (fs.getD h fr0)),(h+1) % fs.length,(h:Int))else jC m (fs.set h (frU (fs.getD h fr0))) ((h+1) % fs.length)
def QZ (fs:List Fr) (h:Int):List Fr × Nat × Int:=jC (2*fs.length) fs h.toNat
def zat (fs:List Fr) (h:Int):List Fr:=if ZR fs h=0 then(QZ fs h).1 else []
def zaU (fs:List Fr) (h:Int):Int:=if ZR fs h=0 then((QZ fs h).2.1:Int)else 0
def Qn (fs:List Fr) (h:Int):Int:=if ZR fs h=0 then(QZ fs h).2.2 else 0
theorem znQ (a:Option Addr) (c:Nat) (fs:List Fr) (i0:Nat) (w:Xo) (hv:qf w (O a fs.length c) fs) (hz:ZR fs (i0:Int)=0):
  Xq prog 117 #[Xi #[O a fs.length c,I6 (i0:Int)]] w fun e w'=>∃b,e= Xl (Xm #[Xi #[b,I6 ((jC (2*fs.length) fs i0).2.1:Int)],I6 (jC (2*fs.length) fs i0).2.2,I6 0])/\zh w.heap.size w' b (jC (2*fs.length) fs i0).1/\zc w w':=by
 have HV:Xp (qf w (O a fs.length c) fs):=hv;have hw:∀W,zc w W->Xq prog 152 #[Xi #[O a fs.length c,I6 (i0:Int)]] W fun e w'=>e= Xl (I6 (ZR fs (i0:Int)))/\zc W w':=fun W hW=>by rw[hz];exact Qx a c fs _ W (HV.grew hW) hz
 have ho:∀W,zc w W->Xq prog 58 #[Xi #[O a fs.length c,I6 (i0:Int)]] W fun e w'=>∃b,e= Xl (Xi #[b,I6 (i0:Int)])/\zh W.heap.size w' b fs/\zc W w':=fun W hW=>Jy a c fs _ W (HV.grew hW)
 obtain⟨h40,_,_,hhand⟩:=j2 hz;have eg:=enters_of func163 (by kernel_rfl) rfl
 clear hv;obtain⟨n,HN⟩:=kA fs.length;simp only[HN.out,hz]at hw HV ho h40 hhand⊢;clear hz;obtain⟨R,HRR⟩:=kA (jC (2*n) fs i0);rw[HRR.out];obtain⟨W0,hW0⟩:=kB ((w.alloc (Xk #[O a n c,I6 (i0:Int)] 28)).alloc (Xk #[eS,I6 0] 28));have HG0:=gD2 hW0
 have X0:=x2a hW0
 have X2:=x2b hW0
 have HW0:Xp (_=W0):=hW0;clear hW0
 go_enter func117,ntmps117
 go_upto_region 1 with fail;rw[HW0.out];have e0:=X0.c 0 rfl;have e1:=X0.c 1 rfl;go_wp2_with fail;refine(hw _ HG0).mono ?_;rintro e W1 ⟨rfl,g1⟩;have G1:Xp (zc W0 W1):=g1;clear g1 e0 e1 hw;have e0:=(X0.grew G1).c 0 rfl;have e1:=(X0.grew G1).c 1 rfl;go_wp2_with fail;refine(ho _ (HG0.trans G1)).mono ?_;rintro e W4 ⟨b,rfl,hown,g4⟩;obtain⟨av,cv,rfl⟩:=hown.form;rw[HN.out]at hown⊢;have OW:Xp (zh W1.heap.size W4 (O av n cv) fs):=hown;have G4:=dD (G1.trans g4);have g34:Xp (W1.heap.size<=W4.heap.size):=bS g4;have HX2:Xp (w.heap.size+1<W1.heap.size):=(X2.grew G1).lt;have HWW:Xp (w.heap.size<=W1.heap.size):=bS (HG0.trans G1);clear hown g4 e0 e1 ho;obtain⟨W5,hW5⟩:=kB (W4.alloc (Xk #[O av n cv,I6 (i0:Int)] 28));have XO:=xT hW5
 have OW5:Xp (zh W1.heap.size W5 (O av n cv) fs):=dD<|by rw[<-hW5];exact OW.grew (za _ _)
 have X25:Xp (Box W5 (w.heap.size+1) [eS,I6 0]):=dD<|by rw[<-hW5];exact(X2.grew G4).alloc _
 have G5:Xp (zc w W5):=dD<|by rw[<-hW5];exact(HG0.trans G4).trans (za _ _)
 have HW5:Xp (_=W5):=hW5;clear hW5;go_wp2;rw[HW5.out]
 go_loopg [8,9,23] (2*n) (fun gg _ _ s23 wr=>∃(kk hk:Nat) (fk:List Fr),kk<=2*n/\2*n - kk<=gg/\s23=I6 kk/\hk<max n 1/\Xp (fk.length=n)/\Xp (Box wr W4.heap.size [O av n cv,I6 (hk:Int)])/\Xp (zh W1.heap.size wr (O av n cv) fk)/\Xp (Below W1.heap.size W5 wr)/\Xp (jC (2*n - kk) fk hk=R))
 case atStart=>exact⟨0,i0,fs,nZ _,by omega,rfl,by omega,HN,XO.box,OW5,bR _ _,HRR⟩
 obtain⟨kk,hk,fk,hkk,hg,rfl,hhk,HL,BO,OF,BL,A⟩:=hrel;have hx2:=HX2.out;have hww:=HWW.out;have X2r:Xp (Box wr (w.heap.size+1) [eS,I6 0]):=X25.below BL hx2;have GW:Xp (zc w wr):=show zc w wr from Below.trans G5 (BL.mono hww)
 by_cases hlt:kk<2*n
 ·have hltz:(kk:Int)<2*(n:Int):=by omega
  obtain⟨g,cg,hs⟩:=OF.formS (by rw[HL.out];omega)
  rw[HL.out]at hs;cases hs;obtain⟨q,HQ⟩:∃q,Xp (fk[hk]? =Xa q):=⟨_,gE (by rw[HL.out];omega)⟩
  have hgl:=OF.lt g rfl;have HNE:Xp (W4.heap.size≠g):=(OW5.ne XO (by decide) g rfl)
  have hpass:=zls W4.heap.size g n cv hk W1.heap.size W1.heap.size fk q wr HL h40 HQ BO OF HNE g34.out hgl.1;have hgd:fk.getD hk fr0=q:=by rw[gD,HQ.out];rfl
  have HST:Xp (jC (2*n - kk) fk hk=if zht q then(fk.set hk (frU q),(hk+1) % n,(hk:Int))else jC (2*n -(kk+1)) (fk.set hk (frU q)) ((hk+1) % n)):=dD<|by
   rw[show 2*n - kk=(2*n -(kk+1))+1 by omega,jC,hgd,HL.out]
  clear hgd
  cases hi:zht q with
  | true=>
   rw[hi]at hpass;have HF:Xp (R=(fk.set hk (frU q),(hk+1) % n,(hk:Int))):=dD<|by rw[<-A.out,HST.out,hi,kE rfl]
   clear hi
   go_wp2_with (go_at_call 163;refine hpass.mono ?_;rintro e W6 ⟨rfl,b6,o6,l6⟩;have r0:=(X2r.below l6 hx2).c 0 rfl;have r1:=(X2r.below l6 hx2).c 1 rfl;have rf:=(X2r.below l6 hx2).f;have o0:=b6.c 0 rfl;have o1:=b6.c 1 rfl;have O6:Xp (zh W1.heap.size W6 (O (Xa ⟨g,0,Xb⟩) n cv) (fk.set hk (frU q))):=o6;have GW6:Xp (zc w W6):=show zc w W6 from Below.trans GW (l6.mono hww);clear o6 l6)
   refine bodyPost_ret (v:= Xm #[Xi #[O (Xa ⟨g,0,Xb⟩) n cv,I6 (((hk+1) % n:Nat):Int)],I6 (hk:Int),I6 0]) (by simp[results,Tryz.results117,go_sem, *]) rfl ⟨O (Xa ⟨g,0,Xb⟩) n cv,?_,?_,?_⟩
   ·rw[HF.out]
   ·rw[HF.out];exact((O6.setCell (a:=⟨w.heap.size+1,0,Xb⟩) (by show w.heap.size+1<_;omega) _).setCell (a:=⟨w.heap.size+1,1,Xb⟩) (by show w.heap.size+1<_;omega) _).base hww
   exact zz (zz GW6 (by simp) _) (by simp) _
  | false=>
   rw[hi]at hpass;have HA:Xp (jC (2*n -(kk+1)) (fk.set hk (frU q)) ((hk+1) % n)=R):=dD<|by rw[<-A.out,HST.out,hi];rfl
   clear hi
   go_wp2_with (go_at_call 163;refine hpass.mono ?_;rintro e W6 ⟨rfl,b6,o6,l6⟩;have B6:Xp (Box W6 W4.heap.size [O (Xa ⟨g,0,Xb⟩) n cv,I6 (((hk+1) % n:Nat):Int)]):=b6;have O6:Xp (zh W1.heap.size W6 (O (Xa ⟨g,0,Xb⟩) n cv) (fk.set hk (frU q))):=o6;have L6:Xp (Below W1.heap.size W5 W6):=Below.trans BL l6;clear b6 o6 l6)
   go_roundg (2*n -(kk+1))
   case measure=>omega
   exact⟨kk+1,(hk+1) % n,fk.set hk (frU q),by omega,by omega,by go_num,(by have:=Nat.mod_lt (hk+1) (show 0<n by omega);omega),(show(fk.set hk (frU q)).length=n by rw[List.length_set];exact HL),B6,O6,L6,HA⟩
 have hltz:¬(kk:Int)<2*(n:Int):=by omega
 have:kk=2*n:=by omega
 subst this;have HF:Xp (R=(fk,hk,-1)):=dD<|by rw[<-A.out,Yj];rfl
 have r0:=X2r.c 0 rfl;have r1:=X2r.c 1 rfl;have rf:=X2r.f;have o0:=BO.c 0 rfl;have o1:=BO.c 1 rfl;go_wp2;refine bodyPost_ret (v:= Xm #[Xi #[O av n cv,I6 (hk:Int)],I6 (-1),I6 0]) (by simp[results,Tryz.results117,go_sem, *]) rfl ⟨O av n cv,?_,?_,?_⟩
 ·rw[HF.out]
 ·rw[HF.out];exact((OF.setCell (a:=⟨w.heap.size+1,0,Xb⟩) (by show w.heap.size+1<_;omega) _).setCell (a:=⟨w.heap.size+1,1,Xb⟩) (by show w.heap.size+1<_;omega) _).base hww
 exact zz (zz GW (by simp) _) (by simp) _
theorem zlB (a:Option Addr) (c:Nat) (fs:List Fr) (h:Int) (w:Xo) (hv:qf w (O a fs.length c) fs) (hz:ZR fs h=0):
  Xq prog 117 #[Xi #[O a fs.length c,I6 h]] w fun e w'=>∃b,e= Xl (Xm #[Xi #[b,I6 (zaU fs h)],I6 (Qn fs h),I6 (ZR fs h)])/\zh w.heap.size w' b (zat fs h)/\zc w w':=by
 unfold zaU Qn zat QZ;rw[kE hz,kE hz,kE hz];obtain⟨i0,rfl⟩:=Int.eq_ofNat_of_zero_le (j2 hz).2.2.1;rw[tN,hz];exact znQ a c fs i0 w hv hz
def jd (m:Ma):Ma:={ m with fs:=zat m.fs m.hand,hand:=zaU m.fs m.hand }
theorem zmN {w:Xo} {p:Nat} (h:ChW w0 p w V m) (hz:ZR m.fs m.hand=0):
  Xq prog 117 #[Xi #[V.f.x,I6 m.hand]] w fun e w'=>∃b:Sli,e= Xl (Xm #[Xi #[b.x,I6 (zaU m.fs m.hand)],I6 (Qn m.fs m.hand),I6 0])/\zb Qj w.heap.size w' (b.x) (zat m.fs m.hand)/\zc w w':=by
 obtain⟨n1,-⟩:=h.at.ns;have k:=h.at.fs;(try simp only[Sli.x]at k⊢);rw[n1]at k⊢;refine(zlB V.f.a V.f.c m.fs m.hand w k hz).mono ?_;rintro e w' ⟨b,rfl,nr,g⟩;have nr':zb Qj w.heap.size w' b (zat m.fs m.hand):=nr;obtain⟨a,c,rfl⟩:=nr'.form;rw[hz];exact⟨⟨a,_,c⟩,rfl,nr,g⟩
theorem zgJ {w:Xo} {p:Nat} (h:ChW w0 p w V m) (hz:ZR m.fs m.hand=0) (hi:Qn m.fs m.hand=-1) (hl:0<m.fs.length) (hl2:m.fs.length<=40) (mv:Xr):
  Xq prog 73 #[Xj (Xa ⟨p,0,Xb⟩),mv] w fun e w'=>e= Xl (Xh Xd)/\Chg w0 p w V (jd m) w':=by
 have HM:Xp (ChW w0 p w V m):=h;obtain⟨n1,-⟩:=h.at.ns;have hn:0<V.f.n:=by omega
 have hn2:V.f.n<=40:=by omega
 have x0:=h.box.box.c 0 rfl;have x1:=h.box.box.c 1 rfl;have hnx:=zmN h hz;rw[hi]at hnx;clear h hz hi hl hl2 n1;obtain⟨fn,HFN⟩:=kA V.f.n;simp only[Sli.x]at x0 hnx;rw[HFN.out]at x0 hn hn2 hnx;have hnz:(0:Int)<2*(fn:Int):=by omega
 go_enter func73,ntmps73
 go_wp2
 go_loopg [14] 1 (fun gg s14 wr=>s14=I6 0/\0<gg/\wr=w)
 case atStart=>exact⟨rfl,by omega,rfl⟩
 obtain⟨rfl,hgg,rfl⟩:=hrel;go_wp2_with fail;refine hnx.mono ?_;clear hnx x0 x1;rintro e W1 ⟨b,rfl,nr,g1⟩;have B1:=dD (HM.box.grew g1);have HNR:Xp (zb Qj wr.heap.size W1 (b.x) (zat m.fs m.hand)):=nr;have G1:Xp (zc wr W1):=g1;clear nr g1
 go_upto_region 5 with(refine ZF rfl 28 (.tmp 29) (.tmp 24) rfl p 0 rfl (Xi #[b.x,I6 (zaU m.fs m.hand)]) rfl [b.x,I6 (zaU m.fs m.hand)] rfl B1 (by simp[chL]) (by kernel_rfl) (by simp[Value.oneCell']) ?_)
 intro W2 bx gr2 _;have M2:Xp (Chg w0 p wr V (jd m) W2):=dD<|HM.setF G1 HNR gr2 bx
 clear bx gr2;try simp only[Yf]
 go_wp2;go_ret;exact⟨rfl,M2⟩
def zoe (B:Nat) (V:MaV):Prop:=(jn B V.f.v/\jn B V.s.v/\jn B V.sb.v/\jn B V.sq.v)/\(jn B V.db.v/\jn B V.dq.v/\jn B V.fl.v/\jn B V.ca.v/\jn B V.sp.v)
theorem jn.less {a:Nat} {v:Xr} (h:jn b v) (k:a<=b):jn a v:=fun x n c e=>nT k (h x n c e)
theorem zlF (cf cs cb:Int) (hfew:zmL cf cs cb) (w:Xo):
  Xq prog 77 #[Xi #[I6 cf,I6 cs,I6 cb]] w fun e w'=>(∃V:MaV,e= Xl (Xm #[Xi #[V.f.x,I6 0,V.s.x,V.sb.x,V.sq.x,V.db.x,V.dq.x,V.fl.x,I6 cb,V.ca.x,V.sp.x],I6 0])/\zN w' V (zaV cf cs cb)/\zoe w.heap.size V/\∃ps,V.sp=⟨Xa ⟨ps,0,Xb⟩,1,1⟩)/\zc w w':=by
 obtain⟨W0,hW0⟩:=kB ((w.alloc (Xk #[I6 cf,I6 cs,I6 cb] 23)).alloc (Xk zM.toArray 41));have HG0:=gD2 hW0
 have X0:=x2a hW0
 have Y0:=x2b hW0
 have HW0:Xp (_=W0):=hW0;clear hW0;obtain⟨e1,HE1⟩:∃e,Xp (zif cf=e):=⟨_,rfl⟩;obtain⟨e2,HE2⟩:∃e,Xp (zib cs=e):=⟨_,rfl⟩;obtain⟨e3,HE3⟩:∃e,Xp (QT cs=e):=⟨_,rfl⟩;obtain⟨e4,HE4⟩:∃e,Xp (QT cb=e):=⟨_,rfl⟩;obtain⟨e5,HE5⟩:∃e:Int,Xp ((if 0<=cb/\cb<=80 then(0:Int)else 4)=e):=⟨_,rfl⟩;obtain⟨z5,HZ5⟩:∃e:Int,Xp ((if 0<=cb/\cb<=80 then cb else 0)=e):=⟨_,rfl⟩;have h1:=fun W=>zie cf W
 have h2:=fun W=>zlE cs W
 have h3:=fun W=>zfb cs W
 have h4:=fun W=>zfb cb W
 have h5:=fun W=>zjR cb W
 rw[HE1.out]at h1;rw[HE2.out]at h2;rw[HE3.out]at h3;rw[HE4.out]at h4;rw[HE5.out,HZ5.out]at h5;have HES:Xp (zlG cf cs cb=[e1,e2,e3,e4,e5]):=dD<|by unfold zlG;rw[HE1.out,HE2.out,HE3.out,HE4.out,HE5.out]
 have H1:Xp (∀W,_):=h1;have H2:Xp (∀W,_):=h2;have H3:Xp (∀W,_):=h3;have H4:Xp (∀W,_):=h4;have H5:Xp (∀W,_):=h5;clear h1 h2 h3 h4 h5
 go_enter func77,ntmps77
 go_upto_region 1 with fail;rw[HW0.out];have x0:=X0.c 0 rfl;go_wp2_with fail;refine(H1 _).mono ?_;rintro e W1 ⟨mf,rfl,⟨r1,f1⟩,g1⟩;clear x0;have R1:Xp (zm Qj W1 (mf.x) (zjT cf)):=r1;have HG1:Xp (zc W0 W1):=g1;have FR1:Xp (jn W0.heap.size (mf.x)):=f1;clear r1 g1 f1;go_upto_region 2 with fail;obtain⟨W2,hW2⟩:=kB (W1.alloc (Xk #[mf.x,I6 0] 28));have HG2:=gA hW2
 have B2:=xA hW2
 rw[hW2];clear hW2;obtain⟨p2,HP2⟩:∃p,Xp (W1.heap.size=p):=⟨_,rfl⟩;rw[HP2.out]at B2⊢;have x1:=(X0.grew (HG1.trans HG2)).c 1 rfl;go_wp2_with fail;refine(H2 _).mono ?_;rintro e W3 ⟨ms,rfl,⟨r3,f3⟩,g3⟩;clear x1;have R3:Xp (zm slE W3 (ms.x) (zjS cs)):=r3;have HG3:Xp (zc W2 W3):=g3;have HG03:=dD ((HG1.trans HG2).trans g3);have FR3:Xp (jn W2.heap.size (ms.x)):=f3;clear r3 g3 f3;have x1:=(X0.grew HG03).c 1 rfl;go_upto_region 3 with fail;go_wp2_with fail;refine(H3 _).mono ?_;rintro e W4 ⟨mb,mq,rfl,⟨r4,r5,f4,f5⟩,g4⟩;clear x1;have R4:Xp (qK W4 (mb.x) (zhm cs)):=r4;have R5:Xp (qH W4 (mq.x) []):=r5;have HG4:Xp (zc W3 W4):=g4;have FR4:Xp (jn W3.heap.size (mb.x)):=f4;have FR5:Xp (jn W3.heap.size (mq.x)):=f5;clear r4 r5 g4 f4 f5;go_upto_region 4 with fail;obtain⟨W5,hW5⟩:=kB (W4.alloc (Xk #[mb.x,mq.x] 34));have HG5:=gA hW5
 have B5:=xA hW5
 rw[hW5];clear hW5;obtain⟨p5,HP5⟩:∃p,Xp (W4.heap.size=p):=⟨_,rfl⟩;rw[HP5.out]at B5⊢;have HG05:=dD ((HG03.trans HG4).trans HG5);have x2:=(X0.grew HG05).c 2 rfl;go_wp2_with fail;refine(H4 _).mono ?_;rintro e W6 ⟨md,me,rfl,⟨r6,r7,f6,f7⟩,g6⟩;clear x2;have R6:Xp (qK W6 (md.x) (zhm cb)):=r6;have R7:Xp (qH W6 (me.x) []):=r7;have HG6:Xp (zc W5 W6):=g6;have FR6:Xp (jn W5.heap.size (md.x)):=f6;have FR7:Xp (jn W5.heap.size (me.x)):=f7;clear r6 r7 g6 f6 f7;go_upto_region 5 with fail;obtain⟨W7,hW7⟩:=kB (W6.alloc (Xk #[md.x,me.x] 34));have HG7:=gA hW7
 have B7:=xA hW7
 rw[hW7];clear hW7;obtain⟨p7,HP7⟩:∃p,Xp (W6.heap.size=p):=⟨_,rfl⟩;rw[HP7.out]at B7⊢;have HG07:=dD ((HG05.trans HG6).trans HG7);have x2:=(X0.grew HG07).c 2 rfl;go_wp2_with fail;refine(H5 _).mono ?_;rintro e W8 ⟨rfl,g8⟩;clear x2;have HG8:Xp (zc W7 W8):=g8;clear g8;go_upto_region 6 with fail;obtain⟨W9,hW9⟩:=kB (W8.alloc (Xk #[eS,I6 z5] 37));have HG9:=gA hW9
 have B9:=xA hW9
 rw[hW9];clear hW9;obtain⟨p9,HP9⟩:∃p,Xp (W8.heap.size=p):=⟨_,rfl⟩;rw[HP9.out]at B9⊢;obtain⟨E,HE⟩:=kA (zu [e1,e2,e3,e4,e5]);have hor:=zb7 (O (Xa ⟨W9.heap.size,0,Xb⟩) 5 5) [e1,e2,e3,e4,e5] _ (zdO zi9 W9 [e1,e2,e3,e4,e5] #[I6 e1,I6 e2,I6 e3,I6 e4,I6 e5] rfl (show 5*8<=140737488355328 by decide))
 rw[HE.out]at hor;go_wp2_with fail;refine hor.mono ?_;rintro e W10 ⟨rfl,hw10⟩;clear hor;have HG10:Xp (zc W9 W10):=dD<|by rw[hw10];exact za _ _
 clear hw10;have HGW:=dD (((HG07.trans HG8).trans HG9).trans HG10);have Y10:=dD (Y0.grew HGW);have hE0:E=0:=by rw[<-HE.out,<-HES.out];exact zjU hfew
 subst hE0;have b20:=(B2.grew ((((((HG3.trans HG4).trans HG5).trans HG6).trans HG7).trans HG8).trans (HG9.trans HG10))).c 0 rfl;have b21:=(B2.grew ((((((HG3.trans HG4).trans HG5).trans HG6).trans HG7).trans HG8).trans (HG9.trans HG10))).c 1 rfl;have b50:=(B5.grew (((HG6.trans HG7).trans HG8).trans (HG9.trans HG10))).c 0 rfl;have b51:=(B5.grew (((HG6.trans HG7).trans HG8).trans (HG9.trans HG10))).c 1 rfl;have b70:=(B7.grew ((HG8).trans (HG9.trans HG10))).c 0 rfl;have b71:=(B7.grew ((HG8).trans (HG9.trans HG10))).c 1 rfl;have b90:=(B9.grew HG10).c 0 rfl;have b91:=(B9.grew HG10).c 1 rfl;have HFEW:Xp (zmL cf cs cb):=hfew;clear hfew;go_upto_region 9 with fail;obtain⟨W11,hW11⟩:=kB (W10.alloc (Xk #[Xh Xc,eS,eS,eS,eS,eS,eS,eS,eS,eS] 63));have HG11:=gA hW11
 have S11:Xp (zm Zh W11 (O (Xa ⟨W10.heap.size,0,Xb⟩) 1 1) [⟨Xc,zy,zy,zy,zy,zy,zy,zy,zy,zy⟩]):=dD<|by rw[<-hW11];exact jK Zh W10 ⟨Xc,zy,zy,zy,zy,zy,zy,zy,zy,zy⟩ _ _ rfl (by decide)
 have Y11:=dD (Y10.grew HG11);have HW11:Xp (_=W11):=hW11;clear hW11;obtain⟨ps,HPS⟩:∃p,Xp (W10.heap.size=p):=⟨_,rfl⟩
 go_wp2_with (first | (rw[HW11.out];rw[HPS.out];refine zK rfl 41 (.tmp 2) (.tmp 63) rfl (w.heap.size+1) rfl [mf.x,I6 0,ms.x,mb.x,mq.x,md.x,me.x,eS,I6 z5,eS,O (Xa ⟨ps,0,Xb⟩) 1 1] rfl Y11 rfl (by kernel_rfl) (fun v hv=>by
   simp only[mC,nM,or_false]at hv
   rcases hv with rfl|rfl|rfl|rfl|rfl|rfl|rfl|rfl|rfl|rfl|rfl <;> rfl) ?_))
 intro W12 hb12 hg12 _;clear b20 b21 b50 b51 b70 b71 b90 b91;have HG12:Xp (zc w W12):=dD<|ze ((HG0.trans HGW).trans HG11) hg12 (by omega)
 have HS0:w.heap.size+1<W0.heap.size:=Y0.lt;have k1:=bS HG1.out;have k2:=bS HG2.out;have k3:=bS HG3.out;have k4:=bS HG4.out;have k5:=bS HG5.out;have kw:=bS HGW.out;have far:∀{b:Nat} {v:Xr},W0.heap.size<=b->jn b v->∀x n c,v= O (Xa x) n c->Xa x.block≠Xa (w.heap.size+1):=fun hb hf x n c hv e=>by
  have:=hf x n c hv;simp only[Option.some.injEq]at e;omega
 have t1:zc W1 W11:=((((((HG2.trans HG3).trans HG4).trans HG5).trans HG6).trans HG7).trans HG8).trans ((HG9.trans HG10).trans HG11);have t3:zc W3 W11:=((((HG4.trans HG5).trans HG6).trans HG7).trans HG8).trans ((HG9.trans HG10).trans HG11);have t4:zc W4 W11:=(((HG5.trans HG6).trans HG7).trans HG8).trans ((HG9.trans HG10).trans HG11);have t6:zc W6 W11:=(HG7.trans HG8).trans ((HG9.trans HG10).trans HG11);have HMA:Xp (zN W12 ⟨mf,ms,mb,mq,md,me,zy,zy,⟨Xa ⟨ps,0,Xb⟩,1,1⟩⟩ (zaV cf cs cb)):=dD<|by
  obtain⟨hf1,hf2,hf3⟩:=HFEW.out;refine⟨?_,?_,?_,?_,?_,?_,?_,zm.nil qJ W12,?_⟩
  ·have h:=(R1.grew t1).beside hg12 (far (nR _) FR1);unfold zjT at h;rw[kE hf1]at h;exact h
  ·have h:=(R3.grew t3).beside hg12 (far (by omega) FR3)
   unfold zjS at h;rw[kE hf2]at h;exact h
  ·have h:qK W12 (mb.x) (zhm cs):=⟨(R4.grew t4).1.beside hg12 (far (by omega) FR4),R4.2⟩
   unfold zhm at h;rw[kE (by omega)]at h
   exact h
  ·exact⟨(R5.grew t4).1.beside hg12 (far (by omega) FR5),R5.2⟩
  ·have h:qK W12 (md.x) (zhm cb):=⟨(R6.grew t6).1.beside hg12 (far (by omega) FR6),R6.2⟩
   unfold zhm at h;rw[kE hf3]at h;exact h
  ·exact⟨(R7.grew t6).1.beside hg12 (far (by omega) FR7),R7.2⟩
  ·exact⟨nR _,[],fun w' _=>zm.nil fvE w',rfl,fun i x f hx=>by simp at hx⟩
  have hs:=S11.out;rw[HPS.out]at hs;refine⟨_,hs.beside hg12 (fun x n c hx e=>?_),rfl,fun i x s hx hs=>?_⟩
  ·cases hx;simp only[Option.some.injEq]at e;have:=HPS.out;omega
  cases i with
  | zero=>
   cases hx;cases hs;exact⟨rfl,zm.nil arE W12,nR _,ZS.nil 0 0 W12⟩
  | succ i=>simp at hx
 have HNV:Xp (zoe w.heap.size ⟨mf,ms,mb,mq,md,me,zy,zy,⟨Xa ⟨ps,0,Xb⟩,1,1⟩⟩):=dD<|by
  refine⟨⟨FR1.less (by omega),FR3.less (by omega),FR4.less (by omega),FR5.less (by omega)⟩,FR6.less (by omega),FR7.less (by omega),j3 _,j3 _,fun x n c e=>?_⟩
  cases e;have:=HPS.out
  show w.heap.size<=ps
  omega
 have hz5:z5=cb:=by rw[<-HZ5.out,kE HFEW.2.2]
 subst hz5;clear t1 t3 t4 t6 far k1 k2 k3 k4 k5 kw;go_wp2;refine bodyPost_ret (jj rfl _ rfl hb12 underlying41 rfl (by kernel_rfl)) rfl ⟨⟨⟨mf,ms,mb,mq,md,me,zy,zy,⟨Xa ⟨ps,0,Xb⟩,1,1⟩⟩,rfl,HMA,HNV,ps,rfl⟩,HG12⟩
end
section
theorem za4 {k:Nat} {fr:Fr} (hk:k<m.fs.length) (hca:zbF m Xb m.ca=0) (hc:qk m.ca k≠0->fr.p=(z8 m k).p) (file idx:Int):jX { m with fs:=m.fs.set k fr } file idx=jX m file idx:=by
 obtain⟨a1,_,_⟩:=zL.1 hca;refine zkM (m:=m) (m':={ m with fs:=m.fs.set k fr }) rfl rfl rfl rfl (fun c hcm=>?_) file idx
 rw[jw hk c.fr (QX (a1 c hcm)).1.2.2.2.2.1]
 by_cases e:c.fr=(k:Int)
 ·rw[kE e,e];exact hc (by have:=za6 hcm;rw[e]at this;exact this)
 rw[kF e]
theorem zjy {k:Nat} {fr:Fr} {x:On} {e:En} (hk:k<m.fs.length) (hca:zbF m Xb m.ca=0) (hc:qk m.ca k≠0->fr.p=(z8 m k).p) (h0:e.kind=1->0<=e.n) (he:e.kind=1->e.n=(k:Int)->fr.p=(z8 m k).p/\(fr.f<0↔(z8 m k).f<0)):zmD { m with fs:=m.fs.set k fr } x e=zmD m x e:=by
 refine zll rfl rfl (fun h1=>?_) (fun _=>rfl) (fun _=>rfl) (za4 hk hca hc)
 rw[jw hk e.n (h0 h1)]
 by_cases ek:e.n=(k:Int)
 ·rw[kE ek,ek];exact he h1 ek
 rw[kF ek];exact⟨rfl,Iff.rfl⟩
structure Rt (m:Ma):Prop where
 w:maW m=0
 t8:∀s∈m.sp,s.tb.length=8
theorem Rt.inv (h:Rt m):qV m (J9 m):=(zbW h.w).1
theorem Rt.hand (h:Rt m):0<=m.hand/\m.hand<max (m.fs.length:Int) 1:=(zbW h.w).2
theorem Rt.tb (h:Rt m) {s:Sp} (hs:s∈m.sp):zcJ s.tb:=by
 refine⟨h.t8 s hs,QB.1 ?_⟩;have h0:=h.w;unfold maW at h0;rw[zF]at h0;have h1:zbr m=0:=h0 _ (by simp)
 unfold zbr at h1;rw[zF]at h1;have p10:=zF.1 (h1 (zu (m.sp.map spE)) (by simp)) (spE s) (Yk.2 ⟨s,hs,rfl⟩)
 unfold spE at p10
 split at p10
 ·rename_i a
  exact absurd p10 a
 split at p10
 ·rename_i a
  exact absurd p10 a
 rename_i a
 exact Classical.byContradiction a
theorem Rt.of (hb:qV m (J9 m)) (ht:∀s∈m.sp,zcJ s.tb) (h0:0<=m.hand) (h1:m.hand<max (m.fs.length:Int) 1):Rt m:=by
 refine⟨?_,fun s hs=>(ht s hs).1⟩
 have:=hb.right h0 h1;rw[zhB ht]at this;exact this
theorem zhy {p:Nat} {s:Sp} (h:m.sp[p]? =Xa s):(J9 m)[p]? =Xa (zD s):=by
 unfold J9;rw[Yc,h];rfl
def zdP (m:Ma) (p n:Nat) (e:En):Ma:={ m with sp:=m.sp.modify p fun s=>{ s with tb:=zi7 s.tb n e } }
theorem zhh {p n:Nat} {e:En} {q:Nat}:(zdP m p n e).sp[q]? =(m.sp[q]?).map fun s=>if p=q then{ s with tb:=zi7 s.tb n e }else s:=by
 unfold zdP;simp only[Yh]
 by_cases h:p=q
 ·simp[h]
 simp[h]
theorem zhg {s:Sp} (ht:zcJ s.tb) {n:Nat} (hn:n<64) {e:En} (he:enW e=0):zD { s with tb:=zi7 s.tb n e }=qr (zD s) n e:=by
 funext j
 unfold zD qr;simp only;rw[zl2 ht hn he _ _ (Nat.mod_lt _ (by decide))]
 by_cases h:j=n
 ·rw[kE h,kE (by subst h;exact⟨rfl,rfl⟩)]
 rw[kF h,kF (fun k=>h (by omega))]
theorem zgn {p n:Nat} {e:En}:(zdP m p n e).sp.length=m.sp.length:=by simp[zdP]
theorem zjG {p n:Nat} {e:En} {q:Nat} {s s':Sp} (hs:m.sp[q]? =Xa s) (hs':(zdP m p n e).sp[q]? =Xa s'):s'.live=s.live/\s'.ars=s.ars:=by
 rw[zhh,hs]at hs';simp only[Option.map_some,Option.some.injEq]at hs';subst hs'
 split <;> exact⟨rfl,rfl⟩
theorem zhf (ht:∀s∈m.sp,zcJ s.tb) {p n:Nat} {e:En} (he:enW e=0):∀s∈(zdP m p n e).sp,zcJ s.tb:=fun s hs=>by
 obtain⟨q,hq⟩:=Xx hs;rw[zhh]at hq
 cases h:m.sp[q]? with
 | none=>rw[h]at hq;cases hq
 | some x=>
  rw[h]at hq;simp only[Option.map_some,Option.some.injEq]at hq;have hx:=ht x (mG h);subst hq
  split
  ·exact zm0 hx he
  exact hx
structure Sam (S:Nat->Nat->Prop) (m m':Ma):Prop where
 spl:m'.sp.length=m.sp.length
 sp:∀(q:Nat) s s',m.sp[q]? =Xa s->m'.sp[q]? =Xa s'->s'.live=s.live/\s'.ars=s.ars
 see:∀(q n:Nat) s s',m.sp[q]? =Xa s->m'.sp[q]? =Xa s'->n<64->¬S q n->zmD m' (zO s.ars n) (zD s' n)=zmD m (zO s.ars n) (zD s n)
 fll:m'.fl.length=m.fl.length
 sz:∀f,zcR m' f=zcR m f
 bk:∀f,bkN m' f=bkN m f
 byt:∀(file k:Nat),(k:Int)<zcR m (file:Int)->(jX m' (file:Int) ((k / 8:Nat):Int)).getD (k % 8) 0=(jX m (file:Int) ((k / 8:Nat):Int)).getD (k % 8) 0
theorem Sam.refl (S:Nat->Nat->Prop) (m:Ma):Sam S m m:=⟨rfl,fun q s s' h h'=>by rw[h]at h';cases h';exact⟨rfl,rfl⟩,fun q n s s' h h' _ _=>by rw[h]at h';cases h';rfl,rfl,fun _=>rfl,fun _=>rfl,fun _ _ _=>rfl⟩
theorem Sam.trans {S S':Nat->Nat->Prop} {a b c:Ma} (h:Sam S a b) (k:Sam S' b c):Sam (fun q n=>S q n\/S' q n) a c:=by
 have mid:∀(q:Nat) s,a.sp[q]? =Xa s->∃t,b.sp[q]? =Xa t:=fun q s hs=>⟨_,gE (by rw[h.spl];exact(gS.1 hs).1)⟩
 refine⟨k.spl.trans h.spl,fun q s s' hs hs'=>?_,fun q n s s' hs hs' hn hS=>?_,k.fll.trans h.fll,fun f=>(k.sz f).trans (h.sz f),fun f=>(k.bk f).trans (h.bk f),fun file i hi=>(k.byt file i (by rw[h.sz];exact hi)).trans (h.byt file i hi)⟩
 ·obtain⟨t,ht⟩:=mid q s hs;have a1:=h.sp q s t hs ht;have a2:=k.sp q t s' ht hs';exact⟨a2.1.trans a1.1,a2.2.trans a1.2⟩
 obtain⟨t,ht⟩:=mid q s hs;have a1:=h.sp q s t hs ht;have a2:=k.see q n t s' ht hs' hn (fun e=>hS (.inr e))
 rw[a1.2]at a2;exact a2.trans (h.see q n s t hs ht hn (fun e=>hS (.inl e)))
theorem Sam.mono {S S':Nat->Nat->Prop} {a b:Ma} (h:Sam S a b) (hS:∀q n,S q n->S' q n):Sam S' a b:=⟨h.spl,h.sp,fun q n s s' hs hs' hn hn'=>h.see q n s s' hs hs' hn (fun e=>hn' (hS q n e)),h.fll,h.sz,h.bk,h.byt⟩
section
variable{m:Ma} {p n:Nat} {s:Sp}
theorem Rt.ent (h:Rt m) (hs:m.sp[p]? =Xa s) (hn:n<64):zD s n=en0\/za9 m (zO s.ars n) (zD s n):=h.inv.ent p s _ hs (zhy hs) n hn
theorem Rt.present (h:Rt m) (hs:m.sp[p]? =Xa s) (hn:n<64) (hk:(zD s n).kind=1):∃(k:Nat) (fr:Fr),(zD s n).n=(k:Int)/\m.fs[k]? =Xa fr/\z8 m (zD s n).n=fr/\fr.r≠0:=by
 rcases h.ent hs hn with e|e
 ·rw[e]at hk;cases hk
 obtain⟨c1,c2,c3,_⟩:=qo e (by omega)
 refine⟨(zD s n).n.toNat,m.fs[(zD s n).n.toNat]'(by omega),by omega,gE _,?_,fun h0=>?_⟩
 ·have:=jL (m:=m) (k:=(zD s n).n.toNat) (gE (by omega))
  rw[show(((zD s n).n.toNat:Nat):Int)=(zD s n).n by omega]at this
  exact this
 have h1:=(h.inv.free (gE (show(zD s n).n.toNat<m.fs.length by omega)) h0).1
 have h2:=zeg (zhy hs) hn hk;rw[show(((zD s n).n.toNat:Nat):Int)=(zD s n).n by omega]at h1
 omega
end
section
variable{m:Ma} {k p n:Nat} {fr:Fr} {s:Sp}
theorem Rt.kind0 (h:Rt m) (hs:m.sp[p]? =Xa s) (hn:n<64) (hk:(zD s n).kind=1):0<=(zD s n).n:=by
 obtain⟨k,_,e,_⟩:=h.present hs hn hk;omega
theorem zm3 {m1:Ma} {e:En} (ht:∀s∈m1.sp,zcJ s.tb) (hs:m1.sp[p]? =Xa s) (hn:n<64) (he:enW e=0) {s':Sp} (hs':(zdP m1 p n e).sp[p]? =Xa s'):zD s' n=e/\s'.ars=s.ars:=by
 rw[zhh,hs]at hs';simp only[Option.map_some,Option.some.injEq,if_true]at hs';subst hs';rw[zhg (ht s (mG hs)) hn he];exact⟨by unfold qr;rw[kE rfl],rfl⟩
end
theorem zjF {m1:Ma} {e:En} {p n q:Nat} {s s':Sp} (ht:∀s∈m1.sp,zcJ s.tb) (hn:n<64) (he:enW e=0) (hs:m1.sp[q]? =Xa s) (hs':(zdP m1 p n e).sp[q]? =Xa s') (hne:¬(q=p/\j=n)):zD s' j=zD s j:=by
 rw[zhh,hs]at hs';simp only[Option.map_some,Option.some.injEq]at hs';subst hs'
 split
 ·rename_i h
  subst h;rw[zhg (ht s (mG hs)) hn he];unfold qr;rw[kF (fun h=>hne ⟨rfl,h⟩)]
 rfl
section
variable{m:Ma} {k p n:Nat} {fr:Fr} {s:Sp}
theorem zlK (h:Rt m) (hk:m.fs[k]? =Xa fr) (hr:fr.r≠0) (u d:Bool):Rt { m with fs:=m.fs.set k { fr with u:=u,d:=d } }/\Sam (fun _ _=>False) m { m with fs:=m.fs.set k { fr with u:=u,d:=d } }:=by
 have hkl:=(gS.1 hk).1;have hc:∀file idx,jX { m with fs:=m.fs.set k { fr with u:=u,d:=d } } file idx=jX m file idx:=fun file idx=>za4 hkl h.inv.ca (fun _=>by rw[jL hk]) file idx
 refine⟨Rt.of (h.inv.marks (p:=fr.p) (u:=u) (d:=d) hk hr) (fun s hs=>h.tb hs) h.hand.1 (by simpa using h.hand.2),rfl,fun q s s' h1 h2=>?_,fun q j s s' h1 h2 hj _=>?_,rfl,fun _=>rfl,fun _=>rfl,fun file i _=>by rw[hc]⟩
 ·have:m.sp[q]? =Xa s':=h2;rw[h1]at this;cases this;exact⟨rfl,rfl⟩
 have:m.sp[q]? =Xa s':=h2;rw[h1]at this;cases this;refine zjy hkl h.inv.ca (fun _=>by rw[jL hk]) (h.kind0 h1 hj) (fun _ _=>by rw[jL hk];exact⟨rfl,Iff.rfl⟩)
end
def zlH (k:Int) (e:En) (f:Nat->En):Nat->En:=fun j=>if isE (f j) 1 k=Xc then e else f j
def zdh (k:Int) (e:En) (s:Sp):Sp:={ s with tb:=jV (zlH k e (zD s)) }
section
variable{m:Ma}
def zmC (m:Ma) (k j:Nat) (r:Int) (sb':List (List Int)) (sq':List (Int × List Int)):Ma:={ m with fs:=m.fs.set k frF,sl:=m.sl.set j r,sb:=sb',sq:=sq',sp:=m.sp.map (zdh (k:Int) ⟨2,(j:Int),Xd⟩) }
def jI (m:Ma) (k:Nat):Ma:={ m with fs:=m.fs.set k frF,ca:=m.ca.filter fun d=>!decide (d.fr=(k:Int)),sp:=m.sp.map (zdh (k:Int) en0) }
end
theorem zjL:∀{l:List Ar} {p:Option Ar} {n:Nat},ZT p l->(zO l n).is=Xc->0<=(zO l n).page/\((zO l n).page<=11\/(zO l n).file<0)
 | [],_,_,_,h=>by cases h
 | a :: l,p,n,hc,h=>by
  unfold zO at h⊢
  by_cases e:Zf a n=Xc
  ·rw[kE e]at h⊢;have ha:=hc.1;have e':=qd.1 e;unfold jA at ha;unfold qp;simp only
   split
   ·exact⟨by omega,.inl (by omega)⟩
   exact⟨by omega,.inr (by omega)⟩
  rw[kF e]at h⊢;exact zjL hc.2.2 h
theorem Rt.page (h:Rt m) {p n:Nat} {s:Sp} (hs:m.sp[p]? =Xa s) (hx:(zO s.ars n).is=Xc):0<=(zO s.ars n).page:=
 (zjL (jY.1 (h.inv.spok s (mG hs)).1).2 hx).1
section
variable{m:Ma}
def zh6 (m:Ma) (file idx:Nat) (f:Fl) (b:Int) (db':List (List Int)) (dq':List (Int × List Int)):Ma:={ m with fl:=m.fl.set file ⟨f.size,f.bl.set idx b⟩,db:=db',dq:=dq' }
theorem zkV (h:Rt m) {file idx:Nat} {f:Fl} {db':List (List Int)} {dq':List (Int × List Int)} (hf:m.fl[file]? =Xa f) (hst:stW (m.fl.set file ⟨f.size,f.bl.set idx (b:Int)⟩) m.cnt=0)
  (hub:∀x,zV (m.fl.set file ⟨f.size,f.bl.set idx (b:Int)⟩) x=Xc↔(zV m.fl x=Xc/\x≠-1)\/x=(b:Int)\/(x=-1/\zV (m.fl.set file ⟨f.size,f.bl.set idx (b:Int)⟩) x=Xc))
  (hdb:db'.length=m.db.length) (hdok:zJ db'.length dq'=0) (hblk:∀i:Nat,db'[i]? =m.db[i]?\/∃q∈m.dq,q.1=(i:Int)) (hq:∀q∈dq',q.1=(b:Int)\/∃q'∈m.dq,q'.1=q.1) (hrd:∀i:Int,i≠(b:Int)->jt db' dq' i=jt m.db m.dq i)
  (_hb0:f.bl[idx]? =Xa (b:Int)\/(zV m.fl (b:Int)=Xd)) (hc:∃c∈m.ca,c.file=(file:Int)/\c.idx=(idx:Int)) (hown:∀(i j:Nat) g,m.fl[i]? =Xa g->g.bl[j]? =Xa (b:Int)->i=file/\j=idx):
  (Rt (zh6 m file idx f (b:Int) db' dq')/\Sam (fun _ _=>False) m (zh6 m file idx f (b:Int) db' dq'))/\∀(i j:Nat),(j:Int)<bkN m (i:Int)->jX (zh6 m file idx f (b:Int) db' dq') (i:Int) (j:Int)=jX m (i:Int) (j:Int):=by
 have hfl:=(gS.1 hf).1;obtain⟨m',hm'⟩:∃m',zh6 m file idx f (b:Int) db' dq'=m':=⟨_,rfl⟩;have hsz:∀z,zcR m' z=zcR m z:=fun z=>by
  rw[<-hm'];unfold zcR zh6;simp only[gD]
  by_cases e:z.toNat=file
  ·rw[e,sF hfl,hf];rfl
  rw[sN (fun h=>e h.symm)]
 have hbk:∀z,bkN m' z=bkN m z:=fun z=>by
  rw[<-hm'];unfold bkN zh6;simp only[gD]
  by_cases e:z.toNat=file
  ·rw[e,sF hfl,hf];simp
  rw[sN (fun h=>e h.symm)]
 have hfr:∀z,z8 m' z=z8 m z:=fun z=>by rw[<-hm'];rfl
 have hfll:m'.fl.length=m.fl.length:=by rw[<-hm'];simp[zh6]
 have hsp:m'.sp=m.sp:=by rw[<-hm'];rfl
 have hca:m'.ca=m.ca:=by rw[<-hm'];rfl
 have hbI:qV m' (J9 m'):=by
  have hT:J9 m'=J9 m:=by unfold J9;rw[hsp]
  rw[hT];have hi:=h.inv;refine⟨by rw[<-hm'];exact hi.fs40,by rw[<-hm'];exact hi.fok,by rw[<-hm'];exact hi.sl60,by rw[<-hm'];exact hi.sbl,by rw[<-hm'];exact hi.sq,by rw[<-hm'];exact hdok,by rw[<-hm'];exact hst,by rw[<-hm'];show m.cnt=(db'.length:Int);rw[hdb];exact hi.cnt,fun i hil hu=>?_,fun q hqm=>?_,by rw[hsp];exact hi.spl,by rw[hsp];exact hi.spok,by rw[hsp];exact hi.tl,?_,?_,by rw[<-hm'];exact hi.cf,by rw[<-hm'];exact hi.cs⟩
  ·rw[<-hm']at hil hu⊢;have hu':zV m.fl (i:Int)=Xd:=by
    cases e:zV m.fl (i:Int)with
    | false=>rfl
    | true=>
     have:=(hub (i:Int)).2 (.inl ⟨e,by omega⟩)
     have hu2:zV (m.fl.set file ⟨f.size,f.bl.set idx (b:Int)⟩) (i:Int)=Xd:=hu;rw[hu2]at this;cases this
   show db'[i]? =_
   rcases hblk i with e|⟨q,q1,q2⟩
   ·rw[e];exact hi.blk i (by rw[<-hdb];exact hil) hu'
   have:=hi.que q q1;rw[q2,hu']at this;cases this
  ·rw[<-hm']at hqm⊢
   show zV (m.fl.set file ⟨f.size,f.bl.set idx (b:Int)⟩) q.1=Xc
   rcases hq q hqm with e|⟨q',q1,q2⟩
   ·exact(hub _).2 (.inr (.inl e))
   refine(hub _).2 (.inl ⟨?_,?_⟩)
   ·rw[<-q2];exact hi.que q' q1
   have hd:=hi.dok;unfold zJ at hd
   split at hd
   ·cases hd
   split at hd
   ·cases hd
   split at hd
   ·cases hd
   rename_i a
   intro e;refine a (List.any_eq_true.2 ⟨q',q1,?_⟩);rw[q2,e]
   simp[jo]
  ·obtain⟨a1,a2,a3⟩:=zL.1 hi.ca;rw[hca];refine zL.2 ⟨fun c hc=>?_,fun q c hq=>(by cases hq),a3⟩
   obtain⟨b1,b2,b3,b4⟩:=QX (a1 c hc);refine zbj ?_ (by rw[hfr];exact b2) (by rw[hfr];exact b3) (by rw[hfr];exact b4)
   rw[hfll,hbk];rw[<-hm'];exact b1
  intro p s g hs hg n hn;rw[hsp]at hs
  rcases hi.ent p s g hs hg n hn with e|e
  ·exact .inl e
  refine .inr ⟨e.1,e.2.1,Zm e.2.2 (by rw[<-hm'];rfl) (by rw[<-hm'];rfl) fun hk2=>?_⟩
  rw[hfr];exact⟨rfl,rfl,(qo e hk2).2.2.2⟩
 have hcont:∀(i j:Nat),(j:Int)<bkN m (i:Int)->jX m' (i:Int) (j:Int)=jX m (i:Int) (j:Int):=fun i j hij=>by
  unfold jX;rw[hca]
  cases hq:m.ca.find? (zc1 (i:Int) (j:Int))with
  | some c=>simp only;rw[hfr]
  | none=>
   simp only;have hne:¬(i=file/\j=idx):=fun e=>by
    obtain⟨c,c1,c2,c3⟩:=hc;rw[List.find?_eq_none]at hq;refine hq c c1 ?_
    simp[zc1,c2,c3,e.1,e.2]
   have hbl:zfS m' (i:Int) (j:Int)=zfS m (i:Int) (j:Int):=by
    rw[<-hm'];unfold zfS zh6;simp only[gD,tN]
    by_cases e:i=file
    ·subst e;rw[sF hfl,hf];simp only[Option.getD_some];rw[sN (fun h=>hne ⟨rfl,h.symm⟩)]
    rw[sN (fun h=>e h.symm)]
   rw[hbl,hsz]
   by_cases hlt:zfS m (i:Int) (j:Int)<0
   ·rw[kE hlt,kE hlt]
   rw[kF hlt,kF hlt];have hil:i<m.fl.length:=Classical.byContradiction fun h1=>by
    unfold bkN at hij;simp only[gD,tN]at hij;rw[gN (by omega)]at hij
    simp only[Option.getD_none,List.length_nil]at hij;omega
   have hg:=gE hil;have hj:j< (m.fl[i]).bl.length:=by
    unfold bkN at hij;simp only[gD,tN,hg,Option.getD_some]at hij;omega
   have:zfS m (i:Int) (j:Int)≠(b:Int):=fun e=>by
    unfold zfS at e;simp only[gD,tN,hg,Option.getD_some,gE hj]at e;exact hne (hown i j _ hg (by rw[gE hj,e]))
   rw[show jt m'.db m'.dq (zfS m (i:Int) (j:Int))=jt db' dq' (zfS m (i:Int) (j:Int)) by rw[<-hm'];rfl,hrd _ this]
 rw[hm'];refine⟨?_,hcont⟩;refine⟨Rt.of hbI (by rw[hsp];exact fun s hs=>h.tb hs) (by rw[<-hm'];exact h.hand.1) (by rw[<-hm'];exact h.hand.2),⟨by rw[hsp],fun q s s' h1 h2=>?_,fun q n s s' h1 h2 hn _=>?_,hfll,hsz,hbk,fun fi k hk=>?_⟩⟩
 ·rw[hsp,h1]at h2;cases h2;exact⟨rfl,rfl⟩
 ·rw[hsp,h1]at h2;cases h2;unfold zmD;rw[hfr,hbk]
  by_cases hx:(zO s.ars n).is=Xd
  ·rw[kE hx,kE hx]
  rw[kF hx,kF hx]
  by_cases k1:(zD s n).kind=1
  ·rw[kE k1,kE k1]
  rw[kF k1,kF k1]
  by_cases k2:(zD s n).kind=2
  ·rw[kE k2,kE k2];rw[<-hm'];rfl
  rw[kF k2,kF k2]
  by_cases k3:(zO s.ars n).file<0
  ·rw[kE k3,kE k3]
  rw[kF k3,kF k3]
  by_cases k4:bkN m (zO s.ars n).file<=(zO s.ars n).page
  ·rw[kE k4,kE k4]
  rw[kF k4,kF k4];have his:(zO s.ars n).is=Xc:=by
   cases hx':(zO s.ars n).is with
   | true=>rfl
   | false=>exact absurd hx' hx
  have hp:=h.page h1 his;have:=hcont (zO s.ars n).file.toNat (zO s.ars n).page.toNat (by
   rw[show(((zO s.ars n).file.toNat:Nat):Int)=(zO s.ars n).file by omega,show(((zO s.ars n).page.toNat:Nat):Int)=(zO s.ars n).page by omega]
   omega)
  rw[show(((zO s.ars n).file.toNat:Nat):Int)=(zO s.ars n).file by omega,show(((zO s.ars n).page.toNat:Nat):Int)=(zO s.ars n).page by omega]at this
  rw[this]
 rw[hcont fi (k / 8) ?_]
 by_cases h1:fi<m.fl.length
 ·have hg:=gE h1;obtain⟨k1,k2,k3⟩:=((qi _ _).1 h.inv.st).2.1 _ (mG hg);unfold zcR at hk;simp only[gD,tN,hg,Option.getD_some]at hk;unfold bkN;simp only[gD,tN,hg,Option.getD_some];unfold JK at k2
  split at k2 <;> omega
 unfold zcR at hk;simp only[gD,tN]at hk;rw[gN (by omega)]at hk
 simp only[Option.getD_none]at hk;omega
end
def Unc (m:Ma) (file idx:Int):Prop:=∀c∈m.ca,¬(c.file=file/\c.idx=idx)
structure zg5 (S:Nat->Nat->Prop) (m m':Ma):Prop where
 rt:Rt m'
 sam:Sam S m m'
 fsl:m'.fs.length=m.fs.length
 bare:∀(q n:Nat) s s',m.sp[q]? =Xa s->m'.sp[q]? =Xa s'->n<64->zD s n=en0->zD s' n=en0
 unc:∀(file idx:Nat),(idx:Int)<bkN m (file:Int)->Unc m (file:Int) (idx:Int)->Unc m' (file:Int) (idx:Int)/\jX m' (file:Int) (idx:Int)=jX m (file:Int) (idx:Int)
theorem zg5.refl {S:Nat->Nat->Prop} (h:Rt m):zg5 S m m:=⟨h,Sam.refl S m,rfl,fun q n s s' h1 h2 _ h0=>by rw[h1]at h2;cases h2;exact h0,fun _ _ _ h=>⟨h,rfl⟩⟩
theorem zg5.trans {S:Nat->Nat->Prop} {a b c:Ma} (h:zg5 S a b) (k:zg5 S b c):zg5 S a c:=by
 refine⟨k.rt,(h.sam.trans k.sam).mono (fun _ _ e=>e.elim id id),k.fsl.trans h.fsl,fun q n s s' h1 h2 hn h0=>?_,fun file idx hi hu=>?_⟩
 ·have:∃t,b.sp[q]? =Xa t:=⟨_,gE (by rw[h.sam.spl];exact(gS.1 h1).1)⟩
  obtain⟨t,ht⟩:=this;exact k.bare q n t s' ht h2 hn (h.bare q n s t h1 ht hn h0)
 obtain⟨u1,u2⟩:=h.unc file idx hi hu;obtain⟨v1,v2⟩:=k.unc file idx (by rw[h.sam.bk];exact hi) u1
 exact⟨v1,v2.trans u2⟩
section
variable{m:Ma}
theorem zih (S:Nat->Nat->Prop) (h:Rt m) {k:Nat} {fr:Fr} (hk:m.fs[k]? =Xa fr) (hr:fr.r≠0) (u d:Bool):zg5 S m { m with fs:=m.fs.set k { fr with u:=u,d:=d } }:=by
 obtain⟨r1,r2⟩:=zlK h hk hr u d;refine⟨r1,r2.mono (fun _ _ e=>e.elim),by simp,fun q n s s' h1 h2 _ h0=>?_,fun file idx _ hu=>⟨hu,?_⟩⟩
 ·have:m.sp[q]? =Xa s':=h2;rw[h1]at this;cases this;exact h0
 exact za4 (gS.1 hk).1 h.inv.ca (fun _=>by rw[jL hk]) _ _
theorem zka (S:Nat->Nat->Prop) (h:Rt m) (h0:0<=z) (h1:z<max (m.fs.length:Int) 1):zg5 S m { m with hand:=z }:=by
 have hb:=h.inv;have hb':qV { m with hand:=z } (J9 { m with hand:=z }):=⟨hb.fs40,hb.fok,hb.sl60,hb.sbl,hb.sq,hb.dok,hb.st,hb.cnt,hb.blk,hb.que,hb.spl,hb.spok,hb.tl,zL.2 ⟨fun c hc=>(zL.1 hb.ca).1 c hc,fun _ _ hq=>(by cases hq),(zL.1 hb.ca).2.2⟩,hb.ent,hb.cf,hb.cs⟩
 refine⟨Rt.of hb' (fun s hs=>h.tb hs) h0 h1,⟨rfl,fun q s s' h1 h2=>?_,fun q n s s' h1 h2 _ _=>?_,rfl,fun _=>rfl,fun _=>rfl,fun _ _ _=>rfl⟩,rfl,fun q n s s' h1 h2 _ h3=>?_,fun file idx _ hu=>⟨hu,rfl⟩⟩
 ·have:m.sp[q]? =Xa s':=h2;rw[h1]at this;cases this;exact⟨rfl,rfl⟩
 ·have:m.sp[q]? =Xa s':=h2;rw[h1]at this;cases this;rfl
 have:m.sp[q]? =Xa s':=h2;rw[h1]at this;cases this;exact h3
end
def zk8 (s:Sp) (kind k:Int):List Nat:=(List.range 64).filter fun n=>enS (zD s n) && ziC kind k (zD s n)
def jW (m:Ma) (kind k:Int) (q:Nat):List (Nat × Nat):=(List.range q).flatMap fun p=>(zk8 (m.sp.getD p ⟨Xd,[],[]⟩) kind k).map fun n=>(p,n)
theorem zit (m:Ma) (kind k:Int):jW m kind k 0=[]:=rfl
theorem zdm (m:Ma) (kind k:Int) (q:Nat):jW m kind k (q+1)=jW m kind k q++(zk8 (m.sp.getD q ⟨Xd,[],[]⟩) kind k).map fun n=>(q,n):=by
 unfold jW;rw[List.range_succ,List.flatMap_append];simp
theorem zhz {s:Sp} {kind k:Int} (hk:kind≠0) {n:Nat}:n∈zk8 s kind k↔n<64/\isE (zD s n) kind k=Xc:=by
 unfold zk8;rw[List.mem_filter,Xz];refine and_congr_right fun _=>?_
 unfold enS ziC isE;simp only[Bool.and_eq_true,decide_eq_true_eq,bne_iff_ne,ne_eq,beq_iff_eq];constructor
 ·rintro⟨_,h⟩;exact h
 rintro⟨h1,h2⟩;exact⟨by rw[h1];exact hk,h1,h2⟩
theorem zcl {kind k:Int} (hk:kind≠0) {q:Nat} (hq:q<=m.sp.length) {x:Nat × Nat}:x∈jW m kind k q↔x.1<q/\x.2<64/\∃s,m.sp[x.1]? =Xa s/\isE (zD s x.2) kind k=Xc:=by
 unfold jW;rw[List.mem_flatMap];constructor
 ·rintro⟨p,h1,h2⟩;obtain⟨n,h3,rfl⟩:=Yk.1 h2;have hp:=Xz.1 h1;have hs:=gE (show p<m.sp.length by omega)
  rw[gD,hs,Option.getD_some,zhz hk]at h3;exact⟨hp,h3.1,_,hs,h3.2⟩
 rintro⟨h1,h2,s,h3,h4⟩;refine⟨x.1,Xz.2 h1,Yk.2 ⟨x.2,?_,rfl⟩⟩;rw[gD,h3,Option.getD_some,zhz hk];exact⟨h2,h4⟩
def j6 (m:Ma) (e:En):List (Nat × Nat)->Ma
 | []=>m
 | x :: l=>j6 (zdP m x.1 x.2 e) e l
theorem zeY {e:En} (he:enW e=0):∀(l:List (Nat × Nat)) {m:Ma},(∀s∈m.sp,zcJ s.tb)->(∀x∈l,x.2<64)->(j6 m e l).sp.length=m.sp.length/\(∀s∈(j6 m e l).sp,zcJ s.tb)/\∀(q:Nat) s s',m.sp[q]? =Xa s->(j6 m e l).sp[q]? =Xa s'->s'.live=s.live/\s'.ars=s.ars/\∀j,zD s' j=if(q,j)∈l then e else zD s j
 | [],m,ht,_=>⟨rfl,ht,fun q s s' h1 h2=>by
   simp only[j6]at h2;rw[h1]at h2;cases h2;exact⟨rfl,rfl,fun j=>by simp⟩⟩
 | x :: l,m,ht,hl=>by
  have hn:=hl x (Ya ..);obtain⟨r1,r2,r3⟩:=zeY he l (m:=zdP m x.1 x.2 e) (zhf ht he) (fun y hy=>hl y (Xy _ hy))
  refine⟨r1.trans zgn,r2,fun q s s' h1 h2=>?_⟩
  have:∃t,(zdP m x.1 x.2 e).sp[q]? =Xa t:=⟨_,gE (by rw[zgn];exact(gS.1 h1).1)⟩
  obtain⟨t,ht1⟩:=this;obtain⟨a1,a2,a3⟩:=r3 q t s' ht1 h2;obtain⟨b1,b2⟩:=zjG h1 ht1;refine⟨a1.trans b1,a2.trans b2,fun j=>?_⟩
  rw[a3 j]
  by_cases e1:(q,j)∈l
  ·rw[kE e1,kE (Xy _ e1)]
  rw[kF e1]
  by_cases e2:q=x.1/\j=x.2
  ·obtain⟨rfl,rfl⟩:=e2;rw[kE (Ya ..)];exact(zm3 ht h1 hn he ht1).1
  rw[zjF ht hn he h1 ht1 e2,kF];intro h3
  rcases mC.1 h3 with h4|h4
  ·rw[<-h4]at e2;exact e2 ⟨rfl,rfl⟩
  exact e1 h4
theorem zb0 (e:En):∀(l:List (Nat × Nat)) (m:Ma),j6 m e l={ m with sp:=(j6 m e l).sp }
 | [],_=>rfl
 | x :: l,m=>by
  show j6 (zdP m x.1 x.2 e) e l=_
  rw[zb0 e l (zdP m x.1 x.2 e)];rfl
theorem zn7 {s:Sp} (h:zcJ s.tb):s.tb=jV (zD s):=by
 have:=zhB (m:=⟨[],0,[],[],[],[],[],[],0,[],[s]⟩) (fun t ht=>by
  rw[List.mem_singleton.1 ht];exact h)
 have h2:=congrArg (fun m:Ma=>m.sp) this
 simp only[jO,J9,mP,List.map_nil,List.zipWith_cons_cons,List.zipWith_nil_left,List.cons.injEq,and_true]at h2;exact(congrArg Sp.tb h2).symm
theorem zlS (h:Rt m) {k:Nat} {e:En} (he:enW e=0):(j6 m e (jW m 1 (k:Int) m.sp.length)).sp=m.sp.map (zdh (k:Int) e):=by
 have ht:∀s∈m.sp,zcJ s.tb:=fun s hs=>h.tb hs
 have hmem:=fun x=>zcl (m:=m) (kind:=1) (k:=(k:Int)) (by decide) (nR m.sp.length) (x:=x)
 obtain⟨r1,r2,r3⟩:=zeY he (jW m 1 (k:Int) m.sp.length) ht (fun x hx=>((hmem x).1 hx).2.1)
 apply Yd
 intro q
 by_cases hq:q<m.sp.length
 ·have hs:=gE hq;have hs':=gE (show q< (j6 m e (jW m 1 (k:Int) m.sp.length)).sp.length by rw[r1];exact hq)
  obtain⟨a1,a2,a3⟩:=r3 q _ _ hs hs';rw[hs',Yc,hs,Option.map_some]
  congr 1
  have hf:zD ((j6 m e (jW m 1 (k:Int) m.sp.length)).sp[q]'(by rw[r1];exact hq))=fun j=>if j<64 then zlH (k:Int) e (zD m.sp[q]) j else zD m.sp[q] j:=by
   funext j
   rw[a3 j]
   by_cases h64:j<64
   ·rw[kE h64];unfold zlH
    by_cases hin:isE (zD m.sp[q] j) 1 (k:Int)=Xc
    ·rw[kE hin,kE ((hmem (q,j)).2 ⟨hq,h64,_,hs,hin⟩)]
    rw[kF hin,kF];intro h3;obtain⟨_,_,s,h4,h5⟩:=(hmem (q,j)).1 h3;rw[hs]at h4;cases h4;exact hin h5
   rw[kF h64,kF (fun h3=>h64 ((hmem (q,j)).1 h3).2.1)]
  have htb:=zn7 (r2 _ (mG hs'));have htab:jV (zD ((j6 m e (jW m 1 (k:Int) m.sp.length)).sp[q]'(by rw[r1];exact hq)))=jV (zlH (k:Int) e (zD m.sp[q])):=by
   rw[hf];unfold jV;refine congrArg Za (List.map_congr_left fun j hj=>?_)
   exact kE (Xz.1 hj)
  rw[htab]at htb;unfold zdh
  generalize(j6 m e (jW m 1 (k:Int) m.sp.length)).sp[q]'(by rw[r1];exact hq)=s' at a1 a2 htb
  cases s';simp only at a1 a2 htb;rw[a1,a2,htb]
 rw[gN (by rw[r1];omega),gN (by rw[List.length_map];omega)]
theorem zbf {α:Type} {P:α->Bool}:∀{l:List α} {i:Nat},i<l.length->(∀(j:Nat) d,l[j]? =Xa d->(P d=Xc↔j=i))->l.eraseIdx i=l.filter fun d=>!P d
 | [],i,hi,_=>absurd hi (by simp)
 | a :: l,0,_,h=>by
  have h0:P a=Xc:=(h 0 a rfl).2 rfl;rw[List.eraseIdx_cons_zero,List.filter_cons,kF (by rw[h0];decide)]
  refine(List.filter_eq_self.2 fun d hd=>?_).symm
  obtain⟨j,hj⟩:=Xx hd;have:=h (j+1) d (by rw[Ye];exact hj)
  cases hp:P d with
  | false=>rfl
  | true=>exact absurd (this.1 hp) (by omega)
 | a :: l,i+1,hi,h=>by
  have h0:P a=Xd:=by
   cases hp:P a with
   | false=>rfl
   | true=>exact absurd ((h 0 a rfl).1 hp) (by omega)
  rw[List.eraseIdx_cons_succ,List.filter_cons,kE (by rw[h0];rfl),zbf (P:=P) (l:=l) (i:=i) (by simpa using hi) fun j d hd=>?_]
  have:=h (j+1) d (by rw[Ye];exact hd)
  rw[this];omega
def zmE (ca:List Ca) (c:Ca):Nat:=(ca.takeWhile fun d=>decide (qm d<qm c)).length
section
variable{m:Ma} {k:Nat} {fr:Fr}
theorem zgT (h:Rt m) (hk:m.fs[k]? =Xa fr) {i:Nat} {c:Ca} (hc:m.ca[i]? =Xa c) (hf:c.fr=(k:Int)):m.ca.eraseIdx i=m.ca.filter fun d=>!decide (d.fr=(k:Int)):=by
 obtain⟨a1,a2,a3⟩:=zL.1 h.inv.ca;have key:∀d∈m.ca,d.fr=(k:Int)->d.file=fr.f/\d.idx=fr.x:=fun d hd e=>by
  obtain⟨b1,b2,b3,b4⟩:=QX (a1 d hd);rw[e,jL hk]at b3 b4;exact⟨b3.symm,b4.symm⟩
 refine zbf (P:=fun d:Ca=>decide (d.fr=(k:Int))) (gS.1 hc).1 fun j d hd=>?_
 rw[decide_eq_true_eq];constructor
 ·intro e;have h1:=key d (mG hd) e;have h2:=key c (mG hc) hf;have hkey:qm d=qm c:=by unfold qm;rw[h1.1,h1.2,h2.1,h2.2]
  obtain⟨hj,hj'⟩:=gS.1 hd;obtain⟨hi,hi'⟩:=gS.1 hc
  rcases Nat.lt_trichotomy j i with h3|h3|h3
  ·have:=Yb.1 a3 j i hj hi h3;rw[hj',hi',hkey]at this;omega
  ·exact h3
  have:=Yb.1 a3 i j hi hj h3;rw[hj',hi',hkey]at this;omega
 rintro rfl;rw[hc]at hd;cases hd;exact hf
theorem zgS (h:Rt m) (hk:m.fs[k]? =Xa fr) (hf:0<=fr.f):∃(i:Nat) (c:Ca),m.ca[i]? =Xa c/\c.fr=(k:Int)/\c.file=fr.f/\c.idx=fr.x:=by
 obtain⟨c,hc,hcf⟩:=ziX ((h.inv.cf k fr hk).2 hf);obtain⟨i,hi⟩:=Xx hc;obtain⟨b1,b2,b3,b4⟩:=QX ((zL.1 h.inv.ca).1 c hc);rw[hcf,jL hk]at b3 b4;exact⟨i,c,hi,hcf,b3.symm,b4.symm⟩
end
theorem zda:∀(l:List Int) (lo hi:Int),l.Pairwise (·< ·)->(∀x∈l,lo<=x/\x<hi)->(l.length:Int)<=max (hi - lo) 0
 | [],lo,hi,_,_=>by simp only[List.length_nil];omega
 | a :: l,lo,hi,hp,hb=>by
  obtain⟨h1,h2⟩:=List.pairwise_cons.1 hp;obtain⟨b1,b2⟩:=hb a (Ya ..);have:=zda l (a+1) hi h2 fun x hx=>⟨by have:=h1 x hx;omega,(hb x (Xy _ hx)).2⟩
  simp only[List.length_cons];omega
def JJ (fs:List Fr):Nat:=fs.countP fun f=>decide (f.r=0)
section
variable{m:Ma}
theorem zi0 (S:Nat->Nat->Prop) (h:Rt m) {file idx:Nat} {f:Fl} {db':List (List Int)} {dq':List (Int × List Int)} (hf:m.fl[file]? =Xa f) (hst:stW (m.fl.set file ⟨f.size,f.bl.set idx (b:Int)⟩) m.cnt=0)
  (hub:∀x,zV (m.fl.set file ⟨f.size,f.bl.set idx (b:Int)⟩) x=Xc↔(zV m.fl x=Xc/\x≠-1)\/x=(b:Int)\/(x=-1/\zV (m.fl.set file ⟨f.size,f.bl.set idx (b:Int)⟩) x=Xc))
  (hdb:db'.length=m.db.length) (hdok:zJ db'.length dq'=0) (hblk:∀i:Nat,db'[i]? =m.db[i]?\/∃q∈m.dq,q.1=(i:Int)) (hq:∀q∈dq',q.1=(b:Int)\/∃q'∈m.dq,q'.1=q.1) (hrd:∀i:Int,i≠(b:Int)->jt db' dq' i=jt m.db m.dq i)
  (hb0:f.bl[idx]? =Xa (b:Int)\/(zV m.fl (b:Int)=Xd)) (hc:∃c∈m.ca,c.file=(file:Int)/\c.idx=(idx:Int)) (hown:∀(i j:Nat) g,m.fl[i]? =Xa g->g.bl[j]? =Xa (b:Int)->i=file/\j=idx):
  zg5 S m (zh6 m file idx f (b:Int) db' dq'):=by
 obtain⟨⟨r1,r2⟩,r3⟩:=zkV h hf hst hub hdb hdok hblk hq hrd hb0 hc hown;refine⟨r1,r2.mono (fun _ _ e=>e.elim),rfl,fun q n s s' h1 h2 _ h0=>?_,fun file idx hi hu=>⟨hu,r3 file idx hi⟩⟩
 have:m.sp[q]? =Xa s':=h2;rw[h1]at this;cases this;exact h0
def znx (k:Nat) (fr:Fr) (l:List (Nat × Nat)) (q:Nat) (s:Sp) (a:Ar) (n:Nat):Prop:=(qp a n).file=fr.f/\(qp a n).page=fr.x/\(q,n)∉l/\((zD s n).kind=0\/isE (zD s n) 1 (k:Int)=Xc)
end
theorem Rt.parts (h:Rt m):ZR m.fs m.hand=0/\slW m.sl=0:=by
 have h0:=h.w;unfold maW at h0;rw[zF]at h0;have h1:zbr m=0:=h0 _ (by simp)
 unfold zbr at h1;rw[zF]at h1;exact⟨h1 _ (by simp),h1 _ (by simp)⟩
theorem zkf {s:Sp} {n:Nat} (hn:n<64):zdn s.tb (n:Int)=zD s n:=by
 unfold zdn zD;rw[kE (by omega),tN]
theorem zm1 {t:List (List En)} (h:zcJ t) {n:Nat} (hn:n<64) {e:En} (he:enW e=0):zeR t (n:Int) e=zi7 t n e:=by
 have h0:tbW t=0:=QB.2 h.2;have:zeS t (n:Int) e=0:=by unfold zeS;rw[kE h0,kE (by omega)];exact he
 unfold zeR;rw[kE this,tN]
theorem zky (ht:∀s∈m.sp,zcJ s.tb) {p n:Nat} (hp:p<m.sp.length) (hn:n<64) {e:En} (he:enW e=0):Jl m p (n:Int) e=zdP m p n e:=by
 obtain⟨s,hs⟩:∃s,m.sp[p]? =Xa s:=⟨_,gE hp⟩;unfold Jl zdP;rw[Sp.getD_of hs,zm1 (ht s (mG hs)) hn he]
 congr 1
 apply Yd
 intro i;rw[List.getElem?_set,Yh]
 by_cases e:p=i
 ·subst e;rw[kE rfl,kE hp,hs];simp
 rw[kF e]
 simp[e]
def zkK (m:Ma) (db':List (List Int)):Ma:=⟨Xs m.fs.length frF,0,Xs m.sl.length 0,Xs m.sl.length zx,[],db',[],m.fl,m.cnt,[],[⟨Xc,[],qL⟩]⟩
end
section
open Go.RowKit
theorem jv.staysD {α:Type} {enc:α->List Xr} {base:Nat} {w:Xo} {v:Xr} {l:List α} (h:jv enc w v l) (hf:jn base v) {D:Nat->Prop} (hd:∀k,D k->k<base) (k:qW D w W):jv enc W v l:=by
 obtain⟨a,c,h1,h2,h3⟩:=h;refine⟨a,c,h1,h2,fun x hx j u hj=>?_⟩
 subst hx;have hc:=h3 x rfl j u hj;have hl:=World.block_lt_of_cell? _ _ hc;have hf:=hf x _ _ h1;rw[World.cell?_of_block (w:=w) (k.block _ hl (fun e=>by have:=hd _ e;rw[Qu]at this;omega))]
 exact hc
theorem qg.staysD {base:Nat} {w:Xo} {v:Xr} {ps:List (List Int)} {qs:List (Int × List Int)} (h:qg base w v ps qs) {D:Nat->Prop} (hd:∀k,D k->k<base) (k:qW D w W):qg base W v ps qs:=by
 obtain⟨b,q,h1,h2,h3,h4,h5⟩:=h;exact⟨b,q,h1,⟨h2.1.staysD h4 hd k,h2.2⟩,⟨h3.1.staysD h5 hd k,h3.2⟩,h4,h5⟩
theorem qg.form {base:Nat} {w:Xo} {v:Xr} {ps:List (List Int)} {qs:List (Int × List Int)} (h:qg base w v ps qs):∃d q:Sli,v= Xi #[d.x,q.x]/\jn base d.v/\jn base q.v:=by
 obtain⟨b,q,rfl,⟨⟨a,c,rfl,_⟩,_⟩,⟨⟨a',c',rfl,_⟩,_⟩,h4,h5⟩:=h;exact⟨⟨a,_,c⟩,⟨a',_,c'⟩,rfl,h4,h5⟩
theorem qg.rows {base:Nat} {w:Xo} {d q:Sli} {ps:List (List Int)} {qs:List (Int × List Int)} (h:qg base w (Xi #[d.x,q.x]) ps qs):qK w (d.x) ps/\qH w (q.x) qs:=by
 obtain⟨b,q,e,h2,h3,_⟩:=h;simp only[Value.agg.injEq,Array.mk.injEq,List.cons.injEq,and_true]at e;obtain⟨rfl,rfl⟩:=e;exact⟨h2,h3⟩
theorem zhe {α:Type} {E:Elt α} {w:Xo} {v:Xr} (h:zm E w v []):zm E W v []:=by
 obtain⟨⟨a,c,h1,h2,h3⟩,h4⟩:=h;exact⟨⟨a,c,h1,h2,fun x hx j u hj=>by simp at hj⟩,h4⟩
theorem ziP (V:MaV) (m:Ma) (bs:Int) (w:Xo) (hm:zN w V m) (h:Rt m):
  Xq prog 35 #[Xi (mL V m).toArray,I6 bs] w fun e w'=>(∃V':MaV,e= Xl (Xm #[Xi #[V'.f.x,I6 0,V'.s.x,V'.sb.x,V'.sq.x,V'.db.x,V'.dq.x,V'.fl.x,I6 m.cnt,V'.ca.x,V'.sp.x],I6 0])/\zN w' V' (zkK m (zc0 (QV bs) m.db m.dq))/\∃ps,V'.sp=⟨Xa ⟨ps,0,Xb⟩,1,1⟩)/\zc w w':=by
 obtain⟨W1,hW1⟩:=kB ((w.alloc (Xk (mL V m).toArray 41)).alloc (Xk zM.toArray 41));have G1:=gD2 hW1
 obtain⟨b,HB⟩:=kA w.heap.size;have X1:Xp (zt W1 b 41 (mL V m)):=dD<|by rw[<-hW1];exact(zt.top w (mL V m) _ HB.symm).grew (za _ _)
 have Z1:Xp (zt W1 (b+1) 41 zM):=dD<|by rw[<-hW1];exact zt.top _ zM _ (by have:=HB.out;simp;omega)
 have A1:Xp (zN W1 V m):=hm.grew G1.out;have HR:Xp (Rt m):=h;have HW1:Xp (_=W1):=hW1;obtain⟨n1,n2,-⟩:=hm.ns;have HFW:Xp (zmL (V.f.n:Int) (V.s.n:Int) m.cnt):=show zmL _ _ _ by
  have i:=h.inv;have h1:=i.fs40;have h2:=i.sl60;have h3:=((qi _ _).1 i.st).1;rw[n1,n2];exact⟨⟨by omega,by omega⟩,⟨by omega,by omega⟩,by omega⟩
 have HN1:Xp (V.f.n=m.fs.length):=n1;have HN2:Xp (V.s.n=m.sl.length):=n2;clear hW1 hm h n1 n2
 go_enter func35,ntmps35
 go_upto_region 1 with fail;rw[HW1.out,HB.out];have hwr:=zag V m W1 A1 HR.w;obtain⟨x0,x1,x2,x3,x4,x5,x6,x7,x8,x9,x10⟩:=X1.box.c11;go_wp2_with fail;refine hwr.mono ?_;clear hwr x0 x1 x2 x3 x4 x5 x6 x7 x8 x9 x10;rintro e W2 ⟨rfl,g2⟩;have X2:=dD (X1.grew g2);have Z2:=dD (Z1.grew g2);have A2:=dD (A1.grew g2);have G2:=dD (G1.trans g2);clear g2;have hnw:=zlF (V.f.n:Int) (V.s.n:Int) m.cnt HFW W2;have x0:=X2.box.c 0 rfl;have x2:=X2.box.c 2 rfl;have x8:=X2.box.c 8 rfl;go_wp2_with fail;refine hnw.mono ?_;clear hnw x0 x2 x8;rintro e W3 ⟨⟨U,rfl,hu,hnv,hps⟩,g3⟩;have HPS:Xp (∃ps,U.sp=⟨Xa ⟨ps,0,Xb⟩,1,1⟩):=hps;have HU3:Xp (zN W3 U (zaV (V.f.n:Int) (V.s.n:Int) m.cnt)):=hu;have HNV:Xp (zoe W2.heap.size U):=hnv;have G3:Xp (zc W2 W3):=g3;clear hu hnv g3 hps;go_upto_region 5 with fail;obtain⟨c,HC⟩:=kA W3.heap.size;obtain⟨W4,hW4⟩:=kB (W3.alloc (Xk #[U.f.x,I6 0,U.s.x,U.sb.x,U.sq.x,U.db.x,U.dq.x,U.fl.x,I6 m.cnt,U.ca.x,U.sp.x] 41));have G4:=gA hW4
 have Y4:=xPT hW4 HC
 have X4:=dD (X2.grew (G3.trans G4));rw[hW4,HC.out];clear hW4;have A4:=dD (A2.grew (G3.trans G4));have hcr:=zkJ (Xi #[V.db.x,V.dq.x]) m.db m.dq bs W4 ⟨_,_,rfl,A4.db,A4.dq⟩;have x5:=X4.box.c 5 rfl;have x6:=X4.box.c 6 rfl;go_wp2_with fail;refine hcr.mono ?_;clear hcr x5 x6;rintro e W5 ⟨dd,rfl,nd,g5⟩;obtain⟨d,q,rfl,fd,fq⟩:=nd.form;have D5:Xp (qg W4.heap.size W5 (Xi #[d.x,q.x]) (zc0 (QV bs) m.db m.dq) []):=nd;have G5:Xp (zc W4 W5):=g5;have Y5:=dD (Y4.grew g5);clear nd g5 fd fq
 go_upto_region 6 with(refine ZF rfl 34 (.tmp 37) (.tmp 35) rfl c 5 rfl (Xi #[d.x,q.x]) rfl [d.x,q.x] rfl Y5 (by simp) (by kernel_rfl) (by simp[Value.oneCell']) ?_)
 intro W6 bx6 gr6 _;have Y6:Xp (zt W6 c 41 [U.f.x,I6 0,U.s.x,U.sb.x,U.sq.x,d.x,q.x,U.fl.x,I6 m.cnt,U.ca.x,U.sp.x]):=bx6;have HR6:Xp (W5.grownBy W6 (Xa c)):=gr6;have G36:Xp (zc W3 W6):=show zc _ _ from ze (G4.trans G5) gr6 (by have:=HC.out;omega)
 have X6:Xp (zt W6 b 41 (mL V m)):=dD<|(X4.grew G5).beside gr6 (fun k e=>by cases e;have h1:=Z2.box.lt;have:=HC.out;have:=bS G3.out;omega)
 have A6:=dD ((A2.grew G3).grew G36);clear bx6 gr6;try simp only[Yf]
 have how:=zb6 (V.fl.x) m.fl m.cnt W6 A6.fl;have x7:=X6.box.c 7 rfl;have x8:=X6.box.c 8 rfl;go_wp2_with fail;refine how.mono ?_;clear how x7 x8;rintro e W7 ⟨fb,rfl,of,g7,_⟩;obtain⟨fa,fc,rfl,_⟩:=qh.rows of.new.now0;obtain⟨f,HF⟩:∃f:Sli,Xp (f=⟨fa,m.fl.length,fc⟩):=⟨_,rfl⟩;have hfe:O fa m.fl.length fc=f.x:=by rw[HF.out]
 rw[hfe]at of⊢;have F7:Xp (ja 0 (W6.heap.size+2) W7 (f.x) m.fl):=of.new;have G7:Xp (zc W6 W7):=g7;have Y7:=dD (Y6.grew g7);clear of g7 hfe
 go_upto_region 7 with(refine ZF rfl 37 (.tmp 41) (.tmp 40) rfl c 7 rfl (Xi #[f.x,I6 m.cnt]) rfl [f.x,I6 m.cnt] rfl Y7 (by simp) (by kernel_rfl) (by simp[Value.oneCell']) ?_)
 intro W8 bx8 gr8 _;have Y8:Xp (zt W8 c 41 [U.f.x,I6 0,U.s.x,U.sb.x,U.sq.x,d.x,q.x,f.x,I6 m.cnt,U.ca.x,U.sp.x]):=bx8;have HR8:Xp (W7.grownBy W8 (Xa c)):=gr8;have G38:Xp (zc W3 W8):=show zc _ _ from ze (G36.trans G7) gr8 (by have:=HC.out;omega)
 have Z8:=dD ((Z2.grew G3).grew G38);clear bx8 gr8;try simp only[Yf]
 obtain⟨x0,x1,x2,x3,x4,x5,x6,x7,x8,x9,x10⟩:=Y8.box.c11
 go_wp2_with (refine qO rfl 41 (.tmp 4) (.tmp 42) rfl (b+1) rfl [U.f.x,I6 0,U.s.x,U.sb.x,U.sq.x,d.x,q.x,f.x,I6 m.cnt,U.ca.x,U.sp.x] rfl Z8 rfl (by kernel_rfl) (by simp[Value.oneCell']) ?_)
 clear x0 x1 x2 x3 x4 x5 x6 x7 x8 x9 x10;intro W9 bx9 gr9 _;have G9:Xp (zc w W9):=dD<|ze ((G2.trans G3).trans G38) gr9 (by have:=HB.out;omega)
 have B9:Xp (zt W9 (b+1) 41 [U.f.x,I6 0,U.s.x,U.sb.x,U.sq.x,d.x,q.x,f.x,I6 m.cnt,U.ca.x,U.sp.x]):=bx9;have HMA:Xp (zN W9 ⟨U.f,U.s,U.sb,U.sq,d,q,f,U.ca,U.sp⟩ (zkK m (zc0 (QV bs) m.db m.dq))):=show zN _ _ _ by
  have hb:b+1<W2.heap.size:=Z2.box.lt;have hs3:=bS G3.out;have hs4:=bS G4.out;have hs5:=bS G5.out;have hs6:=HR6.size;have hc:=HC.out;have hcl:c<W4.heap.size:=Y4.box.lt;have u8:=HU3.grew G38.out;have far:∀{v:Xr},jn W2.heap.size v->∀x n c,v= O (Xa x) n c->Xa x.block≠Xa (b+1):=fun hf x n c hv e=>by
   have:=hf x n c hv;simp only[Option.some.injEq]at e;omega
  obtain⟨⟨a1,a2,a3,a4⟩,a5,a6,a7,a8,a9⟩:=HNV.out;have o59:qW (fun k=>k=c\/k=b+1) W5 W9:=(((qW.grown HR6 (.inl rfl)).trans (qW.grew G7)).trans (qW.grown HR8 (.inl rfl))).trans (qW.grown gr9 (.inr rfl))
  have dr:=(D5.staysD (fun k hk=>by rcases hk with rfl | rfl <;> omega) o59).rows
  have o79:Out 0 (W6.heap.size+2) W7 W9:=(Out.grown HR8 (fun g e=>by cases e;omega)).trans (Out.grown gr9 (fun g e=>by cases e;omega))
  have hn1:=HN1.out;have hn2:=HN2.out;obtain⟨xs,r1,r2,r3⟩:=u8.sp;have e0:(zaV (V.f.n:Int) (V.s.n:Int) m.cnt).sp=[⟨Xc,[],qL⟩]:=rfl;refine⟨?_,?_,?_,?_,dr.1,dr.2,(F7.out.out o79).now0,u8.ca.beside gr9 (far a8),⟨xs,r1.beside gr9 (far a9),r2,fun i x s hx hs=>?_⟩⟩
  ·have:=u8.fs.beside gr9 (far a1);rw[show(zaV (V.f.n:Int) (V.s.n:Int) m.cnt).fs=Xs m.fs.length frF from by unfold zaV;simp only;rw[hn1,tN]]at this
   exact this
  ·have:=u8.sl.beside gr9 (far a2);rw[show(zaV (V.f.n:Int) (V.s.n:Int) m.cnt).sl=Xs m.sl.length 0 from by unfold zaV;simp only;rw[hn2,tN]]at this
   exact this
  ·have:qK W9 _ _:=⟨u8.sb.1.beside gr9 (far a3),u8.sb.2⟩;rw[show(zaV (V.f.n:Int) (V.s.n:Int) m.cnt).sb=Xs m.sl.length zx from by unfold zaV;simp only;rw[hn2,tN]]at this
   exact this
  ·exact⟨u8.sq.1.beside gr9 (far a4),u8.sq.2⟩
  have hs': [(⟨Xc,[],qL⟩:Sp)][i]? =Xa s:=hs
  cases i with
  | succ i=>simp at hs'
  | zero=>
   cases hs';have k:=r3 0 x _ hx rfl;refine⟨k.live,zhe k.ar,k.cap,⟨k.tb.len,k.tb.tlen,fun j v y hv hy=>?_⟩⟩
   have e:y=[]:=(List.mem_replicate.1 (show y∈Xs 8 []from mG hy)).2
   subst e;exact fun w' _=>zhe (k.tb.row j v [] hv hy).now
 go_wp2;refine bodyPost_ret (jj rfl _ rfl B9.box underlying41 rfl (by kernel_rfl)) rfl ⟨⟨_,rfl,HMA,HPS⟩,G9⟩
theorem za3 {α:Type} (p:α->Bool) {l:List α} {k:Nat} {x:α} (h:l[k]? =Xa x):(l.take (k+1)).countP p=(l.take k).countP p+(if p x=Xc then 1 else 0):=by
 rw[jB h,List.countP_append]
 simp[List.countP_cons]
end
end Go.Proofs.YtacihbmelcegbaaGreat
