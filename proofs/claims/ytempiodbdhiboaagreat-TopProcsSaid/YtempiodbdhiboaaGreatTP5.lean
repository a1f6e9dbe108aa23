import Derived.Test.YtempiodbdhiboaaGreatTP4
import Derived.Deep.Cut
namespace Go.Proofs.YtempiodbdhiboaaGreat
open Go.Value renaming slice→O,int→Xe,bool→Xh,agg→Xi,pointer→Xj,tuple→Xm
open Go.IntKind renaming i64→Xf,u8→Xg
open Go.Obj renaming cells→Xk
open Go.Ending renaming returned→Xl
open Go renaming World→Xn,Calls→Xp,Value→Xq
open Go.RowKit renaming Hid→Xo
open Option renaming some→Xa,none→Xb
open Bool renaming true→Xc,false→Xd
open List renaming replicate→Xr
open _root_.Bool renaming and_eq_true→Xs
open _root_.List renaming getElem?_cons_succ→Xt,ext_getElem?→Xu,mem_cons_self→Xv,mem_filter→Xw,getElem?_map→Xx,getElem?_of_mem→Xy,getElem?_set→Xz,mem_map→Yc,flatMap_append→Yd,mem_range→Ye,countP_cons→Yg,getElem?_mapIdx→Yh,mem_cons_of_mem→Yi,find?_eq_none→Yk,contains_iff_mem→Yl,getElem?_modify→Ym,take→Yn,drop→Yo,countP_eq_zero→Yp
open Go.Act renaming put→Ya
open Go.Sem renaming run_bind→Yb,run_pure→Yj
open _root_.Nat renaming le_of_ble_eq_true→Yf
open Go.Addr renaming add_lit→Yq
set_option maxRecDepth 100000
set_option maxHeartbeats 4000000
section
open Go.RowKit
theorem cutTo_low {l:List Int} {n:Int} {k:Nat} (h:(k:Int)<=n\/k=0):cutTo l 0 n k=l:=by
 unfold cutTo
 apply Xu
 intro i;rw[Yh]
 cases l[i]? with
 | none=>rfl
 | some z=>
  simp only[Option.map_some];rw[if_neg (by omega)]
theorem cutP_at (l:List Int) (idx size:Int):cutP l 0 (size - idx*8)=cutP l idx size:=by
 unfold cutP
 congr 1
 funext i z
 by_cases h:size<=8*idx+(i:Int)
 ·rw[if_pos h,if_pos (by omega)]
 rw[if_neg h,if_neg (by omega)]
theorem pageCut_any (l:List Int) (n:Int) (w:Xn) (hl:l.length=8) (h1:-9223372036854775808<=n) (h2:n<=9223372036854775807):
  Xp Tryz.prog 182 #[Xi (pgc l).toArray,Xe Xf n] w fun e w'=>e= Xl (Xi (pgc (cutP l 0 n)).toArray)/\(cutP l 0 n).length=8/\Grew w w':=by
 have HL:Xo (l.length=8):=hl;have HC8:Xo ((cutP l 0 n).length=8):=show _=_ by unfold cutP;simp[hl]
 obtain⟨W0,hW0⟩:∃W0,(w.alloc (Xk (pgc l).toArray 91)).alloc (Xk #[Xe Xg 0,Xe Xg 0,Xe Xg 0,Xe Xg 0,Xe Xg 0,Xe Xg 0,Xe Xg 0,Xe Xg 0] 91)=W0:=⟨_,rfl⟩;have G0:=gD2 hW0
 have X0:=x2a hW0
 have Y0:Xo (Box W0 (w.heap.size+1) (pgc zero8)):=show Box _ _ _ by rw[<-hW0];exact Box.top _ (pgc zero8) _ (by simp)
 have HW0:Xo (_=W0):=hW0;have XB:Xo (Box W0 w.heap.size (pgc (cutTo l 0 n n.toNat))):=show Box _ _ _ by rw[cutTo_low (by omega)];exact X0.out
 obtain⟨CL,HCL⟩:∃CL,Xo (cutP l 0 n=CL):=⟨_,rfl⟩;rw[HCL.out]at HC8⊢;clear hW0 hl
 go_enter Tryz.func182,Tryz.ntmps182
 go_upto_region 1 with fail;rw[HW0.out];clear HW0;go_wp2
 all_goals
  go_loopg [5] 8 (fun gg s5 wr=>∃k:Nat,n<=(k:Int)/\(k:Int)<=9223372036854775807/\8 - k<=gg/\s5= Xe Xf k/\Xo (Grew w wr)/\Xo (Box wr w.heap.size (pgc (cutTo l 0 n k)))/\Xo (Box wr (w.heap.size+1) (pgc zero8)))
  case atStart=>
   exact⟨n.toNat,by omega,by omega,by omega,(by first | rw[Int.toNat_eq_max] | (congr 1;omega) | (congr 1;rw[Int.max_def];split <;> omega) | (congr 1;split <;> omega)),G0.out,XB.out,Y0.out⟩
  obtain⟨k,hk,hk2,hg,rfl,GW,XW,YW⟩:=hrel
  by_cases hlt:k<8
  ·have hltz:(k:Int)<8:=by omega
   obtain⟨z,hz⟩:∃z,(cutTo l 0 n k)[k]? =Xa z:=⟨_,gE (by rw[cutTo_len,HL.out];exact hlt)⟩
   have z0:=XW.out.c k (pgc_at hz);have zf:=XW.out.f;clear hz;go_wp2;obtain⟨W1,hW1⟩:∃W1,wr.setCell ⟨w.heap.size,k,Xb⟩ (Xe Xg 0)=W1:=⟨_,rfl⟩;have X1:Xo (Box W1 w.heap.size (pgc (cutTo l 0 n (k+1)))):=show Box _ _ _ by rw[<-hW1,<-cutTo_cut (by rw[HL.out];exact hlt) (by omega),pgc_set];exact XW.out.set k _
   have Y1:Xo (Box W1 (w.heap.size+1) (pgc zero8)):=show Box _ _ _ by rw[<-hW1];exact YW.out.other (by simp) _
   have G1:Xo (Grew w W1):=show Grew _ _ by rw[<-hW1];exact grew_set GW.out (by simp) _
   rw[hW1];clear hW1 z0 zf
   go_roundg (8 -(k+1))
   case measure=>omega
   exact⟨k+1,by omega,by omega,by omega,by go_num,G1.out,X1.out,Y1.out⟩
  have hltz:¬(k:Int)<8:=by omega
  have HCE:Xo (cutTo l 0 n k=CL):=show _=_ by rw[cutTo_all (by rw[HL.out];omega),HCL.out]
  rw[HCE.out]at XW
  go_wp2_with (first | refine wp_loadAll rfl 91 (.tmp 2) rfl w.heap.size rfl XW.out Tryz.underlying91 rfl (by rw[pgc_len,HC8.out];exact Tryz.sizePg) ?_ | refine wp_storeAll rfl 91 (.tmp 4) (.tmp 14) rfl (w.heap.size+1) rfl (pgc CL) rfl YW.out (by rw[pgc_len,HC8.out];rfl) Tryz.sizePg (pgc_one _) ?_)
  intro WL hbL hgL _;have HGL:Xo (Grew w WL):=show Grew _ _ from grew_grown GW.out hgL (by omega)
  go_wp2;refine bodyPost_ret (ret_cell rfl _ rfl hbL Tryz.underlying91 rfl (by rw[pgc_len,HC8.out];exact Tryz.sizePg)) rfl ⟨rfl,HC8.out,HGL.out⟩
theorem Does.storeAllT {o:Oper} {a:Act} {w:Xn} {K:Xq->Xn->Prop} (ty:TypeId) (p x:Operand) (ho:o.op= .store ty p x) (b:Nat) (hp:a.eval p= Xj (Xa ⟨b,0,Xb⟩)) (vs:List Xq) (hx:a.eval x= Xi vs.toArray)
  {t:TypeId} {cs:List Xq} (hb:BoxT w b t cs) (hl:vs.length=cs.length) (hi:(Tryz.prog.info? ty).map (·.size)=Xa cs.length) (h1:∀v∈vs,v.oneCell'=Xc)
  (h:∀w',BoxT w' b t vs->w.grownBy w' (Xa b)->w'.heap.size=w.heap.size->K undef w'):Does Tryz.prog o a w K:=by
 unfold Does;have hr:(execOp a.eval o).run Tryz.prog w= .ok .skip (w.setCells b 0 vs):=by
  have:=run_storeAt_mid (P:=Tryz.prog) w b 0 ty vs.toArray (by simpa [hl]using hb.box.there) (by simpa [hl]using hi) (all_oneCell_toArray h1)
  simp only[execOp,ho,hp,hx,Yb,this,rA,Yj]
 rw[hr];have hp:=hb.part (ds:=vs) (o:=0) (by omega)
 rw[splice_all hl]at hp;exact h _ hp (setCells_grown b vs 0 w).1 (setCells_grown b vs 0 w).2
theorem diskL_len {m:Ma} (h1:∀p∈m.db,p.length=8) (h2:∀q∈m.dq,q.2.length=8) (file idx:Int):(diskL m file idx).length=8:=by
 unfold diskL
 split
 ·rfl
 simp[cutP,readL8 h1 h2]
theorem diskL_at {m:Ma} {fi ix:Nat} {f:Fl} {bk:Int} (hf:m.fl[fi]? =Xa f) (hbk:f.bl[ix]? =Xa bk):diskL m fi ix=if bk<0 then zero8 else cutP (readL m.db m.dq bk) ix f.size:=by
 have hg:m.fl.getD ((fi:Int).toNat) ⟨0,[]⟩=f:=by rw[tN,gD,hf];rfl
 have e1:blAt m fi ix=bk:=by unfold blAt;rw[hg,tN,gD,hbk];rfl
 have e2:szAt m fi=f.size:=by unfold szAt;rw[hg]
 unfold diskL;rw[e1,e2]
theorem hasP_at {fl:List Fl} {fi ix:Nat} {f:Fl} {bk:Int} (hf:fl[fi]? =Xa f) (hbk:f.bl[ix]? =Xa bk):hasP fl fi ix=Xc:=by
 have h1:=(gS.1 hf).1;have h2:=(gS.1 hbk).1;have hg:fl.getD ((fi:Int).toNat) ⟨0,[]⟩=f:=by rw[tN,gD,hf];rfl
 unfold hasP;rw[hg,bel_iff.2 ⟨by omega,by omega⟩,bel_iff.2 ⟨by omega,by omega⟩]
 rfl
theorem storedM_any (V:MaV) (m:Ma) (fi ix:Nat) (f:Fl) (bk:Int) (w:Xn) (hm:MachAt w V m) (hf:m.fl[fi]? =Xa f) (hbk:f.bl[ix]? =Xa bk) (hix:ix<=1000) (hsz:0<=f.size/\f.size<=1000):
  Xp Tryz.prog 155 #[Xi #[O V.f.a V.f.n V.f.c,Xe Xf m.hand,O V.s.a V.s.n V.s.c,O V.sb.a V.sb.n V.sb.c,O V.sq.a V.sq.n V.sq.c,O V.db.a V.db.n V.db.c,O V.dq.a V.dq.n V.dq.c,O V.fl.a V.fl.n V.fl.c,Xe Xf m.cnt,O V.ca.a V.ca.n V.ca.c,O V.sp.a V.sp.n V.sp.c],Xe Xf (fi:Int),Xe Xf (ix:Int)] w fun e w'=>e= Xl (Xi (pgc (diskL m fi ix)).toArray)/\(diskL m fi ix).length=8/\Grew w w':=by
 have HRD:Xo (∀W,Grew w W->Xp Tryz.prog 184 #[Xi #[O V.db.a V.db.n V.db.c,O V.dq.a V.dq.n V.dq.c],Xe Xf bk] W fun e w'=>e= Xl (Xm #[Xi (pgc (readL m.db m.dq bk)).toArray,Xe Xf (wrongAtL m.db.length m.dq bk)])/\Grew W w'):=show∀W,_ from fun W hW=>read_any _ m.db m.dq bk W ⟨_,_,rfl,(hm.grew hW).db,(hm.grew hW).dq⟩
 have HHP:Xo (∀W,Grew w W->Xp Tryz.prog 119 #[Xi #[O V.fl.a V.fl.n V.fl.c,Xe Xf m.cnt],Xe Xf (fi:Int),Xe Xf (ix:Int)] W fun e w'=>e= Xl (Xh Xc)/\Grew W w'):=show∀W,_ from fun W hW=>by
  have:=hasPage_any (O V.fl.a V.fl.n V.fl.c) m.fl m.cnt fi ix W (hm.grew hW).fl;rw[hasP_at hf hbk]at this;exact this
 have HRL:Xo ((readL m.db m.dq bk).length=8):=readL8 hm.db.2.1 hm.dq.2.1;have HD8:Xo ((diskL m fi ix).length=8):=diskL_len hm.db.2.1 hm.dq.2.1 _ _;have HDL:Xo (diskL m fi ix=if bk<0 then zero8 else cutP (readL m.db m.dq bk) ix f.size):=diskL_at hf hbk;obtain⟨C,HC⟩:∃C,Xo (diskL m fi ix=C):=⟨_,rfl⟩;rw[HC.out]at HDL HD8⊢;obtain⟨⟨fa,fn,fc⟩,vs,vsb,vsq,vdb,vdq,⟨fla,fln,flc⟩,⟨caa,can,cac⟩,vsp⟩:=V;dsimp only at HRD HHP⊢;obtain⟨-,-,-,-,-,-,n7,-,-⟩:=hm.ns;dsimp only at n7;obtain⟨_,_,hfe,_,hfr⟩:=FilesAt.rows hm.fl;have HFL:Xo (FlRows w fla m.fl):=show FlRows _ _ _ by
  simp only[vJ]at hfe;rw[hfe.1];exact hfr
 have hfn:fi<fln:=by rw[n7];exact(gS.1 hf).1
 obtain⟨ad,rfl,ba,bc,hbr,hfl⟩:=HFL.out fi f hf;have HBL:Xo (∀W,Grew w W->FlCells W (ad.add (fi*2)) f.size (O ba f.bl.length bc)):=show∀W,_ from hfl
 obtain⟨_,_,hbe,hbn⟩:=hbr.nums;have hbl:ix<f.bl.length:=(gS.1 hbk).1;obtain⟨ad2,had2,hb2⟩:=hbn ix bk hbk;have HB2:Xo (ba=Xa ad2/\∀W,Grew w W->W.cell? (ad2.add ix)=Xa (Xe Xf bk)):=show _/\_ from⟨by simp only[vJ]at hbe;rw[hbe.1];exact had2,hb2⟩
 obtain⟨bn,HBN⟩:∃bn,Xo (f.bl.length=bn):=⟨_,rfl⟩;rw[HBN.out]at hbl HBL;clear hm n7 hfe hfr hf hbk hfl hbr hbe hbn had2 hb2 HFL HC;obtain⟨z,HZ⟩:∃z,Xo (f.size=z):=⟨_,rfl⟩;rw[HZ.out]at HBL HDL hsz;have hfz:(fi:Int)< (fln:Int):=by omega
 have hbz:(ix:Int)< (bn:Int):=by omega
 obtain⟨W0,hW0⟩:∃W0,(w.alloc (Xk #[O fa fn fc,Xe Xf m.hand,O vs.a vs.n vs.c,O vsb.a vsb.n vsb.c,O vsq.a vsq.n vsq.c,O vdb.a vdb.n vdb.c,O vdq.a vdq.n vdq.c,O (Xa ad) fln flc,Xe Xf m.cnt,O caa can cac,O vsp.a vsp.n vsp.c] 42)).alloc (Xk #[Xe Xg 0,Xe Xg 0,Xe Xg 0,Xe Xg 0,Xe Xg 0,Xe Xg 0,Xe Xg 0,Xe Xg 0] 91)=W0:=⟨_,rfl⟩;have G0:=gD2 hW0
 have X0:=x2a hW0
 have Y0:Xo (Box W0 (w.heap.size+1) (pgc zero8)):=show Box _ _ _ by rw[<-hW0];exact Box.top _ (pgc zero8) _ (by simp)
 have HW0:Xo (_=W0):=hW0;clear hW0
 go_enter Tryz.func155,Tryz.ntmps155
 go_upto_region 1 with fail;rw[HW0.out];clear HW0;have x7:=X0.out.c 7 rfl;have x8:=X0.out.c 8 rfl;have hc:=HHP.out W0 G0.out;go_wp2_with fail;refine hc.mono ?_;clear hc x7 x8 HHP;rintro r W1 ⟨rfl,g1⟩;have G1:=dD (G0.out.trans g1);have X1:=dD (X0.out.grew g1);have Y1:=dD (Y0.out.grew g1);clear g1 G0 X0 Y0;have x7:=X1.out.c 7 rfl;obtain⟨d0,d1⟩:=HBL.out W1 G1.out;go_upto_region 4 with fail;obtain⟨pf,HPF⟩:∃pf,Xo (W1.heap.size=pf):=⟨_,rfl⟩;obtain⟨W2,hW2⟩:∃W2,W1.alloc (Xk #[Xe Xf z,O ba bn bc] 158)=W2:=⟨_,rfl⟩;have g2:=gP hW2
 have F2:=xP hW2 HPF
 have G2:=dD (G1.out.trans g2);have X2:=dD (X1.out.grew g2);have Y2:=dD (Y1.out.grew g2);rw[hW2,HPF.out];clear hW2 g2 d0 d1 x7 G1 X1 Y1 HPF;obtain⟨hba,hb2⟩:=HB2.out;subst hba;have HB3:Xo (∀W,Grew w W->W.cell? (ad2.add ix)=Xa (Xe Xf bk)):=show∀W,_ from hb2
 clear hb2 HB2;have f1:=F2.out.c 1 rfl;have e0:=HB3.out W2 G2.out
 by_cases hb:bk<0
 ·rw[if_pos hb]at HDL
  go_wp2_with (refine wp_storeAll rfl 91 (.tmp 6) (.tmp 29) rfl (w.heap.size+1) rfl (pgc zero8) rfl Y2.out rfl Tryz.sizePg (pgc_one _) ?_)
  intro WL hbL hgL _;have HGL:Xo (Grew w WL):=show Grew _ _ from grew_grown G2.out hgL (by omega)
  go_wp2;refine bodyPost_ret (ret_cell rfl _ rfl hbL Tryz.underlying91 rfl Tryz.sizePg) rfl ⟨by rw[HDL.out],by rw[HDL.out];rfl,HGL.out⟩
 rw[if_neg hb]at HDL;have hbd:decide (bk<0)=Xd:=decide_eq_false hb;go_upto_region 6 with fail;clear f1 e0 hb hbd;obtain⟨p,HP⟩:∃p,Xo (readL m.db m.dq bk=p):=⟨_,rfl⟩;rw[HP.out]at HDL HRL HRD;obtain⟨p0,p1,p2,p3,p4,p5,p6,p7,rfl⟩:=len8 p HRL.out;obtain⟨I,HI⟩:∃I:Xn->Prop,Xo (∀u,I u↔Grew W2 u):=⟨fun u=>Grew W2 u,fun _=>Iff.rfl⟩
 have hI0:I W2.drew:=(HI.out _).2 (gW _)
 have hx5:=X2.out.h HI.out 5 rfl
 have hx6:=X2.out.h HI.out 6 rfl
 have hf1:=F2.out.h HI.out 1 rfl
 have he0:∀y:HoldI I,y.world.cell? (ad2.add ix)=Xa (Xe Xf bk):=fun y=>HB3.out _ (G2.out.trans ((HI.out _).1 y.holds))
 have hne:Nonempty (HoldI I):=⟨⟨_,hI0⟩⟩;refine wp_lax_tailE (I:=I) 14 [(7,⟨.const (Xh Xd),fun v=>v= Xm #[Xi #[Xe Xg p0,Xe Xg p1,Xe Xg p2,Xe Xg p3,Xe Xg p4,Xe Xg p5,Xe Xg p6,Xe Xg p7],Xe Xf (wrongAtL m.db.length m.dq bk)],fun _ _ _=>True,fun p q=>Grew p q,fun _=>True⟩),(11,⟨.const (Xh Xd),fun v=>∃g,v= Xj (Xa ⟨g,0,Xb⟩),fun _ v u=>∃g cs,v= Xj (Xa ⟨g,0,Xb⟩)/\W2.heap.size<=g/\BoxT u g 91 cs/\cs.length=8,fun p q=>Grew p q,fun _=>True⟩),(12,⟨.tmp 8,fun _=>True,fun r _ u=>∃g,r= Xj (Xa ⟨g,0,Xb⟩)/\W2.heap.size<=g/\Box u g (pgc [p0,p1,p2,p3,p4,p5,p6,p7]),fun p q=>∃g,W2.heap.size<=g/\p.grownBy q (Xa g)/\BoxT q g 91 (pgc [p0,p1,p2,p3,p4,p5,p6,p7]),fun _=>True⟩)] hI0 mixed (by kernel_rfl) (by kernel_rfl) rfl rfl (by decide) ?hS ?hp ?hpre ?hpr0 ?_
 case hS=>
  intro x hx;simp only[mC,nM,or_false]at hx
  rcases hx with rfl | rfl | rfl
  ·exact⟨_,rfl⟩
  ·exact⟨_,0,rfl⟩
  exact⟨Xh Xc,trivial⟩
 case hp=>
  intro k s j t hk hj hjk hanc r v p q hst hpo;have hk':=lookup_in hk;have hj':=lookup_in hj;clear hk hj;simp only[mC,pJ,nM,or_false]at hk' hj'
  rcases hk' with⟨rfl,rfl⟩ | ⟨rfl,rfl⟩ | ⟨rfl,rfl⟩
  ·trivial
  ·obtain⟨g,cs,h1,h2,h3,h4⟩:=hpo
   rcases hj' with⟨rfl,rfl⟩ | ⟨rfl,rfl⟩ | ⟨rfl,rfl⟩
   ·exact⟨g,cs,h1,h2,h3.grew hst,h4⟩
   ·exact absurd rfl hjk
   obtain⟨g',q1,q2,q3⟩:=hst
   by_cases e:g=g'
   ·subst e;exact⟨g,_,h1,h2,q3,rfl⟩
   exact⟨g,cs,h1,h2,h3.beside q2 (fun k hk=>by cases hk;exact e),h4⟩
  obtain⟨g,h1,h2,h3⟩:=hpo
  rcases hj' with⟨rfl,rfl⟩ | ⟨rfl,rfl⟩ | ⟨rfl,rfl⟩
  ·exact⟨g,h1,h2,h3.grew hst⟩
  ·exact⟨g,h1,h2,h3.grew hst⟩
  exact absurd rfl hjk
 case hpre=>
  intro j t k s hj hk hjk p q hst hpr;have hj':=lookup_in hj;simp only[mC,pJ,nM,or_false]at hj'
  rcases hj' with⟨rfl,rfl⟩ | ⟨rfl,rfl⟩ | ⟨rfl,rfl⟩ <;> trivial
 case hpr0=>
  intro k t hk;have hk':=lookup_in hk;simp only[mC,pJ,nM,or_false]at hk'
  rcases hk' with⟨rfl,rfl⟩ | ⟨rfl,rfl⟩ | ⟨rfl,rfl⟩ <;> trivial
 simp only[Yn,Yo];iterate 7 (refine laxE_quiet rfl rfl rfl (fun K hK=>?_);go_big_quiet_op;refine hK _ ?_;clear hK K)
 refine laxE_spec rfl rfl (fun w' hI' hpr hF=>?_) (fun v1 hv=>?_)
 ·refine Does.call [Xi #[O vdb.a vdb.n vdb.c,O vdq.a vdq.n vdq.c],Xe Xf bk] rfl Tryz.func184 rfl rfl rfl ?_;refine(HRD.out w' (G2.out.trans ((HI.out _).1 hI'))).mono ?_;rintro e w'' ⟨rfl,gg⟩;exact⟨_,rfl,(HI.out _).2 (((HI.out _).1 hI').trans gg),gg,rfl,trivial⟩
 subst hv;simp only[Ya,sB,sS,sZ];iterate 3 (refine laxE_quiet rfl rfl rfl (fun K hK=>?_);go_big_quiet_op;refine hK _ ?_;clear hK K)
 refine laxE_spec rfl rfl (fun w' hI' hpr hF=>?_) (fun v1 hv=>?_)
 ·refine Does.step (v:= Xj (Xa ⟨w'.heap.size,0,Xb⟩)) (w':=w'.alloc (Xk #[Xe Xg 0,Xe Xg 0,Xe Xg 0,Xe Xg 0,Xe Xg 0,Xe Xg 0,Xe Xg 0,Xe Xg 0] 91)) (by clear hx5 hx6 hf1 he0;simp only[execOp];go_simp) ⟨(HI.out _).2 (((HI.out _).1 hI').trans (grew_alloc _ _)),grew_alloc _ _,⟨_,rfl⟩,_,_,rfl,bS ((HI.out _).1 hI'),BoxT.top _ (pgc zero8) _ rfl,rfl⟩
 obtain⟨pg,rfl⟩:=hv;simp only[Ya,sB,sS,sZ];refine laxE_spec rfl rfl (fun w' hI' hpr hF=>?_) (fun v1 hv=>?_)
 ·obtain⟨g,cs,hg1,hg2,hg3,hg4⟩:=hF 11 (by kernel_rfl)
  simp only[Value.pointer.injEq,Option.some.injEq,Addr.mk.injEq,and_true]at hg1;subst hg1;refine Does.storeAllT 91 (.tmp 8) (.tmp 39) rfl pg rfl (pgc [p0,p1,p2,p3,p4,p5,p6,p7]) rfl hg3 (by rw[hg4];rfl) (by rw[hg4];exact Tryz.sizePg) (pgc_one _) fun w'' b1 b2 b3=>?_
  exact⟨(HI.out _).2 (grew_grown ((HI.out _).1 hI') b2 hg2),⟨pg,hg2,b2,b1⟩,trivial,pg,rfl,hg2,b1.box⟩
 simp only[Ya];iterate 1 (refine laxE_quiet rfl rfl rfl (fun K hK=>?_);go_big_quiet_op;refine hK _ ?_;clear hK K)
 refine laxE_nil fun W4 hI4 hF=>?_
 obtain⟨g',hg1,hg3,hg2⟩:=hF 12;have hg1':(Value.pointer (Xa ⟨pg,0,Xb⟩):Xq)= Xj (Xa ⟨g',0,Xb⟩):=hg1;simp only[Value.pointer.injEq,Option.some.injEq,Addr.mk.injEq,and_true]at hg1';subst hg1';have g4:=(HI.out _).1 hI4;have G4:=dD (G2.out.trans g4);have F4:=dD (F2.out.grew g4);have Y4:=dD (Y2.out.grew g4);have P4:Xo (Box W4 pg (pgc [p0,p1,p2,p3,p4,p5,p6,p7])):=hg2;clear hF hI4 hI0 hne hx5 hx6 hf1 he0 g4 hg1 hg2 hg3 HI G2 X2 F2 Y2;have hcut:=pageCut_any [p0,p1,p2,p3,p4,p5,p6,p7] (z -(ix:Int)*8) W4 rfl (by omega) (by omega)
 rw[cutP_at]at hcut;rw[<-HDL.out]at hcut;have f0:=F4.out.c 0 rfl
 go_wp2_with (refine wp_loadAll rfl 91 (.tmp 8) rfl pg rfl P4.out Tryz.underlying91 rfl Tryz.sizePg ?_)
 refine hcut.mono ?_;clear hcut f0;rintro r W5 ⟨rfl,-,g5⟩;have Y5:=dD (Y4.out.grew g5);have G5:=dD (G4.out.trans g5);clear g5
 go_wp2_with (refine wp_storeAll rfl 91 (.tmp 6) (.tmp 47) rfl (w.heap.size+1) rfl (pgc C) rfl Y5.out (by rw[pgc_len,HD8.out];rfl) Tryz.sizePg (pgc_one _) ?_)
 intro WL hbL hgL _;have HGL:Xo (Grew w WL):=show Grew _ _ from grew_grown G5.out hgL (by omega)
 go_wp2;refine bodyPost_ret (ret_cell rfl _ rfl hbL Tryz.underlying91 rfl (by rw[pgc_len,HD8.out];exact Tryz.sizePg)) rfl ⟨rfl,HD8.out,HGL.out⟩
def bornM (m:Ma) (k:Nat) (s:Sp):Ma:={ m with sp:=setK m.sp k ⟨Xc,s.ars,none8⟩ }
def shareL (m:Ma) (k q:Nat) (l:List Int):Ma:=l.foldl (fun m n=>shareM m k q n) m
theorem shareL_snoc (m:Ma) (k q:Nat) (l:List Int) (n:Int):shareL m k q (l++ [n])=shareM (shareL m k q l) k q n:=by simp[shareL]
theorem shareM_len (m:Ma) (k q:Nat) (n:Int):(shareM m k q n).sp.length=m.sp.length:=by unfold shareM;rw[enterM_len,enterM_len,holdM_sp]
theorem shareL_len (m:Ma) (k q:Nat):∀(l:List Int),(shareL m k q l).sp.length=m.sp.length:=by
 intro l;unfold shareL
 induction l generalizing m with
 | nil=>rfl
 | cons n l ih=>rw[List.foldl_cons,ih,shareM_len]
def forkP (m:Ma) (k q:Nat) (s:Sp):Ma:=shareL (bornM m k s) k q (pagesTo s.tb anyEn 64)
theorem wrongFrame_ok (a:Fr) (w:Xn) (h0:frW a=0):Xp Tryz.prog 108 #[Xi (frv a).toArray] w fun e w'=>e= Xl (Xe Xf 0)/\Grew w w':=by
 obtain⟨⟨b0,b1,b2,b3,b4,b5,b6,b7⟩,r,u,d,f,x⟩:=a
 show Xp Tryz.prog 108 #[Xi #[Xe Xg b0,Xe Xg b1,Xe Xg b2,Xe Xg b3,Xe Xg b4,Xe Xg b5,Xe Xg b6,Xe Xg b7,Xe Xf r,Xh u,Xh d,Xe Xf f,Xe Xf x]] w _
 cases hb1:inB r 1001 with
 | false=>simp[frW,hb1]at h0
 | true=>
 cases hb2:inB x 12 with
 | false=>simp[frW,hb1,hb2]at h0
 | true=>
 by_cases hf:f=-1
 ·have hfe:(f == -1)=Xc:=by simp[hf]
  have hfn:(f != -1)=Xd:=by simp[hf]
  by_cases hr:r=0
  ·have hre:(r == 0)=Xc:=by simp[hr]
   cases hfr:frEqB (⟨⟨b0,b1,b2,b3,b4,b5,b6,b7⟩,r,u,d,f,x⟩:Fr) frF with
   | false=>simp[frW,hb1,hb2,hfe,hre,hfr]at h0
   | true=>
    have hx:x=0:=by have:=frEqB_eq hfr;simp only[frF,Fr.mk.injEq]at this;exact this.2.2.2.2.2
    exact wf7 _ _ _ _ _ _ _ _ _ _ _ _ _ w hb1 hb2 hfn hfe hre hfr (by simp[hx])
  have hre:(r == 0)=Xd:=by simp[hr]
  by_cases hx:x=0
  ·exact wf9 _ _ _ _ _ _ _ _ _ _ _ _ _ w hb1 hb2 hfn hfe hre (by simp[hx])
  have hxe:(x == 0)=Xd:=by simp[hx]
  simp[frW,hb1,hb2,hfe,hre,hxe]at h0
 have hfe:(f == -1)=Xd:=by simp[hf]
 have hfn:(f != -1)=Xc:=by simp[hf]
 cases hb3:inB f 5 with
 | false=>simp[frW,hb1,hb2,hfe,hb3]at h0
 | true=>
  by_cases hr:r=0
  ·have hre:(r == 0)=Xc:=by simp[hr]
   have hfr:frEqB (⟨⟨b0,b1,b2,b3,b4,b5,b6,b7⟩,r,u,d,f,x⟩:Fr) frF=Xd:=by
    refine frEqB_ne fun h=>?_
    simp only[frF,Fr.mk.injEq]at h;exact hf h.2.2.2.2.1
   simp[frW,hb1,hb2,hfe,hb3,hre,hfr]at h0
  have hre:(r == 0)=Xd:=by simp[hr]
  exact wf5 _ _ _ _ _ _ _ _ _ _ _ _ _ w hb1 hb2 hfn hfe hb3 hre
theorem frsW_ok:∀{fs:List Fr},frsW fs=0->∀f∈fs,frW f=0
 | [],_,_,hf=>by cases hf
 | g :: fs,h,f,hf=>by
  unfold frsW at h
  by_cases hg:frW g=0
  ·rw[if_pos hg]at h
   rcases mC.1 hf with rfl | hf
   ·exact hg
   exact frsW_ok h f hf
  rw[if_neg hg]at h;exact absurd h hg
theorem wrongMem_ok (a:Option Addr) (c:Nat) (fs:List Fr) (h:Int) (w:Xn) (hv:frRowAt w (O a fs.length c) fs) (h0:memW fs h=0):
  Xp Tryz.prog 58 #[Xi #[O a fs.length c,Xe Xf h]] w fun e w'=>e= Xl (Xe Xf 0)/\Grew w w':=by
 have hbig:=hv.short;obtain⟨a',c',heq,hrow⟩:=hv.frs;cases heq;have HR:Xo (FrRows w a fs):=hrow;clear hrow hv;have hm:memW fs h=if 40<fs.length then 4 else if frsW fs=0 then(if inB h (max fs.length 1)then 0 else 3)else frsW fs:=rfl;rw[h0]at hm;obtain⟨n,HN⟩:∃n,Xo (fs.length=n):=⟨_,rfl⟩;rw[HN.out]at hbig hm⊢;have h40:¬40<n:=fun e=>by rw[if_pos e]at hm;cases hm
 rw[if_neg h40]at hm;have HF:Xo (∀f∈fs,frW f=0):=show∀f∈fs,_ from frsW_ok (Decidable.byContradiction fun e=>e (by rw[if_neg e]at hm;exact hm.symm))
 have hz:frsW fs=0:=Decidable.byContradiction fun e=>e (by rw[if_neg e]at hm;exact hm.symm)
 rw[if_pos hz]at hm;have hin:inB h (max n 1)=Xc:=by
  cases e:inB h (max n 1)with
  | true=>rfl
  | false=>rw[e]at hm;cases hm
 clear hm hz h0;have h40z:¬(40:Int)< (n:Int):=by omega
 have HBE:Xo (∀W,Xp Tryz.prog 109 #[Xe Xf h,Xe Xf (max (n:Int) 1)] W fun e w'=>e= Xl (Xh Xc)/\w'=W):=show∀W,_ from fun W=>by
  have k:=frBelow_any h (max (n:Int) 1) W;rw[show inB h (max (n:Int) 1)=inB h (max n 1) by simp,hin]at k
  exact k
 clear hin;obtain⟨W0,hW0⟩:∃W0,w.alloc (Xk #[O a n c,Xe Xf h] 29)=W0:=⟨_,rfl⟩;have HG0:=gA hW0
 have X0:=xA hW0
 have HW0:Xo (_=W0):=hW0;clear hW0 h40
 go_enter Tryz.func58,Tryz.ntmps58
 go_wp2;rw[HW0.out]
 go_loopg [13] n (fun gg s13 wr=>∃kk:Nat,kk<=n/\n - kk<=gg/\s13= Xe Xf kk/\Xo (Grew W0 wr))
 case atStart=>exact⟨0,nZ _,by omega,rfl,Grew.refl _⟩
 obtain⟨kk,hkk,hg,rfl,BW⟩:=hrel
 by_cases hlt:kk<n
 ·have hltz:(kk:Int)< (n:Int):=by omega
  obtain⟨q,HQ⟩:∃q,Xo (fs[kk]? =Xa q):=⟨_,gE (by rw[HN.out];exact hlt)⟩
  obtain⟨ad,rfl,hl⟩:=HR.out kk q HQ.out;obtain⟨d0,d1,d2,d3,d4,d5,d6,d7,d8,d9,d10,d11,d12⟩:=hl wr (HG0.out.trans BW.out);have hcall:=fun W=>wrongFrame_ok q W (HF.out q (mG HQ.out))
  clear hl
  go_wp2_with (go_at_call 108;refine(hcall _).mono ?_;rintro e w' ⟨rfl,hb'⟩)
  go_roundg (n -(kk+1))
  case measure=>omega
  exact⟨kk+1,by omega,by omega,by go_num,(BW.out.trans (grew_alloc _ _)).trans hb'⟩
 have hltz:¬(kk:Int)< (n:Int):=by omega
 have:kk=n:=by omega
 subst this;have e0:=(X0.out.grew BW.out).c 0 rfl;have e1:=(X0.out.grew BW.out).c 1 rfl;have hbel:=HBE.out
 go_wp2_with (go_at_call 109;refine(hbel _).mono ?_;rintro e w' ⟨rfl,rfl⟩)
 go_ret;exact⟨rfl,HG0.out.trans BW.out⟩
theorem chk_ok (V:MaV) (m:Ma) (w:Xn) (hm:MachAt w V m) (h0:maW m=0) (k:Nat) (f:Nat) (hf:chk[k]? =Xa f):
  Xp Tryz.prog f #[Xi #[O V.f.a V.f.n V.f.c,Xe Xf m.hand,O V.s.a V.s.n V.s.c,O V.sb.a V.sb.n V.sb.c,O V.sq.a V.sq.n V.sq.c,O V.db.a V.db.n V.db.c,O V.dq.a V.dq.n V.dq.c,O V.fl.a V.fl.n V.fl.c,Xe Xf m.cnt,O V.ca.a V.ca.n V.ca.c,O V.sp.a V.sp.n V.sp.c]] w fun e w'=>e= Xl (Xe Xf 0)/\Grew w w':=by
 have hz:∀e∈chkE m,e=0:=firstE_zero.1 (by rw[<-h0,maW_six];rfl)
 have z0:firstE (wPartsL m)=0:=hz _ (by simp[chkE])
 have z1:firstE (wDisksL m)=0:=hz _ (by simp[chkE])
 have z2:wSpaces m=0:=hz _ (by simp[chkE])
 have z3:wCache m=0:=hz _ (by simp[chkE])
 have z4:wPages m=0:=hz _ (by simp[chkE])
 have z5:wCounts m=0:=hz _ (by simp[chkE])
 have r1:Right1 m:=right1.1 z0
 match k,hf with
 | 0,hf=>
  cases hf;have k:=wrongParts_of V m w hm fun W hW=>by
   obtain⟨n1,-⟩:=hm.ns;have h:=(hm.grew hW).fs;rw[n1]at h⊢;have hw:memW m.fs m.hand=0:=firstE_zero.1 z0 _ (by simp[wPartsL])
   rw[hw];exact wrongMem_ok _ _ m.fs m.hand W h hw
  rw[z0]at k;exact k
 | 1,hf=>cases hf;rw[<-z1];exact wrongDisks_any V m w hm r1
 | 2,hf=>cases hf;rw[<-z2];exact wrongSpaces_any V m w hm
 | 3,hf=>cases hf;rw[<-z3];exact wrongCache_any V m w hm r1
 | 4,hf=>cases hf;rw[<-z4];exact wrongPagesM_any V m w hm r1 (rightSp z2)
 | 5,hf=>cases hf;rw[<-z5];exact wrongCounts_any V m w hm z3 (wSpaces_four z2) (fun s hs=>(rightSp z2 s hs).2)
 | k+6,hf=>simp[chk]at hf
theorem wrongM_ok (V:MaV) (m:Ma) (w:Xn) (hm:MachAt w V m) (h0:maW m=0):
  Xp Tryz.prog 20 #[Xi #[O V.f.a V.f.n V.f.c,Xe Xf m.hand,O V.s.a V.s.n V.s.c,O V.sb.a V.sb.n V.sb.c,O V.sq.a V.sq.n V.sq.c,O V.db.a V.db.n V.db.c,O V.dq.a V.dq.n V.dq.c,O V.fl.a V.fl.n V.fl.c,Xe Xf m.cnt,O V.ca.a V.ca.n V.ca.c,O V.sp.a V.sp.n V.sp.c]] w fun e w'=>e= Xl (Xe Xf 0)/\Grew w w':=by
 have HCK:Xo (∀W,Grew w W->∀(k f:Nat),chk[k]? =Xa f->Xp Tryz.prog f #[Xi #[O V.f.a V.f.n V.f.c,Xe Xf m.hand,O V.s.a V.s.n V.s.c,O V.sb.a V.sb.n V.sb.c,O V.sq.a V.sq.n V.sq.c,O V.db.a V.db.n V.db.c,O V.dq.a V.dq.n V.dq.c,O V.fl.a V.fl.n V.fl.c,Xe Xf m.cnt,O V.ca.a V.ca.n V.ca.c,O V.sp.a V.sp.n V.sp.c]] W fun e w'=>e= Xl (Xe Xf 0)/\Grew W w'):=show∀W,_ from fun W hW k f hf=>chk_ok V m W (hm.grew hW) h0 k f hf
 clear hm h0;obtain⟨W0,hW0⟩:∃W0,(w.alloc (Xk #[O V.f.a V.f.n V.f.c,Xe Xf m.hand,O V.s.a V.s.n V.s.c,O V.sb.a V.sb.n V.sb.c,O V.sq.a V.sq.n V.sq.c,O V.db.a V.db.n V.db.c,O V.dq.a V.dq.n V.dq.c,O V.fl.a V.fl.n V.fl.c,Xe Xf m.cnt,O V.ca.a V.ca.n V.ca.c,O V.sp.a V.sp.n V.sp.c] 42)).alloc (Xk #[.func (.func 28) #[] #[],.func (.func 29) #[] #[],.func (.func 30) #[] #[],.func (.func 31) #[] #[],.func (.func 32) #[] #[],.func (.func 33) #[] #[]] 77)=W0:=⟨_,rfl⟩;have HG0:=gD2 hW0
 have X0:=x2a hW0
 have Y0:Xo (Box W0 (w.heap.size+1) (chk.map fnV)):=show Box _ _ _ by rw[<-hW0];exact Box.top _ (chk.map fnV) _ (by simp)
 have HW0:Xo (_=W0):=hW0;clear hW0
 go_enter Tryz.func20,Tryz.ntmps20
 go_upto_region 2 with fail;rw[HW0.out];go_wp2
 go_loopg [10] 6 (fun gg s10 wr=>∃kk:Nat,kk<=6/\6 - kk<=gg/\s10= Xe Xf kk/\Xo (Grew W0 wr))
 case atStart=>exact⟨0,nZ _,by omega,rfl,Grew.refl _⟩
 obtain⟨kk,hkk,hgg,rfl,BW⟩:=hrel;have HG:=dD (HG0.out.trans BW.out)
 by_cases hlt:kk<6
 ·have hltz:(kk:Int)<6:=by omega
  obtain⟨f,HF⟩:∃f,Xo (chk[kk]? =Xa f):=⟨_,gE (by simp[chk];exact hlt)⟩
  have y0:wr.cell? ⟨w.heap.size+1,kk,Xb⟩=Xa (.func (.func f) #[] #[]):=(Y0.out.grew BW.out).c kk (by rw[Xx,HF.out];rfl)
  have eg:=chk_enters kk f HF.out;have hcall:=HCK.out wr HG.out kk f HF.out;have XW:=dD (X0.out.grew BW.out);obtain⟨x0,x1,x2,x3,x4,x5,x6,x7,x8,x9,x10⟩:=XW.out.c11;go_wp2_with fail;refine hcall.mono ?_;clear hcall x0 x1 x2 x3 x4 x5 x6 x7 x8 x9 x10 y0;rintro e' W2 ⟨rfl,hg2⟩;have BW2:=dD (BW.out.trans hg2);clear hg2 eg BW;go_wp2
  go_roundg (6 -(kk+1))
  case measure=>omega
  exact⟨kk+1,by omega,by omega,by go_num,BW2.out⟩
 have hltz:¬(kk:Int)<6:=by omega
 go_wp2;go_ret;exact⟨rfl,HG.out⟩
theorem cwEntry_any {w0 w:Xn} {p:Nat} {V:MaV} {m:Ma} (h:ChW w0 p w V m) (q:Nat) (hq:q<m.sp.length) (n:Int):
  Xp Tryz.prog 136 #[Xj (Xa ⟨p,0,Xb⟩),Xi #[Xe Xf (q:Int),Xe Xf n]] w fun e w'=>e= Xl (enV (entM m q n))/\Grew w w':=by
 obtain⟨s,hs⟩:∃s,m.sp[q]? =Xa s:=⟨_,gE hq⟩;obtain⟨xs,s1,s2,s3⟩:=h.sp;obtain⟨x,hx⟩:∃x,xs[q]? =Xa x:=⟨_,gE (by rw[s2];exact hq)⟩
 have HAT:Xo (SpaceAt w x s):=s3 q x s hx hs w (OutD.refl _ _);obtain⟨xn,HXN⟩:∃xn,Xo (xs.length=xn):=⟨_,rfl⟩;obtain⟨g,c,heq⟩:=s1.formS (by omega)
 rw[HXN.out]at heq;have c10:=h.box.box.c 10 rfl;rw[heq]at c10 s1;have hqz:(q:Int)< (xn:Int):=by have:=HXN.out;omega
 have HC10:Xo (w.cell? ⟨p,10,Xb⟩=Xa (O (Xa ⟨g,0,Xb⟩) xn c)):=c10;have HBX:Xo (BoxT w p 88 (chL V m)):=h.box;have hce:Sp10 w ((Addr.mk g 0 Xb).add (q*10)) x:=(s1.one hx).sp10;rw[Yq,zA]at hce;have HCE:Xo (∀W,Grew w W->Sp10 W ⟨g,q*10,Xb⟩ x):=show∀W,_ from fun W hW=>by
  have:=((s1.grew hW).one hx).sp10;rw[Yq,zA]at this;exact this
 have HVS:Xo (O V.sp.a V.sp.n V.sp.c= O (Xa ⟨g,0,Xb⟩) xn c):=heq;obtain⟨E,HE⟩:∃E,Xo (entM m q n=E):=⟨_,rfl⟩;have HG:Xo (∀W,Grew w W->Xp Tryz.prog 69 #[Xi #[O x.t0.a x.t0.n x.t0.c,O x.t1.a x.t1.n x.t1.c,O x.t2.a x.t2.n x.t2.c,O x.t3.a x.t3.n x.t3.c,O x.t4.a x.t4.n x.t4.c,O x.t5.a x.t5.n x.t5.c,O x.t6.a x.t6.n x.t6.c,O x.t7.a x.t7.n x.t7.c],Xe Xf n] W fun e w'=>e= Xl (enV E)/\Grew W w'):=show∀W,_ from fun W hW=>by
  have k:=getTb_any x.tab s.tb n W (HAT.out.tb.grew hW);rw[show getT s.tb n=E from by rw[<-HE.out];unfold entM;rw[Sp.getD_of hs]]at k
  exact k
 rw[HE.out];clear h hq hs s1 s2 s3 hx heq c10 hce HAT;obtain⟨W1,hW1⟩:∃W1,(w.alloc (Xk #[Xe Xf (q:Int),Xe Xf n] 141)).alloc (Xk #[Xe Xf 0,Xe Xf 0,Xh Xd] 127)=W1:=⟨_,rfl⟩;have G1:=gD2 hW1
 have X1:=x2a hW1
 have Y1:=x2b hW1
 have HW1:Xo (_=W1):=hW1;clear hW1
 go_enter Tryz.func136,Tryz.ntmps136
 go_upto_region 1 with fail;rw[HW1.out];obtain⟨b,HB⟩:∃b,Xo (w.heap.size=b):=⟨_,rfl⟩;rw[HB.out]at X1 Y1⊢;obtain⟨I,HI⟩:∃I:Xn->Prop,Xo (∀u,I u↔Grew W1 u):=⟨fun u=>Grew W1 u,fun _=>Iff.rfl⟩
 have hI0:I W1.drew:=(HI.out _).2 (gW _)
 have ht:∀y:HoldI I,y.world.cell? ⟨p,10,Xb⟩=Xa (O (Xa ⟨g,0,Xb⟩) xn c):=fun y=>by rw[<-HVS.out];exact(HBX.out.box.grew (G1.out.trans ((HI.out _).1 y.holds))).c 10 rfl
 have hx0:=X1.out.h HI.out 0 rfl
 have hx1:=X1.out.h HI.out 1 rfl
 have hce:∀y:HoldI I,Sp10 y.world ⟨g,q*10,Xb⟩ x:=fun y=>HCE.out _ (G1.out.trans ((HI.out _).1 y.holds))
 have h2:=fun y=>(hce y).2.2.1
 have h3:=fun y=>(hce y).2.2.2.1
 have h4:=fun y=>(hce y).2.2.2.2.1
 have h5:=fun y=>(hce y).2.2.2.2.2.1
 have h6:=fun y=>(hce y).2.2.2.2.2.2.1
 have h7:=fun y=>(hce y).2.2.2.2.2.2.2.1
 have h8:=fun y=>(hce y).2.2.2.2.2.2.2.2.1
 have h9:=fun y=>(hce y).2.2.2.2.2.2.2.2.2
 dsimp only at h2 h3 h4 h5 h6 h7 h8 h9;clear hce;have hne:Nonempty (HoldI I):=⟨⟨_,hI0⟩⟩;refine wp_lax_tailD (I:=I) 13 [(12,fun v=>v=enV E)] (fun u=>True) hI0 trivial mixed (by kernel_rfl) rfl rfl (by decide) ?hS (by kernel_rfl) ?_
 case hS=>
  intro x hx;simp only[mC,nM,or_false]at hx;subst hx;exact⟨_,rfl⟩
 simp only[Yn,Yo];iterate 1 (refine laxD_quiet rfl rfl rfl (fun K hK=>?_);go_big_quiet_op;refine hK _ ?_;clear hK K)
 refine laxD_nilc (.tmp 5) ⟨p,0,Xb⟩ rfl rfl rfl rfl ?_;simp only[Ya,sB,sS,sZ];iterate 10 (refine laxD_quiet rfl rfl rfl (fun K hK=>?_);go_big_quiet_op;refine hK _ ?_;clear hK K)
 refine laxD_spec rfl rfl (fun _ u=>True) (fun w' hI' hF'=>?_) (fun v1 hv=>?_)
 ·refine Does.call [Xi #[O x.t0.a x.t0.n x.t0.c,O x.t1.a x.t1.n x.t1.c,O x.t2.a x.t2.n x.t2.c,O x.t3.a x.t3.n x.t3.c,O x.t4.a x.t4.n x.t4.c,O x.t5.a x.t5.n x.t5.c,O x.t6.a x.t6.n x.t6.c,O x.t7.a x.t7.n x.t7.c],Xe Xf n] rfl Tryz.func69 rfl rfl rfl ?_;refine(HG.out w' (G1.out.trans ((HI.out _).1 hI'))).mono ?_;rintro e w'' ⟨rfl,g2⟩;exact⟨_,rfl,(HI.out _).2 (((HI.out _).1 hI').trans g2),rfl,trivial⟩
 cases hv;simp only[Ya,sB,sS,sZ];refine laxD_nil fun W8 hI8 hF8=>?_
 have G8:Xo (Grew W1 W8):=(HI.out _).1 hI8;have Y8:=dD (Y1.out.grew G8.out);clear hI8 hF8 hI0 ht hx0 hx1 h2 h3 h4 h5 h6 h7 h8 h9 hne HI;unfold enV;refine wp_storeAll rfl 127 (.tmp 4) (.tmp 17) rfl (b+1) rfl [Xe Xf E.kind,Xe Xf E.n,Xh E.wr] rfl Y8.out rfl (by kernel_rfl) (by simp[Value.oneCell']) ?_
 intro W9 bx9 gr9 _;have G9:Xo (Grew w W9):=show Grew _ _ from grew_grown (G1.out.trans G8.out) gr9 (by have:=HB.out;omega)
 have B9:Xo (Box W9 (b+1) [Xe Xf E.kind,Xe Xf E.n,Xh E.wr]):=bx9;clear bx9 gr9;go_wp2;refine bodyPost_ret (ret_cell rfl _ rfl B9.out Tryz.underlying127 rfl (by kernel_rfl)) rfl ⟨rfl,G9.out⟩
theorem hoF (a:Option Addr) (c:Nat) (fs:List Fr) (h:Int) (i:Nat) (q:Fr) (nn:Int) (w:Xn) (hv:frRowAt w (O a fs.length c) fs) (hz:memW fs h=0) (hq:fs[i]? =Xa q) (hr:(q.r == 0)=Xd) (hn:¬nn< -q.r) (hn2:¬1000 - q.r<nn) (hs:q.r+nn=0):
  Xp Tryz.prog 173 #[Xi #[O a fs.length c,Xe Xf h],Xe Xf (i:Int),Xe Xf nn] w fun e w'=>∃b,e= Xl (Xm #[Xi #[b,Xe Xf h],Xe Xf 0])/\frOwnRow w.heap.size w' b (fs.set i frF)/\Grew w w':=by
 have HV:Xo (frRowAt w (O a fs.length c) fs):=hv;have HS:Xo (q.r+nn=0):=hs;clear hs;have hw:∀W,Grew w W->Xp Tryz.prog 58 #[Xi #[O a fs.length c,Xe Xf h]] W fun e w'=>e= Xl (Xe Xf (memW fs h))/\Grew W w':=fun W hW=>by rw[hz];exact wrongMem_ok a c fs h W (HV.out.grew hW) hz
 have hbl:∀W,Xp Tryz.prog 109 #[Xe Xf (i:Int),Xe Xf (fs.length:Int)] W fun e w'=>e= Xl (Xh (inB (i:Int) fs.length))/\w'=W:=fun W=>frBelow_any (i:Int) _ W
 have ho:∀W,Grew w W->Xp Tryz.prog 51 #[Xi #[O a fs.length c,Xe Xf h]] W fun e w'=>∃b,e= Xl (Xi #[b,Xe Xf h])/\frOwnRow W.heap.size w' b fs/\Grew W w':=fun W hW=>ownMem_any a c fs h W (HV.out.grew hW)
 have hb1000:=frW_zero ((memW_zero hz).2.1 q (mG hq));have hil:i<fs.length:=(gS.1 hq).1;obtain⟨a',c',heq,hrow⟩:=hv.frs;cases heq;obtain⟨ad,rfl,hl⟩:=hrow i q hq;have HL:Xo (∀W,Grew w W->FrCells W (ad.add (i*13)) q):=hl;have HQ:Xo (fs[i]? =Xa q):=hq;clear hrow hl hq;simp only[show inB (i:Int) fs.length=Xc from by simp[inB];exact hil]at hbl
 have hbig:=hv.short;clear hv;simp only[hz]at hw;clear hz;obtain⟨n,HN⟩:∃n,Xo (fs.length=n):=⟨_,rfl⟩;simp only[HN.out]at hw HV hbig hbl ho hil⊢;have hiz:(i:Int)< (n:Int):=by omega
 obtain⟨hb1,hb2⟩:=hb1000;obtain⟨W0,hW0⟩:∃W0,(w.alloc (Xk #[O (Xa ad) n c,Xe Xf h] 29)).alloc (Xk #[O Xb 0 0,Xe Xf 0] 29)=W0:=⟨_,rfl⟩;have HG0:=gD2 hW0
 have X0:=x2a hW0
 have X2:=x2b hW0
 have HW0:Xo (_=W0):=hW0;clear hW0
 go_enter Tryz.func173,Tryz.ntmps173
 go_upto_region 1 with fail;rw[HW0.out];have e0:=X0.out.c 0 rfl;have e1:=X0.out.c 1 rfl;go_wp2_with fail;refine(hw _ HG0.out).mono ?_;rintro e W1 ⟨rfl,g1⟩;have G1:Xo (Grew W0 W1):=g1;clear g1 e0 e1 hw;obtain⟨-,-,-,-,-,-,-,-,d8,-,-,-,-⟩:=HL.out W1 (HG0.out.trans G1.out);have e0:=(X0.out.grew G1.out).c 0 rfl;have e1:=(X0.out.grew G1.out).c 1 rfl
 go_wp2_with (go_at_call 109;refine(hbl _).mono ?_;rintro e w' ⟨rfl,hw'⟩;rw[hw'];clear hw' w')
 refine(ho _ (HG0.out.trans G1.out)).mono ?_;rintro e W4 ⟨b,rfl,hown,g4⟩;obtain⟨g,cv,rfl⟩:=hown.formS (by rw[HN.out];omega)
 rw[HN.out]at hown⊢;have OW:Xo (frOwnRow W1.heap.size W4 (O (Xa ⟨g,0,Xb⟩) n cv) fs):=hown;have G4:=dD (G1.out.trans g4);have g34:Xo (W1.heap.size<=W4.heap.size):=bS g4;clear hown g4 e0 e1 ho d8;have hgl:=OW.out.lt g rfl;have hne:g≠W4.heap.size:=by omega
 have u8:=(OW.out.grew (grew_alloc W4 (Xk #[O (Xa ⟨g,0,Xb⟩) n cv,Xe Xf h] 29))).frc HQ.out 8 rfl
 go_wp2_with (refine frWpList_store_part rfl (.tmp 61) (.tmp 59) 3 rfl W1.heap.size (O (Xa ⟨g,0,Xb⟩) n cv) fs (OW.out.grew (grew_alloc _ _)) g i 8 rfl q { q with r:=q.r+nn } HQ.out [Xe Xf (q.r+nn)] (by kernel_rfl) rfl (Yf rfl) (by intro u hu;simp at hu;subst hu;rfl) _ rfl (by simp) _ rfl rfl ?_)
 intro W5 ow5 gr5 sz5;have OW5:Xo (frOwnRow W1.heap.size W5 (O (Xa ⟨g,0,Xb⟩) n cv) (fs.set i { q with r:=q.r+nn })):=ow5;have h34:=g34.out;have h03:W0.heap.size<=W1.heap.size:=bS G1.out;have hx2:=X2.out.lt;have XO:Xo (Box W5 W4.heap.size [O (Xa ⟨g,0,Xb⟩) n cv,Xe Xf h]):=(Box.top W4 _ _ rfl).beside gr5 (fun g' hg'=>by cases hg';omega)
 have X25:Xo (Box W5 (w.heap.size+1) [O Xb 0 0,Xe Xf 0]):=((X2.out.grew G4.out).alloc _).beside gr5 (fun g' hg'=>by cases hg';omega)
 have G5:Xo (Grew W0 W5):=grew_beside (G4.out.trans (grew_alloc _ _)) gr5 (fun g' hg'=>by cases hg';omega)
 have HQ5:Xo ((fs.set i { q with r:=q.r+nn })[i]? =Xa { q with r:=q.r+nn }):=show _=_ by rw[sF (by rw[HN.out];exact hil)]
 clear ow5 gr5 sz5 u8;have u8:=OW5.out.frc HQ5.out 8 rfl;have o0:=XO.out.c 0 rfl;have o1:=XO.out.c 1 rfl;have r0:=X25.out.c 0 rfl;have r1:=X25.out.c 1 rfl;have rf:=X25.out.f;simp only at u8;have hsb:(q.r+nn == 0)=Xc:=by simp[HS.out]
 go_wp2;have hx0:∀x:GrownW W5,x.world.cell? ⟨W4.heap.size,0,Xb⟩=Xa (O (Xa ⟨g,0,Xb⟩) n cv):=fun x=>(XO.out.grew x.grew).c 0 rfl
 have hne5:Nonempty (GrownW W5):=⟨⟨_,Grew.refl _⟩⟩;clear u8 o0 o1 r0 r1 rf;refine wp_lax_tail 5 [(3,⟨fun v=>v= Xi (frv frF).toArray,fun _ _=>True⟩)] mixed (by kernel_rfl) rfl rfl (by decide) ?_ ?_ ?_
 ·intro x hx
  simp at hx
  subst hx;exact⟨_,rfl⟩
 ·intro x hx
  simp at hx
  subst hx;exact fun _ _ _ _ h=>h
 simp only[Yn,Yo];iterate 3 (refine lax_quiet rfl rfl rfl (fun K hK=>?_);go_big_quiet_op;refine hK _ ?_;clear hK K)
 refine lax_spec rfl rfl (fun w' hg hF=>?_) (fun v1 hv=>?_)
 ·refine Does.call [] rfl Tryz.func26 rfl rfl rfl ?_;refine(freeFrame_any w').mono ?_;rintro e w'' ⟨rfl,hg2⟩;exact⟨_,rfl,hg2,rfl,trivial⟩
 subst hv;simp only[Ya,sB,sS,sZ,frv,frF,pg0];iterate 1 (refine lax_quiet rfl rfl rfl (fun K hK=>?_);go_big_quiet_op;refine hK _ ?_;clear hK K)
 refine lax_nil fun W6 hg6 hF=>?_
 have OW6:=dD (OW5.out.grew hg6);have XO6:=dD (XO.out.grew hg6);have X26:=dD (X25.out.grew hg6);have G6:=dD (G5.out.trans hg6);clear hF hx0 hg6 hne5
 go_wp2_with (refine frWpList_store_elt rfl (.tmp 73) (.tmp 72) rfl W1.heap.size _ _ OW6.out g i rfl frF (by rw[List.length_set,HN.out];exact hil) _ rfl (by simp) _ rfl rfl ?_)
 intro W7 ow7 gr7 sz7;have OW7:Xo (frOwnRow W1.heap.size W7 (O (Xa ⟨g,0,Xb⟩) n cv) (fs.set i frF)):=ow7;have XO7:Xo (Box W7 W4.heap.size [O (Xa ⟨g,0,Xb⟩) n cv,Xe Xf h]):=XO6.out.beside gr7 (fun g' hg'=>by cases hg';omega)
 have X27:Xo (Box W7 (w.heap.size+1) [O Xb 0 0,Xe Xf 0]):=X26.out.beside gr7 (fun g' hg'=>by cases hg';omega)
 have G7:Xo (Grew W0 W7):=grew_beside G6.out gr7 (fun g' hg'=>by cases hg';omega)
 clear ow7 gr7 sz7;have o0:=XO7.out.c 0 rfl;have o1:=XO7.out.c 1 rfl;have r0:=X27.out.c 0 rfl;have r1:=X27.out.c 1 rfl;have rf:=X27.out.f;go_wp2;refine bodyPost_ret (v:= Xm #[Xi #[O (Xa ⟨g,0,Xb⟩) n cv,Xe Xf h],Xe Xf 0]) (by simp[results,Tryz.results173,go_sem, *]) rfl ⟨_,rfl,?_,?_⟩
 ·exact((OW7.out.setCell (a:=⟨w.heap.size+1,0,Xb⟩) (by show w.heap.size+1<_;omega) _).setCell (a:=⟨w.heap.size+1,1,Xb⟩) (by show w.heap.size+1<_;omega) _).base (by have:=bS HG0.out;omega)
 exact grew_set (grew_set (HG0.out.trans G7.out) (by simp) _) (by simp) _
theorem hoG (a:Option Addr) (c:Nat) (fs:List Fr) (h:Int) (i:Nat) (q:Fr) (nn:Int) (w:Xn) (hv:frRowAt w (O a fs.length c) fs) (hz:memW fs h=0) (hq:fs[i]? =Xa q) (hr:(q.r == 0)=Xd) (hn:¬nn< -q.r) (hn2:¬1000 - q.r<nn) (hs:(q.r+nn == 0)=Xd):
  Xp Tryz.prog 173 #[Xi #[O a fs.length c,Xe Xf h],Xe Xf (i:Int),Xe Xf nn] w fun e w'=>∃b,e= Xl (Xm #[Xi #[b,Xe Xf h],Xe Xf 0])/\frOwnRow w.heap.size w' b (fs.set i { q with r:=q.r+nn })/\Grew w w':=by
 have HV:Xo (frRowAt w (O a fs.length c) fs):=hv;have hw:∀W,Grew w W->Xp Tryz.prog 58 #[Xi #[O a fs.length c,Xe Xf h]] W fun e w'=>e= Xl (Xe Xf (memW fs h))/\Grew W w':=fun W hW=>by rw[hz];exact wrongMem_ok a c fs h W (HV.out.grew hW) hz
 have hbl:∀W,Xp Tryz.prog 109 #[Xe Xf (i:Int),Xe Xf (fs.length:Int)] W fun e w'=>e= Xl (Xh (inB (i:Int) fs.length))/\w'=W:=fun W=>frBelow_any (i:Int) _ W
 have ho:∀W,Grew w W->Xp Tryz.prog 51 #[Xi #[O a fs.length c,Xe Xf h]] W fun e w'=>∃b,e= Xl (Xi #[b,Xe Xf h])/\frOwnRow W.heap.size w' b fs/\Grew W w':=fun W hW=>ownMem_any a c fs h W (HV.out.grew hW)
 have hb1000:=frW_zero ((memW_zero hz).2.1 q (mG hq));have hil:i<fs.length:=(gS.1 hq).1;obtain⟨a',c',heq,hrow⟩:=hv.frs;cases heq;obtain⟨ad,rfl,hl⟩:=hrow i q hq;have HL:Xo (∀W,Grew w W->FrCells W (ad.add (i*13)) q):=hl;have HQ:Xo (fs[i]? =Xa q):=hq;clear hrow hl hq;simp only[show inB (i:Int) fs.length=Xc from by simp[inB];exact hil]at hbl
 have hbig:=hv.short;clear hv;simp only[hz]at hw;clear hz;obtain⟨n,HN⟩:∃n,Xo (fs.length=n):=⟨_,rfl⟩;simp only[HN.out]at hw HV hbig hbl ho hil⊢;have hiz:(i:Int)< (n:Int):=by omega
 obtain⟨hb1,hb2⟩:=hb1000;obtain⟨W0,hW0⟩:∃W0,(w.alloc (Xk #[O (Xa ad) n c,Xe Xf h] 29)).alloc (Xk #[O Xb 0 0,Xe Xf 0] 29)=W0:=⟨_,rfl⟩;have HG0:=gD2 hW0
 have X0:=x2a hW0
 have X2:=x2b hW0
 have HW0:Xo (_=W0):=hW0;clear hW0
 go_enter Tryz.func173,Tryz.ntmps173
 go_upto_region 1 with fail;rw[HW0.out];have e0:=X0.out.c 0 rfl;have e1:=X0.out.c 1 rfl;go_wp2_with fail;refine(hw _ HG0.out).mono ?_;rintro e W1 ⟨rfl,g1⟩;have G1:Xo (Grew W0 W1):=g1;clear g1 e0 e1 hw;obtain⟨-,-,-,-,-,-,-,-,d8,-,-,-,-⟩:=HL.out W1 (HG0.out.trans G1.out);have e0:=(X0.out.grew G1.out).c 0 rfl;have e1:=(X0.out.grew G1.out).c 1 rfl
 go_wp2_with (go_at_call 109;refine(hbl _).mono ?_;rintro e w' ⟨rfl,hw'⟩;rw[hw'];clear hw' w')
 refine(ho _ (HG0.out.trans G1.out)).mono ?_;rintro e W4 ⟨b,rfl,hown,g4⟩;obtain⟨g,cv,rfl⟩:=hown.formS (by rw[HN.out];omega)
 rw[HN.out]at hown⊢;have OW:Xo (frOwnRow W1.heap.size W4 (O (Xa ⟨g,0,Xb⟩) n cv) fs):=hown;have G4:=dD (G1.out.trans g4);have g34:Xo (W1.heap.size<=W4.heap.size):=bS g4;clear hown g4 e0 e1 ho d8;have hgl:=OW.out.lt g rfl;have hne:g≠W4.heap.size:=by omega
 have u8:=(OW.out.grew (grew_alloc W4 (Xk #[O (Xa ⟨g,0,Xb⟩) n cv,Xe Xf h] 29))).frc HQ.out 8 rfl
 go_wp2_with (refine frWpList_store_part rfl (.tmp 61) (.tmp 59) 3 rfl W1.heap.size (O (Xa ⟨g,0,Xb⟩) n cv) fs (OW.out.grew (grew_alloc _ _)) g i 8 rfl q { q with r:=q.r+nn } HQ.out [Xe Xf (q.r+nn)] (by kernel_rfl) rfl (Yf rfl) (by intro u hu;simp at hu;subst hu;rfl) _ rfl (by simp) _ rfl rfl ?_)
 intro W5 ow5 gr5 sz5;have OW5:Xo (frOwnRow W1.heap.size W5 (O (Xa ⟨g,0,Xb⟩) n cv) (fs.set i { q with r:=q.r+nn })):=ow5;have h34:=g34.out;have h03:W0.heap.size<=W1.heap.size:=bS G1.out;have hx2:=X2.out.lt;have XO:Xo (Box W5 W4.heap.size [O (Xa ⟨g,0,Xb⟩) n cv,Xe Xf h]):=(Box.top W4 _ _ rfl).beside gr5 (fun g' hg'=>by cases hg';omega)
 have X25:Xo (Box W5 (w.heap.size+1) [O Xb 0 0,Xe Xf 0]):=((X2.out.grew G4.out).alloc _).beside gr5 (fun g' hg'=>by cases hg';omega)
 have G5:Xo (Grew W0 W5):=grew_beside (G4.out.trans (grew_alloc _ _)) gr5 (fun g' hg'=>by cases hg';omega)
 have HQ5:Xo ((fs.set i { q with r:=q.r+nn })[i]? =Xa { q with r:=q.r+nn }):=show _=_ by rw[sF (by rw[HN.out];exact hil)]
 clear ow5 gr5 sz5 u8;have u8:=OW5.out.frc HQ5.out 8 rfl;have o0:=XO.out.c 0 rfl;have o1:=XO.out.c 1 rfl;have r0:=X25.out.c 0 rfl;have r1:=X25.out.c 1 rfl;have rf:=X25.out.f;simp only at u8;go_wp2;refine bodyPost_ret (v:= Xm #[Xi #[O (Xa ⟨g,0,Xb⟩) n cv,Xe Xf h],Xe Xf 0]) (by simp[results,Tryz.results173,go_sem, *]) rfl ⟨_,rfl,?_,?_⟩
 ·exact((OW5.out.setCell (a:=⟨w.heap.size+1,0,Xb⟩) (by show w.heap.size+1<_;omega) _).setCell (a:=⟨w.heap.size+1,1,Xb⟩) (by show w.heap.size+1<_;omega) _).base (by have:=bS HG0.out;omega)
 exact grew_set (grew_set (HG0.out.trans G5.out) (by simp) _) (by simp) _
theorem holdE_zero {fs:List Fr} {h k nn:Int} (he:holdE fs h k nn=0):∃(i:Nat) (q:Fr),k=(i:Int)/\fs[i]? =Xa q/\memW fs h=0/\q.r≠0/\-q.r<=nn/\nn<=1000 - q.r/\holdF fs h k nn=fs.set i (frH q nn)/\holdH fs h k nn=h:=by
 have he0:=he;unfold holdE at he
 split at he
 ·rename_i h0
  split at he
  ·rename_i h1
   simp only[inB,Xs,decide_eq_true_eq,Bool.not_eq_true',beq_eq_false_iff_ne]at h1;obtain⟨⟨h2,h3⟩,h4⟩:=h1
   split at he
   ·rename_i h5
    have hl:k.toNat<fs.length:=by omega
    have e:fs.getD k.toNat fr0=fs[k.toNat]:=by rw[gD,gE hl];rfl
    rw[e]at h4 h5;refine⟨k.toNat,fs[k.toNat],by omega,gE hl,h0,h4,h5.1,h5.2,?_,?_⟩
    ·unfold holdF;rw[if_pos he0,e]
    unfold holdH;rw[if_pos he0]
   cases he
  cases he
 rename_i h0
 exact absurd he h0
theorem holdO_ok (a:Option Addr) (c:Nat) (fs:List Fr) (h k nn:Int) (w:Xn) (hv:frRowAt w (O a fs.length c) fs) (he:holdE fs h k nn=0):
  Xp Tryz.prog 173 #[Xi #[O a fs.length c,Xe Xf h],Xe Xf k,Xe Xf nn] w fun e w'=>∃b,e= Xl (Xm #[Xi #[b,Xe Xf h],Xe Xf 0])/\frOwnRow w.heap.size w' b (holdF fs h k nn)/\Grew w w':=by
 obtain⟨i,q,rfl,hq,hm,hr,h1,h2,hf,_⟩:=holdE_zero he;rw[hf]
 by_cases hs:q.r+nn=0
 ·rw[show frH q nn=frF from if_pos hs]
  exact hoF a c fs h i q nn w hv hm hq (by simpa using hr) (by omega) (by omega) hs
 rw[show frH q nn={ q with r:=q.r+nn }from if_neg hs]
 exact hoG a c fs h i q nn w hv hm hq (by simpa using hr) (by omega) (by omega) (by simpa using hs)
theorem cwHold_any {w0 w:Xn} {p:Nat} {V:MaV} {m:Ma} (h:ChW w0 p w V m) (z:En) (n:Int) (hk:z.kind=1->holdE m.fs m.hand z.n n=0):
  Xp Tryz.prog 135 #[Xj (Xa ⟨p,0,Xb⟩),Xi #[Xe Xf z.kind,Xe Xf z.n,Xh z.wr],Xe Xf n] w fun e w'=>(∃v,e= Xl v)/\Chg w0 p w V (holdM m z n) w':=by
 have HM:Xo (ChW w0 p w V m):=h;obtain⟨n1,n2,-⟩:=h.at.ns;have HF:Xo (z.kind=1->∀W,Grew w W->Xp Tryz.prog 173 #[Xi #[O V.f.a V.f.n V.f.c,Xe Xf m.hand],Xe Xf z.n,Xe Xf n] W fun e w'=>∃b:Sli,e= Xl (Xm #[Xi #[O b.a b.n b.c,Xe Xf m.hand],Xe Xf 0])/\OwnRow frmE W.heap.size w' (O b.a b.n b.c) (holdF m.fs m.hand z.n n)/\Grew W w'):=show _->∀W,_ from fun hk1 W hW=>by
  have k:=(h.at.grew hW).fs;rw[n1]at k⊢;refine(holdO_ok V.f.a V.f.c m.fs m.hand z.n n W k (hk hk1)).mono ?_;rintro e w' ⟨b,rfl,nr,g⟩;have nr':OwnRow frmE W.heap.size w' b (holdF m.fs m.hand z.n n):=nr;obtain⟨a,c,rfl,_⟩:=nr'.at.rows;exact⟨⟨a,_,c⟩,rfl,nr,g⟩
 have HSL:Xo (∀W,Grew w W->Xp Tryz.prog 174 #[O V.s.a V.s.n V.s.c,Xe Xf z.n,Xe Xf n] W fun e w'=>∃b:Sli,e= Xl (Xm #[O b.a b.n b.c,Xe Xf (holdSE m.sl z.n n)])/\NewRow slE W.heap.size w' (O b.a b.n b.c) (holdSL m.sl z.n n)/\Grew W w'):=show∀W,_ from fun W hW=>by
  have k:=(h.at.grew hW).sl;rw[n2]at k⊢;refine(holdS_any V.s.a V.s.c m.sl z.n n W k).mono ?_;rintro e w' ⟨a,c,rfl,nr,g⟩;exact⟨⟨a,_,c⟩,rfl,nr,g⟩
 have HD:Xo (∀k,Dw p V k->k<w.heap.size):=h.dlt;clear h n1 n2;obtain⟨W1,hW1⟩:∃W1,w.alloc (Xk #[Xe Xf z.kind,Xe Xf z.n,Xh z.wr] 127)=W1:=⟨_,rfl⟩;have G1:=gA hW1
 have Y1:=xA hW1
 have HW1:Xo (_=W1):=hW1;clear hW1;have y0:=Y1.out.c 0 rfl
 go_enter Tryz.func135,Tryz.ntmps135
 go_upto_region 1 with fail;rw[HW1.out];obtain⟨b,HB⟩:∃b,Xo (w.heap.size=b):=⟨_,rfl⟩;rw[HB.out]at Y1 y0⊢
 by_cases k1:z.kind=1
 ·have hk1:(z.kind == 1)=Xc:=by rw[k1];rfl
  have HH:Xo (holdM m z n={ m with fs:=holdF m.fs m.hand z.n n,hand:=m.hand }):=show _=_ by
   obtain⟨_,_,_,_,_,_,_,_,_,e9⟩:=holdE_zero (hk k1);unfold holdM;rw[if_pos k1,e9]
  have HF:Xo (∀W,_):=HF.out k1;clear k1;go_upto_region 3 with fail;clear y0;obtain⟨I,HI⟩:∃I:Xn->Prop,Xo (∀u,I u↔Box u b [Xe Xf z.kind,Xe Xf z.n,Xh z.wr]):=⟨fun u=>Box u b [Xe Xf z.kind,Xe Xf z.n,Xh z.wr],fun _=>Iff.rfl⟩
  have hI0:I W1.drew:=(HI.out _).2 (Y1.out.grew (gW _))
  have hF0:Grew W1 W1.drew:=show Below _ _ _ from(bR _ _).drew
  have hy1:∀y:HoldI I,y.world.cell? ⟨b,1,Xb⟩=Xa (Xe Xf z.n):=fun y=>((HI.out _).1 y.holds).c 1 rfl
  have hne:Nonempty (HoldI I):=⟨⟨_,hI0⟩⟩;refine wp_lax_tailD (I:=I) 17 [(5,fun v=>v= Xi #[O V.f.a V.f.n V.f.c,Xe Xf m.hand]),(9,fun v=>∃s:Sli,v= Xm #[Xi #[O s.a s.n s.c,Xe Xf m.hand],Xe Xf 0]),(16,fun _=>True)] (fun u=>Grew W1 u) hI0 hF0 mixed (by kernel_rfl) rfl rfl (by decide) ?hS (by kernel_rfl) ?_
  case hS=>
   intro x hx;simp only[mC,nM,or_false]at hx
   rcases hx with rfl | rfl | rfl
   ·exact⟨_,rfl⟩
   ·exact⟨_,sli0,rfl⟩
   exact⟨undef,trivial⟩
  simp only[Yn,Yo];iterate 2 (refine laxD_quiet rfl rfl rfl (fun K hK=>?_);go_big_quiet_op;refine hK _ ?_;clear hK K)
  refine laxD_nilc (.tmp 12) ⟨p,0,Xb⟩ rfl rfl rfl rfl ?_;simp only[Ya,sB,sS,sZ];iterate 2 (refine laxD_quiet rfl rfl rfl (fun K hK=>?_);go_big_quiet_op;refine hK _ ?_;clear hK K)
  refine laxD_spec rfl rfl (fun _ u=>Grew W1 u) (fun w' hI' hF'=>?_) (fun v1 hv=>?_)
  ·refine does_load 29 (.tmp 15) rfl p 0 rfl [O V.f.a V.f.n V.f.c,Xe Xf m.hand] ((HM.out.box.box.grew (G1.out.trans hF')).mid 0 (fun j v hj=>by
    match j,hj with
    | 0,hj=>exact hj
    | 1,hj=>exact hj)) Tryz.underlying29 rfl (by kernel_rfl) ⟨hI',rfl,hF'⟩
  cases hv;simp only[Ya,sB,sS,sZ];iterate 3 (refine laxD_quiet rfl rfl rfl (fun K hK=>?_);go_big_quiet_op;refine hK _ ?_;clear hK K)
  refine laxD_spec rfl rfl (fun v u=>∃(s:Sli) (Wa:Xn),v= Xm #[Xi #[O s.a s.n s.c,Xe Xf m.hand],Xe Xf 0]/\Grew W1 Wa/\Grew Wa u/\OwnRow frmE Wa.heap.size u (O s.a s.n s.c) (holdF m.fs m.hand z.n n)) (fun w' hI' hF'=>?_) (fun v1 hv=>?_)
  ·refine Does.call [Xi #[O V.f.a V.f.n V.f.c,Xe Xf m.hand],Xe Xf z.n,Xe Xf n] rfl Tryz.func173 rfl rfl rfl ?_;refine(HF.out w' (G1.out.trans hF')).mono ?_;rintro e w'' ⟨s,rfl,t2,g2⟩;exact⟨_,rfl,(HI.out _).2 (((HI.out _).1 hI').grew g2),⟨s,rfl⟩,s,w',rfl,hF',g2,t2⟩
  obtain⟨s,rfl⟩:=hv;simp only[Ya,sB,sS,sZ];iterate 3 (refine laxD_quiet rfl rfl rfl (fun K hK=>?_);go_big_quiet_op;refine hK _ ?_;clear hK K)
  refine laxD_nilc (.tmp 11) ⟨p,0,Xb⟩ rfl rfl rfl rfl ?_;simp only[Ya,sB,sS,sZ];iterate 2 (refine laxD_quiet rfl rfl rfl (fun K hK=>?_);go_big_quiet_op;refine hK _ ?_;clear hK K)
  refine laxD_spec rfl rfl (fun _ u=>Chg w0 p w V { m with fs:=holdF m.fs m.hand z.n n,hand:=m.hand } u) (fun w' hI' hF'=>?_) (fun v1 hv=>?_)
  ·obtain⟨s',Wa,he,ga,gb,t8⟩:=hF';have hss:s'=s:=by
    obtain⟨a1,a2,a3⟩:=s;obtain⟨b1,b2,b3⟩:=s';simp only[Value.tuple.injEq,Array.mk.injEq,List.cons.injEq,Value.agg.injEq,vJ,and_true]at he;obtain⟨rfl,rfl,rfl⟩:=he;rfl
   subst hss;have G8:Grew w w':=(G1.out.trans ga).trans gb;refine does_storeT 29 (.tmp 25) (.tmp 21) rfl p 0 rfl (Xi #[O s'.a s'.n s'.c,Xe Xf m.hand]) rfl [O s'.a s'.n s'.c,Xe Xf m.hand] rfl (HM.out.box.grew G8) (by simp[chL]) (by kernel_rfl) (by simp[Value.oneCell']) ?_
   intro W9 bx9 gr9 _;have hpl:=HD.out p (.inl rfl);exact⟨(HI.out _).2 (((HI.out _).1 hI').grown gr9 (by have:=HB.out;omega)),trivial,HM.out.setF G8 (t8.base (nT (bS G1.out) (bS ga))) gr9 bx9⟩
  clear hv;try simp only[Ya]
  refine laxD_nil fun W9 hI8 hF8=>?_
  have M9:Xo (Chg w0 p w V (holdM m z n) W9):=show Chg _ _ _ _ _ _ by rw[HH.out];exact hF8
  clear hI8 hF8 hI0 hF0 hy1 hne HI;go_wp2
  (first | go_end0 | ((try simp only[Exit.inBlock,Exit.then]);refine bodyPost_ret (results_none rfl _ _ _) rfl ?_))
  first | exact M9.out | exact⟨⟨_,rfl⟩,M9.out⟩
 have hk1:(z.kind == 1)=Xd:=by simpa using k1
 by_cases k2:z.kind=2
 ·have hk2:(z.kind == 2)=Xc:=by rw[k2];rfl
  have HH:Xo (holdM m z n={ m with sl:=holdSL m.sl z.n n }):=show _=_ by unfold holdM;rw[if_neg k1,if_pos k2]
  clear k1 k2;go_upto_region 5 with fail;clear y0;obtain⟨I,HI⟩:∃I:Xn->Prop,Xo (∀u,I u↔Box u b [Xe Xf z.kind,Xe Xf z.n,Xh z.wr]):=⟨fun u=>Box u b [Xe Xf z.kind,Xe Xf z.n,Xh z.wr],fun _=>Iff.rfl⟩
  have hI0:I W1.drew:=(HI.out _).2 (Y1.out.grew (gW _))
  have hF0:Grew W1 W1.drew:=show Below _ _ _ from(bR _ _).drew
  have hy1:∀y:HoldI I,y.world.cell? ⟨b,1,Xb⟩=Xa (Xe Xf z.n):=fun y=>((HI.out _).1 y.holds).c 1 rfl
  have hne:Nonempty (HoldI I):=⟨⟨_,hI0⟩⟩;refine wp_lax_tailD (I:=I) 17 [(5,fun v=>v= O V.s.a V.s.n V.s.c),(9,fun v=>∃s:Sli,v= Xm #[O s.a s.n s.c,Xe Xf (holdSE m.sl z.n n)]),(16,fun _=>True)] (fun u=>Grew W1 u) hI0 hF0 mixed (by kernel_rfl) rfl rfl (by decide) ?hS (by kernel_rfl) ?_
  case hS=>
   intro x hx;simp only[mC,nM,or_false]at hx
   rcases hx with rfl | rfl | rfl
   ·exact⟨_,rfl⟩
   ·exact⟨_,sli0,rfl⟩
   exact⟨undef,trivial⟩
  simp only[Yn,Yo];iterate 2 (refine laxD_quiet rfl rfl rfl (fun K hK=>?_);go_big_quiet_op;refine hK _ ?_;clear hK K)
  refine laxD_nilc (.tmp 30) ⟨p,0,Xb⟩ rfl rfl rfl rfl ?_;simp only[Ya,sB,sS,sZ];iterate 2 (refine laxD_quiet rfl rfl rfl (fun K hK=>?_);go_big_quiet_op;refine hK _ ?_;clear hK K)
  refine laxD_spec rfl rfl (fun _ u=>Grew W1 u) (fun w' hI' hF'=>?_) (fun v1 hv=>?_)
  ·exact does_load1 31 (.tmp 33) rfl p 2 rfl (O V.s.a V.s.n V.s.c) ((HM.out.box.box.grew (G1.out.trans hF')).c 2 rfl) Tryz.underlying31 rfl ⟨hI',rfl,hF'⟩
  cases hv;simp only[Ya,sB,sS,sZ];iterate 3 (refine laxD_quiet rfl rfl rfl (fun K hK=>?_);go_big_quiet_op;refine hK _ ?_;clear hK K)
  refine laxD_spec rfl rfl (fun v u=>∃(s:Sli) (Wa:Xn),v= Xm #[O s.a s.n s.c,Xe Xf (holdSE m.sl z.n n)]/\Grew W1 Wa/\Grew Wa u/\NewRow slE Wa.heap.size u (O s.a s.n s.c) (holdSL m.sl z.n n)) (fun w' hI' hF'=>?_) (fun v1 hv=>?_)
  ·refine Does.call [O V.s.a V.s.n V.s.c,Xe Xf z.n,Xe Xf n] rfl Tryz.func174 rfl rfl rfl ?_;refine(HSL.out w' (G1.out.trans hF')).mono ?_;rintro e w'' ⟨s,rfl,t2,g2⟩;exact⟨_,rfl,(HI.out _).2 (((HI.out _).1 hI').grew g2),⟨s,rfl⟩,s,w',rfl,hF',g2,t2⟩
  obtain⟨s,rfl⟩:=hv;simp only[Ya,sB,sS,sZ];iterate 3 (refine laxD_quiet rfl rfl rfl (fun K hK=>?_);go_big_quiet_op;refine hK _ ?_;clear hK K)
  refine laxD_nilc (.tmp 29) ⟨p,0,Xb⟩ rfl rfl rfl rfl ?_;simp only[Ya,sB,sS,sZ];iterate 2 (refine laxD_quiet rfl rfl rfl (fun K hK=>?_);go_big_quiet_op;refine hK _ ?_;clear hK K)
  refine laxD_spec rfl rfl (fun _ u=>Chg w0 p w V { m with sl:=holdSL m.sl z.n n } u) (fun w' hI' hF'=>?_) (fun v1 hv=>?_)
  ·obtain⟨s',Wa,he,ga,gb,t8⟩:=hF';have hss:s'=s:=by
    obtain⟨a1,a2,a3⟩:=s;obtain⟨b1,b2,b3⟩:=s';simp only[Value.tuple.injEq,Array.mk.injEq,List.cons.injEq,vJ,and_true]at he;obtain⟨rfl,rfl,rfl⟩:=he;rfl
   subst hss;have G8:Grew w w':=(G1.out.trans ga).trans gb;refine does_storeT 31 (.tmp 43) (.tmp 39) rfl p 2 rfl (O s'.a s'.n s'.c) rfl [O s'.a s'.n s'.c] rfl (HM.out.box.grew G8) (by simp[chL]) (by kernel_rfl) (by simp[Value.oneCell']) ?_
   intro W9 bx9 gr9 _;have hpl:=HD.out p (.inl rfl);exact⟨(HI.out _).2 (((HI.out _).1 hI').grown gr9 (by have:=HB.out;omega)),trivial,HM.out.setS G8 (t8.base (nT (bS G1.out) (bS ga))) gr9 bx9⟩
  clear hv;try simp only[Ya]
  refine laxD_nil fun W9 hI8 hF8=>?_
  have M9:Xo (Chg w0 p w V (holdM m z n) W9):=show Chg _ _ _ _ _ _ by rw[HH.out];exact hF8
  clear hI8 hF8 hI0 hF0 hy1 hne HI;go_wp2
  (first | go_end0 | ((try simp only[Exit.inBlock,Exit.then]);refine bodyPost_ret (results_none rfl _ _ _) rfl ?_))
  first | exact M9.out | exact⟨⟨_,rfl⟩,M9.out⟩
 have hk2:(z.kind == 2)=Xd:=by simpa using k2
 have HH:Xo (holdM m z n=m):=show _=_ by unfold holdM;rw[if_neg k1,if_neg k2]
 clear k1 k2;have M9:Xo (Chg w0 p w V (holdM m z n) W1):=show Chg _ _ _ _ _ _ by rw[HH.out];exact Chg.refl HM.out G1.out
 go_wp2
 (first | go_end0 | ((try simp only[Exit.inBlock,Exit.then]);refine bodyPost_ret (results_none rfl _ _ _) rfl ?_))
 first | exact M9.out | exact⟨⟨_,rfl⟩,M9.out⟩
def NewV (B:Nat) (V:MaV):Prop:=(fresh B V.f.v/\fresh B V.s.v/\fresh B V.sb.v/\fresh B V.sq.v)/\(fresh B V.db.v/\fresh B V.dq.v/\fresh B V.fl.v/\fresh B V.ca.v/\fresh B V.sp.v)
theorem fresh.less {a b:Nat} {v:Xq} (h:fresh b v) (k:a<=b):fresh a v:=fun x n c e=>nT k (h x n c e)
theorem newF_any (cf cs cb:Int) (hfew:fewB cf cs cb) (w:Xn):
  Xp Tryz.prog 13 #[Xi #[Xe Xf cf,Xe Xf cs,Xe Xf cb]] w fun e w'=>(∃V:MaV,e= Xl (Xm #[Xi #[O V.f.a V.f.n V.f.c,Xe Xf 0,O V.s.a V.s.n V.s.c,O V.sb.a V.sb.n V.sb.c,O V.sq.a V.sq.n V.sq.c,O V.db.a V.db.n V.db.c,O V.dq.a V.dq.n V.dq.c,O V.fl.a V.fl.n V.fl.c,Xe Xf cb,O V.ca.a V.ca.n V.ca.c,O V.sp.a V.sp.n V.sp.c],Xe Xf 0])/\MachAt w' V (newMa cf cs cb)/\NewV w.heap.size V/\∃ps,V.sp=⟨Xa ⟨ps,0,Xb⟩,1,1⟩)/\Grew w w':=by
 obtain⟨W0,hW0⟩:∃W0,(w.alloc (Xk #[Xe Xf cf,Xe Xf cs,Xe Xf cb] 48)).alloc (Xk #[O Xb 0 0,Xe Xf 0,O Xb 0 0,O Xb 0 0,O Xb 0 0,O Xb 0 0,O Xb 0 0,O Xb 0 0,Xe Xf 0,O Xb 0 0,O Xb 0 0] 42)=W0:=⟨_,rfl⟩;have HG0:=gD2 hW0
 have X0:=x2a hW0
 have Y0:=x2b hW0
 have HW0:Xo (_=W0):=hW0;clear hW0;obtain⟨e1,HE1⟩:∃e,Xo (newME cf=e):=⟨_,rfl⟩;obtain⟨e2,HE2⟩:∃e,Xo (newSE cs=e):=⟨_,rfl⟩;obtain⟨e3,HE3⟩:∃e,Xo (newErr cs=e):=⟨_,rfl⟩;obtain⟨e4,HE4⟩:∃e,Xo (newErr cb=e):=⟨_,rfl⟩;obtain⟨e5,HE5⟩:∃e:Int,Xo ((if 0<=cb/\cb<=80 then(0:Int)else 4)=e):=⟨_,rfl⟩;obtain⟨z5,HZ5⟩:∃e:Int,Xo ((if 0<=cb/\cb<=80 then cb else 0)=e):=⟨_,rfl⟩;have h1:=fun W=>newMem_all cf W
 have h2:=fun W=>newS_all cs W
 have h3:=fun W=>newDk_all cs W
 have h4:=fun W=>newDk_all cb W
 have h5:=fun W=>newSt_any cb W
 rw[HE1.out]at h1;rw[HE2.out]at h2;rw[HE3.out]at h3;rw[HE4.out]at h4;rw[HE5.out,HZ5.out]at h5;have HES:Xo (newEs cf cs cb=[e1,e2,e3,e4,e5]):=show _=_ by unfold newEs;rw[HE1.out,HE2.out,HE3.out,HE4.out,HE5.out]
 have H1:Xo (∀W,_):=h1;have H2:Xo (∀W,_):=h2;have H3:Xo (∀W,_):=h3;have H4:Xo (∀W,_):=h4;have H5:Xo (∀W,_):=h5;clear h1 h2 h3 h4 h5
 go_enter Tryz.func13,Tryz.ntmps13
 go_upto_region 1 with fail;rw[HW0.out];have x0:=X0.out.c 0 rfl;go_wp2_with fail;refine(H1.out _).mono ?_;rintro e W1 ⟨mf,rfl,⟨r1,f1⟩,g1⟩;clear x0;have R1:Xo (RowAt frmE W1 (O mf.a mf.n mf.c) (newMF cf)):=r1;have HG1:Xo (Grew W0 W1):=g1;have FR1:Xo (fresh W0.heap.size (O mf.a mf.n mf.c)):=f1;clear r1 g1 f1;go_upto_region 2 with fail;obtain⟨W2,hW2⟩:∃W2,W1.alloc (Xk #[O mf.a mf.n mf.c,Xe Xf 0] 29)=W2:=⟨_,rfl⟩;have HG2:=gA hW2
 have B2:=xA hW2
 rw[hW2];clear hW2;obtain⟨p2,HP2⟩:∃p,Xo (W1.heap.size=p):=⟨_,rfl⟩;rw[HP2.out]at B2⊢;have x1:=(X0.out.grew (HG1.out.trans HG2.out)).c 1 rfl;go_wp2_with fail;refine(H2.out _).mono ?_;rintro e W3 ⟨ms,rfl,⟨r3,f3⟩,g3⟩;clear x1;have R3:Xo (RowAt slE W3 (O ms.a ms.n ms.c) (newSL cs)):=r3;have HG3:Xo (Grew W2 W3):=g3;have HG03:=dD ((HG1.out.trans HG2.out).trans g3);have FR3:Xo (fresh W2.heap.size (O ms.a ms.n ms.c)):=f3;clear r3 g3 f3;have x1:=(X0.out.grew HG03.out).c 1 rfl;go_upto_region 3 with fail;go_wp2_with fail;refine(H3.out _).mono ?_;rintro e W4 ⟨mb,mq,rfl,⟨r4,r5,f4,f5⟩,g4⟩;clear x1;have R4:Xo (PagesAt W4 (O mb.a mb.n mb.c) (newD cs)):=r4;have R5:Xo (PutsAt W4 (O mq.a mq.n mq.c) []):=r5;have HG4:Xo (Grew W3 W4):=g4;have FR4:Xo (fresh W3.heap.size (O mb.a mb.n mb.c)):=f4;have FR5:Xo (fresh W3.heap.size (O mq.a mq.n mq.c)):=f5;clear r4 r5 g4 f4 f5;go_upto_region 4 with fail;obtain⟨W5,hW5⟩:∃W5,W4.alloc (Xk #[O mb.a mb.n mb.c,O mq.a mq.n mq.c] 35)=W5:=⟨_,rfl⟩;have HG5:=gA hW5
 have B5:=xA hW5
 rw[hW5];clear hW5;obtain⟨p5,HP5⟩:∃p,Xo (W4.heap.size=p):=⟨_,rfl⟩;rw[HP5.out]at B5⊢;have HG05:=dD ((HG03.out.trans HG4.out).trans HG5.out);have x2:=(X0.out.grew HG05.out).c 2 rfl;go_wp2_with fail;refine(H4.out _).mono ?_;rintro e W6 ⟨md,me,rfl,⟨r6,r7,f6,f7⟩,g6⟩;clear x2;have R6:Xo (PagesAt W6 (O md.a md.n md.c) (newD cb)):=r6;have R7:Xo (PutsAt W6 (O me.a me.n me.c) []):=r7;have HG6:Xo (Grew W5 W6):=g6;have FR6:Xo (fresh W5.heap.size (O md.a md.n md.c)):=f6;have FR7:Xo (fresh W5.heap.size (O me.a me.n me.c)):=f7;clear r6 r7 g6 f6 f7;go_upto_region 5 with fail;obtain⟨W7,hW7⟩:∃W7,W6.alloc (Xk #[O md.a md.n md.c,O me.a me.n me.c] 35)=W7:=⟨_,rfl⟩;have HG7:=gA hW7
 have B7:=xA hW7
 rw[hW7];clear hW7;obtain⟨p7,HP7⟩:∃p,Xo (W6.heap.size=p):=⟨_,rfl⟩;rw[HP7.out]at B7⊢;have HG07:=dD ((HG05.out.trans HG6.out).trans HG7.out);have x2:=(X0.out.grew HG07.out).c 2 rfl;go_wp2_with fail;refine(H5.out _).mono ?_;rintro e W8 ⟨rfl,g8⟩;clear x2;have HG8:Xo (Grew W7 W8):=g8;clear g8;go_upto_region 6 with fail;obtain⟨W9,hW9⟩:∃W9,W8.alloc (Xk #[O Xb 0 0,Xe Xf z5] 38)=W9:=⟨_,rfl⟩;have HG9:=gA hW9
 have B9:=xA hW9
 rw[hW9];clear hW9;obtain⟨p9,HP9⟩:∃p,Xo (W8.heap.size=p):=⟨_,rfl⟩;rw[HP9.out]at B9⊢;obtain⟨E,HE⟩:∃E,Xo (firstE [e1,e2,e3,e4,e5]=E):=⟨_,rfl⟩;have hor:=orErr_any (O (Xa ⟨W9.heap.size,0,Xb⟩) 5 5) [e1,e2,e3,e4,e5] _ (row_lit errE W9 [e1,e2,e3,e4,e5] #[Xe Xf e1,Xe Xf e2,Xe Xf e3,Xe Xf e4,Xe Xf e5] rfl (show 5*8<=140737488355328 by decide))
 rw[HE.out]at hor;go_wp2_with fail;refine hor.mono ?_;rintro e W10 ⟨rfl,hw10⟩;clear hor;have HG10:Xo (Grew W9 W10):=show Grew _ _ by rw[hw10];exact grew_alloc _ _
 clear hw10;have HGW:=dD (((HG07.out.trans HG8.out).trans HG9.out).trans HG10.out);have Y10:=dD (Y0.out.grew HGW.out);have hE0:E=0:=by rw[<-HE.out,<-HES.out];exact newEs_few hfew
 subst hE0;have b20:=(B2.out.grew ((((((HG3.out.trans HG4.out).trans HG5.out).trans HG6.out).trans HG7.out).trans HG8.out).trans (HG9.out.trans HG10.out))).c 0 rfl;have b21:=(B2.out.grew ((((((HG3.out.trans HG4.out).trans HG5.out).trans HG6.out).trans HG7.out).trans HG8.out).trans (HG9.out.trans HG10.out))).c 1 rfl;have b50:=(B5.out.grew (((HG6.out.trans HG7.out).trans HG8.out).trans (HG9.out.trans HG10.out))).c 0 rfl;have b51:=(B5.out.grew (((HG6.out.trans HG7.out).trans HG8.out).trans (HG9.out.trans HG10.out))).c 1 rfl;have b70:=(B7.out.grew ((HG8.out).trans (HG9.out.trans HG10.out))).c 0 rfl;have b71:=(B7.out.grew ((HG8.out).trans (HG9.out.trans HG10.out))).c 1 rfl;have b90:=(B9.out.grew HG10.out).c 0 rfl;have b91:=(B9.out.grew HG10.out).c 1 rfl;have HFEW:Xo (fewB cf cs cb):=hfew;clear hfew;go_upto_region 9 with fail;obtain⟨W11,hW11⟩:∃W11,W10.alloc (Xk #[Xh Xc,O Xb 0 0,O Xb 0 0,O Xb 0 0,O Xb 0 0,O Xb 0 0,O Xb 0 0,O Xb 0 0,O Xb 0 0,O Xb 0 0] 76)=W11:=⟨_,rfl⟩;have HG11:=gA hW11
 have S11:Xo (RowAt spcE W11 (O (Xa ⟨W10.heap.size,0,Xb⟩) 1 1) [⟨Xc,sli0,sli0,sli0,sli0,sli0,sli0,sli0,sli0,sli0⟩]):=show RowAt _ _ _ _ by rw[<-hW11];exact one_row spcE W10 ⟨Xc,sli0,sli0,sli0,sli0,sli0,sli0,sli0,sli0,sli0⟩ _ _ rfl (by decide)
 have Y11:=dD (Y10.out.grew HG11.out);have HW11:Xo (_=W11):=hW11;clear hW11;obtain⟨ps,HPS⟩:∃p,Xo (W10.heap.size=p):=⟨_,rfl⟩
 go_wp2_with (first | (rw[HW11.out];rw[HPS.out];refine wp_storeAll rfl 42 (.tmp 2) (.tmp 63) rfl (w.heap.size+1) rfl [O mf.a mf.n mf.c,Xe Xf 0,O ms.a ms.n ms.c,O mb.a mb.n mb.c,O mq.a mq.n mq.c,O md.a md.n md.c,O me.a me.n me.c,O Xb 0 0,Xe Xf z5,O Xb 0 0,O (Xa ⟨ps,0,Xb⟩) 1 1] rfl Y11.out rfl (by kernel_rfl) (fun v hv=>by
   simp only[mC,nM,or_false]at hv
   rcases hv with rfl | rfl | rfl | rfl | rfl | rfl | rfl | rfl | rfl | rfl | rfl <;> rfl) ?_))
 intro W12 hb12 hg12 _;clear b20 b21 b50 b51 b70 b71 b90 b91;have HG12:Xo (Grew w W12):=show Grew _ _ from grew_grown ((HG0.out.trans HGW.out).trans HG11.out) hg12 (by omega)
 have HS0:w.heap.size+1<W0.heap.size:=Y0.out.lt;have k1:=bS HG1.out;have k2:=bS HG2.out;have k3:=bS HG3.out;have k4:=bS HG4.out;have k5:=bS HG5.out;have kw:=bS HGW.out;have far:∀{b:Nat} {v:Xq},W0.heap.size<=b->fresh b v->∀x n c,v= O (Xa x) n c->Xa x.block≠Xa (w.heap.size+1):=fun hb hf x n c hv e=>by
  have:=hf x n c hv;simp only[Option.some.injEq]at e;omega
 have t1:Grew W1 W11:=((((((HG2.out.trans HG3.out).trans HG4.out).trans HG5.out).trans HG6.out).trans HG7.out).trans HG8.out).trans ((HG9.out.trans HG10.out).trans HG11.out);have t3:Grew W3 W11:=((((HG4.out.trans HG5.out).trans HG6.out).trans HG7.out).trans HG8.out).trans ((HG9.out.trans HG10.out).trans HG11.out);have t4:Grew W4 W11:=(((HG5.out.trans HG6.out).trans HG7.out).trans HG8.out).trans ((HG9.out.trans HG10.out).trans HG11.out);have t6:Grew W6 W11:=(HG7.out.trans HG8.out).trans ((HG9.out.trans HG10.out).trans HG11.out);have HMA:Xo (MachAt W12 ⟨mf,ms,mb,mq,md,me,sli0,sli0,⟨Xa ⟨ps,0,Xb⟩,1,1⟩⟩ (newMa cf cs cb)):=show MachAt _ _ _ by
  obtain⟨hf1,hf2,hf3⟩:=HFEW.out;refine⟨?_,?_,?_,?_,?_,?_,?_,RowAt.nil cchE W12,?_⟩
  ·have h:=(R1.out.grew t1).beside hg12 (far (nR _) FR1.out);unfold newMF at h;rw[if_pos hf1]at h;exact h
  ·have h:=(R3.out.grew t3).beside hg12 (far (by omega) FR3.out)
   unfold newSL at h;rw[if_pos hf2]at h;exact h
  ·have h:PagesAt W12 (O mb.a mb.n mb.c) (newD cs):=⟨(R4.out.grew t4).1.beside hg12 (far (by omega) FR4.out),R4.out.2⟩
   unfold newD at h;rw[if_pos (by omega)]at h
   exact h
  ·exact⟨(R5.out.grew t4).1.beside hg12 (far (by omega) FR5.out),R5.out.2⟩
  ·have h:PagesAt W12 (O md.a md.n md.c) (newD cb):=⟨(R6.out.grew t6).1.beside hg12 (far (by omega) FR6.out),R6.out.2⟩
   unfold newD at h;rw[if_pos hf3]at h;exact h
  ·exact⟨(R7.out.grew t6).1.beside hg12 (far (by omega) FR7.out),R7.out.2⟩
  ·exact⟨nR _,[],fun w' _=>RowAt.nil fvE w',rfl,fun i x f hx=>by simp at hx⟩
  have hs:=S11.out;rw[HPS.out]at hs;refine⟨_,hs.beside hg12 (fun x n c hx e=>?_),rfl,fun i x s hx hs=>?_⟩
  ·cases hx;simp only[Option.some.injEq]at e;have:=HPS.out;omega
  cases i with
  | zero=>
   cases hx;cases hs;exact⟨rfl,RowAt.nil arE W12,nR _,TabS.nil 0 0 W12⟩
  | succ i=>simp at hx
 have HNV:Xo (NewV w.heap.size ⟨mf,ms,mb,mq,md,me,sli0,sli0,⟨Xa ⟨ps,0,Xb⟩,1,1⟩⟩):=show NewV _ _ from by
  refine⟨⟨FR1.out.less (by omega),FR3.out.less (by omega),FR4.out.less (by omega),FR5.out.less (by omega)⟩,FR6.out.less (by omega),FR7.out.less (by omega),fresh_nil _,fresh_nil _,fun x n c e=>?_⟩
  cases e;have:=HPS.out
  show w.heap.size<=ps
  omega
 have hz5:z5=cb:=by rw[<-HZ5.out,if_pos HFEW.out.2.2]
 subst hz5;clear t1 t3 t4 t6 far k1 k2 k3 k4 k5 kw HS0;go_wp2;refine bodyPost_ret (ret_cell_tmp rfl _ rfl hb12 Tryz.underlying42 rfl (by kernel_rfl)) rfl ⟨⟨⟨mf,ms,mb,mq,md,me,sli0,sli0,⟨Xa ⟨ps,0,Xb⟩,1,1⟩⟩,rfl,HMA.out,HNV.out,ps,rfl⟩,HG12.out⟩
end
section
theorem cont_frame {m:Ma} {k:Nat} {fr:Fr} (hk:k<m.fs.length) (hca:caGo m Xb m.ca=0) (hc:cachedN m.ca k≠0->fr.p=(frAt m k).p) (file idx:Int):contL { m with fs:=m.fs.set k fr } file idx=contL m file idx:=by
 obtain⟨a1,_,_⟩:=caGo_zero.1 hca;refine cont_same (m:=m) (m':={ m with fs:=m.fs.set k fr }) rfl rfl rfl rfl (fun c hcm=>?_) file idx
 rw[frAt_set hk c.fr (caE_ok (a1 c hcm)).1.2.2.2.2.1]
 by_cases e:c.fr=(k:Int)
 ·rw[if_pos e,e];exact hc (by have:=cached_pos hcm;rw[e]at this;exact this)
 rw[if_neg e]
theorem see_frame {m:Ma} {k:Nat} {fr:Fr} {x:On} {e:En} (hk:k<m.fs.length) (hca:caGo m Xb m.ca=0) (hc:cachedN m.ca k≠0->fr.p=(frAt m k).p) (h0:e.kind=1->0<=e.n) (he:e.kind=1->e.n=(k:Int)->fr.p=(frAt m k).p/\(fr.f<0↔(frAt m k).f<0)):seeE { m with fs:=m.fs.set k fr } x e=seeE m x e:=by
 refine see_same rfl rfl (fun h1=>?_) (fun _=>rfl) (fun _=>rfl) (cont_frame hk hca hc)
 rw[frAt_set hk e.n (h0 h1)]
 by_cases ek:e.n=(k:Int)
 ·rw[if_pos ek,ek];exact he h1 ek
 rw[if_neg ek];exact⟨rfl,Iff.rfl⟩
section
variable{m:Ma} {T:List (Nat->En)}
theorem see_letGo (h:BInv m T) {k p n:Nat} {fr:Fr} {f:Nat->En} (hk:m.fs[k]? =Xa fr) (hT:T[p]? =Xa f) (hn:n<64) (he:(f n).kind=1) (hen:(f n).n=(k:Int)) {q j:Nat} {s:Sp} {g:Nat->En} (hg:T[q]? =Xa g) (hj:j<64) (hne:q≠p\/j≠n):seeE { m with fs:=m.fs.set k (letGo fr) } (onAt s.ars j) (g j)=seeE m (onAt s.ars j) (g j):=by
 have hcf:=h.cf k fr hk;have hpos:1<=holdN T 1 k:=by
  have:=held_of hT hn he;rw[hen]at this;exact this
 have hgo:fr.r≠1->letGo fr={ fr with r:=fr.r - 1 }:=fun h=>by unfold letGo;rw[if_neg h]
 refine see_frame (gS.1 hk).1 h.ca (fun h1=>?_) (fun h1=>?_) (fun h1 h2=>?_)
 ·rw[hgo (by omega),frAt_of hk]
 ·have:=(enW_zero (h.en hg hj)).2.1;omega
 have h3:=hold_two hT hn (kind:=1) (k:=(k:Int)) (by simp[isE,he,hen]) hg hj (by simp[isE,h1,h2]) (by
  rcases hne with e | e
  ·exact .inl fun h=>e h.symm
  exact .inr fun h=>e h.symm) (by decide)
 rw[hgo (by omega),frAt_of hk]
 exact⟨rfl,Iff.rfl⟩
theorem cont_letGo (h:BInv m T) {k p n:Nat} {fr:Fr} {f:Nat->En} (hk:m.fs[k]? =Xa fr) (hT:T[p]? =Xa f) (hn:n<64) (he:(f n).kind=1) (hen:(f n).n=(k:Int)) (file idx:Int):contL { m with fs:=m.fs.set k (letGo fr) } file idx=contL m file idx:=by
 have hcf:=h.cf k fr hk;have hpos:1<=holdN T 1 k:=by
  have:=held_of hT hn he;rw[hen]at this;exact this
 refine cont_frame (gS.1 hk).1 h.ca (fun h1=>?_) file idx
 unfold letGo;rw[if_neg (by omega),frAt_of hk]
end
structure Rt (m:Ma):Prop where
 w:maW m=0
 t8:∀s∈m.sp,s.tb.length=8
theorem Rt.inv {m:Ma} (h:Rt m):BInv m (flats m):=(right_inv h.w).1
theorem Rt.hand {m:Ma} (h:Rt m):0<=m.hand/\m.hand<max (m.fs.length:Int) 1:=(right_inv h.w).2
theorem Rt.tb {m:Ma} (h:Rt m) {s:Sp} (hs:s∈m.sp):TbOk s.tb:=by
 refine⟨h.t8 s hs,tbW_zero.1 ?_⟩;have h0:=h.w;unfold maW at h0;rw[firstE_zero]at h0;have h1:partE m=0:=h0 _ (by simp)
 unfold partE at h1;rw[firstE_zero]at h1;have p10:=firstE_zero.1 (h1 (firstE (m.sp.map spE)) (by simp)) (spE s) (Yc.2 ⟨s,hs,rfl⟩)
 unfold spE at p10
 split at p10
 ·rename_i a
  exact absurd p10 a
 split at p10
 ·rename_i a
  exact absurd p10 a
 rename_i a
 exact Classical.byContradiction a
theorem Rt.of {m:Ma} (hb:BInv m (flats m)) (ht:∀s∈m.sp,TbOk s.tb) (h0:0<=m.hand) (h1:m.hand<max (m.fs.length:Int) 1):Rt m:=by
 refine⟨?_,fun s hs=>(ht s hs).1⟩
 have:=hb.right h0 h1;rw[fin_self ht]at this;exact this
theorem flats_at {m:Ma} {p:Nat} {s:Sp} (h:m.sp[p]? =Xa s):(flats m)[p]? =Xa (flatN s):=by
 unfold flats;rw[Xx,h];rfl
theorem BInv.tabs {m:Ma} {T:List (Nat->En)} (h:BInv m T) {sp':List Sp} (hl:sp'.length=m.sp.length) (hs:∀(p:Nat) s s',m.sp[p]? =Xa s->sp'[p]? =Xa s'->s'.live=s.live/\s'.ars=s.ars):BInv { m with sp:=sp' } T:=by
 have back:∀(p:Nat) s',sp'[p]? =Xa s'->∃s,m.sp[p]? =Xa s/\s'.live=s.live/\s'.ars=s.ars:=fun p s' h'=>by
  have hp:p<m.sp.length:=by rw[<-hl];exact(gS.1 h').1
  exact⟨_,gE hp,hs p _ s' (gE hp) h'⟩
 refine⟨h.fs40,h.fok,h.sl60,h.sbl,h.sq,h.dok,h.st,h.cnt,h.blk,h.que,by show sp'.length<=4;rw[hl];exact h.spl,fun s' hs'=>?_,h.tl.trans hl.symm,?_,fun p s' f hs' hT n hn=>?_,h.cf,h.cs⟩
 ·obtain⟨p,hp⟩:=Xy hs';obtain⟨s,h1,h2,h3⟩:=back p s' hp;rw[h2,h3];exact h.spok s (mG h1)
 ·obtain⟨a1,a2,a3⟩:=caGo_zero.1 h.ca;exact caGo_zero.2 ⟨fun c hc=>a1 c hc,fun q c hq=>(by cases hq),a3⟩
 obtain⟨s,h1,h2,h3⟩:=back p s' hs';rw[h3];exact h.ent p s f h1 hT n hn
def putE (m:Ma) (p n:Nat) (e:En):Ma:={ m with sp:=m.sp.modify p fun s=>{ s with tb:=setT s.tb n e } }
theorem put_at {m:Ma} {p n:Nat} {e:En} {q:Nat}:(putE m p n e).sp[q]? =(m.sp[q]?).map fun s=>if p=q then{ s with tb:=setT s.tb n e }else s:=by
 unfold putE;simp only[Ym]
 by_cases h:p=q
 ·simp[h]
 simp[h]
theorem put_flat {s:Sp} (ht:TbOk s.tb) {n:Nat} (hn:n<64) {e:En} (he:enW e=0):flatN { s with tb:=setT s.tb n e }=updF (flatN s) n e:=by
 funext j
 unfold flatN updF;simp only;rw[getN_set ht hn he _ _ (Nat.mod_lt _ (by decide))]
 by_cases h:j=n
 ·rw[if_pos h,if_pos (by subst h;exact⟨rfl,rfl⟩)]
 rw[if_neg h,if_neg (fun k=>h (by omega))]
theorem flats_put {m:Ma} {p n:Nat} {e:En} {s:Sp} (hs:m.sp[p]? =Xa s) (ht:TbOk s.tb) (hn:n<64) (he:enW e=0):flats (putE m p n e)=(flats m).set p (updF (flatN s) n e):=by
 apply Xu
 intro q;have hpl:=(gS.1 hs).1;unfold flats;rw[Xx,put_at,Xz,List.length_map]
 by_cases h:p=q
 ·subst h;rw[hs,if_pos rfl,if_pos hpl];simp only[Option.map_some,if_pos,put_flat ht hn he]
 rw[if_neg h,Xx]
 cases m.sp[q]? with
 | none=>rfl
 | some x=>simp[h]
theorem put_len {m:Ma} {p n:Nat} {e:En}:(putE m p n e).sp.length=m.sp.length:=by simp[putE]
theorem putE_same {m:Ma} {p n:Nat} {e:En} {q:Nat} {s s':Sp} (hs:m.sp[q]? =Xa s) (hs':(putE m p n e).sp[q]? =Xa s'):s'.live=s.live/\s'.ars=s.ars:=by
 rw[put_at,hs]at hs';simp only[Option.map_some,Option.some.injEq]at hs';subst hs'
 split <;> exact⟨rfl,rfl⟩
theorem put_tabs {m:Ma} (ht:∀s∈m.sp,TbOk s.tb) {p n:Nat} {e:En} (he:enW e=0):∀s∈(putE m p n e).sp,TbOk s.tb:=fun s hs=>by
 obtain⟨q,hq⟩:=Xy hs;rw[put_at]at hq
 cases h:m.sp[q]? with
 | none=>rw[h]at hq;cases hq
 | some x=>
  rw[h]at hq;simp only[Option.map_some,Option.some.injEq]at hq;have hx:=ht x (mG h);subst hq
  split
  ·exact setT_ok hx he
  exact hx
theorem put_rt {m:Ma} {p n:Nat} {e:En} {s:Sp} (hs:m.sp[p]? =Xa s) (ht:∀s∈m.sp,TbOk s.tb) (hn:n<64) (he:enW e=0) (hb:BInv m ((flats m).set p (updF (flatN s) n e))) (h0:0<=m.hand/\m.hand<max (m.fs.length:Int) 1):Rt (putE m p n e):=by
 refine Rt.of ?_ (put_tabs ht he) h0.1 h0.2;rw[flats_put hs (ht s (mG hs)) hn he];exact hb.tabs put_len fun q s s' h1 h2=>putE_same h1 h2
structure Sam (S:Nat->Nat->Prop) (m m':Ma):Prop where
 spl:m'.sp.length=m.sp.length
 sp:∀(q:Nat) s s',m.sp[q]? =Xa s->m'.sp[q]? =Xa s'->s'.live=s.live/\s'.ars=s.ars
 see:∀(q n:Nat) s s',m.sp[q]? =Xa s->m'.sp[q]? =Xa s'->n<64->¬S q n->seeE m' (onAt s.ars n) (flatN s' n)=seeE m (onAt s.ars n) (flatN s n)
 fll:m'.fl.length=m.fl.length
 sz:∀f,szAt m' f=szAt m f
 bk:∀f,bkN m' f=bkN m f
 byt:∀(file k:Nat),(k:Int)<szAt m (file:Int)->(contL m' (file:Int) ((k / 8:Nat):Int)).getD (k % 8) 0=(contL m (file:Int) ((k / 8:Nat):Int)).getD (k % 8) 0
theorem Sam.refl (S:Nat->Nat->Prop) (m:Ma):Sam S m m:=⟨rfl,fun q s s' h h'=>by rw[h]at h';cases h';exact⟨rfl,rfl⟩,fun q n s s' h h' _ _=>by rw[h]at h';cases h';rfl,rfl,fun _=>rfl,fun _=>rfl,fun _ _ _=>rfl⟩
theorem Sam.trans {S S':Nat->Nat->Prop} {a b c:Ma} (h:Sam S a b) (k:Sam S' b c):Sam (fun q n=>S q n\/S' q n) a c:=by
 have mid:∀(q:Nat) s,a.sp[q]? =Xa s->∃t,b.sp[q]? =Xa t:=fun q s hs=>⟨_,gE (by rw[h.spl];exact(gS.1 hs).1)⟩
 refine⟨k.spl.trans h.spl,fun q s s' hs hs'=>?_,fun q n s s' hs hs' hn hS=>?_,k.fll.trans h.fll,fun f=>(k.sz f).trans (h.sz f),fun f=>(k.bk f).trans (h.bk f),fun file i hi=>(k.byt file i (by rw[h.sz];exact hi)).trans (h.byt file i hi)⟩
 ·obtain⟨t,ht⟩:=mid q s hs;have a1:=h.sp q s t hs ht;have a2:=k.sp q t s' ht hs';exact⟨a2.1.trans a1.1,a2.2.trans a1.2⟩
 obtain⟨t,ht⟩:=mid q s hs;have a1:=h.sp q s t hs ht;have a2:=k.see q n t s' ht hs' hn (fun e=>hS (.inr e))
 rw[a1.2]at a2;exact a2.trans (h.see q n s t hs ht hn (fun e=>hS (.inl e)))
theorem Sam.mono {S S':Nat->Nat->Prop} {a b:Ma} (h:Sam S a b) (hS:∀q n,S q n->S' q n):Sam S' a b:=⟨h.spl,h.sp,fun q n s s' hs hs' hn hn'=>h.see q n s s' hs hs' hn (fun e=>hn' (hS q n e)),h.fll,h.sz,h.bk,h.byt⟩
theorem Sam.put {m m1:Ma} {p n:Nat} {e:En} (hsp:m1.sp=m.sp) (hfl:m1.fl=m.fl) (ht:∀s∈m.sp,TbOk s.tb) (hn:n<64) (he:enW e=0) (hsee:∀(q j:Nat) s,m.sp[q]? =Xa s->j<64->(q≠p\/j≠n)->seeE m1 (onAt s.ars j) (flatN s j)=seeE m (onAt s.ars j) (flatN s j)) (hc:∀file idx,contL m1 file idx=contL m file idx):Sam (fun q j=>q=p/\j=n) m (putE m1 p n e):=by
 refine⟨by rw[put_len,hsp],fun q s s' hs hs'=>putE_same (by rw[hsp];exact hs) hs',fun q j s s' hs hs' hj hS=>?_,by show m1.fl.length=_;rw[hfl],fun f=>by show szAt m1 f=_;unfold szAt;rw[hfl],fun f=>by show bkN m1 f=_;unfold bkN;rw[hfl],fun file k _=>?_⟩
 ·rw[put_at,hsp,hs]at hs';simp only[Option.map_some,Option.some.injEq]at hs';have key:flatN s' j=flatN s j:=by
   subst hs'
   split
   ·rename_i h
    subst h;rw[put_flat (ht s (mG hs)) hn he];unfold updF;rw[if_neg (fun h=>hS ⟨rfl,h⟩)]
   rfl
  rw[key]
  show seeE m1 _ _=_
  refine hsee q j s hs hj ?_
  by_cases hq:q=p
  ·exact .inr fun h=>hS ⟨hq,h⟩
  exact .inl hq
 show(contL m1 _ _).getD _ _=_
 rw[hc]
def dropM (m:Ma) (p n:Nat):Ma:=
 let e:=flatN (m.sp.getD p ⟨Xd,[],[]⟩) n
 if e.kind=1 then putE { m with fs:=m.fs.set e.n.toNat (letGo (frAt m e.n)) } p n en0
 else if e.kind=2 then putE { m with sl:=m.sl.set e.n.toNat (m.sl.getD e.n.toNat 0 - 1) } p n en0
 else putE m p n en0
section
variable{m:Ma} {p n:Nat} {s:Sp}
theorem Rt.ent (h:Rt m) (hs:m.sp[p]? =Xa s) (hn:n<64):flatN s n=en0\/EntOk m (onAt s.ars n) (flatN s n):=h.inv.ent p s _ hs (flats_at hs) n hn
theorem Rt.present (h:Rt m) (hs:m.sp[p]? =Xa s) (hn:n<64) (hk:(flatN s n).kind=1):∃(k:Nat) (fr:Fr),(flatN s n).n=(k:Int)/\m.fs[k]? =Xa fr/\frAt m (flatN s n).n=fr/\fr.r≠0:=by
 rcases h.ent hs hn with e | e
 ·rw[e]at hk;cases hk
 obtain⟨c1,c2,c3,_⟩:=entE_present e (by omega)
 refine⟨(flatN s n).n.toNat,m.fs[(flatN s n).n.toNat]'(by omega),by omega,gE _,?_,fun h0=>?_⟩
 ·have:=frAt_of (m:=m) (k:=(flatN s n).n.toNat) (gE (by omega))
  rw[show(((flatN s n).n.toNat:Nat):Int)=(flatN s n).n by omega]at this
  exact this
 have h1:=(h.inv.free (gE (show(flatN s n).n.toNat<m.fs.length by omega)) h0).1
 have h2:=held_of (flats_at hs) hn hk;rw[show(((flatN s n).n.toNat:Nat):Int)=(flatN s n).n by omega]at h1
 omega
theorem Rt.swapped (h:Rt m) (hs:m.sp[p]? =Xa s) (hn:n<64) (hk:(flatN s n).kind=2):∃(k:Nat) (z:Int),(flatN s n).n=(k:Int)/\m.sl[k]? =Xa z/\m.sl.getD (flatN s n).n.toNat 0=z/\0<z/\(onAt s.ars n).is=Xc/\(onAt s.ars n).sh=Xd/\k<m.sb.length:=by
 rcases h.ent hs hn with e | e
 ·rw[e]at hk;cases hk
 obtain⟨e1,e2,e3⟩:=e;unfold entE at e3
 split at e3
 ·cases e3
 rename_i his
 split at e3
 ·cases e3
 rename_i hb
 have hn0:=(enW_zero e1).2.1.1;have hlt:(flatN s n).n< (m.sl.length:Int):=by
  rcases Int.lt_or_le (flatN s n).n m.sl.length with h1 | h1
  ·exact h1
  exact absurd (.inl h1) hb
 have hl:(flatN s n).n.toNat<m.sl.length:=by omega
 refine⟨(flatN s n).n.toNat,m.sl[(flatN s n).n.toNat],by omega,gE hl,?_,?_,?_,?_,?_⟩
 ·rw[gD,gE hl];rfl
 ·rw[h.inv.cs _ _ (gE hl)];have:=hold_pos (flats_at hs) hn (kind:=2) (k:=(((flatN s n).n.toNat:Nat):Int)) (by simp[isE,hk];omega) (by decide)
  omega
 ·cases hx:(onAt s.ars n).is with
  | true=>rfl
  | false=>exact absurd hx his
 ·cases hx:(onAt s.ars n).sh with
  | false=>rfl
  | true=>exact absurd (.inr hx) hb
 have:=h.inv.sbl;omega
theorem drop_ok (h:Rt m) (hs:m.sp[p]? =Xa s) (hn:n<64):Rt (dropM m p n)/\Sam (fun q j=>q=p/\j=n) m (dropM m p n):=by
 have hd:m.sp.getD p ⟨Xd,[],[]⟩=s:=by rw[gD,hs];rfl
 have ht:∀s∈m.sp,TbOk s.tb:=fun s hs=>h.tb hs
 unfold dropM;simp only[hd]
 by_cases h1:(flatN s n).kind=1
 ·rw[if_pos h1];obtain⟨k,fr,e1,e2,e3,e4⟩:=h.present hs hn h1;rw[e3,e1,tN];have hb:=h.inv.drop e2 (flats_at hs) hn h1 e1;refine⟨put_rt (m:={ m with fs:=m.fs.set k (letGo fr) }) hs ht hn enW_0 hb (by simpa using h.hand),Sam.put (m1:={ m with fs:=m.fs.set k (letGo fr) }) rfl rfl ht hn enW_0 (fun q j s' hs' hj hne=>see_letGo h.inv e2 (flats_at hs) hn h1 e1 (flats_at hs') hj hne) (fun file idx=>cont_letGo h.inv e2 (flats_at hs) hn h1 e1 file idx)⟩
 rw[if_neg h1]
 by_cases h2:(flatN s n).kind=2
 ·rw[if_pos h2];obtain⟨k,z,e1,e2,e3,e4,e5,e6,e7⟩:=h.swapped hs hn h2;rw[e3,e1,tN];have hb:=h.inv.dropS e2 (flats_at hs) hn h2 e1;exact⟨put_rt (m:={ m with sl:=m.sl.set k (z - 1) }) hs ht hn enW_0 hb h.hand,Sam.put (m1:={ m with sl:=m.sl.set k (z - 1) }) rfl rfl ht hn enW_0 (fun q j s' hs' hj hne=>rfl) (fun file idx=>rfl)⟩
 rw[if_neg h2];have he0:flatN s n=en0:=by
  rcases h.ent hs hn with e | e
  ·exact e
  have:=(enW_zero e.1).1;have:=e.2.1;omega
 refine⟨put_rt hs ht hn enW_0 ?_ h.hand,Sam.put rfl rfl ht hn enW_0 (fun q j s' hs' hj hne=>rfl) (fun file idx=>rfl)⟩
 have:updF (flatN s) n en0=flatN s:=by
  funext j
  unfold updF
  split
  ·rename_i hj
   rw[hj,he0]
  rfl
 rw[this];have:(flats m).set p (flatN s)=flats m:=by
  apply Xu
  intro q;rw[Xz]
  split
  ·rename_i hq
   subst hq;rw[if_pos (gS.1 (flats_at hs)).1,flats_at hs]
  rfl
 rw[this];exact h.inv
end
def joinM (m:Ma) (k p n:Nat):Ma:=putE { m with fs:=m.fs.set k { frAt m (k:Int)with r:=(frAt m (k:Int)).r+1 } } p n ⟨1,(k:Int),Xd⟩
section
variable{m:Ma} {k p n:Nat} {fr:Fr} {s:Sp}
theorem Rt.kind0 (h:Rt m) (hs:m.sp[p]? =Xa s) (hn:n<64) (hk:(flatN s n).kind=1):0<=(flatN s n).n:=by
 obtain⟨k,_,e,_⟩:=h.present hs hn hk;omega
theorem put_now {m1:Ma} {e:En} (ht:∀s∈m1.sp,TbOk s.tb) (hs:m1.sp[p]? =Xa s) (hn:n<64) (he:enW e=0) {s':Sp} (hs':(putE m1 p n e).sp[p]? =Xa s'):flatN s' n=e/\s'.ars=s.ars:=by
 rw[put_at,hs]at hs';simp only[Option.map_some,Option.some.injEq,if_true]at hs';subst hs';rw[put_flat (ht s (mG hs)) hn he];exact⟨by unfold updF;rw[if_pos rfl],rfl⟩
end
theorem put_other {m1:Ma} {e:En} {p n q j:Nat} {s s':Sp} (ht:∀s∈m1.sp,TbOk s.tb) (hn:n<64) (he:enW e=0) (hs:m1.sp[q]? =Xa s) (hs':(putE m1 p n e).sp[q]? =Xa s') (hne:¬(q=p/\j=n)):flatN s' j=flatN s j:=by
 rw[put_at,hs]at hs';simp only[Option.map_some,Option.some.injEq]at hs';subst hs'
 split
 ·rename_i h
  subst h;rw[put_flat (ht s (mG hs)) hn he];unfold updF;rw[if_neg (fun h=>hne ⟨rfl,h⟩)]
 rfl
def joinAll (m:Ma) (k:Nat):List (Nat × Nat)->Ma
 | []=>m
 | x :: l=>joinAll (joinM m k x.1 x.2) k l
section
variable{k:Nat}
theorem join_fs {m:Ma} {fr:Fr} (hk:m.fs[k]? =Xa fr) (p n:Nat):(joinM m k p n).fs[k]? =Xa { fr with r:=fr.r+1 }:=by
 show(m.fs.set k _)[k]? =_
 rw[sF (gS.1 hk).1,frAt_of hk]
def spAll (k:Nat) (l:List (Nat × Nat)) (sp:List Sp):List Sp:=l.foldl (fun sp x=>sp.modify x.1 fun s=>{ s with tb:=setT s.tb x.2 ⟨1,(k:Int),Xd⟩ }) sp
theorem joinAll_eq:∀(l:List (Nat × Nat)) {m:Ma} {fr:Fr},m.fs[k]? =Xa fr->joinAll m k l={ m with fs:=m.fs.set k { fr with r:=fr.r+(l.length:Int) },sp:=spAll k l m.sp }
 | [],m,fr,hk=>by
  have:m.fs.set k { fr with r:=fr.r+(([]:List (Nat × Nat)).length:Int) }=m.fs:=by
   apply Xu
   intro q;rw[Xz]
   split
   ·rename_i hq
    subst hq;rw[if_pos (gS.1 hk).1,hk];simp
   rfl
  rw[this];rfl
 | x :: l,m,fr,hk=>by
  show joinAll (joinM m k x.1 x.2) k l=_
  rw[joinAll_eq l (join_fs hk x.1 x.2)];have e1:(joinM m k x.1 x.2).fs=m.fs.set k { fr with r:=fr.r+1 }:=by
   show m.fs.set k _=_
   rw[frAt_of hk]
  have e2:fr.r+1+(l.length:Int)=fr.r+((x :: l).length:Int):=by simp only[List.length_cons];omega
  rw[e1,List.set_set];simp only[e2];rfl
def copyM (m:Ma) (k:Nat) (pg:Pg) (u:Bool) (l:List (Nat × Nat)):Ma:={ m with fs:=m.fs.set k ⟨pg,(l.length:Int),u,Xd,-1,0⟩,sp:=spAll k l m.sp }
theorem copy_way {m:Ma} {fr:Fr} (hk:m.fs[k]? =Xa fr) (pg:Pg) (u:Bool) (l:List (Nat × Nat)):
  joinAll { m with fs:=m.fs.set k ⟨pg,1,u,Xd,-1,0⟩ } k l={ m with fs:=m.fs.set k ⟨pg,1+(l.length:Int),u,Xd,-1,0⟩,sp:=spAll k l m.sp }:=by
 rw[joinAll_eq l (fr:=⟨pg,1,u,Xd,-1,0⟩) (by show(m.fs.set k _)[k]? =_;rw[sF (gS.1 hk).1])]
 simp only[List.set_set]
end
section
variable{m:Ma} {k p n:Nat} {fr:Fr} {s:Sp}
theorem marks_ok (h:Rt m) (hk:m.fs[k]? =Xa fr) (hr:fr.r≠0) (u d:Bool):Rt { m with fs:=m.fs.set k { fr with u:=u,d:=d } }/\Sam (fun _ _=>False) m { m with fs:=m.fs.set k { fr with u:=u,d:=d } }:=by
 have hkl:=(gS.1 hk).1;have hc:∀file idx,contL { m with fs:=m.fs.set k { fr with u:=u,d:=d } } file idx=contL m file idx:=fun file idx=>cont_frame hkl h.inv.ca (fun _=>by rw[frAt_of hk]) file idx
 refine⟨Rt.of (h.inv.marks (p:=fr.p) (u:=u) (d:=d) hk hr) (fun s hs=>h.tb hs) h.hand.1 (by simpa using h.hand.2),rfl,fun q s s' h1 h2=>?_,fun q j s s' h1 h2 hj _=>?_,rfl,fun _=>rfl,fun _=>rfl,fun file i _=>by rw[hc]⟩
 ·have:m.sp[q]? =Xa s':=h2;rw[h1]at this;cases this;exact⟨rfl,rfl⟩
 have:m.sp[q]? =Xa s':=h2;rw[h1]at this;cases this;refine see_frame hkl h.inv.ca (fun _=>by rw[frAt_of hk]) (h.kind0 h1 hj) (fun _ _=>by rw[frAt_of hk];exact⟨rfl,Iff.rfl⟩)
end
def moveF (k:Int) (e:En) (f:Nat->En):Nat->En:=fun j=>if isE (f j) 1 k=Xc then e else f j
theorem cnt_move (k:Int) (e:En) (f:Nat->En) (kind j:Int):∀n:Nat,cntTo (moveF k e f) kind j n+(if kind=1/\j=k then cntTo f 1 k n else 0)=cntTo f kind j n+(if isE e kind j=Xc then cntTo f 1 k n else 0)
 | 0=>by simp[cntTo]
 | n+1=>by
  have ih:=cnt_move k e f kind j n;unfold cntTo;have hm:moveF k e f n=if isE (f n) 1 k=Xc then e else f n:=rfl;rw[hm]
  cases hb:isE (f n) 1 k with
  | true=>
   simp only[if_true];have hk:isE (f n) kind j=Xc↔kind=1/\j=k:=by
    simp only[isE,Xs,decide_eq_true_eq]at hb⊢;omega
   by_cases h1:kind=1/\j=k
   ·rw[if_pos h1]at ih⊢;rw[hk.2 h1]
    cases he:isE e kind j <;> simp[he]at ih⊢<;> omega
   rw[if_neg h1]at ih⊢;have:isE (f n) kind j=Xd:=by
    cases hx:isE (f n) kind j with
    | false=>rfl
    | true=>exact absurd (hk.1 hx) h1
   rw[this]
   cases he:isE e kind j <;> simp[he]at ih⊢<;> omega
  | false=>
   simp only[if_false,Bool.false_eq_true]
   by_cases h1:kind=1/\j=k
   ·rw[if_pos h1]at ih⊢;rw[h1.1,h1.2,hb];rw[h1.1,h1.2]at ih
    simp at ih⊢
    omega
   rw[if_neg h1]at ih⊢
   simp at ih⊢
   omega
theorem hold_move (k:Int) (e:En) (kind j:Int):∀T:List (Nat->En),holdN (T.map (moveF k e)) kind j+(if kind=1/\j=k then holdN T 1 k else 0)=holdN T kind j+(if isE e kind j=Xc then holdN T 1 k else 0)
 | []=>by simp[holdN]
 | f :: T=>by
  have ih:=hold_move k e kind j T;have h1:=cnt_move k e f kind j 64;simp only[holdN,mP,List.sum_cons]at ih⊢
  by_cases a:kind=1/\j=k
  ·rw[if_pos a]at ih h1⊢
   by_cases b:isE e kind j=Xc
   ·rw[if_pos b]at ih h1⊢;omega
   rw[if_neg b]at ih h1⊢;omega
  rw[if_neg a]at ih h1⊢
  by_cases b:isE e kind j=Xc
  ·rw[if_pos b]at ih h1⊢;omega
  rw[if_neg b]at ih h1⊢;omega
section
variable{m:Ma} {T:List (Nat->En)}
theorem BInv.moved (h:BInv m T) {k:Nat} {fr:Fr} (hk:m.fs[k]? =Xa fr) (e:En) (hek:e.kind≠1) {sl':List Int} {sb':List (List Int)} {sq':List (Int × List Int)} (hsl:sl'.length=m.sl.length) (hsb:sb'.length=m.sb.length) (hsq:wrongL sb'.length sq'=0)
  (hcs:∀(j:Nat) z,sl'[j]? =Xa z->z=(holdN T 2 j+(if isE e 2 (j:Int)=Xc then holdN T 1 k else 0):Nat)) (he:e=en0\/(enW e=0/\e.kind=2/\e.n<m.sl.length/\fr.f=-1)):
  BInv { m with fs:=m.fs.set k frF,ca:=m.ca.filter fun d=>!decide (d.fr=(k:Int)),sl:=sl',sb:=sb',sq:=sq' } (T.map (moveF (k:Int) e)):=by
 have hkl:=(gS.1 hk).1;have hcount:∀j:Int,j≠(k:Int)->cachedN (m.ca.filter fun d=>!decide (d.fr=(k:Int))) j=cachedN m.ca j:=fun j hj=>by
  unfold cachedN;rw[List.countP_filter]
  congr 1
  funext d
  by_cases e:d.fr=j
  ·have:d.fr≠(k:Int):=by omega
   simp[e,hj]
  simp[e]
 have hzero:cachedN (m.ca.filter fun d=>!decide (d.fr=(k:Int))) (k:Int)=0:=by
  unfold cachedN;rw[Yp];intro d hd;rw[Xw]at hd
  simpa using hd.2
 obtain⟨m',hm'⟩:∃m':Ma,{ m with fs:=m.fs.set k frF,ca:=m.ca.filter fun d=>!decide (d.fr=(k:Int)),sl:=sl',sb:=sb',sq:=sq' }=m':=⟨_,rfl⟩
 have hfa:∀z:Int,0<=z->z≠(k:Int)->frAt m' z=frAt m z:=fun z hz hne=>by
  rw[<-hm'];rw[show frAt { m with fs:=m.fs.set k frF,ca:=m.ca.filter fun d=>!decide (d.fr=(k:Int)),sl:=sl',sb:=sb',sq:=sq' } z=frAt { m with fs:=m.fs.set k frF } z from rfl,frAt_set hkl _ hz,if_neg hne]
 have hsl2:m'.sl.length=m.sl.length:=by rw[<-hm'];exact hsl
 have hfl2:m'.fs.length=m.fs.length:=by rw[<-hm'];simp
 rw[hm'];refine⟨by rw[hfl2];exact h.fs40,fun g hg=>?_,by rw[hsl2];exact h.sl60,by rw[<-hm'];show sb'.length=sl'.length;rw[hsb,hsl];exact h.sbl,by rw[<-hm'];exact hsq,by rw[<-hm'];exact h.dok,by rw[<-hm'];exact h.st,by rw[<-hm'];exact h.cnt,by rw[<-hm'];exact h.blk,by rw[<-hm'];exact h.que,by rw[<-hm'];exact h.spl,by rw[<-hm'];exact h.spok,by rw[<-hm'];simpa using h.tl,?_,fun q s g hs hg j hj=>?_,fun j g hj=>?_,fun j z hj=>?_⟩
 ·rw[<-hm']at hg
  rcases List.mem_or_eq_of_mem_set hg with hg | rfl
  ·exact h.fok g hg
  exact⟨by decide,by decide,.inl rfl,fun _=>rfl,fun _=>rfl⟩
 ·obtain⟨a1,a2,a3⟩:=caGo_zero.1 h.ca;have hca:m'.ca=m.ca.filter fun d=>!decide (d.fr=(k:Int)):=by rw[<-hm']
  rw[hca];refine caGo_zero.2 ⟨fun d hd=>?_,fun q d hq=>(by cases hq),a3.filter _⟩
  have hd':=Xw.1 hd;have hne:d.fr≠(k:Int):=by simpa using hd'.2
  obtain⟨b1,b2,b3,b4⟩:=caE_ok (a1 d hd'.1);have hf:=hfa d.fr b1.2.2.2.2.1 hne;refine caE_of ?_ (by rw[hf];exact b2) (by rw[hf];exact b3) (by rw[hf];exact b4)
  rw[<-hm']
  simpa [bkN]using b1
 ·rw[Xx]at hg
  cases hT:T[q]? with
  | none=>rw[hT]at hg;cases hg
  | some g0=>
   rw[hT]at hg;simp only[Option.map_some,Option.some.injEq]at hg;subst hg;have hs0:m.sp[q]? =Xa s:=by rw[<-hm']at hs;exact hs
   unfold moveF
   by_cases hin:isE (g0 j) 1 (k:Int)=Xc
   ·rw[if_pos hin]
    rcases he with he | ⟨w1,w2,w3,w4⟩
    ·exact .inl he
    right;refine⟨w1,by omega,?_⟩
    simp only[isE,Xs,decide_eq_true_eq]at hin
    rcases h.ent q s g0 hs0 hT j hj with e0 | e0
    ·rw[e0]at hin;have:=hin.1
     simp[en0]at this
    have e3:=e0.2.2;unfold entE at e3⊢
    split at e3
    ·cases e3
    rename_i a1
    rw[if_neg a1,if_pos w2,if_neg];rw[if_neg (by omega),if_neg (by have:=(entE_present e0 (by omega)).2.2.1;omega)]at e3
    rw[hin.2,frAt_of hk]at e3
    split at e3
    ·cases e3
    rename_i a2
    rintro(h1 | h1)
    ·rw[hsl2]at h1;omega
    exact a2 (.inr (.inl ⟨h1,fun h2=>by omega⟩))
   rw[if_neg hin]
   rcases h.ent q s g0 hs0 hT j hj with e0 | e0
   ·exact .inl e0
   refine .inr ⟨e0.1,e0.2.1,entE_keep e0.2.2 hsl2 hfl2 fun hk2=>?_⟩
   obtain⟨c1,c2,c3,c4⟩:=entE_present e0 hk2;have hne:(g0 j).n≠(k:Int):=fun e2=>hin (by simp[isE,c1,e2])
   rw[hfa _ c2 hne];exact⟨rfl,rfl,c4⟩
 ·rw[<-hm']at hj⊢;simp only at hj⊢;have hu:=hold_move (k:Int) e 1 (j:Int) T;rw[if_neg (show¬isE e 1 (j:Int)=Xc by simp[isE,hek])]at hu
  by_cases e1:j=k
  ·subst e1;rw[sF hkl]at hj;cases hj;rw[if_pos ⟨rfl,rfl⟩]at hu;rw[hzero];exact⟨by simp[frF];omega,fun h=>by simp[frF]at h⟩
  rw[sN (fun h=>e1 h.symm)]at hj
  rw[if_neg (by omega)]at hu
  rw[hcount j (by omega)]
  have:=h.cf j g hj;refine⟨?_,this.2⟩;omega
 have hu:=hold_move (k:Int) e 2 (j:Int) T;rw[if_neg (by omega)]at hu
 have:sl'[j]? =Xa z:=by rw[<-hm']at hj;exact hj
 rw[hcs j z this];omega
theorem filter_none {m:Ma} {k:Nat} (h:cachedN m.ca (k:Int)=0):(m.ca.filter fun d=>!decide (d.fr=(k:Int)))=m.ca:=by
 rw[List.filter_eq_self];intro d hd;unfold cachedN at h;rw[Yp]at h;have:=h d hd
 simpa using this
theorem BInv.mine0 (h:BInv m T) {k:Nat} {fr:Fr} (hk:m.fs[k]? =Xa fr) (hf:fr.f=-1):cachedN m.ca (k:Int)=0:=by
 refine Classical.byContradiction fun hc=>?_
 obtain⟨c,hc1,hc2⟩:=cached_mem hc;obtain⟨b1,b2,b3,b4⟩:=caE_ok ((caGo_zero.1 h.ca).1 c hc1);rw[hc2,frAt_of hk]at b3;omega
end
def moveSp (k:Int) (e:En) (s:Sp):Sp:={ s with tb:=tabOf (moveF k e (flatN s)) }
theorem move_flat {m:Ma} (h:Rt m) {s:Sp} (hs:s∈m.sp) {k:Int} {e:En} (he:enW e=0):flatN (moveSp k e s)=moveF k e (flatN s):=by
 have hw:∀n,enW (moveF k e (flatN s) n)=0:=fun n=>by
  unfold moveF
  split
  ·exact he
  exact(h.tb hs).get _ _
 funext j
 by_cases hj:j<64
 ·unfold moveSp;unfold flatN;exact tabOf_at (fun n _=>hw n) hj
 have h0:flatN s j=en0:=by
  unfold flatN getN;rw[gN (l:=s.tb) (by rw[(h.tb hs).1];omega)]
  rfl
 have h1:flatN (moveSp k e s) j=en0:=by
  unfold flatN getN moveSp;simp only;rw[gN (l:=tabOf (moveF k e (flatN s))) (by simp[tabOf,tableOf];omega)]
  rfl
 rw[h1];unfold moveF;rw[h0,isE_none 1 k (by decide)]
 rfl
section
variable{m:Ma}
theorem move_tabs (h:Rt m) {k:Int} {e:En} (he:enW e=0):∀s∈m.sp.map (moveSp k e),TbOk s.tb:=fun s hs=>by
 obtain⟨s0,h0,rfl⟩:=Yc.1 hs;have hw:∀n,n<64->enW (moveF k e (flatN s0) n)=0:=fun n _=>by
  unfold moveF
  split
  ·exact he
  exact(h.tb h0).get _ _
 exact⟨by simp[moveSp,tabOf,tableOf],tbW_zero.1 (tabOf_ok hw)⟩
theorem move_at {k:Int} {e:En} {q:Nat} {s':Sp} (h:(m.sp.map (moveSp k e))[q]? =Xa s'):∃s,m.sp[q]? =Xa s/\s'=moveSp k e s:=by
 rw[Xx]at h
 cases hs:m.sp[q]? with
 | none=>rw[hs]at h;cases h
 | some s=>rw[hs]at h;simp only[Option.map_some,Option.some.injEq]at h;exact⟨s,rfl,h.symm⟩
theorem flats_move (h:Rt m) {k:Int} {e:En} (he:enW e=0) (sp':List Sp) (hsp:sp'=m.sp.map (moveSp k e)):sp'.map flatN=(flats m).map (moveF k e):=by
 rw[hsp];unfold flats;rw[List.map_map,List.map_map]
 apply List.map_congr_left
 intro s hs;exact move_flat h hs he
theorem find_congr {α:Type} {p q:α->Bool}:∀{l:List α},(∀x∈l,p x=q x)->l.find? p=l.find? q
 | [],_=>rfl
 | x :: l,h=>by
  rw[List.find?_cons,List.find?_cons,h x (by simp),find_congr (l:=l) fun y hy=>h y (by simp[hy])]
theorem frAt_ne {m m':Ma} {k:Nat} {fr:Fr} (_hk:k<m.fs.length) (hf:m'.fs=m.fs.set k fr) {z:Int} (hz:0<=z) (hne:z≠(k:Int)):frAt m' z=frAt m z:=by
 unfold frAt;rw[hf,gD,gD,sN (by omega)]
def toSlot (m:Ma) (k j:Nat) (r:Int) (sb':List (List Int)) (sq':List (Int × List Int)):Ma:={ m with fs:=m.fs.set k frF,sl:=m.sl.set j r,sb:=sb',sq:=sq',sp:=m.sp.map (moveSp (k:Int) ⟨2,(j:Int),Xd⟩) }
theorem slot_ok (h:Rt m) {k j:Nat} {fr:Fr} {sb':List (List Int)} {sq':List (Int × List Int)} (hk:m.fs[k]? =Xa fr) (hf:fr.f=-1) (_hr:fr.r≠0) (hj:m.sl[j]? =Xa 0) (hsb:sb'.length=m.sb.length) (hsq:wrongL sb'.length sq'=0) (hrd:readL sb' sq' (j:Int)=pgL fr.p) (hro:∀i:Int,0<=i->i≠(j:Int)->readL sb' sq' i=readL m.sb m.sq i):
  Rt (toSlot m k j fr.r sb' sq')/\Sam (fun _ _=>False) m (toSlot m k j fr.r sb' sq'):=by
 have hkl:=(gS.1 hk).1;have hjl:=(gS.1 hj).1;have h60:=h.inv.sl60;have he:enW ⟨2,(j:Int),Xd⟩=0:=enW_of (by simp) ⟨by simp,by simp only;omega,fun h=>by simp at h⟩ (by simp)
 have hc0:=h.inv.mine0 hk hf;have hb:=h.inv.moved hk ⟨2,(j:Int),Xd⟩ (by simp) (sl':=m.sl.set j fr.r) (sb':=sb') (sq':=sq') (by simp) hsb hsq (fun i z hi=>by
  have hcf:=(h.inv.cf k fr hk).1
  by_cases e:i=j
  ·subst e;rw[sF hjl]at hi;cases hi;have:=h.inv.cs i 0 hj;rw[if_pos (by simp[isE])]
   omega
  rw[sN (fun h=>e h.symm)]at hi
  have:=h.inv.cs i z hi;rw[if_neg (by simp[isE];omega)]
  omega) (.inr ⟨he,rfl,by simp only;omega,hf⟩)
 rw[filter_none hc0]at hb;have hsp:(toSlot m k j fr.r sb' sq').sp=m.sp.map (moveSp (k:Int) ⟨2,(j:Int),Xd⟩):=rfl;have hT:=flats_move h (k:=(k:Int)) he _ hsp;have hbT:BInv (toSlot m k j fr.r sb' sq') (flats (toSlot m k j fr.r sb' sq')):=by
  unfold flats;rw[hT];refine BInv.tabs hb (sp':=(toSlot m k j fr.r sb' sq').sp) (by rw[hsp];simp) fun p s s' h1 h2=>?_
  rw[hsp]at h2;obtain⟨s0,h3,rfl⟩:=move_at h2;have h1':m.sp[p]? =Xa s:=h1;rw[h1']at h3;cases h3;exact⟨rfl,rfl⟩
 refine⟨Rt.of hbT (by rw[hsp];exact move_tabs h he) h.hand.1 (by show m.hand<max ((m.fs.set k frF).length:Int) 1;simpa using h.hand.2),?_⟩
 have hca:(toSlot m k j fr.r sb' sq').ca=m.ca:=rfl;have hcont:∀file idx,contL (toSlot m k j fr.r sb' sq') file idx=contL m file idx:=fun file idx=>by
  refine cont_same (m:=m) (m':=toSlot m k j fr.r sb' sq') rfl rfl rfl rfl (fun c hc=>?_) file idx
  have hne:c.fr≠(k:Int):=fun e=>by have:=cached_pos hc;rw[e]at this;exact this hc0
  rw[frAt_ne hkl (m':=toSlot m k j fr.r sb' sq') rfl (caE_ok ((caGo_zero.1 h.inv.ca).1 c hc)).1.2.2.2.2.1 hne]
 refine⟨by rw[hsp];simp,fun q s s' h1 h2=>?_,fun q n s s' h1 h2 hn _=>?_,rfl,fun _=>rfl,fun _=>rfl,fun file i _=>by rw[hcont]⟩
 ·rw[hsp]at h2;obtain⟨s0,h3,rfl⟩:=move_at h2;rw[h1]at h3;cases h3;exact⟨rfl,rfl⟩
 rw[hsp]at h2;obtain⟨s0,h3,rfl⟩:=move_at h2;rw[h1]at h3;cases h3;rw[move_flat h (mG h1) he];unfold moveF
 by_cases hin:isE (flatN s n) 1 (k:Int)=Xc
 ·rw[if_pos hin];simp only[isE,Xs,decide_eq_true_eq]at hin;unfold seeE
  by_cases hx:(onAt s.ars n).is=Xd
  ·rw[if_pos hx,if_pos hx]
  rw[if_neg hx,if_neg hx,if_neg (by simp),if_pos rfl,if_pos hin.1,hin.2,frAt_of hk]
  show(readL sb' sq' (j:Int),Xc,(0:Int))=_
  rw[hrd,hf];rfl
 rw[if_neg hin];have hen:=h.inv.en (flats_at h1) hn;have hn0:=(enW_zero hen).2.1.1;refine see_same rfl rfl (fun hk1=>?_) (fun hk2=>?_) (fun _=>rfl) hcont
 ·have hne:(flatN s n).n≠(k:Int):=fun e=>hin (by simp[isE,hk1,e])
  rw[frAt_ne hkl (m':=toSlot m k j fr.r sb' sq') rfl hn0 hne];exact⟨rfl,Iff.rfl⟩
 refine hro _ hn0 fun e=>?_
 have h5:=h.inv.cs j 0 hj;have h6:=hold_pos (flats_at h1) hn (kind:=2) (k:=(j:Int)) (by simp[isE,hk2,e]) (by decide)
 omega
def toFile (m:Ma) (k:Nat):Ma:={ m with fs:=m.fs.set k frF,ca:=m.ca.filter fun d=>!decide (d.fr=(k:Int)),sp:=m.sp.map (moveSp (k:Int) en0) }
theorem cut_in {p:List Int} {idx size:Int} {i:Nat} (h:8*idx+(i:Int)<size):(cutP p idx size).getD i 0=p.getD i 0:=by
 unfold cutP;rw[gD,gD,Yh]
 cases p[i]? with
 | none=>rfl
 | some z=>simp only[Option.map_some,Option.getD_some];rw[if_neg (by omega)]
theorem file_ok (h:Rt m) {k:Nat} {fr:Fr} (S:Nat->Nat->Prop) (hk:m.fs[k]? =Xa fr) (hf:0<=fr.f) (_hr:fr.r≠0) (hd:diskL m fr.f fr.x=cutP (pgL fr.p) fr.x (szAt m fr.f))
  (hS:cutP (pgL fr.p) fr.x (szAt m fr.f)=pgL fr.p\/∀(q n:Nat) s,m.sp[q]? =Xa s->n<64->(onAt s.ars n).is=Xc->(onAt s.ars n).file=fr.f->(onAt s.ars n).page=fr.x->(flatN s n).kind=0\/isE (flatN s n) 1 (k:Int)=Xc->S q n):
  Rt (toFile m k)/\Sam S m (toFile m k):=by
 have hkl:=(gS.1 hk).1;have hcf:=h.inv.cf k fr hk;obtain⟨c,hc,hcf2⟩:=cached_mem (hcf.2 hf);obtain⟨b1,b2,b3,b4⟩:=caE_ok ((caGo_zero.1 h.inv.ca).1 c hc);rw[hcf2,frAt_of hk]at b2 b3 b4;have hb:=h.inv.moved hk en0 (by decide) (sl':=m.sl) (sb':=m.sb) (sq':=m.sq) rfl rfl h.inv.sq (fun i z hi=>by
  have:=h.inv.cs i z hi;rw[if_neg (by simp[isE_none])]
  omega) (.inl rfl)
 have hsp:(toFile m k).sp=m.sp.map (moveSp (k:Int) en0):=rfl;have hT:=flats_move h (k:=(k:Int)) enW_0 _ hsp;have hbT:BInv (toFile m k) (flats (toFile m k)):=by
  unfold flats;rw[hT];refine BInv.tabs hb (sp':=(toFile m k).sp) (by rw[hsp];simp) fun p s s' h1 h2=>?_
  rw[hsp]at h2;obtain⟨s0,h3,rfl⟩:=move_at h2;have h1':m.sp[p]? =Xa s:=h1;rw[h1']at h3;cases h3;exact⟨rfl,rfl⟩
 refine⟨Rt.of hbT (by rw[hsp];exact move_tabs h enW_0) h.hand.1 (by show m.hand<max ((m.fs.set k frF).length:Int) 1;simpa using h.hand.2),?_⟩
 have hfind:∀file idx,(toFile m k).ca.find? (hitC file idx)=if file=fr.f/\idx=fr.x then Xb else m.ca.find? (hitC file idx):=fun file idx=>by
  show(m.ca.filter fun d=>!decide (d.fr=(k:Int))).find? (hitC file idx)=_
  by_cases e:file=fr.f/\idx=fr.x
  ·rw[if_pos e];rw[Yk];intro d hd hh;have hd':=Xw.1 hd;simp only[hitC,Xs,decide_eq_true_eq]at hh;have h1:=find_cached h.inv.ca hd'.1;have h2:=find_cached h.inv.ca hc;rw[hh.1,hh.2,e.1,e.2,b3,b4,h2]at h1;cases h1;have:=hd'.2
   simp[hcf2]at this
  rw[if_neg e];rw[List.find?_filter]
  apply find_congr
  intro d hd
  cases hh:hitC file idx d with
  | false=>simp
  | true=>
   simp only[hitC,Xs,decide_eq_true_eq]at hh;have:d.fr≠(k:Int):=fun h5=>by
    obtain⟨a1,a2,a3,a4⟩:=caE_ok ((caGo_zero.1 h.inv.ca).1 d hd);rw[h5,frAt_of hk]at a3 a4;exact e ⟨by rw[<-hh.1,a3],by rw[<-hh.2,a4]⟩
   simp[this]
 have hold:contL m fr.f fr.x=pgL fr.p:=by
  unfold contL;have:=find_cached h.inv.ca hc;rw[<-b3,<-b4]at this;rw[this];simp only;rw[hcf2,frAt_of hk]
 have hnew:contL (toFile m k) fr.f fr.x=cutP (pgL fr.p) fr.x (szAt m fr.f):=by
  unfold contL;rw[hfind,if_pos ⟨rfl,rfl⟩];exact hd
 have hoth:∀file idx,¬(file=fr.f/\idx=fr.x)->contL (toFile m k) file idx=contL m file idx:=fun file idx hne=>by
  unfold contL;rw[hfind,if_neg hne]
  cases hq:m.ca.find? (hitC file idx)with
  | none=>rfl
  | some d=>
   simp only;have hd1:=List.mem_of_find?_eq_some hq;obtain⟨a1,a2,a3,a4⟩:=caE_ok ((caGo_zero.1 h.inv.ca).1 d hd1);have hh:=List.find?_some hq;simp only[hitC,Xs,decide_eq_true_eq]at hh;rw[frAt_ne hkl (m':=toFile m k) rfl a1.2.2.2.2.1 (fun h5=>?_)]
   rw[h5,frAt_of hk]at a3 a4;exact hne ⟨by rw[<-hh.1,a3],by rw[<-hh.2,a4]⟩
 refine⟨by rw[hsp];simp,fun q s s' h1 h2=>?_,fun q n s s' h1 h2 hn hnS=>?_,rfl,fun _=>rfl,fun _=>rfl,fun file i hi=>?_⟩
 ·rw[hsp]at h2;obtain⟨s0,h3,rfl⟩:=move_at h2;rw[h1]at h3;cases h3;exact⟨rfl,rfl⟩
 ·rw[hsp]at h2;obtain⟨s0,h3,rfl⟩:=move_at h2;rw[h1]at h3;cases h3;rw[move_flat h (mG h1) enW_0];unfold moveF;have hbk:fr.x<bkN m fr.f:=by rw[b3,b4];exact b1.2.2.2.1
  have hcut:(onAt s.ars n).is=Xc->(onAt s.ars n).file=fr.f->(onAt s.ars n).page=fr.x->(flatN s n).kind=0\/isE (flatN s n) 1 (k:Int)=Xc->contL (toFile m k) fr.f fr.x=pgL fr.p:=fun g1 g2 g3 g4=>by
   rw[hnew]
   rcases hS with e | e
   ·exact e
   exact absurd (e q n s h1 hn g1 g2 g3 g4) hnS
  by_cases hin:isE (flatN s n) 1 (k:Int)=Xc
  ·rw[if_pos hin];have hin':=hin;simp only[isE,Xs,decide_eq_true_eq]at hin';have hent:EntOk m (onAt s.ars n) (flatN s n):=by
    rcases h.ent h1 hn with e | e
    ·rw[e]at hin';have:=hin'.1
     simp[en0]at this
    exact e
   have e3:=hent.2.2;unfold entE at e3
   split at e3
   ·cases e3
   rename_i a1
   rw[if_neg (by omega),if_neg (by have:=(entE_present hent (by omega)).2.2.1;omega),hin'.2,frAt_of hk]at e3
   split at e3
   ·cases e3
   rename_i a2
   have hit:0<=(onAt s.ars n).file/\fr.f=(onAt s.ars n).file/\fr.x=(onAt s.ars n).page:=Classical.byContradiction fun h5=>a2 (.inl ⟨by omega,h5⟩)
   have his:(onAt s.ars n).is=Xc:=by
    cases hx:(onAt s.ars n).is with
    | true=>rfl
    | false=>exact absurd hx a1
   unfold seeE;rw[if_neg a1,if_neg a1,if_neg (by decide),if_neg (by decide),if_neg (by omega),if_pos hin'.1,hin'.2,frAt_of hk,if_neg (by rw[<-hit.2.1,<-hit.2.2];show¬bkN m fr.f<=fr.x;omega),<-hit.2.1,<-hit.2.2,hcut his hit.2.1.symm hit.2.2.symm (.inr hin)]
   have:decide (fr.f<0)=Xd:=by simp;omega
   rw[this]
  rw[if_neg hin];have hen:=h.inv.en (flats_at h1) hn;have hn0:=(enW_zero hen).2.1.1;unfold seeE
  by_cases hx:(onAt s.ars n).is=Xd
  ·rw[if_pos hx,if_pos hx]
  rw[if_neg hx,if_neg hx]
  by_cases k1:(flatN s n).kind=1
  ·rw[if_pos k1,if_pos k1];have hne:(flatN s n).n≠(k:Int):=fun e=>hin (by simp[isE,k1,e])
   rw[frAt_ne hkl (m':=toFile m k) rfl hn0 hne]
  rw[if_neg k1,if_neg k1]
  by_cases k2:(flatN s n).kind=2
  ·rw[if_pos k2,if_pos k2];rfl
  rw[if_neg k2,if_neg k2];have hb0:bkN (toFile m k)=bkN m:=rfl;rw[hb0]
  by_cases k3:(onAt s.ars n).file<0
  ·rw[if_pos k3,if_pos k3]
  rw[if_neg k3,if_neg k3]
  by_cases k4:bkN m (onAt s.ars n).file<=(onAt s.ars n).page
  ·rw[if_pos k4,if_pos k4]
  rw[if_neg k4,if_neg k4]
  by_cases k5:(onAt s.ars n).file=fr.f/\(onAt s.ars n).page=fr.x
  ·have his:(onAt s.ars n).is=Xc:=by
    cases hx':(onAt s.ars n).is with
    | true=>rfl
    | false=>exact absurd hx' hx
   have hk0:(flatN s n).kind=0:=by have:=(enW_zero hen).1;omega
   have:=hcut his k5.1 k5.2 (.inl hk0);rw[k5.1,k5.2,this,hold]
  rw[hoth _ _ k5]
 by_cases e:(file:Int)=fr.f/\((i / 8:Nat):Int)=fr.x
 ·rw[e.1,e.2,hnew,hold];refine cut_in ?_;rw[e.1]at hi;rw[<-e.2];have:8*(i / 8)+i % 8=i:=by omega
  omega
 rw[hoth _ _ e]
end
theorem on_page:∀{l:List Ar} {p:Option Ar} {n:Nat},CanP p l->(onAt l n).is=Xc->0<=(onAt l n).page/\((onAt l n).page<=11\/(onAt l n).file<0)
 | [],_,_,_,h=>by cases h
 | a :: l,p,n,hc,h=>by
  unfold onAt at h⊢
  by_cases e:arIn a n=Xc
  ·rw[if_pos e]at h⊢;have ha:=hc.1;have e':=arIn_iff.1 e;unfold ArOk at ha;unfold oneOf;simp only
   split
   ·exact⟨by omega,.inl (by omega)⟩
   exact⟨by omega,.inr (by omega)⟩
  rw[if_neg e]at h⊢;exact on_page hc.2.2 h
theorem Rt.page {m:Ma} (h:Rt m) {p n:Nat} {s:Sp} (hs:m.sp[p]? =Xa s) (hx:(onAt s.ars n).is=Xc):0<=(onAt s.ars n).page:=
 (on_page (wrL_zero.1 (h.inv.spok s (mG hs)).1).2 hx).1
section
variable{m:Ma}
def putB (m:Ma) (file idx:Nat) (f:Fl) (b:Int) (db':List (List Int)) (dq':List (Int × List Int)):Ma:={ m with fl:=m.fl.set file ⟨f.size,f.bl.set idx b⟩,db:=db',dq:=dq' }
theorem blockW_ok (h:Rt m) {file idx b:Nat} {f:Fl} {db':List (List Int)} {dq':List (Int × List Int)} (hf:m.fl[file]? =Xa f) (hst:stW (m.fl.set file ⟨f.size,f.bl.set idx (b:Int)⟩) m.cnt=0)
  (hub:∀x,usedB (m.fl.set file ⟨f.size,f.bl.set idx (b:Int)⟩) x=Xc↔(usedB m.fl x=Xc/\x≠-1)\/x=(b:Int)\/(x=-1/\usedB (m.fl.set file ⟨f.size,f.bl.set idx (b:Int)⟩) x=Xc))
  (hdb:db'.length=m.db.length) (hdok:wrongL db'.length dq'=0) (hblk:∀i:Nat,db'[i]? =m.db[i]?\/∃q∈m.dq,q.1=(i:Int)) (hq:∀q∈dq',q.1=(b:Int)\/∃q'∈m.dq,q'.1=q.1) (hrd:∀i:Int,i≠(b:Int)->readL db' dq' i=readL m.db m.dq i)
  (_hb0:f.bl[idx]? =Xa (b:Int)\/(usedB m.fl (b:Int)=Xd)) (hc:∃c∈m.ca,c.file=(file:Int)/\c.idx=(idx:Int)) (hown:∀(i j:Nat) g,m.fl[i]? =Xa g->g.bl[j]? =Xa (b:Int)->i=file/\j=idx):
  (Rt (putB m file idx f (b:Int) db' dq')/\Sam (fun _ _=>False) m (putB m file idx f (b:Int) db' dq'))/\∀(i j:Nat),(j:Int)<bkN m (i:Int)->contL (putB m file idx f (b:Int) db' dq') (i:Int) (j:Int)=contL m (i:Int) (j:Int):=by
 have hfl:=(gS.1 hf).1;obtain⟨m',hm'⟩:∃m',putB m file idx f (b:Int) db' dq'=m':=⟨_,rfl⟩;have hsz:∀z,szAt m' z=szAt m z:=fun z=>by
  rw[<-hm'];unfold szAt putB;simp only[gD]
  by_cases e:z.toNat=file
  ·rw[e,sF hfl,hf];rfl
  rw[sN (fun h=>e h.symm)]
 have hbk:∀z,bkN m' z=bkN m z:=fun z=>by
  rw[<-hm'];unfold bkN putB;simp only[gD]
  by_cases e:z.toNat=file
  ·rw[e,sF hfl,hf];simp
  rw[sN (fun h=>e h.symm)]
 have hfr:∀z,frAt m' z=frAt m z:=fun z=>by rw[<-hm'];rfl
 have hfll:m'.fl.length=m.fl.length:=by rw[<-hm'];simp[putB]
 have hsp:m'.sp=m.sp:=by rw[<-hm'];rfl
 have hca:m'.ca=m.ca:=by rw[<-hm'];rfl
 have hbI:BInv m' (flats m'):=by
  have hT:flats m'=flats m:=by unfold flats;rw[hsp]
  rw[hT];have hi:=h.inv;refine⟨by rw[<-hm'];exact hi.fs40,by rw[<-hm'];exact hi.fok,by rw[<-hm'];exact hi.sl60,by rw[<-hm'];exact hi.sbl,by rw[<-hm'];exact hi.sq,by rw[<-hm'];exact hdok,by rw[<-hm'];exact hst,by rw[<-hm'];show m.cnt=(db'.length:Int);rw[hdb];exact hi.cnt,fun i hil hu=>?_,fun q hqm=>?_,by rw[hsp];exact hi.spl,by rw[hsp];exact hi.spok,by rw[hsp];exact hi.tl,?_,?_,by rw[<-hm'];exact hi.cf,by rw[<-hm'];exact hi.cs⟩
  ·rw[<-hm']at hil hu⊢;have hu':usedB m.fl (i:Int)=Xd:=by
    cases e:usedB m.fl (i:Int)with
    | false=>rfl
    | true=>
     have:=(hub (i:Int)).2 (.inl ⟨e,by omega⟩)
     have hu2:usedB (m.fl.set file ⟨f.size,f.bl.set idx (b:Int)⟩) (i:Int)=Xd:=hu;rw[hu2]at this;cases this
   show db'[i]? =_
   rcases hblk i with e | ⟨q,q1,q2⟩
   ·rw[e];exact hi.blk i (by rw[<-hdb];exact hil) hu'
   have:=hi.que q q1;rw[q2,hu']at this;cases this
  ·rw[<-hm']at hqm⊢
   show usedB (m.fl.set file ⟨f.size,f.bl.set idx (b:Int)⟩) q.1=Xc
   rcases hq q hqm with e | ⟨q',q1,q2⟩
   ·exact(hub _).2 (.inr (.inl e))
   refine(hub _).2 (.inl ⟨?_,?_⟩)
   ·rw[<-q2];exact hi.que q' q1
   have hd:=hi.dok;unfold wrongL at hd
   split at hd
   ·cases hd
   split at hd
   ·cases hd
   split at hd
   ·cases hd
   rename_i a
   intro e;refine a (List.any_eq_true.2 ⟨q',q1,?_⟩);rw[q2,e]
   simp[dkInB]
  ·obtain⟨a1,a2,a3⟩:=caGo_zero.1 hi.ca;rw[hca];refine caGo_zero.2 ⟨fun c hc=>?_,fun q c hq=>(by cases hq),a3⟩
   obtain⟨b1,b2,b3,b4⟩:=caE_ok (a1 c hc);refine caE_of ?_ (by rw[hfr];exact b2) (by rw[hfr];exact b3) (by rw[hfr];exact b4)
   rw[hfll,hbk];rw[<-hm'];exact b1
  intro p s g hs hg n hn;rw[hsp]at hs
  rcases hi.ent p s g hs hg n hn with e | e
  ·exact .inl e
  refine .inr ⟨e.1,e.2.1,entE_keep e.2.2 (by rw[<-hm'];rfl) (by rw[<-hm'];rfl) fun hk2=>?_⟩
  rw[hfr];exact⟨rfl,rfl,(entE_present e hk2).2.2.2⟩
 have hcont:∀(i j:Nat),(j:Int)<bkN m (i:Int)->contL m' (i:Int) (j:Int)=contL m (i:Int) (j:Int):=fun i j hij=>by
  unfold contL;rw[hca]
  cases hq:m.ca.find? (hitC (i:Int) (j:Int))with
  | some c=>simp only;rw[hfr]
  | none=>
   simp only;have hne:¬(i=file/\j=idx):=fun e=>by
    obtain⟨c,c1,c2,c3⟩:=hc;rw[Yk]at hq;refine hq c c1 ?_
    simp[hitC,c2,c3,e.1,e.2]
   have hbl:blAt m' (i:Int) (j:Int)=blAt m (i:Int) (j:Int):=by
    rw[<-hm'];unfold blAt putB;simp only[gD,tN]
    by_cases e:i=file
    ·subst e;rw[sF hfl,hf];simp only[Option.getD_some];rw[sN (fun h=>hne ⟨rfl,h.symm⟩)]
    rw[sN (fun h=>e h.symm)]
   rw[hbl,hsz]
   by_cases hlt:blAt m (i:Int) (j:Int)<0
   ·rw[if_pos hlt,if_pos hlt]
   rw[if_neg hlt,if_neg hlt];have hil:i<m.fl.length:=Classical.byContradiction fun h1=>by
    unfold bkN at hij;simp only[gD,tN]at hij;rw[gN (by omega)]at hij
    simp only[Option.getD_none,List.length_nil]at hij;omega
   have hg:=gE hil;have hj:j< (m.fl[i]).bl.length:=by
    unfold bkN at hij;simp only[gD,tN,hg,Option.getD_some]at hij;omega
   have:blAt m (i:Int) (j:Int)≠(b:Int):=fun e=>by
    unfold blAt at e;simp only[gD,tN,hg,Option.getD_some,gE hj]at e;exact hne (hown i j _ hg (by rw[gE hj,e]))
   rw[show readL m'.db m'.dq (blAt m (i:Int) (j:Int))=readL db' dq' (blAt m (i:Int) (j:Int)) by rw[<-hm'];rfl,hrd _ this]
 rw[hm'];refine⟨?_,hcont⟩;refine⟨Rt.of hbI (by rw[hsp];exact fun s hs=>h.tb hs) (by rw[<-hm'];exact h.hand.1) (by rw[<-hm'];exact h.hand.2),⟨by rw[hsp],fun q s s' h1 h2=>?_,fun q n s s' h1 h2 hn _=>?_,hfll,hsz,hbk,fun fi k hk=>?_⟩⟩
 ·rw[hsp,h1]at h2;cases h2;exact⟨rfl,rfl⟩
 ·rw[hsp,h1]at h2;cases h2;unfold seeE;rw[hfr,hbk]
  by_cases hx:(onAt s.ars n).is=Xd
  ·rw[if_pos hx,if_pos hx]
  rw[if_neg hx,if_neg hx]
  by_cases k1:(flatN s n).kind=1
  ·rw[if_pos k1,if_pos k1]
  rw[if_neg k1,if_neg k1]
  by_cases k2:(flatN s n).kind=2
  ·rw[if_pos k2,if_pos k2];rw[<-hm'];rfl
  rw[if_neg k2,if_neg k2]
  by_cases k3:(onAt s.ars n).file<0
  ·rw[if_pos k3,if_pos k3]
  rw[if_neg k3,if_neg k3]
  by_cases k4:bkN m (onAt s.ars n).file<=(onAt s.ars n).page
  ·rw[if_pos k4,if_pos k4]
  rw[if_neg k4,if_neg k4];have his:(onAt s.ars n).is=Xc:=by
   cases hx':(onAt s.ars n).is with
   | true=>rfl
   | false=>exact absurd hx' hx
  have hp:=h.page h1 his;have:=hcont (onAt s.ars n).file.toNat (onAt s.ars n).page.toNat (by
   rw[show(((onAt s.ars n).file.toNat:Nat):Int)=(onAt s.ars n).file by omega,show(((onAt s.ars n).page.toNat:Nat):Int)=(onAt s.ars n).page by omega]
   omega)
  rw[show(((onAt s.ars n).file.toNat:Nat):Int)=(onAt s.ars n).file by omega,show(((onAt s.ars n).page.toNat:Nat):Int)=(onAt s.ars n).page by omega]at this
  rw[this]
 rw[hcont fi (k / 8) ?_]
 by_cases h1:fi<m.fl.length
 ·have hg:=gE h1;obtain⟨k1,k2,k3⟩:=((stW_zero _ _).1 h.inv.st).2.1 _ (mG hg);unfold szAt at hk;simp only[gD,tN,hg,Option.getD_some]at hk;unfold bkN;simp only[gD,tN,hg,Option.getD_some];unfold cntP at k2
  split at k2 <;> omega
 unfold szAt at hk;simp only[gD,tN]at hk;rw[gN (by omega)]at hk
 simp only[Option.getD_none]at hk;omega
end
def Unc (m:Ma) (file idx:Int):Prop:=∀c∈m.ca,¬(c.file=file/\c.idx=idx)
theorem Unc.find {m:Ma} {file idx:Int} (h:Unc m file idx):m.ca.find? (hitC file idx)=Xb:=by
 rw[Yk];intro c hc hh;simp only[hitC,Xs,decide_eq_true_eq]at hh;exact h c hc hh
structure Goes (S:Nat->Nat->Prop) (m m':Ma):Prop where
 rt:Rt m'
 sam:Sam S m m'
 fsl:m'.fs.length=m.fs.length
 bare:∀(q n:Nat) s s',m.sp[q]? =Xa s->m'.sp[q]? =Xa s'->n<64->flatN s n=en0->flatN s' n=en0
 unc:∀(file idx:Nat),(idx:Int)<bkN m (file:Int)->Unc m (file:Int) (idx:Int)->Unc m' (file:Int) (idx:Int)/\contL m' (file:Int) (idx:Int)=contL m (file:Int) (idx:Int)
theorem Goes.refl {S:Nat->Nat->Prop} {m:Ma} (h:Rt m):Goes S m m:=⟨h,Sam.refl S m,rfl,fun q n s s' h1 h2 _ h0=>by rw[h1]at h2;cases h2;exact h0,fun _ _ _ h=>⟨h,rfl⟩⟩
theorem Goes.trans {S:Nat->Nat->Prop} {a b c:Ma} (h:Goes S a b) (k:Goes S b c):Goes S a c:=by
 refine⟨k.rt,(h.sam.trans k.sam).mono (fun _ _ e=>e.elim id id),k.fsl.trans h.fsl,fun q n s s' h1 h2 hn h0=>?_,fun file idx hi hu=>?_⟩
 ·have:∃t,b.sp[q]? =Xa t:=⟨_,gE (by rw[h.sam.spl];exact(gS.1 h1).1)⟩
  obtain⟨t,ht⟩:=this;exact k.bare q n t s' ht h2 hn (h.bare q n s t h1 ht hn h0)
 obtain⟨u1,u2⟩:=h.unc file idx hi hu;obtain⟨v1,v2⟩:=k.unc file idx (by rw[h.sam.bk];exact hi) u1
 exact⟨v1,v2.trans u2⟩
section
variable{m:Ma}
theorem move_bare (h:Rt m) {k:Int} {e:En} (he:enW e=0) {q n:Nat} {s s':Sp} (h1:m.sp[q]? =Xa s) (h2:(m.sp.map (moveSp k e))[q]? =Xa s') (h0:flatN s n=en0):flatN s' n=en0:=by
 obtain⟨s0,h3,rfl⟩:=move_at h2;rw[h1]at h3;cases h3;rw[move_flat h (mG h1) he];unfold moveF;rw[h0,if_neg (by simp[isE,en0])]
theorem slot_goes (S:Nat->Nat->Prop) (h:Rt m) {k j:Nat} {fr:Fr} {sb':List (List Int)} {sq':List (Int × List Int)} (hk:m.fs[k]? =Xa fr) (hf:fr.f=-1) (hr:fr.r≠0) (hj:m.sl[j]? =Xa 0) (hsb:sb'.length=m.sb.length) (hsq:wrongL sb'.length sq'=0) (hrd:readL sb' sq' (j:Int)=pgL fr.p) (hro:∀i:Int,0<=i->i≠(j:Int)->readL sb' sq' i=readL m.sb m.sq i):
  Goes S m (toSlot m k j fr.r sb' sq'):=by
 obtain⟨r1,r2⟩:=slot_ok h hk hf hr hj hsb hsq hrd hro;have h60:=h.inv.sl60;have hjl:=(gS.1 hj).1;have he:enW ⟨2,(j:Int),Xd⟩=0:=enW_of (by simp) ⟨by simp,by simp only;omega,fun h=>by simp at h⟩ (by simp)
 refine⟨r1,r2.mono (fun _ _ e=>e.elim),by simp[toSlot],fun q n s s' h1 h2 _ h0=>move_bare h he h1 h2 h0,fun file idx _ hu=>⟨hu,?_⟩⟩
 unfold contL;rw[show(toSlot m k j fr.r sb' sq').ca.find? (hitC (file:Int) (idx:Int))=Xb from hu.find,hu.find]
 rfl
theorem file_goes (h:Rt m) {k:Nat} {fr:Fr} (S:Nat->Nat->Prop) (hk:m.fs[k]? =Xa fr) (hf:0<=fr.f) (hr:fr.r≠0) (hd:diskL m fr.f fr.x=cutP (pgL fr.p) fr.x (szAt m fr.f))
  (hS:cutP (pgL fr.p) fr.x (szAt m fr.f)=pgL fr.p\/∀(q n:Nat) s,m.sp[q]? =Xa s->n<64->(onAt s.ars n).is=Xc->(onAt s.ars n).file=fr.f->(onAt s.ars n).page=fr.x->(flatN s n).kind=0\/isE (flatN s n) 1 (k:Int)=Xc->S q n):
  Goes S m (toFile m k):=by
 obtain⟨r1,r2⟩:=file_ok h S hk hf hr hd hS;have hu':∀file idx,Unc m file idx->Unc (toFile m k) file idx:=fun file idx hu c hc=>hu c (Xw.1 hc).1
 refine⟨r1,r2,by simp[toFile],fun q n s s' h1 h2 _ h0=>move_bare h enW_0 h1 h2 h0,fun file idx _ hu=>⟨hu' _ _ hu,?_⟩⟩
 unfold contL;rw[(hu' _ _ hu).find,hu.find];rfl
theorem marks_goes (S:Nat->Nat->Prop) (h:Rt m) {k:Nat} {fr:Fr} (hk:m.fs[k]? =Xa fr) (hr:fr.r≠0) (u d:Bool):Goes S m { m with fs:=m.fs.set k { fr with u:=u,d:=d } }:=by
 obtain⟨r1,r2⟩:=marks_ok h hk hr u d;refine⟨r1,r2.mono (fun _ _ e=>e.elim),by simp,fun q n s s' h1 h2 _ h0=>?_,fun file idx _ hu=>⟨hu,?_⟩⟩
 ·have:m.sp[q]? =Xa s':=h2;rw[h1]at this;cases this;exact h0
 exact cont_frame (gS.1 hk).1 h.inv.ca (fun _=>by rw[frAt_of hk]) _ _
theorem hand_goes (S:Nat->Nat->Prop) (h:Rt m) {z:Int} (h0:0<=z) (h1:z<max (m.fs.length:Int) 1):Goes S m { m with hand:=z }:=by
 have hb:=h.inv;have hb':BInv { m with hand:=z } (flats { m with hand:=z }):=⟨hb.fs40,hb.fok,hb.sl60,hb.sbl,hb.sq,hb.dok,hb.st,hb.cnt,hb.blk,hb.que,hb.spl,hb.spok,hb.tl,caGo_zero.2 ⟨fun c hc=>(caGo_zero.1 hb.ca).1 c hc,fun _ _ hq=>(by cases hq),(caGo_zero.1 hb.ca).2.2⟩,hb.ent,hb.cf,hb.cs⟩
 refine⟨Rt.of hb' (fun s hs=>h.tb hs) h0 h1,⟨rfl,fun q s s' h1 h2=>?_,fun q n s s' h1 h2 _ _=>?_,rfl,fun _=>rfl,fun _=>rfl,fun _ _ _=>rfl⟩,rfl,fun q n s s' h1 h2 _ h3=>?_,fun file idx _ hu=>⟨hu,rfl⟩⟩
 ·have:m.sp[q]? =Xa s':=h2;rw[h1]at this;cases this;exact⟨rfl,rfl⟩
 ·have:m.sp[q]? =Xa s':=h2;rw[h1]at this;cases this;rfl
 have:m.sp[q]? =Xa s':=h2;rw[h1]at this;cases this;exact h3
end
theorem Goes.mono {S S':Nat->Nat->Prop} {a b:Ma} (h:Goes S a b) (hS:∀q n,S q n->S' q n):Goes S' a b:=⟨h.rt,h.sam.mono hS,h.fsl,h.bare,h.unc⟩
section
variable{m:Ma} {p n:Nat} {s:Sp}
theorem drop_goes (h:Rt m) (hs:m.sp[p]? =Xa s) (hn:n<64):Goes (fun q j=>q=p/\j=n) m (dropM m p n)/\(∀s',(dropM m p n).sp[p]? =Xa s'->flatN s' n=en0)/\(dropM m p n).ca=m.ca/\(dropM m p n).fl=m.fl/\∀(q j:Nat) s s',m.sp[q]? =Xa s->(dropM m p n).sp[q]? =Xa s'->¬(q=p/\j=n)->flatN s' j=flatN s j:=by
 have hd:m.sp.getD p ⟨Xd,[],[]⟩=s:=by rw[gD,hs];rfl
 have ht:∀s∈m.sp,TbOk s.tb:=fun s hs=>h.tb hs
 obtain⟨r1,r2⟩:=drop_ok h hs hn;have key:∃m1,dropM m p n=putE m1 p n en0/\m1.sp=m.sp/\m1.ca=m.ca/\m1.fl=m.fl/\m1.fs.length=m.fs.length/\∀file idx,contL m1 file idx=contL m file idx:=by
  unfold dropM;simp only[hd]
  by_cases h1:(flatN s n).kind=1
  ·rw[if_pos h1];obtain⟨k,fr,e1,e2,e3,e4⟩:=h.present hs hn h1;rw[e3,e1,tN];exact⟨_,rfl,rfl,rfl,rfl,by simp,fun file idx=>cont_letGo h.inv e2 (flats_at hs) hn h1 e1 file idx⟩
  rw[if_neg h1]
  by_cases h2:(flatN s n).kind=2
  ·rw[if_pos h2];exact⟨_,rfl,rfl,rfl,rfl,rfl,fun _ _=>rfl⟩
  rw[if_neg h2];exact⟨_,rfl,rfl,rfl,rfl,rfl,fun _ _=>rfl⟩
 obtain⟨m1,k1,k2,k3,k4,k5,k6⟩:=key;rw[k1]at r1 r2⊢;have ht1:∀s∈m1.sp,TbOk s.tb:=by rw[k2];exact ht
 have oth:∀(q j:Nat) s s',m.sp[q]? =Xa s->(putE m1 p n en0).sp[q]? =Xa s'->¬(q=p/\j=n)->flatN s' j=flatN s j:=fun q j s s' h1 h2 h3=>put_other ht1 hn enW_0 (by rw[k2];exact h1) h2 h3
 have now:∀s',(putE m1 p n en0).sp[p]? =Xa s'->flatN s' n=en0:=fun s' h1=>(put_now ht1 (by rw[k2];exact hs) hn enW_0 h1).1
 refine⟨⟨r1,r2,k5,fun q j s s' h1 h2 _ h0=>?_,fun file idx _ hu=>⟨fun c hc=>hu c (by rw[<-k3];exact hc),k6 _ _⟩⟩,now,k3,k4,oth⟩
 by_cases e:q=p/\j=n
 ·obtain⟨rfl,rfl⟩:=e;exact now s' h2
 rw[oth q j s s' h1 h2 e];exact h0
end
def dropAll (m:Ma):List (Nat × Nat)->Ma
 | []=>m
 | x :: l=>dropAll (dropM m x.1 x.2) l
theorem dropAll_goes:∀(l:List (Nat × Nat)) {m:Ma},Rt m->(∀x∈l,x.2<64/\∃s,m.sp[x.1]? =Xa s)->
  Goes (fun q j=>(q,j)∈l) m (dropAll m l)/\(∀x∈l,∀s',(dropAll m l).sp[x.1]? =Xa s'->flatN s' x.2=en0)/\(dropAll m l).ca=m.ca/\(dropAll m l).fl=m.fl/\∀(q j:Nat) s s',m.sp[q]? =Xa s->(dropAll m l).sp[q]? =Xa s'->(q,j)∉l->flatN s' j=flatN s j
 | [],m,h,_=>⟨Goes.refl h,fun x hx=>(by cases hx),rfl,rfl,fun q j s s' h1 h2 _=>by simp only[dropAll]at h2;rw[h1]at h2;cases h2;rfl⟩
 | x :: l,m,h,hl=>by
  obtain⟨hn,s,hs⟩:=hl x (Xv ..);obtain⟨g1,g2,g3,g4,g5⟩:=drop_goes h hs hn;have at1:∀(q:Nat) s,m.sp[q]? =Xa s->∃s',(dropM m x.1 x.2).sp[q]? =Xa s':=fun q s hs=>⟨_,gE (by rw[g1.sam.spl];exact(gS.1 hs).1)⟩
  obtain⟨r1,r2,r3,r4,r5⟩:=dropAll_goes l g1.rt (fun y hy=>by
   obtain⟨a1,t,a2⟩:=hl y (Yi _ hy);exact⟨a1,at1 y.1 t a2⟩)
  refine⟨(g1.mono ?_).trans (r1.mono fun q j e=>Yi _ e),fun y hy s' hs'=>?_,r3.trans g3,r4.trans g4,fun q j s s' h1 h2 h3=>?_⟩
  ·rintro q j ⟨rfl,rfl⟩;exact Xv ..
  ·by_cases hy2:y∈l
   ·exact r2 y hy2 s' hs'
   rcases mC.1 hy with rfl | e
   ·obtain⟨s1,hs1⟩:=at1 y.1 s hs;rw[r5 y.1 y.2 s1 s' hs1 hs' hy2];exact g2 s1 hs1
   exact absurd e hy2
  obtain⟨sq,hsq⟩:=at1 q s h1;rw[r5 q j sq s' hsq h2 (fun e=>h3 (Yi _ e))]
  refine g5 q j s sq h1 hsq (fun e=>h3 ?_)
  have:(q,j)=x:=Prod.ext e.1 e.2;rw[this];exact Xv ..
theorem cut_cut (p:List Int) (idx size:Int):cutP (cutP p idx size) idx size=cutP p idx size:=by
 unfold cutP
 apply Xu
 intro i;simp only[Yh]
 cases p[i]? with
 | none=>rfl
 | some z=>
  simp only[Option.map_some,Option.some.injEq]
  split <;> rfl
theorem write_disk {m:Ma} {file idx b:Nat} {f:Fl} {db':List (List Int)} {dq':List (Int × List Int)} (hf:m.fl[file]? =Xa f) (hi:idx<f.bl.length) {p:List Int} (hrd:readL db' dq' (b:Int)=cutP p (idx:Int) (szAt m (file:Int))):
  diskL (putB m file idx f (b:Int) db' dq') (file:Int) (idx:Int)=cutP p (idx:Int) (szAt m (file:Int)):=by
 have hfl:=(gS.1 hf).1;have hb:blAt (putB m file idx f (b:Int) db' dq') (file:Int) (idx:Int)=(b:Int):=by
  unfold blAt putB;simp only[gD,tN];rw[sF hfl];simp only[Option.getD_some];rw[sF hi];rfl
 have hs:szAt (putB m file idx f (b:Int) db' dq') (file:Int)=szAt m (file:Int):=by
  unfold szAt putB;simp only[gD,tN];rw[sF hfl,hf];rfl
 unfold diskL;rw[hb,hs,if_neg (by omega),show readL (putB m file idx f (b:Int) db' dq').db (putB m file idx f (b:Int) db' dq').dq (b:Int)=readL db' dq' (b:Int)from rfl,hrd,cut_cut]
section
variable{m:Ma} {k p n:Nat} {fr:Fr} {s:Sp}
def markM (m:Ma) (p n k:Nat) (fr:Fr) (write sh:Bool):Ma:=
 if write=Xc then putE { m with fs:=m.fs.set k { fr with u:=true,d:=fr.d || sh } } p n ⟨1,(k:Int),Xc⟩
 else{ m with fs:=m.fs.set k { fr with u:=true,d:=fr.d } }
end
def fitN (s:Sp) (kind k:Int):List Nat:=(List.range 64).filter fun n=>enS (flatN s n) && fitB kind k (flatN s n)
def hdrTo (m:Ma) (kind k:Int) (q:Nat):List (Nat × Nat):=(List.range q).flatMap fun p=>(fitN (m.sp.getD p ⟨Xd,[],[]⟩) kind k).map fun n=>(p,n)
theorem hdrTo_zero (m:Ma) (kind k:Int):hdrTo m kind k 0=[]:=rfl
theorem hdrTo_succ (m:Ma) (kind k:Int) (q:Nat):hdrTo m kind k (q+1)=hdrTo m kind k q++(fitN (m.sp.getD q ⟨Xd,[],[]⟩) kind k).map fun n=>(q,n):=by
 unfold hdrTo;rw[List.range_succ,Yd];simp
theorem fitN_mem {s:Sp} {kind k:Int} (hk:kind≠0) {n:Nat}:n∈fitN s kind k↔n<64/\isE (flatN s n) kind k=Xc:=by
 unfold fitN;rw[Xw,Ye];refine and_congr_right fun _=>?_
 unfold enS fitB isE;simp only[Xs,decide_eq_true_eq,bne_iff_ne,ne_eq,beq_iff_eq];constructor
 ·rintro⟨_,h⟩;exact h
 rintro⟨h1,h2⟩;exact⟨by rw[h1];exact hk,h1,h2⟩
theorem hdrTo_mem {m:Ma} {kind k:Int} (hk:kind≠0) {q:Nat} (hq:q<=m.sp.length) {x:Nat × Nat}:x∈hdrTo m kind k q↔x.1<q/\x.2<64/\∃s,m.sp[x.1]? =Xa s/\isE (flatN s x.2) kind k=Xc:=by
 unfold hdrTo;rw[List.mem_flatMap];constructor
 ·rintro⟨p,h1,h2⟩;obtain⟨n,h3,rfl⟩:=Yc.1 h2;have hp:=Ye.1 h1;have hs:=gE (show p<m.sp.length by omega)
  rw[gD,hs,Option.getD_some,fitN_mem hk]at h3;exact⟨hp,h3.1,_,hs,h3.2⟩
 rintro⟨h1,h2,s,h3,h4⟩;refine⟨x.1,Ye.2 h1,Yc.2 ⟨x.2,?_,rfl⟩⟩;rw[gD,h3,Option.getD_some,fitN_mem hk];exact⟨h2,h4⟩
theorem holders_slot {m:Ma} (h:Rt m) {k:Int}:∀x∈hdrTo m 2 k m.sp.length,x.2<64/\∃s,m.sp[x.1]? =Xa s/\(onAt s.ars x.2).is=Xc/\(onAt s.ars x.2).sh=Xd/\seeE m (onAt s.ars x.2) (flatN s x.2)=(readL m.sb m.sq k,Xc,0):=fun x hx=>by
 obtain⟨_,h2,s,h3,h4⟩:=(hdrTo_mem (by decide) (nR _)).1 hx
 simp only[isE,Xs,decide_eq_true_eq]at h4;obtain⟨j,z,e1,e2,e3,e4,e5,e6,e7⟩:=h.swapped h3 h2 h4.1;refine⟨h2,s,h3,e5,e6,?_⟩;unfold seeE;rw[if_neg (by rw[e5];decide),if_neg (by rw[h4.1];decide),if_pos h4.1,h4.2]
section
variable{m:Ma} {k:Nat} {fr:Fr}
theorem cache_there (h:Rt m) (hk:m.fs[k]? =Xa fr) (hf:0<=fr.f):∃(i:Nat) (c:Ca),m.ca[i]? =Xa c/\c.fr=(k:Int)/\c.file=fr.f/\c.idx=fr.x:=by
 obtain⟨c,hc,hcf⟩:=cached_mem ((h.inv.cf k fr hk).2 hf);obtain⟨i,hi⟩:=Xy hc;obtain⟨b1,b2,b3,b4⟩:=caE_ok ((caGo_zero.1 h.inv.ca).1 c hc);rw[hcf,frAt_of hk]at b3 b4;exact⟨i,c,hi,hcf,b3.symm,b4.symm⟩
end
def freeN (fs:List Fr):Nat:=fs.countP fun f=>decide (f.r=0)
section
variable{m:Ma}
theorem block_goes (S:Nat->Nat->Prop) (h:Rt m) {file idx b:Nat} {f:Fl} {db':List (List Int)} {dq':List (Int × List Int)} (hf:m.fl[file]? =Xa f) (hst:stW (m.fl.set file ⟨f.size,f.bl.set idx (b:Int)⟩) m.cnt=0)
  (hub:∀x,usedB (m.fl.set file ⟨f.size,f.bl.set idx (b:Int)⟩) x=Xc↔(usedB m.fl x=Xc/\x≠-1)\/x=(b:Int)\/(x=-1/\usedB (m.fl.set file ⟨f.size,f.bl.set idx (b:Int)⟩) x=Xc))
  (hdb:db'.length=m.db.length) (hdok:wrongL db'.length dq'=0) (hblk:∀i:Nat,db'[i]? =m.db[i]?\/∃q∈m.dq,q.1=(i:Int)) (hq:∀q∈dq',q.1=(b:Int)\/∃q'∈m.dq,q'.1=q.1) (hrd:∀i:Int,i≠(b:Int)->readL db' dq' i=readL m.db m.dq i)
  (hb0:f.bl[idx]? =Xa (b:Int)\/(usedB m.fl (b:Int)=Xd)) (hc:∃c∈m.ca,c.file=(file:Int)/\c.idx=(idx:Int)) (hown:∀(i j:Nat) g,m.fl[i]? =Xa g->g.bl[j]? =Xa (b:Int)->i=file/\j=idx):
  Goes S m (putB m file idx f (b:Int) db' dq'):=by
 obtain⟨⟨r1,r2⟩,r3⟩:=blockW_ok h hf hst hub hdb hdok hblk hq hrd hb0 hc hown;refine⟨r1,r2.mono (fun _ _ e=>e.elim),rfl,fun q n s s' h1 h2 _ h0=>?_,fun file idx hi hu=>⟨hu,r3 file idx hi⟩⟩
 have:m.sp[q]? =Xa s':=h2;rw[h1]at this;cases this;exact h0
def SeesK (k:Nat) (fr:Fr) (l:List (Nat × Nat)) (q:Nat) (s:Sp) (a:Ar) (n:Nat):Prop:=(oneOf a n).file=fr.f/\(oneOf a n).page=fr.x/\(q,n)∉l/\((flatN s n).kind=0\/isE (flatN s n) 1 (k:Int)=Xc)
theorem unseen {k:Nat} {fr:Fr} {l:List (Nat × Nat)} (h:∀(q:Nat) s (i:Nat) a (n:Nat),m.sp[q]? =Xa s->s.ars[i]? =Xa a->arIn a n=Xc->n<64->¬SeesK k fr l q s a n) (q n:Nat) (s:Sp) (hs:m.sp[q]? =Xa s) (hn:n<64) (hx:(onAt s.ars n).is=Xc) (hf:(onAt s.ars n).file=fr.f) (hp:(onAt s.ars n).page=fr.x) (he:(flatN s n).kind=0\/isE (flatN s n) 1 (k:Int)=Xc):(q,n)∈l:=by
 obtain⟨i,a,h1,h2,h3⟩:=onAt_some hx;refine Classical.byContradiction fun hne=>h q s i a n hs h1 h2 hn ⟨?_,?_,hne,he⟩
 ·rw[<-h3];exact hf
 rw[<-h3];exact hp
theorem out_goes (h:Rt m) {k:Nat} {fr:Fr} {l:List (Nat × Nat)} (hk:m.fs[k]? =Xa fr) (hf:0<=fr.f) (hr:fr.r≠0) (hd:diskL m fr.f fr.x=cutP (pgL fr.p) fr.x (szAt m fr.f))
  (hS:cutP (pgL fr.p) fr.x (szAt m fr.f)=pgL fr.p\/∀(q:Nat) s (i:Nat) a (n:Nat),m.sp[q]? =Xa s->s.ars[i]? =Xa a->arIn a n=Xc->n<64->¬SeesK k fr l q s a n):Goes (fun q j=>(q,j)∈l) m (toFile m k):=
 file_goes h _ hk hf hr hd (hS.imp id fun h1 q n s h2 h3 h4 h5 h6 h7=>unseen h1 q n s h2 h3 h4 h5 h6 h7)
theorem written_goes {l:List (Nat × Nat)} {file idx b:Nat} {f:Fl} {db':List (List Int)} {dq':List (Int × List Int)} {k:Nat} {fr:Fr} (hg:Goes (fun q j=>(q,j)∈l) m (putB m file idx f (b:Int) db' dq')) (hf:m.fl[file]? =Xa f) (hi:idx<f.bl.length) (hk:m.fs[k]? =Xa fr) (hfr:fr.f=(file:Int)) (hfx:fr.x=(idx:Int)) (hr:fr.r≠0)
  (hrd:readL db' dq' (b:Int)=cutP (pgL fr.p) (idx:Int) (szAt m (file:Int)))
  (hS:cutP (pgL fr.p) fr.x (szAt m fr.f)=pgL fr.p\/∀(q:Nat) s (i:Nat) a (n:Nat),m.sp[q]? =Xa s->s.ars[i]? =Xa a->arIn a n=Xc->n<64->¬SeesK k fr l q s a n):Goes (fun q j=>(q,j)∈l) m (toFile (putB m file idx f (b:Int) db' dq') k):=by
 refine hg.trans (out_goes hg.rt (fr:=fr) hk (by omega) hr ?_ ?_)
 ·rw[hfr,hfx,write_disk hf hi hrd,<-hg.sam.sz]
 rw[hg.sam.sz];exact hS
end
theorem Rt.parts {m:Ma} (h:Rt m):memW m.fs m.hand=0/\slW m.sl=0:=by
 have h0:=h.w;unfold maW at h0;rw[firstE_zero]at h0;have h1:partE m=0:=h0 _ (by simp)
 unfold partE at h1;rw[firstE_zero]at h1;exact⟨h1 _ (by simp),h1 _ (by simp)⟩
theorem Rt.refs {m:Ma} (h:Rt m) {k:Nat} {f:Fr} (hk:m.fs[k]? =Xa f):0<=f.r/\f.r<=300:=by
 have h1:=(h.inv.cf k f hk).1;have h2:=hold_le (flats m) 1 k;have h3:=cached_one h.inv.ca (k:Int);have h4:=h.inv.tl;have h5:=h.inv.spl;omega
theorem Rt.slots {m:Ma} (h:Rt m) {k:Nat} {z:Int} (hk:m.sl[k]? =Xa z):0<=z/\z<=300:=by
 have h1:=h.inv.cs k z hk;have h2:=hold_le (flats m) 2 k;have h4:=h.inv.tl;have h5:=h.inv.spl;omega
theorem getT_flat {s:Sp} {n:Nat} (hn:n<64):getT s.tb (n:Int)=flatN s n:=by
 unfold getT flatN;rw[if_pos (by omega),tN]
theorem setR_ok {t:List (List En)} (h:TbOk t) {n:Nat} (hn:n<64) {e:En} (he:enW e=0):setR t (n:Int) e=setT t n e:=by
 have h0:tbW t=0:=tbW_zero.2 h.2;have:setE t (n:Int) e=0:=by unfold setE;rw[if_pos h0,if_pos (by omega)];exact he
 unfold setR;rw[if_pos this,tN]
theorem enter_put {m:Ma} (ht:∀s∈m.sp,TbOk s.tb) {p n:Nat} (hp:p<m.sp.length) (hn:n<64) {e:En} (he:enW e=0):enterM m p (n:Int) e=putE m p n e:=by
 obtain⟨s,hs⟩:∃s,m.sp[p]? =Xa s:=⟨_,gE hp⟩;unfold enterM putE;rw[Sp.getD_of hs,setR_ok (ht s (mG hs)) hn he]
 congr 1
 apply Xu
 intro i;rw[Xz,Ym]
 by_cases e:p=i
 ·subst e;rw[if_pos rfl,if_pos hp,hs];simp
 rw[if_neg e]
 simp[e]
end
section
open Go.RowKit
section
variable{α:Type} {E:Elt α}
theorem splice_row (m:List α):∀(l:List α) (off:Nat),off+m.length<=l.length->splice (l.flatMap E.enc) (off*E.k) (m.flatMap E.enc)=(l.take off++(m++l.drop (off+m.length))).flatMap E.enc:=fun l off h=>by
 have h1:∀(l:List α) (j:Nat),j<=l.length->(l.flatMap E.enc).take (j*E.k)=(l.take j).flatMap E.enc/\(l.flatMap E.enc).drop (j*E.k)=(l.drop j).flatMap E.enc:=fun l j hj=>by
  have he:l.flatMap E.enc=(l.take j).flatMap E.enc++(l.drop j).flatMap E.enc:=by rw[<-Yd,List.take_append_drop]
  have hl:((l.take j).flatMap E.enc).length=j*E.k:=by rw[row_len E,List.length_take,Nat.min_eq_left hj]
  constructor
  ·rw[he,<-hl,List.take_left]
  rw[he,<-hl,List.drop_left]
 unfold splice;rw[row_len E m,<-Nat.add_mul,(h1 l off (by omega)).1,(h1 l (off+m.length) h).2,Yd,Yd]
theorem run_copy_elts {w:Xn} (ty:TypeId) (base:Nat) (v:Xq) (l:List α) (hown:OwnRow E base w v l) (g:Nat) (hg:v.ownBlock=Xa g) (off dLen dCap:Nat) (ad:Addr) (sLen sCap:Nat)
  (m:List α) (hm:m.length=Nat.min sLen dLen) (hsrc:Cells w ad (m.flatMap E.enc)) (hfit:off+m.length<=l.length):
  ∃w',(Builtin.copy_ #[E.st,E.st] ty #[O (Xa ⟨g,off*E.k,Xb⟩) dLen dCap,O (Xa ad) sLen sCap]).run Tryz.prog w= .ok (goInt m.length) w'/\OwnRow E base w' v (l.take off++(m++l.drop (off+m.length)))/\w.grownBy w' (Xa g)/\w'.heap.size=w.heap.size:=by
 obtain⟨i0,hi,_,hz1,_⟩:=info_parts E.info;have hcl:(m.flatMap E.enc).length=m.length*E.k:=row_len E m;have hfit':off*E.k+(m.flatMap E.enc).length<=l.length*E.k:=by
  rw[hcl,<-Nat.add_mul];exact Nat.mul_le_mul_right _ hfit
 obtain⟨w',hr,h2,h3,h4⟩:=run_storeCells_row (P:=Tryz.prog) hown.1 hg (off*E.k) (m.flatMap E.enc) hfit' (flatMap_one E.one m);have hl:=run_loadCells_list (P:=Tryz.prog) w ad (m.flatMap E.enc) hsrc;rw[hcl]at hl;rw[splice_row m l off hfit]at h2;have hlen:(l.take off++(m++l.drop (off+m.length))).length=l.length:=by simp;omega
 refine⟨w',?_,⟨by rw[hlen];exact h2,by rw[hlen];exact hown.2⟩,h3,h4⟩
 simp[Builtin.copy_,run_underlying E.und,Builtin.lenOf,Builtin.firstCells,sizeOf,typeInfo,hi,hz1,<-hm,hl,hr]
theorem wpList_copy_elts {w:Xn} {ops:Array Oper} {rest:List Oper} {o:Oper} {a:Act} {Q:Exit->Act->Xn->Prop} (hgd:o.guard=Xb) (d s:Operand) (ho:o.op= .call { callee:= .builtin .copy,args:=#[d,s],argTypes:=#[E.st,E.st] })
  (base:Nat) (v:Xq) (l:List α) (hown:OwnRow E base w v l) (g:Nat) (hg:v.ownBlock=Xa g) (off dLen dCap:Nat) (dp:Addr) (hd:a.eval d= O (Xa dp) dLen dCap) (hdp:dp=⟨g,off*E.k,Xb⟩) (ad:Addr) (sLen sCap:Nat) (hs:a.eval s= O (Xa ad) sLen sCap)
  (m:List α) (hm:m.length=Nat.min sLen dLen) (hsrc:Cells w ad (m.flatMap E.enc)) (hfit:off+m.length<=l.length)
  (h:∀w',OwnRow E base w' v (l.take off++(m++l.drop (off+m.length)))->w.grownBy w' (Xa g)->w'.heap.size=w.heap.size->wpList Tryz.prog ops Q rest (a.put o.dst (goInt m.length)) w'):wpList Tryz.prog ops Q (o :: rest) a w:=by
 subst hdp;refine wpList_plain hgd fun K hK=>?_
 obtain⟨w',hrun,h2,h3,h4⟩:=run_copy_elts o.type base v l hown g hg off dLen dCap ad sLen sCap m hm hsrc hfit;unfold Oper.wp
 simp[execOp,ho,resolve,invoke,builtin,hd,hs,hrun,Result.andThen]
 exact hK _ _ (h w' h2 h3 h4)
end
def wrM (m:Ma) (pg:List Int) (file idx:Int):Ma:=
 if blkE m.fl m.cnt file idx=0 then{ m with fl:=blkF m.fl m.cnt file idx,cnt:=blkC m.fl m.cnt file idx,db:=writeDP m.db m.dq (blkI m.fl m.cnt file idx),dq:=writeDQ m.db m.dq (blkI m.fl m.cnt file idx) pg }else m
theorem wrM_fs (m:Ma) (pg:List Int) (file idx:Int):(wrM m pg file idx).fs=m.fs/\(wrM m pg file idx).hand=m.hand/\(wrM m pg file idx).ca=m.ca/\(wrM m pg file idx).sp=m.sp/\(wrM m pg file idx).sl=m.sl:=by
 unfold wrM
 split <;> exact⟨rfl,rfl,rfl,rfl,rfl⟩
theorem cellsA_set {l:List Ar} {j:Nat} (y:Ar) (h:j<l.length):splice (cellsA l) (j*7) (arv y)=cellsA (l.set j y):=splice_set (enc:=arv) (k:=7) y rfl l j (fun _ _=>rfl) h
theorem cellsA_at {l:List Ar} {j:Nat} {e:Ar} (h:l[j]? =Xa e) (i:Nat) (u:Xq) (hu:(arv e)[i]? =Xa u):(cellsA l)[j*7+i]? =Xa u:=flatMap_elem (enc:=arv) (k:=7) l j e (fun _ _=>rfl) h i u hu
theorem tabA_len (f:Nat->Ar):(cellsA (tab f)).length=448:=by rw[cellsA_len,tab_len]
theorem wp_storeAr {ops:Array Oper} {rest:List Oper} {op:Oper} {a:Act} {w:Xn} {Q:Exit->Act->Xn->Prop} (hgd:op.guard=Xb) (p x:Operand) (ho:op.op= .store 125 p x) (b k:Nat) (hk:k<64) (hp:a.eval p= Xj (Xa ⟨b,k*7,Xb⟩)) (y:Ar) (hx:a.eval x=arA y)
  {f:Nat->Ar} (hb:Box w b (cellsA (tab f)))
  (h:∀w',Box w' b (cellsA (tab (upd f k y)))->w.grownBy w' (Xa b)->w'.heap.size=w.heap.size->wpList Tryz.prog ops Q rest (a.put op.dst undef) w'):wpList Tryz.prog ops Q (op :: rest) a w:=by
 refine wp_storeMid hgd 125 p x ho b (k*7) hp (arv y) hx hb (by rw[tabA_len];show _+7<=_;omega) Tryz.sizeArea (arE.one y) fun w' h1 h2 h3=>h w' ?_ h2 h3
 rw[cellsA_set y (by rw[tab_len];exact hk),tab_set]at h1
 exact h1
theorem extract_elem {cs vs:List Xq} {o k:Nat} (hl:vs.length=k) (h:∀(i:Nat) u,vs[i]? =Xa u->cs[o+i]? =Xa u):cs.toArray.extract o (o+k)=vs.toArray:=by
 apply Array.ext_getElem?
 intro j;rw[Array.getElem?_extract]
 by_cases hj:j<k
 ·obtain⟨u,hu⟩:∃u,vs[j]? =Xa u:=⟨_,gE (by omega)⟩
  have h1:=h j u hu;have h2:=(gS.1 h1).1;rw[if_pos (by simp;omega)]
  simp[h1,hu]
 rw[if_neg (by omega)]
 simp;omega
theorem run_idxA {w:Xn} {f:Nat->Ar} (i:Nat) (hi:i<64):(Instr.index 232 (Xi (cellsA (tab f)).toArray) (Xe Xf (i:Int))).run Tryz.prog w= .ok (arA (f i)) w:=by
 have ha:(isAgg 125).run Tryz.prog w= .ok Xc w:=by
  unfold isAgg;rw[Yb,run_underlying Tryz.underlying125 w];rfl
 have hs:(Go.sizeOf 125).run Tryz.prog w= .ok 7 w:=by
  obtain⟨i0,h1,h2⟩:∃i0,Tryz.prog.info? 125=Xa i0/\i0.size=7:=by
   have:=Tryz.sizeArea
   cases hq:Tryz.prog.info? 125 with
   | none=>rw[hq]at this;cases this
   | some i0=>rw[hq]at this;exact⟨i0,rfl,by simpa using this⟩
  simp[Go.sizeOf,typeInfo,h1,h2]
 have hlt:(0:Int)<=(i:Int)/\(i:Int)< ((64:Nat):Int):=by omega
 have hx:(cellsA (tab f)).toArray.extract (i*7) (i*7+7)=(arv (f i)).toArray:=extract_elem rfl fun j u hu=>cellsA_at (tab_at hi) j u hu
 simp only[Instr.index,asIntOf,Yb,Yj,rA,run_underlying Tryz.underlying232];rw[if_pos hlt];simp only[Yb,hs,rA,part,ha,if_true,tN,Yj,hx];rfl
theorem wp_idxA {ops:Array Oper} {rest:List Oper} {o:Oper} {a:Act} {w:Xn} {Q:Exit->Act->Xn->Prop} (hgd:o.guard=Xb) (x ix:Operand) (ho:o.op= .index 232 x ix) (f:Nat->Ar) (hx:a.eval x= Xi (cellsA (tab f)).toArray) (i:Nat) (hix:a.eval ix= Xe Xf (i:Int)) (hi:i<64)
  (h:wpList Tryz.prog ops Q rest (a.put o.dst (arA (f i))) w):wpList Tryz.prog ops Q (o :: rest) a w:=by
 refine wpList_plain hgd fun K hK=>?_
 unfold Oper.wp execOp;simp only[ho,hx,hix,Yb,Yj,rA,run_idxA i hi];exact hK _ _ h
theorem wp_idxAv {ops:Array Oper} {rest:List Oper} {o:Oper} {a:Act} {w:Xn} {Q:Exit->Act->Xn->Prop} (hgd:o.guard=Xb) (x ix:Operand) (ho:o.op= .index 232 x ix) (f:Nat->Ar) (hx:a.eval x= Xi (cellsA (tab f)).toArray) (i:Nat) (hix:a.eval ix= Xe Xf (i:Int)) (hi:i<64) {v:Xq} (hv:arA (f i)=v)
  (h:wpList Tryz.prog ops Q rest (a.put o.dst v) w):wpList Tryz.prog ops Q (o :: rest) a w:=wp_idxA hgd x ix ho f hx i hix hi (by rw[hv];exact h)
theorem wp_loadAr {ops:Array Oper} {rest:List Oper} {o:Oper} {a:Act} {w:Xn} {Q:Exit->Act->Xn->Prop} (hgd:o.guard=Xb) (x:Operand) (ho:o.op= .load 125 x) (b k:Nat) (hk:k<64) (hx:a.eval x= Xj (Xa ⟨b,k*7,Xb⟩)) {f:Nat->Ar} (hb:Box w b (cellsA (tab f)))
  (h:wpList Tryz.prog ops Q rest (a.put o.dst (arA (f k))) w):wpList Tryz.prog ops Q (o :: rest) a w:=
 wpList_load_mid hgd 125 x ho b (k*7) hx (arv (f k)) _ (hb.mid _ fun j u hu=>cellsA_at (tab_at hk) j u hu) Tryz.underlying125 rfl Tryz.sizeArea h
theorem wp_loadArv {ops:Array Oper} {rest:List Oper} {o:Oper} {a:Act} {w:Xn} {Q:Exit->Act->Xn->Prop} (hgd:o.guard=Xb) (x:Operand) (ho:o.op= .load 125 x) (b k:Nat) (hk:k<64) (hx:a.eval x= Xj (Xa ⟨b,k*7,Xb⟩)) {f:Nat->Ar} (hb:Box w b (cellsA (tab f))) {v:Xq} (hv:arA (f k)=v)
  (h:wpList Tryz.prog ops Q rest (a.put o.dst v) w):wpList Tryz.prog ops Q (o :: rest) a w:=wp_loadAr hgd x ho b k hk hx hb (by rw[hv];exact h)
theorem zeroA:(Tryz.prog.info? 232).map (·.zero)=Xa (Xa (Xi (cellsA (tab fun _=>ar0)).toArray)):=by kernel_rfl
theorem run_zeroA (w:Xn):(zeroValue 232).run Tryz.prog w= .ok (Xi (cellsA (tab fun _=>ar0)).toArray) w:=by
 have h:=zeroA
 cases hq:Tryz.prog.info? 232 with
 | none=>simp[hq]at h
 | some i=>
  simp[hq]at h
  simp[zeroValue,typeInfo,hq,h]
def partF (f:Nat->On):Nat->Ar:=fun n=>arOf n (f n)
def midF (l:List Ar) (i:Nat) (a:Ar) (n:Nat):Nat->On:=fun j=>if a.fr<=(j:Int)/\(j:Int)< (n:Int)then oneOf a j else onAt (l.take i) j
theorem CanP.take:∀{l:List Ar} {p:Option Ar},CanP p l->∀i,CanP p (l.take i)
 | [],_,_,i=>by simp[CanP]
 | a :: l,p,h,0=>by simp[CanP]
 | a :: l,p,h,i+1=>⟨h.1,h.2.1,h.2.2.take i⟩
theorem CanP.free {l:List Ar} (h:CanP Xb l) {i:Nat} {a:Ar} (ha:l[i]? =Xa a) {j:Nat} (hj:a.fr<=(j:Int)):onAt (l.take i) j=on0:=by
 refine onAt_none fun x hx=>arIn_no ?_
 have h1:=h.take (i+1);rw[take_snoc ha]at h1;obtain⟨c1,c2,c3⟩:=canP_snoc.1 h1
 cases hl:lastP Xb (l.take i)with
 | none=>
  unfold lastP at hl
  cases hq:l.take i with
  | nil=>rw[hq]at hx;cases hx
  | cons y ys=>rw[hq]at hl;simp[List.getLast?_cons]at hl
 | some y=>
  have q:=(c3 y hl).1;have hy:ArOk y:=c1.all y (by
   unfold lastP at hl
   split at hl
   ·rename_i b hb
    cases hl;exact List.mem_of_getLast? hb
   cases hl)
  unfold ArOk at hy
  rcases last_to _ Xb c1 x hx y hl with e | e
  ·rw[e];omega
  omega
theorem mid_start {l:List Ar} {i:Nat} {a:Ar} {n:Nat} (hn:(n:Int)=a.fr):midF l i a n=onAt (l.take i):=by
 funext j
 unfold midF;rw[if_neg (by omega)]
theorem mid_step {l:List Ar} {i:Nat} {a:Ar} {n:Nat} (hn:a.fr<=(n:Int)):upd (partF (midF l i a n)) n (arOf n (oneOf a n))=partF (midF l i a (n+1)):=by
 funext j
 unfold upd partF midF
 by_cases e:j=n
 ·subst e;rw[if_pos rfl,if_pos (by omega)]
 rw[if_neg e]
 congr 1
 by_cases h:a.fr<=(j:Int)/\(j:Int)< (n:Int)
 ·rw[if_pos h,if_pos (by omega)]
 rw[if_neg h,if_neg (by omega)]
theorem mid_end {l:List Ar} {i:Nat} {a:Ar} {n:Nat} (h:CanP Xb l) (ha:l[i]? =Xa a) (hn:(n:Int)=a.tz):midF l i a n=onAt (l.take (i+1)):=by
 funext j
 unfold midF;rw[take_snoc ha,onAt_snoc]
 ·by_cases h1:a.fr<=(j:Int)/\(j:Int)< (n:Int)
  ·rw[if_pos h1,if_pos (arIn_iff.2 (by omega))]
  rw[if_neg h1,if_neg (fun h2=>h1 (by have:=arIn_iff.1 h2;omega))]
 by_cases h1:a.fr<=(j:Int)
 ·exact .inl (h.free ha h1)
 exact .inr (arIn_no (by omega))
theorem part_none:partF (onAt ([]:List Ar))=fun _=>ar0:=by
 funext j
 rfl
theorem parted_any (v:Xq) (l:List Ar) (w:Xn) (hv:RowAt arE w v l) (hok:CanP Xb l):
  Xp Tryz.prog 170 #[v] w fun e w'=>e= Xl (Xi (cellsA (tab (partF (onAt l)))).toArray)/\Grew w w':=by
 have hbig:=hv.short;obtain⟨a,c,rfl,hrow⟩:=hv.ars;have HR:Xo (ArRows w a l):=hrow;have HOK:Xo (CanP Xb l):=hok;have HON:Xo (∀(q:Ar) (k:Nat) W,ArOk q->k<64->Xp Tryz.prog 132 #[Xi #[Xe Xf q.fr,Xe Xf q.tz,Xh q.rd,Xh q.wr,Xh q.sh,Xe Xf q.file,Xe Xf q.base],Xe Xf (k:Int)] W fun e w'=>e= Xl (arA (arOf k (oneOf q k)))/\Grew W w'):=fun q k W h1 h2=>only_any q k W h1 h2
 clear hrow hv hok;have hz:=run_zeroA;obtain⟨Z0,HZ0⟩:∃Z0,Xo (cellsA (tab fun _=>ar0)=Z0):=⟨_,rfl⟩
 rw[HZ0.out]at hz;have HZL:Xo (Z0.length=448):=show _=_ by rw[<-HZ0.out,tabA_len]
 obtain⟨C,HC⟩:∃C,Xo (cellsA (tab (partF (onAt l)))=C):=⟨_,rfl⟩;rw[HC.out];obtain⟨n,HN⟩:∃n,Xo (l.length=n):=⟨_,rfl⟩;rw[HN.out]at hbig⊢;obtain⟨W0,hW0⟩:∃W0,(w.alloc (Xk Z0.toArray 232)).alloc (Xk Z0.toArray 232)=W0:=⟨_,rfl⟩;have HG0:=gD2 hW0
 have Y0:Xo (Box W0 w.heap.size Z0):=show Box _ _ _ by rw[<-hW0];exact(Box.top _ _ _ (by simp)).alloc _
 have L0:Xo (Box W0 (w.heap.size+1) (cellsA (tab (partF (onAt (l.take 0)))))):=show Box _ _ _ by rw[<-hW0,List.take_zero,part_none,HZ0.out];exact Box.top _ _ _ (by simp)
 have HW0:Xo (_=W0):=hW0;clear hW0
 go_enter Tryz.func170,Tryz.ntmps170
 go_upto_region 2 with fail;rw[HW0.out];clear hz;go_wp2
 go_loopg [9] n (fun gg s9 wr=>∃kk:Nat,kk<=n/\n - kk<=gg/\s9= Xe Xf kk/\Xo (Grew w wr)/\Xo (Box wr w.heap.size Z0)/\Xo (Box wr (w.heap.size+1) (cellsA (tab (partF (onAt (l.take kk)))))))
 case atStart=>exact⟨0,nZ _,by omega,rfl,HG0.out,Y0.out,L0.out⟩
 obtain⟨kk,hkk,hg,rfl,BW,YW,LW⟩:=hrel
 by_cases hlt:kk<n
 ·have hltz:(kk:Int)< (n:Int):=by omega
  obtain⟨q,HQ⟩:∃q,Xo (l[kk]? =Xa q):=⟨_,gE (by rw[HN.out];exact hlt)⟩
  obtain⟨ad,rfl,hl⟩:=HR.out kk q HQ.out;obtain⟨d0,d1,d2,d3,d4,d5,d6⟩:=hl wr BW.out;have HQK:Xo (ArOk q):=HOK.out.all q (mG HQ.out);have hqb:0<=q.fr/\q.fr<q.tz/\q.tz<=64:=by have:=HQK.out;unfold ArOk at this;omega
  obtain⟨hq1,hq2,hq3⟩:=hqb;obtain⟨p,HP⟩:∃p,Xo (wr.heap.size=p):=⟨_,rfl⟩;have HLP:Xo (w.heap.size+1<p):=show _<_ by rw[<-HP.out];exact LW.out.lt
  clear hl;go_upto_region 5 with fail;obtain⟨W1,hW1⟩:∃W1,wr.alloc (Xk #[Xe Xf q.fr,Xe Xf q.tz,Xh q.rd,Xh q.wr,Xh q.sh,Xe Xf q.file,Xe Xf q.base] 125)=W1:=⟨_,rfl⟩;have G1:=gT hW1 BW
  have Y1:=yA hW1 YW
  obtain⟨f0,hf0⟩:∃f0:Nat,(f0:Int)=q.fr:=⟨q.fr.toNat,by omega⟩
  have L1:Xo (Box W1 (w.heap.size+1) (cellsA (tab (partF (midF l kk q f0))))):=show Box _ _ _ by rw[<-hW1,mid_start hf0];exact LW.out.alloc _
  have P1:=xP hW1 HP
  rw[hW1,HP.out];clear hW1 d0 d1 d2 d3 d4 d5 d6;have p0:=P1.out.c 0 rfl;go_wp2
  go_loopg [6] (q.tz.toNat - f0) (fun g2 s6 wr2=>∃k2:Nat,f0<=k2/\(k2:Int)<=q.tz/\q.tz.toNat - k2<=g2/\s6= Xe Xf k2/\Xo (Grew w wr2)/\Xo (Box wr2 w.heap.size Z0)/\Xo (Box wr2 (w.heap.size+1) (cellsA (tab (partF (midF l kk q k2)))))/\Xo (Box wr2 p [Xe Xf q.fr,Xe Xf q.tz,Xh q.rd,Xh q.wr,Xh q.sh,Xe Xf q.file,Xe Xf q.base]))
  case atStart=>exact⟨f0,nR _,by omega,by omega,by rw[hf0],G1.out,Y1.out,L1.out,P1.out⟩
  obtain⟨k2,hk2,hk2',hg2,rfl,BW2,YW2,LW2,PW2⟩:=hrel;clear p0;have p1:=PW2.out.c 1 rfl
  by_cases hlt2:(k2:Int)<q.tz
  ·have hi64:k2<64:=by omega
   have hi64z:(k2:Int)<64:=by omega
   have HST:Xo (upd (partF (midF l kk q k2)) k2 (arOf k2 (oneOf q k2))=partF (midF l kk q (k2+1))):=mid_step (l:=l) (i:=kk) (a:=q) (n:=k2) (by omega)
   go_wp2_with (refine wp_loadAll rfl 125 (.tmp 5) rfl p rfl PW2.out Tryz.underlying125 rfl Tryz.sizeArea ?_)
   refine(HON.out q k2 wr HQK.out hi64).mono ?_;rintro e W2 ⟨rfl,g2⟩;have G2:=dD (BW2.out.trans g2);have Y2:=dD (YW2.out.grew g2);have L2:=dD (LW2.out.grew g2);have P2:=dD (PW2.out.grew g2);clear g2 p1
   go_wp2_with (refine wp_storeAr rfl (.tmp 25) (.tmp 24) rfl (w.heap.size+1) k2 hi64 rfl (arOf k2 (oneOf q k2)) rfl L2.out ?_)
   intro W3 b3 g3 s3;have L3:Xo (Box W3 (w.heap.size+1) (cellsA (tab (partF (midF l kk q (k2+1)))))):=show Box _ _ _ by rw[<-HST.out];exact b3
   have G3:Xo (Grew w W3):=grew_grown G2.out g3 (by simp)
   have Y3:Xo (Box W3 w.heap.size Z0):=Y2.out.beside g3 (by intro g hg;cases hg;simp)
   have P3:Xo (Box W3 p [Xe Xf q.fr,Xe Xf q.tz,Xh q.rd,Xh q.wr,Xh q.sh,Xe Xf q.file,Xe Xf q.base]):=P2.out.beside g3 (by intro g hg;cases hg;have:=HLP.out;omega)
   clear b3 g3 s3 HST;go_wp2
   go_roundg (q.tz.toNat -(k2+1))
   case measure=>omega
   exact⟨k2+1,by omega,by omega,by omega,by go_num,G3.out,Y3.out,L3.out,P3.out⟩
  have hke:(k2:Int)=q.tz:=by omega
  have LE:Xo (Box wr (w.heap.size+1) (cellsA (tab (partF (onAt (l.take (kk+1))))))):=show Box _ _ _ by rw[<-mid_end HOK.out HQ.out hke];exact LW2.out
  go_wp2
  go_roundg (n -(kk+1))
  case measure=>omega
  exact⟨kk+1,by omega,by omega,by go_num,BW2.out,YW2.out,LE.out⟩
 have hltz:¬(kk:Int)< (n:Int):=by omega
 have:kk=n:=by omega
 subst this;have LE:Xo (Box wr (w.heap.size+1) C):=show Box _ _ _ by rw[<-HC.out];have:=LW.out;rw[<-HN.out,List.take_length]at this;exact this
 have HFL:Xo (C.length=448):=show _=_ by rw[<-HC.out,tabA_len]
 have HFO:Xo (∀v∈C,v.oneCell'=Xc):=show∀v∈C,_ by rw[<-HC.out];exact cellsA_one _
 go_wp2_with (first | refine wp_loadAll rfl 232 (.tmp 3) rfl (w.heap.size+1) rfl LE.out Tryz.underlying232 rfl (by rw[HFL.out];exact Tryz.sizePgs) ?_ | refine wp_storeAll rfl 232 (.tmp 2) (.tmp 27) rfl w.heap.size rfl C rfl YW.out (by rw[HFL.out,HZL.out]) (by rw[HZL.out];exact Tryz.sizePgs) HFO.out ?_)
 intro W3 b3 g3 s3;have G3:Xo (Grew w W3):=show Grew _ _ from grew_grown BW.out g3 (by simp)
 have B3:Xo (Box W3 w.heap.size C):=b3;clear b3 g3 s3;go_wp2;refine bodyPost_ret (ret_cell rfl _ rfl B3.out Tryz.underlying232 rfl (by rw[HFL.out];exact Tryz.sizePgs)) rfl ⟨rfl,G3.out⟩
theorem OwnRow.arc {base:Nat} {w:Xn} {g n c:Nat} {fs:List Ar} (h:OwnRow arE base w (O (Xa ⟨g,0,Xb⟩) n c) fs) {i:Nat} {q:Ar} (hq:fs[i]? =Xa q) (j:Nat) {u:Xq} (hu:(arv q)[j]? =Xa u):w.cell? ⟨g,i*7+j,Xb⟩=Xa u:=by
 have:=h.one hq j u hu;rw[add_add',Yq,zA]at this;exact this
theorem partF_is {f:Nat->On} {k:Nat} (h:(f k).is=Xc):partF f k=⟨k,(k:Int)+1,(f k).rd,(f k).wr,(f k).sh,(f k).file,(f k).page⟩:=by
 unfold partF arOf;rw[if_pos h]
theorem partF_no {f:Nat->On} {k:Nat} (h:(f k).is=Xd):partF f k=ar0:=by
 unfold partF arOf;rw[if_neg (by rw[h];decide)]
theorem joined_any (f:Nat->On) (w:Xn) (hg:Good f):
  Xp Tryz.prog 171 #[Xi (cellsA (tab (partF f))).toArray] w fun e w'=>(∃v,e= Xl v/\OwnRow arE (w.heap.size+1) w' v (joinL f))/\Grew w w':=by
 have HGD:Xo (Good f):=hg;have hgo:Xo (∀(q b:Ar) W,ArOk b->Xp Tryz.prog 166 #[Xi #[Xe Xf q.fr,Xe Xf q.tz,Xh q.rd,Xh q.wr,Xh q.sh,Xe Xf q.file,Xe Xf q.base],Xi #[Xe Xf b.fr,Xe Xf b.tz,Xh b.rd,Xh b.wr,Xh b.sh,Xe Xf b.file,Xe Xf b.base]] W fun e w'=>e= Xl (Xh (goB q b))/\Grew W w'):=fun q b W h=>goesOn_any q b W h
 have HIX:Xo (∀{ops:Array Oper} {rest:List Oper} {o:Oper} {a:Act} {w:Xn} {Q:Exit->Act->Xn->Prop} (_:o.guard=Xb) (x ix:Operand) (_:o.op= .index 232 x ix) (_:a.eval x= Xi (cellsA (tab (partF f))).toArray) (i:Nat) (_:a.eval ix= Xe Xf (i:Int)) (_:i<64) {v:Xq} (_:arA (partF f i)=v)
  (_:wpList Tryz.prog ops Q rest (a.put o.dst v) w),wpList Tryz.prog ops Q (o :: rest) a w):=fun h1 x ix h2 h3 i h4 h5 _ h6 h7=>wp_idxAv h1 x ix h2 (partF f) h3 i h4 h5 h6 h7
 clear hg;have HCL:Xo ((cellsA (tab (partF f))).length=448):=tabA_len _
 generalize cellsA (tab (partF f))=C at HIX HCL⊢
 obtain⟨W0,hW0⟩:∃W0,w.alloc (Xk C.toArray 232)=W0:=⟨_,rfl⟩;have HG0:=gA hW0
 have X0:=xA hW0
 have HS0:=sA hW0
 have HW0:Xo (_=W0):=hW0;clear hW0
 go_enter Tryz.func171,Tryz.ntmps171
 go_upto_region 1 with fail;rw[HW0.out]
 go_wp2_with (refine wp_loadAll rfl 232 (.tmp 1) rfl w.heap.size rfl X0.out Tryz.underlying232 rfl (by rw[HCL.out];exact Tryz.sizePgs) ?_)
 go_loopg [3,8] 64 (fun gg s3 s8 wr=>∃(kk:Nat) (acc:List Ar) (xa:Option Addr) (xc:Nat),kk<=64/\64 - kk<=gg/\s8= Xe Xf kk/\s3= O xa acc.length xc/\Xo (Grew W0 wr)/\Xo (OwnRow arE (w.heap.size+1) wr (O xa acc.length xc) acc)/\Xo (J f kk acc))
 case atStart=>exact⟨0,[],Xb,0,nZ _,by omega,rfl,rfl,Grew.refl _,OwnRow.nil _ _ _,J.zero f⟩
 obtain⟨kk,acc,xa,xc,hkk,hgg,rfl,rfl,BW,OW,JW⟩:=hrel
 by_cases hlt:kk<64
 ·have hltz:(kk:Int)<64:=by omega
  have HLEN:Xo (acc.length<=kk):=JW.out.len;obtain⟨p,HP⟩:∃p,Xo (wr.heap.size=p):=⟨_,rfl⟩
  cases hs:(f kk).is with
  | false=>
   have HIV:Xo (arA (partF f kk)= Xi #[Xe Xf 0,Xe Xf 0,Xh Xd,Xh Xd,Xh Xd,Xe Xf 0,Xe Xf 0]):=show _=_ by rw[partF_no hs];rfl
   have J2:Xo (J f (kk+1) acc):=JW.out.skip ((HGD.out kk hlt).1 hs);clear hs
   go_wp2_with (refine HIX.out rfl (.tmp 7) (.tmp 8) rfl rfl kk rfl hlt HIV.out ?_)
   go_roundg (64 -(kk+1))
   case measure=>omega
   exact⟨kk+1,acc,xa,xc,by omega,by omega,by go_num,rfl,BW.out.trans (grew_alloc _ _),OW.out.grew (grew_alloc _ _),J2.out⟩
  | true=>
   have HS:Xo ((f kk).is=Xc):=hs;have HPF:Xo (partF f kk=⟨kk,(kk:Int)+1,(f kk).rd,(f kk).wr,(f kk).sh,(f kk).file,(f kk).page⟩):=partF_is hs;have HNEW:Xo ((∀b,acc.getLast? =Xa b->goB (partF f kk) b=Xd)->J f (kk+1) (acc++ [partF f kk])):=fun h=>JW.out.new HGD.out hlt HS.out h
   have HEXT:Xo (∀i b,acc=i++ [b]->goB (partF f kk) b=Xc->J f (kk+1) (i++ [{ b with tz:=(kk:Int)+1 }])):=fun i b h1 h2=>by
    have:=JW.out;rw[h1]at this;exact this.ext HGD.out hlt HS.out h2
   clear hs;rw[HPF.out]at HNEW HEXT;have HIV:Xo (arA (partF f kk)= Xi #[Xe Xf (kk:Int),Xe Xf ((kk:Int)+1),Xh (f kk).rd,Xh (f kk).wr,Xh (f kk).sh,Xe Xf (f kk).file,Xe Xf (f kk).page]):=show _=_ by rw[HPF.out];rfl
   generalize f kk=x at HNEW HEXT HIV
   have hne1:((kk:Int) ==(kk:Int)+1)=Xd:=by simp;omega
   go_upto_region 5 with(refine HIX.out rfl (.tmp 7) (.tmp 8) rfl rfl kk rfl hlt HIV.out ?_)
   obtain⟨W1,hW1⟩:∃W1,wr.alloc (Xk #[Xe Xf (kk:Int),Xe Xf ((kk:Int)+1),Xh x.rd,Xh x.wr,Xh x.sh,Xe Xf x.file,Xe Xf x.page] 125)=W1:=⟨_,rfl⟩;have G1:=gT hW1 BW
   have O1:Xo (OwnRow arE (w.heap.size+1) W1 (O xa acc.length xc) acc):=show OwnRow _ _ _ _ _ by rw[<-hW1];exact OW.out.grew (grew_alloc _ _)
   have P1:=xPT hW1 HP
   rw[hW1,HP.out];clear hW1 HP
   rcases List.eq_nil_or_concat acc with hnil | ⟨ini,b,hacc⟩
   ·subst hnil;have J2:Xo (J f (kk+1) [⟨kk,(kk:Int)+1,x.rd,x.wr,x.sh,x.file,x.page⟩]):=HNEW.out (fun b hb=>by cases hb)
    have p0:=P1.out.box.c 0 rfl;have p1:=P1.out.box.c 1 rfl;have hm1:decide ((0:Int)<=-1)=Xd:=by decide
    go_upto_region 7 with fail;go_quiet (fail);obtain⟨W2,hW2⟩:∃W2,W1.drewN nq=W2:=⟨_,rfl⟩;have G2:Xo (Grew W0 W2):=show Grew _ _ by rw[<-hW2];exact G1.out.trans (show Below _ _ _ from bD (bR _ _) _)
    have P2:Xo (BoxT W2 p 125 [Xe Xf (kk:Int),Xe Xf ((kk:Int)+1),Xh x.rd,Xh x.wr,Xh x.sh,Xe Xf x.file,Xe Xf x.page]):=show BoxT _ _ _ _ by rw[<-hW2];exact P1.out.grew (show Below _ _ _ from bD (bR _ _) _)
    have O2:Xo (OwnRow arE (w.heap.size+1) W2 (O xa 0 xc) []):=show OwnRow _ _ _ _ _ by rw[<-hW2];exact O1.out.grew (show Below _ _ _ from bD (bR _ _) _)
    rw[hW2];clear hW2 p0 p1;have HSZ:Xo (w.heap.size+1<=W2.heap.size):=show _<=_ by rw[<-HS0.out];exact bS G2.out
    go_wp2_with (first | refine wp_loadAll rfl 125 (.tmp 5) rfl p rfl P2.out.box Tryz.underlying125 rfl Tryz.sizeArea ?_ | (at_builtin;refine wpList_append_row (E:=arE) rfl (.tmp 35) (.tmp 37) rfl (w.heap.size+1) _ [] rfl (O2.out.grew (grew_alloc _ _)) _ [⟨kk,(kk:Int)+1,x.rd,x.wr,x.sh,x.file,x.page⟩] rfl (one_row arE W2 ⟨kk,(kk:Int)+1,x.rd,x.wr,x.sh,x.file,x.page⟩ _ _ rfl (by show 40<=_;omega)) ?qb ?qc ?_))
    case qb=>
     show(0+1)*40<=_
     omega
    case qc=>simp;have:=HSZ.out;omega
    intro v4 W4 ow4 gr4;obtain⟨xa4,xc4,rfl⟩:=ow4.form;have O4:Xo (OwnRow arE (w.heap.size+1) W4 (.slice xa4 ([]++ [(⟨kk,(kk:Int)+1,x.rd,x.wr,x.sh,x.file,x.page⟩:Ar)]).length xc4) ([]++ [⟨kk,(kk:Int)+1,x.rd,x.wr,x.sh,x.file,x.page⟩])):=ow4;have G4:Xo (Grew W0 W4):=show Grew _ _ from grew_beside (G2.out.trans (grew_alloc _ _)) gr4 (fun g hg=>by
     have h1:=(O2.out.lt g hg).1;rw[HS0.out];exact h1)
    clear ow4 gr4;go_wp2
    go_roundg (64 -(kk+1))
    case measure=>omega
    exact⟨kk+1,[]++ [(⟨kk,(kk:Int)+1,x.rd,x.wr,x.sh,x.file,x.page⟩:Ar)],xa4,xc4,by omega,by omega,by go_num,rfl,G4.out,O4.out,J2.out⟩
   rw[List.concat_eq_append]at hacc;have HACC:Xo (acc=ini++ [b]):=hacc;obtain⟨m,HM⟩:∃m,Xo (ini.length=m):=⟨_,rfl⟩;have HAL:Xo (acc.length=m+1):=show _=_ by rw[HACC.out,<-HM.out];simp
   have HBI:Xo (acc[m]? =Xa b):=show _=_ by rw[HACC.out,<-HM.out];simp
   have HBK:Xo (ArOk b):=JW.out.1.all b (by rw[HACC.out];simp)
   obtain⟨g,xc',hxe⟩:=O1.out.formS (by rw[HAL.out];omega)
   cases hxe;have hmm:((m+1:Nat):Int) - 1=(m:Int):=by omega
   have hm0:(0:Int)<=(m:Int):=by omega
   have hmd:decide ((0:Int)<=(m:Int))=Xc:=by simp
   have hmlt:(m:Int)< ((m+1:Nat):Int):=by omega
   have HML:Xo (m+1<=kk):=show _<=_ by rw[<-HAL.out];exact HLEN.out
   have hmk:m+1<=64:=by have:=HML.out;omega
   clear hacc;rw[HAL.out]at O1 OW⊢;have p0:=P1.out.box.c 0 rfl;have p1:=P1.out.box.c 1 rfl;go_upto_region 7 with fail;clear p0 p1;have hx0:∀y:GrownW W1,y.world.cell? ⟨p,0,Xb⟩=Xa (Xe Xf (kk:Int)):=fun y=>(P1.out.box.grew y.grew).c 0 rfl
   have hx1:∀y:GrownW W1,y.world.cell? ⟨p,1,Xb⟩=Xa (Xe Xf ((kk:Int)+1)):=fun y=>(P1.out.box.grew y.grew).c 1 rfl
   have hx2:∀y:GrownW W1,y.world.cell? ⟨p,2,Xb⟩=Xa (Xh x.rd):=fun y=>(P1.out.box.grew y.grew).c 2 rfl
   have hx3:∀y:GrownW W1,y.world.cell? ⟨p,3,Xb⟩=Xa (Xh x.wr):=fun y=>(P1.out.box.grew y.grew).c 3 rfl
   have hx4:∀y:GrownW W1,y.world.cell? ⟨p,4,Xb⟩=Xa (Xh x.sh):=fun y=>(P1.out.box.grew y.grew).c 4 rfl
   have hx5:∀y:GrownW W1,y.world.cell? ⟨p,5,Xb⟩=Xa (Xe Xf x.file):=fun y=>(P1.out.box.grew y.grew).c 5 rfl
   have hx6:∀y:GrownW W1,y.world.cell? ⟨p,6,Xb⟩=Xa (Xe Xf x.page):=fun y=>(P1.out.box.grew y.grew).c 6 rfl
   have hy0:∀y:GrownW W1,y.world.cell? ⟨g,m*7,Xb⟩=Xa (Xe Xf b.fr):=fun y=>(O1.out.grew y.grew).arc HBI.out 0 rfl
   have hy1:∀y:GrownW W1,y.world.cell? ⟨g,m*7+1,Xb⟩=Xa (Xe Xf b.tz):=fun y=>(O1.out.grew y.grew).arc HBI.out 1 rfl
   have hy2:∀y:GrownW W1,y.world.cell? ⟨g,m*7+2,Xb⟩=Xa (Xh b.rd):=fun y=>(O1.out.grew y.grew).arc HBI.out 2 rfl
   have hy3:∀y:GrownW W1,y.world.cell? ⟨g,m*7+3,Xb⟩=Xa (Xh b.wr):=fun y=>(O1.out.grew y.grew).arc HBI.out 3 rfl
   have hy4:∀y:GrownW W1,y.world.cell? ⟨g,m*7+4,Xb⟩=Xa (Xh b.sh):=fun y=>(O1.out.grew y.grew).arc HBI.out 4 rfl
   have hy5:∀y:GrownW W1,y.world.cell? ⟨g,m*7+5,Xb⟩=Xa (Xe Xf b.file):=fun y=>(O1.out.grew y.grew).arc HBI.out 5 rfl
   have hy6:∀y:GrownW W1,y.world.cell? ⟨g,m*7+6,Xb⟩=Xa (Xe Xf b.base):=fun y=>(O1.out.grew y.grew).arc HBI.out 6 rfl
   have hne:Nonempty (GrownW W1):=⟨⟨_,Grew.refl _⟩⟩;obtain⟨R,HRR⟩:∃R,Xo (goB ⟨kk,(kk:Int)+1,x.rd,x.wr,x.sh,x.file,x.page⟩ b=R):=⟨_,rfl⟩;refine wp_lax [(8,⟨fun v=>v= Xh R,fun _ _=>True⟩)] mixed (by kernel_rfl) ?_ ?_ ?_
   ·intro x hx
    simp at hx
    subst hx;exact⟨_,rfl⟩
   ·intro x hx
    simp at hx
    subst hx;exact fun _ _ _ _ h=>h
   iterate 8 (refine lax_quiet rfl rfl rfl (fun K hK=>?_);go_big_quiet_op;refine hK _ ?_;clear hK K)
   refine lax_spec rfl rfl (fun w' hg hF=>?_) (fun v1 hv=>?_)
   ·refine Does.call [Xi #[Xe Xf (kk:Int),Xe Xf ((kk:Int)+1),Xh x.rd,Xh x.wr,Xh x.sh,Xe Xf x.file,Xe Xf x.page],Xi #[Xe Xf b.fr,Xe Xf b.tz,Xh b.rd,Xh b.wr,Xh b.sh,Xe Xf b.file,Xe Xf b.base]] rfl Tryz.func166 rfl rfl rfl ?_;refine(hgo.out ⟨kk,(kk:Int)+1,x.rd,x.wr,x.sh,x.file,x.page⟩ b w' HBK.out).mono ?_;rintro e w'' ⟨rfl,hg2⟩;exact⟨_,rfl,hg2,by rw[<-HRR.out],trivial⟩
   subst hv;simp only[Ya,sB,sS,sZ];iterate 1 (refine lax_quiet rfl rfl rfl (fun K hK=>?_);go_big_quiet_op;refine hK _ ?_;clear hK K)
   refine lax_nil fun W2 hg1 hF=>?_
   have G2:=dD (G1.out.trans hg1);have P2:=dD (P1.out.grew hg1);have O2:=dD (O1.out.grew hg1);clear hg1 hF hx0 hx1 hx2 hx3 hx4 hx5 hx6 hy0 hy1 hy2 hy3 hy4 hy5 hy6 hne
   cases R with
   | true=>
    have J2:Xo (J f (kk+1) (ini++ [{ b with tz:=(kk:Int)+1 }])):=HEXT.out ini b HACC.out HRR.out;have HSET:Xo (acc.set m { b with tz:=(kk:Int)+1 }=ini++ [{ b with tz:=(kk:Int)+1 }]):=show _=_ by rw[HACC.out,List.set_append_right _ _ (by rw[HM.out];exact nR _),HM.out,Nat.sub_self];rfl
    have p1:=P2.out.box.c 1 rfl
    go_wp2_with (refine wpList_store_part (E:=arE) rfl (.tmp 34) (.tmp 32) 3 rfl (w.heap.size+1) (O (Xa ⟨g,0,Xb⟩) (m+1) xc) acc O2.out g m 1 rfl b { b with tz:=(kk:Int)+1 } HBI.out [Xe Xf ((kk:Int)+1)] (by kernel_rfl) rfl (Yf rfl) (by intro u hu;simp at hu;subst hu;rfl) _ rfl (by simp;rfl) _ rfl rfl ?_)
    intro W3 ow3 gr3 sz3;have HBG:=O2.out.lt g rfl;have G3:Xo (Grew W0 W3):=show Grew _ _ from grew_grown G2.out gr3 (by rw[HS0.out];exact HBG.1)
    have HL3:Xo ((ini++ [{ b with tz:=(kk:Int)+1 }]).length=m+1):=show _=_ by simp[HM.out]
    have O3:Xo (OwnRow arE (w.heap.size+1) W3 (.slice (Xa ⟨g,0,Xb⟩) (ini++ [{ b with tz:=(kk:Int)+1 }]).length xc) (ini++ [{ b with tz:=(kk:Int)+1 }])):=show OwnRow _ _ _ _ _ by rw[HL3.out,<-HSET.out];exact ow3
    clear ow3 gr3 sz3 HBG p1;rw[<-HL3.out];go_wp2
    go_roundg (64 -(kk+1))
    case measure=>omega
    exact⟨kk+1,ini++ [({ b with tz:=(kk:Int)+1 }:Ar)],Xa ⟨g,0,Xb⟩,xc,by omega,by omega,by go_num,rfl,G3.out,O3.out,J2.out⟩
   | false=>
    have J2:Xo (J f (kk+1) (acc++ [⟨kk,(kk:Int)+1,x.rd,x.wr,x.sh,x.file,x.page⟩])):=HNEW.out (fun c hc=>by
     rw[HACC.out]at hc
     simp at hc
     subst hc;exact HRR.out)
    have HSZ:Xo (w.heap.size+1<=W2.heap.size):=show _<=_ by rw[<-HS0.out];exact bS G2.out
    go_wp2_with (first | refine wp_loadAll rfl 125 (.tmp 5) rfl p rfl P2.out.box Tryz.underlying125 rfl Tryz.sizeArea ?_ | (at_builtin;refine wpList_append_row (E:=arE) rfl (.tmp 35) (.tmp 37) rfl (w.heap.size+1) _ acc rfl (O2.out.grew (grew_alloc _ _)) _ [⟨kk,(kk:Int)+1,x.rd,x.wr,x.sh,x.file,x.page⟩] rfl (one_row arE W2 ⟨kk,(kk:Int)+1,x.rd,x.wr,x.sh,x.file,x.page⟩ _ _ rfl (by show 40<=_;omega)) ?qb ?qc ?_))
    case qb=>
     show(acc.length+1)*40<=_
     rw[HAL.out];omega
    case qc=>simp;have:=HSZ.out;omega
    intro v4 W4 ow4 gr4;obtain⟨xa4,xc4,rfl⟩:=ow4.form;have O4:Xo (OwnRow arE (w.heap.size+1) W4 (.slice xa4 (acc++ [(⟨kk,(kk:Int)+1,x.rd,x.wr,x.sh,x.file,x.page⟩:Ar)]).length xc4) (acc++ [⟨kk,(kk:Int)+1,x.rd,x.wr,x.sh,x.file,x.page⟩])):=ow4;have G4:Xo (Grew W0 W4):=show Grew _ _ from grew_beside (G2.out.trans (grew_alloc _ _)) gr4 (fun g hg=>by
     have h1:=(O2.out.lt g hg).1;rw[HS0.out];exact h1)
    clear ow4 gr4;go_wp2
    go_roundg (64 -(kk+1))
    case measure=>omega
    exact⟨kk+1,acc++ [(⟨kk,(kk:Int)+1,x.rd,x.wr,x.sh,x.file,x.page⟩:Ar)],xa4,xc4,by omega,by omega,by go_num,rfl,G4.out,O4.out,J2.out⟩
 have hltz:¬(kk:Int)<64:=by omega
 have:kk=64:=by omega
 subst this;have HE:Xo (acc=joinL f):=JW.out.all HGD.out;have OE:Xo (OwnRow arE (w.heap.size+1) wr (O xa acc.length xc) (joinL f)):=show OwnRow _ _ _ _ _ by rw[<-HE.out];exact OW.out
 have GE:=dD (HG0.out.trans BW.out);go_wp2;go_ret;exact⟨⟨_,rfl,OE.out⟩,GE.out⟩
structure Pts (m:Ma):Prop where
 s4:m.sp.length<=4
 f40:m.fs.length<=40
 fr:∀(k:Nat) f,m.fs[k]? =Xa f->0<=f.r/\f.r<=1000
 fl:m.fl.length<=5/\∀f∈m.fl,f.bl.length<=12
 ar:∀s∈m.sp,(wrL s.ars).1=0/\tbW s.tb=0
theorem pts_of {m:Ma} (h:partE m=0):Pts m:=by
 unfold partE at h;rw[firstE_zero]at h;have p1:memW m.fs m.hand=0:=h _ (by simp)
 have p5:stW m.fl m.cnt=0:=h _ (by simp)
 have p9:(if 4<m.sp.length then(4:Int)else 0)=0:=h _ (by simp)
 have p10:=firstE_zero.1 (h (firstE (m.sp.map spE)) (by simp))
 obtain⟨⟨a1,a2,a3⟩,a4,a5⟩:=(stW_zero _ _).1 p5;unfold memW at p1
 split at p1
 ·cases p1
 rename_i b1
 split at p1
 ·rename_i b2
  refine⟨?_,by omega,fun k f hf=>?_,⟨a1,fun f hf=>?_⟩,fun s hs=>?_⟩
  ·split at p9
   ·cases p9
   omega
  ·have hw:=frsW_zero.1 b2 f (mG hf);unfold frW at hw
   split at hw
   ·cases hw
   rename_i c1
   simp[inB]at c1
   omega
  ·obtain⟨k1,k2,k3⟩:=a4 f hf;have:=cntP_nat k1.1 k1.2;omega
  have h3:=p10 (spE s) (Yc.2 ⟨s,hs,rfl⟩);unfold spE at h3
  split at h3
  ·rename_i c
   exact absurd h3 c
  rename_i c
  split at h3
  ·rename_i d
   exact absurd h3 d
  rename_i d
  exact⟨Classical.byContradiction c,Classical.byContradiction d⟩
 rename_i b2
 exact absurd p1 b2
theorem caW_ok {m:Ma} {p:Option Ca} {c:Ca} (h:caE m p c=0):(0<=c.file/\c.file< (m.fl.length:Int)/\0<=c.idx/\c.idx<bkN m c.file/\0<=c.fr/\c.fr< (m.fs.length:Int))/\((frAt m c.fr).r≠0/\(frAt m c.fr).f=c.file/\(frAt m c.fr).x=c.idx)/\∀q,p=Xa q->¬keyC c<=keyC q:=by
 unfold caE at h
 split at h
 ·cases h
 rename_i h1
 split at h
 ·cases h
 rename_i h2
 refine⟨by omega,⟨fun e=>h2 (.inl e),Classical.byContradiction fun e=>h2 (.inr (.inl e)),Classical.byContradiction fun e=>h2 (.inr (.inr e))⟩,fun q e k=>?_⟩
 subst e;have h:(if keyC c<=keyC q then(2:Int)else 0)=0:=h;rw[if_pos k]at h;cases h
def viewV (r:List Int × Bool × Int):Xq:= Xm #[Xi (pgc r.1).toArray,Xh r.2.1,Xe Xf r.2.2]
theorem ent_all {m:Ma} (h:maW m=0):∀s∈m.sp,∀n,n<64->(if(flatN s n).kind=0 then 0 else entE m (onAt s.ars n) (flatN s n))=0:=fun s hs n hn=>by
 unfold maW at h;rw[firstE_zero]at h;have h1:=firstE_zero.1 (h (firstE (m.sp.map (spEnt m))) (by simp)) (spEnt m s) (Yc.2 ⟨s,hs,rfl⟩)
 unfold spEnt at h1;exact firstE_zero.1 h1 _ (Yc.2 ⟨n,Ye.2 hn,rfl⟩)
theorem maW_parts {m:Ma} (h:maW m=0):partE m=0:=by
 unfold maW at h;rw[firstE_zero]at h;exact h _ (by simp)
theorem fl_ok {m:Ma} (h:maW m=0) {fi:Nat} {f:Fl} (hf:m.fl[fi]? =Xa f):(0<=f.size/\f.size<=96)/\(f.bl.length:Int)=cntP f.size:=by
 have h1:=maW_parts h;unfold partE at h1;rw[firstE_zero]at h1;have h2:=((stW_zero _ _).1 (h1 (stW m.fl m.cnt) (by simp))).2.1 f (mG hf)
 exact⟨h2.1,h2.2.1⟩
theorem runs_loadA {o:Oper} {a:Act} {w:Xn} (ty:TypeId) (x:Operand) (ho:o.op= .load ty x) (ad:Addr) (hx:a.eval x= Xj (Xa ad)) (v:Xq) (hc:w.cell? ad=Xa v) {d:TypeDesc} (hu:Tryz.prog.underlying ty=Xa d) (hd:d.isRow=Xd):(execOp a.eval o).run Tryz.prog w= .ok (.value v) w:=by
 have hagg:(isAgg ty).run Tryz.prog w= .ok Xd w:=by
  unfold isAgg;rw[Yb,run_underlying hu w]
  cases d <;> simp_all [TypeDesc.isRow]
 have h2:(loadVar ty ad).run Tryz.prog w= .ok v w:=by simp[loadVar,Yb,hagg,hc]
 simp only[execOp,ho,hx,Instr.loadAt,Instr.sureAddr,Yb,Yj,h2,rA]
structure CaIs (m:Ma) (c:Ca) (k fi ix:Nat) (f:Fr) (F:Fl):Prop where
 fr:c.fr=(k:Int)
 file:c.file=(fi:Int)
 idx:c.idx=(ix:Int)
 fa:m.fs[k]? =Xa f
 ff:f.f=(fi:Int)
 fx:f.x=(ix:Int)
 fl:m.fl[fi]? =Xa F
 sz:0<=F.size/\F.size<=96
 lo:ix<=12
 r:f.r≠0
 bl:ix<F.bl.length
theorem caIs_of {m:Ma} (h0:maW m=0) {c:Ca} (hc:c∈m.ca):∃k fi ix f F,CaIs m c k fi ix f F:=by
 obtain⟨⟨a1,a2,a3,a4,a5,a6⟩,⟨b1,b2,b3⟩,-⟩:=caW_ok ((caGo_zero.1 (right_inv h0).1.ca).1 c hc);obtain⟨k,hk⟩:∃k:Nat,c.fr=(k:Int):=⟨c.fr.toNat,by omega⟩
 obtain⟨fi,hfi⟩:∃fi:Nat,c.file=(fi:Int):=⟨c.file.toNat,by omega⟩
 obtain⟨ix,hix⟩:∃ix:Nat,c.idx=(ix:Int):=⟨c.idx.toNat,by omega⟩
 obtain⟨f,hf⟩:∃f,m.fs[k]? =Xa f:=⟨_,gE (by omega)⟩
 obtain⟨F,hF⟩:∃F,m.fl[fi]? =Xa F:=⟨_,gE (by omega)⟩
 have hfa:frAt m c.fr=f:=by unfold frAt;rw[hk,tN,gD,hf];rfl
 have hbk:bkN m c.file=(F.bl.length:Int):=by unfold bkN;rw[hfi,tN,gD,hF];rfl
 rw[hfa]at b1 b2 b3;rw[hbk]at a4;obtain⟨s1,s2⟩:=fl_ok h0 hF;have:=cntP_nat s1.1 s1.2;exact⟨k,fi,ix,f,F,hk,hfi,hix,hf,b2.trans hfi,b3.trans hix,hF,s1,by omega,b1,by omega⟩
end
section
theorem count_upd {α:Type} (P:α->Bool):∀{l:List α} {k:Nat} {x y:α},l[k]? =Xa x->(l.set k y).countP P+(P x).toNat=l.countP P+(P y).toNat
 | [],k,x,y,h=>by simp at h
 | a :: l,0,x,y,h=>by
  have:a=x:=by simpa using h
  subst this;rw[sZ,Yg,Yg]
  cases P a <;> cases P y <;> simp
 | a :: l,k+1,x,y,h=>by
  have:=count_upd P (l:=l) (k:=k) (x:=x) (y:=y) (by rw[Xt]at h;exact h)
  rw[sS,Yg,Yg];omega
theorem free_out {fs:List Fr} {k:Nat} {fr:Fr} (hk:fs[k]? =Xa fr) (hr:fr.r≠0):freeN (fs.set k frF)=freeN fs+1:=by
 have h:freeN (fs.set k frF)+(decide (fr.r=0)).toNat=freeN fs+(decide (frF.r=0)).toNat:=count_upd _ hk;rw[decide_eq_false hr,show decide (frF.r=0)=Xc from rfl]at h
 exact h
theorem usedAt_iff {fs:List Fl} {b:Int}:usedB fs b=Xc↔∃(i:Nat) (f:Fl) (j:Nat),fs[i]? =Xa f/\f.bl[j]? =Xa b:=by
 unfold usedB;rw[List.any_eq_true];constructor
 ·rintro⟨f,hf,h⟩;obtain⟨i,hi⟩:=Xy hf;obtain⟨j,hj⟩:=Xy (Yl.1 h);exact⟨i,f,j,hi,hj⟩
 rintro⟨i,f,j,hi,hj⟩;exact⟨f,mG hi,Yl.2 (mG hj)⟩
theorem real_mem1 {l:List Int} {b:Int} (h:b∈l) (hb:b≠-1):b∈real l:=Xw.2 ⟨h,by simpa using hb⟩
theorem realAt_uniq {b:Int} (hb:b≠-1):∀{l:List Int} {j k:Nat},(real l).Nodup->l[j]? =Xa b->l[k]? =Xa b->j=k
 | [],j,k,_,h,_=>by simp at h
 | a :: l,j,k,hn,h1,h2=>by
  have hn':(real l).Nodup:=by
   unfold real at hn⊢;rw[List.filter_cons]at hn
   split at hn
   ·exact(List.nodup_cons.1 hn).2
   exact hn
  have key:a=b->b∉l:=fun e hm=>by
   subst e;unfold real at hn;rw[List.filter_cons,if_pos (by simpa using hb)]at hn
   exact(List.nodup_cons.1 hn).1 (real_mem1 hm hb)
  cases j with
  | zero=>
   cases k with
   | zero=>rfl
   | succ k=>
    rw[Xt]at h2;exact absurd (mG h2) (key (by simpa using h1))
  | succ j=>
   cases k with
   | zero=>
    rw[Xt]at h1;exact absurd (mG h1) (key (by simpa using h2))
   | succ k=>
    rw[Xt]at h1 h2;rw[realAt_uniq hb hn' h1 h2]
theorem allB_mem1 {fs:List Fl} {i j:Nat} {f:Fl} {b:Int} (h1:fs[i]? =Xa f) (h2:f.bl[j]? =Xa b):b∈allB fs:=List.mem_flatMap.2 ⟨f,mG h1,mG h2⟩
theorem blkAt_uniq {b:Int} (hb:b≠-1):∀{fs:List Fl} {i k j l:Nat} {f g:Fl},(real (allB fs)).Nodup->fs[i]? =Xa f->f.bl[j]? =Xa b->fs[k]? =Xa g->g.bl[l]? =Xa b->i=k/\j=l
 | [],i,k,j,l,f,g,_,h,_,_,_=>by simp at h
 | a :: fs,i,k,j,l,f,g,hn,h1,h2,h3,h4=>by
  have hsp:real (allB (a :: fs))=real a.bl++real (allB fs):=by
   unfold real allB;rw[List.flatMap_cons,List.filter_append]
  rw[hsp,List.nodup_append]at hn;obtain⟨n1,n2,n3⟩:=hn
  cases i with
  | zero=>
   have ea:a=f:=by simpa using h1
   subst ea
   cases k with
   | zero=>
    have eg:a=g:=by simpa using h3
    subst eg;exact⟨rfl,realAt_uniq hb n1 h2 h4⟩
   | succ k=>
    rw[Xt]at h3;exact absurd rfl (n3 b (real_mem1 (mG h2) hb) b (real_mem1 (allB_mem1 h3 h4) hb))
  | succ i=>
   rw[Xt]at h1
   cases k with
   | zero=>
    have eg:a=g:=by simpa using h3
    subst eg;exact absurd rfl (n3 b (real_mem1 (mG h4) hb) b (real_mem1 (allB_mem1 h1 h2) hb))
   | succ k=>
    rw[Xt]at h3;obtain⟨e1,e2⟩:=blkAt_uniq hb n2 h1 h2 h3 h4;exact⟨by rw[e1],e2⟩
theorem block_old {fs:List Fl} {cnt:Int} {file idx b:Nat} {f:Fl} (h:stW fs cnt=0) (hf:fs[file]? =Xa f) (hj:f.bl[idx]? =Xa (b:Int)):
  fs.set file ⟨f.size,f.bl.set idx (b:Int)⟩=fs/\(∀x,usedB fs x=Xc↔(usedB fs x=Xc/\x≠-1)\/x=(b:Int)\/(x=-1/\usedB fs x=Xc))/\∀(i j:Nat) g,fs[i]? =Xa g->g.bl[j]? =Xa (b:Int)->i=file/\j=idx:=by
 obtain⟨_,_,h5⟩:=(stW_zero fs cnt).1 h;have hb:(b:Int)≠-1:=by omega
 refine⟨?_,fun x=>?_,fun i j g h1 h2=>blkAt_uniq hb h5 h1 h2 hf hj⟩
 ·have e1:f.bl.set idx (b:Int)=f.bl:=by
   apply Xu
   intro q;rw[Xz]
   split
   ·rename_i e
    subst e;rw[if_pos (gS.1 hj).1,hj]
   rfl
  rw[e1]
  apply Xu
  intro q;rw[Xz]
  split
  ·rename_i e
   subst e;rw[if_pos (gS.1 hf).1,hf]
  rfl
 constructor
 ·intro hu
  by_cases e:x=-1
  ·exact .inr (.inr ⟨e,hu⟩)
  exact .inl ⟨hu,e⟩
 rintro(⟨hu,_⟩ | rfl | ⟨_,hu⟩)
 ·exact hu
 ·exact usedAt_iff.2 ⟨file,f,idx,hf,hj⟩
 exact hu
theorem block_new {fs:List Fl} {cnt:Int} {file idx b:Nat} {f:Fl} (h:stW fs cnt=0) (hf:fs[file]? =Xa f) (hj:f.bl[idx]? =Xa (-1)) (hb:b∈leftL fs cnt):
  stW (fs.set file ⟨f.size,f.bl.set idx (b:Int)⟩) cnt=0/\(∀x,usedB (fs.set file ⟨f.size,f.bl.set idx (b:Int)⟩) x=Xc↔(usedB fs x=Xc/\x≠-1)\/x=(b:Int)\/(x=-1/\usedB (fs.set file ⟨f.size,f.bl.set idx (b:Int)⟩) x=Xc))/\usedB fs (b:Int)=Xd/\∀(i j:Nat) g,fs[i]? =Xa g->g.bl[j]? =Xa (b:Int)->i=file/\j=idx:=by
 have hu:usedB fs (b:Int)=Xd:=by
  have:=(Xw.1 hb).2
  simpa using this
 have hfl:=(gS.1 hf).1;have hjl:=(gS.1 hj).1;refine⟨(give_right h hf hj hb).1,fun x=>?_,hu,fun i j g h1 h2=>?_⟩
 ·constructor
  ·intro hx
   by_cases e:x=-1
   ·exact .inr (.inr ⟨e,hx⟩)
   obtain⟨i,g,j,h1,h2⟩:=usedAt_iff.1 hx
   by_cases e1:file=i
   ·subst e1;rw[sF hfl]at h1;cases h1;simp only at h2
    by_cases e2:idx=j
    ·subst e2;rw[sF hjl]at h2;cases h2;exact .inr (.inl rfl)
    rw[sN e2]at h2;exact .inl ⟨usedAt_iff.2 ⟨file,f,j,hf,h2⟩,e⟩
   rw[sN e1]at h1;exact .inl ⟨usedAt_iff.2 ⟨i,g,j,h1,h2⟩,e⟩
  rintro(⟨hx,e⟩ | rfl | ⟨_,hx⟩)
  ·obtain⟨i,g,j,h1,h2⟩:=usedAt_iff.1 hx
   by_cases e1:i=file
   ·subst e1;rw[hf]at h1;cases h1;have hne:idx≠j:=fun e2=>by
     subst e2;rw[hj]at h2;cases h2;exact e rfl
    exact usedAt_iff.2 ⟨i,⟨f.size,f.bl.set idx (b:Int)⟩,j,by rw[sF hfl],by simp only;rw[sN hne];exact h2⟩
   exact usedAt_iff.2 ⟨i,g,j,by rw[sN (fun e2=>e1 e2.symm)];exact h1,h2⟩
  ·exact usedAt_iff.2 ⟨file,⟨f.size,f.bl.set idx (b:Int)⟩,idx,by rw[sF hfl],by simp only;rw[sF hjl]⟩
  exact hx
 have:=usedAt_iff.2 ⟨i,g,j,h1,h2⟩;rw[hu]at this;cases this
end
section
open Go.RowKit
theorem blk_of {m:Ma} (h:Rt m) {fi ix:Nat} {F:Fl} (hF:m.fl[fi]? =Xa F) (hb:ix<F.bl.length) (h0:blkE m.fl m.cnt (fi:Int) (ix:Int)=0):
  ∃b:Nat,(b:Int)<m.cnt/\blkI m.fl m.cnt (fi:Int) (ix:Int)=(b:Int)/\blkC m.fl m.cnt (fi:Int) (ix:Int)=m.cnt/\blkF m.fl m.cnt (fi:Int) (ix:Int)=m.fl.set fi ⟨F.size,F.bl.set ix (b:Int)⟩/\(F.bl[ix]? =Xa (b:Int)\/(F.bl[ix]? =Xa (-1)/\b∈leftL m.fl m.cnt)):=by
 have hst:=h.inv.st;have e1:blOf m.fl (fi:Int)=F.bl:=by unfold blOf;rw[tN,hF]
 have e2:szOf m.fl (fi:Int)=F.size:=by unfold szOf;rw[tN,hF]
 obtain⟨z,hz⟩:∃z,F.bl[ix]? =Xa z:=⟨_,gE hb⟩;have e3:F.bl.getD ix 0=z:=by rw[gD,hz];rfl
 obtain⟨c1,c2,_⟩:=(stW_zero _ _).1 hst;have key:∃b:Nat,(b:Int)<m.cnt/\blkB m.fl m.cnt (fi:Int) (ix:Int)=(b:Int)/\(z=(b:Int)\/(z=-1/\b∈leftL m.fl m.cnt)):=by
  unfold blkB;rw[e1,tN,e3]
  by_cases ez:z=-1
  ·have hl:leftL m.fl m.cnt≠[]:=fun e=>by
    unfold blkE at h0;have hfl:=(gS.1 hF).1;rw[if_pos hst,if_pos (inL_iff.2 ⟨by omega,by omega⟩),e1,if_pos (inL_iff.2 ⟨by omega,by omega⟩),tN,e3,if_pos ez,if_pos e]at h0
    cases h0
   cases hll:leftL m.fl m.cnt with
   | nil=>exact absurd hll hl
   | cons b l=>
    have hm:b∈leftL m.fl m.cnt:=by rw[hll];exact Xv ..
    have hbn:b<m.cnt.toNat:=Ye.1 (Xw.1 hm).1;refine⟨b,by omega,by rw[if_pos ez];rfl,.inr ⟨ez,Xv ..⟩⟩
  rw[if_neg ez];obtain⟨_,_,k3⟩:=c2 F (mG hF);have:=k3 z (mG hz);exact⟨z.toNat,by omega,by omega,.inl (by omega)⟩
 obtain⟨b,k1,k2,k3⟩:=key;refine⟨b,k1,?_,?_,?_,?_⟩
 ·unfold blkI;rw[if_pos h0,k2]
 ·unfold blkC;rw[if_pos h0]
 ·unfold blkF;rw[if_pos h0,e1,e2,k2,tN,tN]
 rw[hz]
 rcases k3 with e | ⟨e,e'⟩
 ·exact .inl (by rw[e])
 exact .inr ⟨by rw[e],e'⟩
theorem writeB_at (ps:List (List Int)) (qs:List (Int × List Int)) (hin:∀q∈qs,∃i:Nat,q.1=(i:Int)/\i<ps.length) (i:Nat):(writeB ps qs)[i]? =ps[i]?\/∃q∈qs,q.1=(i:Int):=by
 unfold writeB
 split
 ·rename_i h4
  cases qs with
  | nil=>cases h4
  | cons q l=>
   simp only[List.headD_cons];obtain⟨j,hj,_⟩:=hin q (Xv ..)
   by_cases e:i=j
   ·exact .inr ⟨q,Xv ..,by rw[e];exact hj⟩
   rw[hj,tN,sN (fun h=>e h.symm)]
   exact .inl rfl
 exact .inl rfl
end
end Go.Proofs.YtempiodbdhiboaaGreat
