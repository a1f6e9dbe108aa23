import Derived.Test.YtmfckdkcmbncdaaGreatCC2
import Derived.Lib.Overlaps
import Derived.Laws.Externs
namespace Go.Proofs.YtmfckdkcmbncdaaGreat
open Go.Value renaming slice→O,int→Xe,bool→Xh,agg→Xi,pointer→Xj,tuple→Xm
open Go.IntKind renaming i64→Xf,u8→Xg
open Go.Obj renaming cells→Xk
open Go.Ending renaming returned→Xl
open Go renaming World→Xn,Calls→Xp,Value→Xq
open Go.RowKit renaming Hid→Xo
open Option renaming some→Xa,none→Xb
open Bool renaming true→Xc,false→Xd
open List renaming replicate→Xr
open _root_.List renaming length_take→Xs,getElem?_cons_succ→Xt,any_eq_true→Xu,take_of_length_le→Xy,getElem?_of_mem→Xz,flatMap_append→Yb,mem_range→Yc,length_drop→Yf,length_set→Yh,take_append_drop→Yj,ext_getElem?→Yk,take_add_one→Yl,take→Ym,drop→Yn,countP_cons→Yo,length_cons→Yp,pairwise_iff_getElem→Yq,takeWhile_cons→Yr,length_map→Ys,take_left'→Yt,mem_cons_self→Yu,map_nil→Yy,mem_singleton→Yz,getElem?_map→Ob,append_assoc→Oc,size_toArray→Od,mem_map→Of,mem_filter→Og,contains_iff_mem→Oh,length_singleton→Oi,mem_of_mem_tail→Oj,findIdx_getElem→Ok,mem_of_mem_take→Ol,pairwise_cons→Om
open Go.Sem renaming run_bind→Xv,run_pure→Yg
open Go.Addr renaming add_lit→Xw
open Go.Act renaming put→Xx
open _root_.Nat renaming mul_le_mul_right→Ya,le_of_ble_eq_true→Yd,mod_eq_of_lt→Ye,min_eq_left→Yi,mod_lt→Yv,add_zero→Yw,mod_add_mod→Yx,lt_of_lt_of_le→Oa,add_sub_cancel_left→Oe,sub_self→Oo,add_mul→Oq
set_option maxRecDepth 100000
set_option maxHeartbeats 4000000
variable{B b fi g ix j:Nat} {Q:Exit->Act->Xn->Prop} {V:MaV} {W w' w0 w1:Xn} {l:List Ar} {m m':Ma} {o:Oper} {ops:Array Oper} {t:TypeId} {vs:List Xq}
open Go.Proofs.Tryz
section
open Go.RowKit
variable{X:Nat->Prop}
theorem zcB {w:Xn} {p:Nat} (h:ChW w0 X p w V m) (f:Fr) (fi ix:Nat) (F:Fl) (hf:f.f=(fi:Int)) (hx:f.x=(ix:Int)) (hF:m.fl[fi]? =Xa F) (hs:0<=F.size/\F.size<=96) (hi:ix<=12):
  Xp prog 227 #[Xj (Xa ⟨p,0,Xb⟩),Xi (frv f).toArray] w fun e w'=>e= Xl (Xi (pgc (qJ (pgL f.p) (ix:Int) F.size)).toArray)/\(qJ (pgL f.p) (ix:Int) F.size).length=8/\zc w w':=by
 have HM:Xo (ChW w0 X p w V m):=h;obtain⟨a,c,hfe,_,hfr⟩:=z7.rows h.at.fl;simp only[vJ]at hfe;obtain⟨hfa,hfn,hfc⟩:=hfe;obtain⟨ad,ha,xa,xc,_,hcl⟩:=hfr fi F hF;have HFA:Xo (V.fl.a=Xa ad):=hfa.trans ha;have hlt:(fi:Int)< (V.fl.n:Int):=by
  have:=(gS.1 hF).1;omega
 obtain⟨s,HSZ⟩:=kA F.size;rw[HSZ.out]at hs⊢;have HCC:Xo (∀W,zc w W->W.cell? (ad.add (fi*2))=Xa (I6 s)):=dD<|fun W hW=>by
  have:=(hcl W hW).1;rw[HSZ.out]at this;exact this
 have hc8:(qJ (pgL f.p) (ix:Int) s).length=8:=by unfold qJ;simp[pgL]
 have HC:Xo (∀W,Xp prog 182 #[Xi (pgc (pgL f.p)).toArray,I6 (s -(ix:Int)*8)] W fun e w'=>e= Xl (Xi (pgc (qJ (pgL f.p) (ix:Int) s)).toArray)/\zc W w'):=dD<|fun W=>by
  have k:=Z5 (pgL f.p) (s -(ix:Int)*8) W rfl Wm Wm
  rw[zn7]at k;exact k.mono fun e w' q=>⟨q.1,q.2.2⟩
 obtain⟨c0,c1,c2,c3,c4,c5,c6,c7,hce⟩:=zba _ hc8;rw[hce]at HC⊢;obtain⟨⟨b0,b1,b2,b3,b4,b5,b6,b7⟩,fr,fu,fd,ff,fx⟩:=f;dsimp only at hf hx;subst hf;subst hx;simp only[pgL,pgc,frv,mP,Yy]at HC⊢;have HL8:Xo ([c0,c1,c2,c3,c4,c5,c6,c7].length=8):=dD<|rfl
 clear h hfa hfn hfc ha hcl hfr hF hc8 hce;obtain⟨b,HB⟩:=kA w.heap.size;obtain⟨W1,hW1⟩:=kB ((w.alloc (Xk #[U8 b0,U8 b1,U8 b2,U8 b3,U8 b4,U8 b5,U8 b6,U8 b7,I6 fr,Xh fu,Xh fd,I6 (fi:Int),I6 (ix:Int)] 93)).alloc (Xk #[U8 0,U8 0,U8 0,U8 0,U8 0,U8 0,U8 0,U8 0] 91));have G1:=gD2 hW1
 have Y1:Xo (Box W1 b [U8 b0,U8 b1,U8 b2,U8 b3,U8 b4,U8 b5,U8 b6,U8 b7,I6 fr,Xh fu,Xh fd,I6 (fi:Int),I6 (ix:Int)]):=dD<|by rw[<-hW1];exact(Box.aE _ _ _ HB.symm).alloc _
 have Z1:Xo (zl W1 (b+1) 91 (pgc zI)):=dD<|by rw[<-hW1];exact zl.aE _ (pgc zI) _ (by simp[HB.out])
 have HW1:Xo (_=W1):=hW1;clear hW1
 go_enter func227,ntmps227
 go_upto_region 1 with fail;rw[HW1.out,HB.out];have gd:zc W1 W1.drew:=show Below _ _ _ from(bR _ _).drew
 obtain⟨I,HI⟩:∃I:Xn->Prop,Xo (∀u,I u↔(Box u b [U8 b0,U8 b1,U8 b2,U8 b3,U8 b4,U8 b5,U8 b6,U8 b7,I6 fr,Xh fu,Xh fd,I6 (fi:Int),I6 (ix:Int)])/\u.cell? ⟨p,7,Xb⟩=Xa (O (Xa ad) V.fl.n V.fl.c)/\u.cell? (ad.add (fi*2))=Xa (I6 s)):=⟨fun u=>_,fun _=>Iff.rfl⟩
 have x7:∀W,zc w W->W.cell? ⟨p,7,Xb⟩=Xa (O (Xa ad) V.fl.n V.fl.c):=fun W hW=>by
  have:=(HM.box.box.aA hW).c 7 rfl;rw[HFA.out]at this;exact this
 have X7:Xo (∀W,zc w W->W.cell? ⟨p,7,Xb⟩=Xa (O (Xa ad) V.fl.n V.fl.c)):=dD<|x7
 clear x7;have hI0:I W1.drew:=(HI _).2 ⟨Y1.aA gd,X7 _ (G1.trans gd),HCC _ (G1.trans gd)⟩;have hF0:zc W1 W1.drew:=gd;have hy0:=fun y:zq I=>((HI _).1 y.holds).1.c 0 rfl
 have hy1:=fun y:zq I=>((HI _).1 y.holds).1.c 1 rfl
 have hy2:=fun y:zq I=>((HI _).1 y.holds).1.c 2 rfl
 have hy3:=fun y:zq I=>((HI _).1 y.holds).1.c 3 rfl
 have hy4:=fun y:zq I=>((HI _).1 y.holds).1.c 4 rfl
 have hy5:=fun y:zq I=>((HI _).1 y.holds).1.c 5 rfl
 have hy6:=fun y:zq I=>((HI _).1 y.holds).1.c 6 rfl
 have hy7:=fun y:zq I=>((HI _).1 y.holds).1.c 7 rfl
 have hyf:=fun y:zq I=>((HI _).1 y.holds).1.c 11 rfl
 have hyx:=fun y:zq I=>((HI _).1 y.holds).1.c 12 rfl
 have hyp:=fun y:zq I=>((HI _).1 y.holds).2.1
 have hys:=fun y:zq I=>((HI _).1 y.holds).2.2
 have hne:Nonempty (zq I):=⟨⟨_,hI0⟩⟩;refine qw (I:=I) 19 [(17,fun v=>v= Xi #[U8 c0,U8 c1,U8 c2,U8 c3,U8 c4,U8 c5,U8 c6,U8 c7]),(18,fun _=>True)] (fun u=>zc W1 u) hI0 hF0 zW Kr rfl rfl Dc (Sb ⟨_,rfl⟩ ⟨undef,trivial⟩) Kr ?_
 simp only[Ym,Yn];iterate 3 (refine zb9 rfl rfl rfl (fun K hK=>?_);go_big_quiet_op;refine hK _ ?_;clear hK K)
 refine qG (.tmp 7) ⟨p,0,Xb⟩ rfl rfl rfl rfl ?_;simp only[Xx,sB,sS,sZ];iterate 13 (refine zb9 rfl rfl rfl (fun K hK=>?_);go_big_quiet_op;refine hK _ ?_;clear hK K)
 refine zV rfl rfl (fun _ u=>zc W1 u) (fun w' hI' hF'=>?_) (fun v1 hv=>?_)
 ·refine zP.call [Xi #[U8 b0,U8 b1,U8 b2,U8 b3,U8 b4,U8 b5,U8 b6,U8 b7],I6 (s -(ix:Int)*8)] rfl func182 rfl rfl rfl ?_;refine(HC w').mono ?_;rintro e w'' ⟨rfl,g2⟩;obtain⟨i1,i2,i3⟩:=(HI _).1 hI';have gg:=G1.trans (hF'.trans g2);exact⟨_,rfl,(HI _).2 ⟨i1.aA g2,X7 _ gg,HCC _ gg⟩,rfl,hF'.trans g2⟩
 subst hv;simp only[Xx,sB,sS,sZ];refine zV rfl rfl (fun _ u=>zc w u/\Box u (b+1) (pgc [c0,c1,c2,c3,c4,c5,c6,c7])) (fun w' hI' hF'=>?_) (fun v1 hv=>?_)
 ·refine jk 91 (.tmp 4) (.tmp 22) rfl (b+1) 0 rfl (Xi #[U8 c0,U8 c1,U8 c2,U8 c3,U8 c4,U8 c5,U8 c6,U8 c7]) rfl [U8 c0,U8 c1,U8 c2,U8 c3,U8 c4,U8 c5,U8 c6,U8 c7] rfl (Z1.aA hF') (by simp[pgc,zI]) Kr (by simp[Value.oneCell']) ?_
  intro W9 bx9 gr9 _;have g9:zc w W9:=zd (G1.trans hF') gr9 (Hm HB.out)
  obtain⟨i1,i2,i3⟩:=(HI _).1 hI';exact⟨(HI _).2 ⟨i1.grown gr9 Wm,X7 _ g9,HCC _ g9⟩,trivial,g9,bx9.box⟩
 clear hv;try simp only[Xx]
 refine jW fun W9 hI8 hF8=>?_
 have G9:Xo (zc w W9):=hF8.1;have B9:Xo (Box W9 (b+1) (pgc [c0,c1,c2,c3,c4,c5,c6,c7])):=hF8.2;clear hI8 hF8 hI0 hF0 hy0 hy1 hy2 hy3 hy4 hy5 hy6 hy7 hyf hyx hyp hys hne gd;go_wp2;refine bodyPost_ret (zE rfl _ rfl B9 underlying91 rfl ztF) rfl ⟨rfl,by first | trivial | rfl,G9⟩
variable{X:Nat->Prop}
theorem zkg {w:Xn} {p:Nat} (n:ChW w0 X p w V m) (k:Nat) (f:Fr) (al:m.fs[k]? =Xa f) (fi ix:Nat) (F:Fl) (a2:f.f=(fi:Int)) (q:f.x=(ix:Int)) (bb:m.fl[fi]? =Xa F) (bh:0<=F.size/\F.size<=96) (hi:ix<=12):
  Xp prog 195 #[Xj (Xa ⟨p,0,Xb⟩),I6 (k:Int)] w fun e w'=>e= Xl (Xh (decide (Zh m.fl m.cnt fi ix=0)))/\zaJ w0 X p w V (wrM m (qJ (pgL f.p) (ix:Int) F.size) fi ix) w':=by
 have an:=dD n;have g:Xo (∀W,zc w W->Xp prog 227 #[Xj (Xa ⟨p,0,Xb⟩),Xi (frv f).toArray] W fun e w'=>e= Xl (Xi (pgc (qJ (pgL f.p) (ix:Int) F.size)).toArray)/\zc W w'):=show∀W,_ from fun W a0=>(zcB (n.aA a0) f fi ix F a2 q bb bh hi).mono fun e w' am=>⟨am.1,am.2.2⟩
 have s:(qJ (pgL f.p) (ix:Int) F.size).length=8:=by unfold qJ;simp[pgL]
 obtain⟨a8,a6⟩:=kA (wrM m (qJ (pgL f.p) (ix:Int) F.size) fi ix);obtain⟨a9,a7⟩:=kA (decide (Zh m.fl m.cnt fi ix=0));have h:Xo (∀W,zc w W->Xp prog 194 #[Xj (Xa ⟨p,0,Xb⟩),Xi (pgc (qJ (pgL f.p) (ix:Int) F.size)).toArray,I6 (fi:Int),I6 (ix:Int)] W fun e w'=>e= Xl (Xh a9)/\zaJ w0 X p W V a8 w'):=dD<|fun W a0=>by
  rw[<-a6.out,<-a7.out];exact JZ (n.aA a0) _ s (fi:Int) (ix:Int)
 rw[a6.out,a7.out];have v:¬Dw p V w.heap.size:=fun e=>absurd (n.aM _ e) Wm
 obtain⟨cc,-⟩:=n.at.ns;obtain⟨c9,bd,be⟩:=n.at.bF k f al;have Q:=dD bd;have R:=dD be
 have bf:(k:Int)< (V.f.n:Int):=by
  have:=(gS.1 al).1;omega
 obtain⟨aa,ab,ac,ae,af,ag,ah,ai,a1⟩:=zba _ s;rw[a1]at g h;obtain⟨⟨z,A,B,C,D,E,G,H⟩,L,M,K,ca,cb⟩:=f;dsimp only at a2 q;subst a2;subst q;simp only[pgc,frv,mP,Yy]at g h;have bx:=an.box.box.c 0 rfl;rw[Q.out]at bx;obtain⟨aq,ar,au,av,aw,ax,ay,az,b8,b9,S,T,U⟩:=R.out w (zc.refl _);dsimp only at aq ar au av aw ax ay az b8 b9 S T U
 go_enter func195,ntmps195
 go_upto_region 2 with fail;obtain⟨c,P⟩:=kA w.heap.size;obtain⟨l,j⟩:=kB (w.alloc (Xk #[U8 z,U8 A,U8 B,U8 C,U8 D,U8 E,U8 G,U8 H,I6 L,Xh M,Xh K,I6 (fi:Int),I6 (ix:Int)] 93));have N:=gA j
 have ap:=xPT j P
 rw[j,P.out];rw[P.out]at v;have ak:zc l l.drew:=show Below _ _ _ from(bR _ _).drew
 obtain⟨b,a⟩:=Wq fun u=>zl u c 93 [U8 z,U8 A,U8 B,U8 C,U8 D,U8 E,U8 G,U8 H,I6 L,Xh M,Xh K,I6 (fi:Int),I6 (ix:Int)]
 have r:=(a _).2 (ap.aA ak);have Y:zc l l.drew:=ak;have bi:=fun y:zq b=>((a _).1 y.holds).box.c 0 rfl
 have bj:=fun y:zq b=>((a _).1 y.holds).box.c 1 rfl
 have bk:=fun y:zq b=>((a _).1 y.holds).box.c 2 rfl
 have bl:=fun y:zq b=>((a _).1 y.holds).box.c 3 rfl
 have bm:=fun y:zq b=>((a _).1 y.holds).box.c 4 rfl
 have bn:=fun y:zq b=>((a _).1 y.holds).box.c 5 rfl
 have bo:=fun y:zq b=>((a _).1 y.holds).box.c 6 rfl
 have bp:=fun y:zq b=>((a _).1 y.holds).box.c 7 rfl
 have bs:=fun y:zq b=>((a _).1 y.holds).box.c 8 rfl
 have bt:=fun y:zq b=>((a _).1 y.holds).box.c 9 rfl
 have bq:=fun y:zq b=>((a _).1 y.holds).box.c 10 rfl
 have br:=fun y:zq b=>((a _).1 y.holds).box.c 11 rfl
 have bu:=fun y:zq b=>((a _).1 y.holds).box.c 12 rfl
 have bg:Nonempty (zq b):=⟨⟨_,r⟩⟩;refine qw (I:=b) 9 [(3,fun a4=>a4= Xi #[U8 aa,U8 ab,U8 ac,U8 ae,U8 af,U8 ag,U8 ah,U8 ai]),(8,fun a4=>a4= Xh a9)] (fun u=>zc l u) r Y zW Kr rfl rfl Dc (Sb ⟨_,rfl⟩ ⟨_,rfl⟩) Kr ?_
 simp only[Ym,Yn];iterate 3 refine zy ?_
 refine zV rfl rfl (fun _ u=>zc l u) (fun w' i d=>?_) (fun bw a3=>?_)
 ·refine zP.call [Xj (Xa ⟨p,0,Xb⟩),Xi #[U8 z,U8 A,U8 B,U8 C,U8 D,U8 E,U8 G,U8 H,I6 L,Xh M,Xh K,I6 (fi:Int),I6 (ix:Int)]] rfl func227 rfl rfl rfl ?_;refine(g w' (N.trans d)).mono ?_;rintro e a5 ⟨rfl,aj⟩;exact⟨_,rfl,(a _).2 (((a _).1 i).aA aj),rfl,d.trans aj⟩
 subst a3;refine Uq ?_;iterate 4 refine zy ?_
 refine zV rfl rfl (fun _ u=>zaJ w0 X p w V a8 u) (fun w' i d=>?_) (fun bw a3=>?_)
 ·refine zP.call [Xj (Xa ⟨p,0,Xb⟩),Xi #[U8 aa,U8 ab,U8 ac,U8 ae,U8 af,U8 ag,U8 ah,U8 ai],I6 (fi:Int),I6 (ix:Int)] rfl func194 rfl rfl rfl ?_;refine(h w' (N.trans d)).mono ?_;rintro e a5 ⟨rfl,t⟩;have ba:=zaJ.aI (N.trans d) t;obtain⟨bz,_,_,bv,_⟩:=t;exact⟨_,rfl,(a _).2 (((a _).1 i).bW bv v),rfl,ba⟩
 subst a3;refine Uq ?_;refine jW fun c8 bc Z=>?_
 have ao:=dD Z;go_wp2;go_ret;exact⟨rfl,ao⟩
variable{X:Nat->Prop}
theorem zme (m:Ma) (pg) (file idx:Int):(wrM m pg file idx).fs=m.fs/\(wrM m pg file idx).aB=m.aB/\(wrM m pg file idx).ca=m.ca/\(wrM m pg file idx).sp=m.sp/\(wrM m pg file idx).sl=m.sl:=by grind [wrM]
def clM (m:Ma) (k:Nat) (f:Fr) (F:Fl):Ma:=
 if Zh m.fl m.cnt f.f f.x=0 then{ wrM m (qJ (pgL f.p) f.x F.size) f.f f.x with fs:=m.fs.set k { f with d:=false } }else m
theorem zi8 {w0 w:Xn} {p:Nat} {V:MaV} {m:Ma} (h:ChW w0 X p w V m) (k:Nat) (f:Fr) (hk:m.fs[k]? =Xa f) (fi ix:Nat) (F:Fl) (hf:f.f=(fi:Int)) (hx:f.x=(ix:Int)) (hF:m.fl[fi]? =Xa F) (hs:0<=F.size/\F.size<=96) (hi:ix<=12):
  Xp Tryz.prog 158 #[Xj (Xa ⟨p,0,Xb⟩),Xe Xf (k:Int)] w fun e w'=>e= Xl (Xh (decide (Zh m.fl m.cnt f.f f.x=0)))/\zaJ w0 X p w V (clM m k f F) w':=by
 have hc:=zkg h k f hk fi ix F hf hx hF hs hi;obtain⟨N,HN⟩:∃N,Xo (wrM m (qJ (pgL f.p) (ix:Int) F.size) fi ix=N):=⟨_,rfl⟩;have HNF:Xo (N.fs=m.fs):=show _=_ by rw[<-HN.out];exact(zme _ _ _ _).1
 have HC1:Xo (Zh m.fl m.cnt f.f f.x=0->clM m k f F={ N with fs:=m.fs.set k { f with d:=false } }):=show _->_ from fun e=>by
  unfold clM;rw[if_pos e,hf,hx,HN.out]
 have HC2:Xo (Zh m.fl m.cnt f.f f.x≠0->clM m k f F=m/\N=m):=show _->_ from fun e=>⟨by
  unfold clM;rw[if_neg e],by
  rw[<-HN.out];unfold wrM;rw[hf,hx]at e;rw[if_neg e]⟩
 rw[HN.out,<-hf,<-hx]at hc;obtain⟨M,HM⟩:∃M,Xo (clM m k f F=M):=⟨_,rfl⟩;rw[HM.out]at HC1 HC2⊢;obtain⟨R,HR⟩:∃R:Bool,Xo (decide (Zh m.fl m.cnt f.f f.x=0)=R):=⟨_,rfl⟩;rw[HR.out]at hc⊢;have HKF:Xo (m.fs[k]? =Xa f):=hk;have hkl:=(gS.1 hk).1;clear h hk hf hx hF hs hi HN HM
 go_enter Tryz.func158,Tryz.ntmps158
 go_upto_region 1 with fail;go_wp2_with fail;refine hc.mono ?_;clear hc;rintro e W2 ⟨rfl,hch⟩;have HCH:Xo (zaJ w0 X p w V N W2):=hch;clear hch
 cases R with
 | false=>
  have HN:Xo (M=m/\N=m):=show _/\_ from HC2.out (of_decide_eq_false HR.out)
  have HRR:Xo (zaJ w0 X p w V M W2):=show zaJ _ _ _ _ _ _ _ by rw[HN.out.1,<-HN.out.2];exact HCH.out
  go_wp2;go_ret;exact⟨rfl,HRR.out⟩
 | true=>
  have HN:Xo (M={ N with fs:=m.fs.set k { f with d:=false } }):=show _=_ from HC1.out (of_decide_eq_true HR.out)
  obtain⟨V2,e2,m2,o2,d2⟩:=HCH.out;have E2:Xo (V2.ca=V.ca):=e2;have M2:Xo (ChW w0 X p W2 V2 N):=m2;have O2:Xo (zk (Dw p V) w W2):=o2;have D2:Xo (∀k,Dw p V2 k->Dw p V k\/w.heap.size<=k):=d2;obtain⟨g,c9,heq⟩:=m2.fs.aJ (by rw[HNF.out];omega)
  have x0:=m2.box.box.c 0 rfl;rw[heq]at x0;have HFO:Xo (zb qi w0.heap.size W2 (O (Xa ⟨g,0,Xb⟩) N.fs.length c9) m.fs):=show zb _ _ _ _ _ by rw[<-heq,<-HNF.out];exact m2.fs
  have HG:Xo (oB V2.f g):=show oB _ _ by unfold oB;rw[heq];rfl
  have HEQ:Xo (O V2.f.a V2.f.n V2.f.c= O (Xa ⟨g,0,Xb⟩) N.fs.length c9):=heq;have hlt:(k:Int)< (N.fs.length:Int):=by rw[HNF.out];omega
  clear m2 o2 d2 e2 heq HC1 HC2
  go_wp2_with (refine zt (E:=qi) rfl (.tmp 17) (.const (Xh Xd)) 4 rfl w0.heap.size _ m.fs HFO.out g k 10 rfl f { f with d:=false } HKF.out [Xh Xd] Kr rfl (Yd rfl) (by intro u hu;simp at hu;subst hu;rfl) ⟨g,k*13+10,Xb⟩ rfl rfl _ rfl rfl ?_)
  intro W3 ow3 gr3 _;have HRR:Xo (zaJ w0 X p w V M W3):=show zaJ _ _ _ _ _ _ _ by
   rw[HN.out];refine zaJ.step O2.out D2.out E2.out (M2.out.frameC HG.out gr3 ?_);(try unfold Sli.x);rw[HEQ.out];exact ow3
  go_wp2;go_ret;exact⟨rfl,HRR.out⟩
theorem zmJ {a:Act} {w:Xn} (e x) (h:o.op= .load e x) (b c:Nat) (j:a.eval x= Xj (Xa ⟨b,c,Xb⟩)) (vs:List Xq) (f:w.rangeAt b c vs) {d:TypeDesc} (i:Tryz.prog.underlying e=Xa d) (g:d.isRow=Xc) (hi:(Tryz.prog.info? e).map (·.size)=Xa vs.length):(execOp a.eval o).run prog w= .ok (.value (Xi vs.toArray)) w:=by
 have:=run_loadAt_mid (P:=prog) w b c e vs d f i g hi;simp only[execOp,h,j,Xv,this,rA,Yg]
theorem zeI {a:Act} {w:Xn} (f x) (i:o.op= .load f x) (b c:Nat) (j:a.eval x= Xj (Xa ⟨b,c,Xb⟩)) (v) (h:w.cell? ⟨b,c,Xb⟩=Xa v) {d:TypeDesc} (g:Tryz.prog.underlying f=Xa d) (e:d.isRow=Xd):(execOp a.eval o).run prog w= .ok (.value v) w:=by
 have e:(isAgg f).run prog w= .ok Xd w:=by
  unfold isAgg;rw[Xv,run_underlying g w]
  cases d <;> simp_all [TypeDesc.isRow]
 have g:(loadVar f ⟨b,c,Xb⟩).run prog w= .ok v w:=by simp[loadVar,Xv,e,h]
 simp only[execOp,i,j,Instr.loadAt,Instr.sureAddr,Xv,Yg,g,rA]
theorem zlT (y:Ar) (h:j<l.length):splice (qA l) (j*7) (arv y)=qA (l.set j y):=zac (enc:=arv) (k:=7) y rfl l j (fun _ _=>rfl) h
theorem zhT {e:Ar} (h:l[j]? =Xa e) (i:Nat) (u:Xq) (a:(arv e)[i]? =Xa u):(qA l)[j*7+i]? =Xa u:=ZF (enc:=arv) (k:=7) l j e (fun _ _=>rfl) h i u a
theorem QX (f:Nat->Ar):(qA (tab f)).length=448:=by rw[zlU,zin]
theorem zeA {rest:List Oper} {c:Oper} {a:Act} {w:Xn} (d:c.guard=Xb) (p x:Operand) (m:c.op= .store 125 p x) (b k:Nat) (l:k<64) (hp:a.eval p= Xj (Xa ⟨b,k*7,Xb⟩)) (y:Ar) (n:a.eval x=arA y)
  {f:Nat->Ar} (j:Box w b (qA (tab f)))
  (h:∀w',Box w' b (qA (tab (upd f k y)))->w.grownBy w' (Xa b)->w'.heap.size=w.heap.size->wpList prog ops Q rest (a.put c.dst undef) w'):wpList prog ops Q (c :: rest) a w:=by
 refine zh9 d 125 p x m b (k*7) hp (arv y) n j (by rw[QX];show _+7<=_;omega) zty (arE.one y) fun w' e g i=>h w' ?_ g i
 rw[zlT y (Rx zin l),zqQ]at e
 exact e
theorem zhC {cs:List Xq} {o k:Nat} (a:vs.length=k) (h:∀(i:Nat) u,vs[i]? =Xa u->cs[o+i]? =Xa u):cs.toArray.extract o (o+k)=vs.toArray:=by
 apply Array.ext_getElem?
 grind
theorem zpe {w:Xn} {f:Nat->Ar} (i:Nat) (hi:i<64):(Instr.index 233 (Xi (qA (tab f)).toArray) (I6 (i:Int))).run prog w= .ok (arA (f i)) w:=by
 have g:(isAgg 125).run prog w= .ok Xc w:=by
  unfold isAgg;rw[Xv,run_underlying underlying125 w];rfl
 have h:(Go.sizeOf 125).run prog w= .ok 7 w:=by
  obtain⟨a,d,e⟩:∃a,Tryz.prog.info? 125=Xa a/\a.size=7:=by
   have:=zty
   cases c:Tryz.prog.info? 125 with
   | none=>rw[c]at this;cases this
   | some a=>rw[c]at this;exact⟨a,rfl,by simpa using this⟩
  simp[Go.sizeOf,typeInfo,d,e]
 have b:(0:Int)<=(i:Int)/\(i:Int)< ((64:Nat):Int):=Wm
 have k:(qA (tab f)).toArray.extract (i*7) (i*7+7)=(arv (f i)).toArray:=zhC rfl fun l u j=>zhT (zmy hi) l u j
 simp only[Instr.index,asIntOf,Xv,Yg,rA,run_underlying underlying233];rw[kE b];simp only[Xv,h,rA,part,g,if_true,tN,Yg,k];rfl
theorem zqM {rest:List Oper} {a:Act} {w:Xn} (b:o.guard=Xb) (x ix:Operand) (e:o.op= .index 233 x ix) (f:Nat->Ar) (g:a.eval x= Xi (qA (tab f)).toArray) (i:Nat) (c:a.eval ix=I6 (i:Int)) (hi:i<64)
  (h:wpList prog ops Q rest (a.put o.dst (arA (f i))) w):wpList prog ops Q (o :: rest) a w:=by
 refine wpList_plain b fun K d=>?_
 unfold Oper.wp execOp;simp only[e,g,c,Xv,Yg,rA,zpe i hi];exact d _ _ h
theorem zoW {rest:List Oper} {a:Act} {w:Xn} (b:o.guard=Xb) (x ix:Operand) (d:o.op= .index 233 x ix) (f:Nat->Ar) (g:a.eval x= Xi (qA (tab f)).toArray) (i:Nat) (c:a.eval ix=I6 (i:Int)) (hi:i<64) {v:Xq} (e:arA (f i)=v)
  (h:wpList prog ops Q rest (a.put o.dst v) w):wpList prog ops Q (o :: rest) a w:=zqM b x ix d f g i c hi (Rx e h)
theorem zmh {rest:List Oper} {a:Act} {w:Xn} (c:o.guard=Xb) (x:Operand) (g:o.op= .load 125 x) (b k:Nat) (e:k<64) (j:a.eval x= Xj (Xa ⟨b,k*7,Xb⟩)) {f:Nat->Ar} (d:Box w b (qA (tab f)))
  (h:wpList prog ops Q rest (a.put o.dst (arA (f k))) w):wpList prog ops Q (o :: rest) a w:=
 wpList_load_mid c 125 x g b (k*7) j (arv (f k)) _ (d.mid _ fun l u i=>zhT (zmy e) l u i) underlying125 rfl zty h
theorem zkC {rest:List Oper} {a:Act} {w:Xn} (c:o.guard=Xb) (x:Operand) (g:o.op= .load 125 x) (b k:Nat) (e:k<64) (j:a.eval x= Xj (Xa ⟨b,k*7,Xb⟩)) {f:Nat->Ar} (d:Box w b (qA (tab f))) {v:Xq} (i:arA (f k)=v)
  (h:wpList prog ops Q rest (a.put o.dst v) w):wpList prog ops Q (o :: rest) a w:=zmh c x g b k e j d (Rx i h)
theorem zsP:(Tryz.prog.info? 233).map (·.zero)=Xa (Xa (Xi (qA (tab fun _=>ar0)).toArray)):=by kernel_rfl
theorem zgK (w:Xn):(zeroValue 233).run prog w= .ok (Xi (qA (tab fun _=>ar0)).toArray) w:=by
 have h:=zsP
 cases a:Tryz.prog.info? 233 with
 | none=>simp[a]at h
 | some i=>
  simp[a]at h
  simp[zeroValue,typeInfo,a,h]
def qD (f:Nat->On):Nat->Ar:=fun n=>Jq n (f n)
def zl4 (l:List Ar) (i:Nat) (a:Ar) (n:Nat):Nat->On:=fun j=>if a.fr<=(j:Int)/\(j:Int)< (n:Int)then qp a j else zJ (l.take i) j
theorem Qo.take:∀{l:List Ar} {p:Option Ar},Qo p l->∀i,Qo p (l.take i)
 | [],_,_,i=>by simp[Qo]
 | a :: l,p,h,0=>by simp[Qo]
 | a :: l,p,h,i+1=>⟨h.1,h.2.1,h.2.2.take i⟩
theorem Qo.free (h:Qo Xb l) {i:Nat} {a:Ar} (d:l[i]? =Xa a) (b:a.fr<=(j:Int)):zJ (l.take i) j=on0:=by
 refine zbq fun x c=>zd6 ?_
 have b:=h.take (i+1);rw[ZB d]at b;obtain⟨d,e,f⟩:=J1.1 b
 cases b:za0 Xb (l.take i)with
 | none=>
  unfold za0 at b
  cases e:l.take i with
  | nil=>rw[e]at c;cases c
  | cons y g=>rw[e]at b;simp[List.getLast?_cons]at b
 | some y=>
  have q:=(f y b).1;have e:jV y:=d.all y (by grind [za0,List.mem_of_getLast?])
  unfold jV at e
  rcases ziJ _ Xb d x c y b with e|e
  ·grind
  omega
theorem zne {i:Nat} {a:Ar} {n:Nat} (b:(n:Int)=a.fr):zl4 l i a n=zJ (l.take i):=by
 funext j
 unfold zl4;rw[kF Wm]
theorem zpy {i:Nat} {a:Ar} {n:Nat} (b:a.fr<=(n:Int)):upd (qD (zl4 l i a n)) n (Jq n (qp a n))=qD (zl4 l i a (n+1)):=by
 funext j
 unfold upd qD zl4
 by_cases e:j=n
 ·subst e;rw[kE rfl,kE Wm]
 rw[kF e]
 congr 1
 by_cases h:a.fr<=(j:Int)/\(j:Int)< (n:Int)
 ·rw[kE h,kE Wm]
 rw[kF h,kF Wm]
theorem zrd {i:Nat} {a:Ar} {n:Nat} (h:Qo Xb l) (c:l[i]? =Xa a) (e:(n:Int)=a.tz):zl4 l i a n=zJ (l.take (i+1)):=by
 funext j
 unfold zl4;rw[ZB c,JL]
 ·by_cases b:a.fr<=(j:Int)/\(j:Int)< (n:Int)
  ·rw[kE b,kE (jl.2 Wm)]
  rw[kF b,kF (fun d=>b (Hm (jl.1 d)))]
 by_cases b:a.fr<=(j:Int)
 ·exact .inl (h.free c b)
 exact .inr (zd6 Wm)
theorem zm1:qD (zJ ([]:List Ar))=fun _=>ar0:=by
 funext j
 rfl
theorem zkY (v:Xq) (l:List Ar) (w:Xn) (aa:zj arE w v l) (P:Qo Xb l):
  Xp prog 170 #[v] w fun e w'=>e= Xl (Xi (qA (tab (qD (zJ l)))).toArray)/\zc w w':=by
 have L:=aa.short;obtain⟨a,bo,rfl,j⟩:=aa.aD;have am:Xo (zky w a l):=j;have D:Xo (Qo Xb l):=P;have I:Xo (∀(q:Ar) (z:Nat) W,jV q->z<64->Xp prog 132 #[Xi #[I6 q.fr,I6 q.tz,Xh q.rd,Xh q.wr,Xh q.sh,I6 q.file,I6 q.base],I6 (z:Int)] W fun e w'=>e= Xl (arA (Jq z (qp q z)))/\zc W w'):=fun q z W ba bb=>zjO q z W ba bb
 clear j aa P;have ai:=zgK;obtain⟨s,m⟩:=kA (qA (tab fun _=>ar0))
 rw[m.out]at ai;have F:Xo (s.length=448):=dD<|by rw[<-m.out,QX]
 obtain⟨C,Q⟩:=kA (qA (tab (qD (zJ l))));rw[Q.out];obtain⟨A,Z⟩:=kA l.length;rw[Z.out]at L⊢;obtain⟨a6,f⟩:=kB ((w.alloc (Xk s.toArray 233)).alloc (Xk s.toArray 233));have X:=gD2 f
 have aw:Xo (Box a6 w.heap.size s):=dD<|by rw[<-f];exact(Box.aE _ _ _ Sm).alloc _
 have an:Xo (Box a6 (w.heap.size+1) (qA (tab (qD (zJ (l.take 0)))))):=dD<|by rw[<-f,List.take_zero,zm1,m.out];exact Box.aE _ _ _ Sm
 have a3:Xo (_=a6):=f;clear f
 go_enter func170,ntmps170
 go_upto_region 2 with fail;rw[a3.out];clear ai;go_wp2
 go_loopg [9] A (fun b9 bl wr=>∃c:Nat,c<=A/\A - c<=b9/\bl=I6 c/\Xo (zc w wr)/\Xo (Box wr w.heap.size s)/\Xo (Box wr (w.heap.size+1) (qA (tab (qD (zJ (l.take c)))))))
 exact⟨0,nZ _,Wm,rfl,X,aw,an⟩
 obtain⟨c,be,R,rfl,T,ae,a5⟩:=hrel
 by_cases x:c<A
 ·have N:=kC x
  obtain⟨q,a1⟩:∃q,Xo (l[c]? =Xa q):=⟨_,gE (Rx Z.out x)⟩
  obtain⟨bn,rfl,ag⟩:=am.out c q a1.out;obtain⟨b0,b1,b2,b4,b5,b6,b7⟩:=ag wr T.out;have E:Xo (jV q):=D.all q (mG a1);have a9:0<=q.fr/\q.fr<q.tz/\q.tz<=64:=by have:=E.out;unfold jV at this;omega
  obtain⟨bf,bg,bh⟩:=a9;obtain⟨S,a0⟩:=kA wr.heap.size;have Y:Xo (w.heap.size+1<S):=dD<|Ry a0.out a5.lt
  clear ag;go_upto_region 5 with fail;obtain⟨av,d⟩:=kB (wr.alloc (Xk #[I6 q.fr,I6 q.tz,Xh q.rd,Xh q.wr,Xh q.sh,I6 q.file,I6 q.base] 125));have ak:=gT d T
  have ax:=yA d ae
  obtain⟨y,M⟩:∃y:Nat,(y:Int)=q.fr:=⟨q.fr.toNat,Wm⟩
  have ao:Xo (Box av (w.heap.size+1) (qA (tab (qD (zl4 l c q y))))):=dD<|by rw[<-d,zne M];exact a5.alloc _
  have ac:=xP d a0
  rw[d,a0.out];clear d b0 b1 b2 b4 b5 b6 b7;have bi:=ac.c 0 rfl;go_wp2
  go_loopg [6] (q.tz.toNat - y) (fun t bk g=>∃b:Nat,y<=b/\(b:Int)<=q.tz/\q.tz.toNat - b<=t/\bk=I6 b/\Xo (zc w g)/\Xo (Box g w.heap.size s)/\Xo (Box g (w.heap.size+1) (qA (tab (qD (zl4 l c q b)))))/\Xo (Box g S [I6 q.fr,I6 q.tz,Xh q.rd,Xh q.wr,Xh q.sh,I6 q.file,I6 q.base]))
  exact⟨y,nR _,Wm,Wm,by rw[M],ak,ax,ao,ac⟩
  obtain⟨b,bd,af,bc,rfl,B,H,G,p⟩:=hrel;clear bi;have bj:=p.c 1 rfl
  by_cases ah:(b:Int)<q.tz
  ·have h:b<64:=Wm
   have a7:(b:Int)<64:=Wm
   have a2:Xo (upd (qD (zl4 l c q b)) b (Jq b (qp q b))=qD (zl4 l c q (b+1))):=zpy (l:=l) (i:=c) (a:=q) (n:=b) Wm
   go_wp2_with (refine zp rfl 125 (.tmp 5) rfl S rfl p underlying125 rfl zty ?_)
   refine(I q b wr E h).mono ?_;rintro e bm ⟨rfl,t⟩;have al:=dD (B.trans t);have ay:=dD (H.aA t);have ap:=dD (G.aA t);have ar:=dD (p.aA t);clear t bj
   go_wp2_with (refine zeA rfl (.tmp 25) (.tmp 24) rfl (w.heap.size+1) b h rfl (Jq b (qp q b)) rfl ap.out ?_)
   intro r K u ab;have aq:Xo (Box r (w.heap.size+1) (qA (tab (qD (zl4 l c q (b+1)))))):=dD<|Ry a2.out K
   have U:Xo (zc w r):=zd al u Sm
   have az:Xo (Box r w.heap.size s):=ay.beside u (by intro b8 R;cases R;simp)
   have au:Xo (Box r S [I6 q.fr,I6 q.tz,Xh q.rd,Xh q.wr,Xh q.sh,I6 q.file,I6 q.base]):=ar.beside u (by intro b8 R;cases R;have:=Y.out;omega)
   clear K u ab;go_wp2
   go_roundg (q.tz.toNat -(b+1));exact⟨b+1,Wm,Wm,Wm,Gn,U,az,aq,au⟩;omega
  have a8:(b:Int)=q.tz:=Wm
  have a4:Xo (Box wr (w.heap.size+1) (qA (tab (qD (zJ (l.take (c+1))))))):=dD<|by rw[<-zrd D.out a1.out a8];exact G.out
  go_wp2
  go_roundg (A -(c+1));exact⟨c+1,Wm,Wm,Gn,B,H,a4⟩;omega
 have N:=kD x
 have:c=A:=Wm
 subst this;have a4:Xo (Box wr (w.heap.size+1) C):=dD<|by rw[<-Q.out];have:=a5.out;rw[<-Z.out,List.take_length]at this;exact this
 have k:Xo (C.length=448):=dD<|by rw[<-Q.out,QX]
 have V:Xo (∀v∈C,v.oneCell'=Xc):=dD<|by rw[<-Q.out];exact zfe _
 go_wp2_with (first | refine zp rfl 233 (.tmp 3) rfl (w.heap.size+1) rfl a4 underlying233 rfl (Rx k.out ztA) ?_ | refine zz rfl 233 (.tmp 2) (.tmp 27) rfl w.heap.size rfl C rfl ae (by rw[k.out,F.out]) (Rx F.out ztA) V.out ?_)
 intro r K u ab;have U:Xo (zc w r):=dD<|zd T u Sm
 have aj:Xo (Box r w.heap.size C):=K;clear K u ab;go_wp2;refine bodyPost_ret (zE rfl _ rfl aj underlying233 rfl (Rx k.out ztA)) rfl ⟨rfl,U⟩
theorem zb.arc {base:Nat} {w:Xn} {n c:Nat} {fs:List Ar} (h:zb arE base w (O (Xa ⟨g,0,Xb⟩) n c) fs) {i:Nat} {q:Ar} (a:fs[i]? =Xa q) (j:Nat) {u:Xq} (b:(arv q)[j]? =Xa u):w.cell? ⟨g,i*7+j,Xb⟩=Xa u:=by
 have:=h.one a j u b;rw[qO,Xw,zA]at this;exact this
theorem zpq {f:Nat->On} {k:Nat} (h:(f k).is=Xc):qD f k=⟨k,(k:Int)+1,(f k).rd,(f k).wr,(f k).sh,(f k).file,(f k).aG⟩:=by
 unfold qD Jq;rw[kE h]
theorem zpp {f:Nat->On} {k:Nat} (h:(f k).is=Xd):qD f k=ar0:=by
 unfold qD Jq;rw[kF (by rw[h];decide)]
theorem zlf (f:Nat->On) (w:Xn) (hg:zoR f):
  Xp Tryz.prog 171 #[Xi (qA (tab (qD f))).toArray] w fun e w'=>(∃v,e= Xl v/\zb arE (w.heap.size+1) w' v (zcc f))/\zc w w':=by
 have HGD:Xo (zoR f):=hg;have hgo:Xo (∀(q b:Ar) W,jV b->Xp Tryz.prog 166 #[Xi #[Xe Xf q.fr,Xe Xf q.tz,Xh q.rd,Xh q.wr,Xh q.sh,Xe Xf q.file,Xe Xf q.base],Xi #[Xe Xf b.fr,Xe Xf b.tz,Xh b.rd,Xh b.wr,Xh b.sh,Xe Xf b.file,Xe Xf b.base]] W fun e w'=>e= Xl (Xh (goB q b))/\zc W w'):=fun q b W h=>ze0 q b W h
 have HIX:Xo (∀{ops:Array Oper} {rest:List Oper} {o:Oper} {a:Act} {w:Xn} {Q:Exit->Act->Xn->Prop} (_:o.guard=Xb) (x ix:Operand) (_:o.op= .index 233 x ix) (_:a.eval x= Xi (qA (tab (qD f))).toArray) (i:Nat) (_:a.eval ix= Xe Xf (i:Int)) (_:i<64) {v:Xq} (_:arA (qD f i)=v)
  (_:wpList Tryz.prog ops Q rest (a.put o.dst v) w),wpList Tryz.prog ops Q (o :: rest) a w):=fun h1 x ix h2 h3 i h4 h5 _ h6 h7=>zoW h1 x ix h2 (qD f) h3 i h4 h5 h6 h7
 clear hg;have HCL:Xo ((qA (tab (qD f))).length=448):=QX _
 generalize qA (tab (qD f))=C at HIX HCL⊢
 obtain⟨W0,hW0⟩:∃W0,w.alloc (Xk C.toArray 233)=W0:=⟨_,rfl⟩;have HG0:=gA hW0
 have X0:=xA hW0
 have HS0:=sA hW0
 have HW0:Xo (_=W0):=hW0;clear hW0
 go_enter Tryz.func171,Tryz.ntmps171
 go_upto_region 1 with fail;rw[HW0.out]
 go_wp2_with (refine zp rfl 233 (.tmp 1) rfl w.heap.size rfl X0.out Tryz.underlying233 rfl (by rw[HCL.out];exact ztA) ?_)
 go_loopg [3,8] 64 (fun gg s3 s8 wr=>∃(kk:Nat) (acc:List Ar) (xa:Option Addr) (xc:Nat),kk<=64/\64 - kk<=gg/\s8= Xe Xf kk/\s3= O xa acc.length xc/\Xo (zc W0 wr)/\Xo (zb arE (w.heap.size+1) wr (O xa acc.length xc) acc)/\Xo (J f kk acc))
 case atStart=>exact⟨0,[],Xb,0,nZ _,by omega,rfl,rfl,zc.refl _,zb.nil _ _ _,J.zero f⟩
 obtain⟨kk,acc,xa,xc,hkk,hgg,rfl,rfl,BW,OW,JW⟩:=hrel
 by_cases hlt:kk<64
 ·have hltz:(kk:Int)<64:=by omega
  have HLEN:Xo (acc.length<=kk):=JW.out.len;obtain⟨p,HP⟩:∃p,Xo (wr.heap.size=p):=⟨_,rfl⟩
  cases hs:(f kk).is with
  | false=>
   have HIV:Xo (arA (qD f kk)= Xi #[Xe Xf 0,Xe Xf 0,Xh Xd,Xh Xd,Xh Xd,Xe Xf 0,Xe Xf 0]):=show _=_ by rw[zpp hs];rfl
   have J2:Xo (J f (kk+1) acc):=JW.out.skip ((HGD.out kk hlt).1 hs);clear hs
   go_wp2_with (refine HIX.out rfl (.tmp 7) (.tmp 8) rfl rfl kk rfl hlt HIV.out ?_)
   go_roundg (64 -(kk+1))
   case measure=>omega
   exact⟨kk+1,acc,xa,xc,by omega,by omega,by go_num,rfl,BW.out.trans (za _ _),OW.out.aA (za _ _),J2.out⟩
  | true=>
   have HS:Xo ((f kk).is=Xc):=hs;have HPF:Xo (qD f kk=⟨kk,(kk:Int)+1,(f kk).rd,(f kk).wr,(f kk).sh,(f kk).file,(f kk).aG⟩):=zpq hs;have HNEW:Xo ((∀b,acc.getLast? =Xa b->goB (qD f kk) b=Xd)->J f (kk+1) (acc++ [qD f kk])):=fun h=>JW.out.new HGD.out hlt HS.out h
   have HEXT:Xo (∀i b,acc=i++ [b]->goB (qD f kk) b=Xc->J f (kk+1) (i++ [{ b with tz:=(kk:Int)+1 }])):=fun i b h1 h2=>by
    have:=JW.out;rw[h1]at this;exact this.ext HGD.out hlt HS.out h2
   clear hs;rw[HPF.out]at HNEW HEXT;have HIV:Xo (arA (qD f kk)= Xi #[Xe Xf (kk:Int),Xe Xf ((kk:Int)+1),Xh (f kk).rd,Xh (f kk).wr,Xh (f kk).sh,Xe Xf (f kk).file,Xe Xf (f kk).aG]):=show _=_ by rw[HPF.out];rfl
   generalize f kk=x at HNEW HEXT HIV
   have hne1:((kk:Int) ==(kk:Int)+1)=Xd:=by simp;omega
   go_upto_region 5 with(refine HIX.out rfl (.tmp 7) (.tmp 8) rfl rfl kk rfl hlt HIV.out ?_)
   obtain⟨W1,hW1⟩:∃W1,wr.alloc (Xk #[Xe Xf (kk:Int),Xe Xf ((kk:Int)+1),Xh x.rd,Xh x.wr,Xh x.sh,Xe Xf x.file,Xe Xf x.aG] 125)=W1:=⟨_,rfl⟩;have G1:=gT hW1 BW
   have O1:Xo (zb arE (w.heap.size+1) W1 (O xa acc.length xc) acc):=show zb _ _ _ _ _ by rw[<-hW1];exact OW.out.aA (za _ _)
   have P1:=xPT hW1 HP
   rw[hW1,HP.out];clear hW1 HP
   rcases List.eq_nil_or_concat acc with hnil | ⟨ini,b,hacc⟩
   ·subst hnil;have J2:Xo (J f (kk+1) [⟨kk,(kk:Int)+1,x.rd,x.wr,x.sh,x.file,x.aG⟩]):=HNEW.out (fun b hb=>by cases hb)
    obtain⟨p0,p1⟩:=P1.out.box.k2;have hm1:decide ((0:Int)<=-1)=Xd:=by decide
    go_upto_region 7 with fail;go_quiet (fail);obtain⟨W2,hW2⟩:∃W2,W1.drewN nq=W2:=⟨_,rfl⟩;have G2:Xo (zc W0 W2):=show zc _ _ by rw[<-hW2];exact G1.out.trans (show Below _ _ _ from bD (bR _ _) _)
    have P2:Xo (zl W2 p 125 [Xe Xf (kk:Int),Xe Xf ((kk:Int)+1),Xh x.rd,Xh x.wr,Xh x.sh,Xe Xf x.file,Xe Xf x.aG]):=show zl _ _ _ _ by rw[<-hW2];exact P1.out.aA (show Below _ _ _ from bD (bR _ _) _)
    have O2:Xo (zb arE (w.heap.size+1) W2 (O xa 0 xc) []):=show zb _ _ _ _ _ by rw[<-hW2];exact O1.out.aA (show Below _ _ _ from bD (bR _ _) _)
    rw[hW2];clear hW2 p0 p1;have HSZ:Xo (w.heap.size+1<=W2.heap.size):=show _<=_ by rw[<-HS0.out];exact bS G2.out
    go_wp2_with (first | refine zp rfl 125 (.tmp 5) rfl p rfl P2.out.box Tryz.underlying125 rfl zty ?_ | (at_builtin;refine zu (E:=arE) rfl (.tmp 35) (.tmp 37) rfl (w.heap.size+1) _ [] rfl (O2.out.aA (za _ _)) _ [⟨kk,(kk:Int)+1,x.rd,x.wr,x.sh,x.file,x.aG⟩] rfl (Qs arE W2 ⟨kk,(kk:Int)+1,x.rd,x.wr,x.sh,x.file,x.aG⟩ _ _ rfl (by show 40<=_;omega)) ?qb ?qc ?_))
    case qb=>
     show(0+1)*40<=_
     omega
    case qc=>simp;have:=HSZ.out;omega
    intro v4 W4 ow4 gr4;obtain⟨xa4,xc4,rfl⟩:=ow4.form;have O4:Xo (zb arE (w.heap.size+1) W4 (.slice xa4 ([]++ [(⟨kk,(kk:Int)+1,x.rd,x.wr,x.sh,x.file,x.aG⟩:Ar)]).length xc4) ([]++ [⟨kk,(kk:Int)+1,x.rd,x.wr,x.sh,x.file,x.aG⟩])):=ow4;have G4:Xo (zc W0 W4):=show zc _ _ from zU (G2.out.trans (za _ _)) gr4 (fun g hg=>by
     have h1:=(O2.out.lt g hg).1;rw[HS0.out];exact h1)
    clear ow4 gr4;go_wp2
    go_roundg (64 -(kk+1))
    case measure=>omega
    exact⟨kk+1,[]++ [(⟨kk,(kk:Int)+1,x.rd,x.wr,x.sh,x.file,x.aG⟩:Ar)],xa4,xc4,by omega,by omega,by go_num,rfl,G4.out,O4.out,J2.out⟩
   rw[List.concat_eq_append]at hacc;have HACC:Xo (acc=ini++ [b]):=hacc;obtain⟨m,HM⟩:∃m,Xo (ini.length=m):=⟨_,rfl⟩;have HAL:Xo (acc.length=m+1):=show _=_ by rw[HACC.out,<-HM.out];simp
   have HBI:Xo (acc[m]? =Xa b):=show _=_ by rw[HACC.out,<-HM.out];simp
   have HBK:Xo (jV b):=JW.out.1.all b (by rw[HACC.out];simp)
   obtain⟨g,xc',hxe⟩:=O1.out.aJ (by rw[HAL.out];omega)
   cases hxe;have hmm:((m+1:Nat):Int) - 1=(m:Int):=by omega
   have hm0:(0:Int)<=(m:Int):=by omega
   have hmd:decide ((0:Int)<=(m:Int))=Xc:=by simp
   have hmlt:(m:Int)< ((m+1:Nat):Int):=by omega
   have HML:Xo (m+1<=kk):=show _<=_ by rw[<-HAL.out];exact HLEN.out
   have hmk:m+1<=64:=by have:=HML.out;omega
   clear hacc;rw[HAL.out]at O1 OW⊢;obtain⟨p0,p1⟩:=P1.out.box.k2;go_upto_region 7 with fail;clear p0 p1;have hx0:∀y:zf W1,y.world.cell? ⟨p,0,Xb⟩=Xa (Xe Xf (kk:Int)):=fun y=>(P1.out.box.aA y.aA).c 0 rfl
   have hx1:∀y:zf W1,y.world.cell? ⟨p,1,Xb⟩=Xa (Xe Xf ((kk:Int)+1)):=fun y=>(P1.out.box.aA y.aA).c 1 rfl
   have hx2:∀y:zf W1,y.world.cell? ⟨p,2,Xb⟩=Xa (Xh x.rd):=fun y=>(P1.out.box.aA y.aA).c 2 rfl
   have hx3:∀y:zf W1,y.world.cell? ⟨p,3,Xb⟩=Xa (Xh x.wr):=fun y=>(P1.out.box.aA y.aA).c 3 rfl
   have hx4:∀y:zf W1,y.world.cell? ⟨p,4,Xb⟩=Xa (Xh x.sh):=fun y=>(P1.out.box.aA y.aA).c 4 rfl
   have hx5:∀y:zf W1,y.world.cell? ⟨p,5,Xb⟩=Xa (Xe Xf x.file):=fun y=>(P1.out.box.aA y.aA).c 5 rfl
   have hx6:∀y:zf W1,y.world.cell? ⟨p,6,Xb⟩=Xa (Xe Xf x.aG):=fun y=>(P1.out.box.aA y.aA).c 6 rfl
   have hy0:∀y:zf W1,y.world.cell? ⟨g,m*7,Xb⟩=Xa (Xe Xf b.fr):=fun y=>(O1.out.aA y.aA).arc HBI.out 0 rfl
   have hy1:∀y:zf W1,y.world.cell? ⟨g,m*7+1,Xb⟩=Xa (Xe Xf b.tz):=fun y=>(O1.out.aA y.aA).arc HBI.out 1 rfl
   have hy2:∀y:zf W1,y.world.cell? ⟨g,m*7+2,Xb⟩=Xa (Xh b.rd):=fun y=>(O1.out.aA y.aA).arc HBI.out 2 rfl
   have hy3:∀y:zf W1,y.world.cell? ⟨g,m*7+3,Xb⟩=Xa (Xh b.wr):=fun y=>(O1.out.aA y.aA).arc HBI.out 3 rfl
   have hy4:∀y:zf W1,y.world.cell? ⟨g,m*7+4,Xb⟩=Xa (Xh b.sh):=fun y=>(O1.out.aA y.aA).arc HBI.out 4 rfl
   have hy5:∀y:zf W1,y.world.cell? ⟨g,m*7+5,Xb⟩=Xa (Xe Xf b.file):=fun y=>(O1.out.aA y.aA).arc HBI.out 5 rfl
   have hy6:∀y:zf W1,y.world.cell? ⟨g,m*7+6,Xb⟩=Xa (Xe Xf b.base):=fun y=>(O1.out.aA y.aA).arc HBI.out 6 rfl
   have hne:Nonempty (zf W1):=⟨⟨_,zc.refl _⟩⟩;obtain⟨R,HRR⟩:∃R,Xo (goB ⟨kk,(kk:Int)+1,x.rd,x.wr,x.sh,x.file,x.aG⟩ b=R):=⟨_,rfl⟩;refine qx [(8,⟨fun v=>v= Xh R,fun _ _=>True⟩)] zW (by kernel_rfl) ?_ ?_ ?_
   ·intro x hx
    simp at hx
    subst hx;exact⟨_,rfl⟩
   ·intro x hx
    simp at hx
    subst hx;exact fun _ _ _ _ h=>h
   iterate 8 (refine qR rfl rfl rfl (fun K hK=>?_);go_big_quiet_op;refine hK _ ?_;clear hK K)
   refine zx rfl rfl (fun w' hg hF=>?_) (fun v1 hv=>?_)
   ·refine zP.call [Xi #[Xe Xf (kk:Int),Xe Xf ((kk:Int)+1),Xh x.rd,Xh x.wr,Xh x.sh,Xe Xf x.file,Xe Xf x.aG],Xi #[Xe Xf b.fr,Xe Xf b.tz,Xh b.rd,Xh b.wr,Xh b.sh,Xe Xf b.file,Xe Xf b.base]] rfl Tryz.func166 rfl rfl rfl ?_;refine(hgo.out ⟨kk,(kk:Int)+1,x.rd,x.wr,x.sh,x.file,x.aG⟩ b w' HBK.out).mono ?_;rintro e w'' ⟨rfl,hg2⟩;exact⟨_,rfl,hg2,by rw[<-HRR.out],trivial⟩
   subst hv;simp only[Xx,sB,sS,sZ];iterate 1 (refine qR rfl rfl rfl (fun K hK=>?_);go_big_quiet_op;refine hK _ ?_;clear hK K)
   refine zL fun W2 hg1 hF=>?_
   have G2:=dD (G1.out.trans hg1);have P2:=dD (P1.out.aA hg1);have O2:=dD (O1.out.aA hg1);clear hg1 hF hx0 hx1 hx2 hx3 hx4 hx5 hx6 hy0 hy1 hy2 hy3 hy4 hy5 hy6 hne
   cases R with
   | true=>
    have J2:Xo (J f (kk+1) (ini++ [{ b with tz:=(kk:Int)+1 }])):=HEXT.out ini b HACC.out HRR.out;have HSET:Xo (acc.set m { b with tz:=(kk:Int)+1 }=ini++ [{ b with tz:=(kk:Int)+1 }]):=show _=_ by rw[HACC.out,List.set_append_right _ _ (by rw[HM.out];exact nR _),HM.out,Oo];rfl
    have p1:=P2.out.box.c 1 rfl
    go_wp2_with (refine zt (E:=arE) rfl (.tmp 34) (.tmp 32) 3 rfl (w.heap.size+1) (O (Xa ⟨g,0,Xb⟩) (m+1) xc) acc O2.out g m 1 rfl b { b with tz:=(kk:Int)+1 } HBI.out [Xe Xf ((kk:Int)+1)] (by kernel_rfl) rfl (Yd rfl) (by intro u hu;simp at hu;subst hu;rfl) _ rfl (by simp;rfl) _ rfl rfl ?_)
    intro W3 ow3 gr3 sz3;have HBG:=O2.out.lt g rfl;have G3:Xo (zc W0 W3):=show zc _ _ from zd G2.out gr3 (by rw[HS0.out];exact HBG.1)
    have HL3:Xo ((ini++ [{ b with tz:=(kk:Int)+1 }]).length=m+1):=show _=_ by simp[HM.out]
    have O3:Xo (zb arE (w.heap.size+1) W3 (.slice (Xa ⟨g,0,Xb⟩) (ini++ [{ b with tz:=(kk:Int)+1 }]).length xc) (ini++ [{ b with tz:=(kk:Int)+1 }])):=show zb _ _ _ _ _ by rw[HL3.out,<-HSET.out];exact ow3
    clear ow3 gr3 sz3 HBG p1;rw[<-HL3.out];go_wp2
    go_roundg (64 -(kk+1))
    case measure=>omega
    exact⟨kk+1,ini++ [({ b with tz:=(kk:Int)+1 }:Ar)],Xa ⟨g,0,Xb⟩,xc,by omega,by omega,by go_num,rfl,G3.out,O3.out,J2.out⟩
   | false=>
    have J2:Xo (J f (kk+1) (acc++ [⟨kk,(kk:Int)+1,x.rd,x.wr,x.sh,x.file,x.aG⟩])):=HNEW.out (fun c hc=>by
     rw[HACC.out]at hc
     simp at hc
     subst hc;exact HRR.out)
    have HSZ:Xo (w.heap.size+1<=W2.heap.size):=show _<=_ by rw[<-HS0.out];exact bS G2.out
    go_wp2_with (first | refine zp rfl 125 (.tmp 5) rfl p rfl P2.out.box Tryz.underlying125 rfl zty ?_ | (at_builtin;refine zu (E:=arE) rfl (.tmp 35) (.tmp 37) rfl (w.heap.size+1) _ acc rfl (O2.out.aA (za _ _)) _ [⟨kk,(kk:Int)+1,x.rd,x.wr,x.sh,x.file,x.aG⟩] rfl (Qs arE W2 ⟨kk,(kk:Int)+1,x.rd,x.wr,x.sh,x.file,x.aG⟩ _ _ rfl (by show 40<=_;omega)) ?qb ?qc ?_))
    case qb=>
     show(acc.length+1)*40<=_
     rw[HAL.out];omega
    case qc=>simp;have:=HSZ.out;omega
    intro v4 W4 ow4 gr4;obtain⟨xa4,xc4,rfl⟩:=ow4.form;have O4:Xo (zb arE (w.heap.size+1) W4 (.slice xa4 (acc++ [(⟨kk,(kk:Int)+1,x.rd,x.wr,x.sh,x.file,x.aG⟩:Ar)]).length xc4) (acc++ [⟨kk,(kk:Int)+1,x.rd,x.wr,x.sh,x.file,x.aG⟩])):=ow4;have G4:Xo (zc W0 W4):=show zc _ _ from zU (G2.out.trans (za _ _)) gr4 (fun g hg=>by
     have h1:=(O2.out.lt g hg).1;rw[HS0.out];exact h1)
    clear ow4 gr4;go_wp2
    go_roundg (64 -(kk+1))
    case measure=>omega
    exact⟨kk+1,acc++ [(⟨kk,(kk:Int)+1,x.rd,x.wr,x.sh,x.file,x.aG⟩:Ar)],xa4,xc4,by omega,by omega,by go_num,rfl,G4.out,O4.out,J2.out⟩
 have hltz:¬(kk:Int)<64:=by omega
 have:kk=64:=by omega
 subst this;have HE:Xo (acc=zcc f):=JW.out.all HGD.out;have OE:Xo (zb arE (w.heap.size+1) wr (O xa acc.length xc) (zcc f)):=show zb _ _ _ _ _ by rw[<-HE.out];exact OW.out
 have GE:=dD (HG0.out.trans BW.out);go_wp2;go_ret;exact⟨⟨_,rfl,OE.out⟩,GE.out⟩
structure Pts (m:Ma):Prop where
 s4:m.sp.length<=4
 f40:m.fs.length<=40
 fr:∀(k:Nat) f,m.fs[k]? =Xa f->0<=f.r/\f.r<=1000
 fl:m.fl.length<=5/\∀f∈m.fl,f.bl.length<=12
 ar:∀s∈m.sp,(wrL s.aD).1=0/\tbW s.tb=0
theorem zqt (h:zaR m=0):Pts m:=by
 unfold zaR at h;rw[zr]at h;have a:Zi m.fs m.aB=0:=h _ Sm
 have k:stW m.fl m.cnt=0:=h _ Sm
 have x:(if 4<m.sp.length then(4:Int)else 0)=0:=h _ Sm
 have c:=zr.1 (h (zC (m.sp.map spE)) Sm)
 obtain⟨⟨e,l,n⟩,g,p⟩:=(zY _ _).1 k;unfold Zi at a
 split at a
 ·cases a
 rename_i q
 split at a
 ·rename_i i
  refine⟨?_,Wm,fun u f b=>?_,⟨e,fun f b=>?_⟩,fun s j=>?_⟩
  ·grind
  ·have t:=QK.1 i f (mG b)
   grind [frW,inB]
  ·obtain⟨d,v,w⟩:=g f b;have:=Qm d.1 d.2;omega
  have r:=c (spE s) (Of.2 ⟨s,j,rfl⟩)
  grind [spE]
 grind
theorem zsC {p:Option Ca} {c:Ca} (h:caE m p c=0):(0<=c.file/\c.file< (m.fl.length:Int)/\0<=c.idx/\c.idx<bkN m c.file/\0<=c.fr/\c.fr< (m.fs.length:Int))/\((zQ m c.fr).r≠0/\(zQ m c.fr).f=c.file/\(zQ m c.fr).x=c.idx)/\∀q,p=Xa q->¬qa c<=qa q:=by
 unfold caE at h
 split at h
 ·cases h
 grind
def zif (r:List Int × Bool × Int):Xq:= Xm #[Xi (pgc r.1).toArray,Xh r.2.1,Xe Xf r.2.2]
theorem zrH (h:maW m=0):∀s∈m.sp,∀n,n<64->(if(zh s n).kind=0 then 0 else zgl m (zJ s.aD n) (zh s n))=0:=fun s c n b=>by
 unfold maW at h;rw[zr]at h;have a:=zr.1 (h (zC (m.sp.map (zel m))) Sm) (zel m s) (Of.2 ⟨s,c,rfl⟩)
 unfold zel at a;exact zr.1 a _ (Of.2 ⟨n,Yc.2 b,rfl⟩)
theorem JP (h:maW m=0):zaR m=0:=by
 unfold maW at h;rw[zr]at h;exact h _ Sm
def byD (m:Ma) (fi k:Nat):Int:=(zN m (fi:Int) ((k / 8:Nat):Int)).getD (k % 8) 0
def Byt (m:Ma) (file:Int) (w:Xn) (e:Ending) (w':Xn):Prop:=∃u,e= Xl (Xm #[u,Xe Xf (jT m file)])/\zb byE w.heap.size w' u (jD m file)
theorem zi0 (h:maW m=0) {f:Fl} (c:m.fl[fi]? =Xa f):(0<=f.size/\f.size<=96)/\(f.bl.length:Int)=jH f.size:=by
 have a:=JP h;unfold zaR at a;rw[zr]at a;have b:=((zY _ _).1 (a (stW m.fl m.cnt) Sm)).2.1 f (mG c)
 exact⟨b.1,b.2.1⟩
theorem zeH {a:Act} {w:Xn} (c x) (h:o.op= .load c x) (e) (i:a.eval x= Xj (Xa e)) (v) (g:w.cell? e=Xa v) {d:TypeDesc} (f:Tryz.prog.underlying c=Xa d) (b:d.isRow=Xd):(execOp a.eval o).run prog w= .ok (.value v) w:=by
 have b:(isAgg c).run prog w= .ok Xd w:=by
  unfold isAgg;rw[Xv,run_underlying f w]
  cases d <;> simp_all [TypeDesc.isRow]
 have f:(loadVar c e).run prog w= .ok v w:=by simp[loadVar,Xv,b,g]
 simp only[execOp,h,i,Instr.loadAt,Instr.sureAddr,Xv,Yg,f,rA]
structure zoS (m:Ma) (c:Ca) (k fi ix:Nat) (f:Fr) (F:Fl):Prop where
 fr:c.fr=(k:Int)
 file:c.file=(fi:Int)
 idx:c.idx=(ix:Int)
 fa:m.fs[k]? =Xa f
 ff:f.f=(fi:Int)
 fx:f.x=(ix:Int)
 fl:m.fl[fi]? =Xa F
 sz:0<=F.size/\F.size<=96
 lo:ix<=12
 r:f.r≠0
 bl:ix<F.bl.length
theorem zga (n:maW m=0) {c:Ca} (a:c∈m.ca):∃k fi d f F,zoS m c k fi d f F:=by
 obtain⟨⟨b,b,b,r,b,b⟩,⟨i,j,l⟩,-⟩:=zsC ((zn.1 (zbl n).1.ca).1 c a);obtain⟨k,q⟩:∃k:Nat,c.fr=(k:Int):=⟨c.fr.toNat,Wm⟩
 obtain⟨fi,a⟩:∃fi:Nat,c.file=(fi:Int):=⟨c.file.toNat,Wm⟩
 obtain⟨d,b⟩:∃d:Nat,c.idx=(d:Int):=⟨c.idx.toNat,Wm⟩
 obtain⟨f,p⟩:∃f,m.fs[k]? =Xa f:=⟨_,gE Wm⟩
 obtain⟨F,e⟩:∃F,m.fl[fi]? =Xa F:=⟨_,gE Wm⟩
 have h:zQ m c.fr=f:=by unfold zQ;rw[q,tN,gD,p];rfl
 have g:bkN m c.file=(F.bl.length:Int):=by unfold bkN;rw[a,tN,gD,e];rfl
 rw[h]at i j l;rw[g]at r;obtain⟨g,h⟩:=zi0 n e;have:=Qm g.1 g.2;exact⟨k,fi,d,f,F,q,a,b,p,j.trans a,l.trans b,e,g,Wm,i,Wm⟩
end
section
section
variable{m:Ma}
theorem zlq (S:Nat->Nat->Prop) (h:Rt m) {db':List (List Int)} (f:db'.length=m.db.length) (n:∀i:Nat,db'[i]? =m.db[i]?\/∃q∈m.dq,q.1.toNat=i) (j:∀z:Int,zS db' [] z=zS m.db m.dq z):Qd S m { m with db:=db',dq:=[] }:=by
 have b:=h.inv;have e:zB db'.length []=0:=by
  have d:=b.aU;rw[<-f]at d;unfold zB at d⊢
  split at d
  ·cases d
  rename_i a
  rw[kF a,kF Sm,kF Sm]
 have g:∀a c,zN { m with db:=db',dq:=[] } a c=zN m a c:=fun a c=>by
  unfold zN
  cases m.ca.find? (QU a c)with
  | some l=>rfl
  | none=>
   show(if Qc m a c<0 then zI else qJ (zS db' [] (Qc m a c)) c (qW m a))=_
   rw[j]
 have j:ZA { m with db:=db',dq:=[] } (jd { m with db:=db',dq:=[] }):=by
  refine⟨b.aY,b.bN,b.aX,b.bI,b.sq,e,b.st,by show m.cnt=_;rw[b.cnt,f],fun f d e=>?_,fun q k=>(by cases k),b.aQ,b.bA,b.tl,zn.2 ⟨fun l g=>(zn.1 b.ca).1 l g,fun _ _ k=>(by cases k),(zn.1 b.ca).2.2⟩,b.aZ,b.cf,b.cs⟩
  have k:f<db'.length:=d
  show db'[f]? =_
  rcases n f with k|⟨q,n,l⟩
  ·rw[k];exact b.bJ f Wm e
  have k:=zmR b.aU n;have l:=b.bE q n;have b:zR m.fl (f:Int)=Xd:=e;rw[show q.1=(f:Int) by omega,b]at l
  cases l
 have f:∀(q:Nat) s b,m.sp[q]? =Xa s->({ m with db:=db',dq:=[] }:Ma).sp[q]? =Xa b->b=s:=fun q s b d e=>by
  have:m.sp[q]? =Xa b:=e;rw[d]at this;cases this;rfl
 refine⟨Rt.of j (fun s j=>h.tb j) h.aB.1 h.aB.2,⟨rfl,fun q s b d e=>?_,fun q n s b d e _ _=>?_,rfl,fun _=>rfl,fun _=>rfl,fun _ _ _=>by rw[g]⟩,rfl,fun q n s b d e _ k=>?_,fun a c _ a=>⟨a,g _ _⟩⟩
 ·cases f q s b d e
  exact⟨rfl,rfl⟩
 ·cases f q s b d e
  exact zcU rfl rfl (fun _=>⟨rfl,Iff.rfl⟩) (fun _=>rfl) (fun _=>rfl) g
 cases f q s b d e
 exact k
theorem Qd.views (h:Rt m) (g:Qd (fun _ _=>False) m m'):(∀p n:Int,Z0 m' p n=Z0 m p n)/\∀file:Nat,zcD m' (file:Int)=zcD m (file:Int):=by
 have a:maW m'=0:=g.rt.w;refine⟨fun p n=>?_,fun file=>?_⟩
 ·unfold Z0;rw[kF (by rw[a];simp),kF (by rw[h.w];simp)]
  by_cases a:p<0\/(m.sp.length:Int)<=p\/n<0\/63<n
  ·rw[zcT a,zcT (by rw[g.aW.aQ];exact a)]
  have b:p.toNat<m.sp.length:=Wm
  have c:=gE b;have a:=gE (show p.toNat<m'.sp.length by rw[g.aW.aQ];exact b)
  have d:p=((p.toNat:Nat):Int):=Wm
  have e:n=((n.toNat:Nat):Int):=Wm
  have b:n.toNat<64:=Wm
  rw[d,e,zcS c b,zcS a b,(g.aW.sp _ _ _ c a).2];exact g.aW.see _ _ _ _ c a b (fun e=>e)
 unfold zcD;rw[g.aW.sz];refine List.map_congr_left fun k a=>?_
 exact g.aW.bX file k (Hm (Yc.1 a))
end
theorem zoc {α:Type} (P:α->Bool):∀{l:List α} {k:Nat} {x y:α},l[k]? =Xa x->(l.set k y).countP P+(P x).toNat=l.countP P+(P y).toNat
 | [],k,x,y,h=>by simp at h
 | a :: l,0,x,y,h=>by
  have:a=x:=Si h
  subst this;rw[sZ,Yo,Yo]
  cases P a <;> cases P y <;> simp
 | a :: l,k+1,x,y,h=>by grind
theorem zpS {fs:List Fr} {k:Nat} {fr:Fr} (a:fs[k]? =Xa fr) (b:fr.r≠0):jo (fs.set k frF)=jo fs+1:=by grind [jo,frF,zoc]
theorem qE {fs:List Fl} {b:Int}:zR fs b=Xc↔∃(i:Nat) (f:Fl) (j:Nat),fs[i]? =Xa f/\f.bl[j]? =Xa b:=by grind [zR,Xu,Xz,Oh.1,mG,Oh.2]
theorem QD {l:List Int} {b:Int} (h:b∈l) (a:b≠-1):b∈ZJ l:=Og.2 ⟨h,Si a⟩
theorem zdi {b:Int} (g:b≠-1):∀{l:List Int} {j k:Nat},(ZJ l).Nodup->l[j]? =Xa b->l[k]? =Xa b->j=k
 | [],j,k,_,h,_=>by simp at h
 | a :: l,j,k,c,d,e=>by
  have h:(ZJ l).Nodup:=by
   unfold ZJ at c⊢;rw[List.filter_cons]at c
   split at c
   ·exact(List.nodup_cons.1 c).2
   exact c
  have f:a=b->b∉l:=fun i m=>by
   subst i;unfold ZJ at c;rw[List.filter_cons,kE (Si g)]at c
   exact(List.nodup_cons.1 c).1 (QD m g)
  cases j with
  | zero=>
   cases k with
   | zero=>rfl
   | succ k=>
    rw[Xt]at e;exact absurd (mG e) (f (Si d))
  | succ j=>
   cases k with
   | zero=>
    rw[Xt]at d;exact absurd (mG d) (f (Si e))
   | succ k=>
    rw[Xt]at d e;rw[zdi g h d e]
theorem zd7 {fs:List Fl} {i:Nat} {f:Fl} {b:Int} (a:fs[i]? =Xa f) (c:f.bl[j]? =Xa b):b∈Jd fs:=List.mem_flatMap.2 ⟨f,mG a,mG c⟩
theorem zat {b:Int} (hb:b≠-1):∀{fs:List Fl} {i k j l:Nat} {f g:Fl},(ZJ (Jd fs)).Nodup->fs[i]? =Xa f->f.bl[j]? =Xa b->fs[k]? =Xa g->g.bl[l]? =Xa b->i=k/\j=l
 | [],i,k,j,l,f,g,_,h,_,_,_=>by simp at h
 | a :: fs,i,k,j,l,f,g,hn,h1,h2,h3,h4=>by
  have hsp:ZJ (Jd (a :: fs))=ZJ a.bl++ZJ (Jd fs):=by
   unfold ZJ Jd;rw[List.flatMap_cons,List.filter_append]
  rw[hsp,List.nodup_append]at hn;obtain⟨n1,n2,n3⟩:=hn
  cases i with
  | zero=>
   have ea:a=f:=Si h1
   subst ea
   cases k with
   | zero=>
    have eg:a=g:=Si h3
    subst eg;exact⟨rfl,zdi hb n1 h2 h4⟩
   | succ k=>
    rw[Xt]at h3;exact absurd rfl (n3 b (QD (mG h2) hb) b (QD (zd7 h3 h4) hb))
  | succ i=>
   rw[Xt]at h1
   cases k with
   | zero=>
    have eg:a=g:=Si h3
    subst eg;exact absurd rfl (n3 b (QD (mG h4) hb) b (QD (zd7 h1 h2) hb))
   | succ k=>
    rw[Xt]at h3;obtain⟨e1,e2⟩:=zat hb n2 h1 h2 h3 h4;exact⟨by rw[e1],e2⟩
theorem zd2 {fs:List Fl} {a:Int} {file idx:Nat} {f:Fl} (h:stW fs a=0) (c:fs[file]? =Xa f) (d:f.bl[idx]? =Xa (b:Int)):
  fs.set file ⟨f.size,f.bl.set idx (b:Int)⟩=fs/\(∀x,zR fs x=Xc↔(zR fs x=Xc/\x≠-1)\/x=(b:Int)\/(x=-1/\zR fs x=Xc))/\∀(i j:Nat) g,fs[i]? =Xa g->g.bl[j]? =Xa (b:Int)->i=file/\j=idx:=by
 obtain⟨_,_,k⟩:=(zY fs a).1 h;have h:(b:Int)≠-1:=Wm
 refine⟨?_,fun x=>?_,fun i j g a e=>zat h k a e c d⟩
 ·have a:f.bl.set idx (b:Int)=f.bl:=by
   apply Yk
   grind
  rw[a]
  apply Yk
  intro q;rw[List.getElem?_set]
  split
  ·rename_i e
   subst e;rw[kE (gS.1 c).1,c]
  rfl
 constructor
 ·grind
 rintro(⟨a,_⟩|rfl|⟨_,a⟩)
 ·exact a
 ·exact qE.2 ⟨file,f,idx,c,d⟩
 exact a
theorem zd3 {fs:List Fl} {a:Int} {file idx:Nat} {f:Fl} (h:stW fs a=0) (l:fs[file]? =Xa f) (e:f.bl[idx]? =Xa (-1)) (c:b∈Zp fs a):
  stW (fs.set file ⟨f.size,f.bl.set idx (b:Int)⟩) a=0/\(∀x,zR (fs.set file ⟨f.size,f.bl.set idx (b:Int)⟩) x=Xc↔(zR fs x=Xc/\x≠-1)\/x=(b:Int)\/(x=-1/\zR (fs.set file ⟨f.size,f.bl.set idx (b:Int)⟩) x=Xc))/\zR fs (b:Int)=Xd/\∀(i j:Nat) g,fs[i]? =Xa g->g.bl[j]? =Xa (b:Int)->i=file/\j=idx:=by
 have a:zR fs (b:Int)=Xd:=by
  have:=(Og.1 c).2
  grind
 have d:=(gS.1 l).1;have n:=(gS.1 e).1;refine⟨(zln h l e c).1,fun x=>?_,a,fun i j g a c=>?_⟩
 ·constructor
  ·intro h
   by_cases m:x=-1
   ·grind
   obtain⟨i,g,j,a,c⟩:=qE.1 h
   by_cases e:file=i
   ·subst e;rw[sF d]at a;cases a;simp only at c
    by_cases k:idx=j
    ·grind
    rw[sN k]at c;exact .inl ⟨qE.2 ⟨file,f,j,l,c⟩,m⟩
   rw[sN e]at a;exact .inl ⟨qE.2 ⟨i,g,j,a,c⟩,m⟩
  rintro(⟨h,m⟩|rfl|⟨_,h⟩)
  ·obtain⟨i,g,j,a,c⟩:=qE.1 h
   by_cases e:i=file
   ·subst e;rw[l]at a;cases a;have l:idx≠j:=fun k=>by grind
    exact qE.2 ⟨i,⟨f.size,f.bl.set idx (b:Int)⟩,j,by rw[sF d],by simp only;rw[sN l];exact c⟩
   exact qE.2 ⟨i,g,j,by rw[sN (fun k=>e k.symm)];exact a,c⟩
  ·exact qE.2 ⟨file,⟨f.size,f.bl.set idx (b:Int)⟩,idx,by rw[sF d],by simp only;rw[sF n]⟩
  exact h
 have:=qE.2 ⟨i,g,j,a,c⟩
 grind
end
section
open Go.RowKit
variable{X:Nat->Prop}
theorem zop (h:Rt m) {F:Fl} (d:m.fl[fi]? =Xa F) (f:ix<F.bl.length) (a:Zh m.fl m.cnt (fi:Int) (ix:Int)=0):
  ∃b:Nat,(b:Int)<m.cnt/\zjn m.fl m.cnt (fi:Int) (ix:Int)=(b:Int)/\zkm m.fl m.cnt (fi:Int) (ix:Int)=m.cnt/\zh5 m.fl m.cnt (fi:Int) (ix:Int)=m.fl.set fi ⟨F.size,F.bl.set ix (b:Int)⟩/\(F.bl[ix]? =Xa (b:Int)\/(F.bl[ix]? =Xa (-1)/\b∈Zp m.fl m.cnt)):=by
 have a:=h.inv.st;have c:zlY m.fl (fi:Int)=F.bl:=by unfold zlY;rw[tN,d]
 have e:zsf m.fl (fi:Int)=F.size:=by unfold zsf;rw[tN,d]
 obtain⟨z,e⟩:∃z,F.bl[ix]? =Xa z:=⟨_,gE f⟩;have g:F.bl.getD ix 0=z:=by rw[gD,e];rfl
 obtain⟨f,f,_⟩:=(zY _ _).1 a;have a:∃b:Nat,(b:Int)<m.cnt/\zqG m.fl m.cnt (fi:Int) (ix:Int)=(b:Int)/\(z=(b:Int)\/(z=-1/\b∈Zp m.fl m.cnt)):=by
  unfold zqG;rw[c,tN,g]
  by_cases c:z=-1
  ·have g:Zp m.fl m.cnt≠[]:=fun a=>by grind [Zh,gS.1,tN]
   cases a:Zp m.fl m.cnt with
   | nil=>exact absurd a g
   | cons b l=>
    have g:b∈Zp m.fl m.cnt:=by rw[a];exact Yu ..
    have a:=Yc.1 (Og.1 g).1;refine⟨b,Wm,by rw[kE c];rfl,.inr ⟨c,Yu ..⟩⟩
  rw[kF c];obtain⟨_,_,a⟩:=f F (mG d);have:=a z (mG e);exact⟨z.toNat,Wm,Wm,.inl Wm⟩
 grind [zjn,zkm,zh5,tN]
theorem zbe (b:List (List Int)) (qs:List (Int × List Int)) (a:∀q∈qs,∃i:Nat,q.1=(i:Int)/\i<b.length) (i:Nat):(qn b qs)[i]? =b[i]?\/∃q∈qs,q.1=(i:Int):=by
 unfold qn
 split
 ·rename_i b
  cases qs with
  | nil=>cases b
  | cons q l=>
   simp only[List.headD_cons];obtain⟨j,b,_⟩:=a q (Yu ..)
   by_cases e:i=j
   ·grind
   grind
 grind
theorem zqf (h:Rt m) {c:Ca} {k:Nat} {f:Fr} {F:Fl} (u:c∈m.ca) (hi:zoS m c k fi ix f F) (a:Zh m.fl m.cnt f.f f.x=0):Rt (clM m k f F):=by
 have g:=a;rw[hi.ff,hi.fx]at a;obtain⟨b,d,i,j,l,n⟩:=zop h hi.fl hi.bl a;obtain⟨a,a,q⟩:=qk h.inv.aU;have a:=h.inv.cnt;have a:zg m.db.length m.dq (b:Int)=0:=by
  unfold zg;rw[kE h.inv.aU,kE (by simp[j0];omega)]
 have d:=h.inv.st;have s:∀e:List Int,wrM m e f.f f.x=ZK m fi ix F (b:Int) (qn m.db m.dq) (qh m.dq (b:Int) e):=fun e=>by
  unfold wrM ZK;rw[kE g,hi.ff,hi.fx,i,j,l];unfold qt qr;rw[kE a,kE a]
 have t:∀e:List Int,Rt (ZK m fi ix F (b:Int) (qn m.db m.dq) (qh m.dq (b:Int) e)):=fun e=>by
  have i:stW (m.fl.set fi ⟨F.size,F.bl.set ix (b:Int)⟩) m.cnt=0/\(∀x,zR (m.fl.set fi ⟨F.size,F.bl.set ix (b:Int)⟩) x=Xc↔(zR m.fl x=Xc/\x≠-1)\/x=(b:Int)\/(x=-1/\zR (m.fl.set fi ⟨F.size,F.bl.set ix (b:Int)⟩) x=Xc))/\(F.bl[ix]? =Xa (b:Int)\/zR m.fl (b:Int)=Xd)/\∀(j l:Nat) e,m.fl[j]? =Xa e->e.bl[l]? =Xa (b:Int)->j=fi/\l=ix:=by
   rcases n with e|⟨e,r⟩
   ·obtain⟨l,n,p⟩:=zd2 d hi.fl e;rw[l];exact⟨d,n,.inl e,p⟩
   obtain⟨l,n,p,v⟩:=zd3 d hi.fl e r;exact⟨l,n,.inr p,v⟩
  obtain⟨u1,u2,u3,u4⟩:=i;exact(zhW h hi.fl u1 u2 (jE _ _) (jx a) (zbe _ _ q) (fun q d=>by
   unfold qh at d
   rcases List.mem_append.1 d with e|e
   ·refine .inr ⟨q,?_,rfl⟩
    split at e
    ·exact Oj e
    exact e
   simp only[Yz]at e;exact .inl (by rw[e])) (fun j d=>Zn a d) u3 ⟨c,u,hi.file,hi.idx⟩ u4).1.1
 unfold clM;rw[kE g,s];have a:(ZK m fi ix F (b:Int) (qn m.db m.dq) (qh m.dq (b:Int) (qJ (pgL f.p) f.x F.size))).fs[k]? =Xa f:=hi.fa;exact(zjU (t _) a hi.r f.u Xd).1
theorem zki {k:Nat} {f:Fr} {F:Fl} (a:Zh m.fl m.cnt f.f f.x=0):(clM m k f F).fs=m.fs.set k { f with d:=false }:=by
 unfold clM;rw[kE a]
variable{X:Nat->Prop}
def zta (x:Nat × Nat):List Xq:=[Xe Xf (x.1:Int),Xe Xf (x.2:Int)]
theorem ztI:(Tryz.prog.info? 142).map (fun i=>(i.zero,i.size,i.bytes))=Xa (Xa (Xi #[I6 0,I6 0]),2,16):=by kernel_rfl
theorem ztJ:Tryz.prog.underlying 255=Xa (.slice 142):=by kernel_rfl
def zaD:Elt (Nat × Nat) where
 enc:=zta
 k:=2
 ty:=142
 st:=255
 bytes:=16
 zv:= Xi #[Xe Xf 0,Xe Xf 0]
 zero:=(0,0)
 len:=fun _=>rfl
 one:=fun a u hu=>by
  simp only[zta,mC,nM,or_false]at hu
  rcases hu with rfl|rfl <;> rfl
 bV:=ztJ
 aF:=ztI
 zok:=rfl
 few:=by decide
 pos:=by decide
theorem zj8 (s) (kind k:Int):(zpX s kind k).length<=64:=by
 unfold zpX;exact nT (List.length_filter_le _ _) Sm
theorem zbE (m) (kind k:Int):∀q,(q8 m kind k q).length<=64*q
 | 0=>by simp[zll]
 | q+1=>by
  rw[zeY,lA,Ys];have a:=zbE m kind k q;have a:=zj8 (m.sp.getD q ⟨Xd,[],[]⟩) kind k;omega
theorem zbJ {w:Xn} {p:Nat} (a2:ChW w0 X p w V m) (kind k:Int) (bc:m.sp.length<=4):
  Xp prog 233 #[Xj (Xa ⟨p,0,Xb⟩),I6 kind,I6 k] w fun e w'=>∃v,e= Xl v/\zb zaD w.heap.size w' v (q8 m kind k m.sp.length)/\zc w w':=by
 obtain⟨b1,Y,s,W⟩:=a2.at.bG;obtain⟨-,-,-,-,-,-,-,-,bg⟩:=a2.at.ns;obtain⟨b0,M⟩:=kA V.sp.a;obtain⟨u,c⟩:=kA m.sp.length;have Q:=a2.box.box.c 10 rfl;rw[bg,c.out,M.out]at Q;have ak:Xo (b1.length=u):=dD<|Rx Y c.out
 have ag:Xo (∀(j:Nat) x,b1[j]? =Xa x->∃an,b0=Xa an/\∀b8,zc w b8->zoz b8 (an.add (j*10)) x):=dD<|Ry M.out s
 have ah:=dD W
 have bf:u<=4:=Ry c.out bc
 rw[c.out];clear a2 Y s W bg bc
 go_enter func233,ntmps233
 go_wp2;clear Q
 go_loopg [7,18] u (fun ar Z ay wr=>∃(q:Nat) (z:Option Addr) (F A:Nat),q<=u/\u - q<=ar/\ay=I6 q/\Z= O z F A/\Xo (zc w wr)/\Xo (zb zaD w.heap.size wr (O z F A) (q8 m kind k q)))
 exact⟨0,Xb,0,0,nZ _,Wm,rfl,rfl,zc.refl _,zb.nil _ _ _⟩
 obtain⟨q,z,F,A,ch,c1,rfl,rfl,aa,b7⟩:=hrel
 by_cases h:q<u
 ·have T:=kC h
  obtain⟨x,ax⟩:∃x,b1[q]? =Xa x:=⟨_,gE (Rx ak.out h)⟩
  obtain⟨t,b4⟩:∃t,Xo (m.sp[q]? =Xa t):=⟨_,gE (Rx c.out h)⟩
  have ab:=dD<|ah.out q x t ax b4.out;obtain⟨an,rfl,be⟩:=ag.out q x ax;obtain⟨bp,bq,br,bs,bt,bu,bv,bw,bx,bz⟩:=be wr aa.out;have L:Xo (q8 m kind k (q+1)=q8 m kind k q++(zpX t kind k).map fun n=>(q,n)):=show _=_ by rw[zeY,Sp.aP b4.out]
  have af:=dD<|zbE m kind k q;have y:=dD<|zj8 t kind k;clear be ax;go_upto_region 5 with fail;obtain⟨N,g⟩:=kB (wr.alloc (Xk #[Xh x.aH,x.ar.x,x.t0.x,x.t1.x,x.t2.x,x.t3.x,x.t4.x,x.t5.x,x.t6.x,x.t7.x] 76));have ap:=gP g
  have i:=xA g
  have b2:=dD (aa.trans ap);have bl:=dD (b7.aA ap);rw[g];clear g ap bp bq br bs bt bu bv bw bx bz;have bd:Xp prog 242 #[Xi #[x.t0.x,x.t1.x,x.t2.x,x.t3.x,x.t4.x,x.t5.x,x.t6.x,x.t7.x],I6 kind,I6 k] N fun e w'=>∃v,e= Xl v/\zb blE N.heap.size w' v ((zpX t kind k).map fun(n:Nat)=>(n:Int))/\zc N w':=zlv x.tab t.tb kind k N (ab.tb.aA b2)
  have c2:=i.c 2 rfl;have c3:=i.c 3 rfl;have c4:=i.c 4 rfl;have c5:=i.c 5 rfl;have c6:=i.c 6 rfl;have Z:=i.c 7 rfl;have ca:=i.c 8 rfl;have cb:=i.c 9 rfl;go_wp2_with fail;refine bd.mono ?_;clear bd c2 c3 c4 c5 c6 Z ca cb;rintro e cd ⟨v,rfl,f,aq⟩;obtain⟨a,ae⟩:=kA (zpX t kind k);rw[ae.out]at f L y;obtain⟨cc,bh,rfl⟩:=f.form;rw[Ys]at f;have a4:=dD f
  have b3:=dD (b2.trans aq);have bm:=dD (bl.aA aq);rw[Ys];obtain⟨l,b⟩:=kA a.length;rw[b.out]at a4 y⊢;have au:l<=64:=y.out;clear f aq;obtain⟨ba,ac⟩:=kA N.heap.size;have bk:=dD<|bS b3.out
  rw[ac.out]at a4;go_wp2
  go_loopg [7,29] l (fun ar Z az wr=>∃(j:Nat) (z:Option Addr) (F A:Nat),j<=l/\l - j<=ar/\az=I6 j/\Z= O z F A/\Xo (zc w wr)/\Xo (zb zaD w.heap.size wr (O z F A) (q8 m kind k q++(a.take j).map fun n=>(q,n)))/\Xo (zb blE ba wr (O cc l bh) (a.map fun(n:Nat)=>(n:Int))))
  exact⟨0,z,F,A,nZ _,Wm,rfl,rfl,b3,show zb _ _ _ _ _ by simpa using(show zb _ _ _ _ _ from bm.out),a4.out⟩
  obtain⟨j,I,a3,a0,cg,c0,rfl,rfl,a6,am,a5⟩:=hrel
  by_cases C:j<l
  ·have S:=kC C
   obtain⟨n,aw⟩:∃n,a[j]? =Xa n:=⟨_,gE (Rx b.out C)⟩
   have U:(a.map fun(n:Nat)=>(n:Int))[j]? =Xa (n:Int):=by rw[Ob,aw];rfl
   obtain⟨_,_,D,d⟩:=a5.at.rows;simp only[vJ]at D;obtain⟨P,r,R⟩:=d j _ U;rw[<-D.1]at r;subst r;have bb:wr.cell? (P.add (j*1))=Xa (I6 (n:Int)):=by
    have:=R wr (zc.refl _) 0 _ rfl;rw[Addr.add_add]at this;exact this
   rw[Nat.mul_one]at bb;have aj:Xo ((a.take (j+1)).map (fun n=>(q,n))=(a.take j).map (fun n=>(q,n))++ [(q,n)]):=dD<|by rw[Yl,aw];simp
   have H:Xo (((q8 m kind k q++(a.take j).map fun n=>(q,n)).length+ [(q,n)].length)*16<=140737488355328):=dD<|by
    rw[lA,Ys,Xs];have:=af.out;simp only[Yp,List.length_nil];omega
   clear aw U D d R;obtain⟨b6,K⟩:=kA (q8 m kind k q++(a.take j).map fun n=>(q,n))
   rw[K.out]at am H;have al:Xo (zb zaD w.heap.size (wr.alloc (Xk #[I6 (q:Int),I6 (n:Int)] 142)) (O I a3 a0) b6):=am.aA (za wr (Xk #[I6 (q:Int),I6 (n:Int)] 142));have ai:Xo (w.heap.size<=(wr.alloc (Xk #[I6 (q:Int),I6 (n:Int)] 142)).heap.size):=show _<=_ from nT (bS a6) (bS (za _ _))
   go_wp2_with (at_builtin;refine zu (E:=zaD) rfl (.tmp 33) (.tmp 37) rfl w.heap.size (O I a3 a0) b6 rfl al _ [(q,n)] rfl (Qs zaD wr (q,n) _ _ rfl Dc) H ai.out ?_)
   intro ci b9 G B;obtain⟨ce,cf,rfl⟩:=G.form;have bn:Xo (zb zaD w.heap.size b9 _ (q8 m kind k q++(a.take (j+1)).map fun n=>(q,n))):=dD<|by rw[aj.out,<-Oc,K.out];exact G
   have a1:zc wr (wr.alloc (Xk #[I6 (q:Int),I6 (n:Int)] 142)):=za _ _;have bi:Xo (zb blE ba b9 (O (Xa P) l bh) (a.map fun(n:Nat)=>(n:Int))):=dD<|(a5.aA a1).grown B (fun ao av e=>(a5.aA a1).apart al Dc ao av e)
   have bj:=dD<|zU (a6.trans a1) B (fun ao av=>(al.lt ao av).1)
   clear G B a1 bb;try simp only[Xx]
   go_wp2
   go_roundg (l -(j+1));exact⟨j+1,_,_,_,Wm,Wm,Gn,rfl,bj,bn,bi⟩;omega
  have S:=kD C
  have bo:Xo (zb zaD w.heap.size wr (O I a3 a0) (q8 m kind k (q+1))):=dD<|by
   rw[L.out];have:=am.out;rw[Xy (by rw[b.out];omega)]at this
   exact this
  go_wp2
  go_roundg (u -(q+1));exact⟨q+1,I,a3,a0,Wm,Wm,Gn,rfl,a6,bo⟩;omega
 have T:=kD h
 obtain rfl:q=u:=Wm
 go_wp2;go_ret;exact⟨_,rfl,b7,aa⟩
variable{X:Nat->Prop}
theorem Jb {w:Xn} {p:Nat} (a6:ChW w0 X p w V m) (q:Nat) (aa:q<m.sp.length) (n:Int) (z:En):
  Xp prog 137 #[Xj (Xa ⟨p,0,Xb⟩),Xi #[I6 (q:Int),I6 n],Xi #[I6 z.kind,I6 z.n,Xh z.wr]] w fun e w'=>(∃v,e= Xl v)/\Chg w0 X p w V (jv m q n z) w':=by
 obtain⟨s,S⟩:∃s,m.sp[q]? =Xa s:=⟨_,gE aa⟩;obtain⟨au,N,ai,aj⟩:=a6.sp;obtain⟨x,D⟩:∃x,au[q]? =Xa x:=⟨_,gE (Rx ai aa)⟩
 have T:=dD<|aj q x s D S w (zk.refl _ _);obtain⟨b9,G⟩:=kA au.length;obtain⟨k,bf,l⟩:=N.aJ Wm
 rw[G.out]at l;have bj:(q:Int)< (b9:Int):=Hm G.out
 have A:=dD l;have ax:=dD a6;have ay:=dD D;have bb:=dD S;have a0:=dD ai;have a1:=dD aj;rw[l]at N;have F:=dD N;have Y:Xo (∀W,zc w W->zoz W ⟨k,q*10,Xb⟩ x):=show∀W,_ from fun W a8=>by
  have:=((N.aA a8).one D).sp10;rw[Xw,zA]at this;exact this
 have ba:=dD<|fun W (a8:zc w W)=>zmG x.tab s.tb n z W (T.tb.aA a8)
 have Z:Xo (jv m q n z={ m with sp:=m.sp.set q { s with tb:=zjD s.tb n z } }):=dD<|by unfold jv;rw[Sp.aP S]
 rw[Z.out];clear a6 aa S N ai aj D l;obtain⟨b0,d⟩:=kB ((w.alloc (Xk #[I6 (q:Int),I6 n] 142)).alloc (Xk #[I6 z.kind,I6 z.n,Xh z.wr] 127));have av:=gD2 d
 have a3:=x2a d
 have b1:=x2b d
 have a2:=dD d;clear d;have a4:b0.cell? ⟨p,10,Xb⟩=Xa (O (Xa ⟨k,0,Xb⟩) b9 bf):=by rw[<-A.out];exact(ax.box.box.aA av).c 10 rfl
 have b8:=a3.c 0 rfl
 go_enter func137,ntmps137
 go_upto_region 1 with fail;rw[a2.out];obtain⟨g,U⟩:=kA w.heap.size;rw[U.out]at a3 b1 b8⊢
 go_upto_region 2 with(go_quiet (fail))
 clear a4 b8;obtain⟨j,f⟩:=kB (b0.drewN nq);have Q:Xo (zc w j):=dD<|by rw[<-f];exact av.trans (show Below _ _ _ from bD (bR _ _) _)
 have bd:Xo (Box j g [I6 (q:Int),I6 n]):=dD<|by rw[<-f];exact a3.aA (show Below _ _ _ from bD (bR _ _) _)
 have be:Xo (Box j (g+1) [I6 z.kind,I6 z.n,Xh z.wr]):=dD<|by rw[<-f];exact b1.aA (show Below _ _ _ from bD (bR _ _) _)
 rw[f];clear f;obtain⟨i,h⟩:=Wq fun u=>Box u g [I6 (q:Int),I6 n]/\Box u (g+1) [I6 z.kind,I6 z.n,Xh z.wr]
 have C:i j.drew:=(h _).2 ⟨bd.aA (gW _),be.aA (gW _)⟩
 have H:zc j j.drew:=show Below _ _ _ from(bR _ _).drew
 have ac:=fun y:zq i=>((h _).1 y.holds).1.c 1 rfl
 have ad:=fun y:zq i=>((h _).1 y.holds).2.c 0 rfl
 have ae:=fun y:zq i=>((h _).1 y.holds).2.c 1 rfl
 have af:=fun y:zq i=>((h _).1 y.holds).2.c 2 rfl
 have a9:Nonempty (zq i):=⟨⟨_,C⟩⟩;refine qw (I:=i) 15 [(4,fun v=>v= Xi #[x.t0.x,x.t1.x,x.t2.x,x.t3.x,x.t4.x,x.t5.x,x.t6.x,x.t7.x]),(8,fun v=>∃r:List Xq,v= Xm #[Xi r.toArray,I6 (zl3 s.tb n z)]),(14,fun _=>True)] (fun u=>zc j u) C H zW Kr rfl rfl Dc (Sc ⟨_,rfl⟩ ⟨_,[],rfl⟩ ⟨undef,trivial⟩) Kr ?_
 simp only[Ym,Yn];iterate 2 refine zy ?_
 refine qG (.tmp 17) ⟨k,q*10,Xb⟩ rfl rfl rfl rfl ?_;refine Uq ?_;refine zy ?_
 refine zV rfl rfl (fun _ u=>zc j u) (fun w' c b=>?_) (fun b7 L=>?_)
 ·refine QO 74 (.tmp 19) rfl k (q*10+2) rfl [x.t0.x,x.t1.x,x.t2.x,x.t3.x,x.t4.x,x.t5.x,x.t6.x,x.t7.x] ?_ underlying74 rfl Kr ⟨c,rfl,b⟩
  have t:=Y.out _ (Q.trans b);intro b5 v a;have bk:(w'.cell? ⟨k,q*10+2+b5,Xb⟩)=Xa v:=by
   match b5,a with
   | 0,a=>cases a;exact t.2.2.1
   | 1,a=>cases a;exact t.2.2.2.1
   | 2,a=>cases a;exact t.2.2.2.2.1
   | 3,a=>cases a;exact t.2.2.2.2.2.1
   | 4,a=>cases a;exact t.2.2.2.2.2.2.1
   | 5,a=>cases a;exact t.2.2.2.2.2.2.2.1
   | 6,a=>cases a;exact t.2.2.2.2.2.2.2.2.1
   | 7,a=>cases a;exact t.2.2.2.2.2.2.2.2.2
  exact bk
 cases L;refine Uq ?_;iterate 3 refine zy ?_
 refine zV rfl rfl (fun v u=>∃(r:List Xq) (R:Xn),v= Xm #[Xi r.toArray,I6 (zl3 s.tb n z)]/\zc j R/\zc R u/\za8 0 R.heap.size u r (zjD s.tb n z)) (fun w' c b=>?_) (fun b7 L=>?_)
 ·refine zP.call [Xi #[x.t0.x,x.t1.x,x.t2.x,x.t3.x,x.t4.x,x.t5.x,x.t6.x,x.t7.x],I6 n,Xi #[I6 z.kind,I6 z.n,Xh z.wr]] rfl func175 rfl rfl rfl ?_;refine(ba w' (Q.trans b)).mono ?_;rintro e bl ⟨r,rfl,P,a5⟩;obtain⟨ag,ah⟩:=(h _).1 c;exact⟨_,rfl,(h _).2 ⟨ag.aA a5,ah.aA a5⟩,⟨r,rfl⟩,r,w',rfl,b,a5,P⟩
 obtain⟨r,rfl⟩:=L;refine Uq ?_;iterate 3 refine zy ?_
 refine qG (.tmp 16) ⟨k,q*10,Xb⟩ rfl rfl rfl rfl ?_;refine Uq ?_;refine zy ?_
 refine zV rfl rfl (fun _ u=>Chg w0 X p w V { m with sp:=m.sp.set q { s with tb:=zjD s.tb n z } } u) (fun w' c b=>?_) (fun b7 L=>?_)
 ·obtain⟨ar,R,bh,b2,bg,b6⟩:=b;have ab:ar=r:=by simpa using bh.symm
  subst ab;obtain⟨ak,al,P,am,an,ao,ap,aq,rfl⟩:=b6.form;have aw:=(Q.trans b2).trans bg;refine zcO (E:=Jm) (.tmp 28) (.tmp 25) 74 rfl w0.heap.size _ au (F.aA aw) k q 2 rfl x ⟨x.aH,x.ar,ak,al,P,am,an,ao,ap,aq⟩ ay.out [ak.v,al.v,P.v,am.v,an.v,ao.v,ap.v,aq.v] Kr rfl (by show 2+8<=10;omega) ?_ ⟨k,q*10+2,Xb⟩ rfl rfl (Xi #[ak.v,al.v,P.v,am.v,an.v,ao.v,ap.v,aq.v]) rfl rfl ?_
  ·intro u b4;simp only[mC,nM,or_false]at b4
   rcases b4 with rfl|rfl|rfl|rfl|rfl|rfl|rfl|rfl <;> rfl
  intro bc M B _;rw[<-A.out]at M;obtain⟨ag,ah⟩:=(h _).1 c;have bi:=F.lt k rfl;refine⟨(h _).2 ⟨ag.grown B (Hm U.out),ah.grown B (Hm U.out)⟩,trivial,ax.setT a0 a1 ay bb (by have b3:=A.out;(try simp only[Sli.x]at b3);unfold oB;rw[b3];rfl) aw (b6.less (nR _) (nT (bS Q) (bS b2))) B M ⟨rfl,rfl,rfl⟩⟩
 clear L;try simp only[Xx]
 refine jW fun bc a7 K=>?_
 have az:=dD K;clear a7 K C H ac ad ae af a9;go_wp2
 exact Ge az.out
variable{X:Nat->Prop}
theorem zlL {w:Xn} {p:Nat} (h:ChW w0 X p w V m) (q:Nat) (b:q<m.sp.length) (n:Int) (a:(Jo m q n).kind=1->Zj m.fs m.aB (Jo m q n).n (-1)=0):
  Xp prog 78 #[Xj (Xa ⟨p,0,Xb⟩),Xi #[I6 (q:Int),I6 n]] w fun e w'=>(∃v,e= Xl v)/\Chg w0 X p w V (zlF m q n) w':=by
 obtain⟨E,c⟩:=kA (Jo m q n);have f:Xo (zlF m q n=jv (Qw m E (-1)) q n ⟨0,0,Xd⟩):=dD<|by rw[<-c.out];rfl
 have l:=dD h;have r:=dD b;have g:=dD h.aM;have s:Xo (E.kind=1->Zj m.fs m.aB E.n (-1)=0):=show _->_ by rw[<-c.out];exact a
 clear h b a;obtain⟨a,a⟩:=kB (w.alloc (Xk #[I6 (q:Int),I6 n] 142));have k:=gA a
 obtain⟨i,b⟩:=kA w.heap.size;have h:=xPT a b
 have d:Xo (¬Dw p V i):=dD<|fun e=>by have:=g.out _ e;have:=b.out;omega
 have g:=dD a;clear a;have a:=Ja (l.aA k) q r n;rw[c.out]at a
 go_enter func78,ntmps78
 go_upto_region 1 with fail;rw[g.out,b.out];obtain⟨i,j⟩:=h.box.k2;go_wp2_with fail;refine a.mono ?_;clear a i j;rintro e b ⟨rfl,b⟩;have c:=dD (k.trans b);have t:=dD (h.aA b);clear b;unfold enV;have b:=ze9 (l.aA c) E (-1) s.out;go_wp2_with fail;refine b.mono ?_;clear b;rintro e b ⟨⟨b,rfl⟩,b,k,g,h⟩;have l:=dD k;have b:=dD<|Chg.far c h
 have s:=dD<|(zk.aA c).trans g
 have c:=dD<|t.aK g d.out;clear k h g;obtain⟨i,j⟩:=c.box.k2;have a:=Jb l q (Rx zj3 r) n ⟨0,0,Xd⟩
 go_wp2_with fail;refine a.mono ?_;clear a i j;rintro e d ⟨⟨a,rfl⟩,c⟩;have a:Xo (Chg w0 X p w V (zlF m q n) d):=dD<|Rx f.out (Chg.step s b c)
 clear c;go_wp2
 exact Ge a.out
def zhk (m:Ma) (q:Nat) (n:Int) (k:Int):Ma:=jv (Qw m ⟨1,k,Xd⟩ 1) q n ⟨1,k,Xd⟩
theorem ze8 {w:Xn} {p:Nat} (h:ChW w0 X p w V m) (q:Nat) (b:q<m.sp.length) (n:Int) (k:Int) (a:Zj m.fs m.aB k 1=0):
  Xp prog 193 #[Xj (Xa ⟨p,0,Xb⟩),Xi #[I6 (q:Int),I6 n],I6 k] w fun e w'=>(∃v,e= Xl v)/\Chg w0 X p w V (zhk m q n k) w':=by
 have l:=dD h;have r:=dD b;have j:=dD a;have g:=dD h.aM;clear h b a;obtain⟨c,a⟩:=kB ((w.alloc (Xk #[I6 (q:Int),I6 n] 142)).alloc (Xk #[I6 1,I6 k,Xh Xd] 127));have f:=gD2 a
 obtain⟨d,b⟩:=kA w.heap.size;have u:Xo (zl c d 142 [I6 (q:Int),I6 n]):=dD<|by rw[<-a];exact(zl.aE w [I6 (q:Int),I6 n] _ b.symm).aA (za _ _)
 have i:Xo (zl c (d+1) 127 [I6 1,I6 k,Xh Xd]):=dD<|by rw[<-a];exact zl.aE _ [I6 1,I6 k,Xh Xd] _ (by have:=b.out;simp;omega)
 have c:Xo (¬Dw p V d/\¬Dw p V (d+1)):=dD<|⟨fun e=>by have:=g.out _ e;have:=b.out;omega,fun e=>by have:=g.out _ e;have:=b.out;omega⟩
 have d:=dD a;clear a;have a:=ze9 (l.aA f) ⟨1,k,Xd⟩ 1 (fun _=>j.out)
 go_enter func193,ntmps193
 go_upto_region 2 with fail;rw[d.out,b.out];obtain⟨d,g,h⟩:=i.box.c3;go_wp2_with fail;refine a.mono ?_;clear a d g h;rintro e a ⟨⟨a,rfl⟩,a,l,a,j⟩;have s:=dD l;have b:=dD<|Chg.far f j
 have t:=dD<|(zk.aA f).trans a
 have f:=dD<|u.aK a c.1;have u:=dD<|i.aK a c.2;clear l j a;obtain⟨c,i⟩:=f.box.k2;obtain⟨d,g,h⟩:=u.box.c3;have a:=Jb s q (Rx zj3 r) n ⟨1,k,Xd⟩
 go_wp2_with fail;refine a.mono ?_;clear a c i d g h;rintro e a ⟨⟨a,rfl⟩,c⟩;have a:=dD<|Chg.step t b c
 clear c;go_wp2
 exact Ge a.out
theorem zi9 {w:Xn} {p:Nat} (h:ChW w0 X p w V m) (q:Nat) (a:q<m.sp.length) (n:Int):
  Xp prog 207 #[Xj (Xa ⟨p,0,Xb⟩),Xi #[I6 (q:Int),I6 n]] w fun e w'=>(∃v,e= Xl v)/\Chg w0 X p w V (jv m q n { Jo m q n with wr:=true }) w':=by
 obtain⟨E,d⟩:=kA (Jo m q n);rw[d.out];have r:=dD h;have s:=dD a;clear h a;obtain⟨a,a⟩:=kB (w.alloc (Xk #[I6 (q:Int),I6 n] 142));have h:=gA a
 obtain⟨t,c⟩:=kA w.heap.size;have g:=xPT a c
 have b:=dD a;clear a;have a:=Ja (r.aA h) q s n;rw[d.out]at a
 go_enter func207,ntmps207
 go_upto_region 1 with fail;rw[b.out,c.out];obtain⟨k,l⟩:=g.box.k2;go_wp2_with fail;refine a.mono ?_;clear a k l;rintro e c ⟨rfl,d⟩;unfold enV;go_upto_region 2 with fail;obtain⟨i,f⟩:=kA c.heap.size;obtain⟨b,b⟩:=kB (c.alloc (Xk #[I6 E.kind,I6 E.n,Xh E.wr] 127));have j:=gP b
 have y:=xPT b f
 have x:=dD (g.aA (d.trans j));have u:=dD ((h.trans d).trans j);have c:Xo (t<i/\w.heap.size<=i):=show _/\_ from⟨by have:=(g.aA d).box.lt;have:=f.out;omega,by have:=f.out;have:=bS (h.trans d);omega⟩
 rw[b,f.out];clear b j d
 go_upto_region 3 with(refine qK rfl 4 (.tmp 8) (.const (Xh Xc)) rfl i 2 rfl (Xh Xc) rfl [Xh Xc] rfl y Sm Kr (by simp[Value.oneCell']) ?_)
 intro f d b _;have h:=dD d;have g:Xo (zl f t 142 [I6 (q:Int),I6 n]):=x.beside b (fun f e=>by cases e;have:=c.out;omega)
 have f:=dD<|zd u b c.2
 clear d b;try simp only[Xx]
 have a:=Jb (r.aA f) q s n ⟨E.kind,E.n,Xc⟩;obtain⟨k,l⟩:=g.box.k2;obtain⟨b,c,d⟩:=h.box.c3;go_wp2_with fail;refine a.mono ?_;clear a k l b c d;rintro e a ⟨⟨a,rfl⟩,b⟩;have a:=dD<|Chg.aI f b
 clear b;go_wp2
 exact Ge a.out
variable{X:Nat->Prop}
theorem ChW.off {w:Xn} {p:Nat} (h:ChW w0 X p w V m) {cs:Array Xq} (a:w.heap[g]? =Xa (Xk cs t (0,0))) (t1:88≠t) (t2:qi.ty≠t) (t3:Zz.ty≠t) (d:Jm.ty≠t):¬Dw p V g:=by
 have a:∀{c:Type} {E:Elt c} {b:Nat} {v:Xq} {l:List c},zb E b w v l->E.ty≠t->v.ownBlock≠Xa g:=fun r b e=>by
  obtain⟨b,b⟩:=r.obj e
  grind
 rintro(e|e|e|e)
 ·subst e;have b:w.heap[g]? =_:=h.box
  grind
 ·exact a h.fs t2 e
 ·exact a h.ca t3 e
 obtain⟨b,b,_⟩:=h.sp;exact a b d e
theorem ChW.bU {w:Xn} {p:Nat} {cs:List Xq} (h:ChW w0 X p w V m) (a:zl w b t cs) (t1:88≠t) (t2:qi.ty≠t) (t3:Zz.ty≠t) (c:Jm.ty≠t):¬Dw p V b:=h.off (show w.heap[b]? =_ from a) t1 t2 t3 c
theorem ChW.offR {w:Xn} {p:Nat} {α:Type} {E:Elt α} {base:Nat} {v:Xq} {l:List α} (h:ChW w0 X p w V m) (r:zb E base w v l) (t1:88≠E.ty) (t2:qi.ty≠E.ty) (t3:Zz.ty≠E.ty) (c:Jm.ty≠E.ty):∀g,v.ownBlock=Xa g->¬Dw p V g:=fun g b=>by
 obtain⟨a,a⟩:=r.obj b;exact h.off a t1 t2 t3 c
theorem zb.bW {w:Xn} {p:Nat} {α:Type} {E:Elt α} {base:Nat} {v:Xq} {l:List α} (r:zb E base w v l) (o:zk (Dw p V) w w1) (a:∀g,v.ownBlock=Xa g->¬Dw p V g):zb E base w1 v l:=⟨jm r.1 o a,r.2⟩
def QN (m:Ma) (e:En) (l:List (Nat × Nat)):Ma:=l.foldl (fun m x=>jv m x.1 (x.2:Int) e) m
theorem zi5 (m e) (l:List (Nat × Nat)) (x:Nat × Nat):QN m e (l++ [x])=jv (QN m e l) x.1 (x.2:Int) e:=by simp[QN]
theorem za6 (e):∀(l:List (Nat × Nat)) (m:Ma),(QN m e l).sp.length=m.sp.length/\(QN m e l).fs=m.fs/\(QN m e l).aB=m.aB
 | [],_=>⟨rfl,rfl,rfl⟩
 | x :: l,m=>by
  have h:=za6 e l (jv m x.1 (x.2:Int) e);exact⟨h.1.trans (zlC _ _ _ _),h.2⟩
def zaG (m:Ma) (k:Nat) (r:Int) (e:En):Ma:={ QN m e (q8 m 1 (k:Int) m.sp.length)with fs:=QI m.fs m.aB (k:Int) (-r),aB:=m.aB }
theorem zdU {w:Xn} {p:Nat} (h:ChW w0 X p w V m) (k:Nat) (fr:Fr) (f:m.fs[k]? =Xa fr) (z:En) (a:m.sp.length<=4) (d:0<=fr.r/\fr.r<=1000) (b:Zj m.fs m.aB (k:Int) (-fr.r)=0):
  Xp prog 214 #[Xj (Xa ⟨p,0,Xb⟩),I6 (k:Int),Xi #[I6 z.kind,I6 z.n,Xh z.wr]] w fun e w'=>(∃v,e= Xl v)/\Chg w0 X p w V (zaG m k fr.r z) w':=by
 have l:=dD h;have H:=dD f;have Y:=dD b;have u:=dD d;have c:=dD a;clear h f a b d;obtain⟨j,a⟩:=kB (w.alloc (Xk #[I6 z.kind,I6 z.n,Xh z.wr] 127));have g:=gA a
 obtain⟨C,h⟩:=kA w.heap.size;have s:=xPT a h
 have d:=dD a;clear a;have a:=zbJ (l.aA g) 1 (k:Int) c.out;obtain⟨L,F⟩:=kA (q8 m 1 (k:Int) m.sp.length);rw[F.out]at a;have b:Xo (L.length<=256):=show _<=_ by
  rw[<-F.out];have G:=zbE m 1 (k:Int) m.sp.length;have q:=c.out;omega
 have q:Xo (∀D∈L,D.1<m.sp.length):=dD<|fun D c=>by
  rw[<-F.out]at c;exact((JT Dc (nR _)).1 c).1
 go_enter func214,ntmps214
 go_upto_region 1 with fail;rw[d.out,h.out];go_wp2_with fail;refine a.mono ?_;clear a;rintro e a ⟨v,rfl,a,A⟩;obtain⟨t,U,rfl⟩:=a.form;obtain⟨h,d⟩:=kA L.length;rw[d.out]at a b⊢;have r:h<=256:=b.out;obtain⟨N,b⟩:=kA j.heap.size;rw[b.out]at a;have r:=dD a;have b:=dD (g.trans A);have g:=dD (s.aA A);clear a A;go_wp2
 go_loopg [12] h (fun s a wr=>∃(j:Nat) (B:MaV),j<=h/\h - j<=s/\a=I6 j/\Xo (ChW w0 X p wr B (QN m z (L.take j)))/\Xo (zk (Dw p V) w wr)/\Xo (∀k,Dw p B k->Dw p V k\/w.heap.size<=k)/\Xo (zb zaD N wr (O t h U) L)/\Xo (zl wr C 127 [I6 z.kind,I6 z.n,Xh z.wr]))
 exact⟨0,V,nZ _,Wm,rfl,l.aA b,zk.aA b,fun k f=> .inl f,r,g⟩
 obtain⟨j,B,y,a,rfl,f,Q,P,t,T⟩:=hrel
 by_cases l:j<h
 ·have s:=kC l
  obtain⟨⟨E,n⟩,c⟩:∃D,L[j]? =Xa D:=⟨_,gE (Rx d.out l)⟩
  obtain⟨g,Z,b⟩:=t.aJ (by rw[d.out];omega)
  simp only[vJ]at b;obtain⟨rfl,-,-⟩:=b;have a:=t.one c;have r:wr.cell? ⟨g,j*2,Xb⟩=Xa (I6 (E:Int)):=by
   have:=a 0 _ rfl;rw[Xw,Xw,zA,Yw]at this;exact this
  have M:wr.cell? ⟨g,j*2+1,Xb⟩=Xa (I6 (n:Int)):=by
   have:=a 1 _ rfl;rw[Xw,Xw,zA]at this;exact this
  have S:=dD<|q.out _ (mG c);have K:Xo (L.take (j+1)=L.take j++ [(E,n)]):=show _=_ by rw[Yl,c];rfl
  clear a c;go_upto_region 4 with fail;clear r M;obtain⟨a,r⟩:=kA wr.heap.size;obtain⟨a,a⟩:=kB (wr.alloc (Xk #[I6 (E:Int),I6 (n:Int)] 142));have q:=gA a
  have R:=xPT a r
  have M:=dD (T.aA q);rw[a,r.out];clear a;have r:=dD (f.aA q);have a:=Jb r E (by rw[(za6 z _ m).1];exact S) (n:Int) z
  obtain⟨E,S⟩:=R.box.k2;obtain⟨R,T,W⟩:=M.box.c3;go_wp2_with fail;refine a.mono ?_;clear a E S R T W;rintro e E ⟨⟨a,rfl⟩,R,T,a,S⟩;have W:Xo (ChW w0 X p E R (QN m z (L.take (j+1)))):=dD<|by rw[K.out,zi5];exact T
  have K:=Chg.step (w0:=w0) (m':=QN m z (L.take (j+1))) Q P (Chg.aI q ⟨R,W,a,S⟩);have R:Xo (zb zaD N E (O (Xa ⟨g,0,Xb⟩) h U) L):=(t.aA q).bW a (r.offR (t.aA q) Dc Dc Dc Dc)
  have W:Xo (zl E C 127 [I6 z.kind,I6 z.n,Xh z.wr]):=M.aK a (r.bU M Dc Dc Dc Dc)
  obtain⟨U,r,t,q⟩:=K;have K:=dD r;have M:=dD t;have E:=dD q
  clear T a S r t q;go_wp2
  go_roundg (h -(j+1));exact⟨j+1,U,Wm,Wm,Gn,K,M,E,R,W⟩;omega
 have s:=kD l
 have a:Xo (L.take j=L):=dD<|Xy (by rw[d.out];omega)
 rw[a.out]at f;obtain⟨K,l⟩:=kA (QN m z L);rw[l.out]at f;have a:Xo (K.fs=m.fs/\K.aB=m.aB):=dD<|by rw[<-l.out];exact(za6 z L m).2
 obtain⟨g,Z,b⟩:=f.fs.aJ (by rw[a.1];have:=(gS.1 H).1;omega)
 obtain⟨⟨d,t,q⟩,d,d,d,d,d,d,d,d⟩:=B;simp only[vJ]at b;obtain⟨rfl,d,-⟩:=b;have b:(k:Int)< (t:Int):=by
  have G:=(gS.1 H).1;rw[d,a.1];omega
 have b:Xo (∀W,zc wr W->W.cell? ⟨g,k*13+8,Xb⟩=Xa (I6 fr.r)):=dD<|fun W h=>by
  have:=(f.fs.aA h).one (i:=k) (x:=fr) (Rx a.1 H) 8 _ rfl
  rw[Xw,Xw,zA]at this;exact this
 have M:Xo (∀W,zc wr W->Xp prog 173 #[Xi #[O (Xa ⟨g,0,Xb⟩) t q,I6 m.aB],I6 (k:Int),I6 (-fr.r)] W fun e w'=>∃s:Sli,e= Xl (Xm #[Xi #[s.x,I6 m.aB],I6 0])/\zb qi W.heap.size w' (s.x) (QI m.fs m.aB (k:Int) (-fr.r))/\zc W w'):=dD<|fun W h=>by
  have r:=(f.at.aA h).fs;rw[a.1]at r d;rw[d]at r⊢;refine(zfV (Xa ⟨g,0,Xb⟩) q m.fs m.aB (k:Int) (-fr.r) W r Y).mono ?_;rintro e w' ⟨C,rfl,r,g⟩;have h:zb qi W.heap.size w' C (QI m.fs m.aB (k:Int) (-fr.r)):=r;obtain⟨B,C,rfl⟩:=h.form;exact⟨⟨B,_,C⟩,rfl,r,g⟩
 have h:=dD f.box;have H:=dD a.2;clear d;obtain⟨r,B⟩:=kA fr.r;rw[B.out]at b M u;obtain⟨a,a⟩:=u.out;go_upto_region 6 with fail;obtain⟨a,E⟩:=Wq fun u=>u.cell? ⟨g,k*13+8,Xb⟩=Xa (I6 r)
 have L:zc wr wr.drew:=show Below _ _ _ from(bR _ _).drew
 have d:=(E _).2 (b _ L);have C:zc wr wr.drew:=L;have R:=fun L:zq a=>(E _).1 L.holds
 have L:Nonempty (zq a):=⟨⟨_,d⟩⟩;refine Qi (I:=a) 26 [(18,fun v=>∃s:Sli,v= Xm #[Xi #[s.x,I6 m.aB],I6 0]),(25,fun _=>True)] [5,12] (fun u=>zc wr u) d C zW Kr rfl rfl Dc (Sb ⟨_,ZH,rfl⟩ ⟨undef,trivial⟩) Kr Kr ?_
 simp only[Ym,Yn];iterate 2 refine qF ?_
 refine JR (.tmp 23) ⟨p,0,Xb⟩ rfl rfl rfl rfl ?_;refine Uq ?_;iterate 2 refine qF ?_
 refine zbx rfl rfl rfl (Xi #[O (Xa ⟨g,0,Xb⟩) t q,I6 m.aB]) (fun w' _ a=>?_) ?_
 ·exact zmJ 32 (.tmp 26) rfl p 0 rfl [O (Xa ⟨g,0,Xb⟩) t q,I6 m.aB] ((h.box.aA a).mid 0 (fun j v y=>by
   match j,y with
   | 0,y=>exact y
   | 1,y=>rw[<-H.out]at y;exact y)) underlying32 rfl Kr
 refine Uq ?_;iterate 2 refine qF ?_
 refine JR (.tmp 29) ⟨p,0,Xb⟩ rfl rfl rfl rfl ?_;refine Uq ?_;iterate 3 refine qF ?_
 refine zbx rfl rfl rfl (O (Xa ⟨g,0,Xb⟩) t q) (fun w' _ a=>?_) ?_
 ·exact zeI 30 (.tmp 33) rfl p 0 rfl (O (Xa ⟨g,0,Xb⟩) t q) ((h.box.aA a).c 0 rfl) underlying30 rfl
 refine Uq ?_;iterate 5 refine qF ?_
 refine JQ rfl rfl (fun v u=>∃(s:Sli) (c:Xn),v= Xm #[Xi #[s.x,I6 m.aB],I6 0]/\zc wr c/\zc c u/\zb qi c.heap.size u (s.x) (QI m.fs m.aB (k:Int) (-r))) (fun w' j a=>?_) (fun D y=>?_)
 ·refine zP.call [Xi #[O (Xa ⟨g,0,Xb⟩) t q,I6 m.aB],I6 (k:Int),I6 (-r)] rfl func173 rfl rfl rfl ?_;refine(M w' a).mono ?_;rintro e q ⟨s,rfl,q,A⟩;exact⟨_,rfl,(E _).2 (b _ (a.trans A)),⟨s,rfl⟩,s,w',rfl,a,A,q⟩
 obtain⟨s,rfl⟩:=y;refine Uq ?_;iterate 3 refine qF ?_
 refine JR (.tmp 22) ⟨p,0,Xb⟩ rfl rfl rfl rfl ?_;refine Uq ?_;iterate 2 refine qF ?_
 refine JQ rfl rfl (fun _ u=>Chg w0 X p w V (zaG m k r z) u) (fun w' j a=>?_) (fun D y=>?_)
 ·obtain⟨j,c,c,t,q,u⟩:=a;have a:j=s:=by
   obtain⟨A,A,A⟩:=s;obtain⟨N,s,s⟩:=j;simp only[Value.tuple.injEq,Array.mk.injEq,List.cons.injEq,Value.agg.injEq,vJ,and_true]at c;obtain⟨rfl,rfl,rfl⟩:=c;rfl
  subst a;have c:=t.trans q;refine jk 32 (.tmp 45) (.tmp 41) rfl p 0 rfl (Xi #[j.x,I6 m.aB]) rfl [j.x,I6 m.aB] rfl (h.aA c) (by simp[chL]) Kr (by simp[Value.oneCell']) ?_
  intro q h a _;have j:=f.nf g rfl;refine⟨(E _).2 ?_,trivial,?_⟩
  ·have G:=b.out _ c;have b:=World.block_lt_of_cell? _ _ G;rw[World.cell?_of_block (w:=w') (a.block g b (fun e=>by cases e;exact j rfl))]
   exact G
  have b:zaG m k r z={ K with fs:=QI m.fs m.aB (k:Int) (-r),aB:=m.aB }:=by
   unfold zaG;rw[F.out,l.out]
  rw[b];exact Chg.step Q P (f.setF c (u.base (bS t)) a h)
 clear y;try simp only[Xx]
 refine zak fun q b a=>?_
 have c:Xo (Chg w0 X p w V (zaG m k fr.r z) q):=dD<|Rx B.out a
 clear b a d C R L;go_wp2
 exact Ge c.out
def frU (q:Fr):Fr:={ q with u:=false }
def zj1 (q:Fr):Bool:=decide (0<q.r) && !q.u
theorem zor {w:Xn} (h:Below b w W) {a:Addr} (c:b<=a.block) (u):Below b w (W.setCell a u):=Below.setCell h c u
theorem zpo (B g n f i base v:Nat) (fs:List Fr) (q W) (b:fs.length=n) (a:n<=40) (h:fs[i]? =Xa q) (j:Box W B [O (Xa ⟨g,0,Xb⟩) n f,I6 (i:Int)]) (k:zb qi base W (O (Xa ⟨g,0,Xb⟩) n f) fs) (p:B≠g) (t:v<=B) (C:v<=g):
  Xp prog 228 #[Xj (Xa ⟨B,0,Xb⟩)] W fun e a=>e= Xl (Xm #[I6 (i:Int),Xh (zj1 q)])/\Box a B [O (Xa ⟨g,0,Xb⟩) n f,I6 (((i+1) % n:Nat):Int)]/\zb qi base a (O (Xa ⟨g,0,Xb⟩) n f) (fs.set i (frU q))/\Below v W a:=by
 have d:=dD k;have c:=dD j;have u:=dD h;have a:i<n:=by rw[<-b];exact(gS.1 h).1
 have a:=dD b;clear k j h b;have a:(i:Int)< (n:Int):=Wm
 have a:(0:Int)< (n:Int):=Wm
 have a:¬(n:Int)=0:=Wm
 have a:(((i:Int)+1) %(n:Int))=(((i+1) % n:Nat):Int):=Sm
 have k:=dD a;clear a;have a:=Ne.symm p;obtain⟨z,j⟩:=c.k2;have s:=c.f;have m:=c.lt;have a:=(d.lt g rfl).2;have u8:=d.frc u 8 rfl;have u9:=d.frc u 9 rfl
 go_enter func228,ntmps228
 go_upto_region 3 with fail;obtain⟨h,b⟩:=kB (W.setCell ⟨B,1,Xb⟩ (I6 (((i:Int)+1) %(n:Int))));rw[b];have r:Xo (Box h B [O (Xa ⟨g,0,Xb⟩) n f,I6 (((i:Int)+1) %(n:Int))]):=dD<|by rw[<-b];exact c.set 1 _
 have l:Xo (zb qi base h (O (Xa ⟨g,0,Xb⟩) n f) fs):=dD<|by rw[<-b];exact d.aT (fun w a=>by cases a;exact p) _
 have d:Xo (Below v W h):=dD<|by rw[<-b];exact zor (bR _ _) t _
 clear b z j s m u8 u9;have z:=r.c 0 rfl;have u8:=l.frc u 8 rfl;have u9:=l.frc u 9 rfl;have y:Xo (zj1 q=(decide (0<q.r) && !q.u)):=rfl;obtain⟨h,b⟩:=kA q.r;obtain⟨A,c⟩:=kA q.u;rw[b.out]at u8 y;rw[c.out]at u9 y
 by_cases D:0<h
 ·cases A with
  | true=>
   have x:Xo (zj1 q=Xd):=dD<|by rw[y.out];simp[D]
   skip
   go_wp2_with (refine zt (E:=qi) rfl (.tmp 32) (.const (Xh Xd)) 4 rfl base (O (Xa ⟨g,0,Xb⟩) n f) fs l g i 9 rfl q (frU q) u.out [Xh Xd] Kr rfl (Yd rfl) (by intro A t;simp at t;subst t;rfl) _ rfl (by simp[qi]) _ rfl rfl ?_)
   intro s c b _;have m:=dD c;have j:Xo (Box s B [O (Xa ⟨g,0,Xb⟩) n f,I6 (((i:Int)+1) %(n:Int))]):=r.beside b (fun w a=>by cases a;exact p)
   have h:Xo (Below v W s):=Below.grown d b (Hm (bS d.out)) (fun w a=>by cases a;exact C)
   clear c b u8 u9 z;go_wp2
   go_ret2
   exact⟨Rr x.out,Ry k.out j,m,h⟩
  | false=>
   have x:Xo (zj1 q=Xc):=dD<|by rw[y.out];simp[D]
   skip
   go_wp2_with (refine zt (E:=qi) rfl (.tmp 32) (.const (Xh Xd)) 4 rfl base (O (Xa ⟨g,0,Xb⟩) n f) fs l g i 9 rfl q (frU q) u.out [Xh Xd] Kr rfl (Yd rfl) (by intro A t;simp at t;subst t;rfl) _ rfl (by simp[qi]) _ rfl rfl ?_)
   intro s c b _;have m:=dD c;have j:Xo (Box s B [O (Xa ⟨g,0,Xb⟩) n f,I6 (((i:Int)+1) %(n:Int))]):=r.beside b (fun w a=>by cases a;exact p)
   have h:Xo (Below v W s):=Below.grown d b (Hm (bS d.out)) (fun w a=>by cases a;exact C)
   clear c b u8 u9 z;go_wp2
   go_ret2
   exact⟨Rr x.out,Ry k.out j,m,h⟩
 
 have x:Xo (zj1 q=Xd):=dD<|by rw[y.out];simp[D]
 skip
 go_wp2_with (refine zt (E:=qi) rfl (.tmp 32) (.const (Xh Xd)) 4 rfl base (O (Xa ⟨g,0,Xb⟩) n f) fs l g i 9 rfl q (frU q) u.out [Xh Xd] Kr rfl (Yd rfl) (by intro A t;simp at t;subst t;rfl) _ rfl (by simp[qi]) _ rfl rfl ?_)
 intro s c b _;have m:=dD c;have j:Xo (Box s B [O (Xa ⟨g,0,Xb⟩) n f,I6 (((i:Int)+1) %(n:Int))]):=r.beside b (fun w a=>by cases a;exact p)
 have h:Xo (Below v W s):=Below.grown d b (Hm (bS d.out)) (fun w a=>by cases a;exact C)
 clear c b u8 u9 z;go_wp2
 go_ret2
 exact⟨Rr x.out,Ry k.out j,m,h⟩
def jA:Nat->List Fr->Nat->List Fr × Nat × Int
 | 0,fs,h=>(fs,h,-1)
 | m+1,fs,h=>if zj1 (fs.getD h fr0)then(fs.set h (frU (fs.getD h fr0)),(h+1) % fs.length,(h:Int))else jA m (fs.set h (frU (fs.getD h fr0))) ((h+1) % fs.length)
def zaV (fs:List Fr) (h:Int):List Fr × Nat × Int:=jA (2*fs.length) fs h.toNat
def zb5 (fs:List Fr) (h:Int):List Fr:=if Zi fs h=0 then(zaV fs h).1 else []
def zdq (fs:List Fr) (h:Int):Int:=if Zi fs h=0 then((zaV fs h).2.1:Int)else 0
def JM (fs:List Fr) (h:Int):Int:=if Zi fs h=0 then(zaV fs h).2.2 else 0
theorem zso (a) (c:Nat) (fs:List Fr) (l:Nat) (w:Xn) (aq:zj qi w (O a fs.length c) fs) (S:Zi fs (l:Int)=0):
  Xp prog 198 #[Xi #[O a fs.length c,I6 (l:Int)]] w fun e w'=>∃b,e= Xl (Xm #[Xi #[b,I6 ((jA (2*fs.length) fs l).2.1:Int)],I6 (jA (2*fs.length) fs l).2.2,I6 0])/\zb qi w.heap.size w' b (jA (2*fs.length) fs l).1/\zc w w':=by
 have a3:=dD aq;have ah:∀W,zc w W->Xp prog 58 #[Xi #[O a fs.length c,I6 (l:Int)]] W fun e w'=>e= Xl (I6 (Zi fs (l:Int)))/\zc W w':=fun W ae=>by rw[S];exact ZX a c fs _ W (a3.aA ae) S
 have ag:∀W,zc w W->Xp prog 51 #[Xi #[O a fs.length c,I6 (l:Int)]] W fun e w'=>∃b,e= Xl (Xi #[b,I6 (l:Int)])/\zb qi W.heap.size w' b fs/\zc W w':=fun W ae=>QF a c fs _ W (a3.aA ae)
 obtain⟨P,_,_,A⟩:=jn S;have bb:=enters_of func228 Kr rfl
 clear aq;obtain⟨n,a1⟩:=kA fs.length;simp only[a1.out,S]at ah a3 ag P A⊢;clear S;obtain⟨V,G⟩:=kA (jA (2*n) fs l);rw[G.out];obtain⟨b9,p⟩:=kB ((w.alloc (Xk #[O a n c,I6 (l:Int)] 32)).alloc (Xk #[eS,I6 0] 32));have r:=gD2 p
 have X:=x2a p
 have am:=x2b p
 have a4:=dD p;clear p
 go_enter func198,ntmps198
 go_upto_region 1 with fail;rw[a4.out];obtain⟨aa,ab⟩:=X.k2;go_wp2_with fail;refine(ah _ r).mono ?_;rintro e x ⟨rfl,ao⟩;have B:=dD ao;clear ao aa ab ah;obtain⟨aa,ab⟩:=(X.aA B).k2;go_wp2_with fail;refine(ag _ (r.trans B)).mono ?_;rintro e L ⟨b,rfl,i,ad⟩;obtain⟨D,m,rfl⟩:=i.form;rw[a1.out]at i⊢;have ay:=dD i;have aj:=dD (B.trans ad);have ac:=dD<|bS ad;have a7:=dD<|(am.aA B).lt;have a6:=dD<|bS (r.trans B);clear i ad aa ab ag;obtain⟨M,k⟩:=kB (L.alloc (Xk #[O D n m,I6 (l:Int)] 32));have an:=xT k
 have K:Xo (zb qi x.heap.size M (O D n m) fs):=dD<|by rw[<-k];exact ay.aA (za _ _)
 have a9:Xo (Box M (w.heap.size+1) [eS,I6 0]):=dD<|by rw[<-k];exact(am.aA aj).alloc _
 have au:Xo (zc w M):=dD<|by rw[<-k];exact(r.trans aj).trans (za _ _)
 have a5:=dD k;clear k;go_wp2;rw[a5.out]
 go_loopg [8,9,23] (2*n) (fun az _ _ ai wr=>∃(h d:Nat) (g:List Fr),h<=2*n/\2*n - h<=az/\ai=I6 h/\d<max n 1/\Xo (g.length=n)/\Xo (Box wr L.heap.size [O D n m,I6 (d:Int)])/\Xo (zb qi x.heap.size wr (O D n m) g)/\Xo (Below x.heap.size M wr)/\Xo (jA (2*n - h) g d=V))
 exact⟨0,l,fs,nZ _,Wm,rfl,Wm,a1,an.box,K,bR _ _,G⟩
 obtain⟨h,d,g,b1,bc,rfl,b0,C,I,U,Z,Y⟩:=hrel;have u:=a7.out;have t:=a6.out;have j:=dD<|a9.below Z u;have ak:=dD<|Below.trans au (Z.mono t)
 by_cases b2:h<2*n
 ·have R:(h:Int)<2*(n:Int):=Wm
  obtain⟨s,ba,ap⟩:=U.aJ (by rw[C.out];omega)
  rw[C.out]at ap;cases ap;obtain⟨q,al⟩:∃q,Xo (g[d]? =Xa q):=⟨_,gE (by rw[C.out];omega)⟩
  have af:=U.lt s rfl;have a2:Xo (L.heap.size≠s):=(K.ne an Dc s rfl)
  have f:=zpo L.heap.size s n m d x.heap.size x.heap.size g q wr C P al I U a2 ac.out af.1;have Q:g.getD d fr0=q:=by rw[gD,al.out];rfl
  have H:Xo (jA (2*n - h) g d=if zj1 q then(g.set d (frU q),(d+1) % n,(d:Int))else jA (2*n -(h+1)) (g.set d (frU q)) ((d+1) % n)):=dD<|by
   rw[show 2*n - h=(2*n -(h+1))+1 by omega,jA,Q,C.out]
  clear Q
  cases E:zj1 q with
  | true=>
   rw[E]at f;have F:Xo (V=(g.set d (frU q),(d+1) % n,(d:Int))):=dD<|by rw[<-Y.out,H.out,E,kE rfl]
   clear E
   go_wp2_with (go_at_call 228;refine f.mono ?_;rintro e z ⟨rfl,N,T,y⟩;obtain⟨b5,b7⟩:=(j.below y u).k2;have b8:=(j.below y u).f;obtain⟨b3,b4⟩:=N.k2;have a8:Xo (zb qi x.heap.size z (O (Xa ⟨s,0,Xb⟩) n m) (g.set d (frU q))):=T;have a0:Xo (zc w z):=show zc w z from Below.trans ak (y.mono t);clear T y)
   refine bodyPost_ret (v:= Xm #[Xi #[O (Xa ⟨s,0,Xb⟩) n m,I6 (((d+1) % n:Nat):Int)],I6 (d:Int),I6 0]) (by simp[results,Tryz.results198,go_sem, *]) rfl ⟨O (Xa ⟨s,0,Xb⟩) n m,?_,?_,?_⟩
   ·rw[F.out]
   ·rw[F.out];exact((a8.setCell (a:=⟨w.heap.size+1,0,Xb⟩) (by show w.heap.size+1<_;omega) _).setCell (a:=⟨w.heap.size+1,1,Xb⟩) (by show w.heap.size+1<_;omega) _).base t
   exact zK (zK a0 Sm _) Sm _
  | false=>
   rw[E]at f;have aw:Xo (jA (2*n -(h+1)) (g.set d (frU q)) ((d+1) % n)=V):=dD<|by rw[<-Y.out,H.out,E];rfl
   clear E
   go_wp2_with (go_at_call 228;refine f.mono ?_;rintro e z ⟨rfl,N,T,y⟩;have ar:Xo (Box z L.heap.size [O (Xa ⟨s,0,Xb⟩) n m,I6 (((d+1) % n:Nat):Int)]):=N;have a8:Xo (zb qi x.heap.size z (O (Xa ⟨s,0,Xb⟩) n m) (g.set d (frU q))):=T;have ax:Xo (Below x.heap.size M z):=Below.trans Z y;clear N T y)
   go_roundg (2*n -(h+1));exact⟨h+1,(d+1) % n,g.set d (frU q),Wm,Wm,Gn,(by have:=Yv (d+1) (show 0<n by omega);omega),(show(g.set d (frU q)).length=n by rw[Yh];exact C),ar,a8,ax,aw⟩;omega
 have R:¬(h:Int)<2*(n:Int):=Wm
 have:h=2*n:=Wm
 subst this;have F:Xo (V=(g,d,-1)):=dD<|by rw[<-Y.out,Oo];rfl
 obtain⟨b5,b7⟩:=j.k2;have b8:=j.f;obtain⟨b3,b4⟩:=I.k2;go_wp2;refine bodyPost_ret (v:= Xm #[Xi #[O D n m,I6 (d:Int)],I6 (-1),I6 0]) (by simp[results,Tryz.results198,go_sem, *]) rfl ⟨O D n m,?_,?_,?_⟩
 ·rw[F.out]
 ·rw[F.out];exact((U.setCell (a:=⟨w.heap.size+1,0,Xb⟩) (by show w.heap.size+1<_;omega) _).setCell (a:=⟨w.heap.size+1,1,Xb⟩) (by show w.heap.size+1<_;omega) _).base t
 exact zK (zK ak Sm _) Sm _
theorem zpr (a) (c:Nat) (fs:List Fr) (h:Int) (w:Xn) (f:zj qi w (O a fs.length c) fs) (d:Zi fs h=0):
  Xp prog 198 #[Xi #[O a fs.length c,I6 h]] w fun e w'=>∃b,e= Xl (Xm #[Xi #[b,I6 (zdq fs h)],I6 (JM fs h),I6 (Zi fs h)])/\zb qi w.heap.size w' b (zb5 fs h)/\zc w w':=by
 unfold zdq JM zb5 zaV;rw[kE d,kE d,kE d];obtain⟨g,rfl⟩:=Int.eq_ofNat_of_zero_le (jn d).2.2.1;rw[tN,d];exact zso a c fs g w f d
variable{X:Nat->Prop}
def jK (m:Ma):Ma:={ m with fs:=zb5 m.fs m.aB,aB:=zdq m.fs m.aB }
theorem zsv {w:Xn} {p:Nat} (h:ChW w0 X p w V m) (c:Zi m.fs m.aB=0):
  Xp prog 198 #[Xi #[V.f.x,I6 m.aB]] w fun e w'=>∃b:Sli,e= Xl (Xm #[Xi #[b.x,I6 (zdq m.fs m.aB)],I6 (JM m.fs m.aB),I6 0])/\zb qi w.heap.size w' (b.x) (zb5 m.fs m.aB)/\zc w w':=by
 obtain⟨a,-⟩:=h.at.ns;have k:=h.at.fs;(try simp only[Sli.x]at k⊢);rw[a]at k⊢;refine(zpr V.f.a V.f.c m.fs m.aB w k c).mono ?_;rintro e w' ⟨b,rfl,d,h⟩;have a:zb qi w.heap.size w' b (zb5 m.fs m.aB):=d;obtain⟨f,g,rfl⟩:=a.form;rw[c];exact⟨⟨f,_,g⟩,rfl,d,h⟩
theorem zg7:∀(m:Nat) (fs:List Fr) (h:Nat),h<fs.length->(∀q∈fs,q=frF)->jA m fs h=(fs,(h+m) % fs.length,-1)
 | 0,fs,h,a,_=>by
  rw[jA,Yw,Ye a]
 | m+1,fs,h,a,b=>by
  have d:fs.getD h fr0=frF:=by
   rw[gD,gE a];exact b _ (List.getElem_mem a)
  have e:fs.set h (frU frF)=fs:=by
   apply Yk
   intro j
   by_cases c:j=h
   ·subst c;rw[sF a,gE a,b _ (List.getElem_mem a)];rfl
   rw[sN (Ne.symm c)]
  rw[jA,d,show zj1 frF=Xd from rfl,e]
  rw[kF Dc,zg7 m fs ((h+1) % fs.length) (Yv _ Wm) b]
  rw[Yx,Nat.add_assoc,Nat.add_comm 1 m]
theorem znF {q:Fr} (a:frW q=0) (b:q.r=0):q=frF:=by grind [frW,inB,zbI,frF,zf1]
def zoN (q:Fr):Bool:=decide (0<q.r)
theorem zk1 {fs:List Fr} {h:Int} (a:Zi fs h=0) (e:fs.any zoN=Xd):zaV fs h=(fs,h.toNat,-1):=by
 obtain⟨b,c,b,b⟩:=jn a;have a:∀q∈fs,q=frF:=fun q b=>by
  have d:=List.any_eq_false.1 e q b;unfold zoN at d;have d:=(zbH (c q b)).1
  grind [znF]
 unfold zaV
 by_cases b:fs.length=0
 ·rw[b];rfl
 rw[zg7 _ fs h.toNat Wm a,Nat.add_comm,Nat.two_mul,Nat.add_assoc,Nat.add_mod_left,Nat.add_mod_left,Ye Wm]
def zbR (fs gs:List Fr):Prop:=gs.length=fs.length/\∀(i:Nat) q,fs[i]? =Xa q->∃q',gs[i]? =Xa q'/\(q'=q\/q'=frU q)
theorem zbR.refl (fs):zbR fs fs:=⟨rfl,fun _ q h=>⟨q,h,.inl rfl⟩⟩
theorem zbR.set {fs a:List Fr} (h:zbR fs a) (i:Nat):zbR fs (a.set i (frU (a.getD i fr0))):=by
 refine⟨Rx Yh h.1,fun j q c=>?_⟩
 obtain⟨d,a,b⟩:=h.2 j q c
 by_cases e:j=i
 ·subst e;have c:=(gS.1 a).1;refine⟨frU d,?_,?_⟩
  ·grind
  right
  rcases b with rfl|rfl <;> rfl
 grind
theorem zaW:∀(m:Nat) (fs b:List Fr) (h:Nat),zbR fs b->h<b.length->∀(a:List Fr) (c:Nat) (r:Int),jA m b h=(a,c,r)->zbR fs a/\c<a.length/\(r=-1\/∃(k:Nat) (q:Fr),r=(k:Int)/\fs[k]? =Xa q/\0<q.r/\a[k]? =Xa (frU q)/\c=(k+1) % fs.length)
 | 0,fs,b,h,f,l,a,c,r,e=>by
  rw[jA]at e;cases e;exact⟨f,l,.inl rfl⟩
 | m+1,fs,b,h,f,l,a,c,r,e=>by
  rw[jA]at e;have j:=f.set h;have i:(h+1) % b.length< (b.set h (frU (b.getD h fr0))).length:=by
   rw[Yh];exact Yv _ Wm
  by_cases d:zj1 (b.getD h fr0)=Xc
  ·rw[kE d]at e;cases e;refine⟨j,i,.inr ?_⟩;have g:h<fs.length:=Ry f.1 l
   obtain⟨s,t,n⟩:=f.2 h fs[h] (gE g);have p:b.getD h fr0=s:=by rw[gD,t];rfl
   rw[p]at d;have b:0<s.r:=by unfold zj1 at d;simp at d;exact d.1
   refine⟨h,fs[h],rfl,gE g,?_,?_,by rw[f.1]⟩
   ·rcases n with rfl|rfl
    ·exact b
    exact b
   rw[sF l,p]
   rcases n with rfl|rfl <;> rfl
  rw[kF d]at e;exact zaW m fs _ _ j i a c r e
theorem zlj {fs:List Fr} (b:∀q∈fs,0<=q.r):fs.countP zoN+jo fs=fs.length:=by
 induction fs with
 | nil=>rfl
 | cons a l d=>
  have c:=d fun q d=>b q (by simp[d])
  have d:=b a Sm
  unfold jo at c⊢;rw[Yo,Yo,Yp]
  by_cases b:a.r=0
  ·grind [zoN]
  grind [zoN]
theorem zeR:∀(d m:Nat) (a:List Fr) (h:Nat),h<a.length->d<m->zoN (a.getD ((h+d) % a.length) fr0)=Xc->(a.getD ((h+d) % a.length) fr0).u=Xd->(jA m a h).2.2≠-1
 | d,0,_,_,_,l,_,_=>Wm
 | d,m+1,a,h,f,l,b,j=>by
  rw[jA]
  by_cases hi:zj1 (a.getD h fr0)=Xc
  ·rw[kE hi];simp only;omega
  rw[kF hi]
  cases d with
  | zero=>
   rw[Yw,Ye f]at b j;unfold zj1 at hi;unfold zoN at b;rw[b,j]at hi;exact absurd rfl hi
  | succ d=>
   have g:(a.set h (frU (a.getD h fr0))).length=a.length:=Yh;have c:∀i,(a.set h (frU (a.getD h fr0))).getD i fr0=if i=h/\h<a.length then frU (a.getD h fr0)else a.getD i fr0:=fun i=>by
    rw[gD]
    by_cases e:i=h
    ·subst e;rw[kE ⟨rfl,f⟩,sF f];rfl
    rw[kF Wm,sN (Ne.symm e),<-gD]
   have k:((h+1) % a.length+d) % a.length=(h+(d+1)) % a.length:=by rw[Yx,show h+1+d=h+(d+1) by omega]
   refine zeR d m _ _ (by rw[g];exact Yv _ Wm) Wm ?_ ?_
   ·rw[g,k,c]
    split
    ·rename_i e
     rw[e.1]at b;exact b
    exact b
   rw[g,k,c]
   split
   ·rfl
   exact j
theorem zdr:∀(d m:Nat) (a:List Fr) (h:Nat),h<a.length->d+a.length<m->zoN (a.getD ((h+d) % a.length) fr0)=Xc->(jA m a h).2.2≠-1
 | d,0,_,_,_,k,_=>Wm
 | d,m+1,a,h,c,k,f=>by
  rw[jA]
  by_cases hi:zj1 (a.getD h fr0)=Xc
  ·rw[kE hi];simp only;omega
  rw[kF hi];have e:(a.set h (frU (a.getD h fr0))).length=a.length:=Yh;have b:∀i,(a.set h (frU (a.getD h fr0))).getD i fr0=if i=h/\h<a.length then frU (a.getD h fr0)else a.getD i fr0:=fun i=>by
   rw[gD]
   by_cases g:i=h
   ·subst g;rw[kE ⟨rfl,c⟩,sF c];rfl
   rw[kF Wm,sN (Ne.symm g),<-gD]
  cases d with
  | zero=>
   rw[Yw,Ye c]at f;have j:((h+1) % a.length+(a.length - 1)) % a.length=h:=by
    rw[Yx,show h+1+(a.length - 1)=h+a.length by omega,Nat.add_mod_right,Ye c]
   refine zeR (a.length - 1) m _ _ (by rw[e];exact Yv _ Wm) Wm ?_ ?_
   ·rw[e,j,b,kE ⟨rfl,c⟩];exact f
   rw[e,j,b,kE ⟨rfl,c⟩];rfl
  | succ d=>
   have j:((h+1) % a.length+d) % a.length=(h+(d+1)) % a.length:=by rw[Yx,show h+1+d=h+(d+1) by omega]
   refine zdr d m _ _ (by rw[e];exact Yv _ Wm) (by rw[e];omega) ?_
   rw[e,j,b]
   split
   ·rename_i g
    rw[g.1]at f;exact f
   exact f
theorem zk0 {fs:List Fr} {h:Int} (a:Zi fs h=0):
  (JM fs h=-1/\jo fs=fs.length)\/∃(k:Nat) (q:Fr),JM fs h=(k:Int)/\fs[k]? =Xa q/\0<q.r/\zbR fs (zb5 fs h)/\(zb5 fs h)[k]? =Xa (frU q)/\zdq fs h=(((k+1) % fs.length:Nat):Int):=by
 obtain⟨b,b,c,c⟩:=jn a;have d:JM fs h=(zaV fs h).2.2:=kE a;have c:zb5 fs h=(zaV fs h).1:=kE a;have c:zdq fs h=((zaV fs h).2.1:Int):=kE a
 cases c:fs.any zoN with
 | false=>
  left;rw[d,zk1 a c];refine⟨rfl,?_⟩;have a:=zlj (fs:=fs) (fun q l=>(zbH (b q l)).1)
  have a:fs.countP zoN=0:=by grind
  omega
 | true=>
  right;obtain⟨a,a,f⟩:=Xu.1 c;obtain⟨i,j⟩:=Xz a;have e:=(gS.1 j).1;have c:h.toNat<fs.length:=Wm
  obtain⟨b,d,r,g⟩:∃b d r,jA (2*fs.length) fs h.toNat=(b,d,r):=⟨_,_,_,rfl⟩;have a:r≠-1:=by
   have a:=zdr ((i+fs.length - h.toNat) % fs.length) (2*fs.length) fs h.toNat c (by have:=Yv (i+fs.length - h.toNat) (show 0<fs.length by omega);omega) (by
    rw[Nat.add_mod_mod,show h.toNat+(i+fs.length - h.toNat)=i+fs.length by omega,Nat.add_mod_right,Ye e,gD,j]
    exact f)
   rw[g]at a;exact a
  obtain⟨a,a,a⟩:=zaW (2*fs.length) fs fs h.toNat (zbR.refl fs) c b d r g
  rcases a with a|⟨k,q,rfl,l,a,a,rfl⟩
  ·grind
  grind [zaV]
theorem ze6 {e:En} (a:enW e=0):∀(l:List (Nat × Nat)) {m:Ma},(∀s∈m.sp,Qy s.tb)->(∀x∈l,x.1<m.sp.length/\x.2<64)->QN m e l=Zl m e l
 | [],m,_,_=>rfl
 | x :: l,m,c,b=>by
  obtain⟨d,f⟩:=b x (Yu ..)
  show QN (jv m x.1 (x.2:Int) e) e l=Zl (zaF m x.1 x.2 e) e l
  rw[QM c d f a];exact ze6 a l (zcV c a) (fun y a=>by rw[zbZ];exact b y (List.mem_cons_of_mem _ a))
theorem zgV {e:En}:∀(l:List (Nat × Nat)) {m m0:Ma},m.sp=m0.sp->(Zl m e l).sp=(Zl m0 e l).sp
 | [],_,_,h=>h
 | x :: l,m,m0,h=>zgV l (m:=zaF m x.1 x.2 e) (m0:=zaF m0 x.1 x.2 e) (by unfold zaF;simp only;rw[h])
theorem zbD (h:Rt m) {k:Nat} {fr:Fr} (b:m.fs[k]? =Xa fr) (a:fr.r≠0):0<=fr.r/\fr.r<=1000/\Zj m.fs m.aB (k:Int) (-fr.r)=0:=by
 obtain⟨a,c⟩:=zbH ((jn h.parts.1).2.1 fr (mG b));refine⟨a,c,?_⟩;have a:m.fs.getD k fr0=fr:=by rw[gD,b];rfl
 have c:=(gS.1 b).1;unfold Zj;rw[kE h.parts.1,tN,a]
 grind [inB]
theorem zjX {m0:Ma} (h:Rt m0) (b:m.sp=m0.sp) (c:m.fs=m0.fs) (g:m.aB=m0.aB) {k:Nat} {fr:Fr} (f:m0.fs[k]? =Xa fr) (a:fr.r≠0) {e:En} (d:enW e=0):
  zaG m k fr.r e={ m with fs:=m.fs.set k frF,sp:=m.sp.map (j7 (k:Int) e) }:=by
 obtain⟨_,_,c⟩:=zbD h f a;have i:∀s∈m.sp,Qy s.tb:=fun s a=>h.tb (Ry b a)
 have c:q8 m 1 (k:Int) m.sp.length=q8 m0 1 (k:Int) m0.sp.length:=by unfold q8;rw[b]
 have a:∀x∈q8 m0 1 (k:Int) m0.sp.length,x.1<m.sp.length/\x.2<64:=fun x g=>by
  obtain⟨j,j,_⟩:=(JT (m:=m0) Dc (nR _)).1 g
  grind
 have g:(Zl m e (q8 m0 1 (k:Int) m0.sp.length)).sp=m.sp.map (j7 (k:Int) e):=by rw[zgV _ b,zpI h d,b]
 have b:m0.fs.getD k fr0=fr:=by rw[gD,f];rfl
 unfold zaG;rw[c,ze6 d _ i a,zdk]
 grind [QI,tN,frH,frF]
def JD (k:Nat) (fr:Fr) (l:List (Nat × Nat)) (q:Nat) (s:Sp) (a:Ar) (n:Nat):Bool:=decide ((qp a n).file=fr.f) && decide ((qp a n).aG=fr.x) && !(l.contains (q,n)) &&(decide ((zh s n).kind=0) || isE (zh s n) 1 (k:Int))
def zgI (m:Ma) (k:Nat) (fr:Fr) (l:List (Nat × Nat)):Bool:=(List.range m.sp.length).any fun q=>(m.sp.getD q ⟨Xd,[],[]⟩).aD.any fun a=>(List.range 64).any fun n=>Jt a n && JD k fr l q (m.sp.getD q ⟨Xd,[],[]⟩) a n
theorem zbk {k:Nat} {fr:Fr} {l:List (Nat × Nat)} {q:Nat} {s:Sp} {a:Ar} {n:Nat}:JD k fr l q s a n=Xc↔zju k fr l q s a n:=by
 unfold JD zju
 simp[and_assoc]
theorem zdf {k:Nat} {fr:Fr} {l:List (Nat × Nat)}:zgI m k fr l=Xc↔∃(q:Nat) (s:Sp) (i:Nat) (a:Ar) (n:Nat),m.sp[q]? =Xa s/\s.aD[i]? =Xa a/\Jt a n=Xc/\n<64/\zju k fr l q s a n:=by
 unfold zgI;constructor
 ·intro h;obtain⟨q,d,h⟩:=Xu.1 h;obtain⟨a,b,h⟩:=Xu.1 h;obtain⟨n,e,h⟩:=Xu.1 h;obtain⟨i,c⟩:=Xz b;have b:=Yc.1 d;have d:=gE b;rw[Sp.aP d]at c h;rw[Bool.and_eq_true]at h;exact⟨q,_,i,a,n,d,c,h.1,Yc.1 e,zbk.1 h.2⟩
 rintro⟨q,s,i,a,n,b,c,d,e,f⟩;refine Xu.2 ⟨q,Yc.2 (gS.1 b).1,?_⟩;rw[Sp.aP b];refine Xu.2 ⟨a,mG c,Xu.2 ⟨n,Yc.2 e,?_⟩⟩;rw[Bool.and_eq_true];exact⟨d,zbk.2 f⟩
def zfb (m:Ma) (fr:Fr):List Int:=qJ (pgL fr.p) fr.x (qW m fr.f)
def Jn (m:Ma):Nat:=m.sl.findIdx isZ
def zbi (m:Ma) (k:Nat) (fr:Fr):Bool × Ma:=if Jn m<m.sl.length then(Xc,ZR m k (Jn m) fr.r (qn m.sb m.sq) (qh m.sq (Jn m:Int) (pgL fr.p)))else(Xd,m)
def zdS (m:Ma) (k:Nat) (fr:Fr) (l:List (Nat × Nat)):Bool × Ma:=
 if zfb m fr≠pgL fr.p/\zgI m k fr l=Xc then(Xd,m)
 else if fr.d=Xc\/z9 m fr.f fr.x≠zfb m fr then
  (if Zh m.fl m.cnt fr.f fr.x=0 then(Xc,z2 (wrM m (zfb m fr) fr.f fr.x) k)else if z9 m fr.f fr.x=zfb m fr then(Xc,z2 m k)else(Xd,m))
 else(Xc,z2 m k)
def jw (m:Ma) (k:Nat) (fr:Fr) (l:List (Nat × Nat)):Bool × Ma:=if fr.f=-1 then zbi m k fr else zdS m k fr l
def Z8:Nat->Ma->List (Nat × Nat)->Bool × Ma
 | 0,m,_=>(Xd,m)
 | n+1,m,l=>
  if JM m.fs m.aB<0 then(Xd,jK m)
  else if(jw (jK m) (JM m.fs m.aB).toNat (zQ (jK m) (JM m.fs m.aB)) l).1=Xc then jw (jK m) (JM m.fs m.aB).toNat (zQ (jK m) (JM m.fs m.aB)) l
  else Z8 n (jK m) l
def Qf (m:Ma) (l:List (Nat × Nat)):Bool × Ma:=Z8 (2*m.fs.length) m l
section
variable{m:Ma} {k:Nat} {fr:Fr}
theorem Rt.frw (h:Rt m) (a:m.fs[k]? =Xa fr):frW fr=0:=(jn h.parts.1).2.1 fr (mG a)
theorem zk7 (S:Nat->Nat->Prop) (f:Rt m) {a:List Fr} (h:zbR m.fs a):Qd S m { m with fs:=a }:=by
 have j:∀i,i<=m.fs.length->Qd S m { m with fs:=a.take i++m.fs.drop i }:=by
  intro i
  induction i with
  | zero=>
   intro _;have:a.take 0++m.fs.drop 0=m.fs:=Sm
   rw[this];exact Qd.refl f
  | succ i b=>
   intro c;have g:=b Wm
   obtain⟨q,l⟩:∃q,m.fs[i]? =Xa q:=⟨_,gE Wm⟩
   obtain⟨c,b,k⟩:=h.2 i q l;have e:=h.1;have e:(a.take i).length=i:=by rw[Xs];omega
   have r:(a.take i++m.fs.drop i)[i]? =Xa q:=by grind
   have n:a.take (i+1)++m.fs.drop (i+1)=(a.take i++m.fs.drop i).set i c:=by
    rw[List.set_append,kF Wm,e,Oo,Yl,b,Oc]
    congr 1
    rw[List.drop_eq_getElem_cons (by omega:i<m.fs.length),sZ]
    rfl
   rw[n]
   by_cases n:q.r=0
   ·have p:=znF (f.frw l) n;have b:c=q:=by
     rcases k with e|e
     ·exact e
     rw[e,p];rfl
    have f:(a.take i++m.fs.drop i).set i c=a.take i++m.fs.drop i:=by
     rw[b]
     apply Yk
     intro a
     by_cases e:i=a
     ·grind
     grind
    rw[f];exact g
   have b:c={ q with u:=c.u,d:=q.d }:=by
    rcases k with e|e
    ·rw[e]
    rw[e];rfl
   rw[b];exact g.trans (zeS S g.rt r n c.u q.d)
 have:=j m.fs.length (nR _);rw[List.drop_length,List.append_nil,Xy (by rw[h.1];exact nR _)]at this
 exact this
theorem zk8 {fs a:List Fr} (d:zbR fs a):jo a=jo fs:=by
 unfold jo;have b:a.map (fun f=>decide (f.r=0))=fs.map (fun f=>decide (f.r=0)):=by
  apply Yk
  intro i;rw[Ob,Ob]
  cases c:fs[i]? with
  | none=>
   have:a[i]? =Xb:=by rw[List.getElem?_eq_none_iff]at c⊢;rw[d.1];exact c
   rw[this]
  | some q=>
   obtain⟨a,b,a⟩:=d.2 i q c;rw[b]
   rcases a with e|e <;> rw[e] <;> rfl
 have a:=congrArg (List.countP id) b;rw[List.countP_map,List.countP_map]at a;exact a
theorem zg8 (S:Nat->Nat->Prop) (h:Rt m):Qd S m (jK m)/\jo (jK m).fs=jo m.fs/\((JM m.fs m.aB=-1/\jo m.fs=m.fs.length)\/∃(k:Nat) (fr:Fr),JM m.fs m.aB=(k:Int)/\(jK m).fs[k]? =Xa fr/\fr.r≠0):=by
 have c:=h.parts.1;obtain⟨a,a,a,a⟩:=jn c;have a:zb5 m.fs m.aB=(zaV m.fs m.aB).1:=kE c;have b:zdq m.fs m.aB=((zaV m.fs m.aB).2.1:Int):=kE c;have d:zbR m.fs (zb5 m.fs m.aB)/\0<=zdq m.fs m.aB/\zdq m.fs m.aB<max (m.fs.length:Int) 1:=by
  rw[a,b]
  by_cases a:m.fs.length=0
  ·have:zaV m.fs m.aB=(m.fs,m.aB.toNat,-1):=by unfold zaV;rw[a];rfl
   rw[this];exact⟨zbR.refl _,by simp only;omega,by simp only;omega⟩
  obtain⟨a,b,r,e⟩:∃a b r,jA (2*m.fs.length) m.fs m.aB.toNat=(a,b,r):=⟨_,_,_,rfl⟩;obtain⟨f,g,_⟩:=zaW _ m.fs m.fs m.aB.toNat (zbR.refl _) Wm a b r e
  have:zaV m.fs m.aB=(a,b,r):=e;rw[this];have:=f.1
  grind
 obtain⟨a,e,f⟩:=d;have b:=zk7 S h a;have d:Qd S { m with fs:=zb5 m.fs m.aB } (jK m):=znz S b.rt e (by show _<max ((zb5 m.fs m.aB).length:Int) 1;rw[a.1];exact f)
 refine⟨b.trans d,zk8 a,?_⟩
 rcases zk0 c with⟨a,b⟩ | ⟨k,q,a,b,b,b,b,c⟩
 ·grind
 exact .inr ⟨k,frU q,a,b,by show q.r≠0;omega⟩
theorem zqX (a:Jn m<m.sl.length):m.sl[Jn m]? =Xa 0:=by
 have b:(m.sl[Jn m] == 0)=Xc:=Ok (w:=a);rw[gE a,eq_of_beq b]
theorem zmA (S:Nat->Nat->Prop) (h:Rt m) (d:m.fs[k]? =Xa fr) (c:fr.f=-1) (e:fr.r≠0):Qd S m (zbi m k fr).2:=by
 unfold zbi
 by_cases b:Jn m<m.sl.length
 ·rw[kE b];have a:=h.inv.bI;have a:zg m.sb.length m.sq ((Jn m:Nat):Int)=0:=by
   unfold zg;rw[kE h.inv.sq,kE (by simp[j0];omega)]
  exact zmB S h d c e (zqX b) (jE _ _) (jx a) (zaa a).2 (fun i _ b=>Zn a b)
 grind [Qd.refl]
theorem zfo (S:Nat->Nat->Prop) (h:Rt m) {c:Ca} {F:Fl} (t:c∈m.ca) (hi:zoS m c k fi ix fr F) (a:Zh m.fl m.cnt fr.f fr.x=0) (pg):∃b:Nat,wrM m pg fr.f fr.x=ZK m fi ix F (b:Int) (qn m.db m.dq) (qh m.dq (b:Int) pg)/\Qd S m (ZK m fi ix F (b:Int) (qn m.db m.dq) (qh m.dq (b:Int) pg))/\zS (qn m.db m.dq) (qh m.dq (b:Int) pg) (b:Int)=pg/\(b:Int)<m.cnt/\(∀(i j:Nat) g,m.fl[i]? =Xa g->g.bl[j]? =Xa (b:Int)->i=fi/\j=ix):=by
 have e:=a;rw[hi.ff,hi.fx]at a;obtain⟨b,l,f,n,p,q⟩:=zop h hi.fl hi.bl a;obtain⟨a,a,r⟩:=qk h.inv.aU;have a:=h.inv.cnt;have a:zg m.db.length m.dq (b:Int)=0:=by
  unfold zg;rw[kE h.inv.aU,kE (by simp[j0];omega)]
 have d:=h.inv.st;have s:wrM m pg fr.f fr.x=ZK m fi ix F (b:Int) (qn m.db m.dq) (qh m.dq (b:Int) pg):=by
  unfold wrM ZK;rw[kE e,hi.ff,hi.fx,f,n,p]
  grind [qt,qr]
 have f:stW (m.fl.set fi ⟨F.size,F.bl.set ix (b:Int)⟩) m.cnt=0/\(∀x,zR (m.fl.set fi ⟨F.size,F.bl.set ix (b:Int)⟩) x=Xc↔(zR m.fl x=Xc/\x≠-1)\/x=(b:Int)\/(x=-1/\zR (m.fl.set fi ⟨F.size,F.bl.set ix (b:Int)⟩) x=Xc))/\(F.bl[ix]? =Xa (b:Int)\/zR m.fl (b:Int)=Xd)/\∀(i j:Nat) g,m.fl[i]? =Xa g->g.bl[j]? =Xa (b:Int)->i=fi/\j=ix:=by
  rcases q with e|⟨e,j⟩
  ·obtain⟨n,p,q⟩:=zd2 d hi.fl e
   grind
  obtain⟨n,p,q,n⟩:=zd3 d hi.fl e j
  grind
 obtain⟨u1,u2,u3,u4⟩:=f;refine⟨b,s,zlW S h hi.fl u1 u2 (jE _ _) (jx a) (zbe _ _ r) (fun q e=>?_) (fun i d=>Zn a d) u3 ⟨c,t,hi.file,hi.idx⟩ u4,(zaa a).2,l,u4⟩
 unfold qh at e
 grind [List.mem_append.1,Oj,Yz]
theorem zao (h:Rt m) (a:m.fs[k]? =Xa fr) (b:fr.f≠-1):∃(i:Nat) (c:Ca) (fi b:Nat) (F:Fl),m.ca[i]? =Xa c/\zoS m c k fi b fr F:=by
 have d:0<=fr.f:=by
  have:=h.frw a
  grind [frW,inB]
 obtain⟨i,c,e,g,g,g⟩:=Jc h a d;obtain⟨d,fi,b,f,F,b⟩:=zga h.w (mG e);have e:d=k:=Hm b.fr
 subst e;have:=b.fa.symm.trans a
 grind
theorem znZ (h:Rt m) (d:m.fs[k]? =Xa fr) (b:fr.f≠-1) (f:fr.r≠0) (l:List (Nat × Nat)):Qd (fun q j=>(q,j)∈l) m (zdS m k fr l).2:=by
 obtain⟨i,c,a,a,F,c,a⟩:=zao h d b;have x:=mG c;have b:=(gS.1 a.fl).1;have b:qW m fr.f=F.size:=by unfold qW;rw[a.ff,tN,gD,a.fl];rfl
 have g:0<=fr.f:=by rw[a.ff];omega
 unfold zdS
 by_cases p:zfb m fr≠pgL fr.p/\zgI m k fr l=Xc
 ·grind [Qd.refl]
 rw[kF p];have e:qJ (pgL fr.p) fr.x (qW m fr.f)=pgL fr.p\/∀(q:Nat) s (i:Nat) c (n:Nat),m.sp[q]? =Xa s->s.aD[i]? =Xa c->Jt c n=Xc->n<64->¬zju k fr l q s c n:=by
  by_cases b:zfb m fr=pgL fr.p
  ·exact .inl b
  exact .inr fun q s i c n r t u v w=>p ⟨b,zdf.2 ⟨q,s,i,c,n,r,t,u,v,w⟩⟩
 by_cases b:fr.d=Xc\/z9 m fr.f fr.x≠zfb m fr
 ·rw[kE b]
  by_cases c:Zh m.fl m.cnt fr.f fr.x=0
  ·rw[kE c];obtain⟨i,i,n,p,_⟩:=zfo (fun q j=>(q,j)∈l) h x a c (zfb m fr)
   simp only;rw[i];refine zgp n a.fl a.bl d a.ff a.fx f ?_ e;rw[p];unfold zfb;rw[a.fx,a.ff]
  rw[kF c]
  by_cases a:z9 m fr.f fr.x=zfb m fr
  ·rw[kE a];exact zfE h d g f a e
  grind [Qd.refl]
 rw[kF b];exact zfE h d g f (Classical.byContradiction fun a=>b (.inr a)) e
theorem zlD (h:Rt m) (a:m.fs[k]? =Xa fr) (b:fr.r≠0) (l:List (Nat × Nat)):Qd (fun q j=>(q,j)∈l) m (jw m k fr l).2:=by grind [jw,zmA,znZ]
theorem zmd (m:Ma) (pg) (file idx:Int):(wrM m pg file idx).fs=m.fs:=(zme _ _ _ _).1
theorem zke (m:Ma) (k:Nat) (fr) (l:List (Nat × Nat)):((jw m k fr l).1=Xc/\(jw m k fr l).2.fs=m.fs.set k frF)\/((jw m k fr l).1=Xd/\(jw m k fr l).2=m):=by
 unfold jw
 split
 ·unfold zbi
  split
  ·exact .inl ⟨rfl,rfl⟩
  grind
 grind [zdS,z2,zmd]
theorem zdJ (l:List (Nat × Nat)):∀(n:Nat) {m:Ma},Rt m->Qd (fun q j=>(q,j)∈l) m (Z8 n m l).2/\jo (Z8 n m l).2.fs=jo m.fs+((Z8 n m l).1).toNat
 | 0,m,h=>⟨Qd.refl h,rfl⟩
 | n+1,m,h=>by
  obtain⟨a,d,b⟩:=zg8 (fun q j=>(q,j)∈l) h
  unfold Z8
  rcases b with⟨b,_⟩|⟨k,f,b,c,e⟩
  ·rw[kE Wm]
   exact⟨a,d⟩
  rw[kF Wm,b,tN,zT c]
  rcases zke (jK m) k f l with⟨b,f⟩|⟨b,f⟩
  ·rw[kE b];refine⟨a.trans (zlD a.rt c e l),?_⟩;rw[b,f,zpS c e,d];rfl
  rw[kF (by rw[b];decide)]
  obtain⟨b,c⟩:=zdJ l n a.rt;exact⟨a.trans b,by rw[c,d]⟩
theorem znG (h:Rt m) (l:List (Nat × Nat)):Qd (fun q j=>(q,j)∈l) m (Qf m l).2/\jo (Qf m l).2.fs=jo m.fs+((Qf m l).1).toNat:=zdJ l _ h
end
end
section
theorem zrJ (h:Rt m) {q n:Nat} {s:Sp} (b:m.sp[q]? =Xa s) (r:n<64):zlF m q (n:Int)=Jp m q n:=by
 have D:∀s∈m.sp,Qy s.tb:=fun s b=>h.tb b
 have A:=(gS.1 b).1;obtain⟨e,d⟩:=kB (zh s n);have g:Jo m q (n:Int)=e:=by unfold Jo;rw[Sp.aP b,JX r,d]
 have x:m.sp.getD q ⟨Xd,[],[]⟩=s:=Sp.aP b;unfold zlF Jp;rw[g];simp only[x,d]
 by_cases i:e.kind=1
 ·obtain⟨k,t,f,c,l,w⟩:=h.aV b r (Rx d i)
  rw[d]at f l;obtain⟨B,C⟩:=h.refs c;have y:=(gS.1 c).1;have a:m.fs.getD k fr0=t:=by rw[gD,c];rfl
  have p:Qw m e (-1)={ m with fs:=m.fs.set k (Q6 t) }:=by
   have u:Zj m.fs m.aB e.n (-1)=0:=by
    unfold Zj;rw[kE h.parts.1,f,tN,a]
    grind [inB]
   grind [Qw,QI,zns,tN,frH,Q6]
  grind [tN,QM,Q6,Qg]
 rw[kF i]
 by_cases j:e.kind=2
 ·rw[kE j];obtain⟨k,z,f,c,l,w,_⟩:=h.cA b r (Rx d j)
  rw[d]at f l;obtain⟨B,C⟩:=h.slots c;have a:m.sl.getD k 0=z:=by rw[gD,c];rfl
  have p:Qw m e (-1)={ m with sl:=m.sl.set k (z - 1) }:=by
   have v:atS m.sl e.n=z:=by unfold atS;rw[f,kE Wm,tN,a]
   have u:Za m.sl e.n (-1)=0:=by
    unfold Za;rw[kE h.parts.2,v,kF Wm,kE Wm]
   grind [Qw,ZS,tN]
  grind [tN,QM,Qg]
 grind [Qw,QM,Qg]
end
section
open Go.RowKit
def zf0 (fs:List Fr):Nat:=fs.countP fun a=>a.r == 0
theorem zlo {fs:List Fr} {k:Nat} {q:Fr} (h:fs[k]? =Xa q):zf0 (fs.take (k+1))=zf0 (fs.take k)+if q.r=0 then 1 else 0:=by
 obtain⟨a,rfl⟩:=gS.1 h;rw[List.take_succ_eq_append_getElem a];unfold zf0;rw[List.countP_append,Yo,List.countP_nil];simp
theorem zhc (a) (c:Nat) (fs:List Fr) (h:Int) (w) (g:zj qi w (O a fs.length c) fs):
  Xp prog 222 #[Xi #[O a fs.length c,I6 h]] w fun e w'=>e= Xl (I6 (zf0 fs))/\zc w w':=by
 have d:=g.short;obtain⟨b,b,f,b⟩:=g.bF;cases f;have i:=dD b;clear b g;obtain⟨n,l⟩:=kA fs.length;rw[l.out]at d⊢;obtain⟨f,b⟩:=kB (w.alloc (Xk #[O a n c,I6 h] 32));have h:=gA b
 have d:=dD b;clear b
 go_enter func222,ntmps222
 go_wp2;rw[d.out]
 go_loopg [3,5,9] n (fun d g _ j wr=>∃(b m:Nat),b<=n/\n - b<=d/\m<=b/\j=I6 b/\g=I6 m/\Xo (zc f wr)/\Xo (zf0 (fs.take b)=m))
 exact⟨0,0,nZ _,Wm,nR _,rfl,rfl,zc.refl _,rfl⟩
 obtain⟨b,m,d,d,d,rfl,rfl,k,A⟩:=hrel
 by_cases d:b<n
 ·have j:=kC d
  obtain⟨q,f⟩:∃q,Xo (fs[b]? =Xa q):=⟨_,gE (Rx l.out d)⟩
  obtain⟨g,rfl,g⟩:=i.out b q f.out;obtain⟨i,i,i,i,i,i,i,i,i,i,i,i,i⟩:=g wr (h.trans k);have i:=dD<|zlo f.out;clear g
  by_cases f:q.r=0
  ·have g:Xo (zf0 (fs.take (b+1))=m+1):=dD<|by rw[i.out,A.out,kE f]
   have p:(q.r == 0)=Xc:=by simp[f]
   have r:=dD f;clear f;go_wp2
   go_roundg (n -(b+1));exact⟨b+1,m+1,Wm,Wm,Wm,Gn,Gn,k.trans (za _ _),g⟩;omega
  have g:Xo (zf0 (fs.take (b+1))=m):=dD<|by rw[i.out,A.out,kF f];rfl
  have p:(q.r == 0)=Xd:=by simp[f]
  go_wp2
  go_roundg (n -(b+1));exact⟨b+1,m,Wm,Wm,Wm,Gn,rfl,k.trans (za _ _),g⟩;omega
 have j:=kD d
 have:b=n:=Wm
 subst this;have g:Xo (zf0 fs=m):=dD<|by rw[<-A.out,Xy (by rw[l.out];exact nR _)]
 go_wp2;go_ret;exact⟨Rr g.out,h.trans k⟩
def isF (a:Fr):Bool:=a.r == 0
def frT (p:Pg) (fi ix:Int):Fr:=⟨p,1,Xc,Xd,fi,ix⟩
theorem zmw (q:Fr) (w:Xn):
  Xp prog 237 #[Xi (frv q).toArray] w fun e w'=>e= Xl (Xh (isF q))/\zc w w':=by
 show Xp prog 237 #[Xi #[U8 q.p.b0,U8 q.p.b1,U8 q.p.b2,U8 q.p.b3,U8 q.p.b4,U8 q.p.b5,U8 q.p.b6,U8 q.p.b7,I6 q.r,Xh q.u,Xh q.d,I6 q.f,I6 q.x]] w _
 go_enter func237,ntmps237
 go_wp2;go_ret;exact⟨rfl,(bR _ _).alloc (nR _) _⟩
def zqx (fs:List Fr):Int:=if fs.findIdx isF<fs.length then(fs.findIdx isF:Int)else -1
theorem zlx {fs:List Fr} {k:Nat} {q:Fr} (h:fs[k]? =Xa q) (b:isF q=Xc) (a:∀(j:Nat) x,j<k->fs[j]? =Xa x->isF x=Xd):fs.findIdx isF=k:=by grind [gS.1,List.findIdx_eq,gE]
theorem zlw {fs:List Fr} (a:∀(j:Nat) x,fs[j]? =Xa x->isF x=Xd):fs.findIdx isF=fs.length:=by
 grind [List.findIdx_eq_length.2,Xz]
theorem zdB (v fs w) (c:zj qi w v fs):
  Xp prog 236 #[v,.func (.func 237) #[] #[]] w fun e w'=>e= Xl (I6 (zqx fs))/\zc w w':=by
 have b:=c.short;obtain⟨a,a,rfl,a⟩:=c.bF;have f:=dD a;have d:=enters_of func237 Kr rfl
 clear a c;obtain⟨n,l⟩:=kA fs.length;rw[l.out]at b⊢
 go_enter func236,ntmps236
 go_wp2
 go_loopg [5,8] n (fun a _ c wr=>∃b:Nat,b<=n/\n - b<=a/\c=I6 b/\Xo (zc w wr)/\Xo (∀j q,j<b->fs[j]? =Xa q->isF q=Xd))
 exact⟨0,nZ _,Wm,rfl,zc.refl w,fun j q h=>absurd h (nL _)⟩
 obtain⟨b,a,a,rfl,k,A⟩:=hrel
 by_cases c:b<n
 ·have i:=kC c
  obtain⟨q,p⟩:∃q,Xo (fs[b]? =Xa q):=⟨_,gE (Rx l.out c)⟩
  obtain⟨a,rfl,d⟩:=f.out b q p.out;obtain⟨a,a,a,a,a,a,a,a,a,a,a,a,a⟩:=d wr k.out;have a:=zmw q wr
  clear d
  cases g:isF q with
  | true=>
   rw[g]at a;have m:Xo (zqx fs=(b:Int)):=dD<|by unfold zqx;rw[zlx p.out g A.out,l.out,kE c]
   clear g
   go_wp2_with (go_at_call 237;refine a.mono ?_;rintro e w' ⟨rfl,d⟩)
   go_ret;exact⟨Rr m.out,k.trans d⟩
  | false=>
   rw[g]at a;have r:Xo (∀(j:Nat) q,j<b+1->fs[j]? =Xa q->isF q=Xd):=dD<|fun j s h f=>by
    by_cases e:j=b
    ·subst e;rw[p.out]at f;cases f;exact g
    exact A j s Wm f
   clear g
   go_wp2_with (go_at_call 237;refine a.mono ?_;rintro e w' ⟨rfl,d⟩)
   go_roundg (n -(b+1));exact⟨b+1,Wm,Wm,Gn,k.trans d,r⟩;omega
 have i:=kD c
 have:b=n:=Wm
 subst this;have m:Xo (zqx fs=-1):=dD<|by
  unfold zqx;rw[zlw (fun j q h=>A.out j q (by rw[<-l.out];exact(gS.1 h).1) h),kF (Nat.lt_irrefl _)]
 go_wp2;go_ret;exact⟨Rr m.out,k⟩
theorem zsU (a) (c:Nat) (fs:List Fr) (h:Int) (p) (fi ix:Int) (w:Xn) (i:zj qi w (O a fs.length c) fs) (l:Zi fs h=0) (g:frW (frT p fi ix)=0) (k:Nat) (m:zqx fs=(k:Int)) (s:k<fs.length):
  Xp prog 223 #[Xi #[O a fs.length c,I6 h],Xi (pgv p).toArray,I6 fi,I6 ix] w fun e w'=>∃b,e= Xl (Xm #[Xi #[b,I6 h],I6 (k:Int),I6 0])/\zb qi w.heap.size w' b (fs.set k (frT p fi ix))/\zc w w':=by
 have d:=dD i;have j:∀W,zc w W->Xp prog 58 #[Xi #[O a fs.length c,I6 h]] W fun e w'=>e= Xl (I6 (Zi fs h))/\zc W w':=fun W f=>by rw[l];exact ZX a c fs h W (d.aA f) l
 have t:∀W,Xp prog 108 #[Xi #[U8 p.b0,U8 p.b1,U8 p.b2,U8 p.b3,U8 p.b4,U8 p.b5,U8 p.b6,U8 p.b7,I6 1,Xh Xc,Xh Xd,I6 fi,I6 ix]] W fun e w'=>e= Xl (I6 (frW (frT p fi ix)))/\zc W w':=fun W=>by rw[g];exact zbc (frT p fi ix) W g
 have q:∀W,zc w W->Xp prog 236 #[O a fs.length c,.func (.func 237) #[] #[]] W fun e w'=>e= Xl (I6 (zqx fs))/\zc W w':=fun W f=>zdB _ fs W (d.aA f)
 have z:∀W,zc w W->Xp prog 51 #[Xi #[O a fs.length c,I6 h]] W fun e w'=>∃b,e= Xl (Xi #[b,I6 h])/\zb qi W.heap.size w' b fs/\zc W w':=fun W f=>QF a c fs h W (d.aA f)
 clear i;obtain⟨n,i⟩:=kA fs.length;simp only[i.out]at j q z d⊢;simp only[l]at j;clear l;simp only[g]at t;clear g;simp only[m]at q;clear m;rw[i.out]at s;have f:(k:Int)< (n:Int):=Wm
 have f:n<=9223372036854775807:=by have:=d.short;rw[i.out]at this;exact this
 show Xp prog 223 #[Xi #[O a n c,I6 h],Xi #[U8 p.b0,U8 p.b1,U8 p.b2,U8 p.b3,U8 p.b4,U8 p.b5,U8 p.b6,U8 p.b7],I6 fi,I6 ix] w _
 obtain⟨l,d⟩:=kB (((w.alloc (Xk #[O a n c,I6 h] 32)).alloc (Xk #[U8 p.b0,U8 p.b1,U8 p.b2,U8 p.b3,U8 p.b4,U8 p.b5,U8 p.b6,U8 p.b7] 91)).alloc (Xk #[eS,I6 0] 32));have g:Xo (zc w l):=dD<|by rw[<-d];exact((za _ _).trans (za _ _)).trans (za _ _)
 have m:Xo (Box l w.heap.size [O a n c,I6 h]):=dD<|by rw[<-d];exact((Box.aE w _ _ rfl).alloc _).alloc _
 have f:Xo (Box l (w.heap.size+1) [U8 p.b0,U8 p.b1,U8 p.b2,U8 p.b3,U8 p.b4,U8 p.b5,U8 p.b6,U8 p.b7]):=dD<|by rw[<-d];exact(Box.aE _ _ _ Sm).alloc _
 have G:Xo (Box l (w.heap.size+2) [eS,I6 0]):=dD<|by rw[<-d];exact Box.aE _ _ _ Sm
 have r:=dD d;clear d
 go_enter func223,ntmps223
 go_upto_region 1 with fail;rw[r.out];obtain⟨r,x⟩:=m.k2;go_wp2_with fail;refine(j _ g).mono ?_;rintro e y ⟨rfl,u⟩;have d:=dD u;clear u r x j;have A:=(f.aA d).c 0 rfl;have B:=(f.aA d).c 1 rfl;have C:=(f.aA d).c 2 rfl;have D:=(f.aA d).c 3 rfl;have F:=(f.aA d).c 4 rfl;have H:=(f.aA d).c 5 rfl;have K:=(f.aA d).c 6 rfl;have L:=(f.aA d).c 7 rfl;go_wp2_with fail;refine(t _).mono ?_;rintro e f ⟨rfl,j⟩;have u:=dD<|(Box.aE y [U8 p.b0,U8 p.b1,U8 p.b2,U8 p.b3,U8 p.b4,U8 p.b5,U8 p.b6,U8 p.b7,I6 1,Xh Xc,Xh Xd,I6 fi,I6 ix] _ rfl).aA j;have f:=dD ((d.trans (za _ _)).trans j);clear j A B C D F H K L t;have r:=(m.aA f).c 0 rfl;go_wp2_with fail;refine(q _ (g.trans f)).mono ?_;rintro e K ⟨rfl,t⟩;have j:=dD (f.trans t);have d:=u.aA t;clear t r q;have q:=dD d;obtain⟨r,x⟩:=(m.aA j).k2;go_wp2_with fail;refine(z _ (g.trans j)).mono ?_;rintro e F ⟨b,rfl,f,m⟩;obtain⟨t,H,rfl⟩:=f.aJ (by rw[i.out];omega)
 rw[i.out]at f⊢;have D:=dD f;have u:=dD (j.trans m);have d:=dD (q.aA m);have y:=dD<|bS m;have A:=q.lt;clear f m r x z;have m:=d.lt;have L:=d.c 0 rfl;have M:=d.c 1 rfl;have N:=d.c 2 rfl;have P:=d.c 3 rfl;have Q:=d.c 4 rfl;have R:=d.c 5 rfl;have S:=d.c 6 rfl;have T:=d.c 7 rfl;have U:=d.c 8 rfl;have V:=d.c 9 rfl;have z:=d.c 10 rfl;have B:=d.c 11 rfl;have C:=d.c 12 rfl;have d:=D.lt t rfl
 go_wp2_with (refine qg (E:=qi) rfl (.tmp 44) (.tmp 43) rfl K.heap.size _ fs (D.aA (za _ _)) t k rfl (frT p fi ix) (Rx i.out s) _ rfl (by simp[qi]) _ rfl rfl ?_)
 intro s q f x;have r:=dD q;have d:=y.out;have d:=bS u.out;have d:=bS j.out;have d:=G.lt;have j:Xo (Box s F.heap.size [O (Xa ⟨t,0,Xb⟩) n H,I6 h]):=(Box.aE F _ _ rfl).beside f (fun y d=>by cases d;omega)
 have i:Xo (Box s (w.heap.size+2) [eS,I6 0]):=((G.aA u).alloc _).beside f (fun y d=>by cases d;omega)
 have D:Xo (zc l s):=zU (u.trans (za _ _)) f (fun y d=>by cases d;omega)
 clear q f x L M N P Q R S T U V z B C A m;obtain⟨d,d⟩:=j.k2;obtain⟨d,d⟩:=i.k2;have d:=i.f;go_wp2;refine bodyPost_ret (v:= Xm #[Xi #[O (Xa ⟨t,0,Xb⟩) n H,I6 h],I6 (k:Int),I6 0]) (by simp[results,Tryz.results223,go_sem, *]) rfl ⟨_,rfl,?_,?_⟩
 ·exact((r.setCell (a:=⟨w.heap.size+2,0,Xb⟩) (by show w.heap.size+2<_;omega) _).setCell (a:=⟨w.heap.size+2,1,Xb⟩) (by show w.heap.size+2<_;omega) _).base (Hm (bS g.out))
 exact zK (zK (g.trans D) (by simp;omega) _) (by simp;omega) _
theorem zk.far {p:Nat} {V':MaV} {w:Xn} (k:zk (Dw p V) w w1) (f:∀k,Dw p V' k->Dw p V k\/w.heap.size<=k) (a:zk (Dw p V') w1 W):zk (Dw p V) w W:=
 ⟨a.os.trans k.os,a.tape.trans k.tape,a.output.trans k.output,nT k.size a.size,fun b c d=>(a.block b (Oa c k.size) (fun e=>by grind)).trans (k.block b c d)⟩
theorem znX (h:Rt m) {q n:Nat} {s:Sp} (e:m.sp[q]? =Xa s) (d:n<64):(Jo m q (n:Int)).kind=1->Zj m.fs m.aB (Jo m q (n:Int)).n (-1)=0:=by
 have a:Jo m q (n:Int)=zh s n:=by unfold Jo;rw[Sp.aP e,JX d]
 rw[a];intro j;obtain⟨k,g,f,b,l,p⟩:=h.aV e d j;obtain⟨r,t⟩:=h.refs b;have i:=(gS.1 b).1;have c:m.fs.getD k fr0=g:=by rw[gD,b];rfl
 unfold Zj;rw[kE h.parts.1,f,tN,c]
 grind [inB]
theorem zcy:∀(l:List (Nat × Nat)) (m:Ma) (x:Nat × Nat),zi m (l++ [x])=Jp (zi m l) x.1 x.2
 | [],_,_=>rfl
 | y :: l,m,x=>zcy l (Jp m y.1 y.2) x
theorem zpT (fs:List Fr):zf0 fs=jo fs:=rfl
def Zk (fs:List Fr):Nat:=fs.findIdx isF
theorem zdH {fs:List Fr} (h:0<jo fs):zqx fs=(Zk fs:Int)/\Zk fs<fs.length/\∃fr,fs[Zk fs]? =Xa fr/\fr.r=0:=by
 have a:fs.findIdx isF<fs.length:=by
  obtain⟨x,c,b⟩:=List.countP_pos_iff.1 h
  grind [List.findIdx_lt_length_of_exists,isF]
 refine⟨kE a,a,fs[fs.findIdx isF],gE a,?_⟩
 grind [isF,Ok]
def z8 (m:Ma) (l:List (Nat × Nat)):Bool × Ma:=if jo m.fs=0 then Qf m l else(Xc,m)
def zcK (m:Ma) (x:Fr) (l:List (Nat × Nat)):Bool × Nat × Ma:=
 if(z8 (zi m l) l).1=Xc then(Xc,Zk (z8 (zi m l) l).2.fs,{(z8 (zi m l) l).2 with fs:=(z8 (zi m l) l).2.fs.set (Zk (z8 (zi m l) l).2.fs) x })else(Xd,0,(z8 (zi m l) l).2)
theorem JG (h:Rt m) (l:List (Nat × Nat)):Qd (fun q j=>(q,j)∈l) m (z8 m l).2/\((z8 m l).1=Xc->0<jo (z8 m l).2.fs)/\((z8 m l).1=Xd->jo m.fs=0/\jo (z8 m l).2.fs=0):=by
 unfold z8
 split
 ·grind [znG]
 rename_i a
 exact⟨Qd.refl h,fun _=>Nat.pos_of_ne_zero a,fun e=>by cases e⟩
section
variable{m:Ma} {k q n:Nat} {fr:Fr}
theorem ziE {fs:List Fr} {h:Int} {i:Nat} {x:Fr} (b:Zi fs h=0) (k:frW x=0):Zi (fs.set i x) h=0:=by
 obtain⟨c,d,e,f⟩:=jn b;have a:zgk (fs.set i x)=0:=QK.2 fun g j=>by grind
 unfold Zi;rw[Yh,kF Wm,kE a,kE]
 simp[inB]
 omega
theorem zrC {x:Fr} {a:Int} (h:frW x=0) (b:x.r≠0) (c:0<a) (d:a<=1000):frW { x with r:=a }=0:=by grind [frW,inB]
theorem zrk (c:Zi m.fs m.aB=0) (b:m.fs[k]? =Xa fr) (h:0<fr.r) (i:fr.r<1000) (t:∀s∈m.sp,Qy s.tb) (p:q<m.sp.length) (l:n<64):
  Zj m.fs m.aB (k:Int) 1=0/\zhk m q (n:Int) (k:Int)=za1 m k q n/\Zi (za1 m k q n).fs (za1 m k q n).aB=0/\(za1 m k q n).fs[k]? =Xa { fr with r:=fr.r+1 }/\(∀s∈(za1 m k q n).sp,Qy s.tb)/\(za1 m k q n).sp.length=m.sp.length:=by
 have g:=(gS.1 b).1;have f:m.fs.getD k fr0=fr:=by rw[gD,b];rfl
 have d:=(jn c).1;have j:enW ⟨1,(k:Int),Xd⟩=0:=zcw ⟨by simp only;omega,by simp only;omega⟩ ⟨by simp only;omega,by simp only;omega,fun _=>by simp only;omega⟩ Sm
 have e:Zj m.fs m.aB (k:Int) 1=0:=by grind [Zj,tN,inB]
 have a:za1 m k q n=zaF { m with fs:=m.fs.set k { fr with r:=fr.r+1 } } q n ⟨1,(k:Int),Xd⟩:=by grind [za1,zT]
 refine⟨e,?_,?_,?_,?_,?_⟩
 ·grind [zan,zhk,Qw,jv,QI,zns,QM,frH]
 ·rw[a];exact ziE c (zrC ((jn c).2.1 fr (mG b)) Wm Wm Wm)
 ·rw[a]
  show(m.fs.set k _)[k]? =_
  grind
 ·grind [zcV]
 rw[a,zbZ]
theorem zct:∀(l:List (Nat × Nat)) (m:Ma) (x:Nat × Nat),zG m k (l++ [x])=za1 (zG m k l) k x.1 x.2
 | [],_,_=>rfl
 | y :: l,m,x=>zct l (za1 m k y.1 y.2) x
theorem zsq (y:Zi m.fs m.aB=0) (B:m.fs[k]? =Xa fr) (L:0<fr.r) (w:∀s∈m.sp,Qy s.tb) {l:List (Nat × Nat)} (C:∀x∈l,x.2<64/\x.1<m.sp.length) (P:fr.r+l.length<=1000):∀j,j<=l.length->
  Zi (zG m k (l.take j)).fs (zG m k (l.take j)).aB=0/\(zG m k (l.take j)).fs[k]? =Xa { fr with r:=fr.r+(j:Int) }/\(∀s∈(zG m k (l.take j)).sp,Qy s.tb)/\(zG m k (l.take j)).sp.length=m.sp.length/\
  ∀x,l[j]? =Xa x->Zj (zG m k (l.take j)).fs (zG m k (l.take j)).aB (k:Int) 1=0/\zG m k (l.take (j+1))=zhk (zG m k (l.take j)) x.1 (x.2:Int) (k:Int)/\x.1< (zG m k (l.take j)).sp.length:=by
 have a:∀(j:Nat) (M:Ma),Zi M.fs M.aB=0->M.fs[k]? =Xa { fr with r:=fr.r+(j:Int) }->(∀s∈M.sp,Qy s.tb)->M.sp.length=m.sp.length->zG m k (l.take j)=M->∀x,l[j]? =Xa x->Zj M.fs M.aB (k:Int) 1=0/\zG m k (l.take (j+1))=zhk M x.1 (x.2:Int) (k:Int)/\x.1<M.sp.length/\Zi (zG m k (l.take (j+1))).fs (zG m k (l.take (j+1))).aB=0/\(zG m k (l.take (j+1))).fs[k]? =Xa { fr with r:=fr.r+((j+1:Nat):Int) }/\(∀s∈(zG m k (l.take (j+1))).sp,Qy s.tb)/\(zG m k (l.take (j+1))).sp.length=m.sp.length:=by
  intro j M g b h i E x c;obtain⟨z,F⟩:=C x (mG c);have A:=(gS.1 c).1;obtain⟨d,e,f,G,H,K⟩:=zrk (q:=x.1) (n:=x.2) g b (by simp only;omega) (by simp only;omega) h Wm z
  grind [zG,za1,Yl,zct]
 intro j
 induction j with
 | zero=>
  intro _;have b:m.fs[k]? =Xa { fr with r:=fr.r+((0:Nat):Int) }:=by
   rw[B];have:fr.r+((0:Nat):Int)=fr.r:=Wm
   rw[this]
  refine⟨y,b,w,rfl,fun x c=>?_⟩
  obtain⟨d,e,f,_⟩:=a 0 m y b w rfl rfl x c;exact⟨d,e,f⟩
 | succ j D=>
  intro N;obtain⟨g,b,h,i,_⟩:=D Wm
  obtain⟨_,_,_,p,t,u,v⟩:=a j _ g b h i rfl _ (gE Wm)
  refine⟨p,t,u,v,fun x c=>?_⟩
  obtain⟨d,e,f,_⟩:=a (j+1) _ p t u v rfl x c;exact⟨d,e,f⟩
def zaz (m:Ma) (pg:Pg) (l:List (Nat × Nat)):Bool × Nat × Ma:=
 if(z8 (zi m l) l).1=Xc then(Xc,Zk (z8 (zi m l) l).2.fs,zqb (z8 (zi m l) l).2 (Zk (z8 (zi m l) l).2.fs) pg Xc l)else(Xd,0,(z8 (zi m l) l).2)
def jq (m:Ma) (pg:Pg) (file idx:Int) (l:List (Nat × Nat)):Bool × Nat × Ma:=
 if(z8 (zi m l) l).1=Xc then(Xc,Zk (z8 (zi m l) l).2.fs,zG (J6 (z8 (zi m l) l).2 (Zk (z8 (zi m l) l).2.fs) pg Xc Xd file idx) (Zk (z8 (zi m l) l).2.fs) l)else(Xd,0,(z8 (zi m l) l).2)
theorem ziX {pg:Pg} {fi ix:Int} (h:(fi=-1/\ix=0)\/(0<=fi/\fi<5/\0<=ix/\ix<12)):frW (frT pg fi ix)=0:=by
 have a:(frT pg fi ix).r=1:=rfl;refine zhu ⟨by rw[a];decide,?_,?_,(fun e=>absurd e (by rw[a];decide)),?_⟩ (by rw[a];decide)
 ·show 0<=ix/\ix<12
  omega
 ·show fi=-1\/(0<=fi/\fi<5)
  omega
 show fi=-1->ix=0
 omega
theorem zlQ {a:Ma} (h:Rt a) (q:a.fs[k]? =Xa fr) (pg:Pg) {l:List (Nat × Nat)} (z:∀x∈l,x.2<64/\x.1<a.sp.length) (A:l≠[]) (F:l.length<=900):
  (∀j,j<=l.length->(zG { a with fs:=a.fs.set k (frT pg (-1) 0) } k (l.take j)).sp.length=a.sp.length/\∀x,l[j]? =Xa x->Zj (zG { a with fs:=a.fs.set k (frT pg (-1) 0) } k (l.take j)).fs (zG { a with fs:=a.fs.set k (frT pg (-1) 0) } k (l.take j)).aB (k:Int) 1=0/\zG { a with fs:=a.fs.set k (frT pg (-1) 0) } k (l.take (j+1))=zhk (zG { a with fs:=a.fs.set k (frT pg (-1) 0) } k (l.take j)) x.1 (x.2:Int) (k:Int)/\x.1< (zG { a with fs:=a.fs.set k (frT pg (-1) 0) } k (l.take j)).sp.length)/\
  Zj (zG { a with fs:=a.fs.set k (frT pg (-1) 0) } k l).fs (zG { a with fs:=a.fs.set k (frT pg (-1) 0) } k l).aB (k:Int) (-1)=0/\({ zG { a with fs:=a.fs.set k (frT pg (-1) 0) } k l with fs:=QI (zG { a with fs:=a.fs.set k (frT pg (-1) 0) } k l).fs (zG { a with fs:=a.fs.set k (frT pg (-1) 0) } k l).aB (k:Int) (-1) }:Ma)=zqb a k pg Xc l:=by
 have y:=(gS.1 q).1;have v:frT pg (-1) 0=⟨pg,1,Xc,Xd,-1,0⟩:=rfl;have d:({ a with fs:=a.fs.set k (frT pg (-1) 0) }:Ma).fs[k]? =Xa (frT pg (-1) 0):=by grind
 have C:Zi (a.fs.set k (frT pg (-1) 0)) a.aB=0:=ziE h.parts.1 (ziX (.inl ⟨rfl,rfl⟩));have J:=zsq (m:={ a with fs:=a.fs.set k (frT pg (-1) 0) }) (l:=l) C d (show(0:Int)<1 by decide) (fun G B=>h.tb B) z (by show(1:Int)+_<=1000;omega)
 refine⟨fun j p=>⟨(J j p).2.2.2.1,(J j p).2.2.2.2⟩,?_⟩
 obtain⟨f,b,_⟩:=J l.length (nR _);rw[List.take_length]at f b;have t:0<l.length:=List.length_pos_iff.2 A;have c:(zG { a with fs:=a.fs.set k (frT pg (-1) 0) } k l).fs.getD k fr0={ frT pg (-1) 0 with r:=(frT pg (-1) 0).r+(l.length:Int) }:=by rw[gD,b];rfl
 have s:=(gS.1 b).1;have i:Zj (zG { a with fs:=a.fs.set k (frT pg (-1) 0) } k l).fs (zG { a with fs:=a.fs.set k (frT pg (-1) 0) } k l).aB (k:Int) (-1)=0:=by
  unfold Zj;rw[kE f,tN,c];have e:({ frT pg (-1) 0 with r:=(frT pg (-1) 0).r+(l.length:Int) }:Fr).r=1+(l.length:Int):=rfl;rw[e];have w:(inB (k:Int) (zG { a with fs:=a.fs.set k (frT pg (-1) 0) } k l).fs.length && !((1+(l.length:Int)) == 0))=Xc:=by
   simp[inB]
   omega
  rw[w,kE rfl,kE Wm]
 refine⟨i,?_⟩;obtain⟨D,x,E,g,_,_,_,_,u,_⟩:=zan i;have:D=k:=Wm
 subst this;rw[b]at g;cases g;rw[u];have n:=zqa q pg Xc l;rw[<-v]at n;rw[n];unfold zqb;have:frH { frT pg (-1) 0 with r:=(frT pg (-1) 0).r+(l.length:Int) } (-1)=⟨pg,(l.length:Int),Xc,Xd,-1,0⟩:=by
  unfold frH;have e:({ frT pg (-1) 0 with r:=(frT pg (-1) 0).r+(l.length:Int) }:Fr).r=1+(l.length:Int):=rfl;rw[e,kF Wm]
  have:(1:Int)+(l.length:Int)+-1=(l.length:Int):=Wm
  rw[this];rfl
 rw[this];simp only[List.set_set]
end
variable{X:Nat->Prop}
def zcC (a b:Int):Int:=if a<b then -1 else if b<a then 1 else 0
def zoQ (c d:Ca):Int:=zC [zcC c.file d.file,zcC c.idx d.idx]
theorem zqe {c d:Ca} (a:0<=c.idx/\c.idx<100) (b:0<=d.idx/\d.idx<100):(zoQ c d<0↔qa c<qa d)/\(zoQ c d=0↔qa c=qa d):=by grind [zoQ,zC,zcC,qa]
theorem zP.cD {P:Program} {a:Act} {w:Xn} {K:Xq->Xn->Prop} {f:FuncId} {xs:List Operand} {ts:Array TypeId} {caps:Array Xq} {fn:Func} (x args)
  (ho : o.op = .call { callee := .value x, args := xs.toArray, argTypes := ts }) (hx : a.eval x = .func (.func f) #[] caps) (hf : P.funcs[f]? = some fn) (hb : fn.body.isNone = false) (hn : (fn.name == "runtime.NumGoroutine") = false)
  (ha:xs.map a.eval=args) (h:Xp P f (args.toArray++caps) w fun e w'=>∃v,e= Xl v/\K v w'):zP P o a w K:=by
 have hr:(execOp a.eval o).run P w= .ok (.enter f (args.toArray++caps)) w:=by
  simp only [execOp, ho, resolve, hx, List.map_toArray, ha, Deferred.ofValue, pure_bind, invoke];have hn' : fn.name ≠ "runtime.NumGoroutine" := by simpa using hn
  have hb':fn.body≠Xb:=fun e=>by rw[e]at hb;cases hb
  simp[callFunc,hf,hb',hn',program,Xv,Sem.run]
 unfold zP;rw[hr];exact h
def zeq (ca:List Ca) (t:Ca):Bool:=ca.any fun c=>decide (qa c=qa t)
theorem zix {t:Ca}:∀{ca:List Ca} {i:Nat},i<=ca.length->(∀(j:Nat) c,j<i->ca[j]? =Xa c->qa c<qa t)->(∀c,ca[i]? =Xa c->¬qa c<qa t)->zcX ca t=i
 | [],i,hi,_,_=>by
  have:i=0:=Si hi
  subst this;rfl
 | a :: l,0,_,_,b=>by
  unfold zcX;rw[Yr,kF (Si (b a rfl))]
  rfl
 | a :: l,i+1,hi,e,b=>by
  have f:=zix (t:=t) (ca:=l) (i:=i) (Si hi) (fun j c d d=>e (j+1) c Wm (Rx Xt d)) (fun c d=>b c (Rx Xt d))
  unfold zcX at f⊢;rw[Yr,kE (Si (e 0 a Wm rfl)),Yp,f]
theorem zrr {ca:List Ca} {t:Ca} {i:Nat} (f:ca.Pairwise fun a b=>qa a<qa b) (d:∀(j:Nat) c,j<i->ca[j]? =Xa c->qa c<qa t) (e:∀c,ca[i]? =Xa c->¬qa c<qa t):zeq ca t=match ca[i]? with | some c=>decide (qa c=qa t) | none=>Xd:=by
 grind [zeq,qa,Xu,Xz,Nat.lt_trichotomy,gS.1,Yq.1,gE]
theorem znc (a:Int) (w):Xp prog 235 #[I6 a] w fun e w'=>e= Xl (Xh Xd)/\w'=w:=by
 have h:(a != a)=Xd:=Sm
 go_enter func235,ntmps235
 go_wp2;go_ret
 first | exact⟨rfl,rfl⟩ | exact⟨by rw[h],rfl⟩
theorem zdZ (a b:Int) (w):Xp prog 221 #[I6 a,I6 b] w fun e w'=>e= Xl (I6 (zcC a b))/\w'=w:=by
 have h:=znc a w;have i:=znc b w
 by_cases f:a<b
 ·have d:Xo (zcC a b=-1):=dD<|by unfold zcC;rw[kE f]
  have g:decide (a<b)=Xc:=decide_eq_true f
  go_enter func221,ntmps221
  go_wp2_with fail;refine h.mono ?_;rintro e W ⟨rfl,c⟩;rw[c];go_wp2_with fail;refine i.mono ?_;rintro e W ⟨rfl,c⟩;rw[c];go_wp2;go_ret;exact⟨Rr d.out,rfl⟩
 have g:decide (a<b)=Xd:=decide_eq_false f
 by_cases g:b<a
 ·have d:Xo (zcC a b=1):=dD<|by unfold zcC;rw[kF f,kE g]
  have j:decide (b<a)=Xc:=decide_eq_true g
  go_enter func221,ntmps221
  go_wp2_with fail;refine h.mono ?_;rintro e W ⟨rfl,c⟩;rw[c];go_wp2_with fail;refine i.mono ?_;rintro e W ⟨rfl,c⟩;rw[c];go_wp2;go_ret;exact⟨Rr d.out,rfl⟩
 have d:Xo (zcC a b=0):=dD<|by unfold zcC;rw[kF f,kF g]
 have j:decide (b<a)=Xd:=decide_eq_false g
 go_enter func221,ntmps221
 go_wp2_with fail;refine h.mono ?_;rintro e W ⟨rfl,c⟩;rw[c];go_wp2_with fail;refine i.mono ?_;rintro e W ⟨rfl,c⟩;rw[c];go_wp2;go_ret;exact⟨Rr d.out,rfl⟩
theorem zm3 (v l w) (s:zj blE w v l):
  Xp prog 220 #[v] w fun e w'=>e= Xl (I6 (zC l))/\w'=w:=by
 have g:=s.short;obtain⟨G,H,rfl,b⟩:=s.bB;have z:=dD b;clear b s;obtain⟨n,m⟩:=kA l.length;rw[m.out]at g⊢;obtain⟨F,k⟩:=kA (zC l);rw[k.out]
 go_enter func220,ntmps220
 go_wp2
 go_loopg [5,8] n (fun B _ E wr=>∃a:Nat,a<=n/\n - a<=B/\E=I6 a/\wr=w/\Xo (∀(j:Nat) x,j<a->l[j]? =Xa x->x=0))
 exact⟨0,nZ _,Wm,rfl,rfl,fun j x t=>absurd t (nL _)⟩
 obtain⟨a,D,C,rfl,rfl,A⟩:=hrel
 by_cases c:a<n
 ·have h:=kC c
  obtain⟨q,p⟩:∃q,Xo (l[a]? =Xa q):=⟨_,gE (Rx m.out c)⟩
  obtain⟨x,rfl,u⟩:=z.out a q p.out;have K:=u wr (zc.refl _);clear u
  by_cases d:q=0
  ·have r:(q != 0)=Xd:=by simp[d]
   have y:Xo (∀(j:Nat) x,j<a+1->l[j]? =Xa x->x=0):=dD<|fun j x t f=>by
    by_cases e:j=a
    ·subst e;rw[p.out]at f;cases f;exact d
    exact A j x Wm f
   clear d;go_wp2
   go_roundg (n -(a+1));exact⟨a+1,Wm,Wm,Gn,rfl,y⟩;omega
  have r:(q != 0)=Xc:=by simp[d]
  have i:Xo (F=q):=dD<|by rw[<-k.out];exact zdM A p d
  clear d;go_wp2;go_ret;exact⟨Rr i.out,rfl⟩
 have h:=kD c
 have:a=n:=Wm
 subst this;have i:Xo (F=0):=dD<|by
  rw[<-k.out];exact zdN fun j x f=>A.out j x (by rw[<-m.out];exact(gS.1 f).1) f
 go_wp2;go_ret;exact⟨Rr i.out,rfl⟩
theorem zkX (c d:Ca) (w):Xp prog 219 #[Xi #[I6 c.file,I6 c.idx,I6 c.fr],Xi #[I6 d.file,I6 d.idx,I6 d.fr]] w fun e w'=>e= Xl (I6 (zoQ c d))/\zc w w':=by
 obtain⟨E,a⟩:=kA (zoQ c d);have j:Xo (zC [zcC c.file d.file,zcC c.idx d.idx]=E):=a.out;rw[a.out];obtain⟨b,f,i⟩:=c;obtain⟨g,h,l⟩:=d;simp only at j⊢;obtain⟨k,a⟩:=kB ((w.alloc (Xk #[I6 b,I6 f,I6 i] 105)).alloc (Xk #[I6 g,I6 h,I6 l] 105));have n:=gD2 a
 have l:=x2a a
 have m:=x2b a
 have i:Xo (_=k):=a;clear a
 go_enter func219,ntmps219
 go_upto_region 1 with fail;rw[i.out];have q:=l.gw 0 rfl
 have r:=l.gw 1 rfl
 have s:=m.gw 0 rfl
 have t:=m.gw 1 rfl
 have p:Nonempty (zf k):=⟨⟨_,zc.refl _⟩⟩;refine qx [(4,⟨fun a=>a=I6 (zcC b g),fun a w'=>True⟩),(9,⟨fun a=>a=I6 (zcC f h),fun a w'=>True⟩),(10,⟨fun a=>∃i,a= O (Xa ⟨i,0,Xb⟩) 2 2,fun a w'=>zj blE w' a [zcC b g,zcC f h]⟩),(11,⟨fun a=>a=I6 E,fun a w'=>True⟩)] zW Kr (Sd ⟨_,rfl⟩ ⟨_,rfl⟩ ⟨_,0,rfl⟩ ⟨_,rfl⟩) ?hp ?_
 case hp=>
  intro x a;simp only[mC,nM,or_false]at a
  rcases a with rfl|rfl|rfl|rfl
  ·exact fun _ _ _ _ a=>a
  ·exact fun _ _ _ _ a=>a
  ·exact fun _ _ _ k a=>zj.aA a k
  exact fun _ _ _ _ a=>a
 iterate 4 refine ze ?_
 refine zx rfl rfl (fun w' k i=>?_) (fun u a=>?_)
 ·refine zP.call [I6 b,I6 g] rfl func221 rfl rfl rfl ?_;refine(zdZ b g w').mono ?_;rintro e m ⟨rfl,rfl⟩;exact⟨_,rfl,zc.refl _,rfl,trivial⟩
 subst a;refine Uq ?_;iterate 4 refine ze ?_
 refine zx rfl rfl (fun w' k i=>?_) (fun u a=>?_)
 ·refine zP.call [I6 f,I6 h] rfl func221 rfl rfl rfl ?_;refine(zdZ f h w').mono ?_;rintro e m ⟨rfl,rfl⟩;exact⟨_,rfl,zc.refl _,rfl,trivial⟩
 subst a;refine Uq ?_;refine zx rfl rfl (fun w' k i=>?_) (fun u a=>?_)
 ·have l:zj blE (w'.alloc (Xk #[I6 (zcC b g),I6 (zcC f h)] 3)) (O (Xa ⟨w'.heap.size,0,Xb⟩) 2 2) [zcC b g,zcC f h]:=zfx blE w' [zcC b g,zcC f h] _ rfl (show 2*8<=140737488355328 by decide)
  refine zP.step (v:= O (Xa ⟨w'.heap.size,0,Xb⟩) 2 2) (w':=w'.alloc (Xk #[I6 (zcC b g),I6 (zcC f h)] 3)) (by simp only[execOp];go_simp) ⟨za _ _,⟨_,rfl⟩,l⟩
 obtain⟨l,rfl⟩:=a;refine Uq ?_;refine zx rfl rfl (fun w' k i=>?_) (fun u a=>?_)
 ·have k:zj blE w' (O (Xa ⟨l,0,Xb⟩) 2 2) [zcC b g,zcC f h]:=i 10 Kr
  refine zP.call [O (Xa ⟨l,0,Xb⟩) 2 2] rfl func220 rfl rfl rfl ?_;refine(zm3 _ _ w' k).mono ?_;rintro e m ⟨rfl,rfl⟩;exact⟨_,rfl,zc.refl _,by rw[j.out],trivial⟩
 subst a;refine Uq ?_;refine ze ?_
 refine zL fun a a i=>?_
 have b:=dD (n.trans a);clear a i q r s t p;go_wp2;go_ret;exact⟨rfl,b⟩
theorem zjl (v) (ca:List Ca) (t:Ca) (w) (a3:zj Zz w v ca) (g:ca.Pairwise fun a b=>qa a<qa b) (hi:∀c∈ca,0<=c.idx/\c.idx<100) (l:0<=t.idx/\t.idx<100) (d:ca.length<=1000):
  Xp prog 218 #[v,Xi #[I6 t.file,I6 t.idx,I6 t.fr],.func (.func 219) #[] #[]] w fun e w'=>e= Xl (Xm #[I6 (zcX ca t:Int),Xh (zeq ca t)])/\zc w w':=by
 obtain⟨a,c,rfl,f⟩:=a3.cas;have an:=dD f;have q:=dD g
 have ae:Xo (∀c∈ca,(zoQ c t<0↔qa c<qa t)/\(zoQ c t=0↔qa c=qa t)):=dD<|fun c p=>zqe (hi c p) l
 have h:=enters_of func219 Kr rfl
 obtain⟨U,X⟩:=kA ca.length;rw[X.out]at d⊢;obtain⟨P,k⟩:=kA (zcX ca t);obtain⟨ac,h⟩:=kA (zeq ca t);rw[k.out,h.out];have a5:Xo (∀(i j:Nat) x y,ca[i]? =Xa x->ca[j]? =Xa y->i<=j->qa x<=qa y):=dD<|fun i j x y K n d=>by
  obtain⟨m,r⟩:=gS.1 K;obtain⟨s,u⟩:=gS.1 n
  rcases Nat.lt_or_eq_of_le d with F|F
  ·have:=Yq.1 g i j m s F;rw[r,u]at this;omega
  subst F;rw[K]at n;cases n;exact Int.le_refl _
 obtain⟨A,B,C⟩:=t;obtain⟨m,d⟩:=kA (qa ⟨A,B,C⟩);have a8:∀(x:Ca) (W:Xn),Xp prog 219 #[Xi #[I6 x.file,I6 x.idx,I6 x.fr],Xi #[I6 A,I6 B,I6 C]] W fun e w'=>e= Xl (I6 (zoQ x ⟨A,B,C⟩))/\zc W w':=fun x W=>zkX x ⟨A,B,C⟩ W
 rw[d.out]at ae;have a4:Xo (∀i,i<=U->(∀(j:Nat) x,j<i->ca[j]? =Xa x->qa x<m)->(∀(j:Nat) x,i<=j->ca[j]? =Xa x->m<=qa x)->P=i/\ac=match ca[i]? with | some x=>decide (qa x=m) | none=>Xd):=dD<|fun i K n F=>by
  rw[<-k.out,<-h.out,<-d.out];rw[<-d.out]at n F;exact⟨zix (Rx X.out K) n (fun x d=>Hm (F i x (nR _) d)),zrr q n (fun x d=>Hm (F i x (nR _) d))⟩
 clear a3 g hi l f;simp only;obtain⟨b,h⟩:=kA w.heap.size;obtain⟨f,f⟩:=kB (w.alloc (Xk #[I6 A,I6 B,I6 C] 105));have i:=gA f
 have k:=xP f h
 have g:=dD f;clear f
 go_enter func218,ntmps218
 go_upto_region 1 with fail;rw[g.out,h.out];go_wp2
 go_loopg [9,10] U (fun g l f wr=>∃h hi:Nat,l=I6 h/\f=I6 hi/\h<=hi/\hi<=U/\hi - h<=g/\Xo (zc w wr)/\Xo (Box wr b [I6 A,I6 B,I6 C])/\Xo ((∀(j:Nat) x,j<h->ca[j]? =Xa x->qa x<m)/\(∀(j:Nat) x,hi<=j->ca[j]? =Xa x->m<=qa x)))
 exact⟨0,U,rfl,rfl,nZ _,nR _,Wm,i,k,⟨fun j x ai=>absurd ai (nL _),fun j x K n=>by have:=(gS.1 n).1;have:=X.out;omega⟩⟩
 obtain⟨h,hi,rfl,rfl,f,a9,aq,G,E,ab⟩:=hrel;obtain⟨ak,al,am⟩:=E.c3
 by_cases f:h<hi
 ·obtain⟨r,D⟩:∃r,Xo (ca[(h+hi) / 2]? =Xa r):=⟨_,gE (Hm X.out)⟩
  obtain⟨l,rfl,M⟩:=an.out _ r D.out;obtain⟨Y,I,a0⟩:=M wr G.out;have p:=a8 r;have g:(h+hi) / 2<U:=Wm
  obtain⟨s,u,z⟩:=r;simp only at p Y I a0;obtain⟨Z,a6⟩:=kA (zoQ ⟨s,u,z⟩ ⟨A,B,C⟩);rw[a6.out]at p;have a7:Xo (Z<0↔qa ⟨s,u,z⟩<m):=dD<|by rw[<-a6.out];exact(ae _ (mG D)).1
  obtain⟨i,f⟩:=kA ((h+hi) / 2);rw[f.out]at Y I a0 g D;have g:Xo (∀W,zc wr W->zoK W (l.add (i*3)) ⟨s,u,z⟩):=dD<|fun W ah=>by have:=M W (G.trans ah);rw[f.out]at this;exact this
  clear M Y I a0 ak al am;go_upto_region 5 with fail;rw[show((h:Int)+(hi:Int)) / 2=(i:Int) by have:=f.out;omega]
  have k:(i:Int)< (U:Int):=Wm
  have R:=fun y:zf wr=>(g _ y.aA).1
  have S:=fun y:zf wr=>(g _ y.aA).2.1
  have T:=fun y:zf wr=>(g _ y.aA).2.2
  have N:=E.gw 0 rfl
  have P:=E.gw 1 rfl
  have Q:=E.gw 2 rfl
  have q:Nonempty (zf wr):=⟨⟨_,zc.refl _⟩⟩;refine qx [(6,⟨fun v=>v=I6 Z,fun v w'=>True⟩)] zW Kr (Sa ⟨_,rfl⟩) ?hp ?_
  case hp=>
   intro x d;simp only[mC,nM,or_false]at d;subst d;exact fun _ _ _ _ ag=>ag
  iterate 6 refine ze ?_
  refine zx rfl rfl (fun w' aq L=>?_) (fun ar a3=>?_)
  ·refine zP.cD (.tmp 24) [Xi #[I6 s,I6 u,I6 z],Xi #[I6 A,I6 B,I6 C]] rfl rfl func219 rfl rfl rfl ?_;refine(p w').mono ?_;rintro e aj ⟨rfl,k⟩;exact⟨_,rfl,k,rfl,trivial⟩
  subst a3;refine Uq ?_;refine ze ?_
  refine zL fun ao k L=>?_
  have V:=dD (G.trans k);have ap:=dD (E.aA k);clear k p L R S T N P Q q
  by_cases aa:Z<0
  ·have H:=dD aa;go_wp2
   go_roundg (hi -(i+1))
   case measure=>have:=f.out;omega
   have af:Xo ((∀(j:Nat) x,j<i+1->ca[j]? =Xa x->qa x<m)/\(∀(j:Nat) x,hi<=j->ca[j]? =Xa x->m<=qa x)):=dD<|⟨fun j x ai d=>by
    have K:=a5.out j _ x _ d D Wm
    have n:=a7.1 H.out
    omega,ab.2⟩
   exact⟨i+1,hi,Gn,rfl,Hm f.out,a9,nR _,V,ap,af⟩
  have H:=dD aa;go_wp2
  go_roundg (i - h)
  case measure=>have:=f.out;omega
  have af:Xo ((∀(j:Nat) x,j<h->ca[j]? =Xa x->qa x<m)/\(∀(j:Nat) x,i<=j->ca[j]? =Xa x->m<=qa x)):=dD<|⟨ab.1,fun j x ai d=>by
   have K:=a5.out _ j _ x D d Wm
   have n:¬qa ⟨s,u,z⟩<m:=fun e=>by have F:=a7.2 e;have j:=H.out;omega
   omega⟩
  exact⟨h,i,rfl,Gn,Hm f.out,Hm f.out,nR _,V,ap,af⟩
 obtain rfl:hi=h:=Wm
 obtain⟨h,f⟩:=a4.out hi a9 ab.1 ab.2;have j:=dD h;clear h
 by_cases m:hi<U
 ·obtain⟨r,D⟩:∃r,Xo (ca[hi]? =Xa r):=⟨_,gE (Hm X.out)⟩
  obtain⟨l,rfl,M⟩:=an.out _ r D.out;obtain⟨Y,I,a0⟩:=M wr G.out;rw[D.out]at f;have p:=a8 r;obtain⟨s,u,z⟩:=r;simp only at p Y I a0 f;obtain⟨Z,a6⟩:=kA (zoQ ⟨s,u,z⟩ ⟨A,B,C⟩);rw[a6.out]at p;have i:Xo (ac=(Z == 0)):=dD<|by
   rw[f];have:=(ae _ (mG D)).2;rw[a6.out]at this
   by_cases h:Z=0
   ·rw[decide_eq_true (this.1 h),h];rfl
   rw[decide_eq_false (fun e=>h (this.2 e))];simp[h]
  have h:=kC m
  have g:=dD<|fun W (ah:zc wr W)=>M W (G.trans ah)
  clear M f Y I a0 ak al am;go_upto_region 8 with fail;have R:=fun y:zf wr=>(g _ y.aA).1
  have S:=fun y:zf wr=>(g _ y.aA).2.1
  have T:=fun y:zf wr=>(g _ y.aA).2.2
  have N:=E.gw 0 rfl
  have P:=E.gw 1 rfl
  have Q:=E.gw 2 rfl
  have q:Nonempty (zf wr):=⟨⟨_,zc.refl _⟩⟩;refine qx [(11,⟨fun v=>v=I6 Z,fun v w'=>True⟩)] zW Kr (Sa ⟨_,rfl⟩) ?hp ?_
  case hp=>
   intro x d;simp only[mC,nM,or_false]at d;subst d;exact fun _ _ _ _ ag=>ag
  iterate 11 refine ze ?_
  refine zx rfl rfl (fun w' aq L=>?_) (fun ar a3=>?_)
  ·refine zP.cD (.tmp 40) [Xi #[I6 s,I6 u,I6 z],Xi #[I6 A,I6 B,I6 C]] rfl rfl func219 rfl rfl rfl ?_;refine(p w').mono ?_;rintro e aj ⟨rfl,k⟩;exact⟨_,rfl,k,rfl,trivial⟩
  subst a3;refine Uq ?_;iterate 4 refine ze ?_
  refine zL fun ao k L=>?_
  have V:=dD (G.trans k);clear k p L R S T N P Q q;go_wp2
  go_ret2
  exact⟨by rw[j.out,i.out];rfl,V⟩
 have h:=kD m
 have i:Xo (ac=Xd):=dD<|by
  rw[f,gN (Hm X.out)]
 clear f ak al am;go_upto_region 8 with fail;have q:Nonempty (zf wr):=⟨⟨_,zc.refl _⟩⟩;refine qx [] zW Kr Sm Sm ?_
 iterate 5 refine ze ?_
 iterate 8 (refine ji Kr ?_;simp only[Xx,sB,sS,sZ])
 iterate 3 refine ze ?_
 refine zL fun ao k L=>?_
 have V:=dD (G.trans k);clear k L q;go_wp2
 go_ret2
 exact⟨by rw[j.out,i.out];rfl,V⟩
theorem za7 {w:Xn} {p:Nat} (h:ChW w0 X p w V m) (g:m.ca.Pairwise fun a b=>qa a<qa b) (hi:∀c∈m.ca,0<=c.idx/\c.idx<100) (d:m.ca.length<=1000) (file idx:Int) (i:0<=idx/\idx<100):
  Xp prog 190 #[Xj (Xa ⟨p,0,Xb⟩),I6 file,I6 idx] w fun e w'=>e= Xl (Xm #[I6 (zcX m.ca ⟨file,idx,0⟩:Int),Xh (zeq m.ca ⟨file,idx,0⟩)])/\zc w w':=by
 have f:=zjl _ m.ca ⟨file,idx,0⟩ w h.at.ca g hi i d;simp only at f;have j:=h.box.box.c 9 rfl;obtain⟨P,k⟩:=kA (zcX m.ca ⟨file,idx,0⟩);obtain⟨H,j⟩:=kA (zeq m.ca ⟨file,idx,0⟩);rw[k.out,j.out]at f⊢;clear h g hi d i
 go_enter func190,ntmps190
 go_wp2_with fail;refine f.mono ?_;clear f;rintro e d ⟨rfl,d⟩;have f:=dD d;clear d;go_wp2
 go_ret2
 exact⟨rfl,f⟩
theorem zb.block {α:Type} {E:Elt α} {base:Nat} {w:Xn} {n cap:Nat} {l:List α} (h:zb E base w (O (Xa ⟨g,0,Xb⟩) n cap) l):
  n=l.length/\base<=g/\l.length<=cap/\cap<=maxLen/\∃cur,w.heap[g]? =Xa (Xk cur E.ty (0,0))/\cur.size=cap*E.k/\cur.toList.take (l.length*E.k)=l.flatMap E.enc:=by
 rcases h.1.2 with⟨b,_⟩|⟨a,a,cur,b,a,a,a,a,a,a⟩
 ·cases b
 grind
theorem zb.mk' {α:Type} {E:Elt α} {base:Nat} {w:Xn} {cap:Nat} {l:List α} {cur:Array Xq} (b:base<=g) (c:w.heap[g]? =Xa (Xk cur E.ty (0,0))) (e:l.length<=cap) (d:cap<=maxLen) (f:cur.size=cap*E.k) (h:cur.toList.take (l.length*E.k)=l.flatMap E.enc)
  (a:l.length*E.bytes<=140737488355328):zb E base w (O (Xa ⟨g,0,Xb⟩) l.length cap) l:=
 ⟨⟨qC E l,.inr ⟨g,cap,cur,rfl,b,c,e,d,f,h⟩⟩,a⟩
theorem zcH {α:Type} {E:Elt α} {w:Xn} {rest:List Oper} {a:Act} (j:o.guard=Xb) (s x) (D:o.op= .call { callee:= .builtin .append,args:=#[s,x],argTypes:=#[E.st,E.st] })
  (base g cap n:Nat) (l:List α) (h:zb E base w (O (Xa ⟨g,0,Xb⟩) n cap) l) (i:Nat) (hi:i<=l.length) (F:a.eval s= O (Xa ⟨g,0,Xb⟩) i cap) (r:Addr) (c:List α) (b v:Nat) (H:a.eval x= O (Xa r) b v) (k:b=c.length)
  (f:∀m u,(c.flatMap E.enc)[m]? =Xa u->w.cell? (r.add m)=Xa u) (d:i+c.length<=cap) (e:(i+c.length)*E.bytes<=140737488355328)
  (z:∀w',zb E base w' (O (Xa ⟨g,0,Xb⟩) (i+b) cap) (l.take i++c)->w.grownBy w' (Xa g)->w'.heap.size=w.heap.size->wpList prog ops Q rest (a.put o.dst (O (Xa ⟨g,0,Xb⟩) (i+b) cap)) w'):wpList prog ops Q (o :: rest) a w:=by
 subst k;refine wpList_plain j fun K A=>?_
 obtain⟨b,B,t,C,b,y,p,G⟩:=h.block;obtain⟨K,m,h,k,h⟩:=info_parts E.aF;have q:=qC E c;have h:(i+c.length)*E.k<=cap*E.k:=Ya _ d;rw[Oq]at h;have j:=run_append_room (P:=prog) w E.st o.type E.ty K E.bV m g i cap b y r c.length v (c.flatMap E.enc) (Rx k q) f (qS E.one c) d (by rw[q,k,p];exact h)
 rw[k]at j;unfold Oper.wp execOp;simp only[D,resolve,invoke,builtin,Xv,Yg,rA,List.map_toArray,mP,Yy,F,H,j];have hlen:(l.take i++c).length=i+c.length:=by rw[lA,Xs];omega
 have h:b.toList.length=cap*E.k:=Si p
 have f:i*E.k<=l.length*E.k:=Ya _ hi;have j:l.length*E.k<=cap*E.k:=Ya _ t;have k:b.toList.take (i*E.k)=(l.take i).flatMap E.enc:=by
  have j:(b.toList.take (l.length*E.k)).take (i*E.k)=b.toList.take (i*E.k):=by rw[List.take_take,Yi f]
  rw[<-j,G]
  conv=>lhs;rw[<-Yj i l,Yb]
  exact Yt (by rw[qC,Xs,Yi hi])
 have j:(b.toList.take (i*E.k)).length=i*E.k:=by rw[Xs,h];omega
 have f:=zb.mk' (E:=E) (base:=base) (w:=w.setRow g (b.toList.take (i*E.k)++c.flatMap E.enc++b.toList.drop (i*E.k+(c.flatMap E.enc).length)).toArray) (g:=g) (cap:=cap) (l:=l.take i++c) B (setRow_heap w g b _ E.ty _ y) (by rw[hlen];exact d) C (by
  simp only[Od,lA,j,q,Yf,h]
  omega) (by
  rw[hlen,Yb,<-k,Oq];have:(b.toList.take (i*E.k)++c.flatMap E.enc).length=i*E.k+c.length*E.k:=by rw[lA,j,q]
  simp only;rw[Yt this]) (by rw[hlen];exact e)
 rw[hlen]at f;exact A _ _ (z _ f (j5 _ _ _) (by simp[World.setRow]))
theorem zgn (n:Nat):∀u∈(Builtin.zeroCells #[I6 0,I6 0,I6 0] n).toList,u.oneCell'=Xc:=fun u a=>by
 simp only[Builtin.zeroCells,Array.toList_map,Of,Array.toList_range,Yc]at a;obtain⟨i,_,rfl⟩:=a;have a:i % 3<3:=Yv _ Dc
 show(#[I6 0,I6 0,I6 0]:Array Xq)[i % 3]!.oneCell'=Xc
 generalize i % 3=k at a
 match k,a with
 | 0,_=>rfl
 | 1,_=>rfl
 | 2,_=>rfl
theorem zdc {w:Xn} {rest:List Oper} {a:Act} (b:o.guard=Xb) (x) (z:o.op= .call { callee:= .builtin .clear,args:=#[x],argTypes:=#[42] })
  (base g cap n:Nat) (l:List Ca) (c:zb Zz base w (O (Xa ⟨g,0,Xb⟩) n cap) l) (k p:Nat) (A:a.eval x= O (Xa ⟨g,l.length*3,Xb⟩) (k+1) p) (d:l.length+(k+1)<=cap)
  (s:∀w',zb Zz base w' (O (Xa ⟨g,0,Xb⟩) n cap) l->w.grownBy w' (Xa g)->w'.heap.size=w.heap.size->wpList prog ops Q rest (a.put o.dst (Xm #[])) w'):wpList prog ops Q (o :: rest) a w:=by
 refine wpList_plain b fun K t=>?_
 obtain⟨y,u,m,v,b,q,e,r⟩:=c.block;have d:Zz.k=3:=rfl;rw[d]at e r;obtain⟨Z,j⟩:=kB ((Builtin.zeroCells #[I6 0,I6 0,I6 0] (k+1)).toList);have i:Z.length=(k+1)*3:=by
  rw[<-j,Array.length_toList,size_zeroCells];rfl
 have f:∀h∈Z,h.oneCell'=Xc:=by rw[<-j];exact zgn _
 have h:=run_storeCells_at prog g (l.length*3) 105 Z 0 b w q (by rw[i,e];omega) f
 simp only[Yw]at h;have f:(Builtin.clear_ #[42] o.type #[O (Xa ⟨g,l.length*3,Xb⟩) (k+1) p]).run prog w= .ok (Xm #[]) (w.setRow g (b.toList.take (l.length*3)++Z++b.toList.drop (l.length*3+Z.length)).toArray):=by
  simp only[Builtin.clear_]
  simp[run_underlying underlying42,Tryz.zeroValue105,Value.cells,j,h]
 unfold Oper.wp execOp;simp only[z,resolve,invoke,builtin,Xv,Yg,rA,List.map_toArray,mP,Yy,A,f];subst y;have f:b.toList.length=cap*3:=Si e
 refine t _ _ (s _ (zb.mk' u (setRow_heap w g b _ 105 _ q) m v ?_ ?_ c.2) (j5 _ _ _) (by simp[World.setRow]))
 ·rw[d];simp only[Od,lA,Xs,Yf,i,f];omega
 rw[d,Oc,Yt (by rw[Xs,f];omega)]
 exact r
theorem zlB {α:Type} (l:List α) (i:Nat):l.take i++l.drop (i+1)=l.eraseIdx i:=(List.eraseIdx_eq_take_drop_succ ..).symm
theorem zhI (base g cap i:Nat) (l:List Ca) (w:Xn) (a:zb Zz base w (O (Xa ⟨g,0,Xb⟩) l.length cap) l) (hi:i<l.length) (b:l.length<=1000):
  Xp prog 213 #[O (Xa ⟨g,0,Xb⟩) l.length cap,I6 i,I6 ((i:Int)+1)] w fun e w'=>e= Xl (O (Xa ⟨g,0,Xb⟩) (l.length - 1) cap)/\zb Zz base w' (O (Xa ⟨g,0,Xb⟩) (l.length - 1) cap) (l.eraseIdx i)/\w.grownBy w' (Xa g):=by
 obtain⟨_,_,d,c,_⟩:=a.block;have f:cap<=9223372036854775807:=by simpa [maxLen]using c
 have j:=dD a;have f:=dD<|zlB l i;have a:Xo ((l.drop (i+1)).length=l.length -(i+1)):=show _=_ from Yf
 obtain⟨n,c⟩:=kA l.length;rw[c.out]at d hi b j a⊢;obtain⟨q,b⟩:∃q,Xo (n=q+1):=⟨n - 1,show _=_ by omega⟩
 have d:(i:Int)+1<=(n:Int):=Wm
 have d:(n:Int)<=(cap:Int):=Wm
 have d:¬((i:Int)=(i:Int)+1):=Wm
 have h:((i:Int) ==(i:Int)+1)=Xd:=Si d
 have d:(i:Int)<=(i:Int)+1:=Wm
 have d:(i:Int)<=(cap:Int):=Wm
 have d:((i:Int)+1).toNat=i+1:=Wm
 go_enter func213,ntmps213
 go_upto_region 5 with fail;have d:Nonempty (zf w):=⟨⟨_,zc.refl _⟩⟩;refine jf 6 [] zW Kr rfl rfl Dc Sm Sm ?_
 simp only[Ym,Yn];iterate 6 refine ze ?_
 refine zL fun w' p _=>?_
 obtain⟨k,d,m⟩:∃k:Addr,(if cap=i+1 then Xa (⟨g,0,Xb⟩:Addr)else Xa ⟨g,(i+1)*3,Xb⟩)=Xa k/\Xo (¬cap=i+1->k=⟨g,(i+1)*3,Xb⟩):=by
  by_cases e:cap=i+1
  ·exact⟨_,kE e,show _->_ from fun h=>absurd e h⟩
  exact⟨_,kF e,show _->_ from fun _=>rfl⟩
 rw[d];have h:=dD (j.aA p);have r:=dD p;have p:Xo (∀j u,((l.drop (i+1)).flatMap Zz.enc)[j]? =Xa u->w'.cell? (k.add j)=Xa u):=show∀j u,_ from fun j u d=>by
  by_cases e:cap=i+1
  ·rw[List.drop_of_length_le (Hm c.out)]at d
   cases d
  rw[m.out e,Xw];have m:(l.flatMap Zz.enc)[(i+1)*3+j]? =Xa u:=by
   conv=>lhs;rw[<-Yj (i+1) l,Yb]
   rw[aR (by rw[qC,Xs];show _*3<=_;have:=c.out;omega),qC,Xs,show min (i+1) l.length=i+1 by have:=c.out;omega]
   show((l.drop (i+1)).flatMap Zz.enc)[(i+1)*3+j -(i+1)*3]? =_
   rw[Oe];exact d
  have:=h.1.cells rfl _ u m;rw[Xw,zA]at this;exact this
 have d:i+(n -(i+1))=q:=Hm b.out
 have j:Xo (i+(l.drop (i+1)).length<=cap/\(i+(l.drop (i+1)).length)*24<=140737488355328):=dD<|by rw[a.out];omega
 have d:Xo ((l.eraseIdx i).length=q):=dD<|by rw[<-f.out,lA,a.out,Xs];have:=c.out;have:=b.out;omega
 go_wp2_with (refine zcH (E:=Zz) rfl (.tmp 22) (.tmp 25) rfl base g cap n l h i (Hm c.out) rfl k (l.drop (i+1)) (n -(i+1)) (cap -(i+1)) rfl a.symm p j.1 j.2 ?_)
 intro a a c _;rw[f.out]at a;have h:=dD a;have f:=dD c;have a:¬cap=q:=Hm b.out
 have a:(q:Int)<=(n:Int):=Hm b.out
 have a:n - q=0+1:=Hm b.out
 try simp only[Xx,sB,sS,sZ]
 go_wp2_with (refine zdc rfl (.tmp 31) rfl base g cap q (l.eraseIdx i) h 0 (cap - q) (Rr d.out) (by rw[d.out];have:=b.out;omega) ?_)
 intro a c a _;have d:=dD c;have c:=dD<|za4 r (qM f a)
 have a:Xo (n - 1=q):=dD<|Hm b.out
 go_wp2;go_ret;exact⟨Rr a.out,Rx a.out d,c⟩
variable{X:Nat->Prop}
theorem Rt.cache (h:Rt m):(m.ca.Pairwise fun a b=>qa a<qa b)/\(∀c∈m.ca,0<=c.idx/\c.idx<100)/\m.ca.length<=1000:=by
 obtain⟨d,d,g⟩:=zn.1 h.inv.ca;have d:∀c∈m.ca,0<=c.idx/\c.idx<100/\0<=qa c/\qa c<1000:=fun c e=>by
  obtain⟨k,f,f,f,F,f⟩:=zga h.w e;have i:=(gS.1 f.fl).1;have i:=((zY _ _).1 h.inv.st).1;have h:=f.idx;have h:=f.file;have h:=f.lo;unfold qa;omega
 refine⟨g,fun c e=>⟨(d c e).1,(d c e).2.1⟩,?_⟩
 have:=zeF (m.ca.map qa) 0 1000 (by rw[List.pairwise_map];exact g) (fun x d=>by grind)
 rw[Ys]at this;omega
theorem zpm (h:Rt m) {i:Nat} {c:Ca} (a:m.ca[i]? =Xa c):zcX m.ca ⟨c.file,c.idx,0⟩=i/\zeq m.ca ⟨c.file,c.idx,0⟩=Xc:=by
 obtain⟨b,_,_⟩:=h.cache;obtain⟨b,d⟩:=gS.1 a;have a:qa ⟨c.file,c.idx,0⟩=qa c:=rfl;refine⟨zix (Nat.le_of_lt b) (fun j d a a=>?_) (fun d a=>?_),?_⟩
 ·grind [gS.1,Yq.1]
 ·grind
 grind [zeq,Xu.2,mG]
theorem zdT {w:Xn} {p:Nat} (l:ChW w0 X p w V m) (g:Rt m) (k:Nat) (f:Fr) (h:m.fs[k]? =Xa f) (L:f.f≠-1) (D:f.r≠0):
  Xp prog 186 #[Xj (Xa ⟨p,0,Xb⟩),I6 (k:Int)] w fun e w'=>(∃v,e= Xl v)/\Chg w0 X p w V (z2 m k) w':=by
 obtain⟨j,c,A,u,F,d,a⟩:=zao g h L;obtain⟨R,S,G⟩:=g.cache;obtain⟨E,F⟩:=zpm g d;rw[a.file,a.idx]at E F;have t:=(gS.1 d).1;have B:u<=12:=a.lo;have c:=dD<|zjj g h d a.fr
 obtain⟨P,Q,M⟩:=zbD g h D;have z:Xo (∀W,zc w W->Xp prog 190 #[Xj (Xa ⟨p,0,Xb⟩),I6 (A:Int),I6 (u:Int)] W fun e w'=>e= Xl (Xm #[I6 (j:Int),Xh Xc])/\zc W w'):=dD<|fun W i=>by
  have:=za7 (l.aA i) R S G (A:Int) (u:Int) Wm
  rw[E,F]at this;exact this
 have q:Xo (z2 m k=zaG { m with ca:=m.ca.eraseIdx j } k f.r ⟨0,0,Xd⟩):=dD<|by
  rw[show(⟨0,0,Xd⟩:En)=en0 from rfl,zjX (m:={ m with ca:=m.ca.eraseIdx j }) g rfl rfl rfl h D Qg]
  unfold z2;rw[c.out]
 have n:Xo (∀c i,ChW w0 X p c i { m with ca:=m.ca.eraseIdx j }->Xp prog 214 #[Xj (Xa ⟨p,0,Xb⟩),I6 (k:Int),Xi #[I6 0,I6 0,Xh Xd]] c fun e w'=>(∃v,e= Xl v)/\Chg w0 X p c i (z2 m k) w'):=dD<|fun c i c=>by
  rw[q.out];exact zdU c k f h ⟨0,0,Xd⟩ g.inv.aQ ⟨P,Q⟩ M
 have H:=dD l;have C:¬Dw p V w.heap.size:=fun e=>absurd (l.aM _ e) Wm
 obtain⟨a5,-⟩:=l.at.ns;obtain⟨c,K,N⟩:=l.at.bF k f h;have x:=dD K;have y:=dD N
 have c:(k:Int)< (V.f.n:Int):=by
  have:=(gS.1 h).1;omega
 have r:=a.ff;have s:=a.fx;have i:=dD t;have c:=dD G;obtain⟨⟨T,U,W,Y,Z,I,a0,a1⟩,a3,a4,a2,a6,a6⟩:=f;dsimp only at r s;subst r;subst s;obtain⟨r,r⟩:=kA (z2 m k);rw[r.out]at n q⊢;clear l g h L D d a R S G E F t B P Q M K N a5;have F:=H.box.box.c 0 rfl;rw[x.out]at F;obtain⟨h,l,r,s,q,t,x,B,D,E,a,d,g⟩:=y.out w (zc.refl _);dsimp only at h l r s q t x B D E a d g
 go_enter func186,ntmps186
 go_upto_region 1 with fail;clear h l r s q t x B D E a d g F;obtain⟨a,d⟩:=kA w.heap.size;obtain⟨r,a⟩:=kB (w.alloc (Xk #[U8 T,U8 U,U8 W,U8 Y,U8 Z,U8 I,U8 a0,U8 a1,I6 a3,Xh a4,Xh a2,I6 (A:Int),I6 (u:Int)] 93));have h:=gA a
 have l:=xPT a d
 rw[a,d.out];rw[d.out]at C;clear a;have d:=l.box.c 11 rfl;have g:=l.box.c 12 rfl;have a:=z.out r h.out;go_wp2_with fail;refine a.mono ?_;clear a d g;rintro e x ⟨rfl,a⟩;have u:=dD (h.trans a);clear a;have h:=dD (H.aA u);obtain⟨l,r,a⟩:=h.ca.aJ (Hm i.out)
 have g:=zhI w0.heap.size l r j m.ca x (Ry a h.ca) i c.out
 have s:=h.box.box.c 9 rfl;rw[a]at s;have d:=dD a;clear a;obtain⟨t,a⟩:=kA m.ca.length;rw[a.out]at g s;have a:j<1000:=by have:=i.out;have:=c.out;omega
 go_wp2_with fail;refine g.mono ?_;clear g s;rintro e y ⟨rfl,g,c⟩;have i:p≠l:=h.nc l (by have a:=d.out;(try simp only[Sli.x]at a);unfold oB;rw[a];rfl)
 have z:Xo (zl y p 88 (chL V m)):=h.box.beside c (fun k e=>by cases e;exact i)
 have A:=dD g;have s:=dD c;clear g c
 go_upto_region 3 with(refine qK rfl 42 (.tmp 37) (.tmp 34) rfl p 9 rfl (O (Xa ⟨l,0,Xb⟩) (t - 1) r) rfl [O (Xa ⟨l,0,Xb⟩) (t - 1) r] rfl z (by simp[chL]) Kr (by simp[Value.oneCell']) ?_)
 intro z c g _;have i:Chg w0 X p x V { m with ca:=m.ca.eraseIdx j } z:=by
  refine h.cache (w1:=y) (b:=⟨Xa ⟨l,0,Xb⟩,t - 1,r⟩) (zk.grown s (by have a:=d.out;(try simp only[Sli.x]at a);unfold oB;rw[a];rfl)) (fun h h=>?_) A g c
  unfold oB at h;cases h;exact .inl (by have a:=d.out;(try simp only[Sli.x]at a);unfold oB;rw[a];rfl)
 have a:=Chg.aI u i;obtain⟨r,d,h,q⟩:=a;have a:=dD d;have l:=dD h;have j:=dD q;have a:=n.out z r d;clear i d h q c g;try simp only[Xx]
 go_wp2_with fail;refine a.mono ?_;clear a;rintro e a ⟨⟨a,rfl⟩,c⟩;have a:=dD<|Chg.step l j c
 clear c;go_wp2
 exact Ge a.out
variable{X:Nat->Prop}
section
variable{w0 w w1 w2:Xn} {p:Nat} {V:MaV} {m:Ma}
theorem ChW.setSw (h:ChW w0 X p w V m) {d q:Sli} {a:List (List Int)} {b:List (Int × List Int)} (e:zc w w1) (i:w.heap.size<=B) (g:zO B w1 (Xi #[d.x,q.x]) a b) (f:w1.grownBy w2 (Xa p)) (c:zl w2 p 88 (chL { V with sb:=d,sq:=q } { m with sb:=a,sq:=b })):Chg w0 X p w V { m with sb:=a,sq:=b } w2:=
 h.field (V':={ V with sb:=d,sq:=q }) (m':={ m with sb:=a,sq:=b }) e f rfl rfl rfl rfl rfl rfl c (fun W _ b r=>by
  have k:=(g.aN (fun k a=>Hm (h.drt k a)) b).rows
  exact⟨r.sl,k.1,k.2,r.db,r.dq,r.fl⟩)
end
theorem zmu (h:Rt m) {k:Nat} {f:Fr} (a:m.fs[k]? =Xa f) (b:f.r≠0):(Jn m<m.sl.length->j2 m.sl f.r=0/\Qk m.sl f.r=m.sl.set (Jn m) f.r/\zcr m.sl f.r=(Jn m:Int))/\(¬Jn m<m.sl.length->j2 m.sl f.r=10):=by
 obtain⟨c,c,_⟩:=zbD h a b;have a:=h.parts.2
 rcases zde m.sl f.r with⟨a,_⟩|⟨_,a,_⟩|⟨_,_,b,a,_⟩|⟨_,_,b,a,c,d⟩
 ·grind
 ·grind
 ·exact⟨fun h=>absurd h b,fun _=>a⟩
 exact⟨fun _=>⟨a,c,d⟩,fun h=>absurd b h⟩
theorem zlH {w:Xn} {p:Nat} (K:ChW w0 X p w V m) (Q:Rt m) (k:Nat) (f:Fr) (Z:m.fs[k]? =Xa f) (bz:f.r≠0):
  Xp prog 229 #[Xj (Xa ⟨p,0,Xb⟩),I6 (k:Int)] w fun e w'=>e= Xl (Xh (zbi m k f).1)/\Chg w0 X p w V (zbi m k f).2 w':=by
 obtain⟨cl,ai⟩:=zmu Q Z bz;obtain⟨ec,ed,dr⟩:=zbD Q Z bz;have dp:=Q.inv.aX;have ci:=Q.inv.bI;obtain⟨E,L⟩:=kA (j2 m.sl f.r);obtain⟨ak,a8⟩:=kA (zcr m.sl f.r);have a9:Xo (∀W,zc w W->Xp prog 240 #[V.s.x,I6 f.r] W fun e w'=>∃s:Sli,e= Xl (Xm #[s.x,I6 ak,I6 E])/\z3 slE W.heap.size w' (s.x) (Qk m.sl f.r)/\zc W w'):=dD<|fun W an=>by
  obtain⟨-,e8,-⟩:=K.at.ns;have ah:=(K.at.aA an).sl;(try simp only[Sli.x]);rw[e8]at ah⊢;rw[<-L.out,<-a8.out];refine(zmv V.s.a V.s.c m.sl f.r W ah).mono ?_;rintro e w' ⟨cu,cy,rfl,e9,bt⟩;exact⟨⟨cu,_,cy⟩,rfl,e9,bt⟩
 have a7:Xo (E≠0->zbi m k f=(Xd,m)):=dD<|fun e=>by
  unfold zbi;rw[kF (fun a0=>e (L.symm.trans (cl a0).1))]
 have ag:E=0->Jn m<m.sl.length:=fun e=>Classical.byContradiction fun dt=>by
  have:=ai dt;rw[L.out,e]at this;cases this
 have i:Xo (E=0->(zbi m k f).1=Xc/\∃j:Nat,ak=(j:Int)/\j<=60/\zg m.sb.length m.sq (j:Int)=0/\(zbi m k f).2=zaG {({ m with sl:=Qk m.sl f.r }:Ma)with sb:=qt m.sb m.sq (j:Int),sq:=qr m.sb m.sq (j:Int) (pgL f.p) } k f.r ⟨2,(j:Int),Xd⟩):=dD<|fun e=>by
  have a0:=ag e;obtain⟨dl,cf,cg⟩:=cl a0;have U:zg m.sb.length m.sq ((Jn m:Nat):Int)=0:=by
   unfold zg;rw[kE Q.inv.sq,kE (by simp[j0];omega)]
  have S:enW ⟨2,(Jn m:Int),Xd⟩=0:=zcw Sm ⟨Sm,by simp only;omega,fun K=>by simp at K⟩ Sm
  unfold zbi;rw[kE a0];refine⟨rfl,Jn m,a8.symm.trans cg,Wm,U,?_⟩
  rw[zjX (m:={({ m with sl:=Qk m.sl f.r }:Ma)with sb:=qt m.sb m.sq (Jn m:Int),sq:=qr m.sb m.sq (Jn m:Int) (pgL f.p) }) Q rfl rfl rfl Z bz S];simp only;unfold ZR qt qr;rw[kE U,kE U,cf]
 have a5:Xo (∀(au:Xn) bf (j:Nat) c5 c4 c6,ChW w0 X p au bf {({ m with sl:=c5 }:Ma)with sb:=c4,sq:=c6 }->Xp prog 214 #[Xj (Xa ⟨p,0,Xb⟩),I6 (k:Int),Xi #[I6 2,I6 (j:Int),Xh Xd]] au fun e w'=>(∃v,e= Xl v)/\Chg w0 X p au bf (zaG {({ m with sl:=c5 }:Ma)with sb:=c4,sq:=c6 } k f.r ⟨2,(j:Int),Xd⟩) w'):=dD<|fun au bf j c5 c4 c6 dm=>zdU dm k f Z ⟨2,(j:Int),Xd⟩ Q.inv.aQ ⟨ec,ed⟩ dr
 have a6:=dD K;have bx:p<w.heap.size:=K.aM p (.inl rfl);obtain⟨er,-⟩:=K.at.ns;obtain⟨em,dq,a0⟩:=K.at.bF k f Z;have ax:=dD dq;have ay:=dD a0
 have ds:(k:Int)< (V.f.n:Int):=by
  have:=(gS.1 Z).1;omega
 obtain⟨cc,b8⟩:=kA (zbi m k f);rw[b8.out]at a7 i⊢;obtain⟨⟨r,t,x,z,A,B,C,D⟩,M,br,bp,bq,bs⟩:=f;dsimp only at a9 i a5;have ef:=a6.box.box.c 0 rfl;rw[ax.out]at ef;obtain⟨dc,de,df,dg,bn,dh,di,dj,dk,bo,bk,bl,bm⟩:=ay.out w (zc.refl _);dsimp only at dc de df dg bn dh di dj dk bo bk bl bm
 go_enter func229,ntmps229
 go_upto_region 2 with fail;obtain⟨h,aw⟩:=kA w.heap.size;obtain⟨H,R⟩:=kB (w.alloc (Xk #[U8 r,U8 t,U8 x,U8 z,U8 A,U8 B,U8 C,U8 D,I6 M,Xh br,Xh bp,I6 bq,I6 bs] 93));have aj:=gA R
 have ce:=xPT R aw
 rw[R,aw.out];rw[aw.out]at bx;have ch:zc H H.drew:=show Below _ _ _ from(bR _ _).drew
 obtain⟨c,b⟩:=Wq fun u=>zc H u
 have n:=(b _).2 ch;have N:zc H H.drew:=ch;have dv:=fun y:zq c=>(a6.box.box.aA (aj.trans ((b _).1 y.holds))).c 2 rfl
 have e7:=fun y:zq c=>(ce.box.aA ((b _).1 y.holds)).c 8 rfl
 have bw:Nonempty (zq c):=⟨⟨_,n⟩⟩;refine qw (I:=c) 15 [(7,fun v=>∃s:Sli,v= Xm #[s.x,I6 ak,I6 E])] (fun u=>zc H u) n N zW Kr rfl rfl Dc (Sa ⟨_,ZH,rfl⟩) Kr ?_
 simp only[Ym,Yn];refine zy ?_
 refine qG (.tmp 19) ⟨p,0,Xb⟩ rfl rfl rfl rfl ?_;refine Uq ?_;iterate 5 refine zy ?_
 refine zV rfl rfl (fun v u=>∃(s:Sli) (G:Xn),v= Xm #[s.x,I6 ak,I6 E]/\zc H G/\zc G u/\z3 slE G.heap.size u (s.x) (Qk m.sl M)) (fun w' g a=>?_) (fun c8 a4=>?_)
 ·refine zP.call [V.s.x,I6 M] rfl func240 rfl rfl rfl ?_;refine(a9 w' (aj.trans a)).mono ?_;rintro e c9 ⟨s,rfl,ai,aa⟩;exact⟨_,rfl,(b _).2 (((b _).1 g).trans aa),⟨s,rfl⟩,s,w',rfl,a,aa,ai⟩
 obtain⟨s,rfl⟩:=a4;refine Uq ?_;iterate 7 refine zy ?_
 refine jW fun el bu P=>?_
 obtain⟨ar,G,S,Y,am,c7⟩:=P;have T:ar=s:=by
  obtain⟨cv,cw,cx⟩:=s;obtain⟨cz,da,db⟩:=ar;simp only[Value.tuple.injEq,Array.mk.injEq,List.cons.injEq,vJ,and_true]at S;obtain⟨rfl,rfl,rfl⟩:=S;rfl
 subst T;have be:=dD<|c7.base (bS (aj.trans Y))
 have av:=dD (aj.trans (Y.trans am));have cs:=dD (ce.aA (Y.trans am))
 by_cases ao:E=0
 rotate_left
 ·have c0:(E != 0)=Xc:=by simp[ao]
  have cb:=dD<|a7.out ao;go_wp2;go_ret;exact⟨Rr cb.out,Rx cb.out (Chg.refl a6 av)⟩
 have c0:(E != 0)=Xd:=by simp[ao]
 obtain⟨eg,j,eh,et,ei,ej⟩:=i.out ao;subst eh;have b9:=dD eg;have ba:=dD ei;have bb:Xo (cc.2=_):=ej;have cm:=dD (a6.box.aA av)
 go_upto_region 6 with(refine qK rfl 34 (.tmp 36) (.tmp 33) rfl p 2 rfl (ar.x) rfl [ar.x] rfl cm (by simp[chL]) Kr (by simp[Value.oneCell']) ?_)
 intro F bi ab _;have ct:Xo (zl F h 93 [U8 r,U8 t,U8 x,U8 z,U8 A,U8 B,U8 C,U8 D,I6 M,Xh br,Xh bp,I6 bq,I6 bs]):=dD<|cs.beside ab (fun k e=>by cases e;omega)
 obtain⟨l,ap,ea,bn⟩:=a6.setS av be ab bi;have bd:=dD ap;have cq:=dD ea;have cn:=dD bn;have cp:Xo (∀W,zc F W->Xp prog 185 #[Xi #[l.sb.x,l.sq.x],I6 (j:Int),Xi #[U8 r,U8 t,U8 x,U8 z,U8 A,U8 B,U8 C,U8 D]] W fun e w'=>∃d q:Sli,e= Xl (Xm #[Xi #[d.x,q.x],I6 0])/\zO W.heap.size w' (Xi #[d.x,q.x]) (qt m.sb m.sq (j:Int)) (qr m.sb m.sq (j:Int) (pgL ⟨r,t,x,z,A,B,C,D⟩))/\zc W w'):=show∀W,_ from fun W an=>by
  have ah:=zc7 (Xi #[l.sb.x,l.sq.x]) m.sb m.sq (j:Int) (pgL ⟨r,t,x,z,A,B,C,D⟩) rfl W ⟨_,_,rfl,(ap.at.aA an).sb,(ap.at.aA an).sq⟩;rw[ba.out]at ah;refine ah.mono ?_;rintro e w' ⟨en,rfl,ck,bt⟩;obtain⟨d,q,rfl,_,_⟩:=ck.form;exact⟨d,q,rfl,ck,bt⟩
 have du:p<F.heap.size:=ap.aM p (.inl rfl);have az:Xo (p≠h):=dD<|Wm
 try simp only[Xx]
 go_upto_region 6 with fail;obtain⟨c,b⟩:=Wq fun u=>zl u h 93 [U8 r,U8 t,U8 x,U8 z,U8 A,U8 B,U8 C,U8 D,I6 M,Xh br,Xh bp,I6 bq,I6 bs]
 have n:=(b _).2 (ct.aA (gW _))
 have N:zc F F.drew:=show Below _ _ _ from(bR _ _).drew
 have dw:=fun y:zq c=>((b _).1 y.holds).box.c 0 rfl
 have dx:=fun y:zq c=>((b _).1 y.holds).box.c 1 rfl
 have dy:=fun y:zq c=>((b _).1 y.holds).box.c 2 rfl
 have dz:=fun y:zq c=>((b _).1 y.holds).box.c 3 rfl
 have e0:=fun y:zq c=>((b _).1 y.holds).box.c 4 rfl
 have e4:=fun y:zq c=>((b _).1 y.holds).box.c 5 rfl
 have e5:=fun y:zq c=>((b _).1 y.holds).box.c 6 rfl
 have e6:=fun y:zq c=>((b _).1 y.holds).box.c 7 rfl
 have bw:Nonempty (zq c):=⟨⟨_,n⟩⟩;refine qw (I:=c) 17 [(5,fun v=>v= Xi #[l.sb.x,l.sq.x]),(9,fun v=>∃d q:Sli,v= Xm #[Xi #[d.x,q.x],I6 0]),(16,fun _=>True)] (fun u=>zc F u) n N zW Kr rfl rfl Dc (Sc ⟨_,rfl⟩ ⟨_,ZH,ZH,rfl⟩ ⟨undef,trivial⟩) Kr ?_
 simp only[Ym,Yn];iterate 2 refine zy ?_
 refine qG (.tmp 39) ⟨p,0,Xb⟩ rfl rfl rfl rfl ?_;refine Uq ?_;iterate 2 refine zy ?_
 refine zV rfl rfl (fun _ u=>zc F u) (fun w' g a=>?_) (fun c8 a4=>?_)
 ·refine QO 38 (.tmp 42) rfl p 3 rfl [l.sb.x,l.sq.x] ((bd.box.box.aA a).mid 3 (fun j v ae=>by
   match j,ae with
   | 0,ae=>exact ae
   | 1,ae=>exact ae)) underlying38 rfl Kr ⟨g,rfl,a⟩
 cases a4;refine Uq ?_;iterate 3 refine zy ?_
 refine zV rfl rfl (fun v u=>∃(d q:Sli) (G:Xn),v= Xm #[Xi #[d.x,q.x],I6 0]/\zc F G/\zc G u/\zO G.heap.size u (Xi #[d.x,q.x]) (qt m.sb m.sq (j:Int)) (qr m.sb m.sq (j:Int) (pgL ⟨r,t,x,z,A,B,C,D⟩))) (fun w' g a=>?_) (fun c8 a4=>?_)
 ·refine zP.call [Xi #[l.sb.x,l.sq.x],I6 (j:Int),Xi #[U8 r,U8 t,U8 x,U8 z,U8 A,U8 B,U8 C,U8 D]] rfl func185 rfl rfl rfl ?_;refine(cp w' a).mono ?_;rintro e c9 ⟨d,q,rfl,ai,aa⟩;exact⟨_,rfl,(b _).2 (((b _).1 g).aA aa),⟨d,q,rfl⟩,d,q,w',rfl,a,aa,ai⟩
 obtain⟨d,q,rfl⟩:=a4;refine Uq ?_;iterate 3 refine zy ?_
 refine qG (.tmp 38) ⟨p,0,Xb⟩ rfl rfl rfl rfl ?_;refine Uq ?_;iterate 2 refine zy ?_
 refine zV rfl rfl (fun _ u=>Chg w0 X p F l {({ m with sl:=Qk m.sl M }:Ma)with sb:=qt m.sb m.sq (j:Int),sq:=qr m.sb m.sq (j:Int) (pgL ⟨r,t,x,z,A,B,C,D⟩) } u) (fun w' g a=>?_) (fun c8 a4=>?_)
 ·obtain⟨al,aq,G,S,Y,am,c7⟩:=a;have T:al=d/\aq=q:=by
   obtain⟨cv,cw,cx⟩:=d;obtain⟨cz,da,db⟩:=al;obtain⟨dl,cf,cg⟩:=q;obtain⟨eo,ep,eq⟩:=aq;simp only[Value.tuple.injEq,Array.mk.injEq,List.cons.injEq,Value.agg.injEq,vJ,and_true]at S;obtain⟨⟨rfl,rfl,rfl⟩,rfl,rfl,rfl⟩:=S;exact⟨rfl,rfl⟩
  obtain⟨rfl,rfl⟩:=T;have ca:=Y.trans am;refine jk 38 (.tmp 52) (.tmp 48) rfl p 3 rfl (Xi #[al.x,aq.x]) rfl [al.x,aq.x] rfl (bd.box.aA ca) (by simp[chL]) Kr (by simp[Value.oneCell']) ?_
  intro bh bj ac _;exact⟨(b _).2 (((b _).1 g).beside ac (fun k e=>by cases e;exact fun e=>az.out e.symm)),trivial,bd.setSw ca (bS Y) c7 ac bj⟩
 try simp only[Xx]
 refine jW fun bh bu P=>?_
 obtain⟨cd,cj,eb,bo⟩:=Chg.step cq cn P;have ek:Xo (ChW w0 X p bh cd _):=cj;have cr:=dD eb;have co:=dD bo;have bv:=a5.out bh cd j _ _ _ cj;go_wp2_with fail;refine bv.mono ?_;rintro e bg ⟨⟨es,rfl⟩,dn⟩;have bc:Xo (Chg w0 X p w V cc.2 bg):=show Chg _ _ _ _ _ _ _ by rw[bb.out];exact Chg.step cr co dn
 go_wp2;go_ret;exact⟨Rr b9.out,bc⟩
theorem zqT (x0 y0:Int) (x1 y1:Int) (w):(Op.equalIn 10000 142 (Xi #[I6 x0,I6 x1]) (Xi #[I6 y0,I6 y1])).run prog w= .ok ((x0 == y0) &&(x1 == y1)) w:=by
 have hf : (Tryz.prog.fieldsOf 142).toList.map (fun f => (f.name, f.type, f.offset)) = [("Proc", 3, 0), ("Page", 3, 1)] := by kernel_rfl
 rw[run_equalIn_struct w 9999 142 _ _ Kr Kr]
 obtain⟨f0,f1,hfs⟩:∃f0 f1,(Tryz.prog.fieldsOf 142).toList=[f0,f1]:=by
  have hl:(Tryz.prog.fieldsOf 142).toList.length=2:=by have:=congrArg List.length hf;simpa using this
  match hq:(Tryz.prog.fieldsOf 142).toList,hl with
  | [f0,f1],_=>exact⟨f0,f1,rfl⟩
 rw[hfs]at hf⊢
 simp at hf
 obtain⟨⟨n0,t0,o0⟩,⟨n1,t1,o1⟩⟩:=hf;have pI:=zdm w;simp only[Op.eqFields,n0,t0,o0,n1,t1,o1]
 simp[pI,run_equalIn_int w _ _ _ _ _ _ underlying3]
 by_cases e0:x0=y0
 case neg=>simp[e0]
 subst e0
 by_cases e1:x1=y1
 case neg=>simp[e1]
 subst e1;simp
def zoy (W:Xn) (y:Addr) (x:Nat × Nat):Prop:=W.cell? y=Xa (Xe Xf (x.1:Int))/\W.cell? { block:=y.block,off:=y.off+1 }=Xa (Xe Xf (x.2:Int))
theorem zj.bO {w:Xn} {v:Xq} {l:List (Nat × Nat)} (h:zj zaD w v l):∃a c,v= O a l.length c/\∀(j:Nat) x,l[j]? =Xa x->∃b,a=Xa b/\∀W,zc w W->zoy W (b.add (j*2)) x:=by
 obtain⟨a,c,d,e⟩:=h.rows;refine⟨a,c,d,fun j x g=>?_⟩
 obtain⟨b,f,d⟩:=e j x g;exact⟨b,f,fun W b=>⟨d W b 0 _ rfl,d W b 1 _ rfl⟩⟩
theorem zfR (v) (l:List (Nat × Nat)) (q n:Nat) (w) (U:zj zaD w v l):
  Xp prog 253 #[v,Xi #[I6 (q:Int),I6 (n:Int)]] w fun e w'=>(∃z:Int,e= Xl (I6 z)/\(0<=z↔(q,n)∈l))/\zc w w':=by
 have s:=U.short;obtain⟨ae,af,rfl,f⟩:=U.bO;have I:=dD f;clear f U;obtain⟨L,K⟩:=kA l.length;rw[K.out]at s⊢;obtain⟨c,b⟩:∃c:Int->Prop,Xo (∀z,(0<=z↔(q,n)∈l)=c z):=⟨_,fun _=>rfl⟩
 simp only[b.out];obtain⟨a3,W⟩:=kA w.heap.size;obtain⟨ac,d⟩:=kB (w.alloc (Xk #[I6 (q:Int),I6 (n:Int)] 142));have Z:=gA d
 have a1:=xP d W
 have N:=dD d;clear d;have aa:=zqT
 go_enter func253,ntmps253
 go_upto_region 1 with fail;rw[N.out,W.out];go_wp2
 go_loopg [5,8] L (fun a5 _ ab wr=>∃a:Nat,a<=L/\L - a<=a5/\ab=I6 a/\Xo (zc w wr)/\Xo (Box wr a3 [I6 (q:Int),I6 (n:Int)])/\Xo (∀(j:Nat) x,j<a->l[j]? =Xa x->x≠(q,n)))
 exact⟨0,nZ _,Wm,rfl,Z,a1,fun j x t=>absurd t (nL _)⟩
 obtain⟨a,a9,a8,rfl,F,P,V⟩:=hrel
 by_cases g:a<L
 ·have u:=kC g
  obtain⟨x,M⟩:∃x,Xo (l[a]? =Xa x):=⟨_,gE (Rx K.out g)⟩
  obtain⟨Q,rfl,Y⟩:=I.out a x M.out;have r:=dD<|fun X (a6:zc wr X)=>Y X (F.trans a6)
  clear Y;obtain⟨i,m⟩:=x;go_upto_region 4 with fail;have D:=fun y:zf wr=>(r _ y.aA).1
  have E:=fun y:zf wr=>(r _ y.aA).2
  have B:=P.gw 0 rfl
  have C:=P.gw 1 rfl
  have A:Nonempty (zf wr):=⟨⟨_,zc.refl _⟩⟩
  by_cases G:i=q/\m=n
  ·obtain⟨rfl,rfl⟩:=G;have p:Xo (c (a:Int)):=dD<|by
    rw[<-b.out];exact⟨fun _=>mG M,fun _=>Wm⟩
   refine qx [] zW Kr Sm Sm ?_
   iterate 6 refine ze ?_
   refine zL fun a0 k T=>?_
   have H:=dD (F.trans k);clear k T A D E B C;have a7:(((i:Int) ==(i:Int)) &&((m:Int) ==(m:Int)))=Xc:=Sm
   go_wp2;go_ret;exact⟨⟨_,rfl,p⟩,H⟩
  have p:Xo (∀(j:Nat) x,j<a+1->l[j]? =Xa x->x≠(q,n)):=dD<|fun j x t h=>by
   by_cases e:j=a
   ·subst e;rw[M.out]at h;cases h;exact fun e=>G (Prod.mk.inj e)
   exact V j x Wm h
  have a7:(((q:Int) ==(i:Int)) &&((n:Int) ==(m:Int)))=Xd:=by
   by_cases e:i=q
   ·have R:¬(n:Int)=(m:Int):=fun a4=>G ⟨e,Wm⟩
    simp[R]
   have R:¬(q:Int)=(i:Int):=fun a4=>e Wm
   simp[R]
  clear G;refine qx [] zW Kr Sm Sm ?_
  iterate 6 refine ze ?_
  refine zL fun a0 k T=>?_
  have H:=dD (F.trans k);have a2:=dD (P.aA k);clear k T A D E B C;go_wp2
  go_roundg (L -(a+1));exact⟨a+1,Wm,Wm,Gn,H,a2,p⟩;omega
 have u:=kD g
 have:a=L:=Wm
 subst this;have p:Xo (c (-1)):=dD<|by
  rw[<-b.out];refine⟨fun S=>absurd S Dc,fun S=>?_⟩
  obtain⟨j,t⟩:=Xz S;exact absurd rfl (V j _ (by rw[<-K.out];exact(gS.1 t).1) t)
 go_wp2;go_ret;exact⟨⟨_,rfl,p⟩,F⟩
theorem zcP (v) (l:List (Nat × Nat)) (q n:Nat) (w) (b:zj zaD w v l):
  Xp prog 249 #[v,Xi #[I6 (q:Int),I6 (n:Int)]] w fun e w'=>e= Xl (Xh (l.contains (q,n)))/\zc w w':=by
 have a:=zfR v l q n (w.alloc (Xk #[I6 (q:Int),I6 (n:Int)] 142)) (b.aA (za _ _));obtain⟨R,c⟩:=kA (l.contains (q,n));rw[c.out];clear b
 go_enter func249,ntmps249
 go_wp2_with fail;refine a.mono ?_;clear a;rintro e a ⟨⟨z,rfl,a⟩,b⟩;have f:=dD<|(za _ _).trans b
 clear b
 by_cases d:0<=z
 ·have b:Xo (R=Xc):=dD<|by rw[<-c.out];simpa using a.1 d
  clear a;go_wp2;go_ret;exact⟨Rr b.out,f⟩
 have b:Xo (R=Xd):=dD<|by
  rw[<-c.out]
  cases c:l.contains (q,n)with
  | false=>rfl
  | true=>exact absurd (a.2 (Si c)) d
 have c:Xo (decide (0<=z)=Xd):=decide_eq_false d;clear a;go_wp2;go_ret;exact⟨by rw[b.out,<-c.out];rfl,f⟩
variable{X:Nat->Prop}
theorem zro {e:En} {a b:Int}:isE e a b=(decide (e.kind=a) && decide (e.n=b)):=by
 unfold isE
 cases c:decide (e.kind=a) <;> cases c:decide (e.n=b) <;> simp_all
theorem zmH {w:Xn} {p:Nat} (F:ChW w0 X p w V m) (aq bd c1 c0:Nat) (f:Fr) (k:Nat) (a8) (l:List (Nat × Nat)) (ae:Box w aq (frv f)) (ah:Box w bd [a8]) (ai:Box w c1 [Xj (Xa ⟨p,0,Xb⟩)]) (ag:Box w c0 [I6 (k:Int)]) (H:zj zaD w a8 l)
  (q n:Nat) (s:Sp) (a:Ar) (bo:m.sp[q]? =Xa s) (c5:n<64) (ca:0<=f.f) (bh:a.file=f.f->(0<=a.base/\a.base<=100)/\(0<=a.fr/\a.fr<=100)):
  Xp prog 248 #[Xi #[I6 (q:Int),I6 (n:Int)],Xi #[I6 a.fr,I6 a.tz,Xh a.rd,Xh a.wr,Xh a.sh,I6 a.file,I6 a.base],Xj (Xa ⟨aq,0,Xb⟩),Xj (Xa ⟨bd,0,Xb⟩),Xj (Xa ⟨c1,0,Xb⟩),Xj (Xa ⟨c0,0,Xb⟩)] w fun e w'=>e= Xl (Xh (JD k f l q s a n))/\zc w w':=by
 have an:=(gS.1 bo).1;have al:Jo m q (n:Int)=zh s n:=by unfold Jo;rw[Sp.aP bo,JX c5]
 have bt:Xo (∀W,zc w W->Xp prog 136 #[Xj (Xa ⟨p,0,Xb⟩),Xi #[I6 (q:Int),I6 (n:Int)]] W fun e w'=>e= Xl (enV (zh s n))/\zc W w'):=dD<|fun W bg=>by rw[<-al];exact Ja (F.aA bg) q an (n:Int)
 have bu:Xo (∀W,a.file=f.f->Xp prog 169 #[Xi #[I6 a.fr,I6 a.tz,Xh a.rd,Xh a.wr,Xh a.sh,I6 a.file,I6 a.base],I6 (n:Int)] W fun e w'=>e= Xl (I6 (a.base+(n:Int) - a.fr))/\zc W w'):=dD<|fun W bi=>za2 a (n:Int) W (bh bi).1 (bh bi).2 Wm
 have bs:Xo (∀W,zc w W->Xp prog 249 #[a8,Xi #[I6 (q:Int),I6 (n:Int)]] W fun e w'=>e= Xl (Xh (l.contains (q,n)))/\zc W w'):=dD<|fun W bg=>zcP a8 l q n W (H.aA bg)
 have M:Xo (a.file=f.f->(qp a n).aG=a.base+(n:Int) - a.fr):=dD<|fun bi=>by
  unfold qp;simp only;rw[kE Wm]
  omega
 have c:Xo (JD k f l q s a n=(decide (a.file=f.f) && decide ((qp a n).aG=f.x) && !(l.contains (q,n)) &&(decide ((zh s n).kind=0) || (decide ((zh s n).kind=1) && decide ((zh s n).n=(k:Int)))))):=dD<|by
  unfold JD;rw[zro];rfl
 obtain⟨br,ay⟩:=kA (l.contains (q,n));rw[ay.out]at bs c;obtain⟨a3,b9⟩:=kA ((qp a n).aG);rw[b9.out]at M c;obtain⟨B,ar,be,ak⟩:∃B ar be,zh s n=⟨B,ar,be⟩:=⟨_,_,_,rfl⟩;rw[ak]at bt c;obtain⟨a4,c8⟩:=kA (JD k f l q s a n);rw[c8.out]at c⊢;simp only at c;have a9:=dD ae;have aw:=dD ah;have ax:=dD ai;have av:=dD ag;obtain⟨⟨ce,cf,cg,ch,ci,cj,ck,cl⟩,fr,co,cn,ac,ad⟩:=f;obtain⟨ab,r,i,t,j,b,d⟩:=a;simp only at bu M c ca;clear F ae ah ai ag H bo c5 bh an al ak;obtain⟨bz,au⟩:=kA w.heap.size;obtain⟨N,u⟩:=kB ((w.alloc (Xk #[I6 (q:Int),I6 (n:Int)] 142)).alloc (Xk #[I6 ab,I6 r,Xh i,Xh t,Xh j,I6 b,I6 d] 125));have L:=gD2 u
 have bc:Xo (Box N bz [I6 (q:Int),I6 (n:Int)]):=dD<|by rw[<-u,<-au.out];exact(Box.aE w _ _ rfl).alloc _
 have P:Xo (Box N (bz+1) [I6 ab,I6 r,Xh i,Xh t,Xh j,I6 b,I6 d]):=dD<|by rw[<-u];exact Box.aE _ [I6 ab,I6 r,Xh i,Xh t,Xh j,I6 b,I6 d] _ (by have:=au.out;simp;omega)
 have ba:Xo (_=N):=u;clear u
 go_enter func248,ntmps248
 go_upto_region 1 with fail;rw[ba.out,au.out];have U:=P.gw 0 rfl
 have Y:=P.gw 1 rfl
 have Z:=P.gw 2 rfl
 have I:=P.gw 3 rfl
 have a0:=P.gw 4 rfl
 have a1:=P.gw 5 rfl
 have a2:=P.gw 6 rfl
 have S:=bc.gw 0 rfl
 have T:=bc.gw 1 rfl
 have v:=fun A:zf N=>(a9.aA (L.trans A.aA)).c 11 rfl
 have x:=fun A:zf N=>(a9.aA (L.trans A.aA)).c 12 rfl
 have Q:=fun A:zf N=>(aw.aA (L.trans A.aA)).c 0 rfl
 have R:Nonempty (zf N):=⟨⟨_,zc.refl _⟩⟩
 by_cases E:b=ac
 rotate_left
 ·have c3:(b != ac)=Xc:=Si E
  have h:Xo (a4=Xd):=dD<|by rw[c.out,decide_eq_false E];rfl
  clear E;refine qx [] zW Kr Sm Sm ?_
  iterate 6 refine ze ?_
  iterate 7 (refine ji Kr ?_;simp only[Xx,sB,sS,sZ])
  iterate 2 refine ze ?_
  iterate 3 (refine ji Kr ?_;simp only[Xx,sB,sS,sZ])
  refine ze ?_
  refine zL fun bb g G=>?_
  have D:=dD (L.trans g);clear g G R U Y Z I a0 a1 a2 S T v x Q;go_wp2;go_ret;exact⟨Rr h.out,D⟩
 have c3:(b != ac)=Xd:=by simp[E]
 have am:=M.out E;have y:=fun W=>bu.out W E
 rw[<-am]at y;have az:Xo (decide (b=ac)=Xc):=decide_eq_true E;rw[az.out]at c;clear E am
 by_cases a5:a3=ad
 rotate_left
 ·have c4:(a3 != ad)=Xc:=Si a5
  have h:Xo (a4=Xd):=dD<|by rw[c.out,decide_eq_false a5];rfl
  clear a5;refine qx [(9,⟨fun K=>K=I6 a3,fun K w'=>True⟩)] zW Kr (Sa ⟨_,rfl⟩) ?hp ?_
  case hp=>
   intro bq z;simp only[mC,nM,or_false]at z;subst z;exact fun _ _ _ _ F=>F
  iterate 9 refine ze ?_
  refine zx rfl rfl (fun w' bj G=>?_) (fun c6 H=>?_)
  ·refine zP.call [Xi #[I6 ab,I6 r,Xh i,Xh t,Xh j,I6 b,I6 d],I6 (n:Int)] rfl func169 rfl rfl rfl ?_;refine(y w').mono ?_;rintro e ao ⟨rfl,g⟩;exact⟨_,rfl,g,rfl,trivial⟩
  subst H;refine Uq ?_;iterate 5 refine ze ?_
  iterate 3 (refine ji Kr ?_;simp only[Xx,sB,sS,sZ])
  refine ze ?_
  refine zL fun bb g G=>?_
  have D:=dD (L.trans g);clear g G R U Y Z I a0 a1 a2 S T v x Q y;go_wp2;go_ret;exact⟨Rr h.out,D⟩
 have c4:(a3 != ad)=Xd:=by simp[a5]
 have b8:Xo (decide (a3=ad)=Xc):=decide_eq_true a5;rw[b8.out]at c;clear a5;refine qx [(9,⟨fun K=>K=I6 a3,fun K w'=>True⟩),(17,⟨fun K=>K= Xh br,fun K w'=>True⟩)] zW Kr (Sb ⟨_,rfl⟩ ⟨_,rfl⟩) ?hp ?_
 case hp=>
  intro bq z;simp only[mC,nM,or_false]at z
  rcases z with rfl|rfl
  ·exact fun _ _ _ _ F=>F
  exact fun _ _ _ _ F=>F
 iterate 9 refine ze ?_
 refine zx rfl rfl (fun w' bj G=>?_) (fun c6 H=>?_)
 ·refine zP.call [Xi #[I6 ab,I6 r,Xh i,Xh t,Xh j,I6 b,I6 d],I6 (n:Int)] rfl func169 rfl rfl rfl ?_;refine(y w').mono ?_;rintro e ao ⟨rfl,g⟩;exact⟨_,rfl,g,rfl,trivial⟩
 subst H;refine Uq ?_;iterate 7 refine ze ?_
 refine zx rfl rfl (fun w' bj G=>?_) (fun c6 H=>?_)
 ·refine zP.call [a8,Xi #[I6 (q:Int),I6 (n:Int)]] rfl func249 rfl rfl rfl ?_;refine(bs w' (L.trans bj)).mono ?_;rintro e ao ⟨rfl,g⟩;exact⟨_,rfl,g,rfl,trivial⟩
 subst H;refine Uq ?_;refine ze ?_
 refine zL fun bb g G=>?_
 have D:=dD (L.trans g);have bw:=dD (bc.aA g);clear g G R U Y Z I a0 a1 a2 S T v x Q y c3 c4
 cases br with
 | true=>
  have h:Xo (a4=Xd):=dD<|Rr c.out
  go_wp2;go_ret;exact⟨Rr h.out,D⟩
 | false=>
  obtain⟨cc,cd⟩:=bw.k2;have cb:=(ax.aA D).c 0 rfl;have aj:=bt.out bb D.out;go_wp2_with fail;refine aj.mono ?_;clear aj cc cd cb;rintro e bv ⟨rfl,c2⟩;have c7:=dD (D.trans c2);clear c2;unfold enV;go_upto_region 4 with fail;obtain⟨cm,aa⟩:=kA bv.heap.size;obtain⟨c9,C⟩:=kB (bv.alloc (Xk #[I6 B,I6 ar,Xh be] 127));have ap:Xo (zc w c9):=show zc _ _ from c7.trans (by rw[<-C];exact za _ _)
  have bx:=xP C aa
  rw[C,aa.out];clear C;obtain⟨cq,cr⟩:=bx.k2;have cp:=(av.aA ap).c 0 rfl
  by_cases a6:B=0
  ·have bl:(B == 0)=Xc:=Rr a6
   have h:Xo (a4=Xc):=dD<|by rw[c.out,decide_eq_true a6];rfl
   clear a6;go_wp2;go_ret;exact⟨Rr h.out,ap⟩
  have bl:(B == 0)=Xd:=Si a6
  rw[decide_eq_false a6]at c;clear a6
  by_cases a7:B=1
  ·have bn:(B == 1)=Xc:=Rr a7
   rw[decide_eq_true a7]at c;clear a7;have h:Xo (a4=(ar ==(k:Int))):=dD<|Rr c.out
   go_wp2;go_ret;exact⟨Rr h.out,ap⟩
  have bn:(B == 1)=Xd:=Si a7
  rw[decide_eq_false a7]at c;clear a7;have h:Xo (a4=Xd):=dD<|Rr c.out
  go_wp2;go_ret;exact⟨Rr h.out,ap⟩
variable{X:Nat->Prop}
theorem zP.allocFr {a:Act} {w:Xn} {K:Xq->Xn->Prop} (d:o.op= .alloc 93) (h:K (Xj (Xa ⟨w.heap.size,0,Xb⟩)) (w.alloc (Xk (frv fr0).toArray 93))):zP prog o a w K:=by
 have e:(zeroValue 93).run prog w= .ok frz w:=by
  obtain⟨f,c,b,_,_⟩:=info_parts qi.aF;have:qi.ty=93:=rfl;rw[this]at c;have b:f.zero=Xa frz:=b
  simp[zeroValue,typeInfo,c,b]
 unfold zP;have:(execOp a.eval o).run prog w= .ok (.value (Xj (Xa ⟨w.heap.size,0,Xb⟩))) (w.alloc (Xk (frv fr0).toArray 93)):=by
  simp[execOp,d,go_sem,e]
  rfl
 rw[this];exact h
theorem zlI {w:Xn} {p:Nat} (bj:ChW w0 X p w V m) (dr:Rt m) (k:Nat) (f:Fr) (ds:m.fs[k]? =Xa f) (ey:0<=f.f) (f2) (l:List (Nat × Nat)) (aq:zj zaD w f2 l):
  Xp prog 241 #[Xj (Xa ⟨p,0,Xb⟩),I6 (k:Int),f2] w fun e w'=>e= Xl (Xh (zgI m k f l))/\zc w w':=by
 obtain⟨cq,cr,rfl,_⟩:=aq.rows;obtain⟨cs,dd⟩:=kA l.length;rw[dd.out]at aq⊢;have dc:=dD bj;have f8:=dD aq;have aw:Xo (∀(q:Nat) s,m.sp[q]? =Xa s->s.aD.length<=16/\∀a∈s.aD,jV a):=show∀(q:Nat) s,_ from fun q s bb=>by
  obtain⟨C,aa⟩:=zab.1 (dr.inv.bA s (mG bb)).1;exact⟨C,aa.all⟩
 have bq:=dD ey;obtain⟨gm,-⟩:=bj.at.ns;obtain⟨bg,U,cf⟩:=bj.at.bF k f ds;have da:=dD U;have db:=dD cf
 have gi:(k:Int)< (V.f.n:Int):=by
  have:=(gS.1 ds).1;omega
 obtain⟨ed,cl,ap,ck⟩:=bj.at.bG;obtain⟨-,-,-,-,-,-,-,-,f3⟩:=bj.at.ns;obtain⟨ec,bv⟩:=kA V.sp.a;obtain⟨ar,Y⟩:=kA m.sp.length;have de:Xo (V.sp.n=ar):=dD<|Rx f3 Y.out
 have f1:ar<=4:=Ry Y.out dr.inv.aQ
 have dk:Xo (ed.length=ar):=dD<|Rx cl Y.out
 have dh:Xo (∀(j:Nat) x,ed[j]? =Xa x->∃bg,ec=Xa bg/\∀az,zc w az->zoz az (bg.add (j*10)) x):=dD<|Ry bv.out ap
 have di:=dD ck
 obtain⟨cm,ax⟩:=kA (zgI m k f l);rw[ax.out];have bx:Xo ((∃(q:Nat) (s:Sp) (i:Nat) (a:Ar) (n:Nat),m.sp[q]? =Xa s/\s.aD[i]? =Xa a/\Jt a n=Xc/\n<64/\JD k f l q s a n=Xc)->cm=Xc):=dD<|fun⟨q,s,i,a,n,C,aa,c2,c3,dn⟩=>by
  rw[<-ax.out];exact zdf.2 ⟨q,s,i,a,n,C,aa,c2,c3,zbk.1 dn⟩
 have df:Xo ((∀(q:Nat) (s:Sp) (i:Nat) (a:Ar) (n:Nat),m.sp[q]? =Xa s->s.aD[i]? =Xa a->Jt a n=Xc->n<64->JD k f l q s a n=Xd)->cm=Xd):=dD<|fun dx=>by
  rw[<-ax.out]
  cases gb:zgI m k f l with
  | false=>rfl
  | true=>
   obtain⟨q,s,i,a,n,C,aa,c2,c3,dn⟩:=zdf.1 gb;have:=dx q s i a n C aa c2 c3;rw[zbk.2 dn]at this;cases this
 clear bj dr ds ey aq U cf gm f3 cl ap ck;obtain⟨h,bo⟩:=kA w.heap.size;obtain⟨g,r⟩:=kB (((w.alloc (Xk #[Xj (Xa ⟨p,0,Xb⟩)] 85)).alloc (Xk #[I6 (k:Int)] 3)).alloc (Xk #[O cq cs cr] 255));have cu:Xo (zc w g):=dD<|by rw[<-r];exact((za _ _).trans (za _ _)).trans (za _ _)
 have el:Xo (Box g h [Xj (Xa ⟨p,0,Xb⟩)]):=dD<|by rw[<-r,<-bo.out];exact((Box.aE w [Xj (Xa ⟨p,0,Xb⟩)] _ rfl).alloc _).alloc _
 have ek:Xo (Box g (h+1) [I6 (k:Int)]):=dD<|by rw[<-r];exact(Box.aE _ [I6 (k:Int)] _ (by have:=bo.out;simp;omega)).alloc _
 have fb:Xo (Box g (h+2) [O cq cs cr]):=dD<|by rw[<-r];exact Box.aE _ [O cq cs cr] _ (by have:=bo.out;simp;omega)
 have bp:Xo (g.heap.size=h+3):=dD<|by rw[<-r];have:=bo.out;simp;omega
 have dj:Xo (_=g):=r;clear r
 go_enter func241,ntmps241
 go_upto_region 1 with fail;rw[dj.out,bo.out];obtain⟨⟨F,G,H,K,L,M,N,P⟩,R,S,Q,z,T⟩:=f;have cn:zc g g.drew:=show Below _ _ _ from(bR _ _).drew
 obtain⟨I,av⟩:=Wq fun W=>zc g W
 have b8:=(av _).2 cn;have c4:g.drew=g.drew:=rfl;have dy:=el.h av 0 rfl
 have dt:=ek.h av 0 rfl
 have e7:∀y:zq I,y.world.cell? ⟨p,0,Xb⟩=Xa (O (Xa bg) V.f.n V.f.c):=fun y=>by rw[<-da.out];exact(dc.box.box.aA (cu.trans ((av _).1 y.holds))).c 0 rfl
 have b:∀y:zq I,zjy y.world (bg.add (k*13)) ⟨⟨F,G,H,K,L,M,N,P⟩,R,S,Q,z,T⟩:=fun y=>db.out _ (cu.trans ((av _).1 y.holds))
 have c5:=fun y=>(b y).1
 have c6:=fun y=>(b y).2.1
 have c7:=fun y=>(b y).2.2.1
 have c8:=fun y=>(b y).2.2.2.1
 have c9:=fun y=>(b y).2.2.2.2.1
 have ca:=fun y=>(b y).2.2.2.2.2.1
 have cb:=fun y=>(b y).2.2.2.2.2.2.1
 have cc:=fun y=>(b y).2.2.2.2.2.2.2.1
 have cd:=fun y=>(b y).2.2.2.2.2.2.2.2.1
 have ce:=fun y=>(b y).2.2.2.2.2.2.2.2.2.1
 have al:=fun y=>(b y).2.2.2.2.2.2.2.2.2.2.1
 have am:=fun y=>(b y).2.2.2.2.2.2.2.2.2.2.2.1
 have ao:=fun y=>(b y).2.2.2.2.2.2.2.2.2.2.2.2
 dsimp only at c5 c6 c7 c8 c9 ca cb cc cd ce al am ao;clear b;have dw:Nonempty (zq I):=⟨⟨_,b8⟩⟩;refine qw (I:=I) 11 [(9,fun gq=>gq= Xj (Xa ⟨h+3,0,Xb⟩)),(10,fun _=>True)] (fun W=>W=g.drew) b8 c4 zW Kr rfl rfl Dc (Sb ⟨_,rfl⟩ ⟨undef,trivial⟩) Kr ?_
 simp only[Ym,Yn];refine zy ?_
 refine qG (.tmp 14) ⟨p,0,Xb⟩ rfl rfl rfl rfl ?_;refine Uq ?_;iterate 7 refine zy ?_
 refine zV rfl rfl (fun _ W=>zl W (h+3) 93 (frv fr0)/\zc g W) (fun w' dp ah=>?_) (fun gr aq=>?_)
 ·subst ah;refine zP.allocFr rfl ?_;have bb:g.drew.heap.size=h+3:=bp.out;refine⟨(av _).2 (cn.trans (za _ _)),by rw[bb],zl.aE _ (frv fr0) _ bb.symm,cn.trans (za _ _)⟩
 subst aq;refine Uq ?_;refine zV rfl rfl (fun _ W=>zl W (h+3) 93 [U8 F,U8 G,U8 H,U8 K,U8 L,U8 M,U8 N,U8 P,I6 R,Xh S,Xh Q,I6 z,I6 T]/\zc g W) (fun w' dp ah=>?_) (fun gr aq=>?_)
 ·refine zP.aL 93 (.tmp 7) (.tmp 22) rfl (h+3) rfl [U8 F,U8 G,U8 H,U8 K,U8 L,U8 M,U8 N,U8 P,I6 R,Xh S,Xh Q,I6 z,I6 T] rfl ah.1 rfl Kr (by simp[Value.oneCell']) ?_
  intro ep dl dm _;have bi:zc g ep:=zd ah.2 dm (Hm bp.out)
  exact⟨(av _).2 bi,trivial,dl,bi⟩
 clear aq;try simp only[Xx]
 refine jW fun bf dq D=>?_
 have f5:=dD D.1.box;have au:=dD<|cu.trans D.2;have em:=dD<|el.aA D.2;have f9:=dD<|ek.aA D.2;have fc:=dD<|fb.aA D.2;clear dq D b8 c4 dy dt e7 c5 c6 c7 c8 c9 ca cb cc cd ce al am ao dw cn;have gj:∀(ex:Fn) (first c0:Array Xq) (w:Xn),(Instr.makeFunc ex first c0).run prog w= .ok (.func ex first c0) w:=fun _ _ _ _=>rfl
 have hd:=enters_of func248 Kr rfl
 have gn:=em.c 0 rfl;have bz:=(dc.box.box.aA au).c 10 rfl;rw[de.out,bv.out]at bz;go_wp2;clear gn bz;have bw:Xo (∀az,zc bf az->∀(q n:Nat) s a,m.sp[q]? =Xa s->a∈s.aD->n<64->Xp prog 248 #[Xi #[I6 (q:Int),I6 (n:Int)],Xi #[I6 a.fr,I6 a.tz,Xh a.rd,Xh a.wr,Xh a.sh,I6 a.file,I6 a.base],Xj (Xa ⟨h+3,0,Xb⟩),Xj (Xa ⟨h+2,0,Xb⟩),Xj (Xa ⟨h,0,Xb⟩),Xj (Xa ⟨h+1,0,Xb⟩)] az fun e w'=>e= Xl (Xh (JD k ⟨⟨F,G,H,K,L,M,N,P⟩,R,S,Q,z,T⟩ l q s a n))/\zc az w'):=dD<|fun az bk q n s a bb U cp=>by
  obtain⟨fk,gy,gz,h6,h7,fl,h8,fm⟩:=(aw q s bb).2 a U;exact zmH (dc.aA (au.trans bk)) (h+3) (h+2) h (h+1) ⟨⟨F,G,H,K,L,M,N,P⟩,R,S,Q,z,T⟩ k (O cq cs cr) l (f5.aA bk) (fc.aA bk) (em.aA bk) (f9.aA bk) (f8.aA (au.trans bk)) q n s a bb cp bq (fun e=>⟨⟨fl,by have:a.file=z:=e;have hg:0<=z:=bq.out;have:=fm Wm;omega⟩,fk,Wm⟩)
 go_loopg [30] ar (fun c1 ea wr=>∃q:Nat,q<=ar/\ar - q<=c1/\ea=I6 q/\Xo (zc bf wr)/\Xo (∀(B:Nat) (s:Sp) (i:Nat) (a:Ar) (n:Nat),B<q->m.sp[B]? =Xa s->s.aD[i]? =Xa a->Jt a n=Xc->n<64->JD k ⟨⟨F,G,H,K,L,M,N,P⟩,R,S,Q,z,T⟩ l B s a n=Xd))
 exact⟨0,nZ _,Wm,rfl,zc.refl _,fun B s i a n f0=>absurd f0 (nL _)⟩
 obtain⟨q,f0,gh,rfl,cx,ef⟩:=hrel
 by_cases A:q<ar
 ·have cj:=kC A
  obtain⟨x,bl⟩:∃x,ed[q]? =Xa x:=⟨_,gE (Rx dk.out A)⟩
  obtain⟨s,be⟩:∃s,Xo (m.sp[q]? =Xa s):=⟨_,gE (Rx Y.out A)⟩
  have bn:=dD<|di.out q x s bl be.out;obtain⟨bg,rfl,cf⟩:=dh.out q x bl;obtain⟨fv,fw,fy,fz,g0,g1,g2,g3,g4,g6⟩:=cf wr (au.trans cx);clear cf bl;go_upto_region 6 with fail;obtain⟨he,br⟩:=kA wr.heap.size;obtain⟨fi,ai⟩:=kB (wr.alloc (Xk #[Xh x.aH,x.ar.x,x.t0.x,x.t1.x,x.t2.x,x.t3.x,x.t4.x,x.t5.x,x.t6.x,x.t7.x] 76));have f6:Xo (zc bf fi):=show zc _ _ from cx.trans (by rw[<-ai];exact za _ _)
  have fe:=xP ai br
  rw[ai,br.out];clear ai fv fw fy fz g0 g1 g2 g3 g4 g6;have cy:=dD bn.ar.n;obtain⟨bh,ag⟩:=kA s.aD.length;have ga:bh<=16:=by rw[<-ag.out];exact(aw q s be).1
  obtain⟨fp,fq,b9,ak⟩:=bn.ar.aD;simp only[vJ]at b9;have cz:=dD ak;have e8:=fe.c 1 rfl;simp only[Sli.x]at e8;rw[b9.1,cy.out,ag.out]at e8;clear b9 ak;go_wp2;clear e8
  go_loopg [38] bh (fun c1 eb wr=>∃j:Nat,j<=bh/\bh - j<=c1/\eb=I6 j/\Xo (zc bf wr)/\Xo (∀(i:Nat) (a:Ar) (n:Nat),i<j->s.aD[i]? =Xa a->Jt a n=Xc->n<64->JD k ⟨⟨F,G,H,K,L,M,N,P⟩,R,S,Q,z,T⟩ l q s a n=Xd))
  exact⟨0,nZ _,Wm,rfl,f6,fun i a n ez=>absurd ez (nL _)⟩
  obtain⟨j,hh,ge,rfl,cv,eh⟩:=hrel
  by_cases ac:j<bh
  ·have ch:=kC ac
   obtain⟨a,bm⟩:∃a,Xo (s.aD[j]? =Xa a):=⟨_,gE (Rx ag.out ac)⟩
   obtain⟨fo,rfl,cg⟩:=cz.out j a bm.out;obtain⟨eq,er,es,et,eu,ev,ew⟩:=cg wr (au.trans cv);have E:=(aw q s be).2 a (mG bm);obtain⟨v,ba⟩:∃v:Nat,a.fr=(v:Int):=⟨a.fr.toNat,Hm E.1⟩
   obtain⟨u,bd⟩:∃u:Nat,a.tz=(u:Int):=⟨a.tz.toNat,by have:=E.1;have:=E.2.1;omega⟩
   have gc:v<u:=Hm E.2.1
   have dz:u<=64:=Hm E.2.2.1
   have bu:=dD<|mG bm.out;have bt:Xo (∀n:Nat,Jt a n=Xc↔v<=n/\n<u):=show∀n:Nat,_ from fun n=>by rw[jl,ba,bd];omega
   obtain⟨h9,ft,Z,a9,a0,d,c⟩:=a;simp only at ba bd eq er es et eu ev ew;subst ba;subst bd;clear cg E;go_upto_region 9 with fail;obtain⟨g7,bs⟩:=kA wr.heap.size;obtain⟨fj,aj⟩:=kB (wr.alloc (Xk #[I6 (v:Int),I6 (u:Int),Xh Z,Xh a9,Xh a0,I6 d,I6 c] 125));have f7:Xo (zc bf fj):=dD<|cv.trans (by rw[<-aj];exact za _ _)
   have en:=xP aj bs
   rw[aj,bs.out];clear aj eq er es et eu ev ew;have ee:=en.c 0 rfl;go_wp2;clear ee
   go_loopg [13] (u - v) (fun c1 e9 wr=>∃n:Nat,v<=n/\n<=u/\u - n<=c1/\e9=I6 n/\Xo (zc bf wr)/\Xo (Box wr g7 [I6 (v:Int),I6 (u:Int),Xh Z,Xh a9,Xh a0,I6 d,I6 c])/\Xo (∀t:Nat,v<=t->t<n->JD k ⟨⟨F,G,H,K,L,M,N,P⟩,R,S,Q,z,T⟩ l q s ⟨(v:Int),(u:Int),Z,a9,a0,d,c⟩ t=Xd))
   exact⟨v,nR _,Wm,Wm,rfl,f7,en,fun t C aa=>absurd aa Wm⟩
   obtain⟨n,dv,gk,gf,rfl,cw,eo,ei⟩:=hrel;obtain⟨ee,gs,gt,gu,gv,gw,gx⟩:=eo.c7
   by_cases ae:n<u
   ·have ci:=kC ae
    have co:=bw.out wr cw q n s _ be bu Wm
    simp only at co;obtain⟨fh,ay⟩:=kA (JD k ⟨⟨F,G,H,K,L,M,N,P⟩,R,S,Q,z,T⟩ l q s ⟨(v:Int),(u:Int),Z,a9,a0,d,c⟩ n);rw[ay.out]at co;go_wp2_with fail;refine co.mono ?_;rintro e ep ⟨rfl,bi⟩;have ej:=dD (cw.trans bi);have fg:=dD (eo.aA bi);clear bi co ee gs gt gu gv gw gx
    cases fh with
    | true=>
     have dg:Xo (cm=Xc):=bx.out ⟨q,s,j,_,n,be,bm,(bt n).2 ⟨dv,ae⟩,Wm,ay⟩
     go_wp2;go_ret;exact⟨Rr dg.out,au.trans ej⟩
    | false=>
     have f4:Xo (∀t:Nat,v<=t->t<n+1->JD k ⟨⟨F,G,H,K,L,M,N,P⟩,R,S,Q,z,T⟩ l q s ⟨(v:Int),(u:Int),Z,a9,a0,d,c⟩ t=Xd):=dD<|fun t C aa=>by
      by_cases e:t=n
      ·subst e;exact ay.out
      exact ei t C Wm
     go_wp2
     go_roundg (u -(n+1));exact⟨n+1,Wm,Wm,Wm,Gn,ej,fg,f4⟩;omega
   have ci:=kD ae
   have ct:Xo (∀(i:Nat) (a:Ar) (n:Nat),i<j+1->s.aD[i]? =Xa a->Jt a n=Xc->n<64->JD k ⟨⟨F,G,H,K,L,M,N,P⟩,R,S,Q,z,T⟩ l q s a n=Xd):=dD<|fun i a t ez U ab du=>by
    by_cases e:i=j
    ·subst e;rw[bm.out]at U;cases U;obtain⟨C,aa⟩:=(bt t).1 ab;exact ei t C Wm
    exact eh i a t Wm U ab du
   go_wp2
   go_roundg (bh -(j+1));exact⟨j+1,Wm,Wm,Gn,cw,ct⟩;omega
  have ch:=kD ac
  have A2:Xo (∀(B:Nat) (s:Sp) (i:Nat) (a:Ar) (n:Nat),B<q+1->m.sp[B]? =Xa s->s.aD[i]? =Xa a->Jt a n=Xc->n<64->JD k ⟨⟨F,G,H,K,L,M,N,P⟩,R,S,Q,z,T⟩ l B s a n=Xd):=show∀(B:Nat) (s:Sp) (i:Nat) (a:Ar) (n:Nat),_ from fun B gp i a n gl bc U ab cp=>by
   by_cases e:B=q
   ·subst e;rw[be.out]at bc;cases bc;exact eh i a n (by have:=(gS.1 U).1;have:=ag.out;omega) U ab cp
   exact ef B gp i a n Wm bc U ab cp
  go_wp2
  go_roundg (ar -(q+1));exact⟨q+1,Wm,Wm,Gn,cv,A2⟩;omega
 have cj:=kD A
 have dg:Xo (cm=Xd):=df.out fun B s i a n C aa c2 c3=>ef.out B s i a n (by have:=(gS.1 C).1;have:=Y.out;omega) C aa c2 c3
 go_wp2;go_ret;exact⟨Rr dg.out,au.trans cx⟩
variable{X:Nat->Prop}
theorem ziA (a0 a1 a2 a3 a4 a5 a6 a7 c0 a b c d e f g:Int) (x):(Op.equalIn 10000 91 (Xi #[U8 a0,U8 a1,U8 a2,U8 a3,U8 a4,U8 a5,U8 a6,U8 a7]) (Xi #[U8 c0,U8 a,U8 b,U8 c,U8 d,U8 e,U8 f,U8 g])).run prog x= .ok (decide ([a0,a1,a2,a3,a4,a5,a6,a7]=[c0,a,b,c,d,e,f,g])) x:=by
 have h:=zb1 9998 a0 a1 a2 a3 a4 a5 a6 a7 c0 a b c d e f g x;rw[show zfA ⟨a0,a1,a2,a3,a4,a5,a6,a7⟩ ⟨c0,a,b,c,d,e,f,g⟩=decide ([a0,a1,a2,a3,a4,a5,a6,a7]=[c0,a,b,c,d,e,f,g])from by
  rw[Bool.eq_iff_iff,zbo,decide_eq_true_iff]
  simp]at h
 exact h
theorem zlM {w:Xn} {p:Nat} (h:ChW w0 X p w V m) (ax:Rt m) (k:Nat) (f:Fr) (a8:m.fs[k]? =Xa f) (cg:f.f≠-1) (de:f.r≠0) (c8) (l:List (Nat × Nat)) (A:zj zaD w c8 l):
  Xp prog 230 #[Xj (Xa ⟨p,0,Xb⟩),I6 (k:Int),c8] w fun e w'=>e= Xl (Xh (zdS m k f l).1)/\Chg w0 X p w V (zdS m k f l).2 w':=by
 obtain⟨f3,f0,Y,B,am,bt,a⟩:=zao ax a8 cg;have a9:=mG bt;have bx:qW m f.f=am.size:=by unfold qW;rw[a.ff,tN,gD,a.fl];rfl
 have hcut:zfb m f=qJ (pgL f.p) (B:Int) am.size:=by unfold zfb;rw[bx,a.fx]
 have e3:0<=f.f:=by rw[a.ff];omega
 obtain⟨cp,bs⟩:∃cp,am.bl[B]? =Xa cp:=⟨_,gE a.bl⟩;have s:=dD h;obtain⟨q,I⟩:=kA (zfb m f);have a6:q.length=8:=by rw[<-I.out,hcut];unfold qJ;simp[pgL]
 have C:Xo (∀W,zc w W->Xp prog 227 #[Xj (Xa ⟨p,0,Xb⟩),Xi (frv f).toArray] W fun e w'=>e= Xl (Xi (pgc q).toArray)/\zc W w'):=dD<|fun W z=>by
  rw[<-I.out,hcut];exact(zcB (h.aA z) f Y B am a.ff a.fx a.fl a.sz a.lo).mono fun e w' S=>⟨S.1,S.2.2⟩
 obtain⟨ak,ba⟩:=kA (zgI m k f l);have cl:Xo (∀W,zc w W->Xp prog 241 #[Xj (Xa ⟨p,0,Xb⟩),I6 (k:Int),c8] W fun e w'=>e= Xl (Xh ak)/\zc W w'):=dD<|fun W z=>by
  rw[<-ba.out];exact zlI (h.aA z) ax k f a8 e3 c8 l (A.aA z)
 obtain⟨cb,ac⟩:=kA (z9 m f.f f.x);have a7:cb.length=8:=by
  rw[<-ac.out];have ej:=h.at;exact Qa ej.db.2.1 ej.dq.2.1 _ _
 have af:Xo (∀W,zc w W->Xp prog 155 #[Xi (mL V m).toArray,I6 (Y:Int),I6 (B:Int)] W fun e w'=>e= Xl (Xi (pgc cb).toArray)/\zc W w'):=dD<|fun W z=>by
  rw[<-ac.out,a.ff,a.fx];have f4:=a.sz;have f5:=a.lo;exact(zaO V m Y B am cp W (h.at.aA z) a.fl bs Wm Wm).mono fun e w' S=>⟨S.1,S.2.2⟩
 obtain⟨T,ab⟩:=kA (decide (Zh m.fl m.cnt f.f f.x=0));have bd:Xo (∀W,zc w W->Xp prog 195 #[Xj (Xa ⟨p,0,Xb⟩),I6 (k:Int)] W fun e w'=>e= Xl (Xh T)/\Chg w0 X p w V (wrM m q f.f f.x) w'):=dD<|fun W z=>by
  have eh:=zkg (h.aA z) k f a8 Y B am a.ff a.fx a.fl a.sz a.lo;rw[<-hcut,I.out,<-a.ff,<-a.fx,ab.out]at eh;exact eh.mono fun e w' S=>⟨S.1,Chg.aI z S.2.bW⟩
 have bb:Xo (∀W co,ChW w0 X p W co (wrM m q f.f f.x)->Xp prog 186 #[Xj (Xa ⟨p,0,Xb⟩),I6 (k:Int)] W fun e w'=>(∃v,e= Xl v)/\Chg w0 X p W co (z2 (wrM m q f.f f.x) k) w'):=dD<|fun W co cr=>by
  have df:Rt (wrM m q f.f f.x):=by
   by_cases e:Zh m.fl m.cnt f.f f.x=0
   ·obtain⟨dr,eu,ev,_⟩:=zfo (fun _ _=>False) ax a9 a e q
    rw[eu];exact ev.rt
   have:wrM m q f.f f.x=m:=by unfold wrM;rw[kF e]
   rw[this];exact ax
  exact zdT cr df k f (Rx zmd a8) cg de
 have bc:Xo (∀W,zc w W->Xp prog 186 #[Xj (Xa ⟨p,0,Xb⟩),I6 (k:Int)] W fun e w'=>(∃v,e= Xl v)/\Chg w0 X p w V (z2 m k) w'):=dD<|fun W z=>(zdT (h.aA z) ax k f a8 cg de).mono fun e w' S=>⟨S.1,Chg.aI z S.2⟩
 obtain⟨aj,ae⟩:=kA (decide (q=pgL f.p));obtain⟨j,a5⟩:=kA (decide (cb=q));obtain⟨U,b9⟩:=kA (zdS m k f l);have cc:Xo (U=if aj=Xd/\ak=Xc then(Xd,m)else if f.d=Xc\/j=Xd then(if T=Xc then(Xc,z2 (wrM m q f.f f.x) k)else if j=Xc then(Xc,z2 m k)else(Xd,m))else(Xc,z2 m k)):=dD<|by
  rw[<-b9.out];unfold zdS;rw[I.out,ba.out,ac.out,<-ae.out,<-a5.out,<-ab.out];simp only[decide_eq_false_iff_not,decide_eq_true_eq]
 have ai:Xo (T=Xd->wrM m q f.f f.x=m):=dD<|fun e=>by
  unfold wrM;rw[kF (of_decide_eq_false (ab.trans e))]
 rw[b9.out];obtain⟨cd,ck⟩:=kA (wrM m q f.f f.x);rw[ck.out]at bd bb cc ai;obtain⟨ey,-⟩:=h.at.ns;obtain⟨ez,e6,e7⟩:=h.at.bF k f a8;have ci:=dD e6;have cj:=dD e7
 have ex:(k:Int)< (V.f.n:Int):=by
  have:=(gS.1 a8).1;omega
 have bu:=a.ff;have bv:=a.fx;obtain⟨be,bf,bg,bh,bi,bj,a0,bl,a2⟩:=zba q a6;obtain⟨e9,ea,eb,ec,ed,ee,ef,eg,al⟩:=zba cb a7;obtain⟨⟨an,ao,ap,aq,ar,au,av,aw⟩,bq,br,D,f1,f2⟩:=f;dsimp only at bu bv ae cc;have dc:∀W,(Op.equalIn 10000 91 (Xi #[U8 be,U8 bf,U8 bg,U8 bh,U8 bi,U8 bj,U8 a0,U8 bl]) (Xi #[U8 an,U8 ao,U8 ap,U8 aq,U8 ar,U8 au,U8 av,U8 aw])).run prog W= .ok aj W:=fun W=>by
  rw[ziA];have:=ae.out;rw[a2]at this;rw[<-this];rfl
 have dd:∀W,(Op.equalIn 10000 91 (Xi #[U8 e9,U8 ea,U8 eb,U8 ec,U8 ed,U8 ee,U8 ef,U8 eg]) (Xi #[U8 be,U8 bf,U8 bg,U8 bh,U8 bi,U8 bj,U8 a0,U8 bl])).run prog W= .ok j W:=fun W=>by
  rw[ziA,<-a2,<-al,a5.out]
 rw[a2]at C;rw[al]at af;subst bu;subst bv;simp only[pgc,frv,mP,Yy]at C af;clear h ax a8 cg de A bt a a9 bx hcut e3 bs a6 a7 e6 e7 ey a2 al;have ek:=s.box.box.c 0 rfl;rw[ci.out]at ek;obtain⟨ds,dt,du,dv,dw,dx,bp,dy,dz,e0,bm,bn,bo⟩:=cj.out w (zc.refl _);dsimp only at ds dt du dv dw dx bp dy dz e0 bm bn bo
 go_enter func230,ntmps230
 go_upto_region 2 with fail;clear ds dt du dv dw dx bp dy dz e0 bm bn bo ek;obtain⟨dr,dm⟩:=kA w.heap.size;obtain⟨ce,a1⟩:=kB (w.alloc (Xk #[U8 an,U8 ao,U8 ap,U8 aq,U8 ar,U8 au,U8 av,U8 aw,I6 bq,Xh br,Xh D,I6 (Y:Int),I6 (B:Int)] 93));have ay:=gA a1
 have dq:=xP a1 dm
 rw[a1,dm.out];clear a1;have e8:∀y:zf ce,Box y.world dr [U8 an,U8 ao,U8 ap,U8 aq,U8 ar,U8 au,U8 av,U8 aw,I6 bq,Xh br,Xh D,I6 (Y:Int),I6 (B:Int)]:=fun y=>dq.aA y.aA
 have t:Xo (∀y:zf ce,_):=e8;clear e8;have F:=fun y=>(t y).c 0 rfl
 have G:=fun y=>(t y).c 1 rfl
 have H:=fun y=>(t y).c 2 rfl
 have K:=fun y=>(t y).c 3 rfl
 have L:=fun y=>(t y).c 4 rfl
 have M:=fun y=>(t y).c 5 rfl
 have N:=fun y=>(t y).c 6 rfl
 have P:=fun y=>(t y).c 7 rfl
 have Q:=fun y=>(t y).c 8 rfl
 have R:=fun y=>(t y).c 9 rfl
 have d:=fun y=>(t y).c 10 rfl
 have g:=fun y=>(t y).c 11 rfl
 have i:=fun y=>(t y).c 12 rfl
 have E:Nonempty (zf ce):=⟨⟨_,zc.refl _⟩⟩
 go_cut [30] (fun dg c9=>dg= Xh (!aj && ak)/\Xo (zc ce c9))
 case first=>
  cases aj with
  | true=>
   refine qx [(2,⟨fun v=>v= Xi #[U8 be,U8 bf,U8 bg,U8 bh,U8 bi,U8 bj,U8 a0,U8 bl],fun v w'=>True⟩)] zW Kr (Sa ⟨_,rfl⟩) ?hp ?_
   case hp=>
    intro ca c;simp only[mC,nM,or_false]at c;subst c;exact fun _ _ _ _ h=>h
   iterate 2 refine ze ?_
   refine zx rfl rfl (fun w' a3 Z=>?_) (fun ch A=>?_)
   ·refine zP.call [Xj (Xa ⟨p,0,Xb⟩),Xi #[U8 an,U8 ao,U8 ap,U8 aq,U8 ar,U8 au,U8 av,U8 aw,I6 bq,Xh br,Xh D,I6 (Y:Int),I6 (B:Int)]] rfl func227 rfl rfl rfl ?_;refine(C w' (ay.trans a3)).mono ?_;rintro e a4 ⟨rfl,n⟩;exact⟨_,rfl,n,rfl,trivial⟩
   subst A;refine Uq ?_;iterate 4 refine ze ?_
   iterate 4 (refine ji Kr ?_;simp only[Xx,sB,sS,sZ])
   refine ze ?_
   refine zL fun eq n Z=>?_
   have aa:=dD n;clear n Z E F G H K L M N P Q R d g i;go_wp2
   go_meet
   exact⟨rfl,aa⟩
  | false=>
   refine qx [(2,⟨fun v=>v= Xi #[U8 be,U8 bf,U8 bg,U8 bh,U8 bi,U8 bj,U8 a0,U8 bl],fun v w'=>True⟩),(10,⟨fun v=>v= Xh ak,fun v w'=>True⟩)] zW Kr (Sb ⟨_,rfl⟩ ⟨_,rfl⟩) ?hp ?_
   case hp=>
    intro ca c;simp only[mC,nM,or_false]at c
    rcases c with rfl|rfl
    ·exact fun _ _ _ _ h=>h
    exact fun _ _ _ _ h=>h
   iterate 2 refine ze ?_
   refine zx rfl rfl (fun w' a3 Z=>?_) (fun ch A=>?_)
   ·refine zP.call [Xj (Xa ⟨p,0,Xb⟩),Xi #[U8 an,U8 ao,U8 ap,U8 aq,U8 ar,U8 au,U8 av,U8 aw,I6 bq,Xh br,Xh D,I6 (Y:Int),I6 (B:Int)]] rfl func227 rfl rfl rfl ?_;refine(C w' (ay.trans a3)).mono ?_;rintro e a4 ⟨rfl,n⟩;exact⟨_,rfl,n,rfl,trivial⟩
   subst A;refine Uq ?_;iterate 7 refine ze ?_
   refine zx rfl rfl (fun w' a3 Z=>?_) (fun ch A=>?_)
   ·refine zP.call [Xj (Xa ⟨p,0,Xb⟩),I6 (k:Int),c8] rfl func241 rfl rfl rfl ?_;refine(cl w' (ay.trans a3)).mono ?_;rintro e a4 ⟨rfl,n⟩;exact⟨_,rfl,n,rfl,trivial⟩
   subst A;refine Uq ?_;refine ze ?_
   refine zL fun eq n Z=>?_
   have aa:=dD n;clear n Z E F G H K L M N P Q R d g i;go_wp2
   go_meet
   exact⟨rfl,aa⟩
 obtain⟨rfl,aa⟩:=hcut;clear E F G H K L M N P Q R d g i;obtain⟨en,cm⟩:=kA (!aj && ak);rw[cm.out]
 cases en with
 | true=>
  have x:Xo (U=(Xd,m)):=dD<|by
   rw[cc.out,kE];have:=cm.out
   cases aj <;> cases ak <;> simp_all
  go_wp2;go_ret;exact⟨Rr x.out,by rw[x.out];exact Chg.refl s (ay.trans aa)⟩
 | false=>
  have az:Xo (U=if D=Xc\/j=Xd then(if T=Xc then(Xc,z2 cd k)else if j=Xc then(Xc,z2 m k)else(Xd,m))else(Xc,z2 m k)):=dD<|by
   rw[cc.out,kF];have:=cm.out
   cases aj <;> cases ak <;> simp_all
  go_upto_region 4 with fail;have b:=dD (ay.trans aa);have r:=dD (dq.aA aa);have F:=fun y:zf wc=>(r.aA y.aA).c 0 rfl
  have G:=fun y:zf wc=>(r.aA y.aA).c 1 rfl
  have H:=fun y:zf wc=>(r.aA y.aA).c 2 rfl
  have K:=fun y:zf wc=>(r.aA y.aA).c 3 rfl
  have L:=fun y:zf wc=>(r.aA y.aA).c 4 rfl
  have M:=fun y:zf wc=>(r.aA y.aA).c 5 rfl
  have N:=fun y:zf wc=>(r.aA y.aA).c 6 rfl
  have P:=fun y:zf wc=>(r.aA y.aA).c 7 rfl
  have Q:=fun y:zf wc=>(r.aA y.aA).c 8 rfl
  have R:=fun y:zf wc=>(r.aA y.aA).c 9 rfl
  have d:=fun y:zf wc=>(r.aA y.aA).c 10 rfl
  have g:=fun y:zf wc=>(r.aA y.aA).c 11 rfl
  have i:=fun y:zf wc=>(r.aA y.aA).c 12 rfl
  have cs:=fun y:zf wc=>(s.box.box.aA (b.trans y.aA)).c 0 rfl
  have ct:=fun y:zf wc=>(s.box.box.aA (b.trans y.aA)).c 1 rfl
  have cu:=fun y:zf wc=>(s.box.box.aA (b.trans y.aA)).c 2 rfl
  have cv:=fun y:zf wc=>(s.box.box.aA (b.trans y.aA)).c 3 rfl
  have cw:=fun y:zf wc=>(s.box.box.aA (b.trans y.aA)).c 4 rfl
  have cx:=fun y:zf wc=>(s.box.box.aA (b.trans y.aA)).c 5 rfl
  have cy:=fun y:zf wc=>(s.box.box.aA (b.trans y.aA)).c 6 rfl
  have cz:=fun y:zf wc=>(s.box.box.aA (b.trans y.aA)).c 7 rfl
  have da:=fun y:zf wc=>(s.box.box.aA (b.trans y.aA)).c 8 rfl
  have db:=fun y:zf wc=>(s.box.box.aA (b.trans y.aA)).c 9 rfl
  have bw:=fun y:zf wc=>(s.box.box.aA (b.trans y.aA)).c 10 rfl
  have E:Nonempty (zf wc):=⟨⟨_,zc.refl _⟩⟩;refine qx [(8,⟨fun v=>v= Xi #[U8 e9,U8 ea,U8 eb,U8 ec,U8 ed,U8 ee,U8 ef,U8 eg],fun v w'=>True⟩),(11,⟨fun v=>v= Xi #[U8 be,U8 bf,U8 bg,U8 bh,U8 bi,U8 bj,U8 a0,U8 bl],fun v w'=>True⟩)] zW Kr (Sb ⟨_,rfl⟩ ⟨_,rfl⟩) ?hp ?_
  case hp=>
   intro ca c;simp only[mC,nM,or_false]at c
   rcases c with rfl|rfl
   ·exact fun _ _ _ _ h=>h
   exact fun _ _ _ _ h=>h
  refine ze ?_
  refine jG (.tmp 31) ⟨p,0,Xb⟩ rfl rfl rfl rfl ?_;refine Uq ?_;iterate 6 refine ze ?_
  refine zx rfl rfl (fun w' a3 Z=>?_) (fun ch A=>?_)
  ·refine zP.call [Xi (mL V m).toArray,I6 (Y:Int),I6 (B:Int)] rfl func155 rfl rfl rfl ?_;refine(af w' (b.trans a3)).mono ?_;rintro e a4 ⟨rfl,n⟩;exact⟨_,rfl,n,rfl,trivial⟩
  subst A;refine Uq ?_;iterate 2 refine ze ?_
  refine zx rfl rfl (fun w' a3 Z=>?_) (fun ch A=>?_)
  ·refine zP.call [Xj (Xa ⟨p,0,Xb⟩),Xi #[U8 an,U8 ao,U8 ap,U8 aq,U8 ar,U8 au,U8 av,U8 aw,I6 bq,Xh br,Xh D,I6 (Y:Int),I6 (B:Int)]] rfl func227 rfl rfl rfl ?_;refine(C w' (b.trans a3)).mono ?_;rintro e a4 ⟨rfl,n⟩;exact⟨_,rfl,n,rfl,trivial⟩
  subst A;refine Uq ?_;iterate 2 refine ze ?_
  refine zL fun er cq Z=>?_
  have dl:=dD (b.trans cq);have et:=dD (r.aA cq);clear cq Z E F G H K L M N P Q R d g i cs ct cu cv cw cx cy cz da db bw dc dd;have dj:=et.c 10 rfl;go_upto_region 5 with fail
  go_cut [49] (fun dh c9=>dh= Xh (D || !j)/\c9=er)
  case first=>
   cases D <;> cases j
   all_goals (go_wp2;go_meet;exact⟨rfl,rfl⟩)
  obtain⟨rfl,rfl⟩:=hcut;clear dj;obtain⟨eo,ag⟩:=kA (D || !j);rw[ag.out]
  cases eo with
  | false=>
   have x:Xo (U=(Xc,z2 m k)):=dD<|by
    rw[az.out,kF];have:=ag.out
    cases D <;> cases j <;> simp_all
   have u:=bc.out wc dl.out;go_wp2_with fail;refine u.mono ?_;clear u;rintro e cf ⟨⟨f6,rfl⟩,e4⟩;have cn:Xo (Chg w0 X p w V U.2 cf):=dD<|Rx x.out e4
   clear e4;go_wp2;go_ret;exact⟨Rr x.out,cn⟩
  | true=>
   have b8:Xo (U=if T=Xc then(Xc,z2 cd k)else if j=Xc then(Xc,z2 m k)else(Xd,m)):=dD<|by
    rw[az.out,kE];have:=ag.out
    cases D <;> cases j <;> simp_all
   have bz:=bd.out wc dl.out;go_wp2_with fail;refine bz.mono ?_;clear bz;rintro e cf ⟨rfl,dp,a0,ei,bp⟩;have cn:=dD a0;have dn:=dD ei;have dk:=dD bp;have u:=bb.out cf dp a0;clear a0 ei bp;go_upto_region 7 with fail
   go_cut [58] (fun di c9=>di= Xh (!T && !j)/\c9=cf)
   case first=>
    cases T <;> cases j
    all_goals (go_wp2;go_meet;exact⟨rfl,rfl⟩)
   obtain⟨rfl,rfl⟩:=hcut;obtain⟨ep,ah⟩:=kA (!T && !j);rw[ah.out]
   cases ep with
   | true=>
    have x:Xo (U=(Xd,m)/\cd=m):=dD<|by
     have cr:=ah.out;have ew:=ai.out;rw[b8.out]
     cases T <;> cases j <;> simp_all
    have el:Xo (Chg w0 X p w V U.2 wc):=dD<|by
     rw[x.1,<-x.2];exact⟨dp,cn,dn,dk⟩
    clear u;go_wp2;go_ret;exact⟨Rr x.1,el⟩
   | false=>
    have x:Xo (U=(Xc,z2 cd k)):=dD<|by
     have cr:=ah.out;have ew:=ai.out;rw[b8.out]
     cases T <;> cases j <;> simp_all
    go_wp2_with fail;refine u.mono ?_;clear u;rintro e es ⟨⟨f7,rfl⟩,e5⟩;have em:Xo (Chg w0 X p w V U.2 es):=dD<|Rx x.out (Chg.step dn dk e5)
    clear e5;go_wp2;go_ret;exact⟨Rr x.out,em⟩
theorem zi7 {w:Xn} {p:Nat} (h:ChW w0 X p w V m) (s:Rt m) (k:Nat) (f:Fr) (g:m.fs[k]? =Xa f) (t:f.r≠0) (q) (l:List (Nat × Nat)) (v:zj zaD w q l):
  Xp prog 199 #[Xj (Xa ⟨p,0,Xb⟩),I6 (k:Int),q] w fun e w'=>e= Xl (Xh (jw m k f l).1)/\Chg w0 X p w V (jw m k f l).2 w':=by
 obtain⟨a,-⟩:=h.at.ns;obtain⟨a,a,c⟩:=h.at.bF k f g;have b:(k:Int)< (V.f.n:Int):=by
  have:=(gS.1 g).1;omega
 have b:=h.box.box.c 0 rfl;rw[a]at b;obtain⟨a,a,a,a,a,a,a,a,a,a,a,a,b⟩:=c w (zc.refl _);obtain⟨r,b⟩:=kA f.f;rw[b.out]at a
 by_cases d:f.f=-1
 ·have c:=zlH h s k f g t;have j:Xo (jw m k f l=zbi m k f):=dD<|by unfold jw;rw[kE d]
  have x:(r == -1)=Xc:=by rw[<-b.out,d];rfl
  rw[j.out];obtain⟨E,a⟩:=kA (zbi m k f);rw[a.out]at c⊢
  go_enter func199,ntmps199
  go_wp2_with fail;refine c.mono ?_;rintro e u ⟨rfl,n⟩;have i:=dD n;go_wp2;go_ret;exact⟨rfl,i⟩
 have c:=zlM h s k f g d t q l v;have j:Xo (jw m k f l=zdS m k f l):=dD<|by unfold jw;rw[kF d]
 have x:(r == -1)=Xd:=by rw[<-b.out];simpa using d
 rw[j.out];obtain⟨E,a⟩:=kA (zdS m k f l);rw[a.out]at c⊢
 go_enter func199,ntmps199
 go_wp2_with fail;refine c.mono ?_;rintro e u ⟨rfl,n⟩;have i:=dD n;go_wp2;go_ret;exact⟨rfl,i⟩
variable{X:Nat->Prop}
theorem zdI (n:Nat) (m:Ma) (l:List (Nat × Nat)) {k:Nat} {f:Fr} (hi:JM m.fs m.aB=(k:Int)) (a:(jK m).fs[k]? =Xa f):Z8 (n+1) m l=if(jw (jK m) k f l).1=Xc then jw (jK m) k f l else Z8 n (jK m) l:=by grind [Z8,tN,zT]
theorem ziW (n:Nat) (m:Ma) (l:List (Nat × Nat)) (hi:JM m.fs m.aB=-1):Z8 (n+1) m l=(Xd,jK m):=by
 conv=>lhs;unfold Z8
 rw[kE Wm]
theorem zlK {w:Xn} {p:Nat} (v:ChW w0 X p w V m) (Y:Rt m) (I) (l:List (Nat × Nat)) (aj:zl8 zaD (Dw p V) w I l):
  Xp prog 160 #[Xj (Xa ⟨p,0,Xb⟩),I] w fun e w'=>e= Xl (Xh (Qf m l).1)/\Chg w0 X p w V (Qf m l).2 w':=by
 have ax:=dD aj;have av:=dD v;have aw:=dD Y;obtain⟨ak,-⟩:=v.at.ns;have Z:V.f.n<=40:=Hm Y.inv.aY
 obtain⟨f,z⟩:=kA (Qf m l);have A:Xo (Z8 (2*V.f.n) m l=f):=dD<|by rw[<-z.out,ak];rfl
 rw[z.out];have L:=v.box.box.c 0 rfl;clear v aj Y ak;obtain⟨c,M⟩:=kA V.f.n;rw[M.out]at L Z A
 go_enter func160,ntmps160
 go_wp2;clear L
 go_loopg [14] (2*c) (fun b2 a0 wr=>∃(t:Nat) (a:Ma) (K:MaV),t<=2*c/\2*c - t<=b2/\a0=I6 t/\Xo (ChW w0 X p wr K a)/\Xo (Rt a)/\Xo (zk (Dw p V) w wr)/\Xo (∀k,Dw p K k->Dw p V k\/w.heap.size<=k)/\Xo (Z8 (2*c - t) a l=f))
 exact⟨0,m,V,nZ _,Wm,rfl,av,aw,zk.refl _ _,(fun _ v=> .inl v:∀k,Dw p V k->Dw p V k\/w.heap.size<=k),A⟩
 obtain⟨t,a,K,b9,b3,rfl,s,a8,a7,a3,H⟩:=hrel
 by_cases b4:t<2*c
 ·have F:(t:Int)<2*(c:Int):=Wm
  obtain⟨r,B⟩:∃r,Xo (2*c - t=r+1):=⟨2*c - t - 1,show _=_ by omega⟩
  have P:Xo (2*c -(t+1)=r):=dD<|Hm B.out
  rw[B.out]at H;obtain⟨u,_,d⟩:=zg8 (fun _ _=>False) a8.out
  have C:=dD u.rt;have x:=dD d;obtain⟨L,b7⟩:=s.box.box.k2;have q:=zsv s a8.parts.1;obtain⟨b8,i⟩:=kA (JM a.fs a.aB);rw[i.out]at q x;clear u d;go_wp2_with fail;refine q.mono ?_;clear q L b7;rintro e b0 ⟨U,rfl,al,u⟩;have ao:=dD (s.box.aA u);have N:Xo (zb qi wr.heap.size b0 (U.x) (zb5 a.fs a.aB)):=al;have ar:=dD u;clear al u
  go_upto_region 5 with(refine qK rfl 32 (.tmp 29) (.tmp 24) rfl p 0 rfl (Xi #[U.x,I6 (zdq a.fs a.aB)]) rfl [U.x,I6 (zdq a.fs a.aB)] rfl ao (by simp[chL]) Kr (by simp[Value.oneCell']) ?_)
  intro T ab E _;obtain⟨a9,ac,am,ae⟩:=Chg.step a7 a3 (s.setF ar N E ab);have a5:Xo (ChW w0 X p T a9 (jK a)):=ac;have S:=dD am;have a1:=dD ae;clear ab E ac am ae;try simp only[Xx]
  rcases x with⟨D,_⟩|⟨k,j,D,W,ag⟩
  ·have b:Xo (f=(Xd,jK a)):=dD<|by rw[<-H.out,ziW r a l (Rx i.out D)]
   subst D;have ay:Xo (Chg w0 X p w V f.2 T):=dD<|by rw[b.out];exact⟨a9,a5,S,a1⟩
   go_wp2;go_ret;exact⟨Rr b.out,ay⟩
  have b:Xo (f=if(jw (jK a) k j l).1=Xc then jw (jK a) k j l else Z8 r (jK a) l):=dD<|by rw[<-H.out,zdI r a l (Rx i.out D) W]
  have n:=zi7 a5 C k j W ag I l (ax T S);have h:Xo ((jw (jK a) k j l).1=Xd->(jw (jK a) k j l).2=jK a):=dD<|fun e=>by
   rcases zke (jK a) k j l with⟨b5,_⟩|⟨_,b6⟩
   ·rw[b5]at e;cases e
   exact b6
  obtain⟨ap,au⟩:=kA (jw (jK a) k j l);rw[au.out]at n b h;subst D;have ai:(0:Int)<=(k:Int):=Wm
  clear W ag;go_wp2_with fail;refine n.mono ?_;clear n;rintro e b1 ⟨rfl,ah⟩;obtain⟨aa,ad,an,af⟩:=Chg.step S a1 ah;have Q:=dD ad;have a6:=dD an;have a2:=dD af;clear ah ad an af;obtain⟨aq,G⟩:=ap;simp only at Q b h
  cases aq with
  | true=>
   have g:Xo (f=(Xc,G)):=dD<|Rr b.out
   have R:Xo (Chg w0 X p w V f.2 b1):=dD<|by rw[g.out];exact⟨aa,Q,a6,a2⟩
   go_wp2;go_ret;exact⟨Rr g.out,R⟩
  | false=>
   have y:=dD<|h.out rfl;have g:Xo (Z8 r G l=f):=show _=_ by rw[b.out,y.out];rfl
   have az:Xo (Rt G):=dD<|Rx y.out C.out
   go_wp2
   go_roundg (2*c -(t+1));exact⟨t+1,G,aa,Wm,Wm,Gn,Q,az,a6,a2,Rx P.out g⟩;omega
 have F:¬(t:Int)<2*(c:Int):=Wm
 have a4:Xo (f=(Xd,a)):=dD<|by
  rw[<-H.out,show 2*c - t=0 by omega]
  rfl
 have R:Xo (Chg w0 X p w V f.2 wr):=dD<|by rw[a4.out];exact⟨K,s,a7,a3⟩
 go_wp2;go_ret;exact⟨Rr a4.out,R⟩
variable{X:Nat->Prop}
theorem zgM {w:Xn} {a:Act} (b:o.op= .alloc 32):(execOp a.eval o).run prog w= .ok (.value (Xj (Xa ⟨w.heap.size,0,Xb⟩))) (w.alloc (Xk #[eS,I6 0] 32)):=by
 simp only[execOp,b]
 go_simp
theorem ze7 {w:Xn} {p:Nat} (az:ChW w0 X p w V m) (c3:Rt m) (pg:Pg) (fi ix:Int) (bm:frW (frT pg fi ix)=0) (c8) (l:List (Nat × Nat)) (a5:zl8 zaD (Dw p V) w c8 l) (bp:∀x∈l,x.2<64/\∃s,m.sp[x.1]? =Xa s)
  (U:jo (zi m l).fs=0->∀c0 cm,ChW w0 X p c0 cm (zi m l)->zl8 zaD (Dw p cm) c0 c8 l->Xp prog 160 #[Xj (Xa ⟨p,0,Xb⟩),c8] c0 fun e w'=>e= Xl (Xh (Qf (zi m l) l).1)/\Chg w0 X p c0 cm (Qf (zi m l) l).2 w'):
  Xp prog 191 #[Xj (Xa ⟨p,0,Xb⟩),Xi #[Xe Xg pg.b0,Xe Xg pg.b1,Xe Xg pg.b2,Xe Xg pg.b3,Xe Xg pg.b4,Xe Xg pg.b5,Xe Xg pg.b6,Xe Xg pg.b7],Xe Xf fi,Xe Xf ix,c8] w fun e w'=>e= Xl (Xm #[Xe Xf ((zcK m (frT pg fi ix) l).2.1:Int),Xe Xf (if(zcK m (frT pg fi ix) l).1=Xc then 0 else 10)])/\Chg w0 X p w V (zcK m (frT pg fi ix) l).2.2 w':=by
 have ch:=dD a5;have ek:=dD az;have fo:=dD c3;have fn:=dD bp;have cc:=dD bm;have af:=dD U
 obtain⟨fx,fy,rfl,cw⟩:=(a5 w (zk.refl _ _)).bO;have bj:=(a5 w (zk.refl _ _)).short;obtain⟨ay,ai⟩:=kA l.length;rw[ai.out]at ch af bj⊢;have ca:Xo (∀j,j<=ay->Rt (zi m (l.take j))/\(zi m (l.take j)).sp.length=m.sp.length):=dD<|fun j _=>by
  obtain⟨g,_⟩:=je (l.take j) c3 (fun x a6=>bp x (Ol a6))
  exact⟨g.rt,g.aW.aQ⟩
 have cb:Xo (∀(j:Nat) x,l[j]? =Xa x->zi m (l.take (j+1))=zlF (zi m (l.take j)) x.1 (x.2:Int)/\x.1< (zi m (l.take j)).sp.length/\((Jo (zi m (l.take j)) x.1 (x.2:Int)).kind=1->Zj (zi m (l.take j)).fs (zi m (l.take j)).aB (Jo (zi m (l.take j)) x.1 (x.2:Int)).n (-1)=0)):=dD<|fun j x a6=>by
  obtain⟨g,_⟩:=je (l.take j) c3 (fun x a6=>bp x (Ol a6))
  obtain⟨e7,s,fj⟩:=bp x (mG a6);have br:x.1< (zi m (l.take j)).sp.length:=by rw[g.aW.aQ];exact(gS.1 fj).1
  have bt:=gE br;refine⟨?_,br,znX g.rt bt e7⟩;rw[Yl,a6,zrJ g.rt bt e7];exact zcy _ _ _
 have em:Xo (p<w.heap.size):=az.aM p (.inl rfl);have ej:=dD az.aM;clear az a5 c3 bp bm cw U;have a:Xo (zcK m (frT pg fi ix) l=if(z8 (zi m l) l).1=Xc then(Xc,Zk (z8 (zi m l) l).2.fs,{(z8 (zi m l) l).2 with fs:=(z8 (zi m l) l).2.fs.set (Zk (z8 (zi m l) l).2.fs) (frT pg fi ix) })else(Xd,0,(z8 (zi m l) l).2)):=show _=_ from rfl
 obtain⟨cl,en⟩:=kA (zcK m (frT pg fi ix) l);rw[en.out]at a⊢;obtain⟨fv,ac⟩:=kA (if cl.1=Xc then(0:Int)else 10);rw[ac.out];obtain⟨E,h,f,z,F,G,H,K⟩:=pg;simp only;obtain⟨n,c9⟩:=kA w.heap.size;obtain⟨ez,Z⟩:=kB (w.alloc (Xk #[Xe Xg E,Xe Xg h,Xe Xg f,Xe Xg z,Xe Xg F,Xe Xg G,Xe Xg H,Xe Xg K] 91));have dl:=gA Z
 have f8:=xPT Z c9
 have ci:Xo (_=ez):=Z;have el:Xo (¬Dw p V n):=show¬_ from fun e=>by have:=ej.out _ e;have:=c9.out;omega
 clear Z
 go_enter func191,ntmps191
 go_upto_region 1 with fail;rw[ci.out,c9.out];go_wp2
 go_loopg [19] ay (fun c2 dg wr=>∃(j:Nat) (S:MaV),j<=ay/\ay - j<=c2/\dg= Xe Xf j/\Xo (ChW w0 X p wr S (zi m (l.take j)))/\Xo (zk (Dw p V) w wr)/\Xo (∀k,Dw p S k->Dw p V k\/w.heap.size<=k)/\Xo (zl wr n 91 [Xe Xg E,Xe Xg h,Xe Xg f,Xe Xg z,Xe Xg F,Xe Xg G,Xe Xg H,Xe Xg K]))
 exact⟨0,V,nZ _,Wm,rfl,ek.aA dl,zk.aA dl,(fun _ az=> .inl az:∀k,Dw p V k->Dw p V k\/w.heap.size<=k),f8⟩
 obtain⟨j,S,b8,fh,rfl,W,ck,b9,co⟩:=hrel
 by_cases ar:j<ay
 ·have bq:=kC ar
  obtain⟨x,dm⟩:∃x,Xo (l[j]? =Xa x):=⟨_,gE (Rx ai.out ar)⟩
  obtain⟨_,_,aw,bs⟩:=(ch wr ck).bO;simp only[vJ]at aw;obtain⟨fu,bi,bk⟩:=bs j x dm.out;rw[<-aw.1]at bi;subst bi;obtain⟨dv,dw⟩:=bk wr (zc.refl _);obtain⟨dz,cq,cr⟩:=cb.out j x dm.out;have ba:=dD dz;obtain⟨bw,bx⟩:=x;simp only at dv dw cq cr ba;have ao:=zlL (W.aA (za wr (Xk #[Xe Xf (bw:Int),Xe Xf (bx:Int)] 142))) bw cq (bx:Int) cr;rw[<-ba.out]at ao;clear aw bs bk dz cq cr;go_wp2_with fail;refine ao.mono ?_;clear ao dv dw;rintro e dr ⟨⟨g0,rfl⟩,Y⟩;obtain⟨ey,dt,e8,dx⟩:=Chg.step ck b9 (Chg.aI (za _ _) Y);have ep:=dD dt;have eu:=dD e8;have eg:=dD dx;have f9:Xo (zl dr n 91 [Xe Xg E,Xe Xg h,Xe Xg f,Xe Xg z,Xe Xg F,Xe Xg G,Xe Xg H,Xe Xg K]):=show zl _ _ _ _ by
   obtain⟨_,_,fl,_⟩:=Y;exact(co.aA (za _ _)).aK fl (W.bU co Dc Dc Dc Dc)
  clear Y dt e8 dx;go_wp2
  go_roundg (ay -(j+1));exact⟨j+1,ey,Wm,Wm,Gn,ep,eu,eg,f9⟩;omega
 have bq:=kD ar
 have aq:l.take j=l:=Xy (by rw[ai.out];omega)
 rw[aq]at W;have bb:Xo (Rt (zi m l)):=dD<|by have:=(ca j b8).1;rw[aq]at this;exact this
 clear aq;obtain⟨i,ce⟩:=kA (zi m l);rw[ce.out]at W bb af a;obtain⟨L,A,am⟩:=JG bb l;have ah:=dD L.rt;have ae:=dD A
 have aj:Xo (z8 i l=if jo i.fs=0 then Qf i l else(Xc,i)):=dD<|rfl
 clear L A am;obtain⟨ex,cf⟩:=kA (z8 i l);rw[cf.out]at ah ae aj a;obtain⟨bc,d⟩:=ex;simp only at ah ae a;have r:Xp prog 222 #[Xi #[O S.f.a S.f.n S.f.c,Xe Xf i.aB]] wr fun e w'=>e= Xl (Xe Xf (jo i.fs:Int))/\zc wr w':=by
  obtain⟨dd,-⟩:=W.at.ns;have Q:=W.at.fs;rw[dd]at Q⊢;rw[<-zpT];exact zhc S.f.a S.f.c i.fs i.aB wr Q
 obtain⟨bw,bx⟩:=W.box.box.k2;go_upto_region 6 with fail
 go_cut [39] (fun dh dj=>∃D:MaV,dh= Xh (!bc)/\Xo (ChW w0 X p dj D d)/\Xo (zk (Dw p V) w dj)/\Xo (∀k,Dw p D k->Dw p V k\/w.heap.size<=k)/\Xo (zl dj n 91 [Xe Xg E,Xe Xg h,Xe Xg f,Xe Xg z,Xe Xg F,Xe Xg G,Xe Xg H,Xe Xg K]))
 case first=>
  go_wp2_with fail;refine r.mono ?_;clear r bw bx;rintro e f6 ⟨rfl,c1⟩;have cj:=dD (W.aA c1);have bz:=dD (ck.trans (zk.aA c1));have cn:=dD (co.aA c1);clear c1
  by_cases al:jo i.fs=0
  ·have c6:((jo i.fs:Int) == 0)=Xc:=Rr al
   have ab:Xo ((bc,d)=Qf i l):=dD<|by rw[aj.out,kE al]
   have ap:=af.out al f6 S cj (fun a7 c5=>ch.out a7 (zk.far bz b9 c5))
   obtain⟨fg,ag⟩:=kA (jo i.fs:Int);rw[ag.out]at c6⊢;rw[<-ab.out]at ap;clear al;go_wp2_with fail;refine ap.mono ?_;clear ap;rintro e f7 ⟨rfl,dq,du,de,dy⟩;have ev:=dD<|zk.far bz b9 de;have eh:Xo (∀k,Dw p dq k->Dw p V k\/w.heap.size<=k):=show∀k,_ from fun k a4=>(dy k a4).elim (fun e=>b9.out k e) (fun e=> .inr (nT bz.size e))
   have fa:Xo (zl f7 n 91 [Xe Xg E,Xe Xg h,Xe Xg f,Xe Xg z,Xe Xg F,Xe Xg G,Xe Xg H,Xe Xg K]):=cn.aK de (cj.bU cn Dc Dc Dc Dc)
   have es:=dD du;clear du de dy c6;simp only;cases bc
   all_goals (go_wp2;go_meet;exact⟨dq,rfl,es,ev,eh,fa⟩)
  have c6:((jo i.fs:Int) == 0)=Xd:=Si al
  have ab:Xo ((bc,d)=(Xc,i)):=dD<|by rw[aj.out,kF al]
  obtain⟨fg,ag⟩:=kA (jo i.fs:Int);rw[ag.out]at c6⊢;clear al;have bl:=ab.out;simp only[pJ]at bl;obtain⟨rfl,rfl⟩:=bl;go_wp2
  go_meet
  exact⟨S,rfl,cj,bz,b9,cn⟩
 clear r bw bx;obtain⟨D,rfl,ak,dn,dk,a8⟩:=hcut
 cases bc with
 | false=>
  rw[kF Dc]at a
  have et:Xo (Chg w0 X p w V cl.2.2 wc):=dD<|by rw[a.out];exact⟨D,ak,dn,dk⟩
  go_wp2
  go_ret2
  exact⟨by rw[<-ac.out,a.out];rfl,et⟩
 | true=>
  rw[kE rfl]at a;obtain⟨be,ct,fw,e0,ff⟩:=zdH (ae rfl);obtain⟨Q,cd⟩:=kA (Zk d.fs);rw[cd.out]at be ct e0 a;have cg:Xo (∀a7,zc wc a7->Xp prog 223 #[Xi #[O D.f.a D.f.n D.f.c,Xe Xf d.aB],Xi #[Xe Xg E,Xe Xg h,Xe Xg f,Xe Xg z,Xe Xg F,Xe Xg G,Xe Xg H,Xe Xg K],Xe Xf fi,Xe Xf ix] a7 fun e w'=>∃s:Sli,e= Xl (Xm #[Xi #[O s.a s.n s.c,Xe Xf d.aB],Xe Xf (Q:Int),Xe Xf 0])/\zb qi wc.heap.size w' (O s.a s.n s.c) (d.fs.set Q (frT ⟨E,h,f,z,F,G,H,K⟩ fi ix))/\zc a7 w'):=dD<|fun a7 c5=>by
   obtain⟨dd,-⟩:=ak.at.ns;have k:=(ak.at.aA c5).fs;(try simp only[Sli.x]at k⊢);rw[dd]at k⊢;refine(zsU D.f.a D.f.c d.fs d.aB ⟨E,h,f,z,F,G,H,K⟩ fi ix a7 k ah.parts.1 cc Q be ct).mono ?_;rintro e w' ⟨n,rfl,fk,g⟩;have bu:zb qi a7.heap.size w' n (d.fs.set Q (frT ⟨E,h,f,z,F,G,H,K⟩ fi ix)):=fk;obtain⟨fb,fc,rfl,_⟩:=bu.at.rows;exact⟨⟨fb,_,fc⟩,rfl,bu.base (bS c5),g⟩
  clear be ct e0 ff;go_upto_region 8 with fail;obtain⟨u,b⟩:=Wq fun R=>zc wc R
  have an:=(b _).2 (gW _)
  have cx:Nonempty (zq u):=⟨⟨_,an⟩⟩;have cz:=fun y:zq u=>(ak.box.box.aA ((b _).1 y.holds)).c 0 rfl
  have d2:=fun y:zq u=>(ak.box.box.aA ((b _).1 y.holds)).c 1 rfl
  have d3:=fun y:zq u=>(a8.box.aA ((b _).1 y.holds)).c 0 rfl
  have d5:=fun y:zq u=>(a8.box.aA ((b _).1 y.holds)).c 1 rfl
  have d6:=fun y:zq u=>(a8.box.aA ((b _).1 y.holds)).c 2 rfl
  have d8:=fun y:zq u=>(a8.box.aA ((b _).1 y.holds)).c 3 rfl
  have d9:=fun y:zq u=>(a8.box.aA ((b _).1 y.holds)).c 4 rfl
  have da:=fun y:zq u=>(a8.box.aA ((b _).1 y.holds)).c 5 rfl
  have db:=fun y:zq u=>(a8.box.aA ((b _).1 y.holds)).c 6 rfl
  have dc:=fun y:zq u=>(a8.box.aA ((b _).1 y.holds)).c 7 rfl
  refine Jw (I:=u) 17 [(8,⟨.const (Xh Xd),fun v=>∃s:Sli,v= Xm #[Xi #[O s.a s.n s.c,Xe Xf d.aB],Xe Xf (Q:Int),Xe Xf 0],fun _ v R=>∃s:Sli,v= Xm #[Xi #[O s.a s.n s.c,Xe Xf d.aB],Xe Xf (Q:Int),Xe Xf 0]/\zb qi wc.heap.size R (O s.a s.n s.c) (d.fs.set Q (frT ⟨E,h,f,z,F,G,H,K⟩ fi ix)),fun p aa=>zc p aa,fun _=>True⟩),(13,⟨.const (Xh Xd),fun v=>∃g,v= Xj (Xa ⟨g,0,Xb⟩),fun _ v R=>∃g T,v= Xj (Xa ⟨g,0,Xb⟩)/\wc.heap.size<=g/\zl R g 32 T/\T.length=2,fun p aa=>zc p aa,fun _=>True⟩),(14,⟨.tmp 14,fun _=>True,fun ec _ R=>∃g,∃s:Sli,ec= Xj (Xa ⟨g,0,Xb⟩)/\wc.heap.size<=g/\zl R g 32 [O s.a s.n s.c,Xe Xf d.aB]/\zb qi wc.heap.size R (O s.a s.n s.c) (d.fs.set Q (frT ⟨E,h,f,z,F,G,H,K⟩ fi ix)),fun p aa=>∃g T cp,wc.heap.size<=g/\p.grownBy aa (Xa g)/\zl p g 32 cp/\zl aa g 32 T/\T.length=2,fun _=>True⟩)] an zW Kr Kr rfl rfl Dc (Sc ⟨_,ZH,rfl⟩ ⟨_,0,rfl⟩ ⟨Xh Xc,trivial⟩) ?hp ?hpre ?hpr0 ?_
  case hp=>
   intro k s j ed a4 b8 a0 e5 ec v p aa c au;have P:=qe a4;have t:=qe b8;clear a4 b8;simp only[mC,pJ,nM,or_false]at P t
   rcases P with⟨rfl,rfl⟩|⟨rfl,rfl⟩|⟨rfl,rfl⟩
   ·obtain⟨s,L,A⟩:=au
    rcases t with⟨rfl,rfl⟩|⟨rfl,rfl⟩|⟨rfl,rfl⟩
    ·exact absurd rfl a0
    ·exact⟨s,L,A.aA c⟩
    obtain⟨bf,T,cp,fm,df,e9,ea,eb⟩:=c;exact⟨s,L,A.grown df fun g cv e=>by cases e;exact A.ne e9 Dc bf cv rfl⟩
   ·obtain⟨g,T,L,A,am,Y⟩:=au
    rcases t with⟨rfl,rfl⟩|⟨rfl,rfl⟩|⟨rfl,rfl⟩
    ·exact⟨g,T,L,A,am.aA c,Y⟩
    ·exact absurd rfl a0
    obtain⟨bf,fd,cp,fm,df,e9,ea,eb⟩:=c
    by_cases e:g=bf
    ·subst e;exact⟨g,_,L,A,ea,eb⟩
    exact⟨g,T,L,A,am.beside df (fun k a4=>by cases a4;exact e),Y⟩
   obtain⟨g,s,L,A,am,Y⟩:=au
   rcases t with⟨rfl,rfl⟩|⟨rfl,rfl⟩|⟨rfl,rfl⟩
   ·exact⟨g,s,L,A,am.aA c,Y.aA c⟩
   ·exact⟨g,s,L,A,am.aA c,Y.aA c⟩
   exact absurd rfl a0
  case hpre=>
   intro j ed k s b8 a4 a0 p aa c av;have t:=qe b8;simp only[mC,pJ,nM,or_false]at t
   rcases t with⟨rfl,rfl⟩|⟨rfl,rfl⟩|⟨rfl,rfl⟩ <;> trivial
  case hpr0=>
   intro k ed a4;have P:=qe a4;simp only[mC,pJ,nM,or_false]at P
   rcases P with⟨rfl,rfl⟩|⟨rfl,rfl⟩|⟨rfl,rfl⟩ <;> trivial
  simp only[Ym,Yn];refine zal rfl rfl rfl (fun eo e4=>?_);go_big_quiet_op;refine e4 _ ?_;clear e4 eo
  refine zhh (.tmp 41) ⟨p,0,Xb⟩ rfl rfl rfl rfl ?_;refine Uq ?_;iterate 6 refine Zr ?_
  refine jC rfl rfl (fun w' q av U=>?_) (fun ee a5=>?_)
  ·refine zP.call [Xi #[O D.f.a D.f.n D.f.c,Xe Xf d.aB],Xi #[Xe Xg E,Xe Xg h,Xe Xg f,Xe Xg z,Xe Xg F,Xe Xg G,Xe Xg H,Xe Xg K],Xe Xf fi,Xe Xf ix] rfl func223 rfl rfl rfl ?_;refine(cg w' ((b _).1 q)).mono ?_;rintro e di ⟨s,rfl,ax,c2⟩;exact⟨_,rfl,(b _).2 (((b _).1 q).trans c2),c2,⟨s,rfl⟩,s,rfl,ax⟩
  obtain⟨s,rfl⟩:=a5;refine Uq ?_;iterate 4 refine Zr ?_
  refine jC rfl rfl (fun w' q av U=>?_) (fun ee a5=>?_)
  ·refine zP.step (v:= Xj (Xa ⟨w'.heap.size,0,Xb⟩)) (w':=w'.alloc (Xk #[O Xb 0 0,Xe Xf 0] 32)) (zgM rfl) ⟨(b _).2 (((b _).1 q).trans (za _ _)),za _ _,⟨_,rfl⟩,_,_,rfl,bS ((b _).1 q),zl.aE _ [O Xb 0 0,Xe Xf 0] _ rfl,rfl⟩
  obtain⟨bv,rfl⟩:=a5;refine Uq ?_;refine jC rfl rfl (fun w' q av U=>?_) (fun ee a5=>?_)
  ·obtain⟨g,T,M,B,N,bn⟩:=U 13 Kr
   simp only[Value.pointer.injEq,Option.some.injEq,Addr.mk.injEq,and_true]at M;subst M;obtain⟨C,e6,ax⟩:=U 8 Kr
   have cy:C=s:=by
    obtain⟨fp,fq,ft⟩:=s;obtain⟨h,f,z⟩:=C;simp only[Value.tuple.injEq,Array.mk.injEq,List.cons.injEq,Value.agg.injEq,vJ,and_true]at e6;obtain⟨rfl,rfl,rfl⟩:=e6;rfl
   subst cy;refine zP.aL 32 (.tmp 14) (.tmp 50) rfl bv rfl [O C.a C.n C.c,Xe Xf d.aB] rfl N (Rr bn) (by rw[bn];kernel_rfl) (by simp[Value.oneCell']) fun di h f z=>?_
   exact⟨(b _).2 (zd ((b _).1 q) f B),⟨bv,_,_,B,f,N,h,rfl⟩,trivial,bv,C,rfl,B,h,ax.grown f fun g cv e=>by cases e;exact ax.ne N Dc bv cv rfl⟩
  simp only[Xx];iterate 2 refine Zr ?_
  refine zby fun dr bh U=>?_
  obtain⟨bf,C,M,N,B,ax⟩:=U 14;have a9:(Value.pointer (Xa ⟨bv,0,Xb⟩):Xq)= Xj (Xa ⟨bf,0,Xb⟩):=M;simp only[Value.pointer.injEq,Option.some.injEq,Addr.mk.injEq,and_true]at a9;subst a9;have cu:=(b _).1 bh;have ei:=dD cu;have dp:=dD B;have ew:=dD ax;have ef:=dD (ak.box.aA cu);clear U bh an cx cz d2 d3 d5 d6 d8 d9 da db dc cu M B N ax;obtain⟨fe,be⟩:=dp.box.k2
  go_upto_region 12 with(refine qK rfl 32 (.tmp 60) (.tmp 57) rfl p 0 rfl (Xi #[O C.a C.n C.c,Xe Xf d.aB]) rfl [O C.a C.n C.c,Xe Xf d.aB] rfl ef (by simp[chL]) Kr (by simp[Value.oneCell']) ?_)
  intro f5 bd bg _;have eq:Xo (Chg w0 X p w V cl.2.2 f5):=dD<|by
   rw[a.out];exact Chg.step dn dk (ak.setF ei ew bg bd)
  clear fe be bd bg;go_wp2
  go_ret2
  exact⟨by rw[<-ac.out,a.out];rfl,eq⟩
variable{X:Nat->Prop}
theorem zlN {w:Xn} {p:Nat} (ac:ChW w0 X p w V m) (ae:Rt m) (pg:Pg) (R) (l:List (Nat × Nat)) (a9:zl8 zaD (Dw p V) w R l) (a6:∀x∈l,x.2<64/\∃s,m.sp[x.1]? =Xa s) (bx:l≠[]) (bv:l.length<=900)
  (bw:jo (zi m l).fs=0->∀z U,ChW w0 X p z U (zi m l)->zl8 zaD (Dw p U) z R l->Xp prog 160 #[Xj (Xa ⟨p,0,Xb⟩),R] z fun e w'=>e= Xl (Xh (Qf (zi m l) l).1)/\Chg w0 X p z U (Qf (zi m l) l).2 w'):
  Xp prog 232 #[Xj (Xa ⟨p,0,Xb⟩),Xi #[U8 pg.b0,U8 pg.b1,U8 pg.b2,U8 pg.b3,U8 pg.b4,U8 pg.b5,U8 pg.b6,U8 pg.b7],R] w fun e w'=>e= Xl (Xm #[I6 ((zaz m pg l).2.1:Int),I6 (if(zaz m pg l).1=Xc then 0 else 10)])/\Chg w0 X p w V (zaz m pg l).2.2 w':=by
 have bl:=dD a9;have d9:=dD ac;have d8:=dD ac.aM;have ar:=JG (je l ae a6).1.rt l;have ak:=dD<|(je l ae a6).1.aW.aQ;have cl:Xo (∀x∈l,x.2<64/\x.1<m.sp.length):=show∀x∈l,_ from fun x aa=>by
  obtain⟨az,s,H⟩:=a6 x aa;exact⟨az,(gS.1 H).1⟩
 obtain⟨f,g,h,i,k,n,q,r⟩:=pg;simp only;have G:Xo (∀W,zc w W->Xp prog 191 #[Xj (Xa ⟨p,0,Xb⟩),Xi #[U8 f,U8 g,U8 h,U8 i,U8 k,U8 n,U8 q,U8 r],I6 (-1),I6 0,R] W fun e w'=>e= Xl (Xm #[I6 ((zcK m (frT ⟨f,g,h,i,k,n,q,r⟩ (-1) 0) l).2.1:Int),I6 (if(zcK m (frT ⟨f,g,h,i,k,n,q,r⟩ (-1) 0) l).1=Xc then 0 else 10)])/\Chg w0 X p W V (zcK m (frT ⟨f,g,h,i,k,n,q,r⟩ (-1) 0) l).2.2 w'):=dD<|fun W af=>ze7 (ac.aA af) ae ⟨f,g,h,i,k,n,q,r⟩ (-1) 0 (ziX (.inl ⟨rfl,rfl⟩)) R l (fun z t=>a9 z ((zk.aA af).trans t)) a6 bw
 have a:Xo (zaz m ⟨f,g,h,i,k,n,q,r⟩ l=if(z8 (zi m l) l).1=Xc then(Xc,Zk (z8 (zi m l) l).2.fs,zqb (z8 (zi m l) l).2 (Zk (z8 (zi m l) l).2.fs) ⟨f,g,h,i,k,n,q,r⟩ Xc l)else(Xd,0,(z8 (zi m l) l).2)):=dD<|rfl
 have c:Xo (zcK m (frT ⟨f,g,h,i,k,n,q,r⟩ (-1) 0) l=if(z8 (zi m l) l).1=Xc then(Xc,Zk (z8 (zi m l) l).2.fs,{(z8 (zi m l) l).2 with fs:=(z8 (zi m l) l).2.fs.set (Zk (z8 (zi m l) l).2.fs) (frT ⟨f,g,h,i,k,n,q,r⟩ (-1) 0) })else(Xd,0,(z8 (zi m l) l).2)):=dD<|rfl
 obtain⟨ai,cj⟩:=kA (zaz m ⟨f,g,h,i,k,n,q,r⟩ l);obtain⟨da,cm⟩:=kA (zcK m (frT ⟨f,g,h,i,k,n,q,r⟩ (-1) 0) l);rw[cj.out]at a⊢;obtain⟨de,C⟩:=kA (if ai.1=Xc then(0:Int)else 10);rw[C.out];rw[cm.out]at c G;obtain⟨t,bt,-⟩:=ar;have F:Xo ((z8 (zi m l) l).2.sp.length=m.sp.length):=dD<|by rw[t.aW.aQ,ak.out]
 have E:=dD t.rt;have D:=dD bt
 obtain⟨dg,dh,rfl,bf⟩:=(a9 w (zk.refl _ _)).bO;have a2:=(a9 w (zk.refl _ _)).short;clear t bt ac a9 ae a6 bw bf;obtain⟨cr,au⟩:=kA (z8 (zi m l) l);rw[au.out]at E D a c F;obtain⟨cw,bg⟩:=cr;simp only at E D a c F;have ao:=dD bx;have an:=dD bv;clear bx bv;obtain⟨P,v⟩:=kA l.length;rw[v.out]at bl G a2⊢;obtain⟨H,bk⟩:=kA w.heap.size;obtain⟨ct,A⟩:=kB (w.alloc (Xk #[U8 f,U8 g,U8 h,U8 i,U8 k,U8 n,U8 q,U8 r] 91));have aj:=gA A
 have cv:=xPT A bk
 have av:=dD A;clear A;have b:=G.out ct aj.out
 go_enter func232,ntmps232
 go_upto_region 1 with fail;rw[av.out,bk.out];obtain⟨c7,c8,c9,ca,cb,cc,cd,ce⟩:=cv.box.c8
 cases cw with
 | false=>
  rw[kF Dc]at a c
  rw[c.out]at b;simp only[Bool.false_eq_true,if_false]at b;go_wp2_with fail;refine b.mono ?_;clear b c7 c8 c9 ca cb cc cd ce;rintro e z ⟨rfl,t⟩;have aw:Xo (Chg w0 X p w V ai.2.2 z):=dD<|Rx a.out (Chg.aI aj t)
  clear t;go_wp2
  go_ret2
  exact⟨by rw[<-C.out,a.out];rfl,aw⟩
 | true=>
  rw[kE rfl]at a c;obtain⟨cy,cz,df,bc,d2⟩:=zdH (D rfl);obtain⟨d,am⟩:=kA (Zk bg.fs);rw[am.out]at bc c a;obtain⟨b8,b9,bn⟩:=zlQ E bc ⟨f,g,h,i,k,n,q,r⟩ (fun x aa=>by rw[F.out];exact cl x aa) ao an.out
  rw[<-bn]at a;clear bn;rw[c.out]at b;simp only[if_true]at b;obtain⟨B,aq⟩:∃B:Ma,Xo (({ bg with fs:=bg.fs.set d (frT ⟨f,g,h,i,k,n,q,r⟩ (-1) 0) }:Ma)=B):=⟨_,rfl⟩;rw[aq.out]at a b8 b9 b;have ck:Xo (∀j,j<=P->∀x,l[j]? =Xa x->Zj (zG B d (l.take j)).fs (zG B d (l.take j)).aB (d:Int) 1=0/\zG B d (l.take (j+1))=zhk (zG B d (l.take j)) x.1 (x.2:Int) (d:Int)/\x.1< (zG B d (l.take j)).sp.length):=dD<|fun j be x aa=>(b8 j (Rx v.out be)).2 x aa
  have S:=dD b9;clear b8 b9 cy cz bc d2;go_wp2_with fail;refine b.mono ?_;clear b c7 c8 c9 ca cb cc cd ce;rintro e z ⟨rfl,t⟩;obtain⟨U,bz,c5,Z⟩:=Chg.aI aj t;have cn:=dD bz;have cp:=dD c5;have cg:=dD Z;clear t bz c5 Z;go_wp2
  go_loopg [24] P (fun d5 bi wr=>∃(j:Nat) (Q:MaV),j<=P/\P - j<=d5/\bi=I6 j/\Xo (ChW w0 X p wr Q (zG B d (l.take j)))/\Xo (zk (Dw p V) w wr)/\Xo (∀N,Dw p Q N->Dw p V N\/w.heap.size<=N))
  exact⟨0,U,nZ _,Wm,rfl,cn,cp,cg⟩
  obtain⟨j,Q,be,d6,rfl,y,ax,bj⟩:=hrel
  by_cases L:j<P
  ·have a7:=kC L
   obtain⟨x,bm⟩:∃x,Xo (l[j]? =Xa x):=⟨_,gE (Rx v.out L)⟩
   obtain⟨_,_,M,a8⟩:=(bl wr ax).bO;simp only[vJ]at M;obtain⟨dd,a1,a3⟩:=a8 j x bm.out;rw[<-M.1]at a1;subst a1;obtain⟨bq,Z⟩:=a3 wr (zc.refl _);obtain⟨ba,bs,bb⟩:=ck.out j be x bm.out;have T:=dD bs;obtain⟨ag,ah⟩:=x;simp only at bq Z ba bb T;have K:=ze8 (y.aA (za wr (Xk #[I6 (ag:Int),I6 (ah:Int)] 142))) ag bb (ah:Int) (d:Int) ba;rw[<-T.out]at K;clear M a8 a3 ba bs bb;go_wp2_with fail;refine K.mono ?_;clear K bq Z;rintro e db ⟨⟨di,rfl⟩,bu⟩;obtain⟨cs,bp,c6,br⟩:=Chg.step ax bj (Chg.aI (za _ _) bu);have co:=dD bp;have cq:=dD c6;have ch:=dD br;clear bu bp c6 br;go_wp2
   go_roundg (P -(j+1));exact⟨j+1,cs,Wm,Wm,Gn,co,cq,ch⟩;omega
  have a7:=kD L
  have a5:l.take j=l:=Xy (by rw[v.out];omega)
  rw[a5]at y;clear a5;obtain⟨u,ap⟩:=kA (zG B d l);rw[ap.out]at y S a;have al:Xo (∀W,zc wr W->Xp prog 173 #[Xi #[Q.f.x,I6 u.aB],I6 (d:Int),I6 (-1)] W fun e w'=>∃H:Sli,e= Xl (Xm #[Xi #[H.x,I6 u.aB],I6 0])/\zb qi W.heap.size w' (H.x) (QI u.fs u.aB (d:Int) (-1))/\zc W w'):=dD<|fun W af=>by
   obtain⟨d7,-⟩:=y.at.ns;have N:=(y.at.aA af).fs;(try simp only[Sli.x]at N⊢);rw[d7]at N⊢;refine(zfV Q.f.a Q.f.c u.fs u.aB (d:Int) (-1) W N S).mono ?_;rintro e w' ⟨H,rfl,c0,d3⟩;have bh:zb qi W.heap.size w' H (QI u.fs u.aB (d:Int) (-1)):=c0;obtain⟨az,cx,rfl,_⟩:=bh.at.rows;exact⟨⟨az,_,cx⟩,rfl,c0,d3⟩
  obtain⟨ag,ah⟩:=y.box.box.k2;have a4:=al.out wr (zc.refl _);go_wp2_with fail;refine a4.mono ?_;clear a4 ag ah;rintro e dc ⟨s,rfl,ab,bd⟩;have ci:=dD bd;have ay:=dD ab;have cf:=dD (y.box.aA bd);clear ab bd
  go_upto_region 10 with(refine qK rfl 32 (.tmp 46) (.tmp 42) rfl p 0 rfl (Xi #[s.x,I6 u.aB]) rfl [s.x,I6 u.aB] rfl cf (by simp[chL]) Kr (by simp[Value.oneCell']) ?_)
  intro cu Y I _;have a0:=y.setF ci ay I Y;have aw:Xo (Chg w0 X p w V ai.2.2 cu):=dD<|Rx a.out (Chg.step ax bj a0)
  clear a0 Y I;go_wp2
  go_ret2
  exact⟨by rw[<-C.out,a.out];rfl,aw⟩
variable{X:Nat->Prop}
theorem zk.row {w:Xn} {a:Option Nat} (g:w.grownBy w' a):zk (fun k=>a=Xa k) w w':=⟨g.os,g.tape,g.output,g.size,fun i b c=>g.block i b (fun e=>c e.symm)⟩
theorem ziw {t:Ca}:∀{ca:List Ca},zeq ca t=Xc->zcX ca t<ca.length
 | [],h=>by cases h
 | c :: l,h=>by
  unfold zcX;rw[Yr]
  split
  ·rename_i a
   have a:=of_decide_eq_true a;have b:zeq l t=Xc:=by
    unfold zeq at h⊢;rw[List.any_cons,Bool.or_eq_true]at h
    rcases h with e|e
    ·have:=of_decide_eq_true e;omega
    exact e
   have:=ziw b;unfold zcX at this;simp only[Yp];omega
  exact Nat.succ_pos _
theorem zhK {w:Xn} {p:Nat} (h:ChW w0 X p w V m) (s:m.ca.Pairwise fun a b=>qa a<qa b) (hi:∀c∈m.ca,0<=c.idx/\c.idx<100) (g:m.ca.length<=1000) (file idx:Int) (t:0<=idx/\idx<100):
  Xp prog 154 #[Xj (Xa ⟨p,0,Xb⟩),Xe Xf file,Xe Xf idx] w fun e w'=>((zeq m.ca ⟨file,idx,0⟩=Xd/\e= Xl (Xm #[Xe Xf 0,Xh Xd]))\/(zeq m.ca ⟨file,idx,0⟩=Xc/\∀c,m.ca[zcX m.ca ⟨file,idx,0⟩]? =Xa c->e= Xl (Xm #[Xe Xf c.fr,Xh Xc])))/\zc w w':=by
 have d:=za7 h s hi g file idx t;obtain⟨P,i⟩:=kA (zcX m.ca ⟨file,idx,0⟩);rw[i.out]at d⊢;have z:=dD h;have v:=dD h.at.ca.n
 cases k:zeq m.ca ⟨file,idx,0⟩with
 | false=>
  rw[k]at d;clear k h s hi g t
  go_enter func154,ntmps154
  go_wp2_with fail;refine d.mono ?_;clear d;rintro e x ⟨rfl,f⟩;have q:=dD f;clear f;go_wp2
  go_ret2
  exact⟨.inl ⟨by first | rfl | trivial,rfl⟩,q⟩
 | true=>
  rw[k]at d;have l:P<m.ca.length:=by
   rw[<-i.out];exact ziw k
  obtain⟨c,u⟩:∃c,Xo (m.ca[P]? =Xa c):=⟨_,gE l⟩;have n:(P:Int)< (V.ca.n:Int):=by rw[v.out];omega
  obtain⟨y,j,i⟩:=h.ca.aJ Wm
  have A:Xo (zb Zz w0.heap.size w (O (Xa ⟨y,0,Xb⟩) m.ca.length j) m.ca):=dD<|Ry i h.ca
  have r:=dD i;obtain⟨j,j⟩:=kA m.ca.length;rw[v.out,j.out]at n;clear k h s hi g t l i
  go_enter func154,ntmps154
  go_wp2_with fail;refine d.mono ?_;clear d;rintro e x ⟨rfl,f⟩;have q:=dD f;have d:=(z.box.aA f).box.c 9 rfl;rw[r.out,j.out]at d;have d:x.cell? ⟨y,P*3+2,Xb⟩=Xa (Xe Xf c.fr):=by
   have:=(A.aA f).one u 2 _ rfl;rw[qO,Xw,zA]at this;exact this
  clear f;go_wp2
  go_ret2
  refine⟨.inr ⟨by first | rfl | trivial,fun d d=>?_⟩,q⟩
  rw[u.out]at d;cases d;rfl
variable{X:Nat->Prop}
def Qn (m:Ma) (pg:Pg) (ic wr:Bool) (q n:Nat):Bool × Nat × Ma:=
 if(Jo m q (n:Int)).kind=1/\ic=Xc/\(wr=Xd\/(zQ m (Jo m q (n:Int)).n).r=1)then(Xc,(Jo m q (n:Int)).n.toNat,m)
 else if(Jo m q (n:Int)).kind=2/\wr=Xd then zaz m pg (q8 m 2 (Jo m q (n:Int)).n m.sp.length)
 else zaz m pg [(q,n)]
theorem zpM {q n:Nat} {s:Sp} (a:m.sp[q]? =Xa s) (c:n<64) (b:(zh s n).kind=2):(q,n)∈q8 m 2 (zh s n).n m.sp.length:=
 (JT Dc (nR _)).2 ⟨(gS.1 a).1,c,s,a,by unfold isE;simp[b]⟩
theorem zik {w:Xn} {p:Nat} (ba:ChW w0 X p w V m) (aq:Rt m) (q n:Nat) (s) (ar:m.sp[q]? =Xa s) (bf:n<64) (a:Ar) (pg:Pg) (ic wr:Bool)
  (cl:∀(l:List (Nat × Nat)) (M:Xq),(∀x∈l,x.2<64/\∃s,m.sp[x.1]? =Xa s)->jo (zi m l).fs=0->∀ao c1,ChW w0 X p ao c1 (zi m l)->zl8 zaD (Dw p c1) ao M l->Xp prog 160 #[Xj (Xa ⟨p,0,Xb⟩),M] ao fun e w'=>e= Xl (Xh (Qf (zi m l) l).1)/\Chg w0 X p ao c1 (Qf (zi m l) l).2 w'):
  Xp prog 206 #[Xi #[Xj (Xa ⟨p,0,Xb⟩),I6 (q:Int),I6 (n:Int),I6 a.fr,I6 a.tz,Xh a.rd,Xh a.wr,Xh a.sh,I6 a.file,I6 a.base,U8 pg.b0,U8 pg.b1,U8 pg.b2,U8 pg.b3,U8 pg.b4,U8 pg.b5,U8 pg.b6,U8 pg.b7,Xh ic,Xh wr]] w fun e w'=>e= Xl (Xm #[I6 ((Qn m pg ic wr q n).2.1:Int),I6 (if(Qn m pg ic wr q n).1=Xc then 0 else 10)])/\Chg w0 X p w V (Qn m pg ic wr q n).2.2 w':=by
 have ad:=dD ba;have cw:=dD<|(gS.1 ar).1;have cg:=dD ba.aM;have bv:Xo (Jo m q (n:Int)=zh s n):=show _=_ by unfold Jo;rw[Sp.aP ar,JX bf]
 obtain⟨e,bu⟩:=kA (Jo m q (n:Int));have Q:Xo (zh s n=e):=dD<|by rw[<-bv.out,bu.out]
 have az:Xo (e.kind=1->∃(B:Nat) (fr:Fr),e.n=(B:Int)/\m.fs[B]? =Xa fr):=dD<|fun al=>by
  obtain⟨d9,fr,ci,d2,_⟩:=aq.aV ar bf (Rx Q.out al)
  rw[Q.out]at ci;exact⟨d9,fr,ci,d2⟩
 have ab:Xo (Qn m pg ic wr q n=if e.kind=1/\ic=Xc/\(wr=Xd\/(zQ m e.n).r=1)then(Xc,e.n.toNat,m)else if e.kind=2/\wr=Xd then zaz m pg (q8 m 2 e.n m.sp.length)else zaz m pg [(q,n)]):=dD<|by unfold Qn;rw[bu.out]
 have bx:Xo (∀x∈[(q,n)],x.2<64/\∃s,m.sp[x.1]? =Xa s):=dD<|fun x au=>by rw[Yz.1 au];exact⟨bf,s,ar⟩
 have bz:Xo (e.kind=2->(∀x∈q8 m 2 e.n m.sp.length,x.2<64/\∃s,m.sp[x.1]? =Xa s)/\q8 m 2 e.n m.sp.length≠[]/\(q8 m 2 e.n m.sp.length).length<=900):=dD<|fun al=>by
  refine⟨fun x au=>?_,fun d0=>?_,?_⟩
  ·obtain⟨a,s,d,_⟩:=zhq aq x au;exact⟨a,s,d⟩
  ·have:=zpM ar bf (Rx Q.out al)
   rw[Q.out,d0]at this;cases this
  have a8:=zbE m 2 e.n m.sp.length;have ag:=aq.inv.aQ;omega
 have cu:=dD aq.inv.aQ;have ac:Xo (∀W M l,zc w W->zl8 zaD (Dw p V) W M l->(∀x∈l,x.2<64/\∃s,m.sp[x.1]? =Xa s)->l≠[]->l.length<=900->Xp prog 232 #[Xj (Xa ⟨p,0,Xb⟩),Xi #[U8 pg.b0,U8 pg.b1,U8 pg.b2,U8 pg.b3,U8 pg.b4,U8 pg.b5,U8 pg.b6,U8 pg.b7],M] W fun e w'=>e= Xl (Xm #[I6 ((zaz m pg l).2.1:Int),I6 (if(zaz m pg l).1=Xc then 0 else 10)])/\Chg w0 X p W V (zaz m pg l).2.2 w'):=show∀W,_ from fun W M l bd am cm d3 d4=>zlN (ba.aA bd) aq pg M l am cm d3 d4 (cl l M cm)
 have bw:=dD<|fun W (bd:zc w W)=>zbJ (ba.aA bd) 2 e.n cu.out
 obtain⟨S,T,U,Y,Z,a0,a1,a2⟩:=pg;simp only at ac⊢;obtain⟨a6,bs⟩:=kA (Qn m ⟨S,T,U,Y,Z,a0,a1,a2⟩ ic wr q n);rw[bs.out]at ab⊢;obtain⟨d1,P⟩:=kA (if a6.1=Xc then(0:Int)else 10);rw[P.out];clear aq ar bf cl;obtain⟨d,cf⟩:=kA w.heap.size;obtain⟨ao,a3⟩:=kB (w.alloc (Xk #[Xj (Xa ⟨p,0,Xb⟩),I6 (q:Int),I6 (n:Int),I6 a.fr,I6 a.tz,Xh a.rd,Xh a.wr,Xh a.sh,I6 a.file,I6 a.base,U8 S,U8 T,U8 U,U8 Y,U8 Z,U8 a0,U8 a1,U8 a2,Xh ic,Xh wr] 245));have ce:=gA a3
 have ch:=xPT a3 cf
 have c0:=dD a3;clear a3;have ak:=Ja (ad.aA ce) q cw (n:Int);rw[bu.out]at ak
 go_enter func206,ntmps206
 go_upto_region 1 with fail;rw[c0.out,cf.out];obtain⟨u0,u1,u2⟩:=ch.box.c3;go_wp2_with fail;refine ak.mono ?_;clear ak u0 u1 u2 ba;rintro c9 b9 ⟨rfl,cj⟩;unfold enV;go_upto_region 2 with fail;obtain⟨ap,ax⟩:=kA b9.heap.size;obtain⟨L,a4⟩:=kB (b9.alloc (Xk #[I6 e.kind,I6 e.n,Xh e.wr] 127));have af:zc ao L:=by rw[<-a4];exact cj.trans (za _ _)
 have c3:=xPT a4 ax
 have bp:=dD (ch.aA af);have br:=dD (ce.trans af);rw[a4,ax.out];clear a4 af cj;obtain⟨an,u⟩:=kA (decide (e.kind=1/\ic=Xc/\(wr=Xd\/(zQ m e.n).r=1)))
 go_cut [36] (fun ca cd=>ca= Xh an/\Xo (zc L cd))
 case first=>
  have z:Nonempty (zf L):=⟨⟨_,zc.refl _⟩⟩;have a5:=fun y:zf L=>(c3.box.aA y.aA).c 0 rfl
  have i:=fun y:zf L=>(c3.box.aA y.aA).c 1 rfl
  have A:=fun y:zf L=>(bp.box.aA y.aA).c 0 rfl
  have k:=fun y:zf L=>(bp.box.aA y.aA).c 18 rfl
  have r:=fun y:zf L=>(bp.box.aA y.aA).c 19 rfl
  by_cases b:e.kind=1
  ·have h:(e.kind == 1)=Xc:=Rr b
   obtain⟨B,fr,a8,ag⟩:=az.out b
   cases ic with
   | false=>
    have G:an=Xd:=by rw[<-u.out];simp
    subst G;clear b;refine qx [] zW Kr Sm Sm ?_
    iterate 2 refine ze ?_
    refine qR rfl rfl rfl (fun R j=>?_);go_big_quiet_op;(try rw[h]);refine j _ ?_;clear j R
    iterate 5 refine ze ?_
    iterate 18 (refine ji rfl ?_;simp only[Xx,sB,sS,sZ])
    refine ze ?_
    refine zL fun c2 F _=>?_
    have E:=dD F
    clear F z a5 i A k r;go_wp2
    go_meet
    exact⟨rfl,E⟩
   | true=>
    cases wr with
    | false=>
     have G:an=Xc:=by rw[<-u.out];simp[b]
     subst G;clear b;refine qx [] zW Kr Sm Sm ?_
     iterate 2 refine ze ?_
     refine qR rfl rfl rfl (fun R j=>?_);go_big_quiet_op;(try rw[h]);refine j _ ?_;clear j R
     iterate 9 refine ze ?_
     iterate 13 (refine ji rfl ?_;simp only[Xx,sB,sS,sZ])
     iterate 2 refine ze ?_
     refine zL fun c2 F _=>?_
     have E:=dD F
     clear F z a5 i A k r;go_wp2
     go_meet
     exact⟨rfl,E⟩
    | true=>
     obtain⟨ct,av⟩:=kA (fr.r == 1);have G:an=ct:=by
      rw[<-u.out,<-av.out,a8,zT ag]
      simp[b]
      exact Bool.beq_eq_decide_eq .. |>.symm
     subst G;obtain⟨ae,a9,be⟩:=ad.at.bF B fr ag;obtain⟨da,-⟩:=ad.at.ns;have d6:(B:Int)< (V.f.n:Int):=by
      have:=(gS.1 ag).1;omega
     have d8:∀y:zf L,y.world.cell? ⟨p,0,Xb⟩=Xa (O (Xa ae) V.f.n V.f.c):=fun y=>by
      have:=(ad.box.box.aA (br.trans y.aA)).c 0 rfl;rw[a9]at this;exact this
     have d5:=fun y:zf L=>(be _ (br.trans y.aA)).2.2.2.2.2.2.2.2.1
     have c5:=av.out;rw[a8]at i;clear b a8 ag be a9 da;refine qx [] zW Kr Sm Sm ?_
     iterate 2 refine ze ?_
     refine qR rfl rfl rfl (fun R j=>?_);go_big_quiet_op;(try rw[h]);refine j _ ?_;clear j R
     iterate 11 refine ze ?_
     refine jG (.tmp 23) ⟨p,0,Xb⟩ rfl rfl rfl rfl ?_;refine Uq ?_;iterate 9 refine ze ?_
     refine qR rfl rfl rfl (fun R j=>?_);go_big_quiet_op;(try rw[c5]);refine j _ ?_;clear j R
     iterate 2 refine ze ?_
     refine zL fun c2 F _=>?_
     have E:=dD F
     clear F z a5 i A k r;go_wp2
     go_meet
     exact⟨rfl,E⟩
  have h:(e.kind == 1)=Xd:=Si b
  have G:an=Xd:=by rw[<-u.out];simp[b]
  subst G;clear b;refine qx [] zW Kr Sm Sm ?_
  iterate 2 refine ze ?_
  refine qR rfl rfl rfl (fun R j=>?_);go_big_quiet_op;(try rw[h]);refine j _ ?_;clear j R
  refine ze ?_
  iterate 2 (refine ji rfl ?_;simp only[Xx,sB,sS,sZ])
  iterate 2 refine ze ?_
  iterate 18 (refine ji rfl ?_;simp only[Xx,sB,sS,sZ])
  refine ze ?_
  refine zL fun c2 F _=>?_
  have E:=dD F
  clear F z a5 i A k r;go_wp2
  go_meet
  exact⟨rfl,E⟩
 obtain⟨rfl,E⟩:=hcut;have D:=dD (bp.aA E);have bq:=dD (c3.aA E);have K:=dD (br.trans E);obtain⟨de,cs⟩:=bq.box.k2
 cases an with
 | true=>
  have ai:=of_decide_eq_true u.out;obtain⟨B,fr,a8,ag⟩:=az.out ai.1;have t:Xo (a6=(Xc,B,m)):=dD<|by rw[ab.out,kE ai,a8,tN]
  have b8:Xo (Chg w0 X p w V a6.2.2 wc):=dD<|Rx t.out (Chg.refl ad K.out)
  rw[a8]at cs;clear ai a8 ag;go_wp2
  go_ret2
  exact⟨by rw[<-P.out,t.out];rfl,b8⟩
 | false=>
  have a7:Xo (a6=if e.kind=2/\wr=Xd then zaz m ⟨S,T,U,Y,Z,a0,a1,a2⟩ (q8 m 2 e.n m.sp.length)else zaz m ⟨S,T,U,Y,Z,a0,a1,a2⟩ [(q,n)]):=dD<|by rw[ab.out,kF (of_decide_eq_false u.out)]
  obtain⟨bo,N⟩:=kA (decide (e.kind=2/\wr=Xd));have u19:=D.box.c 19 rfl;go_upto_region 4 with fail
  go_cut [46] (fun cb cd=>cb= Xh bo/\cd=wc)
  case first=>
   by_cases v:e.kind=2
   ·have h:(e.kind == 2)=Xc:=Rr v
    have G:bo=!wr:=by rw[<-N.out];cases wr <;> simp[v]
    subst G;clear v;cases wr
    all_goals (go_wp2;go_meet;exact⟨rfl,rfl⟩)
   have h:(e.kind == 2)=Xd:=Si v
   have G:bo=Xd:=by rw[<-N.out];simp[v]
   subst G;clear v;go_wp2
   go_meet
   exact⟨rfl,rfl⟩
  obtain⟨rfl,c6⟩:=hcut;subst c6;clear u19 de cs
  cases bo with
  | false=>
   have t:Xo (a6=zaz m ⟨S,T,U,Y,Z,a0,a1,a2⟩ [(q,n)]):=dD<|by rw[a7.out,kF (of_decide_eq_false N.out)]
   obtain⟨u0,u1,u2⟩:=D.box.c3;have u10:=D.box.c 10 rfl;have u11:=D.box.c 11 rfl;have u12:=D.box.c 12 rfl;have u13:=D.box.c 13 rfl;have u14:=D.box.c 14 rfl;have u15:=D.box.c 15 rfl;have u16:=D.box.c 16 rfl;have u17:=D.box.c 17 rfl;have aw:=ac.out (wc.alloc (Xk #[I6 (q:Int),I6 (n:Int)] 142)) (O (Xa ⟨wc.heap.size,0,Xb⟩) 1 1) [(q,n)] (K.trans (za _ _)) (z3.aN (base:=wc.heap.size) ⟨Qs zaD wc (q,n) _ _ rfl Dc,fun x n dh e=>by cases e;exact nR _⟩ (fun B al=>Oa (cg B al) (bS K))) bx Sm Sm
   rw[<-t.out,P.out]at aw;go_wp2_with fail;refine aw.mono ?_;clear u0 u1 u2 u10 u11 u12 u13 u14 u15 u16 u17;rintro c9 df ⟨rfl,ck⟩;have b8:=dD<|Chg.aI (K.trans (za _ _)) ck
   clear ck;go_wp2
   go_ret2
   exact⟨rfl,b8⟩
  | true=>
   have ai:=of_decide_eq_true N.out;have t:Xo (a6=zaz m ⟨S,T,U,Y,Z,a0,a1,a2⟩ (q8 m 2 e.n m.sp.length)):=dD<|by rw[a7.out,kE ai]
   obtain⟨cn,co,cp⟩:=bz.out ai.1;have cv:Xo (∀W aa,zc w W->zb zaD W.heap.size W aa (q8 m 2 e.n m.sp.length)->True):=dD<|fun _ _ _ _=>trivial
   have aj:=fun W M bd am=>ac.out W M (q8 m 2 e.n m.sp.length) bd am cn co cp
   rw[<-t.out,P.out]at aj;have bt:=dD aj
   clear aj ai cn co cp;go_upto_region 5 with fail;obtain⟨f,c⟩:=Wq fun C=>zl C d 245 [Xj (Xa ⟨p,0,Xb⟩),I6 (q:Int),I6 (n:Int),I6 a.fr,I6 a.tz,Xh a.rd,Xh a.wr,Xh a.sh,I6 a.file,I6 a.base,U8 S,U8 T,U8 U,U8 Y,U8 Z,U8 a0,U8 a1,U8 a2,Xh ic,Xh wr]/\zl C ap 127 [I6 e.kind,I6 e.n,Xh e.wr]
   have ah:f wc.drew:=(c _).2 ⟨D.aA (gW _),bq.aA (gW _)⟩
   have bb:zc wc wc.drew:=show Below _ _ _ from(bR _ _).drew
   have i:=fun y:zq f=>((c _).1 y.holds).2.box.c 1 rfl
   have A:=fun y:zq f=>((c _).1 y.holds).1.box.c 0 rfl
   have bg:=fun y:zq f=>((c _).1 y.holds).1.box.c 10 rfl
   have bh:=fun y:zq f=>((c _).1 y.holds).1.box.c 11 rfl
   have bi:=fun y:zq f=>((c _).1 y.holds).1.box.c 12 rfl
   have bj:=fun y:zq f=>((c _).1 y.holds).1.box.c 13 rfl
   have bk:=fun y:zq f=>((c _).1 y.holds).1.box.c 14 rfl
   have bl:=fun y:zq f=>((c _).1 y.holds).1.box.c 15 rfl
   have bm:=fun y:zq f=>((c _).1 y.holds).1.box.c 16 rfl
   have bn:=fun y:zq f=>((c _).1 y.holds).1.box.c 17 rfl
   have z:Nonempty (zq f):=⟨⟨_,ah⟩⟩;have ay:Xo (¬Dw p V d/\¬Dw p V ap):=dD<|⟨(ad.aA K).bU D Dc Dc Dc Dc,(ad.aA K).bU bq Dc Dc Dc Dc⟩
   refine qw (I:=f) 14 [(8,fun aa=>∃s:Sli,aa=s.x),(9,fun aa=>aa= Xm #[I6 (a6.2.1:Int),I6 d1])] (fun C=>zc wc C) ah bb zW Kr rfl rfl Dc (Sb ⟨_,ZH,rfl⟩ ⟨_,rfl⟩) Kr ?_
   simp only[Ym,Yn];iterate 8 refine zy ?_
   refine zV rfl rfl (fun aa C=>zc wc C/\z3 zaD wc.heap.size C aa (q8 m 2 e.n m.sp.length)) (fun w' H g=>?_) (fun db am=>?_)
   ·refine zP.call [Xj (Xa ⟨p,0,Xb⟩),I6 2,I6 e.n] rfl func233 rfl rfl rfl ?_;refine(bw w' (K.trans g)).mono ?_;rintro c9 cc ⟨aa,rfl,cq,af⟩;obtain⟨dc,dd,rfl⟩:=cq.form;exact⟨_,rfl,(c _).2 ⟨((c _).1 H).1.aA af,((c _).1 H).2.aA af⟩,⟨⟨dc,_,dd⟩,rfl⟩,g.trans af,(cq.base (bS g)).new⟩
   obtain⟨cr,rfl⟩:=am;refine Uq ?_;refine zV rfl rfl (fun _ C=>Chg w0 X p w V a6.2.2 C) (fun w' H g=>?_) (fun db am=>?_)
   ·refine zP.call [Xj (Xa ⟨p,0,Xb⟩),Xi #[U8 S,U8 T,U8 U,U8 Y,U8 Z,U8 a0,U8 a1,U8 a2],cr.x] rfl func232 rfl rfl rfl ?_;refine(bt w' (cr.x) (K.trans g.1) (g.2.aN (fun B al=>Oa (cg B al) (bS K)))).mono ?_
    rintro c9 cc ⟨rfl,cx,cy,c8,cz⟩;exact⟨_,rfl,(c _).2 ⟨((c _).1 H).1.aK c8 ay.1,((c _).1 H).2.aK c8 ay.2⟩,rfl,Chg.aI (K.trans g.1) ⟨cx,cy,c8,cz⟩⟩
   subst am;refine Uq ?_;iterate 4 refine zy ?_
   refine jW fun dg c4 bc=>?_
   have b8:=dD bc;clear c4 bc ah bb z i A bg bh bi bj bk bl bm bn;go_wp2
   go_ret2
   exact⟨rfl,b8⟩
variable{X:Nat->Prop}
def jJ (m:Ma) (BF:Bool × Nat × Ma) (pg:Pg) (a:Ar) (ic wr:Bool) (q n:Nat):Bool × Nat × Ma:=if(0<=a.file/\ic=Xd)/\(a.sh=Xc\/wr=Xd)then BF else Qn m pg ic wr q n
theorem zgx {w:Xn} {p:Nat} (N:ChW w0 X p w V m) (Z:Rt m) (q n:Nat) (s) (a0:m.sp[q]? =Xa s) (I:n<64) (a:Ar) (pg:Pg) (ic wr:Bool)
  (Y:∀(l:List (Nat × Nat)) (a1:Xq),(∀x∈l,x.2<64/\∃s,m.sp[x.1]? =Xa s)->jo (zi m l).fs=0->∀r T,ChW w0 X p r T (zi m l)->zl8 zaD (Dw p T) r a1 l->Xp prog 160 #[Xj (Xa ⟨p,0,Xb⟩),a1] r fun e w'=>e= Xl (Xh (Qf (zi m l) l).1)/\Chg w0 X p r T (Qf (zi m l) l).2 w')
  (BF:Bool × Nat × Ma) (L:(0<=a.file/\ic=Xd)/\(a.sh=Xc\/wr=Xd)->∀W,zc w W->Xp prog 205 #[Xi #[Xj (Xa ⟨p,0,Xb⟩),I6 (q:Int),I6 (n:Int),I6 a.fr,I6 a.tz,Xh a.rd,Xh a.wr,Xh a.sh,I6 a.file,I6 a.base,U8 pg.b0,U8 pg.b1,U8 pg.b2,U8 pg.b3,U8 pg.b4,U8 pg.b5,U8 pg.b6,U8 pg.b7,Xh ic,Xh wr]] W fun e w'=>e= Xl (Xm #[I6 (BF.2.1:Int),I6 (if BF.1=Xc then 0 else 10)])/\Chg w0 X p W V BF.2.2 w'):
  Xp prog 178 #[Xi #[Xj (Xa ⟨p,0,Xb⟩),I6 (q:Int),I6 (n:Int),I6 a.fr,I6 a.tz,Xh a.rd,Xh a.wr,Xh a.sh,I6 a.file,I6 a.base,U8 pg.b0,U8 pg.b1,U8 pg.b2,U8 pg.b3,U8 pg.b4,U8 pg.b5,U8 pg.b6,U8 pg.b7,Xh ic,Xh wr]] w fun e w'=>e= Xl (Xm #[I6 ((jJ m BF pg a ic wr q n).2.1:Int),I6 (if(jJ m BF pg a ic wr q n).1=Xc then 0 else 10)])/\Chg w0 X p w V (jJ m BF pg a ic wr q n).2.2 w':=by
 have H:Xo (∀W,zc w W->Xp prog 206 #[Xi #[Xj (Xa ⟨p,0,Xb⟩),I6 (q:Int),I6 (n:Int),I6 a.fr,I6 a.tz,Xh a.rd,Xh a.wr,Xh a.sh,I6 a.file,I6 a.base,U8 pg.b0,U8 pg.b1,U8 pg.b2,U8 pg.b3,U8 pg.b4,U8 pg.b5,U8 pg.b6,U8 pg.b7,Xh ic,Xh wr]] W fun e w'=>e= Xl (Xm #[I6 ((Qn m pg ic wr q n).2.1:Int),I6 (if(Qn m pg ic wr q n).1=Xc then 0 else 10)])/\Chg w0 X p W V (Qn m pg ic wr q n).2.2 w'):=dD<|fun W a2=>zik (N.aA a2) Z q n s a0 I a pg ic wr Y
 have j:=dD L
 obtain⟨y,z,A,B,C,D,E,F⟩:=pg;simp only at H j⊢;have d:Xo (jJ m BF ⟨y,z,A,B,C,D,E,F⟩ a ic wr q n=if(0<=a.file/\ic=Xd)/\(a.sh=Xc\/wr=Xd)then BF else Qn m ⟨y,z,A,B,C,D,E,F⟩ ic wr q n):=dD<|rfl
 obtain⟨G,Q⟩:=kA (jJ m BF ⟨y,z,A,B,C,D,E,F⟩ a ic wr q n);rw[Q.out]at d⊢;obtain⟨a5,h⟩:=kA (if G.1=Xc then(0:Int)else 10);rw[h.out];clear Z a0 I Y L N;obtain⟨K,U⟩:=kA w.heap.size;obtain⟨r,t⟩:=kB (w.alloc (Xk #[Xj (Xa ⟨p,0,Xb⟩),I6 (q:Int),I6 (n:Int),I6 a.fr,I6 a.tz,Xh a.rd,Xh a.wr,Xh a.sh,I6 a.file,I6 a.base,U8 y,U8 z,U8 A,U8 B,U8 C,U8 D,U8 E,U8 F,Xh ic,Xh wr] 245));have v:=gA t
 have i:=xPT t U
 have S:Xo (_=r):=t;clear t;have b:=H.out r v.out
 go_enter func178,ntmps178
 go_upto_region 1 with fail;rw[S.out,U.out];obtain⟨a4,R⟩:=kA a.sh;rw[R.out]at i d j b;have u7:=i.box.c 7 rfl;have u8:=i.box.c 8 rfl;have u18:=i.box.c 18 rfl;have u19:=i.box.c 19 rfl
 by_cases u:0<=a.file
 ·have a3:decide (0<=a.file)=Xc:=decide_eq_true u
  cases ic with
  | true=>
   have c:Xo (G=Qn m ⟨y,z,A,B,C,D,E,F⟩ Xc wr q n):=dD<|by rw[d.out,kF Sm]
   rw[<-c.out,h.out]at b
   go_wp2_with (refine zp rfl 245 (.tmp 1) rfl K rfl i.box underlying245 rfl Kr ?_)
   refine b.mono ?_;clear b u7 u8 u18 u19;rintro P M ⟨rfl,g⟩;have k:=dD<|Chg.aI v g
   clear g;go_wp2
   go_ret2
   exact⟨rfl,k⟩
  | false=>
   cases a4 with
   | true=>
    have c:Xo (G=BF):=dD<|by rw[d.out,kE (by exact⟨⟨u,rfl⟩,.inl rfl⟩)]
    have f:=j.out (by exact⟨⟨u,rfl⟩,.inl rfl⟩) r v.out
    rw[<-c.out,h.out]at f;clear u b
    go_wp2_with (refine zp rfl 245 (.tmp 1) rfl K rfl i.box underlying245 rfl Kr ?_)
    refine f.mono ?_;clear f u7 u8 u18 u19;rintro P M ⟨rfl,g⟩;have k:=dD<|Chg.aI v g
    clear g;go_wp2
    go_ret2
    exact⟨rfl,k⟩
   | false=>
    cases wr with
    | false=>
     have c:Xo (G=BF):=dD<|by rw[d.out,kE (by exact⟨⟨u,rfl⟩,.inr rfl⟩)]
     have f:=j.out (by exact⟨⟨u,rfl⟩,.inr rfl⟩) r v.out
     rw[<-c.out,h.out]at f;clear u b
     go_wp2_with (refine zp rfl 245 (.tmp 1) rfl K rfl i.box underlying245 rfl Kr ?_)
     refine f.mono ?_;clear f u7 u8 u18 u19;rintro P M ⟨rfl,g⟩;have k:=dD<|Chg.aI v g
     clear g;go_wp2
     go_ret2
     exact⟨rfl,k⟩
    | true=>
     have c:Xo (G=Qn m ⟨y,z,A,B,C,D,E,F⟩ Xd Xc q n):=dD<|by rw[d.out,kF Sm]
     rw[<-c.out,h.out]at b
     go_wp2_with (refine zp rfl 245 (.tmp 1) rfl K rfl i.box underlying245 rfl Kr ?_)
     refine b.mono ?_;clear b u7 u8 u18 u19;rintro P M ⟨rfl,g⟩;have k:=dD<|Chg.aI v g
     clear g;go_wp2
     go_ret2
     exact⟨rfl,k⟩
 have a3:decide (0<=a.file)=Xd:=decide_eq_false u;have c:Xo (G=Qn m ⟨y,z,A,B,C,D,E,F⟩ ic wr q n):=dD<|by rw[d.out,kF (by exact fun N=>u N.1.1)]
 rw[<-c.out,h.out]at b
 go_wp2_with (refine zp rfl 245 (.tmp 1) rfl K rfl i.box underlying245 rfl Kr ?_)
 refine b.mono ?_;clear b u7 u8 u18 u19;rintro P M ⟨rfl,g⟩;have k:=dD<|Chg.aI v g
 clear g;go_wp2
 go_ret2
 exact⟨rfl,k⟩
variable{X:Nat->Prop}
theorem zj9 {t:Ca}:∀{ca:List Ca},(ca.Pairwise fun a b=>qa a<qa b)->zeq ca t=Xc->ca.find? (fun c=>decide (qa c=qa t))=ca[zcX ca t]?
 | [],_,h=>by cases h
 | c :: l,g,h=>by
  unfold zcX;rw[Yr,List.find?_cons]
  by_cases e:qa c=qa t
  ·rw[decide_eq_true e,decide_eq_false Wm]
   rfl
  rw[decide_eq_false e];have d:zeq l t=Xc:=by
   unfold zeq at h⊢;rw[List.any_cons,decide_eq_false e,Bool.false_or]at h;exact h
  have f:qa c<qa t:=by
   unfold zeq at d;obtain⟨j,k,m⟩:=Xu.1 d;have n:=(Om.1 g).1 j k;have p:=of_decide_eq_true m;omega
  rw[decide_eq_true f];have i:=zj9 (Om.1 g).2 d;unfold zcX at i;simp only[if_true,Yp,Xt];exact i
section
variable{α:Type} {E:Elt α}
theorem zb.bY {base:Nat} {w:Xn} {n cap:Nat} {l:List α} (h:zb E base w (O (Xa ⟨g,0,Xb⟩) n cap) l) (i:Nat) (hi:i<=l.length):
  ∀j u,((l.drop i).flatMap E.enc)[j]? =Xa u->w.cell? ((⟨g,i*E.k,Xb⟩:Addr).add j)=Xa u:=fun j u b=>by
 have a:(l.flatMap E.enc)[i*E.k+j]? =Xa u:=by
  conv=>lhs;rw[<-Yj i l,Yb]
  rw[aR (by rw[qC,Xs,Yi hi];exact Nat.le_add_right _ _),qC,Xs,Yi hi,Oe]
  exact b
 have:=h.1.cells rfl _ u a;rw[Xw,zA]at this;rw[Xw];exact this
theorem zek {w:Xn} {rest:List Oper} {a:Act} (G:o.guard=Xb) (d s:Operand) (a2:o.op= .call { callee:= .builtin .copy,args:=#[d,s],argTypes:=#[E.st,E.st] })
  (base g cap n:Nat) (l:List α) (k:zb E base w (O (Xa ⟨g,0,Xb⟩) n cap) l) (i:Nat) (hi:i<l.length) (e:l.length+1<=cap) (h:(l.length+1)*E.bytes<=140737488355328)
  (c j f m:Nat) (R U:Addr) (I:a.eval d= O (Xa R) c j) (F:R=⟨g,(i+1)*E.k,Xb⟩) (a4:a.eval s= O (Xa U) f m) (L:U=⟨g,i*E.k,Xb⟩) (q:Nat) (a3:l.length - i=q) (x:q=Nat.min f c)
  (V:∀w',zb E base w' (O (Xa ⟨g,0,Xb⟩) (l.length+1) cap) (l.take (i+1)++l.drop i)->w.grownBy w' (Xa g)->w'.heap.size=w.heap.size->wpList prog ops Q rest (a.put o.dst (goInt q)) w'):wpList prog ops Q (o :: rest) a w:=by
 subst F L;refine wpList_plain G fun a6 Y=>?_
 obtain⟨a7,Z,K,a1,b,S,A,a5⟩:=k.block;obtain⟨a8,u,_,N,_⟩:=info_parts E.aF;have D:((l.drop i).flatMap E.enc).length=(l.length - i)*E.k:=by rw[qC,Yf]
 have z:(i+1)*E.k+(l.length - i)*E.k=(l.length+1)*E.k:=by rw[<-Oq,show i+1+(l.length - i)=l.length+1 by omega]
 have T:(l.length+1)*E.k<=cap*E.k:=Ya _ e;have p:=run_storeCells_at prog g ((i+1)*E.k) E.ty ((l.drop i).flatMap E.enc) 0 b w S (by rw[D,A];omega) (qS E.one _)
 simp only[Yw]at p;have v:=run_loadCells_list (P:=prog) w ⟨g,i*E.k,Xb⟩ ((l.drop i).flatMap E.enc) (k.bY i Wm)
 rw[D,a3]at v;obtain⟨W,C⟩:∃W,W=w.setRow g (b.toList.take ((i+1)*E.k)++(l.drop i).flatMap E.enc++b.toList.drop ((i+1)*E.k+((l.drop i).flatMap E.enc).length)).toArray:=⟨_,rfl⟩;rw[<-C]at p;have y:(Builtin.copy_ #[E.st,E.st] o.type #[O (Xa ⟨g,(i+1)*E.k,Xb⟩) c j,O (Xa ⟨g,i*E.k,Xb⟩) f m]).run prog w= .ok (goInt q) W:=by
  simp[Builtin.copy_,run_underlying E.bV,Builtin.lenOf,Builtin.firstCells,sizeOf,typeInfo,u,N,<-x,v,p]
 unfold Oper.wp
 simp[execOp,a2,resolve,invoke,builtin,I,a4,y,Result.andThen]
 have hlen:(l.take (i+1)++l.drop i).length=l.length+1:=by rw[lA,Xs,Yf];omega
 have t:b.toList.length=cap*E.k:=Si A
 have H:(i+1)*E.k<=l.length*E.k:=Ya _ hi;have a0:l.length*E.k<=cap*E.k:=Ya _ K;have M:b.toList.take ((i+1)*E.k)=(l.take (i+1)).flatMap E.enc:=by
  have X:(b.toList.take (l.length*E.k)).take ((i+1)*E.k)=b.toList.take ((i+1)*E.k):=by rw[List.take_take,Yi H]
  rw[<-X,a5]
  conv=>lhs;rw[<-Yj (i+1) l,Yb]
  exact Yt (by rw[qC,Xs,Yi hi])
 have B:(b.toList.take ((i+1)*E.k)).length=(i+1)*E.k:=by rw[Xs,t];omega
 have r:=zb.mk' (E:=E) (base:=base) (w:=W) (g:=g) (cap:=cap) (l:=l.take (i+1)++l.drop i) Z (by rw[C];exact setRow_heap w g b _ E.ty _ S) (by rw[hlen];exact e) a1 (by
  simp only[Od,lA,B,D,Yf,t]
  omega) (by
  rw[hlen,Yb,<-M,<-z];have:(b.toList.take ((i+1)*E.k)++(l.drop i).flatMap E.enc).length=(i+1)*E.k+(l.length - i)*E.k:=by rw[lA,B,D]
  simp only;rw[Yt this]) (by rw[hlen];exact h)
 rw[hlen]at r;exact Y _ _ (V _ r (by rw[C];exact j5 _ _ _) (by rw[C];simp[World.setRow]))
end
theorem zfP {base n c:Nat} {a:Option Addr} {w:Xn} {l:List Ca} (b:zb Zz base w (O a n c) l) (f:l.length<=1000) (x d) (h:Nat) (t:zj Zz w (O d 1 h) [x]) (r:base<=w.heap.size):
  Xp prog 192 #[O a n c,I6 (n:Int),O d 1 h] w fun e w'=>∃(d:Option Addr) (h:Nat),e= Xl (O d (n+1) h)/\zb Zz base w' (O d (n+1) h) (l++ [x])/\w.grownBy w' (O a n c).ownBlock/\(∀g,(O d (n+1) h).ownBlock=Xa g->(O a n c).ownBlock=Xa g\/w.heap.size<=g):=by
 have m:=dD b.at.n;have i:n<=1000:=Hm m.out
 have s:=dD b;have u:=dD t;have k:=dD r;have p:(n:Int)<=(c:Int):=by
  rcases b.1.2 with⟨i,_⟩|⟨j,q,q,i,_,_,q,_⟩
  ·cases i;omega
  cases i;omega
 clear b t r f
 by_cases i:c=n
 ·rw[i]at s⊢;clear i p
  go_enter func192,ntmps192
  go_wp2_with (at_builtin;refine ZZ (E:=Zz) rfl (.tmp 23) (.tmp 24) rfl base _ l rfl s _ [x] rfl u.out ?qb k.out ?_)
  case qb=>
   show(l.length+1)*24<=_
   have:=m.out;omega
  intro y w' b j f;obtain⟨d,h,rfl⟩:=b.form;have r:Xo ((l++ [x]).length=n+1):=dD<|by rw[lA,Oi,m.out]
  rw[r.out]at b f⊢;have t:=dD b;have q:=dD j;have p:=dD f;clear b j f;go_wp2;go_ret;exact⟨d,h,rfl,t,q,p⟩
 have v:¬n=c:=fun e=>i e.symm
 go_enter func192,ntmps192
 go_wp2_with (at_builtin;refine ZZ (E:=Zz) rfl (.tmp 23) (.tmp 24) rfl base _ l rfl s _ [x] rfl u.out ?qb k.out ?_)
 case qb=>
  show(l.length+1)*24<=_
  have:=m.out;omega
 intro y w' b j f;obtain⟨d,h,rfl⟩:=b.form;have r:Xo ((l++ [x]).length=n+1):=dD<|by rw[lA,Oi,m.out]
 rw[r.out]at b f⊢;have t:=dD b;have q:=dD j;have p:=dD f;clear b j f;go_wp2;go_ret;exact⟨d,h,rfl,t,q,p⟩
end
end Go.Proofs.YtmfckdkcmbncdaaGreat
