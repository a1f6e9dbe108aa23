import Derived.Test.YtjjdljjhmcegdaaGreatPZ3
import Derived.Deep.CutRange
import Derived.Laws.BytesArg
namespace Go.Proofs.YtjjdljjhmcegdaaGreat
open Go.Value renaming slice→O,int→Xe,bool→Xh,agg→Xi,pointer→Xj,tuple→Xm
open Go.IntKind renaming i64→Xf,u8→Xg
open Go.Obj renaming cells→Xk
open Go.Ending renaming returned→Xl
open Go renaming World→Xn,Calls→Xp,Value→Xq
open Go.RowKit renaming Hid→Xo
open Option renaming some→Xa,none→Xb
open Bool renaming true→Xc,false→Xd
open List renaming replicate→Xr
open Go.Sem renaming run_bind→Xs,run_pure→Xw
open _root_.List renaming getElem?_cons_succ→Xt,drop_of_length_le→Xv,map_nil→Xx,take→Xy,drop→Xz,take_of_length_le→Ya,mem_map→Yb,any_append→Yc,getElem?_of_mem→Yd,countP_cons→Ye,mem_append→Yf,mem_range→Yi,countP_le_length→Yj,map_toArray→Yl,getElem?_append_left→Ym,drop_eq_getElem_cons→Yn,ext_getElem?→Yo,length_set→Yq,contains_iff_mem→Yr,getElem?_map→Ys,take_add_one→Yt,getElem?_set→Yu,range→Yv
open Go.Addr renaming add_lit→Xu
open _root_.Nat renaming lt_of_lt_of_le→Yg,le_of_ble_eq_true→Yk,mul_one→Yp
open Go.Act renaming put→Yh
set_option maxRecDepth 100000
set_option maxHeartbeats 4000000
variable{B b fi hi ix j:Nat} {L:List Int} {Q:Exit->Act->Xn->Prop} {T:List (Nat->En)} {V:MaV} {a0 a1 a2 a3 a4 a5 a6 a7 a8 a9:Xq} {m m':Ma} {o:Oper} {ops:Array Oper} {vs:List Xq} {vt:Sli} {w' w0:Xn}
open Go.Proofs.Tryz
section
open Go.RowKit
theorem zgY (F S B:Int) (nf ns nb:Nat) (hnf:max (min F 40) 0=(nf:Int)) (hns:max (min S 60) 0=(ns:Int)) (hnb:max (min B 80) 0=(nb:Int)) (vl:Sli) (L w) (lr:zl byE w (vl.x) L) (lc:vl.n<=vl.c) (lb:∀z∈L,0<=z/\z<256):
  Xp prog 6 #[I6 F,I6 S,I6 B,vl.x] w fun e w'=>∃(V:MaV) (m:Ma) (T:List (Nat->En)) (hd:Int) (hi ht:Nat) (vt:Sli),e= Xl (Xi #[V.f.x,I6 hd,V.s.x,V.sb.x,V.sq.x,V.db.x,V.dq.x,V.fl.x,I6 m.cnt,V.ca.x,V.sp.x])/\zmO w nf ns nb L w' V m T hd hi ht vt:=by
 have hnf40:nf<=40:=Wm
 have hns60:ns<=60:=Wm
 have hnb80:nb<=80:=Wm
 obtain⟨W0,hW0⟩:=kB ((w.alloc (Xk zM.toArray 41)).alloc (Xk #[vl.x,eS,I6 0,eS,eS,eS,eS,eS,eS,I6 0,eS,eS,eS] 58));have G0:=gD2 hW0
 have X0:Xo (zo W0 w.heap.size 41 qf):=dD<|by rw[<-hW0];exact(zo.top _ qf _ rfl).grew (za _ _)
 have Y0:Xo (zo W0 (w.heap.size+1) 58 [vl.x,eS,I6 0,eS,eS,eS,eS,eS,eS,I6 0,eS,eS,eS]):=dD<|by rw[<-hW0];exact zo.top _ [vl.x,eS,I6 0,eS,eS,eS,eS,eS,eS,I6 0,eS,eS,eS] _ Sm
 have HW0:=dD hW0;have HLR:=dD lr;have HLC:=dD lc;have HLB:=dD lb
 clear hW0 lr lc lb
 go_enter func6,ntmps6
 go_upto_region 3 with fail;rw[HW0.out];try rw[hnf]
 try rw[hns]
 try rw[hnb]
 clear hnf hns hnb;obtain⟨b,HBB⟩:=kA (w.heap.size+1);rw[HBB.out]at Y0⊢;obtain⟨I,HI⟩:=Wq fun u=>zc W0 u
 have hI0:=(HI _).2 (gW _)
 have hne:Nonempty (zj I):=⟨⟨_,hI0⟩⟩;refine zfI (I:=I) (J:=JB nf ns nb) 17 [(2,⟨fun v=>∃g,v= O (Xa ⟨g,0,Xb⟩) nf nf,fun v u=>zb qA w.heap.size u v (Xr nf fr0),fun p q=>zc p q,fun _=>True⟩),(5,⟨fun v=>∃g,v= O (Xa ⟨g,0,Xb⟩) ns ns,fun v u=>zb slE w.heap.size u v (Xr ns 0),fun p q=>zc p q,fun _=>True⟩),(7,⟨fun v=>∃g,v= O (Xa ⟨g,0,Xb⟩) ns ns,fun v u=>zh w.heap.size u v (Xr ns zp),fun p q=>zc p q,fun _=>True⟩),(10,⟨fun v=>∃g,v= O (Xa ⟨g,0,Xb⟩) nb nb,fun v u=>zh w.heap.size u v (Xr nb zp),fun p q=>zc p q,fun _=>True⟩)] hI0 ?hJ0 ?hJq ?hJs ?hJu z6 Kr rfl rfl Dc ?hS ?hp ?hpre ?hpr0 ?_
 case hJ0=>
  refine⟨⟨rfl,rfl,rfl⟩,fun s hs=> .inl ?_,fun s hs x n c he=>?_,fun s hs t ht hst x n c y n' c' he=>?_⟩
  ·simp only[mC,nM,or_false]at hs
   rcases hs with rfl|rfl|rfl|rfl <;> rfl
  ·simp only[mC,nM,or_false]at hs
   rcases hs with rfl|rfl <;> cases he
  simp only[mC,nM,or_false]at hs
  rcases hs with rfl|rfl <;> cases he
 case hJq=>
  intro j o hj hS a v u hr hJ;exact hJ.quiet (znh (Sx:=[2,5,7,10]) Kr hj (zjR hS)) Wm Wm hnb80 hr
 case hJs=>
  intro j o s hj hs a u K hJ hI hd;have hs':=zW hs;clear hs;simp only[mC,pJ,nM,or_false]at hs'
  rcases hs' with⟨rfl,rfl⟩|⟨rfl,rfl⟩|⟨rfl,rfl⟩|⟨rfl,rfl⟩
  ·cases hj;obtain⟨i0,hi,hz0,hz1,hz2⟩:=info_parts qA.info;exact hJ.make 26 62 i0 _ 32 rfl Sm qA.und hi hz0 (by rw[hz2];decide) Dc hd
  ·cases hj;obtain⟨i0,hi,hz0,hz1,hz2⟩:=info_parts slE.info;exact hJ.make 30 3 i0 _ 35 rfl Sm slE.und hi hz0 (by rw[hz2];decide) Dc hd
  ·cases hj;obtain⟨i0,hi,hz0,hz1,hz2⟩:=info_parts zqs;exact hJ.make 31 60 i0 _ 37 rfl Sm underlying31 hi hz0 (by rw[hz2];decide) Dc hd
  cases hj;obtain⟨i0,hi,hz0,hz1,hz2⟩:=info_parts zqs;exact hJ.make 31 60 i0 _ 40 rfl Sm underlying31 hi hz0 (by rw[hz2];decide) Dc hd
 case hJu=>
  intro j o hj a u hJ;exact hJ.undef (zni Kr hj)
 case hS=>
  intro x hx;simp only[mC,nM,or_false]at hx
  rcases hx with rfl|rfl|rfl|rfl <;> exact⟨_,0,rfl⟩
 case hp=>
  intro k s j t hk hj hjk hanc v p q hst hpo;have hk':=zW hk;have hj':=zW hj;clear hk hj;simp only[mC,pJ,nM,or_false]at hk' hj';have hg:zc p q:=by rcases hj' with⟨rfl,rfl⟩ | ⟨rfl,rfl⟩ | ⟨rfl,rfl⟩ | ⟨rfl,rfl⟩ <;> exact hst
  rcases hk' with⟨rfl,rfl⟩|⟨rfl,rfl⟩|⟨rfl,rfl⟩|⟨rfl,rfl⟩
  ·exact zb.grew hpo hg
  ·exact zb.grew hpo hg
  ·exact zh.grew hpo hg
  exact zh.grew hpo hg
 case hpre=>
  intro j t k s hj hk hjk p q hst hpr;have hj':=zW hj;clear hk hj;simp only[mC,pJ,nM,or_false]at hj'
  rcases hj' with⟨rfl,rfl⟩|⟨rfl,rfl⟩|⟨rfl,rfl⟩|⟨rfl,rfl⟩ <;> trivial
 case hpr0=>
  intro k t hk;have hk':=zW hk;clear hk;simp only[mC,pJ,nM,or_false]at hk'
  rcases hk' with⟨rfl,rfl⟩|⟨rfl,rfl⟩|⟨rfl,rfl⟩|⟨rfl,rfl⟩ <;> trivial
 simp only[Xy,Xz];iterate 2 refine zN ?_
 refine zV rfl rfl (fun w' hI' hpr hF=>?_) (fun v1 hv=>?_)
 ·have hg:=(HI _).1 hI';exact zbe qA w' nf (by show nf*40<=_;omega) (.tmp 32) rfl rfl (fun C ho=>⟨(HI _).2 (hg.trans (za _ _)),za _ _,⟨_,rfl⟩,ho.base (nT (bS G0) (bS hg))⟩)
 obtain⟨gf,rfl⟩:=hv;refine Uq ?_;iterate 2 refine zN ?_
 refine zV rfl rfl (fun w' hI' hpr hF=>?_) (fun v1 hv=>?_)
 ·have hg:=(HI _).1 hI';exact zbe slE w' ns (by show ns*8<=_;omega) (.tmp 35) rfl rfl (fun C ho=>⟨(HI _).2 (hg.trans (za _ _)),za _ _,⟨_,rfl⟩,ho.base (nT (bS G0) (bS hg))⟩)
 obtain⟨gl,rfl⟩:=hv;refine Uq ?_;refine zN ?_
 refine zV rfl rfl (fun w' hI' hpr hF=>?_) (fun v1 hv=>?_)
 ·have hg:=(HI _).1 hI';exact JW w' ns Wm (.tmp 37) rfl rfl (fun C ho=>⟨(HI _).2 (hg.trans (za _ _)),za _ _,⟨_,rfl⟩,ho.base (nT (bS G0) (bS hg))⟩)
 obtain⟨gsb,rfl⟩:=hv;refine Uq ?_;iterate 2 refine zN ?_
 refine zV rfl rfl (fun w' hI' hpr hF=>?_) (fun v1 hv=>?_)
 ·have hg:=(HI _).1 hI';exact JW w' nb hnb80 (.tmp 40) rfl rfl (fun C ho=>⟨(HI _).2 (hg.trans (za _ _)),za _ _,⟨_,rfl⟩,ho.base (nT (bS G0) (bS hg))⟩)
 obtain⟨gdb,rfl⟩:=hv;refine Uq ?_;iterate 4 refine zN ?_
 refine ZS (.tmp 31) ⟨b,0,Xb⟩ rfl rfl rfl rfl ?_;refine Uq ?_;refine zN ?_
 refine j2 fun W1 hI1 hF hJ=>?_
 have hap:gsb≠gdb:=hJ.2.2.2 38 Sm 41 Sm Dc ⟨gsb,0,Xb⟩ ns ns ⟨gdb,0,Xb⟩ nb nb rfl rfl
 have o1:=hF 2;have o2:=hF 5;have o3:=hF 7;have o4:=hF 10;have g1:=(HI _).1 hI1;have Y1:=dD (Y0.grew g1);have X1:=dD (X0.grew g1);have G1:=dD (G0.trans g1);clear hF hJ hI1 hI0 hne g1;refine zfH rfl 41 (.tmp 47) (.tmp 45) rfl b 1 rfl [O (Xa ⟨gf,0,Xb⟩) nf nf,I6 0,O (Xa ⟨gl,0,Xb⟩) ns ns,O (Xa ⟨gsb,0,Xb⟩) ns ns,eS,O (Xa ⟨gdb,0,Xb⟩) nb nb,eS,eS,I6 (nb:Int),eS,eS] rfl Y1 Sm Kr (fun v hv=>by simp only[mC,nM,or_false]at hv;rcases hv with rfl | rfl | rfl | rfl | rfl | rfl | rfl | rfl | rfl | rfl | rfl <;> rfl) ?_
 intro W2 hb2 hg2 hs2;have B2:zo W2 b 58 [vl.x,O (Xa ⟨gf,0,Xb⟩) nf nf,I6 0,O (Xa ⟨gl,0,Xb⟩) ns ns,O (Xa ⟨gsb,0,Xb⟩) ns ns,eS,O (Xa ⟨gdb,0,Xb⟩) nb nb,eS,eS,I6 (nb:Int),eS,eS,eS]:=hb2;have M2:Xo (Mk w W2.heap.size W2 b vl L ⟨⟨Xa ⟨gf,0,Xb⟩,nf,nf⟩,⟨Xa ⟨gl,0,Xb⟩,ns,ns⟩,⟨Xa ⟨gsb,0,Xb⟩,ns,ns⟩,zG,⟨Xa ⟨gdb,0,Xb⟩,nb,nb⟩,zG,zG,zG,zG⟩ ⟨Xr nf fr0,0,Xr ns 0,Xr ns zp,[],Xr nb zp,[],[],nb,[],[]⟩ zG []):=zns (zd G1 hg2 (Hm HBB.out)) (Hm HBB.out) B2 HLR HLC HLB (o1.kind hg2 Y1 Dc) (o2.kind hg2 Y1 Dc) ⟨qC o3.1 hg2 Y1 Dc,o3.2⟩ ⟨qC o4.1 hg2 Y1 Dc,o4.2⟩ hap
 have X2:Xo (zo W2 w.heap.size 41 qf):=X1.beside hg2 (fun g e=>by cases e;have:=HBB.out;omega)
 clear hb2 hg2 hs2 o1 o2 o3 o4 hap;obtain⟨hi,HHI⟩:=kA W2.heap.size;rw[HHI.out]at M2;try simp only[Yh]
 have x1:=M2.box.box.c 1 rfl;go_wp2;clear x1
 go_loopg [55] nf (fun gg s55 wr=>∃kk:Nat,kk<=nf/\nf - kk<=gg/\s55=I6 kk/\Xo (Mk w hi wr b vl L ⟨⟨Xa ⟨gf,0,Xb⟩,nf,nf⟩,⟨Xa ⟨gl,0,Xb⟩,ns,ns⟩,⟨Xa ⟨gsb,0,Xb⟩,ns,ns⟩,zG,⟨Xa ⟨gdb,0,Xb⟩,nb,nb⟩,zG,zG,zG,zG⟩ ⟨ziT nf kk,0,Xr ns 0,Xr ns zp,[],Xr nb zp,[],[],nb,[],[]⟩ zG [])/\Xo (zo wr w.heap.size 41 qf))
 exact⟨0,nZ _,Wm,rfl,Rx zlT M2,X2⟩
 obtain⟨kk,hkk,hgg,rfl,MW,XW⟩:=hrel
 by_cases hlt:kk<nf
 ·have hltz:=kC hlt
  have x1:=MW.box.box.c 1 rfl;dsimp only[Sli.x]at x1;have R:=dD MW.rows.fs;have d:wr.cell? ⟨gf,kk*13+11,Xb⟩=Xa (I6 0):=by
   have:=R.one (zlV hlt) 11 _ rfl;rw[zS,Xu,zA]at this;exact this
  have xf:=R.unfrozen rfl;obtain⟨ow,gr,sz⟩:=R.cell (k:=kk) (o:=11) rfl (zlV hlt) (y:=frF) (u:=I6 (-1)) rfl Dc
  rw[znN hlt]at ow;have hM:=MW.setF rfl gr sz ow (zez.free (zo5 nf (kk+1)) (zlU nf (kk+1)));have M3:=dD hM.1;have X3:Xo (zo (wr.setCell ⟨gf,kk*13+11,Xb⟩ (I6 (-1))) w.heap.size 41 qf):=hM.2.1 _ _ _ XW ⟨Dc,Dc,Dc,Dc,Dc,Dc,Dc,Dc,fun h=>absurd h Dc⟩
  clear hM ow gr sz;go_wp2
  go_roundg (nf -(kk+1));exact⟨kk+1,Wm,Wm,Gn,M3,X3⟩;omega
 have hltz:=kD hlt
 obtain rfl:nf=kk:=Wm
 rw[znO]at MW;have hpk:=qB 3 MW.out;go_wp2_with fail;refine hpk.mono ?_;clear hpk;rintro e W3 ⟨vl1,L1,y,rfl,mk1,gr1,sz1,y0,y1,yn,ll⟩;obtain⟨c,rfl⟩:∃c:Nat,y=(c:Int):=⟨y.toNat,Wm⟩
 have hc3:c<3:=by rcases y1 with h | h <;> omega
 have HC0:Xo (L=[]->c=0):=dD<|fun e=>Hm (yn e)
 have M3:=dD mk1;have X3:Xo (zo W3 w.heap.size 41 qf):=XW.beside gr1 (fun g e=>by cases e;have:=HBB.out;omega)
 have LL3:=dD ll;clear mk1 gr1 sz1 y0 y1 yn ll;go_wp2
 go_loopg [70] c (fun gg s70 wr=>∃(k2:Nat) (vl':Sli) (L':List Int) (sd sf:Sli) (db:List (List Int)) (dq:List (Int × List Int)) (fl:List Fl),k2<=c/\c - k2<=gg/\s70=I6 k2/\Xo (Mk w hi wr b vl' L' ⟨⟨Xa ⟨gf,0,Xb⟩,nf,nf⟩,⟨Xa ⟨gl,0,Xb⟩,ns,ns⟩,⟨Xa ⟨gsb,0,Xb⟩,ns,ns⟩,zG,⟨Xa ⟨gdb,0,Xb⟩,nb,nb⟩,sd,sf,zG,zG⟩ ⟨Xr nf frF,0,Xr ns 0,Xr ns zp,[],db,dq,fl,nb,[],[]⟩ zG [])/\Xo (QT L L')/\Xo (zo wr w.heap.size 41 qf)/\Xo (zfu fl nb db dq []/\fl.length<=k2/\db.length=nb/\∀f∈fl,f.size<40)/\Xo (k2=0->fl=[]/\dq=[]/\db=Xr nb zp))
 exact⟨0,vl1,L1,zG,zG,_,_,_,nZ _,Wm,rfl,M3,LL3,X3,(show _/\_ from⟨zfu.zero hnb80,nZ _,lR,fun f hf=>(by cases hf)⟩),(fun _=>⟨rfl,rfl,rfl⟩)⟩
 obtain⟨k2,vl2,L2,sd,sf,db,dq,fl,hk2,hg2,rfl,MW,LW,XW,FW,ZW⟩:=hrel
 by_cases hlt2:k2<c
 ·have hltz2:=kC hlt2
  have hpk2:=qB 40 MW.out;go_wp2_with fail;refine hpk2.mono ?_;clear hpk2;rintro e W4 ⟨vl4,L4,sz,rfl,mk4,gr4,-,s0,s1,-,ll4⟩;have hsz:sz<40:=by rcases s1 with h|h <;> omega
  have M4:=dD mk4;have X4:Xo (zo W4 w.heap.size 41 qf):=XW.beside gr4 (fun g e=>by cases e;have:=HBB.out;omega)
  have LL4:=dD (LW.trans ll4);clear mk4 gr4 ll4 s1;go_upto_region 12 with fail;obtain⟨pf,HPF⟩:=kA W4.heap.size;obtain⟨W5,hW5⟩:=kB (W4.alloc (Xk #[I6 sz,eS] 65));have g5:=gP hW5
  have P5:=xPT hW5 HPF
  have M5:=dD (M4.grew g5);have X5:=dD (X4.grew g5);have FB5:Xo (FlB w.heap.size hi pf W5 ⟨⟨Xa ⟨gf,0,Xb⟩,nf,nf⟩,⟨Xa ⟨gl,0,Xb⟩,ns,ns⟩,⟨Xa ⟨gsb,0,Xb⟩,ns,ns⟩,zG,⟨Xa ⟨gdb,0,Xb⟩,nb,nb⟩,sd,sf,zG,zG⟩ ⟨Xr nf frF,0,Xr ns 0,Xr ns zp,[],db,dq,fl,nb,[],[]⟩):=show FlB _ _ _ _ _ _ by rw[<-HPF.out];exact M4.rows.flB.grew g5
  have HHP:Xo (hi<=pf):=dD<|Ry HPF.out M4.rows.hw
  have HFN:Xo (∀g,(sf.x).ownBlock=Xa g->g<pf):=dD<|fun g hg=>by rw[<-HPF.out];obtain⟨xs,q1,-,-⟩:=M4.rows.fl;exact(q1.lt g hg).2
  rw[hW5,HPF.out];clear hW5 g5;have p0:=P5.box.c 0 rfl;have hcn:=zbS sz W5 s0 Wm
  go_wp2_with fail;refine hcn.mono ?_;clear hcn p0;rintro e W6 ⟨rfl,hw6⟩;rw[hw6];clear hw6;have HC9:Xo (Jn sz<=5):=dD<|by unfold Jn;split <;> omega
  obtain⟨N3,HN3⟩:∃N3:Nat,Xo (Jn sz=(N3:Int)):=⟨(Jn sz).toNat,show _=_ by unfold Jn;split <;> omega⟩
  rw[HN3.out];have HSZ:Xo (0<=sz/\sz<40):=dD<|⟨s0,hsz⟩
  have hN35:N3<=5:=by have:=HC9.out;have:=HN3.out;omega
  have F5:Xo (FC w hi b W5 vl4 L4 ⟨⟨Xa ⟨gf,0,Xb⟩,nf,nf⟩,⟨Xa ⟨gl,0,Xb⟩,ns,ns⟩,⟨Xa ⟨gsb,0,Xb⟩,ns,ns⟩,zG,⟨Xa ⟨gdb,0,Xb⟩,nb,nb⟩,sd,sf,zG,zG⟩ ⟨Xr nf frF,0,Xr ns 0,Xr ns zp,[],db,dq,fl,nb,[],[]⟩ pf sz zG []):=dD<|⟨M5,HHP,FB5,HFN,P5,zb.nil _ _ _⟩
  have HF0:Xo (zfu fl nb db dq []/\db.length=nb):=dD<|⟨FW.1,FW.2.2.1⟩
  have HF40:=dD FW.2.2.2
  have HFL:=dD FW.2.1
  clear s0 hsz;go_wp2
  go_loopg [78] N3 (fun gg s78 wr=>∃(k3:Nat) (vl':Sli) (L':List Int) (sd' bs:Sli) (db':List (List Int)) (dq':List (Int × List Int)) (bl:List Int),k3<=N3/\N3 - k3<=gg/\s78=I6 k3/\Xo (FC w hi b wr vl' L' ⟨⟨Xa ⟨gf,0,Xb⟩,nf,nf⟩,⟨Xa ⟨gl,0,Xb⟩,ns,ns⟩,⟨Xa ⟨gsb,0,Xb⟩,ns,ns⟩,zG,⟨Xa ⟨gdb,0,Xb⟩,nb,nb⟩,sd',sf,zG,zG⟩ ⟨Xr nf frF,0,Xr ns 0,Xr ns zp,[],db',dq',fl,nb,[],[]⟩ pf sz bs bl)/\Xo (QT L L')/\Xo (zo wr w.heap.size 41 qf)/\Xo (zfu fl nb db' dq' bl/\bl.length=k3/\db'.length=nb))
  exact⟨0,vl4,L4,sd,zG,db,dq,[],nZ _,Wm,rfl,F5,LL4,X5,(show _/\_ from⟨HF0.1,rfl,HF0.2⟩)⟩
  obtain⟨k3,vl6,L6,sd6,bs,db6,dq6,bl,hk3,hg3,rfl,FX,LX,XX,FI⟩:=hrel
  by_cases hlt3:k3<N3
  ·have hltz3:=kC hlt3
   have hpk7:=qB (max (nb:Int) 1) FX.mm;go_wp2_with fail;refine hpk7.mono ?_;clear hpk7;rintro e W7 ⟨vl7,L7,x,rfl,mk7,gr7,-,x0,-,-,ll7⟩;obtain⟨n,rfl⟩:∃n:Nat,x=(n:Int):=⟨x.toNat,Wm⟩
   have F7:=dD<|FX.pick gr7 mk7;have X7:Xo (zo W7 w.heap.size 41 qf):=XX.kind gr7 FX.mm.box Dc
   have LL7:=dD (LX.trans ll7);clear mk7 gr7 ll7 x0;go_upto_region 17 with fail
   go_cut [78,109]from 78 to 160 (fun s78 s109 wx=>∃(tk:Bool) (vl':Sli) (L':List Int),s78=I6 k3/\s109= Xh tk/\Xo (FC w hi b wx vl' L' ⟨⟨Xa ⟨gf,0,Xb⟩,nf,nf⟩,⟨Xa ⟨gl,0,Xb⟩,ns,ns⟩,⟨Xa ⟨gsb,0,Xb⟩,ns,ns⟩,zG,⟨Xa ⟨gdb,0,Xb⟩,nb,nb⟩,sd6,sf,zG,zG⟩ ⟨Xr nf frF,0,Xr ns 0,Xr ns zp,[],db6,dq6,fl,nb,[],[]⟩ pf sz bs bl)/\Xo (QT L L')/\Xo (zo wx w.heap.size 41 qf)/\Xo (tk=Xc->n<nb/\zR (fl++ [⟨sz,bl⟩]) (n:Int)=Xd))
   case first=>
    by_cases hn:n<nb
    ·have hnz:=kC hn
     have hnd:decide ((n:Int)< (nb:Int))=Xc:=Si hnz
     obtain⟨xs,q1,q2,q3⟩:=F7.fb;have HX:=dD q1;obtain⟨nF,HNF⟩:=kA fl.length;have HXL:Xo (xs.length=nF):=show _=_ by rw[q2];exact HNF.out
     have hnF:nF<=10:=by have:=HFL.out;have:=HNF.out;omega
     have HSN:Xo (sf.n=nF):=dD<|by rw[q1.n];exact HXL.out
     have HX3:=dD<|fun (i:Nat) x f (hx:xs[i]? =Xa x) (hf:fl[i]? =Xa f)=>(q3 i x f hx hf).1
     clear q1 q2 q3;obtain⟨fx,HFX⟩:∃fx:FlV,Xo (fx=⟨sz,bs.a,bs.n,bs.c⟩):=⟨_,rfl⟩;obtain⟨UB,HUB⟩:∃UB,Xo (zR (fl++ [(⟨sz,bl⟩:Fl)]) (n:Int)=UB):=⟨zR (fl++ [(⟨sz,bl⟩:Fl)]) (n:Int),rfl⟩;have HB7:=dD F7.mm.box.box.lt;have HPB:Xo (pf≠b):=show _≠_ from fun e=>by
      have h1:W7.heap[pf]? =_:=F7.box;have h2:W7.heap[b]? =_:=F7.mm.box;rw[e,h2]at h1;cases h1
     have HXB:Xo (w.heap.size≠b):=dD<|Hm HBB.out
     obtain⟨I,HI⟩:=Wq fun u=>Out b (b+1) W7 u/\FCE w hi b L ⟨⟨Xa ⟨gf,0,Xb⟩,nf,nf⟩,⟨Xa ⟨gl,0,Xb⟩,ns,ns⟩,⟨Xa ⟨gsb,0,Xb⟩,ns,ns⟩,zG,⟨Xa ⟨gdb,0,Xb⟩,nb,nb⟩,sd6,sf,zG,zG⟩ ⟨Xr nf frF,0,Xr ns 0,Xr ns zp,[],db6,dq6,fl,nb,[],[]⟩ pf sz bs bl u
     have hI0:I W7.drew:=(HI _).2 ⟨Out.drew _,vl7,L7,F7.grew (gW _),LL7⟩
     have HIG:Xo (∀u u',I u->zc u u'->I u'):=dD<|fun u u' h k=>by
      obtain⟨h1,vl',L',h2,h3⟩:=(HI _).1 h;exact(HI _).2 ⟨h1.trans (Out.grew k),vl',L',h2.grew k,h3⟩
     have hx8:∀y:zj I,y.world.cell? ⟨b,8,Xb⟩=Xa (sf.x):=fun y=>by
      obtain⟨_,_,_,h2,_⟩:=(HI _).1 y.holds;exact h2.mm.box.box.c 8 rfl
     have hp0:∀y:zj I,y.world.cell? ⟨pf,0,Xb⟩=Xa (I6 sz):=fun y=>by
      obtain⟨_,_,_,h2,_⟩:=(HI _).1 y.holds;exact h2.box.box.c 0 rfl
     have hp1:∀y:zj I,y.world.cell? ⟨pf,1,Xb⟩=Xa (bs.x):=fun y=>by
      obtain⟨_,_,_,h2,_⟩:=(HI _).1 y.holds;exact h2.box.box.c 1 rfl
     have hne:Nonempty (zj I):=⟨⟨_,hI0⟩⟩;refine qX (I:=I) 25 [(4,⟨fun v=>∃g,v= O (Xa ⟨g,0,Xb⟩) 0 0,fun v u=>zb fvE W7.heap.size u v [],fun p q=>zc p q,fun _=>True⟩),(11,⟨fun v=>(∃a c,v= O a nF c)/\(nF=0->∃g,v= O (Xa ⟨g,0,Xb⟩) 0 0),fun v u=>zb fvE W7.heap.size u v xs,fun p q=>zc p q,fun _=>True⟩),(13,⟨fun v=>∃g,v= O (Xa ⟨g,0,Xb⟩) 1 1,fun v u=>zb fvE W7.heap.size u v [fx],fun p q=>zc p q,fun _=>True⟩),(14,⟨fun v=>∃a c,v= O a (nF+1) c,fun v u=>zb fvE W7.heap.size u v (xs++ [fx]),fun p q=>∀u m,m.length<=nF\/m.length<=1->zb fvE W7.heap.size p u m->zb fvE W7.heap.size q u m,fun _=>True⟩),(17,⟨fun v=>v= Xh UB,fun _ _=>True,fun p q=>zc p q,fun _=>True⟩),(22,⟨fun v=>∃x:Int,v=I6 x,fun _ _=>True,fun p q=>Out b (b+1) p q,fun _=>True⟩)] hI0 z6 Kr rfl rfl Dc ?hS ?hp ?hpre ?hpr0 ?_
     case hS=>
      intro x hx;simp only[mC,nM,or_false]at hx
      rcases hx with rfl|rfl|rfl|rfl|rfl|rfl
      ·exact⟨_,0,rfl⟩
      ·by_cases h0:nF=0
       ·exact⟨O (Xa ⟨0,0,Xb⟩) 0 0,⟨Xa ⟨0,0,Xb⟩,0,by rw[h0]⟩,fun _=>⟨0,rfl⟩⟩
       exact⟨O Xb nF 0,⟨_,_,rfl⟩,fun h=>absurd h h0⟩
      ·exact⟨_,0,rfl⟩
      ·exact⟨_,Xb,0,rfl⟩
      ·exact⟨_,rfl⟩
      exact⟨_,0,rfl⟩
     case hp=>
      intro k s j t hk hj hjk hanc v p q hst hpo;have hk':=zW hk;have hj':=zW hj;clear hk hj;simp only[mC,pJ,nM,or_false]at hk' hj';have keep:∀l:List FlV,l.length<=nF\/l.length<=1\/j≠14->zb fvE W7.heap.size p v l->zb fvE W7.heap.size q v l:=fun l hl ho=>by
       rcases hj' with⟨rfl,rfl⟩|⟨rfl,rfl⟩|⟨rfl,rfl⟩|⟨rfl,rfl⟩|⟨rfl,rfl⟩|⟨rfl,rfl⟩
       ·exact zb.grew ho hst
       ·exact zb.grew ho hst
       ·exact zb.grew ho hst
       ·exact hst v l Wm ho
       ·exact zb.grew ho hst
       exact ho.outb hst (fun g hg=>by have:=(ho.lt g hg).1;have:=HB7.out;omega)
      rcases hk' with⟨rfl,rfl⟩|⟨rfl,rfl⟩|⟨rfl,rfl⟩|⟨rfl,rfl⟩|⟨rfl,rfl⟩|⟨rfl,rfl⟩
      ·exact keep _ (.inl (nZ _)) hpo
      ·exact keep _ (.inl (by rw[HXL.out];exact nR _)) hpo
      ·exact keep _ (.inr (.inl (nR _))) hpo
      ·exact keep _ (.inr (.inr (fun e=>hjk e))) hpo
      ·trivial
      trivial
     case hpre=>
      intro j t k s hj hk hjk p q hst hpr;have hj':=zW hj;clear hk hj;simp only[mC,pJ,nM,or_false]at hj'
      rcases hj' with⟨rfl,rfl⟩|⟨rfl,rfl⟩|⟨rfl,rfl⟩|⟨rfl,rfl⟩|⟨rfl,rfl⟩|⟨rfl,rfl⟩ <;> trivial
     case hpr0=>
      intro k t hk;have hk':=zW hk;clear hk;simp only[mC,pJ,nM,or_false]at hk'
      rcases hk' with⟨rfl,rfl⟩|⟨rfl,rfl⟩|⟨rfl,rfl⟩|⟨rfl,rfl⟩|⟨rfl,rfl⟩|⟨rfl,rfl⟩ <;> trivial
     simp only[Xy,Xz];iterate 4 refine zN ?_
     refine zV rfl rfl (fun w' hI' hpr hF=>?_) (fun v1 hv=>?_)
     ·have hg:=((HI _).1 hI').1;exact zJ.step (v:= O (Xa ⟨w'.heap.size,0,Xb⟩) 0 0) (w':=w'.alloc (Xk #[] 65)) (by simp only[execOp];go_simp) ⟨HIG _ _ hI' (za _ _),za _ _,⟨_,rfl⟩,(zb.made fvE w').base hg.size⟩
     obtain⟨g0,rfl⟩:=hv;refine Uq ?_;refine zN ?_
     refine ZS (.tmp 90) ⟨b,0,Xb⟩ rfl rfl rfl rfl ?_;refine Uq ?_;iterate 4 refine zN ?_
     refine zV rfl rfl (fun w' hI' hpr hF=>?_) (fun v1 hv=>?_)
     ·have hg:=((HI _).1 hI').1;have h0:zb fvE W7.heap.size w' (O (Xa ⟨g0,0,Xb⟩) 0 0) []:=hF 4 Kr
      have hX:=HX.outb hg (fun g hg' e=>by
       obtain⟨cs,hc⟩:=HX.obj hg';have h3:W7.heap[b]? =_:=F7.mm.box;rw[e,h3]at hc
       cases hc)
      obtain⟨v',w2,hrun,ho,hg2,hz⟩:=Ze (E:=fvE) (w:=w') 35 h0 (sf.x) xs hX.at hg.size;obtain⟨a',c',rfl⟩:=ho.form;refine zJ.step (v:= O a' xs.length c') (w':=w2) ?_ ⟨HIG _ _ hI' hg2,hg2,⟨⟨a',c',by rw[HXL.out]⟩,fun h=>⟨g0,hz (eN (Rx HXL.out h))⟩⟩,ho⟩
      simp only[execOp,resolve,invoke,builtin,pure_bind,Xs,Xw,Yl,mP,Xx];exact Eq.trans (congrArg (fun r=>Result.andThen r (fun a w'=>Result.ok (Next.value a) w')) hrun) rfl
     obtain⟨⟨a3,c3,rfl⟩,hz3⟩:=hv;refine Uq ?_;refine zN ?_
     refine zV rfl rfl (fun w' hI' hpr hF=>?_) (fun v1 hv=>?_)
     ·have hg:=((HI _).1 hI').1;exact zJ.step (v:= O (Xa ⟨w'.heap.size,0,Xb⟩) 1 1) (w':=w'.alloc (Xk #[I6 sz,bs.x] 65)) (by simp only[execOp];go_simp) ⟨HIG _ _ hI' (za _ _),za _ _,⟨_,rfl⟩,by rw[HFX.out];exact(znd w' ⟨sz,bs.a,bs.n,bs.c⟩).base hg.size⟩
     obtain⟨g5,rfl⟩:=hv;refine Uq ?_;refine zV rfl rfl (fun w' hI' hpr hF=>?_) (fun v1 hv=>?_)
     ·have hg:=((HI _).1 hI').1;have o3:zb fvE W7.heap.size w' (O a3 nF c3) xs:=hF 11 Kr
      have o5:zb fvE W7.heap.size w' (O (Xa ⟨g5,0,Xb⟩) 1 1) [fx]:=hF 13 Kr
      have key:∃v' w2,(Builtin.append_ #[35,35] 35 #[O a3 nF c3,O (Xa ⟨g5,0,Xb⟩) 1 1]).run prog w'= .ok v' w2/\zb fvE W7.heap.size w2 v' (xs++ [fx])/\I w2/\∀u m,m.length<=nF\/m.length<=1->zb fvE W7.heap.size w' u m->zb fvE W7.heap.size w2 u m:=by
       by_cases h0:nF=0
       ·have hxs:xs=[]:=eN (Rx HXL.out h0)
        subst hxs;obtain⟨g,hgv⟩:=hz3 h0;rw[hgv]at o3⊢;obtain⟨v',w2,hrun,ho,hg2,_⟩:=Ze (E:=fvE) (w:=w') 35 o3 (O (Xa ⟨g5,0,Xb⟩) 1 1) [fx] o5.at hg.size;exact⟨v',w2,hrun,ho,HIG _ _ hI' hg2,fun u m _ h=>h.grew hg2⟩
       obtain⟨v',w2,hrun,ho,hgr,hk⟩:=qx (E:=fvE) (w:=w') 35 o3 (O (Xa ⟨g5,0,Xb⟩) 1 1) [fx] o5.at (by rw[HXL.out];show(nF+1)*32<=_;omega) hg.size
       refine⟨v',w2,hrun,ho,?_,fun u m hm h=>hk u m (by rw[HXL.out];omega) h⟩
       obtain⟨h1,vl',L',h2,h3⟩:=(HI _).1 hI';obtain⟨gr,cr,hgr3⟩:=o3.formS (by rw[HXL.out];omega)
       obtain⟨cs,hcs⟩:=o3.obj (g:=gr) (by rw[hgr3];rfl)
       have hgr':w'.grownBy w2 (Xa gr):=by rw[hgr3]at hgr;exact hgr
       have hgl:=(o3.lt gr (by rw[hgr3];rfl)).1
       have hpl:=F7.box.box.lt;refine(HI _).2 ⟨⟨hgr'.os.trans h1.os,hgr'.tape.trans h1.tape,hgr'.output.trans h1.output,nT h1.size hgr'.size,fun k hk' hb'=>(hgr'.block k (Yg hk' h1.size) (fun e=>by cases e;omega)).trans (h1.block k hk' hb')⟩,vl',L',h2.fresh hgr' hcs Wm,h3⟩
      obtain⟨v',w2,hrun,ho,hI2,hk⟩:=key;obtain⟨a',c',rfl⟩:=ho.form;refine zJ.step (v:= .slice a' (xs++ [fx]).length c') (w':=w2) ?_ ⟨hI2,hk,⟨a',c',by rw[lA,HXL.out];rfl⟩,ho⟩
      simp only[execOp,resolve,invoke,builtin,pure_bind,Xs,Xw,Yl,mP,Xx];exact Eq.trans (congrArg (fun r=>Result.andThen r (fun a w'=>Result.ok (Next.value a) w')) hrun) rfl
     obtain⟨a6,c6,rfl⟩:=hv;refine Uq ?_;iterate 2 refine zN ?_
     refine zV rfl rfl (fun w' hI' hpr hF=>?_) (fun v1 hv=>?_)
     ·obtain⟨h1,vl',L',h2,h3⟩:=(HI _).1 hI';have o6:zb fvE W7.heap.size w' (O a6 (nF+1) c6) (xs++ [fx]):=hF 14 Kr
      have hfa:qg w' (O a6 (nF+1) c6) (fl++ [⟨sz,bl⟩]):=by
       refine⟨o6.cap,xs++ [fx],o6.at.s0,by rw[lA,lA,HXL.out,HNF.out];rfl,fun i x f hx hf=>?_⟩
       rcases Nat.lt_or_ge i nF with hi' | hi'
       ·rw[Ym (by rw[HXL.out];exact hi')]at hx
        rw[Ym (by rw[HNF.out];exact hi')]at hf
        obtain⟨a1,a2⟩:=HX3.out i x f hx hf;exact⟨a1,(a2.outb h1 (fun g hg' e=>by
         obtain⟨cs,hc⟩:=a2.obj hg';have h3:W7.heap[b]? =_:=F7.mm.box;rw[e,h3]at hc
         cases hc)).at.s0⟩
       rw[aR (by rw[HXL.out];exact hi'),HXL.out]at hx
       rw[aR (by rw[HNF.out];exact hi'),HNF.out]at hf
       have hi0:i - nF=0:=by
        have:=(gS.1 hx).1
        simp at this
        omega
       rw[hi0]at hx hf;cases hx;cases hf;rw[HFX.out];exact⟨rfl,h2.row.at.s0⟩
      refine zJ.call [Xi #[O a6 (nF+1) c6,I6 0],I6 (n:Int)] rfl func17 rfl rfl rfl ?_;refine(ziu (O a6 (nF+1) c6) (fl++ [⟨sz,bl⟩]) 0 (n:Int) w' hfa).mono ?_;rintro e w'' ⟨rfl,hg2⟩;exact⟨_,rfl,HIG _ _ hI' hg2,hg2,by rw[HUB.out],trivial⟩
     subst hv;refine Uq ?_;iterate 3 refine zN ?_
     cases UB with
     | true=>
      refine zcX ?_;refine zcX ?_;refine zcX ?_;refine zN ?_
      refine j2 fun W8 hI8 hF8=>?_
      obtain⟨h1,vl8,L8,h2,h3⟩:=(HI _).1 hI8;have F8:=dD h2;have LL8:=dD h3;have X8:=dD<|X7.outb h1 HXB.out;clear hI8 hF8 hI0 hx8 hp0 hp1 hne h1 h2 h3 hz3;go_wp2
      go_meet
      exact⟨Xd,vl8,L8,rfl,rfl,F8,LL8,X8,fun h=>(by cases h)⟩
     | false=>
      refine zN ?_
      refine zV rfl rfl (fun w' hI' hpr hF=>?_) (fun v1 hv=>?_)
      ·obtain⟨h1,vl',L',h2,h3⟩:=(HI _).1 hI';refine zJ.call [Xj (Xa ⟨b,0,Xb⟩),I6 3] rfl func15 rfl rfl rfl ?_;refine(qB 3 h2.mm).mono ?_;rintro e w'' ⟨vl2,L2,y,rfl,mk2,gr2,-,-,-,-,ll2⟩;have ho2:Out b (b+1) w' w'':=Out.grown gr2 (fun g e=>by cases e;omega)
       exact⟨_,rfl,(HI _).2 ⟨h1.trans ho2,vl2,L2,h2.pick gr2 mk2,h3.trans ll2⟩,ho2,⟨y,rfl⟩,trivial⟩
      obtain⟨x,rfl⟩:=hv;refine Uq ?_;iterate 2 refine zN ?_
      refine j2 fun W8 hI8 hF8=>?_
      obtain⟨h1,vl8,L8,h2,h3⟩:=(HI _).1 hI8;have F8:=dD h2;have LL8:=dD h3;have X8:=dD<|X7.outb h1 HXB.out;have HUF:Xo (decide (0<x)=Xc->n<nb/\zR (fl++ [⟨sz,bl⟩]) (n:Int)=Xd):=show _->_ from fun _=>⟨hn,HUB⟩
      clear hI8 hF8 hI0 hx8 hp0 hp1 hne h1 h2 h3 hz3;go_wp2
      go_meet
      exact⟨decide (0<x),vl8,L8,rfl,rfl,F8,LL8,X8,HUF⟩
    have hnz:=kD hn
    have hnd:decide ((n:Int)< (nb:Int))=Xd:=Si hnz
    clear hn;go_quiet (fail);go_wp2
    go_meet
    exact⟨Xd,vl7,L7,rfl,rfl,F7.grew (show Below _ _ _ from bD (bR _ _) _),LL7,X7.grew (show Below _ _ _ from bD (bR _ _) _),fun h=>(by cases h)⟩
   obtain⟨tk,vl8,L8,rfl,rfl,F8,LL8,X8,HTK⟩:=hcut
   go_upto_if 109 with fail
   go_cut [13,15,16,78]from 78 to 160 (fun s13 s15 s16 s78 wx=>∃(bx:Int) (vl':Sli) (L':List Int) (sd':Sli) (db':List (List Int)) (dq':List (Int × List Int)),s13=I6 bx/\s78=I6 k3/\Xo (FC w hi b wx vl' L' ⟨⟨Xa ⟨gf,0,Xb⟩,nf,nf⟩,⟨Xa ⟨gl,0,Xb⟩,ns,ns⟩,⟨Xa ⟨gsb,0,Xb⟩,ns,ns⟩,zG,⟨Xa ⟨gdb,0,Xb⟩,nb,nb⟩,sd',sf,zG,zG⟩ ⟨Xr nf frF,0,Xr ns 0,Xr ns zp,[],db',dq',fl,nb,[],[]⟩ pf sz bs bl)/\Xo (QT L L')/\Xo (zo wx w.heap.size 41 qf)/\Xo (zfu fl nb db' dq' (bl++ [bx])/\db'.length=nb))
   case first=>
    cases tk with
    | false=>
     go_wp2
     go_meet
     exact⟨-1,vl8,L8,sd6,db6,dq6,rfl,rfl,F8,LL8,X8,(show _/\_ from⟨FI.1.none,FI.2.2⟩)⟩
    | true=>
     obtain⟨hn,hu⟩:=HTK.out rfl;have HUF:Xo (zR fl (n:Int)=Xd/\(n:Int)∉bl):=dD<|by
      have h2:¬(n:Int)∈Z4 (fl++ [⟨sz,bl⟩]):=fun h=>by rw[(Qk _ _).2 h]at hu;cases hu
      have h3:Z4 (fl++ [⟨sz,bl⟩])=Z4 fl++bl:=by simp[Z4]
      rw[h3,Yf]at h2;refine⟨?_,fun h=>h2 (.inr h)⟩
      cases e:zR fl (n:Int)with
      | false=>rfl
      | true=>exact absurd (.inl ((Qk _ _).1 e)) h2
     have hnz:=kC hn
     clear hu;have hpg:=zch F8.mm;go_wp2_with fail;refine hpg.mono ?_;clear hpg;rintro e W9 ⟨vl9,L9,q9,rfl,ql9,mk9,gr9,ll9⟩;have F9:=dD<|F8.pick gr9 mk9;have X9:Xo (zo W9 w.heap.size 41 qf):=X8.kind gr9 F8.mm.box Dc
     have LL9:=dD (LL8.trans ll9);clear mk9 gr9 ll9;obtain⟨o0,o1,o2,o3,o4,o5,o6,o7,rfl⟩:=zdB q9 ql9;clear ql9;simp only[pgc,mP,Xx];go_upto_region 20 with fail;obtain⟨pp,HPP⟩:=kA W9.heap.size;obtain⟨W10,hW10⟩:=kB (W9.alloc (Xk #[U8 o0,U8 o1,U8 o2,U8 o3,U8 o4,U8 o5,U8 o6,U8 o7] 60));have g10:=gP hW10
     have P10:Xo (zo W10 pp 60 (pgc [o0,o1,o2,o3,o4,o5,o6,o7])):=dD<|by rw[<-hW10];exact zo.top _ (pgc [o0,o1,o2,o3,o4,o5,o6,o7]) _ HPP.symm
     have F10:=dD (F9.grew g10);have X10:=dD (X9.grew g10);have HHP:Xo (hi<=pp):=show _<=_ by rw[<-HPP.out];exact F9.mm.rows.hw
     rw[hW10,HPP.out];clear hW10 g10;go_wp2
     go_loopg [113] 8 (fun gg s113 wr=>∃(i:Nat) (qq:List Int),i<=8/\8 - i<=gg/\s113=I6 i/\Xo (FC w hi b wr vl9 L9 ⟨⟨Xa ⟨gf,0,Xb⟩,nf,nf⟩,⟨Xa ⟨gl,0,Xb⟩,ns,ns⟩,⟨Xa ⟨gsb,0,Xb⟩,ns,ns⟩,zG,⟨Xa ⟨gdb,0,Xb⟩,nb,nb⟩,sd6,sf,zG,zG⟩ ⟨Xr nf frF,0,Xr ns 0,Xr ns zp,[],db6,dq6,fl,nb,[],[]⟩ pf sz bs bl)/\Xo (zo wr pp 60 (pgc qq))/\Xo (qq.length=8)/\Xo (zo wr w.heap.size 41 qf))
     exact⟨0,[o0,o1,o2,o3,o4,o5,o6,o7],nZ _,Wm,rfl,F10,P10,rfl,X10⟩
     obtain⟨i,qq,hi8,hg4,rfl,FW,PW,QW,XW⟩:=hrel
     by_cases hlt4:i<8
     ·have hltz4:(i:Int)<8:=Wm
      obtain⟨z,hz⟩:∃z,qq[i]? =Xa z:=⟨_,gE (by rw[QW.out];exact hlt4)⟩
      have z0:=PW.box.c i (zd5 hz);have zf:=PW.box.f;have y0:=FW.box.box.c 0 rfl;clear hz
      by_cases hc:sz<=8*(k3:Int)+(i:Int)
      ·have hcd:decide (sz<=8*(k3:Int)+(i:Int))=Xc:=Si hc
       have HG:=dD<|ji wr pp i (U8 0);have P11:Xo (zo (wr.setCell ⟨pp,i,Xb⟩ (U8 0)) pp 60 (pgc (qq.set i 0))):=show zo _ _ _ _ by rw[zcL];exact PW.set i _
       have F11:Xo (FC w hi b (wr.setCell ⟨pp,i,Xb⟩ (U8 0)) vl9 L9 ⟨⟨Xa ⟨gf,0,Xb⟩,nf,nf⟩,⟨Xa ⟨gl,0,Xb⟩,ns,ns⟩,⟨Xa ⟨gsb,0,Xb⟩,ns,ns⟩,zG,⟨Xa ⟨gdb,0,Xb⟩,nb,nb⟩,sd6,sf,zG,zG⟩ ⟨Xr nf frF,0,Xr ns 0,Xr ns zp,[],db6,dq6,fl,nb,[],[]⟩ pf sz bs bl):=FW.kind HG PW Dc Dc (FW.mm.page PW HHP HG) rfl rfl
       have X11:Xo (zo (wr.setCell ⟨pp,i,Xb⟩ (U8 0)) w.heap.size 41 qf):=XW.kind HG PW Dc
       go_wp2
       go_roundg (8 -(i+1));exact⟨i+1,qq.set i 0,Wm,Wm,Gn,F11,P11,(show(qq.set i 0).length=8 by rw[Yq];exact QW),X11⟩;omega
      have hcd:decide (sz<=8*(k3:Int)+(i:Int))=Xd:=Si hc
      go_wp2
      go_roundg (8 -(i+1));exact⟨i+1,qq,Wm,Wm,Gn,FW,PW,QW,XW⟩;omega
     have hltz4:¬(i:Int)<8:=Wm
     obtain⟨p0,p1,p2,p3,p4,p5,p6,p7,rfl⟩:=zdB qq QW.out;go_upto_region 26 with fail;obtain⟨I,HI⟩:=Wq fun u=>zc wr u
     have hI0:=(HI _).2 (gW _)
     have HP:=dD<|fun u (hu:I u)=>PW.grew ((HI _).1 hu)
     have hx6:∀y:zj I,y.world.cell? ⟨b,6,Xb⟩=Xa (O (Xa ⟨gdb,0,Xb⟩) nb nb):=fun y=>(FW.mm.box.box.grew ((HI _).1 y.holds)).c 6 rfl
     have hf0:∀y:zj I,y.world.cell? ⟨pp,0,Xb⟩=Xa (U8 p0):=fun y=>(HP _ y.holds).box.c 0 rfl
     have hf1:∀y:zj I,y.world.cell? ⟨pp,1,Xb⟩=Xa (U8 p1):=fun y=>(HP _ y.holds).box.c 1 rfl
     have hf2:∀y:zj I,y.world.cell? ⟨pp,2,Xb⟩=Xa (U8 p2):=fun y=>(HP _ y.holds).box.c 2 rfl
     have hf3:∀y:zj I,y.world.cell? ⟨pp,3,Xb⟩=Xa (U8 p3):=fun y=>(HP _ y.holds).box.c 3 rfl
     have hf4:∀y:zj I,y.world.cell? ⟨pp,4,Xb⟩=Xa (U8 p4):=fun y=>(HP _ y.holds).box.c 4 rfl
     have hf5:∀y:zj I,y.world.cell? ⟨pp,5,Xb⟩=Xa (U8 p5):=fun y=>(HP _ y.holds).box.c 5 rfl
     have hf6:∀y:zj I,y.world.cell? ⟨pp,6,Xb⟩=Xa (U8 p6):=fun y=>(HP _ y.holds).box.c 6 rfl
     have hf7:∀y:zj I,y.world.cell? ⟨pp,7,Xb⟩=Xa (U8 p7):=fun y=>(HP _ y.holds).box.c 7 rfl
     have hne:Nonempty (zj I):=⟨⟨_,hI0⟩⟩;refine qX (I:=I) 9 [] hI0 z6 Kr rfl rfl Dc (fun x hx=>by cases hx) (fun k s j t hk=>by cases hk) (fun j t k s hj=>by cases hj) (fun k t hk=>by cases hk) ?_
     simp only[Xy,Xz];refine zN ?_
     refine ZS (.tmp 126) ⟨b,0,Xb⟩ rfl rfl rfl rfl ?_;refine Uq ?_;iterate 7 refine zN ?_
     refine j2 fun W11 hI11 _=>?_
     have g11:=(HI _).1 hI11;refine jH rfl (.tmp 134) (.tmp 133) rfl w.heap.size (O (Xa ⟨gdb,0,Xb⟩) nb nb) db6 (FW.grew g11).mm.rows.db gdb n rfl (Rx FI.2.2 hn) [p0,p1,p2,p3,p4,p5,p6,p7] rfl _ rfl (by first | rfl | simp) rfl ?_
     intro W12 op12 gr12 sz12;obtain⟨-,cs12,hc12⟩:=Qo (FW.grew g11).mm.rows.db (g:=gdb) rfl;have F12:Xo (FC w hi b W12 vl9 L9 ⟨⟨Xa ⟨gf,0,Xb⟩,nf,nf⟩,⟨Xa ⟨gl,0,Xb⟩,ns,ns⟩,⟨Xa ⟨gsb,0,Xb⟩,ns,ns⟩,zG,⟨Xa ⟨gdb,0,Xb⟩,nb,nb⟩,sd6,sf,zG,zG⟩ ⟨Xr nf frF,0,Xr ns 0,Xr ns zp,[],(db6.set n [p0,p1,p2,p3,p4,p5,p6,p7]),dq6,fl,nb,[],[]⟩ pf sz bs bl):=(FW.grew g11).kind gr12 hc12 Dc Dc ((FW.grew g11).mm.setDb rfl gr12 sz12 (zcF nf) op12).1 rfl rfl
     have X12:=dD ((XW.grew g11).kind gr12 hc12 Dc)
     have P12:Xo (zo W12 pp 60 (pgc [p0,p1,p2,p3,p4,p5,p6,p7])):=(PW.grew g11).beside gr12 (fun g e=>by cases e;have:=(FW.mm.rows.dbh gdb rfl);have:=HHP.out;omega)
     clear hI11 g11 op12 gr12 sz12 cs12 hc12 hI0 hx6 hne;clear hf0 hf1 hf2 hf3 hf4 hf5 hf6 hf7;have hpk12:=qB 2 F12.mm;go_wp2_with fail;refine hpk12.mono ?_;clear hpk12;rintro e W13 ⟨vl13,L13,y,rfl,mk13,gr13,-,-,-,-,ll13⟩;have F13:=dD<|F12.pick gr13 mk13;have X13:Xo (zo W13 w.heap.size 41 qf):=X12.kind gr13 F12.mm.box Dc
     have P13:Xo (zo W13 pp 60 (pgc [p0,p1,p2,p3,p4,p5,p6,p7])):=P12.kind gr13 F12.mm.box Dc
     have LL13:=dD (LL9.trans ll13);clear mk13 gr13 ll13;have HDL:Xo ((db6.set n [p0,p1,p2,p3,p4,p5,p6,p7]).length=nb):=show _=_ by rw[Yq];exact FI.2.2
     by_cases hy:y=1
     ·have hye:(y == 1)=Xc:=by simp[hy]
      clear hy;go_upto_region 28 with fail;have HDQ:=dD F13.mm.rows.dq;have HQL:Xo (dq6.length<=1000):=show _<=_ by
       have h1:=FI.1.ql;have h2:=zfs ((qi _ _).1 FI.1.st).2.1;have h3:=((qi _ _).1 FI.1.st).1.1;have h4:=FI.2.1;omega
      obtain⟨I,HI⟩:=Wq fun u=>zo u b 58 [vl13.x,O (Xa ⟨gf,0,Xb⟩) nf nf,I6 0,O (Xa ⟨gl,0,Xb⟩) ns ns,O (Xa ⟨gsb,0,Xb⟩) ns ns,eS,O (Xa ⟨gdb,0,Xb⟩) nb nb,sd6.x,sf.x,I6 (nb:Int),eS,eS,eS]/\zo u pp 60 (pgc [p0,p1,p2,p3,p4,p5,p6,p7])
      have hI0:I W13.drew:=(HI _).2 ⟨F13.mm.box.grew (gW _),P13.grew (gW _)⟩
      have HP:=dD<|fun u (hu:I u)=>((HI _).1 hu).2
      have hx7:∀y:zj I,y.world.cell? ⟨b,7,Xb⟩=Xa (sd6.x):=fun y=>((HI _).1 y.holds).1.box.c 7 rfl
      have hf0:∀y:zj I,y.world.cell? ⟨pp,0,Xb⟩=Xa (U8 p0):=fun y=>(HP _ y.holds).box.c 0 rfl
      have hf1:∀y:zj I,y.world.cell? ⟨pp,1,Xb⟩=Xa (U8 p1):=fun y=>(HP _ y.holds).box.c 1 rfl
      have hf2:∀y:zj I,y.world.cell? ⟨pp,2,Xb⟩=Xa (U8 p2):=fun y=>(HP _ y.holds).box.c 2 rfl
      have hf3:∀y:zj I,y.world.cell? ⟨pp,3,Xb⟩=Xa (U8 p3):=fun y=>(HP _ y.holds).box.c 3 rfl
      have hf4:∀y:zj I,y.world.cell? ⟨pp,4,Xb⟩=Xa (U8 p4):=fun y=>(HP _ y.holds).box.c 4 rfl
      have hf5:∀y:zj I,y.world.cell? ⟨pp,5,Xb⟩=Xa (U8 p5):=fun y=>(HP _ y.holds).box.c 5 rfl
      have hf6:∀y:zj I,y.world.cell? ⟨pp,6,Xb⟩=Xa (U8 p6):=fun y=>(HP _ y.holds).box.c 6 rfl
      have hf7:∀y:zj I,y.world.cell? ⟨pp,7,Xb⟩=Xa (U8 p7):=fun y=>(HP _ y.holds).box.c 7 rfl
      have hne:Nonempty (zj I):=⟨⟨_,hI0⟩⟩;refine zQ (I:=I) 16 [(10,fun v=>∃g,v= O (Xa ⟨g,0,Xb⟩) 1 1),(11,fun v=>∃a n c,v= O a n c)] (fun u=>zc W13 u) hI0 (gW _) z6 Kr rfl rfl Dc (Sb ⟨_,0,rfl⟩ ⟨_,Xb,0,0,rfl⟩) Kr ?_
      simp only[Xy,Xz];iterate 2 refine zz ?_
      refine z4 (.tmp 139) ⟨b,0,Xb⟩ rfl rfl rfl rfl ?_;refine Uq ?_;iterate 7 refine zz ?_
      refine zI rfl rfl (fun v u=>zc W13 u/\∃g,v= O (Xa ⟨g,0,Xb⟩) 1 1/\jP u ⟨g,0,Xb⟩ (ptc ((n:Int),[p0,p1,p2,p3,p4,p5,p6,p7]))) (fun w' hI' hF'=>?_) (fun v1 hv=>?_)
      ·exact zJ.step (v:= O (Xa ⟨w'.heap.size,0,Xb⟩) 1 1) (w':=w'.alloc (Xk #[I6 (n:Int),U8 p0,U8 p1,U8 p2,U8 p3,U8 p4,U8 p5,U8 p6,U8 p7] 69)) (by simp only[execOp];go_simp) ⟨(HI _).2 ⟨((HI _).1 hI').1.grew (za _ _),((HI _).1 hI').2.grew (za _ _)⟩,⟨_,rfl⟩,hF'.trans (za _ _),_,rfl,jP.top w' (ptc ((n:Int),[p0,p1,p2,p3,p4,p5,p6,p7])) _ rfl⟩
      obtain⟨g5,rfl⟩:=hv;refine Uq ?_;refine zI rfl rfl (fun v u=>∃u0,zc W13 u0/\u0.grownBy u (sd6.x).ownBlock/\zt w.heap.size u v (dq6++ [((n:Int),[p0,p1,p2,p3,p4,p5,p6,p7])])) (fun w' hI' hF'=>?_) (fun v1 hv=>?_)
      ·obtain⟨hg',g,hge,hcl⟩:=hF';have hge':g5=g:=by
        simp only[vJ,Option.some.injEq,Addr.mk.injEq]at hge;exact hge.1.1
       subst hge';obtain⟨v',w2,hrun,ho,hgr⟩:=zdK (w:=w') 32 (HDQ.grew hg') g5 ((n:Int),[p0,p1,p2,p3,p4,p5,p6,p7]) rfl hcl HQL (nT (bS F13.mm.gr) (bS hg'));obtain⟨a',n',c',rfl⟩:=ho.slice;have hbx:I w2:=by
        cases hob:(sd6.x).ownBlock with
        | none=>
         rw[hob]at hgr;exact(HI _).2 ⟨((HI _).1 hI').1.grew (qz hgr),((HI _).1 hI').2.grew (qz hgr)⟩
        | some gq=>
         rw[hob]at hgr;obtain⟨-,cs,hc⟩:=zaw (HDQ.grew hg') hob;exact(HI _).2 ⟨((HI _).1 hI').1.kind hgr hc Dc,((HI _).1 hI').2.kind hgr hc Dc⟩
       refine zJ.step (v:= O a' n' c') (w':=w2) ?_ ⟨hbx,⟨a',n',c',rfl⟩,w',hg',hgr,ho⟩;simp only[execOp,resolve,invoke,builtin,pure_bind,Xs,Xw,Yl,mP,Xx];exact Eq.trans (congrArg (fun r=>Result.andThen r (fun a w'=>Result.ok (Next.value a) w')) hrun) rfl
      obtain⟨da,dn,dc,rfl⟩:=hv;refine Uq ?_;refine z4 (.tmp 138) ⟨b,0,Xb⟩ rfl rfl rfl rfl ?_;refine Uq ?_;iterate 3 refine zz ?_
      refine qJ fun W14 hI14 hF14=>?_
      obtain⟨u0,g0,gr14,op14⟩:=hF14;have B14:=dD<|((HI _).1 hI14).1;have R14:=dD<|(F13.mm.rows.grew g0).addDq gr14 ⟨da,dn,dc⟩ (zcF nf) op14;have hk14:zc w W14/\FlB w.heap.size hi pf W14 ⟨⟨Xa ⟨gf,0,Xb⟩,nf,nf⟩,⟨Xa ⟨gl,0,Xb⟩,ns,ns⟩,⟨Xa ⟨gsb,0,Xb⟩,ns,ns⟩,zG,⟨Xa ⟨gdb,0,Xb⟩,nb,nb⟩,sd6,sf,zG,zG⟩ ⟨Xr nf frF,0,Xr ns 0,Xr ns zp,[],db6.set n [p0,p1,p2,p3,p4,p5,p6,p7],dq6,fl,nb,[],[]⟩/\zo W14 pf 65 [I6 sz,bs.x]/\zb blE (pf+1) W14 (bs.x) bl/\zo W14 w.heap.size 41 qf:=by
       cases hob:(sd6.x).ownBlock with
       | none=>
        rw[hob]at gr14;have k:=qz gr14;exact⟨(F13.mm.gr.trans g0).trans k,(F13.fb.grew g0).grew k,(F13.box.grew g0).grew k,(F13.row.grew g0).grew k,(X13.grew g0).grew k⟩
       | some gq=>
        rw[hob]at gr14;obtain⟨hgq,cs,hc⟩:=zaw (HDQ.grew g0) hob;exact⟨zd (F13.mm.gr.trans g0) gr14 hgq,(F13.fb.grew g0).kind gr14 hc (.inl Dc) (.inl Dc),(F13.box.grew g0).kind gr14 hc Dc,(F13.row.grew g0).kind gr14 hc Dc,(X13.grew g0).kind gr14 hc Dc⟩
      obtain⟨e1,e2,e3,e4,e5⟩:=hk14;have GW14:=dD e1;have FB14:=dD e2;have PF14:=dD e3;have RW14:=dD e4;have X14:=dD e5;clear e1 e2 e3 e4 e5 u0 g0 gr14 op14 hI14 hI0 hx7 hne;clear hf0 hf1 hf2 hf3 hf4 hf5 hf6 hf7;obtain⟨W15,hW15⟩:=kB (W14.setCell ⟨b,7,Xb⟩ (O da dn dc));have hg15:W14.grownBy W15 (Xa b):=by rw[<-hW15];exact ji _ _ _ _
      have M15:Mk w hi W15 b vl13 L13 ⟨⟨Xa ⟨gf,0,Xb⟩,nf,nf⟩,⟨Xa ⟨gl,0,Xb⟩,ns,ns⟩,⟨Xa ⟨gsb,0,Xb⟩,ns,ns⟩,zG,⟨Xa ⟨gdb,0,Xb⟩,nb,nb⟩,⟨da,dn,dc⟩,sf,zG,zG⟩ ⟨Xr nf frF,0,Xr ns 0,Xr ns zp,[],db6.set n [p0,p1,p2,p3,p4,p5,p6,p7],dq6++ [((n:Int),[p0,p1,p2,p3,p4,p5,p6,p7])],fl,nb,[],[]⟩ zG []:=⟨zd GW14 hg15 F13.mm.hb,F13.mm.hb,by rw[<-hW15];exact B14.set 7 _,F13.mm.lr,F13.mm.lc,F13.mm.lb,R14.var hg15 B14 hg15.size (.inl rfl)⟩
      have F15:Xo (FC w hi b W15 vl13 L13 ⟨⟨Xa ⟨gf,0,Xb⟩,nf,nf⟩,⟨Xa ⟨gl,0,Xb⟩,ns,ns⟩,⟨Xa ⟨gsb,0,Xb⟩,ns,ns⟩,zG,⟨Xa ⟨gdb,0,Xb⟩,nb,nb⟩,⟨da,dn,dc⟩,sf,zG,zG⟩ ⟨Xr nf frF,0,Xr ns 0,Xr ns zp,[],(db6.set n [p0,p1,p2,p3,p4,p5,p6,p7]),(dq6++ [((n:Int),[p0,p1,p2,p3,p4,p5,p6,p7])]),fl,nb,[],[]⟩ pf sz bs bl):=dD<|⟨M15,F13.hp,(FB14.kind hg15 B14 (.inl Dc) (.inl Dc)).as rfl rfl,F13.fn,PF14.kind hg15 B14 Dc,RW14.kind hg15 B14 Dc⟩
      have X15:Xo (zo W15 w.heap.size 41 qf):=X14.kind hg15 B14 Dc
      have HW15:=dD hW15;have x7:=B14.box.c 7 rfl;have xf:=B14.box.f;clear hW15 hg15;go_wp2;rw[HW15.out]
      go_meet
      exact⟨(n:Int),vl13,L13,⟨da,dn,dc⟩,_,_,rfl,rfl,F15,LL13,X15,(show _/\_ from⟨FI.1.block (more:=true) (Rx FI.2.2 hn) HUF.1 HUF.2,HDL⟩)⟩
     have hye:(y == 1)=Xd:=by simp[hy]
     clear hy;go_wp2
     go_meet
     exact⟨(n:Int),vl13,L13,sd6,_,_,rfl,rfl,F13,LL13,X13,(show _/\_ from⟨FI.1.block (more:=false) (Rx FI.2.2 hn) HUF.1 HUF.2,HDL⟩)⟩
   obtain⟨bx,vl9,L9,sd9,db9,dq9,rfl,rfl,F9,LL9,X9,FI9⟩:=hcut;have y1:=F9.box.box.c 1 rfl;have HBL:=dD FI.2.1
   have HSW:=dD F9.box.box.lt
   go_wp2_with (at_builtin;refine zn (E:=blE) rfl (.tmp 155) (.tmp 157) rfl (pf+1) _ bl rfl (F9.row.grew (za _ _)) _ [bx] rfl (qN blE wc bx _ _ rfl Dc) ?qb ?qc ?_)
   case qb=>
    rw[HBL.out]
    show(k3+1)*8<=_
    omega
   case qc=>exact nT HSW (bS (za _ _))
   intro v4 W14 ow4 gr4;obtain⟨a4,c4,rfl⟩:=ow4.form;obtain⟨N4,hN4⟩:=kB ((bl++ [bx]).length);rw[hN4]at ow4⊢;clear hN4;obtain⟨WX,hWX⟩:=kB (wc.alloc (Xk #[I6 bx] 3));have gX:=gP hWX
   have gr4':WX.grownBy W14 (bs.x).ownBlock:=Ry hWX gr4
   clear gr4 hWX;obtain⟨b14,k14,f14⟩:=(F9.grew gX).addB gr4' ⟨a4,N4,c4⟩ ow4;have F14:=dD f14;have X14:Xo (zo (W14.setCell ⟨pf,1,Xb⟩ (O a4 N4 c4)) w.heap.size 41 qf):=k14 _ _ _ Dc Dc (X9.grew gX)
   have B14:=dD b14;clear b14 k14 f14 gr4' ow4 gX y1;have y1:=B14.box.c 1 rfl;have yf:=B14.box.f;go_wp2
   go_roundg (N3 -(k3+1));exact⟨k3+1,vl9,L9,sd9,⟨a4,N4,c4⟩,db9,dq9,bl++ [bx],Wm,Wm,Gn,F14,LL9,X14,(show _/\_ from⟨FI9.1,by rw[lA,HBL.out];rfl,FI9.2⟩)⟩;omega
  have hltz3:=kD hlt3
  obtain rfl:k3=N3:=Wm
  go_upto_region 31 with fail;obtain⟨xs,q1,q2,q3⟩:=FX.fb;have HX:=dD q1;have HXL:=dD q2
  have HX3:=dD<|fun (i:Nat) x f (hx:xs[i]? =Xa x) (hf:fl[i]? =Xa f)=>(q3 i x f hx hf).1
  clear q1 q2 q3;obtain⟨fx,HFX⟩:∃fx:FlV,Xo (fx=⟨sz,bs.a,bs.n,bs.c⟩):=⟨_,rfl⟩;obtain⟨I,HI⟩:=Wq fun u=>zo u b 58 [vl6.x,O (Xa ⟨gf,0,Xb⟩) nf nf,I6 0,O (Xa ⟨gl,0,Xb⟩) ns ns,O (Xa ⟨gsb,0,Xb⟩) ns ns,eS,O (Xa ⟨gdb,0,Xb⟩) nb nb,sd6.x,sf.x,I6 (nb:Int),eS,eS,eS]/\zo u pf 65 [I6 sz,bs.x]
  have hI0:I wr.drew:=(HI _).2 ⟨FX.mm.box.grew (gW _),FX.box.grew (gW _)⟩
  have hx8:∀y:zj I,y.world.cell? ⟨b,8,Xb⟩=Xa (sf.x):=fun y=>((HI _).1 y.holds).1.box.c 8 rfl
  have hp0:∀y:zj I,y.world.cell? ⟨pf,0,Xb⟩=Xa (I6 sz):=fun y=>((HI _).1 y.holds).2.box.c 0 rfl
  have hp1:∀y:zj I,y.world.cell? ⟨pf,1,Xb⟩=Xa (bs.x):=fun y=>((HI _).1 y.holds).2.box.c 1 rfl
  have hne:Nonempty (zj I):=⟨⟨_,hI0⟩⟩;refine zQ (I:=I) 14 [(8,fun v=>∃g,v= O (Xa ⟨g,0,Xb⟩) 1 1),(9,fun v=>∃a n c,v= O a n c)] (fun u=>zc wr u) hI0 (gW _) z6 Kr rfl rfl Dc (Sb ⟨_,0,rfl⟩ ⟨_,Xb,0,0,rfl⟩) Kr ?_
  simp only[Xy,Xz];iterate 2 refine zz ?_
  refine z4 (.tmp 162) ⟨b,0,Xb⟩ rfl rfl rfl rfl ?_;refine Uq ?_;iterate 5 refine zz ?_
  refine zI rfl rfl (fun v u=>zc wr u/\zl fvE u v [fx]) (fun w' hI' hF'=>?_) (fun v1 hv=>?_)
  ·exact zJ.step (v:= O (Xa ⟨w'.heap.size,0,Xb⟩) 1 1) (w':=w'.alloc (Xk #[I6 sz,bs.x] 65)) (by simp only[execOp];go_simp) ⟨(HI _).2 ⟨((HI _).1 hI').1.grew (za _ _),((HI _).1 hI').2.grew (za _ _)⟩,⟨_,rfl⟩,hF'.trans (za _ _),qN fvE w' fx _ _ (Rr HFX.out) Dc⟩
  obtain⟨g5,rfl⟩:=hv;refine Uq ?_;refine zI rfl rfl (fun v u=>∃u0,zc wr u0/\u0.grownBy u (sf.x).ownBlock/\zb fvE w.heap.size u v (xs++ [fx])) (fun w' hI' hF'=>?_) (fun v1 hv=>?_)
  ·obtain⟨hg',hrw⟩:=hF';obtain⟨v',w2,hrun,ho,hgr,-⟩:=qx (E:=fvE) (w:=w') 35 (HX.grew hg') (O (Xa ⟨g5,0,Xb⟩) 1 1) [fx] hrw (by have:=HXL.out;have:=HFL.out;rw[HXL.out];show(fl.length+1)*32<=_;omega) (nT (bS FX.mm.gr) (bS hg'))
   obtain⟨a',c',rfl⟩:=ho.form;have hbx:I w2:=by
    cases hob:(sf.x).ownBlock with
    | none=>
     rw[hob]at hgr;exact(HI _).2 ⟨((HI _).1 hI').1.grew (qz hgr),((HI _).1 hI').2.grew (qz hgr)⟩
    | some gq=>
     rw[hob]at hgr;obtain⟨cs,hc⟩:=(HX.grew hg').obj hob;have hlt:=FX.fn gq hob;exact(HI _).2 ⟨((HI _).1 hI').1.kind hgr hc Dc,((HI _).1 hI').2.beside hgr (fun k e=>by cases e;omega)⟩
   refine zJ.step (v:= .slice a' (xs++ [fx]).length c') (w':=w2) ?_ ⟨hbx,⟨a',_,c',rfl⟩,w',hg',hgr,ho⟩;simp only[execOp,resolve,invoke,builtin,pure_bind,Xs,Xw,Yl,mP,Xx];exact Eq.trans (congrArg (fun r=>Result.andThen r (fun a w'=>Result.ok (Next.value a) w')) hrun) rfl
  obtain⟨fa,fn,fc,rfl⟩:=hv;refine Uq ?_;refine z4 (.tmp 161) ⟨b,0,Xb⟩ rfl rfl rfl rfl ?_;refine Uq ?_;iterate 3 refine zz ?_
  refine qJ fun W14 hI14 hF14=>?_
  obtain⟨u0,g0,gr14,op14⟩:=hF14;have B14:=dD<|((HI _).1 hI14).1;have R14:Xo (MkR w.heap.size hi W14 ⟨⟨Xa ⟨gf,0,Xb⟩,nf,nf⟩,⟨Xa ⟨gl,0,Xb⟩,ns,ns⟩,⟨Xa ⟨gsb,0,Xb⟩,ns,ns⟩,zG,⟨Xa ⟨gdb,0,Xb⟩,nb,nb⟩,sd6,⟨fa,fn,fc⟩,zG,zG⟩ ⟨Xr nf frF,0,Xr ns 0,Xr ns zp,[],db6,dq6,fl++ [⟨sz,bl⟩],nb,[],[]⟩ zG []):=(FX.mm.rows.grew g0).addFl (HX.grew g0) HXL (fun i x f hx hf=>⟨(HX3 i x f hx hf).1,(HX3 i x f hx hf).2.grew g0⟩) gr14 ⟨fa,fn,fc⟩ (x:=fx) (f:=⟨sz,bl⟩) (zcF nf) (by rw[HFX.out]) (by rw[HFX.out];exact(FX.row.grew g0).base (Hm FX.hp)) op14
  have hk14:zc w W14/\zo W14 w.heap.size 41 qf:=by
   cases hob:(sf.x).ownBlock with
   | none=>
    rw[hob]at gr14;exact⟨(FX.mm.gr.trans g0).trans (qz gr14),(XX.grew g0).grew (qz gr14)⟩
   | some gq=>
    rw[hob]at gr14;obtain⟨cs,hc⟩:=(HX.grew g0).obj hob;exact⟨zd (FX.mm.gr.trans g0) gr14 ((HX.grew g0).lt gq hob).1,(XX.grew g0).kind gr14 hc Dc⟩
  obtain⟨e1,e5⟩:=hk14;have hg15:=ji W14 b 8 (O fa fn fc);have M15:Xo (Mk w hi (W14.setCell ⟨b,8,Xb⟩ (O fa fn fc)) b vl6 L6 ⟨⟨Xa ⟨gf,0,Xb⟩,nf,nf⟩,⟨Xa ⟨gl,0,Xb⟩,ns,ns⟩,⟨Xa ⟨gsb,0,Xb⟩,ns,ns⟩,zG,⟨Xa ⟨gdb,0,Xb⟩,nb,nb⟩,sd6,⟨fa,fn,fc⟩,zG,zG⟩ ⟨Xr nf frF,0,Xr ns 0,Xr ns zp,[],db6,dq6,fl++ [⟨sz,bl⟩],nb,[],[]⟩ zG []):=dD<|⟨zd e1 hg15 FX.mm.hb,FX.mm.hb,B14.set 8 _,FX.mm.lr,FX.mm.lc,FX.mm.lb,R14.var hg15 B14 hg15.size (.inl rfl)⟩
  have X15:Xo (zo (W14.setCell ⟨b,8,Xb⟩ (O fa fn fc)) w.heap.size 41 qf):=e5.kind hg15 B14 Dc
  have FI15:Xo (zfu (fl++ [⟨sz,bl⟩]) nb db6 dq6 []/\(fl++ [(⟨sz,bl⟩:Fl)]).length<=k2+1/\db6.length=nb/\∀f∈fl++ [(⟨sz,bl⟩:Fl)],f.size<40):=dD<|⟨FI.1.file (Hm HFL.out) (Hm HSZ.out) (by rw[FI.2.1,HN3.out]),by have:=HFL.out;simp;omega,FI.2.2,fun f hf=>by
   rcases Yf.1 hf with hf|hf
   ·exact HF40 f hf
   simp only[mC,nM,or_false]at hf;rw[hf];exact HSZ.2⟩
  clear u0 g0 gr14 op14 e1 e5 hg15 hI14 hI0 hx8 hp0 hp1 hne;have x8:=B14.box.c 8 rfl;have xf:=B14.box.f;go_wp2
  go_roundg (c -(k2+1));exact⟨k2+1,vl6,L6,sd6,⟨fa,fn,fc⟩,db6,dq6,fl++ [(⟨sz,bl⟩:Fl)],Wm,Wm,Gn,M15,LX,X15,FI15,(fun h=>absurd h (Nat.succ_ne_zero _))⟩;omega
 have hltz2:=kD hlt2
 have BI:=dD<|FW.1.start hnf40 hns60 0;have HFL2:Xo (fl.length<=2/\∀f∈fl,f.size<40):=show _/\_ from⟨Hm FW.2.1,FW.2.2.2⟩
 have HE0:Xo (L=[]->fl=[]/\dq=[]/\db=Xr nb zp):=dD<|fun e=>ZW.out (Hm (HC0.out e))
 have hpk3:=qB 2 MW.out;go_wp2_with fail;refine hpk3.mono ?_;clear hpk3;rintro e W4 ⟨vl4,L4,y,rfl,mk4,gr4,-,s0,s1,s2,ll4⟩;obtain⟨n5,hn5⟩:∃n5:Nat,1+y=(n5:Int):=⟨(1+y).toNat,Wm⟩
 have hn52:n5<=2:=by rcases s1 with h | h <;> omega
 have hn51:1<=n5:=Wm
 have HN1:Xo (L=[]->n5=1):=dD<|fun e=>Hm (s2 (LW e))
 have M4:=dD mk4;have X4:Xo (zo W4 w.heap.size 41 qf):=XW.beside gr4 (fun g e=>by cases e;have:=HBB.out;omega)
 have LL4:=dD (LW.trans ll4);clear mk4 gr4 ll4 s0 s1 s2;go_wp2
 go_loopg [179] n5 (fun gg s179 wr=>∃(k5:Nat) (vl':Sli) (L':List Int) (V':MaV) (m':Ma) (vt':Sli) (T':List (Nat->En)),k5<=n5/\n5 - k5<=gg/\s179=I6 k5/\Xo (Mk w hi wr b vl' L' V' m' vt' T')/\Xo (QT L L')/\Xo (zo wr w.heap.size 41 qf)/\Xo (qK m' T')/\Xo (m'.sp.length=k5/\(∀s∈m'.sp,qH m'.fl.length s.ars/\ZA s.ars 64<=12)/\m'.hand=0/\m'.fs.length=nf/\(m'.fl.length<=2/\∀f∈m'.fl,f.size<40))/\Xo (L=[]->m'=zgf nf ns nb k5/\T'=Xr k5 (fun _=>en0)))
 exact⟨0,vl4,L4,_,_,_,_,nZ _,Wm,rfl,M4,LL4,X4,BI,(show _/\_ from⟨rfl,fun s hs=>(by cases hs),rfl,lR,HFL2⟩),(show _->_ from fun e=>by obtain⟨a1,a2,a3⟩:=HE0.out e;rw[a1,a2,a3];exact⟨rfl,rfl⟩)⟩
 obtain⟨k5,vl5,L5,V5,m5,vt5,T5,hk5,hg5,rfl,MX,LX,XX,BX5,S5,E5⟩:=hrel;have HL5:=dD S5.1
 by_cases hlt5:k5<n5
 ·have hltz5:=kC hlt5
  by_cases h1:k5=1
  ·subst h1;have HL1:Xo (L≠[]):=dD<|fun e=>Hm (HN1.out e)
   have h1e:((((1:Nat):Int)) == 1)=Xc:=Dc
   have hpk4:=qB 2 MX.out;go_wp2_with fail;refine hpk4.mono ?_;clear hpk4;rintro e W7 ⟨vl7,L7,z,rfl,mk7,gr7,-,-,-,-,ll7⟩;have M7:=dD mk7;have X7:Xo (zo W7 w.heap.size 41 qf):=XX.beside gr7 (fun g e=>by cases e;have:=HBB.out;omega)
   have LL7:=dD (LX.trans ll7);clear mk7 gr7 ll7;obtain⟨MX,LX,XX⟩:Xo (Mk w hi W7 b vl7 L7 V5 m5 vt5 T5)/\Xo (QT L L7)/\Xo (zo W7 w.heap.size 41 qf):=⟨M7,LL7,X7⟩
   by_cases hz:z=1
   ·have hze:(z == 1)=Xc:=by simp[hz]
    clear hz;obtain⟨s0,hs0⟩:=List.length_eq_one_iff.1 HL5.out;have HS0:Xo (m5.sp=[s0]):=hs0;clear hs0;have hfk:=znS s0 MX BX5 HS0.out;go_wp2_with fail;refine hfk.mono ?_;clear hfk;rintro e W9 ⟨⟨v,rfl⟩,V9,m9,vt9,T9,q1,q3,q4,⟨q5,q6,q7,q8⟩⟩;have M9:Xo (Mk w hi W9 b vl7 L7 V9 m9 vt9 T9):=q1;have X9:Xo (zo W9 w.heap.size 41 qf):=q3.1 _ _ _ XX ze1;have B9:Xo (qK m9 T9):=q4;have S9:Xo (m9.sp.length=1+1/\(∀s∈m9.sp,qH m9.fl.length s.ars/\ZA s.ars 64<=12)/\m9.hand=0/\m9.fs.length=nf/\(m9.fl.length<=2/\∀f∈m9.fl,f.size<40)):=show _/\_ from⟨by rw[q5,HS0.out];rfl,fun s hs=>by
     rw[q5]at hs;rw[q6]
     rcases Yf.1 hs with hs|hs
     ·exact S5.2.1 s hs
     simp only[mC,nM,or_false]at hs;rw[hs];exact S5.2.1 s0 (by rw[HS0.out];simp),q7.trans S5.2.2.1,q8.trans S5.2.2.2.1,Rx q6 S5.2.2.2.2⟩
    have E9:Xo (L=[]->m9=zgf nf ns nb (1+1)/\T9=Xr (1+1) (fun _=>en0)):=dD<|fun e=>absurd e HL1.out
    clear q1 q3 q4 q5 q6 q7 q8;go_wp2
    go_roundg (n5 -(1+1));exact⟨1+1,vl7,L7,V9,m9,vt9,T9,Wm,Wm,Gn,M9,LX,X9,B9,S9,E9⟩;omega
   have hze:(z == 1)=Xd:=by simp[hz]
   clear hz;have hsp:=zfS MX BX5 (by rw[HL5.out];omega)
   go_wp2_with fail;refine hsp.mono ?_;clear hsp;rintro e W9 ⟨⟨v,rfl⟩,vl9,L9,V9,m9,vt9,T9,l9,q1,q2,q3,q4,⟨q5,q6,q7,q8⟩,q9,q10⟩;have M9:Xo (Mk w hi W9 b vl9 L9 V9 m9 vt9 T9):=q1;have LL9:=dD (LX.trans q2);have X9:Xo (zo W9 w.heap.size 41 qf):=q3.1 _ _ _ XX ze1;have B9:Xo (qK m9 T9):=q4;have S9:Xo (m9.sp.length=1+1/\(∀s∈m9.sp,qH m9.fl.length s.ars/\ZA s.ars 64<=12)/\m9.hand=0/\m9.fs.length=nf/\(m9.fl.length<=2/\∀f∈m9.fl,f.size<40)):=show _/\_ from⟨by rw[q5,lA,HL5.out];rfl,fun s hs=>by
    rw[q5]at hs;rw[q6]
    rcases Yf.1 hs with hs|hs
    ·exact S5.2.1 s hs
    simp only[mC,nM,or_false]at hs;rw[hs];exact q9,q7.trans S5.2.2.1,q8.trans S5.2.2.2.1,Rx q6 S5.2.2.2.2⟩
   have E9:Xo (L=[]->m9=zgf nf ns nb (1+1)/\T9=Xr (1+1) (fun _=>en0)):=dD<|fun e=>absurd e HL1.out
   clear q1 q2 q3 q4 q5 q6 q7 q8 q9 q10;go_wp2
   go_roundg (n5 -(1+1));exact⟨1+1,vl9,L9,V9,m9,vt9,T9,Wm,Wm,Gn,M9,LL9,X9,B9,S9,E9⟩;omega
  obtain rfl:k5=0:=Wm
  have h1e:((((0:Nat):Int)) == 1)=Xd:=Dc
  have hsp:=zfS MX BX5 (by rw[HL5.out];omega)
  go_wp2_with fail;refine hsp.mono ?_;clear hsp;rintro e W9 ⟨⟨v,rfl⟩,vl9,L9,V9,m9,vt9,T9,l9,q1,q2,q3,q4,⟨q5,q6,q7,q8⟩,q9,q10⟩;have M9:Xo (Mk w hi W9 b vl9 L9 V9 m9 vt9 T9):=q1;have LL9:=dD (LX.trans q2);have X9:Xo (zo W9 w.heap.size 41 qf):=q3.1 _ _ _ XX ze1;have B9:Xo (qK m9 T9):=q4;have S9:Xo (m9.sp.length=0+1/\(∀s∈m9.sp,qH m9.fl.length s.ars/\ZA s.ars 64<=12)/\m9.hand=0/\m9.fs.length=nf/\(m9.fl.length<=2/\∀f∈m9.fl,f.size<40)):=show _/\_ from⟨by rw[q5,lA,HL5.out];rfl,fun s hs=>by
   rw[q5]at hs;rw[q6]
   rcases Yf.1 hs with hs|hs
   ·exact S5.2.1 s hs
   simp only[mC,nM,or_false]at hs;rw[hs];exact q9,q7.trans S5.2.2.1,q8.trans S5.2.2.2.1,Rx q6 S5.2.2.2.2⟩
  have E9:Xo (L=[]->m9=zgf nf ns nb (0+1)/\T9=Xr (0+1) (fun _=>en0)):=dD<|fun e=>by
   obtain⟨a1,a2⟩:=q10 (LX e);obtain⟨b1,b2⟩:=E5.out e;rw[b1]at a1;rw[b2]at a2;exact⟨a1,a2⟩
  clear q1 q2 q3 q4 q5 q6 q7 q8 q9 q10;go_wp2
  go_roundg (n5 -(0+1));exact⟨0+1,vl9,L9,V9,m9,vt9,T9,Wm,Wm,Gn,M9,LL9,X9,B9,S9,E9⟩;omega
 have hltz5:=kD hlt5
 obtain⟨ys0,z1,z2,-⟩:=MX.rows.sp;have HN5:Xo (V5.sp.n=k5):=dD<|by rw[z1.n,z2,HL5.out]
 obtain⟨ht,HHT⟩:=kA wr.heap.size;have HBT:Xo (b<ht):=dD<|Ry HHT.out MX.box.box.lt
 have HXT:Xo (w.heap.size<ht):=dD<|Ry HHT.out XX.box.lt
 have HZ1:Xo (∀g,(V5.sp.x).ownBlock=Xa g->g<ht):=dD<|fun g hg=>by rw[<-HHT.out];exact(z1.lt g hg).2
 have NX:=dD MX.nums;have TX:=dD<|MX.rows.start ht HHT.out;have HTL:Xo (T5.length=k5):=show _=_ by rw[BX5.tl,HL5.out]
 have HK:Xo (∀(p:Nat) f,T5[p]? =Xa f->∀e∈tab f,0<=e.kind):=dD<|fun p f hf e he=>by
  obtain⟨j,hj⟩:=Yd he;have hj64:j<64:=by have:=(gS.1 hj).1;rw[Qs]at this;exact this
  rw[Jh hj64]at hj;cases hj;have hp:p<m5.sp.length:=by rw[<-BX5.tl];exact(gS.1 hf).1
  rcases BX5.ent p _ f (gE hp) hf j hj64 with e|e
  ·rw[e];decide
  by_cases hk:(f j).kind=2
  ·omega
  have:=(z8 e hk).1;omega
 have x11:=MX.box.box.c 11 rfl;(try simp only[Sli.x]at x11);rw[HN5.out]at x11;clear z1 z2 ys0;go_wp2;clear x11
 go_loopg [200] k5 (fun gg s200 wr=>∃p:Nat,p<=k5/\k5 - p<=gg/\s200=I6 p/\Xo (MkT w.heap.size hi ht p wr V5 m5 vt5 T5)/\Xo (zpt w wr b vl5 L5 [V5.f.x,I6 m5.hand,V5.s.x,V5.sb.x,V5.sq.x,V5.db.x,V5.dq.x,V5.fl.x,I6 m5.cnt,V5.ca.x,V5.sp.x,vt5.x])/\Xo (zo wr w.heap.size 41 qf)/\Xo (ht<=wr.heap.size))
 exact⟨0,nZ _,Wm,rfl,TX,NX,XX,(show _<=_ by rw[HHT.out];exact nR _)⟩
 obtain⟨p,hp,hg6,rfl,TW,NW,XW,HW⟩:=hrel
 by_cases hlt6:p<k5
 ·have hltz6:=kC hlt6
  obtain⟨f,HF⟩:∃f,Xo (T5[p]? =Xa f):=⟨_,gE (by rw[HTL.out];exact hlt6)⟩
  obtain⟨ys,s1,s2,s3⟩:=TW.sp;have hyl:ys.length=k5:=by rw[s2,HL5.out]
  obtain⟨x,HX⟩:∃x,Xo (ys[p]? =Xa x):=⟨_,gE Wm⟩
  obtain⟨gs,cs,hse⟩:=s1.formS Wm
  rw[hyl]at hse;have HSE:=dD hse;obtain⟨gt,ct,hte⟩:=TW.tt.formS (by rw[HTL.out];omega)
  rw[HTL.out]at hte;have HTE:=dD hte;have S1:Xo (zb ZC w.heap.size wr (O (Xa ⟨gs,0,Xb⟩) k5 cs) ys):=show zb _ _ _ _ _ by rw[<-HSE.out];exact s1
  have R1:Xo (zb zb7 w.heap.size wr (O (Xa ⟨gt,0,Xb⟩) k5 ct) T5):=dD<|Ry HTE.out TW.tt
  have S2:=dD s2;have S3:=dD s3
  clear s1 s2 s3 hse hte hyl;go_upto_region 43 with fail;obtain⟨I,HI⟩:=Wq fun u=>zc wr u
  have hI0:=(HI _).2 (gW _)
  have hx11:∀y:zj I,y.world.cell? ⟨b,11,Xb⟩=Xa (O (Xa ⟨gs,0,Xb⟩) k5 cs):=fun y=>by
   have:=(NW.box.box.grew ((HI _).1 y.holds)).c 11 rfl;simp only[Sli.x]at this;rw[HSE.out]at this;exact this
  have hx12:∀y:zj I,y.world.cell? ⟨b,12,Xb⟩=Xa (O (Xa ⟨gt,0,Xb⟩) k5 ct):=fun y=>by
   have:=(NW.box.box.grew ((HI _).1 y.holds)).c 12 rfl;simp only[Sli.x]at this;rw[HTE.out]at this;exact this
  have hne:Nonempty (zj I):=⟨⟨_,hI0⟩⟩;refine zQ (I:=I) 16 [(13,fun v=>∃us:List Xq,v= Xi us.toArray)] (fun _=>True) hI0 trivial z6 Kr rfl rfl Dc (Sa ⟨_,[],rfl⟩) Kr ?_
  simp only[Xy,Xz];refine zz ?_
  refine z4 (.tmp 203) ⟨b,0,Xb⟩ rfl rfl rfl rfl ?_;refine Uq ?_;iterate 5 refine zz ?_
  refine z4 (.tmp 209) ⟨b,0,Xb⟩ rfl rfl rfl rfl ?_;refine Uq ?_;iterate 4 refine zz ?_
  refine znD (Xi (qr (tab f)).toArray) rfl rfl (fun u hu=>zhu (.tmp 214) rfl gt (p*192) rfl ((R1.grew ((HI _).1 hu)).range HF) (by rw[ZK,Qs])) ?_
  refine Uq ?_;refine zI rfl rfl (fun v u=>∃us:List Xq,v= Xi us.toArray/\Qw 0 ht u us (jU f)) (fun w' hI' _=>?_) (fun v1 hv=>?_)
  ·refine zJ.call [Xi (qr (tab f)).toArray] rfl func21 rfl rfl rfl ?_;refine(zhk (tab f) w' (Qs f) (HK p f HF)).mono ?_;rintro e w'' ⟨us,rfl,ht1,ht2⟩;exact⟨_,rfl,(HI _).2 (((HI _).1 hI').trans ht2),⟨us,rfl⟩,us,rfl,ht1.less (nR _) (nT HW (bS ((HI _).1 hI')))⟩
  obtain⟨us,rfl⟩:=hv;refine Uq ?_;iterate 2 refine zz ?_
  refine qJ fun W1 hI1 hF1=>?_
  obtain⟨us',hus,ht1⟩:=hF1;have hue:us=us':=by
   simp only[Value.agg.injEq]at hus
   simpa using congrArg Array.toList hus
  subst hue;obtain⟨t0,t1,t2,t3,t4,t5,t6,t7,rfl⟩:=zkZ ht1;have g1:=(HI _).1 hI1;have T1:=dD ht1;have G1:=dD g1;clear hus ht1 g1 hI1 hI0 hx11 hx12 hne;refine zD (E:=ZC) rfl (.tmp 218) (.tmp 216) 72 rfl w.heap.size _ ys (S1.grew G1) gs p 2 rfl x ⟨x.live,x.ar,t0,t1,t2,t3,t4,t5,t6,t7⟩ HX.out [t0.v,t1.v,t2.v,t3.v,t4.v,t5.v,t6.v,t7.v] Kr rfl (by show 2+8<=10;omega) (fun u hu=>by simp only[mC,nM,or_false]at hu;rcases hu with rfl | rfl | rfl | rfl | rfl | rfl | rfl | rfl <;> rfl) _ rfl (by first | rfl | simp) _ rfl rfl ?_
  intro W2 ow2 gr2 sz2;obtain⟨cs',hcs⟩:=(S1.grew G1).obj (g:=gs) rfl;have hgl:gs<ht:=HZ1.out gs (by simp only[Sli.x];rw[HSE.out];rfl)
  have T2:Xo (MkT w.heap.size hi ht (p+1) W2 V5 m5 vt5 T5):=(TW.grew G1).table S2 (fun i x s f hx hs hf=>by
   obtain⟨a1,a2,a3,a4⟩:=S3.out i x s f hx hs hf;exact⟨a1,a2.grew G1,fun e=>(a3 e).grew G1,a4⟩) hcs hgl gr2 HX HF (y:=⟨x.live,x.ar,t0,t1,t2,t3,t4,t5,t6,t7⟩) ⟨rfl,rfl⟩ (T1.out.out (Out.grown gr2 (fun g e=>by cases e;exact⟨nZ _,hgl⟩))) (by simp only[Sli.x];rw[HSE.out];exact ow2)
  have N2:Xo (zpt w W2 b vl5 L5 [V5.f.x,I6 m5.hand,V5.s.x,V5.sb.x,V5.sq.x,V5.db.x,V5.dq.x,V5.fl.x,I6 m5.cnt,V5.ca.x,V5.sp.x,vt5.x]):=dD<|⟨zd (NW.gr.trans G1) gr2 ((S1.grew G1).lt gs rfl).1,NW.hb,(NW.box.grew G1).beside gr2 (fun g e=>by cases e;exact(S1.grew G1).ne (NW.box.grew G1) Dc gs rfl),NW.lr,NW.lc,NW.lb⟩
  have X2:Xo (zo W2 w.heap.size 41 qf):=(XW.grew G1).beside gr2 (fun g e=>by cases e;exact(S1.grew G1).ne (XW.grew G1) Dc gs rfl)
  have H2:Xo (ht<=W2.heap.size):=dD<|by rw[sz2];exact nT HW (bS G1)
  clear ow2 gr2 sz2 hcs hgl;go_wp2
  go_roundg (k5 -(p+1));exact⟨p+1,Wm,Wm,Gn,T2,N2,X2,H2⟩;omega
 have hltz6:=kD hlt6
 obtain rfl:k5=p:=Wm
 have HSPL:Xo (1<=m5.sp.length/\m5.sp.length<=2):=dD<|by rw[HL5.out];omega
 by_cases h0:0<nf
 ·have h0d:decide ((0:Int)< (nf:Int))=Xc:=by simp;omega
  have hpk:=zna (nf:Int) NW.out;go_wp2_with fail;refine hpk.mono ?_;clear hpk;rintro e W20 ⟨vl20,L20,y,rfl,nm20,gr20,-,y0,y1,yn,-⟩;have T20:Xo (MkT w.heap.size hi ht k5 W20 V5 m5 vt5 T5):=TW.other gr20 NW.box HBT (.inl rfl);have X20:Xo (zo W20 w.heap.size 41 qf):=XW.kind gr20 NW.box Dc
  have N20:=dD nm20;have HY:Xo (0<=y/\y<max (m5.fs.length:Int) 1):=show _/\_ from⟨y0,by rw[S5.2.2.2.1];omega⟩
  have HY0:Xo (L=[]->y=0):=dD<|fun e=>yn (LX e)
  clear nm20 gr20 y0 y1 yn;have x2:=N20.box.box.c 2 rfl;have xf:=N20.box.box.f;go_upto_region 47 with fail;clear x2 xf;obtain⟨W21,hW21⟩:=kB (W20.setCell ⟨b,2,Xb⟩ (I6 y));have hg21:W20.grownBy W21 (Xa b):=by rw[<-hW21];exact ji _ _ _ _
  have B21:Xo (zo W21 b 58 [vl20.x,V5.f.x,I6 y,V5.s.x,V5.sb.x,V5.sq.x,V5.db.x,V5.dq.x,V5.fl.x,I6 m5.cnt,V5.ca.x,V5.sp.x,vt5.x]):=dD<|by rw[<-hW21];exact N20.box.set 2 _
  have T21:Xo (MkT w.heap.size hi ht k5 W21 V5 m5 vt5 T5):=T20.other hg21 N20.box HBT (.inl rfl);have X21:Xo (zo W21 w.heap.size 41 qf):=X20.kind hg21 N20.box Dc
  have G21:=dD<|zd N20.gr hg21 N20.hb;rw[hW21];clear hW21 hg21;have c1:=B21.box.c 1 rfl;have c2:=B21.box.c 2 rfl;have c3:=B21.box.c 3 rfl;have c4:=B21.box.c 4 rfl;have c5:=B21.box.c 5 rfl;have c6:=B21.box.c 6 rfl;have c7:=B21.box.c 7 rfl;have c8:=B21.box.c 8 rfl;have c9:=B21.box.c 9 rfl;have c10:=B21.box.c 10 rfl;have c11:=B21.box.c 11 rfl
  go_wp2_with (refine zP rfl 41 (.tmp 8) (.tmp 233) rfl w.heap.size rfl [V5.f.x,I6 y,V5.s.x,V5.sb.x,V5.sq.x,V5.db.x,V5.dq.x,V5.fl.x,I6 m5.cnt,V5.ca.x,V5.sp.x] rfl X21 rfl zqP (fun v hv=>by simp only[mC,nM,or_false]at hv;rcases hv with rfl | rfl | rfl | rfl | rfl | rfl | rfl | rfl | rfl | rfl | rfl <;> rfl) ?_)
  intro W22 hb22 hg22 _;have HRS:Xo (zmO w nf ns nb L W22 V5 m5 T5 y hi ht vt5):=dD<|⟨zd G21 hg22 (nR _),by rw[HL5.out];exact T21.other hg22 X21 HXT (.inr rfl),BX5,HY,S5.2.1,S5.2.2.2.2,HSPL,S5.2.2.2.1,fun e=>by obtain⟨a1,a2⟩:=E5.out e;have h1:=HN1.out e;have h2:k5=1:=Wm;rw[h2]at a1 a2;exact⟨a1,a2,HY0 e⟩⟩
  have B22:=dD hb22.box;clear hb22 hg22;clear c1 c2 c3 c4 c5 c6 c7 c8 c9 c10 c11;go_wp2;refine bodyPost_ret (zX rfl _ rfl B22 underlying41 rfl zqP) rfl ⟨V5,m5,T5,y,hi,ht,vt5,rfl,HRS⟩
 have h0d:decide ((0:Int)< (nf:Int))=Xd:=by simp;omega
 have B21:Xo (zo wr b 58 [vl5.x,V5.f.x,I6 0,V5.s.x,V5.sb.x,V5.sq.x,V5.db.x,V5.dq.x,V5.fl.x,I6 m5.cnt,V5.ca.x,V5.sp.x,vt5.x]):=dD<|by have:=NW.box;rw[S5.2.2.1]at this;exact this
 have G21:=dD NW.gr;have HY:Xo ((0:Int)<=0/\(0:Int)<max (m5.fs.length:Int) 1):=show _/\_ from⟨Int.le_refl _,Wm⟩
 have c1:=B21.box.c 1 rfl;have c2:=B21.box.c 2 rfl;have c3:=B21.box.c 3 rfl;have c4:=B21.box.c 4 rfl;have c5:=B21.box.c 5 rfl;have c6:=B21.box.c 6 rfl;have c7:=B21.box.c 7 rfl;have c8:=B21.box.c 8 rfl;have c9:=B21.box.c 9 rfl;have c10:=B21.box.c 10 rfl;have c11:=B21.box.c 11 rfl
 go_wp2_with (refine zP rfl 41 (.tmp 8) (.tmp 233) rfl w.heap.size rfl [V5.f.x,I6 0,V5.s.x,V5.sb.x,V5.sq.x,V5.db.x,V5.dq.x,V5.fl.x,I6 m5.cnt,V5.ca.x,V5.sp.x] rfl XW rfl zqP (fun v hv=>by simp only[mC,nM,or_false]at hv;rcases hv with rfl | rfl | rfl | rfl | rfl | rfl | rfl | rfl | rfl | rfl | rfl <;> rfl) ?_)
 intro W22 hb22 hg22 _;have HRS:Xo (zmO w nf ns nb L W22 V5 m5 T5 0 hi ht vt5):=dD<|⟨zd G21 hg22 (nR _),by rw[HL5.out];exact TW.other hg22 XW HXT (.inr rfl),BX5,HY,S5.2.1,S5.2.2.2.2,HSPL,S5.2.2.2.1,fun e=>by obtain⟨a1,a2⟩:=E5.out e;have h1:=HN1.out e;have h2:k5=1:=Wm;rw[h2]at a1 a2;exact⟨a1,a2,rfl⟩⟩
 have B22:=dD hb22.box;clear hb22 hg22;clear c1 c2 c3 c4 c5 c6 c7 c8 c9 c10 c11;go_wp2;refine bodyPost_ret (zX rfl _ rfl B22 underlying41 rfl zqP) rfl ⟨V5,m5,T5,0,hi,ht,vt5,rfl,HRS⟩
theorem zmO.at {w:Xn} {nf ns nb ht:Nat} {a:Int} (h:zmO w nf ns nb L w' V m T a hi ht vt):zy w' V (jS m T a)/\maW (jS m T a)=0:=⟨h.rows.mach h.inv.tl a,h.inv.right h.hand.1 h.hand.2⟩
theorem zoP {k:Nat} (h:k<8):QF[k]? =Xa (eS):=by
 match k,h with
 | 0,_ | 1,_ | 2,_ | 3,_ | 4,_ | 5,_ | 6,_ | 7,_=>rfl
theorem zht (vs:List Xq) (t:List (List En)) (w) (C:Je w vs t):
  Xp prog 55 #[Xi vs.toArray,Xi #[eS,eS,eS,eS,eS,eS,eS,eS]] w fun e w'=>e= Xl (Xh (t.all (·.isEmpty)))/\zc w w':=by
 have T:=dD C;have z:=dD C.tlen;clear C;obtain⟨k,b⟩:=kA (t.all (·.isEmpty));rw[b.out];obtain⟨v,c⟩:=kB ((w.alloc (Xk vs.toArray 72)).alloc (Xk QF.toArray 72));have m:=gD2 c
 have M:=x2a c
 have V:=x2b c
 have A:=dD c;clear c
 go_enter func55,ntmps55
 go_upto_region 1 with fail;have R:(w.alloc (Xk vs.toArray 72)).alloc (Xk #[eS,eS,eS,eS,eS,eS,eS,eS] 72)=v:=A.out;rw[R];clear R;go_wp2
 go_loopg [7] 8 (fun W I wr=>∃a:Nat,a<=8/\8 - a<=W/\I=I6 a/\Xo (zc v wr)/\Xo (∀(j:Nat) h,j<a->t[j]? =Xa h->h=[]))
 exact⟨0,nZ _,Wm,rfl,zc.refl _,fun j h r=>absurd r (nL _)⟩
 obtain⟨a,X,a2,rfl,l,L⟩:=hrel
 by_cases s:a<8
 ·have u:(a:Int)<8:=Wm
  obtain⟨a3,a4,S,P,i,Q⟩:=T.half s;have g:=Q.short;have K:=dD P;obtain⟨D,d⟩:=kA S.length;rw[d.out]at i g;have n:=dD i;clear Q P i;have G:=(M.grew l).c a n.out;have a0:=(V.grew l).c a (zoP s)
  by_cases p:D=0
  ·subst p;have B:Xo (∀(j:Nat) h,j<a+1->t[j]? =Xa h->h=[]):=dD<|fun j h r q=>by
    by_cases e:j=a
    ·subst e;rw[K.out]at q;cases q;exact eN d.out
    exact L j h Wm q
   go_wp2;go_quiet (fail);obtain⟨U,f⟩:=kB (wr.drewN nq);have H:Xo (zc v U):=dD<|by rw[<-f];exact l.trans (show Below _ _ _ from bD (bR _ _) _)
   rw[f];clear f G a0;have G:=(M.grew H).c a n.out;go_wp2
   go_loopg [23] 0 (fun a1 E F=>E=I6 0/\Xo (zc v F))
   exact⟨rfl,H⟩
   obtain⟨rfl,x⟩:=hrel;clear G;go_wp2
   go_roundg (8 -(a+1));exact⟨a+1,Wm,Wm,Gn,x,B⟩;omega
  have Y:((D:Int) != 0)=Xc:=by simp[p]
  have y:Xo (k=Xd):=dD<|by
   rw[<-b.out]
   cases e:t.all (·.isEmpty)with
   | false=>rfl
   | true=>
    have:=List.all_eq_true.1 e S (mG K);have N:=d.out;rw[List.isEmpty_iff]at this;rw[this]at N;exact absurd N.symm p
  have Z:(D != 0)=Xc:=by simp[p]
  clear p;go_wp2;go_quiet (fail);go_wp2;go_ret;exact⟨Rr y.out,m.trans (l.trans (show Below _ _ _ from bD (bR _ _) _))⟩
 have u:¬(a:Int)<8:=Wm
 have y:Xo (k=Xc):=dD<|by
  rw[<-b.out,List.all_eq_true];intro h q;obtain⟨j,r⟩:=Yd q;rw[L.out j h (by have:=(gS.1 r).1;have:=z.out;omega) r]
  rfl
 go_wp2;go_ret;exact⟨Rr y.out,m.trans l⟩
theorem zcG (a) (c:Nat) (fs:List Fr) (h:Int) (w) (E:zl qA w (O a fs.length c) fs):
  Xp prog 49 #[Xi #[O a fs.length c,I6 h]] w fun e w'=>e= Xl (I6 (Zt fs h))/\zc w w':=by
 have x:=E.short;obtain⟨a1,a3,D,l⟩:=E.frs;cases D;have S:=dD l;clear l E;have t:Xo (Zt fs h=if 40<fs.length then 4 else if zbU fs=0 then(if inB h (max fs.length 1)then 0 else 3)else zbU fs):=rfl;obtain⟨n,C⟩:=kA fs.length;rw[C.out]at x t⊢;obtain⟨T,k⟩:=kB (w.alloc (Xk #[O a n c,I6 h] 28));have f:=gA k
 have K:=xA k
 have u:=dD k;clear k
 by_cases j:40<n
 ·have v:=kC j
  go_enter func49,ntmps49
  go_wp2;go_ret;exact⟨by rw[t.out,kE j];rfl,Rx u.out f⟩
 have v:=kD j
 rw[kF j]at t
 go_enter func49,ntmps49
 go_wp2;rw[u.out]
 go_loopg [4,5,13] n (fun Y _ _ F wr=>∃b:Nat,b<=n/\n - b<=Y/\F=I6 b/\Xo (zc T wr)/\Xo (zbU (fs.drop b)=zbU fs))
 exact⟨0,nZ _,Wm,rfl,zc.refl _,rfl⟩
 obtain⟨b,I,ah,rfl,i,B⟩:=hrel
 by_cases s:b<n
 ·have A:=kC s
  obtain⟨q,H⟩:∃q,Xo (fs[b]? =Xa q):=⟨_,gE (Rx C.out s)⟩
  obtain⟨a2,rfl,N⟩:=S.out b q H.out;obtain⟨a4,a5,a6,a7,a8,a9,aa,ab,ac,ae,U,V,X⟩:=N wr (f.trans i);have g:∀W,Xp prog 94 #[Xi #[U8 q.p.b0,U8 q.p.b1,U8 q.p.b2,U8 q.p.b3,U8 q.p.b4,U8 q.p.b5,U8 q.p.b6,U8 q.p.b7,I6 q.r,Xh q.u,Xh q.d,I6 q.f,I6 q.x]] W fun e w'=>e= Xl (I6 (frW q))/\zc W w':=fun W=>zbr q W
  have p:Xo (zbU (fs.drop b)=if frW q=0 then zbU (fs.drop (b+1))else frW q):=dD<|by
   obtain⟨z,rfl⟩:=gS.1 H.out;rw[Yn z];rfl
  clear N
  generalize frW q=G at g p
  by_cases m:G=0
  ·have Q:Xo (zbU (fs.drop (b+1))=zbU fs):=dD<|by rw[<-B.out,p.out,kE m]
   subst m
   go_wp2_with (go_at_call 94;refine(g _).mono ?_;rintro e w' ⟨rfl,r⟩)
   go_roundg (n -(b+1));exact⟨b+1,Wm,Wm,Gn,(i.trans (za _ _)).trans r,Q⟩;omega
  have a0:(G != 0)=Xc:=Si m
  have R:Xo (Zt fs h=G):=dD<|by
   have L:=B.out;rw[p.out,kF m]at L;rw[t.out,<-L,kF m]
  skip
  go_wp2_with (go_at_call 94;refine(g _).mono ?_;rintro e w' ⟨rfl,r⟩)
  go_ret;exact⟨Rr R.out,((f.trans i).trans (za _ _)).trans r⟩
 have A:=kD s
 have:b=n:=Wm
 subst this;have af:=(K.grew i).c 0 rfl;have ag:=(K.grew i).c 1 rfl;have m:zbU fs=0:=by rw[<-B.out,Xv (by rw[C.out];exact nR _)];rfl
 have d:Xo (Zt fs h=if inB h (max b 1)then 0 else 3):=dD<|by rw[t.out,kE m]
 clear m
 by_cases y:h=0
 ·subst y;rw[show inB 0 (max b 1)=Xc from by simp[inB];omega,kE rfl]at d
  go_wp2;go_ret;exact⟨Rr d.out,f.trans i⟩
 have M:(h != 0)=Xc:=by simp[y]
 by_cases P:h<0
 ·rw[show inB h (max b 1)=Xd from by simp[inB];omega,kF Dc]at d
  go_wp2;go_ret;exact⟨Rr d.out,f.trans i⟩
 by_cases Z:(b:Int)<=h
 ·rw[show inB h (max b 1)=Xd from by simp[inB];omega,kF Dc]at d
  go_wp2;go_ret;exact⟨Rr d.out,f.trans i⟩
 rw[show inB h (max b 1)=Xc from by simp[inB];omega,kE rfl]at d
 go_wp2;go_ret;exact⟨Rr d.out,f.trans i⟩
theorem zeR (a) (c:Nat) (s:List Int) (w) (B:zl slE w (O a s.length c) s):
  Xp prog 50 #[O a s.length c] w fun e w'=>e= Xl (I6 (slW s))/\zc w w':=by
 have m:Xo (slW s=if 60<s.length then 4 else if s.any zbN then 3 else 0):=rfl;have r:=B.short;obtain⟨P,R,A,h⟩:=B.sls;cases A;have F:=dD h;clear h B;obtain⟨n,x⟩:=kA s.length;rw[x.out]at m r⊢
 by_cases f:60<n
 ·have p:=kC f
  have k:Xo (slW s=4):=dD<|by rw[m.out,kE f]
  skip
  go_enter func50,ntmps50
  go_wp2;go_ret;exact⟨Rr k.out,zc.refl _⟩
 have p:=kD f
 rw[kF f]at m
 go_enter func50,ntmps50
 go_wp2
 go_loopg [4,10] n (fun G _ N wr=>∃b:Nat,b<=n/\n - b<=G/\N=I6 b/\Xo (zc w wr)/\Xo (∀j q,j<b->s[j]? =Xa q->zbN q=Xd))
 exact⟨0,nZ _,Wm,rfl,zc.refl w,fun j q t=>absurd t (nL _)⟩
 obtain⟨b,L,T,rfl,l,C⟩:=hrel
 by_cases i:b<n
 ·have u:=kC i
  obtain⟨q,y⟩:∃q,Xo (s[b]? =Xa q):=⟨_,gE (Rx x.out i)⟩
  obtain⟨Q,rfl,D⟩:=F.out b q y.out;have S:=D wr l.out;clear D
  by_cases g:zbN q=Xc
  ·have k:Xo (slW s=3):=dD<|by rw[m.out,zou y.out g];rfl
   skip
   by_cases H:q<0
   ·clear g;go_wp2;go_ret;exact⟨Rr k.out,l⟩
   have K:1000<q:=by simp[zbN]at g;omega
   clear g;go_wp2;go_ret;exact⟨Rr k.out,l⟩
  have v:zbN q=Xd:=Si g
  have E:Xo (∀(j:Nat) q,j<b+1->s[j]? =Xa q->zbN q=Xd):=dD<|fun j M t d=>by
   by_cases e:j=b
   ·subst e;rw[y.out]at d;cases d;exact v
   exact C j M Wm d
  have H:¬q<0:=by intro z;exact g (by simp[zbN,z])
  have K:¬1000<q:=by intro z;exact g (by simp[zbN,z])
  clear g v;go_wp2
  go_roundg (n -(b+1));exact⟨b+1,Wm,Wm,Gn,l,E⟩;omega
 have u:=kD i
 have:b=n:=Wm
 subst this;have k:Xo (slW s=0):=dD<|by
  rw[m.out,zot (fun j q t=>C.out j q (by rw[<-x.out];exact(gS.1 t).1) t)]
  rfl
 go_wp2;go_ret;exact⟨Rr k.out,l⟩
def bov (b:Bool):List Xq:=[Xh b]
theorem zqQ:(Tryz.prog.info? 4).map (fun i=>(i.zero,i.size,i.bytes))=Xa (Xa (Xh Xd),1,1):=by kernel_rfl
def boE:Elt Bool where
 enc:=bov
 k:=1
 ty:=4
 st:=86
 bytes:=1
 zv:= Xh Xd
 zero:=false
 len:=fun _=>rfl
 one:=fun a u hu=>by
  simp only[bov,mC,nM,or_false]at hu;subst hu;rfl
 und:=underlying86
 info:=zqQ
 zok:=rfl
 few:=by decide
 pos:=by decide
def Jt (n:Nat) (g:List Int):List Bool:=(Yv n).map fun(i:Nat)=>g.contains (i:Int)
theorem za0 {n:Nat} (g:List Int) {i:Nat} (hi:i<n):(Jt n g)[i]? =Xa (g.contains (i:Int)):=by
 unfold Jt;rw[Ys,List.getElem?_range hi];rfl
theorem zaZ (n:Nat) (g):(Jt n g).length=n:=by simp[Jt]
theorem zly {n:Nat} (g) {i:Nat} (hi:i<n):(Jt n g).set i Xc=Jt n ((i:Int) :: g):=by
 apply Yo
 intro j
 by_cases e:j=i
 ·subst e;rw[sF (Rx zaZ hi),za0 _ hi]
  simp
 rw[sN (fun h=>e h.symm)]
 rcases Nat.lt_or_ge j n with a|a
 ·rw[za0 _ a,za0 _ a];have:¬((j:Int)=(i:Int)):=Wm
  simp[this]
 rw[gN (Rx zaZ a),gN (Rx zaZ a)]
theorem zlz (n:Nat):Jt n []=Xr n Xd:=by
 unfold Jt
 simp[List.map_const']
theorem zdM (v fs) (a:Int) (w) (d:qg w v fs):
  Xp prog 52 #[Xi #[v,I6 a]] w fun e w'=>e= Xl (I6 (stW fs a))/\zc w w':=by
 obtain⟨f,g,rfl,c,b⟩:=d.rows;have i:=dD b;have H:Xo (stW fs a=if fs.length<=5/\0<=a/\a<=80 then zcm a [] fs else 4):=rfl;clear b d
 generalize stW fs a=Z at H⊢
 obtain⟨z,an⟩:=kA fs.length;rw[an.out]at c H⊢;obtain⟨k,b⟩:=kB (w.alloc (Xk #[O f z g,I6 a] 37));have h:=gA b
 have u:=xA b
 have K:=dD b;clear b
 by_cases a7:z<=5
 ·have a8:¬(5:Int)< (z:Int):=Wm
  have b:decide ((5:Int)< (z:Int))=Xd:=decide_eq_false a8;have b:decide (5<z)=Xd:=decide_eq_false Wm
  by_cases ah:0<=a/\a<=80
  ·rw[kE ⟨a7,ah⟩]at H;obtain⟨m,rfl⟩:∃m:Nat,a=(m:Int):=⟨a.toNat,Wm⟩
   have b:m<=80:=Wm
   have W:¬(m:Int)<0:=Wm
   have aa:decide ((m:Int)<0)=Xd:=decide_eq_false W;have ab:¬(80:Int)< (m:Int):=Wm
   have b:decide ((80:Int)< (m:Int))=Xd:=decide_eq_false ab;clear ah
   go_enter func52,ntmps52
   go_upto_region 3 with fail;rw[K.out];have g:=u.c 0 rfl;have ae:=u.c 1 rfl
   go_wp2_with (refine jA boE rfl (.tmp 23) rfl m rfl (by show m*1<=_;omega) ?_)
   intro C f;rw[show Xr m boE.zero=Jt m []from(zlz m).symm]at f
   show wpList _ _ _ _ _ (k.alloc (Xk C 4))
   obtain⟨l,c⟩:=kB (k.alloc (Xk C 4));have d:zb boE k.heap.size (k.alloc (Xk C 4)) (O (Xa ⟨k.heap.size,0,Xb⟩) m m) (Jt m []):=f;have b:=gA c
   rw[c]at d⊢;obtain⟨x,T⟩:=kA k.heap.size;have j:Xo (zb boE k.heap.size l (O (Xa ⟨x,0,Xb⟩) m m) (Jt m [])):=dD<|Ry T.out d
   rw[T.out];clear c f d g ae;have g:=(u.grew b).c 0 rfl;have ae:=(u.grew b).c 1 rfl;go_wp2
   go_loopg [28] z (fun f c wr=>∃d:Nat,d<=z/\z - d<=f/\c=I6 d/\Xo (zc k wr)/\Xo (zb boE k.heap.size wr (O (Xa ⟨x,0,Xb⟩) m m) (Jt m (zbV [] (fs.take d))))/\Xo (zcm (m:Int) (zbV [] (fs.take d)) (fs.drop d)=zcm (m:Int) [] fs))
   exact⟨0,nZ _,Wm,rfl,b,j,rfl⟩
   obtain⟨d,b,b,rfl,al,l,ak⟩:=hrel;clear g ae
   by_cases X:d<z
   ·have ac:=kC X
    obtain⟨q,g⟩:∃q,Xo (fs[d]? =Xa q):=⟨_,gE (Rx an.out X)⟩
    obtain⟨b,rfl,r,s,f,j⟩:=i.out d q g.out;obtain⟨B,p⟩:=j wr (h.trans al);have c:=f.short;obtain⟨_,_,i,b⟩:=f.nums;cases i;have i:=dD b;obtain⟨A,n⟩:=kA q.bl.length;rw[n.out]at p c;clear j f b;have U:Xo (zcm (m:Int) (zbV [] (fs.take d)) (fs.drop d)=if flW (m:Int) (zbV [] (fs.take d)) q=0 then zcm (m:Int) (zbV [] (fs.take (d+1))) (fs.drop (d+1))else flW (m:Int) (zbV [] (fs.take d)) q):=show _=_ by
     rw[qS g.out,J3 g.out,zba];rfl
    have a4:Xo (zbV [] (fs.take (d+1))=blG (zbV [] (fs.take d)) q.bl):=dD<|by rw[J3 g.out,zba]
    have C:Xo (flW (m:Int) (zbV [] (fs.take d)) q=if 0<=q.size/\q.size<=96 then(if(q.bl.length:Int)=Jn q.size then blW (m:Int) (zbV [] (fs.take d)) q.bl else 2)else 3):=rfl;obtain⟨j,am⟩:=kA (zbV [] (fs.take d));rw[am.out]at U a4 C l;have f:∀c:Int,c≠0->flW (m:Int) j q=c->Z=c:=fun c I M=>by
     have y:=ak.out;rw[am.out,U.out,M,kF I]at y;rw[H.out,<-y]
    obtain⟨ag,b⟩:=kB (wr.alloc (Xk #[I6 q.size,O r A s] 65));have af:=gT b al
    have a0:=xA b
    have D:Xo (zb boE k.heap.size ag (O (Xa ⟨x,0,Xb⟩) m m) (Jt m j)):=dD<|by rw[<-b];exact l.grew (za _ _)
    have L:=dD b;clear b
    by_cases b:q.size<0
    ·have t:Xo (Z=3):=f 3 Dc (by rw[C.out,kF Wm])
     have s:=dD (h.trans af);clear f;go_wp2;rw[L.out];go_ret;exact⟨Rr t.out,s⟩
    have g:decide (q.size<0)=Xd:=decide_eq_false b
    by_cases b:96<q.size
    ·have t:Xo (Z=3):=f 3 Dc (by rw[C.out,kF Wm])
     have s:=dD (h.trans af);clear f;go_wp2;rw[L.out];go_ret;exact⟨Rr t.out,s⟩
    have g:decide (96<q.size)=Xd:=decide_eq_false b;have P:=fun b=>zbS q.size b Wm Wm
    by_cases r:(A:Int)=Jn q.size
    ·rw[<-r]at P;have aq:((A:Int) !=(A:Int))=Xd:=Sm
     have a3:Xo (flW (m:Int) j q=blW (m:Int) j q.bl):=dD<|by rw[C.out,kE Wm,n.out,kE r]
     clear r;have ai:=a0.c 0 rfl;have aj:=a0.c 1 rfl;go_upto_region 9 with fail;rw[L.out]
     go_quiet (first | (go_at_call 16;exact Calls.quiet_of_same (P _)))
     obtain⟨ao,l⟩:=kB (ag.drewN nq);have g:Xo (zc ag ao):=dD<|by rw[<-l];exact(show Below _ _ _ from bD (bR _ _) _)
     rw[l];clear l ai aj P B p;have ai:=(a0.grew g).c 0 rfl;have aj:=(a0.grew g).c 1 rfl;go_wp2
     go_loopg [50] A (fun F B p=>∃b:Nat,b<=A/\A - b<=F/\B=I6 b/\Xo (zc k p)/\Xo (zb boE k.heap.size p (O (Xa ⟨x,0,Xb⟩) m m) (Jt m (blG j (q.bl.take b))))/\Xo (blW (m:Int) (blG j (q.bl.take b)) (q.bl.drop b)=blW (m:Int) j q.bl))
     exact⟨0,nZ _,Wm,rfl,af.trans g,D.grew g,rfl⟩
     obtain⟨b,g,g,rfl,B,p,R⟩:=hrel;clear ai aj;have ae:=(u.grew B).c 1 rfl;have s:=dD (h.trans B)
     by_cases G:b<A
     ·have Y:=kC G
      obtain⟨u,F⟩:∃u,Xo (q.bl[b]? =Xa u):=⟨_,gE (Rx n.out G)⟩
      obtain⟨g,rfl,g⟩:=i.out b u F.out;have au:=g _ s.out;have D:Xo (blW (m:Int) (blG j (q.bl.take b)) (q.bl.drop b)=if Qe (m:Int) (blG j (q.bl.take b)) u=0 then blW (m:Int) (blG j (q.bl.take (b+1))) (q.bl.drop (b+1))else Qe (m:Int) (blG j (q.bl.take b)) u):=dD<|by
       rw[qS F.out,qe F.out,zcq];rfl
      have S:Xo (blG j (q.bl.take (b+1))=JP (blG j (q.bl.take b)) u):=dD<|by rw[qe F.out,zcq]
      clear g;obtain⟨V,i⟩:=kA (blG j (q.bl.take b));rw[i.out]at D S p;have g:∀c:Int,c≠0->Qe (m:Int) V u=c->Z=c:=fun c I M=>f c I (by
       have y:=R.out;rw[i.out,D.out,M,kF I]at y;rw[a3.out,<-y])
      have c:Qe (m:Int) V u=0->blW (m:Int) (blG j (q.bl.take (b+1))) (q.bl.drop (b+1))=blW (m:Int) j q.bl:=fun M=>by
       rw[<-R.out,i.out,D.out,kE M]
      rcases Jb (m:Int) V u with⟨y,a1,D⟩|⟨y,a1,D⟩|⟨i,y,a1,D,a6⟩|⟨i,y,a1,D,a6,a7⟩
      ·subst y;have a2:=dD<|c a1;have a5:Xo (zb boE k.heap.size _ (O (Xa ⟨x,0,Xb⟩) m m) (Jt m (blG j (q.bl.take (b+1))))):=show zb _ _ _ _ _ by rw[S.out,D];exact p.out
       have F:¬(m:Int)<=-1:=Wm
       have N:decide ((m:Int)<=-1)=Xd:=decide_eq_false F;clear f g c a1 D;go_wp2
       go_roundg (A -(b+1));exact⟨b+1,Wm,Wm,Gn,B,a5,a2⟩;omega
      ·have t:Xo (Z=3):=g 3 Dc D
       clear f g c D
       by_cases F:u< -1
       ·go_wp2;go_ret;exact⟨Rr t.out,s⟩
       have Q:decide (u< -1)=Xd:=decide_eq_false F;have N:(m:Int)<=u:=Wm
       clear a1;go_wp2;go_ret;exact⟨Rr t.out,s⟩
      ·subst y;have t:Xo (Z=7):=g 7 Dc a6
       have u:i<m:=Wm
       have F:¬(i:Int)< -1:=Wm
       have Q:decide ((i:Int)< -1)=Xd:=decide_eq_false F;have N:¬(m:Int)<=(i:Int):=Wm
       have a1:decide ((m:Int)<=(i:Int))=Xd:=decide_eq_false N;have a9:decide (m<=i)=Xd:=decide_eq_false Wm
       have ap:¬(i:Int)<0:=Wm
       have ar:wr.cell? ⟨x,i,Xb⟩=Xa (Xh Xc):=by
        have:=p.one (za0 V u) 0 _ rfl;rw[zS,Xu,zA,D]at this
        simpa [boE]using this
       clear f g c D a6;go_wp2;go_ret;exact⟨Rr t.out,s⟩
      subst y;have a2:=dD<|c a6;have u:i<m:=Wm
      have F:¬(i:Int)< -1:=Wm
      have Q:decide ((i:Int)< -1)=Xd:=decide_eq_false F;have N:¬(m:Int)<=(i:Int):=Wm
      have a1:decide ((m:Int)<=(i:Int))=Xd:=decide_eq_false N;have a9:decide (m<=i)=Xd:=decide_eq_false Wm
      have ap:¬(i:Int)<0:=Wm
      have ar:wr.cell? ⟨x,i,Xb⟩=Xa (Xh Xd):=by
       have:=p.one (za0 V u) 0 _ rfl;rw[zS,Xu,zA,D]at this
       simpa [boE]using this
      have y:=dD a7;clear f g c D a6 a7
      go_wp2_with (refine qF (E:=boE) rfl (.tmp 70) (.const (Xh Xc)) rfl k.heap.size _ (Jt m V) p x i rfl Xc ?t1 ⟨x,i,Xb⟩ rfl ?t2 (Xh Xc) rfl rfl ?_)
      case t1=>rw[zaZ];exact u
      case t2=>first | exact(Yp i).symm | (show _=Addr.mk x (i*1) Xb;rw[Yp])
      intro i g c _;have a5:Xo (zb boE k.heap.size i (O (Xa ⟨x,0,Xb⟩) m m) (Jt m (blG j (q.bl.take (b+1))))):=dD<|by rw[S.out,y.out,<-zly V u];exact g
      have u:Xo (zc k i):=dD<|zd B c (by rw[T.out];exact nR _)
      clear g c ar au ae;go_wp2
      go_roundg (A -(b+1));exact⟨b+1,Wm,Wm,Gn,u,a5,a2⟩;omega
     have Y:=kD G
     have:b=A:=Wm
     subst this;have I:flW (m:Int) j q=0:=by
      rw[a3.out,<-R.out,Xv (by rw[n.out];exact nR _)]
      rfl
     have a2:Xo (zcm (m:Int) (zbV [] (fs.take (d+1))) (fs.drop (d+1))=zcm (m:Int) [] fs):=dD<|by rw[<-ak.out,am.out,U.out,kE I]
     have a5:Xo (zb boE k.heap.size wr (O (Xa ⟨x,0,Xb⟩) m m) (Jt m (zbV [] (fs.take (d+1))))):=dD<|by
      rw[a4.out];have:=p.out;rw[Ya (by rw[n.out];exact nR _)]at this
      exact this
     clear f I;go_wp2
     go_roundg (z -(d+1));exact⟨d+1,Wm,Wm,Gn,B,a5,a2⟩;omega
    have t:Xo (Z=2):=f 2 Dc (by rw[C.out,kE Wm,n.out,kF r])
    have aq:((A:Int) != Jn q.size)=Xc:=Si r
    clear f r
    generalize Jn q.size=b at*
    have ai:=a0.c 0 rfl;have aj:=a0.c 1 rfl;go_upto_region 9 with fail;rw[L.out]
    go_quiet (first | (go_at_call 16;exact Calls.quiet_of_same (P _)))
    obtain⟨ao,l⟩:=kB (ag.drewN nq);have s:Xo (zc w ao):=dD<|by rw[<-l];exact(h.trans af).trans (show Below _ _ _ from bD (bR _ _) _)
    rw[l];clear l;go_wp2;go_ret;exact⟨Rr t.out,s⟩
   have ac:=kD X
   have:d=z:=Wm
   subst this;have t:Xo (Z=0):=dD<|by
    rw[H.out,<-ak.out,Xv (by rw[an.out];exact nR _)]
    rfl
   have s:=dD (h.trans al);go_wp2;go_ret;exact⟨Rr t.out,s⟩
  rw[kF (fun M=>ah M.2)]at H
  by_cases W:a<0
  ·go_enter func52,ntmps52
   go_wp2;rw[K.out];go_ret;exact⟨Rr H.out,h⟩
  have aa:decide (a<0)=Xd:=decide_eq_false W;have ab:80<a:=Wm
  clear ah
  go_enter func52,ntmps52
  go_wp2;rw[K.out];go_ret;exact⟨Rr H.out,h⟩
 rw[kF (fun M=>a7 M.1)]at H
 have a8:(5:Int)< (z:Int):=Wm
 go_enter func52,ntmps52
 go_wp2;rw[K.out];go_ret;exact⟨Rr H.out,h⟩
theorem zdL (vs:List Xq) (t:List (List En)) (w) (a:Je w vs t):
  Xp prog 54 #[Xi vs.toArray] w fun e w'=>e= Xl (I6 (tbW t))/\zc w w':=by
 have ao:=dD a;have d:=dD a.len;clear a;obtain⟨Z,af⟩:=kA (tbW t);rw[af.out];obtain⟨a,a⟩:=kB (w.alloc (Xk vs.toArray 72));have b:=gA a
 have f:=xA a
 have c:=dD a;clear a
 go_enter func54,ntmps54
 go_upto_region 1 with fail;rw[c.out]
 go_wp2_with (refine qt rfl (.tmp 1) rfl w.heap.size rfl f d.out ?_)
 go_loopg [9] 8 (fun a c wr=>∃l:Nat,l<=8/\8 - l<=a/\c=I6 l/\Xo (zc w wr)/\Xo (tbW (t.drop l)=tbW t))
 exact⟨0,nZ _,Wm,rfl,b,rfl⟩
 obtain⟨l,a,a,rfl,ab,ac⟩:=hrel
 by_cases d:l<8
 ·have a8:(l:Int)<8:=Wm
  obtain⟨a,a,q,h,c,g⟩:=ao.half d;have i:=dD h;have b:=g.short;obtain⟨_,_,f,a⟩:=g.ens;cases f;have an:=dD a;obtain⟨nq,f⟩:=kA q.length;rw[f.out]at c b;have b:=dD c;have r:Xo (tbW (t.drop l)=if haW q=0 then tbW (t.drop (l+1))else haW q):=show _=_ by rw[qS i.out,ziw]
  have C:Xo (∀z:Int,z≠0->haW q=z->Z=z):=dD<|fun z A i=>by
   have P:=ac.out;rw[r.out,i,kF A]at P;rw[<-af.out,<-P]
  have E:Xo (haW q=0->tbW (t.drop (l+1))=tbW t):=dD<|fun i=>by rw[<-ac.out,r.out,kE i]
  clear a g h c
  go_upto_region 4 with(refine zcx rfl (.tmp 8) (.tmp 9) rfl vs rfl l rfl d b.out ?_)
  by_cases N:nq=0
  ·have I:((nq:Int) != 0)=Xd:=by simp[N]
   have a4:((nq:Int) == 8)=Xd:=by simp[N]
   have aa:=dD N;clear N;have D:Xo (∀z:Int,z≠0->esW q=z->Z=z):=show∀z:Int,_ from fun z A i=>by
    have:q=[]:=List.length_eq_zero_iff.1 (Rx f.out aa)
    rw[this]at i;exact absurd i.symm A
   go_wp2
   go_loopg [5,22] nq (fun ai am X Y=>∃(c g:Nat),c<=nq/\nq - c<=ai/\X=I6 c/\am=I6 g/\g<=c/\Xo (zc w Y)/\Xo (esW (q.drop c)=esW q)/\Xo (g=0↔Zn (q.take c)=Xd))
   exact⟨0,0,nZ _,Wm,rfl,rfl,nR _,ab,rfl,show(0=0↔Zn (q.take 0)=Xd)from by simp[Zn]⟩
   obtain⟨c,g,a6,ak,rfl,rfl,aj,n,u,a0⟩:=hrel
   by_cases h:c<nq
   ·have x:=kC h
    obtain⟨M,W⟩:∃M,q[c]? =Xa M:=⟨_,gE (Rx f.out h)⟩
    obtain⟨ap,rfl,F⟩:=an.out c M W;obtain⟨a1,a2,a3⟩:=F wr n.out;obtain⟨k,m,s⟩:=M;have L:=dD W;simp only at a1 a2 a3;have r:Xo (esW (q.drop c)=if enW ⟨k,m,s⟩=0 then esW (q.drop (c+1))else enW ⟨k,m,s⟩):=show _=_ by rw[qS L.out,zfk]
    have b:∀z:Int,z≠0->enW ⟨k,m,s⟩=z->Z=z:=fun z A i=>by
     have P:=u.out;rw[r.out,i,kF A]at P;exact D.out z A P.symm
    have a:enW ⟨k,m,s⟩=0->esW (q.drop (c+1))=esW q:=fun i=>by
     rw[<-u.out,r.out,kE i]
    clear F W;go_upto_region 10 with fail;obtain⟨al,y⟩:=kB wr.heap.size;obtain⟨ah,j⟩:=kB (wr.alloc (Xk #[I6 k,I6 m,Xh s] 75));have K:=gT j n
    have p:=dD K.out;have ag:Xo (Box ah al [I6 k,I6 m,Xh s]):=show Box _ _ _ by rw[<-j];exact Box.top _ _ _ y.symm
    rw[j];rw[y];clear j y a1 a2 a3;obtain⟨ar,au,av⟩:=ag.c3
    by_cases R:k<0
    ·have d:Xo (Z=1):=b 1 Dc (zbd (by simp only;omega))
     clear b a;go_wp2;go_ret;exact⟨Rr d.out,p⟩
    have a5:decide (k<0)=Xd:=decide_eq_false R
    by_cases S:2<k
    ·have d:Xo (Z=1):=b 1 Dc (zbd (by simp only;omega))
     clear b a;go_wp2;go_ret;exact⟨Rr d.out,p⟩
    have a7:decide (2<k)=Xd:=decide_eq_false S
    by_cases T:m<0
    ·have d:Xo (Z=3):=b 3 Dc (Zk (by simp only;omega) (by simp only;omega))
     clear b a;go_wp2;go_ret;exact⟨Rr d.out,p⟩
    have a9:decide (m<0)=Xd:=decide_eq_false T
    by_cases H:59<m
    ·have d:Xo (Z=3):=b 3 Dc (Zk (by simp only;omega) (by simp only;omega))
     clear b a;go_wp2;go_ret;exact⟨Rr d.out,p⟩
    have V:decide (59<m)=Xd:=decide_eq_false H;obtain rfl|rfl|rfl:k=0\/k=1\/k=2:=Wm
    ·by_cases aq:0<m
     ·have d:Xo (Z=7):=b 7 Dc (JV (by simp only;omega) (by simp only;omega) (.inl ⟨rfl,.inl (by simp only;omega)⟩))
      clear b a;go_wp2;go_ret;exact⟨Rr d.out,p⟩
     obtain rfl:m=0:=Wm
     cases s with
     | true=>
      have d:Xo (Z=7):=b 7 Dc (JV (by simp only;omega) (by simp only;omega) (.inl ⟨rfl,.inr rfl⟩))
      clear b a;go_wp2;go_ret;exact⟨Rr d.out,p⟩
     | false=>
      have v:Xo (esW (q.drop (c+1))=esW q):=a (Zy (by simp only;omega) (by simp only;omega) Sm)
      have B:Xo (Zn (q.take (c+1))=Zn (q.take c)):=dD<|by
       rw[qe L.out];unfold Zn;rw[Yc]
       simp[enS]
      clear b a;go_wp2
      go_roundg (nq -(c+1));exact⟨c+1,g,Wm,Wm,Gn,Gn,Wm,K,v,Rx B.out a0⟩;omega
    ·by_cases G:39<m
     ·have d:Xo (Z=3):=b 3 Dc (Zk (by simp only;omega) (fun i=>by have:=i.2.2 rfl;simp only at this;omega))
      clear b a;go_wp2;go_ret;exact⟨Rr d.out,p⟩
     have U:decide (39<m)=Xd:=decide_eq_false G;have v:Xo (esW (q.drop (c+1))=esW q):=a (Zy (by simp only;omega) (by simp only;omega) Sm)
     have B:Xo (Zn (q.take (c+1))=Xc):=dD<|by
      rw[qe L.out];unfold Zn;rw[Yc]
      simp[enS]
     clear b a;go_wp2
     go_roundg (nq -(c+1));exact⟨c+1,g+1,Wm,Wm,Gn,Gn,Wm,K,v,show(g+1=0↔Zn (q.take (c+1))=Xd)from by rw[B.out];simp⟩;omega
    cases s with
    | true=>
     have d:Xo (Z=7):=b 7 Dc (JV (by simp only;omega) (by simp only;omega) (.inr ⟨rfl,rfl⟩))
     clear b a;go_wp2;go_ret;exact⟨Rr d.out,p⟩
    | false=>
     have v:Xo (esW (q.drop (c+1))=esW q):=a (Zy (by simp only;omega) (by simp only;omega) Sm)
     have B:Xo (Zn (q.take (c+1))=Xc):=dD<|by
      rw[qe L.out];unfold Zn;rw[Yc]
      simp[enS]
     clear b a;go_wp2
     go_roundg (nq -(c+1));exact⟨c+1,g+1,Wm,Wm,Gn,Gn,Wm,K,v,show(g+1=0↔Zn (q.take (c+1))=Xd)from by rw[B.out];simp⟩;omega
   have x:=kD h
   have:c=nq:=Wm
   subst this;have Q:Xo (esW q=0):=dD<|by
    rw[<-u.out,Xv (by rw[f.out];exact nR _)]
    rfl
   have ae:Xo (g=0↔Zn q=Xd):=dD<|by
    have:=a0.out;rw[Ya (by rw[f.out];exact nR _)]at this
    exact this
   have v:Xo (tbW (t.drop (l+1))=tbW t):=E.out (by unfold haW;rw[kE (Rx f.out aa)])
   go_wp2
   go_roundg (8 -(l+1));exact⟨l+1,Wm,Wm,Gn,n,v⟩;omega
  have I:((nq:Int) != 0)=Xc:=Si N
  by_cases I:nq=8
  ·have aa:((nq:Int) != 8)=Xd:=by simp[I]
   have a4:((nq:Int) == 8)=Xc:=by simp[I]
   have a4:=dD I;clear N I;have D:Xo (∀z:Int,z≠0->esW q=z->Z=z):=show∀z:Int,_ from fun z A i=>C.out z A (by rw[zlM (Rx f.out a4),kF (Rx i A)];exact i)
   go_wp2
   go_loopg [5,22] nq (fun ai am X Y=>∃(c g:Nat),c<=nq/\nq - c<=ai/\X=I6 c/\am=I6 g/\g<=c/\Xo (zc w Y)/\Xo (esW (q.drop c)=esW q)/\Xo (g=0↔Zn (q.take c)=Xd))
   exact⟨0,0,nZ _,Wm,rfl,rfl,nR _,ab,rfl,show(0=0↔Zn (q.take 0)=Xd)from by simp[Zn]⟩
   obtain⟨c,g,a6,ak,rfl,rfl,aj,n,u,a0⟩:=hrel
   by_cases h:c<nq
   ·have x:=kC h
    obtain⟨M,W⟩:∃M,q[c]? =Xa M:=⟨_,gE (Rx f.out h)⟩
    obtain⟨ap,rfl,F⟩:=an.out c M W;obtain⟨a1,a2,a3⟩:=F wr n.out;obtain⟨k,m,s⟩:=M;have L:=dD W;simp only at a1 a2 a3;have r:Xo (esW (q.drop c)=if enW ⟨k,m,s⟩=0 then esW (q.drop (c+1))else enW ⟨k,m,s⟩):=show _=_ by rw[qS L.out,zfk]
    have b:∀z:Int,z≠0->enW ⟨k,m,s⟩=z->Z=z:=fun z A i=>by
     have P:=u.out;rw[r.out,i,kF A]at P;exact D.out z A P.symm
    have a:enW ⟨k,m,s⟩=0->esW (q.drop (c+1))=esW q:=fun i=>by
     rw[<-u.out,r.out,kE i]
    clear F W;go_upto_region 10 with fail;obtain⟨al,y⟩:=kB wr.heap.size;obtain⟨ah,j⟩:=kB (wr.alloc (Xk #[I6 k,I6 m,Xh s] 75));have K:=gT j n
    have p:=dD K.out;have ag:Xo (Box ah al [I6 k,I6 m,Xh s]):=show Box _ _ _ by rw[<-j];exact Box.top _ _ _ y.symm
    rw[j];rw[y];clear j y a1 a2 a3;obtain⟨ar,au,av⟩:=ag.c3
    by_cases R:k<0
    ·have d:Xo (Z=1):=b 1 Dc (zbd (by simp only;omega))
     clear b a;go_wp2;go_ret;exact⟨Rr d.out,p⟩
    have a5:decide (k<0)=Xd:=decide_eq_false R
    by_cases S:2<k
    ·have d:Xo (Z=1):=b 1 Dc (zbd (by simp only;omega))
     clear b a;go_wp2;go_ret;exact⟨Rr d.out,p⟩
    have a7:decide (2<k)=Xd:=decide_eq_false S
    by_cases T:m<0
    ·have d:Xo (Z=3):=b 3 Dc (Zk (by simp only;omega) (by simp only;omega))
     clear b a;go_wp2;go_ret;exact⟨Rr d.out,p⟩
    have a9:decide (m<0)=Xd:=decide_eq_false T
    by_cases H:59<m
    ·have d:Xo (Z=3):=b 3 Dc (Zk (by simp only;omega) (by simp only;omega))
     clear b a;go_wp2;go_ret;exact⟨Rr d.out,p⟩
    have V:decide (59<m)=Xd:=decide_eq_false H;obtain rfl|rfl|rfl:k=0\/k=1\/k=2:=Wm
    ·by_cases aq:0<m
     ·have d:Xo (Z=7):=b 7 Dc (JV (by simp only;omega) (by simp only;omega) (.inl ⟨rfl,.inl (by simp only;omega)⟩))
      clear b a;go_wp2;go_ret;exact⟨Rr d.out,p⟩
     obtain rfl:m=0:=Wm
     cases s with
     | true=>
      have d:Xo (Z=7):=b 7 Dc (JV (by simp only;omega) (by simp only;omega) (.inl ⟨rfl,.inr rfl⟩))
      clear b a;go_wp2;go_ret;exact⟨Rr d.out,p⟩
     | false=>
      have v:Xo (esW (q.drop (c+1))=esW q):=a (Zy (by simp only;omega) (by simp only;omega) Sm)
      have B:Xo (Zn (q.take (c+1))=Zn (q.take c)):=dD<|by
       rw[qe L.out];unfold Zn;rw[Yc]
       simp[enS]
      clear b a;go_wp2
      go_roundg (nq -(c+1));exact⟨c+1,g,Wm,Wm,Gn,Gn,Wm,K,v,Rx B.out a0⟩;omega
    ·by_cases G:39<m
     ·have d:Xo (Z=3):=b 3 Dc (Zk (by simp only;omega) (fun i=>by have:=i.2.2 rfl;simp only at this;omega))
      clear b a;go_wp2;go_ret;exact⟨Rr d.out,p⟩
     have U:decide (39<m)=Xd:=decide_eq_false G;have v:Xo (esW (q.drop (c+1))=esW q):=a (Zy (by simp only;omega) (by simp only;omega) Sm)
     have B:Xo (Zn (q.take (c+1))=Xc):=dD<|by
      rw[qe L.out];unfold Zn;rw[Yc]
      simp[enS]
     clear b a;go_wp2
     go_roundg (nq -(c+1));exact⟨c+1,g+1,Wm,Wm,Gn,Gn,Wm,K,v,show(g+1=0↔Zn (q.take (c+1))=Xd)from by rw[B.out];simp⟩;omega
    cases s with
    | true=>
     have d:Xo (Z=7):=b 7 Dc (JV (by simp only;omega) (by simp only;omega) (.inr ⟨rfl,rfl⟩))
     clear b a;go_wp2;go_ret;exact⟨Rr d.out,p⟩
    | false=>
     have v:Xo (esW (q.drop (c+1))=esW q):=a (Zy (by simp only;omega) (by simp only;omega) Sm)
     have B:Xo (Zn (q.take (c+1))=Xc):=dD<|by
      rw[qe L.out];unfold Zn;rw[Yc]
      simp[enS]
     clear b a;go_wp2
     go_roundg (nq -(c+1));exact⟨c+1,g+1,Wm,Wm,Gn,Gn,Wm,K,v,show(g+1=0↔Zn (q.take (c+1))=Xd)from by rw[B.out];simp⟩;omega
   have x:=kD h
   have:c=nq:=Wm
   subst this;have Q:Xo (esW q=0):=dD<|by
    rw[<-u.out,Xv (by rw[f.out];exact nR _)]
    rfl
   have ae:Xo (g=0↔Zn q=Xd):=dD<|by
    have:=a0.out;rw[Ya (by rw[f.out];exact nR _)]at this
    exact this
   by_cases a:g=0
   ·have d:Xo (Z=2):=C.out 2 Dc (by rw[zlM (Rx f.out a4),Q,kE rfl,ae.1 a];rfl)
    have b:((g:Int) == 0)=Xc:=Si a
    clear a;go_wp2;go_ret;exact⟨Rr d.out,n⟩
   have v:Xo (tbW (t.drop (l+1))=tbW t):=E.out (by
    rw[zlM (Rx f.out a4),Q,kE rfl]
    cases c:Zn q with
    | true=>rfl
    | false=>exact absurd (ae.2 c) a)
   have b:((g:Int) == 0)=Xd:=Si a
   clear a;go_wp2
   go_roundg (8 -(l+1));exact⟨l+1,Wm,Wm,Gn,n,v⟩;omega
  have aa:((nq:Int) != 8)=Xc:=by simp;omega
  have d:Xo (Z=2):=C.out 2 Dc (by unfold haW;rw[kF (Rx f.out N),kF (Rx f.out I)])
  clear N I;go_wp2;go_ret;exact⟨Rr d.out,ab⟩
 have a8:¬(l:Int)<8:=Wm
 have:l=8:=Wm
 subst this;have d:Xo (Z=0):=dD<|by
  rw[<-af.out,<-ac.out,Xv (by rw[ao.tlen];exact nR _)]
  rfl
 go_wp2;go_ret;exact⟨Rr d.out,ab⟩
def Jl (m:Ma) (kind k:Int) (p:Nat):Nat:=qP ((m.sp.take p).map zm) kind k
theorem zhO {kind k:Int} {p:Nat} {s:Sp} (h:m.sp[p]? =Xa s):Jl m kind k (p+1)=Jl m kind k p+jL (zm s) kind k 64:=by
 unfold Jl qP;rw[Yt,h];simp
theorem zef {kind k:Int}:Jl m kind k m.sp.length=Zu m kind k:=by
 unfold Jl Zu;rw[List.take_length]
theorem zgv {kind k:Int} (p:Nat):Jl m kind k p<=64*p:=by
 have:=zbD ((m.sp.take p).map zm) kind k;simp only[List.length_map,List.length_take]at this;unfold Jl;omega
theorem zdN (V) (m:Ma) (kind k:Int) (w) (hm:zy w V m) (h4:m.sp.length<=4) (h8:∀s∈m.sp,∀h∈s.tb,h.length<=8):
  Xp prog 30 #[Xi (mL V m).toArray,I6 kind,I6 k] w fun e w'=>e= Xl (I6 (Zu m kind k:Int))/\zc w w':=by
 obtain⟨-,-,-,-,-,-,-,-,n9⟩:=hm.ns;obtain⟨xs,hxl,hrow,hsp⟩:=hm.spaces;have HR:=dD hrow
 have HS:=dD hsp
 obtain⟨N,HN⟩:=kA m.sp.length;have hN4:N<=4:=Ry HN.out h4
 have HXL:Xo (xs.length=N):=dD<|Rx hxl HN.out
 have H8:=dD h8
 obtain⟨vf,vs,vsb,vsq,vdb,vdq,vfl,vca,⟨spa,spn,spc⟩⟩:=V;dsimp only[mL]at n9 HR⊢;obtain rfl:spn=N:=Rx n9 HN.out
 clear hm hrow hsp hxl n9 h8 h4;obtain⟨W0,hW0⟩:=kB (w.alloc (Xk #[vf.x,I6 m.hand,vs.x,vsb.x,vsq.x,vdb.x,vdq.x,vfl.x,I6 m.cnt,vca.x,O spa spn spc] 41));have HG0:=gA hW0
 have HW0:Xo (_=W0):=hW0;have X0:=xA hW0
 clear hW0
 go_enter func30,ntmps30
 go_upto_region 2 with fail;rw[HW0.out];have x10:=X0.c 10 rfl;go_wp2;clear x10
 go_loopg [7,15] spn (fun gg s7 s15 wr=>∃p:Nat,p<=spn/\spn - p<=gg/\s15=I6 p/\s7=I6 (Jl m kind k p:Int)/\Xo (zc w wr))
 exact⟨0,nZ _,Wm,rfl,rfl,HG0⟩
 obtain⟨p,hp,hg,rfl,rfl,GW⟩:=hrel
 by_cases hlt:p<spn
 ·have hltz:=kC hlt
  obtain⟨x,hx⟩:∃x,xs[p]? =Xa x:=⟨_,gE (Rx HXL.out hlt)⟩
  obtain⟨s,hs⟩:∃s,m.sp[p]? =Xa s:=⟨_,gE (Rx HN.out hlt)⟩
  have HAT:=dD<|HS.out p x s hx hs;have HSS:=dD hs;obtain⟨ad,rfl,hl⟩:=HR.out p x hx;have hcl:=hl wr GW.out;obtain⟨d0,d1,d2,d3,d4,d5,d6,d7,d8,d9⟩:=hcl;clear hl hx hs;have HF64:Xo (∀j,j<64->(JT s.tb)[j]? =Xa (zm s j)):=show∀j,_ from fun j hj=>zcn s.tb hj
  have hfl:∀W,zc w W->Xp prog 28 #[Xi #[x.t0.x,x.t1.x,x.t2.x,x.t3.x,x.t4.x,x.t5.x,x.t6.x,x.t7.x]] W fun e w'=>e= Xl (Xi (qr (JT s.tb)).toArray)/\zc W w':=fun W hW=>zbG x.tab s.tb W ((HAT.grew hW).tb) (H8 s (mG HSS))
  have HFL:=dD hfl
  clear hfl;have hb0:=zgv (m:=m) (kind:=kind) (k:=k) p;have HSU:Xo (Jl m kind k (p+1)=Jl m kind k p+jL (zm s) kind k 64):=zhO HSS.out;obtain⟨H0,hH0⟩:=kB (Jl m kind k p);rw[hH0]at hb0 HSU⊢;clear hH0;go_upto_region 5 with fail;obtain⟨W1,hW1⟩:=kB (wr.alloc (Xk #[Xh x.live,x.ar.x,x.t0.x,x.t1.x,x.t2.x,x.t3.x,x.t4.x,x.t5.x,x.t6.x,x.t7.x] 79));have G1:=gT hW1 GW
  have S1:=xA hW1
  rw[hW1];clear hW1 d0 d1 d2 d3 d4 d5 d6 d7 d8 d9;have s2:=S1.c 2 rfl;have s3:=S1.c 3 rfl;have s4:=S1.c 4 rfl;have s5:=S1.c 5 rfl;have s6:=S1.c 6 rfl;have s7:=S1.c 7 rfl;have s8:=S1.c 8 rfl;have s9:=S1.c 9 rfl;go_wp2_with fail;refine(HFL W1 G1).mono ?_;clear s2 s3 s4 s5 s6 s7 s8 s9;rintro e W2 ⟨rfl,g2⟩;have G2:=dD (G1.trans g2);clear g2;go_wp2
  go_loopg [7,22] 64 (fun gg s7 s22 wr=>∃n:Nat,n<=64/\64 - n<=gg/\s22=I6 n/\s7=I6 ((H0+jL (zm s) kind k n:Nat):Int)/\Xo (zc w wr))
  exact⟨0,nZ _,Wm,rfl,rfl,G2⟩
  obtain⟨n,hn,hg2,rfl,rfl,GW2⟩:=hrel
  by_cases hlt2:n<64
  ·have hltz2:(n:Int)<64:=Wm
   obtain⟨e,HE⟩:=kA (zm s n);have HZF:Xo ((JT s.tb)[n]? =Xa e):=dD<|by rw[HF64.out n hlt2,HE.out]
   have hcl:=zmr (zm s) kind k n;have HCS:Xo (jL (zm s) kind k (n+1)=jL (zm s) kind k n+(isE e kind k).toNat):=dD<|by rw[<-HE.out];rfl
   obtain⟨c0,hc0⟩:=kB (jL (zm s) kind k n);rw[hc0]at hcl HCS⊢;clear hc0
   go_upto_region 8 with(refine zaL rfl (.tmp 21) (.tmp 22) rfl (JT s.tb) rfl n rfl hlt2 HZF.out ?_)
   obtain⟨W3,hW3⟩:=kB (wr.alloc (Xk #[I6 e.kind,I6 e.n,Xh e.wr] 75));have G3:=gT hW3 GW2
   have E3:=xA hW3
   rw[hW3];clear hW3;have e0:=E3.c 0 rfl;have e1:=E3.c 1 rfl
   by_cases h1:e.kind=kind
   ·have h1e:(e.kind == kind)=Xc:=by simp[h1]
    by_cases h2:e.n=k
    ·have h2e:(e.n == k)=Xc:=by simp[h2]
     have HV:Xo (jL (zm s) kind k (n+1)=c0+1):=dD<|by rw[HCS.out];simp[isE,h1,h2]
     clear h1 h2;go_wp2
     go_roundg (64 -(n+1));exact⟨n+1,Wm,Wm,Gn,by rw[HV.out];go_num,G3⟩;omega
    have h2e:(e.n == k)=Xd:=by simp[h2]
    have HV:Xo (jL (zm s) kind k (n+1)=c0):=dD<|by rw[HCS.out];simp[isE,h2]
    clear h1 h2;go_wp2
    go_roundg (64 -(n+1));exact⟨n+1,Wm,Wm,Gn,by rw[HV.out];go_num,G3⟩;omega
   have h1e:(e.kind == kind)=Xd:=by simp[h1]
   have HV:Xo (jL (zm s) kind k (n+1)=c0):=dD<|by rw[HCS.out];simp[isE,h1]
   clear h1;go_wp2
   go_roundg (64 -(n+1));exact⟨n+1,Wm,Wm,Gn,by rw[HV.out];go_num,G3⟩;omega
  have hltz2:¬(n:Int)<64:=Wm
  obtain rfl:n=64:=Wm
  go_wp2
  go_roundg (spn -(p+1));exact⟨p+1,Wm,Wm,Gn,by rw[HSU.out];go_num,GW2⟩;omega
 have hltz:=kD hlt
 obtain rfl:p=spn:=Wm
 have HF:Xo (Jl m kind k p=Zu m kind k):=dD<|Ry HN.out zef
 rw[HF.out];go_wp2;go_ret;exact⟨rfl,GW⟩
def zp2 (mi it sh ew xw big:Bool):Bool:=(!mi && !it) || (sh && !it) || (ew && !xw) || (ew && it && !sh) || (ew && mi && big)
theorem zpX {x:On} {e:En} {q:Fr} (h:x.is=Xc) (i:¬e.kind=2) (j:¬(m.fs.length:Int)<=e.n) (k:zU m e.n=q):Jm m x e=if zp2 (q.f == -1) (decide (0<=x.file) &&(q.f == x.file) &&(q.x == x.page)) x.sh e.wr x.wr (decide (1<q.r))=Xc then 7 else 0:=by
 have f:zp2 (q.f == -1) (decide (0<=x.file) &&(q.f == x.file) &&(q.x == x.page)) x.sh e.wr x.wr (decide (1<q.r))=Xc↔((¬q.f=-1/\¬(0<=x.file/\q.f=x.file/\q.x=x.page))\/(x.sh=Xc/\¬(0<=x.file/\q.f=x.file/\q.x=x.page))\/(e.wr=Xc/\x.wr=Xd)\/(e.wr=Xc/\(0<=x.file/\q.f=x.file/\q.x=x.page)/\x.sh=Xd)\/(e.wr=Xc/\q.f=-1/\1<q.r)):=by
  have c:(decide (0<=x.file) &&(q.f == x.file) &&(q.x == x.page))=Xc↔(0<=x.file/\q.f=x.file/\q.x=x.page):=by simp[and_assoc]
  have d:(q.f == -1)=Xc↔q.f=-1:=Sm
  generalize a:decide (1<q.r)=g
  have b:g=Xc↔1<q.r:=by rw[<-a];simp
  rw[<-c,<-d,<-b];clear c d b a
  generalize(decide (0<=x.file) &&(q.f == x.file) &&(q.x == x.page))=it
  generalize(q.f == -1)=mi
  generalize x.sh=c
  generalize e.wr=b
  generalize x.wr=d
  cases mi <;> cases it <;> cases c <;> cases b <;> cases d <;> cases g <;> decide
 unfold Jm;rw[kF (by rw[h];decide),kF i,kF j,k]
 by_cases a:zp2 (q.f == -1) (decide (0<=x.file) &&(q.f == x.file) &&(q.x == x.page)) x.sh e.wr x.wr (decide (1<q.r))=Xc
 ·rw[kE a,kE (f.1 a)]
 rw[kF a,kF (fun h=>a (f.2 h))]
theorem zfZ (V m) (x:On) (e:En) (w) (ab:zy w V m) (bo:0<=e.n):
  Xp prog 29 #[Xi (mL V m).toArray,Xi #[Xh x.is,Xh x.rd,Xh x.wr,Xh x.sh,I6 x.file,I6 x.page],Xi #[I6 e.kind,I6 e.n,Xh e.wr]] w fun bd w'=>bd= Xl (I6 (Jm m x e))/\zc w w':=by
 obtain⟨ar,au,-⟩:=ab.ns;have F:=dD ab.frs;obtain⟨⟨ao,bb,ap⟩,⟨av,bf,aw⟩,R,T,N,P,Q,M,S⟩:=V;dsimp only[mL]at ar au F⊢;obtain rfl:bb=m.fs.length:=ar;obtain rfl:bf=m.sl.length:=au;obtain⟨E,n⟩:=kA m.fs.length;obtain⟨K,s⟩:=kA m.sl.length;rw[n.out,s.out];clear ab;obtain⟨j,b⟩:=kA (Jm m x e);rw[b.out];obtain⟨t,g⟩:=kB (((w.alloc (Xk #[O ao E ap,I6 m.hand,O av K aw,R.x,T.x,N.x,P.x,Q.x,I6 m.cnt,M.x,S.x] 41)).alloc (Xk #[Xh x.is,Xh x.rd,Xh x.wr,Xh x.sh,I6 x.file,I6 x.page] 81)).alloc (Xk #[I6 e.kind,I6 e.n,Xh e.wr] 75));have r:Xo (zc w t):=show zc _ _ by rw[<-g];exact((za _ _).trans (za _ _)).trans (za _ _)
 have am:Xo (Box t w.heap.size [O ao E ap,I6 m.hand,O av K aw,R.x,T.x,N.x,P.x,Q.x,I6 m.cnt,M.x,S.x]):=dD<|by rw[<-g];exact((Box.top _ _ _ rfl).alloc _).alloc _
 have u:Xo (Box t (w.heap.size+1) [Xh x.is,Xh x.rd,Xh x.wr,Xh x.sh,I6 x.file,I6 x.page]):=dD<|by rw[<-g];exact(Box.top _ _ _ Sm).alloc _
 have an:Xo (Box t (w.heap.size+2) [I6 e.kind,I6 e.n,Xh e.wr]):=dD<|by rw[<-g];exact Box.top _ _ _ Sm
 have a2:=dD g;clear g
 go_enter func29,ntmps29
 go_upto_region 1 with fail;rw[a2.out];have bi:=am.c 0 rfl;have bj:=am.c 2 rfl;have ah:=u.c 0 rfl;have bk:=u.c 1 rfl;have ai:=u.c 2 rfl;have U:=u.c 3 rfl;have aj:=u.c 4 rfl;have ak:=u.c 5 rfl;obtain⟨bl,ay,al⟩:=an.c3
 cases f:x.is with
 | false=>
  have a:Xo (j=5):=dD<|by rw[<-b.out];unfold Jm;rw[kE f]
  rw[f]at ah;go_wp2;go_ret;exact⟨Rr a.out,r⟩
 | true=>
  rw[f]at ah
  by_cases v:e.kind=2
  ·have a8:(e.kind == 2)=Xc:=by simp[v]
   by_cases k:(K:Int)<=e.n
   ·have p:decide ((K:Int)<=e.n)=Xc:=Si k
    have a:Xo (j=7):=dD<|by rw[<-b.out];unfold Jm;rw[kF (by rw[f];decide),kE v,kE (.inl (Rx s.out k))]
    go_wp2;go_ret;exact⟨Rr a.out,r⟩
   have p:decide ((K:Int)<=e.n)=Xd:=Si k
   have a:Xo (j=if x.sh=Xc then 7 else 0):=dD<|by
    rw[<-b.out];unfold Jm;rw[kF (by rw[f];decide),kE v]
    by_cases Z:x.sh=Xc
    ·rw[kE Z,kE (.inr Z)]
    rw[kF Z,kF (by rintro(a7 | a7) <;> first | exact k (Ry s.out a7) | exact Z a7)]
   cases i:x.sh with
   | true=>
    rw[i]at U a;go_wp2;go_ret;exact⟨Rr a.out,r⟩
   | false=>
    rw[i]at U a;go_wp2;go_ret;exact⟨Rr a.out,r⟩
  have a8:(e.kind == 2)=Xd:=by simp[v]
  by_cases k:(E:Int)<=e.n
  ·have p:decide ((E:Int)<=e.n)=Xc:=Si k
   have a:Xo (j=3):=dD<|by rw[<-b.out];unfold Jm;rw[kF (by rw[f];decide),kF v,kE (Rx n.out k)]
   go_wp2;go_ret;exact⟨Rr a.out,r⟩
  have p:decide ((E:Int)<=e.n)=Xd:=Si k
  have ac:e.n< (E:Int):=Wm
  obtain⟨I,Y⟩:∃I:Nat,e.n=(I:Int):=⟨e.n.toNat,Wm⟩
  obtain⟨q,ae⟩:∃q,m.fs[I]? =Xa q:=⟨_,gE (by rw[n.out];omega)⟩
  obtain⟨bn,rfl,aq⟩:=F.out I q ae;have aa:=aq t r.out;have a:Xo (j=if zp2 (q.f == -1) (decide (0<=x.file) &&(q.f == x.file) &&(q.x == x.page)) x.sh e.wr x.wr (decide (1<q.r))=Xc then 7 else 0):=dD<|by rw[<-b.out];exact zpX f v (Rx n.out k) (by rw[Y];exact qp ae)
  obtain⟨b1,b2,b3,b4,b5,b6,b7,b8,b9,ba,a4,a5,a6⟩:=aa;rw[Y]at ay ac p k;have bm:=dD Y;clear aq ae v f Y;go_upto_region 10 with fail;obtain⟨az,h⟩:=kB (t.alloc (Xk #[U8 q.p.b0,U8 q.p.b1,U8 q.p.b2,U8 q.p.b3,U8 q.p.b4,U8 q.p.b5,U8 q.p.b6,U8 q.p.b7,I6 q.r,Xh q.u,Xh q.d,I6 q.f,I6 q.x] 62));obtain⟨bp,G⟩:=kA t.heap.size;have d:=gT h r
  have a3:=xP h G
  have W:=yA h u
  have b0:=yA h an
  rw[h,G.out];clear h b1 b2 b3 b4 b5 b6 b7 b8 b9 ba a4 a5 a6 bi bj ah bk ai U aj ak bl ay al;have bq:=a3.c 8 rfl;have af:=a3.c 11 rfl;have ag:=a3.c 12 rfl;have ai:=W.c 2 rfl;have U:=W.c 3 rfl;have aj:=W.c 4 rfl;have ak:=W.c 5 rfl;have al:=b0.c 2 rfl;go_upto_region 11 with fail;obtain⟨B,l⟩:=kA (decide (0<=x.file) &&(q.f == x.file) &&(q.x == x.page));rw[l.out]at a
  go_cut [9] (fun be bh=>be= Xh B/\bh=az)
  case first=>
   by_cases L:0<=x.file
   ·have C:decide ((0:Int)<=x.file)=Xc:=Si L
    by_cases a0:q.f=x.file
    ·have D:(q.f == x.file)=Xc:=by simp[a0]
     have H:Xo ((q.x == x.page)=B):=dD<|by rw[<-l.out,C,D];rfl
     clear L a0;go_wp2
     go_meet
     exact⟨by rw[H.out],rfl⟩
    have D:(q.f == x.file)=Xd:=by simp[a0]
    have H:Xo (Xd=B):=dD<|by rw[<-l.out,D];simp
    clear L a0;go_wp2
    go_meet
    exact⟨by rw[<-H.out],rfl⟩
   have C:decide ((0:Int)<=x.file)=Xd:=Si L
   have H:Xo (Xd=B):=dD<|by rw[<-l.out,C];rfl
   clear L;go_wp2
   go_meet
   exact⟨by rw[<-H.out],rfl⟩
  obtain⟨rfl,rfl⟩:=hcut;obtain⟨bc,z⟩:=kB (q.f == -1);obtain⟨c,a9⟩:=kB (decide (1<q.r));rw[z,a9]at a;try rw[z]
  obtain⟨ax,i⟩:=kB x.sh;obtain⟨X,y⟩:=kB e.wr;obtain⟨a1,A⟩:=kB x.wr;rw[i,y,A]at a;rw[i]at U;rw[y]at al;rw[A]at ai;clear i y A z aj ak af ag
  cases bc with
  | false=>
   cases B with
   | false=>
    (go_wp2;go_ret;exact⟨by rw[a.out];first | rfl | (cases c <;> rfl),d⟩)
   | true=>
    cases ax with
    | false=>
     cases X with
     | false=>
      (go_wp2;go_ret;exact⟨by rw[a.out];first | rfl | (cases c <;> rfl),d⟩)
     | true=>
      cases a1 with
      | false=>
       (go_wp2;go_ret;exact⟨by rw[a.out];first | rfl | (cases c <;> rfl),d⟩)
      | true=>
       (go_wp2;go_ret;exact⟨by rw[a.out];first | rfl | (cases c <;> rfl),d⟩)
    | true=>
     cases X with
     | false=>
      (go_wp2;go_ret;exact⟨by rw[a.out];first | rfl | (cases c <;> rfl),d⟩)
     | true=>
      cases a1 with
      | false=>
       (go_wp2;go_ret;exact⟨by rw[a.out];first | rfl | (cases c <;> rfl),d⟩)
      | true=>
       (go_wp2;go_ret;exact⟨by rw[a.out];first | rfl | (cases c <;> rfl),d⟩)
  | true=>
   cases ax with
   | false=>
    cases X with
    | false=>
     (go_wp2;go_ret;exact⟨by rw[a.out];first | rfl | (cases c <;> rfl),d⟩)
    | true=>
     cases a1 with
     | false=>
      (go_wp2;go_ret;exact⟨by rw[a.out];first | rfl | (cases c <;> rfl),d⟩)
     | true=>
      cases B with
      | false=>
       cases c with
       | false=>
        (go_wp2;go_ret;exact⟨by rw[a.out];first | rfl | (cases c <;> rfl),d⟩)
       | true=>
        (go_wp2;go_ret;exact⟨by rw[a.out];first | rfl | (cases c <;> rfl),d⟩)
      | true=>
       (go_wp2;go_ret;exact⟨by rw[a.out];first | rfl | (cases c <;> rfl),d⟩)
   | true=>
    cases B with
    | false=>
     (go_wp2;go_ret;exact⟨by rw[a.out];first | rfl | (cases c <;> rfl),d⟩)
    | true=>
     cases X with
     | false=>
      (go_wp2;go_ret;exact⟨by rw[a.out];first | rfl | (cases c <;> rfl),d⟩)
     | true=>
      cases a1 with
      | false=>
       (go_wp2;go_ret;exact⟨by rw[a.out];first | rfl | (cases c <;> rfl),d⟩)
      | true=>
       cases c with
       | false=>
        (go_wp2;go_ret;exact⟨by rw[a.out];first | rfl | (cases c <;> rfl),d⟩)
       | true=>
        (go_wp2;go_ret;exact⟨by rw[a.out];first | rfl | (cases c <;> rfl),d⟩)
theorem zgD {s:Sp} (h:tbW s.tb=0) (n:Nat):enW (zm s n)=0:=by
 unfold zm zaC;have a:=Zd.1 h;have:zhb (s.tb[n / 8]?.getD []):=by
  cases e:s.tb[n / 8]? with
  | none=>exact .inl rfl
  | some x=>exact a x (mG e)
 exact this.get (n % 8)
theorem zon {e:En} (h:enW e=0):0<=e.n:=by
 unfold enW at h
 split at h
 ·split at h
  ·omega
  cases h
 cases h
structure Pts (m:Ma):Prop where
 s4:m.sp.length<=4
 f40:m.fs.length<=40
 fr:∀(k:Nat) f,m.fs[k]? =Xa f->0<=f.r/\f.r<=1000
 fl:m.fl.length<=5/\∀f∈m.fl,f.bl.length<=12
 ar:∀s∈m.sp,(wrL s.ars).1=0/\tbW s.tb=0
theorem zlj (h:Jq m=0):Pts m:=by
 unfold Jq at h;rw[zi]at h;have b:Zt m.fs m.hand=0:=h _ Sm
 have t:stW m.fl m.cnt=0:=h _ Sm
 have l:(if 4<m.sp.length then(4:Int)else 0)=0:=h _ Sm
 have j:=zi.1 (h (zw (m.sp.map spE)) Sm)
 obtain⟨⟨n,u,v⟩,p,w⟩:=(qi _ _).1 t;unfold Zt at b
 split at b
 ·cases b
 rename_i x
 split at b
 ·rename_i c
  refine⟨?_,Wm,fun y f g=>?_,⟨n,fun f g=>?_⟩,fun s r=>?_⟩
  ·split at l
   ·cases l
   omega
  ·have i:=JS.1 c f (mG g);unfold frW at i
   split at i
   ·cases i
   rename_i q
   simp[inB]at q
   omega
  ·obtain⟨k,z,A⟩:=p f g;have:=zfn k.1 k.2;omega
  have a:=j (spE s) (Yb.2 ⟨s,r,rfl⟩);unfold spE at a
  split at a
  ·rename_i d
   exact absurd a d
  rename_i d
  split at a
  ·rename_i e
   exact absurd a e
  rename_i e
  exact⟨Classical.byContradiction d,Classical.byContradiction e⟩
 rename_i c
 exact absurd b c
theorem tb8 {t:List (List En)} (h:tbW t=0):∀x∈t,x.length<=8:=fun x a=>by
 rcases Zd.1 h x a with e|e
 ·rw[e];simp
 rw[e.1];omega
theorem zia {l:List Ca} {c:Ca} {k:Int} (h:l[j]? =Xa c):zH (l.take (j+1)) k=zH (l.take j) k+(decide (c.fr=k)).toNat:=by
 unfold zH;rw[Yt,h]
 simp[List.countP_append,Ye,Bool.toNat]
theorem zmu {l:List Ca} (j:Nat) {k:Int}:zH (l.take j) k<=j:=nT Yj (by simp;omega)
theorem zgc:∀{l:List Ar} {p:Option Ar} {n:Nat},Qa p l->(zB l n).is=Xc->0<=(zB l n).page/\((zB l n).page<=11\/(zB l n).file<0)
 | [],_,_,_,h=>by cases h
 | a :: l,p,n,hc,h=>by
  unfold zB at h⊢
  by_cases e:jX a n=Xc
  ·rw[kE e]at h⊢;have ha:=hc.1;have e':=z5.1 e;unfold jQ at ha;unfold qw;simp only
   split
   ·exact⟨Wm,.inl Wm⟩
   exact⟨Wm,.inr Wm⟩
  rw[kF e]at h⊢;exact zgc hc.2.2 h
def zoC (r:List Int × Bool × Int):Xq:= Xm #[Xi (pgc r.1).toArray,Xh r.2.1,Xe Xf r.2.2]
theorem zpf (h:maW m=0):∀s∈m.sp,∀n,n<64->(if(zm s n).kind=0 then 0 else Jm m (zB s.ars n) (zm s n))=0:=fun s hs n hn=>by
 unfold maW at h;rw[zi]at h;have h1:=zi.1 (h (zw (m.sp.map (zcA m))) Sm) (zcA m s) (Yb.2 ⟨s,hs,rfl⟩)
 unfold zcA at h1;exact zi.1 h1 _ (Yb.2 ⟨n,Yi.2 hn,rfl⟩)
theorem zoq (h:maW m=0):∀c∈m.ca,0<=c.fr/\c.fr< (m.fs.length:Int):=fun c b=>by
 unfold maW at h;rw[zi]at h;have a:=(zu.1 (h (zbf m Xb m.ca) Sm)).1 c b
 unfold caE at a
 split at a
 ·cases a
 omega
theorem za2 (h:maW m=0):Jq m=0:=by
 unfold maW at h;rw[zi]at h;exact h _ Sm
theorem zhw (V:MaV) (m:Ma) (p n:Int) (w:Xn) (hm:zy w V m) (hw:maW m=0) (hfs:∀s∈m.sp,qH m.fl.length s.ars):
  Xp prog 23 #[Xi (mL V m).toArray,I6 p,I6 n] w fun e w'=>e= Xl (zoC (qY m p n))/\(qY m p n).1.length=8/\zc w w':=by
 have HM:Xo (zy w V m):=hm;obtain⟨n1,n2,-,-,-,-,n7,n8,n9⟩:=hm.ns;obtain⟨xs,hxl,hrow,hsp⟩:=hm.spaces;have HFR:Xo (zdA w V.f.a m.fs):=hm.frs;obtain⟨_,_,hfe,_,hfr⟩:=qg.rows hm.fl;have HFL:Xo (J1 w V.fl.a m.fl):=show J1 _ _ _ by
  simp only[vJ]at hfe;rw[hfe.1];exact hfr
 have HP:Xo (Pts m):=zlj (za2 hw);have HENT:Xo (∀s∈m.sp,∀n,n<64->(if(zm s n).kind=0 then 0 else Jm m (zB s.ars n) (zm s n))=0):=show∀s,_ from zpf hw
 have HFS:Xo (∀s∈m.sp,qH m.fl.length s.ars):=dD<|hfs
 have HCO:Xo (∀W (fi ix:Nat) f bk,zc w W->m.fl[fi]? =Xa f->f.bl[ix]? =Xa bk->ix<=1000->Xp prog 33 #[Xi (mL V m).toArray,I6 (fi:Int),I6 (ix:Int)] W fun e w'=>e= Xl (Xi (pgc (qn m fi ix)).toArray)/\(qn m fi ix).length=8/\zc W w'):=dD<|fun W fi ix f bk hW hf hb hi=>zaF V m fi ix f bk W (HM.grew hW) (fun c hc _=>zoq hw c hc) hf hb hi
 have HRD:Xo (∀W k,zc w W->Xp prog 39 #[Xi #[V.sb.x,V.sq.x],I6 k] W fun e w'=>e= Xl (Xm #[Xi (pgc (qv m.sb m.sq k)).toArray,I6 (zk m.sb.length m.sq k)])/\zc W w'):=dD<|fun W k hW=>zcH _ m.sb m.sq k W ⟨_,_,rfl,(HM.grew hW).sb,(HM.grew hW).sq⟩
 have HRL:Xo (∀k,(qv m.sb m.sq k).length=8):=dD<|fun k=>ziB hm.sb.2.1 hm.sq.2.1
 obtain⟨⟨fa,fn,fc⟩,⟨sa,sn,sc⟩,⟨sba,sbn,sbc⟩,⟨sqa,sqn,sqc⟩,vdb,vdq,⟨fla,fln,flc⟩,⟨caa,can,cac⟩,⟨spa,spn,spc⟩⟩:=V;dsimp only[mL]at n1 n2 n7 n8 n9 hrow HFR HFL HCO HRD⊢;have HN1:Xo (m.fs.length=fn):=n1.symm;have HN7:Xo (m.fl.length=fln):=n7.symm;have HN9:Xo (m.sp.length=spn):=n9.symm;have HXL:Xo (xs.length=spn):=show _=_ by rw[hxl];exact HN9.out
 have HRW:Xo (∀(j:Nat) x,xs[j]? =Xa x->∃ad,spa=Xa ad/\∀W,zc w W->zja W (ad.add (j*10)) x):=dD<|hrow
 have HSP:Xo (∀(i:Nat) x s,xs[i]? =Xa x->m.sp[i]? =Xa s->jO w x s):=dD<|hsp
 clear hm n1 n2 n7 n8 n9 hxl hrow hsp hfe hfr hw hfs;obtain⟨W0,hW0⟩:=kB ((w.alloc (Xk #[O fa fn fc,I6 m.hand,O sa sn sc,O sba sbn sbc,O sqa sqn sqc,vdb.x,vdq.x,O fla fln flc,I6 m.cnt,O caa can cac,O spa spn spc] 41)).alloc (Xk #[U8 0,U8 0,U8 0,U8 0,U8 0,U8 0,U8 0,U8 0] 60));have G0:=gD2 hW0
 have X0:=x2a hW0
 have Y0:Xo (Box W0 (w.heap.size+1) (pgc zp)):=dD<|by rw[<-hW0];exact Box.top _ (pgc zp) _ Sm
 have HW0:Xo (_=W0):=hW0;clear hW0
 by_cases a1:p<0
 ·have HR:Xo (qY m p n=(zp,Xd,5)):=dD<|by unfold qY;exact kE (by rw[HN9.out];omega)
  have k1:decide (p<0)=Xc:=decide_eq_true a1;clear a1
  go_enter func23,ntmps23
  go_upto_region 1 with fail;rw[HW0.out];have x10:=X0.c 10 rfl
  go_wp2_with (refine zr rfl 60 (.tmp 6) (.tmp 31) rfl (w.heap.size+1) rfl (pgc zp) rfl Y0 rfl zqL (jd _) ?_)
  intro WL hbL hgL _;have HGL:Xo (zc w WL):=dD<|zd G0 hgL Wm
  go_wp2;refine bodyPost_ret (zZ rfl _ rfl hbL underlying60 rfl zqL) rfl ⟨Rr HR.out,Rr HR.out,HGL⟩
 by_cases a2:(spn:Int)<=p
 ·have HR:Xo (qY m p n=(zp,Xd,5)):=dD<|by unfold qY;exact kE (by rw[HN9.out];omega)
  have k1:decide (p<0)=Xd:=decide_eq_false a1;have k2:decide ((spn:Int)<=p)=Xc:=decide_eq_true a2;clear a1 a2
  go_enter func23,ntmps23
  go_upto_region 1 with fail;rw[HW0.out];have x10:=X0.c 10 rfl
  go_wp2_with (refine zr rfl 60 (.tmp 6) (.tmp 31) rfl (w.heap.size+1) rfl (pgc zp) rfl Y0 rfl zqL (jd _) ?_)
  intro WL hbL hgL _;have HGL:Xo (zc w WL):=dD<|zd G0 hgL Wm
  go_wp2;refine bodyPost_ret (zZ rfl _ rfl hbL underlying60 rfl zqL) rfl ⟨Rr HR.out,Rr HR.out,HGL⟩
 by_cases a3:n<0
 ·have HR:Xo (qY m p n=(zp,Xd,5)):=dD<|by unfold qY;exact kE (by rw[HN9.out];omega)
  have k1:decide (p<0)=Xd:=decide_eq_false a1;have k2:decide ((spn:Int)<=p)=Xd:=decide_eq_false a2;have k3:decide (n<0)=Xc:=decide_eq_true a3;clear a1 a2 a3
  go_enter func23,ntmps23
  go_upto_region 1 with fail;rw[HW0.out];have x10:=X0.c 10 rfl
  go_wp2_with (refine zr rfl 60 (.tmp 6) (.tmp 31) rfl (w.heap.size+1) rfl (pgc zp) rfl Y0 rfl zqL (jd _) ?_)
  intro WL hbL hgL _;have HGL:Xo (zc w WL):=dD<|zd G0 hgL Wm
  go_wp2;refine bodyPost_ret (zZ rfl _ rfl hbL underlying60 rfl zqL) rfl ⟨Rr HR.out,Rr HR.out,HGL⟩
 by_cases a4:63<n
 ·have HR:Xo (qY m p n=(zp,Xd,5)):=dD<|by unfold qY;exact kE (by rw[HN9.out];omega)
  have k1:decide (p<0)=Xd:=decide_eq_false a1;have k2:decide ((spn:Int)<=p)=Xd:=decide_eq_false a2;have k3:decide (n<0)=Xd:=decide_eq_false a3;have k4:decide (63<n)=Xc:=decide_eq_true a4;clear a1 a2 a3 a4
  go_enter func23,ntmps23
  go_upto_region 1 with fail;rw[HW0.out];have x10:=X0.c 10 rfl
  go_wp2_with (refine zr rfl 60 (.tmp 6) (.tmp 31) rfl (w.heap.size+1) rfl (pgc zp) rfl Y0 rfl zqL (jd _) ?_)
  intro WL hbL hgL _;have HGL:Xo (zc w WL):=dD<|zd G0 hgL Wm
  go_wp2;refine bodyPost_ret (zZ rfl _ rfl hbL underlying60 rfl zqL) rfl ⟨Rr HR.out,Rr HR.out,HGL⟩
 obtain⟨pp,rfl⟩:∃pp:Nat,p=(pp:Int):=⟨p.toNat,Wm⟩
 obtain⟨nn,rfl⟩:∃nn:Nat,n=(nn:Int):=⟨n.toNat,Wm⟩
 have hpn:pp<spn:=Wm
 have hn64:nn<64:=Wm
 obtain⟨x,hx⟩:∃x,xs[pp]? =Xa x:=⟨_,gE (Rx HXL.out hpn)⟩
 obtain⟨s,HS⟩:∃s,Xo (m.sp[pp]? =Xa s):=⟨_,gE (Rx HN9.out hpn)⟩
 have HAT:Xo (jO w x s):=HSP.out pp x s hx HS.out;obtain⟨ad,HSA,hl⟩:∃ad,Xo (spa=Xa ad)/\∀W,zc w W->zja W (ad.add (pp*10)) x:=HRW.out pp x hx;have HRT:Xo ((wrL s.ars).1=0/\tbW s.tb=0):=HP.ar s (mG HS);obtain⟨o,HO⟩:=kA (zB s.ars nn);obtain⟨e,HE⟩:=kA (zm s nn);have HVR:Xo (qY m (pp:Int) (nn:Int)=if o.is=Xd then(zp,Xd,5)else if e.kind=1 then(pgL (zU m e.n).p,decide ((zU m e.n).f<0),0)else if e.kind=2 then(qv m.sb m.sq e.n,Xc,0)else if o.file<0 then(zp,Xd,0)else if bkN m o.file<=o.page then(zp,Xd,9)else(qn m o.file o.page,Xd,0)):=show _=_ by
  unfold qY;rw[kF (by rw[HN9.out];omega)]
  have hsd:m.sp.getD pp ⟨Xd,[],[]⟩=s:=by rw[gD,HS.out];rfl
  simp only[tN,hsd,HO.out,HE.out]
 have HON:Xo (∀W,zc w W->Xp prog 22 #[x.ar.x] W fun e w'=>e= Xl (Xi (zE (tab (zB s.ars))).toArray)/\zc W w'):=dD<|fun W hW=>jB _ s.ars W (HAT.ar.grew hW) (jq.1 HRT.1).2.lies
 have HFT:Xo (∀W,zc w W->Xp prog 28 #[Xi #[x.t0.x,x.t1.x,x.t2.x,x.t3.x,x.t4.x,x.t5.x,x.t6.x,x.t7.x]] W fun e w'=>e= Xl (Xi (qr (JT s.tb)).toArray)/\zc W w'):=dD<|fun W hW=>zbG x.tab s.tb W ((HAT.grew hW).tb) (tb8 HRT.2)
 have HZF:Xo ((JT s.tb)[nn]? =Xa e):=(zcn s.tb hn64).trans (congrArg Xa HE);have h0:0<=e.n:=by rw[<-HE.out];exact zon (zgD HRT.2 nn)
 have HE1:Xo (o.is=Xc->e.kind=1->e.n< (fn:Int)):=dD<|fun h1 h2=>by
  have h3:Jm m o e=0:=by
   have:=HENT.out s (mG HS) nn hn64;rw[HE.out,HO.out,kF Wm]at this
   exact this
  unfold Jm at h3;rw[kF (by rw[h1];decide),kF Wm]at h3
  have h4:=HN1.out
  split at h3
  ·cases h3
  omega
 have HPG:Xo (o.is=Xc->0<=o.page/\(o.page<=11\/o.file<0)):=dD<|fun h1=>by rw[<-HO.out]at h1⊢;exact zgc (jq.1 HRT.1).2 h1
 have HFI:Xo (o.is=Xc->o.file< (fln:Int)):=dD<|fun h1=>by
  have h2:=HFS.out s (mG HS) nn hn64 (Rx HO.out h1)
  rw[HO.out,HN7.out]at h2;exact h2
 have hov:Value.agg (onv (zB s.ars nn)).toArray= Xi #[Xh o.is,Xh o.rd,Xh o.wr,Xh o.sh,I6 o.file,I6 o.page]:=Rr HO.out
 have k1:decide ((pp:Int)<0)=Xd:=decide_eq_false a1;have k2:decide (spn<=pp)=Xd:=decide_eq_false Wm
 have k3:decide ((nn:Int)<0)=Xd:=decide_eq_false a3;have k4:decide ((63:Int)< (nn:Int))=Xd:=decide_eq_false a4;have hpz:(pp:Int)< (spn:Int):=Wm
 clear a1 a2 a3 a4 hx
 go_enter func23,ntmps23
 go_upto_region 1 with fail;rw[HW0.out];have x10:=X0.c 10 rfl;rw[HSA.out]at x10;obtain⟨d0,d1,d2,d3,d4,d5,d6,d7,d8,d9⟩:=hl W0 G0.out;have HL:Xo (∀W,zc w W->zja W (ad.add (pp*10)) x):=dD<|hl
 clear hl d0 d2 d3 d4 d5 d6 d7 d8 d9;have hc:=HON.out W0 G0.out;go_wp2_with fail;refine hc.mono ?_;clear hc d1 x10 k1 k2 k3 k4;rintro r W1 ⟨rfl,g1⟩;have G1:=dD (G0.trans g1);have X1:=dD (X0.grew g1);have Y1:=dD (Y0.grew g1);clear g1
 go_upto_region 4 with(refine zaK rfl (.tmp 38) (.tmp 39) rfl (zB s.ars) rfl nn rfl hn64 hov ?_)
 obtain⟨po,HPO⟩:=kA W1.heap.size;obtain⟨W2,hW2⟩:=kB (W1.alloc (Xk #[Xh o.is,Xh o.rd,Xh o.wr,Xh o.sh,I6 o.file,I6 o.page] 81));have g2:=gP hW2
 have O2:=xP hW2 HPO
 have G2:=dD (G1.trans g2);have X2:=dD (X1.grew g2);have Y2:=dD (Y1.grew g2);rw[hW2,HPO.out];clear hW2 g2 hov;have o0:=O2.c 0 rfl
 cases his:o.is with
 | false=>
  rw[his]at o0;have HR:Xo (qY m (pp:Int) (nn:Int)=(zp,Xd,5)):=dD<|by rw[HVR.out,kE his]
  clear his
  go_wp2_with (refine zr rfl 60 (.tmp 6) (.tmp 44) rfl (w.heap.size+1) rfl (pgc zp) rfl Y2 rfl zqL (jd _) ?_)
  intro WL hbL hgL _;have HGL:Xo (zc w WL):=dD<|zd G2 hgL Wm
  go_wp2;refine bodyPost_ret (zZ rfl _ rfl hbL underlying60 rfl zqL) rfl ⟨Rr HR.out,Rr HR.out,HGL⟩
 | true=>
 rw[his]at o0;have HVR2:Xo (qY m (pp:Int) (nn:Int)=if e.kind=1 then(pgL (zU m e.n).p,decide ((zU m e.n).f<0),0)else if e.kind=2 then(qv m.sb m.sq e.n,Xc,0)else if o.file<0 then(zp,Xd,0)else if bkN m o.file<=o.page then(zp,Xd,9)else(qn m o.file o.page,Xd,0)):=dD<|by rw[HVR.out,kF (by rw[his];decide)]
 obtain⟨hpg0,hpg1⟩:=HPG.out his;have hfl0:=HFI.out his;have HE2:Xo (e.kind=1->e.n< (fn:Int)):=dD<|HE1.out his
 clear his;obtain⟨d0,d1,d2,d3,d4,d5,d6,d7,d8,d9⟩:=HL.out W2 G2.out;have x10:=X2.c 10 rfl;rw[HSA.out]at x10;have hc:=HFT.out W2 G2.out;go_wp2_with fail;refine hc.mono ?_;clear hc d0 d1 d2 d3 d4 d5 d6 d7 d8 d9 x10 o0;rintro r W3 ⟨rfl,g3⟩;have G3:=dD (G2.trans g3);have X3:=dD (X2.grew g3);have Y3:=dD (Y2.grew g3);have O3:=dD (O2.grew g3);clear g3
 go_upto_region 7 with(refine zaL rfl (.tmp 51) (.tmp 52) rfl (JT s.tb) rfl nn rfl hn64 HZF.out ?_)
 obtain⟨pe,HPE⟩:=kA W3.heap.size;obtain⟨W4,hW4⟩:=kB (W3.alloc (Xk #[I6 e.kind,I6 e.n,Xh e.wr] 75));have g4:=gP hW4
 have E4:=xP hW4 HPE
 have G4:=dD (G3.trans g4);have X4:=dD (X3.grew g4);have Y4:=dD (Y3.grew g4);have O4:=dD (O3.grew g4);rw[hW4,HPE.out];clear hW4 g4;have e0:=E4.c 0 rfl;have e1:=E4.c 1 rfl
 by_cases h1:e.kind=1
 ·have h1e:(e.kind == 1)=Xc:=by simp[h1]
  obtain⟨k,hk⟩:∃k:Nat,e.n=(k:Int):=⟨e.n.toNat,Wm⟩
  have hkf:=HE2.out h1;rw[hk]at hkf;obtain⟨q,HQ⟩:∃q,Xo (m.fs[k]? =Xa q):=⟨_,gE (by rw[HN1.out];omega)⟩
  have HR:Xo (qY m (pp:Int) (nn:Int)=(pgL q.p,decide (q.f<0),0)):=dD<|by rw[HVR2.out,kE h1,hk,qp HQ.out]
  obtain⟨adf,hva,hlf⟩:=HFR.out k q HQ.out;obtain⟨d0,d1,d2,d3,d4,d5,d6,d7,d8,d9,d10,d11,d12⟩:=hlf W4 G4.out;have x0:=X4.c 0 rfl;rw[hva]at x0;rw[hk]at e1;clear hlf hva h1 hk;go_upto_region 9 with fail;obtain⟨pq,HPQ⟩:=kA W4.heap.size;obtain⟨W5,hW5⟩:=kB (W4.alloc (Xk #[U8 q.p.b0,U8 q.p.b1,U8 q.p.b2,U8 q.p.b3,U8 q.p.b4,U8 q.p.b5,U8 q.p.b6,U8 q.p.b7,I6 q.r,Xh q.u,Xh q.d,I6 q.f,I6 q.x] 62));have g5:=gP hW5
  have Q5:=xP hW5 HPQ
  have G5:=dD (G4.trans g5);have Y5:=dD (Y4.grew g5);have hne:w.heap.size+1≠pq:=by have:=Y4.lt;have h2:=HPQ.out;omega
  have hne2:pq≠w.heap.size+1:=fun h=>hne h.symm
  rw[hW5,HPQ.out];clear hW5 g5 x0 e0 e1 d0 d1 d2 d3 d4 d5 d6 d7 d8 d9 d10 d11 d12;obtain⟨q0,q1,q2,q3,q4,q5,q6,q7⟩:=Q5.c8;have q11:=Q5.c 11 rfl;obtain⟨y0,y1,y2,y3,y4,y5,y6,y7⟩:=Y5.c8;have yf:=Y5.f
  go_region
  all_goals
   obtain⟨W6,hW6⟩:=kB ((((((((((W5).setCell ⟨w.heap.size+1,0,Xb⟩ (U8 q.p.b0)).setCell ⟨w.heap.size+1,1,Xb⟩ (U8 q.p.b1)).setCell ⟨w.heap.size+1,2,Xb⟩ (U8 q.p.b2)).setCell ⟨w.heap.size+1,3,Xb⟩ (U8 q.p.b3)).setCell ⟨w.heap.size+1,4,Xb⟩ (U8 q.p.b4)).setCell ⟨w.heap.size+1,5,Xb⟩ (U8 q.p.b5)).setCell ⟨w.heap.size+1,6,Xb⟩ (U8 q.p.b6)).setCell ⟨w.heap.size+1,7,Xb⟩ (U8 q.p.b7)).drew);have Y6:Xo (Box W6 (w.heap.size+1) (pgc (pgL q.p))):=dD<|by rw[<-hW6];exact(((((((((Y5).set 0 _).set 1 _).set 2 _).set 3 _).set 4 _).set 5 _).set 6 _).set 7 _).grew (show Below _ _ _ from Below.drew (bR _ _))
   have G6:Xo (zc w W6):=dD<|by rw[<-hW6];exact(zq (zq (zq (zq (zq (zq (zq (zq (G5) Sm _) Sm _) Sm _) Sm _) Sm _) Sm _) Sm _) Sm _).trans (show Below _ _ _ from Below.drew (bR _ _))
   rw[hW6];clear hW6 yf q0 q1 q2 q3 q4 q5 q6 q7 q11 y0 y1 y2 y3 y4 y5 y6 y7;go_wp2;refine bodyPost_ret (zZ rfl _ rfl Y6 underlying60 rfl zqL) rfl ⟨Rr HR.out,Rr HR.out,G6⟩
 have h1e:(e.kind == 1)=Xd:=by simp[h1]
 by_cases h2:e.kind=2
 ·have h2e:(e.kind == 2)=Xc:=by simp[h2]
  have HR:Xo (qY m (pp:Int) (nn:Int)=(qv m.sb m.sq e.n,Xc,0)):=dD<|by rw[HVR2.out,kF h1,kE h2]
  have HRN:Xo ((qv m.sb m.sq e.n).length=8):=HRL.out e.n;have x3:=X4.c 3 rfl;have x4:=X4.c 4 rfl;have hc:=HRD.out W4 e.n G4.out;clear h1 h2;go_wp2_with fail;refine hc.mono ?_;clear hc x3 x4 e0 e1;rintro r W5 ⟨rfl,g5⟩;have G5:=dD (G4.trans g5);have Y5:=dD (Y4.grew g5);obtain⟨rl,HRLL⟩:=kA (qv m.sb m.sq e.n);rw[HRLL.out]at HR HRN⊢;obtain⟨p0,p1,p2,p3,p4,p5,p6,p7,rfl⟩:=zdB rl HRN.out;simp only[pgc,mP,Xx];go_upto_region 12 with fail;obtain⟨pl,HPL⟩:=kA W5.heap.size;obtain⟨W6,hW6⟩:=kB (W5.alloc (Xk #[U8 p0,U8 p1,U8 p2,U8 p3,U8 p4,U8 p5,U8 p6,U8 p7] 60));have g6:=gP hW6
  have P6:=xP hW6 HPL
  have G6:=dD (G5.trans g6);have Y6:=dD (Y5.grew g6);rw[hW6,HPL.out];clear hW6 g6 g5;obtain⟨c0,c1,c2,c3,c4,c5,c6,c7⟩:=P6.c8
  go_wp2_with (refine zr rfl 60 (.tmp 6) (.tmp 80) rfl (w.heap.size+1) rfl (pgc [p0,p1,p2,p3,p4,p5,p6,p7]) rfl Y6 rfl zqL (jd _) ?_)
  intro WL hbL hgL _;have HGL:Xo (zc w WL):=dD<|zd G6 hgL Wm
  go_wp2;refine bodyPost_ret (zZ rfl _ rfl hbL underlying60 rfl zqL) rfl ⟨Rr HR.out,Rr HR.out,HGL⟩
 have h2e:(e.kind == 2)=Xd:=by simp[h2]
 have HVR3:Xo (qY m (pp:Int) (nn:Int)=if o.file<0 then(zp,Xd,0)else if bkN m o.file<=o.page then(zp,Xd,9)else(qn m o.file o.page,Xd,0)):=dD<|by rw[HVR2.out,kF h1,kF h2]
 clear h1 h2;have o4:=O4.c 4 rfl;have o5:=O4.c 5 rfl
 by_cases h3:o.file<0
 ·have h3d:decide (o.file<0)=Xc:=decide_eq_true h3;have HR:Xo (qY m (pp:Int) (nn:Int)=(zp,Xd,0)):=dD<|by rw[HVR3.out,kE h3]
  clear h3
  go_wp2_with (refine zr rfl 60 (.tmp 6) (.tmp 84) rfl (w.heap.size+1) rfl (pgc zp) rfl Y4 rfl zqL (jd _) ?_)
  intro WL hbL hgL _;have HGL:Xo (zc w WL):=dD<|zd G4 hgL Wm
  go_wp2;refine bodyPost_ret (zZ rfl _ rfl hbL underlying60 rfl zqL) rfl ⟨Rr HR.out,Rr HR.out,HGL⟩
 have HVR4:Xo (qY m (pp:Int) (nn:Int)=if bkN m o.file<=o.page then(zp,Xd,9)else(qn m o.file o.page,Xd,0)):=dD<|by rw[HVR3.out,kF h3]
 obtain⟨fi,hfi⟩:∃fi:Nat,o.file=(fi:Int):=⟨o.file.toNat,Wm⟩
 obtain⟨pg,hpg⟩:∃pg:Nat,o.page=(pg:Int):=⟨o.page.toNat,Wm⟩
 obtain⟨f,HF⟩:∃f,Xo (m.fl[fi]? =Xa f):=⟨_,gE (by rw[HN7.out];omega)⟩
 obtain⟨ad7,h7,ba,bc,_,hlf⟩:=HFL.out fi f HF.out;obtain⟨-,f1⟩:=hlf W4 G4.out;obtain⟨bn,HBN⟩:=kA f.bl.length;rw[HBN.out]at f1;have HBK:Xo (bkN m o.file=(bn:Int)):=dD<|by unfold bkN;rw[hfi,tN,gD,HF.out];simp only[Option.getD_some];rw[HBN.out]
 have x7:=X4.c 7 rfl;rw[h7]at x7;rw[hfi]at o4;rw[hpg]at o5;have h3d:decide ((fi:Int)<0)=Xd:=decide_eq_false Wm
 have hfz:(fi:Int)< (fln:Int):=Wm
 have hpg3:pg<=1000:=Wm
 rw[HBK.out,hfi,hpg]at HVR4;clear h3 hfi hpg hlf h7 hpg0 hpg1 hfl0;go_upto_region 15 with fail
 by_cases h4:bn<=pg
 ·have h4d:decide (bn<=pg)=Xc:=decide_eq_true h4;have HR:Xo (qY m (pp:Int) (nn:Int)=(zp,Xd,9)):=dD<|by rw[HVR4.out,kE Wm]
  clear h4;go_quiet (fail);obtain⟨W5,hW5⟩:=kB (W4.drewN nq);have g5:zc W4 W5:=by rw[<-hW5];exact(show Below _ _ _ from bD (bR _ _) _)
  have G5:=dD (G4.trans g5);have Y5:=dD (Y4.grew g5);rw[hW5];clear hW5 g5 x7 f1 o4 o5
  go_wp2_with (refine zr rfl 60 (.tmp 6) (.tmp 97) rfl (w.heap.size+1) rfl (pgc zp) rfl Y5 rfl zqL (jd _) ?_)
  intro WL hbL hgL _;have HGL:Xo (zc w WL):=dD<|zd G5 hgL Wm
  go_wp2;refine bodyPost_ret (zZ rfl _ rfl hbL underlying60 rfl zqL) rfl ⟨Rr HR.out,Rr HR.out,HGL⟩
 have h4d:decide (bn<=pg)=Xd:=decide_eq_false h4;obtain⟨bk,HBL⟩:∃bk,Xo (f.bl[pg]? =Xa bk):=⟨_,gE (by rw[HBN.out];omega)⟩
 have HR0:Xo (qY m (pp:Int) (nn:Int)=(qn m (fi:Int) (pg:Int),Xd,0)):=dD<|by rw[HVR4.out,kF Wm]
 clear h4;go_quiet (fail);obtain⟨W5,hW5⟩:=kB (W4.drewN nq);have g5:zc W4 W5:=by rw[<-hW5];exact(show Below _ _ _ from bD (bR _ _) _)
 have G5:=dD (G4.trans g5);have X5:=dD (X4.grew g5);have Y5:=dD (Y4.grew g5);have O5:=dD (O4.grew g5);have o4':W5.cell? ⟨po,4,Xb⟩=Xa (I6 (fi:Int)):=Ry hW5 o4
 have o5':W5.cell? ⟨po,5,Xb⟩=Xa (I6 (pg:Int)):=Ry hW5 o5
 rw[hW5];clear hW5 g5 x7 f1 o4 o5;obtain⟨x0,x1,x2,x3,x4,x5,x6,x7,x8,x9,x10⟩:=X5.c11;have hc:=HCO.out W5 fi pg f bk G5 HF HBL hpg3;go_wp2_with fail;refine hc.mono ?_;clear hc;rintro r W6 ⟨rfl,hl8,g6⟩;have G6:=dD (G5.trans g6);have Y6:=dD (Y5.grew g6);obtain⟨rl,HRLL⟩:=kA (qn m (fi:Int) (pg:Int));have HR:Xo (qY m (pp:Int) (nn:Int)=(rl,Xd,0)):=show _=_ by rw[HR0.out,HRLL.out]
 rw[HRLL.out]at hl8⊢;have HL8:Xo (rl.length=8):=hl8;clear g6 hl8 x0 x1 x2 x3 x4 x5 x6 x7 x8 x9 x10 o4' o5';obtain⟨p0,p1,p2,p3,p4,p5,p6,p7,rfl⟩:=zdB rl HL8.out
 go_wp2_with (refine zr rfl 60 (.tmp 6) (.tmp 103) rfl (w.heap.size+1) rfl (pgc [p0,p1,p2,p3,p4,p5,p6,p7]) rfl Y6 rfl zqL (jd _) ?_)
 intro WL hbL hgL _;have HGL:Xo (zc w WL):=dD<|zd G6 hgL Wm
 go_wp2;refine bodyPost_ret (zZ rfl _ rfl hbL underlying60 rfl zqL) rfl ⟨Rr HR.out,Rr HR.out,HGL⟩
theorem zm2 {w:Xn} (i:Nat) (hi:i<8) {v:Xq} (g:vs[i]? =Xa v):(Instr.index 60 (Xi vs.toArray) (I6 (i:Int))).run prog w= .ok v w:=by
 have e:(isAgg 5).run prog w= .ok Xd w:=by
  unfold isAgg;rw[Xs,run_underlying underlying5 w];rfl
 have f:(Go.sizeOf 5).run prog w= .ok 1 w:=by
  obtain⟨a,c,d⟩:∃a,Tryz.prog.info? 5=Xa a/\a.size=1:=by
   have:(Tryz.prog.info? 5).map (·.size)=Xa 1:=Kr
   cases b:Tryz.prog.info? 5 with
   | none=>rw[b]at this;cases this
   | some a=>rw[b]at this;exact⟨a,rfl,by simpa using this⟩
  simp[Go.sizeOf,typeInfo,c,d]
 have a:(0:Int)<=(i:Int)/\(i:Int)< ((8:Nat):Int):=Wm
 simp only[Instr.index,asIntOf,Xs,Xw,rA,run_underlying underlying60];rw[kE a];simp only[Xs,f,rA,part,e,Yp,tN]
 simp[g]
theorem zoz {rest:List Oper} {a:Act} {w:Xn} (b:o.guard=Xb) (x ix) (d:o.op= .index 60 x ix) (vs:List Xq) (f:a.eval x= Xi vs.toArray) (i:Nat) (c:a.eval ix=I6 (i:Int)) (hi:i<8) {v:Xq} (e:vs[i]? =Xa v)
  (h:wpList prog ops Q rest (a.put o.dst v) w):wpList prog ops Q (o :: rest) a w:=by
 refine wpList_plain b fun K b=>?_
 unfold Oper.wp execOp;simp only[d,f,c,Xs,Xw,rA,zm2 i hi e];exact b _ _ h
def byD (m:Ma) (fi k:Nat):Int:=(qn m (fi:Int) ((k / 8:Nat):Int)).getD (k % 8) 0
def Byt (m:Ma) (file:Int) (w:Xn) (e:Ending) (w':Xn):Prop:=∃u,e= Xl (Xm #[u,Xe Xf (zbh m file)])/\zb byE w.heap.size w' u (Zz m file)
theorem zpb (h:maW m=0) {f:Fl} (c:m.fl[fi]? =Xa f):(0<=f.size/\f.size<=96)/\(f.bl.length:Int)=Jn f.size:=by
 have a:=za2 h;unfold Jq at a;rw[zi]at a;have b:=((qi _ _).1 (a (stW m.fl m.cnt) Sm)).2.1 f (mG c)
 exact⟨b.1,b.2.1⟩
theorem zmw {w:Xn} {v:Xq} {l:List Int} (b:zl byE w v l):(convert 24 9 v).run prog w= .ok (.string (strOfNums l)) w:=by
 have h:=byE.und;have g:Tryz.prog.underlying 5=Xa (.int .u8):=underlying5;have f:Tryz.prog.underlying 9=Xa .string:=underlying9;obtain⟨a,d,c,e⟩:=b.rows;subst c
 cases a with
 | none=>
  have:l=[]:=by
   cases l with
   | nil=>rfl
   | cons x l=>
    obtain⟨i,b,_⟩:=e 0 x rfl;cases b
  subst this;exact run_convert_bytes_nil w 24 5 h g _ _ 9 f
 | some x=>
  have k:∀(j:Nat) u,(l.map (Value.int .u8))[j]? =Xa u->w.cell? (x.add j)=Xa u:=fun j u a=>by
   rw[Ys]at a
   cases c:l[j]? with
   | none=>rw[c]at a;cases a
   | some z=>
    rw[c]at a;simp only[Option.map_some,Option.some.injEq]at a;obtain⟨i,b,i⟩:=e j z c;cases b;have:=i w (zc.refl _) 0 u (by rw[<-a];rfl)
    simp only[byE,Yp,zS,Nat.add_zero]at this;exact this
  have a:=run_loadCells_list (P:=prog) w x (l.map (Value.int .u8)) k;rw[List.length_map]at a;rw[run_convert_bytes_string w 24 9 5 _ _ d h g f,run_bytesToString w x l.length d l a,foldl_push_bytes]
  simp[strOfNums,ByteArray.empty,ByteArray.emptyWithCapacity]
  rfl
theorem zoN {α:Type} (E:Elt α) (w):zl E w (eS) ([]:List α):=(zb.nil E 0 w).at
theorem zjo:jU (fun _=>en0)=qG:=by kernel_rfl
theorem znZ {F S B:Int} (h:zpe F S B):jS (zgf F.toNat S.toNat B.toNat 1) [fun _=>en0] 0=zb5 F S B:=by
 unfold jS zgf zb5;simp only[List.replicate_one,List.zipWith_cons_cons,List.zipWith_nil_left,zjo]
 congr 1
 unfold zpe at h;omega
def nm2:Ma:=zb5 2 2 2
def sp2:Sp:=⟨Xc,[],qG⟩
theorem zkB (w):Xp prog 6 #[I6 2,I6 2,I6 2,eS] w fun e w'=>(∃V:MaV,e= Xl (Xi #[V.f.x,I6 0,V.s.x,V.sb.x,V.sq.x,V.db.x,V.dq.x,V.fl.x,I6 2,V.ca.x,V.sp.x])/\zy w' V nm2)/\Rt nm2/\zc w w':=by
 refine(zgY 2 2 2 2 2 2 Dc Dc Dc zG [] w (zoN _ _) (nR _) Sm).mono ?_
 rintro e w' ⟨f,i,a,a,a,a,a,rfl,b⟩;obtain⟨c,g,d⟩:=b.new rfl;have a:=b.at;have h:jS (zgf 2 2 2 1) [fun _=>en0] 0=nm2:=znZ (F:=2) (S:=2) (B:=2) (by unfold zpe;omega)
 rw[c,g,d,h]at a;have g:i.cnt=2:=Rr c
 refine⟨⟨f,by rw[g,d],a.1⟩,⟨a.2,fun s a=>?_⟩,b.gr⟩
 have:s=sp2:=by
  have a:s∈[sp2]:=a
  simpa using a
 rw[this];rfl
theorem zbF (V:MaV) (m:Ma) (w:Xn) (hm:zy w V m) (hf:m.fs.length<=40):
  Xp prog 10 #[Xi (mL V m).toArray] w fun e w'=>e= Xl (I6 (jJ m.fs:Int))/\zc w w':=by
 obtain⟨n1,-⟩:=hm.ns;obtain⟨fa,HFA⟩:=kA V.f.a;have HFR:Xo (zdA w fa m.fs):=dD<|Ry HFA.out hm.frs
 obtain⟨fn,HFN⟩:=kA m.fs.length;rw[HFN.out]at n1 hf;have HN1:Xo (V.f.n=fn):=n1;clear n1;obtain⟨W0,hW0⟩:=kB (w.alloc (Xk (mL V m).toArray 41));have G0:=gA hW0
 have X0:=xA hW0
 have HW0:Xo (_=W0):=hW0;have HZF:Xo (jJ m.fs=(m.fs.take fn).countP fun f=>decide (f.r=0)):=show _=_ by rw[<-HFN.out,List.take_length];rfl
 clear hW0 hm
 go_enter func10,ntmps10
 go_upto_region 2 with fail;rw[HW0.out];have x0:=X0.c 0 rfl;(try simp only[Sli.x]at x0);rw[HN1.out,HFA.out]at x0;go_wp2;clear x0
 go_loopg [3,10] fn (fun gg s3 s10 wr=>∃kk:Nat,kk<=fn/\fn - kk<=gg/\s3=I6 (((m.fs.take kk).countP fun f=>decide (f.r=0):Nat):Int)/\s10=I6 kk/\Xo (zc w wr))
 exact⟨0,nZ _,Wm,rfl,rfl,G0⟩
 obtain⟨kk,hkk,hg,rfl,rfl,GW⟩:=hrel
 by_cases hlt:kk<fn
 ·have hltz:=kC hlt
  obtain⟨f,HK⟩:∃f,Xo (m.fs[kk]? =Xa f):=⟨_,gE (Rx HFN.out hlt)⟩
  obtain⟨ad,rfl,hl⟩:=HFR.out kk f HK.out;obtain⟨d0,d1,d2,d3,d4,d5,d6,d7,d8,d9,d10,d11,d12⟩:=hl wr GW.out;clear hl;have HC:Xo ((m.fs.take (kk+1)).countP (fun f=>decide (f.r=0))=(m.fs.take kk).countP (fun f=>decide (f.r=0))+(if decide (f.r=0)=Xc then 1 else 0)):=zks _ HK.out
  have HCL:Xo ((m.fs.take kk).countP (fun f=>decide (f.r=0))<=kk):=dD<|nT Yj (by simp;omega)
  generalize hcn:(m.fs.take kk).countP (fun f=>decide (f.r=0))=cn at HC HCL
  clear hcn;have hcl:cn<=kk:=HCL.out;go_upto_region 5 with fail;clear d0 d1 d2 d3 d4 d5 d6 d7 d8 d9 d10 d11 d12;obtain⟨W1,hW1⟩:=kB (wr.alloc (Xk #[U8 f.p.b0,U8 f.p.b1,U8 f.p.b2,U8 f.p.b3,U8 f.p.b4,U8 f.p.b5,U8 f.p.b6,U8 f.p.b7,I6 f.r,Xh f.u,Xh f.d,I6 f.f,I6 f.x] 62));have g1:=gP hW1
  have F1:=xA hW1
  have G1:=dD (GW.trans g1);rw[hW1];clear hW1 g1;have f8:=F1.c 8 rfl
  by_cases hz:f.r=0
  ·have hzb:(f.r == 0)=Xc:=Si hz
   have HC1:Xo ((m.fs.take (kk+1)).countP (fun f=>decide (f.r=0))=cn+1):=dD<|by rw[HC.out,kE (Si hz)]
   clear hz;go_wp2
   go_roundg (fn -(kk+1));exact⟨kk+1,Wm,Wm,by rw[HC1.out];go_num,Gn,G1⟩;omega
  have hzb:(f.r == 0)=Xd:=Si hz
  have HC1:Xo ((m.fs.take (kk+1)).countP (fun f=>decide (f.r=0))=cn):=dD<|by rw[HC.out,kF (Si hz)];rfl
  clear hz;go_wp2
  go_roundg (fn -(kk+1));exact⟨kk+1,Wm,Wm,by rw[HC1.out],Gn,G1⟩;omega
 have hltz:=kD hlt
 have:kk=fn:=Wm
 subst this;rw[<-HZF.out];obtain⟨zf,HZ⟩:=kA (jJ m.fs);rw[HZ.out];go_wp2;go_ret;exact⟨Rr HZ.out,GW⟩
theorem zoQ:Js nm2.fs nm2.hand=-1/\(jZ nm2).fs.length=2/\Zt nm2.fs nm2.hand=0:=⟨Kr,Kr,Kr⟩
theorem zik (w):Xp prog 5 #[] w fun e w'=>e= Xl (Xh Xc)/\zc w w':=by
 have a:=zkB w
 go_enter func5,ntmps5
 go_wp2_with fail;refine a.mono ?_;clear a;rintro e b ⟨⟨V,rfl,d⟩,a,c⟩;have f:=dD c;have g:=dD d;have r:=dD a;clear c d a;go_upto_region 2 with fail;obtain⟨a,c⟩:=kA b.heap.size;obtain⟨d,a⟩:=kB (b.alloc (Xk #[V.f.x,I6 0,V.s.x,V.sb.x,V.sq.x,V.db.x,V.dq.x,V.fl.x,I6 2,V.ca.x,V.sp.x] 41));have b:=gP a
 have y:=xPT a c
 have A:=dD (f.trans b);have u:=dD (g.grew b);rw[a,c.out];clear a b;have a:=zen V nm2 d u r.w (fun c b=>c=Xd/\b.fs.length=2) (fun b W p b b=>(zh1 b zoQ.2.2 zoQ.1 Dc Dc _).mono (by
  rintro e w' ⟨rfl,h⟩;exact⟨Xd,jZ nm2,rfl,⟨rfl,zoQ.2.1⟩,h⟩))
 obtain⟨f,g,h,i,j,k,l,m,n,p,b⟩:=y.box.c11;go_wp2_with fail;refine a.mono ?_;clear a f g h i j k l m n p b;rintro e x ⟨⟨c,z,v,⟨rfl,a⟩,rfl,c⟩,d⟩;obtain⟨q,-⟩:=(c _ (qD.refl _ _)).ns;have s:Xo (v.f.n=2):=dD<|by rw[q,a]
 clear q a c;go_upto_region 3 with fail;obtain⟨c,t⟩:=kA x.heap.size;obtain⟨q,a⟩:=kB (x.alloc (Xk (mL v z).toArray 41));have c:=gP a
 have D:=xPT a t
 have z:=dD (y.grew (d.trans c));have C:=dD (A.trans (d.trans c));have x:=dD (u.grew (d.trans c));rw[a,t.out];clear a d c;have c:Xp prog 11 #[Xi #[V.f.x,I6 0,V.s.x,V.sb.x,V.sq.x,V.db.x,V.dq.x,V.fl.x,I6 2,V.ca.x,V.sp.x]] q fun e w'=>(∃a:MaV,e= Xl (Xm #[Xi #[a.f.x,I6 0,a.s.x,a.sb.x,a.sq.x,a.db.x,a.dq.x,a.fl.x,I6 2,a.ca.x,a.sp.x],Xh Xd,I6 0])/\zy w' a nm2)/\zc q w':=zku V nm2 q x r.w rfl
 obtain⟨f,g,h,i,j,k,l,m,n,p,b⟩:=z.box.c11;go_wp2_with fail;refine c.mono ?_;clear c f g h i j k l m n p b;rintro e y ⟨⟨c,rfl,d⟩,q⟩;obtain⟨-,u,-⟩:=d.ns;have t:Xo (c.s.n=2):=u;clear u d;go_upto_region 4 with fail;obtain⟨d,v⟩:=kA y.heap.size;obtain⟨u,d⟩:=kB (y.alloc (Xk #[c.f.x,I6 0,c.s.x,c.sb.x,c.sq.x,c.db.x,c.dq.x,c.fl.x,I6 2,c.ca.x,c.sp.x] 41));have c:=gP d
 have B:=xPT d v
 have E:=dD (D.grew (q.trans c));have A:=dD (z.grew (q.trans c));have D:=dD (C.trans (q.trans c));have z:=dD (x.grew (q.trans c));rw[d,v.out];clear d q c;have c:Xp prog 14 #[Xi #[V.f.x,I6 0,V.s.x,V.sb.x,V.sq.x,V.db.x,V.dq.x,V.fl.x,I6 2,V.ca.x,V.sp.x],I6 0] u fun e w'=>(∃a:MaV,e= Xl (Xm #[Xi #[a.f.x,I6 0,a.s.x,a.sb.x,a.sq.x,a.db.x,a.dq.x,a.fl.x,I6 2,a.ca.x,a.sp.x],I6 0])/\zy w' a (zi3 nm2 (JL (QN 0) nm2.db nm2.dq))/\∃d,a.sp=⟨Xa ⟨d,0,Xb⟩,1,1⟩)/\zc u w':=zkq V nm2 0 u z r.out
 obtain⟨f,g,h,i,j,k,l,m,n,p,b⟩:=A.box.c11;go_wp2_with fail;refine c.mono ?_;clear c f g h i j k l m n p b;rintro e x ⟨⟨a,rfl,c,-⟩,d⟩;obtain⟨-,-,-,-,v,-,-,-,y⟩:=c.ns;have q:Xo (a.db.n=2):=dD<|by
  rw[v]
  show(JL (QN 0) nm2.db nm2.dq).length=2
  kernel_rfl
 have u:Xo (a.sp.n=1):=y;clear v y c;go_upto_region 5 with fail;obtain⟨c,y⟩:=kA x.heap.size;obtain⟨v,c⟩:=kB (x.alloc (Xk #[a.f.x,I6 0,a.s.x,a.sb.x,a.sq.x,a.db.x,a.dq.x,a.fl.x,I6 2,a.ca.x,a.sp.x] 41));have a:=gP c
 have x:=xPT c y
 have C:=dD (B.grew (d.trans a));have F:=dD (E.grew (d.trans a));have E:=dD (A.grew (d.trans a));have A:=dD (D.trans (d.trans a));have B:=dD (z.grew (d.trans a));rw[c,y.out];clear c d a;have a:Xp prog 12 #[Xi #[V.f.x,I6 0,V.s.x,V.sb.x,V.sq.x,V.db.x,V.dq.x,V.fl.x,I6 2,V.ca.x,V.sp.x],I6 0] v fun e w'=>e= Xl (Xm #[Xi qf.toArray,I6 5])/\zc v w':=zfP V nm2 0 v B r.w (.inr Dc)
 obtain⟨f,g,h,i,j,k,l,m,n,p,b⟩:=E.box.c11;go_wp2_with fail;refine a.mono ?_;clear a f g h i j k l m n p b;rintro e d ⟨rfl,c⟩;unfold qf;go_upto_region 6 with fail;obtain⟨a,b⟩:=kB (d.alloc (Xk zM.toArray 41));have a:=gP b
 have f:=dD (A.trans (c.trans a));have i:=(F.grew (c.trans a)).box.c 0 rfl;have g:=(C.grew (c.trans a)).box.c 2 rfl;have h:=(x.grew (c.trans a)).box.c 5 rfl;have d:=(x.grew (c.trans a)).box.c 10 rfl;(try simp only[Sli.x]at i g h d);rw[s.out]at i;rw[t.out]at g;rw[q.out]at h;rw[u.out]at d;rw[b];clear b c a;go_wp2;go_ret;exact⟨rfl,f⟩
theorem zh2 {w:Xn} {p:Nat} (h:ChW w0 p w V m) (q:Nat) (t:q<m.sp.length) (n:Int):
  Xp prog 154 #[Xj (Xa ⟨p,0,Xb⟩),Xi #[I6 (q:Int),I6 n]] w fun e w'=>e= Xl (enV (zpW m q n))/\zc w w':=by
 obtain⟨s,u⟩:∃s,m.sp[q]? =Xa s:=⟨_,gE t⟩;obtain⟨b,f,z,A⟩:=h.sp;obtain⟨x,d⟩:∃x,b[q]? =Xa x:=⟨_,gE (Rx z t)⟩
 have g:=dD<|A q x s d u w (qD.refl _ _);obtain⟨B,a⟩:=kA b.length;obtain⟨l,C,b⟩:=f.formS Wm
 rw[a.out]at b;have c:=h.box.box.c 10 rfl;rw[b]at c f;have i:(q:Int)< (B:Int):=Hm a.out
 have a:=dD c;have i:=dD h.box;have a:=(f.one d).sp10;rw[Xu,zA]at a;have j:Xo (∀W,zc w W->zja W ⟨l,q*10,Xb⟩ x):=show∀W,_ from fun W r=>by
  have:=((f.grew r).one d).sp10;rw[Xu,zA]at this;exact this
 have k:=dD b;obtain⟨E,v⟩:=kA (zpW m q n);have D:Xo (∀W,zc w W->Xp prog 82 #[Xi #[x.t0.x,x.t1.x,x.t2.x,x.t3.x,x.t4.x,x.t5.x,x.t6.x,x.t7.x],I6 n] W fun e w'=>e= Xl (enV E)/\zc W w'):=show∀W,_ from fun W r=>by
  have y:=JQ x.tab s.tb n W (g.tb.grew r);rw[show zeh s.tb n=E from by rw[<-v.out];unfold zpW;rw[Sp.getD_of u]]at y
  exact y
 rw[v.out];clear h t u f z A d b c a;obtain⟨s,b⟩:=kB ((w.alloc (Xk #[I6 (q:Int),I6 n] 214)).alloc (Xk #[I6 0,I6 0,Xh Xd] 75));have g:=gD2 b
 have h:=x2a b
 have t:=x2b b
 have c:=dD b;clear b
 go_enter func154,ntmps154
 go_upto_region 1 with fail;rw[c.out];obtain⟨F,r⟩:=kA w.heap.size;rw[r.out]at h t⊢;obtain⟨f,b⟩:=Wq fun u=>zc s u
 have c:=(b _).2 (gW _)
 have G:∀y:zj f,y.world.cell? ⟨p,10,Xb⟩=Xa (O (Xa ⟨l,0,Xb⟩) B C):=fun y=>by rw[<-k.out];exact(i.box.grew (g.trans ((b _).1 y.holds))).c 10 rfl
 have i:=h.h b 0 rfl
 have k:=h.h b 1 rfl
 have a:∀y:zj f,zja y.world ⟨l,q*10,Xb⟩ x:=fun y=>j.out _ (g.trans ((b _).1 y.holds))
 have j:=fun y=>(a y).2.2.1
 have l:=fun y=>(a y).2.2.2.1
 have s:=fun y=>(a y).2.2.2.2.1
 have v:=fun y=>(a y).2.2.2.2.2.1
 have z:=fun y=>(a y).2.2.2.2.2.2.1
 have A:=fun y=>(a y).2.2.2.2.2.2.2.1
 have B:=fun y=>(a y).2.2.2.2.2.2.2.2.1
 have C:=fun y=>(a y).2.2.2.2.2.2.2.2.2
 dsimp only at j l s v z A B C;clear a;have h:Nonempty (zj f):=⟨⟨_,c⟩⟩;refine zQ (I:=f) 13 [(12,fun a=>a=enV E)] (fun u=>True) c trivial z6 Kr rfl rfl Dc (Sa ⟨_,rfl⟩) Kr ?_
 simp only[Xy,Xz];refine zz ?_
 refine z4 (.tmp 5) ⟨p,0,Xb⟩ rfl rfl rfl rfl ?_;refine Uq ?_;iterate 10 refine zz ?_
 refine zI rfl rfl (fun _ u=>True) (fun w' a d=>?_) (fun d f=>?_)
 ·refine zJ.call [Xi #[x.t0.x,x.t1.x,x.t2.x,x.t3.x,x.t4.x,x.t5.x,x.t6.x,x.t7.x],I6 n] rfl func82 rfl rfl rfl ?_;refine(D w' (g.trans ((b _).1 a))).mono ?_;rintro e d ⟨rfl,d⟩;exact⟨_,rfl,(b _).2 (((b _).1 a).trans d),rfl,trivial⟩
 cases f;refine Uq ?_;refine qJ fun a a d=>?_
 have f:=dD<|(b _).1 a;have b:=dD (t.grew f);clear a d c G i k j l s v z A B C h;unfold enV;refine zr rfl 75 (.tmp 4) (.tmp 17) rfl (F+1) rfl [I6 E.kind,I6 E.n,Xh E.wr] rfl b rfl Kr (by simp[Value.oneCell']) ?_
 intro c a b _;have d:Xo (zc w c):=dD<|zd (g.trans f) b (Hm r.out)
 have c:=dD a;clear a b;go_wp2;refine bodyPost_ret (zX rfl _ rfl c underlying75 rfl Kr) rfl ⟨rfl,d⟩
theorem hoF (a) (c:Nat) (fs:List Fr) (h:Int) (i:Nat) (q:Fr) (u:Int) (w:Xn) (F:zl qA w (O a fs.length c) fs) (T:Zt fs h=0) (Q:fs[i]? =Xa q) (bp:(q.r == 0)=Xd) (bo:¬u< -q.r) (bf:¬1000 - q.r<u) (av:q.r+u=0):
  Xp prog 151 #[Xi #[O a fs.length c,I6 h],I6 (i:Int),I6 u] w fun e w'=>∃b,e= Xl (Xm #[Xi #[b,I6 h],I6 0])/\zb qA w.heap.size w' b (fs.set i frF)/\zc w w':=by
 have a1:=dD F;have b6:=dD av;clear av;have I:∀W,zc w W->Xp prog 71 #[Xi #[O a fs.length c,I6 h]] W fun e w'=>e= Xl (I6 (Zt fs h))/\zc W w':=fun W af=>by rw[T];exact QU a c fs h W (a1.grew af) T
 have A:∀W,Xp prog 103 #[I6 (i:Int),I6 (fs.length:Int)] W fun e w'=>e= Xl (Xh (inB (i:Int) fs.length))/\w'=W:=fun W=>Zb (i:Int) _ W
 have ai:∀W,zc w W->Xp prog 86 #[Xi #[O a fs.length c,I6 h]] W fun e w'=>∃b,e= Xl (Xi #[b,I6 h])/\zb qA W.heap.size w' b fs/\zc W w':=fun W af=>J7 a c fs h W (a1.grew af)
 have s:=za9 ((j0 T).2.1 q (mG Q));have t:=(gS.1 Q).1;obtain⟨bl,bm,ag,x⟩:=F.frs;cases ag;obtain⟨b7,rfl,au⟩:=x i q Q;have b5:=dD au;have an:=dD Q;clear x au Q;simp only[show inB (i:Int) fs.length=Xc from by simp[inB];exact t]at A
 have N:=F.short;clear F;simp only[T]at I;clear T;obtain⟨y,G⟩:=kA fs.length;simp only[G.out]at I a1 N A ai t⊢;have be:(i:Int)< (y:Int):=Wm
 obtain⟨bb,bc⟩:=s;obtain⟨ao,j⟩:=kB ((w.alloc (Xk #[O (Xa b7) y c,I6 h] 28)).alloc (Xk #[eS,I6 0] 28));have g:=gD2 j
 have Y:=x2a j
 have ap:=x2b j
 have a2:=dD j;clear j
 go_enter func151,ntmps151
 go_upto_region 1 with fail;rw[a2.out];have aa:=Y.c 0 rfl;have ab:=Y.c 1 rfl;go_wp2_with fail;refine(I _ g).mono ?_;rintro e a6 ⟨rfl,aq⟩;have B:=dD aq;clear aq aa ab I;obtain⟨-,-,-,-,-,-,-,-,b8,-,-,-,-⟩:=b5.out a6 (g.trans B);have aa:=(Y.grew B).c 0 rfl;have ab:=(Y.grew B).c 1 rfl
 go_wp2_with (go_at_call 103;refine(A _).mono ?_;rintro e w' ⟨rfl,R⟩;rw[R];clear R w')
 refine(ai _ (g.trans B)).mono ?_;rintro e C ⟨b,rfl,f,ae⟩;obtain⟨l,D,rfl⟩:=f.formS (by rw[G.out];omega)
 rw[G.out]at f⊢;have a3:=dD f;have am:=dD (B.trans ae);have ac:=dD<|bS ae;clear f ae aa ab ai b8;have bd:=a3.lt l rfl;have bg:l≠C.heap.size:=Wm
 have u8:=(a3.grew (za C (Xk #[O (Xa ⟨l,0,Xb⟩) y D,I6 h] 28))).frc an 8 rfl
 go_wp2_with (refine zD (E:=qA) rfl (.tmp 61) (.tmp 59) 3 rfl a6.heap.size (O (Xa ⟨l,0,Xb⟩) y D) fs (a3.grew (za _ _)) l i 8 rfl q { q with r:=q.r+u } an.out [I6 (q.r+u)] Kr rfl (Yk rfl) (by intro bq aw;simp at aw;subst aw;rfl) _ rfl (by simp[qA]) _ rfl rfl ?_)
 intro K U n ak;have H:=dD U;have ba:=ac.out;have b9:=bS B.out;have bi:=ap.lt;have Z:Xo (Box K C.heap.size [O (Xa ⟨l,0,Xb⟩) y D,I6 h]):=(Box.top C _ _ rfl).beside n (fun M d=>by cases d;omega)
 have m:Xo (Box K (w.heap.size+1) [eS,I6 0]):=((ap.grew am).alloc _).beside n (fun M d=>by cases d;omega)
 have b2:Xo (zc ao K):=zT (am.trans (za _ _)) n (fun M d=>by cases d;omega)
 have a0:Xo ((fs.set i { q with r:=q.r+u })[i]? =Xa { q with r:=q.r+u }):=dD<|by rw[sF (Rx G.out t)]
 clear U n ak u8;have u8:=H.frc a0 8 rfl;have ax:=Z.c 0 rfl;have ay:=Z.c 1 rfl;have az:=m.c 0 rfl;have b0:=m.c 1 rfl;have b1:=m.f;simp only at u8;have bh:(q.r+u == 0)=Xc:=by simp[b6.out]
 go_wp2;have aj:∀X:ze K,X.world.cell? ⟨C.heap.size,0,Xb⟩=Xa (O (Xa ⟨l,0,Xb⟩) y D):=fun X=>(Z.grew X.grew).c 0 rfl
 have P:Nonempty (ze K):=⟨⟨_,zc.refl _⟩⟩;clear u8 ax ay az b0 b1;refine jb 5 [(3,⟨fun v=>v= Xi (frv frF).toArray,fun _ _=>True⟩)] z6 Kr rfl rfl Dc ?_ ?_ ?_
 ·intro X S
  simp at S
  subst S;exact⟨_,rfl⟩
 ·intro X S
  simp at S
  subst S;exact fun _ _ _ _ h=>h
 simp only[Xy,Xz];iterate 3 refine zg ?_
 refine zx rfl rfl (fun w' bn ar=>?_) (fun br F=>?_)
 ·refine zJ.call [] rfl func100 rfl rfl rfl ?_;refine(Jc w').mono ?_;rintro e bj ⟨rfl,ah⟩;exact⟨_,rfl,ah,rfl,trivial⟩
 subst F;simp only[Yh,sB,sS,sZ,frv,frF,pg0];refine zg ?_
 refine qd fun bk k ar=>?_
 have a4:=dD (H.grew k);have a9:=dD (Z.grew k);have a8:=dD (m.grew k);have b3:=dD (b2.trans k);clear ar aj k P
 go_wp2_with (refine qF (E:=qA) rfl (.tmp 73) (.tmp 72) rfl a6.heap.size _ _ a4 l i rfl frF (by rw[Yq,G.out];exact t) _ rfl (by simp[qA]) _ rfl rfl ?_)
 intro a7 V p al;have a5:=dD V;have L:Xo (Box a7 C.heap.size [O (Xa ⟨l,0,Xb⟩) y D,I6 h]):=a9.beside p (fun M d=>by cases d;omega)
 have z:Xo (Box a7 (w.heap.size+1) [eS,I6 0]):=a8.beside p (fun M d=>by cases d;omega)
 have b4:Xo (zc ao a7):=zT b3 p (fun M d=>by cases d;omega)
 clear V p al;have ax:=L.c 0 rfl;have ay:=L.c 1 rfl;have az:=z.c 0 rfl;have b0:=z.c 1 rfl;have b1:=z.f;go_wp2;refine bodyPost_ret (v:= Xm #[Xi #[O (Xa ⟨l,0,Xb⟩) y D,I6 h],I6 0]) (by simp[results,Tryz.results151,go_sem, *]) rfl ⟨_,rfl,?_,?_⟩
 ·exact((a5.setCell (a:=⟨w.heap.size+1,0,Xb⟩) (by show w.heap.size+1<_;omega) _).setCell (a:=⟨w.heap.size+1,1,Xb⟩) (by show w.heap.size+1<_;omega) _).base (Hm (bS g.out))
 exact zq (zq (g.trans b4) Sm _) Sm _
theorem hoG (a) (c:Nat) (fs:List Fr) (h:Int) (i:Nat) (q:Fr) (m:Int) (w:Xn) (M:zl qA w (O a fs.length c) fs) (D:Zt fs h=0) (B:fs[i]? =Xa q) (av:(q.r == 0)=Xd) (au:¬m< -q.r) (an:¬1000 - q.r<m) (aw:(q.r+m == 0)=Xd):
  Xp prog 151 #[Xi #[O a fs.length c,I6 h],I6 (i:Int),I6 m] w fun e w'=>∃b,e= Xl (Xm #[Xi #[b,I6 h],I6 0])/\zb qA w.heap.size w' b (fs.set i { q with r:=q.r+m })/\zc w w':=by
 have Q:=dD M;have N:∀W,zc w W->Xp prog 71 #[Xi #[O a fs.length c,I6 h]] W fun e w'=>e= Xl (I6 (Zt fs h))/\zc W w':=fun W Z=>by rw[D];exact QU a c fs h W (Q.grew Z) D
 have t:∀W,Xp prog 103 #[I6 (i:Int),I6 (fs.length:Int)] W fun e w'=>e= Xl (Xh (inB (i:Int) fs.length))/\w'=W:=fun W=>Zb (i:Int) _ W
 have a0:∀W,zc w W->Xp prog 86 #[Xi #[O a fs.length c,I6 h]] W fun e w'=>∃b,e= Xl (Xi #[b,I6 h])/\zb qA W.heap.size w' b fs/\zc W w':=fun W Z=>J7 a c fs h W (Q.grew Z)
 have l:=za9 ((j0 D).2.1 q (mG B));have u:=(gS.1 B).1;obtain⟨aq,ar,I,n⟩:=M.frs;cases I;obtain⟨af,rfl,a9⟩:=n i q B;have ac:=dD a9;have a3:=dD B;clear n a9 B;simp only[show inB (i:Int) fs.length=Xc from by simp[inB];exact u]at t
 have A:=M.short;clear M;simp only[D]at N;clear D;obtain⟨y,G⟩:=kA fs.length;simp only[G.out]at N Q A t a0 u⊢;have am:(i:Int)< (y:Int):=Wm
 obtain⟨aj,ak⟩:=l;obtain⟨ae,g⟩:=kB ((w.alloc (Xk #[O (Xa af) y c,I6 h] 28)).alloc (Xk #[eS,I6 0] 28));have f:=gD2 g
 have K:=x2a g
 have a5:=x2b g
 have R:=dD g;clear g
 go_enter func151,ntmps151
 go_upto_region 1 with fail;rw[R.out];have U:=K.c 0 rfl;have V:=K.c 1 rfl;go_wp2_with fail;refine(N _ f).mono ?_;rintro e a4 ⟨rfl,a8⟩;have x:=dD a8;clear a8 U V N;obtain⟨-,-,-,-,-,-,-,-,ag,-,-,-,-⟩:=ac.out a4 (f.trans x);have U:=(K.grew x).c 0 rfl;have V:=(K.grew x).c 1 rfl
 go_wp2_with (go_at_call 103;refine(t _).mono ?_;rintro e w' ⟨rfl,C⟩;rw[C];clear C w')
 refine(a0 _ (f.trans x)).mono ?_;rintro e H ⟨b,rfl,d,Y⟩;obtain⟨s,L,rfl⟩:=d.formS (by rw[G.out];omega)
 rw[G.out]at d⊢;have S:=dD d;have a2:=dD (x.trans Y);have X:=dD<|bS Y;clear d Y U V a0 ag;have al:=S.lt s rfl;have ao:s≠H.heap.size:=Wm
 have u8:=(S.grew (za H (Xk #[O (Xa ⟨s,0,Xb⟩) y L,I6 h] 28))).frc a3 8 rfl
 go_wp2_with (refine zD (E:=qA) rfl (.tmp 61) (.tmp 59) 3 rfl a4.heap.size (O (Xa ⟨s,0,Xb⟩) y L) fs (S.grew (za _ _)) s i 8 rfl q { q with r:=q.r+m } a3.out [I6 (q.r+m)] Kr rfl (Yk rfl) (by intro b2 aa;simp at aa;subst aa;rfl) _ rfl (by simp[qA]) _ rfl rfl ?_)
 intro T F k a1;have z:=dD F;have ai:=X.out;have ah:=bS x.out;have ap:=a5.lt;have a6:Xo (Box T H.heap.size [O (Xa ⟨s,0,Xb⟩) y L,I6 h]):=(Box.top H _ _ rfl).beside k (fun a7 j=>by cases j;omega)
 have p:Xo (Box T (w.heap.size+1) [eS,I6 0]):=((a5.grew a2).alloc _).beside k (fun a7 j=>by cases j;omega)
 have ab:Xo (zc ae T):=zT (a2.trans (za _ _)) k (fun a7 j=>by cases j;omega)
 have P:Xo ((fs.set i { q with r:=q.r+m })[i]? =Xa { q with r:=q.r+m }):=dD<|by rw[sF (Rx G.out u)]
 clear F k a1 u8;have u8:=z.frc P 8 rfl;have ax:=a6.c 0 rfl;have ay:=a6.c 1 rfl;have az:=p.c 0 rfl;have b0:=p.c 1 rfl;have b1:=p.f;simp only at u8;go_wp2;refine bodyPost_ret (v:= Xm #[Xi #[O (Xa ⟨s,0,Xb⟩) y L,I6 h],I6 0]) (by simp[results,Tryz.results151,go_sem, *]) rfl ⟨_,rfl,?_,?_⟩
 ·exact((z.setCell (a:=⟨w.heap.size+1,0,Xb⟩) (by show w.heap.size+1<_;omega) _).setCell (a:=⟨w.heap.size+1,1,Xb⟩) (by show w.heap.size+1<_;omega) _).base (Hm (bS f.out))
 exact zq (zq (f.trans ab) Sm _) Sm _
theorem zjX {fs:List Fr} {h k b:Int} (a:zgw fs h k b=0):∃(i:Nat) (q:Fr),k=(i:Int)/\fs[i]? =Xa q/\Zt fs h=0/\q.r≠0/\-q.r<=b/\b<=1000 - q.r/\zfe fs h k b=fs.set i (frH q b)/\zpR fs h k b=h:=by
 have b:=a;unfold zgw at a
 split at a
 ·rename_i c
  split at a
  ·rename_i d
   simp only[inB,Bool.and_eq_true,decide_eq_true_eq,Bool.not_eq_true',beq_eq_false_iff_ne]at d;obtain⟨⟨e,e⟩,f⟩:=d
   split at a
   ·rename_i d
    have g:k.toNat<fs.length:=Wm
    have e:fs.getD k.toNat fr0=fs[k.toNat]:=by rw[gD,gE g];rfl
    rw[e]at f d;refine⟨k.toNat,fs[k.toNat],Wm,gE g,c,f,d.1,d.2,?_,?_⟩
    ·unfold zfe;rw[kE b,e]
    unfold zpR;rw[kE b]
   cases a
  cases a
 rename_i c
 exact absurd a c
theorem znG (a) (c:Nat) (fs:List Fr) (h k d:Int) (w:Xn) (l:zl qA w (O a fs.length c) fs) (f:zgw fs h k d=0):
  Xp prog 151 #[Xi #[O a fs.length c,I6 h],I6 k,I6 d] w fun e w'=>∃b,e= Xl (Xm #[Xi #[b,I6 h],I6 0])/\zb qA w.heap.size w' b (zfe fs h k d)/\zc w w':=by
 obtain⟨m,q,rfl,i,g,j,n,n,n,_⟩:=zjX f;rw[n]
 by_cases f:q.r+d=0
 ·rw[show frH q d=frF from kE f]
  exact hoF a c fs h m q d w l g i (Si j) Wm Wm f
 rw[show frH q d={ q with r:=q.r+d }from kF f]
 exact hoG a c fs h m q d w l g i (Si j) Wm Wm (Si f)
def zao (w0:Xn) (p:Nat) (w:Xn) (V:MaV) (m':Ma) (w':Xn):Prop:=∃V':MaV,V'.ca=V.ca/\ChW w0 p w' V' m'/\qD (Dw p V) w w'/\∀k,Dw p V' k->Dw p V k\/w.heap.size<=k
section
variable{w0 w w1 w2:Xn} {p:Nat} {V V':MaV} {m m':Ma}
theorem zao.chg (h:zao w0 p w V m' w1):Chg w0 p w V m' w1:=by
 obtain⟨a,_,h⟩:=h;exact⟨a,h⟩
theorem zao.refl (h:ChW w0 p w V m) (g:zc w w1):zao w0 p w V m w1:=⟨V,rfl,h.grew g,qD.grew g,fun _ a=> .inl a⟩
theorem zao.of_grew (g:zc w w1) (h:zao w0 p w1 V m' w2):zao w0 p w V m' w2:=by
 obtain⟨a,e,b,d,c⟩:=h;exact⟨a,e,b,(qD.grew g).trans d,Chg.far g c⟩
theorem zao.step {b:MaV} (a:qD (Dw p V) w w1) (d:∀k,Dw p b k->Dw p V k\/w.heap.size<=k) (g:b.ca=V.ca) (i:zao w0 p w1 b m' w2):zao w0 p w V m' w2:=by
 obtain⟨c,f,e,b,h⟩:=i;refine⟨c,f.trans g,e,⟨b.os.trans a.os,b.tape.trans a.tape,b.output.trans a.output,nT a.size b.size,fun c f g=>(b.block c (Yg f a.size) (fun e=>?_)).trans (a.block c f g)⟩,fun k b=>?_⟩
 ·rcases d c e with e|e
  ·exact g e
  omega
 rcases h k b with e|e
 ·exact d k e
 exact .inr (nT a.size e)
theorem ChW.fieldC (h:ChW w0 p w V m) (k:zc w w1) (c:w1.grownBy w2 (Xa p)) (f:V'.f=V.f) (l:V'.ca=V.ca) (q:V'.sp=V.sp) (g:m'.fs=m.fs) (u:m'.ca=m.ca) (r:m'.sp=m.sp) (a:zo w2 p 91 (chL V' m')) (rs:∀W,qD (Dr w0.heap.size p V) w W->qD (Dr w0.heap.size p V) w1 W->zkG W V m->zkG W V' m'):zao w0 p w V m' w2:=by
 have j:qD (Dw p V) w w2:=(qD.grew k).trans (qD.grown c (.inl rfl));have e:Dw p V'=Dw p V:=by unfold Dw;rw[f,l,q]
 have d:Dr w0.heap.size p V'=Dr w0.heap.size p V:=by unfold Dr;rw[e]
 obtain⟨i,x,b,y⟩:=h.sp;refine⟨V',l,⟨h.grOut j,h.lo,a,?_,?_,⟨i,?_,Rx r b,fun t z v s i W b=>?_⟩,fun W b=>?_⟩,j,fun n a=> .inl (by rw[e]at a;exact a)⟩
 ·rw[f,g];exact(h.fs.grew k).grown c (fun g f e=>h.nf g f (by cases e;rfl))
 ·rw[l,u];exact(h.ca.grew k).grown c (fun g f e=>h.nc g f (by cases e;rfl))
 ·rw[q];exact(x.grew k).grown c (fun g f e=>h.ns g f (by cases e;rfl))
 ·rw[d]at b;rw[r]at i;exact y t z v s i W ((j.wide fun n a=> .inr a).trans b)
 rw[d]at b;exact rs W ((j.wide fun n a=> .inr a).trans b) (((qD.grown c (.inr (.inl rfl)))).trans b) (h.rest W ((j.wide fun n a=> .inr a).trans b))
theorem ChW.frameC (h:ChW w0 p w V m) {fs:List Fr} {g:Nat} (c:oB V.f g) (b:w.grownBy w1 (Xa g)) (i:zb qA w0.heap.size w1 (V.f.x) fs):zao w0 p w V { m with fs:=fs } w1:=by
 have d:qD (Dw p V) w w1:=qD.grown b (.inr (.inl c));have f:∀k,Dw p V k->Dw p V k\/w.heap.size<=k:=fun _ a=> .inl a
 obtain⟨q,j,l,n⟩:=h.sp;refine⟨V,rfl,⟨h.grOut d,h.lo,h.box.beside b (fun k e=>by cases e;exact h.nf g c),i,h.ca.grown b (fun k a e=>by cases e;exact h.fc _ c a),⟨q,j.grown b (fun k a e=>by cases e;exact h.fS _ c a),l,fun i x s c b W a=>n i x s c b W (ChW.key d f a)⟩,fun W a=>?_⟩,d,f⟩
 have r:=h.rest W (ChW.key d f a);exact⟨r.sl,r.sb,r.sq,r.db,r.dq,r.fl⟩
end
theorem znj {fs:List Fl} {a k:Int} (h:stW fs a≠0):zmQ fs a k=stW fs a:=by unfold zmQ;rw[kF h]
theorem zlq {fs:List Fl} {a k:Int} (h:stW fs a=0) (b:¬(0<=k/\k< (fs.length:Int))):zmQ fs a k=5:=by unfold zmQ;rw[kE h,kF (Rx Qv b)]
theorem zeW {fs:List Fl} {a:Int} {i:Nat} {f:Fl} (h:stW fs a=0) (b:fs[i]? =Xa f):zmQ fs a (i:Int)=0:=by
 have:=(gS.1 b).1;unfold zmQ;rw[kE h,kE (Qv.2 ⟨Wm,Wm⟩)]
theorem zeb {fs:List Fl} {m:Nat}:jM fs m=(ZR fs (m:Int)).map fun(b:Nat)=>(b:Int):=zjU fs m
theorem zif (v fs) (cnt k x:Int) (w:Xn) (hv:qg w v fs):
  Xp prog 133 #[Xi #[v,I6 cnt],I6 k,I6 x] w fun e w'=>∃b,e= Xl (Xm #[Xi #[b,I6 (zkM fs cnt k x)],I6 (zig fs cnt k x),I6 (j9 fs cnt k x)])/\jo 0 w.heap.size w' b (zha fs cnt k x)/\zc w w':=by
 have h1:∀W,zc w W->Xp prog 158 #[Xi #[v,I6 cnt],I6 k] W fun e w'=>e= Xl (I6 (zmQ fs cnt k))/\zc W w':=fun W hW=>zfA v fs cnt k W (hv.grew hW)
 have h2:∀W,zc w W->Xp prog 36 #[Xi #[v,I6 cnt]] W fun e w'=>∃b,e= Xl (Xi #[b,I6 cnt])/\jg (W.heap.size+2) w' b fs/\zc W w'/\W.heap.size+2<=w'.heap.size:=fun W hW=>zcQ v fs cnt W (hv.grew hW)
 have HV:=dD hv;obtain⟨a,c,rfl,hbig,hrow⟩:=hv.rows;have HR:=dD hrow;clear hv hrow;obtain⟨nF,HN⟩:=kA fs.length;rw[HN.out]at h1 h2 hbig HV⊢;obtain⟨W0,hW0⟩:=kB ((w.alloc (Xk #[O a nF c,I6 cnt] 37)).alloc (Xk #[eS,I6 0] 37));have HG0:=gD2 hW0
 have X0:=x2a hW0
 have Y0:=x2b hW0
 have HW0:Xo (_=W0):=hW0;clear hW0;have bad:∀z:Int,z≠0->(∀W,zc w W->Xp prog 158 #[Xi #[O a nF c,I6 cnt],I6 k] W fun e w'=>e= Xl (I6 z)/\zc W w')->Xp prog 133 #[Xi #[O a nF c,I6 cnt],I6 k,I6 x] w fun e w'=>∃b,e= Xl (Xm #[Xi #[b,I6 0],I6 0,I6 z])/\jo 0 w.heap.size w' b []/\zc w w':=fun z hz h1=>by
  have hzb:(z != 0)=Xc:=Si hz
  clear h2
  go_enter func133,ntmps133
  go_wp2_with fail;rw[HW0.out];refine(h1 _ HG0).mono ?_;rintro e W1 ⟨rfl,g1⟩;have G1:=dD (HG0.trans g1);have Y1:=Y0.grew g1;have y0:=Y1.c 0 rfl;have y1:=Y1.c 1 rfl;have yf:=Y1.f;clear g1 h1;go_wp2;refine bodyPost_ret (v:= Xm #[Xi #[eS,I6 0],I6 0,I6 z]) (by simp[results,Tryz.results133,go_sem, *]) rfl ⟨_,rfl,jo.nil _ _ _,?_⟩
  exact Below.setCell (Below.setCell G1 (p:=⟨w.heap.size+1,0,Xb⟩) Sm _) (p:=⟨w.heap.size+1,1,Xb⟩) Sm _
 rcases zmx fs cnt k x with⟨hw,e1,e2,e3,e4⟩|⟨hw,hk,e1,e2,e3,e4⟩|⟨hw,i,f,rfl,hf,hn,e1,e2,e3,e4⟩|⟨hw,i,f,j,b,rfl,hf,rfl,hj,hb0,hbc,e1,e2,e3,e4⟩|⟨hw,i,f,j,rfl,hf,rfl,hj,hlf,e1,e2,e3,e4⟩|⟨hw,i,f,j,b,l,rfl,hf,rfl,hj,hlf,e1,e2,e3,e4⟩
 ·rw[e1,e2,e3,e4];rw[znj hw]at h1;exact bad _ hw h1
 ·rw[e1,e2,e3,e4];rw[zlq hw hk]at h1;exact bad _ Dc h1
 ·rw[e1,e2,e3,e4];rw[zeW hw hf]at h1;have hil:i<nF:=by rw[<-HN.out];exact(gS.1 hf).1
  have hilz:(i:Int)< (nF:Int):=Wm
  obtain⟨ad,hada,xa0,xc0,hra,hce⟩:=HR.out i f hf;subst hada;have HCE:=dD hce;clear hce hra bad;obtain⟨nb,HNB⟩:=kA f.bl.length;have HF:=dD hf;clear hf;rw[HNB.out]at HCE;have hb:=fun W=>zbi hn W
  rw[HNB.out]at hb;clear e1 e2 e3 e4 h2 hw hn
  go_enter func133,ntmps133
  go_wp2_with fail;rw[HW0.out];refine(h1 _ HG0).mono ?_;rintro e W1 ⟨rfl,g1⟩;have G1:=dD (HG0.trans g1);have x0:=(X0.grew g1).c 0 rfl;obtain⟨d0,d1⟩:=HCE.out W1 G1.out;have Y1:=Y0.grew g1;have y0:=Y1.c 0 rfl;have y1:=Y1.c 1 rfl;have yf:=Y1.f;clear g1 h1
  go_wp2_with (go_at_call 101;refine(hb _).mono ?_;rintro e w' ⟨rfl,hw'⟩;rw[hw'];clear hw' w')
  refine bodyPost_ret (v:= Xm #[Xi #[eS,I6 0],I6 0,I6 9]) (by simp[results,Tryz.results133,go_sem, *]) rfl ⟨_,rfl,jo.nil _ _ _,?_⟩
  exact Below.setCell (Below.setCell G1 (p:=⟨w.heap.size+1,0,Xb⟩) Sm _) (p:=⟨w.heap.size+1,1,Xb⟩) Sm _
 ·rw[e1,e2,e3,e4];rw[zeW hw hf]at h1;have hil:i<nF:=by rw[<-HN.out];exact(gS.1 hf).1
  have hilz:(i:Int)< (nF:Int):=Wm
  obtain⟨ad,hada,xa0,xc0,hra,hce⟩:=HR.out i f hf;subst hada;have HCE:=dD hce;clear hce hra bad;obtain⟨nb,HNB⟩:=kA f.bl.length;have HF:=dD hf;clear hf;rw[HNB.out]at HCE;have hjl:j<nb:=by rw[<-HNB.out];exact(gS.1 hj).1
  have hjz:(j:Int)< (nb:Int):=Wm
  have hb:=fun W=>Zm (m:=(j:Int)) (n:=(nb:Int)) Wm Wm W
  have HJ:=dD hj;have hbb:(b == -1)=Xd:=by simp;omega
  clear hb0 hbc;clear e1 e2 e3 e4 hw hj
  go_enter func133,ntmps133
  go_wp2_with fail;rw[HW0.out];refine(h1 _ HG0).mono ?_;rintro e W1 ⟨rfl,g1⟩;have G1:=dD (HG0.trans g1);have X1:=dD (X0.grew g1);have Y1:=dD (Y0.grew g1);have x0:=X1.c 0 rfl;have x1:=X1.c 1 rfl;obtain⟨d0,d1⟩:=HCE.out W1 G1.out;clear g1 h1
  go_wp2_with (go_at_call 101;refine(hb _).mono ?_;rintro e w' ⟨rfl,hw'⟩;rw[hw'];clear hw' w')
  refine(h2 _ G1).mono ?_;rintro e W2 ⟨b1,rfl,of2,g2,s2⟩;have HB2:Xo (w.heap.size+2<=W1.heap.size):=Y1.lt;obtain⟨xs,k1,k2,k3,k4⟩:=of2;obtain⟨q,hx⟩:∃q,xs[i]? =Xa q:=⟨_,gE (by rw[k2,HN.out];exact hil)⟩
  obtain⟨G,bc,rfl⟩:=k1.formS (by rw[k2,HN.out];omega)
  rw[k2,HN.out]at k1⊢;obtain⟨q1,q2⟩:=k3 i q f hx HF.out;obtain⟨xs0,xa,xn,xc⟩:=q;obtain⟨g,qc,q3⟩:=q2.formS (by rw[HNB.out];omega)
  rw[HNB.out]at q3;have q4:O xa xn xc= O (Xa ⟨g,0,Xb⟩) nb qc:=q3;cases q4;have HX:=dD hx;have HXS:Xo (xs0=f.size):=q1;have K1:=dD k1;have K2:=dD k2;have K3:=dD k3;have K4:=dD k4;have KX:Xo (zb blE (W1.heap.size+2) W2 (O (Xa ⟨g,0,Xb⟩) nb xc) f.bl):=q2;have G2:=dD (G1.trans g2);have HS2:=dD s2;have G12:=dD g2;clear g2 s2 h2 x0 x1 d0 d1 k1 k2 k3 k4 q1 q2 q3 hx hb;go_upto_region 7 with fail;obtain⟨po,hpo⟩:=kB W2.heap.size;obtain⟨W3,hW3⟩:=kB (W2.alloc (Xk #[O (Xa ⟨G,0,Xb⟩) nF bc,I6 cnt] 37));have G23:=gA hW3
  have P3:Xo (zo W3 po 37 [O (Xa ⟨G,0,Xb⟩) nF bc,I6 cnt]):=dD<|by rw[<-hW3];exact zo.top _ _ _ hpo.symm
  have X3:=dD ((X1.grew G12).grew G23);have Y3:=dD ((Y1.grew G12).grew G23);have HPO:Xo (W1.heap.size+2<=po):=show _<=_ by rw[<-hpo];exact HS2.out
  have HP3:=dD P3.box.lt;have G3:=dD (G2.trans G23);have KF3:=dD (K1.grew G23);have KX3:=dD (KX.grew G23);rw[hW3];rw[hpo];clear hW3 hpo;have HCX:Xo (∀W,zc W3 W->W.cell? ⟨G,i*2+1,Xb⟩=Xa (O (Xa ⟨g,0,Xb⟩) nb xc)):=show∀W,_ from fun W hW=>by
   obtain⟨a0,c0,hsl,hrows⟩:=(KF3.grew hW).at.rows;obtain⟨ad,had,hce⟩:=hrows i _ HX.out;cases hsl;cases had;have:=hce _ (zc.refl _) 1 _ rfl;rw[zS,Xu,zA]at this;exact this
  have HCB:Xo (∀W,zc W3 W->W.cell? ⟨g,j,Xb⟩=Xa (I6 b)):=dD<|fun W hW=>by
   obtain⟨a0,c0,hsl,hrows⟩:=(KX3.grew hW).at.nums;obtain⟨ad,had,hce⟩:=hrows j _ HJ.out;cases hsl;cases had;have:=hce _ (zc.refl _);rw[Xu,zA]at this;exact this
  have p0:=P3.box.c 0 rfl;have d1:=HCX.out W3 (zc.refl _);have d2:=HCB.out W3 (zc.refl _);have F3:=dD<|(jg.grew ⟨xs,K1,K2,K3,K4⟩ G23).new
  have p1:=P3.box.c 1 rfl;have y0:=Y3.c 0 rfl;have y1:=Y3.c 1 rfl;have yf:=Y3.f;have hne2:po≠w.heap.size+1:=by have:=HPO.out;have:=HB2.out;omega
  have hne2':¬w.heap.size+1=po:=fun e=>hne2 e.symm
  have hne3:g≠w.heap.size+1:=by have:=(KX3.lt g rfl).1;have:=HB2.out;omega
  have hne3':¬w.heap.size+1=g:=fun e=>hne3 e.symm
  go_wp2
  go_region
  all_goals go_wp2
  all_goals
   refine bodyPost_ret (v:= Xm #[Xi #[O (Xa ⟨G,0,Xb⟩) nF bc,I6 cnt],I6 b,I6 0]) (by simp[results,Tryz.results133,go_sem, *]) rfl ⟨_,rfl,?_,?_⟩
   ·have F6:=F3.less (A0:=0) (A1:=w.heap.size+2) (nR _) (Hm HB2.out)
    exact(((F6.out (Out.setCell _ _ _ (p:=⟨w.heap.size+1,0,Xb⟩) (nZ _) Sm _)).out (Out.setCell _ _ _ (p:=⟨w.heap.size+1,1,Xb⟩) (nZ _) Sm _)).less (nR _) Wm).grew (gW _)
   exact(Below.setCell (Below.setCell G3 (p:=⟨w.heap.size+1,0,Xb⟩) Sm _) (p:=⟨w.heap.size+1,1,Xb⟩) Sm _).drew
 ·rw[e1,e2,e3,e4];rw[zeW hw hf]at h1;have hil:i<nF:=by rw[<-HN.out];exact(gS.1 hf).1
  have hilz:(i:Int)< (nF:Int):=Wm
  obtain⟨ad,hada,xa0,xc0,hra,hce⟩:=HR.out i f hf;subst hada;have HCE:=dD hce;clear hce hra bad;obtain⟨nb,HNB⟩:=kA f.bl.length;have HF:=dD hf;clear hf;rw[HNB.out]at HCE;have hjl:j<nb:=by rw[<-HNB.out];exact(gS.1 hj).1
  have hjz:(j:Int)< (nb:Int):=Wm
  have hb:=fun W=>Zm (m:=(j:Int)) (n:=(nb:Int)) Wm Wm W
  have HJ:=dD hj;obtain⟨mc,hmc⟩:∃mc:Nat,cnt=(mc:Int):=⟨cnt.toNat,by have:=((qi fs cnt).1 hw).1;omega⟩
  subst hmc;have hmc80:mc<=80:=by have:=((qi fs (mc:Int)).1 hw).1;omega
  have h3:∀W,zc w W->Xp prog 159 #[Xi #[O (Xa ad) nF c,I6 (mc:Int)]] W fun e w'=>∃b,e= Xl b/\zb blE (W.heap.size+1) w' b (jM fs mc)/\zc W w':=fun W hW=>ziM _ fs mc hmc80 W (HV.grew hW)
  rw[zeb,hlf]at h3;clear hmc80 hlf;simp only[Xx]at h3;clear e1 e2 e3 e4 hw hj
  go_enter func133,ntmps133
  go_wp2_with fail;rw[HW0.out];refine(h1 _ HG0).mono ?_;rintro e W1 ⟨rfl,g1⟩;have G1:=dD (HG0.trans g1);have X1:=dD (X0.grew g1);have Y1:=dD (Y0.grew g1);have x0:=X1.c 0 rfl;have x1:=X1.c 1 rfl;obtain⟨d0,d1⟩:=HCE.out W1 G1.out;clear g1 h1
  go_wp2_with (go_at_call 101;refine(hb _).mono ?_;rintro e w' ⟨rfl,hw'⟩;rw[hw'];clear hw' w')
  refine(h2 _ G1).mono ?_;rintro e W2 ⟨b1,rfl,of2,g2,s2⟩;have HB2:Xo (w.heap.size+2<=W1.heap.size):=Y1.lt;obtain⟨xs,k1,k2,k3,k4⟩:=of2;obtain⟨q,hx⟩:∃q,xs[i]? =Xa q:=⟨_,gE (by rw[k2,HN.out];exact hil)⟩
  obtain⟨G,bc,rfl⟩:=k1.formS (by rw[k2,HN.out];omega)
  rw[k2,HN.out]at k1⊢;obtain⟨q1,q2⟩:=k3 i q f hx HF.out;obtain⟨xs0,xa,xn,xc⟩:=q;obtain⟨g,qc,q3⟩:=q2.formS (by rw[HNB.out];omega)
  rw[HNB.out]at q3;have q4:O xa xn xc= O (Xa ⟨g,0,Xb⟩) nb qc:=q3;cases q4;have HX:=dD hx;have HXS:Xo (xs0=f.size):=q1;have K1:=dD k1;have K2:=dD k2;have K3:=dD k3;have K4:=dD k4;have KX:Xo (zb blE (W1.heap.size+2) W2 (O (Xa ⟨g,0,Xb⟩) nb xc) f.bl):=q2;have G2:=dD (G1.trans g2);have HS2:=dD s2;have G12:=dD g2;clear g2 s2 h2 x0 x1 d0 d1 k1 k2 k3 k4 q1 q2 q3 hx hb;go_upto_region 7 with fail;obtain⟨po,hpo⟩:=kB W2.heap.size;obtain⟨W3,hW3⟩:=kB (W2.alloc (Xk #[O (Xa ⟨G,0,Xb⟩) nF bc,I6 (mc:Int)] 37));have G23:=gA hW3
  have P3:Xo (zo W3 po 37 [O (Xa ⟨G,0,Xb⟩) nF bc,I6 (mc:Int)]):=dD<|by rw[<-hW3];exact zo.top _ _ _ hpo.symm
  have X3:=dD ((X1.grew G12).grew G23);have Y3:=dD ((Y1.grew G12).grew G23);have HPO:Xo (W1.heap.size+2<=po):=show _<=_ by rw[<-hpo];exact HS2.out
  have HP3:=dD P3.box.lt;have G3:=dD (G2.trans G23);have KF3:=dD (K1.grew G23);have KX3:=dD (KX.grew G23);rw[hW3];rw[hpo];clear hW3 hpo;have HCX:Xo (∀W,zc W3 W->W.cell? ⟨G,i*2+1,Xb⟩=Xa (O (Xa ⟨g,0,Xb⟩) nb xc)):=show∀W,_ from fun W hW=>by
   obtain⟨a0,c0,hsl,hrows⟩:=(KF3.grew hW).at.rows;obtain⟨ad,had,hce⟩:=hrows i _ HX.out;cases hsl;cases had;have:=hce _ (zc.refl _) 1 _ rfl;rw[zS,Xu,zA]at this;exact this
  have HCB:Xo (∀W,zc W3 W->W.cell? ⟨g,j,Xb⟩=Xa (I6 (-1))):=dD<|fun W hW=>by
   obtain⟨a0,c0,hsl,hrows⟩:=(KX3.grew hW).at.nums;obtain⟨ad,had,hce⟩:=hrows j _ HJ.out;cases hsl;cases had;have:=hce _ (zc.refl _);rw[Xu,zA]at this;exact this
  have p0:=P3.box.c 0 rfl;have d1:=HCX.out W3 (zc.refl _);have d2:=HCB.out W3 (zc.refl _);have x0:=X3.c 0 rfl;have x1:=X3.c 1 rfl;go_wp2_with fail;refine(h3 _ G3).mono ?_;rintro e W4 ⟨fr,rfl,ow,g4⟩;obtain⟨fa,fc,rfl⟩:=ow.form;have G4:=dD (G3.trans g4);have Y4:=dD (Y3.grew g4);clear ow g4 h3 x0 x1 p0 d1 d2;have y0:=Y4.c 0 rfl;have y1:=Y4.c 1 rfl;have yf:=Y4.f;simp only[List.length_nil];go_wp2;refine bodyPost_ret (v:= Xm #[Xi #[eS,I6 0],I6 0,I6 10]) (by simp[results,Tryz.results133,go_sem, *]) rfl ⟨_,rfl,jo.nil _ _ _,?_⟩
  exact Below.setCell (Below.setCell G4 (p:=⟨w.heap.size+1,0,Xb⟩) Sm _) (p:=⟨w.heap.size+1,1,Xb⟩) Sm _
 rw[e1,e2,e3,e4];rw[zeW hw hf]at h1;have hil:i<nF:=by rw[<-HN.out];exact(gS.1 hf).1
 have hilz:(i:Int)< (nF:Int):=Wm
 obtain⟨ad,hada,xa0,xc0,hra,hce⟩:=HR.out i f hf;subst hada;have HCE:=dD hce;clear hce hra bad;obtain⟨nb,HNB⟩:=kA f.bl.length;have HF:=dD hf;clear hf;rw[HNB.out]at HCE;have hjl:j<nb:=by rw[<-HNB.out];exact(gS.1 hj).1
 have hjz:(j:Int)< (nb:Int):=Wm
 have hb:=fun W=>Zm (m:=(j:Int)) (n:=(nb:Int)) Wm Wm W
 have HJ:=dD hj;obtain⟨mc,hmc⟩:∃mc:Nat,cnt=(mc:Int):=⟨cnt.toNat,by have:=((qi fs cnt).1 hw).1;omega⟩
 subst hmc;have hmc80:mc<=80:=by have:=((qi fs (mc:Int)).1 hw).1;omega
 have h3:∀W,zc w W->Xp prog 159 #[Xi #[O (Xa ad) nF c,I6 (mc:Int)]] W fun e w'=>∃b,e= Xl b/\zb blE (W.heap.size+1) w' b (jM fs mc)/\zc W w':=fun W hW=>ziM _ fs mc hmc80 W (HV.grew hW)
 rw[zeb,hlf]at h3;clear hmc80 hlf;rw[mP]at h3;obtain⟨lz,HLZ⟩:=kA ((b:Int) ::(l.map fun(b:Nat)=>(b:Int)))
 rw[HLZ.out]at h3;have HL0:Xo (lz[0]? =Xa (b:Int)):=dD<|by rw[<-HLZ.out];rfl
 have HL1:Xo (0<lz.length):=dD<|by rw[<-HLZ.out];simp
 clear e1 e2 e3 e4 hw hj
 go_enter func133,ntmps133
 go_wp2_with fail;rw[HW0.out];refine(h1 _ HG0).mono ?_;rintro e W1 ⟨rfl,g1⟩;have G1:=dD (HG0.trans g1);have X1:=dD (X0.grew g1);have Y1:=dD (Y0.grew g1);have x0:=X1.c 0 rfl;have x1:=X1.c 1 rfl;obtain⟨d0,d1⟩:=HCE.out W1 G1.out;clear g1 h1
 go_wp2_with (go_at_call 101;refine(hb _).mono ?_;rintro e w' ⟨rfl,hw'⟩;rw[hw'];clear hw' w')
 refine(h2 _ G1).mono ?_;rintro e W2 ⟨b1,rfl,of2,g2,s2⟩;have HB2:Xo (w.heap.size+2<=W1.heap.size):=Y1.lt;obtain⟨xs,k1,k2,k3,k4⟩:=of2;obtain⟨q,hx⟩:∃q,xs[i]? =Xa q:=⟨_,gE (by rw[k2,HN.out];exact hil)⟩
 obtain⟨G,bc,rfl⟩:=k1.formS (by rw[k2,HN.out];omega)
 rw[k2,HN.out]at k1⊢;obtain⟨q1,q2⟩:=k3 i q f hx HF.out;obtain⟨xs0,xa,xn,xc⟩:=q;obtain⟨g,qc,q3⟩:=q2.formS (by rw[HNB.out];omega)
 rw[HNB.out]at q3;have q4:O xa xn xc= O (Xa ⟨g,0,Xb⟩) nb qc:=q3;cases q4;have HX:=dD hx;have HXS:Xo (xs0=f.size):=q1;have K1:=dD k1;have K2:=dD k2;have K3:=dD k3;have K4:=dD k4;have KX:Xo (zb blE (W1.heap.size+2) W2 (O (Xa ⟨g,0,Xb⟩) nb xc) f.bl):=q2;have G2:=dD (G1.trans g2);have HS2:=dD s2;have G12:=dD g2;clear g2 s2 h2 x0 x1 d0 d1 k1 k2 k3 k4 q1 q2 q3 hx hb;go_upto_region 7 with fail;obtain⟨po,hpo⟩:=kB W2.heap.size;obtain⟨W3,hW3⟩:=kB (W2.alloc (Xk #[O (Xa ⟨G,0,Xb⟩) nF bc,I6 (mc:Int)] 37));have G23:=gA hW3
 have P3:Xo (zo W3 po 37 [O (Xa ⟨G,0,Xb⟩) nF bc,I6 (mc:Int)]):=dD<|by rw[<-hW3];exact zo.top _ _ _ hpo.symm
 have X3:=dD ((X1.grew G12).grew G23);have Y3:=dD ((Y1.grew G12).grew G23);have HPO:Xo (W1.heap.size+2<=po):=show _<=_ by rw[<-hpo];exact HS2.out
 have HP3:=dD P3.box.lt;have G3:=dD (G2.trans G23);have KF3:=dD (K1.grew G23);have KX3:=dD (KX.grew G23);rw[hW3];rw[hpo];clear hW3 hpo;have HCX:Xo (∀W,zc W3 W->W.cell? ⟨G,i*2+1,Xb⟩=Xa (O (Xa ⟨g,0,Xb⟩) nb xc)):=show∀W,_ from fun W hW=>by
  obtain⟨a0,c0,hsl,hrows⟩:=(KF3.grew hW).at.rows;obtain⟨ad,had,hce⟩:=hrows i _ HX.out;cases hsl;cases had;have:=hce _ (zc.refl _) 1 _ rfl;rw[zS,Xu,zA]at this;exact this
 have HCB:Xo (∀W,zc W3 W->W.cell? ⟨g,j,Xb⟩=Xa (I6 (-1))):=dD<|fun W hW=>by
  obtain⟨a0,c0,hsl,hrows⟩:=(KX3.grew hW).at.nums;obtain⟨ad,had,hce⟩:=hrows j _ HJ.out;cases hsl;cases had;have:=hce _ (zc.refl _);rw[Xu,zA]at this;exact this
 have p0:=P3.box.c 0 rfl;have d1:=HCX.out W3 (zc.refl _);have d2:=HCB.out W3 (zc.refl _);have x0:=X3.c 0 rfl;have x1:=X3.c 1 rfl;go_wp2_with fail;refine(h3 _ G3).mono ?_;rintro e W4 ⟨fr,rfl,ow,g4⟩;obtain⟨gf,fc,rfl⟩:=ow.formS HL1.out;have f0:W4.cell? ⟨gf,0,Xb⟩=Xa (I6 (b:Int)):=by
  obtain⟨a0,c0,hsl,hrows⟩:=ow.at.nums;obtain⟨ad,had,hce⟩:=hrows 0 _ HL0.out;cases hsl;cases had;have:=hce _ (zc.refl _);rw[Xu,zA]at this;exact this
 have G4:=dD (G3.trans g4);have G34:=dD g4;have KX4:=dD (KX3.grew g4);have KF4:=dD (KF3.grew g4);have P4:=dD (P3.grew g4);have Y4:=dD (Y3.grew g4);have hgb:=(KX3.lt g rfl).1;obtain⟨nl,HNL⟩:=kA lz.length;have hnl:0<nl:=Ry HNL.out HL1.out
 have hnlz:(0:Int)< (nl:Int):=Wm
 have hnlb:((nl:Int) == 0)=Xd:=by simp;omega
 rw[HNL.out];clear ow g4 h3 x0 x1 p0 d1 d2
 go_wp2_with (refine qF (E:=blE) rfl (.tmp 55) (.tmp 54) rfl (W1.heap.size+2) _ f.bl KX4 g j rfl (b:Int) ?t1 ⟨g,j,Xb⟩ rfl ?t2 (I6 (b:Int)) rfl rfl ?_)
 case t1=>rw[HNB.out];exact hjl
 case t2=>show _=Addr.mk g (j*1) Xb;rw[Yp]
 intro W5 ow5 gr5 _;have KX5:=dD ow5;have P5:Xo (Box W5 po [O (Xa ⟨G,0,Xb⟩) nF bc,I6 (mc:Int)]):=P4.box.grown gr5 (fun e=>KX4.ne P4 Dc g rfl e)
 have Y5:Xo (Box W5 (w.heap.size+1) [eS,I6 0]):=Y4.grown gr5 (Hm HB2.out)
 have G5:Xo (zc w W5):=dD<|zd G4 gr5 (Hm HB2.out)
 have F5:Xo (jo 0 (W1.heap.size+2) W5 (O (Xa ⟨G,0,Xb⟩) nF bc) (fs.set i ⟨f.size,f.bl.set j (b:Int)⟩)):=dD<|by
  have of5:=KF4.grown gr5 (fun g' hg' e'=>by cases e';exact KF4.apart KX4 (Ne.symm zfN) g hg' rfl)
  refine⟨of5.cap,xs,of5.new.stays,by simp[K2.out],fun p q f' hq hf'=>?_⟩
  by_cases e:p=i
  ·subst e;rw[sF (Rx HN.out hil)]at hf'
   rw[HX.out]at hq;cases hq;cases hf';exact⟨HXS,KX5.new.stays⟩
  rw[sN (fun h=>e h.symm)]at hf'
  obtain⟨q1,q2⟩:=K3.out p q f' hq hf';have o4:=q2.grew (G23.trans G34);exact⟨q1,(o4.grown gr5 (fun g' hg' e'=>by cases e';exact K4 i p _ q (fun h=>e h.symm) HX hq g rfl hg')).new.stays⟩
 have d2:W5.cell? ⟨g,j,Xb⟩=Xa (I6 (b:Int)):=by
  obtain⟨a0,c0,hsl,hrows⟩:=ow5.at.nums;obtain⟨ad,had,hce⟩:=hrows j (b:Int) (by rw[sF (Rx HNB.out hjl)])
  cases hsl;cases had;have:=hce _ (zc.refl _);rw[Xu,zA]at this;exact this
 clear ow5 gr5 f0;have p0:=P5.c 0 rfl;have p1:=P5.c 1 rfl;have y0:=Y5.c 0 rfl;have y1:=Y5.c 1 rfl;have yf:=Y5.f;have hne2:po≠w.heap.size+1:=by have:=HPO.out;have:=HB2.out;omega
 have hne2':¬w.heap.size+1=po:=fun e=>hne2 e.symm
 have hne3:g≠w.heap.size+1:=Hm HB2.out
 have hne3':¬w.heap.size+1=g:=fun e=>hne3 e.symm
 go_wp2
 go_region
 all_goals go_wp2
 all_goals
  refine bodyPost_ret (v:= Xm #[Xi #[O (Xa ⟨G,0,Xb⟩) nF bc,I6 (mc:Int)],I6 (b:Int),I6 0]) (by simp[results,Tryz.results133,go_sem, *]) rfl ⟨_,rfl,?_,?_⟩
  ·have F6:=F5.less (A0:=0) (A1:=w.heap.size+2) (nR _) (Hm HB2.out)
   exact(((F6.out (Out.setCell _ _ _ (p:=⟨w.heap.size+1,0,Xb⟩) (nZ _) Sm _)).out (Out.setCell _ _ _ (p:=⟨w.heap.size+1,1,Xb⟩) (nZ _) Sm _)).less (nR _) Wm).grew (gW _)
  exact(Below.setCell (Below.setCell G5 (p:=⟨w.heap.size+1,0,Xb⟩) Sm _) (p:=⟨w.heap.size+1,1,Xb⟩) Sm _).drew
section
variable{w0 w w1 w2:Xn} {p:Nat} {V:MaV} {m:Ma}
theorem ChW.setFl (h:ChW w0 p w V m) {b:Sli} {fl:List Fl} {c:Int} (d:zc w w1) (g:w.heap.size<=B) (f:jo 0 B w1 (b.x) fl) (e:w1.grownBy w2 (Xa p)) (a:zo w2 p 91 (chL { V with fl:=b } { m with fl:=fl,cnt:=c })):zao w0 p w V { m with fl:=fl,cnt:=c } w2:=
 h.fieldC (V':={ V with fl:=b }) (m':={ m with fl:=fl,cnt:=c }) d e rfl rfl rfl rfl rfl rfl a (fun W _ a r=>⟨r.sl,r.sb,r.sq,r.db,r.dq,(f.out ⟨a.os,a.tape,a.output,a.size,fun k d e=>a.block k d (fun e=>Hm (h.drt k e))⟩).now0⟩)
theorem ChW.setDk (h:ChW w0 p w V m) {d q:Sli} {a:List (List Int)} {b:List (Int × List Int)} (e:zc w w1) (i:w.heap.size<=B) (g:qa B w1 (Xi #[d.x,q.x]) a b) (f:w1.grownBy w2 (Xa p)) (c:zo w2 p 91 (chL { V with db:=d,dq:=q } { m with db:=a,dq:=b })):zao w0 p w V { m with db:=a,dq:=b } w2:=
 h.fieldC (V':={ V with db:=d,dq:=q }) (m':={ m with db:=a,dq:=b }) e f rfl rfl rfl rfl rfl rfl c (fun W _ b r=>by
  have k:=(g.staysD (fun k a=>Hm (h.drt k a)) b).rows
  exact⟨r.sl,r.sb,r.sq,k.1,k.2,r.fl⟩)
end
def wrM (m:Ma) (pg:List Int) (file idx:Int):Ma:=
 if j9 m.fl m.cnt file idx=0 then{ m with fl:=zha m.fl m.cnt file idx,cnt:=zkM m.fl m.cnt file idx,db:=ja m.db m.dq (zig m.fl m.cnt file idx),dq:=jh m.db m.dq (zig m.fl m.cnt file idx) pg }else m
theorem zdm {w:Xn} {p:Nat} (h:ChW w0 p w V m) (c:List Int) (hp:c.length=8) (file a:Int):
  Xp prog 96 #[Xj (Xa ⟨p,0,Xb⟩),Xi (pgc c).toArray,I6 file,I6 a] w fun e w'=>e= Xl (Xh (decide (j9 m.fl m.cnt file a=0)))/\zao w0 p w V (wrM m c file a) w':=by
 have x:=dD h;obtain⟨E,d⟩:=kA (j9 m.fl m.cnt file a);obtain⟨C,u⟩:=kA (zkM m.fl m.cnt file a);obtain⟨B,q⟩:=kA (zig m.fl m.cnt file a);have D:Xo (∀W,zc w W->Xp prog 133 #[Xi #[V.fl.x,I6 m.cnt],I6 file,I6 a] W fun e w'=>∃b:Sli,e= Xl (Xm #[Xi #[b.x,I6 C],I6 B,I6 E])/\jo 0 W.heap.size w' (b.x) (zha m.fl m.cnt file a)/\zc W w'):=show∀W,_ from fun W G=>by
  rw[<-d.out,<-u.out,<-q.out];refine(zif _ m.fl m.cnt file a W (h.at.grew G).fl).mono ?_;rintro e w' ⟨b,rfl,F,L⟩;obtain⟨f,M,rfl,_⟩:=qg.rows F.now0;exact⟨⟨f,_,M⟩,rfl,F,L⟩
 have v:Xo (E=0->wrM m c file a={({ m with fl:=zha m.fl m.cnt file a,cnt:=C }:Ma)with db:=ja m.db m.dq B,dq:=jh m.db m.dq B c }):=dD<|fun h=>by
  unfold wrM;rw[kE (d.trans h),u.out,q.out]
 have A:Xo (E≠0->wrM m c file a=m):=dD<|fun h=>by
  unfold wrM;rw[kF (fun e=>h (d.symm.trans e))]
 rw[d.out];obtain⟨R,f⟩:=kA (decide (E=0));rw[f.out];have H:p<w.heap.size:=h.dlt p (.inl rfl);obtain⟨N,z⟩:=kA (wrM m c file a);rw[z.out]at v A⊢;obtain⟨i,j,k,l,n,r,s,t,d⟩:=zdB c hp;have y:=dD d;have g:pgc c=[U8 i,U8 j,U8 k,U8 l,U8 n,U8 r,U8 s,U8 t]:=Rr d
 rw[g];clear h hp d g;obtain⟨b,q⟩:=kA w.heap.size;obtain⟨K,d⟩:=kB (w.alloc (Xk #[U8 i,U8 j,U8 k,U8 l,U8 n,U8 r,U8 s,U8 t] 60));have g:=gA d
 have P:=xP d q
 have h:=dD d;clear d;rw[q.out]at H
 go_enter func96,ntmps96
 go_upto_region 1 with fail;rw[h.out,q.out];have h:=(x.box.box.grew g).c 7 rfl;have q:=(x.box.box.grew g).c 8 rfl;have d:=D.out K g.out;go_wp2_with fail;refine d.mono ?_;clear d h q;rintro e q ⟨K,rfl,F,D⟩;have N:=dD F;have h:=dD D;clear F D;go_upto_region 2 with fail;obtain⟨M,u⟩:=kA q.heap.size;obtain⟨d,d⟩:=kB (q.alloc (Xk #[K.x,I6 C] 37));have q:=gA d
 have F:=xP d u
 rw[d,u.out];clear d
 by_cases d:E=0
 rotate_left
 ·have u:(E != 0)=Xc:=by simp[d]
  have H:=dD<|f.symm.trans (decide_eq_false d);have z:=dD<|A.out d;clear d;go_wp2;go_ret;exact⟨Rr H.out,by rw[z.out];exact zao.refl x (g.trans (h.trans q))⟩
 have u:(E != 0)=Xd:=by simp[d]
 have H:=dD<|f.symm.trans (decide_eq_true d);have z:=dD<|v.out d;clear d;have d:=dD (g.trans (h.trans q));have R:=F.c 0 rfl;have S:=F.c 1 rfl;have f:=dD (x.box.grew d)
 go_upto_region 5 with(refine Zf rfl 37 (.tmp 30) (.tmp 27) rfl p 7 rfl (Xi #[K.x,I6 C]) rfl [K.x,I6 C] rfl f (by simp[chL]) Kr (by simp[Value.oneCell']) ?_)
 intro v u f _;have Q:Xo (Box v b [U8 i,U8 j,U8 k,U8 l,U8 n,U8 r,U8 s,U8 t]):=dD<|(P.grew (h.trans q)).grown f Wm
 obtain⟨h,F,A,M,E⟩:=x.setFl d (bS g) (N.grew q) f u;have Z:=dD F;have K:=dD A;have a0:=dD M;have Y:=dD E;have X:Xo (∀W,zc v W->Xp prog 128 #[Xi #[h.db.x,h.dq.x],I6 B,Xi #[U8 i,U8 j,U8 k,U8 l,U8 n,U8 r,U8 s,U8 t]] W fun e w'=>∃d q:Sli,e= Xl (Xm #[Xi #[d.x,q.x],I6 (zk m.db.length m.dq B)])/\qa W.heap.size w' (Xi #[d.x,q.x]) (ja m.db m.dq B) (jh m.db m.dq B c)/\zc W w'):=show∀W,_ from fun W G=>by
  have g:=zfE (Xi #[h.db.x,h.dq.x]) m.db m.dq B c (Rr y.out) W ⟨_,_,rfl,(A.at.grew G).db,(A.at.grew G).dq⟩
  rw[show pgc c=[U8 i,U8 j,U8 k,U8 l,U8 n,U8 r,U8 s,U8 t] by rw[y.out];rfl]at g
  refine g.mono ?_;rintro e w' ⟨g,rfl,g,L⟩;obtain⟨d,q,rfl,_,_⟩:=g.form;exact⟨d,q,rfl,g,L⟩
 have g:p<v.heap.size:=A.dlt p (.inl rfl);clear u f A M E F R S;try simp only[Yh]
 go_upto_region 5 with fail;obtain⟨U,f⟩:=kA (zk m.db.length m.dq B);rw[f.out]at X;obtain⟨g,f⟩:=Wq fun u=>Box u b [U8 i,U8 j,U8 k,U8 l,U8 n,U8 r,U8 s,U8 t]
 have x:=(f _).2 (Q.grew (gW _))
 have A:zc v v.drew:=show Below _ _ _ from(bR _ _).drew
 have L:∀y:zj g,y.world.cell? ⟨b,0,Xb⟩=Xa (U8 i):=fun y=>((f _).1 y.holds).c 0 rfl
 have M:∀y:zj g,y.world.cell? ⟨b,1,Xb⟩=Xa (U8 j):=fun y=>((f _).1 y.holds).c 1 rfl
 have N:∀y:zj g,y.world.cell? ⟨b,2,Xb⟩=Xa (U8 k):=fun y=>((f _).1 y.holds).c 2 rfl
 have P:∀y:zj g,y.world.cell? ⟨b,3,Xb⟩=Xa (U8 l):=fun y=>((f _).1 y.holds).c 3 rfl
 have Q:∀y:zj g,y.world.cell? ⟨b,4,Xb⟩=Xa (U8 n):=fun y=>((f _).1 y.holds).c 4 rfl
 have R:∀y:zj g,y.world.cell? ⟨b,5,Xb⟩=Xa (U8 r):=fun y=>((f _).1 y.holds).c 5 rfl
 have S:∀y:zj g,y.world.cell? ⟨b,6,Xb⟩=Xa (U8 s):=fun y=>((f _).1 y.holds).c 6 rfl
 have T:∀y:zj g,y.world.cell? ⟨b,7,Xb⟩=Xa (U8 t):=fun y=>((f _).1 y.holds).c 7 rfl
 have G:Nonempty (zj g):=⟨⟨_,x⟩⟩;refine zQ (I:=g) 16 [(5,fun y=>y= Xi #[h.db.x,h.dq.x]),(8,fun y=>∃d q:Sli,y= Xm #[Xi #[d.x,q.x],I6 U]),(15,fun _=>True)] (fun u=>zc v u) x A z6 Kr rfl rfl Dc (Sc ⟨_,rfl⟩ ⟨_,zG,zG,rfl⟩ ⟨undef,trivial⟩) Kr ?_
 simp only[Xy,Xz];iterate 2 refine zz ?_
 refine z4 (.tmp 33) ⟨p,0,Xb⟩ rfl rfl rfl rfl ?_;refine Uq ?_;iterate 2 refine zz ?_
 refine zI rfl rfl (fun _ u=>zc v u) (fun w' g b=>?_) (fun W F=>?_)
 ·refine zdl 34 (.tmp 36) rfl p 5 rfl [h.db.x,h.dq.x] ((K.box.box.grew b).mid 5 (fun a4 y E=>by
   match a4,E with
   | 0,E=>exact E
   | 1,E=>exact E)) underlying34 rfl Kr ⟨g,rfl,b⟩
 cases F;refine Uq ?_;iterate 2 refine zz ?_
 refine zI rfl rfl (fun y u=>∃(d q:Sli) (E:Xn),y= Xm #[Xi #[d.x,q.x],I6 U]/\zc v E/\zc E u/\qa E.heap.size u (Xi #[d.x,q.x]) (ja m.db m.dq B) (jh m.db m.dq B c)) (fun w' g b=>?_) (fun W F=>?_)
 ·refine zJ.call [Xi #[h.db.x,h.dq.x],I6 B,Xi #[U8 i,U8 j,U8 k,U8 l,U8 n,U8 r,U8 s,U8 t]] rfl func128 rfl rfl rfl ?_;refine(X w' b).mono ?_;rintro e h ⟨d,q,rfl,h,D⟩;exact⟨_,rfl,(f _).2 (((f _).1 g).grew D),⟨d,q,rfl⟩,d,q,w',rfl,b,D,h⟩
 obtain⟨d,q,rfl⟩:=F;refine Uq ?_;iterate 3 refine zz ?_
 refine z4 (.tmp 32) ⟨p,0,Xb⟩ rfl rfl rfl rfl ?_;refine Uq ?_;iterate 2 refine zz ?_
 refine zI rfl rfl (fun _ u=>zao w0 p w V {({ m with fl:=zha m.fl m.cnt file a,cnt:=C }:Ma)with db:=ja m.db m.dq B,dq:=jh m.db m.dq B c } u) (fun w' g b=>?_) (fun W F=>?_)
 ·obtain⟨a,c,E,i,h,j,k⟩:=b;have b:a=d/\c=q:=by
   obtain⟨l,l,l⟩:=d;obtain⟨d,d,d⟩:=a;obtain⟨d,d,d⟩:=q;obtain⟨d,d,d⟩:=c;simp only[Value.tuple.injEq,Array.mk.injEq,List.cons.injEq,Value.agg.injEq,vJ,and_true]at i;obtain⟨⟨rfl,rfl,rfl⟩,rfl,rfl,rfl⟩:=i;exact⟨rfl,rfl⟩
  obtain⟨rfl,rfl⟩:=b;have d:=h.trans j;refine ZZ 34 (.tmp 45) (.tmp 41) rfl p 5 rfl (Xi #[a.x,c.x]) rfl [a.x,c.x] rfl (K.box.grew d) (by simp[chL]) Kr (by simp[Value.oneCell']) ?_
  intro c b a _;exact⟨(f _).2 (((f _).1 g).grown a Wm),trivial,zao.step a0 Y Z (K.setDk d (bS h) k a b)⟩
 clear F;try simp only[Yh]
 refine qJ fun c b a=>?_
 have c:=dD a;clear b a x A L M N P Q R S T G;go_wp2;go_ret;exact⟨Rr H.out,Rx z.out c⟩
theorem zbX {w:Xn} {p:Nat} (u:ChW w0 p w V m) (f:Fr) (fi ix:Nat) (F:Fl) (X:f.f=(fi:Int)) (M:f.x=(ix:Int)) (K:m.fl[fi]? =Xa F) (b:0<=F.size/\F.size<=96) (hi:ix<=12):
  Xp prog 97 #[Xj (Xa ⟨p,0,Xb⟩),Xi (frv f).toArray] w fun e w'=>e= Xl (Xi (pgc (jV (pgL f.p) (ix:Int) F.size)).toArray)/\(jV (pgL f.p) (ix:Int) F.size).length=8/\zc w w':=by
 have Y:=dD u;obtain⟨a,c,a,_,h⟩:=qg.rows u.at.fl;simp only[vJ]at a;obtain⟨d,P,N⟩:=a;obtain⟨i,U,a,a,_,c⟩:=h fi F K;have y:=dD<|d.trans U;have a:(fi:Int)< (V.fl.n:Int):=by
  have:=(gS.1 K).1;omega
 obtain⟨s,a⟩:=kA F.size;rw[a.out]at b⊢;have g:Xo (∀W,zc w W->W.cell? (i.add (fi*2))=Xa (I6 s)):=dD<|fun W T=>by
  have:=(c W T).1;rw[a.out]at this;exact this
 have a:(jV (pgL f.p) (ix:Int) s).length=8:=by unfold jV;simp[pgL]
 have Q:Xo (∀W,Xp prog 134 #[Xi (pgc (pgL f.p)).toArray,I6 (s -(ix:Int)*8)] W fun e w'=>e= Xl (Xi (pgc (jV (pgL f.p) (ix:Int) s)).toArray)/\zc W w'):=dD<|fun W=>by
  have k:=zcN (pgL f.p) (s -(ix:Int)*8) W rfl Wm Wm
  rw[zmm]at k;exact k.mono fun e w' q=>⟨q.1,q.2.2⟩
 obtain⟨z,A,B,C,D,E,G,H,b⟩:=zdB _ a;rw[b]at Q⊢;obtain⟨⟨j,k,l,n,q,r,t,v⟩,R,S,L,Z,Z⟩:=f;dsimp only at X M;subst X;subst M;simp only[pgL,pgc,frv,mP,Xx]at Q⊢;have X:Xo ([z,A,B,C,D,E,G,H].length=8):=dD<|rfl
 clear u d P N U c h K a b;obtain⟨c,P⟩:=kA w.heap.size;obtain⟨d,a⟩:=kB ((w.alloc (Xk #[U8 j,U8 k,U8 l,U8 n,U8 q,U8 r,U8 t,U8 v,I6 R,Xh S,Xh L,I6 (fi:Int),I6 (ix:Int)] 62)).alloc (Xk #[U8 0,U8 0,U8 0,U8 0,U8 0,U8 0,U8 0,U8 0] 60));have N:=gD2 a
 have U:Xo (Box d c [U8 j,U8 k,U8 l,U8 n,U8 q,U8 r,U8 t,U8 v,I6 R,Xh S,Xh L,I6 (fi:Int),I6 (ix:Int)]):=dD<|by rw[<-a];exact(Box.top _ _ _ P.symm).alloc _
 have a5:Xo (zo d (c+1) 60 (pgc zp)):=dD<|by rw[<-a];exact zo.top _ (pgc zp) _ (by simp[P.out])
 have b:=dD a;clear a
 go_enter func97,ntmps97
 go_upto_region 1 with fail;rw[b.out,P.out];have K:zc d d.drew:=show Below _ _ _ from(bR _ _).drew
 obtain⟨b,a⟩:=Wq fun u=>(Box u c [U8 j,U8 k,U8 l,U8 n,U8 q,U8 r,U8 t,U8 v,I6 R,Xh S,Xh L,I6 (fi:Int),I6 (ix:Int)])/\u.cell? ⟨p,7,Xb⟩=Xa (O (Xa i) V.fl.n V.fl.c)/\u.cell? (i.add (fi*2))=Xa (I6 s)
 have h:∀W,zc w W->W.cell? ⟨p,7,Xb⟩=Xa (O (Xa i) V.fl.n V.fl.c):=fun W T=>by
  have:=(Y.box.box.grew T).c 7 rfl;rw[y.out]at this;exact this
 have R:=dD h
 clear h;have h:b d.drew:=(a _).2 ⟨U.grew K,R _ (N.trans K),g _ (N.trans K)⟩;have L:zc d d.drew:=K;have S:∀y:zj b,y.world.cell? ⟨c,0,Xb⟩=Xa (U8 j):=fun y=>((a _).1 y.holds).1.c 0 rfl
 have T:∀y:zj b,y.world.cell? ⟨c,1,Xb⟩=Xa (U8 k):=fun y=>((a _).1 y.holds).1.c 1 rfl
 have U:∀y:zj b,y.world.cell? ⟨c,2,Xb⟩=Xa (U8 l):=fun y=>((a _).1 y.holds).1.c 2 rfl
 have W:∀y:zj b,y.world.cell? ⟨c,3,Xb⟩=Xa (U8 n):=fun y=>((a _).1 y.holds).1.c 3 rfl
 have X:∀y:zj b,y.world.cell? ⟨c,4,Xb⟩=Xa (U8 q):=fun y=>((a _).1 y.holds).1.c 4 rfl
 have Y:∀y:zj b,y.world.cell? ⟨c,5,Xb⟩=Xa (U8 r):=fun y=>((a _).1 y.holds).1.c 5 rfl
 have Z:∀y:zj b,y.world.cell? ⟨c,6,Xb⟩=Xa (U8 t):=fun y=>((a _).1 y.holds).1.c 6 rfl
 have a0:∀y:zj b,y.world.cell? ⟨c,7,Xb⟩=Xa (U8 v):=fun y=>((a _).1 y.holds).1.c 7 rfl
 have a1:∀y:zj b,y.world.cell? ⟨c,11,Xb⟩=Xa (I6 (fi:Int)):=fun y=>((a _).1 y.holds).1.c 11 rfl
 have a4:∀y:zj b,y.world.cell? ⟨c,12,Xb⟩=Xa (I6 (ix:Int)):=fun y=>((a _).1 y.holds).1.c 12 rfl
 have a2:∀y:zj b,y.world.cell? ⟨p,7,Xb⟩=Xa (O (Xa i) V.fl.n V.fl.c):=fun y=>((a _).1 y.holds).2.1
 have a3:∀y:zj b,y.world.cell? (i.add (fi*2))=Xa (I6 s):=fun y=>((a _).1 y.holds).2.2
 have y:Nonempty (zj b):=⟨⟨_,h⟩⟩;refine zQ (I:=b) 19 [(17,fun b=>b= Xi #[U8 z,U8 A,U8 B,U8 C,U8 D,U8 E,U8 G,U8 H]),(18,fun _=>True)] (fun u=>zc d u) h L z6 Kr rfl rfl Dc (Sb ⟨_,rfl⟩ ⟨undef,trivial⟩) Kr ?_
 simp only[Xy,Xz];iterate 3 refine zz ?_
 refine z4 (.tmp 7) ⟨p,0,Xb⟩ rfl rfl rfl rfl ?_;refine Uq ?_;iterate 13 refine zz ?_
 refine zI rfl rfl (fun _ u=>zc d u) (fun w' d b=>?_) (fun a6 M=>?_)
 ·refine zJ.call [Xi #[U8 j,U8 k,U8 l,U8 n,U8 q,U8 r,U8 t,U8 v],I6 (s -(ix:Int)*8)] rfl func134 rfl rfl rfl ?_;refine(Q w').mono ?_;rintro e i ⟨rfl,i⟩;obtain⟨k,n,q⟩:=(a _).1 d;have j:=N.trans (b.trans i);exact⟨_,rfl,(a _).2 ⟨k.grew i,R _ j,g _ j⟩,rfl,b.trans i⟩
 subst M;refine Uq ?_;refine zI rfl rfl (fun _ u=>zc w u/\Box u (c+1) (pgc [z,A,B,C,D,E,G,H])) (fun w' d b=>?_) (fun a6 M=>?_)
 ·refine ZZ 60 (.tmp 4) (.tmp 22) rfl (c+1) 0 rfl (Xi #[U8 z,U8 A,U8 B,U8 C,U8 D,U8 E,U8 G,U8 H]) rfl [U8 z,U8 A,U8 B,U8 C,U8 D,U8 E,U8 G,U8 H] rfl (a5.grew b) (by simp[pgc,zp]) Kr (by simp[Value.oneCell']) ?_
  intro l i c _;have j:zc w l:=zd (N.trans b) c (Hm P.out)
  obtain⟨k,n,q⟩:=(a _).1 d;exact⟨(a _).2 ⟨k.grown c Wm,R _ j,g _ j⟩,trivial,j,i.box⟩
 clear M;try simp only[Yh]
 refine qJ fun l b a=>?_
 have d:=dD a.1;have c:=dD a.2;clear b a h L S T U W X Y Z a0 a1 a4 a2 a3 y K;go_wp2;refine bodyPost_ret (zX rfl _ rfl c underlying60 rfl zqL) rfl ⟨rfl,by first | trivial | rfl,d⟩
theorem zi2 {w:Xn} {p:Nat} (n:ChW w0 p w V m) (k:Nat) (f:Fr) (ak:m.fs[k]? =Xa f) (fi ix:Nat) (F:Fl) (a1:f.f=(fi:Int)) (q:f.x=(ix:Int)) (ba:m.fl[fi]? =Xa F) (bg:0<=F.size/\F.size<=96) (hi:ix<=12):
  Xp prog 56 #[Xj (Xa ⟨p,0,Xb⟩),I6 (k:Int)] w fun e w'=>e= Xl (Xh (decide (j9 m.fl m.cnt fi ix=0)))/\zao w0 p w V (wrM m (jV (pgL f.p) (ix:Int) F.size) fi ix) w':=by
 have am:=dD n;have g:Xo (∀W,zc w W->Xp prog 97 #[Xj (Xa ⟨p,0,Xb⟩),Xi (frv f).toArray] W fun e w'=>e= Xl (Xi (pgc (jV (pgL f.p) (ix:Int) F.size)).toArray)/\zc W w'):=show∀W,_ from fun W Z=>(zbX (n.grew Z) f fi ix F a1 q ba bg hi).mono fun e w' al=>⟨al.1,al.2.2⟩
 have s:(jV (pgL f.p) (ix:Int) F.size).length=8:=by unfold jV;simp[pgL]
 obtain⟨a7,a5⟩:=kA (wrM m (jV (pgL f.p) (ix:Int) F.size) fi ix);obtain⟨a8,a6⟩:=kA (decide (j9 m.fl m.cnt fi ix=0));have h:Xo (∀W,zc w W->Xp prog 96 #[Xj (Xa ⟨p,0,Xb⟩),Xi (pgc (jV (pgL f.p) (ix:Int) F.size)).toArray,I6 (fi:Int),I6 (ix:Int)] W fun e w'=>e= Xl (Xh a8)/\zao w0 p W V a7 w'):=dD<|fun W Z=>by
  rw[<-a5.out,<-a6.out];exact zdm (n.grew Z) _ s (fi:Int) (ix:Int)
 rw[a5.out,a6.out];have v:¬Dw p V w.heap.size:=fun e=>absurd (n.dlt _ e) Wm
 obtain⟨cb,-⟩:=n.at.ns;obtain⟨c8,bc,bd⟩:=n.at.frs k f ak;have Q:=dD bc;have R:=dD bd
 have be:(k:Int)< (V.f.n:Int):=by
  have:=(gS.1 ak).1;omega
 obtain⟨a9,aa,ab,ac,ae,af,ag,ah,a0⟩:=zdB _ s;rw[a0]at g h;obtain⟨⟨z,A,B,C,D,E,G,H⟩,L,M,K,c9,ca⟩:=f;dsimp only at a1 q;subst a1;subst q;simp only[pgc,frv,mP,Xx]at g h;have bw:=am.box.box.c 0 rfl;rw[Q.out]at bw;obtain⟨ap,aq,ar,au,av,aw,ax,ay,az,b8,S,T,U⟩:=R.out w (zc.refl _);dsimp only at ap aq ar au av aw ax ay az b8 S T U
 go_enter func56,ntmps56
 go_upto_region 2 with fail;obtain⟨c,P⟩:=kA w.heap.size;obtain⟨l,j⟩:=kB (w.alloc (Xk #[U8 z,U8 A,U8 B,U8 C,U8 D,U8 E,U8 G,U8 H,I6 L,Xh M,Xh K,I6 (fi:Int),I6 (ix:Int)] 62));have N:=gA j
 have ao:=xPT j P
 rw[j,P.out];rw[P.out]at v;have aj:zc l l.drew:=show Below _ _ _ from(bR _ _).drew
 obtain⟨b,a⟩:=Wq fun u=>zo u c 62 [U8 z,U8 A,U8 B,U8 C,U8 D,U8 E,U8 G,U8 H,I6 L,Xh M,Xh K,I6 (fi:Int),I6 (ix:Int)]
 have r:=(a _).2 (ao.grew aj);have X:zc l l.drew:=aj;have bh:∀y:zj b,y.world.cell? ⟨c,0,Xb⟩=Xa (U8 z):=fun y=>((a _).1 y.holds).box.c 0 rfl
 have bi:∀y:zj b,y.world.cell? ⟨c,1,Xb⟩=Xa (U8 A):=fun y=>((a _).1 y.holds).box.c 1 rfl
 have bj:∀y:zj b,y.world.cell? ⟨c,2,Xb⟩=Xa (U8 B):=fun y=>((a _).1 y.holds).box.c 2 rfl
 have bk:∀y:zj b,y.world.cell? ⟨c,3,Xb⟩=Xa (U8 C):=fun y=>((a _).1 y.holds).box.c 3 rfl
 have bl:∀y:zj b,y.world.cell? ⟨c,4,Xb⟩=Xa (U8 D):=fun y=>((a _).1 y.holds).box.c 4 rfl
 have bm:∀y:zj b,y.world.cell? ⟨c,5,Xb⟩=Xa (U8 E):=fun y=>((a _).1 y.holds).box.c 5 rfl
 have bn:∀y:zj b,y.world.cell? ⟨c,6,Xb⟩=Xa (U8 G):=fun y=>((a _).1 y.holds).box.c 6 rfl
 have bo:∀y:zj b,y.world.cell? ⟨c,7,Xb⟩=Xa (U8 H):=fun y=>((a _).1 y.holds).box.c 7 rfl
 have br:∀y:zj b,y.world.cell? ⟨c,8,Xb⟩=Xa (I6 L):=fun y=>((a _).1 y.holds).box.c 8 rfl
 have bs:∀y:zj b,y.world.cell? ⟨c,9,Xb⟩=Xa (Xh M):=fun y=>((a _).1 y.holds).box.c 9 rfl
 have bp:∀y:zj b,y.world.cell? ⟨c,10,Xb⟩=Xa (Xh K):=fun y=>((a _).1 y.holds).box.c 10 rfl
 have bq:∀y:zj b,y.world.cell? ⟨c,11,Xb⟩=Xa (I6 (fi:Int)):=fun y=>((a _).1 y.holds).box.c 11 rfl
 have bt:∀y:zj b,y.world.cell? ⟨c,12,Xb⟩=Xa (I6 (ix:Int)):=fun y=>((a _).1 y.holds).box.c 12 rfl
 have bf:Nonempty (zj b):=⟨⟨_,r⟩⟩;refine zQ (I:=b) 9 [(3,fun a3=>a3= Xi #[U8 a9,U8 aa,U8 ab,U8 ac,U8 ae,U8 af,U8 ag,U8 ah]),(8,fun a3=>a3= Xh a8)] (fun u=>zc l u) r X z6 Kr rfl rfl Dc (Sb ⟨_,rfl⟩ ⟨_,rfl⟩) Kr ?_
 simp only[Xy,Xz];iterate 3 refine zz ?_
 refine zI rfl rfl (fun _ u=>zc l u) (fun w' i d=>?_) (fun bv a2=>?_)
 ·refine zJ.call [Xj (Xa ⟨p,0,Xb⟩),Xi #[U8 z,U8 A,U8 B,U8 C,U8 D,U8 E,U8 G,U8 H,I6 L,Xh M,Xh K,I6 (fi:Int),I6 (ix:Int)]] rfl func97 rfl rfl rfl ?_;refine(g w' (N.trans d)).mono ?_;rintro e a4 ⟨rfl,ai⟩;exact⟨_,rfl,(a _).2 (((a _).1 i).grew ai),rfl,d.trans ai⟩
 subst a2;refine Uq ?_;iterate 4 refine zz ?_
 refine zI rfl rfl (fun _ u=>zao w0 p w V a7 u) (fun w' i d=>?_) (fun bv a2=>?_)
 ·refine zJ.call [Xj (Xa ⟨p,0,Xb⟩),Xi #[U8 a9,U8 aa,U8 ab,U8 ac,U8 ae,U8 af,U8 ag,U8 ah],I6 (fi:Int),I6 (ix:Int)] rfl func96 rfl rfl rfl ?_;refine(h w' (N.trans d)).mono ?_;rintro e a4 ⟨rfl,t⟩;have b9:=zao.of_grew (N.trans d) t;obtain⟨bx,_,_,bu,_⟩:=t;exact⟨_,rfl,(a _).2 (((a _).1 i).chg bu v),rfl,b9⟩
 subst a2;refine Uq ?_;refine qJ fun bz bb Y=>?_
 have an:=dD Y;go_wp2;go_ret;exact⟨rfl,an⟩
theorem zkT (m:Ma) (b) (file a:Int):(wrM m b file a).fs=m.fs/\(wrM m b file a).hand=m.hand/\(wrM m b file a).ca=m.ca/\(wrM m b file a).sp=m.sp/\(wrM m b file a).sl=m.sl:=by
 unfold wrM
 split <;> exact⟨rfl,rfl,rfl,rfl,rfl⟩
def clM (m:Ma) (k:Nat) (f:Fr) (F:Fl):Ma:=
 if j9 m.fl m.cnt f.f f.x=0 then{ wrM m (jV (pgL f.p) f.x F.size) f.f f.x with fs:=m.fs.set k { f with d:=false } }else m
theorem zdo {w:Xn} {p:Nat} (r:ChW w0 p w V m) (k:Nat) (f:Fr) (l:m.fs[k]? =Xa f) (fi ix:Nat) (F:Fl) (h:f.f=(fi:Int)) (i:f.x=(ix:Int)) (s:m.fl[fi]? =Xa F) (t:0<=F.size/\F.size<=96) (hi:ix<=12):
  Xp prog 31 #[Xj (Xa ⟨p,0,Xb⟩),I6 (k:Int)] w fun e w'=>e= Xl (Xh (decide (j9 m.fl m.cnt f.f f.x=0)))/\zao w0 p w V (clM m k f F) w':=by
 have j:=zi2 r k f l fi ix F h i s t hi;obtain⟨N,b⟩:=kA (wrM m (jV (pgL f.p) (ix:Int) F.size) fi ix);have c:Xo (N.fs=m.fs):=dD<|by rw[<-b.out];exact(zkT _ _ _ _).1
 have a:Xo (j9 m.fl m.cnt f.f f.x=0->clM m k f F={ N with fs:=m.fs.set k { f with d:=false } }):=dD<|fun e=>by
  unfold clM;rw[kE e,h,i,b.out]
 have g:Xo (j9 m.fl m.cnt f.f f.x≠0->clM m k f F=m/\N=m):=dD<|fun e=>⟨by
  unfold clM;rw[kF e],by
  rw[<-b.out];unfold wrM;rw[h,i]at e;rw[kF e]⟩
 rw[b.out,<-h,<-i]at j;obtain⟨M,n⟩:=kA (clM m k f F);rw[n.out]at a g⊢;obtain⟨R,q⟩:=kA (decide (j9 m.fl m.cnt f.f f.x=0));rw[q.out]at j⊢;have n:=dD l;have u:=(gS.1 l).1;clear r l h i s t hi
 go_enter func31,ntmps31
 go_upto_region 1 with fail;go_wp2_with fail;refine j.mono ?_;clear j;rintro e j ⟨rfl,i⟩;have h:=dD i;clear i
 cases R with
 | false=>
  have b:=dD<|g.out (of_decide_eq_false q)
  have g:Xo (zao w0 p w V M j):=dD<|by rw[b.1,<-b.2];exact h.out
  go_wp2;go_ret;exact⟨rfl,g⟩
 | true=>
  have b:=dD<|a.out (of_decide_eq_true q)
  obtain⟨z,r,i,s,q⟩:=h.out;have u:=dD r;have x:=dD i;have y:=dD s;have t:=dD q;obtain⟨h,v,a⟩:=i.fs.formS (by rw[c.out];omega)
  have l:=i.box.box.c 0 rfl;rw[a]at l;have l:Xo (zb qA w0.heap.size j (O (Xa ⟨h,0,Xb⟩) N.fs.length v) m.fs):=dD<|by rw[<-a,<-c.out];exact i.fs
  have v:Xo (oB z.f h):=dD<|by unfold oB;rw[a];rfl
  have j:=dD a;have z:(k:Int)< (N.fs.length:Int):=by rw[c.out];omega
  clear i s q r a
  go_wp2_with (refine zD (E:=qA) rfl (.tmp 17) (.const (Xh Xd)) 4 rfl w0.heap.size _ m.fs l h k 10 rfl f { f with d:=false } n.out [Xh Xd] Kr rfl (Yk rfl) (by intro a a;simp at a;subst a;rfl) ⟨h,k*13+10,Xb⟩ rfl rfl _ rfl rfl ?_)
  intro h c a _;have g:Xo (zao w0 p w V M h):=dD<|by
   (first|rw[b.out]|(simp only[Sli.x];rw[b.out]));refine zao.step y t u (x.frameC v a ?_);(first|rw[j.out]|(simp only[Sli.x];rw[j.out]));exact c
  go_wp2;go_ret;exact⟨rfl,g⟩
theorem zld {a:Act} {w:Xn} (e x) (h:o.op= .load e x) (b c:Nat) (j:a.eval x= Xj (Xa ⟨b,c,Xb⟩)) (vs:List Xq) (f:w.rangeAt b c vs) {d:TypeDesc} (i:Tryz.prog.underlying e=Xa d) (g:d.isRow=Xc) (hi:(Tryz.prog.info? e).map (·.size)=Xa vs.length):(execOp a.eval o).run prog w= .ok (.value (Xi vs.toArray)) w:=by
 have:=run_loadAt_mid (P:=prog) w b c e vs d f i g hi;simp only[execOp,h,j,Xs,this,rA,Xw]
theorem zbo {a:Act} {w:Xn} (f x) (i:o.op= .load f x) (b c:Nat) (j:a.eval x= Xj (Xa ⟨b,c,Xb⟩)) (v) (h:w.cell? ⟨b,c,Xb⟩=Xa v) {d:TypeDesc} (g:Tryz.prog.underlying f=Xa d) (e:d.isRow=Xd):(execOp a.eval o).run prog w= .ok (.value v) w:=by
 have e:(isAgg f).run prog w= .ok Xd w:=by
  unfold isAgg;rw[Xs,run_underlying g w]
  cases d <;> simp_all [TypeDesc.isRow]
 have g:(loadVar f ⟨b,c,Xb⟩).run prog w= .ok v w:=by simp[loadVar,Xs,e,h]
 simp only[execOp,i,j,Instr.loadAt,Instr.sureAddr,Xs,Xw,g,rA]
theorem zpG {s:Sp} (h:spE s=0):(wrL s.ars).1=0/\tbW s.tb=0/\(s.live=Xd->s.ars=[]/\s.tb.all (·.isEmpty)=Xc):=by
 unfold spE at h
 split at h
 ·rename_i e;exact absurd h e
 rename_i a
 split at h
 ·rename_i e;exact absurd h e
 rename_i b
 refine⟨Decidable.not_not.1 a,Decidable.not_not.1 b,fun a=>?_⟩
 rw[a]at h
 split at h
 ·cases h
 rename_i a
 simp at a
 exact⟨a.1,by simp;exact a.2⟩
theorem zmB (h:JY m=0) (a:b<m.db.length):zbZ m b=Xd:=by
 cases e:zbZ m b with
 | false=>rfl
 | true=>rw[zew a e]at h;cases h
theorem zm7 (h:JE m=0) {q:Int × List Int} (a:m.dq[j]? =Xa q):zR m.fl q.1=Xc:=by
 cases e:zR m.fl q.1 with
 | true=>rfl
 | false=>rw[zd4 a e]at h;cases h
theorem zhy (V m w) (A:zy w V m) (u:Jq m=0):
  Xp prog 27 #[Xi (mL V m).toArray] w fun e w'=>e= Xl (I6 0)/\zc w w':=by
 unfold Jq at u;rw[zi]at u;have e4:Zt m.fs m.hand=0:=u _ Sm
 have e5:slW m.sl=0:=u _ Sm
 have e6:zF m.sb.length m.sq=0:=u _ Sm
 have e7:zF m.db.length m.dq=0:=u _ Sm
 have e8:stW m.fl m.cnt=0:=u _ Sm
 have bf:zl4 m=0:=u _ Sm
 have eh:Xo (JY m=0):=dD<|u _ Sm
 have ei:Xo (JE m=0):=dD<|u _ Sm
 have bz:(if 4<m.sp.length then(4:Int)else 0)=0:=u _ Sm
 have cl:Xo (∀s∈m.sp,spE s=0):=dD<|fun s b9=>zi.1 (u (zw (m.sp.map spE)) Sm) _ (Yb.2 ⟨s,b9,rfl⟩)
 have bn:=dD A;obtain⟨cw,bv,bw,-,be,cx,-,-,bx⟩:=A.ns;obtain⟨e9,bd,B,bb⟩:=A.spaces;have y:=A.fs;have C:=A.sl;have af:=dD A.pgs;have ah:=dD A.puts;have ba:=A.sp;have ct:V.dq.n<=9223372036854775807:=Hm A.dq.2.2
 have cs:V.db.n<=9223372036854775807:=Hm A.db.2.2
 obtain⟨bl,P,h,aa,⟨E,b,F⟩,⟨a1,i,a2⟩,a9,bk,⟨bi,d,bj⟩⟩:=V;dsimp only[mL]at cw bv bw be cx bx cs ct af ah y C B⊢;have c4:Xo (∀W,zc w W->Xp prog 49 #[Xi #[bl.x,I6 m.hand]] W fun e w'=>e= Xl (I6 0)/\zc W w'):=dD<|fun W c=>by (try simp only[Sli.x]at y⊢);rw[cw]at y⊢;rw[<-e4];exact zcG bl.a bl.c m.fs m.hand W (zpV.1 (y.grew c))
 have c5:Xo (∀W,zc w W->Xp prog 50 #[P.x] W fun e w'=>e= Xl (I6 0)/\zc W w'):=dD<|fun W c=>by (try simp only[Sli.x]at C⊢);rw[bv]at C⊢;rw[<-e5];exact zeR P.a P.c m.sl W (C.grew c)
 have c6:Xo (∀W,zc w W->Xp prog 51 #[Xi #[h.x,aa.x]] W fun e w'=>e= Xl (I6 0)/\zc W w'):=dD<|fun W c=>by rw[<-e6,<-bw];exact Qm h.a h.n h.c _ m.sq W (bn.grew c).sq
 have c7:Xo (∀W,zc w W->Xp prog 51 #[Xi #[O E b F,O a1 i a2]] W fun e w'=>e= Xl (I6 0)/\zc W w'):=dD<|fun W c=>by rw[<-e7,<-be];exact Qm E b F _ m.dq W (bn.grew c).dq
 have c8:Xo (∀W,zc w W->Xp prog 52 #[Xi #[a9.x,I6 m.cnt]] W fun e w'=>e= Xl (I6 0)/\zc W w'):=dD<|fun W c=>by rw[<-e8];exact zdM _ m.fl m.cnt W (bn.grew c).fl
 have ai:=dD<|fun W ep (c:zc w W)=>ziu _ m.fl m.cnt ep W (bn.grew c).fl
 have cb:=dD be.symm;have cc:=dD cx.symm;have ae:=dD bx.symm;have es:d<=4:=by
  rw[<-bx]at bz
  split at bz
  ·cases bz
  omega
 have cj:Xo (e9.length=d):=dD<|Rx bd ae.out
 have ce:=dD B
 have cf:=dD bb
 have az:P.n=h.n/\m.cnt=(b:Int):=by
  unfold zl4 at bf;rw[<-bv,<-bw,<-be]at bf
  split at bf
  ·cases bf
  omega
 obtain⟨cm,du⟩:=az;have cn:((P.n:Int) !=(h.n:Int))=Xd:=by simp[cm]
 have co:(P.n != h.n)=Xd:=by simp[cm]
 have cp:(m.cnt !=(b:Int))=Xd:=by simp[du]
 have eu:d<=9223372036854775807:=Wm
 have et:decide ((4:Int)< (d:Int))=Xd:=by simp;omega
 clear A cw bv bw be cx bx bd B bb y C ba u e4 e5 e6 e7 e8 bf bz cm du es;obtain⟨al,H⟩:=kB (w.alloc (Xk #[bl.x,I6 m.hand,P.x,h.x,aa.x,O E b F,O a1 i a2,a9.x,I6 m.cnt,bk.x,O bi d bj] 41));have n:=gA H
 have f:Xo (∀W,zc al W->Box W w.heap.size [bl.x,I6 m.hand,P.x,h.x,aa.x,O E b F,O a1 i a2,a9.x,I6 m.cnt,bk.x,O bi d bj]):=dD<|fun W c=>by
  rw[<-H]at c;exact(Box.top _ _ _ rfl).grew c
 have ci:=dD H;clear H
 go_enter func27,ntmps27
 go_upto_region 1 with fail;rw[ci.out];have f1:=(f _ (zc.refl _)).c 0 rfl;have f2:=(f _ (zc.refl _)).c 1 rfl;have p:=c4.out al n.out;go_wp2_with fail;refine p.mono ?_;clear p f1 f2;rintro e ek ⟨rfl,j⟩;have ed:=dD j;have dl:=(f _ j).c 2 rfl;have p:=c5.out ek (n.trans j);go_wp2_with fail;refine p.mono ?_;clear p dl j;rintro e el ⟨rfl,j⟩;have bp:=dD (ed.trans j);clear j;have dm:=(f _ bp).c 3 rfl;have f3:=(f _ bp).c 4 rfl;have p:=c6.out el (n.trans bp);go_wp2_with fail;refine p.mono ?_;clear p dm f3;rintro e em ⟨rfl,j⟩;have bq:=dD (bp.trans j);clear j;have dn:=(f _ bq).c 5 rfl;have dp:=(f _ bq).c 6 rfl;have p:=c7.out em (n.trans bq);go_wp2_with fail;refine p.mono ?_;clear p dn dp;rintro e en ⟨rfl,j⟩;have br:=dD (bq.trans j);clear j;have bm:=(f _ br).c 7 rfl;have ab:=(f _ br).c 8 rfl;have p:=c8.out en (n.trans br);go_wp2_with fail;refine p.mono ?_;clear p bm ab;rintro e f4 ⟨rfl,j⟩;have ak:=dD (br.trans j);clear j;have dl:=(f _ ak).c 2 rfl;have dm:=(f _ ak).c 3 rfl;have dn:=(f _ ak).c 5 rfl;have ab:=(f _ ak).c 8 rfl;go_wp2;clear dl dm dn ab cn co cp
 go_loopg [68] b (fun aw df wr=>∃l:Nat,l<=b/\b - l<=aw/\df=I6 l/\Xo (zc al wr))
 exact⟨0,nZ _,Wm,rfl,ak⟩
 obtain⟨l,ey,ex,rfl,r⟩:=hrel
 by_cases a3:l<b
 ·have b8:=kC a3
  have ac:Xo (l<m.db.length):=dD<|Rx cb.out a3
  obtain⟨cy,dq⟩:∃cy,Xo (m.db[l]? =Xa cy):=⟨_,gE ac⟩;obtain⟨dt,S,T,U,X,Y,Z,I,a0,rfl,rfl,N⟩:=af.out l cy dq.out;have Q:Xo ((!zR m.fl (l:Int) && !([S,T,U,X,Y,Z,I,a0] == zp))=Xd):=dD<|by
   have:=zmB eh ac.out;unfold zbZ at this;rw[gD,dq.out]at this;exact this
  obtain⟨am,an,ao,ap,aq,ar,au,av⟩:=N wr (n.trans r);have a7:=fun W=>ZI 9998 S T U X Y Z I a0 0 0 0 0 0 0 0 0 W
  simp only[zfx]at a7;obtain⟨eg,cd⟩:=kA ([S,T,U,X,Y,Z,I,a0] == zp);rw[cd.out]at a7 Q;clear N;go_upto_region 21 with fail;obtain⟨R,a⟩:=kB (wr.alloc (Xk #[U8 S,U8 T,U8 U,U8 X,U8 Y,U8 Z,U8 I,U8 a0] 60));have ee:=xA a
  have k:=gT a r
  rw[a];clear a am an ao ap aq ar au av;have g:=ai.out R (l:Int) (n.trans k);obtain⟨ej,bo⟩:=kA (zR m.fl (l:Int));rw[bo.out]at g Q;have bm:=(f _ k).c 7 rfl;have ab:=(f _ k).c 8 rfl;go_wp2_with fail;refine g.mono ?_;clear g bm ab;rintro e bu ⟨rfl,G⟩;have bs:=dD (k.trans G);have ef:=ee.grew G;obtain⟨e0,f8,f9,fa,fb,fc,fd,fe⟩:=ef.c8;clear G
  cases ej with
  | true=>
   clear a7;go_wp2
   go_roundg (b -(l+1));exact⟨l+1,Wm,Wm,Gn,bs⟩;omega
  | false=>
   cases eg with
   | true=>
    go_wp2
    go_roundg (b -(l+1));exact⟨l+1,Wm,Wm,Gn,bs⟩;omega
   | false=>cases Q.out
 have b8:=kD a3
 have dp:=(f _ r).c 6 rfl;go_wp2;clear dp
 go_loopg [88] i (fun aw di wr=>∃L:Nat,L<=i/\i - L<=aw/\di=I6 L/\Xo (zc al wr))
 exact⟨0,nZ _,Wm,rfl,r⟩
 obtain⟨L,f7,ev,rfl,r⟩:=hrel
 by_cases z:L<i
 ·have a4:=kC z
  obtain⟨cz,dr⟩:∃cz,Xo (m.dq[L]? =Xa cz):=⟨_,gE (Rx cc.out z)⟩
  have bo:=zm7 ei dr.out;obtain⟨dt,cv,S,T,U,X,Y,Z,I,a0,rfl,rfl,N⟩:=ah.out L cz dr.out;obtain⟨am,an,ao,ap,aq,ar,au,av,cq⟩:=N wr (n.trans r);have g:=fun W c=>ai.out W cv c
  dsimp only at bo;rw[bo]at g;clear N;go_upto_region 27 with fail;obtain⟨R,a⟩:=kB (wr.alloc (Xk #[I6 cv,U8 S,U8 T,U8 U,U8 X,U8 Y,U8 Z,U8 I,U8 a0] 69));have e0:=((show Box R wr.heap.size [I6 cv,U8 S,U8 T,U8 U,U8 X,U8 Y,U8 Z,U8 I,U8 a0] by rw[<-a];exact Box.top _ _ _ rfl)).c 0 rfl
  have k:=gT a r
  rw[a];clear a am an ao ap aq ar au av cq;have g:=g R (n.trans k);have bm:=(f _ k).c 7 rfl;have ab:=(f _ k).c 8 rfl;go_wp2_with fail;refine g.mono ?_;clear g bm ab e0;rintro e bu ⟨rfl,G⟩;have bs:=dD (k.trans G);clear G;go_wp2
  go_roundg (i -(L+1));exact⟨L+1,Wm,Wm,Gn,bs⟩;omega
 have a4:=kD z
 have dk:=(f _ r).c 10 rfl;go_wp2;clear dk
 go_loopg [106] d (fun aw bh wr=>∃v:Nat,v<=d/\d - v<=aw/\bh=I6 v/\Xo (zc al wr))
 exact⟨0,nZ _,Wm,rfl,r⟩
 obtain⟨v,f6,ew,rfl,r⟩:=hrel
 by_cases q:v<d
 ·have a5:=kC q
  obtain⟨x,cu⟩:∃x,e9[v]? =Xa x:=⟨_,gE (Rx cj.out q)⟩
  obtain⟨s,b9⟩:∃s,m.sp[v]? =Xa s:=⟨_,gE (Rx ae.out q)⟩
  have t:=dD<|cf.out v x s cu b9;obtain⟨dv,dw,cr⟩:=zpG (cl s (mG b9));have c9:Xo (s.live=Xd->x.ar.n=0/\s.tb.all (·.isEmpty)=Xc):=show _->_ from fun dy=>⟨by rw[t.ar.n,(cr dy).1];rfl,(cr dy).2⟩
  obtain⟨dt,rfl,N⟩:=ce.out v x cu;obtain⟨am,an,ao,ap,aq,ar,au,av,cq,eq⟩:=N wr (n.trans r);clear N cu b9 cr;have ca:=dD t.live;have c3:Xo (∀W,zc w W->Xp prog 53 #[x.ar.x] W fun e w'=>e= Xl (Xi #[I6 0,I6 (wrL s.ars).2])/\zc W w'):=show∀W,_ from fun W c=>by rw[<-dv];exact zai _ s.ars W (t.grew c).ar (show Cap (x.ar.x)from t.cap)
  have ch:Xo (∀W,zc w W->Xp prog 54 #[Xi #[x.t0.x,x.t1.x,x.t2.x,x.t3.x,x.t4.x,x.t5.x,x.t6.x,x.t7.x]] W fun e w'=>e= Xl (I6 0)/\zc W w'):=dD<|fun W c=>by rw[<-dw];exact zdL x.tab s.tb W (t.grew c).tb
  have cg:=dD<|fun W (c:zc w W)=>zht x.tab s.tb W (t.grew c).tb
  clear dv dw;go_upto_region 35 with fail;obtain⟨R,a⟩:=kB (wr.alloc (Xk #[Xh x.live,x.ar.x,x.t0.x,x.t1.x,x.t2.x,x.t3.x,x.t4.x,x.t5.x,x.t6.x,x.t7.x] 79));have k:=gT a r
  obtain⟨ez,ag⟩:=kA wr.heap.size;have bt:Xo (∀W,zc R W->Box W ez [Xh x.live,x.ar.x,x.t0.x,x.t1.x,x.t2.x,x.t3.x,x.t4.x,x.t5.x,x.t6.x,x.t7.x]):=dD<|fun W c=>by
   rw[<-a]at c;exact(Box.top _ _ _ ag.symm).grew c
  rw[a,ag.out];clear a am an ao ap aq ar au av cq eq;have ay:=c3.out R (n.trans k);have bg:=(bt _ (zc.refl _)).c 1 rfl;go_wp2_with fail;refine ay.mono ?_;clear ay bg;rintro e bu ⟨rfl,G⟩;have eb:=dD G;clear G;go_upto_region 36 with fail;obtain⟨ds,K⟩:=kB (bu.alloc (Xk #[I6 0,I6 (wrL s.ars).2] 122));have ck:=gT K eb
  have ea:Box ds bu.heap.size [I6 0,I6 (wrL s.ars).2]:=by rw[<-K];exact Box.top _ _ _ rfl
  have er:=ea.c 0 rfl;rw[K];clear K;have bc:=ch.out ds (n.trans (k.trans ck));have M:=bt.out _ ck.out;have da:=M.c 2 rfl;have db:=M.c 3 rfl;have dc:=M.c 4 rfl;have dd:=M.c 5 rfl;have de:=M.c 6 rfl;have dg:=M.c 7 rfl;have dh:=M.c 8 rfl;have dj:=M.c 9 rfl;go_wp2_with fail;refine bc.mono ?_;clear bc er da db dc dd de dg dh dj;rintro e eo ⟨rfl,dx⟩;have aj:=dD (ck.trans dx);clear dx;have c0:=(bt _ aj).c 0 rfl;rw[ca.out]at c0
  cases a6:s.live with
  | true=>
   rw[a6]at c0;go_wp2
   go_roundg (d -(v+1));exact⟨v+1,Wm,Wm,Gn,k.trans aj⟩;omega
  | false=>
   rw[a6]at c0;obtain⟨dz,ax⟩:=c9.out a6;have D:=bt.out _ aj.out;have bg:=D.c 1 rfl;(try simp only[Sli.x]at bg);rw[dz]at bg;have a8:=cg.out eo (n.trans (k.trans aj));rw[ax]at a8;have da:=D.c 2 rfl;have db:=D.c 3 rfl;have dc:=D.c 4 rfl;have dd:=D.c 5 rfl;have de:=D.c 6 rfl;have dg:=D.c 7 rfl;have dh:=D.c 8 rfl;have dj:=D.c 9 rfl;clear dz ax;go_wp2_with fail;refine a8.mono ?_;clear a8 c0 bg da db dc dd de dg dh dj;rintro e f5 ⟨rfl,gA⟩;have ec:=dD (aj.trans gA);clear gA;go_wp2
   go_roundg (d -(v+1));exact⟨v+1,Wm,Wm,Gn,k.trans ec⟩;omega
 have a5:=kD q
 go_wp2;go_ret;exact⟨rfl,n.trans r⟩
theorem zhz (V m) (x:On) (e:En) (w) (b:zy w V m) (a:0<=e.n) (c:Jm m x e=0):
  Xp prog 29 #[Xi (mL V m).toArray,Xi (onv x).toArray,Xi #[I6 e.kind,I6 e.n,Xh e.wr]] w fun r w'=>r= Xl (I6 0)/\zc w w':=by
 have:=zfZ V m x e w b a;rw[c]at this;exact this
def zmT (m:Ma) (i:Nat):Option Ca:=if i=0 then Xb else m.ca[i - 1]?
theorem zpl (h:zbf m Xb m.ca=0):∀(i:Nat) c,m.ca[i]? =Xa c->caE m (zmT m i) c=0:=by
 have a:∀i c,m.ca[i]? =Xa c->zbf m (zmT m i) (m.ca.drop i)=0->caE m (zmT m i) c=0/\zbf m (zmT m (i+1)) (m.ca.drop (i+1))=0:=fun i c b d=>by
  have e:=(gS.1 b).1;have f:m.ca[i]=c:=by rw[gE e]at b;cases b;rfl
  have g:zmT m (i+1)=Xa c:=by unfold zmT;rw[kF Wm];exact b
  rw[Yn e,f]at d;unfold zbf at d;rw[g]
  split at d
  ·rename_i e
   exact⟨e,d⟩
  rename_i e
  exact absurd d e
 have d:∀i,i<=m.ca.length->zbf m (zmT m i) (m.ca.drop i)=0:=fun i=>by
  induction i with
  | zero=>exact fun _=>h
  | succ i e=>exact fun f=>(a i _ (gE Wm) (e Wm)).2
 exact fun i c b=>(a i c b (d i (Nat.le_of_lt (gS.1 b).1))).1
theorem zmv {p:Option Ca} {c:Ca} (h:caE m p c=0):(0<=c.file/\c.file< (m.fl.length:Int)/\0<=c.idx/\c.idx<bkN m c.file/\0<=c.fr/\c.fr< (m.fs.length:Int))/\((zU m c.fr).r≠0/\(zU m c.fr).f=c.file/\(zU m c.fr).x=c.idx)/\∀q,p=Xa q->¬qj c<=qj q:=by
 unfold caE at h
 split at h
 ·cases h
 rename_i a
 split at h
 ·cases h
 rename_i a
 refine⟨Wm,⟨fun e=>a (.inl e),Classical.byContradiction fun e=>a (.inr (.inl e)),Classical.byContradiction fun e=>a (.inr (.inr e))⟩,fun q e k=>?_⟩
 subst e;have h:(if qj c<=qj q then(2:Int)else 0)=0:=h;rw[kE k]at h;cases h
theorem Box.eleven {w:Xn} {a:Xq} (h:Box w b [a0,a1,a2,a3,a4,a5,a6,a7,a8,a9,a]):w.cell? ⟨b,0,Xb⟩=Xa a0/\w.cell? ⟨b,1,Xb⟩=Xa a1/\w.cell? ⟨b,2,Xb⟩=Xa a2/\w.cell? ⟨b,3,Xb⟩=Xa a3/\w.cell? ⟨b,4,Xb⟩=Xa a4/\w.cell? ⟨b,5,Xb⟩=Xa a5/\w.cell? ⟨b,6,Xb⟩=Xa a6/\w.cell? ⟨b,7,Xb⟩=Xa a7/\w.cell? ⟨b,8,Xb⟩=Xa a8/\w.cell? ⟨b,9,Xb⟩=Xa a9/\w.cell? ⟨b,10,Xb⟩=Xa a:=⟨h.c 0 rfl,h.c 1 rfl,h.c 2 rfl,h.c 3 rfl,h.c 4 rfl,h.c 5 rfl,h.c 6 rfl,h.c 7 rfl,h.c 8 rfl,h.c 9 rfl,h.c 10 rfl⟩
theorem Qn (V:MaV) (m:Ma) (w:Xn) (hm:zy w V m) (h0:maW m=0):
  Xp prog 9 #[Xi (mL V m).toArray] w fun e w'=>e= Xl (I6 0)/\zc w w':=by
 unfold maW at h0;rw[zi]at h0;have hp0:Jq m=0:=h0 _ Sm
 have HP:Xo (Pts m):=zlj hp0;have HCE:Xo (∀(i:Nat) c,m.ca[i]? =Xa c->caE m (zmT m i) c=0):=show∀i,_ from zpl (h0 _ Sm)
 have HPG:Xo (∀s∈m.sp,∀n,n<64->(zm s n).kind≠0->Jm m (zB s.ars n) (zm s n)=0):=dD<|fun s hs n hn hk=>by
  have h1:=zi.1 (h0 (zw (m.sp.map (zcA m))) Sm) _ (Yb.2 ⟨s,hs,rfl⟩)
  have h2:=zi.1 h1 _ (Yb.2 ⟨n,Yi.2 hn,rfl⟩);rw[kF hk]at h2;exact h2
 have HRG:Xo (∀(i:Nat) c,m.ca[i]? =Xa c->0<=c.file/\c.file<5/\0<=c.idx/\c.idx<12):=dD<|fun i c hc=>by
  obtain⟨h1,-,-⟩:=zmv (HCE i c hc);have h2:=HP.fl.1;have h3:bkN m c.file<=12:=by
   unfold bkN;rw[gD]
   cases e:m.fl[c.file.toNat]? with
   | none=>simp
   | some f=>have:=HP.fl.2 f (mG e);simp;omega
  omega
 have HFE:Xo (∀k,k<m.fs.length->frE m k=0):=dD<|fun k hk=>zi.1 (h0 (zw ((Yv m.fs.length).map (frE m))) Sm) _ (Yb.2 ⟨k,Yi.2 hk,rfl⟩)
 have HSE:Xo (∀k,k<m.sl.length->zjq m k=0):=dD<|fun k hk=>zi.1 (h0 (zw ((Yv m.sl.length).map (zjq m))) Sm) _ (Yb.2 ⟨k,Yi.2 hk,rfl⟩)
 have HM:Xo (zy w V m):=hm;obtain⟨n1,n2,-,-,-,-,n7,n8,n9⟩:=hm.ns;obtain⟨xs,hxl,hrow,hsp⟩:=hm.spaces;have HFR:Xo (zdA w V.f.a m.fs):=hm.frs;have HCA:Xo (zeB w V.ca.a m.ca):=hm.cas;have HSL:Xo (zjb w V.s.a m.sl):=hm.sls;obtain⟨_,_,hfe,_,hfr⟩:=qg.rows hm.fl;have HFL:Xo (J1 w V.fl.a m.fl):=show J1 _ _ _ by
  simp only[vJ]at hfe;rw[hfe.1];exact hfr
 have hca5:m.ca.length<=5864062014805:=by have h:m.ca.length*24<=140737488355328:=hm.ca.2;omega
 have hsl5:m.sl.length<=9223372036854775807:=by have h:m.sl.length*8<=140737488355328:=hm.sl.2;omega
 have HPT:=zhy V m;have HXL:Xo (xs.length=m.sp.length):=hxl;have HRW:Xo (∀(j:Nat) x,xs[j]? =Xa x->∃ad,V.sp.a=Xa ad/\∀W,zc w W->zja W (ad.add (j*10)) x):=show∀j,_ from hrow
 have HSP:Xo (∀(i:Nat) x s,xs[i]? =Xa x->m.sp[i]? =Xa s->jO w x s):=dD<|hsp
 obtain⟨⟨fa,fn,fc⟩,⟨sa,sn,sc⟩,vsb,vsq,vdb,vdq,⟨fla,fln,flc⟩,⟨caa,can,cac⟩,⟨spa,spn,spc⟩⟩:=V;dsimp only[mL]at n1 n2 n7 n8 n9 HFR HCA HSL HFL HRW;have HN1:Xo (m.fs.length=fn):=n1.symm;have HN2:Xo (m.sl.length=sn):=n2.symm;have HN7:Xo (m.fl.length=fln):=n7.symm;have HN8:Xo (m.ca.length=can):=n8.symm;have HN9:Xo (m.sp.length=spn):=n9.symm;have hb8:can<=5864062014805:=by rw[n8];exact hca5
 have hb2:sn<=9223372036854775807:=by rw[n2];exact hsl5
 have hsp4:spn<=4:=Rx n9 HP.s4
 have hfn40:fn<=40:=Rx n1 HP.f40
 obtain⟨W0,hW0⟩:=kB (w.alloc (Xk #[O fa fn fc,I6 m.hand,O sa sn sc,vsb.x,vsq.x,vdb.x,vdq.x,O fla fln flc,I6 m.cnt,O caa can cac,O spa spn spc] 41));have G0:=gA hW0
 have X0:=xA hW0
 have HW0:Xo (_=W0):=hW0;have hc:=HPT W0 (hm.grew G0) hp0;have HEN:Xo (∀W x e,zc w W->0<=e.n->Jm m x e=0->Xp prog 29 #[Xi #[O fa fn fc,I6 m.hand,O sa sn sc,vsb.x,vsq.x,vdb.x,vdq.x,O fla fln flc,I6 m.cnt,O caa can cac,O spa spn spc],Xi (onv x).toArray,Xi #[I6 e.kind,I6 e.n,Xh e.wr]] W fun r w'=>r= Xl (I6 0)/\zc W w'):=show∀W x e,_ from fun W x e hW h0 hz=>zhz ⟨⟨fa,fn,fc⟩,⟨sa,sn,sc⟩,vsb,vsq,vdb,vdq,⟨fla,fln,flc⟩,⟨caa,can,cac⟩,⟨spa,spn,spc⟩⟩ m x e W (HM.grew hW) h0 hz
 have HHO:Xo (∀W kind k,zc w W->Xp prog 30 #[Xi #[O fa fn fc,I6 m.hand,O sa sn sc,vsb.x,vsq.x,vdb.x,vdq.x,O fla fln flc,I6 m.cnt,O caa can cac,O spa spn spc],I6 kind,I6 k] W fun e w'=>e= Xl (I6 (Zu m kind k:Int))/\zc W w'):=dD<|fun W kind k hW=>zdN ⟨⟨fa,fn,fc⟩,⟨sa,sn,sc⟩,vsb,vsq,vdb,vdq,⟨fla,fln,flc⟩,⟨caa,can,cac⟩,⟨spa,spn,spc⟩⟩ m kind k W (HM.grew hW) HP.s4 (fun s hs=>tb8 (HP.ar s hs).2)
 clear hW0 hm n1 n2 n7 n8 n9 hxl hrow hsp hfe hfr h0 hp0 hca5 hsl5
 go_enter func9,ntmps9
 go_upto_region 1 with fail;rw[HW0.out];obtain⟨x0,x1,x2,x3,x4,x5,x6,x7,x8,x9,x10⟩:=X0.eleven;go_wp2_with fail;refine hc.mono ?_;clear hc x0 x1 x2 x3 x4 x5 x6 x7 x8 x9 x10;rintro e W1 ⟨rfl,g⟩;have G1:=dD (G0.trans g);have X1:=dD (X0.grew g);clear g;have x9:=X1.c 9 rfl;go_wp2;clear x9
 go_loopg [29] can (fun gg s29 wr=>∃i:Nat,i<=can/\can - i<=gg/\s29=I6 i/\Xo (zc W1 wr))
 exact⟨0,nZ _,Wm,rfl,zc.refl _⟩
 obtain⟨i,hi,hgg,rfl,GW⟩:=hrel
 by_cases hlt:i<can
 ·have hltz:=kC hlt
  obtain⟨c,HC⟩:∃c,Xo (m.ca[i]? =Xa c):=⟨_,gE (Rx HN8.out hlt)⟩
  obtain⟨adc,hca,hl⟩:=HCA.out i c HC.out;subst hca;obtain⟨d0,d1,d2⟩:=hl wr (G1.trans GW);have HOK:Xo _:=zmv (HCE i c HC);clear hl;go_upto_region 7 with fail;obtain⟨pc,HPC⟩:=kA wr.heap.size;obtain⟨W2,hW2⟩:=kB (wr.alloc (Xk #[I6 c.file,I6 c.idx,I6 c.fr] 93));have g2:=gP hW2
  have C2:=xP hW2 HPC
  have G2:=dD (GW.trans g2);rw[hW2,HPC.out];clear hW2 g2 d0 d1 d2;obtain⟨⟨r0,r1,r2,r3,r4,r5⟩,⟨q0,q1,q2⟩,q3⟩:=HOK.out;obtain⟨jf,hjf⟩:∃jf:Nat,c.file=(jf:Int):=⟨c.file.toNat,Wm⟩
  obtain⟨ff,hff⟩:∃ff,m.fl[jf]? =Xa ff:=⟨_,gE Wm⟩
  obtain⟨adl,rfl,ba,bc,_,hlf⟩:=HFL.out jf ff hff;obtain⟨-,e1⟩:=hlf W2 (G1.trans G2);have hbk:bkN m c.file=(ff.bl.length:Int):=by unfold bkN;rw[hjf,tN,gD,hff];rfl
  obtain⟨bn,HBN⟩:=kA ff.bl.length;rw[HBN.out]at e1 hbk;obtain⟨j,hj⟩:∃j:Nat,c.fr=(j:Int):=⟨c.fr.toNat,Wm⟩
  obtain⟨q,hq⟩:∃q,m.fs[j]? =Xa q:=⟨_,gE Wm⟩
  have hqe:zU m c.fr=q:=by rw[hj];exact qp hq
  rw[hqe]at q0 q1 q2;obtain⟨adf,rfl,hlq⟩:=HFR.out j q hq;have HLQ:Xo (∀W,zc w W->_):=dD<|hlq
  have HKY:Xo (∀q,zmT m i=Xa q->¬qj c<=qj q):=dD<|q3
  have hjz:(jf:Int)< (fln:Int):=Hm HN7.out
  have hqz:(j:Int)< (fn:Int):=Hm HN1.out
  have a1:decide ((jf:Int)<0)=Xd:=decide_eq_false Wm
  have a2:decide (fln<=jf)=Xd:=decide_eq_false Wm
  have a3:decide (c.idx<0)=Xd:=decide_eq_false Wm
  have a4:decide ((bn:Int)<=c.idx)=Xd:=decide_eq_false Wm
  have a5:decide ((j:Int)<0)=Xd:=decide_eq_false Wm
  have a6:decide (fn<=j)=Xd:=decide_eq_false Wm
  have x0:=(X1.grew G2).c 0 rfl;have x7:=(X1.grew G2).c 7 rfl;obtain⟨c0,c1,c2⟩:=C2.c3;rw[hjf]at c0;rw[hj]at c2;have HJ:Xo (c.fr=(j:Int)):=hj;have k1e:(q.r == 0)=Xd:=Si q0
  have k2e:(q.f != c.file)=Xd:=Si q1
  have k3e:(q.x != c.idx)=Xd:=Si q2
  clear hff hlf r0 r1 r2 r3 r4 r5 q0 q1 q2 q3 hqe hq hj hlq hjf hbk
  go_upto_region 9 with(go_quiet (fail))
  clear a1 a2 a3 a4 a5 a6 x0 x7 c0 c1 c2 e1;obtain⟨W3,hW3⟩:=kB (W2.drewN nq);have g3:zc W2 W3:=by rw[<-hW3];exact bD (bR _ _) _
  have G3:=dD (G2.trans g3);have C3:=dD (C2.grew g3);rw[hW3];clear hW3 g3;obtain⟨d0,d1,d2,d3,d4,d5,d6,d7,d8,d9,d10,d11,d12⟩:=HLQ.out W3 (G1.trans G3);have c2:=C3.c 2 rfl;rw[HJ.out]at c2;have x0:=(X1.grew G3).c 0 rfl;go_upto_region 10 with fail;obtain⟨pq,HPQ⟩:=kA W3.heap.size;obtain⟨W4,hW4⟩:=kB (W3.alloc (Xk #[U8 q.p.b0,U8 q.p.b1,U8 q.p.b2,U8 q.p.b3,U8 q.p.b4,U8 q.p.b5,U8 q.p.b6,U8 q.p.b7,I6 q.r,Xh q.u,Xh q.d,I6 q.f,I6 q.x] 62));have g4:=gP hW4
  have Q4:=xP hW4 HPQ
  have G4:=dD (G3.trans g4);have C4:=dD (C3.grew g4);rw[hW4,HPQ.out];clear hW4 g4 x0 c2 d0 d1 d2 d3 d4 d5 d6 d7 d8 d9 d10 d11 d12;have q8:=Q4.c 8 rfl;have q11:=Q4.c 11 rfl;have q12:=Q4.c 12 rfl;have c0:=C4.c 0 rfl;have c1:=C4.c 1 rfl;go_upto_region 12 with fail;clear k1e k2e k3e q8 q11 q12;obtain⟨r0,r1,r2,r3⟩:=HRG.out i c HC.out;have x9:=(X1.grew G4).c 9 rfl
  by_cases h0:i=0
  ·subst h0;go_quiet (fail);go_wp2
   go_roundg (can -(0+1));exact⟨0+1,Wm,Wm,Gn,G4.trans (show Below _ _ _ from bD (bR _ _) _)⟩;omega
  obtain⟨i',rfl⟩:∃i',i=i'+1:=⟨i - 1,Wm⟩
  obtain⟨c',HC'⟩:∃c',Xo (m.ca[i']? =Xa c'):=⟨_,gE (by rw[HN8.out];omega)⟩
  obtain⟨_,he,hl⟩:=HCA.out i' c' HC'.out;cases he;obtain⟨e0,e1,-⟩:=hl W4 (G1.trans G4);obtain⟨s0,s1,s2,s3⟩:=HRG.out i' c' HC'.out;have hiz:(((i'+1:Nat):Int) - 1)=(i':Int):=Wm
  have hil:(i':Int)< (can:Int):=Wm
  have hpz:(0:Int)< ((i'+1:Nat):Int):=Wm
  have hkd:decide (100*c.file+c.idx<=100*c'.file+c'.idx)=Xd:=decide_eq_false (HKY c' (by unfold zmT;rw[kF Wm];exact HC'))
  clear hl h0;go_quiet (fail);go_wp2
  go_roundg (can -(i'+1+1));exact⟨i'+1+1,Wm,Wm,Gn,G4.trans (show Below _ _ _ from bD (bR _ _) _)⟩;omega
 have hltz:=kD hlt
 have x10:=(X1.grew GW).c 10 rfl;obtain⟨WC,rfl⟩:∃WC,WC=wr:=⟨_,rfl⟩;go_wp2;clear x10
 go_loopg [134] spn (fun gg s134 wr=>∃p:Nat,p<=spn/\spn - p<=gg/\s134=I6 p/\Xo (zc W1 wr))
 exact⟨0,nZ _,Wm,rfl,GW⟩
 obtain⟨p,hp,hgp,rfl,GP⟩:=hrel
 by_cases hlp:p<spn
 ·have hlpz:=kC hlp
  obtain⟨x,hx⟩:∃x,xs[p]? =Xa x:=⟨_,gE (by rw[HXL.out,HN9.out];exact hlp)⟩
  obtain⟨s,HS⟩:∃s,Xo (m.sp[p]? =Xa s):=⟨_,gE (Rx HN9.out hlp)⟩
  have HAT:Xo (jO w x s):=HSP.out p x s hx HS.out;obtain⟨ad,rfl,hl⟩:=HRW.out p x hx;obtain⟨d0,d1,d2,d3,d4,d5,d6,d7,d8,d9⟩:=hl wr (G1.trans GP);have hsm:=mG HS.out;have HRT:Xo ((wrL s.ars).1=0/\tbW s.tb=0):=HP.ar s hsm;have HPS:Xo (∀n,n<64->(zm s n).kind≠0->Jm m (zB s.ars n) (zm s n)=0):=show∀n,_ from HPG.out s hsm
  have HON:Xo (∀W,zc w W->Xp prog 22 #[x.ar.x] W fun e w'=>e= Xl (Xi (zE (tab (zB s.ars))).toArray)/\zc W w'):=dD<|fun W hW=>jB _ s.ars W (HAT.ar.grew hW) (jq.1 HRT.1).2.lies
  have HFT:Xo (∀W,zc w W->Xp prog 28 #[Xi #[x.t0.x,x.t1.x,x.t2.x,x.t3.x,x.t4.x,x.t5.x,x.t6.x,x.t7.x]] W fun e w'=>e= Xl (Xi (qr (JT s.tb)).toArray)/\zc W w'):=dD<|fun W hW=>zbG x.tab s.tb W ((HAT.grew hW).tb) (tb8 HRT.2)
  have hz:=zaQ;obtain⟨Z0,HZ0⟩:=kA (zE (tab fun _=>on0))
  rw[HZ0.out]at hz;have HZL:Xo (Z0.length=384):=dD<|by rw[<-HZ0.out,jx]
  have HPL:Xo ((zE (tab (zB s.ars))).length=384):=jx _;have HPO:Xo (∀v∈zE (tab (zB s.ars)),v.oneCell'=Xc):=QO _;have HCO:Xo (∀k,k<64->∀(i:Nat) u,(onv (zB s.ars k))[i]? =Xa u->(zE (tab (zB s.ars)))[k*6+i]? =Xa u):=show∀k,_ from fun k hk i u hu=>Zl (Jh hk) i _ hu
  generalize zE (tab (zB s.ars))=CO at HON HPL HPO HCO
  clear hl hx hsm;go_upto_region 18 with fail;obtain⟨px,HPX⟩:=kA wr.heap.size;obtain⟨W5,hW5⟩:=kB (wr.alloc (Xk #[Xh x.live,x.ar.x,x.t0.x,x.t1.x,x.t2.x,x.t3.x,x.t4.x,x.t5.x,x.t6.x,x.t7.x] 79));have g5:=gP hW5
  have S5:=xP hW5 HPX
  have G5:=dD (GP.trans g5);rw[hW5,HPX.out];clear hW5 g5 d0 d1 d2 d3 d4 d5 d6 d7 d8 d9;have s1:=S5.c 1 rfl;have hc:=HON.out W5 (G1.trans G5);go_wp2_with fail;refine hc.mono ?_;clear s1 hc;rintro e W6 ⟨rfl,g6⟩;obtain⟨po,HPQ⟩:=kA W6.heap.size;have G6:=dD (G5.trans g6);have S6:=dD (S5.grew g6);clear g6
  go_upto_region 19 with(refine zr rfl 82 (.tmp 9) (.tmp 140) rfl W6.heap.size rfl CO rfl (Box.top W6 Z0 82 rfl) (by rw[HPL.out,HZL.out]) (Rx HZL.out zqD) HPO.out ?_)
  intro W7 b7 g7 s7;have g67:zc W6 W7:=zd (za _ _) g7 (nR _);have G7:=dD (G6.trans g67);have S7:=dD (S6.grew g67);rw[HPQ.out]at b7⊢;have P7:Xo (Box W7 po CO):=b7;clear b7 g7 s7 g67 hz;try simp only[Yh]
  have s2:=S7.c 2 rfl;have s3:=S7.c 3 rfl;have s4:=S7.c 4 rfl;have s5:=S7.c 5 rfl;have s6:=S7.c 6 rfl;have s7:=S7.c 7 rfl;have s8:=S7.c 8 rfl;have s9:=S7.c 9 rfl;have hc:=HFT.out W7 (G1.trans G7);go_wp2_with fail;refine hc.mono ?_;clear hc s2 s3 s4 s5 s6 s7 s8 s9;rintro e W8 ⟨rfl,g8⟩;have G8:=dD (G7.trans g8);have P8:=dD (P7.grew g8);clear g8;go_wp2
  go_loopg [144] 64 (fun gg s144 wr=>∃n:Nat,n<=64/\64 - n<=gg/\s144=I6 n/\Xo (zc W8 wr))
  exact⟨0,nZ _,Wm,rfl,zc.refl _⟩
  obtain⟨n,hn,hgn,rfl,G9⟩:=hrel
  by_cases hln:n<64
  ·have hlnz:(n:Int)<64:=Wm
   have HZK:Xo ((zm s n).kind≠0->Jm m (zB s.ars n) (zm s n)=0):=dD<|HPS.out n hln
   have HZF:Xo ((JT s.tb)[n]? =Xa (zm s n)):=zcn s.tb hln;have HON:Xo (∀(i:Nat) u,(onv (zB s.ars n))[i]? =Xa u->CO[n*6+i]? =Xa u):=show∀i,_ from HCO.out n hln
   have h0:0<=(zm s n).n:=zon (zgD HRT.2 n)
   generalize zm s n=e at HZK HZF h0
   generalize zB s.ars n=o at HZK HON
   go_upto_region 22 with(refine zaL rfl (.tmp 143) (.tmp 144) rfl (JT s.tb) rfl n rfl hln HZF.out ?_)
   obtain⟨pe,HPE⟩:=kA wr.heap.size;obtain⟨W10,hW10⟩:=kB (wr.alloc (Xk #[I6 e.kind,I6 e.n,Xh e.wr] 75));have g10:=gP hW10
   have E10:=xP hW10 HPE
   have G10:=dD (G9.trans g10);rw[hW10,HPE.out];clear hW10 g10;have e0:=E10.c 0 rfl
   by_cases hk:e.kind=0
   ·have hke:(e.kind == 0)=Xc:=by simp[hk]
    clear hk;go_wp2
    go_roundg (64 -(n+1));exact⟨n+1,Wm,Wm,Gn,G10⟩;omega
   have hke:(e.kind == 0)=Xd:=by simp[hk]
   have HEZ:Xo (Jm m o e=0):=HZK.out hk;have X10:=dD (X1.grew (G8.trans G10));have P10:=dD (P8.grew G10);clear hk;go_upto_region 23 with fail;clear hke e0;have hx0:∀y:ze W10,y.world.cell? ⟨w.heap.size,0,Xb⟩=_:=fun y=>(X10.grew y.grew).c 0 rfl
   have hx1:∀y:ze W10,y.world.cell? ⟨w.heap.size,1,Xb⟩=_:=fun y=>(X10.grew y.grew).c 1 rfl
   have hx2:∀y:ze W10,y.world.cell? ⟨w.heap.size,2,Xb⟩=_:=fun y=>(X10.grew y.grew).c 2 rfl
   have hx3:∀y:ze W10,y.world.cell? ⟨w.heap.size,3,Xb⟩=_:=fun y=>(X10.grew y.grew).c 3 rfl
   have hx4:∀y:ze W10,y.world.cell? ⟨w.heap.size,4,Xb⟩=_:=fun y=>(X10.grew y.grew).c 4 rfl
   have hx5:∀y:ze W10,y.world.cell? ⟨w.heap.size,5,Xb⟩=_:=fun y=>(X10.grew y.grew).c 5 rfl
   have hx6:∀y:ze W10,y.world.cell? ⟨w.heap.size,6,Xb⟩=_:=fun y=>(X10.grew y.grew).c 6 rfl
   have hx7:∀y:ze W10,y.world.cell? ⟨w.heap.size,7,Xb⟩=_:=fun y=>(X10.grew y.grew).c 7 rfl
   have hx8:∀y:ze W10,y.world.cell? ⟨w.heap.size,8,Xb⟩=_:=fun y=>(X10.grew y.grew).c 8 rfl
   have hx9:∀y:ze W10,y.world.cell? ⟨w.heap.size,9,Xb⟩=_:=fun y=>(X10.grew y.grew).c 9 rfl
   have hx10:∀y:ze W10,y.world.cell? ⟨w.heap.size,10,Xb⟩=_:=fun y=>(X10.grew y.grew).c 10 rfl
   have he0:∀y:ze W10,y.world.cell? ⟨pe,0,Xb⟩=_:=fun y=>(E10.grew y.grew).c 0 rfl
   have he1:∀y:ze W10,y.world.cell? ⟨pe,1,Xb⟩=_:=fun y=>(E10.grew y.grew).c 1 rfl
   have he2:∀y:ze W10,y.world.cell? ⟨pe,2,Xb⟩=_:=fun y=>(E10.grew y.grew).c 2 rfl
   have ho0:∀y:ze W10,y.world.cell? ⟨po,n*6,Xb⟩=_:=fun y=>(P10.grew y.grew).c _ (HON 0 _ rfl)
   have ho1:∀y:ze W10,y.world.cell? ⟨po,n*6+1,Xb⟩=_:=fun y=>(P10.grew y.grew).c _ (HON 1 _ rfl)
   have ho2:∀y:ze W10,y.world.cell? ⟨po,n*6+2,Xb⟩=_:=fun y=>(P10.grew y.grew).c _ (HON 2 _ rfl)
   have ho3:∀y:ze W10,y.world.cell? ⟨po,n*6+3,Xb⟩=_:=fun y=>(P10.grew y.grew).c _ (HON 3 _ rfl)
   have ho4:∀y:ze W10,y.world.cell? ⟨po,n*6+4,Xb⟩=_:=fun y=>(P10.grew y.grew).c _ (HON 4 _ rfl)
   have ho5:∀y:ze W10,y.world.cell? ⟨po,n*6+5,Xb⟩=_:=fun y=>(P10.grew y.grew).c _ (HON 5 _ rfl)
   have hne:Nonempty (ze W10):=⟨⟨_,zc.refl _⟩⟩;refine ju [(5,⟨fun v=>v=I6 0,fun v w'=>True⟩)] z6 Kr (Sa ⟨_,rfl⟩) ?hp ?_
   case hp=>
    intro x hx;simp only[mC,nM,or_false]at hx;subst hx;exact fun _ _ _ _ h=>h
   iterate 5 (refine z3 rfl rfl rfl (fun K hK=>?_);go_big_quiet_op;refine hK _ ?_;clear hK K)
   refine zx rfl rfl (fun w' hg hF=>?_) (fun v1 hv=>?_)
   ·refine zJ.call [Xi #[O fa fn fc,I6 m.hand,O sa sn sc,vsb.x,vsq.x,vdb.x,vdq.x,O fla fln flc,I6 m.cnt,O caa can cac,O (Xa ad) spn spc],Xi #[Xh o.is,Xh o.rd,Xh o.wr,Xh o.sh,I6 o.file,I6 o.page],Xi #[I6 e.kind,I6 e.n,Xh e.wr]] rfl func29 rfl rfl rfl ?_;refine(HEN w' o e (((G1.trans G8).trans G10).trans hg) h0 HEZ).mono ?_;rintro e w'' ⟨rfl,hg2⟩;exact⟨_,rfl,hg2,rfl,trivial⟩
   subst hv;simp only[Yh,sB,sS,sZ];iterate 1 (refine z3 rfl rfl rfl (fun K hK=>?_);go_big_quiet_op;refine hK _ ?_;clear hK K)
   refine qd fun W11 hg1 hF=>?_
   have G11:=dD (G10.trans hg1);clear hg1 hF hne hx0 hx1 hx2 hx3 hx4 hx5 hx6 hx7 hx8 hx9 hx10 he0 he1 he2 ho0 ho1 ho2 ho3 ho4 ho5;go_wp2
   go_roundg (64 -(n+1));exact⟨n+1,Wm,Wm,Gn,G11⟩;omega
  have hlnz:¬(n:Int)<64:=Wm
  go_wp2
  go_roundg (spn -(p+1));exact⟨p+1,Wm,Wm,Gn,G8.trans G9⟩;omega
 have hlpz:=kD hlp
 have x0:=(X1.grew GP).c 0 rfl;obtain⟨WD,rfl⟩:∃WD,WD=wr:=⟨_,rfl⟩;go_wp2;clear x0
 go_loopg [166] fn (fun gg s166 wr=>∃k:Nat,k<=fn/\fn - k<=gg/\s166=I6 k/\Xo (zc W1 wr))
 exact⟨0,nZ _,Wm,rfl,GP⟩
 obtain⟨k,hk,hgk,rfl,GK⟩:=hrel
 by_cases hlk:k<fn
 ·have hlkz:=kC hlk
  obtain⟨q,HQ⟩:∃q,Xo (m.fs[k]? =Xa q):=⟨_,gE (Rx HN1.out hlk)⟩
  obtain⟨adf,rfl,hl⟩:=HFR.out k q HQ.out;obtain⟨d0,d1,d2,d3,d4,d5,d6,d7,d8,d9,d10,d11,d12⟩:=hl wr (G1.trans GK);obtain⟨Hz,HHZ⟩:=kA (Zu m 1 (k:Int):Int);obtain⟨Cz,HCZ⟩:=kA (zH m.ca (k:Int):Int);have hHz:0<=Hz/\Hz<=256:=by
   have h1:=zgv (m:=m) (kind:=1) (k:=(k:Int)) m.sp.length;rw[zef]at h1;have h2:=HHZ.out;have h3:=HP.s4;omega
  have hCz:0<=Cz/\Cz<=5864062014805:=by
   have h1:zH m.ca (k:Int)<=m.ca.length:=Yj;have h2:=HCZ.out;have h3:=HN8.out;omega
  obtain⟨hHz0,hHz1⟩:=hHz;obtain⟨hCz0,hCz1⟩:=hCz;have hgd:q.r=Hz+Cz/\¬(0<=q.f/\Cz=0):=by
   have h1:=HHZ.out;have h2:=HCZ.out;have hb:=HFE.out k (Rx HN1.out hlk)
   unfold frE at hb;rw[qp HQ.out]at hb
   split at hb
   ·cases hb
   rename_i h3
   omega
  obtain⟨k1,k4⟩:=hgd;have k1e:(q.r != Hz+Cz)=Xd:=by simp[k1]
  clear hl k1;go_upto_region 31 with fail;obtain⟨pq,HPQ⟩:=kA wr.heap.size;obtain⟨W12,hW12⟩:=kB (wr.alloc (Xk #[U8 q.p.b0,U8 q.p.b1,U8 q.p.b2,U8 q.p.b3,U8 q.p.b4,U8 q.p.b5,U8 q.p.b6,U8 q.p.b7,I6 q.r,Xh q.u,Xh q.d,I6 q.f,I6 q.x] 62));have g12:=gP hW12
  have Q12:=xP hW12 HPQ
  have G12:=dD (GK.trans g12);rw[hW12,HPQ.out];clear hW12 g12 d0 d1 d2 d3 d4 d5 d6 d7 d8 d9 d10 d11 d12;obtain⟨x0,x1,x2,x3,x4,x5,x6,x7,x8,x9,x10⟩:=(X1.grew G12).eleven;have hc:=HHO.out W12 1 (k:Int) (G1.trans G12);rw[HHZ.out]at hc;go_wp2_with fail;refine hc.mono ?_;clear hc x0 x1 x2 x3 x4 x5 x6 x7 x8 x9 x10;rintro e W13 ⟨rfl,g13⟩;have G13:=dD (G12.trans g13);have Q13:=dD (Q12.grew g13);clear g13;have x9:=(X1.grew G13).c 9 rfl;go_wp2;clear x9
  go_loopg [16,177] can (fun gg s16 s177 wr=>∃j:Nat,j<=can/\can - j<=gg/\s177=I6 j/\s16=I6 (zH (m.ca.take j) (k:Int):Int)/\Xo (zc W13 wr))
  exact⟨0,nZ _,Wm,rfl,rfl,zc.refl _⟩
  obtain⟨j,hj,hgj,rfl,rfl,GJ⟩:=hrel
  by_cases hlj:j<can
  ·have hljz:=kC hlj
   obtain⟨c,HC⟩:∃c,Xo (m.ca[j]? =Xa c):=⟨_,gE (Rx HN8.out hlj)⟩
   obtain⟨adc,rfl,hl⟩:=HCA.out j c HC.out;obtain⟨d0,d1,d2⟩:=hl wr ((G1.trans G13).trans GJ);have hcl:zH (m.ca.take j) (k:Int)<=j:=zmu j;have HCS:Xo (zH (m.ca.take (j+1)) (k:Int)=zH (m.ca.take j) (k:Int)+(decide (c.fr=(k:Int))).toNat):=zia HC.out;obtain⟨c0,hc0⟩:=kB (zH (m.ca.take j) (k:Int));rw[hc0]at hcl HCS⊢;clear hc0 hl;go_upto_region 35 with fail;obtain⟨pc,HPC⟩:=kA wr.heap.size;obtain⟨W14,hW14⟩:=kB (wr.alloc (Xk #[I6 c.file,I6 c.idx,I6 c.fr] 93));have g14:=gP hW14
   have C14:=xP hW14 HPC
   have G14:=dD (GJ.trans g14);rw[hW14,HPC.out];clear hW14 g14 d0 d1 d2;have c2:=C14.c 2 rfl
   by_cases hkk:c.fr=(k:Int)
   ·have hke:(c.fr ==(k:Int))=Xc:=by simp[hkk]
    have HV:Xo (zH (m.ca.take (j+1)) (k:Int)=c0+1):=dD<|by rw[HCS.out,decide_eq_true hkk];rfl
    clear hkk;go_wp2
    go_roundg (can -(j+1));exact⟨j+1,Wm,Wm,Gn,by rw[HV.out];go_num,G14⟩;omega
   have hke:(c.fr ==(k:Int))=Xd:=by simp[hkk]
   have HV:Xo (zH (m.ca.take (j+1)) (k:Int)=c0):=dD<|by rw[HCS.out,decide_eq_false hkk];rfl
   clear hkk;go_wp2
   go_roundg (can -(j+1));exact⟨j+1,Wm,Wm,Gn,by rw[HV.out],G14⟩;omega
  have hljz:=kD hlj
  obtain rfl:can=j:=Wm
  have hce:(zH (m.ca.take can) (k:Int):Int)=Cz:=by rw[Ya (by rw[HN8.out];exact nR _)];exact HCZ.out
  rw[hce];clear hce;have q8:=(Q13.grew GJ).c 8 rfl;have q11:=(Q13.grew GJ).c 11 rfl
  by_cases k2:0<=q.f
  ·have k2d:decide (0<=q.f)=Xc:=decide_eq_true k2;have k3e:(Cz == 0)=Xd:=by simpa using fun e=>k4 ⟨k2,e⟩
   clear k2 k4;go_wp2
   go_roundg (fn -(k+1));exact⟨k+1,Wm,Wm,Gn,G13.trans GJ⟩;omega
  have k2d:decide (0<=q.f)=Xd:=decide_eq_false k2;clear k2 k4;go_wp2
  go_roundg (fn -(k+1));exact⟨k+1,Wm,Wm,Gn,G13.trans GJ⟩;omega
 have hlkz:=kD hlk
 have x2:=(X1.grew GK).c 2 rfl;obtain⟨WE,rfl⟩:∃WE,WE=wr:=⟨_,rfl⟩;go_wp2;clear x2
 go_loopg [207] sn (fun gg s207 wr=>∃j:Nat,j<=sn/\sn - j<=gg/\s207=I6 j/\Xo (zc W1 wr))
 exact⟨0,nZ _,Wm,rfl,GK⟩
 obtain⟨j,hj,hgj,rfl,GJ⟩:=hrel
 by_cases hlj:j<sn
 ·have hljz:=kC hlj
  obtain⟨z,HQ⟩:∃z,Xo (m.sl[j]? =Xa z):=⟨_,gE (Rx HN2.out hlj)⟩
  obtain⟨ads,rfl,hl⟩:=HSL.out j z HQ.out;have d0:=hl wr (G1.trans GJ);have hzz:z=(Zu m 2 (j:Int):Int):=by
   have h1:=HSE.out j (Rx HN2.out hlj)
   unfold zjq at h1;rw[gD,HQ.out]at h1
   split at h1
   ·cases h1
   rename_i h2
   exact Classical.byContradiction h2
  have hc:=HHO.out wr 2 (j:Int) (G1.trans GJ);rw[<-hzz]at hc;have k1e:(z != z)=Xd:=Sm
  clear hl hzz;obtain⟨x0,x1,x2,x3,x4,x5,x6,x7,x8,x9,x10⟩:=(X1.grew GJ).eleven;go_wp2_with fail;refine hc.mono ?_;clear hc d0 x0 x1 x2 x3 x4 x5 x6 x7 x8 x9 x10;rintro e W13 ⟨rfl,g13⟩;have G13:=dD (GJ.trans g13);clear g13;go_wp2
  go_roundg (sn -(j+1));exact⟨j+1,Wm,Wm,Gn,G13⟩;omega
 have hljz:=kD hlj
 have GE:=dD (G1.trans GJ);go_wp2;go_ret;exact⟨rfl,GE⟩
theorem zd3 {a:Act} {w:Xn} (c x) (g:o.op= .load c x) (ad) (h:a.eval x= Xj (Xa ad)) (v) (f:w.cell? ad=Xa v) {d:TypeDesc} (e:Tryz.prog.underlying c=Xa d) (b:d.isRow=Xd):(execOp a.eval o).run prog w= .ok (.value v) w:=by
 have b:(isAgg c).run prog w= .ok Xd w:=by
  unfold isAgg;rw[Xs,run_underlying e w]
  cases d <;> simp_all [TypeDesc.isRow]
 have e:(loadVar c ad).run prog w= .ok v w:=by simp[loadVar,Xs,b,f]
 simp only[execOp,g,h,Instr.loadAt,Instr.sureAddr,Xs,Xw,e,rA]
structure zfw (m:Ma) (c:Ca) (k fi ix:Nat) (f:Fr) (F:Fl):Prop where
 fr:c.fr=(k:Int)
 file:c.file=(fi:Int)
 idx:c.idx=(ix:Int)
 fa:m.fs[k]? =Xa f
 ff:f.f=(fi:Int)
 fx:f.x=(ix:Int)
 fl:m.fl[fi]? =Xa F
 sz:0<=F.size/\F.size<=96
 lo:ix<=12
 r:f.r≠0
 bl:ix<F.bl.length
theorem zfq (p:maW m=0) {c:Ca} (a:c∈m.ca):∃k b e f F,zfw m c k b e f F:=by
 obtain⟨⟨d,d,d,s,d,d⟩,⟨j,l,n⟩,-⟩:=zmv ((zu.1 (zaS p).1.ca).1 c a);obtain⟨k,r⟩:∃k:Nat,c.fr=(k:Int):=⟨c.fr.toNat,Wm⟩
 obtain⟨b,a⟩:∃b:Nat,c.file=(b:Int):=⟨c.file.toNat,Wm⟩
 obtain⟨e,d⟩:∃e:Nat,c.idx=(e:Int):=⟨c.idx.toNat,Wm⟩
 obtain⟨f,q⟩:∃f,m.fs[k]? =Xa f:=⟨_,gE Wm⟩
 obtain⟨F,g⟩:∃F,m.fl[b]? =Xa F:=⟨_,gE Wm⟩
 have i:zU m c.fr=f:=by unfold zU;rw[r,tN,gD,q];rfl
 have h:bkN m c.file=(F.bl.length:Int):=by unfold bkN;rw[a,tN,gD,g];rfl
 rw[i]at j l n;rw[h]at s;obtain⟨h,i⟩:=zpb p g;have:=zfn h.1 h.2;exact⟨k,b,e,f,F,r,a,d,q,l.trans a,n.trans d,g,h,Wm,j,Wm⟩
def zjg (m:Ma) (bo:Bool) (m':Ma):Prop:=
 (bo=Xd/\m'=m/\∀(j:Nat) c k fi ix f F,m.ca[j]? =Xa c->zfw m c k fi ix f F->f.d=Xc->j9 m.fl m.cnt f.f f.x≠0)\/
 (bo=Xc/\∃c k fi ix f F,c∈m.ca/\zfw m c k fi ix f F/\f.d=Xc/\j9 m.fl m.cnt f.f f.x=0/\m'=clM m k f F)
theorem zfw.same {c:Ca} {k k' fi' ix':Nat} {f f':Fr} {F F':Fl} (h:zfw m c k fi ix f F) (h':zfw m c k' fi' ix' f' F'):f=f':=by
 have e:k=k':=by have:=h.fr;have:=h'.fr;omega
 subst e;have:=h.fa.symm.trans h'.fa;cases this;rfl
theorem zkt (V:MaV) (m:Ma) (w:Xn) (hm:zy w V m) (h0:maW m=0):
  Xp prog 11 #[Xi (mL V m).toArray] w fun e w'=>(∃(bo:Bool) (m':Ma) (V':MaV),zjg m bo m'/\e= Xl (Xm #[Xi (mL V' m').toArray,Xh bo,I6 0])/\∀W,qD (fun k=>k<w.heap.size) w' W->zy W V' m')/\zc w w':=by
 obtain⟨W1,hW1⟩:=kB ((w.alloc (Xk (mL V m).toArray 41)).alloc (Xk zM.toArray 41));have G1:=gD2 hW1
 obtain⟨b,HB⟩:=kA w.heap.size;have X1:Xo (zo W1 b 41 (mL V m)):=dD<|by rw[<-hW1];exact(zo.top w (mL V m) _ HB.symm).grew (za _ _)
 have Z1:Xo (zo W1 (b+1) 41 qf):=dD<|by rw[<-hW1];exact zo.top _ qf _ (by have:=HB.out;simp;omega)
 have A1:Xo (zy W1 V m):=hm.grew G1.out;have HW1:Xo (_=W1):=hW1;have hwr:=Qy V m W1 A1 h0;have H0:Xo (maW m=0):=h0;clear hW1 hm h0
 go_enter func11,ntmps11
 go_upto_region 1 with fail;rw[HW1.out,HB.out];obtain⟨x0,x1,x2,x3,x4,x5,x6,x7,x8,x9,x10⟩:=X1.box.c11;go_wp2_with fail;refine hwr.mono ?_;clear hwr x0 x1 x2 x3 x4 x5 x6 x7 x8 x9 x10;rintro e W2 ⟨rfl,g2⟩;have X2:=dD (X1.grew g2);have Z2:=dD (Z1.grew g2);have A2:=dD (A1.grew g2);have G2:=dD (G1.trans g2);clear g2;have hof:=zco V m W2 A2.out;obtain⟨x0,x1,x2,x3,x4,x5,x6,x7,x8,x9,x10⟩:=X2.box.c11;go_wp2_with fail;refine hof.mono ?_;clear hof x0 x1 x2 x3 x4 x5 x6 x7 x8 x9 x10;rintro e W3 ⟨p,V1,rfl,hc⟩;have C3:Xo (ChW W2 p W3 V1 m):=hc;have HBL:Xo (b+1<W2.heap.size):=Z2.box.lt;have Z3:Xo (zo W3 (b+1) 41 qf):=Z2.grew hc.gr;clear hc;obtain⟨⟨caa,can,cac⟩,HCA⟩:∃ca,Xo (V1.ca=ca):=⟨_,rfl⟩;obtain⟨-,-,-,-,-,-,-,n8,-⟩:=C3.at.ns;have x9:=C3.box.box.c 9 rfl;rw[HCA.out]at x9 n8;dsimp only at x9 n8;have HN8:Xo (can=m.ca.length):=n8;have hcan:can<=9223372036854775807:=Rx n8 C3.ca.at.short
 clear n8;go_wp2;clear x9
 go_loopg [23] can (fun gg s23 wr=>∃i:Nat,i<=can/\can - i<=gg/\s23=I6 i/\(∃V',Xo (V'.ca=⟨caa,can,cac⟩)/\Xo (ChW W2 p wr V' m))/\Xo (zo wr (b+1) 41 qf)/\Xo (∀(j:Nat) c k fi ix f F,j<i->m.ca[j]? =Xa c->zfw m c k fi ix f F->f.d=Xc->j9 m.fl m.cnt f.f f.x≠0))
 exact⟨0,nZ _,Wm,rfl,⟨V1,HCA,C3⟩,Z3,fun j c k fi ix f F h=>absurd h (nL _)⟩
 obtain⟨i,hi,hgg,rfl,⟨V5,HCA,C5⟩,Z5,OW⟩:=hrel
 by_cases hlt:i<can
 rotate_left
 ·have hltz:=kD hlt
  have HRR:Xo (zjg m Xd m):= .inl ⟨rfl,rfl,fun j c k fi ix f F hj=>OW.out j c k fi ix f F (by have:=(gS.1 hj).1;have:=HN8.out;omega) hj⟩
  obtain⟨r0,r1,r2,r3,r4,r5,r6,r7,r8,r9,r10⟩:=C5.box.box.c11;have HZL:Xo (∀v∈chL V5 m,v.oneCell'=Xc):=dD<|by simp[chL,Value.oneCell']
  go_wp2_with (refine zP rfl 41 (.tmp 2) (.tmp 52) rfl (b+1) rfl (chL V5 m) rfl Z5 rfl Kr HZL.out ?_)
  clear r0 r1 r2 r3 r4 r5 r6 r7 r8 r9 r10;intro W6 bx gr6 _;have G6:Xo (zc w W6):=dD<|zd (G2.trans C5.gr) gr6 (Hm HB.out)
  have B6:Xo (zo W6 (b+1) 41 (chL V5 m)):=bx;have HF:Xo (∀W,qD (fun k=>k<w.heap.size) W6 W->zy W V5 m):=show∀W,_ from fun W hW=>C5.doneD ((qD.grown gr6 (show b+1<W2.heap.size from HBL.out)).trans (hW.wide fun k hk=>Yg hk (bS G2)))
  clear bx gr6;go_wp2;refine bodyPost_ret (zZ rfl _ rfl B6.box underlying41 rfl Kr) rfl ⟨⟨Xd,m,V5,HRR,rfl,HF⟩,G6⟩
 have hltz:=kC hlt
 obtain⟨c,HCI⟩:∃c,Xo (m.ca[i]? =Xa c):=⟨_,gE (Hm HN8.out)⟩
 obtain⟨k,fi,ix,f,F,his⟩:=zfq H0 (mG HCI);have HIS:Xo (zfw m c k fi ix f F):=his;obtain⟨ad,had,hcl⟩:=C5.at.cas i c HCI.out;rw[HCA.out]at had;dsimp only at had;subst had;obtain⟨d0,d1,d2⟩:=hcl wr (zc.refl _);rw[his.fr]at d2;rw[his.file]at d0;rw[his.idx]at d1;clear hcl his;go_upto_region 8 with fail;obtain⟨q,HQ⟩:=kA wr.heap.size;obtain⟨W4,hW4⟩:=kB (wr.alloc (Xk #[I6 (fi:Int),I6 (ix:Int),I6 (k:Int)] 93));have G4:=gA hW4
 have Y4:=xPT hW4 HQ
 have hq:¬Dw p V5 q:=fun e=>absurd (C5.dlt _ e) (Hm HQ.out)
 rw[hW4,HQ.out];clear hW4 d0 d1 d2;obtain⟨adf,hadf,hfl⟩:=C5.at.frs k f HIS.fa;obtain⟨n1,-⟩:=C5.at.ns;have hklt:(k:Int)< (V5.f.n:Int):=by
  have:=(gS.1 HIS.fa).1;omega
 have HX0:Xo (∀W,zc W4 W->W.cell? ⟨p,0,Xb⟩=Xa (O (Xa adf) V5.f.n V5.f.c)):=dD<|fun W hW=>by
  have:=(C5.box.box.grew (G4.trans hW)).c 0 rfl;rw[hadf]at this;exact this
 obtain⟨fd,HFD⟩:=kA f.d;have HDC:Xo (∀W,zc W4 W->W.cell? { block:=(adf.add (k*13)).block,off:=(adf.add (k*13)).off+10 }=Xa (Xh fd)):=dD<|fun W hW=>by
  obtain⟨_,_,_,_,_,_,_,_,_,_,d10,_,_⟩:=hfl W (G4.trans hW);rw[<-HFD.out];exact d10
 obtain⟨R,HR⟩:=kA (decide (j9 m.fl m.cnt f.f f.x=0));obtain⟨N,HN⟩:=kA (clM m k f F);have HCL:Xo (∀W,zc W4 W->Xp prog 31 #[Xj (Xa ⟨p,0,Xb⟩),I6 (k:Int)] W fun e w'=>e= Xl (Xh R)/\zao W2 p W V5 N w'):=dD<|fun W hW=>by
  rw[<-HR.out,<-HN.out];exact zdo (C5.grew (G4.trans hW)) k f HIS.fa fi ix F HIS.ff HIS.fx HIS.fl HIS.sz HIS.lo
 clear hadf hfl n1;have gd:zc W4 W4.drew:=show Below _ _ _ from(bR _ _).drew
 obtain⟨I,HI⟩:=Wq fun u=>zo u q 93 [I6 (fi:Int),I6 (ix:Int),I6 (k:Int)]
 have hI0:I W4.drew:=(HI _).2 (Y4.grew gd);have hF0:zc W4 W4.drew:=gd;have hy2:∀y:zj I,y.world.cell? ⟨q,2,Xb⟩=Xa (I6 (k:Int)):=fun y=>((HI _).1 y.holds).box.c 2 rfl
 have hne:Nonempty (zj I):=⟨⟨_,hI0⟩⟩;refine Zg (I:=I) 17 [(15,fun v=>v= Xh R)] [5,10] (fun u=>zc W4 u) hI0 hF0 z6 Kr rfl rfl Dc (Sa ⟨_,rfl⟩) Kr Kr ?_
 simp only[Xy,Xz];refine zY rfl rfl rfl (fun K hK=>?_);go_big_quiet_op;refine hK _ ?_;clear hK K
 refine ZT (.tmp 27) ⟨p,0,Xb⟩ rfl rfl rfl rfl ?_;simp only[Yh,sB,sS,sZ];iterate 3 (refine zY rfl rfl rfl (fun K hK=>?_);go_big_quiet_op;refine hK _ ?_;clear hK K)
 refine QI rfl rfl rfl (O (Xa adf) V5.f.n V5.f.c) (fun w' _ hF'=>?_) ?_
 ·exact zbo 26 (.tmp 31) rfl p 0 rfl (O (Xa adf) V5.f.n V5.f.c) (HX0 w' hF') underlying26 rfl
 simp only[Yh,sB,sS,sZ];iterate 4 (refine zY rfl rfl rfl (fun K hK=>?_);go_big_quiet_op;refine hK _ ?_;clear hK K)
 refine QI rfl rfl rfl (Xh fd) (fun w' _ hF'=>?_) ?_
 ·exact zd3 4 (.tmp 36) rfl _ rfl (Xh fd) (HDC w' hF') underlying4 rfl
 simp only[Yh,sB,sS,sZ];refine zY rfl rfl rfl (fun K hK=>?_);go_big_quiet_op;refine hK _ ?_;clear hK K
 cases fd with
 | false=>
  iterate 4 (refine JI rfl ?_;simp only[Yh,sB,sS,sZ])
  refine zY rfl rfl rfl (fun K hK=>?_);go_big_quiet_op;refine hK _ ?_;clear hK K
  refine Qq fun W9 hI8 hF8=>?_
  have G9:=dD (G4.trans hF8);have OW':Xo (∀(j:Nat) c k fi ix f F,j<i+1->m.ca[j]? =Xa c->zfw m c k fi ix f F->f.d=Xc->j9 m.fl m.cnt f.f f.x≠0):=show∀j,_ from fun j c' k' fi' ix' f' F' hj hc' his' hd'=>by
   by_cases e:j=i
   ·subst e;rw[HCI.out]at hc';cases hc';rw[<-HIS.same his',HFD.out]at hd';cases hd'
   exact OW j c' k' fi' ix' f' F' Wm hc' his' hd'
  clear hI8 hF8 hI0 hF0 hy2 hne gd hq;go_wp2
  go_roundg (can -(i+1));exact⟨i+1,Wm,Wm,Gn,⟨V5,HCA,C5.grew G9⟩,Z5.grew G9,OW'⟩;omega
 | true=>
  iterate 3 (refine zY rfl rfl rfl (fun K hK=>?_);go_big_quiet_op;refine hK _ ?_;clear hK K)
  refine QH rfl rfl (fun _ u=>zao W2 p wr V5 N u) (fun w' hI' hF'=>?_) (fun v1 hv=>?_)
  ·refine zJ.call [Xj (Xa ⟨p,0,Xb⟩),I6 (k:Int)] rfl func31 rfl rfl rfl ?_;refine(HCL w' hF').mono ?_;rintro e w'' ⟨rfl,hch⟩;have g9:=zao.of_grew (G4.trans hF') hch;obtain⟨V2,_,_,o2,_⟩:=hch;exact⟨_,rfl,(HI _).2 (((HI _).1 hI').chg o2 hq),rfl,g9⟩
  subst hv;simp only[Yh,sB,sS,sZ];refine zY rfl rfl rfl (fun K hK=>?_);go_big_quiet_op;refine hK _ ?_;clear hK K
  refine Qq fun W9 hI8 hF8=>?_
  obtain⟨V9,e9,c9,o9,d9⟩:=hF8;have C9:Xo (ChW W2 p W9 V9 N):=c9;have E9:Xo (V9.ca=⟨Xa ad,can,cac⟩):=show _=_ from e9.trans HCA.out
  have Z9:Xo (zo W9 (b+1) 41 qf):=Z5.outD o9 (fun e=>by have:=C5.dlo _ e;have:=HBL.out;omega)
  clear hI8 e9 c9 o9 d9 hI0 hF0 hy2 hne gd hq
  cases R with
  | true=>
   have HRR:Xo (zjg m Xc N):= .inr ⟨rfl,c,k,fi,ix,f,F,mG HCI,HIS,HFD,of_decide_eq_true HR,HN.symm⟩;have Z5:Xo (zo W9 (b+1) 41 qf):=Z9;obtain⟨r0,r1,r2,r3,r4,r5,r6,r7,r8,r9,r10⟩:=C9.box.box.c11;have HZL:Xo (∀v∈chL V9 N,v.oneCell'=Xc):=show∀v∈chL V9 N,_ by simp[chL,Value.oneCell']
   go_wp2_with (refine zP rfl 41 (.tmp 2) (.tmp 47) rfl (b+1) rfl (chL V9 N) rfl Z5 rfl Kr HZL.out ?_)
   clear r0 r1 r2 r3 r4 r5 r6 r7 r8 r9 r10;intro W6 bx gr6 _;have G6:Xo (zc w W6):=dD<|zd (G2.trans C9.gr) gr6 (Hm HB.out)
   have B6:Xo (zo W6 (b+1) 41 (chL V9 N)):=bx;have HF:Xo (∀W,qD (fun k=>k<w.heap.size) W6 W->zy W V9 N):=show∀W,_ from fun W hW=>C9.doneD ((qD.grown gr6 (show b+1<W2.heap.size from HBL.out)).trans (hW.wide fun k hk=>Yg hk (bS G2)))
   clear bx gr6;go_wp2;refine bodyPost_ret (zZ rfl _ rfl B6.box underlying41 rfl Kr) rfl ⟨⟨Xc,N,V9,HRR,rfl,HF⟩,G6⟩
  | false=>
   have HNM:Xo (N=m):=dD<|by
    rw[<-HN.out];unfold clM;rw[kF (of_decide_eq_false HR.out)]
   rw[HNM.out]at C9;have OW':Xo (∀(j:Nat) c k fi ix f F,j<i+1->m.ca[j]? =Xa c->zfw m c k fi ix f F->f.d=Xc->j9 m.fl m.cnt f.f f.x≠0):=dD<|fun j c' k' fi' ix' f' F' hj hc' his' hd'=>by
    by_cases e:j=i
    ·subst e;rw[HCI.out]at hc';cases hc';rw[<-HIS.same his'];exact of_decide_eq_false HR.out
    exact OW j c' k' fi' ix' f' F' Wm hc' his' hd'
   go_wp2
   go_roundg (can -(i+1));exact⟨i+1,Wm,Wm,Gn,⟨V9,E9,C9⟩,Z9,OW'⟩;omega
end
section
section
variable{m:Ma}
theorem zj6 (S:Nat->Nat->Prop) (j:Rt m) {b:List (List Int)} (g:b.length=m.db.length) (p:∀i:Nat,b[i]? =m.db[i]?\/∃q∈m.dq,q.1.toNat=i) (k:∀z:Int,qv b [] z=qv m.db m.dq z):Z6 S m { m with db:=b,dq:=[] }:=by
 have c:=j.inv;have f:zF b.length []=0:=by
  have e:=c.dok;rw[<-g]at e;unfold zF at e⊢
  split at e
  ·cases e
  rename_i a
  rw[kF a,kF Sm,kF Sm]
 have h:∀a d,qn { m with db:=b,dq:=[] } a d=qn m a d:=fun a d=>by
  unfold qn
  cases m.ca.find? (Jw a d)with
  | some n=>rfl
  | none=>
   show(if zdQ m a d<0 then zp else jV (qv b [] (zdQ m a d)) d (Qb m a))=_
   rw[k]
 have k:qK { m with db:=b,dq:=[] } (Qg { m with db:=b,dq:=[] }):=by
  refine⟨c.fs40,c.fok,c.sl60,c.sbl,c.sq,f,c.st,by show m.cnt=_;rw[c.cnt,g],fun g e f=>?_,fun q l=>(by cases l),c.spl,c.spok,c.tl,zu.2 ⟨fun n h=>(zu.1 c.ca).1 n h,fun _ _ l=>(by cases l),(zu.1 c.ca).2.2⟩,c.ent,c.cf,c.cs⟩
  have l:g<b.length:=e
  show b[g]? =_
  rcases p g with l|⟨q,p,n⟩
  ·rw[l];exact c.blk g Wm f
  have l:=zpL c.dok p;have n:=c.que q p;have c:zR m.fl (g:Int)=Xd:=f;rw[show q.1=(g:Int) by omega,c]at n
  cases n
 have g:∀(q:Nat) s c,m.sp[q]? =Xa s->({ m with db:=b,dq:=[] }:Ma).sp[q]? =Xa c->c=s:=fun q s c e f=>by
  have:m.sp[q]? =Xa c:=f;rw[e]at this;cases this;rfl
 refine⟨Rt.of k (fun s b=>j.tb b) j.hand.1 j.hand.2,⟨rfl,fun q s c e f=>?_,fun q n s c e f _ _=>?_,rfl,fun _=>rfl,fun _=>rfl,fun _ _ _=>by rw[h]⟩,rfl,fun q n s c e f _ l=>?_,fun a d _ a=>⟨a,h _ _⟩⟩
 ·cases g q s c e f
  exact⟨rfl,rfl⟩
 ·cases g q s c e f
  exact zeQ rfl rfl (fun _=>⟨rfl,Iff.rfl⟩) (fun _=>rfl) (fun _=>rfl) h
 cases g q s c e f
 exact l
theorem Z6.views (h:Rt m) (g:Z6 (fun _ _=>False) m m'):(∀p n:Int,zoD m' p n=zoD m p n)/\∀file:Nat,zev m' (file:Int)=zev m (file:Int):=by
 have a:maW m'=0:=g.rt.w;refine⟨fun p n=>?_,fun file=>?_⟩
 ·unfold zoD;rw[kF (by rw[a];simp),kF (by rw[h.w];simp)]
  by_cases a:p<0\/(m.sp.length:Int)<=p\/n<0\/63<n
  ·rw[zit a,zit (by rw[g.sam.spl];exact a)]
  have b:p.toNat<m.sp.length:=Wm
  have c:=gE b;have a:=gE (show p.toNat<m'.sp.length by rw[g.sam.spl];exact b)
  have d:p=((p.toNat:Nat):Int):=Wm
  have e:n=((n.toNat:Nat):Int):=Wm
  have b:n.toNat<64:=Wm
  rw[d,e,zcf c b,zcf a b,(g.sam.sp _ _ _ c a).2];exact g.sam.see _ _ _ _ c a b (fun e=>e)
 unfold zev;rw[g.sam.sz];refine List.map_congr_left fun k a=>?_
 exact g.sam.byt file k (Hm (Yi.1 a))
end
theorem zdq {α:Type} (P:α->Bool):∀{l:List α} {k:Nat} {x y:α},l[k]? =Xa x->(l.set k y).countP P+(P x).toNat=l.countP P+(P y).toNat
 | [],k,x,y,h=>by simp at h
 | a :: l,0,x,y,h=>by
  have:a=x:=Si h
  subst this;rw[sZ,Ye,Ye]
  cases P a <;> cases P y <;> simp
 | a :: l,k+1,x,y,h=>by
  have:=zdq P (l:=l) (k:=k) (x:=x) (y:=y) (by rw[Xt]at h;exact h)
  rw[sS,Ye,Ye];omega
theorem znP {fs:List Fr} {k:Nat} {fr:Fr} (a:fs[k]? =Xa fr) (b:fr.r≠0):jJ (fs.set k frF)=jJ fs+1:=by
 have h:jJ (fs.set k frF)+(decide (fr.r=0)).toNat=jJ fs+(decide (frF.r=0)).toNat:=zdq _ a;rw[decide_eq_false b,show decide (frF.r=0)=Xc from rfl]at h
 exact h
theorem zlX {fs:List Fr} {k:Nat} {fr fr':Fr} (hk:fs[k]? =Xa fr) (hr:fr'.r=fr.r):jJ (fs.set k fr')=jJ fs:=by
 have h:jJ (fs.set k fr')+(decide (fr.r=0)).toNat=jJ fs+(decide (fr'.r=0)).toNat:=zdq _ hk;rw[hr]at h;omega
theorem jI {fs:List Fl} {b:Int}:zR fs b=Xc↔∃(i:Nat) (f:Fl) (j:Nat),fs[i]? =Xa f/\f.bl[j]? =Xa b:=by
 unfold zR;rw[List.any_eq_true];constructor
 ·rintro⟨f,c,h⟩;obtain⟨i,a⟩:=Yd c;obtain⟨j,c⟩:=Yd (Yr.1 h);exact⟨i,f,j,a,c⟩
 rintro⟨i,f,j,a,c⟩;exact⟨f,mG a,Yr.2 (mG c)⟩
theorem JD {l:List Int} {b:Int} (h:b∈l) (a:b≠-1):b∈Z7 l:=List.mem_filter.2 ⟨h,Si a⟩
theorem zcI {b:Int} (g:b≠-1):∀{l:List Int} {j k:Nat},(Z7 l).Nodup->l[j]? =Xa b->l[k]? =Xa b->j=k
 | [],j,k,_,h,_=>by simp at h
 | a :: l,j,k,c,d,e=>by
  have h:(Z7 l).Nodup:=by
   unfold Z7 at c⊢;rw[List.filter_cons]at c
   split at c
   ·exact(List.nodup_cons.1 c).2
   exact c
  have f:a=b->b∉l:=fun i m=>by
   subst i;unfold Z7 at c;rw[List.filter_cons,kE (Si g)]at c
   exact(List.nodup_cons.1 c).1 (JD m g)
  cases j with
  | zero=>
   cases k with
   | zero=>rfl
   | succ k=>
    rw[Xt]at e;exact absurd (mG e) (f (Si d))
  | succ j=>
   cases k with
   | zero=>
    rw[Xt]at d;exact absurd (mG d) (f (Si e))
   | succ k=>
    rw[Xt]at d e;rw[zcI g h d e]
theorem zg4 {fs:List Fl} {i:Nat} {f:Fl} {b:Int} (a:fs[i]? =Xa f) (c:f.bl[j]? =Xa b):b∈Z4 fs:=List.mem_flatMap.2 ⟨f,mG a,mG c⟩
theorem zex {b:Int} (d:b≠-1):∀{fs:List Fl} {i k j l:Nat} {f g:Fl},(Z7 (Z4 fs)).Nodup->fs[i]? =Xa f->f.bl[j]? =Xa b->fs[k]? =Xa g->g.bl[l]? =Xa b->i=k/\j=l
 | [],i,k,j,l,f,g,_,h,_,_,_=>by simp at h
 | a :: fs,i,k,j,l,f,g,p,e,h,c,m=>by
  have n:Z7 (Z4 (a :: fs))=Z7 a.bl++Z7 (Z4 fs):=by
   unfold Z7 Z4;rw[List.flatMap_cons,List.filter_append]
  rw[n,List.nodup_append]at p;obtain⟨r,s,q⟩:=p
  cases i with
  | zero=>
   have n:a=f:=Si e
   subst n
   cases k with
   | zero=>
    have n:a=g:=Si c
    subst n;exact⟨rfl,zcI d r h m⟩
   | succ k=>
    rw[Xt]at c;exact absurd rfl (q b (JD (mG h) d) b (JD (zg4 c m) d))
  | succ i=>
   rw[Xt]at e
   cases k with
   | zero=>
    have n:a=g:=Si c
    subst n;exact absurd rfl (q b (JD (mG m) d) b (JD (zg4 e h) d))
   | succ k=>
    rw[Xt]at c;obtain⟨n,p⟩:=zex d s e h c m;exact⟨by rw[n],p⟩
theorem zgZ {fs:List Fl} {c:Int} {file a:Nat} {f:Fl} (e:stW fs c=0) (d:fs[file]? =Xa f) (h:f.bl[a]? =Xa (b:Int)):
  fs.set file ⟨f.size,f.bl.set a (b:Int)⟩=fs/\(∀x,zR fs x=Xc↔(zR fs x=Xc/\x≠-1)\/x=(b:Int)\/(x=-1/\zR fs x=Xc))/\∀(i j:Nat) g,fs[i]? =Xa g->g.bl[j]? =Xa (b:Int)->i=file/\j=a:=by
 obtain⟨_,_,k⟩:=(qi fs c).1 e;have l:(b:Int)≠-1:=Wm
 refine⟨?_,fun x=>?_,fun i j g c e=>zex l k c e d h⟩
 ·have c:f.bl.set a (b:Int)=f.bl:=by
   apply Yo
   intro q;rw[Yu]
   split
   ·rename_i e
    subst e;rw[kE (gS.1 h).1,h]
   rfl
  rw[c]
  apply Yo
  intro q;rw[Yu]
  split
  ·rename_i e
   subst e;rw[kE (gS.1 d).1,d]
  rfl
 constructor
 ·intro c
  by_cases e:x=-1
  ·exact .inr (.inr ⟨e,c⟩)
  exact .inl ⟨c,e⟩
 rintro(⟨c,_⟩|rfl|⟨_,c⟩)
 ·exact c
 ·exact jI.2 ⟨file,f,a,d,h⟩
 exact c
theorem zg0 {fs:List Fl} {c:Int} {file a:Nat} {f:Fl} (h:stW fs c=0) (p:fs[file]? =Xa f) (q:f.bl[a]? =Xa (-1)) (d:b∈ZR fs c):
  stW (fs.set file ⟨f.size,f.bl.set a (b:Int)⟩) c=0/\(∀x,zR (fs.set file ⟨f.size,f.bl.set a (b:Int)⟩) x=Xc↔(zR fs x=Xc/\x≠-1)\/x=(b:Int)\/(x=-1/\zR (fs.set file ⟨f.size,f.bl.set a (b:Int)⟩) x=Xc))/\zR fs (b:Int)=Xd/\∀(i j:Nat) g,fs[i]? =Xa g->g.bl[j]? =Xa (b:Int)->i=file/\j=a:=by
 have r:zR fs (b:Int)=Xd:=by
  have:=(List.mem_filter.1 d).2
  simpa using this
 have e:=(gS.1 p).1;have n:=(gS.1 q).1;refine⟨(zj3 h p q d).1,fun x=>?_,r,fun i j g d c=>?_⟩
 ·constructor
  ·intro k
   by_cases l:x=-1
   ·exact .inr (.inr ⟨l,k⟩)
   obtain⟨i,g,j,d,c⟩:=jI.1 k
   by_cases m:file=i
   ·subst m;rw[sF e]at d;cases d;simp only at c
    by_cases h:a=j
    ·subst h;rw[sF n]at c;cases c;exact .inr (.inl rfl)
    rw[sN h]at c;exact .inl ⟨jI.2 ⟨file,f,j,p,c⟩,l⟩
   rw[sN m]at d;exact .inl ⟨jI.2 ⟨i,g,j,d,c⟩,l⟩
  rintro(⟨k,l⟩|rfl|⟨_,k⟩)
  ·obtain⟨i,g,j,d,c⟩:=jI.1 k
   by_cases m:i=file
   ·subst m;rw[p]at d;cases d;have p:a≠j:=fun h=>by
     subst h;rw[q]at c;cases c;exact l rfl
    exact jI.2 ⟨i,⟨f.size,f.bl.set a (b:Int)⟩,j,by rw[sF e],by simp only;rw[sN p];exact c⟩
   exact jI.2 ⟨i,g,j,by rw[sN (fun h=>m h.symm)];exact d,c⟩
  ·exact jI.2 ⟨file,⟨f.size,f.bl.set a (b:Int)⟩,a,by rw[sF e],by simp only;rw[sF n]⟩
  exact k
 have:=jI.2 ⟨i,g,j,d,c⟩;rw[r]at this;cases this
end
end Go.Proofs.YtjjdljjhmcegdaaGreat
