import Derived.Test.YtacihbmelcegbaaGreatPE6
import Derived.Test.YtacihbmelcegbaaGreatPE7
import Derived.Deep.CutRange
import Derived.Deep.DeepCutAuto
import Derived.Laws.BytesArg
import Derived.Deep.Cut
namespace Go.Proofs.YtacihbmelcegbaaGreat
open Go.Value renaming slice→O,int→Xe,bool→Xh,agg→Xi,pointer→Xj,tuple→Xm
open Go.IntKind renaming i64→Xf,u8→Xg
open Go.Obj renaming cells→Xk
open Go.Ending renaming returned→Xl
open Go renaming World→Xo,Calls→Xq,Value→Xr
open Go.RowKit renaming Hid→Xp
open Option renaming some→Xa,none→Xb
open Bool renaming true→Xc,false→Xd
open List renaming replicate→Xs
open Go.Act renaming put→Xt
open Go.Addr renaming add_lit→Xu
open Go.Sem renaming run_bind→Xv,run_pure→Ya
open _root_.List renaming map_nil→Xw,take→Xx,drop→Xy,mem_append→Xz,map_toArray→Yb,getElem?_append_left→Yc,length_set→Yd
open _root_.Nat renaming le_of_ble_eq_true→Ye,lt_of_lt_of_le→Yf
set_option maxRecDepth 100000
set_option maxHeartbeats 4000000
variable{B fi hi:Nat} {L:List Int} {T:List (Nat->En)} {V:MaV} {m:Ma} {o:Oper} {vt:Sli} {w' w0:Xo}
open Go.Proofs.Tryz
section
open Go.RowKit
theorem zfP (F S B:Int) (nf ns nb:Nat) (hnf:max (min F 40) 0=(nf:Int)) (hns:max (min S 60) 0=(ns:Int)) (hnb:max (min B 80) 0=(nb:Int)) (vl:Sli) (L:List Int) (w:Xo) (lr:zm byE w (vl.x) L) (lc:vl.n<=vl.c) (lb:∀z∈L,0<=z/\z<256):
  Xq prog 13 #[I6 F,I6 S,I6 B,vl.x] w fun e w'=>∃(V:MaV) (m:Ma) (T:List (Nat->En)) (hd:Int) (hi ht:Nat) (vt:Sli),e= Xl (Xi #[V.f.x,I6 hd,V.s.x,V.sb.x,V.sq.x,V.db.x,V.dq.x,V.fl.x,I6 m.cnt,V.ca.x,V.sp.x])/\zk5 w nf ns nb L w' V m T hd hi ht vt:=by
 have hnf40:nf<=40:=by omega
 have hns60:ns<=60:=by omega
 have hnb80:nb<=80:=by omega
 obtain⟨W0,hW0⟩:=kB ((w.alloc (Xk zM.toArray 41)).alloc (Xk #[vl.x,eS,I6 0,eS,eS,eS,eS,eS,eS,I6 0,eS,eS,eS] 95));have G0:=gD2 hW0
 have X0:Xp (zt W0 w.heap.size 41 qy):=dD<|by rw[<-hW0];exact(zt.top _ qy _ rfl).grew (za _ _)
 have Y0:Xp (zt W0 (w.heap.size+1) 95 [vl.x,eS,I6 0,eS,eS,eS,eS,eS,eS,I6 0,eS,eS,eS]):=dD<|by rw[<-hW0];exact zt.top _ [vl.x,eS,I6 0,eS,eS,eS,eS,eS,eS,I6 0,eS,eS,eS] _ (by simp)
 have HW0:Xp (_=W0):=hW0;have HLR:Xp (zm byE w (vl.x) L):=lr;have HLC:Xp (vl.n<=vl.c):=lc;have HLB:Xp (∀z∈L,0<=z/\z<256):=show∀z,_ from lb
 clear hW0 lr lc lb
 go_enter func13,ntmps13
 go_upto_region 3 with fail;rw[HW0.out];try rw[hnf]
 try rw[hns]
 try rw[hnb]
 clear hnf hns hnb;obtain⟨b,HBB⟩:=kA (w.heap.size+1);rw[HBB.out]at Y0⊢;obtain⟨I,HI⟩:∃I:Xo->Prop,Xp (∀u,I u↔zc W0 u):=⟨fun u=>zc W0 u,fun _=>Iff.rfl⟩
 have hI0:I W0.drew:=(HI _).2 (gW _)
 have hne:Nonempty (zj I):=⟨⟨_,hI0⟩⟩;refine zeF (I:=I) (J:=JB nf ns nb) 17 [(2,⟨fun v=>∃g,v= O (Xa ⟨g,0,Xb⟩) nf nf,fun v u=>zb Qj w.heap.size u v (Xs nf fr0),fun p q=>zc p q,fun _=>True⟩),(5,⟨fun v=>∃g,v= O (Xa ⟨g,0,Xb⟩) ns ns,fun v u=>zb slE w.heap.size u v (Xs ns 0),fun p q=>zc p q,fun _=>True⟩),(7,⟨fun v=>∃g,v= O (Xa ⟨g,0,Xb⟩) ns ns,fun v u=>zi w.heap.size u v (Xs ns zx),fun p q=>zc p q,fun _=>True⟩),(10,⟨fun v=>∃g,v= O (Xa ⟨g,0,Xb⟩) nb nb,fun v u=>zi w.heap.size u v (Xs nb zx),fun p q=>zc p q,fun _=>True⟩)] hI0 ?hJ0 ?hJq ?hJs ?hJu zW (by kernel_rfl) rfl rfl (by decide) ?hS ?hp ?hpre ?hpr0 ?_
 case hJ0=>
  refine⟨⟨rfl,rfl,rfl⟩,fun s hs=> .inl ?_,fun s hs x n c he=>?_,fun s hs t ht hst x n c y n' c' he=>?_⟩
  ·simp only[mC,nM,or_false]at hs
   rcases hs with rfl|rfl|rfl|rfl <;> rfl
  ·simp only[mC,nM,or_false]at hs
   rcases hs with rfl|rfl <;> cases he
  simp only[mC,nM,or_false]at hs
  rcases hs with rfl|rfl <;> cases he
 case hJq=>
  intro j o hj hS a v u hr hJ;exact hJ.quiet (zly (Sx:=[2,5,7,10]) (by kernel_rfl) hj (zik hS)) (by omega) (by omega) hnb80 hr
 case hJs=>
  intro j o s hj hs a u K hJ hI hd;have hs':=zS hs;clear hs;simp only[mC,pJ,nM,or_false]at hs'
  rcases hs' with⟨rfl,rfl⟩|⟨rfl,rfl⟩|⟨rfl,rfl⟩|⟨rfl,rfl⟩
  ·cases hj;obtain⟨i0,hi,hz0,hz1,hz2⟩:=info_parts Qj.info;exact hJ.make 26 53 i0 _ 32 rfl (by simp) Qj.und hi hz0 (by rw[hz2];decide) (by decide) hd
  ·cases hj;obtain⟨i0,hi,hz0,hz1,hz2⟩:=info_parts slE.info;exact hJ.make 30 3 i0 _ 35 rfl (by simp) slE.und hi hz0 (by rw[hz2];decide) (by decide) hd
  ·cases hj;obtain⟨i0,hi,hz0,hz1,hz2⟩:=info_parts zop;exact hJ.make 31 44 i0 _ 37 rfl (by simp) underlying31 hi hz0 (by rw[hz2];decide) (by decide) hd
  cases hj;obtain⟨i0,hi,hz0,hz1,hz2⟩:=info_parts zop;exact hJ.make 31 44 i0 _ 40 rfl (by simp) underlying31 hi hz0 (by rw[hz2];decide) (by decide) hd
 case hJu=>
  intro j o hj a u hJ;exact hJ.undef (zlz (by kernel_rfl) hj)
 case hS=>
  intro x hx;simp only[mC,nM,or_false]at hx
  rcases hx with rfl|rfl|rfl|rfl <;> exact⟨_,0,rfl⟩
 case hp=>
  intro k s j t hk hj hjk hanc v p q hst hpo;have hk':=zS hk;have hj':=zS hj;clear hk hj;simp only[mC,pJ,nM,or_false]at hk' hj';have hg:zc p q:=by rcases hj' with⟨rfl,rfl⟩ | ⟨rfl,rfl⟩ | ⟨rfl,rfl⟩ | ⟨rfl,rfl⟩ <;> exact hst
  rcases hk' with⟨rfl,rfl⟩|⟨rfl,rfl⟩|⟨rfl,rfl⟩|⟨rfl,rfl⟩
  ·exact zb.grew hpo hg
  ·exact zb.grew hpo hg
  ·exact zi.grew hpo hg
  exact zi.grew hpo hg
 case hpre=>
  intro j t k s hj hk hjk p q hst hpr;have hj':=zS hj;clear hk hj;simp only[mC,pJ,nM,or_false]at hj'
  rcases hj' with⟨rfl,rfl⟩|⟨rfl,rfl⟩|⟨rfl,rfl⟩|⟨rfl,rfl⟩ <;> trivial
 case hpr0=>
  intro k t hk;have hk':=zS hk;clear hk;simp only[mC,pJ,nM,or_false]at hk'
  rcases hk' with⟨rfl,rfl⟩|⟨rfl,rfl⟩|⟨rfl,rfl⟩|⟨rfl,rfl⟩ <;> trivial
 simp only[Xx,Xy];iterate 2 (refine zk rfl rfl rfl (fun K hK=>?_);go_big_quiet_op;refine hK _ ?_;clear hK)
 refine zP rfl rfl (fun w' hI' hpr hF=>?_) (fun v1 hv=>?_)
 ·have hg:=(HI _).1 hI';exact zaH Qj w' nf (by show nf*40<=_;omega) (.tmp 32) rfl rfl (fun C ho=>⟨(HI _).2 (hg.trans (za _ _)),za _ _,⟨_,rfl⟩,ho.base (nT (bS G0) (bS hg))⟩)
 obtain⟨gf,rfl⟩:=hv;simp only[Xt,sB,sS,sZ];iterate 2 (refine zk rfl rfl rfl (fun K hK=>?_);go_big_quiet_op;refine hK _ ?_;clear hK)
 refine zP rfl rfl (fun w' hI' hpr hF=>?_) (fun v1 hv=>?_)
 ·have hg:=(HI _).1 hI';exact zaH slE w' ns (by show ns*8<=_;omega) (.tmp 35) rfl rfl (fun C ho=>⟨(HI _).2 (hg.trans (za _ _)),za _ _,⟨_,rfl⟩,ho.base (nT (bS G0) (bS hg))⟩)
 obtain⟨gl,rfl⟩:=hv;simp only[Xt,sB,sS,sZ];iterate 1 (refine zk rfl rfl rfl (fun K hK=>?_);go_big_quiet_op;refine hK _ ?_;clear hK)
 refine zP rfl rfl (fun w' hI' hpr hF=>?_) (fun v1 hv=>?_)
 ·have hg:=(HI _).1 hI';exact Jm w' ns (by omega) (.tmp 37) rfl rfl (fun C ho=>⟨(HI _).2 (hg.trans (za _ _)),za _ _,⟨_,rfl⟩,ho.base (nT (bS G0) (bS hg))⟩)
 obtain⟨gsb,rfl⟩:=hv;simp only[Xt,sB,sS,sZ];iterate 2 (refine zk rfl rfl rfl (fun K hK=>?_);go_big_quiet_op;refine hK _ ?_;clear hK)
 refine zP rfl rfl (fun w' hI' hpr hF=>?_) (fun v1 hv=>?_)
 ·have hg:=(HI _).1 hI';exact Jm w' nb hnb80 (.tmp 40) rfl rfl (fun C ho=>⟨(HI _).2 (hg.trans (za _ _)),za _ _,⟨_,rfl⟩,ho.base (nT (bS G0) (bS hg))⟩)
 obtain⟨gdb,rfl⟩:=hv;simp only[Xt,sB,sS,sZ];iterate 4 (refine zk rfl rfl rfl (fun K hK=>?_);go_big_quiet_op;refine hK _ ?_;clear hK)
 refine jM (.tmp 31) ⟨b,0,Xb⟩ rfl rfl rfl rfl ?_;simp only[Xt,sB,sS,sZ];iterate 1 (refine zk rfl rfl rfl (fun K hK=>?_);go_big_quiet_op;refine hK _ ?_;clear hK)
 refine jS fun W1 hI1 hF hJ=>?_
 have hap:gsb≠gdb:=hJ.2.2.2 38 (by simp) 41 (by simp) (by decide) ⟨gsb,0,Xb⟩ ns ns ⟨gdb,0,Xb⟩ nb nb rfl rfl
 have o1:zb Qj w.heap.size W1 (O (Xa ⟨gf,0,Xb⟩) nf nf) (Xs nf fr0):=hF 2;have o2:zb slE w.heap.size W1 (O (Xa ⟨gl,0,Xb⟩) ns ns) (Xs ns 0):=hF 5;have o3:zi w.heap.size W1 (O (Xa ⟨gsb,0,Xb⟩) ns ns) (Xs ns zx):=hF 7;have o4:zi w.heap.size W1 (O (Xa ⟨gdb,0,Xb⟩) nb nb) (Xs nb zx):=hF 10;have g1:=(HI _).1 hI1;have Y1:=dD (Y0.grew g1);have X1:=dD (X0.grew g1);have G1:=dD (G0.trans g1);clear hF hJ hI1 hI0 hne g1;refine zeE rfl 41 (.tmp 47) (.tmp 45) rfl b 1 rfl [O (Xa ⟨gf,0,Xb⟩) nf nf,I6 0,O (Xa ⟨gl,0,Xb⟩) ns ns,O (Xa ⟨gsb,0,Xb⟩) ns ns,eS,O (Xa ⟨gdb,0,Xb⟩) nb nb,eS,eS,I6 (nb:Int),eS,eS] rfl Y1 (by simp) (by kernel_rfl) (fun v hv=>by simp only[mC,nM,or_false]at hv;rcases hv with rfl | rfl | rfl | rfl | rfl | rfl | rfl | rfl | rfl | rfl | rfl <;> rfl) ?_
 intro W2 hb2 hg2 hs2;have B2:zt W2 b 95 [vl.x,O (Xa ⟨gf,0,Xb⟩) nf nf,I6 0,O (Xa ⟨gl,0,Xb⟩) ns ns,O (Xa ⟨gsb,0,Xb⟩) ns ns,eS,O (Xa ⟨gdb,0,Xb⟩) nb nb,eS,eS,I6 (nb:Int),eS,eS,eS]:=hb2;have M2:Xp (Mk w W2.heap.size W2 b vl L ⟨⟨Xa ⟨gf,0,Xb⟩,nf,nf⟩,⟨Xa ⟨gl,0,Xb⟩,ns,ns⟩,⟨Xa ⟨gsb,0,Xb⟩,ns,ns⟩,zy,⟨Xa ⟨gdb,0,Xb⟩,nb,nb⟩,zy,zy,zy,zy⟩ ⟨Xs nf fr0,0,Xs ns 0,Xs ns zx,[],Xs nb zx,[],[],nb,[],[]⟩ zy []):=zlI (ze G1 hg2 (by have:=HBB.out;omega)) (by have:=HBB.out;omega) B2 HLR HLC HLB (o1.kind hg2 Y1 (by decide)) (o2.kind hg2 Y1 (by decide)) ⟨qB o3.1 hg2 Y1 (by decide),o3.2⟩ ⟨qB o4.1 hg2 Y1 (by decide),o4.2⟩ hap
 have X2:Xp (zt W2 w.heap.size 41 qy):=X1.beside hg2 (fun g e=>by cases e;have:=HBB.out;omega)
 clear hb2 hg2 hs2 o1 o2 o3 o4 hap;obtain⟨hi,HHI⟩:=kA W2.heap.size;rw[HHI.out]at M2;try simp only[Xt]
 have x1:=M2.box.box.c 1 rfl;go_wp2;clear x1
 go_loopg [55] nf (fun gg s55 wr=>∃kk:Nat,kk<=nf/\nf - kk<=gg/\s55=I6 kk/\Xp (Mk w hi wr b vl L ⟨⟨Xa ⟨gf,0,Xb⟩,nf,nf⟩,⟨Xa ⟨gl,0,Xb⟩,ns,ns⟩,⟨Xa ⟨gsb,0,Xb⟩,ns,ns⟩,zy,⟨Xa ⟨gdb,0,Xb⟩,nb,nb⟩,zy,zy,zy,zy⟩ ⟨zfZ nf kk,0,Xs ns 0,Xs ns zx,[],Xs nb zx,[],[],nb,[],[]⟩ zy [])/\Xp (zt wr w.heap.size 41 qy))
 case atStart=>exact⟨0,nZ _,by omega,rfl,by rw[zkh];exact M2,X2⟩
 obtain⟨kk,hkk,hgg,rfl,MW,XW⟩:=hrel
 by_cases hlt:kk<nf
 ·have hltz:=kC hlt
  have x1:=MW.box.box.c 1 rfl;dsimp only[Sli.x]at x1;have R:Xp (zb Qj w.heap.size wr (O (Xa ⟨gf,0,Xb⟩) nf nf) (zfZ nf kk)):=MW.rows.fs;have d:wr.cell? ⟨gf,kk*13+11,Xb⟩=Xa (I6 0):=by
   have:=R.one (zkj hlt) 11 _ rfl;rw[zX,Xu,zA]at this;exact this
  have xf:=R.unfrozen rfl;obtain⟨ow,gr,sz⟩:=R.cell (k:=kk) (o:=11) rfl (zkj hlt) (y:=frF) (u:=I6 (-1)) rfl (by decide)
  rw[zl5 hlt]at ow;have hM:=MW.setF rfl gr sz ow (zcN.free (znj nf (kk+1)) (zki nf (kk+1)));have M3:Xp (Mk w hi (wr.setCell ⟨gf,kk*13+11,Xb⟩ (I6 (-1))) b vl L ⟨⟨Xa ⟨gf,0,Xb⟩,nf,nf⟩,⟨Xa ⟨gl,0,Xb⟩,ns,ns⟩,⟨Xa ⟨gsb,0,Xb⟩,ns,ns⟩,zy,⟨Xa ⟨gdb,0,Xb⟩,nb,nb⟩,zy,zy,zy,zy⟩ ⟨zfZ nf (kk+1),0,Xs ns 0,Xs ns zx,[],Xs nb zx,[],[],nb,[],[]⟩ zy []):=hM.1;have X3:Xp (zt (wr.setCell ⟨gf,kk*13+11,Xb⟩ (I6 (-1))) w.heap.size 41 qy):=hM.2.1 _ _ _ XW ⟨by decide,by decide,by decide,by decide,by decide,by decide,by decide,by decide,fun h=>absurd h (by decide)⟩
  clear hM ow gr sz;go_wp2
  go_roundg (nf -(kk+1))
  case measure=>omega
  exact⟨kk+1,by omega,by omega,by go_num,M3,X3⟩
 have hltz:=kD hlt
 obtain rfl:nf=kk:=by omega
 rw[zl6]at MW;have hpk:=qA 3 MW.out;go_wp2_with fail;refine hpk.mono ?_;clear hpk;rintro e W3 ⟨vl1,L1,y,rfl,mk1,gr1,sz1,y0,y1,yn,ll⟩;obtain⟨c,rfl⟩:∃c:Nat,y=(c:Int):=⟨y.toNat,by omega⟩
 have hc3:c<3:=by rcases y1 with h | h <;> omega
 have HC0:Xp (L=[]->c=0):=dD<|fun e=>by have:=yn e;omega
 have M3:Xp (Mk w hi W3 b vl1 L1 ⟨⟨Xa ⟨gf,0,Xb⟩,nf,nf⟩,⟨Xa ⟨gl,0,Xb⟩,ns,ns⟩,⟨Xa ⟨gsb,0,Xb⟩,ns,ns⟩,zy,⟨Xa ⟨gdb,0,Xb⟩,nb,nb⟩,zy,zy,zy,zy⟩ ⟨Xs nf frF,0,Xs ns 0,Xs ns zx,[],(Xs nb zx),[],[],nb,[],[]⟩ zy []):=mk1;have X3:Xp (zt W3 w.heap.size 41 qy):=XW.beside gr1 (fun g e=>by cases e;have:=HBB.out;omega)
 have LL3:Xp (ZP L L1):=ll;clear mk1 gr1 sz1 y0 y1 yn ll;go_wp2
 go_loopg [70] c (fun gg s70 wr=>∃(k2:Nat) (vl':Sli) (L':List Int) (sd sf:Sli) (db:List (List Int)) (dq:List (Int × List Int)) (fl:List Fl),k2<=c/\c - k2<=gg/\s70=I6 k2/\Xp (Mk w hi wr b vl' L' ⟨⟨Xa ⟨gf,0,Xb⟩,nf,nf⟩,⟨Xa ⟨gl,0,Xb⟩,ns,ns⟩,⟨Xa ⟨gsb,0,Xb⟩,ns,ns⟩,zy,⟨Xa ⟨gdb,0,Xb⟩,nb,nb⟩,sd,sf,zy,zy⟩ ⟨Xs nf frF,0,Xs ns 0,Xs ns zx,[],db,dq,fl,nb,[],[]⟩ zy [])/\Xp (ZP L L')/\Xp (zt wr w.heap.size 41 qy)/\Xp (zex fl nb db dq []/\fl.length<=k2/\db.length=nb/\∀f∈fl,f.size<40)/\Xp (k2=0->fl=[]/\dq=[]/\db=Xs nb zx))
 case atStart=>exact⟨0,vl1,L1,zy,zy,_,_,_,nZ _,by omega,rfl,M3,LL3,X3,(show _/\_ from⟨zex.zero hnb80,nZ _,lR,fun f hf=>(by cases hf)⟩),(fun _=>⟨rfl,rfl,rfl⟩)⟩
 obtain⟨k2,vl2,L2,sd,sf,db,dq,fl,hk2,hg2,rfl,MW,LW,XW,FW,ZW⟩:=hrel
 by_cases hlt2:k2<c
 ·have hltz2:=kC hlt2
  have hpk2:=qA 40 MW.out;go_wp2_with fail;refine hpk2.mono ?_;clear hpk2;rintro e W4 ⟨vl4,L4,sz,rfl,mk4,gr4,-,s0,s1,-,ll4⟩;have hsz:sz<40:=by rcases s1 with h|h <;> omega
  have M4:Xp (Mk w hi W4 b vl4 L4 ⟨⟨Xa ⟨gf,0,Xb⟩,nf,nf⟩,⟨Xa ⟨gl,0,Xb⟩,ns,ns⟩,⟨Xa ⟨gsb,0,Xb⟩,ns,ns⟩,zy,⟨Xa ⟨gdb,0,Xb⟩,nb,nb⟩,sd,sf,zy,zy⟩ ⟨Xs nf frF,0,Xs ns 0,Xs ns zx,[],db,dq,fl,nb,[],[]⟩ zy []):=mk4;have X4:Xp (zt W4 w.heap.size 41 qy):=XW.beside gr4 (fun g e=>by cases e;have:=HBB.out;omega)
  have LL4:=dD (LW.trans ll4);clear mk4 gr4 ll4 s1;go_upto_region 12 with fail;obtain⟨pf,HPF⟩:=kA W4.heap.size;obtain⟨W5,hW5⟩:=kB (W4.alloc (Xk #[I6 sz,eS] 84));have g5:=gP hW5
  have P5:=xPT hW5 HPF
  have M5:=dD (M4.grew g5);have X5:=dD (X4.grew g5);have FB5:Xp (FlB w.heap.size hi pf W5 ⟨⟨Xa ⟨gf,0,Xb⟩,nf,nf⟩,⟨Xa ⟨gl,0,Xb⟩,ns,ns⟩,⟨Xa ⟨gsb,0,Xb⟩,ns,ns⟩,zy,⟨Xa ⟨gdb,0,Xb⟩,nb,nb⟩,sd,sf,zy,zy⟩ ⟨Xs nf frF,0,Xs ns 0,Xs ns zx,[],db,dq,fl,nb,[],[]⟩):=show FlB _ _ _ _ _ _ by rw[<-HPF.out];exact M4.rows.flB.grew g5
  have HHP:Xp (hi<=pf):=dD<|by rw[<-HPF.out];exact M4.rows.hw
  have HFN:Xp (∀g,(sf.x).ownBlock=Xa g->g<pf):=dD<|fun g hg=>by rw[<-HPF.out];obtain⟨xs,q1,-,-⟩:=M4.rows.fl;exact(q1.lt g hg).2
  rw[hW5,HPF.out];clear hW5 g5;have p0:=P5.box.c 0 rfl;have hcn:=zeV sz W5 s0 (by omega)
  go_wp2_with fail;refine hcn.mono ?_;clear hcn p0;rintro e W6 ⟨rfl,hw6⟩;rw[hw6];clear hw6;have HC9:Xp (JK sz<=5):=dD<|by unfold JK;split <;> omega
  obtain⟨N3,HN3⟩:∃N3:Nat,Xp (JK sz=(N3:Int)):=⟨(JK sz).toNat,show _=_ by unfold JK;split <;> omega⟩
  rw[HN3.out];have HSZ:Xp (0<=sz/\sz<40):=dD<|⟨s0,hsz⟩
  have hN35:N3<=5:=by have:=HC9.out;have:=HN3.out;omega
  have F5:Xp (FC w hi b W5 vl4 L4 ⟨⟨Xa ⟨gf,0,Xb⟩,nf,nf⟩,⟨Xa ⟨gl,0,Xb⟩,ns,ns⟩,⟨Xa ⟨gsb,0,Xb⟩,ns,ns⟩,zy,⟨Xa ⟨gdb,0,Xb⟩,nb,nb⟩,sd,sf,zy,zy⟩ ⟨Xs nf frF,0,Xs ns 0,Xs ns zx,[],db,dq,fl,nb,[],[]⟩ pf sz zy []):=dD<|⟨M5,HHP,FB5,HFN,P5,zb.nil _ _ _⟩
  have HF0:Xp (zex fl nb db dq []/\db.length=nb):=dD<|⟨FW.1,FW.2.2.1⟩
  have HF40:Xp (∀f∈fl,f.size<40):=dD<|FW.2.2.2
  have HFL:Xp (fl.length<=k2):=dD<|FW.2.1
  clear s0 hsz;go_wp2
  go_loopg [78] N3 (fun gg s78 wr=>∃(k3:Nat) (vl':Sli) (L':List Int) (sd' bs:Sli) (db':List (List Int)) (dq':List (Int × List Int)) (bl:List Int),k3<=N3/\N3 - k3<=gg/\s78=I6 k3/\Xp (FC w hi b wr vl' L' ⟨⟨Xa ⟨gf,0,Xb⟩,nf,nf⟩,⟨Xa ⟨gl,0,Xb⟩,ns,ns⟩,⟨Xa ⟨gsb,0,Xb⟩,ns,ns⟩,zy,⟨Xa ⟨gdb,0,Xb⟩,nb,nb⟩,sd',sf,zy,zy⟩ ⟨Xs nf frF,0,Xs ns 0,Xs ns zx,[],db',dq',fl,nb,[],[]⟩ pf sz bs bl)/\Xp (ZP L L')/\Xp (zt wr w.heap.size 41 qy)/\Xp (zex fl nb db' dq' bl/\bl.length=k3/\db'.length=nb))
  case atStart=>exact⟨0,vl4,L4,sd,zy,db,dq,[],nZ _,by omega,rfl,F5,LL4,X5,(show _/\_ from⟨HF0.1,rfl,HF0.2⟩)⟩
  obtain⟨k3,vl6,L6,sd6,bs,db6,dq6,bl,hk3,hg3,rfl,FX,LX,XX,FI⟩:=hrel
  by_cases hlt3:k3<N3
  ·have hltz3:=kC hlt3
   have hpk7:=qA (max (nb:Int) 1) FX.mm;go_wp2_with fail;refine hpk7.mono ?_;clear hpk7;rintro e W7 ⟨vl7,L7,x,rfl,mk7,gr7,-,x0,-,-,ll7⟩;obtain⟨n,rfl⟩:∃n:Nat,x=(n:Int):=⟨x.toNat,by omega⟩
   have F7:Xp (FC w hi b W7 vl7 L7 ⟨⟨Xa ⟨gf,0,Xb⟩,nf,nf⟩,⟨Xa ⟨gl,0,Xb⟩,ns,ns⟩,⟨Xa ⟨gsb,0,Xb⟩,ns,ns⟩,zy,⟨Xa ⟨gdb,0,Xb⟩,nb,nb⟩,sd6,sf,zy,zy⟩ ⟨Xs nf frF,0,Xs ns 0,Xs ns zx,[],db6,dq6,fl,nb,[],[]⟩ pf sz bs bl):=FX.pick gr7 mk7;have X7:Xp (zt W7 w.heap.size 41 qy):=XX.kind gr7 FX.mm.box (by decide)
   have LL7:=dD (LX.trans ll7);clear mk7 gr7 ll7 x0;go_upto_region 17 with fail
   go_cut [78,109]from 78 to 160 (fun s78 s109 wx=>∃(tk:Bool) (vl':Sli) (L':List Int),s78=I6 k3/\s109= Xh tk/\Xp (FC w hi b wx vl' L' ⟨⟨Xa ⟨gf,0,Xb⟩,nf,nf⟩,⟨Xa ⟨gl,0,Xb⟩,ns,ns⟩,⟨Xa ⟨gsb,0,Xb⟩,ns,ns⟩,zy,⟨Xa ⟨gdb,0,Xb⟩,nb,nb⟩,sd6,sf,zy,zy⟩ ⟨Xs nf frF,0,Xs ns 0,Xs ns zx,[],db6,dq6,fl,nb,[],[]⟩ pf sz bs bl)/\Xp (ZP L L')/\Xp (zt wx w.heap.size 41 qy)/\Xp (tk=Xc->n<nb/\zV (fl++ [⟨sz,bl⟩]) (n:Int)=Xd))
   case first=>
    by_cases hn:n<nb
    ·have hnz:=kC hn
     have hnd:decide ((n:Int)< (nb:Int))=Xc:=by simpa using hnz
     obtain⟨xs,q1,q2,q3⟩:=F7.fb;have HX:Xp (zb fvE w.heap.size W7 (sf.x) xs):=q1;obtain⟨nF,HNF⟩:=kA fl.length;have HXL:Xp (xs.length=nF):=show _=_ by rw[q2];exact HNF.out
     have hnF:nF<=10:=by have:=HFL.out;have:=HNF.out;omega
     have HSN:Xp (sf.n=nF):=dD<|by rw[q1.n];exact HXL.out
     have HX3:Xp (∀(i:Nat) x f,xs[i]? =Xa x->fl[i]? =Xa f->x.size=f.size/\zb blE hi W7 x.v f.bl):=dD<|fun i x f hx hf=>(q3 i x f hx hf).1
     clear q1 q2 q3;obtain⟨fx,HFX⟩:∃fx:FlV,Xp (fx=⟨sz,bs.a,bs.n,bs.c⟩):=⟨_,rfl⟩;obtain⟨UB,HUB⟩:∃UB,Xp (zV (fl++ [(⟨sz,bl⟩:Fl)]) (n:Int)=UB):=⟨zV (fl++ [(⟨sz,bl⟩:Fl)]) (n:Int),rfl⟩;have HB7:Xp (b<W7.heap.size):=F7.mm.box.box.lt;have HPB:Xp (pf≠b):=show _≠_ from fun e=>by
      have h1:W7.heap[pf]? =_:=F7.box;have h2:W7.heap[b]? =_:=F7.mm.box;rw[e,h2]at h1;cases h1
     have HXB:Xp (w.heap.size≠b):=dD<|by have:=HBB.out;omega
     obtain⟨I,HI⟩:∃I:Xo->Prop,Xp (∀u,I u↔Out b (b+1) W7 u/\FCE w hi b L ⟨⟨Xa ⟨gf,0,Xb⟩,nf,nf⟩,⟨Xa ⟨gl,0,Xb⟩,ns,ns⟩,⟨Xa ⟨gsb,0,Xb⟩,ns,ns⟩,zy,⟨Xa ⟨gdb,0,Xb⟩,nb,nb⟩,sd6,sf,zy,zy⟩ ⟨Xs nf frF,0,Xs ns 0,Xs ns zx,[],db6,dq6,fl,nb,[],[]⟩ pf sz bs bl u):=⟨fun u=>Out b (b+1) W7 u/\FCE w hi b L ⟨⟨Xa ⟨gf,0,Xb⟩,nf,nf⟩,⟨Xa ⟨gl,0,Xb⟩,ns,ns⟩,⟨Xa ⟨gsb,0,Xb⟩,ns,ns⟩,zy,⟨Xa ⟨gdb,0,Xb⟩,nb,nb⟩,sd6,sf,zy,zy⟩ ⟨Xs nf frF,0,Xs ns 0,Xs ns zx,[],db6,dq6,fl,nb,[],[]⟩ pf sz bs bl u,fun _=>Iff.rfl⟩
     have hI0:I W7.drew:=(HI _).2 ⟨Out.drew _,vl7,L7,F7.grew (gW _),LL7⟩
     have HIG:Xp (∀u u',I u->zc u u'->I u'):=dD<|fun u u' h k=>by
      obtain⟨h1,vl',L',h2,h3⟩:=(HI _).1 h;exact(HI _).2 ⟨h1.trans (Out.grew k),vl',L',h2.grew k,h3⟩
     have hx8:∀y:zj I,y.world.cell? ⟨b,8,Xb⟩=Xa (sf.x):=fun y=>by
      obtain⟨_,_,_,h2,_⟩:=(HI _).1 y.holds;exact h2.mm.box.box.c 8 rfl
     have hp0:∀y:zj I,y.world.cell? ⟨pf,0,Xb⟩=Xa (I6 sz):=fun y=>by
      obtain⟨_,_,_,h2,_⟩:=(HI _).1 y.holds;exact h2.box.box.c 0 rfl
     have hp1:∀y:zj I,y.world.cell? ⟨pf,1,Xb⟩=Xa (bs.x):=fun y=>by
      obtain⟨_,_,_,h2,_⟩:=(HI _).1 y.holds;exact h2.box.box.c 1 rfl
     have hne:Nonempty (zj I):=⟨⟨_,hI0⟩⟩;refine qP (I:=I) 25 [(4,⟨fun v=>∃g,v= O (Xa ⟨g,0,Xb⟩) 0 0,fun v u=>zb fvE W7.heap.size u v [],fun p q=>zc p q,fun _=>True⟩),(11,⟨fun v=>(∃a c,v= O a nF c)/\(nF=0->∃g,v= O (Xa ⟨g,0,Xb⟩) 0 0),fun v u=>zb fvE W7.heap.size u v xs,fun p q=>zc p q,fun _=>True⟩),(13,⟨fun v=>∃g,v= O (Xa ⟨g,0,Xb⟩) 1 1,fun v u=>zb fvE W7.heap.size u v [fx],fun p q=>zc p q,fun _=>True⟩),(14,⟨fun v=>∃a c,v= O a (nF+1) c,fun v u=>zb fvE W7.heap.size u v (xs++ [fx]),fun p q=>∀u m,m.length<=nF\/m.length<=1->zb fvE W7.heap.size p u m->zb fvE W7.heap.size q u m,fun _=>True⟩),(17,⟨fun v=>v= Xh UB,fun _ _=>True,fun p q=>zc p q,fun _=>True⟩),(22,⟨fun v=>∃x:Int,v=I6 x,fun _ _=>True,fun p q=>Out b (b+1) p q,fun _=>True⟩)] hI0 zW (by kernel_rfl) rfl rfl (by decide) ?hS ?hp ?hpre ?hpr0 ?_
     case hS=>
      intro x hx;simp only[mC,nM,or_false]at hx
      rcases hx with rfl|rfl|rfl|rfl|rfl|rfl
      ·exact⟨_,0,rfl⟩
      ·by_cases h0:nF=0
       ·exact⟨O (Xa ⟨0,0,Xb⟩) 0 0,⟨Xa ⟨0,0,Xb⟩,0,by rw[h0]⟩,fun _=>⟨0,rfl⟩⟩
       exact⟨O Xb nF 0,⟨_,_,rfl⟩,fun h=>absurd h h0⟩
      ·exact⟨_,0,rfl⟩
      ·exact⟨_,Xb,0,rfl⟩
      ·exact⟨_,rfl⟩
      exact⟨_,0,rfl⟩
     case hp=>
      intro k s j t hk hj hjk hanc v p q hst hpo;have hk':=zS hk;have hj':=zS hj;clear hk hj;simp only[mC,pJ,nM,or_false]at hk' hj';have keep:∀l:List FlV,l.length<=nF\/l.length<=1\/j≠14->zb fvE W7.heap.size p v l->zb fvE W7.heap.size q v l:=fun l hl ho=>by
       rcases hj' with⟨rfl,rfl⟩|⟨rfl,rfl⟩|⟨rfl,rfl⟩|⟨rfl,rfl⟩|⟨rfl,rfl⟩|⟨rfl,rfl⟩
       ·exact zb.grew ho hst
       ·exact zb.grew ho hst
       ·exact zb.grew ho hst
       ·exact hst v l (by omega) ho
       ·exact zb.grew ho hst
       exact ho.outb hst (fun g hg=>by have:=(ho.lt g hg).1;have:=HB7.out;omega)
      rcases hk' with⟨rfl,rfl⟩|⟨rfl,rfl⟩|⟨rfl,rfl⟩|⟨rfl,rfl⟩|⟨rfl,rfl⟩|⟨rfl,rfl⟩
      ·exact keep _ (.inl (nZ _)) hpo
      ·exact keep _ (.inl (by rw[HXL.out];exact nR _)) hpo
      ·exact keep _ (.inr (.inl (nR _))) hpo
      ·exact keep _ (.inr (.inr (fun e=>hjk e))) hpo
      ·trivial
      trivial
     case hpre=>
      intro j t k s hj hk hjk p q hst hpr;have hj':=zS hj;clear hk hj;simp only[mC,pJ,nM,or_false]at hj'
      rcases hj' with⟨rfl,rfl⟩|⟨rfl,rfl⟩|⟨rfl,rfl⟩|⟨rfl,rfl⟩|⟨rfl,rfl⟩|⟨rfl,rfl⟩ <;> trivial
     case hpr0=>
      intro k t hk;have hk':=zS hk;clear hk;simp only[mC,pJ,nM,or_false]at hk'
      rcases hk' with⟨rfl,rfl⟩|⟨rfl,rfl⟩|⟨rfl,rfl⟩|⟨rfl,rfl⟩|⟨rfl,rfl⟩|⟨rfl,rfl⟩ <;> trivial
     simp only[Xx,Xy];iterate 4 (refine zk rfl rfl rfl (fun K hK=>?_);go_big_quiet_op;refine hK _ ?_;clear hK)
     refine zP rfl rfl (fun w' hI' hpr hF=>?_) (fun v1 hv=>?_)
     ·have hg:=((HI _).1 hI').1;exact zQ.step (v:= O (Xa ⟨w'.heap.size,0,Xb⟩) 0 0) (w':=w'.alloc (Xk #[] 84)) (by simp only[execOp];go_simp) ⟨HIG _ _ hI' (za _ _),za _ _,⟨_,rfl⟩,(zb.made fvE w').base hg.size⟩
     obtain⟨g0,rfl⟩:=hv;simp only[Xt,sB,sS,sZ];iterate 1 (refine zk rfl rfl rfl (fun K hK=>?_);go_big_quiet_op;refine hK _ ?_;clear hK)
     refine jM (.tmp 90) ⟨b,0,Xb⟩ rfl rfl rfl rfl ?_;simp only[Xt,sB,sS,sZ];iterate 4 (refine zk rfl rfl rfl (fun K hK=>?_);go_big_quiet_op;refine hK _ ?_;clear hK)
     refine zP rfl rfl (fun w' hI' hpr hF=>?_) (fun v1 hv=>?_)
     ·have hg:=((HI _).1 hI').1;have h0:zb fvE W7.heap.size w' (O (Xa ⟨g0,0,Xb⟩) 0 0) []:=hF 4 (by kernel_rfl)
      have hX:=HX.outb hg (fun g hg' e=>by
       obtain⟨cs,hc⟩:=HX.obj hg';have h3:W7.heap[b]? =_:=F7.mm.box;rw[e,h3]at hc
       cases hc)
      obtain⟨v',w2,hrun,ho,hg2,hz⟩:=jr (E:=fvE) (w:=w') 35 h0 (sf.x) xs hX.at hg.size;obtain⟨a',c',rfl⟩:=ho.form;refine zQ.step (v:= O a' xs.length c') (w':=w2) ?_ ⟨HIG _ _ hI' hg2,hg2,⟨⟨a',c',by rw[HXL.out]⟩,fun h=>⟨g0,hz (eN (by rw[HXL.out];exact h))⟩⟩,ho⟩
      simp only[execOp,resolve,invoke,builtin,pure_bind,Xv,Ya,Yb,mP,Xw];exact Eq.trans (congrArg (fun r=>Result.andThen r (fun a w'=>Result.ok (Next.value a) w')) hrun) rfl
     obtain⟨⟨a3,c3,rfl⟩,hz3⟩:=hv;simp only[Xt,sB,sS,sZ];iterate 1 (refine zk rfl rfl rfl (fun K hK=>?_);go_big_quiet_op;refine hK _ ?_;clear hK)
     refine zP rfl rfl (fun w' hI' hpr hF=>?_) (fun v1 hv=>?_)
     ·have hg:=((HI _).1 hI').1;exact zQ.step (v:= O (Xa ⟨w'.heap.size,0,Xb⟩) 1 1) (w':=w'.alloc (Xk #[I6 sz,bs.x] 84)) (by simp only[execOp];go_simp) ⟨HIG _ _ hI' (za _ _),za _ _,⟨_,rfl⟩,by rw[HFX.out];exact(zlu w' ⟨sz,bs.a,bs.n,bs.c⟩).base hg.size⟩
     obtain⟨g5,rfl⟩:=hv;simp only[Xt,sB,sS,sZ];refine zP rfl rfl (fun w' hI' hpr hF=>?_) (fun v1 hv=>?_)
     ·have hg:=((HI _).1 hI').1;have o3:zb fvE W7.heap.size w' (O a3 nF c3) xs:=hF 11 (by kernel_rfl)
      have o5:zb fvE W7.heap.size w' (O (Xa ⟨g5,0,Xb⟩) 1 1) [fx]:=hF 13 (by kernel_rfl)
      have key:∃v' w2,(Builtin.append_ #[35,35] 35 #[O a3 nF c3,O (Xa ⟨g5,0,Xb⟩) 1 1]).run prog w'= .ok v' w2/\zb fvE W7.heap.size w2 v' (xs++ [fx])/\I w2/\∀u m,m.length<=nF\/m.length<=1->zb fvE W7.heap.size w' u m->zb fvE W7.heap.size w2 u m:=by
       by_cases h0:nF=0
       ·have hxs:xs=[]:=eN (by rw[HXL.out];exact h0)
        subst hxs;obtain⟨g,hgv⟩:=hz3 h0;rw[hgv]at o3⊢;obtain⟨v',w2,hrun,ho,hg2,_⟩:=jr (E:=fvE) (w:=w') 35 o3 (O (Xa ⟨g5,0,Xb⟩) 1 1) [fx] o5.at hg.size;exact⟨v',w2,hrun,ho,HIG _ _ hI' hg2,fun u m _ h=>h.grew hg2⟩
       obtain⟨v',w2,hrun,ho,hgr,hk⟩:=qn (E:=fvE) (w:=w') 35 o3 (O (Xa ⟨g5,0,Xb⟩) 1 1) [fx] o5.at (by rw[HXL.out];show(nF+1)*32<=_;omega) hg.size
       refine⟨v',w2,hrun,ho,?_,fun u m hm h=>hk u m (by rw[HXL.out];omega) h⟩
       obtain⟨h1,vl',L',h2,h3⟩:=(HI _).1 hI';obtain⟨gr,cr,hgr3⟩:=o3.formS (by rw[HXL.out];omega)
       obtain⟨cs,hcs⟩:=o3.obj (g:=gr) (by rw[hgr3];rfl)
       have hgr':w'.grownBy w2 (Xa gr):=by rw[hgr3]at hgr;exact hgr
       have hgl:=(o3.lt gr (by rw[hgr3];rfl)).1
       have hpl:=F7.box.box.lt;refine(HI _).2 ⟨⟨hgr'.os.trans h1.os,hgr'.tape.trans h1.tape,hgr'.output.trans h1.output,nT h1.size hgr'.size,fun k hk' hb'=>(hgr'.block k (Yf hk' h1.size) (fun e=>by cases e;omega)).trans (h1.block k hk' hb')⟩,vl',L',h2.fresh hgr' hcs (by omega),h3⟩
      obtain⟨v',w2,hrun,ho,hI2,hk⟩:=key;obtain⟨a',c',rfl⟩:=ho.form;refine zQ.step (v:= .slice a' (xs++ [fx]).length c') (w':=w2) ?_ ⟨hI2,hk,⟨a',c',by rw[lA,HXL.out];rfl⟩,ho⟩
      simp only[execOp,resolve,invoke,builtin,pure_bind,Xv,Ya,Yb,mP,Xw];exact Eq.trans (congrArg (fun r=>Result.andThen r (fun a w'=>Result.ok (Next.value a) w')) hrun) rfl
     obtain⟨a6,c6,rfl⟩:=hv;simp only[Xt,sB,sS,sZ];iterate 2 (refine zk rfl rfl rfl (fun K hK=>?_);go_big_quiet_op;refine hK _ ?_;clear hK)
     refine zP rfl rfl (fun w' hI' hpr hF=>?_) (fun v1 hv=>?_)
     ·obtain⟨h1,vl',L',h2,h3⟩:=(HI _).1 hI';have o6:zb fvE W7.heap.size w' (O a6 (nF+1) c6) (xs++ [fx]):=hF 14 (by kernel_rfl)
      have hfa:qh w' (O a6 (nF+1) c6) (fl++ [⟨sz,bl⟩]):=by
       refine⟨o6.cap,xs++ [fx],o6.at.s0,by rw[lA,lA,HXL.out,HNF.out];rfl,fun i x f hx hf=>?_⟩
       rcases Nat.lt_or_ge i nF with hi' | hi'
       ·rw[Yc (by rw[HXL.out];exact hi')]at hx
        rw[Yc (by rw[HNF.out];exact hi')]at hf
        obtain⟨a1,a2⟩:=HX3.out i x f hx hf;exact⟨a1,(a2.outb h1 (fun g hg' e=>by
         obtain⟨cs,hc⟩:=a2.obj hg';have h3:W7.heap[b]? =_:=F7.mm.box;rw[e,h3]at hc
         cases hc)).at.s0⟩
       rw[aR (by rw[HXL.out];exact hi'),HXL.out]at hx
       rw[aR (by rw[HNF.out];exact hi'),HNF.out]at hf
       have hi0:i - nF=0:=by
        have:=(gS.1 hx).1
        simp at this
        omega
       rw[hi0]at hx hf;cases hx;cases hf;rw[HFX.out];exact⟨rfl,h2.row.at.s0⟩
      refine zQ.call [Xi #[O a6 (nF+1) c6,I6 0],I6 (n:Int)] rfl func38 rfl rfl rfl ?_;refine(zld (O a6 (nF+1) c6) (fl++ [⟨sz,bl⟩]) 0 (n:Int) w' hfa).mono ?_;rintro e w'' ⟨rfl,hg2⟩;exact⟨_,rfl,HIG _ _ hI' hg2,hg2,by rw[HUB.out],trivial⟩
     subst hv;simp only[Xt,sB,sS,sZ];iterate 3 (refine zk rfl rfl rfl (fun K hK=>?_);go_big_quiet_op;refine hK _ ?_;clear hK)
     cases UB with
     | true=>
      refine zcc ?_ ?_
      ·kernel_rfl
      simp only[Xt,sB,sS,sZ];refine zcc ?_ ?_
      ·kernel_rfl
      simp only[Xt,sB,sS,sZ];refine zcc ?_ ?_
      ·kernel_rfl
      simp only[Xt,sB,sS,sZ];iterate 1 (refine zk rfl rfl rfl (fun K hK=>?_);go_big_quiet_op;refine hK _ ?_;clear hK)
      refine jS fun W8 hI8 hF8=>?_
      obtain⟨h1,vl8,L8,h2,h3⟩:=(HI _).1 hI8;have F8:Xp (FC w hi b W8 vl8 L8 ⟨⟨Xa ⟨gf,0,Xb⟩,nf,nf⟩,⟨Xa ⟨gl,0,Xb⟩,ns,ns⟩,⟨Xa ⟨gsb,0,Xb⟩,ns,ns⟩,zy,⟨Xa ⟨gdb,0,Xb⟩,nb,nb⟩,sd6,sf,zy,zy⟩ ⟨Xs nf frF,0,Xs ns 0,Xs ns zx,[],db6,dq6,fl,nb,[],[]⟩ pf sz bs bl):=h2;have LL8:Xp (ZP L L8):=h3;have X8:Xp (zt W8 w.heap.size 41 qy):=X7.outb h1 HXB.out;clear hI8 hF8 hI0 hx8 hp0 hp1 hne h1 h2 h3 hz3;go_wp2
      go_meet
      exact⟨Xd,vl8,L8,rfl,rfl,F8,LL8,X8,fun h=>(by cases h)⟩
     | false=>
      iterate 1 (refine zk rfl rfl rfl (fun K hK=>?_);go_big_quiet_op;refine hK _ ?_;clear hK)
      refine zP rfl rfl (fun w' hI' hpr hF=>?_) (fun v1 hv=>?_)
      ·obtain⟨h1,vl',L',h2,h3⟩:=(HI _).1 hI';refine zQ.call [Xj (Xa ⟨b,0,Xb⟩),I6 3] rfl func36 rfl rfl rfl ?_;refine(qA 3 h2.mm).mono ?_;rintro e w'' ⟨vl2,L2,y,rfl,mk2,gr2,-,-,-,-,ll2⟩;have ho2:Out b (b+1) w' w'':=Out.grown gr2 (fun g e=>by cases e;omega)
       exact⟨_,rfl,(HI _).2 ⟨h1.trans ho2,vl2,L2,h2.pick gr2 mk2,h3.trans ll2⟩,ho2,⟨y,rfl⟩,trivial⟩
      obtain⟨x,rfl⟩:=hv;simp only[Xt,sB,sS,sZ];iterate 2 (refine zk rfl rfl rfl (fun K hK=>?_);go_big_quiet_op;refine hK _ ?_;clear hK)
      refine jS fun W8 hI8 hF8=>?_
      obtain⟨h1,vl8,L8,h2,h3⟩:=(HI _).1 hI8;have F8:Xp (FC w hi b W8 vl8 L8 ⟨⟨Xa ⟨gf,0,Xb⟩,nf,nf⟩,⟨Xa ⟨gl,0,Xb⟩,ns,ns⟩,⟨Xa ⟨gsb,0,Xb⟩,ns,ns⟩,zy,⟨Xa ⟨gdb,0,Xb⟩,nb,nb⟩,sd6,sf,zy,zy⟩ ⟨Xs nf frF,0,Xs ns 0,Xs ns zx,[],db6,dq6,fl,nb,[],[]⟩ pf sz bs bl):=h2;have LL8:Xp (ZP L L8):=h3;have X8:Xp (zt W8 w.heap.size 41 qy):=X7.outb h1 HXB.out;have HUF:Xp (decide (0<x)=Xc->n<nb/\zV (fl++ [⟨sz,bl⟩]) (n:Int)=Xd):=show _->_ from fun _=>⟨hn,HUB⟩
      clear hI8 hF8 hI0 hx8 hp0 hp1 hne h1 h2 h3 hz3;go_wp2
      go_meet
      exact⟨decide (0<x),vl8,L8,rfl,rfl,F8,LL8,X8,HUF⟩
    have hnz:=kD hn
    have hnd:decide ((n:Int)< (nb:Int))=Xd:=by simpa using hnz
    clear hn;go_quiet (fail);go_wp2
    go_meet
    exact⟨Xd,vl7,L7,rfl,rfl,F7.grew (show Below _ _ _ from bD (bR _ _) _),LL7,X7.grew (show Below _ _ _ from bD (bR _ _) _),fun h=>(by cases h)⟩
   obtain⟨tk,vl8,L8,rfl,rfl,F8,LL8,X8,HTK⟩:=hcut
   go_upto_if 109 with fail
   go_cut [13,15,16,78]from 78 to 160 (fun s13 s15 s16 s78 wx=>∃(bx:Int) (vl':Sli) (L':List Int) (sd':Sli) (db':List (List Int)) (dq':List (Int × List Int)),s13=I6 bx/\s78=I6 k3/\Xp (FC w hi b wx vl' L' ⟨⟨Xa ⟨gf,0,Xb⟩,nf,nf⟩,⟨Xa ⟨gl,0,Xb⟩,ns,ns⟩,⟨Xa ⟨gsb,0,Xb⟩,ns,ns⟩,zy,⟨Xa ⟨gdb,0,Xb⟩,nb,nb⟩,sd',sf,zy,zy⟩ ⟨Xs nf frF,0,Xs ns 0,Xs ns zx,[],db',dq',fl,nb,[],[]⟩ pf sz bs bl)/\Xp (ZP L L')/\Xp (zt wx w.heap.size 41 qy)/\Xp (zex fl nb db' dq' (bl++ [bx])/\db'.length=nb))
   case first=>
    cases tk with
    | false=>
     go_wp2
     go_meet
     exact⟨-1,vl8,L8,sd6,db6,dq6,rfl,rfl,F8,LL8,X8,(show _/\_ from⟨FI.1.none,FI.2.2⟩)⟩
    | true=>
     obtain⟨hn,hu⟩:=HTK.out rfl;have HUF:Xp (zV fl (n:Int)=Xd/\(n:Int)∉bl):=dD<|by
      have h2:¬(n:Int)∈Zo (fl++ [⟨sz,bl⟩]):=fun h=>by rw[(ZX _ _).2 h]at hu;cases hu
      have h3:Zo (fl++ [⟨sz,bl⟩])=Zo fl++bl:=by simp[Zo]
      rw[h3,Xz]at h2;refine⟨?_,fun h=>h2 (.inr h)⟩
      cases e:zV fl (n:Int)with
      | false=>rfl
      | true=>exact absurd (.inl ((ZX _ _).1 e)) h2
     have hnz:=kC hn
     clear hu;have hpg:=zbD F8.mm;go_wp2_with fail;refine hpg.mono ?_;clear hpg;rintro e W9 ⟨vl9,L9,q9,rfl,ql9,mk9,gr9,ll9⟩;have F9:Xp (FC w hi b W9 vl9 L9 ⟨⟨Xa ⟨gf,0,Xb⟩,nf,nf⟩,⟨Xa ⟨gl,0,Xb⟩,ns,ns⟩,⟨Xa ⟨gsb,0,Xb⟩,ns,ns⟩,zy,⟨Xa ⟨gdb,0,Xb⟩,nb,nb⟩,sd6,sf,zy,zy⟩ ⟨Xs nf frF,0,Xs ns 0,Xs ns zx,[],db6,dq6,fl,nb,[],[]⟩ pf sz bs bl):=F8.pick gr9 mk9;have X9:Xp (zt W9 w.heap.size 41 qy):=X8.kind gr9 F8.mm.box (by decide)
     have LL9:=dD (LL8.trans ll9);clear mk9 gr9 ll9;obtain⟨o0,o1,o2,o3,o4,o5,o6,o7,rfl⟩:=zdZ q9 ql9;clear ql9;simp only[pgc,mP,Xw];go_upto_region 20 with fail;obtain⟨pp,HPP⟩:=kA W9.heap.size;obtain⟨W10,hW10⟩:=kB (W9.alloc (Xk #[U8 o0,U8 o1,U8 o2,U8 o3,U8 o4,U8 o5,U8 o6,U8 o7] 44));have g10:=gP hW10
     have P10:Xp (zt W10 pp 44 (pgc [o0,o1,o2,o3,o4,o5,o6,o7])):=dD<|by rw[<-hW10];exact zt.top _ (pgc [o0,o1,o2,o3,o4,o5,o6,o7]) _ HPP.symm
     have F10:=dD (F9.grew g10);have X10:=dD (X9.grew g10);have HHP:Xp (hi<=pp):=show _<=_ by rw[<-HPP.out];exact F9.mm.rows.hw
     rw[hW10,HPP.out];clear hW10 g10;go_wp2
     go_loopg [113] 8 (fun gg s113 wr=>∃(i:Nat) (qq:List Int),i<=8/\8 - i<=gg/\s113=I6 i/\Xp (FC w hi b wr vl9 L9 ⟨⟨Xa ⟨gf,0,Xb⟩,nf,nf⟩,⟨Xa ⟨gl,0,Xb⟩,ns,ns⟩,⟨Xa ⟨gsb,0,Xb⟩,ns,ns⟩,zy,⟨Xa ⟨gdb,0,Xb⟩,nb,nb⟩,sd6,sf,zy,zy⟩ ⟨Xs nf frF,0,Xs ns 0,Xs ns zx,[],db6,dq6,fl,nb,[],[]⟩ pf sz bs bl)/\Xp (zt wr pp 44 (pgc qq))/\Xp (qq.length=8)/\Xp (zt wr w.heap.size 41 qy))
     case atStart=>exact⟨0,[o0,o1,o2,o3,o4,o5,o6,o7],nZ _,by omega,rfl,F10,P10,rfl,X10⟩
     obtain⟨i,qq,hi8,hg4,rfl,FW,PW,QW,XW⟩:=hrel
     by_cases hlt4:i<8
     ·have hltz4:(i:Int)<8:=by omega
      obtain⟨z,hz⟩:∃z,qq[i]? =Xa z:=⟨_,gE (by rw[QW.out];exact hlt4)⟩
      have z0:=PW.box.c i (ze0 hz);have zf:=PW.box.f;have y0:=FW.box.box.c 0 rfl;clear hz
      by_cases hc:sz<=8*(k3:Int)+(i:Int)
      ·have hcd:decide (sz<=8*(k3:Int)+(i:Int))=Xc:=by simpa using hc
       have HG:Xp (wr.grownBy (wr.setCell ⟨pp,i,Xb⟩ (U8 0)) (Xa pp)):=jc _ _ _ _;have P11:Xp (zt (wr.setCell ⟨pp,i,Xb⟩ (U8 0)) pp 44 (pgc (qq.set i 0))):=show zt _ _ _ _ by rw[zb3];exact PW.set i _
       have F11:Xp (FC w hi b (wr.setCell ⟨pp,i,Xb⟩ (U8 0)) vl9 L9 ⟨⟨Xa ⟨gf,0,Xb⟩,nf,nf⟩,⟨Xa ⟨gl,0,Xb⟩,ns,ns⟩,⟨Xa ⟨gsb,0,Xb⟩,ns,ns⟩,zy,⟨Xa ⟨gdb,0,Xb⟩,nb,nb⟩,sd6,sf,zy,zy⟩ ⟨Xs nf frF,0,Xs ns 0,Xs ns zx,[],db6,dq6,fl,nb,[],[]⟩ pf sz bs bl):=FW.kind HG PW (by decide) (by decide) (FW.mm.page PW HHP HG) rfl rfl
       have X11:Xp (zt (wr.setCell ⟨pp,i,Xb⟩ (U8 0)) w.heap.size 41 qy):=XW.kind HG PW (by decide)
       go_wp2
       go_roundg (8 -(i+1))
       case measure=>omega
       exact⟨i+1,qq.set i 0,by omega,by omega,by go_num,F11,P11,(show(qq.set i 0).length=8 by rw[Yd];exact QW),X11⟩
      have hcd:decide (sz<=8*(k3:Int)+(i:Int))=Xd:=by simpa using hc
      go_wp2
      go_roundg (8 -(i+1))
      case measure=>omega
      exact⟨i+1,qq,by omega,by omega,by go_num,FW,PW,QW,XW⟩
     have hltz4:¬(i:Int)<8:=by omega
     obtain⟨p0,p1,p2,p3,p4,p5,p6,p7,rfl⟩:=zdZ qq QW.out;go_upto_region 26 with fail;obtain⟨I,HI⟩:∃I:Xo->Prop,Xp (∀u,I u↔zc wr u):=⟨fun u=>zc wr u,fun _=>Iff.rfl⟩
     have hI0:I wr.drew:=(HI _).2 (gW _)
     have HP:Xp (∀u,I u->zt u pp 44 (pgc [p0,p1,p2,p3,p4,p5,p6,p7])):=dD<|fun u hu=>PW.grew ((HI _).1 hu)
     have hx6:∀y:zj I,y.world.cell? ⟨b,6,Xb⟩=Xa (O (Xa ⟨gdb,0,Xb⟩) nb nb):=fun y=>(FW.mm.box.box.grew ((HI _).1 y.holds)).c 6 rfl
     have hf0:∀y:zj I,y.world.cell? ⟨pp,0,Xb⟩=Xa (U8 p0):=fun y=>(HP _ y.holds).box.c 0 rfl
     have hf1:∀y:zj I,y.world.cell? ⟨pp,1,Xb⟩=Xa (U8 p1):=fun y=>(HP _ y.holds).box.c 1 rfl
     have hf2:∀y:zj I,y.world.cell? ⟨pp,2,Xb⟩=Xa (U8 p2):=fun y=>(HP _ y.holds).box.c 2 rfl
     have hf3:∀y:zj I,y.world.cell? ⟨pp,3,Xb⟩=Xa (U8 p3):=fun y=>(HP _ y.holds).box.c 3 rfl
     have hf4:∀y:zj I,y.world.cell? ⟨pp,4,Xb⟩=Xa (U8 p4):=fun y=>(HP _ y.holds).box.c 4 rfl
     have hf5:∀y:zj I,y.world.cell? ⟨pp,5,Xb⟩=Xa (U8 p5):=fun y=>(HP _ y.holds).box.c 5 rfl
     have hf6:∀y:zj I,y.world.cell? ⟨pp,6,Xb⟩=Xa (U8 p6):=fun y=>(HP _ y.holds).box.c 6 rfl
     have hf7:∀y:zj I,y.world.cell? ⟨pp,7,Xb⟩=Xa (U8 p7):=fun y=>(HP _ y.holds).box.c 7 rfl
     have hne:Nonempty (zj I):=⟨⟨_,hI0⟩⟩;refine qP (I:=I) 9 [] hI0 zW (by kernel_rfl) rfl rfl (by decide) (fun x hx=>by cases hx) (fun k s j t hk=>by cases hk) (fun j t k s hj=>by cases hj) (fun k t hk=>by cases hk) ?_
     simp only[Xx,Xy];iterate 1 (refine zk rfl rfl rfl (fun K hK=>?_);go_big_quiet_op;refine hK _ ?_;clear hK)
     refine jM (.tmp 126) ⟨b,0,Xb⟩ rfl rfl rfl rfl ?_;simp only[Xt,sB,sS,sZ];iterate 7 (refine zk rfl rfl rfl (fun K hK=>?_);go_big_quiet_op;refine hK _ ?_;clear hK)
     refine jS fun W11 hI11 _=>?_
     have g11:=(HI _).1 hI11;refine jG rfl (.tmp 134) (.tmp 133) rfl w.heap.size (O (Xa ⟨gdb,0,Xb⟩) nb nb) db6 (FW.grew g11).mm.rows.db gdb n rfl (by rw[FI.2.2];exact hn) [p0,p1,p2,p3,p4,p5,p6,p7] rfl _ rfl (by first | rfl | simp) rfl ?_
     intro W12 op12 gr12 sz12;obtain⟨-,cs12,hc12⟩:=ZZ (FW.grew g11).mm.rows.db (g:=gdb) rfl;have F12:Xp (FC w hi b W12 vl9 L9 ⟨⟨Xa ⟨gf,0,Xb⟩,nf,nf⟩,⟨Xa ⟨gl,0,Xb⟩,ns,ns⟩,⟨Xa ⟨gsb,0,Xb⟩,ns,ns⟩,zy,⟨Xa ⟨gdb,0,Xb⟩,nb,nb⟩,sd6,sf,zy,zy⟩ ⟨Xs nf frF,0,Xs ns 0,Xs ns zx,[],(db6.set n [p0,p1,p2,p3,p4,p5,p6,p7]),dq6,fl,nb,[],[]⟩ pf sz bs bl):=(FW.grew g11).kind gr12 hc12 (by decide) (by decide) ((FW.grew g11).mm.setDb rfl gr12 sz12 (zbY nf) op12).1 rfl rfl
     have X12:=dD ((XW.grew g11).kind gr12 hc12 (by decide))
     have P12:Xp (zt W12 pp 44 (pgc [p0,p1,p2,p3,p4,p5,p6,p7])):=(PW.grew g11).beside gr12 (fun g e=>by cases e;have:=(FW.mm.rows.dbh gdb rfl);have:=HHP.out;omega)
     clear hI11 g11 op12 gr12 sz12 cs12 hc12 hI0 hx6 hne;clear hf0 hf1 hf2 hf3 hf4 hf5 hf6 hf7;have hpk12:=qA 2 F12.mm;go_wp2_with fail;refine hpk12.mono ?_;clear hpk12;rintro e W13 ⟨vl13,L13,y,rfl,mk13,gr13,-,-,-,-,ll13⟩;have F13:Xp (FC w hi b W13 vl13 L13 ⟨⟨Xa ⟨gf,0,Xb⟩,nf,nf⟩,⟨Xa ⟨gl,0,Xb⟩,ns,ns⟩,⟨Xa ⟨gsb,0,Xb⟩,ns,ns⟩,zy,⟨Xa ⟨gdb,0,Xb⟩,nb,nb⟩,sd6,sf,zy,zy⟩ ⟨Xs nf frF,0,Xs ns 0,Xs ns zx,[],(db6.set n [p0,p1,p2,p3,p4,p5,p6,p7]),dq6,fl,nb,[],[]⟩ pf sz bs bl):=F12.pick gr13 mk13;have X13:Xp (zt W13 w.heap.size 41 qy):=X12.kind gr13 F12.mm.box (by decide)
     have P13:Xp (zt W13 pp 44 (pgc [p0,p1,p2,p3,p4,p5,p6,p7])):=P12.kind gr13 F12.mm.box (by decide)
     have LL13:=dD (LL9.trans ll13);clear mk13 gr13 ll13;have HDL:Xp ((db6.set n [p0,p1,p2,p3,p4,p5,p6,p7]).length=nb):=show _=_ by rw[Yd];exact FI.2.2
     by_cases hy:y=1
     ·have hye:(y == 1)=Xc:=by simp[hy]
      clear hy;go_upto_region 28 with fail;have HDQ:Xp (zp w.heap.size W13 (sd6.x) dq6):=F13.mm.rows.dq;have HQL:Xp (dq6.length<=1000):=show _<=_ by
       have h1:=FI.1.ql;have h2:=zev ((qi _ _).1 FI.1.st).2.1;have h3:=((qi _ _).1 FI.1.st).1.1;have h4:=FI.2.1;omega
      obtain⟨I,HI⟩:∃I:Xo->Prop,Xp (∀u,I u↔zt u b 95 [vl13.x,O (Xa ⟨gf,0,Xb⟩) nf nf,I6 0,O (Xa ⟨gl,0,Xb⟩) ns ns,O (Xa ⟨gsb,0,Xb⟩) ns ns,eS,O (Xa ⟨gdb,0,Xb⟩) nb nb,sd6.x,sf.x,I6 (nb:Int),eS,eS,eS]/\zt u pp 44 (pgc [p0,p1,p2,p3,p4,p5,p6,p7])):=⟨fun u=>zt u b 95 [vl13.x,O (Xa ⟨gf,0,Xb⟩) nf nf,I6 0,O (Xa ⟨gl,0,Xb⟩) ns ns,O (Xa ⟨gsb,0,Xb⟩) ns ns,eS,O (Xa ⟨gdb,0,Xb⟩) nb nb,sd6.x,sf.x,I6 (nb:Int),eS,eS,eS]/\zt u pp 44 (pgc [p0,p1,p2,p3,p4,p5,p6,p7]),fun _=>Iff.rfl⟩
      have hI0:I W13.drew:=(HI _).2 ⟨F13.mm.box.grew (gW _),P13.grew (gW _)⟩
      have HP:Xp (∀u,I u->zt u pp 44 (pgc [p0,p1,p2,p3,p4,p5,p6,p7])):=dD<|fun u hu=>((HI _).1 hu).2
      have hx7:∀y:zj I,y.world.cell? ⟨b,7,Xb⟩=Xa (sd6.x):=fun y=>((HI _).1 y.holds).1.box.c 7 rfl
      have hf0:∀y:zj I,y.world.cell? ⟨pp,0,Xb⟩=Xa (U8 p0):=fun y=>(HP _ y.holds).box.c 0 rfl
      have hf1:∀y:zj I,y.world.cell? ⟨pp,1,Xb⟩=Xa (U8 p1):=fun y=>(HP _ y.holds).box.c 1 rfl
      have hf2:∀y:zj I,y.world.cell? ⟨pp,2,Xb⟩=Xa (U8 p2):=fun y=>(HP _ y.holds).box.c 2 rfl
      have hf3:∀y:zj I,y.world.cell? ⟨pp,3,Xb⟩=Xa (U8 p3):=fun y=>(HP _ y.holds).box.c 3 rfl
      have hf4:∀y:zj I,y.world.cell? ⟨pp,4,Xb⟩=Xa (U8 p4):=fun y=>(HP _ y.holds).box.c 4 rfl
      have hf5:∀y:zj I,y.world.cell? ⟨pp,5,Xb⟩=Xa (U8 p5):=fun y=>(HP _ y.holds).box.c 5 rfl
      have hf6:∀y:zj I,y.world.cell? ⟨pp,6,Xb⟩=Xa (U8 p6):=fun y=>(HP _ y.holds).box.c 6 rfl
      have hf7:∀y:zj I,y.world.cell? ⟨pp,7,Xb⟩=Xa (U8 p7):=fun y=>(HP _ y.holds).box.c 7 rfl
      have hne:Nonempty (zj I):=⟨⟨_,hI0⟩⟩;refine zG (I:=I) 16 [(10,fun v=>∃g,v= O (Xa ⟨g,0,Xb⟩) 1 1),(11,fun v=>∃a n c,v= O a n c)] (fun u=>zc W13 u) hI0 (gW _) zW (by kernel_rfl) rfl rfl (by decide) ?hS (by kernel_rfl) ?_
      case hS=>
       intro x hx;simp only[mC,nM,or_false]at hx
       rcases hx with rfl|rfl
       ·exact⟨_,0,rfl⟩
       exact⟨_,Xb,0,0,rfl⟩
      simp only[Xx,Xy];iterate 2 (refine zg rfl rfl rfl (fun K hK=>?_);go_big_quiet_op;refine hK _ ?_;clear hK)
      refine zI (.tmp 139) ⟨b,0,Xb⟩ rfl rfl rfl rfl ?_;simp only[Xt,sB,sS,sZ];iterate 7 (refine zg rfl rfl rfl (fun K hK=>?_);go_big_quiet_op;refine hK _ ?_;clear hK)
      refine zH rfl rfl (fun v u=>zc W13 u/\∃g,v= O (Xa ⟨g,0,Xb⟩) 1 1/\jz u ⟨g,0,Xb⟩ (ptc ((n:Int),[p0,p1,p2,p3,p4,p5,p6,p7]))) (fun w' hI' hF'=>?_) (fun v1 hv=>?_)
      ·exact zQ.step (v:= O (Xa ⟨w'.heap.size,0,Xb⟩) 1 1) (w':=w'.alloc (Xk #[I6 (n:Int),U8 p0,U8 p1,U8 p2,U8 p3,U8 p4,U8 p5,U8 p6,U8 p7] 100)) (by simp only[execOp];go_simp) ⟨(HI _).2 ⟨((HI _).1 hI').1.grew (za _ _),((HI _).1 hI').2.grew (za _ _)⟩,⟨_,rfl⟩,hF'.trans (za _ _),_,rfl,jz.top w' (ptc ((n:Int),[p0,p1,p2,p3,p4,p5,p6,p7])) _ rfl⟩
      obtain⟨g5,rfl⟩:=hv;simp only[Xt,sB,sS,sZ];refine zH rfl rfl (fun v u=>∃u0,zc W13 u0/\u0.grownBy u (sd6.x).ownBlock/\zp w.heap.size u v (dq6++ [((n:Int),[p0,p1,p2,p3,p4,p5,p6,p7])])) (fun w' hI' hF'=>?_) (fun v1 hv=>?_)
      ·obtain⟨hg',g,hge,hcl⟩:=hF';have hge':g5=g:=by
        simp only[vJ,Option.some.injEq,Addr.mk.injEq]at hge;exact hge.1.1
       subst hge';obtain⟨v',w2,hrun,ho,hgr⟩:=zcY (w:=w') 32 (HDQ.grew hg') g5 ((n:Int),[p0,p1,p2,p3,p4,p5,p6,p7]) rfl hcl HQL (nT (bS F13.mm.gr) (bS hg'));obtain⟨a',n',c',rfl⟩:=ho.slice;have hbx:I w2:=by
        cases hob:(sd6.x).ownBlock with
        | none=>
         rw[hob]at hgr;exact(HI _).2 ⟨((HI _).1 hI').1.grew (qt hgr),((HI _).1 hI').2.grew (qt hgr)⟩
        | some gq=>
         rw[hob]at hgr;obtain⟨-,cs,hc⟩:=J3 (HDQ.grew hg') hob;exact(HI _).2 ⟨((HI _).1 hI').1.kind hgr hc (by decide),((HI _).1 hI').2.kind hgr hc (by decide)⟩
       refine zQ.step (v:= O a' n' c') (w':=w2) ?_ ⟨hbx,⟨a',n',c',rfl⟩,w',hg',hgr,ho⟩;simp only[execOp,resolve,invoke,builtin,pure_bind,Xv,Ya,Yb,mP,Xw];exact Eq.trans (congrArg (fun r=>Result.andThen r (fun a w'=>Result.ok (Next.value a) w')) hrun) rfl
      obtain⟨da,dn,dc,rfl⟩:=hv;simp only[Xt,sB,sS,sZ];refine zI (.tmp 138) ⟨b,0,Xb⟩ rfl rfl rfl rfl ?_;simp only[Xt,sB,sS,sZ];iterate 3 (refine zg rfl rfl rfl (fun K hK=>?_);go_big_quiet_op;refine hK _ ?_;clear hK)
      refine qj fun W14 hI14 hF14=>?_
      obtain⟨u0,g0,gr14,op14⟩:=hF14;have B14:Xp (zt W14 b 95 [vl13.x,O (Xa ⟨gf,0,Xb⟩) nf nf,I6 0,O (Xa ⟨gl,0,Xb⟩) ns ns,O (Xa ⟨gsb,0,Xb⟩) ns ns,eS,O (Xa ⟨gdb,0,Xb⟩) nb nb,sd6.x,sf.x,I6 (nb:Int),eS,eS,eS]):=((HI _).1 hI14).1;have R14:Xp (MkR w.heap.size hi W14 ⟨⟨Xa ⟨gf,0,Xb⟩,nf,nf⟩,⟨Xa ⟨gl,0,Xb⟩,ns,ns⟩,⟨Xa ⟨gsb,0,Xb⟩,ns,ns⟩,zy,⟨Xa ⟨gdb,0,Xb⟩,nb,nb⟩,⟨da,dn,dc⟩,sf,zy,zy⟩ ⟨Xs nf frF,0,Xs ns 0,Xs ns zx,[],db6.set n [p0,p1,p2,p3,p4,p5,p6,p7],dq6++ [((n:Int),[p0,p1,p2,p3,p4,p5,p6,p7])],fl,nb,[],[]⟩ zy []):=(F13.mm.rows.grew g0).addDq gr14 ⟨da,dn,dc⟩ (zbY nf) op14;have hk14:zc w W14/\FlB w.heap.size hi pf W14 ⟨⟨Xa ⟨gf,0,Xb⟩,nf,nf⟩,⟨Xa ⟨gl,0,Xb⟩,ns,ns⟩,⟨Xa ⟨gsb,0,Xb⟩,ns,ns⟩,zy,⟨Xa ⟨gdb,0,Xb⟩,nb,nb⟩,sd6,sf,zy,zy⟩ ⟨Xs nf frF,0,Xs ns 0,Xs ns zx,[],db6.set n [p0,p1,p2,p3,p4,p5,p6,p7],dq6,fl,nb,[],[]⟩/\zt W14 pf 84 [I6 sz,bs.x]/\zb blE (pf+1) W14 (bs.x) bl/\zt W14 w.heap.size 41 qy:=by
       cases hob:(sd6.x).ownBlock with
       | none=>
        rw[hob]at gr14;have k:=qt gr14;exact⟨(F13.mm.gr.trans g0).trans k,(F13.fb.grew g0).grew k,(F13.box.grew g0).grew k,(F13.row.grew g0).grew k,(X13.grew g0).grew k⟩
       | some gq=>
        rw[hob]at gr14;obtain⟨hgq,cs,hc⟩:=J3 (HDQ.grew g0) hob;exact⟨ze (F13.mm.gr.trans g0) gr14 hgq,(F13.fb.grew g0).kind gr14 hc (.inl (by decide)) (.inl (by decide)),(F13.box.grew g0).kind gr14 hc (by decide),(F13.row.grew g0).kind gr14 hc (by decide),(X13.grew g0).kind gr14 hc (by decide)⟩
      obtain⟨e1,e2,e3,e4,e5⟩:=hk14;have GW14:Xp (zc w W14):=e1;have FB14:Xp (FlB w.heap.size hi pf W14 ⟨⟨Xa ⟨gf,0,Xb⟩,nf,nf⟩,⟨Xa ⟨gl,0,Xb⟩,ns,ns⟩,⟨Xa ⟨gsb,0,Xb⟩,ns,ns⟩,zy,⟨Xa ⟨gdb,0,Xb⟩,nb,nb⟩,sd6,sf,zy,zy⟩ ⟨Xs nf frF,0,Xs ns 0,Xs ns zx,[],db6.set n [p0,p1,p2,p3,p4,p5,p6,p7],dq6,fl,nb,[],[]⟩):=e2;have PF14:Xp (zt W14 pf 84 [I6 sz,bs.x]):=e3;have RW14:Xp (zb blE (pf+1) W14 (bs.x) bl):=e4;have X14:Xp (zt W14 w.heap.size 41 qy):=e5;clear e1 e2 e3 e4 e5 u0 g0 gr14 op14 hI14 hI0 hx7 hne;clear hf0 hf1 hf2 hf3 hf4 hf5 hf6 hf7;obtain⟨W15,hW15⟩:=kB (W14.setCell ⟨b,7,Xb⟩ (O da dn dc));have hg15:W14.grownBy W15 (Xa b):=by rw[<-hW15];exact jc _ _ _ _
      have M15:Mk w hi W15 b vl13 L13 ⟨⟨Xa ⟨gf,0,Xb⟩,nf,nf⟩,⟨Xa ⟨gl,0,Xb⟩,ns,ns⟩,⟨Xa ⟨gsb,0,Xb⟩,ns,ns⟩,zy,⟨Xa ⟨gdb,0,Xb⟩,nb,nb⟩,⟨da,dn,dc⟩,sf,zy,zy⟩ ⟨Xs nf frF,0,Xs ns 0,Xs ns zx,[],db6.set n [p0,p1,p2,p3,p4,p5,p6,p7],dq6++ [((n:Int),[p0,p1,p2,p3,p4,p5,p6,p7])],fl,nb,[],[]⟩ zy []:=⟨ze GW14 hg15 F13.mm.hb,F13.mm.hb,by rw[<-hW15];exact B14.set 7 _,F13.mm.lr,F13.mm.lc,F13.mm.lb,R14.var hg15 B14 hg15.size (.inl rfl)⟩
      have F15:Xp (FC w hi b W15 vl13 L13 ⟨⟨Xa ⟨gf,0,Xb⟩,nf,nf⟩,⟨Xa ⟨gl,0,Xb⟩,ns,ns⟩,⟨Xa ⟨gsb,0,Xb⟩,ns,ns⟩,zy,⟨Xa ⟨gdb,0,Xb⟩,nb,nb⟩,⟨da,dn,dc⟩,sf,zy,zy⟩ ⟨Xs nf frF,0,Xs ns 0,Xs ns zx,[],(db6.set n [p0,p1,p2,p3,p4,p5,p6,p7]),(dq6++ [((n:Int),[p0,p1,p2,p3,p4,p5,p6,p7])]),fl,nb,[],[]⟩ pf sz bs bl):=dD<|⟨M15,F13.hp,(FB14.kind hg15 B14 (.inl (by decide)) (.inl (by decide))).as rfl rfl,F13.fn,PF14.kind hg15 B14 (by decide),RW14.kind hg15 B14 (by decide)⟩
      have X15:Xp (zt W15 w.heap.size 41 qy):=X14.kind hg15 B14 (by decide)
      have HW15:Xp (_=W15):=hW15;have x7:=B14.box.c 7 rfl;have xf:=B14.box.f;clear hW15 hg15;go_wp2;rw[HW15.out]
      go_meet
      exact⟨(n:Int),vl13,L13,⟨da,dn,dc⟩,_,_,rfl,rfl,F15,LL13,X15,(show _/\_ from⟨FI.1.block (more:=true) (by rw[FI.2.2];exact hn) HUF.1 HUF.2,HDL⟩)⟩
     have hye:(y == 1)=Xd:=by simp[hy]
     clear hy;go_wp2
     go_meet
     exact⟨(n:Int),vl13,L13,sd6,_,_,rfl,rfl,F13,LL13,X13,(show _/\_ from⟨FI.1.block (more:=false) (by rw[FI.2.2];exact hn) HUF.1 HUF.2,HDL⟩)⟩
   obtain⟨bx,vl9,L9,sd9,db9,dq9,rfl,rfl,F9,LL9,X9,FI9⟩:=hcut;have y1:=F9.box.box.c 1 rfl;have HBL:Xp (bl.length=k3):=dD<|FI.2.1
   have HSW:Xp (pf+1<=wc.heap.size):=F9.box.box.lt
   go_wp2_with (at_builtin;refine zw (E:=blE) rfl (.tmp 155) (.tmp 157) rfl (pf+1) _ bl rfl (F9.row.grew (za _ _)) _ [bx] rfl (jK blE wc bx _ _ rfl (by decide)) ?qb ?qc ?_)
   case qb=>
    rw[HBL.out]
    show(k3+1)*8<=_
    omega
   case qc=>exact nT HSW (bS (za _ _))
   intro v4 W14 ow4 gr4;obtain⟨a4,c4,rfl⟩:=ow4.form;obtain⟨N4,hN4⟩:=kB ((bl++ [bx]).length);rw[hN4]at ow4⊢;clear hN4;obtain⟨WX,hWX⟩:=kB (wc.alloc (Xk #[I6 bx] 3));have gX:=gP hWX
   have gr4':WX.grownBy W14 (bs.x).ownBlock:=by rw[<-hWX];exact gr4
   clear gr4 hWX;obtain⟨b14,k14,f14⟩:=(F9.grew gX).addB gr4' ⟨a4,N4,c4⟩ ow4;have F14:Xp (FC w hi b (W14.setCell ⟨pf,1,Xb⟩ (O a4 N4 c4)) vl9 L9 ⟨⟨Xa ⟨gf,0,Xb⟩,nf,nf⟩,⟨Xa ⟨gl,0,Xb⟩,ns,ns⟩,⟨Xa ⟨gsb,0,Xb⟩,ns,ns⟩,zy,⟨Xa ⟨gdb,0,Xb⟩,nb,nb⟩,sd9,sf,zy,zy⟩ ⟨Xs nf frF,0,Xs ns 0,Xs ns zx,[],db9,dq9,fl,nb,[],[]⟩ pf sz ⟨a4,N4,c4⟩ (bl++ [bx])):=f14;have X14:Xp (zt (W14.setCell ⟨pf,1,Xb⟩ (O a4 N4 c4)) w.heap.size 41 qy):=k14 _ _ _ (by decide) (by decide) (X9.grew gX)
   have B14:Xp (zt W14 pf 84 [I6 sz,bs.x]):=b14;clear b14 k14 f14 gr4' ow4 gX y1;have y1:=B14.box.c 1 rfl;have yf:=B14.box.f;go_wp2
   go_roundg (N3 -(k3+1))
   case measure=>omega
   exact⟨k3+1,vl9,L9,sd9,⟨a4,N4,c4⟩,db9,dq9,bl++ [bx],by omega,by omega,by go_num,F14,LL9,X14,(show _/\_ from⟨FI9.1,by rw[lA,HBL.out];rfl,FI9.2⟩)⟩
  have hltz3:=kD hlt3
  obtain rfl:k3=N3:=by omega
  go_upto_region 31 with fail;obtain⟨xs,q1,q2,q3⟩:=FX.fb;have HX:Xp (zb fvE w.heap.size wr (sf.x) xs):=q1;have HXL:Xp (xs.length=fl.length):=show _=_ from q2
  have HX3:Xp (∀(i:Nat) x f,xs[i]? =Xa x->fl[i]? =Xa f->x.size=f.size/\zb blE hi wr x.v f.bl):=dD<|fun i x f hx hf=>(q3 i x f hx hf).1
  clear q1 q2 q3;obtain⟨fx,HFX⟩:∃fx:FlV,Xp (fx=⟨sz,bs.a,bs.n,bs.c⟩):=⟨_,rfl⟩;obtain⟨I,HI⟩:∃I:Xo->Prop,Xp (∀u,I u↔zt u b 95 [vl6.x,O (Xa ⟨gf,0,Xb⟩) nf nf,I6 0,O (Xa ⟨gl,0,Xb⟩) ns ns,O (Xa ⟨gsb,0,Xb⟩) ns ns,eS,O (Xa ⟨gdb,0,Xb⟩) nb nb,sd6.x,sf.x,I6 (nb:Int),eS,eS,eS]/\zt u pf 84 [I6 sz,bs.x]):=⟨fun u=>zt u b 95 [vl6.x,O (Xa ⟨gf,0,Xb⟩) nf nf,I6 0,O (Xa ⟨gl,0,Xb⟩) ns ns,O (Xa ⟨gsb,0,Xb⟩) ns ns,eS,O (Xa ⟨gdb,0,Xb⟩) nb nb,sd6.x,sf.x,I6 (nb:Int),eS,eS,eS]/\zt u pf 84 [I6 sz,bs.x],fun _=>Iff.rfl⟩
  have hI0:I wr.drew:=(HI _).2 ⟨FX.mm.box.grew (gW _),FX.box.grew (gW _)⟩
  have hx8:∀y:zj I,y.world.cell? ⟨b,8,Xb⟩=Xa (sf.x):=fun y=>((HI _).1 y.holds).1.box.c 8 rfl
  have hp0:∀y:zj I,y.world.cell? ⟨pf,0,Xb⟩=Xa (I6 sz):=fun y=>((HI _).1 y.holds).2.box.c 0 rfl
  have hp1:∀y:zj I,y.world.cell? ⟨pf,1,Xb⟩=Xa (bs.x):=fun y=>((HI _).1 y.holds).2.box.c 1 rfl
  have hne:Nonempty (zj I):=⟨⟨_,hI0⟩⟩;refine zG (I:=I) 14 [(8,fun v=>∃g,v= O (Xa ⟨g,0,Xb⟩) 1 1),(9,fun v=>∃a n c,v= O a n c)] (fun u=>zc wr u) hI0 (gW _) zW (by kernel_rfl) rfl rfl (by decide) ?hS (by kernel_rfl) ?_
  case hS=>
   intro x hx;simp only[mC,nM,or_false]at hx
   rcases hx with rfl|rfl
   ·exact⟨_,0,rfl⟩
   exact⟨_,Xb,0,0,rfl⟩
  simp only[Xx,Xy];iterate 2 (refine zg rfl rfl rfl (fun K hK=>?_);go_big_quiet_op;refine hK _ ?_;clear hK)
  refine zI (.tmp 162) ⟨b,0,Xb⟩ rfl rfl rfl rfl ?_;simp only[Xt,sB,sS,sZ];iterate 5 (refine zg rfl rfl rfl (fun K hK=>?_);go_big_quiet_op;refine hK _ ?_;clear hK)
  refine zH rfl rfl (fun v u=>zc wr u/\zm fvE u v [fx]) (fun w' hI' hF'=>?_) (fun v1 hv=>?_)
  ·exact zQ.step (v:= O (Xa ⟨w'.heap.size,0,Xb⟩) 1 1) (w':=w'.alloc (Xk #[I6 sz,bs.x] 84)) (by simp only[execOp];go_simp) ⟨(HI _).2 ⟨((HI _).1 hI').1.grew (za _ _),((HI _).1 hI').2.grew (za _ _)⟩,⟨_,rfl⟩,hF'.trans (za _ _),jK fvE w' fx _ _ (by rw[HFX.out];rfl) (by decide)⟩
  obtain⟨g5,rfl⟩:=hv;simp only[Xt,sB,sS,sZ];refine zH rfl rfl (fun v u=>∃u0,zc wr u0/\u0.grownBy u (sf.x).ownBlock/\zb fvE w.heap.size u v (xs++ [fx])) (fun w' hI' hF'=>?_) (fun v1 hv=>?_)
  ·obtain⟨hg',hrw⟩:=hF';obtain⟨v',w2,hrun,ho,hgr,-⟩:=qn (E:=fvE) (w:=w') 35 (HX.grew hg') (O (Xa ⟨g5,0,Xb⟩) 1 1) [fx] hrw (by have:=HXL.out;have:=HFL.out;rw[HXL.out];show(fl.length+1)*32<=_;omega) (nT (bS FX.mm.gr) (bS hg'))
   obtain⟨a',c',rfl⟩:=ho.form;have hbx:I w2:=by
    cases hob:(sf.x).ownBlock with
    | none=>
     rw[hob]at hgr;exact(HI _).2 ⟨((HI _).1 hI').1.grew (qt hgr),((HI _).1 hI').2.grew (qt hgr)⟩
    | some gq=>
     rw[hob]at hgr;obtain⟨cs,hc⟩:=(HX.grew hg').obj hob;have hlt:=FX.fn gq hob;exact(HI _).2 ⟨((HI _).1 hI').1.kind hgr hc (by decide),((HI _).1 hI').2.beside hgr (fun k e=>by cases e;omega)⟩
   refine zQ.step (v:= .slice a' (xs++ [fx]).length c') (w':=w2) ?_ ⟨hbx,⟨a',_,c',rfl⟩,w',hg',hgr,ho⟩;simp only[execOp,resolve,invoke,builtin,pure_bind,Xv,Ya,Yb,mP,Xw];exact Eq.trans (congrArg (fun r=>Result.andThen r (fun a w'=>Result.ok (Next.value a) w')) hrun) rfl
  obtain⟨fa,fn,fc,rfl⟩:=hv;simp only[Xt,sB,sS,sZ];refine zI (.tmp 161) ⟨b,0,Xb⟩ rfl rfl rfl rfl ?_;simp only[Xt,sB,sS,sZ];iterate 3 (refine zg rfl rfl rfl (fun K hK=>?_);go_big_quiet_op;refine hK _ ?_;clear hK)
  refine qj fun W14 hI14 hF14=>?_
  obtain⟨u0,g0,gr14,op14⟩:=hF14;have B14:Xp (zt W14 b 95 [vl6.x,O (Xa ⟨gf,0,Xb⟩) nf nf,I6 0,O (Xa ⟨gl,0,Xb⟩) ns ns,O (Xa ⟨gsb,0,Xb⟩) ns ns,eS,O (Xa ⟨gdb,0,Xb⟩) nb nb,sd6.x,sf.x,I6 (nb:Int),eS,eS,eS]):=((HI _).1 hI14).1;have R14:Xp (MkR w.heap.size hi W14 ⟨⟨Xa ⟨gf,0,Xb⟩,nf,nf⟩,⟨Xa ⟨gl,0,Xb⟩,ns,ns⟩,⟨Xa ⟨gsb,0,Xb⟩,ns,ns⟩,zy,⟨Xa ⟨gdb,0,Xb⟩,nb,nb⟩,sd6,⟨fa,fn,fc⟩,zy,zy⟩ ⟨Xs nf frF,0,Xs ns 0,Xs ns zx,[],db6,dq6,fl++ [⟨sz,bl⟩],nb,[],[]⟩ zy []):=(FX.mm.rows.grew g0).addFl (HX.grew g0) HXL (fun i x f hx hf=>⟨(HX3 i x f hx hf).1,(HX3 i x f hx hf).2.grew g0⟩) gr14 ⟨fa,fn,fc⟩ (x:=fx) (f:=⟨sz,bl⟩) (zbY nf) (by rw[HFX.out]) (by rw[HFX.out];exact(FX.row.grew g0).base (by have:=FX.hp;omega)) op14
  have hk14:zc w W14/\zt W14 w.heap.size 41 qy:=by
   cases hob:(sf.x).ownBlock with
   | none=>
    rw[hob]at gr14;exact⟨(FX.mm.gr.trans g0).trans (qt gr14),(XX.grew g0).grew (qt gr14)⟩
   | some gq=>
    rw[hob]at gr14;obtain⟨cs,hc⟩:=(HX.grew g0).obj hob;exact⟨ze (FX.mm.gr.trans g0) gr14 ((HX.grew g0).lt gq hob).1,(XX.grew g0).kind gr14 hc (by decide)⟩
  obtain⟨e1,e5⟩:=hk14;have hg15:=jc W14 b 8 (O fa fn fc);have M15:Xp (Mk w hi (W14.setCell ⟨b,8,Xb⟩ (O fa fn fc)) b vl6 L6 ⟨⟨Xa ⟨gf,0,Xb⟩,nf,nf⟩,⟨Xa ⟨gl,0,Xb⟩,ns,ns⟩,⟨Xa ⟨gsb,0,Xb⟩,ns,ns⟩,zy,⟨Xa ⟨gdb,0,Xb⟩,nb,nb⟩,sd6,⟨fa,fn,fc⟩,zy,zy⟩ ⟨Xs nf frF,0,Xs ns 0,Xs ns zx,[],db6,dq6,fl++ [⟨sz,bl⟩],nb,[],[]⟩ zy []):=dD<|⟨ze e1 hg15 FX.mm.hb,FX.mm.hb,B14.set 8 _,FX.mm.lr,FX.mm.lc,FX.mm.lb,R14.var hg15 B14 hg15.size (.inl rfl)⟩
  have X15:Xp (zt (W14.setCell ⟨b,8,Xb⟩ (O fa fn fc)) w.heap.size 41 qy):=e5.kind hg15 B14 (by decide)
  have FI15:Xp (zex (fl++ [⟨sz,bl⟩]) nb db6 dq6 []/\(fl++ [(⟨sz,bl⟩:Fl)]).length<=k2+1/\db6.length=nb/\∀f∈fl++ [(⟨sz,bl⟩:Fl)],f.size<40):=dD<|⟨FI.1.file (by have:=HFL.out;omega) (by have:=HSZ.out;omega) (by rw[FI.2.1,HN3.out]),by have:=HFL.out;simp;omega,FI.2.2,fun f hf=>by
   rcases Xz.1 hf with hf|hf
   ·exact HF40 f hf
   simp only[mC,nM,or_false]at hf;rw[hf];exact HSZ.2⟩
  clear u0 g0 gr14 op14 e1 e5 hg15 hI14 hI0 hx8 hp0 hp1 hne;have x8:=B14.box.c 8 rfl;have xf:=B14.box.f;go_wp2
  go_roundg (c -(k2+1))
  case measure=>omega
  exact⟨k2+1,vl6,L6,sd6,⟨fa,fn,fc⟩,db6,dq6,fl++ [(⟨sz,bl⟩:Fl)],by omega,by omega,by go_num,M15,LX,X15,FI15,(fun h=>absurd h (Nat.succ_ne_zero _))⟩
 have hltz2:=kD hlt2
 have BI:Xp (qV ⟨Xs nf frF,0,Xs ns 0,Xs ns zx,[],db,dq,fl,nb,[],[]⟩ []):=FW.1.start hnf40 hns60 0;have HFL2:Xp (fl.length<=2/\∀f∈fl,f.size<40):=show _/\_ from⟨by have:=FW.2.1;omega,FW.2.2.2⟩
 have HE0:Xp (L=[]->fl=[]/\dq=[]/\db=Xs nb zx):=dD<|fun e=>ZW.out (by have:=HC0.out e;omega)
 have hpk3:=qA 2 MW.out;go_wp2_with fail;refine hpk3.mono ?_;clear hpk3;rintro e W4 ⟨vl4,L4,y,rfl,mk4,gr4,-,s0,s1,s2,ll4⟩;obtain⟨n5,hn5⟩:∃n5:Nat,1+y=(n5:Int):=⟨(1+y).toNat,by omega⟩
 have hn52:n5<=2:=by rcases s1 with h | h <;> omega
 have hn51:1<=n5:=by omega
 have HN1:Xp (L=[]->n5=1):=dD<|fun e=>by have:=s2 (LW e);omega
 have M4:Xp (Mk w hi W4 b vl4 L4 ⟨⟨Xa ⟨gf,0,Xb⟩,nf,nf⟩,⟨Xa ⟨gl,0,Xb⟩,ns,ns⟩,⟨Xa ⟨gsb,0,Xb⟩,ns,ns⟩,zy,⟨Xa ⟨gdb,0,Xb⟩,nb,nb⟩,sd,sf,zy,zy⟩ ⟨Xs nf frF,0,Xs ns 0,Xs ns zx,[],db,dq,fl,nb,[],[]⟩ zy []):=mk4;have X4:Xp (zt W4 w.heap.size 41 qy):=XW.beside gr4 (fun g e=>by cases e;have:=HBB.out;omega)
 have LL4:=dD (LW.trans ll4);clear mk4 gr4 ll4 s0 s1 s2;go_wp2
 go_loopg [179] n5 (fun gg s179 wr=>∃(k5:Nat) (vl':Sli) (L':List Int) (V':MaV) (m':Ma) (vt':Sli) (T':List (Nat->En)),k5<=n5/\n5 - k5<=gg/\s179=I6 k5/\Xp (Mk w hi wr b vl' L' V' m' vt' T')/\Xp (ZP L L')/\Xp (zt wr w.heap.size 41 qy)/\Xp (qV m' T')/\Xp (m'.sp.length=k5/\(∀s∈m'.sp,jF m'.fl.length s.ars/\j7 s.ars 64<=12)/\m'.hand=0/\m'.fs.length=nf/\(m'.fl.length<=2/\∀f∈m'.fl,f.size<40))/\Xp (L=[]->m'=zfa nf ns nb k5/\T'=Xs k5 (fun _=>en0)))
 case atStart=>exact⟨0,vl4,L4,_,_,_,_,nZ _,by omega,rfl,M4,LL4,X4,BI,(show _/\_ from⟨rfl,fun s hs=>(by cases hs),rfl,lR,HFL2⟩),(show _->_ from fun e=>by obtain⟨a1,a2,a3⟩:=HE0.out e;rw[a1,a2,a3];exact⟨rfl,rfl⟩)⟩
 obtain⟨k5,vl5,L5,V5,m5,vt5,T5,hk5,hg5,rfl,MX,LX,XX,BX5,S5,E5⟩:=hrel;have HL5:Xp (m5.sp.length=k5):=S5.1
 by_cases hlt5:k5<n5
 ·have hltz5:=kC hlt5
  by_cases h1:k5=1
  ·subst h1;have HL1:Xp (L≠[]):=dD<|fun e=>by have:=HN1.out e;omega
   have h1e:((((1:Nat):Int)) == 1)=Xc:=by decide
   have hpk4:=qA 2 MX.out;go_wp2_with fail;refine hpk4.mono ?_;clear hpk4;rintro e W7 ⟨vl7,L7,z,rfl,mk7,gr7,-,-,-,-,ll7⟩;have M7:Xp (Mk w hi W7 b vl7 L7 V5 m5 vt5 T5):=mk7;have X7:Xp (zt W7 w.heap.size 41 qy):=XX.beside gr7 (fun g e=>by cases e;have:=HBB.out;omega)
   have LL7:=dD (LX.trans ll7);clear mk7 gr7 ll7;obtain⟨MX,LX,XX⟩:Xp (Mk w hi W7 b vl7 L7 V5 m5 vt5 T5)/\Xp (ZP L L7)/\Xp (zt W7 w.heap.size 41 qy):=⟨M7,LL7,X7⟩
   by_cases hz:z=1
   ·have hze:(z == 1)=Xc:=by simp[hz]
    clear hz;obtain⟨s0,hs0⟩:=List.length_eq_one_iff.1 HL5.out;have HS0:Xp (m5.sp=[s0]):=hs0;clear hs0;have hfk:=zma s0 MX BX5 HS0.out;go_wp2_with fail;refine hfk.mono ?_;clear hfk;rintro e W9 ⟨⟨v,rfl⟩,V9,m9,vt9,T9,q1,q3,q4,⟨q5,q6,q7,q8⟩⟩;have M9:Xp (Mk w hi W9 b vl7 L7 V9 m9 vt9 T9):=q1;have X9:Xp (zt W9 w.heap.size 41 qy):=q3.1 _ _ _ XX zdY;have B9:Xp (qV m9 T9):=q4;have S9:Xp (m9.sp.length=1+1/\(∀s∈m9.sp,jF m9.fl.length s.ars/\j7 s.ars 64<=12)/\m9.hand=0/\m9.fs.length=nf/\(m9.fl.length<=2/\∀f∈m9.fl,f.size<40)):=show _/\_ from⟨by rw[q5,HS0.out];rfl,fun s hs=>by
     rw[q5]at hs;rw[q6]
     rcases Xz.1 hs with hs|hs
     ·exact S5.2.1 s hs
     simp only[mC,nM,or_false]at hs;rw[hs];exact S5.2.1 s0 (by rw[HS0.out];simp),q7.trans S5.2.2.1,q8.trans S5.2.2.2.1,by rw[q6];exact S5.2.2.2.2⟩
    have E9:Xp (L=[]->m9=zfa nf ns nb (1+1)/\T9=Xs (1+1) (fun _=>en0)):=dD<|fun e=>absurd e HL1.out
    clear q1 q3 q4 q5 q6 q7 q8;go_wp2
    go_roundg (n5 -(1+1))
    case measure=>omega
    exact⟨1+1,vl7,L7,V9,m9,vt9,T9,by omega,by omega,by go_num,M9,LX,X9,B9,S9,E9⟩
   have hze:(z == 1)=Xd:=by simp[hz]
   clear hz;have hsp:=zeO MX BX5 (by rw[HL5.out];omega)
   go_wp2_with fail;refine hsp.mono ?_;clear hsp;rintro e W9 ⟨⟨v,rfl⟩,vl9,L9,V9,m9,vt9,T9,l9,q1,q2,q3,q4,⟨q5,q6,q7,q8⟩,q9,q10⟩;have M9:Xp (Mk w hi W9 b vl9 L9 V9 m9 vt9 T9):=q1;have LL9:=dD (LX.trans q2);have X9:Xp (zt W9 w.heap.size 41 qy):=q3.1 _ _ _ XX zdY;have B9:Xp (qV m9 T9):=q4;have S9:Xp (m9.sp.length=1+1/\(∀s∈m9.sp,jF m9.fl.length s.ars/\j7 s.ars 64<=12)/\m9.hand=0/\m9.fs.length=nf/\(m9.fl.length<=2/\∀f∈m9.fl,f.size<40)):=show _/\_ from⟨by rw[q5,lA,HL5.out];rfl,fun s hs=>by
    rw[q5]at hs;rw[q6]
    rcases Xz.1 hs with hs|hs
    ·exact S5.2.1 s hs
    simp only[mC,nM,or_false]at hs;rw[hs];exact q9,q7.trans S5.2.2.1,q8.trans S5.2.2.2.1,by rw[q6];exact S5.2.2.2.2⟩
   have E9:Xp (L=[]->m9=zfa nf ns nb (1+1)/\T9=Xs (1+1) (fun _=>en0)):=dD<|fun e=>absurd e HL1.out
   clear q1 q2 q3 q4 q5 q6 q7 q8 q9 q10;go_wp2
   go_roundg (n5 -(1+1))
   case measure=>omega
   exact⟨1+1,vl9,L9,V9,m9,vt9,T9,by omega,by omega,by go_num,M9,LL9,X9,B9,S9,E9⟩
  obtain rfl:k5=0:=by omega
  have h1e:((((0:Nat):Int)) == 1)=Xd:=by decide
  have hsp:=zeO MX BX5 (by rw[HL5.out];omega)
  go_wp2_with fail;refine hsp.mono ?_;clear hsp;rintro e W9 ⟨⟨v,rfl⟩,vl9,L9,V9,m9,vt9,T9,l9,q1,q2,q3,q4,⟨q5,q6,q7,q8⟩,q9,q10⟩;have M9:Xp (Mk w hi W9 b vl9 L9 V9 m9 vt9 T9):=q1;have LL9:=dD (LX.trans q2);have X9:Xp (zt W9 w.heap.size 41 qy):=q3.1 _ _ _ XX zdY;have B9:Xp (qV m9 T9):=q4;have S9:Xp (m9.sp.length=0+1/\(∀s∈m9.sp,jF m9.fl.length s.ars/\j7 s.ars 64<=12)/\m9.hand=0/\m9.fs.length=nf/\(m9.fl.length<=2/\∀f∈m9.fl,f.size<40)):=show _/\_ from⟨by rw[q5,lA,HL5.out];rfl,fun s hs=>by
   rw[q5]at hs;rw[q6]
   rcases Xz.1 hs with hs|hs
   ·exact S5.2.1 s hs
   simp only[mC,nM,or_false]at hs;rw[hs];exact q9,q7.trans S5.2.2.1,q8.trans S5.2.2.2.1,by rw[q6];exact S5.2.2.2.2⟩
  have E9:Xp (L=[]->m9=zfa nf ns nb (0+1)/\T9=Xs (0+1) (fun _=>en0)):=dD<|fun e=>by
   obtain⟨a1,a2⟩:=q10 (LX e);obtain⟨b1,b2⟩:=E5.out e;rw[b1]at a1;rw[b2]at a2;exact⟨a1,a2⟩
  clear q1 q2 q3 q4 q5 q6 q7 q8 q9 q10;go_wp2
  go_roundg (n5 -(0+1))
  case measure=>omega
  exact⟨0+1,vl9,L9,V9,m9,vt9,T9,by omega,by omega,by go_num,M9,LL9,X9,B9,S9,E9⟩
 have hltz5:=kD hlt5
 obtain⟨ys0,z1,z2,-⟩:=MX.rows.sp;have HN5:Xp (V5.sp.n=k5):=dD<|by rw[z1.n,z2,HL5.out]
 obtain⟨ht,HHT⟩:=kA wr.heap.size;have HBT:Xp (b<ht):=dD<|by rw[<-HHT.out];exact MX.box.box.lt
 have HXT:Xp (w.heap.size<ht):=dD<|by rw[<-HHT.out];exact XX.box.lt
 have HZ1:Xp (∀g,(V5.sp.x).ownBlock=Xa g->g<ht):=dD<|fun g hg=>by rw[<-HHT.out];exact(z1.lt g hg).2
 have NX:Xp (zla w wr b vl5 L5 [V5.f.x,I6 m5.hand,V5.s.x,V5.sb.x,V5.sq.x,V5.db.x,V5.dq.x,V5.fl.x,I6 m5.cnt,V5.ca.x,V5.sp.x,vt5.x]):=MX.nums;have TX:Xp (MkT w.heap.size hi ht 0 wr V5 m5 vt5 T5):=MX.rows.start ht HHT.out;have HTL:Xp (T5.length=k5):=show _=_ by rw[BX5.tl,HL5.out]
 have HK:Xp (∀(p:Nat) f,T5[p]? =Xa f->∀e∈tab f,0<=e.kind):=dD<|fun p f hf e he=>by
  obtain⟨j,hj⟩:=List.getElem?_of_mem he;have hj64:j<64:=by have:=(gS.1 hj).1;rw[Qd]at this;exact this
  rw[Q5 hj64]at hj;cases hj;have hp:p<m5.sp.length:=by rw[<-BX5.tl];exact(gS.1 hf).1
  rcases BX5.ent p _ f (gE hp) hf j hj64 with e|e
  ·rw[e];decide
  by_cases hk:(f j).kind=2
  ·omega
  have:=(qo e hk).1;omega
 have x11:=MX.box.box.c 11 rfl;(try simp only[Sli.x]at x11);rw[HN5.out]at x11;clear z1 z2 ys0;go_wp2;clear x11
 go_loopg [200] k5 (fun gg s200 wr=>∃p:Nat,p<=k5/\k5 - p<=gg/\s200=I6 p/\Xp (MkT w.heap.size hi ht p wr V5 m5 vt5 T5)/\Xp (zla w wr b vl5 L5 [V5.f.x,I6 m5.hand,V5.s.x,V5.sb.x,V5.sq.x,V5.db.x,V5.dq.x,V5.fl.x,I6 m5.cnt,V5.ca.x,V5.sp.x,vt5.x])/\Xp (zt wr w.heap.size 41 qy)/\Xp (ht<=wr.heap.size))
 case atStart=>exact⟨0,nZ _,by omega,rfl,TX,NX,XX,(show _<=_ by rw[HHT.out];exact nR _)⟩
 obtain⟨p,hp,hg6,rfl,TW,NW,XW,HW⟩:=hrel
 by_cases hlt6:p<k5
 ·have hltz6:=kC hlt6
  obtain⟨f,HF⟩:∃f,Xp (T5[p]? =Xa f):=⟨_,gE (by rw[HTL.out];exact hlt6)⟩
  obtain⟨ys,s1,s2,s3⟩:=TW.sp;have hyl:ys.length=k5:=by rw[s2,HL5.out]
  obtain⟨x,HX⟩:∃x,Xp (ys[p]? =Xa x):=⟨_,gE (by omega)⟩
  obtain⟨gs,cs,hse⟩:=s1.formS (by omega)
  rw[hyl]at hse;have HSE:Xp (V5.sp.x=(O (Xa ⟨gs,0,Xb⟩) k5 cs)):=hse;obtain⟨gt,ct,hte⟩:=TW.tt.formS (by rw[HTL.out];omega)
  rw[HTL.out]at hte;have HTE:Xp (vt5.x=(O (Xa ⟨gt,0,Xb⟩) k5 ct)):=hte;have S1:Xp (zb Zh w.heap.size wr (O (Xa ⟨gs,0,Xb⟩) k5 cs) ys):=show zb _ _ _ _ _ by rw[<-HSE.out];exact s1
  have R1:Xp (zb Qw w.heap.size wr (O (Xa ⟨gt,0,Xb⟩) k5 ct) T5):=dD<|by rw[<-HTE.out];exact TW.tt
  have S2:Xp (ys.length=m5.sp.length):=s2;have S3:Xp (∀(i:Nat) x s f,ys[i]? =Xa x->m5.sp[i]? =Xa s->T5[i]? =Xa f->x.live=s.live/\zb arE w.heap.size wr x.ar.v s.ars/\(i<p->ZS 0 ht wr x.tab (jV f))/\(p<=i->x.tab=Qf)):=show∀i,_ from s3
  clear s1 s2 s3 hse hte hyl;go_upto_region 43 with fail;obtain⟨I,HI⟩:∃I:Xo->Prop,Xp (∀u,I u↔zc wr u):=⟨fun u=>zc wr u,fun _=>Iff.rfl⟩
  have hI0:I wr.drew:=(HI _).2 (gW _)
  have hx11:∀y:zj I,y.world.cell? ⟨b,11,Xb⟩=Xa (O (Xa ⟨gs,0,Xb⟩) k5 cs):=fun y=>by
   have:=(NW.box.box.grew ((HI _).1 y.holds)).c 11 rfl;rw[HSE.out]at this;exact this
  have hx12:∀y:zj I,y.world.cell? ⟨b,12,Xb⟩=Xa (O (Xa ⟨gt,0,Xb⟩) k5 ct):=fun y=>by
   have:=(NW.box.box.grew ((HI _).1 y.holds)).c 12 rfl;rw[HTE.out]at this;exact this
  have hne:Nonempty (zj I):=⟨⟨_,hI0⟩⟩;refine zG (I:=I) 16 [(13,fun v=>∃us:List Xr,v= Xi us.toArray)] (fun _=>True) hI0 trivial zW (by kernel_rfl) rfl rfl (by decide) ?hS (by kernel_rfl) ?_
  case hS=>
   intro x hx;simp only[mC,nM,or_false]at hx;subst hx;exact⟨_,[],rfl⟩
  simp only[Xx,Xy];iterate 1 (refine zg rfl rfl rfl (fun K hK=>?_);go_big_quiet_op;refine hK _ ?_;clear hK)
  refine zI (.tmp 203) ⟨b,0,Xb⟩ rfl rfl rfl rfl ?_;simp only[Xt,sB,sS,sZ];iterate 5 (refine zg rfl rfl rfl (fun K hK=>?_);go_big_quiet_op;refine hK _ ?_;clear hK)
  refine zI (.tmp 209) ⟨b,0,Xb⟩ rfl rfl rfl rfl ?_;simp only[Xt,sB,sS,sZ];iterate 4 (refine zg rfl rfl rfl (fun K hK=>?_);go_big_quiet_op;refine hK _ ?_;clear hK)
  refine zlU (Xi (jp (tab f)).toArray) rfl rfl (fun u hu=>zgj (.tmp 214) rfl gt (p*192) rfl ((R1.grew ((HI _).1 hu)).range HF) (by rw[za5,Qd])) ?_
  simp only[Xt,sB,sS,sZ];refine zH rfl rfl (fun v u=>∃us:List Xr,v= Xi us.toArray/\ZS 0 ht u us (jV f)) (fun w' hI' _=>?_) (fun v1 hv=>?_)
  ·refine zQ.call [Xi (jp (tab f)).toArray] rfl func42 rfl rfl rfl ?_;refine(zgc (tab f) w' (Qd f) (HK p f HF)).mono ?_;rintro e w'' ⟨us,rfl,ht1,ht2⟩;exact⟨_,rfl,(HI _).2 (((HI _).1 hI').trans ht2),⟨us,rfl⟩,us,rfl,ht1.less (nR _) (nT HW (bS ((HI _).1 hI')))⟩
  obtain⟨us,rfl⟩:=hv;simp only[Xt,sB,sS,sZ];iterate 2 (refine zg rfl rfl rfl (fun K hK=>?_);go_big_quiet_op;refine hK _ ?_;clear hK)
  refine qj fun W1 hI1 hF1=>?_
  obtain⟨us',hus,ht1⟩:=hF1;have hue:us=us':=by
   simp only[Value.agg.injEq]at hus
   simpa using congrArg Array.toList hus
  subst hue;obtain⟨t0,t1,t2,t3,t4,t5,t6,t7,rfl⟩:=zjs ht1;have g1:=(HI _).1 hI1;have T1:Xp (ZS 0 ht W1 [t0.v,t1.v,t2.v,t3.v,t4.v,t5.v,t6.v,t7.v] (jV f)):=ht1;have G1:Xp (zc wr W1):=g1;clear hus ht1 g1 hI1 hI0 hx11 hx12 hne;refine zB (E:=Zh) rfl (.tmp 218) (.tmp 216) 61 rfl w.heap.size _ ys (S1.grew G1) gs p 2 rfl x ⟨x.live,x.ar,t0,t1,t2,t3,t4,t5,t6,t7⟩ HX.out [t0.v,t1.v,t2.v,t3.v,t4.v,t5.v,t6.v,t7.v] (by kernel_rfl) rfl (by show 2+8<=10;omega) (fun u hu=>by simp only[mC,nM,or_false]at hu;rcases hu with rfl | rfl | rfl | rfl | rfl | rfl | rfl | rfl <;> rfl) _ rfl (by first | rfl | simp) _ rfl rfl ?_
  intro W2 ow2 gr2 sz2;obtain⟨cs',hcs⟩:=(S1.grew G1).obj (g:=gs) rfl;have hgl:gs<ht:=HZ1.out gs (by rw[HSE.out];rfl)
  have T2:Xp (MkT w.heap.size hi ht (p+1) W2 V5 m5 vt5 T5):=(TW.grew G1).table S2 (fun i x s f hx hs hf=>by
   obtain⟨a1,a2,a3,a4⟩:=S3.out i x s f hx hs hf;exact⟨a1,a2.grew G1,fun e=>(a3 e).grew G1,a4⟩) hcs hgl gr2 HX HF (y:=⟨x.live,x.ar,t0,t1,t2,t3,t4,t5,t6,t7⟩) ⟨rfl,rfl⟩ (T1.out.out (Out.grown gr2 (fun g e=>by cases e;exact⟨nZ _,hgl⟩))) (by (first|rw[HSE.out]|rw[show O _ _ _=_ from HSE.out]);exact ow2)
  have N2:Xp (zla w W2 b vl5 L5 [V5.f.x,I6 m5.hand,V5.s.x,V5.sb.x,V5.sq.x,V5.db.x,V5.dq.x,V5.fl.x,I6 m5.cnt,V5.ca.x,V5.sp.x,vt5.x]):=dD<|⟨ze (NW.gr.trans G1) gr2 ((S1.grew G1).lt gs rfl).1,NW.hb,(NW.box.grew G1).beside gr2 (fun g e=>by cases e;exact(S1.grew G1).ne (NW.box.grew G1) (by decide) gs rfl),NW.lr,NW.lc,NW.lb⟩
  have X2:Xp (zt W2 w.heap.size 41 qy):=(XW.grew G1).beside gr2 (fun g e=>by cases e;exact(S1.grew G1).ne (XW.grew G1) (by decide) gs rfl)
  have H2:Xp (ht<=W2.heap.size):=dD<|by rw[sz2];exact nT HW (bS G1)
  clear ow2 gr2 sz2 hcs hgl;go_wp2
  go_roundg (k5 -(p+1))
  case measure=>omega
  exact⟨p+1,by omega,by omega,by go_num,T2,N2,X2,H2⟩
 have hltz6:=kD hlt6
 obtain rfl:k5=p:=by omega
 have HSPL:Xp (1<=m5.sp.length/\m5.sp.length<=2):=dD<|by rw[HL5.out];omega
 by_cases h0:0<nf
 ·have h0d:decide ((0:Int)< (nf:Int))=Xc:=by simp;omega
  have hpk:=zlr (nf:Int) NW.out;go_wp2_with fail;refine hpk.mono ?_;clear hpk;rintro e W20 ⟨vl20,L20,y,rfl,nm20,gr20,-,y0,y1,yn,-⟩;have T20:Xp (MkT w.heap.size hi ht k5 W20 V5 m5 vt5 T5):=TW.other gr20 NW.box HBT (.inl rfl);have X20:Xp (zt W20 w.heap.size 41 qy):=XW.kind gr20 NW.box (by decide)
  have N20:Xp (zla w W20 b vl20 L20 [V5.f.x,I6 m5.hand,V5.s.x,V5.sb.x,V5.sq.x,V5.db.x,V5.dq.x,V5.fl.x,I6 m5.cnt,V5.ca.x,V5.sp.x,vt5.x]):=nm20;have HY:Xp (0<=y/\y<max (m5.fs.length:Int) 1):=show _/\_ from⟨y0,by rw[S5.2.2.2.1];omega⟩
  have HY0:Xp (L=[]->y=0):=dD<|fun e=>yn (LX e)
  clear nm20 gr20 y0 y1 yn;have x2:=N20.box.box.c 2 rfl;have xf:=N20.box.box.f;go_upto_region 47 with fail;clear x2 xf;obtain⟨W21,hW21⟩:=kB (W20.setCell ⟨b,2,Xb⟩ (I6 y));have hg21:W20.grownBy W21 (Xa b):=by rw[<-hW21];exact jc _ _ _ _
  have B21:Xp (zt W21 b 95 [vl20.x,V5.f.x,I6 y,V5.s.x,V5.sb.x,V5.sq.x,V5.db.x,V5.dq.x,V5.fl.x,I6 m5.cnt,V5.ca.x,V5.sp.x,vt5.x]):=dD<|by rw[<-hW21];exact N20.box.set 2 _
  have T21:Xp (MkT w.heap.size hi ht k5 W21 V5 m5 vt5 T5):=T20.other hg21 N20.box HBT (.inl rfl);have X21:Xp (zt W21 w.heap.size 41 qy):=X20.kind hg21 N20.box (by decide)
  have G21:Xp (zc w W21):=ze N20.gr hg21 N20.hb;rw[hW21];clear hW21 hg21;have c1:=B21.box.c 1 rfl;have c2:=B21.box.c 2 rfl;have c3:=B21.box.c 3 rfl;have c4:=B21.box.c 4 rfl;have c5:=B21.box.c 5 rfl;have c6:=B21.box.c 6 rfl;have c7:=B21.box.c 7 rfl;have c8:=B21.box.c 8 rfl;have c9:=B21.box.c 9 rfl;have c10:=B21.box.c 10 rfl;have c11:=B21.box.c 11 rfl
  go_wp2_with (refine qO rfl 41 (.tmp 8) (.tmp 233) rfl w.heap.size rfl [V5.f.x,I6 y,V5.s.x,V5.sb.x,V5.sq.x,V5.db.x,V5.dq.x,V5.fl.x,I6 m5.cnt,V5.ca.x,V5.sp.x] rfl X21 rfl zoM (fun v hv=>by simp only[mC,nM,or_false]at hv;rcases hv with rfl | rfl | rfl | rfl | rfl | rfl | rfl | rfl | rfl | rfl | rfl <;> rfl) ?_)
  intro W22 hb22 hg22 _;have HRS:Xp (zk5 w nf ns nb L W22 V5 m5 T5 y hi ht vt5):=dD<|⟨ze G21 hg22 (nR _),by rw[HL5.out];exact T21.other hg22 X21 HXT (.inr rfl),BX5,HY,S5.2.1,S5.2.2.2.2,HSPL,S5.2.2.2.1,fun e=>by obtain⟨a1,a2⟩:=E5.out e;have h1:=HN1.out e;have h2:k5=1:=(by omega);rw[h2]at a1 a2;exact⟨a1,a2,HY0 e⟩⟩
  have B22:Xp (Box W22 w.heap.size [V5.f.x,I6 y,V5.s.x,V5.sb.x,V5.sq.x,V5.db.x,V5.dq.x,V5.fl.x,I6 m5.cnt,V5.ca.x,V5.sp.x]):=hb22.box;clear hb22 hg22;clear c1 c2 c3 c4 c5 c6 c7 c8 c9 c10 c11;go_wp2;refine bodyPost_ret (zZ rfl _ rfl B22 underlying41 rfl zoM) rfl ⟨V5,m5,T5,y,hi,ht,vt5,rfl,HRS⟩
 have h0d:decide ((0:Int)< (nf:Int))=Xd:=by simp;omega
 have B21:Xp (zt wr b 95 [vl5.x,V5.f.x,I6 0,V5.s.x,V5.sb.x,V5.sq.x,V5.db.x,V5.dq.x,V5.fl.x,I6 m5.cnt,V5.ca.x,V5.sp.x,vt5.x]):=dD<|by have:=NW.box;rw[S5.2.2.1]at this;exact this
 have G21:Xp (zc w wr):=NW.gr;have HY:Xp ((0:Int)<=0/\(0:Int)<max (m5.fs.length:Int) 1):=show _/\_ from⟨Int.le_refl _,by omega⟩
 have c1:=B21.box.c 1 rfl;have c2:=B21.box.c 2 rfl;have c3:=B21.box.c 3 rfl;have c4:=B21.box.c 4 rfl;have c5:=B21.box.c 5 rfl;have c6:=B21.box.c 6 rfl;have c7:=B21.box.c 7 rfl;have c8:=B21.box.c 8 rfl;have c9:=B21.box.c 9 rfl;have c10:=B21.box.c 10 rfl;have c11:=B21.box.c 11 rfl
 go_wp2_with (refine qO rfl 41 (.tmp 8) (.tmp 233) rfl w.heap.size rfl [V5.f.x,I6 0,V5.s.x,V5.sb.x,V5.sq.x,V5.db.x,V5.dq.x,V5.fl.x,I6 m5.cnt,V5.ca.x,V5.sp.x] rfl XW rfl zoM (fun v hv=>by simp only[mC,nM,or_false]at hv;rcases hv with rfl | rfl | rfl | rfl | rfl | rfl | rfl | rfl | rfl | rfl | rfl <;> rfl) ?_)
 intro W22 hb22 hg22 _;have HRS:Xp (zk5 w nf ns nb L W22 V5 m5 T5 0 hi ht vt5):=dD<|⟨ze G21 hg22 (nR _),by rw[HL5.out];exact TW.other hg22 XW HXT (.inr rfl),BX5,HY,S5.2.1,S5.2.2.2.2,HSPL,S5.2.2.2.1,fun e=>by obtain⟨a1,a2⟩:=E5.out e;have h1:=HN1.out e;have h2:k5=1:=(by omega);rw[h2]at a1 a2;exact⟨a1,a2,rfl⟩⟩
 have B22:Xp (Box W22 w.heap.size [V5.f.x,I6 0,V5.s.x,V5.sb.x,V5.sq.x,V5.db.x,V5.dq.x,V5.fl.x,I6 m5.cnt,V5.ca.x,V5.sp.x]):=hb22.box;clear hb22 hg22;clear c1 c2 c3 c4 c5 c6 c7 c8 c9 c10 c11;go_wp2;refine bodyPost_ret (zZ rfl _ rfl B22 underlying41 rfl zoM) rfl ⟨V5,m5,T5,0,hi,ht,vt5,rfl,HRS⟩
theorem zk5.at {w:Xo} {nf ns nb ht:Nat} {hd:Int} (h:zk5 w nf ns nb L w' V m T hd hi ht vt):zN w' V (jO m T hd)/\maW (jO m T hd)=0:=⟨h.rows.mach h.inv.tl hd,h.inv.right h.hand.1 h.hand.2⟩
theorem zj0 (h:maW m=0):zbr m=0:=by
 unfold maW at h;rw[zF]at h;exact h _ (by simp)
theorem zoa (h:maW m=0) {f:Fl} (hf:m.fl[fi]? =Xa f):(0<=f.size/\f.size<=96)/\(f.bl.length:Int)=JK f.size:=by
 have h1:=zj0 h;unfold zbr at h1;rw[zF]at h1;have h2:=((qi _ _).1 (h1 (stW m.fl m.cnt) (by simp))).2.1 f (mG hf)
 exact⟨h2.1,h2.2.1⟩
theorem zm2 {α:Type} (E:Elt α) (w:Xo):zm E w (eS) ([]:List α):=(zb.nil E 0 w).at
theorem zhX:jV (fun _=>en0)=qL:=by kernel_rfl
theorem zmg {F S B:Int} (h:zmL F S B):jO (zfa F.toNat S.toNat B.toNat 1) [fun _=>en0] 0=zaV F S B:=by
 unfold jO zfa zaV;simp only[List.replicate_one,List.zipWith_cons_cons,List.zipWith_nil_left,zhX]
 congr 1
 unfold zmL at h;omega
def nm2:Ma:=zaV 2 2 2
def sp2:Sp:=⟨Xc,[],qL⟩
theorem ziZ (w:Xo):Xq prog 13 #[I6 2,I6 2,I6 2,eS] w fun e w'=>(∃V:MaV,e= Xl (Xi #[V.f.x,I6 0,V.s.x,V.sb.x,V.sq.x,V.db.x,V.dq.x,V.fl.x,I6 2,V.ca.x,V.sp.x])/\zN w' V nm2)/\Rt nm2/\zc w w':=by
 refine(zfP 2 2 2 2 2 2 (by decide) (by decide) (by decide) zy [] w (zm2 _ _) (nR _) (by simp)).mono ?_
 rintro e w' ⟨V2,m2,T2,hd2,hi2,ht2,vt2,rfl,hbt⟩;obtain⟨e1,e2,e3⟩:=hbt.new rfl;have hat:=hbt.at;have hf:jO (zfa 2 2 2 1) [fun _=>en0] 0=nm2:=zmg (F:=2) (S:=2) (B:=2) (by unfold zmL;omega)
 rw[e1,e2,e3,hf]at hat;have hc:m2.cnt=2:=by rw[e1];rfl
 refine⟨⟨V2,by rw[hc,e3],hat.1⟩,⟨hat.2,fun s hs=>?_⟩,hbt.gr⟩
 have:s=sp2:=by
  have hs:s∈[sp2]:=hs
  simpa using hs
 rw[this];rfl
theorem zix (V:MaV) (m:Ma) (w:Xo) (hm:zN w V m) (hf:m.fs.length<=40):
  Xq prog 29 #[Xi (mL V m).toArray] w fun e w'=>e= Xl (I6 (JJ m.fs:Int))/\zc w w':=by
 obtain⟨n1,-⟩:=hm.ns;obtain⟨fa,HFA⟩:=kA V.f.a;have HFR:Xp (zaM w fa m.fs):=dD<|by rw[<-HFA.out];exact hm.frs
 obtain⟨fn,HFN⟩:=kA m.fs.length;rw[HFN.out]at n1 hf;have HN1:Xp (V.f.n=fn):=n1;clear n1;obtain⟨W0,hW0⟩:=kB (w.alloc (Xk (mL V m).toArray 41));have G0:=gA hW0
 have X0:=xA hW0
 have HW0:Xp (_=W0):=hW0;have HZF:Xp (JJ m.fs=(m.fs.take fn).countP fun f=>decide (f.r=0)):=show _=_ by rw[<-HFN.out,List.take_length];rfl
 clear hW0 hm
 go_enter func29,ntmps29
 go_upto_region 2 with fail;rw[HW0.out];have x0:=X0.c 0 rfl;(try simp only[Sli.x]at x0);rw[HN1.out,HFA.out]at x0;go_wp2;clear x0
 go_loopg [3,10] fn (fun gg s3 s10 wr=>∃kk:Nat,kk<=fn/\fn - kk<=gg/\s3=I6 (((m.fs.take kk).countP fun f=>decide (f.r=0):Nat):Int)/\s10=I6 kk/\Xp (zc w wr))
 case atStart=>exact⟨0,nZ _,by omega,rfl,rfl,G0⟩
 obtain⟨kk,hkk,hg,rfl,rfl,GW⟩:=hrel
 by_cases hlt:kk<fn
 ·have hltz:=kC hlt
  obtain⟨f,HK⟩:∃f,Xp (m.fs[kk]? =Xa f):=⟨_,gE (by rw[HFN.out];exact hlt)⟩
  obtain⟨ad,rfl,hl⟩:=HFR.out kk f HK.out;obtain⟨d0,d1,d2,d3,d4,d5,d6,d7,d8,d9,d10,d11,d12⟩:=hl wr GW.out;clear hl;have HC:Xp ((m.fs.take (kk+1)).countP (fun f=>decide (f.r=0))=(m.fs.take kk).countP (fun f=>decide (f.r=0))+(if decide (f.r=0)=Xc then 1 else 0)):=za3 _ HK.out
  have HCL:Xp ((m.fs.take kk).countP (fun f=>decide (f.r=0))<=kk):=dD<|nT List.countP_le_length (by simp;omega)
  generalize hcn:(m.fs.take kk).countP (fun f=>decide (f.r=0))=cn at HC HCL
  clear hcn;have hcl:cn<=kk:=HCL.out;go_upto_region 5 with fail;clear d0 d1 d2 d3 d4 d5 d6 d7 d8 d9 d10 d11 d12;obtain⟨W1,hW1⟩:=kB (wr.alloc (Xk #[U8 f.p.b0,U8 f.p.b1,U8 f.p.b2,U8 f.p.b3,U8 f.p.b4,U8 f.p.b5,U8 f.p.b6,U8 f.p.b7,I6 f.r,Xh f.u,Xh f.d,I6 f.f,I6 f.x] 53));have g1:=gP hW1
  have F1:=xA hW1
  have G1:=dD (GW.trans g1);rw[hW1];clear hW1 g1;have f8:=F1.c 8 rfl
  by_cases hz:f.r=0
  ·have hzb:(f.r == 0)=Xc:=by simpa using hz
   have HC1:Xp ((m.fs.take (kk+1)).countP (fun f=>decide (f.r=0))=cn+1):=dD<|by rw[HC.out,kE (by simpa using hz)]
   clear hz;go_wp2
   go_roundg (fn -(kk+1))
   case measure=>omega
   exact⟨kk+1,by omega,by omega,by rw[HC1.out];go_num,by go_num,G1⟩
  have hzb:(f.r == 0)=Xd:=by simpa using hz
  have HC1:Xp ((m.fs.take (kk+1)).countP (fun f=>decide (f.r=0))=cn):=dD<|by rw[HC.out,kF (by simpa using hz)];rfl
  clear hz;go_wp2
  go_roundg (fn -(kk+1))
  case measure=>omega
  exact⟨kk+1,by omega,by omega,by rw[HC1.out],by go_num,G1⟩
 have hltz:=kD hlt
 have:kk=fn:=by omega
 subst this;rw[<-HZF.out];obtain⟨zf,HZ⟩:=kA (JJ m.fs);rw[HZ.out];go_wp2;go_ret;exact⟨by rw[HZ.out];rfl,GW⟩
theorem zm4:Qn nm2.fs nm2.hand=-1/\(jd nm2).fs.length=2/\ZR nm2.fs nm2.hand=0:=⟨by kernel_rfl,by kernel_rfl,by kernel_rfl⟩
theorem zg1 (w:Xo):Xq prog 26 #[] w fun e w'=>e= Xl (Xh Xc)/\zc w w':=by
 have hbu:=ziZ w
 go_enter func26,ntmps26
 go_wp2_with fail;refine hbu.mono ?_;clear hbu;rintro e W1 ⟨⟨V,rfl,hm⟩,hrt,g1⟩;have G1:Xp (zc w W1):=g1;have M1:Xp (zN W1 V nm2):=hm;have HR:Xp (Rt nm2):=hrt;clear g1 hm hrt;go_upto_region 2 with fail;obtain⟨b,HB⟩:=kA W1.heap.size;obtain⟨W2,hW2⟩:=kB (W1.alloc (Xk #[V.f.x,I6 0,V.s.x,V.sb.x,V.sq.x,V.db.x,V.dq.x,V.fl.x,I6 2,V.ca.x,V.sp.x] 41));have g2:=gP hW2
 have X2:=xPT hW2 HB
 have G2:=dD (G1.trans g2);have M2:=dD (M1.grew g2);rw[hW2,HB.out];clear hW2 g2;have hev:Xq prog 28 #[Xi #[V.f.x,I6 0,V.s.x,V.sb.x,V.sq.x,V.db.x,V.dq.x,V.fl.x,I6 2,V.ca.x,V.sp.x]] W2 fun e w'=>(∃(bo:Bool) (m':Ma) (V':MaV),(bo=Xd/\m'.fs.length=2)/\e= Xl (Xm #[Xi (mL V' m').toArray,Xh bo,I6 0])/\zN w' V' m')/\zc W2 w':=zdr V nm2 W2 M2 HR.w (fun bo m'=>bo=Xd/\m'.fs.length=2) (fun w0 W p V1 hc=>(zgJ hc zm4.2.2 zm4.1 (by decide) (by decide) _).mono (by
  rintro e w' ⟨rfl,h⟩;exact⟨Xd,jd nm2,rfl,⟨rfl,zm4.2.1⟩,h⟩))
 obtain⟨x0,x1,x2,x3,x4,x5,x6,x7,x8,x9,x10⟩:=X2.box.c11;go_wp2_with fail;refine hev.mono ?_;clear hev x0 x1 x2 x3 x4 x5 x6 x7 x8 x9 x10;rintro e W3 ⟨⟨bo,m3,V3,⟨rfl,hl3⟩,rfl,hm3⟩,g3⟩;obtain⟨n3,-⟩:=hm3.ns;have HN3:Xp (V3.f.n=2):=dD<|by rw[n3,hl3]
 clear n3 hl3 hm3;go_upto_region 3 with fail;obtain⟨c,HC⟩:=kA W3.heap.size;obtain⟨W4,hW4⟩:=kB (W3.alloc (Xk (mL V3 m3).toArray 41));have g4:=gP hW4
 have Y4:=xPT hW4 HC
 have X4:=dD (X2.grew (g3.trans g4));have G4:=dD (G2.trans (g3.trans g4));have M4:=dD (M2.grew (g3.trans g4));rw[hW4,HC.out];clear hW4 g3 g4;have hcl:Xq prog 30 #[Xi #[V.f.x,I6 0,V.s.x,V.sb.x,V.sq.x,V.db.x,V.dq.x,V.fl.x,I6 2,V.ca.x,V.sp.x]] W4 fun e w'=>(∃V':MaV,e= Xl (Xm #[Xi #[V'.f.x,I6 0,V'.s.x,V'.sb.x,V'.sq.x,V'.db.x,V'.dq.x,V'.fl.x,I6 2,V'.ca.x,V'.sp.x],Xh Xd,I6 0])/\zN w' V' nm2)/\zc W4 w':=ziR V nm2 W4 M4 HR.w rfl
 obtain⟨x0,x1,x2,x3,x4,x5,x6,x7,x8,x9,x10⟩:=X4.box.c11;go_wp2_with fail;refine hcl.mono ?_;clear hcl x0 x1 x2 x3 x4 x5 x6 x7 x8 x9 x10;rintro e W5 ⟨⟨V5,rfl,hm5⟩,g5⟩;obtain⟨-,n5,-⟩:=hm5.ns;have HN5:Xp (V5.s.n=2):=n5;clear n5 hm5;go_upto_region 4 with fail;obtain⟨d,HD⟩:=kA W5.heap.size;obtain⟨W6,hW6⟩:=kB (W5.alloc (Xk #[V5.f.x,I6 0,V5.s.x,V5.sb.x,V5.sq.x,V5.db.x,V5.dq.x,V5.fl.x,I6 2,V5.ca.x,V5.sp.x] 41));have g6:=gP hW6
 have D6:=xPT hW6 HD
 have Y6:=dD (Y4.grew (g5.trans g6));have X6:=dD (X4.grew (g5.trans g6));have G6:=dD (G4.trans (g5.trans g6));have M6:=dD (M4.grew (g5.trans g6));rw[hW6,HD.out];clear hW6 g5 g6;have hcr:Xq prog 35 #[Xi #[V.f.x,I6 0,V.s.x,V.sb.x,V.sq.x,V.db.x,V.dq.x,V.fl.x,I6 2,V.ca.x,V.sp.x],I6 0] W6 fun e w'=>(∃V':MaV,e= Xl (Xm #[Xi #[V'.f.x,I6 0,V'.s.x,V'.sb.x,V'.sq.x,V'.db.x,V'.dq.x,V'.fl.x,I6 2,V'.ca.x,V'.sp.x],I6 0])/\zN w' V' (zkK nm2 (zc0 (QV 0) nm2.db nm2.dq))/\∃ps,V'.sp=⟨Xa ⟨ps,0,Xb⟩,1,1⟩)/\zc W6 w':=ziP V nm2 0 W6 M6 HR.out
 obtain⟨x0,x1,x2,x3,x4,x5,x6,x7,x8,x9,x10⟩:=X6.box.c11;go_wp2_with fail;refine hcr.mono ?_;clear hcr x0 x1 x2 x3 x4 x5 x6 x7 x8 x9 x10;rintro e W7 ⟨⟨V7,rfl,hm7,-⟩,g7⟩;obtain⟨-,-,-,-,n7,-,-,-,o7⟩:=hm7.ns;have HN7:Xp (V7.db.n=2):=dD<|by
  rw[n7]
  show(zc0 (QV 0) nm2.db nm2.dq).length=2
  kernel_rfl
 have HO7:Xp (V7.sp.n=1):=o7;clear n7 o7 hm7;go_upto_region 5 with fail;obtain⟨f,HF⟩:=kA W7.heap.size;obtain⟨W8,hW8⟩:=kB (W7.alloc (Xk #[V7.f.x,I6 0,V7.s.x,V7.sb.x,V7.sq.x,V7.db.x,V7.dq.x,V7.fl.x,I6 2,V7.ca.x,V7.sp.x] 41));have g8:=gP hW8
 have F8:=xPT hW8 HF
 have D8:=dD (D6.grew (g7.trans g8));have Y8:=dD (Y6.grew (g7.trans g8));have X8:=dD (X6.grew (g7.trans g8));have G8:=dD (G6.trans (g7.trans g8));have M8:=dD (M6.grew (g7.trans g8));rw[hW8,HF.out];clear hW8 g7 g8;have hsy:Xq prog 31 #[Xi #[V.f.x,I6 0,V.s.x,V.sb.x,V.sq.x,V.db.x,V.dq.x,V.fl.x,I6 2,V.ca.x,V.sp.x],I6 0] W8 fun e w'=>e= Xl (Xm #[Xi qy.toArray,I6 5])/\zc W8 w':=zjt V nm2 0 W8 M8 HR.w (.inr (by decide))
 obtain⟨x0,x1,x2,x3,x4,x5,x6,x7,x8,x9,x10⟩:=X8.box.c11;go_wp2_with fail;refine hsy.mono ?_;clear hsy x0 x1 x2 x3 x4 x5 x6 x7 x8 x9 x10;rintro e W9 ⟨rfl,g9⟩;unfold qy;go_upto_region 6 with fail;obtain⟨W10,hW10⟩:=kB (W9.alloc (Xk zM.toArray 41));have g10:=gP hW10
 have G10:=dD (G8.trans (g9.trans g10));have y0:=(Y8.grew (g9.trans g10)).box.c 0 rfl;have d2:=(D8.grew (g9.trans g10)).box.c 2 rfl;have f5:=(F8.grew (g9.trans g10)).box.c 5 rfl;have f10:=(F8.grew (g9.trans g10)).box.c 10 rfl;simp only[Sli.x]at y0 d2 f5 f10;rw[HN3.out]at y0;rw[HN5.out]at d2;rw[HN7.out]at f5;rw[HO7.out]at f10;rw[hW10];clear hW10 g9 g10;go_wp2;go_ret;exact⟨rfl,G10⟩
theorem zgK {w:Xo} {p:Nat} (h:ChW w0 p w V m) (q:Nat) (hq:q<m.sp.length) (n:Int):
  Xq prog 108 #[Xj (Xa ⟨p,0,Xb⟩),Xi #[I6 (q:Int),I6 n]] w fun e w'=>e= Xl (enV (znW m q n))/\zc w w':=by
 obtain⟨s,hs⟩:∃s,m.sp[q]? =Xa s:=⟨_,gE hq⟩;obtain⟨xs,s1,s2,s3⟩:=h.sp;obtain⟨x,hx⟩:∃x,xs[q]? =Xa x:=⟨_,gE (by rw[s2];exact hq)⟩
 have HAT:Xp (qN w x s):=s3 q x s hx hs w (qW.refl _ _);obtain⟨xn,HXN⟩:=kA xs.length;obtain⟨g,c,heq⟩:=s1.formS (by omega)
 rw[HXN.out]at heq;have c10:=h.box.box.c 10 rfl;rw[heq]at c10 s1;have hqz:(q:Int)< (xn:Int):=by have:=HXN.out;omega
 have HC10:Xp (w.cell? ⟨p,10,Xb⟩=Xa (O (Xa ⟨g,0,Xb⟩) xn c)):=c10;have HBX:Xp (zt w p 114 (chL V m)):=h.box;have hce:zjb w ((Addr.mk g 0 Xb).add (q*10)) x:=(s1.one hx).sp10;rw[Xu,zA]at hce;have HCE:Xp (∀W,zc w W->zjb W ⟨g,q*10,Xb⟩ x):=show∀W,_ from fun W hW=>by
  have:=((s1.grew hW).one hx).sp10;rw[Xu,zA]at this;exact this
 have HVS:Xp (V.sp.x= O (Xa ⟨g,0,Xb⟩) xn c):=heq;obtain⟨E,HE⟩:=kA (znW m q n);have HG:Xp (∀W,zc w W->Xq prog 86 #[Xi #[x.t0.x,x.t1.x,x.t2.x,x.t3.x,x.t4.x,x.t5.x,x.t6.x,x.t7.x],I6 n] W fun e w'=>e= Xl (enV E)/\zc W w'):=show∀W,_ from fun W hW=>by
  have k:=Ji x.tab s.tb n W (HAT.tb.grew hW);rw[show zdn s.tb n=E from by rw[<-HE.out];unfold znW;rw[Sp.getD_of hs]]at k
  exact k
 rw[HE.out];clear h hq hs s1 s2 s3 hx heq c10 hce;obtain⟨W1,hW1⟩:=kB ((w.alloc (Xk #[I6 (q:Int),I6 n] 107)).alloc (Xk #[I6 0,I6 0,Xh Xd] 55));have G1:=gD2 hW1
 have X1:=x2a hW1
 have Y1:=x2b hW1
 have HW1:Xp (_=W1):=hW1;clear hW1
 go_enter func108,ntmps108
 go_upto_region 1 with fail;rw[HW1.out];obtain⟨b,HB⟩:=kA w.heap.size;rw[HB.out]at X1 Y1⊢;obtain⟨I,HI⟩:∃I:Xo->Prop,Xp (∀u,I u↔zc W1 u):=⟨fun u=>zc W1 u,fun _=>Iff.rfl⟩
 have hI0:I W1.drew:=(HI _).2 (gW _)
 have ht:∀y:zj I,y.world.cell? ⟨p,10,Xb⟩=Xa (O (Xa ⟨g,0,Xb⟩) xn c):=fun y=>by rw[<-HVS.out];exact(HBX.box.grew (G1.trans ((HI _).1 y.holds))).c 10 rfl
 have hx0:=X1.h HI 0 rfl
 have hx1:=X1.h HI 1 rfl
 have hce:∀y:zj I,zjb y.world ⟨g,q*10,Xb⟩ x:=fun y=>HCE.out _ (G1.trans ((HI _).1 y.holds))
 have h2:=fun y=>(hce y).2.2.1
 have h3:=fun y=>(hce y).2.2.2.1
 have h4:=fun y=>(hce y).2.2.2.2.1
 have h5:=fun y=>(hce y).2.2.2.2.2.1
 have h6:=fun y=>(hce y).2.2.2.2.2.2.1
 have h7:=fun y=>(hce y).2.2.2.2.2.2.2.1
 have h8:=fun y=>(hce y).2.2.2.2.2.2.2.2.1
 have h9:=fun y=>(hce y).2.2.2.2.2.2.2.2.2
 dsimp only at h2 h3 h4 h5 h6 h7 h8 h9;clear hce;have hne:Nonempty (zj I):=⟨⟨_,hI0⟩⟩;refine zG (I:=I) 13 [(12,fun v=>v=enV E)] (fun u=>True) hI0 trivial zW (by kernel_rfl) rfl rfl (by decide) ?hS (by kernel_rfl) ?_
 case hS=>
  intro x hx;simp only[mC,nM,or_false]at hx;subst hx;exact⟨_,rfl⟩
 simp only[Xx,Xy];iterate 1 (refine zg rfl rfl rfl (fun K hK=>?_);go_big_quiet_op;refine hK _ ?_;clear hK)
 refine zI (.tmp 5) ⟨p,0,Xb⟩ rfl rfl rfl rfl ?_;simp only[Xt,sB,sS,sZ];iterate 10 (refine zg rfl rfl rfl (fun K hK=>?_);go_big_quiet_op;refine hK _ ?_;clear hK)
 refine zH rfl rfl (fun _ u=>True) (fun w' hI' hF'=>?_) (fun v1 hv=>?_)
 ·refine zQ.call [Xi #[x.t0.x,x.t1.x,x.t2.x,x.t3.x,x.t4.x,x.t5.x,x.t6.x,x.t7.x],I6 n] rfl func86 rfl rfl rfl ?_;refine(HG w' (G1.trans ((HI _).1 hI'))).mono ?_;rintro e w'' ⟨rfl,g2⟩;exact⟨_,rfl,(HI _).2 (((HI _).1 hI').trans g2),rfl,trivial⟩
 cases hv;simp only[Xt,sB,sS,sZ];refine qj fun W8 hI8 hF8=>?_
 have G8:Xp (zc W1 W8):=(HI _).1 hI8;have Y8:=dD (Y1.grew G8);clear hI8 hF8 hI0 ht hx0 hx1 h2 h3 h4 h5 h6 h7 h8 h9 hne;unfold enV;refine zK rfl 55 (.tmp 4) (.tmp 17) rfl (b+1) rfl [I6 E.kind,I6 E.n,Xh E.wr] rfl Y8 rfl (by kernel_rfl) (by simp[Value.oneCell']) ?_
 intro W9 bx9 gr9 _;have G9:Xp (zc w W9):=dD<|ze (G1.trans G8) gr9 (by have:=HB.out;omega)
 have B9:Xp (Box W9 (b+1) [I6 E.kind,I6 E.n,Xh E.wr]):=bx9;clear bx9 gr9;go_wp2;refine bodyPost_ret (zZ rfl _ rfl B9 underlying55 rfl (by kernel_rfl)) rfl ⟨rfl,G9⟩
theorem hoF (a:Option Addr) (c:Nat) (fs:List Fr) (h:Int) (i:Nat) (q:Fr) (nn:Int) (w:Xo) (hv:qf w (O a fs.length c) fs) (hz:ZR fs h=0) (hq:fs[i]? =Xa q) (hr:(q.r == 0)=Xd) (hn:¬nn< -q.r) (hn2:¬1000 - q.r<nn) (hs:q.r+nn=0):
  Xq prog 149 #[Xi #[O a fs.length c,I6 h],I6 (i:Int),I6 nn] w fun e w'=>∃b,e= Xl (Xm #[Xi #[b,I6 h],I6 0])/\zh w.heap.size w' b (fs.set i frF)/\zc w w':=by
 have HV:Xp (qf w (O a fs.length c) fs):=hv;have HS:Xp (q.r+nn=0):=hs;clear hs;have hw:∀W,zc w W->Xq prog 152 #[Xi #[O a fs.length c,I6 h]] W fun e w'=>e= Xl (I6 (ZR fs h))/\zc W w':=fun W hW=>by rw[hz];exact Qx a c fs h W (HV.grew hW) hz
 have hbl:∀W,Xq prog 179 #[I6 (i:Int),I6 (fs.length:Int)] W fun e w'=>e= Xl (Xh (inB (i:Int) fs.length))/\w'=W:=fun W=>Ze (i:Int) _ W
 have ho:∀W,zc w W->Xq prog 58 #[Xi #[O a fs.length c,I6 h]] W fun e w'=>∃b,e= Xl (Xi #[b,I6 h])/\zh W.heap.size w' b fs/\zc W w':=fun W hW=>Jy a c fs h W (HV.grew hW)
 have hb1000:=zaD ((j2 hz).2.1 q (mG hq));have hil:i<fs.length:=(gS.1 hq).1;obtain⟨a',c',heq,hrow⟩:=hv.frs;cases heq;obtain⟨ad,rfl,hl⟩:=hrow i q hq;have HL:Xp (∀W,zc w W->ZQ W (ad.add (i*13)) q):=hl;have HQ:Xp (fs[i]? =Xa q):=hq;clear hrow hl hq;simp only[show inB (i:Int) fs.length=Xc from by simp[inB];exact hil]at hbl
 have hbig:=hv.short;clear hv;simp only[hz]at hw;clear hz;obtain⟨n,HN⟩:=kA fs.length;simp only[HN.out]at hw HV hbig hbl ho hil⊢;have hiz:(i:Int)< (n:Int):=by omega
 obtain⟨hb1,hb2⟩:=hb1000;obtain⟨W0,hW0⟩:=kB ((w.alloc (Xk #[O (Xa ad) n c,I6 h] 28)).alloc (Xk #[eS,I6 0] 28));have HG0:=gD2 hW0
 have X0:=x2a hW0
 have X2:=x2b hW0
 have HW0:Xp (_=W0):=hW0;clear hW0
 go_enter func149,ntmps149
 go_upto_region 1 with fail;rw[HW0.out];have e0:=X0.c 0 rfl;have e1:=X0.c 1 rfl;go_wp2_with fail;refine(hw _ HG0).mono ?_;rintro e W1 ⟨rfl,g1⟩;have G1:Xp (zc W0 W1):=g1;clear g1 e0 e1 hw;obtain⟨-,-,-,-,-,-,-,-,d8,-,-,-,-⟩:=HL.out W1 (HG0.trans G1);have e0:=(X0.grew G1).c 0 rfl;have e1:=(X0.grew G1).c 1 rfl
 go_wp2_with (go_at_call 179;refine(hbl _).mono ?_;rintro e w' ⟨rfl,hw'⟩;rw[hw'];clear hw' w')
 refine(ho _ (HG0.trans G1)).mono ?_;rintro e W4 ⟨b,rfl,hown,g4⟩;obtain⟨g,cv,rfl⟩:=hown.formS (by rw[HN.out];omega)
 rw[HN.out]at hown⊢;have OW:Xp (zh W1.heap.size W4 (O (Xa ⟨g,0,Xb⟩) n cv) fs):=hown;have G4:=dD (G1.trans g4);have g34:Xp (W1.heap.size<=W4.heap.size):=bS g4;clear hown g4 e0 e1 ho d8;have hgl:=OW.lt g rfl;have hne:g≠W4.heap.size:=by omega
 have u8:=(OW.grew (za W4 (Xk #[O (Xa ⟨g,0,Xb⟩) n cv,I6 h] 28))).frc HQ 8 rfl
 go_wp2_with (refine qu rfl (.tmp 61) (.tmp 59) 3 rfl W1.heap.size (O (Xa ⟨g,0,Xb⟩) n cv) fs (OW.grew (za _ _)) g i 8 rfl q { q with r:=q.r+nn } HQ.out [I6 (q.r+nn)] (by kernel_rfl) rfl (Ye rfl) (by intro u hu;simp at hu;subst hu;rfl) _ rfl (by simp) _ rfl rfl ?_)
 intro W5 ow5 gr5 sz5;have OW5:Xp (zh W1.heap.size W5 (O (Xa ⟨g,0,Xb⟩) n cv) (fs.set i { q with r:=q.r+nn })):=ow5;have h34:=g34.out;have h03:W0.heap.size<=W1.heap.size:=bS G1.out;have hx2:=X2.lt;have XO:Xp (Box W5 W4.heap.size [O (Xa ⟨g,0,Xb⟩) n cv,I6 h]):=(Box.top W4 _ _ rfl).beside gr5 (fun g' hg'=>by cases hg';omega)
 have X25:Xp (Box W5 (w.heap.size+1) [eS,I6 0]):=((X2.grew G4).alloc _).beside gr5 (fun g' hg'=>by cases hg';omega)
 have G5:Xp (zc W0 W5):=zU (G4.trans (za _ _)) gr5 (fun g' hg'=>by cases hg';omega)
 have HQ5:Xp ((fs.set i { q with r:=q.r+nn })[i]? =Xa { q with r:=q.r+nn }):=dD<|by rw[sF (by rw[HN.out];exact hil)]
 clear ow5 gr5 sz5 u8;have u8:=OW5.frc HQ5 8 rfl;have o0:=XO.c 0 rfl;have o1:=XO.c 1 rfl;have r0:=X25.c 0 rfl;have r1:=X25.c 1 rfl;have rf:=X25.f;simp only at u8;have hsb:(q.r+nn == 0)=Xc:=by simp[HS.out]
 go_wp2;have hx0:∀x:zn W5,x.world.cell? ⟨W4.heap.size,0,Xb⟩=Xa (O (Xa ⟨g,0,Xb⟩) n cv):=fun x=>(XO.grew x.grew).c 0 rfl
 have hne5:Nonempty (zn W5):=⟨⟨_,zc.refl _⟩⟩;clear u8 o0 o1 r0 r1 rf;refine qR 5 [(3,⟨fun v=>v= Xi (frv frF).toArray,fun _ _=>True⟩)] zW (by kernel_rfl) rfl rfl (by decide) ?_ ?_ ?_
 ·intro x hx
  simp at hx
  subst hx;exact⟨_,rfl⟩
 ·intro x hx
  simp at hx
  subst hx;exact fun _ _ _ _ h=>h
 simp only[Xx,Xy];iterate 3 (refine zd rfl rfl rfl (fun K hK=>?_);go_big_quiet_op;refine hK _ ?_;clear hK)
 refine zE rfl rfl (fun w' hg hF=>?_) (fun v1 hv=>?_)
 ·refine zQ.call [] rfl func169 rfl rfl rfl ?_;refine(QJ w').mono ?_;rintro e w'' ⟨rfl,hg2⟩;exact⟨_,rfl,hg2,rfl,trivial⟩
 subst hv;simp only[Xt,sB,sS,sZ,frv,frF,pg0];iterate 1 (refine zd rfl rfl rfl (fun K hK=>?_);go_big_quiet_op;refine hK _ ?_;clear hK)
 refine z6 fun W6 hg6 hF=>?_
 have OW6:=dD (OW5.grew hg6);have XO6:=dD (XO.grew hg6);have X26:=dD (X25.grew hg6);have G6:=dD (G5.trans hg6);clear hF hx0 hg6 hne5
 go_wp2_with (refine zaC rfl (.tmp 73) (.tmp 72) rfl W1.heap.size _ _ OW6 g i rfl frF (by rw[Yd,HN.out];exact hil) _ rfl (by simp) _ rfl rfl ?_)
 intro W7 ow7 gr7 sz7;have OW7:Xp (zh W1.heap.size W7 (O (Xa ⟨g,0,Xb⟩) n cv) (fs.set i frF)):=ow7;have XO7:Xp (Box W7 W4.heap.size [O (Xa ⟨g,0,Xb⟩) n cv,I6 h]):=XO6.beside gr7 (fun g' hg'=>by cases hg';omega)
 have X27:Xp (Box W7 (w.heap.size+1) [eS,I6 0]):=X26.beside gr7 (fun g' hg'=>by cases hg';omega)
 have G7:Xp (zc W0 W7):=zU G6 gr7 (fun g' hg'=>by cases hg';omega)
 clear ow7 gr7 sz7;have o0:=XO7.c 0 rfl;have o1:=XO7.c 1 rfl;have r0:=X27.c 0 rfl;have r1:=X27.c 1 rfl;have rf:=X27.f;go_wp2;refine bodyPost_ret (v:= Xm #[Xi #[O (Xa ⟨g,0,Xb⟩) n cv,I6 h],I6 0]) (by simp[results,Tryz.results149,go_sem, *]) rfl ⟨_,rfl,?_,?_⟩
 ·exact((OW7.setCell (a:=⟨w.heap.size+1,0,Xb⟩) (by show w.heap.size+1<_;omega) _).setCell (a:=⟨w.heap.size+1,1,Xb⟩) (by show w.heap.size+1<_;omega) _).base (by have:=bS HG0.out;omega)
 exact zz (zz (HG0.trans G7) (by simp) _) (by simp) _
theorem hoG (a:Option Addr) (c:Nat) (fs:List Fr) (h:Int) (i:Nat) (q:Fr) (nn:Int) (w:Xo) (hv:qf w (O a fs.length c) fs) (hz:ZR fs h=0) (hq:fs[i]? =Xa q) (hr:(q.r == 0)=Xd) (hn:¬nn< -q.r) (hn2:¬1000 - q.r<nn) (hs:(q.r+nn == 0)=Xd):
  Xq prog 149 #[Xi #[O a fs.length c,I6 h],I6 (i:Int),I6 nn] w fun e w'=>∃b,e= Xl (Xm #[Xi #[b,I6 h],I6 0])/\zh w.heap.size w' b (fs.set i { q with r:=q.r+nn })/\zc w w':=by
 have HV:Xp (qf w (O a fs.length c) fs):=hv;have hw:∀W,zc w W->Xq prog 152 #[Xi #[O a fs.length c,I6 h]] W fun e w'=>e= Xl (I6 (ZR fs h))/\zc W w':=fun W hW=>by rw[hz];exact Qx a c fs h W (HV.grew hW) hz
 have hbl:∀W,Xq prog 179 #[I6 (i:Int),I6 (fs.length:Int)] W fun e w'=>e= Xl (Xh (inB (i:Int) fs.length))/\w'=W:=fun W=>Ze (i:Int) _ W
 have ho:∀W,zc w W->Xq prog 58 #[Xi #[O a fs.length c,I6 h]] W fun e w'=>∃b,e= Xl (Xi #[b,I6 h])/\zh W.heap.size w' b fs/\zc W w':=fun W hW=>Jy a c fs h W (HV.grew hW)
 have hb1000:=zaD ((j2 hz).2.1 q (mG hq));have hil:i<fs.length:=(gS.1 hq).1;obtain⟨a',c',heq,hrow⟩:=hv.frs;cases heq;obtain⟨ad,rfl,hl⟩:=hrow i q hq;have HL:Xp (∀W,zc w W->ZQ W (ad.add (i*13)) q):=hl;have HQ:Xp (fs[i]? =Xa q):=hq;clear hrow hl hq;simp only[show inB (i:Int) fs.length=Xc from by simp[inB];exact hil]at hbl
 have hbig:=hv.short;clear hv;simp only[hz]at hw;clear hz;obtain⟨n,HN⟩:=kA fs.length;simp only[HN.out]at hw HV hbig hbl ho hil⊢;have hiz:(i:Int)< (n:Int):=by omega
 obtain⟨hb1,hb2⟩:=hb1000;obtain⟨W0,hW0⟩:=kB ((w.alloc (Xk #[O (Xa ad) n c,I6 h] 28)).alloc (Xk #[eS,I6 0] 28));have HG0:=gD2 hW0
 have X0:=x2a hW0
 have X2:=x2b hW0
 have HW0:Xp (_=W0):=hW0;clear hW0
 go_enter func149,ntmps149
 go_upto_region 1 with fail;rw[HW0.out];have e0:=X0.c 0 rfl;have e1:=X0.c 1 rfl;go_wp2_with fail;refine(hw _ HG0).mono ?_;rintro e W1 ⟨rfl,g1⟩;have G1:Xp (zc W0 W1):=g1;clear g1 e0 e1 hw;obtain⟨-,-,-,-,-,-,-,-,d8,-,-,-,-⟩:=HL.out W1 (HG0.trans G1);have e0:=(X0.grew G1).c 0 rfl;have e1:=(X0.grew G1).c 1 rfl
 go_wp2_with (go_at_call 179;refine(hbl _).mono ?_;rintro e w' ⟨rfl,hw'⟩;rw[hw'];clear hw' w')
 refine(ho _ (HG0.trans G1)).mono ?_;rintro e W4 ⟨b,rfl,hown,g4⟩;obtain⟨g,cv,rfl⟩:=hown.formS (by rw[HN.out];omega)
 rw[HN.out]at hown⊢;have OW:Xp (zh W1.heap.size W4 (O (Xa ⟨g,0,Xb⟩) n cv) fs):=hown;have G4:=dD (G1.trans g4);have g34:Xp (W1.heap.size<=W4.heap.size):=bS g4;clear hown g4 e0 e1 ho d8;have hgl:=OW.lt g rfl;have hne:g≠W4.heap.size:=by omega
 have u8:=(OW.grew (za W4 (Xk #[O (Xa ⟨g,0,Xb⟩) n cv,I6 h] 28))).frc HQ 8 rfl
 go_wp2_with (refine qu rfl (.tmp 61) (.tmp 59) 3 rfl W1.heap.size (O (Xa ⟨g,0,Xb⟩) n cv) fs (OW.grew (za _ _)) g i 8 rfl q { q with r:=q.r+nn } HQ.out [I6 (q.r+nn)] (by kernel_rfl) rfl (Ye rfl) (by intro u hu;simp at hu;subst hu;rfl) _ rfl (by simp) _ rfl rfl ?_)
 intro W5 ow5 gr5 sz5;have OW5:Xp (zh W1.heap.size W5 (O (Xa ⟨g,0,Xb⟩) n cv) (fs.set i { q with r:=q.r+nn })):=ow5;have h34:=g34.out;have h03:W0.heap.size<=W1.heap.size:=bS G1.out;have hx2:=X2.lt;have XO:Xp (Box W5 W4.heap.size [O (Xa ⟨g,0,Xb⟩) n cv,I6 h]):=(Box.top W4 _ _ rfl).beside gr5 (fun g' hg'=>by cases hg';omega)
 have X25:Xp (Box W5 (w.heap.size+1) [eS,I6 0]):=((X2.grew G4).alloc _).beside gr5 (fun g' hg'=>by cases hg';omega)
 have G5:Xp (zc W0 W5):=zU (G4.trans (za _ _)) gr5 (fun g' hg'=>by cases hg';omega)
 have HQ5:Xp ((fs.set i { q with r:=q.r+nn })[i]? =Xa { q with r:=q.r+nn }):=dD<|by rw[sF (by rw[HN.out];exact hil)]
 clear ow5 gr5 sz5 u8;have u8:=OW5.frc HQ5 8 rfl;have o0:=XO.c 0 rfl;have o1:=XO.c 1 rfl;have r0:=X25.c 0 rfl;have r1:=X25.c 1 rfl;have rf:=X25.f;simp only at u8;go_wp2;refine bodyPost_ret (v:= Xm #[Xi #[O (Xa ⟨g,0,Xb⟩) n cv,I6 h],I6 0]) (by simp[results,Tryz.results149,go_sem, *]) rfl ⟨_,rfl,?_,?_⟩
 ·exact((OW5.setCell (a:=⟨w.heap.size+1,0,Xb⟩) (by show w.heap.size+1<_;omega) _).setCell (a:=⟨w.heap.size+1,1,Xb⟩) (by show w.heap.size+1<_;omega) _).base (by have:=bS HG0.out;omega)
 exact zz (zz (HG0.trans G5) (by simp) _) (by simp) _
theorem ziq {fs:List Fr} {h k nn:Int} (he:zef fs h k nn=0):∃(i:Nat) (q:Fr),k=(i:Int)/\fs[i]? =Xa q/\ZR fs h=0/\q.r≠0/\-q.r<=nn/\nn<=1000 - q.r/\zee fs h k nn=fs.set i (frH q nn)/\znS fs h k nn=h:=by
 have he0:=he;unfold zef at he
 split at he
 ·rename_i h0
  split at he
  ·rename_i h1
   simp only[inB,Bool.and_eq_true,decide_eq_true_eq,Bool.not_eq_true',beq_eq_false_iff_ne]at h1;obtain⟨⟨h2,h3⟩,h4⟩:=h1
   split at he
   ·rename_i h5
    have hl:k.toNat<fs.length:=by omega
    have e:fs.getD k.toNat fr0=fs[k.toNat]:=by rw[gD,gE hl];rfl
    rw[e]at h4 h5;refine⟨k.toNat,fs[k.toNat],by omega,gE hl,h0,h4,h5.1,h5.2,?_,?_⟩
    ·unfold zee;rw[kE he0,e]
    unfold znS;rw[kE he0]
   cases he
  cases he
 rename_i h0
 exact absurd he h0
theorem zlX (a:Option Addr) (c:Nat) (fs:List Fr) (h k nn:Int) (w:Xo) (hv:qf w (O a fs.length c) fs) (he:zef fs h k nn=0):
  Xq prog 149 #[Xi #[O a fs.length c,I6 h],I6 k,I6 nn] w fun e w'=>∃b,e= Xl (Xm #[Xi #[b,I6 h],I6 0])/\zh w.heap.size w' b (zee fs h k nn)/\zc w w':=by
 obtain⟨i,q,rfl,hq,hm,hr,h1,h2,hf,_⟩:=ziq he;rw[hf]
 by_cases hs:q.r+nn=0
 ·rw[show frH q nn=frF from kE hs]
  exact hoF a c fs h i q nn w hv hm hq (by simpa using hr) (by omega) (by omega) hs
 rw[show frH q nn={ q with r:=q.r+nn }from kF hs]
 exact hoG a c fs h i q nn w hv hm hq (by simpa using hr) (by omega) (by omega) (by simpa using hs)
def zcP (w0:Xo) (p:Nat) (w:Xo) (V:MaV) (m':Ma) (w':Xo):Prop:=∃V':MaV,V'.ca=V.ca/\ChW w0 p w' V' m'/\qW (Dw p V) w w'/\∀k,Dw p V' k->Dw p V k\/w.heap.size<=k
section
variable{w0 w w1 w2:Xo} {p:Nat} {V V':MaV} {m m':Ma}
theorem zcP.chg (h:zcP w0 p w V m' w1):Chg w0 p w V m' w1:=by
 obtain⟨V1,_,h⟩:=h;exact⟨V1,h⟩
theorem zcP.refl (h:ChW w0 p w V m) (g:zc w w1):zcP w0 p w V m w1:=⟨V,rfl,h.grew g,qW.grew g,fun _ hk=> .inl hk⟩
theorem zcP.of_grew (g:zc w w1) (h:zcP w0 p w1 V m' w2):zcP w0 p w V m' w2:=by
 obtain⟨V2,e,c2,o2,d2⟩:=h;exact⟨V2,e,c2,(qW.grew g).trans o2,Chg.far g d2⟩
theorem zcP.step {V1:MaV} (o1:qW (Dw p V) w w1) (d1:∀k,Dw p V1 k->Dw p V k\/w.heap.size<=k) (h1:V1.ca=V.ca) (h2:zcP w0 p w1 V1 m' w2):zcP w0 p w V m' w2:=by
 obtain⟨V2,e2,c2,o2,d2⟩:=h2;refine⟨V2,e2.trans h1,c2,⟨o2.os.trans o1.os,o2.tape.trans o1.tape,o2.output.trans o1.output,nT o1.size o2.size,fun b hb hn=>(o2.block b (Yf hb o1.size) (fun e=>?_)).trans (o1.block b hb hn)⟩,fun k hk=>?_⟩
 ·rcases d1 b e with e|e
  ·exact hn e
  omega
 rcases d2 k hk with e|e
 ·exact d1 k e
 exact .inr (nT o1.size e)
theorem ChW.fieldC (h:ChW w0 p w V m) (g1:zc w w1) (g2:w1.grownBy w2 (Xa p)) (hf:V'.f=V.f) (hc:V'.ca=V.ca) (hs:V'.sp=V.sp) (mf:m'.fs=m.fs) (mc:m'.ca=m.ca) (ms:m'.sp=m.sp) (bx:zt w2 p 114 (chL V' m')) (rs:∀W,qW (Dr w0.heap.size p V) w W->qW (Dr w0.heap.size p V) w1 W->zi6 W V m->zi6 W V' m'):zcP w0 p w V m' w2:=by
 have o:qW (Dw p V) w w2:=(qW.grew g1).trans (qW.grown g2 (.inl rfl));have hdw:Dw p V'=Dw p V:=by unfold Dw;rw[hf,hc,hs]
 have hdr:Dr w0.heap.size p V'=Dr w0.heap.size p V:=by unfold Dr;rw[hdw]
 obtain⟨xs,s1,s2,s3⟩:=h.sp;refine⟨V',hc,⟨h.grOut o,h.lo,bx,?_,?_,⟨xs,?_,by rw[ms];exact s2,fun i x s hx hs' W hW=>?_⟩,fun W hW=>?_⟩,o,fun k hk=> .inl (by rw[hdw]at hk;exact hk)⟩
 ·rw[hf,mf];exact(h.fs.grew g1).grown g2 (fun g hg e=>h.nf g hg (by cases e;rfl))
 ·rw[hc,mc];exact(h.ca.grew g1).grown g2 (fun g hg e=>h.nc g hg (by cases e;rfl))
 ·rw[hs];exact(s1.grew g1).grown g2 (fun g hg e=>h.ns g hg (by cases e;rfl))
 ·rw[hdr]at hW;rw[ms]at hs';exact s3 i x s hx hs' W ((o.wide fun k hk=> .inr hk).trans hW)
 rw[hdr]at hW;exact rs W ((o.wide fun k hk=> .inr hk).trans hW) (((qW.grown g2 (.inr (.inl rfl)))).trans hW) (h.rest W ((o.wide fun k hk=> .inr hk).trans hW))
end
theorem zlA {fs:List Fl} {cnt k:Int} (h:stW fs cnt≠0):zk6 fs cnt k=stW fs cnt:=by unfold zk6;rw[kF h]
theorem zjN {fs:List Fl} {cnt k:Int} (h:stW fs cnt=0) (h1:¬(0<=k/\k< (fs.length:Int))):zk6 fs cnt k=5:=by unfold zk6;rw[kE h,kF (by rw[Zu];exact h1)]
theorem zdT {fs:List Fl} {cnt:Int} {i:Nat} {f:Fl} (h:stW fs cnt=0) (h1:fs[i]? =Xa f):zk6 fs cnt (i:Int)=0:=by
 have:=(gS.1 h1).1;unfold zk6;rw[kE h,kE (Zu.2 ⟨by omega,by omega⟩)]
theorem zdj {fs:List Fl} {m:Nat}:je fs m=(Zc fs (m:Int)).map fun(b:Nat)=>(b:Int):=zin fs m
theorem zgW (v:Xr) (fs:List Fl) (cnt k x:Int) (w:Xo) (hv:qh w v fs):
  Xq prog 199 #[Xi #[v,I6 cnt],I6 k,I6 x] w fun e w'=>∃b,e= Xl (Xm #[Xi #[b,I6 (zja fs cnt k x)],I6 (zgX fs cnt k x),I6 (QY fs cnt k x)])/\ja 0 w.heap.size w' b (zeu fs cnt k x)/\zc w w':=by
 have h1:∀W,zc w W->Xq prog 225 #[Xi #[v,I6 cnt],I6 k] W fun e w'=>e= Xl (I6 (zk6 fs cnt k))/\zc W w':=fun W hW=>zeA v fs cnt k W (hv.grew hW)
 have h2:∀W,zc w W->Xq prog 61 #[Xi #[v,I6 cnt]] W fun e w'=>∃b,e= Xl (Xi #[b,I6 cnt])/\qU (W.heap.size+2) w' b fs/\zc W w'/\W.heap.size+2<=w'.heap.size:=fun W hW=>zb6 v fs cnt W (hv.grew hW)
 have HV:Xp (qh w v fs):=hv;obtain⟨a,c,rfl,hbig,hrow⟩:=hv.rows;have HR:Xp (Qv w a fs):=hrow;clear hv hrow;obtain⟨nF,HN⟩:=kA fs.length;rw[HN.out]at h1 h2 hbig HV⊢;obtain⟨W0,hW0⟩:=kB ((w.alloc (Xk #[O a nF c,I6 cnt] 37)).alloc (Xk #[eS,I6 0] 37));have HG0:=gD2 hW0
 have X0:=x2a hW0
 have Y0:=x2b hW0
 have HW0:Xp (_=W0):=hW0;clear hW0;have bad:∀z:Int,z≠0->(∀W,zc w W->Xq prog 225 #[Xi #[O a nF c,I6 cnt],I6 k] W fun e w'=>e= Xl (I6 z)/\zc W w')->Xq prog 199 #[Xi #[O a nF c,I6 cnt],I6 k,I6 x] w fun e w'=>∃b,e= Xl (Xm #[Xi #[b,I6 0],I6 0,I6 z])/\ja 0 w.heap.size w' b []/\zc w w':=fun z hz h1=>by
  have hzb:(z != 0)=Xc:=by simpa using hz
  clear h2
  go_enter func199,ntmps199
  go_wp2_with fail;rw[HW0.out];refine(h1 _ HG0).mono ?_;rintro e W1 ⟨rfl,g1⟩;have G1:=dD (HG0.trans g1);have Y1:=Y0.grew g1;have y0:=Y1.c 0 rfl;have y1:=Y1.c 1 rfl;have yf:=Y1.f;clear g1 h1;go_wp2;refine bodyPost_ret (v:= Xm #[Xi #[eS,I6 0],I6 0,I6 z]) (by simp[results,Tryz.results199,go_sem, *]) rfl ⟨_,rfl,ja.nil _ _ _,?_⟩
  exact Below.setCell (Below.setCell G1 (p:=⟨w.heap.size+1,0,Xb⟩) (by simp) _) (p:=⟨w.heap.size+1,1,Xb⟩) (by simp) _
 rcases zkW fs cnt k x with⟨hw,e1,e2,e3,e4⟩|⟨hw,hk,e1,e2,e3,e4⟩|⟨hw,i,f,rfl,hf,hn,e1,e2,e3,e4⟩|⟨hw,i,f,j,b,rfl,hf,rfl,hj,hb0,hbc,e1,e2,e3,e4⟩|⟨hw,i,f,j,rfl,hf,rfl,hj,hlf,e1,e2,e3,e4⟩|⟨hw,i,f,j,b,l,rfl,hf,rfl,hj,hlf,e1,e2,e3,e4⟩
 ·rw[e1,e2,e3,e4];rw[zlA hw]at h1;exact bad _ hw h1
 ·rw[e1,e2,e3,e4];rw[zjN hw hk]at h1;exact bad _ (by decide) h1
 ·rw[e1,e2,e3,e4];rw[zdT hw hf]at h1;have hil:i<nF:=by rw[<-HN.out];exact(gS.1 hf).1
  have hilz:(i:Int)< (nF:Int):=by omega
  obtain⟨ad,hada,xa0,xc0,hra,hce⟩:=HR.out i f hf;subst hada;have HCE:Xp (∀W,zc w W->zac W (ad.add (i*2)) f.size (O xa0 f.bl.length xc0)):=hce;clear hce hra bad;obtain⟨nb,HNB⟩:=kA f.bl.length;have HF:Xp (fs[i]? =Xa f):=hf;clear hf;rw[HNB.out]at HCE;have hb:=fun W=>zaI hn W
  rw[HNB.out]at hb;clear e1 e2 e3 e4 h2 hw hn
  go_enter func199,ntmps199
  go_wp2_with fail;rw[HW0.out];refine(h1 _ HG0).mono ?_;rintro e W1 ⟨rfl,g1⟩;have G1:=dD (HG0.trans g1);have x0:=(X0.grew g1).c 0 rfl;obtain⟨d0,d1⟩:=HCE.out W1 G1.out;have Y1:=Y0.grew g1;have y0:=Y1.c 0 rfl;have y1:=Y1.c 1 rfl;have yf:=Y1.f;clear g1 h1
  go_wp2_with (go_at_call 170;refine(hb _).mono ?_;rintro e w' ⟨rfl,hw'⟩;rw[hw'];clear hw' w')
  refine bodyPost_ret (v:= Xm #[Xi #[eS,I6 0],I6 0,I6 9]) (by simp[results,Tryz.results199,go_sem, *]) rfl ⟨_,rfl,ja.nil _ _ _,?_⟩
  exact Below.setCell (Below.setCell G1 (p:=⟨w.heap.size+1,0,Xb⟩) (by simp) _) (p:=⟨w.heap.size+1,1,Xb⟩) (by simp) _
 ·rw[e1,e2,e3,e4];rw[zdT hw hf]at h1;have hil:i<nF:=by rw[<-HN.out];exact(gS.1 hf).1
  have hilz:(i:Int)< (nF:Int):=by omega
  obtain⟨ad,hada,xa0,xc0,hra,hce⟩:=HR.out i f hf;subst hada;have HCE:Xp (∀W,zc w W->zac W (ad.add (i*2)) f.size (O xa0 f.bl.length xc0)):=hce;clear hce hra bad;obtain⟨nb,HNB⟩:=kA f.bl.length;have HF:Xp (fs[i]? =Xa f):=hf;clear hf;rw[HNB.out]at HCE;have hjl:j<nb:=by rw[<-HNB.out];exact(gS.1 hj).1
  have hjz:(j:Int)< (nb:Int):=by omega
  have hb:=fun W=>Zn (m:=(j:Int)) (n:=(nb:Int)) (by omega) (by omega) W
  have HJ:Xp (f.bl[j]? =Xa b):=hj;have hbb:(b == -1)=Xd:=by simp;omega
  clear hb0 hbc;clear e1 e2 e3 e4 hw hj
  go_enter func199,ntmps199
  go_wp2_with fail;rw[HW0.out];refine(h1 _ HG0).mono ?_;rintro e W1 ⟨rfl,g1⟩;have G1:=dD (HG0.trans g1);have X1:=dD (X0.grew g1);have Y1:=dD (Y0.grew g1);have x0:=X1.c 0 rfl;have x1:=X1.c 1 rfl;obtain⟨d0,d1⟩:=HCE.out W1 G1.out;clear g1 h1
  go_wp2_with (go_at_call 170;refine(hb _).mono ?_;rintro e w' ⟨rfl,hw'⟩;rw[hw'];clear hw' w')
  refine(h2 _ G1).mono ?_;rintro e W2 ⟨b1,rfl,of2,g2,s2⟩;have HB2:Xp (w.heap.size+2<=W1.heap.size):=Y1.lt;obtain⟨xs,k1,k2,k3,k4⟩:=of2;obtain⟨q,hx⟩:∃q,xs[i]? =Xa q:=⟨_,gE (by rw[k2,HN.out];exact hil)⟩
  obtain⟨G,bc,rfl⟩:=k1.formS (by rw[k2,HN.out];omega)
  rw[k2,HN.out]at k1⊢;obtain⟨q1,q2⟩:=k3 i q f hx HF.out;obtain⟨xs0,xa,xn,xc⟩:=q;obtain⟨g,qc,q3⟩:=q2.formS (by rw[HNB.out];omega)
  rw[HNB.out]at q3;have q4:O xa xn xc= O (Xa ⟨g,0,Xb⟩) nb qc:=q3;cases q4;have HX:Xp (xs[i]? =Xa ⟨xs0,Xa ⟨g,0,Xb⟩,nb,xc⟩):=hx;have HXS:Xp (xs0=f.size):=q1;have K1:Xp (zb fvE (W1.heap.size+2) W2 (O (Xa ⟨G,0,Xb⟩) nF bc) xs):=k1;have K2:Xp (xs.length=fs.length):=k2;have K3:Xp (∀(i:Nat) x f,xs[i]? =Xa x->fs[i]? =Xa f->x.size=f.size/\zb blE (W1.heap.size+2) W2 x.v f.bl):=k3;have K4:Xp (∀(i j:Nat) x y,i≠j->xs[i]? =Xa x->xs[j]? =Xa y->∀g,x.v.ownBlock=Xa g->y.v.ownBlock≠Xa g):=k4;have KX:Xp (zb blE (W1.heap.size+2) W2 (O (Xa ⟨g,0,Xb⟩) nb xc) f.bl):=q2;have G2:=dD (G1.trans g2);have HS2:Xp (W1.heap.size+2<=W2.heap.size):=s2;have G12:Xp (zc W1 W2):=g2;clear g2 s2 h2 x0 x1 d0 d1 k1 k2 k3 k4 q1 q2 q3 hx hb;go_upto_region 7 with fail;obtain⟨po,hpo⟩:=kB W2.heap.size;obtain⟨W3,hW3⟩:=kB (W2.alloc (Xk #[O (Xa ⟨G,0,Xb⟩) nF bc,I6 cnt] 37));have G23:=gA hW3
  have P3:Xp (zt W3 po 37 [O (Xa ⟨G,0,Xb⟩) nF bc,I6 cnt]):=dD<|by rw[<-hW3];exact zt.top _ _ _ hpo.symm
  have X3:=dD ((X1.grew G12).grew G23);have Y3:=dD ((Y1.grew G12).grew G23);have HPO:Xp (W1.heap.size+2<=po):=show _<=_ by rw[<-hpo];exact HS2.out
  have HP3:Xp (po<W3.heap.size):=P3.box.lt;have G3:=dD (G2.trans G23);have KF3:=dD (K1.grew G23);have KX3:=dD (KX.grew G23);rw[hW3];rw[hpo];clear hW3 hpo;have HCX:Xp (∀W,zc W3 W->W.cell? ⟨G,i*2+1,Xb⟩=Xa (O (Xa ⟨g,0,Xb⟩) nb xc)):=show∀W,_ from fun W hW=>by
   obtain⟨a0,c0,hsl,hrows⟩:=(KF3.grew hW).at.rows;obtain⟨ad,had,hce⟩:=hrows i _ HX.out;cases hsl;cases had;have:=hce _ (zc.refl _) 1 _ rfl;rw[zX,Xu,zA]at this;exact this
  have HCB:Xp (∀W,zc W3 W->W.cell? ⟨g,j,Xb⟩=Xa (I6 b)):=dD<|fun W hW=>by
   obtain⟨a0,c0,hsl,hrows⟩:=(KX3.grew hW).at.nums;obtain⟨ad,had,hce⟩:=hrows j _ HJ.out;cases hsl;cases had;have:=hce _ (zc.refl _);rw[Xu,zA]at this;exact this
  have p0:=P3.box.c 0 rfl;have d1:=HCX.out W3 (zc.refl _);have d2:=HCB.out W3 (zc.refl _);have F3:Xp (ja 0 (W1.heap.size+2) W3 (O (Xa ⟨G,0,Xb⟩) nF bc) fs):=dD<|(qU.grew ⟨xs,K1,K2,K3,K4⟩ G23).new
  have p1:=P3.box.c 1 rfl;have y0:=Y3.c 0 rfl;have y1:=Y3.c 1 rfl;have yf:=Y3.f;have hne2:po≠w.heap.size+1:=by have:=HPO.out;have:=HB2.out;omega
  have hne2':¬w.heap.size+1=po:=fun e=>hne2 e.symm
  have hne3:g≠w.heap.size+1:=by have:=(KX3.lt g rfl).1;have:=HB2.out;omega
  have hne3':¬w.heap.size+1=g:=fun e=>hne3 e.symm
  go_wp2
  go_region
  all_goals go_wp2
  all_goals
   refine bodyPost_ret (v:= Xm #[Xi #[O (Xa ⟨G,0,Xb⟩) nF bc,I6 cnt],I6 b,I6 0]) (by simp[results,Tryz.results199,go_sem, *]) rfl ⟨_,rfl,?_,?_⟩
   ·have F6:=F3.less (A0:=0) (A1:=w.heap.size+2) (nR _) (by have:=HB2.out;omega)
    exact(((F6.out (Out.setCell _ _ _ (p:=⟨w.heap.size+1,0,Xb⟩) (nZ _) (by simp) _)).out (Out.setCell _ _ _ (p:=⟨w.heap.size+1,1,Xb⟩) (nZ _) (by simp) _)).less (nR _) (by omega)).grew (gW _)
   exact(Below.setCell (Below.setCell G3 (p:=⟨w.heap.size+1,0,Xb⟩) (by simp) _) (p:=⟨w.heap.size+1,1,Xb⟩) (by simp) _).drew
 ·rw[e1,e2,e3,e4];rw[zdT hw hf]at h1;have hil:i<nF:=by rw[<-HN.out];exact(gS.1 hf).1
  have hilz:(i:Int)< (nF:Int):=by omega
  obtain⟨ad,hada,xa0,xc0,hra,hce⟩:=HR.out i f hf;subst hada;have HCE:Xp (∀W,zc w W->zac W (ad.add (i*2)) f.size (O xa0 f.bl.length xc0)):=hce;clear hce hra bad;obtain⟨nb,HNB⟩:=kA f.bl.length;have HF:Xp (fs[i]? =Xa f):=hf;clear hf;rw[HNB.out]at HCE;have hjl:j<nb:=by rw[<-HNB.out];exact(gS.1 hj).1
  have hjz:(j:Int)< (nb:Int):=by omega
  have hb:=fun W=>Zn (m:=(j:Int)) (n:=(nb:Int)) (by omega) (by omega) W
  have HJ:Xp (f.bl[j]? =Xa (-1)):=hj;obtain⟨mc,hmc⟩:∃mc:Nat,cnt=(mc:Int):=⟨cnt.toNat,by have:=((qi fs cnt).1 hw).1;omega⟩
  subst hmc;have hmc80:mc<=80:=by have:=((qi fs (mc:Int)).1 hw).1;omega
  have h3:∀W,zc w W->Xq prog 226 #[Xi #[O (Xa ad) nF c,I6 (mc:Int)]] W fun e w'=>∃b,e= Xl b/\zb blE (W.heap.size+1) w' b (je fs mc)/\zc W w':=fun W hW=>zhq _ fs mc hmc80 W (HV.grew hW)
  rw[zdj,hlf]at h3;clear hmc80 hlf;simp only[Xw]at h3;clear e1 e2 e3 e4 hw hj
  go_enter func199,ntmps199
  go_wp2_with fail;rw[HW0.out];refine(h1 _ HG0).mono ?_;rintro e W1 ⟨rfl,g1⟩;have G1:=dD (HG0.trans g1);have X1:=dD (X0.grew g1);have Y1:=dD (Y0.grew g1);have x0:=X1.c 0 rfl;have x1:=X1.c 1 rfl;obtain⟨d0,d1⟩:=HCE.out W1 G1.out;clear g1 h1
  go_wp2_with (go_at_call 170;refine(hb _).mono ?_;rintro e w' ⟨rfl,hw'⟩;rw[hw'];clear hw' w')
  refine(h2 _ G1).mono ?_;rintro e W2 ⟨b1,rfl,of2,g2,s2⟩;have HB2:Xp (w.heap.size+2<=W1.heap.size):=Y1.lt;obtain⟨xs,k1,k2,k3,k4⟩:=of2;obtain⟨q,hx⟩:∃q,xs[i]? =Xa q:=⟨_,gE (by rw[k2,HN.out];exact hil)⟩
  obtain⟨G,bc,rfl⟩:=k1.formS (by rw[k2,HN.out];omega)
  rw[k2,HN.out]at k1⊢;obtain⟨q1,q2⟩:=k3 i q f hx HF.out;obtain⟨xs0,xa,xn,xc⟩:=q;obtain⟨g,qc,q3⟩:=q2.formS (by rw[HNB.out];omega)
  rw[HNB.out]at q3;have q4:O xa xn xc= O (Xa ⟨g,0,Xb⟩) nb qc:=q3;cases q4;have HX:Xp (xs[i]? =Xa ⟨xs0,Xa ⟨g,0,Xb⟩,nb,xc⟩):=hx;have HXS:Xp (xs0=f.size):=q1;have K1:Xp (zb fvE (W1.heap.size+2) W2 (O (Xa ⟨G,0,Xb⟩) nF bc) xs):=k1;have K2:Xp (xs.length=fs.length):=k2;have K3:Xp (∀(i:Nat) x f,xs[i]? =Xa x->fs[i]? =Xa f->x.size=f.size/\zb blE (W1.heap.size+2) W2 x.v f.bl):=k3;have K4:Xp (∀(i j:Nat) x y,i≠j->xs[i]? =Xa x->xs[j]? =Xa y->∀g,x.v.ownBlock=Xa g->y.v.ownBlock≠Xa g):=k4;have KX:Xp (zb blE (W1.heap.size+2) W2 (O (Xa ⟨g,0,Xb⟩) nb xc) f.bl):=q2;have G2:=dD (G1.trans g2);have HS2:Xp (W1.heap.size+2<=W2.heap.size):=s2;have G12:Xp (zc W1 W2):=g2;clear g2 s2 h2 x0 x1 d0 d1 k1 k2 k3 k4 q1 q2 q3 hx hb;go_upto_region 7 with fail;obtain⟨po,hpo⟩:=kB W2.heap.size;obtain⟨W3,hW3⟩:=kB (W2.alloc (Xk #[O (Xa ⟨G,0,Xb⟩) nF bc,I6 (mc:Int)] 37));have G23:=gA hW3
  have P3:Xp (zt W3 po 37 [O (Xa ⟨G,0,Xb⟩) nF bc,I6 (mc:Int)]):=dD<|by rw[<-hW3];exact zt.top _ _ _ hpo.symm
  have X3:=dD ((X1.grew G12).grew G23);have Y3:=dD ((Y1.grew G12).grew G23);have HPO:Xp (W1.heap.size+2<=po):=show _<=_ by rw[<-hpo];exact HS2.out
  have HP3:Xp (po<W3.heap.size):=P3.box.lt;have G3:=dD (G2.trans G23);have KF3:=dD (K1.grew G23);have KX3:=dD (KX.grew G23);rw[hW3];rw[hpo];clear hW3 hpo;have HCX:Xp (∀W,zc W3 W->W.cell? ⟨G,i*2+1,Xb⟩=Xa (O (Xa ⟨g,0,Xb⟩) nb xc)):=show∀W,_ from fun W hW=>by
   obtain⟨a0,c0,hsl,hrows⟩:=(KF3.grew hW).at.rows;obtain⟨ad,had,hce⟩:=hrows i _ HX.out;cases hsl;cases had;have:=hce _ (zc.refl _) 1 _ rfl;rw[zX,Xu,zA]at this;exact this
  have HCB:Xp (∀W,zc W3 W->W.cell? ⟨g,j,Xb⟩=Xa (I6 (-1))):=dD<|fun W hW=>by
   obtain⟨a0,c0,hsl,hrows⟩:=(KX3.grew hW).at.nums;obtain⟨ad,had,hce⟩:=hrows j _ HJ.out;cases hsl;cases had;have:=hce _ (zc.refl _);rw[Xu,zA]at this;exact this
  have p0:=P3.box.c 0 rfl;have d1:=HCX.out W3 (zc.refl _);have d2:=HCB.out W3 (zc.refl _);have x0:=X3.c 0 rfl;have x1:=X3.c 1 rfl;go_wp2_with fail;refine(h3 _ G3).mono ?_;rintro e W4 ⟨fr,rfl,ow,g4⟩;obtain⟨fa,fc,rfl⟩:=ow.form;have G4:=dD (G3.trans g4);have Y4:=dD (Y3.grew g4);clear ow g4 h3 x0 x1 p0 d1 d2;have y0:=Y4.c 0 rfl;have y1:=Y4.c 1 rfl;have yf:=Y4.f;simp only[List.length_nil];go_wp2;refine bodyPost_ret (v:= Xm #[Xi #[eS,I6 0],I6 0,I6 10]) (by simp[results,Tryz.results199,go_sem, *]) rfl ⟨_,rfl,ja.nil _ _ _,?_⟩
  exact Below.setCell (Below.setCell G4 (p:=⟨w.heap.size+1,0,Xb⟩) (by simp) _) (p:=⟨w.heap.size+1,1,Xb⟩) (by simp) _
 rw[e1,e2,e3,e4];rw[zdT hw hf]at h1;have hil:i<nF:=by rw[<-HN.out];exact(gS.1 hf).1
 have hilz:(i:Int)< (nF:Int):=by omega
 obtain⟨ad,hada,xa0,xc0,hra,hce⟩:=HR.out i f hf;subst hada;have HCE:Xp (∀W,zc w W->zac W (ad.add (i*2)) f.size (O xa0 f.bl.length xc0)):=hce;clear hce hra bad;obtain⟨nb,HNB⟩:=kA f.bl.length;have HF:Xp (fs[i]? =Xa f):=hf;clear hf;rw[HNB.out]at HCE;have hjl:j<nb:=by rw[<-HNB.out];exact(gS.1 hj).1
 have hjz:(j:Int)< (nb:Int):=by omega
 have hb:=fun W=>Zn (m:=(j:Int)) (n:=(nb:Int)) (by omega) (by omega) W
 have HJ:Xp (f.bl[j]? =Xa (-1)):=hj;obtain⟨mc,hmc⟩:∃mc:Nat,cnt=(mc:Int):=⟨cnt.toNat,by have:=((qi fs cnt).1 hw).1;omega⟩
 subst hmc;have hmc80:mc<=80:=by have:=((qi fs (mc:Int)).1 hw).1;omega
 have h3:∀W,zc w W->Xq prog 226 #[Xi #[O (Xa ad) nF c,I6 (mc:Int)]] W fun e w'=>∃b,e= Xl b/\zb blE (W.heap.size+1) w' b (je fs mc)/\zc W w':=fun W hW=>zhq _ fs mc hmc80 W (HV.grew hW)
 rw[zdj,hlf]at h3;clear hmc80 hlf;rw[mP]at h3;obtain⟨lz,HLZ⟩:=kA ((b:Int) ::(l.map fun(b:Nat)=>(b:Int)))
 rw[HLZ.out]at h3;have HL0:Xp (lz[0]? =Xa (b:Int)):=dD<|by rw[<-HLZ.out];rfl
 have HL1:Xp (0<lz.length):=dD<|by rw[<-HLZ.out];simp
 clear e1 e2 e3 e4 hw hj
 go_enter func199,ntmps199
 go_wp2_with fail;rw[HW0.out];refine(h1 _ HG0).mono ?_;rintro e W1 ⟨rfl,g1⟩;have G1:=dD (HG0.trans g1);have X1:=dD (X0.grew g1);have Y1:=dD (Y0.grew g1);have x0:=X1.c 0 rfl;have x1:=X1.c 1 rfl;obtain⟨d0,d1⟩:=HCE.out W1 G1.out;clear g1 h1
 go_wp2_with (go_at_call 170;refine(hb _).mono ?_;rintro e w' ⟨rfl,hw'⟩;rw[hw'];clear hw' w')
 refine(h2 _ G1).mono ?_;rintro e W2 ⟨b1,rfl,of2,g2,s2⟩;have HB2:Xp (w.heap.size+2<=W1.heap.size):=Y1.lt;obtain⟨xs,k1,k2,k3,k4⟩:=of2;obtain⟨q,hx⟩:∃q,xs[i]? =Xa q:=⟨_,gE (by rw[k2,HN.out];exact hil)⟩
 obtain⟨G,bc,rfl⟩:=k1.formS (by rw[k2,HN.out];omega)
 rw[k2,HN.out]at k1⊢;obtain⟨q1,q2⟩:=k3 i q f hx HF.out;obtain⟨xs0,xa,xn,xc⟩:=q;obtain⟨g,qc,q3⟩:=q2.formS (by rw[HNB.out];omega)
 rw[HNB.out]at q3;have q4:O xa xn xc= O (Xa ⟨g,0,Xb⟩) nb qc:=q3;cases q4;have HX:Xp (xs[i]? =Xa ⟨xs0,Xa ⟨g,0,Xb⟩,nb,xc⟩):=hx;have HXS:Xp (xs0=f.size):=q1;have K1:Xp (zb fvE (W1.heap.size+2) W2 (O (Xa ⟨G,0,Xb⟩) nF bc) xs):=k1;have K2:Xp (xs.length=fs.length):=k2;have K3:Xp (∀(i:Nat) x f,xs[i]? =Xa x->fs[i]? =Xa f->x.size=f.size/\zb blE (W1.heap.size+2) W2 x.v f.bl):=k3;have K4:Xp (∀(i j:Nat) x y,i≠j->xs[i]? =Xa x->xs[j]? =Xa y->∀g,x.v.ownBlock=Xa g->y.v.ownBlock≠Xa g):=k4;have KX:Xp (zb blE (W1.heap.size+2) W2 (O (Xa ⟨g,0,Xb⟩) nb xc) f.bl):=q2;have G2:=dD (G1.trans g2);have HS2:Xp (W1.heap.size+2<=W2.heap.size):=s2;have G12:Xp (zc W1 W2):=g2;clear g2 s2 h2 x0 x1 d0 d1 k1 k2 k3 k4 q1 q2 q3 hx hb;go_upto_region 7 with fail;obtain⟨po,hpo⟩:=kB W2.heap.size;obtain⟨W3,hW3⟩:=kB (W2.alloc (Xk #[O (Xa ⟨G,0,Xb⟩) nF bc,I6 (mc:Int)] 37));have G23:=gA hW3
 have P3:Xp (zt W3 po 37 [O (Xa ⟨G,0,Xb⟩) nF bc,I6 (mc:Int)]):=dD<|by rw[<-hW3];exact zt.top _ _ _ hpo.symm
 have X3:=dD ((X1.grew G12).grew G23);have Y3:=dD ((Y1.grew G12).grew G23);have HPO:Xp (W1.heap.size+2<=po):=show _<=_ by rw[<-hpo];exact HS2.out
 have HP3:Xp (po<W3.heap.size):=P3.box.lt;have G3:=dD (G2.trans G23);have KF3:=dD (K1.grew G23);have KX3:=dD (KX.grew G23);rw[hW3];rw[hpo];clear hW3 hpo;have HCX:Xp (∀W,zc W3 W->W.cell? ⟨G,i*2+1,Xb⟩=Xa (O (Xa ⟨g,0,Xb⟩) nb xc)):=show∀W,_ from fun W hW=>by
  obtain⟨a0,c0,hsl,hrows⟩:=(KF3.grew hW).at.rows;obtain⟨ad,had,hce⟩:=hrows i _ HX.out;cases hsl;cases had;have:=hce _ (zc.refl _) 1 _ rfl;rw[zX,Xu,zA]at this;exact this
 have HCB:Xp (∀W,zc W3 W->W.cell? ⟨g,j,Xb⟩=Xa (I6 (-1))):=dD<|fun W hW=>by
  obtain⟨a0,c0,hsl,hrows⟩:=(KX3.grew hW).at.nums;obtain⟨ad,had,hce⟩:=hrows j _ HJ.out;cases hsl;cases had;have:=hce _ (zc.refl _);rw[Xu,zA]at this;exact this
 have p0:=P3.box.c 0 rfl;have d1:=HCX.out W3 (zc.refl _);have d2:=HCB.out W3 (zc.refl _);have x0:=X3.c 0 rfl;have x1:=X3.c 1 rfl;go_wp2_with fail;refine(h3 _ G3).mono ?_;rintro e W4 ⟨fr,rfl,ow,g4⟩;obtain⟨gf,fc,rfl⟩:=ow.formS HL1.out;have f0:W4.cell? ⟨gf,0,Xb⟩=Xa (I6 (b:Int)):=by
  obtain⟨a0,c0,hsl,hrows⟩:=ow.at.nums;obtain⟨ad,had,hce⟩:=hrows 0 _ HL0.out;cases hsl;cases had;have:=hce _ (zc.refl _);rw[Xu,zA]at this;exact this
 have G4:=dD (G3.trans g4);have G34:Xp (zc W3 W4):=g4;have KX4:=dD (KX3.grew g4);have KF4:=dD (KF3.grew g4);have P4:=dD (P3.grew g4);have Y4:=dD (Y3.grew g4);have hgb:W1.heap.size+2<=g:=(KX3.lt g rfl).1;obtain⟨nl,HNL⟩:=kA lz.length;have hnl:0<nl:=by rw[<-HNL.out];exact HL1.out
 have hnlz:(0:Int)< (nl:Int):=by omega
 have hnlb:((nl:Int) == 0)=Xd:=by simp;omega
 rw[HNL.out];clear ow g4 h3 x0 x1 p0 d1 d2
 go_wp2_with (refine jm (E:=blE) rfl (.tmp 55) (.tmp 54) rfl (W1.heap.size+2) _ f.bl KX4 g j rfl (b:Int) ?t1 ⟨g,j,Xb⟩ rfl ?t2 (I6 (b:Int)) rfl rfl ?_)
 case t1=>rw[HNB.out];exact hjl
 case t2=>show _=Addr.mk g (j*1) Xb;rw[Nat.mul_one]
 intro W5 ow5 gr5 _;have KX5:Xp (zb blE (W1.heap.size+2) W5 (O (Xa ⟨g,0,Xb⟩) nb xc) (f.bl.set j (b:Int))):=ow5;have P5:Xp (Box W5 po [O (Xa ⟨G,0,Xb⟩) nF bc,I6 (mc:Int)]):=P4.box.grown gr5 (fun e=>KX4.ne P4 (by decide) g rfl e)
 have Y5:Xp (Box W5 (w.heap.size+1) [eS,I6 0]):=Y4.grown gr5 (by have:=HB2.out;omega)
 have G5:Xp (zc w W5):=dD<|ze G4 gr5 (by have:=HB2.out;omega)
 have F5:Xp (ja 0 (W1.heap.size+2) W5 (O (Xa ⟨G,0,Xb⟩) nF bc) (fs.set i ⟨f.size,f.bl.set j (b:Int)⟩)):=dD<|by
  have of5:=KF4.grown gr5 (fun g' hg' e'=>by cases e';exact KF4.apart KX4 (Ne.symm zeL) g hg' rfl)
  refine⟨of5.cap,xs,of5.new.stays,by simp[K2.out],fun p q f' hq hf'=>?_⟩
  by_cases e:p=i
  ·subst e;rw[sF (by rw[HN.out];exact hil)]at hf'
   rw[HX.out]at hq;cases hq;cases hf';exact⟨HXS,KX5.new.stays⟩
  rw[sN (fun h=>e h.symm)]at hf'
  obtain⟨q1,q2⟩:=K3.out p q f' hq hf';have o4:=q2.grew (G23.trans G34);exact⟨q1,(o4.grown gr5 (fun g' hg' e'=>by cases e';exact K4 i p _ q (fun h=>e h.symm) HX hq g rfl hg')).new.stays⟩
 have d2:W5.cell? ⟨g,j,Xb⟩=Xa (I6 (b:Int)):=by
  obtain⟨a0,c0,hsl,hrows⟩:=ow5.at.nums;obtain⟨ad,had,hce⟩:=hrows j (b:Int) (by rw[sF (by rw[HNB.out];exact hjl)])
  cases hsl;cases had;have:=hce _ (zc.refl _);rw[Xu,zA]at this;exact this
 clear ow5 gr5 f0;have p0:=P5.c 0 rfl;have p1:=P5.c 1 rfl;have y0:=Y5.c 0 rfl;have y1:=Y5.c 1 rfl;have yf:=Y5.f;have hne2:po≠w.heap.size+1:=by have:=HPO.out;have:=HB2.out;omega
 have hne2':¬w.heap.size+1=po:=fun e=>hne2 e.symm
 have hne3:g≠w.heap.size+1:=by have:=HB2.out;omega
 have hne3':¬w.heap.size+1=g:=fun e=>hne3 e.symm
 go_wp2
 go_region
 all_goals go_wp2
 all_goals
  refine bodyPost_ret (v:= Xm #[Xi #[O (Xa ⟨G,0,Xb⟩) nF bc,I6 (mc:Int)],I6 (b:Int),I6 0]) (by simp[results,Tryz.results199,go_sem, *]) rfl ⟨_,rfl,?_,?_⟩
  ·have F6:=F5.less (A0:=0) (A1:=w.heap.size+2) (nR _) (by have:=HB2.out;omega)
   exact(((F6.out (Out.setCell _ _ _ (p:=⟨w.heap.size+1,0,Xb⟩) (nZ _) (by simp) _)).out (Out.setCell _ _ _ (p:=⟨w.heap.size+1,1,Xb⟩) (nZ _) (by simp) _)).less (nR _) (by omega)).grew (gW _)
  exact(Below.setCell (Below.setCell G5 (p:=⟨w.heap.size+1,0,Xb⟩) (by simp) _) (p:=⟨w.heap.size+1,1,Xb⟩) (by simp) _).drew
section
variable{w0 w w1 w2:Xo} {p:Nat} {V:MaV} {m:Ma}
theorem ChW.setFl (h:ChW w0 p w V m) {b:Sli} {fl:List Fl} {c:Int} (g1:zc w w1) (hB:w.heap.size<=B) (nr:ja 0 B w1 (b.x) fl) (g2:w1.grownBy w2 (Xa p)) (bx:zt w2 p 114 (chL { V with fl:=b } { m with fl:=fl,cnt:=c })):zcP w0 p w V { m with fl:=fl,cnt:=c } w2:=
 h.fieldC (V':={ V with fl:=b }) (m':={ m with fl:=fl,cnt:=c }) g1 g2 rfl rfl rfl rfl rfl rfl bx (fun W _ o r=>⟨r.sl,r.sb,r.sq,r.db,r.dq,(nr.out ⟨o.os,o.tape,o.output,o.size,fun k hk hn=>o.block k hk (fun e=>by have:=h.drt k e;omega)⟩).now0⟩)
theorem ChW.setDk (h:ChW w0 p w V m) {d q:Sli} {db:List (List Int)} {dq:List (Int × List Int)} (g1:zc w w1) (hB:w.heap.size<=B) (nr:qg B w1 (Xi #[d.x,q.x]) db dq) (g2:w1.grownBy w2 (Xa p)) (bx:zt w2 p 114 (chL { V with db:=d,dq:=q } { m with db:=db,dq:=dq })):zcP w0 p w V { m with db:=db,dq:=dq } w2:=
 h.fieldC (V':={ V with db:=d,dq:=q }) (m':={ m with db:=db,dq:=dq }) g1 g2 rfl rfl rfl rfl rfl rfl bx (fun W _ o r=>by
  have k:=(nr.staysD (fun k hk=>by have:=h.drt k hk;omega) o).rows
  exact⟨r.sl,r.sb,r.sq,k.1,k.2,r.fl⟩)
end
def wrM (m:Ma) (pg:List Int) (file idx:Int):Ma:=
 if QY m.fl m.cnt file idx=0 then{ m with fl:=zeu m.fl m.cnt file idx,cnt:=zja m.fl m.cnt file idx,db:=qZ m.db m.dq (zgX m.fl m.cnt file idx),dq:=jb m.db m.dq (zgX m.fl m.cnt file idx) pg }else m
theorem zcB {w:Xo} {p:Nat} (h:ChW w0 p w V m) (pg:List Int) (hp:pg.length=8) (file idx:Int):
  Xq prog 166 #[Xj (Xa ⟨p,0,Xb⟩),Xi (pgc pg).toArray,I6 file,I6 idx] w fun e w'=>e= Xl (Xh (decide (QY m.fl m.cnt file idx=0)))/\zcP w0 p w V (wrM m pg file idx) w':=by
 have HM:Xp (ChW w0 p w V m):=h;obtain⟨E,HE⟩:=kA (QY m.fl m.cnt file idx);obtain⟨C,HC⟩:=kA (zja m.fl m.cnt file idx);obtain⟨B,HB⟩:=kA (zgX m.fl m.cnt file idx);have HC1:Xp (∀W,zc w W->Xq prog 199 #[Xi #[V.fl.x,I6 m.cnt],I6 file,I6 idx] W fun e w'=>∃b:Sli,e= Xl (Xm #[Xi #[b.x,I6 C],I6 B,I6 E])/\ja 0 W.heap.size w' (b.x) (zeu m.fl m.cnt file idx)/\zc W w'):=show∀W,_ from fun W hW=>by
  rw[<-HE.out,<-HC.out,<-HB.out];refine(zgW _ m.fl m.cnt file idx W (h.at.grew hW).fl).mono ?_;rintro e w' ⟨b,rfl,nr,g⟩;obtain⟨a,c,rfl,_⟩:=qh.rows nr.now0;exact⟨⟨a,_,c⟩,rfl,nr,g⟩
 have HWM:Xp (E=0->wrM m pg file idx={({ m with fl:=zeu m.fl m.cnt file idx,cnt:=C }:Ma)with db:=qZ m.db m.dq B,dq:=jb m.db m.dq B pg }):=dD<|fun h=>by
  unfold wrM;rw[kE (HE.trans h),HC.out,HB.out]
 have HWN:Xp (E≠0->wrM m pg file idx=m):=dD<|fun h=>by
  unfold wrM;rw[kF (fun e=>h (HE.symm.trans e))]
 rw[HE.out];obtain⟨R,HRR⟩:=kA (decide (E=0));rw[HRR.out];have hpl:p<w.heap.size:=h.dlt p (.inl rfl);obtain⟨N,HN⟩:=kA (wrM m pg file idx);rw[HN.out]at HWM HWN⊢;obtain⟨p0,p1,p2,p3,p4,p5,p6,p7,hpe⟩:=zdZ pg hp;have HPE:Xp (pg=[p0,p1,p2,p3,p4,p5,p6,p7]):=hpe;have hpc:pgc pg=[U8 p0,U8 p1,U8 p2,U8 p3,U8 p4,U8 p5,U8 p6,U8 p7]:=by rw[hpe];rfl
 rw[hpc];clear h hp hpe hpc;obtain⟨b,HB⟩:=kA w.heap.size;obtain⟨W1,hW1⟩:=kB (w.alloc (Xk #[U8 p0,U8 p1,U8 p2,U8 p3,U8 p4,U8 p5,U8 p6,U8 p7] 44));have G1:=gA hW1
 have Y1:=xP hW1 HB
 have HW1:Xp (_=W1):=hW1;clear hW1;rw[HB.out]at hpl
 go_enter func166,ntmps166
 go_upto_region 1 with fail;rw[HW1.out,HB.out];have x7:=(HM.box.box.grew G1).c 7 rfl;have x8:=(HM.box.box.grew G1).c 8 rfl;have hc:=HC1.out W1 G1.out;go_wp2_with fail;refine hc.mono ?_;clear hc x7 x8;rintro e W2 ⟨f,rfl,nr,g2⟩;have F2:Xp (ja 0 W1.heap.size W2 (f.x) (zeu m.fl m.cnt file idx)):=nr;have G2:Xp (zc W1 W2):=g2;clear nr g2;go_upto_region 2 with fail;obtain⟨c,HC⟩:=kA W2.heap.size;obtain⟨W3,hW3⟩:=kB (W2.alloc (Xk #[f.x,I6 C] 37));have G3:=gA hW3
 have Z3:=xP hW3 HC
 rw[hW3,HC.out];clear hW3
 by_cases hz:E=0
 rotate_left
 ·have hze:(E != 0)=Xc:=by simp[hz]
  have HR:Xp (R=Xd):=HRR.symm.trans (decide_eq_false hz);have HN:Xp (N=m):=HWN.out hz;clear hz;go_wp2;go_ret;exact⟨by rw[HR.out];rfl,by rw[HN.out];exact zcP.refl HM (G1.trans (G2.trans G3))⟩
 have hze:(E != 0)=Xd:=by simp[hz]
 have HR:Xp (R=Xc):=HRR.symm.trans (decide_eq_true hz);have HN:Xp (N=_):=HWM.out hz;clear hz;have G13:=dD (G1.trans (G2.trans G3));have z0:=Z3.c 0 rfl;have z1:=Z3.c 1 rfl;have BX:=dD (HM.box.grew G13)
 go_upto_region 5 with(refine ZF rfl 37 (.tmp 30) (.tmp 27) rfl p 7 rfl (Xi #[f.x,I6 C]) rfl [f.x,I6 C] rfl BX (by simp[chL]) (by kernel_rfl) (by simp[Value.oneCell']) ?_)
 intro W4 bx4 gr4 _;have Y4:Xp (Box W4 b [U8 p0,U8 p1,U8 p2,U8 p3,U8 p4,U8 p5,U8 p6,U8 p7]):=dD<|(Y1.grew (G2.trans G3)).grown gr4 (by omega)
 obtain⟨V4,e4,m4,o4,d4⟩:=HM.setFl G13 (bS G1) (F2.grew G3) gr4 bx4;have E4:Xp (V4.ca=V.ca):=e4;have M4:Xp (ChW w0 p W4 V4 { m with fl:=zeu m.fl m.cnt file idx,cnt:=C }):=m4;have O4:Xp (qW (Dw p V) w W4):=o4;have D4:Xp (∀k,Dw p V4 k->Dw p V k\/w.heap.size<=k):=d4;have HW:Xp (∀W,zc W4 W->Xq prog 195 #[Xi #[V4.db.x,V4.dq.x],I6 B,Xi #[U8 p0,U8 p1,U8 p2,U8 p3,U8 p4,U8 p5,U8 p6,U8 p7]] W fun e w'=>∃d q:Sli,e= Xl (Xm #[Xi #[d.x,q.x],I6 (zo m.db.length m.dq B)])/\qg W.heap.size w' (Xi #[d.x,q.x]) (qZ m.db m.dq B) (jb m.db m.dq B pg)/\zc W w'):=show∀W,_ from fun W hW=>by
  have k:=zeC (Xi #[V4.db.x,V4.dq.x]) m.db m.dq B pg (by rw[HPE.out];rfl) W ⟨_,_,rfl,(m4.at.grew hW).db,(m4.at.grew hW).dq⟩
  rw[show pgc pg=[U8 p0,U8 p1,U8 p2,U8 p3,U8 p4,U8 p5,U8 p6,U8 p7] by rw[HPE.out];rfl]at k
  refine k.mono ?_;rintro e w' ⟨dd,rfl,nd,g⟩;obtain⟨d,q,rfl,_,_⟩:=nd.form;exact⟨d,q,rfl,nd,g⟩
 have hpw:p<W4.heap.size:=m4.dlt p (.inl rfl);clear bx4 gr4 m4 o4 d4 e4 z0 z1;try simp only[Xt]
 go_upto_region 5 with fail;obtain⟨EW,HEW⟩:=kA (zo m.db.length m.dq B);rw[HEW.out]at HW;obtain⟨I,HI⟩:∃I:Xo->Prop,Xp (∀u,I u↔Box u b [U8 p0,U8 p1,U8 p2,U8 p3,U8 p4,U8 p5,U8 p6,U8 p7]):=⟨fun u=>Box u b [U8 p0,U8 p1,U8 p2,U8 p3,U8 p4,U8 p5,U8 p6,U8 p7],fun _=>Iff.rfl⟩
 have hI0:I W4.drew:=(HI _).2 (Y4.grew (gW _))
 have hF0:zc W4 W4.drew:=show Below _ _ _ from(bR _ _).drew
 have hy0:∀y:zj I,y.world.cell? ⟨b,0,Xb⟩=Xa (U8 p0):=fun y=>((HI _).1 y.holds).c 0 rfl
 have hy1:∀y:zj I,y.world.cell? ⟨b,1,Xb⟩=Xa (U8 p1):=fun y=>((HI _).1 y.holds).c 1 rfl
 have hy2:∀y:zj I,y.world.cell? ⟨b,2,Xb⟩=Xa (U8 p2):=fun y=>((HI _).1 y.holds).c 2 rfl
 have hy3:∀y:zj I,y.world.cell? ⟨b,3,Xb⟩=Xa (U8 p3):=fun y=>((HI _).1 y.holds).c 3 rfl
 have hy4:∀y:zj I,y.world.cell? ⟨b,4,Xb⟩=Xa (U8 p4):=fun y=>((HI _).1 y.holds).c 4 rfl
 have hy5:∀y:zj I,y.world.cell? ⟨b,5,Xb⟩=Xa (U8 p5):=fun y=>((HI _).1 y.holds).c 5 rfl
 have hy6:∀y:zj I,y.world.cell? ⟨b,6,Xb⟩=Xa (U8 p6):=fun y=>((HI _).1 y.holds).c 6 rfl
 have hy7:∀y:zj I,y.world.cell? ⟨b,7,Xb⟩=Xa (U8 p7):=fun y=>((HI _).1 y.holds).c 7 rfl
 have hne:Nonempty (zj I):=⟨⟨_,hI0⟩⟩;refine zG (I:=I) 16 [(5,fun v=>v= Xi #[V4.db.x,V4.dq.x]),(8,fun v=>∃d q:Sli,v= Xm #[Xi #[d.x,q.x],I6 EW]),(15,fun _=>True)] (fun u=>zc W4 u) hI0 hF0 zW (by kernel_rfl) rfl rfl (by decide) ?hS (by kernel_rfl) ?_
 case hS=>
  intro x hx;simp only[mC,nM,or_false]at hx
  rcases hx with rfl|rfl|rfl
  ·exact⟨_,rfl⟩
  ·exact⟨_,zy,zy,rfl⟩
  exact⟨undef,trivial⟩
 simp only[Xx,Xy];iterate 2 (refine zg rfl rfl rfl (fun K hK=>?_);go_big_quiet_op;refine hK _ ?_;clear hK)
 refine zI (.tmp 33) ⟨p,0,Xb⟩ rfl rfl rfl rfl ?_;simp only[Xt,sB,sS,sZ];iterate 2 (refine zg rfl rfl rfl (fun K hK=>?_);go_big_quiet_op;refine hK _ ?_;clear hK)
 refine zH rfl rfl (fun _ u=>zc W4 u) (fun w' hI' hF'=>?_) (fun v1 hv=>?_)
 ·refine zcA 34 (.tmp 36) rfl p 5 rfl [V4.db.x,V4.dq.x] ((M4.box.box.grew hF').mid 5 (fun j v hj=>by
   match j,hj with
   | 0,hj=>exact hj
   | 1,hj=>exact hj)) underlying34 rfl (by kernel_rfl) ⟨hI',rfl,hF'⟩
 cases hv;simp only[Xt,sB,sS,sZ];iterate 2 (refine zg rfl rfl rfl (fun K hK=>?_);go_big_quiet_op;refine hK _ ?_;clear hK)
 refine zH rfl rfl (fun v u=>∃(d q:Sli) (Wa:Xo),v= Xm #[Xi #[d.x,q.x],I6 EW]/\zc W4 Wa/\zc Wa u/\qg Wa.heap.size u (Xi #[d.x,q.x]) (qZ m.db m.dq B) (jb m.db m.dq B pg)) (fun w' hI' hF'=>?_) (fun v1 hv=>?_)
 ·refine zQ.call [Xi #[V4.db.x,V4.dq.x],I6 B,Xi #[U8 p0,U8 p1,U8 p2,U8 p3,U8 p4,U8 p5,U8 p6,U8 p7]] rfl func195 rfl rfl rfl ?_;refine(HW w' hF').mono ?_;rintro e w'' ⟨d,q,rfl,t2,g2⟩;exact⟨_,rfl,(HI _).2 (((HI _).1 hI').grew g2),⟨d,q,rfl⟩,d,q,w',rfl,hF',g2,t2⟩
 obtain⟨d,q,rfl⟩:=hv;simp only[Xt,sB,sS,sZ];iterate 3 (refine zg rfl rfl rfl (fun K hK=>?_);go_big_quiet_op;refine hK _ ?_;clear hK)
 refine zI (.tmp 32) ⟨p,0,Xb⟩ rfl rfl rfl rfl ?_;simp only[Xt,sB,sS,sZ];iterate 2 (refine zg rfl rfl rfl (fun K hK=>?_);go_big_quiet_op;refine hK _ ?_;clear hK)
 refine zH rfl rfl (fun _ u=>zcP w0 p w V {({ m with fl:=zeu m.fl m.cnt file idx,cnt:=C }:Ma)with db:=qZ m.db m.dq B,dq:=jb m.db m.dq B pg } u) (fun w' hI' hF'=>?_) (fun v1 hv=>?_)
 ·obtain⟨d',q',Wa,he,ga,gb,t8⟩:=hF';have hss:d'=d/\q'=q:=by
   obtain⟨a1,a2,a3⟩:=d;obtain⟨b1,b2,b3⟩:=d';obtain⟨e1,e2,e3⟩:=q;obtain⟨f1,f2,f3⟩:=q';simp only[Value.tuple.injEq,Array.mk.injEq,List.cons.injEq,Value.agg.injEq,vJ,and_true]at he;obtain⟨⟨rfl,rfl,rfl⟩,rfl,rfl,rfl⟩:=he;exact⟨rfl,rfl⟩
  obtain⟨rfl,rfl⟩:=hss;have G8:zc W4 w':=ga.trans gb;refine ZM 34 (.tmp 45) (.tmp 41) rfl p 5 rfl (Xi #[d'.x,q'.x]) rfl [d'.x,q'.x] rfl (M4.box.grew G8) (by simp[chL]) (by kernel_rfl) (by simp[Value.oneCell']) ?_
  intro W9 bx9 gr9 _;exact⟨(HI _).2 (((HI _).1 hI').grown gr9 (by omega)),trivial,zcP.step O4 D4 E4 (M4.setDk G8 (bS ga) t8 gr9 bx9)⟩
 clear hv;try simp only[Xt]
 refine qj fun W9 hI8 hF8=>?_
 have M9:Xp (zcP w0 p w V {({ m with fl:=zeu m.fl m.cnt file idx,cnt:=C }:Ma)with db:=qZ m.db m.dq B,dq:=jb m.db m.dq B pg } W9):=hF8;clear hI8 hF8 hI0 hF0 hy0 hy1 hy2 hy3 hy4 hy5 hy6 hy7 hne;go_wp2;go_ret;exact⟨by rw[HR.out];rfl,by rw[HN.out];exact M9⟩
theorem zbh {w:Xo} {p:Nat} (h:ChW w0 p w V m) (f:Fr) (fi ix:Nat) (F:Fl) (hf:f.f=(fi:Int)) (hx:f.x=(ix:Int)) (hF:m.fl[fi]? =Xa F) (hs:0<=F.size/\F.size<=96) (hi:ix<=12):
  Xq prog 167 #[Xj (Xa ⟨p,0,Xb⟩),Xi (frv f).toArray] w fun e w'=>e= Xl (Xi (pgc (Qr (pgL f.p) (ix:Int) F.size)).toArray)/\(Qr (pgL f.p) (ix:Int) F.size).length=8/\zc w w':=by
 have HM:Xp (ChW w0 p w V m):=h;obtain⟨a,c,hfe,_,hfr⟩:=qh.rows h.at.fl;simp only[vJ]at hfe;obtain⟨hfa,hfn,hfc⟩:=hfe;obtain⟨ad,ha,xa,xc,_,hcl⟩:=hfr fi F hF;have HFA:Xp (V.fl.a=Xa ad):=hfa.trans ha;have hlt:(fi:Int)< (V.fl.n:Int):=by
  have:=(gS.1 hF).1;omega
 obtain⟨s,HSZ⟩:=kA F.size;rw[HSZ.out]at hs⊢;have HCC:Xp (∀W,zc w W->W.cell? (ad.add (fi*2))=Xa (I6 s)):=dD<|fun W hW=>by
  have:=(hcl W hW).1;rw[HSZ.out]at this;exact this
 have hc8:(Qr (pgL f.p) (ix:Int) s).length=8:=by unfold Qr;simp[pgL]
 have HC:Xp (∀W,Xq prog 200 #[Xi (pgc (pgL f.p)).toArray,I6 (s -(ix:Int)*8)] W fun e w'=>e= Xl (Xi (pgc (Qr (pgL f.p) (ix:Int) s)).toArray)/\zc W w'):=dD<|fun W=>by
  have k:=zb4 (pgL f.p) (s -(ix:Int)*8) W rfl (by omega) (by omega)
  rw[zkI]at k;exact k.mono fun e w' q=>⟨q.1,q.2.2⟩
 obtain⟨c0,c1,c2,c3,c4,c5,c6,c7,hce⟩:=zdZ _ hc8;rw[hce]at HC⊢;obtain⟨⟨b0,b1,b2,b3,b4,b5,b6,b7⟩,fr,fu,fd,ff,fx⟩:=f;dsimp only at hf hx;subst hf;subst hx;simp only[pgL,pgc,frv,mP,Xw]at HC⊢;have HL8:Xp ([c0,c1,c2,c3,c4,c5,c6,c7].length=8):=dD<|rfl
 clear h hfa hfn hfc ha hcl hfr hF hc8 hce;obtain⟨b,HB⟩:=kA w.heap.size;obtain⟨W1,hW1⟩:=kB ((w.alloc (Xk #[U8 b0,U8 b1,U8 b2,U8 b3,U8 b4,U8 b5,U8 b6,U8 b7,I6 fr,Xh fu,Xh fd,I6 (fi:Int),I6 (ix:Int)] 53)).alloc (Xk #[U8 0,U8 0,U8 0,U8 0,U8 0,U8 0,U8 0,U8 0] 44));have G1:=gD2 hW1
 have Y1:Xp (Box W1 b [U8 b0,U8 b1,U8 b2,U8 b3,U8 b4,U8 b5,U8 b6,U8 b7,I6 fr,Xh fu,Xh fd,I6 (fi:Int),I6 (ix:Int)]):=dD<|by rw[<-hW1];exact(Box.top _ _ _ HB.symm).alloc _
 have Z1:Xp (zt W1 (b+1) 44 (pgc zx)):=dD<|by rw[<-hW1];exact zt.top _ (pgc zx) _ (by simp[HB.out])
 have HW1:Xp (_=W1):=hW1;clear hW1
 go_enter func167,ntmps167
 go_upto_region 1 with fail;rw[HW1.out,HB.out];have gd:zc W1 W1.drew:=show Below _ _ _ from(bR _ _).drew
 obtain⟨I,HI⟩:∃I:Xo->Prop,Xp (∀u,I u↔(Box u b [U8 b0,U8 b1,U8 b2,U8 b3,U8 b4,U8 b5,U8 b6,U8 b7,I6 fr,Xh fu,Xh fd,I6 (fi:Int),I6 (ix:Int)])/\u.cell? ⟨p,7,Xb⟩=Xa (O (Xa ad) V.fl.n V.fl.c)/\u.cell? (ad.add (fi*2))=Xa (I6 s)):=⟨fun u=>_,fun _=>Iff.rfl⟩
 have x7:∀W,zc w W->W.cell? ⟨p,7,Xb⟩=Xa (O (Xa ad) V.fl.n V.fl.c):=fun W hW=>by
  have:=(HM.box.box.grew hW).c 7 rfl;simp only[Sli.x]at this;rw[HFA.out]at this;exact this
 have X7:Xp (∀W,zc w W->W.cell? ⟨p,7,Xb⟩=Xa (O (Xa ad) V.fl.n V.fl.c)):=dD<|x7
 clear x7;have hI0:I W1.drew:=(HI _).2 ⟨Y1.grew gd,X7 _ (G1.trans gd),HCC _ (G1.trans gd)⟩;have hF0:zc W1 W1.drew:=gd;have hy0:∀y:zj I,y.world.cell? ⟨b,0,Xb⟩=Xa (U8 b0):=fun y=>((HI _).1 y.holds).1.c 0 rfl
 have hy1:∀y:zj I,y.world.cell? ⟨b,1,Xb⟩=Xa (U8 b1):=fun y=>((HI _).1 y.holds).1.c 1 rfl
 have hy2:∀y:zj I,y.world.cell? ⟨b,2,Xb⟩=Xa (U8 b2):=fun y=>((HI _).1 y.holds).1.c 2 rfl
 have hy3:∀y:zj I,y.world.cell? ⟨b,3,Xb⟩=Xa (U8 b3):=fun y=>((HI _).1 y.holds).1.c 3 rfl
 have hy4:∀y:zj I,y.world.cell? ⟨b,4,Xb⟩=Xa (U8 b4):=fun y=>((HI _).1 y.holds).1.c 4 rfl
 have hy5:∀y:zj I,y.world.cell? ⟨b,5,Xb⟩=Xa (U8 b5):=fun y=>((HI _).1 y.holds).1.c 5 rfl
 have hy6:∀y:zj I,y.world.cell? ⟨b,6,Xb⟩=Xa (U8 b6):=fun y=>((HI _).1 y.holds).1.c 6 rfl
 have hy7:∀y:zj I,y.world.cell? ⟨b,7,Xb⟩=Xa (U8 b7):=fun y=>((HI _).1 y.holds).1.c 7 rfl
 have hyf:∀y:zj I,y.world.cell? ⟨b,11,Xb⟩=Xa (I6 (fi:Int)):=fun y=>((HI _).1 y.holds).1.c 11 rfl
 have hyx:∀y:zj I,y.world.cell? ⟨b,12,Xb⟩=Xa (I6 (ix:Int)):=fun y=>((HI _).1 y.holds).1.c 12 rfl
 have hyp:∀y:zj I,y.world.cell? ⟨p,7,Xb⟩=Xa (O (Xa ad) V.fl.n V.fl.c):=fun y=>((HI _).1 y.holds).2.1
 have hys:∀y:zj I,y.world.cell? (ad.add (fi*2))=Xa (I6 s):=fun y=>((HI _).1 y.holds).2.2
 have hne:Nonempty (zj I):=⟨⟨_,hI0⟩⟩;refine zG (I:=I) 19 [(17,fun v=>v= Xi #[U8 c0,U8 c1,U8 c2,U8 c3,U8 c4,U8 c5,U8 c6,U8 c7]),(18,fun _=>True)] (fun u=>zc W1 u) hI0 hF0 zW (by kernel_rfl) rfl rfl (by decide) ?hS (by kernel_rfl) ?_
 case hS=>
  intro x hx;simp only[mC,nM,or_false]at hx
  rcases hx with rfl|rfl
  ·exact⟨_,rfl⟩
  exact⟨undef,trivial⟩
 simp only[Xx,Xy];iterate 3 (refine zg rfl rfl rfl (fun K hK=>?_);go_big_quiet_op;refine hK _ ?_;clear hK)
 refine zI (.tmp 7) ⟨p,0,Xb⟩ rfl rfl rfl rfl ?_;simp only[Xt,sB,sS,sZ];iterate 13 (refine zg rfl rfl rfl (fun K hK=>?_);go_big_quiet_op;refine hK _ ?_;clear hK)
 refine zH rfl rfl (fun _ u=>zc W1 u) (fun w' hI' hF'=>?_) (fun v1 hv=>?_)
 ·refine zQ.call [Xi #[U8 b0,U8 b1,U8 b2,U8 b3,U8 b4,U8 b5,U8 b6,U8 b7],I6 (s -(ix:Int)*8)] rfl func200 rfl rfl rfl ?_;refine(HC w').mono ?_;rintro e w'' ⟨rfl,g2⟩;obtain⟨i1,i2,i3⟩:=(HI _).1 hI';have gg:=G1.trans (hF'.trans g2);exact⟨_,rfl,(HI _).2 ⟨i1.grew g2,X7 _ gg,HCC _ gg⟩,rfl,hF'.trans g2⟩
 subst hv;simp only[Xt,sB,sS,sZ];refine zH rfl rfl (fun _ u=>zc w u/\Box u (b+1) (pgc [c0,c1,c2,c3,c4,c5,c6,c7])) (fun w' hI' hF'=>?_) (fun v1 hv=>?_)
 ·refine ZM 44 (.tmp 4) (.tmp 22) rfl (b+1) 0 rfl (Xi #[U8 c0,U8 c1,U8 c2,U8 c3,U8 c4,U8 c5,U8 c6,U8 c7]) rfl [U8 c0,U8 c1,U8 c2,U8 c3,U8 c4,U8 c5,U8 c6,U8 c7] rfl (Z1.grew hF') (by simp[pgc,zx]) (by kernel_rfl) (by simp[Value.oneCell']) ?_
  intro W9 bx9 gr9 _;have g9:zc w W9:=ze (G1.trans hF') gr9 (by have:=HB.out;omega)
  obtain⟨i1,i2,i3⟩:=(HI _).1 hI';exact⟨(HI _).2 ⟨i1.grown gr9 (by omega),X7 _ g9,HCC _ g9⟩,trivial,g9,bx9.box⟩
 clear hv;try simp only[Xt]
 refine qj fun W9 hI8 hF8=>?_
 have G9:Xp (zc w W9):=hF8.1;have B9:Xp (Box W9 (b+1) (pgc [c0,c1,c2,c3,c4,c5,c6,c7])):=hF8.2;clear hI8 hF8 hI0 hF0 hy0 hy1 hy2 hy3 hy4 hy5 hy6 hy7 hyf hyx hyp hys hne gd;go_wp2;refine bodyPost_ret (zZ rfl _ rfl B9 underlying44 rfl zoI) rfl ⟨rfl,by first | trivial | rfl,G9⟩
theorem zmo {w:Xo} {p:Nat} (h:ChW w0 p w V m) (k:Nat) (f:Fr) (hk:m.fs[k]? =Xa f) (fi ix:Nat) (F:Fl) (hf:f.f=(fi:Int)) (hx:f.x=(ix:Int)) (hF:m.fl[fi]? =Xa F) (hs:0<=F.size/\F.size<=96) (hi:ix<=12):
  Xq prog 119 #[Xj (Xa ⟨p,0,Xb⟩),I6 (k:Int)] w fun e w'=>e= Xl (Xh (decide (QY m.fl m.cnt fi ix=0)))/\zcP w0 p w V (wrM m (Qr (pgL f.p) (ix:Int) F.size) fi ix) w':=by
 have HM:Xp (ChW w0 p w V m):=h;have HCI:Xp (∀W,zc w W->Xq prog 167 #[Xj (Xa ⟨p,0,Xb⟩),Xi (frv f).toArray] W fun e w'=>e= Xl (Xi (pgc (Qr (pgL f.p) (ix:Int) F.size)).toArray)/\zc W w'):=show∀W,_ from fun W hW=>(zbh (h.grew hW) f fi ix F hf hx hF hs hi).mono fun e w' q=>⟨q.1,q.2.2⟩
 have hc8:(Qr (pgL f.p) (ix:Int) F.size).length=8:=by unfold Qr;simp[pgL]
 obtain⟨N,HN⟩:=kA (wrM m (Qr (pgL f.p) (ix:Int) F.size) fi ix);obtain⟨R,HR⟩:=kA (decide (QY m.fl m.cnt fi ix=0));have HCW:Xp (∀W,zc w W->Xq prog 166 #[Xj (Xa ⟨p,0,Xb⟩),Xi (pgc (Qr (pgL f.p) (ix:Int) F.size)).toArray,I6 (fi:Int),I6 (ix:Int)] W fun e w'=>e= Xl (Xh R)/\zcP w0 p W V N w'):=dD<|fun W hW=>by
  rw[<-HN.out,<-HR.out];exact zcB (h.grew hW) _ hc8 (fi:Int) (ix:Int)
 rw[HN.out,HR.out];have hpl:¬Dw p V w.heap.size:=fun e=>absurd (h.dlt _ e) (by omega)
 obtain⟨n1,-⟩:=h.at.ns;obtain⟨ad,ha,hl⟩:=h.at.frs k f hk;have HFA:Xp (V.f.a=Xa ad):=ha;have HFC:Xp (∀W,zc w W->ZQ W (ad.add (k*13)) f):=show∀W,_ from hl
 have hlt:(k:Int)< (V.f.n:Int):=by
  have:=(gS.1 hk).1;omega
 obtain⟨c0,c1,c2,c3,c4,c5,c6,c7,hce⟩:=zdZ _ hc8;rw[hce]at HCI HCW;obtain⟨⟨b0,b1,b2,b3,b4,b5,b6,b7⟩,fr,fu,fd,ff,fx⟩:=f;dsimp only at hf hx;subst hf;subst hx;simp only[pgc,frv,mP,Xw]at HCI HCW;clear h hk hF hs hi hc8 hce ha hl n1;have x0:=HM.box.box.c 0 rfl;simp only[Sli.x]at x0;rw[HFA.out]at x0;obtain⟨d0,d1,d2,d3,d4,d5,d6,d7,d8,d9,d10,d11,d12⟩:=HFC.out w (zc.refl _);dsimp only at d0 d1 d2 d3 d4 d5 d6 d7 d8 d9 d10 d11 d12
 go_enter func119,ntmps119
 go_upto_region 2 with fail;clear d0 d1 d2 d3 d4 d5 d6 d7 d8 d9 d10 d11 d12 x0;obtain⟨b,HB⟩:=kA w.heap.size;obtain⟨W1,hW1⟩:=kB (w.alloc (Xk #[U8 b0,U8 b1,U8 b2,U8 b3,U8 b4,U8 b5,U8 b6,U8 b7,I6 fr,Xh fu,Xh fd,I6 (fi:Int),I6 (ix:Int)] 53));have G1:=gA hW1
 have Y1:=xPT hW1 HB
 rw[hW1,HB.out];rw[HB.out]at hpl;clear hW1;have gd:zc W1 W1.drew:=show Below _ _ _ from(bR _ _).drew
 obtain⟨I,HI⟩:∃I:Xo->Prop,Xp (∀u,I u↔zt u b 53 [U8 b0,U8 b1,U8 b2,U8 b3,U8 b4,U8 b5,U8 b6,U8 b7,I6 fr,Xh fu,Xh fd,I6 (fi:Int),I6 (ix:Int)]):=⟨fun u=>_,fun _=>Iff.rfl⟩
 have hI0:I W1.drew:=(HI _).2 (Y1.grew gd);have hF0:zc W1 W1.drew:=gd;have hy0:∀y:zj I,y.world.cell? ⟨b,0,Xb⟩=Xa (U8 b0):=fun y=>((HI _).1 y.holds).box.c 0 rfl
 have hy1:∀y:zj I,y.world.cell? ⟨b,1,Xb⟩=Xa (U8 b1):=fun y=>((HI _).1 y.holds).box.c 1 rfl
 have hy2:∀y:zj I,y.world.cell? ⟨b,2,Xb⟩=Xa (U8 b2):=fun y=>((HI _).1 y.holds).box.c 2 rfl
 have hy3:∀y:zj I,y.world.cell? ⟨b,3,Xb⟩=Xa (U8 b3):=fun y=>((HI _).1 y.holds).box.c 3 rfl
 have hy4:∀y:zj I,y.world.cell? ⟨b,4,Xb⟩=Xa (U8 b4):=fun y=>((HI _).1 y.holds).box.c 4 rfl
 have hy5:∀y:zj I,y.world.cell? ⟨b,5,Xb⟩=Xa (U8 b5):=fun y=>((HI _).1 y.holds).box.c 5 rfl
 have hy6:∀y:zj I,y.world.cell? ⟨b,6,Xb⟩=Xa (U8 b6):=fun y=>((HI _).1 y.holds).box.c 6 rfl
 have hy7:∀y:zj I,y.world.cell? ⟨b,7,Xb⟩=Xa (U8 b7):=fun y=>((HI _).1 y.holds).box.c 7 rfl
 have hyr:∀y:zj I,y.world.cell? ⟨b,8,Xb⟩=Xa (I6 fr):=fun y=>((HI _).1 y.holds).box.c 8 rfl
 have hyu:∀y:zj I,y.world.cell? ⟨b,9,Xb⟩=Xa (Xh fu):=fun y=>((HI _).1 y.holds).box.c 9 rfl
 have hyd:∀y:zj I,y.world.cell? ⟨b,10,Xb⟩=Xa (Xh fd):=fun y=>((HI _).1 y.holds).box.c 10 rfl
 have hyf:∀y:zj I,y.world.cell? ⟨b,11,Xb⟩=Xa (I6 (fi:Int)):=fun y=>((HI _).1 y.holds).box.c 11 rfl
 have hyx:∀y:zj I,y.world.cell? ⟨b,12,Xb⟩=Xa (I6 (ix:Int)):=fun y=>((HI _).1 y.holds).box.c 12 rfl
 have hne:Nonempty (zj I):=⟨⟨_,hI0⟩⟩;refine zG (I:=I) 9 [(3,fun v=>v= Xi #[U8 c0,U8 c1,U8 c2,U8 c3,U8 c4,U8 c5,U8 c6,U8 c7]),(8,fun v=>v= Xh R)] (fun u=>zc W1 u) hI0 hF0 zW (by kernel_rfl) rfl rfl (by decide) ?hS (by kernel_rfl) ?_
 case hS=>
  intro x hx;simp only[mC,nM,or_false]at hx
  rcases hx with rfl|rfl
  ·exact⟨_,rfl⟩
  exact⟨_,rfl⟩
 simp only[Xx,Xy];iterate 3 (refine zg rfl rfl rfl (fun K hK=>?_);go_big_quiet_op;refine hK _ ?_;clear hK)
 refine zH rfl rfl (fun _ u=>zc W1 u) (fun w' hI' hF'=>?_) (fun v1 hv=>?_)
 ·refine zQ.call [Xj (Xa ⟨p,0,Xb⟩),Xi #[U8 b0,U8 b1,U8 b2,U8 b3,U8 b4,U8 b5,U8 b6,U8 b7,I6 fr,Xh fu,Xh fd,I6 (fi:Int),I6 (ix:Int)]] rfl func167 rfl rfl rfl ?_;refine(HCI w' (G1.trans hF')).mono ?_;rintro e w'' ⟨rfl,g2⟩;exact⟨_,rfl,(HI _).2 (((HI _).1 hI').grew g2),rfl,hF'.trans g2⟩
 subst hv;simp only[Xt,sB,sS,sZ];iterate 4 (refine zg rfl rfl rfl (fun K hK=>?_);go_big_quiet_op;refine hK _ ?_;clear hK)
 refine zH rfl rfl (fun _ u=>zcP w0 p w V N u) (fun w' hI' hF'=>?_) (fun v1 hv=>?_)
 ·refine zQ.call [Xj (Xa ⟨p,0,Xb⟩),Xi #[U8 c0,U8 c1,U8 c2,U8 c3,U8 c4,U8 c5,U8 c6,U8 c7],I6 (fi:Int),I6 (ix:Int)] rfl func166 rfl rfl rfl ?_;refine(HCW w' (G1.trans hF')).mono ?_;rintro e w'' ⟨rfl,hch⟩;have g9:=zcP.of_grew (G1.trans hF') hch;obtain⟨V2,_,_,o2,_⟩:=hch;exact⟨_,rfl,(HI _).2 (((HI _).1 hI').chg o2 hpl),rfl,g9⟩
 subst hv;simp only[Xt,sB,sS,sZ];refine qj fun W9 hI8 hF8=>?_
 have M9:Xp (zcP w0 p w V N W9):=hF8;clear hI8 hF8 hI0 hF0 hy0 hy1 hy2 hy3 hy4 hy5 hy6 hy7 hyr hyu hyd hyf hyx hne gd;go_wp2;go_ret;exact⟨rfl,M9⟩
theorem znH (m:Ma) (pg:List Int) (file idx:Int):(wrM m pg file idx).fs=m.fs/\(wrM m pg file idx).hand=m.hand/\(wrM m pg file idx).ca=m.ca/\(wrM m pg file idx).sp=m.sp/\(wrM m pg file idx).sl=m.sl:=by
 unfold wrM
 split <;> exact⟨rfl,rfl,rfl,rfl,rfl⟩
theorem zjz {a:Act} {w:Xo} (ty:TypeId) (x:Operand) (ho:o.op= .load ty x) (b off:Nat) (hx:a.eval x= Xj (Xa ⟨b,off,Xb⟩)) (vs:List Xr) (hc:w.rangeAt b off vs) {d:TypeDesc} (hu:Tryz.prog.underlying ty=Xa d) (hd:d.isRow=Xc) (hi:(Tryz.prog.info? ty).map (·.size)=Xa vs.length):(execOp a.eval o).run prog w= .ok (.value (Xi vs.toArray)) w:=by
 have:=run_loadAt_mid (P:=prog) w b off ty vs d hc hu hd hi;simp only[execOp,ho,hx,Xv,this,rA,Ya]
theorem zhZ {a:Act} {w:Xo} (ty:TypeId) (x:Operand) (ho:o.op= .load ty x) (b off:Nat) (hx:a.eval x= Xj (Xa ⟨b,off,Xb⟩)) (v:Xr) (hc:w.cell? ⟨b,off,Xb⟩=Xa v) {d:TypeDesc} (hu:Tryz.prog.underlying ty=Xa d) (hd:d.isRow=Xd):(execOp a.eval o).run prog w= .ok (.value v) w:=by
 have hagg:(isAgg ty).run prog w= .ok Xd w:=by
  unfold isAgg;rw[Xv,run_underlying hu w]
  cases d <;> simp_all [TypeDesc.isRow]
 have h2:(loadVar ty ⟨b,off,Xb⟩).run prog w= .ok v w:=by simp[loadVar,Xv,hagg,hc]
 simp only[execOp,ho,hx,Instr.loadAt,Instr.sureAddr,Xv,Ya,h2,rA]
theorem znZ {p:Option Ca} {c:Ca} (h:caE m p c=0):(0<=c.file/\c.file< (m.fl.length:Int)/\0<=c.idx/\c.idx<bkN m c.file/\0<=c.fr/\c.fr< (m.fs.length:Int))/\((z8 m c.fr).r≠0/\(z8 m c.fr).f=c.file/\(z8 m c.fr).x=c.idx)/\∀q,p=Xa q->¬qm c<=qm q:=by
 unfold caE at h
 split at h
 ·cases h
 rename_i h1
 split at h
 ·cases h
 rename_i h2
 refine⟨by omega,⟨fun e=>h2 (.inl e),Classical.byContradiction fun e=>h2 (.inr (.inl e)),Classical.byContradiction fun e=>h2 (.inr (.inr e))⟩,fun q e k=>?_⟩
 subst e;have h:(if qm c<=qm q then(2:Int)else 0)=0:=h;rw[kE k]at h;cases h
structure zn4 (m:Ma) (c:Ca) (k fi ix:Nat) (f:Fr) (F:Fl):Prop where
 fr:c.fr=(k:Int)
 file:c.file=(fi:Int)
 idx:c.idx=(ix:Int)
 fa:m.fs[k]? =Xa f
 ff:f.f=(fi:Int)
 fx:f.x=(ix:Int)
 fl:m.fl[fi]? =Xa F
 sz:0<=F.size/\F.size<=96
 lo:ix<=12
 r:f.r≠0
 bl:ix<F.bl.length
theorem zkR (h0:maW m=0) {c:Ca} (hc:c∈m.ca):∃k fi ix f F,zn4 m c k fi ix f F:=by
 obtain⟨⟨a1,a2,a3,a4,a5,a6⟩,⟨b1,b2,b3⟩,-⟩:=znZ ((zL.1 (zbW h0).1.ca).1 c hc);obtain⟨k,hk⟩:∃k:Nat,c.fr=(k:Int):=⟨c.fr.toNat,by omega⟩
 obtain⟨fi,hfi⟩:∃fi:Nat,c.file=(fi:Int):=⟨c.file.toNat,by omega⟩
 obtain⟨ix,hix⟩:∃ix:Nat,c.idx=(ix:Int):=⟨c.idx.toNat,by omega⟩
 obtain⟨f,hf⟩:∃f,m.fs[k]? =Xa f:=⟨_,gE (by omega)⟩
 obtain⟨F,hF⟩:∃F,m.fl[fi]? =Xa F:=⟨_,gE (by omega)⟩
 have hfa:z8 m c.fr=f:=by unfold z8;rw[hk,tN,gD,hf];rfl
 have hbk:bkN m c.file=(F.bl.length:Int):=by unfold bkN;rw[hfi,tN,gD,hF];rfl
 rw[hfa]at b1 b2 b3;rw[hbk]at a4;obtain⟨s1,s2⟩:=zoa h0 hF;have:=zeq s1.1 s1.2;exact⟨k,fi,ix,f,F,hk,hfi,hix,hf,b2.trans hfi,b3.trans hix,hF,s1,by omega,b1,by omega⟩
end
end Go.Proofs.YtacihbmelcegbaaGreat
