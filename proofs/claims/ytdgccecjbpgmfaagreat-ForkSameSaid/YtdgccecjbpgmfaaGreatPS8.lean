import Derived.Test.YtdgccecjbpgmfaaGreatPS7
import Derived.Deep.CutRange
import Derived.Deep.DeepCutAuto
namespace Go.Proofs.YtdgccecjbpgmfaaGreat
set_option maxRecDepth 100000
set_option maxHeartbeats 4000000
variable{L:List Int} {T:List (Nat->En)} {V:MaV} {hi i j:Nat} {m:Ma} {vt:Sli} {w':World}
open Go.Proofs.Tryz
section
open Go.RowKit
theorem zff (F S B:Int) (nf ns nb:Nat) (hnf:max (min F 40) 0=(nf:Int)) (hns:max (min S 60) 0=(ns:Int)) (hnb:max (min B 80) 0=(nb:Int)) (vl:Sli) (L:List Int) (w:World) (lr:zr byE w (vl.x) L) (lc:vl.n<=vl.c) (lb:∀z∈L,0<=z/\z<256):
  Calls prog 15 #[I6 F,I6 S,I6 B,vl.x] w fun e w'=>∃(V:MaV) (m:Ma) (T:List (Nat->En)) (hd:Int) (hi ht:Nat) (vt:Sli),e= .returned (.agg #[V.f.x,I6 hd,V.s.x,V.sb.x,V.sq.x,V.db.x,V.dq.x,V.fl.x,I6 m.cnt,V.ca.x,V.sp.x])/\zi2 w nf ns nb L w' V m T hd hi ht vt:=by
 have hnf40:nf<=40:=by omega
 have hns60:ns<=60:=by omega
 have hnb80:nb<=80:=by omega
 obtain⟨W0,hW0⟩:∃W0,(w.alloc (.cells zM.toArray 41)).alloc (.cells #[vl.x,eS,I6 0,eS,eS,eS,eS,eS,eS,I6 0,eS,eS,eS] 98)=W0:=⟨_,rfl⟩;have G0:=gD2 hW0
 have X0:Hid (zp W0 w.heap.size 41 zM):=dD<|by rw[<-hW0];exact(zp.top _ zM _ rfl).grew (za _ _)
 have Y0:Hid (zp W0 (w.heap.size+1) 98 [vl.x,eS,I6 0,eS,eS,eS,eS,eS,eS,I6 0,eS,eS,eS]):=dD<|by rw[<-hW0];exact zp.top _ [vl.x,eS,I6 0,eS,eS,eS,eS,eS,eS,I6 0,eS,eS,eS] _ (by simp)
 have HW0:Hid (_=W0):=hW0;have HLR:Hid (zr byE w (vl.x) L):=lr;have HLC:Hid (vl.n<=vl.c):=lc;have HLB:Hid (∀z∈L,0<=z/\z<256):=show∀z,_ from lb
 clear hW0 lr lc lb
 go_enter func15,ntmps15
 go_upto_region 3 with fail;rw[HW0.out];try rw[hnf]
 try rw[hns]
 try rw[hnb]
 clear hnf hns hnb;obtain⟨b,HBB⟩:∃b,Hid (w.heap.size+1=b):=⟨_,rfl⟩;rw[HBB.out]at Y0⊢;obtain⟨I,HI⟩:∃I:World->Prop,Hid (∀u,I u↔zc W0 u):=⟨fun u=>zc W0 u,fun _=>Iff.rfl⟩
 have hI0:I W0.drew:=(HI _).2 (gW _)
 have hne:Nonempty (zj I):=⟨⟨_,hI0⟩⟩;refine zeg (I:=I) (J:=JB nf ns nb) 17 [(2,⟨fun v=>∃g,v= .slice (some ⟨g,0,none⟩) nf nf,fun v u=>zb zaq w.heap.size u v (List.replicate nf fr0),fun p q=>zc p q,fun _=>True⟩),(5,⟨fun v=>∃g,v= .slice (some ⟨g,0,none⟩) ns ns,fun v u=>zb slE w.heap.size u v (List.replicate ns 0),fun p q=>zc p q,fun _=>True⟩),(7,⟨fun v=>∃g,v= .slice (some ⟨g,0,none⟩) ns ns,fun v u=>zw w.heap.size u v (List.replicate ns zt),fun p q=>zc p q,fun _=>True⟩),(10,⟨fun v=>∃g,v= .slice (some ⟨g,0,none⟩) nb nb,fun v u=>zw w.heap.size u v (List.replicate nb zt),fun p q=>zc p q,fun _=>True⟩)] hI0 ?hJ0 ?hJq ?hJs ?hJu qh (by kernel_rfl) rfl rfl (by decide) ?hS ?hp ?hpre ?hpr0 ?_
 case hJ0=>
  refine⟨⟨rfl,rfl,rfl⟩,fun s hs=> .inl ?_,fun s hs x n c he=>?_,fun s hs t ht hst x n c y n' c' he=>?_⟩
  ·simp only[mC,nM,or_false]at hs
   rcases hs with rfl|rfl|rfl|rfl <;> rfl
  ·simp only[mC,nM,or_false]at hs
   rcases hs with rfl|rfl <;> cases he
  simp only[mC,nM,or_false]at hs
  rcases hs with rfl|rfl <;> cases he
 case hJq=>
  intro j o hj hS a v u hr hJ;exact hJ.quiet (zjx (Sx:=[2,5,7,10]) (by kernel_rfl) hj (zhb hS)) (by omega) (by omega) hnb80 hr
 case hJs=>
  intro j o s hj hs a u K hJ hI hd;have hs':=zT hs;clear hs;simp only[mC,pJ,nM,or_false]at hs'
  rcases hs' with⟨rfl,rfl⟩|⟨rfl,rfl⟩|⟨rfl,rfl⟩|⟨rfl,rfl⟩
  ·cases hj;obtain⟨i0,hi,hz0,hz1,hz2⟩:=info_parts zaq.info;exact hJ.make 26 69 i0 _ 32 rfl (by simp) zaq.und hi hz0 (by rw[hz2];decide) (by decide) hd
  ·cases hj;obtain⟨i0,hi,hz0,hz1,hz2⟩:=info_parts slE.info;exact hJ.make 30 3 i0 _ 35 rfl (by simp) slE.und hi hz0 (by rw[hz2];decide) (by decide) hd
  ·cases hj;obtain⟨i0,hi,hz0,hz1,hz2⟩:=info_parts zl2;exact hJ.make 31 67 i0 _ 37 rfl (by simp) underlying31 hi hz0 (by rw[hz2];decide) (by decide) hd
  cases hj;obtain⟨i0,hi,hz0,hz1,hz2⟩:=info_parts zl2;exact hJ.make 31 67 i0 _ 40 rfl (by simp) underlying31 hi hz0 (by rw[hz2];decide) (by decide) hd
 case hJu=>
  intro j o hj a u hJ;exact hJ.undef (zjy (by kernel_rfl) hj)
 case hS=>
  intro x hx;simp only[mC,nM,or_false]at hx
  rcases hx with rfl|rfl|rfl|rfl <;> exact⟨_,0,rfl⟩
 case hp=>
  intro k s j t hk hj hjk hanc v p q hst hpo;have hk':=zT hk;have hj':=zT hj;clear hk hj;simp only[mC,pJ,nM,or_false]at hk' hj';have hg:zc p q:=by rcases hj' with⟨rfl,rfl⟩ | ⟨rfl,rfl⟩ | ⟨rfl,rfl⟩ | ⟨rfl,rfl⟩ <;> exact hst
  rcases hk' with⟨rfl,rfl⟩|⟨rfl,rfl⟩|⟨rfl,rfl⟩|⟨rfl,rfl⟩
  ·exact zb.grew hpo hg
  ·exact zb.grew hpo hg
  ·exact zw.grew hpo hg
  exact zw.grew hpo hg
 case hpre=>
  intro j t k s hj hk hjk p q hst hpr;have hj':=zT hj;clear hk hj;simp only[mC,pJ,nM,or_false]at hj'
  rcases hj' with⟨rfl,rfl⟩|⟨rfl,rfl⟩|⟨rfl,rfl⟩|⟨rfl,rfl⟩ <;> trivial
 case hpr0=>
  intro k t hk;have hk':=zT hk;clear hk;simp only[mC,pJ,nM,or_false]at hk'
  rcases hk' with⟨rfl,rfl⟩|⟨rfl,rfl⟩|⟨rfl,rfl⟩|⟨rfl,rfl⟩ <;> trivial
 simp only[List.take,List.drop];iterate 2 (refine zm rfl rfl rfl (fun K hK=>?_);go_big_quiet_op;refine hK _ ?_;clear hK)
 refine zL rfl rfl (fun w' hI' hpr hF=>?_) (fun v1 hv=>?_)
 ·have hg:=(HI _).1 hI';exact zaP zaq w' nf (by show nf*40<=_;omega) (.tmp 32) rfl rfl (fun C ho=>⟨(HI _).2 (hg.trans (za _ _)),za _ _,⟨_,rfl⟩,ho.base (nT (bS G0) (bS hg))⟩)
 obtain⟨gf,rfl⟩:=hv;simp only[Act.put,sB,sS,sZ];iterate 2 (refine zm rfl rfl rfl (fun K hK=>?_);go_big_quiet_op;refine hK _ ?_;clear hK)
 refine zL rfl rfl (fun w' hI' hpr hF=>?_) (fun v1 hv=>?_)
 ·have hg:=(HI _).1 hI';exact zaP slE w' ns (by show ns*8<=_;omega) (.tmp 35) rfl rfl (fun C ho=>⟨(HI _).2 (hg.trans (za _ _)),za _ _,⟨_,rfl⟩,ho.base (nT (bS G0) (bS hg))⟩)
 obtain⟨gl,rfl⟩:=hv;simp only[Act.put,sB,sS,sZ];iterate 1 (refine zm rfl rfl rfl (fun K hK=>?_);go_big_quiet_op;refine hK _ ?_;clear hK)
 refine zL rfl rfl (fun w' hI' hpr hF=>?_) (fun v1 hv=>?_)
 ·have hg:=(HI _).1 hI';exact Jv w' ns (by omega) (.tmp 37) rfl rfl (fun C ho=>⟨(HI _).2 (hg.trans (za _ _)),za _ _,⟨_,rfl⟩,ho.base (nT (bS G0) (bS hg))⟩)
 obtain⟨gsb,rfl⟩:=hv;simp only[Act.put,sB,sS,sZ];iterate 2 (refine zm rfl rfl rfl (fun K hK=>?_);go_big_quiet_op;refine hK _ ?_;clear hK)
 refine zL rfl rfl (fun w' hI' hpr hF=>?_) (fun v1 hv=>?_)
 ·have hg:=(HI _).1 hI';exact Jv w' nb hnb80 (.tmp 40) rfl rfl (fun C ho=>⟨(HI _).2 (hg.trans (za _ _)),za _ _,⟨_,rfl⟩,ho.base (nT (bS G0) (bS hg))⟩)
 obtain⟨gdb,rfl⟩:=hv;simp only[Act.put,sB,sS,sZ];iterate 4 (refine zm rfl rfl rfl (fun K hK=>?_);go_big_quiet_op;refine hK _ ?_;clear hK)
 refine jC (.tmp 31) ⟨b,0,none⟩ rfl rfl rfl rfl ?_;simp only[Act.put,sB,sS,sZ];iterate 1 (refine zm rfl rfl rfl (fun K hK=>?_);go_big_quiet_op;refine hK _ ?_;clear hK)
 refine jF fun W1 hI1 hF hJ=>?_
 have hap:gsb≠gdb:=hJ.2.2.2 38 (by simp) 41 (by simp) (by decide) ⟨gsb,0,none⟩ ns ns ⟨gdb,0,none⟩ nb nb rfl rfl
 have o1:zb zaq w.heap.size W1 (.slice (some ⟨gf,0,none⟩) nf nf) (List.replicate nf fr0):=hF 2;have o2:zb slE w.heap.size W1 (.slice (some ⟨gl,0,none⟩) ns ns) (List.replicate ns 0):=hF 5;have o3:zw w.heap.size W1 (.slice (some ⟨gsb,0,none⟩) ns ns) (List.replicate ns zt):=hF 7;have o4:zw w.heap.size W1 (.slice (some ⟨gdb,0,none⟩) nb nb) (List.replicate nb zt):=hF 10;have g1:=(HI _).1 hI1;have Y1:=dD (Y0.grew g1);have X1:=dD (X0.grew g1);have G1:=dD (G0.trans g1);clear hF hJ hI1 hI0 hne g1;refine zef rfl 41 (.tmp 47) (.tmp 45) rfl b 1 rfl [.slice (some ⟨gf,0,none⟩) nf nf,I6 0,.slice (some ⟨gl,0,none⟩) ns ns,.slice (some ⟨gsb,0,none⟩) ns ns,eS,.slice (some ⟨gdb,0,none⟩) nb nb,eS,eS,I6 (nb:Int),eS,eS] rfl Y1 (by simp) (by kernel_rfl) (fun v hv=>by simp only[mC,nM,or_false]at hv;rcases hv with rfl | rfl | rfl | rfl | rfl | rfl | rfl | rfl | rfl | rfl | rfl <;> rfl) ?_
 intro W2 hb2 hg2 hs2;have B2:zp W2 b 98 [vl.x,.slice (some ⟨gf,0,none⟩) nf nf,I6 0,.slice (some ⟨gl,0,none⟩) ns ns,.slice (some ⟨gsb,0,none⟩) ns ns,eS,.slice (some ⟨gdb,0,none⟩) nb nb,eS,eS,I6 (nb:Int),eS,eS,eS]:=hb2;have M2:Hid (Mk w W2.heap.size W2 b vl L ⟨⟨some ⟨gf,0,none⟩,nf,nf⟩,⟨some ⟨gl,0,none⟩,ns,ns⟩,⟨some ⟨gsb,0,none⟩,ns,ns⟩,zx,⟨some ⟨gdb,0,none⟩,nb,nb⟩,zx,zx,zx,zx⟩ ⟨List.replicate nf fr0,0,List.replicate ns 0,List.replicate ns zt,[],List.replicate nb zt,[],[],nb,[],[]⟩ zx []):=zjz (zd G1 hg2 (by have:=HBB.out;omega)) (by have:=HBB.out;omega) B2 HLR HLC HLB (o1.kind hg2 Y1 (by decide)) (o2.kind hg2 Y1 (by decide)) ⟨qy o3.1 hg2 Y1 (by decide),o3.2⟩ ⟨qy o4.1 hg2 Y1 (by decide),o4.2⟩ hap
 have X2:Hid (zp W2 w.heap.size 41 zM):=X1.beside hg2 (fun g e=>by cases e;have:=HBB.out;omega)
 clear hb2 hg2 hs2 o1 o2 o3 o4 hap;obtain⟨hi,HHI⟩:∃hi,Hid (W2.heap.size=hi):=⟨_,rfl⟩;rw[HHI.out]at M2;try simp only[Act.put]
 have x1:=M2.box.box.c 1 rfl;go_wp2;clear x1
 go_loopg [55] nf (fun gg s55 wr=>∃kk:Nat,kk<=nf/\nf - kk<=gg/\s55=I6 kk/\Hid (Mk w hi wr b vl L ⟨⟨some ⟨gf,0,none⟩,nf,nf⟩,⟨some ⟨gl,0,none⟩,ns,ns⟩,⟨some ⟨gsb,0,none⟩,ns,ns⟩,zx,⟨some ⟨gdb,0,none⟩,nb,nb⟩,zx,zx,zx,zx⟩ ⟨zhD nf kk,0,List.replicate ns 0,List.replicate ns zt,[],List.replicate nb zt,[],[],nb,[],[]⟩ zx [])/\Hid (zp wr w.heap.size 41 zM))
 case atStart=>exact⟨0,nZ _,by omega,rfl,by rw[zin];exact M2,X2⟩
 obtain⟨kk,hkk,hgg,rfl,MW,XW⟩:=hrel
 by_cases hlt:kk<nf
 ·have hltz:(kk:Int)< (nf:Int):=by omega
  have x1:=MW.box.box.c 1 rfl;dsimp only[Sli.x]at x1;have R:Hid (zb zaq w.heap.size wr (.slice (some ⟨gf,0,none⟩) nf nf) (zhD nf kk)):=MW.rows.fs;have d:wr.cell? ⟨gf,kk*13+11,none⟩=some (I6 0):=by
   have:=R.one (zio hlt) 11 _ rfl;rw[zU,Addr.add_lit,zA]at this;exact this
  have xf:=R.unfrozen rfl;obtain⟨ow,gr,sz⟩:=R.cell (k:=kk) (o:=11) rfl (zio hlt) (y:=frF) (u:=I6 (-1)) rfl (by decide)
  rw[zjR hlt]at ow;have hM:=MW.setF rfl gr sz ow;have M3:Hid (Mk w hi (wr.setCell ⟨gf,kk*13+11,none⟩ (I6 (-1))) b vl L ⟨⟨some ⟨gf,0,none⟩,nf,nf⟩,⟨some ⟨gl,0,none⟩,ns,ns⟩,⟨some ⟨gsb,0,none⟩,ns,ns⟩,zx,⟨some ⟨gdb,0,none⟩,nb,nb⟩,zx,zx,zx,zx⟩ ⟨zhD nf (kk+1),0,List.replicate ns 0,List.replicate ns zt,[],List.replicate nb zt,[],[],nb,[],[]⟩ zx []):=hM.1;have X3:Hid (zp (wr.setCell ⟨gf,kk*13+11,none⟩ (I6 (-1))) w.heap.size 41 zM):=hM.2.1 _ _ _ XW ⟨by decide,by decide,by decide,by decide,by decide,by decide,by decide,by decide,fun h=>absurd h (by decide)⟩
  clear hM ow gr sz;go_wp2
  go_roundg (nf -(kk+1))
  case measure=>omega
  exact⟨kk+1,by omega,by omega,by go_num,M3,X3⟩
 have hltz:¬(kk:Int)< (nf:Int):=by omega
 obtain rfl:nf=kk:=by omega
 rw[zjS]at MW;have hpk:=qx 3 MW.out;go_wp2_with fail;refine hpk.mono ?_;clear hpk;rintro e W3 ⟨vl1,L1,y,rfl,mk1,gr1,sz1,y0,y1,yn,ll⟩;obtain⟨c,rfl⟩:∃c:Nat,y=(c:Int):=⟨y.toNat,by omega⟩
 have hc3:c<3:=by rcases y1 with h | h <;> omega
 have HC0:Hid (L=[]->c=0):=dD<|fun e=>by have:=yn e;omega
 have M3:Hid (Mk w hi W3 b vl1 L1 ⟨⟨some ⟨gf,0,none⟩,nf,nf⟩,⟨some ⟨gl,0,none⟩,ns,ns⟩,⟨some ⟨gsb,0,none⟩,ns,ns⟩,zx,⟨some ⟨gdb,0,none⟩,nb,nb⟩,zx,zx,zx,zx⟩ ⟨List.replicate nf frF,0,List.replicate ns 0,List.replicate ns zt,[],(List.replicate nb zt),[],[],nb,[],[]⟩ zx []):=mk1;have X3:Hid (zp W3 w.heap.size 41 zM):=XW.beside gr1 (fun g e=>by cases e;have:=HBB.out;omega)
 have LL3:Hid (ZN L L1):=ll;clear mk1 gr1 sz1 y0 y1 yn ll;go_wp2
 go_loopg [70] c (fun gg s70 wr=>∃(k2:Nat) (vl':Sli) (L':List Int) (sd sf:Sli) (db:List (List Int)) (dq:List (Int × List Int)) (fl:List Fl),k2<=c/\c - k2<=gg/\s70=I6 k2/\Hid (Mk w hi wr b vl' L' ⟨⟨some ⟨gf,0,none⟩,nf,nf⟩,⟨some ⟨gl,0,none⟩,ns,ns⟩,⟨some ⟨gsb,0,none⟩,ns,ns⟩,zx,⟨some ⟨gdb,0,none⟩,nb,nb⟩,sd,sf,zx,zx⟩ ⟨List.replicate nf frF,0,List.replicate ns 0,List.replicate ns zt,[],db,dq,fl,nb,[],[]⟩ zx [])/\Hid (ZN L L')/\Hid (zp wr w.heap.size 41 zM)/\Hid (zd8 fl nb db dq []/\fl.length<=k2/\db.length=nb/\∀f∈fl,f.size<40)/\Hid (k2=0->fl=[]/\dq=[]/\db=List.replicate nb zt))
 case atStart=>exact⟨0,vl1,L1,zx,zx,_,_,_,nZ _,by omega,rfl,M3,LL3,X3,(show _/\_ from⟨zd8.zero hnb80,nZ _,lR,fun f hf=>(by cases hf)⟩),(fun _=>⟨rfl,rfl,rfl⟩)⟩
 obtain⟨k2,vl2,L2,sd,sf,db,dq,fl,hk2,hg2,rfl,MW,LW,XW,FW,ZW⟩:=hrel
 by_cases hlt2:k2<c
 ·have hltz2:(k2:Int)< (c:Int):=by omega
  have hpk2:=qx 40 MW.out;go_wp2_with fail;refine hpk2.mono ?_;clear hpk2;rintro e W4 ⟨vl4,L4,sz,rfl,mk4,gr4,-,s0,s1,-,ll4⟩;have hsz:sz<40:=by rcases s1 with h|h <;> omega
  have M4:Hid (Mk w hi W4 b vl4 L4 ⟨⟨some ⟨gf,0,none⟩,nf,nf⟩,⟨some ⟨gl,0,none⟩,ns,ns⟩,⟨some ⟨gsb,0,none⟩,ns,ns⟩,zx,⟨some ⟨gdb,0,none⟩,nb,nb⟩,sd,sf,zx,zx⟩ ⟨List.replicate nf frF,0,List.replicate ns 0,List.replicate ns zt,[],db,dq,fl,nb,[],[]⟩ zx []):=mk4;have X4:Hid (zp W4 w.heap.size 41 zM):=XW.beside gr4 (fun g e=>by cases e;have:=HBB.out;omega)
  have LL4:=dD (LW.trans ll4);clear mk4 gr4 ll4 s1;go_upto_region 12 with fail;obtain⟨pf,HPF⟩:∃pf,Hid (W4.heap.size=pf):=⟨_,rfl⟩;obtain⟨W5,hW5⟩:∃W5,W4.alloc (.cells #[I6 sz,eS] 88)=W5:=⟨_,rfl⟩;have g5:=gP hW5
  have P5:=xPT hW5 HPF
  have M5:=dD (M4.grew g5);have X5:=dD (X4.grew g5);have FB5:Hid (FlB w.heap.size hi pf W5 ⟨⟨some ⟨gf,0,none⟩,nf,nf⟩,⟨some ⟨gl,0,none⟩,ns,ns⟩,⟨some ⟨gsb,0,none⟩,ns,ns⟩,zx,⟨some ⟨gdb,0,none⟩,nb,nb⟩,sd,sf,zx,zx⟩ ⟨List.replicate nf frF,0,List.replicate ns 0,List.replicate ns zt,[],db,dq,fl,nb,[],[]⟩):=show FlB _ _ _ _ _ _ by rw[<-HPF.out];exact M4.rows.flB.grew g5
  have HHP:Hid (hi<=pf):=dD<|by rw[<-HPF.out];exact M4.rows.hw
  have HFN:Hid (∀g,(sf.x).ownBlock=some g->g<pf):=dD<|fun g hg=>by rw[<-HPF.out];obtain⟨xs,q1,-,-⟩:=M4.rows.fl;exact(q1.lt g hg).2
  rw[hW5,HPF.out];clear hW5 g5;have p0:=P5.box.c 0 rfl;have hcn:=zbd sz W5 s0 (by omega)
  go_wp2_with fail;refine hcn.mono ?_;clear hcn p0;rintro e W6 ⟨rfl,hw6⟩;rw[hw6];clear hw6;have HC9:Hid (Jx sz<=5):=dD<|by unfold Jx;split <;> omega
  obtain⟨N3,HN3⟩:∃N3:Nat,Hid (Jx sz=(N3:Int)):=⟨(Jx sz).toNat,show _=_ by unfold Jx;split <;> omega⟩
  rw[HN3.out];have HSZ:Hid (0<=sz/\sz<40):=dD<|⟨s0,hsz⟩
  have hN35:N3<=5:=by have:=HC9.out;have:=HN3.out;omega
  have F5:Hid (FC w hi b W5 vl4 L4 ⟨⟨some ⟨gf,0,none⟩,nf,nf⟩,⟨some ⟨gl,0,none⟩,ns,ns⟩,⟨some ⟨gsb,0,none⟩,ns,ns⟩,zx,⟨some ⟨gdb,0,none⟩,nb,nb⟩,sd,sf,zx,zx⟩ ⟨List.replicate nf frF,0,List.replicate ns 0,List.replicate ns zt,[],db,dq,fl,nb,[],[]⟩ pf sz zx []):=dD<|⟨M5,HHP,FB5,HFN,P5,zb.nil _ _ _⟩
  have HF0:Hid (zd8 fl nb db dq []/\db.length=nb):=dD<|⟨FW.1,FW.2.2.1⟩
  have HF40:Hid (∀f∈fl,f.size<40):=dD<|FW.2.2.2
  have HFL:Hid (fl.length<=k2):=dD<|FW.2.1
  clear s0 hsz;go_wp2
  go_loopg [78] N3 (fun gg s78 wr=>∃(k3:Nat) (vl':Sli) (L':List Int) (sd' bs:Sli) (db':List (List Int)) (dq':List (Int × List Int)) (bl:List Int),k3<=N3/\N3 - k3<=gg/\s78=I6 k3/\Hid (FC w hi b wr vl' L' ⟨⟨some ⟨gf,0,none⟩,nf,nf⟩,⟨some ⟨gl,0,none⟩,ns,ns⟩,⟨some ⟨gsb,0,none⟩,ns,ns⟩,zx,⟨some ⟨gdb,0,none⟩,nb,nb⟩,sd',sf,zx,zx⟩ ⟨List.replicate nf frF,0,List.replicate ns 0,List.replicate ns zt,[],db',dq',fl,nb,[],[]⟩ pf sz bs bl)/\Hid (ZN L L')/\Hid (zp wr w.heap.size 41 zM)/\Hid (zd8 fl nb db' dq' bl/\bl.length=k3/\db'.length=nb))
  case atStart=>exact⟨0,vl4,L4,sd,zx,db,dq,[],nZ _,by omega,rfl,F5,LL4,X5,(show _/\_ from⟨HF0.1,rfl,HF0.2⟩)⟩
  obtain⟨k3,vl6,L6,sd6,bs,db6,dq6,bl,hk3,hg3,rfl,FX,LX,XX,FI⟩:=hrel
  by_cases hlt3:k3<N3
  ·have hltz3:(k3:Int)< (N3:Int):=by omega
   have hpk7:=qx (max (nb:Int) 1) FX.mm;go_wp2_with fail;refine hpk7.mono ?_;clear hpk7;rintro e W7 ⟨vl7,L7,x,rfl,mk7,gr7,-,x0,-,-,ll7⟩;obtain⟨n,rfl⟩:∃n:Nat,x=(n:Int):=⟨x.toNat,by omega⟩
   have F7:Hid (FC w hi b W7 vl7 L7 ⟨⟨some ⟨gf,0,none⟩,nf,nf⟩,⟨some ⟨gl,0,none⟩,ns,ns⟩,⟨some ⟨gsb,0,none⟩,ns,ns⟩,zx,⟨some ⟨gdb,0,none⟩,nb,nb⟩,sd6,sf,zx,zx⟩ ⟨List.replicate nf frF,0,List.replicate ns 0,List.replicate ns zt,[],db6,dq6,fl,nb,[],[]⟩ pf sz bs bl):=FX.pick gr7 mk7;have X7:Hid (zp W7 w.heap.size 41 zM):=XX.kind gr7 FX.mm.box (by decide)
   have LL7:=dD (LX.trans ll7);clear mk7 gr7 ll7 x0;go_upto_region 17 with fail
   go_cut [78,109]from 78 to 160 (fun s78 s109 wx=>∃(tk:Bool) (vl':Sli) (L':List Int),s78=I6 k3/\s109= .bool tk/\Hid (FC w hi b wx vl' L' ⟨⟨some ⟨gf,0,none⟩,nf,nf⟩,⟨some ⟨gl,0,none⟩,ns,ns⟩,⟨some ⟨gsb,0,none⟩,ns,ns⟩,zx,⟨some ⟨gdb,0,none⟩,nb,nb⟩,sd6,sf,zx,zx⟩ ⟨List.replicate nf frF,0,List.replicate ns 0,List.replicate ns zt,[],db6,dq6,fl,nb,[],[]⟩ pf sz bs bl)/\Hid (ZN L L')/\Hid (zp wx w.heap.size 41 zM)/\Hid (tk=true->n<nb/\qU (fl++ [⟨sz,bl⟩]) (n:Int)=false))
   case first=>
    by_cases hn:n<nb
    ·have hnz:(n:Int)< (nb:Int):=by omega
     have hnd:decide ((n:Int)< (nb:Int))=true:=by simpa using hnz
     obtain⟨xs,q1,q2,q3⟩:=F7.fb;have HX:Hid (zb fvE w.heap.size W7 (sf.x) xs):=q1;obtain⟨nF,HNF⟩:∃nF,Hid (fl.length=nF):=⟨_,rfl⟩;have HXL:Hid (xs.length=nF):=show _=_ by rw[q2];exact HNF.out
     have hnF:nF<=10:=by have:=HFL.out;have:=HNF.out;omega
     have HSN:Hid (sf.n=nF):=dD<|by rw[q1.n];exact HXL.out
     have HX3:Hid (∀(i:Nat) x f,xs[i]? =some x->fl[i]? =some f->x.size=f.size/\zb blE hi W7 x.v f.bl):=dD<|fun i x f hx hf=>(q3 i x f hx hf).1
     clear q1 q2 q3;obtain⟨fx,HFX⟩:∃fx:FlV,Hid (fx=⟨sz,bs.a,bs.n,bs.c⟩):=⟨_,rfl⟩;obtain⟨UB,HUB⟩:∃UB,Hid (qU (fl++ [(⟨sz,bl⟩:Fl)]) (n:Int)=UB):=⟨qU (fl++ [(⟨sz,bl⟩:Fl)]) (n:Int),rfl⟩;have HB7:Hid (b<W7.heap.size):=F7.mm.box.box.lt;have HPB:Hid (pf≠b):=show _≠_ from fun e=>by
      have h1:W7.heap[pf]? =_:=F7.box;have h2:W7.heap[b]? =_:=F7.mm.box;rw[e,h2]at h1;cases h1
     have HXB:Hid (w.heap.size≠b):=dD<|by have:=HBB.out;omega
     obtain⟨I,HI⟩:∃I:World->Prop,Hid (∀u,I u↔Out b (b+1) W7 u/\FCE w hi b L ⟨⟨some ⟨gf,0,none⟩,nf,nf⟩,⟨some ⟨gl,0,none⟩,ns,ns⟩,⟨some ⟨gsb,0,none⟩,ns,ns⟩,zx,⟨some ⟨gdb,0,none⟩,nb,nb⟩,sd6,sf,zx,zx⟩ ⟨List.replicate nf frF,0,List.replicate ns 0,List.replicate ns zt,[],db6,dq6,fl,nb,[],[]⟩ pf sz bs bl u):=⟨fun u=>Out b (b+1) W7 u/\FCE w hi b L ⟨⟨some ⟨gf,0,none⟩,nf,nf⟩,⟨some ⟨gl,0,none⟩,ns,ns⟩,⟨some ⟨gsb,0,none⟩,ns,ns⟩,zx,⟨some ⟨gdb,0,none⟩,nb,nb⟩,sd6,sf,zx,zx⟩ ⟨List.replicate nf frF,0,List.replicate ns 0,List.replicate ns zt,[],db6,dq6,fl,nb,[],[]⟩ pf sz bs bl u,fun _=>Iff.rfl⟩
     have hI0:I W7.drew:=(HI _).2 ⟨Out.drew _,vl7,L7,F7.grew (gW _),LL7⟩
     have HIG:Hid (∀u u',I u->zc u u'->I u'):=dD<|fun u u' h k=>by
      obtain⟨h1,vl',L',h2,h3⟩:=(HI _).1 h;exact(HI _).2 ⟨h1.trans (Out.grew k),vl',L',h2.grew k,h3⟩
     have hx8:∀y:zj I,y.world.cell? ⟨b,8,none⟩=some (sf.x):=fun y=>by
      obtain⟨_,_,_,h2,_⟩:=(HI _).1 y.holds;exact h2.mm.box.box.c 8 rfl
     have hp0:∀y:zj I,y.world.cell? ⟨pf,0,none⟩=some (I6 sz):=fun y=>by
      obtain⟨_,_,_,h2,_⟩:=(HI _).1 y.holds;exact h2.box.box.c 0 rfl
     have hp1:∀y:zj I,y.world.cell? ⟨pf,1,none⟩=some (bs.x):=fun y=>by
      obtain⟨_,_,_,h2,_⟩:=(HI _).1 y.holds;exact h2.box.box.c 1 rfl
     have hne:Nonempty (zj I):=⟨⟨_,hI0⟩⟩;refine qJ (I:=I) 25 [(4,⟨fun v=>∃g,v= .slice (some ⟨g,0,none⟩) 0 0,fun v u=>zb fvE W7.heap.size u v [],fun p q=>zc p q,fun _=>True⟩),(11,⟨fun v=>(∃a c,v= .slice a nF c)/\(nF=0->∃g,v= .slice (some ⟨g,0,none⟩) 0 0),fun v u=>zb fvE W7.heap.size u v xs,fun p q=>zc p q,fun _=>True⟩),(13,⟨fun v=>∃g,v= .slice (some ⟨g,0,none⟩) 1 1,fun v u=>zb fvE W7.heap.size u v [fx],fun p q=>zc p q,fun _=>True⟩),(14,⟨fun v=>∃a c,v= .slice a (nF+1) c,fun v u=>zb fvE W7.heap.size u v (xs++ [fx]),fun p q=>∀u m,m.length<=nF\/m.length<=1->zb fvE W7.heap.size p u m->zb fvE W7.heap.size q u m,fun _=>True⟩),(17,⟨fun v=>v= .bool UB,fun _ _=>True,fun p q=>zc p q,fun _=>True⟩),(22,⟨fun v=>∃x:Int,v=I6 x,fun _ _=>True,fun p q=>Out b (b+1) p q,fun _=>True⟩)] hI0 qh (by kernel_rfl) rfl rfl (by decide) ?hS ?hp ?hpre ?hpr0 ?_
     case hS=>
      intro x hx;simp only[mC,nM,or_false]at hx
      rcases hx with rfl|rfl|rfl|rfl|rfl|rfl
      ·exact⟨_,0,rfl⟩
      ·by_cases h0:nF=0
       ·exact⟨.slice (some ⟨0,0,none⟩) 0 0,⟨some ⟨0,0,none⟩,0,by rw[h0]⟩,fun _=>⟨0,rfl⟩⟩
       exact⟨.slice none nF 0,⟨_,_,rfl⟩,fun h=>absurd h h0⟩
      ·exact⟨_,0,rfl⟩
      ·exact⟨_,none,0,rfl⟩
      ·exact⟨_,rfl⟩
      exact⟨_,0,rfl⟩
     case hp=>
      intro k s j t hk hj hjk hanc v p q hst hpo;have hk':=zT hk;have hj':=zT hj;clear hk hj;simp only[mC,pJ,nM,or_false]at hk' hj';have keep:∀l:List FlV,l.length<=nF\/l.length<=1\/j≠14->zb fvE W7.heap.size p v l->zb fvE W7.heap.size q v l:=fun l hl ho=>by
       rcases hj' with⟨rfl,rfl⟩|⟨rfl,rfl⟩|⟨rfl,rfl⟩|⟨rfl,rfl⟩|⟨rfl,rfl⟩|⟨rfl,rfl⟩
       ·exact zb.grew ho hst
       ·exact zb.grew ho hst
       ·exact zb.grew ho hst
       ·exact hst v l (by omega) ho
       ·exact zb.grew ho hst
       exact ho.outb hst (fun g hg=>by have:=(ho.lt g hg).1;have:=HB7.out;omega)
      rcases hk' with⟨rfl,rfl⟩|⟨rfl,rfl⟩|⟨rfl,rfl⟩|⟨rfl,rfl⟩|⟨rfl,rfl⟩|⟨rfl,rfl⟩
      ·exact keep _ (.inl (nZ _)) hpo
      ·exact keep _ (.inl (by rw[HXL.out];exact nR _)) hpo
      ·exact keep _ (.inr (.inl (nR _))) hpo
      ·exact keep _ (.inr (.inr (fun e=>hjk e))) hpo
      ·trivial
      trivial
     case hpre=>
      intro j t k s hj hk hjk p q hst hpr;have hj':=zT hj;clear hk hj;simp only[mC,pJ,nM,or_false]at hj'
      rcases hj' with⟨rfl,rfl⟩|⟨rfl,rfl⟩|⟨rfl,rfl⟩|⟨rfl,rfl⟩|⟨rfl,rfl⟩|⟨rfl,rfl⟩ <;> trivial
     case hpr0=>
      intro k t hk;have hk':=zT hk;clear hk;simp only[mC,pJ,nM,or_false]at hk'
      rcases hk' with⟨rfl,rfl⟩|⟨rfl,rfl⟩|⟨rfl,rfl⟩|⟨rfl,rfl⟩|⟨rfl,rfl⟩|⟨rfl,rfl⟩ <;> trivial
     simp only[List.take,List.drop];iterate 4 (refine zm rfl rfl rfl (fun K hK=>?_);go_big_quiet_op;refine hK _ ?_;clear hK)
     refine zL rfl rfl (fun w' hI' hpr hF=>?_) (fun v1 hv=>?_)
     ·have hg:=((HI _).1 hI').1;exact zN.step (v:= .slice (some ⟨w'.heap.size,0,none⟩) 0 0) (w':=w'.alloc (.cells #[] 88)) (by simp only[execOp];go_simp) ⟨HIG _ _ hI' (za _ _),za _ _,⟨_,rfl⟩,(zb.made fvE w').base hg.size⟩
     obtain⟨g0,rfl⟩:=hv;simp only[Act.put,sB,sS,sZ];iterate 1 (refine zm rfl rfl rfl (fun K hK=>?_);go_big_quiet_op;refine hK _ ?_;clear hK)
     refine jC (.tmp 90) ⟨b,0,none⟩ rfl rfl rfl rfl ?_;simp only[Act.put,sB,sS,sZ];iterate 4 (refine zm rfl rfl rfl (fun K hK=>?_);go_big_quiet_op;refine hK _ ?_;clear hK)
     refine zL rfl rfl (fun w' hI' hpr hF=>?_) (fun v1 hv=>?_)
     ·have hg:=((HI _).1 hI').1;have h0:zb fvE W7.heap.size w' (.slice (some ⟨g0,0,none⟩) 0 0) []:=hF 4 (by kernel_rfl)
      have hX:=HX.outb hg (fun g hg' e=>by
       obtain⟨cs,hc⟩:=HX.obj hg';have h3:W7.heap[b]? =_:=F7.mm.box;rw[e,h3]at hc
       cases hc)
      obtain⟨v',w2,hrun,ho,hg2,hz⟩:=ji (E:=fvE) (w:=w') 35 h0 (sf.x) xs hX.at hg.size;obtain⟨a',c',rfl⟩:=ho.form;refine zN.step (v:= .slice a' xs.length c') (w':=w2) ?_ ⟨HIG _ _ hI' hg2,hg2,⟨⟨a',c',by rw[HXL.out]⟩,fun h=>⟨g0,hz (eN (by rw[HXL.out];exact h))⟩⟩,ho⟩
      simp only[execOp,resolve,invoke,builtin,pure_bind,Sem.run_bind,Sem.run_pure,List.map_toArray,mP,List.map_nil];exact Eq.trans (congrArg (fun r=>Result.andThen r (fun a w'=>Result.ok (Next.value a) w')) hrun) rfl
     obtain⟨⟨a3,c3,rfl⟩,hz3⟩:=hv;simp only[Act.put,sB,sS,sZ];iterate 1 (refine zm rfl rfl rfl (fun K hK=>?_);go_big_quiet_op;refine hK _ ?_;clear hK)
     refine zL rfl rfl (fun w' hI' hpr hF=>?_) (fun v1 hv=>?_)
     ·have hg:=((HI _).1 hI').1;exact zN.step (v:= .slice (some ⟨w'.heap.size,0,none⟩) 1 1) (w':=w'.alloc (.cells #[I6 sz,bs.x] 88)) (by simp only[execOp];go_simp) ⟨HIG _ _ hI' (za _ _),za _ _,⟨_,rfl⟩,by rw[HFX.out];exact(zjt w' ⟨sz,bs.a,bs.n,bs.c⟩).base hg.size⟩
     obtain⟨g5,rfl⟩:=hv;simp only[Act.put,sB,sS,sZ];refine zL rfl rfl (fun w' hI' hpr hF=>?_) (fun v1 hv=>?_)
     ·have hg:=((HI _).1 hI').1;have o3:zb fvE W7.heap.size w' (.slice a3 nF c3) xs:=hF 11 (by kernel_rfl)
      have o5:zb fvE W7.heap.size w' (.slice (some ⟨g5,0,none⟩) 1 1) [fx]:=hF 13 (by kernel_rfl)
      have key:∃v' w2,(Builtin.append_ #[35,35] 35 #[.slice a3 nF c3,.slice (some ⟨g5,0,none⟩) 1 1]).run prog w'= .ok v' w2/\zb fvE W7.heap.size w2 v' (xs++ [fx])/\I w2/\∀u m,m.length<=nF\/m.length<=1->zb fvE W7.heap.size w' u m->zb fvE W7.heap.size w2 u m:=by
       by_cases h0:nF=0
       ·have hxs:xs=[]:=eN (by rw[HXL.out];exact h0)
        subst hxs;obtain⟨g,hgv⟩:=hz3 h0;rw[hgv]at o3⊢;obtain⟨v',w2,hrun,ho,hg2,_⟩:=ji (E:=fvE) (w:=w') 35 o3 (.slice (some ⟨g5,0,none⟩) 1 1) [fx] o5.at hg.size;exact⟨v',w2,hrun,ho,HIG _ _ hI' hg2,fun u m _ h=>h.grew hg2⟩
       obtain⟨v',w2,hrun,ho,hgr,hk⟩:=z6 (E:=fvE) (w:=w') 35 o3 (.slice (some ⟨g5,0,none⟩) 1 1) [fx] o5.at (by rw[HXL.out];show(nF+1)*32<=_;omega) hg.size
       refine⟨v',w2,hrun,ho,?_,fun u m hm h=>hk u m (by rw[HXL.out];omega) h⟩
       obtain⟨h1,vl',L',h2,h3⟩:=(HI _).1 hI';obtain⟨gr,cr,hgr3⟩:=o3.formS (by rw[HXL.out];omega)
       obtain⟨cs,hcs⟩:=o3.obj (g:=gr) (by rw[hgr3];rfl)
       have hgr':w'.grownBy w2 (some gr):=by rw[hgr3]at hgr;exact hgr
       have hgl:=(o3.lt gr (by rw[hgr3];rfl)).1
       have hpl:=F7.box.box.lt;refine(HI _).2 ⟨⟨hgr'.os.trans h1.os,hgr'.tape.trans h1.tape,hgr'.output.trans h1.output,nT h1.size hgr'.size,fun k hk' hb'=>(hgr'.block k (Nat.lt_of_lt_of_le hk' h1.size) (fun e=>by cases e;omega)).trans (h1.block k hk' hb')⟩,vl',L',h2.fresh hgr' hcs (by omega),h3⟩
      obtain⟨v',w2,hrun,ho,hI2,hk⟩:=key;obtain⟨a',c',rfl⟩:=ho.form;refine zN.step (v:= .slice a' (xs++ [fx]).length c') (w':=w2) ?_ ⟨hI2,hk,⟨a',c',by rw[lA,HXL.out];rfl⟩,ho⟩
      simp only[execOp,resolve,invoke,builtin,pure_bind,Sem.run_bind,Sem.run_pure,List.map_toArray,mP,List.map_nil];exact Eq.trans (congrArg (fun r=>Result.andThen r (fun a w'=>Result.ok (Next.value a) w')) hrun) rfl
     obtain⟨a6,c6,rfl⟩:=hv;simp only[Act.put,sB,sS,sZ];iterate 2 (refine zm rfl rfl rfl (fun K hK=>?_);go_big_quiet_op;refine hK _ ?_;clear hK)
     refine zL rfl rfl (fun w' hI' hpr hF=>?_) (fun v1 hv=>?_)
     ·obtain⟨h1,vl',L',h2,h3⟩:=(HI _).1 hI';have o6:zb fvE W7.heap.size w' (.slice a6 (nF+1) c6) (xs++ [fx]):=hF 14 (by kernel_rfl)
      have hfa:qW w' (.slice a6 (nF+1) c6) (fl++ [⟨sz,bl⟩]):=by
       refine⟨o6.cap,xs++ [fx],o6.at.s0,by rw[lA,lA,HXL.out,HNF.out];rfl,fun i x f hx hf=>?_⟩
       rcases Nat.lt_or_ge i nF with hi' | hi'
       ·rw[List.getElem?_append_left (by rw[HXL.out];exact hi')]at hx
        rw[List.getElem?_append_left (by rw[HNF.out];exact hi')]at hf
        obtain⟨a1,a2⟩:=HX3.out i x f hx hf;exact⟨a1,(a2.outb h1 (fun g hg' e=>by
         obtain⟨cs,hc⟩:=a2.obj hg';have h3:W7.heap[b]? =_:=F7.mm.box;rw[e,h3]at hc
         cases hc)).at.s0⟩
       rw[aR (by rw[HXL.out];exact hi'),HXL.out]at hx
       rw[aR (by rw[HNF.out];exact hi'),HNF.out]at hf
       have hi0:i - nF=0:=by
        have:=(gS.1 hx).1
        simp at this
        omega
       rw[hi0]at hx hf;cases hx;cases hf;rw[HFX.out];exact⟨rfl,h2.row.at.s0⟩
      refine zN.call [.agg #[.slice a6 (nF+1) c6,I6 0],I6 (n:Int)] rfl func45 rfl rfl rfl ?_;refine(zgk (.slice a6 (nF+1) c6) (fl++ [⟨sz,bl⟩]) 0 (n:Int) w' hfa).mono ?_;rintro e w'' ⟨rfl,hg2⟩;exact⟨_,rfl,HIG _ _ hI' hg2,hg2,by rw[HUB.out],trivial⟩
     subst hv;simp only[Act.put,sB,sS,sZ];iterate 3 (refine zm rfl rfl rfl (fun K hK=>?_);go_big_quiet_op;refine hK _ ?_;clear hK)
     cases UB with
     | true=>
      refine zb2 ?_ ?_
      ·kernel_rfl
      simp only[Act.put,sB,sS,sZ];refine zb2 ?_ ?_
      ·kernel_rfl
      simp only[Act.put,sB,sS,sZ];refine zb2 ?_ ?_
      ·kernel_rfl
      simp only[Act.put,sB,sS,sZ];iterate 1 (refine zm rfl rfl rfl (fun K hK=>?_);go_big_quiet_op;refine hK _ ?_;clear hK)
      refine jF fun W8 hI8 hF8=>?_
      obtain⟨h1,vl8,L8,h2,h3⟩:=(HI _).1 hI8;have F8:Hid (FC w hi b W8 vl8 L8 ⟨⟨some ⟨gf,0,none⟩,nf,nf⟩,⟨some ⟨gl,0,none⟩,ns,ns⟩,⟨some ⟨gsb,0,none⟩,ns,ns⟩,zx,⟨some ⟨gdb,0,none⟩,nb,nb⟩,sd6,sf,zx,zx⟩ ⟨List.replicate nf frF,0,List.replicate ns 0,List.replicate ns zt,[],db6,dq6,fl,nb,[],[]⟩ pf sz bs bl):=h2;have LL8:Hid (ZN L L8):=h3;have X8:Hid (zp W8 w.heap.size 41 zM):=X7.outb h1 HXB.out;clear hI8 hF8 hI0 hx8 hp0 hp1 hne h1 h2 h3 hz3;go_wp2
      go_meet
      exact⟨false,vl8,L8,rfl,rfl,F8,LL8,X8,fun h=>(by cases h)⟩
     | false=>
      iterate 1 (refine zm rfl rfl rfl (fun K hK=>?_);go_big_quiet_op;refine hK _ ?_;clear hK)
      refine zL rfl rfl (fun w' hI' hpr hF=>?_) (fun v1 hv=>?_)
      ·obtain⟨h1,vl',L',h2,h3⟩:=(HI _).1 hI';refine zN.call [.pointer (some ⟨b,0,none⟩),I6 3] rfl func43 rfl rfl rfl ?_;refine(qx 3 h2.mm).mono ?_;rintro e w'' ⟨vl2,L2,y,rfl,mk2,gr2,-,-,-,-,ll2⟩;have ho2:Out b (b+1) w' w'':=Out.grown gr2 (fun g e=>by cases e;omega)
       exact⟨_,rfl,(HI _).2 ⟨h1.trans ho2,vl2,L2,h2.pick gr2 mk2,h3.trans ll2⟩,ho2,⟨y,rfl⟩,trivial⟩
      obtain⟨x,rfl⟩:=hv;simp only[Act.put,sB,sS,sZ];iterate 2 (refine zm rfl rfl rfl (fun K hK=>?_);go_big_quiet_op;refine hK _ ?_;clear hK)
      refine jF fun W8 hI8 hF8=>?_
      obtain⟨h1,vl8,L8,h2,h3⟩:=(HI _).1 hI8;have F8:Hid (FC w hi b W8 vl8 L8 ⟨⟨some ⟨gf,0,none⟩,nf,nf⟩,⟨some ⟨gl,0,none⟩,ns,ns⟩,⟨some ⟨gsb,0,none⟩,ns,ns⟩,zx,⟨some ⟨gdb,0,none⟩,nb,nb⟩,sd6,sf,zx,zx⟩ ⟨List.replicate nf frF,0,List.replicate ns 0,List.replicate ns zt,[],db6,dq6,fl,nb,[],[]⟩ pf sz bs bl):=h2;have LL8:Hid (ZN L L8):=h3;have X8:Hid (zp W8 w.heap.size 41 zM):=X7.outb h1 HXB.out;have HUF:Hid (decide (0<x)=true->n<nb/\qU (fl++ [⟨sz,bl⟩]) (n:Int)=false):=show _->_ from fun _=>⟨hn,HUB⟩
      clear hI8 hF8 hI0 hx8 hp0 hp1 hne h1 h2 h3 hz3;go_wp2
      go_meet
      exact⟨decide (0<x),vl8,L8,rfl,rfl,F8,LL8,X8,HUF⟩
    have hnz:¬(n:Int)< (nb:Int):=by omega
    have hnd:decide ((n:Int)< (nb:Int))=false:=by simpa using hnz
    clear hn;go_quiet (fail);go_wp2
    go_meet
    exact⟨false,vl7,L7,rfl,rfl,F7.grew (show Below _ _ _ from bD (bR _ _) _),LL7,X7.grew (show Below _ _ _ from bD (bR _ _) _),fun h=>(by cases h)⟩
   obtain⟨tk,vl8,L8,rfl,rfl,F8,LL8,X8,HTK⟩:=hcut
   go_upto_if 109 with fail
   go_cut [13,15,16,78]from 78 to 160 (fun s13 s15 s16 s78 wx=>∃(bx:Int) (vl':Sli) (L':List Int) (sd':Sli) (db':List (List Int)) (dq':List (Int × List Int)),s13=I6 bx/\s78=I6 k3/\Hid (FC w hi b wx vl' L' ⟨⟨some ⟨gf,0,none⟩,nf,nf⟩,⟨some ⟨gl,0,none⟩,ns,ns⟩,⟨some ⟨gsb,0,none⟩,ns,ns⟩,zx,⟨some ⟨gdb,0,none⟩,nb,nb⟩,sd',sf,zx,zx⟩ ⟨List.replicate nf frF,0,List.replicate ns 0,List.replicate ns zt,[],db',dq',fl,nb,[],[]⟩ pf sz bs bl)/\Hid (ZN L L')/\Hid (zp wx w.heap.size 41 zM)/\Hid (zd8 fl nb db' dq' (bl++ [bx])/\db'.length=nb))
   case first=>
    cases tk with
    | false=>
     go_wp2
     go_meet
     exact⟨-1,vl8,L8,sd6,db6,dq6,rfl,rfl,F8,LL8,X8,(show _/\_ from⟨FI.1.none,FI.2.2⟩)⟩
    | true=>
     obtain⟨hn,hu⟩:=HTK.out rfl;have HUF:Hid (qU fl (n:Int)=false/\(n:Int)∉bl):=dD<|by
      have h2:¬(n:Int)∈zak (fl++ [⟨sz,bl⟩]):=fun h=>by rw[(zaw _ _).2 h]at hu;cases hu
      have h3:zak (fl++ [⟨sz,bl⟩])=zak fl++bl:=by simp[zak]
      rw[h3,List.mem_append]at h2;refine⟨?_,fun h=>h2 (.inr h)⟩
      cases e:qU fl (n:Int)with
      | false=>rfl
      | true=>exact absurd (.inl ((zaw _ _).1 e)) h2
     have hnz:(n:Int)< (nb:Int):=by omega
     clear hu;have hpg:=zbA F8.mm;go_wp2_with fail;refine hpg.mono ?_;clear hpg;rintro e W9 ⟨vl9,L9,q9,rfl,ql9,mk9,gr9,ll9⟩;have F9:Hid (FC w hi b W9 vl9 L9 ⟨⟨some ⟨gf,0,none⟩,nf,nf⟩,⟨some ⟨gl,0,none⟩,ns,ns⟩,⟨some ⟨gsb,0,none⟩,ns,ns⟩,zx,⟨some ⟨gdb,0,none⟩,nb,nb⟩,sd6,sf,zx,zx⟩ ⟨List.replicate nf frF,0,List.replicate ns 0,List.replicate ns zt,[],db6,dq6,fl,nb,[],[]⟩ pf sz bs bl):=F8.pick gr9 mk9;have X9:Hid (zp W9 w.heap.size 41 zM):=X8.kind gr9 F8.mm.box (by decide)
     have LL9:=dD (LL8.trans ll9);clear mk9 gr9 ll9;obtain⟨o0,o1,o2,o3,o4,o5,o6,o7,rfl⟩:=zhC q9 ql9;clear ql9;simp only[pgc,mP,List.map_nil];go_upto_region 20 with fail;obtain⟨pp,HPP⟩:∃pp,Hid (W9.heap.size=pp):=⟨_,rfl⟩;obtain⟨W10,hW10⟩:∃W10,W9.alloc (.cells #[U8 o0,U8 o1,U8 o2,U8 o3,U8 o4,U8 o5,U8 o6,U8 o7] 67)=W10:=⟨_,rfl⟩;have g10:=gP hW10
     have P10:Hid (zp W10 pp 67 (pgc [o0,o1,o2,o3,o4,o5,o6,o7])):=dD<|by rw[<-hW10];exact zp.top _ (pgc [o0,o1,o2,o3,o4,o5,o6,o7]) _ HPP.symm
     have F10:=dD (F9.grew g10);have X10:=dD (X9.grew g10);have HHP:Hid (hi<=pp):=show _<=_ by rw[<-HPP.out];exact F9.mm.rows.hw
     rw[hW10,HPP.out];clear hW10 g10;go_wp2
     go_loopg [113] 8 (fun gg s113 wr=>∃(i:Nat) (qq:List Int),i<=8/\8 - i<=gg/\s113=I6 i/\Hid (FC w hi b wr vl9 L9 ⟨⟨some ⟨gf,0,none⟩,nf,nf⟩,⟨some ⟨gl,0,none⟩,ns,ns⟩,⟨some ⟨gsb,0,none⟩,ns,ns⟩,zx,⟨some ⟨gdb,0,none⟩,nb,nb⟩,sd6,sf,zx,zx⟩ ⟨List.replicate nf frF,0,List.replicate ns 0,List.replicate ns zt,[],db6,dq6,fl,nb,[],[]⟩ pf sz bs bl)/\Hid (zp wr pp 67 (pgc qq))/\Hid (qq.length=8)/\Hid (zp wr w.heap.size 41 zM))
     case atStart=>exact⟨0,[o0,o1,o2,o3,o4,o5,o6,o7],nZ _,by omega,rfl,F10,P10,rfl,X10⟩
     obtain⟨i,qq,hi8,hg4,rfl,FW,PW,QW,XW⟩:=hrel
     by_cases hlt4:i<8
     ·have hltz4:(i:Int)<8:=by omega
      obtain⟨z,hz⟩:∃z,qq[i]? =some z:=⟨_,gE (by rw[QW.out];exact hlt4)⟩
      have z0:=PW.box.c i (zez hz);have zf:=PW.box.f;have y0:=FW.box.box.c 0 rfl;clear hz
      by_cases hc:sz<=8*(k3:Int)+(i:Int)
      ·have hcd:decide (sz<=8*(k3:Int)+(i:Int))=true:=by simpa using hc
       have HG:Hid (wr.grownBy (wr.setCell ⟨pp,i,none⟩ (U8 0)) (some pp)):=qZ _ _ _ _;have P11:Hid (zp (wr.setCell ⟨pp,i,none⟩ (U8 0)) pp 67 (pgc (qq.set i 0))):=show zp _ _ _ _ by rw[zdF];exact PW.set i _
       have F11:Hid (FC w hi b (wr.setCell ⟨pp,i,none⟩ (U8 0)) vl9 L9 ⟨⟨some ⟨gf,0,none⟩,nf,nf⟩,⟨some ⟨gl,0,none⟩,ns,ns⟩,⟨some ⟨gsb,0,none⟩,ns,ns⟩,zx,⟨some ⟨gdb,0,none⟩,nb,nb⟩,sd6,sf,zx,zx⟩ ⟨List.replicate nf frF,0,List.replicate ns 0,List.replicate ns zt,[],db6,dq6,fl,nb,[],[]⟩ pf sz bs bl):=FW.kind HG PW (by decide) (by decide) (FW.mm.page PW HHP HG) rfl rfl
       have X11:Hid (zp (wr.setCell ⟨pp,i,none⟩ (U8 0)) w.heap.size 41 zM):=XW.kind HG PW (by decide)
       go_wp2
       go_roundg (8 -(i+1))
       case measure=>omega
       exact⟨i+1,qq.set i 0,by omega,by omega,by go_num,F11,P11,(show(qq.set i 0).length=8 by rw[List.length_set];exact QW),X11⟩
      have hcd:decide (sz<=8*(k3:Int)+(i:Int))=false:=by simpa using hc
      go_wp2
      go_roundg (8 -(i+1))
      case measure=>omega
      exact⟨i+1,qq,by omega,by omega,by go_num,FW,PW,QW,XW⟩
     have hltz4:¬(i:Int)<8:=by omega
     obtain⟨p0,p1,p2,p3,p4,p5,p6,p7,rfl⟩:=zhC qq QW.out;go_upto_region 26 with fail;obtain⟨I,HI⟩:∃I:World->Prop,Hid (∀u,I u↔zc wr u):=⟨fun u=>zc wr u,fun _=>Iff.rfl⟩
     have hI0:I wr.drew:=(HI _).2 (gW _)
     have HP:Hid (∀u,I u->zp u pp 67 (pgc [p0,p1,p2,p3,p4,p5,p6,p7])):=dD<|fun u hu=>PW.grew ((HI _).1 hu)
     have hx6:∀y:zj I,y.world.cell? ⟨b,6,none⟩=some (.slice (some ⟨gdb,0,none⟩) nb nb):=fun y=>(FW.mm.box.box.grew ((HI _).1 y.holds)).c 6 rfl
     have hf0:∀y:zj I,y.world.cell? ⟨pp,0,none⟩=some (U8 p0):=fun y=>(HP _ y.holds).box.c 0 rfl
     have hf1:∀y:zj I,y.world.cell? ⟨pp,1,none⟩=some (U8 p1):=fun y=>(HP _ y.holds).box.c 1 rfl
     have hf2:∀y:zj I,y.world.cell? ⟨pp,2,none⟩=some (U8 p2):=fun y=>(HP _ y.holds).box.c 2 rfl
     have hf3:∀y:zj I,y.world.cell? ⟨pp,3,none⟩=some (U8 p3):=fun y=>(HP _ y.holds).box.c 3 rfl
     have hf4:∀y:zj I,y.world.cell? ⟨pp,4,none⟩=some (U8 p4):=fun y=>(HP _ y.holds).box.c 4 rfl
     have hf5:∀y:zj I,y.world.cell? ⟨pp,5,none⟩=some (U8 p5):=fun y=>(HP _ y.holds).box.c 5 rfl
     have hf6:∀y:zj I,y.world.cell? ⟨pp,6,none⟩=some (U8 p6):=fun y=>(HP _ y.holds).box.c 6 rfl
     have hf7:∀y:zj I,y.world.cell? ⟨pp,7,none⟩=some (U8 p7):=fun y=>(HP _ y.holds).box.c 7 rfl
     have hne:Nonempty (zj I):=⟨⟨_,hI0⟩⟩;refine qJ (I:=I) 9 [] hI0 qh (by kernel_rfl) rfl rfl (by decide) (fun x hx=>by cases hx) (fun k s j t hk=>by cases hk) (fun j t k s hj=>by cases hj) (fun k t hk=>by cases hk) ?_
     simp only[List.take,List.drop];iterate 1 (refine zm rfl rfl rfl (fun K hK=>?_);go_big_quiet_op;refine hK _ ?_;clear hK)
     refine jC (.tmp 126) ⟨b,0,none⟩ rfl rfl rfl rfl ?_;simp only[Act.put,sB,sS,sZ];iterate 7 (refine zm rfl rfl rfl (fun K hK=>?_);go_big_quiet_op;refine hK _ ?_;clear hK)
     refine jF fun W11 hI11 _=>?_
     have g11:=(HI _).1 hI11;refine Qn rfl (.tmp 134) (.tmp 133) rfl w.heap.size (.slice (some ⟨gdb,0,none⟩) nb nb) db6 (FW.grew g11).mm.rows.db gdb n rfl (by rw[FI.2.2];exact hn) [p0,p1,p2,p3,p4,p5,p6,p7] rfl _ rfl (by first | rfl | simp) rfl ?_
     intro W12 op12 gr12 sz12;obtain⟨-,cs12,hc12⟩:=ZZ (FW.grew g11).mm.rows.db (g:=gdb) rfl;have F12:Hid (FC w hi b W12 vl9 L9 ⟨⟨some ⟨gf,0,none⟩,nf,nf⟩,⟨some ⟨gl,0,none⟩,ns,ns⟩,⟨some ⟨gsb,0,none⟩,ns,ns⟩,zx,⟨some ⟨gdb,0,none⟩,nb,nb⟩,sd6,sf,zx,zx⟩ ⟨List.replicate nf frF,0,List.replicate ns 0,List.replicate ns zt,[],(db6.set n [p0,p1,p2,p3,p4,p5,p6,p7]),dq6,fl,nb,[],[]⟩ pf sz bs bl):=(FW.grew g11).kind gr12 hc12 (by decide) (by decide) ((FW.grew g11).mm.setDb rfl gr12 sz12 op12).1 rfl rfl
     have X12:=dD ((XW.grew g11).kind gr12 hc12 (by decide))
     have P12:Hid (zp W12 pp 67 (pgc [p0,p1,p2,p3,p4,p5,p6,p7])):=(PW.grew g11).beside gr12 (fun g e=>by cases e;have:=(FW.mm.rows.dbh gdb rfl);have:=HHP.out;omega)
     clear hI11 g11 op12 gr12 sz12 cs12 hc12 hI0 hx6 hne;clear hf0 hf1 hf2 hf3 hf4 hf5 hf6 hf7;have hpk12:=qx 2 F12.mm;go_wp2_with fail;refine hpk12.mono ?_;clear hpk12;rintro e W13 ⟨vl13,L13,y,rfl,mk13,gr13,-,-,-,-,ll13⟩;have F13:Hid (FC w hi b W13 vl13 L13 ⟨⟨some ⟨gf,0,none⟩,nf,nf⟩,⟨some ⟨gl,0,none⟩,ns,ns⟩,⟨some ⟨gsb,0,none⟩,ns,ns⟩,zx,⟨some ⟨gdb,0,none⟩,nb,nb⟩,sd6,sf,zx,zx⟩ ⟨List.replicate nf frF,0,List.replicate ns 0,List.replicate ns zt,[],(db6.set n [p0,p1,p2,p3,p4,p5,p6,p7]),dq6,fl,nb,[],[]⟩ pf sz bs bl):=F12.pick gr13 mk13;have X13:Hid (zp W13 w.heap.size 41 zM):=X12.kind gr13 F12.mm.box (by decide)
     have P13:Hid (zp W13 pp 67 (pgc [p0,p1,p2,p3,p4,p5,p6,p7])):=P12.kind gr13 F12.mm.box (by decide)
     have LL13:=dD (LL9.trans ll13);clear mk13 gr13 ll13;have HDL:Hid ((db6.set n [p0,p1,p2,p3,p4,p5,p6,p7]).length=nb):=show _=_ by rw[List.length_set];exact FI.2.2
     by_cases hy:y=1
     ·have hye:(y == 1)=true:=by simp[hy]
      clear hy;go_upto_region 28 with fail;have HDQ:Hid (z5 w.heap.size W13 (sd6.x) dq6):=F13.mm.rows.dq;have HQL:Hid (dq6.length<=1000):=show _<=_ by
       have h1:=FI.1.ql;have h2:=zd6 ((jE _ _).1 FI.1.st).2.1;have h3:=((jE _ _).1 FI.1.st).1.1;have h4:=FI.2.1;omega
      obtain⟨I,HI⟩:∃I:World->Prop,Hid (∀u,I u↔zp u b 98 [vl13.x,.slice (some ⟨gf,0,none⟩) nf nf,I6 0,.slice (some ⟨gl,0,none⟩) ns ns,.slice (some ⟨gsb,0,none⟩) ns ns,eS,.slice (some ⟨gdb,0,none⟩) nb nb,sd6.x,sf.x,I6 (nb:Int),eS,eS,eS]/\zp u pp 67 (pgc [p0,p1,p2,p3,p4,p5,p6,p7])):=⟨fun u=>zp u b 98 [vl13.x,.slice (some ⟨gf,0,none⟩) nf nf,I6 0,.slice (some ⟨gl,0,none⟩) ns ns,.slice (some ⟨gsb,0,none⟩) ns ns,eS,.slice (some ⟨gdb,0,none⟩) nb nb,sd6.x,sf.x,I6 (nb:Int),eS,eS,eS]/\zp u pp 67 (pgc [p0,p1,p2,p3,p4,p5,p6,p7]),fun _=>Iff.rfl⟩
      have hI0:I W13.drew:=(HI _).2 ⟨F13.mm.box.grew (gW _),P13.grew (gW _)⟩
      have HP:Hid (∀u,I u->zp u pp 67 (pgc [p0,p1,p2,p3,p4,p5,p6,p7])):=dD<|fun u hu=>((HI _).1 hu).2
      have hx7:∀y:zj I,y.world.cell? ⟨b,7,none⟩=some (sd6.x):=fun y=>((HI _).1 y.holds).1.box.c 7 rfl
      have hf0:∀y:zj I,y.world.cell? ⟨pp,0,none⟩=some (U8 p0):=fun y=>(HP _ y.holds).box.c 0 rfl
      have hf1:∀y:zj I,y.world.cell? ⟨pp,1,none⟩=some (U8 p1):=fun y=>(HP _ y.holds).box.c 1 rfl
      have hf2:∀y:zj I,y.world.cell? ⟨pp,2,none⟩=some (U8 p2):=fun y=>(HP _ y.holds).box.c 2 rfl
      have hf3:∀y:zj I,y.world.cell? ⟨pp,3,none⟩=some (U8 p3):=fun y=>(HP _ y.holds).box.c 3 rfl
      have hf4:∀y:zj I,y.world.cell? ⟨pp,4,none⟩=some (U8 p4):=fun y=>(HP _ y.holds).box.c 4 rfl
      have hf5:∀y:zj I,y.world.cell? ⟨pp,5,none⟩=some (U8 p5):=fun y=>(HP _ y.holds).box.c 5 rfl
      have hf6:∀y:zj I,y.world.cell? ⟨pp,6,none⟩=some (U8 p6):=fun y=>(HP _ y.holds).box.c 6 rfl
      have hf7:∀y:zj I,y.world.cell? ⟨pp,7,none⟩=some (U8 p7):=fun y=>(HP _ y.holds).box.c 7 rfl
      have hne:Nonempty (zj I):=⟨⟨_,hI0⟩⟩;refine zG (I:=I) 16 [(10,fun v=>∃g,v= .slice (some ⟨g,0,none⟩) 1 1),(11,fun v=>∃a n c,v= .slice a n c)] (fun u=>zc W13 u) hI0 (gW _) qh (by kernel_rfl) rfl rfl (by decide) ?hS (by kernel_rfl) ?_
      case hS=>
       intro x hx;simp only[mC,nM,or_false]at hx
       rcases hx with rfl|rfl
       ·exact⟨_,0,rfl⟩
       exact⟨_,none,0,0,rfl⟩
      simp only[List.take,List.drop];iterate 2 (refine ze rfl rfl rfl (fun K hK=>?_);go_big_quiet_op;refine hK _ ?_;clear hK)
      refine zH (.tmp 139) ⟨b,0,none⟩ rfl rfl rfl rfl ?_;simp only[Act.put,sB,sS,sZ];iterate 7 (refine ze rfl rfl rfl (fun K hK=>?_);go_big_quiet_op;refine hK _ ?_;clear hK)
      refine zI rfl rfl (fun v u=>zc W13 u/\∃g,v= .slice (some ⟨g,0,none⟩) 1 1/\jp u ⟨g,0,none⟩ (ptc ((n:Int),[p0,p1,p2,p3,p4,p5,p6,p7]))) (fun w' hI' hF'=>?_) (fun v1 hv=>?_)
      ·exact zN.step (v:= .slice (some ⟨w'.heap.size,0,none⟩) 1 1) (w':=w'.alloc (.cells #[I6 (n:Int),U8 p0,U8 p1,U8 p2,U8 p3,U8 p4,U8 p5,U8 p6,U8 p7] 103)) (by simp only[execOp];go_simp) ⟨(HI _).2 ⟨((HI _).1 hI').1.grew (za _ _),((HI _).1 hI').2.grew (za _ _)⟩,⟨_,rfl⟩,hF'.trans (za _ _),_,rfl,jp.top w' (ptc ((n:Int),[p0,p1,p2,p3,p4,p5,p6,p7])) _ rfl⟩
      obtain⟨g5,rfl⟩:=hv;simp only[Act.put,sB,sS,sZ];refine zI rfl rfl (fun v u=>∃u0,zc W13 u0/\u0.grownBy u (sd6.x).ownBlock/\z5 w.heap.size u v (dq6++ [((n:Int),[p0,p1,p2,p3,p4,p5,p6,p7])])) (fun w' hI' hF'=>?_) (fun v1 hv=>?_)
      ·obtain⟨hg',g,hge,hcl⟩:=hF';have hge':g5=g:=by
        simp only[vJ,Option.some.injEq,Addr.mk.injEq]at hge;exact hge.1.1
       subst hge';obtain⟨v',w2,hrun,ho,hgr⟩:=zcA (w:=w') 32 (HDQ.grew hg') g5 ((n:Int),[p0,p1,p2,p3,p4,p5,p6,p7]) rfl hcl HQL (nT (bS F13.mm.gr) (bS hg'));obtain⟨a',n',c',rfl⟩:=ho.slice;have hbx:I w2:=by
        cases hob:(sd6.x).ownBlock with
        | none=>
         rw[hob]at hgr;exact(HI _).2 ⟨((HI _).1 hI').1.grew (qr hgr),((HI _).1 hI').2.grew (qr hgr)⟩
        | some gq=>
         rw[hob]at hgr;obtain⟨-,cs,hc⟩:=zaa (HDQ.grew hg') hob;exact(HI _).2 ⟨((HI _).1 hI').1.kind hgr hc (by decide),((HI _).1 hI').2.kind hgr hc (by decide)⟩
       refine zN.step (v:= .slice a' n' c') (w':=w2) ?_ ⟨hbx,⟨a',n',c',rfl⟩,w',hg',hgr,ho⟩;simp only[execOp,resolve,invoke,builtin,pure_bind,Sem.run_bind,Sem.run_pure,List.map_toArray,mP,List.map_nil];exact Eq.trans (congrArg (fun r=>Result.andThen r (fun a w'=>Result.ok (Next.value a) w')) hrun) rfl
      obtain⟨da,dn,dc,rfl⟩:=hv;simp only[Act.put,sB,sS,sZ];refine zH (.tmp 138) ⟨b,0,none⟩ rfl rfl rfl rfl ?_;simp only[Act.put,sB,sS,sZ];iterate 3 (refine ze rfl rfl rfl (fun K hK=>?_);go_big_quiet_op;refine hK _ ?_;clear hK)
      refine qj fun W14 hI14 hF14=>?_
      obtain⟨u0,g0,gr14,op14⟩:=hF14;have B14:Hid (zp W14 b 98 [vl13.x,.slice (some ⟨gf,0,none⟩) nf nf,I6 0,.slice (some ⟨gl,0,none⟩) ns ns,.slice (some ⟨gsb,0,none⟩) ns ns,eS,.slice (some ⟨gdb,0,none⟩) nb nb,sd6.x,sf.x,I6 (nb:Int),eS,eS,eS]):=((HI _).1 hI14).1;have R14:Hid (MkR w.heap.size hi W14 ⟨⟨some ⟨gf,0,none⟩,nf,nf⟩,⟨some ⟨gl,0,none⟩,ns,ns⟩,⟨some ⟨gsb,0,none⟩,ns,ns⟩,zx,⟨some ⟨gdb,0,none⟩,nb,nb⟩,⟨da,dn,dc⟩,sf,zx,zx⟩ ⟨List.replicate nf frF,0,List.replicate ns 0,List.replicate ns zt,[],db6.set n [p0,p1,p2,p3,p4,p5,p6,p7],dq6++ [((n:Int),[p0,p1,p2,p3,p4,p5,p6,p7])],fl,nb,[],[]⟩ zx []):=(F13.mm.rows.grew g0).addDq gr14 ⟨da,dn,dc⟩ op14;have hk14:zc w W14/\FlB w.heap.size hi pf W14 ⟨⟨some ⟨gf,0,none⟩,nf,nf⟩,⟨some ⟨gl,0,none⟩,ns,ns⟩,⟨some ⟨gsb,0,none⟩,ns,ns⟩,zx,⟨some ⟨gdb,0,none⟩,nb,nb⟩,sd6,sf,zx,zx⟩ ⟨List.replicate nf frF,0,List.replicate ns 0,List.replicate ns zt,[],db6.set n [p0,p1,p2,p3,p4,p5,p6,p7],dq6,fl,nb,[],[]⟩/\zp W14 pf 88 [I6 sz,bs.x]/\zb blE (pf+1) W14 (bs.x) bl/\zp W14 w.heap.size 41 zM:=by
       cases hob:(sd6.x).ownBlock with
       | none=>
        rw[hob]at gr14;have k:=qr gr14;exact⟨(F13.mm.gr.trans g0).trans k,(F13.fb.grew g0).grew k,(F13.box.grew g0).grew k,(F13.row.grew g0).grew k,(X13.grew g0).grew k⟩
       | some gq=>
        rw[hob]at gr14;obtain⟨hgq,cs,hc⟩:=zaa (HDQ.grew g0) hob;exact⟨zd (F13.mm.gr.trans g0) gr14 hgq,(F13.fb.grew g0).kind gr14 hc (.inl (by decide)) (.inl (by decide)),(F13.box.grew g0).kind gr14 hc (by decide),(F13.row.grew g0).kind gr14 hc (by decide),(X13.grew g0).kind gr14 hc (by decide)⟩
      obtain⟨e1,e2,e3,e4,e5⟩:=hk14;have GW14:Hid (zc w W14):=e1;have FB14:Hid (FlB w.heap.size hi pf W14 ⟨⟨some ⟨gf,0,none⟩,nf,nf⟩,⟨some ⟨gl,0,none⟩,ns,ns⟩,⟨some ⟨gsb,0,none⟩,ns,ns⟩,zx,⟨some ⟨gdb,0,none⟩,nb,nb⟩,sd6,sf,zx,zx⟩ ⟨List.replicate nf frF,0,List.replicate ns 0,List.replicate ns zt,[],db6.set n [p0,p1,p2,p3,p4,p5,p6,p7],dq6,fl,nb,[],[]⟩):=e2;have PF14:Hid (zp W14 pf 88 [I6 sz,bs.x]):=e3;have RW14:Hid (zb blE (pf+1) W14 (bs.x) bl):=e4;have X14:Hid (zp W14 w.heap.size 41 zM):=e5;clear e1 e2 e3 e4 e5 u0 g0 gr14 op14 hI14 hI0 hx7 hne;clear hf0 hf1 hf2 hf3 hf4 hf5 hf6 hf7;obtain⟨W15,hW15⟩:∃W15,W14.setCell ⟨b,7,none⟩ (.slice da dn dc)=W15:=⟨_,rfl⟩;have hg15:W14.grownBy W15 (some b):=by rw[<-hW15];exact qZ _ _ _ _
      have M15:Mk w hi W15 b vl13 L13 ⟨⟨some ⟨gf,0,none⟩,nf,nf⟩,⟨some ⟨gl,0,none⟩,ns,ns⟩,⟨some ⟨gsb,0,none⟩,ns,ns⟩,zx,⟨some ⟨gdb,0,none⟩,nb,nb⟩,⟨da,dn,dc⟩,sf,zx,zx⟩ ⟨List.replicate nf frF,0,List.replicate ns 0,List.replicate ns zt,[],db6.set n [p0,p1,p2,p3,p4,p5,p6,p7],dq6++ [((n:Int),[p0,p1,p2,p3,p4,p5,p6,p7])],fl,nb,[],[]⟩ zx []:=⟨zd GW14 hg15 F13.mm.hb,F13.mm.hb,by rw[<-hW15];exact B14.set 7 _,F13.mm.lr,F13.mm.lc,F13.mm.lb,R14.var hg15 B14 hg15.size (.inl rfl)⟩
      have F15:Hid (FC w hi b W15 vl13 L13 ⟨⟨some ⟨gf,0,none⟩,nf,nf⟩,⟨some ⟨gl,0,none⟩,ns,ns⟩,⟨some ⟨gsb,0,none⟩,ns,ns⟩,zx,⟨some ⟨gdb,0,none⟩,nb,nb⟩,⟨da,dn,dc⟩,sf,zx,zx⟩ ⟨List.replicate nf frF,0,List.replicate ns 0,List.replicate ns zt,[],(db6.set n [p0,p1,p2,p3,p4,p5,p6,p7]),(dq6++ [((n:Int),[p0,p1,p2,p3,p4,p5,p6,p7])]),fl,nb,[],[]⟩ pf sz bs bl):=dD<|⟨M15,F13.hp,(FB14.kind hg15 B14 (.inl (by decide)) (.inl (by decide))).as rfl rfl,F13.fn,PF14.kind hg15 B14 (by decide),RW14.kind hg15 B14 (by decide)⟩
      have X15:Hid (zp W15 w.heap.size 41 zM):=X14.kind hg15 B14 (by decide)
      have HW15:Hid (_=W15):=hW15;have x7:=B14.box.c 7 rfl;have xf:=B14.box.f;clear hW15 hg15;go_wp2;rw[HW15.out]
      go_meet
      exact⟨(n:Int),vl13,L13,⟨da,dn,dc⟩,_,_,rfl,rfl,F15,LL13,X15,(show _/\_ from⟨FI.1.block (more:=true) (by rw[FI.2.2];exact hn) HUF.1 HUF.2,HDL⟩)⟩
     have hye:(y == 1)=false:=by simp[hy]
     clear hy;go_wp2
     go_meet
     exact⟨(n:Int),vl13,L13,sd6,_,_,rfl,rfl,F13,LL13,X13,(show _/\_ from⟨FI.1.block (more:=false) (by rw[FI.2.2];exact hn) HUF.1 HUF.2,HDL⟩)⟩
   obtain⟨bx,vl9,L9,sd9,db9,dq9,rfl,rfl,F9,LL9,X9,FI9⟩:=hcut;have y1:=F9.box.box.c 1 rfl;have HBL:Hid (bl.length=k3):=dD<|FI.2.1
   have HSW:Hid (pf+1<=wc.heap.size):=F9.box.box.lt
   go_wp2_with (at_builtin;refine zD (E:=blE) rfl (.tmp 155) (.tmp 157) rfl (pf+1) _ bl rfl (F9.row.grew (za _ _)) _ [bx] rfl (jY blE wc bx _ _ rfl (by decide)) ?qb ?qc ?_)
   case qb=>
    rw[HBL.out]
    show(k3+1)*8<=_
    omega
   case qc=>exact nT HSW (bS (za _ _))
   intro v4 W14 ow4 gr4;obtain⟨a4,c4,rfl⟩:=ow4.form;obtain⟨N4,hN4⟩:∃N4,(bl++ [bx]).length=N4:=⟨_,rfl⟩;rw[hN4]at ow4⊢;clear hN4;obtain⟨WX,hWX⟩:∃WX,wc.alloc (.cells #[I6 bx] 3)=WX:=⟨_,rfl⟩;have gX:=gP hWX
   have gr4':WX.grownBy W14 (bs.x).ownBlock:=by rw[<-hWX];exact gr4
   clear gr4 hWX;obtain⟨b14,k14,f14⟩:=(F9.grew gX).addB gr4' ⟨a4,N4,c4⟩ ow4;have F14:Hid (FC w hi b (W14.setCell ⟨pf,1,none⟩ (.slice a4 N4 c4)) vl9 L9 ⟨⟨some ⟨gf,0,none⟩,nf,nf⟩,⟨some ⟨gl,0,none⟩,ns,ns⟩,⟨some ⟨gsb,0,none⟩,ns,ns⟩,zx,⟨some ⟨gdb,0,none⟩,nb,nb⟩,sd9,sf,zx,zx⟩ ⟨List.replicate nf frF,0,List.replicate ns 0,List.replicate ns zt,[],db9,dq9,fl,nb,[],[]⟩ pf sz ⟨a4,N4,c4⟩ (bl++ [bx])):=f14;have X14:Hid (zp (W14.setCell ⟨pf,1,none⟩ (.slice a4 N4 c4)) w.heap.size 41 zM):=k14 _ _ _ (by decide) (by decide) (X9.grew gX)
   have B14:Hid (zp W14 pf 88 [I6 sz,bs.x]):=b14;clear b14 k14 f14 gr4' ow4 gX y1;have y1:=B14.box.c 1 rfl;have yf:=B14.box.f;go_wp2
   go_roundg (N3 -(k3+1))
   case measure=>omega
   exact⟨k3+1,vl9,L9,sd9,⟨a4,N4,c4⟩,db9,dq9,bl++ [bx],by omega,by omega,by go_num,F14,LL9,X14,(show _/\_ from⟨FI9.1,by rw[lA,HBL.out];rfl,FI9.2⟩)⟩
  have hltz3:¬(k3:Int)< (N3:Int):=by omega
  obtain rfl:k3=N3:=by omega
  go_upto_region 31 with fail;obtain⟨xs,q1,q2,q3⟩:=FX.fb;have HX:Hid (zb fvE w.heap.size wr (sf.x) xs):=q1;have HXL:Hid (xs.length=fl.length):=show _=_ from q2
  have HX3:Hid (∀(i:Nat) x f,xs[i]? =some x->fl[i]? =some f->x.size=f.size/\zb blE hi wr x.v f.bl):=dD<|fun i x f hx hf=>(q3 i x f hx hf).1
  clear q1 q2 q3;obtain⟨fx,HFX⟩:∃fx:FlV,Hid (fx=⟨sz,bs.a,bs.n,bs.c⟩):=⟨_,rfl⟩;obtain⟨I,HI⟩:∃I:World->Prop,Hid (∀u,I u↔zp u b 98 [vl6.x,.slice (some ⟨gf,0,none⟩) nf nf,I6 0,.slice (some ⟨gl,0,none⟩) ns ns,.slice (some ⟨gsb,0,none⟩) ns ns,eS,.slice (some ⟨gdb,0,none⟩) nb nb,sd6.x,sf.x,I6 (nb:Int),eS,eS,eS]/\zp u pf 88 [I6 sz,bs.x]):=⟨fun u=>zp u b 98 [vl6.x,.slice (some ⟨gf,0,none⟩) nf nf,I6 0,.slice (some ⟨gl,0,none⟩) ns ns,.slice (some ⟨gsb,0,none⟩) ns ns,eS,.slice (some ⟨gdb,0,none⟩) nb nb,sd6.x,sf.x,I6 (nb:Int),eS,eS,eS]/\zp u pf 88 [I6 sz,bs.x],fun _=>Iff.rfl⟩
  have hI0:I wr.drew:=(HI _).2 ⟨FX.mm.box.grew (gW _),FX.box.grew (gW _)⟩
  have hx8:∀y:zj I,y.world.cell? ⟨b,8,none⟩=some (sf.x):=fun y=>((HI _).1 y.holds).1.box.c 8 rfl
  have hp0:∀y:zj I,y.world.cell? ⟨pf,0,none⟩=some (I6 sz):=fun y=>((HI _).1 y.holds).2.box.c 0 rfl
  have hp1:∀y:zj I,y.world.cell? ⟨pf,1,none⟩=some (bs.x):=fun y=>((HI _).1 y.holds).2.box.c 1 rfl
  have hne:Nonempty (zj I):=⟨⟨_,hI0⟩⟩;refine zG (I:=I) 14 [(8,fun v=>∃g,v= .slice (some ⟨g,0,none⟩) 1 1),(9,fun v=>∃a n c,v= .slice a n c)] (fun u=>zc wr u) hI0 (gW _) qh (by kernel_rfl) rfl rfl (by decide) ?hS (by kernel_rfl) ?_
  case hS=>
   intro x hx;simp only[mC,nM,or_false]at hx
   rcases hx with rfl|rfl
   ·exact⟨_,0,rfl⟩
   exact⟨_,none,0,0,rfl⟩
  simp only[List.take,List.drop];iterate 2 (refine ze rfl rfl rfl (fun K hK=>?_);go_big_quiet_op;refine hK _ ?_;clear hK)
  refine zH (.tmp 162) ⟨b,0,none⟩ rfl rfl rfl rfl ?_;simp only[Act.put,sB,sS,sZ];iterate 5 (refine ze rfl rfl rfl (fun K hK=>?_);go_big_quiet_op;refine hK _ ?_;clear hK)
  refine zI rfl rfl (fun v u=>zc wr u/\zr fvE u v [fx]) (fun w' hI' hF'=>?_) (fun v1 hv=>?_)
  ·exact zN.step (v:= .slice (some ⟨w'.heap.size,0,none⟩) 1 1) (w':=w'.alloc (.cells #[I6 sz,bs.x] 88)) (by simp only[execOp];go_simp) ⟨(HI _).2 ⟨((HI _).1 hI').1.grew (za _ _),((HI _).1 hI').2.grew (za _ _)⟩,⟨_,rfl⟩,hF'.trans (za _ _),jY fvE w' fx _ _ (by rw[HFX.out];rfl) (by decide)⟩
  obtain⟨g5,rfl⟩:=hv;simp only[Act.put,sB,sS,sZ];refine zI rfl rfl (fun v u=>∃u0,zc wr u0/\u0.grownBy u (sf.x).ownBlock/\zb fvE w.heap.size u v (xs++ [fx])) (fun w' hI' hF'=>?_) (fun v1 hv=>?_)
  ·obtain⟨hg',hrw⟩:=hF';obtain⟨v',w2,hrun,ho,hgr,-⟩:=z6 (E:=fvE) (w:=w') 35 (HX.grew hg') (.slice (some ⟨g5,0,none⟩) 1 1) [fx] hrw (by have:=HXL.out;have:=HFL.out;rw[HXL.out];show(fl.length+1)*32<=_;omega) (nT (bS FX.mm.gr) (bS hg'))
   obtain⟨a',c',rfl⟩:=ho.form;have hbx:I w2:=by
    cases hob:(sf.x).ownBlock with
    | none=>
     rw[hob]at hgr;exact(HI _).2 ⟨((HI _).1 hI').1.grew (qr hgr),((HI _).1 hI').2.grew (qr hgr)⟩
    | some gq=>
     rw[hob]at hgr;obtain⟨cs,hc⟩:=(HX.grew hg').obj hob;have hlt:=FX.fn gq hob;exact(HI _).2 ⟨((HI _).1 hI').1.kind hgr hc (by decide),((HI _).1 hI').2.beside hgr (fun k e=>by cases e;omega)⟩
   refine zN.step (v:= .slice a' (xs++ [fx]).length c') (w':=w2) ?_ ⟨hbx,⟨a',_,c',rfl⟩,w',hg',hgr,ho⟩;simp only[execOp,resolve,invoke,builtin,pure_bind,Sem.run_bind,Sem.run_pure,List.map_toArray,mP,List.map_nil];exact Eq.trans (congrArg (fun r=>Result.andThen r (fun a w'=>Result.ok (Next.value a) w')) hrun) rfl
  obtain⟨fa,fn,fc,rfl⟩:=hv;simp only[Act.put,sB,sS,sZ];refine zH (.tmp 161) ⟨b,0,none⟩ rfl rfl rfl rfl ?_;simp only[Act.put,sB,sS,sZ];iterate 3 (refine ze rfl rfl rfl (fun K hK=>?_);go_big_quiet_op;refine hK _ ?_;clear hK)
  refine qj fun W14 hI14 hF14=>?_
  obtain⟨u0,g0,gr14,op14⟩:=hF14;have B14:Hid (zp W14 b 98 [vl6.x,.slice (some ⟨gf,0,none⟩) nf nf,I6 0,.slice (some ⟨gl,0,none⟩) ns ns,.slice (some ⟨gsb,0,none⟩) ns ns,eS,.slice (some ⟨gdb,0,none⟩) nb nb,sd6.x,sf.x,I6 (nb:Int),eS,eS,eS]):=((HI _).1 hI14).1;have R14:Hid (MkR w.heap.size hi W14 ⟨⟨some ⟨gf,0,none⟩,nf,nf⟩,⟨some ⟨gl,0,none⟩,ns,ns⟩,⟨some ⟨gsb,0,none⟩,ns,ns⟩,zx,⟨some ⟨gdb,0,none⟩,nb,nb⟩,sd6,⟨fa,fn,fc⟩,zx,zx⟩ ⟨List.replicate nf frF,0,List.replicate ns 0,List.replicate ns zt,[],db6,dq6,fl++ [⟨sz,bl⟩],nb,[],[]⟩ zx []):=(FX.mm.rows.grew g0).addFl (HX.grew g0) HXL (fun i x f hx hf=>⟨(HX3 i x f hx hf).1,(HX3 i x f hx hf).2.grew g0⟩) gr14 ⟨fa,fn,fc⟩ (x:=fx) (f:=⟨sz,bl⟩) (by rw[HFX.out]) (by rw[HFX.out];exact(FX.row.grew g0).base (by have:=FX.hp;omega)) op14
  have hk14:zc w W14/\zp W14 w.heap.size 41 zM:=by
   cases hob:(sf.x).ownBlock with
   | none=>
    rw[hob]at gr14;exact⟨(FX.mm.gr.trans g0).trans (qr gr14),(XX.grew g0).grew (qr gr14)⟩
   | some gq=>
    rw[hob]at gr14;obtain⟨cs,hc⟩:=(HX.grew g0).obj hob;exact⟨zd (FX.mm.gr.trans g0) gr14 ((HX.grew g0).lt gq hob).1,(XX.grew g0).kind gr14 hc (by decide)⟩
  obtain⟨e1,e5⟩:=hk14;have hg15:=qZ W14 b 8 (.slice fa fn fc);have M15:Hid (Mk w hi (W14.setCell ⟨b,8,none⟩ (.slice fa fn fc)) b vl6 L6 ⟨⟨some ⟨gf,0,none⟩,nf,nf⟩,⟨some ⟨gl,0,none⟩,ns,ns⟩,⟨some ⟨gsb,0,none⟩,ns,ns⟩,zx,⟨some ⟨gdb,0,none⟩,nb,nb⟩,sd6,⟨fa,fn,fc⟩,zx,zx⟩ ⟨List.replicate nf frF,0,List.replicate ns 0,List.replicate ns zt,[],db6,dq6,fl++ [⟨sz,bl⟩],nb,[],[]⟩ zx []):=dD<|⟨zd e1 hg15 FX.mm.hb,FX.mm.hb,B14.set 8 _,FX.mm.lr,FX.mm.lc,FX.mm.lb,R14.var hg15 B14 hg15.size (.inl rfl)⟩
  have X15:Hid (zp (W14.setCell ⟨b,8,none⟩ (.slice fa fn fc)) w.heap.size 41 zM):=e5.kind hg15 B14 (by decide)
  have FI15:Hid (zd8 (fl++ [⟨sz,bl⟩]) nb db6 dq6 []/\(fl++ [(⟨sz,bl⟩:Fl)]).length<=k2+1/\db6.length=nb/\∀f∈fl++ [(⟨sz,bl⟩:Fl)],f.size<40):=dD<|⟨FI.1.file (by have:=HFL.out;omega) (by have:=HSZ.out;omega) (by rw[FI.2.1,HN3.out]),by have:=HFL.out;simp;omega,FI.2.2,fun f hf=>by
   rcases List.mem_append.1 hf with hf|hf
   ·exact HF40 f hf
   simp only[mC,nM,or_false]at hf;rw[hf];exact HSZ.2⟩
  clear u0 g0 gr14 op14 e1 e5 hg15 hI14 hI0 hx8 hp0 hp1 hne;have x8:=B14.box.c 8 rfl;have xf:=B14.box.f;go_wp2
  go_roundg (c -(k2+1))
  case measure=>omega
  exact⟨k2+1,vl6,L6,sd6,⟨fa,fn,fc⟩,db6,dq6,fl++ [(⟨sz,bl⟩:Fl)],by omega,by omega,by go_num,M15,LX,X15,FI15,(fun h=>absurd h (Nat.succ_ne_zero _))⟩
 have hltz2:¬(k2:Int)< (c:Int):=by omega
 have BI:Hid (qQ ⟨List.replicate nf frF,0,List.replicate ns 0,List.replicate ns zt,[],db,dq,fl,nb,[],[]⟩ []):=FW.1.start hnf40 hns60 0;have HFL2:Hid (fl.length<=2/\∀f∈fl,f.size<40):=show _/\_ from⟨by have:=FW.2.1;omega,FW.2.2.2⟩
 have HE0:Hid (L=[]->fl=[]/\dq=[]/\db=List.replicate nb zt):=dD<|fun e=>ZW.out (by have:=HC0.out e;omega)
 have hpk3:=qx 2 MW.out;go_wp2_with fail;refine hpk3.mono ?_;clear hpk3;rintro e W4 ⟨vl4,L4,y,rfl,mk4,gr4,-,s0,s1,s2,ll4⟩;obtain⟨n5,hn5⟩:∃n5:Nat,1+y=(n5:Int):=⟨(1+y).toNat,by omega⟩
 have hn52:n5<=2:=by rcases s1 with h | h <;> omega
 have hn51:1<=n5:=by omega
 have HN1:Hid (L=[]->n5=1):=dD<|fun e=>by have:=s2 (LW e);omega
 have M4:Hid (Mk w hi W4 b vl4 L4 ⟨⟨some ⟨gf,0,none⟩,nf,nf⟩,⟨some ⟨gl,0,none⟩,ns,ns⟩,⟨some ⟨gsb,0,none⟩,ns,ns⟩,zx,⟨some ⟨gdb,0,none⟩,nb,nb⟩,sd,sf,zx,zx⟩ ⟨List.replicate nf frF,0,List.replicate ns 0,List.replicate ns zt,[],db,dq,fl,nb,[],[]⟩ zx []):=mk4;have X4:Hid (zp W4 w.heap.size 41 zM):=XW.beside gr4 (fun g e=>by cases e;have:=HBB.out;omega)
 have LL4:=dD (LW.trans ll4);clear mk4 gr4 ll4 s0 s1 s2;go_wp2
 go_loopg [179] n5 (fun gg s179 wr=>∃(k5:Nat) (vl':Sli) (L':List Int) (V':MaV) (m':Ma) (vt':Sli) (T':List (Nat->En)),k5<=n5/\n5 - k5<=gg/\s179=I6 k5/\Hid (Mk w hi wr b vl' L' V' m' vt' T')/\Hid (ZN L L')/\Hid (zp wr w.heap.size 41 zM)/\Hid (qQ m' T')/\Hid (m'.sp.length=k5/\(∀s∈m'.sp,qS m'.fl.length s.ars/\jW s.ars 64<=12)/\m'.hand=0/\m'.fs.length=nf/\(m'.fl.length<=2/\∀f∈m'.fl,f.size<40))/\Hid (L=[]->m'=zeI nf ns nb k5/\T'=List.replicate k5 (fun _=>en0)))
 case atStart=>exact⟨0,vl4,L4,_,_,_,_,nZ _,by omega,rfl,M4,LL4,X4,BI,(show _/\_ from⟨rfl,fun s hs=>(by cases hs),rfl,lR,HFL2⟩),(show _->_ from fun e=>by obtain⟨a1,a2,a3⟩:=HE0.out e;rw[a1,a2,a3];exact⟨rfl,rfl⟩)⟩
 obtain⟨k5,vl5,L5,V5,m5,vt5,T5,hk5,hg5,rfl,MX,LX,XX,BX5,S5,E5⟩:=hrel;have HL5:Hid (m5.sp.length=k5):=S5.1
 by_cases hlt5:k5<n5
 ·have hltz5:(k5:Int)< (n5:Int):=by omega
  by_cases h1:k5=1
  ·subst h1;have HL1:Hid (L≠[]):=dD<|fun e=>by have:=HN1.out e;omega
   have h1e:((((1:Nat):Int)) == 1)=true:=by decide
   have hpk4:=qx 2 MX.out;go_wp2_with fail;refine hpk4.mono ?_;clear hpk4;rintro e W7 ⟨vl7,L7,z,rfl,mk7,gr7,-,-,-,-,ll7⟩;have M7:Hid (Mk w hi W7 b vl7 L7 V5 m5 vt5 T5):=mk7;have X7:Hid (zp W7 w.heap.size 41 zM):=XX.beside gr7 (fun g e=>by cases e;have:=HBB.out;omega)
   have LL7:=dD (LX.trans ll7);clear mk7 gr7 ll7;obtain⟨MX,LX,XX⟩:Hid (Mk w hi W7 b vl7 L7 V5 m5 vt5 T5)/\Hid (ZN L L7)/\Hid (zp W7 w.heap.size 41 zM):=⟨M7,LL7,X7⟩
   by_cases hz:z=1
   ·have hze:(z == 1)=true:=by simp[hz]
    clear hz;obtain⟨s0,hs0⟩:=List.length_eq_one_iff.1 HL5.out;have HS0:Hid (m5.sp=[s0]):=hs0;clear hs0;have hfk:=zjW s0 MX BX5 HS0.out;go_wp2_with fail;refine hfk.mono ?_;clear hfk;rintro e W9 ⟨⟨v,rfl⟩,V9,m9,vt9,T9,q1,q3,q4,⟨q5,q6,q7,q8⟩⟩;have M9:Hid (Mk w hi W9 b vl7 L7 V9 m9 vt9 T9):=q1;have X9:Hid (zp W9 w.heap.size 41 zM):=q3.1 _ _ _ XX zdL;have B9:Hid (qQ m9 T9):=q4;have S9:Hid (m9.sp.length=1+1/\(∀s∈m9.sp,qS m9.fl.length s.ars/\jW s.ars 64<=12)/\m9.hand=0/\m9.fs.length=nf/\(m9.fl.length<=2/\∀f∈m9.fl,f.size<40)):=show _/\_ from⟨by rw[q5,HS0.out];rfl,fun s hs=>by
     rw[q5]at hs;rw[q6]
     rcases List.mem_append.1 hs with hs|hs
     ·exact S5.2.1 s hs
     simp only[mC,nM,or_false]at hs;rw[hs];exact S5.2.1 s0 (by rw[HS0.out];simp),q7.trans S5.2.2.1,q8.trans S5.2.2.2.1,by rw[q6];exact S5.2.2.2.2⟩
    have E9:Hid (L=[]->m9=zeI nf ns nb (1+1)/\T9=List.replicate (1+1) (fun _=>en0)):=dD<|fun e=>absurd e HL1.out
    clear q1 q3 q4 q5 q6 q7 q8;go_wp2
    go_roundg (n5 -(1+1))
    case measure=>omega
    exact⟨1+1,vl7,L7,V9,m9,vt9,T9,by omega,by omega,by go_num,M9,LX,X9,B9,S9,E9⟩
   have hze:(z == 1)=false:=by simp[hz]
   clear hz;have hsp:=zek MX BX5 (by rw[HL5.out];omega)
   go_wp2_with fail;refine hsp.mono ?_;clear hsp;rintro e W9 ⟨⟨v,rfl⟩,vl9,L9,V9,m9,vt9,T9,l9,q1,q2,q3,q4,⟨q5,q6,q7,q8⟩,q9,q10⟩;have M9:Hid (Mk w hi W9 b vl9 L9 V9 m9 vt9 T9):=q1;have LL9:=dD (LX.trans q2);have X9:Hid (zp W9 w.heap.size 41 zM):=q3.1 _ _ _ XX zdL;have B9:Hid (qQ m9 T9):=q4;have S9:Hid (m9.sp.length=1+1/\(∀s∈m9.sp,qS m9.fl.length s.ars/\jW s.ars 64<=12)/\m9.hand=0/\m9.fs.length=nf/\(m9.fl.length<=2/\∀f∈m9.fl,f.size<40)):=show _/\_ from⟨by rw[q5,lA,HL5.out];rfl,fun s hs=>by
    rw[q5]at hs;rw[q6]
    rcases List.mem_append.1 hs with hs|hs
    ·exact S5.2.1 s hs
    simp only[mC,nM,or_false]at hs;rw[hs];exact q9,q7.trans S5.2.2.1,q8.trans S5.2.2.2.1,by rw[q6];exact S5.2.2.2.2⟩
   have E9:Hid (L=[]->m9=zeI nf ns nb (1+1)/\T9=List.replicate (1+1) (fun _=>en0)):=dD<|fun e=>absurd e HL1.out
   clear q1 q2 q3 q4 q5 q6 q7 q8 q9 q10;go_wp2
   go_roundg (n5 -(1+1))
   case measure=>omega
   exact⟨1+1,vl9,L9,V9,m9,vt9,T9,by omega,by omega,by go_num,M9,LL9,X9,B9,S9,E9⟩
  obtain rfl:k5=0:=by omega
  have h1e:((((0:Nat):Int)) == 1)=false:=by decide
  have hsp:=zek MX BX5 (by rw[HL5.out];omega)
  go_wp2_with fail;refine hsp.mono ?_;clear hsp;rintro e W9 ⟨⟨v,rfl⟩,vl9,L9,V9,m9,vt9,T9,l9,q1,q2,q3,q4,⟨q5,q6,q7,q8⟩,q9,q10⟩;have M9:Hid (Mk w hi W9 b vl9 L9 V9 m9 vt9 T9):=q1;have LL9:=dD (LX.trans q2);have X9:Hid (zp W9 w.heap.size 41 zM):=q3.1 _ _ _ XX zdL;have B9:Hid (qQ m9 T9):=q4;have S9:Hid (m9.sp.length=0+1/\(∀s∈m9.sp,qS m9.fl.length s.ars/\jW s.ars 64<=12)/\m9.hand=0/\m9.fs.length=nf/\(m9.fl.length<=2/\∀f∈m9.fl,f.size<40)):=show _/\_ from⟨by rw[q5,lA,HL5.out];rfl,fun s hs=>by
   rw[q5]at hs;rw[q6]
   rcases List.mem_append.1 hs with hs|hs
   ·exact S5.2.1 s hs
   simp only[mC,nM,or_false]at hs;rw[hs];exact q9,q7.trans S5.2.2.1,q8.trans S5.2.2.2.1,by rw[q6];exact S5.2.2.2.2⟩
  have E9:Hid (L=[]->m9=zeI nf ns nb (0+1)/\T9=List.replicate (0+1) (fun _=>en0)):=dD<|fun e=>by
   obtain⟨a1,a2⟩:=q10 (LX e);obtain⟨b1,b2⟩:=E5.out e;rw[b1]at a1;rw[b2]at a2;exact⟨a1,a2⟩
  clear q1 q2 q3 q4 q5 q6 q7 q8 q9 q10;go_wp2
  go_roundg (n5 -(0+1))
  case measure=>omega
  exact⟨0+1,vl9,L9,V9,m9,vt9,T9,by omega,by omega,by go_num,M9,LL9,X9,B9,S9,E9⟩
 have hltz5:¬(k5:Int)< (n5:Int):=by omega
 obtain⟨ys0,z1,z2,-⟩:=MX.rows.sp;have HN5:Hid (V5.sp.n=k5):=dD<|by rw[z1.n,z2,HL5.out]
 obtain⟨ht,HHT⟩:∃ht,Hid (wr.heap.size=ht):=⟨_,rfl⟩;have HBT:Hid (b<ht):=dD<|by rw[<-HHT.out];exact MX.box.box.lt
 have HXT:Hid (w.heap.size<ht):=dD<|by rw[<-HHT.out];exact XX.box.lt
 have HZ1:Hid (∀g,(V5.sp.x).ownBlock=some g->g<ht):=dD<|fun g hg=>by rw[<-HHT.out];exact(z1.lt g hg).2
 have NX:Hid (zi8 w wr b vl5 L5 [V5.f.x,I6 m5.hand,V5.s.x,V5.sb.x,V5.sq.x,V5.db.x,V5.dq.x,V5.fl.x,I6 m5.cnt,V5.ca.x,V5.sp.x,vt5.x]):=MX.nums;have TX:Hid (MkT w.heap.size hi ht 0 wr V5 m5 vt5 T5):=MX.rows.start ht HHT.out;have HTL:Hid (T5.length=k5):=show _=_ by rw[BX5.tl,HL5.out]
 have HK:Hid (∀(p:Nat) f,T5[p]? =some f->∀e∈tab f,0<=e.kind):=dD<|fun p f hf e he=>by
  obtain⟨j,hj⟩:=List.getElem?_of_mem he;have hj64:j<64:=by have:=(gS.1 hj).1;rw[Qj]at this;exact this
  rw[QX hj64]at hj;cases hj;have hp:p<m5.sp.length:=by rw[<-BX5.tl];exact(gS.1 hf).1
  rcases BX5.ent p _ f (gE hp) hf j hj64 with e|e
  ·rw[e];decide
  by_cases hk:(f j).kind=2
  ·omega
  have:=(qM e hk).1;omega
 have x11:=MX.box.box.c 11 rfl;(try simp only[Sli.x]at x11);rw[HN5.out]at x11;clear z1 z2 ys0;go_wp2;clear x11
 go_loopg [200] k5 (fun gg s200 wr=>∃p:Nat,p<=k5/\k5 - p<=gg/\s200=I6 p/\Hid (MkT w.heap.size hi ht p wr V5 m5 vt5 T5)/\Hid (zi8 w wr b vl5 L5 [V5.f.x,I6 m5.hand,V5.s.x,V5.sb.x,V5.sq.x,V5.db.x,V5.dq.x,V5.fl.x,I6 m5.cnt,V5.ca.x,V5.sp.x,vt5.x])/\Hid (zp wr w.heap.size 41 zM)/\Hid (ht<=wr.heap.size))
 case atStart=>exact⟨0,nZ _,by omega,rfl,TX,NX,XX,(show _<=_ by rw[HHT.out];exact nR _)⟩
 obtain⟨p,hp,hg6,rfl,TW,NW,XW,HW⟩:=hrel
 by_cases hlt6:p<k5
 ·have hltz6:(p:Int)< (k5:Int):=by omega
  obtain⟨f,HF⟩:∃f,Hid (T5[p]? =some f):=⟨_,gE (by rw[HTL.out];exact hlt6)⟩
  obtain⟨ys,s1,s2,s3⟩:=TW.sp;have hyl:ys.length=k5:=by rw[s2,HL5.out]
  obtain⟨x,HX⟩:∃x,Hid (ys[p]? =some x):=⟨_,gE (by omega)⟩
  obtain⟨gs,cs,hse⟩:=s1.formS (by omega)
  rw[hyl]at hse;have HSE:Hid (V5.sp.x=(.slice (some ⟨gs,0,none⟩) k5 cs)):=hse;obtain⟨gt,ct,hte⟩:=TW.tt.formS (by rw[HTL.out];omega)
  rw[HTL.out]at hte;have HTE:Hid (vt5.x=(.slice (some ⟨gt,0,none⟩) k5 ct)):=hte;have S1:Hid (zb jx w.heap.size wr (.slice (some ⟨gs,0,none⟩) k5 cs) ys):=show zb _ _ _ _ _ by rw[<-HSE.out];exact s1
  have R1:Hid (zb QG w.heap.size wr (.slice (some ⟨gt,0,none⟩) k5 ct) T5):=dD<|by rw[<-HTE.out];exact TW.tt
  have S2:Hid (ys.length=m5.sp.length):=s2;have S3:Hid (∀(i:Nat) x s f,ys[i]? =some x->m5.sp[i]? =some s->T5[i]? =some f->x.live=s.live/\zb arE w.heap.size wr x.ar.v s.ars/\(i<p->ZM 0 ht wr x.tab (Zg f))/\(p<=i->x.tab=ZQ)):=show∀i,_ from s3
  clear s1 s2 s3 hse hte hyl;go_upto_region 43 with fail;obtain⟨I,HI⟩:∃I:World->Prop,Hid (∀u,I u↔zc wr u):=⟨fun u=>zc wr u,fun _=>Iff.rfl⟩
  have hI0:I wr.drew:=(HI _).2 (gW _)
  have hx11:∀y:zj I,y.world.cell? ⟨b,11,none⟩=some (.slice (some ⟨gs,0,none⟩) k5 cs):=fun y=>by
   have:=(NW.box.box.grew ((HI _).1 y.holds)).c 11 rfl;rw[HSE.out]at this;exact this
  have hx12:∀y:zj I,y.world.cell? ⟨b,12,none⟩=some (.slice (some ⟨gt,0,none⟩) k5 ct):=fun y=>by
   have:=(NW.box.box.grew ((HI _).1 y.holds)).c 12 rfl;rw[HTE.out]at this;exact this
  have hne:Nonempty (zj I):=⟨⟨_,hI0⟩⟩;refine zG (I:=I) 16 [(13,fun v=>∃us:List Value,v= .agg us.toArray)] (fun _=>True) hI0 trivial qh (by kernel_rfl) rfl rfl (by decide) ?hS (by kernel_rfl) ?_
  case hS=>
   intro x hx;simp only[mC,nM,or_false]at hx;subst hx;exact⟨_,[],rfl⟩
  simp only[List.take,List.drop];iterate 1 (refine ze rfl rfl rfl (fun K hK=>?_);go_big_quiet_op;refine hK _ ?_;clear hK)
  refine zH (.tmp 203) ⟨b,0,none⟩ rfl rfl rfl rfl ?_;simp only[Act.put,sB,sS,sZ];iterate 5 (refine ze rfl rfl rfl (fun K hK=>?_);go_big_quiet_op;refine hK _ ?_;clear hK)
  refine zH (.tmp 209) ⟨b,0,none⟩ rfl rfl rfl rfl ?_;simp only[Act.put,sB,sS,sZ];iterate 4 (refine ze rfl rfl rfl (fun K hK=>?_);go_big_quiet_op;refine hK _ ?_;clear hK)
  refine zjH (.agg (qk (tab f)).toArray) rfl rfl (fun u hu=>zfF (.tmp 214) rfl gt (p*192) rfl ((R1.grew ((HI _).1 hu)).range HF) (by rw[Zz,Qj])) ?_
  simp only[Act.put,sB,sS,sZ];refine zI rfl rfl (fun v u=>∃us:List Value,v= .agg us.toArray/\ZM 0 ht u us (Zg f)) (fun w' hI' _=>?_) (fun v1 hv=>?_)
  ·refine zN.call [.agg (qk (tab f)).toArray] rfl func49 rfl rfl rfl ?_;refine(zfx (tab f) w' (Qj f) (HK p f HF)).mono ?_;rintro e w'' ⟨us,rfl,ht1,ht2⟩;exact⟨_,rfl,(HI _).2 (((HI _).1 hI').trans ht2),⟨us,rfl⟩,us,rfl,ht1.less (nR _) (nT HW (bS ((HI _).1 hI')))⟩
  obtain⟨us,rfl⟩:=hv;simp only[Act.put,sB,sS,sZ];iterate 2 (refine ze rfl rfl rfl (fun K hK=>?_);go_big_quiet_op;refine hK _ ?_;clear hK)
  refine qj fun W1 hI1 hF1=>?_
  obtain⟨us',hus,ht1⟩:=hF1;have hue:us=us':=by
   simp only[Value.agg.injEq]at hus
   simpa using congrArg Array.toList hus
  subst hue;obtain⟨t0,t1,t2,t3,t4,t5,t6,t7,rfl⟩:=zhL ht1;have g1:=(HI _).1 hI1;have T1:Hid (ZM 0 ht W1 [t0.v,t1.v,t2.v,t3.v,t4.v,t5.v,t6.v,t7.v] (Zg f)):=ht1;have G1:Hid (zc wr W1):=g1;clear hus ht1 g1 hI1 hI0 hx11 hx12 hne;refine zC (E:=jx) rfl (.tmp 218) (.tmp 216) 53 rfl w.heap.size _ ys (S1.grew G1) gs p 2 rfl x ⟨x.live,x.ar,t0,t1,t2,t3,t4,t5,t6,t7⟩ HX.out [t0.v,t1.v,t2.v,t3.v,t4.v,t5.v,t6.v,t7.v] (by kernel_rfl) rfl (by show 2+8<=10;omega) (fun u hu=>by simp only[mC,nM,or_false]at hu;rcases hu with rfl | rfl | rfl | rfl | rfl | rfl | rfl | rfl <;> rfl) _ rfl (by first | rfl | simp) _ rfl rfl ?_
  intro W2 ow2 gr2 sz2;obtain⟨cs',hcs⟩:=(S1.grew G1).obj (g:=gs) rfl;have hgl:gs<ht:=HZ1.out gs (by rw[HSE.out];rfl)
  have T2:Hid (MkT w.heap.size hi ht (p+1) W2 V5 m5 vt5 T5):=(TW.grew G1).table S2 (fun i x s f hx hs hf=>by
   obtain⟨a1,a2,a3,a4⟩:=S3.out i x s f hx hs hf;exact⟨a1,a2.grew G1,fun e=>(a3 e).grew G1,a4⟩) hcs hgl gr2 HX HF (y:=⟨x.live,x.ar,t0,t1,t2,t3,t4,t5,t6,t7⟩) ⟨rfl,rfl⟩ (T1.out.out (Out.grown gr2 (fun g e=>by cases e;exact⟨nZ _,hgl⟩))) (by (first|rw[HSE.out]|rw[show Value.slice _ _ _=_ from HSE.out]);exact ow2)
  have N2:Hid (zi8 w W2 b vl5 L5 [V5.f.x,I6 m5.hand,V5.s.x,V5.sb.x,V5.sq.x,V5.db.x,V5.dq.x,V5.fl.x,I6 m5.cnt,V5.ca.x,V5.sp.x,vt5.x]):=dD<|⟨zd (NW.gr.trans G1) gr2 ((S1.grew G1).lt gs rfl).1,NW.hb,(NW.box.grew G1).beside gr2 (fun g e=>by cases e;exact(S1.grew G1).ne (NW.box.grew G1) (by decide) gs rfl),NW.lr,NW.lc,NW.lb⟩
  have X2:Hid (zp W2 w.heap.size 41 zM):=(XW.grew G1).beside gr2 (fun g e=>by cases e;exact(S1.grew G1).ne (XW.grew G1) (by decide) gs rfl)
  have H2:Hid (ht<=W2.heap.size):=dD<|by rw[sz2];exact nT HW (bS G1)
  clear ow2 gr2 sz2 hcs hgl;go_wp2
  go_roundg (k5 -(p+1))
  case measure=>omega
  exact⟨p+1,by omega,by omega,by go_num,T2,N2,X2,H2⟩
 have hltz6:¬(p:Int)< (k5:Int):=by omega
 obtain rfl:k5=p:=by omega
 have HSPL:Hid (1<=m5.sp.length/\m5.sp.length<=2):=dD<|by rw[HL5.out];omega
 by_cases h0:0<nf
 ·have h0d:decide ((0:Int)< (nf:Int))=true:=by simp;omega
  have hpk:=zjr (nf:Int) NW.out;go_wp2_with fail;refine hpk.mono ?_;clear hpk;rintro e W20 ⟨vl20,L20,y,rfl,nm20,gr20,-,y0,y1,yn,-⟩;have T20:Hid (MkT w.heap.size hi ht k5 W20 V5 m5 vt5 T5):=TW.other gr20 NW.box HBT (.inl rfl);have X20:Hid (zp W20 w.heap.size 41 zM):=XW.kind gr20 NW.box (by decide)
  have N20:Hid (zi8 w W20 b vl20 L20 [V5.f.x,I6 m5.hand,V5.s.x,V5.sb.x,V5.sq.x,V5.db.x,V5.dq.x,V5.fl.x,I6 m5.cnt,V5.ca.x,V5.sp.x,vt5.x]):=nm20;have HY:Hid (0<=y/\y<max (m5.fs.length:Int) 1):=show _/\_ from⟨y0,by rw[S5.2.2.2.1];omega⟩
  have HY0:Hid (L=[]->y=0):=dD<|fun e=>yn (LX e)
  clear nm20 gr20 y0 y1 yn;have x2:=N20.box.box.c 2 rfl;have xf:=N20.box.box.f;go_upto_region 47 with fail;clear x2 xf;obtain⟨W21,hW21⟩:∃W21,W20.setCell ⟨b,2,none⟩ (I6 y)=W21:=⟨_,rfl⟩;have hg21:W20.grownBy W21 (some b):=by rw[<-hW21];exact qZ _ _ _ _
  have B21:Hid (zp W21 b 98 [vl20.x,V5.f.x,I6 y,V5.s.x,V5.sb.x,V5.sq.x,V5.db.x,V5.dq.x,V5.fl.x,I6 m5.cnt,V5.ca.x,V5.sp.x,vt5.x]):=dD<|by rw[<-hW21];exact N20.box.set 2 _
  have T21:Hid (MkT w.heap.size hi ht k5 W21 V5 m5 vt5 T5):=T20.other hg21 N20.box HBT (.inl rfl);have X21:Hid (zp W21 w.heap.size 41 zM):=X20.kind hg21 N20.box (by decide)
  have G21:Hid (zc w W21):=zd N20.gr hg21 N20.hb;rw[hW21];clear hW21 hg21;have c1:=B21.box.c 1 rfl;have c2:=B21.box.c 2 rfl;have c3:=B21.box.c 3 rfl;have c4:=B21.box.c 4 rfl;have c5:=B21.box.c 5 rfl;have c6:=B21.box.c 6 rfl;have c7:=B21.box.c 7 rfl;have c8:=B21.box.c 8 rfl;have c9:=B21.box.c 9 rfl;have c10:=B21.box.c 10 rfl;have c11:=B21.box.c 11 rfl
  go_wp2_with (refine qI rfl 41 (.tmp 8) (.tmp 233) rfl w.heap.size rfl [V5.f.x,I6 y,V5.s.x,V5.sb.x,V5.sq.x,V5.db.x,V5.dq.x,V5.fl.x,I6 m5.cnt,V5.ca.x,V5.sp.x] rfl X21 rfl zmp (fun v hv=>by simp only[mC,nM,or_false]at hv;rcases hv with rfl | rfl | rfl | rfl | rfl | rfl | rfl | rfl | rfl | rfl | rfl <;> rfl) ?_)
  intro W22 hb22 hg22 _;have HRS:Hid (zi2 w nf ns nb L W22 V5 m5 T5 y hi ht vt5):=dD<|⟨zd G21 hg22 (nR _),by rw[HL5.out];exact T21.other hg22 X21 HXT (.inr rfl),BX5,HY,S5.2.1,S5.2.2.2.2,HSPL,S5.2.2.2.1,fun e=>by obtain⟨a1,a2⟩:=E5.out e;have h1:=HN1.out e;have h2:k5=1:=(by omega);rw[h2]at a1 a2;exact⟨a1,a2,HY0 e⟩⟩
  have B22:Hid (Box W22 w.heap.size [V5.f.x,I6 y,V5.s.x,V5.sb.x,V5.sq.x,V5.db.x,V5.dq.x,V5.fl.x,I6 m5.cnt,V5.ca.x,V5.sp.x]):=hb22.box;clear hb22 hg22;clear c1 c2 c3 c4 c5 c6 c7 c8 c9 c10 c11;go_wp2;refine bodyPost_ret (qd rfl _ rfl B22 underlying41 rfl zmp) rfl ⟨V5,m5,T5,y,hi,ht,vt5,rfl,HRS⟩
 have h0d:decide ((0:Int)< (nf:Int))=false:=by simp;omega
 have B21:Hid (zp wr b 98 [vl5.x,V5.f.x,I6 0,V5.s.x,V5.sb.x,V5.sq.x,V5.db.x,V5.dq.x,V5.fl.x,I6 m5.cnt,V5.ca.x,V5.sp.x,vt5.x]):=dD<|by have:=NW.box;rw[S5.2.2.1]at this;exact this
 have G21:Hid (zc w wr):=NW.gr;have HY:Hid ((0:Int)<=0/\(0:Int)<max (m5.fs.length:Int) 1):=show _/\_ from⟨Int.le_refl _,by omega⟩
 have c1:=B21.box.c 1 rfl;have c2:=B21.box.c 2 rfl;have c3:=B21.box.c 3 rfl;have c4:=B21.box.c 4 rfl;have c5:=B21.box.c 5 rfl;have c6:=B21.box.c 6 rfl;have c7:=B21.box.c 7 rfl;have c8:=B21.box.c 8 rfl;have c9:=B21.box.c 9 rfl;have c10:=B21.box.c 10 rfl;have c11:=B21.box.c 11 rfl
 go_wp2_with (refine qI rfl 41 (.tmp 8) (.tmp 233) rfl w.heap.size rfl [V5.f.x,I6 0,V5.s.x,V5.sb.x,V5.sq.x,V5.db.x,V5.dq.x,V5.fl.x,I6 m5.cnt,V5.ca.x,V5.sp.x] rfl XW rfl zmp (fun v hv=>by simp only[mC,nM,or_false]at hv;rcases hv with rfl | rfl | rfl | rfl | rfl | rfl | rfl | rfl | rfl | rfl | rfl <;> rfl) ?_)
 intro W22 hb22 hg22 _;have HRS:Hid (zi2 w nf ns nb L W22 V5 m5 T5 0 hi ht vt5):=dD<|⟨zd G21 hg22 (nR _),by rw[HL5.out];exact TW.other hg22 XW HXT (.inr rfl),BX5,HY,S5.2.1,S5.2.2.2.2,HSPL,S5.2.2.2.1,fun e=>by obtain⟨a1,a2⟩:=E5.out e;have h1:=HN1.out e;have h2:k5=1:=(by omega);rw[h2]at a1 a2;exact⟨a1,a2,rfl⟩⟩
 have B22:Hid (Box W22 w.heap.size [V5.f.x,I6 0,V5.s.x,V5.sb.x,V5.sq.x,V5.db.x,V5.dq.x,V5.fl.x,I6 m5.cnt,V5.ca.x,V5.sp.x]):=hb22.box;clear hb22 hg22;clear c1 c2 c3 c4 c5 c6 c7 c8 c9 c10 c11;go_wp2;refine bodyPost_ret (qd rfl _ rfl B22 underlying41 rfl zmp) rfl ⟨V5,m5,T5,0,hi,ht,vt5,rfl,HRS⟩
theorem zi2.at {w:World} {nf ns nb ht:Nat} {hd:Int} (h:zi2 w nf ns nb L w' V m T hd hi ht vt):zF w' V (jO m T hd)/\maW (jO m T hd)=0:=⟨h.rows.mach h.inv.tl hd,h.inv.right h.hand.1 h.hand.2⟩
theorem zkI {k:Nat} (h:k<8):ZQ[k]? =some (eS):=by
 match k,h with
 | 0,_ | 1,_ | 2,_ | 3,_ | 4,_ | 5,_ | 6,_ | 7,_=>rfl
theorem zfD (vs:List Value) (t:List (List En)) (w:World) (hv:Zx w vs t):
  Calls prog 61 #[.agg vs.toArray,.agg #[eS,eS,eS,eS,eS,eS,eS,eS]] w fun e w'=>e= .returned (.bool (t.all (·.isEmpty)))/\zc w w':=by
 have HV:Hid (Zx w vs t):=hv;have HTL:Hid (t.length=8):=hv.tlen;clear hv;obtain⟨ANS,HANS⟩:∃ANS,Hid (t.all (·.isEmpty)=ANS):=⟨_,rfl⟩;rw[HANS.out];obtain⟨W0,hW0⟩:∃W0,(w.alloc (.cells vs.toArray 53)).alloc (.cells ZQ.toArray 53)=W0:=⟨_,rfl⟩;have HG0:=gD2 hW0
 have X0:=x2a hW0
 have Y0:=x2b hW0
 have HW0:Hid (_=W0):=hW0;clear hW0
 go_enter func61,ntmps61
 go_upto_region 1 with fail;have hw:(w.alloc (.cells vs.toArray 53)).alloc (.cells #[eS,eS,eS,eS,eS,eS,eS,eS] 53)=W0:=HW0.out;rw[hw];clear hw;go_wp2
 go_loopg [7] 8 (fun gg s7 wr=>∃kk:Nat,kk<=8/\8 - kk<=gg/\s7=I6 kk/\Hid (zc W0 wr)/\Hid (∀(j:Nat) h,j<kk->t[j]? =some h->h=[]))
 case atStart=>exact⟨0,nZ _,by omega,rfl,zc.refl _,fun j h hj=>absurd hj (nL _)⟩
 obtain⟨kk,hkk,hg,rfl,BW,OW⟩:=hrel
 by_cases hlt:kk<8
 ·have hltz:(kk:Int)<8:=by omega
  obtain⟨xa,xc,q,hq,hvk,hr⟩:=HV.half hlt;have hqbig:=hr.short;have HQ:Hid (t[kk]? =some q):=hq;obtain⟨mq,HMQ⟩:∃mq,Hid (q.length=mq):=⟨_,rfl⟩;rw[HMQ.out]at hvk hqbig;have HVK:Hid (vs[kk]? =some (.slice xa mq xc)):=hvk;clear hr hq hvk;have x0:=(X0.grew BW).c kk HVK.out;have y0:=(Y0.grew BW).c kk (zkI hlt)
  by_cases h0:mq=0
  ·subst h0;have OW':Hid (∀(j:Nat) h,j<kk+1->t[j]? =some h->h=[]):=dD<|fun j h hj hh=>by
    by_cases e:j=kk
    ·subst e;rw[HQ.out]at hh;cases hh;exact eN HMQ.out
    exact OW j h (by omega) hh
   go_wp2;go_quiet (fail);obtain⟨W2,hW2⟩:∃W2,wr.drewN nq=W2:=⟨_,rfl⟩;have G2:Hid (zc W0 W2):=dD<|by rw[<-hW2];exact BW.trans (show Below _ _ _ from bD (bR _ _) _)
   rw[hW2];clear hW2 x0 y0;have x0:=(X0.grew G2).c kk HVK.out;go_wp2
   go_loopg [23] 0 (fun g2 s23 wr2=>s23=I6 0/\Hid (zc W0 wr2))
   case atStart=>exact⟨rfl,G2⟩
   obtain⟨rfl,BW2⟩:=hrel;clear x0;go_wp2
   go_roundg (8 -(kk+1))
   case measure=>omega
   exact⟨kk+1,by omega,by omega,by go_num,BW2,OW'⟩
  have hne:((mq:Int) != 0)=true:=by simp[h0]
  have HF:Hid (ANS=false):=dD<|by
   rw[<-HANS.out]
   cases e:t.all (·.isEmpty)with
   | false=>rfl
   | true=>
    have:=List.all_eq_true.1 e q (mG HQ);have h1:=HMQ.out;rw[List.isEmpty_iff]at this;rw[this]at h1;exact absurd h1.symm h0
  have hnf:(mq != 0)=true:=by simp[h0]
  clear h0;go_wp2;go_quiet (fail);go_wp2;go_ret;exact⟨by rw[HF.out];rfl,HG0.trans (BW.trans (show Below _ _ _ from bD (bR _ _) _))⟩
 have hltz:¬(kk:Int)<8:=by omega
 have HF:Hid (ANS=true):=dD<|by
  rw[<-HANS.out,List.all_eq_true];intro h hh;obtain⟨j,hj⟩:=List.getElem?_of_mem hh;rw[OW.out j h (by have:=(gS.1 hj).1;have:=HTL.out;omega) hj]
  rfl
 go_wp2;go_ret;exact⟨by rw[HF.out];rfl,HG0.trans BW⟩
theorem zbU (a:Option Addr) (c:Nat) (fs:List Fr) (h:Int) (w:World) (hv:zR w (.slice a fs.length c) fs):
  Calls prog 94 #[.agg #[.slice a fs.length c,I6 h]] w fun e w'=>e= .returned (I6 (j1 fs h))/\zc w w':=by
 have hbig:=hv.short;obtain⟨a',c',heq,hrow⟩:=hv.frs;cases heq;have HR:Hid (Q3 w a fs):=hrow;clear hrow hv;have HM:Hid (j1 fs h=if 40<fs.length then 4 else if zap fs=0 then(if inB h (max fs.length 1)then 0 else 3)else zap fs):=rfl;obtain⟨n,HN⟩:∃n,Hid (fs.length=n):=⟨_,rfl⟩;rw[HN.out]at hbig HM⊢;obtain⟨W0,hW0⟩:∃W0,w.alloc (.cells #[.slice a n c,I6 h] 28)=W0:=⟨_,rfl⟩;have HG0:=gA hW0
 have X0:=xA hW0
 have HW0:Hid (_=W0):=hW0;clear hW0
 by_cases h40:40<n
 ·have h40z:(40:Int)< (n:Int):=by omega
  go_enter func94,ntmps94
  go_wp2;go_ret;exact⟨by rw[HM.out,if_pos h40];rfl,by rw[HW0.out];exact HG0⟩
 have h40z:¬(40:Int)< (n:Int):=by omega
 rw[if_neg h40]at HM
 go_enter func94,ntmps94
 go_wp2;rw[HW0.out]
 go_loopg [4,5,13] n (fun gg _ _ s13 wr=>∃kk:Nat,kk<=n/\n - kk<=gg/\s13=I6 kk/\Hid (zc W0 wr)/\Hid (zap (fs.drop kk)=zap fs))
 case atStart=>exact⟨0,nZ _,by omega,rfl,zc.refl _,rfl⟩
 obtain⟨kk,hkk,hg,rfl,BW,A⟩:=hrel
 by_cases hlt:kk<n
 ·have hltz:(kk:Int)< (n:Int):=by omega
  obtain⟨q,HQ⟩:∃q,Hid (fs[kk]? =some q):=⟨_,gE (by rw[HN.out];exact hlt)⟩
  obtain⟨ad,rfl,hl⟩:=HR.out kk q HQ.out;obtain⟨d0,d1,d2,d3,d4,d5,d6,d7,d8,d9,d10,d11,d12⟩:=hl wr (HG0.trans BW);have hcall:∀W,Calls prog 141 #[.agg #[U8 q.p.b0,U8 q.p.b1,U8 q.p.b2,U8 q.p.b3,U8 q.p.b4,U8 q.p.b5,U8 q.p.b6,U8 q.p.b7,I6 q.r,.bool q.u,.bool q.d,I6 q.f,I6 q.x]] W fun e w'=>e= .returned (I6 (frW q))/\zc W w':=fun W=>zaX q W
  have HST:Hid (zap (fs.drop kk)=if frW q=0 then zap (fs.drop (kk+1))else frW q):=dD<|by
   obtain⟨hlt',rfl⟩:=gS.1 HQ.out;rw[List.drop_eq_getElem_cons hlt'];rfl
  clear hl
  generalize frW q=z at hcall HST
  by_cases hz:z=0
  ·have HA:Hid (zap (fs.drop (kk+1))=zap fs):=dD<|by rw[<-A.out,HST.out,if_pos hz]
   subst hz
   go_wp2_with (go_at_call 141;refine(hcall _).mono ?_;rintro e w' ⟨rfl,hb'⟩)
   go_roundg (n -(kk+1))
   case measure=>omega
   exact⟨kk+1,by omega,by omega,by go_num,(BW.trans (za _ _)).trans hb',HA⟩
  have hzb:(z != 0)=true:=by simpa using hz
  have HF:Hid (j1 fs h=z):=dD<|by
   have h1:=A.out;rw[HST.out,if_neg hz]at h1;rw[HM.out,<-h1,if_neg hz]
  skip
  go_wp2_with (go_at_call 141;refine(hcall _).mono ?_;rintro e w' ⟨rfl,hb'⟩)
  go_ret;exact⟨by rw[HF.out];rfl,((HG0.trans BW).trans (za _ _)).trans hb'⟩
 have hltz:¬(kk:Int)< (n:Int):=by omega
 have:kk=n:=by omega
 subst this;have e0:=(X0.grew BW).c 0 rfl;have e1:=(X0.grew BW).c 1 rfl;have hz:zap fs=0:=by rw[<-A.out,List.drop_of_length_le (by rw[HN.out];exact nR _)];rfl
 have HM':Hid (j1 fs h=if inB h (max kk 1)then 0 else 3):=dD<|by rw[HM.out,if_pos hz]
 clear hz
 by_cases hh0:h=0
 ·subst hh0;rw[show inB 0 (max kk 1)=true from by simp[inB];omega,if_pos rfl]at HM'
  go_wp2;go_ret;exact⟨by rw[HM'.out];rfl,HG0.trans BW⟩
 have hh0b:(h != 0)=true:=by simp[hh0]
 by_cases hneg:h<0
 ·rw[show inB h (max kk 1)=false from by simp[inB];omega,if_neg (by decide)]at HM'
  go_wp2;go_ret;exact⟨by rw[HM'.out];rfl,HG0.trans BW⟩
 by_cases hge:(kk:Int)<=h
 ·rw[show inB h (max kk 1)=false from by simp[inB];omega,if_neg (by decide)]at HM'
  go_wp2;go_ret;exact⟨by rw[HM'.out];rfl,HG0.trans BW⟩
 rw[show inB h (max kk 1)=true from by simp[inB];omega,if_pos rfl]at HM'
 go_wp2;go_ret;exact⟨by rw[HM'.out];rfl,HG0.trans BW⟩
theorem zdB (a:Option Addr) (c:Nat) (s:List Int) (w:World) (hv:zr slE w (.slice a s.length c) s):
  Calls prog 95 #[.slice a s.length c] w fun e w'=>e= .returned (I6 (slW s))/\zc w w':=by
 have HM:Hid (slW s=if 60<s.length then 4 else if s.any zaj then 3 else 0):=rfl;have hbig:=hv.short;obtain⟨a',c',heq,hrow⟩:=hv.sls;cases heq;have HR:Hid (zaT w a s):=hrow;clear hrow hv;obtain⟨n,HN⟩:∃n,Hid (s.length=n):=⟨_,rfl⟩;rw[HN.out]at HM hbig⊢
 by_cases h60:60<n
 ·have h60z:(60:Int)< (n:Int):=by omega
  have HF:Hid (slW s=4):=dD<|by rw[HM.out,if_pos h60]
  skip
  go_enter func95,ntmps95
  go_wp2;go_ret;exact⟨by rw[HF.out];rfl,zc.refl _⟩
 have h60z:¬(60:Int)< (n:Int):=by omega
 rw[if_neg h60]at HM
 go_enter func95,ntmps95
 go_wp2
 go_loopg [4,10] n (fun gg _ s8 wr=>∃kk:Nat,kk<=n/\n - kk<=gg/\s8=I6 kk/\Hid (zc w wr)/\Hid (∀j q,j<kk->s[j]? =some q->zaj q=false))
 case atStart=>exact⟨0,nZ _,by omega,rfl,zc.refl w,fun j q hj=>absurd hj (nL _)⟩
 obtain⟨kk,hkk,hg,rfl,BW,A⟩:=hrel
 by_cases hlt:kk<n
 ·have hltz:(kk:Int)< (n:Int):=by omega
  obtain⟨q,HQ⟩:∃q,Hid (s[kk]? =some q):=⟨_,gE (by rw[HN.out];exact hlt)⟩
  obtain⟨ad,rfl,hl⟩:=HR.out kk q HQ.out;have d0:=hl wr BW.out;clear hl
  by_cases hq:zaj q=true
  ·have HF:Hid (slW s=3):=dD<|by rw[HM.out,zkp HQ.out hq];rfl
   skip
   by_cases h0:q<0
   ·clear hq;go_wp2;go_ret;exact⟨by rw[HF.out];rfl,BW⟩
   have h1:1000<q:=by simp[zaj]at hq;omega
   clear hq;go_wp2;go_ret;exact⟨by rw[HF.out];rfl,BW⟩
  have hq':zaj q=false:=by simpa using hq
  have HA:Hid (∀(j:Nat) q,j<kk+1->s[j]? =some q->zaj q=false):=dD<|fun j q' hj hq''=>by
   by_cases e:j=kk
   ·subst e;rw[HQ.out]at hq'';cases hq'';exact hq'
   exact A j q' (by omega) hq''
  have h0:¬q<0:=by intro h;exact hq (by simp[zaj,h])
  have h1:¬1000<q:=by intro h;exact hq (by simp[zaj,h])
  clear hq hq';go_wp2
  go_roundg (n -(kk+1))
  case measure=>omega
  exact⟨kk+1,by omega,by omega,by go_num,BW,HA⟩
 have hltz:¬(kk:Int)< (n:Int):=by omega
 have:kk=n:=by omega
 subst this;have HF:Hid (slW s=0):=dD<|by
  rw[HM.out,zko (fun j q hj=>A.out j q (by rw[<-HN.out];exact(gS.1 hj).1) hj)]
  rfl
 go_wp2;go_ret;exact⟨by rw[HF.out];rfl,BW⟩
def bov (b:Bool):List Value:=[.bool b]
theorem zmq:(Tryz.prog.info? 4).map (fun i=>(i.zero,i.size,i.bytes))=some (some (.bool false),1,1):=by kernel_rfl
def boE:Elt Bool where
 enc:=bov
 k:=1
 ty:=4
 st:=141
 bytes:=1
 zv:= .bool false
 zero:=false
 len:=fun _=>rfl
 one:=fun a u hu=>by
  simp only[bov,mC,nM,or_false]at hu;subst hu;rfl
 und:=underlying141
 info:=zmq
 zok:=rfl
 few:=by decide
 pos:=by decide
def Q6 (n:Nat) (g:List Int):List Bool:=(List.range n).map fun(i:Nat)=>g.contains (i:Int)
theorem zaD {n:Nat} (g:List Int) (hi:i<n):(Q6 n g)[i]? =some (g.contains (i:Int)):=by
 unfold Q6;rw[List.getElem?_map,List.getElem?_range hi];rfl
theorem zaC (n:Nat) (g:List Int):(Q6 n g).length=n:=by simp[Q6]
theorem zh7 {n:Nat} (g:List Int) (hi:i<n):(Q6 n g).set i true=Q6 n ((i:Int) :: g):=by
 apply List.ext_getElem?
 intro j
 by_cases e:j=i
 ·subst e;rw[sF (by rw[zaC];exact hi),zaD _ hi]
  simp
 rw[sN (fun h=>e h.symm)]
 rcases Nat.lt_or_ge j n with hj|hj
 ·rw[zaD _ hj,zaD _ hj];have:¬((j:Int)=(i:Int)):=by omega
  simp[this]
 rw[gN (by rw[zaC];exact hj),gN (by rw[zaC];exact hj)]
theorem zh8 (n:Nat):Q6 n []=List.replicate n false:=by
 unfold Q6
 simp[List.map_const']
theorem zcC (v:Value) (fs:List Fl) (cnt:Int) (w:World) (hv:qW w v fs):
  Calls prog 96 #[.agg #[v,I6 cnt]] w fun e w'=>e= .returned (I6 (stW fs cnt))/\zc w w':=by
 obtain⟨a,c,rfl,hbig,hrow⟩:=hv.rows;have HR:Hid (Qh w a fs):=hrow;have HD:Hid (stW fs cnt=if fs.length<=5/\0<=cnt/\cnt<=80 then zbD cnt [] fs else 4):=rfl;clear hrow hv
 generalize stW fs cnt=Z at HD⊢
 obtain⟨n,HN⟩:∃n,Hid (fs.length=n):=⟨_,rfl⟩;rw[HN.out]at hbig HD⊢;obtain⟨W0,hW0⟩:∃W0,w.alloc (.cells #[.slice a n c,I6 cnt] 37)=W0:=⟨_,rfl⟩;have HG0:=gA hW0
 have X0:=xA hW0
 have HW0:Hid (_=W0):=hW0;clear hW0
 by_cases h5:n<=5
 ·have h5z:¬(5:Int)< (n:Int):=by omega
  have h5d:decide ((5:Int)< (n:Int))=false:=decide_eq_false h5z;have h5e:decide (5<n)=false:=decide_eq_false (by omega)
  by_cases hc:0<=cnt/\cnt<=80
  ·rw[if_pos ⟨h5,hc⟩]at HD;obtain⟨m,rfl⟩:∃m:Nat,cnt=(m:Int):=⟨cnt.toNat,by omega⟩
   have hm80:m<=80:=by omega
   have hc0:¬(m:Int)<0:=by omega
   have hc0d:decide ((m:Int)<0)=false:=decide_eq_false hc0;have hc8:¬(80:Int)< (m:Int):=by omega
   have hc8d:decide ((80:Int)< (m:Int))=false:=decide_eq_false hc8;clear hc
   go_enter func96,ntmps96
   go_upto_region 3 with fail;rw[HW0.out];have x0:=X0.c 0 rfl;have x1:=X0.c 1 rfl
   go_wp2_with (refine Jc boE rfl (.tmp 23) rfl m rfl (by show m*1<=_;omega) ?_)
   intro C ow;rw[show List.replicate m boE.zero=Q6 m []from(zh8 m).symm]at ow
   show wpList _ _ _ _ _ (W0.alloc (.cells C 4))
   obtain⟨W1,hW1⟩:∃W1,W0.alloc (.cells C 4)=W1:=⟨_,rfl⟩;have ow':zb boE W0.heap.size (W0.alloc (.cells C 4)) (.slice (some ⟨W0.heap.size,0,none⟩) m m) (Q6 m []):=ow;have G01:=gA hW1
   rw[hW1]at ow'⊢;obtain⟨gh,HGH⟩:∃gh,Hid (W0.heap.size=gh):=⟨_,rfl⟩;have O1:Hid (zb boE W0.heap.size W1 (.slice (some ⟨gh,0,none⟩) m m) (Q6 m [])):=dD<|by rw[<-HGH.out];exact ow'
   rw[HGH.out];clear hW1 ow ow' x0 x1;have x0:=(X0.grew G01).c 0 rfl;have x1:=(X0.grew G01).c 1 rfl;go_wp2
   go_loopg [28] n (fun gg s28 wr=>∃kk:Nat,kk<=n/\n - kk<=gg/\s28=I6 kk/\Hid (zc W0 wr)/\Hid (zb boE W0.heap.size wr (.slice (some ⟨gh,0,none⟩) m m) (Q6 m (zbh [] (fs.take kk))))/\Hid (zbD (m:Int) (zbh [] (fs.take kk)) (fs.drop kk)=zbD (m:Int) [] fs))
   case atStart=>exact⟨0,nZ _,by omega,rfl,G01,O1,rfl⟩
   obtain⟨kk,hkk,hgg,rfl,BW,OW,AW⟩:=hrel;clear x0 x1
   by_cases hlt:kk<n
   ·have hltz:(kk:Int)< (n:Int):=by omega
    obtain⟨q,HQ⟩:∃q,Hid (fs[kk]? =some q):=⟨_,gE (by rw[HN.out];exact hlt)⟩
    obtain⟨ad,rfl,xa,xc,hra,hl⟩:=HR.out kk q HQ.out;obtain⟨d0,d1⟩:=hl wr (HG0.trans BW);have hnbig:=hra.short;obtain⟨_,_,heq,hnum⟩:=hra.nums;cases heq;have HNUM:Hid (zcq w xa q.bl):=hnum;obtain⟨nb,HNB⟩:∃nb,Hid (q.bl.length=nb):=⟨_,rfl⟩;rw[HNB.out]at d1 hnbig;clear hl hra hnum;have HST:Hid (zbD (m:Int) (zbh [] (fs.take kk)) (fs.drop kk)=if flW (m:Int) (zbh [] (fs.take kk)) q=0 then zbD (m:Int) (zbh [] (fs.take (kk+1))) (fs.drop (kk+1))else flW (m:Int) (zbh [] (fs.take kk)) q):=show _=_ by
     rw[qP HQ.out,JH HQ.out,zaN];rfl
    have HGK:Hid (zbh [] (fs.take (kk+1))=blG (zbh [] (fs.take kk)) q.bl):=dD<|by rw[JH HQ.out,zaN]
    have HFD:Hid (flW (m:Int) (zbh [] (fs.take kk)) q=if 0<=q.size/\q.size<=96 then(if(q.bl.length:Int)=Jx q.size then blW (m:Int) (zbh [] (fs.take kk)) q.bl else 2)else 3):=rfl;obtain⟨g0,HG⟩:∃g0,Hid (zbh [] (fs.take kk)=g0):=⟨_,rfl⟩;rw[HG.out]at HST HGK HFD OW;have bad:∀z:Int,z≠0->flW (m:Int) g0 q=z->Z=z:=fun z hz h=>by
     have h1:=AW.out;rw[HG.out,HST.out,h,if_neg hz]at h1;rw[HD.out,<-h1]
    obtain⟨W2,hW2⟩:∃W2,wr.alloc (.cells #[I6 q.size,.slice xa nb xc] 88)=W2:=⟨_,rfl⟩;have G2:=gT hW2 BW
    have P2:=xA hW2
    have O2:Hid (zb boE W0.heap.size W2 (.slice (some ⟨gh,0,none⟩) m m) (Q6 m g0)):=dD<|by rw[<-hW2];exact OW.grew (za _ _)
    have HW2:Hid (_=W2):=hW2;clear hW2
    by_cases hs0:q.size<0
    ·have HF:Hid (Z=3):=bad 3 (by decide) (by rw[HFD.out,if_neg (by omega)])
     have GE:=dD (HG0.trans G2);clear bad;go_wp2;rw[HW2.out];go_ret;exact⟨by rw[HF.out];rfl,GE⟩
    have hs0d:decide (q.size<0)=false:=decide_eq_false hs0
    by_cases hs1:96<q.size
    ·have HF:Hid (Z=3):=bad 3 (by decide) (by rw[HFD.out,if_neg (by omega)])
     have GE:=dD (HG0.trans G2);clear bad;go_wp2;rw[HW2.out];go_ret;exact⟨by rw[HF.out];rfl,GE⟩
    have hs1d:decide (96<q.size)=false:=decide_eq_false hs1;have hcn:=fun W=>zbd q.size W (by omega) (by omega)
    by_cases hcp:(nb:Int)=Jx q.size
    ·rw[<-hcp]at hcn;have hnn:((nb:Int) !=(nb:Int))=false:=by simp
     have HFB:Hid (flW (m:Int) g0 q=blW (m:Int) g0 q.bl):=dD<|by rw[HFD.out,if_pos (by omega),HNB.out,if_pos hcp]
     clear hcp;have p0:=P2.c 0 rfl;have p1:=P2.c 1 rfl;go_upto_region 9 with fail;rw[HW2.out]
     go_quiet (first | (go_at_call 44;exact Calls.quiet_of_same (hcn _)))
     obtain⟨W3,hW3⟩:∃W3,W2.drewN nq=W3:=⟨_,rfl⟩;have G23:Hid (zc W2 W3):=dD<|by rw[<-hW3];exact(show Below _ _ _ from bD (bR _ _) _)
     rw[hW3];clear hW3 p0 p1 hcn d0 d1;have p0:=(P2.grew G23).c 0 rfl;have p1:=(P2.grew G23).c 1 rfl;go_wp2
     go_loopg [50] nb (fun g2 s50 wr2=>∃k2:Nat,k2<=nb/\nb - k2<=g2/\s50=I6 k2/\Hid (zc W0 wr2)/\Hid (zb boE W0.heap.size wr2 (.slice (some ⟨gh,0,none⟩) m m) (Q6 m (blG g0 (q.bl.take k2))))/\Hid (blW (m:Int) (blG g0 (q.bl.take k2)) (q.bl.drop k2)=blW (m:Int) g0 q.bl))
     case atStart=>exact⟨0,nZ _,by omega,rfl,G2.trans G23,O2.grew G23,rfl⟩
     obtain⟨k2,hk2,hg2,rfl,BW2,OW2,AW2⟩:=hrel;clear p0 p1;have x1:=(X0.grew BW2).c 1 rfl;have GE:=dD (HG0.trans BW2)
     by_cases hlt2:k2<nb
     ·have hltz2:(k2:Int)< (nb:Int):=by omega
      obtain⟨b,HB⟩:∃b,Hid (q.bl[k2]? =some b):=⟨_,gE (by rw[HNB.out];exact hlt2)⟩
      obtain⟨ay,rfl,hly⟩:=HNUM.out k2 b HB.out;have d2:=hly _ GE.out;have HS2:Hid (blW (m:Int) (blG g0 (q.bl.take k2)) (q.bl.drop k2)=if ZR (m:Int) (blG g0 (q.bl.take k2)) b=0 then blW (m:Int) (blG g0 (q.bl.take (k2+1))) (q.bl.drop (k2+1))else ZR (m:Int) (blG g0 (q.bl.take k2)) b):=dD<|by
       rw[qP HB.out,qi HB.out,zbG];rfl
      have HGB:Hid (blG g0 (q.bl.take (k2+1))=Ja (blG g0 (q.bl.take k2)) b):=dD<|by rw[qi HB.out,zbG]
      clear hly;obtain⟨g1,HG1⟩:∃g1,Hid (blG g0 (q.bl.take k2)=g1):=⟨_,rfl⟩;rw[HG1.out]at HS2 HGB OW2;have bad2:∀z:Int,z≠0->ZR (m:Int) g1 b=z->Z=z:=fun z hz h=>bad z hz (by
       have h1:=AW2.out;rw[HG1.out,HS2.out,h,if_neg hz]at h1;rw[HFB.out,<-h1])
      have good2:ZR (m:Int) g1 b=0->blW (m:Int) (blG g0 (q.bl.take (k2+1))) (q.bl.drop (k2+1))=blW (m:Int) g0 q.bl:=fun h=>by
       rw[<-AW2.out,HG1.out,HS2.out,if_pos h]
      rcases QR (m:Int) g1 b with⟨h1,h2,h3⟩|⟨h1,h2,h3⟩|⟨i,h1,h2,h3,h4⟩|⟨i,h1,h2,h3,h4,h5⟩
      ·subst h1;have HA:Hid (blW (m:Int) (blG g0 (q.bl.take (k2+1))) (q.bl.drop (k2+1))=blW (m:Int) g0 q.bl):=good2 h2;have HO:Hid (zb boE W0.heap.size _ (.slice (some ⟨gh,0,none⟩) m m) (Q6 m (blG g0 (q.bl.take (k2+1))))):=show zb _ _ _ _ _ by rw[HGB.out,h3];exact OW2.out
       have hmz:¬(m:Int)<=-1:=by omega
       have hmd:decide ((m:Int)<=-1)=false:=decide_eq_false hmz;clear bad bad2 good2 h2 h3;go_wp2
       go_roundg (nb -(k2+1))
       case measure=>omega
       exact⟨k2+1,by omega,by omega,by go_num,BW2,HO,HA⟩
      ·have HF:Hid (Z=3):=bad2 3 (by decide) h3
       clear bad bad2 good2 h3
       by_cases hb1:b< -1
       ·go_wp2;go_ret;exact⟨by rw[HF.out];rfl,GE⟩
       have hb1d:decide (b< -1)=false:=decide_eq_false hb1;have hb2:(m:Int)<=b:=by omega
       clear h2;go_wp2;go_ret;exact⟨by rw[HF.out];rfl,GE⟩
      ·subst h1;have HF:Hid (Z=7):=bad2 7 (by decide) h4
       have him:i<m:=by omega
       have hb1:¬(i:Int)< -1:=by omega
       have hb1d:decide ((i:Int)< -1)=false:=decide_eq_false hb1;have hb2:¬(m:Int)<=(i:Int):=by omega
       have hb2d:decide ((m:Int)<=(i:Int))=false:=decide_eq_false hb2;have hb2e:decide (m<=i)=false:=decide_eq_false (by omega)
       have hb3:¬(i:Int)<0:=by omega
       have d3:wr.cell? ⟨gh,i,none⟩=some (.bool true):=by
        have:=OW2.one (zaD g1 him) 0 _ rfl;rw[zU,Addr.add_lit,zA,h3]at this
        simpa [boE]using this
       clear bad bad2 good2 h3 h4;go_wp2;go_ret;exact⟨by rw[HF.out];rfl,GE⟩
      subst h1;have HA:Hid (blW (m:Int) (blG g0 (q.bl.take (k2+1))) (q.bl.drop (k2+1))=blW (m:Int) g0 q.bl):=good2 h4;have him:i<m:=by omega
      have hb1:¬(i:Int)< -1:=by omega
      have hb1d:decide ((i:Int)< -1)=false:=decide_eq_false hb1;have hb2:¬(m:Int)<=(i:Int):=by omega
      have hb2d:decide ((m:Int)<=(i:Int))=false:=decide_eq_false hb2;have hb2e:decide (m<=i)=false:=decide_eq_false (by omega)
      have hb3:¬(i:Int)<0:=by omega
      have d3:wr.cell? ⟨gh,i,none⟩=some (.bool false):=by
       have:=OW2.one (zaD g1 him) 0 _ rfl;rw[zU,Addr.add_lit,zA,h3]at this
       simpa [boE]using this
      have HH5:Hid (Ja g1 (i:Int)=(i:Int) :: g1):=h5;clear bad bad2 good2 h3 h4 h5
      go_wp2_with (refine qE (E:=boE) rfl (.tmp 70) (.const (.bool true)) rfl W0.heap.size _ (Q6 m g1) OW2 gh i rfl true ?t1 ⟨gh,i,none⟩ rfl ?t2 (.bool true) rfl rfl ?_)
      case t1=>rw[zaC];exact him
      case t2=>first | exact(Nat.mul_one i).symm | (show _=Addr.mk gh (i*1) none;rw[Nat.mul_one])
      intro W5 ow5 gr5 _;have HO:Hid (zb boE W0.heap.size W5 (.slice (some ⟨gh,0,none⟩) m m) (Q6 m (blG g0 (q.bl.take (k2+1))))):=dD<|by rw[HGB.out,HH5.out,<-zh7 g1 him];exact ow5
      have G5:Hid (zc W0 W5):=dD<|zd BW2 gr5 (by rw[HGH.out];exact nR _)
      clear ow5 gr5 d3 d2 x1;go_wp2
      go_roundg (nb -(k2+1))
      case measure=>omega
      exact⟨k2+1,by omega,by omega,by go_num,G5,HO,HA⟩
     have hltz2:¬(k2:Int)< (nb:Int):=by omega
     have:k2=nb:=by omega
     subst this;have hz:flW (m:Int) g0 q=0:=by
      rw[HFB.out,<-AW2.out,List.drop_of_length_le (by rw[HNB.out];exact nR _)]
      rfl
     have HA:Hid (zbD (m:Int) (zbh [] (fs.take (kk+1))) (fs.drop (kk+1))=zbD (m:Int) [] fs):=dD<|by rw[<-AW.out,HG.out,HST.out,if_pos hz]
     have HO:Hid (zb boE W0.heap.size wr (.slice (some ⟨gh,0,none⟩) m m) (Q6 m (zbh [] (fs.take (kk+1))))):=dD<|by
      rw[HGK.out];have:=OW2.out;rw[List.take_of_length_le (by rw[HNB.out];exact nR _)]at this
      exact this
     clear bad hz;go_wp2
     go_roundg (n -(kk+1))
     case measure=>omega
     exact⟨kk+1,by omega,by omega,by go_num,BW2,HO,HA⟩
    have HF:Hid (Z=2):=bad 2 (by decide) (by rw[HFD.out,if_pos (by omega),HNB.out,if_neg hcp])
    have hnn:((nb:Int) != Jx q.size)=true:=by simpa using hcp
    clear bad hcp
    generalize Jx q.size=cp at*
    have p0:=P2.c 0 rfl;have p1:=P2.c 1 rfl;go_upto_region 9 with fail;rw[HW2.out]
    go_quiet (first | (go_at_call 44;exact Calls.quiet_of_same (hcn _)))
    obtain⟨W3,hW3⟩:∃W3,W2.drewN nq=W3:=⟨_,rfl⟩;have GE:Hid (zc w W3):=dD<|by rw[<-hW3];exact(HG0.trans G2).trans (show Below _ _ _ from bD (bR _ _) _)
    rw[hW3];clear hW3;go_wp2;go_ret;exact⟨by rw[HF.out];rfl,GE⟩
   have hltz:¬(kk:Int)< (n:Int):=by omega
   have:kk=n:=by omega
   subst this;have HF:Hid (Z=0):=dD<|by
    rw[HD.out,<-AW.out,List.drop_of_length_le (by rw[HN.out];exact nR _)]
    rfl
   have GE:=dD (HG0.trans BW);go_wp2;go_ret;exact⟨by rw[HF.out];rfl,GE⟩
  rw[if_neg (fun h=>hc h.2)]at HD
  by_cases hc0:cnt<0
  ·go_enter func96,ntmps96
   go_wp2;rw[HW0.out];go_ret;exact⟨by rw[HD.out];rfl,HG0⟩
  have hc0d:decide (cnt<0)=false:=decide_eq_false hc0;have hc8:80<cnt:=by omega
  clear hc
  go_enter func96,ntmps96
  go_wp2;rw[HW0.out];go_ret;exact⟨by rw[HD.out];rfl,HG0⟩
 rw[if_neg (fun h=>h5 h.1)]at HD
 have h5z:(5:Int)< (n:Int):=by omega
 go_enter func96,ntmps96
 go_wp2;rw[HW0.out];go_ret;exact⟨by rw[HD.out];rfl,HG0⟩
theorem zcB (vs:List Value) (t:List (List En)) (w:World) (hv:Zx w vs t):
  Calls prog 98 #[.agg vs.toArray] w fun e w'=>e= .returned (I6 (tbW t))/\zc w w':=by
 have HV:Hid (Zx w vs t):=hv;have HL:Hid (vs.length=8):=hv.len;clear hv;obtain⟨Z,HZ⟩:∃Z,Hid (tbW t=Z):=⟨_,rfl⟩;rw[HZ.out];obtain⟨W0,hW0⟩:∃W0,w.alloc (.cells vs.toArray 53)=W0:=⟨_,rfl⟩;have HG0:=gA hW0
 have X0:=xA hW0
 have HW0:Hid (_=W0):=hW0;clear hW0
 go_enter func98,ntmps98
 go_upto_region 1 with fail;rw[HW0.out]
 go_wp2_with (refine qA rfl (.tmp 1) rfl w.heap.size rfl X0 HL.out ?_)
 go_loopg [9] 8 (fun gg s9 wr=>∃kk:Nat,kk<=8/\8 - kk<=gg/\s9=I6 kk/\Hid (zc w wr)/\Hid (tbW (t.drop kk)=tbW t))
 case atStart=>exact⟨0,nZ _,by omega,rfl,HG0,rfl⟩
 obtain⟨kk,hkk,hg,rfl,BW,AW⟩:=hrel
 by_cases hlt:kk<8
 ·have hltz:(kk:Int)<8:=by omega
  obtain⟨xa,xc,q,hq,hvk,hr⟩:=HV.half hlt;have HQ:Hid (t[kk]? =some q):=hq;have hqbig:=hr.short;obtain⟨_,_,heq,hens⟩:=hr.ens;cases heq;have HE:Hid (zdf w xa q):=hens;obtain⟨nq,HNQ⟩:∃nq,Hid (q.length=nq):=⟨_,rfl⟩;rw[HNQ.out]at hvk hqbig;have HVK:Hid (vs[kk]? =some (.slice xa nq xc)):=hvk;have HST:Hid (tbW (t.drop kk)=if haW q=0 then tbW (t.drop (kk+1))else haW q):=show _=_ by rw[qP HQ.out,zgl]
  have badG:Hid (∀z:Int,z≠0->haW q=z->Z=z):=dD<|fun z hz h=>by
   have h1:=AW.out;rw[HST.out,h,if_neg hz]at h1;rw[<-HZ.out,<-h1]
  have goodH:Hid (haW q=0->tbW (t.drop (kk+1))=tbW t):=dD<|fun h=>by rw[<-AW.out,HST.out,if_pos h]
  clear hens hr hq hvk
  go_upto_region 4 with(refine zbP rfl (.tmp 8) (.tmp 9) rfl vs rfl kk rfl hlt HVK.out ?_)
  by_cases h0:nq=0
  ·have hne0:((nq:Int) != 0)=false:=by simp[h0]
   have heq8:((nq:Int) == 8)=false:=by simp[h0]
   have H0:Hid (nq=0):=h0;clear h0;have badH:Hid (∀z:Int,z≠0->esW q=z->Z=z):=show∀z:Int,_ from fun z hz h=>by
    have:q=[]:=List.length_eq_zero_iff.1 (by rw[HNQ.out];exact H0)
    rw[this]at h;exact absurd h.symm hz
   go_wp2
   go_loopg [5,22] nq (fun g2 s5 s22 wr2=>∃(k2 c:Nat),k2<=nq/\nq - k2<=g2/\s22=I6 k2/\s5=I6 c/\c<=k2/\Hid (zc w wr2)/\Hid (esW (q.drop k2)=esW q)/\Hid (c=0↔Zd (q.take k2)=false))
   case atStart=>exact⟨0,0,nZ _,by omega,rfl,rfl,nR _,BW,rfl,show(0=0↔Zd (q.take 0)=false)from by simp[Zd]⟩
   obtain⟨k2,c,hk2',hg2,rfl,rfl,hck,BW2,AW2,CW⟩:=hrel
   by_cases hlt2:k2<nq
   ·have hltz2:(k2:Int)< (nq:Int):=by omega
    obtain⟨x,hx⟩:∃x,q[k2]? =some x:=⟨_,gE (by rw[HNQ.out];exact hlt2)⟩
    obtain⟨ad,rfl,hl2⟩:=HE.out k2 x hx;obtain⟨d0,d1,d2⟩:=hl2 wr BW2.out;obtain⟨k,m,b⟩:=x;have HX:Hid (q[k2]? =some ⟨k,m,b⟩):=hx;simp only at d0 d1 d2;have HST:Hid (esW (q.drop k2)=if enW ⟨k,m,b⟩=0 then esW (q.drop (k2+1))else enW ⟨k,m,b⟩):=show _=_ by rw[qP HX.out,zd1]
    have bad:∀z:Int,z≠0->enW ⟨k,m,b⟩=z->Z=z:=fun z hz h=>by
     have h1:=AW2.out;rw[HST.out,h,if_neg hz]at h1;exact badH.out z hz h1.symm
    have good:enW ⟨k,m,b⟩=0->esW (q.drop (k2+1))=esW q:=fun h=>by
     rw[<-AW2.out,HST.out,if_pos h]
    clear hl2 hx;go_upto_region 10 with fail;obtain⟨px,hpx⟩:∃px,wr.heap.size=px:=⟨_,rfl⟩;obtain⟨W2,hW2⟩:∃W2,wr.alloc (.cells #[I6 k,I6 m,.bool b] 74)=W2:=⟨_,rfl⟩;have G2:=gT hW2 BW2
    have GE:Hid (zc w W2):=G2.out;have P2:Hid (Box W2 px [I6 k,I6 m,.bool b]):=show Box _ _ _ by rw[<-hW2];exact Box.top _ _ _ hpx.symm
    rw[hW2];rw[hpx];clear hW2 hpx d0 d1 d2;obtain⟨p0,p1,p2⟩:=P2.c3
    by_cases hk0:k<0
    ·have HF:Hid (Z=1):=bad 1 (by decide) (zaO (by simp only;omega))
     clear bad good;go_wp2;go_ret;exact⟨by rw[HF.out];rfl,GE⟩
    have hk0d:decide (k<0)=false:=decide_eq_false hk0
    by_cases hk2:2<k
    ·have HF:Hid (Z=1):=bad 1 (by decide) (zaO (by simp only;omega))
     clear bad good;go_wp2;go_ret;exact⟨by rw[HF.out];rfl,GE⟩
    have hk2d:decide (2<k)=false:=decide_eq_false hk2
    by_cases hn0:m<0
    ·have HF:Hid (Z=3):=bad 3 (by decide) (j8 (by simp only;omega) (by simp only;omega))
     clear bad good;go_wp2;go_ret;exact⟨by rw[HF.out];rfl,GE⟩
    have hn0d:decide (m<0)=false:=decide_eq_false hn0
    by_cases hn59:59<m
    ·have HF:Hid (Z=3):=bad 3 (by decide) (j8 (by simp only;omega) (by simp only;omega))
     clear bad good;go_wp2;go_ret;exact⟨by rw[HF.out];rfl,GE⟩
    have hn59d:decide (59<m)=false:=decide_eq_false hn59;obtain rfl|rfl|rfl:k=0\/k=1\/k=2:=by omega
    ·by_cases hm:0<m
     ·have HF:Hid (Z=7):=bad 7 (by decide) (Ju (by simp only;omega) (by simp only;omega) (.inl ⟨rfl,.inl (by simp only;omega)⟩))
      clear bad good;go_wp2;go_ret;exact⟨by rw[HF.out];rfl,GE⟩
     obtain rfl:m=0:=by omega
     cases b with
     | true=>
      have HF:Hid (Z=7):=bad 7 (by decide) (Ju (by simp only;omega) (by simp only;omega) (.inl ⟨rfl,.inr rfl⟩))
      clear bad good;go_wp2;go_ret;exact⟨by rw[HF.out];rfl,GE⟩
     | false=>
      have HA:Hid (esW (q.drop (k2+1))=esW q):=good (QB (by simp only;omega) (by simp only;omega) (by simp))
      have HC:Hid (Zd (q.take (k2+1))=Zd (q.take k2)):=dD<|by
       rw[qi HX.out];unfold Zd;rw[List.any_append]
       simp[enS]
      clear bad good;go_wp2
      go_roundg (nq -(k2+1))
      case measure=>omega
      exact⟨k2+1,c,by omega,by omega,by go_num,by go_num,by omega,G2,HA,by rw[HC.out];exact CW⟩
    ·by_cases hn39:39<m
     ·have HF:Hid (Z=3):=bad 3 (by decide) (j8 (by simp only;omega) (fun h=>by have:=h.2.2 rfl;simp only at this;omega))
      clear bad good;go_wp2;go_ret;exact⟨by rw[HF.out];rfl,GE⟩
     have hn39d:decide (39<m)=false:=decide_eq_false hn39;have HA:Hid (esW (q.drop (k2+1))=esW q):=good (QB (by simp only;omega) (by simp only;omega) (by simp))
     have HC:Hid (Zd (q.take (k2+1))=true):=dD<|by
      rw[qi HX.out];unfold Zd;rw[List.any_append]
      simp[enS]
     clear bad good;go_wp2
     go_roundg (nq -(k2+1))
     case measure=>omega
     exact⟨k2+1,c+1,by omega,by omega,by go_num,by go_num,by omega,G2,HA,show(c+1=0↔Zd (q.take (k2+1))=false)from by rw[HC.out];simp⟩
    cases b with
    | true=>
     have HF:Hid (Z=7):=bad 7 (by decide) (Ju (by simp only;omega) (by simp only;omega) (.inr ⟨rfl,rfl⟩))
     clear bad good;go_wp2;go_ret;exact⟨by rw[HF.out];rfl,GE⟩
    | false=>
     have HA:Hid (esW (q.drop (k2+1))=esW q):=good (QB (by simp only;omega) (by simp only;omega) (by simp))
     have HC:Hid (Zd (q.take (k2+1))=true):=dD<|by
      rw[qi HX.out];unfold Zd;rw[List.any_append]
      simp[enS]
     clear bad good;go_wp2
     go_roundg (nq -(k2+1))
     case measure=>omega
     exact⟨k2+1,c+1,by omega,by omega,by go_num,by go_num,by omega,G2,HA,show(c+1=0↔Zd (q.take (k2+1))=false)from by rw[HC.out];simp⟩
   have hltz2:¬(k2:Int)< (nq:Int):=by omega
   have:k2=nq:=by omega
   subst this;have HEZ:Hid (esW q=0):=dD<|by
    rw[<-AW2.out,List.drop_of_length_le (by rw[HNQ.out];exact nR _)]
    rfl
   have CQ:Hid (c=0↔Zd q=false):=dD<|by
    have:=CW.out;rw[List.take_of_length_le (by rw[HNQ.out];exact nR _)]at this
    exact this
   have HA:Hid (tbW (t.drop (kk+1))=tbW t):=goodH.out (by unfold haW;rw[if_pos (by rw[HNQ.out];exact H0)])
   go_wp2
   go_roundg (8 -(kk+1))
   case measure=>omega
   exact⟨kk+1,by omega,by omega,by go_num,BW2,HA⟩
  have hne0:((nq:Int) != 0)=true:=by simpa using h0
  by_cases h8:nq=8
  ·have hne8:((nq:Int) != 8)=false:=by simp[h8]
   have heq8:((nq:Int) == 8)=true:=by simp[h8]
   have H8:Hid (nq=8):=h8;clear h0 h8;have badH:Hid (∀z:Int,z≠0->esW q=z->Z=z):=show∀z:Int,_ from fun z hz h=>badG.out z hz (by rw[zij (by rw[HNQ.out];exact H8),if_neg (by rw[h];exact hz)];exact h)
   go_wp2
   go_loopg [5,22] nq (fun g2 s5 s22 wr2=>∃(k2 c:Nat),k2<=nq/\nq - k2<=g2/\s22=I6 k2/\s5=I6 c/\c<=k2/\Hid (zc w wr2)/\Hid (esW (q.drop k2)=esW q)/\Hid (c=0↔Zd (q.take k2)=false))
   case atStart=>exact⟨0,0,nZ _,by omega,rfl,rfl,nR _,BW,rfl,show(0=0↔Zd (q.take 0)=false)from by simp[Zd]⟩
   obtain⟨k2,c,hk2',hg2,rfl,rfl,hck,BW2,AW2,CW⟩:=hrel
   by_cases hlt2:k2<nq
   ·have hltz2:(k2:Int)< (nq:Int):=by omega
    obtain⟨x,hx⟩:∃x,q[k2]? =some x:=⟨_,gE (by rw[HNQ.out];exact hlt2)⟩
    obtain⟨ad,rfl,hl2⟩:=HE.out k2 x hx;obtain⟨d0,d1,d2⟩:=hl2 wr BW2.out;obtain⟨k,m,b⟩:=x;have HX:Hid (q[k2]? =some ⟨k,m,b⟩):=hx;simp only at d0 d1 d2;have HST:Hid (esW (q.drop k2)=if enW ⟨k,m,b⟩=0 then esW (q.drop (k2+1))else enW ⟨k,m,b⟩):=show _=_ by rw[qP HX.out,zd1]
    have bad:∀z:Int,z≠0->enW ⟨k,m,b⟩=z->Z=z:=fun z hz h=>by
     have h1:=AW2.out;rw[HST.out,h,if_neg hz]at h1;exact badH.out z hz h1.symm
    have good:enW ⟨k,m,b⟩=0->esW (q.drop (k2+1))=esW q:=fun h=>by
     rw[<-AW2.out,HST.out,if_pos h]
    clear hl2 hx;go_upto_region 10 with fail;obtain⟨px,hpx⟩:∃px,wr.heap.size=px:=⟨_,rfl⟩;obtain⟨W2,hW2⟩:∃W2,wr.alloc (.cells #[I6 k,I6 m,.bool b] 74)=W2:=⟨_,rfl⟩;have G2:=gT hW2 BW2
    have GE:Hid (zc w W2):=G2.out;have P2:Hid (Box W2 px [I6 k,I6 m,.bool b]):=show Box _ _ _ by rw[<-hW2];exact Box.top _ _ _ hpx.symm
    rw[hW2];rw[hpx];clear hW2 hpx d0 d1 d2;obtain⟨p0,p1,p2⟩:=P2.c3
    by_cases hk0:k<0
    ·have HF:Hid (Z=1):=bad 1 (by decide) (zaO (by simp only;omega))
     clear bad good;go_wp2;go_ret;exact⟨by rw[HF.out];rfl,GE⟩
    have hk0d:decide (k<0)=false:=decide_eq_false hk0
    by_cases hk2:2<k
    ·have HF:Hid (Z=1):=bad 1 (by decide) (zaO (by simp only;omega))
     clear bad good;go_wp2;go_ret;exact⟨by rw[HF.out];rfl,GE⟩
    have hk2d:decide (2<k)=false:=decide_eq_false hk2
    by_cases hn0:m<0
    ·have HF:Hid (Z=3):=bad 3 (by decide) (j8 (by simp only;omega) (by simp only;omega))
     clear bad good;go_wp2;go_ret;exact⟨by rw[HF.out];rfl,GE⟩
    have hn0d:decide (m<0)=false:=decide_eq_false hn0
    by_cases hn59:59<m
    ·have HF:Hid (Z=3):=bad 3 (by decide) (j8 (by simp only;omega) (by simp only;omega))
     clear bad good;go_wp2;go_ret;exact⟨by rw[HF.out];rfl,GE⟩
    have hn59d:decide (59<m)=false:=decide_eq_false hn59;obtain rfl|rfl|rfl:k=0\/k=1\/k=2:=by omega
    ·by_cases hm:0<m
     ·have HF:Hid (Z=7):=bad 7 (by decide) (Ju (by simp only;omega) (by simp only;omega) (.inl ⟨rfl,.inl (by simp only;omega)⟩))
      clear bad good;go_wp2;go_ret;exact⟨by rw[HF.out];rfl,GE⟩
     obtain rfl:m=0:=by omega
     cases b with
     | true=>
      have HF:Hid (Z=7):=bad 7 (by decide) (Ju (by simp only;omega) (by simp only;omega) (.inl ⟨rfl,.inr rfl⟩))
      clear bad good;go_wp2;go_ret;exact⟨by rw[HF.out];rfl,GE⟩
     | false=>
      have HA:Hid (esW (q.drop (k2+1))=esW q):=good (QB (by simp only;omega) (by simp only;omega) (by simp))
      have HC:Hid (Zd (q.take (k2+1))=Zd (q.take k2)):=dD<|by
       rw[qi HX.out];unfold Zd;rw[List.any_append]
       simp[enS]
      clear bad good;go_wp2
      go_roundg (nq -(k2+1))
      case measure=>omega
      exact⟨k2+1,c,by omega,by omega,by go_num,by go_num,by omega,G2,HA,by rw[HC.out];exact CW⟩
    ·by_cases hn39:39<m
     ·have HF:Hid (Z=3):=bad 3 (by decide) (j8 (by simp only;omega) (fun h=>by have:=h.2.2 rfl;simp only at this;omega))
      clear bad good;go_wp2;go_ret;exact⟨by rw[HF.out];rfl,GE⟩
     have hn39d:decide (39<m)=false:=decide_eq_false hn39;have HA:Hid (esW (q.drop (k2+1))=esW q):=good (QB (by simp only;omega) (by simp only;omega) (by simp))
     have HC:Hid (Zd (q.take (k2+1))=true):=dD<|by
      rw[qi HX.out];unfold Zd;rw[List.any_append]
      simp[enS]
     clear bad good;go_wp2
     go_roundg (nq -(k2+1))
     case measure=>omega
     exact⟨k2+1,c+1,by omega,by omega,by go_num,by go_num,by omega,G2,HA,show(c+1=0↔Zd (q.take (k2+1))=false)from by rw[HC.out];simp⟩
    cases b with
    | true=>
     have HF:Hid (Z=7):=bad 7 (by decide) (Ju (by simp only;omega) (by simp only;omega) (.inr ⟨rfl,rfl⟩))
     clear bad good;go_wp2;go_ret;exact⟨by rw[HF.out];rfl,GE⟩
    | false=>
     have HA:Hid (esW (q.drop (k2+1))=esW q):=good (QB (by simp only;omega) (by simp only;omega) (by simp))
     have HC:Hid (Zd (q.take (k2+1))=true):=dD<|by
      rw[qi HX.out];unfold Zd;rw[List.any_append]
      simp[enS]
     clear bad good;go_wp2
     go_roundg (nq -(k2+1))
     case measure=>omega
     exact⟨k2+1,c+1,by omega,by omega,by go_num,by go_num,by omega,G2,HA,show(c+1=0↔Zd (q.take (k2+1))=false)from by rw[HC.out];simp⟩
   have hltz2:¬(k2:Int)< (nq:Int):=by omega
   have:k2=nq:=by omega
   subst this;have HEZ:Hid (esW q=0):=dD<|by
    rw[<-AW2.out,List.drop_of_length_le (by rw[HNQ.out];exact nR _)]
    rfl
   have CQ:Hid (c=0↔Zd q=false):=dD<|by
    have:=CW.out;rw[List.take_of_length_le (by rw[HNQ.out];exact nR _)]at this
    exact this
   by_cases hc:c=0
   ·have HF:Hid (Z=2):=badG.out 2 (by decide) (by rw[zij (by rw[HNQ.out];exact H8),HEZ,if_pos rfl,CQ.1 hc];rfl)
    have hcb:((c:Int) == 0)=true:=by simpa using hc
    clear hc;go_wp2;go_ret;exact⟨by rw[HF.out];rfl,BW2⟩
   have HA:Hid (tbW (t.drop (kk+1))=tbW t):=goodH.out (by
    rw[zij (by rw[HNQ.out];exact H8),HEZ,if_pos rfl]
    cases ha:Zd q with
    | true=>rfl
    | false=>exact absurd (CQ.2 ha) hc)
   have hcb:((c:Int) == 0)=false:=by simpa using hc
   clear hc;go_wp2
   go_roundg (8 -(kk+1))
   case measure=>omega
   exact⟨kk+1,by omega,by omega,by go_num,BW2,HA⟩
  have hne8:((nq:Int) != 8)=true:=by simp;omega
  have HF:Hid (Z=2):=badG.out 2 (by decide) (by unfold haW;rw[if_neg (by rw[HNQ.out];exact h0),if_neg (by rw[HNQ.out];exact h8)])
  clear h0 h8;go_wp2;go_ret;exact⟨by rw[HF.out];rfl,BW⟩
 have hltz:¬(kk:Int)<8:=by omega
 have:kk=8:=by omega
 subst this;have HF:Hid (Z=0):=dD<|by
  rw[<-HZ.out,<-AW.out,List.drop_of_length_le (by rw[HV.tlen];exact nR _)]
  rfl
 go_wp2;go_ret;exact⟨by rw[HF.out];rfl,BW⟩
def Q0 (m:Ma) (kind k:Int) (p:Nat):Nat:=jg ((m.sp.take p).map zk) kind k
theorem zfX {kind k:Int} {p:Nat} {s:Sp} (h:m.sp[p]? =some s):Q0 m kind k (p+1)=Q0 m kind k p+jV (zk s) kind k 64:=by
 unfold Q0 jg;rw[List.take_add_one,h];simp
theorem zcZ {kind k:Int}:Q0 m kind k m.sp.length=Zi m kind k:=by
 unfold Q0 Zi;rw[List.take_length]
theorem zeT {kind k:Int} (p:Nat):Q0 m kind k p<=64*p:=by
 have:=Jq ((m.sp.take p).map zk) kind k;simp only[List.length_map,List.length_take]at this;unfold Q0;omega
theorem zcD (V:MaV) (m:Ma) (kind k:Int) (w:World) (hm:zF w V m) (h4:m.sp.length<=4) (h8:∀s∈m.sp,∀h∈s.tb,h.length<=8):
  Calls prog 64 #[.agg (mL V m).toArray,I6 kind,I6 k] w fun e w'=>e= .returned (I6 (Zi m kind k:Int))/\zc w w':=by
 obtain⟨-,-,-,-,-,-,-,-,n9⟩:=hm.ns;obtain⟨xs,hxl,hrow,hsp⟩:=hm.spaces;have HR:Hid (∀(j:Nat) x,xs[j]? =some x->∃ad,V.sp.a=some ad/\∀W,zc w W->zcs W (ad.add (j*10)) x):=dD<|hrow
 have HS:Hid (∀(i:Nat) x s,xs[i]? =some x->m.sp[i]? =some s->zZ w x s):=dD<|hsp
 obtain⟨N,HN⟩:∃N,Hid (m.sp.length=N):=⟨_,rfl⟩;have hN4:N<=4:=by rw[<-HN.out];exact h4
 have HXL:Hid (xs.length=N):=dD<|by rw[hxl];exact HN.out
 have H8:Hid (∀s∈m.sp,∀h∈s.tb,h.length<=8):=dD<|h8
 obtain⟨vf,vs,vsb,vsq,vdb,vdq,vfl,vca,⟨spa,spn,spc⟩⟩:=V;dsimp only[mL]at n9 HR⊢;obtain rfl:spn=N:=by rw[n9];exact HN.out
 clear hm hrow hsp hxl n9 h8 h4;obtain⟨W0,hW0⟩:∃W0,w.alloc (.cells #[vf.x,I6 m.hand,vs.x,vsb.x,vsq.x,vdb.x,vdq.x,vfl.x,I6 m.cnt,vca.x,.slice spa spn spc] 41)=W0:=⟨_,rfl⟩;have HG0:=gA hW0
 have HW0:Hid (_=W0):=hW0;have X0:=xA hW0
 clear hW0
 go_enter func64,ntmps64
 go_upto_region 2 with fail;rw[HW0.out];have x10:=X0.c 10 rfl;go_wp2;clear x10
 go_loopg [7,15] spn (fun gg s7 s15 wr=>∃p:Nat,p<=spn/\spn - p<=gg/\s15=I6 p/\s7=I6 (Q0 m kind k p:Int)/\Hid (zc w wr))
 case atStart=>exact⟨0,nZ _,by omega,rfl,rfl,HG0⟩
 obtain⟨p,hp,hg,rfl,rfl,GW⟩:=hrel
 by_cases hlt:p<spn
 ·have hltz:(p:Int)< (spn:Int):=by omega
  obtain⟨x,hx⟩:∃x,xs[p]? =some x:=⟨_,gE (by rw[HXL.out];exact hlt)⟩
  obtain⟨s,hs⟩:∃s,m.sp[p]? =some s:=⟨_,gE (by rw[HN.out];exact hlt)⟩
  have HAT:Hid (zZ w x s):=HS.out p x s hx hs;have HSS:Hid (m.sp[p]? =some s):=hs;obtain⟨ad,rfl,hl⟩:=HR.out p x hx;have hcl:=hl wr GW.out;obtain⟨d0,d1,d2,d3,d4,d5,d6,d7,d8,d9⟩:=hcl;clear hl hx hs;have HF64:Hid (∀j,j<64->(Jb s.tb)[j]? =some (zk s j)):=show∀j,_ from fun j hj=>zbE s.tb hj
  have hfl:∀W,zc w W->Calls prog 28 #[.agg #[x.t0.x,x.t1.x,x.t2.x,x.t3.x,x.t4.x,x.t5.x,x.t6.x,x.t7.x]] W fun e w'=>e= .returned (.agg (qk (Jb s.tb)).toArray)/\zc W w':=fun W hW=>za3 x.tab s.tb W ((HAT.grew hW).tb) (H8 s (mG HSS))
  have HFL:Hid (∀W,zc w W->Calls prog 28 #[.agg #[x.t0.x,x.t1.x,x.t2.x,x.t3.x,x.t4.x,x.t5.x,x.t6.x,x.t7.x]] W fun e w'=>e= .returned (.agg (qk (Jb s.tb)).toArray)/\zc W w'):=dD<|hfl
  clear hfl;have hb0:=zeT (m:=m) (kind:=kind) (k:=k) p;have HSU:Hid (Q0 m kind k (p+1)=Q0 m kind k p+jV (zk s) kind k 64):=zfX HSS.out;obtain⟨H0,hH0⟩:∃H0,Q0 m kind k p=H0:=⟨_,rfl⟩;rw[hH0]at hb0 HSU⊢;clear hH0;go_upto_region 5 with fail;obtain⟨W1,hW1⟩:∃W1,wr.alloc (.cells #[.bool x.live,x.ar.x,x.t0.x,x.t1.x,x.t2.x,x.t3.x,x.t4.x,x.t5.x,x.t6.x,x.t7.x] 55)=W1:=⟨_,rfl⟩;have G1:=gT hW1 GW
  have S1:=xA hW1
  rw[hW1];clear hW1 d0 d1 d2 d3 d4 d5 d6 d7 d8 d9;have s2:=S1.c 2 rfl;have s3:=S1.c 3 rfl;have s4:=S1.c 4 rfl;have s5:=S1.c 5 rfl;have s6:=S1.c 6 rfl;have s7:=S1.c 7 rfl;have s8:=S1.c 8 rfl;have s9:=S1.c 9 rfl;go_wp2_with fail;refine(HFL W1 G1).mono ?_;clear s2 s3 s4 s5 s6 s7 s8 s9;rintro e W2 ⟨rfl,g2⟩;have G2:=dD (G1.trans g2);clear g2;go_wp2
  go_loopg [7,22] 64 (fun gg s7 s22 wr=>∃n:Nat,n<=64/\64 - n<=gg/\s22=I6 n/\s7=I6 ((H0+jV (zk s) kind k n:Nat):Int)/\Hid (zc w wr))
  case atStart=>exact⟨0,nZ _,by omega,rfl,rfl,G2⟩
  obtain⟨n,hn,hg2,rfl,rfl,GW2⟩:=hrel
  by_cases hlt2:n<64
  ·have hltz2:(n:Int)<64:=by omega
   obtain⟨e,HE⟩:∃e,Hid (zk s n=e):=⟨_,rfl⟩;have HZF:Hid ((Jb s.tb)[n]? =some e):=dD<|by rw[HF64.out n hlt2,HE.out]
   have hcl:=ziS (zk s) kind k n;have HCS:Hid (jV (zk s) kind k (n+1)=jV (zk s) kind k n+(isE e kind k).toNat):=dD<|by rw[<-HE.out];rfl
   obtain⟨c0,hc0⟩:∃c0,jV (zk s) kind k n=c0:=⟨_,rfl⟩;rw[hc0]at hcl HCS⊢;clear hc0
   go_upto_region 8 with(refine zau rfl (.tmp 21) (.tmp 22) rfl (Jb s.tb) rfl n rfl hlt2 HZF.out ?_)
   obtain⟨W3,hW3⟩:∃W3,wr.alloc (.cells #[I6 e.kind,I6 e.n,.bool e.wr] 74)=W3:=⟨_,rfl⟩;have G3:=gT hW3 GW2
   have E3:=xA hW3
   rw[hW3];clear hW3;have e0:=E3.c 0 rfl;have e1:=E3.c 1 rfl
   by_cases h1:e.kind=kind
   ·have h1e:(e.kind == kind)=true:=by simp[h1]
    by_cases h2:e.n=k
    ·have h2e:(e.n == k)=true:=by simp[h2]
     have HV:Hid (jV (zk s) kind k (n+1)=c0+1):=dD<|by rw[HCS.out];simp[isE,h1,h2]
     clear h1 h2;go_wp2
     go_roundg (64 -(n+1))
     case measure=>omega
     exact⟨n+1,by omega,by omega,by go_num,by rw[HV.out];go_num,G3⟩
    have h2e:(e.n == k)=false:=by simp[h2]
    have HV:Hid (jV (zk s) kind k (n+1)=c0):=dD<|by rw[HCS.out];simp[isE,h2]
    clear h1 h2;go_wp2
    go_roundg (64 -(n+1))
    case measure=>omega
    exact⟨n+1,by omega,by omega,by go_num,by rw[HV.out];go_num,G3⟩
   have h1e:(e.kind == kind)=false:=by simp[h1]
   have HV:Hid (jV (zk s) kind k (n+1)=c0):=dD<|by rw[HCS.out];simp[isE,h1]
   clear h1;go_wp2
   go_roundg (64 -(n+1))
   case measure=>omega
   exact⟨n+1,by omega,by omega,by go_num,by rw[HV.out];go_num,G3⟩
  have hltz2:¬(n:Int)<64:=by omega
  obtain rfl:n=64:=by omega
  go_wp2
  go_roundg (spn -(p+1))
  case measure=>omega
  exact⟨p+1,by omega,by omega,by go_num,by rw[HSU.out];go_num,GW2⟩
 have hltz:¬(p:Int)< (spn:Int):=by omega
 obtain rfl:p=spn:=by omega
 have HF:Hid (Q0 m kind k p=Zi m kind k):=dD<|by rw[<-HN.out];exact zcZ
 rw[HF.out];go_wp2;go_ret;exact⟨rfl,GW⟩
def zlA (mi it sh ew xw big:Bool):Bool:=(!mi && !it) || (sh && !it) || (ew && !xw) || (ew && it && !sh) || (ew && mi && big)
theorem zlu {x:On} {e:En} {q:Fr} (h1:x.is=true) (h2:¬e.kind=2) (h3:¬(m.fs.length:Int)<=e.n) (hq:zY m e.n=q):QA m x e=if zlA (q.f == -1) (decide (0<=x.file) &&(q.f == x.file) &&(q.x == x.page)) x.sh e.wr x.wr (decide (1<q.r))=true then 7 else 0:=by
 have key:zlA (q.f == -1) (decide (0<=x.file) &&(q.f == x.file) &&(q.x == x.page)) x.sh e.wr x.wr (decide (1<q.r))=true↔((¬q.f=-1/\¬(0<=x.file/\q.f=x.file/\q.x=x.page))\/(x.sh=true/\¬(0<=x.file/\q.f=x.file/\q.x=x.page))\/(e.wr=true/\x.wr=false)\/(e.wr=true/\(0<=x.file/\q.f=x.file/\q.x=x.page)/\x.sh=false)\/(e.wr=true/\q.f=-1/\1<q.r)):=by
  have hit:(decide (0<=x.file) &&(q.f == x.file) &&(q.x == x.page))=true↔(0<=x.file/\q.f=x.file/\q.x=x.page):=by simp[and_assoc]
  have hmi:(q.f == -1)=true↔q.f=-1:=by simp
  generalize hb:decide (1<q.r)=bg
  have hbg:bg=true↔1<q.r:=by rw[<-hb];simp
  rw[<-hit,<-hmi,<-hbg];clear hit hmi hbg hb
  generalize(decide (0<=x.file) &&(q.f == x.file) &&(q.x == x.page))=it
  generalize(q.f == -1)=mi
  generalize x.sh=sh
  generalize e.wr=ew
  generalize x.wr=xw
  cases mi <;> cases it <;> cases sh <;> cases ew <;> cases xw <;> cases bg <;> decide
 unfold QA;rw[if_neg (by rw[h1];decide),if_neg h2,if_neg h3,hq]
 by_cases hb:zlA (q.f == -1) (decide (0<=x.file) &&(q.f == x.file) &&(q.x == x.page)) x.sh e.wr x.wr (decide (1<q.r))=true
 ·rw[if_pos hb,if_pos (key.1 hb)]
 rw[if_neg hb,if_neg (fun h=>hb (key.2 h))]
theorem zev (V:MaV) (m:Ma) (x:On) (e:En) (w:World) (hm:zF w V m) (h0:0<=e.n):
  Calls prog 63 #[.agg (mL V m).toArray,.agg #[.bool x.is,.bool x.rd,.bool x.wr,.bool x.sh,I6 x.file,I6 x.page],.agg #[I6 e.kind,I6 e.n,.bool e.wr]] w fun r w'=>r= .returned (I6 (QA m x e))/\zc w w':=by
 obtain⟨n1,n2,-⟩:=hm.ns;have HFR:Hid (Q3 w V.f.a m.fs):=hm.frs;obtain⟨⟨fa,fn,fc⟩,⟨sa,sn,sc⟩,vsb,vsq,vdb,vdq,vfl,vca,vsp⟩:=V;dsimp only[mL]at n1 n2 HFR⊢;obtain rfl:fn=m.fs.length:=n1;obtain rfl:sn=m.sl.length:=n2;obtain⟨NF,HNF⟩:∃NF,Hid (m.fs.length=NF):=⟨_,rfl⟩;obtain⟨NS,HNS⟩:∃NS,Hid (m.sl.length=NS):=⟨_,rfl⟩;rw[HNF.out,HNS.out];clear hm;obtain⟨ANS,HANS⟩:∃ANS,Hid (QA m x e=ANS):=⟨_,rfl⟩;rw[HANS.out];obtain⟨W0,hW0⟩:∃W0,((w.alloc (.cells #[.slice fa NF fc,I6 m.hand,.slice sa NS sc,vsb.x,vsq.x,vdb.x,vdq.x,vfl.x,I6 m.cnt,vca.x,vsp.x] 41)).alloc (.cells #[.bool x.is,.bool x.rd,.bool x.wr,.bool x.sh,I6 x.file,I6 x.page] 61)).alloc (.cells #[I6 e.kind,I6 e.n,.bool e.wr] 74)=W0:=⟨_,rfl⟩;have G0:Hid (zc w W0):=show zc _ _ by rw[<-hW0];exact((za _ _).trans (za _ _)).trans (za _ _)
 have X0:Hid (Box W0 w.heap.size [.slice fa NF fc,I6 m.hand,.slice sa NS sc,vsb.x,vsq.x,vdb.x,vdq.x,vfl.x,I6 m.cnt,vca.x,vsp.x]):=dD<|by rw[<-hW0];exact((Box.top _ _ _ rfl).alloc _).alloc _
 have Y0:Hid (Box W0 (w.heap.size+1) [.bool x.is,.bool x.rd,.bool x.wr,.bool x.sh,I6 x.file,I6 x.page]):=dD<|by rw[<-hW0];exact(Box.top _ _ _ (by simp)).alloc _
 have Z0:Hid (Box W0 (w.heap.size+2) [I6 e.kind,I6 e.n,.bool e.wr]):=dD<|by rw[<-hW0];exact Box.top _ _ _ (by simp)
 have HW0:Hid (_=W0):=hW0;clear hW0
 go_enter func63,ntmps63
 go_upto_region 1 with fail;rw[HW0.out];have x0:=X0.c 0 rfl;have x2:=X0.c 2 rfl;have y0:=Y0.c 0 rfl;have y1:=Y0.c 1 rfl;have y2:=Y0.c 2 rfl;have y3:=Y0.c 3 rfl;have y4:=Y0.c 4 rfl;have y5:=Y0.c 5 rfl;obtain⟨z0,z1,z2⟩:=Z0.c3
 cases his:x.is with
 | false=>
  have HF:Hid (ANS=5):=dD<|by rw[<-HANS.out];unfold QA;rw[if_pos his]
  rw[his]at y0;go_wp2;go_ret;exact⟨by rw[HF.out];rfl,G0⟩
 | true=>
  rw[his]at y0
  by_cases h2:e.kind=2
  ·have h2e:(e.kind == 2)=true:=by simp[h2]
   by_cases h3:(NS:Int)<=e.n
   ·have h3d:decide ((NS:Int)<=e.n)=true:=by simpa using h3
    have HF:Hid (ANS=7):=dD<|by rw[<-HANS.out];unfold QA;rw[if_neg (by rw[his];decide),if_pos h2,if_pos (.inl (by rw[HNS.out];exact h3))]
    go_wp2;go_ret;exact⟨by rw[HF.out];rfl,G0⟩
   have h3d:decide ((NS:Int)<=e.n)=false:=by simpa using h3
   have HF:Hid (ANS=if x.sh=true then 7 else 0):=dD<|by
    rw[<-HANS.out];unfold QA;rw[if_neg (by rw[his];decide),if_pos h2]
    by_cases hs:x.sh=true
    ·rw[if_pos hs,if_pos (.inr hs)]
    rw[if_neg hs,if_neg (by rintro(h | h) <;> first | exact h3 (by rw[<-HNS.out];exact h) | exact hs h)]
   cases hsh:x.sh with
   | true=>
    rw[hsh]at y3 HF;go_wp2;go_ret;exact⟨by rw[HF.out];rfl,G0⟩
   | false=>
    rw[hsh]at y3 HF;go_wp2;go_ret;exact⟨by rw[HF.out];rfl,G0⟩
  have h2e:(e.kind == 2)=false:=by simp[h2]
  by_cases h3:(NF:Int)<=e.n
  ·have h3d:decide ((NF:Int)<=e.n)=true:=by simpa using h3
   have HF:Hid (ANS=3):=dD<|by rw[<-HANS.out];unfold QA;rw[if_neg (by rw[his];decide),if_neg h2,if_pos (by rw[HNF.out];exact h3)]
   go_wp2;go_ret;exact⟨by rw[HF.out];rfl,G0⟩
  have h3d:decide ((NF:Int)<=e.n)=false:=by simpa using h3
  have hnz:e.n< (NF:Int):=by omega
  obtain⟨j,hj⟩:∃j:Nat,e.n=(j:Int):=⟨e.n.toNat,by omega⟩
  obtain⟨q,hq⟩:∃q,m.fs[j]? =some q:=⟨_,gE (by rw[HNF.out];omega)⟩
  obtain⟨ad,rfl,hl⟩:=HFR.out j q hq;have hcl:=hl W0 G0.out;have HF:Hid (ANS=if zlA (q.f == -1) (decide (0<=x.file) &&(q.f == x.file) &&(q.x == x.page)) x.sh e.wr x.wr (decide (1<q.r))=true then 7 else 0):=dD<|by rw[<-HANS.out];exact zlu his h2 (by rw[HNF.out];exact h3) (by rw[hj];exact jR hq)
  obtain⟨d0,d1,d2,d3,d4,d5,d6,d7,d8,d9,d10,d11,d12⟩:=hcl;rw[hj]at z1 hnz h3d h3;have HJ:Hid (e.n=(j:Int)):=hj;clear hl hq h2 his hj;go_upto_region 10 with fail;obtain⟨W1,hW1⟩:∃W1,W0.alloc (.cells #[U8 q.p.b0,U8 q.p.b1,U8 q.p.b2,U8 q.p.b3,U8 q.p.b4,U8 q.p.b5,U8 q.p.b6,U8 q.p.b7,I6 q.r,.bool q.u,.bool q.d,I6 q.f,I6 q.x] 69)=W1:=⟨_,rfl⟩;obtain⟨pq,HPQ⟩:∃pq,Hid (W0.heap.size=pq):=⟨_,rfl⟩;have G1:=gT hW1 G0
  have Q1:=xP hW1 HPQ
  have Y1:=yA hW1 Y0
  have Z1:=yA hW1 Z0
  rw[hW1,HPQ.out];clear hW1 d0 d1 d2 d3 d4 d5 d6 d7 d8 d9 d10 d11 d12 x0 x2 y0 y1 y2 y3 y4 y5 z0 z1 z2;have q8:=Q1.c 8 rfl;have q11:=Q1.c 11 rfl;have q12:=Q1.c 12 rfl;have y2:=Y1.c 2 rfl;have y3:=Y1.c 3 rfl;have y4:=Y1.c 4 rfl;have y5:=Y1.c 5 rfl;have z2:=Z1.c 2 rfl;go_upto_region 11 with fail;obtain⟨it,HIT⟩:∃it,Hid ((decide (0<=x.file) &&(q.f == x.file) &&(q.x == x.page))=it):=⟨_,rfl⟩;rw[HIT.out]at HF
  go_cut [9] (fun s9 wx=>s9= .bool it/\wx=W1)
  case first=>
   by_cases k1:0<=x.file
   ·have k1d:decide ((0:Int)<=x.file)=true:=by simpa using k1
    by_cases k2:q.f=x.file
    ·have k2e:(q.f == x.file)=true:=by simp[k2]
     have HV:Hid ((q.x == x.page)=it):=dD<|by rw[<-HIT.out,k1d,k2e];rfl
     clear k1 k2;go_wp2
     go_meet
     exact⟨by rw[HV.out],rfl⟩
    have k2e:(q.f == x.file)=false:=by simp[k2]
    have HV:Hid (false=it):=dD<|by rw[<-HIT.out,k2e];simp
    clear k1 k2;go_wp2
    go_meet
    exact⟨by rw[<-HV.out],rfl⟩
   have k1d:decide ((0:Int)<=x.file)=false:=by simpa using k1
   have HV:Hid (false=it):=dD<|by rw[<-HIT.out,k1d];rfl
   clear k1;go_wp2
   go_meet
   exact⟨by rw[<-HV.out],rfl⟩
  obtain⟨rfl,rfl⟩:=hcut;obtain⟨mi,hmi⟩:∃mi,(q.f == -1)=mi:=⟨_,rfl⟩;obtain⟨bg,hbg⟩:∃bg,decide (1<q.r)=bg:=⟨_,rfl⟩;rw[hmi,hbg]at HF;try rw[hmi]
  obtain⟨sh,hsh⟩:∃sh,x.sh=sh:=⟨_,rfl⟩;obtain⟨ew,hew⟩:∃ew,e.wr=ew:=⟨_,rfl⟩;obtain⟨xw,hxw⟩:∃xw,x.wr=xw:=⟨_,rfl⟩;rw[hsh,hew,hxw]at HF;rw[hsh]at y3;rw[hew]at z2;rw[hxw]at y2;clear hsh hew hxw hmi y4 y5 q11 q12
  cases mi with
  | false=>
   cases it with
   | false=>
    (go_wp2;go_ret;exact⟨by rw[HF.out];first | rfl | (cases bg <;> rfl),G1⟩)
   | true=>
    cases sh with
    | false=>
     cases ew with
     | false=>
      (go_wp2;go_ret;exact⟨by rw[HF.out];first | rfl | (cases bg <;> rfl),G1⟩)
     | true=>
      cases xw with
      | false=>
       (go_wp2;go_ret;exact⟨by rw[HF.out];first | rfl | (cases bg <;> rfl),G1⟩)
      | true=>
       (go_wp2;go_ret;exact⟨by rw[HF.out];first | rfl | (cases bg <;> rfl),G1⟩)
    | true=>
     cases ew with
     | false=>
      (go_wp2;go_ret;exact⟨by rw[HF.out];first | rfl | (cases bg <;> rfl),G1⟩)
     | true=>
      cases xw with
      | false=>
       (go_wp2;go_ret;exact⟨by rw[HF.out];first | rfl | (cases bg <;> rfl),G1⟩)
      | true=>
       (go_wp2;go_ret;exact⟨by rw[HF.out];first | rfl | (cases bg <;> rfl),G1⟩)
  | true=>
   cases sh with
   | false=>
    cases ew with
    | false=>
     (go_wp2;go_ret;exact⟨by rw[HF.out];first | rfl | (cases bg <;> rfl),G1⟩)
    | true=>
     cases xw with
     | false=>
      (go_wp2;go_ret;exact⟨by rw[HF.out];first | rfl | (cases bg <;> rfl),G1⟩)
     | true=>
      cases it with
      | false=>
       cases bg with
       | false=>
        (go_wp2;go_ret;exact⟨by rw[HF.out];first | rfl | (cases bg <;> rfl),G1⟩)
       | true=>
        (go_wp2;go_ret;exact⟨by rw[HF.out];first | rfl | (cases bg <;> rfl),G1⟩)
      | true=>
       (go_wp2;go_ret;exact⟨by rw[HF.out];first | rfl | (cases bg <;> rfl),G1⟩)
   | true=>
    cases it with
    | false=>
     (go_wp2;go_ret;exact⟨by rw[HF.out];first | rfl | (cases bg <;> rfl),G1⟩)
    | true=>
     cases ew with
     | false=>
      (go_wp2;go_ret;exact⟨by rw[HF.out];first | rfl | (cases bg <;> rfl),G1⟩)
     | true=>
      cases xw with
      | false=>
       (go_wp2;go_ret;exact⟨by rw[HF.out];first | rfl | (cases bg <;> rfl),G1⟩)
      | true=>
       cases bg with
       | false=>
        (go_wp2;go_ret;exact⟨by rw[HF.out];first | rfl | (cases bg <;> rfl),G1⟩)
       | true=>
        (go_wp2;go_ret;exact⟨by rw[HF.out];first | rfl | (cases bg <;> rfl),G1⟩)
theorem ze1 {s:Sp} (h:tbW s.tb=0) (n:Nat):enW (zk s n)=0:=by
 unfold zk zaJ;have hall:=Zr.1 h;have:zfp (s.tb[n / 8]?.getD []):=by
  cases e:s.tb[n / 8]? with
  | none=>exact .inl rfl
  | some x=>exact hall x (mG e)
 exact this.get (n % 8)
theorem zkl {e:En} (h:enW e=0):0<=e.n:=by
 unfold enW at h
 split at h
 ·split at h
  ·omega
  cases h
 cases h
structure Pts (m:Ma):Prop where
 s4:m.sp.length<=4
 f40:m.fs.length<=40
 fr:∀(k:Nat) f,m.fs[k]? =some f->0<=f.r/\f.r<=1000
 fl:m.fl.length<=5/\∀f∈m.fl,f.bl.length<=12
 ar:∀s∈m.sp,(wrL s.ars).1=0/\tbW s.tb=0
theorem zkd (h:Jk m=0):Pts m:=by
 unfold Jk at h;rw[zn]at h;have p1:j1 m.fs m.hand=0:=h _ (by simp)
 have p5:stW m.fl m.cnt=0:=h _ (by simp)
 have p9:(if 4<m.sp.length then(4:Int)else 0)=0:=h _ (by simp)
 have p10:=zn.1 (h (zB (m.sp.map spE)) (by simp))
 obtain⟨⟨a1,a2,a3⟩,a4,a5⟩:=(jE _ _).1 p5;unfold j1 at p1
 split at p1
 ·cases p1
 rename_i b1
 split at p1
 ·rename_i b2
  refine⟨?_,by omega,fun k f hf=>?_,⟨a1,fun f hf=>?_⟩,fun s hs=>?_⟩
  ·split at p9
   ·cases p9
   omega
  ·have hw:=Js.1 b2 f (mG hf);unfold frW at hw
   split at hw
   ·cases hw
   rename_i c1
   simp[inB]at c1
   omega
  ·obtain⟨k1,k2,k3⟩:=a4 f hf;have:=zgJ k1.1 k1.2;omega
  have h3:=p10 (spE s) (List.mem_map.2 ⟨s,hs,rfl⟩);unfold spE at h3
  split at h3
  ·rename_i c
   exact absurd h3 c
  rename_i c
  split at h3
  ·rename_i d
   exact absurd h3 d
  rename_i d
  exact⟨Classical.byContradiction c,Classical.byContradiction d⟩
 rename_i b2
 exact absurd p1 b2
theorem tb8 {t:List (List En)} (h:tbW t=0):∀x∈t,x.length<=8:=fun x hx=>by
 rcases Zr.1 h x hx with e|e
 ·rw[e];simp
 rw[e.1];omega
theorem zga {l:List Ca} {c:Ca} {k:Int} (h:l[j]? =some c):zQ (l.take (j+1)) k=zQ (l.take j) k+(decide (c.fr=k)).toNat:=by
 unfold zQ;rw[List.take_add_one,h]
 simp[List.countP_append,List.countP_cons,Bool.toNat]
theorem ziV {l:List Ca} (j:Nat) {k:Int}:zQ (l.take j) k<=j:=nT List.countP_le_length (by simp;omega)
theorem zeH:∀{l:List Ar} {p:Option Ar} {n:Nat},ZP p l->(zJ l n).is=true->0<=(zJ l n).page/\((zJ l n).page<=11\/(zJ l n).file<0)
 | [],_,_,_,h=>by cases h
 | a :: l,p,n,hc,h=>by
  unfold zJ at h⊢
  by_cases e:ZO a n=true
  ·rw[if_pos e]at h⊢;have ha:=hc.1;have e':=qe.1 e;unfold ju at ha;unfold qG;simp only
   split
   ·exact⟨by omega,.inl (by omega)⟩
   exact⟨by omega,.inr (by omega)⟩
  rw[if_neg e]at h⊢;exact zeH hc.2.2 h
def zgX (r:List Int × Bool × Int):Value:= .tuple #[.agg (pgc r.1).toArray,.bool r.2.1,I6 r.2.2]
theorem zkX (h:maW m=0):∀s∈m.sp,∀n,n<64->(if(zk s n).kind=0 then 0 else QA m (zJ s.ars n) (zk s n))=0:=fun s hs n hn=>by
 unfold maW at h;rw[zn]at h;have h1:=zn.1 (h (zB (m.sp.map (Jg m))) (by simp)) (Jg m s) (List.mem_map.2 ⟨s,hs,rfl⟩)
 unfold Jg at h1;exact zn.1 h1 _ (List.mem_map.2 ⟨n,List.mem_range.2 hn,rfl⟩)
theorem zkm (h:maW m=0):∀c∈m.ca,0<=c.fr/\c.fr< (m.fs.length:Int):=fun c hc=>by
 unfold maW at h;rw[zn]at h;have h1:=(zS.1 (h (zai m none m.ca) (by simp))).1 c hc
 unfold caE at h1
 split at h1
 ·cases h1
 omega
theorem zeO (h:maW m=0):Jk m=0:=by
 unfold maW at h;rw[zn]at h;exact h _ (by simp)
theorem zfG (V:MaV) (m:Ma) (p n:Int) (w:World) (hm:zF w V m) (hw:maW m=0) (hfs:∀s∈m.sp,qS m.fl.length s.ars):
  Calls prog 76 #[.agg (mL V m).toArray,I6 p,I6 n] w fun e w'=>e= .returned (zgX (jo m p n))/\(jo m p n).1.length=8/\zc w w':=by
 have HM:Hid (zF w V m):=hm;obtain⟨n1,n2,-,-,-,-,n7,n8,n9⟩:=hm.ns;obtain⟨xs,hxl,hrow,hsp⟩:=hm.spaces;have HFR:Hid (Q3 w V.f.a m.fs):=hm.frs;obtain⟨_,_,hfe,_,hfr⟩:=qW.rows hm.fl;have HFL:Hid (Qh w V.fl.a m.fl):=show Qh _ _ _ by
  simp only[vJ]at hfe;rw[hfe.1];exact hfr
 have HP:Hid (Pts m):=zkd (zeO hw);have HENT:Hid (∀s∈m.sp,∀n,n<64->(if(zk s n).kind=0 then 0 else QA m (zJ s.ars n) (zk s n))=0):=show∀s,_ from zkX hw
 have HFS:Hid (∀s∈m.sp,qS m.fl.length s.ars):=dD<|hfs
 have HCO:Hid (∀W (fi ix:Nat) f bk,zc w W->m.fl[fi]? =some f->f.bl[ix]? =some bk->ix<=1000->Calls prog 65 #[.agg (mL V m).toArray,I6 (fi:Int),I6 (ix:Int)] W fun e w'=>e= .returned (.agg (pgc (ja m fi ix)).toArray)/\(ja m fi ix).length=8/\zc W w'):=dD<|fun W fi ix f bk hW hf hb hi=>zag V m fi ix f bk W (HM.grew hW) (fun c hc _=>zkm hw c hc) hf hb hi
 have HRD:Hid (∀W k,zc w W->Calls prog 99 #[.agg #[V.sb.x,V.sq.x],I6 k] W fun e w'=>e= .returned (.tuple #[.agg (pgc (j5 m.sb m.sq k)).toArray,I6 (qT m.sb.length m.sq k)])/\zc W w'):=dD<|fun W k hW=>zbV _ m.sb m.sq k W ⟨_,_,rfl,(HM.grew hW).sb,(HM.grew hW).sq⟩
 have HRL:Hid (∀k,(j5 m.sb m.sq k).length=8):=dD<|fun k=>zkc hm.sb.2.1 hm.sq.2.1
 obtain⟨⟨fa,fn,fc⟩,⟨sa,sn,sc⟩,⟨sba,sbn,sbc⟩,⟨sqa,sqn,sqc⟩,vdb,vdq,⟨fla,fln,flc⟩,⟨caa,can,cac⟩,⟨spa,spn,spc⟩⟩:=V;dsimp only[mL]at n1 n2 n7 n8 n9 hrow HFR HFL HCO HRD⊢;have HN1:Hid (m.fs.length=fn):=n1.symm;have HN7:Hid (m.fl.length=fln):=n7.symm;have HN9:Hid (m.sp.length=spn):=n9.symm;have HXL:Hid (xs.length=spn):=show _=_ by rw[hxl];exact HN9.out
 have HRW:Hid (∀(j:Nat) x,xs[j]? =some x->∃ad,spa=some ad/\∀W,zc w W->zcs W (ad.add (j*10)) x):=dD<|hrow
 have HSP:Hid (∀(i:Nat) x s,xs[i]? =some x->m.sp[i]? =some s->zZ w x s):=dD<|hsp
 clear hm n1 n2 n7 n8 n9 hxl hrow hsp hfe hfr hw hfs;obtain⟨W0,hW0⟩:∃W0,(w.alloc (.cells #[.slice fa fn fc,I6 m.hand,.slice sa sn sc,.slice sba sbn sbc,.slice sqa sqn sqc,vdb.x,vdq.x,.slice fla fln flc,I6 m.cnt,.slice caa can cac,.slice spa spn spc] 41)).alloc (.cells #[U8 0,U8 0,U8 0,U8 0,U8 0,U8 0,U8 0,U8 0] 67)=W0:=⟨_,rfl⟩;have G0:=gD2 hW0
 have X0:=x2a hW0
 have Y0:Hid (Box W0 (w.heap.size+1) (pgc zt)):=dD<|by rw[<-hW0];exact Box.top _ (pgc zt) _ (by simp)
 have HW0:Hid (_=W0):=hW0;clear hW0
 by_cases a1:p<0
 ·have HR:Hid (jo m p n=(zt,false,5)):=dD<|by unfold jo;exact if_pos (by rw[HN9.out];omega)
  have k1:decide (p<0)=true:=decide_eq_true a1;clear a1
  go_enter func76,ntmps76
  go_upto_region 1 with fail;rw[HW0.out];have x10:=X0.c 10 rfl
  go_wp2_with (refine zy rfl 67 (.tmp 6) (.tmp 31) rfl (w.heap.size+1) rfl (pgc zt) rfl Y0 rfl zml (jk _) ?_)
  intro WL hbL hgL _;have HGL:Hid (zc w WL):=dD<|zd G0 hgL (by omega)
  go_wp2;refine bodyPost_ret (zW rfl _ rfl hbL underlying67 rfl zml) rfl ⟨by rw[HR.out];rfl,by rw[HR.out];rfl,HGL⟩
 by_cases a2:(spn:Int)<=p
 ·have HR:Hid (jo m p n=(zt,false,5)):=dD<|by unfold jo;exact if_pos (by rw[HN9.out];omega)
  have k1:decide (p<0)=false:=decide_eq_false a1;have k2:decide ((spn:Int)<=p)=true:=decide_eq_true a2;clear a1 a2
  go_enter func76,ntmps76
  go_upto_region 1 with fail;rw[HW0.out];have x10:=X0.c 10 rfl
  go_wp2_with (refine zy rfl 67 (.tmp 6) (.tmp 31) rfl (w.heap.size+1) rfl (pgc zt) rfl Y0 rfl zml (jk _) ?_)
  intro WL hbL hgL _;have HGL:Hid (zc w WL):=dD<|zd G0 hgL (by omega)
  go_wp2;refine bodyPost_ret (zW rfl _ rfl hbL underlying67 rfl zml) rfl ⟨by rw[HR.out];rfl,by rw[HR.out];rfl,HGL⟩
 by_cases a3:n<0
 ·have HR:Hid (jo m p n=(zt,false,5)):=dD<|by unfold jo;exact if_pos (by rw[HN9.out];omega)
  have k1:decide (p<0)=false:=decide_eq_false a1;have k2:decide ((spn:Int)<=p)=false:=decide_eq_false a2;have k3:decide (n<0)=true:=decide_eq_true a3;clear a1 a2 a3
  go_enter func76,ntmps76
  go_upto_region 1 with fail;rw[HW0.out];have x10:=X0.c 10 rfl
  go_wp2_with (refine zy rfl 67 (.tmp 6) (.tmp 31) rfl (w.heap.size+1) rfl (pgc zt) rfl Y0 rfl zml (jk _) ?_)
  intro WL hbL hgL _;have HGL:Hid (zc w WL):=dD<|zd G0 hgL (by omega)
  go_wp2;refine bodyPost_ret (zW rfl _ rfl hbL underlying67 rfl zml) rfl ⟨by rw[HR.out];rfl,by rw[HR.out];rfl,HGL⟩
 by_cases a4:63<n
 ·have HR:Hid (jo m p n=(zt,false,5)):=dD<|by unfold jo;exact if_pos (by rw[HN9.out];omega)
  have k1:decide (p<0)=false:=decide_eq_false a1;have k2:decide ((spn:Int)<=p)=false:=decide_eq_false a2;have k3:decide (n<0)=false:=decide_eq_false a3;have k4:decide (63<n)=true:=decide_eq_true a4;clear a1 a2 a3 a4
  go_enter func76,ntmps76
  go_upto_region 1 with fail;rw[HW0.out];have x10:=X0.c 10 rfl
  go_wp2_with (refine zy rfl 67 (.tmp 6) (.tmp 31) rfl (w.heap.size+1) rfl (pgc zt) rfl Y0 rfl zml (jk _) ?_)
  intro WL hbL hgL _;have HGL:Hid (zc w WL):=dD<|zd G0 hgL (by omega)
  go_wp2;refine bodyPost_ret (zW rfl _ rfl hbL underlying67 rfl zml) rfl ⟨by rw[HR.out];rfl,by rw[HR.out];rfl,HGL⟩
 obtain⟨pp,rfl⟩:∃pp:Nat,p=(pp:Int):=⟨p.toNat,by omega⟩
 obtain⟨nn,rfl⟩:∃nn:Nat,n=(nn:Int):=⟨n.toNat,by omega⟩
 have hpn:pp<spn:=by omega
 have hn64:nn<64:=by omega
 obtain⟨x,hx⟩:∃x,xs[pp]? =some x:=⟨_,gE (by rw[HXL.out];exact hpn)⟩
 obtain⟨s,HS⟩:∃s,Hid (m.sp[pp]? =some s):=⟨_,gE (by rw[HN9.out];exact hpn)⟩
 have HAT:Hid (zZ w x s):=HSP.out pp x s hx HS.out;obtain⟨ad,HSA,hl⟩:∃ad,Hid (spa=some ad)/\∀W,zc w W->zcs W (ad.add (pp*10)) x:=HRW.out pp x hx;have HRT:Hid ((wrL s.ars).1=0/\tbW s.tb=0):=HP.ar s (mG HS);obtain⟨o,HO⟩:∃o,Hid (zJ s.ars nn=o):=⟨_,rfl⟩;obtain⟨e,HE⟩:∃e,Hid (zk s nn=e):=⟨_,rfl⟩;have HVR:Hid (jo m (pp:Int) (nn:Int)=if o.is=false then(zt,false,5)else if e.kind=1 then(pgL (zY m e.n).p,decide ((zY m e.n).f<0),0)else if e.kind=2 then(j5 m.sb m.sq e.n,true,0)else if o.file<0 then(zt,false,0)else if bkN m o.file<=o.page then(zt,false,9)else(ja m o.file o.page,false,0)):=show _=_ by
  unfold jo;rw[if_neg (by rw[HN9.out];omega)]
  have hsd:m.sp.getD pp ⟨false,[],[]⟩=s:=by rw[gD,HS.out];rfl
  simp only[tN,hsd,HO.out,HE.out]
 have HON:Hid (∀W,zc w W->Calls prog 23 #[x.ar.x] W fun e w'=>e= .returned (.agg (zz (tab (zJ s.ars))).toArray)/\zc W w'):=dD<|fun W hW=>jG _ s.ars W (HAT.ar.grew hW) (jD.1 HRT.1).2.lies
 have HFT:Hid (∀W,zc w W->Calls prog 28 #[.agg #[x.t0.x,x.t1.x,x.t2.x,x.t3.x,x.t4.x,x.t5.x,x.t6.x,x.t7.x]] W fun e w'=>e= .returned (.agg (qk (Jb s.tb)).toArray)/\zc W w'):=dD<|fun W hW=>za3 x.tab s.tb W ((HAT.grew hW).tb) (tb8 HRT.2)
 have HZF:Hid ((Jb s.tb)[nn]? =some e):=(zbE s.tb hn64).trans (congrArg some HE);have h0:0<=e.n:=by rw[<-HE.out];exact zkl (ze1 HRT.2 nn)
 have HE1:Hid (o.is=true->e.kind=1->e.n< (fn:Int)):=dD<|fun h1 h2=>by
  have h3:QA m o e=0:=by
   have:=HENT.out s (mG HS) nn hn64;rw[HE.out,HO.out,if_neg (by omega)]at this
   exact this
  unfold QA at h3;rw[if_neg (by rw[h1];decide),if_neg (by omega)]at h3
  have h4:=HN1.out
  split at h3
  ·cases h3
  omega
 have HPG:Hid (o.is=true->0<=o.page/\(o.page<=11\/o.file<0)):=dD<|fun h1=>by rw[<-HO.out]at h1⊢;exact zeH (jD.1 HRT.1).2 h1
 have HFI:Hid (o.is=true->o.file< (fln:Int)):=dD<|fun h1=>by
  have h2:=HFS.out s (mG HS) nn hn64 (by rw[HO.out];exact h1)
  rw[HO.out,HN7.out]at h2;exact h2
 have hov:Value.agg (onv (zJ s.ars nn)).toArray= .agg #[.bool o.is,.bool o.rd,.bool o.wr,.bool o.sh,I6 o.file,I6 o.page]:=by rw[HO.out];rfl
 have k1:decide ((pp:Int)<0)=false:=decide_eq_false a1;have k2:decide (spn<=pp)=false:=decide_eq_false (by omega)
 have k3:decide ((nn:Int)<0)=false:=decide_eq_false a3;have k4:decide ((63:Int)< (nn:Int))=false:=decide_eq_false a4;have hpz:(pp:Int)< (spn:Int):=by omega
 clear a1 a2 a3 a4 hx
 go_enter func76,ntmps76
 go_upto_region 1 with fail;rw[HW0.out];have x10:=X0.c 10 rfl;rw[HSA.out]at x10;obtain⟨d0,d1,d2,d3,d4,d5,d6,d7,d8,d9⟩:=hl W0 G0.out;have HL:Hid (∀W,zc w W->zcs W (ad.add (pp*10)) x):=dD<|hl
 clear hl d0 d2 d3 d4 d5 d6 d7 d8 d9;have hc:=HON.out W0 G0.out;go_wp2_with fail;refine hc.mono ?_;clear hc d1 x10 k1 k2 k3 k4;rintro r W1 ⟨rfl,g1⟩;have G1:=dD (G0.trans g1);have X1:=dD (X0.grew g1);have Y1:=dD (Y0.grew g1);clear g1
 go_upto_region 4 with(refine zbw rfl (.tmp 38) (.tmp 39) rfl (zJ s.ars) rfl nn rfl hn64 hov ?_)
 obtain⟨po,HPO⟩:∃po,Hid (W1.heap.size=po):=⟨_,rfl⟩;obtain⟨W2,hW2⟩:∃W2,W1.alloc (.cells #[.bool o.is,.bool o.rd,.bool o.wr,.bool o.sh,I6 o.file,I6 o.page] 61)=W2:=⟨_,rfl⟩;have g2:=gP hW2
 have O2:=xP hW2 HPO
 have G2:=dD (G1.trans g2);have X2:=dD (X1.grew g2);have Y2:=dD (Y1.grew g2);rw[hW2,HPO.out];clear hW2 g2 hov;have o0:=O2.c 0 rfl
 cases his:o.is with
 | false=>
  rw[his]at o0;have HR:Hid (jo m (pp:Int) (nn:Int)=(zt,false,5)):=dD<|by rw[HVR.out,if_pos his]
  clear his
  go_wp2_with (refine zy rfl 67 (.tmp 6) (.tmp 44) rfl (w.heap.size+1) rfl (pgc zt) rfl Y2 rfl zml (jk _) ?_)
  intro WL hbL hgL _;have HGL:Hid (zc w WL):=dD<|zd G2 hgL (by omega)
  go_wp2;refine bodyPost_ret (zW rfl _ rfl hbL underlying67 rfl zml) rfl ⟨by rw[HR.out];rfl,by rw[HR.out];rfl,HGL⟩
 | true=>
 rw[his]at o0;have HVR2:Hid (jo m (pp:Int) (nn:Int)=if e.kind=1 then(pgL (zY m e.n).p,decide ((zY m e.n).f<0),0)else if e.kind=2 then(j5 m.sb m.sq e.n,true,0)else if o.file<0 then(zt,false,0)else if bkN m o.file<=o.page then(zt,false,9)else(ja m o.file o.page,false,0)):=dD<|by rw[HVR.out,if_neg (by rw[his];decide)]
 obtain⟨hpg0,hpg1⟩:=HPG.out his;have hfl0:=HFI.out his;have HE2:Hid (e.kind=1->e.n< (fn:Int)):=dD<|HE1.out his
 clear his;obtain⟨d0,d1,d2,d3,d4,d5,d6,d7,d8,d9⟩:=HL.out W2 G2.out;have x10:=X2.c 10 rfl;rw[HSA.out]at x10;have hc:=HFT.out W2 G2.out;go_wp2_with fail;refine hc.mono ?_;clear hc d0 d1 d2 d3 d4 d5 d6 d7 d8 d9 x10 o0;rintro r W3 ⟨rfl,g3⟩;have G3:=dD (G2.trans g3);have X3:=dD (X2.grew g3);have Y3:=dD (Y2.grew g3);have O3:=dD (O2.grew g3);clear g3
 go_upto_region 7 with(refine zau rfl (.tmp 51) (.tmp 52) rfl (Jb s.tb) rfl nn rfl hn64 HZF.out ?_)
 obtain⟨pe,HPE⟩:∃pe,Hid (W3.heap.size=pe):=⟨_,rfl⟩;obtain⟨W4,hW4⟩:∃W4,W3.alloc (.cells #[I6 e.kind,I6 e.n,.bool e.wr] 74)=W4:=⟨_,rfl⟩;have g4:=gP hW4
 have E4:=xP hW4 HPE
 have G4:=dD (G3.trans g4);have X4:=dD (X3.grew g4);have Y4:=dD (Y3.grew g4);have O4:=dD (O3.grew g4);rw[hW4,HPE.out];clear hW4 g4;have e0:=E4.c 0 rfl;have e1:=E4.c 1 rfl
 by_cases h1:e.kind=1
 ·have h1e:(e.kind == 1)=true:=by simp[h1]
  obtain⟨k,hk⟩:∃k:Nat,e.n=(k:Int):=⟨e.n.toNat,by omega⟩
  have hkf:=HE2.out h1;rw[hk]at hkf;obtain⟨q,HQ⟩:∃q,Hid (m.fs[k]? =some q):=⟨_,gE (by rw[HN1.out];omega)⟩
  have HR:Hid (jo m (pp:Int) (nn:Int)=(pgL q.p,decide (q.f<0),0)):=dD<|by rw[HVR2.out,if_pos h1,hk,jR HQ.out]
  obtain⟨adf,hva,hlf⟩:=HFR.out k q HQ.out;obtain⟨d0,d1,d2,d3,d4,d5,d6,d7,d8,d9,d10,d11,d12⟩:=hlf W4 G4.out;have x0:=X4.c 0 rfl;rw[hva]at x0;rw[hk]at e1;clear hlf hva h1 hk;go_upto_region 9 with fail;obtain⟨pq,HPQ⟩:∃pq,Hid (W4.heap.size=pq):=⟨_,rfl⟩;obtain⟨W5,hW5⟩:∃W5,W4.alloc (.cells #[U8 q.p.b0,U8 q.p.b1,U8 q.p.b2,U8 q.p.b3,U8 q.p.b4,U8 q.p.b5,U8 q.p.b6,U8 q.p.b7,I6 q.r,.bool q.u,.bool q.d,I6 q.f,I6 q.x] 69)=W5:=⟨_,rfl⟩;have g5:=gP hW5
  have Q5:=xP hW5 HPQ
  have G5:=dD (G4.trans g5);have Y5:=dD (Y4.grew g5);have hne:w.heap.size+1≠pq:=by have:=Y4.lt;have h2:=HPQ.out;omega
  have hne2:pq≠w.heap.size+1:=fun h=>hne h.symm
  rw[hW5,HPQ.out];clear hW5 g5 x0 e0 e1 d0 d1 d2 d3 d4 d5 d6 d7 d8 d9 d10 d11 d12;obtain⟨q0,q1,q2,q3,q4,q5,q6,q7⟩:=Q5.c8;have q11:=Q5.c 11 rfl;obtain⟨y0,y1,y2,y3,y4,y5,y6,y7⟩:=Y5.c8;have yf:=Y5.f
  go_region
  all_goals
   obtain⟨W6,hW6⟩:∃W6,(((((((((W5).setCell ⟨w.heap.size+1,0,none⟩ (U8 q.p.b0)).setCell ⟨w.heap.size+1,1,none⟩ (U8 q.p.b1)).setCell ⟨w.heap.size+1,2,none⟩ (U8 q.p.b2)).setCell ⟨w.heap.size+1,3,none⟩ (U8 q.p.b3)).setCell ⟨w.heap.size+1,4,none⟩ (U8 q.p.b4)).setCell ⟨w.heap.size+1,5,none⟩ (U8 q.p.b5)).setCell ⟨w.heap.size+1,6,none⟩ (U8 q.p.b6)).setCell ⟨w.heap.size+1,7,none⟩ (U8 q.p.b7)).drew=W6:=⟨_,rfl⟩;have Y6:Hid (Box W6 (w.heap.size+1) (pgc (pgL q.p))):=dD<|by rw[<-hW6];exact(((((((((Y5).set 0 _).set 1 _).set 2 _).set 3 _).set 4 _).set 5 _).set 6 _).set 7 _).grew (show Below _ _ _ from Below.drew (bR _ _))
   have G6:Hid (zc w W6):=dD<|by rw[<-hW6];exact(zu (zu (zu (zu (zu (zu (zu (zu (G5) (by simp) _) (by simp) _) (by simp) _) (by simp) _) (by simp) _) (by simp) _) (by simp) _) (by simp) _).trans (show Below _ _ _ from Below.drew (bR _ _))
   rw[hW6];clear hW6 yf q0 q1 q2 q3 q4 q5 q6 q7 q11 y0 y1 y2 y3 y4 y5 y6 y7;go_wp2;refine bodyPost_ret (zW rfl _ rfl Y6 underlying67 rfl zml) rfl ⟨by rw[HR.out];rfl,by rw[HR.out];rfl,G6⟩
 have h1e:(e.kind == 1)=false:=by simp[h1]
 by_cases h2:e.kind=2
 ·have h2e:(e.kind == 2)=true:=by simp[h2]
  have HR:Hid (jo m (pp:Int) (nn:Int)=(j5 m.sb m.sq e.n,true,0)):=dD<|by rw[HVR2.out,if_neg h1,if_pos h2]
  have HRN:Hid ((j5 m.sb m.sq e.n).length=8):=HRL.out e.n;have x3:=X4.c 3 rfl;have x4:=X4.c 4 rfl;have hc:=HRD.out W4 e.n G4.out;clear h1 h2;go_wp2_with fail;refine hc.mono ?_;clear hc x3 x4 e0 e1;rintro r W5 ⟨rfl,g5⟩;have G5:=dD (G4.trans g5);have Y5:=dD (Y4.grew g5);obtain⟨rl,HRLL⟩:∃rl,Hid (j5 m.sb m.sq e.n=rl):=⟨_,rfl⟩;rw[HRLL.out]at HR HRN⊢;obtain⟨p0,p1,p2,p3,p4,p5,p6,p7,rfl⟩:=zhC rl HRN.out;simp only[pgc,mP,List.map_nil];go_upto_region 12 with fail;obtain⟨pl,HPL⟩:∃pl,Hid (W5.heap.size=pl):=⟨_,rfl⟩;obtain⟨W6,hW6⟩:∃W6,W5.alloc (.cells #[U8 p0,U8 p1,U8 p2,U8 p3,U8 p4,U8 p5,U8 p6,U8 p7] 67)=W6:=⟨_,rfl⟩;have g6:=gP hW6
  have P6:=xP hW6 HPL
  have G6:=dD (G5.trans g6);have Y6:=dD (Y5.grew g6);rw[hW6,HPL.out];clear hW6 g6 g5;obtain⟨c0,c1,c2,c3,c4,c5,c6,c7⟩:=P6.c8
  go_wp2_with (refine zy rfl 67 (.tmp 6) (.tmp 80) rfl (w.heap.size+1) rfl (pgc [p0,p1,p2,p3,p4,p5,p6,p7]) rfl Y6 rfl zml (jk _) ?_)
  intro WL hbL hgL _;have HGL:Hid (zc w WL):=dD<|zd G6 hgL (by omega)
  go_wp2;refine bodyPost_ret (zW rfl _ rfl hbL underlying67 rfl zml) rfl ⟨by rw[HR.out];rfl,by rw[HR.out];rfl,HGL⟩
 have h2e:(e.kind == 2)=false:=by simp[h2]
 have HVR3:Hid (jo m (pp:Int) (nn:Int)=if o.file<0 then(zt,false,0)else if bkN m o.file<=o.page then(zt,false,9)else(ja m o.file o.page,false,0)):=dD<|by rw[HVR2.out,if_neg h1,if_neg h2]
 clear h1 h2;have o4:=O4.c 4 rfl;have o5:=O4.c 5 rfl
 by_cases h3:o.file<0
 ·have h3d:decide (o.file<0)=true:=decide_eq_true h3;have HR:Hid (jo m (pp:Int) (nn:Int)=(zt,false,0)):=dD<|by rw[HVR3.out,if_pos h3]
  clear h3
  go_wp2_with (refine zy rfl 67 (.tmp 6) (.tmp 84) rfl (w.heap.size+1) rfl (pgc zt) rfl Y4 rfl zml (jk _) ?_)
  intro WL hbL hgL _;have HGL:Hid (zc w WL):=dD<|zd G4 hgL (by omega)
  go_wp2;refine bodyPost_ret (zW rfl _ rfl hbL underlying67 rfl zml) rfl ⟨by rw[HR.out];rfl,by rw[HR.out];rfl,HGL⟩
 have HVR4:Hid (jo m (pp:Int) (nn:Int)=if bkN m o.file<=o.page then(zt,false,9)else(ja m o.file o.page,false,0)):=dD<|by rw[HVR3.out,if_neg h3]
 obtain⟨fi,hfi⟩:∃fi:Nat,o.file=(fi:Int):=⟨o.file.toNat,by omega⟩
 obtain⟨pg,hpg⟩:∃pg:Nat,o.page=(pg:Int):=⟨o.page.toNat,by omega⟩
 obtain⟨f,HF⟩:∃f,Hid (m.fl[fi]? =some f):=⟨_,gE (by rw[HN7.out];omega)⟩
 obtain⟨ad7,h7,ba,bc,_,hlf⟩:=HFL.out fi f HF.out;obtain⟨-,f1⟩:=hlf W4 G4.out;obtain⟨bn,HBN⟩:∃bn,Hid (f.bl.length=bn):=⟨_,rfl⟩;rw[HBN.out]at f1;have HBK:Hid (bkN m o.file=(bn:Int)):=dD<|by unfold bkN;rw[hfi,tN,gD,HF.out];simp only[Option.getD_some];rw[HBN.out]
 have x7:=X4.c 7 rfl;rw[h7]at x7;rw[hfi]at o4;rw[hpg]at o5;have h3d:decide ((fi:Int)<0)=false:=decide_eq_false (by omega)
 have hfz:(fi:Int)< (fln:Int):=by omega
 have hpg3:pg<=1000:=by omega
 rw[HBK.out,hfi,hpg]at HVR4;clear h3 hfi hpg hlf h7 hpg0 hpg1 hfl0;go_upto_region 15 with fail
 by_cases h4:bn<=pg
 ·have h4d:decide (bn<=pg)=true:=decide_eq_true h4;have HR:Hid (jo m (pp:Int) (nn:Int)=(zt,false,9)):=dD<|by rw[HVR4.out,if_pos (by omega)]
  clear h4;go_quiet (fail);obtain⟨W5,hW5⟩:∃W5,W4.drewN nq=W5:=⟨_,rfl⟩;have g5:zc W4 W5:=by rw[<-hW5];exact(show Below _ _ _ from bD (bR _ _) _)
  have G5:=dD (G4.trans g5);have Y5:=dD (Y4.grew g5);rw[hW5];clear hW5 g5 x7 f1 o4 o5
  go_wp2_with (refine zy rfl 67 (.tmp 6) (.tmp 97) rfl (w.heap.size+1) rfl (pgc zt) rfl Y5 rfl zml (jk _) ?_)
  intro WL hbL hgL _;have HGL:Hid (zc w WL):=dD<|zd G5 hgL (by omega)
  go_wp2;refine bodyPost_ret (zW rfl _ rfl hbL underlying67 rfl zml) rfl ⟨by rw[HR.out];rfl,by rw[HR.out];rfl,HGL⟩
 have h4d:decide (bn<=pg)=false:=decide_eq_false h4;obtain⟨bk,HBL⟩:∃bk,Hid (f.bl[pg]? =some bk):=⟨_,gE (by rw[HBN.out];omega)⟩
 have HR0:Hid (jo m (pp:Int) (nn:Int)=(ja m (fi:Int) (pg:Int),false,0)):=dD<|by rw[HVR4.out,if_neg (by omega)]
 clear h4;go_quiet (fail);obtain⟨W5,hW5⟩:∃W5,W4.drewN nq=W5:=⟨_,rfl⟩;have g5:zc W4 W5:=by rw[<-hW5];exact(show Below _ _ _ from bD (bR _ _) _)
 have G5:=dD (G4.trans g5);have X5:=dD (X4.grew g5);have Y5:=dD (Y4.grew g5);have O5:=dD (O4.grew g5);have o4':W5.cell? ⟨po,4,none⟩=some (I6 (fi:Int)):=by rw[<-hW5];exact o4
 have o5':W5.cell? ⟨po,5,none⟩=some (I6 (pg:Int)):=by rw[<-hW5];exact o5
 rw[hW5];clear hW5 g5 x7 f1 o4 o5;obtain⟨x0,x1,x2,x3,x4,x5,x6,x7,x8,x9,x10⟩:=X5.c11;have hc:=HCO.out W5 fi pg f bk G5 HF HBL hpg3;go_wp2_with fail;refine hc.mono ?_;clear hc;rintro r W6 ⟨rfl,hl8,g6⟩;have G6:=dD (G5.trans g6);have Y6:=dD (Y5.grew g6);obtain⟨rl,HRLL⟩:∃rl,Hid (ja m (fi:Int) (pg:Int)=rl):=⟨_,rfl⟩;have HR:Hid (jo m (pp:Int) (nn:Int)=(rl,false,0)):=show _=_ by rw[HR0.out,HRLL.out]
 rw[HRLL.out]at hl8⊢;have HL8:Hid (rl.length=8):=hl8;clear g6 hl8 x0 x1 x2 x3 x4 x5 x6 x7 x8 x9 x10 o4' o5';obtain⟨p0,p1,p2,p3,p4,p5,p6,p7,rfl⟩:=zhC rl HL8.out
 go_wp2_with (refine zy rfl 67 (.tmp 6) (.tmp 103) rfl (w.heap.size+1) rfl (pgc [p0,p1,p2,p3,p4,p5,p6,p7]) rfl Y6 rfl zml (jk _) ?_)
 intro WL hbL hgL _;have HGL:Hid (zc w WL):=dD<|zd G6 hgL (by omega)
 go_wp2;refine bodyPost_ret (zW rfl _ rfl hbL underlying67 rfl zml) rfl ⟨by rw[HR.out];rfl,by rw[HR.out];rfl,HGL⟩
end
end Go.Proofs.YtdgccecjbpgmfaaGreat
