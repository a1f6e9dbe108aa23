import Derived.Test.YtacihbmelcegbaaGreatPL7
import Derived.Deep.CutRange
import Derived.Deep.DeepCutAuto
import Derived.Laws.BytesArg
namespace Go.Proofs.YtacihbmelcegbaaGreat
set_option maxRecDepth 100000
set_option maxHeartbeats 4000000
variable{B fi hi i:Nat} {L:List Int} {T:List (Nat->En)} {V:MaV} {m:Ma} {vt:Sli} {w' w0:World}
open Go.Proofs.Tryz
section
open Go.RowKit
theorem zew (F S B:Int) (nf ns nb:Nat) (hnf:max (min F 40) 0=(nf:Int)) (hns:max (min S 60) 0=(ns:Int)) (hnb:max (min B 80) 0=(nb:Int)) (vl:Sli) (L:List Int) (w:World) (lr:zr byE w (.slice vl.a vl.n vl.c) L) (lc:vl.n<=vl.c) (lb:∀z∈L,0<=z/\z<256):
  Calls prog 13 #[.int .i64 F,.int .i64 S,.int .i64 B,.slice vl.a vl.n vl.c] w fun e w'=>∃(V:MaV) (m:Ma) (T:List (Nat->En)) (hd:Int) (hi ht:Nat) (vt:Sli),e= .returned (.agg #[.slice V.f.a V.f.n V.f.c,.int .i64 hd,.slice V.s.a V.s.n V.s.c,.slice V.sb.a V.sb.n V.sb.c,.slice V.sq.a V.sq.n V.sq.c,.slice V.db.a V.db.n V.db.c,.slice V.dq.a V.dq.n V.dq.c,.slice V.fl.a V.fl.n V.fl.c,.int .i64 m.cnt,.slice V.ca.a V.ca.n V.ca.c,.slice V.sp.a V.sp.n V.sp.c])/\ziL w nf ns nb L w' V m T hd hi ht vt:=by
 have hnf40:nf<=40:=by omega
 have hns60:ns<=60:=by omega
 have hnb80:nb<=80:=by omega
 obtain⟨W0,hW0⟩:∃W0,(w.alloc (.cells #[.slice none 0 0,.int .i64 0,.slice none 0 0,.slice none 0 0,.slice none 0 0,.slice none 0 0,.slice none 0 0,.slice none 0 0,.int .i64 0,.slice none 0 0,.slice none 0 0] 41)).alloc (.cells #[.slice vl.a vl.n vl.c,.slice none 0 0,.int .i64 0,.slice none 0 0,.slice none 0 0,.slice none 0 0,.slice none 0 0,.slice none 0 0,.slice none 0 0,.int .i64 0,.slice none 0 0,.slice none 0 0,.slice none 0 0] 95)=W0:=⟨_,rfl⟩;have G0:=gD2 hW0
 have X0:Hid (zp W0 w.heap.size 41 [.slice none 0 0,.int .i64 0,.slice none 0 0,.slice none 0 0,.slice none 0 0,.slice none 0 0,.slice none 0 0,.slice none 0 0,.int .i64 0,.slice none 0 0,.slice none 0 0]):=dD<|by rw[<-hW0];exact(zp.top _ [.slice none 0 0,.int .i64 0,.slice none 0 0,.slice none 0 0,.slice none 0 0,.slice none 0 0,.slice none 0 0,.slice none 0 0,.int .i64 0,.slice none 0 0,.slice none 0 0] _ rfl).grew (za _ _)
 have Y0:Hid (zp W0 (w.heap.size+1) 95 [.slice vl.a vl.n vl.c,.slice none 0 0,.int .i64 0,.slice none 0 0,.slice none 0 0,.slice none 0 0,.slice none 0 0,.slice none 0 0,.slice none 0 0,.int .i64 0,.slice none 0 0,.slice none 0 0,.slice none 0 0]):=dD<|by rw[<-hW0];exact zp.top _ [.slice vl.a vl.n vl.c,.slice none 0 0,.int .i64 0,.slice none 0 0,.slice none 0 0,.slice none 0 0,.slice none 0 0,.slice none 0 0,.slice none 0 0,.int .i64 0,.slice none 0 0,.slice none 0 0,.slice none 0 0] _ (by simp)
 have HW0:Hid (_=W0):=hW0;have HLR:Hid (zr byE w (.slice vl.a vl.n vl.c) L):=lr;have HLC:Hid (vl.n<=vl.c):=lc;have HLB:Hid (∀z∈L,0<=z/\z<256):=show∀z,_ from lb
 clear hW0 lr lc lb
 go_enter func13,ntmps13
 go_upto_region 3 with fail;rw[HW0.out];try rw[hnf]
 try rw[hns]
 try rw[hnb]
 clear hnf hns hnb;obtain⟨b,HBB⟩:∃b,Hid (w.heap.size+1=b):=⟨_,rfl⟩;rw[HBB.out]at Y0⊢;obtain⟨I,HI⟩:∃I:World->Prop,Hid (∀u,I u↔zc W0 u):=⟨fun u=>zc W0 u,fun _=>Iff.rfl⟩
 have hI0:I W0.drew:=(HI.out _).2 (gW _)
 have hne:Nonempty (zj I):=⟨⟨_,hI0⟩⟩;refine zdx (I:=I) (J:=JB nf ns nb) 17 [(2,⟨fun v=>∃g,v= .slice (some ⟨g,0,none⟩) nf nf,fun v u=>zb QO w.heap.size u v (List.replicate nf fr0),fun p q=>zc p q,fun _=>True⟩),(5,⟨fun v=>∃g,v= .slice (some ⟨g,0,none⟩) ns ns,fun v u=>zb slE w.heap.size u v (List.replicate ns 0),fun p q=>zc p q,fun _=>True⟩),(7,⟨fun v=>∃g,v= .slice (some ⟨g,0,none⟩) ns ns,fun v u=>zh w.heap.size u v (List.replicate ns zz),fun p q=>zc p q,fun _=>True⟩),(10,⟨fun v=>∃g,v= .slice (some ⟨g,0,none⟩) nb nb,fun v u=>zh w.heap.size u v (List.replicate nb zz),fun p q=>zc p q,fun _=>True⟩)] hI0 ?hJ0 ?hJq ?hJs ?hJu qn (by kernel_rfl) rfl rfl (by decide) ?hS ?hp ?hpre ?hpr0 ?_
 case hJ0=>
  refine⟨⟨rfl,rfl,rfl⟩,fun s hs=> .inl ?_,fun s hs x n c he=>?_,fun s hs t ht hst x n c y n' c' he=>?_⟩
  ·simp only[mC,nM,or_false]at hs
   rcases hs with rfl|rfl|rfl|rfl <;> rfl
  ·simp only[mC,nM,or_false]at hs
   rcases hs with rfl|rfl <;> cases he
  simp only[mC,nM,or_false]at hs
  rcases hs with rfl|rfl <;> cases he
 case hJq=>
  intro j o hj hS a v u hr hJ;exact hJ.quiet (zjd (Sx:=[2,5,7,10]) (by kernel_rfl) hj (zgE hS)) (by omega) (by omega) hnb80 hr
 case hJs=>
  intro j o s hj hs a u K hJ hI hd;have hs':=zP hs;clear hs;simp only[mC,pJ,nM,or_false]at hs'
  rcases hs' with⟨rfl,rfl⟩|⟨rfl,rfl⟩|⟨rfl,rfl⟩|⟨rfl,rfl⟩
  ·cases hj;obtain⟨i0,hi,hz0,hz1,hz2⟩:=info_parts QO.info;exact hJ.make 26 53 i0 _ 32 rfl (by simp) QO.und hi hz0 (by rw[hz2];decide) (by decide) hd
  ·cases hj;obtain⟨i0,hi,hz0,hz1,hz2⟩:=info_parts slE.info;exact hJ.make 30 3 i0 _ 35 rfl (by simp) slE.und hi hz0 (by rw[hz2];decide) (by decide) hd
  ·cases hj;obtain⟨i0,hi,hz0,hz1,hz2⟩:=info_parts zlK;exact hJ.make 31 44 i0 _ 37 rfl (by simp) underlying31 hi hz0 (by rw[hz2];decide) (by decide) hd
  cases hj;obtain⟨i0,hi,hz0,hz1,hz2⟩:=info_parts zlK;exact hJ.make 31 44 i0 _ 40 rfl (by simp) underlying31 hi hz0 (by rw[hz2];decide) (by decide) hd
 case hJu=>
  intro j o hj a u hJ;exact hJ.undef (zje (by kernel_rfl) hj)
 case hS=>
  intro x hx;simp only[mC,nM,or_false]at hx
  rcases hx with rfl|rfl|rfl|rfl <;> exact⟨_,0,rfl⟩
 case hp=>
  intro k s j t hk hj hjk hanc v p q hst hpo;have hk':=zP hk;have hj':=zP hj;clear hk hj;simp only[mC,pJ,nM,or_false]at hk' hj';have hg:zc p q:=by rcases hj' with⟨rfl,rfl⟩ | ⟨rfl,rfl⟩ | ⟨rfl,rfl⟩ | ⟨rfl,rfl⟩ <;> exact hst
  rcases hk' with⟨rfl,rfl⟩|⟨rfl,rfl⟩|⟨rfl,rfl⟩|⟨rfl,rfl⟩
  ·exact zb.grew hpo hg
  ·exact zb.grew hpo hg
  ·exact zh.grew hpo hg
  exact zh.grew hpo hg
 case hpre=>
  intro j t k s hj hk hjk p q hst hpr;have hj':=zP hj;clear hk hj;simp only[mC,pJ,nM,or_false]at hj'
  rcases hj' with⟨rfl,rfl⟩|⟨rfl,rfl⟩|⟨rfl,rfl⟩|⟨rfl,rfl⟩ <;> trivial
 case hpr0=>
  intro k t hk;have hk':=zP hk;clear hk;simp only[mC,pJ,nM,or_false]at hk'
  rcases hk' with⟨rfl,rfl⟩|⟨rfl,rfl⟩|⟨rfl,rfl⟩|⟨rfl,rfl⟩ <;> trivial
 simp only[List.take,List.drop];iterate 2 (refine zk rfl rfl rfl (fun K hK=>?_);go_big_quiet_op;refine hK _ ?_;clear hK)
 refine zI rfl rfl (fun w' hI' hpr hF=>?_) (fun v1 hv=>?_)
 ·have hg:=(HI.out _).1 hI';exact zac QO w' nf (by show nf*40<=_;omega) (.tmp 32) rfl rfl (fun C ho=>⟨(HI.out _).2 (hg.trans (za _ _)),za _ _,⟨_,rfl⟩,ho.base (nT (bS G0.out) (bS hg))⟩)
 obtain⟨gf,rfl⟩:=hv;simp only[Act.put,sB,sS,sZ];iterate 2 (refine zk rfl rfl rfl (fun K hK=>?_);go_big_quiet_op;refine hK _ ?_;clear hK)
 refine zI rfl rfl (fun w' hI' hpr hF=>?_) (fun v1 hv=>?_)
 ·have hg:=(HI.out _).1 hI';exact zac slE w' ns (by show ns*8<=_;omega) (.tmp 35) rfl rfl (fun C ho=>⟨(HI.out _).2 (hg.trans (za _ _)),za _ _,⟨_,rfl⟩,ho.base (nT (bS G0.out) (bS hg))⟩)
 obtain⟨gl,rfl⟩:=hv;simp only[Act.put,sB,sS,sZ];iterate 1 (refine zk rfl rfl rfl (fun K hK=>?_);go_big_quiet_op;refine hK _ ?_;clear hK)
 refine zI rfl rfl (fun w' hI' hpr hF=>?_) (fun v1 hv=>?_)
 ·have hg:=(HI.out _).1 hI';exact Jc w' ns (by omega) (.tmp 37) rfl rfl (fun C ho=>⟨(HI.out _).2 (hg.trans (za _ _)),za _ _,⟨_,rfl⟩,ho.base (nT (bS G0.out) (bS hg))⟩)
 obtain⟨gsb,rfl⟩:=hv;simp only[Act.put,sB,sS,sZ];iterate 2 (refine zk rfl rfl rfl (fun K hK=>?_);go_big_quiet_op;refine hK _ ?_;clear hK)
 refine zI rfl rfl (fun w' hI' hpr hF=>?_) (fun v1 hv=>?_)
 ·have hg:=(HI.out _).1 hI';exact Jc w' nb hnb80 (.tmp 40) rfl rfl (fun C ho=>⟨(HI.out _).2 (hg.trans (za _ _)),za _ _,⟨_,rfl⟩,ho.base (nT (bS G0.out) (bS hg))⟩)
 obtain⟨gdb,rfl⟩:=hv;simp only[Act.put,sB,sS,sZ];iterate 4 (refine zk rfl rfl rfl (fun K hK=>?_);go_big_quiet_op;refine hK _ ?_;clear hK)
 refine jz (.tmp 31) ⟨b,0,none⟩ rfl rfl rfl rfl ?_;simp only[Act.put,sB,sS,sZ];iterate 1 (refine zk rfl rfl rfl (fun K hK=>?_);go_big_quiet_op;refine hK _ ?_;clear hK)
 refine jO fun W1 hI1 hF hJ=>?_
 have hap:gsb≠gdb:=hJ.2.2.2 38 (by simp) 41 (by simp) (by decide) ⟨gsb,0,none⟩ ns ns ⟨gdb,0,none⟩ nb nb rfl rfl
 have o1:zb QO w.heap.size W1 (.slice (some ⟨gf,0,none⟩) nf nf) (List.replicate nf fr0):=hF 2;have o2:zb slE w.heap.size W1 (.slice (some ⟨gl,0,none⟩) ns ns) (List.replicate ns 0):=hF 5;have o3:zh w.heap.size W1 (.slice (some ⟨gsb,0,none⟩) ns ns) (List.replicate ns zz):=hF 7;have o4:zh w.heap.size W1 (.slice (some ⟨gdb,0,none⟩) nb nb) (List.replicate nb zz):=hF 10;have g1:=(HI.out _).1 hI1;have Y1:=dD (Y0.out.grew g1);have X1:=dD (X0.out.grew g1);have G1:=dD (G0.out.trans g1);clear hF hJ hI1 hI0 hne g1;refine zdw rfl 41 (.tmp 47) (.tmp 45) rfl b 1 rfl [.slice (some ⟨gf,0,none⟩) nf nf,.int .i64 0,.slice (some ⟨gl,0,none⟩) ns ns,.slice (some ⟨gsb,0,none⟩) ns ns,.slice none 0 0,.slice (some ⟨gdb,0,none⟩) nb nb,.slice none 0 0,.slice none 0 0,.int .i64 (nb:Int),.slice none 0 0,.slice none 0 0] rfl Y1.out (by simp) (by kernel_rfl) (fun v hv=>by simp only[mC,nM,or_false]at hv;rcases hv with rfl | rfl | rfl | rfl | rfl | rfl | rfl | rfl | rfl | rfl | rfl <;> rfl) ?_
 intro W2 hb2 hg2 hs2;have B2:zp W2 b 95 [.slice vl.a vl.n vl.c,.slice (some ⟨gf,0,none⟩) nf nf,.int .i64 0,.slice (some ⟨gl,0,none⟩) ns ns,.slice (some ⟨gsb,0,none⟩) ns ns,.slice none 0 0,.slice (some ⟨gdb,0,none⟩) nb nb,.slice none 0 0,.slice none 0 0,.int .i64 (nb:Int),.slice none 0 0,.slice none 0 0,.slice none 0 0]:=hb2;have M2:Hid (Mk w W2.heap.size W2 b vl L ⟨⟨some ⟨gf,0,none⟩,nf,nf⟩,⟨some ⟨gl,0,none⟩,ns,ns⟩,⟨some ⟨gsb,0,none⟩,ns,ns⟩,zu,⟨some ⟨gdb,0,none⟩,nb,nb⟩,zu,zu,zu,zu⟩ ⟨List.replicate nf fr0,0,List.replicate ns 0,List.replicate ns zz,[],List.replicate nb zz,[],[],nb,[],[]⟩ zu []):=zjn (ze G1.out hg2 (by have:=HBB.out;omega)) (by have:=HBB.out;omega) B2 HLR.out HLC.out HLB.out (o1.kind hg2 Y1.out (by decide)) (o2.kind hg2 Y1.out (by decide)) ⟨qw o3.1 hg2 Y1.out (by decide),o3.2⟩ ⟨qw o4.1 hg2 Y1.out (by decide),o4.2⟩ hap
 have X2:Hid (zp W2 w.heap.size 41 [.slice none 0 0,.int .i64 0,.slice none 0 0,.slice none 0 0,.slice none 0 0,.slice none 0 0,.slice none 0 0,.slice none 0 0,.int .i64 0,.slice none 0 0,.slice none 0 0]):=X1.out.beside hg2 (fun g e=>by cases e;have:=HBB.out;omega)
 clear hb2 hg2 hs2 o1 o2 o3 o4 hap;obtain⟨hi,HHI⟩:∃hi,Hid (W2.heap.size=hi):=⟨_,rfl⟩;rw[HHI.out]at M2;try simp only[Act.put]
 have x1:=M2.out.box.box.c 1 rfl;go_wp2;clear x1
 go_loopg [55] nf (fun gg s55 wr=>∃kk:Nat,kk<=nf/\nf - kk<=gg/\s55= .int .i64 kk/\Hid (Mk w hi wr b vl L ⟨⟨some ⟨gf,0,none⟩,nf,nf⟩,⟨some ⟨gl,0,none⟩,ns,ns⟩,⟨some ⟨gsb,0,none⟩,ns,ns⟩,zu,⟨some ⟨gdb,0,none⟩,nb,nb⟩,zu,zu,zu,zu⟩ ⟨zfT nf kk,0,List.replicate ns 0,List.replicate ns zz,[],List.replicate nb zz,[],[],nb,[],[]⟩ zu [])/\Hid (zp wr w.heap.size 41 [.slice none 0 0,.int .i64 0,.slice none 0 0,.slice none 0 0,.slice none 0 0,.slice none 0 0,.slice none 0 0,.slice none 0 0,.int .i64 0,.slice none 0 0,.slice none 0 0]))
 case atStart=>exact⟨0,nZ _,by omega,rfl,by rw[zib];exact M2.out,X2.out⟩
 obtain⟨kk,hkk,hgg,rfl,MW,XW⟩:=hrel
 by_cases hlt:kk<nf
 ·have hltz:(kk:Int)< (nf:Int):=by omega
  have x1:=MW.out.box.box.c 1 rfl;have R:Hid (zb QO w.heap.size wr (.slice (some ⟨gf,0,none⟩) nf nf) (zfT nf kk)):=MW.out.rows.fs;have d:wr.cell? ⟨gf,kk*13+11,none⟩=some (.int .i64 0):=by
   have:=R.out.one (zic hlt) 11 _ rfl;rw[zR,Addr.add_lit,zA]at this;exact this
  have xf:=R.out.unfrozen rfl;obtain⟨ow,gr,sz⟩:=R.out.cell (k:=kk) (o:=11) rfl (zic hlt) (y:=frF) (u:= .int .i64 (-1)) rfl (by decide)
  rw[zjG hlt]at ow;have hM:=MW.out.setF rfl gr sz ow (zkF nf (kk+1));have M3:Hid (Mk w hi (wr.setCell ⟨gf,kk*13+11,none⟩ (.int .i64 (-1))) b vl L ⟨⟨some ⟨gf,0,none⟩,nf,nf⟩,⟨some ⟨gl,0,none⟩,ns,ns⟩,⟨some ⟨gsb,0,none⟩,ns,ns⟩,zu,⟨some ⟨gdb,0,none⟩,nb,nb⟩,zu,zu,zu,zu⟩ ⟨zfT nf (kk+1),0,List.replicate ns 0,List.replicate ns zz,[],List.replicate nb zz,[],[],nb,[],[]⟩ zu []):=hM.1;have X3:Hid (zp (wr.setCell ⟨gf,kk*13+11,none⟩ (.int .i64 (-1))) w.heap.size 41 [.slice none 0 0,.int .i64 0,.slice none 0 0,.slice none 0 0,.slice none 0 0,.slice none 0 0,.slice none 0 0,.slice none 0 0,.int .i64 0,.slice none 0 0,.slice none 0 0]):=hM.2.1 _ _ _ XW.out ⟨by decide,by decide,by decide,by decide,by decide,by decide,by decide,by decide,fun h=>absurd h (by decide)⟩
  clear hM ow gr sz;go_wp2
  go_roundg (nf -(kk+1))
  case measure=>omega
  exact⟨kk+1,by omega,by omega,by go_num,M3.out,X3.out⟩
 have hltz:¬(kk:Int)< (nf:Int):=by omega
 obtain rfl:nf=kk:=by omega
 rw[zjH]at MW;have hpk:=qt 3 MW.out;go_wp2_with fail;refine hpk.mono ?_;clear hpk;rintro e W3 ⟨vl1,L1,y,rfl,mk1,gr1,sz1,y0,y1,yn,ll⟩;obtain⟨c,rfl⟩:∃c:Nat,y=(c:Int):=⟨y.toNat,by omega⟩
 have hc3:c<3:=by rcases y1 with h | h <;> omega
 have HC0:Hid (L=[]->c=0):=dD<|fun e=>by have:=yn e;omega
 have M3:Hid (Mk w hi W3 b vl1 L1 ⟨⟨some ⟨gf,0,none⟩,nf,nf⟩,⟨some ⟨gl,0,none⟩,ns,ns⟩,⟨some ⟨gsb,0,none⟩,ns,ns⟩,zu,⟨some ⟨gdb,0,none⟩,nb,nb⟩,zu,zu,zu,zu⟩ ⟨List.replicate nf frF,0,List.replicate ns 0,List.replicate ns zz,[],(List.replicate nb zz),[],[],nb,[],[]⟩ zu []):=mk1;have X3:Hid (zp W3 w.heap.size 41 [.slice none 0 0,.int .i64 0,.slice none 0 0,.slice none 0 0,.slice none 0 0,.slice none 0 0,.slice none 0 0,.slice none 0 0,.int .i64 0,.slice none 0 0,.slice none 0 0]):=XW.out.beside gr1 (fun g e=>by cases e;have:=HBB.out;omega)
 have LL3:Hid (ZL L L1):=ll;clear mk1 gr1 sz1 y0 y1 yn ll;go_wp2
 go_loopg [70] c (fun gg s70 wr=>∃(k2:Nat) (vl':Sli) (L':List Int) (sd sf:Sli) (db:List (List Int)) (dq:List (Int × List Int)) (fl:List Fl),k2<=c/\c - k2<=gg/\s70= .int .i64 k2/\Hid (Mk w hi wr b vl' L' ⟨⟨some ⟨gf,0,none⟩,nf,nf⟩,⟨some ⟨gl,0,none⟩,ns,ns⟩,⟨some ⟨gsb,0,none⟩,ns,ns⟩,zu,⟨some ⟨gdb,0,none⟩,nb,nb⟩,sd,sf,zu,zu⟩ ⟨List.replicate nf frF,0,List.replicate ns 0,List.replicate ns zz,[],db,dq,fl,nb,[],[]⟩ zu [])/\Hid (ZL L L')/\Hid (zp wr w.heap.size 41 [.slice none 0 0,.int .i64 0,.slice none 0 0,.slice none 0 0,.slice none 0 0,.slice none 0 0,.slice none 0 0,.slice none 0 0,.int .i64 0,.slice none 0 0,.slice none 0 0])/\Hid (zdr fl nb db dq []/\fl.length<=k2/\db.length=nb/\∀f∈fl,f.size<40)/\Hid (k2=0->fl=[]/\dq=[]/\db=List.replicate nb zz))
 case atStart=>exact⟨0,vl1,L1,zu,zu,_,_,_,nZ _,by omega,rfl,M3.out,LL3.out,X3.out,(show _/\_ from⟨zdr.zero hnb80,nZ _,lR,fun f hf=>(by cases hf)⟩),(fun _=>⟨rfl,rfl,rfl⟩)⟩
 obtain⟨k2,vl2,L2,sd,sf,db,dq,fl,hk2,hg2,rfl,MW,LW,XW,FW,ZW⟩:=hrel
 by_cases hlt2:k2<c
 ·have hltz2:(k2:Int)< (c:Int):=by omega
  have hpk2:=qt 40 MW.out;go_wp2_with fail;refine hpk2.mono ?_;clear hpk2;rintro e W4 ⟨vl4,L4,sz,rfl,mk4,gr4,-,s0,s1,-,ll4⟩;have hsz:sz<40:=by rcases s1 with h|h <;> omega
  have M4:Hid (Mk w hi W4 b vl4 L4 ⟨⟨some ⟨gf,0,none⟩,nf,nf⟩,⟨some ⟨gl,0,none⟩,ns,ns⟩,⟨some ⟨gsb,0,none⟩,ns,ns⟩,zu,⟨some ⟨gdb,0,none⟩,nb,nb⟩,sd,sf,zu,zu⟩ ⟨List.replicate nf frF,0,List.replicate ns 0,List.replicate ns zz,[],db,dq,fl,nb,[],[]⟩ zu []):=mk4;have X4:Hid (zp W4 w.heap.size 41 [.slice none 0 0,.int .i64 0,.slice none 0 0,.slice none 0 0,.slice none 0 0,.slice none 0 0,.slice none 0 0,.slice none 0 0,.int .i64 0,.slice none 0 0,.slice none 0 0]):=XW.out.beside gr4 (fun g e=>by cases e;have:=HBB.out;omega)
  have LL4:=dD (LW.out.trans ll4);clear mk4 gr4 ll4 s1;go_upto_region 12 with fail;obtain⟨pf,HPF⟩:∃pf,Hid (W4.heap.size=pf):=⟨_,rfl⟩;obtain⟨W5,hW5⟩:∃W5,W4.alloc (.cells #[.int .i64 sz,.slice none 0 0] 84)=W5:=⟨_,rfl⟩;have g5:=gP hW5
  have P5:=xPT hW5 HPF
  have M5:=dD (M4.out.grew g5);have X5:=dD (X4.out.grew g5);have FB5:Hid (FlB w.heap.size hi pf W5 ⟨⟨some ⟨gf,0,none⟩,nf,nf⟩,⟨some ⟨gl,0,none⟩,ns,ns⟩,⟨some ⟨gsb,0,none⟩,ns,ns⟩,zu,⟨some ⟨gdb,0,none⟩,nb,nb⟩,sd,sf,zu,zu⟩ ⟨List.replicate nf frF,0,List.replicate ns 0,List.replicate ns zz,[],db,dq,fl,nb,[],[]⟩):=show FlB _ _ _ _ _ _ by rw[<-HPF.out];exact M4.out.rows.flB.grew g5
  have HHP:Hid (hi<=pf):=dD<|by rw[<-HPF.out];exact M4.out.rows.hw
  have HFN:Hid (∀g,(Value.slice sf.a sf.n sf.c).ownBlock=some g->g<pf):=dD<|fun g hg=>by rw[<-HPF.out];obtain⟨xs,q1,-,-⟩:=M4.out.rows.fl;exact(q1.lt g hg).2
  rw[hW5,HPF.out];clear hW5 g5;have p0:=P5.out.box.c 0 rfl;have hcn:=zdI sz W5 s0 (by omega)
  go_wp2_with fail;refine hcn.mono ?_;clear hcn p0;rintro e W6 ⟨rfl,hw6⟩;rw[hw6];clear hw6;have HC9:Hid (Jr sz<=5):=dD<|by unfold Jr;split <;> omega
  obtain⟨N3,HN3⟩:∃N3:Nat,Hid (Jr sz=(N3:Int)):=⟨(Jr sz).toNat,show _=_ by unfold Jr;split <;> omega⟩
  rw[HN3.out];have HSZ:Hid (0<=sz/\sz<40):=dD<|⟨s0,hsz⟩
  have hN35:N3<=5:=by have:=HC9.out;have:=HN3.out;omega
  have F5:Hid (FC w hi b W5 vl4 L4 ⟨⟨some ⟨gf,0,none⟩,nf,nf⟩,⟨some ⟨gl,0,none⟩,ns,ns⟩,⟨some ⟨gsb,0,none⟩,ns,ns⟩,zu,⟨some ⟨gdb,0,none⟩,nb,nb⟩,sd,sf,zu,zu⟩ ⟨List.replicate nf frF,0,List.replicate ns 0,List.replicate ns zz,[],db,dq,fl,nb,[],[]⟩ pf sz zu []):=dD<|⟨M5.out,HHP.out,FB5.out,HFN.out,P5.out,zb.nil _ _ _⟩
  have HF0:Hid (zdr fl nb db dq []/\db.length=nb):=dD<|⟨FW.out.1,FW.out.2.2.1⟩
  have HF40:Hid (∀f∈fl,f.size<40):=dD<|FW.out.2.2.2
  have HFL:Hid (fl.length<=k2):=dD<|FW.out.2.1
  clear s0 hsz;go_wp2
  go_loopg [78] N3 (fun gg s78 wr=>∃(k3:Nat) (vl':Sli) (L':List Int) (sd' bs:Sli) (db':List (List Int)) (dq':List (Int × List Int)) (bl:List Int),k3<=N3/\N3 - k3<=gg/\s78= .int .i64 k3/\Hid (FC w hi b wr vl' L' ⟨⟨some ⟨gf,0,none⟩,nf,nf⟩,⟨some ⟨gl,0,none⟩,ns,ns⟩,⟨some ⟨gsb,0,none⟩,ns,ns⟩,zu,⟨some ⟨gdb,0,none⟩,nb,nb⟩,sd',sf,zu,zu⟩ ⟨List.replicate nf frF,0,List.replicate ns 0,List.replicate ns zz,[],db',dq',fl,nb,[],[]⟩ pf sz bs bl)/\Hid (ZL L L')/\Hid (zp wr w.heap.size 41 [.slice none 0 0,.int .i64 0,.slice none 0 0,.slice none 0 0,.slice none 0 0,.slice none 0 0,.slice none 0 0,.slice none 0 0,.int .i64 0,.slice none 0 0,.slice none 0 0])/\Hid (zdr fl nb db' dq' bl/\bl.length=k3/\db'.length=nb))
  case atStart=>exact⟨0,vl4,L4,sd,zu,db,dq,[],nZ _,by omega,rfl,F5.out,LL4.out,X5.out,(show _/\_ from⟨HF0.out.1,rfl,HF0.out.2⟩)⟩
  obtain⟨k3,vl6,L6,sd6,bs,db6,dq6,bl,hk3,hg3,rfl,FX,LX,XX,FI⟩:=hrel
  by_cases hlt3:k3<N3
  ·have hltz3:(k3:Int)< (N3:Int):=by omega
   have hpk7:=qt (max (nb:Int) 1) FX.out.mm;go_wp2_with fail;refine hpk7.mono ?_;clear hpk7;rintro e W7 ⟨vl7,L7,x,rfl,mk7,gr7,-,x0,-,-,ll7⟩;obtain⟨n,rfl⟩:∃n:Nat,x=(n:Int):=⟨x.toNat,by omega⟩
   have F7:Hid (FC w hi b W7 vl7 L7 ⟨⟨some ⟨gf,0,none⟩,nf,nf⟩,⟨some ⟨gl,0,none⟩,ns,ns⟩,⟨some ⟨gsb,0,none⟩,ns,ns⟩,zu,⟨some ⟨gdb,0,none⟩,nb,nb⟩,sd6,sf,zu,zu⟩ ⟨List.replicate nf frF,0,List.replicate ns 0,List.replicate ns zz,[],db6,dq6,fl,nb,[],[]⟩ pf sz bs bl):=FX.out.pick gr7 mk7;have X7:Hid (zp W7 w.heap.size 41 [.slice none 0 0,.int .i64 0,.slice none 0 0,.slice none 0 0,.slice none 0 0,.slice none 0 0,.slice none 0 0,.slice none 0 0,.int .i64 0,.slice none 0 0,.slice none 0 0]):=XX.out.kind gr7 FX.out.mm.box (by decide)
   have LL7:=dD (LX.out.trans ll7);clear mk7 gr7 ll7 x0;go_upto_region 17 with fail
   go_cut [78,109]from 78 to 160 (fun s78 s109 wx=>∃(tk:Bool) (vl':Sli) (L':List Int),s78= .int .i64 k3/\s109= .bool tk/\Hid (FC w hi b wx vl' L' ⟨⟨some ⟨gf,0,none⟩,nf,nf⟩,⟨some ⟨gl,0,none⟩,ns,ns⟩,⟨some ⟨gsb,0,none⟩,ns,ns⟩,zu,⟨some ⟨gdb,0,none⟩,nb,nb⟩,sd6,sf,zu,zu⟩ ⟨List.replicate nf frF,0,List.replicate ns 0,List.replicate ns zz,[],db6,dq6,fl,nb,[],[]⟩ pf sz bs bl)/\Hid (ZL L L')/\Hid (zp wx w.heap.size 41 [.slice none 0 0,.int .i64 0,.slice none 0 0,.slice none 0 0,.slice none 0 0,.slice none 0 0,.slice none 0 0,.slice none 0 0,.int .i64 0,.slice none 0 0,.slice none 0 0])/\Hid (tk=true->n<nb/\zT (fl++ [⟨sz,bl⟩]) (n:Int)=false))
   case first=>
    by_cases hn:n<nb
    ·have hnz:(n:Int)< (nb:Int):=by omega
     have hnd:decide ((n:Int)< (nb:Int))=true:=by simpa using hnz
     obtain⟨xs,q1,q2,q3⟩:=F7.out.fb;have HX:Hid (zb fvE w.heap.size W7 (.slice sf.a sf.n sf.c) xs):=q1;obtain⟨nF,HNF⟩:∃nF,Hid (fl.length=nF):=⟨_,rfl⟩;have HXL:Hid (xs.length=nF):=show _=_ by rw[q2];exact HNF.out
     have hnF:nF<=10:=by have:=HFL.out;have:=HNF.out;omega
     have HSN:Hid (sf.n=nF):=dD<|by rw[q1.n];exact HXL.out
     have HX3:Hid (∀(i:Nat) x f,xs[i]? =some x->fl[i]? =some f->x.size=f.size/\zb blE hi W7 x.v f.bl):=dD<|fun i x f hx hf=>(q3 i x f hx hf).1
     clear q1 q2 q3;obtain⟨fx,HFX⟩:∃fx:FlV,Hid (fx=⟨sz,bs.a,bs.n,bs.c⟩):=⟨_,rfl⟩;obtain⟨UB,HUB⟩:∃UB,Hid (zT (fl++ [(⟨sz,bl⟩:Fl)]) (n:Int)=UB):=⟨zT (fl++ [(⟨sz,bl⟩:Fl)]) (n:Int),rfl⟩;have HB7:Hid (b<W7.heap.size):=F7.out.mm.box.box.lt;have HPB:Hid (pf≠b):=show _≠_ from fun e=>by
      have h1:W7.heap[pf]? =_:=F7.out.box;have h2:W7.heap[b]? =_:=F7.out.mm.box;rw[e,h2]at h1;cases h1
     have HXB:Hid (w.heap.size≠b):=dD<|by have:=HBB.out;omega
     obtain⟨I,HI⟩:∃I:World->Prop,Hid (∀u,I u↔Out b (b+1) W7 u/\FCE w hi b L ⟨⟨some ⟨gf,0,none⟩,nf,nf⟩,⟨some ⟨gl,0,none⟩,ns,ns⟩,⟨some ⟨gsb,0,none⟩,ns,ns⟩,zu,⟨some ⟨gdb,0,none⟩,nb,nb⟩,sd6,sf,zu,zu⟩ ⟨List.replicate nf frF,0,List.replicate ns 0,List.replicate ns zz,[],db6,dq6,fl,nb,[],[]⟩ pf sz bs bl u):=⟨fun u=>Out b (b+1) W7 u/\FCE w hi b L ⟨⟨some ⟨gf,0,none⟩,nf,nf⟩,⟨some ⟨gl,0,none⟩,ns,ns⟩,⟨some ⟨gsb,0,none⟩,ns,ns⟩,zu,⟨some ⟨gdb,0,none⟩,nb,nb⟩,sd6,sf,zu,zu⟩ ⟨List.replicate nf frF,0,List.replicate ns 0,List.replicate ns zz,[],db6,dq6,fl,nb,[],[]⟩ pf sz bs bl u,fun _=>Iff.rfl⟩
     have hI0:I W7.drew:=(HI.out _).2 ⟨Out.drew _,vl7,L7,F7.out.grew (gW _),LL7.out⟩
     have HIG:Hid (∀u u',I u->zc u u'->I u'):=dD<|fun u u' h k=>by
      obtain⟨h1,vl',L',h2,h3⟩:=(HI.out _).1 h;exact(HI.out _).2 ⟨h1.trans (Out.grew k),vl',L',h2.grew k,h3⟩
     have hx8:∀y:zj I,y.world.cell? ⟨b,8,none⟩=some (.slice sf.a sf.n sf.c):=fun y=>by
      obtain⟨_,_,_,h2,_⟩:=(HI.out _).1 y.holds;exact h2.mm.box.box.c 8 rfl
     have hp0:∀y:zj I,y.world.cell? ⟨pf,0,none⟩=some (.int .i64 sz):=fun y=>by
      obtain⟨_,_,_,h2,_⟩:=(HI.out _).1 y.holds;exact h2.box.box.c 0 rfl
     have hp1:∀y:zj I,y.world.cell? ⟨pf,1,none⟩=some (.slice bs.a bs.n bs.c):=fun y=>by
      obtain⟨_,_,_,h2,_⟩:=(HI.out _).1 y.holds;exact h2.box.box.c 1 rfl
     have hne:Nonempty (zj I):=⟨⟨_,hI0⟩⟩;refine qQ (I:=I) 25 [(4,⟨fun v=>∃g,v= .slice (some ⟨g,0,none⟩) 0 0,fun v u=>zb fvE W7.heap.size u v [],fun p q=>zc p q,fun _=>True⟩),(11,⟨fun v=>(∃a c,v= .slice a nF c)/\(nF=0->∃g,v= .slice (some ⟨g,0,none⟩) 0 0),fun v u=>zb fvE W7.heap.size u v xs,fun p q=>zc p q,fun _=>True⟩),(13,⟨fun v=>∃g,v= .slice (some ⟨g,0,none⟩) 1 1,fun v u=>zb fvE W7.heap.size u v [fx],fun p q=>zc p q,fun _=>True⟩),(14,⟨fun v=>∃a c,v= .slice a (nF+1) c,fun v u=>zb fvE W7.heap.size u v (xs++ [fx]),fun p q=>∀u m,m.length<=nF\/m.length<=1->zb fvE W7.heap.size p u m->zb fvE W7.heap.size q u m,fun _=>True⟩),(17,⟨fun v=>v= .bool UB,fun _ _=>True,fun p q=>zc p q,fun _=>True⟩),(22,⟨fun v=>∃x:Int,v= .int .i64 x,fun _ _=>True,fun p q=>Out b (b+1) p q,fun _=>True⟩)] hI0 qn (by kernel_rfl) rfl rfl (by decide) ?hS ?hp ?hpre ?hpr0 ?_
     case hS=>
      intro x hx;simp only[mC,nM,or_false]at hx
      rcases hx with rfl|rfl|rfl|rfl|rfl|rfl
      ·exact⟨_,0,rfl⟩
      ·by_cases h0:nF=0
       ·exact⟨.slice (some ⟨0,0,none⟩) 0 0,⟨some ⟨0,0,none⟩,0,by rw[h0]⟩,fun _=>⟨0,rfl⟩⟩
       exact⟨.slice none nF 0,⟨_,_,rfl⟩,fun h=>absurd h h0⟩
      ·exact⟨_,0,rfl⟩
      ·exact⟨_,none,0,rfl⟩
      ·exact⟨_,rfl⟩
      exact⟨_,0,rfl⟩
     case hp=>
      intro k s j t hk hj hjk hanc v p q hst hpo;have hk':=zP hk;have hj':=zP hj;clear hk hj;simp only[mC,pJ,nM,or_false]at hk' hj';have keep:∀l:List FlV,l.length<=nF\/l.length<=1\/j≠14->zb fvE W7.heap.size p v l->zb fvE W7.heap.size q v l:=fun l hl ho=>by
       rcases hj' with⟨rfl,rfl⟩|⟨rfl,rfl⟩|⟨rfl,rfl⟩|⟨rfl,rfl⟩|⟨rfl,rfl⟩|⟨rfl,rfl⟩
       ·exact zb.grew ho hst
       ·exact zb.grew ho hst
       ·exact zb.grew ho hst
       ·exact hst v l (by omega) ho
       ·exact zb.grew ho hst
       exact ho.outb hst (fun g hg=>by have:=(ho.lt g hg).1;have:=HB7.out;omega)
      rcases hk' with⟨rfl,rfl⟩|⟨rfl,rfl⟩|⟨rfl,rfl⟩|⟨rfl,rfl⟩|⟨rfl,rfl⟩|⟨rfl,rfl⟩
      ·exact keep _ (.inl (nZ _)) hpo
      ·exact keep _ (.inl (by rw[HXL.out];exact nR _)) hpo
      ·exact keep _ (.inr (.inl (nR _))) hpo
      ·exact keep _ (.inr (.inr (fun e=>hjk e))) hpo
      ·trivial
      trivial
     case hpre=>
      intro j t k s hj hk hjk p q hst hpr;have hj':=zP hj;clear hk hj;simp only[mC,pJ,nM,or_false]at hj'
      rcases hj' with⟨rfl,rfl⟩|⟨rfl,rfl⟩|⟨rfl,rfl⟩|⟨rfl,rfl⟩|⟨rfl,rfl⟩|⟨rfl,rfl⟩ <;> trivial
     case hpr0=>
      intro k t hk;have hk':=zP hk;clear hk;simp only[mC,pJ,nM,or_false]at hk'
      rcases hk' with⟨rfl,rfl⟩|⟨rfl,rfl⟩|⟨rfl,rfl⟩|⟨rfl,rfl⟩|⟨rfl,rfl⟩|⟨rfl,rfl⟩ <;> trivial
     simp only[List.take,List.drop];iterate 4 (refine zk rfl rfl rfl (fun K hK=>?_);go_big_quiet_op;refine hK _ ?_;clear hK)
     refine zI rfl rfl (fun w' hI' hpr hF=>?_) (fun v1 hv=>?_)
     ·have hg:=((HI.out _).1 hI').1;exact zK.step (v:= .slice (some ⟨w'.heap.size,0,none⟩) 0 0) (w':=w'.alloc (.cells #[] 84)) (by simp only[execOp];go_simp) ⟨HIG.out _ _ hI' (za _ _),za _ _,⟨_,rfl⟩,(zb.made fvE w').base hg.size⟩
     obtain⟨g0,rfl⟩:=hv;simp only[Act.put,sB,sS,sZ];iterate 1 (refine zk rfl rfl rfl (fun K hK=>?_);go_big_quiet_op;refine hK _ ?_;clear hK)
     refine jz (.tmp 90) ⟨b,0,none⟩ rfl rfl rfl rfl ?_;simp only[Act.put,sB,sS,sZ];iterate 4 (refine zk rfl rfl rfl (fun K hK=>?_);go_big_quiet_op;refine hK _ ?_;clear hK)
     refine zI rfl rfl (fun w' hI' hpr hF=>?_) (fun v1 hv=>?_)
     ·have hg:=((HI.out _).1 hI').1;have h0:zb fvE W7.heap.size w' (.slice (some ⟨g0,0,none⟩) 0 0) []:=hF 4 (by kernel_rfl)
      have hX:=HX.out.outb hg (fun g hg' e=>by
       obtain⟨cs,hc⟩:=HX.out.obj hg';have h3:W7.heap[b]? =_:=F7.out.mm.box;rw[e,h3]at hc
       cases hc)
      obtain⟨v',w2,hrun,ho,hg2,hz⟩:=je (E:=fvE) (w:=w') 35 h0 (.slice sf.a sf.n sf.c) xs hX.at hg.size;obtain⟨a',c',rfl⟩:=ho.form;refine zK.step (v:= .slice a' xs.length c') (w':=w2) ?_ ⟨HIG.out _ _ hI' hg2,hg2,⟨⟨a',c',by rw[HXL.out]⟩,fun h=>⟨g0,hz (eN (by rw[HXL.out];exact h))⟩⟩,ho⟩
      simp only[execOp,resolve,invoke,builtin,pure_bind,Sem.run_bind,Sem.run_pure,List.map_toArray,mP,List.map_nil];exact Eq.trans (congrArg (fun r=>Result.andThen r (fun a w'=>Result.ok (Next.value a) w')) hrun) rfl
     obtain⟨⟨a3,c3,rfl⟩,hz3⟩:=hv;simp only[Act.put,sB,sS,sZ];iterate 1 (refine zk rfl rfl rfl (fun K hK=>?_);go_big_quiet_op;refine hK _ ?_;clear hK)
     refine zI rfl rfl (fun w' hI' hpr hF=>?_) (fun v1 hv=>?_)
     ·have hg:=((HI.out _).1 hI').1;exact zK.step (v:= .slice (some ⟨w'.heap.size,0,none⟩) 1 1) (w':=w'.alloc (.cells #[.int .i64 sz,.slice bs.a bs.n bs.c] 84)) (by simp only[execOp];go_simp) ⟨HIG.out _ _ hI' (za _ _),za _ _,⟨_,rfl⟩,by rw[HFX.out];exact(zi9 w' ⟨sz,bs.a,bs.n,bs.c⟩).base hg.size⟩
     obtain⟨g5,rfl⟩:=hv;simp only[Act.put,sB,sS,sZ];refine zI rfl rfl (fun w' hI' hpr hF=>?_) (fun v1 hv=>?_)
     ·have hg:=((HI.out _).1 hI').1;have o3:zb fvE W7.heap.size w' (.slice a3 nF c3) xs:=hF 11 (by kernel_rfl)
      have o5:zb fvE W7.heap.size w' (.slice (some ⟨g5,0,none⟩) 1 1) [fx]:=hF 13 (by kernel_rfl)
      have key:∃v' w2,(Builtin.append_ #[35,35] 35 #[.slice a3 nF c3,.slice (some ⟨g5,0,none⟩) 1 1]).run prog w'= .ok v' w2/\zb fvE W7.heap.size w2 v' (xs++ [fx])/\I w2/\∀u m,m.length<=nF\/m.length<=1->zb fvE W7.heap.size w' u m->zb fvE W7.heap.size w2 u m:=by
       by_cases h0:nF=0
       ·have hxs:xs=[]:=eN (by rw[HXL.out];exact h0)
        subst hxs;obtain⟨g,hgv⟩:=hz3 h0;rw[hgv]at o3⊢;obtain⟨v',w2,hrun,ho,hg2,_⟩:=je (E:=fvE) (w:=w') 35 o3 (.slice (some ⟨g5,0,none⟩) 1 1) [fx] o5.at hg.size;exact⟨v',w2,hrun,ho,HIG.out _ _ hI' hg2,fun u m _ h=>h.grew hg2⟩
       obtain⟨v',w2,hrun,ho,hgr,hk⟩:=qj (E:=fvE) (w:=w') 35 o3 (.slice (some ⟨g5,0,none⟩) 1 1) [fx] o5.at (by rw[HXL.out];show(nF+1)*32<=_;omega) hg.size
       refine⟨v',w2,hrun,ho,?_,fun u m hm h=>hk u m (by rw[HXL.out];omega) h⟩
       obtain⟨h1,vl',L',h2,h3⟩:=(HI.out _).1 hI';obtain⟨gr,cr,hgr3⟩:=o3.formS (by rw[HXL.out];omega)
       obtain⟨cs,hcs⟩:=o3.obj (g:=gr) (by rw[hgr3];rfl)
       have hgr':w'.grownBy w2 (some gr):=by rw[hgr3]at hgr;exact hgr
       have hgl:=(o3.lt gr (by rw[hgr3];rfl)).1
       have hpl:=F7.out.box.box.lt;refine(HI.out _).2 ⟨⟨hgr'.os.trans h1.os,hgr'.tape.trans h1.tape,hgr'.output.trans h1.output,nT h1.size hgr'.size,fun k hk' hb'=>(hgr'.block k (Nat.lt_of_lt_of_le hk' h1.size) (fun e=>by cases e;omega)).trans (h1.block k hk' hb')⟩,vl',L',h2.fresh hgr' hcs (by omega),h3⟩
      obtain⟨v',w2,hrun,ho,hI2,hk⟩:=key;obtain⟨a',c',rfl⟩:=ho.form;refine zK.step (v:= .slice a' (xs++ [fx]).length c') (w':=w2) ?_ ⟨hI2,hk,⟨a',c',by rw[lA,HXL.out];rfl⟩,ho⟩
      simp only[execOp,resolve,invoke,builtin,pure_bind,Sem.run_bind,Sem.run_pure,List.map_toArray,mP,List.map_nil];exact Eq.trans (congrArg (fun r=>Result.andThen r (fun a w'=>Result.ok (Next.value a) w')) hrun) rfl
     obtain⟨a6,c6,rfl⟩:=hv;simp only[Act.put,sB,sS,sZ];iterate 2 (refine zk rfl rfl rfl (fun K hK=>?_);go_big_quiet_op;refine hK _ ?_;clear hK)
     refine zI rfl rfl (fun w' hI' hpr hF=>?_) (fun v1 hv=>?_)
     ·obtain⟨h1,vl',L',h2,h3⟩:=(HI.out _).1 hI';have o6:zb fvE W7.heap.size w' (.slice a6 (nF+1) c6) (xs++ [fx]):=hF 14 (by kernel_rfl)
      have hfa:qd w' (.slice a6 (nF+1) c6) (fl++ [⟨sz,bl⟩]):=by
       refine⟨o6.cap,xs++ [fx],o6.at.s0,by rw[lA,lA,HXL.out,HNF.out];rfl,fun i x f hx hf=>?_⟩
       rcases Nat.lt_or_ge i nF with hi' | hi'
       ·rw[List.getElem?_append_left (by rw[HXL.out];exact hi')]at hx
        rw[List.getElem?_append_left (by rw[HNF.out];exact hi')]at hf
        obtain⟨a1,a2⟩:=HX3.out i x f hx hf;exact⟨a1,(a2.outb h1 (fun g hg' e=>by
         obtain⟨cs,hc⟩:=a2.obj hg';have h3:W7.heap[b]? =_:=F7.out.mm.box;rw[e,h3]at hc
         cases hc)).at.s0⟩
       rw[aR (by rw[HXL.out];exact hi'),HXL.out]at hx
       rw[aR (by rw[HNF.out];exact hi'),HNF.out]at hf
       have hi0:i - nF=0:=by
        have:=(gS.1 hx).1
        simp at this
        omega
       rw[hi0]at hx hf;cases hx;cases hf;rw[HFX.out];exact⟨rfl,h2.row.at.s0⟩
      refine zK.call [.agg #[.slice a6 (nF+1) c6,.int .i64 0],.int .i64 (n:Int)] rfl func38 rfl rfl rfl ?_;refine(ziV (.slice a6 (nF+1) c6) (fl++ [⟨sz,bl⟩]) 0 (n:Int) w' hfa).mono ?_;rintro e w'' ⟨rfl,hg2⟩;exact⟨_,rfl,HIG.out _ _ hI' hg2,hg2,by rw[HUB.out],trivial⟩
     subst hv;simp only[Act.put,sB,sS,sZ];iterate 3 (refine zk rfl rfl rfl (fun K hK=>?_);go_big_quiet_op;refine hK _ ?_;clear hK)
     cases UB with
     | true=>
      refine zbu ?_ ?_
      ·kernel_rfl
      simp only[Act.put,sB,sS,sZ];refine zbu ?_ ?_
      ·kernel_rfl
      simp only[Act.put,sB,sS,sZ];refine zbu ?_ ?_
      ·kernel_rfl
      simp only[Act.put,sB,sS,sZ];iterate 1 (refine zk rfl rfl rfl (fun K hK=>?_);go_big_quiet_op;refine hK _ ?_;clear hK)
      refine jO fun W8 hI8 hF8=>?_
      obtain⟨h1,vl8,L8,h2,h3⟩:=(HI.out _).1 hI8;have F8:Hid (FC w hi b W8 vl8 L8 ⟨⟨some ⟨gf,0,none⟩,nf,nf⟩,⟨some ⟨gl,0,none⟩,ns,ns⟩,⟨some ⟨gsb,0,none⟩,ns,ns⟩,zu,⟨some ⟨gdb,0,none⟩,nb,nb⟩,sd6,sf,zu,zu⟩ ⟨List.replicate nf frF,0,List.replicate ns 0,List.replicate ns zz,[],db6,dq6,fl,nb,[],[]⟩ pf sz bs bl):=h2;have LL8:Hid (ZL L L8):=h3;have X8:Hid (zp W8 w.heap.size 41 [.slice none 0 0,.int .i64 0,.slice none 0 0,.slice none 0 0,.slice none 0 0,.slice none 0 0,.slice none 0 0,.slice none 0 0,.int .i64 0,.slice none 0 0,.slice none 0 0]):=X7.out.outb h1 HXB.out;clear hI8 hF8 hI0 hx8 hp0 hp1 hne h1 h2 h3 hz3;go_wp2
      go_meet
      exact⟨false,vl8,L8,rfl,rfl,F8.out,LL8.out,X8.out,fun h=>(by cases h)⟩
     | false=>
      iterate 1 (refine zk rfl rfl rfl (fun K hK=>?_);go_big_quiet_op;refine hK _ ?_;clear hK)
      refine zI rfl rfl (fun w' hI' hpr hF=>?_) (fun v1 hv=>?_)
      ·obtain⟨h1,vl',L',h2,h3⟩:=(HI.out _).1 hI';refine zK.call [.pointer (some ⟨b,0,none⟩),.int .i64 3] rfl func36 rfl rfl rfl ?_;refine(qt 3 h2.mm).mono ?_;rintro e w'' ⟨vl2,L2,y,rfl,mk2,gr2,-,-,-,-,ll2⟩;have ho2:Out b (b+1) w' w'':=Out.grown gr2 (fun g e=>by cases e;omega)
       exact⟨_,rfl,(HI.out _).2 ⟨h1.trans ho2,vl2,L2,h2.pick gr2 mk2,h3.trans ll2⟩,ho2,⟨y,rfl⟩,trivial⟩
      obtain⟨x,rfl⟩:=hv;simp only[Act.put,sB,sS,sZ];iterate 2 (refine zk rfl rfl rfl (fun K hK=>?_);go_big_quiet_op;refine hK _ ?_;clear hK)
      refine jO fun W8 hI8 hF8=>?_
      obtain⟨h1,vl8,L8,h2,h3⟩:=(HI.out _).1 hI8;have F8:Hid (FC w hi b W8 vl8 L8 ⟨⟨some ⟨gf,0,none⟩,nf,nf⟩,⟨some ⟨gl,0,none⟩,ns,ns⟩,⟨some ⟨gsb,0,none⟩,ns,ns⟩,zu,⟨some ⟨gdb,0,none⟩,nb,nb⟩,sd6,sf,zu,zu⟩ ⟨List.replicate nf frF,0,List.replicate ns 0,List.replicate ns zz,[],db6,dq6,fl,nb,[],[]⟩ pf sz bs bl):=h2;have LL8:Hid (ZL L L8):=h3;have X8:Hid (zp W8 w.heap.size 41 [.slice none 0 0,.int .i64 0,.slice none 0 0,.slice none 0 0,.slice none 0 0,.slice none 0 0,.slice none 0 0,.slice none 0 0,.int .i64 0,.slice none 0 0,.slice none 0 0]):=X7.out.outb h1 HXB.out;have HUF:Hid (decide (0<x)=true->n<nb/\zT (fl++ [⟨sz,bl⟩]) (n:Int)=false):=show _->_ from fun _=>⟨hn,HUB.out⟩
      clear hI8 hF8 hI0 hx8 hp0 hp1 hne h1 h2 h3 hz3;go_wp2
      go_meet
      exact⟨decide (0<x),vl8,L8,rfl,rfl,F8.out,LL8.out,X8.out,HUF.out⟩
    have hnz:¬(n:Int)< (nb:Int):=by omega
    have hnd:decide ((n:Int)< (nb:Int))=false:=by simpa using hnz
    clear hn;go_quiet (fail);go_wp2
    go_meet
    exact⟨false,vl7,L7,rfl,rfl,F7.out.grew (show Below _ _ _ from bD (bR _ _) _),LL7.out,X7.out.grew (show Below _ _ _ from bD (bR _ _) _),fun h=>(by cases h)⟩
   obtain⟨tk,vl8,L8,rfl,rfl,F8,LL8,X8,HTK⟩:=hcut
   go_upto_if 109 with fail
   go_cut [13,15,16,78]from 78 to 160 (fun s13 s15 s16 s78 wx=>∃(bx:Int) (vl':Sli) (L':List Int) (sd':Sli) (db':List (List Int)) (dq':List (Int × List Int)),s13= .int .i64 bx/\s78= .int .i64 k3/\Hid (FC w hi b wx vl' L' ⟨⟨some ⟨gf,0,none⟩,nf,nf⟩,⟨some ⟨gl,0,none⟩,ns,ns⟩,⟨some ⟨gsb,0,none⟩,ns,ns⟩,zu,⟨some ⟨gdb,0,none⟩,nb,nb⟩,sd',sf,zu,zu⟩ ⟨List.replicate nf frF,0,List.replicate ns 0,List.replicate ns zz,[],db',dq',fl,nb,[],[]⟩ pf sz bs bl)/\Hid (ZL L L')/\Hid (zp wx w.heap.size 41 [.slice none 0 0,.int .i64 0,.slice none 0 0,.slice none 0 0,.slice none 0 0,.slice none 0 0,.slice none 0 0,.slice none 0 0,.int .i64 0,.slice none 0 0,.slice none 0 0])/\Hid (zdr fl nb db' dq' (bl++ [bx])/\db'.length=nb))
   case first=>
    cases tk with
    | false=>
     go_wp2
     go_meet
     exact⟨-1,vl8,L8,sd6,db6,dq6,rfl,rfl,F8.out,LL8.out,X8.out,(show _/\_ from⟨FI.out.1.none,FI.out.2.2⟩)⟩
    | true=>
     obtain⟨hn,hu⟩:=HTK.out rfl;have HUF:Hid (zT fl (n:Int)=false/\(n:Int)∉bl):=dD<|by
      have h2:¬(n:Int)∈Za (fl++ [⟨sz,bl⟩]):=fun h=>by rw[(ZR _ _).2 h]at hu;cases hu
      have h3:Za (fl++ [⟨sz,bl⟩])=Za fl++bl:=by simp[Za]
      rw[h3,List.mem_append]at h2;refine⟨?_,fun h=>h2 (.inr h)⟩
      cases e:zT fl (n:Int)with
      | false=>rfl
      | true=>exact absurd (.inl ((ZR _ _).1 e)) h2
     have hnz:(n:Int)< (nb:Int):=by omega
     clear hu;have hpg:=za0 F8.out.mm;go_wp2_with fail;refine hpg.mono ?_;clear hpg;rintro e W9 ⟨vl9,L9,q9,rfl,ql9,mk9,gr9,ll9⟩;have F9:Hid (FC w hi b W9 vl9 L9 ⟨⟨some ⟨gf,0,none⟩,nf,nf⟩,⟨some ⟨gl,0,none⟩,ns,ns⟩,⟨some ⟨gsb,0,none⟩,ns,ns⟩,zu,⟨some ⟨gdb,0,none⟩,nb,nb⟩,sd6,sf,zu,zu⟩ ⟨List.replicate nf frF,0,List.replicate ns 0,List.replicate ns zz,[],db6,dq6,fl,nb,[],[]⟩ pf sz bs bl):=F8.out.pick gr9 mk9;have X9:Hid (zp W9 w.heap.size 41 [.slice none 0 0,.int .i64 0,.slice none 0 0,.slice none 0 0,.slice none 0 0,.slice none 0 0,.slice none 0 0,.slice none 0 0,.int .i64 0,.slice none 0 0,.slice none 0 0]):=X8.out.kind gr9 F8.out.mm.box (by decide)
     have LL9:=dD (LL8.out.trans ll9);clear mk9 gr9 ll9;obtain⟨o0,o1,o2,o3,o4,o5,o6,o7,rfl⟩:=zeE q9 ql9;clear ql9;simp only[pgc,mP,List.map_nil];go_upto_region 20 with fail;obtain⟨pp,HPP⟩:∃pp,Hid (W9.heap.size=pp):=⟨_,rfl⟩;obtain⟨W10,hW10⟩:∃W10,W9.alloc (.cells #[.int .u8 o0,.int .u8 o1,.int .u8 o2,.int .u8 o3,.int .u8 o4,.int .u8 o5,.int .u8 o6,.int .u8 o7] 44)=W10:=⟨_,rfl⟩;have g10:=gP hW10
     have P10:Hid (zp W10 pp 44 (pgc [o0,o1,o2,o3,o4,o5,o6,o7])):=dD<|by rw[<-hW10];exact zp.top _ (pgc [o0,o1,o2,o3,o4,o5,o6,o7]) _ HPP.out.symm
     have F10:=dD (F9.out.grew g10);have X10:=dD (X9.out.grew g10);have HHP:Hid (hi<=pp):=show _<=_ by rw[<-HPP.out];exact F9.out.mm.rows.hw
     rw[hW10,HPP.out];clear hW10 g10;go_wp2
     go_loopg [113] 8 (fun gg s113 wr=>∃(i:Nat) (qq:List Int),i<=8/\8 - i<=gg/\s113= .int .i64 i/\Hid (FC w hi b wr vl9 L9 ⟨⟨some ⟨gf,0,none⟩,nf,nf⟩,⟨some ⟨gl,0,none⟩,ns,ns⟩,⟨some ⟨gsb,0,none⟩,ns,ns⟩,zu,⟨some ⟨gdb,0,none⟩,nb,nb⟩,sd6,sf,zu,zu⟩ ⟨List.replicate nf frF,0,List.replicate ns 0,List.replicate ns zz,[],db6,dq6,fl,nb,[],[]⟩ pf sz bs bl)/\Hid (zp wr pp 44 (pgc qq))/\Hid (qq.length=8)/\Hid (zp wr w.heap.size 41 [.slice none 0 0,.int .i64 0,.slice none 0 0,.slice none 0 0,.slice none 0 0,.slice none 0 0,.slice none 0 0,.slice none 0 0,.int .i64 0,.slice none 0 0,.slice none 0 0]))
     case atStart=>exact⟨0,[o0,o1,o2,o3,o4,o5,o6,o7],nZ _,by omega,rfl,F10.out,P10.out,rfl,X10.out⟩
     obtain⟨i,qq,hi8,hg4,rfl,FW,PW,QW,XW⟩:=hrel
     by_cases hlt4:i<8
     ·have hltz4:(i:Int)<8:=by omega
      obtain⟨z,hz⟩:∃z,qq[i]? =some z:=⟨_,gE (by rw[QW.out];exact hlt4)⟩
      have z0:=PW.out.box.c i (zdL hz);have zf:=PW.out.box.f;have y0:=FW.out.box.box.c 0 rfl;clear hz
      by_cases hc:sz<=8*(k3:Int)+(i:Int)
      ·have hcd:decide (sz<=8*(k3:Int)+(i:Int))=true:=by simpa using hc
       have HG:Hid (wr.grownBy (wr.setCell ⟨pp,i,none⟩ (.int .u8 0)) (some pp)):=qY _ _ _ _;have P11:Hid (zp (wr.setCell ⟨pp,i,none⟩ (.int .u8 0)) pp 44 (pgc (qq.set i 0))):=show zp _ _ _ _ by rw[zbl];exact PW.out.set i _
       have F11:Hid (FC w hi b (wr.setCell ⟨pp,i,none⟩ (.int .u8 0)) vl9 L9 ⟨⟨some ⟨gf,0,none⟩,nf,nf⟩,⟨some ⟨gl,0,none⟩,ns,ns⟩,⟨some ⟨gsb,0,none⟩,ns,ns⟩,zu,⟨some ⟨gdb,0,none⟩,nb,nb⟩,sd6,sf,zu,zu⟩ ⟨List.replicate nf frF,0,List.replicate ns 0,List.replicate ns zz,[],db6,dq6,fl,nb,[],[]⟩ pf sz bs bl):=FW.out.kind HG.out PW.out (by decide) (by decide) (FW.out.mm.page PW.out HHP.out HG.out) rfl rfl
       have X11:Hid (zp (wr.setCell ⟨pp,i,none⟩ (.int .u8 0)) w.heap.size 41 [.slice none 0 0,.int .i64 0,.slice none 0 0,.slice none 0 0,.slice none 0 0,.slice none 0 0,.slice none 0 0,.slice none 0 0,.int .i64 0,.slice none 0 0,.slice none 0 0]):=XW.out.kind HG.out PW.out (by decide)
       go_wp2
       go_roundg (8 -(i+1))
       case measure=>omega
       exact⟨i+1,qq.set i 0,by omega,by omega,by go_num,F11.out,P11.out,(show(qq.set i 0).length=8 by rw[List.length_set];exact QW.out),X11.out⟩
      have hcd:decide (sz<=8*(k3:Int)+(i:Int))=false:=by simpa using hc
      go_wp2
      go_roundg (8 -(i+1))
      case measure=>omega
      exact⟨i+1,qq,by omega,by omega,by go_num,FW.out,PW.out,QW.out,XW.out⟩
     have hltz4:¬(i:Int)<8:=by omega
     obtain⟨p0,p1,p2,p3,p4,p5,p6,p7,rfl⟩:=zeE qq QW.out;go_upto_region 26 with fail;obtain⟨I,HI⟩:∃I:World->Prop,Hid (∀u,I u↔zc wr u):=⟨fun u=>zc wr u,fun _=>Iff.rfl⟩
     have hI0:I wr.drew:=(HI.out _).2 (gW _)
     have HP:Hid (∀u,I u->zp u pp 44 (pgc [p0,p1,p2,p3,p4,p5,p6,p7])):=dD<|fun u hu=>PW.out.grew ((HI.out _).1 hu)
     have hx6:∀y:zj I,y.world.cell? ⟨b,6,none⟩=some (.slice (some ⟨gdb,0,none⟩) nb nb):=fun y=>(FW.out.mm.box.box.grew ((HI.out _).1 y.holds)).c 6 rfl
     have hf0:∀y:zj I,y.world.cell? ⟨pp,0,none⟩=some (.int .u8 p0):=fun y=>(HP.out _ y.holds).box.c 0 rfl
     have hf1:∀y:zj I,y.world.cell? ⟨pp,1,none⟩=some (.int .u8 p1):=fun y=>(HP.out _ y.holds).box.c 1 rfl
     have hf2:∀y:zj I,y.world.cell? ⟨pp,2,none⟩=some (.int .u8 p2):=fun y=>(HP.out _ y.holds).box.c 2 rfl
     have hf3:∀y:zj I,y.world.cell? ⟨pp,3,none⟩=some (.int .u8 p3):=fun y=>(HP.out _ y.holds).box.c 3 rfl
     have hf4:∀y:zj I,y.world.cell? ⟨pp,4,none⟩=some (.int .u8 p4):=fun y=>(HP.out _ y.holds).box.c 4 rfl
     have hf5:∀y:zj I,y.world.cell? ⟨pp,5,none⟩=some (.int .u8 p5):=fun y=>(HP.out _ y.holds).box.c 5 rfl
     have hf6:∀y:zj I,y.world.cell? ⟨pp,6,none⟩=some (.int .u8 p6):=fun y=>(HP.out _ y.holds).box.c 6 rfl
     have hf7:∀y:zj I,y.world.cell? ⟨pp,7,none⟩=some (.int .u8 p7):=fun y=>(HP.out _ y.holds).box.c 7 rfl
     have hne:Nonempty (zj I):=⟨⟨_,hI0⟩⟩;refine qQ (I:=I) 9 [] hI0 qn (by kernel_rfl) rfl rfl (by decide) (fun x hx=>by cases hx) (fun k s j t hk=>by cases hk) (fun j t k s hj=>by cases hj) (fun k t hk=>by cases hk) ?_
     simp only[List.take,List.drop];iterate 1 (refine zk rfl rfl rfl (fun K hK=>?_);go_big_quiet_op;refine hK _ ?_;clear hK)
     refine jz (.tmp 126) ⟨b,0,none⟩ rfl rfl rfl rfl ?_;simp only[Act.put,sB,sS,sZ];iterate 7 (refine zk rfl rfl rfl (fun K hK=>?_);go_big_quiet_op;refine hK _ ?_;clear hK)
     refine jO fun W11 hI11 _=>?_
     have g11:=(HI.out _).1 hI11;refine jr rfl (.tmp 134) (.tmp 133) rfl w.heap.size (.slice (some ⟨gdb,0,none⟩) nb nb) db6 (FW.out.grew g11).mm.rows.db gdb n rfl (by rw[FI.out.2.2];exact hn) [p0,p1,p2,p3,p4,p5,p6,p7] rfl _ rfl (by first | rfl | simp) rfl ?_
     intro W12 op12 gr12 sz12;obtain⟨-,cs12,hc12⟩:=ZU (FW.out.grew g11).mm.rows.db (g:=gdb) rfl;have F12:Hid (FC w hi b W12 vl9 L9 ⟨⟨some ⟨gf,0,none⟩,nf,nf⟩,⟨some ⟨gl,0,none⟩,ns,ns⟩,⟨some ⟨gsb,0,none⟩,ns,ns⟩,zu,⟨some ⟨gdb,0,none⟩,nb,nb⟩,sd6,sf,zu,zu⟩ ⟨List.replicate nf frF,0,List.replicate ns 0,List.replicate ns zz,[],(db6.set n [p0,p1,p2,p3,p4,p5,p6,p7]),dq6,fl,nb,[],[]⟩ pf sz bs bl):=(FW.out.grew g11).kind gr12 hc12 (by decide) (by decide) ((FW.out.grew g11).mm.setDb rfl gr12 sz12 op12).1 rfl rfl
     have X12:=dD ((XW.out.grew g11).kind gr12 hc12 (by decide))
     have P12:Hid (zp W12 pp 44 (pgc [p0,p1,p2,p3,p4,p5,p6,p7])):=(PW.out.grew g11).beside gr12 (fun g e=>by cases e;have:=(FW.out.mm.rows.dbh gdb rfl);have:=HHP.out;omega)
     clear hI11 g11 op12 gr12 sz12 cs12 hc12 hI0 hx6 hne;clear hf0 hf1 hf2 hf3 hf4 hf5 hf6 hf7;have hpk12:=qt 2 F12.out.mm;go_wp2_with fail;refine hpk12.mono ?_;clear hpk12;rintro e W13 ⟨vl13,L13,y,rfl,mk13,gr13,-,-,-,-,ll13⟩;have F13:Hid (FC w hi b W13 vl13 L13 ⟨⟨some ⟨gf,0,none⟩,nf,nf⟩,⟨some ⟨gl,0,none⟩,ns,ns⟩,⟨some ⟨gsb,0,none⟩,ns,ns⟩,zu,⟨some ⟨gdb,0,none⟩,nb,nb⟩,sd6,sf,zu,zu⟩ ⟨List.replicate nf frF,0,List.replicate ns 0,List.replicate ns zz,[],(db6.set n [p0,p1,p2,p3,p4,p5,p6,p7]),dq6,fl,nb,[],[]⟩ pf sz bs bl):=F12.out.pick gr13 mk13;have X13:Hid (zp W13 w.heap.size 41 [.slice none 0 0,.int .i64 0,.slice none 0 0,.slice none 0 0,.slice none 0 0,.slice none 0 0,.slice none 0 0,.slice none 0 0,.int .i64 0,.slice none 0 0,.slice none 0 0]):=X12.out.kind gr13 F12.out.mm.box (by decide)
     have P13:Hid (zp W13 pp 44 (pgc [p0,p1,p2,p3,p4,p5,p6,p7])):=P12.out.kind gr13 F12.out.mm.box (by decide)
     have LL13:=dD (LL9.out.trans ll13);clear mk13 gr13 ll13;have HDL:Hid ((db6.set n [p0,p1,p2,p3,p4,p5,p6,p7]).length=nb):=show _=_ by rw[List.length_set];exact FI.out.2.2
     by_cases hy:y=1
     ·have hye:(y == 1)=true:=by simp[hy]
      clear hy;go_upto_region 28 with fail;have HDQ:Hid (zm w.heap.size W13 (.slice sd6.a sd6.n sd6.c) dq6):=F13.out.mm.rows.dq;have HQL:Hid (dq6.length<=1000):=show _<=_ by
       have h1:=FI.out.1.ql;have h2:=zdn ((qg _ _).1 FI.out.1.st).2.1;have h3:=((qg _ _).1 FI.out.1.st).1.1;have h4:=FI.out.2.1;omega
      obtain⟨I,HI⟩:∃I:World->Prop,Hid (∀u,I u↔zp u b 95 [.slice vl13.a vl13.n vl13.c,.slice (some ⟨gf,0,none⟩) nf nf,.int .i64 0,.slice (some ⟨gl,0,none⟩) ns ns,.slice (some ⟨gsb,0,none⟩) ns ns,.slice none 0 0,.slice (some ⟨gdb,0,none⟩) nb nb,.slice sd6.a sd6.n sd6.c,.slice sf.a sf.n sf.c,.int .i64 (nb:Int),.slice none 0 0,.slice none 0 0,.slice none 0 0]/\zp u pp 44 (pgc [p0,p1,p2,p3,p4,p5,p6,p7])):=⟨fun u=>zp u b 95 [.slice vl13.a vl13.n vl13.c,.slice (some ⟨gf,0,none⟩) nf nf,.int .i64 0,.slice (some ⟨gl,0,none⟩) ns ns,.slice (some ⟨gsb,0,none⟩) ns ns,.slice none 0 0,.slice (some ⟨gdb,0,none⟩) nb nb,.slice sd6.a sd6.n sd6.c,.slice sf.a sf.n sf.c,.int .i64 (nb:Int),.slice none 0 0,.slice none 0 0,.slice none 0 0]/\zp u pp 44 (pgc [p0,p1,p2,p3,p4,p5,p6,p7]),fun _=>Iff.rfl⟩
      have hI0:I W13.drew:=(HI.out _).2 ⟨F13.out.mm.box.grew (gW _),P13.out.grew (gW _)⟩
      have HP:Hid (∀u,I u->zp u pp 44 (pgc [p0,p1,p2,p3,p4,p5,p6,p7])):=dD<|fun u hu=>((HI.out _).1 hu).2
      have hx7:∀y:zj I,y.world.cell? ⟨b,7,none⟩=some (.slice sd6.a sd6.n sd6.c):=fun y=>((HI.out _).1 y.holds).1.box.c 7 rfl
      have hf0:∀y:zj I,y.world.cell? ⟨pp,0,none⟩=some (.int .u8 p0):=fun y=>(HP.out _ y.holds).box.c 0 rfl
      have hf1:∀y:zj I,y.world.cell? ⟨pp,1,none⟩=some (.int .u8 p1):=fun y=>(HP.out _ y.holds).box.c 1 rfl
      have hf2:∀y:zj I,y.world.cell? ⟨pp,2,none⟩=some (.int .u8 p2):=fun y=>(HP.out _ y.holds).box.c 2 rfl
      have hf3:∀y:zj I,y.world.cell? ⟨pp,3,none⟩=some (.int .u8 p3):=fun y=>(HP.out _ y.holds).box.c 3 rfl
      have hf4:∀y:zj I,y.world.cell? ⟨pp,4,none⟩=some (.int .u8 p4):=fun y=>(HP.out _ y.holds).box.c 4 rfl
      have hf5:∀y:zj I,y.world.cell? ⟨pp,5,none⟩=some (.int .u8 p5):=fun y=>(HP.out _ y.holds).box.c 5 rfl
      have hf6:∀y:zj I,y.world.cell? ⟨pp,6,none⟩=some (.int .u8 p6):=fun y=>(HP.out _ y.holds).box.c 6 rfl
      have hf7:∀y:zj I,y.world.cell? ⟨pp,7,none⟩=some (.int .u8 p7):=fun y=>(HP.out _ y.holds).box.c 7 rfl
      have hne:Nonempty (zj I):=⟨⟨_,hI0⟩⟩;refine zL (I:=I) 16 [(10,fun v=>∃g,v= .slice (some ⟨g,0,none⟩) 1 1),(11,fun v=>∃a n c,v= .slice a n c)] (fun u=>zc W13 u) hI0 (gW _) qn (by kernel_rfl) rfl rfl (by decide) ?hS (by kernel_rfl) ?_
      case hS=>
       intro x hx;simp only[mC,nM,or_false]at hx
       rcases hx with rfl|rfl
       ·exact⟨_,0,rfl⟩
       exact⟨_,none,0,0,rfl⟩
      simp only[List.take,List.drop];iterate 2 (refine zg rfl rfl rfl (fun K hK=>?_);go_big_quiet_op;refine hK _ ?_;clear hK)
      refine zM (.tmp 139) ⟨b,0,none⟩ rfl rfl rfl rfl ?_;simp only[Act.put,sB,sS,sZ];iterate 7 (refine zg rfl rfl rfl (fun K hK=>?_);go_big_quiet_op;refine hK _ ?_;clear hK)
      refine zW rfl rfl (fun v u=>zc W13 u/\∃g,v= .slice (some ⟨g,0,none⟩) 1 1/\jl u ⟨g,0,none⟩ (ptc ((n:Int),[p0,p1,p2,p3,p4,p5,p6,p7]))) (fun w' hI' hF'=>?_) (fun v1 hv=>?_)
      ·exact zK.step (v:= .slice (some ⟨w'.heap.size,0,none⟩) 1 1) (w':=w'.alloc (.cells #[.int .i64 (n:Int),.int .u8 p0,.int .u8 p1,.int .u8 p2,.int .u8 p3,.int .u8 p4,.int .u8 p5,.int .u8 p6,.int .u8 p7] 100)) (by simp only[execOp];go_simp) ⟨(HI.out _).2 ⟨((HI.out _).1 hI').1.grew (za _ _),((HI.out _).1 hI').2.grew (za _ _)⟩,⟨_,rfl⟩,hF'.trans (za _ _),_,rfl,jl.top w' (ptc ((n:Int),[p0,p1,p2,p3,p4,p5,p6,p7])) _ rfl⟩
      obtain⟨g5,rfl⟩:=hv;simp only[Act.put,sB,sS,sZ];refine zW rfl rfl (fun v u=>∃u0,zc W13 u0/\u0.grownBy u (Value.slice sd6.a sd6.n sd6.c).ownBlock/\zm w.heap.size u v (dq6++ [((n:Int),[p0,p1,p2,p3,p4,p5,p6,p7])])) (fun w' hI' hF'=>?_) (fun v1 hv=>?_)
      ·obtain⟨hg',g,hge,hcl⟩:=hF';have hge':g5=g:=by
        simp only[vJ,Option.some.injEq,Addr.mk.injEq]at hge;exact hge.1.1
       subst hge';obtain⟨v',w2,hrun,ho,hgr⟩:=zb7 (w:=w') 32 (HDQ.out.grew hg') g5 ((n:Int),[p0,p1,p2,p3,p4,p5,p6,p7]) rfl hcl HQL.out (nT (bS F13.out.mm.gr) (bS hg'));obtain⟨a',n',c',rfl⟩:=ho.slice;have hbx:I w2:=by
        cases hob:(Value.slice sd6.a sd6.n sd6.c).ownBlock with
        | none=>
         rw[hob]at hgr;exact(HI.out _).2 ⟨((HI.out _).1 hI').1.grew (qo hgr),((HI.out _).1 hI').2.grew (qo hgr)⟩
        | some gq=>
         rw[hob]at hgr;obtain⟨-,cs,hc⟩:=JI (HDQ.out.grew hg') hob;exact(HI.out _).2 ⟨((HI.out _).1 hI').1.kind hgr hc (by decide),((HI.out _).1 hI').2.kind hgr hc (by decide)⟩
       refine zK.step (v:= .slice a' n' c') (w':=w2) ?_ ⟨hbx,⟨a',n',c',rfl⟩,w',hg',hgr,ho⟩;simp only[execOp,resolve,invoke,builtin,pure_bind,Sem.run_bind,Sem.run_pure,List.map_toArray,mP,List.map_nil];exact Eq.trans (congrArg (fun r=>Result.andThen r (fun a w'=>Result.ok (Next.value a) w')) hrun) rfl
      obtain⟨da,dn,dc,rfl⟩:=hv;simp only[Act.put,sB,sS,sZ];refine zM (.tmp 138) ⟨b,0,none⟩ rfl rfl rfl rfl ?_;simp only[Act.put,sB,sS,sZ];iterate 3 (refine zg rfl rfl rfl (fun K hK=>?_);go_big_quiet_op;refine hK _ ?_;clear hK)
      refine qI fun W14 hI14 hF14=>?_
      obtain⟨u0,g0,gr14,op14⟩:=hF14;have B14:Hid (zp W14 b 95 [.slice vl13.a vl13.n vl13.c,.slice (some ⟨gf,0,none⟩) nf nf,.int .i64 0,.slice (some ⟨gl,0,none⟩) ns ns,.slice (some ⟨gsb,0,none⟩) ns ns,.slice none 0 0,.slice (some ⟨gdb,0,none⟩) nb nb,.slice sd6.a sd6.n sd6.c,.slice sf.a sf.n sf.c,.int .i64 (nb:Int),.slice none 0 0,.slice none 0 0,.slice none 0 0]):=((HI.out _).1 hI14).1;have R14:Hid (MkR w.heap.size hi W14 ⟨⟨some ⟨gf,0,none⟩,nf,nf⟩,⟨some ⟨gl,0,none⟩,ns,ns⟩,⟨some ⟨gsb,0,none⟩,ns,ns⟩,zu,⟨some ⟨gdb,0,none⟩,nb,nb⟩,⟨da,dn,dc⟩,sf,zu,zu⟩ ⟨List.replicate nf frF,0,List.replicate ns 0,List.replicate ns zz,[],db6.set n [p0,p1,p2,p3,p4,p5,p6,p7],dq6++ [((n:Int),[p0,p1,p2,p3,p4,p5,p6,p7])],fl,nb,[],[]⟩ zu []):=(F13.out.mm.rows.grew g0).addDq gr14 ⟨da,dn,dc⟩ op14;have hk14:zc w W14/\FlB w.heap.size hi pf W14 ⟨⟨some ⟨gf,0,none⟩,nf,nf⟩,⟨some ⟨gl,0,none⟩,ns,ns⟩,⟨some ⟨gsb,0,none⟩,ns,ns⟩,zu,⟨some ⟨gdb,0,none⟩,nb,nb⟩,sd6,sf,zu,zu⟩ ⟨List.replicate nf frF,0,List.replicate ns 0,List.replicate ns zz,[],db6.set n [p0,p1,p2,p3,p4,p5,p6,p7],dq6,fl,nb,[],[]⟩/\zp W14 pf 84 [.int .i64 sz,.slice bs.a bs.n bs.c]/\zb blE (pf+1) W14 (.slice bs.a bs.n bs.c) bl/\zp W14 w.heap.size 41 [.slice none 0 0,.int .i64 0,.slice none 0 0,.slice none 0 0,.slice none 0 0,.slice none 0 0,.slice none 0 0,.slice none 0 0,.int .i64 0,.slice none 0 0,.slice none 0 0]:=by
       cases hob:(Value.slice sd6.a sd6.n sd6.c).ownBlock with
       | none=>
        rw[hob]at gr14;have k:=qo gr14;exact⟨(F13.out.mm.gr.trans g0).trans k,(F13.out.fb.grew g0).grew k,(F13.out.box.grew g0).grew k,(F13.out.row.grew g0).grew k,(X13.out.grew g0).grew k⟩
       | some gq=>
        rw[hob]at gr14;obtain⟨hgq,cs,hc⟩:=JI (HDQ.out.grew g0) hob;exact⟨ze (F13.out.mm.gr.trans g0) gr14 hgq,(F13.out.fb.grew g0).kind gr14 hc (.inl (by decide)) (.inl (by decide)),(F13.out.box.grew g0).kind gr14 hc (by decide),(F13.out.row.grew g0).kind gr14 hc (by decide),(X13.out.grew g0).kind gr14 hc (by decide)⟩
      obtain⟨e1,e2,e3,e4,e5⟩:=hk14;have GW14:Hid (zc w W14):=e1;have FB14:Hid (FlB w.heap.size hi pf W14 ⟨⟨some ⟨gf,0,none⟩,nf,nf⟩,⟨some ⟨gl,0,none⟩,ns,ns⟩,⟨some ⟨gsb,0,none⟩,ns,ns⟩,zu,⟨some ⟨gdb,0,none⟩,nb,nb⟩,sd6,sf,zu,zu⟩ ⟨List.replicate nf frF,0,List.replicate ns 0,List.replicate ns zz,[],db6.set n [p0,p1,p2,p3,p4,p5,p6,p7],dq6,fl,nb,[],[]⟩):=e2;have PF14:Hid (zp W14 pf 84 [.int .i64 sz,.slice bs.a bs.n bs.c]):=e3;have RW14:Hid (zb blE (pf+1) W14 (.slice bs.a bs.n bs.c) bl):=e4;have X14:Hid (zp W14 w.heap.size 41 [.slice none 0 0,.int .i64 0,.slice none 0 0,.slice none 0 0,.slice none 0 0,.slice none 0 0,.slice none 0 0,.slice none 0 0,.int .i64 0,.slice none 0 0,.slice none 0 0]):=e5;clear e1 e2 e3 e4 e5 u0 g0 gr14 op14 hI14 hI0 hx7 hne;clear hf0 hf1 hf2 hf3 hf4 hf5 hf6 hf7;obtain⟨W15,hW15⟩:∃W15,W14.setCell ⟨b,7,none⟩ (.slice da dn dc)=W15:=⟨_,rfl⟩;have hg15:W14.grownBy W15 (some b):=by rw[<-hW15];exact qY _ _ _ _
      have M15:Mk w hi W15 b vl13 L13 ⟨⟨some ⟨gf,0,none⟩,nf,nf⟩,⟨some ⟨gl,0,none⟩,ns,ns⟩,⟨some ⟨gsb,0,none⟩,ns,ns⟩,zu,⟨some ⟨gdb,0,none⟩,nb,nb⟩,⟨da,dn,dc⟩,sf,zu,zu⟩ ⟨List.replicate nf frF,0,List.replicate ns 0,List.replicate ns zz,[],db6.set n [p0,p1,p2,p3,p4,p5,p6,p7],dq6++ [((n:Int),[p0,p1,p2,p3,p4,p5,p6,p7])],fl,nb,[],[]⟩ zu []:=⟨ze GW14.out hg15 F13.out.mm.hb,F13.out.mm.hb,by rw[<-hW15];exact B14.out.set 7 _,F13.out.mm.lr,F13.out.mm.lc,F13.out.mm.lb,R14.out.var hg15 B14.out hg15.size (.inl rfl)⟩
      have F15:Hid (FC w hi b W15 vl13 L13 ⟨⟨some ⟨gf,0,none⟩,nf,nf⟩,⟨some ⟨gl,0,none⟩,ns,ns⟩,⟨some ⟨gsb,0,none⟩,ns,ns⟩,zu,⟨some ⟨gdb,0,none⟩,nb,nb⟩,⟨da,dn,dc⟩,sf,zu,zu⟩ ⟨List.replicate nf frF,0,List.replicate ns 0,List.replicate ns zz,[],(db6.set n [p0,p1,p2,p3,p4,p5,p6,p7]),(dq6++ [((n:Int),[p0,p1,p2,p3,p4,p5,p6,p7])]),fl,nb,[],[]⟩ pf sz bs bl):=dD<|⟨M15,F13.out.hp,(FB14.out.kind hg15 B14.out (.inl (by decide)) (.inl (by decide))).as rfl rfl,F13.out.fn,PF14.out.kind hg15 B14.out (by decide),RW14.out.kind hg15 B14.out (by decide)⟩
      have X15:Hid (zp W15 w.heap.size 41 [.slice none 0 0,.int .i64 0,.slice none 0 0,.slice none 0 0,.slice none 0 0,.slice none 0 0,.slice none 0 0,.slice none 0 0,.int .i64 0,.slice none 0 0,.slice none 0 0]):=X14.out.kind hg15 B14.out (by decide)
      have HW15:Hid (_=W15):=hW15;have x7:=B14.out.box.c 7 rfl;have xf:=B14.out.box.f;clear hW15 hg15;go_wp2;rw[HW15.out]
      go_meet
      exact⟨(n:Int),vl13,L13,⟨da,dn,dc⟩,_,_,rfl,rfl,F15.out,LL13.out,X15.out,(show _/\_ from⟨FI.out.1.block (more:=true) (by rw[FI.out.2.2];exact hn) HUF.out.1 HUF.out.2,HDL.out⟩)⟩
     have hye:(y == 1)=false:=by simp[hy]
     clear hy;go_wp2
     go_meet
     exact⟨(n:Int),vl13,L13,sd6,_,_,rfl,rfl,F13.out,LL13.out,X13.out,(show _/\_ from⟨FI.out.1.block (more:=false) (by rw[FI.out.2.2];exact hn) HUF.out.1 HUF.out.2,HDL.out⟩)⟩
   obtain⟨bx,vl9,L9,sd9,db9,dq9,rfl,rfl,F9,LL9,X9,FI9⟩:=hcut;have y1:=F9.out.box.box.c 1 rfl;have HBL:Hid (bl.length=k3):=dD<|FI.out.2.1
   have HSW:Hid (pf+1<=wc.heap.size):=F9.out.box.box.lt
   go_wp2_with (at_builtin;refine zB (E:=blE) rfl (.tmp 155) (.tmp 157) rfl (pf+1) _ bl rfl (F9.out.row.grew (za _ _)) _ [bx] rfl (jN blE wc bx _ _ rfl (by decide)) ?qb ?qc ?_)
   case qb=>
    rw[HBL.out]
    show(k3+1)*8<=_
    omega
   case qc=>exact nT HSW.out (bS (za _ _))
   intro v4 W14 ow4 gr4;obtain⟨a4,c4,rfl⟩:=ow4.form;obtain⟨N4,hN4⟩:∃N4,(bl++ [bx]).length=N4:=⟨_,rfl⟩;rw[hN4]at ow4⊢;clear hN4;obtain⟨WX,hWX⟩:∃WX,wc.alloc (.cells #[.int .i64 bx] 3)=WX:=⟨_,rfl⟩;have gX:=gP hWX
   have gr4':WX.grownBy W14 (Value.slice bs.a bs.n bs.c).ownBlock:=by rw[<-hWX];exact gr4
   clear gr4 hWX;obtain⟨b14,k14,f14⟩:=(F9.out.grew gX).addB gr4' ⟨a4,N4,c4⟩ ow4;have F14:Hid (FC w hi b (W14.setCell ⟨pf,1,none⟩ (.slice a4 N4 c4)) vl9 L9 ⟨⟨some ⟨gf,0,none⟩,nf,nf⟩,⟨some ⟨gl,0,none⟩,ns,ns⟩,⟨some ⟨gsb,0,none⟩,ns,ns⟩,zu,⟨some ⟨gdb,0,none⟩,nb,nb⟩,sd9,sf,zu,zu⟩ ⟨List.replicate nf frF,0,List.replicate ns 0,List.replicate ns zz,[],db9,dq9,fl,nb,[],[]⟩ pf sz ⟨a4,N4,c4⟩ (bl++ [bx])):=f14;have X14:Hid (zp (W14.setCell ⟨pf,1,none⟩ (.slice a4 N4 c4)) w.heap.size 41 [.slice none 0 0,.int .i64 0,.slice none 0 0,.slice none 0 0,.slice none 0 0,.slice none 0 0,.slice none 0 0,.slice none 0 0,.int .i64 0,.slice none 0 0,.slice none 0 0]):=k14 _ _ _ (by decide) (by decide) (X9.out.grew gX)
   have B14:Hid (zp W14 pf 84 [.int .i64 sz,.slice bs.a bs.n bs.c]):=b14;clear b14 k14 f14 gr4' ow4 gX y1;have y1:=B14.out.box.c 1 rfl;have yf:=B14.out.box.f;go_wp2
   go_roundg (N3 -(k3+1))
   case measure=>omega
   exact⟨k3+1,vl9,L9,sd9,⟨a4,N4,c4⟩,db9,dq9,bl++ [bx],by omega,by omega,by go_num,F14.out,LL9.out,X14.out,(show _/\_ from⟨FI9.out.1,by rw[lA,HBL.out];rfl,FI9.out.2⟩)⟩
  have hltz3:¬(k3:Int)< (N3:Int):=by omega
  obtain rfl:k3=N3:=by omega
  go_upto_region 31 with fail;obtain⟨xs,q1,q2,q3⟩:=FX.out.fb;have HX:Hid (zb fvE w.heap.size wr (.slice sf.a sf.n sf.c) xs):=q1;have HXL:Hid (xs.length=fl.length):=show _=_ from q2
  have HX3:Hid (∀(i:Nat) x f,xs[i]? =some x->fl[i]? =some f->x.size=f.size/\zb blE hi wr x.v f.bl):=dD<|fun i x f hx hf=>(q3 i x f hx hf).1
  clear q1 q2 q3;obtain⟨fx,HFX⟩:∃fx:FlV,Hid (fx=⟨sz,bs.a,bs.n,bs.c⟩):=⟨_,rfl⟩;obtain⟨I,HI⟩:∃I:World->Prop,Hid (∀u,I u↔zp u b 95 [.slice vl6.a vl6.n vl6.c,.slice (some ⟨gf,0,none⟩) nf nf,.int .i64 0,.slice (some ⟨gl,0,none⟩) ns ns,.slice (some ⟨gsb,0,none⟩) ns ns,.slice none 0 0,.slice (some ⟨gdb,0,none⟩) nb nb,.slice sd6.a sd6.n sd6.c,.slice sf.a sf.n sf.c,.int .i64 (nb:Int),.slice none 0 0,.slice none 0 0,.slice none 0 0]/\zp u pf 84 [.int .i64 sz,.slice bs.a bs.n bs.c]):=⟨fun u=>zp u b 95 [.slice vl6.a vl6.n vl6.c,.slice (some ⟨gf,0,none⟩) nf nf,.int .i64 0,.slice (some ⟨gl,0,none⟩) ns ns,.slice (some ⟨gsb,0,none⟩) ns ns,.slice none 0 0,.slice (some ⟨gdb,0,none⟩) nb nb,.slice sd6.a sd6.n sd6.c,.slice sf.a sf.n sf.c,.int .i64 (nb:Int),.slice none 0 0,.slice none 0 0,.slice none 0 0]/\zp u pf 84 [.int .i64 sz,.slice bs.a bs.n bs.c],fun _=>Iff.rfl⟩
  have hI0:I wr.drew:=(HI.out _).2 ⟨FX.out.mm.box.grew (gW _),FX.out.box.grew (gW _)⟩
  have hx8:∀y:zj I,y.world.cell? ⟨b,8,none⟩=some (.slice sf.a sf.n sf.c):=fun y=>((HI.out _).1 y.holds).1.box.c 8 rfl
  have hp0:∀y:zj I,y.world.cell? ⟨pf,0,none⟩=some (.int .i64 sz):=fun y=>((HI.out _).1 y.holds).2.box.c 0 rfl
  have hp1:∀y:zj I,y.world.cell? ⟨pf,1,none⟩=some (.slice bs.a bs.n bs.c):=fun y=>((HI.out _).1 y.holds).2.box.c 1 rfl
  have hne:Nonempty (zj I):=⟨⟨_,hI0⟩⟩;refine zL (I:=I) 14 [(8,fun v=>∃g,v= .slice (some ⟨g,0,none⟩) 1 1),(9,fun v=>∃a n c,v= .slice a n c)] (fun u=>zc wr u) hI0 (gW _) qn (by kernel_rfl) rfl rfl (by decide) ?hS (by kernel_rfl) ?_
  case hS=>
   intro x hx;simp only[mC,nM,or_false]at hx
   rcases hx with rfl|rfl
   ·exact⟨_,0,rfl⟩
   exact⟨_,none,0,0,rfl⟩
  simp only[List.take,List.drop];iterate 2 (refine zg rfl rfl rfl (fun K hK=>?_);go_big_quiet_op;refine hK _ ?_;clear hK)
  refine zM (.tmp 162) ⟨b,0,none⟩ rfl rfl rfl rfl ?_;simp only[Act.put,sB,sS,sZ];iterate 5 (refine zg rfl rfl rfl (fun K hK=>?_);go_big_quiet_op;refine hK _ ?_;clear hK)
  refine zW rfl rfl (fun v u=>zc wr u/\zr fvE u v [fx]) (fun w' hI' hF'=>?_) (fun v1 hv=>?_)
  ·exact zK.step (v:= .slice (some ⟨w'.heap.size,0,none⟩) 1 1) (w':=w'.alloc (.cells #[.int .i64 sz,.slice bs.a bs.n bs.c] 84)) (by simp only[execOp];go_simp) ⟨(HI.out _).2 ⟨((HI.out _).1 hI').1.grew (za _ _),((HI.out _).1 hI').2.grew (za _ _)⟩,⟨_,rfl⟩,hF'.trans (za _ _),jN fvE w' fx _ _ (by rw[HFX.out];rfl) (by decide)⟩
  obtain⟨g5,rfl⟩:=hv;simp only[Act.put,sB,sS,sZ];refine zW rfl rfl (fun v u=>∃u0,zc wr u0/\u0.grownBy u (Value.slice sf.a sf.n sf.c).ownBlock/\zb fvE w.heap.size u v (xs++ [fx])) (fun w' hI' hF'=>?_) (fun v1 hv=>?_)
  ·obtain⟨hg',hrw⟩:=hF';obtain⟨v',w2,hrun,ho,hgr,-⟩:=qj (E:=fvE) (w:=w') 35 (HX.out.grew hg') (.slice (some ⟨g5,0,none⟩) 1 1) [fx] hrw (by have:=HXL.out;have:=HFL.out;rw[HXL.out];show(fl.length+1)*32<=_;omega) (nT (bS FX.out.mm.gr) (bS hg'))
   obtain⟨a',c',rfl⟩:=ho.form;have hbx:I w2:=by
    cases hob:(Value.slice sf.a sf.n sf.c).ownBlock with
    | none=>
     rw[hob]at hgr;exact(HI.out _).2 ⟨((HI.out _).1 hI').1.grew (qo hgr),((HI.out _).1 hI').2.grew (qo hgr)⟩
    | some gq=>
     rw[hob]at hgr;obtain⟨cs,hc⟩:=(HX.out.grew hg').obj hob;have hlt:=FX.out.fn gq hob;exact(HI.out _).2 ⟨((HI.out _).1 hI').1.kind hgr hc (by decide),((HI.out _).1 hI').2.beside hgr (fun k e=>by cases e;omega)⟩
   refine zK.step (v:= .slice a' (xs++ [fx]).length c') (w':=w2) ?_ ⟨hbx,⟨a',_,c',rfl⟩,w',hg',hgr,ho⟩;simp only[execOp,resolve,invoke,builtin,pure_bind,Sem.run_bind,Sem.run_pure,List.map_toArray,mP,List.map_nil];exact Eq.trans (congrArg (fun r=>Result.andThen r (fun a w'=>Result.ok (Next.value a) w')) hrun) rfl
  obtain⟨fa,fn,fc,rfl⟩:=hv;simp only[Act.put,sB,sS,sZ];refine zM (.tmp 161) ⟨b,0,none⟩ rfl rfl rfl rfl ?_;simp only[Act.put,sB,sS,sZ];iterate 3 (refine zg rfl rfl rfl (fun K hK=>?_);go_big_quiet_op;refine hK _ ?_;clear hK)
  refine qI fun W14 hI14 hF14=>?_
  obtain⟨u0,g0,gr14,op14⟩:=hF14;have B14:Hid (zp W14 b 95 [.slice vl6.a vl6.n vl6.c,.slice (some ⟨gf,0,none⟩) nf nf,.int .i64 0,.slice (some ⟨gl,0,none⟩) ns ns,.slice (some ⟨gsb,0,none⟩) ns ns,.slice none 0 0,.slice (some ⟨gdb,0,none⟩) nb nb,.slice sd6.a sd6.n sd6.c,.slice sf.a sf.n sf.c,.int .i64 (nb:Int),.slice none 0 0,.slice none 0 0,.slice none 0 0]):=((HI.out _).1 hI14).1;have R14:Hid (MkR w.heap.size hi W14 ⟨⟨some ⟨gf,0,none⟩,nf,nf⟩,⟨some ⟨gl,0,none⟩,ns,ns⟩,⟨some ⟨gsb,0,none⟩,ns,ns⟩,zu,⟨some ⟨gdb,0,none⟩,nb,nb⟩,sd6,⟨fa,fn,fc⟩,zu,zu⟩ ⟨List.replicate nf frF,0,List.replicate ns 0,List.replicate ns zz,[],db6,dq6,fl++ [⟨sz,bl⟩],nb,[],[]⟩ zu []):=(FX.out.mm.rows.grew g0).addFl (HX.out.grew g0) HXL.out (fun i x f hx hf=>⟨(HX3.out i x f hx hf).1,(HX3.out i x f hx hf).2.grew g0⟩) gr14 ⟨fa,fn,fc⟩ (x:=fx) (f:=⟨sz,bl⟩) (by rw[HFX.out]) (by rw[HFX.out];exact(FX.out.row.grew g0).base (by have:=FX.out.hp;omega)) op14
  have hk14:zc w W14/\zp W14 w.heap.size 41 [.slice none 0 0,.int .i64 0,.slice none 0 0,.slice none 0 0,.slice none 0 0,.slice none 0 0,.slice none 0 0,.slice none 0 0,.int .i64 0,.slice none 0 0,.slice none 0 0]:=by
   cases hob:(Value.slice sf.a sf.n sf.c).ownBlock with
   | none=>
    rw[hob]at gr14;exact⟨(FX.out.mm.gr.trans g0).trans (qo gr14),(XX.out.grew g0).grew (qo gr14)⟩
   | some gq=>
    rw[hob]at gr14;obtain⟨cs,hc⟩:=(HX.out.grew g0).obj hob;exact⟨ze (FX.out.mm.gr.trans g0) gr14 ((HX.out.grew g0).lt gq hob).1,(XX.out.grew g0).kind gr14 hc (by decide)⟩
  obtain⟨e1,e5⟩:=hk14;have hg15:=qY W14 b 8 (.slice fa fn fc);have M15:Hid (Mk w hi (W14.setCell ⟨b,8,none⟩ (.slice fa fn fc)) b vl6 L6 ⟨⟨some ⟨gf,0,none⟩,nf,nf⟩,⟨some ⟨gl,0,none⟩,ns,ns⟩,⟨some ⟨gsb,0,none⟩,ns,ns⟩,zu,⟨some ⟨gdb,0,none⟩,nb,nb⟩,sd6,⟨fa,fn,fc⟩,zu,zu⟩ ⟨List.replicate nf frF,0,List.replicate ns 0,List.replicate ns zz,[],db6,dq6,fl++ [⟨sz,bl⟩],nb,[],[]⟩ zu []):=dD<|⟨ze e1 hg15 FX.out.mm.hb,FX.out.mm.hb,B14.out.set 8 _,FX.out.mm.lr,FX.out.mm.lc,FX.out.mm.lb,R14.out.var hg15 B14.out hg15.size (.inl rfl)⟩
  have X15:Hid (zp (W14.setCell ⟨b,8,none⟩ (.slice fa fn fc)) w.heap.size 41 [.slice none 0 0,.int .i64 0,.slice none 0 0,.slice none 0 0,.slice none 0 0,.slice none 0 0,.slice none 0 0,.slice none 0 0,.int .i64 0,.slice none 0 0,.slice none 0 0]):=e5.kind hg15 B14.out (by decide)
  have FI15:Hid (zdr (fl++ [⟨sz,bl⟩]) nb db6 dq6 []/\(fl++ [(⟨sz,bl⟩:Fl)]).length<=k2+1/\db6.length=nb/\∀f∈fl++ [(⟨sz,bl⟩:Fl)],f.size<40):=dD<|⟨FI.out.1.file (by have:=HFL.out;omega) (by have:=HSZ.out;omega) (by rw[FI.out.2.1,HN3.out]),by have:=HFL.out;simp;omega,FI.out.2.2,fun f hf=>by
   rcases List.mem_append.1 hf with hf|hf
   ·exact HF40.out f hf
   simp only[mC,nM,or_false]at hf;rw[hf];exact HSZ.out.2⟩
  clear u0 g0 gr14 op14 e1 e5 hg15 hI14 hI0 hx8 hp0 hp1 hne;have x8:=B14.out.box.c 8 rfl;have xf:=B14.out.box.f;go_wp2
  go_roundg (c -(k2+1))
  case measure=>omega
  exact⟨k2+1,vl6,L6,sd6,⟨fa,fn,fc⟩,db6,dq6,fl++ [(⟨sz,bl⟩:Fl)],by omega,by omega,by go_num,M15.out,LX.out,X15.out,FI15.out,(fun h=>absurd h (Nat.succ_ne_zero _))⟩
 have hltz2:¬(k2:Int)< (c:Int):=by omega
 have BI:Hid (qO ⟨List.replicate nf frF,0,List.replicate ns 0,List.replicate ns zz,[],db,dq,fl,nb,[],[]⟩ []):=FW.out.1.start hnf40 hns60 0;have HFL2:Hid (fl.length<=2/\∀f∈fl,f.size<40):=show _/\_ from⟨by have:=FW.out.2.1;omega,FW.out.2.2.2⟩
 have HE0:Hid (L=[]->fl=[]/\dq=[]/\db=List.replicate nb zz):=dD<|fun e=>ZW.out (by have:=HC0.out e;omega)
 have hpk3:=qt 2 MW.out;go_wp2_with fail;refine hpk3.mono ?_;clear hpk3;rintro e W4 ⟨vl4,L4,y,rfl,mk4,gr4,-,s0,s1,s2,ll4⟩;obtain⟨n5,hn5⟩:∃n5:Nat,1+y=(n5:Int):=⟨(1+y).toNat,by omega⟩
 have hn52:n5<=2:=by rcases s1 with h | h <;> omega
 have hn51:1<=n5:=by omega
 have HN1:Hid (L=[]->n5=1):=dD<|fun e=>by have:=s2 (LW.out e);omega
 have M4:Hid (Mk w hi W4 b vl4 L4 ⟨⟨some ⟨gf,0,none⟩,nf,nf⟩,⟨some ⟨gl,0,none⟩,ns,ns⟩,⟨some ⟨gsb,0,none⟩,ns,ns⟩,zu,⟨some ⟨gdb,0,none⟩,nb,nb⟩,sd,sf,zu,zu⟩ ⟨List.replicate nf frF,0,List.replicate ns 0,List.replicate ns zz,[],db,dq,fl,nb,[],[]⟩ zu []):=mk4;have X4:Hid (zp W4 w.heap.size 41 [.slice none 0 0,.int .i64 0,.slice none 0 0,.slice none 0 0,.slice none 0 0,.slice none 0 0,.slice none 0 0,.slice none 0 0,.int .i64 0,.slice none 0 0,.slice none 0 0]):=XW.out.beside gr4 (fun g e=>by cases e;have:=HBB.out;omega)
 have LL4:=dD (LW.out.trans ll4);clear mk4 gr4 ll4 s0 s1 s2;go_wp2
 go_loopg [179] n5 (fun gg s179 wr=>∃(k5:Nat) (vl':Sli) (L':List Int) (V':MaV) (m':Ma) (vt':Sli) (T':List (Nat->En)),k5<=n5/\n5 - k5<=gg/\s179= .int .i64 k5/\Hid (Mk w hi wr b vl' L' V' m' vt' T')/\Hid (ZL L L')/\Hid (zp wr w.heap.size 41 [.slice none 0 0,.int .i64 0,.slice none 0 0,.slice none 0 0,.slice none 0 0,.slice none 0 0,.slice none 0 0,.slice none 0 0,.int .i64 0,.slice none 0 0,.slice none 0 0])/\Hid (qO m' T')/\Hid (m'.sp.length=k5/\(∀s∈m'.sp,jp m'.fl.length s.ars/\jR s.ars 64<=12)/\m'.hand=0/\m'.fs.length=nf/\(m'.fl.length<=2/\∀f∈m'.fl,f.size<40))/\Hid (L=[]->m'=zdT nf ns nb k5/\T'=List.replicate k5 (fun _=>en0)))
 case atStart=>exact⟨0,vl4,L4,_,_,_,_,nZ _,by omega,rfl,M4.out,LL4.out,X4.out,BI.out,(show _/\_ from⟨rfl,fun s hs=>(by cases hs),rfl,lR,HFL2.out⟩),(show _->_ from fun e=>by obtain⟨a1,a2,a3⟩:=HE0.out e;rw[a1,a2,a3];exact⟨rfl,rfl⟩)⟩
 obtain⟨k5,vl5,L5,V5,m5,vt5,T5,hk5,hg5,rfl,MX,LX,XX,BX5,S5,E5⟩:=hrel;have HL5:Hid (m5.sp.length=k5):=S5.out.1
 by_cases hlt5:k5<n5
 ·have hltz5:(k5:Int)< (n5:Int):=by omega
  by_cases h1:k5=1
  ·subst h1;have HL1:Hid (L≠[]):=dD<|fun e=>by have:=HN1.out e;omega
   have h1e:((((1:Nat):Int)) == 1)=true:=by decide
   have hpk4:=qt 2 MX.out;go_wp2_with fail;refine hpk4.mono ?_;clear hpk4;rintro e W7 ⟨vl7,L7,z,rfl,mk7,gr7,-,-,-,-,ll7⟩;have M7:Hid (Mk w hi W7 b vl7 L7 V5 m5 vt5 T5):=mk7;have X7:Hid (zp W7 w.heap.size 41 [.slice none 0 0,.int .i64 0,.slice none 0 0,.slice none 0 0,.slice none 0 0,.slice none 0 0,.slice none 0 0,.slice none 0 0,.int .i64 0,.slice none 0 0,.slice none 0 0]):=XX.out.beside gr7 (fun g e=>by cases e;have:=HBB.out;omega)
   have LL7:=dD (LX.out.trans ll7);clear mk7 gr7 ll7;obtain⟨MX,LX,XX⟩:Hid (Mk w hi W7 b vl7 L7 V5 m5 vt5 T5)/\Hid (ZL L L7)/\Hid (zp W7 w.heap.size 41 [.slice none 0 0,.int .i64 0,.slice none 0 0,.slice none 0 0,.slice none 0 0,.slice none 0 0,.slice none 0 0,.slice none 0 0,.int .i64 0,.slice none 0 0,.slice none 0 0]):=⟨M7,LL7,X7⟩
   by_cases hz:z=1
   ·have hze:(z == 1)=true:=by simp[hz]
    clear hz;obtain⟨s0,hs0⟩:=List.length_eq_one_iff.1 HL5.out;have HS0:Hid (m5.sp=[s0]):=hs0;clear hs0;have hfk:=zjL s0 MX.out BX5.out HS0.out;go_wp2_with fail;refine hfk.mono ?_;clear hfk;rintro e W9 ⟨⟨v,rfl⟩,V9,m9,vt9,T9,q1,q3,q4,⟨q5,q6,q7,q8⟩⟩;have M9:Hid (Mk w hi W9 b vl7 L7 V9 m9 vt9 T9):=q1;have X9:Hid (zp W9 w.heap.size 41 [.slice none 0 0,.int .i64 0,.slice none 0 0,.slice none 0 0,.slice none 0 0,.slice none 0 0,.slice none 0 0,.slice none 0 0,.int .i64 0,.slice none 0 0,.slice none 0 0]):=q3.1 _ _ _ XX.out zc4;have B9:Hid (qO m9 T9):=q4;have S9:Hid (m9.sp.length=1+1/\(∀s∈m9.sp,jp m9.fl.length s.ars/\jR s.ars 64<=12)/\m9.hand=0/\m9.fs.length=nf/\(m9.fl.length<=2/\∀f∈m9.fl,f.size<40)):=show _/\_ from⟨by rw[q5,HS0.out];rfl,fun s hs=>by
     rw[q5]at hs;rw[q6]
     rcases List.mem_append.1 hs with hs|hs
     ·exact S5.out.2.1 s hs
     simp only[mC,nM,or_false]at hs;rw[hs];exact S5.out.2.1 s0 (by rw[HS0.out];simp),q7.trans S5.out.2.2.1,q8.trans S5.out.2.2.2.1,by rw[q6];exact S5.out.2.2.2.2⟩
    have E9:Hid (L=[]->m9=zdT nf ns nb (1+1)/\T9=List.replicate (1+1) (fun _=>en0)):=dD<|fun e=>absurd e HL1.out
    clear q1 q3 q4 q5 q6 q7 q8;go_wp2
    go_roundg (n5 -(1+1))
    case measure=>omega
    exact⟨1+1,vl7,L7,V9,m9,vt9,T9,by omega,by omega,by go_num,M9.out,LX.out,X9.out,B9.out,S9.out,E9.out⟩
   have hze:(z == 1)=false:=by simp[hz]
   clear hz;have hsp:=zdF MX.out BX5.out (by rw[HL5.out];omega)
   go_wp2_with fail;refine hsp.mono ?_;clear hsp;rintro e W9 ⟨⟨v,rfl⟩,vl9,L9,V9,m9,vt9,T9,l9,q1,q2,q3,q4,⟨q5,q6,q7,q8⟩,q9,q10⟩;have M9:Hid (Mk w hi W9 b vl9 L9 V9 m9 vt9 T9):=q1;have LL9:=dD (LX.out.trans q2);have X9:Hid (zp W9 w.heap.size 41 [.slice none 0 0,.int .i64 0,.slice none 0 0,.slice none 0 0,.slice none 0 0,.slice none 0 0,.slice none 0 0,.slice none 0 0,.int .i64 0,.slice none 0 0,.slice none 0 0]):=q3.1 _ _ _ XX.out zc4;have B9:Hid (qO m9 T9):=q4;have S9:Hid (m9.sp.length=1+1/\(∀s∈m9.sp,jp m9.fl.length s.ars/\jR s.ars 64<=12)/\m9.hand=0/\m9.fs.length=nf/\(m9.fl.length<=2/\∀f∈m9.fl,f.size<40)):=show _/\_ from⟨by rw[q5,lA,HL5.out];rfl,fun s hs=>by
    rw[q5]at hs;rw[q6]
    rcases List.mem_append.1 hs with hs|hs
    ·exact S5.out.2.1 s hs
    simp only[mC,nM,or_false]at hs;rw[hs];exact q9,q7.trans S5.out.2.2.1,q8.trans S5.out.2.2.2.1,by rw[q6];exact S5.out.2.2.2.2⟩
   have E9:Hid (L=[]->m9=zdT nf ns nb (1+1)/\T9=List.replicate (1+1) (fun _=>en0)):=dD<|fun e=>absurd e HL1.out
   clear q1 q2 q3 q4 q5 q6 q7 q8 q9 q10;go_wp2
   go_roundg (n5 -(1+1))
   case measure=>omega
   exact⟨1+1,vl9,L9,V9,m9,vt9,T9,by omega,by omega,by go_num,M9.out,LL9.out,X9.out,B9.out,S9.out,E9.out⟩
  obtain rfl:k5=0:=by omega
  have h1e:((((0:Nat):Int)) == 1)=false:=by decide
  have hsp:=zdF MX.out BX5.out (by rw[HL5.out];omega)
  go_wp2_with fail;refine hsp.mono ?_;clear hsp;rintro e W9 ⟨⟨v,rfl⟩,vl9,L9,V9,m9,vt9,T9,l9,q1,q2,q3,q4,⟨q5,q6,q7,q8⟩,q9,q10⟩;have M9:Hid (Mk w hi W9 b vl9 L9 V9 m9 vt9 T9):=q1;have LL9:=dD (LX.out.trans q2);have X9:Hid (zp W9 w.heap.size 41 [.slice none 0 0,.int .i64 0,.slice none 0 0,.slice none 0 0,.slice none 0 0,.slice none 0 0,.slice none 0 0,.slice none 0 0,.int .i64 0,.slice none 0 0,.slice none 0 0]):=q3.1 _ _ _ XX.out zc4;have B9:Hid (qO m9 T9):=q4;have S9:Hid (m9.sp.length=0+1/\(∀s∈m9.sp,jp m9.fl.length s.ars/\jR s.ars 64<=12)/\m9.hand=0/\m9.fs.length=nf/\(m9.fl.length<=2/\∀f∈m9.fl,f.size<40)):=show _/\_ from⟨by rw[q5,lA,HL5.out];rfl,fun s hs=>by
   rw[q5]at hs;rw[q6]
   rcases List.mem_append.1 hs with hs|hs
   ·exact S5.out.2.1 s hs
   simp only[mC,nM,or_false]at hs;rw[hs];exact q9,q7.trans S5.out.2.2.1,q8.trans S5.out.2.2.2.1,by rw[q6];exact S5.out.2.2.2.2⟩
  have E9:Hid (L=[]->m9=zdT nf ns nb (0+1)/\T9=List.replicate (0+1) (fun _=>en0)):=dD<|fun e=>by
   obtain⟨a1,a2⟩:=q10 (LX.out e);obtain⟨b1,b2⟩:=E5.out e;rw[b1]at a1;rw[b2]at a2;exact⟨a1,a2⟩
  clear q1 q2 q3 q4 q5 q6 q7 q8 q9 q10;go_wp2
  go_roundg (n5 -(0+1))
  case measure=>omega
  exact⟨0+1,vl9,L9,V9,m9,vt9,T9,by omega,by omega,by go_num,M9.out,LL9.out,X9.out,B9.out,S9.out,E9.out⟩
 have hltz5:¬(k5:Int)< (n5:Int):=by omega
 obtain⟨ys0,z1,z2,-⟩:=MX.out.rows.sp;have HN5:Hid (V5.sp.n=k5):=dD<|by rw[z1.n,z2,HL5.out]
 obtain⟨ht,HHT⟩:∃ht,Hid (wr.heap.size=ht):=⟨_,rfl⟩;have HBT:Hid (b<ht):=dD<|by rw[<-HHT.out];exact MX.out.box.box.lt
 have HXT:Hid (w.heap.size<ht):=dD<|by rw[<-HHT.out];exact XX.out.box.lt
 have HZ1:Hid (∀g,(Value.slice V5.sp.a V5.sp.n V5.sp.c).ownBlock=some g->g<ht):=dD<|fun g hg=>by rw[<-HHT.out];exact(z1.lt g hg).2
 have NX:Hid (ziQ w wr b vl5 L5 [.slice V5.f.a V5.f.n V5.f.c,.int .i64 m5.hand,.slice V5.s.a V5.s.n V5.s.c,.slice V5.sb.a V5.sb.n V5.sb.c,.slice V5.sq.a V5.sq.n V5.sq.c,.slice V5.db.a V5.db.n V5.db.c,.slice V5.dq.a V5.dq.n V5.dq.c,.slice V5.fl.a V5.fl.n V5.fl.c,.int .i64 m5.cnt,.slice V5.ca.a V5.ca.n V5.ca.c,.slice V5.sp.a V5.sp.n V5.sp.c,.slice vt5.a vt5.n vt5.c]):=MX.out.nums;have TX:Hid (MkT w.heap.size hi ht 0 wr V5 m5 vt5 T5):=MX.out.rows.start ht HHT.out;have HTL:Hid (T5.length=k5):=show _=_ by rw[BX5.out.tl,HL5.out]
 have HK:Hid (∀(p:Nat) f,T5[p]? =some f->∀e∈tab f,0<=e.kind):=dD<|fun p f hf e he=>by
  obtain⟨j,hj⟩:=List.getElem?_of_mem he;have hj64:j<64:=by have:=(gS.1 hj).1;rw[Qb]at this;exact this
  rw[QU hj64]at hj;cases hj;have hp:p<m5.sp.length:=by rw[<-BX5.out.tl];exact(gS.1 hf).1
  rcases BX5.out.ent p _ f (gE hp) hf j hj64 with e|e
  ·rw[e];decide
  by_cases hk:(f j).kind=2
  ·omega
  have:=(qk e hk).1;omega
 have x11:=MX.out.box.box.c 11 rfl;rw[HN5.out]at x11;clear z1 z2 ys0;go_wp2;clear x11
 go_loopg [200] k5 (fun gg s200 wr=>∃p:Nat,p<=k5/\k5 - p<=gg/\s200= .int .i64 p/\Hid (MkT w.heap.size hi ht p wr V5 m5 vt5 T5)/\Hid (ziQ w wr b vl5 L5 [.slice V5.f.a V5.f.n V5.f.c,.int .i64 m5.hand,.slice V5.s.a V5.s.n V5.s.c,.slice V5.sb.a V5.sb.n V5.sb.c,.slice V5.sq.a V5.sq.n V5.sq.c,.slice V5.db.a V5.db.n V5.db.c,.slice V5.dq.a V5.dq.n V5.dq.c,.slice V5.fl.a V5.fl.n V5.fl.c,.int .i64 m5.cnt,.slice V5.ca.a V5.ca.n V5.ca.c,.slice V5.sp.a V5.sp.n V5.sp.c,.slice vt5.a vt5.n vt5.c])/\Hid (zp wr w.heap.size 41 [.slice none 0 0,.int .i64 0,.slice none 0 0,.slice none 0 0,.slice none 0 0,.slice none 0 0,.slice none 0 0,.slice none 0 0,.int .i64 0,.slice none 0 0,.slice none 0 0])/\Hid (ht<=wr.heap.size))
 case atStart=>exact⟨0,nZ _,by omega,rfl,TX.out,NX.out,XX.out,(show _<=_ by rw[HHT.out];exact nR _)⟩
 obtain⟨p,hp,hg6,rfl,TW,NW,XW,HW⟩:=hrel
 by_cases hlt6:p<k5
 ·have hltz6:(p:Int)< (k5:Int):=by omega
  obtain⟨f,HF⟩:∃f,Hid (T5[p]? =some f):=⟨_,gE (by rw[HTL.out];exact hlt6)⟩
  obtain⟨ys,s1,s2,s3⟩:=TW.out.sp;have hyl:ys.length=k5:=by rw[s2,HL5.out]
  obtain⟨x,HX⟩:∃x,Hid (ys[p]? =some x):=⟨_,gE (by omega)⟩
  obtain⟨gs,cs,hse⟩:=s1.formS (by omega)
  rw[hyl]at hse;have HSE:Hid (Value.slice V5.sp.a V5.sp.n V5.sp.c=(.slice (some ⟨gs,0,none⟩) k5 cs)):=hse;obtain⟨gt,ct,hte⟩:=TW.out.tt.formS (by rw[HTL.out];omega)
  rw[HTL.out]at hte;have HTE:Hid (Value.slice vt5.a vt5.n vt5.c=(.slice (some ⟨gt,0,none⟩) k5 ct)):=hte;have S1:Hid (zb Zx w.heap.size wr (.slice (some ⟨gs,0,none⟩) k5 cs) ys):=show zb _ _ _ _ _ by rw[<-HSE.out];exact s1
  have R1:Hid (zb Qo w.heap.size wr (.slice (some ⟨gt,0,none⟩) k5 ct) T5):=dD<|by rw[<-HTE.out];exact TW.out.tt
  have S2:Hid (ys.length=m5.sp.length):=s2;have S3:Hid (∀(i:Nat) x s f,ys[i]? =some x->m5.sp[i]? =some s->T5[i]? =some f->x.live=s.live/\zb arE w.heap.size wr x.ar.v s.ars/\(i<p->Js 0 ht wr x.tab (Ze f))/\(p<=i->x.tab=zao)):=show∀i,_ from s3
  clear s1 s2 s3 hse hte hyl;go_upto_region 43 with fail;obtain⟨I,HI⟩:∃I:World->Prop,Hid (∀u,I u↔zc wr u):=⟨fun u=>zc wr u,fun _=>Iff.rfl⟩
  have hI0:I wr.drew:=(HI.out _).2 (gW _)
  have hx11:∀y:zj I,y.world.cell? ⟨b,11,none⟩=some (.slice (some ⟨gs,0,none⟩) k5 cs):=fun y=>by
   have:=(NW.out.box.box.grew ((HI.out _).1 y.holds)).c 11 rfl;rw[HSE.out]at this;exact this
  have hx12:∀y:zj I,y.world.cell? ⟨b,12,none⟩=some (.slice (some ⟨gt,0,none⟩) k5 ct):=fun y=>by
   have:=(NW.out.box.box.grew ((HI.out _).1 y.holds)).c 12 rfl;rw[HTE.out]at this;exact this
  have hne:Nonempty (zj I):=⟨⟨_,hI0⟩⟩;refine zL (I:=I) 16 [(13,fun v=>∃us:List Value,v= .agg us.toArray)] (fun _=>True) hI0 trivial qn (by kernel_rfl) rfl rfl (by decide) ?hS (by kernel_rfl) ?_
  case hS=>
   intro x hx;simp only[mC,nM,or_false]at hx;subst hx;exact⟨_,[],rfl⟩
  simp only[List.take,List.drop];iterate 1 (refine zg rfl rfl rfl (fun K hK=>?_);go_big_quiet_op;refine hK _ ?_;clear hK)
  refine zM (.tmp 203) ⟨b,0,none⟩ rfl rfl rfl rfl ?_;simp only[Act.put,sB,sS,sZ];iterate 5 (refine zg rfl rfl rfl (fun K hK=>?_);go_big_quiet_op;refine hK _ ?_;clear hK)
  refine zM (.tmp 209) ⟨b,0,none⟩ rfl rfl rfl rfl ?_;simp only[Act.put,sB,sS,sZ];iterate 4 (refine zg rfl rfl rfl (fun K hK=>?_);go_big_quiet_op;refine hK _ ?_;clear hK)
  refine zjx (.agg (jc (tab f)).toArray) rfl rfl (fun u hu=>zeV (.tmp 214) rfl gt (p*192) rfl ((R1.out.grew ((HI.out _).1 hu)).range HF.out) (by rw[zav,Qb])) ?_
  simp only[Act.put,sB,sS,sZ];refine zW rfl rfl (fun v u=>∃us:List Value,v= .agg us.toArray/\Js 0 ht u us (Ze f)) (fun w' hI' _=>?_) (fun v1 hv=>?_)
  ·refine zK.call [.agg (jc (tab f)).toArray] rfl func42 rfl rfl rfl ?_;refine(zeQ (tab f) w' (Qb f) (HK.out p f HF.out)).mono ?_;rintro e w'' ⟨us,rfl,ht1,ht2⟩;exact⟨_,rfl,(HI.out _).2 (((HI.out _).1 hI').trans ht2),⟨us,rfl⟩,us,rfl,ht1.less (nR _) (nT HW.out (bS ((HI.out _).1 hI')))⟩
  obtain⟨us,rfl⟩:=hv;simp only[Act.put,sB,sS,sZ];iterate 2 (refine zg rfl rfl rfl (fun K hK=>?_);go_big_quiet_op;refine hK _ ?_;clear hK)
  refine qI fun W1 hI1 hF1=>?_
  obtain⟨us',hus,ht1⟩:=hF1;have hue:us=us':=by
   simp only[Value.agg.injEq]at hus
   simpa using congrArg Array.toList hus
  subst hue;obtain⟨t0,t1,t2,t3,t4,t5,t6,t7,rfl⟩:=zhx ht1;have g1:=(HI.out _).1 hI1;have T1:Hid (Js 0 ht W1 [t0.v,t1.v,t2.v,t3.v,t4.v,t5.v,t6.v,t7.v] (Ze f)):=ht1;have G1:Hid (zc wr W1):=g1;clear hus ht1 g1 hI1 hI0 hx11 hx12 hne;refine zt (E:=Zx) rfl (.tmp 218) (.tmp 216) 61 rfl w.heap.size _ ys (S1.out.grew G1.out) gs p 2 rfl x ⟨x.live,x.ar,t0,t1,t2,t3,t4,t5,t6,t7⟩ HX.out [t0.v,t1.v,t2.v,t3.v,t4.v,t5.v,t6.v,t7.v] (by kernel_rfl) rfl (by show 2+8<=10;omega) (fun u hu=>by simp only[mC,nM,or_false]at hu;rcases hu with rfl | rfl | rfl | rfl | rfl | rfl | rfl | rfl <;> rfl) _ rfl (by first | rfl | simp) _ rfl rfl ?_
  intro W2 ow2 gr2 sz2;obtain⟨cs',hcs⟩:=(S1.out.grew G1.out).obj (g:=gs) rfl;have hgl:gs<ht:=HZ1.out gs (by rw[HSE.out];rfl)
  have T2:Hid (MkT w.heap.size hi ht (p+1) W2 V5 m5 vt5 T5):=(TW.out.grew G1.out).table S2.out (fun i x s f hx hs hf=>by
   obtain⟨a1,a2,a3,a4⟩:=S3.out i x s f hx hs hf;exact⟨a1,a2.grew G1.out,fun e=>(a3 e).grew G1.out,a4⟩) hcs hgl gr2 HX.out HF.out (y:=⟨x.live,x.ar,t0,t1,t2,t3,t4,t5,t6,t7⟩) ⟨rfl,rfl⟩ (T1.out.out (Out.grown gr2 (fun g e=>by cases e;exact⟨nZ _,hgl⟩))) (by rw[HSE.out];exact ow2)
  have N2:Hid (ziQ w W2 b vl5 L5 [.slice V5.f.a V5.f.n V5.f.c,.int .i64 m5.hand,.slice V5.s.a V5.s.n V5.s.c,.slice V5.sb.a V5.sb.n V5.sb.c,.slice V5.sq.a V5.sq.n V5.sq.c,.slice V5.db.a V5.db.n V5.db.c,.slice V5.dq.a V5.dq.n V5.dq.c,.slice V5.fl.a V5.fl.n V5.fl.c,.int .i64 m5.cnt,.slice V5.ca.a V5.ca.n V5.ca.c,.slice V5.sp.a V5.sp.n V5.sp.c,.slice vt5.a vt5.n vt5.c]):=dD<|⟨ze (NW.out.gr.trans G1.out) gr2 ((S1.out.grew G1.out).lt gs rfl).1,NW.out.hb,(NW.out.box.grew G1.out).beside gr2 (fun g e=>by cases e;exact(S1.out.grew G1.out).ne (NW.out.box.grew G1.out) (by decide) gs rfl),NW.out.lr,NW.out.lc,NW.out.lb⟩
  have X2:Hid (zp W2 w.heap.size 41 [.slice none 0 0,.int .i64 0,.slice none 0 0,.slice none 0 0,.slice none 0 0,.slice none 0 0,.slice none 0 0,.slice none 0 0,.int .i64 0,.slice none 0 0,.slice none 0 0]):=(XW.out.grew G1.out).beside gr2 (fun g e=>by cases e;exact(S1.out.grew G1.out).ne (XW.out.grew G1.out) (by decide) gs rfl)
  have H2:Hid (ht<=W2.heap.size):=dD<|by rw[sz2];exact nT HW.out (bS G1.out)
  clear ow2 gr2 sz2 hcs hgl;go_wp2
  go_roundg (k5 -(p+1))
  case measure=>omega
  exact⟨p+1,by omega,by omega,by go_num,T2.out,N2.out,X2.out,H2.out⟩
 have hltz6:¬(p:Int)< (k5:Int):=by omega
 obtain rfl:k5=p:=by omega
 have HSPL:Hid (1<=m5.sp.length/\m5.sp.length<=2):=dD<|by rw[HL5.out];omega
 by_cases h0:0<nf
 ·have h0d:decide ((0:Int)< (nf:Int))=true:=by simp;omega
  have hpk:=zi6 (nf:Int) NW.out;go_wp2_with fail;refine hpk.mono ?_;clear hpk;rintro e W20 ⟨vl20,L20,y,rfl,nm20,gr20,-,y0,y1,yn,-⟩;have T20:Hid (MkT w.heap.size hi ht k5 W20 V5 m5 vt5 T5):=TW.out.other gr20 NW.out.box HBT.out (.inl rfl);have X20:Hid (zp W20 w.heap.size 41 [.slice none 0 0,.int .i64 0,.slice none 0 0,.slice none 0 0,.slice none 0 0,.slice none 0 0,.slice none 0 0,.slice none 0 0,.int .i64 0,.slice none 0 0,.slice none 0 0]):=XW.out.kind gr20 NW.out.box (by decide)
  have N20:Hid (ziQ w W20 b vl20 L20 [.slice V5.f.a V5.f.n V5.f.c,.int .i64 m5.hand,.slice V5.s.a V5.s.n V5.s.c,.slice V5.sb.a V5.sb.n V5.sb.c,.slice V5.sq.a V5.sq.n V5.sq.c,.slice V5.db.a V5.db.n V5.db.c,.slice V5.dq.a V5.dq.n V5.dq.c,.slice V5.fl.a V5.fl.n V5.fl.c,.int .i64 m5.cnt,.slice V5.ca.a V5.ca.n V5.ca.c,.slice V5.sp.a V5.sp.n V5.sp.c,.slice vt5.a vt5.n vt5.c]):=nm20;have HY:Hid (0<=y/\y<max (m5.fs.length:Int) 1):=show _/\_ from⟨y0,by rw[S5.out.2.2.2.1];omega⟩
  have HY0:Hid (L=[]->y=0):=dD<|fun e=>yn (LX.out e)
  clear nm20 gr20 y0 y1 yn;have x2:=N20.out.box.box.c 2 rfl;have xf:=N20.out.box.box.f;go_upto_region 47 with fail;clear x2 xf;obtain⟨W21,hW21⟩:∃W21,W20.setCell ⟨b,2,none⟩ (.int .i64 y)=W21:=⟨_,rfl⟩;have hg21:W20.grownBy W21 (some b):=by rw[<-hW21];exact qY _ _ _ _
  have B21:Hid (zp W21 b 95 [.slice vl20.a vl20.n vl20.c,.slice V5.f.a V5.f.n V5.f.c,.int .i64 y,.slice V5.s.a V5.s.n V5.s.c,.slice V5.sb.a V5.sb.n V5.sb.c,.slice V5.sq.a V5.sq.n V5.sq.c,.slice V5.db.a V5.db.n V5.db.c,.slice V5.dq.a V5.dq.n V5.dq.c,.slice V5.fl.a V5.fl.n V5.fl.c,.int .i64 m5.cnt,.slice V5.ca.a V5.ca.n V5.ca.c,.slice V5.sp.a V5.sp.n V5.sp.c,.slice vt5.a vt5.n vt5.c]):=dD<|by rw[<-hW21];exact N20.out.box.set 2 _
  have T21:Hid (MkT w.heap.size hi ht k5 W21 V5 m5 vt5 T5):=T20.out.other hg21 N20.out.box HBT.out (.inl rfl);have X21:Hid (zp W21 w.heap.size 41 [.slice none 0 0,.int .i64 0,.slice none 0 0,.slice none 0 0,.slice none 0 0,.slice none 0 0,.slice none 0 0,.slice none 0 0,.int .i64 0,.slice none 0 0,.slice none 0 0]):=X20.out.kind hg21 N20.out.box (by decide)
  have G21:Hid (zc w W21):=ze N20.out.gr hg21 N20.out.hb;rw[hW21];clear hW21 hg21;have c1:=B21.out.box.c 1 rfl;have c2:=B21.out.box.c 2 rfl;have c3:=B21.out.box.c 3 rfl;have c4:=B21.out.box.c 4 rfl;have c5:=B21.out.box.c 5 rfl;have c6:=B21.out.box.c 6 rfl;have c7:=B21.out.box.c 7 rfl;have c8:=B21.out.box.c 8 rfl;have c9:=B21.out.box.c 9 rfl;have c10:=B21.out.box.c 10 rfl;have c11:=B21.out.box.c 11 rfl
  go_wp2_with (refine qe rfl 41 (.tmp 8) (.tmp 233) rfl w.heap.size rfl [.slice V5.f.a V5.f.n V5.f.c,.int .i64 y,.slice V5.s.a V5.s.n V5.s.c,.slice V5.sb.a V5.sb.n V5.sb.c,.slice V5.sq.a V5.sq.n V5.sq.c,.slice V5.db.a V5.db.n V5.db.c,.slice V5.dq.a V5.dq.n V5.dq.c,.slice V5.fl.a V5.fl.n V5.fl.c,.int .i64 m5.cnt,.slice V5.ca.a V5.ca.n V5.ca.c,.slice V5.sp.a V5.sp.n V5.sp.c] rfl X21.out rfl zl7 (fun v hv=>by simp only[mC,nM,or_false]at hv;rcases hv with rfl | rfl | rfl | rfl | rfl | rfl | rfl | rfl | rfl | rfl | rfl <;> rfl) ?_)
  intro W22 hb22 hg22 _;have HRS:Hid (ziL w nf ns nb L W22 V5 m5 T5 y hi ht vt5):=dD<|⟨ze G21.out hg22 (nR _),by rw[HL5.out];exact T21.out.other hg22 X21.out HXT.out (.inr rfl),BX5.out,HY.out,S5.out.2.1,S5.out.2.2.2.2,HSPL.out,S5.out.2.2.2.1,fun e=>by obtain⟨a1,a2⟩:=E5.out e;have h1:=HN1.out e;have h2:k5=1:=(by omega);rw[h2]at a1 a2;exact⟨a1,a2,HY0.out e⟩⟩
  have B22:Hid (Box W22 w.heap.size [.slice V5.f.a V5.f.n V5.f.c,.int .i64 y,.slice V5.s.a V5.s.n V5.s.c,.slice V5.sb.a V5.sb.n V5.sb.c,.slice V5.sq.a V5.sq.n V5.sq.c,.slice V5.db.a V5.db.n V5.db.c,.slice V5.dq.a V5.dq.n V5.dq.c,.slice V5.fl.a V5.fl.n V5.fl.c,.int .i64 m5.cnt,.slice V5.ca.a V5.ca.n V5.ca.c,.slice V5.sp.a V5.sp.n V5.sp.c]):=hb22.box;clear hb22 hg22;clear c1 c2 c3 c4 c5 c6 c7 c8 c9 c10 c11;go_wp2;refine bodyPost_ret (zY rfl _ rfl B22.out underlying41 rfl zl7) rfl ⟨V5,m5,T5,y,hi,ht,vt5,rfl,HRS.out⟩
 have h0d:decide ((0:Int)< (nf:Int))=false:=by simp;omega
 have B21:Hid (zp wr b 95 [.slice vl5.a vl5.n vl5.c,.slice V5.f.a V5.f.n V5.f.c,.int .i64 0,.slice V5.s.a V5.s.n V5.s.c,.slice V5.sb.a V5.sb.n V5.sb.c,.slice V5.sq.a V5.sq.n V5.sq.c,.slice V5.db.a V5.db.n V5.db.c,.slice V5.dq.a V5.dq.n V5.dq.c,.slice V5.fl.a V5.fl.n V5.fl.c,.int .i64 m5.cnt,.slice V5.ca.a V5.ca.n V5.ca.c,.slice V5.sp.a V5.sp.n V5.sp.c,.slice vt5.a vt5.n vt5.c]):=dD<|by have:=NW.out.box;rw[S5.out.2.2.1]at this;exact this
 have G21:Hid (zc w wr):=NW.out.gr;have HY:Hid ((0:Int)<=0/\(0:Int)<max (m5.fs.length:Int) 1):=show _/\_ from⟨Int.le_refl _,by omega⟩
 have c1:=B21.out.box.c 1 rfl;have c2:=B21.out.box.c 2 rfl;have c3:=B21.out.box.c 3 rfl;have c4:=B21.out.box.c 4 rfl;have c5:=B21.out.box.c 5 rfl;have c6:=B21.out.box.c 6 rfl;have c7:=B21.out.box.c 7 rfl;have c8:=B21.out.box.c 8 rfl;have c9:=B21.out.box.c 9 rfl;have c10:=B21.out.box.c 10 rfl;have c11:=B21.out.box.c 11 rfl
 go_wp2_with (refine qe rfl 41 (.tmp 8) (.tmp 233) rfl w.heap.size rfl [.slice V5.f.a V5.f.n V5.f.c,.int .i64 0,.slice V5.s.a V5.s.n V5.s.c,.slice V5.sb.a V5.sb.n V5.sb.c,.slice V5.sq.a V5.sq.n V5.sq.c,.slice V5.db.a V5.db.n V5.db.c,.slice V5.dq.a V5.dq.n V5.dq.c,.slice V5.fl.a V5.fl.n V5.fl.c,.int .i64 m5.cnt,.slice V5.ca.a V5.ca.n V5.ca.c,.slice V5.sp.a V5.sp.n V5.sp.c] rfl XW.out rfl zl7 (fun v hv=>by simp only[mC,nM,or_false]at hv;rcases hv with rfl | rfl | rfl | rfl | rfl | rfl | rfl | rfl | rfl | rfl | rfl <;> rfl) ?_)
 intro W22 hb22 hg22 _;have HRS:Hid (ziL w nf ns nb L W22 V5 m5 T5 0 hi ht vt5):=dD<|⟨ze G21.out hg22 (nR _),by rw[HL5.out];exact TW.out.other hg22 XW.out HXT.out (.inr rfl),BX5.out,HY.out,S5.out.2.1,S5.out.2.2.2.2,HSPL.out,S5.out.2.2.2.1,fun e=>by obtain⟨a1,a2⟩:=E5.out e;have h1:=HN1.out e;have h2:k5=1:=(by omega);rw[h2]at a1 a2;exact⟨a1,a2,rfl⟩⟩
 have B22:Hid (Box W22 w.heap.size [.slice V5.f.a V5.f.n V5.f.c,.int .i64 0,.slice V5.s.a V5.s.n V5.s.c,.slice V5.sb.a V5.sb.n V5.sb.c,.slice V5.sq.a V5.sq.n V5.sq.c,.slice V5.db.a V5.db.n V5.db.c,.slice V5.dq.a V5.dq.n V5.dq.c,.slice V5.fl.a V5.fl.n V5.fl.c,.int .i64 m5.cnt,.slice V5.ca.a V5.ca.n V5.ca.c,.slice V5.sp.a V5.sp.n V5.sp.c]):=hb22.box;clear hb22 hg22;clear c1 c2 c3 c4 c5 c6 c7 c8 c9 c10 c11;go_wp2;refine bodyPost_ret (zY rfl _ rfl B22.out underlying41 rfl zl7) rfl ⟨V5,m5,T5,0,hi,ht,vt5,rfl,HRS.out⟩
theorem ziL.at {w:World} {nf ns nb ht:Nat} {hd:Int} (h:ziL w nf ns nb L w' V m T hd hi ht vt):zD w' V (jI m T hd)/\maW (jI m T hd)=0:=⟨h.rows.mach h.inv.tl hd,h.inv.right h.hand.1 h.hand.2⟩
theorem zhX (h:maW m=0):zca m=0:=by
 unfold maW at h;rw[zH]at h;exact h _ (by simp)
theorem zlz (h:maW m=0) {f:Fl} (hf:m.fl[fi]? =some f):(0<=f.size/\f.size<=96)/\(f.bl.length:Int)=Jr f.size:=by
 have h1:=zhX h;unfold zca at h1;rw[zH]at h1;have h2:=((qg _ _).1 (h1 (stW m.fl m.cnt) (by simp))).2.1 f (mG hf)
 exact⟨h2.1,h2.2.1⟩
theorem zko {α:Type} (E:Elt α) (w:World):zr E w (.slice none 0 0) ([]:List α):=(zb.nil E 0 w).at
theorem zgj:Ze (fun _=>en0)=qN:=by kernel_rfl
theorem zjQ {F S B:Int} (h:zkd F S B):jI (zdT F.toNat S.toNat B.toNat 1) [fun _=>en0] 0=zap F S B:=by
 unfold jI zdT zap;simp only[List.replicate_one,List.zipWith_cons_cons,List.zipWith_nil_left,zgj]
 congr 1
 unfold zkd at h;omega
def nm2:Ma:=zap 2 2 2
def sp2:Sp:=⟨true,[],qN⟩
theorem zg7 (w:World):Calls prog 13 #[.int .i64 2,.int .i64 2,.int .i64 2,.slice none 0 0] w fun e w'=>(∃V:MaV,e= .returned (.agg #[.slice V.f.a V.f.n V.f.c,.int .i64 0,.slice V.s.a V.s.n V.s.c,.slice V.sb.a V.sb.n V.sb.c,.slice V.sq.a V.sq.n V.sq.c,.slice V.db.a V.db.n V.db.c,.slice V.dq.a V.dq.n V.dq.c,.slice V.fl.a V.fl.n V.fl.c,.int .i64 2,.slice V.ca.a V.ca.n V.ca.c,.slice V.sp.a V.sp.n V.sp.c])/\zD w' V nm2)/\Rt nm2/\zc w w':=by
 refine(zew 2 2 2 2 2 2 (by decide) (by decide) (by decide) zu [] w (zko _ _) (nR _) (by simp)).mono ?_
 rintro e w' ⟨V2,m2,T2,hd2,hi2,ht2,vt2,rfl,hbt⟩;obtain⟨e1,e2,e3⟩:=hbt.new rfl;have hat:=hbt.at;have hf:jI (zdT 2 2 2 1) [fun _=>en0] 0=nm2:=zjQ (F:=2) (S:=2) (B:=2) (by unfold zkd;omega)
 rw[e1,e2,e3,hf]at hat;have hc:m2.cnt=2:=by rw[e1];rfl
 refine⟨⟨V2,by rw[hc,e3],hat.1⟩,⟨hat.2,fun s hs=>?_⟩,hbt.gr⟩
 have:s=sp2:=by
  have hs:s∈[sp2]:=hs
  simpa using hs
 rw[this];rfl
theorem zkq:zhO nm2.fs nm2.hand=-1/\(zjh nm2).fs.length=2/\Qn nm2.fs nm2.hand=0:=⟨by kernel_rfl,by kernel_rfl,by kernel_rfl⟩
theorem zfw (w:World):Calls prog 26 #[] w fun e w'=>e= .returned (.bool true)/\zc w w':=by
 have hbu:=zg7 w
 go_enter func26,ntmps26
 go_wp2_with fail;refine hbu.mono ?_;clear hbu;rintro e W1 ⟨⟨V,rfl,hm⟩,hrt,g1⟩;have G1:Hid (zc w W1):=g1;have M1:Hid (zD W1 V nm2):=hm;have HR:Hid (Rt nm2):=hrt;clear g1 hm hrt;go_upto_region 2 with fail;obtain⟨b,HB⟩:∃b,Hid (W1.heap.size=b):=⟨_,rfl⟩;obtain⟨W2,hW2⟩:∃W2,W1.alloc (.cells #[.slice V.f.a V.f.n V.f.c,.int .i64 0,.slice V.s.a V.s.n V.s.c,.slice V.sb.a V.sb.n V.sb.c,.slice V.sq.a V.sq.n V.sq.c,.slice V.db.a V.db.n V.db.c,.slice V.dq.a V.dq.n V.dq.c,.slice V.fl.a V.fl.n V.fl.c,.int .i64 2,.slice V.ca.a V.ca.n V.ca.c,.slice V.sp.a V.sp.n V.sp.c] 41)=W2:=⟨_,rfl⟩;have g2:=gP hW2
 have X2:=xPT hW2 HB
 have G2:=dD (G1.out.trans g2);have M2:=dD (M1.out.grew g2);rw[hW2,HB.out];clear hW2 g2;have hev:Calls prog 28 #[.agg #[.slice V.f.a V.f.n V.f.c,.int .i64 0,.slice V.s.a V.s.n V.s.c,.slice V.sb.a V.sb.n V.sb.c,.slice V.sq.a V.sq.n V.sq.c,.slice V.db.a V.db.n V.db.c,.slice V.dq.a V.dq.n V.dq.c,.slice V.fl.a V.fl.n V.fl.c,.int .i64 2,.slice V.ca.a V.ca.n V.ca.c,.slice V.sp.a V.sp.n V.sp.c]] W2 fun e w'=>(∃(bo:Bool) (m':Ma) (V':MaV),(bo=false/\m'.fs.length=2)/\e= .returned (.tuple #[.agg #[.slice V'.f.a V'.f.n V'.f.c,.int .i64 m'.hand,.slice V'.s.a V'.s.n V'.s.c,.slice V'.sb.a V'.sb.n V'.sb.c,.slice V'.sq.a V'.sq.n V'.sq.c,.slice V'.db.a V'.db.n V'.db.c,.slice V'.dq.a V'.dq.n V'.dq.c,.slice V'.fl.a V'.fl.n V'.fl.c,.int .i64 m'.cnt,.slice V'.ca.a V'.ca.n V'.ca.c,.slice V'.sp.a V'.sp.n V'.sp.c],.bool bo,.int .i64 0])/\zD w' V' m')/\zc W2 w':=zgU V nm2 W2 M2.out HR.out.w (fun bo m'=>bo=false/\m'.fs.length=2) (fun w0 W p V1 hc=>(zfk hc zkq.2.2 zkq.1 (by decide) (by decide) _).mono (by
  rintro e w' ⟨rfl,h⟩;exact⟨false,zjh nm2,rfl,⟨rfl,zkq.2.1⟩,h⟩))
 obtain⟨x0,x1,x2,x3,x4,x5,x6,x7,x8,x9,x10⟩:=X2.out.box.c11;go_wp2_with fail;refine hev.mono ?_;clear hev x0 x1 x2 x3 x4 x5 x6 x7 x8 x9 x10;rintro e W3 ⟨⟨bo,m3,V3,⟨rfl,hl3⟩,rfl,hm3⟩,g3⟩;obtain⟨n3,-⟩:=hm3.ns;have HN3:Hid (V3.f.n=2):=dD<|by rw[n3,hl3]
 clear n3 hl3 hm3;go_upto_region 3 with fail;obtain⟨c,HC⟩:∃c,Hid (W3.heap.size=c):=⟨_,rfl⟩;obtain⟨W4,hW4⟩:∃W4,W3.alloc (.cells #[.slice V3.f.a V3.f.n V3.f.c,.int .i64 m3.hand,.slice V3.s.a V3.s.n V3.s.c,.slice V3.sb.a V3.sb.n V3.sb.c,.slice V3.sq.a V3.sq.n V3.sq.c,.slice V3.db.a V3.db.n V3.db.c,.slice V3.dq.a V3.dq.n V3.dq.c,.slice V3.fl.a V3.fl.n V3.fl.c,.int .i64 m3.cnt,.slice V3.ca.a V3.ca.n V3.ca.c,.slice V3.sp.a V3.sp.n V3.sp.c] 41)=W4:=⟨_,rfl⟩;have g4:=gP hW4
 have Y4:=xPT hW4 HC
 have X4:=dD (X2.out.grew (g3.trans g4));have G4:=dD (G2.out.trans (g3.trans g4));have M4:=dD (M2.out.grew (g3.trans g4));rw[hW4,HC.out];clear hW4 g3 g4;have hcl:Calls prog 30 #[.agg #[.slice V.f.a V.f.n V.f.c,.int .i64 0,.slice V.s.a V.s.n V.s.c,.slice V.sb.a V.sb.n V.sb.c,.slice V.sq.a V.sq.n V.sq.c,.slice V.db.a V.db.n V.db.c,.slice V.dq.a V.dq.n V.dq.c,.slice V.fl.a V.fl.n V.fl.c,.int .i64 2,.slice V.ca.a V.ca.n V.ca.c,.slice V.sp.a V.sp.n V.sp.c]] W4 fun e w'=>(∃V':MaV,e= .returned (.tuple #[.agg #[.slice V'.f.a V'.f.n V'.f.c,.int .i64 0,.slice V'.s.a V'.s.n V'.s.c,.slice V'.sb.a V'.sb.n V'.sb.c,.slice V'.sq.a V'.sq.n V'.sq.c,.slice V'.db.a V'.db.n V'.db.c,.slice V'.dq.a V'.dq.n V'.dq.c,.slice V'.fl.a V'.fl.n V'.fl.c,.int .i64 2,.slice V'.ca.a V'.ca.n V'.ca.c,.slice V'.sp.a V'.sp.n V'.sp.c],.bool false,.int .i64 0])/\zD w' V' nm2)/\zc W4 w':=zg0 V nm2 W4 M4.out HR.out.w rfl
 obtain⟨x0,x1,x2,x3,x4,x5,x6,x7,x8,x9,x10⟩:=X4.out.box.c11;go_wp2_with fail;refine hcl.mono ?_;clear hcl x0 x1 x2 x3 x4 x5 x6 x7 x8 x9 x10;rintro e W5 ⟨⟨V5,rfl,hm5⟩,g5⟩;obtain⟨-,n5,-⟩:=hm5.ns;have HN5:Hid (V5.s.n=2):=n5;clear n5 hm5;go_upto_region 4 with fail;obtain⟨d,HD⟩:∃d,Hid (W5.heap.size=d):=⟨_,rfl⟩;obtain⟨W6,hW6⟩:∃W6,W5.alloc (.cells #[.slice V5.f.a V5.f.n V5.f.c,.int .i64 0,.slice V5.s.a V5.s.n V5.s.c,.slice V5.sb.a V5.sb.n V5.sb.c,.slice V5.sq.a V5.sq.n V5.sq.c,.slice V5.db.a V5.db.n V5.db.c,.slice V5.dq.a V5.dq.n V5.dq.c,.slice V5.fl.a V5.fl.n V5.fl.c,.int .i64 2,.slice V5.ca.a V5.ca.n V5.ca.c,.slice V5.sp.a V5.sp.n V5.sp.c] 41)=W6:=⟨_,rfl⟩;have g6:=gP hW6
 have D6:=xPT hW6 HD
 have Y6:=dD (Y4.out.grew (g5.trans g6));have X6:=dD (X4.out.grew (g5.trans g6));have G6:=dD (G4.out.trans (g5.trans g6));have M6:=dD (M4.out.grew (g5.trans g6));rw[hW6,HD.out];clear hW6 g5 g6;have hcr:Calls prog 35 #[.agg #[.slice V.f.a V.f.n V.f.c,.int .i64 0,.slice V.s.a V.s.n V.s.c,.slice V.sb.a V.sb.n V.sb.c,.slice V.sq.a V.sq.n V.sq.c,.slice V.db.a V.db.n V.db.c,.slice V.dq.a V.dq.n V.dq.c,.slice V.fl.a V.fl.n V.fl.c,.int .i64 2,.slice V.ca.a V.ca.n V.ca.c,.slice V.sp.a V.sp.n V.sp.c],.int .i64 0] W6 fun e w'=>(∃V':MaV,e= .returned (.tuple #[.agg #[.slice V'.f.a V'.f.n V'.f.c,.int .i64 0,.slice V'.s.a V'.s.n V'.s.c,.slice V'.sb.a V'.sb.n V'.sb.c,.slice V'.sq.a V'.sq.n V'.sq.c,.slice V'.db.a V'.db.n V'.db.c,.slice V'.dq.a V'.dq.n V'.dq.c,.slice V'.fl.a V'.fl.n V'.fl.c,.int .i64 2,.slice V'.ca.a V'.ca.n V'.ca.c,.slice V'.sp.a V'.sp.n V'.sp.c],.int .i64 0])/\zD w' V' (ziu nm2 (zcb (QM 0) nm2.db nm2.dq))/\∃ps,V'.sp=⟨some ⟨ps,0,none⟩,1,1⟩)/\zc W6 w':=zgW V nm2 0 W6 M6.out HR.out
 obtain⟨x0,x1,x2,x3,x4,x5,x6,x7,x8,x9,x10⟩:=X6.out.box.c11;go_wp2_with fail;refine hcr.mono ?_;clear hcr x0 x1 x2 x3 x4 x5 x6 x7 x8 x9 x10;rintro e W7 ⟨⟨V7,rfl,hm7,-⟩,g7⟩;obtain⟨-,-,-,-,n7,-,-,-,o7⟩:=hm7.ns;have HN7:Hid (V7.db.n=2):=dD<|by
  rw[n7]
  show(zcb (QM 0) nm2.db nm2.dq).length=2
  kernel_rfl
 have HO7:Hid (V7.sp.n=1):=o7;clear n7 o7 hm7;go_upto_region 5 with fail;obtain⟨f,HF⟩:∃f,Hid (W7.heap.size=f):=⟨_,rfl⟩;obtain⟨W8,hW8⟩:∃W8,W7.alloc (.cells #[.slice V7.f.a V7.f.n V7.f.c,.int .i64 0,.slice V7.s.a V7.s.n V7.s.c,.slice V7.sb.a V7.sb.n V7.sb.c,.slice V7.sq.a V7.sq.n V7.sq.c,.slice V7.db.a V7.db.n V7.db.c,.slice V7.dq.a V7.dq.n V7.dq.c,.slice V7.fl.a V7.fl.n V7.fl.c,.int .i64 2,.slice V7.ca.a V7.ca.n V7.ca.c,.slice V7.sp.a V7.sp.n V7.sp.c] 41)=W8:=⟨_,rfl⟩;have g8:=gP hW8
 have F8:=xPT hW8 HF
 have D8:=dD (D6.out.grew (g7.trans g8));have Y8:=dD (Y6.out.grew (g7.trans g8));have X8:=dD (X6.out.grew (g7.trans g8));have G8:=dD (G6.out.trans (g7.trans g8));have M8:=dD (M6.out.grew (g7.trans g8));rw[hW8,HF.out];clear hW8 g7 g8;have hsy:Calls prog 31 #[.agg #[.slice V.f.a V.f.n V.f.c,.int .i64 0,.slice V.s.a V.s.n V.s.c,.slice V.sb.a V.sb.n V.sb.c,.slice V.sq.a V.sq.n V.sq.c,.slice V.db.a V.db.n V.db.c,.slice V.dq.a V.dq.n V.dq.c,.slice V.fl.a V.fl.n V.fl.c,.int .i64 2,.slice V.ca.a V.ca.n V.ca.c,.slice V.sp.a V.sp.n V.sp.c],.int .i64 0] W8 fun e w'=>e= .returned (.tuple #[.agg Zc.toArray,.int .i64 5])/\zc W8 w':=zhy V nm2 0 W8 M8.out HR.out.w (.inr (by decide))
 obtain⟨x0,x1,x2,x3,x4,x5,x6,x7,x8,x9,x10⟩:=X8.out.box.c11;go_wp2_with fail;refine hsy.mono ?_;clear hsy x0 x1 x2 x3 x4 x5 x6 x7 x8 x9 x10;rintro e W9 ⟨rfl,g9⟩;unfold Zc;go_upto_region 6 with fail;obtain⟨W10,hW10⟩:∃W10,W9.alloc (.cells #[.slice none 0 0,.int .i64 0,.slice none 0 0,.slice none 0 0,.slice none 0 0,.slice none 0 0,.slice none 0 0,.slice none 0 0,.int .i64 0,.slice none 0 0,.slice none 0 0] 41)=W10:=⟨_,rfl⟩;have g10:=gP hW10
 have G10:=dD (G8.out.trans (g9.trans g10));have y0:=(Y8.out.grew (g9.trans g10)).box.c 0 rfl;have d2:=(D8.out.grew (g9.trans g10)).box.c 2 rfl;have f5:=(F8.out.grew (g9.trans g10)).box.c 5 rfl;have f10:=(F8.out.grew (g9.trans g10)).box.c 10 rfl;rw[HN3.out]at y0;rw[HN5.out]at d2;rw[HN7.out]at f5;rw[HO7.out]at f10;rw[hW10];clear hW10 g9 g10;go_wp2;go_ret;exact⟨rfl,G10.out⟩
def JS (w0:World) (p:Nat) (w:World) (V:MaV) (m':Ma) (w':World):Prop:=∃V':MaV,V'.ca=V.ca/\ChW w0 p w' V' m'/\jv (Dw p V) w w'/\∀k,Dw p V' k->Dw p V k\/w.heap.size<=k
section
variable{w0 w w1 w2:World} {p:Nat} {V V':MaV} {m m':Ma}
theorem JS.refl (h:ChW w0 p w V m) (g:zc w w1):JS w0 p w V m w1:=⟨V,rfl,h.grew g,jv.grew g,fun _ hk=> .inl hk⟩
theorem JS.of_grew (g:zc w w1) (h:JS w0 p w1 V m' w2):JS w0 p w V m' w2:=by
 obtain⟨V2,e,c2,o2,d2⟩:=h;exact⟨V2,e,c2,(jv.grew g).trans o2,Chg.far g d2⟩
theorem JS.step {V1:MaV} (o1:jv (Dw p V) w w1) (d1:∀k,Dw p V1 k->Dw p V k\/w.heap.size<=k) (h1:V1.ca=V.ca) (h2:JS w0 p w1 V1 m' w2):JS w0 p w V m' w2:=by
 obtain⟨V2,e2,c2,o2,d2⟩:=h2;refine⟨V2,e2.trans h1,c2,⟨o2.os.trans o1.os,o2.tape.trans o1.tape,o2.output.trans o1.output,nT o1.size o2.size,fun b hb hn=>(o2.block b (Nat.lt_of_lt_of_le hb o1.size) (fun e=>?_)).trans (o1.block b hb hn)⟩,fun k hk=>?_⟩
 ·rcases d1 b e with e|e
  ·exact hn e
  omega
 rcases d2 k hk with e|e
 ·exact d1 k e
 exact .inr (nT o1.size e)
theorem ChW.fieldC (h:ChW w0 p w V m) (g1:zc w w1) (g2:w1.grownBy w2 (some p)) (hf:V'.f=V.f) (hc:V'.ca=V.ca) (hs:V'.sp=V.sp) (mf:m'.fs=m.fs) (mc:m'.ca=m.ca) (ms:m'.sp=m.sp) (bx:zp w2 p 114 (chL V' m')) (rs:∀W,jv (Dr w0.heap.size p V) w W->jv (Dr w0.heap.size p V) w1 W->zj5 W V m->zj5 W V' m'):JS w0 p w V m' w2:=by
 have o:jv (Dw p V) w w2:=(jv.grew g1).trans (jv.grown g2 (.inl rfl));have hdw:Dw p V'=Dw p V:=by unfold Dw;rw[hf,hc,hs]
 have hdr:Dr w0.heap.size p V'=Dr w0.heap.size p V:=by unfold Dr;rw[hdw]
 obtain⟨xs,s1,s2,s3⟩:=h.sp;refine⟨V',hc,⟨h.grOut o,h.lo,bx,?_,?_,⟨xs,?_,by rw[ms];exact s2,fun i x s hx hs' W hW=>?_⟩,fun W hW=>?_⟩,o,fun k hk=> .inl (by rw[hdw]at hk;exact hk)⟩
 ·rw[hf,mf];exact(h.fs.grew g1).grown g2 (fun g hg e=>h.nf g hg (by cases e;rfl))
 ·rw[hc,mc];exact(h.ca.grew g1).grown g2 (fun g hg e=>h.nc g hg (by cases e;rfl))
 ·rw[hs];exact(s1.grew g1).grown g2 (fun g hg e=>h.ns g hg (by cases e;rfl))
 ·rw[hdr]at hW;rw[ms]at hs';exact s3 i x s hx hs' W ((o.wide fun k hk=> .inr hk).trans hW)
 rw[hdr]at hW;exact rs W ((o.wide fun k hk=> .inr hk).trans hW) (((jv.grown g2 (.inr (.inl rfl)))).trans hW) (h.rest W ((o.wide fun k hk=> .inr hk).trans hW))
theorem ChW.frameC (h:ChW w0 p w V m) {fs:List Fr} {g:Nat} (hg:oB V.f g) (g2:w.grownBy w1 (some g)) (nr:zb QO w0.heap.size w1 (.slice V.f.a V.f.n V.f.c) fs):JS w0 p w V { m with fs:=fs } w1:=by
 have o:jv (Dw p V) w w1:=jv.grown g2 (.inr (.inl hg));have hd:∀k,Dw p V k->Dw p V k\/w.heap.size<=k:=fun _ hk=> .inl hk
 obtain⟨xs,s1,s2,s3⟩:=h.sp;refine⟨V,rfl,⟨h.grOut o,h.lo,h.box.beside g2 (fun k e=>by cases e;exact h.nf g hg),nr,h.ca.grown g2 (fun k hk e=>by cases e;exact h.fc _ hg hk),⟨xs,s1.grown g2 (fun k hk e=>by cases e;exact h.fS _ hg hk),s2,fun i x s hx hs W hW=>s3 i x s hx hs W (ChW.key o hd hW)⟩,fun W hW=>?_⟩,o,hd⟩
 have r:=h.rest W (ChW.key o hd hW);exact⟨r.sl,r.sb,r.sq,r.db,r.dq,r.fl⟩
end
theorem zjf {fs:List Fl} {cnt k:Int} (h:stW fs cnt≠0):ziM fs cnt k=stW fs cnt:=by unfold ziM;rw[if_neg h]
theorem zhK {fs:List Fl} {cnt k:Int} (h:stW fs cnt=0) (h1:¬(0<=k/\k< (fs.length:Int))):ziM fs cnt k=5:=by unfold ziM;rw[if_pos h,if_neg (by rw[Zh];exact h1)]
theorem zc0 {fs:List Fl} {cnt:Int} {f:Fl} (h:stW fs cnt=0) (h1:fs[i]? =some f):ziM fs cnt (i:Int)=0:=by
 have:=(gS.1 h1).1;unfold ziM;rw[if_pos h,if_pos (Zh.2 ⟨by omega,by omega⟩)]
theorem zcq {fs:List Fl} {m:Nat}:qZ fs m=(jW fs (m:Int)).map fun(b:Nat)=>(b:Int):=zgH fs m
theorem zfs (v:Value) (fs:List Fl) (cnt k x:Int) (w:World) (hv:qd w v fs):
  Calls prog 199 #[.agg #[v,.int .i64 cnt],.int .i64 k,.int .i64 x] w fun e w'=>∃b,e= .returned (.tuple #[.agg #[b,.int .i64 (zhi fs cnt k x)],.int .i64 (zft fs cnt k x),.int .i64 (ZM fs cnt k x)])/\qW 0 w.heap.size w' b (zdm fs cnt k x)/\zc w w':=by
 have h1:∀W,zc w W->Calls prog 225 #[.agg #[v,.int .i64 cnt],.int .i64 k] W fun e w'=>e= .returned (.int .i64 (ziM fs cnt k))/\zc W w':=fun W hW=>zdt v fs cnt k W (hv.grew hW)
 have h2:∀W,zc w W->Calls prog 61 #[.agg #[v,.int .i64 cnt]] W fun e w'=>∃b,e= .returned (.agg #[b,.int .i64 cnt])/\qM (W.heap.size+2) w' b fs/\zc W w'/\W.heap.size+2<=w'.heap.size:=fun W hW=>zbp v fs cnt W (hv.grew hW)
 have HV:Hid (qd w v fs):=hv;obtain⟨a,c,rfl,hbig,hrow⟩:=hv.rows;have HR:Hid (Jh w a fs):=hrow;clear hv hrow;obtain⟨nF,HN⟩:∃nF,Hid (fs.length=nF):=⟨_,rfl⟩;rw[HN.out]at h1 h2 hbig HV⊢;obtain⟨W0,hW0⟩:∃W0,(w.alloc (.cells #[.slice a nF c,.int .i64 cnt] 37)).alloc (.cells #[.slice none 0 0,.int .i64 0] 37)=W0:=⟨_,rfl⟩;have HG0:=gD2 hW0
 have X0:=x2a hW0
 have Y0:=x2b hW0
 have HW0:Hid (_=W0):=hW0;clear hW0;have bad:∀z:Int,z≠0->(∀W,zc w W->Calls prog 225 #[.agg #[.slice a nF c,.int .i64 cnt],.int .i64 k] W fun e w'=>e= .returned (.int .i64 z)/\zc W w')->Calls prog 199 #[.agg #[.slice a nF c,.int .i64 cnt],.int .i64 k,.int .i64 x] w fun e w'=>∃b,e= .returned (.tuple #[.agg #[b,.int .i64 0],.int .i64 0,.int .i64 z])/\qW 0 w.heap.size w' b []/\zc w w':=fun z hz h1=>by
  have hzb:(z != 0)=true:=by simpa using hz
  clear h2
  go_enter func199,ntmps199
  go_wp2_with fail;rw[HW0.out];refine(h1 _ HG0.out).mono ?_;rintro e W1 ⟨rfl,g1⟩;have G1:=dD (HG0.out.trans g1);have Y1:=Y0.out.grew g1;have y0:=Y1.c 0 rfl;have y1:=Y1.c 1 rfl;have yf:=Y1.f;clear g1 h1;go_wp2;refine bodyPost_ret (v:= .tuple #[.agg #[.slice none 0 0,.int .i64 0],.int .i64 0,.int .i64 z]) (by simp[results,Tryz.results199,go_sem, *]) rfl ⟨_,rfl,qW.nil _ _ _,?_⟩
  exact Below.setCell (Below.setCell G1.out (p:=⟨w.heap.size+1,0,none⟩) (by simp) _) (p:=⟨w.heap.size+1,1,none⟩) (by simp) _
 rcases ziF fs cnt k x with⟨hw,e1,e2,e3,e4⟩|⟨hw,hk,e1,e2,e3,e4⟩|⟨hw,i,f,rfl,hf,hn,e1,e2,e3,e4⟩|⟨hw,i,f,j,b,rfl,hf,rfl,hj,hb0,hbc,e1,e2,e3,e4⟩|⟨hw,i,f,j,rfl,hf,rfl,hj,hlf,e1,e2,e3,e4⟩|⟨hw,i,f,j,b,l,rfl,hf,rfl,hj,hlf,e1,e2,e3,e4⟩
 ·rw[e1,e2,e3,e4];rw[zjf hw]at h1;exact bad _ hw h1
 ·rw[e1,e2,e3,e4];rw[zhK hw hk]at h1;exact bad _ (by decide) h1
 ·rw[e1,e2,e3,e4];rw[zc0 hw hf]at h1;have hil:i<nF:=by rw[<-HN.out];exact(gS.1 hf).1
  have hilz:(i:Int)< (nF:Int):=by omega
  obtain⟨ad,hada,xa0,xc0,hra,hce⟩:=HR.out i f hf;subst hada;have HCE:Hid (∀W,zc w W->zaC W (ad.add (i*2)) f.size (.slice xa0 f.bl.length xc0)):=hce;clear hce hra bad;obtain⟨nb,HNB⟩:∃nb,Hid (f.bl.length=nb):=⟨_,rfl⟩;have HF:Hid (fs[i]? =some f):=hf;clear hf;rw[HNB.out]at HCE;have hb:=fun W=>zad hn W
  rw[HNB.out]at hb;clear e1 e2 e3 e4 h2 hw hn
  go_enter func199,ntmps199
  go_wp2_with fail;rw[HW0.out];refine(h1 _ HG0.out).mono ?_;rintro e W1 ⟨rfl,g1⟩;have G1:=dD (HG0.out.trans g1);have x0:=(X0.out.grew g1).c 0 rfl;obtain⟨d0,d1⟩:=HCE.out W1 G1.out;have Y1:=Y0.out.grew g1;have y0:=Y1.c 0 rfl;have y1:=Y1.c 1 rfl;have yf:=Y1.f;clear g1 h1
  go_wp2_with (go_at_call 170;refine(hb _).mono ?_;rintro e w' ⟨rfl,hw'⟩;rw[hw'];clear hw' w')
  refine bodyPost_ret (v:= .tuple #[.agg #[.slice none 0 0,.int .i64 0],.int .i64 0,.int .i64 9]) (by simp[results,Tryz.results199,go_sem, *]) rfl ⟨_,rfl,qW.nil _ _ _,?_⟩
  exact Below.setCell (Below.setCell G1.out (p:=⟨w.heap.size+1,0,none⟩) (by simp) _) (p:=⟨w.heap.size+1,1,none⟩) (by simp) _
 ·rw[e1,e2,e3,e4];rw[zc0 hw hf]at h1;have hil:i<nF:=by rw[<-HN.out];exact(gS.1 hf).1
  have hilz:(i:Int)< (nF:Int):=by omega
  obtain⟨ad,hada,xa0,xc0,hra,hce⟩:=HR.out i f hf;subst hada;have HCE:Hid (∀W,zc w W->zaC W (ad.add (i*2)) f.size (.slice xa0 f.bl.length xc0)):=hce;clear hce hra bad;obtain⟨nb,HNB⟩:∃nb,Hid (f.bl.length=nb):=⟨_,rfl⟩;have HF:Hid (fs[i]? =some f):=hf;clear hf;rw[HNB.out]at HCE;have hjl:j<nb:=by rw[<-HNB.out];exact(gS.1 hj).1
  have hjz:(j:Int)< (nb:Int):=by omega
  have hb:=fun W=>j9 (m:=(j:Int)) (n:=(nb:Int)) (by omega) (by omega) W
  have HJ:Hid (f.bl[j]? =some b):=hj;have hbb:(b == -1)=false:=by simp;omega
  clear hb0 hbc;clear e1 e2 e3 e4 hw hj
  go_enter func199,ntmps199
  go_wp2_with fail;rw[HW0.out];refine(h1 _ HG0.out).mono ?_;rintro e W1 ⟨rfl,g1⟩;have G1:=dD (HG0.out.trans g1);have X1:=dD (X0.out.grew g1);have Y1:=dD (Y0.out.grew g1);have x0:=X1.out.c 0 rfl;have x1:=X1.out.c 1 rfl;obtain⟨d0,d1⟩:=HCE.out W1 G1.out;clear g1 h1
  go_wp2_with (go_at_call 170;refine(hb _).mono ?_;rintro e w' ⟨rfl,hw'⟩;rw[hw'];clear hw' w')
  refine(h2 _ G1.out).mono ?_;rintro e W2 ⟨b1,rfl,of2,g2,s2⟩;have HB2:Hid (w.heap.size+2<=W1.heap.size):=Y1.out.lt;obtain⟨xs,k1,k2,k3,k4⟩:=of2;obtain⟨q,hx⟩:∃q,xs[i]? =some q:=⟨_,gE (by rw[k2,HN.out];exact hil)⟩
  obtain⟨G,bc,rfl⟩:=k1.formS (by rw[k2,HN.out];omega)
  rw[k2,HN.out]at k1⊢;obtain⟨q1,q2⟩:=k3 i q f hx HF.out;obtain⟨xs0,xa,xn,xc⟩:=q;obtain⟨g,qc,q3⟩:=q2.formS (by rw[HNB.out];omega)
  rw[HNB.out]at q3;have q4:Value.slice xa xn xc= .slice (some ⟨g,0,none⟩) nb qc:=q3;cases q4;have HX:Hid (xs[i]? =some ⟨xs0,some ⟨g,0,none⟩,nb,xc⟩):=hx;have HXS:Hid (xs0=f.size):=q1;have K1:Hid (zb fvE (W1.heap.size+2) W2 (.slice (some ⟨G,0,none⟩) nF bc) xs):=k1;have K2:Hid (xs.length=fs.length):=k2;have K3:Hid (∀(i:Nat) x f,xs[i]? =some x->fs[i]? =some f->x.size=f.size/\zb blE (W1.heap.size+2) W2 x.v f.bl):=k3;have K4:Hid (∀(i j:Nat) x y,i≠j->xs[i]? =some x->xs[j]? =some y->∀g,x.v.ownBlock=some g->y.v.ownBlock≠some g):=k4;have KX:Hid (zb blE (W1.heap.size+2) W2 (.slice (some ⟨g,0,none⟩) nb xc) f.bl):=q2;have G2:=dD (G1.out.trans g2);have HS2:Hid (W1.heap.size+2<=W2.heap.size):=s2;have G12:Hid (zc W1 W2):=g2;clear g2 s2 h2 x0 x1 d0 d1 k1 k2 k3 k4 q1 q2 q3 hx hb;go_upto_region 7 with fail;obtain⟨po,hpo⟩:∃po,W2.heap.size=po:=⟨_,rfl⟩;obtain⟨W3,hW3⟩:∃W3,W2.alloc (.cells #[.slice (some ⟨G,0,none⟩) nF bc,.int .i64 cnt] 37)=W3:=⟨_,rfl⟩;have G23:=gA hW3
  have P3:Hid (zp W3 po 37 [.slice (some ⟨G,0,none⟩) nF bc,.int .i64 cnt]):=dD<|by rw[<-hW3];exact zp.top _ _ _ hpo.symm
  have X3:=dD ((X1.out.grew G12.out).grew G23.out);have Y3:=dD ((Y1.out.grew G12.out).grew G23.out);have HPO:Hid (W1.heap.size+2<=po):=show _<=_ by rw[<-hpo];exact HS2.out
  have HP3:Hid (po<W3.heap.size):=P3.out.box.lt;have G3:=dD (G2.out.trans G23.out);have KF3:=dD (K1.out.grew G23.out);have KX3:=dD (KX.out.grew G23.out);rw[hW3];rw[hpo];clear hW3 hpo;have HCX:Hid (∀W,zc W3 W->W.cell? ⟨G,i*2+1,none⟩=some (.slice (some ⟨g,0,none⟩) nb xc)):=show∀W,_ from fun W hW=>by
   obtain⟨a0,c0,hsl,hrows⟩:=(KF3.out.grew hW).at.rows;obtain⟨ad,had,hce⟩:=hrows i _ HX.out;cases hsl;cases had;have:=hce _ (zc.refl _) 1 _ rfl;rw[zR,Addr.add_lit,zA]at this;exact this
  have HCB:Hid (∀W,zc W3 W->W.cell? ⟨g,j,none⟩=some (.int .i64 b)):=dD<|fun W hW=>by
   obtain⟨a0,c0,hsl,hrows⟩:=(KX3.out.grew hW).at.nums;obtain⟨ad,had,hce⟩:=hrows j _ HJ.out;cases hsl;cases had;have:=hce _ (zc.refl _);rw[Addr.add_lit,zA]at this;exact this
  have p0:=P3.out.box.c 0 rfl;have d1:=HCX.out W3 (zc.refl _);have d2:=HCB.out W3 (zc.refl _);have F3:Hid (qW 0 (W1.heap.size+2) W3 (.slice (some ⟨G,0,none⟩) nF bc) fs):=dD<|(qM.grew ⟨xs,K1.out,K2.out,K3.out,K4.out⟩ G23.out).new
  have p1:=P3.out.box.c 1 rfl;have y0:=Y3.out.c 0 rfl;have y1:=Y3.out.c 1 rfl;have yf:=Y3.out.f;have hne2:po≠w.heap.size+1:=by have:=HPO.out;have:=HB2.out;omega
  have hne2':¬w.heap.size+1=po:=fun e=>hne2 e.symm
  have hne3:g≠w.heap.size+1:=by have:=(KX3.out.lt g rfl).1;have:=HB2.out;omega
  have hne3':¬w.heap.size+1=g:=fun e=>hne3 e.symm
  go_wp2
  go_region
  all_goals go_wp2
  all_goals
   refine bodyPost_ret (v:= .tuple #[.agg #[.slice (some ⟨G,0,none⟩) nF bc,.int .i64 cnt],.int .i64 b,.int .i64 0]) (by simp[results,Tryz.results199,go_sem, *]) rfl ⟨_,rfl,?_,?_⟩
   ·have F6:=F3.out.less (A0:=0) (A1:=w.heap.size+2) (nR _) (by have:=HB2.out;omega)
    exact(((F6.out (Out.setCell _ _ _ (p:=⟨w.heap.size+1,0,none⟩) (nZ _) (by simp) _)).out (Out.setCell _ _ _ (p:=⟨w.heap.size+1,1,none⟩) (nZ _) (by simp) _)).less (nR _) (by omega)).grew (gW _)
   exact(Below.setCell (Below.setCell G3.out (p:=⟨w.heap.size+1,0,none⟩) (by simp) _) (p:=⟨w.heap.size+1,1,none⟩) (by simp) _).drew
 ·rw[e1,e2,e3,e4];rw[zc0 hw hf]at h1;have hil:i<nF:=by rw[<-HN.out];exact(gS.1 hf).1
  have hilz:(i:Int)< (nF:Int):=by omega
  obtain⟨ad,hada,xa0,xc0,hra,hce⟩:=HR.out i f hf;subst hada;have HCE:Hid (∀W,zc w W->zaC W (ad.add (i*2)) f.size (.slice xa0 f.bl.length xc0)):=hce;clear hce hra bad;obtain⟨nb,HNB⟩:∃nb,Hid (f.bl.length=nb):=⟨_,rfl⟩;have HF:Hid (fs[i]? =some f):=hf;clear hf;rw[HNB.out]at HCE;have hjl:j<nb:=by rw[<-HNB.out];exact(gS.1 hj).1
  have hjz:(j:Int)< (nb:Int):=by omega
  have hb:=fun W=>j9 (m:=(j:Int)) (n:=(nb:Int)) (by omega) (by omega) W
  have HJ:Hid (f.bl[j]? =some (-1)):=hj;obtain⟨mc,hmc⟩:∃mc:Nat,cnt=(mc:Int):=⟨cnt.toNat,by have:=((qg fs cnt).1 hw).1;omega⟩
  subst hmc;have hmc80:mc<=80:=by have:=((qg fs (mc:Int)).1 hw).1;omega
  have h3:∀W,zc w W->Calls prog 226 #[.agg #[.slice (some ad) nF c,.int .i64 (mc:Int)]] W fun e w'=>∃b,e= .returned b/\zb blE (W.heap.size+1) w' b (qZ fs mc)/\zc W w':=fun W hW=>zfN _ fs mc hmc80 W (HV.out.grew hW)
  rw[zcq,hlf]at h3;clear hmc80 hlf;simp only[List.map_nil]at h3;clear e1 e2 e3 e4 hw hj
  go_enter func199,ntmps199
  go_wp2_with fail;rw[HW0.out];refine(h1 _ HG0.out).mono ?_;rintro e W1 ⟨rfl,g1⟩;have G1:=dD (HG0.out.trans g1);have X1:=dD (X0.out.grew g1);have Y1:=dD (Y0.out.grew g1);have x0:=X1.out.c 0 rfl;have x1:=X1.out.c 1 rfl;obtain⟨d0,d1⟩:=HCE.out W1 G1.out;clear g1 h1
  go_wp2_with (go_at_call 170;refine(hb _).mono ?_;rintro e w' ⟨rfl,hw'⟩;rw[hw'];clear hw' w')
  refine(h2 _ G1.out).mono ?_;rintro e W2 ⟨b1,rfl,of2,g2,s2⟩;have HB2:Hid (w.heap.size+2<=W1.heap.size):=Y1.out.lt;obtain⟨xs,k1,k2,k3,k4⟩:=of2;obtain⟨q,hx⟩:∃q,xs[i]? =some q:=⟨_,gE (by rw[k2,HN.out];exact hil)⟩
  obtain⟨G,bc,rfl⟩:=k1.formS (by rw[k2,HN.out];omega)
  rw[k2,HN.out]at k1⊢;obtain⟨q1,q2⟩:=k3 i q f hx HF.out;obtain⟨xs0,xa,xn,xc⟩:=q;obtain⟨g,qc,q3⟩:=q2.formS (by rw[HNB.out];omega)
  rw[HNB.out]at q3;have q4:Value.slice xa xn xc= .slice (some ⟨g,0,none⟩) nb qc:=q3;cases q4;have HX:Hid (xs[i]? =some ⟨xs0,some ⟨g,0,none⟩,nb,xc⟩):=hx;have HXS:Hid (xs0=f.size):=q1;have K1:Hid (zb fvE (W1.heap.size+2) W2 (.slice (some ⟨G,0,none⟩) nF bc) xs):=k1;have K2:Hid (xs.length=fs.length):=k2;have K3:Hid (∀(i:Nat) x f,xs[i]? =some x->fs[i]? =some f->x.size=f.size/\zb blE (W1.heap.size+2) W2 x.v f.bl):=k3;have K4:Hid (∀(i j:Nat) x y,i≠j->xs[i]? =some x->xs[j]? =some y->∀g,x.v.ownBlock=some g->y.v.ownBlock≠some g):=k4;have KX:Hid (zb blE (W1.heap.size+2) W2 (.slice (some ⟨g,0,none⟩) nb xc) f.bl):=q2;have G2:=dD (G1.out.trans g2);have HS2:Hid (W1.heap.size+2<=W2.heap.size):=s2;have G12:Hid (zc W1 W2):=g2;clear g2 s2 h2 x0 x1 d0 d1 k1 k2 k3 k4 q1 q2 q3 hx hb;go_upto_region 7 with fail;obtain⟨po,hpo⟩:∃po,W2.heap.size=po:=⟨_,rfl⟩;obtain⟨W3,hW3⟩:∃W3,W2.alloc (.cells #[.slice (some ⟨G,0,none⟩) nF bc,.int .i64 (mc:Int)] 37)=W3:=⟨_,rfl⟩;have G23:=gA hW3
  have P3:Hid (zp W3 po 37 [.slice (some ⟨G,0,none⟩) nF bc,.int .i64 (mc:Int)]):=dD<|by rw[<-hW3];exact zp.top _ _ _ hpo.symm
  have X3:=dD ((X1.out.grew G12.out).grew G23.out);have Y3:=dD ((Y1.out.grew G12.out).grew G23.out);have HPO:Hid (W1.heap.size+2<=po):=show _<=_ by rw[<-hpo];exact HS2.out
  have HP3:Hid (po<W3.heap.size):=P3.out.box.lt;have G3:=dD (G2.out.trans G23.out);have KF3:=dD (K1.out.grew G23.out);have KX3:=dD (KX.out.grew G23.out);rw[hW3];rw[hpo];clear hW3 hpo;have HCX:Hid (∀W,zc W3 W->W.cell? ⟨G,i*2+1,none⟩=some (.slice (some ⟨g,0,none⟩) nb xc)):=show∀W,_ from fun W hW=>by
   obtain⟨a0,c0,hsl,hrows⟩:=(KF3.out.grew hW).at.rows;obtain⟨ad,had,hce⟩:=hrows i _ HX.out;cases hsl;cases had;have:=hce _ (zc.refl _) 1 _ rfl;rw[zR,Addr.add_lit,zA]at this;exact this
  have HCB:Hid (∀W,zc W3 W->W.cell? ⟨g,j,none⟩=some (.int .i64 (-1))):=dD<|fun W hW=>by
   obtain⟨a0,c0,hsl,hrows⟩:=(KX3.out.grew hW).at.nums;obtain⟨ad,had,hce⟩:=hrows j _ HJ.out;cases hsl;cases had;have:=hce _ (zc.refl _);rw[Addr.add_lit,zA]at this;exact this
  have p0:=P3.out.box.c 0 rfl;have d1:=HCX.out W3 (zc.refl _);have d2:=HCB.out W3 (zc.refl _);have x0:=X3.out.c 0 rfl;have x1:=X3.out.c 1 rfl;go_wp2_with fail;refine(h3 _ G3.out).mono ?_;rintro e W4 ⟨fr,rfl,ow,g4⟩;obtain⟨fa,fc,rfl⟩:=ow.form;have G4:=dD (G3.out.trans g4);have Y4:=dD (Y3.out.grew g4);clear ow g4 h3 x0 x1 p0 d1 d2;have y0:=Y4.out.c 0 rfl;have y1:=Y4.out.c 1 rfl;have yf:=Y4.out.f;simp only[List.length_nil];go_wp2;refine bodyPost_ret (v:= .tuple #[.agg #[.slice none 0 0,.int .i64 0],.int .i64 0,.int .i64 10]) (by simp[results,Tryz.results199,go_sem, *]) rfl ⟨_,rfl,qW.nil _ _ _,?_⟩
  exact Below.setCell (Below.setCell G4.out (p:=⟨w.heap.size+1,0,none⟩) (by simp) _) (p:=⟨w.heap.size+1,1,none⟩) (by simp) _
 rw[e1,e2,e3,e4];rw[zc0 hw hf]at h1;have hil:i<nF:=by rw[<-HN.out];exact(gS.1 hf).1
 have hilz:(i:Int)< (nF:Int):=by omega
 obtain⟨ad,hada,xa0,xc0,hra,hce⟩:=HR.out i f hf;subst hada;have HCE:Hid (∀W,zc w W->zaC W (ad.add (i*2)) f.size (.slice xa0 f.bl.length xc0)):=hce;clear hce hra bad;obtain⟨nb,HNB⟩:∃nb,Hid (f.bl.length=nb):=⟨_,rfl⟩;have HF:Hid (fs[i]? =some f):=hf;clear hf;rw[HNB.out]at HCE;have hjl:j<nb:=by rw[<-HNB.out];exact(gS.1 hj).1
 have hjz:(j:Int)< (nb:Int):=by omega
 have hb:=fun W=>j9 (m:=(j:Int)) (n:=(nb:Int)) (by omega) (by omega) W
 have HJ:Hid (f.bl[j]? =some (-1)):=hj;obtain⟨mc,hmc⟩:∃mc:Nat,cnt=(mc:Int):=⟨cnt.toNat,by have:=((qg fs cnt).1 hw).1;omega⟩
 subst hmc;have hmc80:mc<=80:=by have:=((qg fs (mc:Int)).1 hw).1;omega
 have h3:∀W,zc w W->Calls prog 226 #[.agg #[.slice (some ad) nF c,.int .i64 (mc:Int)]] W fun e w'=>∃b,e= .returned b/\zb blE (W.heap.size+1) w' b (qZ fs mc)/\zc W w':=fun W hW=>zfN _ fs mc hmc80 W (HV.out.grew hW)
 rw[zcq,hlf]at h3;clear hmc80 hlf;rw[mP]at h3;obtain⟨lz,HLZ⟩:∃lz,Hid ((b:Int) ::(l.map fun(b:Nat)=>(b:Int))=lz):=⟨_,rfl⟩
 rw[HLZ.out]at h3;have HL0:Hid (lz[0]? =some (b:Int)):=dD<|by rw[<-HLZ.out];rfl
 have HL1:Hid (0<lz.length):=dD<|by rw[<-HLZ.out];simp
 clear e1 e2 e3 e4 hw hj
 go_enter func199,ntmps199
 go_wp2_with fail;rw[HW0.out];refine(h1 _ HG0.out).mono ?_;rintro e W1 ⟨rfl,g1⟩;have G1:=dD (HG0.out.trans g1);have X1:=dD (X0.out.grew g1);have Y1:=dD (Y0.out.grew g1);have x0:=X1.out.c 0 rfl;have x1:=X1.out.c 1 rfl;obtain⟨d0,d1⟩:=HCE.out W1 G1.out;clear g1 h1
 go_wp2_with (go_at_call 170;refine(hb _).mono ?_;rintro e w' ⟨rfl,hw'⟩;rw[hw'];clear hw' w')
 refine(h2 _ G1.out).mono ?_;rintro e W2 ⟨b1,rfl,of2,g2,s2⟩;have HB2:Hid (w.heap.size+2<=W1.heap.size):=Y1.out.lt;obtain⟨xs,k1,k2,k3,k4⟩:=of2;obtain⟨q,hx⟩:∃q,xs[i]? =some q:=⟨_,gE (by rw[k2,HN.out];exact hil)⟩
 obtain⟨G,bc,rfl⟩:=k1.formS (by rw[k2,HN.out];omega)
 rw[k2,HN.out]at k1⊢;obtain⟨q1,q2⟩:=k3 i q f hx HF.out;obtain⟨xs0,xa,xn,xc⟩:=q;obtain⟨g,qc,q3⟩:=q2.formS (by rw[HNB.out];omega)
 rw[HNB.out]at q3;have q4:Value.slice xa xn xc= .slice (some ⟨g,0,none⟩) nb qc:=q3;cases q4;have HX:Hid (xs[i]? =some ⟨xs0,some ⟨g,0,none⟩,nb,xc⟩):=hx;have HXS:Hid (xs0=f.size):=q1;have K1:Hid (zb fvE (W1.heap.size+2) W2 (.slice (some ⟨G,0,none⟩) nF bc) xs):=k1;have K2:Hid (xs.length=fs.length):=k2;have K3:Hid (∀(i:Nat) x f,xs[i]? =some x->fs[i]? =some f->x.size=f.size/\zb blE (W1.heap.size+2) W2 x.v f.bl):=k3;have K4:Hid (∀(i j:Nat) x y,i≠j->xs[i]? =some x->xs[j]? =some y->∀g,x.v.ownBlock=some g->y.v.ownBlock≠some g):=k4;have KX:Hid (zb blE (W1.heap.size+2) W2 (.slice (some ⟨g,0,none⟩) nb xc) f.bl):=q2;have G2:=dD (G1.out.trans g2);have HS2:Hid (W1.heap.size+2<=W2.heap.size):=s2;have G12:Hid (zc W1 W2):=g2;clear g2 s2 h2 x0 x1 d0 d1 k1 k2 k3 k4 q1 q2 q3 hx hb;go_upto_region 7 with fail;obtain⟨po,hpo⟩:∃po,W2.heap.size=po:=⟨_,rfl⟩;obtain⟨W3,hW3⟩:∃W3,W2.alloc (.cells #[.slice (some ⟨G,0,none⟩) nF bc,.int .i64 (mc:Int)] 37)=W3:=⟨_,rfl⟩;have G23:=gA hW3
 have P3:Hid (zp W3 po 37 [.slice (some ⟨G,0,none⟩) nF bc,.int .i64 (mc:Int)]):=dD<|by rw[<-hW3];exact zp.top _ _ _ hpo.symm
 have X3:=dD ((X1.out.grew G12.out).grew G23.out);have Y3:=dD ((Y1.out.grew G12.out).grew G23.out);have HPO:Hid (W1.heap.size+2<=po):=show _<=_ by rw[<-hpo];exact HS2.out
 have HP3:Hid (po<W3.heap.size):=P3.out.box.lt;have G3:=dD (G2.out.trans G23.out);have KF3:=dD (K1.out.grew G23.out);have KX3:=dD (KX.out.grew G23.out);rw[hW3];rw[hpo];clear hW3 hpo;have HCX:Hid (∀W,zc W3 W->W.cell? ⟨G,i*2+1,none⟩=some (.slice (some ⟨g,0,none⟩) nb xc)):=show∀W,_ from fun W hW=>by
  obtain⟨a0,c0,hsl,hrows⟩:=(KF3.out.grew hW).at.rows;obtain⟨ad,had,hce⟩:=hrows i _ HX.out;cases hsl;cases had;have:=hce _ (zc.refl _) 1 _ rfl;rw[zR,Addr.add_lit,zA]at this;exact this
 have HCB:Hid (∀W,zc W3 W->W.cell? ⟨g,j,none⟩=some (.int .i64 (-1))):=dD<|fun W hW=>by
  obtain⟨a0,c0,hsl,hrows⟩:=(KX3.out.grew hW).at.nums;obtain⟨ad,had,hce⟩:=hrows j _ HJ.out;cases hsl;cases had;have:=hce _ (zc.refl _);rw[Addr.add_lit,zA]at this;exact this
 have p0:=P3.out.box.c 0 rfl;have d1:=HCX.out W3 (zc.refl _);have d2:=HCB.out W3 (zc.refl _);have x0:=X3.out.c 0 rfl;have x1:=X3.out.c 1 rfl;go_wp2_with fail;refine(h3 _ G3.out).mono ?_;rintro e W4 ⟨fr,rfl,ow,g4⟩;obtain⟨gf,fc,rfl⟩:=ow.formS HL1.out;have f0:W4.cell? ⟨gf,0,none⟩=some (.int .i64 (b:Int)):=by
  obtain⟨a0,c0,hsl,hrows⟩:=ow.at.nums;obtain⟨ad,had,hce⟩:=hrows 0 _ HL0.out;cases hsl;cases had;have:=hce _ (zc.refl _);rw[Addr.add_lit,zA]at this;exact this
 have G4:=dD (G3.out.trans g4);have G34:Hid (zc W3 W4):=g4;have KX4:=dD (KX3.out.grew g4);have KF4:=dD (KF3.out.grew g4);have P4:=dD (P3.out.grew g4);have Y4:=dD (Y3.out.grew g4);have hgb:W1.heap.size+2<=g:=(KX3.out.lt g rfl).1;obtain⟨nl,HNL⟩:∃nl,Hid (lz.length=nl):=⟨_,rfl⟩;have hnl:0<nl:=by rw[<-HNL.out];exact HL1.out
 have hnlz:(0:Int)< (nl:Int):=by omega
 have hnlb:((nl:Int) == 0)=false:=by simp;omega
 rw[HNL.out];clear ow g4 h3 x0 x1 p0 d1 d2
 go_wp2_with (refine QH (E:=blE) rfl (.tmp 55) (.tmp 54) rfl (W1.heap.size+2) _ f.bl KX4.out g j rfl (b:Int) ?t1 ⟨g,j,none⟩ rfl ?t2 (.int .i64 (b:Int)) rfl rfl ?_)
 case t1=>rw[HNB.out];exact hjl
 case t2=>show _=Addr.mk g (j*1) none;rw[Nat.mul_one]
 intro W5 ow5 gr5 _;have KX5:Hid (zb blE (W1.heap.size+2) W5 (.slice (some ⟨g,0,none⟩) nb xc) (f.bl.set j (b:Int))):=ow5;have P5:Hid (Box W5 po [.slice (some ⟨G,0,none⟩) nF bc,.int .i64 (mc:Int)]):=P4.out.box.grown gr5 (fun e=>KX4.out.ne P4.out (by decide) g rfl e)
 have Y5:Hid (Box W5 (w.heap.size+1) [.slice none 0 0,.int .i64 0]):=Y4.out.grown gr5 (by have:=HB2.out;omega)
 have G5:Hid (zc w W5):=dD<|ze G4.out gr5 (by have:=HB2.out;omega)
 have F5:Hid (qW 0 (W1.heap.size+2) W5 (.slice (some ⟨G,0,none⟩) nF bc) (fs.set i ⟨f.size,f.bl.set j (b:Int)⟩)):=dD<|by
  have of5:=KF4.out.grown gr5 (fun g' hg' e'=>by cases e';exact KF4.out.apart KX4.out (Ne.symm zdD) g hg' rfl)
  refine⟨of5.cap,xs,of5.new.stays,by simp[K2.out],fun p q f' hq hf'=>?_⟩
  by_cases e:p=i
  ·subst e;rw[sF (by rw[HN.out];exact hil)]at hf'
   rw[HX.out]at hq;cases hq;cases hf';exact⟨HXS.out,KX5.out.new.stays⟩
  rw[sN (fun h=>e h.symm)]at hf'
  obtain⟨q1,q2⟩:=K3.out p q f' hq hf';have o4:=q2.grew (G23.out.trans G34.out);exact⟨q1,(o4.grown gr5 (fun g' hg' e'=>by cases e';exact K4.out i p _ q (fun h=>e h.symm) HX.out hq g rfl hg')).new.stays⟩
 have d2:W5.cell? ⟨g,j,none⟩=some (.int .i64 (b:Int)):=by
  obtain⟨a0,c0,hsl,hrows⟩:=ow5.at.nums;obtain⟨ad,had,hce⟩:=hrows j (b:Int) (by rw[sF (by rw[HNB.out];exact hjl)])
  cases hsl;cases had;have:=hce _ (zc.refl _);rw[Addr.add_lit,zA]at this;exact this
 clear ow5 gr5 f0;have p0:=P5.out.c 0 rfl;have p1:=P5.out.c 1 rfl;have y0:=Y5.out.c 0 rfl;have y1:=Y5.out.c 1 rfl;have yf:=Y5.out.f;have hne2:po≠w.heap.size+1:=by have:=HPO.out;have:=HB2.out;omega
 have hne2':¬w.heap.size+1=po:=fun e=>hne2 e.symm
 have hne3:g≠w.heap.size+1:=by have:=HB2.out;omega
 have hne3':¬w.heap.size+1=g:=fun e=>hne3 e.symm
 go_wp2
 go_region
 all_goals go_wp2
 all_goals
  refine bodyPost_ret (v:= .tuple #[.agg #[.slice (some ⟨G,0,none⟩) nF bc,.int .i64 (mc:Int)],.int .i64 (b:Int),.int .i64 0]) (by simp[results,Tryz.results199,go_sem, *]) rfl ⟨_,rfl,?_,?_⟩
  ·have F6:=F5.out.less (A0:=0) (A1:=w.heap.size+2) (nR _) (by have:=HB2.out;omega)
   exact(((F6.out (Out.setCell _ _ _ (p:=⟨w.heap.size+1,0,none⟩) (nZ _) (by simp) _)).out (Out.setCell _ _ _ (p:=⟨w.heap.size+1,1,none⟩) (nZ _) (by simp) _)).less (nR _) (by omega)).grew (gW _)
  exact(Below.setCell (Below.setCell G5.out (p:=⟨w.heap.size+1,0,none⟩) (by simp) _) (p:=⟨w.heap.size+1,1,none⟩) (by simp) _).drew
section
variable{w0 w w1 w2:World} {p:Nat} {V:MaV} {m:Ma}
theorem ChW.setFl (h:ChW w0 p w V m) {b:Sli} {fl:List Fl} {c:Int} (g1:zc w w1) (hB:w.heap.size<=B) (nr:qW 0 B w1 (.slice b.a b.n b.c) fl) (g2:w1.grownBy w2 (some p)) (bx:zp w2 p 114 (chL { V with fl:=b } { m with fl:=fl,cnt:=c })):JS w0 p w V { m with fl:=fl,cnt:=c } w2:=
 h.fieldC (V':={ V with fl:=b }) (m':={ m with fl:=fl,cnt:=c }) g1 g2 rfl rfl rfl rfl rfl rfl bx (fun W _ o r=>⟨r.sl,r.sb,r.sq,r.db,r.dq,(nr.out ⟨o.os,o.tape,o.output,o.size,fun k hk hn=>o.block k hk (fun e=>by have:=h.drt k e;omega)⟩).now0⟩)
theorem ChW.setDk (h:ChW w0 p w V m) {d q:Sli} {db:List (List Int)} {dq:List (Int × List Int)} (g1:zc w w1) (hB:w.heap.size<=B) (nr:qi B w1 (.agg #[.slice d.a d.n d.c,.slice q.a q.n q.c]) db dq) (g2:w1.grownBy w2 (some p)) (bx:zp w2 p 114 (chL { V with db:=d,dq:=q } { m with db:=db,dq:=dq })):JS w0 p w V { m with db:=db,dq:=dq } w2:=
 h.fieldC (V':={ V with db:=d,dq:=q }) (m':={ m with db:=db,dq:=dq }) g1 g2 rfl rfl rfl rfl rfl rfl bx (fun W _ o r=>by
  have k:=(nr.staysD (fun k hk=>by have:=h.drt k hk;omega) o).rows
  exact⟨r.sl,r.sb,r.sq,k.1,k.2,r.fl⟩)
end
def wrM (m:Ma) (pg:List Int) (file idx:Int):Ma:=
 if ZM m.fl m.cnt file idx=0 then{ m with fl:=zdm m.fl m.cnt file idx,cnt:=zhi m.fl m.cnt file idx,db:=jD m.db m.dq (zft m.fl m.cnt file idx),dq:=jK m.db m.dq (zft m.fl m.cnt file idx) pg }else m
theorem zbM {w:World} {p:Nat} (h:ChW w0 p w V m) (pg:List Int) (hp:pg.length=8) (file idx:Int):
  Calls prog 166 #[.pointer (some ⟨p,0,none⟩),.agg (pgc pg).toArray,.int .i64 file,.int .i64 idx] w fun e w'=>e= .returned (.bool (decide (ZM m.fl m.cnt file idx=0)))/\JS w0 p w V (wrM m pg file idx) w':=by
 have HM:Hid (ChW w0 p w V m):=h;obtain⟨E,HE⟩:∃E,Hid (ZM m.fl m.cnt file idx=E):=⟨_,rfl⟩;obtain⟨C,HC⟩:∃C,Hid (zhi m.fl m.cnt file idx=C):=⟨_,rfl⟩;obtain⟨B,HB⟩:∃B,Hid (zft m.fl m.cnt file idx=B):=⟨_,rfl⟩;have HC1:Hid (∀W,zc w W->Calls prog 199 #[.agg #[.slice V.fl.a V.fl.n V.fl.c,.int .i64 m.cnt],.int .i64 file,.int .i64 idx] W fun e w'=>∃b:Sli,e= .returned (.tuple #[.agg #[.slice b.a b.n b.c,.int .i64 C],.int .i64 B,.int .i64 E])/\qW 0 W.heap.size w' (.slice b.a b.n b.c) (zdm m.fl m.cnt file idx)/\zc W w'):=show∀W,_ from fun W hW=>by
  rw[<-HE.out,<-HC.out,<-HB.out];refine(zfs _ m.fl m.cnt file idx W (h.at.grew hW).fl).mono ?_;rintro e w' ⟨b,rfl,nr,g⟩;obtain⟨a,c,rfl,_⟩:=qd.rows nr.now0;exact⟨⟨a,_,c⟩,rfl,nr,g⟩
 have HWM:Hid (E=0->wrM m pg file idx={({ m with fl:=zdm m.fl m.cnt file idx,cnt:=C }:Ma)with db:=jD m.db m.dq B,dq:=jK m.db m.dq B pg }):=dD<|fun h=>by
  unfold wrM;rw[if_pos (HE.out.trans h),HC.out,HB.out]
 have HWN:Hid (E≠0->wrM m pg file idx=m):=dD<|fun h=>by
  unfold wrM;rw[if_neg (fun e=>h (HE.out.symm.trans e))]
 rw[HE.out];obtain⟨R,HRR⟩:∃R:Bool,Hid (decide (E=0)=R):=⟨_,rfl⟩;rw[HRR.out];have hpl:p<w.heap.size:=h.dlt p (.inl rfl);obtain⟨N,HN⟩:∃N,Hid (wrM m pg file idx=N):=⟨_,rfl⟩;rw[HN.out]at HWM HWN⊢;obtain⟨p0,p1,p2,p3,p4,p5,p6,p7,hpe⟩:=zeE pg hp;have HPE:Hid (pg=[p0,p1,p2,p3,p4,p5,p6,p7]):=hpe;have hpc:pgc pg=[.int .u8 p0,.int .u8 p1,.int .u8 p2,.int .u8 p3,.int .u8 p4,.int .u8 p5,.int .u8 p6,.int .u8 p7]:=by rw[hpe];rfl
 rw[hpc];clear h hp hpe hpc;obtain⟨b,HB⟩:∃b,Hid (w.heap.size=b):=⟨_,rfl⟩;obtain⟨W1,hW1⟩:∃W1,w.alloc (.cells #[.int .u8 p0,.int .u8 p1,.int .u8 p2,.int .u8 p3,.int .u8 p4,.int .u8 p5,.int .u8 p6,.int .u8 p7] 44)=W1:=⟨_,rfl⟩;have G1:=gA hW1
 have Y1:=xP hW1 HB
 have HW1:Hid (_=W1):=hW1;clear hW1;rw[HB.out]at hpl
 go_enter func166,ntmps166
 go_upto_region 1 with fail;rw[HW1.out,HB.out];have x7:=(HM.out.box.box.grew G1.out).c 7 rfl;have x8:=(HM.out.box.box.grew G1.out).c 8 rfl;have hc:=HC1.out W1 G1.out;go_wp2_with fail;refine hc.mono ?_;clear hc x7 x8;rintro e W2 ⟨f,rfl,nr,g2⟩;have F2:Hid (qW 0 W1.heap.size W2 (.slice f.a f.n f.c) (zdm m.fl m.cnt file idx)):=nr;have G2:Hid (zc W1 W2):=g2;clear nr g2;go_upto_region 2 with fail;obtain⟨c,HC⟩:∃c,Hid (W2.heap.size=c):=⟨_,rfl⟩;obtain⟨W3,hW3⟩:∃W3,W2.alloc (.cells #[.slice f.a f.n f.c,.int .i64 C] 37)=W3:=⟨_,rfl⟩;have G3:=gA hW3
 have Z3:=xP hW3 HC
 rw[hW3,HC.out];clear hW3
 by_cases hz:E=0
 rotate_left
 ·have hze:(E != 0)=true:=by simp[hz]
  have HR:Hid (R=false):=HRR.out.symm.trans (decide_eq_false hz);have HN:Hid (N=m):=HWN.out hz;clear hz;go_wp2;go_ret;exact⟨by rw[HR.out];rfl,by rw[HN.out];exact JS.refl HM.out (G1.out.trans (G2.out.trans G3.out))⟩
 have hze:(E != 0)=false:=by simp[hz]
 have HR:Hid (R=true):=HRR.out.symm.trans (decide_eq_true hz);have HN:Hid (N=_):=HWM.out hz;clear hz;have G13:=dD (G1.out.trans (G2.out.trans G3.out));have z0:=Z3.out.c 0 rfl;have z1:=Z3.out.c 1 rfl;have BX:=dD (HM.out.box.grew G13.out)
 go_upto_region 5 with(refine JV rfl 37 (.tmp 30) (.tmp 27) rfl p 7 rfl (.agg #[.slice f.a f.n f.c,.int .i64 C]) rfl [.slice f.a f.n f.c,.int .i64 C] rfl BX.out (by simp[chL]) (by kernel_rfl) (by simp[Value.oneCell']) ?_)
 intro W4 bx4 gr4 _;have Y4:Hid (Box W4 b [.int .u8 p0,.int .u8 p1,.int .u8 p2,.int .u8 p3,.int .u8 p4,.int .u8 p5,.int .u8 p6,.int .u8 p7]):=dD<|(Y1.out.grew (G2.out.trans G3.out)).grown gr4 (by omega)
 obtain⟨V4,e4,m4,o4,d4⟩:=HM.out.setFl G13.out (bS G1.out) (F2.out.grew G3.out) gr4 bx4;have E4:Hid (V4.ca=V.ca):=e4;have M4:Hid (ChW w0 p W4 V4 { m with fl:=zdm m.fl m.cnt file idx,cnt:=C }):=m4;have O4:Hid (jv (Dw p V) w W4):=o4;have D4:Hid (∀k,Dw p V4 k->Dw p V k\/w.heap.size<=k):=d4;have HW:Hid (∀W,zc W4 W->Calls prog 195 #[.agg #[.slice V4.db.a V4.db.n V4.db.c,.slice V4.dq.a V4.dq.n V4.dq.c],.int .i64 B,.agg #[.int .u8 p0,.int .u8 p1,.int .u8 p2,.int .u8 p3,.int .u8 p4,.int .u8 p5,.int .u8 p6,.int .u8 p7]] W fun e w'=>∃d q:Sli,e= .returned (.tuple #[.agg #[.slice d.a d.n d.c,.slice q.a q.n q.c],.int .i64 (zw m.db.length m.dq B)])/\qi W.heap.size w' (.agg #[.slice d.a d.n d.c,.slice q.a q.n q.c]) (jD m.db m.dq B) (jK m.db m.dq B pg)/\zc W w'):=show∀W,_ from fun W hW=>by
  have k:=zhq (.agg #[.slice V4.db.a V4.db.n V4.db.c,.slice V4.dq.a V4.dq.n V4.dq.c]) m.db m.dq B pg (by rw[HPE.out];rfl) W ⟨_,_,rfl,(m4.at.grew hW).db,(m4.at.grew hW).dq⟩
  rw[show pgc pg=[.int .u8 p0,.int .u8 p1,.int .u8 p2,.int .u8 p3,.int .u8 p4,.int .u8 p5,.int .u8 p6,.int .u8 p7] by rw[HPE.out];rfl]at k
  refine k.mono ?_;rintro e w' ⟨dd,rfl,nd,g⟩;obtain⟨d,q,rfl,_,_⟩:=nd.form;exact⟨d,q,rfl,nd,g⟩
 have hpw:p<W4.heap.size:=m4.dlt p (.inl rfl);clear bx4 gr4 m4 o4 d4 e4 z0 z1;try simp only[Act.put]
 go_upto_region 5 with fail;obtain⟨EW,HEW⟩:∃EW,Hid (zw m.db.length m.dq B=EW):=⟨_,rfl⟩;rw[HEW.out]at HW;obtain⟨I,HI⟩:∃I:World->Prop,Hid (∀u,I u↔Box u b [.int .u8 p0,.int .u8 p1,.int .u8 p2,.int .u8 p3,.int .u8 p4,.int .u8 p5,.int .u8 p6,.int .u8 p7]):=⟨fun u=>Box u b [.int .u8 p0,.int .u8 p1,.int .u8 p2,.int .u8 p3,.int .u8 p4,.int .u8 p5,.int .u8 p6,.int .u8 p7],fun _=>Iff.rfl⟩
 have hI0:I W4.drew:=(HI.out _).2 (Y4.out.grew (gW _))
 have hF0:zc W4 W4.drew:=show Below _ _ _ from(bR _ _).drew
 have hy0:∀y:zj I,y.world.cell? ⟨b,0,none⟩=some (.int .u8 p0):=fun y=>((HI.out _).1 y.holds).c 0 rfl
 have hy1:∀y:zj I,y.world.cell? ⟨b,1,none⟩=some (.int .u8 p1):=fun y=>((HI.out _).1 y.holds).c 1 rfl
 have hy2:∀y:zj I,y.world.cell? ⟨b,2,none⟩=some (.int .u8 p2):=fun y=>((HI.out _).1 y.holds).c 2 rfl
 have hy3:∀y:zj I,y.world.cell? ⟨b,3,none⟩=some (.int .u8 p3):=fun y=>((HI.out _).1 y.holds).c 3 rfl
 have hy4:∀y:zj I,y.world.cell? ⟨b,4,none⟩=some (.int .u8 p4):=fun y=>((HI.out _).1 y.holds).c 4 rfl
 have hy5:∀y:zj I,y.world.cell? ⟨b,5,none⟩=some (.int .u8 p5):=fun y=>((HI.out _).1 y.holds).c 5 rfl
 have hy6:∀y:zj I,y.world.cell? ⟨b,6,none⟩=some (.int .u8 p6):=fun y=>((HI.out _).1 y.holds).c 6 rfl
 have hy7:∀y:zj I,y.world.cell? ⟨b,7,none⟩=some (.int .u8 p7):=fun y=>((HI.out _).1 y.holds).c 7 rfl
 have hne:Nonempty (zj I):=⟨⟨_,hI0⟩⟩;refine zL (I:=I) 16 [(5,fun v=>v= .agg #[.slice V4.db.a V4.db.n V4.db.c,.slice V4.dq.a V4.dq.n V4.dq.c]),(8,fun v=>∃d q:Sli,v= .tuple #[.agg #[.slice d.a d.n d.c,.slice q.a q.n q.c],.int .i64 EW]),(15,fun _=>True)] (fun u=>zc W4 u) hI0 hF0 qn (by kernel_rfl) rfl rfl (by decide) ?hS (by kernel_rfl) ?_
 case hS=>
  intro x hx;simp only[mC,nM,or_false]at hx
  rcases hx with rfl|rfl|rfl
  ·exact⟨_,rfl⟩
  ·exact⟨_,zu,zu,rfl⟩
  exact⟨undef,trivial⟩
 simp only[List.take,List.drop];iterate 2 (refine zg rfl rfl rfl (fun K hK=>?_);go_big_quiet_op;refine hK _ ?_;clear hK)
 refine zM (.tmp 33) ⟨p,0,none⟩ rfl rfl rfl rfl ?_;simp only[Act.put,sB,sS,sZ];iterate 2 (refine zg rfl rfl rfl (fun K hK=>?_);go_big_quiet_op;refine hK _ ?_;clear hK)
 refine zW rfl rfl (fun _ u=>zc W4 u) (fun w' hI' hF'=>?_) (fun v1 hv=>?_)
 ·refine ziq 34 (.tmp 36) rfl p 5 rfl [.slice V4.db.a V4.db.n V4.db.c,.slice V4.dq.a V4.dq.n V4.dq.c] ((M4.out.box.box.grew hF').mid 5 (fun j v hj=>by
   match j,hj with
   | 0,hj=>exact hj
   | 1,hj=>exact hj)) underlying34 rfl (by kernel_rfl) ⟨hI',rfl,hF'⟩
 cases hv;simp only[Act.put,sB,sS,sZ];iterate 2 (refine zg rfl rfl rfl (fun K hK=>?_);go_big_quiet_op;refine hK _ ?_;clear hK)
 refine zW rfl rfl (fun v u=>∃(d q:Sli) (Wa:World),v= .tuple #[.agg #[.slice d.a d.n d.c,.slice q.a q.n q.c],.int .i64 EW]/\zc W4 Wa/\zc Wa u/\qi Wa.heap.size u (.agg #[.slice d.a d.n d.c,.slice q.a q.n q.c]) (jD m.db m.dq B) (jK m.db m.dq B pg)) (fun w' hI' hF'=>?_) (fun v1 hv=>?_)
 ·refine zK.call [.agg #[.slice V4.db.a V4.db.n V4.db.c,.slice V4.dq.a V4.dq.n V4.dq.c],.int .i64 B,.agg #[.int .u8 p0,.int .u8 p1,.int .u8 p2,.int .u8 p3,.int .u8 p4,.int .u8 p5,.int .u8 p6,.int .u8 p7]] rfl func195 rfl rfl rfl ?_;refine(HW.out w' hF').mono ?_;rintro e w'' ⟨d,q,rfl,t2,g2⟩;exact⟨_,rfl,(HI.out _).2 (((HI.out _).1 hI').grew g2),⟨d,q,rfl⟩,d,q,w',rfl,hF',g2,t2⟩
 obtain⟨d,q,rfl⟩:=hv;simp only[Act.put,sB,sS,sZ];iterate 3 (refine zg rfl rfl rfl (fun K hK=>?_);go_big_quiet_op;refine hK _ ?_;clear hK)
 refine zM (.tmp 32) ⟨p,0,none⟩ rfl rfl rfl rfl ?_;simp only[Act.put,sB,sS,sZ];iterate 2 (refine zg rfl rfl rfl (fun K hK=>?_);go_big_quiet_op;refine hK _ ?_;clear hK)
 refine zW rfl rfl (fun _ u=>JS w0 p w V {({ m with fl:=zdm m.fl m.cnt file idx,cnt:=C }:Ma)with db:=jD m.db m.dq B,dq:=jK m.db m.dq B pg } u) (fun w' hI' hF'=>?_) (fun v1 hv=>?_)
 ·obtain⟨d',q',Wa,he,ga,gb,t8⟩:=hF';have hss:d'=d/\q'=q:=by
   obtain⟨a1,a2,a3⟩:=d;obtain⟨b1,b2,b3⟩:=d';obtain⟨e1,e2,e3⟩:=q;obtain⟨f1,f2,f3⟩:=q';simp only[Value.tuple.injEq,Array.mk.injEq,List.cons.injEq,Value.agg.injEq,vJ,and_true]at he;obtain⟨⟨rfl,rfl,rfl⟩,rfl,rfl,rfl⟩:=he;exact⟨rfl,rfl⟩
  obtain⟨rfl,rfl⟩:=hss;have G8:zc W4 w':=ga.trans gb;refine JO 34 (.tmp 45) (.tmp 41) rfl p 5 rfl (.agg #[.slice d'.a d'.n d'.c,.slice q'.a q'.n q'.c]) rfl [.slice d'.a d'.n d'.c,.slice q'.a q'.n q'.c] rfl (M4.out.box.grew G8) (by simp[chL]) (by kernel_rfl) (by simp[Value.oneCell']) ?_
  intro W9 bx9 gr9 _;exact⟨(HI.out _).2 (((HI.out _).1 hI').grown gr9 (by omega)),trivial,JS.step O4.out D4.out E4.out (M4.out.setDk G8 (bS ga) t8 gr9 bx9)⟩
 clear hv;try simp only[Act.put]
 refine qI fun W9 hI8 hF8=>?_
 have M9:Hid (JS w0 p w V {({ m with fl:=zdm m.fl m.cnt file idx,cnt:=C }:Ma)with db:=jD m.db m.dq B,dq:=jK m.db m.dq B pg } W9):=hF8;clear hI8 hF8 hI0 hF0 hy0 hy1 hy2 hy3 hy4 hy5 hy6 hy7 hne;go_wp2;go_ret;exact⟨by rw[HR.out];rfl,by rw[HN.out];exact M9.out⟩
theorem zek {w:World} {p:Nat} (h:ChW w0 p w V m) (f:Fr) (fi ix:Nat) (F:Fl) (hf:f.f=(fi:Int)) (hx:f.x=(ix:Int)) (hF:m.fl[fi]? =some F) (hs:0<=F.size/\F.size<=96) (hi:ix<=12):
  Calls prog 167 #[.pointer (some ⟨p,0,none⟩),.agg (frv f).toArray] w fun e w'=>e= .returned (.agg (pgc (zag (pgL f.p) (ix:Int) F.size)).toArray)/\(zag (pgL f.p) (ix:Int) F.size).length=8/\zc w w':=by
 have HM:Hid (ChW w0 p w V m):=h;obtain⟨a,c,hfe,_,hfr⟩:=qd.rows h.at.fl;simp only[vJ]at hfe;obtain⟨hfa,hfn,hfc⟩:=hfe;obtain⟨ad,ha,xa,xc,_,hcl⟩:=hfr fi F hF;have HFA:Hid (V.fl.a=some ad):=hfa.trans ha;have hlt:(fi:Int)< (V.fl.n:Int):=by
  have:=(gS.1 hF).1;omega
 obtain⟨s,HSZ⟩:∃s,Hid (F.size=s):=⟨_,rfl⟩;rw[HSZ.out]at hs⊢;have HCC:Hid (∀W,zc w W->W.cell? (ad.add (fi*2))=some (.int .i64 s)):=dD<|fun W hW=>by
  have:=(hcl W hW).1;rw[HSZ.out]at this;exact this
 have hc8:(zag (pgL f.p) (ix:Int) s).length=8:=by unfold zag;simp[pgL]
 have HC:Hid (∀W,Calls prog 200 #[.agg (pgc (pgL f.p)).toArray,.int .i64 (s -(ix:Int)*8)] W fun e w'=>e= .returned (.agg (pgc (zag (pgL f.p) (ix:Int) s)).toArray)/\zc W w'):=dD<|fun W=>by
  have k:=ze2 (pgL f.p) (s -(ix:Int)*8) W rfl (by omega) (by omega)
  rw[zkO]at k;exact k.mono fun e w' q=>⟨q.1,q.2.2⟩
 obtain⟨c0,c1,c2,c3,c4,c5,c6,c7,hce⟩:=zeE _ hc8;rw[hce]at HC⊢;obtain⟨⟨b0,b1,b2,b3,b4,b5,b6,b7⟩,fr,fu,fd,ff,fx⟩:=f;dsimp only at hf hx;subst hf;subst hx;simp only[pgL,pgc,frv,mP,List.map_nil]at HC⊢;have HL8:Hid ([c0,c1,c2,c3,c4,c5,c6,c7].length=8):=dD<|rfl
 clear h hfa hfn hfc ha hcl hfr hF hc8 hce;obtain⟨b,HB⟩:∃b,Hid (w.heap.size=b):=⟨_,rfl⟩;obtain⟨W1,hW1⟩:∃W1,(w.alloc (.cells #[.int .u8 b0,.int .u8 b1,.int .u8 b2,.int .u8 b3,.int .u8 b4,.int .u8 b5,.int .u8 b6,.int .u8 b7,.int .i64 fr,.bool fu,.bool fd,.int .i64 (fi:Int),.int .i64 (ix:Int)] 53)).alloc (.cells #[.int .u8 0,.int .u8 0,.int .u8 0,.int .u8 0,.int .u8 0,.int .u8 0,.int .u8 0,.int .u8 0] 44)=W1:=⟨_,rfl⟩;have G1:=gD2 hW1
 have Y1:Hid (Box W1 b [.int .u8 b0,.int .u8 b1,.int .u8 b2,.int .u8 b3,.int .u8 b4,.int .u8 b5,.int .u8 b6,.int .u8 b7,.int .i64 fr,.bool fu,.bool fd,.int .i64 (fi:Int),.int .i64 (ix:Int)]):=dD<|by rw[<-hW1];exact(Box.top _ _ _ HB.out.symm).alloc _
 have Z1:Hid (zp W1 (b+1) 44 (pgc zz)):=dD<|by rw[<-hW1];exact zp.top _ (pgc zz) _ (by simp[HB.out])
 have HW1:Hid (_=W1):=hW1;clear hW1
 go_enter func167,ntmps167
 go_upto_region 1 with fail;rw[HW1.out,HB.out];have gd:zc W1 W1.drew:=show Below _ _ _ from(bR _ _).drew
 obtain⟨I,HI⟩:∃I:World->Prop,Hid (∀u,I u↔(Box u b [.int .u8 b0,.int .u8 b1,.int .u8 b2,.int .u8 b3,.int .u8 b4,.int .u8 b5,.int .u8 b6,.int .u8 b7,.int .i64 fr,.bool fu,.bool fd,.int .i64 (fi:Int),.int .i64 (ix:Int)])/\u.cell? ⟨p,7,none⟩=some (.slice (some ad) V.fl.n V.fl.c)/\u.cell? (ad.add (fi*2))=some (.int .i64 s)):=⟨fun u=>_,fun _=>Iff.rfl⟩
 have x7:∀W,zc w W->W.cell? ⟨p,7,none⟩=some (.slice (some ad) V.fl.n V.fl.c):=fun W hW=>by
  have:=(HM.out.box.box.grew hW).c 7 rfl;rw[HFA.out]at this;exact this
 have X7:Hid (∀W,zc w W->W.cell? ⟨p,7,none⟩=some (.slice (some ad) V.fl.n V.fl.c)):=dD<|x7
 clear x7;have hI0:I W1.drew:=(HI.out _).2 ⟨Y1.out.grew gd,X7.out _ (G1.out.trans gd),HCC.out _ (G1.out.trans gd)⟩;have hF0:zc W1 W1.drew:=gd;have hy0:∀y:zj I,y.world.cell? ⟨b,0,none⟩=some (.int .u8 b0):=fun y=>((HI.out _).1 y.holds).1.c 0 rfl
 have hy1:∀y:zj I,y.world.cell? ⟨b,1,none⟩=some (.int .u8 b1):=fun y=>((HI.out _).1 y.holds).1.c 1 rfl
 have hy2:∀y:zj I,y.world.cell? ⟨b,2,none⟩=some (.int .u8 b2):=fun y=>((HI.out _).1 y.holds).1.c 2 rfl
 have hy3:∀y:zj I,y.world.cell? ⟨b,3,none⟩=some (.int .u8 b3):=fun y=>((HI.out _).1 y.holds).1.c 3 rfl
 have hy4:∀y:zj I,y.world.cell? ⟨b,4,none⟩=some (.int .u8 b4):=fun y=>((HI.out _).1 y.holds).1.c 4 rfl
 have hy5:∀y:zj I,y.world.cell? ⟨b,5,none⟩=some (.int .u8 b5):=fun y=>((HI.out _).1 y.holds).1.c 5 rfl
 have hy6:∀y:zj I,y.world.cell? ⟨b,6,none⟩=some (.int .u8 b6):=fun y=>((HI.out _).1 y.holds).1.c 6 rfl
 have hy7:∀y:zj I,y.world.cell? ⟨b,7,none⟩=some (.int .u8 b7):=fun y=>((HI.out _).1 y.holds).1.c 7 rfl
 have hyf:∀y:zj I,y.world.cell? ⟨b,11,none⟩=some (.int .i64 (fi:Int)):=fun y=>((HI.out _).1 y.holds).1.c 11 rfl
 have hyx:∀y:zj I,y.world.cell? ⟨b,12,none⟩=some (.int .i64 (ix:Int)):=fun y=>((HI.out _).1 y.holds).1.c 12 rfl
 have hyp:∀y:zj I,y.world.cell? ⟨p,7,none⟩=some (.slice (some ad) V.fl.n V.fl.c):=fun y=>((HI.out _).1 y.holds).2.1
 have hys:∀y:zj I,y.world.cell? (ad.add (fi*2))=some (.int .i64 s):=fun y=>((HI.out _).1 y.holds).2.2
 have hne:Nonempty (zj I):=⟨⟨_,hI0⟩⟩;refine zL (I:=I) 19 [(17,fun v=>v= .agg #[.int .u8 c0,.int .u8 c1,.int .u8 c2,.int .u8 c3,.int .u8 c4,.int .u8 c5,.int .u8 c6,.int .u8 c7]),(18,fun _=>True)] (fun u=>zc W1 u) hI0 hF0 qn (by kernel_rfl) rfl rfl (by decide) ?hS (by kernel_rfl) ?_
 case hS=>
  intro x hx;simp only[mC,nM,or_false]at hx
  rcases hx with rfl|rfl
  ·exact⟨_,rfl⟩
  exact⟨undef,trivial⟩
 simp only[List.take,List.drop];iterate 3 (refine zg rfl rfl rfl (fun K hK=>?_);go_big_quiet_op;refine hK _ ?_;clear hK)
 refine zM (.tmp 7) ⟨p,0,none⟩ rfl rfl rfl rfl ?_;simp only[Act.put,sB,sS,sZ];iterate 13 (refine zg rfl rfl rfl (fun K hK=>?_);go_big_quiet_op;refine hK _ ?_;clear hK)
 refine zW rfl rfl (fun _ u=>zc W1 u) (fun w' hI' hF'=>?_) (fun v1 hv=>?_)
 ·refine zK.call [.agg #[.int .u8 b0,.int .u8 b1,.int .u8 b2,.int .u8 b3,.int .u8 b4,.int .u8 b5,.int .u8 b6,.int .u8 b7],.int .i64 (s -(ix:Int)*8)] rfl func200 rfl rfl rfl ?_;refine(HC.out w').mono ?_;rintro e w'' ⟨rfl,g2⟩;obtain⟨i1,i2,i3⟩:=(HI.out _).1 hI';have gg:=G1.out.trans (hF'.trans g2);exact⟨_,rfl,(HI.out _).2 ⟨i1.grew g2,X7.out _ gg,HCC.out _ gg⟩,rfl,hF'.trans g2⟩
 subst hv;simp only[Act.put,sB,sS,sZ];refine zW rfl rfl (fun _ u=>zc w u/\Box u (b+1) (pgc [c0,c1,c2,c3,c4,c5,c6,c7])) (fun w' hI' hF'=>?_) (fun v1 hv=>?_)
 ·refine JO 44 (.tmp 4) (.tmp 22) rfl (b+1) 0 rfl (.agg #[.int .u8 c0,.int .u8 c1,.int .u8 c2,.int .u8 c3,.int .u8 c4,.int .u8 c5,.int .u8 c6,.int .u8 c7]) rfl [.int .u8 c0,.int .u8 c1,.int .u8 c2,.int .u8 c3,.int .u8 c4,.int .u8 c5,.int .u8 c6,.int .u8 c7] rfl (Z1.out.grew hF') (by simp[pgc,zz]) (by kernel_rfl) (by simp[Value.oneCell']) ?_
  intro W9 bx9 gr9 _;have g9:zc w W9:=ze (G1.out.trans hF') gr9 (by have:=HB.out;omega)
  obtain⟨i1,i2,i3⟩:=(HI.out _).1 hI';exact⟨(HI.out _).2 ⟨i1.grown gr9 (by omega),X7.out _ g9,HCC.out _ g9⟩,trivial,g9,bx9.box⟩
 clear hv;try simp only[Act.put]
 refine qI fun W9 hI8 hF8=>?_
 have G9:Hid (zc w W9):=hF8.1;have B9:Hid (Box W9 (b+1) (pgc [c0,c1,c2,c3,c4,c5,c6,c7])):=hF8.2;clear hI8 hF8 hI0 hF0 hy0 hy1 hy2 hy3 hy4 hy5 hy6 hy7 hyf hyx hyp hys hne gd;go_wp2;refine bodyPost_ret (zY rfl _ rfl B9.out underlying44 rfl zl3) rfl ⟨rfl,by first | trivial | rfl,G9.out⟩
theorem zjV {w:World} {p:Nat} (h:ChW w0 p w V m) (k:Nat) (f:Fr) (hk:m.fs[k]? =some f) (fi ix:Nat) (F:Fl) (hf:f.f=(fi:Int)) (hx:f.x=(ix:Int)) (hF:m.fl[fi]? =some F) (hs:0<=F.size/\F.size<=96) (hi:ix<=12):
  Calls prog 119 #[.pointer (some ⟨p,0,none⟩),.int .i64 (k:Int)] w fun e w'=>e= .returned (.bool (decide (ZM m.fl m.cnt fi ix=0)))/\JS w0 p w V (wrM m (zag (pgL f.p) (ix:Int) F.size) fi ix) w':=by
 have HM:Hid (ChW w0 p w V m):=h;have HCI:Hid (∀W,zc w W->Calls prog 167 #[.pointer (some ⟨p,0,none⟩),.agg (frv f).toArray] W fun e w'=>e= .returned (.agg (pgc (zag (pgL f.p) (ix:Int) F.size)).toArray)/\zc W w'):=show∀W,_ from fun W hW=>(zek (h.grew hW) f fi ix F hf hx hF hs hi).mono fun e w' q=>⟨q.1,q.2.2⟩
 have hc8:(zag (pgL f.p) (ix:Int) F.size).length=8:=by unfold zag;simp[pgL]
 obtain⟨N,HN⟩:∃N,Hid (wrM m (zag (pgL f.p) (ix:Int) F.size) fi ix=N):=⟨_,rfl⟩;obtain⟨R,HR⟩:∃R,Hid (decide (ZM m.fl m.cnt fi ix=0)=R):=⟨_,rfl⟩;have HCW:Hid (∀W,zc w W->Calls prog 166 #[.pointer (some ⟨p,0,none⟩),.agg (pgc (zag (pgL f.p) (ix:Int) F.size)).toArray,.int .i64 (fi:Int),.int .i64 (ix:Int)] W fun e w'=>e= .returned (.bool R)/\JS w0 p W V N w'):=dD<|fun W hW=>by
  rw[<-HN.out,<-HR.out];exact zbM (h.grew hW) _ hc8 (fi:Int) (ix:Int)
 rw[HN.out,HR.out];have hpl:¬Dw p V w.heap.size:=fun e=>absurd (h.dlt _ e) (by omega)
 obtain⟨n1,-⟩:=h.at.ns;obtain⟨ad,ha,hl⟩:=h.at.frs k f hk;have HFA:Hid (V.f.a=some ad):=ha;have HFC:Hid (∀W,zc w W->zdq W (ad.add (k*13)) f):=show∀W,_ from hl
 have hlt:(k:Int)< (V.f.n:Int):=by
  have:=(gS.1 hk).1;omega
 obtain⟨c0,c1,c2,c3,c4,c5,c6,c7,hce⟩:=zeE _ hc8;rw[hce]at HCI HCW;obtain⟨⟨b0,b1,b2,b3,b4,b5,b6,b7⟩,fr,fu,fd,ff,fx⟩:=f;dsimp only at hf hx;subst hf;subst hx;simp only[pgc,frv,mP,List.map_nil]at HCI HCW;clear h hk hF hs hi hc8 hce ha hl n1;have x0:=HM.out.box.box.c 0 rfl;rw[HFA.out]at x0;obtain⟨d0,d1,d2,d3,d4,d5,d6,d7,d8,d9,d10,d11,d12⟩:=HFC.out w (zc.refl _);dsimp only at d0 d1 d2 d3 d4 d5 d6 d7 d8 d9 d10 d11 d12
 go_enter func119,ntmps119
 go_upto_region 2 with fail;clear d0 d1 d2 d3 d4 d5 d6 d7 d8 d9 d10 d11 d12 x0;obtain⟨b,HB⟩:∃b,Hid (w.heap.size=b):=⟨_,rfl⟩;obtain⟨W1,hW1⟩:∃W1,w.alloc (.cells #[.int .u8 b0,.int .u8 b1,.int .u8 b2,.int .u8 b3,.int .u8 b4,.int .u8 b5,.int .u8 b6,.int .u8 b7,.int .i64 fr,.bool fu,.bool fd,.int .i64 (fi:Int),.int .i64 (ix:Int)] 53)=W1:=⟨_,rfl⟩;have G1:=gA hW1
 have Y1:=xPT hW1 HB
 rw[hW1,HB.out];rw[HB.out]at hpl;clear hW1;have gd:zc W1 W1.drew:=show Below _ _ _ from(bR _ _).drew
 obtain⟨I,HI⟩:∃I:World->Prop,Hid (∀u,I u↔zp u b 53 [.int .u8 b0,.int .u8 b1,.int .u8 b2,.int .u8 b3,.int .u8 b4,.int .u8 b5,.int .u8 b6,.int .u8 b7,.int .i64 fr,.bool fu,.bool fd,.int .i64 (fi:Int),.int .i64 (ix:Int)]):=⟨fun u=>_,fun _=>Iff.rfl⟩
 have hI0:I W1.drew:=(HI.out _).2 (Y1.out.grew gd);have hF0:zc W1 W1.drew:=gd;have hy0:∀y:zj I,y.world.cell? ⟨b,0,none⟩=some (.int .u8 b0):=fun y=>((HI.out _).1 y.holds).box.c 0 rfl
 have hy1:∀y:zj I,y.world.cell? ⟨b,1,none⟩=some (.int .u8 b1):=fun y=>((HI.out _).1 y.holds).box.c 1 rfl
 have hy2:∀y:zj I,y.world.cell? ⟨b,2,none⟩=some (.int .u8 b2):=fun y=>((HI.out _).1 y.holds).box.c 2 rfl
 have hy3:∀y:zj I,y.world.cell? ⟨b,3,none⟩=some (.int .u8 b3):=fun y=>((HI.out _).1 y.holds).box.c 3 rfl
 have hy4:∀y:zj I,y.world.cell? ⟨b,4,none⟩=some (.int .u8 b4):=fun y=>((HI.out _).1 y.holds).box.c 4 rfl
 have hy5:∀y:zj I,y.world.cell? ⟨b,5,none⟩=some (.int .u8 b5):=fun y=>((HI.out _).1 y.holds).box.c 5 rfl
 have hy6:∀y:zj I,y.world.cell? ⟨b,6,none⟩=some (.int .u8 b6):=fun y=>((HI.out _).1 y.holds).box.c 6 rfl
 have hy7:∀y:zj I,y.world.cell? ⟨b,7,none⟩=some (.int .u8 b7):=fun y=>((HI.out _).1 y.holds).box.c 7 rfl
 have hyr:∀y:zj I,y.world.cell? ⟨b,8,none⟩=some (.int .i64 fr):=fun y=>((HI.out _).1 y.holds).box.c 8 rfl
 have hyu:∀y:zj I,y.world.cell? ⟨b,9,none⟩=some (.bool fu):=fun y=>((HI.out _).1 y.holds).box.c 9 rfl
 have hyd:∀y:zj I,y.world.cell? ⟨b,10,none⟩=some (.bool fd):=fun y=>((HI.out _).1 y.holds).box.c 10 rfl
 have hyf:∀y:zj I,y.world.cell? ⟨b,11,none⟩=some (.int .i64 (fi:Int)):=fun y=>((HI.out _).1 y.holds).box.c 11 rfl
 have hyx:∀y:zj I,y.world.cell? ⟨b,12,none⟩=some (.int .i64 (ix:Int)):=fun y=>((HI.out _).1 y.holds).box.c 12 rfl
 have hne:Nonempty (zj I):=⟨⟨_,hI0⟩⟩;refine zL (I:=I) 9 [(3,fun v=>v= .agg #[.int .u8 c0,.int .u8 c1,.int .u8 c2,.int .u8 c3,.int .u8 c4,.int .u8 c5,.int .u8 c6,.int .u8 c7]),(8,fun v=>v= .bool R)] (fun u=>zc W1 u) hI0 hF0 qn (by kernel_rfl) rfl rfl (by decide) ?hS (by kernel_rfl) ?_
 case hS=>
  intro x hx;simp only[mC,nM,or_false]at hx
  rcases hx with rfl|rfl
  ·exact⟨_,rfl⟩
  exact⟨_,rfl⟩
 simp only[List.take,List.drop];iterate 3 (refine zg rfl rfl rfl (fun K hK=>?_);go_big_quiet_op;refine hK _ ?_;clear hK)
 refine zW rfl rfl (fun _ u=>zc W1 u) (fun w' hI' hF'=>?_) (fun v1 hv=>?_)
 ·refine zK.call [.pointer (some ⟨p,0,none⟩),.agg #[.int .u8 b0,.int .u8 b1,.int .u8 b2,.int .u8 b3,.int .u8 b4,.int .u8 b5,.int .u8 b6,.int .u8 b7,.int .i64 fr,.bool fu,.bool fd,.int .i64 (fi:Int),.int .i64 (ix:Int)]] rfl func167 rfl rfl rfl ?_;refine(HCI.out w' (G1.out.trans hF')).mono ?_;rintro e w'' ⟨rfl,g2⟩;exact⟨_,rfl,(HI.out _).2 (((HI.out _).1 hI').grew g2),rfl,hF'.trans g2⟩
 subst hv;simp only[Act.put,sB,sS,sZ];iterate 4 (refine zg rfl rfl rfl (fun K hK=>?_);go_big_quiet_op;refine hK _ ?_;clear hK)
 refine zW rfl rfl (fun _ u=>JS w0 p w V N u) (fun w' hI' hF'=>?_) (fun v1 hv=>?_)
 ·refine zK.call [.pointer (some ⟨p,0,none⟩),.agg #[.int .u8 c0,.int .u8 c1,.int .u8 c2,.int .u8 c3,.int .u8 c4,.int .u8 c5,.int .u8 c6,.int .u8 c7],.int .i64 (fi:Int),.int .i64 (ix:Int)] rfl func166 rfl rfl rfl ?_;refine(HCW.out w' (G1.out.trans hF')).mono ?_;rintro e w'' ⟨rfl,hch⟩;have g9:=JS.of_grew (G1.out.trans hF') hch;obtain⟨V2,_,_,o2,_⟩:=hch;exact⟨_,rfl,(HI.out _).2 (((HI.out _).1 hI').chg o2 hpl),rfl,g9⟩
 subst hv;simp only[Act.put,sB,sS,sZ];refine qI fun W9 hI8 hF8=>?_
 have M9:Hid (JS w0 p w V N W9):=hF8;clear hI8 hF8 hI0 hF0 hy0 hy1 hy2 hy3 hy4 hy5 hy6 hy7 hyr hyu hyd hyf hyx hne gd;go_wp2;go_ret;exact⟨rfl,M9.out⟩
theorem zk9 (m:Ma) (pg:List Int) (file idx:Int):(wrM m pg file idx).fs=m.fs/\(wrM m pg file idx).hand=m.hand/\(wrM m pg file idx).ca=m.ca/\(wrM m pg file idx).sp=m.sp/\(wrM m pg file idx).sl=m.sl:=by
 unfold wrM
 split <;> exact⟨rfl,rfl,rfl,rfl,rfl⟩
def clM (m:Ma) (k:Nat) (f:Fr) (F:Fl):Ma:=
 if ZM m.fl m.cnt f.f f.x=0 then{ wrM m (zag (pgL f.p) f.x F.size) f.f f.x with fs:=m.fs.set k { f with d:=false } }else m
theorem zfl {w:World} {p:Nat} (h:ChW w0 p w V m) (k:Nat) (f:Fr) (hk:m.fs[k]? =some f) (fi ix:Nat) (F:Fl) (hf:f.f=(fi:Int)) (hx:f.x=(ix:Int)) (hF:m.fl[fi]? =some F) (hs:0<=F.size/\F.size<=96) (hi:ix<=12):
  Calls prog 74 #[.pointer (some ⟨p,0,none⟩),.int .i64 (k:Int)] w fun e w'=>e= .returned (.bool (decide (ZM m.fl m.cnt f.f f.x=0)))/\JS w0 p w V (clM m k f F) w':=by
 have hc:=zjV h k f hk fi ix F hf hx hF hs hi;obtain⟨N,HN⟩:∃N,Hid (wrM m (zag (pgL f.p) (ix:Int) F.size) fi ix=N):=⟨_,rfl⟩;have HNF:Hid (N.fs=m.fs):=dD<|by rw[<-HN.out];exact(zk9 _ _ _ _).1
 have HC1:Hid (ZM m.fl m.cnt f.f f.x=0->clM m k f F={ N with fs:=m.fs.set k { f with d:=false } }):=dD<|fun e=>by
  unfold clM;rw[if_pos e,hf,hx,HN.out]
 have HC2:Hid (ZM m.fl m.cnt f.f f.x≠0->clM m k f F=m/\N=m):=dD<|fun e=>⟨by
  unfold clM;rw[if_neg e],by
  rw[<-HN.out];unfold wrM;rw[hf,hx]at e;rw[if_neg e]⟩
 rw[HN.out,<-hf,<-hx]at hc;obtain⟨M,HM⟩:∃M,Hid (clM m k f F=M):=⟨_,rfl⟩;rw[HM.out]at HC1 HC2⊢;obtain⟨R,HR⟩:∃R:Bool,Hid (decide (ZM m.fl m.cnt f.f f.x=0)=R):=⟨_,rfl⟩;rw[HR.out]at hc⊢;have HKF:Hid (m.fs[k]? =some f):=hk;have hkl:=(gS.1 hk).1;clear h hk hf hx hF hs hi
 go_enter func74,ntmps74
 go_upto_region 1 with fail;go_wp2_with fail;refine hc.mono ?_;clear hc;rintro e W2 ⟨rfl,hch⟩;have HCH:Hid (JS w0 p w V N W2):=hch;clear hch
 cases R with
 | false=>
  have HN:Hid (M=m/\N=m):=dD<|HC2.out (of_decide_eq_false HR.out)
  have HRR:Hid (JS w0 p w V M W2):=dD<|by rw[HN.out.1,<-HN.out.2];exact HCH.out
  go_wp2;go_ret;exact⟨rfl,HRR.out⟩
 | true=>
  have HN:Hid (M={ N with fs:=m.fs.set k { f with d:=false } }):=dD<|HC1.out (of_decide_eq_true HR.out)
  obtain⟨V2,e2,m2,o2,d2⟩:=HCH.out;have E2:Hid (V2.ca=V.ca):=e2;have M2:Hid (ChW w0 p W2 V2 N):=m2;have O2:Hid (jv (Dw p V) w W2):=o2;have D2:Hid (∀k,Dw p V2 k->Dw p V k\/w.heap.size<=k):=d2;obtain⟨g,c9,heq⟩:=m2.fs.formS (by rw[HNF.out];omega)
  have x0:=m2.box.box.c 0 rfl;rw[heq]at x0;have HFO:Hid (zb QO w0.heap.size W2 (.slice (some ⟨g,0,none⟩) N.fs.length c9) m.fs):=dD<|by rw[<-heq,<-HNF.out];exact m2.fs
  have HG:Hid (oB V2.f g):=dD<|by unfold oB;rw[heq];rfl
  have HEQ:Hid (Value.slice V2.f.a V2.f.n V2.f.c= .slice (some ⟨g,0,none⟩) N.fs.length c9):=heq;have hlt:(k:Int)< (N.fs.length:Int):=by rw[HNF.out];omega
  clear m2 o2 d2 e2 heq
  go_wp2_with (refine zt (E:=QO) rfl (.tmp 17) (.const (.bool false)) 4 rfl w0.heap.size _ m.fs HFO.out g k 10 rfl f { f with d:=false } HKF.out [.bool false] (by kernel_rfl) rfl (Nat.le_of_ble_eq_true rfl) (by intro u hu;simp at hu;subst hu;rfl) ⟨g,k*13+10,none⟩ rfl rfl _ rfl rfl ?_)
  intro W3 ow3 gr3 _;have HRR:Hid (JS w0 p w V M W3):=dD<|by
   rw[HN.out];refine JS.step O2.out D2.out E2.out (M2.out.frameC HG.out gr3 ?_);rw[HEQ.out];exact ow3
  go_wp2;go_ret;exact⟨rfl,HRR.out⟩
end
end Go.Proofs.YtacihbmelcegbaaGreat
