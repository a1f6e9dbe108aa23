/- ForkCheap,proved:a fork copies nothing:as many frames,and slots,are free behind it as ahead,whatever the numbers,bytes and process. No condition. -/
import Derived.Test.YtangilolcekceaaGreatPF7
import Derived.Deep.CutRange
import Derived.Deep.DeepCutAuto
import Derived.Laws.BytesArg
import Derived.Test.YtangilolcekceaaGreatRows
import Derived.WalkKit
import Derived.ProofKit
import Derived.OpenShut
import Derived.ShutString
import Derived.ChangeOld
import Derived.Below
import Derived.Carry
import Derived.SizedLaws
import Derived.Deep.Slices
import Derived.Test.YtangilolcekceaaGreatChecked
namespace Go.Proofs.YtangilolcekceaaGreat
set_option maxRecDepth 100000
set_option maxHeartbeats 4000000
section
open Go.RowKit
theorem build_any (F S B:Int) (nf ns nb:Nat) (hnf:max (min F 40) 0=(nf:Int)) (hns:max (min S 60) 0=(ns:Int)) (hnb:max (min B 80) 0=(nb:Int)) (vl:Sli) (L:List Int) (w:World) (lr:RowAt byE w (.slice vl.a vl.n vl.c) L) (lc:vl.n<=vl.c) (lb:∀z∈L,0<=z/\z<256):
  Calls Tryz.prog 8 #[.int .i64 F,.int .i64 S,.int .i64 B,.slice vl.a vl.n vl.c] w fun e w'=>∃(V:MaV) (m:Ma) (T:List (Nat->En)) (hd:Int) (hi ht:Nat) (vt:Sli),e= .returned (.agg #[.slice V.f.a V.f.n V.f.c,.int .i64 hd,.slice V.s.a V.s.n V.s.c,.slice V.sb.a V.sb.n V.sb.c,.slice V.sq.a V.sq.n V.sq.c,.slice V.db.a V.db.n V.db.c,.slice V.dq.a V.dq.n V.dq.c,.slice V.fl.a V.fl.n V.fl.c,.int .i64 m.cnt,.slice V.ca.a V.ca.n V.ca.c,.slice V.sp.a V.sp.n V.sp.c])/\Built w nf ns nb L w' V m T hd hi ht vt:=by
 have hnf40:nf<=40:=by omega
 have hns60:ns<=60:=by omega
 have hnb80:nb<=80:=by omega
 obtain⟨W0,hW0⟩:∃W0,(w.alloc (.cells #[.slice none 0 0,.int .i64 0,.slice none 0 0,.slice none 0 0,.slice none 0 0,.slice none 0 0,.slice none 0 0,.slice none 0 0,.int .i64 0,.slice none 0 0,.slice none 0 0] 40)).alloc (.cells #[.slice vl.a vl.n vl.c,.slice none 0 0,.int .i64 0,.slice none 0 0,.slice none 0 0,.slice none 0 0,.slice none 0 0,.slice none 0 0,.slice none 0 0,.int .i64 0,.slice none 0 0,.slice none 0 0,.slice none 0 0] 87)=W0:=⟨_,rfl⟩;have G0:=gD2 hW0
 have X0:Hid (BoxT W0 w.heap.size 40 [.slice none 0 0,.int .i64 0,.slice none 0 0,.slice none 0 0,.slice none 0 0,.slice none 0 0,.slice none 0 0,.slice none 0 0,.int .i64 0,.slice none 0 0,.slice none 0 0]):=show BoxT _ _ _ _ by rw[<-hW0];exact(BoxT.top _ [.slice none 0 0,.int .i64 0,.slice none 0 0,.slice none 0 0,.slice none 0 0,.slice none 0 0,.slice none 0 0,.slice none 0 0,.int .i64 0,.slice none 0 0,.slice none 0 0] _ rfl).grew (grew_alloc _ _)
 have Y0:Hid (BoxT W0 (w.heap.size+1) 87 [.slice vl.a vl.n vl.c,.slice none 0 0,.int .i64 0,.slice none 0 0,.slice none 0 0,.slice none 0 0,.slice none 0 0,.slice none 0 0,.slice none 0 0,.int .i64 0,.slice none 0 0,.slice none 0 0,.slice none 0 0]):=show BoxT _ _ _ _ by rw[<-hW0];exact BoxT.top _ [.slice vl.a vl.n vl.c,.slice none 0 0,.int .i64 0,.slice none 0 0,.slice none 0 0,.slice none 0 0,.slice none 0 0,.slice none 0 0,.slice none 0 0,.int .i64 0,.slice none 0 0,.slice none 0 0,.slice none 0 0] _ (by simp)
 have HW0:Hid (_=W0):=hW0;have HLR:Hid (RowAt byE w (.slice vl.a vl.n vl.c) L):=lr;have HLC:Hid (vl.n<=vl.c):=lc;have HLB:Hid (∀z∈L,0<=z/\z<256):=show∀z,_ from lb
 clear hW0 lr lc lb
 go_enter Tryz.func8,Tryz.ntmps8
 go_upto_region 3 with fail;rw[HW0.out];try rw[hnf]
 try rw[hns]
 try rw[hnb]
 clear hnf hns hnb HW0;obtain⟨b,HBB⟩:∃b,Hid (w.heap.size+1=b):=⟨_,rfl⟩;rw[HBB.out]at Y0⊢;obtain⟨I,HI⟩:∃I:World->Prop,Hid (∀u,I u↔Grew W0 u):=⟨fun u=>Grew W0 u,fun _=>Iff.rfl⟩
 have hI0:I W0.drew:=(HI.out _).2 (gW _)
 have hne:Nonempty (HoldI I):=⟨⟨_,hI0⟩⟩;refine wp_lax_tailJ (I:=I) (J:=JB nf ns nb) 17 [(2,⟨fun v=>∃g,v= .slice (some ⟨g,0,none⟩) nf nf,fun v u=>OwnRow frmE w.heap.size u v (List.replicate nf fr0),fun p q=>Grew p q,fun _=>True⟩),(5,⟨fun v=>∃g,v= .slice (some ⟨g,0,none⟩) ns ns,fun v u=>OwnRow slE w.heap.size u v (List.replicate ns 0),fun p q=>Grew p q,fun _=>True⟩),(7,⟨fun v=>∃g,v= .slice (some ⟨g,0,none⟩) ns ns,fun v u=>OwnPages w.heap.size u v (List.replicate ns zero8),fun p q=>Grew p q,fun _=>True⟩),(10,⟨fun v=>∃g,v= .slice (some ⟨g,0,none⟩) nb nb,fun v u=>OwnPages w.heap.size u v (List.replicate nb zero8),fun p q=>Grew p q,fun _=>True⟩)] hI0 ?hJ0 ?hJq ?hJs ?hJu mixed (by kernel_rfl) rfl rfl (by decide) ?hS ?hp ?hpre ?hpr0 ?_
 case hJ0=>
  refine⟨⟨rfl,rfl,rfl⟩,fun s hs=> .inl ?_,fun s hs x n c he=>?_,fun s hs t ht hst x n c y n' c' he=>?_⟩
  ·simp only[mC,nM,or_false]at hs
   rcases hs with rfl | rfl | rfl | rfl <;> rfl
  ·simp only[mC,nM,or_false]at hs
   rcases hs with rfl | rfl <;> cases he
  simp only[mC,nM,or_false]at hs
  rcases hs with rfl | rfl <;> cases he
 case hJq=>
  intro j o hj hS a v u hr hJ;exact hJ.quiet (okL_spec (Sx:=[2,5,7,10]) (by kernel_rfl) hj (lookup_out hS)) (by omega) (by omega) hnb80 hr
 case hJs=>
  intro j o s hj hs a u K hJ hI hd;have hs':=lookup_in hs;clear hs;simp only[mC,pJ,nM,or_false]at hs'
  rcases hs' with⟨rfl,rfl⟩ | ⟨rfl,rfl⟩ | ⟨rfl,rfl⟩ | ⟨rfl,rfl⟩
  ·cases hj;obtain⟨i0,hi,hz0,hz1,hz2⟩:=info_parts frmE.info;exact hJ.make 25 59 i0 _ 32 rfl (by simp) frmE.und hi hz0 (by rw[hz2];decide) (by decide) hd
  ·cases hj;obtain⟨i0,hi,hz0,hz1,hz2⟩:=info_parts slE.info;exact hJ.make 29 3 i0 _ 35 rfl (by simp) slE.und hi hz0 (by rw[hz2];decide) (by decide) hd
  ·cases hj;obtain⟨i0,hi,hz0,hz1,hz2⟩:=info_parts Tryz.infoPage;exact hJ.make 30 50 i0 _ 37 rfl (by simp) Tryz.underlying30 hi hz0 (by rw[hz2];decide) (by decide) hd
  cases hj;obtain⟨i0,hi,hz0,hz1,hz2⟩:=info_parts Tryz.infoPage;exact hJ.make 30 50 i0 _ 40 rfl (by simp) Tryz.underlying30 hi hz0 (by rw[hz2];decide) (by decide) hd
 case hJu=>
  intro j o hj a u hJ;exact hJ.undef (okD_spec (by kernel_rfl) hj)
 case hS=>
  intro x hx;simp only[mC,nM,or_false]at hx
  rcases hx with rfl | rfl | rfl | rfl <;> exact⟨_,0,rfl⟩
 case hp=>
  intro k s j t hk hj hjk hanc v p q hst hpo;have hk':=lookup_in hk;have hj':=lookup_in hj;clear hk hj;simp only[mC,pJ,nM,or_false]at hk' hj';have hg:Grew p q:=by rcases hj' with⟨rfl,rfl⟩ | ⟨rfl,rfl⟩ | ⟨rfl,rfl⟩ | ⟨rfl,rfl⟩ <;> exact hst
  rcases hk' with⟨rfl,rfl⟩ | ⟨rfl,rfl⟩ | ⟨rfl,rfl⟩ | ⟨rfl,rfl⟩
  ·exact OwnRow.grew hpo hg
  ·exact OwnRow.grew hpo hg
  ·exact OwnPages.grew hpo hg
  exact OwnPages.grew hpo hg
 case hpre=>
  intro j t k s hj hk hjk p q hst hpr;have hj':=lookup_in hj;clear hk hj;simp only[mC,pJ,nM,or_false]at hj'
  rcases hj' with⟨rfl,rfl⟩ | ⟨rfl,rfl⟩ | ⟨rfl,rfl⟩ | ⟨rfl,rfl⟩ <;> trivial
 case hpr0=>
  intro k t hk;have hk':=lookup_in hk;clear hk;simp only[mC,pJ,nM,or_false]at hk'
  rcases hk' with⟨rfl,rfl⟩ | ⟨rfl,rfl⟩ | ⟨rfl,rfl⟩ | ⟨rfl,rfl⟩ <;> trivial
 simp only[List.take,List.drop];iterate 2 (refine laxI_quiet rfl rfl rfl (fun K hK=>?_);go_big_quiet_op;refine hK _ ?_;clear hK K)
 refine laxI_spec rfl rfl (fun w' hI' hpr hF=>?_) (fun v1 hv=>?_)
 ·have hg:=(HI.out _).1 hI';exact does_make_row frmE w' nf (by show nf*40<=_;omega) (.tmp 32) rfl rfl (fun C ho=>⟨(HI.out _).2 (hg.trans (grew_alloc _ _)),grew_alloc _ _,⟨_,rfl⟩,ho.base (nT (bS G0.out) (bS hg))⟩)
 obtain⟨gf,rfl⟩:=hv;simp only[Act.put,sB,sS,sZ];iterate 2 (refine laxI_quiet rfl rfl rfl (fun K hK=>?_);go_big_quiet_op;refine hK _ ?_;clear hK K)
 refine laxI_spec rfl rfl (fun w' hI' hpr hF=>?_) (fun v1 hv=>?_)
 ·have hg:=(HI.out _).1 hI';exact does_make_row slE w' ns (by show ns*8<=_;omega) (.tmp 35) rfl rfl (fun C ho=>⟨(HI.out _).2 (hg.trans (grew_alloc _ _)),grew_alloc _ _,⟨_,rfl⟩,ho.base (nT (bS G0.out) (bS hg))⟩)
 obtain⟨gl,rfl⟩:=hv;simp only[Act.put,sB,sS,sZ];iterate 1 (refine laxI_quiet rfl rfl rfl (fun K hK=>?_);go_big_quiet_op;refine hK _ ?_;clear hK K)
 refine laxI_spec rfl rfl (fun w' hI' hpr hF=>?_) (fun v1 hv=>?_)
 ·have hg:=(HI.out _).1 hI';exact does_make_pages w' ns (by omega) (.tmp 37) rfl rfl (fun C ho=>⟨(HI.out _).2 (hg.trans (grew_alloc _ _)),grew_alloc _ _,⟨_,rfl⟩,ho.base (nT (bS G0.out) (bS hg))⟩)
 obtain⟨gsb,rfl⟩:=hv;simp only[Act.put,sB,sS,sZ];iterate 2 (refine laxI_quiet rfl rfl rfl (fun K hK=>?_);go_big_quiet_op;refine hK _ ?_;clear hK K)
 refine laxI_spec rfl rfl (fun w' hI' hpr hF=>?_) (fun v1 hv=>?_)
 ·have hg:=(HI.out _).1 hI';exact does_make_pages w' nb hnb80 (.tmp 40) rfl rfl (fun C ho=>⟨(HI.out _).2 (hg.trans (grew_alloc _ _)),grew_alloc _ _,⟨_,rfl⟩,ho.base (nT (bS G0.out) (bS hg))⟩)
 obtain⟨gdb,rfl⟩:=hv;simp only[Act.put,sB,sS,sZ];iterate 4 (refine laxI_quiet rfl rfl rfl (fun K hK=>?_);go_big_quiet_op;refine hK _ ?_;clear hK K)
 refine laxI_nilc (.tmp 31) ⟨b,0,none⟩ rfl rfl rfl rfl ?_;simp only[Act.put,sB,sS,sZ];iterate 1 (refine laxI_quiet rfl rfl rfl (fun K hK=>?_);go_big_quiet_op;refine hK _ ?_;clear hK K)
 refine laxI_nil fun W1 hI1 hF hJ=>?_
 have hap:gsb≠gdb:=hJ.2.2.2 38 (by simp) 41 (by simp) (by decide) ⟨gsb,0,none⟩ ns ns ⟨gdb,0,none⟩ nb nb rfl rfl
 have o1:OwnRow frmE w.heap.size W1 (.slice (some ⟨gf,0,none⟩) nf nf) (List.replicate nf fr0):=hF 2;have o2:OwnRow slE w.heap.size W1 (.slice (some ⟨gl,0,none⟩) ns ns) (List.replicate ns 0):=hF 5;have o3:OwnPages w.heap.size W1 (.slice (some ⟨gsb,0,none⟩) ns ns) (List.replicate ns zero8):=hF 7;have o4:OwnPages w.heap.size W1 (.slice (some ⟨gdb,0,none⟩) nb nb) (List.replicate nb zero8):=hF 10;have g1:=(HI.out _).1 hI1;have Y1:=dD (Y0.out.grew g1);have X1:=dD (X0.out.grew g1);have G1:=dD (G0.out.trans g1);clear hF hJ hI1 hI0 hne HI g1;refine wp_storeMidT rfl 40 (.tmp 47) (.tmp 45) rfl b 1 rfl [.slice (some ⟨gf,0,none⟩) nf nf,.int .i64 0,.slice (some ⟨gl,0,none⟩) ns ns,.slice (some ⟨gsb,0,none⟩) ns ns,.slice none 0 0,.slice (some ⟨gdb,0,none⟩) nb nb,.slice none 0 0,.slice none 0 0,.int .i64 (nb:Int),.slice none 0 0,.slice none 0 0] rfl Y1.out (by simp) (by kernel_rfl) (fun v hv=>by simp only[mC,nM,or_false]at hv;rcases hv with rfl | rfl | rfl | rfl | rfl | rfl | rfl | rfl | rfl | rfl | rfl <;> rfl) ?_
 intro W2 hb2 hg2 hs2;have B2:BoxT W2 b 87 [.slice vl.a vl.n vl.c,.slice (some ⟨gf,0,none⟩) nf nf,.int .i64 0,.slice (some ⟨gl,0,none⟩) ns ns,.slice (some ⟨gsb,0,none⟩) ns ns,.slice none 0 0,.slice (some ⟨gdb,0,none⟩) nb nb,.slice none 0 0,.slice none 0 0,.int .i64 (nb:Int),.slice none 0 0,.slice none 0 0,.slice none 0 0]:=hb2;have M2:Hid (Mk w W2.heap.size W2 b vl L ⟨⟨some ⟨gf,0,none⟩,nf,nf⟩,⟨some ⟨gl,0,none⟩,ns,ns⟩,⟨some ⟨gsb,0,none⟩,ns,ns⟩,sli0,⟨some ⟨gdb,0,none⟩,nb,nb⟩,sli0,sli0,sli0,sli0⟩ ⟨List.replicate nf fr0,0,List.replicate ns 0,List.replicate ns zero8,[],List.replicate nb zero8,[],[],nb,[],[]⟩ sli0 []):=mk_start (grew_grown G1.out hg2 (by have:=HBB.out;omega)) (by have:=HBB.out;omega) B2 HLR.out HLC.out HLB.out (o1.kind hg2 Y1.out (by decide)) (o2.kind hg2 Y1.out (by decide)) ⟨ownsRow_kind o3.1 hg2 Y1.out (by decide),o3.2⟩ ⟨ownsRow_kind o4.1 hg2 Y1.out (by decide),o4.2⟩ hap
 have X2:Hid (BoxT W2 w.heap.size 40 [.slice none 0 0,.int .i64 0,.slice none 0 0,.slice none 0 0,.slice none 0 0,.slice none 0 0,.slice none 0 0,.slice none 0 0,.int .i64 0,.slice none 0 0,.slice none 0 0]):=X1.out.beside hg2 (fun g e=>by cases e;have:=HBB.out;omega)
 clear hb2 hg2 hs2 B2 o1 o2 o3 o4 hap Y1 X1 G1;obtain⟨hi,HHI⟩:∃hi,Hid (W2.heap.size=hi):=⟨_,rfl⟩;rw[HHI.out]at M2;try simp only[Act.put]
 have x1:=M2.out.box.box.c 1 rfl;go_wp2;clear x1
 go_loopg [55] nf (fun gg s55 wr=>∃kk:Nat,kk<=nf/\nf - kk<=gg/\s55= .int .i64 kk/\Hid (Mk w hi wr b vl L ⟨⟨some ⟨gf,0,none⟩,nf,nf⟩,⟨some ⟨gl,0,none⟩,ns,ns⟩,⟨some ⟨gsb,0,none⟩,ns,ns⟩,sli0,⟨some ⟨gdb,0,none⟩,nb,nb⟩,sli0,sli0,sli0,sli0⟩ ⟨fsTo nf kk,0,List.replicate ns 0,List.replicate ns zero8,[],List.replicate nb zero8,[],[],nb,[],[]⟩ sli0 [])/\Hid (BoxT wr w.heap.size 40 [.slice none 0 0,.int .i64 0,.slice none 0 0,.slice none 0 0,.slice none 0 0,.slice none 0 0,.slice none 0 0,.slice none 0 0,.int .i64 0,.slice none 0 0,.slice none 0 0]))
 case atStart=>exact⟨0,nZ _,by omega,rfl,by rw[fsTo_zero];exact M2.out,X2.out⟩
 obtain⟨kk,hkk,hgg,rfl,MW,XW⟩:=hrel;clear M2 X2
 by_cases hlt:kk<nf
 ·have hltz:(kk:Int)< (nf:Int):=by omega
  have x1:=MW.out.box.box.c 1 rfl;have R:Hid (OwnRow frmE w.heap.size wr (.slice (some ⟨gf,0,none⟩) nf nf) (fsTo nf kk)):=MW.out.rows.fs;have d:wr.cell? ⟨gf,kk*13+11,none⟩=some (.int .i64 0):=by
   have:=R.out.one (fsTo_at hlt) 11 _ rfl;rw[add_add',Addr.add_lit,zA]at this;exact this
  have xf:=R.out.unfrozen rfl;obtain⟨ow,gr,sz⟩:=R.out.cell (k:=kk) (o:=11) rfl (fsTo_at hlt) (y:=frF) (u:= .int .i64 (-1)) rfl (by decide)
  rw[fsTo_set hlt]at ow;have hM:=MW.out.setF rfl gr sz ow;have M3:Hid (Mk w hi (wr.setCell ⟨gf,kk*13+11,none⟩ (.int .i64 (-1))) b vl L ⟨⟨some ⟨gf,0,none⟩,nf,nf⟩,⟨some ⟨gl,0,none⟩,ns,ns⟩,⟨some ⟨gsb,0,none⟩,ns,ns⟩,sli0,⟨some ⟨gdb,0,none⟩,nb,nb⟩,sli0,sli0,sli0,sli0⟩ ⟨fsTo nf (kk+1),0,List.replicate ns 0,List.replicate ns zero8,[],List.replicate nb zero8,[],[],nb,[],[]⟩ sli0 []):=hM.1;have X3:Hid (BoxT (wr.setCell ⟨gf,kk*13+11,none⟩ (.int .i64 (-1))) w.heap.size 40 [.slice none 0 0,.int .i64 0,.slice none 0 0,.slice none 0 0,.slice none 0 0,.slice none 0 0,.slice none 0 0,.slice none 0 0,.int .i64 0,.slice none 0 0,.slice none 0 0]):=hM.2.1 _ _ _ XW.out ⟨by decide,by decide,by decide,by decide,by decide,by decide,by decide,by decide,fun h=>absurd h (by decide)⟩
  clear hM ow gr sz R;go_wp2
  go_roundg (nf -(kk+1))
  case measure=>omega
  exact⟨kk+1,by omega,by omega,by go_num,M3.out,X3.out⟩
 have hltz:¬(kk:Int)< (nf:Int):=by omega
 obtain rfl:nf=kk:=by omega
 rw[fsTo_all]at MW;have hpk:=pick_any 3 MW.out;go_wp2_with fail;refine hpk.mono ?_;clear hpk;rintro e W3 ⟨vl1,L1,y,rfl,mk1,gr1,sz1,y0,y1,yn,ll⟩;obtain⟨c,rfl⟩:∃c:Nat,y=(c:Int):=⟨y.toNat,by omega⟩
 have hc3:c<3:=by rcases y1 with h | h <;> omega
 have HC0:Hid (L=[]->c=0):=show _->_ from fun e=>by have:=yn e;omega
 have M3:Hid (Mk w hi W3 b vl1 L1 ⟨⟨some ⟨gf,0,none⟩,nf,nf⟩,⟨some ⟨gl,0,none⟩,ns,ns⟩,⟨some ⟨gsb,0,none⟩,ns,ns⟩,sli0,⟨some ⟨gdb,0,none⟩,nb,nb⟩,sli0,sli0,sli0,sli0⟩ ⟨List.replicate nf frF,0,List.replicate ns 0,List.replicate ns zero8,[],(List.replicate nb zero8),[],[],nb,[],[]⟩ sli0 []):=mk1;have X3:Hid (BoxT W3 w.heap.size 40 [.slice none 0 0,.int .i64 0,.slice none 0 0,.slice none 0 0,.slice none 0 0,.slice none 0 0,.slice none 0 0,.slice none 0 0,.int .i64 0,.slice none 0 0,.slice none 0 0]):=XW.out.beside gr1 (fun g e=>by cases e;have:=HBB.out;omega)
 have LL3:Hid (Less L L1):=ll;clear mk1 gr1 sz1 y0 y1 yn ll MW XW;go_wp2
 go_loopg [70] c (fun gg s70 wr=>∃(k2:Nat) (vl':Sli) (L':List Int) (sd sf:Sli) (db:List (List Int)) (dq:List (Int × List Int)) (fl:List Fl),k2<=c/\c - k2<=gg/\s70= .int .i64 k2/\Hid (Mk w hi wr b vl' L' ⟨⟨some ⟨gf,0,none⟩,nf,nf⟩,⟨some ⟨gl,0,none⟩,ns,ns⟩,⟨some ⟨gsb,0,none⟩,ns,ns⟩,sli0,⟨some ⟨gdb,0,none⟩,nb,nb⟩,sd,sf,sli0,sli0⟩ ⟨List.replicate nf frF,0,List.replicate ns 0,List.replicate ns zero8,[],db,dq,fl,nb,[],[]⟩ sli0 [])/\Hid (Less L L')/\Hid (BoxT wr w.heap.size 40 [.slice none 0 0,.int .i64 0,.slice none 0 0,.slice none 0 0,.slice none 0 0,.slice none 0 0,.slice none 0 0,.slice none 0 0,.int .i64 0,.slice none 0 0,.slice none 0 0])/\Hid (FInv fl nb db dq []/\fl.length<=k2/\db.length=nb/\∀f∈fl,f.size<40)/\Hid (k2=0->fl=[]/\dq=[]/\db=List.replicate nb zero8))
 case atStart=>exact⟨0,vl1,L1,sli0,sli0,_,_,_,nZ _,by omega,rfl,M3.out,LL3.out,X3.out,(show _/\_ from⟨FInv.zero hnb80,nZ _,lR,fun f hf=>(by cases hf)⟩),(fun _=>⟨rfl,rfl,rfl⟩)⟩
 obtain⟨k2,vl2,L2,sd,sf,db,dq,fl,hk2,hg2,rfl,MW,LW,XW,FW,ZW⟩:=hrel;clear M3 X3 LL3
 by_cases hlt2:k2<c
 ·have hltz2:(k2:Int)< (c:Int):=by omega
  have hpk2:=pick_any 40 MW.out;go_wp2_with fail;refine hpk2.mono ?_;clear hpk2;rintro e W4 ⟨vl4,L4,sz,rfl,mk4,gr4,-,s0,s1,-,ll4⟩;have hsz:sz<40:=by rcases s1 with h | h <;> omega
  have M4:Hid (Mk w hi W4 b vl4 L4 ⟨⟨some ⟨gf,0,none⟩,nf,nf⟩,⟨some ⟨gl,0,none⟩,ns,ns⟩,⟨some ⟨gsb,0,none⟩,ns,ns⟩,sli0,⟨some ⟨gdb,0,none⟩,nb,nb⟩,sd,sf,sli0,sli0⟩ ⟨List.replicate nf frF,0,List.replicate ns 0,List.replicate ns zero8,[],db,dq,fl,nb,[],[]⟩ sli0 []):=mk4;have X4:Hid (BoxT W4 w.heap.size 40 [.slice none 0 0,.int .i64 0,.slice none 0 0,.slice none 0 0,.slice none 0 0,.slice none 0 0,.slice none 0 0,.slice none 0 0,.int .i64 0,.slice none 0 0,.slice none 0 0]):=XW.out.beside gr4 (fun g e=>by cases e;have:=HBB.out;omega)
  have LL4:=dD (LW.out.trans ll4);clear mk4 gr4 ll4 MW XW LW s1;go_upto_region 12 with fail;obtain⟨pf,HPF⟩:∃pf,Hid (W4.heap.size=pf):=⟨_,rfl⟩;obtain⟨W5,hW5⟩:∃W5,W4.alloc (.cells #[.int .i64 sz,.slice none 0 0] 71)=W5:=⟨_,rfl⟩;have g5:=gP hW5
  have P5:=xPT hW5 HPF
  have M5:=dD (M4.out.grew g5);have X5:=dD (X4.out.grew g5);have FB5:Hid (FlB w.heap.size hi pf W5 ⟨⟨some ⟨gf,0,none⟩,nf,nf⟩,⟨some ⟨gl,0,none⟩,ns,ns⟩,⟨some ⟨gsb,0,none⟩,ns,ns⟩,sli0,⟨some ⟨gdb,0,none⟩,nb,nb⟩,sd,sf,sli0,sli0⟩ ⟨List.replicate nf frF,0,List.replicate ns 0,List.replicate ns zero8,[],db,dq,fl,nb,[],[]⟩):=show FlB _ _ _ _ _ _ by rw[<-HPF.out];exact M4.out.rows.flB.grew g5
  have HHP:Hid (hi<=pf):=show _<=_ by rw[<-HPF.out];exact M4.out.rows.hw
  have HFN:Hid (∀g,(Value.slice sf.a sf.n sf.c).ownBlock=some g->g<pf):=show∀g,_ from fun g hg=>by rw[<-HPF.out];obtain⟨xs,q1,-,-⟩:=M4.out.rows.fl;exact(q1.lt g hg).2
  rw[hW5,HPF.out];clear hW5 g5 M4 X4;have p0:=P5.out.box.c 0 rfl;have hcn:=refCount_any sz W5 s0 (by omega)
  go_wp2_with fail;refine hcn.mono ?_;clear hcn p0;rintro e W6 ⟨rfl,hw6⟩;rw[hw6];clear hw6 W6;have HC9:Hid (cntP sz<=5):=show _<=_ by unfold cntP;split <;> omega
  obtain⟨N3,HN3⟩:∃N3:Nat,Hid (cntP sz=(N3:Int)):=⟨(cntP sz).toNat,show _=_ by unfold cntP;split <;> omega⟩
  rw[HN3.out];have HSZ:Hid (0<=sz/\sz<40):=show _/\_ from⟨s0,hsz⟩
  have hN35:N3<=5:=by have:=HC9.out;have:=HN3.out;omega
  have F5:Hid (FC w hi b W5 vl4 L4 ⟨⟨some ⟨gf,0,none⟩,nf,nf⟩,⟨some ⟨gl,0,none⟩,ns,ns⟩,⟨some ⟨gsb,0,none⟩,ns,ns⟩,sli0,⟨some ⟨gdb,0,none⟩,nb,nb⟩,sd,sf,sli0,sli0⟩ ⟨List.replicate nf frF,0,List.replicate ns 0,List.replicate ns zero8,[],db,dq,fl,nb,[],[]⟩ pf sz sli0 []):=show FC _ _ _ _ _ _ _ _ _ _ _ _ from⟨M5.out,HHP.out,FB5.out,HFN.out,P5.out,OwnRow.nil _ _ _⟩
  have HF0:Hid (FInv fl nb db dq []/\db.length=nb):=show _/\_ from⟨FW.out.1,FW.out.2.2.1⟩
  have HF40:Hid (∀f∈fl,f.size<40):=show∀f,_ from FW.out.2.2.2
  have HFL:Hid (fl.length<=k2):=show _<=_ from FW.out.2.1
  clear s0 hsz M5 FB5 P5 HHP FW ZW HC9;go_wp2
  go_loopg [78] N3 (fun gg s78 wr=>∃(k3:Nat) (vl':Sli) (L':List Int) (sd' bs:Sli) (db':List (List Int)) (dq':List (Int × List Int)) (bl:List Int),k3<=N3/\N3 - k3<=gg/\s78= .int .i64 k3/\Hid (FC w hi b wr vl' L' ⟨⟨some ⟨gf,0,none⟩,nf,nf⟩,⟨some ⟨gl,0,none⟩,ns,ns⟩,⟨some ⟨gsb,0,none⟩,ns,ns⟩,sli0,⟨some ⟨gdb,0,none⟩,nb,nb⟩,sd',sf,sli0,sli0⟩ ⟨List.replicate nf frF,0,List.replicate ns 0,List.replicate ns zero8,[],db',dq',fl,nb,[],[]⟩ pf sz bs bl)/\Hid (Less L L')/\Hid (BoxT wr w.heap.size 40 [.slice none 0 0,.int .i64 0,.slice none 0 0,.slice none 0 0,.slice none 0 0,.slice none 0 0,.slice none 0 0,.slice none 0 0,.int .i64 0,.slice none 0 0,.slice none 0 0])/\Hid (FInv fl nb db' dq' bl/\bl.length=k3/\db'.length=nb))
  case atStart=>exact⟨0,vl4,L4,sd,sli0,db,dq,[],nZ _,by omega,rfl,F5.out,LL4.out,X5.out,(show _/\_ from⟨HF0.out.1,rfl,HF0.out.2⟩)⟩
  obtain⟨k3,vl6,L6,sd6,bs,db6,dq6,bl,hk3,hg3,rfl,FX,LX,XX,FI⟩:=hrel;clear F5 LL4 X5 HF0
  by_cases hlt3:k3<N3
  ·have hltz3:(k3:Int)< (N3:Int):=by omega
   have hpk7:=pick_any (max (nb:Int) 1) FX.out.mm;go_wp2_with fail;refine hpk7.mono ?_;clear hpk7;rintro e W7 ⟨vl7,L7,x,rfl,mk7,gr7,-,x0,-,-,ll7⟩;obtain⟨n,rfl⟩:∃n:Nat,x=(n:Int):=⟨x.toNat,by omega⟩
   have F7:Hid (FC w hi b W7 vl7 L7 ⟨⟨some ⟨gf,0,none⟩,nf,nf⟩,⟨some ⟨gl,0,none⟩,ns,ns⟩,⟨some ⟨gsb,0,none⟩,ns,ns⟩,sli0,⟨some ⟨gdb,0,none⟩,nb,nb⟩,sd6,sf,sli0,sli0⟩ ⟨List.replicate nf frF,0,List.replicate ns 0,List.replicate ns zero8,[],db6,dq6,fl,nb,[],[]⟩ pf sz bs bl):=FX.out.pick gr7 mk7;have X7:Hid (BoxT W7 w.heap.size 40 [.slice none 0 0,.int .i64 0,.slice none 0 0,.slice none 0 0,.slice none 0 0,.slice none 0 0,.slice none 0 0,.slice none 0 0,.int .i64 0,.slice none 0 0,.slice none 0 0]):=XX.out.kind gr7 FX.out.mm.box (by decide)
   have LL7:=dD (LX.out.trans ll7);clear mk7 gr7 ll7 x0 FX XX LX;go_upto_region 17 with fail
   go_cut [78,109]from 78 to 160 (fun s78 s109 wx=>∃(tk:Bool) (vl':Sli) (L':List Int),s78= .int .i64 k3/\s109= .bool tk/\Hid (FC w hi b wx vl' L' ⟨⟨some ⟨gf,0,none⟩,nf,nf⟩,⟨some ⟨gl,0,none⟩,ns,ns⟩,⟨some ⟨gsb,0,none⟩,ns,ns⟩,sli0,⟨some ⟨gdb,0,none⟩,nb,nb⟩,sd6,sf,sli0,sli0⟩ ⟨List.replicate nf frF,0,List.replicate ns 0,List.replicate ns zero8,[],db6,dq6,fl,nb,[],[]⟩ pf sz bs bl)/\Hid (Less L L')/\Hid (BoxT wx w.heap.size 40 [.slice none 0 0,.int .i64 0,.slice none 0 0,.slice none 0 0,.slice none 0 0,.slice none 0 0,.slice none 0 0,.slice none 0 0,.int .i64 0,.slice none 0 0,.slice none 0 0])/\Hid (tk=true->n<nb/\usedB (fl++ [⟨sz,bl⟩]) (n:Int)=false))
   case first=>
    by_cases hn:n<nb
    ·have hnz:(n:Int)< (nb:Int):=by omega
     have hnd:decide ((n:Int)< (nb:Int))=true:=by simpa using hnz
     obtain⟨xs,q1,q2,q3⟩:=F7.out.fb;have HX:Hid (OwnRow fvE w.heap.size W7 (.slice sf.a sf.n sf.c) xs):=q1;obtain⟨nF,HNF⟩:∃nF,Hid (fl.length=nF):=⟨_,rfl⟩;have HXL:Hid (xs.length=nF):=show _=_ by rw[q2];exact HNF.out
     have hnF:nF<=10:=by have:=HFL.out;have:=HNF.out;omega
     have HSN:Hid (sf.n=nF):=show _=_ by rw[q1.n];exact HXL.out
     have HX3:Hid (∀(i:Nat) x f,xs[i]? =some x->fl[i]? =some f->x.size=f.size/\OwnRow blE hi W7 x.v f.bl):=show∀i,_ from fun i x f hx hf=>(q3 i x f hx hf).1
     clear q1 q2 q3;obtain⟨fx,HFX⟩:∃fx:FlV,Hid (fx=⟨sz,bs.a,bs.n,bs.c⟩):=⟨_,rfl⟩;obtain⟨UB,HUB⟩:∃UB,Hid (usedB (fl++ [(⟨sz,bl⟩:Fl)]) (n:Int)=UB):=⟨usedB (fl++ [(⟨sz,bl⟩:Fl)]) (n:Int),rfl⟩;have HB7:Hid (b<W7.heap.size):=F7.out.mm.box.box.lt;have HPB:Hid (pf≠b):=show _≠_ from fun e=>by
      have h1:W7.heap[pf]? =_:=F7.out.box;have h2:W7.heap[b]? =_:=F7.out.mm.box;rw[e,h2]at h1;cases h1
     have HXB:Hid (w.heap.size≠b):=show _≠_ by have:=HBB.out;omega
     obtain⟨I,HI⟩:∃I:World->Prop,Hid (∀u,I u↔Out b (b+1) W7 u/\FCE w hi b L ⟨⟨some ⟨gf,0,none⟩,nf,nf⟩,⟨some ⟨gl,0,none⟩,ns,ns⟩,⟨some ⟨gsb,0,none⟩,ns,ns⟩,sli0,⟨some ⟨gdb,0,none⟩,nb,nb⟩,sd6,sf,sli0,sli0⟩ ⟨List.replicate nf frF,0,List.replicate ns 0,List.replicate ns zero8,[],db6,dq6,fl,nb,[],[]⟩ pf sz bs bl u):=⟨fun u=>Out b (b+1) W7 u/\FCE w hi b L ⟨⟨some ⟨gf,0,none⟩,nf,nf⟩,⟨some ⟨gl,0,none⟩,ns,ns⟩,⟨some ⟨gsb,0,none⟩,ns,ns⟩,sli0,⟨some ⟨gdb,0,none⟩,nb,nb⟩,sd6,sf,sli0,sli0⟩ ⟨List.replicate nf frF,0,List.replicate ns 0,List.replicate ns zero8,[],db6,dq6,fl,nb,[],[]⟩ pf sz bs bl u,fun _=>Iff.rfl⟩
     have hI0:I W7.drew:=(HI.out _).2 ⟨Out.drew _,vl7,L7,F7.out.grew (gW _),LL7.out⟩
     have HIG:Hid (∀u u',I u->Grew u u'->I u'):=show∀u u',_ from fun u u' h k=>by
      obtain⟨h1,vl',L',h2,h3⟩:=(HI.out _).1 h;exact(HI.out _).2 ⟨h1.trans (Out.grew k),vl',L',h2.grew k,h3⟩
     have hx8:∀y:HoldI I,y.world.cell? ⟨b,8,none⟩=some (.slice sf.a sf.n sf.c):=fun y=>by
      obtain⟨_,_,_,h2,_⟩:=(HI.out _).1 y.holds;exact h2.mm.box.box.c 8 rfl
     have hp0:∀y:HoldI I,y.world.cell? ⟨pf,0,none⟩=some (.int .i64 sz):=fun y=>by
      obtain⟨_,_,_,h2,_⟩:=(HI.out _).1 y.holds;exact h2.box.box.c 0 rfl
     have hp1:∀y:HoldI I,y.world.cell? ⟨pf,1,none⟩=some (.slice bs.a bs.n bs.c):=fun y=>by
      obtain⟨_,_,_,h2,_⟩:=(HI.out _).1 y.holds;exact h2.box.box.c 1 rfl
     have hne:Nonempty (HoldI I):=⟨⟨_,hI0⟩⟩;refine wp_lax_tailI (I:=I) 25 [(4,⟨fun v=>∃g,v= .slice (some ⟨g,0,none⟩) 0 0,fun v u=>OwnRow fvE W7.heap.size u v [],fun p q=>Grew p q,fun _=>True⟩),(11,⟨fun v=>(∃a c,v= .slice a nF c)/\(nF=0->∃g,v= .slice (some ⟨g,0,none⟩) 0 0),fun v u=>OwnRow fvE W7.heap.size u v xs,fun p q=>Grew p q,fun _=>True⟩),(13,⟨fun v=>∃g,v= .slice (some ⟨g,0,none⟩) 1 1,fun v u=>OwnRow fvE W7.heap.size u v [fx],fun p q=>Grew p q,fun _=>True⟩),(14,⟨fun v=>∃a c,v= .slice a (nF+1) c,fun v u=>OwnRow fvE W7.heap.size u v (xs++ [fx]),fun p q=>∀u m,m.length<=nF\/m.length<=1->OwnRow fvE W7.heap.size p u m->OwnRow fvE W7.heap.size q u m,fun _=>True⟩),(17,⟨fun v=>v= .bool UB,fun _ _=>True,fun p q=>Grew p q,fun _=>True⟩),(22,⟨fun v=>∃x:Int,v= .int .i64 x,fun _ _=>True,fun p q=>Out b (b+1) p q,fun _=>True⟩)] hI0 mixed (by kernel_rfl) rfl rfl (by decide) ?hS ?hp ?hpre ?hpr0 ?_
     case hS=>
      intro x hx;simp only[mC,nM,or_false]at hx
      rcases hx with rfl | rfl | rfl | rfl | rfl | rfl
      ·exact⟨_,0,rfl⟩
      ·by_cases h0:nF=0
       ·exact⟨.slice (some ⟨0,0,none⟩) 0 0,⟨some ⟨0,0,none⟩,0,by rw[h0]⟩,fun _=>⟨0,rfl⟩⟩
       exact⟨.slice none nF 0,⟨_,_,rfl⟩,fun h=>absurd h h0⟩
      ·exact⟨_,0,rfl⟩
      ·exact⟨_,none,0,rfl⟩
      ·exact⟨_,rfl⟩
      exact⟨_,0,rfl⟩
     case hp=>
      intro k s j t hk hj hjk hanc v p q hst hpo;have hk':=lookup_in hk;have hj':=lookup_in hj;clear hk hj;simp only[mC,pJ,nM,or_false]at hk' hj';have keep:∀l:List FlV,l.length<=nF\/l.length<=1\/j≠14->OwnRow fvE W7.heap.size p v l->OwnRow fvE W7.heap.size q v l:=fun l hl ho=>by
       rcases hj' with⟨rfl,rfl⟩ | ⟨rfl,rfl⟩ | ⟨rfl,rfl⟩ | ⟨rfl,rfl⟩ | ⟨rfl,rfl⟩ | ⟨rfl,rfl⟩
       ·exact OwnRow.grew ho hst
       ·exact OwnRow.grew ho hst
       ·exact OwnRow.grew ho hst
       ·exact hst v l (by omega) ho
       ·exact OwnRow.grew ho hst
       exact ho.outb hst (fun g hg=>by have:=(ho.lt g hg).1;have:=HB7.out;omega)
      rcases hk' with⟨rfl,rfl⟩ | ⟨rfl,rfl⟩ | ⟨rfl,rfl⟩ | ⟨rfl,rfl⟩ | ⟨rfl,rfl⟩ | ⟨rfl,rfl⟩
      ·exact keep _ (.inl (nZ _)) hpo
      ·exact keep _ (.inl (by rw[HXL.out];exact nR _)) hpo
      ·exact keep _ (.inr (.inl (nR _))) hpo
      ·exact keep _ (.inr (.inr (fun e=>hjk e))) hpo
      ·trivial
      trivial
     case hpre=>
      intro j t k s hj hk hjk p q hst hpr;have hj':=lookup_in hj;clear hk hj;simp only[mC,pJ,nM,or_false]at hj'
      rcases hj' with⟨rfl,rfl⟩ | ⟨rfl,rfl⟩ | ⟨rfl,rfl⟩ | ⟨rfl,rfl⟩ | ⟨rfl,rfl⟩ | ⟨rfl,rfl⟩ <;> trivial
     case hpr0=>
      intro k t hk;have hk':=lookup_in hk;clear hk;simp only[mC,pJ,nM,or_false]at hk'
      rcases hk' with⟨rfl,rfl⟩ | ⟨rfl,rfl⟩ | ⟨rfl,rfl⟩ | ⟨rfl,rfl⟩ | ⟨rfl,rfl⟩ | ⟨rfl,rfl⟩ <;> trivial
     simp only[List.take,List.drop];iterate 4 (refine laxI_quiet rfl rfl rfl (fun K hK=>?_);go_big_quiet_op;refine hK _ ?_;clear hK K)
     refine laxI_spec rfl rfl (fun w' hI' hpr hF=>?_) (fun v1 hv=>?_)
     ·have hg:=((HI.out _).1 hI').1;exact Does.step (v:= .slice (some ⟨w'.heap.size,0,none⟩) 0 0) (w':=w'.alloc (.cells #[] 71)) (by simp only[execOp];go_simp) ⟨HIG.out _ _ hI' (grew_alloc _ _),grew_alloc _ _,⟨_,rfl⟩,(OwnRow.made fvE w').base hg.size⟩
     obtain⟨g0,rfl⟩:=hv;simp only[Act.put,sB,sS,sZ];iterate 1 (refine laxI_quiet rfl rfl rfl (fun K hK=>?_);go_big_quiet_op;refine hK _ ?_;clear hK K)
     refine laxI_nilc (.tmp 90) ⟨b,0,none⟩ rfl rfl rfl rfl ?_;simp only[Act.put,sB,sS,sZ];iterate 4 (refine laxI_quiet rfl rfl rfl (fun K hK=>?_);go_big_quiet_op;refine hK _ ?_;clear hK K)
     refine laxI_spec rfl rfl (fun w' hI' hpr hF=>?_) (fun v1 hv=>?_)
     ·have hg:=((HI.out _).1 hI').1;have h0:OwnRow fvE W7.heap.size w' (.slice (some ⟨g0,0,none⟩) 0 0) []:=hF 4 (by kernel_rfl)
      have hX:=HX.out.outb hg (fun g hg' e=>by
       obtain⟨cs,hc⟩:=HX.out.obj hg';have h3:W7.heap[b]? =_:=F7.out.mm.box;rw[e,h3]at hc
       cases hc)
      obtain⟨v',w2,hrun,ho,hg2,hz⟩:=run_append_new (E:=fvE) (w:=w') 34 h0 (.slice sf.a sf.n sf.c) xs hX.at hg.size;obtain⟨a',c',rfl⟩:=ho.form;refine Does.step (v:= .slice a' xs.length c') (w':=w2) ?_ ⟨HIG.out _ _ hI' hg2,hg2,⟨⟨a',c',by rw[HXL.out]⟩,fun h=>⟨g0,hz (eN (by rw[HXL.out];exact h))⟩⟩,ho⟩
      simp only[execOp,resolve,invoke,builtin,pure_bind,Sem.run_bind,Sem.run_pure,List.map_toArray,mP,List.map_nil];exact Eq.trans (congrArg (fun r=>Result.andThen r (fun a w'=>Result.ok (Next.value a) w')) hrun) rfl
     obtain⟨⟨a3,c3,rfl⟩,hz3⟩:=hv;simp only[Act.put,sB,sS,sZ];iterate 1 (refine laxI_quiet rfl rfl rfl (fun K hK=>?_);go_big_quiet_op;refine hK _ ?_;clear hK K)
     refine laxI_spec rfl rfl (fun w' hI' hpr hF=>?_) (fun v1 hv=>?_)
     ·have hg:=((HI.out _).1 hI').1;exact Does.step (v:= .slice (some ⟨w'.heap.size,0,none⟩) 1 1) (w':=w'.alloc (.cells #[.int .i64 sz,.slice bs.a bs.n bs.c] 71)) (by simp only[execOp];go_simp) ⟨HIG.out _ _ hI' (grew_alloc _ _),grew_alloc _ _,⟨_,rfl⟩,by rw[HFX.out];exact(own_one' w' ⟨sz,bs.a,bs.n,bs.c⟩).base hg.size⟩
     obtain⟨g5,rfl⟩:=hv;simp only[Act.put,sB,sS,sZ];refine laxI_spec rfl rfl (fun w' hI' hpr hF=>?_) (fun v1 hv=>?_)
     ·have hg:=((HI.out _).1 hI').1;have o3:OwnRow fvE W7.heap.size w' (.slice a3 nF c3) xs:=hF 11 (by kernel_rfl)
      have o5:OwnRow fvE W7.heap.size w' (.slice (some ⟨g5,0,none⟩) 1 1) [fx]:=hF 13 (by kernel_rfl)
      have key:∃v' w2,(Builtin.append_ #[34,34] 34 #[.slice a3 nF c3,.slice (some ⟨g5,0,none⟩) 1 1]).run Tryz.prog w'= .ok v' w2/\OwnRow fvE W7.heap.size w2 v' (xs++ [fx])/\I w2/\∀u m,m.length<=nF\/m.length<=1->OwnRow fvE W7.heap.size w' u m->OwnRow fvE W7.heap.size w2 u m:=by
       by_cases h0:nF=0
       ·have hxs:xs=[]:=eN (by rw[HXL.out];exact h0)
        subst hxs;obtain⟨g,hgv⟩:=hz3 h0;rw[hgv]at o3⊢;obtain⟨v',w2,hrun,ho,hg2,_⟩:=run_append_new (E:=fvE) (w:=w') 34 o3 (.slice (some ⟨g5,0,none⟩) 1 1) [fx] o5.at hg.size;exact⟨v',w2,hrun,ho,HIG.out _ _ hI' hg2,fun u m _ h=>h.grew hg2⟩
       obtain⟨v',w2,hrun,ho,hgr,hk⟩:=run_append_keeps (E:=fvE) (w:=w') 34 o3 (.slice (some ⟨g5,0,none⟩) 1 1) [fx] o5.at (by rw[HXL.out];show(nF+1)*32<=_;omega) hg.size
       refine⟨v',w2,hrun,ho,?_,fun u m hm h=>hk u m (by rw[HXL.out];omega) h⟩
       obtain⟨h1,vl',L',h2,h3⟩:=(HI.out _).1 hI';obtain⟨gr,cr,hgr3⟩:=o3.formS (by rw[HXL.out];omega)
       obtain⟨cs,hcs⟩:=o3.obj (g:=gr) (by rw[hgr3];rfl)
       have hgr':w'.grownBy w2 (some gr):=by rw[hgr3]at hgr;exact hgr
       have hgl:=(o3.lt gr (by rw[hgr3];rfl)).1
       have hpl:=F7.out.box.box.lt;refine(HI.out _).2 ⟨⟨hgr'.os.trans h1.os,hgr'.tape.trans h1.tape,hgr'.output.trans h1.output,nT h1.size hgr'.size,fun k hk' hb'=>(hgr'.block k (Nat.lt_of_lt_of_le hk' h1.size) (fun e=>by cases e;omega)).trans (h1.block k hk' hb')⟩,vl',L',h2.fresh hgr' hcs (by omega),h3⟩
      obtain⟨v',w2,hrun,ho,hI2,hk⟩:=key;obtain⟨a',c',rfl⟩:=ho.form;refine Does.step (v:= .slice a' (xs++ [fx]).length c') (w':=w2) ?_ ⟨hI2,hk,⟨a',c',by rw[lA,HXL.out];rfl⟩,ho⟩
      simp only[execOp,resolve,invoke,builtin,pure_bind,Sem.run_bind,Sem.run_pure,List.map_toArray,mP,List.map_nil];exact Eq.trans (congrArg (fun r=>Result.andThen r (fun a w'=>Result.ok (Next.value a) w')) hrun) rfl
     obtain⟨a6,c6,rfl⟩:=hv;simp only[Act.put,sB,sS,sZ];iterate 2 (refine laxI_quiet rfl rfl rfl (fun K hK=>?_);go_big_quiet_op;refine hK _ ?_;clear hK K)
     refine laxI_spec rfl rfl (fun w' hI' hpr hF=>?_) (fun v1 hv=>?_)
     ·obtain⟨h1,vl',L',h2,h3⟩:=(HI.out _).1 hI';have o6:OwnRow fvE W7.heap.size w' (.slice a6 (nF+1) c6) (xs++ [fx]):=hF 14 (by kernel_rfl)
      have hfa:FilesAt w' (.slice a6 (nF+1) c6) (fl++ [⟨sz,bl⟩]):=by
       refine⟨o6.cap,xs++ [fx],o6.at.s0,by rw[lA,lA,HXL.out,HNF.out];rfl,fun i x f hx hf=>?_⟩
       rcases Nat.lt_or_ge i nF with hi' | hi'
       ·rw[List.getElem?_append_left (by rw[HXL.out];exact hi')]at hx
        rw[List.getElem?_append_left (by rw[HNF.out];exact hi')]at hf
        obtain⟨a1,a2⟩:=HX3.out i x f hx hf;exact⟨a1,(a2.outb h1 (fun g hg' e=>by
         obtain⟨cs,hc⟩:=a2.obj hg';have h3:W7.heap[b]? =_:=F7.out.mm.box;rw[e,h3]at hc
         cases hc)).at.s0⟩
       rw[aR (by rw[HXL.out];exact hi'),HXL.out]at hx
       rw[aR (by rw[HNF.out];exact hi'),HNF.out]at hf
       have hi0:i - nF=0:=by
        have:=(gS.1 hx).1
        simp at this
        omega
       rw[hi0]at hx hf;cases hx;cases hf;rw[HFX.out];exact⟨rfl,h2.row.at.s0⟩
      refine Does.call [.agg #[.slice a6 (nF+1) c6,.int .i64 0],.int .i64 (n:Int)] rfl Tryz.func29 rfl rfl rfl ?_;refine(used_any (.slice a6 (nF+1) c6) (fl++ [⟨sz,bl⟩]) 0 (n:Int) w' hfa).mono ?_;rintro e w'' ⟨rfl,hg2⟩;exact⟨_,rfl,HIG.out _ _ hI' hg2,hg2,by rw[HUB.out],trivial⟩
     subst hv;simp only[Act.put,sB,sS,sZ];iterate 3 (refine laxI_quiet rfl rfl rfl (fun K hK=>?_);go_big_quiet_op;refine hK _ ?_;clear hK K)
     cases UB with
     | true=>
      refine laxI_skip ?_ ?_
      ·kernel_rfl
      simp only[Act.put,sB,sS,sZ];refine laxI_skip ?_ ?_
      ·kernel_rfl
      simp only[Act.put,sB,sS,sZ];refine laxI_skip ?_ ?_
      ·kernel_rfl
      simp only[Act.put,sB,sS,sZ];iterate 1 (refine laxI_quiet rfl rfl rfl (fun K hK=>?_);go_big_quiet_op;refine hK _ ?_;clear hK K)
      refine laxI_nil fun W8 hI8 hF8=>?_
      obtain⟨h1,vl8,L8,h2,h3⟩:=(HI.out _).1 hI8;have F8:Hid (FC w hi b W8 vl8 L8 ⟨⟨some ⟨gf,0,none⟩,nf,nf⟩,⟨some ⟨gl,0,none⟩,ns,ns⟩,⟨some ⟨gsb,0,none⟩,ns,ns⟩,sli0,⟨some ⟨gdb,0,none⟩,nb,nb⟩,sd6,sf,sli0,sli0⟩ ⟨List.replicate nf frF,0,List.replicate ns 0,List.replicate ns zero8,[],db6,dq6,fl,nb,[],[]⟩ pf sz bs bl):=h2;have LL8:Hid (Less L L8):=h3;have X8:Hid (BoxT W8 w.heap.size 40 [.slice none 0 0,.int .i64 0,.slice none 0 0,.slice none 0 0,.slice none 0 0,.slice none 0 0,.slice none 0 0,.slice none 0 0,.int .i64 0,.slice none 0 0,.slice none 0 0]):=X7.out.outb h1 HXB.out;clear hI8 hF8 hI0 HI HIG hx8 hp0 hp1 hne h1 h2 h3 F7 LL7 X7 hz3;go_wp2
      go_meet
      exact⟨false,vl8,L8,rfl,rfl,F8.out,LL8.out,X8.out,fun h=>(by cases h)⟩
     | false=>
      iterate 1 (refine laxI_quiet rfl rfl rfl (fun K hK=>?_);go_big_quiet_op;refine hK _ ?_;clear hK K)
      refine laxI_spec rfl rfl (fun w' hI' hpr hF=>?_) (fun v1 hv=>?_)
      ·obtain⟨h1,vl',L',h2,h3⟩:=(HI.out _).1 hI';refine Does.call [.pointer (some ⟨b,0,none⟩),.int .i64 3] rfl Tryz.func27 rfl rfl rfl ?_;refine(pick_any 3 h2.mm).mono ?_;rintro e w'' ⟨vl2,L2,y,rfl,mk2,gr2,-,-,-,-,ll2⟩;have ho2:Out b (b+1) w' w'':=Out.grown gr2 (fun g e=>by cases e;omega)
       exact⟨_,rfl,(HI.out _).2 ⟨h1.trans ho2,vl2,L2,h2.pick gr2 mk2,h3.trans ll2⟩,ho2,⟨y,rfl⟩,trivial⟩
      obtain⟨x,rfl⟩:=hv;simp only[Act.put,sB,sS,sZ];iterate 2 (refine laxI_quiet rfl rfl rfl (fun K hK=>?_);go_big_quiet_op;refine hK _ ?_;clear hK K)
      refine laxI_nil fun W8 hI8 hF8=>?_
      obtain⟨h1,vl8,L8,h2,h3⟩:=(HI.out _).1 hI8;have F8:Hid (FC w hi b W8 vl8 L8 ⟨⟨some ⟨gf,0,none⟩,nf,nf⟩,⟨some ⟨gl,0,none⟩,ns,ns⟩,⟨some ⟨gsb,0,none⟩,ns,ns⟩,sli0,⟨some ⟨gdb,0,none⟩,nb,nb⟩,sd6,sf,sli0,sli0⟩ ⟨List.replicate nf frF,0,List.replicate ns 0,List.replicate ns zero8,[],db6,dq6,fl,nb,[],[]⟩ pf sz bs bl):=h2;have LL8:Hid (Less L L8):=h3;have X8:Hid (BoxT W8 w.heap.size 40 [.slice none 0 0,.int .i64 0,.slice none 0 0,.slice none 0 0,.slice none 0 0,.slice none 0 0,.slice none 0 0,.slice none 0 0,.int .i64 0,.slice none 0 0,.slice none 0 0]):=X7.out.outb h1 HXB.out;have HUF:Hid (decide (0<x)=true->n<nb/\usedB (fl++ [⟨sz,bl⟩]) (n:Int)=false):=show _->_ from fun _=>⟨hn,HUB.out⟩
      clear hI8 hF8 hI0 HI HIG hx8 hp0 hp1 hne h1 h2 h3 F7 LL7 X7 hz3;go_wp2
      go_meet
      exact⟨decide (0<x),vl8,L8,rfl,rfl,F8.out,LL8.out,X8.out,HUF.out⟩
    have hnz:¬(n:Int)< (nb:Int):=by omega
    have hnd:decide ((n:Int)< (nb:Int))=false:=by simpa using hnz
    clear hn;go_quiet (fail);go_wp2
    go_meet
    exact⟨false,vl7,L7,rfl,rfl,F7.out.grew (show Below _ _ _ from bD (bR _ _) _),LL7.out,X7.out.grew (show Below _ _ _ from bD (bR _ _) _),fun h=>(by cases h)⟩
   obtain⟨tk,vl8,L8,rfl,rfl,F8,LL8,X8,HTK⟩:=hcut;clear F7 LL7 X7
   go_upto_if 109 with fail
   go_cut [13,15,16,78]from 78 to 160 (fun s13 s15 s16 s78 wx=>∃(bx:Int) (vl':Sli) (L':List Int) (sd':Sli) (db':List (List Int)) (dq':List (Int × List Int)),s13= .int .i64 bx/\s78= .int .i64 k3/\Hid (FC w hi b wx vl' L' ⟨⟨some ⟨gf,0,none⟩,nf,nf⟩,⟨some ⟨gl,0,none⟩,ns,ns⟩,⟨some ⟨gsb,0,none⟩,ns,ns⟩,sli0,⟨some ⟨gdb,0,none⟩,nb,nb⟩,sd',sf,sli0,sli0⟩ ⟨List.replicate nf frF,0,List.replicate ns 0,List.replicate ns zero8,[],db',dq',fl,nb,[],[]⟩ pf sz bs bl)/\Hid (Less L L')/\Hid (BoxT wx w.heap.size 40 [.slice none 0 0,.int .i64 0,.slice none 0 0,.slice none 0 0,.slice none 0 0,.slice none 0 0,.slice none 0 0,.slice none 0 0,.int .i64 0,.slice none 0 0,.slice none 0 0])/\Hid (FInv fl nb db' dq' (bl++ [bx])/\db'.length=nb))
   case first=>
    cases tk with
    | false=>
     go_wp2
     go_meet
     exact⟨-1,vl8,L8,sd6,db6,dq6,rfl,rfl,F8.out,LL8.out,X8.out,(show _/\_ from⟨FI.out.1.none,FI.out.2.2⟩)⟩
    | true=>
     obtain⟨hn,hu⟩:=HTK.out rfl;have HUF:Hid (usedB fl (n:Int)=false/\(n:Int)∉bl):=show _/\_ by
      have h2:¬(n:Int)∈allB (fl++ [⟨sz,bl⟩]):=fun h=>by rw[(used_iff _ _).2 h]at hu;cases hu
      have h3:allB (fl++ [⟨sz,bl⟩])=allB fl++bl:=by simp[allB]
      rw[h3,List.mem_append]at h2;refine⟨?_,fun h=>h2 (.inr h)⟩
      cases e:usedB fl (n:Int)with
      | false=>rfl
      | true=>exact absurd (.inl ((used_iff _ _).1 e)) h2
     have hnz:(n:Int)< (nb:Int):=by omega
     clear hu HTK;have hpg:=page_any F8.out.mm;go_wp2_with fail;refine hpg.mono ?_;clear hpg;rintro e W9 ⟨vl9,L9,q9,rfl,ql9,mk9,gr9,ll9⟩;have F9:Hid (FC w hi b W9 vl9 L9 ⟨⟨some ⟨gf,0,none⟩,nf,nf⟩,⟨some ⟨gl,0,none⟩,ns,ns⟩,⟨some ⟨gsb,0,none⟩,ns,ns⟩,sli0,⟨some ⟨gdb,0,none⟩,nb,nb⟩,sd6,sf,sli0,sli0⟩ ⟨List.replicate nf frF,0,List.replicate ns 0,List.replicate ns zero8,[],db6,dq6,fl,nb,[],[]⟩ pf sz bs bl):=F8.out.pick gr9 mk9;have X9:Hid (BoxT W9 w.heap.size 40 [.slice none 0 0,.int .i64 0,.slice none 0 0,.slice none 0 0,.slice none 0 0,.slice none 0 0,.slice none 0 0,.slice none 0 0,.int .i64 0,.slice none 0 0,.slice none 0 0]):=X8.out.kind gr9 F8.out.mm.box (by decide)
     have LL9:=dD (LL8.out.trans ll9);clear mk9 gr9 ll9 F8 X8 LL8;obtain⟨o0,o1,o2,o3,o4,o5,o6,o7,rfl⟩:=len8 q9 ql9;clear ql9;simp only[pgc,mP,List.map_nil];go_upto_region 20 with fail;obtain⟨pp,HPP⟩:∃pp,Hid (W9.heap.size=pp):=⟨_,rfl⟩;obtain⟨W10,hW10⟩:∃W10,W9.alloc (.cells #[.int .u8 o0,.int .u8 o1,.int .u8 o2,.int .u8 o3,.int .u8 o4,.int .u8 o5,.int .u8 o6,.int .u8 o7] 50)=W10:=⟨_,rfl⟩;have g10:=gP hW10
     have P10:Hid (BoxT W10 pp 50 (pgc [o0,o1,o2,o3,o4,o5,o6,o7])):=show BoxT _ _ _ _ by rw[<-hW10];exact BoxT.top _ (pgc [o0,o1,o2,o3,o4,o5,o6,o7]) _ HPP.out.symm
     have F10:=dD (F9.out.grew g10);have X10:=dD (X9.out.grew g10);have HHP:Hid (hi<=pp):=show _<=_ by rw[<-HPP.out];exact F9.out.mm.rows.hw
     rw[hW10,HPP.out];clear hW10 g10 F9 X9;go_wp2
     go_loopg [113] 8 (fun gg s113 wr=>∃(i:Nat) (qq:List Int),i<=8/\8 - i<=gg/\s113= .int .i64 i/\Hid (FC w hi b wr vl9 L9 ⟨⟨some ⟨gf,0,none⟩,nf,nf⟩,⟨some ⟨gl,0,none⟩,ns,ns⟩,⟨some ⟨gsb,0,none⟩,ns,ns⟩,sli0,⟨some ⟨gdb,0,none⟩,nb,nb⟩,sd6,sf,sli0,sli0⟩ ⟨List.replicate nf frF,0,List.replicate ns 0,List.replicate ns zero8,[],db6,dq6,fl,nb,[],[]⟩ pf sz bs bl)/\Hid (BoxT wr pp 50 (pgc qq))/\Hid (qq.length=8)/\Hid (BoxT wr w.heap.size 40 [.slice none 0 0,.int .i64 0,.slice none 0 0,.slice none 0 0,.slice none 0 0,.slice none 0 0,.slice none 0 0,.slice none 0 0,.int .i64 0,.slice none 0 0,.slice none 0 0]))
     case atStart=>exact⟨0,[o0,o1,o2,o3,o4,o5,o6,o7],nZ _,by omega,rfl,F10.out,P10.out,rfl,X10.out⟩
     obtain⟨i,qq,hi8,hg4,rfl,FW,PW,QW,XW⟩:=hrel;clear F10 P10 X10
     by_cases hlt4:i<8
     ·have hltz4:(i:Int)<8:=by omega
      obtain⟨z,hz⟩:∃z,qq[i]? =some z:=⟨_,gE (by rw[QW.out];exact hlt4)⟩
      have z0:=PW.out.box.c i (pgc_at hz);have zf:=PW.out.box.f;have y0:=FW.out.box.box.c 0 rfl;clear hz
      by_cases hc:sz<=8*(k3:Int)+(i:Int)
      ·have hcd:decide (sz<=8*(k3:Int)+(i:Int))=true:=by simpa using hc
       have HG:Hid (wr.grownBy (wr.setCell ⟨pp,i,none⟩ (.int .u8 0)) (some pp)):=set_grown _ _ _ _;have P11:Hid (BoxT (wr.setCell ⟨pp,i,none⟩ (.int .u8 0)) pp 50 (pgc (qq.set i 0))):=show BoxT _ _ _ _ by rw[pgc_set];exact PW.out.set i _
       have F11:Hid (FC w hi b (wr.setCell ⟨pp,i,none⟩ (.int .u8 0)) vl9 L9 ⟨⟨some ⟨gf,0,none⟩,nf,nf⟩,⟨some ⟨gl,0,none⟩,ns,ns⟩,⟨some ⟨gsb,0,none⟩,ns,ns⟩,sli0,⟨some ⟨gdb,0,none⟩,nb,nb⟩,sd6,sf,sli0,sli0⟩ ⟨List.replicate nf frF,0,List.replicate ns 0,List.replicate ns zero8,[],db6,dq6,fl,nb,[],[]⟩ pf sz bs bl):=FW.out.kind HG.out PW.out (by decide) (by decide) (FW.out.mm.page PW.out HHP.out HG.out) rfl rfl
       have X11:Hid (BoxT (wr.setCell ⟨pp,i,none⟩ (.int .u8 0)) w.heap.size 40 [.slice none 0 0,.int .i64 0,.slice none 0 0,.slice none 0 0,.slice none 0 0,.slice none 0 0,.slice none 0 0,.slice none 0 0,.int .i64 0,.slice none 0 0,.slice none 0 0]):=XW.out.kind HG.out PW.out (by decide)
       clear HG;go_wp2
       go_roundg (8 -(i+1))
       case measure=>omega
       exact⟨i+1,qq.set i 0,by omega,by omega,by go_num,F11.out,P11.out,(show(qq.set i 0).length=8 by rw[List.length_set];exact QW.out),X11.out⟩
      have hcd:decide (sz<=8*(k3:Int)+(i:Int))=false:=by simpa using hc
      go_wp2
      go_roundg (8 -(i+1))
      case measure=>omega
      exact⟨i+1,qq,by omega,by omega,by go_num,FW.out,PW.out,QW.out,XW.out⟩
     have hltz4:¬(i:Int)<8:=by omega
     obtain⟨p0,p1,p2,p3,p4,p5,p6,p7,rfl⟩:=len8 qq QW.out;go_upto_region 26 with fail;obtain⟨I,HI⟩:∃I:World->Prop,Hid (∀u,I u↔Grew wr u):=⟨fun u=>Grew wr u,fun _=>Iff.rfl⟩
     have hI0:I wr.drew:=(HI.out _).2 (gW _)
     have HP:Hid (∀u,I u->BoxT u pp 50 (pgc [p0,p1,p2,p3,p4,p5,p6,p7])):=show∀u,_ from fun u hu=>PW.out.grew ((HI.out _).1 hu)
     have hx6:∀y:HoldI I,y.world.cell? ⟨b,6,none⟩=some (.slice (some ⟨gdb,0,none⟩) nb nb):=fun y=>(FW.out.mm.box.box.grew ((HI.out _).1 y.holds)).c 6 rfl
     have hf0:∀y:HoldI I,y.world.cell? ⟨pp,0,none⟩=some (.int .u8 p0):=fun y=>(HP.out _ y.holds).box.c 0 rfl
     have hf1:∀y:HoldI I,y.world.cell? ⟨pp,1,none⟩=some (.int .u8 p1):=fun y=>(HP.out _ y.holds).box.c 1 rfl
     have hf2:∀y:HoldI I,y.world.cell? ⟨pp,2,none⟩=some (.int .u8 p2):=fun y=>(HP.out _ y.holds).box.c 2 rfl
     have hf3:∀y:HoldI I,y.world.cell? ⟨pp,3,none⟩=some (.int .u8 p3):=fun y=>(HP.out _ y.holds).box.c 3 rfl
     have hf4:∀y:HoldI I,y.world.cell? ⟨pp,4,none⟩=some (.int .u8 p4):=fun y=>(HP.out _ y.holds).box.c 4 rfl
     have hf5:∀y:HoldI I,y.world.cell? ⟨pp,5,none⟩=some (.int .u8 p5):=fun y=>(HP.out _ y.holds).box.c 5 rfl
     have hf6:∀y:HoldI I,y.world.cell? ⟨pp,6,none⟩=some (.int .u8 p6):=fun y=>(HP.out _ y.holds).box.c 6 rfl
     have hf7:∀y:HoldI I,y.world.cell? ⟨pp,7,none⟩=some (.int .u8 p7):=fun y=>(HP.out _ y.holds).box.c 7 rfl
     have hne:Nonempty (HoldI I):=⟨⟨_,hI0⟩⟩;refine wp_lax_tailI (I:=I) 9 [] hI0 mixed (by kernel_rfl) rfl rfl (by decide) (fun x hx=>by cases hx) (fun k s j t hk=>by cases hk) (fun j t k s hj=>by cases hj) (fun k t hk=>by cases hk) ?_
     simp only[List.take,List.drop];iterate 1 (refine laxI_quiet rfl rfl rfl (fun K hK=>?_);go_big_quiet_op;refine hK _ ?_;clear hK K)
     refine laxI_nilc (.tmp 126) ⟨b,0,none⟩ rfl rfl rfl rfl ?_;simp only[Act.put,sB,sS,sZ];iterate 7 (refine laxI_quiet rfl rfl rfl (fun K hK=>?_);go_big_quiet_op;refine hK _ ?_;clear hK K)
     refine laxI_nil fun W11 hI11 _=>?_
     have g11:=(HI.out _).1 hI11;refine wpList_store_page rfl (.tmp 134) (.tmp 133) rfl w.heap.size (.slice (some ⟨gdb,0,none⟩) nb nb) db6 (FW.out.grew g11).mm.rows.db gdb n rfl (by rw[FI.out.2.2];exact hn) [p0,p1,p2,p3,p4,p5,p6,p7] rfl _ rfl (by first | rfl | simp) rfl ?_
     intro W12 op12 gr12 sz12;obtain⟨-,cs12,hc12⟩:=ownPages_obj (FW.out.grew g11).mm.rows.db (g:=gdb) rfl;have F12:Hid (FC w hi b W12 vl9 L9 ⟨⟨some ⟨gf,0,none⟩,nf,nf⟩,⟨some ⟨gl,0,none⟩,ns,ns⟩,⟨some ⟨gsb,0,none⟩,ns,ns⟩,sli0,⟨some ⟨gdb,0,none⟩,nb,nb⟩,sd6,sf,sli0,sli0⟩ ⟨List.replicate nf frF,0,List.replicate ns 0,List.replicate ns zero8,[],(db6.set n [p0,p1,p2,p3,p4,p5,p6,p7]),dq6,fl,nb,[],[]⟩ pf sz bs bl):=(FW.out.grew g11).kind gr12 hc12 (by decide) (by decide) ((FW.out.grew g11).mm.setDb rfl gr12 sz12 op12).1 rfl rfl
     have X12:=dD ((XW.out.grew g11).kind gr12 hc12 (by decide))
     have P12:Hid (BoxT W12 pp 50 (pgc [p0,p1,p2,p3,p4,p5,p6,p7])):=(PW.out.grew g11).beside gr12 (fun g e=>by cases e;have:=(FW.out.mm.rows.dbh gdb rfl);have:=HHP.out;omega)
     clear hI11 g11 op12 gr12 sz12 cs12 hc12 hI0 HI HP hx6 hne FW XW PW;clear hf0 hf1 hf2 hf3 hf4 hf5 hf6 hf7;have hpk12:=pick_any 2 F12.out.mm;go_wp2_with fail;refine hpk12.mono ?_;clear hpk12;rintro e W13 ⟨vl13,L13,y,rfl,mk13,gr13,-,-,-,-,ll13⟩;have F13:Hid (FC w hi b W13 vl13 L13 ⟨⟨some ⟨gf,0,none⟩,nf,nf⟩,⟨some ⟨gl,0,none⟩,ns,ns⟩,⟨some ⟨gsb,0,none⟩,ns,ns⟩,sli0,⟨some ⟨gdb,0,none⟩,nb,nb⟩,sd6,sf,sli0,sli0⟩ ⟨List.replicate nf frF,0,List.replicate ns 0,List.replicate ns zero8,[],(db6.set n [p0,p1,p2,p3,p4,p5,p6,p7]),dq6,fl,nb,[],[]⟩ pf sz bs bl):=F12.out.pick gr13 mk13;have X13:Hid (BoxT W13 w.heap.size 40 [.slice none 0 0,.int .i64 0,.slice none 0 0,.slice none 0 0,.slice none 0 0,.slice none 0 0,.slice none 0 0,.slice none 0 0,.int .i64 0,.slice none 0 0,.slice none 0 0]):=X12.out.kind gr13 F12.out.mm.box (by decide)
     have P13:Hid (BoxT W13 pp 50 (pgc [p0,p1,p2,p3,p4,p5,p6,p7])):=P12.out.kind gr13 F12.out.mm.box (by decide)
     have LL13:=dD (LL9.out.trans ll13);clear mk13 gr13 ll13 F12 X12 P12;have HDL:Hid ((db6.set n [p0,p1,p2,p3,p4,p5,p6,p7]).length=nb):=show _=_ by rw[List.length_set];exact FI.out.2.2
     by_cases hy:y=1
     ·have hye:(y == 1)=true:=by simp[hy]
      clear hy;go_upto_region 28 with fail;have HDQ:Hid (OwnPuts w.heap.size W13 (.slice sd6.a sd6.n sd6.c) dq6):=F13.out.mm.rows.dq;have HQL:Hid (dq6.length<=1000):=show _<=_ by
       have h1:=FI.out.1.ql;have h2:=allB_len ((stW_zero _ _).1 FI.out.1.st).2.1;have h3:=((stW_zero _ _).1 FI.out.1.st).1.1;have h4:=FI.out.2.1;omega
      obtain⟨I,HI⟩:∃I:World->Prop,Hid (∀u,I u↔BoxT u b 87 [.slice vl13.a vl13.n vl13.c,.slice (some ⟨gf,0,none⟩) nf nf,.int .i64 0,.slice (some ⟨gl,0,none⟩) ns ns,.slice (some ⟨gsb,0,none⟩) ns ns,.slice none 0 0,.slice (some ⟨gdb,0,none⟩) nb nb,.slice sd6.a sd6.n sd6.c,.slice sf.a sf.n sf.c,.int .i64 (nb:Int),.slice none 0 0,.slice none 0 0,.slice none 0 0]/\BoxT u pp 50 (pgc [p0,p1,p2,p3,p4,p5,p6,p7])):=⟨fun u=>BoxT u b 87 [.slice vl13.a vl13.n vl13.c,.slice (some ⟨gf,0,none⟩) nf nf,.int .i64 0,.slice (some ⟨gl,0,none⟩) ns ns,.slice (some ⟨gsb,0,none⟩) ns ns,.slice none 0 0,.slice (some ⟨gdb,0,none⟩) nb nb,.slice sd6.a sd6.n sd6.c,.slice sf.a sf.n sf.c,.int .i64 (nb:Int),.slice none 0 0,.slice none 0 0,.slice none 0 0]/\BoxT u pp 50 (pgc [p0,p1,p2,p3,p4,p5,p6,p7]),fun _=>Iff.rfl⟩
      have hI0:I W13.drew:=(HI.out _).2 ⟨F13.out.mm.box.grew (gW _),P13.out.grew (gW _)⟩
      have HP:Hid (∀u,I u->BoxT u pp 50 (pgc [p0,p1,p2,p3,p4,p5,p6,p7])):=show∀u,_ from fun u hu=>((HI.out _).1 hu).2
      have hx7:∀y:HoldI I,y.world.cell? ⟨b,7,none⟩=some (.slice sd6.a sd6.n sd6.c):=fun y=>((HI.out _).1 y.holds).1.box.c 7 rfl
      have hf0:∀y:HoldI I,y.world.cell? ⟨pp,0,none⟩=some (.int .u8 p0):=fun y=>(HP.out _ y.holds).box.c 0 rfl
      have hf1:∀y:HoldI I,y.world.cell? ⟨pp,1,none⟩=some (.int .u8 p1):=fun y=>(HP.out _ y.holds).box.c 1 rfl
      have hf2:∀y:HoldI I,y.world.cell? ⟨pp,2,none⟩=some (.int .u8 p2):=fun y=>(HP.out _ y.holds).box.c 2 rfl
      have hf3:∀y:HoldI I,y.world.cell? ⟨pp,3,none⟩=some (.int .u8 p3):=fun y=>(HP.out _ y.holds).box.c 3 rfl
      have hf4:∀y:HoldI I,y.world.cell? ⟨pp,4,none⟩=some (.int .u8 p4):=fun y=>(HP.out _ y.holds).box.c 4 rfl
      have hf5:∀y:HoldI I,y.world.cell? ⟨pp,5,none⟩=some (.int .u8 p5):=fun y=>(HP.out _ y.holds).box.c 5 rfl
      have hf6:∀y:HoldI I,y.world.cell? ⟨pp,6,none⟩=some (.int .u8 p6):=fun y=>(HP.out _ y.holds).box.c 6 rfl
      have hf7:∀y:HoldI I,y.world.cell? ⟨pp,7,none⟩=some (.int .u8 p7):=fun y=>(HP.out _ y.holds).box.c 7 rfl
      have hne:Nonempty (HoldI I):=⟨⟨_,hI0⟩⟩;refine wp_lax_tailD (I:=I) 16 [(10,fun v=>∃g,v= .slice (some ⟨g,0,none⟩) 1 1),(11,fun v=>∃a n c,v= .slice a n c)] (fun u=>Grew W13 u) hI0 (gW _) mixed (by kernel_rfl) rfl rfl (by decide) ?hS (by kernel_rfl) ?_
      case hS=>
       intro x hx;simp only[mC,nM,or_false]at hx
       rcases hx with rfl | rfl
       ·exact⟨_,0,rfl⟩
       exact⟨_,none,0,0,rfl⟩
      simp only[List.take,List.drop];iterate 2 (refine laxD_quiet rfl rfl rfl (fun K hK=>?_);go_big_quiet_op;refine hK _ ?_;clear hK K)
      refine laxD_nilc (.tmp 139) ⟨b,0,none⟩ rfl rfl rfl rfl ?_;simp only[Act.put,sB,sS,sZ];iterate 7 (refine laxD_quiet rfl rfl rfl (fun K hK=>?_);go_big_quiet_op;refine hK _ ?_;clear hK K)
      refine laxD_spec rfl rfl (fun v u=>Grew W13 u/\∃g,v= .slice (some ⟨g,0,none⟩) 1 1/\Cells u ⟨g,0,none⟩ (ptc ((n:Int),[p0,p1,p2,p3,p4,p5,p6,p7]))) (fun w' hI' hF'=>?_) (fun v1 hv=>?_)
      ·exact Does.step (v:= .slice (some ⟨w'.heap.size,0,none⟩) 1 1) (w':=w'.alloc (.cells #[.int .i64 (n:Int),.int .u8 p0,.int .u8 p1,.int .u8 p2,.int .u8 p3,.int .u8 p4,.int .u8 p5,.int .u8 p6,.int .u8 p7] 91)) (by simp only[execOp];go_simp) ⟨(HI.out _).2 ⟨((HI.out _).1 hI').1.grew (grew_alloc _ _),((HI.out _).1 hI').2.grew (grew_alloc _ _)⟩,⟨_,rfl⟩,hF'.trans (grew_alloc _ _),_,rfl,Cells.top w' (ptc ((n:Int),[p0,p1,p2,p3,p4,p5,p6,p7])) _ rfl⟩
      obtain⟨g5,rfl⟩:=hv;simp only[Act.put,sB,sS,sZ];refine laxD_spec rfl rfl (fun v u=>∃u0,Grew W13 u0/\u0.grownBy u (Value.slice sd6.a sd6.n sd6.c).ownBlock/\OwnPuts w.heap.size u v (dq6++ [((n:Int),[p0,p1,p2,p3,p4,p5,p6,p7])])) (fun w' hI' hF'=>?_) (fun v1 hv=>?_)
      ·obtain⟨hg',g,hge,hcl⟩:=hF';have hge':g5=g:=by
        simp only[vJ,Option.some.injEq,Addr.mk.injEq]at hge;exact hge.1.1
       subst hge';obtain⟨v',w2,hrun,ho,hgr⟩:=run_append_put (w:=w') 31 (HDQ.out.grew hg') g5 ((n:Int),[p0,p1,p2,p3,p4,p5,p6,p7]) rfl hcl HQL.out (nT (bS F13.out.mm.gr) (bS hg'));obtain⟨a',n',c',rfl⟩:=ho.slice;have hbx:I w2:=by
        cases hob:(Value.slice sd6.a sd6.n sd6.c).ownBlock with
        | none=>
         rw[hob]at hgr;exact(HI.out _).2 ⟨((HI.out _).1 hI').1.grew (grown_none hgr),((HI.out _).1 hI').2.grew (grown_none hgr)⟩
        | some gq=>
         rw[hob]at hgr;obtain⟨-,cs,hc⟩:=ownPuts_obj (HDQ.out.grew hg') hob;exact(HI.out _).2 ⟨((HI.out _).1 hI').1.kind hgr hc (by decide),((HI.out _).1 hI').2.kind hgr hc (by decide)⟩
       refine Does.step (v:= .slice a' n' c') (w':=w2) ?_ ⟨hbx,⟨a',n',c',rfl⟩,w',hg',hgr,ho⟩;simp only[execOp,resolve,invoke,builtin,pure_bind,Sem.run_bind,Sem.run_pure,List.map_toArray,mP,List.map_nil];exact Eq.trans (congrArg (fun r=>Result.andThen r (fun a w'=>Result.ok (Next.value a) w')) hrun) rfl
      obtain⟨da,dn,dc,rfl⟩:=hv;simp only[Act.put,sB,sS,sZ];refine laxD_nilc (.tmp 138) ⟨b,0,none⟩ rfl rfl rfl rfl ?_;simp only[Act.put,sB,sS,sZ];iterate 3 (refine laxD_quiet rfl rfl rfl (fun K hK=>?_);go_big_quiet_op;refine hK _ ?_;clear hK K)
      refine laxD_nil fun W14 hI14 hF14=>?_
      obtain⟨u0,g0,gr14,op14⟩:=hF14;have B14:Hid (BoxT W14 b 87 [.slice vl13.a vl13.n vl13.c,.slice (some ⟨gf,0,none⟩) nf nf,.int .i64 0,.slice (some ⟨gl,0,none⟩) ns ns,.slice (some ⟨gsb,0,none⟩) ns ns,.slice none 0 0,.slice (some ⟨gdb,0,none⟩) nb nb,.slice sd6.a sd6.n sd6.c,.slice sf.a sf.n sf.c,.int .i64 (nb:Int),.slice none 0 0,.slice none 0 0,.slice none 0 0]):=((HI.out _).1 hI14).1;have R14:Hid (MkR w.heap.size hi W14 ⟨⟨some ⟨gf,0,none⟩,nf,nf⟩,⟨some ⟨gl,0,none⟩,ns,ns⟩,⟨some ⟨gsb,0,none⟩,ns,ns⟩,sli0,⟨some ⟨gdb,0,none⟩,nb,nb⟩,⟨da,dn,dc⟩,sf,sli0,sli0⟩ ⟨List.replicate nf frF,0,List.replicate ns 0,List.replicate ns zero8,[],db6.set n [p0,p1,p2,p3,p4,p5,p6,p7],dq6++ [((n:Int),[p0,p1,p2,p3,p4,p5,p6,p7])],fl,nb,[],[]⟩ sli0 []):=(F13.out.mm.rows.grew g0).addDq gr14 ⟨da,dn,dc⟩ op14;have hk14:Grew w W14/\FlB w.heap.size hi pf W14 ⟨⟨some ⟨gf,0,none⟩,nf,nf⟩,⟨some ⟨gl,0,none⟩,ns,ns⟩,⟨some ⟨gsb,0,none⟩,ns,ns⟩,sli0,⟨some ⟨gdb,0,none⟩,nb,nb⟩,sd6,sf,sli0,sli0⟩ ⟨List.replicate nf frF,0,List.replicate ns 0,List.replicate ns zero8,[],db6.set n [p0,p1,p2,p3,p4,p5,p6,p7],dq6,fl,nb,[],[]⟩/\BoxT W14 pf 71 [.int .i64 sz,.slice bs.a bs.n bs.c]/\OwnRow blE (pf+1) W14 (.slice bs.a bs.n bs.c) bl/\BoxT W14 w.heap.size 40 [.slice none 0 0,.int .i64 0,.slice none 0 0,.slice none 0 0,.slice none 0 0,.slice none 0 0,.slice none 0 0,.slice none 0 0,.int .i64 0,.slice none 0 0,.slice none 0 0]:=by
       cases hob:(Value.slice sd6.a sd6.n sd6.c).ownBlock with
       | none=>
        rw[hob]at gr14;have k:=grown_none gr14;exact⟨(F13.out.mm.gr.trans g0).trans k,(F13.out.fb.grew g0).grew k,(F13.out.box.grew g0).grew k,(F13.out.row.grew g0).grew k,(X13.out.grew g0).grew k⟩
       | some gq=>
        rw[hob]at gr14;obtain⟨hgq,cs,hc⟩:=ownPuts_obj (HDQ.out.grew g0) hob;exact⟨grew_grown (F13.out.mm.gr.trans g0) gr14 hgq,(F13.out.fb.grew g0).kind gr14 hc (.inl (by decide)) (.inl (by decide)),(F13.out.box.grew g0).kind gr14 hc (by decide),(F13.out.row.grew g0).kind gr14 hc (by decide),(X13.out.grew g0).kind gr14 hc (by decide)⟩
      obtain⟨e1,e2,e3,e4,e5⟩:=hk14;have GW14:Hid (Grew w W14):=e1;have FB14:Hid (FlB w.heap.size hi pf W14 ⟨⟨some ⟨gf,0,none⟩,nf,nf⟩,⟨some ⟨gl,0,none⟩,ns,ns⟩,⟨some ⟨gsb,0,none⟩,ns,ns⟩,sli0,⟨some ⟨gdb,0,none⟩,nb,nb⟩,sd6,sf,sli0,sli0⟩ ⟨List.replicate nf frF,0,List.replicate ns 0,List.replicate ns zero8,[],db6.set n [p0,p1,p2,p3,p4,p5,p6,p7],dq6,fl,nb,[],[]⟩):=e2;have PF14:Hid (BoxT W14 pf 71 [.int .i64 sz,.slice bs.a bs.n bs.c]):=e3;have RW14:Hid (OwnRow blE (pf+1) W14 (.slice bs.a bs.n bs.c) bl):=e4;have X14:Hid (BoxT W14 w.heap.size 40 [.slice none 0 0,.int .i64 0,.slice none 0 0,.slice none 0 0,.slice none 0 0,.slice none 0 0,.slice none 0 0,.slice none 0 0,.int .i64 0,.slice none 0 0,.slice none 0 0]):=e5;clear e1 e2 e3 e4 e5 u0 g0 gr14 op14 hI14 hI0 HI HP hx7 hne HDQ HQL;clear hf0 hf1 hf2 hf3 hf4 hf5 hf6 hf7;obtain⟨W15,hW15⟩:∃W15,W14.setCell ⟨b,7,none⟩ (.slice da dn dc)=W15:=⟨_,rfl⟩;have hg15:W14.grownBy W15 (some b):=by rw[<-hW15];exact set_grown _ _ _ _
      have M15:Mk w hi W15 b vl13 L13 ⟨⟨some ⟨gf,0,none⟩,nf,nf⟩,⟨some ⟨gl,0,none⟩,ns,ns⟩,⟨some ⟨gsb,0,none⟩,ns,ns⟩,sli0,⟨some ⟨gdb,0,none⟩,nb,nb⟩,⟨da,dn,dc⟩,sf,sli0,sli0⟩ ⟨List.replicate nf frF,0,List.replicate ns 0,List.replicate ns zero8,[],db6.set n [p0,p1,p2,p3,p4,p5,p6,p7],dq6++ [((n:Int),[p0,p1,p2,p3,p4,p5,p6,p7])],fl,nb,[],[]⟩ sli0 []:=⟨grew_grown GW14.out hg15 F13.out.mm.hb,F13.out.mm.hb,by rw[<-hW15];exact B14.out.set 7 _,F13.out.mm.lr,F13.out.mm.lc,F13.out.mm.lb,R14.out.var hg15 B14.out hg15.size (.inl rfl)⟩
      have F15:Hid (FC w hi b W15 vl13 L13 ⟨⟨some ⟨gf,0,none⟩,nf,nf⟩,⟨some ⟨gl,0,none⟩,ns,ns⟩,⟨some ⟨gsb,0,none⟩,ns,ns⟩,sli0,⟨some ⟨gdb,0,none⟩,nb,nb⟩,⟨da,dn,dc⟩,sf,sli0,sli0⟩ ⟨List.replicate nf frF,0,List.replicate ns 0,List.replicate ns zero8,[],(db6.set n [p0,p1,p2,p3,p4,p5,p6,p7]),(dq6++ [((n:Int),[p0,p1,p2,p3,p4,p5,p6,p7])]),fl,nb,[],[]⟩ pf sz bs bl):=show FC _ _ _ _ _ _ _ _ _ _ _ _ from⟨M15,F13.out.hp,(FB14.out.kind hg15 B14.out (.inl (by decide)) (.inl (by decide))).as rfl rfl,F13.out.fn,PF14.out.kind hg15 B14.out (by decide),RW14.out.kind hg15 B14.out (by decide)⟩
      have X15:Hid (BoxT W15 w.heap.size 40 [.slice none 0 0,.int .i64 0,.slice none 0 0,.slice none 0 0,.slice none 0 0,.slice none 0 0,.slice none 0 0,.slice none 0 0,.int .i64 0,.slice none 0 0,.slice none 0 0]):=X14.out.kind hg15 B14.out (by decide)
      have HW15:Hid (_=W15):=hW15;have x7:=B14.out.box.c 7 rfl;have xf:=B14.out.box.f;clear hW15 hg15 M15 FB14 PF14 RW14 X14 GW14 R14 F13 X13 P13;go_wp2;rw[HW15.out]
      go_meet
      exact⟨(n:Int),vl13,L13,⟨da,dn,dc⟩,_,_,rfl,rfl,F15.out,LL13.out,X15.out,(show _/\_ from⟨FI.out.1.block (more:=true) (by rw[FI.out.2.2];exact hn) HUF.out.1 HUF.out.2,HDL.out⟩)⟩
     have hye:(y == 1)=false:=by simp[hy]
     clear hy;go_wp2
     go_meet
     exact⟨(n:Int),vl13,L13,sd6,_,_,rfl,rfl,F13.out,LL13.out,X13.out,(show _/\_ from⟨FI.out.1.block (more:=false) (by rw[FI.out.2.2];exact hn) HUF.out.1 HUF.out.2,HDL.out⟩)⟩
   obtain⟨bx,vl9,L9,sd9,db9,dq9,rfl,rfl,F9,LL9,X9,FI9⟩:=hcut;clear F8 LL8 X8;have y1:=F9.out.box.box.c 1 rfl;have HBL:Hid (bl.length=k3):=show _=_ from FI.out.2.1
   have HSW:Hid (pf+1<=wc.heap.size):=F9.out.box.box.lt
   go_wp2_with (at_builtin;refine wpList_append_row (E:=blE) rfl (.tmp 155) (.tmp 157) rfl (pf+1) _ bl rfl (F9.out.row.grew (grew_alloc _ _)) _ [bx] rfl (one_row blE wc bx _ _ rfl (by decide)) ?qb ?qc ?_)
   case qb=>
    rw[HBL.out]
    show(k3+1)*8<=_
    omega
   case qc=>exact nT HSW.out (bS (grew_alloc _ _))
   intro v4 W14 ow4 gr4;obtain⟨a4,c4,rfl⟩:=ow4.form;obtain⟨N4,hN4⟩:∃N4,(bl++ [bx]).length=N4:=⟨_,rfl⟩;rw[hN4]at ow4⊢;clear hN4;obtain⟨WX,hWX⟩:∃WX,wc.alloc (.cells #[.int .i64 bx] 3)=WX:=⟨_,rfl⟩;have gX:=gP hWX
   have gr4':WX.grownBy W14 (Value.slice bs.a bs.n bs.c).ownBlock:=by rw[<-hWX];exact gr4
   clear gr4 hWX;obtain⟨b14,k14,f14⟩:=(F9.out.grew gX).addB gr4' ⟨a4,N4,c4⟩ ow4;have F14:Hid (FC w hi b (W14.setCell ⟨pf,1,none⟩ (.slice a4 N4 c4)) vl9 L9 ⟨⟨some ⟨gf,0,none⟩,nf,nf⟩,⟨some ⟨gl,0,none⟩,ns,ns⟩,⟨some ⟨gsb,0,none⟩,ns,ns⟩,sli0,⟨some ⟨gdb,0,none⟩,nb,nb⟩,sd9,sf,sli0,sli0⟩ ⟨List.replicate nf frF,0,List.replicate ns 0,List.replicate ns zero8,[],db9,dq9,fl,nb,[],[]⟩ pf sz ⟨a4,N4,c4⟩ (bl++ [bx])):=f14;have X14:Hid (BoxT (W14.setCell ⟨pf,1,none⟩ (.slice a4 N4 c4)) w.heap.size 40 [.slice none 0 0,.int .i64 0,.slice none 0 0,.slice none 0 0,.slice none 0 0,.slice none 0 0,.slice none 0 0,.slice none 0 0,.int .i64 0,.slice none 0 0,.slice none 0 0]):=k14 _ _ _ (by decide) (by decide) (X9.out.grew gX)
   have B14:Hid (BoxT W14 pf 71 [.int .i64 sz,.slice bs.a bs.n bs.c]):=b14;clear b14 k14 f14 gr4' ow4 gX y1 F9 X9 HSW;have y1:=B14.out.box.c 1 rfl;have yf:=B14.out.box.f;go_wp2
   go_roundg (N3 -(k3+1))
   case measure=>omega
   exact⟨k3+1,vl9,L9,sd9,⟨a4,N4,c4⟩,db9,dq9,bl++ [bx],by omega,by omega,by go_num,F14.out,LL9.out,X14.out,(show _/\_ from⟨FI9.out.1,by rw[lA,HBL.out];rfl,FI9.out.2⟩)⟩
  have hltz3:¬(k3:Int)< (N3:Int):=by omega
  obtain rfl:k3=N3:=by omega
  go_upto_region 31 with fail;obtain⟨xs,q1,q2,q3⟩:=FX.out.fb;have HX:Hid (OwnRow fvE w.heap.size wr (.slice sf.a sf.n sf.c) xs):=q1;have HXL:Hid (xs.length=fl.length):=show _=_ from q2
  have HX3:Hid (∀(i:Nat) x f,xs[i]? =some x->fl[i]? =some f->x.size=f.size/\OwnRow blE hi wr x.v f.bl):=show∀i,_ from fun i x f hx hf=>(q3 i x f hx hf).1
  clear q1 q2 q3;obtain⟨fx,HFX⟩:∃fx:FlV,Hid (fx=⟨sz,bs.a,bs.n,bs.c⟩):=⟨_,rfl⟩;obtain⟨I,HI⟩:∃I:World->Prop,Hid (∀u,I u↔BoxT u b 87 [.slice vl6.a vl6.n vl6.c,.slice (some ⟨gf,0,none⟩) nf nf,.int .i64 0,.slice (some ⟨gl,0,none⟩) ns ns,.slice (some ⟨gsb,0,none⟩) ns ns,.slice none 0 0,.slice (some ⟨gdb,0,none⟩) nb nb,.slice sd6.a sd6.n sd6.c,.slice sf.a sf.n sf.c,.int .i64 (nb:Int),.slice none 0 0,.slice none 0 0,.slice none 0 0]/\BoxT u pf 71 [.int .i64 sz,.slice bs.a bs.n bs.c]):=⟨fun u=>BoxT u b 87 [.slice vl6.a vl6.n vl6.c,.slice (some ⟨gf,0,none⟩) nf nf,.int .i64 0,.slice (some ⟨gl,0,none⟩) ns ns,.slice (some ⟨gsb,0,none⟩) ns ns,.slice none 0 0,.slice (some ⟨gdb,0,none⟩) nb nb,.slice sd6.a sd6.n sd6.c,.slice sf.a sf.n sf.c,.int .i64 (nb:Int),.slice none 0 0,.slice none 0 0,.slice none 0 0]/\BoxT u pf 71 [.int .i64 sz,.slice bs.a bs.n bs.c],fun _=>Iff.rfl⟩
  have hI0:I wr.drew:=(HI.out _).2 ⟨FX.out.mm.box.grew (gW _),FX.out.box.grew (gW _)⟩
  have hx8:∀y:HoldI I,y.world.cell? ⟨b,8,none⟩=some (.slice sf.a sf.n sf.c):=fun y=>((HI.out _).1 y.holds).1.box.c 8 rfl
  have hp0:∀y:HoldI I,y.world.cell? ⟨pf,0,none⟩=some (.int .i64 sz):=fun y=>((HI.out _).1 y.holds).2.box.c 0 rfl
  have hp1:∀y:HoldI I,y.world.cell? ⟨pf,1,none⟩=some (.slice bs.a bs.n bs.c):=fun y=>((HI.out _).1 y.holds).2.box.c 1 rfl
  have hne:Nonempty (HoldI I):=⟨⟨_,hI0⟩⟩;refine wp_lax_tailD (I:=I) 14 [(8,fun v=>∃g,v= .slice (some ⟨g,0,none⟩) 1 1),(9,fun v=>∃a n c,v= .slice a n c)] (fun u=>Grew wr u) hI0 (gW _) mixed (by kernel_rfl) rfl rfl (by decide) ?hS (by kernel_rfl) ?_
  case hS=>
   intro x hx;simp only[mC,nM,or_false]at hx
   rcases hx with rfl | rfl
   ·exact⟨_,0,rfl⟩
   exact⟨_,none,0,0,rfl⟩
  simp only[List.take,List.drop];iterate 2 (refine laxD_quiet rfl rfl rfl (fun K hK=>?_);go_big_quiet_op;refine hK _ ?_;clear hK K)
  refine laxD_nilc (.tmp 162) ⟨b,0,none⟩ rfl rfl rfl rfl ?_;simp only[Act.put,sB,sS,sZ];iterate 5 (refine laxD_quiet rfl rfl rfl (fun K hK=>?_);go_big_quiet_op;refine hK _ ?_;clear hK K)
  refine laxD_spec rfl rfl (fun v u=>Grew wr u/\RowAt fvE u v [fx]) (fun w' hI' hF'=>?_) (fun v1 hv=>?_)
  ·exact Does.step (v:= .slice (some ⟨w'.heap.size,0,none⟩) 1 1) (w':=w'.alloc (.cells #[.int .i64 sz,.slice bs.a bs.n bs.c] 71)) (by simp only[execOp];go_simp) ⟨(HI.out _).2 ⟨((HI.out _).1 hI').1.grew (grew_alloc _ _),((HI.out _).1 hI').2.grew (grew_alloc _ _)⟩,⟨_,rfl⟩,hF'.trans (grew_alloc _ _),one_row fvE w' fx _ _ (by rw[HFX.out];rfl) (by decide)⟩
  obtain⟨g5,rfl⟩:=hv;simp only[Act.put,sB,sS,sZ];refine laxD_spec rfl rfl (fun v u=>∃u0,Grew wr u0/\u0.grownBy u (Value.slice sf.a sf.n sf.c).ownBlock/\OwnRow fvE w.heap.size u v (xs++ [fx])) (fun w' hI' hF'=>?_) (fun v1 hv=>?_)
  ·obtain⟨hg',hrw⟩:=hF';obtain⟨v',w2,hrun,ho,hgr,-⟩:=run_append_keeps (E:=fvE) (w:=w') 34 (HX.out.grew hg') (.slice (some ⟨g5,0,none⟩) 1 1) [fx] hrw (by have:=HXL.out;have:=HFL.out;rw[HXL.out];show(fl.length+1)*32<=_;omega) (nT (bS FX.out.mm.gr) (bS hg'))
   obtain⟨a',c',rfl⟩:=ho.form;have hbx:I w2:=by
    cases hob:(Value.slice sf.a sf.n sf.c).ownBlock with
    | none=>
     rw[hob]at hgr;exact(HI.out _).2 ⟨((HI.out _).1 hI').1.grew (grown_none hgr),((HI.out _).1 hI').2.grew (grown_none hgr)⟩
    | some gq=>
     rw[hob]at hgr;obtain⟨cs,hc⟩:=(HX.out.grew hg').obj hob;have hlt:=FX.out.fn gq hob;exact(HI.out _).2 ⟨((HI.out _).1 hI').1.kind hgr hc (by decide),((HI.out _).1 hI').2.beside hgr (fun k e=>by cases e;omega)⟩
   refine Does.step (v:= .slice a' (xs++ [fx]).length c') (w':=w2) ?_ ⟨hbx,⟨a',_,c',rfl⟩,w',hg',hgr,ho⟩;simp only[execOp,resolve,invoke,builtin,pure_bind,Sem.run_bind,Sem.run_pure,List.map_toArray,mP,List.map_nil];exact Eq.trans (congrArg (fun r=>Result.andThen r (fun a w'=>Result.ok (Next.value a) w')) hrun) rfl
  obtain⟨fa,fn,fc,rfl⟩:=hv;simp only[Act.put,sB,sS,sZ];refine laxD_nilc (.tmp 161) ⟨b,0,none⟩ rfl rfl rfl rfl ?_;simp only[Act.put,sB,sS,sZ];iterate 3 (refine laxD_quiet rfl rfl rfl (fun K hK=>?_);go_big_quiet_op;refine hK _ ?_;clear hK K)
  refine laxD_nil fun W14 hI14 hF14=>?_
  obtain⟨u0,g0,gr14,op14⟩:=hF14;have B14:Hid (BoxT W14 b 87 [.slice vl6.a vl6.n vl6.c,.slice (some ⟨gf,0,none⟩) nf nf,.int .i64 0,.slice (some ⟨gl,0,none⟩) ns ns,.slice (some ⟨gsb,0,none⟩) ns ns,.slice none 0 0,.slice (some ⟨gdb,0,none⟩) nb nb,.slice sd6.a sd6.n sd6.c,.slice sf.a sf.n sf.c,.int .i64 (nb:Int),.slice none 0 0,.slice none 0 0,.slice none 0 0]):=((HI.out _).1 hI14).1;have R14:Hid (MkR w.heap.size hi W14 ⟨⟨some ⟨gf,0,none⟩,nf,nf⟩,⟨some ⟨gl,0,none⟩,ns,ns⟩,⟨some ⟨gsb,0,none⟩,ns,ns⟩,sli0,⟨some ⟨gdb,0,none⟩,nb,nb⟩,sd6,⟨fa,fn,fc⟩,sli0,sli0⟩ ⟨List.replicate nf frF,0,List.replicate ns 0,List.replicate ns zero8,[],db6,dq6,fl++ [⟨sz,bl⟩],nb,[],[]⟩ sli0 []):=(FX.out.mm.rows.grew g0).addFl (HX.out.grew g0) HXL.out (fun i x f hx hf=>⟨(HX3.out i x f hx hf).1,(HX3.out i x f hx hf).2.grew g0⟩) gr14 ⟨fa,fn,fc⟩ (x:=fx) (f:=⟨sz,bl⟩) (by rw[HFX.out]) (by rw[HFX.out];exact(FX.out.row.grew g0).base (by have:=FX.out.hp;omega)) op14
  have hk14:Grew w W14/\BoxT W14 w.heap.size 40 [.slice none 0 0,.int .i64 0,.slice none 0 0,.slice none 0 0,.slice none 0 0,.slice none 0 0,.slice none 0 0,.slice none 0 0,.int .i64 0,.slice none 0 0,.slice none 0 0]:=by
   cases hob:(Value.slice sf.a sf.n sf.c).ownBlock with
   | none=>
    rw[hob]at gr14;exact⟨(FX.out.mm.gr.trans g0).trans (grown_none gr14),(XX.out.grew g0).grew (grown_none gr14)⟩
   | some gq=>
    rw[hob]at gr14;obtain⟨cs,hc⟩:=(HX.out.grew g0).obj hob;exact⟨grew_grown (FX.out.mm.gr.trans g0) gr14 ((HX.out.grew g0).lt gq hob).1,(XX.out.grew g0).kind gr14 hc (by decide)⟩
  obtain⟨e1,e5⟩:=hk14;have hg15:=set_grown W14 b 8 (.slice fa fn fc);have M15:Hid (Mk w hi (W14.setCell ⟨b,8,none⟩ (.slice fa fn fc)) b vl6 L6 ⟨⟨some ⟨gf,0,none⟩,nf,nf⟩,⟨some ⟨gl,0,none⟩,ns,ns⟩,⟨some ⟨gsb,0,none⟩,ns,ns⟩,sli0,⟨some ⟨gdb,0,none⟩,nb,nb⟩,sd6,⟨fa,fn,fc⟩,sli0,sli0⟩ ⟨List.replicate nf frF,0,List.replicate ns 0,List.replicate ns zero8,[],db6,dq6,fl++ [⟨sz,bl⟩],nb,[],[]⟩ sli0 []):=show Mk _ _ _ _ _ _ _ _ _ _ from⟨grew_grown e1 hg15 FX.out.mm.hb,FX.out.mm.hb,B14.out.set 8 _,FX.out.mm.lr,FX.out.mm.lc,FX.out.mm.lb,R14.out.var hg15 B14.out hg15.size (.inl rfl)⟩
  have X15:Hid (BoxT (W14.setCell ⟨b,8,none⟩ (.slice fa fn fc)) w.heap.size 40 [.slice none 0 0,.int .i64 0,.slice none 0 0,.slice none 0 0,.slice none 0 0,.slice none 0 0,.slice none 0 0,.slice none 0 0,.int .i64 0,.slice none 0 0,.slice none 0 0]):=e5.kind hg15 B14.out (by decide)
  have FI15:Hid (FInv (fl++ [⟨sz,bl⟩]) nb db6 dq6 []/\(fl++ [(⟨sz,bl⟩:Fl)]).length<=k2+1/\db6.length=nb/\∀f∈fl++ [(⟨sz,bl⟩:Fl)],f.size<40):=show _/\_ from⟨FI.out.1.file (by have:=HFL.out;omega) (by have:=HSZ.out;omega) (by rw[FI.out.2.1,HN3.out]),by have:=HFL.out;simp;omega,FI.out.2.2,fun f hf=>by
   rcases List.mem_append.1 hf with hf | hf
   ·exact HF40.out f hf
   simp only[mC,nM,or_false]at hf;rw[hf];exact HSZ.out.2⟩
  clear u0 g0 gr14 op14 e1 e5 hg15 hI14 hI0 HI hx8 hp0 hp1 hne R14 FX XX HX HXL HX3 HFX;have x8:=B14.out.box.c 8 rfl;have xf:=B14.out.box.f;go_wp2
  go_roundg (c -(k2+1))
  case measure=>omega
  exact⟨k2+1,vl6,L6,sd6,⟨fa,fn,fc⟩,db6,dq6,fl++ [(⟨sz,bl⟩:Fl)],by omega,by omega,by go_num,M15.out,LX.out,X15.out,FI15.out,(fun h=>absurd h (Nat.succ_ne_zero _))⟩
 have hltz2:¬(k2:Int)< (c:Int):=by omega
 have BI:Hid (BInv ⟨List.replicate nf frF,0,List.replicate ns 0,List.replicate ns zero8,[],db,dq,fl,nb,[],[]⟩ []):=FW.out.1.start hnf40 hns60 0;have HFL2:Hid (fl.length<=2/\∀f∈fl,f.size<40):=show _/\_ from⟨by have:=FW.out.2.1;omega,FW.out.2.2.2⟩
 have HE0:Hid (L=[]->fl=[]/\dq=[]/\db=List.replicate nb zero8):=show _->_ from fun e=>ZW.out (by have:=HC0.out e;omega)
 have hpk3:=pick_any 2 MW.out;go_wp2_with fail;refine hpk3.mono ?_;clear hpk3;rintro e W4 ⟨vl4,L4,y,rfl,mk4,gr4,-,s0,s1,s2,ll4⟩;obtain⟨n5,hn5⟩:∃n5:Nat,1+y=(n5:Int):=⟨(1+y).toNat,by omega⟩
 have hn52:n5<=2:=by rcases s1 with h | h <;> omega
 have hn51:1<=n5:=by omega
 have HN1:Hid (L=[]->n5=1):=show _->_ from fun e=>by have:=s2 (LW.out e);omega
 have M4:Hid (Mk w hi W4 b vl4 L4 ⟨⟨some ⟨gf,0,none⟩,nf,nf⟩,⟨some ⟨gl,0,none⟩,ns,ns⟩,⟨some ⟨gsb,0,none⟩,ns,ns⟩,sli0,⟨some ⟨gdb,0,none⟩,nb,nb⟩,sd,sf,sli0,sli0⟩ ⟨List.replicate nf frF,0,List.replicate ns 0,List.replicate ns zero8,[],db,dq,fl,nb,[],[]⟩ sli0 []):=mk4;have X4:Hid (BoxT W4 w.heap.size 40 [.slice none 0 0,.int .i64 0,.slice none 0 0,.slice none 0 0,.slice none 0 0,.slice none 0 0,.slice none 0 0,.slice none 0 0,.int .i64 0,.slice none 0 0,.slice none 0 0]):=XW.out.beside gr4 (fun g e=>by cases e;have:=HBB.out;omega)
 have LL4:=dD (LW.out.trans ll4);clear mk4 gr4 ll4 MW XW LW s0 s1 s2;go_wp2
 go_loopg [179] n5 (fun gg s179 wr=>∃(k5:Nat) (vl':Sli) (L':List Int) (V':MaV) (m':Ma) (vt':Sli) (T':List (Nat->En)),k5<=n5/\n5 - k5<=gg/\s179= .int .i64 k5/\Hid (Mk w hi wr b vl' L' V' m' vt' T')/\Hid (Less L L')/\Hid (BoxT wr w.heap.size 40 [.slice none 0 0,.int .i64 0,.slice none 0 0,.slice none 0 0,.slice none 0 0,.slice none 0 0,.slice none 0 0,.slice none 0 0,.int .i64 0,.slice none 0 0,.slice none 0 0])/\Hid (BInv m' T')/\Hid (m'.sp.length=k5/\(∀s∈m'.sp,FilesIn m'.fl.length s.ars/\areaTo s.ars 64<=12)/\m'.hand=0/\m'.fs.length=nf/\(m'.fl.length<=2/\∀f∈m'.fl,f.size<40))/\Hid (L=[]->m'=newMk nf ns nb k5/\T'=List.replicate k5 (fun _=>en0)))
 case atStart=>exact⟨0,vl4,L4,_,_,_,_,nZ _,by omega,rfl,M4.out,LL4.out,X4.out,BI.out,(show _/\_ from⟨rfl,fun s hs=>(by cases hs),rfl,lR,HFL2.out⟩),(show _->_ from fun e=>by obtain⟨a1,a2,a3⟩:=HE0.out e;rw[a1,a2,a3];exact⟨rfl,rfl⟩)⟩
 obtain⟨k5,vl5,L5,V5,m5,vt5,T5,hk5,hg5,rfl,MX,LX,XX,BX5,S5,E5⟩:=hrel;clear M4 X4 LL4 BI;have HL5:Hid (m5.sp.length=k5):=S5.out.1
 by_cases hlt5:k5<n5
 ·have hltz5:(k5:Int)< (n5:Int):=by omega
  by_cases h1:k5=1
  ·subst h1;have HL1:Hid (L≠[]):=show _≠_ from fun e=>by have:=HN1.out e;omega
   have h1e:((((1:Nat):Int)) == 1)=true:=by decide
   have hpk4:=pick_any 2 MX.out;go_wp2_with fail;refine hpk4.mono ?_;clear hpk4;rintro e W7 ⟨vl7,L7,z,rfl,mk7,gr7,-,-,-,-,ll7⟩;have M7:Hid (Mk w hi W7 b vl7 L7 V5 m5 vt5 T5):=mk7;have X7:Hid (BoxT W7 w.heap.size 40 [.slice none 0 0,.int .i64 0,.slice none 0 0,.slice none 0 0,.slice none 0 0,.slice none 0 0,.slice none 0 0,.slice none 0 0,.int .i64 0,.slice none 0 0,.slice none 0 0]):=XX.out.beside gr7 (fun g e=>by cases e;have:=HBB.out;omega)
   have LL7:=dD (LX.out.trans ll7);clear mk7 gr7 ll7 MX XX LX;obtain⟨MX,LX,XX⟩:Hid (Mk w hi W7 b vl7 L7 V5 m5 vt5 T5)/\Hid (Less L L7)/\Hid (BoxT W7 w.heap.size 40 [.slice none 0 0,.int .i64 0,.slice none 0 0,.slice none 0 0,.slice none 0 0,.slice none 0 0,.slice none 0 0,.slice none 0 0,.int .i64 0,.slice none 0 0,.slice none 0 0]):=⟨M7,LL7,X7⟩;clear M7 LL7 X7
   by_cases hz:z=1
   ·have hze:(z == 1)=true:=by simp[hz]
    clear hz;obtain⟨s0,hs0⟩:=List.length_eq_one_iff.1 HL5.out;have HS0:Hid (m5.sp=[s0]):=hs0;clear hs0;have hfk:=fork_any s0 MX.out BX5.out HS0.out;go_wp2_with fail;refine hfk.mono ?_;clear hfk;rintro e W9 ⟨⟨v,rfl⟩,V9,m9,vt9,T9,q1,q3,q4,⟨q5,q6,q7,q8⟩⟩;have M9:Hid (Mk w hi W9 b vl7 L7 V9 m9 vt9 T9):=q1;have X9:Hid (BoxT W9 w.heap.size 40 [.slice none 0 0,.int .i64 0,.slice none 0 0,.slice none 0 0,.slice none 0 0,.slice none 0 0,.slice none 0 0,.slice none 0 0,.int .i64 0,.slice none 0 0,.slice none 0 0]):=q3.1 _ _ _ XX.out loc_mach;have B9:Hid (BInv m9 T9):=q4;have S9:Hid (m9.sp.length=1+1/\(∀s∈m9.sp,FilesIn m9.fl.length s.ars/\areaTo s.ars 64<=12)/\m9.hand=0/\m9.fs.length=nf/\(m9.fl.length<=2/\∀f∈m9.fl,f.size<40)):=show _/\_ from⟨by rw[q5,HS0.out];rfl,fun s hs=>by
     rw[q5]at hs;rw[q6]
     rcases List.mem_append.1 hs with hs | hs
     ·exact S5.out.2.1 s hs
     simp only[mC,nM,or_false]at hs;rw[hs];exact S5.out.2.1 s0 (by rw[HS0.out];simp),q7.trans S5.out.2.2.1,q8.trans S5.out.2.2.2.1,by rw[q6];exact S5.out.2.2.2.2⟩
    have E9:Hid (L=[]->m9=newMk nf ns nb (1+1)/\T9=List.replicate (1+1) (fun _=>en0)):=show _->_ from fun e=>absurd e HL1.out
    clear q1 q3 q4 q5 q6 q7 q8;go_wp2
    go_roundg (n5 -(1+1))
    case measure=>omega
    exact⟨1+1,vl7,L7,V9,m9,vt9,T9,by omega,by omega,by go_num,M9.out,LX.out,X9.out,B9.out,S9.out,E9.out⟩
   have hze:(z == 1)=false:=by simp[hz]
   clear hz;have hsp:=space_any MX.out BX5.out (by rw[HL5.out];omega)
   go_wp2_with fail;refine hsp.mono ?_;clear hsp;rintro e W9 ⟨⟨v,rfl⟩,vl9,L9,V9,m9,vt9,T9,l9,q1,q2,q3,q4,⟨q5,q6,q7,q8⟩,q9,q10⟩;have M9:Hid (Mk w hi W9 b vl9 L9 V9 m9 vt9 T9):=q1;have LL9:=dD (LX.out.trans q2);have X9:Hid (BoxT W9 w.heap.size 40 [.slice none 0 0,.int .i64 0,.slice none 0 0,.slice none 0 0,.slice none 0 0,.slice none 0 0,.slice none 0 0,.slice none 0 0,.int .i64 0,.slice none 0 0,.slice none 0 0]):=q3.1 _ _ _ XX.out loc_mach;have B9:Hid (BInv m9 T9):=q4;have S9:Hid (m9.sp.length=1+1/\(∀s∈m9.sp,FilesIn m9.fl.length s.ars/\areaTo s.ars 64<=12)/\m9.hand=0/\m9.fs.length=nf/\(m9.fl.length<=2/\∀f∈m9.fl,f.size<40)):=show _/\_ from⟨by rw[q5,lA,HL5.out];rfl,fun s hs=>by
    rw[q5]at hs;rw[q6]
    rcases List.mem_append.1 hs with hs | hs
    ·exact S5.out.2.1 s hs
    simp only[mC,nM,or_false]at hs;rw[hs];exact q9,q7.trans S5.out.2.2.1,q8.trans S5.out.2.2.2.1,by rw[q6];exact S5.out.2.2.2.2⟩
   have E9:Hid (L=[]->m9=newMk nf ns nb (1+1)/\T9=List.replicate (1+1) (fun _=>en0)):=show _->_ from fun e=>absurd e HL1.out
   clear q1 q2 q3 q4 q5 q6 q7 q8 q9 q10;go_wp2
   go_roundg (n5 -(1+1))
   case measure=>omega
   exact⟨1+1,vl9,L9,V9,m9,vt9,T9,by omega,by omega,by go_num,M9.out,LL9.out,X9.out,B9.out,S9.out,E9.out⟩
  obtain rfl:k5=0:=by omega
  have h1e:((((0:Nat):Int)) == 1)=false:=by decide
  have hsp:=space_any MX.out BX5.out (by rw[HL5.out];omega)
  go_wp2_with fail;refine hsp.mono ?_;clear hsp;rintro e W9 ⟨⟨v,rfl⟩,vl9,L9,V9,m9,vt9,T9,l9,q1,q2,q3,q4,⟨q5,q6,q7,q8⟩,q9,q10⟩;have M9:Hid (Mk w hi W9 b vl9 L9 V9 m9 vt9 T9):=q1;have LL9:=dD (LX.out.trans q2);have X9:Hid (BoxT W9 w.heap.size 40 [.slice none 0 0,.int .i64 0,.slice none 0 0,.slice none 0 0,.slice none 0 0,.slice none 0 0,.slice none 0 0,.slice none 0 0,.int .i64 0,.slice none 0 0,.slice none 0 0]):=q3.1 _ _ _ XX.out loc_mach;have B9:Hid (BInv m9 T9):=q4;have S9:Hid (m9.sp.length=0+1/\(∀s∈m9.sp,FilesIn m9.fl.length s.ars/\areaTo s.ars 64<=12)/\m9.hand=0/\m9.fs.length=nf/\(m9.fl.length<=2/\∀f∈m9.fl,f.size<40)):=show _/\_ from⟨by rw[q5,lA,HL5.out];rfl,fun s hs=>by
   rw[q5]at hs;rw[q6]
   rcases List.mem_append.1 hs with hs | hs
   ·exact S5.out.2.1 s hs
   simp only[mC,nM,or_false]at hs;rw[hs];exact q9,q7.trans S5.out.2.2.1,q8.trans S5.out.2.2.2.1,by rw[q6];exact S5.out.2.2.2.2⟩
  have E9:Hid (L=[]->m9=newMk nf ns nb (0+1)/\T9=List.replicate (0+1) (fun _=>en0)):=show _->_ from fun e=>by
   obtain⟨a1,a2⟩:=q10 (LX.out e);obtain⟨b1,b2⟩:=E5.out e;rw[b1]at a1;rw[b2]at a2;exact⟨a1,a2⟩
  clear q1 q2 q3 q4 q5 q6 q7 q8 q9 q10;go_wp2
  go_roundg (n5 -(0+1))
  case measure=>omega
  exact⟨0+1,vl9,L9,V9,m9,vt9,T9,by omega,by omega,by go_num,M9.out,LL9.out,X9.out,B9.out,S9.out,E9.out⟩
 have hltz5:¬(k5:Int)< (n5:Int):=by omega
 obtain⟨ys0,z1,z2,-⟩:=MX.out.rows.sp;have HN5:Hid (V5.sp.n=k5):=show _=_ by rw[z1.n,z2,HL5.out]
 obtain⟨ht,HHT⟩:∃ht,Hid (wr.heap.size=ht):=⟨_,rfl⟩;have HBT:Hid (b<ht):=show _<_ by rw[<-HHT.out];exact MX.out.box.box.lt
 have HXT:Hid (w.heap.size<ht):=show _<_ by rw[<-HHT.out];exact XX.out.box.lt
 have HZ1:Hid (∀g,(Value.slice V5.sp.a V5.sp.n V5.sp.c).ownBlock=some g->g<ht):=show∀g,_ from fun g hg=>by rw[<-HHT.out];exact(z1.lt g hg).2
 have NX:Hid (Nums w wr b vl5 L5 [.slice V5.f.a V5.f.n V5.f.c,.int .i64 m5.hand,.slice V5.s.a V5.s.n V5.s.c,.slice V5.sb.a V5.sb.n V5.sb.c,.slice V5.sq.a V5.sq.n V5.sq.c,.slice V5.db.a V5.db.n V5.db.c,.slice V5.dq.a V5.dq.n V5.dq.c,.slice V5.fl.a V5.fl.n V5.fl.c,.int .i64 m5.cnt,.slice V5.ca.a V5.ca.n V5.ca.c,.slice V5.sp.a V5.sp.n V5.sp.c,.slice vt5.a vt5.n vt5.c]):=MX.out.nums;have TX:Hid (MkT w.heap.size hi ht 0 wr V5 m5 vt5 T5):=MX.out.rows.start ht HHT.out;have HTL:Hid (T5.length=k5):=show _=_ by rw[BX5.out.tl,HL5.out]
 have HK:Hid (∀(p:Nat) f,T5[p]? =some f->∀e∈tab f,0<=e.kind):=show∀p,_ from fun p f hf e he=>by
  obtain⟨j,hj⟩:=List.getElem?_of_mem he;have hj64:j<64:=by have:=(gS.1 hj).1;rw[tab_len]at this;exact this
  rw[tab_at hj64]at hj;cases hj;have hp:p<m5.sp.length:=by rw[<-BX5.out.tl];exact(gS.1 hf).1
  rcases BX5.out.ent p _ f (gE hp) hf j hj64 with e | e
  ·rw[e];decide
  by_cases hk:(f j).kind=2
  ·omega
  have:=(entE_present e hk).1;omega
 have x11:=MX.out.box.box.c 11 rfl;rw[HN5.out]at x11;clear z1 z2 ys0;go_wp2;clear x11
 go_loopg [200] k5 (fun gg s200 wr=>∃p:Nat,p<=k5/\k5 - p<=gg/\s200= .int .i64 p/\Hid (MkT w.heap.size hi ht p wr V5 m5 vt5 T5)/\Hid (Nums w wr b vl5 L5 [.slice V5.f.a V5.f.n V5.f.c,.int .i64 m5.hand,.slice V5.s.a V5.s.n V5.s.c,.slice V5.sb.a V5.sb.n V5.sb.c,.slice V5.sq.a V5.sq.n V5.sq.c,.slice V5.db.a V5.db.n V5.db.c,.slice V5.dq.a V5.dq.n V5.dq.c,.slice V5.fl.a V5.fl.n V5.fl.c,.int .i64 m5.cnt,.slice V5.ca.a V5.ca.n V5.ca.c,.slice V5.sp.a V5.sp.n V5.sp.c,.slice vt5.a vt5.n vt5.c])/\Hid (BoxT wr w.heap.size 40 [.slice none 0 0,.int .i64 0,.slice none 0 0,.slice none 0 0,.slice none 0 0,.slice none 0 0,.slice none 0 0,.slice none 0 0,.int .i64 0,.slice none 0 0,.slice none 0 0])/\Hid (ht<=wr.heap.size))
 case atStart=>exact⟨0,nZ _,by omega,rfl,TX.out,NX.out,XX.out,(show _<=_ by rw[HHT.out];exact nR _)⟩
 obtain⟨p,hp,hg6,rfl,TW,NW,XW,HW⟩:=hrel;clear TX NX XX
 by_cases hlt6:p<k5
 ·have hltz6:(p:Int)< (k5:Int):=by omega
  obtain⟨f,HF⟩:∃f,Hid (T5[p]? =some f):=⟨_,gE (by rw[HTL.out];exact hlt6)⟩
  obtain⟨ys,s1,s2,s3⟩:=TW.out.sp;have hyl:ys.length=k5:=by rw[s2,HL5.out]
  obtain⟨x,HX⟩:∃x,Hid (ys[p]? =some x):=⟨_,gE (by omega)⟩
  obtain⟨gs,cs,hse⟩:=s1.formS (by omega)
  rw[hyl]at hse;have HSE:Hid (Value.slice V5.sp.a V5.sp.n V5.sp.c=(.slice (some ⟨gs,0,none⟩) k5 cs)):=hse;obtain⟨gt,ct,hte⟩:=TW.out.tt.formS (by rw[HTL.out];omega)
  rw[HTL.out]at hte;have HTE:Hid (Value.slice vt5.a vt5.n vt5.c=(.slice (some ⟨gt,0,none⟩) k5 ct)):=hte;have S1:Hid (OwnRow spcE w.heap.size wr (.slice (some ⟨gs,0,none⟩) k5 cs) ys):=show OwnRow _ _ _ _ _ by rw[<-HSE.out];exact s1
  have R1:Hid (OwnRow flaE w.heap.size wr (.slice (some ⟨gt,0,none⟩) k5 ct) T5):=show OwnRow _ _ _ _ _ by rw[<-HTE.out];exact TW.out.tt
  have S2:Hid (ys.length=m5.sp.length):=s2;have S3:Hid (∀(i:Nat) x s f,ys[i]? =some x->m5.sp[i]? =some s->T5[i]? =some f->x.live=s.live/\OwnRow arE w.heap.size wr x.ar.v s.ars/\(i<p->TabS 0 ht wr x.tab (tabOf f))/\(p<=i->x.tab=nil8)):=show∀i,_ from s3
  clear s1 s2 s3 hse hte hyl;go_upto_region 43 with fail;obtain⟨I,HI⟩:∃I:World->Prop,Hid (∀u,I u↔Grew wr u):=⟨fun u=>Grew wr u,fun _=>Iff.rfl⟩
  have hI0:I wr.drew:=(HI.out _).2 (gW _)
  have hx11:∀y:HoldI I,y.world.cell? ⟨b,11,none⟩=some (.slice (some ⟨gs,0,none⟩) k5 cs):=fun y=>by
   have:=(NW.out.box.box.grew ((HI.out _).1 y.holds)).c 11 rfl;rw[HSE.out]at this;exact this
  have hx12:∀y:HoldI I,y.world.cell? ⟨b,12,none⟩=some (.slice (some ⟨gt,0,none⟩) k5 ct):=fun y=>by
   have:=(NW.out.box.box.grew ((HI.out _).1 y.holds)).c 12 rfl;rw[HTE.out]at this;exact this
  have hne:Nonempty (HoldI I):=⟨⟨_,hI0⟩⟩;refine wp_lax_tailD (I:=I) 16 [(13,fun v=>∃us:List Value,v= .agg us.toArray)] (fun _=>True) hI0 trivial mixed (by kernel_rfl) rfl rfl (by decide) ?hS (by kernel_rfl) ?_
  case hS=>
   intro x hx;simp only[mC,nM,or_false]at hx;subst hx;exact⟨_,[],rfl⟩
  simp only[List.take,List.drop];iterate 1 (refine laxD_quiet rfl rfl rfl (fun K hK=>?_);go_big_quiet_op;refine hK _ ?_;clear hK K)
  refine laxD_nilc (.tmp 203) ⟨b,0,none⟩ rfl rfl rfl rfl ?_;simp only[Act.put,sB,sS,sZ];iterate 5 (refine laxD_quiet rfl rfl rfl (fun K hK=>?_);go_big_quiet_op;refine hK _ ?_;clear hK K)
  refine laxD_nilc (.tmp 209) ⟨b,0,none⟩ rfl rfl rfl rfl ?_;simp only[Act.put,sB,sS,sZ];iterate 4 (refine laxD_quiet rfl rfl rfl (fun K hK=>?_);go_big_quiet_op;refine hK _ ?_;clear hK K)
  refine laxD_val (.agg (cellsL (tab f)).toArray) rfl rfl (fun u hu=>run_flatMid (.tmp 214) rfl gt (p*192) rfl ((R1.out.grew ((HI.out _).1 hu)).range HF.out) (by rw[cellsL_len,tab_len])) ?_
  simp only[Act.put,sB,sS,sZ];refine laxD_spec rfl rfl (fun v u=>∃us:List Value,v= .agg us.toArray/\TabS 0 ht u us (tabOf f)) (fun w' hI' _=>?_) (fun v1 hv=>?_)
  ·refine Does.call [.agg (cellsL (tab f)).toArray] rfl Tryz.func33 rfl rfl rfl ?_;refine(tableOf_any (tab f) w' (tab_len f) (HK.out p f HF.out)).mono ?_;rintro e w'' ⟨us,rfl,ht1,ht2⟩;exact⟨_,rfl,(HI.out _).2 (((HI.out _).1 hI').trans ht2),⟨us,rfl⟩,us,rfl,ht1.less (nR _) (nT HW.out (bS ((HI.out _).1 hI')))⟩
  obtain⟨us,rfl⟩:=hv;simp only[Act.put,sB,sS,sZ];iterate 2 (refine laxD_quiet rfl rfl rfl (fun K hK=>?_);go_big_quiet_op;refine hK _ ?_;clear hK K)
  refine laxD_nil fun W1 hI1 hF1=>?_
  obtain⟨us',hus,ht1⟩:=hF1;have hue:us=us':=by
   simp only[Value.agg.injEq]at hus
   simpa using congrArg Array.toList hus
  subst hue;obtain⟨t0,t1,t2,t3,t4,t5,t6,t7,rfl⟩:=tabS_form ht1;have g1:=(HI.out _).1 hI1;have T1:Hid (TabS 0 ht W1 [t0.v,t1.v,t2.v,t3.v,t4.v,t5.v,t6.v,t7.v] (tabOf f)):=ht1;have G1:Hid (Grew wr W1):=g1;clear hus ht1 g1 hI1 hI0 hx11 hx12 hne HI;refine wpList_store_part (E:=spcE) rfl (.tmp 218) (.tmp 216) 63 rfl w.heap.size _ ys (S1.out.grew G1.out) gs p 2 rfl x ⟨x.live,x.ar,t0,t1,t2,t3,t4,t5,t6,t7⟩ HX.out [t0.v,t1.v,t2.v,t3.v,t4.v,t5.v,t6.v,t7.v] (by kernel_rfl) rfl (by show 2+8<=10;omega) (fun u hu=>by simp only[mC,nM,or_false]at hu;rcases hu with rfl | rfl | rfl | rfl | rfl | rfl | rfl | rfl <;> rfl) _ rfl (by first | rfl | simp) _ rfl rfl ?_
  intro W2 ow2 gr2 sz2;obtain⟨cs',hcs⟩:=(S1.out.grew G1.out).obj (g:=gs) rfl;have hgl:gs<ht:=HZ1.out gs (by rw[HSE.out];rfl)
  have T2:Hid (MkT w.heap.size hi ht (p+1) W2 V5 m5 vt5 T5):=(TW.out.grew G1.out).table S2.out (fun i x s f hx hs hf=>by
   obtain⟨a1,a2,a3,a4⟩:=S3.out i x s f hx hs hf;exact⟨a1,a2.grew G1.out,fun e=>(a3 e).grew G1.out,a4⟩) hcs hgl gr2 HX.out HF.out (y:=⟨x.live,x.ar,t0,t1,t2,t3,t4,t5,t6,t7⟩) ⟨rfl,rfl⟩ (T1.out.out (Out.grown gr2 (fun g e=>by cases e;exact⟨nZ _,hgl⟩))) (by rw[HSE.out];exact ow2)
  have N2:Hid (Nums w W2 b vl5 L5 [.slice V5.f.a V5.f.n V5.f.c,.int .i64 m5.hand,.slice V5.s.a V5.s.n V5.s.c,.slice V5.sb.a V5.sb.n V5.sb.c,.slice V5.sq.a V5.sq.n V5.sq.c,.slice V5.db.a V5.db.n V5.db.c,.slice V5.dq.a V5.dq.n V5.dq.c,.slice V5.fl.a V5.fl.n V5.fl.c,.int .i64 m5.cnt,.slice V5.ca.a V5.ca.n V5.ca.c,.slice V5.sp.a V5.sp.n V5.sp.c,.slice vt5.a vt5.n vt5.c]):=show Nums _ _ _ _ _ _ from⟨grew_grown (NW.out.gr.trans G1.out) gr2 ((S1.out.grew G1.out).lt gs rfl).1,NW.out.hb,(NW.out.box.grew G1.out).beside gr2 (fun g e=>by cases e;exact(S1.out.grew G1.out).ne (NW.out.box.grew G1.out) (by decide) gs rfl),NW.out.lr,NW.out.lc,NW.out.lb⟩
  have X2:Hid (BoxT W2 w.heap.size 40 [.slice none 0 0,.int .i64 0,.slice none 0 0,.slice none 0 0,.slice none 0 0,.slice none 0 0,.slice none 0 0,.slice none 0 0,.int .i64 0,.slice none 0 0,.slice none 0 0]):=(XW.out.grew G1.out).beside gr2 (fun g e=>by cases e;exact(S1.out.grew G1.out).ne (XW.out.grew G1.out) (by decide) gs rfl)
  have H2:Hid (ht<=W2.heap.size):=show _<=_ by rw[sz2];exact nT HW.out (bS G1.out)
  clear ow2 gr2 sz2 hcs hgl;go_wp2
  go_roundg (k5 -(p+1))
  case measure=>omega
  exact⟨p+1,by omega,by omega,by go_num,T2.out,N2.out,X2.out,H2.out⟩
 have hltz6:¬(p:Int)< (k5:Int):=by omega
 obtain rfl:k5=p:=by omega
 have HSPL:Hid (1<=m5.sp.length/\m5.sp.length<=2):=show _/\_ by rw[HL5.out];omega
 by_cases h0:0<nf
 ·have h0d:decide ((0:Int)< (nf:Int))=true:=by simp;omega
  have hpk:=pick_raw (nf:Int) NW.out;go_wp2_with fail;refine hpk.mono ?_;clear hpk;rintro e W20 ⟨vl20,L20,y,rfl,nm20,gr20,-,y0,y1,yn,-⟩;have T20:Hid (MkT w.heap.size hi ht k5 W20 V5 m5 vt5 T5):=TW.out.other gr20 NW.out.box HBT.out (.inl rfl);have X20:Hid (BoxT W20 w.heap.size 40 [.slice none 0 0,.int .i64 0,.slice none 0 0,.slice none 0 0,.slice none 0 0,.slice none 0 0,.slice none 0 0,.slice none 0 0,.int .i64 0,.slice none 0 0,.slice none 0 0]):=XW.out.kind gr20 NW.out.box (by decide)
  have N20:Hid (Nums w W20 b vl20 L20 [.slice V5.f.a V5.f.n V5.f.c,.int .i64 m5.hand,.slice V5.s.a V5.s.n V5.s.c,.slice V5.sb.a V5.sb.n V5.sb.c,.slice V5.sq.a V5.sq.n V5.sq.c,.slice V5.db.a V5.db.n V5.db.c,.slice V5.dq.a V5.dq.n V5.dq.c,.slice V5.fl.a V5.fl.n V5.fl.c,.int .i64 m5.cnt,.slice V5.ca.a V5.ca.n V5.ca.c,.slice V5.sp.a V5.sp.n V5.sp.c,.slice vt5.a vt5.n vt5.c]):=nm20;have HY:Hid (0<=y/\y<max (m5.fs.length:Int) 1):=show _/\_ from⟨y0,by rw[S5.out.2.2.2.1];omega⟩
  have HY0:Hid (L=[]->y=0):=show _->_ from fun e=>yn (LX.out e)
  clear nm20 gr20 y0 y1 yn TW XW;have x2:=N20.out.box.box.c 2 rfl;have xf:=N20.out.box.box.f;go_upto_region 47 with fail;clear x2 xf;obtain⟨W21,hW21⟩:∃W21,W20.setCell ⟨b,2,none⟩ (.int .i64 y)=W21:=⟨_,rfl⟩;have hg21:W20.grownBy W21 (some b):=by rw[<-hW21];exact set_grown _ _ _ _
  have B21:Hid (BoxT W21 b 87 [.slice vl20.a vl20.n vl20.c,.slice V5.f.a V5.f.n V5.f.c,.int .i64 y,.slice V5.s.a V5.s.n V5.s.c,.slice V5.sb.a V5.sb.n V5.sb.c,.slice V5.sq.a V5.sq.n V5.sq.c,.slice V5.db.a V5.db.n V5.db.c,.slice V5.dq.a V5.dq.n V5.dq.c,.slice V5.fl.a V5.fl.n V5.fl.c,.int .i64 m5.cnt,.slice V5.ca.a V5.ca.n V5.ca.c,.slice V5.sp.a V5.sp.n V5.sp.c,.slice vt5.a vt5.n vt5.c]):=show BoxT _ _ _ _ by rw[<-hW21];exact N20.out.box.set 2 _
  have T21:Hid (MkT w.heap.size hi ht k5 W21 V5 m5 vt5 T5):=T20.out.other hg21 N20.out.box HBT.out (.inl rfl);have X21:Hid (BoxT W21 w.heap.size 40 [.slice none 0 0,.int .i64 0,.slice none 0 0,.slice none 0 0,.slice none 0 0,.slice none 0 0,.slice none 0 0,.slice none 0 0,.int .i64 0,.slice none 0 0,.slice none 0 0]):=X20.out.kind hg21 N20.out.box (by decide)
  have G21:Hid (Grew w W21):=grew_grown N20.out.gr hg21 N20.out.hb;rw[hW21];clear hW21 hg21 T20 X20 N20 NW;have c1:=B21.out.box.c 1 rfl;have c2:=B21.out.box.c 2 rfl;have c3:=B21.out.box.c 3 rfl;have c4:=B21.out.box.c 4 rfl;have c5:=B21.out.box.c 5 rfl;have c6:=B21.out.box.c 6 rfl;have c7:=B21.out.box.c 7 rfl;have c8:=B21.out.box.c 8 rfl;have c9:=B21.out.box.c 9 rfl;have c10:=B21.out.box.c 10 rfl;have c11:=B21.out.box.c 11 rfl
  go_wp2_with (refine wp_storeAllT rfl 40 (.tmp 8) (.tmp 233) rfl w.heap.size rfl [.slice V5.f.a V5.f.n V5.f.c,.int .i64 y,.slice V5.s.a V5.s.n V5.s.c,.slice V5.sb.a V5.sb.n V5.sb.c,.slice V5.sq.a V5.sq.n V5.sq.c,.slice V5.db.a V5.db.n V5.db.c,.slice V5.dq.a V5.dq.n V5.dq.c,.slice V5.fl.a V5.fl.n V5.fl.c,.int .i64 m5.cnt,.slice V5.ca.a V5.ca.n V5.ca.c,.slice V5.sp.a V5.sp.n V5.sp.c] rfl X21.out rfl Tryz.sizeMachine (fun v hv=>by simp only[mC,nM,or_false]at hv;rcases hv with rfl | rfl | rfl | rfl | rfl | rfl | rfl | rfl | rfl | rfl | rfl <;> rfl) ?_)
  intro W22 hb22 hg22 _;have HRS:Hid (Built w nf ns nb L W22 V5 m5 T5 y hi ht vt5):=show Built _ _ _ _ _ _ _ _ _ _ _ _ _ from⟨grew_grown G21.out hg22 (nR _),by rw[HL5.out];exact T21.out.other hg22 X21.out HXT.out (.inr rfl),BX5.out,HY.out,S5.out.2.1,S5.out.2.2.2.2,HSPL.out,S5.out.2.2.2.1,fun e=>by obtain⟨a1,a2⟩:=E5.out e;have h1:=HN1.out e;have h2:k5=1:=(by omega);rw[h2]at a1 a2;exact⟨a1,a2,HY0.out e⟩⟩
  have B22:Hid (Box W22 w.heap.size [.slice V5.f.a V5.f.n V5.f.c,.int .i64 y,.slice V5.s.a V5.s.n V5.s.c,.slice V5.sb.a V5.sb.n V5.sb.c,.slice V5.sq.a V5.sq.n V5.sq.c,.slice V5.db.a V5.db.n V5.db.c,.slice V5.dq.a V5.dq.n V5.dq.c,.slice V5.fl.a V5.fl.n V5.fl.c,.int .i64 m5.cnt,.slice V5.ca.a V5.ca.n V5.ca.c,.slice V5.sp.a V5.sp.n V5.sp.c]):=hb22.box;clear hb22 hg22;clear c1 c2 c3 c4 c5 c6 c7 c8 c9 c10 c11;go_wp2;refine bodyPost_ret (ret_cell rfl _ rfl B22.out Tryz.underlying40 rfl Tryz.sizeMachine) rfl ⟨V5,m5,T5,y,hi,ht,vt5,rfl,HRS.out⟩
 have h0d:decide ((0:Int)< (nf:Int))=false:=by simp;omega
 have B21:Hid (BoxT wr b 87 [.slice vl5.a vl5.n vl5.c,.slice V5.f.a V5.f.n V5.f.c,.int .i64 0,.slice V5.s.a V5.s.n V5.s.c,.slice V5.sb.a V5.sb.n V5.sb.c,.slice V5.sq.a V5.sq.n V5.sq.c,.slice V5.db.a V5.db.n V5.db.c,.slice V5.dq.a V5.dq.n V5.dq.c,.slice V5.fl.a V5.fl.n V5.fl.c,.int .i64 m5.cnt,.slice V5.ca.a V5.ca.n V5.ca.c,.slice V5.sp.a V5.sp.n V5.sp.c,.slice vt5.a vt5.n vt5.c]):=show BoxT _ _ _ _ by have:=NW.out.box;rw[S5.out.2.2.1]at this;exact this
 have G21:Hid (Grew w wr):=NW.out.gr;have HY:Hid ((0:Int)<=0/\(0:Int)<max (m5.fs.length:Int) 1):=show _/\_ from⟨Int.le_refl _,by omega⟩
 have c1:=B21.out.box.c 1 rfl;have c2:=B21.out.box.c 2 rfl;have c3:=B21.out.box.c 3 rfl;have c4:=B21.out.box.c 4 rfl;have c5:=B21.out.box.c 5 rfl;have c6:=B21.out.box.c 6 rfl;have c7:=B21.out.box.c 7 rfl;have c8:=B21.out.box.c 8 rfl;have c9:=B21.out.box.c 9 rfl;have c10:=B21.out.box.c 10 rfl;have c11:=B21.out.box.c 11 rfl
 go_wp2_with (refine wp_storeAllT rfl 40 (.tmp 8) (.tmp 233) rfl w.heap.size rfl [.slice V5.f.a V5.f.n V5.f.c,.int .i64 0,.slice V5.s.a V5.s.n V5.s.c,.slice V5.sb.a V5.sb.n V5.sb.c,.slice V5.sq.a V5.sq.n V5.sq.c,.slice V5.db.a V5.db.n V5.db.c,.slice V5.dq.a V5.dq.n V5.dq.c,.slice V5.fl.a V5.fl.n V5.fl.c,.int .i64 m5.cnt,.slice V5.ca.a V5.ca.n V5.ca.c,.slice V5.sp.a V5.sp.n V5.sp.c] rfl XW.out rfl Tryz.sizeMachine (fun v hv=>by simp only[mC,nM,or_false]at hv;rcases hv with rfl | rfl | rfl | rfl | rfl | rfl | rfl | rfl | rfl | rfl | rfl <;> rfl) ?_)
 intro W22 hb22 hg22 _;have HRS:Hid (Built w nf ns nb L W22 V5 m5 T5 0 hi ht vt5):=show Built _ _ _ _ _ _ _ _ _ _ _ _ _ from⟨grew_grown G21.out hg22 (nR _),by rw[HL5.out];exact TW.out.other hg22 XW.out HXT.out (.inr rfl),BX5.out,HY.out,S5.out.2.1,S5.out.2.2.2.2,HSPL.out,S5.out.2.2.2.1,fun e=>by obtain⟨a1,a2⟩:=E5.out e;have h1:=HN1.out e;have h2:k5=1:=(by omega);rw[h2]at a1 a2;exact⟨a1,a2,rfl⟩⟩
 have B22:Hid (Box W22 w.heap.size [.slice V5.f.a V5.f.n V5.f.c,.int .i64 0,.slice V5.s.a V5.s.n V5.s.c,.slice V5.sb.a V5.sb.n V5.sb.c,.slice V5.sq.a V5.sq.n V5.sq.c,.slice V5.db.a V5.db.n V5.db.c,.slice V5.dq.a V5.dq.n V5.dq.c,.slice V5.fl.a V5.fl.n V5.fl.c,.int .i64 m5.cnt,.slice V5.ca.a V5.ca.n V5.ca.c,.slice V5.sp.a V5.sp.n V5.sp.c]):=hb22.box;clear hb22 hg22;clear c1 c2 c3 c4 c5 c6 c7 c8 c9 c10 c11;go_wp2;refine bodyPost_ret (ret_cell rfl _ rfl B22.out Tryz.underlying40 rfl Tryz.sizeMachine) rfl ⟨V5,m5,T5,0,hi,ht,vt5,rfl,HRS.out⟩
theorem Built.at {w w':World} {nf ns nb hi ht:Nat} {L:List Int} {V:MaV} {m:Ma} {T:List (Nat->En)} {hd:Int} {vt:Sli} (h:Built w nf ns nb L w' V m T hd hi ht vt):MachAt w' V (finish m T hd)/\maW (finish m T hd)=0:=⟨h.rows.mach h.inv.tl hd,h.inv.right h.hand.1 h.hand.2⟩
theorem row_nil {α:Type} (E:Elt α) (w:World):RowAt E w (.slice none 0 0) ([]:List α):=(OwnRow.nil E 0 w).at
theorem tabOf_none:tabOf (fun _=>en0)=none8:=by kernel_rfl
theorem fin_newM {F S B:Int} (h:fewB F S B):finish (newMk F.toNat S.toNat B.toNat 1) [fun _=>en0] 0=newMa F S B:=by
 unfold finish newMk newMa;simp only[List.replicate_one,List.zipWith_cons_cons,List.zipWith_nil_left,tabOf_none]
 congr 1
 unfold fewB at h;omega
def nm2:Ma:=newMa 2 2 2
def sp2:Sp:=⟨true,[],none8⟩
theorem build2_any (w:World):Calls Tryz.prog 8 #[.int .i64 2,.int .i64 2,.int .i64 2,.slice none 0 0] w fun e w'=>(∃V:MaV,e= .returned (.agg #[.slice V.f.a V.f.n V.f.c,.int .i64 0,.slice V.s.a V.s.n V.s.c,.slice V.sb.a V.sb.n V.sb.c,.slice V.sq.a V.sq.n V.sq.c,.slice V.db.a V.db.n V.db.c,.slice V.dq.a V.dq.n V.dq.c,.slice V.fl.a V.fl.n V.fl.c,.int .i64 2,.slice V.ca.a V.ca.n V.ca.c,.slice V.sp.a V.sp.n V.sp.c])/\MachAt w' V nm2)/\Rt nm2/\Grew w w':=by
 refine(build_any 2 2 2 2 2 2 (by decide) (by decide) (by decide) sli0 [] w (row_nil _ _) (nR _) (by simp)).mono ?_
 rintro e w' ⟨V2,m2,T2,hd2,hi2,ht2,vt2,rfl,hbt⟩;obtain⟨e1,e2,e3⟩:=hbt.new rfl;have hat:=hbt.at;have hf:finish (newMk 2 2 2 1) [fun _=>en0] 0=nm2:=fin_newM (F:=2) (S:=2) (B:=2) (by unfold fewB;omega)
 rw[e1,e2,e3,hf]at hat;have hc:m2.cnt=2:=by rw[e1];rfl
 refine⟨⟨V2,by rw[hc,e3],hat.1⟩,⟨hat.2,fun s hs=>?_⟩,hbt.gr⟩
 have:s=sp2:=by
  have hs:s∈[sp2]:=hs
  simpa using hs
 rw[this];rfl
theorem live2 {q:Nat} {s:Sp} (h:LiveP nm2 0 q s):q=0/\s=sp2:=by
 have h1:q=0:=by have:=h.1;omega
 subst h1;have h2:nm2.sp[0]? =some s:=h.2.1;have h3:nm2.sp[0]? =some sp2:=rfl;rw[h3]at h2;cases h2;exact⟨rfl,rfl⟩
theorem vac2 {k:Nat} (h:Vac nm2.sp k):k=1:=by
 have h1:k<=1:=h.1
 by_cases e:k=0
 ·subst e;have:=h.2.1 sp2 rfl;cases this
 omega
theorem fork2:forkP nm2 1 0 sp2={ nm2 with sp:=[sp2,sp2] }:=rfl
theorem exit2:exitP { nm2 with sp:=[sp2,sp2] } 0 sp2={ nm2 with sp:=[⟨false,[],none8⟩,sp2] }:=rfl
theorem alive10_any (w:World):Calls Tryz.prog 20 #[] w fun e w'=>e= .returned (.bool true)/\Grew w w':=by
 have hbu:=build2_any w
 go_enter Tryz.func20,Tryz.ntmps20
 go_wp2_with fail;refine hbu.mono ?_;clear hbu;rintro e W1 ⟨⟨V,rfl,hm⟩,hrt,g1⟩;have G1:Hid (Grew w W1):=g1;have M1:Hid (MachAt W1 V nm2):=hm;have HR:Hid (Rt nm2):=hrt;clear g1 hm hrt;go_upto_region 2 with fail;obtain⟨W2,hW2⟩:∃W2,W1.alloc (.cells #[.slice V.f.a V.f.n V.f.c,.int .i64 0,.slice V.s.a V.s.n V.s.c,.slice V.sb.a V.sb.n V.sb.c,.slice V.sq.a V.sq.n V.sq.c,.slice V.db.a V.db.n V.db.c,.slice V.dq.a V.dq.n V.dq.c,.slice V.fl.a V.fl.n V.fl.c,.int .i64 2,.slice V.ca.a V.ca.n V.ca.c,.slice V.sp.a V.sp.n V.sp.c] 40)=W2:=⟨_,rfl⟩;have g2:=gP hW2
 have X2:=xA hW2
 have G2:=dD (G1.out.trans g2);have M2:=dD (M1.out.grew g2);rw[hW2];clear hW2 g2 G1 M1;have hfk:Calls Tryz.prog 21 #[.agg #[.slice V.f.a V.f.n V.f.c,.int .i64 0,.slice V.s.a V.s.n V.s.c,.slice V.sb.a V.sb.n V.sb.c,.slice V.sq.a V.sq.n V.sq.c,.slice V.db.a V.db.n V.db.c,.slice V.dq.a V.dq.n V.dq.c,.slice V.fl.a V.fl.n V.fl.c,.int .i64 2,.slice V.ca.a V.ca.n V.ca.c,.slice V.sp.a V.sp.n V.sp.c],.int .i64 0] W2 fun e w'=>Forked nm2 0 e w'/\Grew W2 w':=forkF_any V nm2 0 W2 M2.out HR.out.w (by decide)
 obtain⟨x0,x1,x2,x3,x4,x5,x6,x7,x8,x9,x10⟩:=X2.out.c11;go_wp2_with fail;refine hfk.mono ?_;clear hfk x0 x1 x2 x3 x4 x5 x6 x7 x8 x9 x10;rintro e W3 ⟨hF,g3⟩;have G3:=dD (G2.out.trans g3);clear g3
 rcases hF with⟨hno,_⟩ | ⟨q,s,k,hl,hv,hF⟩
 ·exact absurd (show LiveP nm2 0 0 sp2 from⟨rfl,rfl,rfl⟩) (hno 0 sp2)
 obtain⟨rfl,rfl⟩:=live2 hl;have hk:=vac2 hv;subst hk
 rcases hF with⟨h4,_⟩ | ⟨_,V3,rfl,hm3⟩
 ·cases h4
 have HR3:Hid (Rt (forkP nm2 1 0 sp2)):=show Rt _ from(forkP_ok HR.out hl.2.1 rfl hv (by decide)).1
 rw[fork2]at hm3 HR3⊢;have M3:Hid (MachAt W3 V3 { nm2 with sp:=[sp2,sp2] }):=hm3;have hn3:V3.sp.n=2:=hm3.ns.2.2.2.2.2.2.2.2;have HN3:Hid (V3.sp.n=2):=hn3;clear hm3 hl hv M2 X2 G2 hn3;go_upto_region 3 with fail;obtain⟨W4,hW4⟩:∃W4,W3.alloc (.cells #[.slice V3.f.a V3.f.n V3.f.c,.int .i64 nm2.hand,.slice V3.s.a V3.s.n V3.s.c,.slice V3.sb.a V3.sb.n V3.sb.c,.slice V3.sq.a V3.sq.n V3.sq.c,.slice V3.db.a V3.db.n V3.db.c,.slice V3.dq.a V3.dq.n V3.dq.c,.slice V3.fl.a V3.fl.n V3.fl.c,.int .i64 nm2.cnt,.slice V3.ca.a V3.ca.n V3.ca.c,.slice V3.sp.a V3.sp.n V3.sp.c] 40)=W4:=⟨_,rfl⟩;have g4:=gP hW4
 have X4:=xA hW4
 have G4:=dD (G3.out.trans g4);have M4:=dD (M3.out.grew g4);rw[hW4];clear hW4 g4 G3 M3;have hex:Calls Tryz.prog 23 #[.agg #[.slice V3.f.a V3.f.n V3.f.c,.int .i64 nm2.hand,.slice V3.s.a V3.s.n V3.s.c,.slice V3.sb.a V3.sb.n V3.sb.c,.slice V3.sq.a V3.sq.n V3.sq.c,.slice V3.db.a V3.db.n V3.db.c,.slice V3.dq.a V3.dq.n V3.dq.c,.slice V3.fl.a V3.fl.n V3.fl.c,.int .i64 nm2.cnt,.slice V3.ca.a V3.ca.n V3.ca.c,.slice V3.sp.a V3.sp.n V3.sp.c],.int .i64 0] W4 fun e w'=>Exited { nm2 with sp:=[sp2,sp2] } 0 e w'/\Grew W4 w':=exitF_any V3 { nm2 with sp:=[sp2,sp2] } 0 W4 M4.out HR3.out.w
 rw[HN3.out]at hex;obtain⟨x0,x1,x2,x3,x4,x5,x6,x7,x8,x9,x10⟩:=X4.out.c11;rw[HN3.out]at x10;go_wp2_with fail;refine hex.mono ?_;clear hex x0 x1 x2 x3 x4 x5 x6 x7 x8 x9 x10;rintro e W5 ⟨hF,g5⟩;have G5:=dD (G4.out.trans g5);clear g5
 rcases hF with⟨hno,_⟩ | ⟨q,s,hl,V5,rfl,hm5⟩
 ·exact absurd (show LiveP { nm2 with sp:=[sp2,sp2] } 0 0 sp2 from⟨rfl,rfl,rfl⟩) (hno 0 sp2)
 have hq0:q=0:=by have:=hl.1;omega
 subst hq0;have hs2:s=sp2:=by
  have h2:=hl.2.1;have h3:({ nm2 with sp:=[sp2,sp2] }:Ma).sp[0]? =some sp2:=rfl;rw[h3]at h2;cases h2;rfl
 subst hs2;rw[exit2]at hm5⊢;have M5:Hid (MachAt W5 V5 { nm2 with sp:=[⟨false,[],none8⟩,sp2] }):=hm5;have HN5:Hid (V5.sp.n=2):=show _=_ from hm5.ns.2.2.2.2.2.2.2.2
 clear hm5 hl M4 X4 G4;go_upto_region 6 with fail;obtain⟨W6,hW6⟩:∃W6,W5.alloc (.cells #[.slice V5.f.a V5.f.n V5.f.c,.int .i64 nm2.hand,.slice V5.s.a V5.s.n V5.s.c,.slice V5.sb.a V5.sb.n V5.sb.c,.slice V5.sq.a V5.sq.n V5.sq.c,.slice V5.db.a V5.db.n V5.db.c,.slice V5.dq.a V5.dq.n V5.dq.c,.slice V5.fl.a V5.fl.n V5.fl.c,.int .i64 nm2.cnt,.slice V5.ca.a V5.ca.n V5.ca.c,.slice V5.sp.a V5.sp.n V5.sp.c] 40)=W6:=⟨_,rfl⟩;have g6:=gP hW6
 have X6:=xA hW6
 have G6:=dD (G5.out.trans g6);obtain⟨xs,s1,s2,s3⟩:=(M5.out.grew g6).sp;rw[hW6];clear hW6 g6 G5;obtain⟨y0,hy0⟩:∃y,xs[0]? =some y:=⟨_,gE (by rw[s2];decide)⟩
 obtain⟨y1,hy1⟩:∃y,xs[1]? =some y:=⟨_,gE (by rw[s2];decide)⟩
 have l0:y0.live=false:=(s3 0 y0 _ hy0 rfl).live;have l1:y1.live=true:=(s3 1 y1 _ hy1 rfl).live;obtain⟨a,c,heq,hrow⟩:=s1.sps;have ha:V5.sp.a=a:=by
  simp only[vJ]at heq;exact heq.1
 obtain⟨ad,had,hc0⟩:=hrow 0 y0 hy0;obtain⟨ad',had',hc1⟩:=hrow 1 y1 hy1;rw[had]at had';cases had';obtain⟨d0,-⟩:=Cells.sp10 (hc0 W6 (Grew.refl _));obtain⟨d1,-⟩:=Cells.sp10 (hc1 W6 (Grew.refl _));rw[l0]at d0;rw[l1]at d1;have x10:=X6.out.c 10 rfl;rw[HN5.out,ha,had]at x10;clear hc0 hc1 hrow heq ha had s1 s2 s3 hy0 hy1 l0 l1;have e0:ad.add (0*10)=ad:=by
  cases ad
  simp[Addr.add]
 rw[e0]at d0;have d1:W6.cell? { block:=ad.block,off:=ad.off+10 }=some (Value.bool true):=d1;go_wp2;go_ret;exact⟨rfl,G6.out⟩
theorem cheap_any (F S B:Int) (vl:Sli) (L:List Int) (p:Int) (w:World) (lr:RowAt byE w (.slice vl.a vl.n vl.c) L) (lc:vl.n<=vl.c) (lb:∀z∈L,0<=z/\z<256):
  Calls Tryz.prog 5 #[.agg #[.int .i64 F,.int .i64 S,.int .i64 B],.slice vl.a vl.n vl.c,.int .i64 p] w fun e w'=>e= .returned (.bool true)/\Grew w w':=by
 obtain⟨W0,hW0⟩:∃W0,w.alloc (.cells #[.int .i64 F,.int .i64 S,.int .i64 B] 23)=W0:=⟨_,rfl⟩;have G0:=gA hW0
 have C0:=xA hW0
 have HW0:Hid (_=W0):=hW0;have HLR:Hid (RowAt byE w (.slice vl.a vl.n vl.c) L):=lr;have HLC:Hid (vl.n<=vl.c):=lc;have HLB:Hid (∀z∈L,0<=z/\z<256):=show∀z,_ from lb
 obtain⟨nf,HNF⟩:∃nf:Nat,Hid (max (min F 40) 0=(nf:Int)):=⟨(max (min F 40) 0).toNat,show _=_ by omega⟩
 obtain⟨ns,HNS⟩:∃ns:Nat,Hid (max (min S 60) 0=(ns:Int)):=⟨(max (min S 60) 0).toNat,show _=_ by omega⟩
 obtain⟨nb,HNB⟩:∃nb:Nat,Hid (max (min B 80) 0=(nb:Int)):=⟨(max (min B 80) 0).toNat,show _=_ by omega⟩
 clear hW0 lr lc lb;have hal:=alive10_any W0
 go_enter Tryz.func5,Tryz.ntmps5
 go_wp2_with fail;rw[HW0.out];refine hal.mono ?_;clear hal;rintro e W1 ⟨rfl,g1⟩;have G1:=dD (G0.out.trans g1);have C1:=dD (C0.out.grew g1);clear g1 G0 C0 HW0;have hbu:=build_any F S B nf ns nb HNF.out HNS.out HNB.out vl L W1 (HLR.out.grew G1.out) HLC.out HLB.out;obtain⟨c0,c1,c2⟩:=C1.out.c3;go_wp2_with fail;refine hbu.mono ?_;clear hbu c0 c1 c2;rintro e W2 ⟨V,m0,T,hd,hi,ht,vt,rfl,hB⟩;obtain⟨at2,w2⟩:=hB.at;obtain⟨m,HM⟩:∃m,Hid (finish m0 T hd=m):=⟨_,rfl⟩;have A2:Hid (MachAt W2 V m):=show MachAt _ _ _ by rw[<-HM.out];exact at2
 have HW:Hid (maW m=0):=show _=_ by rw[<-HM.out];exact w2
 have HRT:Hid (Rt m):=show Rt m from⟨HW.out,fun s hs=>by
  obtain⟨i,hi⟩:=List.getElem?_of_mem hs;obtain⟨xs,_,s2,s3⟩:=A2.out.sp;have hx:i<xs.length:=by rw[s2];exact(gS.1 hi).1
  exact(s3 i _ s (gE hx) hi).tb.tlen⟩
 have G2:Hid (Grew w W2):=G1.out.trans hB.gr;have hmh:hd=m.hand:=by rw[<-HM.out];rfl
 have hmc:m0.cnt=m.cnt:=by rw[<-HM.out];rfl
 rw[hmh,hmc];clear hB at2 w2 hmh hmc HM C1 G1 HLR HLB HLC;go_upto_region 4 with fail;obtain⟨pm,HPM⟩:∃pm,Hid (W2.heap.size=pm):=⟨_,rfl⟩;obtain⟨W2a,hW3⟩:∃W2a,W2.alloc (.cells #[.slice V.f.a V.f.n V.f.c,.int .i64 m.hand,.slice V.s.a V.s.n V.s.c,.slice V.sb.a V.sb.n V.sb.c,.slice V.sq.a V.sq.n V.sq.c,.slice V.db.a V.db.n V.db.c,.slice V.dq.a V.dq.n V.dq.c,.slice V.fl.a V.fl.n V.fl.c,.int .i64 m.cnt,.slice V.ca.a V.ca.n V.ca.c,.slice V.sp.a V.sp.n V.sp.c] 40)=W2a:=⟨_,rfl⟩;have g3:=gP hW3
 have P2:=xPT hW3 HPM
 have A2a:=dD (A2.out.grew g3);have G2a:=dD (G2.out.trans g3);rw[hW3,HPM.out];clear hW3 g3 A2 G2 HPM;obtain⟨x0,x1,x2,x3,x4,x5,x6,x7,x8,x9,x10⟩:=P2.out.box.c11;have hfk:=forkF_any V m p W2a A2a.out HW.out HRT.out.inv.spl;go_wp2_with fail;refine hfk.mono ?_;clear hfk x0 x1 x2 x3 x4 x5 x6 x7 x8 x9 x10;rintro e W3 ⟨hF,g3⟩;have G3:=dD (G2a.out.trans g3);have A3:=dD (A2a.out.grew g3);have P3:=dD (P2.out.grew g3);clear g3 P2 A2a G2a
 rcases hF with⟨_,rfl⟩ | ⟨q,s,k,hl,hv,hF⟩
 ·unfold zeroM;go_upto_region 5 with fail;obtain⟨W4,hW4⟩:∃W4,W3.alloc (.cells #[.slice none 0 0,.int .i64 0,.slice none 0 0,.slice none 0 0,.slice none 0 0,.slice none 0 0,.slice none 0 0,.slice none 0 0,.int .i64 0,.slice none 0 0,.slice none 0 0] 40)=W4:=⟨_,rfl⟩;have G4:=gT hW4 G3
  first | rw[hW4] | (unfold zeroM;rw[hW4]) | (simp only[zeroM]at*;rw[hW4])
  clear hW4;have hne:Nonempty (GrownW W4):=⟨⟨_,Grew.refl _⟩⟩;refine wp_lax_tail 9 [] mixed (by kernel_rfl) rfl rfl (by decide) (by simp) (by simp) ?_
  simp only[List.take,List.drop];iterate 3 (refine lax_quiet rfl rfl rfl (fun K hK=>?_);go_big_quiet_op;refine hK _ ?_;clear hK K)
  iterate 5 (refine lax_skip (by kernel_rfl) ?_;simp only[Act.put,sB,sS,sZ])
  iterate 1 (refine lax_quiet rfl rfl rfl (fun K hK=>?_);go_big_quiet_op;refine hK _ ?_;clear hK K)
  refine lax_nil fun W5 g5 _=>?_
  have G5:=dD (G4.out.trans (show Grew _ _ from g5))
  clear g5;go_wp2;go_ret;exact⟨rfl,G5.out⟩
 rcases hF with⟨_,rfl⟩ | ⟨h4,V3,rfl,hm3⟩
 ·unfold zeroM;go_upto_region 5 with fail;obtain⟨W4,hW4⟩:∃W4,W3.alloc (.cells #[.slice none 0 0,.int .i64 0,.slice none 0 0,.slice none 0 0,.slice none 0 0,.slice none 0 0,.slice none 0 0,.slice none 0 0,.int .i64 0,.slice none 0 0,.slice none 0 0] 40)=W4:=⟨_,rfl⟩;have G4:=gT hW4 G3
  first | rw[hW4] | (unfold zeroM;rw[hW4]) | (simp only[zeroM]at*;rw[hW4])
  clear hW4;have hne:Nonempty (GrownW W4):=⟨⟨_,Grew.refl _⟩⟩;refine wp_lax_tail 9 [] mixed (by kernel_rfl) rfl rfl (by decide) (by simp) (by simp) ?_
  simp only[List.take,List.drop];iterate 3 (refine lax_quiet rfl rfl rfl (fun K hK=>?_);go_big_quiet_op;refine hK _ ?_;clear hK K)
  iterate 5 (refine lax_skip (by kernel_rfl) ?_;simp only[Act.put,sB,sS,sZ])
  iterate 1 (refine lax_quiet rfl rfl rfl (fun K hK=>?_);go_big_quiet_op;refine hK _ ?_;clear hK K)
  refine lax_nil fun W5 g5 _=>?_
  have G5:=dD (G4.out.trans (show Grew _ _ from g5))
  clear g5;go_wp2;go_ret;exact⟨rfl,G5.out⟩
 have HF:Hid (zeroF (forkP m k q s)=zeroF m/\zeroS (forkP m k q s)=zeroS m):=show _/\_ from(forkP_ok HRT.out hl.2.1 hl.2.2 hv h4).2
 have HRK:Hid (Rt (forkP m k q s)):=show Rt _ from(forkP_ok HRT.out hl.2.1 hl.2.2 hv h4).1
 obtain⟨M,HMM⟩:∃M,Hid (forkP m k q s=M):=⟨_,rfl⟩;rw[HMM.out]at HF HRK hm3⊢;have K3:Hid (MachAt W3 V3 M):=hm3;clear hm3 hl hv;go_upto_region 5 with fail;obtain⟨pk,HPK⟩:∃pk,Hid (W3.heap.size=pk):=⟨_,rfl⟩;obtain⟨W5,hW5⟩:∃W5,W3.alloc (.cells #[.slice V3.f.a V3.f.n V3.f.c,.int .i64 M.hand,.slice V3.s.a V3.s.n V3.s.c,.slice V3.sb.a V3.sb.n V3.sb.c,.slice V3.sq.a V3.sq.n V3.sq.c,.slice V3.db.a V3.db.n V3.db.c,.slice V3.dq.a V3.dq.n V3.dq.c,.slice V3.fl.a V3.fl.n V3.fl.c,.int .i64 M.cnt,.slice V3.ca.a V3.ca.n V3.ca.c,.slice V3.sp.a V3.sp.n V3.sp.c] 40)=W5:=⟨_,rfl⟩;have g5:=gP hW5
 have Q5:=xPT hW5 HPK
 have P5:=dD (P3.out.grew g5);have A5:=dD (A3.out.grew g5);have K5:=dD (K3.out.grew g5);have G5:=dD (G3.out.trans g5);rw[hW5,HPK.out];clear hW5 g5 P3 A3 K3 G3 HPK;have HC1:Hid (∀W,Grew W5 W->Calls Tryz.prog 22 #[.agg #[.slice V.f.a V.f.n V.f.c,.int .i64 m.hand,.slice V.s.a V.s.n V.s.c,.slice V.sb.a V.sb.n V.sb.c,.slice V.sq.a V.sq.n V.sq.c,.slice V.db.a V.db.n V.db.c,.slice V.dq.a V.dq.n V.dq.c,.slice V.fl.a V.fl.n V.fl.c,.int .i64 m.cnt,.slice V.ca.a V.ca.n V.ca.c,.slice V.sp.a V.sp.n V.sp.c]] W fun e w'=>e= .returned (.agg #[.int .i64 (zeroF m:Int),.int .i64 (zeroS m:Int)])/\Grew W w'):=show∀W,_ from fun W hW=>free_any V m W (A5.out.grew hW) HRT.out.inv.fs40 HRT.out.inv.sl60
 have HC2:Hid (∀W,Grew W5 W->Calls Tryz.prog 22 #[.agg #[.slice V3.f.a V3.f.n V3.f.c,.int .i64 M.hand,.slice V3.s.a V3.s.n V3.s.c,.slice V3.sb.a V3.sb.n V3.sb.c,.slice V3.sq.a V3.sq.n V3.sq.c,.slice V3.db.a V3.db.n V3.db.c,.slice V3.dq.a V3.dq.n V3.dq.c,.slice V3.fl.a V3.fl.n V3.fl.c,.int .i64 M.cnt,.slice V3.ca.a V3.ca.n V3.ca.c,.slice V3.sp.a V3.sp.n V3.sp.c]] W fun e w'=>e= .returned (.agg #[.int .i64 (zeroF m:Int),.int .i64 (zeroS m:Int)])/\Grew W w'):=show∀W,_ from fun W hW=>by
  have:=free_any V3 M W (K5.out.grew hW) HRK.out.inv.fs40 HRK.out.inv.sl60;rw[HF.out.1,HF.out.2]at this;exact this
 generalize(zeroF m:Int)=zf at HC1 HC2
 generalize(zeroS m:Int)=zs at HC1 HC2
 have hu0:∀y:GrownW W5,y.world.cell? ⟨pm,0,none⟩=_:=fun y=>(P5.out.box.grew y.grew).c 0 rfl
 have hu1:∀y:GrownW W5,y.world.cell? ⟨pm,1,none⟩=_:=fun y=>(P5.out.box.grew y.grew).c 1 rfl
 have hu2:∀y:GrownW W5,y.world.cell? ⟨pm,2,none⟩=_:=fun y=>(P5.out.box.grew y.grew).c 2 rfl
 have hu3:∀y:GrownW W5,y.world.cell? ⟨pm,3,none⟩=_:=fun y=>(P5.out.box.grew y.grew).c 3 rfl
 have hu4:∀y:GrownW W5,y.world.cell? ⟨pm,4,none⟩=_:=fun y=>(P5.out.box.grew y.grew).c 4 rfl
 have hu5:∀y:GrownW W5,y.world.cell? ⟨pm,5,none⟩=_:=fun y=>(P5.out.box.grew y.grew).c 5 rfl
 have hu6:∀y:GrownW W5,y.world.cell? ⟨pm,6,none⟩=_:=fun y=>(P5.out.box.grew y.grew).c 6 rfl
 have hu7:∀y:GrownW W5,y.world.cell? ⟨pm,7,none⟩=_:=fun y=>(P5.out.box.grew y.grew).c 7 rfl
 have hu8:∀y:GrownW W5,y.world.cell? ⟨pm,8,none⟩=_:=fun y=>(P5.out.box.grew y.grew).c 8 rfl
 have hu9:∀y:GrownW W5,y.world.cell? ⟨pm,9,none⟩=_:=fun y=>(P5.out.box.grew y.grew).c 9 rfl
 have hu10:∀y:GrownW W5,y.world.cell? ⟨pm,10,none⟩=_:=fun y=>(P5.out.box.grew y.grew).c 10 rfl
 have hv0:∀y:GrownW W5,y.world.cell? ⟨pk,0,none⟩=_:=fun y=>(Q5.out.box.grew y.grew).c 0 rfl
 have hv1:∀y:GrownW W5,y.world.cell? ⟨pk,1,none⟩=_:=fun y=>(Q5.out.box.grew y.grew).c 1 rfl
 have hv2:∀y:GrownW W5,y.world.cell? ⟨pk,2,none⟩=_:=fun y=>(Q5.out.box.grew y.grew).c 2 rfl
 have hv3:∀y:GrownW W5,y.world.cell? ⟨pk,3,none⟩=_:=fun y=>(Q5.out.box.grew y.grew).c 3 rfl
 have hv4:∀y:GrownW W5,y.world.cell? ⟨pk,4,none⟩=_:=fun y=>(Q5.out.box.grew y.grew).c 4 rfl
 have hv5:∀y:GrownW W5,y.world.cell? ⟨pk,5,none⟩=_:=fun y=>(Q5.out.box.grew y.grew).c 5 rfl
 have hv6:∀y:GrownW W5,y.world.cell? ⟨pk,6,none⟩=_:=fun y=>(Q5.out.box.grew y.grew).c 6 rfl
 have hv7:∀y:GrownW W5,y.world.cell? ⟨pk,7,none⟩=_:=fun y=>(Q5.out.box.grew y.grew).c 7 rfl
 have hv8:∀y:GrownW W5,y.world.cell? ⟨pk,8,none⟩=_:=fun y=>(Q5.out.box.grew y.grew).c 8 rfl
 have hv9:∀y:GrownW W5,y.world.cell? ⟨pk,9,none⟩=_:=fun y=>(Q5.out.box.grew y.grew).c 9 rfl
 have hv10:∀y:GrownW W5,y.world.cell? ⟨pk,10,none⟩=_:=fun y=>(Q5.out.box.grew y.grew).c 10 rfl
 have heq:∀y:GrownW W5,(Op.equalIn 10000 75 (.agg #[.int .i64 zf,.int .i64 zs]) (.agg #[.int .i64 zf,.int .i64 zs])).run Tryz.prog y.world= .ok true y.world:=fun y=>by
  obtain⟨i5,hi5,_,hz1,_⟩:=info_parts Tryz.infoInt;have h:=run_equal_ints (P:=Tryz.prog) y.world 75 3 .i64 9998 2 [zf,zs] [zf,zs] i5 Tryz.underlying75 Tryz.underlying3 hi5 hz1 rfl rfl
  simpa using h
 have hne:Nonempty (GrownW W5):=⟨⟨_,Grew.refl _⟩⟩;refine wp_lax_tail 9 [(4,⟨fun v=>v= .agg #[.int .i64 zf,.int .i64 zs],fun _ _=>True⟩),(6,⟨fun v=>v= .agg #[.int .i64 zf,.int .i64 zs],fun _ _=>True⟩)] mixed (by kernel_rfl) rfl rfl (by decide) ?hS ?hp ?_
 case hS=>
  intro x hx;simp only[mC,nM,or_false]at hx
  rcases hx with rfl | rfl
  ·exact⟨_,rfl⟩
  exact⟨_,rfl⟩
 case hp=>
  intro x hx;simp only[mC,nM,or_false]at hx
  rcases hx with rfl | rfl
  ·exact fun _ _ _ _ _=>trivial
  exact fun _ _ _ _ _=>trivial
 simp only[List.take,List.drop];iterate 4 (refine lax_quiet rfl rfl rfl (fun K hK=>?_);go_big_quiet_op;refine hK _ ?_;clear hK K)
 refine lax_spec rfl rfl (fun w' hg hF=>?_) (fun v1 hv=>?_)
 ·refine Does.call [.agg #[.slice V.f.a V.f.n V.f.c,.int .i64 m.hand,.slice V.s.a V.s.n V.s.c,.slice V.sb.a V.sb.n V.sb.c,.slice V.sq.a V.sq.n V.sq.c,.slice V.db.a V.db.n V.db.c,.slice V.dq.a V.dq.n V.dq.c,.slice V.fl.a V.fl.n V.fl.c,.int .i64 m.cnt,.slice V.ca.a V.ca.n V.ca.c,.slice V.sp.a V.sp.n V.sp.c]] rfl Tryz.func22 rfl rfl rfl ?_;refine(HC1.out w' hg).mono ?_;rintro e w'' ⟨rfl,hg2⟩;exact⟨_,rfl,hg2,rfl,trivial⟩
 cases hv;simp only[Act.put,sB,sS,sZ];iterate 1 (refine lax_quiet rfl rfl rfl (fun K hK=>?_);go_big_quiet_op;refine hK _ ?_;clear hK K)
 refine lax_spec rfl rfl (fun w' hg hF=>?_) (fun v1 hv=>?_)
 ·refine Does.call [.agg #[.slice V3.f.a V3.f.n V3.f.c,.int .i64 M.hand,.slice V3.s.a V3.s.n V3.s.c,.slice V3.sb.a V3.sb.n V3.sb.c,.slice V3.sq.a V3.sq.n V3.sq.c,.slice V3.db.a V3.db.n V3.db.c,.slice V3.dq.a V3.dq.n V3.dq.c,.slice V3.fl.a V3.fl.n V3.fl.c,.int .i64 M.cnt,.slice V3.ca.a V3.ca.n V3.ca.c,.slice V3.sp.a V3.sp.n V3.sp.c]] rfl Tryz.func22 rfl rfl rfl ?_;refine(HC2.out w' hg).mono ?_;rintro e w'' ⟨rfl,hg2⟩;exact⟨_,rfl,hg2,rfl,trivial⟩
 cases hv;simp only[Act.put,sB,sS,sZ];iterate 2 (refine lax_quiet rfl rfl rfl (fun K hK=>?_);go_big_quiet_op;refine hK _ ?_;clear hK K)
 refine lax_nil fun W6 g6 _=>?_
 have G6:=dD (G5.out.trans (show Grew _ _ from g6))
 clear g6;go_wp2;go_ret;exact⟨rfl,G6.out⟩
end
section
open Go.ChangeShapes Go.WideShapes Go.ChangeAt Go.RowKit
theorem Tryz.cellsInt:Tryz.prog.cellsOf 3=1:=by kernel_rfl
theorem Tryz.cellsByte:Tryz.prog.cellsOf 5=1:=by kernel_rfl
theorem Tryz.cellsConfig:Tryz.prog.cellsOf 23=3:=by kernel_rfl
theorem Tryz.bytesByte:Tryz.prog.bytesOf 5=1:=by kernel_rfl
section
variable{H:Type} {enc:TypeId × Value->H} {w:World} {base:Nat} {spare:Nat->Bool} {held:Bool}
theorem cells_join {α:Type} {enc0:α->List Value} {k:Nat}:∀(l:List α) (x:Addr),(∀a∈l,(enc0 a).length=k)->(∀(i:Nat) a,l[i]? =some a->Cells w (x.add (i*k)) (enc0 a))->Cells w x (l.flatMap enc0)
 | [],x,_,_=>fun j u hj=>by simp at hj
 | a :: l,x,hk,h=>fun j u hj=>by
  rw[List.flatMap_cons]at hj;have ha:=hk a (by simp)
  rcases Nat.lt_or_ge j k with hjk | hjk
  ·rw[List.getElem?_append_left (by omega)]at hj
   have:=h 0 a rfl j u hj;rw[add_add']at this
   simpa using this
  rw[aR (by omega),ha]at hj
  have ih:=cells_join l (x.add k) (fun b hb=>hk b (by simp[hb])) (fun i b hi=>by
   have:=h (i+1) b (by simpa using hi)
   rw[add_add'];rw[show k+i*k=(i+1)*k by rw[Nat.add_mul];omega]
   exact this) (j - k) u hj
  rw[add_add',show k+(j - k)=j by omega]at ih
  exact ih
theorem open_row {α:Type} [Inhabited α] (enc0:α->List Value) (Q:α->Prop) (k:Nat) {t e:TypeId} (hu:Tryz.prog.underlying t=some (.slice e)) (hk:Tryz.prog.cellsOf e=k) (helem:∀n cs (x:DataW H × List MemPlace),cs.length=k->DataW.trod enc Tryz.prog w base spare held n e cs=some x->∃a,Q a/\cs=enc0 a)
  {fuel:Nat} {cs:List Value} {x:DataW H × List MemPlace} (h:DataW.trod enc Tryz.prog w base spare held fuel t cs=some x):
  ∃v l,cs=[v]/\SliceAt enc0 w v l/\(∀a∈l,Q a/\(enc0 a).length=k)/\(l=[]\/∃es sp,x.1= .slice es sp/\es.length=l.length):=by
 rcases Go.Deep.open_slice hu h with⟨rfl,_⟩ | ⟨a,len,cap,m,n,D,Pl,rfl,hb,hl,hm,hm',hx,hel⟩
 ·exact⟨_,[],rfl,⟨none,0,rfl,fun _=>rfl,fun x hx=>by cases hx⟩,by simp,.inl rfl⟩
 have hlm:len<=m:=by rw[hm'];split <;> omega
 have hex:∀i,i<len->∃a0,Q a0/\(enc0 a0).length=k/\Cells w (a.add (i*k)) (enc0 a0):=fun i hi=>by
  obtain⟨cs',h1,h2⟩:=hel i (by omega)
  rw[hk]at h1;obtain⟨_,hcl,hcc⟩:=World.cells?_some h1;obtain⟨a0,hq,rfl⟩:=helem _ _ _ hcl h2;refine⟨a0,hq,hcl,fun j u hj=>?_⟩
  have hj':j<k:=by rw[<-hcl];exact(gS.1 hj).1
  rw[hcc j hj'];exact hj
 obtain⟨f,hf⟩:=Go.Deep.choose_lt hex;refine⟨_,(List.range len).map f,rfl,⟨some a,cap,by simp,fun h=>(by cases h),fun y hy=>?_⟩,fun b hb=>?_,.inr ⟨_,_,by rw[hx],by simp⟩⟩
 ·cases hy;refine cells_join (k:=k) _ _ (fun b hb=>?_) (fun i b hi=>?_)
  ·obtain⟨i,hi,rfl⟩:=List.mem_map.1 hb;exact(hf i (List.mem_range.1 hi)).2.1
  have hil:i<len:=by have:=(gS.1 hi).1;simpa using this
  simp[hil]at hi
  subst hi;exact(hf i hil).2.2
 obtain⟨i,hi,rfl⟩:=List.mem_map.1 hb;have:=hf i (List.mem_range.1 hi);exact⟨this.1,this.2.1⟩
theorem open_bytes {b0:Nat} {r:Reach} {v:Value} {d:DataW H} {p:List MemPlace} (hv:Value.okWide Tryz.prog w r b0 24 v) (h:DataW.Trod enc Tryz.prog w base spare held 24 v d p) (hw:∀n∈d.weights Tryz.prog 24,n<=reachBytes):
  ∃(vl:Sli) (s:List Int),v= .slice vl.a vl.n vl.c/\RowAt byE w (.slice vl.a vl.n vl.c) s/\vl.n<=vl.c/\∀z∈s,0<=z/\z<256:=by
 obtain⟨fuel,hf⟩:=h;obtain⟨v0,ps,e0,s0,q0,w0⟩:=open_row byE.enc (fun z=>0<=z/\z<256) 1 Tryz.underlying24 Tryz.cellsByte (fun n cs x _ ht=>by
  obtain⟨z,hz,hz2,hz3⟩:=DataW.trod_int Tryz.underlying5 ht;refine⟨z,?_,hz⟩;have:=hz3;simp only[Lit.wf,Bool.and_eq_true,decide_eq_true_eq]at this;have e1:IntKind.u8.min=0:=rfl;have e2:IntKind.u8.max=255:=rfl;rw[e1,e2]at this;exact⟨this.1,by have:=this.2;omega⟩) hf
 obtain⟨a,c,rfl,s2,s3⟩:=s0;obtain⟨a1,l1,c1,rfl⟩:=okWide_slice Tryz.underlying24 hv;have e1:Value.slice a1 l1 c1= .slice a ps.length c:=by simpa [Value.cells]using e0
 cases e1;refine⟨⟨a,ps.length,c⟩,ps,rfl,⟨⟨a,c,rfl,s2,s3⟩,?_⟩,?_,fun z hz=>(q0 z hz).1⟩
 ·rcases w0 with rfl | ⟨es,sp,he,hel⟩
  ·show 0*1<=_
   omega
  have he':d= .slice es sp:=he;have:=hw ((es.length+sp.length)*Tryz.prog.bytesOf 5) (by rw[he'];simp[DataW.weights,Tryz.underlying24])
  rw[Tryz.bytesByte]at this;unfold reachBytes at this
  show ps.length*1<=_
  omega
 rcases Go.Deep.open_slice Tryz.underlying24 hf with⟨h1,_⟩ | ⟨a',len,cap,_,_,_,_,h1,_,hl,_⟩
 ·have e2:Value.slice a ps.length c= .slice none 0 0:=by simpa [Value.cells]using h1
  simp only[vJ]at e2
  show ps.length<=c
  omega
 have e2:Value.slice a ps.length c= .slice (some a') len cap:=by simpa [Value.cells]using h1
 simp only[vJ]at e2
 show ps.length<=c
 omega
theorem open_config {b0:Nat} {r:Reach} {v:Value} {d:DataW H} {p:List MemPlace} (hv:Value.okWide Tryz.prog w r b0 23 v) (h:DataW.Trod enc Tryz.prog w base spare held 23 v d p):∃F S B:Int,v= .agg #[.int .i64 F,.int .i64 S,.int .i64 B]:=by
 obtain⟨cs,rfl,hsz,_⟩:∃cs,v= .agg cs/\cs.size=Tryz.prog.cellsOf 23/\Row.okWide Tryz.prog w r b0 23 cs:=by
  simpa [Value.okWide,Tryz.underlying23]using hv
 obtain⟨fuel,hf⟩:=h;obtain⟨xs,n,_,_,hlen,hl,hf⟩:=DataW.trod_struct Tryz.underlying23 hf;rw[Tryz.cellsConfig]at hlen;have hxl:xs.length=3:=hl;obtain⟨cs⟩:=cs;simp only[Value.cells]at hlen hf;have h0:DataW.trod enc Tryz.prog w base spare held n 3 ((cs.drop 0).take (Tryz.prog.cellsOf 3))=xs[0]?:=hf 0 _ rfl;have h1:DataW.trod enc Tryz.prog w base spare held n 3 ((cs.drop 1).take (Tryz.prog.cellsOf 3))=xs[1]?:=hf 1 _ rfl;have h2:DataW.trod enc Tryz.prog w base spare held n 3 ((cs.drop 2).take (Tryz.prog.cellsOf 3))=xs[2]?:=hf 2 _ rfl;rw[Tryz.cellsInt]at h0 h1 h2;rw[gE (by omega)]at h0 h1 h2
 obtain⟨r0,e0,_,_⟩:=DataW.trod_int Tryz.underlying3 h0;obtain⟨r1,e1,_,_⟩:=DataW.trod_int Tryz.underlying3 h1;obtain⟨r2,e2,_,_⟩:=DataW.trod_int Tryz.underlying3 h2;obtain⟨c0,c1,c2,rfl⟩:∃c0 c1 c2,cs=[c0,c1,c2]:=by
  match cs,hlen with
  | [c0,c1,c2],_=>exact⟨c0,c1,c2,rfl⟩
 simp only[List.drop_succ_cons,List.drop_zero,List.take_succ_cons,List.take_zero,List.cons.injEq,and_true]at e0 e1 e2;subst e0 e1 e2;exact⟨r0,r1,r2,rfl⟩
end
theorem own:ownKnob Tryz.prog.godebug=none:=by kernel_rfl
theorem laidOut:laidOutB Tryz.prog=true:=by kernel_rfl
theorem forkCheap_lifted (os:Os) (started:os.Started) (H:Type) (enc:TypeId × Value->H):
  ReturnsInHanded {} Tryz.checked os 5 .any (Rows.forkCheapSpec.pre6 enc Tryz.prog Tryz.f5 Rows.forkCheapRow.domain false) (Rows.forkCheapSpec.post enc Tryz.prog Tryz.f5 false true false false):=by
 refine returnsInHanded_of_change_sized (C:=Tryz.checked) own started (by kernel_rfl) Tryz.func5
  (ChangeSpec.witness6 (enc:=enc) (C:=Tryz.checked) false ⟨#[],#[.agg #[.int .i64 0,.int .i64 0,.int .i64 0],.slice none 0 0,.int .i64 0],[]⟩ 8 (by kernel_rfl) (by kernel_rfl) (by kernel_rfl) (by kernel_rfl)) ?_
 intro W base args ds gs before hval0 hW hcnd hsz0 _;have hsz:(DataW.weightsEach Tryz.prog (Tryz.f5.params.toList++Rows.forkCheapSpec.plain.varTypes Tryz.prog) (ds++gs)).all (·<=reachBytes)=true:=hsz0;have hval:∀(j:Nat) t v,Tryz.f5.params[j]? =some t->args[j]? =some v->Value.okWide Tryz.prog W .any base t v:=hval0;have hW':=hW;obtain⟨p,q,hA0,hV,rfl,hfz,hnd⟩:=hW;have hA:DataW.TrodAll enc Tryz.prog W 0 (fun _=>true) true Tryz.f5.params.toList args.toList ds p:=hA0
 rw[Tryz.params5]at hA hval hsz;obtain⟨v0,vs0,d0,ds0,p0,q0,hargs,rfl,rfl,k0,r0⟩:=trodAll_cons hA;obtain⟨v1,vs1,d1,ds1,p1,q1,rfl,rfl,rfl,k1,r1⟩:=trodAll_cons r0;obtain⟨v2,vs2,d2,ds2,p2,q2,rfl,rfl,rfl,k2,r2⟩:=trodAll_cons r1;obtain⟨rfl,rfl,rfl⟩:=trodAll_nil r2;obtain rfl:args=#[v0,v1,v2]:=by cases args;simp_all
 obtain⟨rfl,rfl⟩:=trodVars_none hV;have lt0:∀x∈p0,x.block<W.heap.size:=by obtain⟨m,hm⟩:=k0;exact DataW.trod_lt m _ _ _ hm
 have lt1:∀x∈p1,x.block<W.heap.size:=by obtain⟨m,hm⟩:=k1;exact DataW.trod_lt m _ _ _ hm
 have lt2:∀x∈p2,x.block<W.heap.size:=by obtain⟨m,hm⟩:=k2;exact DataW.trod_lt m _ _ _ hm
 obtain⟨cF,cS,cB,hce⟩:=open_config (hval 0 23 v0 rfl rfl) k0;subst hce;obtain⟨vl,ll,hvl,hrow,hcap,hbyt⟩:=open_bytes (hval 1 24 v1 rfl rfl) k1 (fun n hn=>by
  have:=List.all_eq_true.1 hsz n (DataW.weights_mem_each (j:=1) (t:=24) (d:=d1) rfl rfl n hn)
  simpa using this)
 subst hvl;have k2':=k2;obtain⟨n2,rfl,rfl,rfl,w2⟩:=open_int Tryz.underlying3 (hval 2 3 v2 rfl rfl) k2;clear hA0 hval0 hsz0;refine(cheap_any cF cS cB vl ll n2 W hrow hcap hbyt).mono fun e W' ⟨he,bel⟩=>?_
 subst he;have stay:∀{t:TypeId} {v:Value} {d:DataW H} {ps:List MemPlace},Tryz.prog.readableRec t=true->t<Tryz.prog.types.size->DataW.Trod enc Tryz.prog W 0 (fun _=>true) true t v d ps->(∀x∈ps,x.block<W.heap.size)->DataW.Trod enc Tryz.prog W' 0 (fun b=>decide (b<W.heap.size)) true t v d ps:=
  fun h1 h2 h3 h4=>Below.trod laidOut h1 h2 h3 bel h4
 exact⟨_,rfl,_,_,_,[],_,[],hW',trodAll_mk1 (shut_bool Tryz.underlying4 _),(trodAll_cons_mk (stay (by kernel_rfl) (of_decide_eq_true (by kernel_rfl)) k0 lt0) (trodAll_cons_mk (stay (by kernel_rfl) (of_decide_eq_true (by kernel_rfl)) k1 lt1) (trodAll_cons_mk (stay (by kernel_rfl) (of_decide_eq_true (by kernel_rfl)) k2' lt2) trodAll_mk0))),rfl,Below.frame bel _,fun h=>by cases h⟩
theorem forkCheap_over:Rows.forkCheapRow.holds Tryz.pinned (OpenSpec.ofChange Rows.forkCheapSpec):=
 OpenClaim.holds_of_wide 5 Tryz.f5 rfl rfl rfl rfl rfl rfl rfl ⟨rfl,rfl,rfl,rfl,rfl⟩ rfl rfl rfl rfl rfl (by kernel_rfl) Tryz.func5 (by kernel_rfl)
  (of_decide_eq_true (by kernel_rfl)) (by unfold Func.isWrapper;first | (rw[if_pos (by decide+kernel)];kernel_rfl) | (rw[if_neg (by decide+kernel)];exact⟨rfl,rfl⟩))
  (fun os started H enc _=>forkCheap_lifted os started H enc)
theorem forkCheap_holds:Rows.ForkCheapSaid:=forkCheap_over
#print axioms forkCheap_holds
end
end Go.Proofs.YtangilolcekceaaGreat
