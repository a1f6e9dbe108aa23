import Derived.Test.YtjleclgecnndjaaGreatPC5
import Derived.Deep.CutRange
import Derived.ChangeKeysEq
namespace Go.Proofs.YtjleclgecnndjaaGreat
set_option maxRecDepth 100000
set_option maxHeartbeats 4000000
section
open Go.RowKit
theorem build_any (F S B : Int) (nf ns nb : Nat) (hnf : max (min F 40) 0 = (nf : Int)) (hns : max (min S 60) 0 = (ns : Int)) (hnb : max (min B 80) 0 = (nb : Int)) (vl : Sli) (L : List Int) (w : World) (lr : RowAt byE w (.slice vl.a vl.n vl.c) L) (lc : vl.n≤vl.c) (lb : ∀ z∈L,0≤z∧z < 256) :
  Calls Tryz.prog 10 #[.int .i64 F,.int .i64 S,.int .i64 B,.slice vl.a vl.n vl.c] w fun e w'=>∃ (V : MaV) (m : Ma) (T : List (Nat→En)) (hd : Int) (hi ht : Nat) (vt : Sli),e = .returned (.agg #[.slice V.f.a V.f.n V.f.c,.int .i64 hd,.slice V.s.a V.s.n V.s.c,.slice V.sb.a V.sb.n V.sb.c,.slice V.sq.a V.sq.n V.sq.c,.slice V.db.a V.db.n V.db.c,.slice V.dq.a V.dq.n V.dq.c,.slice V.fl.a V.fl.n V.fl.c,.int .i64 m.cnt,.slice V.ca.a V.ca.n V.ca.c,.slice V.sp.a V.sp.n V.sp.c])∧Built w nf ns nb L w' V m T hd hi ht vt:=by
 have hnf40 : nf≤40:=by omega
 have hns60 : ns≤60:=by omega
 have hnb80 : nb≤80:=by omega
 obtain ⟨W0,hW0⟩ : ∃ W0,(w.alloc (.cells #[.slice none 0 0,.int .i64 0,.slice none 0 0,.slice none 0 0,.slice none 0 0,.slice none 0 0,.slice none 0 0,.slice none 0 0,.int .i64 0,.slice none 0 0,.slice none 0 0] 40)).alloc (.cells #[.slice vl.a vl.n vl.c,.slice none 0 0,.int .i64 0,.slice none 0 0,.slice none 0 0,.slice none 0 0,.slice none 0 0,.slice none 0 0,.slice none 0 0,.int .i64 0,.slice none 0 0,.slice none 0 0,.slice none 0 0] 91) = W0:=⟨_,rfl⟩;have G0 : Hid (Grew w W0):=show Grew _ _ by rw [←hW0]; exact (grew_alloc _ _).trans (grew_alloc _ _)
 have X0 : Hid (BoxT W0 w.heap.size 40 [.slice none 0 0,.int .i64 0,.slice none 0 0,.slice none 0 0,.slice none 0 0,.slice none 0 0,.slice none 0 0,.slice none 0 0,.int .i64 0,.slice none 0 0,.slice none 0 0]):=show BoxT _ _ _ _ by rw [←hW0]; exact (BoxT.top _ [.slice none 0 0,.int .i64 0,.slice none 0 0,.slice none 0 0,.slice none 0 0,.slice none 0 0,.slice none 0 0,.slice none 0 0,.int .i64 0,.slice none 0 0,.slice none 0 0] _ rfl).grew (grew_alloc _ _)
 have Y0 : Hid (BoxT W0 (w.heap.size + 1) 91 [.slice vl.a vl.n vl.c,.slice none 0 0,.int .i64 0,.slice none 0 0,.slice none 0 0,.slice none 0 0,.slice none 0 0,.slice none 0 0,.slice none 0 0,.int .i64 0,.slice none 0 0,.slice none 0 0,.slice none 0 0]):=show BoxT _ _ _ _ by rw [←hW0]; exact BoxT.top _ [.slice vl.a vl.n vl.c,.slice none 0 0,.int .i64 0,.slice none 0 0,.slice none 0 0,.slice none 0 0,.slice none 0 0,.slice none 0 0,.slice none 0 0,.int .i64 0,.slice none 0 0,.slice none 0 0,.slice none 0 0] _ (by simp)
 have HW0 : Hid (_ = W0):=hW0;have HLR : Hid (RowAt byE w (.slice vl.a vl.n vl.c) L):=lr;have HLC : Hid (vl.n≤vl.c):=lc;have HLB : Hid (∀ z∈L,0≤z∧z < 256):=show ∀ z,_ from lb
 clear hW0 lr lc lb
 go_enter Tryz.func10,Tryz.ntmps10
 go_upto_region 3 with fail;rw [HW0.out];try rw [hnf]
 try rw [hns]
 try rw [hnb]
 clear hnf hns hnb HW0;obtain ⟨b,HBB⟩ : ∃ b,Hid (w.heap.size + 1 = b):=⟨_,rfl⟩;rw [HBB.out] at Y0 ⊢;obtain ⟨I,HI⟩ : ∃ I : World→Prop,Hid (∀ u,I u↔Grew W0 u):=⟨fun u=>Grew W0 u,fun _=>Iff.rfl⟩
 have hI0 : I W0.drew:=(HI.out _).2 (show Below _ _ _ from (Below.refl _ _).drew)
 have hne : Nonempty (HoldI I):=⟨⟨_,hI0⟩⟩;refine wp_lax_tailJ (I:=I) (J:=JB nf ns nb) 17 [(2,⟨fun v=>∃ g,v = .slice (some ⟨g,0,none⟩) nf nf,fun v u=>OwnRow frmE w.heap.size u v (List.replicate nf fr0),fun p q=>Grew p q,fun _=>True⟩),(5,⟨fun v=>∃ g,v = .slice (some ⟨g,0,none⟩) ns ns,fun v u=>OwnRow slE w.heap.size u v (List.replicate ns 0),fun p q=>Grew p q,fun _=>True⟩),(7,⟨fun v=>∃ g,v = .slice (some ⟨g,0,none⟩) ns ns,fun v u=>OwnPages w.heap.size u v (List.replicate ns zero8),fun p q=>Grew p q,fun _=>True⟩),(10,⟨fun v=>∃ g,v = .slice (some ⟨g,0,none⟩) nb nb,fun v u=>OwnPages w.heap.size u v (List.replicate nb zero8),fun p q=>Grew p q,fun _=>True⟩)] hI0 ?hJ0 ?hJq ?hJs ?hJu mixed (by kernel_rfl) rfl rfl (by decide) ?hS ?hp ?hpre ?hpr0 ?_
 case hJ0 =>
  refine ⟨⟨rfl,rfl,rfl⟩,fun s hs => .inl ?_,fun s hs x n c he=>?_,fun s hs t ht hst x n c y n' c' he=>?_⟩
  ·simp only [List.mem_cons,List.not_mem_nil,or_false] at hs
   rcases hs with rfl | rfl | rfl | rfl <;> rfl
  ·simp only [List.mem_cons,List.not_mem_nil,or_false] at hs
   rcases hs with rfl | rfl <;> cases he
  ·simp only [List.mem_cons,List.not_mem_nil,or_false] at hs
   rcases hs with rfl | rfl <;> cases he
 case hJq =>
  intro j o hj hS a v u hr hJ;exact hJ.quiet (okL_spec (Sx:=[2,5,7,10]) (by kernel_rfl) hj (lookup_out hS)) (by omega) (by omega) hnb80 hr
 case hJs =>
  intro j o s hj hs a u K hJ hI hd;have hs':=lookup_in hs;clear hs;simp only [List.mem_cons,Prod.mk.injEq,List.not_mem_nil,or_false] at hs'
  rcases hs' with ⟨rfl,rfl⟩ | ⟨rfl,rfl⟩ | ⟨rfl,rfl⟩ | ⟨rfl,rfl⟩
  ·cases hj;obtain ⟨i0,hi,hz0,hz1,hz2⟩:=info_parts frmE.info;exact hJ.make 25 59 i0 _ 32 rfl (by simp) frmE.und hi hz0 (by rw [hz2]; decide) (by decide) hd
  ·cases hj;obtain ⟨i0,hi,hz0,hz1,hz2⟩:=info_parts slE.info;exact hJ.make 29 3 i0 _ 35 rfl (by simp) slE.und hi hz0 (by rw [hz2]; decide) (by decide) hd
  ·cases hj;obtain ⟨i0,hi,hz0,hz1,hz2⟩:=info_parts Tryz.infoPage;exact hJ.make 30 50 i0 _ 37 rfl (by simp) Tryz.underlying30 hi hz0 (by rw [hz2]; decide) (by decide) hd
  ·cases hj;obtain ⟨i0,hi,hz0,hz1,hz2⟩:=info_parts Tryz.infoPage;exact hJ.make 30 50 i0 _ 40 rfl (by simp) Tryz.underlying30 hi hz0 (by rw [hz2]; decide) (by decide) hd
 case hJu =>
  intro j o hj a u hJ;exact hJ.undef (okD_spec (by kernel_rfl) hj)
 case hS =>
  intro x hx;simp only [List.mem_cons,List.not_mem_nil,or_false] at hx
  rcases hx with rfl | rfl | rfl | rfl <;> exact ⟨_,0,rfl⟩
 case hp =>
  intro k s j t hk hj hjk hanc v p q hst hpo;have hk':=lookup_in hk;have hj':=lookup_in hj;clear hk hj;simp only [List.mem_cons,Prod.mk.injEq,List.not_mem_nil,or_false] at hk' hj';have hg : Grew p q:=by rcases hj' with ⟨rfl,rfl⟩ | ⟨rfl,rfl⟩ | ⟨rfl,rfl⟩ | ⟨rfl,rfl⟩ <;> exact hst
  rcases hk' with ⟨rfl,rfl⟩ | ⟨rfl,rfl⟩ | ⟨rfl,rfl⟩ | ⟨rfl,rfl⟩
  ·exact OwnRow.grew hpo hg
  ·exact OwnRow.grew hpo hg
  ·exact OwnPages.grew hpo hg
  ·exact OwnPages.grew hpo hg
 case hpre =>
  intro j t k s hj hk hjk p q hst hpr;have hj':=lookup_in hj;clear hk hj;simp only [List.mem_cons,Prod.mk.injEq,List.not_mem_nil,or_false] at hj'
  rcases hj' with ⟨rfl,rfl⟩ | ⟨rfl,rfl⟩ | ⟨rfl,rfl⟩ | ⟨rfl,rfl⟩ <;> trivial
 case hpr0 =>
  intro k t hk;have hk':=lookup_in hk;clear hk;simp only [List.mem_cons,Prod.mk.injEq,List.not_mem_nil,or_false] at hk'
  rcases hk' with ⟨rfl,rfl⟩ | ⟨rfl,rfl⟩ | ⟨rfl,rfl⟩ | ⟨rfl,rfl⟩ <;> trivial
 simp only [List.take,List.drop];iterate 2 (refine laxI_quiet rfl rfl rfl (fun K hK=>?_); go_big_quiet_op; refine hK _ ?_; clear hK K)
 refine laxI_spec rfl rfl (fun w' hI' hpr hF=>?_) (fun v1 hv=>?_)
 ·have hg:=(HI.out _).1 hI';exact does_make_row frmE w' nf (by show nf * 40≤_; omega) (.tmp 32) rfl rfl (fun C ho=>⟨(HI.out _).2 (hg.trans (grew_alloc _ _)),grew_alloc _ _,⟨_,rfl⟩,ho.base (Nat.le_trans (Below.size G0.out) (Below.size hg))⟩)
 obtain ⟨gf,rfl⟩:=hv;simp only [Act.put,List.setIfInBounds_toArray,List.set_cons_succ,List.set_cons_zero];iterate 2 (refine laxI_quiet rfl rfl rfl (fun K hK=>?_); go_big_quiet_op; refine hK _ ?_; clear hK K)
 refine laxI_spec rfl rfl (fun w' hI' hpr hF=>?_) (fun v1 hv=>?_)
 ·have hg:=(HI.out _).1 hI';exact does_make_row slE w' ns (by show ns * 8≤_; omega) (.tmp 35) rfl rfl (fun C ho=>⟨(HI.out _).2 (hg.trans (grew_alloc _ _)),grew_alloc _ _,⟨_,rfl⟩,ho.base (Nat.le_trans (Below.size G0.out) (Below.size hg))⟩)
 obtain ⟨gl,rfl⟩:=hv;simp only [Act.put,List.setIfInBounds_toArray,List.set_cons_succ,List.set_cons_zero];iterate 1 (refine laxI_quiet rfl rfl rfl (fun K hK=>?_); go_big_quiet_op; refine hK _ ?_; clear hK K)
 refine laxI_spec rfl rfl (fun w' hI' hpr hF=>?_) (fun v1 hv=>?_)
 ·have hg:=(HI.out _).1 hI';exact does_make_pages w' ns (by omega) (.tmp 37) rfl rfl (fun C ho=>⟨(HI.out _).2 (hg.trans (grew_alloc _ _)),grew_alloc _ _,⟨_,rfl⟩,ho.base (Nat.le_trans (Below.size G0.out) (Below.size hg))⟩)
 obtain ⟨gsb,rfl⟩:=hv;simp only [Act.put,List.setIfInBounds_toArray,List.set_cons_succ,List.set_cons_zero];iterate 2 (refine laxI_quiet rfl rfl rfl (fun K hK=>?_); go_big_quiet_op; refine hK _ ?_; clear hK K)
 refine laxI_spec rfl rfl (fun w' hI' hpr hF=>?_) (fun v1 hv=>?_)
 ·have hg:=(HI.out _).1 hI';exact does_make_pages w' nb hnb80 (.tmp 40) rfl rfl (fun C ho=>⟨(HI.out _).2 (hg.trans (grew_alloc _ _)),grew_alloc _ _,⟨_,rfl⟩,ho.base (Nat.le_trans (Below.size G0.out) (Below.size hg))⟩)
 obtain ⟨gdb,rfl⟩:=hv;simp only [Act.put,List.setIfInBounds_toArray,List.set_cons_succ,List.set_cons_zero];iterate 4 (refine laxI_quiet rfl rfl rfl (fun K hK=>?_); go_big_quiet_op; refine hK _ ?_; clear hK K)
 refine laxI_nilc (.tmp 31) ⟨b,0,none⟩ rfl rfl rfl rfl ?_;simp only [Act.put,List.setIfInBounds_toArray,List.set_cons_succ,List.set_cons_zero];iterate 1 (refine laxI_quiet rfl rfl rfl (fun K hK=>?_); go_big_quiet_op; refine hK _ ?_; clear hK K)
 refine laxI_nil fun W1 hI1 hF hJ=>?_
 have hap : gsb≠gdb:=hJ.2.2.2 38 (by simp) 41 (by simp) (by decide) ⟨gsb,0,none⟩ ns ns ⟨gdb,0,none⟩ nb nb rfl rfl
 have o1 : OwnRow frmE w.heap.size W1 (.slice (some ⟨gf,0,none⟩) nf nf) (List.replicate nf fr0):=hF 2;have o2 : OwnRow slE w.heap.size W1 (.slice (some ⟨gl,0,none⟩) ns ns) (List.replicate ns 0):=hF 5;have o3 : OwnPages w.heap.size W1 (.slice (some ⟨gsb,0,none⟩) ns ns) (List.replicate ns zero8):=hF 7;have o4 : OwnPages w.heap.size W1 (.slice (some ⟨gdb,0,none⟩) nb nb) (List.replicate nb zero8):=hF 10;have g1:=(HI.out _).1 hI1;have Y1 : Hid (BoxT W1 b 91 [.slice vl.a vl.n vl.c,.slice none 0 0,.int .i64 0,.slice none 0 0,.slice none 0 0,.slice none 0 0,.slice none 0 0,.slice none 0 0,.slice none 0 0,.int .i64 0,.slice none 0 0,.slice none 0 0,.slice none 0 0]):=Y0.out.grew g1;have X1 : Hid (BoxT W1 w.heap.size 40 [.slice none 0 0,.int .i64 0,.slice none 0 0,.slice none 0 0,.slice none 0 0,.slice none 0 0,.slice none 0 0,.slice none 0 0,.int .i64 0,.slice none 0 0,.slice none 0 0]):=X0.out.grew g1;have G1 : Hid (Grew w W1):=G0.out.trans g1;clear hF hJ hI1 hI0 hne HI g1;refine wp_storeMidT rfl 40 (.tmp 47) (.tmp 45) rfl b 1 rfl [.slice (some ⟨gf,0,none⟩) nf nf,.int .i64 0,.slice (some ⟨gl,0,none⟩) ns ns,.slice (some ⟨gsb,0,none⟩) ns ns,.slice none 0 0,.slice (some ⟨gdb,0,none⟩) nb nb,.slice none 0 0,.slice none 0 0,.int .i64 (nb : Int),.slice none 0 0,.slice none 0 0] rfl Y1.out (by simp) (by kernel_rfl) (fun v hv=>by simp only [List.mem_cons,List.not_mem_nil,or_false] at hv; rcases hv with rfl | rfl | rfl | rfl | rfl | rfl | rfl | rfl | rfl | rfl | rfl <;> rfl) ?_
 intro W2 hb2 hg2 hs2;have B2 : BoxT W2 b 91 [.slice vl.a vl.n vl.c,.slice (some ⟨gf,0,none⟩) nf nf,.int .i64 0,.slice (some ⟨gl,0,none⟩) ns ns,.slice (some ⟨gsb,0,none⟩) ns ns,.slice none 0 0,.slice (some ⟨gdb,0,none⟩) nb nb,.slice none 0 0,.slice none 0 0,.int .i64 (nb : Int),.slice none 0 0,.slice none 0 0,.slice none 0 0]:=hb2;have M2 : Hid (Mk w W2.heap.size W2 b vl L ⟨⟨some ⟨gf,0,none⟩,nf,nf⟩,⟨some ⟨gl,0,none⟩,ns,ns⟩,⟨some ⟨gsb,0,none⟩,ns,ns⟩,sli0,⟨some ⟨gdb,0,none⟩,nb,nb⟩,sli0,sli0,sli0,sli0⟩ ⟨List.replicate nf fr0,0,List.replicate ns 0,List.replicate ns zero8,[],List.replicate nb zero8,[],[],nb,[],[]⟩ sli0 []):=mk_start (grew_grown G1.out hg2 (by have:=HBB.out; omega)) (by have:=HBB.out; omega) B2 HLR.out HLC.out HLB.out (o1.kind hg2 Y1.out (by decide)) (o2.kind hg2 Y1.out (by decide)) ⟨ownsRow_kind o3.1 hg2 Y1.out (by decide),o3.2⟩ ⟨ownsRow_kind o4.1 hg2 Y1.out (by decide),o4.2⟩ hap
 have X2 : Hid (BoxT W2 w.heap.size 40 [.slice none 0 0,.int .i64 0,.slice none 0 0,.slice none 0 0,.slice none 0 0,.slice none 0 0,.slice none 0 0,.slice none 0 0,.int .i64 0,.slice none 0 0,.slice none 0 0]):=X1.out.beside hg2 (fun g e=>by cases e; have:=HBB.out; omega)
 clear hb2 hg2 hs2 B2 o1 o2 o3 o4 hap Y1 X1 G1;obtain ⟨hi,HHI⟩ : ∃ hi,Hid (W2.heap.size = hi):=⟨_,rfl⟩;rw [HHI.out] at M2;try simp only [Act.put]
 have x1:=M2.out.box.box.c 1 rfl;go_wp2;clear x1
 go_loopg [55] nf (fun gg s55 wr=>∃ kk : Nat,kk≤nf∧nf - kk≤gg∧s55 = .int .i64 kk∧Hid (Mk w hi wr b vl L ⟨⟨some ⟨gf,0,none⟩,nf,nf⟩,⟨some ⟨gl,0,none⟩,ns,ns⟩,⟨some ⟨gsb,0,none⟩,ns,ns⟩,sli0,⟨some ⟨gdb,0,none⟩,nb,nb⟩,sli0,sli0,sli0,sli0⟩ ⟨fsTo nf kk,0,List.replicate ns 0,List.replicate ns zero8,[],List.replicate nb zero8,[],[],nb,[],[]⟩ sli0 [])∧Hid (BoxT wr w.heap.size 40 [.slice none 0 0,.int .i64 0,.slice none 0 0,.slice none 0 0,.slice none 0 0,.slice none 0 0,.slice none 0 0,.slice none 0 0,.int .i64 0,.slice none 0 0,.slice none 0 0]))
 case atStart=>exact ⟨0,Nat.zero_le _,by omega,rfl,by rw [fsTo_zero]; exact M2.out,X2.out⟩
 case round =>
  obtain ⟨kk,hkk,hgg,rfl,MW,XW⟩:=hrel;clear M2 X2
  by_cases hlt : kk < nf
  ·have hltz : (kk : Int) < (nf : Int):=by omega
   have x1:=MW.out.box.box.c 1 rfl;have R : Hid (OwnRow frmE w.heap.size wr (.slice (some ⟨gf,0,none⟩) nf nf) (fsTo nf kk)):=MW.out.rows.fs;have d : wr.cell? ⟨gf,kk * 13 + 11,none⟩ = some (.int .i64 0):=by
    have:=R.out.one (fsTo_at hlt) 11 _ rfl;rw [add_add',Addr.add_lit,Nat.zero_add] at this;exact this
   have xf:=R.out.unfrozen rfl;obtain ⟨ow,gr,sz⟩:=R.out.cell (k:=kk) (o:=11) rfl (fsTo_at hlt) (y:=frF) (u:= .int .i64 (-1)) rfl (by decide)
   rw [fsTo_set hlt] at ow;have hM:=MW.out.setF rfl gr sz ow;have M3 : Hid (Mk w hi (wr.setCell ⟨gf,kk * 13 + 11,none⟩ (.int .i64 (-1))) b vl L ⟨⟨some ⟨gf,0,none⟩,nf,nf⟩,⟨some ⟨gl,0,none⟩,ns,ns⟩,⟨some ⟨gsb,0,none⟩,ns,ns⟩,sli0,⟨some ⟨gdb,0,none⟩,nb,nb⟩,sli0,sli0,sli0,sli0⟩ ⟨fsTo nf (kk + 1),0,List.replicate ns 0,List.replicate ns zero8,[],List.replicate nb zero8,[],[],nb,[],[]⟩ sli0 []):=hM.1;have X3 : Hid (BoxT (wr.setCell ⟨gf,kk * 13 + 11,none⟩ (.int .i64 (-1))) w.heap.size 40 [.slice none 0 0,.int .i64 0,.slice none 0 0,.slice none 0 0,.slice none 0 0,.slice none 0 0,.slice none 0 0,.slice none 0 0,.int .i64 0,.slice none 0 0,.slice none 0 0]):=hM.2.1 _ _ _ XW.out ⟨by decide,by decide,by decide,by decide,by decide,by decide,by decide,by decide,fun h=>absurd h (by decide)⟩
   clear hM ow gr sz R;go_wp2
   go_roundg (nf - (kk + 1))
   case measure=>omega
   case rel=>exact ⟨kk + 1,by omega,by omega,by go_num,M3.out,X3.out⟩
  ·have hltz : ¬ (kk : Int) < (nf : Int):=by omega
   obtain rfl : nf = kk:=by omega
   rw [fsTo_all] at MW;have hpk:=pick_any 3 MW.out;go_wp2_with fail;refine hpk.mono ?_;clear hpk;rintro e W3 ⟨vl1,L1,y,rfl,mk1,gr1,sz1,y0,y1,yn,ll⟩;obtain ⟨c,rfl⟩ : ∃ c : Nat,y = (c : Int):=⟨y.toNat,by omega⟩
   have hc3 : c < 3:=by rcases y1 with h | h <;> omega
   have HC0 : Hid (L = []→c = 0):=show _→_ from fun e=>by have:=yn e; omega
   have M3 : Hid (Mk w hi W3 b vl1 L1 ⟨⟨some ⟨gf,0,none⟩,nf,nf⟩,⟨some ⟨gl,0,none⟩,ns,ns⟩,⟨some ⟨gsb,0,none⟩,ns,ns⟩,sli0,⟨some ⟨gdb,0,none⟩,nb,nb⟩,sli0,sli0,sli0,sli0⟩ ⟨List.replicate nf frF,0,List.replicate ns 0,List.replicate ns zero8,[],(List.replicate nb zero8),[],[],nb,[],[]⟩ sli0 []):=mk1;have X3 : Hid (BoxT W3 w.heap.size 40 [.slice none 0 0,.int .i64 0,.slice none 0 0,.slice none 0 0,.slice none 0 0,.slice none 0 0,.slice none 0 0,.slice none 0 0,.int .i64 0,.slice none 0 0,.slice none 0 0]):=XW.out.beside gr1 (fun g e=>by cases e; have:=HBB.out; omega)
   have LL3 : Hid (Less L L1):=ll;clear mk1 gr1 sz1 y0 y1 yn ll MW XW;go_wp2
   go_loopg [70] c (fun gg s70 wr=>∃ (k2 : Nat) (vl' : Sli) (L' : List Int) (sd sf : Sli) (db : List (List Int)) (dq : List (Int × List Int)) (fl : List Fl),k2≤c∧c - k2≤gg∧s70 = .int .i64 k2∧Hid (Mk w hi wr b vl' L' ⟨⟨some ⟨gf,0,none⟩,nf,nf⟩,⟨some ⟨gl,0,none⟩,ns,ns⟩,⟨some ⟨gsb,0,none⟩,ns,ns⟩,sli0,⟨some ⟨gdb,0,none⟩,nb,nb⟩,sd,sf,sli0,sli0⟩ ⟨List.replicate nf frF,0,List.replicate ns 0,List.replicate ns zero8,[],db,dq,fl,nb,[],[]⟩ sli0 [])∧Hid (Less L L')∧Hid (BoxT wr w.heap.size 40 [.slice none 0 0,.int .i64 0,.slice none 0 0,.slice none 0 0,.slice none 0 0,.slice none 0 0,.slice none 0 0,.slice none 0 0,.int .i64 0,.slice none 0 0,.slice none 0 0])∧Hid (FInv fl nb db dq []∧fl.length≤k2∧db.length = nb∧∀ f∈fl,f.size < 40)∧Hid (k2 = 0→fl = []∧dq = []∧db = List.replicate nb zero8))
   case atStart=>exact ⟨0,vl1,L1,sli0,sli0,_,_,_,Nat.zero_le _,by omega,rfl,M3.out,LL3.out,X3.out,(show _∧_ from ⟨FInv.zero hnb80,Nat.zero_le _,List.length_replicate,fun f hf=>(by cases hf)⟩),(fun _=>⟨rfl,rfl,rfl⟩)⟩
   case round =>
    obtain ⟨k2,vl2,L2,sd,sf,db,dq,fl,hk2,hg2,rfl,MW,LW,XW,FW,ZW⟩:=hrel;clear M3 X3 LL3
    by_cases hlt2 : k2 < c
    ·have hltz2 : (k2 : Int) < (c : Int):=by omega
     have hpk2:=pick_any 40 MW.out;go_wp2_with fail;refine hpk2.mono ?_;clear hpk2;rintro e W4 ⟨vl4,L4,sz,rfl,mk4,gr4,-,s0,s1,-,ll4⟩;have hsz : sz < 40:=by rcases s1 with h | h <;> omega
     have M4 : Hid (Mk w hi W4 b vl4 L4 ⟨⟨some ⟨gf,0,none⟩,nf,nf⟩,⟨some ⟨gl,0,none⟩,ns,ns⟩,⟨some ⟨gsb,0,none⟩,ns,ns⟩,sli0,⟨some ⟨gdb,0,none⟩,nb,nb⟩,sd,sf,sli0,sli0⟩ ⟨List.replicate nf frF,0,List.replicate ns 0,List.replicate ns zero8,[],db,dq,fl,nb,[],[]⟩ sli0 []):=mk4;have X4 : Hid (BoxT W4 w.heap.size 40 [.slice none 0 0,.int .i64 0,.slice none 0 0,.slice none 0 0,.slice none 0 0,.slice none 0 0,.slice none 0 0,.slice none 0 0,.int .i64 0,.slice none 0 0,.slice none 0 0]):=XW.out.beside gr4 (fun g e=>by cases e; have:=HBB.out; omega)
     have LL4 : Hid (Less L L4):=LW.out.trans ll4;clear mk4 gr4 ll4 MW XW LW s1;go_upto_region 12 with fail;obtain ⟨pf,HPF⟩ : ∃ pf,Hid (W4.heap.size = pf):=⟨_,rfl⟩;obtain ⟨W5,hW5⟩ : ∃ W5,W4.alloc (.cells #[.int .i64 sz,.slice none 0 0] 71) = W5:=⟨_,rfl⟩;have g5 : Grew W4 W5:=by rw [←hW5]; exact grew_alloc _ _
     have P5 : Hid (BoxT W5 pf 71 [.int .i64 sz,.slice none 0 0]):=show BoxT _ _ _ _ by rw [←hW5]; exact BoxT.top _ [.int .i64 sz,.slice none 0 0] _ HPF.out.symm
     have M5 : Hid (Mk w hi W5 b vl4 L4 ⟨⟨some ⟨gf,0,none⟩,nf,nf⟩,⟨some ⟨gl,0,none⟩,ns,ns⟩,⟨some ⟨gsb,0,none⟩,ns,ns⟩,sli0,⟨some ⟨gdb,0,none⟩,nb,nb⟩,sd,sf,sli0,sli0⟩ ⟨List.replicate nf frF,0,List.replicate ns 0,List.replicate ns zero8,[],db,dq,fl,nb,[],[]⟩ sli0 []):=M4.out.grew g5;have X5 : Hid (BoxT W5 w.heap.size 40 [.slice none 0 0,.int .i64 0,.slice none 0 0,.slice none 0 0,.slice none 0 0,.slice none 0 0,.slice none 0 0,.slice none 0 0,.int .i64 0,.slice none 0 0,.slice none 0 0]):=X4.out.grew g5;have FB5 : Hid (FlB w.heap.size hi pf W5 ⟨⟨some ⟨gf,0,none⟩,nf,nf⟩,⟨some ⟨gl,0,none⟩,ns,ns⟩,⟨some ⟨gsb,0,none⟩,ns,ns⟩,sli0,⟨some ⟨gdb,0,none⟩,nb,nb⟩,sd,sf,sli0,sli0⟩ ⟨List.replicate nf frF,0,List.replicate ns 0,List.replicate ns zero8,[],db,dq,fl,nb,[],[]⟩):=show FlB _ _ _ _ _ _ by rw [←HPF.out]; exact M4.out.rows.flB.grew g5
     have HHP : Hid (hi≤pf):=show _≤_ by rw [←HPF.out]; exact M4.out.rows.hw
     have HFN : Hid (∀ g,(Value.slice sf.a sf.n sf.c).ownBlock = some g→g < pf):=show ∀ g,_ from fun g hg=>by rw [←HPF.out]; obtain ⟨xs,q1,-,-⟩:=M4.out.rows.fl; exact (q1.lt g hg).2
     rw [hW5,HPF.out];clear hW5 g5 M4 X4;have p0:=P5.out.box.c 0 rfl;have hcn:=refCount_any sz W5 s0 (by omega)
     go_wp2_with fail;refine hcn.mono ?_;clear hcn p0;rintro e W6 ⟨rfl,hw6⟩;rw [hw6];clear hw6 W6;have HC9 : Hid (cntP sz≤5):=show _≤_ by unfold cntP; split <;> omega
     obtain ⟨N3,HN3⟩ : ∃ N3 : Nat,Hid (cntP sz = (N3 : Int)):=⟨(cntP sz).toNat,show _ = _ by unfold cntP; split <;> omega⟩
     rw [HN3.out];have HSZ : Hid (0≤sz∧sz < 40):=show _∧_ from ⟨s0,hsz⟩
     have hN35 : N3≤5:=by have:=HC9.out; have:=HN3.out; omega
     have F5 : Hid (FC w hi b W5 vl4 L4 ⟨⟨some ⟨gf,0,none⟩,nf,nf⟩,⟨some ⟨gl,0,none⟩,ns,ns⟩,⟨some ⟨gsb,0,none⟩,ns,ns⟩,sli0,⟨some ⟨gdb,0,none⟩,nb,nb⟩,sd,sf,sli0,sli0⟩ ⟨List.replicate nf frF,0,List.replicate ns 0,List.replicate ns zero8,[],db,dq,fl,nb,[],[]⟩ pf sz sli0 []):=show FC _ _ _ _ _ _ _ _ _ _ _ _ from ⟨M5.out,HHP.out,FB5.out,HFN.out,P5.out,OwnRow.nil _ _ _⟩
     have HF0 : Hid (FInv fl nb db dq []∧db.length = nb):=show _∧_ from ⟨FW.out.1,FW.out.2.2.1⟩
     have HF40 : Hid (∀ f∈fl,f.size < 40):=show ∀ f,_ from FW.out.2.2.2
     have HFL : Hid (fl.length≤k2):=show _≤_ from FW.out.2.1
     clear s0 hsz M5 FB5 P5 HHP FW ZW HC9;go_wp2
     go_loopg [78] N3 (fun gg s78 wr=>∃ (k3 : Nat) (vl' : Sli) (L' : List Int) (sd' bs : Sli) (db' : List (List Int)) (dq' : List (Int × List Int)) (bl : List Int),k3≤N3∧N3 - k3≤gg∧s78 = .int .i64 k3∧Hid (FC w hi b wr vl' L' ⟨⟨some ⟨gf,0,none⟩,nf,nf⟩,⟨some ⟨gl,0,none⟩,ns,ns⟩,⟨some ⟨gsb,0,none⟩,ns,ns⟩,sli0,⟨some ⟨gdb,0,none⟩,nb,nb⟩,sd',sf,sli0,sli0⟩ ⟨List.replicate nf frF,0,List.replicate ns 0,List.replicate ns zero8,[],db',dq',fl,nb,[],[]⟩ pf sz bs bl)∧Hid (Less L L')∧Hid (BoxT wr w.heap.size 40 [.slice none 0 0,.int .i64 0,.slice none 0 0,.slice none 0 0,.slice none 0 0,.slice none 0 0,.slice none 0 0,.slice none 0 0,.int .i64 0,.slice none 0 0,.slice none 0 0])∧Hid (FInv fl nb db' dq' bl∧bl.length = k3∧db'.length = nb))
     case atStart=>exact ⟨0,vl4,L4,sd,sli0,db,dq,[],Nat.zero_le _,by omega,rfl,F5.out,LL4.out,X5.out,(show _∧_ from ⟨HF0.out.1,rfl,HF0.out.2⟩)⟩
     case round =>
      obtain ⟨k3,vl6,L6,sd6,bs,db6,dq6,bl,hk3,hg3,rfl,FX,LX,XX,FI⟩:=hrel;clear F5 LL4 X5 HF0
      by_cases hlt3 : k3 < N3
      ·have hltz3 : (k3 : Int) < (N3 : Int):=by omega
       have hpk7:=pick_any (max (nb : Int) 1) FX.out.mm;go_wp2_with fail;refine hpk7.mono ?_;clear hpk7;rintro e W7 ⟨vl7,L7,x,rfl,mk7,gr7,-,x0,-,-,ll7⟩;obtain ⟨n,rfl⟩ : ∃ n : Nat,x = (n : Int):=⟨x.toNat,by omega⟩
       have F7 : Hid (FC w hi b W7 vl7 L7 ⟨⟨some ⟨gf,0,none⟩,nf,nf⟩,⟨some ⟨gl,0,none⟩,ns,ns⟩,⟨some ⟨gsb,0,none⟩,ns,ns⟩,sli0,⟨some ⟨gdb,0,none⟩,nb,nb⟩,sd6,sf,sli0,sli0⟩ ⟨List.replicate nf frF,0,List.replicate ns 0,List.replicate ns zero8,[],db6,dq6,fl,nb,[],[]⟩ pf sz bs bl):=FX.out.pick gr7 mk7;have X7 : Hid (BoxT W7 w.heap.size 40 [.slice none 0 0,.int .i64 0,.slice none 0 0,.slice none 0 0,.slice none 0 0,.slice none 0 0,.slice none 0 0,.slice none 0 0,.int .i64 0,.slice none 0 0,.slice none 0 0]):=XX.out.kind gr7 FX.out.mm.box (by decide)
       have LL7 : Hid (Less L L7):=LX.out.trans ll7;clear mk7 gr7 ll7 x0 FX XX LX;go_upto_region 17 with fail
       go_cut [78,109] from 78 to 160 (fun s78 s109 wx=>∃ (tk : Bool) (vl' : Sli) (L' : List Int),s78 = .int .i64 k3∧s109 = .bool tk∧Hid (FC w hi b wx vl' L' ⟨⟨some ⟨gf,0,none⟩,nf,nf⟩,⟨some ⟨gl,0,none⟩,ns,ns⟩,⟨some ⟨gsb,0,none⟩,ns,ns⟩,sli0,⟨some ⟨gdb,0,none⟩,nb,nb⟩,sd6,sf,sli0,sli0⟩ ⟨List.replicate nf frF,0,List.replicate ns 0,List.replicate ns zero8,[],db6,dq6,fl,nb,[],[]⟩ pf sz bs bl)∧Hid (Less L L')∧Hid (BoxT wx w.heap.size 40 [.slice none 0 0,.int .i64 0,.slice none 0 0,.slice none 0 0,.slice none 0 0,.slice none 0 0,.slice none 0 0,.slice none 0 0,.int .i64 0,.slice none 0 0,.slice none 0 0])∧Hid (tk = true→n < nb∧usedB (fl ++ [⟨sz,bl⟩]) (n : Int) = false))
       case first =>
        by_cases hn : n < nb
        ·have hnz : (n : Int) < (nb : Int):=by omega
         have hnd : decide ((n : Int) < (nb : Int)) = true:=by simpa using hnz
         obtain ⟨xs,q1,q2,q3⟩:=F7.out.fb;have HX : Hid (OwnRow fvE w.heap.size W7 (.slice sf.a sf.n sf.c) xs):=q1;obtain ⟨nF,HNF⟩ : ∃ nF,Hid (fl.length = nF):=⟨_,rfl⟩;have HXL : Hid (xs.length = nF):=show _ = _ by rw [q2]; exact HNF.out
         have hnF : nF≤10:=by have:=HFL.out; have:=HNF.out; omega
         have HSN : Hid (sf.n = nF):=show _ = _ by rw [q1.n]; exact HXL.out
         have HX3 : Hid (∀ (i : Nat) x f,xs[i]? = some x→fl[i]? = some f→x.size = f.size∧OwnRow blE hi W7 x.v f.bl):=show ∀ i,_ from fun i x f hx hf=>(q3 i x f hx hf).1
         clear q1 q2 q3;obtain ⟨fx,HFX⟩ : ∃ fx : FlV,Hid (fx = ⟨sz,bs.a,bs.n,bs.c⟩):=⟨_,rfl⟩;obtain ⟨UB,HUB⟩ : ∃ UB,Hid (usedB (fl ++ [(⟨sz,bl⟩ : Fl)]) (n : Int) = UB):=⟨usedB (fl ++ [(⟨sz,bl⟩ : Fl)]) (n : Int),rfl⟩;have HB7 : Hid (b < W7.heap.size):=F7.out.mm.box.box.lt;have HPB : Hid (pf≠b):=show _≠_ from fun e=>by
          have h1 : W7.heap[pf]? = _:=F7.out.box;have h2 : W7.heap[b]? = _:=F7.out.mm.box;rw [e,h2] at h1;cases h1
         have HXB : Hid (w.heap.size≠b):=show _≠_ by have:=HBB.out; omega
         obtain ⟨I,HI⟩ : ∃ I : World→Prop,Hid (∀ u,I u↔Out b (b + 1) W7 u∧FCE w hi b L ⟨⟨some ⟨gf,0,none⟩,nf,nf⟩,⟨some ⟨gl,0,none⟩,ns,ns⟩,⟨some ⟨gsb,0,none⟩,ns,ns⟩,sli0,⟨some ⟨gdb,0,none⟩,nb,nb⟩,sd6,sf,sli0,sli0⟩ ⟨List.replicate nf frF,0,List.replicate ns 0,List.replicate ns zero8,[],db6,dq6,fl,nb,[],[]⟩ pf sz bs bl u):=⟨fun u=>Out b (b + 1) W7 u∧FCE w hi b L ⟨⟨some ⟨gf,0,none⟩,nf,nf⟩,⟨some ⟨gl,0,none⟩,ns,ns⟩,⟨some ⟨gsb,0,none⟩,ns,ns⟩,sli0,⟨some ⟨gdb,0,none⟩,nb,nb⟩,sd6,sf,sli0,sli0⟩ ⟨List.replicate nf frF,0,List.replicate ns 0,List.replicate ns zero8,[],db6,dq6,fl,nb,[],[]⟩ pf sz bs bl u,fun _=>Iff.rfl⟩
         have hI0 : I W7.drew:=(HI.out _).2 ⟨Out.drew _,vl7,L7,F7.out.grew (show Below _ _ _ from (Below.refl _ _).drew),LL7.out⟩
         have HIG : Hid (∀ u u',I u→Grew u u'→I u'):=show ∀ u u',_ from fun u u' h k=>by
          obtain ⟨h1,vl',L',h2,h3⟩:=(HI.out _).1 h;exact (HI.out _).2 ⟨h1.trans (Out.grew k),vl',L',h2.grew k,h3⟩
         have hx8 : ∀ y : HoldI I,y.world.cell? ⟨b,8,none⟩ = some (.slice sf.a sf.n sf.c):=fun y=>by
          obtain ⟨_,_,_,h2,_⟩:=(HI.out _).1 y.holds;exact h2.mm.box.box.c 8 rfl
         have hp0 : ∀ y : HoldI I,y.world.cell? ⟨pf,0,none⟩ = some (.int .i64 sz):=fun y=>by
          obtain ⟨_,_,_,h2,_⟩:=(HI.out _).1 y.holds;exact h2.box.box.c 0 rfl
         have hp1 : ∀ y : HoldI I,y.world.cell? ⟨pf,1,none⟩ = some (.slice bs.a bs.n bs.c):=fun y=>by
          obtain ⟨_,_,_,h2,_⟩:=(HI.out _).1 y.holds;exact h2.box.box.c 1 rfl
         have hne : Nonempty (HoldI I):=⟨⟨_,hI0⟩⟩;refine wp_lax_tailI (I:=I) 25 [(4,⟨fun v=>∃ g,v = .slice (some ⟨g,0,none⟩) 0 0,fun v u=>OwnRow fvE W7.heap.size u v [],fun p q=>Grew p q,fun _=>True⟩),(11,⟨fun v=>(∃ a c,v = .slice a nF c)∧(nF = 0→∃ g,v = .slice (some ⟨g,0,none⟩) 0 0),fun v u=>OwnRow fvE W7.heap.size u v xs,fun p q=>Grew p q,fun _=>True⟩),(13,⟨fun v=>∃ g,v = .slice (some ⟨g,0,none⟩) 1 1,fun v u=>OwnRow fvE W7.heap.size u v [fx],fun p q=>Grew p q,fun _=>True⟩),(14,⟨fun v=>∃ a c,v = .slice a (nF + 1) c,fun v u=>OwnRow fvE W7.heap.size u v (xs ++ [fx]),fun p q=>∀ u m,m.length≤nF∨m.length≤1→OwnRow fvE W7.heap.size p u m→OwnRow fvE W7.heap.size q u m,fun _=>True⟩),(17,⟨fun v=>v = .bool UB,fun _ _=>True,fun p q=>Grew p q,fun _=>True⟩),(22,⟨fun v=>∃ x : Int,v = .int .i64 x,fun _ _=>True,fun p q=>Out b (b + 1) p q,fun _=>True⟩)] hI0 mixed (by kernel_rfl) rfl rfl (by decide) ?hS ?hp ?hpre ?hpr0 ?_
         case hS =>
          intro x hx;simp only [List.mem_cons,List.not_mem_nil,or_false] at hx
          rcases hx with rfl | rfl | rfl | rfl | rfl | rfl
          ·exact ⟨_,0,rfl⟩
          ·by_cases h0 : nF = 0
           ·exact ⟨.slice (some ⟨0,0,none⟩) 0 0,⟨some ⟨0,0,none⟩,0,by rw [h0]⟩,fun _=>⟨0,rfl⟩⟩
           ·exact ⟨.slice none nF 0,⟨_,_,rfl⟩,fun h=>absurd h h0⟩
          ·exact ⟨_,0,rfl⟩
          ·exact ⟨_,none,0,rfl⟩
          ·exact ⟨_,rfl⟩
          ·exact ⟨_,0,rfl⟩
         case hp =>
          intro k s j t hk hj hjk hanc v p q hst hpo;have hk':=lookup_in hk;have hj':=lookup_in hj;clear hk hj;simp only [List.mem_cons,Prod.mk.injEq,List.not_mem_nil,or_false] at hk' hj';have keep : ∀ l : List FlV,l.length≤nF∨l.length≤1∨j≠14→OwnRow fvE W7.heap.size p v l→OwnRow fvE W7.heap.size q v l:=fun l hl ho=>by
           rcases hj' with ⟨rfl,rfl⟩ | ⟨rfl,rfl⟩ | ⟨rfl,rfl⟩ | ⟨rfl,rfl⟩ | ⟨rfl,rfl⟩ | ⟨rfl,rfl⟩
           ·exact OwnRow.grew ho hst
           ·exact OwnRow.grew ho hst
           ·exact OwnRow.grew ho hst
           ·exact hst v l (by omega) ho
           ·exact OwnRow.grew ho hst
           ·exact ho.outb hst (fun g hg=>by have:=(ho.lt g hg).1; have:=HB7.out; omega)
          rcases hk' with ⟨rfl,rfl⟩ | ⟨rfl,rfl⟩ | ⟨rfl,rfl⟩ | ⟨rfl,rfl⟩ | ⟨rfl,rfl⟩ | ⟨rfl,rfl⟩
          ·exact keep _ (.inl (Nat.zero_le _)) hpo
          ·exact keep _ (.inl (by rw [HXL.out]; exact Nat.le_refl _)) hpo
          ·exact keep _ (.inr (.inl (Nat.le_refl _))) hpo
          ·exact keep _ (.inr (.inr (fun e=>hjk e))) hpo
          ·trivial
          ·trivial
         case hpre =>
          intro j t k s hj hk hjk p q hst hpr;have hj':=lookup_in hj;clear hk hj;simp only [List.mem_cons,Prod.mk.injEq,List.not_mem_nil,or_false] at hj'
          rcases hj' with ⟨rfl,rfl⟩ | ⟨rfl,rfl⟩ | ⟨rfl,rfl⟩ | ⟨rfl,rfl⟩ | ⟨rfl,rfl⟩ | ⟨rfl,rfl⟩ <;> trivial
         case hpr0 =>
          intro k t hk;have hk':=lookup_in hk;clear hk;simp only [List.mem_cons,Prod.mk.injEq,List.not_mem_nil,or_false] at hk'
          rcases hk' with ⟨rfl,rfl⟩ | ⟨rfl,rfl⟩ | ⟨rfl,rfl⟩ | ⟨rfl,rfl⟩ | ⟨rfl,rfl⟩ | ⟨rfl,rfl⟩ <;> trivial
         simp only [List.take,List.drop];iterate 4 (refine laxI_quiet rfl rfl rfl (fun K hK=>?_); go_big_quiet_op; refine hK _ ?_; clear hK K)
         refine laxI_spec rfl rfl (fun w' hI' hpr hF=>?_) (fun v1 hv=>?_)
         ·have hg:=((HI.out _).1 hI').1;exact Does.step (v:= .slice (some ⟨w'.heap.size,0,none⟩) 0 0) (w':=w'.alloc (.cells #[] 71)) (by simp only [execOp]; go_simp) ⟨HIG.out _ _ hI' (grew_alloc _ _),grew_alloc _ _,⟨_,rfl⟩,(OwnRow.made fvE w').base hg.size⟩
         obtain ⟨g0,rfl⟩:=hv;simp only [Act.put,List.setIfInBounds_toArray,List.set_cons_succ,List.set_cons_zero];iterate 1 (refine laxI_quiet rfl rfl rfl (fun K hK=>?_); go_big_quiet_op; refine hK _ ?_; clear hK K)
         refine laxI_nilc (.tmp 90) ⟨b,0,none⟩ rfl rfl rfl rfl ?_;simp only [Act.put,List.setIfInBounds_toArray,List.set_cons_succ,List.set_cons_zero];iterate 4 (refine laxI_quiet rfl rfl rfl (fun K hK=>?_); go_big_quiet_op; refine hK _ ?_; clear hK K)
         refine laxI_spec rfl rfl (fun w' hI' hpr hF=>?_) (fun v1 hv=>?_)
         ·have hg:=((HI.out _).1 hI').1;have h0 : OwnRow fvE W7.heap.size w' (.slice (some ⟨g0,0,none⟩) 0 0) []:=hF 4 (by kernel_rfl)
          have hX:=HX.out.outb hg (fun g hg' e=>by
           obtain ⟨cs,hc⟩:=HX.out.obj hg';have h3 : W7.heap[b]? = _:=F7.out.mm.box;rw [e,h3] at hc
           cases hc)
          obtain ⟨v',w2,hrun,ho,hg2,hz⟩:=run_append_new (E:=fvE) (w:=w') 34 h0 (.slice sf.a sf.n sf.c) xs hX.at hg.size;obtain ⟨a',c',rfl⟩:=ho.form;refine Does.step (v:= .slice a' xs.length c') (w':=w2) ?_ ⟨HIG.out _ _ hI' hg2,hg2,⟨⟨a',c',by rw [HXL.out]⟩,fun h=>⟨g0,hz (List.eq_nil_of_length_eq_zero (by rw [HXL.out]; exact h))⟩⟩,ho⟩
          simp only [execOp,resolve,invoke,builtin,pure_bind,Sem.run_bind,Sem.run_pure,List.map_toArray,List.map_cons,List.map_nil];exact Eq.trans (congrArg (fun r=>Result.andThen r (fun a w'=>Result.ok (Next.value a) w')) hrun) rfl
         obtain ⟨⟨a3,c3,rfl⟩,hz3⟩:=hv;simp only [Act.put,List.setIfInBounds_toArray,List.set_cons_succ,List.set_cons_zero];iterate 1 (refine laxI_quiet rfl rfl rfl (fun K hK=>?_); go_big_quiet_op; refine hK _ ?_; clear hK K)
         refine laxI_spec rfl rfl (fun w' hI' hpr hF=>?_) (fun v1 hv=>?_)
         ·have hg:=((HI.out _).1 hI').1;exact Does.step (v:= .slice (some ⟨w'.heap.size,0,none⟩) 1 1) (w':=w'.alloc (.cells #[.int .i64 sz,.slice bs.a bs.n bs.c] 71)) (by simp only [execOp]; go_simp) ⟨HIG.out _ _ hI' (grew_alloc _ _),grew_alloc _ _,⟨_,rfl⟩,by rw [HFX.out]; exact (own_one' w' ⟨sz,bs.a,bs.n,bs.c⟩).base hg.size⟩
         obtain ⟨g5,rfl⟩:=hv;simp only [Act.put,List.setIfInBounds_toArray,List.set_cons_succ,List.set_cons_zero];refine laxI_spec rfl rfl (fun w' hI' hpr hF=>?_) (fun v1 hv=>?_)
         ·have hg:=((HI.out _).1 hI').1;have o3 : OwnRow fvE W7.heap.size w' (.slice a3 nF c3) xs:=hF 11 (by kernel_rfl)
          have o5 : OwnRow fvE W7.heap.size w' (.slice (some ⟨g5,0,none⟩) 1 1) [fx]:=hF 13 (by kernel_rfl)
          have key : ∃ v' w2,(Builtin.append_ #[34,34] 34 #[.slice a3 nF c3,.slice (some ⟨g5,0,none⟩) 1 1]).run Tryz.prog w' = .ok v' w2∧OwnRow fvE W7.heap.size w2 v' (xs ++ [fx])∧I w2∧∀ u m,m.length≤nF∨m.length≤1→OwnRow fvE W7.heap.size w' u m→OwnRow fvE W7.heap.size w2 u m:=by
           by_cases h0 : nF = 0
           ·have hxs : xs = []:=List.eq_nil_of_length_eq_zero (by rw [HXL.out]; exact h0)
            subst hxs;obtain ⟨g,hgv⟩:=hz3 h0;rw [hgv] at o3 ⊢;obtain ⟨v',w2,hrun,ho,hg2,_⟩:=run_append_new (E:=fvE) (w:=w') 34 o3 (.slice (some ⟨g5,0,none⟩) 1 1) [fx] o5.at hg.size;exact ⟨v',w2,hrun,ho,HIG.out _ _ hI' hg2,fun u m _ h=>h.grew hg2⟩
           ·obtain ⟨v',w2,hrun,ho,hgr,hk⟩:=run_append_keeps (E:=fvE) (w:=w') 34 o3 (.slice (some ⟨g5,0,none⟩) 1 1) [fx] o5.at (by rw [HXL.out]; show (nF + 1) * 32≤_; omega) hg.size
            refine ⟨v',w2,hrun,ho,?_,fun u m hm h=>hk u m (by rw [HXL.out]; omega) h⟩
            obtain ⟨h1,vl',L',h2,h3⟩:=(HI.out _).1 hI';obtain ⟨gr,cr,hgr3⟩:=o3.formS (by rw [HXL.out]; omega)
            obtain ⟨cs,hcs⟩:=o3.obj (g:=gr) (by rw [hgr3]; rfl)
            have hgr' : w'.grownBy w2 (some gr):=by rw [hgr3] at hgr; exact hgr
            have hgl:=(o3.lt gr (by rw [hgr3]; rfl)).1
            have hpl:=F7.out.box.box.lt;refine (HI.out _).2 ⟨⟨hgr'.os.trans h1.os,hgr'.tape.trans h1.tape,hgr'.output.trans h1.output,Nat.le_trans h1.size hgr'.size,fun k hk' hb'=>(hgr'.block k (Nat.lt_of_lt_of_le hk' h1.size) (fun e=>by cases e; omega)).trans (h1.block k hk' hb')⟩,vl',L',h2.fresh hgr' hcs (by omega),h3⟩
          obtain ⟨v',w2,hrun,ho,hI2,hk⟩:=key;obtain ⟨a',c',rfl⟩:=ho.form;refine Does.step (v:= .slice a' (xs ++ [fx]).length c') (w':=w2) ?_ ⟨hI2,hk,⟨a',c',by rw [List.length_append,HXL.out]; rfl⟩,ho⟩
          simp only [execOp,resolve,invoke,builtin,pure_bind,Sem.run_bind,Sem.run_pure,List.map_toArray,List.map_cons,List.map_nil];exact Eq.trans (congrArg (fun r=>Result.andThen r (fun a w'=>Result.ok (Next.value a) w')) hrun) rfl
         obtain ⟨a6,c6,rfl⟩:=hv;simp only [Act.put,List.setIfInBounds_toArray,List.set_cons_succ,List.set_cons_zero];iterate 2 (refine laxI_quiet rfl rfl rfl (fun K hK=>?_); go_big_quiet_op; refine hK _ ?_; clear hK K)
         refine laxI_spec rfl rfl (fun w' hI' hpr hF=>?_) (fun v1 hv=>?_)
         ·obtain ⟨h1,vl',L',h2,h3⟩:=(HI.out _).1 hI';have o6 : OwnRow fvE W7.heap.size w' (.slice a6 (nF + 1) c6) (xs ++ [fx]):=hF 14 (by kernel_rfl)
          have hfa : FilesAt w' (.slice a6 (nF + 1) c6) (fl ++ [⟨sz,bl⟩]):=by
           refine ⟨o6.cap,xs ++ [fx],o6.at.s0,by rw [List.length_append,List.length_append,HXL.out,HNF.out]; rfl,fun i x f hx hf=>?_⟩
           rcases Nat.lt_or_ge i nF with hi' | hi'
           ·rw [List.getElem?_append_left (by rw [HXL.out]; exact hi')] at hx
            rw [List.getElem?_append_left (by rw [HNF.out]; exact hi')] at hf
            obtain ⟨a1,a2⟩:=HX3.out i x f hx hf;exact ⟨a1,(a2.outb h1 (fun g hg' e=>by
             obtain ⟨cs,hc⟩:=a2.obj hg';have h3 : W7.heap[b]? = _:=F7.out.mm.box;rw [e,h3] at hc
             cases hc)).at.s0⟩
           ·rw [List.getElem?_append_right (by rw [HXL.out]; exact hi'),HXL.out] at hx
            rw [List.getElem?_append_right (by rw [HNF.out]; exact hi'),HNF.out] at hf
            have hi0 : i - nF = 0:=by
             have:=(List.getElem?_eq_some_iff.1 hx).1
             simp at this
             omega
            rw [hi0] at hx hf;cases hx;cases hf;rw [HFX.out];exact ⟨rfl,h2.row.at.s0⟩
          refine Does.call [.agg #[.slice a6 (nF + 1) c6,.int .i64 0],.int .i64 (n : Int)] rfl Tryz.func30 rfl rfl rfl ?_;refine (used_any (.slice a6 (nF + 1) c6) (fl ++ [⟨sz,bl⟩]) 0 (n : Int) w' hfa).mono ?_;rintro e w'' ⟨rfl,hg2⟩;exact ⟨_,rfl,HIG.out _ _ hI' hg2,hg2,by rw [HUB.out],trivial⟩
         subst hv;simp only [Act.put,List.setIfInBounds_toArray,List.set_cons_succ,List.set_cons_zero];iterate 3 (refine laxI_quiet rfl rfl rfl (fun K hK=>?_); go_big_quiet_op; refine hK _ ?_; clear hK K)
         cases UB with
         | true =>
          refine laxI_skip ?_ ?_
          ·kernel_rfl
          simp only [Act.put,List.setIfInBounds_toArray,List.set_cons_succ,List.set_cons_zero];refine laxI_skip ?_ ?_
          ·kernel_rfl
          simp only [Act.put,List.setIfInBounds_toArray,List.set_cons_succ,List.set_cons_zero];refine laxI_skip ?_ ?_
          ·kernel_rfl
          simp only [Act.put,List.setIfInBounds_toArray,List.set_cons_succ,List.set_cons_zero];iterate 1 (refine laxI_quiet rfl rfl rfl (fun K hK=>?_); go_big_quiet_op; refine hK _ ?_; clear hK K)
          refine laxI_nil fun W8 hI8 hF8=>?_
          obtain ⟨h1,vl8,L8,h2,h3⟩:=(HI.out _).1 hI8;have F8 : Hid (FC w hi b W8 vl8 L8 ⟨⟨some ⟨gf,0,none⟩,nf,nf⟩,⟨some ⟨gl,0,none⟩,ns,ns⟩,⟨some ⟨gsb,0,none⟩,ns,ns⟩,sli0,⟨some ⟨gdb,0,none⟩,nb,nb⟩,sd6,sf,sli0,sli0⟩ ⟨List.replicate nf frF,0,List.replicate ns 0,List.replicate ns zero8,[],db6,dq6,fl,nb,[],[]⟩ pf sz bs bl):=h2;have LL8 : Hid (Less L L8):=h3;have X8 : Hid (BoxT W8 w.heap.size 40 [.slice none 0 0,.int .i64 0,.slice none 0 0,.slice none 0 0,.slice none 0 0,.slice none 0 0,.slice none 0 0,.slice none 0 0,.int .i64 0,.slice none 0 0,.slice none 0 0]):=X7.out.outb h1 HXB.out;clear hI8 hF8 hI0 HI HIG hx8 hp0 hp1 hne h1 h2 h3 F7 LL7 X7 hz3;go_wp2
          go_meet
          case rel=>exact ⟨false,vl8,L8,rfl,rfl,F8.out,LL8.out,X8.out,fun h=>(by cases h)⟩
         | false =>
          iterate 1 (refine laxI_quiet rfl rfl rfl (fun K hK=>?_); go_big_quiet_op; refine hK _ ?_; clear hK K)
          refine laxI_spec rfl rfl (fun w' hI' hpr hF=>?_) (fun v1 hv=>?_)
          ·obtain ⟨h1,vl',L',h2,h3⟩:=(HI.out _).1 hI';refine Does.call [.pointer (some ⟨b,0,none⟩),.int .i64 3] rfl Tryz.func28 rfl rfl rfl ?_;refine (pick_any 3 h2.mm).mono ?_;rintro e w'' ⟨vl2,L2,y,rfl,mk2,gr2,-,-,-,-,ll2⟩;have ho2 : Out b (b + 1) w' w'':=Out.grown gr2 (fun g e=>by cases e; omega)
           exact ⟨_,rfl,(HI.out _).2 ⟨h1.trans ho2,vl2,L2,h2.pick gr2 mk2,h3.trans ll2⟩,ho2,⟨y,rfl⟩,trivial⟩
          obtain ⟨x,rfl⟩:=hv;simp only [Act.put,List.setIfInBounds_toArray,List.set_cons_succ,List.set_cons_zero];iterate 2 (refine laxI_quiet rfl rfl rfl (fun K hK=>?_); go_big_quiet_op; refine hK _ ?_; clear hK K)
          refine laxI_nil fun W8 hI8 hF8=>?_
          obtain ⟨h1,vl8,L8,h2,h3⟩:=(HI.out _).1 hI8;have F8 : Hid (FC w hi b W8 vl8 L8 ⟨⟨some ⟨gf,0,none⟩,nf,nf⟩,⟨some ⟨gl,0,none⟩,ns,ns⟩,⟨some ⟨gsb,0,none⟩,ns,ns⟩,sli0,⟨some ⟨gdb,0,none⟩,nb,nb⟩,sd6,sf,sli0,sli0⟩ ⟨List.replicate nf frF,0,List.replicate ns 0,List.replicate ns zero8,[],db6,dq6,fl,nb,[],[]⟩ pf sz bs bl):=h2;have LL8 : Hid (Less L L8):=h3;have X8 : Hid (BoxT W8 w.heap.size 40 [.slice none 0 0,.int .i64 0,.slice none 0 0,.slice none 0 0,.slice none 0 0,.slice none 0 0,.slice none 0 0,.slice none 0 0,.int .i64 0,.slice none 0 0,.slice none 0 0]):=X7.out.outb h1 HXB.out;have HUF : Hid (decide (0 < x) = true→n < nb∧usedB (fl ++ [⟨sz,bl⟩]) (n : Int) = false):=show _→_ from fun _=>⟨hn,HUB.out⟩
          clear hI8 hF8 hI0 HI HIG hx8 hp0 hp1 hne h1 h2 h3 F7 LL7 X7 hz3;go_wp2
          go_meet
          case rel=>exact ⟨decide (0 < x),vl8,L8,rfl,rfl,F8.out,LL8.out,X8.out,HUF.out⟩
        ·have hnz : ¬ (n : Int) < (nb : Int):=by omega
         have hnd : decide ((n : Int) < (nb : Int)) = false:=by simpa using hnz
         clear hn;go_quiet (fail);go_wp2
         go_meet
         case rel=>exact ⟨false,vl7,L7,rfl,rfl,F7.out.grew (show Below _ _ _ from Go.below_drewN (Below.refl _ _) _),LL7.out,X7.out.grew (show Below _ _ _ from Go.below_drewN (Below.refl _ _) _),fun h=>(by cases h)⟩
       case rest =>
        obtain ⟨tk,vl8,L8,rfl,rfl,F8,LL8,X8,HTK⟩:=hcut;clear F7 LL7 X7
        go_upto_if 109 with fail
        go_cut [13,15,16,78] from 78 to 160 (fun s13 s15 s16 s78 wx=>∃ (bx : Int) (vl' : Sli) (L' : List Int) (sd' : Sli) (db' : List (List Int)) (dq' : List (Int × List Int)),s13 = .int .i64 bx∧s78 = .int .i64 k3∧Hid (FC w hi b wx vl' L' ⟨⟨some ⟨gf,0,none⟩,nf,nf⟩,⟨some ⟨gl,0,none⟩,ns,ns⟩,⟨some ⟨gsb,0,none⟩,ns,ns⟩,sli0,⟨some ⟨gdb,0,none⟩,nb,nb⟩,sd',sf,sli0,sli0⟩ ⟨List.replicate nf frF,0,List.replicate ns 0,List.replicate ns zero8,[],db',dq',fl,nb,[],[]⟩ pf sz bs bl)∧Hid (Less L L')∧Hid (BoxT wx w.heap.size 40 [.slice none 0 0,.int .i64 0,.slice none 0 0,.slice none 0 0,.slice none 0 0,.slice none 0 0,.slice none 0 0,.slice none 0 0,.int .i64 0,.slice none 0 0,.slice none 0 0])∧Hid (FInv fl nb db' dq' (bl ++ [bx])∧db'.length = nb))
        case first =>
         cases tk with
         | false =>
          go_wp2
          go_meet
          case rel=>exact ⟨-1,vl8,L8,sd6,db6,dq6,rfl,rfl,F8.out,LL8.out,X8.out,(show _∧_ from ⟨FI.out.1.none,FI.out.2.2⟩)⟩
         | true =>
          obtain ⟨hn,hu⟩:=HTK.out rfl;have HUF : Hid (usedB fl (n : Int) = false∧(n : Int) ∉ bl):=show _∧_ by
           have h2 : ¬ (n : Int)∈allB (fl ++ [⟨sz,bl⟩]):=fun h=>by rw [(used_iff _ _).2 h] at hu; cases hu
           have h3 : allB (fl ++ [⟨sz,bl⟩]) = allB fl ++ bl:=by simp [allB]
           rw [h3,List.mem_append] at h2;refine ⟨?_,fun h=>h2 (.inr h)⟩
           cases e : usedB fl (n : Int) with
           | false=>rfl
           | true=>exact absurd (.inl ((used_iff _ _).1 e)) h2
          have hnz : (n : Int) < (nb : Int):=by omega
          clear hu HTK;have hpg:=page_any F8.out.mm;go_wp2_with fail;refine hpg.mono ?_;clear hpg;rintro e W9 ⟨vl9,L9,q9,rfl,ql9,mk9,gr9,ll9⟩;have F9 : Hid (FC w hi b W9 vl9 L9 ⟨⟨some ⟨gf,0,none⟩,nf,nf⟩,⟨some ⟨gl,0,none⟩,ns,ns⟩,⟨some ⟨gsb,0,none⟩,ns,ns⟩,sli0,⟨some ⟨gdb,0,none⟩,nb,nb⟩,sd6,sf,sli0,sli0⟩ ⟨List.replicate nf frF,0,List.replicate ns 0,List.replicate ns zero8,[],db6,dq6,fl,nb,[],[]⟩ pf sz bs bl):=F8.out.pick gr9 mk9;have X9 : Hid (BoxT W9 w.heap.size 40 [.slice none 0 0,.int .i64 0,.slice none 0 0,.slice none 0 0,.slice none 0 0,.slice none 0 0,.slice none 0 0,.slice none 0 0,.int .i64 0,.slice none 0 0,.slice none 0 0]):=X8.out.kind gr9 F8.out.mm.box (by decide)
          have LL9 : Hid (Less L L9):=LL8.out.trans ll9;clear mk9 gr9 ll9 F8 X8 LL8;obtain ⟨o0,o1,o2,o3,o4,o5,o6,o7,rfl⟩:=len8 q9 ql9;clear ql9;simp only [pgc,List.map_cons,List.map_nil];go_upto_region 20 with fail;obtain ⟨pp,HPP⟩ : ∃ pp,Hid (W9.heap.size = pp):=⟨_,rfl⟩;obtain ⟨W10,hW10⟩ : ∃ W10,W9.alloc (.cells #[.int .u8 o0,.int .u8 o1,.int .u8 o2,.int .u8 o3,.int .u8 o4,.int .u8 o5,.int .u8 o6,.int .u8 o7] 50) = W10:=⟨_,rfl⟩;have g10 : Grew W9 W10:=by rw [←hW10]; exact grew_alloc _ _
          have P10 : Hid (BoxT W10 pp 50 (pgc [o0,o1,o2,o3,o4,o5,o6,o7])):=show BoxT _ _ _ _ by rw [←hW10]; exact BoxT.top _ (pgc [o0,o1,o2,o3,o4,o5,o6,o7]) _ HPP.out.symm
          have F10 : Hid (FC w hi b W10 vl9 L9 ⟨⟨some ⟨gf,0,none⟩,nf,nf⟩,⟨some ⟨gl,0,none⟩,ns,ns⟩,⟨some ⟨gsb,0,none⟩,ns,ns⟩,sli0,⟨some ⟨gdb,0,none⟩,nb,nb⟩,sd6,sf,sli0,sli0⟩ ⟨List.replicate nf frF,0,List.replicate ns 0,List.replicate ns zero8,[],db6,dq6,fl,nb,[],[]⟩ pf sz bs bl):=F9.out.grew g10;have X10 : Hid (BoxT W10 w.heap.size 40 [.slice none 0 0,.int .i64 0,.slice none 0 0,.slice none 0 0,.slice none 0 0,.slice none 0 0,.slice none 0 0,.slice none 0 0,.int .i64 0,.slice none 0 0,.slice none 0 0]):=X9.out.grew g10;have HHP : Hid (hi≤pp):=show _≤_ by rw [←HPP.out]; exact F9.out.mm.rows.hw
          rw [hW10,HPP.out];clear hW10 g10 F9 X9;go_wp2
          go_loopg [113] 8 (fun gg s113 wr=>∃ (i : Nat) (qq : List Int),i≤8∧8 - i≤gg∧s113 = .int .i64 i∧Hid (FC w hi b wr vl9 L9 ⟨⟨some ⟨gf,0,none⟩,nf,nf⟩,⟨some ⟨gl,0,none⟩,ns,ns⟩,⟨some ⟨gsb,0,none⟩,ns,ns⟩,sli0,⟨some ⟨gdb,0,none⟩,nb,nb⟩,sd6,sf,sli0,sli0⟩ ⟨List.replicate nf frF,0,List.replicate ns 0,List.replicate ns zero8,[],db6,dq6,fl,nb,[],[]⟩ pf sz bs bl)∧Hid (BoxT wr pp 50 (pgc qq))∧Hid (qq.length = 8)∧Hid (BoxT wr w.heap.size 40 [.slice none 0 0,.int .i64 0,.slice none 0 0,.slice none 0 0,.slice none 0 0,.slice none 0 0,.slice none 0 0,.slice none 0 0,.int .i64 0,.slice none 0 0,.slice none 0 0]))
          case atStart=>exact ⟨0,[o0,o1,o2,o3,o4,o5,o6,o7],Nat.zero_le _,by omega,rfl,F10.out,P10.out,rfl,X10.out⟩
          case round =>
           obtain ⟨i,qq,hi8,hg4,rfl,FW,PW,QW,XW⟩:=hrel;clear F10 P10 X10
           by_cases hlt4 : i < 8
           ·have hltz4 : (i : Int) < 8:=by omega
            obtain ⟨z,hz⟩ : ∃ z,qq[i]? = some z:=⟨_,List.getElem?_eq_getElem (by rw [QW.out]; exact hlt4)⟩
            have z0:=PW.out.box.c i (pgc_at hz);have zf:=PW.out.box.f;have y0:=FW.out.box.box.c 0 rfl;clear hz
            by_cases hc : sz≤8 * (k3 : Int) + (i : Int)
            ·have hcd : decide (sz≤8 * (k3 : Int) + (i : Int)) = true:=by simpa using hc
             have HG : Hid (wr.grownBy (wr.setCell ⟨pp,i,none⟩ (.int .u8 0)) (some pp)):=set_grown _ _ _ _;have P11 : Hid (BoxT (wr.setCell ⟨pp,i,none⟩ (.int .u8 0)) pp 50 (pgc (qq.set i 0))):=show BoxT _ _ _ _ by rw [pgc_set]; exact PW.out.set i _
             have F11 : Hid (FC w hi b (wr.setCell ⟨pp,i,none⟩ (.int .u8 0)) vl9 L9 ⟨⟨some ⟨gf,0,none⟩,nf,nf⟩,⟨some ⟨gl,0,none⟩,ns,ns⟩,⟨some ⟨gsb,0,none⟩,ns,ns⟩,sli0,⟨some ⟨gdb,0,none⟩,nb,nb⟩,sd6,sf,sli0,sli0⟩ ⟨List.replicate nf frF,0,List.replicate ns 0,List.replicate ns zero8,[],db6,dq6,fl,nb,[],[]⟩ pf sz bs bl):=FW.out.kind HG.out PW.out (by decide) (by decide) (FW.out.mm.page PW.out HHP.out HG.out) rfl rfl
             have X11 : Hid (BoxT (wr.setCell ⟨pp,i,none⟩ (.int .u8 0)) w.heap.size 40 [.slice none 0 0,.int .i64 0,.slice none 0 0,.slice none 0 0,.slice none 0 0,.slice none 0 0,.slice none 0 0,.slice none 0 0,.int .i64 0,.slice none 0 0,.slice none 0 0]):=XW.out.kind HG.out PW.out (by decide)
             clear HG;go_wp2
             go_roundg (8 - (i + 1))
             case measure=>omega
             case rel=>exact ⟨i + 1,qq.set i 0,by omega,by omega,by go_num,F11.out,P11.out,(show (qq.set i 0).length = 8 by rw [List.length_set]; exact QW.out),X11.out⟩
            ·have hcd : decide (sz≤8 * (k3 : Int) + (i : Int)) = false:=by simpa using hc
             go_wp2
             go_roundg (8 - (i + 1))
             case measure=>omega
             case rel=>exact ⟨i + 1,qq,by omega,by omega,by go_num,FW.out,PW.out,QW.out,XW.out⟩
           ·have hltz4 : ¬ (i : Int) < 8:=by omega
            obtain ⟨p0,p1,p2,p3,p4,p5,p6,p7,rfl⟩:=len8 qq QW.out;go_upto_region 26 with fail;obtain ⟨I,HI⟩ : ∃ I : World→Prop,Hid (∀ u,I u↔Grew wr u):=⟨fun u=>Grew wr u,fun _=>Iff.rfl⟩
            have hI0 : I wr.drew:=(HI.out _).2 (show Below _ _ _ from (Below.refl _ _).drew)
            have HP : Hid (∀ u,I u→BoxT u pp 50 (pgc [p0,p1,p2,p3,p4,p5,p6,p7])):=show ∀ u,_ from fun u hu=>PW.out.grew ((HI.out _).1 hu)
            have hx6 : ∀ y : HoldI I,y.world.cell? ⟨b,6,none⟩ = some (.slice (some ⟨gdb,0,none⟩) nb nb):=fun y=>(FW.out.mm.box.box.grew ((HI.out _).1 y.holds)).c 6 rfl
            have hf0 : ∀ y : HoldI I,y.world.cell? ⟨pp,0,none⟩ = some (.int .u8 p0):=fun y=>(HP.out _ y.holds).box.c 0 rfl
            have hf1 : ∀ y : HoldI I,y.world.cell? ⟨pp,1,none⟩ = some (.int .u8 p1):=fun y=>(HP.out _ y.holds).box.c 1 rfl
            have hf2 : ∀ y : HoldI I,y.world.cell? ⟨pp,2,none⟩ = some (.int .u8 p2):=fun y=>(HP.out _ y.holds).box.c 2 rfl
            have hf3 : ∀ y : HoldI I,y.world.cell? ⟨pp,3,none⟩ = some (.int .u8 p3):=fun y=>(HP.out _ y.holds).box.c 3 rfl
            have hf4 : ∀ y : HoldI I,y.world.cell? ⟨pp,4,none⟩ = some (.int .u8 p4):=fun y=>(HP.out _ y.holds).box.c 4 rfl
            have hf5 : ∀ y : HoldI I,y.world.cell? ⟨pp,5,none⟩ = some (.int .u8 p5):=fun y=>(HP.out _ y.holds).box.c 5 rfl
            have hf6 : ∀ y : HoldI I,y.world.cell? ⟨pp,6,none⟩ = some (.int .u8 p6):=fun y=>(HP.out _ y.holds).box.c 6 rfl
            have hf7 : ∀ y : HoldI I,y.world.cell? ⟨pp,7,none⟩ = some (.int .u8 p7):=fun y=>(HP.out _ y.holds).box.c 7 rfl
            have hne : Nonempty (HoldI I):=⟨⟨_,hI0⟩⟩;refine wp_lax_tailI (I:=I) 9 [] hI0 mixed (by kernel_rfl) rfl rfl (by decide) (fun x hx=>by cases hx) (fun k s j t hk=>by cases hk) (fun j t k s hj=>by cases hj) (fun k t hk=>by cases hk) ?_
            simp only [List.take,List.drop];iterate 1 (refine laxI_quiet rfl rfl rfl (fun K hK=>?_); go_big_quiet_op; refine hK _ ?_; clear hK K)
            refine laxI_nilc (.tmp 126) ⟨b,0,none⟩ rfl rfl rfl rfl ?_;simp only [Act.put,List.setIfInBounds_toArray,List.set_cons_succ,List.set_cons_zero];iterate 7 (refine laxI_quiet rfl rfl rfl (fun K hK=>?_); go_big_quiet_op; refine hK _ ?_; clear hK K)
            refine laxI_nil fun W11 hI11 _=>?_
            have g11:=(HI.out _).1 hI11;refine wpList_store_page rfl (.tmp 134) (.tmp 133) rfl w.heap.size (.slice (some ⟨gdb,0,none⟩) nb nb) db6 (FW.out.grew g11).mm.rows.db gdb n rfl (by rw [FI.out.2.2]; exact hn) [p0,p1,p2,p3,p4,p5,p6,p7] rfl _ rfl (by first | rfl | simp) rfl ?_
            intro W12 op12 gr12 sz12;obtain ⟨-,cs12,hc12⟩:=ownPages_obj (FW.out.grew g11).mm.rows.db (g:=gdb) rfl;have F12 : Hid (FC w hi b W12 vl9 L9 ⟨⟨some ⟨gf,0,none⟩,nf,nf⟩,⟨some ⟨gl,0,none⟩,ns,ns⟩,⟨some ⟨gsb,0,none⟩,ns,ns⟩,sli0,⟨some ⟨gdb,0,none⟩,nb,nb⟩,sd6,sf,sli0,sli0⟩ ⟨List.replicate nf frF,0,List.replicate ns 0,List.replicate ns zero8,[],(db6.set n [p0,p1,p2,p3,p4,p5,p6,p7]),dq6,fl,nb,[],[]⟩ pf sz bs bl):=(FW.out.grew g11).kind gr12 hc12 (by decide) (by decide) ((FW.out.grew g11).mm.setDb rfl gr12 sz12 op12).1 rfl rfl
            have X12 : Hid (BoxT W12 w.heap.size 40 [.slice none 0 0,.int .i64 0,.slice none 0 0,.slice none 0 0,.slice none 0 0,.slice none 0 0,.slice none 0 0,.slice none 0 0,.int .i64 0,.slice none 0 0,.slice none 0 0]):=(XW.out.grew g11).kind gr12 hc12 (by decide)
            have P12 : Hid (BoxT W12 pp 50 (pgc [p0,p1,p2,p3,p4,p5,p6,p7])):=(PW.out.grew g11).beside gr12 (fun g e=>by cases e; have:=(FW.out.mm.rows.dbh gdb rfl); have:=HHP.out; omega)
            clear hI11 g11 op12 gr12 sz12 cs12 hc12 hI0 HI HP hx6 hne FW XW PW;clear hf0 hf1 hf2 hf3 hf4 hf5 hf6 hf7;have hpk12:=pick_any 2 F12.out.mm;go_wp2_with fail;refine hpk12.mono ?_;clear hpk12;rintro e W13 ⟨vl13,L13,y,rfl,mk13,gr13,-,-,-,-,ll13⟩;have F13 : Hid (FC w hi b W13 vl13 L13 ⟨⟨some ⟨gf,0,none⟩,nf,nf⟩,⟨some ⟨gl,0,none⟩,ns,ns⟩,⟨some ⟨gsb,0,none⟩,ns,ns⟩,sli0,⟨some ⟨gdb,0,none⟩,nb,nb⟩,sd6,sf,sli0,sli0⟩ ⟨List.replicate nf frF,0,List.replicate ns 0,List.replicate ns zero8,[],(db6.set n [p0,p1,p2,p3,p4,p5,p6,p7]),dq6,fl,nb,[],[]⟩ pf sz bs bl):=F12.out.pick gr13 mk13;have X13 : Hid (BoxT W13 w.heap.size 40 [.slice none 0 0,.int .i64 0,.slice none 0 0,.slice none 0 0,.slice none 0 0,.slice none 0 0,.slice none 0 0,.slice none 0 0,.int .i64 0,.slice none 0 0,.slice none 0 0]):=X12.out.kind gr13 F12.out.mm.box (by decide)
            have P13 : Hid (BoxT W13 pp 50 (pgc [p0,p1,p2,p3,p4,p5,p6,p7])):=P12.out.kind gr13 F12.out.mm.box (by decide)
            have LL13 : Hid (Less L L13):=LL9.out.trans ll13;clear mk13 gr13 ll13 F12 X12 P12;have HDL : Hid ((db6.set n [p0,p1,p2,p3,p4,p5,p6,p7]).length = nb):=show _ = _ by rw [List.length_set]; exact FI.out.2.2
            by_cases hy : y = 1
            ·have hye : (y == 1) = true:=by simp [hy]
             clear hy;go_upto_region 28 with fail;have HDQ : Hid (OwnPuts w.heap.size W13 (.slice sd6.a sd6.n sd6.c) dq6):=F13.out.mm.rows.dq;have HQL : Hid (dq6.length≤1000):=show _≤_ by
              have h1:=FI.out.1.ql;have h2:=allB_len ((stW_zero _ _).1 FI.out.1.st).2.1;have h3:=((stW_zero _ _).1 FI.out.1.st).1.1;have h4:=FI.out.2.1;omega
             obtain ⟨I,HI⟩ : ∃ I : World→Prop,Hid (∀ u,I u↔BoxT u b 91 [.slice vl13.a vl13.n vl13.c,.slice (some ⟨gf,0,none⟩) nf nf,.int .i64 0,.slice (some ⟨gl,0,none⟩) ns ns,.slice (some ⟨gsb,0,none⟩) ns ns,.slice none 0 0,.slice (some ⟨gdb,0,none⟩) nb nb,.slice sd6.a sd6.n sd6.c,.slice sf.a sf.n sf.c,.int .i64 (nb : Int),.slice none 0 0,.slice none 0 0,.slice none 0 0]∧BoxT u pp 50 (pgc [p0,p1,p2,p3,p4,p5,p6,p7])):=⟨fun u=>BoxT u b 91 [.slice vl13.a vl13.n vl13.c,.slice (some ⟨gf,0,none⟩) nf nf,.int .i64 0,.slice (some ⟨gl,0,none⟩) ns ns,.slice (some ⟨gsb,0,none⟩) ns ns,.slice none 0 0,.slice (some ⟨gdb,0,none⟩) nb nb,.slice sd6.a sd6.n sd6.c,.slice sf.a sf.n sf.c,.int .i64 (nb : Int),.slice none 0 0,.slice none 0 0,.slice none 0 0]∧BoxT u pp 50 (pgc [p0,p1,p2,p3,p4,p5,p6,p7]),fun _=>Iff.rfl⟩
             have hI0 : I W13.drew:=(HI.out _).2 ⟨F13.out.mm.box.grew (show Below _ _ _ from (Below.refl _ _).drew),P13.out.grew (show Below _ _ _ from (Below.refl _ _).drew)⟩
             have HP : Hid (∀ u,I u→BoxT u pp 50 (pgc [p0,p1,p2,p3,p4,p5,p6,p7])):=show ∀ u,_ from fun u hu=>((HI.out _).1 hu).2
             have hx7 : ∀ y : HoldI I,y.world.cell? ⟨b,7,none⟩ = some (.slice sd6.a sd6.n sd6.c):=fun y=>((HI.out _).1 y.holds).1.box.c 7 rfl
             have hf0 : ∀ y : HoldI I,y.world.cell? ⟨pp,0,none⟩ = some (.int .u8 p0):=fun y=>(HP.out _ y.holds).box.c 0 rfl
             have hf1 : ∀ y : HoldI I,y.world.cell? ⟨pp,1,none⟩ = some (.int .u8 p1):=fun y=>(HP.out _ y.holds).box.c 1 rfl
             have hf2 : ∀ y : HoldI I,y.world.cell? ⟨pp,2,none⟩ = some (.int .u8 p2):=fun y=>(HP.out _ y.holds).box.c 2 rfl
             have hf3 : ∀ y : HoldI I,y.world.cell? ⟨pp,3,none⟩ = some (.int .u8 p3):=fun y=>(HP.out _ y.holds).box.c 3 rfl
             have hf4 : ∀ y : HoldI I,y.world.cell? ⟨pp,4,none⟩ = some (.int .u8 p4):=fun y=>(HP.out _ y.holds).box.c 4 rfl
             have hf5 : ∀ y : HoldI I,y.world.cell? ⟨pp,5,none⟩ = some (.int .u8 p5):=fun y=>(HP.out _ y.holds).box.c 5 rfl
             have hf6 : ∀ y : HoldI I,y.world.cell? ⟨pp,6,none⟩ = some (.int .u8 p6):=fun y=>(HP.out _ y.holds).box.c 6 rfl
             have hf7 : ∀ y : HoldI I,y.world.cell? ⟨pp,7,none⟩ = some (.int .u8 p7):=fun y=>(HP.out _ y.holds).box.c 7 rfl
             have hne : Nonempty (HoldI I):=⟨⟨_,hI0⟩⟩;refine wp_lax_tailD (I:=I) 16 [(10,fun v=>∃ g,v = .slice (some ⟨g,0,none⟩) 1 1),(11,fun v=>∃ a n c,v = .slice a n c)] (fun u=>Grew W13 u) hI0 (show Below _ _ _ from (Below.refl _ _).drew) mixed (by kernel_rfl) rfl rfl (by decide) ?hS (by kernel_rfl) ?_
             case hS =>
              intro x hx;simp only [List.mem_cons,List.not_mem_nil,or_false] at hx
              rcases hx with rfl | rfl
              ·exact ⟨_,0,rfl⟩
              ·exact ⟨_,none,0,0,rfl⟩
             simp only [List.take,List.drop];iterate 2 (refine laxD_quiet rfl rfl rfl (fun K hK=>?_); go_big_quiet_op; refine hK _ ?_; clear hK K)
             refine laxD_nilc (.tmp 139) ⟨b,0,none⟩ rfl rfl rfl rfl ?_;simp only [Act.put,List.setIfInBounds_toArray,List.set_cons_succ,List.set_cons_zero];iterate 7 (refine laxD_quiet rfl rfl rfl (fun K hK=>?_); go_big_quiet_op; refine hK _ ?_; clear hK K)
             refine laxD_spec rfl rfl (fun v u=>Grew W13 u∧∃ g,v = .slice (some ⟨g,0,none⟩) 1 1∧Cells u ⟨g,0,none⟩ (ptc ((n : Int),[p0,p1,p2,p3,p4,p5,p6,p7]))) (fun w' hI' hF'=>?_) (fun v1 hv=>?_)
             ·exact Does.step (v:= .slice (some ⟨w'.heap.size,0,none⟩) 1 1) (w':=w'.alloc (.cells #[.int .i64 (n : Int),.int .u8 p0,.int .u8 p1,.int .u8 p2,.int .u8 p3,.int .u8 p4,.int .u8 p5,.int .u8 p6,.int .u8 p7] 95)) (by simp only [execOp]; go_simp) ⟨(HI.out _).2 ⟨((HI.out _).1 hI').1.grew (grew_alloc _ _),((HI.out _).1 hI').2.grew (grew_alloc _ _)⟩,⟨_,rfl⟩,hF'.trans (grew_alloc _ _),_,rfl,Cells.top w' (ptc ((n : Int),[p0,p1,p2,p3,p4,p5,p6,p7])) _ rfl⟩
             obtain ⟨g5,rfl⟩:=hv;simp only [Act.put,List.setIfInBounds_toArray,List.set_cons_succ,List.set_cons_zero];refine laxD_spec rfl rfl (fun v u=>∃ u0,Grew W13 u0∧u0.grownBy u (Value.slice sd6.a sd6.n sd6.c).ownBlock∧OwnPuts w.heap.size u v (dq6 ++ [((n : Int),[p0,p1,p2,p3,p4,p5,p6,p7])])) (fun w' hI' hF'=>?_) (fun v1 hv=>?_)
             ·obtain ⟨hg',g,hge,hcl⟩:=hF';have hge' : g5 = g:=by
               simp only [Value.slice.injEq,Option.some.injEq,Addr.mk.injEq] at hge;exact hge.1.1
              subst hge';obtain ⟨v',w2,hrun,ho,hgr⟩:=run_append_put (w:=w') 31 (HDQ.out.grew hg') g5 ((n : Int),[p0,p1,p2,p3,p4,p5,p6,p7]) rfl hcl HQL.out (Nat.le_trans (Below.size F13.out.mm.gr) (Below.size hg'));obtain ⟨a',n',c',rfl⟩:=ho.slice;have hbx : I w2:=by
               cases hob : (Value.slice sd6.a sd6.n sd6.c).ownBlock with
               | none =>
                rw [hob] at hgr;exact (HI.out _).2 ⟨((HI.out _).1 hI').1.grew (grown_none hgr),((HI.out _).1 hI').2.grew (grown_none hgr)⟩
               | some gq =>
                rw [hob] at hgr;obtain ⟨-,cs,hc⟩:=ownPuts_obj (HDQ.out.grew hg') hob;exact (HI.out _).2 ⟨((HI.out _).1 hI').1.kind hgr hc (by decide),((HI.out _).1 hI').2.kind hgr hc (by decide)⟩
              refine Does.step (v:= .slice a' n' c') (w':=w2) ?_ ⟨hbx,⟨a',n',c',rfl⟩,w',hg',hgr,ho⟩;simp only [execOp,resolve,invoke,builtin,pure_bind,Sem.run_bind,Sem.run_pure,List.map_toArray,List.map_cons,List.map_nil];exact Eq.trans (congrArg (fun r=>Result.andThen r (fun a w'=>Result.ok (Next.value a) w')) hrun) rfl
             obtain ⟨da,dn,dc,rfl⟩:=hv;simp only [Act.put,List.setIfInBounds_toArray,List.set_cons_succ,List.set_cons_zero];refine laxD_nilc (.tmp 138) ⟨b,0,none⟩ rfl rfl rfl rfl ?_;simp only [Act.put,List.setIfInBounds_toArray,List.set_cons_succ,List.set_cons_zero];iterate 3 (refine laxD_quiet rfl rfl rfl (fun K hK=>?_); go_big_quiet_op; refine hK _ ?_; clear hK K)
             refine laxD_nil fun W14 hI14 hF14=>?_
             obtain ⟨u0,g0,gr14,op14⟩:=hF14;have B14 : Hid (BoxT W14 b 91 [.slice vl13.a vl13.n vl13.c,.slice (some ⟨gf,0,none⟩) nf nf,.int .i64 0,.slice (some ⟨gl,0,none⟩) ns ns,.slice (some ⟨gsb,0,none⟩) ns ns,.slice none 0 0,.slice (some ⟨gdb,0,none⟩) nb nb,.slice sd6.a sd6.n sd6.c,.slice sf.a sf.n sf.c,.int .i64 (nb : Int),.slice none 0 0,.slice none 0 0,.slice none 0 0]):=((HI.out _).1 hI14).1;have R14 : Hid (MkR w.heap.size hi W14 ⟨⟨some ⟨gf,0,none⟩,nf,nf⟩,⟨some ⟨gl,0,none⟩,ns,ns⟩,⟨some ⟨gsb,0,none⟩,ns,ns⟩,sli0,⟨some ⟨gdb,0,none⟩,nb,nb⟩,⟨da,dn,dc⟩,sf,sli0,sli0⟩ ⟨List.replicate nf frF,0,List.replicate ns 0,List.replicate ns zero8,[],db6.set n [p0,p1,p2,p3,p4,p5,p6,p7],dq6 ++ [((n : Int),[p0,p1,p2,p3,p4,p5,p6,p7])],fl,nb,[],[]⟩ sli0 []):=(F13.out.mm.rows.grew g0).addDq gr14 ⟨da,dn,dc⟩ op14;have hk14 : Grew w W14∧FlB w.heap.size hi pf W14 ⟨⟨some ⟨gf,0,none⟩,nf,nf⟩,⟨some ⟨gl,0,none⟩,ns,ns⟩,⟨some ⟨gsb,0,none⟩,ns,ns⟩,sli0,⟨some ⟨gdb,0,none⟩,nb,nb⟩,sd6,sf,sli0,sli0⟩ ⟨List.replicate nf frF,0,List.replicate ns 0,List.replicate ns zero8,[],db6.set n [p0,p1,p2,p3,p4,p5,p6,p7],dq6,fl,nb,[],[]⟩∧BoxT W14 pf 71 [.int .i64 sz,.slice bs.a bs.n bs.c]∧OwnRow blE (pf + 1) W14 (.slice bs.a bs.n bs.c) bl∧BoxT W14 w.heap.size 40 [.slice none 0 0,.int .i64 0,.slice none 0 0,.slice none 0 0,.slice none 0 0,.slice none 0 0,.slice none 0 0,.slice none 0 0,.int .i64 0,.slice none 0 0,.slice none 0 0]:=by
              cases hob : (Value.slice sd6.a sd6.n sd6.c).ownBlock with
              | none =>
               rw [hob] at gr14;have k:=grown_none gr14;exact ⟨(F13.out.mm.gr.trans g0).trans k,(F13.out.fb.grew g0).grew k,(F13.out.box.grew g0).grew k,(F13.out.row.grew g0).grew k,(X13.out.grew g0).grew k⟩
              | some gq =>
               rw [hob] at gr14;obtain ⟨hgq,cs,hc⟩:=ownPuts_obj (HDQ.out.grew g0) hob;exact ⟨grew_grown (F13.out.mm.gr.trans g0) gr14 hgq,(F13.out.fb.grew g0).kind gr14 hc (.inl (by decide)) (.inl (by decide)),(F13.out.box.grew g0).kind gr14 hc (by decide),(F13.out.row.grew g0).kind gr14 hc (by decide),(X13.out.grew g0).kind gr14 hc (by decide)⟩
             obtain ⟨e1,e2,e3,e4,e5⟩:=hk14;have GW14 : Hid (Grew w W14):=e1;have FB14 : Hid (FlB w.heap.size hi pf W14 ⟨⟨some ⟨gf,0,none⟩,nf,nf⟩,⟨some ⟨gl,0,none⟩,ns,ns⟩,⟨some ⟨gsb,0,none⟩,ns,ns⟩,sli0,⟨some ⟨gdb,0,none⟩,nb,nb⟩,sd6,sf,sli0,sli0⟩ ⟨List.replicate nf frF,0,List.replicate ns 0,List.replicate ns zero8,[],db6.set n [p0,p1,p2,p3,p4,p5,p6,p7],dq6,fl,nb,[],[]⟩):=e2;have PF14 : Hid (BoxT W14 pf 71 [.int .i64 sz,.slice bs.a bs.n bs.c]):=e3;have RW14 : Hid (OwnRow blE (pf + 1) W14 (.slice bs.a bs.n bs.c) bl):=e4;have X14 : Hid (BoxT W14 w.heap.size 40 [.slice none 0 0,.int .i64 0,.slice none 0 0,.slice none 0 0,.slice none 0 0,.slice none 0 0,.slice none 0 0,.slice none 0 0,.int .i64 0,.slice none 0 0,.slice none 0 0]):=e5;clear e1 e2 e3 e4 e5 u0 g0 gr14 op14 hI14 hI0 HI HP hx7 hne HDQ HQL;clear hf0 hf1 hf2 hf3 hf4 hf5 hf6 hf7;obtain ⟨W15,hW15⟩ : ∃ W15,W14.setCell ⟨b,7,none⟩ (.slice da dn dc) = W15:=⟨_,rfl⟩;have hg15 : W14.grownBy W15 (some b):=by rw [←hW15]; exact set_grown _ _ _ _
             have M15 : Mk w hi W15 b vl13 L13 ⟨⟨some ⟨gf,0,none⟩,nf,nf⟩,⟨some ⟨gl,0,none⟩,ns,ns⟩,⟨some ⟨gsb,0,none⟩,ns,ns⟩,sli0,⟨some ⟨gdb,0,none⟩,nb,nb⟩,⟨da,dn,dc⟩,sf,sli0,sli0⟩ ⟨List.replicate nf frF,0,List.replicate ns 0,List.replicate ns zero8,[],db6.set n [p0,p1,p2,p3,p4,p5,p6,p7],dq6 ++ [((n : Int),[p0,p1,p2,p3,p4,p5,p6,p7])],fl,nb,[],[]⟩ sli0 []:=⟨grew_grown GW14.out hg15 F13.out.mm.hb,F13.out.mm.hb,by rw [←hW15]; exact B14.out.set 7 _,F13.out.mm.lr,F13.out.mm.lc,F13.out.mm.lb,R14.out.var hg15 B14.out hg15.size (.inl rfl)⟩
             have F15 : Hid (FC w hi b W15 vl13 L13 ⟨⟨some ⟨gf,0,none⟩,nf,nf⟩,⟨some ⟨gl,0,none⟩,ns,ns⟩,⟨some ⟨gsb,0,none⟩,ns,ns⟩,sli0,⟨some ⟨gdb,0,none⟩,nb,nb⟩,⟨da,dn,dc⟩,sf,sli0,sli0⟩ ⟨List.replicate nf frF,0,List.replicate ns 0,List.replicate ns zero8,[],(db6.set n [p0,p1,p2,p3,p4,p5,p6,p7]),(dq6 ++ [((n : Int),[p0,p1,p2,p3,p4,p5,p6,p7])]),fl,nb,[],[]⟩ pf sz bs bl):=show FC _ _ _ _ _ _ _ _ _ _ _ _ from ⟨M15,F13.out.hp,(FB14.out.kind hg15 B14.out (.inl (by decide)) (.inl (by decide))).as rfl rfl,F13.out.fn,PF14.out.kind hg15 B14.out (by decide),RW14.out.kind hg15 B14.out (by decide)⟩
             have X15 : Hid (BoxT W15 w.heap.size 40 [.slice none 0 0,.int .i64 0,.slice none 0 0,.slice none 0 0,.slice none 0 0,.slice none 0 0,.slice none 0 0,.slice none 0 0,.int .i64 0,.slice none 0 0,.slice none 0 0]):=X14.out.kind hg15 B14.out (by decide)
             have HW15 : Hid (_ = W15):=hW15;have x7:=B14.out.box.c 7 rfl;have xf:=B14.out.box.f;clear hW15 hg15 M15 FB14 PF14 RW14 X14 GW14 R14 F13 X13 P13;go_wp2;rw [HW15.out]
             go_meet
             case rel=>exact ⟨(n : Int),vl13,L13,⟨da,dn,dc⟩,_,_,rfl,rfl,F15.out,LL13.out,X15.out,(show _∧_ from ⟨FI.out.1.block (more:=true) (by rw [FI.out.2.2]; exact hn) HUF.out.1 HUF.out.2,HDL.out⟩)⟩
            ·have hye : (y == 1) = false:=by simp [hy]
             clear hy;go_wp2
             go_meet
             case rel=>exact ⟨(n : Int),vl13,L13,sd6,_,_,rfl,rfl,F13.out,LL13.out,X13.out,(show _∧_ from ⟨FI.out.1.block (more:=false) (by rw [FI.out.2.2]; exact hn) HUF.out.1 HUF.out.2,HDL.out⟩)⟩
        case rest =>
         obtain ⟨bx,vl9,L9,sd9,db9,dq9,rfl,rfl,F9,LL9,X9,FI9⟩:=hcut;clear F8 LL8 X8;have y1:=F9.out.box.box.c 1 rfl;have HBL : Hid (bl.length = k3):=show _ = _ from FI.out.2.1
         have HSW : Hid (pf + 1≤wc.heap.size):=F9.out.box.box.lt
         go_wp2_with (at_builtin; refine wpList_append_row (E:=blE) rfl (.tmp 155) (.tmp 157) rfl (pf + 1) _ bl rfl (F9.out.row.grew (grew_alloc _ _)) _ [bx] rfl (one_row blE wc bx _ _ rfl (by decide)) ?qb ?qc ?_)
         case qb =>
          rw [HBL.out]
          show (k3 + 1) * 8≤_
          omega
         case qc=>exact Nat.le_trans HSW.out (Below.size (grew_alloc _ _))
         intro v4 W14 ow4 gr4;obtain ⟨a4,c4,rfl⟩:=ow4.form;obtain ⟨N4,hN4⟩ : ∃ N4,(bl ++ [bx]).length = N4:=⟨_,rfl⟩;rw [hN4] at ow4 ⊢;clear hN4;obtain ⟨WX,hWX⟩ : ∃ WX,wc.alloc (.cells #[.int .i64 bx] 3) = WX:=⟨_,rfl⟩;have gX : Grew wc WX:=by rw [←hWX]; exact grew_alloc _ _
         have gr4' : WX.grownBy W14 (Value.slice bs.a bs.n bs.c).ownBlock:=by rw [←hWX]; exact gr4
         clear gr4 hWX;obtain ⟨b14,k14,f14⟩:=(F9.out.grew gX).addB gr4' ⟨a4,N4,c4⟩ ow4;have F14 : Hid (FC w hi b (W14.setCell ⟨pf,1,none⟩ (.slice a4 N4 c4)) vl9 L9 ⟨⟨some ⟨gf,0,none⟩,nf,nf⟩,⟨some ⟨gl,0,none⟩,ns,ns⟩,⟨some ⟨gsb,0,none⟩,ns,ns⟩,sli0,⟨some ⟨gdb,0,none⟩,nb,nb⟩,sd9,sf,sli0,sli0⟩ ⟨List.replicate nf frF,0,List.replicate ns 0,List.replicate ns zero8,[],db9,dq9,fl,nb,[],[]⟩ pf sz ⟨a4,N4,c4⟩ (bl ++ [bx])):=f14;have X14 : Hid (BoxT (W14.setCell ⟨pf,1,none⟩ (.slice a4 N4 c4)) w.heap.size 40 [.slice none 0 0,.int .i64 0,.slice none 0 0,.slice none 0 0,.slice none 0 0,.slice none 0 0,.slice none 0 0,.slice none 0 0,.int .i64 0,.slice none 0 0,.slice none 0 0]):=k14 _ _ _ (by decide) (by decide) (X9.out.grew gX)
         have B14 : Hid (BoxT W14 pf 71 [.int .i64 sz,.slice bs.a bs.n bs.c]):=b14;clear b14 k14 f14 gr4' ow4 gX y1 F9 X9 HSW;have y1:=B14.out.box.c 1 rfl;have yf:=B14.out.box.f;go_wp2
         go_roundg (N3 - (k3 + 1))
         case measure=>omega
         case rel=>exact ⟨k3 + 1,vl9,L9,sd9,⟨a4,N4,c4⟩,db9,dq9,bl ++ [bx],by omega,by omega,by go_num,F14.out,LL9.out,X14.out,(show _∧_ from ⟨FI9.out.1,by rw [List.length_append,HBL.out]; rfl,FI9.out.2⟩)⟩
      ·have hltz3 : ¬ (k3 : Int) < (N3 : Int):=by omega
       obtain rfl : k3 = N3:=by omega
       go_upto_region 31 with fail;obtain ⟨xs,q1,q2,q3⟩:=FX.out.fb;have HX : Hid (OwnRow fvE w.heap.size wr (.slice sf.a sf.n sf.c) xs):=q1;have HXL : Hid (xs.length = fl.length):=show _ = _ from q2
       have HX3 : Hid (∀ (i : Nat) x f,xs[i]? = some x→fl[i]? = some f→x.size = f.size∧OwnRow blE hi wr x.v f.bl):=show ∀ i,_ from fun i x f hx hf=>(q3 i x f hx hf).1
       clear q1 q2 q3;obtain ⟨fx,HFX⟩ : ∃ fx : FlV,Hid (fx = ⟨sz,bs.a,bs.n,bs.c⟩):=⟨_,rfl⟩;obtain ⟨I,HI⟩ : ∃ I : World→Prop,Hid (∀ u,I u↔BoxT u b 91 [.slice vl6.a vl6.n vl6.c,.slice (some ⟨gf,0,none⟩) nf nf,.int .i64 0,.slice (some ⟨gl,0,none⟩) ns ns,.slice (some ⟨gsb,0,none⟩) ns ns,.slice none 0 0,.slice (some ⟨gdb,0,none⟩) nb nb,.slice sd6.a sd6.n sd6.c,.slice sf.a sf.n sf.c,.int .i64 (nb : Int),.slice none 0 0,.slice none 0 0,.slice none 0 0]∧BoxT u pf 71 [.int .i64 sz,.slice bs.a bs.n bs.c]):=⟨fun u=>BoxT u b 91 [.slice vl6.a vl6.n vl6.c,.slice (some ⟨gf,0,none⟩) nf nf,.int .i64 0,.slice (some ⟨gl,0,none⟩) ns ns,.slice (some ⟨gsb,0,none⟩) ns ns,.slice none 0 0,.slice (some ⟨gdb,0,none⟩) nb nb,.slice sd6.a sd6.n sd6.c,.slice sf.a sf.n sf.c,.int .i64 (nb : Int),.slice none 0 0,.slice none 0 0,.slice none 0 0]∧BoxT u pf 71 [.int .i64 sz,.slice bs.a bs.n bs.c],fun _=>Iff.rfl⟩
       have hI0 : I wr.drew:=(HI.out _).2 ⟨FX.out.mm.box.grew (show Below _ _ _ from (Below.refl _ _).drew),FX.out.box.grew (show Below _ _ _ from (Below.refl _ _).drew)⟩
       have hx8 : ∀ y : HoldI I,y.world.cell? ⟨b,8,none⟩ = some (.slice sf.a sf.n sf.c):=fun y=>((HI.out _).1 y.holds).1.box.c 8 rfl
       have hp0 : ∀ y : HoldI I,y.world.cell? ⟨pf,0,none⟩ = some (.int .i64 sz):=fun y=>((HI.out _).1 y.holds).2.box.c 0 rfl
       have hp1 : ∀ y : HoldI I,y.world.cell? ⟨pf,1,none⟩ = some (.slice bs.a bs.n bs.c):=fun y=>((HI.out _).1 y.holds).2.box.c 1 rfl
       have hne : Nonempty (HoldI I):=⟨⟨_,hI0⟩⟩;refine wp_lax_tailD (I:=I) 14 [(8,fun v=>∃ g,v = .slice (some ⟨g,0,none⟩) 1 1),(9,fun v=>∃ a n c,v = .slice a n c)] (fun u=>Grew wr u) hI0 (show Below _ _ _ from (Below.refl _ _).drew) mixed (by kernel_rfl) rfl rfl (by decide) ?hS (by kernel_rfl) ?_
       case hS =>
        intro x hx;simp only [List.mem_cons,List.not_mem_nil,or_false] at hx
        rcases hx with rfl | rfl
        ·exact ⟨_,0,rfl⟩
        ·exact ⟨_,none,0,0,rfl⟩
       simp only [List.take,List.drop];iterate 2 (refine laxD_quiet rfl rfl rfl (fun K hK=>?_); go_big_quiet_op; refine hK _ ?_; clear hK K)
       refine laxD_nilc (.tmp 162) ⟨b,0,none⟩ rfl rfl rfl rfl ?_;simp only [Act.put,List.setIfInBounds_toArray,List.set_cons_succ,List.set_cons_zero];iterate 5 (refine laxD_quiet rfl rfl rfl (fun K hK=>?_); go_big_quiet_op; refine hK _ ?_; clear hK K)
       refine laxD_spec rfl rfl (fun v u=>Grew wr u∧RowAt fvE u v [fx]) (fun w' hI' hF'=>?_) (fun v1 hv=>?_)
       ·exact Does.step (v:= .slice (some ⟨w'.heap.size,0,none⟩) 1 1) (w':=w'.alloc (.cells #[.int .i64 sz,.slice bs.a bs.n bs.c] 71)) (by simp only [execOp]; go_simp) ⟨(HI.out _).2 ⟨((HI.out _).1 hI').1.grew (grew_alloc _ _),((HI.out _).1 hI').2.grew (grew_alloc _ _)⟩,⟨_,rfl⟩,hF'.trans (grew_alloc _ _),one_row fvE w' fx _ _ (by rw [HFX.out]; rfl) (by decide)⟩
       obtain ⟨g5,rfl⟩:=hv;simp only [Act.put,List.setIfInBounds_toArray,List.set_cons_succ,List.set_cons_zero];refine laxD_spec rfl rfl (fun v u=>∃ u0,Grew wr u0∧u0.grownBy u (Value.slice sf.a sf.n sf.c).ownBlock∧OwnRow fvE w.heap.size u v (xs ++ [fx])) (fun w' hI' hF'=>?_) (fun v1 hv=>?_)
       ·obtain ⟨hg',hrw⟩:=hF';obtain ⟨v',w2,hrun,ho,hgr,-⟩:=run_append_keeps (E:=fvE) (w:=w') 34 (HX.out.grew hg') (.slice (some ⟨g5,0,none⟩) 1 1) [fx] hrw (by have:=HXL.out; have:=HFL.out; rw [HXL.out]; show (fl.length + 1) * 32≤_; omega) (Nat.le_trans (Below.size FX.out.mm.gr) (Below.size hg'))
        obtain ⟨a',c',rfl⟩:=ho.form;have hbx : I w2:=by
         cases hob : (Value.slice sf.a sf.n sf.c).ownBlock with
         | none =>
          rw [hob] at hgr;exact (HI.out _).2 ⟨((HI.out _).1 hI').1.grew (grown_none hgr),((HI.out _).1 hI').2.grew (grown_none hgr)⟩
         | some gq =>
          rw [hob] at hgr;obtain ⟨cs,hc⟩:=(HX.out.grew hg').obj hob;have hlt:=FX.out.fn gq hob;exact (HI.out _).2 ⟨((HI.out _).1 hI').1.kind hgr hc (by decide),((HI.out _).1 hI').2.beside hgr (fun k e=>by cases e; omega)⟩
        refine Does.step (v:= .slice a' (xs ++ [fx]).length c') (w':=w2) ?_ ⟨hbx,⟨a',_,c',rfl⟩,w',hg',hgr,ho⟩;simp only [execOp,resolve,invoke,builtin,pure_bind,Sem.run_bind,Sem.run_pure,List.map_toArray,List.map_cons,List.map_nil];exact Eq.trans (congrArg (fun r=>Result.andThen r (fun a w'=>Result.ok (Next.value a) w')) hrun) rfl
       obtain ⟨fa,fn,fc,rfl⟩:=hv;simp only [Act.put,List.setIfInBounds_toArray,List.set_cons_succ,List.set_cons_zero];refine laxD_nilc (.tmp 161) ⟨b,0,none⟩ rfl rfl rfl rfl ?_;simp only [Act.put,List.setIfInBounds_toArray,List.set_cons_succ,List.set_cons_zero];iterate 3 (refine laxD_quiet rfl rfl rfl (fun K hK=>?_); go_big_quiet_op; refine hK _ ?_; clear hK K)
       refine laxD_nil fun W14 hI14 hF14=>?_
       obtain ⟨u0,g0,gr14,op14⟩:=hF14;have B14 : Hid (BoxT W14 b 91 [.slice vl6.a vl6.n vl6.c,.slice (some ⟨gf,0,none⟩) nf nf,.int .i64 0,.slice (some ⟨gl,0,none⟩) ns ns,.slice (some ⟨gsb,0,none⟩) ns ns,.slice none 0 0,.slice (some ⟨gdb,0,none⟩) nb nb,.slice sd6.a sd6.n sd6.c,.slice sf.a sf.n sf.c,.int .i64 (nb : Int),.slice none 0 0,.slice none 0 0,.slice none 0 0]):=((HI.out _).1 hI14).1;have R14 : Hid (MkR w.heap.size hi W14 ⟨⟨some ⟨gf,0,none⟩,nf,nf⟩,⟨some ⟨gl,0,none⟩,ns,ns⟩,⟨some ⟨gsb,0,none⟩,ns,ns⟩,sli0,⟨some ⟨gdb,0,none⟩,nb,nb⟩,sd6,⟨fa,fn,fc⟩,sli0,sli0⟩ ⟨List.replicate nf frF,0,List.replicate ns 0,List.replicate ns zero8,[],db6,dq6,fl ++ [⟨sz,bl⟩],nb,[],[]⟩ sli0 []):=(FX.out.mm.rows.grew g0).addFl (HX.out.grew g0) HXL.out (fun i x f hx hf=>⟨(HX3.out i x f hx hf).1,(HX3.out i x f hx hf).2.grew g0⟩) gr14 ⟨fa,fn,fc⟩ (x:=fx) (f:=⟨sz,bl⟩) (by rw [HFX.out]) (by rw [HFX.out]; exact (FX.out.row.grew g0).base (by have:=FX.out.hp; omega)) op14
       have hk14 : Grew w W14∧BoxT W14 w.heap.size 40 [.slice none 0 0,.int .i64 0,.slice none 0 0,.slice none 0 0,.slice none 0 0,.slice none 0 0,.slice none 0 0,.slice none 0 0,.int .i64 0,.slice none 0 0,.slice none 0 0]:=by
        cases hob : (Value.slice sf.a sf.n sf.c).ownBlock with
        | none =>
         rw [hob] at gr14;exact ⟨(FX.out.mm.gr.trans g0).trans (grown_none gr14),(XX.out.grew g0).grew (grown_none gr14)⟩
        | some gq =>
         rw [hob] at gr14;obtain ⟨cs,hc⟩:=(HX.out.grew g0).obj hob;exact ⟨grew_grown (FX.out.mm.gr.trans g0) gr14 ((HX.out.grew g0).lt gq hob).1,(XX.out.grew g0).kind gr14 hc (by decide)⟩
       obtain ⟨e1,e5⟩:=hk14;have hg15:=set_grown W14 b 8 (.slice fa fn fc);have M15 : Hid (Mk w hi (W14.setCell ⟨b,8,none⟩ (.slice fa fn fc)) b vl6 L6 ⟨⟨some ⟨gf,0,none⟩,nf,nf⟩,⟨some ⟨gl,0,none⟩,ns,ns⟩,⟨some ⟨gsb,0,none⟩,ns,ns⟩,sli0,⟨some ⟨gdb,0,none⟩,nb,nb⟩,sd6,⟨fa,fn,fc⟩,sli0,sli0⟩ ⟨List.replicate nf frF,0,List.replicate ns 0,List.replicate ns zero8,[],db6,dq6,fl ++ [⟨sz,bl⟩],nb,[],[]⟩ sli0 []):=show Mk _ _ _ _ _ _ _ _ _ _ from ⟨grew_grown e1 hg15 FX.out.mm.hb,FX.out.mm.hb,B14.out.set 8 _,FX.out.mm.lr,FX.out.mm.lc,FX.out.mm.lb,R14.out.var hg15 B14.out hg15.size (.inl rfl)⟩
       have X15 : Hid (BoxT (W14.setCell ⟨b,8,none⟩ (.slice fa fn fc)) w.heap.size 40 [.slice none 0 0,.int .i64 0,.slice none 0 0,.slice none 0 0,.slice none 0 0,.slice none 0 0,.slice none 0 0,.slice none 0 0,.int .i64 0,.slice none 0 0,.slice none 0 0]):=e5.kind hg15 B14.out (by decide)
       have FI15 : Hid (FInv (fl ++ [⟨sz,bl⟩]) nb db6 dq6 []∧(fl ++ [(⟨sz,bl⟩ : Fl)]).length≤k2 + 1∧db6.length = nb∧∀ f∈fl ++ [(⟨sz,bl⟩ : Fl)],f.size < 40):=show _∧_ from ⟨FI.out.1.file (by have:=HFL.out; omega) (by have:=HSZ.out; omega) (by rw [FI.out.2.1,HN3.out]),by have:=HFL.out; simp; omega,FI.out.2.2,fun f hf=>by
        rcases List.mem_append.1 hf with hf | hf
        ·exact HF40.out f hf
        ·simp only [List.mem_cons,List.not_mem_nil,or_false] at hf;rw [hf];exact HSZ.out.2⟩
       clear u0 g0 gr14 op14 e1 e5 hg15 hI14 hI0 HI hx8 hp0 hp1 hne R14 FX XX HX HXL HX3 HFX;have x8:=B14.out.box.c 8 rfl;have xf:=B14.out.box.f;go_wp2
       go_roundg (c - (k2 + 1))
       case measure=>omega
       case rel=>exact ⟨k2 + 1,vl6,L6,sd6,⟨fa,fn,fc⟩,db6,dq6,fl ++ [(⟨sz,bl⟩ : Fl)],by omega,by omega,by go_num,M15.out,LX.out,X15.out,FI15.out,(fun h=>absurd h (Nat.succ_ne_zero _))⟩
    ·have hltz2 : ¬ (k2 : Int) < (c : Int):=by omega
     have BI : Hid (BInv ⟨List.replicate nf frF,0,List.replicate ns 0,List.replicate ns zero8,[],db,dq,fl,nb,[],[]⟩ []):=FW.out.1.start hnf40 hns60 0;have HFL2 : Hid (fl.length≤2∧∀ f∈fl,f.size < 40):=show _∧_ from ⟨by have:=FW.out.2.1; omega,FW.out.2.2.2⟩
     have HE0 : Hid (L = []→fl = []∧dq = []∧db = List.replicate nb zero8):=show _→_ from fun e=>ZW.out (by have:=HC0.out e; omega)
     have hpk3:=pick_any 2 MW.out;go_wp2_with fail;refine hpk3.mono ?_;clear hpk3;rintro e W4 ⟨vl4,L4,y,rfl,mk4,gr4,-,s0,s1,s2,ll4⟩;obtain ⟨n5,hn5⟩ : ∃ n5 : Nat,1 + y = (n5 : Int):=⟨(1 + y).toNat,by omega⟩
     have hn52 : n5≤2:=by rcases s1 with h | h <;> omega
     have hn51 : 1≤n5:=by omega
     have HN1 : Hid (L = []→n5 = 1):=show _→_ from fun e=>by have:=s2 (LW.out e); omega
     have M4 : Hid (Mk w hi W4 b vl4 L4 ⟨⟨some ⟨gf,0,none⟩,nf,nf⟩,⟨some ⟨gl,0,none⟩,ns,ns⟩,⟨some ⟨gsb,0,none⟩,ns,ns⟩,sli0,⟨some ⟨gdb,0,none⟩,nb,nb⟩,sd,sf,sli0,sli0⟩ ⟨List.replicate nf frF,0,List.replicate ns 0,List.replicate ns zero8,[],db,dq,fl,nb,[],[]⟩ sli0 []):=mk4;have X4 : Hid (BoxT W4 w.heap.size 40 [.slice none 0 0,.int .i64 0,.slice none 0 0,.slice none 0 0,.slice none 0 0,.slice none 0 0,.slice none 0 0,.slice none 0 0,.int .i64 0,.slice none 0 0,.slice none 0 0]):=XW.out.beside gr4 (fun g e=>by cases e; have:=HBB.out; omega)
     have LL4 : Hid (Less L L4):=LW.out.trans ll4;clear mk4 gr4 ll4 MW XW LW s0 s1 s2;go_wp2
     go_loopg [179] n5 (fun gg s179 wr=>∃ (k5 : Nat) (vl' : Sli) (L' : List Int) (V' : MaV) (m' : Ma) (vt' : Sli) (T' : List (Nat→En)),k5≤n5∧n5 - k5≤gg∧s179 = .int .i64 k5∧Hid (Mk w hi wr b vl' L' V' m' vt' T')∧Hid (Less L L')∧Hid (BoxT wr w.heap.size 40 [.slice none 0 0,.int .i64 0,.slice none 0 0,.slice none 0 0,.slice none 0 0,.slice none 0 0,.slice none 0 0,.slice none 0 0,.int .i64 0,.slice none 0 0,.slice none 0 0])∧Hid (BInv m' T')∧Hid (m'.sp.length = k5∧(∀ s∈m'.sp,FilesIn m'.fl.length s.ars∧areaTo s.ars 64≤12)∧m'.hand = 0∧m'.fs.length = nf∧(m'.fl.length≤2∧∀ f∈m'.fl,f.size < 40))∧Hid (L = []→m' = newMk nf ns nb k5∧T' = List.replicate k5 (fun _=>en0)))
     case atStart=>exact ⟨0,vl4,L4,_,_,_,_,Nat.zero_le _,by omega,rfl,M4.out,LL4.out,X4.out,BI.out,(show _∧_ from ⟨rfl,fun s hs=>(by cases hs),rfl,List.length_replicate,HFL2.out⟩),(show _→_ from fun e=>by obtain ⟨a1,a2,a3⟩:=HE0.out e; rw [a1,a2,a3]; exact ⟨rfl,rfl⟩)⟩
     case round =>
      obtain ⟨k5,vl5,L5,V5,m5,vt5,T5,hk5,hg5,rfl,MX,LX,XX,BX5,S5,E5⟩:=hrel;clear M4 X4 LL4 BI;have HL5 : Hid (m5.sp.length = k5):=S5.out.1
      by_cases hlt5 : k5 < n5
      ·have hltz5 : (k5 : Int) < (n5 : Int):=by omega
       by_cases h1 : k5 = 1
       ·subst h1;have HL1 : Hid (L≠[]):=show _≠_ from fun e=>by have:=HN1.out e; omega
        have h1e : ((((1 : Nat) : Int)) == 1) = true:=by decide
        have hpk4:=pick_any 2 MX.out;go_wp2_with fail;refine hpk4.mono ?_;clear hpk4;rintro e W7 ⟨vl7,L7,z,rfl,mk7,gr7,-,-,-,-,ll7⟩;have M7 : Hid (Mk w hi W7 b vl7 L7 V5 m5 vt5 T5):=mk7;have X7 : Hid (BoxT W7 w.heap.size 40 [.slice none 0 0,.int .i64 0,.slice none 0 0,.slice none 0 0,.slice none 0 0,.slice none 0 0,.slice none 0 0,.slice none 0 0,.int .i64 0,.slice none 0 0,.slice none 0 0]):=XX.out.beside gr7 (fun g e=>by cases e; have:=HBB.out; omega)
        have LL7 : Hid (Less L L7):=LX.out.trans ll7;clear mk7 gr7 ll7 MX XX LX;obtain ⟨MX,LX,XX⟩ : Hid (Mk w hi W7 b vl7 L7 V5 m5 vt5 T5)∧Hid (Less L L7)∧Hid (BoxT W7 w.heap.size 40 [.slice none 0 0,.int .i64 0,.slice none 0 0,.slice none 0 0,.slice none 0 0,.slice none 0 0,.slice none 0 0,.slice none 0 0,.int .i64 0,.slice none 0 0,.slice none 0 0]):=⟨M7,LL7,X7⟩;clear M7 LL7 X7
        by_cases hz : z = 1
        ·have hze : (z == 1) = true:=by simp [hz]
         clear hz;obtain ⟨s0,hs0⟩:=List.length_eq_one_iff.1 HL5.out;have HS0 : Hid (m5.sp = [s0]):=hs0;clear hs0;have hfk:=fork_any s0 MX.out BX5.out HS0.out;go_wp2_with fail;refine hfk.mono ?_;clear hfk;rintro e W9 ⟨⟨v,rfl⟩,V9,m9,vt9,T9,q1,q3,q4,⟨q5,q6,q7,q8⟩⟩;have M9 : Hid (Mk w hi W9 b vl7 L7 V9 m9 vt9 T9):=q1;have X9 : Hid (BoxT W9 w.heap.size 40 [.slice none 0 0,.int .i64 0,.slice none 0 0,.slice none 0 0,.slice none 0 0,.slice none 0 0,.slice none 0 0,.slice none 0 0,.int .i64 0,.slice none 0 0,.slice none 0 0]):=q3.1 _ _ _ XX.out loc_mach;have B9 : Hid (BInv m9 T9):=q4;have S9 : Hid (m9.sp.length = 1 + 1∧(∀ s∈m9.sp,FilesIn m9.fl.length s.ars∧areaTo s.ars 64≤12)∧m9.hand = 0∧m9.fs.length = nf∧(m9.fl.length≤2∧∀ f∈m9.fl,f.size < 40)):=show _∧_ from ⟨by rw [q5,HS0.out]; rfl,fun s hs=>by
          rw [q5] at hs;rw [q6]
          rcases List.mem_append.1 hs with hs | hs
          ·exact S5.out.2.1 s hs
          ·simp only [List.mem_cons,List.not_mem_nil,or_false] at hs;rw [hs];exact S5.out.2.1 s0 (by rw [HS0.out]; simp),q7.trans S5.out.2.2.1,q8.trans S5.out.2.2.2.1,by rw [q6]; exact S5.out.2.2.2.2⟩
         have E9 : Hid (L = []→m9 = newMk nf ns nb (1 + 1)∧T9 = List.replicate (1 + 1) (fun _=>en0)):=show _→_ from fun e=>absurd e HL1.out
         clear q1 q3 q4 q5 q6 q7 q8;go_wp2
         go_roundg (n5 - (1 + 1))
         case measure=>omega
         case rel=>exact ⟨1 + 1,vl7,L7,V9,m9,vt9,T9,by omega,by omega,by go_num,M9.out,LX.out,X9.out,B9.out,S9.out,E9.out⟩
        ·have hze : (z == 1) = false:=by simp [hz]
         clear hz;have hsp:=space_any MX.out BX5.out (by rw [HL5.out]; omega)
         go_wp2_with fail;refine hsp.mono ?_;clear hsp;rintro e W9 ⟨⟨v,rfl⟩,vl9,L9,V9,m9,vt9,T9,l9,q1,q2,q3,q4,⟨q5,q6,q7,q8⟩,q9,q10⟩;have M9 : Hid (Mk w hi W9 b vl9 L9 V9 m9 vt9 T9):=q1;have LL9 : Hid (Less L L9):=LX.out.trans q2;have X9 : Hid (BoxT W9 w.heap.size 40 [.slice none 0 0,.int .i64 0,.slice none 0 0,.slice none 0 0,.slice none 0 0,.slice none 0 0,.slice none 0 0,.slice none 0 0,.int .i64 0,.slice none 0 0,.slice none 0 0]):=q3.1 _ _ _ XX.out loc_mach;have B9 : Hid (BInv m9 T9):=q4;have S9 : Hid (m9.sp.length = 1 + 1∧(∀ s∈m9.sp,FilesIn m9.fl.length s.ars∧areaTo s.ars 64≤12)∧m9.hand = 0∧m9.fs.length = nf∧(m9.fl.length≤2∧∀ f∈m9.fl,f.size < 40)):=show _∧_ from ⟨by rw [q5,List.length_append,HL5.out]; rfl,fun s hs=>by
          rw [q5] at hs;rw [q6]
          rcases List.mem_append.1 hs with hs | hs
          ·exact S5.out.2.1 s hs
          ·simp only [List.mem_cons,List.not_mem_nil,or_false] at hs;rw [hs];exact q9,q7.trans S5.out.2.2.1,q8.trans S5.out.2.2.2.1,by rw [q6]; exact S5.out.2.2.2.2⟩
         have E9 : Hid (L = []→m9 = newMk nf ns nb (1 + 1)∧T9 = List.replicate (1 + 1) (fun _=>en0)):=show _→_ from fun e=>absurd e HL1.out
         clear q1 q2 q3 q4 q5 q6 q7 q8 q9 q10;go_wp2
         go_roundg (n5 - (1 + 1))
         case measure=>omega
         case rel=>exact ⟨1 + 1,vl9,L9,V9,m9,vt9,T9,by omega,by omega,by go_num,M9.out,LL9.out,X9.out,B9.out,S9.out,E9.out⟩
       ·obtain rfl : k5 = 0:=by omega
        have h1e : ((((0 : Nat) : Int)) == 1) = false:=by decide
        have hsp:=space_any MX.out BX5.out (by rw [HL5.out]; omega)
        go_wp2_with fail;refine hsp.mono ?_;clear hsp;rintro e W9 ⟨⟨v,rfl⟩,vl9,L9,V9,m9,vt9,T9,l9,q1,q2,q3,q4,⟨q5,q6,q7,q8⟩,q9,q10⟩;have M9 : Hid (Mk w hi W9 b vl9 L9 V9 m9 vt9 T9):=q1;have LL9 : Hid (Less L L9):=LX.out.trans q2;have X9 : Hid (BoxT W9 w.heap.size 40 [.slice none 0 0,.int .i64 0,.slice none 0 0,.slice none 0 0,.slice none 0 0,.slice none 0 0,.slice none 0 0,.slice none 0 0,.int .i64 0,.slice none 0 0,.slice none 0 0]):=q3.1 _ _ _ XX.out loc_mach;have B9 : Hid (BInv m9 T9):=q4;have S9 : Hid (m9.sp.length = 0 + 1∧(∀ s∈m9.sp,FilesIn m9.fl.length s.ars∧areaTo s.ars 64≤12)∧m9.hand = 0∧m9.fs.length = nf∧(m9.fl.length≤2∧∀ f∈m9.fl,f.size < 40)):=show _∧_ from ⟨by rw [q5,List.length_append,HL5.out]; rfl,fun s hs=>by
         rw [q5] at hs;rw [q6]
         rcases List.mem_append.1 hs with hs | hs
         ·exact S5.out.2.1 s hs
         ·simp only [List.mem_cons,List.not_mem_nil,or_false] at hs;rw [hs];exact q9,q7.trans S5.out.2.2.1,q8.trans S5.out.2.2.2.1,by rw [q6]; exact S5.out.2.2.2.2⟩
        have E9 : Hid (L = []→m9 = newMk nf ns nb (0 + 1)∧T9 = List.replicate (0 + 1) (fun _=>en0)):=show _→_ from fun e=>by
         obtain ⟨a1,a2⟩:=q10 (LX.out e);obtain ⟨b1,b2⟩:=E5.out e;rw [b1] at a1;rw [b2] at a2;exact ⟨a1,a2⟩
        clear q1 q2 q3 q4 q5 q6 q7 q8 q9 q10;go_wp2
        go_roundg (n5 - (0 + 1))
        case measure=>omega
        case rel=>exact ⟨0 + 1,vl9,L9,V9,m9,vt9,T9,by omega,by omega,by go_num,M9.out,LL9.out,X9.out,B9.out,S9.out,E9.out⟩
      ·have hltz5 : ¬ (k5 : Int) < (n5 : Int):=by omega
       obtain ⟨ys0,z1,z2,-⟩:=MX.out.rows.sp;have HN5 : Hid (V5.sp.n = k5):=show _ = _ by rw [z1.n,z2,HL5.out]
       obtain ⟨ht,HHT⟩ : ∃ ht,Hid (wr.heap.size = ht):=⟨_,rfl⟩;have HBT : Hid (b < ht):=show _ < _ by rw [←HHT.out]; exact MX.out.box.box.lt
       have HXT : Hid (w.heap.size < ht):=show _ < _ by rw [←HHT.out]; exact XX.out.box.lt
       have HZ1 : Hid (∀ g,(Value.slice V5.sp.a V5.sp.n V5.sp.c).ownBlock = some g→g < ht):=show ∀ g,_ from fun g hg=>by rw [←HHT.out]; exact (z1.lt g hg).2
       have NX : Hid (Nums w wr b vl5 L5 [.slice V5.f.a V5.f.n V5.f.c,.int .i64 m5.hand,.slice V5.s.a V5.s.n V5.s.c,.slice V5.sb.a V5.sb.n V5.sb.c,.slice V5.sq.a V5.sq.n V5.sq.c,.slice V5.db.a V5.db.n V5.db.c,.slice V5.dq.a V5.dq.n V5.dq.c,.slice V5.fl.a V5.fl.n V5.fl.c,.int .i64 m5.cnt,.slice V5.ca.a V5.ca.n V5.ca.c,.slice V5.sp.a V5.sp.n V5.sp.c,.slice vt5.a vt5.n vt5.c]):=MX.out.nums;have TX : Hid (MkT w.heap.size hi ht 0 wr V5 m5 vt5 T5):=MX.out.rows.start ht;have HTL : Hid (T5.length = k5):=show _ = _ by rw [BX5.out.tl,HL5.out]
       have HK : Hid (∀ (p : Nat) f,T5[p]? = some f→∀ e∈tab f,0≤e.kind):=show ∀ p,_ from fun p f hf e he=>by
        obtain ⟨j,hj⟩:=List.getElem?_of_mem he;have hj64 : j < 64:=by have:=(List.getElem?_eq_some_iff.1 hj).1; rw [tab_len] at this; exact this
        rw [tab_at hj64] at hj;cases hj;have hp : p < m5.sp.length:=by rw [←BX5.out.tl]; exact (List.getElem?_eq_some_iff.1 hf).1
        rcases BX5.out.ent p _ f (List.getElem?_eq_getElem hp) hf j hj64 with e | e
        ·rw [e]; decide
        ·by_cases hk : (f j).kind = 2
         ·omega
         ·have:=(entE_present e hk).1;omega
       have x11:=MX.out.box.box.c 11 rfl;rw [HN5.out] at x11;clear z1 z2 ys0;go_wp2;clear x11
       go_loopg [200] k5 (fun gg s200 wr=>∃ p : Nat,p≤k5∧k5 - p≤gg∧s200 = .int .i64 p∧Hid (MkT w.heap.size hi ht p wr V5 m5 vt5 T5)∧Hid (Nums w wr b vl5 L5 [.slice V5.f.a V5.f.n V5.f.c,.int .i64 m5.hand,.slice V5.s.a V5.s.n V5.s.c,.slice V5.sb.a V5.sb.n V5.sb.c,.slice V5.sq.a V5.sq.n V5.sq.c,.slice V5.db.a V5.db.n V5.db.c,.slice V5.dq.a V5.dq.n V5.dq.c,.slice V5.fl.a V5.fl.n V5.fl.c,.int .i64 m5.cnt,.slice V5.ca.a V5.ca.n V5.ca.c,.slice V5.sp.a V5.sp.n V5.sp.c,.slice vt5.a vt5.n vt5.c])∧Hid (BoxT wr w.heap.size 40 [.slice none 0 0,.int .i64 0,.slice none 0 0,.slice none 0 0,.slice none 0 0,.slice none 0 0,.slice none 0 0,.slice none 0 0,.int .i64 0,.slice none 0 0,.slice none 0 0])∧Hid (ht≤wr.heap.size))
       case atStart=>exact ⟨0,Nat.zero_le _,by omega,rfl,TX.out,NX.out,XX.out,(show _≤_ by rw [HHT.out]; exact Nat.le_refl _)⟩
       case round =>
        obtain ⟨p,hp,hg6,rfl,TW,NW,XW,HW⟩:=hrel;clear TX NX XX
        by_cases hlt6 : p < k5
        ·have hltz6 : (p : Int) < (k5 : Int):=by omega
         obtain ⟨f,HF⟩ : ∃ f,Hid (T5[p]? = some f):=⟨_,List.getElem?_eq_getElem (by rw [HTL.out]; exact hlt6)⟩
         obtain ⟨ys,s1,s2,s3⟩:=TW.out.sp;have hyl : ys.length = k5:=by rw [s2,HL5.out]
         obtain ⟨x,HX⟩ : ∃ x,Hid (ys[p]? = some x):=⟨_,List.getElem?_eq_getElem (by omega)⟩
         obtain ⟨gs,cs,hse⟩:=s1.formS (by omega)
         rw [hyl] at hse;have HSE : Hid (Value.slice V5.sp.a V5.sp.n V5.sp.c = (.slice (some ⟨gs,0,none⟩) k5 cs)):=hse;obtain ⟨gt,ct,hte⟩:=TW.out.tt.formS (by rw [HTL.out]; omega)
         rw [HTL.out] at hte;have HTE : Hid (Value.slice vt5.a vt5.n vt5.c = (.slice (some ⟨gt,0,none⟩) k5 ct)):=hte;have S1 : Hid (OwnRow spcE w.heap.size wr (.slice (some ⟨gs,0,none⟩) k5 cs) ys):=show OwnRow _ _ _ _ _ by rw [←HSE.out]; exact s1
         have R1 : Hid (OwnRow flaE w.heap.size wr (.slice (some ⟨gt,0,none⟩) k5 ct) T5):=show OwnRow _ _ _ _ _ by rw [←HTE.out]; exact TW.out.tt
         have S2 : Hid (ys.length = m5.sp.length):=s2;have S3 : Hid (∀ (i : Nat) x s f,ys[i]? = some x→m5.sp[i]? = some s→T5[i]? = some f→x.live = s.live∧OwnRow arE w.heap.size wr x.ar.v s.ars∧(i < p→TabS 0 ht wr x.tab (tabOf f))∧(p≤i→x.tab = nil8)):=show ∀ i,_ from s3
         clear s1 s2 s3 hse hte hyl;go_upto_region 43 with fail;obtain ⟨I,HI⟩ : ∃ I : World→Prop,Hid (∀ u,I u↔Grew wr u):=⟨fun u=>Grew wr u,fun _=>Iff.rfl⟩
         have hI0 : I wr.drew:=(HI.out _).2 (show Below _ _ _ from (Below.refl _ _).drew)
         have hx11 : ∀ y : HoldI I,y.world.cell? ⟨b,11,none⟩ = some (.slice (some ⟨gs,0,none⟩) k5 cs):=fun y=>by
          have:=(NW.out.box.box.grew ((HI.out _).1 y.holds)).c 11 rfl;rw [HSE.out] at this;exact this
         have hx12 : ∀ y : HoldI I,y.world.cell? ⟨b,12,none⟩ = some (.slice (some ⟨gt,0,none⟩) k5 ct):=fun y=>by
          have:=(NW.out.box.box.grew ((HI.out _).1 y.holds)).c 12 rfl;rw [HTE.out] at this;exact this
         have hne : Nonempty (HoldI I):=⟨⟨_,hI0⟩⟩;refine wp_lax_tailD (I:=I) 16 [(13,fun v=>∃ us : List Value,v = .agg us.toArray)] (fun _=>True) hI0 trivial mixed (by kernel_rfl) rfl rfl (by decide) ?hS (by kernel_rfl) ?_
         case hS =>
          intro x hx;simp only [List.mem_cons,List.not_mem_nil,or_false] at hx;subst hx;exact ⟨_,[],rfl⟩
         simp only [List.take,List.drop];iterate 1 (refine laxD_quiet rfl rfl rfl (fun K hK=>?_); go_big_quiet_op; refine hK _ ?_; clear hK K)
         refine laxD_nilc (.tmp 203) ⟨b,0,none⟩ rfl rfl rfl rfl ?_;simp only [Act.put,List.setIfInBounds_toArray,List.set_cons_succ,List.set_cons_zero];iterate 5 (refine laxD_quiet rfl rfl rfl (fun K hK=>?_); go_big_quiet_op; refine hK _ ?_; clear hK K)
         refine laxD_nilc (.tmp 209) ⟨b,0,none⟩ rfl rfl rfl rfl ?_;simp only [Act.put,List.setIfInBounds_toArray,List.set_cons_succ,List.set_cons_zero];iterate 4 (refine laxD_quiet rfl rfl rfl (fun K hK=>?_); go_big_quiet_op; refine hK _ ?_; clear hK K)
         refine laxD_val (.agg (cellsL (tab f)).toArray) rfl rfl (fun u hu=>run_flatMid (.tmp 214) rfl gt (p * 192) rfl ((R1.out.grew ((HI.out _).1 hu)).range HF.out) (by rw [cellsL_len,tab_len])) ?_
         simp only [Act.put,List.setIfInBounds_toArray,List.set_cons_succ,List.set_cons_zero];refine laxD_spec rfl rfl (fun v u=>∃ us : List Value,v = .agg us.toArray∧TabS 0 ht u us (tabOf f)) (fun w' hI' _=>?_) (fun v1 hv=>?_)
         ·refine Does.call [.agg (cellsL (tab f)).toArray] rfl Tryz.func34 rfl rfl rfl ?_;refine (tableOf_any (tab f) w' (tab_len f) (HK.out p f HF.out)).mono ?_;rintro e w'' ⟨us,rfl,ht1,ht2⟩;exact ⟨_,rfl,(HI.out _).2 (((HI.out _).1 hI').trans ht2),⟨us,rfl⟩,us,rfl,ht1.less (Nat.le_refl _) (Nat.le_trans HW.out (Below.size ((HI.out _).1 hI')))⟩
         obtain ⟨us,rfl⟩:=hv;simp only [Act.put,List.setIfInBounds_toArray,List.set_cons_succ,List.set_cons_zero];iterate 2 (refine laxD_quiet rfl rfl rfl (fun K hK=>?_); go_big_quiet_op; refine hK _ ?_; clear hK K)
         refine laxD_nil fun W1 hI1 hF1=>?_
         obtain ⟨us',hus,ht1⟩:=hF1;have hue : us = us':=by
          simp only [Value.agg.injEq] at hus
          simpa using congrArg Array.toList hus
         subst hue;obtain ⟨t0,t1,t2,t3,t4,t5,t6,t7,rfl⟩:=tabS_form ht1;have g1:=(HI.out _).1 hI1;have T1 : Hid (TabS 0 ht W1 [t0.v,t1.v,t2.v,t3.v,t4.v,t5.v,t6.v,t7.v] (tabOf f)):=ht1;have G1 : Hid (Grew wr W1):=g1;clear hus ht1 g1 hI1 hI0 hx11 hx12 hne HI;refine wpList_store_part (E:=spcE) rfl (.tmp 218) (.tmp 216) 63 rfl w.heap.size _ ys (S1.out.grew G1.out) gs p 2 rfl x ⟨x.live,x.ar,t0,t1,t2,t3,t4,t5,t6,t7⟩ HX.out [t0.v,t1.v,t2.v,t3.v,t4.v,t5.v,t6.v,t7.v] (by kernel_rfl) rfl (by show 2 + 8≤10; omega) (fun u hu=>by simp only [List.mem_cons,List.not_mem_nil,or_false] at hu; rcases hu with rfl | rfl | rfl | rfl | rfl | rfl | rfl | rfl <;> rfl) _ rfl (by first | rfl | simp) _ rfl rfl ?_
         intro W2 ow2 gr2 sz2;obtain ⟨cs',hcs⟩:=(S1.out.grew G1.out).obj (g:=gs) rfl;have hgl : gs < ht:=HZ1.out gs (by rw [HSE.out]; rfl)
         have T2 : Hid (MkT w.heap.size hi ht (p + 1) W2 V5 m5 vt5 T5):=(TW.out.grew G1.out).table S2.out (fun i x s f hx hs hf=>by
          obtain ⟨a1,a2,a3,a4⟩:=S3.out i x s f hx hs hf;exact ⟨a1,a2.grew G1.out,fun e=>(a3 e).grew G1.out,a4⟩) hcs hgl gr2 HX.out HF.out (y:=⟨x.live,x.ar,t0,t1,t2,t3,t4,t5,t6,t7⟩) ⟨rfl,rfl⟩ (T1.out.out (Out.grown gr2 (fun g e=>by cases e; exact ⟨Nat.zero_le _,hgl⟩))) (by rw [HSE.out]; exact ow2)
         have N2 : Hid (Nums w W2 b vl5 L5 [.slice V5.f.a V5.f.n V5.f.c,.int .i64 m5.hand,.slice V5.s.a V5.s.n V5.s.c,.slice V5.sb.a V5.sb.n V5.sb.c,.slice V5.sq.a V5.sq.n V5.sq.c,.slice V5.db.a V5.db.n V5.db.c,.slice V5.dq.a V5.dq.n V5.dq.c,.slice V5.fl.a V5.fl.n V5.fl.c,.int .i64 m5.cnt,.slice V5.ca.a V5.ca.n V5.ca.c,.slice V5.sp.a V5.sp.n V5.sp.c,.slice vt5.a vt5.n vt5.c]):=show Nums _ _ _ _ _ _ from ⟨grew_grown (NW.out.gr.trans G1.out) gr2 ((S1.out.grew G1.out).lt gs rfl).1,NW.out.hb,(NW.out.box.grew G1.out).beside gr2 (fun g e=>by cases e; exact (S1.out.grew G1.out).ne (NW.out.box.grew G1.out) (by decide) gs rfl),NW.out.lr,NW.out.lc,NW.out.lb⟩
         have X2 : Hid (BoxT W2 w.heap.size 40 [.slice none 0 0,.int .i64 0,.slice none 0 0,.slice none 0 0,.slice none 0 0,.slice none 0 0,.slice none 0 0,.slice none 0 0,.int .i64 0,.slice none 0 0,.slice none 0 0]):=(XW.out.grew G1.out).beside gr2 (fun g e=>by cases e; exact (S1.out.grew G1.out).ne (XW.out.grew G1.out) (by decide) gs rfl)
         have H2 : Hid (ht≤W2.heap.size):=show _≤_ by rw [sz2]; exact Nat.le_trans HW.out (Below.size G1.out)
         clear ow2 gr2 sz2 hcs hgl;go_wp2
         go_roundg (k5 - (p + 1))
         case measure=>omega
         case rel=>exact ⟨p + 1,by omega,by omega,by go_num,T2.out,N2.out,X2.out,H2.out⟩
        ·have hltz6 : ¬ (p : Int) < (k5 : Int):=by omega
         obtain rfl : k5 = p:=by omega
         have HSPL : Hid (1≤m5.sp.length∧m5.sp.length≤2):=show _∧_ by rw [HL5.out]; omega
         by_cases h0 : 0 < nf
         ·have h0d : decide ((0 : Int) < (nf : Int)) = true:=by simp; omega
          have hpk:=pick_raw (nf : Int) NW.out;go_wp2_with fail;refine hpk.mono ?_;clear hpk;rintro e W20 ⟨vl20,L20,y,rfl,nm20,gr20,-,y0,y1,yn,-⟩;have T20 : Hid (MkT w.heap.size hi ht k5 W20 V5 m5 vt5 T5):=TW.out.other gr20 NW.out.box HBT.out (.inl rfl);have X20 : Hid (BoxT W20 w.heap.size 40 [.slice none 0 0,.int .i64 0,.slice none 0 0,.slice none 0 0,.slice none 0 0,.slice none 0 0,.slice none 0 0,.slice none 0 0,.int .i64 0,.slice none 0 0,.slice none 0 0]):=XW.out.kind gr20 NW.out.box (by decide)
          have N20 : Hid (Nums w W20 b vl20 L20 [.slice V5.f.a V5.f.n V5.f.c,.int .i64 m5.hand,.slice V5.s.a V5.s.n V5.s.c,.slice V5.sb.a V5.sb.n V5.sb.c,.slice V5.sq.a V5.sq.n V5.sq.c,.slice V5.db.a V5.db.n V5.db.c,.slice V5.dq.a V5.dq.n V5.dq.c,.slice V5.fl.a V5.fl.n V5.fl.c,.int .i64 m5.cnt,.slice V5.ca.a V5.ca.n V5.ca.c,.slice V5.sp.a V5.sp.n V5.sp.c,.slice vt5.a vt5.n vt5.c]):=nm20;have HY : Hid (0≤y∧y < max (m5.fs.length : Int) 1):=show _∧_ from ⟨y0,by rw [S5.out.2.2.2.1]; omega⟩
          have HY0 : Hid (L = []→y = 0):=show _→_ from fun e=>yn (LX.out e)
          clear nm20 gr20 y0 y1 yn TW XW;have x2:=N20.out.box.box.c 2 rfl;have xf:=N20.out.box.box.f;go_upto_region 47 with fail;clear x2 xf;obtain ⟨W21,hW21⟩ : ∃ W21,W20.setCell ⟨b,2,none⟩ (.int .i64 y) = W21:=⟨_,rfl⟩;have hg21 : W20.grownBy W21 (some b):=by rw [←hW21]; exact set_grown _ _ _ _
          have B21 : Hid (BoxT W21 b 91 [.slice vl20.a vl20.n vl20.c,.slice V5.f.a V5.f.n V5.f.c,.int .i64 y,.slice V5.s.a V5.s.n V5.s.c,.slice V5.sb.a V5.sb.n V5.sb.c,.slice V5.sq.a V5.sq.n V5.sq.c,.slice V5.db.a V5.db.n V5.db.c,.slice V5.dq.a V5.dq.n V5.dq.c,.slice V5.fl.a V5.fl.n V5.fl.c,.int .i64 m5.cnt,.slice V5.ca.a V5.ca.n V5.ca.c,.slice V5.sp.a V5.sp.n V5.sp.c,.slice vt5.a vt5.n vt5.c]):=show BoxT _ _ _ _ by rw [←hW21]; exact N20.out.box.set 2 _
          have T21 : Hid (MkT w.heap.size hi ht k5 W21 V5 m5 vt5 T5):=T20.out.other hg21 N20.out.box HBT.out (.inl rfl);have X21 : Hid (BoxT W21 w.heap.size 40 [.slice none 0 0,.int .i64 0,.slice none 0 0,.slice none 0 0,.slice none 0 0,.slice none 0 0,.slice none 0 0,.slice none 0 0,.int .i64 0,.slice none 0 0,.slice none 0 0]):=X20.out.kind hg21 N20.out.box (by decide)
          have G21 : Hid (Grew w W21):=grew_grown N20.out.gr hg21 N20.out.hb;rw [hW21];clear hW21 hg21 T20 X20 N20 NW;have c1:=B21.out.box.c 1 rfl;have c2:=B21.out.box.c 2 rfl;have c3:=B21.out.box.c 3 rfl;have c4:=B21.out.box.c 4 rfl;have c5:=B21.out.box.c 5 rfl;have c6:=B21.out.box.c 6 rfl;have c7:=B21.out.box.c 7 rfl;have c8:=B21.out.box.c 8 rfl;have c9:=B21.out.box.c 9 rfl;have c10:=B21.out.box.c 10 rfl;have c11:=B21.out.box.c 11 rfl
          go_wp2_with (refine wp_storeAllT rfl 40 (.tmp 8) (.tmp 233) rfl w.heap.size rfl [.slice V5.f.a V5.f.n V5.f.c,.int .i64 y,.slice V5.s.a V5.s.n V5.s.c,.slice V5.sb.a V5.sb.n V5.sb.c,.slice V5.sq.a V5.sq.n V5.sq.c,.slice V5.db.a V5.db.n V5.db.c,.slice V5.dq.a V5.dq.n V5.dq.c,.slice V5.fl.a V5.fl.n V5.fl.c,.int .i64 m5.cnt,.slice V5.ca.a V5.ca.n V5.ca.c,.slice V5.sp.a V5.sp.n V5.sp.c] rfl X21.out rfl Tryz.sizeMachine (fun v hv=>by simp only [List.mem_cons,List.not_mem_nil,or_false] at hv; rcases hv with rfl | rfl | rfl | rfl | rfl | rfl | rfl | rfl | rfl | rfl | rfl <;> rfl) ?_)
          intro W22 hb22 hg22 _;have HRS : Hid (Built w nf ns nb L W22 V5 m5 T5 y hi ht vt5):=show Built _ _ _ _ _ _ _ _ _ _ _ _ _ from ⟨grew_grown G21.out hg22 (Nat.le_refl _),by rw [HL5.out]; exact T21.out.other hg22 X21.out HXT.out (.inr rfl),BX5.out,HY.out,S5.out.2.1,S5.out.2.2.2.2,HSPL.out,S5.out.2.2.2.1,fun e=>by obtain ⟨a1,a2⟩:=E5.out e; have h1:=HN1.out e; have h2 : k5 = 1:=(by omega); rw [h2] at a1 a2; exact ⟨a1,a2,HY0.out e⟩⟩
          have B22 : Hid (Box W22 w.heap.size [.slice V5.f.a V5.f.n V5.f.c,.int .i64 y,.slice V5.s.a V5.s.n V5.s.c,.slice V5.sb.a V5.sb.n V5.sb.c,.slice V5.sq.a V5.sq.n V5.sq.c,.slice V5.db.a V5.db.n V5.db.c,.slice V5.dq.a V5.dq.n V5.dq.c,.slice V5.fl.a V5.fl.n V5.fl.c,.int .i64 m5.cnt,.slice V5.ca.a V5.ca.n V5.ca.c,.slice V5.sp.a V5.sp.n V5.sp.c]):=hb22.box;clear hb22 hg22;clear c1 c2 c3 c4 c5 c6 c7 c8 c9 c10 c11;go_wp2;refine bodyPost_ret (ret_cell rfl _ rfl B22.out Tryz.underlying40 rfl Tryz.sizeMachine) rfl ⟨V5,m5,T5,y,hi,ht,vt5,rfl,HRS.out⟩
         ·have h0d : decide ((0 : Int) < (nf : Int)) = false:=by simp; omega
          have B21 : Hid (BoxT wr b 91 [.slice vl5.a vl5.n vl5.c,.slice V5.f.a V5.f.n V5.f.c,.int .i64 0,.slice V5.s.a V5.s.n V5.s.c,.slice V5.sb.a V5.sb.n V5.sb.c,.slice V5.sq.a V5.sq.n V5.sq.c,.slice V5.db.a V5.db.n V5.db.c,.slice V5.dq.a V5.dq.n V5.dq.c,.slice V5.fl.a V5.fl.n V5.fl.c,.int .i64 m5.cnt,.slice V5.ca.a V5.ca.n V5.ca.c,.slice V5.sp.a V5.sp.n V5.sp.c,.slice vt5.a vt5.n vt5.c]):=show BoxT _ _ _ _ by have:=NW.out.box; rw [S5.out.2.2.1] at this; exact this
          have G21 : Hid (Grew w wr):=NW.out.gr;have HY : Hid ((0 : Int)≤0∧(0 : Int) < max (m5.fs.length : Int) 1):=show _∧_ from ⟨Int.le_refl _,by omega⟩
          have c1:=B21.out.box.c 1 rfl;have c2:=B21.out.box.c 2 rfl;have c3:=B21.out.box.c 3 rfl;have c4:=B21.out.box.c 4 rfl;have c5:=B21.out.box.c 5 rfl;have c6:=B21.out.box.c 6 rfl;have c7:=B21.out.box.c 7 rfl;have c8:=B21.out.box.c 8 rfl;have c9:=B21.out.box.c 9 rfl;have c10:=B21.out.box.c 10 rfl;have c11:=B21.out.box.c 11 rfl
          go_wp2_with (refine wp_storeAllT rfl 40 (.tmp 8) (.tmp 233) rfl w.heap.size rfl [.slice V5.f.a V5.f.n V5.f.c,.int .i64 0,.slice V5.s.a V5.s.n V5.s.c,.slice V5.sb.a V5.sb.n V5.sb.c,.slice V5.sq.a V5.sq.n V5.sq.c,.slice V5.db.a V5.db.n V5.db.c,.slice V5.dq.a V5.dq.n V5.dq.c,.slice V5.fl.a V5.fl.n V5.fl.c,.int .i64 m5.cnt,.slice V5.ca.a V5.ca.n V5.ca.c,.slice V5.sp.a V5.sp.n V5.sp.c] rfl XW.out rfl Tryz.sizeMachine (fun v hv=>by simp only [List.mem_cons,List.not_mem_nil,or_false] at hv; rcases hv with rfl | rfl | rfl | rfl | rfl | rfl | rfl | rfl | rfl | rfl | rfl <;> rfl) ?_)
          intro W22 hb22 hg22 _;have HRS : Hid (Built w nf ns nb L W22 V5 m5 T5 0 hi ht vt5):=show Built _ _ _ _ _ _ _ _ _ _ _ _ _ from ⟨grew_grown G21.out hg22 (Nat.le_refl _),by rw [HL5.out]; exact TW.out.other hg22 XW.out HXT.out (.inr rfl),BX5.out,HY.out,S5.out.2.1,S5.out.2.2.2.2,HSPL.out,S5.out.2.2.2.1,fun e=>by obtain ⟨a1,a2⟩:=E5.out e; have h1:=HN1.out e; have h2 : k5 = 1:=(by omega); rw [h2] at a1 a2; exact ⟨a1,a2,rfl⟩⟩
          have B22 : Hid (Box W22 w.heap.size [.slice V5.f.a V5.f.n V5.f.c,.int .i64 0,.slice V5.s.a V5.s.n V5.s.c,.slice V5.sb.a V5.sb.n V5.sb.c,.slice V5.sq.a V5.sq.n V5.sq.c,.slice V5.db.a V5.db.n V5.db.c,.slice V5.dq.a V5.dq.n V5.dq.c,.slice V5.fl.a V5.fl.n V5.fl.c,.int .i64 m5.cnt,.slice V5.ca.a V5.ca.n V5.ca.c,.slice V5.sp.a V5.sp.n V5.sp.c]):=hb22.box;clear hb22 hg22;clear c1 c2 c3 c4 c5 c6 c7 c8 c9 c10 c11;go_wp2;refine bodyPost_ret (ret_cell rfl _ rfl B22.out Tryz.underlying40 rfl Tryz.sizeMachine) rfl ⟨V5,m5,T5,0,hi,ht,vt5,rfl,HRS.out⟩
section
variable {base : Nat} {w w' : World} {V : MaV} {m : Ma}
theorem OwnFiles.kind {lo g : Nat} {t : TypeId} {cs : Array Value} {v : Value} {fs : List Fl} (h : OwnFiles lo w v fs) (hg : w.grownBy w' (some g)) (ho : w.heap[g]? = some (.cells cs t (0,0))) (h1 : t≠71) (h2 : t≠3∨g < lo) : OwnFiles lo w' v fs:=by
 obtain ⟨xs,k1,k2,k3,k4⟩:=h;refine ⟨xs,k1.kind hg ho h1,k2,fun i x f hx hf=>⟨(k3 i x f hx hf).1,?_⟩,k4⟩
 rcases h2 with h2 | h2
 ·exact (k3 i x f hx hf).2.kind hg ho h2
 ·exact (k3 i x f hx hf).2.low hg h2
theorem OwnSps.kind {g : Nat} {t : TypeId} {cs : Array Value} {v : Value} {ss : List Sp} (h : OwnSps base w v ss) (hg : w.grownBy w' (some g)) (ho : w.heap[g]? = some (.cells cs t (0,0))) (h1 : t≠65) (h2 : t≠69) (h3 : t≠67) : OwnSps base w' v ss:=by
 obtain ⟨xs,B,s1,s2,s3,s4,s5⟩:=h;exact ⟨xs,B,s1.kind hg ho h1,s2,s3,s4,fun i x s hx hs=>(s5 i x s hx hs).beside hg ho h2 h3⟩
theorem OwnM.setF (h : OwnM base w V m) {g : Nat} (hv : (Value.slice V.f.a V.f.n V.f.c).ownBlock = some g) (hg : w.grownBy w' (some g)) {fs : List Fr} (ho : OwnRow frmE base w' (.slice V.f.a V.f.n V.f.c) fs) : OwnM base w' V { m with fs:=fs }:=by
 obtain ⟨cs,hc⟩:=h.fs.obj hv;obtain ⟨lo,hf,l1,l2⟩:=h.fl;exact ⟨ho,h.sl.kind hg hc (by decide),⟨ownsRow_kind h.sb.1 hg hc (by decide),h.sb.2⟩,⟨ownsRow_kind h.sq.1 hg hc (by decide),h.sq.2⟩,⟨ownsRow_kind h.db.1 hg hc (by decide),h.db.2⟩,⟨ownsRow_kind h.dq.1 hg hc (by decide),h.dq.2⟩,⟨lo,hf.kind hg hc (by decide) (.inl (by decide)),l1,l2⟩,h.ca.kind hg hc (by decide),h.sp.kind hg hc (by decide) (by decide) (by decide),h.ap⟩
theorem OwnM.setS (h : OwnM base w V m) {g : Nat} (hv : (Value.slice V.s.a V.s.n V.s.c).ownBlock = some g) (hg : w.grownBy w' (some g)) {sl : List Int} (ho : OwnRow slE base w' (.slice V.s.a V.s.n V.s.c) sl) : OwnM base w' V { m with sl:=sl }:=by
 obtain ⟨cs,hc⟩:=h.sl.obj hv;obtain ⟨lo,hf,l1,l2⟩:=h.fl;exact ⟨h.fs.kind hg hc (by decide),ho,⟨ownsRow_kind h.sb.1 hg hc (by decide),h.sb.2⟩,⟨ownsRow_kind h.sq.1 hg hc (by decide),h.sq.2⟩,⟨ownsRow_kind h.db.1 hg hc (by decide),h.db.2⟩,⟨ownsRow_kind h.dq.1 hg hc (by decide),h.dq.2⟩,⟨lo,hf.kind hg hc (by decide) (.inr (l2 g hv)),l1,l2⟩,h.ca.kind hg hc (by decide),h.sp.kind hg hc (by decide) (by decide) (by decide),h.ap⟩
end
def RightSp (m : Ma) : Prop:=∀ s∈m.sp,(wrL s.ars).1 = 0∧tbW s.tb = 0
theorem rightSp {m : Ma} (h : wSpaces m = 0) : RightSp m:=fun s hs=>by
 unfold wSpaces at h
 split at h
 ·cases h
 ·have:=firstE_zero.1 h (spE s) (List.mem_map.2 ⟨s,hs,rfl⟩);unfold spE at this
  split at this
  ·rename_i a; exact absurd this a
  ·rename_i a
   split at this
   ·rename_i b; exact absurd this b
   ·rename_i b; exact ⟨by simpa using a,by simpa using b⟩
theorem flat_ok {s : Sp} (h : tbW s.tb = 0) (n : Nat) : enW (flatN s n) = 0:=by
 unfold flatN getN;have hall:=tbW_zero.1 h;have : HaOk (s.tb[n / 8]?.getD []):=by
  cases e : s.tb[n / 8]? with
  | none=>exact .inl rfl
  | some x=>exact hall x (List.mem_of_getElem? e)
 exact this.get (n % 8)
theorem get_flat {s : Sp} {n : Nat} (h : n < 64) : getT s.tb (n : Int) = flatN s n:=by
 unfold getT flatN;rw [if_pos (by omega),Int.toNat_natCast]
theorem pagesN_lt {s : Sp} {j n : Nat} (h : (pagesN s)[j]? = some n) : n < 64:=by
 have:=List.mem_of_getElem? h;unfold pagesN at this;rw [List.mem_filter,List.mem_range] at this;exact this.1
theorem canP_at : ∀ {l : List Ar} {p : Option Ar} {k : Nat} {a : Ar},CanP p l→l[k]? = some a→ArOk a
 | [],_,_,_,_,h=>by simp at h
 | b :: l,p,0,a,hc,h=>by
  simp at h
  subst h;exact hc.1
 | b :: l,p,k + 1,a,hc,h=>canP_at hc.2.2 (by simpa using h)
theorem wrongPagesM_any (V : MaV) (m : Ma) (w : World) (hm : MachAt w V m) (h1 : Right1 m) (h2 : RightSp m) :
  Calls Tryz.prog 39 #[.agg #[.slice V.f.a V.f.n V.f.c,.int .i64 m.hand,.slice V.s.a V.s.n V.s.c,.slice V.sb.a V.sb.n V.sb.c,.slice V.sq.a V.sq.n V.sq.c,.slice V.db.a V.db.n V.db.c,.slice V.dq.a V.dq.n V.dq.c,.slice V.fl.a V.fl.n V.fl.c,.int .i64 m.cnt,.slice V.ca.a V.ca.n V.ca.c,.slice V.sp.a V.sp.n V.sp.c]] w fun e w'=>e = .returned (.int .i64 (wPages m))∧Grew w w':=by
 have HWE : Hid (∀ (a : Ar) (n : Nat) (e : En) W,Grew w W→ArOk a→n≤64→0≤e.n→Calls Tryz.prog 86 #[.agg #[.slice V.f.a V.f.n V.f.c,.int .i64 m.hand,.slice V.s.a V.s.n V.s.c,.slice V.sb.a V.sb.n V.sb.c,.slice V.sq.a V.sq.n V.sq.c,.slice V.db.a V.db.n V.db.c,.slice V.dq.a V.dq.n V.dq.c,.slice V.fl.a V.fl.n V.fl.c,.int .i64 m.cnt,.slice V.ca.a V.ca.n V.ca.c,.slice V.sp.a V.sp.n V.sp.c],.agg #[.int .i64 a.fr,.int .i64 a.tz,.bool a.rd,.bool a.wr,.bool a.sh,.int .i64 a.file,.int .i64 a.base],.int .i64 (n : Int),.agg #[.int .i64 e.kind,.int .i64 e.n,.bool e.wr]] W fun e' w'=>e' = .returned (.int .i64 (wEntry m a n e))∧Grew W w'):=show ∀ (a : Ar) (n : Nat) (e : En) W,_ from fun a n e W hW ha hn he=>wrongEntryM_any V m a n e W (hm.grew hW) ha hn he
 have HM1 : Hid (memW m.fs m.hand = 0):=h1.mem;have HRS : Hid (RightSp m):=h2;obtain ⟨vf,vs,vsb,vsq,vdb,vdq,vfl,vca,⟨spa,spn,spc⟩⟩:=V;dsimp only at HWE ⊢;obtain ⟨-,-,-,-,-,-,-,-,n9⟩:=hm.ns;dsimp only at n9;obtain ⟨xs,hxl,hrow,hsp⟩:=hm.spaces;have HXL : Hid (xs.length = m.sp.length):=hxl;have HR : Hid (∀ (j : Nat) x,xs[j]? = some x→∃ ad,spa = some ad∧∀ W,Grew w W→Sp10 W (ad.add (j * 10)) x):=hrow;have HSP : Hid (∀ (i : Nat) x s,xs[i]? = some x→m.sp[i]? = some s→SpaceAt w x s):=hsp;have HN : Hid (m.sp.length = spn):=n9.symm;have hbig : spn≤9223372036854775807:=by
  obtain ⟨ys,k1,k2,_⟩:=hm.sp;have:=k1.short;omega
 obtain ⟨Z,HZ⟩ : ∃ Z,Hid (wPages m = Z):=⟨_,rfl⟩;rw [HZ.out];clear hm hxl hrow hsp n9 h1 h2;obtain ⟨W0,hW0⟩ : ∃ W0,w.alloc (.cells #[.slice vf.a vf.n vf.c,.int .i64 m.hand,.slice vs.a vs.n vs.c,.slice vsb.a vsb.n vsb.c,.slice vsq.a vsq.n vsq.c,.slice vdb.a vdb.n vdb.c,.slice vdq.a vdq.n vdq.c,.slice vfl.a vfl.n vfl.c,.int .i64 m.cnt,.slice vca.a vca.n vca.c,.slice spa spn spc] 40) = W0:=⟨_,rfl⟩;have HG0 : Hid (Grew w W0):=show Grew _ _ by rw [←hW0]; exact grew_alloc _ _
 have X0 : Hid (Box W0 w.heap.size [.slice vf.a vf.n vf.c,.int .i64 m.hand,.slice vs.a vs.n vs.c,.slice vsb.a vsb.n vsb.c,.slice vsq.a vsq.n vsq.c,.slice vdb.a vdb.n vdb.c,.slice vdq.a vdq.n vdq.c,.slice vfl.a vfl.n vfl.c,.int .i64 m.cnt,.slice vca.a vca.n vca.c,.slice spa spn spc]):=show Box _ _ _ by rw [←hW0]; exact Box.top _ _ _ rfl
 have HW0 : Hid (_ = W0):=hW0;clear hW0
 go_enter Tryz.func39,Tryz.ntmps39
 go_upto_region 1 with fail;rw [HW0.out];have x10:=X0.out.c 10 rfl;go_wp2;clear x10
 go_loopg [12] spn (fun gg s12 wr=>∃ kk : Nat,kk≤spn∧spn - kk≤gg∧s12 = .int .i64 kk∧Hid (Grew w wr)∧Hid (Box wr w.heap.size [.slice vf.a vf.n vf.c,.int .i64 m.hand,.slice vs.a vs.n vs.c,.slice vsb.a vsb.n vsb.c,.slice vsq.a vsq.n vsq.c,.slice vdb.a vdb.n vdb.c,.slice vdq.a vdq.n vdq.c,.slice vfl.a vfl.n vfl.c,.int .i64 m.cnt,.slice vca.a vca.n vca.c,.slice spa spn spc])∧Hid (∀ (j : Nat) s,j < kk→m.sp[j]? = some s→spEnt m s = 0))
 case atStart=>exact ⟨0,Nat.zero_le _,by omega,rfl,HG0.out,X0.out,fun j s hj=>absurd hj (Nat.not_lt_zero _)⟩
 case round =>
  obtain ⟨kk,hkk,hgg,rfl,BW,XW,OW⟩:=hrel;clear X0 HG0
  by_cases hlt : kk < spn
  ·have hltz : (kk : Int) < (spn : Int):=by omega
   obtain ⟨s,HS⟩ : ∃ s,Hid (m.sp[kk]? = some s):=⟨_,List.getElem?_eq_getElem (by rw [HN.out]; exact hlt)⟩
   obtain ⟨x,HX⟩ : ∃ x,Hid (xs[kk]? = some x):=⟨_,List.getElem?_eq_getElem (by rw [HXL.out,HN.out]; exact hlt)⟩
   have HAT : Hid (SpaceAt w x s):=HSP.out kk x s HX.out HS.out;obtain ⟨hok1,hok2⟩:=HRS.out s (List.mem_of_getElem? HS.out);have HCN : Hid (CanP none s.ars):=(wrL_zero.1 hok1).2;have HTB : Hid (tbW s.tb = 0):=hok2;have HAL : Hid (s.ars.length = x.ar.n):=HAT.out.ar.n.symm;have HAR : Hid (ArRows w x.ar.a s.ars):=show ArRows _ _ _ by
    obtain ⟨_,_,q1,q2⟩:=HAT.out.ar.ars;simp only [Value.slice.injEq] at q1;rw [q1.1];exact q2
   clear hok1 hok2;obtain ⟨ad,rfl,hl⟩:=HR.out kk x HX.out;obtain ⟨d0,d1,d2,d3,d4,d5,d6,d7,d8,d9⟩:=hl wr BW.out;clear hl;go_upto_region 4 with fail;obtain ⟨W1,hW1⟩ : ∃ W1,wr.alloc (.cells #[.bool x.live,.slice x.ar.a x.ar.n x.ar.c,.slice x.t0.a x.t0.n x.t0.c,.slice x.t1.a x.t1.n x.t1.c,.slice x.t2.a x.t2.n x.t2.c,.slice x.t3.a x.t3.n x.t3.c,.slice x.t4.a x.t4.n x.t4.c,.slice x.t5.a x.t5.n x.t5.c,.slice x.t6.a x.t6.n x.t6.c,.slice x.t7.a x.t7.n x.t7.c] 65) = W1:=⟨_,rfl⟩;have HG1 : Hid (Grew w W1):=show Grew _ _ by rw [←hW1]; exact BW.out.trans (grew_alloc _ _)
   have X1 : Hid (Box W1 w.heap.size [.slice vf.a vf.n vf.c,.int .i64 m.hand,.slice vs.a vs.n vs.c,.slice vsb.a vsb.n vsb.c,.slice vsq.a vsq.n vsq.c,.slice vdb.a vdb.n vdb.c,.slice vdq.a vdq.n vdq.c,.slice vfl.a vfl.n vfl.c,.int .i64 m.cnt,.slice vca.a vca.n vca.c,.slice (some ad) spn spc]):=show Box _ _ _ by rw [←hW1]; exact XW.out.alloc _
   have S1 : Hid (Box W1 wr.heap.size [.bool x.live,.slice x.ar.a x.ar.n x.ar.c,.slice x.t0.a x.t0.n x.t0.c,.slice x.t1.a x.t1.n x.t1.c,.slice x.t2.a x.t2.n x.t2.c,.slice x.t3.a x.t3.n x.t3.c,.slice x.t4.a x.t4.n x.t4.c,.slice x.t5.a x.t5.n x.t5.c,.slice x.t6.a x.t6.n x.t6.c,.slice x.t7.a x.t7.n x.t7.c]):=show Box _ _ _ by rw [←hW1]; exact Box.top _ _ _ rfl
   rw [hW1];clear hW1 d0 d1 d2 d3 d4 d5 d6 d7 d8 d9;obtain ⟨pb,HPB⟩ : ∃ pb,Hid (wr.heap.size = pb):=⟨_,rfl⟩;rw [HPB.out] at S1 ⊢;have hcall : Calls Tryz.prog 85 #[.agg #[.slice x.t0.a x.t0.n x.t0.c,.slice x.t1.a x.t1.n x.t1.c,.slice x.t2.a x.t2.n x.t2.c,.slice x.t3.a x.t3.n x.t3.c,.slice x.t4.a x.t4.n x.t4.c,.slice x.t5.a x.t5.n x.t5.c,.slice x.t6.a x.t6.n x.t6.c,.slice x.t7.a x.t7.n x.t7.c]] W1 fun e w'=>∃ v,e = .returned v∧OwnRow blE W1.heap.size w' v (pagesTo s.tb anyEn 64)∧Grew W1 w':=pagesTb_any x.tab s.tb W1 (HAT.out.grew HG1.out).tb
   have s2:=S1.out.c 2 rfl;have s3:=S1.out.c 3 rfl;have s4:=S1.out.c 4 rfl;have s5:=S1.out.c 5 rfl;have s6:=S1.out.c 6 rfl;have s7:=S1.out.c 7 rfl;have s8:=S1.out.c 8 rfl;have s9:=S1.out.c 9 rfl;go_wp2_with fail;refine hcall.mono ?_;clear hcall s2 s3 s4 s5 s6 s7 s8 s9;rintro e' W2 ⟨pv,rfl,ow2,hg2⟩;have HG2 : Hid (Grew w W2):=HG1.out.trans hg2;have X2 : Hid (Box W2 w.heap.size [.slice vf.a vf.n vf.c,.int .i64 m.hand,.slice vs.a vs.n vs.c,.slice vsb.a vsb.n vsb.c,.slice vsq.a vsq.n vsq.c,.slice vdb.a vdb.n vdb.c,.slice vdq.a vdq.n vdq.c,.slice vfl.a vfl.n vfl.c,.int .i64 m.cnt,.slice vca.a vca.n vca.c,.slice (some ad) spn spc]):=X1.out.grew hg2;have S2 : Hid (Box W2 pb [.bool x.live,.slice x.ar.a x.ar.n x.ar.c,.slice x.t0.a x.t0.n x.t0.c,.slice x.t1.a x.t1.n x.t1.c,.slice x.t2.a x.t2.n x.t2.c,.slice x.t3.a x.t3.n x.t3.c,.slice x.t4.a x.t4.n x.t4.c,.slice x.t5.a x.t5.n x.t5.c,.slice x.t6.a x.t6.n x.t6.c,.slice x.t7.a x.t7.n x.t7.c]):=S1.out.grew hg2;clear hg2;obtain ⟨pa,pc,rfl,hnr⟩:=ow2.at.nums;have hq0:=ow2.at.short;have HNR : Hid (NumRows W2 pa (pagesTo s.tb anyEn 64)):=hnr;rw [pagesTo_any,List.length_map] at hq0 ⊢;rw [pagesTo_any] at HNR;clear ow2 hnr;obtain ⟨q,HQ⟩ : ∃ q,Hid ((pagesN s).length = q):=⟨_,rfl⟩;rw [HQ.out] at hq0 ⊢;go_wp2;have HBW : Hid (Grew w wr):=BW;have HOW : Hid (∀ (j : Nat) s,j < kk→m.sp[j]? = some s→spEnt m s = 0):=OW;clear BW XW OW
   go_loopg [20] q (fun gg s20 wr=>∃ i : Nat,i≤q∧q - i≤gg∧s20 = .int .i64 i∧Hid (Grew W2 wr)∧Hid (∀ (j : Nat) n,j < i→(pagesN s)[j]? = some n→entE m (onAt s.ars n) (flatN s n) = 0))
   case atStart=>exact ⟨0,Nat.zero_le _,by omega,rfl,Grew.refl _,fun j s hj=>absurd hj (Nat.not_lt_zero _)⟩
   case round =>
    obtain ⟨i,hi,hg2,rfl,BW,OW⟩:=hrel
    by_cases hlt2 : i < q
    ·have hltz2 : (i : Int) < (q : Int):=by omega
     obtain ⟨n,HNI⟩ : ∃ n,Hid ((pagesN s)[i]? = some n):=⟨_,List.getElem?_eq_getElem (by rw [HQ.out]; exact hlt2)⟩
     have hn64 : n < 64:=pagesN_lt HNI.out;obtain ⟨ad2,rfl,hl2⟩:=HNR.out i (n : Int) (by rw [List.getElem?_map,HNI.out]; rfl)
     have e0:=hl2 wr BW.out;clear hl2;have HGW : Hid (Grew w wr):=HG2.out.trans BW.out;have hcf:=find_any (.slice x.ar.a x.ar.n x.ar.c) s.ars (n : Int) wr (HAT.out.ar.grew HGW.out);have s1:=(S2.out.grew BW.out).c 1 rfl;go_wp2_with fail;refine hcf.mono ?_;clear hcf e0 s1;rintro e' W4 ⟨⟨z,rfl,hz⟩,hg4⟩;have HFZ : Hid (FindsZ s.ars (n : Int) z):=hz;have HG4 : Hid (Grew W2 W4):=BW.out.trans hg4;have HGw4 : Hid (Grew w W4):=HG2.out.trans HG4.out;clear hg4 hz
     by_cases hz0 : z < 0
     ·have HZE : Hid (Z = 5):=show _ = _ by
       have h5 : entE m (onAt s.ars n) (flatN s n) = 5:=by
        have:=finds_is HFZ.out;rw [decide_eq_false (by omega)] at this
        unfold entE;rw [if_pos this.symm]
       have h6 : spEnt m s = 5:=by rw [spEnt_pages,firstE_at HNI.out OW.out (by rw [h5]; decide),h5]
       rw [←HZ.out];unfold wPages;rw [firstE_at HS.out HOW.out (by rw [h6]; decide),h6]
      go_wp2;go_ret;exact ⟨by rw [HZE.out]; rfl,HGw4.out⟩
     ·obtain ⟨k,a,rfl,HKA,HIN⟩ : ∃ (k : Nat) (a : Ar),z = (k : Int)∧Hid (s.ars[k]? = some a)∧Hid (inZ a (n : Int) = true):=by
       rcases HFZ.out with ⟨k,a,q1,q2,q3⟩ | ⟨q1,_⟩
       ·exact ⟨k,a,q1,q2,q3⟩
       ·omega
      have HAO : Hid (ArOk a):=canP_at HCN.out HKA.out;have hkl : k < x.ar.n:=by rw [←HAL.out]; exact (List.getElem?_eq_some_iff.1 HKA.out).1
      have HEN : Hid (entE m (onAt s.ars n) (flatN s n) = wEntry m a n (flatN s n)):=show _ = _ by rw [onAt_uniq HCN.out HKA.out HIN.out,wEntry_eq HM1.out HAO.out]
      have hen0 : 0≤(flatN s n).n:=(enW_zero (flat_ok HTB.out n)).2.1.1;have HWE' : Hid (∀ W,Grew w W→Calls Tryz.prog 86 #[.agg #[.slice vf.a vf.n vf.c,.int .i64 m.hand,.slice vs.a vs.n vs.c,.slice vsb.a vsb.n vsb.c,.slice vsq.a vsq.n vsq.c,.slice vdb.a vdb.n vdb.c,.slice vdq.a vdq.n vdq.c,.slice vfl.a vfl.n vfl.c,.int .i64 m.cnt,.slice vca.a vca.n vca.c,.slice (some ad) spn spc],.agg #[.int .i64 a.fr,.int .i64 a.tz,.bool a.rd,.bool a.wr,.bool a.sh,.int .i64 a.file,.int .i64 a.base],.int .i64 (n : Int),enV (flatN s n)] W fun e' w'=>e' = .returned (.int .i64 (wEntry m a n (flatN s n)))∧Grew W w'):=show ∀ W,_ from fun W hW=>HWE.out a n (flatN s n) W hW HAO.out (by omega) hen0
      have HGT : Hid (∀ W,Grew w W→Calls Tryz.prog 64 #[.agg #[.slice x.t0.a x.t0.n x.t0.c,.slice x.t1.a x.t1.n x.t1.c,.slice x.t2.a x.t2.n x.t2.c,.slice x.t3.a x.t3.n x.t3.c,.slice x.t4.a x.t4.n x.t4.c,.slice x.t5.a x.t5.n x.t5.c,.slice x.t6.a x.t6.n x.t6.c,.slice x.t7.a x.t7.n x.t7.c],.int .i64 (n : Int)] W fun e w'=>e = .returned (enV (flatN s n))∧Grew W w'):=show ∀ W,_ from fun W hW=>by
       have:=getTb_any x.tab s.tb (n : Int) W (HAT.out.grew hW).tb;rw [get_flat hn64] at this;exact this
      clear hen0;go_upto_region 10 with fail;obtain ⟨ada,hva,hl⟩:=HAR.out k a HKA.out;have X4 : Hid (Box W4 w.heap.size [.slice vf.a vf.n vf.c,.int .i64 m.hand,.slice vs.a vs.n vs.c,.slice vsb.a vsb.n vsb.c,.slice vsq.a vsq.n vsq.c,.slice vdb.a vdb.n vdb.c,.slice vdq.a vdq.n vdq.c,.slice vfl.a vfl.n vfl.c,.int .i64 m.cnt,.slice vca.a vca.n vca.c,.slice (some ad) spn spc]):=X2.out.grew HG4.out;have S4 : Hid (Box W4 pb [.bool x.live,.slice x.ar.a x.ar.n x.ar.c,.slice x.t0.a x.t0.n x.t0.c,.slice x.t1.a x.t1.n x.t1.c,.slice x.t2.a x.t2.n x.t2.c,.slice x.t3.a x.t3.n x.t3.c,.slice x.t4.a x.t4.n x.t4.c,.slice x.t5.a x.t5.n x.t5.c,.slice x.t6.a x.t6.n x.t6.c,.slice x.t7.a x.t7.n x.t7.c]):=S2.out.grew HG4.out;have hx0 : ∀ y : GrownW W4,y.world.cell? ⟨w.heap.size,0,none⟩ = some (.slice vf.a vf.n vf.c):=fun y=>(X4.out.grew y.grew).c 0 rfl
      have hx1 : ∀ y : GrownW W4,y.world.cell? ⟨w.heap.size,1,none⟩ = some (.int .i64 m.hand):=fun y=>(X4.out.grew y.grew).c 1 rfl
      have hx2 : ∀ y : GrownW W4,y.world.cell? ⟨w.heap.size,2,none⟩ = some (.slice vs.a vs.n vs.c):=fun y=>(X4.out.grew y.grew).c 2 rfl
      have hx3 : ∀ y : GrownW W4,y.world.cell? ⟨w.heap.size,3,none⟩ = some (.slice vsb.a vsb.n vsb.c):=fun y=>(X4.out.grew y.grew).c 3 rfl
      have hx4 : ∀ y : GrownW W4,y.world.cell? ⟨w.heap.size,4,none⟩ = some (.slice vsq.a vsq.n vsq.c):=fun y=>(X4.out.grew y.grew).c 4 rfl
      have hx5 : ∀ y : GrownW W4,y.world.cell? ⟨w.heap.size,5,none⟩ = some (.slice vdb.a vdb.n vdb.c):=fun y=>(X4.out.grew y.grew).c 5 rfl
      have hx6 : ∀ y : GrownW W4,y.world.cell? ⟨w.heap.size,6,none⟩ = some (.slice vdq.a vdq.n vdq.c):=fun y=>(X4.out.grew y.grew).c 6 rfl
      have hx7 : ∀ y : GrownW W4,y.world.cell? ⟨w.heap.size,7,none⟩ = some (.slice vfl.a vfl.n vfl.c):=fun y=>(X4.out.grew y.grew).c 7 rfl
      have hx8 : ∀ y : GrownW W4,y.world.cell? ⟨w.heap.size,8,none⟩ = some (.int .i64 m.cnt):=fun y=>(X4.out.grew y.grew).c 8 rfl
      have hx9 : ∀ y : GrownW W4,y.world.cell? ⟨w.heap.size,9,none⟩ = some (.slice vca.a vca.n vca.c):=fun y=>(X4.out.grew y.grew).c 9 rfl
      have hx10 : ∀ y : GrownW W4,y.world.cell? ⟨w.heap.size,10,none⟩ = some (.slice (some ad) spn spc):=fun y=>(X4.out.grew y.grew).c 10 rfl
      have hs1 : ∀ y : GrownW W4,y.world.cell? ⟨pb,1,none⟩ = some (.slice x.ar.a x.ar.n x.ar.c):=fun y=>(S4.out.grew y.grew).c 1 rfl
      have hs2 : ∀ y : GrownW W4,y.world.cell? ⟨pb,2,none⟩ = some (.slice x.t0.a x.t0.n x.t0.c):=fun y=>(S4.out.grew y.grew).c 2 rfl
      have hs3 : ∀ y : GrownW W4,y.world.cell? ⟨pb,3,none⟩ = some (.slice x.t1.a x.t1.n x.t1.c):=fun y=>(S4.out.grew y.grew).c 3 rfl
      have hs4 : ∀ y : GrownW W4,y.world.cell? ⟨pb,4,none⟩ = some (.slice x.t2.a x.t2.n x.t2.c):=fun y=>(S4.out.grew y.grew).c 4 rfl
      have hs5 : ∀ y : GrownW W4,y.world.cell? ⟨pb,5,none⟩ = some (.slice x.t3.a x.t3.n x.t3.c):=fun y=>(S4.out.grew y.grew).c 5 rfl
      have hs6 : ∀ y : GrownW W4,y.world.cell? ⟨pb,6,none⟩ = some (.slice x.t4.a x.t4.n x.t4.c):=fun y=>(S4.out.grew y.grew).c 6 rfl
      have hs7 : ∀ y : GrownW W4,y.world.cell? ⟨pb,7,none⟩ = some (.slice x.t5.a x.t5.n x.t5.c):=fun y=>(S4.out.grew y.grew).c 7 rfl
      have hs8 : ∀ y : GrownW W4,y.world.cell? ⟨pb,8,none⟩ = some (.slice x.t6.a x.t6.n x.t6.c):=fun y=>(S4.out.grew y.grew).c 8 rfl
      have hs9 : ∀ y : GrownW W4,y.world.cell? ⟨pb,9,none⟩ = some (.slice x.t7.a x.t7.n x.t7.c):=fun y=>(S4.out.grew y.grew).c 9 rfl
      rw [hva] at hs1;have hy0 : ∀ y : GrownW W4,y.world.cell? (ada.add (k * 7)) = some (.int .i64 a.fr):=fun y=>(hl _ (HGw4.out.trans y.grew)).1
      have hy1 : ∀ y : GrownW W4,y.world.cell? { block:=(ada.add (k * 7)).block,off:=(ada.add (k * 7)).off + 1 } = some (.int .i64 a.tz):=fun y=>(hl _ (HGw4.out.trans y.grew)).2.1
      have hy2 : ∀ y : GrownW W4,y.world.cell? { block:=(ada.add (k * 7)).block,off:=(ada.add (k * 7)).off + 2 } = some (.bool a.rd):=fun y=>(hl _ (HGw4.out.trans y.grew)).2.2.1
      have hy3 : ∀ y : GrownW W4,y.world.cell? { block:=(ada.add (k * 7)).block,off:=(ada.add (k * 7)).off + 3 } = some (.bool a.wr):=fun y=>(hl _ (HGw4.out.trans y.grew)).2.2.2.1
      have hy4 : ∀ y : GrownW W4,y.world.cell? { block:=(ada.add (k * 7)).block,off:=(ada.add (k * 7)).off + 4 } = some (.bool a.sh):=fun y=>(hl _ (HGw4.out.trans y.grew)).2.2.2.2.1
      have hy5 : ∀ y : GrownW W4,y.world.cell? { block:=(ada.add (k * 7)).block,off:=(ada.add (k * 7)).off + 5 } = some (.int .i64 a.file):=fun y=>(hl _ (HGw4.out.trans y.grew)).2.2.2.2.2.1
      have hy6 : ∀ y : GrownW W4,y.world.cell? { block:=(ada.add (k * 7)).block,off:=(ada.add (k * 7)).off + 6 } = some (.int .i64 a.base):=fun y=>(hl _ (HGw4.out.trans y.grew)).2.2.2.2.2.2
      have hne : Nonempty (GrownW W4):=⟨⟨_,Grew.refl _⟩⟩;clear hl hva;refine wp_lax [(10,⟨fun v=>v = enV (flatN s n),fun v w'=>True⟩),(11,⟨fun v=>v = .int .i64 (wEntry m a n (flatN s n)),fun v w'=>True⟩)] mixed (by kernel_rfl) ?hS ?hp ?_
      case hS =>
       intro x hx;simp only [List.mem_cons,List.not_mem_nil,or_false] at hx
       rcases hx with rfl | rfl
       ·exact ⟨_,rfl⟩
       ·exact ⟨_,rfl⟩
      case hp =>
       intro x hx;simp only [List.mem_cons,List.not_mem_nil,or_false] at hx
       rcases hx with rfl | rfl
       ·exact fun _ _ _ _ h=>h
       ·exact fun _ _ _ _ h=>h
      iterate 10 (refine lax_quiet rfl rfl rfl (fun K hK=>?_); go_big_quiet_op; refine hK _ ?_; clear hK K)
      refine lax_spec rfl rfl (fun w' hg hF=>?_) (fun v1 hv=>?_)
      ·refine Does.call [.agg #[.slice x.t0.a x.t0.n x.t0.c,.slice x.t1.a x.t1.n x.t1.c,.slice x.t2.a x.t2.n x.t2.c,.slice x.t3.a x.t3.n x.t3.c,.slice x.t4.a x.t4.n x.t4.c,.slice x.t5.a x.t5.n x.t5.c,.slice x.t6.a x.t6.n x.t6.c,.slice x.t7.a x.t7.n x.t7.c],.int .i64 (n : Int)] rfl Tryz.func64 rfl rfl rfl ?_;refine (HGT.out w' (HGw4.out.trans hg)).mono ?_;rintro e w'' ⟨rfl,hg3⟩;exact ⟨_,rfl,hg3,rfl,trivial⟩
      subst hv;simp only [Act.put,List.setIfInBounds_toArray,List.set_cons_succ,List.set_cons_zero];refine lax_spec rfl rfl (fun w' hg hF=>?_) (fun v1 hv=>?_)
      ·refine Does.call [.agg #[.slice vf.a vf.n vf.c,.int .i64 m.hand,.slice vs.a vs.n vs.c,.slice vsb.a vsb.n vsb.c,.slice vsq.a vsq.n vsq.c,.slice vdb.a vdb.n vdb.c,.slice vdq.a vdq.n vdq.c,.slice vfl.a vfl.n vfl.c,.int .i64 m.cnt,.slice vca.a vca.n vca.c,.slice (some ad) spn spc],.agg #[.int .i64 a.fr,.int .i64 a.tz,.bool a.rd,.bool a.wr,.bool a.sh,.int .i64 a.file,.int .i64 a.base],.int .i64 (n : Int),enV (flatN s n)] rfl Tryz.func86 rfl rfl rfl ?_;refine (HWE'.out w' (HGw4.out.trans hg)).mono ?_;rintro e w'' ⟨rfl,hg3⟩;exact ⟨_,rfl,hg3,rfl,trivial⟩
      subst hv;simp only [Act.put,List.setIfInBounds_toArray,List.set_cons_succ,List.set_cons_zero];iterate 1 (refine lax_quiet rfl rfl rfl (fun K hK=>?_); go_big_quiet_op; refine hK _ ?_; clear hK K)
      refine lax_nil fun W5 hg5 hF=>?_
      have HG5 : Hid (Grew W2 W5):=HG4.out.trans hg5;have HGw5 : Hid (Grew w W5):=HG2.out.trans HG5.out;clear hg5 hF hx0 hx1 hx2 hx3 hx4 hx5 hx6 hx7 hx8 hx9 hx10 hs1 hs2 hs3 hs4 hs5 hs6 hs7 hs8 hs9 hy0 hy1 hy2 hy3 hy4 hy5 hy6 hne;obtain ⟨e,HEE⟩ : ∃ e,Hid (wEntry m a n (flatN s n) = e):=⟨_,rfl⟩;rw [HEE.out];rw [HEE.out] at HEN
      by_cases h0 : e = 0
      ·have h0e : (e != 0) = false:=by simp [h0]
       have OW' : Hid (∀ (j : Nat) n,j < i + 1→(pagesN s)[j]? = some n→entE m (onAt s.ars n) (flatN s n) = 0):=show ∀ (j : Nat) n,_ from fun j n' hj hn'=>by
        by_cases ej : j = i
        ·subst ej;rw [HNI.out] at hn';cases hn';rw [HEN.out];exact h0
        ·exact OW.out j n' (by omega) hn'
       clear h0;go_wp2
       go_roundg (q - (i + 1))
       case measure=>omega
       case rel=>exact ⟨i + 1,by omega,by omega,by go_num,HG5.out,OW'.out⟩
      ·have h0e : (e != 0) = true:=by simp [h0]
       have HZE : Hid (Z = e):=show _ = _ by
        have h6 : spEnt m s = e:=by rw [spEnt_pages,firstE_at HNI.out OW.out (by rw [HEN.out]; exact h0),HEN.out]
        rw [←HZ.out];unfold wPages;rw [firstE_at HS.out HOW.out (by rw [h6]; exact h0),h6]
       clear h0;go_wp2;go_ret;exact ⟨by rw [HZE.out]; rfl,HGw5.out⟩
    ·have hltz2 : ¬ (i : Int) < (q : Int):=by omega
     have : i = q:=by omega
     subst this;have HSE : Hid (spEnt m s = 0):=show _ = _ by
      rw [spEnt_pages];exact firstE_all fun j n hn=>OW.out j n (by rw [←HQ.out]; exact (List.getElem?_eq_some_iff.1 hn).1) hn
     have OW' : Hid (∀ (j : Nat) s,j < kk + 1→m.sp[j]? = some s→spEnt m s = 0):=show ∀ (j : Nat) s,_ from fun j s' hj hs=>by
      by_cases ej : j = kk
      ·subst ej;rw [HS.out] at hs;cases hs;exact HSE.out
      ·exact HOW.out j s' (by omega) hs
     have XX : Hid (Box wr w.heap.size [.slice vf.a vf.n vf.c,.int .i64 m.hand,.slice vs.a vs.n vs.c,.slice vsb.a vsb.n vsb.c,.slice vsq.a vsq.n vsq.c,.slice vdb.a vdb.n vdb.c,.slice vdq.a vdq.n vdq.c,.slice vfl.a vfl.n vfl.c,.int .i64 m.cnt,.slice vca.a vca.n vca.c,.slice (some ad) spn spc]):=X2.out.grew BW.out;have GG : Hid (Grew w wr):=HG2.out.trans BW.out;go_wp2
     go_roundg (spn - (kk + 1))
     case measure=>omega
     case rel=>exact ⟨kk + 1,by omega,by omega,by go_num,GG.out,XX.out,OW'.out⟩
  ·have hltz : ¬ (kk : Int) < (spn : Int):=by omega
   have : kk = spn:=by omega
   subst this;have HZE : Hid (Z = 0):=show _ = _ by
    rw [←HZ.out];exact firstE_all fun j s hs=>OW.out j s (by rw [←HN.out]; exact (List.getElem?_eq_some_iff.1 hs).1) hs
   go_wp2;go_ret;exact ⟨by rw [HZE.out]; rfl,BW.out⟩
structure KeyK where
 ty : TypeId
 enc : Int × Int→Value
 und : ∃ fs,Tryz.prog.underlying ty = some (.struct fs)
 check : ∀ (em : Bool) (a : Int × Int) (w : World),(Instr.checkKey em 10000 ty (enc a)).run Tryz.prog w = .ok () w
 same : ∀ (a b : Int × Int) (w : World),(Op.equal ty (enc a) (enc b)).run Tryz.prog w = .ok (decide (a = b)) w
 bits : ∀ a : Int × Int,Instr.sameBits 10000 (enc a) (enc a) = true
def lookP : List ((Int × Int) × Int)→Int × Int→Option Int
 | [],_=>none
 | p :: l,k=>if k = p.1 then some p.2 else lookP l k
def findP : List ((Int × Int) × Int)→Int × Int→Nat→Option (Nat × Value)
 | [],_,_=>none
 | p :: l,k,i=>if k = p.1 then some (i,.int .i64 p.2) else findP l k (i + 1)
def putP : List ((Int × Int) × Int)→Int × Int→Int→List ((Int × Int) × Int)
 | [],k,v=>[(k,v)]
 | p :: l,k,v=>if k = p.1 then (k,v) :: l else p :: putP l k v
theorem lookP_put : ∀ (l : List ((Int × Int) × Int)) (k x : Int × Int) (v : Int),lookP (putP l k v) x = if x = k then some v else lookP l x
 | [],k,x,v=>by simp [putP,lookP]
 | p :: l,k,x,v=>by
  unfold putP
  by_cases h : k = p.1
  ·rw [if_pos h];unfold lookP
   by_cases hx : x = k
   ·simp [hx]
   ·have hx' : ¬ x = p.1:=fun e=>hx (e.trans h.symm)
    simp [hx,hx']
  ·rw [if_neg h];unfold lookP;rw [lookP_put l]
   by_cases hp : x = p.1
   ·rw [if_pos hp,if_pos hp,if_neg (fun e=>h (e.symm.trans hp))]
   ·rw [if_neg hp,if_neg hp]
theorem findP_none : ∀ {l : List ((Int × Int) × Int)} {k : Int × Int} {i : Nat},findP l k i = none→lookP l k = none∧∀ v,putP l k v = l ++ [(k,v)]
 | [],k,i,_=>⟨rfl,fun v=>rfl⟩
 | p :: l,k,i,h=>by
  unfold findP at h
  by_cases e : k = p.1
  ·rw [if_pos e] at h; cases h
  ·rw [if_neg e] at h;obtain ⟨h1,h2⟩:=findP_none h;refine ⟨by unfold lookP; rw [if_neg e,h1],fun v=>?_⟩
   unfold putP;rw [if_neg e,h2];rfl
theorem findP_some : ∀ {l : List ((Int × Int) × Int)} {k : Int × Int} {i j : Nat} {u : Value},findP l k i = some (j,u)→∃ n z,u = .int .i64 z∧j = i + n∧l[n]? = some (k,z)∧lookP l k = some z∧∀ v,putP l k v = l.set n (k,v)
 | [],k,i,j,u,h=>by cases h
 | p :: l,k,i,j,u,h=>by
  unfold findP at h
  by_cases e : k = p.1
  ·rw [if_pos e] at h;cases h;refine ⟨0,p.2,rfl,rfl,by rw [e]; rfl,by unfold lookP; rw [if_pos e],fun v=>?_⟩
   unfold putP;rw [if_pos e];rfl
  ·rw [if_neg e] at h;obtain ⟨n,z,h1,h2,h3,h4,h5⟩:=findP_some h;refine ⟨n + 1,z,h1,by omega,by simpa using h3,by unfold lookP; rw [if_neg e,h4],fun v=>?_⟩
   unfold putP;rw [if_neg e,h5];rfl
def MapF (K : KeyK) (w : World) (b : Nat) (g : Int × Int→Option Int) : Prop :=
 ∃ es clock l,w.heap[b]? = some (.map es clock)∧(es.toList.map (fun e=>(e.key,e.val)) = l.map (fun p : (Int × Int) × Int=>(K.enc p.1,Value.int .i64 p.2))∧(es.toList.map (·.born)).Pairwise (· < ·)∧∀ e∈es.toList,e.born < clock)∧∀ k,lookP l k = g k
theorem MapF.lt {K : KeyK} {w : World} {b : Nat} {g : Int × Int→Option Int} (h : MapF K w b g) : b < w.heap.size:=by
 obtain ⟨es,c,l,h1,_⟩:=h;exact (Array.getElem?_eq_some_iff.1 h1).1
theorem MapF.made (K : KeyK) (w : World) : MapF K (w.alloc (.map #[] 0)) w.heap.size (fun _=>none):=⟨#[],0,[],by
 show (w.heap.push _)[w.heap.size]? = _
 simp,⟨rfl,List.Pairwise.nil,fun e he=>by cases he⟩,fun k=>rfl⟩
theorem MapF.grew {K : KeyK} {w w' : World} {b : Nat} {g : Int × Int→Option Int} (h : MapF K w b g) (hg : Grew w w') : MapF K w' b g:=by
 have hlt:=h.lt;obtain ⟨es,c,l,h1,h2⟩:=h;exact ⟨es,c,l,(Below.block hg b hlt).trans h1,h2⟩
theorem MapF.kept {K : KeyK} {w w' : World} {b : Nat} {g : Int × Int→Option Int} {row : Option Nat} (h : MapF K w b g) (hg : w.grownBy w' row) (hne : some b≠row) : MapF K w' b g:=by
 have hlt:=h.lt;obtain ⟨es,c,l,h1,h2⟩:=h;exact ⟨es,c,l,(hg.block b hlt hne).trans h1,h2⟩
theorem MapF.congr {K : KeyK} {w : World} {b : Nat} {g g' : Int × Int→Option Int} (h : MapF K w b g) (e : ∀ k,g k = g' k) : MapF K w b g':=by
 obtain ⟨es,c,l,h1,h2,h3⟩:=h;exact ⟨es,c,l,h1,h2,fun k=>(h3 k).trans (e k)⟩
theorem run_findAsking (K : KeyK) (k : Int × Int) (w : World) : ∀ (l : List ((Int × Int) × Int)) (es : List MapEntry) (i : Nat),es.map (fun e=>(e.key,e.val)) = l.map (fun p=>(K.enc p.1,Value.int .i64 p.2))→(Instr.findAsking K.ty (K.enc k) es i).run Tryz.prog w = .ok (findP l k i) w
 | [],[],i,_=>rfl
 | [],e :: es,i,h=>by simp at h
 | p :: l,[],i,h=>by simp at h
 | p :: l,e :: es,i,h=>by
  simp only [List.map_cons,List.cons.injEq,Prod.mk.injEq] at h;obtain ⟨⟨h1,h2⟩,h3⟩:=h;unfold Instr.findAsking findP;simp only [Sem.run_bind,h1,K.same,Result.andThen_ok]
  by_cases e' : k = p.1
  ·simp [e',h2]
  ·simp [e',run_findAsking K k w l es (i + 1) h3]
theorem run_findKey (K : KeyK) (k : Int × Int) (w : World) (l : List ((Int × Int) × Int)) (es : List MapEntry) (h : es.map (fun e=>(e.key,e.val)) = l.map (fun p=>(K.enc p.1,Value.int .i64 p.2))) : (Instr.findKey K.ty (K.enc k) es).run Tryz.prog w = .ok (findP l k 0) w:=by
 obtain ⟨fs,hu⟩:=K.und;unfold Instr.findKey;simp only [Sem.run_bind,run_underlying hu,Result.andThen_ok]
 cases es with
 | nil =>
  cases l with
  | nil=>rfl
  | cons p l=>simp at h
 | cons e es =>
  have : Instr.findNow (.struct fs) (K.enc k) (e :: es) 0 = none:=by simp [Instr.findNow,Instr.sameNow]
  rw [this];exact run_findAsking K k w l (e :: es) 0 h
theorem MapF.look {K : KeyK} {w : World} {b : Nat} {g : Int × Int→Option Int} (h : MapF K w b g) {t e : TypeId} (ht : Tryz.prog.underlying t = some (.map K.ty e)) (hz : (zeroValue e).run Tryz.prog w = .ok (.int .i64 0) w) (k : Int × Int) (c : Bool) :
  (Instr.lookup t (.map (some b)) (K.enc k) c).run Tryz.prog w = .ok (if c then .tuple #[.int .i64 ((g k).getD 0),.bool (g k).isSome] else .int .i64 ((g k).getD 0)) w:=by
 obtain ⟨es,cl,l,h1,⟨h2,_⟩,h3⟩:=h;have hf:=run_findKey K k w l es.toList h2;unfold Instr.lookup
 cases hp : findP l k 0 with
 | none =>
  rw [hp] at hf;have:=(findP_none hp).1;rw [h3 k] at this
  cases c <;> simp [run_underlying ht,MapKept.run_getObj_map h1,K.check,hf,hz,this]
 | some q =>
  obtain ⟨j,u⟩:=q;rw [hp] at hf;obtain ⟨n,z,rfl,_,_,h4,_⟩:=findP_some hp;rw [h3 k] at h4
  cases c <;> simp [run_underlying ht,MapKept.run_getObj_map h1,K.check,hf,h4]
theorem modify_born (f : MapEntry→MapEntry) (hf : ∀ e,(f e).born = e.born) : ∀ (es : List MapEntry) (n : Nat),(es.modify n f).map (·.born) = es.map (·.born)
 | [],n=>by simp
 | e :: es,0=>by simp [hf]
 | e :: es,n + 1=>by simp [modify_born f hf es n]
structure Stamped (K : KeyK) (es : Array MapEntry) (cl : Nat) (l : List ((Int × Int) × Int)) : Prop where
 pairs : es.toList.map (fun e=>(e.key,e.val)) = l.map (fun p=>(K.enc p.1,Value.int .i64 p.2))
 rise : (es.toList.map (·.born)).Pairwise (· < ·)
 low : ∀ e∈es.toList,e.born < cl
theorem Stamped.push {K : KeyK} {es : Array MapEntry} {cl : Nat} {l : List ((Int × Int) × Int)} (h : Stamped K es cl l) (k : Int × Int) (v : Int) : Stamped K (es.push ⟨K.enc k,.int .i64 v,cl⟩) (cl + 1) (l ++ [(k,v)]):=by
 refine ⟨by simp [h.pairs],?_,fun e he=>?_⟩
 ·simp only [Array.toList_push,List.map_append,List.map_cons,List.map_nil];rw [List.pairwise_append];refine ⟨h.rise,by simp,fun a ha b hb=>?_⟩
  obtain ⟨e,he,rfl⟩:=List.mem_map.1 ha
  simp at hb
  rw [hb];exact h.low e he
 ·simp only [Array.toList_push,List.mem_append,List.mem_singleton] at he
  rcases he with he | rfl
  ·have:=h.low e he; omega
  ·simp
theorem Stamped.modify {K : KeyK} {es : Array MapEntry} {cl : Nat} {l : List ((Int × Int) × Int)} (h : Stamped K es cl l) {n : Nat} {k : Int × Int} {z : Int} (hn : l[n]? = some (k,z)) (f : MapEntry→MapEntry) (v : Int) (hf : ∀ e,(f e).born = e.born) (hg : ∀ e,e.key = K.enc k→e.val = .int .i64 z→(f e).key = K.enc k∧(f e).val = .int .i64 v) : Stamped K (es.modify n f) cl (l.set n (k,v)):=by
 have hb : (es.modify n f).toList.map (·.born) = es.toList.map (·.born):=by rw [Array.toList_modify]; exact modify_born f hf es.toList n
 refine ⟨?_,by rw [hb]; exact h.rise,fun e he=>?_⟩
 ·have hp:=h.pairs;rw [Array.toList_modify]
  apply List.ext_getElem?
  intro j;have hj:=congrArg (fun (x : List (Value × Value))=>x[j]?) hp
  simp only [List.getElem?_map,List.getElem?_modify,List.getElem?_set] at hj ⊢
  by_cases e : n = j
  ·subst e;rw [hn] at hj;have hnl:=(List.getElem?_eq_some_iff.1 hn).1
   cases hq : es.toList[n]? with
   | none=>rw [hq] at hj; simp at hj
   | some e0 =>
    rw [hq] at hj
    simp at hj
    obtain ⟨g1,g2⟩:=hg e0 hj.1 hj.2
    simp [hnl,g1,g2]
  ·simp only [e,if_false] at hj ⊢
   cases hq : es.toList[j]? <;> rw [hq] at hj <;> simpa using hj
 ·have : e.born∈es.toList.map (·.born):=by rw [←hb]; exact List.mem_map.2 ⟨e,he,rfl⟩
  obtain ⟨e',he',h'⟩:=List.mem_map.1 this;rw [←h'];exact h.low e' he'
theorem Stamped.at {K : KeyK} {es : Array MapEntry} {cl : Nat} {l : List ((Int × Int) × Int)} (h : Stamped K es cl l) {n : Nat} {k : Int × Int} {z : Int} (hn : l[n]? = some (k,z)) : ∃ e0,es[n]? = some e0∧e0.key = K.enc k∧e0.val = .int .i64 z:=by
 have:=congrArg (fun (x : List (Value × Value))=>x[n]?) h.pairs
 simp only [List.getElem?_map,hn,Option.map_some] at this
 cases hq : es[n]? with
 | none=>simp [hq] at this
 | some e0=>simp [hq] at this; exact ⟨e0,rfl,this.1,this.2⟩
theorem born_inj : ∀ {l : List Nat},l.Pairwise (· < ·)→∀ {i j : Nat} {x : Nat},l[i]? = some x→l[j]? = some x→i = j
 | [],_,i,j,x,h,_=>by simp at h
 | a :: l,hp,i,j,x,h,h'=>by
  rw [List.pairwise_cons] at hp
  cases i with
  | zero =>
   cases j with
   | zero=>rfl
   | succ j =>
    simp at h h'
    subst h;have:=hp.1 a (List.mem_of_getElem? h');omega
  | succ i =>
   cases j with
   | zero =>
    simp at h h'
    subst h';have:=hp.1 a (List.mem_of_getElem? h);omega
   | succ j =>
    simp at h h'
    rw [born_inj hp.2 h h']
theorem map_put {K : KeyK} {w : World} {b : Nat} {es es' : Array MapEntry} {cl cl' : Nat} {l : List ((Int × Int) × Int)} {g : Int × Int→Option Int} {k : Int × Int} {v : Int} (h1 : w.heap[b]? = some (.map es cl)) (h3 : ∀ k,lookP l k = g k) (hs : Stamped K es' cl' (putP l k v)) :
  MapF K (ChangeMaps.setBlock w b (.map es' cl')) b (fun x=>if x = k then some v else g x)∧w.grownBy (ChangeMaps.setBlock w b (.map es' cl')) (some b)∧(ChangeMaps.setBlock w b (.map es' cl')).heap.size = w.heap.size:=by
 refine ⟨⟨es',cl',putP l k v,ChangeMaps.heap_setBlock_same h1 _,⟨hs.pairs,hs.rise,hs.low⟩,fun x=>?_⟩,⟨rfl,rfl,rfl,by simp [ChangeMaps.setBlock],fun i _ hi=>ChangeMaps.heap_setBlock_other h1 _ (fun e=>hi (by rw [e]))⟩,by simp [ChangeMaps.setBlock]⟩
 rw [lookP_put,h3]
theorem MapF.put {K : KeyK} {w : World} {b : Nat} {g : Int × Int→Option Int} (h : MapF K w b g) {t e : TypeId} (ht : Tryz.prog.underlying t = some (.map K.ty e)) (k : Int × Int) (v : Int) :
  ∃ w',(Instr.mapUpdate t (.map (some b)) (K.enc k) (.int .i64 v)).run Tryz.prog w = .ok () w'∧MapF K w' b (fun x=>if x = k then some v else g x)∧w.grownBy w' (some b)∧w'.heap.size = w.heap.size:=by
 obtain ⟨es,cl,l,h1,⟨h2,h4,h5⟩,h3⟩:=h;have hst : Stamped K es cl l:=⟨h2,h4,h5⟩;have hf:=run_findKey K k w l es.toList h2
 cases hp : findP l k 0 with
 | none =>
  rw [hp] at hf;have hput:=(findP_none hp).2 v;refine ⟨ChangeMaps.setBlock w b (.map (es.push ⟨K.enc k,.int .i64 v,cl⟩) (cl + 1)),?_,map_put h1 h3 (by rw [hput]; exact hst.push k v)⟩
  simp [Instr.mapUpdate,run_underlying ht,MapKept.run_getObj_map h1,K.check,hf,MapKept.run_setObj_map _ h1,ChangeMaps.setBlock]
 | some q =>
  obtain ⟨j,u⟩:=q;rw [hp] at hf;obtain ⟨n,z,rfl,rfl,h6,_,h7⟩:=findP_some hp;rw [Nat.zero_add] at hf;obtain ⟨e0,he0,hk0,_⟩:=hst.at h6;refine ⟨ChangeMaps.setBlock w b (.map (es.modify n fun e=>{ e with key:=K.enc k,val:= .int .i64 v }) cl),?_,map_put h1 h3 (by rw [h7]; exact hst.modify h6 _ v (fun _=>rfl) (fun _ _ _=>⟨rfl,rfl⟩))⟩
  simp [Instr.mapUpdate,run_underlying ht,MapKept.run_getObj_map h1,K.check,hf,he0,hk0,Instr.keyThatStays,K.bits,MapKept.run_setObj_map _ h1,ChangeMaps.setBlock]
def MapE (K : KeyK) (w : World) (b : Nat) (g : Int × Int→Option Int) (k : Int × Int) (st : Int) : Prop :=
 ∃ es cl l,w.heap[b]? = some (.map es cl)∧Stamped K es cl l∧(∀ k,lookP l k = g k)∧∃ (n : Nat) (z : Int) (e : MapEntry),l[n]? = some (k,z)∧(∀ v,putP l k v = l.set n (k,v))∧es[n]? = some e∧(e.born : Int) = st
theorem MapE.f {K : KeyK} {w : World} {b : Nat} {g : Int × Int→Option Int} {k : Int × Int} {st : Int} (h : MapE K w b g k st) : MapF K w b g:=by
 obtain ⟨es,cl,l,h1,h2,h3,_⟩:=h;exact ⟨es,cl,l,h1,⟨h2.pairs,h2.rise,h2.low⟩,h3⟩
theorem putP_snoc : ∀ {l : List ((Int × Int) × Int)} {k : Int × Int} (z v : Int),lookP l k = none→putP (l ++ [(k,z)]) k v = (l ++ [(k,z)]).set l.length (k,v)
 | [],k,z,v,_=>by simp [putP]
 | p :: l,k,z,v,h=>by
  unfold lookP at h
  by_cases e : k = p.1
  ·rw [if_pos e] at h; cases h
  ·rw [if_neg e] at h;simp only [List.cons_append,putP,e,if_false,List.length_cons,List.set_cons_succ];rw [putP_snoc z v h]
theorem MapF.entry {K : KeyK} {w : World} {b : Nat} {g : Int × Int→Option Int} (h : MapF K w b g) {t e : TypeId} (ht : Tryz.prog.underlying t = some (.map K.ty e)) (hz : (zeroValue e).run Tryz.prog w = .ok (.int .i64 0) w) (k : Int × Int) :
  ∃ w' st,(Instr.mapEntry t (.map (some b)) (K.enc k)).run Tryz.prog w = .ok (.tuple #[.int .i64 ((g k).getD 0),.int .i64 st]) w'∧MapE K w' b (fun x=>if x = k then some ((g k).getD 0) else g x) k st∧w.grownBy w' (some b)∧w'.heap.size = w.heap.size:=by
 obtain ⟨es,cl,l,h1,⟨h2,h4,h5⟩,h3⟩:=h;have hst : Stamped K es cl l:=⟨h2,h4,h5⟩;have hf:=run_findKey K k w l es.toList h2
 cases hp : findP l k 0 with
 | none =>
  rw [hp] at hf;obtain ⟨hno,hput⟩:=findP_none hp;have hg : g k = none:=by rw [←h3]; exact hno
  have hs':=hst.push k 0;have hm:=map_put h1 h3 (k:=k) (v:=0) (by rw [hput]; exact hs')
  refine ⟨ChangeMaps.setBlock w b (.map (es.push ⟨K.enc k,.int .i64 0,cl⟩) (cl + 1)),cl,?_,⟨_,_,_,ChangeMaps.heap_setBlock_same h1 _,hs',fun x=>?_,l.length,0,⟨K.enc k,.int .i64 0,cl⟩,by simp,fun v=>putP_snoc 0 v hno,?_,rfl⟩,hm.2⟩
  ·rw [hg]
   simp [Instr.mapEntry,run_underlying ht,MapKept.run_getObj_map h1,K.check,hf,hz,MapKept.run_setObj_map _ h1,ChangeMaps.setBlock,goInt]
  ·rw [hg,←hput,lookP_put,h3];rfl
  ·have : es.size = l.length:=by have:=congrArg List.length h2; simpa using this
   simp [←this]
 | some q =>
  obtain ⟨j,u⟩:=q;rw [hp] at hf;obtain ⟨n,z,rfl,rfl,h6,h8,h7⟩:=findP_some hp;rw [Nat.zero_add] at hf;obtain ⟨e0,he0,hk0,hv0⟩:=hst.at h6;have hg : g k = some z:=by rw [←h3]; exact h8
  have hs' : Stamped K (es.modify n fun e=>{ e with key:=K.enc k }) cl (l.set n (k,z)):=hst.modify h6 (fun e=>{ e with key:=K.enc k }) z (fun _=>rfl) (fun _ _ hv=>⟨rfl,hv⟩)
  have hm:=map_put h1 h3 (k:=k) (v:=z) (by rw [h7]; exact hs')
  have hnl:=(List.getElem?_eq_some_iff.1 h6).1;refine ⟨ChangeMaps.setBlock w b (.map (es.modify n fun e=>{ e with key:=K.enc k }) cl),e0.born,?_,⟨_,_,_,ChangeMaps.heap_setBlock_same h1 _,hs',fun x=>?_,n,z,{ e0 with key:=K.enc k },List.getElem?_set_self hnl,fun v=>?_,?_,rfl⟩,hm.2⟩
  ·rw [hg]
   simp [Instr.mapEntry,run_underlying ht,MapKept.run_getObj_map h1,K.check,hf,he0,hk0,Instr.keyThatStays,K.bits,MapKept.run_setObj_map _ h1,ChangeMaps.setBlock,goInt]
  ·rw [hg,←h7,lookP_put,h3];rfl
  ·rw [set_same h6,h7]
  ·rw [Array.getElem?_modify,if_pos rfl,he0];rfl
theorem MapE.store {K : KeyK} {w : World} {b : Nat} {g : Int × Int→Option Int} {k : Int × Int} {st : Int} (h : MapE K w b g k st) (t : TypeId) (v : Int) :
  ∃ w',(Instr.entryStore t (.map (some b)) (.int .i64 st) (.int .i64 v)).run Tryz.prog w = .ok () w'∧MapF K w' b (fun x=>if x = k then some v else g x)∧w.grownBy w' (some b)∧w'.heap.size = w.heap.size:=by
 obtain ⟨es,cl,l,h1,hst,h3,n,z,e0,h6,h7,he0,rfl⟩:=h;have hnl : n < es.size:=(Array.getElem?_eq_some_iff.1 he0).1;have hfind : es.findIdx? (fun e=>(e.born : Int) == (e0.born : Int)) = some n:=by
  rw [Array.findIdx?_eq_some_iff_getElem];refine ⟨hnl,?_,fun j hj=>?_⟩
  ·have : es[n] = e0:=(Array.getElem?_eq_some_iff.1 he0).2
   simp [this]
  ·intro hc;have hjl : j < es.size:=by omega
   have hc' : es[j].born = e0.born:=by
    have : (es[j].born : Int) = (e0.born : Int):=by simpa using hc
    omega
   have q1 : (es.toList.map (·.born))[n]? = some e0.born:=by simp [he0]
   have q2 : (es.toList.map (·.born))[j]? = some e0.born:=by simp [hjl,hc']
   have:=born_inj hst.rise q1 q2;omega
 refine ⟨ChangeMaps.setBlock w b (.map (es.modify n fun e=>{ e with val:= .int .i64 v }) cl),?_,map_put h1 h3 (by rw [h7]; exact hst.modify h6 _ v (fun _=>rfl) (fun _ hk _=>⟨hk,rfl⟩))⟩
 simp [Instr.entryStore,MapKept.run_getObj_map h1,asInt,asIntOf,hfind,MapKept.run_setObj_map _ h1,ChangeMaps.setBlock]
theorem wp_putMap {K : KeyK} {w : World} {ops : Array Oper} {rest : List Oper} {o : Oper} {a : Act} {Q : Exit→Act→World→Prop} (hgd : o.guard = none) (t e : TypeId) (m x v : Operand) (hop : o.op = .mapUpdate t m x v) (ht : Tryz.prog.underlying t = some (.map K.ty e)) (b : Nat) (g : Int × Int→Option Int) (h : MapF K w b g) (k : Int × Int) (z : Int)
  (hm : a.eval m = .map (some b)) (hx : a.eval x = K.enc k) (hv : a.eval v = .int .i64 z)
  (hK : ∀ w',MapF K w' b (fun x=>if x = k then some z else g x)→w.grownBy w' (some b)→w'.heap.size = w.heap.size→wpList Tryz.prog ops Q rest (a.put o.dst undef) w') : wpList Tryz.prog ops Q (o :: rest) a w:=by
 refine wpList_plain hgd fun K' hK'=>?_
 obtain ⟨w',hrun,r1,r2,r3⟩:=h.put ht k z;unfold Oper.wp
 simp [execOp,hop,hm,hx,hv,hrun,Result.andThen]
 exact hK' _ _ (hK w' r1 r2 r3)
theorem plK_check (em : Bool) (a : Int × Int) (w : World) : (Instr.checkKey em 10000 175 (.agg #[.int .i64 a.1,.int .i64 a.2])).run Tryz.prog w = .ok () w:=by
 have hf : (Tryz.prog.fieldsOf 175).toList.map (fun f => (f.name, f.type, f.offset)) = [("file", 3, 0), ("index", 3, 1)] := by kernel_rfl
 have hu : ∃ fs,Tryz.prog.underlying 175 = some (.struct fs)∧Tryz.prog.fieldsOf 175 = fs:=⟨_,Tryz.underlying175,by kernel_rfl⟩
 obtain ⟨fs,hu,hfe⟩:=hu;rw [hfe] at hf;obtain ⟨f0,f1,hfs⟩ : ∃ f0 f1,fs.toList = [f0,f1]:=by
  have hl : fs.toList.length = 2:=by have:=congrArg List.length hf; simpa using this
  match hq : fs.toList,hl with
  | [f0,f1],_=>exact ⟨f0,f1,rfl⟩
 rw [hfs] at hf
 simp at hf
 obtain ⟨⟨n0,t0,o0⟩,⟨n1,t1,o1⟩⟩:=hf;have pI : ∀ (zs : Array Value) (o : Nat) v,zs[o]? = some (.int .i64 v)→(part 3 zs o).run Tryz.prog w = .ok (.int .i64 v) w:=fun zs o v hz=>run_part_plain w (by simp [Program.plainKey,Tryz.underlying3]) hz
 have pB : ∀ (zs : Array Value) (o : Nat) v,zs[o]? = some (.bool v)→(part 4 zs o).run Tryz.prog w = .ok (.bool v) w:=fun zs o v hz=>run_part_plain w (by simp [Program.plainKey,Tryz.underlying4]) hz
 have cI : ∀ (v : Int) (n : Nat),(Instr.checkKey em (n + 1) 3 (.int .i64 v)).run Tryz.prog w = .ok () w:=fun v n=>by
  unfold Instr.checkKey
  simp [run_underlying Tryz.underlying3]
 have cB : ∀ (v : Bool) (n : Nat),(Instr.checkKey em (n + 1) 4 (.bool v)).run Tryz.prog w = .ok () w:=fun v n=>by
  unfold Instr.checkKey
  simp [run_underlying Tryz.underlying4]
 rw [show (10000 : Nat) = 9999 + 1 from rfl,Instr.checkKey]
 simp only [Sem.run_bind,run_underlying hu,Result.andThen_ok];rw [←Array.forIn_toList,hfs];have k1:=cI a.1 9998;have k2:=cI a.2 9998;have k3:=cB false 9998;have q0:=pI (#[.int .i64 a.1,.int .i64 a.2]) 0 a.1 rfl;have q1:=pI (#[.int .i64 a.1,.int .i64 a.2]) 1 a.2 rfl
 simp [List.forIn_cons,n0,t0,o0,n1,t1,o1,q0,q1,k1,k2]
theorem plK_same (a b : Int × Int) (w : World) : (Op.equal 175 (.agg #[.int .i64 a.1,.int .i64 a.2]) (.agg #[.int .i64 b.1,.int .i64 b.2])).run Tryz.prog w = .ok (decide (a = b)) w:=by
 have hf : (Tryz.prog.fieldsOf 175).toList.map (fun f => (f.name, f.type, f.offset)) = [("file", 3, 0), ("index", 3, 1)] := by kernel_rfl
 unfold Op.equal Op.maxDepth;rw [run_equalIn_struct w 9999 175 _ _ (by kernel_rfl) (by kernel_rfl)]
 obtain ⟨f0,f1,hfs⟩ : ∃ f0 f1,(Tryz.prog.fieldsOf 175).toList = [f0,f1]:=by
  have hl : (Tryz.prog.fieldsOf 175).toList.length = 2:=by have:=congrArg List.length hf; simpa using this
  match hq : (Tryz.prog.fieldsOf 175).toList,hl with
  | [f0,f1],_=>exact ⟨f0,f1,rfl⟩
 rw [hfs] at hf ⊢
 simp at hf
 obtain ⟨⟨n0,t0,o0⟩,⟨n1,t1,o1⟩⟩:=hf;have pI : ∀ (zs : Array Value) (o : Nat) v,zs[o]? = some (.int .i64 v)→(part 3 zs o).run Tryz.prog w = .ok (.int .i64 v) w:=fun zs o v hz=>run_part_plain w (by simp [Program.plainKey,Tryz.underlying3]) hz
 have pB : ∀ (zs : Array Value) (o : Nat) v,zs[o]? = some (.bool v)→(part 4 zs o).run Tryz.prog w = .ok (.bool v) w:=fun zs o v hz=>run_part_plain w (by simp [Program.plainKey,Tryz.underlying4]) hz
 simp only [Op.eqFields,n0,t0,o0,n1,t1,o1];obtain ⟨a1,a2⟩:=a;obtain ⟨b1,b2⟩:=b
 simp [pI,run_equalIn_int w _ _ _ _ _ _ Tryz.underlying3]
 by_cases e1 : a1 = b1 <;> by_cases e2 : a2 = b2 <;> simp [e1,e2]
def plK : KeyK where
 ty:=175
 enc:=fun a => .agg #[.int .i64 a.1,.int .i64 a.2]
 und:=⟨_,Tryz.underlying175⟩
 check:=plK_check
 same:=plK_same
 bits:=fun a=>by simp [Instr.sameBits]
theorem enK_check (em : Bool) (a : Int × Int) (w : World) : (Instr.checkKey em 10000 67 (.agg #[.int .i64 a.1,.int .i64 a.2,.bool false])).run Tryz.prog w = .ok () w:=by
 have hf : (Tryz.prog.fieldsOf 67).toList.map (fun f => (f.name, f.type, f.offset)) = [("Kind", 3, 0), ("N", 3, 1), ("Write", 4, 2)] := by kernel_rfl
 have hu : ∃ fs,Tryz.prog.underlying 67 = some (.struct fs)∧Tryz.prog.fieldsOf 67 = fs:=⟨_,Tryz.underlying67,by kernel_rfl⟩
 obtain ⟨fs,hu,hfe⟩:=hu;rw [hfe] at hf;obtain ⟨f0,f1,f2,hfs⟩ : ∃ f0 f1 f2,fs.toList = [f0,f1,f2]:=by
  have hl : fs.toList.length = 3:=by have:=congrArg List.length hf; simpa using this
  match hq : fs.toList,hl with
  | [f0,f1,f2],_=>exact ⟨f0,f1,f2,rfl⟩
 rw [hfs] at hf
 simp at hf
 obtain ⟨⟨n0,t0,o0⟩,⟨n1,t1,o1⟩,⟨n2,t2,o2⟩⟩:=hf;have pI : ∀ (zs : Array Value) (o : Nat) v,zs[o]? = some (.int .i64 v)→(part 3 zs o).run Tryz.prog w = .ok (.int .i64 v) w:=fun zs o v hz=>run_part_plain w (by simp [Program.plainKey,Tryz.underlying3]) hz
 have pB : ∀ (zs : Array Value) (o : Nat) v,zs[o]? = some (.bool v)→(part 4 zs o).run Tryz.prog w = .ok (.bool v) w:=fun zs o v hz=>run_part_plain w (by simp [Program.plainKey,Tryz.underlying4]) hz
 have cI : ∀ (v : Int) (n : Nat),(Instr.checkKey em (n + 1) 3 (.int .i64 v)).run Tryz.prog w = .ok () w:=fun v n=>by
  unfold Instr.checkKey
  simp [run_underlying Tryz.underlying3]
 have cB : ∀ (v : Bool) (n : Nat),(Instr.checkKey em (n + 1) 4 (.bool v)).run Tryz.prog w = .ok () w:=fun v n=>by
  unfold Instr.checkKey
  simp [run_underlying Tryz.underlying4]
 rw [show (10000 : Nat) = 9999 + 1 from rfl,Instr.checkKey]
 simp only [Sem.run_bind,run_underlying hu,Result.andThen_ok];rw [←Array.forIn_toList,hfs];have k1:=cI a.1 9998;have k2:=cI a.2 9998;have k3:=cB false 9998;have q0:=pI (#[.int .i64 a.1,.int .i64 a.2,.bool false]) 0 a.1 rfl;have q1:=pI (#[.int .i64 a.1,.int .i64 a.2,.bool false]) 1 a.2 rfl;have q2:=pB (#[.int .i64 a.1,.int .i64 a.2,.bool false]) 2 false rfl
 simp [List.forIn_cons,n0,t0,o0,n1,t1,o1,n2,t2,o2,q0,q1,q2,k1,k2,k3]
theorem enK_same (a b : Int × Int) (w : World) : (Op.equal 67 (.agg #[.int .i64 a.1,.int .i64 a.2,.bool false]) (.agg #[.int .i64 b.1,.int .i64 b.2,.bool false])).run Tryz.prog w = .ok (decide (a = b)) w:=by
 have hf : (Tryz.prog.fieldsOf 67).toList.map (fun f => (f.name, f.type, f.offset)) = [("Kind", 3, 0), ("N", 3, 1), ("Write", 4, 2)] := by kernel_rfl
 unfold Op.equal Op.maxDepth;rw [run_equalIn_struct w 9999 67 _ _ (by kernel_rfl) (by kernel_rfl)]
 obtain ⟨f0,f1,f2,hfs⟩ : ∃ f0 f1 f2,(Tryz.prog.fieldsOf 67).toList = [f0,f1,f2]:=by
  have hl : (Tryz.prog.fieldsOf 67).toList.length = 3:=by have:=congrArg List.length hf; simpa using this
  match hq : (Tryz.prog.fieldsOf 67).toList,hl with
  | [f0,f1,f2],_=>exact ⟨f0,f1,f2,rfl⟩
 rw [hfs] at hf ⊢
 simp at hf
 obtain ⟨⟨n0,t0,o0⟩,⟨n1,t1,o1⟩,⟨n2,t2,o2⟩⟩:=hf;have pI : ∀ (zs : Array Value) (o : Nat) v,zs[o]? = some (.int .i64 v)→(part 3 zs o).run Tryz.prog w = .ok (.int .i64 v) w:=fun zs o v hz=>run_part_plain w (by simp [Program.plainKey,Tryz.underlying3]) hz
 have pB : ∀ (zs : Array Value) (o : Nat) v,zs[o]? = some (.bool v)→(part 4 zs o).run Tryz.prog w = .ok (.bool v) w:=fun zs o v hz=>run_part_plain w (by simp [Program.plainKey,Tryz.underlying4]) hz
 simp only [Op.eqFields,n0,t0,o0,n1,t1,o1,n2,t2,o2];obtain ⟨a1,a2⟩:=a;obtain ⟨b1,b2⟩:=b
 simp [pI,pB,run_equalIn_bool' w _ _ _ _ Tryz.underlying4,run_equalIn_int w _ _ _ _ _ _ Tryz.underlying3]
 by_cases e1 : a1 = b1 <;> by_cases e2 : a2 = b2 <;> simp [e1,e2]
def enK : KeyK where
 ty:=67
 enc:=fun a => .agg #[.int .i64 a.1,.int .i64 a.2,.bool false]
 und:=⟨_,Tryz.underlying67⟩
 check:=enK_check
 same:=enK_same
 bits:=fun a=>by simp [Instr.sameBits]
theorem Box.ne_map {K : KeyK} {w : World} {b B : Nat} {cs : List Value} {g : Int × Int→Option Int} (h : Box w b cs) (k : MapF K w B g) : b≠B:=fun e=>by
 subst e;obtain ⟨t,h⟩:=h;obtain ⟨es,cl,l,k1,_⟩:=k;rw [h] at k1;cases k1
theorem OwnRow.ne_map {α : Type} {E : Elt α} {K : KeyK} {w : World} {base B : Nat} {v : Value} {l : List α} {g : Int × Int→Option Int} (h : OwnRow E base w v l) (k : MapF K w B g) : ∀ x,v.ownBlock = some x→some B≠some x:=fun x hx e=>by
 cases e;obtain ⟨cs,h1⟩:=h.obj hx;obtain ⟨es,cl,l,k1,_⟩:=k;rw [h1] at k1;cases k1
theorem Tryz.zeroInt (w : World) : (zeroValue 3).run Tryz.prog w = .ok (.int .i64 0) w:=by kernel_rfl
theorem withIndex_any (V : MaV) (m : Ma) (w : World) (hm : MachAt w V m) :
  Calls Tryz.prog 57 #[.agg #[.slice V.f.a V.f.n V.f.c,.int .i64 m.hand,.slice V.s.a V.s.n V.s.c,.slice V.sb.a V.sb.n V.sb.c,.slice V.sq.a V.sq.n V.sq.c,.slice V.db.a V.db.n V.db.c,.slice V.dq.a V.dq.n V.dq.c,.slice V.fl.a V.fl.n V.fl.c,.int .i64 m.cnt,.slice V.ca.a V.ca.n V.ca.c,.slice V.sp.a V.sp.n V.sp.c]] w fun e w'=>∃ B,e = .returned (.agg #[.slice V.f.a V.f.n V.f.c,.int .i64 m.hand,.slice V.s.a V.s.n V.s.c,.slice V.sb.a V.sb.n V.sb.c,.slice V.sq.a V.sq.n V.sq.c,.slice V.db.a V.db.n V.db.c,.slice V.dq.a V.dq.n V.dq.c,.slice V.fl.a V.fl.n V.fl.c,.int .i64 m.cnt,.slice V.ca.a V.ca.n V.ca.c,.slice V.sp.a V.sp.n V.sp.c,.map (some B)])∧MapF plK w' B (idxG m.ca)∧Grew w w':=by
 obtain ⟨vf,vs,vsb,vsq,vdb,vdq,vfl,⟨caa,can,cac⟩,vsp⟩:=V;dsimp only;obtain ⟨-,-,-,-,-,-,-,n8,-⟩:=hm.ns;dsimp only at n8;have HR : Hid (CaRows w caa m.ca):=hm.cas;have HN : Hid (m.ca.length = can):=n8.symm;have hbig : can≤9223372036854775807:=by have:=hm.ca.short; omega
 clear hm n8;have hmm:=@run_makeMap Tryz.prog;obtain ⟨W0,hW0⟩ : ∃ W0,((w.alloc (.cells #[.slice vf.a vf.n vf.c,.int .i64 m.hand,.slice vs.a vs.n vs.c,.slice vsb.a vsb.n vsb.c,.slice vsq.a vsq.n vsq.c,.slice vdb.a vdb.n vdb.c,.slice vdq.a vdq.n vdq.c,.slice vfl.a vfl.n vfl.c,.int .i64 m.cnt,.slice caa can cac,.slice vsp.a vsp.n vsp.c] 40)).alloc (.cells #[.slice none 0 0,.int .i64 0,.slice none 0 0,.slice none 0 0,.slice none 0 0,.slice none 0 0,.slice none 0 0,.slice none 0 0,.int .i64 0,.slice none 0 0,.slice none 0 0,.map none] 115)).alloc (.map #[] 0) = W0:=⟨_,rfl⟩;have HG0 : Hid (Grew w W0):=show Grew _ _ by rw [←hW0]; exact ((grew_alloc _ _).trans (grew_alloc _ _)).trans (grew_alloc _ _)
 have X0 : Hid (Box W0 w.heap.size [.slice vf.a vf.n vf.c,.int .i64 m.hand,.slice vs.a vs.n vs.c,.slice vsb.a vsb.n vsb.c,.slice vsq.a vsq.n vsq.c,.slice vdb.a vdb.n vdb.c,.slice vdq.a vdq.n vdq.c,.slice vfl.a vfl.n vfl.c,.int .i64 m.cnt,.slice caa can cac,.slice vsp.a vsp.n vsp.c]):=show Box _ _ _ by rw [←hW0]; exact ((Box.top _ _ _ rfl).alloc _).alloc _
 have Y0 : Hid (Box W0 (w.heap.size + 1) [.slice none 0 0,.int .i64 0,.slice none 0 0,.slice none 0 0,.slice none 0 0,.slice none 0 0,.slice none 0 0,.slice none 0 0,.int .i64 0,.slice none 0 0,.slice none 0 0,.map none]):=show Box _ _ _ by rw [←hW0]; exact (Box.top _ _ _ (by simp)).alloc _
 have M0 : Hid (MapF plK W0 (w.heap.size + 1 + 1) (idxG (m.ca.take 0))):=show MapF _ _ _ _ by
  rw [←hW0];have:=MapF.made plK ((w.alloc (.cells #[.slice vf.a vf.n vf.c,.int .i64 m.hand,.slice vs.a vs.n vs.c,.slice vsb.a vsb.n vsb.c,.slice vsq.a vsq.n vsq.c,.slice vdb.a vdb.n vdb.c,.slice vdq.a vdq.n vdq.c,.slice vfl.a vfl.n vfl.c,.int .i64 m.cnt,.slice caa can cac,.slice vsp.a vsp.n vsp.c] 40)).alloc (.cells #[.slice none 0 0,.int .i64 0,.slice none 0 0,.slice none 0 0,.slice none 0 0,.slice none 0 0,.slice none 0 0,.slice none 0 0,.int .i64 0,.slice none 0 0,.slice none 0 0,.map none] 115));have hs : ((w.alloc (.cells #[.slice vf.a vf.n vf.c,.int .i64 m.hand,.slice vs.a vs.n vs.c,.slice vsb.a vsb.n vsb.c,.slice vsq.a vsq.n vsq.c,.slice vdb.a vdb.n vdb.c,.slice vdq.a vdq.n vdq.c,.slice vfl.a vfl.n vfl.c,.int .i64 m.cnt,.slice caa can cac,.slice vsp.a vsp.n vsp.c] 40)).alloc (.cells #[.slice none 0 0,.int .i64 0,.slice none 0 0,.slice none 0 0,.slice none 0 0,.slice none 0 0,.slice none 0 0,.slice none 0 0,.int .i64 0,.slice none 0 0,.slice none 0 0,.map none] 115)).heap.size = w.heap.size + 1 + 1:=by simp
  rw [hs] at this;exact this.congr fun k=>by rw [List.take_zero]; rfl
 have HW0 : Hid (_ = W0):=hW0;clear hW0
 go_enter Tryz.func57,Tryz.ntmps57
 go_upto_region 2 with fail;rw [HW0.out];clear hmm;have x9:=X0.out.c 9 rfl;go_wp2;clear x9
 go_loopg [10] can (fun gg s10 wr=>∃ kk : Nat,kk≤can∧can - kk≤gg∧s10 = .int .i64 kk∧Hid (Grew w wr)∧Hid (Box wr w.heap.size [.slice vf.a vf.n vf.c,.int .i64 m.hand,.slice vs.a vs.n vs.c,.slice vsb.a vsb.n vsb.c,.slice vsq.a vsq.n vsq.c,.slice vdb.a vdb.n vdb.c,.slice vdq.a vdq.n vdq.c,.slice vfl.a vfl.n vfl.c,.int .i64 m.cnt,.slice caa can cac,.slice vsp.a vsp.n vsp.c])∧Hid (Box wr (w.heap.size + 1) [.slice none 0 0,.int .i64 0,.slice none 0 0,.slice none 0 0,.slice none 0 0,.slice none 0 0,.slice none 0 0,.slice none 0 0,.int .i64 0,.slice none 0 0,.slice none 0 0,.map none])∧Hid (MapF plK wr (w.heap.size + 1 + 1) (idxG (m.ca.take kk))))
 case atStart=>exact ⟨0,Nat.zero_le _,by omega,rfl,HG0.out,X0.out,Y0.out,M0.out⟩
 case round =>
  obtain ⟨kk,hkk,hgg,rfl,BW,XW,YW,MW⟩:=hrel;clear X0 Y0 M0 HG0
  by_cases hlt : kk < can
  ·have hltz : (kk : Int) < (can : Int):=by omega
   obtain ⟨c,HC⟩ : ∃ c,Hid (m.ca[kk]? = some c):=⟨_,List.getElem?_eq_getElem (by rw [HN.out]; exact hlt)⟩
   obtain ⟨ad,rfl,hl⟩:=HR.out kk c HC.out;obtain ⟨d0,d1,d2⟩:=hl wr BW.out;clear hl;go_upto_region 5 with fail;obtain ⟨W1,hW1⟩ : ∃ W1,wr.alloc (.cells #[.int .i64 c.file,.int .i64 c.idx,.int .i64 c.fr] 87) = W1:=⟨_,rfl⟩;have HG1 : Hid (Grew w W1):=show Grew _ _ by rw [←hW1]; exact BW.out.trans (grew_alloc _ _)
   have X1 : Hid (Box W1 w.heap.size [.slice vf.a vf.n vf.c,.int .i64 m.hand,.slice vs.a vs.n vs.c,.slice vsb.a vsb.n vsb.c,.slice vsq.a vsq.n vsq.c,.slice vdb.a vdb.n vdb.c,.slice vdq.a vdq.n vdq.c,.slice vfl.a vfl.n vfl.c,.int .i64 m.cnt,.slice (some ad) can cac,.slice vsp.a vsp.n vsp.c]):=show Box _ _ _ by rw [←hW1]; exact XW.out.alloc _
   have Y1 : Hid (Box W1 (w.heap.size + 1) [.slice none 0 0,.int .i64 0,.slice none 0 0,.slice none 0 0,.slice none 0 0,.slice none 0 0,.slice none 0 0,.slice none 0 0,.int .i64 0,.slice none 0 0,.slice none 0 0,.map none]):=show Box _ _ _ by rw [←hW1]; exact YW.out.alloc _
   have M1 : Hid (MapF plK W1 (w.heap.size + 1 + 1) (idxG (m.ca.take kk))):=show MapF _ _ _ _ by rw [←hW1]; exact MW.out.grew (grew_alloc _ _)
   have C1 : Hid (Box W1 wr.heap.size [.int .i64 c.file,.int .i64 c.idx,.int .i64 c.fr]):=show Box _ _ _ by rw [←hW1]; exact Box.top _ _ _ rfl
   rw [hW1];clear hW1 d0 d1 d2;have c0:=C1.out.c 0 rfl;have c1:=C1.out.c 1 rfl;have c2:=C1.out.c 2 rfl
   go_wp2_with (refine wp_putMap (K:=plK) rfl 113 3 (.tmp 14) (.tmp 19) (.tmp 21) rfl Tryz.underlying113 (w.heap.size + 1 + 1) _ M1.out (c.file,c.idx) c.fr rfl rfl rfl ?_)
   clear c0 c1 c2;intro W2 m2 hg2 _;have M2 : Hid (MapF plK W2 (w.heap.size + 1 + 1) (idxG (m.ca.take (kk + 1)))):=show MapF _ _ _ _ from m2.congr fun k=>by rw [take_snoc HC.out,idxG_snoc]
   have HG2 : Hid (Grew w W2):=show Grew _ _ from grew_grown HG1.out hg2 (by omega)
   have X2 : Hid (Box W2 w.heap.size [.slice vf.a vf.n vf.c,.int .i64 m.hand,.slice vs.a vs.n vs.c,.slice vsb.a vsb.n vsb.c,.slice vsq.a vsq.n vsq.c,.slice vdb.a vdb.n vdb.c,.slice vdq.a vdq.n vdq.c,.slice vfl.a vfl.n vfl.c,.int .i64 m.cnt,.slice (some ad) can cac,.slice vsp.a vsp.n vsp.c]):=X1.out.grown hg2 (by omega)
   have Y2 : Hid (Box W2 (w.heap.size + 1) [.slice none 0 0,.int .i64 0,.slice none 0 0,.slice none 0 0,.slice none 0 0,.slice none 0 0,.slice none 0 0,.slice none 0 0,.int .i64 0,.slice none 0 0,.slice none 0 0,.map none]):=Y1.out.grown hg2 (by omega)
   clear m2 hg2;go_wp2
   go_roundg (can - (kk + 1))
   case measure=>omega
   case rel=>exact ⟨kk + 1,by omega,by omega,by go_num,HG2.out,X2.out,Y2.out,M2.out⟩
  ·have hltz : ¬ (kk : Int) < (can : Int):=by omega
   have : kk = can:=by omega
   subst this;have MA1 : Hid (MapF plK wr (w.heap.size + 1 + 1) (idxG m.ca)):=show MapF _ _ _ _ by
    have:=MW.out;rw [List.take_of_length_le (by rw [HN.out]; exact Nat.le_refl _)] at this
    exact this
   have x0:=XW.out.c 0 rfl;have x1:=XW.out.c 1 rfl;have x2:=XW.out.c 2 rfl;have x3:=XW.out.c 3 rfl;have x4:=XW.out.c 4 rfl;have x5:=XW.out.c 5 rfl;have x6:=XW.out.c 6 rfl;have x7:=XW.out.c 7 rfl;have x8:=XW.out.c 8 rfl;have x9:=XW.out.c 9 rfl;have x10:=XW.out.c 10 rfl
   go_wp2_with (refine wp_storeAll rfl 115 (.tmp 2) (.tmp 25) rfl (w.heap.size + 1) rfl [.slice vf.a vf.n vf.c,.int .i64 m.hand,.slice vs.a vs.n vs.c,.slice vsb.a vsb.n vsb.c,.slice vsq.a vsq.n vsq.c,.slice vdb.a vdb.n vdb.c,.slice vdq.a vdq.n vdq.c,.slice vfl.a vfl.n vfl.c,.int .i64 m.cnt,.slice caa kk cac,.slice vsp.a vsp.n vsp.c,.map (some (w.heap.size + 1 + 1))] rfl YW.out rfl (by kernel_rfl) (fun v hv=>by
    simp only [List.mem_cons,List.not_mem_nil,or_false] at hv
    rcases hv with rfl | rfl | rfl | rfl | rfl | rfl | rfl | rfl | rfl | rfl | rfl | rfl <;> rfl) ?_)
   clear x0 x1 x2 x3 x4 x5 x6 x7 x8 x9 x10;intro W5 hb5 hg5 _;have G5 : Hid (Grew w W5):=show Grew _ _ from grew_grown BW.out hg5 (by omega)
   have M5 : Hid (MapF plK W5 (w.heap.size + 1 + 1) (idxG m.ca)):=MA1.out.kept hg5 (by simp)
   go_wp2;refine bodyPost_ret (ret_cell rfl _ rfl hb5 Tryz.underlying115 rfl (by kernel_rfl)) rfl ⟨_,rfl,M5.out,G5.out⟩
theorem hasCached_any (V : MaV) (m : Ma) (B k : Nat) (g : Int × Int→Option Int) (w : World) (hm : MachAt w V m) (hk : k < m.fs.length) (hmap : MapF plK w B g) :
  Calls Tryz.prog 88 #[.agg #[.slice V.f.a V.f.n V.f.c,.int .i64 m.hand,.slice V.s.a V.s.n V.s.c,.slice V.sb.a V.sb.n V.sb.c,.slice V.sq.a V.sq.n V.sq.c,.slice V.db.a V.db.n V.db.c,.slice V.dq.a V.dq.n V.dq.c,.slice V.fl.a V.fl.n V.fl.c,.int .i64 m.cnt,.slice V.ca.a V.ca.n V.ca.c,.slice V.sp.a V.sp.n V.sp.c,.map (some B)],.int .i64 (k : Int)] w fun e w'=>e = .returned (.bool (decide (g ((frAt m k).f,(frAt m k).x) = some (k : Int))))∧Grew w w':=by
 obtain ⟨⟨fa,fn,fc⟩,vs,vsb,vsq,vdb,vdq,vfl,vca,vsp⟩:=V;dsimp only;obtain ⟨n1,-⟩:=hm.ns;dsimp only at n1;have hkn : k < fn:=by omega
 obtain ⟨q,HQ⟩ : ∃ q,Hid (m.fs[k]? = some q):=⟨_,List.getElem?_eq_getElem hk⟩;have hfr : frAt m (k : Int) = q:=by unfold frAt; rw [Int.toNat_natCast,List.getD_eq_getElem?_getD,HQ.out]; rfl
 rw [hfr];obtain ⟨ad,rfl,hl⟩:=(show FrRows w fa m.fs from hm.frs) k q HQ.out
 clear hfr hm n1 hk;obtain ⟨W1,hW1⟩ : ∃ W1,w.alloc (.cells #[.slice (some ad) fn fc,.int .i64 m.hand,.slice vs.a vs.n vs.c,.slice vsb.a vsb.n vsb.c,.slice vsq.a vsq.n vsq.c,.slice vdb.a vdb.n vdb.c,.slice vdq.a vdq.n vdq.c,.slice vfl.a vfl.n vfl.c,.int .i64 m.cnt,.slice vca.a vca.n vca.c,.slice vsp.a vsp.n vsp.c,.map (some B)] 115) = W1:=⟨_,rfl⟩;have HG1 : Hid (Grew w W1):=show Grew _ _ by rw [←hW1]; exact grew_alloc _ _
 have X1 : Hid (Box W1 w.heap.size [.slice (some ad) fn fc,.int .i64 m.hand,.slice vs.a vs.n vs.c,.slice vsb.a vsb.n vsb.c,.slice vsq.a vsq.n vsq.c,.slice vdb.a vdb.n vdb.c,.slice vdq.a vdq.n vdq.c,.slice vfl.a vfl.n vfl.c,.int .i64 m.cnt,.slice vca.a vca.n vca.c,.slice vsp.a vsp.n vsp.c,.map (some B)]):=show Box _ _ _ by rw [←hW1]; exact Box.top _ _ _ rfl
 have HS1 : Hid (W1.heap.size = w.heap.size + 1):=show _ = _ by rw [←hW1]; simp
 obtain ⟨d0,d1,d2,d3,d4,d5,d6,d7,d8,d9,d10,d11,d12⟩:=hl W1 HG1.out;obtain ⟨W2,hW2⟩ : ∃ W2,W1.alloc (.cells #[.int .u8 q.p.b0,.int .u8 q.p.b1,.int .u8 q.p.b2,.int .u8 q.p.b3,.int .u8 q.p.b4,.int .u8 q.p.b5,.int .u8 q.p.b6,.int .u8 q.p.b7,.int .i64 q.r,.bool q.u,.bool q.d,.int .i64 q.f,.int .i64 q.x] 59) = W2:=⟨_,rfl⟩;have HG2 : Hid (Grew w W2):=show Grew _ _ by rw [←hW2]; exact HG1.out.trans (grew_alloc _ _)
 have X2 : Hid (Box W2 w.heap.size [.slice (some ad) fn fc,.int .i64 m.hand,.slice vs.a vs.n vs.c,.slice vsb.a vsb.n vsb.c,.slice vsq.a vsq.n vsq.c,.slice vdb.a vdb.n vdb.c,.slice vdq.a vdq.n vdq.c,.slice vfl.a vfl.n vfl.c,.int .i64 m.cnt,.slice vca.a vca.n vca.c,.slice vsp.a vsp.n vsp.c,.map (some B)]):=show Box _ _ _ by rw [←hW2]; exact X1.out.alloc _
 have F2 : Hid (Box W2 (w.heap.size + 1) [.int .u8 q.p.b0,.int .u8 q.p.b1,.int .u8 q.p.b2,.int .u8 q.p.b3,.int .u8 q.p.b4,.int .u8 q.p.b5,.int .u8 q.p.b6,.int .u8 q.p.b7,.int .i64 q.r,.bool q.u,.bool q.d,.int .i64 q.f,.int .i64 q.x]):=show Box _ _ _ by rw [←hW2]; exact Box.top _ _ _ HS1.out.symm
 have hlook : (Instr.lookup 113 (.map (some B)) (.agg #[.int .i64 q.f,.int .i64 q.x]) true).run Tryz.prog W2 = .ok (.tuple #[.int .i64 ((g (q.f,q.x)).getD 0),.bool (g (q.f,q.x)).isSome]) W2:=(hmap.grew HG2.out).look (K:=plK) Tryz.underlying113 (Tryz.zeroInt W2) (q.f,q.x) true;have HW1 : Hid (_ = W1):=hW1;have HW2 : Hid (_ = W2):=hW2;clear hW1 hW2 hl hmap;obtain ⟨R,HRR⟩ : ∃ R,Hid (decide (g (q.f,q.x) = some (k : Int)) = R):=⟨_,rfl⟩;rw [HRR.out];obtain ⟨gv,HGV⟩ : ∃ gv,Hid (g (q.f,q.x) = gv):=⟨_,rfl⟩;rw [HGV.out] at hlook HRR
 go_enter Tryz.func88,Tryz.ntmps88
 go_upto_region 1 with fail;rw [HW1.out];have x0:=X1.out.c 0 rfl;go_upto_region 2 with fail;rw [HW2.out];rw [HS1.out];clear d0 d1 d2 d3 d4 d5 d6 d7 d8 d9 d10 d11 d12 x0;have x11:=X2.out.c 11 rfl;have f11:=F2.out.c 11 rfl;have f12:=F2.out.c 12 rfl
 cases gv with
 | none =>
  simp only [Option.getD_none,Option.isSome_none] at hlook;go_wp2;go_ret;exact ⟨by rw [←HRR.out]; rfl,HG2.out⟩
 | some z =>
  simp only [Option.getD_some,Option.isSome_some] at hlook;have HE : Hid ((z == (k : Int)) = R):=show _ = _ by rw [←HRR.out,Bool.eq_iff_iff]; simp
  go_wp2;go_ret;exact ⟨by rw [←HE.out]; rfl,HG2.out⟩
def MapH (K : KeyK) (w : World) (b : Nat) (H : Int × Int→Int) : Prop:=∃ g,MapF K w b g∧∀ k,(g k).getD 0 = H k
theorem MapH.grew {K : KeyK} {w w' : World} {b : Nat} {H : Int × Int→Int} (h : MapH K w b H) (k : Grew w w') : MapH K w' b H:=by
 obtain ⟨g,h1,h2⟩:=h;exact ⟨g,h1.grew k,h2⟩
theorem MapH.congr {K : KeyK} {w : World} {b : Nat} {H H' : Int × Int→Int} (h : MapH K w b H) (e : ∀ k,H k = H' k) : MapH K w b H':=by
 obtain ⟨g,h1,h2⟩:=h;exact ⟨g,h1,fun k=>(h2 k).trans (e k)⟩
theorem MapH.ne_box {K : KeyK} {w : World} {b B : Nat} {cs : List Value} {H : Int × Int→Int} (k : MapH K w B H) (h : Box w b cs) : b≠B:=by
 obtain ⟨g,h1,_⟩:=k;exact h.ne_map h1
theorem MapH.ne_own {α : Type} {E : Elt α} {K : KeyK} {w : World} {base B : Nat} {v : Value} {l : List α} {H : Int × Int→Int} (k : MapH K w B H) (h : OwnRow E base w v l) : ∀ x,v.ownBlock = some x→some B≠some x:=by
 obtain ⟨g,h1,_⟩:=k;exact h.ne_map h1
def MapEH (K : KeyK) (w : World) (b : Nat) (H : Int × Int→Int) (k : Int × Int) (st : Int) : Prop:=∃ g,MapE K w b g k st∧∀ x,(g x).getD 0 = H x
theorem MapH.entry {K : KeyK} {w : World} {b : Nat} {H : Int × Int→Int} (h : MapH K w b H) {t e : TypeId} (ht : Tryz.prog.underlying t = some (.map K.ty e)) (hz : (zeroValue e).run Tryz.prog w = .ok (.int .i64 0) w) (k : Int × Int) :
  ∃ w' st,(Instr.mapEntry t (.map (some b)) (K.enc k)).run Tryz.prog w = .ok (.tuple #[.int .i64 (H k),.int .i64 st]) w'∧MapEH K w' b H k st∧w.grownBy w' (some b)∧w'.heap.size = w.heap.size:=by
 obtain ⟨g,h1,h2⟩:=h;obtain ⟨w',st,r1,r2,r3,r4⟩:=h1.entry ht hz k;rw [h2 k] at r1;refine ⟨w',st,r1,⟨_,r2,fun x=>?_⟩,r3,r4⟩
 by_cases e : x = k
 ·subst e;rw [if_pos rfl];exact h2 x
 ·rw [if_neg e];exact h2 x
theorem MapEH.h {K : KeyK} {w : World} {b : Nat} {H : Int × Int→Int} {k : Int × Int} {st : Int} (h : MapEH K w b H k st) : MapH K w b H:=by
 obtain ⟨g,h1,h2⟩:=h;exact ⟨g,h1.f,h2⟩
theorem MapH.look {K : KeyK} {w : World} {b : Nat} {H : Int × Int→Int} (h : MapH K w b H) {t e : TypeId} (ht : Tryz.prog.underlying t = some (.map K.ty e)) (hz : (zeroValue e).run Tryz.prog w = .ok (.int .i64 0) w) (k : Int × Int) :
  (Instr.lookup t (.map (some b)) (K.enc k) false).run Tryz.prog w = .ok (.int .i64 (H k)) w:=by
 obtain ⟨g,h1,h2⟩:=h;have:=h1.look ht hz k false;rw [h2 k] at this;exact this
def addH (H : Int × Int→Int) (k : Int × Int) : Int × Int→Int:=fun x=>H x + (if x = k then 1 else 0)
theorem wp_storeEntry {K : KeyK} {w : World} {ops : Array Oper} {rest : List Oper} {o : Oper} {a : Act} {Q : Exit→Act→World→Prop} (hgd : o.guard = none) (t : TypeId) (m s x : Operand) (hop : o.op = .entryStore t m s x) (b : Nat) (H : Int × Int→Int) (k : Int × Int) (st : Int) (h : MapEH K w b H k st)
  (hm : a.eval m = .map (some b)) (hs : a.eval s = .int .i64 st) (hv : a.eval x = .int .i64 (H k + 1))
  (hK : ∀ w',MapH K w' b (addH H k)→w.grownBy w' (some b)→w'.heap.size = w.heap.size→wpList Tryz.prog ops Q rest (a.put o.dst undef) w') : wpList Tryz.prog ops Q (o :: rest) a w:=by
 refine wpList_plain hgd fun K' hK'=>?_
 obtain ⟨g,h1,h2⟩:=h;obtain ⟨w',hrun,r1,r2,r3⟩:=h1.store t (H k + 1);unfold Oper.wp
 simp [execOp,hop,hm,hs,hv,hrun,Result.andThen]
 refine hK' _ _ (hK w' ⟨_,r1,fun y=>?_⟩ r2 r3)
 unfold addH
 by_cases e : y = k
 ·subst e;rw [if_pos rfl,if_pos rfl];rfl
 ·rw [if_neg e,if_neg e,h2 y];omega
theorem heldC_le (l : List Ca) (key : Int × Int) : 0≤heldC l key∧heldC l key≤l.length:=by
 unfold heldC cachedN
 split
 ·have:=List.countP_le_length (p:=fun c : Ca=>decide (c.fr = key.2)) (l:=l)
  omega
 ·omega
theorem pagesN_len (s : Sp) : (pagesN s).length≤64:=by
 unfold pagesN;have:=List.length_filter_le (fun n=>enS (flatN s n)) (List.range 64)
 simpa using this
theorem held_le (m : Ma) (i : Nat) (l : List Nat) (s : Sp) (key : Int × Int) : 0≤heldTo m i l s key∧heldTo m i l s key≤m.ca.length + 64 * m.sp.length + l.length:=by
 unfold heldTo;have h1 : (if key.1 = 1 then cachedN m.ca key.2 else 0)≤m.ca.length:=by
  split
  ·exact List.countP_le_length
  ·omega
 have h2 : ∀ (L : List Sp),(L.map fun s=>(pagesN s).countP fun n=>isE (flatN s n) key.1 key.2).sum≤64 * L.length:=by
  intro L
  induction L with
  | nil=>simp
  | cons a L ih =>
   have h3:=List.countP_le_length (p:=fun n=>isE (flatN a n) key.1 key.2) (l:=pagesN a)
   have h4:=pagesN_len a;simp only [List.map_cons,List.sum_cons,List.length_cons];omega
 have h5:=h2 (m.sp.take i);have h6 : (m.sp.take i).length≤m.sp.length:=by simp; omega
 have h7:=List.countP_le_length (p:=fun n=>isE (flatN s n) key.1 key.2) (l:=l)
 omega
def sp00 : Sp:=⟨true,[],[]⟩
theorem holders_any (V : MaV) (m : Ma) (w : World) (hm : MachAt w V m) (hsp4 : m.sp.length≤4) (htb : ∀ s∈m.sp,tbW s.tb = 0) :
  Calls Tryz.prog 87 #[.agg #[.slice V.f.a V.f.n V.f.c,.int .i64 m.hand,.slice V.s.a V.s.n V.s.c,.slice V.sb.a V.sb.n V.sb.c,.slice V.sq.a V.sq.n V.sq.c,.slice V.db.a V.db.n V.db.c,.slice V.dq.a V.dq.n V.dq.c,.slice V.fl.a V.fl.n V.fl.c,.int .i64 m.cnt,.slice V.ca.a V.ca.n V.ca.c,.slice V.sp.a V.sp.n V.sp.c]] w fun e w'=>∃ B,e = .returned (.map (some B))∧MapH enK w' B (heldTo m m.sp.length [] sp00)∧Grew w w':=by
 obtain ⟨vf,vs,vsb,vsq,vdb,vdq,vfl,⟨caa,can,cac⟩,⟨spa,spn,spc⟩⟩:=V;dsimp only;obtain ⟨-,-,-,-,-,-,-,n8,n9⟩:=hm.ns;dsimp only at n8 n9;have HR : Hid (CaRows w caa m.ca):=hm.cas;have HN : Hid (m.ca.length = can):=n8.symm;have hbig : can≤140737488355328:=by have:=hm.ca.2; have h24 : cchE.bytes = 24:=rfl; rw [h24] at this; omega
 obtain ⟨xs,hxl,hrow,hsp⟩:=hm.spaces;have HXL : Hid (xs.length = m.sp.length):=hxl;have HRS : Hid (∀ (j : Nat) x,xs[j]? = some x→∃ ad,spa = some ad∧∀ W,Grew w W→Sp10 W (ad.add (j * 10)) x):=hrow;have HSP : Hid (∀ (i : Nat) x s,xs[i]? = some x→m.sp[i]? = some s→SpaceAt w x s):=hsp;have HNS : Hid (m.sp.length = spn):=n9.symm;have HTBS : Hid (∀ s∈m.sp,tbW s.tb = 0):=htb;have HC0 : Hid (∀ j key,0≤heldC (m.ca.take j) key∧heldC (m.ca.take j) key≤140737488355328):=show ∀ j key,_ from fun j key=>by
  have h1:=heldC_le (m.ca.take j) key;have h2 : (m.ca.take j).length≤m.ca.length:=by simp; omega
  omega
 have HH0 : Hid (∀ i l s key,l.length≤64→0≤heldTo m i l s key∧heldTo m i l s key≤140737488360000):=show ∀ i l s key,_ from fun i l s key hl=>by
  have h1:=held_le m i l s key;omega
 have hsn4 : spn≤4:=by omega
 clear hm n8 n9 hxl hrow hsp hsp4 htb;have hmm:=@run_makeMap Tryz.prog;obtain ⟨W0,hW0⟩ : ∃ W0,(w.alloc (.cells #[.slice vf.a vf.n vf.c,.int .i64 m.hand,.slice vs.a vs.n vs.c,.slice vsb.a vsb.n vsb.c,.slice vsq.a vsq.n vsq.c,.slice vdb.a vdb.n vdb.c,.slice vdq.a vdq.n vdq.c,.slice vfl.a vfl.n vfl.c,.int .i64 m.cnt,.slice caa can cac,.slice spa spn spc] 40)).alloc (.map #[] 0) = W0:=⟨_,rfl⟩;have HG0 : Hid (Grew w W0):=show Grew _ _ by rw [←hW0]; exact (grew_alloc _ _).trans (grew_alloc _ _)
 have X0 : Hid (Box W0 w.heap.size [.slice vf.a vf.n vf.c,.int .i64 m.hand,.slice vs.a vs.n vs.c,.slice vsb.a vsb.n vsb.c,.slice vsq.a vsq.n vsq.c,.slice vdb.a vdb.n vdb.c,.slice vdq.a vdq.n vdq.c,.slice vfl.a vfl.n vfl.c,.int .i64 m.cnt,.slice caa can cac,.slice spa spn spc]):=show Box _ _ _ by rw [←hW0]; exact (Box.top _ _ _ rfl).alloc _
 have M0 : Hid (MapH enK W0 (w.heap.size + 1) (heldC (m.ca.take 0))):=show MapH _ _ _ _ by
  rw [←hW0];have:=MapF.made enK (w.alloc (.cells #[.slice vf.a vf.n vf.c,.int .i64 m.hand,.slice vs.a vs.n vs.c,.slice vsb.a vsb.n vsb.c,.slice vsq.a vsq.n vsq.c,.slice vdb.a vdb.n vdb.c,.slice vdq.a vdq.n vdq.c,.slice vfl.a vfl.n vfl.c,.int .i64 m.cnt,.slice caa can cac,.slice spa spn spc] 40));have hs : (w.alloc (.cells #[.slice vf.a vf.n vf.c,.int .i64 m.hand,.slice vs.a vs.n vs.c,.slice vsb.a vsb.n vsb.c,.slice vsq.a vsq.n vsq.c,.slice vdb.a vdb.n vdb.c,.slice vdq.a vdq.n vdq.c,.slice vfl.a vfl.n vfl.c,.int .i64 m.cnt,.slice caa can cac,.slice spa spn spc] 40)).heap.size = w.heap.size + 1:=by simp
  rw [hs] at this;exact ⟨_,this,fun k=>by rw [List.take_zero,heldC_nil]; rfl⟩
 have HW0 : Hid (_ = W0):=hW0;clear hW0
 go_enter Tryz.func87,Tryz.ntmps87
 go_upto_region 2 with fail;rw [HW0.out];clear hmm;have x9:=X0.out.c 9 rfl;go_wp2;clear x9
 go_loopg [15] can (fun gg s15 wr=>∃ kk : Nat,kk≤can∧can - kk≤gg∧s15 = .int .i64 kk∧Hid (Grew w wr)∧Hid (Box wr w.heap.size [.slice vf.a vf.n vf.c,.int .i64 m.hand,.slice vs.a vs.n vs.c,.slice vsb.a vsb.n vsb.c,.slice vsq.a vsq.n vsq.c,.slice vdb.a vdb.n vdb.c,.slice vdq.a vdq.n vdq.c,.slice vfl.a vfl.n vfl.c,.int .i64 m.cnt,.slice caa can cac,.slice spa spn spc])∧Hid (MapH enK wr (w.heap.size + 1) (heldC (m.ca.take kk))))
 case atStart=>exact ⟨0,Nat.zero_le _,by omega,rfl,HG0.out,X0.out,M0.out⟩
 case round =>
  obtain ⟨kk,hkk,hgg,rfl,BW,XW,MW⟩:=hrel;clear X0 M0 HG0
  by_cases hlt : kk < can
  ·have hltz : (kk : Int) < (can : Int):=by omega
   obtain ⟨c,HC⟩ : ∃ c,Hid (m.ca[kk]? = some c):=⟨_,List.getElem?_eq_getElem (by rw [HN.out]; exact hlt)⟩
   obtain ⟨ad,rfl,hl⟩:=HR.out kk c HC.out;obtain ⟨d0,d1,d2⟩:=hl wr BW.out;clear hl;go_upto_region 5 with fail;obtain ⟨W1,hW1⟩ : ∃ W1,wr.alloc (.cells #[.int .i64 c.file,.int .i64 c.idx,.int .i64 c.fr] 87) = W1:=⟨_,rfl⟩;have HG1 : Hid (Grew w W1):=show Grew _ _ by rw [←hW1]; exact BW.out.trans (grew_alloc _ _)
   have X1 : Hid (Box W1 w.heap.size [.slice vf.a vf.n vf.c,.int .i64 m.hand,.slice vs.a vs.n vs.c,.slice vsb.a vsb.n vsb.c,.slice vsq.a vsq.n vsq.c,.slice vdb.a vdb.n vdb.c,.slice vdq.a vdq.n vdq.c,.slice vfl.a vfl.n vfl.c,.int .i64 m.cnt,.slice (some ad) can cac,.slice spa spn spc]):=show Box _ _ _ by rw [←hW1]; exact XW.out.alloc _
   have M1 : Hid (MapH enK W1 (w.heap.size + 1) (heldC (m.ca.take kk))):=show MapH _ _ _ _ by rw [←hW1]; exact MW.out.grew (grew_alloc _ _)
   have C1 : Hid (Box W1 wr.heap.size [.int .i64 c.file,.int .i64 c.idx,.int .i64 c.fr]):=show Box _ _ _ by rw [←hW1]; exact Box.top _ _ _ rfl
   rw [hW1];clear hW1 d0 d1 d2;obtain ⟨pb,HPB⟩ : ∃ pb,Hid (wr.heap.size = pb):=⟨_,rfl⟩;rw [HPB.out] at C1 ⊢;obtain ⟨H,HH⟩ : ∃ H,Hid (heldC (m.ca.take kk) = H):=⟨_,rfl⟩;rw [HH.out] at M1;obtain ⟨hb0,hb1⟩ : 0≤H (1,c.fr)∧H (1,c.fr)≤140737488355328:=by rw [←HH.out]; exact HC0.out kk (1,c.fr)
   obtain ⟨I,hI⟩ : ∃ I : World→Prop,I = fun u=>MapH enK u (w.heap.size + 1) H∧Box u pb [.int .i64 c.file,.int .i64 c.idx,.int .i64 c.fr]∧Box u w.heap.size [.slice vf.a vf.n vf.c,.int .i64 m.hand,.slice vs.a vs.n vs.c,.slice vsb.a vsb.n vsb.c,.slice vsq.a vsq.n vsq.c,.slice vdb.a vdb.n vdb.c,.slice vdq.a vdq.n vdq.c,.slice vfl.a vfl.n vfl.c,.int .i64 m.cnt,.slice (some ad) can cac,.slice spa spn spc]∧Grew w u:=⟨_,rfl⟩
   have HI : Hid (∀ u,I u↔MapH enK u (w.heap.size + 1) H∧Box u pb [.int .i64 c.file,.int .i64 c.idx,.int .i64 c.fr]∧Box u w.heap.size [.slice vf.a vf.n vf.c,.int .i64 m.hand,.slice vs.a vs.n vs.c,.slice vsb.a vsb.n vsb.c,.slice vsq.a vsq.n vsq.c,.slice vdb.a vdb.n vdb.c,.slice vdq.a vdq.n vdq.c,.slice vfl.a vfl.n vfl.c,.int .i64 m.cnt,.slice (some ad) can cac,.slice spa spn spc]∧Grew w u):=show ∀ u,_ from fun u=>by rw [hI]
   clear hI;have hx2 : ∀ y : HoldI I,y.world.cell? ⟨pb,2,none⟩ = some (.int .i64 c.fr):=fun y=>((HI.out _).1 y.holds).2.1.c 2 rfl
   have hlk : ∀ y : HoldI I,(Instr.lookup 160 (.map (some (w.heap.size + 1))) (.agg #[.int .i64 1,.int .i64 c.fr,.bool false]) false).run Tryz.prog y.world = .ok (.int .i64 (H (1,c.fr))) y.world:=fun y=>((HI.out _).1 y.holds).1.look (K:=enK) Tryz.underlying160 (Tryz.zeroInt _) (1,c.fr)
   have hI0 : I W1.drew:=(HI.out _).2 ⟨M1.out.grew (show Below _ _ _ from (Below.refl _ _).drew),C1.out.grew (show Below _ _ _ from (Below.refl _ _).drew),X1.out.grew (show Below _ _ _ from (Below.refl _ _).drew),HG1.out.trans (show Below _ _ _ from (Below.refl _ _).drew)⟩
   have hne : Nonempty (HoldI I):=⟨⟨_,hI0⟩⟩;refine wp_lax_tailI (I:=I) 8 [(6,⟨fun v=>∃ st,v = .tuple #[.int .i64 (H (1,c.fr)),.int .i64 st],fun v w'=>∃ st,v = .tuple #[.int .i64 (H (1,c.fr)),.int .i64 st]∧MapEH enK w' (w.heap.size + 1) H (1,c.fr) st,fun _ _=>True,fun _=>True⟩)] hI0 mixed (by kernel_rfl) rfl rfl (by decide) ?hS ?hp ?hpre ?hpr0 ?_
   case hS =>
    intro y hy;simp only [List.mem_cons,List.not_mem_nil,or_false] at hy;subst hy;exact ⟨_,0,rfl⟩
   case hp =>
    intro k s j t' hk hj hjk _ v p q hst hpo;obtain ⟨rfl,rfl⟩:=look1 hk;obtain ⟨rfl,rfl⟩:=look1 hj;exact absurd rfl hjk
   case hpre =>
    intro j t' k s hj hk hjk p q hst hpr;obtain ⟨rfl,rfl⟩:=look1 hj;trivial
   case hpr0 =>
    intro k t' hk;obtain ⟨rfl,rfl⟩:=look1 hk;trivial
   simp only [List.take,List.drop];iterate 6 (refine laxI_quiet rfl rfl rfl (fun K hK=>?_); go_big_quiet_op; refine hK _ ?_; clear hK K)
   refine laxI_spec rfl rfl (fun w' hI' hpr hF=>?_) (fun v1 hv=>?_)
   ·obtain ⟨i1,i2,i3,i4⟩:=(HI.out _).1 hI';obtain ⟨w2,st,hrun,r1,r2,r3⟩:=i1.entry (K:=enK) Tryz.underlying160 (Tryz.zeroInt w') (1,c.fr);have hrun' : (Instr.mapEntry 160 (.map (some (w.heap.size + 1))) (.agg #[.int .i64 1,.int .i64 c.fr,.bool false])).run Tryz.prog w' = .ok (.tuple #[.int .i64 (H (1,c.fr)),.int .i64 st]) w2:=hrun;clear hx2 hlk hne;refine Does.step (v:= .tuple #[.int .i64 (H (1,c.fr)),.int .i64 st]) (w':=w2) (by simp only [execOp]; go_simp) ⟨(HI.out _).2 ⟨r1.h,i2.grown r2 (i1.ne_box i2),i3.grown r2 (i1.ne_box i3),grew_grown i4 r2 (by omega)⟩,trivial,⟨_,rfl⟩,_,rfl,r1⟩
   obtain ⟨st,rfl⟩:=hv;simp only [Act.put,List.setIfInBounds_toArray,List.set_cons_succ,List.set_cons_zero];iterate 1 (refine laxI_quiet rfl rfl rfl (fun K hK=>?_); go_big_quiet_op; refine hK _ ?_; clear hK K)
   refine laxI_nil fun W3 hI3 hF=>?_
   obtain ⟨i1,i2,i3,i4⟩:=(HI.out _).1 hI3;obtain ⟨st',hst,hE⟩ : ∃ st',(Value.tuple #[.int .i64 (H (1,c.fr)),.int .i64 st]) = .tuple #[.int .i64 (H (1,c.fr)),.int .i64 st']∧MapEH enK W3 (w.heap.size + 1) H (1,c.fr) st':=hF 6;have hE' : MapEH enK W3 (w.heap.size + 1) H (1,c.fr) st:=by
    simp at hst
    rw [hst];exact hE
   have X3 : Hid (Box W3 w.heap.size [.slice vf.a vf.n vf.c,.int .i64 m.hand,.slice vs.a vs.n vs.c,.slice vsb.a vsb.n vsb.c,.slice vsq.a vsq.n vsq.c,.slice vdb.a vdb.n vdb.c,.slice vdq.a vdq.n vdq.c,.slice vfl.a vfl.n vfl.c,.int .i64 m.cnt,.slice (some ad) can cac,.slice spa spn spc]):=i3;have HG3 : Hid (Grew w W3):=i4;have HE3 : Hid (MapEH enK W3 (w.heap.size + 1) H (1,c.fr) st):=hE';clear hx2 hlk hne hF hI3 i1 i2 i3 i4 hE hst hE' hI0;refine wp_storeEntry (K:=enK) rfl 160 (.tmp 19) (.tmp 26) (.tmp 24) rfl (w.heap.size + 1) H (1,c.fr) st HE3.out rfl rfl (by go_num) ?_
   intro W4 m4 hg4 _;have X4 : Hid (Box W4 w.heap.size [.slice vf.a vf.n vf.c,.int .i64 m.hand,.slice vs.a vs.n vs.c,.slice vsb.a vsb.n vsb.c,.slice vsq.a vsq.n vsq.c,.slice vdb.a vdb.n vdb.c,.slice vdq.a vdq.n vdq.c,.slice vfl.a vfl.n vfl.c,.int .i64 m.cnt,.slice (some ad) can cac,.slice spa spn spc]):=X3.out.grown hg4 (by omega)
   have HG4 : Hid (Grew w W4):=show Grew _ _ from grew_grown HG3.out hg4 (by omega)
   have M4 : Hid (MapH enK W4 (w.heap.size + 1) (heldC (m.ca.take (kk + 1)))):=show MapH _ _ _ _ from m4.congr fun k=>by rw [take_snoc HC.out,heldC_step,←HH.out]; rfl
   clear m4 hg4 hb0 hb1;go_wp2
   go_roundg (can - (kk + 1))
   case measure=>omega
   case rel=>exact ⟨kk + 1,by omega,by omega,by go_num,HG4.out,X4.out,M4.out⟩
  ·have hltz : ¬ (kk : Int) < (can : Int):=by omega
   have : kk = can:=by omega
   subst this;have MA1 : Hid (MapH enK wr (w.heap.size + 1) (heldTo m 0 [] sp00)):=show MapH _ _ _ _ from MW.out.congr fun k=>by
    rw [List.take_of_length_le (by rw [HN.out]; exact Nat.le_refl _)]
    exact heldC_all m sp00 k
   have x10:=XW.out.c 10 rfl;go_wp2;clear x10;have HBW : Hid (Grew w wr):=BW;clear BW XW MW
   go_loopg [31] spn (fun gg s31 wr=>∃ i : Nat,i≤spn∧spn - i≤gg∧s31 = .int .i64 i∧Hid (Grew w wr)∧Hid (MapH enK wr (w.heap.size + 1) (heldTo m i [] sp00)))
   case atStart=>exact ⟨0,Nat.zero_le _,by omega,rfl,HBW.out,MA1.out⟩
   case round =>
    obtain ⟨i,hi,hg2,rfl,BW,MW⟩:=hrel;clear HBW MA1
    by_cases hlt2 : i < spn
    ·have hltz2 : (i : Int) < (spn : Int):=by omega
     obtain ⟨s,HS⟩ : ∃ s,Hid (m.sp[i]? = some s):=⟨_,List.getElem?_eq_getElem (by rw [HNS.out]; exact hlt2)⟩
     obtain ⟨x,HX⟩ : ∃ x,Hid (xs[i]? = some x):=⟨_,List.getElem?_eq_getElem (by rw [HXL.out,HNS.out]; exact hlt2)⟩
     have HAT : Hid (SpaceAt w x s):=HSP.out i x s HX.out HS.out;obtain ⟨ad,rfl,hl⟩:=HRS.out i x HX.out;obtain ⟨d0,d1,d2,d3,d4,d5,d6,d7,d8,d9⟩:=hl wr BW.out;clear hl;go_upto_region 10 with fail;obtain ⟨W1,hW1⟩ : ∃ W1,wr.alloc (.cells #[.bool x.live,.slice x.ar.a x.ar.n x.ar.c,.slice x.t0.a x.t0.n x.t0.c,.slice x.t1.a x.t1.n x.t1.c,.slice x.t2.a x.t2.n x.t2.c,.slice x.t3.a x.t3.n x.t3.c,.slice x.t4.a x.t4.n x.t4.c,.slice x.t5.a x.t5.n x.t5.c,.slice x.t6.a x.t6.n x.t6.c,.slice x.t7.a x.t7.n x.t7.c] 65) = W1:=⟨_,rfl⟩;have HG1 : Hid (Grew w W1):=show Grew _ _ by rw [←hW1]; exact BW.out.trans (grew_alloc _ _)
     have M1 : Hid (MapH enK W1 (w.heap.size + 1) (heldTo m i [] s)):=show MapH _ _ _ _ by rw [←hW1]; exact (MW.out.grew (grew_alloc _ _)).congr fun k=>by unfold heldTo; simp
     have S1 : Hid (Box W1 wr.heap.size [.bool x.live,.slice x.ar.a x.ar.n x.ar.c,.slice x.t0.a x.t0.n x.t0.c,.slice x.t1.a x.t1.n x.t1.c,.slice x.t2.a x.t2.n x.t2.c,.slice x.t3.a x.t3.n x.t3.c,.slice x.t4.a x.t4.n x.t4.c,.slice x.t5.a x.t5.n x.t5.c,.slice x.t6.a x.t6.n x.t6.c,.slice x.t7.a x.t7.n x.t7.c]):=show Box _ _ _ by rw [←hW1]; exact Box.top _ _ _ rfl
     rw [hW1];clear hW1 d0 d1 d2 d3 d4 d5 d6 d7 d8 d9;obtain ⟨pb,HPB⟩ : ∃ pb,Hid (wr.heap.size = pb):=⟨_,rfl⟩;rw [HPB.out] at S1 ⊢;have hcall : Calls Tryz.prog 85 #[.agg #[.slice x.t0.a x.t0.n x.t0.c,.slice x.t1.a x.t1.n x.t1.c,.slice x.t2.a x.t2.n x.t2.c,.slice x.t3.a x.t3.n x.t3.c,.slice x.t4.a x.t4.n x.t4.c,.slice x.t5.a x.t5.n x.t5.c,.slice x.t6.a x.t6.n x.t6.c,.slice x.t7.a x.t7.n x.t7.c]] W1 fun e w'=>∃ v,e = .returned v∧OwnRow blE W1.heap.size w' v (pagesTo s.tb anyEn 64)∧Grew W1 w':=pagesTb_any x.tab s.tb W1 (HAT.out.grew HG1.out).tb
     have s2:=S1.out.c 2 rfl;have s3:=S1.out.c 3 rfl;have s4:=S1.out.c 4 rfl;have s5:=S1.out.c 5 rfl;have s6:=S1.out.c 6 rfl;have s7:=S1.out.c 7 rfl;have s8:=S1.out.c 8 rfl;have s9:=S1.out.c 9 rfl;go_wp2_with fail;refine hcall.mono ?_;clear hcall s2 s3 s4 s5 s6 s7 s8 s9;rintro e' W2 ⟨pv,rfl,ow2,hg2'⟩;have HG2 : Hid (Grew w W2):=HG1.out.trans hg2';have M2 : Hid (MapH enK W2 (w.heap.size + 1) (heldTo m i [] s)):=M1.out.grew hg2';have S2 : Hid (Box W2 pb [.bool x.live,.slice x.ar.a x.ar.n x.ar.c,.slice x.t0.a x.t0.n x.t0.c,.slice x.t1.a x.t1.n x.t1.c,.slice x.t2.a x.t2.n x.t2.c,.slice x.t3.a x.t3.n x.t3.c,.slice x.t4.a x.t4.n x.t4.c,.slice x.t5.a x.t5.n x.t5.c,.slice x.t6.a x.t6.n x.t6.c,.slice x.t7.a x.t7.n x.t7.c]):=S1.out.grew hg2';have HW1L : Hid (w.heap.size≤W1.heap.size):=show _≤_ from Below.size HG1.out
     clear hg2';obtain ⟨pa,pc,rfl⟩:=ow2.form;have hq0:=ow2.at.short;rw [pagesTo_any] at ow2 hq0 ⊢;rw [List.length_map] at ow2 hq0 ⊢;obtain ⟨q,HQ⟩ : ∃ q,Hid ((pagesN s).length = q):=⟨_,rfl⟩;rw [HQ.out] at ow2 hq0 ⊢;have OW2 : Hid (OwnRow blE W1.heap.size W2 (.slice pa q pc) ((pagesN s).map fun (n : Nat)=>(n : Int))):=ow2
     have hq64 : q≤64:=by rw [←HQ.out]; exact pagesN_len s
     clear ow2;go_wp2;clear BW MW
     go_loopg [39] q (fun gg s39 wr=>∃ j : Nat,j≤q∧q - j≤gg∧s39 = .int .i64 j∧Hid (Grew w wr)∧Hid (OwnRow blE W1.heap.size wr (.slice pa q pc) ((pagesN s).map fun (n : Nat)=>(n : Int)))∧Hid (Box wr pb [.bool x.live,.slice x.ar.a x.ar.n x.ar.c,.slice x.t0.a x.t0.n x.t0.c,.slice x.t1.a x.t1.n x.t1.c,.slice x.t2.a x.t2.n x.t2.c,.slice x.t3.a x.t3.n x.t3.c,.slice x.t4.a x.t4.n x.t4.c,.slice x.t5.a x.t5.n x.t5.c,.slice x.t6.a x.t6.n x.t6.c,.slice x.t7.a x.t7.n x.t7.c])∧Hid (MapH enK wr (w.heap.size + 1) (heldTo m i ((pagesN s).take j) s)))
     case atStart=>exact ⟨0,Nat.zero_le _,by omega,rfl,HG2.out,OW2.out,S2.out,by rw [List.take_zero]; exact M2.out⟩
     case round =>
      obtain ⟨j,hj,hg3,rfl,BW,OW,SW,MW⟩:=hrel;clear S2 M2 OW2 HG2
      by_cases hlt3 : j < q
      ·have hltz3 : (j : Int) < (q : Int):=by omega
       obtain ⟨n,HNI⟩ : ∃ n,Hid ((pagesN s)[j]? = some n):=⟨_,List.getElem?_eq_getElem (by rw [HQ.out]; exact hlt3)⟩
       have hn64 : n < 64:=pagesN_lt HNI.out;have HTS : Hid ((pagesN s).take (j + 1) = (pagesN s).take j ++ [n]):=take_snoc HNI.out;obtain ⟨_,_,heq,hnr⟩:=OW.out.at.nums;simp only [Value.slice.injEq] at heq;obtain ⟨ad2,had2,hl2⟩:=hnr j (n : Int) (by rw [List.getElem?_map,HNI.out]; rfl)
       have e0:=hl2 wr (Grew.refl _);rw [←heq.1] at had2;subst had2;clear hl2 heq hnr;have hcg : Calls Tryz.prog 64 #[.agg #[.slice x.t0.a x.t0.n x.t0.c,.slice x.t1.a x.t1.n x.t1.c,.slice x.t2.a x.t2.n x.t2.c,.slice x.t3.a x.t3.n x.t3.c,.slice x.t4.a x.t4.n x.t4.c,.slice x.t5.a x.t5.n x.t5.c,.slice x.t6.a x.t6.n x.t6.c,.slice x.t7.a x.t7.n x.t7.c],.int .i64 (n : Int)] wr fun e w'=>e = .returned (enV (flatN s n))∧Grew wr w':=by
        have:=getTb_any x.tab s.tb (n : Int) wr (HAT.out.grew BW.out).tb;rw [get_flat hn64] at this;exact this
       obtain ⟨en,HEN⟩ : ∃ en,Hid (flatN s n = en):=⟨_,rfl⟩;rw [HEN.out] at hcg;have s2:=SW.out.c 2 rfl;have s3:=SW.out.c 3 rfl;have s4:=SW.out.c 4 rfl;have s5:=SW.out.c 5 rfl;have s6:=SW.out.c 6 rfl;have s7:=SW.out.c 7 rfl;have s8:=SW.out.c 8 rfl;have s9:=SW.out.c 9 rfl;go_wp2_with fail;refine hcg.mono ?_;clear hcg e0 s2 s3 s4 s5 s6 s7 s8 s9;rintro e' W4 ⟨rfl,hg4⟩;have HG4 : Hid (Grew w W4):=BW.out.trans hg4;have OW4 : Hid (OwnRow blE W1.heap.size W4 (.slice (some ad2) q pc) ((pagesN s).map fun (n : Nat)=>(n : Int))):=OW.out.grew hg4
       have S4 : Hid (Box W4 pb [.bool x.live,.slice x.ar.a x.ar.n x.ar.c,.slice x.t0.a x.t0.n x.t0.c,.slice x.t1.a x.t1.n x.t1.c,.slice x.t2.a x.t2.n x.t2.c,.slice x.t3.a x.t3.n x.t3.c,.slice x.t4.a x.t4.n x.t4.c,.slice x.t5.a x.t5.n x.t5.c,.slice x.t6.a x.t6.n x.t6.c,.slice x.t7.a x.t7.n x.t7.c]):=SW.out.grew hg4;have M4 : Hid (MapH enK W4 (w.heap.size + 1) (heldTo m i ((pagesN s).take j) s)):=MW.out.grew hg4;clear hg4;unfold enV;go_upto_region 14 with fail;obtain ⟨W5,hW5⟩ : ∃ W5,W4.alloc (.cells #[.int .i64 en.kind,.int .i64 en.n,.bool en.wr] 67) = W5:=⟨_,rfl⟩;have HG5 : Hid (Grew w W5):=show Grew _ _ by rw [←hW5]; exact HG4.out.trans (grew_alloc _ _)
       have OW5 : Hid (OwnRow blE W1.heap.size W5 (.slice (some ad2) q pc) ((pagesN s).map fun (n : Nat)=>(n : Int))):=show OwnRow _ _ _ _ _ by rw [←hW5]; exact OW4.out.grew (grew_alloc _ _)
       have S5 : Hid (Box W5 pb [.bool x.live,.slice x.ar.a x.ar.n x.ar.c,.slice x.t0.a x.t0.n x.t0.c,.slice x.t1.a x.t1.n x.t1.c,.slice x.t2.a x.t2.n x.t2.c,.slice x.t3.a x.t3.n x.t3.c,.slice x.t4.a x.t4.n x.t4.c,.slice x.t5.a x.t5.n x.t5.c,.slice x.t6.a x.t6.n x.t6.c,.slice x.t7.a x.t7.n x.t7.c]):=show Box _ _ _ by rw [←hW5]; exact S4.out.alloc _
       have M5 : Hid (MapH enK W5 (w.heap.size + 1) (heldTo m i ((pagesN s).take j) s)):=show MapH _ _ _ _ by rw [←hW5]; exact M4.out.grew (grew_alloc _ _)
       have E5 : Hid (Box W5 W4.heap.size [.int .i64 en.kind,.int .i64 en.n,.bool en.wr]):=show Box _ _ _ by rw [←hW5]; exact Box.top _ _ _ rfl
       rw [hW5];clear hW5;obtain ⟨pe,HPE⟩ : ∃ pe,Hid (W4.heap.size = pe):=⟨_,rfl⟩;rw [HPE.out] at E5 ⊢;obtain ⟨H,HH⟩ : ∃ H,Hid (heldTo m i ((pagesN s).take j) s = H):=⟨_,rfl⟩;rw [HH.out] at M5;obtain ⟨hb0,hb1⟩ : 0≤H (en.kind,en.n)∧H (en.kind,en.n)≤140737488360000:=by rw [←HH.out]; exact HH0.out i _ s (en.kind,en.n) (by simp; omega)
       obtain ⟨I,hI⟩ : ∃ I : World→Prop,I = fun u=>MapH enK u (w.heap.size + 1) H∧Box u pe [.int .i64 en.kind,.int .i64 en.n,.bool en.wr]∧Box u pb [.bool x.live,.slice x.ar.a x.ar.n x.ar.c,.slice x.t0.a x.t0.n x.t0.c,.slice x.t1.a x.t1.n x.t1.c,.slice x.t2.a x.t2.n x.t2.c,.slice x.t3.a x.t3.n x.t3.c,.slice x.t4.a x.t4.n x.t4.c,.slice x.t5.a x.t5.n x.t5.c,.slice x.t6.a x.t6.n x.t6.c,.slice x.t7.a x.t7.n x.t7.c]∧OwnRow blE W1.heap.size u (.slice (some ad2) q pc) ((pagesN s).map fun (n : Nat)=>(n : Int))∧Grew w u:=⟨_,rfl⟩
       have HI : Hid (∀ u,I u↔MapH enK u (w.heap.size + 1) H∧Box u pe [.int .i64 en.kind,.int .i64 en.n,.bool en.wr]∧Box u pb [.bool x.live,.slice x.ar.a x.ar.n x.ar.c,.slice x.t0.a x.t0.n x.t0.c,.slice x.t1.a x.t1.n x.t1.c,.slice x.t2.a x.t2.n x.t2.c,.slice x.t3.a x.t3.n x.t3.c,.slice x.t4.a x.t4.n x.t4.c,.slice x.t5.a x.t5.n x.t5.c,.slice x.t6.a x.t6.n x.t6.c,.slice x.t7.a x.t7.n x.t7.c]∧OwnRow blE W1.heap.size u (.slice (some ad2) q pc) ((pagesN s).map fun (n : Nat)=>(n : Int))∧Grew w u):=show ∀ u,_ from fun u=>by rw [hI]
       clear hI;have hx0 : ∀ y : HoldI I,y.world.cell? ⟨pe,0,none⟩ = some (.int .i64 en.kind):=fun y=>((HI.out _).1 y.holds).2.1.c 0 rfl
       have hx1 : ∀ y : HoldI I,y.world.cell? ⟨pe,1,none⟩ = some (.int .i64 en.n):=fun y=>((HI.out _).1 y.holds).2.1.c 1 rfl
       have hlk : ∀ y : HoldI I,(Instr.lookup 160 (.map (some (w.heap.size + 1))) (.agg #[.int .i64 en.kind,.int .i64 en.n,.bool false]) false).run Tryz.prog y.world = .ok (.int .i64 (H (en.kind,en.n))) y.world:=fun y=>((HI.out _).1 y.holds).1.look (K:=enK) Tryz.underlying160 (Tryz.zeroInt _) (en.kind,en.n)
       have hI0 : I W5.drew:=(HI.out _).2 ⟨M5.out.grew (show Below _ _ _ from (Below.refl _ _).drew),E5.out.grew (show Below _ _ _ from (Below.refl _ _).drew),S5.out.grew (show Below _ _ _ from (Below.refl _ _).drew),OW5.out.grew (show Below _ _ _ from (Below.refl _ _).drew),HG5.out.trans (show Below _ _ _ from (Below.refl _ _).drew)⟩
       have hne : Nonempty (HoldI I):=⟨⟨_,hI0⟩⟩;refine wp_lax_tailI (I:=I) 10 [(8,⟨fun v=>∃ st,v = .tuple #[.int .i64 (H (en.kind,en.n)),.int .i64 st],fun v w'=>∃ st,v = .tuple #[.int .i64 (H (en.kind,en.n)),.int .i64 st]∧MapEH enK w' (w.heap.size + 1) H (en.kind,en.n) st,fun _ _=>True,fun _=>True⟩)] hI0 mixed (by kernel_rfl) rfl rfl (by decide) ?hS ?hp ?hpre ?hpr0 ?_
       case hS =>
        intro y hy;simp only [List.mem_cons,List.not_mem_nil,or_false] at hy;subst hy;exact ⟨_,0,rfl⟩
       case hp =>
        intro k s j t' hk hj hjk _ v p q hst hpo;obtain ⟨rfl,rfl⟩:=look1 hk;obtain ⟨rfl,rfl⟩:=look1 hj;exact absurd rfl hjk
       case hpre =>
        intro j t' k s hj hk hjk p q hst hpr;obtain ⟨rfl,rfl⟩:=look1 hj;trivial
       case hpr0 =>
        intro k t' hk;obtain ⟨rfl,rfl⟩:=look1 hk;trivial
       simp only [List.take,List.drop];iterate 8 (refine laxI_quiet rfl rfl rfl (fun K hK=>?_); go_big_quiet_op; refine hK _ ?_; clear hK K)
       refine laxI_spec rfl rfl (fun w' hI' hpr hF=>?_) (fun v1 hv=>?_)
       ·obtain ⟨i1,i2,i3,i4,i5⟩:=(HI.out _).1 hI';obtain ⟨w2,st,hrun,r1,r2,r3⟩:=i1.entry (K:=enK) Tryz.underlying160 (Tryz.zeroInt w') (en.kind,en.n);have hrun' : (Instr.mapEntry 160 (.map (some (w.heap.size + 1))) (.agg #[.int .i64 en.kind,.int .i64 en.n,.bool false])).run Tryz.prog w' = .ok (.tuple #[.int .i64 (H (en.kind,en.n)),.int .i64 st]) w2:=hrun;clear hx0 hx1 hlk hne;refine Does.step (v:= .tuple #[.int .i64 (H (en.kind,en.n)),.int .i64 st]) (w':=w2) (by simp only [execOp]; go_simp) ⟨(HI.out _).2 ⟨r1.h,i2.grown r2 (i1.ne_box i2),i3.grown r2 (i1.ne_box i3),i4.grown r2 (i1.ne_own i4),grew_grown i5 r2 (by omega)⟩,trivial,⟨_,rfl⟩,_,rfl,r1⟩
       obtain ⟨st,rfl⟩:=hv;simp only [Act.put,List.setIfInBounds_toArray,List.set_cons_succ,List.set_cons_zero];iterate 1 (refine laxI_quiet rfl rfl rfl (fun K hK=>?_); go_big_quiet_op; refine hK _ ?_; clear hK K)
       refine laxI_nil fun W6 hI6 hF=>?_
       obtain ⟨i1,i2,i3,i4,i5⟩:=(HI.out _).1 hI6;obtain ⟨st',hst,hE⟩ : ∃ st',(Value.tuple #[.int .i64 (H (en.kind,en.n)),.int .i64 st]) = .tuple #[.int .i64 (H (en.kind,en.n)),.int .i64 st']∧MapEH enK W6 (w.heap.size + 1) H (en.kind,en.n) st':=hF 8;have hE' : MapEH enK W6 (w.heap.size + 1) H (en.kind,en.n) st:=by
        simp at hst
        rw [hst];exact hE
       have S6 : Hid (Box W6 pb [.bool x.live,.slice x.ar.a x.ar.n x.ar.c,.slice x.t0.a x.t0.n x.t0.c,.slice x.t1.a x.t1.n x.t1.c,.slice x.t2.a x.t2.n x.t2.c,.slice x.t3.a x.t3.n x.t3.c,.slice x.t4.a x.t4.n x.t4.c,.slice x.t5.a x.t5.n x.t5.c,.slice x.t6.a x.t6.n x.t6.c,.slice x.t7.a x.t7.n x.t7.c]):=i3;have OW6 : Hid (OwnRow blE W1.heap.size W6 (.slice (some ad2) q pc) ((pagesN s).map fun (n : Nat)=>(n : Int))):=i4
       have HG6 : Hid (Grew w W6):=i5;have M6 : Hid (MapH enK W6 (w.heap.size + 1) H):=i1;have HE6 : Hid (MapEH enK W6 (w.heap.size + 1) H (en.kind,en.n) st):=hE';clear hx0 hx1 hlk hne hF hI6 i1 i2 i3 i4 i5 hE hst hE' hI0;refine wp_storeEntry (K:=enK) rfl 160 (.tmp 47) (.tmp 56) (.tmp 54) rfl (w.heap.size + 1) H (en.kind,en.n) st HE6.out rfl rfl (by go_num) ?_
       intro W7 m7 hg7 _;have S7 : Hid (Box W7 pb [.bool x.live,.slice x.ar.a x.ar.n x.ar.c,.slice x.t0.a x.t0.n x.t0.c,.slice x.t1.a x.t1.n x.t1.c,.slice x.t2.a x.t2.n x.t2.c,.slice x.t3.a x.t3.n x.t3.c,.slice x.t4.a x.t4.n x.t4.c,.slice x.t5.a x.t5.n x.t5.c,.slice x.t6.a x.t6.n x.t6.c,.slice x.t7.a x.t7.n x.t7.c]):=S6.out.grown hg7 (M6.out.ne_box S6.out);have OW7 : Hid (OwnRow blE W1.heap.size W7 (.slice (some ad2) q pc) ((pagesN s).map fun (n : Nat)=>(n : Int))):=OW6.out.grown hg7 (M6.out.ne_own OW6.out)
       have HG7 : Hid (Grew w W7):=show Grew _ _ from grew_grown HG6.out hg7 (by omega)
       have M7 : Hid (MapH enK W7 (w.heap.size + 1) (heldTo m i ((pagesN s).take (j + 1)) s)):=show MapH _ _ _ _ from m7.congr fun k=>by rw [HTS.out,held_page,HEN.out,HH.out]; rfl
       clear m7 hg7 hb0 hb1;go_wp2
       go_roundg (q - (j + 1))
       case measure=>omega
       case rel=>exact ⟨j + 1,by omega,by omega,by go_num,HG7.out,OW7.out,S7.out,M7.out⟩
      ·have hltz3 : ¬ (j : Int) < (q : Int):=by omega
       have : j = q:=by omega
       subst this;have M8 : Hid (MapH enK wr (w.heap.size + 1) (heldTo m (i + 1) [] sp00)):=show MapH _ _ _ _ from MW.out.congr fun k=>by
        rw [List.take_of_length_le (by rw [HQ.out]; exact Nat.le_refl _)]
        exact held_next m i s sp00 HS.out k
       go_wp2
       go_roundg (spn - (i + 1))
       case measure=>omega
       case rel=>exact ⟨i + 1,by omega,by omega,by go_num,BW.out,M8.out⟩
    ·have hltz2 : ¬ (i : Int) < (spn : Int):=by omega
     have : i = spn:=by omega
     subst this;have M9 : Hid (MapH enK wr (w.heap.size + 1) (heldTo m m.sp.length [] sp00)):=show MapH _ _ _ _ by rw [HNS.out]; exact MW.out
     go_wp2;go_ret;exact ⟨_,rfl,M9.out,BW.out⟩
end
end Go.Proofs.YtjleclgecnndjaaGreat
