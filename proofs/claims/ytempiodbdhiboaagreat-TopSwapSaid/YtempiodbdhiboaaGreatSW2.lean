import Derived.Test.YtempiodbdhiboaaGreatSW1
import Derived.ChangeKeysEq
import Derived.Deep.Cut
namespace Go.Proofs.YtempiodbdhiboaaGreat
open Go.Value renaming slice→O,int→Xe,bool→Xh,agg→Xi,pointer→Xj,tuple→Xm
open Go.IntKind renaming i64→Xf,u8→Xg
open Go.Obj renaming cells→Xk
open Go.Ending renaming returned→Xl
open Go renaming World→Xn,Calls→Xp,Value→Xq
open Go.RowKit renaming Hid→Xo
open Option renaming some→Xa,none→Xb
open Bool renaming true→Xc,false→Xd
open List renaming replicate→Xr
open Go.Region renaming wanted→Xs
open Go.Act renaming put→Xt
open _root_.List renaming drop_of_length_le→Xu,all_eq_true→Xv,length_pos_iff→Xw
open Go.Addr renaming add_lit→Xx
set_option maxRecDepth 100000
set_option maxHeartbeats 4000000
section
open Go.RowKit
theorem caE_prog (m:Ma) (c:Ca):caE m Xb c=if hasP m.fl c.file c.idx=Xd\/bel c.fr m.fs.length=Xd then 3 else if(frAt m c.fr).r=0\/(frAt m c.fr).f≠c.file\/(frAt m c.fr).x≠c.idx then 7 else 0:=by
 unfold caE hasP;have hb:∀(a b:Int),bel a b=Xd↔(a<0\/b<=a):=fun a b=>by
  constructor
  ·intro h
   rcases Int.lt_or_le a 0 with h1 | h1
   ·exact .inl h1
   rcases Int.lt_or_le a b with h2 | h2
   ·rw[bel_iff.2 ⟨h1,h2⟩]at h;cases h
   exact .inr h2
  intro h;exact bel_no (by omega)
 have he:(c.file<0\/(m.fl.length:Int)<=c.file\/c.idx<0\/bkN m c.file<=c.idx\/c.fr<0\/(m.fs.length:Int)<=c.fr)↔((bel c.file m.fl.length && bel c.idx ((m.fl.getD c.file.toNat ⟨0,[]⟩).bl.length:Nat))=Xd\/bel c.fr m.fs.length=Xd):=by
  rw[Bool.and_eq_false_iff,hb,hb,hb];unfold bkN;omega
 simp only[he]
theorem wrongCached_any (V:MaV) (m:Ma) (c:Ca) (w:Xn) (hm:MachAt w V m):
  Xp Tryz.prog 64 #[Xi #[O V.f.a V.f.n V.f.c,Xe Xf m.hand,O V.s.a V.s.n V.s.c,O V.sb.a V.sb.n V.sb.c,O V.sq.a V.sq.n V.sq.c,O V.db.a V.db.n V.db.c,O V.dq.a V.dq.n V.dq.c,O V.fl.a V.fl.n V.fl.c,Xe Xf m.cnt,O V.ca.a V.ca.n V.ca.c,O V.sp.a V.sp.n V.sp.c],Xi #[Xe Xf c.file,Xe Xf c.idx,Xe Xf c.fr]] w fun e w'=>e= Xl (Xe Xf (caE m Xb c))/\Grew w w':=by
 obtain⟨n1,-⟩:=hm.ns;rw[caE_prog,<-n1];have HHP:Xo (∀W,Grew w W->Xp Tryz.prog 119 #[Xi #[O V.fl.a V.fl.n V.fl.c,Xe Xf m.cnt],Xe Xf c.file,Xe Xf c.idx] W fun e w'=>e= Xl (Xh (hasP m.fl c.file c.idx))/\Grew W w'):=show∀W,_ from fun W hW=>hasPage_any _ m.fl m.cnt c.file c.idx W (hm.grew hW).fl
 have HBL:Xo (∀W,Xp Tryz.prog 120 #[Xe Xf c.fr,Xe Xf V.f.n] W fun e w'=>e= Xl (Xh (bel c.fr V.f.n))/\w'=W):=show∀W,_ from fun W=>belowM_any c.fr V.f.n W
 have HF:Xo (m.fs.length=V.f.n):=n1.symm;have HR:Xo (FrRows w V.f.a m.fs):=hm.frs;clear hm n1;obtain⟨W2,hW2⟩:∃W2,(w.alloc (Xk #[O V.f.a V.f.n V.f.c,Xe Xf m.hand,O V.s.a V.s.n V.s.c,O V.sb.a V.sb.n V.sb.c,O V.sq.a V.sq.n V.sq.c,O V.db.a V.db.n V.db.c,O V.dq.a V.dq.n V.dq.c,O V.fl.a V.fl.n V.fl.c,Xe Xf m.cnt,O V.ca.a V.ca.n V.ca.c,O V.sp.a V.sp.n V.sp.c] 42)).alloc (Xk #[Xe Xf c.file,Xe Xf c.idx,Xe Xf c.fr] 105)=W2:=⟨_,rfl⟩;have HG2:=gD2 hW2
 have X2:=x2a hW2
 have Y2:=x2b hW2
 have HS2:Xo (W2.heap.size=w.heap.size+1+1):=show _=_ by rw[<-hW2];simp
 have HW2:Xo (_=W2):=hW2;clear hW2;have HC1:=HHP.out W2 HG2.out;clear HHP;have x7:=X2.out.c 7 rfl;have x8:=X2.out.c 8 rfl;have y0:=Y2.out.c 0 rfl;have y1:=Y2.out.c 1 rfl
 cases hp:hasP m.fl c.file c.idx with
 | false=>
  rw[hp]at HC1;rw[if_pos (.inl rfl)]
  go_enter Tryz.func64,Tryz.ntmps64
  go_upto_region 1 with fail;rw[HW2.out]
  go_wp2_with (go_at_call 119;refine HC1.mono ?_;clear HC1 x7 x8 y0 y1;rintro e W3 ⟨rfl,hg3⟩)
  go_ret;exact⟨rfl,HG2.out.trans hg3⟩
 | true=>
  rw[hp]at HC1
  cases hb:bel c.fr V.f.n with
  | false=>
   rw[hb]at HBL;rw[if_pos (.inr rfl)]
   go_enter Tryz.func64,Tryz.ntmps64
   go_upto_region 1 with fail;rw[HW2.out];go_wp2_with fail;refine HC1.mono ?_;clear HC1 x7 x8 y0 y1;rintro e W3 ⟨rfl,hg3⟩;have HG3:=dD (HG2.out.trans hg3);have x0:=(X2.out.grew hg3).c 0 rfl;have y2:=(Y2.out.grew hg3).c 2 rfl;clear hg3
   go_wp2_with (go_at_call 120;refine(HBL.out _).mono ?_;rintro e w' ⟨rfl,rfl⟩)
   go_ret;exact⟨rfl,HG3.out⟩
  | true=>
   rw[hb]at HBL;rw[if_neg (by simp)]
   obtain⟨g0,g1⟩:=bel_iff.1 hb;clear hb;obtain⟨cf,ci,cr⟩:=c;simp only at g0 g1 HBL HC1 HG2 Y2 y0 y1⊢;obtain⟨k,rfl⟩:∃k:Nat,cr=(k:Int):=⟨cr.toNat,by omega⟩
   have hkn:k<V.f.n:=by omega
   obtain⟨q,HQ⟩:∃q,Xo (m.fs[k]? =Xa q):=⟨_,gE (by rw[HF.out];exact hkn)⟩
   have hfr:frAt m (k:Int)=q:=by unfold frAt;rw[tN,gD,HQ.out];rfl
   rw[hfr];clear hfr;obtain⟨ad,hva,hl⟩:=HR.out k q HQ.out;have HL:Xo (∀W,Grew w W->FrCells W (ad.add (k*13)) q):=hl;have HVA:Xo (V.f.a=Xa ad):=hva;clear hl hva;obtain⟨Z,HZ⟩:∃Z:Int,Xo ((if q.r=0\/q.f≠cf\/q.x≠ci then(7:Int)else 0)=Z):=⟨_,rfl⟩;rw[HZ.out]
   go_enter Tryz.func64,Tryz.ntmps64
   go_upto_region 1 with fail;rw[HW2.out];go_wp2_with fail;refine HC1.mono ?_;clear HC1 x7 x8 y0 y1;rintro e W3 ⟨rfl,hg3⟩;have HG3:=dD (HG2.out.trans hg3);have X3:=dD (X2.out.grew hg3);have Y3:=dD (Y2.out.grew hg3);have HS3:Xo (w.heap.size+1+1<=W3.heap.size):=show _<=_ by rw[<-HS2.out];exact bS hg3
   clear hg3;have x0:=X3.out.c 0 rfl;have y2:=Y3.out.c 2 rfl
   go_upto_region 3 with(go_at_call 120;refine(HBL.out _).mono ?_;rintro e w' ⟨rfl,hw'⟩;rw[hw'];clear hw' w')
   rw[HVA.out]at x0;obtain⟨d0,d1,d2,d3,d4,d5,d6,d7,d8,d9,d10,d11,d12⟩:=HL.out W3 HG3.out;go_upto_region 4 with fail;obtain⟨W4,hW4⟩:∃W4,W3.alloc (Xk #[Xe Xg q.p.b0,Xe Xg q.p.b1,Xe Xg q.p.b2,Xe Xg q.p.b3,Xe Xg q.p.b4,Xe Xg q.p.b5,Xe Xg q.p.b6,Xe Xg q.p.b7,Xe Xf q.r,Xh q.u,Xh q.d,Xe Xf q.f,Xe Xf q.x] 93)=W4:=⟨_,rfl⟩;have HG4:=gT hW4 HG3
   have F4:Box W4 W3.heap.size [Xe Xg q.p.b0,Xe Xg q.p.b1,Xe Xg q.p.b2,Xe Xg q.p.b3,Xe Xg q.p.b4,Xe Xg q.p.b5,Xe Xg q.p.b6,Xe Xg q.p.b7,Xe Xf q.r,Xh q.u,Xh q.d,Xe Xf q.f,Xe Xf q.x]:=by rw[<-hW4];exact Box.top _ _ _ rfl
   have Y4:Box W4 (w.heap.size+1) [Xe Xf cf,Xe Xf ci,Xe Xf (k:Int)]:=by rw[<-hW4];exact Y3.out.alloc _
   rw[hW4];clear hW4 x0 y2 d0 d1 d2 d3 d4 d5 d6 d7 d8 d9 d10 d11 d12;have f8:=F4.c 8 rfl;have f11:=F4.c 11 rfl;have f12:=F4.c 12 rfl;have y0:=Y4.c 0 rfl;have y1:=Y4.c 1 rfl;clear F4 Y4
   by_cases h1:q.r=0
   ·have h1e:(q.r == 0)=Xc:=by simp[h1]
    have HE:Xo (Z=7):=show _=_ by rw[<-HZ.out,if_pos (.inl h1)]
    clear h1;go_wp2;go_ret;exact⟨by rw[HE.out];rfl,HG4.out⟩
   have h1e:(q.r == 0)=Xd:=by simp[h1]
   by_cases h2:q.f=cf
   ·have h2e:(q.f != cf)=Xd:=by simp[h2]
    by_cases h3:q.x=ci
    ·have h3e:(q.x != ci)=Xd:=by simp[h3]
     have HE:Xo (Z=0):=show _=_ by rw[<-HZ.out,if_neg (by simp[h1,h2,h3])]
     clear h1 h2 h3;go_wp2;go_ret;exact⟨by rw[HE.out];rfl,HG4.out⟩
    have h3e:(q.x != ci)=Xc:=by simp[h3]
    have HE:Xo (Z=7):=show _=_ by rw[<-HZ.out,if_pos (.inr (.inr h3))]
    clear h1 h2 h3;go_wp2;go_ret;exact⟨by rw[HE.out];rfl,HG4.out⟩
   have h2e:(q.f != cf)=Xc:=by simp[h2]
   have HE:Xo (Z=7):=show _=_ by rw[<-HZ.out,if_pos (.inr (.inl h2))]
   clear h1 h2;go_wp2;go_ret;exact⟨by rw[HE.out];rfl,HG4.out⟩
theorem wrongParts_of (V:MaV) (m:Ma) (w:Xn) (hm:MachAt w V m) (hc1:∀W,Grew w W->Xp Tryz.prog 58 #[Xi #[O V.f.a V.f.n V.f.c,Xe Xf m.hand]] W fun e w'=>e= Xl (Xe Xf (memW m.fs m.hand))/\Grew W w'):
  Xp Tryz.prog 28 #[Xi #[O V.f.a V.f.n V.f.c,Xe Xf m.hand,O V.s.a V.s.n V.s.c,O V.sb.a V.sb.n V.sb.c,O V.sq.a V.sq.n V.sq.c,O V.db.a V.db.n V.db.c,O V.dq.a V.dq.n V.dq.c,O V.fl.a V.fl.n V.fl.c,Xe Xf m.cnt,O V.ca.a V.ca.n V.ca.c,O V.sp.a V.sp.n V.sp.c]] w fun e w'=>e= Xl (Xe Xf (firstE (wPartsL m)))/\Grew w w':=by
 obtain⟨n1,n2,n3,n4,n5,n6,n7,-⟩:=hm.ns;have HC1:Xo (∀W,Grew w W->Xp Tryz.prog 58 #[Xi #[O V.f.a V.f.n V.f.c,Xe Xf m.hand]] W fun e w'=>e= Xl (Xe Xf (memW m.fs m.hand))/\Grew W w'):=show∀W,_ from hc1
 have HC2:Xo (∀W,Grew w W->Xp Tryz.prog 59 #[O V.s.a V.s.n V.s.c] W fun e w'=>e= Xl (Xe Xf (slW m.sl))/\Grew W w'):=show∀W,_ from fun W hW=>by
  have h:=(hm.grew hW).sl;rw[n2]at h⊢;exact wrongS_any _ _ m.sl W h
 have HC3:Xo (∀W,Grew w W->Xp Tryz.prog 60 #[Xi #[O V.sb.a V.sb.n V.sb.c,O V.sq.a V.sq.n V.sq.c]] W fun e w'=>e= Xl (Xe Xf (wrongL m.sb.length m.sq))/\Grew W w'):=show∀W,_ from fun W hW=>by
  have h:=(hm.grew hW).sq;rw[<-n3];exact wrong_any _ _ _ _ m.sq W h
 have HC4:Xo (∀W,Grew w W->Xp Tryz.prog 60 #[Xi #[O V.db.a V.db.n V.db.c,O V.dq.a V.dq.n V.dq.c]] W fun e w'=>e= Xl (Xe Xf (wrongL m.db.length m.dq))/\Grew W w'):=show∀W,_ from fun W hW=>by
  have h:=(hm.grew hW).dq;rw[<-n5];exact wrong_any _ _ _ _ m.dq W h
 have HC5:Xo (∀W,Grew w W->Xp Tryz.prog 61 #[Xi #[O V.fl.a V.fl.n V.fl.c,Xe Xf m.cnt]] W fun e w'=>e= Xl (Xe Xf (stW m.fl m.cnt))/\Grew W w'):=show∀W,_ from fun W hW=>wrongSt_any _ m.fl m.cnt W (hm.grew hW).fl
 clear n1 n2 n3 n4 n5 n6 n7 hm hc1;obtain⟨W0,hW0⟩:∃W0,w.alloc (Xk #[O V.f.a V.f.n V.f.c,Xe Xf m.hand,O V.s.a V.s.n V.s.c,O V.sb.a V.sb.n V.sb.c,O V.sq.a V.sq.n V.sq.c,O V.db.a V.db.n V.db.c,O V.dq.a V.dq.n V.dq.c,O V.fl.a V.fl.n V.fl.c,Xe Xf m.cnt,O V.ca.a V.ca.n V.ca.c,O V.sp.a V.sp.n V.sp.c] 42)=W0:=⟨_,rfl⟩;have HG0:=gA hW0
 have X0:=xA hW0
 have HW0:Xo (_=W0):=hW0;clear hW0;unfold wPartsL
 go_enter Tryz.func28,Tryz.ntmps28
 go_upto_region 1 with fail;rw[HW0.out];have hx0:=X0.out.gw 0 rfl
 have hx1:=X0.out.gw 1 rfl
 have hx2:=X0.out.gw 2 rfl
 have hx3:=X0.out.gw 3 rfl
 have hx4:=X0.out.gw 4 rfl
 have hx5:=X0.out.gw 5 rfl
 have hx6:=X0.out.gw 6 rfl
 have hx7:=X0.out.gw 7 rfl
 have hx8:=X0.out.gw 8 rfl
 have hne:Nonempty (GrownW W0):=⟨⟨_,Grew.refl _⟩⟩;refine wp_lax [(2,⟨fun v=>v= Xe Xf (memW m.fs m.hand),fun v w'=>True⟩),(5,⟨fun v=>v= Xe Xf (slW m.sl),fun v w'=>True⟩),(8,⟨fun v=>v= Xe Xf (wrongL m.sb.length m.sq),fun v w'=>True⟩),(11,⟨fun v=>v= Xe Xf (wrongL m.db.length m.dq),fun v w'=>True⟩),(14,⟨fun v=>v= Xe Xf (stW m.fl m.cnt),fun v w'=>True⟩),(15,⟨fun v=>∃g,v= O (Xa ⟨g,0,Xb⟩) 5 5,fun v w'=>RowAt errE w' v [memW m.fs m.hand,slW m.sl,wrongL m.sb.length m.sq,wrongL m.db.length m.dq,stW m.fl m.cnt]⟩),(16,⟨fun v=>v= Xe Xf (firstE [memW m.fs m.hand,slW m.sl,wrongL m.sb.length m.sq,wrongL m.db.length m.dq,stW m.fl m.cnt]),fun v w'=>True⟩)] mixed (by kernel_rfl) ?hS ?hp ?_
 case hS=>
  intro x hx;simp only[mC,nM,or_false]at hx
  rcases hx with rfl | rfl | rfl | rfl | rfl | rfl | rfl
  ·exact⟨_,rfl⟩
  ·exact⟨_,rfl⟩
  ·exact⟨_,rfl⟩
  ·exact⟨_,rfl⟩
  ·exact⟨_,rfl⟩
  ·exact⟨_,0,rfl⟩
  exact⟨_,rfl⟩
 case hp=>
  intro x hx;simp only[mC,nM,or_false]at hx
  rcases hx with rfl | rfl | rfl | rfl | rfl | rfl | rfl
  ·exact fun _ _ _ _ h=>h
  ·exact fun _ _ _ _ h=>h
  ·exact fun _ _ _ _ h=>h
  ·exact fun _ _ _ _ h=>h
  ·exact fun _ _ _ _ h=>h
  ·exact fun _ _ _ hg h=>RowAt.grew h hg
  exact fun _ _ _ _ h=>h
 iterate 2 (refine lax_quiet rfl rfl rfl (fun K hK=>?_);go_big_quiet_op;refine hK _ ?_;clear hK K)
 refine lax_spec rfl rfl (fun w' hg hF=>?_) (fun v1 hv=>?_)
 ·refine Does.call [Xi #[O V.f.a V.f.n V.f.c,Xe Xf m.hand]] rfl Tryz.func58 rfl rfl rfl ?_;refine(HC1.out w' (HG0.out.trans hg)).mono ?_;rintro e w'' ⟨rfl,hg2⟩;exact⟨_,rfl,hg2,rfl,trivial⟩
 subst hv;simp only[Xt,sB,sS,sZ];iterate 2 (refine lax_quiet rfl rfl rfl (fun K hK=>?_);go_big_quiet_op;refine hK _ ?_;clear hK K)
 refine lax_spec rfl rfl (fun w' hg hF=>?_) (fun v1 hv=>?_)
 ·refine Does.call [O V.s.a V.s.n V.s.c] rfl Tryz.func59 rfl rfl rfl ?_;refine(HC2.out w' (HG0.out.trans hg)).mono ?_;rintro e w'' ⟨rfl,hg2⟩;exact⟨_,rfl,hg2,rfl,trivial⟩
 subst hv;simp only[Xt,sB,sS,sZ];iterate 2 (refine lax_quiet rfl rfl rfl (fun K hK=>?_);go_big_quiet_op;refine hK _ ?_;clear hK K)
 refine lax_spec rfl rfl (fun w' hg hF=>?_) (fun v1 hv=>?_)
 ·refine Does.call [Xi #[O V.sb.a V.sb.n V.sb.c,O V.sq.a V.sq.n V.sq.c]] rfl Tryz.func60 rfl rfl rfl ?_;refine(HC3.out w' (HG0.out.trans hg)).mono ?_;rintro e w'' ⟨rfl,hg2⟩;exact⟨_,rfl,hg2,rfl,trivial⟩
 subst hv;simp only[Xt,sB,sS,sZ];iterate 2 (refine lax_quiet rfl rfl rfl (fun K hK=>?_);go_big_quiet_op;refine hK _ ?_;clear hK K)
 refine lax_spec rfl rfl (fun w' hg hF=>?_) (fun v1 hv=>?_)
 ·refine Does.call [Xi #[O V.db.a V.db.n V.db.c,O V.dq.a V.dq.n V.dq.c]] rfl Tryz.func60 rfl rfl rfl ?_;refine(HC4.out w' (HG0.out.trans hg)).mono ?_;rintro e w'' ⟨rfl,hg2⟩;exact⟨_,rfl,hg2,rfl,trivial⟩
 subst hv;simp only[Xt,sB,sS,sZ];iterate 2 (refine lax_quiet rfl rfl rfl (fun K hK=>?_);go_big_quiet_op;refine hK _ ?_;clear hK K)
 refine lax_spec rfl rfl (fun w' hg hF=>?_) (fun v1 hv=>?_)
 ·refine Does.call [Xi #[O V.fl.a V.fl.n V.fl.c,Xe Xf m.cnt]] rfl Tryz.func61 rfl rfl rfl ?_;refine(HC5.out w' (HG0.out.trans hg)).mono ?_;rintro e w'' ⟨rfl,hg2⟩;exact⟨_,rfl,hg2,rfl,trivial⟩
 subst hv;simp only[Xt,sB,sS,sZ];refine lax_spec rfl rfl (fun w' hg hF=>?_) (fun v1 hv=>?_)
 ·have hnew:RowAt errE (w'.alloc (Xk #[Xe Xf (memW m.fs m.hand),Xe Xf (slW m.sl),Xe Xf (wrongL m.sb.length m.sq),Xe Xf (wrongL m.db.length m.dq),Xe Xf (stW m.fl m.cnt)] 44)) (O (Xa ⟨w'.heap.size,0,Xb⟩) 5 5) [memW m.fs m.hand,slW m.sl,wrongL m.sb.length m.sq,wrongL m.db.length m.dq,stW m.fl m.cnt]:=row_lit errE w' [memW m.fs m.hand,slW m.sl,wrongL m.sb.length m.sq,wrongL m.db.length m.dq,stW m.fl m.cnt] _ rfl (show 5*8<=140737488355328 by decide)
  refine Does.step (v:= O (Xa ⟨w'.heap.size,0,Xb⟩) 5 5) (w':=w'.alloc (Xk #[Xe Xf (memW m.fs m.hand),Xe Xf (slW m.sl),Xe Xf (wrongL m.sb.length m.sq),Xe Xf (wrongL m.db.length m.dq),Xe Xf (stW m.fl m.cnt)] 44)) (by simp only[execOp];go_simp) ⟨grew_alloc _ _,⟨_,rfl⟩,hnew⟩
 obtain⟨g15,rfl⟩:=hv;simp only[Xt,sB,sS,sZ];refine lax_spec rfl rfl (fun w' hg hF=>?_) (fun v1 hv=>?_)
 ·have h15:RowAt errE w' (O (Xa ⟨g15,0,Xb⟩) 5 5) [memW m.fs m.hand,slW m.sl,wrongL m.sb.length m.sq,wrongL m.db.length m.dq,stW m.fl m.cnt]:=hF 15 (by kernel_rfl)
  refine Does.call [O (Xa ⟨g15,0,Xb⟩) 5 5] rfl Tryz.func19 rfl rfl rfl ?_;refine(orErr_any _ _ w' h15).mono ?_;rintro e w'' ⟨rfl,rfl⟩;exact⟨_,rfl,Grew.refl _,rfl,trivial⟩
 subst hv;simp only[Xt,sB,sS,sZ];iterate 1 (refine lax_quiet rfl rfl rfl (fun K hK=>?_);go_big_quiet_op;refine hK _ ?_;clear hK K)
 refine lax_nil fun W3 hg1 hF=>?_
 have G3:=dD (HG0.out.trans hg1);clear hg1 hF hx0 hx1 hx2 hx3 hx4 hx5 hx6 hx7 hx8 hne;go_wp2;go_ret;exact⟨rfl,G3.out⟩
theorem wrongArea_any (a:Ar) (w:Xn):Xp Tryz.prog 129 #[Xi #[Xe Xf a.fr,Xe Xf a.tz,Xh a.rd,Xh a.wr,Xh a.sh,Xe Xf a.file,Xe Xf a.base]] w fun e w'=>e= Xl (Xe Xf (arW a))/\Grew w w':=by
 obtain⟨fr,tz,rd,wr,sh,file,base⟩:=a
 by_cases c1:fr<0
 ·have hz:arW ⟨fr,tz,rd,wr,sh,file,base⟩=3:=by unfold arW;simp only;rw[if_pos (by omega)]
  rw[hz];clear hz
  go_enter Tryz.func129,Tryz.ntmps129
  go_wp2;go_ret;exact⟨rfl,grew_alloc _ _⟩
 by_cases c2:tz<=fr
 ·have hz:arW ⟨fr,tz,rd,wr,sh,file,base⟩=3:=by unfold arW;simp only;rw[if_pos (by omega)]
  rw[hz];clear hz
  go_enter Tryz.func129,Tryz.ntmps129
  go_wp2;go_ret;exact⟨rfl,grew_alloc _ _⟩
 by_cases c3:64<tz
 ·have hz:arW ⟨fr,tz,rd,wr,sh,file,base⟩=3:=by unfold arW;simp only;rw[if_pos (by omega)]
  rw[hz];clear hz
  go_enter Tryz.func129,Tryz.ntmps129
  go_wp2;go_ret;exact⟨rfl,grew_alloc _ _⟩
 by_cases c4:file< -1
 ·have hz:arW ⟨fr,tz,rd,wr,sh,file,base⟩=3:=by unfold arW;simp only;rw[if_pos (by omega)]
  rw[hz];clear hz
  go_enter Tryz.func129,Tryz.ntmps129
  go_wp2;go_ret;exact⟨rfl,grew_alloc _ _⟩
 by_cases c5:5<=file
 ·have hz:arW ⟨fr,tz,rd,wr,sh,file,base⟩=3:=by unfold arW;simp only;rw[if_pos (by omega)]
  rw[hz];clear hz
  go_enter Tryz.func129,Tryz.ntmps129
  go_wp2;go_ret;exact⟨rfl,grew_alloc _ _⟩
 by_cases c6:base<0
 ·have hz:arW ⟨fr,tz,rd,wr,sh,file,base⟩=3:=by unfold arW;simp only;rw[if_pos (by omega)]
  rw[hz];clear hz
  go_enter Tryz.func129,Tryz.ntmps129
  go_wp2;go_ret;exact⟨rfl,grew_alloc _ _⟩
 have hn:¬(fr<0\/tz<=fr\/64<tz\/file< -1\/5<=file\/base<0):=by omega
 by_cases d1:file<0
 ·by_cases d2:base=0
  ·cases sh
   ·have hz:arW ⟨fr,tz,rd,wr,Xd,file,base⟩=0:=by unfold arW;simp only;rw[if_neg hn,if_pos d1,if_neg (by simp[d2])]
    rw[hz];clear hz;have d2e:(base != 0)=Xd:=by simp[d2]
    have d2g:¬0<base:=by omega
    clear d2 hn
    go_enter Tryz.func129,Tryz.ntmps129
    go_wp2;go_ret;exact⟨rfl,grew_alloc _ _⟩
   have hz:arW ⟨fr,tz,rd,wr,Xc,file,base⟩=7:=by unfold arW;simp only;rw[if_neg hn,if_pos d1,if_pos (by simp)]
   rw[hz];clear hz;have d2e:(base != 0)=Xd:=by simp[d2]
   have d2g:¬0<base:=by omega
   clear d2 hn
   go_enter Tryz.func129,Tryz.ntmps129
   go_wp2;go_ret;exact⟨rfl,grew_alloc _ _⟩
  have hz:arW ⟨fr,tz,rd,wr,sh,file,base⟩=7:=by unfold arW;simp only;rw[if_neg hn,if_pos d1,if_pos (by simp[d2])]
  rw[hz];clear hz;have d2e:(base != 0)=Xc:=by simp[d2]
  have d2g:0<base:=by omega
  clear d2 hn
  go_enter Tryz.func129,Tryz.ntmps129
  go_wp2;go_ret;exact⟨rfl,grew_alloc _ _⟩
 by_cases d2:12 -(tz - fr)<base
 ·have hz:arW ⟨fr,tz,rd,wr,sh,file,base⟩=7:=by unfold arW;simp only;rw[if_neg hn,if_neg d1,if_pos d2]
  rw[hz];clear hz;clear hn
  go_enter Tryz.func129,Tryz.ntmps129
  go_wp2;go_ret;exact⟨rfl,grew_alloc _ _⟩
 have hz:arW ⟨fr,tz,rd,wr,sh,file,base⟩=0:=by unfold arW;simp only;rw[if_neg hn,if_neg d1,if_neg d2]
 rw[hz];clear hz;clear hn
 go_enter Tryz.func129,Tryz.ntmps129
 go_wp2;go_ret;exact⟨rfl,grew_alloc _ _⟩
def behindA (a:Ar) (n:Int):Ar:={ a with fr:=n,base:=if 0<=a.file then a.base+(n - a.fr)else a.base }
theorem behind_any (a:Ar) (n:Int) (w:Xn) (ha:ArOk a) (hn:0<=n/\n<=64):Xp Tryz.prog 172 #[Xi #[Xe Xf a.fr,Xe Xf a.tz,Xh a.rd,Xh a.wr,Xh a.sh,Xe Xf a.file,Xe Xf a.base],Xe Xf n] w fun e w'=>e= Xl (arA (behindA a n))/\Grew w w':=by
 have HA:Xo (ArOk a):=ha;unfold ArOk at ha;obtain⟨h1,h2,h3,h4,h5,h6,h7,h8⟩:=ha;obtain⟨fr,tz,rd,wr,sh,file,base⟩:=a;simp only at h1 h2 h3 h4 h5 h6 h7 h8⊢;have hb:base<=12:=by
  by_cases h:0<=file
  ·have:=h8 h;omega
  have:=h7 (by omega);omega
 clear h7 h8;obtain⟨n1,n2⟩:=hn;obtain⟨W0,hW0⟩:∃W0,(w.alloc (Xk #[Xe Xf fr,.int .i64 tz,Xh rd,Xh wr,Xh sh,Xe Xf file,Xe Xf base] 125)).alloc (Xk #[Xe Xf 0,Xe Xf 0,Xh Xd,Xh Xd,Xh Xd,Xe Xf 0,Xe Xf 0] 125)=W0:=⟨_,rfl⟩;have HG0:=gD2 hW0
 have X0:=x2a hW0
 have Y0:=x2b hW0
 have HW0:Xo (_=W0):=hW0;clear hW0
 by_cases hf:0<=file
 ·have HR:Xo (behindA ⟨fr,tz,rd,wr,sh,file,base⟩ n=⟨n,tz,rd,wr,sh,file,base+(n - fr)⟩):=show _=_ by unfold behindA;simp only;rw[if_pos hf]
  go_enter Tryz.func172,Tryz.ntmps172
  go_upto_region 1 with fail;rw[HW0.out];have x0:=X0.out.c 0 rfl;have x5:=X0.out.c 5 rfl;have x6:=X0.out.c 6 rfl;have xf:=X0.out.f;go_upto_region 4 with fail;obtain⟨W1,hW1⟩:∃W1,(W0.setCell ⟨w.heap.size,6,Xb⟩ (Xe Xf (base+(n - fr)))).setCell ⟨w.heap.size,0,Xb⟩ (Xe Xf n)=W1:=⟨_,rfl⟩;have X1:Xo (Box W1 w.heap.size [Xe Xf n,.int .i64 tz,Xh rd,Xh wr,Xh sh,Xe Xf file,Xe Xf (base+(n - fr))]):=show Box _ _ _ by rw[<-hW1];exact(X0.out.set 6 _).set 0 _
  have Y1:Xo (Box W1 (w.heap.size+1) [Xe Xf 0,Xe Xf 0,Xh Xd,Xh Xd,Xh Xd,Xe Xf 0,Xe Xf 0]):=show Box _ _ _ by rw[<-hW1];exact(Y0.out.other (by simp) _).other (by simp) _
  have HG1:Xo (Grew w W1):=show Grew _ _ by rw[<-hW1];exact grew_set (grew_set HG0.out (by simp) _) (by simp) _
  rw[hW1];clear hW1 x0 x5 x6 xf
  go_wp2_with (first | refine wp_loadAll rfl 125 (.tmp 2) rfl w.heap.size rfl X1.out Tryz.underlying125 rfl Tryz.sizeArea ?_ | refine wp_storeAll rfl 125 (.tmp 4) (.tmp 18) rfl (w.heap.size+1) rfl _ rfl Y1.out rfl Tryz.sizeArea (arE.one ⟨n,tz,rd,wr,sh,file,base+(n - fr)⟩) ?_)
  intro W2 b2 g2 s2;have G2:Xo (Grew w W2):=grew_grown HG1.out g2 (by simp)
  have B2:Xo (Box W2 (w.heap.size+1) [Xe Xf n,.int .i64 tz,Xh rd,Xh wr,Xh sh,Xe Xf file,Xe Xf (base+(n - fr))]):=b2;clear b2 g2 s2;go_wp2;refine bodyPost_ret (ret_cell rfl _ rfl B2.out Tryz.underlying125 rfl Tryz.sizeArea) rfl ⟨by rw[HR.out];rfl,G2.out⟩
 have HR:Xo (behindA ⟨fr,tz,rd,wr,sh,file,base⟩ n=⟨n,tz,rd,wr,sh,file,base⟩):=show _=_ by unfold behindA;simp only;rw[if_neg hf]
 go_enter Tryz.func172,Tryz.ntmps172
 go_upto_region 1 with fail;rw[HW0.out];have x0:=X0.out.c 0 rfl;have x5:=X0.out.c 5 rfl;have xf:=X0.out.f;go_upto_region 4 with fail;obtain⟨W1,hW1⟩:∃W1,W0.setCell ⟨w.heap.size,0,Xb⟩ (Xe Xf n)=W1:=⟨_,rfl⟩;have X1:Xo (Box W1 w.heap.size [Xe Xf n,.int .i64 tz,Xh rd,Xh wr,Xh sh,Xe Xf file,Xe Xf base]):=show Box _ _ _ by rw[<-hW1];exact X0.out.set 0 _
 have Y1:Xo (Box W1 (w.heap.size+1) [Xe Xf 0,Xe Xf 0,Xh Xd,Xh Xd,Xh Xd,Xe Xf 0,Xe Xf 0]):=show Box _ _ _ by rw[<-hW1];exact Y0.out.other (by simp) _
 have HG1:Xo (Grew w W1):=show Grew _ _ by rw[<-hW1];exact grew_set HG0.out (by simp) _
 rw[hW1];clear hW1 x0 x5 xf
 go_wp2_with (first | refine wp_loadAll rfl 125 (.tmp 2) rfl w.heap.size rfl X1.out Tryz.underlying125 rfl Tryz.sizeArea ?_ | refine wp_storeAll rfl 125 (.tmp 4) (.tmp 18) rfl (w.heap.size+1) rfl _ rfl Y1.out rfl Tryz.sizeArea (arE.one ⟨n,tz,rd,wr,sh,file,base⟩) ?_)
 intro W2 b2 g2 s2;have G2:Xo (Grew w W2):=grew_grown HG1.out g2 (by simp)
 have B2:Xo (Box W2 (w.heap.size+1) [Xe Xf n,.int .i64 tz,Xh rd,Xh wr,Xh sh,Xe Xf file,Xe Xf base]):=b2;clear b2 g2 s2;go_wp2;refine bodyPost_ret (ret_cell rfl _ rfl B2.out Tryz.underlying125 rfl Tryz.sizeArea) rfl ⟨by rw[HR.out];rfl,G2.out⟩
def arEqB (a b:Ar):Bool:=(a.fr == b.fr) &&(a.tz == b.tz) &&(a.rd == b.rd) &&(a.wr == b.wr) &&(a.sh == b.sh) &&(a.file == b.file) &&(a.base == b.base)
theorem ar_eq (x0 y0:Int) (x1 y1:Int) (x2 y2:Bool) (x3 y3:Bool) (x4 y4:Bool) (x5 y5:Int) (x6 y6:Int) (w:Xn):(Op.equalIn 10000 125 (Xi #[Xe Xf x0,Xe Xf x1,Xh x2,Xh x3,Xh x4,Xe Xf x5,Xe Xf x6]) (Xi #[Xe Xf y0,Xe Xf y1,Xh y2,Xh y3,Xh y4,Xe Xf y5,Xe Xf y6])).run Tryz.prog w= .ok (arEqB ⟨x0,x1,x2,x3,x4,x5,x6⟩ ⟨y0,y1,y2,y3,y4,y5,y6⟩) w:=by
 have hf : (Tryz.prog.fieldsOf 125).toList.map (fun f => (f.name, f.type, f.offset)) = [("From", 3, 0), ("To", 3, 1), ("Read", 4, 2), ("Write", 4, 3), ("Shared", 4, 4), ("File", 3, 5), ("Base", 3, 6)] := by kernel_rfl
 rw[run_equalIn_struct w 9999 125 _ _ (by kernel_rfl) (by kernel_rfl)]
 obtain⟨f0,f1,f2,f3,f4,f5,f6,hfs⟩:∃f0 f1 f2 f3 f4 f5 f6,(Tryz.prog.fieldsOf 125).toList=[f0,f1,f2,f3,f4,f5,f6]:=by
  have hl:(Tryz.prog.fieldsOf 125).toList.length=7:=by have:=congrArg List.length hf;simpa using this
  match hq:(Tryz.prog.fieldsOf 125).toList,hl with
  | [f0,f1,f2,f3,f4,f5,f6],_=>exact⟨f0,f1,f2,f3,f4,f5,f6,rfl⟩
 rw[hfs]at hf⊢
 simp at hf
 obtain⟨⟨n0,t0,o0⟩,⟨n1,t1,o1⟩,⟨n2,t2,o2⟩,⟨n3,t3,o3⟩,⟨n4,t4,o4⟩,⟨n5,t5,o5⟩,⟨n6,t6,o6⟩⟩:=hf;have pI:∀(zs:Array Xq) (o:Nat) v,zs[o]? =Xa (Xe Xf v)->(part 3 zs o).run Tryz.prog w= .ok (Xe Xf v) w:=fun zs o v hz=>run_part_plain w (by simp[Program.plainKey,Tryz.underlying3]) hz
 have pB:∀(zs:Array Xq) (o:Nat) v,zs[o]? =Xa (Xh v)->(part 4 zs o).run Tryz.prog w= .ok (Xh v) w:=fun zs o v hz=>run_part_plain w (by simp[Program.plainKey,Tryz.underlying4]) hz
 simp only[Op.eqFields,n0,t0,o0,n1,t1,o1,n2,t2,o2,n3,t3,o3,n4,t4,o4,n5,t5,o5,n6,t6,o6]
 simp[pI,pB,run_equalIn_bool' w _ _ _ _ Tryz.underlying4,run_equalIn_int w _ _ _ _ _ _ Tryz.underlying3]
 unfold arEqB;simp only
 by_cases e0:x0=y0
 case neg=>simp[e0]
 subst e0
 by_cases e1:x1=y1
 case neg=>simp[e1]
 subst e1
 by_cases e2:x2=y2
 case neg=>simp[e2]
 subst e2
 by_cases e3:x3=y3
 case neg=>simp[e3]
 subst e3
 by_cases e4:x4=y4
 case neg=>simp[e4]
 subst e4
 by_cases e5:x5=y5
 case neg=>simp[e5]
 subst e5
 by_cases e6:x6=y6
 case neg=>simp[e6]
 subst e6;simp
theorem only_eq {a:Ar} (ha:ArOk a) (n:Nat):(⟨n,(n:Int)+1,a.rd,a.wr,a.sh,a.file,(behindA a n).base⟩:Ar)=arOf n (oneOf a n):=by
 unfold arOf;rw[if_pos (oneOf_is a n)];unfold oneOf behindA;simp only[Ar.mk.injEq,true_and]
 split
 ·rfl
 exact(ha.2.2.2.2.2.2.1 (by omega)).1
theorem goes_eq {a b:Ar}:arEqB a ⟨b.tz,a.tz,b.rd,b.wr,b.sh,b.file,(behindA b b.tz).base⟩=goB a b:=by
 unfold arEqB goB behindA;simp only[beq_self_eq_true,Bool.and_true];have hd:∀x y:Int,(x == y)=decide (x=y):=fun x y=>rfl
 simp only[hd]
theorem behindA_form (a:Ar) (n:Int):arA (behindA a n)= Xi #[Xe Xf n,Xe Xf a.tz,Xh a.rd,Xh a.wr,Xh a.sh,Xe Xf a.file,Xe Xf (behindA a n).base]:=rfl
theorem only_any (a:Ar) (n:Nat) (w:Xn) (ha:ArOk a) (hn:n<64):Xp Tryz.prog 132 #[Xi #[Xe Xf a.fr,Xe Xf a.tz,Xh a.rd,Xh a.wr,Xh a.sh,Xe Xf a.file,Xe Xf a.base],Xe Xf (n:Int)] w fun e w'=>e= Xl (arA (arOf n (oneOf a n)))/\Grew w w':=by
 have hb:∀W,Xp Tryz.prog 172 #[Xi #[Xe Xf a.fr,Xe Xf a.tz,Xh a.rd,Xh a.wr,Xh a.sh,Xe Xf a.file,Xe Xf a.base],Xe Xf (n:Int)] W fun e w'=>e= Xl (arA (behindA a n))/\Grew W w':=fun W=>behind_any a n W ha (by omega)
 rw[<-only_eq ha n];rw[behindA_form]at hb
 generalize(behindA a n).base=nb at hb⊢
 clear ha;obtain⟨W0,hW0⟩:∃W0,(w.alloc (Xk #[Xe Xf a.fr,Xe Xf a.tz,Xh a.rd,Xh a.wr,Xh a.sh,Xe Xf a.file,Xe Xf a.base] 125)).alloc (Xk #[Xe Xf 0,Xe Xf 0,Xh Xd,Xh Xd,Xh Xd,Xe Xf 0,Xe Xf 0] 125)=W0:=⟨_,rfl⟩;have HG0:=gD2 hW0
 have X0:=x2a hW0
 have Y0:=x2b hW0
 have HW0:Xo (_=W0):=hW0;clear hW0
 go_enter Tryz.func132,Tryz.ntmps132
 go_upto_region 1 with fail;rw[HW0.out]
 go_wp2_with (refine wp_loadAll rfl 125 (.tmp 2) rfl w.heap.size rfl X0.out Tryz.underlying125 rfl Tryz.sizeArea ?_)
 refine(hb _).mono ?_;rintro e W1 ⟨rfl,g1⟩;have G1:=dD (HG0.out.trans g1);have Y1:=dD (Y0.out.grew g1);clear g1 hb;obtain⟨p,HP⟩:∃p,Xo (W1.heap.size=p):=⟨_,rfl⟩;have HL:Xo (w.heap.size+1<p):=show _<_ by rw[<-HP.out];exact Y1.out.lt
 go_upto_region 2 with fail;obtain⟨W2,hW2⟩:∃W2,W1.alloc (Xk #[Xe Xf (n:Int),Xe Xf a.tz,Xh a.rd,Xh a.wr,Xh a.sh,Xe Xf a.file,Xe Xf nb] 125)=W2:=⟨_,rfl⟩;have G2:=gT hW2 G1
 have Y2:=yA hW2 Y1
 have Z2:=xP hW2 HP
 rw[hW2,HP.out];clear hW2;have z1:=Z2.out.c 1 rfl;have zf:=Z2.out.f;go_upto_region 3 with fail;obtain⟨W3,hW3⟩:∃W3,W2.setCell ⟨p,1,Xb⟩ (Xe Xf ((n:Int)+1))=W3:=⟨_,rfl⟩;have G3:Xo (Grew w W3):=show Grew _ _ by rw[<-hW3];exact grew_set G2.out (by have:=HL.out;simp;omega) _
 have Y3:Xo (Box W3 (w.heap.size+1) [Xe Xf 0,Xe Xf 0,Xh Xd,Xh Xd,Xh Xd,Xe Xf 0,Xe Xf 0]):=show Box _ _ _ by rw[<-hW3];exact Y2.out.other (by have:=HL.out;simp;omega) _
 have Z3:Xo (Box W3 p [Xe Xf (n:Int),Xe Xf ((n:Int)+1),Xh a.rd,Xh a.wr,Xh a.sh,Xe Xf a.file,Xe Xf nb]):=show Box _ _ _ by rw[<-hW3];exact Z2.out.set 1 _
 rw[hW3];clear hW3 z1 zf
 go_wp2_with (first | refine wp_loadAll rfl 125 (.tmp 5) rfl p rfl Z3.out Tryz.underlying125 rfl Tryz.sizeArea ?_ | refine wp_storeAll rfl 125 (.tmp 4) (.tmp 12) rfl (w.heap.size+1) rfl _ rfl Y3.out rfl Tryz.sizeArea (arE.one ⟨n,(n:Int)+1,a.rd,a.wr,a.sh,a.file,nb⟩) ?_)
 intro W4 b4 g4 s4;have G4:Xo (Grew w W4):=grew_grown G3.out g4 (by simp)
 have B4:Xo (Box W4 (w.heap.size+1) [Xe Xf (n:Int),Xe Xf ((n:Int)+1),Xh a.rd,Xh a.wr,Xh a.sh,Xe Xf a.file,Xe Xf nb]):=b4;clear b4 g4 s4;go_wp2;refine bodyPost_ret (ret_cell rfl _ rfl B4.out Tryz.underlying125 rfl Tryz.sizeArea) rfl ⟨rfl,G4.out⟩
theorem goesOn_any (a b:Ar) (w:Xn) (hbk:ArOk b):Xp Tryz.prog 166 #[Xi #[Xe Xf a.fr,Xe Xf a.tz,Xh a.rd,Xh a.wr,Xh a.sh,Xe Xf a.file,Xe Xf a.base],Xi #[Xe Xf b.fr,Xe Xf b.tz,Xh b.rd,Xh b.wr,Xh b.sh,Xe Xf b.file,Xe Xf b.base]] w fun e w'=>e= Xl (Xh (goB a b))/\Grew w w':=by
 have hb:∀W,Xp Tryz.prog 172 #[Xi #[Xe Xf b.fr,Xe Xf b.tz,Xh b.rd,Xh b.wr,Xh b.sh,Xe Xf b.file,Xe Xf b.base],Xe Xf b.tz] W fun e w'=>e= Xl (arA (behindA b b.tz))/\Grew W w':=fun W=>behind_any b b.tz W hbk (by have:=hbk;unfold ArOk at this;omega)
 have hq:=fun W=>ar_eq a.fr b.tz a.tz a.tz a.rd b.rd a.wr b.wr a.sh b.sh a.file b.file a.base (behindA b b.tz).base W
 have he:=goes_eq (a:=a) (b:=b);rw[show(⟨a.fr,a.tz,a.rd,a.wr,a.sh,a.file,a.base⟩:Ar)=a from rfl]at hq
 rw[he]at hq;rw[behindA_form]at hb
 generalize(behindA b b.tz).base=nb at hb hq
 clear he hbk
 generalize goB a b=R at hq⊢
 obtain⟨W0,hW0⟩:∃W0,(w.alloc (Xk #[Xe Xf a.fr,Xe Xf a.tz,Xh a.rd,Xh a.wr,Xh a.sh,Xe Xf a.file,Xe Xf a.base] 125)).alloc (Xk #[Xe Xf b.fr,Xe Xf b.tz,Xh b.rd,Xh b.wr,Xh b.sh,Xe Xf b.file,Xe Xf b.base] 125)=W0:=⟨_,rfl⟩;have HG0:=gD2 hW0
 have X0:=x2a hW0
 have Y0:=x2b hW0
 have HW0:Xo (_=W0):=hW0;clear hW0
 go_enter Tryz.func166,Tryz.ntmps166
 go_upto_region 1 with fail;rw[HW0.out];have y1:=Y0.out.c 1 rfl
 go_wp2_with (refine wp_loadAll rfl 125 (.tmp 3) rfl (w.heap.size+1) rfl Y0.out Tryz.underlying125 rfl Tryz.sizeArea ?_)
 refine(hb _).mono ?_;rintro e W1 ⟨rfl,g1⟩;have G1:=dD (HG0.out.trans g1);have X1:=dD (X0.out.grew g1);clear g1 hb y1;obtain⟨p,HP⟩:∃p,Xo (W1.heap.size=p):=⟨_,rfl⟩;have HL:Xo (w.heap.size<p):=show _<_ by rw[<-HP.out];exact X1.out.lt
 go_upto_region 2 with fail;obtain⟨W2,hW2⟩:∃W2,W1.alloc (Xk #[Xe Xf b.tz,Xe Xf b.tz,Xh b.rd,Xh b.wr,Xh b.sh,Xe Xf b.file,Xe Xf nb] 125)=W2:=⟨_,rfl⟩;have G2:=gT hW2 G1
 have X2:=yA hW2 X1
 have Z2:=xP hW2 HP
 rw[hW2,HP.out];clear hW2;have x1:=X2.out.c 1 rfl;have z1:=Z2.out.c 1 rfl;have zf:=Z2.out.f;go_upto_region 3 with fail;obtain⟨W3,hW3⟩:∃W3,W2.setCell ⟨p,1,Xb⟩ (Xe Xf a.tz)=W3:=⟨_,rfl⟩;have G3:Xo (Grew w W3):=show Grew _ _ by rw[<-hW3];exact grew_set G2.out (by have:=HL.out;simp;omega) _
 have X3:Xo (Box W3 w.heap.size [Xe Xf a.fr,Xe Xf a.tz,Xh a.rd,Xh a.wr,Xh a.sh,Xe Xf a.file,Xe Xf a.base]):=show Box _ _ _ by rw[<-hW3];exact X2.out.other (by have:=HL.out;simp;omega) _
 have Z3:Xo (Box W3 p [Xe Xf b.tz,Xe Xf a.tz,Xh b.rd,Xh b.wr,Xh b.sh,Xe Xf b.file,Xe Xf nb]):=show Box _ _ _ by rw[<-hW3];exact Z2.out.set 1 _
 rw[hW3];clear hW3 x1 z1 zf
 go_wp2_with (first | refine wp_loadAll rfl 125 (.tmp 5) rfl p rfl Z3.out Tryz.underlying125 rfl Tryz.sizeArea ?_ | refine wp_loadAll rfl 125 (.tmp 2) rfl w.heap.size rfl X3.out Tryz.underlying125 rfl Tryz.sizeArea ?_)
 go_ret;exact⟨rfl,G3.out⟩
def inZ (a:Ar) (n:Int):Bool:=decide (a.fr<=n) && decide (n<a.tz)
theorem inZ_iff {a:Ar} {n:Int}:inZ a n=Xc↔a.fr<=n/\n<a.tz:=by simp[inZ]
theorem inZ_nat (a:Ar) (n:Nat):inZ a (n:Int)=arIn a n:=rfl
def FindsZ (l:List Ar) (n z:Int):Prop:=(∃(k:Nat) (a:Ar),z=k/\l[k]? =Xa a/\inZ a n=Xc)\/(z=-1/\∀a∈l,inZ a n=Xd)
theorem finds_is {l:List Ar} {k:Nat} {z:Int} (h:FindsZ l k z):decide (0<=z)=(onAt l k).is:=by
 rcases h with⟨j,a,rfl,h1,h2⟩ | ⟨rfl,h1⟩
 ·have:∀(m:List Ar),a∈m->(onAt m k).is=Xc:=by
   intro m
   induction m with
   | nil=>intro hx;cases hx
   | cons c m ih=>
    intro hx
    by_cases hc:arIn c k=Xc
    ·rw[onAt,if_pos hc];rfl
    rw[onAt,if_neg hc]
    rcases mC.1 hx with e | hx
    ·rw[e,inZ_nat]at h2;exact absurd h2 hc
    exact ih hx
  rw[this l (mG h1)];simp
 rw[onAt_none (fun a ha=>h1 a ha)]
 rfl
theorem findF_any (a:Ar) (n:Int) (p:Nat) (w:Xn) (hb:Box w p [Xe Xf n]):
  Xp Tryz.prog 124 #[Xi #[Xe Xf a.fr,Xe Xf a.tz,Xh a.rd,Xh a.wr,Xh a.sh,Xe Xf a.file,Xe Xf a.base],Xj (Xa ⟨p,0,Xb⟩)] w fun e w'=>e= Xl (Xh (inZ a n))/\Grew w w':=by
 have H:Xo (inZ a n=(decide (a.fr<=n) && decide (n<a.tz))):=rfl;obtain⟨W0,hW0⟩:∃W0,w.alloc (Xk #[Xe Xf a.fr,Xe Xf a.tz,Xh a.rd,Xh a.wr,Xh a.sh,Xe Xf a.file,Xe Xf a.base] 125)=W0:=⟨_,rfl⟩;have HG0:=gA hW0
 have X0:=xA hW0
 have B0:Xo (Box W0 p [Xe Xf n]):=show Box _ _ _ by rw[<-hW0];exact hb.alloc _
 have HW0:Xo (_=W0):=hW0;clear hW0 hb
 by_cases h0:a.fr<=n
 ·by_cases h1:n<a.tz
  ·go_enter Tryz.func124,Tryz.ntmps124
   go_upto_region 1 with fail;rw[HW0.out];have x0:=X0.out.c 0 rfl;have x1:=X0.out.c 1 rfl;have b0:=B0.out.c 0 rfl;go_wp2;go_ret;exact⟨by rw[H.out];simp[*],HG0.out⟩
  go_enter Tryz.func124,Tryz.ntmps124
  go_upto_region 1 with fail;rw[HW0.out];have x0:=X0.out.c 0 rfl;have x1:=X0.out.c 1 rfl;have b0:=B0.out.c 0 rfl;go_wp2;go_ret;exact⟨by rw[H.out];simp[*],HG0.out⟩
 go_enter Tryz.func124,Tryz.ntmps124
 go_upto_region 1 with fail;rw[HW0.out];have x0:=X0.out.c 0 rfl;have x1:=X0.out.c 1 rfl;have b0:=B0.out.c 0 rfl;go_wp2;go_ret;exact⟨by rw[H.out];simp;omega,HG0.out⟩
theorem indexArea_any (v:Xq) (l:List Ar) (m:Int) (p:Nat) (w:Xn) (hb:Box w p [Xe Xf m]) (hv:RowAt arE w v l):
  Xp Tryz.prog 123 #[v,.func (.func 124) #[] #[Xj (Xa ⟨p,0,Xb⟩)]] w fun e w'=>(∃z:Int,e= Xl (Xe Xf z)/\FindsZ l m z)/\Grew w w':=by
 have hbig:=hv.short;obtain⟨a,c,rfl,hrow⟩:=hv.ars;have HR:Xo (ArRows w a l):=hrow;have HB:Xo (Box w p [Xe Xf m]):=hb;have eg:=enters_of Tryz.func124 (by kernel_rfl) rfl
 clear hrow hv hb;obtain⟨n,HN⟩:∃n,Xo (l.length=n):=⟨_,rfl⟩;rw[HN.out]at hbig⊢;obtain⟨ANS,HANS⟩:∃ANS:Int->Prop,Xo (∀z,FindsZ l m z=ANS z):=⟨FindsZ l m,fun _=>rfl⟩
 simp only[HANS.out]
 go_enter Tryz.func123,Tryz.ntmps123
 go_wp2
 go_loopg [5,8] n (fun gg _ s8 wr=>∃kk:Nat,kk<=n/\n - kk<=gg/\s8= Xe Xf kk/\Xo (Grew w wr)/\Xo (∀(j:Nat) (q:Ar),j<kk->l[j]? =Xa q->inZ q m=Xd))
 case atStart=>exact⟨0,nZ _,by omega,rfl,Grew.refl w,fun j q hj=>absurd hj (nL _)⟩
 obtain⟨kk,hkk,hg,rfl,BW,A⟩:=hrel
 by_cases hlt:kk<n
 ·have hltz:(kk:Int)< (n:Int):=by omega
  obtain⟨q,HQ⟩:∃q,Xo (l[kk]? =Xa q):=⟨_,gE (by rw[HN.out];exact hlt)⟩
  obtain⟨ad,rfl,hl⟩:=HR.out kk q HQ.out;obtain⟨d0,d1,d2,d3,d4,d5,d6⟩:=hl wr BW.out;have hcall:=findF_any q m p wr (HB.out.grew BW.out);clear hl
  cases hq:inZ q m with
  | true=>
   rw[hq]at hcall;have HF:Xo (ANS (kk:Int)):=show ANS _ by
    rw[<-HANS.out];exact .inl ⟨kk,q,rfl,HQ.out,hq⟩
   clear hq;go_wp2_with fail;refine hcall.mono ?_;rintro e W2 ⟨rfl,g2⟩;have G2:=dD (BW.out.trans g2);clear g2 hcall d0 d1 d2 d3 d4 d5 d6;go_wp2;go_ret;exact⟨⟨_,rfl,HF.out⟩,G2.out⟩
  | false=>
   rw[hq]at hcall;have HA:Xo (∀(j:Nat) (q:Ar),j<kk+1->l[j]? =Xa q->inZ q m=Xd):=show∀(j:Nat) (q:Ar),_ from fun j q' hj hq'=>by
    by_cases e:j=kk
    ·subst e;rw[HQ.out]at hq';cases hq';exact hq
    exact A.out j q' (by omega) hq'
   clear hq;go_wp2_with fail;refine hcall.mono ?_;rintro e W2 ⟨rfl,g2⟩;have G2:=dD (BW.out.trans g2);clear g2 hcall d0 d1 d2 d3 d4 d5 d6;go_wp2
   go_roundg (n -(kk+1))
   case measure=>omega
   exact⟨kk+1,by omega,by omega,by go_num,G2.out,HA.out⟩
 have hltz:¬(kk:Int)< (n:Int):=by omega
 have:kk=n:=by omega
 subst this;have HF:Xo (ANS (-1:Int)):=show ANS _ by
  rw[<-HANS.out];refine .inr ⟨rfl,fun x hx=>?_⟩
  obtain⟨j,hj⟩:=List.getElem?_of_mem hx;exact A.out j x (by rw[<-HN.out];exact(gS.1 hj).1) hj
 go_wp2;go_ret;exact⟨⟨_,rfl,HF.out⟩,BW.out⟩
theorem find_any (v:Xq) (l:List Ar) (m:Int) (w:Xn) (hv:RowAt arE w v l):
  Xp Tryz.prog 67 #[v,Xe Xf m] w fun e w'=>(∃z:Int,e= Xl (Xe Xf z)/\FindsZ l m z)/\Grew w w':=by
 have hmf:∀(fn:Fn) (first cap:Array Xq) (w:Xn),(Instr.makeFunc fn first cap).run Tryz.prog w= .ok (.func fn first cap) w:=fun _ _ _ _=>rfl
 have h1:Xp Tryz.prog 123 #[v,.func (.func 124) #[] #[Xj (Xa ⟨w.heap.size,0,Xb⟩)]] (w.alloc (Xk #[Xe Xf m] 3)) fun e w'=>(∃z:Int,e= Xl (Xe Xf z)/\FindsZ l m z)/\Grew (w.alloc (Xk #[Xe Xf m] 3)) w':=indexArea_any v l m _ _ (Box.top w _ _ rfl) (hv.grew (grew_alloc _ _))
 obtain⟨a,c,rfl,_⟩:=hv.ars;clear hv
 generalize l.length=n at h1⊢
 go_enter Tryz.func67,Tryz.ntmps67
 go_wp2_with fail;refine h1.mono ?_;rintro e W1 ⟨⟨z,rfl,hz⟩,g1⟩;have G1:Xo (Grew w W1):=(grew_alloc _ _).trans g1;have HZ:Xo (FindsZ l m z):=hz;clear g1 h1 hz;go_wp2;go_ret;exact⟨⟨_,rfl,HZ.out⟩,G1.out⟩
def countA (l:List Ar) (s:Nat):Nat->Nat
 | 0=>0
 | n+1=>countA l s n+if(onAt l (s+n)).is=Xc then 1 else 0
theorem countA_le (l:List Ar) (s:Nat):∀n,countA l s n<=n
 | 0=>nR _
 | n+1=>by
  have:=countA_le l s n;unfold countA
  split <;> omega
theorem countA_zero {l:List Ar} {s:Nat}:∀{n:Nat},countA l s n=0↔∀j,j<n->(onAt l (s+j)).is=Xd
 | 0=>by simp[countA]
 | n+1=>by
  unfold countA;have ih:=countA_zero (l:=l) (s:=s) (n:=n);constructor
  ·intro h j hj
   by_cases e:j=n
   ·subst e
    cases hq:(onAt l (s+j)).is with
    | false=>rfl
    | true=>rw[hq]at h;simp at h
   exact ih.1 (by omega) j (by omega)
  intro h;rw[ih.2 fun j hj=>h j (by omega),h n (by omega)]
  simp
theorem count_hit {l:List Ar} {s n:Nat} (h:s+n<=64):countA l s n=0↔hitB l s n=Xd:=by
 rw[countA_zero,hitB_no];constructor
 ·intro h1 k hk h2;have:=h1 (k - s) (by omega)
  rw[show s+(k - s)=k by omega]at this
  exact this
 intro h1 j hj;exact h1 (s+j) (by omega) (by omega)
theorem taken_any (v:Xq) (l:List Ar) (s n:Nat) (w:Xn) (hv:RowAt arE w v l) (hs:s+n<=64):
  Xp Tryz.prog 128 #[v,Xe Xf (s:Int),Xe Xf ((s:Int)+(n:Int))] w fun e w'=>e= Xl (Xe Xf (countA l s n:Int))/\Grew w w':=by
 have HV:Xo (RowAt arE w v l):=hv;have hf:∀W (k:Int),Grew w W->Xp Tryz.prog 67 #[v,Xe Xf k] W fun e w'=>(∃z:Int,e= Xl (Xe Xf z)/\FindsZ l k z)/\Grew W w':=fun W k hW=>find_any v l k W (HV.out.grew hW)
 have HF:Xo _:=hf;clear hv hf;obtain⟨ANS,HANS⟩:∃ANS:Nat,Xo (countA l s n=ANS):=⟨_,rfl⟩;rw[HANS.out]
 go_enter Tryz.func128,Tryz.ntmps128
 go_wp2
 go_loopg [7,8] n (fun gg s7 s8 wr=>∃(kk C:Nat),kk<=n/\n - kk<=gg/\s8= Xe Xf ((s:Int)+(kk:Int))/\s7= Xe Xf (C:Int)/\C<=kk/\Xo (Grew w wr)/\Xo (countA l s kk=C))
 case atStart=>exact⟨0,0,nZ _,by omega,by simp,rfl,nR _,Grew.refl w,rfl⟩
 obtain⟨kk,C,hkk,hg,rfl,rfl,hC,BW,A⟩:=hrel
 by_cases hlt:kk<n
 ·have hltz:(s:Int)+(kk:Int)< (s:Int)+(n:Int):=by omega
  go_wp2_with fail;refine(HF.out wr _ BW.out).mono ?_;rintro e W2 ⟨⟨z,rfl,hz⟩,g2⟩;have G2:=dD (BW.out.trans g2);rw[show(s:Int)+(kk:Int)=((s+kk:Nat):Int) by omega]at hz
  have hzi:=finds_is hz;clear g2 hz
  cases hq:(onAt l (s+kk)).is with
  | true=>
   rw[hq]at hzi;have hz0:0<=z:=by simpa using hzi
   have HA:Xo (countA l s (kk+1)=C+1):=show _=_ by unfold countA;rw[hq,A.out];rfl
   clear hq hzi;go_wp2
   go_roundg (n -(kk+1))
   case measure=>omega
   exact⟨kk+1,C+1,by omega,by omega,by go_num,by go_num,by omega,G2.out,HA.out⟩
  | false=>
   rw[hq]at hzi;have hz0:¬0<=z:=by simpa using hzi
   have HA:Xo (countA l s (kk+1)=C):=show _=_ by unfold countA;rw[hq,A.out];rfl
   clear hq hzi;go_wp2
   go_roundg (n -(kk+1))
   case measure=>omega
   exact⟨kk+1,C,by omega,by omega,by go_num,rfl,by omega,G2.out,HA.out⟩
 have hltz:¬(s:Int)+(kk:Int)< (s:Int)+(n:Int):=by omega
 have:kk=n:=by omega
 subst this;have HE:Xo ((C:Int)=(ANS:Int)):=show _=_ by rw[<-HANS.out,A.out]
 go_wp2;go_ret;exact⟨by rw[HE.out];rfl,BW.out⟩
def prevO (l:List Ar):Nat->Option Ar
 | 0=>Xb
 | k+1=>l[k]?
theorem wrGo_cons (p:Option Ar) (a:Ar) (l:List Ar) (i:Nat):wrGo p (a :: l) i=if arW a≠0 then(arW a,(i:Int))else match p with | some b=>if a.fr<b.tz\/goB a b=Xc then(2,(i:Int))else wrGo (Xa a) l (i+1) | none=>wrGo (Xa a) l (i+1):=by
 cases p <;> rfl
theorem wrn_bad {l:List Ar} {k:Nat} {q:Ar} {r:Int × Int} (h:wrGo (prevO l k) (l.drop k) k=r) (hq:l[k]? =Xa q) (hz:arW q≠0):r=(arW q,(k:Int)):=by
 rw[drop_cons hq,wrGo_cons,if_pos hz]at h;exact h.symm
theorem wrn_first {l:List Ar} {q:Ar} {r:Int × Int} (h:wrGo (prevO l 0) (l.drop 0) 0=r) (hq:l[0]? =Xa q) (hz:arW q=0):wrGo (prevO l 1) (l.drop 1) 1=r:=by
 rw[drop_cons hq,wrGo_cons,if_neg (fun h=>h hz)]at h
 simp only[prevO]at h⊢;rw[hq];exact h
theorem wrn_form {l:List Ar} {j:Nat} {b q:Ar} {r:Int × Int} (h:wrGo (prevO l (j+1)) (l.drop (j+1)) (j+1)=r) (hb:l[j]? =Xa b) (hq:l[j+1]? =Xa q) (hz:arW q=0) (hc:q.fr<b.tz\/goB q b=Xc):r=(2,((j+1:Nat):Int)):=by
 rw[drop_cons hq,wrGo_cons,if_neg (fun h=>h hz)]at h
 simp only[prevO,hb]at h;rw[if_pos hc]at h;exact h.symm
theorem wrn_next {l:List Ar} {j:Nat} {b q:Ar} {r:Int × Int} (h:wrGo (prevO l (j+1)) (l.drop (j+1)) (j+1)=r) (hb:l[j]? =Xa b) (hq:l[j+1]? =Xa q) (hz:arW q=0) (hc:¬q.fr<b.tz) (hc':goB q b=Xd):wrGo (prevO l (j+1+1)) (l.drop (j+1+1)) (j+1+1)=r:=by
 rw[drop_cons hq,wrGo_cons,if_neg (fun h=>h hz)]at h
 simp only[prevO,hb]at h;rw[if_neg (by rintro(h1 | h1);exact hc h1;rw[hc']at h1;cases h1)]at h
 simp only[prevO,hq];exact h
theorem wrn_end {l:List Ar} {r:Int × Int} (h:wrGo (prevO l l.length) (l.drop l.length) l.length=r):r=(0,0):=by
 rw[List.drop_length,wrGo]at h;exact h.symm
theorem wrL_start {l:List Ar} (h:¬16<l.length):wrGo (prevO l 0) (l.drop 0) 0=wrL l:=by
 unfold wrL;rw[if_neg h];rfl
theorem wrongAr_any (v:Xq) (l:List Ar) (w:Xn) (hv:RowAt arE w v l):
  Xp Tryz.prog 117 #[v] w fun e w'=>e= Xl (Xi #[Xe Xf (wrL l).1,Xe Xf (wrL l).2])/\Grew w w':=by
 have hbig:=hv.short;obtain⟨a,c,rfl,hrow⟩:=hv.ars;have HR':Xo (ArRows w a l):=hrow;have hwa:Xo (∀(q:Ar) W,Xp Tryz.prog 129 #[Xi #[Xe Xf q.fr,Xe Xf q.tz,Xh q.rd,Xh q.wr,Xh q.sh,Xe Xf q.file,Xe Xf q.base]] W fun e w'=>e= Xl (Xe Xf (arW q))/\Grew W w'):=fun q W=>wrongArea_any q W
 have hgo:Xo (∀(q b:Ar) W,ArOk b->Xp Tryz.prog 166 #[Xi #[Xe Xf q.fr,Xe Xf q.tz,Xh q.rd,Xh q.wr,Xh q.sh,Xe Xf q.file,Xe Xf q.base],Xi #[Xe Xf b.fr,Xe Xf b.tz,Xh b.rd,Xh b.wr,Xh b.sh,Xe Xf b.file,Xe Xf b.base]] W fun e w'=>e= Xl (Xh (goB q b))/\Grew W w'):=fun q b W h=>goesOn_any q b W h
 clear hrow hv;have HST:Xo (¬16<l.length->wrGo (prevO l 0) (l.drop 0) 0=wrL l):=wrL_start;have HMA:Xo (16<l.length->wrL l=(4,0)):=fun h=>by unfold wrL;rw[if_pos h]
 have HEND:Xo (∀r,wrGo (prevO l l.length) (l.drop l.length) l.length=r->r=(0,0)):=fun r=>wrn_end
 obtain⟨n,HN⟩:∃n,Xo (l.length=n):=⟨_,rfl⟩;rw[HN.out]at hbig⊢;have HST':Xo (¬16<n->wrGo (prevO l 0) (l.drop 0) 0=wrL l):=show _->_ by rw[<-HN.out];exact HST.out
 have HMA':Xo (16<n->wrL l=(4,0)):=show _->_ by rw[<-HN.out];exact HMA.out
 have HEND':Xo (∀r,wrGo (prevO l n) (l.drop n) n=r->r=(0,0)):=show∀r,_ by rw[<-HN.out];exact HEND.out
 clear HST HMA HEND
 generalize hA:wrL l=ANS at HST' HMA'⊢
 clear hA;obtain⟨W0,hW0⟩:∃W0,w.alloc (Xk #[Xe Xf 0,Xe Xf 0] 186)=W0:=⟨_,rfl⟩;have HG0:=gA hW0
 have X0:=xA hW0
 have HW0:Xo (_=W0):=hW0;clear hW0
 by_cases hmany:16<n
 ·have HR:Xo (ANS=(4,0)):=HMA'.out hmany;have hmz:(16:Int)< (n:Int):=by omega
  go_enter Tryz.func117,Tryz.ntmps117
  go_upto_region 1 with fail;rw[HW0.out];have f0:=X0.out.c 0 rfl;have f1:=X0.out.c 1 rfl;have ff:=X0.out.f;have RB:Xo (Box ((W0.setCell ⟨w.heap.size,0,Xb⟩ (Xe Xf 4)).setCell ⟨w.heap.size,1,Xb⟩ (Xe Xf 0)) w.heap.size [Xe Xf 4,Xe Xf 0]):=show Box _ _ _ from(X0.out.set 0 _).set 1 _
  have RG:Xo (Grew w ((W0.setCell ⟨w.heap.size,0,Xb⟩ (Xe Xf 4)).setCell ⟨w.heap.size,1,Xb⟩ (Xe Xf 0))):=show Grew _ _ from grew_set (grew_set HG0.out (by simp) _) (by simp) _
  go_wp2;refine bodyPost_ret (ret_cell (vs:=[Xe Xf 4,Xe Xf 0]) rfl _ rfl RB.out Tryz.underlying186 rfl Tryz.sizeFault) rfl ⟨?_,RG.out⟩;rw[HR.out]
 have hmz:¬(16:Int)< (n:Int):=by omega
 have HI:Xo (wrGo (prevO l 0) (l.drop 0) 0=ANS):=HST'.out hmany
 go_enter Tryz.func117,Tryz.ntmps117
 go_upto_region 1 with fail;rw[HW0.out];go_wp2
 go_loopg [12] n (fun gg s12 wr=>∃kk:Nat,kk<=n/\n - kk<=gg/\s12= Xe Xf kk/\Xo (Grew w wr)/\Xo (Box wr w.heap.size [Xe Xf 0,Xe Xf 0])/\Xo (wrGo (prevO l kk) (l.drop kk) kk=ANS)/\Xo (∀(j:Nat) q,j<kk->l[j]? =Xa q->ArOk q))
 case atStart=>exact⟨0,nZ _,by omega,rfl,HG0.out,X0.out,HI.out,fun j q hj=>absurd hj (nL _)⟩
 obtain⟨kk,hkk,hg,rfl,BW,FW,IW,OW⟩:=hrel
 by_cases hlt:kk<n
 ·have hltz:(kk:Int)< (n:Int):=by omega
  obtain⟨q,HQ⟩:∃q,Xo (l[kk]? =Xa q):=⟨_,gE (by rw[HN.out];exact hlt)⟩
  obtain⟨ad,rfl,hl⟩:=HR'.out kk q HQ.out;obtain⟨d0,d1,d2,d3,d4,d5,d6⟩:=hl wr BW.out;have HL:Xo (w.heap.size<wr.heap.size):=FW.out.lt;obtain⟨p,HP⟩:∃p,Xo (wr.heap.size=p):=⟨_,rfl⟩;have HLP:Xo (w.heap.size<p):=show _<_ by rw[<-HP.out];exact HL.out
  clear hl HL;go_upto_region 6 with fail;obtain⟨W1,hW1⟩:∃W1,wr.alloc (Xk #[Xe Xf q.fr,Xe Xf q.tz,Xh q.rd,Xh q.wr,Xh q.sh,Xe Xf q.file,Xe Xf q.base] 125)=W1:=⟨_,rfl⟩;have G1:=gT hW1 BW
  have F1:=yA hW1 FW
  have P1:=xP hW1 HP
  rw[hW1,HP.out];clear hW1 d0 d1 d2 d3 d4 d5 d6
  go_wp2_with (refine wp_loadAll rfl 125 (.tmp 4) rfl p rfl P1.out Tryz.underlying125 rfl Tryz.sizeArea ?_)
  refine(hwa.out q _).mono ?_;rintro e W2 ⟨rfl,g2⟩;have G2:=dD (G1.out.trans g2);have F2:=dD (F1.out.grew g2);have P2:=dD (P1.out.grew g2);clear g2;have hpne:p≠w.heap.size:=by have:=HLP.out;omega
  have hpne':w.heap.size≠p:=by have:=HLP.out;omega
  by_cases hz:arW q=0
  ·have HZ:Xo (arW q=0):=hz;have hzb:(arW q != 0)=Xd:=by simp[hz]
   have HOK:Xo (ArOk q):=arW_zero.1 hz;have OW':Xo (∀(j:Nat) x,j<kk+1->l[j]? =Xa x->ArOk x):=show∀(j:Nat) x,_ from fun j x hj hx=>by
    by_cases e:j=kk
    ·subst e;rw[HQ.out]at hx;cases hx;exact HOK.out
    exact OW.out j x (by omega) hx
   clear hz;go_upto_region 9 with fail
   generalize arW q=zq
   cases kk with
   | zero=>
    have HNX:Xo (wrGo (prevO l 1) (l.drop 1) 1=ANS):=wrn_first IW.out HQ.out HZ.out;have hz0:¬(0:Int)< ((0:Nat):Int):=by decide
    have hz1:decide ((0:Int)< ((0:Nat):Int))=Xd:=by decide
    go_quiet (fail);go_wp2
    go_roundg (n - 1)
    case measure=>omega
    exact⟨1,by omega,by omega,by go_num,G2.out.trans (show Below _ _ _ from bD (bR _ _) _),F2.out.grew (show Below _ _ _ from bD (bR _ _) _),HNX.out,OW'.out⟩
   | succ j=>
    obtain⟨b,HB⟩:∃b,Xo (l[j]? =Xa b):=⟨_,gE (by rw[HN.out];omega)⟩
    have HBK:Xo (ArOk b):=OW.out j b (by omega) HB.out
    have hz0:(0:Int)< ((j+1:Nat):Int):=by omega
    have hz1:decide ((0:Int)< ((j+1:Nat):Int))=Xc:=by simp
    have hj1:((j+1:Nat):Int) - 1=(j:Int):=by omega
    have hjn:(j:Int)< (n:Int):=by omega
    obtain⟨ad',had,hl⟩:=HR'.out j b HB.out;obtain rfl:ad=ad':=by cases had;rfl
    by_cases hc:q.fr<b.tz
    ·have HR:Xo (ANS=(2,((j+1:Nat):Int))):=wrn_form IW.out HB.out HQ.out HZ.out (.inl hc);have hcd:decide (q.fr<b.tz)=Xc:=by simpa using hc
     obtain⟨e0,e1,e2,e3,e4,e5,e6⟩:=hl W2 G2.out;have p0:=P2.out.c 0 rfl;clear hl;go_quiet (fail);obtain⟨W3,hW3⟩:∃W3,W2.drewN nq=W3:=⟨_,rfl⟩;have G3:Xo (Grew w W3):=show Grew _ _ by rw[<-hW3];exact G2.out.trans (show Below _ _ _ from bD (bR _ _) _)
     have F3:Xo (Box W3 w.heap.size [Xe Xf 0,Xe Xf 0]):=show Box _ _ _ by rw[<-hW3];exact F2.out.grew (show Below _ _ _ from bD (bR _ _) _)
     rw[hW3];clear hW3 e0 e1 e2 e3 e4 e5 e6 p0;have f0:=F3.out.c 0 rfl;have f1:=F3.out.c 1 rfl;have ff:=F3.out.f;have RB:Xo (Box ((W3.setCell ⟨w.heap.size,0,Xb⟩ (Xe Xf 2)).setCell ⟨w.heap.size,1,Xb⟩ (Xe Xf ((j+1:Nat):Int))) w.heap.size [Xe Xf 2,Xe Xf ((j+1:Nat):Int)]):=show Box _ _ _ from(F3.out.set 0 _).set 1 _
     have RG:Xo (Grew w ((W3.setCell ⟨w.heap.size,0,Xb⟩ (Xe Xf 2)).setCell ⟨w.heap.size,1,Xb⟩ (Xe Xf ((j+1:Nat):Int)))):=show Grew _ _ from grew_set (grew_set G3.out (by simp) _) (by simp) _
     go_wp2;refine bodyPost_ret (ret_cell (vs:=[Xe Xf 2,Xe Xf ((j+1:Nat):Int)]) rfl _ rfl RB.out Tryz.underlying186 rfl Tryz.sizeFault) rfl ⟨?_,RG.out⟩;rw[HR.out]
    have hcd:decide (q.fr<b.tz)=Xd:=by simpa using hc
    have HC:Xo (¬q.fr<b.tz):=hc;have hx0:=P2.out.gw 0 rfl
    have hx1:=P2.out.gw 1 rfl
    have hx2:=P2.out.gw 2 rfl
    have hx3:=P2.out.gw 3 rfl
    have hx4:=P2.out.gw 4 rfl
    have hx5:=P2.out.gw 5 rfl
    have hx6:=P2.out.gw 6 rfl
    have hy0:∀y:GrownW W2,y.world.cell? (ad.add (j*7))=Xa (Xe Xf b.fr):=fun y=>(hl _ (G2.out.trans y.grew)).1
    have hy1:∀y:GrownW W2,y.world.cell? { block:=(ad.add (j*7)).block,off:=(ad.add (j*7)).off+1 }=Xa (Xe Xf b.tz):=fun y=>(hl _ (G2.out.trans y.grew)).2.1
    have hy2:∀y:GrownW W2,y.world.cell? { block:=(ad.add (j*7)).block,off:=(ad.add (j*7)).off+2 }=Xa (Xh b.rd):=fun y=>(hl _ (G2.out.trans y.grew)).2.2.1
    have hy3:∀y:GrownW W2,y.world.cell? { block:=(ad.add (j*7)).block,off:=(ad.add (j*7)).off+3 }=Xa (Xh b.wr):=fun y=>(hl _ (G2.out.trans y.grew)).2.2.2.1
    have hy4:∀y:GrownW W2,y.world.cell? { block:=(ad.add (j*7)).block,off:=(ad.add (j*7)).off+4 }=Xa (Xh b.sh):=fun y=>(hl _ (G2.out.trans y.grew)).2.2.2.2.1
    have hy5:∀y:GrownW W2,y.world.cell? { block:=(ad.add (j*7)).block,off:=(ad.add (j*7)).off+5 }=Xa (Xe Xf b.file):=fun y=>(hl _ (G2.out.trans y.grew)).2.2.2.2.2.1
    have hy6:∀y:GrownW W2,y.world.cell? { block:=(ad.add (j*7)).block,off:=(ad.add (j*7)).off+6 }=Xa (Xe Xf b.base):=fun y=>(hl _ (G2.out.trans y.grew)).2.2.2.2.2.2
    have hne:Nonempty (GrownW W2):=⟨⟨_,Grew.refl _⟩⟩;clear hl;refine wp_lax [(19,⟨fun v=>v= Xh (goB q b),fun _ _=>True⟩)] mixed (by kernel_rfl) ?_ ?_ ?_
    ·intro x hx
     simp at hx
     subst hx;exact⟨_,rfl⟩
    ·intro x hx
     simp at hx
     subst hx;exact fun _ _ _ _ h=>h
    iterate 19 (refine lax_quiet rfl rfl rfl (fun K hK=>?_);go_big_quiet_op;refine hK _ ?_;clear hK K)
    refine lax_spec rfl rfl (fun w' hg hF=>?_) (fun v1 hv=>?_)
    ·refine Does.call [Xi #[Xe Xf q.fr,Xe Xf q.tz,Xh q.rd,Xh q.wr,Xh q.sh,Xe Xf q.file,Xe Xf q.base],Xi #[Xe Xf b.fr,Xe Xf b.tz,Xh b.rd,Xh b.wr,Xh b.sh,Xe Xf b.file,Xe Xf b.base]] rfl Tryz.func166 rfl rfl rfl ?_;refine(hgo.out q b w' HBK.out).mono ?_;rintro e w'' ⟨rfl,hg2⟩;exact⟨_,rfl,hg2,rfl,trivial⟩
    subst hv;simp only[Xt,sB,sS,sZ];iterate 2 (refine lax_quiet rfl rfl rfl (fun K hK=>?_);go_big_quiet_op;refine hK _ ?_;clear hK K)
    refine lax_nil fun W3 hg1 hF=>?_
    have G3:=dD (G2.out.trans hg1);have F3:=dD (F2.out.grew hg1);clear hg1 hF hx0 hx1 hx2 hx3 hx4 hx5 hx6 hy0 hy1 hy2 hy3 hy4 hy5 hy6 hne
    cases hgb:goB q b with
    | true=>
     have HR:Xo (ANS=(2,((j+1:Nat):Int))):=wrn_form IW.out HB.out HQ.out HZ.out (.inr hgb);clear hgb;have f0:=F3.out.c 0 rfl;have f1:=F3.out.c 1 rfl;have ff:=F3.out.f;have RB:Xo (Box ((W3.setCell ⟨w.heap.size,0,Xb⟩ (Xe Xf 2)).setCell ⟨w.heap.size,1,Xb⟩ (Xe Xf ((j+1:Nat):Int))) w.heap.size [Xe Xf 2,Xe Xf ((j+1:Nat):Int)]):=show Box _ _ _ from(F3.out.set 0 _).set 1 _
     have RG:Xo (Grew w ((W3.setCell ⟨w.heap.size,0,Xb⟩ (Xe Xf 2)).setCell ⟨w.heap.size,1,Xb⟩ (Xe Xf ((j+1:Nat):Int)))):=show Grew _ _ from grew_set (grew_set G3.out (by simp) _) (by simp) _
     go_wp2;refine bodyPost_ret (ret_cell (vs:=[Xe Xf 2,Xe Xf ((j+1:Nat):Int)]) rfl _ rfl RB.out Tryz.underlying186 rfl Tryz.sizeFault) rfl ⟨?_,RG.out⟩;rw[HR.out]
    | false=>
     have HNX:Xo (wrGo (prevO l (j+1+1)) (l.drop (j+1+1)) (j+1+1)=ANS):=wrn_next IW.out HB.out HQ.out HZ.out HC.out hgb;clear hgb;go_wp2
     go_roundg (n -(j+1+1))
     case measure=>omega
     exact⟨j+1+1,by omega,by omega,by go_num,G3.out,F3.out,HNX.out,OW'.out⟩
  have HR:Xo (ANS=(arW q,(kk:Int))):=wrn_bad IW.out HQ.out hz;have hzb:(arW q != 0)=Xc:=by simp[hz]
  clear hz;have f0:=F2.out.c 0 rfl;have f1:=F2.out.c 1 rfl;have ff:=F2.out.f;have RB:Xo (Box ((W2.setCell ⟨w.heap.size,0,Xb⟩ (Xe Xf (arW q))).setCell ⟨w.heap.size,1,Xb⟩ (Xe Xf (kk:Int))) w.heap.size [Xe Xf (arW q),Xe Xf (kk:Int)]):=show Box _ _ _ from(F2.out.set 0 _).set 1 _
  have RG:Xo (Grew w ((W2.setCell ⟨w.heap.size,0,Xb⟩ (Xe Xf (arW q))).setCell ⟨w.heap.size,1,Xb⟩ (Xe Xf (kk:Int)))):=show Grew _ _ from grew_set (grew_set G2.out (by simp) _) (by simp) _
  go_wp2;refine bodyPost_ret (ret_cell (vs:=[Xe Xf (arW q),Xe Xf (kk:Int)]) rfl _ rfl RB.out Tryz.underlying186 rfl Tryz.sizeFault) rfl ⟨?_,RG.out⟩;rw[HR.out]
 have hltz:¬(kk:Int)< (n:Int):=by omega
 have:kk=n:=by omega
 subst this;have HR:Xo (ANS=(0,0)):=HEND'.out _ IW.out;have f0:=FW.out.c 0 rfl;have f1:=FW.out.c 1 rfl;have ff:=FW.out.f;have RB:Xo (Box ((wr.setCell ⟨w.heap.size,0,Xb⟩ (Xe Xf 0)).setCell ⟨w.heap.size,1,Xb⟩ (Xe Xf 0)) w.heap.size [Xe Xf 0,Xe Xf 0]):=show Box _ _ _ from(FW.out.set 0 _).set 1 _
 have RG:Xo (Grew w ((wr.setCell ⟨w.heap.size,0,Xb⟩ (Xe Xf 0)).setCell ⟨w.heap.size,1,Xb⟩ (Xe Xf 0))):=show Grew _ _ from grew_set (grew_set BW.out (by simp) _) (by simp) _
 go_wp2;refine bodyPost_ret (ret_cell (vs:=[Xe Xf 0,Xe Xf 0]) rfl _ rfl RB.out Tryz.underlying186 rfl Tryz.sizeFault) rfl ⟨?_,RG.out⟩;rw[HR.out]
theorem esW_cons (e:En) (l:List En):esW (e :: l)=if enW e=0 then esW l else enW e:=rfl
theorem tbW_cons (h:List En) (t:List (List En)):tbW (h :: t)=if haW h=0 then tbW t else haW h:=rfl
theorem haW_8 {h:List En} (h8:h.length=8):haW h=if esW h=0 then(if anyS h=Xc then 0 else 2)else esW h:=by
 unfold haW;rw[if_neg (by omega),if_pos h8]
theorem wrongHalf_any (v:Xq) (fs:List En) (w:Xn) (hv:RowAt enE w v fs):
  Xp Tryz.prog 167 #[v] w fun e w'=>e= Xl (Xe Xf (haW fs))/\Grew w w':=by
 have hbig:=hv.short;have HV:Xo (RowAt enE w v fs):=hv;obtain⟨a,c,rfl,hrow⟩:=hv.ens;have HR:Xo (EnRows w a fs):=hrow;clear hrow hv;obtain⟨n,HN⟩:∃n,Xo (fs.length=n):=⟨_,rfl⟩;obtain⟨Z,HZ⟩:∃Z,Xo (haW fs=Z):=⟨_,rfl⟩;rw[HN.out]at hbig HV⊢;rw[HZ.out]
 by_cases h0:n=0
 ·have HF:Xo (Z=0):=show _=_ by rw[<-HZ.out];unfold haW;rw[if_pos (by rw[HN.out];exact h0)]
  subst h0
  go_enter Tryz.func167,Tryz.ntmps167
  go_wp2;go_ret;exact⟨by rw[HF.out];rfl,Grew.refl _⟩
 have h0b:((n:Int) == 0)=Xd:=by simpa using h0
 by_cases h8:n=8
 ·have H8:=dD (HN.out.trans h8);have h8b:((n:Int) != 8)=Xd:=by simp[h8]
  clear h0 h8;have hcon:=fun W (hW:Grew w W)=>containsSome_any (O a n c) fs W (HV.out.grew hW)
  go_enter Tryz.func167,Tryz.ntmps167
  go_wp2
  go_loopg [14] n (fun gg s14 wr=>∃kk:Nat,kk<=n/\n - kk<=gg/\s14= Xe Xf kk/\Xo (Grew w wr)/\Xo (esW (fs.drop kk)=esW fs))
  case atStart=>exact⟨0,nZ _,by omega,rfl,Grew.refl w,rfl⟩
  obtain⟨kk,hkk,hg,rfl,BW,AW⟩:=hrel
  by_cases hlt:kk<n
  ·have hltz:(kk:Int)< (n:Int):=by omega
   obtain⟨q,HQ⟩:∃q,Xo (fs[kk]? =Xa q):=⟨_,gE (by rw[HN.out];exact hlt)⟩
   obtain⟨ad,rfl,hl⟩:=HR.out kk q HQ.out;obtain⟨d0,d1,d2⟩:=hl wr BW.out;obtain⟨W2,hW2⟩:∃W2,wr.alloc (Xk #[Xe Xf q.kind,Xe Xf q.n,Xh q.wr] 127)=W2:=⟨_,rfl⟩;have GA:=gT hW2 BW
   have HW2:Xo (_=W2):=hW2;have hcall:=wrongEntry_any q.kind q.n q.wr W2;have HST:Xo (esW (fs.drop kk)=if enW ⟨q.kind,q.n,q.wr⟩=0 then esW (fs.drop (kk+1))else enW ⟨q.kind,q.n,q.wr⟩):=show _=_ by rw[drop_cons HQ.out,esW_cons]
   clear hl hW2
   generalize enW ⟨q.kind,q.n,q.wr⟩=z at hcall HST
   by_cases hz:z=0
   ·have HA:Xo (esW (fs.drop (kk+1))=esW fs):=show _=_ by rw[<-AW.out,HST.out,if_pos hz]
    subst hz;clear HST;go_wp2_with fail;rw[HW2.out];refine hcall.mono ?_;rintro e W3 ⟨rfl,k1⟩;have G3:=dD (GA.out.trans k1);clear k1 hcall d0 d1 d2;go_wp2
    go_roundg (n -(kk+1))
    case measure=>omega
    exact⟨kk+1,by omega,by omega,by go_num,G3.out,HA.out⟩
   have hzb:(z != 0)=Xc:=by simpa using hz
   have HF:Xo (Z=z):=show _=_ by
    have h1:=AW.out;rw[HST.out,if_neg hz]at h1;rw[<-HZ.out,haW_8 H8.out,<-h1,if_neg hz]
   clear HST;go_wp2_with fail;rw[HW2.out];refine hcall.mono ?_;rintro e W3 ⟨rfl,k1⟩;have G3:=dD (GA.out.trans k1);clear k1 hcall d0 d1 d2;go_wp2;go_ret;exact⟨by rw[HF.out];rfl,G3.out⟩
  have hltz:¬(kk:Int)< (n:Int):=by omega
  have:kk=n:=by omega
  subst this;have HE:Xo (esW fs=0):=show _=_ by
   rw[<-AW.out,Xu (by rw[HN.out];exact nR _)]
   rfl
  have hcall:=hcon wr BW.out;have HST:Xo (Z=if anyS fs=Xc then 0 else 2):=show _=_ by rw[<-HZ.out,haW_8 H8.out,HE.out,if_pos rfl]
  generalize anyS fs=A at hcall HST
  clear hcon
  cases A with
  | true=>
   go_wp2_with fail;refine hcall.mono ?_;rintro e W3 ⟨rfl,k1⟩;have G3:=dD (BW.out.trans k1);clear k1 hcall;go_wp2;go_ret;exact⟨by rw[HST.out];rfl,G3.out⟩
  | false=>
   go_wp2_with fail;refine hcall.mono ?_;rintro e W3 ⟨rfl,k1⟩;have G3:=dD (BW.out.trans k1);clear k1 hcall;go_wp2;go_ret;exact⟨by rw[HST.out];rfl,G3.out⟩
 have h8b:((n:Int) != 8)=Xc:=by simp;omega
 have HF:Xo (Z=2):=show _=_ by rw[<-HZ.out];unfold haW;rw[if_neg (by rw[HN.out];exact h0),if_neg (by rw[HN.out];exact h8)]
 clear h0 h8
 go_enter Tryz.func167,Tryz.ntmps167
 go_wp2;go_ret;exact⟨by rw[HF.out];rfl,Grew.refl _⟩
theorem wrongTb_any (vs:List Xq) (t:List (List En)) (w:Xn) (hv:TabAt w vs t):
  Xp Tryz.prog 118 #[Xi vs.toArray] w fun e w'=>e= Xl (Xe Xf (tbW t))/\Grew w w':=by
 have HV:Xo (TabAt w vs t):=hv;have HL:Xo (vs.length=8):=hv.len;clear hv;obtain⟨Z,HZ⟩:∃Z,Xo (tbW t=Z):=⟨_,rfl⟩;rw[HZ.out];obtain⟨W0,hW0⟩:∃W0,w.alloc (Xk vs.toArray 74)=W0:=⟨_,rfl⟩;have HG0:=gA hW0
 have X0:=xA hW0
 have HW0:Xo (_=W0):=hW0;clear hW0
 go_enter Tryz.func118,Tryz.ntmps118
 go_upto_region 1 with fail;rw[HW0.out]
 go_wp2_with (refine wp_loadTab rfl (.tmp 1) rfl w.heap.size rfl X0.out HL.out ?_)
 go_loopg [7] 8 (fun gg s7 wr=>∃kk:Nat,kk<=8/\8 - kk<=gg/\s7= Xe Xf kk/\Xo (Grew w wr)/\Xo (tbW (t.drop kk)=tbW t))
 case atStart=>exact⟨0,nZ _,by omega,rfl,HG0.out,rfl⟩
 obtain⟨kk,hkk,hg,rfl,BW,AW⟩:=hrel
 by_cases hlt:kk<8
 ·have hltz:(kk:Int)<8:=by omega
  obtain⟨xa,xc,q,hq,hvk,hr⟩:=HV.out.half hlt;have HQ:Xo (t[kk]? =Xa q):=hq;have HVK:Xo (vs[kk]? =Xa (O xa q.length xc)):=hvk;have hcall:=wrongHalf_any (O xa q.length xc) q wr (hr.grew BW.out);have HST:Xo (tbW (t.drop kk)=if haW q=0 then tbW (t.drop (kk+1))else haW q):=show _=_ by rw[drop_cons HQ.out,tbW_cons]
  clear hq hvk hr
  generalize haW q=z at hcall HST
  generalize q.length=nq at hcall HVK
  by_cases hz:z=0
  ·have HA:Xo (tbW (t.drop (kk+1))=tbW t):=show _=_ by rw[<-AW.out,HST.out,if_pos hz]
   subst hz;clear HST
   go_wp2_with (refine wp_half rfl (.tmp 6) (.tmp 7) rfl vs rfl kk rfl hlt HVK.out ?_)
   refine hcall.mono ?_;rintro e W3 ⟨rfl,k1⟩;have G3:=dD (BW.out.trans k1);clear k1 hcall;go_wp2
   go_roundg (8 -(kk+1))
   case measure=>omega
   exact⟨kk+1,by omega,by omega,by go_num,G3.out,HA.out⟩
  have hzb:(z != 0)=Xc:=by simpa using hz
  have HF:Xo (Z=z):=show _=_ by
   have h1:=AW.out;rw[HST.out,if_neg hz]at h1;rw[<-HZ.out,<-h1]
  clear HST
  go_wp2_with (refine wp_half rfl (.tmp 6) (.tmp 7) rfl vs rfl kk rfl hlt HVK.out ?_)
  refine hcall.mono ?_;rintro e W3 ⟨rfl,k1⟩;have G3:=dD (BW.out.trans k1);clear k1 hcall;go_wp2;go_ret;exact⟨by rw[HF.out];rfl,G3.out⟩
 have hltz:¬(kk:Int)<8:=by omega
 have:kk=8:=by omega
 subst this;have HF:Xo (Z=0):=show _=_ by
  rw[<-HZ.out,<-AW.out,Xu (by rw[HV.out.tlen];exact nR _)]
  rfl
 go_wp2;go_ret;exact⟨by rw[HF.out];rfl,BW.out⟩
def enV (e:En):Xq:= Xi #[Xe Xf e.kind,Xe Xf e.n,Xh e.wr]
theorem page_split {n:Int} (h0:0<=n) (h1:n<64):∃i k:Nat,i<8/\k<8/\n=8*i+k/\n / 8=(i:Int)/\n % 8=(k:Int)/\n.tdiv 8=(i:Int)/\n.tmod 8=(k:Int)/\n.toNat / 8=i/\n.toNat % 8=k:=by
 refine⟨n.toNat / 8,n.toNat % 8,by omega,by omega,by omega,by omega,by omega,?_,?_,rfl,rfl⟩
 ·rw[Int.tdiv_eq_ediv_of_nonneg h0];omega
 rw[Int.tmod_eq_emod_of_nonneg h0];omega
theorem getTb_any (vs:List Xq) (t:List (List En)) (n:Int) (w:Xn) (hv:TabAt w vs t):
  Xp Tryz.prog 69 #[Xi vs.toArray,Xe Xf n] w fun e w'=>e= Xl (enV (getT t n))/\Grew w w':=by
 have HV:Xo (TabAt w vs t):=hv;have HL:Xo (vs.length=8):=hv.len;clear hv;obtain⟨Z,HZ⟩:∃Z,Xo (getT t n=Z):=⟨_,rfl⟩;rw[HZ.out];obtain⟨W0,hW0⟩:∃W0,(w.alloc (Xk vs.toArray 74)).alloc (Xk #[Xe Xf 0,Xe Xf 0,Xh Xd] 127)=W0:=⟨_,rfl⟩;have HG0:=gD2 hW0
 have X0:=x2a hW0
 have Y0:=x2b hW0
 have HW0:Xo (_=W0):=hW0;clear hW0;have three:∀(W:Xn) (u v x:Xq),Box W (w.heap.size+1) [Xe Xf 0,Xe Xf 0,Xh Xd]->Grew w W->Grew w (((W.setCell ⟨w.heap.size+1,0,Xb⟩ u).setCell ⟨w.heap.size+1,1,Xb⟩ v).setCell ⟨w.heap.size+1,2,Xb⟩ x):=fun W u v x _ hg=>
  Below.setCell (Below.setCell (Below.setCell hg (p:=⟨w.heap.size+1,0,Xb⟩) (by simp) _) (p:=⟨w.heap.size+1,1,Xb⟩) (by simp) _) (p:=⟨w.heap.size+1,2,Xb⟩) (by simp) _
 have HT:Xo (∀(W:Xn) (u v x:Xq),Box W (w.heap.size+1) [Xe Xf 0,Xe Xf 0,Xh Xd]->Grew w W->Grew w (((W.setCell ⟨w.heap.size+1,0,Xb⟩ u).setCell ⟨w.heap.size+1,1,Xb⟩ v).setCell ⟨w.heap.size+1,2,Xb⟩ x)):=three;clear three;obtain⟨y0,y1,y2⟩:=Y0.out.c3;have yf:=Y0.out.f
 by_cases hn:0<=n/\n<64
 ·obtain⟨h0,h1⟩:=hn;obtain⟨i,k,hi,hk,hnk,q1,q2,q3,q4,q5,q6⟩:=page_split h0 h1;have hb:=fun W=>belowT_yes (m:=n) (n:=64) h0 h1 W
  obtain⟨xa,xc,q,hq,hvk,hr⟩:=HV.out.half hi;have HF:Xo (Z=q[k]?.getD en0):=show _=_ by
   rw[<-HZ.out];unfold getT;rw[if_pos ⟨h0,h1⟩,q5,q6];unfold getN;rw[hq];rfl
  have x0:=X0.out.c i hvk;obtain⟨_,_,heq,hens⟩:=hr.ens;cases heq;have HE:Xo (EnRows w xa q):=hens;have hiz:(i:Int)<8:=by omega
  clear hens hr hq hvk q5 q6 hnk;obtain⟨nq,HNQ⟩:∃nq,Xo (q.length=nq):=⟨_,rfl⟩;rw[HNQ.out]at x0
  by_cases hkq:k<nq
  ·obtain⟨e,HE1⟩:∃e,Xo (q[k]? =Xa e):=⟨_,gE (by rw[HNQ.out];exact hkq)⟩
   obtain⟨ad,rfl,hl⟩:=HE.out k e HE1.out;obtain⟨d0,d1,d2⟩:=hl W0 HG0.out;have HF':Xo (Z=e):=show _=_ by rw[HF.out,HE1.out];rfl
   have hkz:¬(nq:Int)<=(k:Int):=by omega
   have hkd:decide ((nq:Int)<=(k:Int))=Xd:=decide_eq_false hkz;have hklt:(k:Int)< (nq:Int):=by omega
   clear hl
   go_enter Tryz.func69,Tryz.ntmps69
   go_wp2_with fail;rw[HW0.out];refine(hb _).mono ?_;rintro e w' ⟨rfl,hw'⟩;rw[hw'];clear hw' w';go_wp2;refine bodyPost_ret (v:= Xi #[Xe Xf e.kind,Xe Xf e.n,Xh e.wr]) (by simp[results,Tryz.results69,go_sem, *]) rfl ⟨?_,?_⟩
   ·rw[HF'.out];rfl
   exact HT.out _ _ _ _ Y0.out HG0.out
  have HF':Xo (Z=en0):=show _=_ by rw[HF.out,gN (by rw[HNQ.out];omega)];rfl
  have hkz:(nq:Int)<=(k:Int):=by omega
  go_enter Tryz.func69,Tryz.ntmps69
  go_wp2_with fail;rw[HW0.out];refine(hb _).mono ?_;rintro e w' ⟨rfl,hw'⟩;rw[hw'];clear hw' w';go_wp2;refine bodyPost_ret (v:= Xi #[Xe Xf 0,Xe Xf 0,Xh Xd]) (by simp[results,Tryz.results69,go_sem, *]) rfl ⟨?_,?_⟩
  ·rw[HF'.out];rfl
  exact HT.out _ _ _ _ Y0.out HG0.out
 have hb:=fun W=>belowT_no (m:=n) (n:=64) hn W
 have HF:Xo (Z=en0):=show _=_ by rw[<-HZ.out];unfold getT;rw[if_neg hn]
 clear hn
 go_enter Tryz.func69,Tryz.ntmps69
 go_wp2_with fail;rw[HW0.out];refine(hb _).mono ?_;rintro e w' ⟨rfl,hw'⟩;rw[hw'];clear hw' w';go_wp2;refine bodyPost_ret (v:= Xi #[Xe Xf 0,Xe Xf 0,Xh Xd]) (by simp[results,Tryz.results69,go_sem, *]) rfl ⟨?_,?_⟩
 ·rw[HF.out];rfl
 exact HT.out _ _ _ _ Y0.out HG0.out
def anyEn (_:En):Bool:=true
def fitB (k n:Int) (e:En):Bool:=(e.kind == k) &&(e.n == n)
theorem pages1_any (k n:Int) (b:Bool) (w:Xn):
  Xp Tryz.prog 122 #[Xi #[Xe Xf k,Xe Xf n,Xh b]] w fun e w'=>e= Xl (Xh Xc)/\Grew w w':=by
 go_enter Tryz.func122,Tryz.ntmps122
 go_wp2;go_ret;exact⟨rfl,grew_alloc _ _⟩
theorem find1_any (xk xn:Int) (xb:Bool) (k n:Int) (pk pn:Nat) (w:Xn) (hk:Box w pk [Xe Xf k]) (hn:Box w pn [Xe Xf n]):
  Xp Tryz.prog 250 #[Xi #[Xe Xf xk,Xe Xf xn,Xh xb],Xj (Xa ⟨pk,0,Xb⟩),Xj (Xa ⟨pn,0,Xb⟩)] w fun e w'=>e= Xl (Xh (fitB k n ⟨xk,xn,xb⟩))/\Grew w w':=by
 have H:Xo (fitB k n ⟨xk,xn,xb⟩=((xk == k) &&(xn == n))):=rfl
 generalize fitB k n ⟨xk,xn,xb⟩=F at H⊢
 have c0:∀o:Obj,(w.alloc o).cell? ⟨pk,0,Xb⟩=Xa (Xe Xf k):=fun o=>(hk.alloc o).c 0 rfl
 have c1:∀o:Obj,(w.alloc o).cell? ⟨pn,0,Xb⟩=Xa (Xe Xf n):=fun o=>(hn.alloc o).c 0 rfl
 clear hk hn
 by_cases h1:xk=k
 ·have h1b:(xk == k)=Xc:=by simpa using h1
  have HF:Xo (F=(xn == n)):=show _=_ by rw[H.out,h1b];rfl
  clear h1
  go_enter Tryz.func250,Tryz.ntmps250
  go_wp2;go_ret;exact⟨by rw[HF.out];rfl,grew_alloc _ _⟩
 have h1b:(xk == k)=Xd:=by simpa using h1
 have HF:Xo (F=Xd):=show _=_ by rw[H.out,h1b];rfl
 clear h1
 go_enter Tryz.func250,Tryz.ntmps250
 go_wp2;go_ret;exact⟨by rw[HF.out];rfl,grew_alloc _ _⟩
theorem thatPages_any (vs:List Xq) (t:List (List En)) (w:Xn) (hv:TabAt w vs t):
  Xp Tryz.prog 121 #[Xi vs.toArray,.func (.func 122) #[] #[]] w fun e w'=>∃v,e= Xl v/\OwnRow blE w.heap.size w' v (pagesTo t anyEn 64)/\Grew w w':=by
 have HV:Xo (TabAt w vs t):=hv;have HL:Xo (vs.length=8):=hv.len;clear hv;obtain⟨W0,hW0⟩:∃W0,w.alloc (Xk vs.toArray 74)=W0:=⟨_,rfl⟩;have HG0:=gA hW0
 have X0:=xA hW0
 have HW0:Xo (_=W0):=hW0;clear hW0;obtain⟨PG,HPG⟩:∃PG,Xo (pagesTo t anyEn=PG):=⟨_,rfl⟩;have HP0:Xo (PG 0=[]):=show _=_ by rw[<-HPG.out];rfl
 have HPS:Xo (∀m:Nat,m<64->PG (m+1)=if enS (getT t (m:Int)) && anyEn (getT t (m:Int))then PG m++ [(m:Int)]else PG m):=show∀m:Nat,_ from fun m hm=>by
  rw[<-HPG.out,pagesTo_succ];have:getT t (m:Int)=getN t (m / 8) (m % 8):=by unfold getT;rw[if_pos (by omega),tN]
  rw[this]
 have HPL:Xo (∀m,(PG m).length<=m):=show∀m,_ from fun m=>by rw[<-HPG.out];exact pagesTo_len _ _ _
 rw[HPG.out];have eg:=enters_of Tryz.func122 (by kernel_rfl) rfl
 go_enter Tryz.func121,Tryz.ntmps121
 go_upto_region 1 with fail;rw[HW0.out];go_wp2
 go_loopg [5,8] 64 (fun gg s5 s8 wr=>∃(kk:Nat) (a5:Option Addr) (n5 c5:Nat),kk<=64/\64 - kk<=gg/\s8= Xe Xf kk/\s5= O a5 n5 c5/\Xo (Grew W0 wr)/\Xo (OwnRow blE W0.heap.size wr (O a5 n5 c5) (PG kk)))
 case atStart=>exact⟨0,Xb,0,0,nZ _,by omega,rfl,rfl,Grew.refl _,by rw[HP0.out];exact OwnRow.nil _ _ _⟩
 obtain⟨kk,a5,n5,c5,hkk,hg,rfl,rfl,BW,OW⟩:=hrel
 by_cases hlt:kk<64
 ·have hltz:(kk:Int)<64:=by omega
  have hget:=getTb_any vs t (kk:Int) wr (HV.out.grew (HG0.out.trans BW.out));have XW:=dD (X0.out.grew BW.out);have HST:=HPS.out kk hlt;obtain⟨x,HX⟩:∃x,Xo (getT t (kk:Int)=x):=⟨_,rfl⟩;rw[HX.out]at hget HST;have HST':Xo (PG (kk+1)=if enS x && anyEn x then PG kk++ [(kk:Int)]else PG kk):=HST;clear HST;obtain⟨xk,xn,xb⟩:=x
  go_wp2_with (refine wp_loadTab rfl (.tmp 2) rfl w.heap.size rfl XW.out HL.out ?_)
  refine hget.mono ?_;rintro e W2 ⟨rfl,g2⟩;have G2:=dD (BW.out.trans g2);have O2:=dD (OW.out.grew g2);clear g2 hget;simp only[enV];go_upto_region 6 with fail;obtain⟨px,hpx⟩:∃px,W2.heap.size=px:=⟨_,rfl⟩;obtain⟨W3,hW3⟩:∃W3,W2.alloc (Xk #[Xe Xf xk,Xe Xf xn,Xh xb] 127)=W3:=⟨_,rfl⟩;have G3:=gT hW3 G2
  have O3:Xo (OwnRow blE W0.heap.size W3 (O a5 n5 c5) (PG kk)):=show OwnRow _ _ _ _ _ by rw[<-hW3];exact O2.out.grew (grew_alloc _ _)
  have P3:Xo (Box W3 px [Xe Xf xk,Xe Xf xn,Xh xb]):=show Box _ _ _ by rw[<-hW3];exact Box.top _ _ _ hpx.symm
  rw[hW3];rw[hpx];clear hW3 hpx;obtain⟨p0,p1,p2⟩:=P3.out.c3;have his:=isSome_any xk xn xb W3
  cases hs:enS ⟨xk,xn,xb⟩with
  | false=>
   have HN:Xo (PG (kk+1)=PG kk):=show _=_ by rw[HST'.out,hs];rfl
   rw[hs]at his;clear hs;go_wp2_with fail;refine his.mono ?_;rintro e W4 ⟨rfl,g4⟩;have G4:=dD (G3.out.trans g4);have O4:Xo (OwnRow blE W0.heap.size W4 (O a5 n5 c5) (PG (kk+1))):=show OwnRow _ _ _ _ _ by rw[HN.out];exact O3.out.grew g4
   clear g4 his p0 p1 p2;go_wp2
   go_roundg (64 -(kk+1))
   case measure=>omega
   exact⟨kk+1,a5,n5,c5,by omega,by omega,by go_num,rfl,G4.out,O4.out⟩
  | true=>
   rw[hs]at his;have HST2:Xo (PG (kk+1)=if anyEn ⟨xk,xn,xb⟩=Xc then PG kk++ [(kk:Int)]else PG kk):=show _=_ by rw[HST'.out,hs];rfl
   clear hs;go_wp2_with fail;refine his.mono ?_;rintro e W4 ⟨rfl,g4⟩;have G4:=dD (G3.out.trans g4);have O4:=dD (O3.out.grew g4);have P4:=dD (P3.out.grew g4);clear g4 his p0 p1 p2;obtain⟨p0,p1,p2⟩:=P4.out.c3;have hcl:=pages1_any xk xn xb W4;rw[if_pos (show anyEn ⟨xk,xn,xb⟩=Xc from rfl)]at HST2
   go_wp2_with fail;refine hcl.mono ?_;rintro e W5 ⟨rfl,g5⟩;have G5:=dD (G4.out.trans g5);have O5:=dD (O4.out.grew g5);clear g5 hcl p0 p1 p2;have HR1:Xo (RowAt blE (W5.alloc (Xk #[Xe Xf (kk:Int)] 3)) (O (Xa ⟨W5.heap.size,0,Xb⟩) 1 1) [(kk:Int)]):=one_row blE W5 (kk:Int) _ _ rfl (by decide)
   go_wp2_with (at_builtin;refine wpList_append_row (E:=blE) rfl (.tmp 21) (.tmp 23) rfl W0.heap.size _ (PG kk) rfl (O5.out.grew (grew_alloc _ _)) _ [(kk:Int)] rfl HR1.out ?qb ?qc ?_)
   case qb=>
    have:=HPL.out kk
    show(_+1)*8<=_
    omega
   case qc=>
    have:=bS G5.out;simp;omega
   intro v6 W6 ow6 gr6;obtain⟨a6,c6,rfl⟩:=ow6.form;have O6:Xo (OwnRow blE W0.heap.size W6 (.slice a6 (PG kk++ [(kk:Int)]).length c6) (PG (kk+1))):=show OwnRow _ _ _ _ _ by rw[HST2.out];exact ow6
   have G6:Xo (Grew W0 W6):=show Grew _ _ from grew_beside (G5.out.trans (grew_alloc _ _)) gr6 (fun g hg=>(O5.out.lt g hg).1)
   clear ow6 gr6 HR1;go_wp2
   go_roundg (64 -(kk+1))
   case measure=>omega
   exact⟨kk+1,_,_,_,by omega,by omega,by go_num,rfl,G6.out,O6.out⟩
 have hltz:¬(kk:Int)<64:=by omega
 have:kk=64:=by omega
 subst this;have OE:Xo (OwnRow blE w.heap.size wr (O a5 n5 c5) (PG 64)):=OW.out.base (bS HG0.out);have GE:=dD (HG0.out.trans BW.out);go_wp2;go_ret;exact⟨_,rfl,OE.out,GE.out⟩
theorem thatFind_any (vs:List Xq) (t:List (List En)) (k n:Int) (pk pn:Nat) (w:Xn) (hv:TabAt w vs t) (hk:Box w pk [Xe Xf k]) (hn:Box w pn [Xe Xf n]):
  Xp Tryz.prog 121 #[Xi vs.toArray,.func (.func 250) #[] #[Xj (Xa ⟨pk,0,Xb⟩),Xj (Xa ⟨pn,0,Xb⟩)]] w fun e w'=>∃v,e= Xl v/\OwnRow blE w.heap.size w' v (pagesTo t (fitB k n) 64)/\Grew w w':=by
 have HV:Xo (TabAt w vs t):=hv;have HL:Xo (vs.length=8):=hv.len;clear hv;have HK:Xo (Box w pk [Xe Xf k]):=hk;have HNB:Xo (Box w pn [Xe Xf n]):=hn;clear hk hn;obtain⟨W0,hW0⟩:∃W0,w.alloc (Xk vs.toArray 74)=W0:=⟨_,rfl⟩;have HG0:=gA hW0
 have X0:=xA hW0
 have HW0:Xo (_=W0):=hW0;clear hW0;obtain⟨PG,HPG⟩:∃PG,Xo (pagesTo t (fitB k n)=PG):=⟨_,rfl⟩;have HP0:Xo (PG 0=[]):=show _=_ by rw[<-HPG.out];rfl
 have HPS:Xo (∀m:Nat,m<64->PG (m+1)=if enS (getT t (m:Int)) &&(fitB k n) (getT t (m:Int))then PG m++ [(m:Int)]else PG m):=show∀m:Nat,_ from fun m hm=>by
  rw[<-HPG.out,pagesTo_succ];have:getT t (m:Int)=getN t (m / 8) (m % 8):=by unfold getT;rw[if_pos (by omega),tN]
  rw[this]
 have HPL:Xo (∀m,(PG m).length<=m):=show∀m,_ from fun m=>by rw[<-HPG.out];exact pagesTo_len _ _ _
 rw[HPG.out];have eg:=enters_of Tryz.func250 (by kernel_rfl) rfl
 go_enter Tryz.func121,Tryz.ntmps121
 go_upto_region 1 with fail;rw[HW0.out];go_wp2
 go_loopg [5,8] 64 (fun gg s5 s8 wr=>∃(kk:Nat) (a5:Option Addr) (n5 c5:Nat),kk<=64/\64 - kk<=gg/\s8= Xe Xf kk/\s5= O a5 n5 c5/\Xo (Grew W0 wr)/\Xo (OwnRow blE W0.heap.size wr (O a5 n5 c5) (PG kk)))
 case atStart=>exact⟨0,Xb,0,0,nZ _,by omega,rfl,rfl,Grew.refl _,by rw[HP0.out];exact OwnRow.nil _ _ _⟩
 obtain⟨kk,a5,n5,c5,hkk,hg,rfl,rfl,BW,OW⟩:=hrel
 by_cases hlt:kk<64
 ·have hltz:(kk:Int)<64:=by omega
  have hget:=getTb_any vs t (kk:Int) wr (HV.out.grew (HG0.out.trans BW.out));have XW:=dD (X0.out.grew BW.out);have HST:=HPS.out kk hlt;obtain⟨x,HX⟩:∃x,Xo (getT t (kk:Int)=x):=⟨_,rfl⟩;rw[HX.out]at hget HST;have HST':Xo (PG (kk+1)=if enS x &&(fitB k n) x then PG kk++ [(kk:Int)]else PG kk):=HST;clear HST;obtain⟨xk,xn,xb⟩:=x
  go_wp2_with (refine wp_loadTab rfl (.tmp 2) rfl w.heap.size rfl XW.out HL.out ?_)
  refine hget.mono ?_;rintro e W2 ⟨rfl,g2⟩;have G2:=dD (BW.out.trans g2);have O2:=dD (OW.out.grew g2);clear g2 hget;simp only[enV];go_upto_region 6 with fail;obtain⟨px,hpx⟩:∃px,W2.heap.size=px:=⟨_,rfl⟩;obtain⟨W3,hW3⟩:∃W3,W2.alloc (Xk #[Xe Xf xk,Xe Xf xn,Xh xb] 127)=W3:=⟨_,rfl⟩;have G3:=gT hW3 G2
  have O3:Xo (OwnRow blE W0.heap.size W3 (O a5 n5 c5) (PG kk)):=show OwnRow _ _ _ _ _ by rw[<-hW3];exact O2.out.grew (grew_alloc _ _)
  have P3:Xo (Box W3 px [Xe Xf xk,Xe Xf xn,Xh xb]):=show Box _ _ _ by rw[<-hW3];exact Box.top _ _ _ hpx.symm
  rw[hW3];rw[hpx];clear hW3 hpx;obtain⟨p0,p1,p2⟩:=P3.out.c3;have his:=isSome_any xk xn xb W3
  cases hs:enS ⟨xk,xn,xb⟩with
  | false=>
   have HN:Xo (PG (kk+1)=PG kk):=show _=_ by rw[HST'.out,hs];rfl
   rw[hs]at his;clear hs;go_wp2_with fail;refine his.mono ?_;rintro e W4 ⟨rfl,g4⟩;have G4:=dD (G3.out.trans g4);have O4:Xo (OwnRow blE W0.heap.size W4 (O a5 n5 c5) (PG (kk+1))):=show OwnRow _ _ _ _ _ by rw[HN.out];exact O3.out.grew g4
   clear g4 his p0 p1 p2;go_wp2
   go_roundg (64 -(kk+1))
   case measure=>omega
   exact⟨kk+1,a5,n5,c5,by omega,by omega,by go_num,rfl,G4.out,O4.out⟩
  | true=>
   rw[hs]at his;have HST2:Xo (PG (kk+1)=if(fitB k n) ⟨xk,xn,xb⟩=Xc then PG kk++ [(kk:Int)]else PG kk):=show _=_ by rw[HST'.out,hs];rfl
   clear hs;go_wp2_with fail;refine his.mono ?_;rintro e W4 ⟨rfl,g4⟩;have G4:=dD (G3.out.trans g4);have O4:=dD (O3.out.grew g4);have P4:=dD (P3.out.grew g4);clear g4 his p0 p1 p2;obtain⟨p0,p1,p2⟩:=P4.out.c3;have hcl:=find1_any xk xn xb k n pk pn W4 (HK.out.grew (HG0.out.trans G4.out)) (HNB.out.grew (HG0.out.trans G4.out))
   generalize fitB k n ⟨xk,xn,xb⟩=F at hcl HST2
   cases F with
   | true=>
    rw[if_pos rfl]at HST2;go_wp2_with fail;refine hcl.mono ?_;rintro e W5 ⟨rfl,g5⟩;have G5:=dD (G4.out.trans g5);have O5:=dD (O4.out.grew g5);clear g5 hcl p0 p1 p2;have HR1:Xo (RowAt blE (W5.alloc (Xk #[Xe Xf (kk:Int)] 3)) (O (Xa ⟨W5.heap.size,0,Xb⟩) 1 1) [(kk:Int)]):=one_row blE W5 (kk:Int) _ _ rfl (by decide)
    go_wp2_with (at_builtin;refine wpList_append_row (E:=blE) rfl (.tmp 21) (.tmp 23) rfl W0.heap.size _ (PG kk) rfl (O5.out.grew (grew_alloc _ _)) _ [(kk:Int)] rfl HR1.out ?qb ?qc ?_)
    case qb=>
     have:=HPL.out kk
     show(_+1)*8<=_
     omega
    case qc=>
     have:=bS G5.out;simp;omega
    intro v6 W6 ow6 gr6;obtain⟨a6,c6,rfl⟩:=ow6.form;have O6:Xo (OwnRow blE W0.heap.size W6 (.slice a6 (PG kk++ [(kk:Int)]).length c6) (PG (kk+1))):=show OwnRow _ _ _ _ _ by rw[HST2.out];exact ow6
    have G6:Xo (Grew W0 W6):=show Grew _ _ from grew_beside (G5.out.trans (grew_alloc _ _)) gr6 (fun g hg=>(O5.out.lt g hg).1)
    clear ow6 gr6 HR1;go_wp2
    go_roundg (64 -(kk+1))
    case measure=>omega
    exact⟨kk+1,_,_,_,by omega,by omega,by go_num,rfl,G6.out,O6.out⟩
   | false=>
    rw[if_neg (by decide)]at HST2
    go_wp2_with fail;refine hcl.mono ?_;rintro e W5 ⟨rfl,g5⟩;have G5:=dD (G4.out.trans g5);have O5:Xo (OwnRow blE W0.heap.size W5 (O a5 n5 c5) (PG (kk+1))):=show OwnRow _ _ _ _ _ by rw[HST2.out];exact O4.out.grew g5
    clear g5 hcl p0 p1 p2;go_wp2
    go_roundg (64 -(kk+1))
    case measure=>omega
    exact⟨kk+1,a5,n5,c5,by omega,by omega,by go_num,rfl,G5.out,O5.out⟩
 have hltz:¬(kk:Int)<64:=by omega
 have:kk=64:=by omega
 subst this;have OE:Xo (OwnRow blE w.heap.size wr (O a5 n5 c5) (PG 64)):=OW.out.base (bS HG0.out);have GE:=dD (HG0.out.trans BW.out);go_wp2;go_ret;exact⟨_,rfl,OE.out,GE.out⟩
theorem pagesTb_any (vs:List Xq) (t:List (List En)) (w:Xn) (hv:TabAt w vs t):
  Xp Tryz.prog 66 #[Xi vs.toArray] w fun e w'=>∃v,e= Xl v/\OwnRow blE w.heap.size w' v (pagesTo t anyEn 64)/\Grew w w':=by
 have HL:Xo (vs.length=8):=hv.len;obtain⟨W0,hW0⟩:∃W0,w.alloc (Xk vs.toArray 74)=W0:=⟨_,rfl⟩;have HG0:=gA hW0
 have X0:=xA hW0
 have hcall:=thatPages_any vs t W0 (hv.grew HG0.out);have HW0:Xo (_=W0):=hW0;clear hW0 hv
 generalize pagesTo t anyEn 64=PG at hcall⊢
 go_enter Tryz.func66,Tryz.ntmps66
 go_upto_region 1 with fail;rw[HW0.out]
 go_wp2_with (refine wp_loadTab rfl (.tmp 1) rfl w.heap.size rfl X0.out HL.out ?_)
 refine hcall.mono ?_;rintro e W2 ⟨v,rfl,ow,g2⟩;have O2:Xo (OwnRow blE w.heap.size W2 v PG):=ow.base (bS HG0.out);have G2:=dD (HG0.out.trans g2);clear ow g2 hcall;go_wp2;go_ret;exact⟨v,rfl,O2.out,G2.out⟩
theorem findTb_any (vs:List Xq) (t:List (List En)) (k n:Int) (w:Xn) (hv:TabAt w vs t):
  Xp Tryz.prog 242 #[Xi vs.toArray,Xe Xf k,Xe Xf n] w fun e w'=>∃v,e= Xl v/\OwnRow blE w.heap.size w' v (pagesTo t (fitB k n) 64)/\Grew w w':=by
 have hmf:∀(fn:Fn) (first cap:Array Xq) (w:Xn),(Instr.makeFunc fn first cap).run Tryz.prog w= .ok (.func fn first cap) w:=fun _ _ _ _=>rfl
 have HL:Xo (vs.length=8):=hv.len;obtain⟨W0,hW0⟩:∃W0,((w.alloc (Xk vs.toArray 74)).alloc (Xk #[Xe Xf k] 3)).alloc (Xk #[Xe Xf n] 3)=W0:=⟨_,rfl⟩;have HG0:Xo (Grew w W0):=show Grew w W0 by rw[<-hW0];exact((grew_alloc _ _).trans (grew_alloc _ _)).trans (grew_alloc _ _)
 have X0:Xo (Box W0 w.heap.size vs):=show Box _ _ _ by rw[<-hW0];exact((Box.top w _ _ rfl).alloc _).alloc _
 have HK:Xo (Box W0 (w.heap.size+1) [Xe Xf k]):=show Box _ _ _ by rw[<-hW0];exact(Box.top _ _ _ (by simp)).alloc _
 have HN:Xo (Box W0 (w.heap.size+2) [Xe Xf n]):=show Box _ _ _ by rw[<-hW0];exact Box.top _ _ _ (by simp)
 have hcall:=thatFind_any vs t k n (w.heap.size+1) (w.heap.size+2) W0 (hv.grew HG0.out) HK.out HN.out;have HW0:Xo (_=W0):=hW0;clear hW0 hv
 generalize pagesTo t (fitB k n) 64=PG at hcall⊢
 go_enter Tryz.func242,Tryz.ntmps242
 go_upto_region 1 with fail;rw[HW0.out]
 go_wp2_with (refine wp_loadTab rfl (.tmp 3) rfl w.heap.size rfl X0.out HL.out ?_)
 refine hcall.mono ?_;rintro e W2 ⟨v,rfl,ow,g2⟩;have O2:Xo (OwnRow blE w.heap.size W2 v PG):=ow.base (bS HG0.out);have G2:=dD (HG0.out.trans g2);clear ow g2 hcall;go_wp2;go_ret;exact⟨v,rfl,O2.out,G2.out⟩
theorem run_fault (a b:Int) (W:Xn):(Instr.field 186 (Xi #[Xe Xf a,Xe Xf b]) 0).run Tryz.prog W= .ok (Xe Xf a) W:=by
 kernel_rfl
theorem pagesTo_any (s:Sp):pagesTo s.tb anyEn 64=(pagesN s).map fun(n:Nat)=>(n:Int):=by
 unfold pagesTo pagesN flatN anyEn;simp
theorem spE_prog {s:Sp} (h8:s.tb.length=8):spE s=if firstE [(wrL s.ars).1,tbW s.tb]=0 then(if s.live=Xd/\(0<s.ars.length\/0< (pagesTo s.tb anyEn 64).length)then 7 else 0)else firstE [(wrL s.ars).1,tbW s.tb]:=by
 unfold spE;simp only[firstE_cons,firstE_nil]
 by_cases h1:(wrL s.ars).1=0
 ·by_cases h2:tbW s.tb=0
  ·simp only[h1,h2,ne_eq,not_true,if_false,if_true];have hp:(0< (pagesTo s.tb anyEn 64).length)↔¬s.tb.all (·.isEmpty)=Xc:=by
    rw[pagesTo_any,List.length_map,<-pagesN_empty h2 h8,Xw]
   have ha:(0<s.ars.length)↔¬s.ars.isEmpty=Xc:=by
    rw[Xw];simp
   simp only[hp,ha]
   cases s.live <;> cases s.ars.isEmpty <;> cases s.tb.all (·.isEmpty) <;> simp
  simp[h1,h2]
 simp[h1]
theorem wrongSpace_any (x:SpV) (s:Sp) (w:Xn) (hs:SpaceAt w x s):
  Xp Tryz.prog 63 #[Xi #[Xh x.live,O x.ar.a x.ar.n x.ar.c,O x.t0.a x.t0.n x.t0.c,O x.t1.a x.t1.n x.t1.c,O x.t2.a x.t2.n x.t2.c,O x.t3.a x.t3.n x.t3.c,O x.t4.a x.t4.n x.t4.c,O x.t5.a x.t5.n x.t5.c,O x.t6.a x.t6.n x.t6.c,O x.t7.a x.t7.n x.t7.c]] w fun e w'=>e= Xl (Xe Xf (spE s))/\Grew w w':=by
 have HC1:Xo (∀W,Grew w W->Xp Tryz.prog 117 #[O x.ar.a x.ar.n x.ar.c] W fun e w'=>e= Xl (Xi #[Xe Xf (wrL s.ars).1,Xe Xf (wrL s.ars).2])/\Grew W w'):=show∀W,_ from fun W hW=>wrongAr_any _ s.ars W (hs.grew hW).ar
 have HC2:Xo (∀W,Grew w W->Xp Tryz.prog 118 #[Xi #[O x.t0.a x.t0.n x.t0.c,O x.t1.a x.t1.n x.t1.c,O x.t2.a x.t2.n x.t2.c,O x.t3.a x.t3.n x.t3.c,O x.t4.a x.t4.n x.t4.c,O x.t5.a x.t5.n x.t5.c,O x.t6.a x.t6.n x.t6.c,O x.t7.a x.t7.n x.t7.c]] W fun e w'=>e= Xl (Xe Xf (tbW s.tb))/\Grew W w'):=show∀W,_ from fun W hW=>wrongTb_any x.tab s.tb W (hs.grew hW).tb
 have HC3:Xo (∀W,Grew w W->Xp Tryz.prog 66 #[Xi #[O x.t0.a x.t0.n x.t0.c,O x.t1.a x.t1.n x.t1.c,O x.t2.a x.t2.n x.t2.c,O x.t3.a x.t3.n x.t3.c,O x.t4.a x.t4.n x.t4.c,O x.t5.a x.t5.n x.t5.c,O x.t6.a x.t6.n x.t6.c,O x.t7.a x.t7.n x.t7.c]] W fun e w'=>∃v,e= Xl v/\OwnRow blE W.heap.size w' v (pagesTo s.tb anyEn 64)/\Grew W w'):=show∀W,_ from fun W hW=>pagesTb_any x.tab s.tb W (hs.grew hW).tb
 have hlv:=hs.live;have hn:=hs.ar.n;rw[spE_prog hs.tb.tlen,<-hlv,<-hn];clear hs;obtain⟨E0,HE0⟩:∃E0,Xo (firstE [(wrL s.ars).1,tbW s.tb]=E0):=⟨_,rfl⟩;obtain⟨PL,HPL⟩:∃PL,Xo (pagesTo s.tb anyEn 64=PL):=⟨_,rfl⟩;rw[HE0.out,HPL.out];rw[HPL.out]at HC3;clear hlv hn;obtain⟨W0,hW0⟩:∃W0,w.alloc (Xk #[Xh x.live,O x.ar.a x.ar.n x.ar.c,O x.t0.a x.t0.n x.t0.c,O x.t1.a x.t1.n x.t1.c,O x.t2.a x.t2.n x.t2.c,O x.t3.a x.t3.n x.t3.c,O x.t4.a x.t4.n x.t4.c,O x.t5.a x.t5.n x.t5.c,O x.t6.a x.t6.n x.t6.c,O x.t7.a x.t7.n x.t7.c] 76)=W0:=⟨_,rfl⟩;have HG0:=gA hW0
 have X0:=xA hW0
 have HW0:Xo (_=W0):=hW0;clear hW0;obtain⟨Z,HZ⟩:∃Z:Int,Xo ((if E0=0 then(if x.live=Xd/\(0<x.ar.n\/0<PL.length)then 7 else 0)else E0)=Z):=⟨_,rfl⟩;rw[HZ.out]
 go_enter Tryz.func63,Tryz.ntmps63
 go_upto_region 1 with fail;rw[HW0.out];have hx1:=X0.out.gw 1 rfl
 have hx2:=X0.out.gw 2 rfl
 have hx3:=X0.out.gw 3 rfl
 have hx4:=X0.out.gw 4 rfl
 have hx5:=X0.out.gw 5 rfl
 have hx6:=X0.out.gw 6 rfl
 have hx7:=X0.out.gw 7 rfl
 have hx8:=X0.out.gw 8 rfl
 have hx9:=X0.out.gw 9 rfl
 have hne:Nonempty (GrownW W0):=⟨⟨_,Grew.refl _⟩⟩;have hfd:=fun(y:GrownW W0)=>run_fault (wrL s.ars).1 (wrL s.ars).2 y.world
 refine wp_lax [(2,⟨fun v=>v= Xi #[Xe Xf (wrL s.ars).1,Xe Xf (wrL s.ars).2],fun v w'=>True⟩),(6,⟨fun v=>v= Xe Xf (tbW s.tb),fun v w'=>True⟩),(7,⟨fun v=>∃g,v= O (Xa ⟨g,0,Xb⟩) 2 2,fun v w'=>RowAt errE w' v [(wrL s.ars).1,tbW s.tb]⟩),(8,⟨fun v=>v= Xe Xf (firstE [(wrL s.ars).1,tbW s.tb]),fun v w'=>True⟩)] mixed (by kernel_rfl) ?hS ?hp ?_
 case hS=>
  intro x hx;simp only[mC,nM,or_false]at hx
  rcases hx with rfl | rfl | rfl | rfl
  ·exact⟨_,rfl⟩
  ·exact⟨_,rfl⟩
  ·exact⟨_,0,rfl⟩
  exact⟨_,rfl⟩
 case hp=>
  intro x hx;simp only[mC,nM,or_false]at hx
  rcases hx with rfl | rfl | rfl | rfl
  ·exact fun _ _ _ _ h=>h
  ·exact fun _ _ _ _ h=>h
  ·exact fun _ _ _ hg h=>RowAt.grew h hg
  exact fun _ _ _ _ h=>h
 iterate 2 (refine lax_quiet rfl rfl rfl (fun K hK=>?_);go_big_quiet_op;refine hK _ ?_;clear hK K)
 refine lax_spec rfl rfl (fun w' hg hF=>?_) (fun v1 hv=>?_)
 ·refine Does.call [O x.ar.a x.ar.n x.ar.c] rfl Tryz.func117 rfl rfl rfl ?_;refine(HC1.out w' (HG0.out.trans hg)).mono ?_;rintro e w'' ⟨rfl,hg2⟩;exact⟨_,rfl,hg2,rfl,trivial⟩
 subst hv;simp only[Xt,sB,sS,sZ];iterate 3 (refine lax_quiet rfl rfl rfl (fun K hK=>?_);go_big_quiet_op;refine hK _ ?_;clear hK K)
 refine lax_spec rfl rfl (fun w' hg hF=>?_) (fun v1 hv=>?_)
 ·refine Does.call [Xi #[O x.t0.a x.t0.n x.t0.c,O x.t1.a x.t1.n x.t1.c,O x.t2.a x.t2.n x.t2.c,O x.t3.a x.t3.n x.t3.c,O x.t4.a x.t4.n x.t4.c,O x.t5.a x.t5.n x.t5.c,O x.t6.a x.t6.n x.t6.c,O x.t7.a x.t7.n x.t7.c]] rfl Tryz.func118 rfl rfl rfl ?_;refine(HC2.out w' (HG0.out.trans hg)).mono ?_;rintro e w'' ⟨rfl,hg2⟩;exact⟨_,rfl,hg2,rfl,trivial⟩
 subst hv;simp only[Xt,sB,sS,sZ];refine lax_spec rfl rfl (fun w' hg hF=>?_) (fun v1 hv=>?_)
 ·have hnew:RowAt errE (w'.alloc (Xk #[Xe Xf ((wrL s.ars).1),Xe Xf (tbW s.tb)] 44)) (O (Xa ⟨w'.heap.size,0,Xb⟩) 2 2) [(wrL s.ars).1,tbW s.tb]:=row_lit errE w' [(wrL s.ars).1,tbW s.tb] _ rfl (show 2*8<=140737488355328 by decide)
  refine Does.step (v:= O (Xa ⟨w'.heap.size,0,Xb⟩) 2 2) (w':=w'.alloc (Xk #[Xe Xf ((wrL s.ars).1),Xe Xf (tbW s.tb)] 44)) (by simp only[execOp];go_simp) ⟨grew_alloc _ _,⟨_,rfl⟩,hnew⟩
 obtain⟨g7,rfl⟩:=hv;simp only[Xt,sB,sS,sZ];refine lax_spec rfl rfl (fun w' hg hF=>?_) (fun v1 hv=>?_)
 ·have h7:RowAt errE w' (O (Xa ⟨g7,0,Xb⟩) 2 2) [(wrL s.ars).1,tbW s.tb]:=hF 7 (by kernel_rfl)
  refine Does.call [O (Xa ⟨g7,0,Xb⟩) 2 2] rfl Tryz.func19 rfl rfl rfl ?_;refine(orErr_any _ _ w' h7).mono ?_;rintro e w'' ⟨rfl,rfl⟩;exact⟨_,rfl,Grew.refl _,rfl,trivial⟩
 subst hv;simp only[Xt,sB,sS,sZ];iterate 1 (refine lax_quiet rfl rfl rfl (fun K hK=>?_);go_big_quiet_op;refine hK _ ?_;clear hK K)
 refine lax_nil fun W3 hg1 hF=>?_
 have G3:=dD (HG0.out.trans hg1);have X3:=dD (X0.out.grew hg1);clear hg1 hF hx1 hx2 hx3 hx4 hx5 hx6 hx7 hx8 hx9 hne hfd;rw[HE0.out]
 by_cases h0:E0=0
 ·have h0e:(E0 != 0)=Xd:=by simp[h0]
  rw[if_pos h0]at HZ;have HE:Xo (E0=0):=h0;clear h0;obtain⟨x0,x1,x2,x3,x4,x5,x6,x7,x8,x9⟩:=X3.out.c10
  cases hlv:x.live with
  | true=>
   rw[hlv]at HZ x0;have HR:Xo (Z=0):=show _=_ by rw[<-HZ.out,if_neg (by simp)]
   clear x2 x3 x4 x5 x6 x7 x8 x9;go_wp2;go_ret;exact⟨by rw[HR.out];rfl,G3.out⟩
  | false=>
   rw[hlv]at HZ x0
   by_cases h1:0<x.ar.n
   ·have h1z:(0:Int)< (x.ar.n:Int):=by omega
    have HR:Xo (Z=7):=show _=_ by rw[<-HZ.out,if_pos ⟨rfl,.inl h1⟩]
    clear x2 x3 x4 x5 x6 x7 x8 x9;go_wp2;go_ret;exact⟨by rw[HR.out];rfl,G3.out⟩
   have h1z:¬(0:Int)< (x.ar.n:Int):=by omega
   have hc3:=HC3.out W3 G3.out;have HN1:Xo (¬0<x.ar.n):=h1;clear h1;go_wp2_with fail;refine hc3.mono ?_;clear hc3 x0 x1 x2 x3 x4 x5 x6 x7 x8 x9;rintro e W4 ⟨v,rfl,ow4,g4⟩;have HG4:=dD (G3.out.trans g4);obtain⟨va,vc,rfl⟩:=ow4.form;clear ow4 g4
   by_cases h2:0<PL.length
   ·have h2z:(0:Int)< (PL.length:Int):=by omega
    have HR:Xo (Z=7):=show _=_ by rw[<-HZ.out,if_pos (by first | exact⟨rfl,.inr h2⟩ | exact⟨trivial,.inr h2⟩)]
    go_wp2;go_ret;exact⟨by rw[HR.out];rfl,HG4.out⟩
   have h2z:¬(0:Int)< (PL.length:Int):=by omega
   have HR:Xo (Z=0):=show _=_ by rw[<-HZ.out,if_neg (fun h=>h.2.elim HN1.out h2)]
   go_wp2;go_ret;exact⟨by rw[HR.out];rfl,HG4.out⟩
 have h0e:(E0 != 0)=Xc:=by simp[h0]
 rw[if_neg h0]at HZ;clear h0;go_wp2;go_ret;exact⟨by rw[<-HZ.out];rfl,G3.out⟩
def Sp10 (W:Xn) (y:Addr) (x:SpV):Prop:=W.cell? y=Xa (Xh x.live)/\W.cell? { block:=y.block,off:=y.off+1 }=Xa (O x.ar.a x.ar.n x.ar.c)/\W.cell? { block:=y.block,off:=y.off+2 }=Xa (O x.t0.a x.t0.n x.t0.c)/\W.cell? { block:=y.block,off:=y.off+3 }=Xa (O x.t1.a x.t1.n x.t1.c)/\W.cell? { block:=y.block,off:=y.off+4 }=Xa (O x.t2.a x.t2.n x.t2.c)/\W.cell? { block:=y.block,off:=y.off+5 }=Xa (O x.t3.a x.t3.n x.t3.c)/\W.cell? { block:=y.block,off:=y.off+6 }=Xa (O x.t4.a x.t4.n x.t4.c)/\W.cell? { block:=y.block,off:=y.off+7 }=Xa (O x.t5.a x.t5.n x.t5.c)/\W.cell? { block:=y.block,off:=y.off+8 }=Xa (O x.t6.a x.t6.n x.t6.c)/\W.cell? { block:=y.block,off:=y.off+9 }=Xa (O x.t7.a x.t7.n x.t7.c)
theorem Cells.sp10 {W:Xn} {y:Addr} {x:SpV} (h:Cells W y (spv x)):Sp10 W y x:=⟨h 0 _ rfl,h 1 _ rfl,h 2 _ rfl,h 3 _ rfl,h 4 _ rfl,h 5 _ rfl,h 6 _ rfl,h 7 _ rfl,h 8 _ rfl,h 9 _ rfl⟩
theorem MachAt.spaces {w:Xn} {V:MaV} {m:Ma} (h:MachAt w V m):∃xs:List SpV,xs.length=m.sp.length/\(∀(j:Nat) x,xs[j]? =Xa x->∃ad,V.sp.a=Xa ad/\∀W,Grew w W->Sp10 W (ad.add (j*10)) x)/\∀(i:Nat) x s,xs[i]? =Xa x->m.sp[i]? =Xa s->SpaceAt w x s:=by
 obtain⟨xs,h1,h2,h3⟩:=h.sp;refine⟨xs,h2,fun j x hj=>?_,h3⟩
 obtain⟨ad,h4,h5⟩:=h1.rowsAt j x hj;exact⟨ad,h4,fun W hW=>(h5 W hW).sp10⟩
theorem wrongSpaces_any (V:MaV) (m:Ma) (w:Xn) (hm:MachAt w V m):
  Xp Tryz.prog 30 #[Xi #[O V.f.a V.f.n V.f.c,Xe Xf m.hand,O V.s.a V.s.n V.s.c,O V.sb.a V.sb.n V.sb.c,O V.sq.a V.sq.n V.sq.c,O V.db.a V.db.n V.db.c,O V.dq.a V.dq.n V.dq.c,O V.fl.a V.fl.n V.fl.c,Xe Xf m.cnt,O V.ca.a V.ca.n V.ca.c,O V.sp.a V.sp.n V.sp.c]] w fun e w'=>e= Xl (Xe Xf (wSpaces m))/\Grew w w':=by
 obtain⟨vf,vs,vsb,vsq,vdb,vdq,vfl,vca,⟨spa,spn,spc⟩⟩:=V;dsimp only;obtain⟨-,-,-,-,-,-,-,-,n9⟩:=hm.ns;dsimp only at n9;obtain⟨xs,hxl,hrow,hsp⟩:=hm.spaces;have HXL:Xo (xs.length=m.sp.length):=hxl;have HR:Xo (∀(j:Nat) x,xs[j]? =Xa x->∃ad,spa=Xa ad/\∀W,Grew w W->Sp10 W (ad.add (j*10)) x):=hrow;have HSP:Xo (∀(i:Nat) x s,xs[i]? =Xa x->m.sp[i]? =Xa s->SpaceAt w x s):=hsp;have HN:Xo (m.sp.length=spn):=n9.symm;obtain⟨Z,HZ⟩:∃Z,Xo (wSpaces m=Z):=⟨_,rfl⟩;rw[HZ.out];have HZ2:Xo ((if 4<spn then 4 else firstE (m.sp.map spE))=Z):=show _=_ by rw[<-HZ.out,<-HN.out];rfl
 clear hm hxl hrow hsp n9 HZ;obtain⟨W0,hW0⟩:∃W0,w.alloc (Xk #[O vf.a vf.n vf.c,Xe Xf m.hand,O vs.a vs.n vs.c,O vsb.a vsb.n vsb.c,O vsq.a vsq.n vsq.c,O vdb.a vdb.n vdb.c,O vdq.a vdq.n vdq.c,O vfl.a vfl.n vfl.c,Xe Xf m.cnt,O vca.a vca.n vca.c,O spa spn spc] 42)=W0:=⟨_,rfl⟩;have HG0:=gA hW0
 have X0:=xA hW0
 have HW0:Xo (_=W0):=hW0;clear hW0
 by_cases h4:4<spn
 ·have h4z:(4:Int)< (spn:Int):=by omega
  have HE:Xo (Z=4):=show _=_ by rw[<-HZ2.out,if_pos h4]
  go_enter Tryz.func30,Tryz.ntmps30
  go_upto_region 1 with fail;rw[HW0.out];have x10:=X0.out.c 10 rfl;go_wp2;go_ret;exact⟨by rw[HE.out];rfl,HG0.out⟩
 have h4z:¬(4:Int)< (spn:Int):=by omega
 have hs4:spn<=4:=by omega
 have HZ3:Xo (firstE (m.sp.map spE)=Z):=show _=_ by rw[<-HZ2.out,if_neg h4]
 clear HZ2 h4
 go_enter Tryz.func30,Tryz.ntmps30
 go_upto_region 1 with fail;rw[HW0.out];have x10:=X0.out.c 10 rfl;go_wp2;clear x10
 go_loopg [13] spn (fun gg s13 wr=>∃kk:Nat,kk<=spn/\spn - kk<=gg/\s13= Xe Xf kk/\Xo (Grew w wr)/\Xo (∀(j:Nat) s,j<kk->m.sp[j]? =Xa s->spE s=0))
 case atStart=>exact⟨0,nZ _,by omega,rfl,HG0.out,fun j s hj=>absurd hj (nL _)⟩
 obtain⟨kk,hkk,hgg,rfl,BW,OW⟩:=hrel;clear X0
 by_cases hlt:kk<spn
 ·have hltz:(kk:Int)< (spn:Int):=by omega
  obtain⟨s,HS⟩:∃s,Xo (m.sp[kk]? =Xa s):=⟨_,gE (by rw[HN.out];exact hlt)⟩
  obtain⟨x,HX⟩:∃x,Xo (xs[kk]? =Xa x):=⟨_,gE (by rw[HXL.out,HN.out];exact hlt)⟩
  obtain⟨ad,rfl,hl⟩:=HR.out kk x HX.out;obtain⟨d0,d1,d2,d3,d4,d5,d6,d7,d8,d9⟩:=hl wr BW.out;have hcall:=wrongSpace_any x s _ ((HSP.out kk x s HX.out HS.out).grew (BW.out.trans (grew_alloc wr (Xk #[Xh x.live,O x.ar.a x.ar.n x.ar.c,O x.t0.a x.t0.n x.t0.c,O x.t1.a x.t1.n x.t1.c,O x.t2.a x.t2.n x.t2.c,O x.t3.a x.t3.n x.t3.c,O x.t4.a x.t4.n x.t4.c,O x.t5.a x.t5.n x.t5.c,O x.t6.a x.t6.n x.t6.c,O x.t7.a x.t7.n x.t7.c] 76))));clear hl;obtain⟨e,HEE⟩:∃e,Xo (spE s=e):=⟨_,rfl⟩;rw[HEE.out]at hcall;go_upto_region 6 with fail;clear d0 d1 d2 d3 d4 d5 d6 d7 d8 d9;go_wp2_with fail;refine hcall.mono ?_;clear hcall;rintro e' W4 ⟨rfl,hg4⟩;have HG4:=dD ((BW.out.trans (grew_alloc _ _)).trans hg4);clear hg4
  by_cases h0:e=0
  ·have h0e:(e != 0)=Xd:=by simp[h0]
   have OW':Xo (∀(j:Nat) s,j<kk+1->m.sp[j]? =Xa s->spE s=0):=show∀(j:Nat) s,_ from fun j s hj hs=>by
    by_cases ej:j=kk
    ·subst ej;rw[HS.out]at hs;cases hs;rw[HEE.out];exact h0
    exact OW.out j s (by omega) hs
   clear h0;go_wp2
   go_roundg (spn -(kk+1))
   case measure=>omega
   exact⟨kk+1,by omega,by omega,by go_num,HG4.out,OW'.out⟩
  have h0e:(e != 0)=Xc:=by simp[h0]
  have HE:Xo (Z=e):=show _=_ by rw[<-HZ3.out,firstE_at HS.out OW.out (by rw[HEE.out];exact h0)];exact HEE.out
  clear h0;go_wp2;go_ret;exact⟨by rw[HE.out];rfl,HG4.out⟩
 have hltz:¬(kk:Int)< (spn:Int):=by omega
 have:kk=spn:=by omega
 subst this;have HE:Xo (Z=0):=show _=_ by rw[<-HZ3.out];exact firstE_all fun j s hs=>OW.out j s (by rw[<-HN.out];exact(gS.1 hs).1) hs
 go_wp2;go_ret;exact⟨by rw[HE.out];rfl,BW.out⟩
def prevC (l:List Ca) (k:Nat):Option Ca:=match k with | 0=>Xb | k+1=>l[k]?
theorem caE_err {m:Ma} {p:Option Ca} {c:Ca} (h:caE m Xb c≠0):caE m p c=caE m Xb c:=by
 unfold caE at h⊢
 by_cases h1:c.file<0\/(m.fl.length:Int)<=c.file\/c.idx<0\/bkN m c.file<=c.idx\/c.fr<0\/(m.fs.length:Int)<=c.fr
 ·simp only[if_pos h1]
 simp only[if_neg h1]at h⊢
 by_cases h2:(frAt m c.fr).r=0\/(frAt m c.fr).f≠c.file\/(frAt m c.fr).x≠c.idx
 ·simp only[if_pos h2]
 simp only[if_neg h2]at h;exact absurd rfl h
theorem caE_order {m:Ma} {q c:Ca} (h:caE m Xb c=0):caE m (Xa q) c=if keyC c<=keyC q then 2 else 0:=by
 unfold caE at h⊢
 split at h
 ·cases h
 rename_i h1
 rw[if_neg h1]
 split at h
 ·cases h
 rename_i h2
 rw[if_neg h2]
theorem caGo_err {m:Ma} {l:List Ca} {k:Nat} {c:Ca} {Z:Int} (h:caGo m (prevC l k) (l.drop k)=Z) (hc:l[k]? =Xa c) (hn:caE m (prevC l k) c≠0):Z=caE m (prevC l k) c:=by
 rw[drop_cons hc]at h;unfold caGo at h;rw[if_neg hn]at h;exact h.symm
theorem caGo_next {m:Ma} {l:List Ca} {k:Nat} {c:Ca} {Z:Int} (h:caGo m (prevC l k) (l.drop k)=Z) (hc:l[k]? =Xa c) (hn:caE m (prevC l k) c=0):caGo m (prevC l (k+1)) (l.drop (k+1))=Z:=by
 rw[drop_cons hc]at h;unfold caGo at h;rw[if_pos hn]at h
 show caGo m (l[k]?) _=Z
 rw[hc];exact h
theorem wrongCache_any (V:MaV) (m:Ma) (w:Xn) (hm:MachAt w V m) (h1:Right1 m):
  Xp Tryz.prog 31 #[Xi #[O V.f.a V.f.n V.f.c,Xe Xf m.hand,O V.s.a V.s.n V.s.c,O V.sb.a V.sb.n V.sb.c,O V.sq.a V.sq.n V.sq.c,O V.db.a V.db.n V.db.c,O V.dq.a V.dq.n V.dq.c,O V.fl.a V.fl.n V.fl.c,Xe Xf m.cnt,O V.ca.a V.ca.n V.ca.c,O V.sp.a V.sp.n V.sp.c]] w fun e w'=>e= Xl (Xe Xf (wCache m))/\Grew w w':=by
 have HWC:Xo (∀(c:Ca) W,Grew w W->Xp Tryz.prog 64 #[Xi #[O V.f.a V.f.n V.f.c,Xe Xf m.hand,O V.s.a V.s.n V.s.c,O V.sb.a V.sb.n V.sb.c,O V.sq.a V.sq.n V.sq.c,O V.db.a V.db.n V.db.c,O V.dq.a V.dq.n V.dq.c,O V.fl.a V.fl.n V.fl.c,Xe Xf m.cnt,O V.ca.a V.ca.n V.ca.c,O V.sp.a V.sp.n V.sp.c],Xi #[Xe Xf c.file,Xe Xf c.idx,Xe Xf c.fr]] W fun e w'=>e= Xl (Xe Xf (caE m Xb c))/\Grew W w'):=show∀(c:Ca) W,_ from fun c W hW=>wrongCached_any V m c W (hm.grew hW)
 obtain⟨vf,vs,vsb,vsq,vdb,vdq,vfl,⟨caa,can,cac⟩,vsp⟩:=V;dsimp only at HWC⊢;obtain⟨-,-,-,-,-,-,-,n8,-⟩:=hm.ns;dsimp only at n8;have HR:Xo (CaRows w caa m.ca):=hm.cas;have HN:Xo (m.ca.length=can):=n8.symm;have hbig:can<=9223372036854775807:=by have:=hm.ca.short;omega
 have HIX:Xo (∀c p,caE m p c=0->0<=c.idx/\c.idx<100):=show∀c p,_ from fun c p h=>caE_idx h1.st h
 obtain⟨Z,HZ⟩:∃Z,Xo (wCache m=Z):=⟨_,rfl⟩;rw[HZ.out];have HZ2:Xo (caGo m (prevC m.ca 0) (m.ca.drop 0)=Z):=HZ.out;clear hm n8 HZ h1;obtain⟨W0,hW0⟩:∃W0,w.alloc (Xk #[O vf.a vf.n vf.c,Xe Xf m.hand,O vs.a vs.n vs.c,O vsb.a vsb.n vsb.c,O vsq.a vsq.n vsq.c,O vdb.a vdb.n vdb.c,O vdq.a vdq.n vdq.c,O vfl.a vfl.n vfl.c,Xe Xf m.cnt,O caa can cac,O vsp.a vsp.n vsp.c] 42)=W0:=⟨_,rfl⟩;have HG0:=gA hW0
 have X0:=xA hW0
 have HW0:Xo (_=W0):=hW0;clear hW0
 go_enter Tryz.func31,Tryz.ntmps31
 go_upto_region 1 with fail;rw[HW0.out];have x9:=X0.out.c 9 rfl;go_wp2;clear x9
 go_loopg [9] can (fun gg s9 wr=>∃kk:Nat,kk<=can/\can - kk<=gg/\s9= Xe Xf kk/\Xo (Grew w wr)/\Xo (Box wr w.heap.size [O vf.a vf.n vf.c,Xe Xf m.hand,O vs.a vs.n vs.c,O vsb.a vsb.n vsb.c,O vsq.a vsq.n vsq.c,O vdb.a vdb.n vdb.c,O vdq.a vdq.n vdq.c,O vfl.a vfl.n vfl.c,Xe Xf m.cnt,O caa can cac,O vsp.a vsp.n vsp.c])/\Xo (caGo m (prevC m.ca kk) (m.ca.drop kk)=Z)/\Xo (∀(j:Nat) c,j<kk->m.ca[j]? =Xa c->0<=c.idx/\c.idx<100))
 case atStart=>exact⟨0,nZ _,by omega,rfl,HG0.out,X0.out,HZ2.out,fun j c hj=>absurd hj (nL _)⟩
 obtain⟨kk,hkk,hgg,rfl,BW,XW,GW,OW⟩:=hrel;clear X0 HZ2 HG0
 by_cases hlt:kk<can
 ·have hltz:(kk:Int)< (can:Int):=by omega
  obtain⟨c,HC⟩:∃c,Xo (m.ca[kk]? =Xa c):=⟨_,gE (by rw[HN.out];exact hlt)⟩
  obtain⟨ad,rfl,hl⟩:=HR.out kk c HC.out;obtain⟨d0,d1,d2⟩:=hl wr BW.out;clear hl;go_upto_region 4 with fail;obtain⟨W1,hW1⟩:∃W1,wr.alloc (Xk #[Xe Xf c.file,Xe Xf c.idx,Xe Xf c.fr] 105)=W1:=⟨_,rfl⟩;have HG1:=gT hW1 BW
  have X1:=yA hW1 XW
  have C1:=xA hW1
  rw[hW1];clear hW1 d0 d1 d2;obtain⟨pb,HPB⟩:∃pb,Xo (wr.heap.size=pb):=⟨_,rfl⟩;rw[HPB.out]at C1⊢;have hcall:=HWC.out c W1 HG1.out;obtain⟨e,HEE⟩:∃e,Xo (caE m Xb c=e):=⟨_,rfl⟩;rw[HEE.out]at hcall;obtain⟨x0,x1,x2,x3,x4,x5,x6,x7,x8,x9,x10⟩:=X1.out.c11;obtain⟨c0,c1,c2⟩:=C1.out.c3;go_wp2_with fail;refine hcall.mono ?_;clear hcall x0 x1 x2 x3 x4 x5 x6 x7 x8 x9 x10 c0 c1 c2;rintro e' W2 ⟨rfl,hg2⟩;have HG2:=dD (HG1.out.trans hg2);have X2:=dD (X1.out.grew hg2);have C2:=dD (C1.out.grew hg2);clear hg2
  by_cases h0:e=0
  ·have h0e:(e != 0)=Xd:=by simp[h0]
   have HE0:Xo (caE m Xb c=0):=show _=_ by rw[HEE.out];exact h0
   have HCI:Xo (0<=c.idx/\c.idx<100):=HIX.out c Xb HE0.out;have OW':Xo (∀(j:Nat) c,j<kk+1->m.ca[j]? =Xa c->0<=c.idx/\c.idx<100):=show∀(j:Nat) c,_ from fun j c' hj hc=>by
    by_cases ej:j=kk
    ·subst ej;rw[HC.out]at hc;cases hc;exact HCI.out
    exact OW.out j c' (by omega) hc
   clear h0;go_upto_region 7 with fail
   cases kk with
   | zero=>
    have GN:Xo (caGo m (prevC m.ca 1) (m.ca.drop 1)=Z):=caGo_next GW.out HC.out HE0.out;have hz0:¬(0:Int)< ((0:Nat):Int):=by decide
    have hz1:decide ((0:Int)< ((0:Nat):Int))=Xd:=by decide
    go_quiet (fail);go_wp2
    go_roundg (can - 1)
    case measure=>omega
    exact⟨1,by omega,by omega,by go_num,HG2.out.trans (show Below _ _ _ from bD (bR _ _) _),X2.out.grew (show Below _ _ _ from bD (bR _ _) _),GN.out,OW'.out⟩
   | succ j=>
    obtain⟨b,HB⟩:∃b,Xo (m.ca[j]? =Xa b):=⟨_,gE (by rw[HN.out];omega)⟩
    have HBI:Xo (0<=b.idx/\b.idx<100):=OW.out j b (by omega) HB.out
    have hz0:(0:Int)< ((j+1:Nat):Int):=by omega
    have hz1:decide ((0:Int)< ((j+1:Nat):Int))=Xc:=by simp
    have hj1:((j+1:Nat):Int) - 1=(j:Int):=by omega
    have hjn:(j:Int)< (can:Int):=by omega
    obtain⟨ad',had,hl⟩:=HR.out j b HB.out;obtain rfl:ad=ad':=by cases had;rfl
    have hx9:=X2.out.gw 9 rfl
    have hc0:=C2.out.gw 0 rfl
    have hc1:=C2.out.gw 1 rfl
    have hc2:=C2.out.gw 2 rfl
    have hy0:∀y:GrownW W2,y.world.cell? (ad.add (j*3))=Xa (Xe Xf b.file):=fun y=>(hl _ (HG2.out.trans y.grew)).1
    have hy1:∀y:GrownW W2,y.world.cell? { block:=(ad.add (j*3)).block,off:=(ad.add (j*3)).off+1 }=Xa (Xe Xf b.idx):=fun y=>(hl _ (HG2.out.trans y.grew)).2.1
    have hy2:∀y:GrownW W2,y.world.cell? { block:=(ad.add (j*3)).block,off:=(ad.add (j*3)).off+2 }=Xa (Xe Xf b.fr):=fun y=>(hl _ (HG2.out.trans y.grew)).2.2
    have hne:Nonempty (GrownW W2):=⟨⟨_,Grew.refl _⟩⟩;clear hl had;have HAK:Xo (aheadB b c=decide (¬keyC c<=keyC b)):=ahead_key HBI.out HCI.out;refine wp_lax [(10,⟨fun v=>v= Xh (aheadB b c),fun v w'=>True⟩)] mixed (by kernel_rfl) ?hS ?hp ?_
    case hS=>
     intro x hx;simp only[mC,nM,or_false]at hx;subst hx;exact⟨_,rfl⟩
    case hp=>
     intro x hx;simp only[mC,nM,or_false]at hx;subst hx;exact fun _ _ _ _ h=>h
    iterate 10 (refine lax_quiet rfl rfl rfl (fun K hK=>?_);go_big_quiet_op;refine hK _ ?_;clear hK K)
    refine lax_spec rfl rfl (fun w' hg hF=>?_) (fun v1 hv=>?_)
    ·refine Does.call [Xi #[Xe Xf b.file,Xe Xf b.idx,Xe Xf b.fr],Xi #[Xe Xf c.file,Xe Xf c.idx,Xe Xf c.fr]] rfl Tryz.func65 rfl rfl rfl ?_;refine(isAhead_any b c w').mono ?_;rintro e w'' ⟨rfl,hg3⟩;exact⟨_,rfl,hg3,rfl,trivial⟩
    subst hv;simp only[Xt,sB,sS,sZ];iterate 2 (refine lax_quiet rfl rfl rfl (fun K hK=>?_);go_big_quiet_op;refine hK _ ?_;clear hK K)
    refine lax_nil fun W3 hg3 hF=>?_
    have HG3:=dD (HG2.out.trans hg3);have X3:=dD (X2.out.grew hg3);clear hg3 hF hx9 hc0 hc1 hc2 hy0 hy1 hy2 hne
    cases hab:aheadB b c with
    | true=>
     have GN:Xo (caGo m (prevC m.ca (j+1+1)) (m.ca.drop (j+1+1))=Z):=caGo_next GW.out HC.out (by
      have hp:prevC m.ca (j+1)=Xa b:=HB.out;rw[hp,caE_order HE0.out,if_neg];have:=HAK.out;rw[hab]at this
      simpa using this)
     go_wp2
     go_roundg (can -(j+1+1))
     case measure=>omega
     exact⟨j+1+1,by omega,by omega,by go_num,HG3.out,X3.out,GN.out,OW'.out⟩
    | false=>
     have HZE:Xo (Z=2):=show _=_ by
      have hp:prevC m.ca (j+1)=Xa b:=HB.out;have h2:caE m (prevC m.ca (j+1)) c=2:=by
       rw[hp,caE_order HE0.out,if_pos];have:=HAK.out;rw[hab]at this
       simpa using this
      rw[caGo_err GW.out HC.out (by rw[h2];decide),h2]
     go_wp2;go_ret;exact⟨by rw[HZE.out];rfl,HG3.out⟩
  have h0e:(e != 0)=Xc:=by simp[h0]
  have HZE:Xo (Z=e):=show _=_ by
   have h2:caE m (prevC m.ca kk) c=e:=by rw[caE_err (by rw[HEE.out];exact h0),HEE.out]
   rw[caGo_err GW.out HC.out (by rw[h2];exact h0),h2]
  clear h0;go_wp2;go_ret;exact⟨by rw[HZE.out];rfl,HG2.out⟩
 have hltz:¬(kk:Int)< (can:Int):=by omega
 have:kk=can:=by omega
 subst this;have HZE:Xo (Z=0):=show _=_ by
  rw[<-GW.out,Xu (by rw[HN.out];exact nR _)]
  cases prevC m.ca kk <;> rfl
 go_wp2;go_ret;exact⟨by rw[HZE.out];rfl,BW.out⟩
structure OwnSp (lo hi:Nat) (w:Xn) (x:SpV) (s:Sp):Prop where
 live:x.live=s.live
 ar:OwnRow arE lo w x.ar.v s.ars
 tb:OwnTab lo w x.tab s.tb
 arh:∀g,x.ar.v.ownBlock=Xa g->g<hi
 tbh:∀(i:Nat) v,x.tab[i]? =Xa v->∀g,v.ownBlock=Xa g->g<hi
theorem OwnSp.grew {lo hi:Nat} {w w':Xn} {x:SpV} {s:Sp} (h:OwnSp lo hi w x s) (k:Grew w w'):OwnSp lo hi w' x s:=⟨h.live,h.ar.grew k,h.tb.grew k,h.arh,h.tbh⟩
theorem OwnSp.at {lo hi:Nat} {w:Xn} {x:SpV} {s:Sp} (h:OwnSp lo hi w x s):SpaceAt w x s:=⟨h.live,h.ar.at,h.ar.cap,h.tb.new.now⟩
theorem OwnTab.grown {base:Nat} {w w':Xn} {vs:List Xq} {t:List (List En)} {g:Nat} (h:OwnTab base w vs t) (hg:w.grownBy w' (Xa g)) (hn:∀(i:Nat) v,vs[i]? =Xa v->v.ownBlock≠Xa g):OwnTab base w' vs t:=
 ⟨h.len,h.tlen,fun i v x hv hx=>(h.row i v x hv hx).grown hg (fun b hb e=>by cases e;exact hn i v hv hb),h.two⟩
theorem OwnSp.beside {lo hi:Nat} {w w':Xn} {x:SpV} {s:Sp} {g:Nat} {t:TypeId} {cs:Array Xq} (h:OwnSp lo hi w x s) (hg:w.grownBy w' (Xa g)) (ho:w.heap[g]? =Xa (Xk cs t (0,0))) (h1:t≠arE.ty) (h2:t≠enE.ty):OwnSp lo hi w' x s:=by
 have key:∀{α:Type} {E:Elt α} {b:Nat} {v:Xq} {l:List α},OwnRow E b w v l->t≠E.ty->∀k,v.ownBlock=Xa k->Xa g≠Xa k:=fun hr hne k hk e=>by
  cases e;obtain⟨ds,h3⟩:=hr.obj hk;rw[ho]at h3;cases h3;exact hne rfl
 refine⟨h.live,h.ar.grown hg (key h.ar h1),h.tb.grown hg (fun i v hv e=>?_),h.arh,h.tbh⟩
 obtain⟨y,hy⟩:∃y,s.tb[i]? =Xa y:=⟨_,gE (by rw[h.tb.tlen,<-h.tb.len];exact(gS.1 hv).1)⟩
 exact key (h.tb.row i v y hv hy) h2 g e rfl
def OwnSps (base:Nat) (w:Xn) (v:Xq) (ss:List Sp):Prop:=
 ∃(xs:List SpV) (B:Nat->Nat),OwnRow spcE base w v xs/\xs.length=ss.length/\base<=B 0/\(∀i,B i<=B (i+1))/\∀(i:Nat) x s,xs[i]? =Xa x->ss[i]? =Xa s->OwnSp (B i) (B (i+1)) w x s
theorem OwnSps.grew {base:Nat} {w w':Xn} {v:Xq} {ss:List Sp} (h:OwnSps base w v ss) (k:Grew w w'):OwnSps base w' v ss:=by
 obtain⟨xs,B,h1,h2,h3,h4,h5⟩:=h;exact⟨xs,B,h1.grew k,h2,h3,h4,fun i x s hx hs=>(h5 i x s hx hs).grew k⟩
theorem OwnSps.base {base base':Nat} {w:Xn} {v:Xq} {ss:List Sp} (h:OwnSps base w v ss) (hb:base'<=base):OwnSps base' w v ss:=by
 obtain⟨xs,B,h1,h2,h3,h4,h5⟩:=h;exact⟨xs,B,h1.base hb,h2,by omega,h4,h5⟩
structure HalfS (base:Nat) (w:Xn) (kk:Nat) (xs ys:List SpV) (ss:List Sp) (B:Nat->Nat):Prop where
 len:ys.length=xs.length
 own:∀(i:Nat) y s,i<kk->ys[i]? =Xa y->ss[i]? =Xa s->OwnSp (B i) (B (i+1)) w y s
 rest:∀(i:Nat),kk<=i->ys[i]? =xs[i]?
 b0:base<=B 0
 mono:∀i,B i<=B (i+1)
 top:B kk<=w.heap.size
theorem HalfS.grew {base kk:Nat} {w w':Xn} {xs ys:List SpV} {ss:List Sp} {B:Nat->Nat} (h:HalfS base w kk xs ys ss B) (k:Grew w w'):HalfS base w' kk xs ys ss B:=⟨h.len,fun i y s hi hy hs=>(h.own i y s hi hy hs).grew k,h.rest,h.b0,h.mono,nT h.top (bS k)⟩
theorem mono_le {B:Nat->Nat} (h:∀i,B i<=B (i+1)):∀{i j:Nat},i<=j->B i<=B j
 | i,0,hij=>by rw[show i=0 from by omega];exact nR _
 | i,j+1,hij=>by
  by_cases e:i=j+1
  ·subst e;exact nR _
  exact nT (mono_le h (by omega)) (h j)
theorem spc_kinds:spcE.ty≠arE.ty/\spcE.ty≠enE.ty:=by decide
theorem HalfS.step {base kk:Nat} {w w':Xn} {xs ys:List SpV} {ss:List Sp} {B:Nat->Nat} {g:Nat} {cs:Array Xq} (h:HalfS base w kk xs ys ss B) (hg:w.grownBy w' (Xa g)) (ho:w.heap[g]? =Xa (Xk cs spcE.ty (0,0))) (hsz:w'.heap.size=w.heap.size) {x:SpV} {s:Sp} (hx:xs[kk]? =Xa x) (hs:ss[kk]? =Xa s)
  {y:SpV} (hown:OwnSp (B kk) w.heap.size w' y s):HalfS base w' (kk+1) xs (ys.set kk y) ss (fun i=>if i<=kk then B i else w.heap.size):=by
 have hk:kk<ys.length:=by rw[h.len];exact(gS.1 hx).1
 refine⟨by simp[h.len],fun i z s' hi hz hs'=>?_,fun i hi=>?_,by simpa using h.b0,fun i=>?_,by rw[if_neg (by omega),hsz];exact nR _⟩
 ·by_cases e:i=kk
  ·subst e;rw[sF hk]at hz;cases hz;rw[hs]at hs';cases hs';rw[if_pos (nR _),if_neg (by omega)]
   exact hown
  rw[sN (fun h=>e h.symm)]at hz
  have h1:=(h.own i z s' (by omega) hz hs').beside hg ho spc_kinds.1 spc_kinds.2
  have e1:i<=kk:=by omega
  have e2:i+1<=kk:=by omega
  simpa [e1,e2]using h1
 ·rw[sN (by omega)]
  exact h.rest i (by omega)
 by_cases e1:i+1<=kk
 ·rw[if_pos (by omega),if_pos e1]
  exact h.mono i
 rw[if_neg e1]
 by_cases e2:i<=kk
 ·rw[if_pos e2];exact nT (mono_le h.mono e2) h.top
 rw[if_neg e2];exact nR _
theorem HalfS.all {base:Nat} {w:Xn} {xs ys:List SpV} {ss:List Sp} {B:Nat->Nat} {v:Xq} (h:HalfS base w xs.length xs ys ss B) (hl:xs.length=ss.length) (hv:OwnRow spcE base w v ys):OwnSps base w v ss:=
 ⟨ys,B,hv,h.len.trans hl,h.b0,h.mono,fun i y s hy hs=>h.own i y s (by rw[<-h.len];exact(gS.1 hy).1) hy hs⟩
theorem tab_form {base:Nat} {w:Xn} {us:List Xq} {t:List (List En)} (h:OwnTab base w us t):∃t0 t1 t2 t3 t4 t5 t6 t7:Sli,us=[t0.v,t1.v,t2.v,t3.v,t4.v,t5.v,t6.v,t7.v]:=by
 obtain⟨u0,u1,u2,u3,u4,u5,u6,u7,rfl⟩:=eight h.len;obtain⟨y0,y1,y2,y3,y4,y5,y6,y7,rfl⟩:=eight h.tlen;obtain⟨a0,c0,rfl⟩:=(h.row 0 _ _ rfl rfl).form;obtain⟨a1,c1,rfl⟩:=(h.row 1 _ _ rfl rfl).form;obtain⟨a2,c2,rfl⟩:=(h.row 2 _ _ rfl rfl).form;obtain⟨a3,c3,rfl⟩:=(h.row 3 _ _ rfl rfl).form;obtain⟨a4,c4,rfl⟩:=(h.row 4 _ _ rfl rfl).form;obtain⟨a5,c5,rfl⟩:=(h.row 5 _ _ rfl rfl).form;obtain⟨a6,c6,rfl⟩:=(h.row 6 _ _ rfl rfl).form;obtain⟨a7,c7,rfl⟩:=(h.row 7 _ _ rfl rfl).form;exact⟨⟨a0,_,c0⟩,⟨a1,_,c1⟩,⟨a2,_,c2⟩,⟨a3,_,c3⟩,⟨a4,_,c4⟩,⟨a5,_,c5⟩,⟨a6,_,c6⟩,⟨a7,_,c7⟩,rfl⟩
theorem ownSpaces_any (v:Xq) (ss:List Sp) (w:Xn) (hv:SpacesAt w v ss):
  Xp Tryz.prog 56 #[v] w fun e w'=>∃v',e= Xl v'/\OwnSps w.heap.size w' v' ss/\Grew w w':=by
 obtain⟨xs,k1,k2,k3⟩:=hv;have HX:Xo (RowAt spcE w v xs):=k1;have HL:Xo (xs.length=ss.length):=k2;have HSP:Xo (∀(i:Nat) x s,xs[i]? =Xa x->ss[i]? =Xa s->SpaceAt w x s):=k3;have hbig:=k1.short;obtain⟨a,c,rfl,_⟩:=k1.rows;clear k1 k2 k3;obtain⟨n,HN⟩:∃n,Xo (xs.length=n):=⟨_,rfl⟩;rw[HN.out]at hbig HX⊢;have hcl:=cloneSp_any _ xs w HX.out
 go_enter Tryz.func56,Tryz.ntmps56
 go_wp2_with fail;refine hcl.mono ?_;clear hcl;rintro e W1 ⟨v1,rfl,ow1,g1⟩;obtain⟨xa,xc,rfl⟩:=ow1.form;rw[HN.out]at ow1⊢;have O1:Xo (OwnRow spcE w.heap.size W1 (O xa n xc) xs):=ow1;have G1:Xo (Grew w W1):=g1;clear ow1 g1;go_wp2
 go_loopg [10] n (fun gg s10 wr=>∃(kk:Nat) (ys:List SpV) (B:Nat->Nat),kk<=n/\n - kk<=gg/\s10= Xe Xf kk/\Xo (Grew w wr)/\Xo (OwnRow spcE w.heap.size wr (O xa n xc) ys)/\Xo (HalfS w.heap.size wr kk xs ys ss B))
 case atStart=>exact⟨0,xs,fun _=>W1.heap.size,nZ _,by omega,rfl,G1.out,O1.out,⟨rfl,fun i y f hi=>absurd hi (nL _),fun i _=>rfl,bS G1.out,fun i=>nR _,nR _⟩⟩
 obtain⟨kk,ys,B,hkk,hgg,rfl,BW,OW,HH⟩:=hrel;clear O1 G1
 by_cases hlt:kk<n
 ·have hltz:(kk:Int)< (n:Int):=by omega
  obtain⟨x,HXK⟩:∃x,Xo (xs[kk]? =Xa x):=⟨_,gE (by rw[HN.out];exact hlt)⟩
  obtain⟨s,HSK⟩:∃s,Xo (ss[kk]? =Xa s):=⟨_,gE (by rw[<-HL.out,HN.out];exact hlt)⟩
  have HAT:Xo (SpaceAt w x s):=HSP.out kk x s HXK.out HSK.out;have HY:Xo (ys[kk]? =Xa x):=show _=_ by rw[HH.out.rest kk (nR _)];exact HXK.out
  have HYL:Xo (ys.length=n):=show _=_ by rw[HH.out.len,HN.out]
  obtain⟨g,xc',heq⟩:=OW.out.formS (by rw[HYL.out];omega)
  rw[HYL.out]at heq;cases heq;have hce:Sp10 wr ((Addr.mk g 0 Xb).add (kk*10)) x:=(OW.out.one HY.out).sp10;rw[Xx,zA]at hce;obtain⟨d0,d1,d2,d3,d4,d5,d6,d7,d8,d9⟩:=hce;have HGB:Xo (w.heap.size<=g):=show _<=_ from(OW.out.lt g rfl).1
  go_upto_region 5 with fail;clear d0 d1 d2 d3 d4 d5 d6 d7 d8 d9;obtain⟨W2,hW2⟩:∃W2,wr.alloc (Xk #[Xh x.live,O x.ar.a x.ar.n x.ar.c,O x.t0.a x.t0.n x.t0.c,O x.t1.a x.t1.n x.t1.c,O x.t2.a x.t2.n x.t2.c,O x.t3.a x.t3.n x.t3.c,O x.t4.a x.t4.n x.t4.c,O x.t5.a x.t5.n x.t5.c,O x.t6.a x.t6.n x.t6.c,O x.t7.a x.t7.n x.t7.c] 76)=W2:=⟨_,rfl⟩;have HG2:=gT hW2 BW
  have S2:=xA hW2
  have OW2:Xo (OwnRow spcE w.heap.size W2 (O (Xa ⟨g,0,Xb⟩) n xc) ys):=show OwnRow _ _ _ _ _ by rw[<-hW2];exact OW.out.grew (grew_alloc _ _)
  have H2:Xo (HalfS w.heap.size W2 kk xs ys ss B):=show HalfS _ _ _ _ _ _ _ by rw[<-hW2];exact HH.out.grew (grew_alloc _ _)
  have HGL:Xo (g<wr.heap.size):=show _<_ from(OW.out.lt g rfl).2
  rw[hW2];clear hW2;obtain⟨pb,HPB⟩:∃pb,Xo (wr.heap.size=pb):=⟨_,rfl⟩;rw[HPB.out]at S2 HGL⊢;have s1:=S2.out.c 1 rfl;have hca:=cloneAr_any (O x.ar.a x.ar.n x.ar.c) s.ars W2 (HAT.out.ar.grew HG2.out);go_wp2_with fail;refine hca.mono ?_;clear hca s1;rintro e W3 ⟨v3,rfl,ow3,g3⟩;have HCP:Xo (Cap v3):=ow3.cap;obtain⟨ra,rc,rfl⟩:=ow3.form;obtain⟨rn,HRN⟩:∃rn,Xo (s.ars.length=rn):=⟨_,rfl⟩;rw[HRN.out]at ow3⊢;have A3:Xo (OwnRow arE W2.heap.size W3 (O ra rn rc) s.ars):=ow3;have HG3:=dD (HG2.out.trans g3);have S3:=dD (S2.out.grew g3);have OW3:=dD (OW2.out.grew g3);have H3:=dD (H2.out.grew g3);have HB2:Xo (B kk<=W2.heap.size):=H2.out.top;have HS2:Xo (W2.heap.size<=W3.heap.size):=show _<=_ from bS g3
  clear ow3 g3
  go_wp2_with (refine wpList_store_part (E:=spcE) rfl (.tmp 21) (.tmp 19) 71 rfl w.heap.size _ ys OW3.out g kk 1 rfl x { x with ar:=⟨ra,rn,rc⟩ } HY.out [O ra rn rc] ?s1 rfl ?s2 ?s3 ⟨g,kk*10+1,Xb⟩ rfl rfl (O ra rn rc) rfl rfl ?_)
  case s1=>kernel_rfl
  case s2=>show 1+1<=10;omega
  case s3=>simp;rfl
  intro W4 ow4 gr4 sz4;have HK4:Xo (∃cs,W3.heap[g]? =Xa (Xk cs spcE.ty (0,0))):=OW3.out.obj rfl;have HG4:Xo (Grew w W4):=show Grew _ _ from grew_grown HG3.out gr4 HGB.out
  have S4:Xo (Box W4 pb [Xh x.live,O x.ar.a x.ar.n x.ar.c,O x.t0.a x.t0.n x.t0.c,O x.t1.a x.t1.n x.t1.c,O x.t2.a x.t2.n x.t2.c,O x.t3.a x.t3.n x.t3.c,O x.t4.a x.t4.n x.t4.c,O x.t5.a x.t5.n x.t5.c,O x.t6.a x.t6.n x.t6.c,O x.t7.a x.t7.n x.t7.c]):=S3.out.grown gr4 (by have:=HGL.out;omega)
  have OW4:Xo (OwnRow spcE w.heap.size W4 (O (Xa ⟨g,0,Xb⟩) n xc) (ys.set kk { x with ar:=⟨ra,rn,rc⟩ })):=ow4;have A4:Xo (OwnRow arE W2.heap.size W4 (O ra rn rc) s.ars):=A3.out.grown gr4 (fun b hb e=>by
   cases e;exact OW3.out.apart A3.out spc_kinds.1 g rfl hb)
  have H4:Xo (∀(i:Nat) y s',i<kk->ys[i]? =Xa y->ss[i]? =Xa s'->OwnSp (B i) (B (i+1)) W4 y s'):=show∀(i:Nat) y s',_ from fun i y s' hi hy hs=>by
   obtain⟨cs,hcs⟩:=HK4.out;exact(H3.out.own i y s' hi hy hs).beside gr4 hcs spc_kinds.1 spc_kinds.2
  have HS4:Xo (W4.heap.size=W3.heap.size):=sz4;clear ow4 gr4 sz4;have hct:=ownTb_any x.tab s.tb W4 (HAT.out.grew HG4.out).tb;have hct':Xp Tryz.prog 105 #[Xi #[O x.t0.a x.t0.n x.t0.c,O x.t1.a x.t1.n x.t1.c,O x.t2.a x.t2.n x.t2.c,O x.t3.a x.t3.n x.t3.c,O x.t4.a x.t4.n x.t4.c,O x.t5.a x.t5.n x.t5.c,O x.t6.a x.t6.n x.t6.c,O x.t7.a x.t7.n x.t7.c]] W4 fun e w'=>∃us,e= Xl (Xi us.toArray)/\OwnTab (W4.heap.size+2) w' us s.tb/\Grew W4 w'/\W4.heap.size+2<=w'.heap.size:=hct
  clear hct;have s2:=S4.out.c 2 rfl;have s3:=S4.out.c 3 rfl;have s4:=S4.out.c 4 rfl;have s5:=S4.out.c 5 rfl;have s6:=S4.out.c 6 rfl;have s7:=S4.out.c 7 rfl;have s8:=S4.out.c 8 rfl;have s9:=S4.out.c 9 rfl;go_wp2_with fail;refine hct'.mono ?_;clear hct' s2 s3 s4 s5 s6 s7 s8 s9;rintro e W5 ⟨us,rfl,ot5,g5,_⟩;obtain⟨t0,t1,t2,t3,t4,t5,t6,t7,rfl⟩:=tab_form ot5;have T5:Xo (OwnTab (W4.heap.size+2) W5 [t0.v,t1.v,t2.v,t3.v,t4.v,t5.v,t6.v,t7.v] s.tb):=ot5;have HG5:=dD (HG4.out.trans g5);have OW5:=dD (OW4.out.grew g5);have A5:=dD (A4.out.grew g5);have H5:Xo (∀(i:Nat) y s',i<kk->ys[i]? =Xa y->ss[i]? =Xa s'->OwnSp (B i) (B (i+1)) W5 y s'):=show∀(i:Nat) y s',_ from fun i y s' hi hy hs=>(H4.out i y s' hi hy hs).grew g5
  have HS5:Xo (W4.heap.size<=W5.heap.size):=show _<=_ from bS g5
  clear ot5 g5;have HYS:Xo ((ys.set kk { x with ar:=⟨ra,rn,rc⟩ })[kk]? =Xa { x with ar:=⟨ra,rn,rc⟩ }):=show _=_ from sF (by rw[HYL.out];exact hlt)
  go_wp2_with (refine wpList_store_part (E:=spcE) rfl (.tmp 28) (.tmp 26) 74 rfl w.heap.size _ _ OW5.out g kk 2 rfl { x with ar:=⟨ra,rn,rc⟩ } ⟨x.live,⟨ra,rn,rc⟩,t0,t1,t2,t3,t4,t5,t6,t7⟩ HYS.out [t0.v,t1.v,t2.v,t3.v,t4.v,t5.v,t6.v,t7.v] ?s1 rfl ?s2 ?s3 ⟨g,kk*10+2,Xb⟩ rfl rfl _ rfl rfl ?_)
  case s1=>kernel_rfl
  case s2=>show 2+8<=10;omega
  case s3=>
   intro u hu;simp only[mC,nM,or_false]at hu
   rcases hu with rfl | rfl | rfl | rfl | rfl | rfl | rfl | rfl <;> rfl
  intro W6 ow6 gr6 sz6;have HK6:Xo (∃cs,W5.heap[g]? =Xa (Xk cs spcE.ty (0,0))):=OW5.out.obj rfl;have HG6:Xo (Grew w W6):=show Grew _ _ from grew_grown HG5.out gr6 HGB.out
  have OW6:Xo (OwnRow spcE w.heap.size W6 (O (Xa ⟨g,0,Xb⟩) n xc) (ys.set kk ⟨x.live,⟨ra,rn,rc⟩,t0,t1,t2,t3,t4,t5,t6,t7⟩)):=ow6;have HF6:Xo (HalfS w.heap.size W6 (kk+1) xs (ys.set kk ⟨x.live,⟨ra,rn,rc⟩,t0,t1,t2,t3,t4,t5,t6,t7⟩) ss (fun i=>if i<=kk then B i else W5.heap.size)):=show HalfS _ _ _ _ _ _ _ by
   obtain⟨cs,hcs⟩:=HK6.out;have h5:HalfS w.heap.size W5 kk xs ys ss B:=⟨HH.out.len,H5.out,HH.out.rest,HH.out.b0,HH.out.mono,by have:=HB2.out;have:=HS2.out;have:=HS4.out;have:=HS5.out;omega⟩
   refine h5.step gr6 hcs sz6 HXK.out HSK.out ?_;have own5:OwnSp (B kk) W5.heap.size W5 ⟨x.live,⟨ra,rn,rc⟩,t0,t1,t2,t3,t4,t5,t6,t7⟩ s:=⟨HAT.out.live,A5.out.base HB2.out,T5.out.base (by have:=HB2.out;have:=HS2.out;have:=HS4.out;omega),fun b hb=>(A5.out.lt b hb).2,fun i u hu b hb=>by
    obtain⟨y,hy⟩:∃y,s.tb[i]? =Xa y:=⟨_,gE (by rw[T5.out.tlen,<-T5.out.len];exact(gS.1 hu).1)⟩
    exact((T5.out.row i u y hu hy).lt b hb).2⟩
   exact own5.beside gr6 hcs spc_kinds.1 spc_kinds.2
  clear ow6 gr6 sz6;go_wp2
  go_roundg (n -(kk+1))
  case measure=>omega
  exact⟨kk+1,_,_,by omega,by omega,by go_num,HG6.out,OW6.out,HF6.out⟩
 have hltz:¬(kk:Int)< (n:Int):=by omega
 have:kk=n:=by omega
 subst this;have HA:Xo (OwnSps w.heap.size wr (O xa kk xc) ss):=show OwnSps _ _ _ _ by
  have h1:=HH.out;rw[<-HN.out]at h1;exact h1.all HL.out OW.out
 go_wp2;go_ret;exact⟨_,rfl,HA.out,BW.out⟩
theorem cloneFrames_any (v:Xq) (fs:List Fr) (w:Xn) (hv:frRowAt w v fs):
  Xp Tryz.prog 98 #[v] w fun e w'=>∃v',e= Xl v'/\frOwnRow w.heap.size w' v' fs/\Grew w w':=by
 have HV:Xo (frRowAt w v fs):=hv;obtain⟨⟨a,c,rfl,hnone,hcells⟩,hbytes⟩:=hv;have q22:∀(w:Xn) (a:Option Addr) (n c n' c':Nat),(binOp .eql 27 (O a n c) (O Xb n' c')).run Tryz.prog w= .ok (Xh a.isNone) w:=fun w a n c n' c'=>Lib.run_eql_slice_nil w _ _ a n c n' c' Tryz.underlying27
 cases a with
 | none=>
  have hps:=hnone rfl;subst hps;clear hcells hnone hbytes HV
  go_enter Tryz.func98,Tryz.ntmps98
  go_wp2;go_ret;exact⟨_,rfl,frOwnRow.nil _ _,Grew.refl w⟩
 | some x=>
  have HB:Xo (fs.length*40<=140737488355328):=hbytes;clear hcells hnone hbytes
  go_enter Tryz.func98,Tryz.ntmps98
  go_wp2_with (at_builtin;refine frWpList_append_row rfl (.tmp 5) (.tmp 6) rfl w.heap.size _ [] rfl (frOwnRow.made w) _ fs rfl (HV.out.grew (grew_alloc _ _)) ?qb (by simp) ?_)
  case qb=>rw[List.length_nil,zA];exact HB.out
  intro v' w1 hown hgrow;go_wp2;go_ret;exact⟨v',rfl,by simpa using hown,((bR _ w).alloc (nR _) _).grown hgrow (by simp) (by intro k hk;simp[Value.ownBlock]at hk;omega)⟩
theorem ownMem_any (a:Option Addr) (c:Nat) (fs:List Fr) (h:Int) (w:Xn) (hv:frRowAt w (O a fs.length c) fs):
  Xp Tryz.prog 51 #[Xi #[O a fs.length c,Xe Xf h]] w fun e w'=>∃b,e= Xl (Xi #[b,Xe Xf h])/\frOwnRow w.heap.size w' b fs/\Grew w w':=by
 have HV:Xo (frRowAt w (O a fs.length c) fs):=hv;clear hv;obtain⟨n,HN⟩:∃n,Xo (fs.length=n):=⟨_,rfl⟩;rw[HN.out]at HV⊢
 go_enter Tryz.func51,Tryz.ntmps51
 go_wp2;obtain⟨W1,hW⟩:∃W1,(w.alloc (Xk #[O a n c,Xe Xf h] 29)).alloc (Xk #[O Xb 0 0,Xe Xf 0] 29)=W1:=⟨_,rfl⟩;have hg1:=gD2 hW
 have hsz:Xo (W1.heap.size=w.heap.size+2):=show W1.heap.size=_ by rw[<-hW];simp
 have X0:=x2a hW
 have X1:=x2b hW
 rw[hW];clear hW;have hx0:∀x:GrownW W1,x.world.cell? ⟨w.heap.size,0,Xb⟩=Xa (O a n c):=fun x=>(X0.out.grew x.grew).c 0 rfl
 have hx1:∀x:GrownW W1,x.world.cell? ⟨w.heap.size,1,Xb⟩=Xa (Xe Xf h):=fun x=>(X0.out.grew x.grew).c 1 rfl
 have hne:Nonempty (GrownW W1):=⟨⟨_,Grew.refl _⟩⟩;refine wp_lax_tail 6 [(2,⟨fun v=>∃a n c,v= O a n c,fun v w'=>frOwnRow (w.heap.size+2) w' v fs⟩)] mixed (by kernel_rfl) rfl rfl (by decide) ?_ ?_ ?_
 ·intro x hx
  simp at hx
  subst hx;exact⟨_,Xb,0,0,rfl⟩
 ·intro x hx
  simp at hx
  subst hx;intro v w1 w2 hg h;exact h.grew hg
 simp only[List.take,List.drop];iterate 2 (refine lax_quiet rfl rfl rfl (fun K hK=>?_);go_big_quiet_op;refine hK _ ?_;clear hK K)
 refine lax_spec rfl rfl (fun w' hg hF=>?_) (fun v1 hv=>?_)
 ·refine Does.call [O a n c] rfl Tryz.func98 rfl rfl rfl ?_;refine(cloneFrames_any _ fs w' (HV.out.grew (hg1.out.trans hg))).mono ?_;rintro e w'' ⟨v2,rfl,hb,hg2⟩;obtain⟨a2,c2,rfl⟩:=hb.form;exact⟨_,rfl,hg2,⟨_,_,_,rfl⟩,hb.base (by have:=bS hg;rw[hsz.out]at this;exact this)⟩
 obtain⟨a1,n1,c1,rfl⟩:=hv;simp only[Xt,sB,sS,sZ];iterate 3 (refine lax_quiet rfl rfl rfl (fun K hK=>?_);go_big_quiet_op;refine hK _ ?_;clear hK K)
 refine lax_nil fun w' hg hF=>?_
 have ow1:Xo (frOwnRow (w.heap.size+2) w' (O a1 n1 c1) fs):=hF 2;have X2:=X1.out.grew hg;have m2:=X2.c 0 rfl;have m3:=X2.c 1 rfl;have g2:=X2.f;have HG:=dD (hg1.out.trans hg);clear hF hx0 hx1 hg hne X2;go_wp2;refine bodyPost_ret (v:= Xi #[O a1 n1 c1,Xe Xf h]) (by simp[results,Tryz.results51,go_sem, *]) rfl ⟨_,rfl,((ow1.out.setCell (by simp) _).setCell (by simp) _).base (by omega),?_⟩
 exact Below.setCell (Below.setCell HG.out (p:=⟨w.heap.size+1,0,Xb⟩) (by simp) _) (p:=⟨w.heap.size+1,1,Xb⟩) (by simp) _
def isZ (z:Int):Bool:=z == 0
def idxS (fs:List Int):Int:=if fs.findIdx isZ<fs.length then(fs.findIdx isZ:Int)else -1
theorem indexS_any (v:Xq) (fs:List Int) (w:Xn) (hv:RowAt slE w v fs):
  Xp Tryz.prog 247 #[v,Xe Xf 0] w fun e w'=>e= Xl (Xe Xf (idxS fs))/\Grew w w':=by
 have hbig:=hv.short;obtain⟨a,c,rfl,hrow⟩:=hv.sls;have HR:Xo (SlRows w a fs):=hrow;clear hrow hv;obtain⟨n,HN⟩:∃n,Xo (fs.length=n):=⟨_,rfl⟩;rw[HN.out]at hbig⊢
 go_enter Tryz.func247,Tryz.ntmps247
 go_wp2
 go_loopg [5,8] n (fun gg _ s8 wr=>∃kk:Nat,kk<=n/\n - kk<=gg/\s8= Xe Xf kk/\Xo (Grew w wr)/\Xo (∀j q,j<kk->fs[j]? =Xa q->isZ q=Xd))
 case atStart=>exact⟨0,nZ _,by omega,rfl,Grew.refl w,fun j q hj=>absurd hj (nL _)⟩
 obtain⟨kk,hkk,hg,rfl,BW,A⟩:=hrel
 by_cases hlt:kk<n
 ·have hltz:(kk:Int)< (n:Int):=by omega
  obtain⟨q,HQ⟩:∃q,Xo (fs[kk]? =Xa q):=⟨_,gE (by rw[HN.out];exact hlt)⟩
  obtain⟨ad,rfl,hl⟩:=HR.out kk q HQ.out;have d0:=hl wr BW.out;clear hl
  by_cases hz:q=0
  ·have HF:Xo (idxS fs=(kk:Int)):=show _=_ by unfold idxS;rw[first_at HQ.out (by simp[isZ,hz]) A.out,HN.out,if_pos hlt]
   have hzb:(q == 0)=Xc:=by simp[hz]
   have hzb':((0:Int) == q)=Xc:=by simp[hz]
   clear hz A;go_wp2;go_ret;exact⟨by rw[HF.out];rfl,BW.out⟩
  have HA:Xo (∀(j:Nat) q,j<kk+1->fs[j]? =Xa q->isZ q=Xd):=show∀(j:Nat) q,_ from fun j q' hj hq'=>by
   by_cases e:j=kk
   ·subst e;rw[HQ.out]at hq';cases hq'
    simpa [isZ]using hz
   exact A.out j q' (by omega) hq'
  have hzb:(q == 0)=Xd:=by simp[hz]
  have hzb':((0:Int) == q)=Xd:=by simp;omega
  clear hz A;go_wp2
  go_roundg (n -(kk+1))
  case measure=>omega
  exact⟨kk+1,by omega,by omega,by go_num,BW.out,HA.out⟩
 have hltz:¬(kk:Int)< (n:Int):=by omega
 have:kk=n:=by omega
 subst this;have HF:Xo (idxS fs=-1):=show _=_ by
  unfold idxS;rw[first_no (fun j q hj=>A.out j q (by rw[<-HN.out];exact(gS.1 hj).1) hj),if_neg (Nat.lt_irrefl _)]
 go_wp2;go_ret;exact⟨by rw[HF.out];rfl,BW.out⟩
theorem cloneS_any (v:Xq) (fs:List Int) (w:Xn) (hv:RowAt slE w v fs):
  Xp Tryz.prog 52 #[v] w fun e w'=>∃v',e= Xl v'/\OwnRow slE w.heap.size w' v' fs/\Grew w w':=by
 have HV:Xo (RowAt slE w v fs):=hv;obtain⟨⟨a,c,rfl,hnone,hcells⟩,hbytes⟩:=hv;have q22:∀(w:Xn) (a:Option Addr) (n c n' c':Nat),(binOp .eql 31 (O a n c) (O Xb n' c')).run Tryz.prog w= .ok (Xh a.isNone) w:=fun w a n c n' c'=>Lib.run_eql_slice_nil w _ _ a n c n' c' Tryz.underlying31
 cases a with
 | none=>
  have hps:=hnone rfl;subst hps;clear hcells hnone hbytes HV
  go_enter Tryz.func52,Tryz.ntmps52
  go_wp2;go_ret;exact⟨_,rfl,OwnRow.nil _ _ _,Grew.refl w⟩
 | some x=>
  have HB:Xo (fs.length*8<=140737488355328):=hbytes;clear hcells hnone hbytes
  go_enter Tryz.func52,Tryz.ntmps52
  go_wp2_with (at_builtin;refine wpList_append_row (E:=slE) rfl (.tmp 5) (.tmp 6) rfl w.heap.size _ [] rfl (OwnRow.made slE w) _ fs rfl (HV.out.grew (grew_alloc _ _)) ?qb (by simp) ?_)
  case qb=>rw[List.length_nil,zA];exact HB.out
  intro v' w1 hown hgrow;go_wp2;go_ret;exact⟨v',rfl,by simpa using hown,((bR _ w).alloc (nR _) _).grown hgrow (by simp) (by intro k hk;simp[Value.ownBlock]at hk;omega)⟩
section
variable(I:Xn->Prop) (P:Program) (ops:Array Oper) (S:Nat->Option (Xq->Prop)) (R:Nat->Bool)
def ClauseF (i:Nat) (F:Xn->Prop) (a:Act) (K:(Xn->Prop)->Act->Prop):Prop:=
 match ops[i]? with
 | none=>False
 | some o=>
  if Xs o (yielded ops a.tmps)then
   match S i with
   | none=>∃v,(∀w,I w->(R i=Xc->F w)->(execOp a.eval o).run P w= .ok (.value v) w)/\K F (a.put o.dst v)
   | some s=>∃p:Xq->Xn->Prop,(∀w,I w->F w->Does P o a w fun v w'=>I w'/\s v/\p v w')/\∀v,s v->K (p v) (a.put o.dst v)
  else K F (a.put o.dst undef)
end
section
variable{I:Xn->Prop} {P:Program} {ops:Array Oper} {S:Nat->Option (Xq->Prop)} {R:Nat->Bool} {T:Nat}
theorem ClauseF.mono {i:Nat} {F:Xn->Prop} {a:Act} {K K':(Xn->Prop)->Act->Prop}
  (h:∀F' a',K F' a'->K' F' a') (hc:ClauseF I P ops S R i F a K):ClauseF I P ops S R i F a K':=by
 unfold ClauseF at*
 split
 ·rename_i ho;simp only[ho]at hc
 rename_i o ho
 simp only[ho]at hc
 split
 ·rename_i hw
  simp only[hw,if_true]at hc
  split
  ·rename_i hs
   simp only[hs]at hc;obtain⟨v,h1,h2⟩:=hc;exact⟨v,h1,h _ _ h2⟩
  rename_i s hs
  simp only[hs]at hc;obtain⟨p,hd,hc⟩:=hc;exact⟨p,hd,fun v hv=>h _ _ (hc v hv)⟩
 rename_i hw
 simp only[hw]at hc;exact h _ _ hc
theorem ClauseF.swap {i j:Nat} {oi oj:Oper} {F:Xn->Prop} {a:Act} {K:(Xn->Prop)->Act->Prop} {w:Xn}
  (hi:ops[i]? =Xa oi) (hj:ops[j]? =Xa oj) (hap:oi.apart ops oj=Xc)
  (hsi:∀cs b,oi.op≠.select cs b) (hsj:∀cs b,oj.op≠.select cs b)
  (hij:anc ops 9 i j=Xd) (hji:anc ops 9 j i=Xd) (hS:∀s,S i=Xa s->∃v,s v) (hch:S i≠Xb->(S j≠Xb\/R j=Xc)->anc ops 9 i j=Xc\/anc ops 9 j i=Xc) (hrd:R i=Xc->S j≠Xb->anc ops 9 i j=Xc\/anc ops 9 j i=Xc)
  (hw0:I w)
  (h:ClauseF I P ops S R i F a fun F' a'=>ClauseF I P ops S R j F' a' K):ClauseF I P ops S R j F a fun F' a'=>ClauseF I P ops S R i F' a' K:=by
 obtain⟨h1,h2,h3⟩:=Oper.apart_spec hap;have ei:∀v,execOp (a.put oj.dst v).eval oi=execOp a.eval oi:=fun v=>execOp_put oi hsi a oj.dst v h3
 have ej:∀v,execOp (a.put oi.dst v).eval oj=execOp a.eval oj:=fun v=>execOp_put oj hsj a oi.dst v h1
 have wi:∀v,Xs oi (yielded ops (a.put oj.dst v).tmps)=Xs oi (yielded ops a.tmps):=fun v=>wanted_put oi a oj.dst v h3
 have wj:∀v,Xs oj (yielded ops (a.put oi.dst v).tmps)=Xs oj (yielded ops a.tmps):=fun v=>wanted_put oj a oi.dst v h1
 have di:∀v w K,Does P oi (a.put oj.dst v) w K=Does P oi a w K:=fun v w K=>by unfold Does;rw[ei]
 have dj:∀v w K,Does P oj (a.put oi.dst v) w K=Does P oj a w K:=fun v w K=>by unfold Does;rw[ej]
 have pc:∀v u,(a.put oi.dst v).put oj.dst u=(a.put oj.dst u).put oi.dst v:=fun v u=>Act.put_comm a v u h2
 unfold ClauseF at h⊢;simp only[hi,hj,ei,ej,wi,wj,di,dj,pc]at h⊢
 cases hwi:Xs oi (yielded ops a.tmps) <;> cases hwj:Xs oj (yielded ops a.tmps) <;>
  simp only[hwi,hwj,if_true,if_false,Bool.false_eq_true]at h⊢
 ·exact h
 ·cases hsj':S j with
  | none=>simp only[hsj']at h⊢;exact h
  | some s=>simp only[hsj']at h⊢;exact h
 ·cases hsi':S i with
  | none=>simp only[hsi']at h⊢;exact h
  | some s=>simp only[hsi']at h⊢;exact h
 cases hsi':S i with
 | none=>
  simp only[hsi']at h;obtain⟨vi,hri,h⟩:=h
  cases hsj':S j with
  | none=>
   simp only[hsj']at h⊢;obtain⟨vj,hrj,h⟩:=h;exact⟨vj,hrj,vi,hri,h⟩
  | some s=>
   simp only[hsj']at h⊢;obtain⟨p,hd,hk⟩:=h;have hRi:R i≠Xc:=fun e=>by
    rcases hrd e (by rw[hsj'];simp)with h1 | h1
    ·rw[hij]at h1;cases h1
    rw[hji]at h1;cases h1
   exact⟨p,hd,fun vj hvj=>⟨vi,fun w hw _=>hri w hw (fun e=>absurd e hRi),hk vj hvj⟩⟩
 | some si=>
  simp only[hsi']at h;obtain⟨p,hdi,h⟩:=h;obtain⟨v1,hv1⟩:=hS si hsi'
  cases hsj':S j with
  | none=>
   simp only[hsj']at h⊢;have hRj:R j≠Xc:=fun e=>by
    rcases hch (by rw[hsi'];simp) (.inr e)with h1 | h1
    ·rw[hij]at h1;cases h1
    rw[hji]at h1;cases h1
   obtain⟨vj,hrj,_⟩:=h v1 hv1;refine⟨vj,fun w hw _=>hrj w hw (fun e=>absurd e hRj),p,hdi,fun vi hvi=>?_⟩
   obtain⟨vj',hrj',hl⟩:=h vi hvi;have e1:=hrj w hw0 (fun e=>absurd e hRj)
   have e2:=hrj' w hw0 (fun e=>absurd e hRj)
   rw[e1]at e2;simp only[Result.ok.injEq,Next.value.injEq,and_true]at e2;subst e2;exact hl
  | some sj=>
   exfalso
   rcases hch (by rw[hsi'];simp) (.inl (by rw[hsj'];simp))with h1 | h1
   ·rw[hij]at h1;cases h1
   rw[hji]at h1;cases h1
theorem wayF (hS:∀k s,S k=Xa s->∃v,s v) (hch:∀i k,i<k->(S i≠Xb/\(S k≠Xb\/R k=Xc))\/(R i=Xc/\S k≠Xb)->anc ops 9 i k=Xc):
  Way P ops (ClauseF I P ops S R) (fun _ _=>∃w,I w) (fun _ F _ w=>I w/\F w) where
 mono h:=ClauseF.mono fun F' a'=>h F' a' fun _ _ h=>h
 swap hi hj hlt hap hsi hsj hij hji:=fun⟨_,hw⟩=>ClauseF.swap hi hj hap hsi hsj hij hji (hS _) (fun q1 q2=> .inl (hch _ _ hlt (.inl ⟨q1,q2⟩))) (fun q1 q2=> .inl (hch _ _ hlt (.inr ⟨q1,q2⟩))) hw
 lean _ h:=⟨_,h.1⟩
 step {listed F a w j oj K N Q} hsz hoj h0 hc hok hcm hN:=by
  obtain⟨hw,hF⟩:=hok;simp only[ClauseF,hoj]at hcm
  split
  ·rename_i hwant
   simp only[hwant,if_true]at hcm
   cases hs:S j with
   | none=>
    simp only[hs]at hcm;obtain⟨v,hrun,hk⟩:=hcm;unfold Oper.wp;rw[hrun w hw fun _=>hF]
    exact hN F _ w ⟨hw,hF⟩ hk
   | some s=>
    simp only[hs]at hcm;obtain⟨p,hd,hk⟩:=hcm;exact(hd w hw hF).wp fun v w' ⟨hi',hpv,hpost⟩=>hN (p v) _ w' ⟨hi',hpost⟩ (hk v hpv)
  rename_i hwant
  simp only[hwant]at hcm;exact hN F _ w ⟨hw,hF⟩ hcm
variable{Q:Act->Xn->Prop}
variable(I P ops S R Q)in
abbrev WLaxF:List Oper->Nat->(Xn->Prop)->Act->Prop:=WLaxG ops (ClauseF I P ops S R) fun F a=>∀w,I w->F w->Q a w
theorem wp_lax_tailF {id:Nat} {Q:Exit->Act->Xn->Prop} {a:Act} {w:Xn} {L l r:List Oper} (T:Nat) (S:List (Nat ×(Xq->Prop))) (Rl:List Nat) (F:Xn->Prop) (hI:I w.drew) (hF:F w.drew) (hm:P.follows .mixedOrders=Xc) (hB:laxTB L.toArray T=Xc) (hl:L.take T=l) (hr:L.drop T=r) (hT:T<=L.length)
  (hS:∀x∈S,∃v,x.2 v) (hch:((S.map (·.1)++Rl).all fun i=>(S.map (·.1)++Rl).all fun k=>!decide (i<k) || anc L.toArray 9 i k || (Rl.contains i && Rl.contains k))=Xc) (hRS:(Rl.all fun i=>(S.lookup i).isNone)=Xc)
  (h:WLaxF I P L.toArray (fun k=>S.lookup k) (fun k=>Rl.contains k) (fun a w=>wpList P L.toArray Q r a w) l 0 F a):(Code.region id L.toArray Xc).wp P Q a w:=by
 refine wp_laxG (wayF ?_ ?_) T hm hB hl hr hT (fun _=>⟨hI,hF⟩) (fun _ _ _ _ hok h=>h _ hok.1 hok.2) h
 ·intro k s hk;obtain⟨x,hx,rfl,_⟩:=look_mem hk;exact hS x hx
 intro i k hik hh;have hin:∀k,S.lookup k≠Xb->k∈S.map (·.1)++Rl/\Rl.contains k=Xd:=fun k hk=>by
  obtain⟨s,hs⟩:=Option.ne_none_iff_exists'.1 hk;obtain⟨x,hx,_,rfl⟩:=look_mem hs;refine⟨List.mem_append.2 (.inl (List.mem_map.2 ⟨x,hx,rfl⟩)),?_⟩
  cases hc:Rl.contains x.1 with
  | false=>rfl
  | true=>
   have:=Xv.1 hRS x.1 (by simpa using hc)
   rw[hs]at this;cases this
 have hrl:∀k,Rl.contains k=Xc->k∈S.map (·.1)++Rl:=fun k hk=>List.mem_append.2 (.inr (by simpa using hk))
 have fin:i∈S.map (·.1)++Rl->k∈S.map (·.1)++Rl->(Rl.contains i && Rl.contains k)=Xd->anc L.toArray 9 i k=Xc:=fun h1 h2 h3=>by
  have:=Xv.1 (Xv.1 hch i h1) k h2;rw[h3]at this
  simpa [hik]using this
 rcases hh with⟨h1,h2 | h2⟩ | ⟨h1,h2⟩
 ·exact fin (hin i h1).1 (hin k h2).1 (by rw[(hin i h1).2];rfl)
 ·exact fin (hin i h1).1 (hrl k h2) (by rw[(hin i h1).2];rfl)
 exact fin (hrl i h1) (hin k h2).1 (by rw[(hin k h2).2,Bool.and_false])
variable{o:Oper} {rest:List Oper} {k:Nat} {F:Xn->Prop} {a:Act}
theorem laxF_step (h:ops[k]? =Xa o->ClauseF I P ops S R k F a (WLaxF I P ops S R Q rest (k+1))):WLaxF I P ops S R Q (o :: rest) k F a:=WLaxG.cons (fun h=>ClauseF.mono h) h
theorem laxF_val (hw:Xs o (yielded ops a.tmps)=Xc) (hS:S k=Xb) {v:Xq} (h1:∀w,I w->(R k=Xc->F w)->(execOp a.eval o).run P w= .ok (.value v) w) (h2:WLaxF I P ops S R Q rest (k+1) F (a.put o.dst v)):WLaxF I P ops S R Q (o :: rest) k F a:=laxF_step fun h0=>by
 simp only[ClauseF,h0,hw,if_true,hS];exact⟨v,h1,h2⟩
theorem laxF_quiet (ht:tame o=Xc) (hw:Xs o (yielded ops a.tmps)=Xc) (hS:S k=Xb)
  (h:∀K:Act->Prop,(∀a,WLaxF I P ops S R Q rest (k+1) F a->K a)->o.quiet P a (fun w'=>∃x:HoldI I,w'=x.world) K):WLaxF I P ops S R Q (o :: rest) k F a:=by
 obtain⟨v,h1,h2⟩:=quiet_run ht (h _ fun _ h=>h)
 exact laxF_val hw hS (fun w hw _=>h1 w ⟨⟨w,hw⟩,rfl⟩) h2
theorem laxF_read (hw:Xs o (yielded ops a.tmps)=Xc) (hS:S k=Xb) (hR:R k=Xc) (v:Xq) (h1:∀w,I w->F w->(execOp a.eval o).run P w= .ok (.value v) w) (h2:WLaxF I P ops S R Q rest (k+1) F (a.put o.dst v)):WLaxF I P ops S R Q (o :: rest) k F a:=laxF_val hw hS (fun w hw hF=>h1 w hw (hF hR)) h2
theorem laxF_spec {s:Xq->Prop} (hw:Xs o (yielded ops a.tmps)=Xc) (hS:S k=Xa s) (p:Xq->Xn->Prop)
  (h:∀w,I w->F w->Does P o a w fun v w'=>I w'/\s v/\p v w')
  (hn:∀v,s v->WLaxF I P ops S R Q rest (k+1) (p v) (a.put o.dst v)):WLaxF I P ops S R Q (o :: rest) k F a:=laxF_step fun h0=>by
 simp only[ClauseF,h0,hw,if_true,hS];exact⟨p,h,hn⟩
theorem laxF_nilc (x:Operand) (p:Addr) (ho:o.op= .nilCheck x) (hx:a.eval x= Xj (Xa p)) (hw:Xs o (yielded ops a.tmps)=Xc) (hS:S k=Xb) (h:WLaxF I P ops S R Q rest (k+1) F (a.put o.dst (Xj (Xa p)))):WLaxF I P ops S R Q (o :: rest) k F a:=laxF_val hw hS (fun _ _ _=>run_nilc x p ho hx) h
theorem laxF_nil (h:∀w,I w->F w->Q a w):WLaxF I P ops S R Q [] k F a:=⟨fun _=>h⟩
end
section
variable{I:Xn->Prop} {P:Program} {ops:Array Oper} {S:Nat->Option (Xq->Prop)} {Q:Act->Xn->Prop}
variable(I P ops S Q)in
structure WLaxC (l:List Oper) (k:Nat) (F:Nat->Xn->Prop) (a:Act):Prop where
 out:(∀i w w',Grew w w'->F i w->F i w')->WLaxF I P ops S (fun _=>Xd) Q l k (fun w=>∀i,F i w) a
theorem wp_lax_tailC {id:Nat} {Q:Exit->Act->Xn->Prop} {a:Act} {w:Xn} {L l r:List Oper} (T:Nat) (S:List (Nat ×(Xq->Prop))) (hI:I w.drew) (hm:P.follows .mixedOrders=Xc) (hB:laxTB L.toArray T=Xc) (hl:L.take T=l) (hr:L.drop T=r) (hT:T<=L.length)
  (hS:∀x∈S,∃v,x.2 v) (hch:((S.map (·.1)).all fun i=>(S.map (·.1)).all fun k=>!decide (i<k) || anc L.toArray 9 i k)=Xc)
  (h:WLaxC I P L.toArray (fun k=>S.lookup k) (fun a w=>wpList P L.toArray Q r a w) l 0 (fun _ _=>True) a):(Code.region id L.toArray Xc).wp P Q a w:=
 wp_lax_tailF T S [] _ hI (fun _=>trivial) hm hB hl hr hT hS (by simpa using hch) rfl (h.out fun _ _ _ _ h=>h)
variable{o:Oper} {rest:List Oper} {k:Nat} {F:Nat->Xn->Prop} {a:Act}
theorem laxC_quiet (ht:tame o=Xc) (hw:Xs o (yielded ops a.tmps)=Xc) (hS:S k=Xb)
  (h:∀K:Act->Prop,(∀a,WLaxC I P ops S Q rest (k+1) F a->K a)->o.quiet P a (fun w'=>∃x:HoldI I,w'=x.world) K):WLaxC I P ops S Q (o :: rest) k F a:=⟨fun hF=>by
 obtain⟨v,h1,h2⟩:=quiet_run ht (h _ fun _ h=>h)
 exact laxF_val hw hS (fun w hw _=>h1 w ⟨⟨w,hw⟩,rfl⟩) (h2.out hF)⟩
theorem laxC_spec {s:Xq->Prop} (hw:Xs o (yielded ops a.tmps)=Xc) (hS:S k=Xa s) (p:Xq->Xn->Prop) (hp:∀v w w',Grew w w'->p v w->p v w')
  (h:∀w,I w->(∀m,anc ops 9 m k=Xc->F m w)->Does P o a w fun v w'=>I w'/\Grew w w'/\s v/\p v w')
  (hn:∀v,s v->WLaxC I P ops S Q rest (k+1) (fset F k (p v)) (a.put o.dst v)):WLaxC I P ops S Q (o :: rest) k F a:=⟨fun hF=>laxF_spec hw hS (fun v w=>∀i,fset F k (p v) i w) (fun w h1 h2=>(h w h1 fun m _=>h2 m).mono fun v w' ⟨k1,k2,k3,k4⟩=>⟨k1,k3,fun i=>by
 unfold fset
 split
 ·exact k4
 ·exact hF i w w' k2 (h2 i)⟩) fun v hv=>(hn v hv).out fun i w w' hg=>by
 unfold fset
 split
 ·exact hp v w w' hg
 exact hF i w w' hg⟩
theorem laxC_nil (h:∀w,I w->(∀i,F i w)->Q a w):WLaxC I P ops S Q [] k F a:=⟨fun _=>laxF_nil h⟩
end
structure OwnM (base:Nat) (w:Xn) (V:MaV) (m:Ma):Prop where
 fs:OwnRow frmE base w (O V.f.a V.f.n V.f.c) m.fs
 sl:OwnRow slE base w (O V.s.a V.s.n V.s.c) m.sl
 sb:OwnPages base w (O V.sb.a V.sb.n V.sb.c) m.sb
 sq:OwnPuts base w (O V.sq.a V.sq.n V.sq.c) m.sq
 db:OwnPages base w (O V.db.a V.db.n V.db.c) m.db
 dq:OwnPuts base w (O V.dq.a V.dq.n V.dq.c) m.dq
 fl:∃lo,OwnFiles lo w (O V.fl.a V.fl.n V.fl.c) m.fl/\base<=lo/\∀g,(O V.s.a V.s.n V.s.c).ownBlock=Xa g->g<lo
 ca:OwnRow cchE base w (O V.ca.a V.ca.n V.ca.c) m.ca
 sp:OwnSps base w (O V.sp.a V.sp.n V.sp.c) m.sp
 ap:∀g,(O V.sb.a V.sb.n V.sb.c).ownBlock=Xa g->(O V.db.a V.db.n V.db.c).ownBlock≠Xa g
theorem FilesS.now0 {B0 B1:Nat} {w:Xn} {v:Xq} {fs:List Fl} (h:FilesS B0 B1 w v fs):FilesAt w v fs:=by
 obtain⟨hc,xs,k1,k2,k3⟩:=h;exact⟨hc,xs,k1.now.s0,k2,fun i x f hx hf=>⟨(k3 i x f hx hf).1,(k3 i x f hx hf).2.now.s0⟩⟩
theorem OwnM.grew {base:Nat} {w w':Xn} {V:MaV} {m:Ma} (h:OwnM base w V m) (k:Grew w w'):OwnM base w' V m:=by
 obtain⟨lo,hf,h1,h2⟩:=h.fl;exact⟨h.fs.grew k,h.sl.grew k,h.sb.grew k,h.sq.grew k,h.db.grew k,h.dq.grew k,⟨lo,hf.grew k,h1,h2⟩,h.ca.grew k,h.sp.grew k,h.ap⟩
theorem pages_lt {base:Nat} {w:Xn} {v:Xq} {l:List (List Int)} (h:OwnPages base w v l):∀g,v.ownBlock=Xa g->base<=g/\g<w.heap.size:=h.1.lt
theorem ownsRow_low {w w':Xn} {base size n g:Nat} {e:TypeId} {v:Xq} {xs:List Xq} (h:w.ownsRow base e size v n xs) (hg:w.grownBy w' (Xa g)) (hlt:g<base):w'.ownsRow base e size v n xs:=by
 refine⟨h.1,?_⟩
 rcases h.2 with h1 | ⟨b,cap,cur,rfl,h2,h3,h4⟩
 ·exact .inl h1
 exact .inr ⟨b,cap,cur,rfl,h2,by rw[hg.block b (aS.1 h3).1 (fun e=>by cases e;omega)];exact h3,h4⟩
theorem OwnRow.low {α:Type} {E:Elt α} {base g:Nat} {w w':Xn} {v:Xq} {l:List α} (h:OwnRow E base w v l) (hg:w.grownBy w' (Xa g)) (hlt:g<base):OwnRow E base w' v l:=⟨ownsRow_low h.1 hg hlt,h.2⟩
theorem OwnSp.low {lo hi g:Nat} {w w':Xn} {x:SpV} {s:Sp} (h:OwnSp lo hi w x s) (hg:w.grownBy w' (Xa g)) (hlt:g<lo):OwnSp lo hi w' x s:=
 ⟨h.live,h.ar.low hg hlt,⟨h.tb.len,h.tb.tlen,fun i v y hv hy=>(h.tb.row i v y hv hy).low hg hlt,h.tb.two⟩,h.arh,h.tbh⟩
theorem OwnM.below {base base' g:Nat} {w w':Xn} {V:MaV} {m:Ma} (h:OwnM base w V m) (hg:w.grownBy w' (Xa g)) (hlt:g<base) (hb:base'<=base):OwnM base' w' V m:=by
 obtain⟨lo,⟨ys,f1,f2,f3,f4⟩,l1,l2⟩:=h.fl;obtain⟨xs,B,s1,s2,s3,s4,s5⟩:=h.sp;refine⟨(h.fs.low hg hlt).base hb,(h.sl.low hg hlt).base hb,⟨ownsRow_base (ownsRow_low h.sb.1 hg hlt) hb,h.sb.2⟩,⟨ownsRow_base (ownsRow_low h.sq.1 hg hlt) hb,h.sq.2⟩,⟨ownsRow_base (ownsRow_low h.db.1 hg hlt) hb,h.db.2⟩,⟨ownsRow_base (ownsRow_low h.dq.1 hg hlt) hb,h.dq.2⟩,⟨lo,⟨ys,f1.low hg (by omega),f2,fun i x f hx hf=>⟨(f3 i x f hx hf).1,(f3 i x f hx hf).2.low hg (by omega)⟩,f4⟩,by omega,l2⟩,(h.ca.low hg hlt).base hb,⟨xs,B,(s1.low hg hlt).base hb,s2,by omega,s4,fun i x s hx hs=>(s5 i x s hx hs).low hg ?_⟩,h.ap⟩
 have:=mono_le s4 (nZ i);omega
theorem ownM_any (V:MaV) (m:Ma) (w:Xn) (hm:MachAt w V m):
  Xp Tryz.prog 23 #[Xi #[O V.f.a V.f.n V.f.c,Xe Xf m.hand,O V.s.a V.s.n V.s.c,O V.sb.a V.sb.n V.sb.c,O V.sq.a V.sq.n V.sq.c,O V.db.a V.db.n V.db.c,O V.dq.a V.dq.n V.dq.c,O V.fl.a V.fl.n V.fl.c,Xe Xf m.cnt,O V.ca.a V.ca.n V.ca.c,O V.sp.a V.sp.n V.sp.c]] w fun e w'=>∃V':MaV,e= Xl (Xi #[O V'.f.a V'.f.n V'.f.c,Xe Xf m.hand,O V'.s.a V'.s.n V'.s.c,O V'.sb.a V'.sb.n V'.sb.c,O V'.sq.a V'.sq.n V'.sq.c,O V'.db.a V'.db.n V'.db.c,O V'.dq.a V'.dq.n V'.dq.c,O V'.fl.a V'.fl.n V'.fl.c,Xe Xf m.cnt,O V'.ca.a V'.ca.n V'.ca.c,O V'.sp.a V'.sp.n V'.sp.c])/\OwnM w.heap.size w' V' m/\Grew w w':=by
 obtain⟨n1,n2,-⟩:=hm.ns;have HM:Xo (MachAt w V m):=hm;have HC1:Xo (∀W,Grew w W->Xp Tryz.prog 51 #[Xi #[O V.f.a V.f.n V.f.c,Xe Xf m.hand]] W fun e w'=>∃b,e= Xl (Xi #[b,Xe Xf m.hand])/\OwnRow frmE W.heap.size w' b m.fs/\Grew W w'):=show∀W,_ from fun W hW=>by
  have h:=(hm.grew hW).fs;rw[n1]at h⊢;exact ownMem_any _ _ m.fs m.hand W h
 have HC2:Xo (∀W,Grew w W->Xp Tryz.prog 52 #[O V.s.a V.s.n V.s.c] W fun e w'=>∃v',e= Xl v'/\OwnRow slE W.heap.size w' v' m.sl/\Grew W w'):=show∀W,_ from fun W hW=>cloneS_any _ m.sl W (hm.grew hW).sl
 have HC3:Xo (∀W,Grew w W->Xp Tryz.prog 53 #[Xi #[O V.sb.a V.sb.n V.sb.c,O V.sq.a V.sq.n V.sq.c]] W fun e w'=>∃d',e= Xl d'/\OwnDisk W.heap.size w' d' m.sb m.sq/\Grew W w'):=show∀W,_ from fun W hW=>own_any _ m.sb m.sq W ⟨_,_,rfl,(hm.grew hW).sb,(hm.grew hW).sq⟩
 have HC4:Xo (∀W,Grew w W->Xp Tryz.prog 53 #[Xi #[O V.db.a V.db.n V.db.c,O V.dq.a V.dq.n V.dq.c]] W fun e w'=>∃d',e= Xl d'/\OwnDisk W.heap.size w' d' m.db m.dq/\Grew W w'):=show∀W,_ from fun W hW=>own_any _ m.db m.dq W ⟨_,_,rfl,(hm.grew hW).db,(hm.grew hW).dq⟩
 have HC5:Xo (∀W,Grew w W->Xp Tryz.prog 54 #[Xi #[O V.fl.a V.fl.n V.fl.c,Xe Xf m.cnt]] W fun e w'=>∃b,e= Xl (Xi #[b,Xe Xf m.cnt])/\OwnFiles (W.heap.size+2) w' b m.fl/\Grew W w'/\W.heap.size+2<=w'.heap.size):=show∀W,_ from fun W hW=>ownSt_any _ m.fl m.cnt W (hm.grew hW).fl
 have HC6:Xo (∀W,Grew w W->Xp Tryz.prog 55 #[O V.ca.a V.ca.n V.ca.c] W fun e w'=>∃v',e= Xl v'/\OwnRow cchE W.heap.size w' v' m.ca/\Grew W w'):=show∀W,_ from fun W hW=>cloneCa_any _ m.ca W (hm.grew hW).ca
 have HC7:Xo (∀W,Grew w W->Xp Tryz.prog 56 #[O V.sp.a V.sp.n V.sp.c] W fun e w'=>∃v',e= Xl v'/\OwnSps W.heap.size w' v' m.sp/\Grew W w'):=show∀W,_ from fun W hW=>ownSpaces_any _ m.sp W (hm.grew hW).sp
 clear hm n1 n2;obtain⟨W0,hW0⟩:∃W0,(w.alloc (Xk #[O V.f.a V.f.n V.f.c,Xe Xf m.hand,O V.s.a V.s.n V.s.c,O V.sb.a V.sb.n V.sb.c,O V.sq.a V.sq.n V.sq.c,O V.db.a V.db.n V.db.c,O V.dq.a V.dq.n V.dq.c,O V.fl.a V.fl.n V.fl.c,Xe Xf m.cnt,O V.ca.a V.ca.n V.ca.c,O V.sp.a V.sp.n V.sp.c] 42)).alloc (Xk #[O Xb 0 0,Xe Xf 0,O Xb 0 0,O Xb 0 0,O Xb 0 0,O Xb 0 0,O Xb 0 0,O Xb 0 0,Xe Xf 0,O Xb 0 0,O Xb 0 0] 42)=W0:=⟨_,rfl⟩;have HG0:=gD2 hW0
 have X0:=x2a hW0
 have Y0:=x2b hW0
 have HS0:Xo (W0.heap.size=(w.heap.size+1+1)):=show _=_ by rw[<-hW0];simp
 have HW0:Xo (_=W0):=hW0;clear hW0
 go_enter Tryz.func23,Tryz.ntmps23
 go_upto_region 1 with fail;rw[HW0.out];obtain⟨I,hI⟩:∃I:Xn->Prop,I=fun u=>Grew W0 u:=⟨_,rfl⟩
 have HI:Xo (∀u,I u↔Grew W0 u):=show∀u,_ from fun u=>by rw[hI]
 clear hI;have hI0:I W0.drew:=(HI.out _).2 (gW _)
 have hx0:=X0.out.h HI.out 0 rfl
 have hx1:=X0.out.h HI.out 1 rfl
 have hx2:=X0.out.h HI.out 2 rfl
 have hx3:=X0.out.h HI.out 3 rfl
 have hx4:=X0.out.h HI.out 4 rfl
 have hx5:=X0.out.h HI.out 5 rfl
 have hx6:=X0.out.h HI.out 6 rfl
 have hx7:=X0.out.h HI.out 7 rfl
 have hx8:=X0.out.h HI.out 8 rfl
 have hx9:=X0.out.h HI.out 9 rfl
 have hx10:=X0.out.h HI.out 10 rfl
 have hne:Nonempty (HoldI I):=⟨⟨_,hI0⟩⟩;have HSZ:Xo (∀u,I u->(w.heap.size+1+1)<=u.heap.size):=show∀u,_ from fun u hu=>by rw[<-HS0.out];exact bS ((HI.out _).1 hu)
 refine wp_lax_tailC (I:=I) 22 [(2,fun v=>∃s:Sli,v= Xi #[O s.a s.n s.c,Xe Xf m.hand]),(5,fun v=>∃s:Sli,v= O s.a s.n s.c),(8,fun v=>∃b q:Sli,v= Xi #[O b.a b.n b.c,O q.a q.n q.c]),(11,fun v=>∃b q:Sli,v= Xi #[O b.a b.n b.c,O q.a q.n q.c]),(14,fun v=>∃s:Sli,v= Xi #[O s.a s.n s.c,Xe Xf m.cnt]),(17,fun v=>∃s:Sli,v= O s.a s.n s.c),(20,fun v=>∃s:Sli,v= O s.a s.n s.c)] hI0 mixed (by kernel_rfl) rfl rfl (by decide) ?hS (by kernel_rfl) ?_
 case hS=>
  intro x hx;simp only[mC,nM,or_false]at hx
  rcases hx with rfl | rfl | rfl | rfl | rfl | rfl | rfl
  ·exact⟨_,sli0,rfl⟩
  ·exact⟨_,sli0,rfl⟩
  ·exact⟨_,sli0,sli0,rfl⟩
  ·exact⟨_,sli0,sli0,rfl⟩
  ·exact⟨_,sli0,rfl⟩
  ·exact⟨_,sli0,rfl⟩
  exact⟨_,sli0,rfl⟩
 simp only[List.take,List.drop];iterate 2 (refine laxC_quiet rfl rfl rfl (fun K hK=>?_);go_big_quiet_op;refine hK _ ?_;clear hK K)
 refine laxC_spec rfl rfl (fun v w'=>∃s:Sli,v= Xi #[O s.a s.n s.c,Xe Xf m.hand]/\OwnRow frmE (w.heap.size+1+1) w' (O s.a s.n s.c) m.fs) (fun v u u' hu h=>by obtain⟨s,h1,h2⟩:=h;exact⟨s,h1,h2.grew hu⟩) (fun w' hI' hF=>?_) (fun v1 hv=>?_)
 ·have hg':Grew w w':=HG0.out.trans ((HI.out _).1 hI');have hsz:=HSZ.out w' hI';refine Does.call [Xi #[O V.f.a V.f.n V.f.c,Xe Xf m.hand]] rfl Tryz.func51 rfl rfl rfl ?_;refine(HC1.out w' hg').mono ?_;rintro e w'' ⟨b,rfl,ow,hg2⟩;obtain⟨a2,c2,rfl⟩:=ow.form;exact⟨_,rfl,(HI.out _).2 (((HI.out _).1 hI').trans hg2),hg2,⟨⟨a2,_,c2⟩,rfl⟩,⟨a2,_,c2⟩,rfl,ow.base hsz⟩
 obtain⟨sf,rfl⟩:=hv;simp only[Xt,sB,sS,sZ];iterate 2 (refine laxC_quiet rfl rfl rfl (fun K hK=>?_);go_big_quiet_op;refine hK _ ?_;clear hK K)
 refine laxC_spec rfl rfl (fun v w'=>OwnRow slE (w.heap.size+1+1) w' v m.sl) (fun v u u' hu h=>OwnRow.grew h hu) (fun w' hI' hF=>?_) (fun v1 hv=>?_)
 ·have hg':Grew w w':=HG0.out.trans ((HI.out _).1 hI');have hsz:=HSZ.out w' hI';refine Does.call [O V.s.a V.s.n V.s.c] rfl Tryz.func52 rfl rfl rfl ?_;refine(HC2.out w' hg').mono ?_;rintro e w'' ⟨b,rfl,ow,hg2⟩;obtain⟨a2,c2,rfl⟩:=ow.form;exact⟨_,rfl,(HI.out _).2 (((HI.out _).1 hI').trans hg2),hg2,⟨⟨a2,_,c2⟩,rfl⟩,ow.base hsz⟩
 obtain⟨ss,rfl⟩:=hv;simp only[Xt,sB,sS,sZ];iterate 2 (refine laxC_quiet rfl rfl rfl (fun K hK=>?_);go_big_quiet_op;refine hK _ ?_;clear hK K)
 refine laxC_spec rfl rfl (fun v w'=>∃b q:Sli,v= Xi #[O b.a b.n b.c,O q.a q.n q.c]/\OwnPages (w.heap.size+1+1) w' (O b.a b.n b.c) m.sb/\OwnPuts (w.heap.size+1+1) w' (O q.a q.n q.c) m.sq) (fun v u u' hu h=>by obtain⟨b,q,h1,h2,h3⟩:=h;exact⟨b,q,h1,h2.grew hu,h3.grew hu⟩) (fun w' hI' hF=>?_) (fun v1 hv=>?_)
 ·have hg':Grew w w':=HG0.out.trans ((HI.out _).1 hI');have hsz:=HSZ.out w' hI';refine Does.call [Xi #[O V.sb.a V.sb.n V.sb.c,O V.sq.a V.sq.n V.sq.c]] rfl Tryz.func53 rfl rfl rfl ?_;refine(HC3.out w' hg').mono ?_;rintro e w'' ⟨d,rfl,⟨b,q,rfl,ob,oq⟩,hg2⟩;obtain⟨a2,n2,c2,rfl⟩:=ob.slice;obtain⟨a3,n3,c3,rfl⟩:=oq.slice;exact⟨_,rfl,(HI.out _).2 (((HI.out _).1 hI').trans hg2),hg2,⟨⟨a2,n2,c2⟩,⟨a3,n3,c3⟩,rfl⟩,⟨a2,n2,c2⟩,⟨a3,n3,c3⟩,rfl,ob.base hsz,oq.base hsz⟩
 obtain⟨sb,sq,rfl⟩:=hv;simp only[Xt,sB,sS,sZ];iterate 2 (refine laxC_quiet rfl rfl rfl (fun K hK=>?_);go_big_quiet_op;refine hK _ ?_;clear hK K)
 refine laxC_spec rfl rfl (fun v w'=>∃b q:Sli,v= Xi #[O b.a b.n b.c,O q.a q.n q.c]/\OwnPages (w.heap.size+1+1) w' (O b.a b.n b.c) m.db/\OwnPuts (w.heap.size+1+1) w' (O q.a q.n q.c) m.dq/\∀g,(O sb.a sb.n sb.c).ownBlock=Xa g->(O b.a b.n b.c).ownBlock≠Xa g) (fun v u u' hu h=>by obtain⟨b,q,h1,h2,h3,h4⟩:=h;exact⟨b,q,h1,h2.grew hu,h3.grew hu,h4⟩) (fun w' hI' hF=>?_) (fun v1 hv=>?_)
 ·have hg':Grew w w':=HG0.out.trans ((HI.out _).1 hI');have hsz:=HSZ.out w' hI';refine Does.call [Xi #[O V.db.a V.db.n V.db.c,O V.dq.a V.dq.n V.dq.c]] rfl Tryz.func53 rfl rfl rfl ?_;refine(HC4.out w' hg').mono ?_;rintro e w'' ⟨d,rfl,⟨b,q,rfl,ob,oq⟩,hg2⟩;obtain⟨a2,n2,c2,rfl⟩:=ob.slice;obtain⟨a3,n3,c3,rfl⟩:=oq.slice;obtain⟨b8,q8,e8,o8,_⟩:∃b q:Sli,(Value.agg #[O sb.a sb.n sb.c,O sq.a sq.n sq.c])= Xi #[O b.a b.n b.c,O q.a q.n q.c]/\OwnPages (w.heap.size+1+1) w' (O b.a b.n b.c) m.sb/\OwnPuts (w.heap.size+1+1) w' (O q.a q.n q.c) m.sq:=hF 8 (by kernel_rfl)
  refine⟨_,rfl,(HI.out _).2 (((HI.out _).1 hI').trans hg2),hg2,⟨⟨a2,n2,c2⟩,⟨a3,n3,c3⟩,rfl⟩,⟨a2,n2,c2⟩,⟨a3,n3,c3⟩,rfl,ob.base hsz,oq.base hsz,fun g h1 h2=>?_⟩
  simp only[Value.agg.injEq,Array.mk.injEq,List.cons.injEq]at e8;rw[e8.1]at h1;have q1:=(pages_lt o8 g h1).2;have q2:=(pages_lt ob g h2).1;omega
 obtain⟨db,dq,rfl⟩:=hv;simp only[Xt,sB,sS,sZ];iterate 2 (refine laxC_quiet rfl rfl rfl (fun K hK=>?_);go_big_quiet_op;refine hK _ ?_;clear hK K)
 refine laxC_spec rfl rfl (fun v w'=>∃s:Sli,v= Xi #[O s.a s.n s.c,Xe Xf m.cnt]/\∃lo,OwnFiles lo w' (O s.a s.n s.c) m.fl/\(w.heap.size+1+1)<=lo/\∀g,(O ss.a ss.n ss.c).ownBlock=Xa g->g<lo) (fun v u u' hu h=>by obtain⟨s,h1,lo,h2,h3,h4⟩:=h;exact⟨s,h1,lo,h2.grew hu,h3,h4⟩) (fun w' hI' hF=>?_) (fun v1 hv=>?_)
 ·have hg':Grew w w':=HG0.out.trans ((HI.out _).1 hI');have hsz:=HSZ.out w' hI';refine Does.call [Xi #[O V.fl.a V.fl.n V.fl.c,Xe Xf m.cnt]] rfl Tryz.func54 rfl rfl rfl ?_;refine(HC5.out w' hg').mono ?_;rintro e w'' ⟨b,rfl,of,hg2,_⟩;have hof:=of;obtain⟨ys,oy,_⟩:=of;obtain⟨a2,c2,rfl⟩:=oy.form;have o5:OwnRow slE (w.heap.size+1+1) w' (O ss.a ss.n ss.c) m.sl:=hF 5 (by kernel_rfl)
  exact⟨_,rfl,(HI.out _).2 (((HI.out _).1 hI').trans hg2),hg2,⟨⟨a2,_,c2⟩,rfl⟩,⟨a2,_,c2⟩,rfl,w'.heap.size+2,hof,by omega,fun g h1=>by have:=(o5.lt g h1).2;omega⟩
 obtain⟨sl,rfl⟩:=hv;simp only[Xt,sB,sS,sZ];iterate 2 (refine laxC_quiet rfl rfl rfl (fun K hK=>?_);go_big_quiet_op;refine hK _ ?_;clear hK K)
 refine laxC_spec rfl rfl (fun v w'=>OwnRow cchE (w.heap.size+1+1) w' v m.ca) (fun v u u' hu h=>OwnRow.grew h hu) (fun w' hI' hF=>?_) (fun v1 hv=>?_)
 ·have hg':Grew w w':=HG0.out.trans ((HI.out _).1 hI');have hsz:=HSZ.out w' hI';refine Does.call [O V.ca.a V.ca.n V.ca.c] rfl Tryz.func55 rfl rfl rfl ?_;refine(HC6.out w' hg').mono ?_;rintro e w'' ⟨b,rfl,ow,hg2⟩;obtain⟨a2,c2,rfl⟩:=ow.form;exact⟨_,rfl,(HI.out _).2 (((HI.out _).1 hI').trans hg2),hg2,⟨⟨a2,_,c2⟩,rfl⟩,ow.base hsz⟩
 obtain⟨sc,rfl⟩:=hv;simp only[Xt,sB,sS,sZ];iterate 2 (refine laxC_quiet rfl rfl rfl (fun K hK=>?_);go_big_quiet_op;refine hK _ ?_;clear hK K)
 refine laxC_spec rfl rfl (fun v w'=>OwnSps (w.heap.size+1+1) w' v m.sp) (fun v u u' hu h=>OwnSps.grew h hu) (fun w' hI' hF=>?_) (fun v1 hv=>?_)
 ·have hg':Grew w w':=HG0.out.trans ((HI.out _).1 hI');have hsz:=HSZ.out w' hI';refine Does.call [O V.sp.a V.sp.n V.sp.c] rfl Tryz.func56 rfl rfl rfl ?_;refine(HC7.out w' hg').mono ?_;rintro e w'' ⟨b,rfl,os,hg2⟩;have hos:=os;obtain⟨ys,B,oy,_⟩:=os;obtain⟨a2,c2,rfl⟩:=oy.form;exact⟨_,rfl,(HI.out _).2 (((HI.out _).1 hI').trans hg2),hg2,⟨⟨a2,_,c2⟩,rfl⟩,hos.base hsz⟩
 obtain⟨sp,rfl⟩:=hv;simp only[Xt,sB,sS,sZ];iterate 1 (refine laxC_quiet rfl rfl rfl (fun K hK=>?_);go_big_quiet_op;refine hK _ ?_;clear hK K)
 refine laxC_nil fun W3 hI3 hF=>?_
 have hg3:=(HI.out _).1 hI3;have F2:∃s:Sli,(Value.agg #[O sf.a sf.n sf.c,Xe Xf m.hand])= Xi #[O s.a s.n s.c,Xe Xf m.hand]/\OwnRow frmE (w.heap.size+1+1) W3 (O s.a s.n s.c) m.fs:=hF 2;have F5:OwnRow slE (w.heap.size+1+1) W3 (O ss.a ss.n ss.c) m.sl:=hF 5;have F8:∃b q:Sli,(Value.agg #[O sb.a sb.n sb.c,O sq.a sq.n sq.c])= Xi #[O b.a b.n b.c,O q.a q.n q.c]/\OwnPages (w.heap.size+1+1) W3 (O b.a b.n b.c) m.sb/\OwnPuts (w.heap.size+1+1) W3 (O q.a q.n q.c) m.sq:=hF 8;have F11:∃b q:Sli,(Value.agg #[O db.a db.n db.c,O dq.a dq.n dq.c])= Xi #[O b.a b.n b.c,O q.a q.n q.c]/\OwnPages (w.heap.size+1+1) W3 (O b.a b.n b.c) m.db/\OwnPuts (w.heap.size+1+1) W3 (O q.a q.n q.c) m.dq/\∀g,(O sb.a sb.n sb.c).ownBlock=Xa g->(O b.a b.n b.c).ownBlock≠Xa g:=hF 11;have F14:∃s:Sli,(Value.agg #[O sl.a sl.n sl.c,Xe Xf m.cnt])= Xi #[O s.a s.n s.c,Xe Xf m.cnt]/\∃lo,OwnFiles lo W3 (O s.a s.n s.c) m.fl/\(w.heap.size+1+1)<=lo/\∀g,(O ss.a ss.n ss.c).ownBlock=Xa g->g<lo:=hF 14;have F17:OwnRow cchE (w.heap.size+1+1) W3 (O sc.a sc.n sc.c) m.ca:=hF 17;have F20:OwnSps (w.heap.size+1+1) W3 (O sp.a sp.n sp.c) m.sp:=hF 20;have HOM:Xo (OwnM (w.heap.size+1+1) W3 ⟨sf,ss,sb,sq,db,dq,sl,sc,sp⟩ m):=show OwnM _ _ _ _ by
  obtain⟨s2,e2,o2⟩:=F2;obtain⟨b8,q8,e8,o8,p8⟩:=F8;obtain⟨b11,q11,e11,o11,p11,a11⟩:=F11;obtain⟨s14,e14,lo,o14,l14,a14⟩:=F14;simp only[Value.agg.injEq,Array.mk.injEq,List.cons.injEq]at e2 e8 e11 e14;rw[<-e2.1]at o2;rw[<-e8.1]at o8;rw[<-e8.2.1]at p8;rw[<-e11.1]at o11 a11;rw[<-e11.2.1]at p11;rw[<-e14.1]at o14;exact⟨o2,F5,o8,p8,o11,p11,⟨lo,o14,l14,a14⟩,F17,F20,a11⟩
 have Y3:=dD (Y0.out.grew hg3);have HG3:=dD (HG0.out.trans hg3);clear F2 F5 F8 F11 F14 F17 F20 hF hI3 hg3 hx0 hx1 hx2 hx3 hx4 hx5 hx6 hx7 hx8 hx9 hx10 hne hI0
 go_wp2_with (refine wp_storeAll rfl 42 (.tmp 2) (.tmp 24) rfl (w.heap.size+1) rfl [O sf.a sf.n sf.c,Xe Xf m.hand,O ss.a ss.n ss.c,O sb.a sb.n sb.c,O sq.a sq.n sq.c,O db.a db.n db.c,O dq.a dq.n dq.c,O sl.a sl.n sl.c,Xe Xf m.cnt,O sc.a sc.n sc.c,O sp.a sp.n sp.c] rfl Y3.out rfl (by kernel_rfl) (fun v hv=>by
    simp only[mC,nM,or_false]at hv
    rcases hv with rfl | rfl | rfl | rfl | rfl | rfl | rfl | rfl | rfl | rfl | rfl <;> rfl) ?_)
 intro W4 hb4 hg4 sz4;have HG4:Xo (Grew w W4):=show Grew _ _ from grew_grown HG3.out hg4 (by omega)
 have HO4:Xo (OwnM w.heap.size W4 ⟨sf,ss,sb,sq,db,dq,sl,sc,sp⟩ m):=show OwnM _ _ _ _ from HOM.out.below hg4 (by omega) (by omega)
 go_wp2;refine bodyPost_ret (ret_cell rfl _ rfl hb4 Tryz.underlying42 rfl (by kernel_rfl)) rfl ⟨⟨sf,ss,sb,sq,db,dq,sl,sc,sp⟩,rfl,HO4.out,HG4.out⟩
def zeroM:List Xq:=[O Xb 0 0,Xe Xf 0,O Xb 0 0,O Xb 0 0,O Xb 0 0,O Xb 0 0,O Xb 0 0,O Xb 0 0,Xe Xf 0,O Xb 0 0,O Xb 0 0]
theorem Tryz.infoByte:(Tryz.prog.info? 5).map (fun i=>(i.zero,i.size,i.bytes))=Xa (Xa (Xe Xg 0),1,1):=by kernel_rfl
def byE:Elt Int where
 enc:=fun z=>[Xe Xg z]
 k:=1
 ty:=5
 st:=24
 bytes:=1
 zv:= Xe Xg 0
 zero:=0
 len:=fun _=>rfl
 one:=fun a u hu=>by
  simp only[mC,nM,or_false]at hu;rw[hu];rfl
 und:=Tryz.underlying24
 info:=Tryz.infoByte
 zok:=rfl
 few:=by decide
 pos:=by decide
def frH (q:Fr) (n:Int):Fr:=if q.r+n=0 then frF else{ q with r:=q.r+n }
def holdE (fs:List Fr) (h k n:Int):Int:=if memW fs h=0 then(if inB k fs.length && !((fs.getD k.toNat fr0).r == 0)then(if -(fs.getD k.toNat fr0).r<=n/\n<=1000 -(fs.getD k.toNat fr0).r then 0 else 3)else 5)else memW fs h
def holdF (fs:List Fr) (h k n:Int):List Fr:=if holdE fs h k n=0 then fs.set k.toNat (frH (fs.getD k.toNat fr0) n)else []
def holdH (fs:List Fr) (h k n:Int):Int:=if holdE fs h k n=0 then h else 0
theorem frsW_all:∀{fs:List Fr},frsW fs=0->∀q∈fs,frW q=0
 | [],_,_,hq=>by cases hq
 | a :: l,h,q,hq=>by
  unfold frsW at h
  by_cases h0:frW a=0
  ·rw[if_pos h0]at h
   rcases mC.1 hq with rfl | h1
   ·exact h0
   exact frsW_all h q h1
  rw[if_neg h0]at h;exact absurd h h0
theorem memW_zero {fs:List Fr} {h:Int} (hz:memW fs h=0):fs.length<=40/\(∀q∈fs,frW q=0)/\0<=h/\h<max (fs.length:Int) 1:=by
 unfold memW at hz
 by_cases h1:40<fs.length
 ·rw[if_pos h1]at hz;omega
 rw[if_neg h1]at hz
 by_cases h2:frsW fs=0
 ·rw[if_pos h2]at hz
  cases hb:inB h (max fs.length 1)with
  | false=>rw[hb]at hz;simp at hz
  | true=>
   unfold inB at hb
   simp at hb
   exact⟨by omega,frsW_all h2,by omega,by omega⟩
 rw[if_neg h2]at hz;exact absurd hz h2
theorem frW_zero {q:Fr} (h:frW q=0):0<=q.r/\q.r<=1000:=by
 unfold frW at h
 by_cases h1:(inB q.r 1001 && inB q.x 12)=Xd
 ·rw[if_pos h1]at h;omega
 have h2:inB q.r 1001=Xc:=by
  cases hb:inB q.r 1001 with
  | true=>rfl
  | false=>rw[hb]at h1;simp at h1
 unfold inB at h2
 simp at h2
 omega
theorem frOwnRow.frc {base:Nat} {w:Xn} {g n c:Nat} {fs:List Fr} (h:frOwnRow base w (O (Xa ⟨g,0,Xb⟩) n c) fs) {i:Nat} {q:Fr} (hq:fs[i]? =Xa q) (j:Nat) {u:Xq} (hu:(frv q)[j]? =Xa u):w.cell? ⟨g,i*13+j,Xb⟩=Xa u:=by
 obtain⟨a',c',he,hr⟩:=h.at.rows;obtain⟨ad,he2,hc⟩:=hr i q hq;cases he;cases he2;have:=hc w (Grew.refl _) j u hu;rw[add_add',Xx,zA]at this;exact this
def takeSE (s:List Int) (n:Int):Int:=if slW s=0 then(if 1<=n/\n<=1000 then(if s.findIdx isZ<s.length then 0 else 10)else 3)else slW s
def takeSL (s:List Int) (n:Int):List Int:=if takeSE s n=0 then s.set (s.findIdx isZ) n else []
def takeSI (s:List Int) (n:Int):Int:=if takeSE s n=0 then(s.findIdx isZ:Int)else 0
theorem takeS_no {s:List Int} {n z:Int} (h:takeSE s n=z) (hz:z≠0):takeSL s n=[]/\takeSI s n=0:=by
 have:takeSE s n≠0:=by rw[h];exact hz
 exact⟨if_neg this,if_neg this⟩
theorem takeS_cases (s:List Int) (m:Int):
  (slW s≠0/\takeSE s m=slW s/\takeSL s m=[]/\takeSI s m=0)\/(slW s=0/\¬(1<=m/\m<=1000)/\takeSE s m=3/\takeSL s m=[]/\takeSI s m=0)\/
  (slW s=0/\(1<=m/\m<=1000)/\¬s.findIdx isZ<s.length/\takeSE s m=10/\takeSL s m=[]/\takeSI s m=0)\/
  (slW s=0/\(1<=m/\m<=1000)/\s.findIdx isZ<s.length/\takeSE s m=0/\takeSL s m=s.set (s.findIdx isZ) m/\takeSI s m=(s.findIdx isZ:Int)):=by
 by_cases h1:slW s=0
 ·by_cases h2:1<=m/\m<=1000
  ·by_cases h3:s.findIdx isZ<s.length
   ·have h:takeSE s m=0:=by unfold takeSE;rw[if_pos h1,if_pos h2,if_pos h3]
    exact .inr (.inr (.inr ⟨h1,h2,h3,h,if_pos h,if_pos h⟩))
   have h:takeSE s m=10:=by unfold takeSE;rw[if_pos h1,if_pos h2,if_neg h3]
   exact .inr (.inr (.inl ⟨h1,h2,h3,h,takeS_no h (by decide)⟩))
  have h:takeSE s m=3:=by unfold takeSE;rw[if_pos h1,if_neg h2]
  exact .inr (.inl ⟨h1,h2,h,takeS_no h (by decide)⟩)
 have h:takeSE s m=slW s:=by unfold takeSE;rw[if_neg h1]
 exact .inl ⟨h1,h,takeS_no h h1⟩
theorem takeS_any (a:Option Addr) (c:Nat) (s:List Int) (m:Int) (w:Xn) (hv:RowAt slE w (O a s.length c) s):
  Xp Tryz.prog 240 #[O a s.length c,Xe Xf m] w fun e w'=>∃a' c',e= Xl (Xm #[.slice a' (takeSL s m).length c',Xe Xf (takeSI s m),Xe Xf (takeSE s m)])/\NewRow slE w.heap.size w' (.slice a' (takeSL s m).length c') (takeSL s m)/\Grew w w':=by
 have h1:=wrongS_any a c s w hv;have h2:∀W,Grew w W->Xp Tryz.prog 247 #[O a s.length c,Xe Xf 0] W fun e w'=>e= Xl (Xe Xf (idxS s))/\Grew W w':=fun W hW=>indexS_any _ s W (hv.grew hW)
 have h3:∀W,Grew w W->Xp Tryz.prog 52 #[O a s.length c] W fun e w'=>∃v',e= Xl v'/\OwnRow slE W.heap.size w' v' s/\Grew W w':=fun W hW=>cloneS_any _ s W (hv.grew hW)
 have hbig:=hv.short;obtain⟨n,HN⟩:∃n,Xo (s.length=n):=⟨_,rfl⟩;clear hv
 rcases takeS_cases s m with⟨hw,e1,e2,e3⟩ | ⟨hw,hm,e1,e2,e3⟩ | ⟨hw,hm,hi,e1,e2,e3⟩ | ⟨hw,hm,hi,e1,e2,e3⟩
 ·rw[e1,e2,e3];clear e1 e2 e3 h2 h3
  generalize slW s=z at h1 hw⊢
  have hzb:(z != 0)=Xc:=by simpa using hw
  rw[HN.out]at h1 hbig⊢
  go_enter Tryz.func240,Tryz.ntmps240
  go_wp2_with fail;refine h1.mono ?_;rintro e W1 ⟨rfl,g1⟩;have G1:Xo (Grew w W1):=g1;clear g1 h1 hw;go_wp2;refine bodyPost_ret (v:= Xm #[O Xb 0 0,Xe Xf 0,Xe Xf z]) (by simp[results,Tryz.results240,go_sem, *]) rfl ⟨Xb,0,rfl,NewRow.nil _ _ _,G1.out⟩
 ·rw[hw]at h1;rw[e1,e2,e3];clear e1 e2 e3 h2 h3 hw;rw[HN.out]at h1 hbig⊢
  by_cases hm1:m<1
  ·go_enter Tryz.func240,Tryz.ntmps240
   go_wp2_with fail;refine h1.mono ?_;rintro e W1 ⟨rfl,g1⟩;have G1:Xo (Grew w W1):=g1;clear g1 h1 hm;go_wp2;refine bodyPost_ret (v:= Xm #[O Xb 0 0,Xe Xf 0,Xe Xf 3]) (by simp[results,Tryz.results240,go_sem, *]) rfl ⟨Xb,0,rfl,NewRow.nil _ _ _,G1.out⟩
  have hm2:1000<m:=by omega
  go_enter Tryz.func240,Tryz.ntmps240
  go_wp2_with fail;refine h1.mono ?_;rintro e W1 ⟨rfl,g1⟩;have G1:Xo (Grew w W1):=g1;clear g1 h1 hm;go_wp2;refine bodyPost_ret (v:= Xm #[O Xb 0 0,Xe Xf 0,Xe Xf 3]) (by simp[results,Tryz.results240,go_sem, *]) rfl ⟨Xb,0,rfl,NewRow.nil _ _ _,G1.out⟩
 ·rw[hw]at h1;rw[show idxS s=-1 from if_neg hi]at h2
  rw[e1,e2,e3];clear e1 e2 e3 h3 hw hi;rw[HN.out]at h1 h2 hbig⊢;have hm1:¬m<1:=by omega
  have hm2:¬1000<m:=by omega
  clear hm
  go_enter Tryz.func240,Tryz.ntmps240
  go_wp2_with fail;refine h1.mono ?_;rintro e W1 ⟨rfl,g1⟩;have G1:Xo (Grew w W1):=g1;clear g1 h1;go_wp2_with fail;refine(h2 _ G1.out).mono ?_;rintro e W2 ⟨rfl,g2⟩;have G2:=dD (G1.out.trans g2);clear g2 h2;go_wp2;refine bodyPost_ret (v:= Xm #[O Xb 0 0,Xe Xf 0,Xe Xf 10]) (by simp[results,Tryz.results240,go_sem, *]) rfl ⟨Xb,0,rfl,NewRow.nil _ _ _,G2.out⟩
 rw[hw]at h1;rw[show idxS s=(s.findIdx isZ:Int)from if_pos hi]at h2
 rw[e1,e2,e3,List.length_set];clear e1 e2 e3 hw;obtain⟨i,HI⟩:∃i,Xo (s.findIdx isZ=i):=⟨_,rfl⟩;rw[HI.out]at hi h2⊢;rw[HN.out]at h1 h2 h3 hi hbig⊢;have hm1:¬m<1:=by omega
 have hm2:¬1000<m:=by omega
 have hiz:(i:Int)< (n:Int):=by omega
 clear hm
 go_enter Tryz.func240,Tryz.ntmps240
 go_wp2_with fail;refine h1.mono ?_;rintro e W1 ⟨rfl,g1⟩;have G1:Xo (Grew w W1):=g1;clear g1 h1;go_wp2_with fail;refine(h2 _ G1.out).mono ?_;rintro e W2 ⟨rfl,g2⟩;have G2:=dD (G1.out.trans g2);clear g2 h2;go_wp2_with fail;refine(h3 _ G2.out).mono ?_;rintro e W3 ⟨v',rfl,ow,g3⟩;obtain⟨g,cv,rfl⟩:=ow.formS (by rw[HN.out];omega)
 rw[HN.out]at ow⊢;have OW:Xo (OwnRow slE W2.heap.size W3 (O (Xa ⟨g,0,Xb⟩) n cv) s):=ow;have G3:Xo (Grew W2 W3):=g3;clear g3 h3 ow
 go_wp2_with (refine wpList_store_elt (E:=slE) rfl (.tmp 30) (.tmp 29) rfl W2.heap.size _ s OW.out g i rfl m (by rw[HN.out];exact hi) _ rfl (by simp[slE]) _ rfl rfl ?_)
 intro w4 ow4 gr4 _;have hg2:=(OW.out.lt g rfl).1;have OW4:Xo (OwnRow slE W2.heap.size w4 (O (Xa ⟨g,0,Xb⟩) n cv) (s.set i m)):=ow4;have G4:Xo (Grew W2 w4):=grew_grown G3.out gr4 hg2;clear ow4 gr4;go_wp2;refine bodyPost_ret (v:= Xm #[O (Xa ⟨g,0,Xb⟩) n cv,Xe Xf (i:Int),Xe Xf 0]) (by simp[results,Tryz.results240,go_sem, *]) rfl ⟨_,_,rfl,OW4.out.new.base (bS G2.out),G2.out.trans G4.out⟩
def atS (s:List Int) (k:Int):Int:=if 0<=k then s.getD k.toNat 0 else 0
def holdSE (s:List Int) (k m:Int):Int:=if slW s=0 then(if atS s k=0 then 5 else if 0<=atS s k+m/\atS s k+m<=1000 then 0 else 3)else slW s
def holdSL (s:List Int) (k m:Int):List Int:=if holdSE s k m=0 then s.set k.toNat (atS s k+m)else []
theorem slW_range {s:List Int} (h:slW s=0) {k:Nat} {q:Int} (hq:s[k]? =Xa q):0<=q/\q<=1000:=by
 have h2:s.any badS=Xd:=by
  cases hb:s.any badS with
  | false=>rfl
  | true=>
   unfold slW at h;rw[hb]at h
   split at h
   ·cases h
   cases h
 have h3:=List.any_eq_false.1 h2 q (mG hq)
 simp[badS]at h3
 omega
theorem holdS_cases (s:List Int) (k m:Int):
  (slW s≠0/\holdSE s k m=slW s/\holdSL s k m=[])\/
  (slW s=0/\(k<0\/(s.length:Int)<=k)/\holdSE s k m=5/\holdSL s k m=[])\/
  (slW s=0/\∃i:Nat,k=(i:Int)/\s[i]? =Xa 0/\holdSE s k m=5/\holdSL s k m=[])\/
  (slW s=0/\∃(i:Nat) (q:Int),k=(i:Int)/\s[i]? =Xa q/\q≠0/\0<=q/\q<=1000/\¬(0<=q+m/\q+m<=1000)/\holdSE s k m=3/\holdSL s k m=[])\/
  (slW s=0/\∃(i:Nat) (q:Int),k=(i:Int)/\s[i]? =Xa q/\q≠0/\0<=q/\q<=1000/\(0<=q+m/\q+m<=1000)/\holdSE s k m=0/\holdSL s k m=s.set i (q+m)):=by
 have no:∀z,holdSE s k m=z->z≠0->holdSL s k m=[]:=fun z h hz=>if_neg (by rw[h];exact hz)
 by_cases h1:slW s=0
 ·by_cases h2:k<0\/(s.length:Int)<=k
  ·have hat:atS s k=0:=by
    unfold atS
    split
    ·rw[gD,gN (by omega)]
     rfl
    rfl
   have h:holdSE s k m=5:=by unfold holdSE;rw[if_pos h1,if_pos hat]
   exact .inr (.inl ⟨h1,h2,h,no _ h (by decide)⟩)
  obtain⟨i,rfl⟩:∃i:Nat,k=(i:Int):=⟨k.toNat,by omega⟩
  have hil:i<s.length:=by omega
  obtain⟨q,hq⟩:∃q,s[i]? =Xa q:=⟨_,gE hil⟩;have hat:atS s (i:Int)=q:=by
   unfold atS;rw[if_pos (by omega),gD,tN,hq]
   rfl
  by_cases h0:q=0
  ·subst h0;have h:holdSE s i m=5:=by unfold holdSE;rw[if_pos h1,if_pos hat]
   exact .inr (.inr (.inl ⟨h1,i,rfl,hq,h,no _ h (by decide)⟩))
  have hr:=slW_range h1 hq
  by_cases h3:0<=q+m/\q+m<=1000
  ·have h:holdSE s i m=0:=by unfold holdSE;rw[if_pos h1,hat,if_neg h0,if_pos h3]
   exact .inr (.inr (.inr (.inr ⟨h1,i,q,rfl,hq,h0,hr.1,hr.2,h3,h,by unfold holdSL;rw[if_pos h,hat,tN]⟩)))
  have h:holdSE s i m=3:=by unfold holdSE;rw[if_pos h1,hat,if_neg h0,if_neg h3]
  exact .inr (.inr (.inr (.inl ⟨h1,i,q,rfl,hq,h0,hr.1,hr.2,h3,h,no _ h (by decide)⟩)))
 have h:holdSE s k m=slW s:=by unfold holdSE;rw[if_neg h1]
 exact .inl ⟨h1,h,no _ h h1⟩
theorem holdS_any (a:Option Addr) (c:Nat) (s:List Int) (k m:Int) (w:Xn) (hv:RowAt slE w (O a s.length c) s):
  Xp Tryz.prog 174 #[O a s.length c,Xe Xf k,Xe Xf m] w fun e w'=>∃a' c',e= Xl (Xm #[.slice a' (holdSL s k m).length c',Xe Xf (holdSE s k m)])/\NewRow slE w.heap.size w' (.slice a' (holdSL s k m).length c') (holdSL s k m)/\Grew w w':=by
 have h1:=wrongS_any a c s w hv;have h3:∀W,Grew w W->Xp Tryz.prog 52 #[O a s.length c] W fun e w'=>∃v',e= Xl v'/\OwnRow slE W.heap.size w' v' s/\Grew W w':=fun W hW=>cloneS_any _ s W (hv.grew hW)
 have hbig:=hv.short;obtain⟨a',c',heq,hrow⟩:=hv.sls;cases heq;have HR:Xo (SlRows w a s):=hrow;clear hrow hv;obtain⟨n,HN⟩:∃n,Xo (s.length=n):=⟨_,rfl⟩
 rcases holdS_cases s k m with⟨hw,e1,e2⟩ | ⟨hw,hk,e1,e2⟩ | ⟨hw,i,rfl,hq,e1,e2⟩ | ⟨hw,i,q,rfl,hq,h0,hr0,hr1,hno,e1,e2⟩ | ⟨hw,i,q,rfl,hq,h0,hr0,hr1,hyes,e1,e2⟩
 ·rw[e1,e2];clear e1 e2 h3
  generalize slW s=z at h1 hw⊢
  have hzb:(z != 0)=Xc:=by simpa using hw
  rw[HN.out]at h1 hbig⊢
  go_enter Tryz.func174,Tryz.ntmps174
  go_wp2_with fail;refine h1.mono ?_;rintro e W1 ⟨rfl,g1⟩;have G1:Xo (Grew w W1):=g1;clear g1 h1 hw;go_wp2;refine bodyPost_ret (v:= Xm #[O Xb 0 0,Xe Xf z]) (by simp[results,Tryz.results174,go_sem, *]) rfl ⟨Xb,0,rfl,NewRow.nil _ _ _,G1.out⟩
 ·rw[hw]at h1;rw[e1,e2];clear e1 e2 h3 hw;rw[HN.out]at h1 hbig hk⊢
  by_cases hk0:k<0
  ·go_enter Tryz.func174,Tryz.ntmps174
   go_wp2_with fail;refine h1.mono ?_;rintro e W1 ⟨rfl,g1⟩;have G1:Xo (Grew w W1):=g1;clear g1 h1 hk;go_wp2;refine bodyPost_ret (v:= Xm #[O Xb 0 0,Xe Xf 5]) (by simp[results,Tryz.results174,go_sem, *]) rfl ⟨Xb,0,rfl,NewRow.nil _ _ _,G1.out⟩
  have hkn:(n:Int)<=k:=by omega
  go_enter Tryz.func174,Tryz.ntmps174
  go_wp2_with fail;refine h1.mono ?_;rintro e W1 ⟨rfl,g1⟩;have G1:Xo (Grew w W1):=g1;clear g1 h1 hk;go_wp2;refine bodyPost_ret (v:= Xm #[O Xb 0 0,Xe Xf 5]) (by simp[results,Tryz.results174,go_sem, *]) rfl ⟨Xb,0,rfl,NewRow.nil _ _ _,G1.out⟩
 ·rw[hw]at h1;rw[e1,e2];clear e1 e2 h3 hw;have hil:i<n:=by rw[<-HN.out];exact(gS.1 hq).1
  rw[HN.out]at h1 hbig⊢;have hilz:¬(n:Int)<=(i:Int):=by omega
  have hi0:¬(i:Int)<0:=by omega
  have hilz':(i:Int)< (n:Int):=by omega
  obtain⟨ad,rfl,hl⟩:=HR.out i 0 hq;clear hq
  go_enter Tryz.func174,Tryz.ntmps174
  go_wp2_with fail;refine h1.mono ?_;rintro e W1 ⟨rfl,g1⟩;have G1:Xo (Grew w W1):=g1;have d0:=hl W1 g1;clear g1 h1 hl;go_wp2;refine bodyPost_ret (v:= Xm #[O Xb 0 0,Xe Xf 5]) (by simp[results,Tryz.results174,go_sem, *]) rfl ⟨Xb,0,rfl,NewRow.nil _ _ _,G1.out⟩
 ·rw[hw]at h1;rw[e1,e2];clear e1 e2 h3 hw;have hil:i<n:=by rw[<-HN.out];exact(gS.1 hq).1
  rw[HN.out]at h1 hbig⊢;have hilz:¬(n:Int)<=(i:Int):=by omega
  have hi0:¬(i:Int)<0:=by omega
  have hilz':(i:Int)< (n:Int):=by omega
  obtain⟨ad,rfl,hl⟩:=HR.out i q hq;have hqb:(q == 0)=Xd:=by simpa using h0
  by_cases hlo:m< -q
  ·clear hq h0 hno
   go_enter Tryz.func174,Tryz.ntmps174
   go_wp2_with fail;refine h1.mono ?_;rintro e W1 ⟨rfl,g1⟩;have G1:Xo (Grew w W1):=g1;have d0:=hl W1 g1;clear g1 h1 hl;go_wp2;refine bodyPost_ret (v:= Xm #[O Xb 0 0,Xe Xf 3]) (by simp[results,Tryz.results174,go_sem, *]) rfl ⟨Xb,0,rfl,NewRow.nil _ _ _,G1.out⟩
  have hhi:1000 - q<m:=by omega
  clear hq h0 hno
  go_enter Tryz.func174,Tryz.ntmps174
  go_wp2_with fail;refine h1.mono ?_;rintro e W1 ⟨rfl,g1⟩;have G1:Xo (Grew w W1):=g1;have d0:=hl W1 g1;clear g1 h1 hl;go_wp2;refine bodyPost_ret (v:= Xm #[O Xb 0 0,Xe Xf 3]) (by simp[results,Tryz.results174,go_sem, *]) rfl ⟨Xb,0,rfl,NewRow.nil _ _ _,G1.out⟩
 rw[hw]at h1;rw[e1,e2,List.length_set];clear e1 e2 hw;have hil:i<n:=by rw[<-HN.out];exact(gS.1 hq).1
 rw[HN.out]at h1 h3 hbig⊢;have hilz:¬(n:Int)<=(i:Int):=by omega
 have hi0:¬(i:Int)<0:=by omega
 have hilz':(i:Int)< (n:Int):=by omega
 obtain⟨ad,rfl,hl⟩:=HR.out i q hq;have hqb:(q == 0)=Xd:=by simpa using h0
 have hlo:¬m< -q:=by omega
 have hhi:¬1000 - q<m:=by omega
 have HQ:Xo (s[i]? =Xa q):=hq;clear hq h0
 go_enter Tryz.func174,Tryz.ntmps174
 go_wp2_with fail;refine h1.mono ?_;rintro e W1 ⟨rfl,g1⟩;have G1:Xo (Grew w W1):=g1;have d0:=hl W1 g1;clear g1 h1 hl;go_wp2_with fail;refine(h3 _ G1.out).mono ?_;rintro e W3 ⟨v',rfl,ow,g3⟩;obtain⟨g,cv,rfl⟩:=ow.formS (by rw[HN.out];omega)
 rw[HN.out]at ow⊢;have OW:Xo (OwnRow slE W1.heap.size W3 (O (Xa ⟨g,0,Xb⟩) n cv) s):=ow;have G3:Xo (Grew W1 W3):=g3;have d1:W3.cell? ⟨g,i,Xb⟩=Xa (Xe Xf q):=by
  obtain⟨x,y,he,hr⟩:=ow.at.sls;cases he;obtain⟨x',he,hr⟩:=hr i q HQ.out;cases he;have:=hr W3 (Grew.refl _);rw[Xx,zA]at this;exact this
 clear g3 h3 ow d0
 go_wp2_with (refine wpList_store_elt (E:=slE) rfl (.tmp 54) (.tmp 53) rfl W1.heap.size _ s OW.out g i rfl (q+m) (by rw[HN.out];exact hil) _ rfl (by simp[slE]) _ rfl rfl ?_)
 intro w4 ow4 gr4 _;have hg2:=(OW.out.lt g rfl).1;have OW4:Xo (OwnRow slE W1.heap.size w4 (O (Xa ⟨g,0,Xb⟩) n cv) (s.set i (q+m))):=ow4;have G4:Xo (Grew W1 w4):=grew_grown G3.out gr4 hg2;clear ow4 gr4 d1;go_wp2;refine bodyPost_ret (v:= Xm #[O (Xa ⟨g,0,Xb⟩) n cv,Xe Xf 0]) (by simp[results,Tryz.results174,go_sem, *]) rfl ⟨_,_,rfl,OW4.out.new.base (bS G1.out),G1.out.trans G4.out⟩
end
end Go.Proofs.YtempiodbdhiboaaGreat
