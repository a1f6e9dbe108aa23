import Derived.Test.YtempiodbdhiboaaGreatSW6
import Derived.OrdersHeld
import Derived.Deep.DeepCutAuto
import Derived.ChangeKeysEq
namespace Go.Proofs.YtempiodbdhiboaaGreat
open Go.Value renaming slice→O,int→Xe,bool→Xh,agg→Xi,pointer→Xj,tuple→Xm
open Go.IntKind renaming i64→Xf,u8→Xg
open Go.Obj renaming cells→Xk
open Go.Ending renaming returned→Xl
open Go renaming World→Xn,Calls→Xp,Value→Xq
open Go.RowKit renaming Hid→Xo
open Option renaming some→Xa,none→Xb
open Bool renaming true→Xc,false→Xd
open List renaming replicate→Xr
open Go.Act renaming put→Xs
open _root_.Nat renaming lt_of_lt_of_le→Xt
open Go.Addr renaming add_lit→Xu
open _root_.List renaming getElem?_map→Xv
set_option maxRecDepth 100000
set_option maxHeartbeats 4000000
section
open Go.RowKit
theorem OwnRow.other {α:Type} {E:Elt α} {b g:Nat} {w w':Xn} {v:Xq} {l:List α} {t:TypeId} {cs:List Xq} (h:OwnRow E b w v l) (hg:w.grownBy w' (Xa g)) (ho:BoxT w g t cs) (ht:t≠E.ty):OwnRow E b w' v l:=h.grown hg fun k hk e=>by
 cases e;exact h.ne ho ht g hk rfl
theorem owns_other {b size n g:Nat} {e t:TypeId} {w w':Xn} {cs:List Xq} {v:Xq} {xs:List Xq} (h:w.ownsRow b e size v n xs) (hg:w.grownBy w' (Xa g)) (ho:BoxT w g t cs) (ht:t≠e):w'.ownsRow b e size v n xs:=by
 have hne:v.ownBlock≠Xa g:=fun hv=>by
  obtain⟨_,_,ds,h3⟩:=ownsRow_own h hv;have ho':w.heap[g]? =_:=ho;rw[ho']at h3;cases h3;exact ht rfl
 refine⟨h.1,?_⟩
 rcases h.2 with h1 | ⟨k,cap,cur,rfl,h2,h3,h4⟩
 ·exact .inl h1
 exact .inr ⟨k,cap,cur,rfl,h2,by rw[hg.block k (aS.1 h3).1 (fun e=>by cases e;exact hne rfl)];exact h3,h4⟩
theorem BoxT.off {w:Xn} {b g:Nat} {t t':TypeId} {cs ds:List Xq} (h:BoxT w b t cs) (k:BoxT w g t' ds) (ht:t≠t'):b≠g:=fun e=>by
 subst e;have e1:w.heap[b]? =Xa (Xk cs.toArray t (0,0)):=h;have e2:w.heap[b]? =Xa (Xk ds.toArray t' (0,0)):=k;rw[e1]at e2;simp only[Option.some.injEq,Obj.cells.injEq]at e2;exact ht e2.2.1
theorem OwnM.other {base g:Nat} {w w':Xn} {V:MaV} {m:Ma} {cs:List Xq} (h:OwnM base w V m) (hg:w.grownBy w' (Xa g)) (hb:BoxT w g 244 cs):OwnM base w' V m:=by
 obtain⟨lo,⟨ys,f1,f2,f3,f4⟩,l1,l2⟩:=h.fl;obtain⟨xs,B,s1,s2,s3,s4,s5⟩:=h.sp;refine⟨h.fs.other hg hb (by decide),h.sl.other hg hb (by decide),⟨owns_other h.sb.1 hg hb (by decide),h.sb.2⟩,⟨owns_other h.sq.1 hg hb (by decide),h.sq.2⟩,⟨owns_other h.db.1 hg hb (by decide),h.db.2⟩,⟨owns_other h.dq.1 hg hb (by decide),h.dq.2⟩,⟨lo,⟨ys,f1.other hg hb (by decide),f2,fun i x f hx hf=>⟨(f3 i x f hx hf).1,(f3 i x f hx hf).2.other hg hb (by decide)⟩,f4⟩,l1,l2⟩,h.ca.other hg hb (by decide),⟨xs,B,s1.other hg hb (by decide),s2,s3,s4,fun i x s hx hs=>?_⟩,h.ap⟩
 have o:=s5 i x s hx hs;exact⟨o.live,o.ar.other hg hb (by decide),⟨o.tb.len,o.tb.tlen,fun j v y hv hy=>(o.tb.row j v y hv hy).other hg hb (by decide),o.tb.two⟩,o.arh,o.tbh⟩
theorem ChW.of {w0 w:Xn} {p B:Nat} {V:MaV} {m:Ma} (h:OwnM B w V m) (hB:w0.heap.size<=B) (gr:Grew w0 w) (lo:w0.heap.size<=p) (bx:BoxT w p 88 (chL V m)):ChW w0 p w V m:=by
 obtain⟨xs,Bs,s1,s2,s3,s4,s5⟩:=h.sp;have key:∀{W:Xn} {b size n:Nat} {e:TypeId} {v:Xq} {ys:List Xq},OutD (Dr w0.heap.size p V) w W->w.ownsRow b e size v n ys->B<=b->spcE.ty≠e/\frmE.ty≠e/\cchE.ty≠e/\88≠e->W.ownsRow b e size v n ys:=fun k hr hb he=>ownsRow_outD hr k fun g hg hd=>by
  obtain⟨h1,h2,cs,h3⟩:=ownsRow_own hr hg
  rcases hd with hd | hd | hd | hd | hd
  ·omega
  ·subst hd;have bx':w.heap[g]? =_:=bx;rw[bx']at h3;cases h3;exact he.2.2.2 rfl
  ·obtain⟨ds,h4⟩:=h.fs.obj hd;rw[h4]at h3;cases h3;exact he.2.1 rfl
  ·obtain⟨ds,h4⟩:=h.ca.obj hd;rw[h4]at h3;cases h3;exact he.2.2.1 rfl
  obtain⟨ds,h4⟩:=s1.obj hd;rw[h4]at h3;cases h3;exact he.1 rfl
 have keyR:∀{W:Xn} {α:Type} {E:Elt α} {b:Nat} {v:Xq} {l:List α},OutD (Dr w0.heap.size p V) w W->OwnRow E b w v l->B<=b->spcE.ty≠E.ty/\frmE.ty≠E.ty/\cchE.ty≠E.ty/\88≠E.ty->OwnRow E b W v l:=fun k hr hb he=>⟨key k hr.1 hb he,hr.2⟩
 refine⟨gr,lo,bx,h.fs.base hB,h.ca.base hB,⟨xs,s1.base hB,s2,fun i x s hx hs W k=>?_⟩,fun W k=>?_⟩
 ·have o:=s5 i x s hx hs;have hbi:B<=Bs i:=nT s3 (mono_le s4 (nZ i));have o':OwnSp (Bs i) (Bs (i+1)) W x s:=⟨o.live,keyR k o.ar hbi (by decide),⟨o.tb.len,o.tb.tlen,fun j v y hv hy=>keyR k (o.tb.row j v y hv hy) hbi (by decide),o.tb.two⟩,o.arh,o.tbh⟩
  exact o'.at
 obtain⟨lo,⟨zs,f1,f2,f3,f4⟩,l1,l2⟩:=h.fl;have hf':OwnFiles lo W (O V.fl.a V.fl.n V.fl.c) m.fl:=⟨zs,keyR k f1 l1 (by decide),f2,fun i x f hx hf=>⟨(f3 i x f hx hf).1,keyR k (f3 i x f hx hf).2 l1 (by decide)⟩,f4⟩
 have hb:=nR B;exact⟨(keyR k h.sl hb (by decide)).at,OwnPages.at ⟨key k h.sb.1 hb (by decide),h.sb.2⟩,OwnPuts.at ⟨key k h.sq.1 hb (by decide),h.sq.2⟩,OwnPages.at ⟨key k h.db.1 hb (by decide),h.db.2⟩,OwnPuts.at ⟨key k h.dq.1 hb (by decide),h.dq.2⟩,hf'.new.now0⟩
theorem ChW.lower {w0 w1 u u1:Xn} {p g:Nat} {V:MaV} {m:Ma} (h:ChW w1 p u V m) (g2:u.grownBy u1 (Xa g)) (hg:g<w1.heap.size) (gr:Grew w0 u1) (hs:w0.heap.size<=w1.heap.size):ChW w0 p u1 V m:=by
 obtain⟨xs,s1,s2,s3⟩:=h.sp;have key:∀{W:Xn},OutD (Dr w0.heap.size p V) u1 W->OutD (Dr w1.heap.size p V) u W:=fun hW=>(OutD.grown g2 (show Dr w1.heap.size p V g from .inl hg)).trans (hW.wide fun k hk=>hk.elim (fun e=> .inl (Xt e hs)) .inr)
 exact⟨gr,nT hs h.lo,h.box.beside g2 (fun k e=>by cases e;have:=h.lo;omega),(h.fs.grown g2 (fun k hk e=>by cases e;have:=(h.fs.lt _ hk).1;omega)).base hs,(h.ca.grown g2 (fun k hk e=>by cases e;have:=(h.ca.lt _ hk).1;omega)).base hs,⟨xs,(s1.grown g2 (fun k hk e=>by cases e;have:=(s1.lt _ hk).1;omega)).base hs,s2,fun i x s hx hs' W hW=>s3 i x s hx hs' W (key hW)⟩,fun W hW=>h.rest W (key hW)⟩
theorem ofOwn_any (V:MaV) (m:Ma) (w:Xn) (hm:MachAt w V m):
  Xp Tryz.prog 24 #[Xi #[O V.f.a V.f.n V.f.c,Xe Xf m.hand,O V.s.a V.s.n V.s.c,O V.sb.a V.sb.n V.sb.c,O V.sq.a V.sq.n V.sq.c,O V.db.a V.db.n V.db.c,O V.dq.a V.dq.n V.dq.c,O V.fl.a V.fl.n V.fl.c,Xe Xf m.cnt,O V.ca.a V.ca.n V.ca.c,O V.sp.a V.sp.n V.sp.c]] w fun e w'=>∃(p B:Nat) (V':MaV),e= Xl (Xj (Xa ⟨p,0,Xb⟩))/\OwnM B w' V' m/\w.heap.size<=B/\w.heap.size<=p/\BoxT w' p 88 (chL V' m)/\Grew w w':=by
 obtain⟨W1,hW1⟩:∃W1,w.alloc (Xk #[O V.f.a V.f.n V.f.c,Xe Xf m.hand,O V.s.a V.s.n V.s.c,O V.sb.a V.sb.n V.sb.c,O V.sq.a V.sq.n V.sq.c,O V.db.a V.db.n V.db.c,O V.dq.a V.dq.n V.dq.c,O V.fl.a V.fl.n V.fl.c,Xe Xf m.cnt,O V.ca.a V.ca.n V.ca.c,O V.sp.a V.sp.n V.sp.c] 42)=W1:=⟨_,rfl⟩;have G1:=gA hW1
 have X1:=xA hW1
 have HW1:Xo (_=W1):=hW1;clear hW1;have how:=ownM_any V m W1 (hm.grew G1.out);clear hm
 go_enter Tryz.func24,Tryz.ntmps24
 go_upto_region 1 with fail;rw[HW1.out];obtain⟨x0,x1,x2,x3,x4,x5,x6,x7,x8,x9,x10⟩:=X1.out.c11;go_wp2_with fail;refine how.mono ?_;clear how x0 x1 x2 x3 x4 x5 x6 x7 x8 x9 x10;rintro e W2 ⟨V',rfl,ow,g2⟩;have G2:=dD (G1.out.trans g2);have O2:Xo (OwnM W1.heap.size W2 V' m):=ow;have HS:Xo (w.heap.size<=W1.heap.size):=show _<=_ from bS G1.out
 clear ow g2;have HF:Xo (OwnM W1.heap.size (W2.alloc (Xk (chL V' m).toArray 88)) V' m/\w.heap.size<=W1.heap.size/\w.heap.size<=W2.heap.size/\BoxT (W2.alloc (Xk (chL V' m).toArray 88)) W2.heap.size 88 (chL V' m)/\Grew w (W2.alloc (Xk (chL V' m).toArray 88))):=show _/\_ from⟨O2.out.grew (grew_alloc _ _),HS.out,bS G2.out,BoxT.top _ _ _ rfl,G2.out.trans (grew_alloc _ _)⟩
 go_wp2;go_ret;exact⟨_,W1.heap.size,V',rfl,HF.out⟩
theorem viewM_ok (V:MaV) (m:Ma) (p n:Int) (w:Xn) (hm:MachAt w V m) (h0:maW m=0):
  Xp Tryz.prog 177 #[Xi #[O V.f.a V.f.n V.f.c,Xe Xf m.hand,O V.s.a V.s.n V.s.c,O V.sb.a V.sb.n V.sb.c,O V.sq.a V.sq.n V.sq.c,O V.db.a V.db.n V.db.c,O V.dq.a V.dq.n V.dq.c,O V.fl.a V.fl.n V.fl.c,Xe Xf m.cnt,O V.ca.a V.ca.n V.ca.c,O V.sp.a V.sp.n V.sp.c],Xe Xf p,Xe Xf n] w fun e w'=>e= Xl (viewV (viewL m p n))/\(viewL m p n).1.length=8/\Grew w w':=by
 have HM:Xo (MachAt w V m):=hm;have HSL:Xo (∀x e,(seeE m x e).1.length=8):=show∀x,_ from fun x e=>see_len hm.sb.2.1 hm.sq.2.1 hm.db.2.1 hm.dq.2.1 x e
 have HWR:Xo (∀W,Grew w W->Xp Tryz.prog 20 #[Xi #[O V.f.a V.f.n V.f.c,Xe Xf m.hand,O V.s.a V.s.n V.s.c,O V.sb.a V.sb.n V.sb.c,O V.sq.a V.sq.n V.sq.c,O V.db.a V.db.n V.db.c,O V.dq.a V.dq.n V.dq.c,O V.fl.a V.fl.n V.fl.c,Xe Xf m.cnt,O V.ca.a V.ca.n V.ca.c,O V.sp.a V.sp.n V.sp.c]] W fun e w'=>e= Xl (Xe Xf (maW m))/\Grew W w'):=show∀W,_ from fun W hW=>by rw[h0];exact wrongM_ok V m W (HM.out.grew hW) h0
 have HWI:Xo (∀W,Grew w W->Xp Tryz.prog 70 #[Xi #[O V.f.a V.f.n V.f.c,Xe Xf m.hand,O V.s.a V.s.n V.s.c,O V.sb.a V.sb.n V.sb.c,O V.sq.a V.sq.n V.sq.c,O V.db.a V.db.n V.db.c,O V.dq.a V.dq.n V.dq.c,O V.fl.a V.fl.n V.fl.c,Xe Xf m.cnt,O V.ca.a V.ca.n V.ca.c,O V.sp.a V.sp.n V.sp.c]] W fun e w'=>∃B,e= Xl (Xi #[O V.f.a V.f.n V.f.c,Xe Xf m.hand,O V.s.a V.s.n V.s.c,O V.sb.a V.sb.n V.sb.c,O V.sq.a V.sq.n V.sq.c,O V.db.a V.db.n V.db.c,O V.dq.a V.dq.n V.dq.c,O V.fl.a V.fl.n V.fl.c,Xe Xf m.cnt,O V.ca.a V.ca.n V.ca.c,O V.sp.a V.sp.n V.sp.c,.map (Xa B)])/\MapF plK w' B (idxG m.ca)/\Grew W w'):=show∀W,_ from fun W hW=>withIndex_any V m W (HM.out.grew hW)
 have HVW:Xo (maW m=0->∀W B (a:Ar) (n:Nat) (e:En),Grew w W->ArOk a->(a.fr<=(n:Int)/\(n:Int)<a.tz)->(e.kind=1->0<=e.n/\e.n< (m.fs.length:Int))->(e.kind=2->0<=e.n/\e.n< (m.sb.length:Int))->MapF plK W B (idxG m.ca)->Xp Tryz.prog 204 #[Xi #[O V.f.a V.f.n V.f.c,Xe Xf m.hand,O V.s.a V.s.n V.s.c,O V.sb.a V.sb.n V.sb.c,O V.sq.a V.sq.n V.sq.c,O V.db.a V.db.n V.db.c,O V.dq.a V.dq.n V.dq.c,O V.fl.a V.fl.n V.fl.c,Xe Xf m.cnt,O V.ca.a V.ca.n V.ca.c,O V.sp.a V.sp.n V.sp.c,.map (Xa B)],Xi #[Xe Xf a.fr,Xe Xf a.tz,Xh a.rd,Xh a.wr,Xh a.sh,Xe Xf a.file,Xe Xf a.base],Xe Xf (n:Int),Xi #[Xe Xf e.kind,Xe Xf e.n,Xh e.wr]] W fun r w'=>r= Xl (viewV (seeE m (oneOf a n) e))/\(seeE m (oneOf a n) e).1.length=8/\Grew W w'):=show _->_ from fun h0 W B a n e hW ha hin h1 h2 hmp=>indexView_any V m B a n e W (HM.out.grew hW) h0 ha hin h1 h2 hmp
 obtain⟨-,-,-,-,-,-,-,-,n9⟩:=hm.ns;obtain⟨xs,hxl,hrow,hsp⟩:=hm.spaces;obtain⟨vf,vs,vsb,vsq,vdb,vdq,vfl,vca,⟨spa,spn,spc⟩⟩:=V;dsimp only at n9 hrow HWR HWI HVW⊢;have HN9:Xo (m.sp.length=spn):=n9.symm;have HXL:Xo (xs.length=spn):=show _=_ by rw[hxl];exact HN9.out
 have HRW:Xo (∀(j:Nat) x,xs[j]? =Xa x->∃ad,spa=Xa ad/\∀W,Grew w W->Sp10 W (ad.add (j*10)) x):=show∀j,_ from hrow
 have HSP:Xo (∀(i:Nat) x s,xs[i]? =Xa x->m.sp[i]? =Xa s->SpaceAt w x s):=show∀i,_ from hsp
 obtain⟨E,HE⟩:∃E,Xo (maW m=E):=⟨_,rfl⟩;rw[HE.out]at HWR HVW;clear hm n9 hxl hrow hsp HM;obtain⟨W0,hW0⟩:∃W0,(w.alloc (Xk #[O vf.a vf.n vf.c,Xe Xf m.hand,O vs.a vs.n vs.c,O vsb.a vsb.n vsb.c,O vsq.a vsq.n vsq.c,O vdb.a vdb.n vdb.c,O vdq.a vdq.n vdq.c,O vfl.a vfl.n vfl.c,Xe Xf m.cnt,O vca.a vca.n vca.c,O spa spn spc] 42)).alloc (Xk #[Xe Xg 0,Xe Xg 0,Xe Xg 0,Xe Xg 0,Xe Xg 0,Xe Xg 0,Xe Xg 0,Xe Xg 0] 91)=W0:=⟨_,rfl⟩;have G0:=gD2 hW0
 have X0:=x2a hW0
 have Y0:Xo (Box W0 (w.heap.size+1) (pgc zero8)):=show Box _ _ _ by rw[<-hW0];exact Box.top _ (pgc zero8) _ (by simp)
 have HW0:Xo (_=W0):=hW0;clear hW0
 go_enter Tryz.func177,Tryz.ntmps177
 go_upto_region 1 with fail;rw[HW0.out];clear HW0;obtain⟨x0,x1,x2,x3,x4,x5,x6,x7,x8,x9,x10⟩:=X0.out.c11;have hc:=HWR.out W0 G0.out;go_wp2_with fail;refine hc.mono ?_;clear hc HWR x0 x1 x2 x3 x4 x5 x6 x7 x8 x9 x10;rintro r W1 ⟨rfl,g1⟩;have G1:=dD (G0.out.trans g1);have X1:=dD (X0.out.grew g1);have Y1:=dD (Y0.out.grew g1);clear g1 G0 X0 Y0;have hz:E=0:=by rw[<-HE.out];exact h0
 clear h0;have hze:(E != 0)=Xd:=by simp[hz]
 have HM0:Xo (maW m=0):=show _=_ by rw[HE.out];exact hz
 have HV0:Xo (viewL m p n=viewR m p n):=show _=_ by unfold viewL;rw[HE.out,if_neg (fun h=>h hz)]
 have HVX:=show Xo _ from HVW.out hz
 clear hz HVW HE;have x10:=X1.out.c 10 rfl;have hbel:=belowM_any p (spn:Int) W1;go_wp2_with fail;refine hbel.mono ?_;rintro r w' ⟨rfl,hw'⟩;rw[hw'];clear hw' w' hbel hze
 cases hb:bel p (spn:Int)with
 | false=>
  have HR:Xo (viewL m p n=(zero8,Xd,5)):=show _=_ by
   rw[HV0.out];refine view_out ?_;have h1:¬(0<=p/\p< (spn:Int)):=fun h=>by rw[bel_iff.2 h]at hb;cases hb
   rw[HN9.out];omega
  clear hb
  go_wp2_with (refine wp_storeAll rfl 91 (.tmp 6) (.tmp 24) rfl (w.heap.size+1) rfl (pgc zero8) rfl Y1.out rfl Tryz.sizePg (pgc_one _) ?_)
  intro WL hbL hgL _;have HGL:Xo (Grew w WL):=show Grew _ _ from grew_grown G1.out hgL (by omega)
  go_wp2;refine bodyPost_ret (ret_cell_tmp2 rfl _ rfl hbL Tryz.underlying91 rfl Tryz.sizePg) rfl ⟨by rw[HR.out];rfl,by rw[HR.out];rfl,HGL.out⟩
 | true=>
 obtain⟨b0,b1⟩:=bel_iff.1 hb;obtain⟨pp,rfl⟩:∃pp:Nat,p=(pp:Int):=⟨p.toNat,by omega⟩
 obtain⟨x,hx⟩:∃x,xs[pp]? =Xa x:=⟨_,gE (by rw[HXL.out];omega)⟩
 obtain⟨s,HS⟩:∃s,Xo (m.sp[pp]? =Xa s):=⟨_,gE (by rw[HN9.out];omega)⟩
 have HAT:Xo (SpaceAt w x s):=HSP.out pp x s hx HS.out;obtain⟨ad,HSA,hl⟩:∃ad,Xo (spa=Xa ad)/\∀W,Grew w W->Sp10 W (ad.add (pp*10)) x:=HRW.out pp x hx;obtain⟨d0,d1,d2,d3,d4,d5,d6,d7,d8,d9⟩:=hl W1 G1.out;rw[HSA.out]at x10;clear hl hx hb b0 HRW HSP HXL;go_upto_region 7 with fail;clear d0 d1 d2 d3 d4 d5 d6 d7 d8 d9 x10;obtain⟨pb,HPB⟩:∃pb,Xo (W1.heap.size=pb):=⟨_,rfl⟩;obtain⟨W2,hW2⟩:∃W2,W1.alloc (Xk #[Xh x.live,O x.ar.a x.ar.n x.ar.c,O x.t0.a x.t0.n x.t0.c,O x.t1.a x.t1.n x.t1.c,O x.t2.a x.t2.n x.t2.c,O x.t3.a x.t3.n x.t3.c,O x.t4.a x.t4.n x.t4.c,O x.t5.a x.t5.n x.t5.c,O x.t6.a x.t6.n x.t6.c,O x.t7.a x.t7.n x.t7.c] 76)=W2:=⟨_,rfl⟩;have g2:=gP hW2
 have S2:=xP hW2 HPB
 have G2:=dD (G1.out.trans g2);have X2:=dD (X1.out.grew g2);have Y2:=dD (Y1.out.grew g2);rw[hW2,HPB.out];clear hW2 g2 G1 X1 Y1 HPB;have s1:=S2.out.c 1 rfl;have hc:=find_any (O x.ar.a x.ar.n x.ar.c) s.ars n W2 (HAT.out.ar.grew G2.out);go_wp2_with fail;refine hc.mono ?_;clear hc s1;rintro r W3 ⟨⟨z,rfl,hz⟩,g3⟩;have HFZ:Xo (FindsZ s.ars n z):=hz;have G3:=dD (G2.out.trans g3);have X3:=dD (X2.out.grew g3);have Y3:=dD (Y2.out.grew g3);have S3:=dD (S2.out.grew g3);clear g3 hz G2 X2 Y2 S2
 by_cases hz0:z<0
 ·have HR:Xo (viewL m (pp:Int) n=(zero8,Xd,5)):=show _=_ by rw[HV0.out];exact view_none HS.out HFZ.out hz0
  go_wp2_with (refine wp_storeAll rfl 91 (.tmp 6) (.tmp 36) rfl (w.heap.size+1) rfl (pgc zero8) rfl Y3.out rfl Tryz.sizePg (pgc_one _) ?_)
  intro WL hbL hgL _;have HGL:Xo (Grew w WL):=show Grew _ _ from grew_grown G3.out hgL (by omega)
  go_wp2;refine bodyPost_ret (ret_cell_tmp2 rfl _ rfl hbL Tryz.underlying91 rfl Tryz.sizePg) rfl ⟨by rw[HR.out];rfl,by rw[HR.out];rfl,HGL.out⟩
 obtain⟨k,a,rfl,HKA,HIN⟩:∃(k:Nat) (a:Ar),z=(k:Int)/\Xo (s.ars[k]? =Xa a)/\Xo (inZ a n=Xc):=by
  rcases HFZ.out with⟨k,a,q1,q2,q3⟩ | ⟨q1,_⟩
  ·exact⟨k,a,q1,q2,q3⟩
  omega
 have HCN:Xo (CanP Xb s.ars):=(wrL_zero.1 ((pts_of (maW_parts HM0.out)).ar s (mG HS.out)).1).2;have HAO:Xo (ArOk a):=canP_at HCN.out HKA.out;obtain⟨nn,rfl⟩:∃nn:Nat,n=(nn:Int):=⟨n.toNat,by have h1:=inZ_iff.1 HIN.out;have h2:=HAO.out;unfold ArOk at h2;omega⟩
 have hn64:nn<64:=by have h1:=inZ_iff.1 HIN.out;have h2:=HAO.out;unfold ArOk at h2;omega
 obtain⟨e,HEN⟩:∃e,Xo (flatN s nn=e):=⟨_,rfl⟩;have HSE:Xo (viewL m (pp:Int) (nn:Int)=seeE m (oneOf a nn) e):=show _=_ by rw[HV0.out,view_see HS.out hn64,onAt_uniq HCN.out HKA.out (by rw[<-inZ_nat];exact HIN.out),HEN.out]
 have HCV:Xo (∀W B,Grew w W->MapF plK W B (idxG m.ca)->Xp Tryz.prog 204 #[Xi #[O vf.a vf.n vf.c,Xe Xf m.hand,O vs.a vs.n vs.c,O vsb.a vsb.n vsb.c,O vsq.a vsq.n vsq.c,O vdb.a vdb.n vdb.c,O vdq.a vdq.n vdq.c,O vfl.a vfl.n vfl.c,Xe Xf m.cnt,O vca.a vca.n vca.c,O spa spn spc,.map (Xa B)],Xi #[Xe Xf a.fr,Xe Xf a.tz,Xh a.rd,Xh a.wr,Xh a.sh,Xe Xf a.file,Xe Xf a.base],Xe Xf (nn:Int),Xi #[Xe Xf e.kind,Xe Xf e.n,Xh e.wr]] W fun r w'=>r= Xl (viewV (seeE m (oneOf a nn) e))/\(seeE m (oneOf a nn) e).1.length=8/\Grew W w'):=show∀W,_ from fun W B hW hmp=>HVX.out W B a nn e hW HAO.out (inZ_iff.1 HIN.out) (by rw[<-HEN.out];exact(ent_in HM0.out HS.out hn64).1) (by rw[<-HEN.out];exact(ent_in HM0.out HS.out hn64).2) hmp
 have HGT:Xo (∀W,Grew w W->Xp Tryz.prog 69 #[Xi #[O x.t0.a x.t0.n x.t0.c,O x.t1.a x.t1.n x.t1.c,O x.t2.a x.t2.n x.t2.c,O x.t3.a x.t3.n x.t3.c,O x.t4.a x.t4.n x.t4.c,O x.t5.a x.t5.n x.t5.c,O x.t6.a x.t6.n x.t6.c,O x.t7.a x.t7.n x.t7.c],Xe Xf (nn:Int)] W fun r w'=>r= Xl (Xi #[Xe Xf e.kind,Xe Xf e.n,Xh e.wr])/\Grew W w'):=show∀W,_ from fun W hW=>by
  have:=getTb_any x.tab s.tb (nn:Int) W (HAT.out.grew hW).tb;rw[get_flat hn64,HEN.out]at this;exact this
 have hkl:k<x.ar.n:=by rw[HAT.out.ar.n];exact(gS.1 HKA.out).1
 have hkz:(k:Int)< (x.ar.n:Int):=by omega
 obtain⟨ada,HVA,HLA⟩:∃ada,Xo (x.ar.a=Xa ada)/\Xo (∀W,Grew w W->ArCells W (ada.add (k*7)) a):=by
  obtain⟨_,_,q1,q2⟩:=HAT.out.ar.ars;simp only[vJ]at q1;obtain⟨ada,q3,q4⟩:=q2 k a HKA.out;exact⟨ada,by rw[q1.1];exact q3,q4⟩
 obtain⟨R,HRR⟩:∃R,Xo (seeE m (oneOf a nn) e=R):=⟨_,rfl⟩;have HL8:Xo (R.1.length=8):=show _=_ by rw[<-HRR.out];exact HSL.out _ _
 rw[HRR.out]at HSE HCV;clear hz0 HFZ HVX HV0 HM0 HCN HAO HIN HKA HAT HS HEN HRR;go_upto_region 10 with fail;obtain⟨I,HI⟩:∃I:Xn->Prop,Xo (∀u,I u↔Grew W3 u):=⟨fun u=>Grew W3 u,fun _=>Iff.rfl⟩
 have hI0:I W3.drew:=(HI.out _).2 (gW _)
 have hx0:=X3.out.h HI.out 0 rfl
 have hx1:=X3.out.h HI.out 1 rfl
 have hx2:=X3.out.h HI.out 2 rfl
 have hx3:=X3.out.h HI.out 3 rfl
 have hx4:=X3.out.h HI.out 4 rfl
 have hx5:=X3.out.h HI.out 5 rfl
 have hx6:=X3.out.h HI.out 6 rfl
 have hx7:=X3.out.h HI.out 7 rfl
 have hx8:=X3.out.h HI.out 8 rfl
 have hx9:=X3.out.h HI.out 9 rfl
 have hx10:=X3.out.h HI.out 10 rfl
 have hs2:=S3.out.h HI.out 2 rfl
 have hs3:=S3.out.h HI.out 3 rfl
 have hs4:=S3.out.h HI.out 4 rfl
 have hs5:=S3.out.h HI.out 5 rfl
 have hs6:=S3.out.h HI.out 6 rfl
 have hs7:=S3.out.h HI.out 7 rfl
 have hs8:=S3.out.h HI.out 8 rfl
 have hs9:=S3.out.h HI.out 9 rfl
 have hs1:∀y:HoldI I,y.world.cell? ⟨pb,1,Xb⟩=Xa (O (Xa ada) x.ar.n x.ar.c):=fun y=>by rw[<-HVA.out];exact(S3.out.grew ((HI.out _).1 y.holds)).c 1 rfl
 have ha0:∀y:HoldI I,y.world.cell? (ada.add (k*7))=Xa (Xe Xf a.fr):=fun y=>(HLA.out _ (G3.out.trans ((HI.out _).1 y.holds))).1
 have ha1:∀y:HoldI I,y.world.cell? { block:=(ada.add (k*7)).block,off:=(ada.add (k*7)).off+1 }=Xa (Xe Xf a.tz):=fun y=>(HLA.out _ (G3.out.trans ((HI.out _).1 y.holds))).2.1
 have ha2:∀y:HoldI I,y.world.cell? { block:=(ada.add (k*7)).block,off:=(ada.add (k*7)).off+2 }=Xa (Xh a.rd):=fun y=>(HLA.out _ (G3.out.trans ((HI.out _).1 y.holds))).2.2.1
 have ha3:∀y:HoldI I,y.world.cell? { block:=(ada.add (k*7)).block,off:=(ada.add (k*7)).off+3 }=Xa (Xh a.wr):=fun y=>(HLA.out _ (G3.out.trans ((HI.out _).1 y.holds))).2.2.2.1
 have ha4:∀y:HoldI I,y.world.cell? { block:=(ada.add (k*7)).block,off:=(ada.add (k*7)).off+4 }=Xa (Xh a.sh):=fun y=>(HLA.out _ (G3.out.trans ((HI.out _).1 y.holds))).2.2.2.2.1
 have ha5:∀y:HoldI I,y.world.cell? { block:=(ada.add (k*7)).block,off:=(ada.add (k*7)).off+5 }=Xa (Xe Xf a.file):=fun y=>(HLA.out _ (G3.out.trans ((HI.out _).1 y.holds))).2.2.2.2.2.1
 have ha6:∀y:HoldI I,y.world.cell? { block:=(ada.add (k*7)).block,off:=(ada.add (k*7)).off+6 }=Xa (Xe Xf a.base):=fun y=>(HLA.out _ (G3.out.trans ((HI.out _).1 y.holds))).2.2.2.2.2.2
 have hne:Nonempty (HoldI I):=⟨⟨_,hI0⟩⟩;refine wp_lax_tailI (I:=I) 16 [(1,⟨fun v=>∃B,v= Xi #[O vf.a vf.n vf.c,Xe Xf m.hand,O vs.a vs.n vs.c,O vsb.a vsb.n vsb.c,O vsq.a vsq.n vsq.c,O vdb.a vdb.n vdb.c,O vdq.a vdq.n vdq.c,O vfl.a vfl.n vfl.c,Xe Xf m.cnt,O vca.a vca.n vca.c,O spa spn spc,.map (Xa B)],fun v u=>∃B,v= Xi #[O vf.a vf.n vf.c,Xe Xf m.hand,O vs.a vs.n vs.c,O vsb.a vsb.n vsb.c,O vsq.a vsq.n vsq.c,O vdb.a vdb.n vdb.c,O vdq.a vdq.n vdq.c,O vfl.a vfl.n vfl.c,Xe Xf m.cnt,O vca.a vca.n vca.c,O spa spn spc,.map (Xa B)]/\MapF plK u B (idxG m.ca),fun p q=>Grew p q,fun _=>True⟩),(11,⟨fun v=>v= Xi #[Xe Xf e.kind,Xe Xf e.n,Xh e.wr],fun _ _=>True,fun p q=>Grew p q,fun _=>True⟩),(12,⟨fun v=>v=viewV R,fun _ _=>True,fun p q=>Grew p q,fun _=>True⟩)] hI0 mixed (by kernel_rfl) rfl rfl (by decide) ?hS ?hp ?hpre ?hpr0 ?_
 case hS=>
  intro x hx;simp only[mC,nM,or_false]at hx
  rcases hx with rfl | rfl | rfl
  ·exact⟨_,0,rfl⟩
  ·exact⟨_,rfl⟩
  exact⟨_,rfl⟩
 case hp=>
  intro k s j t hk hj hjk hanc v p q hst hpo;have hk':=lookup_in hk;have hj':=lookup_in hj;clear hk hj;simp only[mC,pJ,nM,or_false]at hk' hj'
  rcases hk' with⟨rfl,rfl⟩ | ⟨rfl,rfl⟩ | ⟨rfl,rfl⟩
  ·obtain⟨B,h1,h2⟩:=hpo
   rcases hj' with⟨rfl,rfl⟩ | ⟨rfl,rfl⟩ | ⟨rfl,rfl⟩
   ·exact absurd rfl hjk
   ·exact⟨B,h1,h2.grew hst⟩
   exact⟨B,h1,h2.grew hst⟩
  ·trivial
  trivial
 case hpre=>
  intro j t k s hj hk hjk p q hst hpr;have hj':=lookup_in hj;simp only[mC,pJ,nM,or_false]at hj'
  rcases hj' with⟨rfl,rfl⟩ | ⟨rfl,rfl⟩ | ⟨rfl,rfl⟩ <;> trivial
 case hpr0=>
  intro k t hk;have hk':=lookup_in hk;simp only[mC,pJ,nM,or_false]at hk'
  rcases hk' with⟨rfl,rfl⟩ | ⟨rfl,rfl⟩ | ⟨rfl,rfl⟩ <;> trivial
 simp only[List.take,List.drop];iterate 1 (refine laxI_quiet rfl rfl rfl (fun K hK=>?_);go_big_quiet_op;refine hK _ ?_;clear hK K)
 refine laxI_spec rfl rfl (fun w' hI' hpr hF=>?_) (fun v1 hv=>?_)
 ·refine Does.call [Xi #[O vf.a vf.n vf.c,Xe Xf m.hand,O vs.a vs.n vs.c,O vsb.a vsb.n vsb.c,O vsq.a vsq.n vsq.c,O vdb.a vdb.n vdb.c,O vdq.a vdq.n vdq.c,O vfl.a vfl.n vfl.c,Xe Xf m.cnt,O vca.a vca.n vca.c,O spa spn spc]] rfl Tryz.func70 rfl rfl rfl ?_;refine(HWI.out w' (G3.out.trans ((HI.out _).1 hI'))).mono ?_;rintro e w'' ⟨B,rfl,hmp,gg⟩;exact⟨_,rfl,(HI.out _).2 (((HI.out _).1 hI').trans gg),gg,⟨B,rfl⟩,B,rfl,hmp⟩
 obtain⟨B,rfl⟩:=hv;simp only[Xs,sB,sS,sZ];iterate 9 (refine laxI_quiet rfl rfl rfl (fun K hK=>?_);go_big_quiet_op;refine hK _ ?_;clear hK K)
 refine laxI_spec rfl rfl (fun w' hI' hpr hF=>?_) (fun v1 hv=>?_)
 ·refine Does.call [Xi #[O x.t0.a x.t0.n x.t0.c,O x.t1.a x.t1.n x.t1.c,O x.t2.a x.t2.n x.t2.c,O x.t3.a x.t3.n x.t3.c,O x.t4.a x.t4.n x.t4.c,O x.t5.a x.t5.n x.t5.c,O x.t6.a x.t6.n x.t6.c,O x.t7.a x.t7.n x.t7.c],Xe Xf (nn:Int)] rfl Tryz.func69 rfl rfl rfl ?_;refine(HGT.out w' (G3.out.trans ((HI.out _).1 hI'))).mono ?_;rintro e w'' ⟨rfl,gg⟩;exact⟨_,rfl,(HI.out _).2 (((HI.out _).1 hI').trans gg),gg,rfl,trivial⟩
 subst hv;simp only[Xs,sB,sS,sZ];refine laxI_spec rfl rfl (fun w' hI' hpr hF=>?_) (fun v1 hv=>?_)
 ·obtain⟨B',hb1,hb2⟩:=hF 1 (by kernel_rfl)
  simp only[Value.agg.injEq,Array.mk.injEq,List.cons.injEq,Value.map.injEq,Option.some.injEq,and_true,true_and]at hb1;subst hb1;refine Does.call [Xi #[O vf.a vf.n vf.c,Xe Xf m.hand,O vs.a vs.n vs.c,O vsb.a vsb.n vsb.c,O vsq.a vsq.n vsq.c,O vdb.a vdb.n vdb.c,O vdq.a vdq.n vdq.c,O vfl.a vfl.n vfl.c,Xe Xf m.cnt,O vca.a vca.n vca.c,O spa spn spc,.map (Xa B)],Xi #[Xe Xf a.fr,Xe Xf a.tz,Xh a.rd,Xh a.wr,Xh a.sh,Xe Xf a.file,Xe Xf a.base],Xe Xf (nn:Int),Xi #[Xe Xf e.kind,Xe Xf e.n,Xh e.wr]] rfl Tryz.func204 rfl rfl rfl ?_;refine(HCV.out w' B (G3.out.trans ((HI.out _).1 hI')) hb2).mono ?_;rintro e w'' ⟨rfl,h8,gg⟩;exact⟨_,rfl,(HI.out _).2 (((HI.out _).1 hI').trans gg),gg,rfl,trivial⟩
 obtain⟨rl,rb,re⟩:=R;have hl8:=HL8.out;obtain⟨p0,p1,p2,p3,p4,p5,p6,p7,hrl⟩:=len8 rl hl8;subst hrl;subst hv;simp only[viewV,pgc,mP,List.map_nil];simp only[Xs,sB,sS,sZ];iterate 3 (refine laxI_quiet rfl rfl rfl (fun K hK=>?_);go_big_quiet_op;refine hK _ ?_;clear hK K)
 refine laxI_nil fun W4 hI4 hF=>?_
 have g4:=(HI.out _).1 hI4;have G4:=dD (G3.out.trans g4);have Y4:=dD (Y3.out.grew g4);have HR:=HSE;clear hF hI4 hI0 hne g4 HI G3 X3 Y3 S3 HCV HGT HWI hx0 hx1 hx2 hx3 hx4 hx5 hx6 hx7 hx8 hx9 hx10 hs1 hs2 hs3 hs4 hs5 hs6 hs7 hs8 hs9 ha0 ha1 ha2 ha3 ha4 ha5 ha6;refine wp_storeAll rfl 91 (.tmp 6) (.tmp 50) rfl (w.heap.size+1) rfl (pgc [p0,p1,p2,p3,p4,p5,p6,p7]) rfl Y4.out rfl Tryz.sizePg (pgc_one _) ?_;intro WL hbL hgL _;have HGL:Xo (Grew w WL):=show Grew _ _ from grew_grown G4.out hgL (by omega)
 go_wp2;refine bodyPost_ret (ret_cell_tmp2 rfl _ rfl hbL Tryz.underlying91 rfl Tryz.sizePg) rfl ⟨by rw[HR.out];rfl,by rw[HR.out];rfl,HGL.out⟩
def Into (k q n:Nat) (mB:Ma):Prop:=∃(s:Sp) (fr:Fr) (we:Bool),Rt mB/\mB.sp[q]? =Xa s/\mB.fs[k]? =Xa fr/\flatN s n=⟨1,(k:Int),we⟩
def NotUsed (m:Ma) (BF:Nat->Nat->Ar->Pg->Bool->Bool × Nat × Ma) (p n:Int) (wr:Bool) (er:Int):Prop:=
 er≠0/\(Usable m p n wr ar0 er\/(∃a,Usable m p n wr a 0/\(viewL m p n).2.2=er)\/(er=10/\∃(q i:Nat) (a:Ar) (pg:Pg) (ic:Bool),p=(q:Int)/\n=(i:Int)/\Usable m p n wr a 0/\viewL m p n=(pgL pg,ic,0)/\(bringR m (BF q i a pg wr) pg a ic wr q i).1=Xd))
def Used (m:Ma) (BF:Nat->Nat->Ar->Pg->Bool->Bool × Nat × Ma) (p n:Int) (wr:Bool) (k:Nat) (m':Ma):Prop:=
 ∃(q i:Nat) (a:Ar) (pg:Pg) (ic:Bool) (fr:Fr),p=(q:Int)/\n=(i:Int)/\Usable m p n wr a 0/\viewL m p n=(pgL pg,ic,0)/\(bringR m (BF q i a pg wr) pg a ic wr q i).1=Xc/\k=(bringR m (BF q i a pg wr) pg a ic wr q i).2.1/\(bringR m (BF q i a pg wr) pg a ic wr q i).2.2.fs[k]? =Xa fr/\m'=markM (bringR m (BF q i a pg wr) pg a ic wr q i).2.2 q i k fr wr a.sh
theorem pg_of {l:List Int} (h:l.length=8):∃pg:Pg,l=pgL pg:=by
 obtain⟨p0,p1,p2,p3,p4,p5,p6,p7,e⟩:=len8 l h;exact⟨⟨p0,p1,p2,p3,p4,p5,p6,p7⟩,e⟩
theorem usable_same {m:Ma} {p n:Int} {wr:Bool} {a:Ar} {er:Int} (h:Usable m p n wr a er) (he:er≠0):a=ar0:=by
 rcases h with⟨_,e,_⟩ | ⟨_,_,_,_,_,_,_,_,_,_,_,_,_,⟨_,e,_⟩ | ⟨e,_⟩⟩
 ·exact e
 ·exact e
 exact absurd e he
theorem run_allocUse {w:Xn} {a:Act} {o:Oper} (ho:o.op= .alloc 244):(execOp a.eval o).run Tryz.prog w= .ok (.value (Xj (Xa ⟨w.heap.size,0,Xb⟩))) (w.alloc (Xk #[Xj Xb,Xe Xf 0,Xe Xf 0,Xe Xf 0,Xe Xf 0,Xh Xd,Xh Xd,Xh Xd,Xe Xf 0,Xe Xf 0,Xe Xg 0,Xe Xg 0,Xe Xg 0,Xe Xg 0,Xe Xg 0,Xe Xg 0,Xe Xg 0,Xe Xg 0,Xh Xd,Xh Xd] 244)):=by
 simp only[execOp,ho]
 go_simp
theorem use_any (V:MaV) (m:Ma) (p n:Int) (wr:Bool) (w:Xn) (hm:MachAt w V m) (hR:Rt m) (BF:Nat->Nat->Ar->Pg->Bool->Bool × Nat × Ma)
  (hF:∀(w0 W:Xn) (p:Nat) (V1:MaV) (m1:Ma) (mv:Xq) (l:List (Nat × Nat)),(∀x∈l,x.2<64/\∃s,m.sp[x.1]? =Xa s)->m1=dropAll m l->ChW w0 p W V1 m1->Rt m1->freeN m1.fs=0->RowD sptE (Dw p V1) W mv l->Xp Tryz.prog 160 #[Xj (Xa ⟨p,0,Xb⟩),mv] W fun e w'=>e= Xl (Xh (freeR m1 l).1)/\Chg w0 p W V1 (freeR m1 l).2 w')
  (hB:∀(q i:Nat) (a:Ar) (pg:Pg),p=(q:Int)->n=(i:Int)->Usable m p n wr a 0->viewL m p n=(pgL pg,Xd,0)->0<=a.file->a.sh=Xc\/wr=Xd->∀(w0 W:Xn) (p:Nat) (V1:MaV),ChW w0 p W V1 m->Xp Tryz.prog 205 #[Xi #[Xj (Xa ⟨p,0,Xb⟩),Xe Xf (q:Int),Xe Xf (i:Int),Xe Xf a.fr,Xe Xf a.tz,Xh a.rd,Xh a.wr,Xh a.sh,Xe Xf a.file,Xe Xf a.base,Xe Xg pg.b0,Xe Xg pg.b1,Xe Xg pg.b2,Xe Xg pg.b3,Xe Xg pg.b4,Xe Xg pg.b5,Xe Xg pg.b6,Xe Xg pg.b7,Xh Xd,Xh wr]] W fun e w'=>e= Xl (Xm #[Xe Xf ((BF q i a pg wr).2.1:Int),Xe Xf (if(BF q i a pg wr).1=Xc then 0 else 10)])/\Chg w0 p W V1 (BF q i a pg wr).2.2 w')
  (hG:∀(q i:Nat) (a:Ar) (pg:Pg) (ic:Bool),p=(q:Int)->n=(i:Int)->Usable m p n wr a 0->viewL m p n=(pgL pg,ic,0)->(bringR m (BF q i a pg wr) pg a ic wr q i).1=Xc->Into (bringR m (BF q i a pg wr) pg a ic wr q i).2.1 q i (bringR m (BF q i a pg wr) pg a ic wr q i).2.2):
  Xp Tryz.prog 140 #[Xi #[O V.f.a V.f.n V.f.c,Xe Xf m.hand,O V.s.a V.s.n V.s.c,O V.sb.a V.sb.n V.sb.c,O V.sq.a V.sq.n V.sq.c,O V.db.a V.db.n V.db.c,O V.dq.a V.dq.n V.dq.c,O V.fl.a V.fl.n V.fl.c,Xe Xf m.cnt,O V.ca.a V.ca.n V.ca.c,O V.sp.a V.sp.n V.sp.c],Xe Xf p,Xe Xf n,Xh wr] w fun e w'=>((∃er:Int,e= Xl (Xm #[Xi zeroM.toArray,Xe Xf 0,Xe Xf er])/\NotUsed m BF p n wr er)\/(∃(V':MaV) (k pc:Nat) (m':Ma),e= Xl (Xm #[Xi #[O V'.f.a V'.f.n V'.f.c,Xe Xf m'.hand,O V'.s.a V'.s.n V'.s.c,O V'.sb.a V'.sb.n V'.sb.c,O V'.sq.a V'.sq.n V'.sq.c,O V'.db.a V'.db.n V'.db.c,O V'.dq.a V'.dq.n V'.dq.c,O V'.fl.a V'.fl.n V'.fl.c,Xe Xf m'.cnt,O V'.ca.a V'.ca.n V'.ca.c,O V'.sp.a V'.sp.n V'.sp.c],Xe Xf (k:Int),Xe Xf 0])/\Used m BF p n wr k m'/\ChW w pc w' V' m'))/\Grew w w':=by
 have HM:Xo (MachAt w V m):=hm;have HR:Xo (Rt m):=hR;have HFF:=show Xo _ from hF
 have HBB:=show Xo _ from hB
 have HGG:=show Xo _ from hG
 have HUS:Xo (∀W,Grew w W->Xp Tryz.prog 176 #[Xi #[O V.f.a V.f.n V.f.c,Xe Xf m.hand,O V.s.a V.s.n V.s.c,O V.sb.a V.sb.n V.sb.c,O V.sq.a V.sq.n V.sq.c,O V.db.a V.db.n V.db.c,O V.dq.a V.dq.n V.dq.c,O V.fl.a V.fl.n V.fl.c,Xe Xf m.cnt,O V.ca.a V.ca.n V.ca.c,O V.sp.a V.sp.n V.sp.c],Xe Xf p,Xe Xf n,Xh wr] W fun e w'=>(∃(a:Ar) (er:Int),e= Xl (Xm #[Xi #[Xe Xf a.fr,Xe Xf a.tz,Xh a.rd,Xh a.wr,Xh a.sh,Xe Xf a.file,Xe Xf a.base],Xe Xf er])/\Usable m p n wr a er)/\Grew W w'):=show∀W,_ from fun W hW=>usable_any V m p n wr W (HM.out.grew hW) hR.w
 have HVW:Xo (∀W,Grew w W->Xp Tryz.prog 177 #[Xi #[O V.f.a V.f.n V.f.c,Xe Xf m.hand,O V.s.a V.s.n V.s.c,O V.sb.a V.sb.n V.sb.c,O V.sq.a V.sq.n V.sq.c,O V.db.a V.db.n V.db.c,O V.dq.a V.dq.n V.dq.c,O V.fl.a V.fl.n V.fl.c,Xe Xf m.cnt,O V.ca.a V.ca.n V.ca.c,O V.sp.a V.sp.n V.sp.c],Xe Xf p,Xe Xf n] W fun e w'=>e= Xl (viewV (viewL m p n))/\(viewL m p n).1.length=8/\Grew W w'):=show∀W,_ from fun W hW=>viewM_ok V m p n W (HM.out.grew hW) hR.w
 clear hm hR hF hB hG;obtain⟨b,HB⟩:∃b,Xo (w.heap.size=b):=⟨_,rfl⟩;obtain⟨W0,hW0⟩:∃W0,(w.alloc (Xk #[O V.f.a V.f.n V.f.c,Xe Xf m.hand,O V.s.a V.s.n V.s.c,O V.sb.a V.sb.n V.sb.c,O V.sq.a V.sq.n V.sq.c,O V.db.a V.db.n V.db.c,O V.dq.a V.dq.n V.dq.c,O V.fl.a V.fl.n V.fl.c,Xe Xf m.cnt,O V.ca.a V.ca.n V.ca.c,O V.sp.a V.sp.n V.sp.c] 42)).alloc (Xk #[O Xb 0 0,Xe Xf 0,O Xb 0 0,O Xb 0 0,O Xb 0 0,O Xb 0 0,O Xb 0 0,O Xb 0 0,Xe Xf 0,O Xb 0 0,O Xb 0 0] 42)=W0:=⟨_,rfl⟩;have G0:=gD2 hW0
 have X0:Xo (BoxT W0 b 42 [O V.f.a V.f.n V.f.c,Xe Xf m.hand,O V.s.a V.s.n V.s.c,O V.sb.a V.sb.n V.sb.c,O V.sq.a V.sq.n V.sq.c,O V.db.a V.db.n V.db.c,O V.dq.a V.dq.n V.dq.c,O V.fl.a V.fl.n V.fl.c,Xe Xf m.cnt,O V.ca.a V.ca.n V.ca.c,O V.sp.a V.sp.n V.sp.c]):=show BoxT _ _ _ _ by rw[<-hW0];exact(BoxT.top w [O V.f.a V.f.n V.f.c,Xe Xf m.hand,O V.s.a V.s.n V.s.c,O V.sb.a V.sb.n V.sb.c,O V.sq.a V.sq.n V.sq.c,O V.db.a V.db.n V.db.c,O V.dq.a V.dq.n V.dq.c,O V.fl.a V.fl.n V.fl.c,Xe Xf m.cnt,O V.ca.a V.ca.n V.ca.c,O V.sp.a V.sp.n V.sp.c] _ HB.out.symm).grew (grew_alloc _ _)
 have Z0:Xo (BoxT W0 (b+1) 42 zeroM):=show BoxT _ _ _ _ by rw[<-hW0];exact BoxT.top _ zeroM _ (by have:=HB.out;simp;omega)
 have HW0:Xo (_=W0):=hW0;clear hW0;have hus:=HUS.out W0 G0.out
 go_enter Tryz.func140,Tryz.ntmps140
 go_upto_region 1 with fail;rw[HW0.out,HB.out];clear HW0 HUS;obtain⟨x0,x1,x2,x3,x4,x5,x6,x7,x8,x9,x10⟩:=X0.out.box.c11;go_wp2_with fail;refine hus.mono ?_;clear hus x0 x1 x2 x3 x4 x5 x6 x7 x8 x9 x10;rintro r W1 ⟨⟨a,er,rfl,hU⟩,g1⟩;have HU:Xo (Usable m p n wr a er):=hU;clear hU;go_upto_region 2 with fail;obtain⟨c,HC⟩:∃c,Xo (W1.heap.size=c):=⟨_,rfl⟩;obtain⟨W2,hW2⟩:∃W2,W1.alloc (Xk #[Xe Xf a.fr,Xe Xf a.tz,Xh a.rd,Xh a.wr,Xh a.sh,Xe Xf a.file,Xe Xf a.base] 125)=W2:=⟨_,rfl⟩;have g2:Grew W0 W2:=by rw[<-hW2];exact g1.trans (grew_alloc _ _)
 have Y2:=xPT hW2 HC
 have X2:=dD (X0.out.grew g2);have Z2:=dD (Z0.out.grew g2);have G2:=dD (G0.out.trans g2);rw[hW2,HC.out];clear hW2 g1 g2 X0 Z0 G0 HC
 by_cases he:er=0
 rotate_left
 ·have hz:(er != 0)=Xc:=by simp[he]
  have HN:Xo (NotUsed m BF p n wr er):=show NotUsed _ _ _ _ _ _ from⟨he,.inl (by have:=HU.out;rw[usable_same HU.out he]at this;exact this)⟩
  clear he
  go_wp2_with (refine wp_storeAllT rfl 42 (.tmp 8) (.tmp 27) rfl (b+1) rfl zeroM rfl Z2.out rfl (by kernel_rfl) (by unfold zeroM;simp[Value.oneCell']) ?_)
  intro WL hbL hgL _;have HGL:Xo (Grew w WL):=show Grew _ _ from grew_grown G2.out hgL (by have:=HB.out;omega)
  have HBX:Xo (BoxT WL (b+1) 42 zeroM):=hbL;clear hbL hgL;go_wp2;refine bodyPost_ret (ret_cell_tmp2 rfl _ rfl HBX.out.box Tryz.underlying42 rfl (by kernel_rfl)) rfl ⟨.inl ⟨er,rfl,HN.out⟩,HGL.out⟩
 subst he;have hvw:=HVW.out W2 G2.out;obtain⟨x0,x1,x2,x3,x4,x5,x6,x7,x8,x9,x10⟩:=X2.out.box.c11;go_wp2_with fail;refine hvw.mono ?_;clear hvw HVW x0 x1 x2 x3 x4 x5 x6 x7 x8 x9 x10;rintro r W3 ⟨rfl,hl8,g3⟩;obtain⟨VW,HVV⟩:∃VW,Xo (viewL m p n=VW):=⟨_,rfl⟩;rw[HVV.out]at hl8⊢;obtain⟨vl,ic,ev⟩:=VW;obtain⟨pg,rfl⟩:=pg_of hl8;obtain⟨b0,b1,b2,b3,b4,b5,b6,b7⟩:=pg;clear hl8;simp only[viewV,pgL,pgc,List.map];go_upto_region 5 with fail;obtain⟨d,HD⟩:∃d,Xo (W3.heap.size=d):=⟨_,rfl⟩;obtain⟨W4,hW4⟩:∃W4,W3.alloc (Xk #[Xe Xg b0,Xe Xg b1,Xe Xg b2,Xe Xg b3,Xe Xg b4,Xe Xg b5,Xe Xg b6,Xe Xg b7] 91)=W4:=⟨_,rfl⟩;have g4:Grew W2 W4:=by rw[<-hW4];exact g3.trans (grew_alloc _ _)
 have P4:=xPT hW4 HD
 have X4:=dD (X2.out.grew g4);have Z4:=dD (Z2.out.grew g4);have Y4:=dD (Y2.out.grew g4);have G4:=dD (G2.out.trans g4);rw[hW4,HD.out];clear hW4 g3 g4 X2 Y2 Z2 G2 HD
 by_cases he:ev=0
 rotate_left
 ·have hz:(ev != 0)=Xc:=by simp[he]
  have HN:Xo (NotUsed m BF p n wr ev):=show NotUsed _ _ _ _ _ _ from⟨he,.inr (.inl ⟨a,HU.out,by rw[HVV.out]⟩)⟩
  clear he
  go_wp2_with (refine wp_storeAllT rfl 42 (.tmp 8) (.tmp 39) rfl (b+1) rfl zeroM rfl Z4.out rfl (by kernel_rfl) (by unfold zeroM;simp[Value.oneCell']) ?_)
  intro WL hbL hgL _;have HGL:Xo (Grew w WL):=show Grew _ _ from grew_grown G4.out hgL (by have:=HB.out;omega)
  have HBX:Xo (BoxT WL (b+1) 42 zeroM):=hbL;clear hbL hgL;go_wp2;refine bodyPost_ret (ret_cell_tmp2 rfl _ rfl HBX.out.box Tryz.underlying42 rfl (by kernel_rfl)) rfl ⟨.inl ⟨ev,rfl,HN.out⟩,HGL.out⟩
 subst he;obtain⟨q,i,HPQ,HNI,HI64,s,HS⟩:∃q i:Nat,Xo (p=(q:Int))/\Xo (n=(i:Int))/\Xo (i<64)/\∃s,Xo (m.sp[q]? =Xa s):=by
  rcases HU.out with⟨e,_⟩ | ⟨q,i,_,s,_,e1,e2,e3,e4,_⟩
  ·cases e
  exact⟨q,i,e1,e2,e3,s,e4⟩
 rw[HPQ.out,HNI.out];have HOF:Xo (∀W,Grew w W->Xp Tryz.prog 24 #[Xi #[O V.f.a V.f.n V.f.c,Xe Xf m.hand,O V.s.a V.s.n V.s.c,O V.sb.a V.sb.n V.sb.c,O V.sq.a V.sq.n V.sq.c,O V.db.a V.db.n V.db.c,O V.dq.a V.dq.n V.dq.c,O V.fl.a V.fl.n V.fl.c,Xe Xf m.cnt,O V.ca.a V.ca.n V.ca.c,O V.sp.a V.sp.n V.sp.c]] W fun e w'=>∃(pc B:Nat) (V':MaV),e= Xl (Xj (Xa ⟨pc,0,Xb⟩))/\OwnM B w' V' m/\W.heap.size<=B/\W.heap.size<=pc/\BoxT w' pc 88 (chL V' m)/\Grew W w'):=show∀W,_ from fun W hW=>ofOwn_any V m W (HM.out.grew hW)
 go_upto_region 7 with fail;obtain⟨I,HI⟩:∃I:Xn->Prop,Xo (∀u,I u↔Grew W4 u):=⟨fun u=>Grew W4 u,fun _=>Iff.rfl⟩
 have hI0:I W4.drew:=(HI.out _).2 (gW _)
 have hne:Nonempty (HoldI I):=⟨⟨_,hI0⟩⟩;have hx0:∀y:HoldI I,y.world.cell? ⟨b,0,Xb⟩=_:=fun y=>(X4.out.box.grew ((HI.out _).1 y.holds)).c 0 rfl
 have hx1:∀y:HoldI I,y.world.cell? ⟨b,1,Xb⟩=_:=fun y=>(X4.out.box.grew ((HI.out _).1 y.holds)).c 1 rfl
 have hx2:∀y:HoldI I,y.world.cell? ⟨b,2,Xb⟩=_:=fun y=>(X4.out.box.grew ((HI.out _).1 y.holds)).c 2 rfl
 have hx3:∀y:HoldI I,y.world.cell? ⟨b,3,Xb⟩=_:=fun y=>(X4.out.box.grew ((HI.out _).1 y.holds)).c 3 rfl
 have hx4:∀y:HoldI I,y.world.cell? ⟨b,4,Xb⟩=_:=fun y=>(X4.out.box.grew ((HI.out _).1 y.holds)).c 4 rfl
 have hx5:∀y:HoldI I,y.world.cell? ⟨b,5,Xb⟩=_:=fun y=>(X4.out.box.grew ((HI.out _).1 y.holds)).c 5 rfl
 have hx6:∀y:HoldI I,y.world.cell? ⟨b,6,Xb⟩=_:=fun y=>(X4.out.box.grew ((HI.out _).1 y.holds)).c 6 rfl
 have hx7:∀y:HoldI I,y.world.cell? ⟨b,7,Xb⟩=_:=fun y=>(X4.out.box.grew ((HI.out _).1 y.holds)).c 7 rfl
 have hx8:∀y:HoldI I,y.world.cell? ⟨b,8,Xb⟩=_:=fun y=>(X4.out.box.grew ((HI.out _).1 y.holds)).c 8 rfl
 have hx9:∀y:HoldI I,y.world.cell? ⟨b,9,Xb⟩=_:=fun y=>(X4.out.box.grew ((HI.out _).1 y.holds)).c 9 rfl
 have hx10:∀y:HoldI I,y.world.cell? ⟨b,10,Xb⟩=_:=fun y=>(X4.out.box.grew ((HI.out _).1 y.holds)).c 10 rfl
 have hy0:∀y:HoldI I,y.world.cell? ⟨c,0,Xb⟩=_:=fun y=>(Y4.out.box.grew ((HI.out _).1 y.holds)).c 0 rfl
 have hy1:∀y:HoldI I,y.world.cell? ⟨c,1,Xb⟩=_:=fun y=>(Y4.out.box.grew ((HI.out _).1 y.holds)).c 1 rfl
 have hy2:∀y:HoldI I,y.world.cell? ⟨c,2,Xb⟩=_:=fun y=>(Y4.out.box.grew ((HI.out _).1 y.holds)).c 2 rfl
 have hy3:∀y:HoldI I,y.world.cell? ⟨c,3,Xb⟩=_:=fun y=>(Y4.out.box.grew ((HI.out _).1 y.holds)).c 3 rfl
 have hy4:∀y:HoldI I,y.world.cell? ⟨c,4,Xb⟩=_:=fun y=>(Y4.out.box.grew ((HI.out _).1 y.holds)).c 4 rfl
 have hy5:∀y:HoldI I,y.world.cell? ⟨c,5,Xb⟩=_:=fun y=>(Y4.out.box.grew ((HI.out _).1 y.holds)).c 5 rfl
 have hy6:∀y:HoldI I,y.world.cell? ⟨c,6,Xb⟩=_:=fun y=>(Y4.out.box.grew ((HI.out _).1 y.holds)).c 6 rfl
 have hz0:∀y:HoldI I,y.world.cell? ⟨d,0,Xb⟩=_:=fun y=>(P4.out.box.grew ((HI.out _).1 y.holds)).c 0 rfl
 have hz1:∀y:HoldI I,y.world.cell? ⟨d,1,Xb⟩=_:=fun y=>(P4.out.box.grew ((HI.out _).1 y.holds)).c 1 rfl
 have hz2:∀y:HoldI I,y.world.cell? ⟨d,2,Xb⟩=_:=fun y=>(P4.out.box.grew ((HI.out _).1 y.holds)).c 2 rfl
 have hz3:∀y:HoldI I,y.world.cell? ⟨d,3,Xb⟩=_:=fun y=>(P4.out.box.grew ((HI.out _).1 y.holds)).c 3 rfl
 have hz4:∀y:HoldI I,y.world.cell? ⟨d,4,Xb⟩=_:=fun y=>(P4.out.box.grew ((HI.out _).1 y.holds)).c 4 rfl
 have hz5:∀y:HoldI I,y.world.cell? ⟨d,5,Xb⟩=_:=fun y=>(P4.out.box.grew ((HI.out _).1 y.holds)).c 5 rfl
 have hz6:∀y:HoldI I,y.world.cell? ⟨d,6,Xb⟩=_:=fun y=>(P4.out.box.grew ((HI.out _).1 y.holds)).c 6 rfl
 have hz7:∀y:HoldI I,y.world.cell? ⟨d,7,Xb⟩=_:=fun y=>(P4.out.box.grew ((HI.out _).1 y.holds)).c 7 rfl
 refine wp_lax_tailE (I:=I) 12 [(1,⟨.const (Xh Xd),fun v=>∃pc:Nat,v= Xj (Xa ⟨pc,0,Xb⟩),fun _ v u=>∃(pc B:Nat) (V1:MaV),v= Xj (Xa ⟨pc,0,Xb⟩)/\W4.heap.size<=B/\W4.heap.size<=pc/\OwnM B u V1 m/\BoxT u pc 88 (chL V1 m),fun p q=>Grew p q,fun _=>True⟩),(10,⟨.const (Xh Xd),fun v=>∃g,v= Xj (Xa ⟨g,0,Xb⟩),fun _ v u=>∃g cs,v= Xj (Xa ⟨g,0,Xb⟩)/\W4.heap.size<=g/\BoxT u g 244 cs/\cs.length=20,fun p q=>Grew p q,fun _=>True⟩),(11,⟨.tmp 15,fun _=>True,fun r _ u=>∃(g pc B:Nat) (V1:MaV),r= Xj (Xa ⟨g,0,Xb⟩)/\W4.heap.size<=g/\BoxT u g 244 [Xj (Xa ⟨pc,0,Xb⟩),Xe Xf (q:Int),Xe Xf (i:Int),Xe Xf a.fr,Xe Xf a.tz,Xh a.rd,Xh a.wr,Xh a.sh,Xe Xf a.file,Xe Xf a.base,Xe Xg b0,Xe Xg b1,Xe Xg b2,Xe Xg b3,Xe Xg b4,Xe Xg b5,Xe Xg b6,Xe Xg b7,Xh ic,Xh wr]/\W4.heap.size<=B/\W4.heap.size<=pc/\OwnM B u V1 m/\BoxT u pc 88 (chL V1 m),fun p q=>∃g cs ds,W4.heap.size<=g/\p.grownBy q (Xa g)/\BoxT p g 244 ds/\BoxT q g 244 cs/\cs.length=20,fun _=>True⟩)] hI0 mixed (by kernel_rfl) (by kernel_rfl) rfl rfl (by decide) ?hS ?hp ?hpre ?hpr0 ?_
 case hS=>
  intro x hx;simp only[mC,nM,or_false]at hx
  rcases hx with rfl | rfl | rfl
  ·exact⟨_,0,rfl⟩
  ·exact⟨_,0,rfl⟩
  exact⟨Xh Xc,trivial⟩
 case hp=>
  intro k s j t hk hj hjk hanc r v p q hst hpo;have hk':=lookup_in hk;have hj':=lookup_in hj;clear hk hj;simp only[mC,pJ,nM,or_false]at hk' hj'
  rcases hk' with⟨rfl,rfl⟩ | ⟨rfl,rfl⟩ | ⟨rfl,rfl⟩
  ·obtain⟨pc,B,V1,h1,h2,h3,h4,h5⟩:=hpo
   rcases hj' with⟨rfl,rfl⟩ | ⟨rfl,rfl⟩ | ⟨rfl,rfl⟩
   ·exact absurd rfl hjk
   ·exact⟨pc,B,V1,h1,h2,h3,h4.grew hst,h5.grew hst⟩
   obtain⟨g',cs,ds,q1,q2,q3,q4,q5⟩:=hst;exact⟨pc,B,V1,h1,h2,h3,h4.other q2 q3,h5.beside q2 fun k hk=>by cases hk;exact h5.off q3 (by decide)⟩
  ·obtain⟨g,cs,h1,h2,h3,h4⟩:=hpo
   rcases hj' with⟨rfl,rfl⟩ | ⟨rfl,rfl⟩ | ⟨rfl,rfl⟩
   ·exact⟨g,cs,h1,h2,h3.grew hst,h4⟩
   ·exact absurd rfl hjk
   obtain⟨g',cs',ds,q1,q2,q3,q4,q5⟩:=hst
   by_cases e:g=g'
   ·subst e;exact⟨g,_,h1,h2,q4,q5⟩
   exact⟨g,cs,h1,h2,h3.beside q2 (fun k hk=>by cases hk;exact e),h4⟩
  obtain⟨g,pc,B,V1,h1,h2,h3,h4,h5,h6,h7⟩:=hpo
  rcases hj' with⟨rfl,rfl⟩ | ⟨rfl,rfl⟩ | ⟨rfl,rfl⟩
  ·exact⟨g,pc,B,V1,h1,h2,h3.grew hst,h4,h5,h6.grew hst,h7.grew hst⟩
  ·exact⟨g,pc,B,V1,h1,h2,h3.grew hst,h4,h5,h6.grew hst,h7.grew hst⟩
  exact absurd rfl hjk
 case hpre=>
  intro j t k s hj hk hjk p q hst hpr;have hj':=lookup_in hj;simp only[mC,pJ,nM,or_false]at hj'
  rcases hj' with⟨rfl,rfl⟩ | ⟨rfl,rfl⟩ | ⟨rfl,rfl⟩ <;> trivial
 case hpr0=>
  intro k t hk;have hk':=lookup_in hk;simp only[mC,pJ,nM,or_false]at hk'
  rcases hk' with⟨rfl,rfl⟩ | ⟨rfl,rfl⟩ | ⟨rfl,rfl⟩ <;> trivial
 simp only[List.take,List.drop];refine laxE_quiet rfl rfl rfl (fun K hK=>?_);go_big_quiet_op;refine hK _ ?_;clear hK K
 refine laxE_spec rfl rfl (fun w' hI' hpr hF=>?_) (fun v1 hv=>?_)
 ·refine Does.call [Xi #[O V.f.a V.f.n V.f.c,Xe Xf m.hand,O V.s.a V.s.n V.s.c,O V.sb.a V.sb.n V.sb.c,O V.sq.a V.sq.n V.sq.c,O V.db.a V.db.n V.db.c,O V.dq.a V.dq.n V.dq.c,O V.fl.a V.fl.n V.fl.c,Xe Xf m.cnt,O V.ca.a V.ca.n V.ca.c,O V.sp.a V.sp.n V.sp.c]] rfl Tryz.func24 rfl rfl rfl ?_;refine(HOF.out w' (G4.out.trans ((HI.out _).1 hI'))).mono ?_;rintro e w'' ⟨pc,B,V1,rfl,ow,k1,k2,bx,gg⟩;have hs:=bS ((HI.out _).1 hI');exact⟨_,rfl,(HI.out _).2 (((HI.out _).1 hI').trans gg),gg,⟨pc,rfl⟩,pc,B,V1,rfl,nT hs k1,nT hs k2,ow,bx⟩
 obtain⟨pc,rfl⟩:=hv;simp only[Xs,sB,sS,sZ];iterate 8 (refine laxE_quiet rfl rfl rfl (fun K hK=>?_);go_big_quiet_op;refine hK _ ?_;clear hK K)
 refine laxE_spec rfl rfl (fun w' hI' hpr hF=>?_) (fun v1 hv=>?_)
 ·refine Does.step (v:= Xj (Xa ⟨w'.heap.size,0,Xb⟩)) (w':=w'.alloc (Xk #[Xj Xb,Xe Xf 0,Xe Xf 0,Xe Xf 0,Xe Xf 0,Xh Xd,Xh Xd,Xh Xd,Xe Xf 0,Xe Xf 0,Xe Xg 0,Xe Xg 0,Xe Xg 0,Xe Xg 0,Xe Xg 0,Xe Xg 0,Xe Xg 0,Xe Xg 0,Xh Xd,Xh Xd] 244)) (run_allocUse rfl) ⟨(HI.out _).2 (((HI.out _).1 hI').trans (grew_alloc _ _)),grew_alloc _ _,⟨_,rfl⟩,_,_,rfl,bS ((HI.out _).1 hI'),BoxT.top _ [Xj Xb,Xe Xf 0,Xe Xf 0,Xe Xf 0,Xe Xf 0,Xh Xd,Xh Xd,Xh Xd,Xe Xf 0,Xe Xf 0,Xe Xg 0,Xe Xg 0,Xe Xg 0,Xe Xg 0,Xe Xg 0,Xe Xg 0,Xe Xg 0,Xe Xg 0,Xh Xd,Xh Xd] _ rfl,rfl⟩
 obtain⟨pq,rfl⟩:=hv;simp only[Xs,sB,sS,sZ];refine laxE_spec rfl rfl (fun w' hI' hpr hF=>?_) (fun v1 hv=>?_)
 ·obtain⟨g,cs,hg1,hg2,hg3,hg4⟩:=hF 10 (by kernel_rfl)
  simp only[Value.pointer.injEq,Option.some.injEq,Addr.mk.injEq,and_true]at hg1;subst hg1;obtain⟨pc',B,V1,he,k1,k2,ow,bx⟩:=hF 1 (by kernel_rfl)
  simp only[Value.pointer.injEq,Option.some.injEq,Addr.mk.injEq,and_true]at he;subst he;refine Does.storeAllT 244 (.tmp 15) (.tmp 50) rfl pq rfl [Xj (Xa ⟨pc,0,Xb⟩),Xe Xf (q:Int),Xe Xf (i:Int),Xe Xf a.fr,Xe Xf a.tz,Xh a.rd,Xh a.wr,Xh a.sh,Xe Xf a.file,Xe Xf a.base,Xe Xg b0,Xe Xg b1,Xe Xg b2,Xe Xg b3,Xe Xg b4,Xe Xg b5,Xe Xg b6,Xe Xg b7,Xh ic,Xh wr] rfl hg3 (by rw[hg4];rfl) (by rw[hg4];kernel_rfl) (by simp[Value.oneCell']) fun w'' b1 b2 b3=>?_
  exact⟨(HI.out _).2 (grew_grown ((HI.out _).1 hI') b2 hg2),⟨pq,_,_,hg2,b2,hg3,b1,rfl⟩,trivial,pq,pc,B,V1,rfl,hg2,b1,k1,k2,ow.other b2 hg3,bx.beside b2 fun k hk=>by cases hk;exact bx.off hg3 (by decide)⟩
 simp only[Xs];refine laxE_nil fun W5 hI5 hF=>?_
 obtain⟨g',pc',B,V1,hg1,hg3,hg2,k1,k2,ow,bx⟩:=hF 11;have hg1':(Value.pointer (Xa ⟨pq,0,Xb⟩):Xq)= Xj (Xa ⟨g',0,Xb⟩):=hg1;simp only[Value.pointer.injEq,Option.some.injEq,Addr.mk.injEq,and_true]at hg1';subst hg1';have g5:=(HI.out _).1 hI5;have M5:Xo (ChW W4 pc' W5 V1 m):=ChW.of ow k1 g5 k2 bx;have U5:Xo (BoxT W5 pq 244 [Xj (Xa ⟨pc',0,Xb⟩),Xe Xf (q:Int),Xe Xf (i:Int),Xe Xf a.fr,Xe Xf a.tz,Xh a.rd,Xh a.wr,Xh a.sh,Xe Xf a.file,Xe Xf a.base,Xe Xg b0,Xe Xg b1,Xe Xg b2,Xe Xg b3,Xe Xg b4,Xe Xg b5,Xe Xg b6,Xe Xg b7,Xh ic,Xh wr]):=hg2;have Z5:=dD (Z4.out.grew g5);have HZL:Xo (b+1<W4.heap.size):=Z4.out.box.lt;have HWL:Xo (w.heap.size<=W4.heap.size):=show _<=_ from bS G4.out
 have G5:=dD (G4.out.trans g5);clear hF hI5 hI0 hne g5 hg1 hg2 hg3 HI HOF k1 k2 ow bx X4 Y4 Z4 P4 hx0 hx1 hx2 hx3 hx4 hx5 hx6 hx7 hx8 hx9 hx10 hy0 hy1 hy2 hy3 hy4 hy5 hy6 hz0 hz1 hz2 hz3 hz4 hz5 hz6 hz7;obtain⟨pg,HPG⟩:∃pg:Pg,Xo ((⟨b0,b1,b2,b3,b4,b5,b6,b7⟩:Pg)=pg):=⟨_,rfl⟩;have HVP:Xo (viewL m p n=(pgL pg,ic,0)):=show _=_ by rw[<-HPG.out];exact HVV.out
 have hbr:=useBring_any M5.out HR.out q i s HS.out HI64.out a ⟨b0,b1,b2,b3,b4,b5,b6,b7⟩ ic wr (fun l mv hl h0 W1 V2 hc hv=>HFF.out W4 W1 pc' V2 (dropAll m l) mv l hl rfl hc (dropAll_goes l HR.out hl).1.rt h0 hv) (BF q i a ⟨b0,b1,b2,b3,b4,b5,b6,b7⟩ wr) (fun hc W hW=>by
  obtain⟨⟨h1,h2⟩,h3⟩:=hc;have hv:=HVV.out;rw[h2]at hv⊢;exact HBB.out q i a ⟨b0,b1,b2,b3,b4,b5,b6,b7⟩ HPQ.out HNI.out HU.out hv h1 h3 W4 W pc' V1 (M5.out.grew hW))
 simp only at hbr;rw[HPG.out]at hbr;obtain⟨BR,HBR⟩:∃BR,Xo (bringR m (BF q i a pg wr) pg a ic wr q i=BR):=⟨_,rfl⟩;have HIN:Xo (BR.1=Xc->Into BR.2.1 q i BR.2.2):=show _->_ from fun h=>by
  rw[<-HBR.out]at h⊢;exact HGG.out q i a pg ic HPQ.out HNI.out HU.out HVP.out h
 rw[HBR.out]at hbr;obtain⟨eb,HEB⟩:∃eb:Int,Xo ((if BR.1=Xc then(0:Int)else 10)=eb):=⟨_,rfl⟩;rw[HEB.out]at hbr;clear HFF HBB HGG
 go_wp2_with (refine wp_loadAll rfl 244 (.tmp 15) rfl pq rfl U5.out.box Tryz.underlying244 rfl (by kernel_rfl) ?_)
 refine hbr.mono ?_;clear hbr;rintro r W6 ⟨rfl,V6,c6,o6,d6⟩;have U6:Xo (BoxT W6 pq 244 [Xj (Xa ⟨pc',0,Xb⟩),Xe Xf (q:Int),Xe Xf (i:Int),Xe Xf a.fr,Xe Xf a.tz,Xh a.rd,Xh a.wr,Xh a.sh,Xe Xf a.file,Xe Xf a.base,Xe Xg b0,Xe Xg b1,Xe Xg b2,Xe Xg b3,Xe Xg b4,Xe Xg b5,Xe Xg b6,Xe Xg b7,Xh ic,Xh wr]):=U5.out.outD o6 (M5.out.offB U5.out (by decide) (by decide) (by decide) (by decide))
 have Z6:Xo (BoxT W6 (b+1) 42 zeroM):=Z5.out.outD o6 (fun e=>by have:=M5.out.dlo _ e;have:=HZL.out;omega)
 have M6:Xo (ChW W4 pc' W6 V6 BR.2.2):=c6;have G6:Xo (Grew w W6):=G4.out.trans c6.gr;clear c6 o6 d6 U5 Z5 M5 G5;obtain⟨bb,kb,mB⟩:=BR;simp only at M6 HIN⊢
 cases bb with
 | false=>
  have h10:eb=10:=by rw[<-HEB.out];rfl
  subst h10;have HN:Xo (NotUsed m BF p n wr 10):=show NotUsed _ _ _ _ _ _ from⟨by decide,.inr (.inr ⟨rfl,q,i,a,pg,ic,HPQ.out,HNI.out,HU.out,HVP.out,by rw[HBR.out]⟩)⟩
  go_wp2_with (refine wp_storeAllT rfl 42 (.tmp 8) (.tmp 58) rfl (b+1) rfl zeroM rfl Z6.out rfl (by kernel_rfl) (by unfold zeroM;simp[Value.oneCell']) ?_)
  intro WL hbL hgL _;have HGL:Xo (Grew w WL):=show Grew _ _ from grew_grown G6.out hgL (by have:=HB.out;omega)
  have HBX:Xo (BoxT WL (b+1) 42 zeroM):=hbL;clear hbL hgL;go_wp2;refine bodyPost_ret (ret_cell_tmp2 rfl _ rfl HBX.out.box Tryz.underlying42 rfl (by kernel_rfl)) rfl ⟨.inl ⟨10,rfl,HN.out⟩,HGL.out⟩
 | true=>
  have h10:eb=0:=by rw[<-HEB.out];rfl
  subst h10;obtain⟨s',fr,we,i1,i2,i3,i4⟩:=HIN.out rfl;have HUD:Xo (Used m BF p n wr kb (markM mB q i kb fr wr a.sh)):=show Used _ _ _ _ _ _ _ from⟨q,i,a,pg,ic,fr,HPQ.out,HNI.out,HU.out,HVP.out,by rw[HBR.out],by rw[HBR.out],by rw[HBR.out];exact i3,by rw[HBR.out]⟩
  have hmk:=useMark_any M6.out q i kb fr s' we i3 i1.inv.fs40 (fun s hs=>i1.tb hs) i2 HI64.out i4 a ⟨b0,b1,b2,b3,b4,b5,b6,b7⟩ ic wr
  obtain⟨mM,HMM⟩:∃mM,Xo (markM mB q i kb fr wr a.sh=mM):=⟨_,rfl⟩;simp only at hmk;rw[HMM.out]at hmk HUD;clear i1 i2 i3 i4 HIN HMM HEB HBR
  go_wp2_with (refine wp_loadAll rfl 244 (.tmp 15) rfl pq rfl U6.out.box Tryz.underlying244 rfl (by kernel_rfl) ?_)
  refine hmk.mono ?_;clear hmk;rintro r W7 ⟨⟨v7,rfl⟩,V7,c7,o7,d7⟩;have U7:Xo (BoxT W7 pq 244 [Xj (Xa ⟨pc',0,Xb⟩),Xe Xf (q:Int),Xe Xf (i:Int),Xe Xf a.fr,Xe Xf a.tz,Xh a.rd,Xh a.wr,Xh a.sh,Xe Xf a.file,Xe Xf a.base,Xe Xg b0,Xe Xg b1,Xe Xg b2,Xe Xg b3,Xe Xg b4,Xe Xg b5,Xe Xg b6,Xe Xg b7,Xh ic,Xh wr]):=U6.out.outD o7 (M6.out.offB U6.out (by decide) (by decide) (by decide) (by decide))
  have Z7:Xo (BoxT W7 (b+1) 42 zeroM):=Z6.out.outD o7 (fun e=>by have:=M6.out.dlo _ e;have:=HZL.out;omega)
  have M7:Xo (ChW W4 pc' W7 V7 mM):=c7;clear c7 o7 d7 U6 Z6 M6 G6;have u0:=U7.out.box.c 0 rfl;obtain⟨r0,r1,r2,r3,r4,r5,r6,r7,r8,r9,r10⟩:=M7.out.box.box.c11;have HZO:Xo (∀v∈chL V7 mM,v.oneCell'=Xc):=show∀v∈chL V7 mM,_ by simp[chL,Value.oneCell']
  go_wp2_with (refine wp_storeAllT rfl 42 (.tmp 8) (.tmp 67) rfl (b+1) rfl (chL V7 mM) rfl Z7.out rfl (by kernel_rfl) HZO.out ?_)
  clear u0 r0 r1 r2 r3 r4 r5 r6 r7 r8 r9 r10;intro W8 bx8 gr8 _;have G8:Xo (Grew w W8):=show Grew _ _ from grew_grown (G4.out.trans M7.out.gr) gr8 (by have:=HB.out;omega)
  have B8:Xo (BoxT W8 (b+1) 42 (chL V7 mM)):=bx8;have HF:Xo (ChW w pc' W8 V7 mM):=M7.out.lower gr8 HZL.out G8.out HWL.out;clear bx8 gr8;go_wp2;refine bodyPost_ret (ret_cell_tmp2 rfl _ rfl B8.out.box Tryz.underlying42 rfl (by kernel_rfl)) rfl ⟨.inr ⟨V7,kb,pc',mM,rfl,HUD.out,HF.out⟩,G8.out⟩
theorem Tryz.arrPage:Tryz.prog.underlying 91=Xa (.array (Tryz.prog.arrayLen 91) (Tryz.prog.elem 91)):=by kernel_rfl
theorem Tryz.lenPage:Tryz.prog.arrayLen 91=8:=by kernel_rfl
theorem Tryz.elemPage:Tryz.prog.elem 91=5:=by kernel_rfl
def pgWithin (m n:Int):Bool:=decide (0<=m/\0<=n/\n<=8 - m % 8)
theorem retB {a b:Bool} (h:a=b):Ending.returned (Xh a)= Xl (Xh b):=by rw[h]
theorem pgWithin_any (m n:Int) (w:Xn) (h1:-9223372036854775808<=m) (h2:m<=9223372036854775807) (h3:-9223372036854775808<=n) (h4:n<=9223372036854775807):
  Xp Tryz.prog 139 #[Xe Xf m,Xe Xf n] w fun e w'=>e= Xl (Xh (pgWithin m n))/\w'=w:=by
 by_cases hm:0<=m
 ·by_cases hn:0<=n
  ·have H:Xo (pgWithin m n=decide (n<=8 - m % 8)):=show pgWithin m n=_ by unfold pgWithin;simp[hm,hn]
   go_enter Tryz.func139,Tryz.ntmps139
   go_wp2;go_ret;exact⟨retB H.out.symm,rfl⟩
  have H:Xo (pgWithin m n=Xd):=show pgWithin m n=_ by unfold pgWithin;simp;omega
  go_enter Tryz.func139,Tryz.ntmps139
  go_wp2;go_ret;exact⟨retB H.out.symm,rfl⟩
 have H:Xo (pgWithin m n=Xd):=show pgWithin m n=_ by unfold pgWithin;simp;omega
 go_enter Tryz.func139,Tryz.ntmps139
 go_wp2;go_ret;exact⟨retB H.out.symm,rfl⟩
def pgHas (m:Int):Bool:=decide (0<=m/\m<8)
theorem pgHas_any (m:Int) (w:Xn):Xp Tryz.prog 141 #[Xe Xf m] w fun e w'=>e= Xl (Xh (pgHas m))/\w'=w:=by
 by_cases hm:0<=m
 ·have H:Xo (pgHas m=decide (m<8)):=show pgHas m=_ by unfold pgHas;simp[hm]
  go_enter Tryz.func141,Tryz.ntmps141
  go_wp2;go_ret;exact⟨retB H.out.symm,rfl⟩
 have H:Xo (pgHas m=Xd):=show pgHas m=_ by unfold pgHas;simp;omega
 go_enter Tryz.func141,Tryz.ntmps141
 go_wp2;go_ret;exact⟨retB H.out.symm,rfl⟩
theorem slice_pgI (B i:Nat) (hi:i<8) (w:Xn):(Instr.sliceAt 91 (Xj (Xa ⟨B,0,Xb⟩)) (Xa (Xe Xf (i:Int))) Xb Xb).run Tryz.prog w= .ok (O (Xa ⟨B,i,Xb⟩) (8 - i) (8 - i)) w:=by
 obtain⟨i5,hi5,hz0,hz1,hz2⟩:=info_parts Tryz.infoU8;rw[run_sliceAt_array_l w 91 ⟨B,0,Xb⟩ Tryz.arrPage .i64 i (by omega) (by rw[Tryz.lenPage];omega),Tryz.lenPage,Tryz.elemPage]
 simp[sizeOf,typeInfo,hi5,hz1,slicedAt,Result.andThen,Xu]
 omega
theorem pageGetAt_any (l:List Int) (i n:Nat) (w:Xn) (hl:l.length=8) (hi8:i<8) (hn:i+n<=8):
  Xp Tryz.prog 82 #[Xi (pgc l).toArray,Xe Xf (i:Int),Xe Xf (n:Int)] w fun e w'=>∃v,e= Xl v/\OwnRow byE w.heap.size w' v ((l.drop i).take n)/\Grew w w':=by
 have HL:Xo (l.length=8):=hl;obtain⟨W0,hW0⟩:∃W0,w.alloc (Xk (pgc l).toArray 91)=W0:=⟨_,rfl⟩;have G0:=gA hW0
 have X0:=xA hW0
 have HS0:=sA hW0
 have HW0:Xo (_=W0):=hW0;have hd:decide ((n:Int)<0)=Xd:=decide_eq_false (by omega)
 have hd2:decide ((8:Int) -(i:Int)< (n:Int))=Xd:=decide_eq_false (by omega)
 have hd3:decide ((i:Int)<0)=Xd:=decide_eq_false (by omega)
 clear hW0 hl
 go_enter Tryz.func82,Tryz.ntmps82
 go_upto_region 3 with fail;rw[HW0.out];clear HW0 hd hd2 hd3
 go_wp2_with (refine wpList_make_row byE rfl (.tmp 20) rfl n rfl (by show n*1<=_;omega) ?_)
 intro C own;obtain⟨W1,hW1⟩:∃W1,W0.alloc (Xk C byE.ty)=W1:=⟨_,rfl⟩;have g1:Grew W0 W1:=by rw[<-hW1];exact grew_alloc _ _
 have O1:Xo (OwnRow byE (w.heap.size+1) W1 (O (Xa ⟨w.heap.size+1,0,Xb⟩) n n) (Xr n 0)):=show OwnRow _ _ _ _ _ by
  rw[hW1,HS0.out]at own;exact own
 have X1:=dD (X0.out.grew g1);have G1:=dD (G0.out.trans g1);rw[hW1,HS0.out];clear hW1 own g1 X0 G0;have hsl:=slice_pgI w.heap.size i hi8 W1;have HMT:Xo (((l.drop i).take n).length=n):=show _=_ by rw[List.length_take,List.length_drop,HL.out];omega
 have HSC:Xo (Cells W1 ⟨w.heap.size,i,Xb⟩ (((l.drop i).take n).flatMap byE.enc)):=show Cells _ _ _ from fun j u hu=>by
  have he:((l.drop i).take n).flatMap byE.enc=pgc ((l.drop i).take n):=by
   unfold pgc;rw[List.flatMap_def]
   induction((l.drop i).take n)with
   | nil=>rfl
   | cons x xs ih=>simp only[mP,List.flatten_cons,ih];rfl
  rw[he]at hu;have h2:(pgc l)[i+j]? =Xa u:=by
   unfold pgc at hu⊢;rw[Xv]at hu⊢;rw[List.getElem?_take]at hu
   split at hu
   ·rw[List.getElem?_drop]at hu;exact hu
   cases hu
  have:=X1.out.c (i+j) h2;rw[Xu];exact this
 go_wp2_with (refine wpList_copy_elts (E:=byE) rfl (.tmp 22) (.tmp 24) rfl (w.heap.size+1) _ (Xr n 0) O1.out (w.heap.size+1) rfl 0 n n ⟨w.heap.size+1,0,Xb⟩ rfl rfl ⟨w.heap.size,i,Xb⟩ (8 - i) (8 - i) rfl ((l.drop i).take n) ?qm HSC.out ?qf ?_)
 case qm=>
  rw[HMT.out]
  show n=min (8 - i) n
  omega
 case qf=>
  rw[HMT.out,lR];omega
 intro W2 own2 g2 _;have HRW:Xo (OwnRow byE w.heap.size W2 (O (Xa ⟨w.heap.size+1,0,Xb⟩) n n) ((l.drop i).take n)):=show OwnRow _ _ _ _ _ by
  rw[HL.out,show n - min n (8 - i)=0 by omega,List.replicate_zero,List.append_nil]at own2
  exact own2.base (Nat.le_succ _)
 have HG2:Xo (Grew w W2):=show Grew _ _ from grew_grown G1.out g2 (by omega)
 clear own2 g2;go_wp2;refine bodyPost_ret (results_tmp rfl _ _ _) rfl ⟨O (Xa ⟨w.heap.size+1,0,Xb⟩) n n,rfl,HRW.out,HG2.out⟩
theorem map_splice {α β:Type} (f:α->β) (L:List α) (off:Nat) (cs:List α):(splice L off cs).map f=splice (L.map f) off (cs.map f):=by
 simp[splice,List.map_take,List.map_drop]
theorem setRow_alloc2 (w:Xn) (cur cs:Array Xq) (t:TypeId) (o:Obj):((w.alloc (Xk cur t)).alloc o).setRow w.heap.size cs=(w.alloc (Xk cs t)).alloc o:=by
 unfold World.setRow World.alloc
 congr 1
 apply Array.ext
 ·simp
 intro i h1 h2;simp only[Array.getElem_modify,Array.getElem_push,Array.size_push];simp only[Array.size_modify,Array.size_push]at h1
 by_cases h3:i=w.heap.size
 ·subst h3;simp
 by_cases h4:i<w.heap.size
 ·simp[h4,Ne.symm h3]
 have:i=w.heap.size+1:=by omega
 subst this;simp
theorem wpList_copy_box {P:Program} {w:Xn} {ops:Array Oper} {rest:List Oper} {o:Oper} {a:Act} {Q:Exit->Act->Xn->Prop} (hgd:o.guard=Xb) (d s:Operand) (dT sT:TypeId)
  (ho:o.op= .call { callee:= .builtin .copy,args:=#[d,s],argTypes:=#[dT,sT] }) (elem:TypeId) (hu:P.underlying dT=Xa (.slice elem)) (hsz:(P.info? elem).map (·.size)=Xa 1)
  (dp sp:Option Addr) (dLen dCap sLen sCap:Nat) (hd:a.eval d= O dp dLen dCap) (hs:a.eval s= O sp sLen sCap)
  (off:Nat) (cur:List Xq) (t:TypeId) (o2:Obj) (cs:List Xq) (hn:cs.length=Nat.min sLen dLen)
  (hpos:0<cs.length->dp=Xa ⟨w.heap.size,off,Xb⟩/\∃ad,sp=Xa ad/\∀j v,cs[j]? =Xa v->w.cell? (ad.add j)=Xa v)
  (hfit:off+cs.length<=cur.length) (h1:∀v∈cs,v.oneCell'=Xc) (res:List Xq) (hres:splice cur off cs=res)
  (h:wpList P ops Q rest (a.put o.dst (goInt cs.length)) ((w.alloc (Xk res.toArray t)).alloc o2)):
  wpList P ops Q (o :: rest) a ((w.alloc (Xk cur.toArray t)).alloc o2):=by
 subst hres
 by_cases h0:cs.length=0
 ·obtain rfl:cs=[]:=eN h0;refine wpList_copy_nothing hgd d s dT sT ho elem hu hsz dp sp dLen dCap sLen sCap hd hs (by simpa using hn.symm) ?_
  simpa [splice]using h
 obtain⟨rfl,ad,rfl,hsrc⟩:=hpos (by omega)
 refine wpList_copy_own hgd d s dT sT ho elem hu hsz w.heap.size off dLen dCap ad sLen sCap hd hs cur.toArray t ?_ cs hn (fun j v hj=>?_) (by simpa using hfit) h1 ?_
 ·rw[Below.heap_alloc _ _ _ (by simp)]
  show(w.heap.push _)[w.heap.size]? =_
  simp
 ·have hc:=hsrc j v hj;have hlt:=World.block_lt_of_cell? _ _ hc;rw[World.cell?_alloc_lt _ _ _ (by simp;omega),World.cell?_alloc_lt _ _ _ hlt]
  exact hc
 rw[setRow_alloc2]
 simpa [splice]using h
theorem pageSetAt_any (b0 b1 b2 b3 b4 b5 b6 b7 c0 c1 c2 c3 c4 c5 c6 c7:Int) (i:Nat) (ns:List Int) (a:Option Addr) (cap:Nat) (w:Xn) (hi:i<8) (hl:i+ns.length<=8) (hv:RowAt byE w (O a ns.length cap) ns)
  (hc:splice [b0,b1,b2,b3,b4,b5,b6,b7] i ns=[c0,c1,c2,c3,c4,c5,c6,c7]):
  Xp Tryz.prog 83 #[Xi #[Xe Xg b0,Xe Xg b1,Xe Xg b2,Xe Xg b3,Xe Xg b4,Xe Xg b5,Xe Xg b6,Xe Xg b7],Xe Xf (i:Int),O a ns.length cap] w fun e w'=>
   e= Xl (Xi #[Xe Xg c0,Xe Xg c1,Xe Xg c2,Xe Xg c3,Xe Xg c4,Xe Xg c5,Xe Xg c6,Xe Xg c7])/\Grew w w':=by
 have HH:Xo (pgHas i=Xc):=show _=_ by unfold pgHas;simp;omega
 have hcv:splice ([b0,b1,b2,b3,b4,b5,b6,b7].map (Value.int .u8)) i (ns.map (Value.int .u8))=[Xe Xg c0,Xe Xg c1,Xe Xg c2,Xe Xg c3,Xe Xg c4,Xe Xg c5,Xe Xg c6,Xe Xg c7]:=by
  rw[<-map_splice,hc];rfl
 have HC:Xo (splice ([b0,b1,b2,b3,b4,b5,b6,b7].map (Value.int .u8)) i (ns.map (Value.int .u8))=[Xe Xg c0,Xe Xg c1,Xe Xg c2,Xe Xg c3,Xe Xg c4,Xe Xg c5,Xe Xg c6,Xe Xg c7]):=hcv;have HP:Xo (0< (ns.map (Value.int .u8)).length->∃ad,a=Xa ad/\∀j v,(ns.map (Value.int .u8))[j]? =Xa v->w.cell? (ad.add j)=Xa v):=show _->_ from fun hpos=>by
  rw[List.length_map]at hpos;obtain⟨ad,h1,_⟩:=hv.rowsAt 0 _ (gE hpos);refine⟨ad,h1,fun j u hj=>?_⟩
  rw[Xv]at hj
  cases hn:ns[j]? with
  | none=>rw[hn]at hj;cases hj
  | some z=>
   rw[hn]at hj;cases hj;obtain⟨ad',h2,h3⟩:=hv.rowsAt j z hn;rw[h1]at h2;cases h2;have:=h3 w (Grew.refl _) 0 _ rfl;rw[show byE.k=1 from rfl,Nat.mul_one]at this
   simpa [Addr.add]using this
 have hsl:=fun W=>slice_pgI w.heap.size i hi W
 clear hcv hc hv
 go_enter Tryz.func83,Tryz.ntmps83
 go_wp2_with (first
  | (go_at_call 141;refine(pgHas_any _ _).mono ?_;rintro e w' ⟨rfl,rfl⟩;rw[HH.out])
  | (refine wpList_copy_box (w:=w) rfl (.tmp 12) (.tmp 13) 24 24 rfl 5 Tryz.underlying24 (by kernel_rfl) _ _ _ _ _ _ rfl rfl i ([b0,b1,b2,b3,b4,b5,b6,b7].map (Value.int .u8)) 91 _ (ns.map (Value.int .u8)) (by simp;show _=min _ _;omega) (fun hp=>⟨rfl,HP.out hp⟩) (by simp;omega) (ints_oneCell _ _) _ HC.out ?_))
 exact bodyPost_ret (v:= Xi #[Xe Xg c0,Xe Xg c1,Xe Xg c2,Xe Xg c3,Xe Xg c4,Xe Xg c5,Xe Xg c6,Xe Xg c7]) (by simp[results,Tryz.results83,go_sem]) rfl ⟨rfl,(show Below _ _ _ from((bR _ _).alloc (nR _) _).alloc (by simp) _)⟩
theorem takeH {P:Program} {ops:Array Oper} {Q:Exit->Act->Xn->Prop} {md:Region.Mode} {S:Xn->Prop} (i:Nat) {oi:Oper} (d:Option Tmp) (v:Xq) {fuel:Nat} {listed:Array Bool} {a:Act} {w:Xn} (hi:ops[i]? =Xa oi) (hd:oi.dst=d)
  (hs:Region.noSelect ops=Xc) (hf:Region.free md ops listed i=Xc) (hr:(Region.ready md ops listed).contains i=Xc)
  (hQ:∀c a w,Q (.panic c) (a.put d v) w->Q (.panic c) a w) (hy:YieldsIf P ops S oi v a) (hS:S w)
  (h:wpAnyH P md ops Q S fuel (listed.setIfInBounds i Xc) (a.put d v) w):wpAnyH P md ops Q S (fuel+1) listed a w:=by
 subst hd;exact wpAnyH_take hi hs hf hr hQ hy hS h
structure Cl where
 kind:Int
 proc:Int
 pt:Int
 n:Int
 file:Int
 base:Int
 rd:Bool
 wr:Bool
 sh:Bool
 dv:Sli
def clL (c:Cl):List Xq:=[Xe Xf c.kind,Xe Xf c.proc,Xe Xf c.pt,Xe Xf c.n,Xe Xf c.file,Xe Xf c.base,Xh c.rd,Xh c.wr,Xh c.sh,O c.dv.a c.dv.n c.dv.c]
theorem ChW.rebase {w0 w1 u:Xn} {p:Nat} {V:MaV} {m:Ma} (h:ChW w1 p u V m) (gr:Grew w0 u) (hs:w0.heap.size<=w1.heap.size):ChW w0 p u V m:=by
 obtain⟨xs,s1,s2,s3⟩:=h.sp;have key:∀{W:Xn},OutD (Dr w0.heap.size p V) u W->OutD (Dr w1.heap.size p V) u W:=fun hW=>hW.wide fun k hk=>hk.elim (fun e=> .inl (Xt e hs)) .inr
 exact⟨gr,nT hs h.lo,h.box,h.fs.base hs,h.ca.base hs,⟨xs,s1.base hs,s2,fun i x s hx hs' W hW=>s3 i x s hx hs' W (key hW)⟩,fun W hW=>h.rest W (key hW)⟩
theorem run_allocMach {w:Xn} {a:Act} {o:Oper} (ho:o.op= .alloc 42):(execOp a.eval o).run Tryz.prog w= .ok (.value (Xj (Xa ⟨w.heap.size,0,Xb⟩))) (w.alloc (Xk zeroM.toArray 42)):=by
 simp only[execOp,ho,zeroM]
 go_simp
theorem run_load1 {o:Oper} {a:Act} {w:Xn} (ty:TypeId) (x:Operand) (ho:o.op= .load ty x) (ad:Addr) (hx:a.eval x= Xj (Xa ad)) (v:Xq) (hc:w.cell? ad=Xa v) {d:TypeDesc} (hu:Tryz.prog.underlying ty=Xa d) (hd:d.isRow=Xd):(execOp a.eval o).run Tryz.prog w= .ok (.value v) w:=runs_loadA ty x ho ad hx v hc hu hd
def ansV (er n:Int) (s:Sli):Xq:= Xi #[Xe Xf er,Xe Xf n,O s.a s.n s.c]
def noS:Sli:=⟨Xb,0,0⟩
theorem OutD.beyond {D:Nat->Prop} {w w1 w2:Xn} {g:Nat} (o:OutD D w w1) (g2:w1.grownBy w2 (Xa g)) (hg:w.heap.size<=g):OutD D w w2:=by
 have o3:=OutD.grown (D:=fun k=>k=g) g2 rfl
 refine⟨o3.os.trans o.os,o3.tape.trans o.tape,o3.output.trans o.output,nT o.size o3.size,fun i hi hn=>?_⟩
 rw[o3.block i (Xt hi o.size) (fun e=>by have e:i=g:=e;omega)]
 exact o.block i hi hn
def WorkA (K:Int->Int->List Int->Ma->Prop) (w0:Xn) (p:Nat) (w:Xn) (e:Ending) (w':Xn):Prop:=
 ∃(er n:Int) (s:Sli) (l:List Int) (V':MaV) (m':Ma),e= Xl (ansV er n s)/\K er n l m'/\OutD (fun k=>k=p) w w'/\Grew w0 w'/\(∀W,OutD (fun k=>k<w.heap.size) w' W->RowAt byE W (O s.a s.n s.c) l)/\(er=0->BoxT w' p 88 (chL V' m')/\∀W,OutD (fun k=>k<w.heap.size) w' W->MachAt W V' m')
theorem WorkA.err {K:Int->Int->List Int->Ma->Prop} {w0 w w':Xn} {p:Nat} {V:MaV} {m:Ma} {er:Int} (he:er≠0) (hk:K er 0 [] m) (o:OutD (fun k=>k=p) w w') (g:Grew w0 w'):WorkA K w0 p w (Xl (ansV er 0 noS)) w':=
 ⟨er,0,noS,[],V,m,rfl,hk,o,g,fun _ _=>RowAt.nil _ _,fun h=>absurd h he⟩
theorem WorkA.ok {K:Int->Int->List Int->Ma->Prop} {w0 w w':Xn} {p:Nat} {V':MaV} {m':Ma} {n:Int} (hk:K 0 n [] m') (o:OutD (fun k=>k=p) w w') (g:Grew w0 w') (b:BoxT w' p 88 (chL V' m')) (h:∀W,OutD (fun k=>k<w.heap.size) w' W->MachAt W V' m'):WorkA K w0 p w (Xl (ansV 0 n noS)) w':=
 ⟨0,n,noS,[],V',m',rfl,hk,o,g,fun _ _=>RowAt.nil _ _,fun _=>⟨b,h⟩⟩
theorem refused_any (er:Int) (w:Xn):Xp Tryz.prog 21 #[Xe Xf er] w fun e w'=>e= Xl (ansV er 0 noS)/\Grew w w':=by
 unfold ansV noS
 go_enter Tryz.func21,Tryz.ntmps21
 go_wp2;refine bodyPost_ret (ret_cell rfl _ rfl (Box.top _ [Xe Xf er,Xe Xf 0,O Xb 0 0] _ rfl) Tryz.underlying50 rfl (by kernel_rfl)) rfl ⟨rfl,(show Below _ _ _ from(bR _ _).alloc (nR _) _)⟩
theorem belowK_any (n m:Int) (w:Xn):Xp Tryz.prog 74 #[Xe Xf n,Xe Xf m] w fun e w'=>e= Xl (Xh (decide (0<=n) && decide (n<m)))/\w'=w:=by
 by_cases h:0<=n
 ·have hd:decide (0<=n)=Xc:=decide_eq_true h;rw[hd,Bool.true_and]
  go_enter Tryz.func74,Tryz.ntmps74
  go_wp2;go_ret;exact⟨rfl,rfl⟩
 have hd:decide (0<=n)=Xd:=decide_eq_false h;rw[hd,Bool.false_and]
 go_enter Tryz.func74,Tryz.ntmps74
 go_wp2;go_ret;exact⟨rfl,rfl⟩
def UseA (w0:Xn) (m:Ma) (BF:Nat->Nat->Ar->Pg->Bool->Bool × Nat × Ma) (c:Cl) (wr:Bool) (cs:List Xq) (k er:Int) (w:Xn):Prop:=
 (er≠0/\NotUsed m BF c.proc (c.pt / 8) wr er)\/(er=0/\∃(V':MaV) (kk pc:Nat) (m':Ma),cs=chL V' m'/\k=(kk:Int)/\Used m BF c.proc (c.pt / 8) wr kk m'/\ChW w0 pc w V' m')
theorem UseA.lower {w0 w1 w w':Xn} {m:Ma} {BF:Nat->Nat->Ar->Pg->Bool->Bool × Nat × Ma} {c:Cl} {wr:Bool} {cs:List Xq} {k er:Int} {g:Nat} (h:UseA w1 m BF c wr cs k er w) (g2:w.grownBy w' (Xa g)) (hg:g<w1.heap.size) (gr:Grew w0 w') (hs:w0.heap.size<=w1.heap.size):UseA w0 m BF c wr cs k er w':=by
 rcases h with h | ⟨h1,V',kk,pc,m',h2,h3,h4,h5⟩
 ·exact .inl h
 exact .inr ⟨h1,V',kk,pc,m',h2,h3,h4,h5.lower g2 hg gr hs⟩
theorem UseA.newer {w0 w1 w w':Xn} {m:Ma} {BF:Nat->Nat->Ar->Pg->Bool->Bool × Nat × Ma} {c:Cl} {wr:Bool} {cs:List Xq} {k er:Int} (h:UseA w1 m BF c wr cs k er w) (g2:Grew w w') (gr:Grew w0 w') (hs:w0.heap.size<=w1.heap.size):UseA w0 m BF c wr cs k er w':=by
 rcases h with h | ⟨h1,V',kk,pc,m',h2,h3,h4,h5⟩
 ·exact .inl h
 exact .inr ⟨h1,V',kk,pc,m',h2,h3,h4,(h5.grew g2).rebase gr hs⟩
theorem OwnRow.range1 {α:Type} {E:Elt α} {base g n c:Nat} {w:Xn} {l:List α} (h:OwnRow E base w (O (Xa ⟨g,0,Xb⟩) n c) l) {i:Nat} {x:α} (hx:l[i]? =Xa x):w.rangeAt g (i*E.k) (E.enc x):=fun j v hj=>by
 have:=h.one hx j v hj;rw[add_add',Xu,zA]at this;exact this
theorem run_quo8 {z:Int} (h:0<=z) (o:Oper) (a:Act) (x:Operand) (w:Xn) (ho:o.op= .binOp .quo 3 x (.const (Xe Xf 8)) 3) (hx:a.eval x= Xe Xf z) (h2:z<=9223372036854775807):(execOp a.eval o).run Tryz.prog w= .ok (.value (Xe Xf (z / 8))) w:=by
 have hc:a.eval (.const (Xe Xf 8))= Xe Xf 8:=rfl;simp only[execOp,ho,hx,hc]
 go_simp
 rw[Int.tdiv_eq_ediv_of_nonneg h];rw[IntKind.wrap_i64];omega
structure OwnB (B:Nat) (w:Xn) (V:MaV) (m:Ma):Prop where
 fs:OwnRow frmE B w (O V.f.a V.f.n V.f.c) m.fs
 ca:OwnRow cchE B w (O V.ca.a V.ca.n V.ca.c) m.ca
 sp:∃xs:List SpV,OwnRow spcE B w (O V.sp.a V.sp.n V.sp.c) xs/\xs.length=m.sp.length/\∀(i:Nat) x s,xs[i]? =Xa x->m.sp[i]? =Xa s->∀W,OutD (fun k=>k<B\/oB V.f k\/oB V.ca k\/oB V.sp k) w W->SpaceAt W x s
 rest:∀W,OutD (fun k=>k<B\/oB V.f k\/oB V.ca k\/oB V.sp k) w W->RestW W V m
theorem ChW.ownB {w1 u:Xn} {p:Nat} {V:MaV} {m:Ma} (h:ChW w1 p u V m):OwnB w1.heap.size u V m:=by
 obtain⟨xs,s1,s2,s3⟩:=h.sp;have key:∀{W:Xn},OutD (fun k=>k<w1.heap.size\/oB V.f k\/oB V.ca k\/oB V.sp k) u W->OutD (Dr w1.heap.size p V) u W:=fun hW=>hW.wide fun k hk=>hk.elim .inl fun e=> .inr (.inr e)
 exact⟨h.fs,h.ca,⟨xs,s1,s2,fun i x s hx hs W hW=>s3 i x s hx hs W (key hW)⟩,fun W hW=>h.rest W (key hW)⟩
theorem OwnB.out {B:Nat} {u u1:Xn} {V:MaV} {m:Ma} (h:OwnB B u V m) (o:OutD (fun k=>k<B) u u1):OwnB B u1 V m:=by
 obtain⟨xs,s1,s2,s3⟩:=h.sp;have key:∀{W:Xn},OutD (fun k=>k<B\/oB V.f k\/oB V.ca k\/oB V.sp k) u1 W->OutD (fun k=>k<B\/oB V.f k\/oB V.ca k\/oB V.sp k) u W:=fun hW=>(o.wide fun k hk=> .inl hk).trans hW
 have far:∀{α:Type} {E:Elt α} {v:Xq} {l:List α},OwnRow E B u v l->OwnRow E B u1 v l:=fun hr=>⟨owns_outD hr.1 o (fun g hg e=>by have:=(hr.lt g hg).1;have e:g<B:=e;omega),hr.2⟩
 exact⟨far h.fs,far h.ca,⟨xs,far s1,s2,fun i x s hx hs W hW=>s3 i x s hx hs W (key hW)⟩,fun W hW=>h.rest W (key hW)⟩
theorem OwnB.grew {B:Nat} {u u1:Xn} {V:MaV} {m:Ma} (h:OwnB B u V m) (g:Grew u u1):OwnB B u1 V m:=h.out (OutD.grew g)
theorem OwnB.at {B:Nat} {u:Xn} {V:MaV} {m:Ma} (h:OwnB B u V m):MachAt u V m:=by
 have r:=h.rest u (OutD.refl _ _);obtain⟨xs,s1,s2,s3⟩:=h.sp;exact⟨h.fs.at,r.sl,r.sb,r.sq,r.db,r.dq,r.fl,h.ca.at,⟨xs,s1.at,s2,fun i x s hx hs=>s3 i x s hx hs u (OutD.refl _ _)⟩⟩
theorem OwnB.frame {B:Nat} {u u1:Xn} {V:MaV} {m:Ma} (h:OwnB B u V m) {fs:List Fr} {g:Nat} (hg:oB V.f g) (g2:u.grownBy u1 (Xa g)) (nr:OwnRow frmE B u1 (O V.f.a V.f.n V.f.c) fs):OwnB B u1 V { m with fs:=fs }:=by
 obtain⟨xs,s1,s2,s3⟩:=h.sp;have o:OutD (fun k=>k<B\/oB V.f k\/oB V.ca k\/oB V.sp k) u u1:=OutD.grown g2 (.inr (.inl hg))
 refine⟨nr,h.ca.grown g2 (fun k hk e=>?_),⟨xs,s1.grown g2 (fun k hk e=>?_),s2,fun i x s hx hs W hW=>s3 i x s hx hs W (o.trans hW)⟩,fun W hW=>?_⟩
 ·cases e;exact h.fs.apart h.ca (by decide) g hg hk
 ·cases e;exact h.fs.apart s1 (by decide) g hg hk
 have r:=h.rest W (o.trans hW);exact⟨r.sl,r.sb,r.sq,r.db,r.dq,r.fl⟩
def KErr (m:Ma) (BF:Nat->Nat->Ar->Pg->Bool->Bool × Nat × Ma) (c:Cl) (n:Int) (wr:Bool) (er:Int):Prop:=
 (pgWithin c.pt n=Xd/\er=2)\/(pgWithin c.pt n=Xc/\NotUsed m BF c.proc (c.pt / 8) wr er)\/
 (pgWithin c.pt n=Xc/\er=9/\∃(kk:Nat) (m':Ma) (fr:Fr) (j:Nat) (fl:Fl),Used m BF c.proc (c.pt / 8) wr kk m'/\m'.fs[kk]? =Xa fr/\fr.f=(j:Int)/\m'.fl[j]? =Xa fl/\fl.size<fr.x*8+c.pt % 8+n)
def KFine (m:Ma) (BF:Nat->Nat->Ar->Pg->Bool->Bool × Nat × Ma) (c:Cl) (n:Int) (wr:Bool) (kk:Nat) (m':Ma) (fr:Fr):Prop:=
 pgWithin c.pt n=Xc/\Used m BF c.proc (c.pt / 8) wr kk m'/\m'.fs[kk]? =Xa fr/\(fr.f=-1\/∃(j:Nat) (fl:Fl),fr.f=(j:Int)/\m'.fl[j]? =Xa fl/\fr.x*8+c.pt % 8+n<=fl.size)
theorem KErr.ne {m:Ma} {BF:Nat->Nat->Ar->Pg->Bool->Bool × Nat × Ma} {c:Cl} {n:Int} {wr:Bool} {er:Int} (h:KErr m BF c n wr er):er≠0:=by
 rcases h with⟨_,rfl⟩ | ⟨_,h,_⟩ | ⟨_,rfl,_⟩
 ·decide
 ·exact h
 decide
def KUse (m:Ma) (BF:Nat->Nat->Ar->Pg->Bool->Bool × Nat × Ma) (c:Cl) (n:Int) (wr:Bool) (w0:Xn) (p:Nat) (w:Xn) (k er:Int) (w':Xn):Prop:=
 OutD (fun k=>k=p) w w'/\Grew w0 w'/\(KErr m BF c n wr er\/(er=0/\∃(kk:Nat) (m':Ma) (fr:Fr) (V':MaV) (B:Nat),k=(kk:Int)/\KFine m BF c n wr kk m' fr/\BoxT w' p 88 (chL V' m')/\w.heap.size<=B/\OwnB B w' V' m'))
theorem kuse_any {w0 w:Xn} {p:Nat} {V:MaV} {m:Ma} (h:ChW w0 p w V m) (c:Cl) (n:Int) (wr:Bool) (BF:Nat->Nat->Ar->Pg->Bool->Bool × Nat × Ma) (hb1:-9223372036854775808<=c.pt) (hb2:c.pt<=9223372036854775807) (hb3:-9223372036854775808<=n) (hb4:n<=9223372036854775807)
  (hU:∀W,Grew w W->Xp Tryz.prog 140 #[Xi #[O V.f.a V.f.n V.f.c,Xe Xf m.hand,O V.s.a V.s.n V.s.c,O V.sb.a V.sb.n V.sb.c,O V.sq.a V.sq.n V.sq.c,O V.db.a V.db.n V.db.c,O V.dq.a V.dq.n V.dq.c,O V.fl.a V.fl.n V.fl.c,Xe Xf m.cnt,O V.ca.a V.ca.n V.ca.c,O V.sp.a V.sp.n V.sp.c],Xe Xf c.proc,Xe Xf (c.pt / 8),Xh wr] W fun e w'=>((∃er:Int,e= Xl (Xm #[Xi zeroM.toArray,Xe Xf 0,Xe Xf er])/\NotUsed m BF c.proc (c.pt / 8) wr er)\/(∃(V':MaV) (k pc:Nat) (m':Ma),e= Xl (Xm #[Xi #[O V'.f.a V'.f.n V'.f.c,Xe Xf m'.hand,O V'.s.a V'.s.n V'.s.c,O V'.sb.a V'.sb.n V'.sb.c,O V'.sq.a V'.sq.n V'.sq.c,O V'.db.a V'.db.n V'.db.c,O V'.dq.a V'.dq.n V'.dq.c,O V'.fl.a V'.fl.n V'.fl.c,Xe Xf m'.cnt,O V'.ca.a V'.ca.n V'.ca.c,O V'.sp.a V'.sp.n V'.sp.c],Xe Xf (k:Int),Xe Xf 0])/\Used m BF c.proc (c.pt / 8) wr k m'/\ChW W pc w' V' m'))/\Grew W w')
  (hI:∀(kk:Nat) (m':Ma),Used m BF c.proc (c.pt / 8) wr kk m'->∃fr:Fr,m'.fs[kk]? =Xa fr/\(fr.f=-1\/∃(j:Nat) (fl:Fl),fr.f=(j:Int)/\m'.fl[j]? =Xa fl)/\0<=fr.x/\fr.x<1000):
  Xp Tryz.prog 81 #[Xj (Xa ⟨p,0,Xb⟩),Xi #[Xe Xf c.kind,Xe Xf c.proc,Xe Xf c.pt,Xe Xf c.n,Xe Xf c.file,Xe Xf c.base,Xh c.rd,Xh c.wr,Xh c.sh,O c.dv.a c.dv.n c.dv.c],Xe Xf n,Xh wr] w fun e w'=>∃k er:Int,e= Xl (Xm #[Xe Xf k,Xe Xf er])/\KUse m BF c n wr w0 p w k er w':=by
 have HM:Xo (ChW w0 p w V m):=h;have HUS0:=show Xo _ from hU
 have HPW:Xo (p<w.heap.size):=h.dlt p (.inl rfl);have hwi:=fun W=>pgWithin_any c.pt n W hb1 hb2 hb3 hb4
 have HBD:Xo (c.pt<=9223372036854775807/\n<=9223372036854775807):=show _/\_ from⟨hb2,hb4⟩
 have HII:=show Xo _ from hI
 clear h hU hI hb1 hb2 hb3 hb4;obtain⟨b,HB⟩:∃b,Xo (w.heap.size=b):=⟨_,rfl⟩;obtain⟨W1,hW1⟩:∃W1,w.alloc (Xk #[Xe Xf c.kind,Xe Xf c.proc,Xe Xf c.pt,Xe Xf c.n,Xe Xf c.file,Xe Xf c.base,Xh c.rd,Xh c.wr,Xh c.sh,O c.dv.a c.dv.n c.dv.c] 26)=W1:=⟨_,rfl⟩;have G1:=gA hW1
 have X1:=xPT hW1 HB
 have HW1:Xo (_=W1):=hW1;clear hW1;have M1:=dD (HM.out.grew G1.out);have HUS:Xo (∀W,Grew W1 W->_):=show∀W,_ from fun W hW=>HUS0.out W (G1.out.trans hW)
 go_enter Tryz.func81,Tryz.ntmps81
 go_upto_region 1 with fail;rw[HW1.out,HB.out];clear HW1 HUS0;have x2:=X1.out.box.c 2 rfl;have hw1:=hwi W1;clear hwi;obtain⟨WI,HWI⟩:∃WI,Xo (pgWithin c.pt n=WI):=⟨_,rfl⟩;rw[HWI.out]at hw1;go_wp2_with fail;refine hw1.mono ?_;rintro r w' ⟨rfl,hw'⟩;rw[hw'];clear hw' w' hw1 x2
 cases WI with
 | false=>
  go_wp2
  go_ret2
  exact⟨0,2,rfl,OutD.grew G1.out,HM.out.gr.trans G1.out,.inl (.inl ⟨HWI.out,rfl⟩)⟩
 | true=>
  have HW3:Xo (0<=c.pt/\0<=n/\n<=8 - c.pt % 8):=show _/\_ from of_decide_eq_true HWI.out
  have HQ8:Xo (∀(o:Oper) (a:Act) (x:Operand) (w:Xn),o.op= .binOp .quo 3 x (.const (Xe Xf 8)) 3->a.eval x= Xe Xf c.pt->(execOp a.eval o).run Tryz.prog w= .ok (.value (Xe Xf (c.pt / 8))) w):=show∀(o:Oper) (a:Act) (x:Operand) (w:Xn),_ from fun o a x w h1 h2=>run_quo8 HW3.out.1 o a x w h1 h2 HBD.out.1
  go_upto_region 3 with fail
  go_cut [10,11,12] (fun s10 s11 s12 wx=>∃(g:Nat) (k er:Int) (cs:List Xq),s10= Xj (Xa ⟨g,0,Xb⟩)/\s11= Xe Xf k/\s12= Xe Xf er/\Xo (BoxT wx g 42 cs)/\Xo (Grew W1 wx)/\Xo (W1.heap.size<=g)/\Xo (UseA W1 m BF c wr cs k er wx)/\Xo (cs.length=11/\∀x∈cs,x.oneCell'=Xc))
  case first=>
   refine wp_region_held (S:=fun W=>Grew W1 W) mixed ?_
   show wpAnyH _ _ _ _ _ 19 (Array.replicate 19 Xd) _ W1.drew
   have GD:Grew W1 W1.drew:=(gW _)
   refine takeH 0 (Xa 22) (Xj (Xa ⟨p,0,Xb⟩)) rfl rfl (by kernel_rfl) (by kernel_rfl) (by kernel_rfl) (fun _ _ _ h=>h) (.inl ⟨rfl,fun _ _=>rfl⟩) GD ?_
   simp only[Xs,sB,sS,sZ];refine takeH 1 (Xa 23) (Xj (Xa ⟨p,0,Xb⟩)) rfl rfl (by kernel_rfl) (by kernel_rfl) (by kernel_rfl) (fun _ _ _ h=>h) (.inl ⟨rfl,fun _ _=>rfl⟩) GD ?_
   simp only[Xs,sB,sS,sZ];refine takeH 2 (Xa 24) (Xj (Xa ⟨p,0,Xb⟩)) rfl rfl (by kernel_rfl) (by kernel_rfl) (by kernel_rfl) (fun _ _ _ h=>h) (.inl ⟨rfl,fun _ _=>rfl⟩) GD ?_
   simp only[Xs,sB,sS,sZ];refine takeH 3 (Xa 25) (Xi (chL V m).toArray) rfl rfl (by kernel_rfl) (by kernel_rfl) (by kernel_rfl) (fun _ _ _ h=>h) (yieldsIf_load_mid rfl 42 (.tmp 24) rfl p 0 rfl (chL V m) _ (fun W hW=>(M1.out.box.box.grew hW).range) Tryz.underlying42 rfl (by kernel_rfl)) GD ?_
   simp only[Xs,sB,sS,sZ];refine takeH 4 (Xa 26) (Xj (Xa ⟨b,1,Xb⟩)) rfl rfl (by kernel_rfl) (by kernel_rfl) (by kernel_rfl) (fun _ _ _ h=>h) (.inl ⟨rfl,fun _ _=>rfl⟩) GD ?_
   simp only[Xs,sB,sS,sZ];refine takeH 5 (Xa 27) (Xe Xf c.proc) rfl rfl (by kernel_rfl) (by kernel_rfl) (by kernel_rfl) (fun _ _ _ h=>h) (.inl ⟨rfl,fun W hW=>run_load1 _ (.tmp 26) rfl ⟨b,1,Xb⟩ rfl (Xe Xf c.proc) ((X1.out.box.grew hW).c 1 rfl) Tryz.underlying3 rfl⟩) GD ?_
   simp only[Xs,sB,sS,sZ];refine takeH 6 (Xa 28) (Xj (Xa ⟨b,2,Xb⟩)) rfl rfl (by kernel_rfl) (by kernel_rfl) (by kernel_rfl) (fun _ _ _ h=>h) (.inl ⟨rfl,fun _ _=>rfl⟩) GD ?_
   simp only[Xs,sB,sS,sZ];refine takeH 7 (Xa 29) (Xe Xf c.pt) rfl rfl (by kernel_rfl) (by kernel_rfl) (by kernel_rfl) (fun _ _ _ h=>h) (.inl ⟨rfl,fun W hW=>run_load1 _ (.tmp 28) rfl ⟨b,2,Xb⟩ rfl (Xe Xf c.pt) ((X1.out.box.grew hW).c 2 rfl) Tryz.underlying3 rfl⟩) GD ?_
   simp only[Xs,sB,sS,sZ];refine takeH 8 (Xa 30) (Xe Xf (c.pt / 8)) rfl rfl (by kernel_rfl) (by kernel_rfl) (by kernel_rfl) (fun _ _ _ h=>h) (.inl ⟨rfl,fun W _=>HQ8.out _ _ _ W rfl rfl⟩) GD ?_
   simp only[Xs,sB,sS,sZ];refine takeH 9 (Xa 31) (Xh wr) rfl rfl (by kernel_rfl) (by kernel_rfl) (by kernel_rfl) (fun _ _ _ h=>h) (.inl ⟨rfl,fun _ _=>rfl⟩) GD ?_
   simp only[Xs,sB,sS,sZ];refine wpAnyH_all (rs:=[10,15]) (by kernel_rfl) (by simp) ?_
   intro j hj;simp only[mC,nM,or_false]at hj
   rcases hj with rfl | rfl
   ·skip
    refine wpOp_does (Xa 32) (fun v w'=>(∃(cs:List Xq) (k er:Int),v= Xm #[Xi cs.toArray,Xe Xf k,Xe Xf er]/\cs.length=11/\(∀x∈cs,x.oneCell'=Xc)/\UseA W1.drew m BF c wr cs k er w')/\Grew W1.drew w') rfl rfl rfl (Does.call [Xi #[O V.f.a V.f.n V.f.c,Xe Xf m.hand,O V.s.a V.s.n V.s.c,O V.sb.a V.sb.n V.sb.c,O V.sq.a V.sq.n V.sq.c,O V.db.a V.db.n V.db.c,O V.dq.a V.dq.n V.dq.c,O V.fl.a V.fl.n V.fl.c,Xe Xf m.cnt,O V.ca.a V.ca.n V.ca.c,O V.sp.a V.sp.n V.sp.c],Xe Xf c.proc,Xe Xf (c.pt / 8),Xh wr] rfl Tryz.func140 rfl rfl rfl ((HUS.out _ GD).mono ?_)) ?_
    ·rintro e w' ⟨h,hg2⟩
     rcases h with⟨er,rfl,hn⟩ | ⟨V',k,pc,m',rfl,hu,hc⟩
     ·exact⟨_,rfl,⟨zeroM,0,er,rfl,rfl,by unfold zeroM;simp[Value.oneCell'],.inl ⟨hn.1,hn⟩⟩,hg2⟩
     exact⟨_,rfl,⟨chL V' m',(k:Int),0,rfl,rfl,by simp[chL,Value.oneCell'],.inr ⟨rfl,V',k,pc,m',rfl,rfl,hu,hc⟩⟩,hg2⟩
    rintro v WT ⟨⟨cs,k,er,rfl,hlen,hone,hua⟩,gc⟩;have gt:Grew W1 WT:=GD.trans gc;refine⟨gt,?_⟩;simp only[Xs,sB,sS,sZ];refine takeH 11 (Xa 21) (Xm #[Xi cs.toArray,Xe Xf k,Xe Xf er]) rfl rfl (by kernel_rfl) (by kernel_rfl) (by kernel_rfl) (fun _ _ _ h=>h) (.inl ⟨rfl,fun _ _=>rfl⟩) gt ?_
    simp only[Xs,sB,sS,sZ];refine takeH 12 (Xa 33) (Xi cs.toArray) rfl rfl (by kernel_rfl) (by kernel_rfl) (by kernel_rfl) (fun _ _ _ h=>h) (.inl ⟨rfl,fun _ _=>rfl⟩) gt ?_
    simp only[Xs,sB,sS,sZ];refine takeH 13 (Xa 34) (Xe Xf k) rfl rfl (by kernel_rfl) (by kernel_rfl) (by kernel_rfl) (fun _ _ _ h=>h) (.inl ⟨rfl,fun _ _=>rfl⟩) gt ?_
    simp only[Xs,sB,sS,sZ];refine takeH 14 (Xa 35) (Xe Xf er) rfl rfl (by kernel_rfl) (by kernel_rfl) (by kernel_rfl) (fun _ _ _ h=>h) (.inl ⟨rfl,fun _ _=>rfl⟩) gt ?_
    simp only[Xs,sB,sS,sZ];refine wpAnyH_all (rs:=[15]) (by kernel_rfl) (by simp) ?_
    intro j hj;simp only[mC,nM,or_false]at hj;subst hj;refine wpOp_does (Xa 10) (fun v w'=>v= Xj (Xa ⟨(WT).heap.size,0,Xb⟩)/\w'=(WT).alloc (Xk zeroM.toArray 42)) rfl rfl rfl (Does.step (run_allocMach rfl) ⟨rfl,rfl⟩) ?_
    rintro v WA ⟨rfl,hwa⟩;have ga:Grew W1 WA:=by rw[hwa];exact gt.trans (grew_alloc _ _)
    have gl:Grew WT WA:=by rw[hwa];exact grew_alloc _ _
    obtain⟨g,HG⟩:∃g,Xo ((WT).heap.size=g):=⟨_,rfl⟩;have bp:BoxT WA g 42 zeroM:=by rw[hwa];exact BoxT.top _ zeroM _ HG.out.symm
    have hg1:W1.heap.size<=g:=by rw[<-HG.out];exact bS gt
    rw[HG.out];clear hwa;refine⟨ga,?_⟩;simp only[Xs,sB,sS,sZ];refine wpAnyH_all (rs:=[16]) (by kernel_rfl) (by simp) ?_
    intro j hj;simp only[mC,nM,or_false]at hj;subst hj;refine wpOp_does Xb (fun v w'=>Grew W1 w'/\BoxT w' g 42 cs/\UseA W1 m BF c wr cs k er w') rfl rfl rfl (Does.storeAllT 42 (.tmp 10) (.tmp 33) rfl g rfl cs rfl bp (by rw[hlen];rfl) (by kernel_rfl) hone (fun w' b' g' s'=>⟨grew_grown ga g' hg1,b',hua.newer (grew_grown gl g' (by rw[HG.out];exact nR _)) (grew_grown ga g' hg1) (bS GD)⟩)) ?_
    rintro v WS ⟨gs,bs,us⟩;refine⟨gs,?_⟩;simp only[Xs];refine takeH 17 (Xa 11) (Xe Xf k) rfl rfl (by kernel_rfl) (by kernel_rfl) (by kernel_rfl) (fun _ _ _ h=>h) (.inl ⟨rfl,fun _ _=>rfl⟩) gs ?_
    simp only[Xs,sB,sS,sZ];refine takeH 18 (Xa 12) (Xe Xf er) rfl rfl (by kernel_rfl) (by kernel_rfl) (by kernel_rfl) (fun _ _ _ h=>h) (.inl ⟨rfl,fun _ _=>rfl⟩) gs ?_
    simp only[Xs,sB,sS,sZ];refine wpAnyH_done (by kernel_rfl) ?_ _
    have BS:Xo (BoxT WS g 42 cs):=bs;have GS:Xo (Grew W1 WS):=gs;have HG1:Xo (W1.heap.size<=g):=hg1;have US:Xo (UseA W1 m BF c wr cs k er WS):=us;have HLN:Xo (cs.length=11/\∀x∈cs,x.oneCell'=Xc):=show _/\_ from⟨hlen,hone⟩
    clear gs bs us;go_wp2
    go_meet
    exact⟨g,k,er,cs,rfl,rfl,rfl,BS,GS,HG1,US,HLN⟩
   skip
   refine wpOp_does (Xa 10) (fun v w'=>v= Xj (Xa ⟨(W1.drew).heap.size,0,Xb⟩)/\w'=(W1.drew).alloc (Xk zeroM.toArray 42)) rfl rfl rfl (Does.step (run_allocMach rfl) ⟨rfl,rfl⟩) ?_
   rintro v WA ⟨rfl,hwa⟩;have ga:Grew W1 WA:=by rw[hwa];exact GD.trans (grew_alloc _ _)
   have gl:Grew W1.drew WA:=by rw[hwa];exact grew_alloc _ _
   obtain⟨g,HG⟩:∃g,Xo ((W1.drew).heap.size=g):=⟨_,rfl⟩;have bp:BoxT WA g 42 zeroM:=by rw[hwa];exact BoxT.top _ zeroM _ HG.out.symm
   have hg1:W1.heap.size<=g:=by rw[<-HG.out];exact bS GD
   rw[HG.out];clear hwa;refine⟨ga,?_⟩;simp only[Xs,sB,sS,sZ];refine wpAnyH_all (rs:=[10]) (by kernel_rfl) (by simp) ?_
   intro j hj;simp only[mC,nM,or_false]at hj;subst hj;refine wpOp_does (Xa 32) (fun v w'=>(∃(cs:List Xq) (k er:Int),v= Xm #[Xi cs.toArray,Xe Xf k,Xe Xf er]/\cs.length=11/\(∀x∈cs,x.oneCell'=Xc)/\UseA WA m BF c wr cs k er w')/\Grew WA w') rfl rfl rfl (Does.call [Xi #[O V.f.a V.f.n V.f.c,Xe Xf m.hand,O V.s.a V.s.n V.s.c,O V.sb.a V.sb.n V.sb.c,O V.sq.a V.sq.n V.sq.c,O V.db.a V.db.n V.db.c,O V.dq.a V.dq.n V.dq.c,O V.fl.a V.fl.n V.fl.c,Xe Xf m.cnt,O V.ca.a V.ca.n V.ca.c,O V.sp.a V.sp.n V.sp.c],Xe Xf c.proc,Xe Xf (c.pt / 8),Xh wr] rfl Tryz.func140 rfl rfl rfl ((HUS.out _ ga).mono ?_)) ?_
   ·rintro e w' ⟨h,hg2⟩
    rcases h with⟨er,rfl,hn⟩ | ⟨V',k,pc,m',rfl,hu,hc⟩
    ·exact⟨_,rfl,⟨zeroM,0,er,rfl,rfl,by unfold zeroM;simp[Value.oneCell'],.inl ⟨hn.1,hn⟩⟩,hg2⟩
    exact⟨_,rfl,⟨chL V' m',(k:Int),0,rfl,rfl,by simp[chL,Value.oneCell'],.inr ⟨rfl,V',k,pc,m',rfl,rfl,hu,hc⟩⟩,hg2⟩
   rintro v WT ⟨⟨cs,k,er,rfl,hlen,hone,hua⟩,gc⟩;have gt:Grew W1 WT:=ga.trans gc;refine⟨gt,?_⟩;simp only[Xs,sB,sS,sZ];have hlt:=bp.box.lt;have bp:=bp.grew gc;refine takeH 11 (Xa 21) (Xm #[Xi cs.toArray,Xe Xf k,Xe Xf er]) rfl rfl (by kernel_rfl) (by kernel_rfl) (by kernel_rfl) (fun _ _ _ h=>h) (.inl ⟨rfl,fun _ _=>rfl⟩) gt ?_
   simp only[Xs,sB,sS,sZ];refine takeH 12 (Xa 33) (Xi cs.toArray) rfl rfl (by kernel_rfl) (by kernel_rfl) (by kernel_rfl) (fun _ _ _ h=>h) (.inl ⟨rfl,fun _ _=>rfl⟩) gt ?_
   simp only[Xs,sB,sS,sZ];refine takeH 13 (Xa 34) (Xe Xf k) rfl rfl (by kernel_rfl) (by kernel_rfl) (by kernel_rfl) (fun _ _ _ h=>h) (.inl ⟨rfl,fun _ _=>rfl⟩) gt ?_
   simp only[Xs,sB,sS,sZ];refine takeH 14 (Xa 35) (Xe Xf er) rfl rfl (by kernel_rfl) (by kernel_rfl) (by kernel_rfl) (fun _ _ _ h=>h) (.inl ⟨rfl,fun _ _=>rfl⟩) gt ?_
   simp only[Xs,sB,sS,sZ];refine wpAnyH_all (rs:=[16]) (by kernel_rfl) (by simp) ?_
   intro j hj;simp only[mC,nM,or_false]at hj;subst hj;refine wpOp_does Xb (fun v w'=>Grew W1 w'/\BoxT w' g 42 cs/\UseA W1 m BF c wr cs k er w') rfl rfl rfl (Does.storeAllT 42 (.tmp 10) (.tmp 33) rfl g rfl cs rfl bp (by rw[hlen];rfl) (by kernel_rfl) hone (fun w' b' g' s'=>⟨grew_grown gt g' hg1,b',hua.lower g' hlt (grew_grown gt g' hg1) (bS ga)⟩)) ?_
   rintro v WS ⟨gs,bs,us⟩;refine⟨gs,?_⟩;simp only[Xs];refine takeH 17 (Xa 11) (Xe Xf k) rfl rfl (by kernel_rfl) (by kernel_rfl) (by kernel_rfl) (fun _ _ _ h=>h) (.inl ⟨rfl,fun _ _=>rfl⟩) gs ?_
   simp only[Xs,sB,sS,sZ];refine takeH 18 (Xa 12) (Xe Xf er) rfl rfl (by kernel_rfl) (by kernel_rfl) (by kernel_rfl) (fun _ _ _ h=>h) (.inl ⟨rfl,fun _ _=>rfl⟩) gs ?_
   simp only[Xs,sB,sS,sZ];refine wpAnyH_done (by kernel_rfl) ?_ _
   have BS:Xo (BoxT WS g 42 cs):=bs;have GS:Xo (Grew W1 WS):=gs;have HG1:Xo (W1.heap.size<=g):=hg1;have US:Xo (UseA W1 m BF c wr cs k er WS):=us;have HLN:Xo (cs.length=11/\∀x∈cs,x.oneCell'=Xc):=show _/\_ from⟨hlen,hone⟩
   clear gs bs us;go_wp2
   go_meet
   exact⟨g,k,er,cs,rfl,rfl,rfl,BS,GS,HG1,US,HLN⟩
  obtain⟨g,k,er,cs,rfl,rfl,rfl,BS,GS,HG1,US,HLN⟩:=hcut;clear HQ8 HUS
  rcases US.out with⟨hne,hn⟩ | ⟨rfl,V',kk,pc,m',rfl,rfl,hu,hcw⟩
  ·have hz:(er != 0)=Xc:=by simp[hne]
   have HN:Xo (NotUsed m BF c.proc (c.pt / 8) wr er):=hn;have HR:Xo (Grew w wc):=show Grew _ _ from G1.out.trans GS.out
   clear hn hne US;go_wp2
   go_ret2
   exact⟨0,er,rfl,OutD.grew HR.out,HM.out.gr.trans HR.out,.inl (.inr (.inl ⟨HWI.out,HN.out⟩))⟩
  obtain⟨fr,hfr,hff,hx0,hx1⟩:=HII.out kk m' hu;have HFR:Xo (m'.fs[kk]? =Xa fr):=hfr;have HU:Xo (Used m BF c.proc (c.pt / 8) wr kk m'):=hu;have HCW:Xo (ChW W1 pc wc V' m'):=hcw;have HFF:Xo (fr.f=-1\/∃(j:Nat) (fl:Fl),fr.f=(j:Int)/\m'.fl[j]? =Xa fl):=hff;have HX:Xo (0<=fr.x/\fr.x<1000):=show _/\_ from⟨hx0,hx1⟩
  clear hfr hff hx0 hx1 hu hcw HII US HLN;have HP:=dD (M1.out.box.grew GS.out);have HZL:Xo (∀v∈chL V' m',v.oneCell'=Xc):=show∀v∈chL V' m',_ by simp[chL,Value.oneCell']
  have HLL:Xo ((chL V' m').length=(chL V m).length):=show _=_ from rfl
  have HSI:Xo ((Tryz.prog.info? 42).map (·.size)=Xa (chL V m).length):=show _=_ by kernel_rfl
  go_wp2_with (first | refine wp_loadAll rfl 42 (.tmp 10) rfl g rfl BS.out.box Tryz.underlying42 rfl (by kernel_rfl) ?_ | refine wp_storeAllT rfl 42 (.tmp 42) (.tmp 40) rfl p rfl (chL V' m') rfl HP.out HLL.out HSI.out HZL.out ?_)
  intro W5 b5 g5 s5;clear s5;have O5:Xo (OutD (fun k=>k=p) w W5):=show OutD _ _ _ from(OutD.grew (G1.out.trans GS.out)).trans (OutD.grown g5 rfl)
  have G5:Xo (Grew w0 W5):=show Grew _ _ from HM.out.grOut (O5.out.wide fun k hk=> .inl hk)
  have P5:Xo (BoxT W5 p 88 (chL V' m')):=b5;have N5:Xo (OwnB W1.heap.size W5 V' m'):=show OwnB _ _ _ _ from HCW.out.ownB.out (OutD.grown g5 (Xt HPW.out (bS G1.out)))
  have X5:Xo (BoxT W5 b 26 [Xe Xf c.kind,Xe Xf c.proc,Xe Xf c.pt,Xe Xf c.n,Xe Xf c.file,Xe Xf c.base,Xh c.rd,Xh c.wr,Xh c.sh,O c.dv.a c.dv.n c.dv.c]):=show BoxT _ _ _ _ from(X1.out.grew GS.out).outD (OutD.grown (D:=fun k=>k=p) g5 rfl) (by have:=HB.out;have:=HPW.out;omega)
  clear b5 g5 BS GS HG1 X1 M1 HCW;have hkl:=(gS.1 HFR.out).1;obtain⟨g7,c7,heq⟩:=N5.out.fs.formS (by omega)
  have f0:=P5.out.box.c 0 rfl;rw[heq]at f0;have HFO:Xo (OwnRow frmE W1.heap.size W5 (O (Xa ⟨g7,0,Xb⟩) m'.fs.length c7) m'.fs):=show OwnRow _ _ _ _ _ by rw[<-heq];exact N5.out.fs
  have hlt:(kk:Int)< (m'.fs.length:Int):=by omega
  obtain⟨fn,HFN⟩:∃fn,Xo (m'.fs.length=fn):=⟨_,rfl⟩;rw[HFN.out]at HFO f0 hlt;clear heq hkl;obtain⟨⟨b0,b1,b2,b3,b4,b5,b6,b7⟩,r,u,d,f,x⟩:=fr;have HRG:Xo (W5.rangeAt g7 (kk*13) [Xe Xg b0,Xe Xg b1,Xe Xg b2,Xe Xg b3,Xe Xg b4,Xe Xg b5,Xe Xg b6,Xe Xg b7,Xe Xf r,Xh u,Xh d,Xe Xf f,Xe Xf x]):=show W5.rangeAt _ _ _ from HFO.out.range1 HFR.out
  have HSF:Xo ((Tryz.prog.info? 93).map (·.size)=Xa 13):=show _=_ by kernel_rfl
  go_upto_region 8 with(refine wpList_load_mid rfl 93 (.tmp 50) rfl g7 (kk*13) rfl [Xe Xg b0,Xe Xg b1,Xe Xg b2,Xe Xg b3,Xe Xg b4,Xe Xg b5,Xe Xg b6,Xe Xg b7,Xe Xf r,Xh u,Xh d,Xe Xf f,Xe Xf x] _ HRG.out Tryz.underlying93 rfl HSF.out ?_)
  clear HRG HSF;obtain⟨q,HQ⟩:∃q,Xo (W5.heap.size=q):=⟨_,rfl⟩;obtain⟨W6,hW6⟩:∃W6,W5.alloc (Xk #[Xe Xg b0,Xe Xg b1,Xe Xg b2,Xe Xg b3,Xe Xg b4,Xe Xg b5,Xe Xg b6,Xe Xg b7,Xe Xf r,Xh u,Xh d,Xe Xf f,Xe Xf x] 93)=W6:=⟨_,rfl⟩;have g6:=gP hW6
  have Y6:=xPT hW6 HQ
  have P6:=dD (P5.out.grew g6);have N6:=dD (N5.out.grew g6);have O6:Xo (OutD (fun k=>k=p) w W6):=show OutD _ _ _ from O5.out.trans (OutD.grew g6)
  have G6:=dD (G5.out.trans g6);have X6:=dD (X5.out.grew g6);rw[hW6,HQ.out];clear hW6 g6 X5 P5 N5 O5 G5 HFO HQ;have y4:=Y6.out.box.c 11 rfl;have y5:=Y6.out.box.c 12 rfl;have x2:=X6.out.box.c 2 rfl;obtain⟨h81,h82,h83⟩:=HW3.out;have hx0:0<=x:=HX.out.1;have hx1:x<1000:=HX.out.2;have hb2:=HBD.out.1;have hfin:∀{W:Xn} {k er:Int},Grew W6 W->((er=9/\∃(j:Nat) (fl:Fl),f=(j:Int)/\m'.fl[j]? =Xa fl/\fl.size<x*8+c.pt % 8+n)\/(er=0/\k=(kk:Int)/\(f=-1\/∃(j:Nat) (fl:Fl),f=(j:Int)/\m'.fl[j]? =Xa fl/\x*8+c.pt % 8+n<=fl.size)))->KUse m BF c n wr w0 p w k er W:=fun hW hk=>by
   refine⟨O6.out.trans (OutD.grew hW),G6.out.trans hW,?_⟩
   rcases hk with⟨rfl,j,fl,k1,k2,k3⟩ | ⟨rfl,rfl,k3⟩
   ·exact .inl (.inr (.inr ⟨HWI.out,rfl,kk,m',_,j,fl,HU.out,HFR.out,k1,k2,k3⟩))
   exact .inr ⟨rfl,kk,m',_,V',W1.heap.size,rfl,⟨HWI.out,HU.out,HFR.out,k3⟩,P6.out.grew hW,bS G1.out,N6.out.grew hW⟩
  have HFIN:=show Xo _ from@hfin
  clear hfin
  rcases HFF.out with hf | ⟨j,fl,hf,hfl⟩
  ·have hf:f=-1:=hf;subst hf;go_upto_region 10 with fail;go_quiet (fail);go_wp2
   go_ret2
   exact⟨_,_,rfl,HFIN.out (show Below _ _ _ from bD (bR _ _) _) (.inr ⟨rfl,rfl,.inl (by first | trivial | rfl)⟩)⟩
  have hf:f=(j:Int):=hf;subst hf;have HFL:Xo (m'.fl[j]? =Xa fl):=hfl;have hj1:decide ((j:Int)=-1)=Xd:=decide_eq_false (by omega)
  have hj2:((j:Int) == -1)=Xd:=beq_eq_false_iff_ne.2 (by omega)
  have f7:=P6.out.box.c 7 rfl;obtain⟨fa,fc,heq,hbig,hrow⟩:=N6.out.at.fl.rows;rw[heq]at f7;obtain⟨ad,rfl,xa,xc,_,hl⟩:=hrow j fl hfl;obtain⟨d0,d1⟩:=hl W6 (bR _ _);have hjl:(j:Int)< (m'.fl.length:Int):=by have:=(gS.1 hfl).1;omega
  obtain⟨ln,HLN⟩:∃ln,Xo (m'.fl.length=ln):=⟨_,rfl⟩;rw[HLN.out]at f7 hjl hbig;clear hl hrow heq hfl d1;go_upto_region 10 with fail
  by_cases hs:fl.size<x*8+c.pt % 8+n
  ·have hd:decide (fl.size<x*8+c.pt % 8+n)=Xc:=decide_eq_true hs;have HS:Xo (fl.size<x*8+c.pt % 8+n):=hs;clear hs;go_quiet (fail);go_wp2
   go_ret2
   exact⟨_,_,rfl,HFIN.out (show Below _ _ _ from bD (bR _ _) _) (.inl ⟨rfl,j,fl,rfl,HFL.out,HS.out⟩)⟩
  have hd:decide (fl.size<x*8+c.pt % 8+n)=Xd:=decide_eq_false hs;have HS:Xo (x*8+c.pt % 8+n<=fl.size):=show _<=_ by omega
  clear hs;go_quiet (fail);go_wp2
  go_ret2
  exact⟨_,_,rfl,HFIN.out (show Below _ _ _ from bD (bR _ _) _) (.inr ⟨rfl,rfl,.inr ⟨j,fl,rfl,HFL.out,HS.out⟩⟩)⟩
def Fore (w0 u:Xn) (k:Nat):Prop:=w0.heap.size<=k/\k<u.heap.size
def Aft (w0 u w:Xn) (k:Nat):Prop:=k<w0.heap.size\/(u.heap.size<=k/\k<w.heap.size)
def WorkM (K:Int->Int->List Int->Ma->Prop) (w0:Xn) (p:Nat) (u w:Xn) (e:Ending) (w':Xn):Prop:=
 ∃(er n:Int) (s:Sli) (l:List Int) (V':MaV) (m':Ma),e= Xl (ansV er n s)/\K er n l m'/\OutD (Fore w0 u) w w'/\Grew w0 w'/\(∀W,OutD (Aft w0 u w) w' W->RowAt byE W (O s.a s.n s.c) l)/\(er=0->BoxT w' p 88 (chL V' m')/\∀W,OutD (Aft w0 u w) w' W->MachAt W V' m')
theorem WorkA.more {K:Int->Int->List Int->Ma->Prop} {w0 u w w':Xn} {p:Nat} {e:Ending} (h:WorkA K w0 p w e w') (lo:w0.heap.size<=p) (hp:p<u.heap.size) (hs:w0.heap.size<=w.heap.size):WorkM K w0 p u w e w':=by
 obtain⟨er,n,s,l,V',m',h1,h2,h3,h4,h5,h6⟩:=h;have key:∀W,OutD (Aft w0 u w) w' W->OutD (fun k=>k<w.heap.size) w' W:=fun W hW=>hW.wide fun k hk=>hk.elim (fun h=>Xt h hs) fun h=>h.2
 exact⟨er,n,s,l,V',m',h1,h2,h3.wide fun k hk=>by cases hk;exact⟨lo,hp⟩,h4,fun W hW=>h5 W (key W hW),fun h0=>⟨(h6 h0).1,fun W hW=>(h6 h0).2 W (key W hW)⟩⟩
def KProc (m:Ma) (pr:Int) (K:Int->Int->List Int->Ma->Prop) (er n:Int) (l:List Int) (m':Ma):Prop:=
 (er=5/\n=0/\l=[]/\∀q s,¬LiveP m pr q s)\/((∃q s,LiveP m pr q s)/\K er n l m')
theorem ofProc_any {w0 w:Xn} {p:Nat} {V:MaV} {m:Ma} (h:ChW w0 p w V m) (c:Cl) (g F:Nat) (K:Int->Int->List Int->Ma->Prop) (eg:Enters Tryz.prog F) (hg:BoxT w g 80 [.func (.func F) #[] #[]])
  (hF:∀W,Grew w W->(∃q s,LiveP m c.proc q s)->Xp Tryz.prog F #[Xj (Xa ⟨p,0,Xb⟩),Xi #[Xe Xf c.kind,Xe Xf c.proc,Xe Xf c.pt,Xe Xf c.n,Xe Xf c.file,Xe Xf c.base,Xh c.rd,Xh c.wr,Xh c.sh,O c.dv.a c.dv.n c.dv.c]] W fun e w'=>WorkM K w0 p w W e w'):
  Xp Tryz.prog 73 #[Xj (Xa ⟨p,0,Xb⟩),Xi #[Xe Xf c.kind,Xe Xf c.proc,Xe Xf c.pt,Xe Xf c.n,Xe Xf c.file,Xe Xf c.base,Xh c.rd,Xh c.wr,Xh c.sh,O c.dv.a c.dv.n c.dv.c],Xj (Xa ⟨g,0,Xb⟩)] w fun e w'=>WorkM (KProc m c.proc K) w0 p w w e w':=by
 have HM:Xo (ChW w0 p w V m):=h;have HPW:Xo (p<w.heap.size):=h.dlt p (.inl rfl);have HGF:Xo (BoxT w g 80 [.func (.func F) #[] #[]]):=hg;have HFF:=show Xo _ from hF
 have EG:Xo (∀(args:Array Xq) (w:Xn),(callFunc F args).run Tryz.prog w= .ok (.enter F args) w):=eg;obtain⟨b,HB⟩:∃b,Xo (w.heap.size=b):=⟨_,rfl⟩;obtain⟨W1,hW1⟩:∃W1,(w.alloc (Xk #[Xe Xf c.kind,Xe Xf c.proc,Xe Xf c.pt,Xe Xf c.n,Xe Xf c.file,Xe Xf c.base,Xh c.rd,Xh c.wr,Xh c.sh,O c.dv.a c.dv.n c.dv.c] 26)).alloc (Xk #[Xe Xf 0,Xe Xf 0,O Xb 0 0] 50)=W1:=⟨_,rfl⟩;have G1:=gD2 hW1
 have X1:Xo (BoxT W1 b 26 [Xe Xf c.kind,Xe Xf c.proc,Xe Xf c.pt,Xe Xf c.n,Xe Xf c.file,Xe Xf c.base,Xh c.rd,Xh c.wr,Xh c.sh,O c.dv.a c.dv.n c.dv.c]):=show BoxT _ _ _ _ by rw[<-hW1];exact(BoxT.top w [Xe Xf c.kind,Xe Xf c.proc,Xe Xf c.pt,Xe Xf c.n,Xe Xf c.file,Xe Xf c.base,Xh c.rd,Xh c.wr,Xh c.sh,O c.dv.a c.dv.n c.dv.c] _ HB.out.symm).grew (grew_alloc _ _)
 have A1:Xo (BoxT W1 (b+1) 50 [Xe Xf 0,Xe Xf 0,O Xb 0 0]):=show BoxT _ _ _ _ by rw[<-hW1];exact BoxT.top _ [Xe Xf 0,Xe Xf 0,O Xb 0 0] _ (by have:=HB.out;simp;omega)
 have HBL:Xo (b+1<W1.heap.size):=A1.out.box.lt;have HPB:Xo (p<b):=show _<_ by have:=HPW.out;have:=HB.out;omega
 have HL:Xo (w0.heap.size<=b):=show _<=_ by have:=HM.out.lo;have:=HPB.out;omega
 have M1:Xo (ChW w0 p W1 V m):=h.grew G1.out;have HW1:Xo (_=W1):=hW1;obtain⟨-,-,-,-,-,-,-,-,n9⟩:=h.at.ns;have HN9:Xo (V.sp.n=m.sp.length):=n9;obtain⟨sn,HSN⟩:∃sn,Xo (V.sp.n=sn):=⟨_,rfl⟩;clear hW1 h hF hg n9 eg
 go_enter Tryz.func73,Tryz.ntmps73
 go_upto_region 1 with fail;rw[HW1.out,HB.out];clear HW1;have hx1:∀y:GrownW W1,y.world.cell? ⟨b,1,Xb⟩=Xa (Xe Xf c.proc):=fun y=>(X1.out.box.grew y.grew).c 1 rfl
 have hx10:∀y:GrownW W1,y.world.cell? ⟨p,10,Xb⟩=Xa (O V.sp.a sn V.sp.c):=fun y=>by rw[<-HSN.out];exact(M1.out.box.box.grew y.grew).c 10 rfl
 have hne:Nonempty (GrownW W1):=⟨⟨_,Grew.refl _⟩⟩
 by_cases hin:0<=c.proc/\c.proc< (sn:Int)
 rotate_left
 ·have HBE:Xo ((Value.bool (decide (0<=c.proc) && decide (c.proc< (sn:Int))))= Xh Xd):=show _=_ by
   congr 1
   rw[Bool.and_eq_false_iff]
   by_cases h0:0<=c.proc
   ·exact .inr (decide_eq_false fun h1=>hin ⟨h0,h1⟩)
   exact .inl (decide_eq_false h0)
  have HNL:Xo (∀q s,¬LiveP m c.proc q s):=show∀q s,_ from fun q s hh=>hin (by
   have:=hh.1;have:=(gS.1 hh.2.1).1;have:=HSN.out;have:=HN9.out
   omega)
  clear hin;refine wp_lax [(8,⟨fun v=>v= Xh Xd,fun _ _=>True⟩)] mixed (by kernel_rfl) ?_ ?_ ?_
  ·intro x hx
   simp at hx
   subst hx;exact⟨_,rfl⟩
  ·intro x hx
   simp at hx
   subst hx;exact fun _ _ _ _ h=>h
  iterate 3 (refine lax_quiet rfl rfl rfl (fun K hK=>?_);go_big_quiet_op;refine hK _ ?_;clear hK K)
  refine lax_nilc (.tmp 8) ⟨p,0,Xb⟩ rfl rfl rfl rfl ?_;simp only[Xs,sB,sS,sZ];iterate 4 (refine lax_quiet rfl rfl rfl (fun K hK=>?_);go_big_quiet_op;refine hK _ ?_;clear hK K)
  refine lax_spec rfl rfl (fun w' hg hF=>?_) (fun v1 hv=>?_)
  ·refine Does.call [Xe Xf c.proc,Xe Xf (sn:Int)] rfl Tryz.func74 rfl rfl rfl ?_;refine(belowK_any c.proc (sn:Int) w').mono ?_;rintro e w'' ⟨rfl,rfl⟩;exact⟨_,rfl,Grew.refl _,HBE.out,trivial⟩
  subst hv;simp only[Xs,sB,sS,sZ];iterate 2 (refine lax_quiet rfl rfl rfl (fun K hK=>?_);go_big_quiet_op;refine hK _ ?_;clear hK K)
  iterate 11 (refine lax_skip rfl ?_;simp only[Xs,sB,sS,sZ])
  iterate 1 (refine lax_quiet rfl rfl rfl (fun K hK=>?_);go_big_quiet_op;refine hK _ ?_;clear hK K)
  refine lax_nil fun W2 g2 _=>?_
  have A2:=dD (A1.out.grew g2);have Q2:=dD (G1.out.trans g2);clear g2 hx1 hx10 hne;have hrf:=refused_any 5 W2;go_wp2_with fail;refine hrf.mono ?_;rintro e W3 ⟨rfl,g3⟩;have A3:=dD (A2.out.grew g3);have Q3:=dD (Q2.out.trans g3);clear hrf g3;unfold ansV noS
  go_wp2_with (refine wp_storeAllT rfl 50 (.tmp 5) (.tmp 29) rfl (b+1) rfl [Xe Xf 5,Xe Xf 0,O Xb 0 0] rfl A3.out rfl (by kernel_rfl) (by simp[Value.oneCell']) ?_)
  intro W4 b4 g4 _;have G4:Xo (Grew w0 W4):=show Grew _ _ from grew_grown (HM.out.gr.trans Q3.out) g4 (by have:=HL.out;omega)
  have A4:Xo (BoxT W4 (b+1) 50 [Xe Xf 5,Xe Xf 0,O Xb 0 0]):=b4;have O4:Xo (OutD (fun k=>k=p) w W4):=show OutD _ _ _ from OutD.beyond (OutD.grew Q3.out) g4 (by have:=HB.out;omega)
  clear b4 g4;go_wp2;refine bodyPost_ret (ret_cell rfl _ rfl A4.out.box Tryz.underlying50 rfl (by kernel_rfl)) rfl (WorkA.more (WorkA.err (V:=V) (m:=m) (by decide) (.inl ⟨rfl,rfl,rfl,HNL.out⟩) O4.out G4.out) HM.out.lo HPW.out (bS HM.out.gr))
 have HBE:Xo ((Value.bool (decide (0<=c.proc) && decide (c.proc< (sn:Int))))= Xh Xc):=show _=_ by
  rw[decide_eq_true hin.1,decide_eq_true hin.2];rfl
 obtain⟨q,HQ⟩:∃q:Nat,Xo (c.proc=(q:Int)):=⟨c.proc.toNat,show _=_ by omega⟩
 have hqz:(q:Int)< (sn:Int):=by have:=HQ.out;omega
 obtain⟨xs,s1,s2,s3⟩:=M1.out.sp;obtain⟨x,hx⟩:∃x,xs[q]? =Xa x:=⟨_,gE (by rw[s2,<-HN9.out,HSN.out];omega)⟩
 obtain⟨s,hs⟩:∃s,m.sp[q]? =Xa s:=⟨_,gE (by rw[<-HN9.out,HSN.out];omega)⟩
 have hlv:=(s3 q x s hx hs W1 (OutD.refl _ _)).live;obtain⟨gs,cc,heq⟩:=s1.formS (by have:=(gS.1 hx).1;omega)
 have HS:Xo (m.sp[q]? =Xa s):=hs;have HLX:Xo (x.live=s.live):=hlv;have HS1:Xo (OwnRow spcE w0.heap.size W1 (O (Xa ⟨gs,0,Xb⟩) xs.length cc) xs):=show OwnRow _ _ _ _ _ by rw[<-heq];exact s1
 have HXX:Xo (xs[q]? =Xa x):=hx;have hsa:V.sp.a=Xa ⟨gs,0,Xb⟩:=by simp only[vJ]at heq;exact heq.1
 rw[hsa]at hx10;rw[HQ.out]at hx1 HBE;have hlc:∀y:GrownW W1,y.world.cell? ⟨gs,q*10,Xb⟩=Xa (Xh s.live):=fun y=>by
  rw[<-HLX.out];exact(HS1.out.grew y.grew).range1 HXX.out 0 _ rfl
 clear hin s1 s2 s3 hx hs hlv heq hsa;have hdq:decide ((0:Int)<=(q:Int))=Xc:=by simp
 have HPR:Xo (c.proc=(q:Int)):=HQ
 cases hv:s.live with
 | false=>
  rw[hv]at hlc;have HNL:Xo (∀q' s',¬LiveP m c.proc q' s'):=show∀q' s',_ from fun q' s' hh=>by
   have e:q'=q:=by have:=hh.1;have:=HQ.out;omega
   rw[e]at hh;have h2:=hh.2.1;rw[HS.out]at h2;cases h2;have h3:=hh.2.2;rw[hv]at h3;cases h3
  clear hv;refine wp_lax [(8,⟨fun v=>v= Xh Xc,fun _ _=>True⟩)] mixed (by kernel_rfl) ?_ ?_ ?_
  ·intro x hx
   simp at hx
   subst hx;exact⟨_,rfl⟩
  ·intro x hx
   simp at hx
   subst hx;exact fun _ _ _ _ h=>h
  iterate 3 (refine lax_quiet rfl rfl rfl (fun K hK=>?_);go_big_quiet_op;refine hK _ ?_;clear hK K)
  refine lax_nilc (.tmp 8) ⟨p,0,Xb⟩ rfl rfl rfl rfl ?_;simp only[Xs,sB,sS,sZ];iterate 4 (refine lax_quiet rfl rfl rfl (fun K hK=>?_);go_big_quiet_op;refine hK _ ?_;clear hK K)
  refine lax_spec rfl rfl (fun w' hg hF=>?_) (fun v1 hv=>?_)
  ·refine Does.call [Xe Xf (q:Int),Xe Xf (sn:Int)] rfl Tryz.func74 rfl rfl rfl ?_;refine(belowK_any (q:Int) (sn:Int) w').mono ?_;rintro e w'' ⟨rfl,rfl⟩;exact⟨_,rfl,Grew.refl _,HBE.out,trivial⟩
  subst hv;simp only[Xs,sB,sS,sZ];iterate 2 (refine lax_quiet rfl rfl rfl (fun K hK=>?_);go_big_quiet_op;refine hK _ ?_;clear hK K)
  refine lax_quiet rfl rfl rfl (fun K hK=>?_);go_big_quiet_op;refine hK _ ?_;clear hK K
  refine lax_nilc (.tmp 17) ⟨p,0,Xb⟩ rfl rfl rfl rfl ?_;simp only[Xs,sB,sS,sZ];iterate 10 (refine lax_quiet rfl rfl rfl (fun K hK=>?_);go_big_quiet_op;refine hK _ ?_;clear hK K)
  clear hlc;refine lax_nil fun W2 g2 _=>?_
  have A2:=dD (A1.out.grew g2);have Q2:=dD (G1.out.trans g2);clear g2 hx1 hx10 hne;have hrf:=refused_any 5 W2;go_wp2_with fail;refine hrf.mono ?_;rintro e W3 ⟨rfl,g3⟩;have A3:=dD (A2.out.grew g3);have Q3:=dD (Q2.out.trans g3);clear hrf g3;unfold ansV noS
  go_wp2_with (refine wp_storeAllT rfl 50 (.tmp 5) (.tmp 29) rfl (b+1) rfl [Xe Xf 5,Xe Xf 0,O Xb 0 0] rfl A3.out rfl (by kernel_rfl) (by simp[Value.oneCell']) ?_)
  intro W4 b4 g4 _;have G4:Xo (Grew w0 W4):=show Grew _ _ from grew_grown (HM.out.gr.trans Q3.out) g4 (by have:=HL.out;omega)
  have A4:Xo (BoxT W4 (b+1) 50 [Xe Xf 5,Xe Xf 0,O Xb 0 0]):=b4;have O4:Xo (OutD (fun k=>k=p) w W4):=show OutD _ _ _ from OutD.beyond (OutD.grew Q3.out) g4 (by have:=HB.out;omega)
  clear b4 g4;go_wp2;refine bodyPost_ret (ret_cell rfl _ rfl A4.out.box Tryz.underlying50 rfl (by kernel_rfl)) rfl (WorkA.more (WorkA.err (V:=V) (m:=m) (by decide) (.inl ⟨rfl,rfl,rfl,HNL.out⟩) O4.out G4.out) HM.out.lo HPW.out (bS HM.out.gr))
 | true=>
  rw[hv]at hlc;have HLV:Xo (∃q s,LiveP m c.proc q s):=show∃q s,_ from⟨q,s,HQ.out,HS.out,hv⟩
  clear hv;refine wp_lax [(8,⟨fun v=>v= Xh Xc,fun _ _=>True⟩)] mixed (by kernel_rfl) ?_ ?_ ?_
  ·intro x hx
   simp at hx
   subst hx;exact⟨_,rfl⟩
  ·intro x hx
   simp at hx
   subst hx;exact fun _ _ _ _ h=>h
  iterate 3 (refine lax_quiet rfl rfl rfl (fun K hK=>?_);go_big_quiet_op;refine hK _ ?_;clear hK K)
  refine lax_nilc (.tmp 8) ⟨p,0,Xb⟩ rfl rfl rfl rfl ?_;simp only[Xs,sB,sS,sZ];iterate 4 (refine lax_quiet rfl rfl rfl (fun K hK=>?_);go_big_quiet_op;refine hK _ ?_;clear hK K)
  refine lax_spec rfl rfl (fun w' hg hF=>?_) (fun v1 hv=>?_)
  ·refine Does.call [Xe Xf (q:Int),Xe Xf (sn:Int)] rfl Tryz.func74 rfl rfl rfl ?_;refine(belowK_any (q:Int) (sn:Int) w').mono ?_;rintro e w'' ⟨rfl,rfl⟩;exact⟨_,rfl,Grew.refl _,HBE.out,trivial⟩
  subst hv;simp only[Xs,sB,sS,sZ];iterate 2 (refine lax_quiet rfl rfl rfl (fun K hK=>?_);go_big_quiet_op;refine hK _ ?_;clear hK K)
  refine lax_quiet rfl rfl rfl (fun K hK=>?_);go_big_quiet_op;refine hK _ ?_;clear hK K
  refine lax_nilc (.tmp 17) ⟨p,0,Xb⟩ rfl rfl rfl rfl ?_;simp only[Xs,sB,sS,sZ];iterate 10 (refine lax_quiet rfl rfl rfl (fun K hK=>?_);go_big_quiet_op;refine hK _ ?_;clear hK K)
  clear hlc;refine lax_nil fun W2 g2 _=>?_
  have A2:=dD (A1.out.grew g2);have X2:=dD (X1.out.grew g2);have Q2:=dD (G1.out.trans g2);have HW2:Xo (b+1<W2.heap.size):=show _<_ from Xt HBL.out (bS g2)
  clear g2 hx1 hx10 hne;have hfn:=HFF.out W2 Q2.out HLV.out;have f0:=(HGF.out.grew Q2.out).box.c 0 rfl
  go_wp2_with (first | refine wp_loadAll rfl 26 (.tmp 4) rfl b rfl X2.out.box Tryz.underlying26 rfl (by kernel_rfl) ?_ | fail)
  rw[EG.out];refine hfn.mono ?_;clear hfn f0;rintro e W3 ⟨er,n,sd,l,V',m',rfl,hk,o3,g3,hr,hd⟩;have A3:Xo (BoxT W3 (b+1) 50 [Xe Xf 0,Xe Xf 0,O Xb 0 0]):=show BoxT _ _ _ _ from A2.out.outD o3 (fun hk=>by have:=HB.out;have:=hk.2;omega)
  have HK:Xo (K er n l m'):=hk;have O3:Xo (OutD (Fore w0 w) w W3):=show OutD _ _ _ from(OutD.grew Q2.out).trans o3
  have G3:Xo (Grew w0 W3):=g3;have HR3:=show Xo _ from hr
  have HD3:=show Xo _ from hd
  clear hk o3 g3 hr hd;unfold ansV
  go_wp2_with (refine wp_storeAllT rfl 50 (.tmp 5) (.tmp 33) rfl (b+1) rfl [Xe Xf er,Xe Xf n,O sd.a sd.n sd.c] rfl A3.out rfl (by kernel_rfl) (by simp[Value.oneCell']) ?_)
  intro W4 b4 g4 _;have A4:Xo (BoxT W4 (b+1) 50 [Xe Xf er,Xe Xf n,O sd.a sd.n sd.c]):=b4;have HFIN:Xo (WorkM (KProc m c.proc K) w0 p w w (Xl (ansV er n sd)) W4):=show WorkM _ _ _ _ _ _ _ from by
   have key:∀W,OutD (Aft w0 w w) W4 W->OutD (Aft w0 w W2) W3 W:=fun W hW=>(OutD.grown (D:=Aft w0 w W2) g4 (.inr ⟨by have:=HB.out;omega,HW2.out⟩)).trans (hW.wide fun k hk=>hk.imp id fun h=>⟨h.1,Xt h.2 (bS Q2.out)⟩)
   exact⟨er,n,sd,l,V',m',rfl,.inr ⟨HLV.out,HK.out⟩,O3.out.beyond g4 (by have:=HB.out;omega),grew_grown G3.out g4 (by have:=HL.out;omega),fun W hW=>HR3.out W (key W hW),fun h0=>⟨(HD3.out h0).1.beside g4 (fun k e=>by cases e;have:=HPB.out;omega),fun W hW=>(HD3.out h0).2 W (key W hW)⟩⟩
  clear b4 g4;go_wp2;refine bodyPost_ret (ret_cell rfl _ rfl A4.out.box Tryz.underlying50 rfl (by kernel_rfl)) rfl HFIN.out
def lookN:List (Int × Xq)->Int->Option Xq
 | [],_=>Xb
 | p :: l,k=>if k=p.1 then Xa p.2 else lookN l k
def findN:List (Int × Xq)->Int->Nat->Option (Nat × Xq)
 | [],_,_=>Xb
 | p :: l,k,i=>if k=p.1 then Xa (i,p.2)else findN l k (i+1)
theorem findN_look:∀(l:List (Int × Xq)) (k:Int) (i:Nat),(findN l k i).map (·.2)=lookN l k
 | [],_,_=>rfl
 | p :: l,k,i=>by
  unfold findN lookN
  by_cases e:k=p.1
  ·rw[if_pos e,if_pos e];rfl
  rw[if_neg e,if_neg e,findN_look l k (i+1)]
def MapV (w:Xn) (b:Nat) (l:List (Int × Xq)):Prop:=∃es clock,w.heap[b]? =Xa (.map es clock)/\es.toList.map (fun e=>(e.key,e.val))=l.map (fun p:Int × Xq=>(Value.int .i64 p.1,p.2))
theorem MapV.lt {w:Xn} {b:Nat} {l:List (Int × Xq)} (h:MapV w b l):b<w.heap.size:=by
 obtain⟨es,c,h1,_⟩:=h;exact(aS.1 h1).1
theorem MapV.made (w:Xn):MapV (w.alloc (.map #[] 0)) w.heap.size []:=⟨#[],0,by
 show(w.heap.push _)[w.heap.size]? =_
 simp,rfl⟩
theorem MapV.grew {w w':Xn} {b:Nat} {l:List (Int × Xq)} (h:MapV w b l) (hg:Grew w w'):MapV w' b l:=by
 have hlt:=h.lt;obtain⟨es,c,h1,h2⟩:=h;exact⟨es,c,(Below.block hg b hlt).trans h1,h2⟩
theorem find_now {k:Int} {kd:IntKind}:∀(l:List (Int × Xq)) (es:List MapEntry) (i:Nat),es.map (fun e=>(e.key,e.val))=l.map (fun p:Int × Xq=>(Value.int .i64 p.1,p.2))->Instr.findNow (.int kd) (Xe Xf k) es i=Xa (findN l k i)
 | [],[],i,_=>rfl
 | [],e :: es,i,h=>by simp at h
 | p :: l,[],i,h=>by simp at h
 | p :: l,e :: es,i,h=>by
  simp only[mP,List.cons.injEq,pJ]at h;obtain⟨⟨h1,h2⟩,h3⟩:=h;unfold Instr.findNow findN;rw[h1]
  by_cases e':k=p.1
  ·rw[if_pos e'];have:Instr.sameNow (.int kd) (Xe Xf k) (Xe Xf p.1)=Xa Xc:=by simp[Instr.sameNow,e']
   rw[this,h2]
  rw[if_neg e'];have:Instr.sameNow (.int kd) (Xe Xf k) (Xe Xf p.1)=Xa Xd:=by simp[Instr.sameNow,e']
  rw[this];exact find_now l es (i+1) h3
theorem run_findNum {kd:IntKind} {ty:TypeId} (hu:Tryz.prog.underlying ty=Xa (.int kd)) (k:Int) (w:Xn) (l:List (Int × Xq)) (es:List MapEntry) (h:es.map (fun e=>(e.key,e.val))=l.map (fun p:Int × Xq=>(Value.int .i64 p.1,p.2))):(Instr.findKey ty (Xe Xf k) es).run Tryz.prog w= .ok (findN l k 0) w:=by
 unfold Instr.findKey;simp only[Sem.run_bind,run_underlying hu,rA,find_now l es 0 h];rfl
theorem run_checkNum {kd:IntKind} {ty:TypeId} (hu:Tryz.prog.underlying ty=Xa (.int kd)) (em:Bool) (k:Int) (w:Xn):(Instr.checkKey em 10000 ty (Xe Xf k)).run Tryz.prog w= .ok () w:=by
 unfold Instr.checkKey;simp only[Sem.run_bind,run_underlying hu,rA];rfl
theorem MapV.look {w:Xn} {b:Nat} {l:List (Int × Xq)} (h:MapV w b l) {kd:IntKind} {t ty e:TypeId} {z:Xq} (hu:Tryz.prog.underlying ty=Xa (.int kd)) (ht:Tryz.prog.underlying t=Xa (.map ty e)) (hz:(zeroValue e).run Tryz.prog w= .ok z w) (k:Int):
  (Instr.lookup t (.map (Xa b)) (Xe Xf k) Xc).run Tryz.prog w= .ok (Xm #[(lookN l k).getD z,Xh (lookN l k).isSome]) w:=by
 obtain⟨es,cl,h1,h2⟩:=h;have hf:=run_findNum hu k w l es.toList h2;have hl:=findN_look l k 0;unfold Instr.lookup
 cases hp:findN l k 0 with
 | none=>
  rw[hp]at hf hl;rw[<-hl]
  simp[run_underlying ht,MapKept.run_getObj_map h1,run_checkNum hu,hf,hz]
 | some q=>
  rw[hp]at hf hl;rw[<-hl]
  simp[run_underlying ht,MapKept.run_getObj_map h1,run_checkNum hu,hf]
theorem MapV.put {w:Xn} {b:Nat} {l:List (Int × Xq)} (h:MapV w b l) {kd:IntKind} {t ty e:TypeId} (hu:Tryz.prog.underlying ty=Xa (.int kd)) (ht:Tryz.prog.underlying t=Xa (.map ty e)) (k:Int) (v:Xq) (hn:lookN l k=Xb):
  ∃w',(Instr.mapUpdate t (.map (Xa b)) (Xe Xf k) v).run Tryz.prog w= .ok () w'/\MapV w' b (l++ [(k,v)])/\w.grownBy w' (Xa b)/\w'.heap.size=w.heap.size:=by
 obtain⟨es,cl,h1,h2⟩:=h;have hf:=run_findNum hu k w l es.toList h2;have hp:findN l k 0=Xb:=by
  have:=findN_look l k 0;rw[hn]at this
  cases hq:findN l k 0 with
  | none=>rfl
  | some q=>rw[hq]at this;cases this
 rw[hp]at hf;refine⟨ChangeMaps.setBlock w b (.map (es.push ⟨Xe Xf k,v,cl⟩) (cl+1)),?_,⟨_,_,ChangeMaps.heap_setBlock_same h1 _,?_⟩,⟨rfl,rfl,rfl,by simp[ChangeMaps.setBlock],fun i _ hi=>ChangeMaps.heap_setBlock_other h1 _ (fun e=>hi (by rw[e]))⟩,by simp[ChangeMaps.setBlock]⟩
 ·simp[Instr.mapUpdate,run_underlying ht,MapKept.run_getObj_map h1,run_checkNum hu,hf,MapKept.run_setObj_map _ h1,ChangeMaps.setBlock]
 simp[h2]
theorem wpList_insert_num {w:Xn} {ops:Array Oper} {rest:List Oper} {o:Oper} {a:Act} {Q:Exit->Act->Xn->Prop} (hg:o.guard=Xb) {kd:IntKind} {t ty e:TypeId} (hu:Tryz.prog.underlying ty=Xa (.int kd)) (ht:Tryz.prog.underlying t=Xa (.map ty e)) (m x v:Operand) (hop:o.op= .insert t m x v) (b:Nat) (l:List (Int × Xq)) (h:MapV w b l) (k:Int) (u:Xq)
  (hm:a.eval m= .map (Xa b)) (hx:a.eval x= Xe Xf k) (hv:a.eval v=u) (hn:lookN l k=Xb)
  (hK:∀w',MapV w' b (l++ [(k,u)])->w.grownBy w' (Xa b)->wpList Tryz.prog ops Q rest (a.put o.dst undef) w'):wpList Tryz.prog ops Q (o :: rest) a w:=by
 refine wpList_plain hg fun K' hK'=>?_
 obtain⟨w',hrun,r1,r2,_⟩:=h.put hu ht k u hn;unfold Oper.wp
 simp[execOp,hop,hm,hx,hv,hrun,Result.andThen]
 exact hK' _ _ (hK w' r1 r2)
def WorkV (w:Xn) (k:Int) (v:Xq):Prop:=
 (k=1->∃g,v= .func (.func 73) #[] #[Xj (Xa ⟨g,0,Xb⟩)]/\BoxT w g 80 [.func (.func 35) #[] #[]])/\
 (k=2->∃g,v= .func (.func 73) #[] #[Xj (Xa ⟨g,0,Xb⟩)]/\BoxT w g 80 [.func (.func 36) #[] #[]])/\
 (k=3->∃g,v= .func (.func 73) #[] #[Xj (Xa ⟨g,0,Xb⟩)]/\BoxT w g 80 [.func (.func 37) #[] #[]])/\
 (k=4->∃g,v= .func (.func 73) #[] #[Xj (Xa ⟨g,0,Xb⟩)]/\BoxT w g 80 [.func (.func 38) #[] #[]])/\
 (k=5->∃g,v= .func (.func 73) #[] #[Xj (Xa ⟨g,0,Xb⟩)]/\BoxT w g 80 [.func (.func 39) #[] #[]])/\
 (k=6->∃g,v= .func (.func 73) #[] #[Xj (Xa ⟨g,0,Xb⟩)]/\BoxT w g 80 [.func (.func 40) #[] #[]])/\
 (k=7->∃g,v= .func (.func 73) #[] #[Xj (Xa ⟨g,0,Xb⟩)]/\BoxT w g 80 [.func (.func 41) #[] #[]])/\
 (k=8->v= .func (.func 42) #[] #[])/\
 (k=9->∃g,v= .func (.func 88) #[] #[Xj (Xa ⟨g,0,Xb⟩)]/\BoxT w g 80 [.func (.func 44) #[] #[]])/\
 (k=10->∃g,v= .func (.func 88) #[] #[Xj (Xa ⟨g,0,Xb⟩)]/\BoxT w g 80 [.func (.func 45) #[] #[]])/\
 (k=11->∃g,v= .func (.func 88) #[] #[Xj (Xa ⟨g,0,Xb⟩)]/\BoxT w g 80 [.func (.func 46) #[] #[]])/\
 (k=12->∃g,v= .func (.func 88) #[] #[Xj (Xa ⟨g,0,Xb⟩)]/\BoxT w g 80 [.func (.func 47) #[] #[]])/\
 (k=13->v= .func (.func 48) #[] #[])/\
 (k=14->v= .func (.func 49) #[] #[])/\
 (k=15->v= .func (.func 50) #[] #[])
theorem WorkV.grew {w w':Xn} {k:Int} {v:Xq} (h:WorkV w k v) (g:Grew w w'):WorkV w' k v:=by
 obtain⟨h1,h2,h3,h4,h5,h6,h7,h8,h9,h10,h11,h12,h13,h14,h15⟩:=h;exact⟨fun e=>(h1 e).imp fun _ x=>⟨x.1,x.2.grew g⟩,fun e=>(h2 e).imp fun _ x=>⟨x.1,x.2.grew g⟩,fun e=>(h3 e).imp fun _ x=>⟨x.1,x.2.grew g⟩,fun e=>(h4 e).imp fun _ x=>⟨x.1,x.2.grew g⟩,fun e=>(h5 e).imp fun _ x=>⟨x.1,x.2.grew g⟩,fun e=>(h6 e).imp fun _ x=>⟨x.1,x.2.grew g⟩,fun e=>(h7 e).imp fun _ x=>⟨x.1,x.2.grew g⟩,h8,fun e=>(h9 e).imp fun _ x=>⟨x.1,x.2.grew g⟩,fun e=>(h10 e).imp fun _ x=>⟨x.1,x.2.grew g⟩,fun e=>(h11 e).imp fun _ x=>⟨x.1,x.2.grew g⟩,fun e=>(h12 e).imp fun _ x=>⟨x.1,x.2.grew g⟩,h13,h14,h15⟩
theorem ofProcess_any (n:Nat) (w:Xn):Xp Tryz.prog 34 #[.func (.func n) #[] #[]] w fun e w'=>e= Xl (.func (.func 73) #[] #[Xj (Xa ⟨w.heap.size,0,Xb⟩)])/\w'=w.alloc (Xk #[.func (.func n) #[] #[]] 80):=by
 go_enter Tryz.func34,Tryz.ntmps34
 go_wp2;go_ret;exact⟨rfl,rfl⟩
theorem ofFile_any (n:Nat) (w:Xn):Xp Tryz.prog 43 #[.func (.func n) #[] #[]] w fun e w'=>e= Xl (.func (.func 88) #[] #[Xj (Xa ⟨w.heap.size,0,Xb⟩)])/\w'=w.alloc (Xk #[.func (.func n) #[] #[]] 80):=by
 go_enter Tryz.func43,Tryz.ntmps43
 go_wp2;go_ret;exact⟨rfl,rfl⟩
theorem lookN_mem {k:Int} {v:Xq}:∀{l:List (Int × Xq)},lookN l k=Xa v->(k,v)∈l
 | [],h=>by cases h
 | p :: l,h=>by
  unfold lookN at h
  by_cases e:k=p.1
  ·rw[if_pos e]at h;cases h;rw[e];exact List.mem_cons_self ..
  rw[if_neg e]at h;exact List.mem_cons_of_mem _ (lookN_mem h)
theorem boxmap {w:Xn} {g b:Nat} {t:TypeId} {cs:List Xq} {l:List (Int × Xq)} (h:BoxT w g t cs) (k:MapV w b l):g≠b:=fun e=>by
 subst e;obtain⟨es,cl,h1,_⟩:=k;have h2:w.heap[g]? =Xa (Xk cs.toArray t (0,0)):=h;rw[h1]at h2;cases h2
theorem works_any (w:Xn):Xp Tryz.prog 22 #[] w fun e w'=>(∃(B:Nat) (l:List (Int × Xq)),e= Xl (.map (Xa B))/\MapV w' B l/\(∀k v,lookN l k=Xa v->WorkV w' k v)/\∀k,(lookN l k).isSome=decide (1<=k/\k<=15))/\Grew w w':=by
 obtain⟨b,HB⟩:∃b,Xo (w.heap.size=b):=⟨_,rfl⟩;obtain⟨W0,hW0⟩:∃W0,w.alloc (.map #[] 0)=W0:=⟨_,rfl⟩;have G0:Xo (Grew w W0):=show Grew _ _ by rw[<-hW0];exact grew_alloc _ _
 have M0:Xo (MapV W0 b []):=show MapV _ _ _ by rw[<-hW0,<-HB.out];exact MapV.made w
 have hmm:=@run_makeMap Tryz.prog
 go_enter Tryz.func22,Tryz.ntmps22
 go_wp2_with fail;rw[HB.out];clear hW0 hmm;refine(ofProcess_any _ _).mono ?_;rintro r w' ⟨rfl,hw'⟩;rw[hw'];clear hw' w';obtain⟨W0a,hWa⟩:∃W0a,W0.alloc (Xk #[.func (.func 35) #[] #[]] 80)=W0a:=⟨_,rfl⟩;obtain⟨g1,HG1⟩:∃g1,Xo (W0.heap.size=g1):=⟨_,rfl⟩;have ga:=gP hWa
 have X1:=xPT hWa HG1
 have G0a:=dD (G0.out.trans ga);have M0a:=dD (M0.out.grew ga);rw[hWa,HG1.out];clear hWa ga G0 M0
 go_wp2_with (refine wpList_insert_num rfl Tryz.underlying3 Tryz.underlying82 (.tmp 1) (.const (Xe Xf 1)) (.tmp 2) rfl b [] M0a.out 1 (.func (.func 73) #[] #[Xj (Xa ⟨g1,0,Xb⟩)]) rfl rfl rfl (by simp[lookN]) ?_)
 intro W1 mp gr;have M1:Xo (MapV W1 b [(1,.func (.func 73) #[] #[Xj (Xa ⟨g1,0,Xb⟩)])]):=mp;have G1:Xo (Grew w W1):=show Grew _ _ from grew_grown G0a.out gr (by have:=HB.out;omega)
 have X1:Xo (BoxT W1 g1 80 [.func (.func 35) #[] #[]]):=X1.out.beside gr (b:=g1) (fun x hx=>by cases hx;exact boxmap X1.out M0a.out)
 clear mp gr M0a G0a;go_wp2_with fail;refine(ofProcess_any _ _).mono ?_;rintro r w' ⟨rfl,hw'⟩;rw[hw'];clear hw' w';obtain⟨W1a,hWa⟩:∃W1a,W1.alloc (Xk #[.func (.func 36) #[] #[]] 80)=W1a:=⟨_,rfl⟩;obtain⟨g2,HG2⟩:∃g2,Xo (W1.heap.size=g2):=⟨_,rfl⟩;have ga:=gP hWa
 have X2:=xPT hWa HG2
 have G1a:=dD (G1.out.trans ga);have M1a:=dD (M1.out.grew ga);have X1:=dD (X1.out.grew ga);rw[hWa,HG2.out];clear hWa ga G1 M1
 go_wp2_with (refine wpList_insert_num rfl Tryz.underlying3 Tryz.underlying82 (.tmp 1) (.const (Xe Xf 2)) (.tmp 3) rfl b [(1,.func (.func 73) #[] #[Xj (Xa ⟨g1,0,Xb⟩)])] M1a.out 2 (.func (.func 73) #[] #[Xj (Xa ⟨g2,0,Xb⟩)]) rfl rfl rfl (by simp[lookN]) ?_)
 intro W2 mp gr;have M2:Xo (MapV W2 b [(1,.func (.func 73) #[] #[Xj (Xa ⟨g1,0,Xb⟩)]),(2,.func (.func 73) #[] #[Xj (Xa ⟨g2,0,Xb⟩)])]):=mp;have G2:Xo (Grew w W2):=show Grew _ _ from grew_grown G1a.out gr (by have:=HB.out;omega)
 have X1:Xo (BoxT W2 g1 80 [.func (.func 35) #[] #[]]):=X1.out.beside gr (b:=g1) (fun x hx=>by cases hx;exact boxmap X1.out M1a.out)
 have X2:Xo (BoxT W2 g2 80 [.func (.func 36) #[] #[]]):=X2.out.beside gr (b:=g2) (fun x hx=>by cases hx;exact boxmap X2.out M1a.out)
 clear mp gr M1a G1a;go_wp2_with fail;refine(ofProcess_any _ _).mono ?_;rintro r w' ⟨rfl,hw'⟩;rw[hw'];clear hw' w';obtain⟨W2a,hWa⟩:∃W2a,W2.alloc (Xk #[.func (.func 37) #[] #[]] 80)=W2a:=⟨_,rfl⟩;obtain⟨g3,HG3⟩:∃g3,Xo (W2.heap.size=g3):=⟨_,rfl⟩;have ga:=gP hWa
 have X3:=xPT hWa HG3
 have G2a:=dD (G2.out.trans ga);have M2a:=dD (M2.out.grew ga);have X1:=dD (X1.out.grew ga);have X2:=dD (X2.out.grew ga);rw[hWa,HG3.out];clear hWa ga G2 M2
 go_wp2_with (refine wpList_insert_num rfl Tryz.underlying3 Tryz.underlying82 (.tmp 1) (.const (Xe Xf 3)) (.tmp 4) rfl b [(1,.func (.func 73) #[] #[Xj (Xa ⟨g1,0,Xb⟩)]),(2,.func (.func 73) #[] #[Xj (Xa ⟨g2,0,Xb⟩)])] M2a.out 3 (.func (.func 73) #[] #[Xj (Xa ⟨g3,0,Xb⟩)]) rfl rfl rfl (by simp[lookN]) ?_)
 intro W3 mp gr;have M3:Xo (MapV W3 b [(1,.func (.func 73) #[] #[Xj (Xa ⟨g1,0,Xb⟩)]),(2,.func (.func 73) #[] #[Xj (Xa ⟨g2,0,Xb⟩)]),(3,.func (.func 73) #[] #[Xj (Xa ⟨g3,0,Xb⟩)])]):=mp;have G3:Xo (Grew w W3):=show Grew _ _ from grew_grown G2a.out gr (by have:=HB.out;omega)
 have X1:Xo (BoxT W3 g1 80 [.func (.func 35) #[] #[]]):=X1.out.beside gr (b:=g1) (fun x hx=>by cases hx;exact boxmap X1.out M2a.out)
 have X2:Xo (BoxT W3 g2 80 [.func (.func 36) #[] #[]]):=X2.out.beside gr (b:=g2) (fun x hx=>by cases hx;exact boxmap X2.out M2a.out)
 have X3:Xo (BoxT W3 g3 80 [.func (.func 37) #[] #[]]):=X3.out.beside gr (b:=g3) (fun x hx=>by cases hx;exact boxmap X3.out M2a.out)
 clear mp gr M2a G2a;go_wp2_with fail;refine(ofProcess_any _ _).mono ?_;rintro r w' ⟨rfl,hw'⟩;rw[hw'];clear hw' w';obtain⟨W3a,hWa⟩:∃W3a,W3.alloc (Xk #[.func (.func 38) #[] #[]] 80)=W3a:=⟨_,rfl⟩;obtain⟨g4,HG4⟩:∃g4,Xo (W3.heap.size=g4):=⟨_,rfl⟩;have ga:=gP hWa
 have X4:=xPT hWa HG4
 have G3a:=dD (G3.out.trans ga);have M3a:=dD (M3.out.grew ga);have X1:=dD (X1.out.grew ga);have X2:=dD (X2.out.grew ga);have X3:=dD (X3.out.grew ga);rw[hWa,HG4.out];clear hWa ga G3 M3
 go_wp2_with (refine wpList_insert_num rfl Tryz.underlying3 Tryz.underlying82 (.tmp 1) (.const (Xe Xf 4)) (.tmp 5) rfl b [(1,.func (.func 73) #[] #[Xj (Xa ⟨g1,0,Xb⟩)]),(2,.func (.func 73) #[] #[Xj (Xa ⟨g2,0,Xb⟩)]),(3,.func (.func 73) #[] #[Xj (Xa ⟨g3,0,Xb⟩)])] M3a.out 4 (.func (.func 73) #[] #[Xj (Xa ⟨g4,0,Xb⟩)]) rfl rfl rfl (by simp[lookN]) ?_)
 intro W4 mp gr;have M4:Xo (MapV W4 b [(1,.func (.func 73) #[] #[Xj (Xa ⟨g1,0,Xb⟩)]),(2,.func (.func 73) #[] #[Xj (Xa ⟨g2,0,Xb⟩)]),(3,.func (.func 73) #[] #[Xj (Xa ⟨g3,0,Xb⟩)]),(4,.func (.func 73) #[] #[Xj (Xa ⟨g4,0,Xb⟩)])]):=mp;have G4:Xo (Grew w W4):=show Grew _ _ from grew_grown G3a.out gr (by have:=HB.out;omega)
 have X1:Xo (BoxT W4 g1 80 [.func (.func 35) #[] #[]]):=X1.out.beside gr (b:=g1) (fun x hx=>by cases hx;exact boxmap X1.out M3a.out)
 have X2:Xo (BoxT W4 g2 80 [.func (.func 36) #[] #[]]):=X2.out.beside gr (b:=g2) (fun x hx=>by cases hx;exact boxmap X2.out M3a.out)
 have X3:Xo (BoxT W4 g3 80 [.func (.func 37) #[] #[]]):=X3.out.beside gr (b:=g3) (fun x hx=>by cases hx;exact boxmap X3.out M3a.out)
 have X4:Xo (BoxT W4 g4 80 [.func (.func 38) #[] #[]]):=X4.out.beside gr (b:=g4) (fun x hx=>by cases hx;exact boxmap X4.out M3a.out)
 clear mp gr M3a G3a;go_wp2_with fail;refine(ofProcess_any _ _).mono ?_;rintro r w' ⟨rfl,hw'⟩;rw[hw'];clear hw' w';obtain⟨W4a,hWa⟩:∃W4a,W4.alloc (Xk #[.func (.func 39) #[] #[]] 80)=W4a:=⟨_,rfl⟩;obtain⟨g5,HG5⟩:∃g5,Xo (W4.heap.size=g5):=⟨_,rfl⟩;have ga:=gP hWa
 have X5:=xPT hWa HG5
 have G4a:=dD (G4.out.trans ga);have M4a:=dD (M4.out.grew ga);have X1:=dD (X1.out.grew ga);have X2:=dD (X2.out.grew ga);have X3:=dD (X3.out.grew ga);have X4:=dD (X4.out.grew ga);rw[hWa,HG5.out];clear hWa ga G4 M4
 go_wp2_with (refine wpList_insert_num rfl Tryz.underlying3 Tryz.underlying82 (.tmp 1) (.const (Xe Xf 5)) (.tmp 6) rfl b [(1,.func (.func 73) #[] #[Xj (Xa ⟨g1,0,Xb⟩)]),(2,.func (.func 73) #[] #[Xj (Xa ⟨g2,0,Xb⟩)]),(3,.func (.func 73) #[] #[Xj (Xa ⟨g3,0,Xb⟩)]),(4,.func (.func 73) #[] #[Xj (Xa ⟨g4,0,Xb⟩)])] M4a.out 5 (.func (.func 73) #[] #[Xj (Xa ⟨g5,0,Xb⟩)]) rfl rfl rfl (by simp[lookN]) ?_)
 intro W5 mp gr;have M5:Xo (MapV W5 b [(1,.func (.func 73) #[] #[Xj (Xa ⟨g1,0,Xb⟩)]),(2,.func (.func 73) #[] #[Xj (Xa ⟨g2,0,Xb⟩)]),(3,.func (.func 73) #[] #[Xj (Xa ⟨g3,0,Xb⟩)]),(4,.func (.func 73) #[] #[Xj (Xa ⟨g4,0,Xb⟩)]),(5,.func (.func 73) #[] #[Xj (Xa ⟨g5,0,Xb⟩)])]):=mp;have G5:Xo (Grew w W5):=show Grew _ _ from grew_grown G4a.out gr (by have:=HB.out;omega)
 have X1:Xo (BoxT W5 g1 80 [.func (.func 35) #[] #[]]):=X1.out.beside gr (b:=g1) (fun x hx=>by cases hx;exact boxmap X1.out M4a.out)
 have X2:Xo (BoxT W5 g2 80 [.func (.func 36) #[] #[]]):=X2.out.beside gr (b:=g2) (fun x hx=>by cases hx;exact boxmap X2.out M4a.out)
 have X3:Xo (BoxT W5 g3 80 [.func (.func 37) #[] #[]]):=X3.out.beside gr (b:=g3) (fun x hx=>by cases hx;exact boxmap X3.out M4a.out)
 have X4:Xo (BoxT W5 g4 80 [.func (.func 38) #[] #[]]):=X4.out.beside gr (b:=g4) (fun x hx=>by cases hx;exact boxmap X4.out M4a.out)
 have X5:Xo (BoxT W5 g5 80 [.func (.func 39) #[] #[]]):=X5.out.beside gr (b:=g5) (fun x hx=>by cases hx;exact boxmap X5.out M4a.out)
 clear mp gr M4a G4a;go_wp2_with fail;refine(ofProcess_any _ _).mono ?_;rintro r w' ⟨rfl,hw'⟩;rw[hw'];clear hw' w';obtain⟨W5a,hWa⟩:∃W5a,W5.alloc (Xk #[.func (.func 40) #[] #[]] 80)=W5a:=⟨_,rfl⟩;obtain⟨g6,HG6⟩:∃g6,Xo (W5.heap.size=g6):=⟨_,rfl⟩;have ga:=gP hWa
 have X6:=xPT hWa HG6
 have G5a:=dD (G5.out.trans ga);have M5a:=dD (M5.out.grew ga);have X1:=dD (X1.out.grew ga);have X2:=dD (X2.out.grew ga);have X3:=dD (X3.out.grew ga);have X4:=dD (X4.out.grew ga);have X5:=dD (X5.out.grew ga);rw[hWa,HG6.out];clear hWa ga G5 M5
 go_wp2_with (refine wpList_insert_num rfl Tryz.underlying3 Tryz.underlying82 (.tmp 1) (.const (Xe Xf 6)) (.tmp 7) rfl b [(1,.func (.func 73) #[] #[Xj (Xa ⟨g1,0,Xb⟩)]),(2,.func (.func 73) #[] #[Xj (Xa ⟨g2,0,Xb⟩)]),(3,.func (.func 73) #[] #[Xj (Xa ⟨g3,0,Xb⟩)]),(4,.func (.func 73) #[] #[Xj (Xa ⟨g4,0,Xb⟩)]),(5,.func (.func 73) #[] #[Xj (Xa ⟨g5,0,Xb⟩)])] M5a.out 6 (.func (.func 73) #[] #[Xj (Xa ⟨g6,0,Xb⟩)]) rfl rfl rfl (by simp[lookN]) ?_)
 intro W6 mp gr;have M6:Xo (MapV W6 b [(1,.func (.func 73) #[] #[Xj (Xa ⟨g1,0,Xb⟩)]),(2,.func (.func 73) #[] #[Xj (Xa ⟨g2,0,Xb⟩)]),(3,.func (.func 73) #[] #[Xj (Xa ⟨g3,0,Xb⟩)]),(4,.func (.func 73) #[] #[Xj (Xa ⟨g4,0,Xb⟩)]),(5,.func (.func 73) #[] #[Xj (Xa ⟨g5,0,Xb⟩)]),(6,.func (.func 73) #[] #[Xj (Xa ⟨g6,0,Xb⟩)])]):=mp;have G6:Xo (Grew w W6):=show Grew _ _ from grew_grown G5a.out gr (by have:=HB.out;omega)
 have X1:Xo (BoxT W6 g1 80 [.func (.func 35) #[] #[]]):=X1.out.beside gr (b:=g1) (fun x hx=>by cases hx;exact boxmap X1.out M5a.out)
 have X2:Xo (BoxT W6 g2 80 [.func (.func 36) #[] #[]]):=X2.out.beside gr (b:=g2) (fun x hx=>by cases hx;exact boxmap X2.out M5a.out)
 have X3:Xo (BoxT W6 g3 80 [.func (.func 37) #[] #[]]):=X3.out.beside gr (b:=g3) (fun x hx=>by cases hx;exact boxmap X3.out M5a.out)
 have X4:Xo (BoxT W6 g4 80 [.func (.func 38) #[] #[]]):=X4.out.beside gr (b:=g4) (fun x hx=>by cases hx;exact boxmap X4.out M5a.out)
 have X5:Xo (BoxT W6 g5 80 [.func (.func 39) #[] #[]]):=X5.out.beside gr (b:=g5) (fun x hx=>by cases hx;exact boxmap X5.out M5a.out)
 have X6:Xo (BoxT W6 g6 80 [.func (.func 40) #[] #[]]):=X6.out.beside gr (b:=g6) (fun x hx=>by cases hx;exact boxmap X6.out M5a.out)
 clear mp gr M5a G5a;go_wp2_with fail;refine(ofProcess_any _ _).mono ?_;rintro r w' ⟨rfl,hw'⟩;rw[hw'];clear hw' w';obtain⟨W6a,hWa⟩:∃W6a,W6.alloc (Xk #[.func (.func 41) #[] #[]] 80)=W6a:=⟨_,rfl⟩;obtain⟨g7,HG7⟩:∃g7,Xo (W6.heap.size=g7):=⟨_,rfl⟩;have ga:=gP hWa
 have X7:=xPT hWa HG7
 have G6a:=dD (G6.out.trans ga);have M6a:=dD (M6.out.grew ga);have X1:=dD (X1.out.grew ga);have X2:=dD (X2.out.grew ga);have X3:=dD (X3.out.grew ga);have X4:=dD (X4.out.grew ga);have X5:=dD (X5.out.grew ga);have X6:=dD (X6.out.grew ga);rw[hWa,HG7.out];clear hWa ga G6 M6
 go_wp2_with (refine wpList_insert_num rfl Tryz.underlying3 Tryz.underlying82 (.tmp 1) (.const (Xe Xf 7)) (.tmp 8) rfl b [(1,.func (.func 73) #[] #[Xj (Xa ⟨g1,0,Xb⟩)]),(2,.func (.func 73) #[] #[Xj (Xa ⟨g2,0,Xb⟩)]),(3,.func (.func 73) #[] #[Xj (Xa ⟨g3,0,Xb⟩)]),(4,.func (.func 73) #[] #[Xj (Xa ⟨g4,0,Xb⟩)]),(5,.func (.func 73) #[] #[Xj (Xa ⟨g5,0,Xb⟩)]),(6,.func (.func 73) #[] #[Xj (Xa ⟨g6,0,Xb⟩)])] M6a.out 7 (.func (.func 73) #[] #[Xj (Xa ⟨g7,0,Xb⟩)]) rfl rfl rfl (by simp[lookN]) ?_)
 intro W7 mp gr;have M7:Xo (MapV W7 b [(1,.func (.func 73) #[] #[Xj (Xa ⟨g1,0,Xb⟩)]),(2,.func (.func 73) #[] #[Xj (Xa ⟨g2,0,Xb⟩)]),(3,.func (.func 73) #[] #[Xj (Xa ⟨g3,0,Xb⟩)]),(4,.func (.func 73) #[] #[Xj (Xa ⟨g4,0,Xb⟩)]),(5,.func (.func 73) #[] #[Xj (Xa ⟨g5,0,Xb⟩)]),(6,.func (.func 73) #[] #[Xj (Xa ⟨g6,0,Xb⟩)]),(7,.func (.func 73) #[] #[Xj (Xa ⟨g7,0,Xb⟩)])]):=mp;have G7:Xo (Grew w W7):=show Grew _ _ from grew_grown G6a.out gr (by have:=HB.out;omega)
 have X1:Xo (BoxT W7 g1 80 [.func (.func 35) #[] #[]]):=X1.out.beside gr (b:=g1) (fun x hx=>by cases hx;exact boxmap X1.out M6a.out)
 have X2:Xo (BoxT W7 g2 80 [.func (.func 36) #[] #[]]):=X2.out.beside gr (b:=g2) (fun x hx=>by cases hx;exact boxmap X2.out M6a.out)
 have X3:Xo (BoxT W7 g3 80 [.func (.func 37) #[] #[]]):=X3.out.beside gr (b:=g3) (fun x hx=>by cases hx;exact boxmap X3.out M6a.out)
 have X4:Xo (BoxT W7 g4 80 [.func (.func 38) #[] #[]]):=X4.out.beside gr (b:=g4) (fun x hx=>by cases hx;exact boxmap X4.out M6a.out)
 have X5:Xo (BoxT W7 g5 80 [.func (.func 39) #[] #[]]):=X5.out.beside gr (b:=g5) (fun x hx=>by cases hx;exact boxmap X5.out M6a.out)
 have X6:Xo (BoxT W7 g6 80 [.func (.func 40) #[] #[]]):=X6.out.beside gr (b:=g6) (fun x hx=>by cases hx;exact boxmap X6.out M6a.out)
 have X7:Xo (BoxT W7 g7 80 [.func (.func 41) #[] #[]]):=X7.out.beside gr (b:=g7) (fun x hx=>by cases hx;exact boxmap X7.out M6a.out)
 clear mp gr M6a G6a
 go_wp2_with (refine wpList_insert_num rfl Tryz.underlying3 Tryz.underlying82 (.tmp 1) (.const (Xe Xf 8)) (.func 42) rfl b [(1,.func (.func 73) #[] #[Xj (Xa ⟨g1,0,Xb⟩)]),(2,.func (.func 73) #[] #[Xj (Xa ⟨g2,0,Xb⟩)]),(3,.func (.func 73) #[] #[Xj (Xa ⟨g3,0,Xb⟩)]),(4,.func (.func 73) #[] #[Xj (Xa ⟨g4,0,Xb⟩)]),(5,.func (.func 73) #[] #[Xj (Xa ⟨g5,0,Xb⟩)]),(6,.func (.func 73) #[] #[Xj (Xa ⟨g6,0,Xb⟩)]),(7,.func (.func 73) #[] #[Xj (Xa ⟨g7,0,Xb⟩)])] M7.out 8 (.func (.func 42) #[] #[]) rfl rfl rfl (by simp[lookN]) ?_)
 intro W8 mp gr;have M8:Xo (MapV W8 b [(1,.func (.func 73) #[] #[Xj (Xa ⟨g1,0,Xb⟩)]),(2,.func (.func 73) #[] #[Xj (Xa ⟨g2,0,Xb⟩)]),(3,.func (.func 73) #[] #[Xj (Xa ⟨g3,0,Xb⟩)]),(4,.func (.func 73) #[] #[Xj (Xa ⟨g4,0,Xb⟩)]),(5,.func (.func 73) #[] #[Xj (Xa ⟨g5,0,Xb⟩)]),(6,.func (.func 73) #[] #[Xj (Xa ⟨g6,0,Xb⟩)]),(7,.func (.func 73) #[] #[Xj (Xa ⟨g7,0,Xb⟩)]),(8,.func (.func 42) #[] #[])]):=mp;have G8:Xo (Grew w W8):=show Grew _ _ from grew_grown G7.out gr (by have:=HB.out;omega)
 have X1:Xo (BoxT W8 g1 80 [.func (.func 35) #[] #[]]):=X1.out.beside gr (b:=g1) (fun x hx=>by cases hx;exact boxmap X1.out M7.out)
 have X2:Xo (BoxT W8 g2 80 [.func (.func 36) #[] #[]]):=X2.out.beside gr (b:=g2) (fun x hx=>by cases hx;exact boxmap X2.out M7.out)
 have X3:Xo (BoxT W8 g3 80 [.func (.func 37) #[] #[]]):=X3.out.beside gr (b:=g3) (fun x hx=>by cases hx;exact boxmap X3.out M7.out)
 have X4:Xo (BoxT W8 g4 80 [.func (.func 38) #[] #[]]):=X4.out.beside gr (b:=g4) (fun x hx=>by cases hx;exact boxmap X4.out M7.out)
 have X5:Xo (BoxT W8 g5 80 [.func (.func 39) #[] #[]]):=X5.out.beside gr (b:=g5) (fun x hx=>by cases hx;exact boxmap X5.out M7.out)
 have X6:Xo (BoxT W8 g6 80 [.func (.func 40) #[] #[]]):=X6.out.beside gr (b:=g6) (fun x hx=>by cases hx;exact boxmap X6.out M7.out)
 have X7:Xo (BoxT W8 g7 80 [.func (.func 41) #[] #[]]):=X7.out.beside gr (b:=g7) (fun x hx=>by cases hx;exact boxmap X7.out M7.out)
 clear mp gr M7 G7;go_wp2_with fail;refine(ofFile_any _ _).mono ?_;rintro r w' ⟨rfl,hw'⟩;rw[hw'];clear hw' w';obtain⟨W8a,hWa⟩:∃W8a,W8.alloc (Xk #[.func (.func 44) #[] #[]] 80)=W8a:=⟨_,rfl⟩;obtain⟨g9,HG9⟩:∃g9,Xo (W8.heap.size=g9):=⟨_,rfl⟩;have ga:=gP hWa
 have X9:=xPT hWa HG9
 have G8a:=dD (G8.out.trans ga);have M8a:=dD (M8.out.grew ga);have X1:=dD (X1.out.grew ga);have X2:=dD (X2.out.grew ga);have X3:=dD (X3.out.grew ga);have X4:=dD (X4.out.grew ga);have X5:=dD (X5.out.grew ga);have X6:=dD (X6.out.grew ga);have X7:=dD (X7.out.grew ga);rw[hWa,HG9.out];clear hWa ga G8 M8
 go_wp2_with (refine wpList_insert_num rfl Tryz.underlying3 Tryz.underlying82 (.tmp 1) (.const (Xe Xf 9)) (.tmp 9) rfl b [(1,.func (.func 73) #[] #[Xj (Xa ⟨g1,0,Xb⟩)]),(2,.func (.func 73) #[] #[Xj (Xa ⟨g2,0,Xb⟩)]),(3,.func (.func 73) #[] #[Xj (Xa ⟨g3,0,Xb⟩)]),(4,.func (.func 73) #[] #[Xj (Xa ⟨g4,0,Xb⟩)]),(5,.func (.func 73) #[] #[Xj (Xa ⟨g5,0,Xb⟩)]),(6,.func (.func 73) #[] #[Xj (Xa ⟨g6,0,Xb⟩)]),(7,.func (.func 73) #[] #[Xj (Xa ⟨g7,0,Xb⟩)]),(8,.func (.func 42) #[] #[])] M8a.out 9 (.func (.func 88) #[] #[Xj (Xa ⟨g9,0,Xb⟩)]) rfl rfl rfl (by simp[lookN]) ?_)
 intro W9 mp gr;have M9:Xo (MapV W9 b [(1,.func (.func 73) #[] #[Xj (Xa ⟨g1,0,Xb⟩)]),(2,.func (.func 73) #[] #[Xj (Xa ⟨g2,0,Xb⟩)]),(3,.func (.func 73) #[] #[Xj (Xa ⟨g3,0,Xb⟩)]),(4,.func (.func 73) #[] #[Xj (Xa ⟨g4,0,Xb⟩)]),(5,.func (.func 73) #[] #[Xj (Xa ⟨g5,0,Xb⟩)]),(6,.func (.func 73) #[] #[Xj (Xa ⟨g6,0,Xb⟩)]),(7,.func (.func 73) #[] #[Xj (Xa ⟨g7,0,Xb⟩)]),(8,.func (.func 42) #[] #[]),(9,.func (.func 88) #[] #[Xj (Xa ⟨g9,0,Xb⟩)])]):=mp;have G9:Xo (Grew w W9):=show Grew _ _ from grew_grown G8a.out gr (by have:=HB.out;omega)
 have X1:Xo (BoxT W9 g1 80 [.func (.func 35) #[] #[]]):=X1.out.beside gr (b:=g1) (fun x hx=>by cases hx;exact boxmap X1.out M8a.out)
 have X2:Xo (BoxT W9 g2 80 [.func (.func 36) #[] #[]]):=X2.out.beside gr (b:=g2) (fun x hx=>by cases hx;exact boxmap X2.out M8a.out)
 have X3:Xo (BoxT W9 g3 80 [.func (.func 37) #[] #[]]):=X3.out.beside gr (b:=g3) (fun x hx=>by cases hx;exact boxmap X3.out M8a.out)
 have X4:Xo (BoxT W9 g4 80 [.func (.func 38) #[] #[]]):=X4.out.beside gr (b:=g4) (fun x hx=>by cases hx;exact boxmap X4.out M8a.out)
 have X5:Xo (BoxT W9 g5 80 [.func (.func 39) #[] #[]]):=X5.out.beside gr (b:=g5) (fun x hx=>by cases hx;exact boxmap X5.out M8a.out)
 have X6:Xo (BoxT W9 g6 80 [.func (.func 40) #[] #[]]):=X6.out.beside gr (b:=g6) (fun x hx=>by cases hx;exact boxmap X6.out M8a.out)
 have X7:Xo (BoxT W9 g7 80 [.func (.func 41) #[] #[]]):=X7.out.beside gr (b:=g7) (fun x hx=>by cases hx;exact boxmap X7.out M8a.out)
 have X9:Xo (BoxT W9 g9 80 [.func (.func 44) #[] #[]]):=X9.out.beside gr (b:=g9) (fun x hx=>by cases hx;exact boxmap X9.out M8a.out)
 clear mp gr M8a G8a;go_wp2_with fail;refine(ofFile_any _ _).mono ?_;rintro r w' ⟨rfl,hw'⟩;rw[hw'];clear hw' w';obtain⟨W9a,hWa⟩:∃W9a,W9.alloc (Xk #[.func (.func 45) #[] #[]] 80)=W9a:=⟨_,rfl⟩;obtain⟨g10,HG10⟩:∃g10,Xo (W9.heap.size=g10):=⟨_,rfl⟩;have ga:=gP hWa
 have X10:=xPT hWa HG10
 have G9a:=dD (G9.out.trans ga);have M9a:=dD (M9.out.grew ga);have X1:=dD (X1.out.grew ga);have X2:=dD (X2.out.grew ga);have X3:=dD (X3.out.grew ga);have X4:=dD (X4.out.grew ga);have X5:=dD (X5.out.grew ga);have X6:=dD (X6.out.grew ga);have X7:=dD (X7.out.grew ga);have X9:=dD (X9.out.grew ga);rw[hWa,HG10.out];clear hWa ga G9 M9
 go_wp2_with (refine wpList_insert_num rfl Tryz.underlying3 Tryz.underlying82 (.tmp 1) (.const (Xe Xf 10)) (.tmp 10) rfl b [(1,.func (.func 73) #[] #[Xj (Xa ⟨g1,0,Xb⟩)]),(2,.func (.func 73) #[] #[Xj (Xa ⟨g2,0,Xb⟩)]),(3,.func (.func 73) #[] #[Xj (Xa ⟨g3,0,Xb⟩)]),(4,.func (.func 73) #[] #[Xj (Xa ⟨g4,0,Xb⟩)]),(5,.func (.func 73) #[] #[Xj (Xa ⟨g5,0,Xb⟩)]),(6,.func (.func 73) #[] #[Xj (Xa ⟨g6,0,Xb⟩)]),(7,.func (.func 73) #[] #[Xj (Xa ⟨g7,0,Xb⟩)]),(8,.func (.func 42) #[] #[]),(9,.func (.func 88) #[] #[Xj (Xa ⟨g9,0,Xb⟩)])] M9a.out 10 (.func (.func 88) #[] #[Xj (Xa ⟨g10,0,Xb⟩)]) rfl rfl rfl (by simp[lookN]) ?_)
 intro W10 mp gr;have M10:Xo (MapV W10 b [(1,.func (.func 73) #[] #[Xj (Xa ⟨g1,0,Xb⟩)]),(2,.func (.func 73) #[] #[Xj (Xa ⟨g2,0,Xb⟩)]),(3,.func (.func 73) #[] #[Xj (Xa ⟨g3,0,Xb⟩)]),(4,.func (.func 73) #[] #[Xj (Xa ⟨g4,0,Xb⟩)]),(5,.func (.func 73) #[] #[Xj (Xa ⟨g5,0,Xb⟩)]),(6,.func (.func 73) #[] #[Xj (Xa ⟨g6,0,Xb⟩)]),(7,.func (.func 73) #[] #[Xj (Xa ⟨g7,0,Xb⟩)]),(8,.func (.func 42) #[] #[]),(9,.func (.func 88) #[] #[Xj (Xa ⟨g9,0,Xb⟩)]),(10,.func (.func 88) #[] #[Xj (Xa ⟨g10,0,Xb⟩)])]):=mp;have G10:Xo (Grew w W10):=show Grew _ _ from grew_grown G9a.out gr (by have:=HB.out;omega)
 have X1:Xo (BoxT W10 g1 80 [.func (.func 35) #[] #[]]):=X1.out.beside gr (b:=g1) (fun x hx=>by cases hx;exact boxmap X1.out M9a.out)
 have X2:Xo (BoxT W10 g2 80 [.func (.func 36) #[] #[]]):=X2.out.beside gr (b:=g2) (fun x hx=>by cases hx;exact boxmap X2.out M9a.out)
 have X3:Xo (BoxT W10 g3 80 [.func (.func 37) #[] #[]]):=X3.out.beside gr (b:=g3) (fun x hx=>by cases hx;exact boxmap X3.out M9a.out)
 have X4:Xo (BoxT W10 g4 80 [.func (.func 38) #[] #[]]):=X4.out.beside gr (b:=g4) (fun x hx=>by cases hx;exact boxmap X4.out M9a.out)
 have X5:Xo (BoxT W10 g5 80 [.func (.func 39) #[] #[]]):=X5.out.beside gr (b:=g5) (fun x hx=>by cases hx;exact boxmap X5.out M9a.out)
 have X6:Xo (BoxT W10 g6 80 [.func (.func 40) #[] #[]]):=X6.out.beside gr (b:=g6) (fun x hx=>by cases hx;exact boxmap X6.out M9a.out)
 have X7:Xo (BoxT W10 g7 80 [.func (.func 41) #[] #[]]):=X7.out.beside gr (b:=g7) (fun x hx=>by cases hx;exact boxmap X7.out M9a.out)
 have X9:Xo (BoxT W10 g9 80 [.func (.func 44) #[] #[]]):=X9.out.beside gr (b:=g9) (fun x hx=>by cases hx;exact boxmap X9.out M9a.out)
 have X10:Xo (BoxT W10 g10 80 [.func (.func 45) #[] #[]]):=X10.out.beside gr (b:=g10) (fun x hx=>by cases hx;exact boxmap X10.out M9a.out)
 clear mp gr M9a G9a;go_wp2_with fail;refine(ofFile_any _ _).mono ?_;rintro r w' ⟨rfl,hw'⟩;rw[hw'];clear hw' w';obtain⟨W10a,hWa⟩:∃W10a,W10.alloc (Xk #[.func (.func 46) #[] #[]] 80)=W10a:=⟨_,rfl⟩;obtain⟨g11,HG11⟩:∃g11,Xo (W10.heap.size=g11):=⟨_,rfl⟩;have ga:=gP hWa
 have X11:=xPT hWa HG11
 have G10a:=dD (G10.out.trans ga);have M10a:=dD (M10.out.grew ga);have X1:=dD (X1.out.grew ga);have X2:=dD (X2.out.grew ga);have X3:=dD (X3.out.grew ga);have X4:=dD (X4.out.grew ga);have X5:=dD (X5.out.grew ga);have X6:=dD (X6.out.grew ga);have X7:=dD (X7.out.grew ga);have X9:=dD (X9.out.grew ga);have X10:=dD (X10.out.grew ga);rw[hWa,HG11.out];clear hWa ga G10 M10
 go_wp2_with (refine wpList_insert_num rfl Tryz.underlying3 Tryz.underlying82 (.tmp 1) (.const (Xe Xf 11)) (.tmp 11) rfl b [(1,.func (.func 73) #[] #[Xj (Xa ⟨g1,0,Xb⟩)]),(2,.func (.func 73) #[] #[Xj (Xa ⟨g2,0,Xb⟩)]),(3,.func (.func 73) #[] #[Xj (Xa ⟨g3,0,Xb⟩)]),(4,.func (.func 73) #[] #[Xj (Xa ⟨g4,0,Xb⟩)]),(5,.func (.func 73) #[] #[Xj (Xa ⟨g5,0,Xb⟩)]),(6,.func (.func 73) #[] #[Xj (Xa ⟨g6,0,Xb⟩)]),(7,.func (.func 73) #[] #[Xj (Xa ⟨g7,0,Xb⟩)]),(8,.func (.func 42) #[] #[]),(9,.func (.func 88) #[] #[Xj (Xa ⟨g9,0,Xb⟩)]),(10,.func (.func 88) #[] #[Xj (Xa ⟨g10,0,Xb⟩)])] M10a.out 11 (.func (.func 88) #[] #[Xj (Xa ⟨g11,0,Xb⟩)]) rfl rfl rfl (by simp[lookN]) ?_)
 intro W11 mp gr;have M11:Xo (MapV W11 b [(1,.func (.func 73) #[] #[Xj (Xa ⟨g1,0,Xb⟩)]),(2,.func (.func 73) #[] #[Xj (Xa ⟨g2,0,Xb⟩)]),(3,.func (.func 73) #[] #[Xj (Xa ⟨g3,0,Xb⟩)]),(4,.func (.func 73) #[] #[Xj (Xa ⟨g4,0,Xb⟩)]),(5,.func (.func 73) #[] #[Xj (Xa ⟨g5,0,Xb⟩)]),(6,.func (.func 73) #[] #[Xj (Xa ⟨g6,0,Xb⟩)]),(7,.func (.func 73) #[] #[Xj (Xa ⟨g7,0,Xb⟩)]),(8,.func (.func 42) #[] #[]),(9,.func (.func 88) #[] #[Xj (Xa ⟨g9,0,Xb⟩)]),(10,.func (.func 88) #[] #[Xj (Xa ⟨g10,0,Xb⟩)]),(11,.func (.func 88) #[] #[Xj (Xa ⟨g11,0,Xb⟩)])]):=mp;have G11:Xo (Grew w W11):=show Grew _ _ from grew_grown G10a.out gr (by have:=HB.out;omega)
 have X1:Xo (BoxT W11 g1 80 [.func (.func 35) #[] #[]]):=X1.out.beside gr (b:=g1) (fun x hx=>by cases hx;exact boxmap X1.out M10a.out)
 have X2:Xo (BoxT W11 g2 80 [.func (.func 36) #[] #[]]):=X2.out.beside gr (b:=g2) (fun x hx=>by cases hx;exact boxmap X2.out M10a.out)
 have X3:Xo (BoxT W11 g3 80 [.func (.func 37) #[] #[]]):=X3.out.beside gr (b:=g3) (fun x hx=>by cases hx;exact boxmap X3.out M10a.out)
 have X4:Xo (BoxT W11 g4 80 [.func (.func 38) #[] #[]]):=X4.out.beside gr (b:=g4) (fun x hx=>by cases hx;exact boxmap X4.out M10a.out)
 have X5:Xo (BoxT W11 g5 80 [.func (.func 39) #[] #[]]):=X5.out.beside gr (b:=g5) (fun x hx=>by cases hx;exact boxmap X5.out M10a.out)
 have X6:Xo (BoxT W11 g6 80 [.func (.func 40) #[] #[]]):=X6.out.beside gr (b:=g6) (fun x hx=>by cases hx;exact boxmap X6.out M10a.out)
 have X7:Xo (BoxT W11 g7 80 [.func (.func 41) #[] #[]]):=X7.out.beside gr (b:=g7) (fun x hx=>by cases hx;exact boxmap X7.out M10a.out)
 have X9:Xo (BoxT W11 g9 80 [.func (.func 44) #[] #[]]):=X9.out.beside gr (b:=g9) (fun x hx=>by cases hx;exact boxmap X9.out M10a.out)
 have X10:Xo (BoxT W11 g10 80 [.func (.func 45) #[] #[]]):=X10.out.beside gr (b:=g10) (fun x hx=>by cases hx;exact boxmap X10.out M10a.out)
 have X11:Xo (BoxT W11 g11 80 [.func (.func 46) #[] #[]]):=X11.out.beside gr (b:=g11) (fun x hx=>by cases hx;exact boxmap X11.out M10a.out)
 clear mp gr M10a G10a;go_wp2_with fail;refine(ofFile_any _ _).mono ?_;rintro r w' ⟨rfl,hw'⟩;rw[hw'];clear hw' w';obtain⟨W11a,hWa⟩:∃W11a,W11.alloc (Xk #[.func (.func 47) #[] #[]] 80)=W11a:=⟨_,rfl⟩;obtain⟨g12,HG12⟩:∃g12,Xo (W11.heap.size=g12):=⟨_,rfl⟩;have ga:=gP hWa
 have X12:=xPT hWa HG12
 have G11a:=dD (G11.out.trans ga);have M11a:=dD (M11.out.grew ga);have X1:=dD (X1.out.grew ga);have X2:=dD (X2.out.grew ga);have X3:=dD (X3.out.grew ga);have X4:=dD (X4.out.grew ga);have X5:=dD (X5.out.grew ga);have X6:=dD (X6.out.grew ga);have X7:=dD (X7.out.grew ga);have X9:=dD (X9.out.grew ga);have X10:=dD (X10.out.grew ga);have X11:=dD (X11.out.grew ga);rw[hWa,HG12.out];clear hWa ga G11 M11
 go_wp2_with (refine wpList_insert_num rfl Tryz.underlying3 Tryz.underlying82 (.tmp 1) (.const (Xe Xf 12)) (.tmp 12) rfl b [(1,.func (.func 73) #[] #[Xj (Xa ⟨g1,0,Xb⟩)]),(2,.func (.func 73) #[] #[Xj (Xa ⟨g2,0,Xb⟩)]),(3,.func (.func 73) #[] #[Xj (Xa ⟨g3,0,Xb⟩)]),(4,.func (.func 73) #[] #[Xj (Xa ⟨g4,0,Xb⟩)]),(5,.func (.func 73) #[] #[Xj (Xa ⟨g5,0,Xb⟩)]),(6,.func (.func 73) #[] #[Xj (Xa ⟨g6,0,Xb⟩)]),(7,.func (.func 73) #[] #[Xj (Xa ⟨g7,0,Xb⟩)]),(8,.func (.func 42) #[] #[]),(9,.func (.func 88) #[] #[Xj (Xa ⟨g9,0,Xb⟩)]),(10,.func (.func 88) #[] #[Xj (Xa ⟨g10,0,Xb⟩)]),(11,.func (.func 88) #[] #[Xj (Xa ⟨g11,0,Xb⟩)])] M11a.out 12 (.func (.func 88) #[] #[Xj (Xa ⟨g12,0,Xb⟩)]) rfl rfl rfl (by simp[lookN]) ?_)
 intro W12 mp gr;have M12:Xo (MapV W12 b [(1,.func (.func 73) #[] #[Xj (Xa ⟨g1,0,Xb⟩)]),(2,.func (.func 73) #[] #[Xj (Xa ⟨g2,0,Xb⟩)]),(3,.func (.func 73) #[] #[Xj (Xa ⟨g3,0,Xb⟩)]),(4,.func (.func 73) #[] #[Xj (Xa ⟨g4,0,Xb⟩)]),(5,.func (.func 73) #[] #[Xj (Xa ⟨g5,0,Xb⟩)]),(6,.func (.func 73) #[] #[Xj (Xa ⟨g6,0,Xb⟩)]),(7,.func (.func 73) #[] #[Xj (Xa ⟨g7,0,Xb⟩)]),(8,.func (.func 42) #[] #[]),(9,.func (.func 88) #[] #[Xj (Xa ⟨g9,0,Xb⟩)]),(10,.func (.func 88) #[] #[Xj (Xa ⟨g10,0,Xb⟩)]),(11,.func (.func 88) #[] #[Xj (Xa ⟨g11,0,Xb⟩)]),(12,.func (.func 88) #[] #[Xj (Xa ⟨g12,0,Xb⟩)])]):=mp;have G12:Xo (Grew w W12):=show Grew _ _ from grew_grown G11a.out gr (by have:=HB.out;omega)
 have X1:Xo (BoxT W12 g1 80 [.func (.func 35) #[] #[]]):=X1.out.beside gr (b:=g1) (fun x hx=>by cases hx;exact boxmap X1.out M11a.out)
 have X2:Xo (BoxT W12 g2 80 [.func (.func 36) #[] #[]]):=X2.out.beside gr (b:=g2) (fun x hx=>by cases hx;exact boxmap X2.out M11a.out)
 have X3:Xo (BoxT W12 g3 80 [.func (.func 37) #[] #[]]):=X3.out.beside gr (b:=g3) (fun x hx=>by cases hx;exact boxmap X3.out M11a.out)
 have X4:Xo (BoxT W12 g4 80 [.func (.func 38) #[] #[]]):=X4.out.beside gr (b:=g4) (fun x hx=>by cases hx;exact boxmap X4.out M11a.out)
 have X5:Xo (BoxT W12 g5 80 [.func (.func 39) #[] #[]]):=X5.out.beside gr (b:=g5) (fun x hx=>by cases hx;exact boxmap X5.out M11a.out)
 have X6:Xo (BoxT W12 g6 80 [.func (.func 40) #[] #[]]):=X6.out.beside gr (b:=g6) (fun x hx=>by cases hx;exact boxmap X6.out M11a.out)
 have X7:Xo (BoxT W12 g7 80 [.func (.func 41) #[] #[]]):=X7.out.beside gr (b:=g7) (fun x hx=>by cases hx;exact boxmap X7.out M11a.out)
 have X9:Xo (BoxT W12 g9 80 [.func (.func 44) #[] #[]]):=X9.out.beside gr (b:=g9) (fun x hx=>by cases hx;exact boxmap X9.out M11a.out)
 have X10:Xo (BoxT W12 g10 80 [.func (.func 45) #[] #[]]):=X10.out.beside gr (b:=g10) (fun x hx=>by cases hx;exact boxmap X10.out M11a.out)
 have X11:Xo (BoxT W12 g11 80 [.func (.func 46) #[] #[]]):=X11.out.beside gr (b:=g11) (fun x hx=>by cases hx;exact boxmap X11.out M11a.out)
 have X12:Xo (BoxT W12 g12 80 [.func (.func 47) #[] #[]]):=X12.out.beside gr (b:=g12) (fun x hx=>by cases hx;exact boxmap X12.out M11a.out)
 clear mp gr M11a G11a
 go_wp2_with (refine wpList_insert_num rfl Tryz.underlying3 Tryz.underlying82 (.tmp 1) (.const (Xe Xf 13)) (.func 48) rfl b [(1,.func (.func 73) #[] #[Xj (Xa ⟨g1,0,Xb⟩)]),(2,.func (.func 73) #[] #[Xj (Xa ⟨g2,0,Xb⟩)]),(3,.func (.func 73) #[] #[Xj (Xa ⟨g3,0,Xb⟩)]),(4,.func (.func 73) #[] #[Xj (Xa ⟨g4,0,Xb⟩)]),(5,.func (.func 73) #[] #[Xj (Xa ⟨g5,0,Xb⟩)]),(6,.func (.func 73) #[] #[Xj (Xa ⟨g6,0,Xb⟩)]),(7,.func (.func 73) #[] #[Xj (Xa ⟨g7,0,Xb⟩)]),(8,.func (.func 42) #[] #[]),(9,.func (.func 88) #[] #[Xj (Xa ⟨g9,0,Xb⟩)]),(10,.func (.func 88) #[] #[Xj (Xa ⟨g10,0,Xb⟩)]),(11,.func (.func 88) #[] #[Xj (Xa ⟨g11,0,Xb⟩)]),(12,.func (.func 88) #[] #[Xj (Xa ⟨g12,0,Xb⟩)])] M12.out 13 (.func (.func 48) #[] #[]) rfl rfl rfl (by simp[lookN]) ?_)
 intro W13 mp gr;have M13:Xo (MapV W13 b [(1,.func (.func 73) #[] #[Xj (Xa ⟨g1,0,Xb⟩)]),(2,.func (.func 73) #[] #[Xj (Xa ⟨g2,0,Xb⟩)]),(3,.func (.func 73) #[] #[Xj (Xa ⟨g3,0,Xb⟩)]),(4,.func (.func 73) #[] #[Xj (Xa ⟨g4,0,Xb⟩)]),(5,.func (.func 73) #[] #[Xj (Xa ⟨g5,0,Xb⟩)]),(6,.func (.func 73) #[] #[Xj (Xa ⟨g6,0,Xb⟩)]),(7,.func (.func 73) #[] #[Xj (Xa ⟨g7,0,Xb⟩)]),(8,.func (.func 42) #[] #[]),(9,.func (.func 88) #[] #[Xj (Xa ⟨g9,0,Xb⟩)]),(10,.func (.func 88) #[] #[Xj (Xa ⟨g10,0,Xb⟩)]),(11,.func (.func 88) #[] #[Xj (Xa ⟨g11,0,Xb⟩)]),(12,.func (.func 88) #[] #[Xj (Xa ⟨g12,0,Xb⟩)]),(13,.func (.func 48) #[] #[])]):=mp;have G13:Xo (Grew w W13):=show Grew _ _ from grew_grown G12.out gr (by have:=HB.out;omega)
 have X1:Xo (BoxT W13 g1 80 [.func (.func 35) #[] #[]]):=X1.out.beside gr (b:=g1) (fun x hx=>by cases hx;exact boxmap X1.out M12.out)
 have X2:Xo (BoxT W13 g2 80 [.func (.func 36) #[] #[]]):=X2.out.beside gr (b:=g2) (fun x hx=>by cases hx;exact boxmap X2.out M12.out)
 have X3:Xo (BoxT W13 g3 80 [.func (.func 37) #[] #[]]):=X3.out.beside gr (b:=g3) (fun x hx=>by cases hx;exact boxmap X3.out M12.out)
 have X4:Xo (BoxT W13 g4 80 [.func (.func 38) #[] #[]]):=X4.out.beside gr (b:=g4) (fun x hx=>by cases hx;exact boxmap X4.out M12.out)
 have X5:Xo (BoxT W13 g5 80 [.func (.func 39) #[] #[]]):=X5.out.beside gr (b:=g5) (fun x hx=>by cases hx;exact boxmap X5.out M12.out)
 have X6:Xo (BoxT W13 g6 80 [.func (.func 40) #[] #[]]):=X6.out.beside gr (b:=g6) (fun x hx=>by cases hx;exact boxmap X6.out M12.out)
 have X7:Xo (BoxT W13 g7 80 [.func (.func 41) #[] #[]]):=X7.out.beside gr (b:=g7) (fun x hx=>by cases hx;exact boxmap X7.out M12.out)
 have X9:Xo (BoxT W13 g9 80 [.func (.func 44) #[] #[]]):=X9.out.beside gr (b:=g9) (fun x hx=>by cases hx;exact boxmap X9.out M12.out)
 have X10:Xo (BoxT W13 g10 80 [.func (.func 45) #[] #[]]):=X10.out.beside gr (b:=g10) (fun x hx=>by cases hx;exact boxmap X10.out M12.out)
 have X11:Xo (BoxT W13 g11 80 [.func (.func 46) #[] #[]]):=X11.out.beside gr (b:=g11) (fun x hx=>by cases hx;exact boxmap X11.out M12.out)
 have X12:Xo (BoxT W13 g12 80 [.func (.func 47) #[] #[]]):=X12.out.beside gr (b:=g12) (fun x hx=>by cases hx;exact boxmap X12.out M12.out)
 clear mp gr M12 G12
 go_wp2_with (refine wpList_insert_num rfl Tryz.underlying3 Tryz.underlying82 (.tmp 1) (.const (Xe Xf 14)) (.func 49) rfl b [(1,.func (.func 73) #[] #[Xj (Xa ⟨g1,0,Xb⟩)]),(2,.func (.func 73) #[] #[Xj (Xa ⟨g2,0,Xb⟩)]),(3,.func (.func 73) #[] #[Xj (Xa ⟨g3,0,Xb⟩)]),(4,.func (.func 73) #[] #[Xj (Xa ⟨g4,0,Xb⟩)]),(5,.func (.func 73) #[] #[Xj (Xa ⟨g5,0,Xb⟩)]),(6,.func (.func 73) #[] #[Xj (Xa ⟨g6,0,Xb⟩)]),(7,.func (.func 73) #[] #[Xj (Xa ⟨g7,0,Xb⟩)]),(8,.func (.func 42) #[] #[]),(9,.func (.func 88) #[] #[Xj (Xa ⟨g9,0,Xb⟩)]),(10,.func (.func 88) #[] #[Xj (Xa ⟨g10,0,Xb⟩)]),(11,.func (.func 88) #[] #[Xj (Xa ⟨g11,0,Xb⟩)]),(12,.func (.func 88) #[] #[Xj (Xa ⟨g12,0,Xb⟩)]),(13,.func (.func 48) #[] #[])] M13.out 14 (.func (.func 49) #[] #[]) rfl rfl rfl (by simp[lookN]) ?_)
 intro W14 mp gr;have M14:Xo (MapV W14 b [(1,.func (.func 73) #[] #[Xj (Xa ⟨g1,0,Xb⟩)]),(2,.func (.func 73) #[] #[Xj (Xa ⟨g2,0,Xb⟩)]),(3,.func (.func 73) #[] #[Xj (Xa ⟨g3,0,Xb⟩)]),(4,.func (.func 73) #[] #[Xj (Xa ⟨g4,0,Xb⟩)]),(5,.func (.func 73) #[] #[Xj (Xa ⟨g5,0,Xb⟩)]),(6,.func (.func 73) #[] #[Xj (Xa ⟨g6,0,Xb⟩)]),(7,.func (.func 73) #[] #[Xj (Xa ⟨g7,0,Xb⟩)]),(8,.func (.func 42) #[] #[]),(9,.func (.func 88) #[] #[Xj (Xa ⟨g9,0,Xb⟩)]),(10,.func (.func 88) #[] #[Xj (Xa ⟨g10,0,Xb⟩)]),(11,.func (.func 88) #[] #[Xj (Xa ⟨g11,0,Xb⟩)]),(12,.func (.func 88) #[] #[Xj (Xa ⟨g12,0,Xb⟩)]),(13,.func (.func 48) #[] #[]),(14,.func (.func 49) #[] #[])]):=mp;have G14:Xo (Grew w W14):=show Grew _ _ from grew_grown G13.out gr (by have:=HB.out;omega)
 have X1:Xo (BoxT W14 g1 80 [.func (.func 35) #[] #[]]):=X1.out.beside gr (b:=g1) (fun x hx=>by cases hx;exact boxmap X1.out M13.out)
 have X2:Xo (BoxT W14 g2 80 [.func (.func 36) #[] #[]]):=X2.out.beside gr (b:=g2) (fun x hx=>by cases hx;exact boxmap X2.out M13.out)
 have X3:Xo (BoxT W14 g3 80 [.func (.func 37) #[] #[]]):=X3.out.beside gr (b:=g3) (fun x hx=>by cases hx;exact boxmap X3.out M13.out)
 have X4:Xo (BoxT W14 g4 80 [.func (.func 38) #[] #[]]):=X4.out.beside gr (b:=g4) (fun x hx=>by cases hx;exact boxmap X4.out M13.out)
 have X5:Xo (BoxT W14 g5 80 [.func (.func 39) #[] #[]]):=X5.out.beside gr (b:=g5) (fun x hx=>by cases hx;exact boxmap X5.out M13.out)
 have X6:Xo (BoxT W14 g6 80 [.func (.func 40) #[] #[]]):=X6.out.beside gr (b:=g6) (fun x hx=>by cases hx;exact boxmap X6.out M13.out)
 have X7:Xo (BoxT W14 g7 80 [.func (.func 41) #[] #[]]):=X7.out.beside gr (b:=g7) (fun x hx=>by cases hx;exact boxmap X7.out M13.out)
 have X9:Xo (BoxT W14 g9 80 [.func (.func 44) #[] #[]]):=X9.out.beside gr (b:=g9) (fun x hx=>by cases hx;exact boxmap X9.out M13.out)
 have X10:Xo (BoxT W14 g10 80 [.func (.func 45) #[] #[]]):=X10.out.beside gr (b:=g10) (fun x hx=>by cases hx;exact boxmap X10.out M13.out)
 have X11:Xo (BoxT W14 g11 80 [.func (.func 46) #[] #[]]):=X11.out.beside gr (b:=g11) (fun x hx=>by cases hx;exact boxmap X11.out M13.out)
 have X12:Xo (BoxT W14 g12 80 [.func (.func 47) #[] #[]]):=X12.out.beside gr (b:=g12) (fun x hx=>by cases hx;exact boxmap X12.out M13.out)
 clear mp gr M13 G13
 go_wp2_with (refine wpList_insert_num rfl Tryz.underlying3 Tryz.underlying82 (.tmp 1) (.const (Xe Xf 15)) (.func 50) rfl b [(1,.func (.func 73) #[] #[Xj (Xa ⟨g1,0,Xb⟩)]),(2,.func (.func 73) #[] #[Xj (Xa ⟨g2,0,Xb⟩)]),(3,.func (.func 73) #[] #[Xj (Xa ⟨g3,0,Xb⟩)]),(4,.func (.func 73) #[] #[Xj (Xa ⟨g4,0,Xb⟩)]),(5,.func (.func 73) #[] #[Xj (Xa ⟨g5,0,Xb⟩)]),(6,.func (.func 73) #[] #[Xj (Xa ⟨g6,0,Xb⟩)]),(7,.func (.func 73) #[] #[Xj (Xa ⟨g7,0,Xb⟩)]),(8,.func (.func 42) #[] #[]),(9,.func (.func 88) #[] #[Xj (Xa ⟨g9,0,Xb⟩)]),(10,.func (.func 88) #[] #[Xj (Xa ⟨g10,0,Xb⟩)]),(11,.func (.func 88) #[] #[Xj (Xa ⟨g11,0,Xb⟩)]),(12,.func (.func 88) #[] #[Xj (Xa ⟨g12,0,Xb⟩)]),(13,.func (.func 48) #[] #[]),(14,.func (.func 49) #[] #[])] M14.out 15 (.func (.func 50) #[] #[]) rfl rfl rfl (by simp[lookN]) ?_)
 intro W15 mp gr;have M15:Xo (MapV W15 b [(1,.func (.func 73) #[] #[Xj (Xa ⟨g1,0,Xb⟩)]),(2,.func (.func 73) #[] #[Xj (Xa ⟨g2,0,Xb⟩)]),(3,.func (.func 73) #[] #[Xj (Xa ⟨g3,0,Xb⟩)]),(4,.func (.func 73) #[] #[Xj (Xa ⟨g4,0,Xb⟩)]),(5,.func (.func 73) #[] #[Xj (Xa ⟨g5,0,Xb⟩)]),(6,.func (.func 73) #[] #[Xj (Xa ⟨g6,0,Xb⟩)]),(7,.func (.func 73) #[] #[Xj (Xa ⟨g7,0,Xb⟩)]),(8,.func (.func 42) #[] #[]),(9,.func (.func 88) #[] #[Xj (Xa ⟨g9,0,Xb⟩)]),(10,.func (.func 88) #[] #[Xj (Xa ⟨g10,0,Xb⟩)]),(11,.func (.func 88) #[] #[Xj (Xa ⟨g11,0,Xb⟩)]),(12,.func (.func 88) #[] #[Xj (Xa ⟨g12,0,Xb⟩)]),(13,.func (.func 48) #[] #[]),(14,.func (.func 49) #[] #[]),(15,.func (.func 50) #[] #[])]):=mp;have G15:Xo (Grew w W15):=show Grew _ _ from grew_grown G14.out gr (by have:=HB.out;omega)
 have X1:Xo (BoxT W15 g1 80 [.func (.func 35) #[] #[]]):=X1.out.beside gr (b:=g1) (fun x hx=>by cases hx;exact boxmap X1.out M14.out)
 have X2:Xo (BoxT W15 g2 80 [.func (.func 36) #[] #[]]):=X2.out.beside gr (b:=g2) (fun x hx=>by cases hx;exact boxmap X2.out M14.out)
 have X3:Xo (BoxT W15 g3 80 [.func (.func 37) #[] #[]]):=X3.out.beside gr (b:=g3) (fun x hx=>by cases hx;exact boxmap X3.out M14.out)
 have X4:Xo (BoxT W15 g4 80 [.func (.func 38) #[] #[]]):=X4.out.beside gr (b:=g4) (fun x hx=>by cases hx;exact boxmap X4.out M14.out)
 have X5:Xo (BoxT W15 g5 80 [.func (.func 39) #[] #[]]):=X5.out.beside gr (b:=g5) (fun x hx=>by cases hx;exact boxmap X5.out M14.out)
 have X6:Xo (BoxT W15 g6 80 [.func (.func 40) #[] #[]]):=X6.out.beside gr (b:=g6) (fun x hx=>by cases hx;exact boxmap X6.out M14.out)
 have X7:Xo (BoxT W15 g7 80 [.func (.func 41) #[] #[]]):=X7.out.beside gr (b:=g7) (fun x hx=>by cases hx;exact boxmap X7.out M14.out)
 have X9:Xo (BoxT W15 g9 80 [.func (.func 44) #[] #[]]):=X9.out.beside gr (b:=g9) (fun x hx=>by cases hx;exact boxmap X9.out M14.out)
 have X10:Xo (BoxT W15 g10 80 [.func (.func 45) #[] #[]]):=X10.out.beside gr (b:=g10) (fun x hx=>by cases hx;exact boxmap X10.out M14.out)
 have X11:Xo (BoxT W15 g11 80 [.func (.func 46) #[] #[]]):=X11.out.beside gr (b:=g11) (fun x hx=>by cases hx;exact boxmap X11.out M14.out)
 have X12:Xo (BoxT W15 g12 80 [.func (.func 47) #[] #[]]):=X12.out.beside gr (b:=g12) (fun x hx=>by cases hx;exact boxmap X12.out M14.out)
 clear mp gr M14 G14;obtain⟨l,HL⟩:∃l:List (Int × Xq),Xo ([(1,.func (.func 73) #[] #[Xj (Xa ⟨g1,0,Xb⟩)]),(2,.func (.func 73) #[] #[Xj (Xa ⟨g2,0,Xb⟩)]),(3,.func (.func 73) #[] #[Xj (Xa ⟨g3,0,Xb⟩)]),(4,.func (.func 73) #[] #[Xj (Xa ⟨g4,0,Xb⟩)]),(5,.func (.func 73) #[] #[Xj (Xa ⟨g5,0,Xb⟩)]),(6,.func (.func 73) #[] #[Xj (Xa ⟨g6,0,Xb⟩)]),(7,.func (.func 73) #[] #[Xj (Xa ⟨g7,0,Xb⟩)]),(8,.func (.func 42) #[] #[]),(9,.func (.func 88) #[] #[Xj (Xa ⟨g9,0,Xb⟩)]),(10,.func (.func 88) #[] #[Xj (Xa ⟨g10,0,Xb⟩)]),(11,.func (.func 88) #[] #[Xj (Xa ⟨g11,0,Xb⟩)]),(12,.func (.func 88) #[] #[Xj (Xa ⟨g12,0,Xb⟩)]),(13,.func (.func 48) #[] #[]),(14,.func (.func 49) #[] #[]),(15,.func (.func 50) #[] #[])]=l):=⟨_,rfl⟩;have HK:Xo (∀k v,lookN l k=Xa v->WorkV W15 k v):=show∀k v,_ from fun k v h=>by
  have hm:=lookN_mem h;rw[<-HL.out]at hm;simp only[mC,pJ,nM,or_false]at hm
  rcases hm with⟨rfl,rfl⟩ | ⟨rfl,rfl⟩ | ⟨rfl,rfl⟩ | ⟨rfl,rfl⟩ | ⟨rfl,rfl⟩ | ⟨rfl,rfl⟩ | ⟨rfl,rfl⟩ | ⟨rfl,rfl⟩ | ⟨rfl,rfl⟩ | ⟨rfl,rfl⟩ | ⟨rfl,rfl⟩ | ⟨rfl,rfl⟩ | ⟨rfl,rfl⟩ | ⟨rfl,rfl⟩ | ⟨rfl,rfl⟩
  all_goals (refine⟨?_,?_,?_,?_,?_,?_,?_,?_,?_,?_,?_,?_,?_,?_,?_⟩ <;> intro e <;> first | exact absurd e (by decide) | rfl | exact⟨_,rfl,X1.out⟩ | exact⟨_,rfl,X2.out⟩ | exact⟨_,rfl,X3.out⟩ | exact⟨_,rfl,X4.out⟩ | exact⟨_,rfl,X5.out⟩ | exact⟨_,rfl,X6.out⟩ | exact⟨_,rfl,X7.out⟩ | exact⟨_,rfl,X9.out⟩ | exact⟨_,rfl,X10.out⟩ | exact⟨_,rfl,X11.out⟩ | exact⟨_,rfl,X12.out⟩)
 have HS:Xo (∀k,(lookN l k).isSome=decide (1<=k/\k<=15)):=show∀k,_ from fun k=>by
  rw[<-HL.out]
  by_cases h:1<=k/\k<=15
  ·rw[decide_eq_true h];have:k=1\/k=2\/k=3\/k=4\/k=5\/k=6\/k=7\/k=8\/k=9\/k=10\/k=11\/k=12\/k=13\/k=14\/k=15:=by omega
   rcases this with rfl | rfl | rfl | rfl | rfl | rfl | rfl | rfl | rfl | rfl | rfl | rfl | rfl | rfl | rfl <;> rfl
  rw[decide_eq_false h];simp only[lookN];iterate 15 rw[if_neg (by omega)]
  rfl
 rw[HL.out]at M15;go_wp2;go_ret;exact⟨⟨b,l,rfl,M15.out,HK.out,HS.out⟩,G15.out⟩
theorem run_rem8 {z:Int} (h:0<=z) (o:Oper) (a:Act) (x:Operand) (w:Xn) (ho:o.op= .binOp .rem 3 x (.const (Xe Xf 8)) 3) (hx:a.eval x= Xe Xf z):(execOp a.eval o).run Tryz.prog w= .ok (.value (Xe Xf (z % 8))) w:=by
 have hc:a.eval (.const (Xe Xf 8))= Xe Xf 8:=rfl;simp only[execOp,ho,hx,hc]
 go_simp
 exact Int.tmod_eq_emod_of_nonneg h
theorem run_idxF {g n c k:Nat} (o:Oper) (a:Act) (x y:Operand) (w:Xn) (ho:o.op= .indexAddr 27 x y) (hx:a.eval x= O (Xa ⟨g,0,Xb⟩) n c) (hy:a.eval y= Xe Xf (k:Int)) (hk:k<n):(execOp a.eval o).run Tryz.prog w= .ok (.value (Xj (Xa ⟨g,k*13,Xb⟩))) w:=by
 have hlt:(k:Int)< (n:Int):=by omega
 simp only[execOp,ho,hx,hy]
 go_simp
end
end Go.Proofs.YtempiodbdhiboaaGreat
