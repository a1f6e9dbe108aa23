import Derived.Test.YtacihbmelcegbaaGreatPE3
import Derived.Deep.DeepCutAuto
namespace Go.Proofs.YtacihbmelcegbaaGreat
open Go.Value renaming slice→O,int→Xe,bool→Xh,agg→Xi,pointer→Xj,tuple→Xm
open Go.IntKind renaming i64→Xf,u8→Xg
open Go.Obj renaming cells→Xk
open Go.Ending renaming returned→Xl
open Go renaming World→Xo,Calls→Xq,Value→Xr
open Go.RowKit renaming Hid→Xp
open Option renaming some→Xa,none→Xb
open Bool renaming true→Xc,false→Xd
open List renaming replicate→Xs
open Go.Act renaming put→Xt
open _root_.List renaming getElem?_mapIdx→Xu,length_set→Xv,ext_getElem?→Xy,map_nil→Xz,length_take→Ya,map_toArray→Yb,getElem?_append_left→Yd,take→Ye,drop→Yf,length_drop→Yg,mem_of_find?_eq_some→Yh,length_cons→Yi,take_append_drop→Yl,getElem?_of_mem→Ym,flatMap_append→Yn,find?_eq_none→Yo
open Go.Sem renaming run_pure→Xw,run_bind→Xx
open _root_.Nat renaming mul_le_mul_right→Yc,min_eq_left→Yk
open _root_.Bool renaming noConfusion→Yj
set_option maxRecDepth 100000
set_option maxHeartbeats 4000000
variable{B0 B1 b fi hi ix j:Nat} {L:List Int} {Q:Exit->Act->Xo->Prop} {T:List (Nat->En)} {V:MaV} {l:List Ar} {m m':Ma} {o:Oper} {ops:Array Oper} {t:TypeId} {us:List Xr} {vl vt:Sli} {w' w0 w1:Xo} {z:Int}
open Go.Proofs.Tryz
section
open Go.RowKit
theorem zeZ {r:List (Int × List Int)} {q:Int × List Int} {m:Int} {d:List Int}:zb2 ((r++ [q]).reverse.find? (fun q=>q.1 == m)) d=if q.1 == m then q.2 else zb2 (r.reverse.find? (fun q=>q.1 == m)) d:=by
 rw[List.reverse_append];simp only[List.reverse_cons,List.reverse_nil,List.nil_append,List.cons_append,List.find?_cons]
 cases hq:(q.1 == m) <;> simp[zb2]
theorem zgl (d:Xr) (ps:List (List Int)) (qs:List (Int × List Int)) (m:Int) (w:Xo) (hd:j8 w d ps qs) (hr0:¬zo ps.length qs m=0):
  Xq prog 81 #[d,I6 m] w fun e w'=>e= Xl (Xm #[Xi (pgc zx).toArray,I6 (zo ps.length qs m)])/\zc w w':=by
 obtain⟨b,q,rfl,hb,hq⟩:=hd;have HQ:Xp (qH w q qs):=hq;obtain⟨ab,cb,rfl,_⟩:=hb.rows;obtain⟨aq,cq,rfl,_⟩:=hq.rows;clear hb hq;have HWA:Xp (zo ps.length qs m=if zJ ps.length qs=0 then(if jo m ps.length then 0 else 3)else zJ ps.length qs):=rfl;obtain⟨W0,hW0⟩:=kB ((w.alloc (Xk #[O ab ps.length cb,O aq qs.length cq] 34)).alloc (Xk #[U8 0,U8 0,U8 0,U8 0,U8 0,U8 0,U8 0,U8 0] 44));have HG0:=gD2 hW0
 have X0:=x2a hW0
 have X1:=x2b hW0
 have hcon:=zbc ab ps.length cb (O aq qs.length cq) qs W0 (HQ.grew HG0);obtain⟨r,HR⟩:=kA (zJ ps.length qs);rw[HR.out]at hcon HWA;obtain⟨nb,HNB⟩:=kA ps.length;obtain⟨kq,HNQ⟩:=kA qs.length;rw[HNB.out]at HWA hr0;rw[HNB.out,HNQ.out]at hcon hW0 X0⊢;have HW0:Xp (_=W0):=hW0;clear hW0;have hcases:(Xp (zo nb qs m=r)/\(r != 0)=Xc)\/(Xp (zo nb qs m=3)/\(r != 0)=Xd/\Xp (r=0)/\m<0)\/(Xp (zo nb qs m=3)/\(r != 0)=Xd/\Xp (r=0)/\¬m<0/\(nb:Int)<=m):=by
  by_cases h1:r=0
  ·subst h1;rw[kE rfl]at HWA;have hnb:¬jo m nb=Xc:=fun e=>by rw[HWA.out,kE e]at hr0;exact hr0 rfl
   rw[kF hnb]at HWA;unfold jo at hnb
   simp at hnb
   by_cases h2:m<0
   ·exact .inr (.inl ⟨HWA,rfl,rfl,h2⟩)
   exact .inr (.inr ⟨HWA,rfl,rfl,h2,hnb (by omega)⟩)
  rw[kF h1]at HWA;exact .inl ⟨HWA,by simpa using h1⟩
 clear hr0
 rcases hcases with⟨HE,h1⟩|⟨HE,h1,h0,h2⟩|⟨HE,h1,h0,h2,h3⟩
 ·rw[HE.out]
  go_enter func81,ntmps81
  go_wp2_with (
   go_at_call 92;rw[HW0.out];refine hcon.mono ?_;clear hcon;rintro e W1 ⟨rfl,g1⟩
   have e0:=(X0.grew g1).c 0 rfl;have Y:=X1.grew g1;obtain⟨c0,c1,c2,c3,c4,c5,c6,c7⟩:=Y.c8;have f0:=Y.f)
  refine bodyPost_ret (v:= Xm #[Xi #[U8 0,U8 0,U8 0,U8 0,U8 0,U8 0,U8 0,U8 0],I6 r]) (by simp[results,Tryz.results81,go_sem, *]) rfl ⟨rfl,?_⟩
  have HG1:zc w W1:=HG0.trans g1;iterate 8 (refine zz ?_ (by simp) _)
  exact HG1
 all_goals
  rw[HE.out];have hr:=h0.out;subst hr
  go_enter func81,ntmps81
  go_wp2_with (
   go_at_call 92;rw[HW0.out];refine hcon.mono ?_;clear hcon;rintro e W1 ⟨rfl,g1⟩
   have e0:=(X0.grew g1).c 0 rfl;have Y:=X1.grew g1;obtain⟨c0,c1,c2,c3,c4,c5,c6,c7⟩:=Y.c8;have f0:=Y.f)
  refine bodyPost_ret (v:= Xm #[Xi #[U8 0,U8 0,U8 0,U8 0,U8 0,U8 0,U8 0,U8 0],I6 3]) (by simp[results,Tryz.results81,go_sem, *]) rfl ⟨rfl,?_⟩
  have HG1:zc w W1:=HG0.trans g1;iterate 8 (refine zz ?_ (by simp) _)
  exact HG1
theorem zh2 (d:Xr) (ps:List (List Int)) (qs:List (Int × List Int)) (i:Nat) (w:Xo) (hd:j8 w d ps qs) (hr0:zo ps.length qs (i:Int)=0):
  Xq prog 81 #[d,I6 (i:Int)] w fun e w'=>e= Xl (Xm #[Xi (pgc (jt ps qs (i:Int))).toArray,I6 0])/\zc w w':=by
 obtain⟨hw0,i',hii,hib⟩:=qz hr0;have hi:i<ps.length:=by omega
 have HRL:=zbC hr0;simp only[tN]at HRL;obtain⟨b,q,rfl,hb,hq⟩:=hd;have HQ:Xp (qH w q qs):=hq;have hbig:qs.length<=9223372036854775807:=by have:=hq.2.2;omega
 obtain⟨ab,cb,rfl,hrb⟩:=hb.rows;obtain⟨aq,cq,rfl,hrq⟩:=hq.rows;have HRQ:Xp (ZO w aq qs):=hrq;obtain⟨pg,hpg⟩:∃pg,ps[i]? =Xa pg:=⟨_,gE hi⟩;obtain⟨xa,b0,b1,b2,b3,b4,b5,b6,b7,hxa,rfl,hrow⟩:=hrb i pg hpg;subst hxa;have HROW:Xp (∀W,zc w W->zcM W (xa.add (i*8)) b0 b1 b2 b3 b4 b5 b6 b7):=hrow;rw[show ps.getD i zx=[b0,b1,b2,b3,b4,b5,b6,b7]from by rw[gD,hpg];rfl]at HRL
 have HL:Xp (jt ps qs (i:Int)=zb2 (qs.reverse.find? (fun q=>q.1 ==(i:Int))) [b0,b1,b2,b3,b4,b5,b6,b7]):=HRL
 clear hb hq hrb hrq hrow hpg HRL;obtain⟨W0,hW0⟩:=kB ((w.alloc (Xk #[O (Xa xa) ps.length cb,O aq qs.length cq] 34)).alloc (Xk #[U8 0,U8 0,U8 0,U8 0,U8 0,U8 0,U8 0,U8 0] 44));have HG0:=gD2 hW0
 have X0:=x2a hW0
 have X1:=x2b hW0
 have hcon:=zbc (Xa xa) ps.length cb (O aq qs.length cq) qs W0 (HQ.grew HG0);rw[hw0]at hcon;obtain⟨nb,HNB⟩:=kA ps.length;obtain⟨kq,HNQ⟩:=kA qs.length;rw[HNB.out]at hi;rw[HNQ.out]at hbig;rw[HNB.out,HNQ.out]at hcon hW0 X0⊢;have HW0:Xp (_=W0):=hW0;have h2:¬(i:Int)<0:=by omega
 have h3:¬(nb:Int)<=(i:Int):=by omega
 have h4:(i:Int)< (nb:Int):=by omega
 clear hW0 hw0 hii hib hr0
 go_enter func81,ntmps81
 go_wp2_with (
  go_at_call 92;rw[HW0.out];refine hcon.mono ?_;clear hcon;rintro e W1 ⟨rfl,g1⟩
  have G1:Xp (zc W0 W1):=g1;have e0:=(X0.grew g1).c 0 rfl;have e1:=(X0.grew g1).c 1 rfl;have el:=(X0.grew g1).lt;obtain⟨d0,d1,d2,d3,d4,d5,d6,d7⟩:=HROW.out W1 (HG0.trans g1))
 have HT:Xp (∀(j:Nat) q,qs[j]? =Xa q->qs.take (j+1)=qs.take j++ [q]):=dD<|fun j q h=>by
  obtain⟨hlt,rfl⟩:=gS.1 h;exact List.take_succ_eq_append_getElem hlt
 clear e0 e1 el d0 d1 d2 d3 d4 d5 d6 d7
 go_loopg [9,34] kq (fun gg _ s34 wr=>∃(kk:Nat) (c0 c1 c2 c3 c4 c5 c6 c7:Int),kk<=kq/\kq - kk<=gg/\s34=I6 kk/\Xp (zc w wr)/\Xp (Box wr W1.heap.size [U8 c0,U8 c1,U8 c2,U8 c3,U8 c4,U8 c5,U8 c6,U8 c7])/\Xp (Box wr (w.heap.size+1) [U8 0,U8 0,U8 0,U8 0,U8 0,U8 0,U8 0,U8 0])/\Xp (zb2 ((qs.take kk).reverse.find? (fun q=>q.1 ==(i:Int))) [b0,b1,b2,b3,b4,b5,b6,b7]=[c0,c1,c2,c3,c4,c5,c6,c7]))
 case atStart=>exact⟨0,b0,b1,b2,b3,b4,b5,b6,b7,nZ _,by omega,rfl,(HG0.trans G1).trans (za _ _),Box.top W1 [U8 b0,U8 b1,U8 b2,U8 b3,U8 b4,U8 b5,U8 b6,U8 b7] _ rfl,(X1.grew G1).alloc _,rfl⟩
 obtain⟨kk,c0,c1,c2,c3,c4,c5,c6,c7,hkk,hg,rfl,GW,BP,BR,HPK⟩:=hrel;have hW1w:w.heap.size+2<=W1.heap.size:=by have h1:=bS G1.out;have h2:=X1.lt;omega
 by_cases hlt:kk<kq
 ·have hltz:=kC hlt
  obtain⟨q,HQK⟩:∃q,Xp (qs[kk]? =Xa q):=⟨_,gE (by rw[HNQ.out];exact hlt)⟩
  obtain⟨x,m,a0,a1,a2,a3,a4,a5,a6,a7,rfl,rfl,hl⟩:=HRQ.out kk q HQK.out;obtain⟨d0,d1,d2,d3,d4,d5,d6,d7,d8⟩:=hl wr GW.out;have HST:=HT.out kk _ HQK.out;clear hl
  by_cases hm:m=(i:Int)
  ·subst hm;obtain⟨k0,k1,k2,k3,k4,k5,k6,k7⟩:=BP.c8;have kf:=BP.f;have kl:=BP.lt;have HST':Xp (zb2 ((qs.take (kk+1)).reverse.find? (fun q=>q.1 ==(i:Int))) [b0,b1,b2,b3,b4,b5,b6,b7]=[a0,a1,a2,a3,a4,a5,a6,a7]):=dD<|by rw[HST,zeZ];simp
   go_wp2
   go_roundg (kq -(kk+1))
   case measure=>omega
   refine⟨kk+1,a0,a1,a2,a3,a4,a5,a6,a7,by omega,by omega,by go_num,?_,?_,?_,HST'⟩
   ·show zc _ _
    refine zc.trans ?_ (za _ _);iterate 8 (refine zz ?_ (by simp;omega) _)
    exact GW.out
   ·exact((((((((BP.set 0 _).set 1 _).set 2 _).set 3 _).set 4 _).set 5 _).set 6 _).set 7 _).alloc _
   show Box _ _ _
   refine Box.alloc ?_ _;iterate 8 (refine Box.other ?_ (by simp;omega) _)
   exact BR.out
  have hmb:(m ==(i:Int))=Xd:=by simpa using hm
  have HST':Xp (zb2 ((qs.take (kk+1)).reverse.find? (fun q=>q.1 ==(i:Int))) [b0,b1,b2,b3,b4,b5,b6,b7]=[c0,c1,c2,c3,c4,c5,c6,c7]):=dD<|by rw[HST,zeZ];simp only[hmb];exact HPK.out
  clear hm;go_wp2
  go_roundg (kq -(kk+1))
  case measure=>omega
  exact⟨kk+1,c0,c1,c2,c3,c4,c5,c6,c7,by omega,by omega,by go_num,GW.trans (za _ _),BP.alloc _,BR.alloc _,HST'⟩
 have hltz:=kD hlt
 have:kk=kq:=by omega
 subst this;obtain⟨k0,k1,k2,k3,k4,k5,k6,k7⟩:=BP.c8;obtain⟨r0,r1,r2,r3,r4,r5,r6,r7⟩:=BR.c8;have rf:=BR.f;have HF:Xp (jt ps qs (i:Int)=[c0,c1,c2,c3,c4,c5,c6,c7]):=dD<|by rw[HL.out,<-HPK.out,List.take_of_length_le (by rw[HNQ.out];exact nR _)]
 go_wp2;refine bodyPost_ret (v:= Xm #[Xi #[U8 c0,U8 c1,U8 c2,U8 c3,U8 c4,U8 c5,U8 c6,U8 c7],I6 0]) (by simp[results,Tryz.results81,go_sem, *]) rfl ⟨by rw[HF.out];rfl,?_⟩
 iterate 8 (refine zz ?_ (by simp) _)
 exact GW.out
theorem zgm (d:Xr) (ps:List (List Int)) (qs:List (Int × List Int)) (m:Int) (w:Xo) (hd:j8 w d ps qs):
  Xq prog 81 #[d,I6 m] w fun e w'=>e= Xl (Xm #[Xi (pgc (jt ps qs m)).toArray,I6 (zo ps.length qs m)])/\zc w w':=by
 by_cases hr:zo ps.length qs m=0
 ·obtain⟨_,i,rfl,_⟩:=qz hr;rw[hr];exact zh2 d ps qs i w hd hr
 rw[show jt ps qs m=zx from kF hr]
 exact zgl d ps qs m w hd hr
def ZC (p:List Int) (idx size:Int) (k:Nat):List Int:=p.mapIdx fun i z=>if i<k/\size<=8*idx+(i:Int)then 0 else z
theorem ziO (p:List Int) (idx size:Int):ZC p idx size 0=p:=by
 unfold ZC
 apply Xy
 intro i;rw[Xu]
 cases p[i]? <;> simp
theorem zfF (p:List Int) (idx size:Int) (k:Nat):(ZC p idx size k).length=p.length:=by unfold ZC;simp
theorem zfH {p:List Int} {idx size:Int} {k:Nat} (h:p.length<=k):ZC p idx size k=Qr p idx size:=by
 unfold ZC Qr
 apply Xy
 intro i;rw[Xu,Xu]
 cases hp:p[i]? with
 | none=>rfl
 | some z=>
  have:=(gS.1 hp).1;have hk:i<k:=by omega
  simp[hk]
theorem zfG {p:List Int} {idx size:Int} {k:Nat} (hk:k<p.length) (h:size<=8*idx+(k:Int)):(ZC p idx size k).set k 0=ZC p idx size (k+1):=by
 unfold ZC
 apply Xy
 intro i
 by_cases e:i=k
 ·subst e;rw[sF (by simpa using hk),Xu,gE hk]
  simp[h]
 rw[sN (fun h=>e h.symm),Xu,Xu]
 cases p[i]? with
 | none=>rfl
 | some z=>
  have:i<k↔i<k+1:=by omega
  simp[this]
theorem zkG {p:List Int} {idx size:Int} {k:Nat} (h:¬size<=8*idx+(k:Int)):ZC p idx size k=ZC p idx size (k+1):=by
 unfold ZC
 apply Xy
 intro i;rw[Xu,Xu]
 cases p[i]? with
 | none=>rfl
 | some z=>
  by_cases e:i=k
  ·subst e
   simp[h]
  have:i<k↔i<k+1:=by omega
  simp[this]
theorem zjD {ps:List (List Int)} {qs:List (Int × List Int)} {b:Int} (h1:∀p∈ps,p.length=8) (h2:∀q∈qs,q.2.length=8):(jt ps qs b).length=8:=by
 unfold jt
 split
 ·cases h:qs.reverse.find? (fun q=>q.1 == b)with
  | some q=>exact h2 q (by have:=Yh h;simpa using this)
  | none=>
   simp only;rw[gD]
   cases h3:ps[b.toNat]? with
   | none=>rfl
   | some p=>exact h1 p (mG h3)
 rfl
theorem zgN (V:MaV) (m:Ma) (fi ix:Nat) (f:Fl) (bk:Int) (w:Xo) (hm:zN w V m) (hca:∀c∈m.ca,zc1 fi ix c=Xc->0<=c.fr/\c.fr<m.fs.length) (hf:m.fl[fi]? =Xa f) (hbk:f.bl[ix]? =Xa bk) (hix:ix<=1000):
  Xq prog 76 #[Xi (mL V m).toArray,I6 (fi:Int),I6 (ix:Int)] w fun e w'=>e= Xl (Xi (pgc (jX m fi ix)).toArray)/\(jX m fi ix).length=8/\zc w w':=by
 have HRD:Xp (∀W,zc w W->Xq prog 81 #[Xi #[V.db.x,V.dq.x],I6 bk] W fun e w'=>e= Xl (Xm #[Xi (pgc (jt m.db m.dq bk)).toArray,I6 (zo m.db.length m.dq bk)])/\zc W w'):=dD<|fun W hW=>zgm _ m.db m.dq bk W ⟨_,_,rfl,(hm.grew hW).db,(hm.grew hW).dq⟩
 have HRL:Xp ((jt m.db m.dq bk).length=8):=zjD hm.db.2.1 hm.dq.2.1;obtain⟨⟨fa,fn,fc⟩,vs,vsb,vsq,vdb,vdq,⟨fla,fln,flc⟩,⟨caa,can,cac⟩,vsp⟩:=V;dsimp only[mL]at HRD⊢;obtain⟨n1,-,-,-,-,-,n7,n8,-⟩:=hm.ns;dsimp only at n1 n7 n8;have HFR:Xp (zaM w fa m.fs):=hm.frs;have HCA:Xp (zbm w caa m.ca):=hm.cas;have HN1:Xp (m.fs.length=fn):=n1.symm;have HN8:Xp (m.ca.length=can):=n8.symm;have hbc:can<=9223372036854775807:=by have:=hm.ca.short;omega
 obtain⟨_,_,hfe,_,hfr⟩:=qh.rows hm.fl;have HFL:Xp (Qv w fla m.fl):=dD<|by
  simp only[vJ]at hfe;rw[hfe.1];exact hfr
 have HIN:Xp (∀c∈m.ca,zc1 fi ix c=Xc->0<=c.fr/\c.fr<m.fs.length):=hca;have hfn:fi<fln:=by rw[n7];exact(gS.1 hf).1
 obtain⟨ad,rfl,ba,bc,hbr,hfl⟩:=HFL.out fi f hf;have HBL:Xp (∀W,zc w W->zac W (ad.add (fi*2)) f.size (O ba f.bl.length bc)):=hfl;obtain⟨_,_,hbe,hbn⟩:=hbr.nums;have hbl:ix<f.bl.length:=(gS.1 hbk).1;obtain⟨ad2,had2,hb2⟩:=hbn ix bk hbk;have HB2:Xp (ba=Xa ad2/\∀W,zc w W->W.cell? (ad2.add ix)=Xa (I6 bk)):=show _/\_ from⟨by simp only[vJ]at hbe;rw[hbe.1];exact had2,hb2⟩
 obtain⟨bn,HBN⟩:=kA f.bl.length;rw[HBN.out]at hbl HBL;have HCO1:Xp (∀c,m.ca.find? (zc1 fi ix)=Xa c->jX m fi ix=pgL (z8 m c.fr).p):=dD<|fun c hc=>by unfold jX;rw[hc]
 have HCO2:Xp (m.ca.find? (zc1 fi ix)=Xb->jX m fi ix=if bk<0 then zx else Qr (jt m.db m.dq bk) ix f.size):=dD<|fun hc=>by
  have hg:m.fl.getD ((fi:Int).toNat) ⟨0,[]⟩=f:=by rw[tN,gD,hf];rfl
  have e1:zfS m fi ix=bk:=by unfold zfS;rw[hg,tN,gD,hbk];rfl
  have e2:zcR m fi=f.size:=by unfold zcR;rw[hg]
  unfold jX;rw[hc];simp only[e1,e2]
 obtain⟨C,HC⟩:=kA (jX m fi ix);rw[HC.out]at HCO1 HCO2⊢;clear hm n1 n7 n8 hfe hfr hca hf hbk hfl hbr hbe hbn had2 hb2;have hfz:(fi:Int)< (fln:Int):=by omega
 have hbz:(ix:Int)< (bn:Int):=by omega
 obtain⟨W0,hW0⟩:=kB ((w.alloc (Xk #[O fa fn fc,I6 m.hand,vs.x,vsb.x,vsq.x,vdb.x,vdq.x,O (Xa ad) fln flc,I6 m.cnt,O caa can cac,vsp.x] 41)).alloc (Xk #[U8 0,U8 0,U8 0,U8 0,U8 0,U8 0,U8 0,U8 0] 44));have HG0:=gD2 hW0
 have X0:=x2a hW0
 have Y0:Xp (Box W0 (w.heap.size+1) (pgc zx)):=dD<|by rw[<-hW0];exact Box.top _ (pgc zx) _ (by simp)
 have HW0:Xp (_=W0):=hW0;clear hW0
 go_enter func76,ntmps76
 go_upto_region 1 with fail;rw[HW0.out];have x9:=X0.c 9 rfl;go_wp2;clear x9
 go_loopg [16] can (fun gg s16 wr=>∃kk:Nat,kk<=can/\can - kk<=gg/\s16=I6 kk/\Xp (zc W0 wr)/\Xp (∀(j:Nat) c,j<kk->m.ca[j]? =Xa c->zc1 fi ix c=Xd))
 case atStart=>exact⟨0,nZ _,by omega,rfl,zc.refl _,fun j c hj=>absurd hj (nL _)⟩
 obtain⟨kk,hkk,hgg,rfl,BW,OW⟩:=hrel
 by_cases hlt:kk<can
 ·have hltz:=kC hlt
  obtain⟨c,HC⟩:∃c,Xp (m.ca[kk]? =Xa c):=⟨_,gE (by rw[HN8.out];exact hlt)⟩
  obtain⟨adc,rfl,hl⟩:=HCA.out kk c HC.out;obtain⟨d0,d1,d2⟩:=hl wr (HG0.trans BW);clear hl;go_upto_region 4 with fail;obtain⟨W1,hW1⟩:=kB (wr.alloc (Xk #[I6 c.file,I6 c.idx,I6 c.fr] 120));have HG1:=gT hW1 BW
  have C1:=xA hW1
  rw[hW1];clear hW1 d0 d1 d2;obtain⟨c0,c1,c2⟩:=C1.c3;have HNX:Xp (zc1 fi ix c=Xd->∀(j:Nat) c,j<kk+1->m.ca[j]? =Xa c->zc1 fi ix c=Xd):=dD<|fun h0 j c' hj hc'=>by
   by_cases e:j=kk
   ·subst e;rw[HC.out]at hc';cases hc';exact h0
   exact OW j c' (by omega) hc'
  by_cases h1:c.file=(fi:Int)
  ·have h1e:(c.file ==(fi:Int))=Xc:=by simp[h1]
   by_cases h2:c.idx=(ix:Int)
   ·have h2e:(c.idx ==(ix:Int))=Xc:=by simp[h2]
    have HHT:Xp (zc1 fi ix c=Xc):=dD<|by simp[zc1,h1,h2]
    have HFD:Xp (m.ca.find? (zc1 fi ix)=Xa c):=dD<|by
     rw[List.find?_eq_some_iff_getElem];refine⟨HHT,kk,(gS.1 HC).1,(gS.1 HC).2,fun j hj=>?_⟩
     have:=OW.out j _ hj (gE (by have:=(gS.1 HC).1;omega))
     simp[this]
    obtain⟨r0,r1⟩:=HIN.out c (mG HC) HHT.out;obtain⟨k,hk⟩:∃k:Nat,c.fr=(k:Int):=⟨c.fr.toNat,by omega⟩
    have hkn:k<fn:=by rw[<-HN1.out];omega
    have hkz:(k:Int)< (fn:Int):=by omega
    obtain⟨q,HQ⟩:∃q,Xp (m.fs[k]? =Xa q):=⟨_,gE (by rw[HN1.out];exact hkn)⟩
    have HCE:Xp (C=pgL q.p):=dD<|by
     rw[HCO1.out c HFD.out,hk];unfold z8;rw[tN,gD,HQ.out];rfl
    rw[hk]at c2;clear h1 h2 r0 r1 hk;go_upto_region 5 with fail;obtain⟨adf,hva,hl⟩:=HFR.out k q HQ.out;obtain⟨d0,d1,d2,d3,d4,d5,d6,d7,-⟩:=hl W1 (HG0.trans HG1);have x0:=(X0.grew HG1).c 0 rfl;rw[hva]at x0;have Y1:=dD (Y0.grew HG1);clear hl hva
    go_wp2_with (refine zK rfl 44 (.tmp 6) (.tmp 37) rfl (w.heap.size+1) rfl (pgc (pgL q.p)) rfl Y1 rfl zoI (Zr _) ?_)
    intro W2 hb2 hg2 _;have HG2:Xp (zc w W2):=dD<|ze (HG0.trans HG1) hg2 (by omega)
    go_wp2;refine bodyPost_ret (zZ rfl _ rfl hb2 underlying44 rfl zoI) rfl ⟨by rw[HCE.out],by rw[HCE.out];rfl,HG2⟩
   have h2e:(c.idx ==(ix:Int))=Xd:=by simp[h2]
   have OW':Xp (∀(j:Nat) c,j<kk+1->m.ca[j]? =Xa c->zc1 fi ix c=Xd):=HNX.out (by simp[zc1,h2])
   clear h1 h2;go_wp2
   go_roundg (can -(kk+1))
   case measure=>omega
   exact⟨kk+1,by omega,by omega,by go_num,HG1,OW'⟩
  have h1e:(c.file ==(fi:Int))=Xd:=by simp[h1]
  have OW':Xp (∀(j:Nat) c,j<kk+1->m.ca[j]? =Xa c->zc1 fi ix c=Xd):=HNX.out (by simp[zc1,h1])
  clear h1;go_wp2
  go_roundg (can -(kk+1))
  case measure=>omega
  exact⟨kk+1,by omega,by omega,by go_num,HG1,OW'⟩
 have hltz:=kD hlt
 have hke:kk=can:=by omega
 have HNO:Xp (m.ca.find? (zc1 fi ix)=Xb):=dD<|by
  rw[Yo];intro c hc;obtain⟨j,hj⟩:=Ym hc;have:=OW.out j c (by rw[hke,<-HN8.out];exact(gS.1 hj).1) hj
  simp[this]
 have HCE:Xp (C=if bk<0 then zx else Qr (jt m.db m.dq bk) ix f.size):=HCO2.out HNO.out;clear hke;go_upto_region 7 with fail;have x7:=(X0.grew BW).c 7 rfl;obtain⟨d0,d1⟩:=HBL.out wr (HG0.trans BW);obtain⟨hba,hb2⟩:=HB2.out;rw[hba]at d1;have e0:=hb2 wr (HG0.trans BW);clear hba hb2 d0;have YW:=dD (Y0.grew BW)
 by_cases hb:bk<0
 ·rw[kE hb]at HCE
  go_wp2_with (refine zK rfl 44 (.tmp 6) (.tmp 51) rfl (w.heap.size+1) rfl (pgc zx) rfl YW rfl zoI (Zr _) ?_)
  intro W2 hb2 hg2 _;have HG2:Xp (zc w W2):=dD<|ze (HG0.trans BW) hg2 (by omega)
  go_wp2;refine bodyPost_ret (zZ rfl _ rfl hb2 underlying44 rfl zoI) rfl ⟨by rw[HCE.out],by rw[HCE.out];rfl,HG2⟩
 rw[kF hb]at HCE;have x5:=(X0.grew BW).c 5 rfl;have x6:=(X0.grew BW).c 6 rfl;have hrd:=HRD.out wr (HG0.trans BW);go_wp2_with fail;refine hrd.mono ?_;clear hrd x5 x6 x7 d1 e0;rintro e W2 ⟨rfl,g2⟩;obtain⟨p,HP⟩:=kA (jt m.db m.dq bk);rw[HP.out]at HCE HRL⊢;have HG2:=dD (BW.trans g2);clear g2;obtain⟨p0,p1,p2,p3,p4,p5,p6,p7,rfl⟩:=zdZ p HRL.out;simp only[pgc,mP,Xz];go_upto_region 11 with fail;obtain⟨W3,hW3⟩:=kB (W2.alloc (Xk #[U8 p0,U8 p1,U8 p2,U8 p3,U8 p4,U8 p5,U8 p6,U8 p7] 44));have HG3:=gT hW3 HG2
 have P3:Xp (Box W3 W2.heap.size (pgc (ZC [p0,p1,p2,p3,p4,p5,p6,p7] ix f.size 0))):=dD<|by rw[<-hW3,ziO];exact Box.top _ (pgc [p0,p1,p2,p3,p4,p5,p6,p7]) _ rfl
 have HPL:Xp (w.heap.size+1<W2.heap.size):=dD<|(Y0.grew HG2).lt
 rw[hW3];clear hW3;obtain⟨pp,HPP⟩:=kA W2.heap.size;rw[HPP.out]at P3 HPL⊢;go_wp2
 go_loopg [59] 8 (fun gg s59 wr=>∃i:Nat,i<=8/\8 - i<=gg/\s59=I6 i/\Xp (zc w wr)/\Xp (Box wr w.heap.size [O fa fn fc,I6 m.hand,vs.x,vsb.x,vsq.x,vdb.x,vdq.x,O (Xa ad) fln flc,I6 m.cnt,O caa can cac,vsp.x])/\Xp (Box wr (w.heap.size+1) (pgc zx))/\Xp (Box wr pp (pgc (ZC [p0,p1,p2,p3,p4,p5,p6,p7] ix f.size i))))
 case atStart=>exact⟨0,nZ _,by omega,rfl,HG0.trans HG3,X0.grew HG3,Y0.grew HG3,P3⟩
 obtain⟨i,hi,hg3,rfl,BW2,XW,YW2,PW⟩:=hrel
 by_cases hlt2:i<8
 ·have hltz2:(i:Int)<8:=by omega
  obtain⟨d0,d1⟩:=HBL.out wr BW2.out;have x7:=XW.c 7 rfl;clear d1;obtain⟨z,hz⟩:∃z,(ZC [p0,p1,p2,p3,p4,p5,p6,p7] ix f.size i)[i]? =Xa z:=⟨_,gE (by rw[zfF];exact hlt2)⟩
  have z0:=PW.c i (ze0 hz);have zf:=PW.f
  by_cases hc:f.size<=8*(ix:Int)+(i:Int)
  ·have hcd:decide (f.size<=8*(ix:Int)+(i:Int))=Xc:=by simpa using hc
   have P4:Xp (Box (wr.setCell ⟨pp,i,Xb⟩ (U8 0)) pp (pgc (ZC [p0,p1,p2,p3,p4,p5,p6,p7] ix f.size (i+1)))):=dD<|by rw[<-zfG (by exact hlt2) hc,zb3];exact PW.set i _
   have X4:Xp (Box (wr.setCell ⟨pp,i,Xb⟩ (U8 0)) w.heap.size [O fa fn fc,I6 m.hand,vs.x,vsb.x,vsq.x,vdb.x,vdq.x,O (Xa ad) fln flc,I6 m.cnt,O caa can cac,vsp.x]):=dD<|XW.other (by have:=HPL.out;simp;omega) _
   have Y4:Xp (Box (wr.setCell ⟨pp,i,Xb⟩ (U8 0)) (w.heap.size+1) (pgc zx)):=dD<|YW2.other (by have:=HPL.out;simp;omega) _
   have G4:Xp (zc w (wr.setCell ⟨pp,i,Xb⟩ (U8 0))):=dD<|zz BW2 (by have:=HPL.out;simp;omega) _
   clear hz;go_wp2
   go_roundg (8 -(i+1))
   case measure=>omega
   exact⟨i+1,by omega,by omega,by go_num,G4,X4,Y4,P4⟩
  have hcd:decide (f.size<=8*(ix:Int)+(i:Int))=Xd:=by simpa using hc
  have P4:Xp (Box wr pp (pgc (ZC [p0,p1,p2,p3,p4,p5,p6,p7] ix f.size (i+1)))):=dD<|by rw[<-zkG hc];exact PW.out
  clear hz;go_wp2
  go_roundg (8 -(i+1))
  case measure=>omega
  exact⟨i+1,by omega,by omega,by go_num,BW2,XW,YW2,P4⟩
 have hltz2:¬(i:Int)<8:=by omega
 have:i=8:=by omega
 subst this;have PE:Xp (Box wr pp (pgc C)):=dD<|by
  have:=PW.out;rw[zfH (by exact nR 8),<-HCE.out]at this
  exact this
 have HCL:Xp (C.length=8):=dD<|by rw[HCE.out];unfold Qr;simp
 have HCP:Xp ((pgc C).length=8):=dD<|by rw[Zs];exact HCL.out
 go_wp2_with (first | (refine zR rfl 44 (.tmp 10) rfl pp rfl PE underlying44 rfl (by rw[HCP.out];exact zoI) ?_) | (refine zK rfl 44 (.tmp 6) (.tmp 77) rfl (w.heap.size+1) rfl (pgc C) rfl YW2 (by rw[HCP.out];rfl) zoI (Zr _) ?_))
 intro W5 hb5 hg5 _;have HG5:Xp (zc w W5):=dD<|ze BW2 hg5 (by omega)
 go_wp2;refine bodyPost_ret (zZ rfl _ rfl hb5 underlying44 rfl (by rw[HCP.out];exact zoI)) rfl ⟨rfl,HCL,HG5⟩
theorem zr.own {g:Nat} {a b c:Xo} (h:zr hi a b) (hg:b.grownBy c (Xa g)) (ha:a.heap.size<=g):zr hi a c:=⟨fun p t cs h1 h2=>(h.1 p t cs h1 h2).beside hg (fun k e=>by cases e;have:=h1.box.lt;omega),nT h.2 hg.size⟩
theorem zS {α:Type} {k:Nat} {s:α}:∀{S:List (Nat × α)},S.lookup k=Xa s->(k,s)∈S
 | [],h=>by simp at h
 | (p,a) :: S,h=>by
  by_cases h1:k=p
  ·subst h1
   simp at h
   subst h;simp
  have e1:(k == p)=Xd:=by simpa using h1
  rw[List.lookup_cons,e1]at h;exact List.mem_cons_of_mem _ (zS h)
theorem zdJ {α:Type} {p:α->Bool}:∀{l:List α} {k:Nat},(∀(j:Nat) x,j<k->l[j]? =Xa x->p x=Xc)->(∀x,l[k]? =Xa x->p x=Xd)->k<=l.length->l.takeWhile p=l.take k/\l.dropWhile p=l.drop k
 | [],0,_,_,_=>⟨rfl,rfl⟩
 | [],k+1,_,_,h=>by simp at h
 | x :: l,0,_,h,_=>by
  have:=h x rfl
  simp[this]
 | x :: l,k+1,h1,h2,h3=>by
  have hx:=h1 0 x (Nat.zero_lt_succ _) rfl;obtain⟨e1,e2⟩:=zdJ (l:=l) (k:=k) (fun j y hj hy=>h1 (j+1) y (by omega) (by simpa using hy)) (fun y hy=>h2 y (by simpa using hy)) (by simpa using h3)
  simp[hx,e1,e2]
theorem zoJ:(Tryz.prog.info? 120).map (·.size)=Xa 3:=by kernel_rfl
theorem zbU (w:Xo):(Go.sizeOf 120).run prog w= .ok 3 w:=by
 obtain⟨i0,h1,h2⟩:∃i0,Tryz.prog.info? 120=Xa i0/\i0.size=3:=by
  have:=zoJ
  cases hq:Tryz.prog.info? 120 with
  | none=>rw[hq]at this;cases this
  | some i0=>rw[hq]at this;exact⟨i0,rfl,by simpa using this⟩
 simp[Go.sizeOf,typeInfo,h1,h2]
theorem zha {w:Xo} {a:Option Addr} {n c k:Nat} (hk:k<=c):(Instr.sliceAt 38 (O a n c) Xb (Xa (I6 (k:Int))) Xb).run prog w= .ok (O a k c) w:=by
 have h1:(0:Int)<=(k:Int)/\(k:Int)<=(c:Int):=by omega
 simp only[Instr.sliceAt,Instr.slice,Instr.sliceBounds,Instr.sliceBound,asIntOf,Xx,Xw,rA,run_underlying underlying38];rw[kE h1];simp only[Xw,rA,zbU,tN]
 cases a with
 | none=>simp
 | some ad=>by_cases hc:c=0 <;> simp[hc,Addr.add]
theorem zhd {w:Xo} {a:Option Addr} {n c k:Nat} (hk:k<=n):(Instr.sliceAt 38 (O a n c) (Xa (I6 (k:Int))) Xb Xb).run prog w= .ok (O (a.map fun ad=>if c=k then ad else ad.add (k*3)) (n - k) (c - k)) w:=by
 have h1:(0:Int)<=(k:Int)/\(k:Int)<=(n:Int):=by omega
 simp only[Instr.sliceAt,Instr.slice,Instr.sliceBounds,Instr.sliceBound,asIntOf,Xx,Xw,rA,run_underlying underlying38];rw[kE h1];simp only[Xw,rA,zbU,tN]
 cases a with
 | none=>simp
 | some ad=>by_cases hc:c=k <;> simp[hc]
theorem zm.upto {w:Xo} {a:Option Addr} {n c k:Nat} {l:List Ca} (h:zm qJ w (O a n c) l) (hk:k<=n):zm qJ w (O a k c) (l.take k):=by
 have hn:=h.n;obtain⟨⟨xa,xc,q1,q2,q3⟩,q4⟩:=h;cases q1;refine⟨⟨a,c,by rw[Ya,Yk (by omega)],fun e=>by rw[q2 e];simp,fun ad e=>?_⟩,?_⟩
 ·intro j u hj;refine q3 ad e j u ?_;have hs:l.flatMap qJ.enc=(l.take k).flatMap qJ.enc++(l.drop k).flatMap qJ.enc:=by rw[<-Yn,Yl]
  rw[hs,Yd (gS.1 hj).1];exact hj
 refine nT (Yc _ ?_) q4;rw[Ya];omega
theorem zm.from {w:Xo} {a:Option Addr} {n c k:Nat} {l:List Ca} (h:zm qJ w (O a n c) l) (hk:k<=n) (hc:n<=c):zm qJ w (O (a.map fun ad=>if c=k then ad else ad.add (k*3)) (n - k) (c - k)) (l.drop k):=by
 have hn:=h.n;obtain⟨⟨xa,xc,q1,q2,q3⟩,q4⟩:=h;cases q1;refine⟨⟨_,_,by rw[Yg],fun e=>?_,fun ad e=>?_⟩,?_⟩
 ·cases a with
  | none=>rw[q2 rfl];simp
  | some ad=>cases e
 ·cases a with
  | none=>cases e
  | some ad0=>
   simp only[Option.map_some,Option.some.injEq]at e;intro j u hj
   by_cases hck:c=k
   ·have:l.drop k=[]:=List.drop_eq_nil_of_le (by omega)
    rw[this]at hj
    simp at hj
   rw[kF hck]at e;subst e;rw[zX];refine q3 ad0 rfl _ u ?_;have hs:l.flatMap qJ.enc=(l.take k).flatMap qJ.enc++(l.drop k).flatMap qJ.enc:=by rw[<-Yn,Yl]
   have hl:((l.take k).flatMap qJ.enc).length=k*3:=by rw[js,Ya,Yk (by omega)];rfl
   rw[hs,aR (by rw[hl];omega),hl,show k*3+j - k*3=j by omega]
   exact hj
 refine nT (Yc _ ?_) q4;rw[Yg];omega
theorem zde (w:Xo) (c:Ca):zb qJ w.heap.size (w.alloc (Xk #[I6 c.file,I6 c.idx,I6 c.fr] 120)) (O (Xa ⟨w.heap.size,0,Xb⟩) 1 1) [c]:=by
 refine⟨⟨rfl,.inr ⟨w.heap.size,1,#[I6 c.file,I6 c.idx,I6 c.fr],rfl,nR _,?_,nR _,qC (by omega),rfl,rfl⟩⟩,by show 1*24<=_;omega⟩
 show(w.heap.push _)[w.heap.size]? =_
 simp[qJ]
theorem zt.part {w:Xo}:∀{ds cs:List Xr} {o:Nat},zt w b t cs->o+ds.length<=cs.length->zt (w.setCells b o ds) b t (splice cs o ds):=by
 have key:∀(ds cs:List Xr) (o:Nat) (w:Xo),zt w b t cs->o+ds.length<=cs.length->zt (w.setCells b o ds) b t (splice cs o ds):=fun ds=>by
  induction ds with
  | nil=>
   intro cs o w h hl;have:splice cs o []=cs:=by simp[splice]
   rw[this];exact h
  | cons d ds ih=>
   intro cs o w h hl;simp only[Yi]at hl;have h1:=h.set o d;have h2:=ih (cs.set o d) (o+1) (w.setCell ⟨b,o,Xb⟩ d) h1 (by simp;omega)
   have h3:splice (cs.set o d) (o+1) ds=splice cs o (d :: ds):=by
    unfold splice;rw[List.take_set,List.drop_set,kE (by omega),List.take_add_one,gE (by omega)]
    simp only[Yi,Option.toList_some];rw[List.set_append_right _ _ (by simp;omega),show o+1+ds.length=o+(ds.length+1) by omega]
    simp[Ya,Yk (show o<=cs.length by omega)]
   rw[h3]at h2;exact h2
 exact fun{ds cs o} h hl=>key ds cs o w h hl
theorem qO {rest:List Oper} {a:Act} {w:Xo} (hgd:o.guard=Xb) (ty:TypeId) (p x:Operand) (ho:o.op= .store ty p x) (b:Nat) (hp:a.eval p= Xj (Xa ⟨b,0,Xb⟩)) (vs:List Xr) (hx:a.eval x= Xi vs.toArray)
  {cs:List Xr} {t:TypeId} (hb:zt w b t cs) (hl:vs.length=cs.length) (hi:(Tryz.prog.info? ty).map (·.size)=Xa cs.length) (h1:∀v∈vs,v.oneCell'=Xc)
  (h:∀w',zt w' b t vs->w.grownBy w' (Xa b)->w'.heap.size=w.heap.size->wpList prog ops Q rest (a.put o.dst undef) w'):wpList prog ops Q (o :: rest) a w:=by
 refine wpList_store_mid hgd ty p x ho b 0 vs.toArray hp hx ?_ ?_ (all_oneCell_toArray h1) ?_
 ·simpa [hl]using hb.box.there
 ·simpa [hl]using hi
 have:=hb.part (ds:=vs) (o:=0) (by omega)
 rw[Jw hl]at this;exact h _ this (zT b vs 0 w).1 (zT b vs 0 w).2
theorem MkE.trans {w:Xo} {L1:List Int} {V':MaV} {vt':Sli} {T':List (Nat->En)} (h1:ZP L L1) (h2:zr hi w w1) (h:MkE w0 hi b w1 L1 V' m' vt' T' w'):MkE w0 hi b w L V' m' vt' T' w':=by
 obtain⟨vl',L',k1,k2,k3⟩:=h;exact⟨vl',L',k1,h1.trans k2,h2.trans k3⟩
theorem Mk.page {w:Xo} {pp:Nat} {cs:List Xr} (h:Mk w0 hi w b vl L V m vt T) (hp:zt w pp 44 cs) (hh:hi<=pp) (hg:w.grownBy w' (Xa pp)):Mk w0 hi w' b vl L V m vt T:=by
 have hne:b≠pp:=fun e=>by
  subst e;have h1:w.heap[b]? =_:=h.box;rw[show w.heap[b]? =_ from hp]at h1
  cases h1
 exact⟨ze h.gr hg (nT h.rows.bh hh),h.hb,h.box.beside hg (fun k e=>by cases e;exact hne),h.lr,h.lc,h.lb,h.rows.var hg hp hg.size (.inr ⟨rfl,hh⟩)⟩
theorem zhp {pp:Nat} (h:hi<=pp):Loc hi pp 44:=⟨by decide,by decide,by decide,by decide,by decide,by decide,by decide,by decide,fun _=>h⟩
theorem MkR.setCa {base:Nat} {w:Xo} (h:MkR base hi w V m vt T) {s:Sli} {ca:List Ca} (ho:zb qJ base w (s.x) ca):MkR base hi w { V with ca:=s } { m with ca:=ca } vt T:=⟨h.hw,h.bh,h.fs,h.sl,h.slh,h.sb,h.sbh,h.sq,h.db,h.dbh,h.dq,h.fl,ho,h.sp,h.tt,h.ap⟩
def zom (w0:Xo) (hi b:Nat) (w:Xo) (L:List Int) (V:MaV) (m:Ma) (vt:Sli) (T:List (Nat->En)) (fi ix j:Nat) (w':Xo):Prop:=∃(q:Fr) (p:Pg) (u d:Bool) (s:Sli),m.fs[j]? =Xa q/\q.r=0/\(∀c∈m.ca,¬(c.file=(fi:Int)/\c.idx=(ix:Int)))/\MkE w0 hi b w L { V with ca:=s } { m with fs:=m.fs.set j ⟨p,1,u,d,fi,ix⟩,ca:=Zt m.ca ⟨fi,ix,j⟩ } vt T w'
def zmB (m:Ma) (fi ix:Nat) (q:List Int) (d:Bool):Prop:=Qr q (ix:Int) (zcR m (fi:Int))=q/\(d=Xd->Jn m (fi:Int) (ix:Int)=q)
def zjc (q:List Int) (ix:Nat) (size:Int) (i:Nat):Prop:=∀j,j<i->size<=8*(ix:Int)+(j:Int)->q[j]? =Xa 0
theorem zjc.set {q:List Int} {size:Int} {i:Nat} (h:zjc q ix size i) (hi:i<q.length):zjc (q.set i 0) ix size (i+1):=fun j hj hs=>by
 by_cases e:j=i
 ·subst e;exact sF hi
 rw[sN (fun h=>e h.symm)]
 exact h j (by omega) hs
theorem zjc.next {q:List Int} {size:Int} {i:Nat} (h:zjc q ix size i) (hn:¬size<=8*(ix:Int)+(i:Int)):zjc q ix size (i+1):=fun j hj hs=>by
 by_cases e:j=i
 ·subst e;exact absurd hs hn
 exact h j (by omega) hs
theorem zjc.all {q:List Int} {size:Int} (h:zjc q ix size 8) (hq:q.length=8):Qr q (ix:Int) size=q:=by
 unfold Qr;refine Xy fun i=>?_
 rw[Xu]
 cases hz:q[i]? with
 | none=>rfl
 | some z=>
  have hi:=(gS.1 hz).1;simp only[Option.map_some,Option.some.injEq]
  split
  ·rename_i hs
   have:=h i (by omega) hs
   rw[hz]at this;exact(Option.some.inj this).symm
  rfl
theorem zmp (p:List Int) (idx size:Int):Qr (Qr p idx size) idx size=Qr p idx size:=by
 unfold Qr;refine Xy fun i=>?_
 rw[Xu,Xu]
 cases p[i]? with
 | none=>rfl
 | some z=>
  simp only[Option.map_some,Option.some.injEq]
  split <;> rfl
theorem zkc (hno:∀c∈m.ca,¬(c.file=(fi:Int)/\c.idx=(ix:Int))):zmB m fi ix (jX m (fi:Int) (ix:Int)) Xd:=by
 have hf:m.ca.find? (zc1 (fi:Int) (ix:Int))=Xb:=Yo.2 fun c hc e=>hno c hc (by
  unfold zc1 at e
  simpa using e)
 have e:jX m (fi:Int) (ix:Int)=Jn m (fi:Int) (ix:Int):=by
  unfold jX;rw[hf];rfl
 rw[e];refine⟨?_,fun _=>rfl⟩
 unfold Jn
 split
 ·unfold Qr zx;simp
 exact zmp _ _ _
theorem zmX {f:Fl} (hf:m.fl[fi]? =Xa f):zcR m (fi:Int)=f.size:=by
 unfold zcR;rw[tN,gD,hf];rfl
theorem ziY {w:Xo} (fi ix:Nat) (f:Fl) (bk:Int) (h:Mk w0 hi w b vl L V m vt T) (hca:∀c∈m.ca,0<=c.file/\c.file<=1000/\0<=c.idx/\c.idx<=1000/\0<=c.fr/\c.fr<m.fs.length) (hf:m.fl[fi]? =Xa f) (hbk:f.bl[ix]? =Xa bk) (hix:ix<=1000) (hfi:fi<=1000) (hcn:m.ca.length<=1000):
  Xq prog 130 #[Xj (Xa ⟨b,0,Xb⟩),I6 (fi:Int),I6 (ix:Int)] w fun e w'=>(e= Xl (I6 (-1))/\MkE w0 hi b w L V m vt T w')\/(∃c,c∈m.ca/\c.file=(fi:Int)/\c.idx=(ix:Int)/\e= Xl (I6 c.fr)/\MkE w0 hi b w L V m vt T w')\/∃j:Nat,e= Xl (I6 (j:Int))/\zom w0 hi b w L V m vt T fi ix j w':=by
 have HM:Xp (Mk w0 hi w b vl L V m vt T):=h;have HCA:Xp (∀c∈m.ca,0<=c.file/\c.file<=1000/\0<=c.idx/\c.idx<=1000/\0<=c.fr/\c.fr<m.fs.length):=hca;have HF:Xp (m.fl[fi]? =Xa f):=hf;have HBK:Xp (f.bl[ix]? =Xa bk):=hbk;obtain⟨n,HN⟩:=kA V.ca.n;have HLN:Xp (m.ca.length=n):=show _=_ by rw[<-HN.out,h.rows.ca.n]
 have hn:n<=1000:=by rw[<-HLN.out];exact hcn
 have HCC:Xp (n<=V.ca.c):=dD<|by
  have:=h.rows.ca.cap;(try simp only[Sli.x]at this);rw[HN.out]at this;exact this
 obtain⟨caa,HAA⟩:∃a,Xp (V.ca.a=a):=⟨_,rfl⟩;have HCR:Xp (∀W,(∃vl' L' m',m'.ca=m.ca/\Mk w0 hi W b vl' L' V m' vt T)->zbm W caa m.ca):=dD<|fun W ⟨_,_,m',e,k⟩=>by
  have:=k.rows.at.cas;rw[e,HAA.out]at this;exact this
 clear h hca hf hbk hcn
 go_enter func130,ntmps130
 have x10:=HM.box.box.c 10 rfl;(try simp only[Sli.x]at x10);rw[HN.out,HAA.out]at x10;go_wp2;clear x10
 go_loopg [20] n (fun gg s20 wr=>∃kk:Nat,kk<=n/\n - kk<=gg/\s20=I6 kk/\Xp (zc w wr)/\Xp (∀(j:Nat) c,j<kk->m.ca[j]? =Xa c->¬(c.file=(fi:Int)/\c.idx=(ix:Int))))
 case atStart=>exact⟨0,nZ _,by omega,rfl,zc.refl _,fun j c hj=>absurd hj (nL _)⟩
 obtain⟨kk,hkk,hgg,rfl,BW,OW⟩:=hrel
 by_cases hlt:kk<n
 ·have hltz:=kC hlt
  obtain⟨c,HC⟩:∃c,Xp (m.ca[kk]? =Xa c):=⟨_,gE (by rw[HLN.out];exact hlt)⟩
  obtain⟨adc,rfl,hl⟩:=HCR.out wr ⟨vl,L,m,rfl,HM.grew BW⟩ kk c HC.out;obtain⟨d0,d1,d2⟩:=hl wr (zc.refl _);clear hl;go_upto_region 4 with fail;obtain⟨W1,hW1⟩:=kB (wr.alloc (Xk #[I6 c.file,I6 c.idx,I6 c.fr] 120));have HG1:=gT hW1 BW
  have C1:=xA hW1
  rw[hW1];clear hW1 d0 d1 d2;obtain⟨c0,c1,c2⟩:=C1.c3;have HNX:Xp (¬(c.file=(fi:Int)/\c.idx=(ix:Int))->∀(j:Nat) c,j<kk+1->m.ca[j]? =Xa c->¬(c.file=(fi:Int)/\c.idx=(ix:Int))):=dD<|fun h0 j c' hj hc'=>by
   by_cases e:j=kk
   ·subst e;rw[HC.out]at hc';cases hc';exact h0
   exact OW j c' (by omega) hc'
  by_cases h1:c.file=(fi:Int)
  ·have h1e:(c.file ==(fi:Int))=Xc:=by simp[h1]
   by_cases h2:c.idx=(ix:Int)
   ·have h2e:(c.idx ==(ix:Int))=Xc:=by simp[h2]
    have HE:Xp (c.file=(fi:Int)/\c.idx=(ix:Int)):=dD<|⟨h1,h2⟩
    clear h1 h2;go_wp2;go_ret;exact .inr (.inl ⟨c,mG HC,HE.1,HE.2,rfl,vl,L,HM.grew HG1,ZP.refl L,zr.grew HG1⟩)
   have h2e:(c.idx ==(ix:Int))=Xd:=by simp[h2]
   have OW':Xp (∀(j:Nat) c,j<kk+1->m.ca[j]? =Xa c->¬(c.file=(fi:Int)/\c.idx=(ix:Int))):=HNX.out (fun h=>h2 h.2)
   clear h1 h2;go_wp2
   go_roundg (n -(kk+1))
   case measure=>omega
   exact⟨kk+1,by omega,by omega,by go_num,HG1,OW'⟩
  have h1e:(c.file ==(fi:Int))=Xd:=by simp[h1]
  have OW':Xp (∀(j:Nat) c,j<kk+1->m.ca[j]? =Xa c->¬(c.file=(fi:Int)/\c.idx=(ix:Int))):=HNX.out (fun h=>h1 h.1)
  clear h1;go_wp2
  go_roundg (n -(kk+1))
  case measure=>omega
  exact⟨kk+1,by omega,by omega,by go_num,HG1,OW'⟩
 have hltz:=kD hlt
 have hke:kk=n:=by omega
 have HNO:Xp (∀c∈m.ca,¬(c.file=(fi:Int)/\c.idx=(ix:Int))):=dD<|fun c hc=>by
  obtain⟨j,hj⟩:=Ym hc;exact OW j c (by rw[hke,<-HLN.out];exact(gS.1 hj).1) hj
 clear hke;have MW:=dD (HM.grew BW);have hbx:=MW.box.box;have x1:=hbx.c 1 rfl;have x2:=hbx.c 2 rfl;have x3:=hbx.c 3 rfl;have x4:=hbx.c 4 rfl;have x5:=hbx.c 5 rfl;have x6:=hbx.c 6 rfl;have x7:=hbx.c 7 rfl;have x8:=hbx.c 8 rfl;have x9:=hbx.c 9 rfl;have x10:=hbx.c 10 rfl;have x11:=hbx.c 11 rfl;clear hbx;have hct:=zgN V m fi ix f bk wr MW.rows.at (fun c hc _=>(HCA c hc).2.2.2.2) HF HBK hix
 go_wp2_with fail;refine hct.mono ?_;clear hct x1 x2 x3 x4 x5 x6 x7 x8 x9 x10 x11;rintro e W1 ⟨rfl,hl8,g1⟩;have G1:=dD (BW.trans g1);clear g1;have hgp:=zkc HNO.out
 generalize jX m fi ix=q at hl8 hgp
 obtain⟨p0,p1,p2,p3,p4,p5,p6,p7,rfl⟩:=zdZ q hl8;have HGP:Xp (zmB m fi ix [p0,p1,p2,p3,p4,p5,p6,p7] Xd):=dD<|hgp
 clear hl8 hgp;simp only[pgc,mP,Xz];go_upto_region 8 with fail;obtain⟨pp,HPP⟩:=kA W1.heap.size;obtain⟨W2,hW2⟩:=kB (W1.alloc (Xk #[U8 p0,U8 p1,U8 p2,U8 p3,U8 p4,U8 p5,U8 p6,U8 p7] 44));have G2:=gT hW2 G1
 have P2:Xp (zt W2 pp 44 (pgc [p0,p1,p2,p3,p4,p5,p6,p7])):=dD<|by rw[<-hW2];exact zt.top _ (pgc [p0,p1,p2,p3,p4,p5,p6,p7]) _ HPP.symm
 have HHP:Xp (hi<=pp):=dD<|by rw[<-HPP.out];exact(HM.grew G1).rows.hw
 have HWP:Xp (w.heap.size<=pp):=dD<|by rw[<-HPP.out];exact bS G1.out
 have HBP:Xp (b≠pp):=dD<|by have:=HM.box.box.lt;have:=HWP.out;omega
 have M2:=dD (HM.grew G2);have K2:Xp (zr hi w W2):=zr.grew G2.out;rw[hW2,HPP.out];clear hW2;have hpk:=qA 2 M2.out;go_wp2_with fail;refine hpk.mono ?_;clear hpk;rintro e W3 ⟨vl3,L3,y,rfl,mk3,gr3,sz3,y0,y1,yn,ll⟩;have M3:Xp (Mk w0 hi W3 b vl3 L3 V m vt T):=mk3;have K3:=dD (K2.trans (M2.keeps gr3));have P3:Xp (zt W3 pp 44 (pgc [p0,p1,p2,p3,p4,p5,p6,p7])):=P2.beside gr3 (fun g e=>by cases e;exact fun h=>HBP.out h.symm)
 have L3':Xp (ZP L L3):=ll;clear mk3 gr3 sz3 y0 y1 yn ll
 go_upto_if 46 with fail
 go_cut [10,11] (fun s10 s11 wx=>∃(dd:Bool) (q:List Int) (vl':Sli) (L':List Int),s10= Xh dd/\Xp (Mk w0 hi wx b vl' L' V m vt T)/\Xp (zt wx pp 44 (pgc q))/\Xp (q.length=8)/\Xp (zr hi w wx)/\Xp (ZP L L')/\Xp (zmB m fi ix q dd))
 case first=>
  by_cases hy:y=1
  ·have hye:(y == 1)=Xc:=by simp[hy]
   clear hy;have hpg:=zbD M3.out;go_wp2_with fail;refine hpg.mono ?_;clear hpg;rintro e W4 ⟨vl4,L4,q4,rfl,ql4,mk4,gr4,ll4⟩;have M4:Xp (Mk w0 hi W4 b vl4 L4 V m vt T):=mk4;have K4:=dD (K3.trans (M3.keeps gr4));have P4:Xp (zt W4 pp 44 (pgc [p0,p1,p2,p3,p4,p5,p6,p7])):=P3.beside gr4 (fun g e=>by cases e;exact fun h=>HBP.out h.symm)
   have L4':=dD (L3'.trans ll4);have QL:Xp (q4.length=8):=ql4;clear mk4 gr4 ll4 ql4
   go_wp2_with (refine qO rfl 44 (.tmp 9) (.tmp 48) rfl pp rfl (pgc q4) rfl P4 (by simp[pgc,QL.out]) zoI (Zr _) ?_)
   intro W5 hb5 hg5 _;have M5:Xp (Mk w0 hi W5 b vl4 L4 V m vt T):=M4.page P4 HHP hg5;have K5:Xp (zr hi w W5):=K4.own hg5 HWP.out;have P5:Xp (zt W5 pp 44 (pgc q4)):=hb5;clear hb5 hg5;go_wp2
   go_loopg [49] 8 (fun gg s49 wr=>∃(i:Nat) (q:List Int),i<=8/\8 - i<=gg/\s49=I6 i/\Xp (Mk w0 hi wr b vl4 L4 V m vt T)/\Xp (zt wr pp 44 (pgc q))/\Xp (q.length=8)/\Xp (zr hi w wr)/\Xp (zjc q ix f.size i))
   case atStart=>exact⟨0,q4,nZ _,by omega,rfl,M5,P5,QL,K5,fun j hj=>absurd hj (nL _)⟩
   obtain⟨i,q,hi8,hg3,rfl,MW5,PW5,QW5,KW5,CW5⟩:=hrel
   by_cases hlt3:i<8
   ·have hltz3:(i:Int)<8:=by omega
    obtain⟨z,hz⟩:∃z,q[i]? =Xa z:=⟨_,gE (by rw[QW5.out];exact hlt3)⟩
    have z0:=PW5.box.c i (ze0 hz);have zf:=PW5.box.f;have hfl:=MW5.rows.at.fl;have x8:=MW5.box.box.c 8 rfl;obtain⟨_,_,hfe,_,hfr⟩:=qh.rows hfl;have hrw:Qv wr V.fl.a m.fl:=by
     simp only[vJ]at hfe;rw[hfe.1];exact hfr
    have hfn:V.fl.n=m.fl.length:=by
     simp only[vJ]at hfe;exact hfe.2.1
    obtain⟨ad,hva,ba,bc,_,hlf⟩:=hrw fi f HF.out;obtain⟨d0,-⟩:=hlf wr (zc.refl _);obtain⟨fln,hfln⟩:=kB V.fl.n;have hfz:(fi:Int)< (fln:Int):=by
     have:=(gS.1 HF).1;omega
    (try simp only[Sli.x]at x8);rw[hva,hfln]at x8;clear hfl hfe hfr hrw hfn hva hlf hfln hz
    by_cases hc:f.size<=8*(ix:Int)+(i:Int)
    ·have hcd:decide (f.size<=8*(ix:Int)+(i:Int))=Xc:=by simpa using hc
     have HG6:Xp (wr.grownBy (wr.setCell ⟨pp,i,Xb⟩ (U8 0)) (Xa pp)):=⟨rfl,rfl,rfl,by simp[World.setCell],fun k _ hk=>Below.heap_setCell _ _ _ _ (fun e=>hk (by rw[e]))⟩
     have P6:Xp (zt (wr.setCell ⟨pp,i,Xb⟩ (U8 0)) pp 44 (pgc (q.set i 0))):=dD<|by rw[zb3];exact PW5.set i _
     have M6:Xp (Mk w0 hi (wr.setCell ⟨pp,i,Xb⟩ (U8 0)) b vl4 L4 V m vt T):=MW5.page PW5 HHP HG6.out;have K6:Xp (zr hi w (wr.setCell ⟨pp,i,Xb⟩ (U8 0))):=KW5.own HG6 HWP.out;have C6:Xp (zjc (q.set i 0) ix f.size (i+1)):=show zjc _ _ _ _ from CW5.set (by rw[QW5.out];exact hlt3)
     go_wp2
     go_roundg (8 -(i+1))
     case measure=>omega
     exact⟨i+1,q.set i 0,by omega,by omega,by go_num,M6,P6,(show(q.set i 0).length=8 by rw[Xv];exact QW5),K6,C6⟩
    have hcd:decide (f.size<=8*(ix:Int)+(i:Int))=Xd:=by simpa using hc
    have C6:Xp (zjc q ix f.size (i+1)):=dD<|CW5.next hc
    go_wp2
    go_roundg (8 -(i+1))
    case measure=>omega
    exact⟨i+1,q,by omega,by omega,by go_num,MW5,PW5,QW5,KW5,C6⟩
   have hltz3:¬(i:Int)<8:=by omega
   have h8:i=8:=by omega
   subst h8;have HGQ:Xp (zmB m fi ix q Xc):=dD<|⟨by rw[zmX HF.out];exact CW5.all QW5,fun e=>Yj e⟩
   go_wp2
   go_meet
   exact⟨Xc,q,vl4,L4,rfl,MW5,PW5,QW5,KW5,L4',HGQ⟩
  have hye:(y == 1)=Xd:=by simp[hy]
  clear hy;go_wp2
  go_meet
  exact⟨Xd,[p0,p1,p2,p3,p4,p5,p6,p7],vl3,L3,rfl,M3,P3,rfl,K3,L3',HGP⟩
 obtain⟨dd,q,vl3',L3x,rfl,M3',P3',Q3',K3',L3'',HGQ⟩:=hcut;obtain⟨p0,p1,p2,p3,p4,p5,p6,p7,rfl⟩:=zdZ q Q3'.out;go_upto_region 16 with fail;obtain⟨I,hI⟩:∃I:Xo->Prop,I=fun u=>zt u pp 44 (pgc [p0,p1,p2,p3,p4,p5,p6,p7]):=⟨_,rfl⟩
 have HI:Xp (∀u,I u↔zt u pp 44 (pgc [p0,p1,p2,p3,p4,p5,p6,p7])):=dD<|fun u=>by rw[hI]
 clear hI;have hI0:I wc.drew:=(HI _).2 (P3'.grew (gW _))
 have hF0:MkE w0 hi b w L V m vt T wc.drew:=⟨vl3',L3x,M3'.grew (gW _),L3''.out,K3'.trans (zr.grew (gW _))⟩
 have hf0:∀y:zj I,y.world.cell? ⟨pp,0,Xb⟩=Xa (U8 p0):=fun y=>((HI _).1 y.holds).box.c 0 rfl
 have hf1:∀y:zj I,y.world.cell? ⟨pp,1,Xb⟩=Xa (U8 p1):=fun y=>((HI _).1 y.holds).box.c 1 rfl
 have hf2:∀y:zj I,y.world.cell? ⟨pp,2,Xb⟩=Xa (U8 p2):=fun y=>((HI _).1 y.holds).box.c 2 rfl
 have hf3:∀y:zj I,y.world.cell? ⟨pp,3,Xb⟩=Xa (U8 p3):=fun y=>((HI _).1 y.holds).box.c 3 rfl
 have hf4:∀y:zj I,y.world.cell? ⟨pp,4,Xb⟩=Xa (U8 p4):=fun y=>((HI _).1 y.holds).box.c 4 rfl
 have hf5:∀y:zj I,y.world.cell? ⟨pp,5,Xb⟩=Xa (U8 p5):=fun y=>((HI _).1 y.holds).box.c 5 rfl
 have hf6:∀y:zj I,y.world.cell? ⟨pp,6,Xb⟩=Xa (U8 p6):=fun y=>((HI _).1 y.holds).box.c 6 rfl
 have hf7:∀y:zj I,y.world.cell? ⟨pp,7,Xb⟩=Xa (U8 p7):=fun y=>((HI _).1 y.holds).box.c 7 rfl
 have hne:Nonempty (zj I):=⟨⟨_,hI0⟩⟩;refine zG (I:=I) 10 [(3,fun v=>∃x:Int,v=I6 x),(9,fun v=>v=I6 (-1)\/∃j:Nat,v=I6 (j:Int))] (fun u=>MkE w0 hi b w L V m vt T u) hI0 hF0 zW (by kernel_rfl) rfl rfl (by decide) ?hS (by kernel_rfl) ?_
 case hS=>
  intro x hx;simp only[mC,nM,or_false]at hx
  rcases hx with rfl|rfl
  ·exact⟨_,0,rfl⟩
  exact⟨_,.inl rfl⟩
 simp only[Ye,Yf];iterate 3 (refine zg rfl rfl rfl (fun K hK=>?_);go_big_quiet_op;refine hK _ ?_;clear hK)
 refine zH rfl rfl (fun _ u=>MkE w0 hi b w L V m vt T u) (fun w' hI' hF'=>?_) (fun v1 hv=>?_)
 ·obtain⟨vl',L',mk',ll',kp'⟩:=hF';refine zQ.call [Xj (Xa ⟨b,0,Xb⟩),I6 2] rfl func36 rfl rfl rfl ?_;refine(qA 2 mk').mono ?_;rintro e w'' ⟨vl2,L2,x,rfl,mk2,gr2,_,_,_,_,ll2⟩;exact⟨_,rfl,(HI _).2 (((HI _).1 hI').beside gr2 (fun g e=>by cases e;exact fun h=>HBP.out h.symm)),⟨x,rfl⟩,vl2,L2,mk2,ll'.trans ll2,kp'.trans (mk'.keeps gr2)⟩
 obtain⟨x,rfl⟩:=hv;simp only[Xt,sB,sS,sZ];iterate 5 (refine zg rfl rfl rfl (fun K hK=>?_);go_big_quiet_op;refine hK _ ?_;clear hK)
 refine zH rfl rfl (fun v u=>(v=I6 (-1)/\MkE w0 hi b w L V m vt T u)\/∃(j:Nat) (q:Fr),v=I6 (j:Int)/\m.fs[j]? =Xa q/\q.r=0/\MkE w0 hi b w L V { m with fs:=m.fs.set j ⟨⟨p0,p1,p2,p3,p4,p5,p6,p7⟩,1,x == 1,dd,(fi:Int),(ix:Int)⟩ } vt T u) (fun w' hI' hF'=>?_) (fun v1 hv=>?_)
 ·obtain⟨vl',L',mk',ll',kp'⟩:=hF';refine zQ.call [Xj (Xa ⟨b,0,Xb⟩),Xi (frv ⟨⟨p0,p1,p2,p3,p4,p5,p6,p7⟩,1,x == 1,dd,(fi:Int),(ix:Int)⟩).toArray] rfl func131 rfl rfl rfl ?_;refine(zfq ⟨⟨p0,p1,p2,p3,p4,p5,p6,p7⟩,1,x == 1,dd,(fi:Int),(ix:Int)⟩ mk' ⟨fun e=>by have:(fi:Int)=-1:=e;omega,fun _ _=>HGQ.out⟩).mono ?_
  rintro e w'' (⟨rfl,hE⟩|⟨j,q,rfl,hq,hr,hE⟩)
  ·have hkp:=hE;obtain⟨_,_,_,_,kq⟩:=hkp;exact⟨_,rfl,(HI _).2 (kq.1 pp _ _ ((HI _).1 hI') (zhp HHP)),.inl rfl,.inl ⟨rfl,hE.trans ll' kp'⟩⟩
  have hkp:=hE;obtain⟨_,_,_,_,kq⟩:=hkp;exact⟨_,rfl,(HI _).2 (kq.1 pp _ _ ((HI _).1 hI') (zhp HHP)),.inr ⟨j,rfl⟩,.inr ⟨j,q,rfl,hq,hr,hE.trans ll' kp'⟩⟩
 rcases hv with rfl|⟨j,rfl⟩
 ·simp only[Xt,sB,sS,sZ];refine qj fun W6 hI6 hF6=>?_
  have H6:Xp (MkE w0 hi b w L V m vt T W6):=dD<|by
   rcases hF6 with⟨_,h⟩|⟨j,q,e,_⟩
   ·exact h
   simp only[Value.int.injEq,true_and]at e;omega
  clear hF6 hI6 hI0 hF0 hne hf0 hf1 hf2 hf3 hf4 hf5 hf6 hf7;go_wp2;go_ret;exact .inl ⟨rfl,H6⟩
 simp only[Xt,sB,sS,sZ];refine qj fun W6 hI6 hF6=>?_
 obtain⟨q,hq,hr,vl6,L6,mk6,ll6,kp6⟩:∃q:Fr,m.fs[j]? =Xa q/\q.r=0/\MkE w0 hi b w L V { m with fs:=m.fs.set j ⟨⟨p0,p1,p2,p3,p4,p5,p6,p7⟩,1,x == 1,dd,(fi:Int),(ix:Int)⟩ } vt T W6:=by
  rcases hF6 with⟨e,_⟩|⟨j',q,e,hq,hr,hE⟩
  ·simp only[Value.int.injEq,true_and]at e;omega
  simp only[Value.int.injEq,true_and]at e;obtain rfl:j=j':=by omega
  exact⟨q,hq,hr,hE⟩
 have HQ:Xp (m.fs[j]? =Xa q):=hq;have HR0:Xp (q.r=0):=hr;have M6:Xp (Mk w0 hi W6 b vl6 L6 V { m with fs:=m.fs.set j ⟨⟨p0,p1,p2,p3,p4,p5,p6,p7⟩,1,x == 1,dd,(fi:Int),(ix:Int)⟩ } vt T):=mk6;have K6:Xp (zr hi w W6):=kp6;have LL6:Xp (ZP L L6):=ll6;clear hF6 hI6 hI0 hF0 hne hq hr mk6 ll6 kp6 hf0 hf1 hf2 hf3 hf4 hf5 hf6 hf7;have hj0:¬(j:Int)<0:=by omega
 go_wp2
 go_loopg [13] n (fun gg s13 wr=>∃at_:Nat,at_<=n/\n - at_<=gg/\s13=I6 at_/\Xp (Mk w0 hi wr b vl6 L6 V { m with fs:=m.fs.set j ⟨⟨p0,p1,p2,p3,p4,p5,p6,p7⟩,1,x == 1,dd,(fi:Int),(ix:Int)⟩ } vt T)/\Xp (zr hi w wr)/\Xp (∀(i:Nat) c,i<at_->m.ca[i]? =Xa c->decide (qm c<qm ⟨(fi:Int),(ix:Int),(j:Int)⟩)=Xc))
 case atStart=>exact⟨0,nZ _,by omega,rfl,M6,K6,fun i c hi=>absurd hi (nL _)⟩
 obtain⟨at_,hat,hg2,rfl,MR,KR,OW2⟩:=hrel;have x10:=MR.box.box.c 10 rfl;(try simp only[Sli.x]at x10);rw[HN.out,HAA.out]at x10
 by_cases hlt2:at_<n
 ·have hltz2:=kC hlt2
  obtain⟨c,HC⟩:∃c,Xp (m.ca[at_]? =Xa c):=⟨_,gE (by rw[HLN.out];exact hlt2)⟩
  obtain⟨adc,rfl,hl⟩:=HCR.out wr ⟨vl6,L6,{ m with fs:=m.fs.set j ⟨⟨p0,p1,p2,p3,p4,p5,p6,p7⟩,1,x == 1,dd,(fi:Int),(ix:Int)⟩ },rfl,MR⟩ at_ c HC.out;obtain⟨d0,d1,d2⟩:=hl wr (zc.refl _);obtain⟨b1,b2,b3,b4,-⟩:=HCA.out c (mG HC);clear hl d2
  by_cases hk:100*c.file+c.idx<100*(fi:Int)+(ix:Int)
  ·have hkd:decide (100*c.file+c.idx<100*(fi:Int)+(ix:Int))=Xc:=by simpa using hk
   have hgd:decide ((at_:Int)< (n:Int))=Xc:=by simpa using hltz2
   have OW3:Xp (∀(i:Nat) c,i<at_+1->m.ca[i]? =Xa c->decide (qm c<qm ⟨(fi:Int),(ix:Int),(j:Int)⟩)=Xc):=dD<|fun i c' hi' hc'=>by
    by_cases e:i=at_
    ·subst e;rw[HC.out]at hc';cases hc';exact hkd
    exact OW2 i c' (by omega) hc'
   clear hk;go_upto_region 20 with fail;go_quiet (fail);go_wp2
   go_roundg (n -(at_+1))
   case measure=>omega
   exact⟨at_+1,by omega,by omega,by go_num,MR.grew (show Below _ _ _ from bD (bR _ _) _),KR.trans (zr.grew (show Below _ _ _ from bD (bR _ _) _)),OW3⟩
  have hkd:decide (100*c.file+c.idx<100*(fi:Int)+(ix:Int))=Xd:=by simpa using hk
  have hgd:decide ((at_:Int)< (n:Int))=Xc:=by simpa using hltz2
  have HST:Xp (∀x,m.ca[at_]? =Xa x->decide (qm x<qm ⟨(fi:Int),(ix:Int),(j:Int)⟩)=Xd):=dD<|fun x hx=>by
   rw[HC.out]at hx;cases hx;exact hkd
  clear hk;go_upto_region 20 with fail;go_quiet (fail);clear x10 d0 d1;have HSP:Xp (Zt m.ca ⟨(fi:Int),(ix:Int),(j:Int)⟩=m.ca.take at_++ [⟨(fi:Int),(ix:Int),(j:Int)⟩]++m.ca.drop at_):=dD<|by
   obtain⟨e1,e2⟩:=zdJ (p:=fun d=>decide (qm d<qm ⟨(fi:Int),(ix:Int),(j:Int)⟩)) (l:=m.ca) (k:=at_) OW2 HST (by rw[HLN.out];exact hat)
   unfold Zt;rw[e1,e2];simp
  obtain⟨Wq,hWq⟩:=kB (wr.drewN nq);have Gq:Xp (zc wr Wq):=dD<|by rw[<-hWq];exact(show Below _ _ _ from bD (bR _ _) _)
  rw[hWq];clear hWq;have MQ:=dD (MR.grew Gq);have KQ:=dD (KR.trans (zr.grew Gq));clear Gq
  try clear wr
  obtain⟨wr,rfl⟩:∃wr,wr=Wq:=⟨_,rfl⟩;go_upto_region 22 with fail;obtain⟨A,HA⟩:=kA (m.ca.take at_);obtain⟨D2,HD⟩:=kA (m.ca.drop at_);rw[HA.out,HD.out]at HSP;have HLA:Xp (A.length=at_):=dD<|by rw[<-HA.out,Ya,HLN.out];omega
  have HLD:Xp (D2.length=n - at_):=dD<|by rw[<-HD.out,Yg,HLN.out]
  obtain⟨cn,HCN⟩:∃cn:Ca,Xp (cn=⟨(fi:Int),(ix:Int),(j:Int)⟩):=⟨_,rfl⟩;rw[<-HCN.out]at HSP;obtain⟨N,HNN⟩:=kA ((A++ [cn]++D2).length);obtain⟨I,HI⟩:∃I:Xo->Prop,Xp (∀u,I u↔zc wr u):=⟨fun u=>zc wr u,fun _=>Iff.rfl⟩
  have hI0:I wr.drew:=(HI _).2 (gW _)
  have hne:Nonempty (zj I):=⟨⟨_,hI0⟩⟩;have hx10:∀y:zj I,y.world.cell? ⟨b,10,Xb⟩=Xa (O (Xa adc) n V.ca.c):=fun y=>by
   have:=(MQ.box.box.grew ((HI _).1 y.holds)).c 10 rfl;(try simp only[Sli.x]at this);rw[HN.out,HAA.out]at this;exact this
  have HRO:Xp (zm qJ wr (O (Xa adc) n V.ca.c) m.ca):=dD<|by
   have:=MQ.rows.ca.at;(try simp only[Sli.x]at this);rw[HN.out,HAA.out]at this;exact this
  have hup:=fun W=>zha (w:=W) (a:=(Xa adc)) (n:=n) (c:=V.ca.c) (k:=at_) (nT hat HCC)
  have hfr:=fun W=>zhd (w:=W) (a:=(Xa adc)) (n:=n) (c:=V.ca.c) (k:=at_) hat
  obtain⟨fa,hfa⟩:=kB (((Xa adc):Option Addr).map fun ad=>if V.ca.c=at_ then ad else ad.add (at_*3))
  have HRA:Xp (zm qJ wr (O (Xa adc) at_ V.ca.c) A):=dD<|by rw[<-HA.out];exact HRO.upto hat
  have HRD:Xp (zm qJ wr (O fa (n - at_) (V.ca.c - at_)) D2):=dD<|by rw[<-HD.out,<-hfa];exact HRO.from hat HCC.out
  rw[hfa]at hfr;clear hfa;obtain⟨nd,HND⟩:=kA (n - at_);obtain⟨cd,HCD⟩:=kA (V.ca.c - at_);rw[HND.out,HCD.out]at hfr HRD;refine qP (I:=I) 27 [(1,⟨fun v=>∃g,v= O (Xa ⟨g,0,Xb⟩) 0 0,fun v w'=>zb qJ wr.heap.size w' v [],fun p q=>zc p q,fun _=>True⟩),(9,⟨fun v=>(∃a c,v= O a at_ c)/\(at_=0->∃g,v= O (Xa ⟨g,0,Xb⟩) 0 0),fun v w'=>zb qJ wr.heap.size w' v A,fun p q=>zc p q,fun _=>True⟩),(14,⟨fun v=>∃g,v= O (Xa ⟨g,0,Xb⟩) 1 1,fun v w'=>zb qJ wr.heap.size w' v [cn],fun p q=>zc p q,fun _=>True⟩),(15,⟨fun v=>∃a c,v= O a (at_+1) c,fun v w'=>zb qJ wr.heap.size w' v (A++ [cn]),fun p q=>(∀u m,m.length<=at_\/m.length<=1->zb qJ wr.heap.size p u m->zb qJ wr.heap.size q u m),fun _=>True⟩),(23,⟨fun v=>∃a c,v= O a N c,fun v w'=>zb qJ wr.heap.size w' v (A++ [cn]++D2),fun p q=>(∀u m,m.length<=at_+1->zb qJ wr.heap.size p u m->zb qJ wr.heap.size q u m),fun _=>True⟩)] hI0 zW (by kernel_rfl) rfl rfl (by decide) ?hS ?hp ?hpre ?hpr0 ?_
  case hS=>
   intro x hx;simp only[mC,nM,or_false]at hx
   rcases hx with rfl|rfl|rfl|rfl|rfl
   ·exact⟨_,0,rfl⟩
   ·by_cases h0:at_=0
    ·exact⟨O (Xa ⟨0,0,Xb⟩) 0 0,⟨Xa ⟨0,0,Xb⟩,0,by rw[h0]⟩,fun _=>⟨0,rfl⟩⟩
    exact⟨O Xb at_ 0,⟨_,_,rfl⟩,fun h=>absurd h h0⟩
   ·exact⟨_,0,rfl⟩
   ·exact⟨_,Xb,0,rfl⟩
   exact⟨_,Xb,0,rfl⟩
  case hp=>
   intro k s j t hk hj hjk hanc v p q hst hpo;have hk':=zS hk;have hj':=zS hj;clear hk hj;simp only[mC,pJ,nM,or_false]at hk' hj'
   rcases hk' with⟨rfl,rfl⟩|⟨rfl,rfl⟩|⟨rfl,rfl⟩|⟨rfl,rfl⟩|⟨rfl,rfl⟩
   ·rcases hj' with⟨rfl,rfl⟩|⟨rfl,rfl⟩|⟨rfl,rfl⟩|⟨rfl,rfl⟩|⟨rfl,rfl⟩
    ·exact absurd rfl hjk
    ·exact zb.grew hpo hst
    ·exact zb.grew hpo hst
    ·exact hst v [] (.inl (nZ _)) hpo
    exact hst v [] (nZ _) hpo
   ·rcases hj' with⟨rfl,rfl⟩|⟨rfl,rfl⟩|⟨rfl,rfl⟩|⟨rfl,rfl⟩|⟨rfl,rfl⟩
    ·exact zb.grew hpo hst
    ·exact absurd rfl hjk
    ·exact zb.grew hpo hst
    ·exact hst v A (.inl (by rw[HLA.out];exact nR _)) hpo
    exact hst v A (by rw[HLA.out];omega) hpo
   ·rcases hj' with⟨rfl,rfl⟩|⟨rfl,rfl⟩|⟨rfl,rfl⟩|⟨rfl,rfl⟩|⟨rfl,rfl⟩
    ·exact zb.grew hpo hst
    ·exact zb.grew hpo hst
    ·exact absurd rfl hjk
    ·exact hst v [cn] (.inr (nR _)) hpo
    exact hst v [cn] (by simp) hpo
   ·rcases hj' with⟨rfl,rfl⟩|⟨rfl,rfl⟩|⟨rfl,rfl⟩|⟨rfl,rfl⟩|⟨rfl,rfl⟩
    ·exact zb.grew hpo hst
    ·exact zb.grew hpo hst
    ·exact zb.grew hpo hst
    ·exact absurd rfl hjk
    exact hst v (A++ [cn]) (by rw[lA,HLA.out];simp) hpo
   rcases hj' with⟨rfl,rfl⟩|⟨rfl,rfl⟩|⟨rfl,rfl⟩|⟨rfl,rfl⟩|⟨rfl,rfl⟩
   ·exact zb.grew hpo hst
   ·exact zb.grew hpo hst
   ·exact zb.grew hpo hst
   ·exact Yj (hanc.symm.trans (show _=Xc by kernel_rfl))
   exact absurd rfl hjk
  case hpre=>
   intro j t k s hj hk hjk p q hst hpr;have hj':=zS hj;clear hk hj;simp only[mC,pJ,nM,or_false]at hj'
   rcases hj' with⟨rfl,rfl⟩|⟨rfl,rfl⟩|⟨rfl,rfl⟩|⟨rfl,rfl⟩|⟨rfl,rfl⟩ <;> trivial
  case hpr0=>
   intro k t hk;have hk':=zS hk;clear hk;simp only[mC,pJ,nM,or_false]at hk'
   rcases hk' with⟨rfl,rfl⟩|⟨rfl,rfl⟩|⟨rfl,rfl⟩|⟨rfl,rfl⟩|⟨rfl,rfl⟩ <;> trivial
  simp only[Ye,Yf];iterate 1 (refine zk rfl rfl rfl (fun K hK=>?_);go_big_quiet_op;refine hK _ ?_;clear hK)
  refine zP rfl rfl (fun w' hI' hpr hF=>?_) (fun v1 hv=>?_)
  ·have hg:=(HI _).1 hI';refine zQ.step (v:= O (Xa ⟨w'.heap.size,0,Xb⟩) 0 0) (w':=w'.alloc (Xk #[] 120)) (by simp only[execOp];go_simp) ⟨(HI _).2 (hg.trans (za _ _)),za _ _,⟨_,rfl⟩,(zb.made qJ w').base (bS hg)⟩
  obtain⟨g0,rfl⟩:=hv;simp only[Xt,sB,sS,sZ];iterate 1 (refine zk rfl rfl rfl (fun K hK=>?_);go_big_quiet_op;refine hK _ ?_;clear hK)
  refine jM (.tmp 121) ⟨b,0,Xb⟩ rfl rfl rfl rfl ?_;simp only[Xt,sB,sS,sZ];iterate 5 (refine zk rfl rfl rfl (fun K hK=>?_);go_big_quiet_op;refine hK _ ?_;clear hK)
  refine zP rfl rfl (fun w' hI' hpr hF=>?_) (fun v1 hv=>?_)
  ·have hg:=(HI _).1 hI';have h0:zb qJ wr.heap.size w' (O (Xa ⟨g0,0,Xb⟩) 0 0) []:=hF 1 (by kernel_rfl)
   obtain⟨v',w2,hrun,ho,hg2,hz⟩:=jr (E:=qJ) (w:=w') 38 h0 (O (Xa adc) at_ V.ca.c) A (HRA.grew hg) (bS hg);obtain⟨a',c',rfl⟩:=ho.form;refine zQ.step (v:= O a' A.length c') (w':=w2) ?_ ⟨(HI _).2 (hg.trans hg2),hg2,⟨⟨a',c',by rw[HLA.out]⟩,fun h=>⟨g0,hz (eN (by rw[HLA.out];exact h))⟩⟩,ho⟩
   clear hx10 hup hfr;simp only[execOp,resolve,invoke,builtin,pure_bind,Xx,Xw,Yb,mP,Xz];exact Eq.trans (congrArg (fun r=>Result.andThen r (fun a w'=>Result.ok (Next.value a) w')) hrun) rfl
  obtain⟨⟨a3,c3,rfl⟩,hz3⟩:=hv;simp only[Xt,sB,sS,sZ];iterate 4 (refine zk rfl rfl rfl (fun K hK=>?_);go_big_quiet_op;refine hK _ ?_;clear hK)
  refine zP rfl rfl (fun w' hI' hpr hF=>?_) (fun v1 hv=>?_)
  ·have hg:=(HI _).1 hI';have hoc:=(zde w' cn).base (bS hg);rw[HCN.out]at hoc;refine zQ.step (v:= O (Xa ⟨w'.heap.size,0,Xb⟩) 1 1) (w':=w'.alloc (Xk #[I6 (fi:Int),I6 (ix:Int),I6 (j:Int)] 120)) (by clear hx10 hup hfr;simp only[execOp];go_simp) ⟨(HI _).2 (hg.trans (za _ _)),za _ _,⟨_,rfl⟩,by rw[HCN.out];exact hoc⟩
  obtain⟨g5,rfl⟩:=hv;simp only[Xt,sB,sS,sZ];refine zP rfl rfl (fun w' hI' hpr hF=>?_) (fun v1 hv=>?_)
  ·have hg:=(HI _).1 hI';have o3:zb qJ wr.heap.size w' (O a3 at_ c3) A:=hF 9 (by kernel_rfl)
   have o5:zb qJ wr.heap.size w' (O (Xa ⟨g5,0,Xb⟩) 1 1) [cn]:=hF 14 (by kernel_rfl)
   have key:∃v' w2,(Builtin.append_ #[38,38] 38 #[O a3 at_ c3,O (Xa ⟨g5,0,Xb⟩) 1 1]).run prog w'= .ok v' w2/\zb qJ wr.heap.size w2 v' (A++ [cn])/\zc wr w2/\∀u m,m.length<=at_\/m.length<=1->zb qJ wr.heap.size w' u m->zb qJ wr.heap.size w2 u m:=by
    by_cases h0:at_=0
    ·have hxs:A=[]:=eN (by rw[HLA.out];exact h0)
     obtain⟨g,hgv⟩:=hz3 h0;rw[hgv,hxs]at o3;rw[hgv,hxs];obtain⟨v',w2,hrun,ho,hg2,_⟩:=jr (E:=qJ) (w:=w') 38 o3 (O (Xa ⟨g5,0,Xb⟩) 1 1) [cn] o5.at (bS hg);exact⟨v',w2,hrun,ho,hg.trans hg2,fun u m _ h=>h.grew hg2⟩
    obtain⟨v',w2,hrun,ho,hgr,hk⟩:=qn (E:=qJ) (w:=w') 38 o3 (O (Xa ⟨g5,0,Xb⟩) 1 1) [cn] o5.at (by rw[HLA.out];show(at_+1)*24<=_;omega) (bS hg)
    refine⟨v',w2,hrun,ho,zU hg hgr (fun g hg'=>(o3.lt g hg').1),fun u m hm h=>hk u m ?_ h⟩
    rw[HLA.out];omega
   obtain⟨v',w2,hrun,ho,hg2,hk⟩:=key;obtain⟨a',c',rfl⟩:=ho.form;refine zQ.step (v:= .slice a' (A++ [cn]).length c') (w':=w2) ?_ ⟨(HI _).2 hg2,hk,⟨a',c',by rw[lA,HLA.out];rfl⟩,ho⟩
   clear hx10 hup hfr;simp only[execOp,resolve,invoke,builtin,pure_bind,Xx,Xw,Yb,mP,Xz];exact Eq.trans (congrArg (fun r=>Result.andThen r (fun a w'=>Result.ok (Next.value a) w')) hrun) rfl
  obtain⟨a6,c6,rfl⟩:=hv;simp only[Xt,sB,sS,sZ];iterate 1 (refine zk rfl rfl rfl (fun K hK=>?_);go_big_quiet_op;refine hK _ ?_;clear hK)
  refine jM (.tmp 135) ⟨b,0,Xb⟩ rfl rfl rfl rfl ?_;simp only[Xt,sB,sS,sZ];iterate 5 (refine zk rfl rfl rfl (fun K hK=>?_);go_big_quiet_op;refine hK _ ?_;clear hK)
  refine zP rfl rfl (fun w' hI' hpr hF=>?_) (fun v1 hv=>?_)
  ·have hg:=(HI _).1 hI';have o6:zb qJ wr.heap.size w' (O a6 (at_+1) c6) (A++ [cn]):=hF 15 (by kernel_rfl)
   have hl6:(A++ [cn]).length=at_+1:=by rw[lA,HLA.out];rfl
   obtain⟨v',w2,hrun,ho,hgr,hk⟩:=qn (E:=qJ) (w:=w') 38 o6 (O fa nd cd) D2 (HRD.grew hg) (by rw[hl6,HLD.out];show(at_+1+(n - at_))*24<=_;omega) (bS hg)
   obtain⟨a',c',rfl⟩:=ho.form;refine zQ.step (v:= .slice a' (A++ [cn]++D2).length c') (w':=w2) ?_ ⟨(HI _).2 (zU hg hgr (fun g hg'=>(o6.lt g hg').1)),(fun u m hm h=>hk u m (by rw[hl6];exact hm) h),⟨a',c',by rw[HNN.out]⟩,ho⟩
   clear hx10 hup hfr;simp only[execOp,resolve,invoke,builtin,pure_bind,Xx,Xw,Yb,mP,Xz];exact Eq.trans (congrArg (fun r=>Result.andThen r (fun a w'=>Result.ok (Next.value a) w')) hrun) rfl
  obtain⟨a7,c7,rfl⟩:=hv;simp only[Xt,sB,sS,sZ];refine jM (.tmp 119) ⟨b,0,Xb⟩ rfl rfl rfl rfl ?_;simp only[Xt,sB,sS,sZ];iterate 2 (refine zk rfl rfl rfl (fun K hK=>?_);go_big_quiet_op;refine hK _ ?_;clear hK)
  refine jS fun W7 hI7 hF=>?_
  have o7:zb qJ wr.heap.size W7 (O a7 N c7) (A++ [cn]++D2):=hF 23;have g7:=(HI _).1 hI7;have M7:=dD (MQ.grew g7);have K7:=dD (KQ.trans (zr.grew g7));have O7:Xp (zb qJ wr.heap.size W7 (O a7 N c7) (A++ [cn]++D2)):=o7;have HB7:Xp (w0.heap.size<=wr.heap.size):=show _<=_ from bS MQ.gr
  have HB8:Xp (b<wr.heap.size):=dD<|MQ.box.box.lt
  clear o7 g7 hF hI7 hx10 hup hfr hne hI0;have xc:=M7.box.box.c 10 rfl;(try simp only[Sli.x]at xc);rw[HN.out,HAA.out]at xc;have xf:=M7.box.box.f;have HG8:Xp (W7.grownBy (W7.setCell ⟨b,10,Xb⟩ (O a7 N c7)) (Xa b)):=⟨rfl,rfl,rfl,by simp[World.setCell],fun k _ hk=>Below.heap_setCell _ _ _ _ (fun e=>hk (by rw[e]))⟩
  have M8:Xp (Mk w0 hi (W7.setCell ⟨b,10,Xb⟩ (O a7 N c7)) b vl6 L6 { V with ca:=⟨a7,N,c7⟩ } { m with fs:=m.fs.set j ⟨⟨p0,p1,p2,p3,p4,p5,p6,p7⟩,1,x == 1,dd,(fi:Int),(ix:Int)⟩,ca:=Zt m.ca ⟨(fi:Int),(ix:Int),(j:Int)⟩ } vt T):=dD<|by
   have h7:=M7.out;refine⟨ze h7.gr HG8 h7.hb,h7.hb,h7.box.set 10 _,h7.lr,h7.lc,h7.lb,?_⟩;have hr:=h7.rows.var HG8 h7.box HG8.size (.inl rfl);have:=hr.setCa (s:=⟨a7,N,c7⟩) (ca:=A++ [cn]++D2) ((O7.setCell (by have:=HB8.out;simp;omega) _).base HB7)
   rw[HCN.out]at this HSP;rw[HSP.out];exact this
  have K8:=dD (K7.trans (M7.keeps HG8));go_wp2;go_ret;exact .inr (.inr ⟨j,rfl,q,_,_,_,⟨a7,N,c7⟩,HQ,HR0,HNO,vl6,L6,M8,LL6,K8⟩)
 have hltz2:=kD hlt2
 have hgd:decide ((at_:Int)< (n:Int))=Xd:=by simpa using hltz2
 have HST:Xp (∀x,m.ca[at_]? =Xa x->decide (qm x<qm ⟨(fi:Int),(ix:Int),(j:Int)⟩)=Xd):=dD<|fun x hx=>by
  have:=(gS.1 hx).1;have:=HLN.out;omega
 go_upto_region 20 with fail;go_quiet (fail);clear x10;have HSP:Xp (Zt m.ca ⟨(fi:Int),(ix:Int),(j:Int)⟩=m.ca.take at_++ [⟨(fi:Int),(ix:Int),(j:Int)⟩]++m.ca.drop at_):=dD<|by
  obtain⟨e1,e2⟩:=zdJ (p:=fun d=>decide (qm d<qm ⟨(fi:Int),(ix:Int),(j:Int)⟩)) (l:=m.ca) (k:=at_) OW2 HST (by rw[HLN.out];exact hat)
  unfold Zt;rw[e1,e2];simp
 obtain⟨Wq,hWq⟩:=kB (wr.drewN nq);have Gq:Xp (zc wr Wq):=dD<|by rw[<-hWq];exact(show Below _ _ _ from bD (bR _ _) _)
 rw[hWq];clear hWq;have MQ:=dD (MR.grew Gq);have KQ:=dD (KR.trans (zr.grew Gq));clear Gq
 try clear wr
 obtain⟨wr,rfl⟩:∃wr,wr=Wq:=⟨_,rfl⟩;go_upto_region 22 with fail;obtain⟨A,HA⟩:=kA (m.ca.take at_);obtain⟨D2,HD⟩:=kA (m.ca.drop at_);rw[HA.out,HD.out]at HSP;have HLA:Xp (A.length=at_):=dD<|by rw[<-HA.out,Ya,HLN.out];omega
 have HLD:Xp (D2.length=n - at_):=dD<|by rw[<-HD.out,Yg,HLN.out]
 obtain⟨cn,HCN⟩:∃cn:Ca,Xp (cn=⟨(fi:Int),(ix:Int),(j:Int)⟩):=⟨_,rfl⟩;rw[<-HCN.out]at HSP;obtain⟨N,HNN⟩:=kA ((A++ [cn]++D2).length);obtain⟨I,HI⟩:∃I:Xo->Prop,Xp (∀u,I u↔zc wr u):=⟨fun u=>zc wr u,fun _=>Iff.rfl⟩
 have hI0:I wr.drew:=(HI _).2 (gW _)
 have hne:Nonempty (zj I):=⟨⟨_,hI0⟩⟩;have hx10:∀y:zj I,y.world.cell? ⟨b,10,Xb⟩=Xa (O caa n V.ca.c):=fun y=>by
  have:=(MQ.box.box.grew ((HI _).1 y.holds)).c 10 rfl;(try simp only[Sli.x]at this);rw[HN.out,HAA.out]at this;exact this
 have HRO:Xp (zm qJ wr (O caa n V.ca.c) m.ca):=dD<|by
  have:=MQ.rows.ca.at;(try simp only[Sli.x]at this);rw[HN.out,HAA.out]at this;exact this
 have hup:=fun W=>zha (w:=W) (a:=caa) (n:=n) (c:=V.ca.c) (k:=at_) (nT hat HCC)
 have hfr:=fun W=>zhd (w:=W) (a:=caa) (n:=n) (c:=V.ca.c) (k:=at_) hat
 obtain⟨fa,hfa⟩:=kB ((caa:Option Addr).map fun ad=>if V.ca.c=at_ then ad else ad.add (at_*3))
 have HRA:Xp (zm qJ wr (O caa at_ V.ca.c) A):=dD<|by rw[<-HA.out];exact HRO.upto hat
 have HRD:Xp (zm qJ wr (O fa (n - at_) (V.ca.c - at_)) D2):=dD<|by rw[<-HD.out,<-hfa];exact HRO.from hat HCC.out
 rw[hfa]at hfr;clear hfa;obtain⟨nd,HND⟩:=kA (n - at_);obtain⟨cd,HCD⟩:=kA (V.ca.c - at_);rw[HND.out,HCD.out]at hfr HRD;refine qP (I:=I) 27 [(1,⟨fun v=>∃g,v= O (Xa ⟨g,0,Xb⟩) 0 0,fun v w'=>zb qJ wr.heap.size w' v [],fun p q=>zc p q,fun _=>True⟩),(9,⟨fun v=>(∃a c,v= O a at_ c)/\(at_=0->∃g,v= O (Xa ⟨g,0,Xb⟩) 0 0),fun v w'=>zb qJ wr.heap.size w' v A,fun p q=>zc p q,fun _=>True⟩),(14,⟨fun v=>∃g,v= O (Xa ⟨g,0,Xb⟩) 1 1,fun v w'=>zb qJ wr.heap.size w' v [cn],fun p q=>zc p q,fun _=>True⟩),(15,⟨fun v=>∃a c,v= O a (at_+1) c,fun v w'=>zb qJ wr.heap.size w' v (A++ [cn]),fun p q=>(∀u m,m.length<=at_\/m.length<=1->zb qJ wr.heap.size p u m->zb qJ wr.heap.size q u m),fun _=>True⟩),(23,⟨fun v=>∃a c,v= O a N c,fun v w'=>zb qJ wr.heap.size w' v (A++ [cn]++D2),fun p q=>(∀u m,m.length<=at_+1->zb qJ wr.heap.size p u m->zb qJ wr.heap.size q u m),fun _=>True⟩)] hI0 zW (by kernel_rfl) rfl rfl (by decide) ?hS ?hp ?hpre ?hpr0 ?_
 case hS=>
  intro x hx;simp only[mC,nM,or_false]at hx
  rcases hx with rfl|rfl|rfl|rfl|rfl
  ·exact⟨_,0,rfl⟩
  ·by_cases h0:at_=0
   ·exact⟨O (Xa ⟨0,0,Xb⟩) 0 0,⟨Xa ⟨0,0,Xb⟩,0,by rw[h0]⟩,fun _=>⟨0,rfl⟩⟩
   exact⟨O Xb at_ 0,⟨_,_,rfl⟩,fun h=>absurd h h0⟩
  ·exact⟨_,0,rfl⟩
  ·exact⟨_,Xb,0,rfl⟩
  exact⟨_,Xb,0,rfl⟩
 case hp=>
  intro k s j t hk hj hjk hanc v p q hst hpo;have hk':=zS hk;have hj':=zS hj;clear hk hj;simp only[mC,pJ,nM,or_false]at hk' hj'
  rcases hk' with⟨rfl,rfl⟩|⟨rfl,rfl⟩|⟨rfl,rfl⟩|⟨rfl,rfl⟩|⟨rfl,rfl⟩
  ·rcases hj' with⟨rfl,rfl⟩|⟨rfl,rfl⟩|⟨rfl,rfl⟩|⟨rfl,rfl⟩|⟨rfl,rfl⟩
   ·exact absurd rfl hjk
   ·exact zb.grew hpo hst
   ·exact zb.grew hpo hst
   ·exact hst v [] (.inl (nZ _)) hpo
   exact hst v [] (nZ _) hpo
  ·rcases hj' with⟨rfl,rfl⟩|⟨rfl,rfl⟩|⟨rfl,rfl⟩|⟨rfl,rfl⟩|⟨rfl,rfl⟩
   ·exact zb.grew hpo hst
   ·exact absurd rfl hjk
   ·exact zb.grew hpo hst
   ·exact hst v A (.inl (by rw[HLA.out];exact nR _)) hpo
   exact hst v A (by rw[HLA.out];omega) hpo
  ·rcases hj' with⟨rfl,rfl⟩|⟨rfl,rfl⟩|⟨rfl,rfl⟩|⟨rfl,rfl⟩|⟨rfl,rfl⟩
   ·exact zb.grew hpo hst
   ·exact zb.grew hpo hst
   ·exact absurd rfl hjk
   ·exact hst v [cn] (.inr (nR _)) hpo
   exact hst v [cn] (by simp) hpo
  ·rcases hj' with⟨rfl,rfl⟩|⟨rfl,rfl⟩|⟨rfl,rfl⟩|⟨rfl,rfl⟩|⟨rfl,rfl⟩
   ·exact zb.grew hpo hst
   ·exact zb.grew hpo hst
   ·exact zb.grew hpo hst
   ·exact absurd rfl hjk
   exact hst v (A++ [cn]) (by rw[lA,HLA.out];simp) hpo
  rcases hj' with⟨rfl,rfl⟩|⟨rfl,rfl⟩|⟨rfl,rfl⟩|⟨rfl,rfl⟩|⟨rfl,rfl⟩
  ·exact zb.grew hpo hst
  ·exact zb.grew hpo hst
  ·exact zb.grew hpo hst
  ·exact Yj (hanc.symm.trans (show _=Xc by kernel_rfl))
  exact absurd rfl hjk
 case hpre=>
  intro j t k s hj hk hjk p q hst hpr;have hj':=zS hj;clear hk hj;simp only[mC,pJ,nM,or_false]at hj'
  rcases hj' with⟨rfl,rfl⟩|⟨rfl,rfl⟩|⟨rfl,rfl⟩|⟨rfl,rfl⟩|⟨rfl,rfl⟩ <;> trivial
 case hpr0=>
  intro k t hk;have hk':=zS hk;clear hk;simp only[mC,pJ,nM,or_false]at hk'
  rcases hk' with⟨rfl,rfl⟩|⟨rfl,rfl⟩|⟨rfl,rfl⟩|⟨rfl,rfl⟩|⟨rfl,rfl⟩ <;> trivial
 simp only[Ye,Yf];iterate 1 (refine zk rfl rfl rfl (fun K hK=>?_);go_big_quiet_op;refine hK _ ?_;clear hK)
 refine zP rfl rfl (fun w' hI' hpr hF=>?_) (fun v1 hv=>?_)
 ·have hg:=(HI _).1 hI';refine zQ.step (v:= O (Xa ⟨w'.heap.size,0,Xb⟩) 0 0) (w':=w'.alloc (Xk #[] 120)) (by simp only[execOp];go_simp) ⟨(HI _).2 (hg.trans (za _ _)),za _ _,⟨_,rfl⟩,(zb.made qJ w').base (bS hg)⟩
 obtain⟨g0,rfl⟩:=hv;simp only[Xt,sB,sS,sZ];iterate 1 (refine zk rfl rfl rfl (fun K hK=>?_);go_big_quiet_op;refine hK _ ?_;clear hK)
 refine jM (.tmp 121) ⟨b,0,Xb⟩ rfl rfl rfl rfl ?_;simp only[Xt,sB,sS,sZ];iterate 5 (refine zk rfl rfl rfl (fun K hK=>?_);go_big_quiet_op;refine hK _ ?_;clear hK)
 refine zP rfl rfl (fun w' hI' hpr hF=>?_) (fun v1 hv=>?_)
 ·have hg:=(HI _).1 hI';have h0:zb qJ wr.heap.size w' (O (Xa ⟨g0,0,Xb⟩) 0 0) []:=hF 1 (by kernel_rfl)
  obtain⟨v',w2,hrun,ho,hg2,hz⟩:=jr (E:=qJ) (w:=w') 38 h0 (O caa at_ V.ca.c) A (HRA.grew hg) (bS hg);obtain⟨a',c',rfl⟩:=ho.form;refine zQ.step (v:= O a' A.length c') (w':=w2) ?_ ⟨(HI _).2 (hg.trans hg2),hg2,⟨⟨a',c',by rw[HLA.out]⟩,fun h=>⟨g0,hz (eN (by rw[HLA.out];exact h))⟩⟩,ho⟩
  clear hx10 hup hfr;simp only[execOp,resolve,invoke,builtin,pure_bind,Xx,Xw,Yb,mP,Xz];exact Eq.trans (congrArg (fun r=>Result.andThen r (fun a w'=>Result.ok (Next.value a) w')) hrun) rfl
 obtain⟨⟨a3,c3,rfl⟩,hz3⟩:=hv;simp only[Xt,sB,sS,sZ];iterate 4 (refine zk rfl rfl rfl (fun K hK=>?_);go_big_quiet_op;refine hK _ ?_;clear hK)
 refine zP rfl rfl (fun w' hI' hpr hF=>?_) (fun v1 hv=>?_)
 ·have hg:=(HI _).1 hI';have hoc:=(zde w' cn).base (bS hg);rw[HCN.out]at hoc;refine zQ.step (v:= O (Xa ⟨w'.heap.size,0,Xb⟩) 1 1) (w':=w'.alloc (Xk #[I6 (fi:Int),I6 (ix:Int),I6 (j:Int)] 120)) (by clear hx10 hup hfr;simp only[execOp];go_simp) ⟨(HI _).2 (hg.trans (za _ _)),za _ _,⟨_,rfl⟩,by rw[HCN.out];exact hoc⟩
 obtain⟨g5,rfl⟩:=hv;simp only[Xt,sB,sS,sZ];refine zP rfl rfl (fun w' hI' hpr hF=>?_) (fun v1 hv=>?_)
 ·have hg:=(HI _).1 hI';have o3:zb qJ wr.heap.size w' (O a3 at_ c3) A:=hF 9 (by kernel_rfl)
  have o5:zb qJ wr.heap.size w' (O (Xa ⟨g5,0,Xb⟩) 1 1) [cn]:=hF 14 (by kernel_rfl)
  have key:∃v' w2,(Builtin.append_ #[38,38] 38 #[O a3 at_ c3,O (Xa ⟨g5,0,Xb⟩) 1 1]).run prog w'= .ok v' w2/\zb qJ wr.heap.size w2 v' (A++ [cn])/\zc wr w2/\∀u m,m.length<=at_\/m.length<=1->zb qJ wr.heap.size w' u m->zb qJ wr.heap.size w2 u m:=by
   by_cases h0:at_=0
   ·have hxs:A=[]:=eN (by rw[HLA.out];exact h0)
    obtain⟨g,hgv⟩:=hz3 h0;rw[hgv,hxs]at o3;rw[hgv,hxs];obtain⟨v',w2,hrun,ho,hg2,_⟩:=jr (E:=qJ) (w:=w') 38 o3 (O (Xa ⟨g5,0,Xb⟩) 1 1) [cn] o5.at (bS hg);exact⟨v',w2,hrun,ho,hg.trans hg2,fun u m _ h=>h.grew hg2⟩
   obtain⟨v',w2,hrun,ho,hgr,hk⟩:=qn (E:=qJ) (w:=w') 38 o3 (O (Xa ⟨g5,0,Xb⟩) 1 1) [cn] o5.at (by rw[HLA.out];show(at_+1)*24<=_;omega) (bS hg)
   refine⟨v',w2,hrun,ho,zU hg hgr (fun g hg'=>(o3.lt g hg').1),fun u m hm h=>hk u m ?_ h⟩
   rw[HLA.out];omega
  obtain⟨v',w2,hrun,ho,hg2,hk⟩:=key;obtain⟨a',c',rfl⟩:=ho.form;refine zQ.step (v:= .slice a' (A++ [cn]).length c') (w':=w2) ?_ ⟨(HI _).2 hg2,hk,⟨a',c',by rw[lA,HLA.out];rfl⟩,ho⟩
  clear hx10 hup hfr;simp only[execOp,resolve,invoke,builtin,pure_bind,Xx,Xw,Yb,mP,Xz];exact Eq.trans (congrArg (fun r=>Result.andThen r (fun a w'=>Result.ok (Next.value a) w')) hrun) rfl
 obtain⟨a6,c6,rfl⟩:=hv;simp only[Xt,sB,sS,sZ];iterate 1 (refine zk rfl rfl rfl (fun K hK=>?_);go_big_quiet_op;refine hK _ ?_;clear hK)
 refine jM (.tmp 135) ⟨b,0,Xb⟩ rfl rfl rfl rfl ?_;simp only[Xt,sB,sS,sZ];iterate 5 (refine zk rfl rfl rfl (fun K hK=>?_);go_big_quiet_op;refine hK _ ?_;clear hK)
 refine zP rfl rfl (fun w' hI' hpr hF=>?_) (fun v1 hv=>?_)
 ·have hg:=(HI _).1 hI';have o6:zb qJ wr.heap.size w' (O a6 (at_+1) c6) (A++ [cn]):=hF 15 (by kernel_rfl)
  have hl6:(A++ [cn]).length=at_+1:=by rw[lA,HLA.out];rfl
  obtain⟨v',w2,hrun,ho,hgr,hk⟩:=qn (E:=qJ) (w:=w') 38 o6 (O fa nd cd) D2 (HRD.grew hg) (by rw[hl6,HLD.out];show(at_+1+(n - at_))*24<=_;omega) (bS hg)
  obtain⟨a',c',rfl⟩:=ho.form;refine zQ.step (v:= .slice a' (A++ [cn]++D2).length c') (w':=w2) ?_ ⟨(HI _).2 (zU hg hgr (fun g hg'=>(o6.lt g hg').1)),(fun u m hm h=>hk u m (by rw[hl6];exact hm) h),⟨a',c',by rw[HNN.out]⟩,ho⟩
  clear hx10 hup hfr;simp only[execOp,resolve,invoke,builtin,pure_bind,Xx,Xw,Yb,mP,Xz];exact Eq.trans (congrArg (fun r=>Result.andThen r (fun a w'=>Result.ok (Next.value a) w')) hrun) rfl
 obtain⟨a7,c7,rfl⟩:=hv;simp only[Xt,sB,sS,sZ];refine jM (.tmp 119) ⟨b,0,Xb⟩ rfl rfl rfl rfl ?_;simp only[Xt,sB,sS,sZ];iterate 2 (refine zk rfl rfl rfl (fun K hK=>?_);go_big_quiet_op;refine hK _ ?_;clear hK)
 refine jS fun W7 hI7 hF=>?_
 have o7:zb qJ wr.heap.size W7 (O a7 N c7) (A++ [cn]++D2):=hF 23;have g7:=(HI _).1 hI7;have M7:=dD (MQ.grew g7);have K7:=dD (KQ.trans (zr.grew g7));have O7:Xp (zb qJ wr.heap.size W7 (O a7 N c7) (A++ [cn]++D2)):=o7;have HB7:Xp (w0.heap.size<=wr.heap.size):=show _<=_ from bS MQ.gr
 have HB8:Xp (b<wr.heap.size):=dD<|MQ.box.box.lt
 clear o7 g7 hF hI7 hx10 hup hfr hne hI0;have xc:=M7.box.box.c 10 rfl;(try simp only[Sli.x]at xc);rw[HN.out,HAA.out]at xc;have xf:=M7.box.box.f;have HG8:Xp (W7.grownBy (W7.setCell ⟨b,10,Xb⟩ (O a7 N c7)) (Xa b)):=⟨rfl,rfl,rfl,by simp[World.setCell],fun k _ hk=>Below.heap_setCell _ _ _ _ (fun e=>hk (by rw[e]))⟩
 have M8:Xp (Mk w0 hi (W7.setCell ⟨b,10,Xb⟩ (O a7 N c7)) b vl6 L6 { V with ca:=⟨a7,N,c7⟩ } { m with fs:=m.fs.set j ⟨⟨p0,p1,p2,p3,p4,p5,p6,p7⟩,1,x == 1,dd,(fi:Int),(ix:Int)⟩,ca:=Zt m.ca ⟨(fi:Int),(ix:Int),(j:Int)⟩ } vt T):=dD<|by
  have h7:=M7.out;refine⟨ze h7.gr HG8 h7.hb,h7.hb,h7.box.set 10 _,h7.lr,h7.lc,h7.lb,?_⟩;have hr:=h7.rows.var HG8 h7.box HG8.size (.inl rfl);have:=hr.setCa (s:=⟨a7,N,c7⟩) (ca:=A++ [cn]++D2) ((O7.setCell (by have:=HB8.out;simp;omega) _).base HB7)
  rw[HCN.out]at this HSP;rw[HSP.out];exact this
 have K8:=dD (K7.trans (M7.keeps HG8));go_wp2;go_ret;exact .inr (.inr ⟨j,rfl,q,_,_,_,⟨a7,N,c7⟩,HQ,HR0,HNO,vl6,L6,M8,LL6,K8⟩)
theorem zlh (f:Nat->En) (n:Nat) (e:En):tab (qr f n e)=(tab f).set n e:=(zgd f n e).symm
theorem jx (f:Nat->En) {n:Nat} (hn:n<64) (e:En):Qw.enc (qr f n e)=splice (Qw.enc f) (n*3) (env e):=by
 show jp (tab (qr f n e))=splice (jp (tab f)) (n*3) (env e)
 rw[zlh];exact(Jv (enc:=env) (k:=3) e rfl (tab f) n (fun _ _=>rfl) (by rw[Qd];exact hn)).symm
theorem zhi {key:Ca->Int}:∀{l:List Ca} {lo N:Nat},l.Pairwise (fun a b=>key a<key b)->(∀c∈l,(lo:Int)<=key c/\key c< (N:Int))->l.length<=N - lo
 | [],_,_,_,_=>nZ _
 | c :: l,lo,N,h,hb=>by
  obtain⟨h1,h2⟩:=List.pairwise_cons.1 h;have h3:=hb c (by simp)
  have ih:=zhi (lo:=(key c).toNat+1) (N:=N) h2 (fun d hd=>by
   have:=h1 d hd;have:=hb d (by simp[hd])
   omega)
  simp only[Yi];omega
section
variable{m:Ma} {T:List (Nat->En)}
theorem qV.cached (h:qV m T):(∀c∈m.ca,0<=c.file/\c.file<=1000/\0<=c.idx/\c.idx<=1000/\0<=c.fr/\c.fr<m.fs.length)/\m.ca.length<=1000/\∀c∈m.ca,∃(k:Nat) (fr:Fr),c.fr=(k:Int)/\m.fs[k]? =Xa fr/\fr.f=c.file/\fr.x=c.idx:=by
 obtain⟨a1,a2,a3⟩:=zL.1 h.ca;have key:∀c∈m.ca,(0<=c.file/\c.file<5/\0<=c.idx/\c.idx<12/\0<=c.fr/\c.fr<m.fs.length)/\(z8 m c.fr).f=c.file/\(z8 m c.fr).x=c.idx:=fun c hc=>by
  have h1:=a1 c hc;unfold caE at h1
  split at h1
  ·cases h1
  rename_i hn
  split at h1
  ·cases h1
  rename_i hn2
  have h2:=h.pages (file:=c.file) (by omega) (by omega)
  refine⟨by omega,?_,?_⟩
  ·exact Classical.byContradiction fun e=>hn2 (.inr (.inl e))
  exact Classical.byContradiction fun e=>hn2 (.inr (.inr e))
 refine⟨fun c hc=>?_,?_,fun c hc=>?_⟩
 ·have:=(key c hc).1;omega
 ·refine nT (zhi (key:=qm) (lo:=0) (N:=1000) a3 fun c hc=>?_) (nR _)
  have:=(key c hc).1;unfold qm;omega
 obtain⟨k1,k2,k3⟩:=key c hc;have hlt:c.fr.toNat<m.fs.length:=by omega
 have he:z8 m c.fr=m.fs[c.fr.toNat]:=by
  unfold z8;rw[gD,gE hlt];rfl
 rw[he]at k2 k3;exact⟨c.fr.toNat,m.fs[c.fr.toNat],by omega,gE hlt,k2,k3⟩
theorem qV.alone (h:qV m T) {p n:Nat} {s:Sp} (hs:m.sp[p]? =Xa s) (hx:(zO s.ars n).is=Xc):-1<=(zO s.ars n).file/\0<=(zO s.ars n).page/\(zO s.ars n).page<=1000/\((zO s.ars n).file<0->(zO s.ars n).sh=Xd):=by
 have hw:=(h.spok s (mG hs)).1;have hc:=jY.1 hw;obtain⟨i,a,h1,h2,h3⟩:=Qm hx;have hok:=hc.2.all a (mG h1);rw[h3];unfold jA at hok;unfold qp;have h2:=qd.1 h2;obtain⟨o1,o2,o3,o4,o5,o6,o7,o8⟩:=hok;simp only
 split <;> refine⟨by omega,by omega,by omega,fun e=>(o7 e).2⟩
end
section
variable{w0 w w':Xo} {hi b:Nat} {vl:Sli} {L:List Int} {V:MaV} {m:Ma} {vt:Sli} {T:List (Nat->En)}
theorem Mk.setF (h:Mk w0 hi w b vl L V m vt T) {g:Nat} (hv:(V.f.x).ownBlock=Xa g) (hg:w.grownBy w' (Xa g)) (hs:w'.heap.size=w.heap.size) {fs:List Fr} (ho:zb Qj w0.heap.size w' (V.f.x) fs) (hcl:zcN { m with fs:=fs }):Mk w0 hi w' b vl L V { m with fs:=fs } vt T/\zr hi w w':=by
 refine⟨⟨ze h.gr hg (h.rows.fs.lt g hv).1,h.hb,h.box.beside hg (fun k e=>by cases e;exact h.rows.fs.ne h.box (by decide) g hv),h.lr,h.lc,h.lb,h.rows.setF hv hg hs ho hcl⟩,?_⟩
 obtain⟨cs,hcs⟩:=h.rows.fs.obj hv;exact zr.kind hg hcs (fun _ hl=>absurd rfl hl.2.1)
theorem Mk.setS (h:Mk w0 hi w b vl L V m vt T) {g:Nat} (hv:(V.s.x).ownBlock=Xa g) (hg:w.grownBy w' (Xa g)) (hs:w'.heap.size=w.heap.size) {ls:List Int} (ho:zb slE w0.heap.size w' (V.s.x) ls):Mk w0 hi w' b vl L V { m with sl:=ls } vt T/\zr hi w w':=by
 refine⟨⟨ze h.gr hg (h.rows.sl.lt g hv).1,h.hb,h.box.beside hg (fun k e=>by cases e;exact h.rows.sl.ne h.box (by decide) g hv),h.lr,h.lc,h.lb,h.rows.setS hv hg hs ho⟩,?_⟩
 obtain⟨cs,hcs⟩:=h.rows.sl.obj hv;exact zr.kind hg hcs (fun _ hl=>absurd rfl hl.2.2.1)
theorem Mk.setT (h:Mk w0 hi w b vl L V m vt T) {g:Nat} (hv:(vt.x).ownBlock=Xa g) (hg:w.grownBy w' (Xa g)) (hs:w'.heap.size=w.heap.size) {T':List (Nat->En)} (ho:zb Qw w0.heap.size w' (vt.x) T'):Mk w0 hi w' b vl L V m vt T'/\zr hi w w':=by
 refine⟨⟨ze h.gr hg (h.rows.tt.lt g hv).1,h.hb,h.box.beside hg (fun k e=>by cases e;exact h.rows.tt.ne h.box (by decide) g hv),h.lr,h.lc,h.lb,h.rows.setT hv hg hs ho⟩,?_⟩
 obtain⟨cs,hcs⟩:=h.rows.tt.obj hv;exact zr.kind hg hcs (fun _ hl=>absurd rfl hl.2.2.2.2.2.2.2.1)
theorem ZZ {base:Nat} {v:Xr} {ps:List (List Int)} (h:zi base w v ps) {g:Nat} (hg:v.ownBlock=Xa g):base<=g/\∃cs,w.heap[g]? =Xa (Xk cs 44 (0,0)):=by
 rcases h.1.2 with⟨rfl,_⟩|⟨k,cap,cur,rfl,h2,h3,_⟩
 ·cases hg
 simp only[Value.ownBlock,Option.some.injEq]at hg;subst hg;exact⟨h2,cur,h3⟩
theorem Mk.setSb (h:Mk w0 hi w b vl L V m vt T) {g:Nat} (hv:(V.sb.x).ownBlock=Xa g) (hg:w.grownBy w' (Xa g)) (hs:w'.heap.size=w.heap.size) {ls:List (List Int)} (ho:zi w0.heap.size w' (V.sb.x) ls):Mk w0 hi w' b vl L V { m with sb:=ls } vt T/\zr hi w w':=by
 obtain⟨h1,cs,h2⟩:=ZZ h.rows.sb hv;refine⟨⟨ze h.gr hg h1,h.hb,h.box.beside hg (fun k e=>?_),h.lr,h.lc,h.lb,h.rows.setSb h2 hv hg hs ho⟩,zr.kind hg h2 (fun p hl=>?_)⟩
 ·cases e;intro e;subst e;have h3:w.heap[b]? =_:=h.box;rw[h2]at h3;cases h3
 have:=hl.2.2.2.2.2.2.2.2 rfl;have:=h.rows.sbh g hv;omega
end
theorem zc9 (l:List Xr) {i:Nat} (h:i<l.length) (u:Xr):splice l i [u]=l.set i u:=by
 rw[List.set_eq_take_append_cons_drop,kE h]
 simp[splice]
theorem zb.box {α:Type} {E:Elt α} {w:Xo} {base g:Nat} {v:Xr} {l:List α} (h:zb E base w v l) (hg:v.ownBlock=Xa g):∃cs,zt w g E.ty cs:=by
 obtain⟨cs,h1⟩:=h.obj hg;exact⟨cs.toList,by unfold zt;rw[h1]⟩
theorem zb.unfrozen {α:Type} {E:Elt α} {w:Xo} {base g:Nat} {v:Xr} {l:List α} (h:zb E base w v l) (hg:v.ownBlock=Xa g):∀j,w.frozen? ⟨g,j,Xb⟩=Xd:=by
 obtain⟨cs,h1⟩:=h.box hg;exact h1.box.f
theorem zb.cell {α:Type} {E:Elt α} {w:Xo} {base g:Nat} {v:Xr} {l:List α} (h:zb E base w v l) {k o:Nat} (hg:v.ownBlock=Xa g) {x y:α} (hk:l[k]? =Xa x) {u:Xr} (hy:E.enc y=(E.enc x).set o u) (ho:o<E.k):
  zb E base (w.setCell ⟨g,k*E.k+o,Xb⟩ u) v (l.set k y)/\w.grownBy (w.setCell ⟨g,k*E.k+o,Xb⟩ u) (Xa g)/\(w.setCell ⟨g,k*E.k+o,Xb⟩ u).heap.size=w.heap.size:=by
 refine⟨⟨?_,by rw[Xv];exact h.2⟩,⟨rfl,rfl,rfl,by simp[World.setCell],fun j _ hj=>Below.heap_setCell _ _ _ _ (fun e=>hj (by rw[e]))⟩,by simp[World.setCell]⟩
 have hkl:=(gS.1 hk).1;refine⟨by rw[Xv,js,Xv],?_⟩
 rcases h.1.2 with⟨rfl,_⟩|⟨g',cap,cur,rfl,h2,h3,h4,h5,h6,h7⟩
 ·cases hg
 simp only[Value.ownBlock,Option.some.injEq]at hg;subst hg;have hb:zt w g' E.ty cur.toList:=by unfold zt;rw[h3]
 have hb2:=hb.set (k*E.k+o) u;refine .inr ⟨g',cap,(cur.toList.set (k*E.k+o) u).toArray,by rw[Xv],h2,hb2,by rw[Xv];exact h4,h5,by simpa using h6,?_⟩
 rw[Xv,List.toList_toArray,List.take_set,h7,<-zc9 _ ?_ u]
 ·refine QC o [u] (y:=y) ?_ (by simp;omega) l k hk
  rw[hy,zc9 _ (by rw[E.len];exact ho)]
 rw[js];have:(k+1)*E.k<=l.length*E.k:=Yc _ hkl;rw[Nat.add_mul]at this;omega
theorem QH {p:Nat}:Loc hi p 67:=⟨by decide,by decide,by decide,by decide,by decide,by decide,by decide,by decide,fun h=>absurd h (by decide)⟩
theorem qV.refs (h:qV m T) {k:Nat} {f:Fr} (hk:m.fs[k]? =Xa f):0<=f.r/\f.r<=2000:=by
 have h1:=(h.cf k f hk).1;have h2:=zck T 1 k;have h3:qk m.ca k<=m.ca.length:=List.countP_le_length;have h4:=h.cached.2.1;have h5:=h.tl;have h6:=h.spl;omega
def Ent (w0:Xo) (hi b:Nat) (w:Xo) (L:List Int) (m:Ma) (vt:Sli) (T:List (Nat->En)) (p n:Nat) (f:Nat->En) (w':Xo):Prop:=∃vl' L' V' m' T',Mk w0 hi w' b vl' L' V' m' vt T'/\ZP L L'/\zr hi w w'/\qV m' T'/\(m'.sp=m.sp/\m'.fl=m.fl/\m'.hand=m.hand/\m'.fs.length=m.fs.length)/\(T'=T\/∃e,T'=T.set p (qr f n e))/\(L=[]->m'=m/\T'=T)
theorem Ent.same {w:Xo} (p n:Nat) (f:Nat->En) (hb:qV m T) (h:MkE w0 hi b w L V m vt T w'):Ent w0 hi b w L m vt T p n f w':=by
 obtain⟨vl',L',h1,h2,h3⟩:=h;exact⟨vl',L',V,m,T,h1,h2,h3,hb,⟨rfl,rfl,rfl,rfl⟩,.inl rfl,fun _=>⟨rfl,rfl⟩⟩
theorem zkz {w:Xo} (p n:Nat) (s:Sp) (f:Nat->En) (x:On) (h:Mk w0 hi w b vl L V m vt T) (hB:qV m T) (hs:m.sp[p]? =Xa s) (hT:T[p]? =Xa f) (hn:n<64) (h0:f n=en0) (hx:zO s.ars n=x) (his:x.is=Xc) (hfi:jF m.fl.length s.ars):
  Xq prog 80 #[Xj (Xa ⟨b,0,Xb⟩),I6 (p:Int),I6 (n:Int),Xi (onv x).toArray] w fun e w'=>(∃v,e= Xl v)/\Ent w0 hi b w L m vt T p n f w':=by
 have hal:=hB.alone hs (n:=n) (by rw[hx];exact his)
 have hfl:x.file< (m.fl.length:Int):=by rw[<-hx];exact hfi n hn (by rw[hx];exact his)
 rw[hx]at hal;obtain⟨al1,al2,al3,al4⟩:=hal;obtain⟨xis,xrd,xwr,xsh,xfi,xpg⟩:=x;dsimp only at his al1 al2 al3 al4 hfl;subst his;have HX:Xp (zO s.ars n=⟨Xc,xrd,xwr,xsh,xfi,xpg⟩):=hx;have HM:Xp (Mk w0 hi w b vl L V m vt T):=h;have HB:Xp (qV m T):=hB;have HS:Xp (m.sp[p]? =Xa s):=hs;have HT:Xp (T[p]? =Xa f):=hT;have H0:Xp (f n=en0):=h0;obtain⟨tn,HTL⟩:=kA T.length;have hpt:p<tn:=by rw[<-HTL.out];exact(gS.1 hT).1
 have HIS:Xp ((zO s.ars n).is=Xc):=dD<|by rw[hx]
 have HWR:Xp ((zO s.ars n).wr=xwr):=dD<|by rw[hx]
 have HSE:Xp ((zO s.ars n).sh=xsh/\(zO s.ars n).file=xfi/\(zO s.ars n).page=xpg):=dD<|by rw[hx];exact⟨rfl,rfl,rfl⟩
 obtain⟨px,HPX⟩:=kA w.heap.size;obtain⟨W0,hW0⟩:=kB (w.alloc (Xk #[Xh Xc,Xh xrd,Xh xwr,Xh xsh,I6 xfi,I6 xpg] 67));have HG0:=gA hW0
 have X0:=xPT hW0 HPX
 have M0:Xp (Mk w0 hi W0 b vl L V m vt T):=h.grew HG0.out;have HBX:Xp (b<w.heap.size):=show _<_ from h.box.box.lt
 have HW0:Xp (_=W0):=hW0;clear hW0 h hB hs hT h0 hx hfi
 go_enter func80,ntmps80
 go_upto_region 1 with fail;have hw:w.alloc (Xk (onv ⟨Xc,xrd,xwr,xsh,xfi,xpg⟩).toArray 67)=W0:=HW0.out;rw[hw,HPX.out];clear hw;have hpk:=qA 4 M0.out;go_wp2_with fail;refine hpk.mono ?_;clear hpk;rintro e W1 ⟨vl1,L1,y,rfl,mk1,gr1,sz1,y0,y1,yn,ll⟩;have M1:Xp (Mk w0 hi W1 b vl1 L1 V m vt T):=mk1;have K1:Xp (zr hi w W1):=(zr.grew HG0).trans (M0.keeps gr1);have X1:Xp (zt W1 px 67 [Xh Xc,Xh xrd,Xh xwr,Xh xsh,I6 xfi,I6 xpg]):=X0.beside gr1 (fun g e=>by cases e;have:=HBX.out;have:=HPX.out;omega)
 have LL1:Xp (ZP L L1):=ll;have hy4:y<4:=by rcases y1 with h | h <;> omega
 have HYN:Xp (L=[]->y=0):=yn;clear mk1 gr1 sz1 y1 yn ll
 by_cases hy:y=0
 ·have hye:(y == 0)=Xc:=by simp[hy]
  clear hy;have HE:Xp (Ent w0 hi b w L m vt T p n f W1):=dD<|Ent.same p n f HB ⟨vl1,L1,M1,LL1,K1⟩
  go_wp2
  (first | go_end0 | ((try simp only[Exit.inBlock,Exit.then]);refine bodyPost_ret (results_none rfl _ _ _) rfl ?_))
  first | exact HE.out | exact⟨⟨_,rfl⟩,HE⟩
 have hye:(y == 0)=Xd:=by simp[hy]
 have HLN:Xp (L≠[]):=dD<|fun e=>hy (HYN e)
 clear hy;have c3:=X1.box.c 3 rfl;have c4:=X1.box.c 4 rfl;have HA4:Xp (xfi<0->xsh=Xd):=dD<|fun h=>al4 (by omega)
 clear al4;go_upto_region 6 with fail
 go_cut [44] (fun s44 wx=>∃c1:Bool,s44= Xh c1/\wx=W1/\Xp (c1=Xc->0<=xfi)/\Xp (c1=Xd->xsh=Xd))
 case first=>
  by_cases hfz:0<=xfi
  ·have hfd:decide ((0:Int)<=xfi)=Xc:=by simpa using hfz
   cases xsh with
   | true=>
    go_wp2
    go_meet
    exact⟨Xc,rfl,rfl,fun _=>hfz,fun h=>(by cases h)⟩
   | false=>
    go_wp2
    go_meet
    exact⟨(y == 1),rfl,rfl,fun _=>hfz,fun _=>(by first | rfl | trivial)⟩
  have hfd:decide ((0:Int)<=xfi)=Xd:=by simpa using hfz
  have HSF:Xp (xsh=Xd):=HA4.out (by omega)
  go_wp2
  go_meet
  exact⟨Xd,rfl,rfl,fun h=>(by cases h),fun _=>HSF.out⟩
 obtain⟨c1,rfl,hwc,HC1,HC0⟩:=hcut;rw[hwc];clear hwc c3 c4
 cases c1 with
 | true=>
  have hfz:=HC1.out rfl;obtain⟨fi,rfl⟩:∃fi:Nat,xfi=(fi:Int):=⟨xfi.toNat,by omega⟩
  obtain⟨ix,rfl⟩:∃ix:Nat,xpg=(ix:Int):=⟨xpg.toNat,by omega⟩
  obtain⟨fl,HFL⟩:∃fl,Xp (m.fl[fi]? =Xa fl):=⟨_,gE (by omega)⟩
  have c3:=X1.box.c 3 rfl;have c4:=X1.box.c 4 rfl;have c5:=X1.box.c 5 rfl;go_upto_region 7 with fail;have x8:=M1.box.box.c 8 rfl;obtain⟨_,_,hfe,_,hfr⟩:=qh.rows M1.rows.at.fl;have hrw:Qv W1 V.fl.a m.fl:=by
   simp only[vJ]at hfe;rw[hfe.1];exact hfr
  have hfn:V.fl.n=m.fl.length:=by
   simp only[vJ]at hfe;exact hfe.2.1
  obtain⟨ad,hva,ba,bc,_,hlf⟩:=hrw fi fl HFL.out;obtain⟨-,d1⟩:=hlf W1 (zc.refl _);obtain⟨fln,hfln⟩:=kB V.fl.n;have hflz:(fi:Int)< (fln:Int):=by
   have:=(gS.1 HFL).1;omega
  (try simp only[Sli.x]at x8);rw[hva,hfln]at x8;obtain⟨bn,HBN⟩:=kA fl.bl.length;rw[HBN.out]at d1;clear hfe hfr hrw hfn hva hlf hfln
  by_cases hpg:bn<=ix
  ·have hpgd:decide ((bn:Int)<=(ix:Int))=Xc:=by simpa using hpg
   go_quiet (fail);obtain⟨W2,hW2⟩:=kB (W1.drewN nq);have G2:Xp (zc W1 W2):=dD<|by rw[<-hW2];exact(show Below _ _ _ from bD (bR _ _) _)
   rw[hW2];clear hW2 x8 d1 c3 c4 c5;have HE:Xp (Ent w0 hi b w L m vt T p n f W2):=dD<|Ent.same p n f HB ⟨vl1,L1,M1.grew G2,LL1,K1.trans (zr.grew G2)⟩
   go_wp2
   (first | go_end0 | ((try simp only[Exit.inBlock,Exit.then]);refine bodyPost_ret (results_none rfl _ _ _) rfl ?_))
   first | exact HE.out | exact⟨⟨_,rfl⟩,HE⟩
  have hpgd:decide ((bn:Int)<=(ix:Int))=Xd:=by simpa using hpg
  obtain⟨bk,HBK⟩:∃bk,Xp (fl.bl[ix]? =Xa bk):=⟨_,gE (by rw[HBN.out];omega)⟩
  go_quiet (fail);obtain⟨W2,hW2⟩:=kB (W1.drewN nq);have G2:Xp (zc W1 W2):=dD<|by rw[<-hW2];exact(show Below _ _ _ from bD (bR _ _) _)
  rw[hW2];clear hW2 x8 d1 c3 c4 c5;have M2:=dD (M1.grew G2);have K2:=dD (K1.trans (zr.grew G2));have X2:=dD (X1.grew G2);have c4:=X2.box.c 4 rfl;have c5:=X2.box.c 5 rfl;have hcd:=ziY fi ix fl bk M2 HB.cached.1 HFL HBK (by omega) (by have:=(HB.pages (file:=(fi:Int)) (by omega) hfl).2;omega) HB.cached.2.1
  go_wp2_with fail;refine hcd.mono ?_;clear hcd c4 c5;rintro e W3 hres;have hres2:(e= Xl (I6 (-1))/\MkE w0 hi b w L V m vt T W3)\/∃(k:Nat) (V1:MaV) (m1:Ma) (fr:Fr),e= Xl (I6 (k:Int))/\MkE w0 hi b w L V1 m1 vt T W3/\qV m1 T/\m1.fs[k]? =Xa fr/\fr.f=(fi:Int)/\fr.x=(ix:Int)/\(m1.sp=m.sp/\m1.fl=m.fl/\m1.hand=m.hand/\m1.fs.length=m.fs.length):=by
   rcases hres with⟨he,hE⟩|⟨c,hc,hc1,hc2,he,hE⟩|⟨j,he,q,pg,u,d,sl,hj,hr,hno,hE⟩
   ·exact .inl ⟨he,hE.trans LL1 K2⟩
   ·obtain⟨k,fr,k1,k2,k3,k4⟩:=HB.cached.2.2 c hc;exact .inr ⟨k,V,m,fr,by rw[he,k1],hE.trans LL1 K2,HB,k2,k3.trans hc1,k4.trans hc2,rfl,rfl,rfl,rfl⟩
   refine .inr ⟨j,_,_,⟨pg,1,u,d,fi,ix⟩,he,hE.trans LL1 K2,HB.cache hj hr ⟨by omega,hfl⟩ ⟨by omega,?_⟩ hno,?_,rfl,rfl,rfl,rfl,rfl,Xv⟩
   ·unfold bkN;rw[tN,gD,HFL.out];simp only[Option.getD_some];have:=HBN.out;omega
   exact sF (gS.1 hj).1
  have X3:Xp (zt W3 px 67 [Xh Xc,Xh xrd,Xh xwr,Xh xsh,I6 (fi:Int),I6 (ix:Int)]):=dD<|by
   rcases hres with⟨_,_,_,_,_,hk⟩|⟨_,_,_,_,_,_,_,_,_,hk⟩|⟨_,_,_,_,_,_,_,_,_,_,_,_,_,_,hk⟩
   ·exact hk.1 _ _ _ X2 QH
   ·exact hk.1 _ _ _ X2 QH
   exact hk.1 _ _ _ X2 QH
  clear hres
  rcases hres2 with⟨rfl,hE⟩|⟨k,V1,m1,fr,rfl,⟨vl3,L3,mk3,ll3,kp3⟩,hb1,hk,hkf,hkx,hsame⟩
  ·have HEE:Xp (MkE w0 hi b w L V m vt T W3):=hE;clear hE;have HE:Xp (Ent w0 hi b w L m vt T p n f W3):=show Ent _ _ _ _ _ _ _ _ _ _ _ _ from Ent.same p n f HB HEE.out
   go_wp2
   (first | go_end0 | ((try simp only[Exit.inBlock,Exit.then]);refine bodyPost_ret (results_none rfl _ _ _) rfl ?_))
   first | exact HE.out | exact⟨⟨_,rfl⟩,HE⟩
  have M3:Xp (Mk w0 hi W3 b vl3 L3 V1 m1 vt T):=mk3;have K3:Xp (zr hi w W3):=kp3;have LL3:Xp (ZP L L3):=ll3;have HB1:Xp (qV m1 T):=hb1;have HK:Xp (m1.fs[k]? =Xa fr):=hk;have HKF:Xp (fr.f=(fi:Int)/\fr.x=(ix:Int)):=show _/\_ from⟨hkf,hkx⟩
  have HSM:Xp (m1.sp=m.sp/\m1.fl=m.fl/\m1.hand=m.hand/\m1.fs.length=m.fs.length):=dD<|hsame
  obtain⟨hr0,hr1⟩:=hb1.refs hk;obtain⟨nf,HNF⟩:=kA m1.fs.length;have hkn:k<nf:=by rw[<-HNF.out];exact(gS.1 hk).1
  have hkz:(k:Int)< (nf:Int):=by omega
  have hk0:¬(k:Int)<0:=by omega
  clear mk3 ll3 kp3 hb1 hk hkf hkx hsame;obtain⟨g,cf,heq⟩:=M3.rows.fs.formS (by rw[HNF.out];omega)
  rw[HNF.out]at heq;have HEQ:Xp (V1.f.x= O (Xa ⟨g,0,Xb⟩) nf cf):=heq;have x1:=M3.box.box.c 1 rfl;(first|rw[HEQ.out]at x1|rw[show O _ _ _=_ from HEQ.out]at x1);have hrw:=M3.rows.fs;(first|rw[HEQ.out]at hrw|rw[show O _ _ _=_ from HEQ.out]at hrw);have HRW:Xp (zb Qj w0.heap.size W3 (O (Xa ⟨g,0,Xb⟩) nf cf) m1.fs):=hrw;have hce:=hrw.one HK.out;have d8:W3.cell? ⟨g,k*13+8,Xb⟩=Xa (I6 fr.r):=by
   have:=hce 8 _ rfl;rw[zX,Addr.add_lit,zA]at this;exact this
  clear hce hrw heq;have xf:=HRW.unfrozen rfl;go_upto_region 11 with fail;obtain⟨ow4,gr4,sz4⟩:=HRW.cell (k:=k) (o:=8) rfl HK (y:={ fr with r:=fr.r+1 }) (u:=I6 (fr.r+1)) rfl (by decide)
  obtain⟨W4,hW4⟩:=kB (W3.setCell ⟨g,k*13+8,Xb⟩ (I6 (fr.r+1)));have e4:W3.setCell ⟨g,k*Qj.k+8,Xb⟩ (I6 (fr.r+1))=W4:=hW4;rw[e4]at ow4 gr4 sz4;rw[hW4];rw[<-HEQ.out]at ow4;clear e4 hW4 xf;have hM4:=M3.setF (by rw[HEQ.out];rfl) gr4 sz4 ow4 (M3.rows.ap.2.inc HB1 HK)
  have M4:Xp (Mk w0 hi W4 b vl3 L3 V1 { m1 with fs:=m1.fs.set k { fr with r:=fr.r+1 } } vt T):=hM4.1;have K4:Xp (zr hi w W4):=K3.trans hM4.2;have X4:Xp (zt W4 px 67 [Xh Xc,Xh xrd,Xh xwr,Xh xsh,I6 (fi:Int),I6 (ix:Int)]):=hM4.2.1 _ _ _ X3 QH;have HBF:Xp (∀wf:Bool,(wf=Xc->xsh=Xc/\xwr=Xc)->qV { m1 with fs:=m1.fs.set k { fr with r:=fr.r+1 } } (T.set p (qr f n ⟨1,(k:Int),wf⟩))):=show∀wf:Bool,_ from fun wf hwf=>HB1.hold HK (by rw[HKF.1];omega) (by rw[HSM.1];exact HS) HT hn H0 HIS (by rw[HKF.1];exact HSE.2.1) (by rw[HKF.2];exact HSE.2.2) (fun e=>by rw[HSE.1,HWR.out];exact hwf e)
  clear hM4 ow4 gr4 sz4 x1 d8
  cases xsh with
  | false=>
   obtain⟨gt,ct,hte⟩:=M4.rows.tt.formS (by rw[HTL.out];omega)
   rw[HTL.out]at hte;have HTE:Xp (vt.x= O (Xa ⟨gt,0,Xb⟩) tn ct):=hte;clear hte;obtain⟨I,HI⟩:∃I:Xo->Prop,Xp (∀u,I u↔u.cell? ⟨b,12,Xb⟩=Xa (O (Xa ⟨gt,0,Xb⟩) tn ct)/\zt u px 67 [Xh Xc,Xh xrd,Xh xwr,Xh Xd,I6 (fi:Int),I6 (ix:Int)]):=⟨fun u=>u.cell? ⟨b,12,Xb⟩=Xa (O (Xa ⟨gt,0,Xb⟩) tn ct)/\zt u px 67 [Xh Xc,Xh xrd,Xh xwr,Xh Xd,I6 (fi:Int),I6 (ix:Int)],fun _=>Iff.rfl⟩
   have HIM:Xp (∀u vl' L' V' m',Mk w0 hi u b vl' L' V' m' vt T->u.cell? ⟨b,12,Xb⟩=Xa (O (Xa ⟨gt,0,Xb⟩) tn ct)):=dD<|fun u vl' L' V' m' hm=>by
    have:=hm.box.box.c 12 rfl;(first|rw[HTE.out]at this|rw[show O _ _ _=_ from HTE.out]at this);exact this
   have hI0:I W4.drew:=(HI _).2 ⟨HIM _ _ _ _ _ (M4.grew (gW _)),X4.grew (gW _)⟩
   have hF0:MkE w0 hi b w L V1 { m1 with fs:=m1.fs.set k { fr with r:=fr.r+1 } } vt T W4.drew:=⟨vl3,L3,M4.grew (gW _),LL3,K4.trans (zr.grew (gW _))⟩
   have ht:∀y:zj I,y.world.cell? ⟨b,12,Xb⟩=Xa (O (Xa ⟨gt,0,Xb⟩) tn ct):=fun y=>((HI _).1 y.holds).1
   have hx2:∀y:zj I,y.world.cell? ⟨px,2,Xb⟩=Xa (Xh xwr):=fun y=>((HI _).1 y.holds).2.box.c 2 rfl
   have hx3:∀y:zj I,y.world.cell? ⟨px,3,Xb⟩=Xa (Xh Xd):=fun y=>((HI _).1 y.holds).2.box.c 3 rfl
   have hne:Nonempty (zj I):=⟨⟨_,hI0⟩⟩;have hptz:(p:Int)< (tn:Int):=by omega
   have hnz:(n:Int)<64:=by omega
   refine zG (I:=I) 21 [(15,fun v=>∃x:Int,v=I6 x)] (fun u=>MkE w0 hi b w L V1 { m1 with fs:=m1.fs.set k { fr with r:=fr.r+1 } } vt T u) hI0 hF0 zW (by kernel_rfl) rfl rfl (by decide) ?hS (by kernel_rfl) ?_
   case hS=>
    intro x hx;simp only[mC,nM,or_false]at hx;subst hx;exact⟨_,0,rfl⟩
   simp only[Ye,Yf];iterate 1 (refine zg rfl rfl rfl (fun K hK=>?_);go_big_quiet_op;refine hK _ ?_;clear hK)
   refine zI (.tmp 92) ⟨b,0,Xb⟩ rfl rfl rfl rfl ?_;simp only[Xt,sB,sS,sZ];iterate 8 (refine zg rfl rfl rfl (fun K hK=>?_);go_big_quiet_op;refine hK _ ?_;clear hK)
   refine jD ?_ ?_
   ·kernel_rfl
   simp only[Xt,sB,sS,sZ];refine jD ?_ ?_
   ·kernel_rfl
   simp only[Xt,sB,sS,sZ];iterate 2 (refine zg rfl rfl rfl (fun K hK=>?_);go_big_quiet_op;refine hK _ ?_;clear hK)
   refine jD ?_ ?_
   ·kernel_rfl
   simp only[Xt,sB,sS,sZ];refine jD ?_ ?_
   ·kernel_rfl
   simp only[Xt,sB,sS,sZ];refine jD ?_ ?_
   ·kernel_rfl
   simp only[Xt,sB,sS,sZ];iterate 4 (refine zg rfl rfl rfl (fun K hK=>?_);go_big_quiet_op;refine hK _ ?_;clear hK)
   refine qj fun W8 hI8 hF8=>?_
   obtain⟨vl8,L8,mk8,ll8,kp8⟩:=hF8;have M8:Xp (Mk w0 hi W8 b vl8 L8 V1 { m1 with fs:=m1.fs.set k { fr with r:=fr.r+1 } } vt T):=mk8;have LL8:Xp (ZP L L8):=ll8;have K8:Xp (zr hi w W8):=kp8;clear mk8 ll8 kp8 hI8 hI0 hF0 ht hx2 hx3 hne;have R8:Xp (zb Qw w0.heap.size W8 (O (Xa ⟨gt,0,Xb⟩) tn ct) T):=show zb _ _ _ _ _ by rw[<-HTE.out];exact M8.rows.tt
   refine zB (E:=Qw) rfl (.tmp 112) (.tmp 110) 55 rfl w0.heap.size _ T R8 gt p (n*3) rfl f (qr f n ⟨1,(k:Int),Xd⟩) HT (env ⟨1,(k:Int),Xd⟩) (by kernel_rfl) (jx f hn _) (by show n*3+3<=192;omega) (enE.one _) ⟨gt,p*192+n*3,Xb⟩ rfl rfl (Xi (env ⟨1,(k:Int),Xd⟩).toArray) rfl rfl ?_
   intro W9 ow9 gr9 sz9;rw[<-HTE.out]at ow9;have hM9:=M8.setT (by rw[HTE.out];rfl) gr9 sz9 ow9
   have M9:Xp (Mk w0 hi W9 b vl8 L8 V1 { m1 with fs:=m1.fs.set k { fr with r:=fr.r+1 } } vt (T.set p (qr f n ⟨1,(k:Int),Xd⟩))):=hM9.1;have K9:Xp (zr hi w W9):=K8.trans hM9.2;clear hM9 ow9 gr9 sz9;have HE:Xp (Ent w0 hi b w L m vt T p n f W9):=show Ent _ _ _ _ _ _ _ _ _ _ _ _ from⟨vl8,L8,_,_,_,M9,LL8,K9,HBF _ (by intro e;first | exact⟨rfl,rfl⟩ | cases e),⟨HSM.1,HSM.2.1,HSM.2.2.1,List.length_set.trans HSM.2.2.2⟩,.inr ⟨_,rfl⟩,fun h=>absurd h HLN⟩
   go_wp2
   (first | go_end0 | ((try simp only[Exit.inBlock,Exit.then]);refine bodyPost_ret (results_none rfl _ _ _) rfl ?_))
   first | exact HE.out | exact⟨⟨_,rfl⟩,HE⟩
  | true=>
   cases xwr with
   | false=>
    obtain⟨gt,ct,hte⟩:=M4.rows.tt.formS (by rw[HTL.out];omega)
    rw[HTL.out]at hte;have HTE:Xp (vt.x= O (Xa ⟨gt,0,Xb⟩) tn ct):=hte;clear hte;obtain⟨I,HI⟩:∃I:Xo->Prop,Xp (∀u,I u↔u.cell? ⟨b,12,Xb⟩=Xa (O (Xa ⟨gt,0,Xb⟩) tn ct)/\zt u px 67 [Xh Xc,Xh xrd,Xh Xd,Xh Xc,I6 (fi:Int),I6 (ix:Int)]):=⟨fun u=>u.cell? ⟨b,12,Xb⟩=Xa (O (Xa ⟨gt,0,Xb⟩) tn ct)/\zt u px 67 [Xh Xc,Xh xrd,Xh Xd,Xh Xc,I6 (fi:Int),I6 (ix:Int)],fun _=>Iff.rfl⟩
    have HIM:Xp (∀u vl' L' V' m',Mk w0 hi u b vl' L' V' m' vt T->u.cell? ⟨b,12,Xb⟩=Xa (O (Xa ⟨gt,0,Xb⟩) tn ct)):=dD<|fun u vl' L' V' m' hm=>by
     have:=hm.box.box.c 12 rfl;(first|rw[HTE.out]at this|rw[show O _ _ _=_ from HTE.out]at this);exact this
    have hI0:I W4.drew:=(HI _).2 ⟨HIM _ _ _ _ _ (M4.grew (gW _)),X4.grew (gW _)⟩
    have hF0:MkE w0 hi b w L V1 { m1 with fs:=m1.fs.set k { fr with r:=fr.r+1 } } vt T W4.drew:=⟨vl3,L3,M4.grew (gW _),LL3,K4.trans (zr.grew (gW _))⟩
    have ht:∀y:zj I,y.world.cell? ⟨b,12,Xb⟩=Xa (O (Xa ⟨gt,0,Xb⟩) tn ct):=fun y=>((HI _).1 y.holds).1
    have hx2:∀y:zj I,y.world.cell? ⟨px,2,Xb⟩=Xa (Xh Xd):=fun y=>((HI _).1 y.holds).2.box.c 2 rfl
    have hx3:∀y:zj I,y.world.cell? ⟨px,3,Xb⟩=Xa (Xh Xc):=fun y=>((HI _).1 y.holds).2.box.c 3 rfl
    have hne:Nonempty (zj I):=⟨⟨_,hI0⟩⟩;have hptz:(p:Int)< (tn:Int):=by omega
    have hnz:(n:Int)<64:=by omega
    refine zG (I:=I) 21 [(15,fun v=>∃x:Int,v=I6 x)] (fun u=>MkE w0 hi b w L V1 { m1 with fs:=m1.fs.set k { fr with r:=fr.r+1 } } vt T u) hI0 hF0 zW (by kernel_rfl) rfl rfl (by decide) ?hS (by kernel_rfl) ?_
    case hS=>
     intro x hx;simp only[mC,nM,or_false]at hx;subst hx;exact⟨_,0,rfl⟩
    simp only[Ye,Yf];iterate 1 (refine zg rfl rfl rfl (fun K hK=>?_);go_big_quiet_op;refine hK _ ?_;clear hK)
    refine zI (.tmp 92) ⟨b,0,Xb⟩ rfl rfl rfl rfl ?_;simp only[Xt,sB,sS,sZ];iterate 8 (refine zg rfl rfl rfl (fun K hK=>?_);go_big_quiet_op;refine hK _ ?_;clear hK)
    iterate 4 (refine zg rfl rfl rfl (fun K hK=>?_);go_big_quiet_op;refine hK _ ?_;clear hK)
    refine jD ?_ ?_
    ·kernel_rfl
    simp only[Xt,sB,sS,sZ];refine jD ?_ ?_
    ·kernel_rfl
    simp only[Xt,sB,sS,sZ];refine jD ?_ ?_
    ·kernel_rfl
    simp only[Xt,sB,sS,sZ];iterate 4 (refine zg rfl rfl rfl (fun K hK=>?_);go_big_quiet_op;refine hK _ ?_;clear hK)
    refine qj fun W8 hI8 hF8=>?_
    obtain⟨vl8,L8,mk8,ll8,kp8⟩:=hF8;have M8:Xp (Mk w0 hi W8 b vl8 L8 V1 { m1 with fs:=m1.fs.set k { fr with r:=fr.r+1 } } vt T):=mk8;have LL8:Xp (ZP L L8):=ll8;have K8:Xp (zr hi w W8):=kp8;clear mk8 ll8 kp8 hI8 hI0 hF0 ht hx2 hx3 hne;have R8:Xp (zb Qw w0.heap.size W8 (O (Xa ⟨gt,0,Xb⟩) tn ct) T):=show zb _ _ _ _ _ by rw[<-HTE.out];exact M8.rows.tt
    refine zB (E:=Qw) rfl (.tmp 112) (.tmp 110) 55 rfl w0.heap.size _ T R8 gt p (n*3) rfl f (qr f n ⟨1,(k:Int),Xd⟩) HT (env ⟨1,(k:Int),Xd⟩) (by kernel_rfl) (jx f hn _) (by show n*3+3<=192;omega) (enE.one _) ⟨gt,p*192+n*3,Xb⟩ rfl rfl (Xi (env ⟨1,(k:Int),Xd⟩).toArray) rfl rfl ?_
    intro W9 ow9 gr9 sz9;rw[<-HTE.out]at ow9;have hM9:=M8.setT (by rw[HTE.out];rfl) gr9 sz9 ow9
    have M9:Xp (Mk w0 hi W9 b vl8 L8 V1 { m1 with fs:=m1.fs.set k { fr with r:=fr.r+1 } } vt (T.set p (qr f n ⟨1,(k:Int),Xd⟩))):=hM9.1;have K9:Xp (zr hi w W9):=K8.trans hM9.2;clear hM9 ow9 gr9 sz9;have HE:Xp (Ent w0 hi b w L m vt T p n f W9):=show Ent _ _ _ _ _ _ _ _ _ _ _ _ from⟨vl8,L8,_,_,_,M9,LL8,K9,HBF _ (by intro e;first | exact⟨rfl,rfl⟩ | cases e),⟨HSM.1,HSM.2.1,HSM.2.2.1,List.length_set.trans HSM.2.2.2⟩,.inr ⟨_,rfl⟩,fun h=>absurd h HLN⟩
    go_wp2
    (first | go_end0 | ((try simp only[Exit.inBlock,Exit.then]);refine bodyPost_ret (results_none rfl _ _ _) rfl ?_))
    first | exact HE.out | exact⟨⟨_,rfl⟩,HE⟩
   | true=>
    obtain⟨gt,ct,hte⟩:=M4.rows.tt.formS (by rw[HTL.out];omega)
    rw[HTL.out]at hte;have HTE:Xp (vt.x= O (Xa ⟨gt,0,Xb⟩) tn ct):=hte;clear hte;obtain⟨I,HI⟩:∃I:Xo->Prop,Xp (∀u,I u↔u.cell? ⟨b,12,Xb⟩=Xa (O (Xa ⟨gt,0,Xb⟩) tn ct)/\zt u px 67 [Xh Xc,Xh xrd,Xh Xc,Xh Xc,I6 (fi:Int),I6 (ix:Int)]):=⟨fun u=>u.cell? ⟨b,12,Xb⟩=Xa (O (Xa ⟨gt,0,Xb⟩) tn ct)/\zt u px 67 [Xh Xc,Xh xrd,Xh Xc,Xh Xc,I6 (fi:Int),I6 (ix:Int)],fun _=>Iff.rfl⟩
    have HIM:Xp (∀u vl' L' V' m',Mk w0 hi u b vl' L' V' m' vt T->u.cell? ⟨b,12,Xb⟩=Xa (O (Xa ⟨gt,0,Xb⟩) tn ct)):=dD<|fun u vl' L' V' m' hm=>by
     have:=hm.box.box.c 12 rfl;(first|rw[HTE.out]at this|rw[show O _ _ _=_ from HTE.out]at this);exact this
    have hI0:I W4.drew:=(HI _).2 ⟨HIM _ _ _ _ _ (M4.grew (gW _)),X4.grew (gW _)⟩
    have hF0:MkE w0 hi b w L V1 { m1 with fs:=m1.fs.set k { fr with r:=fr.r+1 } } vt T W4.drew:=⟨vl3,L3,M4.grew (gW _),LL3,K4.trans (zr.grew (gW _))⟩
    have ht:∀y:zj I,y.world.cell? ⟨b,12,Xb⟩=Xa (O (Xa ⟨gt,0,Xb⟩) tn ct):=fun y=>((HI _).1 y.holds).1
    have hx2:∀y:zj I,y.world.cell? ⟨px,2,Xb⟩=Xa (Xh Xc):=fun y=>((HI _).1 y.holds).2.box.c 2 rfl
    have hx3:∀y:zj I,y.world.cell? ⟨px,3,Xb⟩=Xa (Xh Xc):=fun y=>((HI _).1 y.holds).2.box.c 3 rfl
    have hne:Nonempty (zj I):=⟨⟨_,hI0⟩⟩;have hptz:(p:Int)< (tn:Int):=by omega
    have hnz:(n:Int)<64:=by omega
    refine zG (I:=I) 21 [(15,fun v=>∃x:Int,v=I6 x)] (fun u=>MkE w0 hi b w L V1 { m1 with fs:=m1.fs.set k { fr with r:=fr.r+1 } } vt T u) hI0 hF0 zW (by kernel_rfl) rfl rfl (by decide) ?hS (by kernel_rfl) ?_
    case hS=>
     intro x hx;simp only[mC,nM,or_false]at hx;subst hx;exact⟨_,0,rfl⟩
    simp only[Ye,Yf];iterate 1 (refine zg rfl rfl rfl (fun K hK=>?_);go_big_quiet_op;refine hK _ ?_;clear hK)
    refine zI (.tmp 92) ⟨b,0,Xb⟩ rfl rfl rfl rfl ?_;simp only[Xt,sB,sS,sZ];iterate 8 (refine zg rfl rfl rfl (fun K hK=>?_);go_big_quiet_op;refine hK _ ?_;clear hK)
    iterate 4 (refine zg rfl rfl rfl (fun K hK=>?_);go_big_quiet_op;refine hK _ ?_;clear hK)
    iterate 1 (refine zg rfl rfl rfl (fun K hK=>?_);go_big_quiet_op;refine hK _ ?_;clear hK)
    refine zH rfl rfl (fun _ u=>MkE w0 hi b w L V1 { m1 with fs:=m1.fs.set k { fr with r:=fr.r+1 } } vt T u) (fun w' hI' hF'=>?_) (fun v1 hv=>?_)
    ·obtain⟨vl',L',mk',ll',kp'⟩:=hF';refine zQ.call [Xj (Xa ⟨b,0,Xb⟩),I6 2] rfl func36 rfl rfl rfl ?_;refine(qA 2 mk').mono ?_;rintro e w'' ⟨vl2,L2,x,rfl,mk2,gr2,_,_,_,_,ll2⟩;exact⟨_,rfl,(HI _).2 ⟨HIM _ _ _ _ _ mk2,(mk'.keeps gr2).1 _ _ _ ((HI _).1 hI').2 QH⟩,⟨x,rfl⟩,vl2,L2,mk2,ll'.trans ll2,kp'.trans (mk'.keeps gr2)⟩
    obtain⟨xq,rfl⟩:=hv;simp only[Xt,sB,sS,sZ];iterate 5 (refine zg rfl rfl rfl (fun K hK=>?_);go_big_quiet_op;refine hK _ ?_;clear hK)
    refine qj fun W8 hI8 hF8=>?_
    obtain⟨vl8,L8,mk8,ll8,kp8⟩:=hF8;have M8:Xp (Mk w0 hi W8 b vl8 L8 V1 { m1 with fs:=m1.fs.set k { fr with r:=fr.r+1 } } vt T):=mk8;have LL8:Xp (ZP L L8):=ll8;have K8:Xp (zr hi w W8):=kp8;clear mk8 ll8 kp8 hI8 hI0 hF0 ht hx2 hx3 hne;have R8:Xp (zb Qw w0.heap.size W8 (O (Xa ⟨gt,0,Xb⟩) tn ct) T):=show zb _ _ _ _ _ by rw[<-HTE.out];exact M8.rows.tt
    refine zB (E:=Qw) rfl (.tmp 112) (.tmp 110) 55 rfl w0.heap.size _ T R8 gt p (n*3) rfl f (qr f n ⟨1,(k:Int),(xq == 1)⟩) HT (env ⟨1,(k:Int),(xq == 1)⟩) (by kernel_rfl) (jx f hn _) (by show n*3+3<=192;omega) (enE.one _) ⟨gt,p*192+n*3,Xb⟩ rfl rfl (Xi (env ⟨1,(k:Int),(xq == 1)⟩).toArray) rfl rfl ?_
    intro W9 ow9 gr9 sz9;rw[<-HTE.out]at ow9;have hM9:=M8.setT (by rw[HTE.out];rfl) gr9 sz9 ow9
    have M9:Xp (Mk w0 hi W9 b vl8 L8 V1 { m1 with fs:=m1.fs.set k { fr with r:=fr.r+1 } } vt (T.set p (qr f n ⟨1,(k:Int),(xq == 1)⟩))):=hM9.1;have K9:Xp (zr hi w W9):=K8.trans hM9.2;clear hM9 ow9 gr9 sz9;have HE:Xp (Ent w0 hi b w L m vt T p n f W9):=show Ent _ _ _ _ _ _ _ _ _ _ _ _ from⟨vl8,L8,_,_,_,M9,LL8,K9,HBF _ (by intro e;first | exact⟨rfl,rfl⟩ | cases e),⟨HSM.1,HSM.2.1,HSM.2.2.1,List.length_set.trans HSM.2.2.2⟩,.inr ⟨_,rfl⟩,fun h=>absurd h HLN⟩
    go_wp2
    (first | go_end0 | ((try simp only[Exit.inBlock,Exit.then]);refine bodyPost_ret (results_none rfl _ _ _) rfl ?_))
    first | exact HE.out | exact⟨⟨_,rfl⟩,HE⟩
 | false=>
  have hsh:=HC0.out rfl;subst hsh;have x3:=M1.box.box.c 3 rfl;obtain⟨sn,hsn⟩:=kB V.s.n;have HSL:Xp (m.sl.length=sn):=dD<|by rw[<-hsn];exact M1.rows.sl.n.symm
  (try simp only[Sli.x]at x3);rw[hsn]at x3;clear hsn;go_upto_region 12 with fail
  go_cut [113] (fun s113 wx=>∃c2:Bool,s113= Xh c2/\wx=W1/\Xp (c2=Xc->0<sn))
  case first=>
   by_cases h2:y=2
   ·have h2e:(y == 2)=Xc:=by simp[h2]
    clear h2;go_wp2
    go_meet
    exact⟨_,rfl,rfl,fun h=>by simpa using h⟩
   have h2e:(y == 2)=Xd:=by simp[h2]
   clear h2;go_wp2
   go_meet
   exact⟨Xd,rfl,rfl,fun h=>(by cases h)⟩
  obtain⟨c2,rfl,hwc,HC2⟩:=hcut;rw[hwc];clear hwc
  cases c2 with
  | true=>
   have hs0:=HC2.out rfl;have hpk2:=qA (sn:Int) M1.out;go_wp2_with fail;refine hpk2.mono ?_;clear hpk2;rintro e W2 ⟨vl2,L2,z,rfl,mk2,gr2,sz2,z0,z1,_,ll2⟩;obtain⟨k,rfl⟩:∃k:Nat,z=(k:Int):=⟨z.toNat,by omega⟩
   have hks:k<sn:=by rcases z1 with h | h <;> omega
   have hksz:(k:Int)< (sn:Int):=by omega
   have M2:Xp (Mk w0 hi W2 b vl2 L2 V m vt T):=mk2;have K2:=dD (K1.trans (M1.keeps gr2));have LL2:=dD (LL1.trans ll2);clear mk2 gr2 sz2 z0 z1 ll2 x3;obtain⟨g,cs',heq⟩:=M2.rows.sl.formS (by rw[HSL.out];omega)
   rw[HSL.out]at heq;have HEQ:Xp (V.s.x= O (Xa ⟨g,0,Xb⟩) sn cs'):=heq;have x3:=M2.box.box.c 3 rfl;(first|rw[HEQ.out]at x3|rw[show O _ _ _=_ from HEQ.out]at x3);have hrw:=M2.rows.sl;(first|rw[HEQ.out]at hrw|rw[show O _ _ _=_ from HEQ.out]at hrw);have HRW:Xp (zb slE w0.heap.size W2 (O (Xa ⟨g,0,Xb⟩) sn cs') m.sl):=hrw;obtain⟨zv,HZV⟩:∃zv,Xp (m.sl[k]? =Xa zv):=⟨_,gE (by rw[HSL.out];exact hks)⟩
   have hce:=hrw.one HZV.out;have d0:W2.cell? ⟨g,k,Xb⟩=Xa (I6 zv):=by
    have:=hce 0 _ rfl;rw[zX,Addr.add_lit,zA]at this
    simpa [slE,Nat.mul_one]using this
   clear hce hrw heq
   by_cases hz:zv=0
   ·have hze:(zv == 0)=Xc:=by simp[hz]
    have HZ0:Xp (m.sl[k]? =Xa 0):=dD<|by rw[HZV.out,hz]
    clear hz;have xf:=HRW.unfrozen rfl;go_upto_region 16 with fail;obtain⟨ow3,gr3,sz3⟩:=HRW.cell (k:=k) (o:=0) rfl HZV (y:=1) (u:=I6 1) rfl (by decide)
    obtain⟨W3,hW3⟩:=kB (W2.setCell ⟨g,k,Xb⟩ (I6 1));have e3:W2.setCell ⟨g,k*slE.k+0,Xb⟩ (I6 1)=W3:=by rw[<-hW3];simp[slE]
    rw[e3]at ow3 gr3 sz3;rw[hW3];rw[<-HEQ.out]at ow3;clear e3 hW3 xf;have hM3:=M2.setS (by rw[HEQ.out];rfl) gr3 sz3 ow3
    have M3:Xp (Mk w0 hi W3 b vl2 L2 V { m with sl:=m.sl.set k 1 } vt T):=hM3.1;have K3:Xp (zr hi w W3):=K2.trans hM3.2;clear hM3 ow3 gr3 sz3 x3 d0;have HSBL:Xp (m.sb.length=sn):=show _=_ by rw[HB.sbl,HSL.out]
    obtain⟨gb,cb,hbe⟩:∃gb cb,V.sb.x= O (Xa ⟨gb,0,Xb⟩) sn cb:=by
     have h1:=M3.rows.sb.1;have hl:({ m with sl:=m.sl.set k 1 }:Ma).sb.length=sn:=HSBL.out;rw[hl]at h1
     rcases h1.2 with⟨_,h2⟩|⟨gb,cap,cur,e1,_⟩
     ·omega
     exact⟨gb,cap,e1⟩
    have HBE:Xp (V.sb.x= O (Xa ⟨gb,0,Xb⟩) sn cb):=hbe;clear hbe;obtain⟨I,HI⟩:∃I:Xo->Prop,Xp (∀u,I u↔u.cell? ⟨b,4,Xb⟩=Xa (O (Xa ⟨gb,0,Xb⟩) sn cb)):=⟨fun u=>u.cell? ⟨b,4,Xb⟩=Xa (O (Xa ⟨gb,0,Xb⟩) sn cb),fun _=>Iff.rfl⟩
    have HIM:Xp (∀u vl' L' m',Mk w0 hi u b vl' L' V m' vt T->u.cell? ⟨b,4,Xb⟩=Xa (O (Xa ⟨gb,0,Xb⟩) sn cb)):=dD<|fun u vl' L' m' hm=>by
     have:=hm.box.box.c 4 rfl;(first|rw[HBE.out]at this|rw[show O _ _ _=_ from HBE.out]at this);exact this
    have hI0:I W3.drew:=(HI _).2 (HIM _ _ _ _ (M3.grew (gW _)))
    have hF0:MkE w0 hi b w L V { m with sl:=m.sl.set k 1 } vt T W3.drew:=⟨vl2,L2,M3.grew (gW _),LL2,K3.trans (zr.grew (gW _))⟩
    have ht:∀y:zj I,y.world.cell? ⟨b,4,Xb⟩=Xa (O (Xa ⟨gb,0,Xb⟩) sn cb):=fun y=>(HI _).1 y.holds
    have hne:Nonempty (zj I):=⟨⟨_,hI0⟩⟩;refine zG (I:=I) 10 [(8,fun v=>∃q:List Int,v= Xi (pgc q).toArray/\q.length=8)] (fun u=>MkE w0 hi b w L V { m with sl:=m.sl.set k 1 } vt T u) hI0 hF0 zW (by kernel_rfl) rfl rfl (by decide) ?hS (by kernel_rfl) ?_
    case hS=>
     intro x hx;simp only[mC,nM,or_false]at hx;subst hx;exact⟨_,zx,rfl,rfl⟩
    simp only[Ye,Yf];iterate 1 (refine zg rfl rfl rfl (fun K hK=>?_);go_big_quiet_op;refine hK _ ?_;clear hK)
    refine zI (.tmp 149) ⟨b,0,Xb⟩ rfl rfl rfl rfl ?_;simp only[Xt,sB,sS,sZ];iterate 6 (refine zg rfl rfl rfl (fun K hK=>?_);go_big_quiet_op;refine hK _ ?_;clear hK)
    refine zH rfl rfl (fun _ u=>MkE w0 hi b w L V { m with sl:=m.sl.set k 1 } vt T u) (fun w' hI' hF'=>?_) (fun v1 hv=>?_)
    ·obtain⟨vl',L',mk',ll',kp'⟩:=hF';refine zQ.call [Xj (Xa ⟨b,0,Xb⟩)] rfl func39 rfl rfl rfl ?_;refine(zbD mk').mono ?_;rintro e w'' ⟨vl3,L3,q,rfl,ql,mk3,gr3,ll3⟩;exact⟨_,rfl,(HI _).2 (HIM _ _ _ _ mk3),⟨q,rfl,ql⟩,vl3,L3,mk3,ll'.trans ll3,kp'.trans (mk'.keeps gr3)⟩
    obtain⟨q6,rfl,ql6⟩:=hv;have HQL:Xp (q6.length=8):=ql6;clear ql6;simp only[Xt,sB,sS,sZ];iterate 1 (refine zg rfl rfl rfl (fun K hK=>?_);go_big_quiet_op;refine hK _ ?_;clear hK)
    refine qj fun W6 hI6 hF6=>?_
    obtain⟨vl6,L6,mk6,ll6,kp6⟩:=hF6;have M6:Xp (Mk w0 hi W6 b vl6 L6 V { m with sl:=m.sl.set k 1 } vt T):=mk6;have LL6:Xp (ZP L L6):=ll6;have K6:Xp (zr hi w W6):=kp6;clear mk6 ll6 kp6 hI6 hI0 hF0 ht hne;have R6:Xp (zi w0.heap.size W6 (O (Xa ⟨gb,0,Xb⟩) sn cb) m.sb):=show zi _ _ _ _ by rw[<-HBE.out];exact M6.rows.sb
    refine jG rfl (.tmp 158) (.tmp 157) rfl w0.heap.size _ m.sb R6 gb k rfl (by rw[HSBL.out];exact hks) q6 HQL ⟨gb,k*8,Xb⟩ rfl rfl rfl ?_
    intro W7 ow7 gr7 sz7;rw[<-HBE.out]at ow7;have hM7:=M6.setSb (by rw[HBE.out];rfl) gr7 sz7 ow7
    have M7:Xp (Mk w0 hi W7 b vl6 L6 V { m with sl:=m.sl.set k 1,sb:=m.sb.set k q6 } vt T):=hM7.1;have K7:Xp (zr hi w W7):=K6.trans hM7.2;clear hM7 ow7 gr7 sz7;obtain⟨gt,ct,hte⟩:=M7.rows.tt.formS (by rw[HTL.out];omega)
    rw[HTL.out]at hte;have HTE:Xp (vt.x= O (Xa ⟨gt,0,Xb⟩) tn ct):=hte;have R7:Xp (zb Qw w0.heap.size W7 (O (Xa ⟨gt,0,Xb⟩) tn ct) T):=show zb _ _ _ _ _ by rw[<-HTE.out];exact M7.rows.tt
    have x12:=M7.box.box.c 12 rfl;(first|rw[HTE.out]at x12|rw[show O _ _ _=_ from HTE.out]at x12);have hptz:(p:Int)< (tn:Int):=by omega
    have hnz:(n:Int)<64:=by omega
    clear hte
    go_wp2_with (refine zB (E:=Qw) rfl (.tmp 168) (.tmp 166) 55 rfl w0.heap.size _ T R7 gt p (n*3) rfl f (qr f n ⟨2,(k:Int),Xd⟩) HT (env ⟨2,(k:Int),Xd⟩) (by kernel_rfl) (jx f hn _) (by show n*3+3<=192;omega) (enE.one _) ⟨gt,p*192+n*3,Xb⟩ rfl rfl (Xi (env ⟨2,(k:Int),Xd⟩).toArray) rfl rfl ?_)
    intro W9 ow9 gr9 sz9;rw[<-HTE.out]at ow9;have hM9:=M7.setT (by rw[HTE.out];rfl) gr9 sz9 ow9
    have M9:Xp (Mk w0 hi W9 b vl6 L6 V { m with sl:=m.sl.set k 1,sb:=m.sb.set k q6 } vt (T.set p (qr f n ⟨2,(k:Int),Xd⟩))):=hM9.1;have K9:Xp (zr hi w W9):=K7.trans hM9.2;have HBF:Xp (qV { m with sl:=m.sl.set k 1,sb:=m.sb.set k q6 } (T.set p (qr f n ⟨2,(k:Int),Xd⟩))):=HB.swap HZ0 HS HT hn H0 HIS HSE.1;clear hM9 ow9 gr9 sz9 x12;have HE:Xp (Ent w0 hi b w L m vt T p n f W9):=show Ent _ _ _ _ _ _ _ _ _ _ _ _ from⟨vl6,L6,_,_,_,M9,LL6,K9,HBF,⟨rfl,rfl,rfl,rfl⟩,.inr ⟨_,rfl⟩,fun h=>absurd h HLN⟩
    go_wp2
    (first | go_end0 | ((try simp only[Exit.inBlock,Exit.then]);refine bodyPost_ret (results_none rfl _ _ _) rfl ?_))
    first | exact HE.out | exact⟨⟨_,rfl⟩,HE⟩
   have hze:(zv == 0)=Xd:=by simp[hz]
   clear hz;have HE:Xp (Ent w0 hi b w L m vt T p n f W2):=dD<|Ent.same p n f HB ⟨vl2,L2,M2,LL2,K2⟩
   go_wp2
   (first | go_end0 | ((try simp only[Exit.inBlock,Exit.then]);refine bodyPost_ret (results_none rfl _ _ _) rfl ?_))
   first | exact HE.out | exact⟨⟨_,rfl⟩,HE⟩
  | false=>
   go_upto_region 2 with fail;clear x3;have hpg2:=zbD M1.out;go_wp2_with fail;refine hpg2.mono ?_;clear hpg2;rintro e W5 ⟨vl5,L5,q5,rfl,ql5,mk5,gr5,ll5⟩;obtain⟨p0,p1,p2,p3,p4,p5,p6,p7,rfl⟩:=zdZ q5 ql5;simp only[pgc,mP,Xz];have M5:Xp (Mk w0 hi W5 b vl5 L5 V m vt T):=mk5;have K5:=dD (K1.trans (M1.keeps gr5));have X5:Xp (zt W5 px 67 [Xh Xc,Xh xrd,Xh xwr,Xh Xd,I6 xfi,I6 xpg]):=(M1.keeps gr5).1 _ _ _ X1 QH;have LL5:=dD (LL1.trans ll5);clear ql5 mk5 gr5 ll5;have hpk2:=qA 2 M5.out;go_wp2_with fail;refine hpk2.mono ?_;clear hpk2;rintro e W6 ⟨vl6,L6,z,rfl,mk6,gr6,_,_,_,_,ll6⟩;have M6:Xp (Mk w0 hi W6 b vl6 L6 V m vt T):=mk6;have K6:=dD (K5.trans (M5.keeps gr6));have X6:Xp (zt W6 px 67 [Xh Xc,Xh xrd,Xh xwr,Xh Xd,I6 xfi,I6 xpg]):=(M5.keeps gr6).1 _ _ _ X5 QH;have LL6:=dD (LL5.trans ll6);clear mk6 gr6 ll6;have hfm:=zfq ⟨⟨p0,p1,p2,p3,p4,p5,p6,p7⟩,1,z == 1,Xd,-1,0⟩ M6 ⟨fun _=>rfl,fun _ e=>absurd rfl e⟩
   go_wp2_with fail;refine hfm.mono ?_;clear hfm;rintro e W7 (⟨rfl,hE⟩|⟨k,q,rfl,hq,hr,vl7,L7,mk7,ll7,kp7⟩)
   ·have HEE:Xp (MkE w0 hi b w L V m vt T W7):=hE.trans LL6 K6.out;clear hE;have HE:Xp (Ent w0 hi b w L m vt T p n f W7):=show Ent _ _ _ _ _ _ _ _ _ _ _ _ from Ent.same p n f HB HEE.out
    go_wp2
    (first | go_end0 | ((try simp only[Exit.inBlock,Exit.then]);refine bodyPost_ret (results_none rfl _ _ _) rfl ?_))
    first | exact HE.out | exact⟨⟨_,rfl⟩,HE⟩
   have HQ:Xp (m.fs[k]? =Xa q):=hq;have HR0:Xp (q.r=0):=hr;have M7:Xp (Mk w0 hi W7 b vl7 L7 V { m with fs:=m.fs.set k ⟨⟨p0,p1,p2,p3,p4,p5,p6,p7⟩,1,z == 1,Xd,-1,0⟩ } vt T):=mk7;have K7:=dD (K6.trans kp7);have X7:Xp (zt W7 px 67 [Xh Xc,Xh xrd,Xh xwr,Xh Xd,I6 xfi,I6 xpg]):=kp7.1 _ _ _ X6 QH;have LL7:=dD (LL6.trans ll7);clear hq hr mk7 ll7 kp7;have hk0:(0:Int)<=(k:Int):=by omega
   have hkd:decide ((0:Int)<=(k:Int))=Xc:=by simp
   have HBF:Xp (∀wf:Bool,(wf=Xc->xwr=Xc)->qV { m with fs:=m.fs.set k ⟨⟨p0,p1,p2,p3,p4,p5,p6,p7⟩,1,z == 1,Xd,-1,0⟩ } (T.set p (qr f n ⟨1,(k:Int),wf⟩))):=dD<|fun wf hwf=>HB.mine HQ HR0 HS HT hn H0 HIS HSE.1 (fun e=>by rw[HWR.out];exact hwf e)
   go_upto_region 4 with fail
   cases xwr with
   | false=>
    obtain⟨gt,ct,hte⟩:=M7.rows.tt.formS (by rw[HTL.out];omega)
    rw[HTL.out]at hte;have HTE:Xp (vt.x= O (Xa ⟨gt,0,Xb⟩) tn ct):=hte;clear hte;obtain⟨I,HI⟩:∃I:Xo->Prop,Xp (∀u,I u↔u.cell? ⟨b,12,Xb⟩=Xa (O (Xa ⟨gt,0,Xb⟩) tn ct)/\zt u px 67 [Xh Xc,Xh xrd,Xh Xd,Xh Xd,I6 xfi,I6 xpg]):=⟨fun u=>u.cell? ⟨b,12,Xb⟩=Xa (O (Xa ⟨gt,0,Xb⟩) tn ct)/\zt u px 67 [Xh Xc,Xh xrd,Xh Xd,Xh Xd,I6 xfi,I6 xpg],fun _=>Iff.rfl⟩
    have HIM:Xp (∀u vl' L' V' m',Mk w0 hi u b vl' L' V' m' vt T->u.cell? ⟨b,12,Xb⟩=Xa (O (Xa ⟨gt,0,Xb⟩) tn ct)):=dD<|fun u vl' L' V' m' hm=>by
     have:=hm.box.box.c 12 rfl;(first|rw[HTE.out]at this|rw[show O _ _ _=_ from HTE.out]at this);exact this
    have hI0:I W7.drew:=(HI _).2 ⟨HIM _ _ _ _ _ (M7.grew (gW _)),X7.grew (gW _)⟩
    have hF0:MkE w0 hi b w L V { m with fs:=m.fs.set k ⟨⟨p0,p1,p2,p3,p4,p5,p6,p7⟩,1,z == 1,Xd,-1,0⟩ } vt T W7.drew:=⟨vl7,L7,M7.grew (gW _),LL7,K7.trans (zr.grew (gW _))⟩
    have ht:∀y:zj I,y.world.cell? ⟨b,12,Xb⟩=Xa (O (Xa ⟨gt,0,Xb⟩) tn ct):=fun y=>((HI _).1 y.holds).1
    have hx2:∀y:zj I,y.world.cell? ⟨px,2,Xb⟩=Xa (Xh Xd):=fun y=>((HI _).1 y.holds).2.box.c 2 rfl
    have hx3:∀y:zj I,y.world.cell? ⟨px,3,Xb⟩=Xa (Xh Xd):=fun y=>((HI _).1 y.holds).2.box.c 3 rfl
    have hne:Nonempty (zj I):=⟨⟨_,hI0⟩⟩;have hptz:(p:Int)< (tn:Int):=by omega
    have hnz:(n:Int)<64:=by omega
    refine zG (I:=I) 17 [(11,fun v=>∃x:Int,v=I6 x)] (fun u=>MkE w0 hi b w L V { m with fs:=m.fs.set k ⟨⟨p0,p1,p2,p3,p4,p5,p6,p7⟩,1,z == 1,Xd,-1,0⟩ } vt T u) hI0 hF0 zW (by kernel_rfl) rfl rfl (by decide) ?hS (by kernel_rfl) ?_
    case hS=>
     intro x hx;simp only[mC,nM,or_false]at hx;subst hx;exact⟨_,0,rfl⟩
    simp only[Ye,Yf];iterate 1 (refine zg rfl rfl rfl (fun K hK=>?_);go_big_quiet_op;refine hK _ ?_;clear hK)
    refine zI (.tmp 24) ⟨b,0,Xb⟩ rfl rfl rfl rfl ?_;simp only[Xt,sB,sS,sZ];iterate 8 (refine zg rfl rfl rfl (fun K hK=>?_);go_big_quiet_op;refine hK _ ?_;clear hK)
    refine jD ?_ ?_
    ·kernel_rfl
    simp only[Xt,sB,sS,sZ];refine jD ?_ ?_
    ·kernel_rfl
    simp only[Xt,sB,sS,sZ];refine jD ?_ ?_
    ·kernel_rfl
    simp only[Xt,sB,sS,sZ];iterate 4 (refine zg rfl rfl rfl (fun K hK=>?_);go_big_quiet_op;refine hK _ ?_;clear hK)
    refine qj fun W8 hI8 hF8=>?_
    obtain⟨vl8,L8,mk8,ll8,kp8⟩:=hF8;have M8:Xp (Mk w0 hi W8 b vl8 L8 V { m with fs:=m.fs.set k ⟨⟨p0,p1,p2,p3,p4,p5,p6,p7⟩,1,z == 1,Xd,-1,0⟩ } vt T):=mk8;have LL8:Xp (ZP L L8):=ll8;have K8:Xp (zr hi w W8):=kp8;clear mk8 ll8 kp8 hI8 hI0 hF0 ht hx2 hx3 hne;have R8:Xp (zb Qw w0.heap.size W8 (O (Xa ⟨gt,0,Xb⟩) tn ct) T):=show zb _ _ _ _ _ by rw[<-HTE.out];exact M8.rows.tt
    refine zB (E:=Qw) rfl (.tmp 40) (.tmp 38) 55 rfl w0.heap.size _ T R8 gt p (n*3) rfl f (qr f n ⟨1,(k:Int),Xd⟩) HT (env ⟨1,(k:Int),Xd⟩) (by kernel_rfl) (jx f hn _) (by show n*3+3<=192;omega) (enE.one _) ⟨gt,p*192+n*3,Xb⟩ rfl rfl (Xi (env ⟨1,(k:Int),Xd⟩).toArray) rfl rfl ?_
    intro W9 ow9 gr9 sz9;rw[<-HTE.out]at ow9;have hM9:=M8.setT (by rw[HTE.out];rfl) gr9 sz9 ow9
    have M9:Xp (Mk w0 hi W9 b vl8 L8 V { m with fs:=m.fs.set k ⟨⟨p0,p1,p2,p3,p4,p5,p6,p7⟩,1,z == 1,Xd,-1,0⟩ } vt (T.set p (qr f n ⟨1,(k:Int),Xd⟩))):=hM9.1;have K9:Xp (zr hi w W9):=K8.trans hM9.2;clear hM9 ow9 gr9 sz9;have HE:Xp (Ent w0 hi b w L m vt T p n f W9):=show Ent _ _ _ _ _ _ _ _ _ _ _ _ from⟨vl8,L8,_,_,_,M9,LL8,K9,HBF _ (by intro e;first | rfl | cases e),⟨rfl,rfl,rfl,Xv⟩,.inr ⟨_,rfl⟩,fun h=>absurd h HLN⟩
    go_wp2
    (first | go_end0 | ((try simp only[Exit.inBlock,Exit.then]);refine bodyPost_ret (results_none rfl _ _ _) rfl ?_))
    first | exact HE.out | exact⟨⟨_,rfl⟩,HE⟩
   | true=>
    obtain⟨gt,ct,hte⟩:=M7.rows.tt.formS (by rw[HTL.out];omega)
    rw[HTL.out]at hte;have HTE:Xp (vt.x= O (Xa ⟨gt,0,Xb⟩) tn ct):=hte;clear hte;obtain⟨I,HI⟩:∃I:Xo->Prop,Xp (∀u,I u↔u.cell? ⟨b,12,Xb⟩=Xa (O (Xa ⟨gt,0,Xb⟩) tn ct)/\zt u px 67 [Xh Xc,Xh xrd,Xh Xc,Xh Xd,I6 xfi,I6 xpg]):=⟨fun u=>u.cell? ⟨b,12,Xb⟩=Xa (O (Xa ⟨gt,0,Xb⟩) tn ct)/\zt u px 67 [Xh Xc,Xh xrd,Xh Xc,Xh Xd,I6 xfi,I6 xpg],fun _=>Iff.rfl⟩
    have HIM:Xp (∀u vl' L' V' m',Mk w0 hi u b vl' L' V' m' vt T->u.cell? ⟨b,12,Xb⟩=Xa (O (Xa ⟨gt,0,Xb⟩) tn ct)):=dD<|fun u vl' L' V' m' hm=>by
     have:=hm.box.box.c 12 rfl;(first|rw[HTE.out]at this|rw[show O _ _ _=_ from HTE.out]at this);exact this
    have hI0:I W7.drew:=(HI _).2 ⟨HIM _ _ _ _ _ (M7.grew (gW _)),X7.grew (gW _)⟩
    have hF0:MkE w0 hi b w L V { m with fs:=m.fs.set k ⟨⟨p0,p1,p2,p3,p4,p5,p6,p7⟩,1,z == 1,Xd,-1,0⟩ } vt T W7.drew:=⟨vl7,L7,M7.grew (gW _),LL7,K7.trans (zr.grew (gW _))⟩
    have ht:∀y:zj I,y.world.cell? ⟨b,12,Xb⟩=Xa (O (Xa ⟨gt,0,Xb⟩) tn ct):=fun y=>((HI _).1 y.holds).1
    have hx2:∀y:zj I,y.world.cell? ⟨px,2,Xb⟩=Xa (Xh Xc):=fun y=>((HI _).1 y.holds).2.box.c 2 rfl
    have hx3:∀y:zj I,y.world.cell? ⟨px,3,Xb⟩=Xa (Xh Xd):=fun y=>((HI _).1 y.holds).2.box.c 3 rfl
    have hne:Nonempty (zj I):=⟨⟨_,hI0⟩⟩;have hptz:(p:Int)< (tn:Int):=by omega
    have hnz:(n:Int)<64:=by omega
    refine zG (I:=I) 17 [(11,fun v=>∃x:Int,v=I6 x)] (fun u=>MkE w0 hi b w L V { m with fs:=m.fs.set k ⟨⟨p0,p1,p2,p3,p4,p5,p6,p7⟩,1,z == 1,Xd,-1,0⟩ } vt T u) hI0 hF0 zW (by kernel_rfl) rfl rfl (by decide) ?hS (by kernel_rfl) ?_
    case hS=>
     intro x hx;simp only[mC,nM,or_false]at hx;subst hx;exact⟨_,0,rfl⟩
    simp only[Ye,Yf];iterate 1 (refine zg rfl rfl rfl (fun K hK=>?_);go_big_quiet_op;refine hK _ ?_;clear hK)
    refine zI (.tmp 24) ⟨b,0,Xb⟩ rfl rfl rfl rfl ?_;simp only[Xt,sB,sS,sZ];iterate 8 (refine zg rfl rfl rfl (fun K hK=>?_);go_big_quiet_op;refine hK _ ?_;clear hK)
    iterate 1 (refine zg rfl rfl rfl (fun K hK=>?_);go_big_quiet_op;refine hK _ ?_;clear hK)
    refine zH rfl rfl (fun _ u=>MkE w0 hi b w L V { m with fs:=m.fs.set k ⟨⟨p0,p1,p2,p3,p4,p5,p6,p7⟩,1,z == 1,Xd,-1,0⟩ } vt T u) (fun w' hI' hF'=>?_) (fun v1 hv=>?_)
    ·obtain⟨vl',L',mk',ll',kp'⟩:=hF';refine zQ.call [Xj (Xa ⟨b,0,Xb⟩),I6 2] rfl func36 rfl rfl rfl ?_;refine(qA 2 mk').mono ?_;rintro e w'' ⟨vl2,L2,x,rfl,mk2,gr2,_,_,_,_,ll2⟩;exact⟨_,rfl,(HI _).2 ⟨HIM _ _ _ _ _ mk2,(mk'.keeps gr2).1 _ _ _ ((HI _).1 hI').2 QH⟩,⟨x,rfl⟩,vl2,L2,mk2,ll'.trans ll2,kp'.trans (mk'.keeps gr2)⟩
    obtain⟨xq,rfl⟩:=hv;simp only[Xt,sB,sS,sZ];iterate 5 (refine zg rfl rfl rfl (fun K hK=>?_);go_big_quiet_op;refine hK _ ?_;clear hK)
    refine qj fun W8 hI8 hF8=>?_
    obtain⟨vl8,L8,mk8,ll8,kp8⟩:=hF8;have M8:Xp (Mk w0 hi W8 b vl8 L8 V { m with fs:=m.fs.set k ⟨⟨p0,p1,p2,p3,p4,p5,p6,p7⟩,1,z == 1,Xd,-1,0⟩ } vt T):=mk8;have LL8:Xp (ZP L L8):=ll8;have K8:Xp (zr hi w W8):=kp8;clear mk8 ll8 kp8 hI8 hI0 hF0 ht hx2 hx3 hne;have R8:Xp (zb Qw w0.heap.size W8 (O (Xa ⟨gt,0,Xb⟩) tn ct) T):=show zb _ _ _ _ _ by rw[<-HTE.out];exact M8.rows.tt
    refine zB (E:=Qw) rfl (.tmp 40) (.tmp 38) 55 rfl w0.heap.size _ T R8 gt p (n*3) rfl f (qr f n ⟨1,(k:Int),(xq == 1)⟩) HT (env ⟨1,(k:Int),(xq == 1)⟩) (by kernel_rfl) (jx f hn _) (by show n*3+3<=192;omega) (enE.one _) ⟨gt,p*192+n*3,Xb⟩ rfl rfl (Xi (env ⟨1,(k:Int),(xq == 1)⟩).toArray) rfl rfl ?_
    intro W9 ow9 gr9 sz9;rw[<-HTE.out]at ow9;have hM9:=M8.setT (by rw[HTE.out];rfl) gr9 sz9 ow9
    have M9:Xp (Mk w0 hi W9 b vl8 L8 V { m with fs:=m.fs.set k ⟨⟨p0,p1,p2,p3,p4,p5,p6,p7⟩,1,z == 1,Xd,-1,0⟩ } vt (T.set p (qr f n ⟨1,(k:Int),(xq == 1)⟩))):=hM9.1;have K9:Xp (zr hi w W9):=K8.trans hM9.2;clear hM9 ow9 gr9 sz9;have HE:Xp (Ent w0 hi b w L m vt T p n f W9):=show Ent _ _ _ _ _ _ _ _ _ _ _ _ from⟨vl8,L8,_,_,_,M9,LL8,K9,HBF _ (by intro e;first | rfl | cases e),⟨rfl,rfl,rfl,Xv⟩,.inr ⟨_,rfl⟩,fun h=>absurd h HLN⟩
    go_wp2
    (first | go_end0 | ((try simp only[Exit.inBlock,Exit.then]);refine bodyPost_ret (results_none rfl _ _ _) rfl ?_))
    first | exact HE.out | exact⟨⟨_,rfl⟩,HE⟩
end
section
def zmD (m:Ma) (x:On) (e:En):List Int × Bool × Int:=
 if x.is=Xd then(zx,Xd,5)
 else if e.kind=1 then(pgL (z8 m e.n).p,decide ((z8 m e.n).f<0),0)
 else if e.kind=2 then(jt m.sb m.sq e.n,Xc,0)
 else if x.file<0 then(zx,Xd,0)
 else if bkN m x.file<=x.page then(zx,Xd,9)
 else(jX m x.file x.page,Xd,0)
def yn (b:Bool):Int:=if b=Xc then 121 else 110
theorem zll {x:On} {e e':En} (hk:e'.kind=e.kind) (hn:e'.n=e.n) (h1:e.kind=1->(z8 m' e.n).p=(z8 m e.n).p/\((z8 m' e.n).f<0↔(z8 m e.n).f<0)) (h2:e.kind=2->jt m'.sb m'.sq e.n=jt m.sb m.sq e.n)
  (hb:∀file,bkN m' file=bkN m file) (hc:∀file idx,jX m' file idx=jX m file idx):zmD m' x e'=zmD m x e:=by
 unfold zmD;rw[hk,hn,hb,hc]
 by_cases h0:x.is=Xd
 ·rw[kE h0,kE h0]
 rw[kF h0,kF h0]
 by_cases e1:e.kind=1
 ·rw[kE e1,kE e1,(h1 e1).1,decide_eq_decide.2 (h1 e1).2]
 rw[kF e1,kF e1]
 by_cases e2:e.kind=2
 ·rw[kE e2,kE e2,h2 e2]
 rw[kF e2,kF e2]
theorem zkM (hca:m'.ca=m.ca) (hfl:m'.fl=m.fl) (hdb:m'.db=m.db) (hdq:m'.dq=m.dq) (hfr:∀c∈m.ca,(z8 m' c.fr).p=(z8 m c.fr).p) (file idx:Int):jX m' file idx=jX m file idx:=by
 unfold jX;rw[hca]
 cases hq:m.ca.find? (zc1 file idx)with
 | some c=>
  simp only;rw[hfr c (Yh hq)]
 | none=>
  simp only;unfold zfS zcR;rw[hfl,hdb,hdq]
section
variable{m:Ma} {T:List (Nat->En)}
theorem qV.marks (h:qV m T) {k:Nat} {fr:Fr} {p:Pg} {u d:Bool} (hk:m.fs[k]? =Xa fr) (hr:fr.r≠0):qV { m with fs:=m.fs.set k { fr with p:=p,u:=u,d:=d } } T:=by
 have hkl:=(gS.1 hk).1;have hsh:=h.fok fr (mG hk);have hfa:∀z:Int,0<=z->(z8 { m with fs:=m.fs.set k { fr with p:=p,u:=u,d:=d } } z).f=(z8 m z).f/\(z8 { m with fs:=m.fs.set k { fr with p:=p,u:=u,d:=d } } z).x=(z8 m z).x/\(z8 { m with fs:=m.fs.set k { fr with p:=p,u:=u,d:=d } } z).r=(z8 m z).r:=fun z hz=>by
  rw[jw hkl z hz]
  by_cases e:z=(k:Int)
  ·subst e;rw[kE rfl,jL hk];exact⟨rfl,rfl,rfl⟩
  rw[kF e];exact⟨rfl,rfl,rfl⟩
 refine⟨by simpa using h.fs40,fun g hg=>?_,h.sl60,h.sbl,h.sq,h.dok,h.st,h.cnt,h.blk,h.que,h.spl,h.spok,h.tl,?_,fun q s g hs hg j hj=>?_,fun j g hj=>?_,h.cs⟩
 ·rcases List.mem_or_eq_of_mem_set hg with hg|rfl
  ·exact h.fok g hg
  obtain⟨c1,c2,c3,c4,c5⟩:=hsh;exact⟨c1,c2,c3,fun h=>absurd h hr,c5⟩
 ·obtain⟨a1,a2,a3⟩:=zL.1 h.ca;refine zL.2 ⟨fun c hc=>?_,fun q c hq=>(by cases hq),a3⟩
  obtain⟨b1,b2,b3,b4⟩:=QX (a1 c hc);obtain⟨e1,e2,e3⟩:=hfa c.fr b1.2.2.2.2.1;exact zbj (by simpa [bkN]using b1) (by rw[e3];exact b2) (by rw[e1];exact b3) (by rw[e2];exact b4)
 ·rcases h.ent q s g hs hg j hj with e|e
  ·exact .inl e
  refine .inr ⟨e.1,e.2.1,Zm e.2.2 rfl (by simp) fun hk2=>?_⟩
  obtain⟨c1,c2,c3,c4⟩:=qo e hk2;obtain⟨e1,e2,e3⟩:=hfa (g j).n c2;exact⟨e1,e2,by rw[e3];exact c4⟩
 by_cases e:j=k
 ·subst e;simp only at hj;rw[sF hkl]at hj;cases hj;exact h.cf j fr hk
 simp only at hj;rw[sN (fun h=>e h.symm)]at hj
 exact h.cf j g hj
end
def zn8 (g:Nat->Nat):Nat->Nat
 | 0=>0
 | n+1=>zn8 g n+g n
def j7 (l:List Ar):Nat->Nat
 | 0=>0
 | n+1=>j7 l n+(zO l n).is.toNat
theorem zhK {a:Ar} (h:(zad l a).2=0):j7 (zad l a).1 64<=j7 l 64+(a.tz - a.fr).toNat:=by
 obtain⟨h1,h2,h3,h4,h5⟩:=zgv h;have ha:=ZD.1 h2;have hg:=zav (jY.1 h1).2 ha;unfold jA at ha;have key:∀n:Nat,n<=64->j7 (zad l a).1 n<=j7 l n+(min (n:Int) a.tz - min (n:Int) a.fr).toNat:=by
  intro n
  induction n with
  | zero=>intro _;simp[j7]
  | succ n ih=>
   intro hn;have ih':=ih (by omega)
   unfold j7;have e:(zO (zad l a).1 n).is=(zfY l a n).is:=by rw[h5,zd5 hg (by omega)]
   rw[e];unfold zfY
   by_cases hin:Zf a n=Xc
   ·have:=qd.1 hin;rw[kE hin,zhk];simp only[Bool.toNat_true];omega
   have hin':¬(a.fr<=(n:Int)/\(n:Int)<a.tz):=fun h=>hin (qd.2 h)
   rw[kF hin];omega
 have:=key 64 (nR _);omega
end
section
open Go.RowKit
section
variable{base hi S0:Nat} {w w':Xo} {V:MaV} {m:Ma} {vt:Sli} {T:List (Nat->En)}
def SpB (base S0:Nat) (w:Xo) (V:MaV) (m:Ma):Prop:=∃xs:List SpV,zb Zh base w (V.sp.x) xs/\xs.length=m.sp.length/\∀(i:Nat) x s,xs[i]? =Xa x->m.sp[i]? =Xa s->(x.live=s.live/\zb arE base w x.ar.v s.ars/\x.tab=Qf/\s.tb=qL)/\∀g,x.ar.v.ownBlock=Xa g->g<S0
theorem MkR.spB (h:MkR base hi w V m vt T):SpB base w.heap.size w V m:=by
 obtain⟨xs,h1,h2,h3⟩:=h.sp;exact⟨xs,h1,h2,fun i x s hx hs=>⟨h3 i x s hx hs,fun g hg=>((h3 i x s hx hs).2.1.lt g hg).2⟩⟩
theorem SpB.grew (h:SpB base S0 w V m) (k:zc w w'):SpB base S0 w' V m:=by
 obtain⟨xs,h1,h2,h3⟩:=h;refine⟨xs,h1.grew k,h2,fun i x s hx hs=>?_⟩
 obtain⟨⟨a1,a2,a3⟩,a4⟩:=h3 i x s hx hs;exact⟨⟨a1,a2.grew k,a3⟩,a4⟩
theorem SpB.kind (h:SpB base S0 w V m) {g:Nat} {cs:Array Xr} (hg:w.grownBy w' (Xa g)) (ho:w.heap[g]? =Xa (Xk cs t (0,0))) (h1:t≠63) (h2:t≠91\/S0<=g):SpB base S0 w' V m:=by
 obtain⟨xs,k1,k2,k3⟩:=h;refine⟨xs,k1.kind hg ho h1,k2,fun i x s hx hs=>?_⟩
 obtain⟨⟨a1,a2,a3⟩,a4⟩:=k3 i x s hx hs;refine⟨⟨a1,?_,a3⟩,a4⟩
 rcases h2 with h2|h2
 ·exact a2.kind hg ho h2
 exact a2.grown hg fun k hk e=>by cases e;have:=a4 _ hk;omega
theorem MkR.area (h:MkR base hi w V m vt T) (hs:SpB base S0 w V m) {g:Nat} {cs:Array Xr} (hg:w.grownBy w' (Xa g)) (ho:w.heap[g]? =Xa (Xk cs 91 (0,0))) (hb:S0<=g):MkR base hi w' V m vt T:=by
 obtain⟨k1,k2,k3,k4,k5,k6,k7,k8,k9⟩:=h.kept hg ho;obtain⟨xs,q1,q2,q3⟩:=hs.kind hg ho (by decide) (.inr hb)
 exact⟨nT h.hw hg.size,h.bh,k1 (by decide),k2 (.inl (by decide)),h.slh,k3 (.inl (by decide)),h.sbh,h.sq,k4 (.inl (by decide)),h.dbh,k5 (by decide),k6 (by decide) (.inl (by decide)),k7 (by decide),⟨xs,q1,q2,fun i x s hx hs=>(q3 i x s hx hs).1⟩,k9 (by decide),h.ap⟩
theorem qt (h:w.grownBy w' Xb):zc w w':=zU (zc.refl _) h (fun g e=>by cases e)
theorem MkR.addSp {ys:List SpV} (h:MkR base hi w V m vt T) (s1:zb Zh base w (V.sp.x) ys) (s2:ys.length=m.sp.length) (s3:∀(i:Nat) x s,ys[i]? =Xa x->m.sp[i]? =Xa s->x.live=s.live/\zb arE base w x.ar.v s.ars/\x.tab=Qf/\s.tb=qL)
  (hg:w.grownBy w' (V.sp.x).ownBlock) (s xa:Sli) {l:List Ar} (hl:zb arE base w xa.v l) (ho:zb Zh base w' (s.x) (ys++ [⟨Xc,xa,zy,zy,zy,zy,zy,zy,zy,zy⟩])):MkR base hi w' { V with sp:=s } { m with sp:=m.sp++ [⟨Xc,l,qL⟩] } vt T:=by
 have fin:(∀{x:SpV} {q:Sp},zb arE base w x.ar.v q.ars->zb arE base w' x.ar.v q.ars)->zb arE base w' xa.v l->∃xs:List SpV,zb Zh base w' (s.x) xs/\xs.length=(m.sp++ [(⟨Xc,l,qL⟩:Sp)]).length/\∀(i:Nat) x q,xs[i]? =Xa x->(m.sp++ [(⟨Xc,l,qL⟩:Sp)])[i]? =Xa q->x.live=q.live/\zb arE base w' x.ar.v q.ars/\x.tab=Qf/\q.tb=qL:=fun k1 k2=>by
  refine⟨_,ho,by simp[s2],fun i x q hx hq=>?_⟩
  rcases Nat.lt_or_ge i ys.length with hi|hi
  ·rw[Yd hi]at hx;rw[Yd (by omega)]at hq
   obtain⟨a1,a2,a3,a4⟩:=s3 i x q hx hq;exact⟨a1,k1 a2,a3,a4⟩
  rw[aR hi]at hx;rw[aR (by omega),<-s2]at hq
  have hi0:i - ys.length=0:=by
   have:=(gS.1 hx).1
   simp at this
   omega
  rw[hi0]at hx hq;cases hx;cases hq;exact⟨rfl,k2,rfl,rfl⟩
 cases hob:(V.sp.x).ownBlock with
 | none=>
  rw[hob]at hg;have k:=qt hg;have h':=h.grew k;exact⟨h'.hw,h'.bh,h'.fs,h'.sl,h'.slh,h'.sb,h'.sbh,h'.sq,h'.db,h'.dbh,h'.dq,h'.fl,h'.ca,fin (fun h=>h.grew k) (hl.grew k),h'.tt,h'.ap⟩
 | some g=>
  rw[hob]at hg;obtain⟨cs,hc⟩:=s1.obj hob;obtain⟨k1,k2,k3,k4,k5,k6,k7,k8,k9⟩:=h.kept hg hc;exact⟨nT h.hw hg.size,h.bh,k1 (by decide),k2 (.inl (by decide)),h.slh,k3 (.inl (by decide)),h.sbh,h.sq,k4 (.inl (by decide)),h.dbh,k5 (by decide),k6 (by decide) (.inl (by decide)),k7 (by decide),fin (fun h=>h.kind hg hc (by decide)) (hl.kind hg hc (by decide)),k9 (by decide),h.ap⟩
theorem MkR.addT (h:MkR base hi w V m vt T) (hg:w.grownBy w' (vt.x).ownBlock) (s:Sli) {f:Nat->En} (ho:zb Qw base w' (s.x) (T++ [f])):MkR base hi w' V m s (T++ [f]):=by
 cases hob:(vt.x).ownBlock with
 | none=>
  rw[hob]at hg;have h':=h.grew (qt hg);exact⟨h'.hw,h'.bh,h'.fs,h'.sl,h'.slh,h'.sb,h'.sbh,h'.sq,h'.db,h'.dbh,h'.dq,h'.fl,h'.ca,h'.sp,ho,h'.ap⟩
 | some g=>
  rw[hob]at hg;obtain⟨cs,hc⟩:=h.tt.obj hob;obtain⟨k1,k2,k3,k4,k5,k6,k7,k8,k9⟩:=h.kept hg hc;exact⟨nT h.hw hg.size,h.bh,k1 (by decide),k2 (.inl (by decide)),h.slh,k3 (.inl (by decide)),h.sbh,h.sq,k4 (.inl (by decide)),h.dbh,k5 (by decide),k6 (by decide) (.inl (by decide)),k7 (by decide),k8 (by decide) (by decide),ho,h.ap⟩
theorem zr.row {α:Type} {E:Elt α} {v:Xr} {l:List α} (h:zb E base w v l) (hg:w.grownBy w' v.ownBlock) (hn:∀p,¬Loc hi p E.ty):zr hi w w':=by
 cases hob:v.ownBlock with
 | none=>
  rw[hob]at hg;exact zr.grew (qt hg)
 | some g=>
  rw[hob]at hg;obtain⟨cs,hc⟩:=h.obj hob;exact zr.kind hg hc (fun p hl=>absurd hl (hn p))
theorem zt.row {α:Type} {E:Elt α} {v:Xr} {l:List α} {cs:List Xr} (h:zb E base w v l) (hg:w.grownBy w' v.ownBlock) (hb:zt w b t cs) (ht:t≠E.ty):zt w' b t cs:=hb.beside hg fun g e=>h.ne hb ht g e
theorem zc.row {α:Type} {E:Elt α} {v:Xr} {l:List α} (h:zb E w0.heap.size w v l) (hg:w.grownBy w' v.ownBlock) (h0:zc w0 w):zc w0 w':=zU h0 hg fun g e=>(h.lt g e).1
end
section
variable{w0 w w':Xo} {hi b S0:Nat} {vl:Sli} {L:List Int} {V:MaV} {m:Ma} {vt:Sli} {T:List (Nat->En)}
theorem Mk.area (h:Mk w0 hi w b vl L V m vt T) (hs:SpB w0.heap.size S0 w V m) {g:Nat} {cs:List Xr} (hg:w.grownBy w' (Xa g)) (ho:zt w g 91 cs) (hb:S0<=g) (hb2:w0.heap.size<=g):Mk w0 hi w' b vl L V m vt T/\SpB w0.heap.size S0 w' V m:=by
 refine⟨⟨ze h.gr hg hb2,h.hb,h.box.beside hg (fun k e=>?_),h.lr,h.lc,h.lb,h.rows.area hs hg ho hb⟩,hs.kind hg ho (by decide) (.inr hb)⟩
 cases e;intro e;subst e;have h1:w.heap[b]? =_:=h.box;rw[show w.heap[b]? =_ from ho]at h1
 cases h1
theorem SpB.pick (hs:SpB w0.heap.size S0 w V m) (h:Mk w0 hi w b vl L V m vt T) (hg:w.grownBy w' (Xa b)):SpB w0.heap.size S0 w' V m:=hs.kind hg h.box (by decide) (.inl (by decide))
theorem zb.pick {v:Xr} (hs:zb arE w0.heap.size w v l) (h:Mk w0 hi w b vl L V m vt T) (hg:w.grownBy w' (Xa b)):zb arE w0.heap.size w' v l:=hs.kind hg h.box (by decide)
end
theorem QI {p:Nat}:Loc hi p 91:=⟨by decide,by decide,by decide,by decide,by decide,by decide,by decide,by decide,fun h=>absurd h (by decide)⟩
theorem jc (w:Xo) (g i:Nat) (u:Xr):w.grownBy (w.setCell ⟨g,i,Xb⟩ u) (Xa g):=⟨rfl,rfl,rfl,by simp[World.setCell],fun k _ hk=>Below.heap_setCell _ _ _ _ (fun e=>hk (by rw[e]))⟩
def Spc (w0:Xo) (hi b:Nat) (w:Xo) (L:List Int) (m:Ma) (T:List (Nat->En)) (w':Xo):Prop:=∃vl' L' V' m' vt' T' l,Mk w0 hi w' b vl' L' V' m' vt' T'/\ZP L L'/\zr hi w w'/\qV m' T'/\(m'.sp=m.sp++ [⟨Xc,l,qL⟩]/\m'.fl=m.fl/\m'.hand=m.hand/\m'.fs.length=m.fs.length)/\(jF m.fl.length l/\j7 l 64<=12)/\(L=[]->m'={ m with sp:=m.sp++ [⟨Xc,[],qL⟩] }/\T'=T++ [fun _=>en0])
theorem zaj (f:Nat->En) (n:Nat):qr f n (f n)=f:=by
 funext j
 unfold qr
 split
 ·rename_i e
  rw[e]
 rfl
theorem zbB {α:Type} {l:List α} {i:Nat} {x:α} (h:l[i]? =Xa x):l.set i x=l:=by
 apply Xy
 intro j
 by_cases e:j=i
 ·subst e;rw[sF (gS.1 h).1,h]
 rw[sN (fun h=>e h.symm)]
section
variable{m:Ma} {T:List (Nat->En)} {s0 s1:Sp} {fA fB:Nat->En} {n:Nat}
theorem qV.entry0 (h:qV m T) (hs0:m.sp[0]? =Xa s0) (hA:T[0]? =Xa fA) (hn:n<64):fA n=en0\/(∃(k:Nat) (fr:Fr),(fA n).kind=1/\(fA n).n=(k:Int)/\m.fs[k]? =Xa fr)\/(∃(k:Nat) (z:Int),(fA n).kind=2/\(fA n).n=(k:Int)/\m.sl[k]? =Xa z/\0<=z/\z<=1000):=by
 rcases h.ent 0 s0 fA hs0 hA n hn with e|e
 ·exact .inl e
 by_cases hk:(fA n).kind=2
 ·refine .inr (.inr ?_);obtain⟨h1,h2,h3⟩:=e;obtain⟨a1,a2,a3⟩:=zaG h1;unfold zc2 at h3
  by_cases h0:(zO s0.ars n).is=Xd
  ·rw[kE h0]at h3;cases h3
  rw[kF h0,kE hk]at h3
  split at h3
  ·cases h3
  rename_i hno
  have hlt:(fA n).n.toNat<m.sl.length:=by
   have:¬(m.sl.length:Int)<=(fA n).n:=fun e=>hno (.inl e)
   omega
  have hz:=h.cs _ _ (gE hlt);have hh:=zck T 2 ((fA n).n.toNat:Int);have h5:=h.tl;have h6:=h.spl;exact⟨(fA n).n.toNat,m.sl[(fA n).n.toNat],hk,by omega,gE hlt,by omega,by omega⟩
 obtain⟨p1,p2,p3,_⟩:=qo e hk;have hlt:(fA n).n.toNat<m.fs.length:=by omega
 exact .inr (.inl ⟨(fA n).n.toNat,m.fs[(fA n).n.toNat],p1,by omega,gE hlt⟩)
theorem qV.forkP (h:qV m T) (hs0:m.sp[0]? =Xa s0) (hs1:m.sp[1]? =Xa s1) (har:s1.ars=s0.ars) (hA:T[0]? =Xa fA) (hB:T[1]? =Xa fB) (hn:n<64) (hBn:fB n=en0) {k:Nat} {fr:Fr} (hk:m.fs[k]? =Xa fr) (hkind:(fA n).kind=1) (hen:(fA n).n=(k:Int)) {e':En} (he:e'=if(zO s0.ars n).sh=Xc then fA n else{ fA n with wr:=false }):
  qV { m with fs:=m.fs.set k { fr with r:=fr.r+1 } } ((T.set 0 (qr fA n e')).set 1 (qr fB n e')):=by
 have hne:fA n≠en0:=fun e=>by rw[e]at hkind;cases hkind
 have hok:za9 m (zO s0.ars n) (fA n):=(h.ent 0 s0 fA hs0 hA n hn).resolve_left hne
 by_cases hsh:(zO s0.ars n).sh=Xc
 ·rw[kE hsh]at he;subst he;rw[zaj,zbB hA];refine h.share hk hA rfl hB (by decide) hn hBn hs1 (by rw[har];exact hok) hkind hen (fun _ hf=>?_)
  obtain⟨h1,h2,h3⟩:=hok;unfold zc2 at h3
  by_cases h0:(zO s0.ars n).is=Xd
  ·rw[kE h0]at h3;cases h3
  rw[kF h0,kF (by rw[hkind];decide)]at h3
  split at h3
  ·cases h3
  split at h3
  ·cases h3
  rename_i hno
  have hfr:z8 m (fA n).n=fr:=by rw[hen];exact jL hk
  have:0<=(zO s0.ars n).file/\(z8 m (fA n).n).f=(zO s0.ars n).file/\(z8 m (fA n).n).x=(zO s0.ars n).page:=Classical.byContradiction fun e=>hno (.inr (.inl ⟨hsh,e⟩))
  rw[hfr]at this;omega
 rw[kF hsh]at he;subst he;have g:=h.guard hA hn hne;have hA':(T.set 0 (qr fA n { fA n with wr:=false }))[0]? =Xa (qr fA n { fA n with wr:=false }):=sF (gS.1 hA).1;have hB':(T.set 0 (qr fA n { fA n with wr:=false }))[1]? =Xa fB:=by rw[sN (by decide)];exact hB
 have hv:qr fA n { fA n with wr:=false } n={ fA n with wr:=false }:=by unfold qr;rw[kE rfl]
 refine g.share hk hA' hv hB' (by decide) hn hBn hs1 ?_ hkind hen (fun e=>by cases e)
 rw[har];have:=g.ent 0 s0 _ hs0 hA' n hn;rw[hv]at this;refine this.resolve_left fun e=>?_
 have:({ fA n with wr:=false }:En).kind=en0.kind:=by rw[e]
 rw[show({ fA n with wr:=false }:En).kind=(fA n).kind from rfl,hkind]at this
 cases this
theorem qV.forkS (h:qV m T) (hs0:m.sp[0]? =Xa s0) (hs1:m.sp[1]? =Xa s1) (har:s1.ars=s0.ars) (hA:T[0]? =Xa fA) (hB:T[1]? =Xa fB) (hn:n<64) (hBn:fB n=en0) {k:Nat} (hk:m.sl[k]? =Xa z) (hkind:(fA n).kind=2) (hen:(fA n).n=(k:Int)):
  qV { m with sl:=m.sl.set k (z+1) } ((T.set 0 (qr fA n (fA n))).set 1 (qr fB n (fA n))):=by
 have hne:fA n≠en0:=fun e=>by rw[e]at hkind;cases hkind
 rw[zaj,zbB hA];exact h.shareS hk hB hn hBn hs1 (by rw[har];exact(h.ent 0 s0 fA hs0 hA n hn).resolve_left hne) hkind hen
theorem zko (hA:T[0]? =Xa fA) (hB:T[1]? =Xa fB) (hAn:fA n=en0) (hBn:fB n=en0):(T.set 0 (qr fA n en0)).set 1 (qr fB n en0)=T:=by
 have h1:qr fA n en0=fA:=by
  have:=zaj fA n;rwa [hAn]at this
 have h2:qr fB n en0=fB:=by
  have:=zaj fB n;rwa [hBn]at this
 rw[h1,h2,zbB hA,zbB hB]
end
section
variable{α:Type} {E:Elt α}
theorem JO {w:Xo} {a:Act} (p x:Operand) (t:TypeId) (ho:o.op= .store t p x) (base:Nat) (v:Xr) (l:List α) (hown:zb E base w v l)
  (g i j:Nat) (hg:v.ownBlock=Xa g) (e y:α) (hi:l[i]? =Xa e) (cs:List Xr) (hk:(Tryz.prog.info? t).map (·.size)=Xa cs.length) (hy:E.enc y=splice (E.enc e) j cs) (hj:j+cs.length<=E.k) (h1:∀u∈cs,u.oneCell'=Xc)
  (ad:Addr) (hp:a.eval p= Xj (Xa ad)) (had:ad=⟨g,i*E.k+j,Xb⟩) (vx:Xr) (hx:a.eval x=vx) (hvx:vx.cells=cs.toArray):
  ∃w',(execOp a.eval o).run prog w= .ok .skip w'/\zb E base w' v (l.set i y)/\w.grownBy w' (Xa g)/\w'.heap.size=w.heap.size:=by
 subst had;have hil:i<l.length:=(gS.1 hi).1;have hfit:i*E.k+j+cs.length<=l.length*E.k:=by
  have:(i+1)*E.k<=l.length*E.k:=Yc _ hil;rw[Nat.add_mul]at this;omega
 obtain⟨w',hr,h2,h3,h4⟩:=qX (P:=prog) hown.1 hg (i*E.k+j) cs hfit h1;have hsz:(Go.sizeOf t).run prog w= .ok cs.length w:=by
  cases hq:Tryz.prog.info? t with
  | none=>simp[hq]at hk
  | some i=>simp[hq]at hk;simp[Go.sizeOf,typeInfo,hq,hk]
 have hall:(Instr.storeAt t (Xj (Xa ⟨g,i*E.k+j,Xb⟩)) vx).run prog w= .ok () w':=by
  simp[Instr.storeAt,Instr.sureAddr,storeVar,Xx,hsz,Result.andThen,hvx,hr]
 rw[QC j cs hy hj l i hi]at h2;refine⟨w',?_,⟨by rw[Xv];exact h2,by rw[Xv];exact hown.2⟩,h3,h4⟩
 simp only[execOp,ho,hp,hx,Xx,hall,Result.andThen,Xw]
theorem zcz {P:Program} {a:Act} {w:Xo} {K:Xr->Xo->Prop} (hr:(execOp a.eval o).run P w= .ok .skip w') (h:K undef w'):zQ P o a w K:=by
 unfold zQ;rw[hr];exact h
end
theorem Qo {p:Nat}:Loc hi p 55:=⟨by decide,by decide,by decide,by decide,by decide,by decide,by decide,by decide,fun h=>absurd h (by decide)⟩
theorem Zi {p:Nat}:Loc hi p 68:=⟨by decide,by decide,by decide,by decide,by decide,by decide,by decide,by decide,fun h=>absurd h (by decide)⟩
theorem ZM {a:Act} {w:Xo} {K:Xr->Xo->Prop} (ty:TypeId) (p x:Operand) (ho:o.op= .store ty p x) (b off:Nat) (hp:a.eval p= Xj (Xa ⟨b,off,Xb⟩)) (vx:Xr) (hx:a.eval x=vx) (vs:List Xr) (hvx:vx.cells=vs.toArray)
  {t:TypeId} {cs:List Xr} (hb:zt w b t cs) (hl:off+vs.length<=cs.length) (hi:(Tryz.prog.info? ty).map (·.size)=Xa vs.length) (h1:∀v∈vs,v.oneCell'=Xc)
  (h:∀w',zt w' b t (splice cs off vs)->w.grownBy w' (Xa b)->w'.heap.size=w.heap.size->K undef w'):zQ prog o a w K:=by
 have hag:(Value.agg vs.toArray).cells=vs.toArray:=by
  unfold Value.cells;simp
 have hr:(execOp a.eval o).run prog w= .ok .skip (w.setCells b off vs):=by
  have h2:=run_storeAt_mid (P:=prog) w b off ty vs.toArray (fun j hj=>by
   have:=hb.box.there (off+j) (by simp at hj;omega)
   rw[zA]at this;exact this) (by simpa using hi) (all_oneCell_toArray h1)
  have h3:(Instr.storeAt ty (Xj (Xa ⟨b,off,Xb⟩)) vx).run prog w=(Instr.storeAt ty (Xj (Xa ⟨b,off,Xb⟩)) (Xi vs.toArray)).run prog w:=by
   simp only[Instr.storeAt,Instr.sureAddr,storeVar,hvx,hag]
  simp only[execOp,ho,hp,hx,Xx,h3,h2,rA,Xw]
 exact zcz hr (h _ (hb.part (ds:=vs) (o:=off) hl) (zT b vs off w).1 (zT b vs off w).2)
theorem ZF {rest:List Oper} {a:Act} {w:Xo} (hgd:o.guard=Xb) (ty:TypeId) (p x:Operand) (ho:o.op= .store ty p x) (b off:Nat) (hp:a.eval p= Xj (Xa ⟨b,off,Xb⟩)) (vx:Xr) (hx:a.eval x=vx) (vs:List Xr) (hvx:vx.cells=vs.toArray)
  {t:TypeId} {cs:List Xr} (hb:zt w b t cs) (hl:off+vs.length<=cs.length) (hi:(Tryz.prog.info? ty).map (·.size)=Xa vs.length) (h1:∀v∈vs,v.oneCell'=Xc)
  (h:∀w',zt w' b t (splice cs off vs)->w.grownBy w' (Xa b)->w'.heap.size=w.heap.size->wpList prog ops Q rest (a.put o.dst undef) w'):wpList prog ops Q (o :: rest) a w:=
 wpList_plain hgd fun _ hK=>(ZM (K:=fun v w'=>v=undef/\wpList prog ops Q rest (a.put o.dst undef) w') ty p x ho b off hp vx hx vs hvx hb hl hi h1 (fun w' k1 k2 k3=>⟨rfl,h w' k1 k2 k3⟩)).wp (fun v w' hk=>hK _ _ (by rw[hk.1];exact hk.2))
theorem zcA {a:Act} {w:Xo} {K:Xr->Xo->Prop} (ty:TypeId) (x:Operand) (ho:o.op= .load ty x) (b off:Nat) (hx:a.eval x= Xj (Xa ⟨b,off,Xb⟩)) (vs:List Xr) (hc:w.rangeAt b off vs) {d:TypeDesc} (hu:Tryz.prog.underlying ty=Xa d) (hd:d.isRow=Xc) (hi:(Tryz.prog.info? ty).map (·.size)=Xa vs.length) (h:K (Xi vs.toArray) w):zQ prog o a w K:=by
 have:=run_loadAt_mid (P:=prog) w b off ty vs d hc hu hd hi;exact zQ.step (by simp only[execOp,ho,hx,Xx,this,rA,Xw]) h
theorem zbt {α:Type} {E:Elt α} {w:Xo} {a:Act} {K:Xr->Xo->Prop} (p x:Operand) (t:TypeId) (ho:o.op= .store t p x) (base:Nat) (v:Xr) (l:List α) (hown:zb E base w v l)
  (g i j:Nat) (hg:v.ownBlock=Xa g) (e y:α) (hi:l[i]? =Xa e) (cs:List Xr) (hk:(Tryz.prog.info? t).map (·.size)=Xa cs.length) (hy:E.enc y=splice (E.enc e) j cs) (hj:j+cs.length<=E.k) (h1:∀u∈cs,u.oneCell'=Xc)
  (ad:Addr) (hp:a.eval p= Xj (Xa ad)) (had:ad=⟨g,i*E.k+j,Xb⟩) (vx:Xr) (hx:a.eval x=vx) (hvx:vx.cells=cs.toArray)
  (h:∀w',zb E base w' v (l.set i y)->w.grownBy w' (Xa g)->w'.heap.size=w.heap.size->K undef w'):zQ prog o a w K:=by
 obtain⟨w',h2,h3,h4,h5⟩:=JO p x t ho base v l hown g i j hg e y hi cs hk hy hj h1 ad hp had vx hx hvx;exact zcz h2 (h w' h3 h4 h5)
theorem ZS.form {w:Xo} {t:List (List En)} (h:ZS B0 B1 w us t):∃t0 t1 t2 t3 t4 t5 t6 t7:Sli,us=[t0.v,t1.v,t2.v,t3.v,t4.v,t5.v,t6.v,t7.v]:=by
 obtain⟨u0,u1,u2,u3,u4,u5,u6,u7,rfl⟩:=zkF h.len;obtain⟨y0,y1,y2,y3,y4,y5,y6,y7,rfl⟩:=zkF h.tlen;obtain⟨a0,c0,rfl,_⟩:=(h.row 0 _ _ rfl rfl).now.rows;obtain⟨a1,c1,rfl,_⟩:=(h.row 1 _ _ rfl rfl).now.rows;obtain⟨a2,c2,rfl,_⟩:=(h.row 2 _ _ rfl rfl).now.rows;obtain⟨a3,c3,rfl,_⟩:=(h.row 3 _ _ rfl rfl).now.rows;obtain⟨a4,c4,rfl,_⟩:=(h.row 4 _ _ rfl rfl).now.rows;obtain⟨a5,c5,rfl,_⟩:=(h.row 5 _ _ rfl rfl).now.rows;obtain⟨a6,c6,rfl,_⟩:=(h.row 6 _ _ rfl rfl).now.rows;obtain⟨a7,c7,rfl,_⟩:=(h.row 7 _ _ rfl rfl).now.rows;exact⟨⟨a0,_,c0⟩,⟨a1,_,c1⟩,⟨a2,_,c2⟩,⟨a3,_,c3⟩,⟨a4,_,c4⟩,⟨a5,_,c5⟩,⟨a6,_,c6⟩,⟨a7,_,c7⟩,rfl⟩
theorem ziI (m:Ma) (q:Nat) (n:Int) (e:En):(Jl m q n e).sp.length=m.sp.length:=by simp[Jl]
def zg3 (m:Ma):Prop:=∀s∈m.sp,(wrL s.ars).1=0/\tbW s.tb=0
theorem zjC (h:Zp m=0):zg3 m:=fun s hs=>by
 unfold Zp at h
 split at h
 ·cases h
 have:=zF.1 h (spE s) (List.mem_map.2 ⟨s,hs,rfl⟩);unfold spE at this
 split at this
 ·rename_i a;exact absurd this a
 rename_i a
 split at this
 ·rename_i b;exact absurd this b
 rename_i b;exact⟨by simpa using a,by simpa using b⟩
theorem znm {s:Sp} (h:tbW s.tb=0) (n:Nat):enW (zD s n)=0:=by
 unfold zD zdo;have hall:=QB.1 h;have:zg4 (s.tb[n / 8]?.getD []):=by
  cases e:s.tb[n / 8]? with
  | none=>exact .inl rfl
  | some x=>exact hall x (mG e)
 exact this.get (n % 8)
theorem zhw {s:Sp} {n:Nat} (h:n<64):zdn s.tb (n:Int)=zD s n:=by
 unfold zdn zD;rw[kE (by omega),tN]
theorem ze1 {s:Sp} {n:Nat} (h:(qw s)[j]? =Xa n):n<64:=by
 have:=mG h;unfold qw at this;rw[List.mem_filter,List.mem_range]at this;exact this.1
theorem zkQ:∀{l:List Ar} {p:Option Ar} {k:Nat} {a:Ar},ZT p l->l[k]? =Xa a->jA a
 | [],_,_,_,_,h=>by simp at h
 | b :: l,p,0,a,hc,h=>by
  simp at h
  subst h;exact hc.1
 | b :: l,p,k+1,a,hc,h=>zkQ hc.2.2 (by simpa using h)
theorem zbL (V:MaV) (m:Ma) (w:Xo) (hm:zN w V m) (h1:zfW m) (h2:zg3 m):
  Xq prog 115 #[Xi (mL V m).toArray] w fun e w'=>e= Xl (I6 (zba m))/\zc w w':=by
 have HWE:Xp (∀(a:Ar) (n:Nat) (e:En) W,zc w W->jA a->n<=64->0<=e.n->Xq prog 160 #[Xi (mL V m).toArray,Xi #[I6 a.fr,I6 a.tz,Xh a.rd,Xh a.wr,Xh a.sh,I6 a.file,I6 a.base],I6 (n:Int),Xi #[I6 e.kind,I6 e.n,Xh e.wr]] W fun e' w'=>e'= Xl (I6 (JN m a n e))/\zc W w'):=dD<|fun a n e W hW ha hn he=>zbM V m a n e W (hm.grew hW) ha hn he
 have HM1:Xp (ZR m.fs m.hand=0):=h1.mem;have HRS:Xp (zg3 m):=h2;obtain⟨vf,vs,vsb,vsq,vdb,vdq,vfl,vca,⟨spa,spn,spc⟩⟩:=V;dsimp only[mL]at HWE⊢;obtain⟨-,-,-,-,-,-,-,-,n9⟩:=hm.ns;dsimp only at n9;obtain⟨xs,hxl,hrow,hsp⟩:=hm.spaces;have HXL:Xp (xs.length=m.sp.length):=hxl;have HR:Xp (∀(j:Nat) x,xs[j]? =Xa x->∃ad,spa=Xa ad/\∀W,zc w W->zjb W (ad.add (j*10)) x):=hrow;have HSP:Xp (∀(i:Nat) x s,xs[i]? =Xa x->m.sp[i]? =Xa s->qN w x s):=hsp;have HN:Xp (m.sp.length=spn):=n9.symm;have hbig:spn<=9223372036854775807:=by
  obtain⟨ys,k1,k2,_⟩:=hm.sp;have:=k1.short;omega
 obtain⟨Z,HZ⟩:=kA (zba m);rw[HZ.out];clear hm hxl hrow hsp n9 h1 h2;obtain⟨W0,hW0⟩:=kB (w.alloc (Xk #[vf.x,I6 m.hand,vs.x,vsb.x,vsq.x,vdb.x,vdq.x,vfl.x,I6 m.cnt,vca.x,O spa spn spc] 41));have HG0:=gA hW0
 have X0:=xA hW0
 have HW0:Xp (_=W0):=hW0;clear hW0
 go_enter func115,ntmps115
 go_upto_region 1 with fail;rw[HW0.out];have x10:=X0.c 10 rfl;go_wp2;clear x10
 go_loopg [12] spn (fun gg s12 wr=>∃kk:Nat,kk<=spn/\spn - kk<=gg/\s12=I6 kk/\Xp (zc w wr)/\Xp (Box wr w.heap.size [vf.x,I6 m.hand,vs.x,vsb.x,vsq.x,vdb.x,vdq.x,vfl.x,I6 m.cnt,vca.x,O spa spn spc])/\Xp (∀(j:Nat) s,j<kk->m.sp[j]? =Xa s->zaQ m s=0))
 case atStart=>exact⟨0,nZ _,by omega,rfl,HG0,X0,fun j s hj=>absurd hj (nL _)⟩
 obtain⟨kk,hkk,hgg,rfl,BW,XW,OW⟩:=hrel
 by_cases hlt:kk<spn
 ·have hltz:=kC hlt
  obtain⟨s,HS⟩:∃s,Xp (m.sp[kk]? =Xa s):=⟨_,gE (by rw[HN.out];exact hlt)⟩
  obtain⟨x,HX⟩:∃x,Xp (xs[kk]? =Xa x):=⟨_,gE (by rw[HXL.out,HN.out];exact hlt)⟩
  have HAT:Xp (qN w x s):=HSP.out kk x s HX HS.out;obtain⟨hok1,hok2⟩:=HRS.out s (mG HS);have HCN:Xp (ZT Xb s.ars):=(jY.1 hok1).2;have HTB:Xp (tbW s.tb=0):=hok2;have HAL:Xp (s.ars.length=x.ar.n):=HAT.ar.n.symm;have HAR:Xp (zbn w x.ar.a s.ars):=show zbn _ _ _ by
   obtain⟨_,_,q1,q2⟩:=HAT.ar.ars;simp only[vJ]at q1;rw[q1.1];exact q2
  clear hok1 hok2;obtain⟨ad,rfl,hl⟩:=HR.out kk x HX.out;obtain⟨d0,d1,d2,d3,d4,d5,d6,d7,d8,d9⟩:=hl wr BW.out;clear hl;go_upto_region 4 with fail;obtain⟨W1,hW1⟩:=kB (wr.alloc (Xk #[Xh x.live,x.ar.x,x.t0.x,x.t1.x,x.t2.x,x.t3.x,x.t4.x,x.t5.x,x.t6.x,x.t7.x] 63));have HG1:=gT hW1 BW
  have X1:=yA hW1 XW
  have S1:=xA hW1
  rw[hW1];clear hW1 d0 d1 d2 d3 d4 d5 d6 d7 d8 d9;obtain⟨pb,HPB⟩:=kA wr.heap.size;rw[HPB.out]at S1⊢;have hcall:Xq prog 107 #[Xi #[x.t0.x,x.t1.x,x.t2.x,x.t3.x,x.t4.x,x.t5.x,x.t6.x,x.t7.x]] W1 fun e w'=>∃v,e= Xl v/\zb blE W1.heap.size w' v (qS s.tb Jr 64)/\zc W1 w':=J1 x.tab s.tb W1 (HAT.grew HG1).tb
  have s2:=S1.c 2 rfl;have s3:=S1.c 3 rfl;have s4:=S1.c 4 rfl;have s5:=S1.c 5 rfl;have s6:=S1.c 6 rfl;have s7:=S1.c 7 rfl;have s8:=S1.c 8 rfl;have s9:=S1.c 9 rfl;go_wp2_with fail;refine hcall.mono ?_;clear hcall s2 s3 s4 s5 s6 s7 s8 s9;rintro e' W2 ⟨pv,rfl,ow2,hg2⟩;have HG2:=dD (HG1.trans hg2);have X2:=dD (X1.grew hg2);have S2:=dD (S1.grew hg2);clear hg2;obtain⟨pa,pc,rfl,hnr⟩:=ow2.at.nums;have hq0:=ow2.at.short;have HNR:Xp (zab W2 pa (qS s.tb Jr 64)):=hnr;rw[QD,List.length_map]at hq0⊢;rw[QD]at HNR;clear ow2 hnr;obtain⟨q,HQ⟩:=kA ((qw s).length);rw[HQ.out]at hq0⊢;go_wp2;have HBW:Xp (zc w wr):=BW;have HOW:Xp (∀(j:Nat) s,j<kk->m.sp[j]? =Xa s->zaQ m s=0):=OW
  go_loopg [20] q (fun gg s20 wr=>∃i:Nat,i<=q/\q - i<=gg/\s20=I6 i/\Xp (zc W2 wr)/\Xp (∀(j:Nat) n,j<i->(qw s)[j]? =Xa n->zc2 m (zO s.ars n) (zD s n)=0))
  case atStart=>exact⟨0,nZ _,by omega,rfl,zc.refl _,fun j s hj=>absurd hj (nL _)⟩
  obtain⟨i,hi,hg2,rfl,BW,OW⟩:=hrel
  by_cases hlt2:i<q
  ·have hltz2:=kC hlt2
   obtain⟨n,HNI⟩:∃n,Xp ((qw s)[i]? =Xa n):=⟨_,gE (by rw[HQ.out];exact hlt2)⟩
   have hn64:n<64:=ze1 HNI.out;obtain⟨ad2,rfl,hl2⟩:=HNR.out i (n:Int) (by rw[List.getElem?_map,HNI.out];rfl)
   have e0:=hl2 wr BW.out;clear hl2;have HGW:=dD (HG2.trans BW);have hcf:=zmf (x.ar.x) s.ars (n:Int) wr (HAT.ar.grew HGW);have s1:=(S2.grew BW).c 1 rfl;go_wp2_with fail;refine hcf.mono ?_;clear hcf e0 s1;rintro e' W4 ⟨⟨z,rfl,hz⟩,hg4⟩;have HFZ:Xp (zbl s.ars (n:Int) z):=hz;have HG4:=dD (BW.trans hg4);have HGw4:=dD (HG2.trans HG4);clear hg4 hz
   by_cases hz0:z<0
   ·have HZE:Xp (Z=5):=dD<|by
     have h5:zc2 m (zO s.ars n) (zD s n)=5:=by
      have:=zme HFZ.out;rw[decide_eq_false (by omega)]at this
      unfold zc2;rw[kE this.symm]
     have h6:zaQ m s=5:=by rw[JX,Zl HNI OW (by rw[h5];decide),h5]
     rw[<-HZ.out];unfold zba;rw[Zl HS HOW (by rw[h6];decide),h6]
    go_wp2;go_ret;exact⟨by rw[HZE.out];rfl,HGw4⟩
   obtain⟨k,a,rfl,HKA,HIN⟩:∃(k:Nat) (a:Ar),z=(k:Int)/\Xp (s.ars[k]? =Xa a)/\Xp (inZ a (n:Int)=Xc):=by
    rcases HFZ with⟨k,a,q1,q2,q3⟩|⟨q1,_⟩
    ·exact⟨k,a,q1,q2,q3⟩
    omega
   have HAO:Xp (jA a):=zkQ HCN HKA.out;have hkl:k<x.ar.n:=by rw[<-HAL.out];exact(gS.1 HKA).1
   have HEN:Xp (zc2 m (zO s.ars n) (zD s n)=JN m a n (zD s n)):=dD<|by rw[ze8 HCN.out HKA.out HIN.out,zjo HM1.out HAO.out]
   have hen0:0<=(zD s n).n:=(zaG (znm HTB n)).2.1.1;have HWE':Xp (∀W,zc w W->Xq prog 160 #[Xi #[vf.x,I6 m.hand,vs.x,vsb.x,vsq.x,vdb.x,vdq.x,vfl.x,I6 m.cnt,vca.x,O (Xa ad) spn spc],Xi #[I6 a.fr,I6 a.tz,Xh a.rd,Xh a.wr,Xh a.sh,I6 a.file,I6 a.base],I6 (n:Int),enV (zD s n)] W fun e' w'=>e'= Xl (I6 (JN m a n (zD s n)))/\zc W w'):=dD<|fun W hW=>HWE.out a n (zD s n) W hW HAO (by omega) hen0
   have HGT:Xp (∀W,zc w W->Xq prog 86 #[Xi #[x.t0.x,x.t1.x,x.t2.x,x.t3.x,x.t4.x,x.t5.x,x.t6.x,x.t7.x],I6 (n:Int)] W fun e w'=>e= Xl (enV (zD s n))/\zc W w'):=dD<|fun W hW=>by
    have:=Ji x.tab s.tb (n:Int) W (HAT.grew hW).tb;rw[zhw hn64]at this;exact this
   clear hen0;go_upto_region 10 with fail;obtain⟨ada,hva,hl⟩:=HAR.out k a HKA.out;have X4:=dD (X2.grew HG4);have S4:=dD (S2.grew HG4);have hx0:=X4.gw 0 rfl
   have hx1:=X4.gw 1 rfl
   have hx2:=X4.gw 2 rfl
   have hx3:=X4.gw 3 rfl
   have hx4:=X4.gw 4 rfl
   have hx5:=X4.gw 5 rfl
   have hx6:=X4.gw 6 rfl
   have hx7:=X4.gw 7 rfl
   have hx8:=X4.gw 8 rfl
   have hx9:=X4.gw 9 rfl
   have hx10:=X4.gw 10 rfl
   have hs1:=S4.gw 1 rfl
   have hs2:=S4.gw 2 rfl
   have hs3:=S4.gw 3 rfl
   have hs4:=S4.gw 4 rfl
   have hs5:=S4.gw 5 rfl
   have hs6:=S4.gw 6 rfl
   have hs7:=S4.gw 7 rfl
   have hs8:=S4.gw 8 rfl
   have hs9:=S4.gw 9 rfl
   (try simp only[Sli.x]at hs1);rw[hva]at hs1;have hy0:∀y:zn W4,y.world.cell? (ada.add (k*7))=Xa (I6 a.fr):=fun y=>(hl _ (HGw4.trans y.grew)).1
   have hy1:∀y:zn W4,y.world.cell? { block:=(ada.add (k*7)).block,off:=(ada.add (k*7)).off+1 }=Xa (I6 a.tz):=fun y=>(hl _ (HGw4.trans y.grew)).2.1
   have hy2:∀y:zn W4,y.world.cell? { block:=(ada.add (k*7)).block,off:=(ada.add (k*7)).off+2 }=Xa (Xh a.rd):=fun y=>(hl _ (HGw4.trans y.grew)).2.2.1
   have hy3:∀y:zn W4,y.world.cell? { block:=(ada.add (k*7)).block,off:=(ada.add (k*7)).off+3 }=Xa (Xh a.wr):=fun y=>(hl _ (HGw4.trans y.grew)).2.2.2.1
   have hy4:∀y:zn W4,y.world.cell? { block:=(ada.add (k*7)).block,off:=(ada.add (k*7)).off+4 }=Xa (Xh a.sh):=fun y=>(hl _ (HGw4.trans y.grew)).2.2.2.2.1
   have hy5:∀y:zn W4,y.world.cell? { block:=(ada.add (k*7)).block,off:=(ada.add (k*7)).off+5 }=Xa (I6 a.file):=fun y=>(hl _ (HGw4.trans y.grew)).2.2.2.2.2.1
   have hy6:∀y:zn W4,y.world.cell? { block:=(ada.add (k*7)).block,off:=(ada.add (k*7)).off+6 }=Xa (I6 a.base):=fun y=>(hl _ (HGw4.trans y.grew)).2.2.2.2.2.2
   have hne:Nonempty (zn W4):=⟨⟨_,zc.refl _⟩⟩;clear hl hva;refine ji [(10,⟨fun v=>v=enV (zD s n),fun v w'=>True⟩),(11,⟨fun v=>v=I6 (JN m a n (zD s n)),fun v w'=>True⟩)] zW (by kernel_rfl) ?hS ?hp ?_
   case hS=>
    intro x hx;simp only[mC,nM,or_false]at hx
    rcases hx with rfl|rfl
    ·exact⟨_,rfl⟩
    exact⟨_,rfl⟩
   case hp=>
    intro x hx;simp only[mC,nM,or_false]at hx
    rcases hx with rfl|rfl
    ·exact fun _ _ _ _ h=>h
    exact fun _ _ _ _ h=>h
   iterate 10 (refine zd rfl rfl rfl (fun K hK=>?_);go_big_quiet_op;refine hK _ ?_;clear hK)
   refine zE rfl rfl (fun w' hg hF=>?_) (fun v1 hv=>?_)
   ·refine zQ.call [Xi #[x.t0.x,x.t1.x,x.t2.x,x.t3.x,x.t4.x,x.t5.x,x.t6.x,x.t7.x],I6 (n:Int)] rfl func86 rfl rfl rfl ?_;refine(HGT w' (HGw4.trans hg)).mono ?_;rintro e w'' ⟨rfl,hg3⟩;exact⟨_,rfl,hg3,rfl,trivial⟩
   subst hv;simp only[Xt,sB,sS,sZ];refine zE rfl rfl (fun w' hg hF=>?_) (fun v1 hv=>?_)
   ·refine zQ.call [Xi #[vf.x,I6 m.hand,vs.x,vsb.x,vsq.x,vdb.x,vdq.x,vfl.x,I6 m.cnt,vca.x,O (Xa ad) spn spc],Xi #[I6 a.fr,I6 a.tz,Xh a.rd,Xh a.wr,Xh a.sh,I6 a.file,I6 a.base],I6 (n:Int),enV (zD s n)] rfl func160 rfl rfl rfl ?_;refine(HWE' w' (HGw4.trans hg)).mono ?_;rintro e w'' ⟨rfl,hg3⟩;exact⟨_,rfl,hg3,rfl,trivial⟩
   subst hv;simp only[Xt,sB,sS,sZ];iterate 1 (refine zd rfl rfl rfl (fun K hK=>?_);go_big_quiet_op;refine hK _ ?_;clear hK)
   refine z6 fun W5 hg5 hF=>?_
   have HG5:=dD (HG4.trans hg5);have HGw5:=dD (HG2.trans HG5);clear hg5 hF hx0 hx1 hx2 hx3 hx4 hx5 hx6 hx7 hx8 hx9 hx10 hs1 hs2 hs3 hs4 hs5 hs6 hs7 hs8 hs9 hy0 hy1 hy2 hy3 hy4 hy5 hy6 hne;obtain⟨e,HEE⟩:=kA (JN m a n (zD s n));rw[HEE.out];rw[HEE.out]at HEN
   by_cases h0:e=0
   ·have h0e:(e != 0)=Xd:=by simp[h0]
    have OW':Xp (∀(j:Nat) n,j<i+1->(qw s)[j]? =Xa n->zc2 m (zO s.ars n) (zD s n)=0):=dD<|fun j n' hj hn'=>by
     by_cases ej:j=i
     ·subst ej;rw[HNI.out]at hn';cases hn';rw[HEN.out];exact h0
     exact OW j n' (by omega) hn'
    clear h0;go_wp2
    go_roundg (q -(i+1))
    case measure=>omega
    exact⟨i+1,by omega,by omega,by go_num,HG5,OW'⟩
   have h0e:(e != 0)=Xc:=by simp[h0]
   have HZE:Xp (Z=e):=dD<|by
    have h6:zaQ m s=e:=by rw[JX,Zl HNI OW (by rw[HEN.out];exact h0),HEN.out]
    rw[<-HZ.out];unfold zba;rw[Zl HS HOW (by rw[h6];exact h0),h6]
   clear h0;go_wp2;go_ret;exact⟨by rw[HZE.out];rfl,HGw5⟩
  have hltz2:=kD hlt2
  have:i=q:=by omega
  subst this;have HSE:Xp (zaQ m s=0):=dD<|by
   rw[JX];exact Qq fun j n hn=>OW.out j n (by rw[<-HQ.out];exact(gS.1 hn).1) hn
  have OW':Xp (∀(j:Nat) s,j<kk+1->m.sp[j]? =Xa s->zaQ m s=0):=dD<|fun j s' hj hs=>by
   by_cases ej:j=kk
   ·subst ej;rw[HS.out]at hs;cases hs;exact HSE.out
   exact HOW j s' (by omega) hs
  have XX:=dD (X2.grew BW);have GG:=dD (HG2.trans BW);go_wp2
  go_roundg (spn -(kk+1))
  case measure=>omega
  exact⟨kk+1,by omega,by omega,by go_num,GG,XX,OW'⟩
 have hltz:=kD hlt
 have:kk=spn:=by omega
 subst this;have HZE:Xp (Z=0):=dD<|by
  rw[<-HZ.out];exact Qq fun j s hs=>OW.out j s (by rw[<-HN.out];exact(gS.1 hs).1) hs
 go_wp2;go_ret;exact⟨by rw[HZE.out];rfl,BW⟩
end
end Go.Proofs.YtacihbmelcegbaaGreat
