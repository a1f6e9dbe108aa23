import Derived.Test.YtempiodbdhiboaaGreatTP6
import Derived.OrdersHeld
import Derived.Deep.DeepCutAuto
namespace Go.Proofs.YtempiodbdhiboaaGreat
open Go.Value renaming slice→O,int→Xe,bool→Xh,agg→Xi,pointer→Xj,tuple→Xm
open Go.IntKind renaming i64→Xf,u8→Xg
open Go.Obj renaming cells→Xk
open Go.Ending renaming returned→Xl
open Go renaming World→Xn,Calls→Xp,Value→Xq
open Go.RowKit renaming Hid→Xo
open Option renaming some→Xa,none→Xb
open Bool renaming true→Xc,false→Xd
open List renaming replicate→Xr
open Go.Act renaming put→Xs
open _root_.Nat renaming lt_of_lt_of_le→Xt
open _root_.List renaming take→Xu,drop→Xv,getElem?_map→Xx
open Go.Addr renaming add_lit→Xw
set_option maxRecDepth 100000
set_option maxHeartbeats 4000000
section
open Go.RowKit
def Usable (m:Ma) (p n:Int) (wr:Bool) (a:Ar) (e:Int):Prop:=
 (e=5/\a=ar0/\((p<0\/(m.sp.length:Int)<=p)\/∃(pp:Nat) (s:Sp),p=(pp:Int)/\m.sp[pp]? =Xa s/\∀a∈s.ars,inZ a n=Xd))\/
 (∃(pp nn k:Nat) (s:Sp) (x:Ar),p=(pp:Int)/\n=(nn:Int)/\nn<64/\m.sp[pp]? =Xa s/\s.ars[k]? =Xa x/\ArOk x/\(x.fr<=(nn:Int)/\(nn:Int)<x.tz)/\onAt s.ars nn=oneOf x nn/\
  ((e=8/\a=ar0/\(if wr=Xc then x.wr else x.rd)=Xd)\/(e=0/\a=x/\(if wr=Xc then x.wr else x.rd)=Xc)))
theorem usable_any (V:MaV) (m:Ma) (p n:Int) (wr:Bool) (w:Xn) (hm:MachAt w V m) (h0:maW m=0):
  Xp Tryz.prog 176 #[Xi #[O V.f.a V.f.n V.f.c,Xe Xf m.hand,O V.s.a V.s.n V.s.c,O V.sb.a V.sb.n V.sb.c,O V.sq.a V.sq.n V.sq.c,O V.db.a V.db.n V.db.c,O V.dq.a V.dq.n V.dq.c,O V.fl.a V.fl.n V.fl.c,Xe Xf m.cnt,O V.ca.a V.ca.n V.ca.c,O V.sp.a V.sp.n V.sp.c],Xe Xf p,Xe Xf n,Xh wr] w fun e w'=>(∃(a:Ar) (er:Int),e= Xl (Xm #[Xi #[Xe Xf a.fr,Xe Xf a.tz,Xh a.rd,Xh a.wr,Xh a.sh,Xe Xf a.file,Xe Xf a.base],Xe Xf er])/\Usable m p n wr a er)/\Grew w w':=by
 have HM:Xo (MachAt w V m):=hm;have HM0:Xo (maW m=0):=h0;have HWR:Xo (∀W,Grew w W->Xp Tryz.prog 20 #[Xi #[O V.f.a V.f.n V.f.c,Xe Xf m.hand,O V.s.a V.s.n V.s.c,O V.sb.a V.sb.n V.sb.c,O V.sq.a V.sq.n V.sq.c,O V.db.a V.db.n V.db.c,O V.dq.a V.dq.n V.dq.c,O V.fl.a V.fl.n V.fl.c,Xe Xf m.cnt,O V.ca.a V.ca.n V.ca.c,O V.sp.a V.sp.n V.sp.c]] W fun e w'=>e= Xl (Xe Xf 0)/\Grew W w'):=show∀W,_ from fun W hW=>wrongM_ok V m W (HM.out.grew hW) h0
 obtain⟨-,-,-,-,-,-,-,-,n9⟩:=hm.ns;obtain⟨xs,hxl,hrow,hsp⟩:=hm.spaces;obtain⟨vf,vs,vsb,vsq,vdb,vdq,vfl,vca,⟨spa,spn,spc⟩⟩:=V;dsimp only at n9 hrow HWR⊢;have HN9:Xo (m.sp.length=spn):=n9.symm;have HXL:Xo (xs.length=spn):=show _=_ by rw[hxl];exact HN9.out
 have HRW:Xo (∀(j:Nat) x,xs[j]? =Xa x->∃ad,spa=Xa ad/\∀W,Grew w W->Sp10 W (ad.add (j*10)) x):=show∀j,_ from hrow
 have HSP:Xo (∀(i:Nat) x s,xs[i]? =Xa x->m.sp[i]? =Xa s->SpaceAt w x s):=show∀i,_ from hsp
 clear hm n9 hxl hrow hsp HM h0;obtain⟨b,HB⟩:∃b,Xo (w.heap.size=b):=⟨_,rfl⟩;obtain⟨W0,hW0⟩:∃W0,(w.alloc (Xk #[O vf.a vf.n vf.c,Xe Xf m.hand,O vs.a vs.n vs.c,O vsb.a vsb.n vsb.c,O vsq.a vsq.n vsq.c,O vdb.a vdb.n vdb.c,O vdq.a vdq.n vdq.c,O vfl.a vfl.n vfl.c,Xe Xf m.cnt,O vca.a vca.n vca.c,O spa spn spc] 42)).alloc (Xk #[Xe Xf 0,Xe Xf 0,Xh Xd,Xh Xd,Xh Xd,Xe Xf 0,Xe Xf 0] 125)=W0:=⟨_,rfl⟩;have G0:=gD2 hW0
 have X0:Xo (Box W0 b [O vf.a vf.n vf.c,Xe Xf m.hand,O vs.a vs.n vs.c,O vsb.a vsb.n vsb.c,O vsq.a vsq.n vsq.c,O vdb.a vdb.n vdb.c,O vdq.a vdq.n vdq.c,O vfl.a vfl.n vfl.c,Xe Xf m.cnt,O vca.a vca.n vca.c,O spa spn spc]):=show Box _ _ _ by rw[<-hW0];exact(Box.top _ _ _ HB.out.symm).alloc _
 have Z0:Xo (BoxT W0 (b+1) 125 [Xe Xf 0,Xe Xf 0,Xh Xd,Xh Xd,Xh Xd,Xe Xf 0,Xe Xf 0]):=show BoxT _ _ _ _ by rw[<-hW0];exact BoxT.top _ [Xe Xf 0,Xe Xf 0,Xh Xd,Xh Xd,Xh Xd,Xe Xf 0,Xe Xf 0] _ (by have:=HB.out;simp;omega)
 have HW0:Xo (_=W0):=hW0;clear hW0
 go_enter Tryz.func176,Tryz.ntmps176
 go_upto_region 1 with fail;rw[HW0.out,HB.out];clear HW0;obtain⟨x0,x1,x2,x3,x4,x5,x6,x7,x8,x9,x10⟩:=X0.out.c11;have hc:=HWR.out W0 G0.out;go_wp2_with fail;refine hc.mono ?_;clear hc HWR x0 x1 x2 x3 x4 x5 x6 x7 x8 x9 x10;rintro r W1 ⟨rfl,g1⟩;have G1:=dD (G0.out.trans g1);have X1:=dD (X0.out.grew g1);have Z1:=dD (Z0.out.grew g1);clear g1 G0 X0 Z0;have x10:=X1.out.c 10 rfl
 by_cases hp:p<0\/(spn:Int)<=p
 ·by_cases hp0:p<0
  ·have hd:decide (p<0)=Xc:=decide_eq_true hp0;have HU:Xo (Usable m p n wr ar0 5):=show Usable _ _ _ _ _ _ from .inl ⟨rfl,rfl,.inl (by rw[HN9.out];exact hp)⟩
   clear hp hp0
   go_wp2_with (refine wp_storeAllT rfl 125 (.tmp 8) (.tmp 29) rfl (b+1) rfl [Xe Xf 0,Xe Xf 0,Xh Xd,Xh Xd,Xh Xd,Xe Xf 0,Xe Xf 0] rfl Z1.out rfl (by kernel_rfl) (by simp[Value.oneCell']) ?_)
   intro WL hbL hgL _;have HGL:Xo (Grew w WL):=show Grew _ _ from grew_grown G1.out hgL (by have:=HB.out;omega)
   have HBX:Xo (BoxT WL (b+1) 125 [Xe Xf 0,Xe Xf 0,Xh Xd,Xh Xd,Xh Xd,Xe Xf 0,Xe Xf 0]):=hbL;clear hbL hgL;go_wp2;refine bodyPost_ret (ret_cell_tmp rfl _ rfl HBX.out.box Tryz.underlying125 rfl (by kernel_rfl)) rfl ⟨⟨ar0,5,rfl,HU.out⟩,HGL.out⟩
  have hd:decide (p<0)=Xd:=decide_eq_false hp0;have hd2:decide ((spn:Int)<=p)=Xc:=decide_eq_true (by omega)
  have HU:Xo (Usable m p n wr ar0 5):=show Usable _ _ _ _ _ _ from .inl ⟨rfl,rfl,.inl (by rw[HN9.out];exact hp)⟩
  clear hp hp0
  go_wp2_with (refine wp_storeAllT rfl 125 (.tmp 8) (.tmp 29) rfl (b+1) rfl [Xe Xf 0,Xe Xf 0,Xh Xd,Xh Xd,Xh Xd,Xe Xf 0,Xe Xf 0] rfl Z1.out rfl (by kernel_rfl) (by simp[Value.oneCell']) ?_)
  intro WL hbL hgL _;have HGL:Xo (Grew w WL):=show Grew _ _ from grew_grown G1.out hgL (by have:=HB.out;omega)
  have HBX:Xo (BoxT WL (b+1) 125 [Xe Xf 0,Xe Xf 0,Xh Xd,Xh Xd,Xh Xd,Xe Xf 0,Xe Xf 0]):=hbL;clear hbL hgL;go_wp2;refine bodyPost_ret (ret_cell_tmp rfl _ rfl HBX.out.box Tryz.underlying125 rfl (by kernel_rfl)) rfl ⟨⟨ar0,5,rfl,HU.out⟩,HGL.out⟩
 have hd:decide (p<0)=Xd:=decide_eq_false (by omega)
 have hd2:decide ((spn:Int)<=p)=Xd:=decide_eq_false (by omega)
 obtain⟨pp,rfl⟩:∃pp:Nat,p=(pp:Int):=⟨p.toNat,by omega⟩
 obtain⟨x,hx⟩:∃x,xs[pp]? =Xa x:=⟨_,gE (by rw[HXL.out];omega)⟩
 obtain⟨s,HS⟩:∃s,Xo (m.sp[pp]? =Xa s):=⟨_,gE (by rw[HN9.out];omega)⟩
 have HAT:Xo (SpaceAt w x s):=HSP.out pp x s hx HS.out;obtain⟨ad,HSA,hl⟩:∃ad,Xo (spa=Xa ad)/\∀W,Grew w W->Sp10 W (ad.add (pp*10)) x:=HRW.out pp x hx;obtain⟨-,d1,-,-,-,-,-,-,-,-⟩:=hl W1 G1.out;rw[HSA.out]at x10;have hpz:(pp:Int)< (spn:Int):=by omega
 clear hl hx hp HRW HSP HXL;have hc:=find_any (O x.ar.a x.ar.n x.ar.c) s.ars n W1 (HAT.out.ar.grew G1.out);go_wp2_with fail;refine hc.mono ?_;clear hc d1 x10 hd hd2;rintro r W3 ⟨⟨z,rfl,hz⟩,g3⟩;have HFZ:Xo (FindsZ s.ars n z):=hz;have G3:=dD (G1.out.trans g3);have Z3:=dD (Z1.out.grew g3);clear g3 hz G1 X1 Z1
 by_cases hz0:z<0
 ·have hno:∀a∈s.ars,inZ a n=Xd:=by
   rcases HFZ.out with⟨k,a,q1,_⟩ | ⟨_,q⟩
   ·omega
   exact q
  have HU:Xo (Usable m (pp:Int) n wr ar0 5):=show Usable _ _ _ _ _ _ from .inl ⟨rfl,rfl,.inr ⟨pp,s,rfl,HS.out,hno⟩⟩
  clear hno
  go_wp2_with (refine wp_storeAllT rfl 125 (.tmp 8) (.tmp 41) rfl (b+1) rfl [Xe Xf 0,Xe Xf 0,Xh Xd,Xh Xd,Xh Xd,Xe Xf 0,Xe Xf 0] rfl Z3.out rfl (by kernel_rfl) (by simp[Value.oneCell']) ?_)
  intro WL hbL hgL _;have HGL:Xo (Grew w WL):=show Grew _ _ from grew_grown G3.out hgL (by have:=HB.out;omega)
  have HBX:Xo (BoxT WL (b+1) 125 [Xe Xf 0,Xe Xf 0,Xh Xd,Xh Xd,Xh Xd,Xe Xf 0,Xe Xf 0]):=hbL;clear hbL hgL;go_wp2;refine bodyPost_ret (ret_cell_tmp rfl _ rfl HBX.out.box Tryz.underlying125 rfl (by kernel_rfl)) rfl ⟨⟨ar0,5,rfl,HU.out⟩,HGL.out⟩
 obtain⟨k,a,rfl,HKA,HIN⟩:∃(k:Nat) (a:Ar),z=(k:Int)/\Xo (s.ars[k]? =Xa a)/\Xo (inZ a n=Xc):=by
  rcases HFZ.out with⟨k,a,q1,q2,q3⟩ | ⟨q1,_⟩
  ·exact⟨k,a,q1,q2,q3⟩
  omega
 have HCN:Xo (CanP Xb s.ars):=(wrL_zero.1 ((pts_of (maW_parts HM0.out)).ar s (mG HS.out)).1).2;have HAO:Xo (ArOk a):=canP_at HCN.out HKA.out;obtain⟨nn,rfl⟩:∃nn:Nat,n=(nn:Int):=⟨n.toNat,by have h1:=inZ_iff.1 HIN.out;have h2:=HAO.out;unfold ArOk at h2;omega⟩
 have hn64:nn<64:=by have h1:=inZ_iff.1 HIN.out;have h2:=HAO.out;unfold ArOk at h2;omega
 have HON:Xo (onAt s.ars nn=oneOf a nn):=onAt_uniq HCN.out HKA.out (by rw[<-inZ_nat];exact HIN.out)
 have hkl:k<x.ar.n:=by rw[HAT.out.ar.n];exact(gS.1 HKA.out).1
 have hkz:(k:Int)< (x.ar.n:Int):=by omega
 obtain⟨ada,HVA,HLA⟩:∃ada,Xo (x.ar.a=Xa ada)/\Xo (∀W,Grew w W->ArCells W (ada.add (k*7)) a):=by
  obtain⟨_,_,q1,q2⟩:=HAT.out.ar.ars;simp only[vJ]at q1;obtain⟨ada,q3,q4⟩:=q2 k a HKA.out;exact⟨ada,by rw[q1.1];exact q3,q4⟩
 have HU:Xo (∀er a',(er=8/\a'=ar0/\(if wr=Xc then a.wr else a.rd)=Xd)\/(er=0/\a'=a/\(if wr=Xc then a.wr else a.rd)=Xc)->Usable m (pp:Int) (nn:Int) wr a' er):=show∀er a',_ from fun er a' h=> .inr ⟨pp,nn,k,s,a,rfl,rfl,hn64,HS.out,HKA.out,HAO.out,inZ_iff.1 HIN.out,HON.out,h⟩
 rw[HVA.out];obtain⟨e0,e1,e2,e3,e4,e5,e6⟩:=HLA.out W3 G3.out;clear hz0 HFZ HCN HAO HIN HKA HAT HON HM0;cases wr
 ·obtain⟨ok,HOK⟩:∃ok,Xo (a.rd=ok):=⟨_,rfl⟩;rw[HOK.out]at e2;cases ok
  ·have HU1:Xo (Usable m (pp:Int) (nn:Int) Xd ar0 8):=HU.out 8 ar0 (.inl ⟨rfl,rfl,HOK.out⟩);clear HU
   go_wp2_with (refine wp_storeAllT rfl 125 (.tmp 8) (.tmp 55) rfl (b+1) rfl [Xe Xf 0,Xe Xf 0,Xh Xd,Xh Xd,Xh Xd,Xe Xf 0,Xe Xf 0] rfl Z3.out rfl (by kernel_rfl) (by simp[Value.oneCell']) ?_)
   intro WL hbL hgL _;have HGL:Xo (Grew w WL):=show Grew _ _ from grew_grown G3.out hgL (by have:=HB.out;omega)
   have HBX:Xo (BoxT WL (b+1) 125 [Xe Xf 0,Xe Xf 0,Xh Xd,Xh Xd,Xh Xd,Xe Xf 0,Xe Xf 0]):=hbL;clear hbL hgL e0 e1 e2 e3 e4 e5 e6;go_wp2;refine bodyPost_ret (ret_cell_tmp rfl _ rfl HBX.out.box Tryz.underlying125 rfl (by kernel_rfl)) rfl ⟨⟨ar0,8,rfl,HU1.out⟩,HGL.out⟩
  have HU1:Xo (Usable m (pp:Int) (nn:Int) Xd a 0):=HU.out 0 a (.inr ⟨rfl,rfl,HOK.out⟩);clear HU
  go_wp2_with (refine wp_storeAllT rfl 125 (.tmp 8) (.tmp 59) rfl (b+1) rfl [Xe Xf a.fr,Xe Xf a.tz,Xh Xc,Xh a.wr,Xh a.sh,Xe Xf a.file,Xe Xf a.base] rfl Z3.out rfl (by kernel_rfl) (by simp[Value.oneCell']) ?_)
  intro WL hbL hgL _;have HGL:Xo (Grew w WL):=show Grew _ _ from grew_grown G3.out hgL (by have:=HB.out;omega)
  have HBX:Xo (BoxT WL (b+1) 125 [Xe Xf a.fr,Xe Xf a.tz,Xh Xc,Xh a.wr,Xh a.sh,Xe Xf a.file,Xe Xf a.base]):=hbL;clear hbL hgL e0 e1 e2 e3 e4 e5 e6;go_wp2;refine bodyPost_ret (ret_cell_tmp rfl _ rfl HBX.out.box Tryz.underlying125 rfl (by kernel_rfl)) rfl ⟨⟨a,0,by rw[HOK.out];rfl,HU1.out⟩,HGL.out⟩
 obtain⟨ok,HOK⟩:∃ok,Xo (a.wr=ok):=⟨_,rfl⟩;rw[HOK.out]at e3;cases ok
 ·have HU1:Xo (Usable m (pp:Int) (nn:Int) Xc ar0 8):=HU.out 8 ar0 (.inl ⟨rfl,rfl,HOK.out⟩);clear HU
  go_wp2_with (refine wp_storeAllT rfl 125 (.tmp 8) (.tmp 55) rfl (b+1) rfl [Xe Xf 0,Xe Xf 0,Xh Xd,Xh Xd,Xh Xd,Xe Xf 0,Xe Xf 0] rfl Z3.out rfl (by kernel_rfl) (by simp[Value.oneCell']) ?_)
  intro WL hbL hgL _;have HGL:Xo (Grew w WL):=show Grew _ _ from grew_grown G3.out hgL (by have:=HB.out;omega)
  have HBX:Xo (BoxT WL (b+1) 125 [Xe Xf 0,Xe Xf 0,Xh Xd,Xh Xd,Xh Xd,Xe Xf 0,Xe Xf 0]):=hbL;clear hbL hgL e0 e1 e2 e3 e4 e5 e6;go_wp2;refine bodyPost_ret (ret_cell_tmp rfl _ rfl HBX.out.box Tryz.underlying125 rfl (by kernel_rfl)) rfl ⟨⟨ar0,8,rfl,HU1.out⟩,HGL.out⟩
 have HU1:Xo (Usable m (pp:Int) (nn:Int) Xc a 0):=HU.out 0 a (.inr ⟨rfl,rfl,HOK.out⟩);clear HU
 go_wp2_with (refine wp_storeAllT rfl 125 (.tmp 8) (.tmp 59) rfl (b+1) rfl [Xe Xf a.fr,Xe Xf a.tz,Xh a.rd,Xh Xc,Xh a.sh,Xe Xf a.file,Xe Xf a.base] rfl Z3.out rfl (by kernel_rfl) (by simp[Value.oneCell']) ?_)
 intro WL hbL hgL _;have HGL:Xo (Grew w WL):=show Grew _ _ from grew_grown G3.out hgL (by have:=HB.out;omega)
 have HBX:Xo (BoxT WL (b+1) 125 [Xe Xf a.fr,Xe Xf a.tz,Xh a.rd,Xh Xc,Xh a.sh,Xe Xf a.file,Xe Xf a.base]):=hbL;clear hbL hgL e0 e1 e2 e3 e4 e5 e6;go_wp2;refine bodyPost_ret (ret_cell_tmp rfl _ rfl HBX.out.box Tryz.underlying125 rfl (by kernel_rfl)) rfl ⟨⟨a,0,by rw[HOK.out];rfl,HU1.out⟩,HGL.out⟩
theorem OwnRow.other {α:Type} {E:Elt α} {b g:Nat} {w w':Xn} {v:Xq} {l:List α} {t:TypeId} {cs:List Xq} (h:OwnRow E b w v l) (hg:w.grownBy w' (Xa g)) (ho:BoxT w g t cs) (ht:t≠E.ty):OwnRow E b w' v l:=h.grown hg fun k hk e=>by
 cases e;exact h.ne ho ht g hk rfl
theorem owns_other {b size n g:Nat} {e t:TypeId} {w w':Xn} {cs:List Xq} {v:Xq} {xs:List Xq} (h:w.ownsRow b e size v n xs) (hg:w.grownBy w' (Xa g)) (ho:BoxT w g t cs) (ht:t≠e):w'.ownsRow b e size v n xs:=by
 have hne:v.ownBlock≠Xa g:=fun hv=>by
  obtain⟨_,_,ds,h3⟩:=ownsRow_own h hv;have ho':w.heap[g]? =_:=ho;rw[ho']at h3;cases h3;exact ht rfl
 refine⟨h.1,?_⟩
 rcases h.2 with h1 | ⟨k,cap,cur,rfl,h2,h3,h4⟩
 ·exact .inl h1
 exact .inr ⟨k,cap,cur,rfl,h2,by rw[hg.block k (aS.1 h3).1 (fun e=>by cases e;exact hne rfl)];exact h3,h4⟩
theorem BoxT.off {w:Xn} {b g:Nat} {t t':TypeId} {cs ds:List Xq} (h:BoxT w b t cs) (k:BoxT w g t' ds) (ht:t≠t'):b≠g:=fun e=>by
 subst e;have e1:w.heap[b]? =Xa (Xk cs.toArray t (0,0)):=h;have e2:w.heap[b]? =Xa (Xk ds.toArray t' (0,0)):=k;rw[e1]at e2;simp only[Option.some.injEq,Obj.cells.injEq]at e2;exact ht e2.2.1
theorem OwnM.other {base g:Nat} {w w':Xn} {V:MaV} {m:Ma} {cs:List Xq} (h:OwnM base w V m) (hg:w.grownBy w' (Xa g)) (hb:BoxT w g 244 cs):OwnM base w' V m:=by
 obtain⟨lo,⟨ys,f1,f2,f3,f4⟩,l1,l2⟩:=h.fl;obtain⟨xs,B,s1,s2,s3,s4,s5⟩:=h.sp;refine⟨h.fs.other hg hb (by decide),h.sl.other hg hb (by decide),⟨owns_other h.sb.1 hg hb (by decide),h.sb.2⟩,⟨owns_other h.sq.1 hg hb (by decide),h.sq.2⟩,⟨owns_other h.db.1 hg hb (by decide),h.db.2⟩,⟨owns_other h.dq.1 hg hb (by decide),h.dq.2⟩,⟨lo,⟨ys,f1.other hg hb (by decide),f2,fun i x f hx hf=>⟨(f3 i x f hx hf).1,(f3 i x f hx hf).2.other hg hb (by decide)⟩,f4⟩,l1,l2⟩,h.ca.other hg hb (by decide),⟨xs,B,s1.other hg hb (by decide),s2,s3,s4,fun i x s hx hs=>?_⟩,h.ap⟩
 have o:=s5 i x s hx hs;exact⟨o.live,o.ar.other hg hb (by decide),⟨o.tb.len,o.tb.tlen,fun j v y hv hy=>(o.tb.row j v y hv hy).other hg hb (by decide),o.tb.two⟩,o.arh,o.tbh⟩
theorem ChW.of {w0 w:Xn} {p B:Nat} {V:MaV} {m:Ma} (h:OwnM B w V m) (hB:w0.heap.size<=B) (gr:Grew w0 w) (lo:w0.heap.size<=p) (bx:BoxT w p 88 (chL V m)):ChW w0 p w V m:=by
 obtain⟨xs,Bs,s1,s2,s3,s4,s5⟩:=h.sp;have key:∀{W:Xn} {b size n:Nat} {e:TypeId} {v:Xq} {ys:List Xq},OutD (Dr w0.heap.size p V) w W->w.ownsRow b e size v n ys->B<=b->spcE.ty≠e/\frmE.ty≠e/\cchE.ty≠e/\88≠e->W.ownsRow b e size v n ys:=fun k hr hb he=>ownsRow_outD hr k fun g hg hd=>by
  obtain⟨h1,h2,cs,h3⟩:=ownsRow_own hr hg
  rcases hd with hd | hd | hd | hd | hd
  ·omega
  ·subst hd;have bx':w.heap[g]? =_:=bx;rw[bx']at h3;cases h3;exact he.2.2.2 rfl
  ·obtain⟨ds,h4⟩:=h.fs.obj hd;rw[h4]at h3;cases h3;exact he.2.1 rfl
  ·obtain⟨ds,h4⟩:=h.ca.obj hd;rw[h4]at h3;cases h3;exact he.2.2.1 rfl
  obtain⟨ds,h4⟩:=s1.obj hd;rw[h4]at h3;cases h3;exact he.1 rfl
 have keyR:∀{W:Xn} {α:Type} {E:Elt α} {b:Nat} {v:Xq} {l:List α},OutD (Dr w0.heap.size p V) w W->OwnRow E b w v l->B<=b->spcE.ty≠E.ty/\frmE.ty≠E.ty/\cchE.ty≠E.ty/\88≠E.ty->OwnRow E b W v l:=fun k hr hb he=>⟨key k hr.1 hb he,hr.2⟩
 refine⟨gr,lo,bx,h.fs.base hB,h.ca.base hB,⟨xs,s1.base hB,s2,fun i x s hx hs W k=>?_⟩,fun W k=>?_⟩
 ·have o:=s5 i x s hx hs;have hbi:B<=Bs i:=nT s3 (mono_le s4 (nZ i));have o':OwnSp (Bs i) (Bs (i+1)) W x s:=⟨o.live,keyR k o.ar hbi (by decide),⟨o.tb.len,o.tb.tlen,fun j v y hv hy=>keyR k (o.tb.row j v y hv hy) hbi (by decide),o.tb.two⟩,o.arh,o.tbh⟩
  exact o'.at
 obtain⟨lo,⟨zs,f1,f2,f3,f4⟩,l1,l2⟩:=h.fl;have hf':OwnFiles lo W (O V.fl.a V.fl.n V.fl.c) m.fl:=⟨zs,keyR k f1 l1 (by decide),f2,fun i x f hx hf=>⟨(f3 i x f hx hf).1,keyR k (f3 i x f hx hf).2 l1 (by decide)⟩,f4⟩
 have hb:=nR B;exact⟨(keyR k h.sl hb (by decide)).at,OwnPages.at ⟨key k h.sb.1 hb (by decide),h.sb.2⟩,OwnPuts.at ⟨key k h.sq.1 hb (by decide),h.sq.2⟩,OwnPages.at ⟨key k h.db.1 hb (by decide),h.db.2⟩,OwnPuts.at ⟨key k h.dq.1 hb (by decide),h.dq.2⟩,hf'.new.now0⟩
theorem ChW.lower {w0 w1 u u1:Xn} {p g:Nat} {V:MaV} {m:Ma} (h:ChW w1 p u V m) (g2:u.grownBy u1 (Xa g)) (hg:g<w1.heap.size) (gr:Grew w0 u1) (hs:w0.heap.size<=w1.heap.size):ChW w0 p u1 V m:=by
 obtain⟨xs,s1,s2,s3⟩:=h.sp;have key:∀{W:Xn},OutD (Dr w0.heap.size p V) u1 W->OutD (Dr w1.heap.size p V) u W:=fun hW=>(OutD.grown g2 (show Dr w1.heap.size p V g from .inl hg)).trans (hW.wide fun k hk=>hk.elim (fun e=> .inl (Xt e hs)) .inr)
 exact⟨gr,nT hs h.lo,h.box.beside g2 (fun k e=>by cases e;have:=h.lo;omega),(h.fs.grown g2 (fun k hk e=>by cases e;have:=(h.fs.lt _ hk).1;omega)).base hs,(h.ca.grown g2 (fun k hk e=>by cases e;have:=(h.ca.lt _ hk).1;omega)).base hs,⟨xs,(s1.grown g2 (fun k hk e=>by cases e;have:=(s1.lt _ hk).1;omega)).base hs,s2,fun i x s hx hs' W hW=>s3 i x s hx hs' W (key hW)⟩,fun W hW=>h.rest W (key hW)⟩
theorem ofOwn_any (V:MaV) (m:Ma) (w:Xn) (hm:MachAt w V m):
  Xp Tryz.prog 24 #[Xi #[O V.f.a V.f.n V.f.c,Xe Xf m.hand,O V.s.a V.s.n V.s.c,O V.sb.a V.sb.n V.sb.c,O V.sq.a V.sq.n V.sq.c,O V.db.a V.db.n V.db.c,O V.dq.a V.dq.n V.dq.c,O V.fl.a V.fl.n V.fl.c,Xe Xf m.cnt,O V.ca.a V.ca.n V.ca.c,O V.sp.a V.sp.n V.sp.c]] w fun e w'=>∃(p B:Nat) (V':MaV),e= Xl (Xj (Xa ⟨p,0,Xb⟩))/\OwnM B w' V' m/\w.heap.size<=B/\w.heap.size<=p/\BoxT w' p 88 (chL V' m)/\Grew w w':=by
 obtain⟨W1,hW1⟩:∃W1,w.alloc (Xk #[O V.f.a V.f.n V.f.c,Xe Xf m.hand,O V.s.a V.s.n V.s.c,O V.sb.a V.sb.n V.sb.c,O V.sq.a V.sq.n V.sq.c,O V.db.a V.db.n V.db.c,O V.dq.a V.dq.n V.dq.c,O V.fl.a V.fl.n V.fl.c,Xe Xf m.cnt,O V.ca.a V.ca.n V.ca.c,O V.sp.a V.sp.n V.sp.c] 42)=W1:=⟨_,rfl⟩;have G1:=gA hW1
 have X1:=xA hW1
 have HW1:Xo (_=W1):=hW1;clear hW1;have how:=ownM_any V m W1 (hm.grew G1.out);clear hm
 go_enter Tryz.func24,Tryz.ntmps24
 go_upto_region 1 with fail;rw[HW1.out];obtain⟨x0,x1,x2,x3,x4,x5,x6,x7,x8,x9,x10⟩:=X1.out.c11;go_wp2_with fail;refine how.mono ?_;clear how x0 x1 x2 x3 x4 x5 x6 x7 x8 x9 x10;rintro e W2 ⟨V',rfl,ow,g2⟩;have G2:=dD (G1.out.trans g2);have O2:Xo (OwnM W1.heap.size W2 V' m):=ow;have HS:Xo (w.heap.size<=W1.heap.size):=show _<=_ from bS G1.out
 clear ow g2;have HF:Xo (OwnM W1.heap.size (W2.alloc (Xk (chL V' m).toArray 88)) V' m/\w.heap.size<=W1.heap.size/\w.heap.size<=W2.heap.size/\BoxT (W2.alloc (Xk (chL V' m).toArray 88)) W2.heap.size 88 (chL V' m)/\Grew w (W2.alloc (Xk (chL V' m).toArray 88))):=show _/\_ from⟨O2.out.grew (grew_alloc _ _),HS.out,bS G2.out,BoxT.top _ _ _ rfl,G2.out.trans (grew_alloc _ _)⟩
 go_wp2;go_ret;exact⟨_,W1.heap.size,V',rfl,HF.out⟩
theorem viewM_ok (V:MaV) (m:Ma) (p n:Int) (w:Xn) (hm:MachAt w V m) (h0:maW m=0):
  Xp Tryz.prog 177 #[Xi #[O V.f.a V.f.n V.f.c,Xe Xf m.hand,O V.s.a V.s.n V.s.c,O V.sb.a V.sb.n V.sb.c,O V.sq.a V.sq.n V.sq.c,O V.db.a V.db.n V.db.c,O V.dq.a V.dq.n V.dq.c,O V.fl.a V.fl.n V.fl.c,Xe Xf m.cnt,O V.ca.a V.ca.n V.ca.c,O V.sp.a V.sp.n V.sp.c],Xe Xf p,Xe Xf n] w fun e w'=>e= Xl (viewV (viewL m p n))/\(viewL m p n).1.length=8/\Grew w w':=by
 have HM:Xo (MachAt w V m):=hm;have HSL:Xo (∀x e,(seeE m x e).1.length=8):=show∀x,_ from fun x e=>see_len hm.sb.2.1 hm.sq.2.1 hm.db.2.1 hm.dq.2.1 x e
 have HWR:Xo (∀W,Grew w W->Xp Tryz.prog 20 #[Xi #[O V.f.a V.f.n V.f.c,Xe Xf m.hand,O V.s.a V.s.n V.s.c,O V.sb.a V.sb.n V.sb.c,O V.sq.a V.sq.n V.sq.c,O V.db.a V.db.n V.db.c,O V.dq.a V.dq.n V.dq.c,O V.fl.a V.fl.n V.fl.c,Xe Xf m.cnt,O V.ca.a V.ca.n V.ca.c,O V.sp.a V.sp.n V.sp.c]] W fun e w'=>e= Xl (Xe Xf (maW m))/\Grew W w'):=show∀W,_ from fun W hW=>by rw[h0];exact wrongM_ok V m W (HM.out.grew hW) h0
 have HWI:Xo (∀W,Grew w W->Xp Tryz.prog 70 #[Xi #[O V.f.a V.f.n V.f.c,Xe Xf m.hand,O V.s.a V.s.n V.s.c,O V.sb.a V.sb.n V.sb.c,O V.sq.a V.sq.n V.sq.c,O V.db.a V.db.n V.db.c,O V.dq.a V.dq.n V.dq.c,O V.fl.a V.fl.n V.fl.c,Xe Xf m.cnt,O V.ca.a V.ca.n V.ca.c,O V.sp.a V.sp.n V.sp.c]] W fun e w'=>∃B,e= Xl (Xi #[O V.f.a V.f.n V.f.c,Xe Xf m.hand,O V.s.a V.s.n V.s.c,O V.sb.a V.sb.n V.sb.c,O V.sq.a V.sq.n V.sq.c,O V.db.a V.db.n V.db.c,O V.dq.a V.dq.n V.dq.c,O V.fl.a V.fl.n V.fl.c,Xe Xf m.cnt,O V.ca.a V.ca.n V.ca.c,O V.sp.a V.sp.n V.sp.c,.map (Xa B)])/\MapF plK w' B (idxG m.ca)/\Grew W w'):=show∀W,_ from fun W hW=>withIndex_any V m W (HM.out.grew hW)
 have HVW:Xo (maW m=0->∀W B (a:Ar) (n:Nat) (e:En),Grew w W->ArOk a->(a.fr<=(n:Int)/\(n:Int)<a.tz)->(e.kind=1->0<=e.n/\e.n< (m.fs.length:Int))->(e.kind=2->0<=e.n/\e.n< (m.sb.length:Int))->MapF plK W B (idxG m.ca)->Xp Tryz.prog 204 #[Xi #[O V.f.a V.f.n V.f.c,Xe Xf m.hand,O V.s.a V.s.n V.s.c,O V.sb.a V.sb.n V.sb.c,O V.sq.a V.sq.n V.sq.c,O V.db.a V.db.n V.db.c,O V.dq.a V.dq.n V.dq.c,O V.fl.a V.fl.n V.fl.c,Xe Xf m.cnt,O V.ca.a V.ca.n V.ca.c,O V.sp.a V.sp.n V.sp.c,.map (Xa B)],Xi #[Xe Xf a.fr,Xe Xf a.tz,Xh a.rd,Xh a.wr,Xh a.sh,Xe Xf a.file,Xe Xf a.base],Xe Xf (n:Int),Xi #[Xe Xf e.kind,Xe Xf e.n,Xh e.wr]] W fun r w'=>r= Xl (viewV (seeE m (oneOf a n) e))/\(seeE m (oneOf a n) e).1.length=8/\Grew W w'):=show _->_ from fun h0 W B a n e hW ha hin h1 h2 hmp=>indexView_any V m B a n e W (HM.out.grew hW) h0 ha hin h1 h2 hmp
 obtain⟨-,-,-,-,-,-,-,-,n9⟩:=hm.ns;obtain⟨xs,hxl,hrow,hsp⟩:=hm.spaces;obtain⟨vf,vs,vsb,vsq,vdb,vdq,vfl,vca,⟨spa,spn,spc⟩⟩:=V;dsimp only at n9 hrow HWR HWI HVW⊢;have HN9:Xo (m.sp.length=spn):=n9.symm;have HXL:Xo (xs.length=spn):=show _=_ by rw[hxl];exact HN9.out
 have HRW:Xo (∀(j:Nat) x,xs[j]? =Xa x->∃ad,spa=Xa ad/\∀W,Grew w W->Sp10 W (ad.add (j*10)) x):=show∀j,_ from hrow
 have HSP:Xo (∀(i:Nat) x s,xs[i]? =Xa x->m.sp[i]? =Xa s->SpaceAt w x s):=show∀i,_ from hsp
 obtain⟨E,HE⟩:∃E,Xo (maW m=E):=⟨_,rfl⟩;rw[HE.out]at HWR HVW;clear hm n9 hxl hrow hsp HM;obtain⟨W0,hW0⟩:∃W0,(w.alloc (Xk #[O vf.a vf.n vf.c,Xe Xf m.hand,O vs.a vs.n vs.c,O vsb.a vsb.n vsb.c,O vsq.a vsq.n vsq.c,O vdb.a vdb.n vdb.c,O vdq.a vdq.n vdq.c,O vfl.a vfl.n vfl.c,Xe Xf m.cnt,O vca.a vca.n vca.c,O spa spn spc] 42)).alloc (Xk #[Xe Xg 0,Xe Xg 0,Xe Xg 0,Xe Xg 0,Xe Xg 0,Xe Xg 0,Xe Xg 0,Xe Xg 0] 91)=W0:=⟨_,rfl⟩;have G0:=gD2 hW0
 have X0:=x2a hW0
 have Y0:Xo (Box W0 (w.heap.size+1) (pgc zero8)):=show Box _ _ _ by rw[<-hW0];exact Box.top _ (pgc zero8) _ (by simp)
 have HW0:Xo (_=W0):=hW0;clear hW0
 go_enter Tryz.func177,Tryz.ntmps177
 go_upto_region 1 with fail;rw[HW0.out];clear HW0;obtain⟨x0,x1,x2,x3,x4,x5,x6,x7,x8,x9,x10⟩:=X0.out.c11;have hc:=HWR.out W0 G0.out;go_wp2_with fail;refine hc.mono ?_;clear hc HWR x0 x1 x2 x3 x4 x5 x6 x7 x8 x9 x10;rintro r W1 ⟨rfl,g1⟩;have G1:=dD (G0.out.trans g1);have X1:=dD (X0.out.grew g1);have Y1:=dD (Y0.out.grew g1);clear g1 G0 X0 Y0;have hz:E=0:=by rw[<-HE.out];exact h0
 clear h0;have hze:(E != 0)=Xd:=by simp[hz]
 have HM0:Xo (maW m=0):=show _=_ by rw[HE.out];exact hz
 have HV0:Xo (viewL m p n=viewR m p n):=show _=_ by unfold viewL;rw[HE.out,if_neg (fun h=>h hz)]
 have HVX:=show Xo _ from HVW.out hz
 clear hz HVW HE;have x10:=X1.out.c 10 rfl;have hbel:=belowM_any p (spn:Int) W1;go_wp2_with fail;refine hbel.mono ?_;rintro r w' ⟨rfl,hw'⟩;rw[hw'];clear hw' w' hbel hze
 cases hb:bel p (spn:Int)with
 | false=>
  have HR:Xo (viewL m p n=(zero8,Xd,5)):=show _=_ by
   rw[HV0.out];refine view_out ?_;have h1:¬(0<=p/\p< (spn:Int)):=fun h=>by rw[bel_iff.2 h]at hb;cases hb
   rw[HN9.out];omega
  clear hb
  go_wp2_with (refine wp_storeAll rfl 91 (.tmp 6) (.tmp 24) rfl (w.heap.size+1) rfl (pgc zero8) rfl Y1.out rfl Tryz.sizePg (pgc_one _) ?_)
  intro WL hbL hgL _;have HGL:Xo (Grew w WL):=show Grew _ _ from grew_grown G1.out hgL (by omega)
  go_wp2;refine bodyPost_ret (ret_cell_tmp2 rfl _ rfl hbL Tryz.underlying91 rfl Tryz.sizePg) rfl ⟨by rw[HR.out];rfl,by rw[HR.out];rfl,HGL.out⟩
 | true=>
 obtain⟨b0,b1⟩:=bel_iff.1 hb;obtain⟨pp,rfl⟩:∃pp:Nat,p=(pp:Int):=⟨p.toNat,by omega⟩
 obtain⟨x,hx⟩:∃x,xs[pp]? =Xa x:=⟨_,gE (by rw[HXL.out];omega)⟩
 obtain⟨s,HS⟩:∃s,Xo (m.sp[pp]? =Xa s):=⟨_,gE (by rw[HN9.out];omega)⟩
 have HAT:Xo (SpaceAt w x s):=HSP.out pp x s hx HS.out;obtain⟨ad,HSA,hl⟩:∃ad,Xo (spa=Xa ad)/\∀W,Grew w W->Sp10 W (ad.add (pp*10)) x:=HRW.out pp x hx;obtain⟨d0,d1,d2,d3,d4,d5,d6,d7,d8,d9⟩:=hl W1 G1.out;rw[HSA.out]at x10;clear hl hx hb b0 HRW HSP HXL;go_upto_region 7 with fail;clear d0 d1 d2 d3 d4 d5 d6 d7 d8 d9 x10;obtain⟨pb,HPB⟩:∃pb,Xo (W1.heap.size=pb):=⟨_,rfl⟩;obtain⟨W2,hW2⟩:∃W2,W1.alloc (Xk #[Xh x.live,O x.ar.a x.ar.n x.ar.c,O x.t0.a x.t0.n x.t0.c,O x.t1.a x.t1.n x.t1.c,O x.t2.a x.t2.n x.t2.c,O x.t3.a x.t3.n x.t3.c,O x.t4.a x.t4.n x.t4.c,O x.t5.a x.t5.n x.t5.c,O x.t6.a x.t6.n x.t6.c,O x.t7.a x.t7.n x.t7.c] 76)=W2:=⟨_,rfl⟩;have g2:=gP hW2
 have S2:=xP hW2 HPB
 have G2:=dD (G1.out.trans g2);have X2:=dD (X1.out.grew g2);have Y2:=dD (Y1.out.grew g2);rw[hW2,HPB.out];clear hW2 g2 G1 X1 Y1 HPB;have s1:=S2.out.c 1 rfl;have hc:=find_any (O x.ar.a x.ar.n x.ar.c) s.ars n W2 (HAT.out.ar.grew G2.out);go_wp2_with fail;refine hc.mono ?_;clear hc s1;rintro r W3 ⟨⟨z,rfl,hz⟩,g3⟩;have HFZ:Xo (FindsZ s.ars n z):=hz;have G3:=dD (G2.out.trans g3);have X3:=dD (X2.out.grew g3);have Y3:=dD (Y2.out.grew g3);have S3:=dD (S2.out.grew g3);clear g3 hz G2 X2 Y2 S2
 by_cases hz0:z<0
 ·have HR:Xo (viewL m (pp:Int) n=(zero8,Xd,5)):=show _=_ by rw[HV0.out];exact view_none HS.out HFZ.out hz0
  go_wp2_with (refine wp_storeAll rfl 91 (.tmp 6) (.tmp 36) rfl (w.heap.size+1) rfl (pgc zero8) rfl Y3.out rfl Tryz.sizePg (pgc_one _) ?_)
  intro WL hbL hgL _;have HGL:Xo (Grew w WL):=show Grew _ _ from grew_grown G3.out hgL (by omega)
  go_wp2;refine bodyPost_ret (ret_cell_tmp2 rfl _ rfl hbL Tryz.underlying91 rfl Tryz.sizePg) rfl ⟨by rw[HR.out];rfl,by rw[HR.out];rfl,HGL.out⟩
 obtain⟨k,a,rfl,HKA,HIN⟩:∃(k:Nat) (a:Ar),z=(k:Int)/\Xo (s.ars[k]? =Xa a)/\Xo (inZ a n=Xc):=by
  rcases HFZ.out with⟨k,a,q1,q2,q3⟩ | ⟨q1,_⟩
  ·exact⟨k,a,q1,q2,q3⟩
  omega
 have HCN:Xo (CanP Xb s.ars):=(wrL_zero.1 ((pts_of (maW_parts HM0.out)).ar s (mG HS.out)).1).2;have HAO:Xo (ArOk a):=canP_at HCN.out HKA.out;obtain⟨nn,rfl⟩:∃nn:Nat,n=(nn:Int):=⟨n.toNat,by have h1:=inZ_iff.1 HIN.out;have h2:=HAO.out;unfold ArOk at h2;omega⟩
 have hn64:nn<64:=by have h1:=inZ_iff.1 HIN.out;have h2:=HAO.out;unfold ArOk at h2;omega
 obtain⟨e,HEN⟩:∃e,Xo (flatN s nn=e):=⟨_,rfl⟩;have HSE:Xo (viewL m (pp:Int) (nn:Int)=seeE m (oneOf a nn) e):=show _=_ by rw[HV0.out,view_see HS.out hn64,onAt_uniq HCN.out HKA.out (by rw[<-inZ_nat];exact HIN.out),HEN.out]
 have HCV:Xo (∀W B,Grew w W->MapF plK W B (idxG m.ca)->Xp Tryz.prog 204 #[Xi #[O vf.a vf.n vf.c,Xe Xf m.hand,O vs.a vs.n vs.c,O vsb.a vsb.n vsb.c,O vsq.a vsq.n vsq.c,O vdb.a vdb.n vdb.c,O vdq.a vdq.n vdq.c,O vfl.a vfl.n vfl.c,Xe Xf m.cnt,O vca.a vca.n vca.c,O spa spn spc,.map (Xa B)],Xi #[Xe Xf a.fr,Xe Xf a.tz,Xh a.rd,Xh a.wr,Xh a.sh,Xe Xf a.file,Xe Xf a.base],Xe Xf (nn:Int),Xi #[Xe Xf e.kind,Xe Xf e.n,Xh e.wr]] W fun r w'=>r= Xl (viewV (seeE m (oneOf a nn) e))/\(seeE m (oneOf a nn) e).1.length=8/\Grew W w'):=show∀W,_ from fun W B hW hmp=>HVX.out W B a nn e hW HAO.out (inZ_iff.1 HIN.out) (by rw[<-HEN.out];exact(ent_in HM0.out HS.out hn64).1) (by rw[<-HEN.out];exact(ent_in HM0.out HS.out hn64).2) hmp
 have HGT:Xo (∀W,Grew w W->Xp Tryz.prog 69 #[Xi #[O x.t0.a x.t0.n x.t0.c,O x.t1.a x.t1.n x.t1.c,O x.t2.a x.t2.n x.t2.c,O x.t3.a x.t3.n x.t3.c,O x.t4.a x.t4.n x.t4.c,O x.t5.a x.t5.n x.t5.c,O x.t6.a x.t6.n x.t6.c,O x.t7.a x.t7.n x.t7.c],Xe Xf (nn:Int)] W fun r w'=>r= Xl (Xi #[Xe Xf e.kind,Xe Xf e.n,Xh e.wr])/\Grew W w'):=show∀W,_ from fun W hW=>by
  have:=getTb_any x.tab s.tb (nn:Int) W (HAT.out.grew hW).tb;rw[get_flat hn64,HEN.out]at this;exact this
 have hkl:k<x.ar.n:=by rw[HAT.out.ar.n];exact(gS.1 HKA.out).1
 have hkz:(k:Int)< (x.ar.n:Int):=by omega
 obtain⟨ada,HVA,HLA⟩:∃ada,Xo (x.ar.a=Xa ada)/\Xo (∀W,Grew w W->ArCells W (ada.add (k*7)) a):=by
  obtain⟨_,_,q1,q2⟩:=HAT.out.ar.ars;simp only[vJ]at q1;obtain⟨ada,q3,q4⟩:=q2 k a HKA.out;exact⟨ada,by rw[q1.1];exact q3,q4⟩
 obtain⟨R,HRR⟩:∃R,Xo (seeE m (oneOf a nn) e=R):=⟨_,rfl⟩;have HL8:Xo (R.1.length=8):=show _=_ by rw[<-HRR.out];exact HSL.out _ _
 rw[HRR.out]at HSE HCV;clear hz0 HFZ HVX HV0 HM0 HCN HAO HIN HKA HAT HS HEN HRR;go_upto_region 10 with fail;obtain⟨I,HI⟩:∃I:Xn->Prop,Xo (∀u,I u↔Grew W3 u):=⟨fun u=>Grew W3 u,fun _=>Iff.rfl⟩
 have hI0:I W3.drew:=(HI.out _).2 (gW _)
 have hx0:=X3.out.h HI.out 0 rfl
 have hx1:=X3.out.h HI.out 1 rfl
 have hx2:=X3.out.h HI.out 2 rfl
 have hx3:=X3.out.h HI.out 3 rfl
 have hx4:=X3.out.h HI.out 4 rfl
 have hx5:=X3.out.h HI.out 5 rfl
 have hx6:=X3.out.h HI.out 6 rfl
 have hx7:=X3.out.h HI.out 7 rfl
 have hx8:=X3.out.h HI.out 8 rfl
 have hx9:=X3.out.h HI.out 9 rfl
 have hx10:=X3.out.h HI.out 10 rfl
 have hs2:=S3.out.h HI.out 2 rfl
 have hs3:=S3.out.h HI.out 3 rfl
 have hs4:=S3.out.h HI.out 4 rfl
 have hs5:=S3.out.h HI.out 5 rfl
 have hs6:=S3.out.h HI.out 6 rfl
 have hs7:=S3.out.h HI.out 7 rfl
 have hs8:=S3.out.h HI.out 8 rfl
 have hs9:=S3.out.h HI.out 9 rfl
 have hs1:∀y:HoldI I,y.world.cell? ⟨pb,1,Xb⟩=Xa (O (Xa ada) x.ar.n x.ar.c):=fun y=>by rw[<-HVA.out];exact(S3.out.grew ((HI.out _).1 y.holds)).c 1 rfl
 have ha0:∀y:HoldI I,y.world.cell? (ada.add (k*7))=Xa (Xe Xf a.fr):=fun y=>(HLA.out _ (G3.out.trans ((HI.out _).1 y.holds))).1
 have ha1:∀y:HoldI I,y.world.cell? { block:=(ada.add (k*7)).block,off:=(ada.add (k*7)).off+1 }=Xa (Xe Xf a.tz):=fun y=>(HLA.out _ (G3.out.trans ((HI.out _).1 y.holds))).2.1
 have ha2:∀y:HoldI I,y.world.cell? { block:=(ada.add (k*7)).block,off:=(ada.add (k*7)).off+2 }=Xa (Xh a.rd):=fun y=>(HLA.out _ (G3.out.trans ((HI.out _).1 y.holds))).2.2.1
 have ha3:∀y:HoldI I,y.world.cell? { block:=(ada.add (k*7)).block,off:=(ada.add (k*7)).off+3 }=Xa (Xh a.wr):=fun y=>(HLA.out _ (G3.out.trans ((HI.out _).1 y.holds))).2.2.2.1
 have ha4:∀y:HoldI I,y.world.cell? { block:=(ada.add (k*7)).block,off:=(ada.add (k*7)).off+4 }=Xa (Xh a.sh):=fun y=>(HLA.out _ (G3.out.trans ((HI.out _).1 y.holds))).2.2.2.2.1
 have ha5:∀y:HoldI I,y.world.cell? { block:=(ada.add (k*7)).block,off:=(ada.add (k*7)).off+5 }=Xa (Xe Xf a.file):=fun y=>(HLA.out _ (G3.out.trans ((HI.out _).1 y.holds))).2.2.2.2.2.1
 have ha6:∀y:HoldI I,y.world.cell? { block:=(ada.add (k*7)).block,off:=(ada.add (k*7)).off+6 }=Xa (Xe Xf a.base):=fun y=>(HLA.out _ (G3.out.trans ((HI.out _).1 y.holds))).2.2.2.2.2.2
 have hne:Nonempty (HoldI I):=⟨⟨_,hI0⟩⟩;refine wp_lax_tailI (I:=I) 16 [(1,⟨fun v=>∃B,v= Xi #[O vf.a vf.n vf.c,Xe Xf m.hand,O vs.a vs.n vs.c,O vsb.a vsb.n vsb.c,O vsq.a vsq.n vsq.c,O vdb.a vdb.n vdb.c,O vdq.a vdq.n vdq.c,O vfl.a vfl.n vfl.c,Xe Xf m.cnt,O vca.a vca.n vca.c,O spa spn spc,.map (Xa B)],fun v u=>∃B,v= Xi #[O vf.a vf.n vf.c,Xe Xf m.hand,O vs.a vs.n vs.c,O vsb.a vsb.n vsb.c,O vsq.a vsq.n vsq.c,O vdb.a vdb.n vdb.c,O vdq.a vdq.n vdq.c,O vfl.a vfl.n vfl.c,Xe Xf m.cnt,O vca.a vca.n vca.c,O spa spn spc,.map (Xa B)]/\MapF plK u B (idxG m.ca),fun p q=>Grew p q,fun _=>True⟩),(11,⟨fun v=>v= Xi #[Xe Xf e.kind,Xe Xf e.n,Xh e.wr],fun _ _=>True,fun p q=>Grew p q,fun _=>True⟩),(12,⟨fun v=>v=viewV R,fun _ _=>True,fun p q=>Grew p q,fun _=>True⟩)] hI0 mixed (by kernel_rfl) rfl rfl (by decide) ?hS ?hp ?hpre ?hpr0 ?_
 case hS=>
  intro x hx;simp only[mC,nM,or_false]at hx
  rcases hx with rfl | rfl | rfl
  ·exact⟨_,0,rfl⟩
  ·exact⟨_,rfl⟩
  exact⟨_,rfl⟩
 case hp=>
  intro k s j t hk hj hjk hanc v p q hst hpo;have hk':=lookup_in hk;have hj':=lookup_in hj;clear hk hj;simp only[mC,pJ,nM,or_false]at hk' hj'
  rcases hk' with⟨rfl,rfl⟩ | ⟨rfl,rfl⟩ | ⟨rfl,rfl⟩
  ·obtain⟨B,h1,h2⟩:=hpo
   rcases hj' with⟨rfl,rfl⟩ | ⟨rfl,rfl⟩ | ⟨rfl,rfl⟩
   ·exact absurd rfl hjk
   ·exact⟨B,h1,h2.grew hst⟩
   exact⟨B,h1,h2.grew hst⟩
  ·trivial
  trivial
 case hpre=>
  intro j t k s hj hk hjk p q hst hpr;have hj':=lookup_in hj;simp only[mC,pJ,nM,or_false]at hj'
  rcases hj' with⟨rfl,rfl⟩ | ⟨rfl,rfl⟩ | ⟨rfl,rfl⟩ <;> trivial
 case hpr0=>
  intro k t hk;have hk':=lookup_in hk;simp only[mC,pJ,nM,or_false]at hk'
  rcases hk' with⟨rfl,rfl⟩ | ⟨rfl,rfl⟩ | ⟨rfl,rfl⟩ <;> trivial
 simp only[Xu,Xv];iterate 1 (refine laxI_quiet rfl rfl rfl (fun K hK=>?_);go_big_quiet_op;refine hK _ ?_;clear hK K)
 refine laxI_spec rfl rfl (fun w' hI' hpr hF=>?_) (fun v1 hv=>?_)
 ·refine Does.call [Xi #[O vf.a vf.n vf.c,Xe Xf m.hand,O vs.a vs.n vs.c,O vsb.a vsb.n vsb.c,O vsq.a vsq.n vsq.c,O vdb.a vdb.n vdb.c,O vdq.a vdq.n vdq.c,O vfl.a vfl.n vfl.c,Xe Xf m.cnt,O vca.a vca.n vca.c,O spa spn spc]] rfl Tryz.func70 rfl rfl rfl ?_;refine(HWI.out w' (G3.out.trans ((HI.out _).1 hI'))).mono ?_;rintro e w'' ⟨B,rfl,hmp,gg⟩;exact⟨_,rfl,(HI.out _).2 (((HI.out _).1 hI').trans gg),gg,⟨B,rfl⟩,B,rfl,hmp⟩
 obtain⟨B,rfl⟩:=hv;simp only[Xs,sB,sS,sZ];iterate 9 (refine laxI_quiet rfl rfl rfl (fun K hK=>?_);go_big_quiet_op;refine hK _ ?_;clear hK K)
 refine laxI_spec rfl rfl (fun w' hI' hpr hF=>?_) (fun v1 hv=>?_)
 ·refine Does.call [Xi #[O x.t0.a x.t0.n x.t0.c,O x.t1.a x.t1.n x.t1.c,O x.t2.a x.t2.n x.t2.c,O x.t3.a x.t3.n x.t3.c,O x.t4.a x.t4.n x.t4.c,O x.t5.a x.t5.n x.t5.c,O x.t6.a x.t6.n x.t6.c,O x.t7.a x.t7.n x.t7.c],Xe Xf (nn:Int)] rfl Tryz.func69 rfl rfl rfl ?_;refine(HGT.out w' (G3.out.trans ((HI.out _).1 hI'))).mono ?_;rintro e w'' ⟨rfl,gg⟩;exact⟨_,rfl,(HI.out _).2 (((HI.out _).1 hI').trans gg),gg,rfl,trivial⟩
 subst hv;simp only[Xs,sB,sS,sZ];refine laxI_spec rfl rfl (fun w' hI' hpr hF=>?_) (fun v1 hv=>?_)
 ·obtain⟨B',hb1,hb2⟩:=hF 1 (by kernel_rfl)
  simp only[Value.agg.injEq,Array.mk.injEq,List.cons.injEq,Value.map.injEq,Option.some.injEq,and_true,true_and]at hb1;subst hb1;refine Does.call [Xi #[O vf.a vf.n vf.c,Xe Xf m.hand,O vs.a vs.n vs.c,O vsb.a vsb.n vsb.c,O vsq.a vsq.n vsq.c,O vdb.a vdb.n vdb.c,O vdq.a vdq.n vdq.c,O vfl.a vfl.n vfl.c,Xe Xf m.cnt,O vca.a vca.n vca.c,O spa spn spc,.map (Xa B)],Xi #[Xe Xf a.fr,Xe Xf a.tz,Xh a.rd,Xh a.wr,Xh a.sh,Xe Xf a.file,Xe Xf a.base],Xe Xf (nn:Int),Xi #[Xe Xf e.kind,Xe Xf e.n,Xh e.wr]] rfl Tryz.func204 rfl rfl rfl ?_;refine(HCV.out w' B (G3.out.trans ((HI.out _).1 hI')) hb2).mono ?_;rintro e w'' ⟨rfl,h8,gg⟩;exact⟨_,rfl,(HI.out _).2 (((HI.out _).1 hI').trans gg),gg,rfl,trivial⟩
 obtain⟨rl,rb,re⟩:=R;have hl8:=HL8.out;obtain⟨p0,p1,p2,p3,p4,p5,p6,p7,hrl⟩:=len8 rl hl8;subst hrl;subst hv;simp only[viewV,pgc,mP,List.map_nil];simp only[Xs,sB,sS,sZ];iterate 3 (refine laxI_quiet rfl rfl rfl (fun K hK=>?_);go_big_quiet_op;refine hK _ ?_;clear hK K)
 refine laxI_nil fun W4 hI4 hF=>?_
 have g4:=(HI.out _).1 hI4;have G4:=dD (G3.out.trans g4);have Y4:=dD (Y3.out.grew g4);have HR:=HSE;clear hF hI4 hI0 hne g4 HI G3 X3 Y3 S3 HCV HGT HWI hx0 hx1 hx2 hx3 hx4 hx5 hx6 hx7 hx8 hx9 hx10 hs1 hs2 hs3 hs4 hs5 hs6 hs7 hs8 hs9 ha0 ha1 ha2 ha3 ha4 ha5 ha6;refine wp_storeAll rfl 91 (.tmp 6) (.tmp 50) rfl (w.heap.size+1) rfl (pgc [p0,p1,p2,p3,p4,p5,p6,p7]) rfl Y4.out rfl Tryz.sizePg (pgc_one _) ?_;intro WL hbL hgL _;have HGL:Xo (Grew w WL):=show Grew _ _ from grew_grown G4.out hgL (by omega)
 go_wp2;refine bodyPost_ret (ret_cell_tmp2 rfl _ rfl hbL Tryz.underlying91 rfl Tryz.sizePg) rfl ⟨by rw[HR.out];rfl,by rw[HR.out];rfl,HGL.out⟩
def Into (k q n:Nat) (mB:Ma):Prop:=∃(s:Sp) (fr:Fr) (we:Bool),Rt mB/\mB.sp[q]? =Xa s/\mB.fs[k]? =Xa fr/\flatN s n=⟨1,(k:Int),we⟩
def NotUsed (m:Ma) (BF:Nat->Nat->Ar->Pg->Bool->Bool × Nat × Ma) (p n:Int) (wr:Bool) (er:Int):Prop:=
 er≠0/\(Usable m p n wr ar0 er\/(∃a,Usable m p n wr a 0/\(viewL m p n).2.2=er)\/(er=10/\∃(q i:Nat) (a:Ar) (pg:Pg) (ic:Bool),p=(q:Int)/\n=(i:Int)/\Usable m p n wr a 0/\viewL m p n=(pgL pg,ic,0)/\(bringR m (BF q i a pg wr) pg a ic wr q i).1=Xd))
def Used (m:Ma) (BF:Nat->Nat->Ar->Pg->Bool->Bool × Nat × Ma) (p n:Int) (wr:Bool) (k:Nat) (m':Ma):Prop:=
 ∃(q i:Nat) (a:Ar) (pg:Pg) (ic:Bool) (fr:Fr),p=(q:Int)/\n=(i:Int)/\Usable m p n wr a 0/\viewL m p n=(pgL pg,ic,0)/\(bringR m (BF q i a pg wr) pg a ic wr q i).1=Xc/\k=(bringR m (BF q i a pg wr) pg a ic wr q i).2.1/\(bringR m (BF q i a pg wr) pg a ic wr q i).2.2.fs[k]? =Xa fr/\m'=markM (bringR m (BF q i a pg wr) pg a ic wr q i).2.2 q i k fr wr a.sh
theorem pg_of {l:List Int} (h:l.length=8):∃pg:Pg,l=pgL pg:=by
 obtain⟨p0,p1,p2,p3,p4,p5,p6,p7,e⟩:=len8 l h;exact⟨⟨p0,p1,p2,p3,p4,p5,p6,p7⟩,e⟩
theorem usable_same {m:Ma} {p n:Int} {wr:Bool} {a:Ar} {er:Int} (h:Usable m p n wr a er) (he:er≠0):a=ar0:=by
 rcases h with⟨_,e,_⟩ | ⟨_,_,_,_,_,_,_,_,_,_,_,_,_,⟨_,e,_⟩ | ⟨e,_⟩⟩
 ·exact e
 ·exact e
 exact absurd e he
theorem run_allocUse {w:Xn} {a:Act} {o:Oper} (ho:o.op= .alloc 244):(execOp a.eval o).run Tryz.prog w= .ok (.value (Xj (Xa ⟨w.heap.size,0,Xb⟩))) (w.alloc (Xk #[Xj Xb,Xe Xf 0,Xe Xf 0,Xe Xf 0,Xe Xf 0,Xh Xd,Xh Xd,Xh Xd,Xe Xf 0,Xe Xf 0,Xe Xg 0,Xe Xg 0,Xe Xg 0,Xe Xg 0,Xe Xg 0,Xe Xg 0,Xe Xg 0,Xe Xg 0,Xh Xd,Xh Xd] 244)):=by
 simp only[execOp,ho]
 go_simp
theorem use_any (V:MaV) (m:Ma) (p n:Int) (wr:Bool) (w:Xn) (hm:MachAt w V m) (hR:Rt m) (BF:Nat->Nat->Ar->Pg->Bool->Bool × Nat × Ma)
  (hF:∀(w0 W:Xn) (p:Nat) (V1:MaV) (m1:Ma) (mv:Xq) (l:List (Nat × Nat)),(∀x∈l,x.2<64/\∃s,m.sp[x.1]? =Xa s)->m1=dropAll m l->ChW w0 p W V1 m1->Rt m1->freeN m1.fs=0->RowD sptE (Dw p V1) W mv l->Xp Tryz.prog 160 #[Xj (Xa ⟨p,0,Xb⟩),mv] W fun e w'=>e= Xl (Xh (freeR m1 l).1)/\Chg w0 p W V1 (freeR m1 l).2 w')
  (hB:∀(q i:Nat) (a:Ar) (pg:Pg),p=(q:Int)->n=(i:Int)->Usable m p n wr a 0->viewL m p n=(pgL pg,Xd,0)->0<=a.file->a.sh=Xc\/wr=Xd->∀(w0 W:Xn) (p:Nat) (V1:MaV),ChW w0 p W V1 m->Xp Tryz.prog 205 #[Xi #[Xj (Xa ⟨p,0,Xb⟩),Xe Xf (q:Int),Xe Xf (i:Int),Xe Xf a.fr,Xe Xf a.tz,Xh a.rd,Xh a.wr,Xh a.sh,Xe Xf a.file,Xe Xf a.base,Xe Xg pg.b0,Xe Xg pg.b1,Xe Xg pg.b2,Xe Xg pg.b3,Xe Xg pg.b4,Xe Xg pg.b5,Xe Xg pg.b6,Xe Xg pg.b7,Xh Xd,Xh wr]] W fun e w'=>e= Xl (Xm #[Xe Xf ((BF q i a pg wr).2.1:Int),Xe Xf (if(BF q i a pg wr).1=Xc then 0 else 10)])/\Chg w0 p W V1 (BF q i a pg wr).2.2 w')
  (hG:∀(q i:Nat) (a:Ar) (pg:Pg) (ic:Bool),p=(q:Int)->n=(i:Int)->Usable m p n wr a 0->viewL m p n=(pgL pg,ic,0)->(bringR m (BF q i a pg wr) pg a ic wr q i).1=Xc->Into (bringR m (BF q i a pg wr) pg a ic wr q i).2.1 q i (bringR m (BF q i a pg wr) pg a ic wr q i).2.2):
  Xp Tryz.prog 140 #[Xi #[O V.f.a V.f.n V.f.c,Xe Xf m.hand,O V.s.a V.s.n V.s.c,O V.sb.a V.sb.n V.sb.c,O V.sq.a V.sq.n V.sq.c,O V.db.a V.db.n V.db.c,O V.dq.a V.dq.n V.dq.c,O V.fl.a V.fl.n V.fl.c,Xe Xf m.cnt,O V.ca.a V.ca.n V.ca.c,O V.sp.a V.sp.n V.sp.c],Xe Xf p,Xe Xf n,Xh wr] w fun e w'=>((∃er:Int,e= Xl (Xm #[Xi zeroM.toArray,Xe Xf 0,Xe Xf er])/\NotUsed m BF p n wr er)\/(∃(V':MaV) (k pc:Nat) (m':Ma),e= Xl (Xm #[Xi #[O V'.f.a V'.f.n V'.f.c,Xe Xf m'.hand,O V'.s.a V'.s.n V'.s.c,O V'.sb.a V'.sb.n V'.sb.c,O V'.sq.a V'.sq.n V'.sq.c,O V'.db.a V'.db.n V'.db.c,O V'.dq.a V'.dq.n V'.dq.c,O V'.fl.a V'.fl.n V'.fl.c,Xe Xf m'.cnt,O V'.ca.a V'.ca.n V'.ca.c,O V'.sp.a V'.sp.n V'.sp.c],Xe Xf (k:Int),Xe Xf 0])/\Used m BF p n wr k m'/\ChW w pc w' V' m'))/\Grew w w':=by
 have HM:Xo (MachAt w V m):=hm;have HR:Xo (Rt m):=hR;have HFF:=show Xo _ from hF
 have HBB:=show Xo _ from hB
 have HGG:=show Xo _ from hG
 have HUS:Xo (∀W,Grew w W->Xp Tryz.prog 176 #[Xi #[O V.f.a V.f.n V.f.c,Xe Xf m.hand,O V.s.a V.s.n V.s.c,O V.sb.a V.sb.n V.sb.c,O V.sq.a V.sq.n V.sq.c,O V.db.a V.db.n V.db.c,O V.dq.a V.dq.n V.dq.c,O V.fl.a V.fl.n V.fl.c,Xe Xf m.cnt,O V.ca.a V.ca.n V.ca.c,O V.sp.a V.sp.n V.sp.c],Xe Xf p,Xe Xf n,Xh wr] W fun e w'=>(∃(a:Ar) (er:Int),e= Xl (Xm #[Xi #[Xe Xf a.fr,Xe Xf a.tz,Xh a.rd,Xh a.wr,Xh a.sh,Xe Xf a.file,Xe Xf a.base],Xe Xf er])/\Usable m p n wr a er)/\Grew W w'):=show∀W,_ from fun W hW=>usable_any V m p n wr W (HM.out.grew hW) hR.w
 have HVW:Xo (∀W,Grew w W->Xp Tryz.prog 177 #[Xi #[O V.f.a V.f.n V.f.c,Xe Xf m.hand,O V.s.a V.s.n V.s.c,O V.sb.a V.sb.n V.sb.c,O V.sq.a V.sq.n V.sq.c,O V.db.a V.db.n V.db.c,O V.dq.a V.dq.n V.dq.c,O V.fl.a V.fl.n V.fl.c,Xe Xf m.cnt,O V.ca.a V.ca.n V.ca.c,O V.sp.a V.sp.n V.sp.c],Xe Xf p,Xe Xf n] W fun e w'=>e= Xl (viewV (viewL m p n))/\(viewL m p n).1.length=8/\Grew W w'):=show∀W,_ from fun W hW=>viewM_ok V m p n W (HM.out.grew hW) hR.w
 clear hm hR hF hB hG;obtain⟨b,HB⟩:∃b,Xo (w.heap.size=b):=⟨_,rfl⟩;obtain⟨W0,hW0⟩:∃W0,(w.alloc (Xk #[O V.f.a V.f.n V.f.c,Xe Xf m.hand,O V.s.a V.s.n V.s.c,O V.sb.a V.sb.n V.sb.c,O V.sq.a V.sq.n V.sq.c,O V.db.a V.db.n V.db.c,O V.dq.a V.dq.n V.dq.c,O V.fl.a V.fl.n V.fl.c,Xe Xf m.cnt,O V.ca.a V.ca.n V.ca.c,O V.sp.a V.sp.n V.sp.c] 42)).alloc (Xk #[O Xb 0 0,Xe Xf 0,O Xb 0 0,O Xb 0 0,O Xb 0 0,O Xb 0 0,O Xb 0 0,O Xb 0 0,Xe Xf 0,O Xb 0 0,O Xb 0 0] 42)=W0:=⟨_,rfl⟩;have G0:=gD2 hW0
 have X0:Xo (BoxT W0 b 42 [O V.f.a V.f.n V.f.c,Xe Xf m.hand,O V.s.a V.s.n V.s.c,O V.sb.a V.sb.n V.sb.c,O V.sq.a V.sq.n V.sq.c,O V.db.a V.db.n V.db.c,O V.dq.a V.dq.n V.dq.c,O V.fl.a V.fl.n V.fl.c,Xe Xf m.cnt,O V.ca.a V.ca.n V.ca.c,O V.sp.a V.sp.n V.sp.c]):=show BoxT _ _ _ _ by rw[<-hW0];exact(BoxT.top w [O V.f.a V.f.n V.f.c,Xe Xf m.hand,O V.s.a V.s.n V.s.c,O V.sb.a V.sb.n V.sb.c,O V.sq.a V.sq.n V.sq.c,O V.db.a V.db.n V.db.c,O V.dq.a V.dq.n V.dq.c,O V.fl.a V.fl.n V.fl.c,Xe Xf m.cnt,O V.ca.a V.ca.n V.ca.c,O V.sp.a V.sp.n V.sp.c] _ HB.out.symm).grew (grew_alloc _ _)
 have Z0:Xo (BoxT W0 (b+1) 42 zeroM):=show BoxT _ _ _ _ by rw[<-hW0];exact BoxT.top _ zeroM _ (by have:=HB.out;simp;omega)
 have HW0:Xo (_=W0):=hW0;clear hW0;have hus:=HUS.out W0 G0.out
 go_enter Tryz.func140,Tryz.ntmps140
 go_upto_region 1 with fail;rw[HW0.out,HB.out];clear HW0 HUS;obtain⟨x0,x1,x2,x3,x4,x5,x6,x7,x8,x9,x10⟩:=X0.out.box.c11;go_wp2_with fail;refine hus.mono ?_;clear hus x0 x1 x2 x3 x4 x5 x6 x7 x8 x9 x10;rintro r W1 ⟨⟨a,er,rfl,hU⟩,g1⟩;have HU:Xo (Usable m p n wr a er):=hU;clear hU;go_upto_region 2 with fail;obtain⟨c,HC⟩:∃c,Xo (W1.heap.size=c):=⟨_,rfl⟩;obtain⟨W2,hW2⟩:∃W2,W1.alloc (Xk #[Xe Xf a.fr,Xe Xf a.tz,Xh a.rd,Xh a.wr,Xh a.sh,Xe Xf a.file,Xe Xf a.base] 125)=W2:=⟨_,rfl⟩;have g2:Grew W0 W2:=by rw[<-hW2];exact g1.trans (grew_alloc _ _)
 have Y2:=xPT hW2 HC
 have X2:=dD (X0.out.grew g2);have Z2:=dD (Z0.out.grew g2);have G2:=dD (G0.out.trans g2);rw[hW2,HC.out];clear hW2 g1 g2 X0 Z0 G0 HC
 by_cases he:er=0
 rotate_left
 ·have hz:(er != 0)=Xc:=by simp[he]
  have HN:Xo (NotUsed m BF p n wr er):=show NotUsed _ _ _ _ _ _ from⟨he,.inl (by have:=HU.out;rw[usable_same HU.out he]at this;exact this)⟩
  clear he
  go_wp2_with (refine wp_storeAllT rfl 42 (.tmp 8) (.tmp 27) rfl (b+1) rfl zeroM rfl Z2.out rfl (by kernel_rfl) (by unfold zeroM;simp[Value.oneCell']) ?_)
  intro WL hbL hgL _;have HGL:Xo (Grew w WL):=show Grew _ _ from grew_grown G2.out hgL (by have:=HB.out;omega)
  have HBX:Xo (BoxT WL (b+1) 42 zeroM):=hbL;clear hbL hgL;go_wp2;refine bodyPost_ret (ret_cell_tmp2 rfl _ rfl HBX.out.box Tryz.underlying42 rfl (by kernel_rfl)) rfl ⟨.inl ⟨er,rfl,HN.out⟩,HGL.out⟩
 subst he;have hvw:=HVW.out W2 G2.out;obtain⟨x0,x1,x2,x3,x4,x5,x6,x7,x8,x9,x10⟩:=X2.out.box.c11;go_wp2_with fail;refine hvw.mono ?_;clear hvw HVW x0 x1 x2 x3 x4 x5 x6 x7 x8 x9 x10;rintro r W3 ⟨rfl,hl8,g3⟩;obtain⟨VW,HVV⟩:∃VW,Xo (viewL m p n=VW):=⟨_,rfl⟩;rw[HVV.out]at hl8⊢;obtain⟨vl,ic,ev⟩:=VW;obtain⟨pg,rfl⟩:=pg_of hl8;obtain⟨b0,b1,b2,b3,b4,b5,b6,b7⟩:=pg;clear hl8;simp only[viewV,pgL,pgc,List.map];go_upto_region 5 with fail;obtain⟨d,HD⟩:∃d,Xo (W3.heap.size=d):=⟨_,rfl⟩;obtain⟨W4,hW4⟩:∃W4,W3.alloc (Xk #[Xe Xg b0,Xe Xg b1,Xe Xg b2,Xe Xg b3,Xe Xg b4,Xe Xg b5,Xe Xg b6,Xe Xg b7] 91)=W4:=⟨_,rfl⟩;have g4:Grew W2 W4:=by rw[<-hW4];exact g3.trans (grew_alloc _ _)
 have P4:=xPT hW4 HD
 have X4:=dD (X2.out.grew g4);have Z4:=dD (Z2.out.grew g4);have Y4:=dD (Y2.out.grew g4);have G4:=dD (G2.out.trans g4);rw[hW4,HD.out];clear hW4 g3 g4 X2 Y2 Z2 G2 HD
 by_cases he:ev=0
 rotate_left
 ·have hz:(ev != 0)=Xc:=by simp[he]
  have HN:Xo (NotUsed m BF p n wr ev):=show NotUsed _ _ _ _ _ _ from⟨he,.inr (.inl ⟨a,HU.out,by rw[HVV.out]⟩)⟩
  clear he
  go_wp2_with (refine wp_storeAllT rfl 42 (.tmp 8) (.tmp 39) rfl (b+1) rfl zeroM rfl Z4.out rfl (by kernel_rfl) (by unfold zeroM;simp[Value.oneCell']) ?_)
  intro WL hbL hgL _;have HGL:Xo (Grew w WL):=show Grew _ _ from grew_grown G4.out hgL (by have:=HB.out;omega)
  have HBX:Xo (BoxT WL (b+1) 42 zeroM):=hbL;clear hbL hgL;go_wp2;refine bodyPost_ret (ret_cell_tmp2 rfl _ rfl HBX.out.box Tryz.underlying42 rfl (by kernel_rfl)) rfl ⟨.inl ⟨ev,rfl,HN.out⟩,HGL.out⟩
 subst he;obtain⟨q,i,HPQ,HNI,HI64,s,HS⟩:∃q i:Nat,Xo (p=(q:Int))/\Xo (n=(i:Int))/\Xo (i<64)/\∃s,Xo (m.sp[q]? =Xa s):=by
  rcases HU.out with⟨e,_⟩ | ⟨q,i,_,s,_,e1,e2,e3,e4,_⟩
  ·cases e
  exact⟨q,i,e1,e2,e3,s,e4⟩
 rw[HPQ.out,HNI.out];have HOF:Xo (∀W,Grew w W->Xp Tryz.prog 24 #[Xi #[O V.f.a V.f.n V.f.c,Xe Xf m.hand,O V.s.a V.s.n V.s.c,O V.sb.a V.sb.n V.sb.c,O V.sq.a V.sq.n V.sq.c,O V.db.a V.db.n V.db.c,O V.dq.a V.dq.n V.dq.c,O V.fl.a V.fl.n V.fl.c,Xe Xf m.cnt,O V.ca.a V.ca.n V.ca.c,O V.sp.a V.sp.n V.sp.c]] W fun e w'=>∃(pc B:Nat) (V':MaV),e= Xl (Xj (Xa ⟨pc,0,Xb⟩))/\OwnM B w' V' m/\W.heap.size<=B/\W.heap.size<=pc/\BoxT w' pc 88 (chL V' m)/\Grew W w'):=show∀W,_ from fun W hW=>ofOwn_any V m W (HM.out.grew hW)
 go_upto_region 7 with fail;obtain⟨I,HI⟩:∃I:Xn->Prop,Xo (∀u,I u↔Grew W4 u):=⟨fun u=>Grew W4 u,fun _=>Iff.rfl⟩
 have hI0:I W4.drew:=(HI.out _).2 (gW _)
 have hne:Nonempty (HoldI I):=⟨⟨_,hI0⟩⟩;have hx0:∀y:HoldI I,y.world.cell? ⟨b,0,Xb⟩=_:=fun y=>(X4.out.box.grew ((HI.out _).1 y.holds)).c 0 rfl
 have hx1:∀y:HoldI I,y.world.cell? ⟨b,1,Xb⟩=_:=fun y=>(X4.out.box.grew ((HI.out _).1 y.holds)).c 1 rfl
 have hx2:∀y:HoldI I,y.world.cell? ⟨b,2,Xb⟩=_:=fun y=>(X4.out.box.grew ((HI.out _).1 y.holds)).c 2 rfl
 have hx3:∀y:HoldI I,y.world.cell? ⟨b,3,Xb⟩=_:=fun y=>(X4.out.box.grew ((HI.out _).1 y.holds)).c 3 rfl
 have hx4:∀y:HoldI I,y.world.cell? ⟨b,4,Xb⟩=_:=fun y=>(X4.out.box.grew ((HI.out _).1 y.holds)).c 4 rfl
 have hx5:∀y:HoldI I,y.world.cell? ⟨b,5,Xb⟩=_:=fun y=>(X4.out.box.grew ((HI.out _).1 y.holds)).c 5 rfl
 have hx6:∀y:HoldI I,y.world.cell? ⟨b,6,Xb⟩=_:=fun y=>(X4.out.box.grew ((HI.out _).1 y.holds)).c 6 rfl
 have hx7:∀y:HoldI I,y.world.cell? ⟨b,7,Xb⟩=_:=fun y=>(X4.out.box.grew ((HI.out _).1 y.holds)).c 7 rfl
 have hx8:∀y:HoldI I,y.world.cell? ⟨b,8,Xb⟩=_:=fun y=>(X4.out.box.grew ((HI.out _).1 y.holds)).c 8 rfl
 have hx9:∀y:HoldI I,y.world.cell? ⟨b,9,Xb⟩=_:=fun y=>(X4.out.box.grew ((HI.out _).1 y.holds)).c 9 rfl
 have hx10:∀y:HoldI I,y.world.cell? ⟨b,10,Xb⟩=_:=fun y=>(X4.out.box.grew ((HI.out _).1 y.holds)).c 10 rfl
 have hy0:∀y:HoldI I,y.world.cell? ⟨c,0,Xb⟩=_:=fun y=>(Y4.out.box.grew ((HI.out _).1 y.holds)).c 0 rfl
 have hy1:∀y:HoldI I,y.world.cell? ⟨c,1,Xb⟩=_:=fun y=>(Y4.out.box.grew ((HI.out _).1 y.holds)).c 1 rfl
 have hy2:∀y:HoldI I,y.world.cell? ⟨c,2,Xb⟩=_:=fun y=>(Y4.out.box.grew ((HI.out _).1 y.holds)).c 2 rfl
 have hy3:∀y:HoldI I,y.world.cell? ⟨c,3,Xb⟩=_:=fun y=>(Y4.out.box.grew ((HI.out _).1 y.holds)).c 3 rfl
 have hy4:∀y:HoldI I,y.world.cell? ⟨c,4,Xb⟩=_:=fun y=>(Y4.out.box.grew ((HI.out _).1 y.holds)).c 4 rfl
 have hy5:∀y:HoldI I,y.world.cell? ⟨c,5,Xb⟩=_:=fun y=>(Y4.out.box.grew ((HI.out _).1 y.holds)).c 5 rfl
 have hy6:∀y:HoldI I,y.world.cell? ⟨c,6,Xb⟩=_:=fun y=>(Y4.out.box.grew ((HI.out _).1 y.holds)).c 6 rfl
 have hz0:∀y:HoldI I,y.world.cell? ⟨d,0,Xb⟩=_:=fun y=>(P4.out.box.grew ((HI.out _).1 y.holds)).c 0 rfl
 have hz1:∀y:HoldI I,y.world.cell? ⟨d,1,Xb⟩=_:=fun y=>(P4.out.box.grew ((HI.out _).1 y.holds)).c 1 rfl
 have hz2:∀y:HoldI I,y.world.cell? ⟨d,2,Xb⟩=_:=fun y=>(P4.out.box.grew ((HI.out _).1 y.holds)).c 2 rfl
 have hz3:∀y:HoldI I,y.world.cell? ⟨d,3,Xb⟩=_:=fun y=>(P4.out.box.grew ((HI.out _).1 y.holds)).c 3 rfl
 have hz4:∀y:HoldI I,y.world.cell? ⟨d,4,Xb⟩=_:=fun y=>(P4.out.box.grew ((HI.out _).1 y.holds)).c 4 rfl
 have hz5:∀y:HoldI I,y.world.cell? ⟨d,5,Xb⟩=_:=fun y=>(P4.out.box.grew ((HI.out _).1 y.holds)).c 5 rfl
 have hz6:∀y:HoldI I,y.world.cell? ⟨d,6,Xb⟩=_:=fun y=>(P4.out.box.grew ((HI.out _).1 y.holds)).c 6 rfl
 have hz7:∀y:HoldI I,y.world.cell? ⟨d,7,Xb⟩=_:=fun y=>(P4.out.box.grew ((HI.out _).1 y.holds)).c 7 rfl
 refine wp_lax_tailE (I:=I) 12 [(1,⟨.const (Xh Xd),fun v=>∃pc:Nat,v= Xj (Xa ⟨pc,0,Xb⟩),fun _ v u=>∃(pc B:Nat) (V1:MaV),v= Xj (Xa ⟨pc,0,Xb⟩)/\W4.heap.size<=B/\W4.heap.size<=pc/\OwnM B u V1 m/\BoxT u pc 88 (chL V1 m),fun p q=>Grew p q,fun _=>True⟩),(10,⟨.const (Xh Xd),fun v=>∃g,v= Xj (Xa ⟨g,0,Xb⟩),fun _ v u=>∃g cs,v= Xj (Xa ⟨g,0,Xb⟩)/\W4.heap.size<=g/\BoxT u g 244 cs/\cs.length=20,fun p q=>Grew p q,fun _=>True⟩),(11,⟨.tmp 15,fun _=>True,fun r _ u=>∃(g pc B:Nat) (V1:MaV),r= Xj (Xa ⟨g,0,Xb⟩)/\W4.heap.size<=g/\BoxT u g 244 [Xj (Xa ⟨pc,0,Xb⟩),Xe Xf (q:Int),Xe Xf (i:Int),Xe Xf a.fr,Xe Xf a.tz,Xh a.rd,Xh a.wr,Xh a.sh,Xe Xf a.file,Xe Xf a.base,Xe Xg b0,Xe Xg b1,Xe Xg b2,Xe Xg b3,Xe Xg b4,Xe Xg b5,Xe Xg b6,Xe Xg b7,Xh ic,Xh wr]/\W4.heap.size<=B/\W4.heap.size<=pc/\OwnM B u V1 m/\BoxT u pc 88 (chL V1 m),fun p q=>∃g cs ds,W4.heap.size<=g/\p.grownBy q (Xa g)/\BoxT p g 244 ds/\BoxT q g 244 cs/\cs.length=20,fun _=>True⟩)] hI0 mixed (by kernel_rfl) (by kernel_rfl) rfl rfl (by decide) ?hS ?hp ?hpre ?hpr0 ?_
 case hS=>
  intro x hx;simp only[mC,nM,or_false]at hx
  rcases hx with rfl | rfl | rfl
  ·exact⟨_,0,rfl⟩
  ·exact⟨_,0,rfl⟩
  exact⟨Xh Xc,trivial⟩
 case hp=>
  intro k s j t hk hj hjk hanc r v p q hst hpo;have hk':=lookup_in hk;have hj':=lookup_in hj;clear hk hj;simp only[mC,pJ,nM,or_false]at hk' hj'
  rcases hk' with⟨rfl,rfl⟩ | ⟨rfl,rfl⟩ | ⟨rfl,rfl⟩
  ·obtain⟨pc,B,V1,h1,h2,h3,h4,h5⟩:=hpo
   rcases hj' with⟨rfl,rfl⟩ | ⟨rfl,rfl⟩ | ⟨rfl,rfl⟩
   ·exact absurd rfl hjk
   ·exact⟨pc,B,V1,h1,h2,h3,h4.grew hst,h5.grew hst⟩
   obtain⟨g',cs,ds,q1,q2,q3,q4,q5⟩:=hst;exact⟨pc,B,V1,h1,h2,h3,h4.other q2 q3,h5.beside q2 fun k hk=>by cases hk;exact h5.off q3 (by decide)⟩
  ·obtain⟨g,cs,h1,h2,h3,h4⟩:=hpo
   rcases hj' with⟨rfl,rfl⟩ | ⟨rfl,rfl⟩ | ⟨rfl,rfl⟩
   ·exact⟨g,cs,h1,h2,h3.grew hst,h4⟩
   ·exact absurd rfl hjk
   obtain⟨g',cs',ds,q1,q2,q3,q4,q5⟩:=hst
   by_cases e:g=g'
   ·subst e;exact⟨g,_,h1,h2,q4,q5⟩
   exact⟨g,cs,h1,h2,h3.beside q2 (fun k hk=>by cases hk;exact e),h4⟩
  obtain⟨g,pc,B,V1,h1,h2,h3,h4,h5,h6,h7⟩:=hpo
  rcases hj' with⟨rfl,rfl⟩ | ⟨rfl,rfl⟩ | ⟨rfl,rfl⟩
  ·exact⟨g,pc,B,V1,h1,h2,h3.grew hst,h4,h5,h6.grew hst,h7.grew hst⟩
  ·exact⟨g,pc,B,V1,h1,h2,h3.grew hst,h4,h5,h6.grew hst,h7.grew hst⟩
  exact absurd rfl hjk
 case hpre=>
  intro j t k s hj hk hjk p q hst hpr;have hj':=lookup_in hj;simp only[mC,pJ,nM,or_false]at hj'
  rcases hj' with⟨rfl,rfl⟩ | ⟨rfl,rfl⟩ | ⟨rfl,rfl⟩ <;> trivial
 case hpr0=>
  intro k t hk;have hk':=lookup_in hk;simp only[mC,pJ,nM,or_false]at hk'
  rcases hk' with⟨rfl,rfl⟩ | ⟨rfl,rfl⟩ | ⟨rfl,rfl⟩ <;> trivial
 simp only[Xu,Xv];refine laxE_quiet rfl rfl rfl (fun K hK=>?_);go_big_quiet_op;refine hK _ ?_;clear hK K
 refine laxE_spec rfl rfl (fun w' hI' hpr hF=>?_) (fun v1 hv=>?_)
 ·refine Does.call [Xi #[O V.f.a V.f.n V.f.c,Xe Xf m.hand,O V.s.a V.s.n V.s.c,O V.sb.a V.sb.n V.sb.c,O V.sq.a V.sq.n V.sq.c,O V.db.a V.db.n V.db.c,O V.dq.a V.dq.n V.dq.c,O V.fl.a V.fl.n V.fl.c,Xe Xf m.cnt,O V.ca.a V.ca.n V.ca.c,O V.sp.a V.sp.n V.sp.c]] rfl Tryz.func24 rfl rfl rfl ?_;refine(HOF.out w' (G4.out.trans ((HI.out _).1 hI'))).mono ?_;rintro e w'' ⟨pc,B,V1,rfl,ow,k1,k2,bx,gg⟩;have hs:=bS ((HI.out _).1 hI');exact⟨_,rfl,(HI.out _).2 (((HI.out _).1 hI').trans gg),gg,⟨pc,rfl⟩,pc,B,V1,rfl,nT hs k1,nT hs k2,ow,bx⟩
 obtain⟨pc,rfl⟩:=hv;simp only[Xs,sB,sS,sZ];iterate 8 (refine laxE_quiet rfl rfl rfl (fun K hK=>?_);go_big_quiet_op;refine hK _ ?_;clear hK K)
 refine laxE_spec rfl rfl (fun w' hI' hpr hF=>?_) (fun v1 hv=>?_)
 ·refine Does.step (v:= Xj (Xa ⟨w'.heap.size,0,Xb⟩)) (w':=w'.alloc (Xk #[Xj Xb,Xe Xf 0,Xe Xf 0,Xe Xf 0,Xe Xf 0,Xh Xd,Xh Xd,Xh Xd,Xe Xf 0,Xe Xf 0,Xe Xg 0,Xe Xg 0,Xe Xg 0,Xe Xg 0,Xe Xg 0,Xe Xg 0,Xe Xg 0,Xe Xg 0,Xh Xd,Xh Xd] 244)) (run_allocUse rfl) ⟨(HI.out _).2 (((HI.out _).1 hI').trans (grew_alloc _ _)),grew_alloc _ _,⟨_,rfl⟩,_,_,rfl,bS ((HI.out _).1 hI'),BoxT.top _ [Xj Xb,Xe Xf 0,Xe Xf 0,Xe Xf 0,Xe Xf 0,Xh Xd,Xh Xd,Xh Xd,Xe Xf 0,Xe Xf 0,Xe Xg 0,Xe Xg 0,Xe Xg 0,Xe Xg 0,Xe Xg 0,Xe Xg 0,Xe Xg 0,Xe Xg 0,Xh Xd,Xh Xd] _ rfl,rfl⟩
 obtain⟨pq,rfl⟩:=hv;simp only[Xs,sB,sS,sZ];refine laxE_spec rfl rfl (fun w' hI' hpr hF=>?_) (fun v1 hv=>?_)
 ·obtain⟨g,cs,hg1,hg2,hg3,hg4⟩:=hF 10 (by kernel_rfl)
  simp only[Value.pointer.injEq,Option.some.injEq,Addr.mk.injEq,and_true]at hg1;subst hg1;obtain⟨pc',B,V1,he,k1,k2,ow,bx⟩:=hF 1 (by kernel_rfl)
  simp only[Value.pointer.injEq,Option.some.injEq,Addr.mk.injEq,and_true]at he;subst he;refine Does.storeAllT 244 (.tmp 15) (.tmp 50) rfl pq rfl [Xj (Xa ⟨pc,0,Xb⟩),Xe Xf (q:Int),Xe Xf (i:Int),Xe Xf a.fr,Xe Xf a.tz,Xh a.rd,Xh a.wr,Xh a.sh,Xe Xf a.file,Xe Xf a.base,Xe Xg b0,Xe Xg b1,Xe Xg b2,Xe Xg b3,Xe Xg b4,Xe Xg b5,Xe Xg b6,Xe Xg b7,Xh ic,Xh wr] rfl hg3 (by rw[hg4];rfl) (by rw[hg4];kernel_rfl) (by simp[Value.oneCell']) fun w'' b1 b2 b3=>?_
  exact⟨(HI.out _).2 (grew_grown ((HI.out _).1 hI') b2 hg2),⟨pq,_,_,hg2,b2,hg3,b1,rfl⟩,trivial,pq,pc,B,V1,rfl,hg2,b1,k1,k2,ow.other b2 hg3,bx.beside b2 fun k hk=>by cases hk;exact bx.off hg3 (by decide)⟩
 simp only[Xs];refine laxE_nil fun W5 hI5 hF=>?_
 obtain⟨g',pc',B,V1,hg1,hg3,hg2,k1,k2,ow,bx⟩:=hF 11;have hg1':(Value.pointer (Xa ⟨pq,0,Xb⟩):Xq)= Xj (Xa ⟨g',0,Xb⟩):=hg1;simp only[Value.pointer.injEq,Option.some.injEq,Addr.mk.injEq,and_true]at hg1';subst hg1';have g5:=(HI.out _).1 hI5;have M5:Xo (ChW W4 pc' W5 V1 m):=ChW.of ow k1 g5 k2 bx;have U5:Xo (BoxT W5 pq 244 [Xj (Xa ⟨pc',0,Xb⟩),Xe Xf (q:Int),Xe Xf (i:Int),Xe Xf a.fr,Xe Xf a.tz,Xh a.rd,Xh a.wr,Xh a.sh,Xe Xf a.file,Xe Xf a.base,Xe Xg b0,Xe Xg b1,Xe Xg b2,Xe Xg b3,Xe Xg b4,Xe Xg b5,Xe Xg b6,Xe Xg b7,Xh ic,Xh wr]):=hg2;have Z5:=dD (Z4.out.grew g5);have HZL:Xo (b+1<W4.heap.size):=Z4.out.box.lt;have HWL:Xo (w.heap.size<=W4.heap.size):=show _<=_ from bS G4.out
 have G5:=dD (G4.out.trans g5);clear hF hI5 hI0 hne g5 hg1 hg2 hg3 HI HOF k1 k2 ow bx X4 Y4 Z4 P4 hx0 hx1 hx2 hx3 hx4 hx5 hx6 hx7 hx8 hx9 hx10 hy0 hy1 hy2 hy3 hy4 hy5 hy6 hz0 hz1 hz2 hz3 hz4 hz5 hz6 hz7;obtain⟨pg,HPG⟩:∃pg:Pg,Xo ((⟨b0,b1,b2,b3,b4,b5,b6,b7⟩:Pg)=pg):=⟨_,rfl⟩;have HVP:Xo (viewL m p n=(pgL pg,ic,0)):=show _=_ by rw[<-HPG.out];exact HVV.out
 have hbr:=useBring_any M5.out HR.out q i s HS.out HI64.out a ⟨b0,b1,b2,b3,b4,b5,b6,b7⟩ ic wr (fun l mv hl h0 W1 V2 hc hv=>HFF.out W4 W1 pc' V2 (dropAll m l) mv l hl rfl hc (dropAll_goes l HR.out hl).1.rt h0 hv) (BF q i a ⟨b0,b1,b2,b3,b4,b5,b6,b7⟩ wr) (fun hc W hW=>by
  obtain⟨⟨h1,h2⟩,h3⟩:=hc;have hv:=HVV.out;rw[h2]at hv⊢;exact HBB.out q i a ⟨b0,b1,b2,b3,b4,b5,b6,b7⟩ HPQ.out HNI.out HU.out hv h1 h3 W4 W pc' V1 (M5.out.grew hW))
 simp only at hbr;rw[HPG.out]at hbr;obtain⟨BR,HBR⟩:∃BR,Xo (bringR m (BF q i a pg wr) pg a ic wr q i=BR):=⟨_,rfl⟩;have HIN:Xo (BR.1=Xc->Into BR.2.1 q i BR.2.2):=show _->_ from fun h=>by
  rw[<-HBR.out]at h⊢;exact HGG.out q i a pg ic HPQ.out HNI.out HU.out HVP.out h
 rw[HBR.out]at hbr;obtain⟨eb,HEB⟩:∃eb:Int,Xo ((if BR.1=Xc then(0:Int)else 10)=eb):=⟨_,rfl⟩;rw[HEB.out]at hbr;clear HFF HBB HGG
 go_wp2_with (refine wp_loadAll rfl 244 (.tmp 15) rfl pq rfl U5.out.box Tryz.underlying244 rfl (by kernel_rfl) ?_)
 refine hbr.mono ?_;clear hbr;rintro r W6 ⟨rfl,V6,c6,o6,d6⟩;have U6:Xo (BoxT W6 pq 244 [Xj (Xa ⟨pc',0,Xb⟩),Xe Xf (q:Int),Xe Xf (i:Int),Xe Xf a.fr,Xe Xf a.tz,Xh a.rd,Xh a.wr,Xh a.sh,Xe Xf a.file,Xe Xf a.base,Xe Xg b0,Xe Xg b1,Xe Xg b2,Xe Xg b3,Xe Xg b4,Xe Xg b5,Xe Xg b6,Xe Xg b7,Xh ic,Xh wr]):=U5.out.outD o6 (M5.out.offB U5.out (by decide) (by decide) (by decide) (by decide))
 have Z6:Xo (BoxT W6 (b+1) 42 zeroM):=Z5.out.outD o6 (fun e=>by have:=M5.out.dlo _ e;have:=HZL.out;omega)
 have M6:Xo (ChW W4 pc' W6 V6 BR.2.2):=c6;have G6:Xo (Grew w W6):=G4.out.trans c6.gr;clear c6 o6 d6 U5 Z5 M5 G5;obtain⟨bb,kb,mB⟩:=BR;simp only at M6 HIN⊢
 cases bb with
 | false=>
  have h10:eb=10:=by rw[<-HEB.out];rfl
  subst h10;have HN:Xo (NotUsed m BF p n wr 10):=show NotUsed _ _ _ _ _ _ from⟨by decide,.inr (.inr ⟨rfl,q,i,a,pg,ic,HPQ.out,HNI.out,HU.out,HVP.out,by rw[HBR.out]⟩)⟩
  go_wp2_with (refine wp_storeAllT rfl 42 (.tmp 8) (.tmp 58) rfl (b+1) rfl zeroM rfl Z6.out rfl (by kernel_rfl) (by unfold zeroM;simp[Value.oneCell']) ?_)
  intro WL hbL hgL _;have HGL:Xo (Grew w WL):=show Grew _ _ from grew_grown G6.out hgL (by have:=HB.out;omega)
  have HBX:Xo (BoxT WL (b+1) 42 zeroM):=hbL;clear hbL hgL;go_wp2;refine bodyPost_ret (ret_cell_tmp2 rfl _ rfl HBX.out.box Tryz.underlying42 rfl (by kernel_rfl)) rfl ⟨.inl ⟨10,rfl,HN.out⟩,HGL.out⟩
 | true=>
  have h10:eb=0:=by rw[<-HEB.out];rfl
  subst h10;obtain⟨s',fr,we,i1,i2,i3,i4⟩:=HIN.out rfl;have HUD:Xo (Used m BF p n wr kb (markM mB q i kb fr wr a.sh)):=show Used _ _ _ _ _ _ _ from⟨q,i,a,pg,ic,fr,HPQ.out,HNI.out,HU.out,HVP.out,by rw[HBR.out],by rw[HBR.out],by rw[HBR.out];exact i3,by rw[HBR.out]⟩
  have hmk:=useMark_any M6.out q i kb fr s' we i3 i1.inv.fs40 (fun s hs=>i1.tb hs) i2 HI64.out i4 a ⟨b0,b1,b2,b3,b4,b5,b6,b7⟩ ic wr
  obtain⟨mM,HMM⟩:∃mM,Xo (markM mB q i kb fr wr a.sh=mM):=⟨_,rfl⟩;simp only at hmk;rw[HMM.out]at hmk HUD;clear i1 i2 i3 i4 HIN HMM HEB HBR
  go_wp2_with (refine wp_loadAll rfl 244 (.tmp 15) rfl pq rfl U6.out.box Tryz.underlying244 rfl (by kernel_rfl) ?_)
  refine hmk.mono ?_;clear hmk;rintro r W7 ⟨⟨v7,rfl⟩,V7,c7,o7,d7⟩;have U7:Xo (BoxT W7 pq 244 [Xj (Xa ⟨pc',0,Xb⟩),Xe Xf (q:Int),Xe Xf (i:Int),Xe Xf a.fr,Xe Xf a.tz,Xh a.rd,Xh a.wr,Xh a.sh,Xe Xf a.file,Xe Xf a.base,Xe Xg b0,Xe Xg b1,Xe Xg b2,Xe Xg b3,Xe Xg b4,Xe Xg b5,Xe Xg b6,Xe Xg b7,Xh ic,Xh wr]):=U6.out.outD o7 (M6.out.offB U6.out (by decide) (by decide) (by decide) (by decide))
  have Z7:Xo (BoxT W7 (b+1) 42 zeroM):=Z6.out.outD o7 (fun e=>by have:=M6.out.dlo _ e;have:=HZL.out;omega)
  have M7:Xo (ChW W4 pc' W7 V7 mM):=c7;clear c7 o7 d7 U6 Z6 M6 G6;have u0:=U7.out.box.c 0 rfl;obtain⟨r0,r1,r2,r3,r4,r5,r6,r7,r8,r9,r10⟩:=M7.out.box.box.c11;have HZO:Xo (∀v∈chL V7 mM,v.oneCell'=Xc):=show∀v∈chL V7 mM,_ by simp[chL,Value.oneCell']
  go_wp2_with (refine wp_storeAllT rfl 42 (.tmp 8) (.tmp 67) rfl (b+1) rfl (chL V7 mM) rfl Z7.out rfl (by kernel_rfl) HZO.out ?_)
  clear u0 r0 r1 r2 r3 r4 r5 r6 r7 r8 r9 r10;intro W8 bx8 gr8 _;have G8:Xo (Grew w W8):=show Grew _ _ from grew_grown (G4.out.trans M7.out.gr) gr8 (by have:=HB.out;omega)
  have B8:Xo (BoxT W8 (b+1) 42 (chL V7 mM)):=bx8;have HF:Xo (ChW w pc' W8 V7 mM):=M7.out.lower gr8 HZL.out G8.out HWL.out;clear bx8 gr8;go_wp2;refine bodyPost_ret (ret_cell_tmp2 rfl _ rfl B8.out.box Tryz.underlying42 rfl (by kernel_rfl)) rfl ⟨.inr ⟨V7,kb,pc',mM,rfl,HUD.out,HF.out⟩,G8.out⟩
theorem Tryz.arrPage:Tryz.prog.underlying 91=Xa (.array (Tryz.prog.arrayLen 91) (Tryz.prog.elem 91)):=by kernel_rfl
theorem Tryz.lenPage:Tryz.prog.arrayLen 91=8:=by kernel_rfl
theorem Tryz.elemPage:Tryz.prog.elem 91=5:=by kernel_rfl
def pgWithin (m n:Int):Bool:=decide (0<=m/\0<=n/\n<=8 - m % 8)
theorem retB {a b:Bool} (h:a=b):Ending.returned (Xh a)= Xl (Xh b):=by rw[h]
theorem pgWithin_any (m n:Int) (w:Xn) (h1:-9223372036854775808<=m) (h2:m<=9223372036854775807) (h3:-9223372036854775808<=n) (h4:n<=9223372036854775807):
  Xp Tryz.prog 139 #[Xe Xf m,Xe Xf n] w fun e w'=>e= Xl (Xh (pgWithin m n))/\w'=w:=by
 by_cases hm:0<=m
 ·by_cases hn:0<=n
  ·have H:Xo (pgWithin m n=decide (n<=8 - m % 8)):=show pgWithin m n=_ by unfold pgWithin;simp[hm,hn]
   go_enter Tryz.func139,Tryz.ntmps139
   go_wp2;go_ret;exact⟨retB H.out.symm,rfl⟩
  have H:Xo (pgWithin m n=Xd):=show pgWithin m n=_ by unfold pgWithin;simp;omega
  go_enter Tryz.func139,Tryz.ntmps139
  go_wp2;go_ret;exact⟨retB H.out.symm,rfl⟩
 have H:Xo (pgWithin m n=Xd):=show pgWithin m n=_ by unfold pgWithin;simp;omega
 go_enter Tryz.func139,Tryz.ntmps139
 go_wp2;go_ret;exact⟨retB H.out.symm,rfl⟩
def pgHas (m:Int):Bool:=decide (0<=m/\m<8)
theorem pgHas_any (m:Int) (w:Xn):Xp Tryz.prog 141 #[Xe Xf m] w fun e w'=>e= Xl (Xh (pgHas m))/\w'=w:=by
 by_cases hm:0<=m
 ·have H:Xo (pgHas m=decide (m<8)):=show pgHas m=_ by unfold pgHas;simp[hm]
  go_enter Tryz.func141,Tryz.ntmps141
  go_wp2;go_ret;exact⟨retB H.out.symm,rfl⟩
 have H:Xo (pgHas m=Xd):=show pgHas m=_ by unfold pgHas;simp;omega
 go_enter Tryz.func141,Tryz.ntmps141
 go_wp2;go_ret;exact⟨retB H.out.symm,rfl⟩
theorem slice_pgI (B i:Nat) (hi:i<8) (w:Xn):(Instr.sliceAt 91 (Xj (Xa ⟨B,0,Xb⟩)) (Xa (Xe Xf (i:Int))) Xb Xb).run Tryz.prog w= .ok (O (Xa ⟨B,i,Xb⟩) (8 - i) (8 - i)) w:=by
 obtain⟨i5,hi5,hz0,hz1,hz2⟩:=info_parts Tryz.infoU8;rw[run_sliceAt_array_l w 91 ⟨B,0,Xb⟩ Tryz.arrPage .i64 i (by omega) (by rw[Tryz.lenPage];omega),Tryz.lenPage,Tryz.elemPage]
 simp[sizeOf,typeInfo,hi5,hz1,slicedAt,Result.andThen,Xw]
 omega
theorem pageGetAt_any (l:List Int) (i n:Nat) (w:Xn) (hl:l.length=8) (hi8:i<8) (hn:i+n<=8):
  Xp Tryz.prog 82 #[Xi (pgc l).toArray,Xe Xf (i:Int),Xe Xf (n:Int)] w fun e w'=>∃v,e= Xl v/\OwnRow byE w.heap.size w' v ((l.drop i).take n)/\Grew w w':=by
 have HL:Xo (l.length=8):=hl;obtain⟨W0,hW0⟩:∃W0,w.alloc (Xk (pgc l).toArray 91)=W0:=⟨_,rfl⟩;have G0:=gA hW0
 have X0:=xA hW0
 have HS0:=sA hW0
 have HW0:Xo (_=W0):=hW0;have hd:decide ((n:Int)<0)=Xd:=decide_eq_false (by omega)
 have hd2:decide ((8:Int) -(i:Int)< (n:Int))=Xd:=decide_eq_false (by omega)
 have hd3:decide ((i:Int)<0)=Xd:=decide_eq_false (by omega)
 clear hW0 hl
 go_enter Tryz.func82,Tryz.ntmps82
 go_upto_region 3 with fail;rw[HW0.out];clear HW0 hd hd2 hd3
 go_wp2_with (refine wpList_make_row byE rfl (.tmp 20) rfl n rfl (by show n*1<=_;omega) ?_)
 intro C own;obtain⟨W1,hW1⟩:∃W1,W0.alloc (Xk C byE.ty)=W1:=⟨_,rfl⟩;have g1:Grew W0 W1:=by rw[<-hW1];exact grew_alloc _ _
 have O1:Xo (OwnRow byE (w.heap.size+1) W1 (O (Xa ⟨w.heap.size+1,0,Xb⟩) n n) (Xr n 0)):=show OwnRow _ _ _ _ _ by
  rw[hW1,HS0.out]at own;exact own
 have X1:=dD (X0.out.grew g1);have G1:=dD (G0.out.trans g1);rw[hW1,HS0.out];clear hW1 own g1 X0 G0;have hsl:=slice_pgI w.heap.size i hi8 W1;have HMT:Xo (((l.drop i).take n).length=n):=show _=_ by rw[List.length_take,List.length_drop,HL.out];omega
 have HSC:Xo (Cells W1 ⟨w.heap.size,i,Xb⟩ (((l.drop i).take n).flatMap byE.enc)):=show Cells _ _ _ from fun j u hu=>by
  have he:((l.drop i).take n).flatMap byE.enc=pgc ((l.drop i).take n):=by
   unfold pgc;rw[List.flatMap_def]
   induction((l.drop i).take n)with
   | nil=>rfl
   | cons x xs ih=>simp only[mP,List.flatten_cons,ih];rfl
  rw[he]at hu;have h2:(pgc l)[i+j]? =Xa u:=by
   unfold pgc at hu⊢;rw[Xx]at hu⊢;rw[List.getElem?_take]at hu
   split at hu
   ·rw[List.getElem?_drop]at hu;exact hu
   cases hu
  have:=X1.out.c (i+j) h2;rw[Xw];exact this
 go_wp2_with (refine wpList_copy_elts (E:=byE) rfl (.tmp 22) (.tmp 24) rfl (w.heap.size+1) _ (Xr n 0) O1.out (w.heap.size+1) rfl 0 n n ⟨w.heap.size+1,0,Xb⟩ rfl rfl ⟨w.heap.size,i,Xb⟩ (8 - i) (8 - i) rfl ((l.drop i).take n) ?qm HSC.out ?qf ?_)
 case qm=>
  rw[HMT.out]
  show n=min (8 - i) n
  omega
 case qf=>
  rw[HMT.out,lR];omega
 intro W2 own2 g2 _;have HRW:Xo (OwnRow byE w.heap.size W2 (O (Xa ⟨w.heap.size+1,0,Xb⟩) n n) ((l.drop i).take n)):=show OwnRow _ _ _ _ _ by
  rw[HL.out,show n - min n (8 - i)=0 by omega,List.replicate_zero,List.append_nil]at own2
  exact own2.base (Nat.le_succ _)
 have HG2:Xo (Grew w W2):=show Grew _ _ from grew_grown G1.out g2 (by omega)
 clear own2 g2;go_wp2;refine bodyPost_ret (results_tmp rfl _ _ _) rfl ⟨O (Xa ⟨w.heap.size+1,0,Xb⟩) n n,rfl,HRW.out,HG2.out⟩
theorem map_splice {α β:Type} (f:α->β) (L:List α) (off:Nat) (cs:List α):(splice L off cs).map f=splice (L.map f) off (cs.map f):=by
 simp[splice,List.map_take,List.map_drop]
theorem setRow_alloc2 (w:Xn) (cur cs:Array Xq) (t:TypeId) (o:Obj):((w.alloc (Xk cur t)).alloc o).setRow w.heap.size cs=(w.alloc (Xk cs t)).alloc o:=by
 unfold World.setRow World.alloc
 congr 1
 apply Array.ext
 ·simp
 intro i h1 h2;simp only[Array.getElem_modify,Array.getElem_push,Array.size_push];simp only[Array.size_modify,Array.size_push]at h1
 by_cases h3:i=w.heap.size
 ·subst h3;simp
 by_cases h4:i<w.heap.size
 ·simp[h4,Ne.symm h3]
 have:i=w.heap.size+1:=by omega
 subst this;simp
theorem wpList_copy_box {P:Program} {w:Xn} {ops:Array Oper} {rest:List Oper} {o:Oper} {a:Act} {Q:Exit->Act->Xn->Prop} (hgd:o.guard=Xb) (d s:Operand) (dT sT:TypeId)
  (ho:o.op= .call { callee:= .builtin .copy,args:=#[d,s],argTypes:=#[dT,sT] }) (elem:TypeId) (hu:P.underlying dT=Xa (.slice elem)) (hsz:(P.info? elem).map (·.size)=Xa 1)
  (dp sp:Option Addr) (dLen dCap sLen sCap:Nat) (hd:a.eval d= O dp dLen dCap) (hs:a.eval s= O sp sLen sCap)
  (off:Nat) (cur:List Xq) (t:TypeId) (o2:Obj) (cs:List Xq) (hn:cs.length=Nat.min sLen dLen)
  (hpos:0<cs.length->dp=Xa ⟨w.heap.size,off,Xb⟩/\∃ad,sp=Xa ad/\∀j v,cs[j]? =Xa v->w.cell? (ad.add j)=Xa v)
  (hfit:off+cs.length<=cur.length) (h1:∀v∈cs,v.oneCell'=Xc) (res:List Xq) (hres:splice cur off cs=res)
  (h:wpList P ops Q rest (a.put o.dst (goInt cs.length)) ((w.alloc (Xk res.toArray t)).alloc o2)):
  wpList P ops Q (o :: rest) a ((w.alloc (Xk cur.toArray t)).alloc o2):=by
 subst hres
 by_cases h0:cs.length=0
 ·obtain rfl:cs=[]:=eN h0;refine wpList_copy_nothing hgd d s dT sT ho elem hu hsz dp sp dLen dCap sLen sCap hd hs (by simpa using hn.symm) ?_
  simpa [splice]using h
 obtain⟨rfl,ad,rfl,hsrc⟩:=hpos (by omega)
 refine wpList_copy_own hgd d s dT sT ho elem hu hsz w.heap.size off dLen dCap ad sLen sCap hd hs cur.toArray t ?_ cs hn (fun j v hj=>?_) (by simpa using hfit) h1 ?_
 ·rw[Below.heap_alloc _ _ _ (by simp)]
  show(w.heap.push _)[w.heap.size]? =_
  simp
 ·have hc:=hsrc j v hj;have hlt:=World.block_lt_of_cell? _ _ hc;rw[World.cell?_alloc_lt _ _ _ (by simp;omega),World.cell?_alloc_lt _ _ _ hlt]
  exact hc
 rw[setRow_alloc2]
 simpa [splice]using h
theorem pageSetAt_any (b0 b1 b2 b3 b4 b5 b6 b7 c0 c1 c2 c3 c4 c5 c6 c7:Int) (i:Nat) (ns:List Int) (a:Option Addr) (cap:Nat) (w:Xn) (hi:i<8) (hl:i+ns.length<=8) (hv:RowAt byE w (O a ns.length cap) ns)
  (hc:splice [b0,b1,b2,b3,b4,b5,b6,b7] i ns=[c0,c1,c2,c3,c4,c5,c6,c7]):
  Xp Tryz.prog 83 #[Xi #[Xe Xg b0,Xe Xg b1,Xe Xg b2,Xe Xg b3,Xe Xg b4,Xe Xg b5,Xe Xg b6,Xe Xg b7],Xe Xf (i:Int),O a ns.length cap] w fun e w'=>
   e= Xl (Xi #[Xe Xg c0,Xe Xg c1,Xe Xg c2,Xe Xg c3,Xe Xg c4,Xe Xg c5,Xe Xg c6,Xe Xg c7])/\Grew w w':=by
 have HH:Xo (pgHas i=Xc):=show _=_ by unfold pgHas;simp;omega
 have hcv:splice ([b0,b1,b2,b3,b4,b5,b6,b7].map (Value.int .u8)) i (ns.map (Value.int .u8))=[Xe Xg c0,Xe Xg c1,Xe Xg c2,Xe Xg c3,Xe Xg c4,Xe Xg c5,Xe Xg c6,Xe Xg c7]:=by
  rw[<-map_splice,hc];rfl
 have HC:Xo (splice ([b0,b1,b2,b3,b4,b5,b6,b7].map (Value.int .u8)) i (ns.map (Value.int .u8))=[Xe Xg c0,Xe Xg c1,Xe Xg c2,Xe Xg c3,Xe Xg c4,Xe Xg c5,Xe Xg c6,Xe Xg c7]):=hcv;have HP:Xo (0< (ns.map (Value.int .u8)).length->∃ad,a=Xa ad/\∀j v,(ns.map (Value.int .u8))[j]? =Xa v->w.cell? (ad.add j)=Xa v):=show _->_ from fun hpos=>by
  rw[List.length_map]at hpos;obtain⟨ad,h1,_⟩:=hv.rowsAt 0 _ (gE hpos);refine⟨ad,h1,fun j u hj=>?_⟩
  rw[Xx]at hj
  cases hn:ns[j]? with
  | none=>rw[hn]at hj;cases hj
  | some z=>
   rw[hn]at hj;cases hj;obtain⟨ad',h2,h3⟩:=hv.rowsAt j z hn;rw[h1]at h2;cases h2;have:=h3 w (Grew.refl _) 0 _ rfl;rw[show byE.k=1 from rfl,Nat.mul_one]at this
   simpa [Addr.add]using this
 have hsl:=fun W=>slice_pgI w.heap.size i hi W
 clear hcv hc hv
 go_enter Tryz.func83,Tryz.ntmps83
 go_wp2_with (first
  | (go_at_call 141;refine(pgHas_any _ _).mono ?_;rintro e w' ⟨rfl,rfl⟩;rw[HH.out])
  | (refine wpList_copy_box (w:=w) rfl (.tmp 12) (.tmp 13) 24 24 rfl 5 Tryz.underlying24 (by kernel_rfl) _ _ _ _ _ _ rfl rfl i ([b0,b1,b2,b3,b4,b5,b6,b7].map (Value.int .u8)) 91 _ (ns.map (Value.int .u8)) (by simp;show _=min _ _;omega) (fun hp=>⟨rfl,HP.out hp⟩) (by simp;omega) (ints_oneCell _ _) _ HC.out ?_))
 exact bodyPost_ret (v:= Xi #[Xe Xg c0,Xe Xg c1,Xe Xg c2,Xe Xg c3,Xe Xg c4,Xe Xg c5,Xe Xg c6,Xe Xg c7]) (by simp[results,Tryz.results83,go_sem]) rfl ⟨rfl,(show Below _ _ _ from((bR _ _).alloc (nR _) _).alloc (by simp) _)⟩
theorem takeH {P:Program} {ops:Array Oper} {Q:Exit->Act->Xn->Prop} {md:Region.Mode} {S:Xn->Prop} (i:Nat) {oi:Oper} (d:Option Tmp) (v:Xq) {fuel:Nat} {listed:Array Bool} {a:Act} {w:Xn} (hi:ops[i]? =Xa oi) (hd:oi.dst=d)
  (hs:Region.noSelect ops=Xc) (hf:Region.free md ops listed i=Xc) (hr:(Region.ready md ops listed).contains i=Xc)
  (hQ:∀c a w,Q (.panic c) (a.put d v) w->Q (.panic c) a w) (hy:YieldsIf P ops S oi v a) (hS:S w)
  (h:wpAnyH P md ops Q S fuel (listed.setIfInBounds i Xc) (a.put d v) w):wpAnyH P md ops Q S (fuel+1) listed a w:=by
 subst hd;exact wpAnyH_take hi hs hf hr hQ hy hS h
structure Cl where
 kind:Int
 proc:Int
 pt:Int
 n:Int
 file:Int
 base:Int
 rd:Bool
 wr:Bool
 sh:Bool
 dv:Sli
def clL (c:Cl):List Xq:=[Xe Xf c.kind,Xe Xf c.proc,Xe Xf c.pt,Xe Xf c.n,Xe Xf c.file,Xe Xf c.base,Xh c.rd,Xh c.wr,Xh c.sh,O c.dv.a c.dv.n c.dv.c]
theorem ChW.rebase {w0 w1 u:Xn} {p:Nat} {V:MaV} {m:Ma} (h:ChW w1 p u V m) (gr:Grew w0 u) (hs:w0.heap.size<=w1.heap.size):ChW w0 p u V m:=by
 obtain⟨xs,s1,s2,s3⟩:=h.sp;have key:∀{W:Xn},OutD (Dr w0.heap.size p V) u W->OutD (Dr w1.heap.size p V) u W:=fun hW=>hW.wide fun k hk=>hk.elim (fun e=> .inl (Xt e hs)) .inr
 exact⟨gr,nT hs h.lo,h.box,h.fs.base hs,h.ca.base hs,⟨xs,s1.base hs,s2,fun i x s hx hs' W hW=>s3 i x s hx hs' W (key hW)⟩,fun W hW=>h.rest W (key hW)⟩
theorem run_allocMach {w:Xn} {a:Act} {o:Oper} (ho:o.op= .alloc 42):(execOp a.eval o).run Tryz.prog w= .ok (.value (Xj (Xa ⟨w.heap.size,0,Xb⟩))) (w.alloc (Xk zeroM.toArray 42)):=by
 simp only[execOp,ho,zeroM]
 go_simp
theorem run_load1 {o:Oper} {a:Act} {w:Xn} (ty:TypeId) (x:Operand) (ho:o.op= .load ty x) (ad:Addr) (hx:a.eval x= Xj (Xa ad)) (v:Xq) (hc:w.cell? ad=Xa v) {d:TypeDesc} (hu:Tryz.prog.underlying ty=Xa d) (hd:d.isRow=Xd):(execOp a.eval o).run Tryz.prog w= .ok (.value v) w:=runs_loadA ty x ho ad hx v hc hu hd
def ansV (er n:Int) (s:Sli):Xq:= Xi #[Xe Xf er,Xe Xf n,O s.a s.n s.c]
def noS:Sli:=⟨Xb,0,0⟩
theorem OutD.beyond {D:Nat->Prop} {w w1 w2:Xn} {g:Nat} (o:OutD D w w1) (g2:w1.grownBy w2 (Xa g)) (hg:w.heap.size<=g):OutD D w w2:=by
 have o3:=OutD.grown (D:=fun k=>k=g) g2 rfl
 refine⟨o3.os.trans o.os,o3.tape.trans o.tape,o3.output.trans o.output,nT o.size o3.size,fun i hi hn=>?_⟩
 rw[o3.block i (Xt hi o.size) (fun e=>by have e:i=g:=e;omega)]
 exact o.block i hi hn
def WorkA (K:Int->Int->List Int->Ma->Prop) (w0:Xn) (p:Nat) (w:Xn) (e:Ending) (w':Xn):Prop:=
 ∃(er n:Int) (s:Sli) (l:List Int) (V':MaV) (m':Ma),e= Xl (ansV er n s)/\K er n l m'/\OutD (fun k=>k=p) w w'/\Grew w0 w'/\(∀W,OutD (fun k=>k<w.heap.size) w' W->RowAt byE W (O s.a s.n s.c) l)/\(er=0->BoxT w' p 88 (chL V' m')/\∀W,OutD (fun k=>k<w.heap.size) w' W->MachAt W V' m')
theorem WorkA.err {K:Int->Int->List Int->Ma->Prop} {w0 w w':Xn} {p:Nat} {V:MaV} {m:Ma} {er:Int} (he:er≠0) (hk:K er 0 [] m) (o:OutD (fun k=>k=p) w w') (g:Grew w0 w'):WorkA K w0 p w (Xl (ansV er 0 noS)) w':=
 ⟨er,0,noS,[],V,m,rfl,hk,o,g,fun _ _=>RowAt.nil _ _,fun h=>absurd h he⟩
theorem WorkA.ok {K:Int->Int->List Int->Ma->Prop} {w0 w w':Xn} {p:Nat} {V':MaV} {m':Ma} {n:Int} (hk:K 0 n [] m') (o:OutD (fun k=>k=p) w w') (g:Grew w0 w') (b:BoxT w' p 88 (chL V' m')) (h:∀W,OutD (fun k=>k<w.heap.size) w' W->MachAt W V' m'):WorkA K w0 p w (Xl (ansV 0 n noS)) w':=
 ⟨0,n,noS,[],V',m',rfl,hk,o,g,fun _ _=>RowAt.nil _ _,fun _=>⟨b,h⟩⟩
theorem refused_any (er:Int) (w:Xn):Xp Tryz.prog 21 #[Xe Xf er] w fun e w'=>e= Xl (ansV er 0 noS)/\Grew w w':=by
 unfold ansV noS
 go_enter Tryz.func21,Tryz.ntmps21
 go_wp2;refine bodyPost_ret (ret_cell rfl _ rfl (Box.top _ [Xe Xf er,Xe Xf 0,O Xb 0 0] _ rfl) Tryz.underlying50 rfl (by kernel_rfl)) rfl ⟨rfl,(show Below _ _ _ from(bR _ _).alloc (nR _) _)⟩
theorem belowK_any (n m:Int) (w:Xn):Xp Tryz.prog 74 #[Xe Xf n,Xe Xf m] w fun e w'=>e= Xl (Xh (decide (0<=n) && decide (n<m)))/\w'=w:=by
 by_cases h:0<=n
 ·have hd:decide (0<=n)=Xc:=decide_eq_true h;rw[hd,Bool.true_and]
  go_enter Tryz.func74,Tryz.ntmps74
  go_wp2;go_ret;exact⟨rfl,rfl⟩
 have hd:decide (0<=n)=Xd:=decide_eq_false h;rw[hd,Bool.false_and]
 go_enter Tryz.func74,Tryz.ntmps74
 go_wp2;go_ret;exact⟨rfl,rfl⟩
theorem become_err (er n:Int) (p:Nat) (he:er≠0) (w:Xn):Xp Tryz.prog 85 #[Xj (Xa ⟨p,0,Xb⟩),Xi zeroM.toArray,Xe Xf n,Xe Xf er] w fun e w'=>e= Xl (ansV er 0 noS)/\Grew w w':=by
 have hz:(er != 0)=Xc:=by simp[he]
 clear he;obtain⟨b,HB⟩:∃b,Xo (w.heap.size=b):=⟨_,rfl⟩;obtain⟨W1,hW1⟩:∃W1,(w.alloc (Xk zeroM.toArray 42)).alloc (Xk #[Xe Xf 0,Xe Xf 0,O Xb 0 0] 50)=W1:=⟨_,rfl⟩;have G1:=gD2 hW1
 have A1:Xo (BoxT W1 (b+1) 50 [Xe Xf 0,Xe Xf 0,O Xb 0 0]):=show BoxT _ _ _ _ by rw[<-hW1];exact BoxT.top _ [Xe Xf 0,Xe Xf 0,O Xb 0 0] _ (by have:=HB.out;simp;omega)
 have HW1:Xo (_=W1):=hW1;clear hW1;have hrf:=refused_any er W1;unfold zeroM at HW1⊢
 go_enter Tryz.func85,Tryz.ntmps85
 go_upto_region 1 with fail;rw[HW1.out,HB.out];clear HW1;go_wp2_with fail;refine hrf.mono ?_;rintro e W2 ⟨rfl,g2⟩;have A2:=dD (A1.out.grew g2);have G2:=dD (G1.out.trans g2);clear hrf g2 A1 G1;unfold ansV noS
 go_wp2_with (refine wp_storeAllT rfl 50 (.tmp 8) (.tmp 12) rfl (b+1) rfl [Xe Xf er,Xe Xf 0,O Xb 0 0] rfl A2.out rfl (by kernel_rfl) (by simp[Value.oneCell']) ?_)
 intro W3 b3 g3 _;have G3:Xo (Grew w W3):=show Grew _ _ from grew_grown G2.out g3 (by have:=HB.out;omega)
 have A3:Xo (BoxT W3 (b+1) 50 [Xe Xf er,Xe Xf 0,O Xb 0 0]):=b3;clear b3 g3;go_wp2;refine bodyPost_ret (ret_cell rfl _ rfl A3.out.box Tryz.underlying50 rfl (by kernel_rfl)) rfl ⟨rfl,G3.out⟩
theorem become_ok {w0 w:Xn} {p:Nat} {V V':MaV} {m m':Ma} (bx:BoxT w p 88 (chL V m)) (lo:w0.heap.size<=p) (gr:Grew w0 w) (n:Int):Xp Tryz.prog 85 #[Xj (Xa ⟨p,0,Xb⟩),Xi #[O V'.f.a V'.f.n V'.f.c,Xe Xf m'.hand,O V'.s.a V'.s.n V'.s.c,O V'.sb.a V'.sb.n V'.sb.c,O V'.sq.a V'.sq.n V'.sq.c,O V'.db.a V'.db.n V'.db.c,O V'.dq.a V'.dq.n V'.dq.c,O V'.fl.a V'.fl.n V'.fl.c,Xe Xf m'.cnt,O V'.ca.a V'.ca.n V'.ca.c,O V'.sp.a V'.sp.n V'.sp.c],Xe Xf n,Xe Xf 0] w fun e w'=>e= Xl (ansV 0 n noS)/\BoxT w' p 88 (chL V' m')/\OutD (fun k=>k=p) w w'/\Grew w0 w':=by
 have HLO:Xo (w0.heap.size<=p):=lo;have HGR:Xo (Grew w0 w):=gr;obtain⟨b,HB⟩:∃b,Xo (w.heap.size=b):=⟨_,rfl⟩;obtain⟨W1,hW1⟩:∃W1,(w.alloc (Xk (chL V' m').toArray 42)).alloc (Xk #[Xe Xf 0,Xe Xf 0,O Xb 0 0] 50)=W1:=⟨_,rfl⟩;have G1:=gD2 hW1
 have A1:Xo (BoxT W1 (b+1) 50 [Xe Xf 0,Xe Xf 0,O Xb 0 0]):=show BoxT _ _ _ _ by rw[<-hW1];exact BoxT.top _ [Xe Xf 0,Xe Xf 0,O Xb 0 0] _ (by have:=HB.out;simp;omega)
 have M1:Xo (BoxT W1 b 42 (chL V' m')):=show BoxT _ _ _ _ by rw[<-hW1];exact(BoxT.top w (chL V' m') _ HB.out.symm).grew (grew_alloc _ _)
 have P1:Xo (BoxT W1 p 88 (chL V m)):=bx.grew G1.out;have HPL:Xo (p<b):=show _<_ by have:=bx.box.lt;have:=HB.out;omega
 have HW1:Xo (_=W1):=hW1;have HZL:Xo (∀v∈chL V' m',v.oneCell'=Xc):=show∀v∈chL V' m',_ by simp[chL,Value.oneCell']
 have HLL:Xo ((chL V' m').length=(chL V m).length):=show _=_ from rfl
 have HSI:Xo ((Tryz.prog.info? 42).map (·.size)=Xa (chL V m).length):=show _=_ by kernel_rfl
 have HSJ:Xo ((Tryz.prog.info? 42).map (·.size)=Xa (chL V' m').length):=show _=_ by kernel_rfl
 clear hW1 bx lo gr;unfold chL at HW1
 go_enter Tryz.func85,Tryz.ntmps85
 go_upto_region 1 with fail;rw[HW1.out,HB.out];clear HW1
 go_upto_region 4 with(first | refine wp_loadAll rfl 42 (.tmp 5) rfl b rfl M1.out.box Tryz.underlying42 rfl HSJ.out ?_ | refine wp_storeAllT rfl 42 (.tmp 16) (.tmp 14) rfl p rfl (chL V' m') rfl P1.out HLL.out HSI.out HZL.out ?_)
 intro W2 b2 g2 s2;clear s2;have P2:Xo (BoxT W2 p 88 (chL V' m')):=b2;have O2:Xo (OutD (fun k=>k=p) w W2):=show OutD _ _ _ from(OutD.grew G1.out).trans (OutD.grown g2 rfl)
 have G2:Xo (Grew w0 W2):=show Grew _ _ from grew_grown (HGR.out.trans G1.out) g2 HLO.out
 have A2:Xo (BoxT W2 (b+1) 50 [Xe Xf 0,Xe Xf 0,O Xb 0 0]):=show BoxT _ _ _ _ from A1.out.beside g2 (fun k e=>by cases e;have:=HPL.out;omega)
 have HWB:Xo (w0.heap.size<=b):=show _<=_ by have:=HPL.out;have:=HLO.out;omega
 clear b2 g2 A1 M1 P1 G1 HLL HSI HSJ HZL
 go_wp2_with (refine wp_storeAllT rfl 50 (.tmp 8) (.tmp 18) rfl (b+1) rfl [Xe Xf 0,Xe Xf n,O Xb 0 0] rfl A2.out rfl (by kernel_rfl) (by simp[Value.oneCell']) ?_)
 intro W3 b3 g3 _;have G3:Xo (Grew w0 W3):=show Grew _ _ from grew_grown G2.out g3 (by have:=HWB.out;omega)
 have A3:Xo (BoxT W3 (b+1) 50 [Xe Xf 0,Xe Xf n,O Xb 0 0]):=b3;have P3:Xo (BoxT W3 p 88 (chL V' m')):=show BoxT _ _ _ _ from P2.out.beside g3 (fun k e=>by cases e;have:=HPL.out;omega)
 have O3:Xo (OutD (fun k=>k=p) w W3):=show OutD _ _ _ from O2.out.beyond g3 (by have:=HB.out;omega)
 clear b3 g3;go_wp2;refine bodyPost_ret (ret_cell rfl _ rfl A3.out.box Tryz.underlying50 rfl (by kernel_rfl)) rfl ⟨rfl,P3.out,O3.out,G3.out⟩
theorem ChM.doneD {w0 w W:Xn} {p:Nat} {V:MaV} {m:Ma} (h:ChM w0 p w V m) (o:OutD (fun k=>k<w0.heap.size) w W):MachAt W V m:=by
 have o':OutD (Dq w0.heap.size p V.sp) w W:=o.wide fun k hk=> .inl hk
 have r:=h.rest W o';obtain⟨xs,s1,s2,s3⟩:=h.sp;exact⟨r.fs,r.sl,r.sb,r.sq,r.db,r.dq,r.fl,r.ca,⟨xs,OwnRow.at (base:=w0.heap.size) ⟨owns_outD s1.1 o (fun g hg e=>by have:=(s1.lt g hg).1;have e:g<w0.heap.size:=e;omega),s1.2⟩,s2,fun i x s hx hs=>s3 i x s hx hs W o'⟩⟩
def ForkedD (m:Ma) (p:Int) (w:Xn) (e:Ending) (w':Xn):Prop:=
 ((∀q s,¬LiveP m p q s)/\e= Xl (Xm #[Xi zeroM.toArray,Xe Xf 0,Xe Xf 5]))\/
 ∃q s k,LiveP m p q s/\Vac m.sp k/\((k=4/\e= Xl (Xm #[Xi zeroM.toArray,Xe Xf 0,Xe Xf 4]))\/(k<4/\∃V':MaV,e= Xl (Xm #[Xi #[O V'.f.a V'.f.n V'.f.c,Xe Xf (forkP m k q s).hand,O V'.s.a V'.s.n V'.s.c,O V'.sb.a V'.sb.n V'.sb.c,O V'.sq.a V'.sq.n V'.sq.c,O V'.db.a V'.db.n V'.db.c,O V'.dq.a V'.dq.n V'.dq.c,O V'.fl.a V'.fl.n V'.fl.c,Xe Xf (forkP m k q s).cnt,O V'.ca.a V'.ca.n V'.ca.c,O V'.sp.a V'.sp.n V'.sp.c],Xe Xf (k:Int),Xe Xf 0])/\∀W,OutD (fun k=>k<w.heap.size) w' W->MachAt W V' (forkP m k q s)))
theorem forkD_any (V:MaV) (m:Ma) (p:Int) (w:Xn) (hm:MachAt w V m) (h0:maW m=0) (h4:m.sp.length<=4):
  Xp Tryz.prog 84 #[Xi #[O V.f.a V.f.n V.f.c,Xe Xf m.hand,O V.s.a V.s.n V.s.c,O V.sb.a V.sb.n V.sb.c,O V.sq.a V.sq.n V.sq.c,O V.db.a V.db.n V.db.c,O V.dq.a V.dq.n V.dq.c,O V.fl.a V.fl.n V.fl.c,Xe Xf m.cnt,O V.ca.a V.ca.n V.ca.c,O V.sp.a V.sp.n V.sp.c],Xe Xf p] w fun e w'=>ForkedD m p w e w'/\Grew w w':=by
 obtain⟨W1,hW1⟩:∃W1,((w.alloc (Xk #[O V.f.a V.f.n V.f.c,Xe Xf m.hand,O V.s.a V.s.n V.s.c,O V.sb.a V.sb.n V.sb.c,O V.sq.a V.sq.n V.sq.c,O V.db.a V.db.n V.db.c,O V.dq.a V.dq.n V.dq.c,O V.fl.a V.fl.n V.fl.c,Xe Xf m.cnt,O V.ca.a V.ca.n V.ca.c,O V.sp.a V.sp.n V.sp.c] 42)).alloc (Xk #[Xe Xf p] 3)).alloc (Xk #[O Xb 0 0,Xe Xf 0,O Xb 0 0,O Xb 0 0,O Xb 0 0,O Xb 0 0,O Xb 0 0,O Xb 0 0,Xe Xf 0,O Xb 0 0,O Xb 0 0] 42)=W1:=⟨_,rfl⟩;have G1:Xo (Grew w W1):=show Grew _ _ by rw[<-hW1];exact((grew_alloc _ _).trans (grew_alloc _ _)).trans (grew_alloc _ _)
 obtain⟨b,HB⟩:∃b,Xo (w.heap.size=b):=⟨_,rfl⟩;have X1:Xo (BoxT W1 b 42 [O V.f.a V.f.n V.f.c,Xe Xf m.hand,O V.s.a V.s.n V.s.c,O V.sb.a V.sb.n V.sb.c,O V.sq.a V.sq.n V.sq.c,O V.db.a V.db.n V.db.c,O V.dq.a V.dq.n V.dq.c,O V.fl.a V.fl.n V.fl.c,Xe Xf m.cnt,O V.ca.a V.ca.n V.ca.c,O V.sp.a V.sp.n V.sp.c]):=show BoxT _ _ _ _ by rw[<-hW1];exact((BoxT.top w [O V.f.a V.f.n V.f.c,Xe Xf m.hand,O V.s.a V.s.n V.s.c,O V.sb.a V.sb.n V.sb.c,O V.sq.a V.sq.n V.sq.c,O V.db.a V.db.n V.db.c,O V.dq.a V.dq.n V.dq.c,O V.fl.a V.fl.n V.fl.c,Xe Xf m.cnt,O V.ca.a V.ca.n V.ca.c,O V.sp.a V.sp.n V.sp.c] _ HB.out.symm).grew (grew_alloc _ _)).grew (grew_alloc _ _)
 have Y1:Xo (BoxT W1 (b+1) 3 [Xe Xf p]):=show BoxT _ _ _ _ by rw[<-hW1];exact(BoxT.top _ [Xe Xf p] _ (by have:=HB.out;simp;omega)).grew (grew_alloc _ _)
 have Z1:Xo (BoxT W1 (b+1+1) 42 zeroM):=show BoxT _ _ _ _ by rw[<-hW1];exact BoxT.top _ zeroM _ (by have:=HB.out;simp;omega)
 have HM:Xo (MachAt w V m):=hm;have HW1:Xo (_=W1):=hW1;clear hW1;have hwp:=wrongProcess_any V m p W1 (hm.grew G1.out) h0;clear hm h0
 go_enter Tryz.func84,Tryz.ntmps84
 go_upto_region 1 with fail;rw[HW1.out,HB.out];obtain⟨x0,x1,x2,x3,x4,x5,x6,x7,x8,x9,x10⟩:=X1.out.box.c11;have y0:=Y1.out.box.c 0 rfl;go_wp2_with fail;refine hwp.mono ?_;clear hwp x0 x1 x2 x3 x4 x5 x6 x7 x8 x9 x10 y0;rintro e W2 ⟨hE,g2⟩;have G2:=dD (G1.out.trans g2);have X2:=dD (X1.out.grew g2);have Y2:=dD (Y1.out.grew g2);have Z2:=dD (Z1.out.grew g2);clear g2 X1 Y1 Z1 G1 HW1
 rcases hE with⟨rfl,hL⟩ | ⟨rfl,hL⟩
 case inr=>
  have HF:Xo (∀q s,¬LiveP m p q s):=hL;clear hL;have hzl:∀v∈zeroM,v.oneCell'=Xc:=by simp[zeroM,Value.oneCell']
  go_wp2_with (refine wp_storeAllT rfl 42 (.tmp 4) (.tmp 15) rfl (b+1+1) rfl zeroM rfl Z2.out rfl (by kernel_rfl) hzl ?_)
  intro W3 bx3 gr3 _;have G3:Xo (Grew w W3):=show Grew _ _ from grew_grown G2.out gr3 (by have:=HB.out;omega)
  have B3:Xo (BoxT W3 (b+1+1) 42 zeroM):=bx3;clear bx3 gr3;go_wp2;refine bodyPost_ret (ret_cell_tmp2 rfl _ rfl B3.out.box Tryz.underlying42 rfl (by kernel_rfl)) rfl ⟨.inl ⟨HF.out,rfl⟩,G3.out⟩
 obtain⟨q,s,hp,hs,hl⟩:=hL;subst hp;have HS:Xo (m.sp[q]? =Xa s):=hs;have HLV:Xo (s.live=Xc):=hl;clear hs hl;have hva:=vacant_any (O V.sp.a V.sp.n V.sp.c) m.sp W2 (HM.out.grew G2.out).sp;have x10:=X2.out.box.c 10 rfl;go_wp2_with fail;refine hva.mono ?_;clear hva x10;rintro e W3 ⟨⟨k,rfl,hk⟩,g3⟩;have HK:Xo (Vac m.sp k):=hk;have hk4:k<=4:=nT hk.1 h4;have hg3:Grew W2 W3:=g3;clear hk;have G3:Xo (Grew w W3):=show Grew _ _ from G2.out.trans g3
 have X3:=dD (X2.out.grew g3);have Y3:=dD (Y2.out.grew g3);have Z3:=dD (Z2.out.grew g3);clear g3 hg3 X2 Y2 Z2 G2;go_upto_region 5 with fail;obtain⟨c,HC⟩:∃c,Xo (W3.heap.size=c):=⟨_,rfl⟩;obtain⟨W4,hW4⟩:∃W4,W3.alloc (Xk #[Xe Xf (k:Int)] 3)=W4:=⟨_,rfl⟩;have g4:=gP hW4
 have G4:Xo (Grew w W4):=show Grew _ _ from G3.out.trans g4
 have X4:=dD (X3.out.grew g4);have Y4:=dD (Y3.out.grew g4);have Z4:=dD (Z3.out.grew g4);have C4:=xPT hW4 HC
 have HCL:Xo (b+1+1<c):=show _<_ by have:=Z3.out.box.lt;have:=HC.out;omega
 rw[hW4,HC.out];clear hW4 g4 X3 Y3 Z3 G3 HC;have c0:=C4.out.box.c 0 rfl
 by_cases h4k:k=4
 ·have h4z:((k:Int) == 4)=Xc:=by rw[h4k];rfl
  have HK4:Xo (k=4):=h4k;clear h4k;have hzl:∀v∈zeroM,v.oneCell'=Xc:=by simp[zeroM,Value.oneCell']
  go_wp2_with (refine wp_storeAllT rfl 42 (.tmp 4) (.tmp 22) rfl (b+1+1) rfl zeroM rfl Z4.out rfl (by kernel_rfl) hzl ?_)
  intro W5 bx5 gr5 _;have G5:Xo (Grew w W5):=show Grew _ _ from grew_grown G4.out gr5 (by have:=HB.out;omega)
  have B5:Xo (BoxT W5 (b+1+1) 42 zeroM):=bx5;clear bx5 gr5 c0;go_wp2;refine bodyPost_ret (ret_cell_tmp2 rfl _ rfl B5.out.box Tryz.underlying42 rfl (by kernel_rfl)) rfl ⟨.inr ⟨q,s,k,⟨rfl,HS.out,HLV.out⟩,HK.out,.inl ⟨HK4.out,rfl⟩⟩,G5.out⟩
 have h4z:((k:Int) == 4)=Xd:=by
  have:(k:Int)≠4:=by omega
  simpa using this
 have HKL:Xo (k<4):=show k<4 by omega
 clear h4k;have hof:=of_any V m W4 (HM.out.grew G4.out);obtain⟨x0,x1,x2,x3,x4,x5,x6,x7,x8,x9,x10⟩:=X4.out.box.c11;go_wp2_with fail;refine hof.mono ?_;clear hof x0 x1 x2 x3 x4 x5 x6 x7 x8 x9 x10 c0;rintro e W5 ⟨r,V5,rfl,m5⟩;go_upto_region 8 with fail;obtain⟨d,HD⟩:∃d,Xo (W5.heap.size=d):=⟨_,rfl⟩;obtain⟨W6,hW6⟩:∃W6,W5.alloc (Xk #[Xj (Xa ⟨r,0,Xb⟩)] 85)=W6:=⟨_,rfl⟩;have g6:=gP hW6
 have g46:Grew W4 W6:=m5.gr.trans g6;have M6:Xo (ChM W4 r W6 V5 m):=m5.grew g6;have D6:=xPT hW6 HD
 have C6:=dD (C4.out.grew g46);have Y6:=dD (Y4.out.grew g46);have Z6:=dD (Z4.out.grew g46);have HND:Xo (c<W4.heap.size/\r<d/\(∀k,Dp r V5.sp k->W4.heap.size<=k/\k<d)):=show _/\_ by
  have:=HD.out;exact⟨C4.out.box.lt,by have:=m5.dlt r (.inl rfl);omega,fun k hk=>⟨m5.dlo k hk,by have:=m5.dlt k hk;omega⟩⟩
 rw[hW6,HD.out];clear hW6 g6 g46 m5 X4 Y4 Z4 C4 HD;obtain⟨xs,s1,s2,s3⟩:=M6.out.sp;have hql:q<m.sp.length:=(gS.1 HS.out).1;obtain⟨x,hx⟩:∃x,xs[q]? =Xa x:=⟨_,gE (by rw[s2];exact hql)⟩
 have HAT:Xo (SpaceAt W6 x s):=s3 q x s hx HS.out W6 (OutD.refl _ _);obtain⟨xn,HXN⟩:∃xn,Xo (xs.length=xn):=⟨_,rfl⟩;obtain⟨g,gc,heq⟩:=s1.formS (by omega)
 rw[HXN.out]at heq;have hqz:(q:Int)< (xn:Int):=by have:=HXN.out;omega
 have HVS:Xo (O V5.sp.a V5.sp.n V5.sp.c= O (Xa ⟨g,0,Xb⟩) xn gc):=heq;rw[heq]at s1;have HS1:Xo (OwnRow spcE W4.heap.size W6 (O (Xa ⟨g,0,Xb⟩) xn gc) xs):=s1;have HS2:Xo (xs.length=m.sp.length):=s2;have HS3:Xo (∀(i:Nat) x s,xs[i]? =Xa x->m.sp[i]? =Xa s->∀W,OutD (Dq W4.heap.size r V5.sp) W6 W->SpaceAt W x s):=s3;have HX:Xo (xs[q]? =Xa x):=hx;have HXL:Xo (xn<=4/\k<=xn):=show _/\_ by have:=HXN.out;have:=HK.out.1;omega
 have HRG:Xo (r≠g/\W4.heap.size<=g):=show _/\_ by
  exact⟨M6.out.ne g (by rw[HVS.out];rfl),(HS1.out.lt g rfl).1⟩
 have HCE:Xo (∀W,Grew W6 W->Sp10 W ⟨g,q*10,Xb⟩ x):=show∀W,_ from fun W hW=>by
  have:=((s1.grew hW).one hx).sp10;rw[Xw,zA]at this;exact this
 clear s1 s2 s3 hx heq hql;obtain⟨I,HI⟩:∃I:Xn->Prop,Xo (∀u,I u↔(BoxT u r 88 (chL V5 m)/\BoxT u d 85 [Xj (Xa ⟨r,0,Xb⟩)]/\BoxT u c 3 [Xe Xf (k:Int)]/\BoxT u (b+1) 3 [Xe Xf (q:Int)])):=⟨_,fun _=>Iff.rfl⟩
 have hI0:I W6.drew:=(HI.out _).2 ⟨M6.out.box.grew (gW _),D6.out.grew (gW _),C6.out.grew (gW _),Y6.out.grew (gW _)⟩
 have hF0:Grew W6 W6.drew:=show Below _ _ _ from(bR _ _).drew
 have hr10:∀y:HoldI I,y.world.cell? ⟨r,10,Xb⟩=Xa (O (Xa ⟨g,0,Xb⟩) xn gc):=fun y=>by rw[<-HVS.out];exact((HI.out _).1 y.holds).1.box.c 10 rfl
 have hd0:∀y:HoldI I,y.world.cell? ⟨d,0,Xb⟩=Xa (Xj (Xa ⟨r,0,Xb⟩)):=fun y=>((HI.out _).1 y.holds).2.1.box.c 0 rfl
 have hc0:∀y:HoldI I,y.world.cell? ⟨c,0,Xb⟩=Xa (Xe Xf (k:Int)):=fun y=>((HI.out _).1 y.holds).2.2.1.box.c 0 rfl
 have hy0:∀y:HoldI I,y.world.cell? ⟨b+1,0,Xb⟩=Xa (Xe Xf (q:Int)):=fun y=>((HI.out _).1 y.holds).2.2.2.box.c 0 rfl
 have hne:Nonempty (HoldI I):=⟨⟨_,hI0⟩⟩;refine wp_lax_tailD (I:=I) 22 [(15,fun v=>v= O x.ar.a x.ar.n x.ar.c),(16,fun v=>∃t:Sli,v= O t.a t.n t.c),(18,fun v=>∃t:Sli,v= O t.a t.n t.c)] (fun u=>Grew W6 u) hI0 hF0 mixed (by kernel_rfl) rfl rfl (by decide) ?hS (by kernel_rfl) ?_
 case hS=>
  intro x hx;simp only[mC,nM,or_false]at hx
  rcases hx with rfl | rfl | rfl
  ·exact⟨_,rfl⟩
  ·exact⟨_,sli0,rfl⟩
  exact⟨_,sli0,rfl⟩
 simp only[Xu,Xv];iterate 2 (refine laxD_quiet rfl rfl rfl (fun K hK=>?_);go_big_quiet_op;refine hK _ ?_;clear hK K)
 refine laxD_nilc (.tmp 26) ⟨r,0,Xb⟩ rfl rfl rfl rfl ?_;simp only[Xs,sB,sS,sZ];iterate 5 (refine laxD_quiet rfl rfl rfl (fun K hK=>?_);go_big_quiet_op;refine hK _ ?_;clear hK K)
 refine laxD_nilc (.tmp 32) ⟨r,0,Xb⟩ rfl rfl rfl rfl ?_;simp only[Xs,sB,sS,sZ];iterate 6 (refine laxD_quiet rfl rfl rfl (fun K hK=>?_);go_big_quiet_op;refine hK _ ?_;clear hK K)
 refine laxD_spec rfl rfl (fun _ u=>Grew W6 u) (fun w' hI' hF'=>?_) (fun v1 hv=>?_)
 ·exact does_load1 71 (.tmp 39) rfl g (q*10+1) rfl (O x.ar.a x.ar.n x.ar.c) (HCE.out _ hF').2.1 Tryz.underlying71 rfl ⟨hI',rfl,hF'⟩
 cases hv;simp only[Xs,sB,sS,sZ];refine laxD_spec rfl rfl (fun v u=>Grew W6 u/\OwnRow arE W6.heap.size u v s.ars) (fun w' hI' hF'=>?_) (fun v1 hv=>?_)
 ·refine Does.call [O x.ar.a x.ar.n x.ar.c] rfl Tryz.func104 rfl rfl rfl ?_;refine(cloneAr_any _ s.ars w' (HAT.out.grew hF').ar).mono ?_;rintro e w'' ⟨v',rfl,ow,g2⟩;obtain⟨a',c',rfl⟩:=ow.form;obtain⟨i1,i2,i3,i4⟩:=(HI.out _).1 hI';exact⟨_,rfl,(HI.out _).2 ⟨i1.grew g2,i2.grew g2,i3.grew g2,i4.grew g2⟩,⟨⟨a',_,c'⟩,rfl⟩,hF'.trans g2,ow.base (bS hF')⟩
 obtain⟨ya,rfl⟩:=hv;simp only[Xs,sB,sS,sZ];iterate 1 (refine laxD_quiet rfl rfl rfl (fun K hK=>?_);go_big_quiet_op;refine hK _ ?_;clear hK K)
 refine laxD_spec rfl rfl (fun v u=>∃w1,Grew W6 w1/\OwnRow arE W6.heap.size w1 (O ya.a ya.n ya.c) s.ars/\OwnRow spcE W4.heap.size u v (setK xs k ⟨Xc,ya,sli0,sli0,sli0,sli0,sli0,sli0,sli0,sli0⟩)/\w1.grownBy u (Xa g)/\∀g',v.ownBlock=Xa g'->g=g'\/w1.heap.size<=g') (fun w' hI' hF'=>?_) (fun v1 hv=>?_)
 ·refine Does.call [O (Xa ⟨g,0,Xb⟩) xn gc,Xe Xf (k:Int),Xi #[Xh Xc,O ya.a ya.n ya.c,O Xb 0 0,O Xb 0 0,O Xb 0 0,O Xb 0 0,O Xb 0 0,O Xb 0 0,O Xb 0 0,O Xb 0 0]] rfl Tryz.func144 rfl rfl rfl ?_;refine(settled_any W4.heap.size _ xs k ⟨Xc,ya,sli0,sli0,sli0,sli0,sli0,sli0,sli0,sli0⟩ w' (HS1.out.grew hF'.1) (nT (bS M6.out.gr) (bS hF'.1)) (by rw[HXN.out];exact HXL.out.2) (by rw[HXN.out];exact HXL.out.1)).mono ?_
  rintro e w'' ⟨v',rfl,ow,gr,ap⟩;obtain⟨i1,i2,i3,i4⟩:=(HI.out _).1 hI';obtain⟨a',c',rfl⟩:=ow.form;obtain⟨hn1,hn2,hn3⟩:=HND.out;have hcl:=HCL.out;have hrg:=HRG.out.1;obtain⟨hg1,hg2⟩:=hn3 g (.inr (by rw[HVS.out];rfl))
  have e1:d≠g:=by omega
  have e2:c≠g:=by omega
  have e3:b+1≠g:=by omega
  exact⟨_,rfl,(HI.out _).2 ⟨i1.beside gr (fun k e=>by cases e;exact hrg),i2.beside gr (fun k e=>by cases e;exact e1),i3.beside gr (fun k e=>by cases e;exact e2),i4.beside gr (fun k e=>by cases e;exact e3)⟩,⟨⟨a',_,c'⟩,rfl⟩,w',hF'.1,hF'.2,ow,gr,fun g' hg'=>(ap g' hg').imp (fun e=>by cases e;rfl) id⟩
 obtain⟨sv,rfl⟩:=hv;simp only[Xs,sB,sS,sZ];refine laxD_nilc (.tmp 25) ⟨r,0,Xb⟩ rfl rfl rfl rfl ?_;simp only[Xs,sB,sS,sZ];iterate 2 (refine laxD_quiet rfl rfl rfl (fun K hK=>?_);go_big_quiet_op;refine hK _ ?_;clear hK K)
 refine laxD_nil fun W7 hI7 hF7=>?_
 obtain⟨b7,d7,c7,y7⟩:=(HI.out _).1 hI7;obtain⟨w1,g61,ar1,ow7,gr7,ap7⟩:=hF7;have HZ7:Xo (BoxT W7 (b+1+1) 42 zeroM):=show BoxT _ _ _ _ from(Z6.out.grew g61).beside gr7 (fun k e=>by
  cases e;have:=HCL.out;have:=HND.out.1;have:=HRG.out.2
  omega)
 have HND8:Xo (∀x,Dp r sv x->W4.heap.size<=x/\x≠d):=show∀x,_ from fun x hx=>by
  obtain⟨hn1,hn2,hn3⟩:=HND.out
  rcases hx with rfl | hx
  ·exact⟨M6.out.lo,by omega⟩
  rcases ap7 x hx with e | e
  ·subst e;have:=hn3 g (.inr (by rw[HVS.out];rfl))
   exact⟨this.1,by omega⟩
  have h1:=bS g61;have h2:=bS M6.out.gr;have h3:=D6.out.box.lt;exact⟨by omega,by omega⟩
 refine wp_storeT rfl 40 (.tmp 46) (.tmp 43) rfl r 10 rfl (O sv.a sv.n sv.c) rfl [O sv.a sv.n sv.c] rfl b7 (by simp[chL]) (by kernel_rfl) (by simp[Value.oneCell']) ?_
 intro W8 bx8 gr8 _;have M8:Xo (ChM W4 r W8 { V5 with sp:=sv } (bornM m k s)):=show ChM _ _ _ _ _ from M6.out.space HK.out.1 HS2.out HS3.out g61 ar1 ow7 (by rw[HVS.out];exact gr7) (by rw[HVS.out];exact fun g' hg'=>(ap7 g' hg').imp (fun e=>by rw[e];rfl) id) gr8 bx8
 have D8:Xo (BoxT W8 d 85 [Xj (Xa ⟨r,0,Xb⟩)]):=show BoxT _ _ _ _ from d7.beside gr8 (fun k e=>by cases e;have:=HND.out.2.1;omega)
 have C8:Xo (BoxT W8 c 3 [Xe Xf (k:Int)]):=show BoxT _ _ _ _ from c7.beside gr8 (fun k e=>by cases e;have:=HND.out.1;have:=M6.out.lo;omega)
 have Y8:Xo (BoxT W8 (b+1) 3 [Xe Xf (q:Int)]):=show BoxT _ _ _ _ from y7.beside gr8 (fun k e=>by cases e;have:=HND.out.1;have:=HCL.out;have:=M6.out.lo;omega)
 have Z8:Xo (BoxT W8 (b+1+1) 42 zeroM):=show BoxT _ _ _ _ from HZ7.out.beside gr8 (fun k e=>by cases e;have:=HND.out.1;have:=HCL.out;have:=M6.out.lo;omega)
 clear hI7 d7 c7 y7 g61 ar1 ow7 gr7 ap7 hI0 hF0 hr10 hd0 hc0 hy0 hne HI b7 HS1 HS3 HX HCE HAT D6 C6 Y6 Z6 HZ7 bx8 gr8;go_upto_region 9 with fail;obtain⟨V8,HV8⟩:∃V8:MaV,Xo (V8.sp=sv/\ChM W4 r W8 V8 (bornM m k s)):=⟨{ V5 with sp:=sv },(show _/\_ from⟨rfl,M8.out⟩)⟩
 have hkq:q≠k:=fun e=>by
  have h1:=HK.out.2.1 s (by rw[<-e];exact HS.out)
  rw[HLV.out]at h1;cases h1
 have HSB:Xo ((bornM m k s).sp[q]? =Xa s):=show(setK m.sp k _)[q]? =Xa s by rw[setK_at HK.out.1,if_neg hkq];exact HS.out
 have HBL:Xo (k< (bornM m k s).sp.length/\q< (bornM m k s).sp.length):=show _/\_ by
  refine⟨?_,(gS.1 HSB.out).1⟩
  show k< (setK m.sp k _).length
  rw[setK_len HK.out.1];omega
 clear hkq;have hep:=eachPage_any HV8.out.2 q s HSB.out 146 #[Xj (Xa ⟨d,0,Xb⟩),Xj (Xa ⟨c,0,Xb⟩),Xj (Xa ⟨b+1,0,Xb⟩)]
  (fun j W=>∃V':MaV,V'.sp=sv/\ChM W4 r W V' (shareL (bornM m k s) k q ((pagesTo s.tb anyEn 64).take j))/\BoxT W d 85 [Xj (Xa ⟨r,0,Xb⟩)]/\BoxT W c 3 [Xe Xf (k:Int)]/\BoxT W (b+1) 3 [Xe Xf (q:Int)]/\BoxT W (b+1+1) 42 zeroM)
  (enters_of Tryz.func146 (by kernel_rfl) rfl)
  (fun W hW=>⟨V8,HV8.out.1,by rw[List.take_zero];exact HV8.out.2.grew hW,D8.out.grew hW,C8.out.grew hW,Y8.out.grew hW,Z8.out.grew hW⟩)
  (fun j n W hj hJ=>by
   obtain⟨V',e1,e2,e3,e4,e5,e6⟩:=hJ;refine(fork1_any e2 k q (by rw[shareL_len];exact HBL.out.1) (by rw[shareL_len];exact HBL.out.2) n d c (b+1) e3.box e4.box e5.box).mono ?_
   rintro e w' ⟨hv,V'',f1,f2,f3⟩;rw[e1]at f1 f3;have hn1:=HND.out.1;have hcl:=HCL.out;refine⟨hv,⟨V'',f1,?_,e3.outD f3 (fun h=>(HND8.out _ h).2 rfl),e4.outD f3 (fun h=>by have:=(HND8.out _ h).1;omega),e5.outD f3 (fun h=>by have:=(HND8.out _ h).1;omega),e6.outD f3 (fun h=>by have:=(HND8.out _ h).1;omega)⟩,by rw[HV8.out.1];exact f3⟩
   rw[take_snoc hj,shareL_snoc];exact f2)
 rw[List.take_length]at hep;have hmf:∀(fn:Fn) (first cap:Array Xq) (w:Xn),(Instr.makeFunc fn first cap).run Tryz.prog w= .ok (.func fn first cap) w:=fun _ _ _ _=>rfl
 have d0:=D8.out.box.c 0 rfl;have y0:=Y8.out.box.c 0 rfl;go_wp2_with fail;refine hep.mono ?_;clear hep d0 y0;rintro e W9 ⟨⟨v9,rfl⟩,⟨V9,e1,e2,e3,e4,e5,e6⟩,_⟩;have M9:Xo (ChM W4 r W9 V9 (forkP m k q s)):=e2;have D9:Xo (BoxT W9 d 85 [Xj (Xa ⟨r,0,Xb⟩)]):=e3;have C9:Xo (BoxT W9 c 3 [Xe Xf (k:Int)]):=e4;have Z9:Xo (BoxT W9 (b+1+1) 42 zeroM):=e6;clear e1 e2 e3 e4 e5 e6;obtain⟨FM,HFM⟩:∃FM,Xo (forkP m k q s=FM):=⟨_,rfl⟩;rw[HFM.out]at M9;go_upto_region 10 with fail;obtain⟨I,HI⟩:∃I:Xn->Prop,Xo (∀u,I u↔(BoxT u r 88 (chL V9 FM)/\BoxT u d 85 [Xj (Xa ⟨r,0,Xb⟩)]/\BoxT u c 3 [Xe Xf (k:Int)])):=⟨_,fun _=>Iff.rfl⟩
 have hI0:I W9.drew:=(HI.out _).2 ⟨M9.out.box.grew (gW _),D9.out.grew (gW _),C9.out.grew (gW _)⟩
 have hF0:Grew W9 W9.drew:=show Below _ _ _ from(bR _ _).drew
 have hr0:∀y:HoldI I,y.world.cell? ⟨r,0,Xb⟩=_:=fun y=>((HI.out _).1 y.holds).1.box.c 0 rfl
 have hr1:∀y:HoldI I,y.world.cell? ⟨r,1,Xb⟩=_:=fun y=>((HI.out _).1 y.holds).1.box.c 1 rfl
 have hr2:∀y:HoldI I,y.world.cell? ⟨r,2,Xb⟩=_:=fun y=>((HI.out _).1 y.holds).1.box.c 2 rfl
 have hr3:∀y:HoldI I,y.world.cell? ⟨r,3,Xb⟩=_:=fun y=>((HI.out _).1 y.holds).1.box.c 3 rfl
 have hr4:∀y:HoldI I,y.world.cell? ⟨r,4,Xb⟩=_:=fun y=>((HI.out _).1 y.holds).1.box.c 4 rfl
 have hr5:∀y:HoldI I,y.world.cell? ⟨r,5,Xb⟩=_:=fun y=>((HI.out _).1 y.holds).1.box.c 5 rfl
 have hr6:∀y:HoldI I,y.world.cell? ⟨r,6,Xb⟩=_:=fun y=>((HI.out _).1 y.holds).1.box.c 6 rfl
 have hr7:∀y:HoldI I,y.world.cell? ⟨r,7,Xb⟩=_:=fun y=>((HI.out _).1 y.holds).1.box.c 7 rfl
 have hr8:∀y:HoldI I,y.world.cell? ⟨r,8,Xb⟩=_:=fun y=>((HI.out _).1 y.holds).1.box.c 8 rfl
 have hr9:∀y:HoldI I,y.world.cell? ⟨r,9,Xb⟩=_:=fun y=>((HI.out _).1 y.holds).1.box.c 9 rfl
 have hr10:∀y:HoldI I,y.world.cell? ⟨r,10,Xb⟩=_:=fun y=>((HI.out _).1 y.holds).1.box.c 10 rfl
 have hd0:∀y:HoldI I,y.world.cell? ⟨d,0,Xb⟩=Xa (Xj (Xa ⟨r,0,Xb⟩)):=fun y=>((HI.out _).1 y.holds).2.1.box.c 0 rfl
 have hc0:∀y:HoldI I,y.world.cell? ⟨c,0,Xb⟩=Xa (Xe Xf (k:Int)):=fun y=>((HI.out _).1 y.holds).2.2.box.c 0 rfl
 have hne:Nonempty (HoldI I):=⟨⟨_,hI0⟩⟩;have HZL:Xo (∀v∈chL V9 FM,v.oneCell'=Xc):=show∀v∈chL V9 FM,_ by simp[chL,Value.oneCell']
 refine wp_lax_tailD (I:=I) 8 [(5,fun _=>True)] (fun u=>Grew W9 u) hI0 hF0 mixed (by kernel_rfl) rfl rfl (by decide) ?hS (by kernel_rfl) ?_
 case hS=>
  intro x hx;simp only[mC,nM,or_false]at hx;subst hx;exact⟨undef,trivial⟩
 simp only[Xu,Xv];iterate 1 (refine laxD_quiet rfl rfl rfl (fun K hK=>?_);go_big_quiet_op;refine hK _ ?_;clear hK K)
 refine laxD_nilc (.tmp 51) ⟨r,0,Xb⟩ rfl rfl rfl rfl ?_;simp only[Xs,sB,sS,sZ];iterate 3 (refine laxD_quiet rfl rfl rfl (fun K hK=>?_);go_big_quiet_op;refine hK _ ?_;clear hK K)
 refine laxD_spec rfl rfl (fun _ u=>Grew w u/\BoxT u (b+1+1) 42 (chL V9 FM)/\∀W,OutD (fun k=>k<w.heap.size) u W->MachAt W V9 FM) (fun w' hI' hF'=>?_) (fun v1 hv=>?_)
 ·refine Does.storeAllT 42 (.tmp 4) (.tmp 54) rfl (b+1+1) rfl (chL V9 FM) rfl (Z9.out.grew hF') rfl (by kernel_rfl) HZL.out ?_
  intro W11 bx gr11 sz11;have hcl:=HCL.out;have hn1:=HND.out.1;have hrl:=M9.out.lo;obtain⟨i1,i2,i3⟩:=(HI.out _).1 hI';have k9:=M9.out.grew hF';have hd:=M9.out.dlt;refine⟨(HI.out _).2 ⟨i1.beside gr11 (fun k e=>by cases e;omega),i2.beside gr11 (fun k e=>by cases e;have:=HND.out.2.1;omega),i3.beside gr11 (fun k e=>by cases e;omega)⟩,trivial,grew_grown (G4.out.trans k9.gr) gr11 (by have:=HB.out;omega),bx,?_⟩
  exact fun W hW=>k9.doneD ((OutD.grown (D:=fun k=>k<W4.heap.size) gr11 (show b+1+1<W4.heap.size by omega)).trans (hW.wide fun k hk=>Xt hk (bS G4.out)))
 clear hv;try simp only[Xs]
 iterate 2 (refine laxD_quiet rfl rfl rfl (fun K hK=>?_);go_big_quiet_op;refine hK _ ?_;clear hK K)
 refine laxD_nil fun W11 hI11 hF11=>?_
 have G11:Xo (Grew w W11):=hF11.1;have B11:Xo (BoxT W11 (b+1+1) 42 (chL V9 FM)):=hF11.2.1;have HF:Xo (∀W,OutD (fun k=>k<w.heap.size) W11 W->MachAt W V9 FM):=hF11.2.2
 clear hI11 hF11 hI0 hF0 hne HI hr0 hr1 hr2 hr3 hr4 hr5 hr6 hr7 hr8 hr9 hr10 hd0 hc0;go_wp2;refine bodyPost_ret (ret_cell_tmp2 rfl _ rfl B11.out.box Tryz.underlying42 rfl (by kernel_rfl)) rfl ⟨.inr ⟨q,s,k,⟨rfl,HS.out,HLV.out⟩,HK.out,.inr ⟨HKL.out,V9,?_,?_⟩⟩,G11.out⟩
 ·rw[HFM.out];rfl
 rw[HFM.out];exact HF.out
def ExitedD (m:Ma) (p:Int) (w:Xn) (e:Ending) (w':Xn):Prop:=
 ((∀q s,¬LiveP m p q s)/\e= Xl (Xm #[Xi zeroM.toArray,Xe Xf 5]))\/
 ∃q s,LiveP m p q s/\∃V':MaV,e= Xl (Xm #[Xi #[O V'.f.a V'.f.n V'.f.c,Xe Xf (exitP m q s).hand,O V'.s.a V'.s.n V'.s.c,O V'.sb.a V'.sb.n V'.sb.c,O V'.sq.a V'.sq.n V'.sq.c,O V'.db.a V'.db.n V'.db.c,O V'.dq.a V'.dq.n V'.dq.c,O V'.fl.a V'.fl.n V'.fl.c,Xe Xf (exitP m q s).cnt,O V'.ca.a V'.ca.n V'.ca.c,O V'.sp.a V'.sp.n V'.sp.c],Xe Xf 0])/\∀W,OutD (fun k=>k<w.heap.size) w' W->MachAt W V' (exitP m q s)
theorem exitD_any (V:MaV) (m:Ma) (p:Int) (w:Xn) (hm:MachAt w V m) (h0:maW m=0):
  Xp Tryz.prog 86 #[Xi #[O V.f.a V.f.n V.f.c,Xe Xf m.hand,O V.s.a V.s.n V.s.c,O V.sb.a V.sb.n V.sb.c,O V.sq.a V.sq.n V.sq.c,O V.db.a V.db.n V.db.c,O V.dq.a V.dq.n V.dq.c,O V.fl.a V.fl.n V.fl.c,Xe Xf m.cnt,O V.ca.a V.ca.n V.ca.c,O V.sp.a V.sp.n V.sp.c],Xe Xf p] w fun e w'=>ExitedD m p w e w'/\Grew w w':=by
 obtain⟨W1,hW1⟩:∃W1,((w.alloc (Xk #[O V.f.a V.f.n V.f.c,Xe Xf m.hand,O V.s.a V.s.n V.s.c,O V.sb.a V.sb.n V.sb.c,O V.sq.a V.sq.n V.sq.c,O V.db.a V.db.n V.db.c,O V.dq.a V.dq.n V.dq.c,O V.fl.a V.fl.n V.fl.c,Xe Xf m.cnt,O V.ca.a V.ca.n V.ca.c,O V.sp.a V.sp.n V.sp.c] 42)).alloc (Xk #[Xe Xf p] 3)).alloc (Xk #[O Xb 0 0,Xe Xf 0,O Xb 0 0,O Xb 0 0,O Xb 0 0,O Xb 0 0,O Xb 0 0,O Xb 0 0,Xe Xf 0,O Xb 0 0,O Xb 0 0] 42)=W1:=⟨_,rfl⟩;have G1:Xo (Grew w W1):=show Grew _ _ by rw[<-hW1];exact((grew_alloc _ _).trans (grew_alloc _ _)).trans (grew_alloc _ _)
 obtain⟨b,HB⟩:∃b,Xo (w.heap.size=b):=⟨_,rfl⟩;have X1:Xo (BoxT W1 b 42 [O V.f.a V.f.n V.f.c,Xe Xf m.hand,O V.s.a V.s.n V.s.c,O V.sb.a V.sb.n V.sb.c,O V.sq.a V.sq.n V.sq.c,O V.db.a V.db.n V.db.c,O V.dq.a V.dq.n V.dq.c,O V.fl.a V.fl.n V.fl.c,Xe Xf m.cnt,O V.ca.a V.ca.n V.ca.c,O V.sp.a V.sp.n V.sp.c]):=show BoxT _ _ _ _ by rw[<-hW1];exact((BoxT.top w [O V.f.a V.f.n V.f.c,Xe Xf m.hand,O V.s.a V.s.n V.s.c,O V.sb.a V.sb.n V.sb.c,O V.sq.a V.sq.n V.sq.c,O V.db.a V.db.n V.db.c,O V.dq.a V.dq.n V.dq.c,O V.fl.a V.fl.n V.fl.c,Xe Xf m.cnt,O V.ca.a V.ca.n V.ca.c,O V.sp.a V.sp.n V.sp.c] _ HB.out.symm).grew (grew_alloc _ _)).grew (grew_alloc _ _)
 have Y1:Xo (BoxT W1 (b+1) 3 [Xe Xf p]):=show BoxT _ _ _ _ by rw[<-hW1];exact(BoxT.top _ [Xe Xf p] _ (by have:=HB.out;simp;omega)).grew (grew_alloc _ _)
 have Z1:Xo (BoxT W1 (b+1+1) 42 zeroM):=show BoxT _ _ _ _ by rw[<-hW1];exact BoxT.top _ zeroM _ (by have:=HB.out;simp;omega)
 have HM:Xo (MachAt w V m):=hm;have HW1:Xo (_=W1):=hW1;clear hW1;have hwp:=wrongProcess_any V m p W1 (hm.grew G1.out) h0;clear hm h0
 go_enter Tryz.func86,Tryz.ntmps86
 go_upto_region 1 with fail;rw[HW1.out,HB.out];obtain⟨x0,x1,x2,x3,x4,x5,x6,x7,x8,x9,x10⟩:=X1.out.box.c11;have y0:=Y1.out.box.c 0 rfl;go_wp2_with fail;refine hwp.mono ?_;clear hwp x0 x1 x2 x3 x4 x5 x6 x7 x8 x9 x10 y0;rintro e W2 ⟨hE,g2⟩;have G2:=dD (G1.out.trans g2);have X2:=dD (X1.out.grew g2);have Y2:=dD (Y1.out.grew g2);have Z2:=dD (Z1.out.grew g2);clear g2 X1 Y1 Z1 G1 HW1
 rcases hE with⟨rfl,hL⟩ | ⟨rfl,hL⟩
 case inr=>
  have HF:Xo (∀q s,¬LiveP m p q s):=hL;clear hL;have hzl:∀v∈zeroM,v.oneCell'=Xc:=by simp[zeroM,Value.oneCell']
  go_wp2_with (refine wp_storeAllT rfl 42 (.tmp 4) (.tmp 13) rfl (b+1+1) rfl zeroM rfl Z2.out rfl (by kernel_rfl) hzl ?_)
  intro W3 bx3 gr3 _;have G3:Xo (Grew w W3):=show Grew _ _ from grew_grown G2.out gr3 (by have:=HB.out;omega)
  have B3:Xo (BoxT W3 (b+1+1) 42 zeroM):=bx3;clear bx3 gr3;go_wp2;refine bodyPost_ret (ret_cell_tmp rfl _ rfl B3.out.box Tryz.underlying42 rfl (by kernel_rfl)) rfl ⟨.inl ⟨HF.out,rfl⟩,G3.out⟩
 obtain⟨q,s,hp,hs,hl⟩:=hL;subst hp;have HS:Xo (m.sp[q]? =Xa s):=hs;have HLV:Xo (s.live=Xc):=hl;clear hs hl;have hof:=of_any V m W2 (HM.out.grew G2.out);obtain⟨x0,x1,x2,x3,x4,x5,x6,x7,x8,x9,x10⟩:=X2.out.box.c11;go_wp2_with fail;refine hof.mono ?_;clear hof x0 x1 x2 x3 x4 x5 x6 x7 x8 x9 x10;rintro e W5 ⟨r,V5,rfl,m5⟩;go_upto_region 5 with fail;obtain⟨d,HD⟩:∃d,Xo (W5.heap.size=d):=⟨_,rfl⟩;obtain⟨W6,hW6⟩:∃W6,W5.alloc (Xk #[Xj (Xa ⟨r,0,Xb⟩)] 85)=W6:=⟨_,rfl⟩;have g6:=gP hW6
 have g46:Grew W2 W6:=m5.gr.trans g6;have M6:Xo (ChM W2 r W6 V5 m):=m5.grew g6;have D6:=xPT hW6 HD
 have Y6:=dD (Y2.out.grew g46);have Z6:=dD (Z2.out.grew g46);have HND:Xo (b+1+1<W2.heap.size/\r<d/\(∀k,Dp r V5.sp k->W2.heap.size<=k/\k<d)):=show _/\_ by
  have:=HD.out;exact⟨Z2.out.box.lt,by have:=m5.dlt r (.inl rfl);omega,fun k hk=>⟨m5.dlo k hk,by have:=m5.dlt k hk;omega⟩⟩
 rw[hW6,HD.out];clear hW6 g6 g46 m5 X2 Y2 Z2 HD;have hep:=eachPage_any M6.out q s HS.out 148 #[Xj (Xa ⟨d,0,Xb⟩),Xj (Xa ⟨b+1,0,Xb⟩)]
  (fun j W=>∃V':MaV,V'.sp=V5.sp/\ChM W2 r W V' (dropL m q ((pagesTo s.tb anyEn 64).take j))/\BoxT W d 85 [Xj (Xa ⟨r,0,Xb⟩)]/\BoxT W (b+1) 3 [Xe Xf (q:Int)]/\BoxT W (b+1+1) 42 zeroM)
  (enters_of Tryz.func148 (by kernel_rfl) rfl)
  (fun W hW=>⟨V5,rfl,by rw[List.take_zero];exact M6.out.grew hW,D6.out.grew hW,Y6.out.grew hW,Z6.out.grew hW⟩)
  (fun j n W hj hJ=>by
   obtain⟨V',e1,e2,e3,e5,e6⟩:=hJ;refine(exit1_any e2 q (by rw[dropL_len];exact(gS.1 HS.out).1) n d (b+1) e3.box e5.box).mono ?_
   rintro e w' ⟨hv,V'',f1,f2,f3⟩;rw[e1]at f1 f3;obtain⟨hn1,hn2,hn3⟩:=HND.out;refine⟨hv,⟨V'',f1,?_,e3.outD f3 (fun h=>by have:=(hn3 _ h).2;omega),e5.outD f3 (fun h=>by have:=(hn3 _ h).1;omega),e6.outD f3 (fun h=>by have:=(hn3 _ h).1;omega)⟩,f3⟩
   rw[take_snoc hj,dropL_snoc];exact f2)
 rw[List.take_length]at hep;have hmf:∀(fn:Fn) (first cap:Array Xq) (w:Xn),(Instr.makeFunc fn first cap).run Tryz.prog w= .ok (.func fn first cap) w:=fun _ _ _ _=>rfl
 have d0:=D6.out.box.c 0 rfl;have y0:=Y6.out.box.c 0 rfl;go_wp2_with fail;refine hep.mono ?_;clear hep d0 y0;rintro e W7 ⟨⟨v7,rfl⟩,⟨V7,e1,e2,e3,e5,e6⟩,_⟩;obtain⟨DM,HDM⟩:∃DM,Xo (dropL m q (pagesTo s.tb anyEn 64)=DM):=⟨_,rfl⟩;rw[HDM.out]at e2;have HQL:Xo (q<DM.sp.length):=show _<_ by rw[<-HDM.out,dropL_len];exact(gS.1 HS.out).1
 have M7:Xo (ChM W2 r W7 V7 DM):=e2;have D7:Xo (BoxT W7 d 85 [Xj (Xa ⟨r,0,Xb⟩)]):=e3;have Y7:Xo (BoxT W7 (b+1) 3 [Xe Xf (q:Int)]):=e5;have Z7:Xo (BoxT W7 (b+1+1) 42 zeroM):=e6;have HSP:Xo (V7.sp=V5.sp):=e1;clear e1 e2 e3 e5 e6 D6 Y6 Z6 M6;go_upto_region 6 with fail;obtain⟨xs,s1,s2,s3⟩:=M7.out.sp;obtain⟨xn,HXN⟩:∃xn,Xo (xs.length=xn):=⟨_,rfl⟩;obtain⟨g,gc,heq⟩:=s1.formS (by have:=HQL.out;omega)
 rw[HXN.out]at heq;have hqz:(q:Int)< (xn:Int):=by have:=HXN.out;have:=HQL.out;omega
 have HVS:Xo (O V7.sp.a V7.sp.n V7.sp.c= O (Xa ⟨g,0,Xb⟩) xn gc):=heq;rw[heq]at s1;have HS1:Xo (OwnRow spcE W2.heap.size W7 (O (Xa ⟨g,0,Xb⟩) xn gc) xs):=s1;have HS2:Xo (xs.length=DM.sp.length):=s2;have HS3:Xo (∀(i:Nat) x s,xs[i]? =Xa x->DM.sp[i]? =Xa s->∀W,OutD (Dq W2.heap.size r V7.sp) W7 W->SpaceAt W x s):=s3;clear s1 s2 s3 heq;obtain⟨I,HI⟩:∃I:Xn->Prop,Xo (∀u,I u↔Grew W7 u):=⟨fun u=>Grew W7 u,fun _=>Iff.rfl⟩
 have hI0:I W7.drew:=(HI.out _).2 (gW _)
 have hr10:∀y:HoldI I,y.world.cell? ⟨r,10,Xb⟩=Xa (O (Xa ⟨g,0,Xb⟩) xn gc):=fun y=>by rw[<-HVS.out];exact(M7.out.box.box.grew ((HI.out _).1 y.holds)).c 10 rfl
 have hd0:∀y:HoldI I,y.world.cell? ⟨d,0,Xb⟩=Xa (Xj (Xa ⟨r,0,Xb⟩)):=fun y=>(D7.out.box.grew ((HI.out _).1 y.holds)).c 0 rfl
 have hy0:∀y:HoldI I,y.world.cell? ⟨b+1,0,Xb⟩=Xa (Xe Xf (q:Int)):=fun y=>(Y7.out.box.grew ((HI.out _).1 y.holds)).c 0 rfl
 have hne:Nonempty (HoldI I):=⟨⟨_,hI0⟩⟩;refine wp_lax_tailD (I:=I) 8 [] (fun _=>True) hI0 trivial mixed (by kernel_rfl) rfl rfl (by decide) (by simp) (by kernel_rfl) ?_
 simp only[Xu,Xv];iterate 1 (refine laxD_quiet rfl rfl rfl (fun K hK=>?_);go_big_quiet_op;refine hK _ ?_;clear hK K)
 refine laxD_nilc (.tmp 21) ⟨r,0,Xb⟩ rfl rfl rfl rfl ?_;simp only[Xs,sB,sS,sZ];iterate 6 (refine laxD_quiet rfl rfl rfl (fun K hK=>?_);go_big_quiet_op;refine hK _ ?_;clear hK K)
 refine laxD_nil fun W8 hI8 _=>?_
 have g8:Grew W7 W8:=(HI.out _).1 hI8;refine wpList_store_elt (E:=spcE) rfl (.tmp 28) (.tmp 27) rfl W2.heap.size _ xs (HS1.out.grew g8) g q rfl ⟨Xd,sli0,sli0,sli0,sli0,sli0,sli0,sli0,sli0,sli0⟩ (by rw[HXN.out];omega) ⟨g,q*10,Xb⟩ rfl rfl spz rfl rfl ?_
 intro W9 ow9 gr9 _;rw[<-HVS.out]at ow9;have hgo:(O V7.sp.a V7.sp.n V7.sp.c).ownBlock=Xa g:=by rw[HVS.out];rfl
 have M9:Xo (ChM W2 r W9 V7 (goneM DM q)):=show ChM _ _ _ _ _ from(M7.out.grew g8).setP HS2.out (fun i x s hx hs W hW=>HS3.out i x s hx hs W ((OutD.grew g8).trans hW)) hgo gr9 ow9 (fun W=>⟨rfl,RowAt.nil _ _,nR _,TabS.nil _ _ _⟩)
 obtain⟨hn1,hn2,hn3⟩:=HND.out;have hgd:=hn3 g (by rw[<-HSP.out];exact .inr hgo)
 have D9:Xo (BoxT W9 d 85 [Xj (Xa ⟨r,0,Xb⟩)]):=show BoxT _ _ _ _ from(D7.out.grew g8).beside gr9 (fun k e=>by cases e;omega)
 have Z9:Xo (BoxT W9 (b+1+1) 42 zeroM):=show BoxT _ _ _ _ from(Z7.out.grew g8).beside gr9 (fun k e=>by cases e;omega)
 clear ow9 gr9 hI8 g8 hI0 hne HI hr10 hd0 hy0 hgo hn1 hn2 hn3 hgd HS1 HS3 M7 D7 Y7 Z7;obtain⟨FM,HFM⟩:∃FM,Xo (goneM DM q=FM):=⟨_,rfl⟩;rw[HFM.out]at M9;have HZL:Xo (∀v∈chL V7 FM,v.oneCell'=Xc):=show∀v∈chL V7 FM,_ by simp[chL,Value.oneCell']
 have d0:=D9.out.box.c 0 rfl;obtain⟨r0,r1,r2,r3,r4,r5,r6,r7,r8,r9,r10⟩:=M9.out.box.box.c11
 go_wp2_with (refine wp_storeAllT rfl 42 (.tmp 4) (.tmp 32) rfl (b+1+1) rfl (chL V7 FM) rfl Z9.out rfl (by kernel_rfl) HZL.out ?_)
 clear d0 r0 r1 r2 r3 r4 r5 r6 r7 r8 r9 r10;intro W11 bx gr11 _;have G11:Xo (Grew w W11):=show Grew _ _ from grew_grown (G2.out.trans M9.out.gr) gr11 (by have:=HB.out;omega)
 have B11:Xo (BoxT W11 (b+1+1) 42 (chL V7 FM)):=bx;have HF:Xo (∀W,OutD (fun k=>k<w.heap.size) W11 W->MachAt W V7 FM):=show∀W,_ from fun W hW=>M9.out.doneD ((OutD.grown (D:=fun k=>k<W2.heap.size) gr11 (show b+1+1<W2.heap.size by have:=HND.out.1;omega)).trans (hW.wide fun k hk=>Xt hk (bS G2.out)))
 have HEX:Xo (exitP m q s=FM):=show _=_ by unfold exitP;rw[HDM.out,HFM.out]
 clear bx gr11;go_wp2;refine bodyPost_ret (ret_cell_tmp rfl _ rfl B11.out.box Tryz.underlying42 rfl (by kernel_rfl)) rfl ⟨.inr ⟨q,s,⟨rfl,HS.out,HLV.out⟩,V7,?_,?_⟩,G11.out⟩
 ·rw[HEX.out];rfl
 rw[HEX.out];exact HF.out
def FkA (w0:Xn) (m:Ma) (p:Int) (cs:List Xq) (k er:Int) (w:Xn):Prop:=
 (er≠0/\cs=zeroM/\((er=5/\∀q s,¬LiveP m p q s)\/(er=4/\∃q s,LiveP m p q s/\Vac m.sp 4)))\/(er=0/\∃(q:Nat) (s:Sp) (kk:Nat) (V':MaV),LiveP m p q s/\Vac m.sp kk/\kk<4/\k=(kk:Int)/\cs=chL V' (forkP m kk q s)/\∀W,OutD (fun k=>k<w0.heap.size) w W->MachAt W V' (forkP m kk q s))
theorem FkA.by {w0 w1 w w':Xn} {m:Ma} {p:Int} {cs:List Xq} {k er:Int} (h:FkA w1 m p cs k er w) (g:∀W,OutD (fun k=>k<w0.heap.size) w' W->OutD (fun k=>k<w1.heap.size) w W):FkA w0 m p cs k er w':=by
 rcases h with h | ⟨h1,q,s,kk,V',h2,h3,h4,h5,h6,h7⟩
 ·exact .inl h
 exact .inr ⟨h1,q,s,kk,V',h2,h3,h4,h5,h6,fun W hW=>h7 W (g W hW)⟩
theorem outd_newer {w0 w1 w w':Xn} (g2:Grew w w') (hs:w0.heap.size<=w1.heap.size):∀W,OutD (fun k=>k<w0.heap.size) w' W->OutD (fun k=>k<w1.heap.size) w W:=fun _ hW=>(OutD.grew g2).trans (hW.wide fun _ hk=>Xt hk hs)
theorem outd_lower {w0 w1 w w':Xn} {g:Nat} (g2:w.grownBy w' (Xa g)) (hg:g<w1.heap.size) (hs:w0.heap.size<=w1.heap.size):∀W,OutD (fun k=>k<w0.heap.size) w' W->OutD (fun k=>k<w1.heap.size) w W:=fun _ hW=>(OutD.grown (D:=fun k=>k<w1.heap.size) g2 hg).trans (hW.wide fun _ hk=>Xt hk hs)
def KFork (m:Ma) (pr er n:Int) (l:List Int) (m':Ma):Prop:=
 l=[]/\((er=5/\n=0/\∀q s,¬LiveP m pr q s)\/(er=4/\n=0/\∃q s,LiveP m pr q s/\Vac m.sp 4)\/(er=0/\∃(q:Nat) (s:Sp) (k:Nat),LiveP m pr q s/\Vac m.sp k/\k<4/\n=(k:Int)/\m'=forkP m k q s))
def KExit (m:Ma) (pr er n:Int) (l:List Int) (m':Ma):Prop:=
 l=[]/\n=0/\((er=5/\∀q s,¬LiveP m pr q s)\/(er=0/\∃(q:Nat) (s:Sp),LiveP m pr q s/\m'=exitP m q s))
def ExA (w0:Xn) (m:Ma) (p:Int) (cs:List Xq) (er:Int) (w:Xn):Prop:=
 (er≠0/\cs=zeroM/\er=5/\∀q s,¬LiveP m p q s)\/(er=0/\∃(q:Nat) (s:Sp) (V':MaV),LiveP m p q s/\cs=chL V' (exitP m q s)/\∀W,OutD (fun k=>k<w0.heap.size) w W->MachAt W V' (exitP m q s))
theorem ExA.by {w0 w1 w w':Xn} {m:Ma} {p:Int} {cs:List Xq} {er:Int} (h:ExA w1 m p cs er w) (g:∀W,OutD (fun k=>k<w0.heap.size) w' W->OutD (fun k=>k<w1.heap.size) w W):ExA w0 m p cs er w':=by
 rcases h with h | ⟨h1,q,s,V',h2,h6,h7⟩
 ·exact .inl h
 exact .inr ⟨h1,q,s,V',h2,h6,fun W hW=>h7 W (g W hW)⟩
theorem kfork_any {w0 w:Xn} {p:Nat} {V:MaV} {m:Ma} (h:ChW w0 p w V m) (hw:maW m=0) (h4:m.sp.length<=4) (c:Cl):
  Xp Tryz.prog 40 #[Xj (Xa ⟨p,0,Xb⟩),Xi #[Xe Xf c.kind,Xe Xf c.proc,Xe Xf c.pt,Xe Xf c.n,Xe Xf c.file,Xe Xf c.base,Xh c.rd,Xh c.wr,Xh c.sh,O c.dv.a c.dv.n c.dv.c]] w fun e w'=>WorkA (KFork m c.proc) w0 p w e w':=by
 have HM:Xo (ChW w0 p w V m):=h;have HPW:Xo (p<w.heap.size):=h.dlt p (.inl rfl);clear h;obtain⟨b,HB⟩:∃b,Xo (w.heap.size=b):=⟨_,rfl⟩;obtain⟨W1,hW1⟩:∃W1,(w.alloc (Xk #[Xe Xf c.kind,Xe Xf c.proc,Xe Xf c.pt,Xe Xf c.n,Xe Xf c.file,Xe Xf c.base,Xh c.rd,Xh c.wr,Xh c.sh,O c.dv.a c.dv.n c.dv.c] 26)).alloc (Xk #[Xe Xf 0,Xe Xf 0,O Xb 0 0] 50)=W1:=⟨_,rfl⟩;have G1:=gD2 hW1
 have X1:Xo (BoxT W1 b 26 [Xe Xf c.kind,Xe Xf c.proc,Xe Xf c.pt,Xe Xf c.n,Xe Xf c.file,Xe Xf c.base,Xh c.rd,Xh c.wr,Xh c.sh,O c.dv.a c.dv.n c.dv.c]):=show BoxT _ _ _ _ by rw[<-hW1];exact(BoxT.top w [Xe Xf c.kind,Xe Xf c.proc,Xe Xf c.pt,Xe Xf c.n,Xe Xf c.file,Xe Xf c.base,Xh c.rd,Xh c.wr,Xh c.sh,O c.dv.a c.dv.n c.dv.c] _ HB.out.symm).grew (grew_alloc _ _)
 have A1:Xo (BoxT W1 (b+1) 50 [Xe Xf 0,Xe Xf 0,O Xb 0 0]):=show BoxT _ _ _ _ by rw[<-hW1];exact BoxT.top _ [Xe Xf 0,Xe Xf 0,O Xb 0 0] _ (by have:=HB.out;simp;omega)
 have HBL:Xo (b+1<W1.heap.size):=A1.out.box.lt;have HW1:Xo (_=W1):=hW1;clear hW1;have M1:=dD (HM.out.grew G1.out);have HFK:Xo (∀W,Grew W1 W->Xp Tryz.prog 84 #[Xi #[O V.f.a V.f.n V.f.c,Xe Xf m.hand,O V.s.a V.s.n V.s.c,O V.sb.a V.sb.n V.sb.c,O V.sq.a V.sq.n V.sq.c,O V.db.a V.db.n V.db.c,O V.dq.a V.dq.n V.dq.c,O V.fl.a V.fl.n V.fl.c,Xe Xf m.cnt,O V.ca.a V.ca.n V.ca.c,O V.sp.a V.sp.n V.sp.c],Xe Xf c.proc] W fun e w'=>ForkedD m c.proc W e w'/\Grew W w'):=show∀W,_ from fun W hW=>forkD_any V m c.proc W (M1.out.at.grew hW) hw h4
 clear hw h4
 go_enter Tryz.func40,Tryz.ntmps40
 go_upto_region 1 with fail;rw[HW1.out,HB.out];clear HW1
 go_cut [5,6,7] (fun s5 s6 s7 wx=>∃(g:Nat) (k er:Int) (cs:List Xq),s5= Xj (Xa ⟨g,0,Xb⟩)/\s6= Xe Xf k/\s7= Xe Xf er/\Xo (BoxT wx g 42 cs)/\Xo (Grew W1 wx)/\Xo (FkA W1 m c.proc cs k er wx))
 case first=>
  refine wp_region_held (S:=fun W=>Grew W1 W) mixed ?_
  show wpAnyH _ _ _ _ _ 15 (Array.replicate 15 Xd) _ W1.drew
  have GD:Grew W1 W1.drew:=(gW _)
  refine takeH 0 (Xa 9) (Xj (Xa ⟨p,0,Xb⟩)) rfl rfl (by kernel_rfl) (by kernel_rfl) (by kernel_rfl) (fun _ _ _ h=>h) (.inl ⟨rfl,fun _ _=>rfl⟩) GD ?_
  simp only[Xs,sB,sS,sZ];refine takeH 1 (Xa 10) (Xj (Xa ⟨p,0,Xb⟩)) rfl rfl (by kernel_rfl) (by kernel_rfl) (by kernel_rfl) (fun _ _ _ h=>h) (.inl ⟨rfl,fun _ _=>rfl⟩) GD ?_
  simp only[Xs,sB,sS,sZ];refine takeH 2 (Xa 11) (Xj (Xa ⟨p,0,Xb⟩)) rfl rfl (by kernel_rfl) (by kernel_rfl) (by kernel_rfl) (fun _ _ _ h=>h) (.inl ⟨rfl,fun _ _=>rfl⟩) GD ?_
  simp only[Xs,sB,sS,sZ];refine takeH 3 (Xa 12) (Xi (chL V m).toArray) rfl rfl (by kernel_rfl) (by kernel_rfl) (by kernel_rfl) (fun _ _ _ h=>h) (yieldsIf_load_mid rfl 42 (.tmp 11) rfl p 0 rfl (chL V m) _ (fun W hW=>(M1.out.box.box.grew hW).range) Tryz.underlying42 rfl (by kernel_rfl)) GD ?_
  simp only[Xs,sB,sS,sZ];refine takeH 4 (Xa 13) (Xj (Xa ⟨b,1,Xb⟩)) rfl rfl (by kernel_rfl) (by kernel_rfl) (by kernel_rfl) (fun _ _ _ h=>h) (.inl ⟨rfl,fun _ _=>rfl⟩) GD ?_
  simp only[Xs,sB,sS,sZ];refine takeH 5 (Xa 14) (Xe Xf c.proc) rfl rfl (by kernel_rfl) (by kernel_rfl) (by kernel_rfl) (fun _ _ _ h=>h) (.inl ⟨rfl,fun W hW=>run_load1 _ (.tmp 13) rfl ⟨b,1,Xb⟩ rfl (Xe Xf c.proc) ((X1.out.box.grew hW).c 1 rfl) Tryz.underlying3 rfl⟩) GD ?_
  simp only[Xs,sB,sS,sZ];refine wpAnyH_all (rs:=[6,11]) (by kernel_rfl) (by simp) ?_
  intro j hj;simp only[mC,nM,or_false]at hj
  rcases hj with rfl | rfl
  ·skip
   refine wpOp_does (Xa 15) (fun v w'=>(∃(cs:List Xq) (k er:Int),v= Xm #[Xi cs.toArray,Xe Xf k,Xe Xf er]/\cs.length=11/\(∀x∈cs,x.oneCell'=Xc)/\FkA W1.drew m c.proc cs k er w')/\Grew W1.drew w') rfl rfl rfl (Does.call [Xi #[O V.f.a V.f.n V.f.c,Xe Xf m.hand,O V.s.a V.s.n V.s.c,O V.sb.a V.sb.n V.sb.c,O V.sq.a V.sq.n V.sq.c,O V.db.a V.db.n V.db.c,O V.dq.a V.dq.n V.dq.c,O V.fl.a V.fl.n V.fl.c,Xe Xf m.cnt,O V.ca.a V.ca.n V.ca.c,O V.sp.a V.sp.n V.sp.c],Xe Xf c.proc] rfl Tryz.func84 rfl rfl rfl ((HFK.out _ GD).mono ?_)) ?_
   ·rintro e w' ⟨h,hg2⟩
    rcases h with⟨hn,rfl⟩ | ⟨q,s,k,hl,hv,⟨rfl,rfl⟩ | ⟨hk,V',rfl,hm⟩⟩
    ·exact⟨_,rfl,⟨zeroM,0,5,rfl,rfl,by unfold zeroM;simp[Value.oneCell'],.inl ⟨by decide,rfl,.inl ⟨rfl,hn⟩⟩⟩,hg2⟩
    ·exact⟨_,rfl,⟨zeroM,0,4,rfl,rfl,by unfold zeroM;simp[Value.oneCell'],.inl ⟨by decide,rfl,.inr ⟨rfl,q,s,hl,hv⟩⟩⟩,hg2⟩
    exact⟨_,rfl,⟨chL V' (forkP m k q s),(k:Int),0,rfl,rfl,by simp[chL,Value.oneCell'],.inr ⟨rfl,q,s,k,V',hl,hv,hk,rfl,rfl,hm⟩⟩,hg2⟩
   rintro v WT ⟨⟨cs,k,er,rfl,hlen,hone,hua⟩,gc⟩;have gt:Grew W1 WT:=GD.trans gc;refine⟨gt,?_⟩;simp only[Xs,sB,sS,sZ];refine takeH 7 (Xa 8) (Xm #[Xi cs.toArray,Xe Xf k,Xe Xf er]) rfl rfl (by kernel_rfl) (by kernel_rfl) (by kernel_rfl) (fun _ _ _ h=>h) (.inl ⟨rfl,fun _ _=>rfl⟩) gt ?_
   simp only[Xs,sB,sS,sZ];refine takeH 8 (Xa 16) (Xi cs.toArray) rfl rfl (by kernel_rfl) (by kernel_rfl) (by kernel_rfl) (fun _ _ _ h=>h) (.inl ⟨rfl,fun _ _=>rfl⟩) gt ?_
   simp only[Xs,sB,sS,sZ];refine takeH 9 (Xa 17) (Xe Xf k) rfl rfl (by kernel_rfl) (by kernel_rfl) (by kernel_rfl) (fun _ _ _ h=>h) (.inl ⟨rfl,fun _ _=>rfl⟩) gt ?_
   simp only[Xs,sB,sS,sZ];refine takeH 10 (Xa 18) (Xe Xf er) rfl rfl (by kernel_rfl) (by kernel_rfl) (by kernel_rfl) (fun _ _ _ h=>h) (.inl ⟨rfl,fun _ _=>rfl⟩) gt ?_
   simp only[Xs,sB,sS,sZ];refine wpAnyH_all (rs:=[11]) (by kernel_rfl) (by simp) ?_
   intro j hj;simp only[mC,nM,or_false]at hj;subst hj;refine wpOp_does (Xa 5) (fun v w'=>v= Xj (Xa ⟨(WT).heap.size,0,Xb⟩)/\w'=(WT).alloc (Xk zeroM.toArray 42)) rfl rfl rfl (Does.step (run_allocMach rfl) ⟨rfl,rfl⟩) ?_
   rintro v WA ⟨rfl,hwa⟩;have ga:Grew W1 WA:=by rw[hwa];exact gt.trans (grew_alloc _ _)
   have gl:Grew WT WA:=by rw[hwa];exact grew_alloc _ _
   obtain⟨g,HG⟩:∃g,Xo ((WT).heap.size=g):=⟨_,rfl⟩;have bp:BoxT WA g 42 zeroM:=by rw[hwa];exact BoxT.top _ zeroM _ HG.out.symm
   have hg1:W1.heap.size<=g:=by rw[<-HG.out];exact bS gt
   rw[HG.out];clear hwa;refine⟨ga,?_⟩;simp only[Xs,sB,sS,sZ];refine wpAnyH_all (rs:=[12]) (by kernel_rfl) (by simp) ?_
   intro j hj;simp only[mC,nM,or_false]at hj;subst hj;refine wpOp_does Xb (fun v w'=>Grew W1 w'/\BoxT w' g 42 cs/\FkA W1 m c.proc cs k er w') rfl rfl rfl (Does.storeAllT 42 (.tmp 5) (.tmp 16) rfl g rfl cs rfl bp (by rw[hlen];rfl) (by kernel_rfl) hone (fun w' b' g' s'=>⟨grew_grown ga g' hg1,b',hua.by (outd_newer (grew_grown gl g' (by rw[HG.out];exact nR _)) (bS GD))⟩)) ?_
   rintro v WS ⟨gs,bs,us⟩;refine⟨gs,?_⟩;simp only[Xs];refine takeH 13 (Xa 6) (Xe Xf k) rfl rfl (by kernel_rfl) (by kernel_rfl) (by kernel_rfl) (fun _ _ _ h=>h) (.inl ⟨rfl,fun _ _=>rfl⟩) gs ?_
   simp only[Xs,sB,sS,sZ];refine takeH 14 (Xa 7) (Xe Xf er) rfl rfl (by kernel_rfl) (by kernel_rfl) (by kernel_rfl) (fun _ _ _ h=>h) (.inl ⟨rfl,fun _ _=>rfl⟩) gs ?_
   simp only[Xs,sB,sS,sZ];refine wpAnyH_done (by kernel_rfl) ?_ _
   have BS:Xo (BoxT WS g 42 cs):=bs;have GS:Xo (Grew W1 WS):=gs;have US:Xo (FkA W1 m c.proc cs k er WS):=us;clear gs bs us;go_wp2
   go_meet
   exact⟨g,k,er,cs,rfl,rfl,rfl,BS,GS,US⟩
  skip
  refine wpOp_does (Xa 5) (fun v w'=>v= Xj (Xa ⟨(W1.drew).heap.size,0,Xb⟩)/\w'=(W1.drew).alloc (Xk zeroM.toArray 42)) rfl rfl rfl (Does.step (run_allocMach rfl) ⟨rfl,rfl⟩) ?_
  rintro v WA ⟨rfl,hwa⟩;have ga:Grew W1 WA:=by rw[hwa];exact GD.trans (grew_alloc _ _)
  have gl:Grew W1.drew WA:=by rw[hwa];exact grew_alloc _ _
  obtain⟨g,HG⟩:∃g,Xo ((W1.drew).heap.size=g):=⟨_,rfl⟩;have bp:BoxT WA g 42 zeroM:=by rw[hwa];exact BoxT.top _ zeroM _ HG.out.symm
  have hg1:W1.heap.size<=g:=by rw[<-HG.out];exact bS GD
  rw[HG.out];clear hwa;refine⟨ga,?_⟩;simp only[Xs,sB,sS,sZ];refine wpAnyH_all (rs:=[6]) (by kernel_rfl) (by simp) ?_
  intro j hj;simp only[mC,nM,or_false]at hj;subst hj;refine wpOp_does (Xa 15) (fun v w'=>(∃(cs:List Xq) (k er:Int),v= Xm #[Xi cs.toArray,Xe Xf k,Xe Xf er]/\cs.length=11/\(∀x∈cs,x.oneCell'=Xc)/\FkA WA m c.proc cs k er w')/\Grew WA w') rfl rfl rfl (Does.call [Xi #[O V.f.a V.f.n V.f.c,Xe Xf m.hand,O V.s.a V.s.n V.s.c,O V.sb.a V.sb.n V.sb.c,O V.sq.a V.sq.n V.sq.c,O V.db.a V.db.n V.db.c,O V.dq.a V.dq.n V.dq.c,O V.fl.a V.fl.n V.fl.c,Xe Xf m.cnt,O V.ca.a V.ca.n V.ca.c,O V.sp.a V.sp.n V.sp.c],Xe Xf c.proc] rfl Tryz.func84 rfl rfl rfl ((HFK.out _ ga).mono ?_)) ?_
  ·rintro e w' ⟨h,hg2⟩
   rcases h with⟨hn,rfl⟩ | ⟨q,s,k,hl,hv,⟨rfl,rfl⟩ | ⟨hk,V',rfl,hm⟩⟩
   ·exact⟨_,rfl,⟨zeroM,0,5,rfl,rfl,by unfold zeroM;simp[Value.oneCell'],.inl ⟨by decide,rfl,.inl ⟨rfl,hn⟩⟩⟩,hg2⟩
   ·exact⟨_,rfl,⟨zeroM,0,4,rfl,rfl,by unfold zeroM;simp[Value.oneCell'],.inl ⟨by decide,rfl,.inr ⟨rfl,q,s,hl,hv⟩⟩⟩,hg2⟩
   exact⟨_,rfl,⟨chL V' (forkP m k q s),(k:Int),0,rfl,rfl,by simp[chL,Value.oneCell'],.inr ⟨rfl,q,s,k,V',hl,hv,hk,rfl,rfl,hm⟩⟩,hg2⟩
  rintro v WT ⟨⟨cs,k,er,rfl,hlen,hone,hua⟩,gc⟩;have gt:Grew W1 WT:=ga.trans gc;refine⟨gt,?_⟩;simp only[Xs,sB,sS,sZ];have hlt:=bp.box.lt;have bp:=bp.grew gc;refine takeH 7 (Xa 8) (Xm #[Xi cs.toArray,Xe Xf k,Xe Xf er]) rfl rfl (by kernel_rfl) (by kernel_rfl) (by kernel_rfl) (fun _ _ _ h=>h) (.inl ⟨rfl,fun _ _=>rfl⟩) gt ?_
  simp only[Xs,sB,sS,sZ];refine takeH 8 (Xa 16) (Xi cs.toArray) rfl rfl (by kernel_rfl) (by kernel_rfl) (by kernel_rfl) (fun _ _ _ h=>h) (.inl ⟨rfl,fun _ _=>rfl⟩) gt ?_
  simp only[Xs,sB,sS,sZ];refine takeH 9 (Xa 17) (Xe Xf k) rfl rfl (by kernel_rfl) (by kernel_rfl) (by kernel_rfl) (fun _ _ _ h=>h) (.inl ⟨rfl,fun _ _=>rfl⟩) gt ?_
  simp only[Xs,sB,sS,sZ];refine takeH 10 (Xa 18) (Xe Xf er) rfl rfl (by kernel_rfl) (by kernel_rfl) (by kernel_rfl) (fun _ _ _ h=>h) (.inl ⟨rfl,fun _ _=>rfl⟩) gt ?_
  simp only[Xs,sB,sS,sZ];refine wpAnyH_all (rs:=[12]) (by kernel_rfl) (by simp) ?_
  intro j hj;simp only[mC,nM,or_false]at hj;subst hj;refine wpOp_does Xb (fun v w'=>Grew W1 w'/\BoxT w' g 42 cs/\FkA W1 m c.proc cs k er w') rfl rfl rfl (Does.storeAllT 42 (.tmp 5) (.tmp 16) rfl g rfl cs rfl bp (by rw[hlen];rfl) (by kernel_rfl) hone (fun w' b' g' s'=>⟨grew_grown gt g' hg1,b',hua.by (outd_lower g' hlt (bS ga))⟩)) ?_
  rintro v WS ⟨gs,bs,us⟩;refine⟨gs,?_⟩;simp only[Xs];refine takeH 13 (Xa 6) (Xe Xf k) rfl rfl (by kernel_rfl) (by kernel_rfl) (by kernel_rfl) (fun _ _ _ h=>h) (.inl ⟨rfl,fun _ _=>rfl⟩) gs ?_
  simp only[Xs,sB,sS,sZ];refine takeH 14 (Xa 7) (Xe Xf er) rfl rfl (by kernel_rfl) (by kernel_rfl) (by kernel_rfl) (fun _ _ _ h=>h) (.inl ⟨rfl,fun _ _=>rfl⟩) gs ?_
  simp only[Xs,sB,sS,sZ];refine wpAnyH_done (by kernel_rfl) ?_ _
  have BS:Xo (BoxT WS g 42 cs):=bs;have GS:Xo (Grew W1 WS):=gs;have US:Xo (FkA W1 m c.proc cs k er WS):=us;clear gs bs us;go_wp2
  go_meet
  exact⟨g,k,er,cs,rfl,rfl,rfl,BS,GS,US⟩
 obtain⟨g,k,er,cs,rfl,rfl,rfl,BS,GS,US⟩:=hcut;have AS:=dD (A1.out.grew GS.out);have HPB:Xo (p<b):=show _<_ by have:=HPW.out;have:=HB.out;omega
 clear HFK A1 X1
 rcases US.out with⟨hne,rfl,hn⟩ | ⟨rfl,q,s,kk,V2,h1,h2,h3,rfl,rfl,h4⟩
 ·have hz:(er != 0)=Xc:=by simp[hne]
  have hbe:=become_err er k p hne wc;have HN:=show Xo _ from hn
  have HNE:Xo (er≠0):=hne;clear US hn hne
  go_wp2_with (first | refine wp_loadAll rfl 42 (.tmp 5) rfl g rfl BS.out.box Tryz.underlying42 rfl (by kernel_rfl) ?_ | (go_at_call 85;refine hbe.mono ?_))
  clear hbe;rintro e W2 ⟨rfl,g2⟩;have A2:=dD (AS.out.grew g2);have G2:Xo (Grew w0 W2):=show Grew _ _ from(M1.out.gr.trans GS.out).trans g2
  have Q2:Xo (Grew w W2):=show Grew _ _ from(G1.out.trans GS.out).trans g2
  have HL:Xo (w0.heap.size<=b):=show _<=_ by have:=HM.out.lo;have:=HPB.out;omega
  clear g2;unfold ansV noS
  go_wp2_with (refine wp_storeAllT rfl 50 (.tmp 4) (.tmp 23) rfl (b+1) rfl [Xe Xf er,Xe Xf 0,O Xb 0 0] rfl A2.out rfl (by kernel_rfl) (by simp[Value.oneCell']) ?_)
  intro W3 b3 g3 _;have G3:Xo (Grew w0 W3):=show Grew _ _ from grew_grown G2.out g3 (by have:=HL.out;omega)
  have A3:Xo (BoxT W3 (b+1) 50 [Xe Xf er,Xe Xf 0,O Xb 0 0]):=b3;have O3:Xo (OutD (fun k=>k=p) w W3):=show OutD _ _ _ from OutD.beyond (OutD.grew Q2.out) g3 (by have:=HB.out;omega)
  clear b3 g3;go_wp2;refine bodyPost_ret (ret_cell rfl _ rfl A3.out.box Tryz.underlying50 rfl (by kernel_rfl)) rfl (WorkA.err (V:=V) (m:=m) HNE.out ⟨rfl,HN.out.elim (fun e=> .inl ⟨e.1,rfl,e.2⟩) fun e=> .inr (.inl ⟨e.1,rfl,e.2⟩)⟩ O3.out G3.out)
 have hbo:=become_ok (V':=V2) (m':=(forkP m kk q s)) (M1.out.box.grew GS.out) HM.out.lo (M1.out.gr.trans GS.out) (kk:Int);have HLP:=show Xo (LiveP m c.proc q s)from h1
 have HVC:=show Xo (Vac m.sp kk/\kk<4)from⟨h2,h3⟩
 have HAT:Xo (∀W,OutD (fun k=>k<W1.heap.size) wc W->MachAt W V2 (forkP m kk q s)):=h4
 obtain⟨FM,HFM⟩:∃FM,Xo ((forkP m kk q s)=FM):=⟨_,rfl⟩;rw[HFM.out]at hbo HAT BS;clear US h1 h2 h3 h4
 go_wp2_with (first | refine wp_loadAll rfl 42 (.tmp 5) rfl g rfl BS.out.box Tryz.underlying42 rfl (by kernel_rfl) ?_ | (go_at_call 85;refine hbo.mono ?_))
 clear hbo;rintro e W2 ⟨rfl,p2,o2,g2⟩;have A2:Xo (BoxT W2 (b+1) 50 [Xe Xf 0,Xe Xf 0,O Xb 0 0]):=show BoxT _ _ _ _ from AS.out.outD o2 (by have:=HPB.out;omega)
 have G2:Xo (Grew w0 W2):=g2;have P2:Xo (BoxT W2 p 88 (chL V2 FM)):=p2;have O2:Xo (OutD (fun k=>k=p) wc W2):=o2
 have HL:Xo (w0.heap.size<=b):=show _<=_ by have:=HM.out.lo;have:=HPB.out;omega
 have HS1:Xo (b+1<W1.heap.size):=HBL;clear g2 p2 o2;unfold ansV noS
 go_wp2_with (refine wp_storeAllT rfl 50 (.tmp 4) (.tmp 23) rfl (b+1) rfl [Xe Xf 0,Xe Xf (kk:Int),O Xb 0 0] rfl A2.out rfl (by kernel_rfl) (by simp[Value.oneCell']) ?_)
 intro W3 b3 g3 _;have G3:Xo (Grew w0 W3):=show Grew _ _ from grew_grown G2.out g3 (by have:=HL.out;omega)
 have A3:Xo (BoxT W3 (b+1) 50 [Xe Xf 0,Xe Xf (kk:Int),O Xb 0 0]):=b3;have P3:Xo (BoxT W3 p 88 (chL V2 FM)):=show BoxT _ _ _ _ from P2.out.beside g3 (fun k e=>by cases e;have:=HPB.out;omega)
 have M3:Xo (∀W,OutD (fun k=>k<w.heap.size) W3 W->MachAt W V2 FM):=show∀W,_ from fun W hW=>HAT.out W (((O2.out.wide fun k hk=>by have hk:k=p:=hk;have:=HPB.out;have:=HS1.out;omega).trans (OutD.grown (D:=fun k=>k<W1.heap.size) g3 HS1.out)).trans (hW.wide fun k hk=>Xt hk (bS G1.out)))
 have O3:Xo (OutD (fun k=>k=p) w W3):=show OutD _ _ _ from OutD.beyond ((OutD.grew (G1.out.trans GS.out)).trans O2.out) g3 (by have:=HB.out;omega)
 clear b3 g3;go_wp2;refine bodyPost_ret (ret_cell rfl _ rfl A3.out.box Tryz.underlying50 rfl (by kernel_rfl)) rfl (WorkA.ok (V':=V2) (m':=FM) ⟨rfl,.inr (.inr ⟨rfl,q,s,kk,HLP.out,HVC.out.1,HVC.out.2,rfl,HFM.out.symm⟩)⟩ O3.out G3.out P3.out M3.out)
theorem kexit_any {w0 w:Xn} {p:Nat} {V:MaV} {m:Ma} (h:ChW w0 p w V m) (hw:maW m=0) (c:Cl):
  Xp Tryz.prog 41 #[Xj (Xa ⟨p,0,Xb⟩),Xi #[Xe Xf c.kind,Xe Xf c.proc,Xe Xf c.pt,Xe Xf c.n,Xe Xf c.file,Xe Xf c.base,Xh c.rd,Xh c.wr,Xh c.sh,O c.dv.a c.dv.n c.dv.c]] w fun e w'=>WorkA (KExit m c.proc) w0 p w e w':=by
 have HM:Xo (ChW w0 p w V m):=h;have HPW:Xo (p<w.heap.size):=h.dlt p (.inl rfl);clear h;obtain⟨b,HB⟩:∃b,Xo (w.heap.size=b):=⟨_,rfl⟩;obtain⟨W1,hW1⟩:∃W1,(w.alloc (Xk #[Xe Xf c.kind,Xe Xf c.proc,Xe Xf c.pt,Xe Xf c.n,Xe Xf c.file,Xe Xf c.base,Xh c.rd,Xh c.wr,Xh c.sh,O c.dv.a c.dv.n c.dv.c] 26)).alloc (Xk #[Xe Xf 0,Xe Xf 0,O Xb 0 0] 50)=W1:=⟨_,rfl⟩;have G1:=gD2 hW1
 have X1:Xo (BoxT W1 b 26 [Xe Xf c.kind,Xe Xf c.proc,Xe Xf c.pt,Xe Xf c.n,Xe Xf c.file,Xe Xf c.base,Xh c.rd,Xh c.wr,Xh c.sh,O c.dv.a c.dv.n c.dv.c]):=show BoxT _ _ _ _ by rw[<-hW1];exact(BoxT.top w [Xe Xf c.kind,Xe Xf c.proc,Xe Xf c.pt,Xe Xf c.n,Xe Xf c.file,Xe Xf c.base,Xh c.rd,Xh c.wr,Xh c.sh,O c.dv.a c.dv.n c.dv.c] _ HB.out.symm).grew (grew_alloc _ _)
 have A1:Xo (BoxT W1 (b+1) 50 [Xe Xf 0,Xe Xf 0,O Xb 0 0]):=show BoxT _ _ _ _ by rw[<-hW1];exact BoxT.top _ [Xe Xf 0,Xe Xf 0,O Xb 0 0] _ (by have:=HB.out;simp;omega)
 have HBL:Xo (b+1<W1.heap.size):=A1.out.box.lt;have HW1:Xo (_=W1):=hW1;clear hW1;have M1:=dD (HM.out.grew G1.out);have HFK:Xo (∀W,Grew W1 W->Xp Tryz.prog 86 #[Xi #[O V.f.a V.f.n V.f.c,Xe Xf m.hand,O V.s.a V.s.n V.s.c,O V.sb.a V.sb.n V.sb.c,O V.sq.a V.sq.n V.sq.c,O V.db.a V.db.n V.db.c,O V.dq.a V.dq.n V.dq.c,O V.fl.a V.fl.n V.fl.c,Xe Xf m.cnt,O V.ca.a V.ca.n V.ca.c,O V.sp.a V.sp.n V.sp.c],Xe Xf c.proc] W fun e w'=>ExitedD m c.proc W e w'/\Grew W w'):=show∀W,_ from fun W hW=>exitD_any V m c.proc W (M1.out.at.grew hW) hw
 clear hw
 go_enter Tryz.func41,Tryz.ntmps41
 go_upto_region 1 with fail;rw[HW1.out,HB.out];clear HW1
 go_cut [5,6] (fun s5 s6 wx=>∃(g:Nat) (er:Int) (cs:List Xq),s5= Xj (Xa ⟨g,0,Xb⟩)/\s6= Xe Xf er/\Xo (BoxT wx g 42 cs)/\Xo (Grew W1 wx)/\Xo (ExA W1 m c.proc cs er wx))
 case first=>
  refine wp_region_held (S:=fun W=>Grew W1 W) mixed ?_
  show wpAnyH _ _ _ _ _ 13 (Array.replicate 13 Xd) _ W1.drew
  have GD:Grew W1 W1.drew:=(gW _)
  refine takeH 0 (Xa 8) (Xj (Xa ⟨p,0,Xb⟩)) rfl rfl (by kernel_rfl) (by kernel_rfl) (by kernel_rfl) (fun _ _ _ h=>h) (.inl ⟨rfl,fun _ _=>rfl⟩) GD ?_
  simp only[Xs,sB,sS,sZ];refine takeH 1 (Xa 9) (Xj (Xa ⟨p,0,Xb⟩)) rfl rfl (by kernel_rfl) (by kernel_rfl) (by kernel_rfl) (fun _ _ _ h=>h) (.inl ⟨rfl,fun _ _=>rfl⟩) GD ?_
  simp only[Xs,sB,sS,sZ];refine takeH 2 (Xa 10) (Xj (Xa ⟨p,0,Xb⟩)) rfl rfl (by kernel_rfl) (by kernel_rfl) (by kernel_rfl) (fun _ _ _ h=>h) (.inl ⟨rfl,fun _ _=>rfl⟩) GD ?_
  simp only[Xs,sB,sS,sZ];refine takeH 3 (Xa 11) (Xi (chL V m).toArray) rfl rfl (by kernel_rfl) (by kernel_rfl) (by kernel_rfl) (fun _ _ _ h=>h) (yieldsIf_load_mid rfl 42 (.tmp 10) rfl p 0 rfl (chL V m) _ (fun W hW=>(M1.out.box.box.grew hW).range) Tryz.underlying42 rfl (by kernel_rfl)) GD ?_
  simp only[Xs,sB,sS,sZ];refine takeH 4 (Xa 12) (Xj (Xa ⟨b,1,Xb⟩)) rfl rfl (by kernel_rfl) (by kernel_rfl) (by kernel_rfl) (fun _ _ _ h=>h) (.inl ⟨rfl,fun _ _=>rfl⟩) GD ?_
  simp only[Xs,sB,sS,sZ];refine takeH 5 (Xa 13) (Xe Xf c.proc) rfl rfl (by kernel_rfl) (by kernel_rfl) (by kernel_rfl) (fun _ _ _ h=>h) (.inl ⟨rfl,fun W hW=>run_load1 _ (.tmp 12) rfl ⟨b,1,Xb⟩ rfl (Xe Xf c.proc) ((X1.out.box.grew hW).c 1 rfl) Tryz.underlying3 rfl⟩) GD ?_
  simp only[Xs,sB,sS,sZ];refine wpAnyH_all (rs:=[6,10]) (by kernel_rfl) (by simp) ?_
  intro j hj;simp only[mC,nM,or_false]at hj
  rcases hj with rfl | rfl
  ·skip
   refine wpOp_does (Xa 14) (fun v w'=>(∃(cs:List Xq) (er:Int),v= Xm #[Xi cs.toArray,Xe Xf er]/\cs.length=11/\(∀x∈cs,x.oneCell'=Xc)/\ExA W1.drew m c.proc cs er w')/\Grew W1.drew w') rfl rfl rfl (Does.call [Xi #[O V.f.a V.f.n V.f.c,Xe Xf m.hand,O V.s.a V.s.n V.s.c,O V.sb.a V.sb.n V.sb.c,O V.sq.a V.sq.n V.sq.c,O V.db.a V.db.n V.db.c,O V.dq.a V.dq.n V.dq.c,O V.fl.a V.fl.n V.fl.c,Xe Xf m.cnt,O V.ca.a V.ca.n V.ca.c,O V.sp.a V.sp.n V.sp.c],Xe Xf c.proc] rfl Tryz.func86 rfl rfl rfl ((HFK.out _ GD).mono ?_)) ?_
   ·rintro e w' ⟨h,hg2⟩
    rcases h with⟨hn,rfl⟩ | ⟨q,s,hl,V',rfl,hm⟩
    ·exact⟨_,rfl,⟨zeroM,5,rfl,rfl,by unfold zeroM;simp[Value.oneCell'],.inl ⟨by decide,rfl,rfl,hn⟩⟩,hg2⟩
    exact⟨_,rfl,⟨chL V' (exitP m q s),0,rfl,rfl,by simp[chL,Value.oneCell'],.inr ⟨rfl,q,s,V',hl,rfl,hm⟩⟩,hg2⟩
   rintro v WT ⟨⟨cs,er,rfl,hlen,hone,hua⟩,gc⟩;have gt:Grew W1 WT:=GD.trans gc;refine⟨gt,?_⟩;simp only[Xs,sB,sS,sZ];refine takeH 7 (Xa 7) (Xm #[Xi cs.toArray,Xe Xf er]) rfl rfl (by kernel_rfl) (by kernel_rfl) (by kernel_rfl) (fun _ _ _ h=>h) (.inl ⟨rfl,fun _ _=>rfl⟩) gt ?_
   simp only[Xs,sB,sS,sZ];refine takeH 8 (Xa 15) (Xi cs.toArray) rfl rfl (by kernel_rfl) (by kernel_rfl) (by kernel_rfl) (fun _ _ _ h=>h) (.inl ⟨rfl,fun _ _=>rfl⟩) gt ?_
   simp only[Xs,sB,sS,sZ];refine takeH 9 (Xa 16) (Xe Xf er) rfl rfl (by kernel_rfl) (by kernel_rfl) (by kernel_rfl) (fun _ _ _ h=>h) (.inl ⟨rfl,fun _ _=>rfl⟩) gt ?_
   simp only[Xs,sB,sS,sZ];refine wpAnyH_all (rs:=[10]) (by kernel_rfl) (by simp) ?_
   intro j hj;simp only[mC,nM,or_false]at hj;subst hj;refine wpOp_does (Xa 5) (fun v w'=>v= Xj (Xa ⟨(WT).heap.size,0,Xb⟩)/\w'=(WT).alloc (Xk zeroM.toArray 42)) rfl rfl rfl (Does.step (run_allocMach rfl) ⟨rfl,rfl⟩) ?_
   rintro v WA ⟨rfl,hwa⟩;have ga:Grew W1 WA:=by rw[hwa];exact gt.trans (grew_alloc _ _)
   have gl:Grew WT WA:=by rw[hwa];exact grew_alloc _ _
   obtain⟨g,HG⟩:∃g,Xo ((WT).heap.size=g):=⟨_,rfl⟩;have bp:BoxT WA g 42 zeroM:=by rw[hwa];exact BoxT.top _ zeroM _ HG.out.symm
   have hg1:W1.heap.size<=g:=by rw[<-HG.out];exact bS gt
   rw[HG.out];clear hwa;refine⟨ga,?_⟩;simp only[Xs,sB,sS,sZ];refine wpAnyH_all (rs:=[11]) (by kernel_rfl) (by simp) ?_
   intro j hj;simp only[mC,nM,or_false]at hj;subst hj;refine wpOp_does Xb (fun v w'=>Grew W1 w'/\BoxT w' g 42 cs/\ExA W1 m c.proc cs er w') rfl rfl rfl (Does.storeAllT 42 (.tmp 5) (.tmp 15) rfl g rfl cs rfl bp (by rw[hlen];rfl) (by kernel_rfl) hone (fun w' b' g' s'=>⟨grew_grown ga g' hg1,b',hua.by (outd_newer (grew_grown gl g' (by rw[HG.out];exact nR _)) (bS GD))⟩)) ?_
   rintro v WS ⟨gs,bs,us⟩;refine⟨gs,?_⟩;simp only[Xs];refine takeH 12 (Xa 6) (Xe Xf er) rfl rfl (by kernel_rfl) (by kernel_rfl) (by kernel_rfl) (fun _ _ _ h=>h) (.inl ⟨rfl,fun _ _=>rfl⟩) gs ?_
   simp only[Xs,sB,sS,sZ];refine wpAnyH_done (by kernel_rfl) ?_ _
   have BS:Xo (BoxT WS g 42 cs):=bs;have GS:Xo (Grew W1 WS):=gs;have US:Xo (ExA W1 m c.proc cs er WS):=us;clear gs bs us;go_wp2
   go_meet
   exact⟨g,er,cs,rfl,rfl,BS,GS,US⟩
  skip
  refine wpOp_does (Xa 5) (fun v w'=>v= Xj (Xa ⟨(W1.drew).heap.size,0,Xb⟩)/\w'=(W1.drew).alloc (Xk zeroM.toArray 42)) rfl rfl rfl (Does.step (run_allocMach rfl) ⟨rfl,rfl⟩) ?_
  rintro v WA ⟨rfl,hwa⟩;have ga:Grew W1 WA:=by rw[hwa];exact GD.trans (grew_alloc _ _)
  have gl:Grew W1.drew WA:=by rw[hwa];exact grew_alloc _ _
  obtain⟨g,HG⟩:∃g,Xo ((W1.drew).heap.size=g):=⟨_,rfl⟩;have bp:BoxT WA g 42 zeroM:=by rw[hwa];exact BoxT.top _ zeroM _ HG.out.symm
  have hg1:W1.heap.size<=g:=by rw[<-HG.out];exact bS GD
  rw[HG.out];clear hwa;refine⟨ga,?_⟩;simp only[Xs,sB,sS,sZ];refine wpAnyH_all (rs:=[6]) (by kernel_rfl) (by simp) ?_
  intro j hj;simp only[mC,nM,or_false]at hj;subst hj;refine wpOp_does (Xa 14) (fun v w'=>(∃(cs:List Xq) (er:Int),v= Xm #[Xi cs.toArray,Xe Xf er]/\cs.length=11/\(∀x∈cs,x.oneCell'=Xc)/\ExA WA m c.proc cs er w')/\Grew WA w') rfl rfl rfl (Does.call [Xi #[O V.f.a V.f.n V.f.c,Xe Xf m.hand,O V.s.a V.s.n V.s.c,O V.sb.a V.sb.n V.sb.c,O V.sq.a V.sq.n V.sq.c,O V.db.a V.db.n V.db.c,O V.dq.a V.dq.n V.dq.c,O V.fl.a V.fl.n V.fl.c,Xe Xf m.cnt,O V.ca.a V.ca.n V.ca.c,O V.sp.a V.sp.n V.sp.c],Xe Xf c.proc] rfl Tryz.func86 rfl rfl rfl ((HFK.out _ ga).mono ?_)) ?_
  ·rintro e w' ⟨h,hg2⟩
   rcases h with⟨hn,rfl⟩ | ⟨q,s,hl,V',rfl,hm⟩
   ·exact⟨_,rfl,⟨zeroM,5,rfl,rfl,by unfold zeroM;simp[Value.oneCell'],.inl ⟨by decide,rfl,rfl,hn⟩⟩,hg2⟩
   exact⟨_,rfl,⟨chL V' (exitP m q s),0,rfl,rfl,by simp[chL,Value.oneCell'],.inr ⟨rfl,q,s,V',hl,rfl,hm⟩⟩,hg2⟩
  rintro v WT ⟨⟨cs,er,rfl,hlen,hone,hua⟩,gc⟩;have gt:Grew W1 WT:=ga.trans gc;refine⟨gt,?_⟩;simp only[Xs,sB,sS,sZ];have hlt:=bp.box.lt;have bp:=bp.grew gc;refine takeH 7 (Xa 7) (Xm #[Xi cs.toArray,Xe Xf er]) rfl rfl (by kernel_rfl) (by kernel_rfl) (by kernel_rfl) (fun _ _ _ h=>h) (.inl ⟨rfl,fun _ _=>rfl⟩) gt ?_
  simp only[Xs,sB,sS,sZ];refine takeH 8 (Xa 15) (Xi cs.toArray) rfl rfl (by kernel_rfl) (by kernel_rfl) (by kernel_rfl) (fun _ _ _ h=>h) (.inl ⟨rfl,fun _ _=>rfl⟩) gt ?_
  simp only[Xs,sB,sS,sZ];refine takeH 9 (Xa 16) (Xe Xf er) rfl rfl (by kernel_rfl) (by kernel_rfl) (by kernel_rfl) (fun _ _ _ h=>h) (.inl ⟨rfl,fun _ _=>rfl⟩) gt ?_
  simp only[Xs,sB,sS,sZ];refine wpAnyH_all (rs:=[11]) (by kernel_rfl) (by simp) ?_
  intro j hj;simp only[mC,nM,or_false]at hj;subst hj;refine wpOp_does Xb (fun v w'=>Grew W1 w'/\BoxT w' g 42 cs/\ExA W1 m c.proc cs er w') rfl rfl rfl (Does.storeAllT 42 (.tmp 5) (.tmp 15) rfl g rfl cs rfl bp (by rw[hlen];rfl) (by kernel_rfl) hone (fun w' b' g' s'=>⟨grew_grown gt g' hg1,b',hua.by (outd_lower g' hlt (bS ga))⟩)) ?_
  rintro v WS ⟨gs,bs,us⟩;refine⟨gs,?_⟩;simp only[Xs];refine takeH 12 (Xa 6) (Xe Xf er) rfl rfl (by kernel_rfl) (by kernel_rfl) (by kernel_rfl) (fun _ _ _ h=>h) (.inl ⟨rfl,fun _ _=>rfl⟩) gs ?_
  simp only[Xs,sB,sS,sZ];refine wpAnyH_done (by kernel_rfl) ?_ _
  have BS:Xo (BoxT WS g 42 cs):=bs;have GS:Xo (Grew W1 WS):=gs;have US:Xo (ExA W1 m c.proc cs er WS):=us;clear gs bs us;go_wp2
  go_meet
  exact⟨g,er,cs,rfl,rfl,BS,GS,US⟩
 obtain⟨g,er,cs,rfl,rfl,BS,GS,US⟩:=hcut;have AS:=dD (A1.out.grew GS.out);have HPB:Xo (p<b):=show _<_ by have:=HPW.out;have:=HB.out;omega
 clear HFK A1 X1
 rcases US.out with⟨hne,rfl,rfl,hn⟩ | ⟨rfl,q,s,V2,h1,rfl,h4⟩
 ·have hz:True:=trivial;have hbe:=become_err 5 0 p (by decide) wc
  have HN:=show Xo _ from hn
  clear US hn hne
  go_wp2_with (first | refine wp_loadAll rfl 42 (.tmp 5) rfl g rfl BS.out.box Tryz.underlying42 rfl (by kernel_rfl) ?_ | (go_at_call 85;refine hbe.mono ?_))
  clear hbe;rintro e W2 ⟨rfl,g2⟩;have A2:=dD (AS.out.grew g2);have G2:Xo (Grew w0 W2):=show Grew _ _ from(M1.out.gr.trans GS.out).trans g2
  have Q2:Xo (Grew w W2):=show Grew _ _ from(G1.out.trans GS.out).trans g2
  have HL:Xo (w0.heap.size<=b):=show _<=_ by have:=HM.out.lo;have:=HPB.out;omega
  clear g2;unfold ansV noS
  go_wp2_with (refine wp_storeAllT rfl 50 (.tmp 4) (.tmp 20) rfl (b+1) rfl [Xe Xf 5,Xe Xf 0,O Xb 0 0] rfl A2.out rfl (by kernel_rfl) (by simp[Value.oneCell']) ?_)
  intro W3 b3 g3 _;have G3:Xo (Grew w0 W3):=show Grew _ _ from grew_grown G2.out g3 (by have:=HL.out;omega)
  have A3:Xo (BoxT W3 (b+1) 50 [Xe Xf 5,Xe Xf 0,O Xb 0 0]):=b3;have O3:Xo (OutD (fun k=>k=p) w W3):=show OutD _ _ _ from OutD.beyond (OutD.grew Q2.out) g3 (by have:=HB.out;omega)
  clear b3 g3;go_wp2;refine bodyPost_ret (ret_cell rfl _ rfl A3.out.box Tryz.underlying50 rfl (by kernel_rfl)) rfl (WorkA.err (V:=V) (m:=m) (by decide) ⟨rfl,rfl,.inl ⟨rfl,HN.out⟩⟩ O3.out G3.out)
 have hbo:=become_ok (V':=V2) (m':=(exitP m q s)) (M1.out.box.grew GS.out) HM.out.lo (M1.out.gr.trans GS.out) 0;have HLP:=show Xo (LiveP m c.proc q s)from h1
 have HAT:Xo (∀W,OutD (fun k=>k<W1.heap.size) wc W->MachAt W V2 (exitP m q s)):=h4
 obtain⟨FM,HFM⟩:∃FM,Xo ((exitP m q s)=FM):=⟨_,rfl⟩;rw[HFM.out]at hbo HAT BS;clear US h1 h4
 go_wp2_with (first | refine wp_loadAll rfl 42 (.tmp 5) rfl g rfl BS.out.box Tryz.underlying42 rfl (by kernel_rfl) ?_ | (go_at_call 85;refine hbo.mono ?_))
 clear hbo;rintro e W2 ⟨rfl,p2,o2,g2⟩;have A2:Xo (BoxT W2 (b+1) 50 [Xe Xf 0,Xe Xf 0,O Xb 0 0]):=show BoxT _ _ _ _ from AS.out.outD o2 (by have:=HPB.out;omega)
 have G2:Xo (Grew w0 W2):=g2;have P2:Xo (BoxT W2 p 88 (chL V2 FM)):=p2;have O2:Xo (OutD (fun k=>k=p) wc W2):=o2
 have HL:Xo (w0.heap.size<=b):=show _<=_ by have:=HM.out.lo;have:=HPB.out;omega
 have HS1:Xo (b+1<W1.heap.size):=HBL;clear g2 p2 o2;unfold ansV noS
 go_wp2_with (refine wp_storeAllT rfl 50 (.tmp 4) (.tmp 20) rfl (b+1) rfl [Xe Xf 0,Xe Xf 0,O Xb 0 0] rfl A2.out rfl (by kernel_rfl) (by simp[Value.oneCell']) ?_)
 intro W3 b3 g3 _;have G3:Xo (Grew w0 W3):=show Grew _ _ from grew_grown G2.out g3 (by have:=HL.out;omega)
 have A3:Xo (BoxT W3 (b+1) 50 [Xe Xf 0,Xe Xf 0,O Xb 0 0]):=b3;have P3:Xo (BoxT W3 p 88 (chL V2 FM)):=show BoxT _ _ _ _ from P2.out.beside g3 (fun k e=>by cases e;have:=HPB.out;omega)
 have M3:Xo (∀W,OutD (fun k=>k<w.heap.size) W3 W->MachAt W V2 FM):=show∀W,_ from fun W hW=>HAT.out W (((O2.out.wide fun k hk=>by have hk:k=p:=hk;have:=HPB.out;have:=HS1.out;omega).trans (OutD.grown (D:=fun k=>k<W1.heap.size) g3 HS1.out)).trans (hW.wide fun k hk=>Xt hk (bS G1.out)))
 have O3:Xo (OutD (fun k=>k=p) w W3):=show OutD _ _ _ from OutD.beyond ((OutD.grew (G1.out.trans GS.out)).trans O2.out) g3 (by have:=HB.out;omega)
 clear b3 g3;go_wp2;refine bodyPost_ret (ret_cell rfl _ rfl A3.out.box Tryz.underlying50 rfl (by kernel_rfl)) rfl (WorkA.ok (V':=V2) (m':=FM) ⟨rfl,rfl,.inr ⟨rfl,q,s,HLP.out,HFM.out.symm⟩⟩ O3.out G3.out P3.out M3.out)
end
end Go.Proofs.YtempiodbdhiboaaGreat
