/- PagingSync,proved:a file that is on the disk for good is,whatever frames are free then and whatever power fails,as it was,whatever the numbers and bytes. No condition. -/
import Derived.Test.YtjjdljjhmcegdaaGreatPY4
import Derived.Test.YtjjdljjhmcegdaaGreatRows
import Derived.ProofKit
import Derived.OpenShut
import Derived.ShutString
import Derived.ChangeOld
import Derived.Carry
import Derived.SizedLaws
import Derived.Test.YtjjdljjhmcegdaaGreatChecked
namespace Go.Proofs.YtjjdljjhmcegdaaGreat
open Go.Value renaming slice→O,int→Xe,bool→Xh,agg→Xi,pointer→Xj,tuple→Xm
open Go.IntKind renaming i64→Xf,u8→Xg
open Go.Obj renaming cells→Xk
open Go.Ending renaming returned→Xl
open Go renaming World→Xn,Calls→Xp,Value→Xq
open Go.RowKit renaming Hid→Xo
open Option renaming some→Xa,none→Xb
open Bool renaming true→Xc,false→Xd
open List renaming replicate→Xr
open _root_.List renaming getElem?_of_mem→Xs,getElem?_cons_succ→Xt,mem_range→Xu,any_eq_true→Xv,length_take→Xw,range→Xy,countP_cons→Ya,mem_map→Yc,take_of_length_le→Yd,mem_cons_self→Ye,ext_getElem?→Yf,pairwise_iff_getElem→Yg,length_map→Yh,mem_of_mem_tail→Ym,length_set→Yp,flatMap_append→Yq,take→Yr,drop→Ys,mem_singleton→Yt,drop_eq_getElem_cons→Yu,mem_or_eq_of_mem_set→Yv,getElem?_map→Yw,take_add_one→Yx,append_assoc→Yy,length_cons→Yz,getElem_mem→Oa,length_drop→Ob,mem_filter→Oc,mem_append→Od,take_left'→Oe,contains_iff_mem→Of,take_append_drop→Og,find?_nil→Oh,map_congr_left→Oi,takeWhile_cons→Oj,flatMap_cons→Ol,getElem?_set→Om,any_eq_false→Oo,map_nil→Oq,size_toArray→Ot
open Go.Act renaming put→Xx
open Go.Addr renaming add_lit→Xz
open _root_.Nat renaming mod_eq_of_lt→Yb,add_zero→Yj,mod_lt→Yk,mul_le_mul_right→Yn,mod_add_mod→Yo,add_mul→Ou
open Go.Sem renaming run_bind→Yi,run_pure→Ok
open _root_.Bool renaming and_eq_true→Yl
set_option maxRecDepth 100000
set_option maxHeartbeats 4000000
variable{B b fi ix j:Nat} {M m m':Ma} {Q:Exit->Act->Xn->Prop} {V:MaV} {a0 a1 a2 a3 a4 a5 a6 a7 a8 a9:Xq} {o:Oper} {ops:Array Oper} {t:TypeId} {w0 w1:Xn}
open Go.Proofs.Tryz
section
open Go.RowKit
def zou (m:Ma) (i:Nat):Option Ca:=if i=0 then Xb else m.ca[i - 1]?
theorem zpz (h:zbH m Xb m.ca=0):∀(i:Nat) c,m.ca[i]? =Xa c->caE m (zou m i) c=0:=by
 have a:∀i c,m.ca[i]? =Xa c->zbH m (zou m i) (m.ca.drop i)=0->caE m (zou m i) c=0/\zbH m (zou m (i+1)) (m.ca.drop (i+1))=0:=fun i c b d=>by
  have e:=(gS.1 b).1;have f:m.ca[i]=c:=by rw[gE e]at b;cases b;rfl
  have g:zou m (i+1)=Xa c:=by unfold zou;rw[kF (by omega)];exact b
  rw[Yu e,f]at d;unfold zbH at d;rw[g]
  split at d
  ·rename_i e
   exact⟨e,d⟩
  rename_i e
  exact absurd d e
 have d:∀i,i<=m.ca.length->zbH m (zou m i) (m.ca.drop i)=0:=fun i=>by
  induction i with
  | zero=>exact fun _=>h
  | succ i e=>exact fun f=>(a i _ (gE (by omega)) (e (by omega))).2
 exact fun i c b=>(a i c b (d i (Nat.le_of_lt (gS.1 b).1))).1
theorem zmP {p:Option Ca} {c:Ca} (h:caE m p c=0):(0<=c.file/\c.file< (m.fl.length:Int)/\0<=c.idx/\c.idx<bkN m c.file/\0<=c.fr/\c.fr< (m.fs.length:Int))/\((zW m c.fr).r≠0/\(zW m c.fr).f=c.file/\(zW m c.fr).x=c.idx)/\∀q,p=Xa q->¬qg c<=qg q:=by
 unfold caE at h
 split at h
 ·cases h
 rename_i a
 split at h
 ·cases h
 rename_i a
 refine⟨by omega,⟨fun e=>a (.inl e),Classical.byContradiction fun e=>a (.inr (.inl e)),Classical.byContradiction fun e=>a (.inr (.inr e))⟩,fun q e k=>?_⟩
 subst e;have h:(if qg c<=qg q then(2:Int)else 0)=0:=h;rw[kE k]at h;cases h
theorem Box.eleven {w:Xn} {a:Xq} (h:Box w b [a0,a1,a2,a3,a4,a5,a6,a7,a8,a9,a]):w.cell? ⟨b,0,Xb⟩=Xa a0/\w.cell? ⟨b,1,Xb⟩=Xa a1/\w.cell? ⟨b,2,Xb⟩=Xa a2/\w.cell? ⟨b,3,Xb⟩=Xa a3/\w.cell? ⟨b,4,Xb⟩=Xa a4/\w.cell? ⟨b,5,Xb⟩=Xa a5/\w.cell? ⟨b,6,Xb⟩=Xa a6/\w.cell? ⟨b,7,Xb⟩=Xa a7/\w.cell? ⟨b,8,Xb⟩=Xa a8/\w.cell? ⟨b,9,Xb⟩=Xa a9/\w.cell? ⟨b,10,Xb⟩=Xa a:=⟨h.c 0 rfl,h.c 1 rfl,h.c 2 rfl,h.c 3 rfl,h.c 4 rfl,h.c 5 rfl,h.c 6 rfl,h.c 7 rfl,h.c 8 rfl,h.c 9 rfl,h.c 10 rfl⟩
theorem zgn (V:MaV) (m:Ma) (w:Xn) (hm:zN w V m) (h0:maW m=0):
  Xp prog 9 #[Xi (mL V m).toArray] w fun e w'=>e= Xl (I6 0)/\zc w w':=by
 unfold maW at h0;rw[zn]at h0;have hp0:J7 m=0:=h0 _ (by simp)
 have HP:Xo (Pts m):=zpZ hp0;have HCE:Xo (∀(i:Nat) c,m.ca[i]? =Xa c->caE m (zou m i) c=0):=show∀i,_ from zpz (h0 _ (by simp))
 have HPG:Xo (∀s∈m.sp,∀n,n<64->(zo s n).kind≠0->za4 m (zE s.ars n) (zo s n)=0):=dD<|fun s hs n hn hk=>by
  have h1:=zn.1 (h0 (zu (m.sp.map (zgh m))) (by simp)) _ (Yc.2 ⟨s,hs,rfl⟩)
  have h2:=zn.1 h1 _ (Yc.2 ⟨n,Xu.2 hn,rfl⟩);rw[kF hk]at h2;exact h2
 have HRG:Xo (∀(i:Nat) c,m.ca[i]? =Xa c->0<=c.file/\c.file<5/\0<=c.idx/\c.idx<12):=dD<|fun i c hc=>by
  obtain⟨h1,-,-⟩:=zmP (HCE i c hc);have h2:=HP.fl.1;have h3:bkN m c.file<=12:=by
   unfold bkN;rw[gD]
   cases e:m.fl[c.file.toNat]? with
   | none=>simp
   | some f=>have:=HP.fl.2 f (mG e);simp;omega
  omega
 have HFE:Xo (∀k,k<m.fs.length->frE m k=0):=dD<|fun k hk=>zn.1 (h0 (zu ((Xy m.fs.length).map (frE m))) (by simp)) _ (Yc.2 ⟨k,Xu.2 hk,rfl⟩)
 have HSE:Xo (∀k,k<m.sl.length->zjR m k=0):=dD<|fun k hk=>zn.1 (h0 (zu ((Xy m.sl.length).map (zjR m))) (by simp)) _ (Yc.2 ⟨k,Xu.2 hk,rfl⟩)
 have HM:Xo (zN w V m):=hm;obtain⟨n1,n2,-,-,-,-,n7,n8,n9⟩:=hm.ns;obtain⟨xs,hxl,hrow,hsp⟩:=hm.spaces;have HFR:Xo (zjI w V.f.a m.fs):=hm.frs;have HCA:Xo (zhw w V.ca.a m.ca):=hm.cas;have HSL:Xo (zm0 w V.s.a m.sl):=hm.sls;obtain⟨_,_,hfe,_,hfr⟩:=z5.rows hm.fl;have HFL:Xo (zbL w V.fl.a m.fl):=show zbL _ _ _ by
  simp only[vJ]at hfe;rw[hfe.1];exact hfr
 have hca5:m.ca.length<=5864062014805:=by have h:m.ca.length*24<=140737488355328:=hm.ca.2;omega
 have hsl5:m.sl.length<=9223372036854775807:=by have h:m.sl.length*8<=140737488355328:=hm.sl.2;omega
 have HPT:=zhV V m;have HXL:Xo (xs.length=m.sp.length):=hxl;have HRW:Xo (∀(j:Nat) x,xs[j]? =Xa x->∃ad,V.sp.a=Xa ad/\∀W,zc w W->zoz W (ad.add (j*10)) x):=show∀j,_ from hrow
 have HSP:Xo (∀(i:Nat) x s,xs[i]? =Xa x->m.sp[i]? =Xa s->Jb w x s):=dD<|hsp
 obtain⟨⟨fa,fn,fc⟩,⟨sa,sn,sc⟩,vsb,vsq,vdb,vdq,⟨fla,fln,flc⟩,⟨caa,can,cac⟩,⟨spa,spn,spc⟩⟩:=V;dsimp only[mL]at n1 n2 n7 n8 n9 HFR HCA HSL HFL HRW;have HN1:Xo (m.fs.length=fn):=n1.symm;have HN2:Xo (m.sl.length=sn):=n2.symm;have HN7:Xo (m.fl.length=fln):=n7.symm;have HN8:Xo (m.ca.length=can):=n8.symm;have HN9:Xo (m.sp.length=spn):=n9.symm;have hb8:can<=5864062014805:=by rw[n8];exact hca5
 have hb2:sn<=9223372036854775807:=by rw[n2];exact hsl5
 have hsp4:spn<=4:=by rw[n9];exact HP.s4
 have hfn40:fn<=40:=by rw[n1];exact HP.f40
 obtain⟨W0,hW0⟩:=kB (w.alloc (Xk #[O fa fn fc,I6 m.hand,O sa sn sc,vsb.x,vsq.x,vdb.x,vdq.x,O fla fln flc,I6 m.cnt,O caa can cac,O spa spn spc] 41));have G0:=gA hW0
 have X0:=xA hW0
 have HW0:Xo (_=W0):=hW0;have hc:=HPT W0 (hm.grew G0) hp0;have HEN:Xo (∀W x e,zc w W->0<=e.n->za4 m x e=0->Xp prog 29 #[Xi #[O fa fn fc,I6 m.hand,O sa sn sc,vsb.x,vsq.x,vdb.x,vdq.x,O fla fln flc,I6 m.cnt,O caa can cac,O spa spn spc],Xi (onv x).toArray,Xi #[I6 e.kind,I6 e.n,Xh e.wr]] W fun r w'=>r= Xl (I6 0)/\zc W w'):=show∀W x e,_ from fun W x e hW h0 hz=>zhW ⟨⟨fa,fn,fc⟩,⟨sa,sn,sc⟩,vsb,vsq,vdb,vdq,⟨fla,fln,flc⟩,⟨caa,can,cac⟩,⟨spa,spn,spc⟩⟩ m x e W (HM.grew hW) h0 hz
 have HHO:Xo (∀W kind k,zc w W->Xp prog 30 #[Xi #[O fa fn fc,I6 m.hand,O sa sn sc,vsb.x,vsq.x,vdb.x,vdq.x,O fla fln flc,I6 m.cnt,O caa can cac,O spa spn spc],I6 kind,I6 k] W fun e w'=>e= Xl (I6 (QE m kind k:Int))/\zc W w'):=dD<|fun W kind k hW=>zd7 ⟨⟨fa,fn,fc⟩,⟨sa,sn,sc⟩,vsb,vsq,vdb,vdq,⟨fla,fln,flc⟩,⟨caa,can,cac⟩,⟨spa,spn,spc⟩⟩ m kind k W (HM.grew hW) HP.s4 (fun s hs=>tb8 (HP.ar s hs).2)
 clear hW0 hm n1 n2 n7 n8 n9 hxl hrow hsp hfe hfr h0 hp0 hca5 hsl5
 go_enter func9,ntmps9
 go_upto_region 1 with fail;rw[HW0.out];obtain⟨x0,x1,x2,x3,x4,x5,x6,x7,x8,x9,x10⟩:=X0.eleven;go_wp2_with fail;refine hc.mono ?_;clear hc x0 x1 x2 x3 x4 x5 x6 x7 x8 x9 x10;rintro e W1 ⟨rfl,g⟩;have G1:=dD (G0.trans g);have X1:=dD (X0.grew g);clear g;have x9:=X1.c 9 rfl;go_wp2;clear x9
 go_loopg [29] can (fun gg s29 wr=>∃i:Nat,i<=can/\can - i<=gg/\s29=I6 i/\Xo (zc W1 wr))
 case atStart=>exact⟨0,nZ _,by omega,rfl,zc.refl _⟩
 obtain⟨i,hi,hgg,rfl,GW⟩:=hrel
 by_cases hlt:i<can
 ·have hltz:=kC hlt
  obtain⟨c,HC⟩:∃c,Xo (m.ca[i]? =Xa c):=⟨_,gE (by rw[HN8.out];exact hlt)⟩
  obtain⟨adc,hca,hl⟩:=HCA.out i c HC.out;subst hca;obtain⟨d0,d1,d2⟩:=hl wr (G1.trans GW);have HOK:Xo _:=zmP (HCE i c HC);clear hl;go_upto_region 7 with fail;obtain⟨pc,HPC⟩:=kA wr.heap.size;obtain⟨W2,hW2⟩:=kB (wr.alloc (Xk #[I6 c.file,I6 c.idx,I6 c.fr] 93));have g2:=gP hW2
  have C2:=xP hW2 HPC
  have G2:=dD (GW.trans g2);rw[hW2,HPC.out];clear hW2 g2 d0 d1 d2;obtain⟨⟨r0,r1,r2,r3,r4,r5⟩,⟨q0,q1,q2⟩,q3⟩:=HOK.out;obtain⟨jf,hjf⟩:∃jf:Nat,c.file=(jf:Int):=⟨c.file.toNat,by omega⟩
  obtain⟨ff,hff⟩:∃ff,m.fl[jf]? =Xa ff:=⟨_,gE (by omega)⟩
  obtain⟨adl,rfl,ba,bc,_,hlf⟩:=HFL.out jf ff hff;obtain⟨-,e1⟩:=hlf W2 (G1.trans G2);have hbk:bkN m c.file=(ff.bl.length:Int):=by unfold bkN;rw[hjf,tN,gD,hff];rfl
  obtain⟨bn,HBN⟩:=kA ff.bl.length;rw[HBN.out]at e1 hbk;obtain⟨j,hj⟩:∃j:Nat,c.fr=(j:Int):=⟨c.fr.toNat,by omega⟩
  obtain⟨q,hq⟩:∃q,m.fs[j]? =Xa q:=⟨_,gE (by omega)⟩
  have hqe:zW m c.fr=q:=by rw[hj];exact z8 hq
  rw[hqe]at q0 q1 q2;obtain⟨adf,rfl,hlq⟩:=HFR.out j q hq;have HLQ:Xo (∀W,zc w W->_):=dD<|hlq
  have HKY:Xo (∀q,zou m i=Xa q->¬qg c<=qg q):=dD<|q3
  have hjz:(jf:Int)< (fln:Int):=by have:=HN7.out;omega
  have hqz:(j:Int)< (fn:Int):=by have:=HN1.out;omega
  have a1:decide ((jf:Int)<0)=Xd:=decide_eq_false (by omega)
  have a2:decide (fln<=jf)=Xd:=decide_eq_false (by omega)
  have a3:decide (c.idx<0)=Xd:=decide_eq_false (by omega)
  have a4:decide ((bn:Int)<=c.idx)=Xd:=decide_eq_false (by omega)
  have a5:decide ((j:Int)<0)=Xd:=decide_eq_false (by omega)
  have a6:decide (fn<=j)=Xd:=decide_eq_false (by omega)
  have x0:=(X1.grew G2).c 0 rfl;have x7:=(X1.grew G2).c 7 rfl;obtain⟨c0,c1,c2⟩:=C2.c3;rw[hjf]at c0;rw[hj]at c2;have HJ:Xo (c.fr=(j:Int)):=hj;have k1e:(q.r == 0)=Xd:=by simpa using q0
  have k2e:(q.f != c.file)=Xd:=by simpa using q1
  have k3e:(q.x != c.idx)=Xd:=by simpa using q2
  clear hff hlf r0 r1 r2 r3 r4 r5 q0 q1 q2 q3 hqe hq hj hlq hjf hbk
  go_upto_region 9 with(go_quiet (fail))
  clear a1 a2 a3 a4 a5 a6 x0 x7 c0 c1 c2 e1;obtain⟨W3,hW3⟩:=kB (W2.drewN nq);have g3:zc W2 W3:=by rw[<-hW3];exact bD (bR _ _) _
  have G3:=dD (G2.trans g3);have C3:=dD (C2.grew g3);rw[hW3];clear hW3 g3;obtain⟨d0,d1,d2,d3,d4,d5,d6,d7,d8,d9,d10,d11,d12⟩:=HLQ.out W3 (G1.trans G3);have c2:=C3.c 2 rfl;rw[HJ.out]at c2;have x0:=(X1.grew G3).c 0 rfl;go_upto_region 10 with fail;obtain⟨pq,HPQ⟩:=kA W3.heap.size;obtain⟨W4,hW4⟩:=kB (W3.alloc (Xk #[U8 q.p.b0,U8 q.p.b1,U8 q.p.b2,U8 q.p.b3,U8 q.p.b4,U8 q.p.b5,U8 q.p.b6,U8 q.p.b7,I6 q.r,Xh q.u,Xh q.d,I6 q.f,I6 q.x] 62));have g4:=gP hW4
  have Q4:=xP hW4 HPQ
  have G4:=dD (G3.trans g4);have C4:=dD (C3.grew g4);rw[hW4,HPQ.out];clear hW4 g4 x0 c2 d0 d1 d2 d3 d4 d5 d6 d7 d8 d9 d10 d11 d12;have q8:=Q4.c 8 rfl;have q11:=Q4.c 11 rfl;have q12:=Q4.c 12 rfl;have c0:=C4.c 0 rfl;have c1:=C4.c 1 rfl;go_upto_region 12 with fail;clear k1e k2e k3e q8 q11 q12;obtain⟨r0,r1,r2,r3⟩:=HRG.out i c HC.out;have x9:=(X1.grew G4).c 9 rfl
  by_cases h0:i=0
  ·subst h0;go_quiet (fail);go_wp2
   go_roundg (can -(0+1))
   case measure=>omega
   exact⟨0+1,by omega,by omega,by go_num,G4.trans (show Below _ _ _ from bD (bR _ _) _)⟩
  obtain⟨i',rfl⟩:∃i',i=i'+1:=⟨i - 1,by omega⟩
  obtain⟨c',HC'⟩:∃c',Xo (m.ca[i']? =Xa c'):=⟨_,gE (by rw[HN8.out];omega)⟩
  obtain⟨_,he,hl⟩:=HCA.out i' c' HC'.out;cases he;obtain⟨e0,e1,-⟩:=hl W4 (G1.trans G4);obtain⟨s0,s1,s2,s3⟩:=HRG.out i' c' HC'.out;have hiz:(((i'+1:Nat):Int) - 1)=(i':Int):=by omega
  have hil:(i':Int)< (can:Int):=by omega
  have hpz:(0:Int)< ((i'+1:Nat):Int):=by omega
  have hkd:decide (100*c.file+c.idx<=100*c'.file+c'.idx)=Xd:=decide_eq_false (HKY c' (by unfold zou;rw[kF (by omega)];exact HC'))
  clear hl h0;go_quiet (fail);go_wp2
  go_roundg (can -(i'+1+1))
  case measure=>omega
  exact⟨i'+1+1,by omega,by omega,by go_num,G4.trans (show Below _ _ _ from bD (bR _ _) _)⟩
 have hltz:=kD hlt
 have x10:=(X1.grew GW).c 10 rfl;obtain⟨WC,rfl⟩:∃WC,WC=wr:=⟨_,rfl⟩;go_wp2;clear x10
 go_loopg [134] spn (fun gg s134 wr=>∃p:Nat,p<=spn/\spn - p<=gg/\s134=I6 p/\Xo (zc W1 wr))
 case atStart=>exact⟨0,nZ _,by omega,rfl,GW⟩
 obtain⟨p,hp,hgp,rfl,GP⟩:=hrel
 by_cases hlp:p<spn
 ·have hlpz:=kC hlp
  obtain⟨x,hx⟩:∃x,xs[p]? =Xa x:=⟨_,gE (by rw[HXL.out,HN9.out];exact hlp)⟩
  obtain⟨s,HS⟩:∃s,Xo (m.sp[p]? =Xa s):=⟨_,gE (by rw[HN9.out];exact hlp)⟩
  have HAT:Xo (Jb w x s):=HSP.out p x s hx HS.out;obtain⟨ad,rfl,hl⟩:=HRW.out p x hx;obtain⟨d0,d1,d2,d3,d4,d5,d6,d7,d8,d9⟩:=hl wr (G1.trans GP);have hsm:=mG HS.out;have HRT:Xo ((wrL s.ars).1=0/\tbW s.tb=0):=HP.ar s hsm;have HPS:Xo (∀n,n<64->(zo s n).kind≠0->za4 m (zE s.ars n) (zo s n)=0):=show∀n,_ from HPG.out s hsm
  have HON:Xo (∀W,zc w W->Xp prog 22 #[x.ar.x] W fun e w'=>e= Xl (Xi (zC (tab (zE s.ars))).toArray)/\zc W w'):=dD<|fun W hW=>ZM _ s.ars W (HAT.ar.grew hW) (Zo.1 HRT.1).2.lies
  have HFT:Xo (∀W,zc w W->Xp prog 28 #[Xi #[x.t0.x,x.t1.x,x.t2.x,x.t3.x,x.t4.x,x.t5.x,x.t6.x,x.t7.x]] W fun e w'=>e= Xl (Xi (qv (zct s.tb)).toArray)/\zc W w'):=dD<|fun W hW=>zeG x.tab s.tb W ((HAT.grew hW).tb) (tb8 HRT.2)
  have hz:=zbf;obtain⟨Z0,HZ0⟩:=kA (zC (tab fun _=>on0))
  rw[HZ0.out]at hz;have HZL:Xo (Z0.length=384):=dD<|by rw[<-HZ0.out,jQ]
  have HPL:Xo ((zC (tab (zE s.ars))).length=384):=jQ _;have HPO:Xo (∀v∈zC (tab (zE s.ars)),v.oneCell'=Xc):=Jk _;have HCO:Xo (∀k,k<64->∀(i:Nat) u,(onv (zE s.ars k))[i]? =Xa u->(zC (tab (zE s.ars)))[k*6+i]? =Xa u):=show∀k,_ from fun k hk i u hu=>ZZ (JL hk) i _ hu
  generalize zC (tab (zE s.ars))=CO at HON HPL HPO HCO
  clear hl hx hsm;go_upto_region 18 with fail;obtain⟨px,HPX⟩:=kA wr.heap.size;obtain⟨W5,hW5⟩:=kB (wr.alloc (Xk #[Xh x.live,x.ar.x,x.t0.x,x.t1.x,x.t2.x,x.t3.x,x.t4.x,x.t5.x,x.t6.x,x.t7.x] 79));have g5:=gP hW5
  have S5:=xP hW5 HPX
  have G5:=dD (GP.trans g5);rw[hW5,HPX.out];clear hW5 g5 d0 d1 d2 d3 d4 d5 d6 d7 d8 d9;have s1:=S5.c 1 rfl;have hc:=HON.out W5 (G1.trans G5);go_wp2_with fail;refine hc.mono ?_;clear s1 hc;rintro e W6 ⟨rfl,g6⟩;obtain⟨po,HPQ⟩:=kA W6.heap.size;have G6:=dD (G5.trans g6);have S6:=dD (S5.grew g6);clear g6
  go_upto_region 19 with(refine zF rfl 82 (.tmp 9) (.tmp 140) rfl W6.heap.size rfl CO rfl (Box.top W6 Z0 82 rfl) (by rw[HPL.out,HZL.out]) (by rw[HZL.out];exact zqQ) HPO.out ?_)
  intro W7 b7 g7 s7;have g67:zc W6 W7:=zd (za _ _) g7 (nR _);have G7:=dD (G6.trans g67);have S7:=dD (S6.grew g67);rw[HPQ.out]at b7⊢;have P7:Xo (Box W7 po CO):=b7;clear b7 g7 s7 g67 hz;try simp only[Xx]
  have s2:=S7.c 2 rfl;have s3:=S7.c 3 rfl;have s4:=S7.c 4 rfl;have s5:=S7.c 5 rfl;have s6:=S7.c 6 rfl;have s7:=S7.c 7 rfl;have s8:=S7.c 8 rfl;have s9:=S7.c 9 rfl;have hc:=HFT.out W7 (G1.trans G7);go_wp2_with fail;refine hc.mono ?_;clear hc s2 s3 s4 s5 s6 s7 s8 s9;rintro e W8 ⟨rfl,g8⟩;have G8:=dD (G7.trans g8);have P8:=dD (P7.grew g8);clear g8;go_wp2
  go_loopg [144] 64 (fun gg s144 wr=>∃n:Nat,n<=64/\64 - n<=gg/\s144=I6 n/\Xo (zc W8 wr))
  case atStart=>exact⟨0,nZ _,by omega,rfl,zc.refl _⟩
  obtain⟨n,hn,hgn,rfl,G9⟩:=hrel
  by_cases hln:n<64
  ·have hlnz:(n:Int)<64:=by omega
   have HZK:Xo ((zo s n).kind≠0->za4 m (zE s.ars n) (zo s n)=0):=dD<|HPS.out n hln
   have HZF:Xo ((zct s.tb)[n]? =Xa (zo s n)):=zfK s.tb hln;have HON:Xo (∀(i:Nat) u,(onv (zE s.ars n))[i]? =Xa u->CO[n*6+i]? =Xa u):=show∀i,_ from HCO.out n hln
   have h0:0<=(zo s n).n:=zqa (zml HRT.2 n)
   generalize zo s n=e at HZK HZF h0
   generalize zE s.ars n=o at HZK HON
   go_upto_region 22 with(refine zcU rfl (.tmp 143) (.tmp 144) rfl (zct s.tb) rfl n rfl hln HZF.out ?_)
   obtain⟨pe,HPE⟩:=kA wr.heap.size;obtain⟨W10,hW10⟩:=kB (wr.alloc (Xk #[I6 e.kind,I6 e.n,Xh e.wr] 75));have g10:=gP hW10
   have E10:=xP hW10 HPE
   have G10:=dD (G9.trans g10);rw[hW10,HPE.out];clear hW10 g10;have e0:=E10.c 0 rfl
   by_cases hk:e.kind=0
   ·have hke:(e.kind == 0)=Xc:=by simp[hk]
    clear hk;go_wp2
    go_roundg (64 -(n+1))
    case measure=>omega
    exact⟨n+1,by omega,by omega,by go_num,G10⟩
   have hke:(e.kind == 0)=Xd:=by simp[hk]
   have HEZ:Xo (za4 m o e=0):=HZK.out hk;have X10:=dD (X1.grew (G8.trans G10));have P10:=dD (P8.grew G10);clear hk;go_upto_region 23 with fail;clear hke e0;have hx0:∀y:zl W10,y.world.cell? ⟨w.heap.size,0,Xb⟩=_:=fun y=>(X10.grew y.grew).c 0 rfl
   have hx1:∀y:zl W10,y.world.cell? ⟨w.heap.size,1,Xb⟩=_:=fun y=>(X10.grew y.grew).c 1 rfl
   have hx2:∀y:zl W10,y.world.cell? ⟨w.heap.size,2,Xb⟩=_:=fun y=>(X10.grew y.grew).c 2 rfl
   have hx3:∀y:zl W10,y.world.cell? ⟨w.heap.size,3,Xb⟩=_:=fun y=>(X10.grew y.grew).c 3 rfl
   have hx4:∀y:zl W10,y.world.cell? ⟨w.heap.size,4,Xb⟩=_:=fun y=>(X10.grew y.grew).c 4 rfl
   have hx5:∀y:zl W10,y.world.cell? ⟨w.heap.size,5,Xb⟩=_:=fun y=>(X10.grew y.grew).c 5 rfl
   have hx6:∀y:zl W10,y.world.cell? ⟨w.heap.size,6,Xb⟩=_:=fun y=>(X10.grew y.grew).c 6 rfl
   have hx7:∀y:zl W10,y.world.cell? ⟨w.heap.size,7,Xb⟩=_:=fun y=>(X10.grew y.grew).c 7 rfl
   have hx8:∀y:zl W10,y.world.cell? ⟨w.heap.size,8,Xb⟩=_:=fun y=>(X10.grew y.grew).c 8 rfl
   have hx9:∀y:zl W10,y.world.cell? ⟨w.heap.size,9,Xb⟩=_:=fun y=>(X10.grew y.grew).c 9 rfl
   have hx10:∀y:zl W10,y.world.cell? ⟨w.heap.size,10,Xb⟩=_:=fun y=>(X10.grew y.grew).c 10 rfl
   have he0:∀y:zl W10,y.world.cell? ⟨pe,0,Xb⟩=_:=fun y=>(E10.grew y.grew).c 0 rfl
   have he1:∀y:zl W10,y.world.cell? ⟨pe,1,Xb⟩=_:=fun y=>(E10.grew y.grew).c 1 rfl
   have he2:∀y:zl W10,y.world.cell? ⟨pe,2,Xb⟩=_:=fun y=>(E10.grew y.grew).c 2 rfl
   have ho0:∀y:zl W10,y.world.cell? ⟨po,n*6,Xb⟩=_:=fun y=>(P10.grew y.grew).c _ (HON 0 _ rfl)
   have ho1:∀y:zl W10,y.world.cell? ⟨po,n*6+1,Xb⟩=_:=fun y=>(P10.grew y.grew).c _ (HON 1 _ rfl)
   have ho2:∀y:zl W10,y.world.cell? ⟨po,n*6+2,Xb⟩=_:=fun y=>(P10.grew y.grew).c _ (HON 2 _ rfl)
   have ho3:∀y:zl W10,y.world.cell? ⟨po,n*6+3,Xb⟩=_:=fun y=>(P10.grew y.grew).c _ (HON 3 _ rfl)
   have ho4:∀y:zl W10,y.world.cell? ⟨po,n*6+4,Xb⟩=_:=fun y=>(P10.grew y.grew).c _ (HON 4 _ rfl)
   have ho5:∀y:zl W10,y.world.cell? ⟨po,n*6+5,Xb⟩=_:=fun y=>(P10.grew y.grew).c _ (HON 5 _ rfl)
   have hne:Nonempty (zl W10):=⟨⟨_,zc.refl _⟩⟩;refine jK [(5,⟨fun v=>v=I6 0,fun v w'=>True⟩)] zY (by kernel_rfl) ?hS ?hp ?_
   case hS=>
    intro x hx;simp only[mC,nM,or_false]at hx;subst hx;exact⟨_,rfl⟩
   case hp=>
    intro x hx;simp only[mC,nM,or_false]at hx;subst hx;exact fun _ _ _ _ h=>h
   iterate 5 (refine zlS rfl rfl rfl (fun K hK=>?_);go_big_quiet_op;refine hK _ ?_;clear hK K)
   refine zH rfl rfl (fun w' hg hF=>?_) (fun v1 hv=>?_)
   ·refine zQ.call [Xi #[O fa fn fc,I6 m.hand,O sa sn sc,vsb.x,vsq.x,vdb.x,vdq.x,O fla fln flc,I6 m.cnt,O caa can cac,O (Xa ad) spn spc],Xi #[Xh o.is,Xh o.rd,Xh o.wr,Xh o.sh,I6 o.file,I6 o.page],Xi #[I6 e.kind,I6 e.n,Xh e.wr]] rfl func29 rfl rfl rfl ?_;refine(HEN w' o e (((G1.trans G8).trans G10).trans hg) h0 HEZ).mono ?_;rintro e w'' ⟨rfl,hg2⟩;exact⟨_,rfl,hg2,rfl,trivial⟩
   subst hv;simp only[Xx,sB,sS,sZ];iterate 1 (refine zlS rfl rfl rfl (fun K hK=>?_);go_big_quiet_op;refine hK _ ?_;clear hK K)
   refine z7 fun W11 hg1 hF=>?_
   have G11:=dD (G10.trans hg1);clear hg1 hF hne hx0 hx1 hx2 hx3 hx4 hx5 hx6 hx7 hx8 hx9 hx10 he0 he1 he2 ho0 ho1 ho2 ho3 ho4 ho5;go_wp2
   go_roundg (64 -(n+1))
   case measure=>omega
   exact⟨n+1,by omega,by omega,by go_num,G11⟩
  have hlnz:¬(n:Int)<64:=by omega
  go_wp2
  go_roundg (spn -(p+1))
  case measure=>omega
  exact⟨p+1,by omega,by omega,by go_num,G8.trans G9⟩
 have hlpz:=kD hlp
 have x0:=(X1.grew GP).c 0 rfl;obtain⟨WD,rfl⟩:∃WD,WD=wr:=⟨_,rfl⟩;go_wp2;clear x0
 go_loopg [166] fn (fun gg s166 wr=>∃k:Nat,k<=fn/\fn - k<=gg/\s166=I6 k/\Xo (zc W1 wr))
 case atStart=>exact⟨0,nZ _,by omega,rfl,GP⟩
 obtain⟨k,hk,hgk,rfl,GK⟩:=hrel
 by_cases hlk:k<fn
 ·have hlkz:=kC hlk
  obtain⟨q,HQ⟩:∃q,Xo (m.fs[k]? =Xa q):=⟨_,gE (by rw[HN1.out];exact hlk)⟩
  obtain⟨adf,rfl,hl⟩:=HFR.out k q HQ.out;obtain⟨d0,d1,d2,d3,d4,d5,d6,d7,d8,d9,d10,d11,d12⟩:=hl wr (G1.trans GK);obtain⟨Hz,HHZ⟩:=kA (QE m 1 (k:Int):Int);obtain⟨Cz,HCZ⟩:=kA (zL m.ca (k:Int):Int);have hHz:0<=Hz/\Hz<=256:=by
   have h1:=zgS (m:=m) (kind:=1) (k:=(k:Int)) m.sp.length;rw[zeA]at h1;have h2:=HHZ.out;have h3:=HP.s4;omega
  have hCz:0<=Cz/\Cz<=5864062014805:=by
   have h1:zL m.ca (k:Int)<=m.ca.length:=List.countP_le_length;have h2:=HCZ.out;have h3:=HN8.out;omega
  obtain⟨hHz0,hHz1⟩:=hHz;obtain⟨hCz0,hCz1⟩:=hCz;have hgd:q.r=Hz+Cz/\¬(0<=q.f/\Cz=0):=by
   have h1:=HHZ.out;have h2:=HCZ.out;have hb:=HFE.out k (by rw[HN1.out];exact hlk)
   unfold frE at hb;rw[z8 HQ.out]at hb
   split at hb
   ·cases hb
   rename_i h3
   omega
  obtain⟨k1,k4⟩:=hgd;have k1e:(q.r != Hz+Cz)=Xd:=by simp[k1]
  clear hl k1;go_upto_region 31 with fail;obtain⟨pq,HPQ⟩:=kA wr.heap.size;obtain⟨W12,hW12⟩:=kB (wr.alloc (Xk #[U8 q.p.b0,U8 q.p.b1,U8 q.p.b2,U8 q.p.b3,U8 q.p.b4,U8 q.p.b5,U8 q.p.b6,U8 q.p.b7,I6 q.r,Xh q.u,Xh q.d,I6 q.f,I6 q.x] 62));have g12:=gP hW12
  have Q12:=xP hW12 HPQ
  have G12:=dD (GK.trans g12);rw[hW12,HPQ.out];clear hW12 g12 d0 d1 d2 d3 d4 d5 d6 d7 d8 d9 d10 d11 d12;obtain⟨x0,x1,x2,x3,x4,x5,x6,x7,x8,x9,x10⟩:=(X1.grew G12).eleven;have hc:=HHO.out W12 1 (k:Int) (G1.trans G12);rw[HHZ.out]at hc;go_wp2_with fail;refine hc.mono ?_;clear hc x0 x1 x2 x3 x4 x5 x6 x7 x8 x9 x10;rintro e W13 ⟨rfl,g13⟩;have G13:=dD (G12.trans g13);have Q13:=dD (Q12.grew g13);clear g13;have x9:=(X1.grew G13).c 9 rfl;go_wp2;clear x9
  go_loopg [16,177] can (fun gg s16 s177 wr=>∃j:Nat,j<=can/\can - j<=gg/\s177=I6 j/\s16=I6 (zL (m.ca.take j) (k:Int):Int)/\Xo (zc W13 wr))
  case atStart=>exact⟨0,nZ _,by omega,rfl,rfl,zc.refl _⟩
  obtain⟨j,hj,hgj,rfl,rfl,GJ⟩:=hrel
  by_cases hlj:j<can
  ·have hljz:=kC hlj
   obtain⟨c,HC⟩:∃c,Xo (m.ca[j]? =Xa c):=⟨_,gE (by rw[HN8.out];exact hlj)⟩
   obtain⟨adc,rfl,hl⟩:=HCA.out j c HC.out;obtain⟨d0,d1,d2⟩:=hl wr ((G1.trans G13).trans GJ);have hcl:zL (m.ca.take j) (k:Int)<=j:=zmO j;have HCS:Xo (zL (m.ca.take (j+1)) (k:Int)=zL (m.ca.take j) (k:Int)+(decide (c.fr=(k:Int))).toNat):=ziA HC.out;obtain⟨c0,hc0⟩:=kB (zL (m.ca.take j) (k:Int));rw[hc0]at hcl HCS⊢;clear hc0 hl;go_upto_region 35 with fail;obtain⟨pc,HPC⟩:=kA wr.heap.size;obtain⟨W14,hW14⟩:=kB (wr.alloc (Xk #[I6 c.file,I6 c.idx,I6 c.fr] 93));have g14:=gP hW14
   have C14:=xP hW14 HPC
   have G14:=dD (GJ.trans g14);rw[hW14,HPC.out];clear hW14 g14 d0 d1 d2;have c2:=C14.c 2 rfl
   by_cases hkk:c.fr=(k:Int)
   ·have hke:(c.fr ==(k:Int))=Xc:=by simp[hkk]
    have HV:Xo (zL (m.ca.take (j+1)) (k:Int)=c0+1):=dD<|by rw[HCS.out,decide_eq_true hkk];rfl
    clear hkk;go_wp2
    go_roundg (can -(j+1))
    case measure=>omega
    exact⟨j+1,by omega,by omega,by go_num,by rw[HV.out];go_num,G14⟩
   have hke:(c.fr ==(k:Int))=Xd:=by simp[hkk]
   have HV:Xo (zL (m.ca.take (j+1)) (k:Int)=c0):=dD<|by rw[HCS.out,decide_eq_false hkk];rfl
   clear hkk;go_wp2
   go_roundg (can -(j+1))
   case measure=>omega
   exact⟨j+1,by omega,by omega,by go_num,by rw[HV.out],G14⟩
  have hljz:=kD hlj
  obtain rfl:can=j:=by omega
  have hce:(zL (m.ca.take can) (k:Int):Int)=Cz:=by rw[Yd (by rw[HN8.out];exact nR _)];exact HCZ.out
  rw[hce];clear hce;have q8:=(Q13.grew GJ).c 8 rfl;have q11:=(Q13.grew GJ).c 11 rfl
  by_cases k2:0<=q.f
  ·have k2d:decide (0<=q.f)=Xc:=decide_eq_true k2;have k3e:(Cz == 0)=Xd:=by simpa using fun e=>k4 ⟨k2,e⟩
   clear k2 k4;go_wp2
   go_roundg (fn -(k+1))
   case measure=>omega
   exact⟨k+1,by omega,by omega,by go_num,G13.trans GJ⟩
  have k2d:decide (0<=q.f)=Xd:=decide_eq_false k2;clear k2 k4;go_wp2
  go_roundg (fn -(k+1))
  case measure=>omega
  exact⟨k+1,by omega,by omega,by go_num,G13.trans GJ⟩
 have hlkz:=kD hlk
 have x2:=(X1.grew GK).c 2 rfl;obtain⟨WE,rfl⟩:∃WE,WE=wr:=⟨_,rfl⟩;go_wp2;clear x2
 go_loopg [207] sn (fun gg s207 wr=>∃j:Nat,j<=sn/\sn - j<=gg/\s207=I6 j/\Xo (zc W1 wr))
 case atStart=>exact⟨0,nZ _,by omega,rfl,GK⟩
 obtain⟨j,hj,hgj,rfl,GJ⟩:=hrel
 by_cases hlj:j<sn
 ·have hljz:=kC hlj
  obtain⟨z,HQ⟩:∃z,Xo (m.sl[j]? =Xa z):=⟨_,gE (by rw[HN2.out];exact hlj)⟩
  obtain⟨ads,rfl,hl⟩:=HSL.out j z HQ.out;have d0:=hl wr (G1.trans GJ);have hzz:z=(QE m 2 (j:Int):Int):=by
   have h1:=HSE.out j (by rw[HN2.out];exact hlj)
   unfold zjR at h1;rw[gD,HQ.out]at h1
   split at h1
   ·cases h1
   rename_i h2
   exact Classical.byContradiction h2
  have hc:=HHO.out wr 2 (j:Int) (G1.trans GJ);rw[<-hzz]at hc;have k1e:(z != z)=Xd:=by simp
  clear hl hzz;obtain⟨x0,x1,x2,x3,x4,x5,x6,x7,x8,x9,x10⟩:=(X1.grew GJ).eleven;go_wp2_with fail;refine hc.mono ?_;clear hc d0 x0 x1 x2 x3 x4 x5 x6 x7 x8 x9 x10;rintro e W13 ⟨rfl,g13⟩;have G13:=dD (GJ.trans g13);clear g13;go_wp2
  go_roundg (sn -(j+1))
  case measure=>omega
  exact⟨j+1,by omega,by omega,by go_num,G13⟩
 have hljz:=kD hlj
 have GE:=dD (G1.trans GJ);go_wp2;go_ret;exact⟨rfl,GE⟩
theorem zjS {a:Act} {w:Xn} (c x) (g:o.op= .load c x) (ad) (h:a.eval x= Xj (Xa ad)) (v) (f:w.cell? ad=Xa v) {d:TypeDesc} (e:Tryz.prog.underlying c=Xa d) (b:d.isRow=Xd):(execOp a.eval o).run prog w= .ok (.value v) w:=by
 have b:(isAgg c).run prog w= .ok Xd w:=by
  unfold isAgg;rw[Yi,run_underlying e w]
  cases d <;> simp_all [TypeDesc.isRow]
 have e:(loadVar c ad).run prog w= .ok v w:=by simp[loadVar,Yi,b,f]
 simp only[execOp,g,h,Instr.loadAt,Instr.sureAddr,Yi,Ok,e,rA]
structure zpL (m:Ma) (c:Ca) (k fi ix:Nat) (f:Fr) (F:Fl):Prop where
 fr:c.fr=(k:Int)
 file:c.file=(fi:Int)
 idx:c.idx=(ix:Int)
 fa:m.fs[k]? =Xa f
 ff:f.f=(fi:Int)
 fx:f.x=(ix:Int)
 fl:m.fl[fi]? =Xa F
 sz:0<=F.size/\F.size<=96
 lo:ix<=12
 r:f.r≠0
 bl:ix<F.bl.length
theorem ziF (n:maW m=0) {c:Ca} (a:c∈m.ca):∃k fi d f F,zpL m c k fi d f F:=by
 obtain⟨⟨b,b,b,r,b,b⟩,⟨i,j,l⟩,-⟩:=zmP ((zp.1 (zcZ n).1.ca).1 c a);obtain⟨k,q⟩:∃k:Nat,c.fr=(k:Int):=⟨c.fr.toNat,by omega⟩
 obtain⟨fi,a⟩:∃fi:Nat,c.file=(fi:Int):=⟨c.file.toNat,by omega⟩
 obtain⟨d,b⟩:∃d:Nat,c.idx=(d:Int):=⟨c.idx.toNat,by omega⟩
 obtain⟨f,p⟩:∃f,m.fs[k]? =Xa f:=⟨_,gE (by omega)⟩
 obtain⟨F,e⟩:∃F,m.fl[fi]? =Xa F:=⟨_,gE (by omega)⟩
 have h:zW m c.fr=f:=by unfold zW;rw[q,tN,gD,p];rfl
 have g:bkN m c.file=(F.bl.length:Int):=by unfold bkN;rw[a,tN,gD,e];rfl
 rw[h]at i j l;rw[g]at r;obtain⟨g,h⟩:=zpq n e;have:=zfP g.1 g.2;exact⟨k,fi,d,f,F,q,a,b,p,j.trans a,l.trans b,e,g,by omega,i,by omega⟩
end
section
section
variable{m:Ma}
theorem zku (S:Nat->Nat->Prop) (h:Rt m) {db':List (List Int)} (f:db'.length=m.db.length) (n:∀i:Nat,db'[i]? =m.db[i]?\/∃q∈m.dq,q.1.toNat=i) (j:∀z:Int,qj db' [] z=qj m.db m.dq z):QQ S m { m with db:=db',dq:=[] }:=by
 have b:=h.inv;have e:zB db'.length []=0:=by
  have d:=b.dok;rw[<-f]at d;unfold zB at d⊢
  split at d
  ·cases d
  rename_i a
  rw[kF a,kF (by simp),kF (by simp)]
 have g:∀a c,qn { m with db:=db',dq:=[] } a c=qn m a c:=fun a c=>by
  unfold qn
  cases m.ca.find? (JQ a c)with
  | some l=>rfl
  | none=>
   show(if zcK m a c<0 then zz else Zb (qj db' [] (zcK m a c)) c (ZG m a))=_
   rw[j]
 have j:qH { m with db:=db',dq:=[] } (Qn { m with db:=db',dq:=[] }):=by
  refine⟨b.fs40,b.fok,b.sl60,b.sbl,b.sq,e,b.st,by show m.cnt=_;rw[b.cnt,f],fun f d e=>?_,fun q k=>(by cases k),b.spl,b.spok,b.tl,zp.2 ⟨fun l g=>(zp.1 b.ca).1 l g,fun _ _ k=>(by cases k),(zp.1 b.ca).2.2⟩,b.ent,b.cf,b.cs⟩
  have k:f<db'.length:=d
  show db'[f]? =_
  rcases n f with k|⟨q,n,l⟩
  ·rw[k];exact b.blk f (by omega) e
  have k:=zlw b.dok n;have l:=b.que q n;have b:zU m.fl (f:Int)=Xd:=e;rw[show q.1=(f:Int) by omega,b]at l
  cases l
 have f:∀(q:Nat) s b,m.sp[q]? =Xa s->({ m with db:=db',dq:=[] }:Ma).sp[q]? =Xa b->b=s:=fun q s b d e=>by
  have:m.sp[q]? =Xa b:=e;rw[d]at this;cases this;rfl
 refine⟨Rt.of j (fun s j=>h.tb j) h.hand.1 h.hand.2,⟨rfl,fun q s b d e=>?_,fun q n s b d e _ _=>?_,rfl,fun _=>rfl,fun _=>rfl,fun _ _ _=>by rw[g]⟩,rfl,fun q n s b d e _ k=>?_,fun a c _ a=>⟨a,g _ _⟩⟩
 ·cases f q s b d e
  exact⟨rfl,rfl⟩
 ·cases f q s b d e
  exact zfe rfl rfl (fun _=>⟨rfl,Iff.rfl⟩) (fun _=>rfl) (fun _=>rfl) g
 cases f q s b d e
 exact k
theorem QQ.views (h:Rt m) (g:QQ (fun _ _=>False) m m'):(∀p n:Int,zoU m' p n=zoU m p n)/\∀file:Nat,zeT m' (file:Int)=zeT m (file:Int):=by
 have a:maW m'=0:=g.rt.w;refine⟨fun p n=>?_,fun file=>?_⟩
 ·unfold zoU;rw[kF (by rw[a];simp),kF (by rw[h.w];simp)]
  by_cases a:p<0\/(m.sp.length:Int)<=p\/n<0\/63<n
  ·rw[ziX a,ziX (by rw[g.sam.spl];exact a)]
  have b:p.toNat<m.sp.length:=by omega
  have c:=gE b;have a:=gE (show p.toNat<m'.sp.length by rw[g.sam.spl];exact b)
  have d:p=((p.toNat:Nat):Int):=by omega
  have e:n=((n.toNat:Nat):Int):=by omega
  have b:n.toNat<64:=by omega
  rw[d,e,ziW c b,ziW a b,(g.sam.sp _ _ _ c a).2];exact g.sam.see _ _ _ _ c a b (fun e=>e)
 unfold zeT;rw[g.sam.sz];refine Oi fun k a=>?_
 exact g.sam.byt file k (by have:=Xu.1 a;omega)
end
theorem zhc {α:Type} (P:α->Bool):∀{l:List α} {k:Nat} {x y:α},l[k]? =Xa x->(l.set k y).countP P+(P x).toNat=l.countP P+(P y).toNat
 | [],k,x,y,h=>by simp at h
 | a :: l,0,x,y,h=>by
  have:a=x:=by simpa using h
  subst this;rw[sZ,Ya,Ya]
  cases P a <;> cases P y <;> simp
 | a :: l,k+1,x,y,h=>by
  have:=zhc P (l:=l) (k:=k) (x:=x) (y:=y) (by rw[Xt]at h;exact h)
  rw[sS,Ya,Ya];omega
theorem zn8 {fs:List Fr} {k:Nat} {fr:Fr} (a:fs[k]? =Xa fr) (b:fr.r≠0):za1 (fs.set k frF)=za1 fs+1:=by
 have h:za1 (fs.set k frF)+(decide (fr.r=0)).toNat=za1 fs+(decide (frF.r=0)).toNat:=zhc _ a;rw[decide_eq_false b,show decide (frF.r=0)=Xc from rfl]at h
 exact h
theorem Zd {fs:List Fl} {b:Int}:zU fs b=Xc↔∃(i:Nat) (f:Fl) (j:Nat),fs[i]? =Xa f/\f.bl[j]? =Xa b:=by
 unfold zU;rw[Xv];constructor
 ·rintro⟨f,c,h⟩;obtain⟨i,a⟩:=Xs c;obtain⟨j,c⟩:=Xs (Of.1 h);exact⟨i,f,j,a,c⟩
 rintro⟨i,f,j,a,c⟩;exact⟨f,mG a,Of.2 (mG c)⟩
theorem J5 {l:List Int} {b:Int} (h:b∈l) (a:b≠-1):b∈QJ l:=Oc.2 ⟨h,by simpa using a⟩
theorem zc3 {b:Int} (g:b≠-1):∀{l:List Int} {j k:Nat},(QJ l).Nodup->l[j]? =Xa b->l[k]? =Xa b->j=k
 | [],j,k,_,h,_=>by simp at h
 | a :: l,j,k,c,d,e=>by
  have h:(QJ l).Nodup:=by
   unfold QJ at c⊢;rw[List.filter_cons]at c
   split at c
   ·exact(List.nodup_cons.1 c).2
   exact c
  have f:a=b->b∉l:=fun i m=>by
   subst i;unfold QJ at c;rw[List.filter_cons,kE (by simpa using g)]at c
   exact(List.nodup_cons.1 c).1 (J5 m g)
  cases j with
  | zero=>
   cases k with
   | zero=>rfl
   | succ k=>
    rw[Xt]at e;exact absurd (mG e) (f (by simpa using d))
  | succ j=>
   cases k with
   | zero=>
    rw[Xt]at d;exact absurd (mG d) (f (by simpa using e))
   | succ k=>
    rw[Xt]at d e;rw[zc3 g h d e]
theorem zhr {fs:List Fl} {i:Nat} {f:Fl} {b:Int} (a:fs[i]? =Xa f) (c:f.bl[j]? =Xa b):b∈QI fs:=List.mem_flatMap.2 ⟨f,mG a,mG c⟩
theorem zeV {b:Int} (d:b≠-1):∀{fs:List Fl} {i k j l:Nat} {f g:Fl},(QJ (QI fs)).Nodup->fs[i]? =Xa f->f.bl[j]? =Xa b->fs[k]? =Xa g->g.bl[l]? =Xa b->i=k/\j=l
 | [],i,k,j,l,f,g,_,h,_,_,_=>by simp at h
 | a :: fs,i,k,j,l,f,g,p,e,h,c,m=>by
  have n:QJ (QI (a :: fs))=QJ a.bl++QJ (QI fs):=by
   unfold QJ QI;rw[Ol,List.filter_append]
  rw[n,List.nodup_append]at p;obtain⟨r,s,q⟩:=p
  cases i with
  | zero=>
   have n:a=f:=by simpa using e
   subst n
   cases k with
   | zero=>
    have n:a=g:=by simpa using c
    subst n;exact⟨rfl,zc3 d r h m⟩
   | succ k=>
    rw[Xt]at c;exact absurd rfl (q b (J5 (mG h) d) b (J5 (zhr c m) d))
  | succ i=>
   rw[Xt]at e
   cases k with
   | zero=>
    have n:a=g:=by simpa using c
    subst n;exact absurd rfl (q b (J5 (mG m) d) b (J5 (zhr e h) d))
   | succ k=>
    rw[Xt]at c;obtain⟨n,p⟩:=zeV d s e h c m;exact⟨by rw[n],p⟩
theorem zhm {fs:List Fl} {c:Int} {file a:Nat} {f:Fl} (e:stW fs c=0) (d:fs[file]? =Xa f) (h:f.bl[a]? =Xa (b:Int)):
  fs.set file ⟨f.size,f.bl.set a (b:Int)⟩=fs/\(∀x,zU fs x=Xc↔(zU fs x=Xc/\x≠-1)\/x=(b:Int)\/(x=-1/\zU fs x=Xc))/\∀(i j:Nat) g,fs[i]? =Xa g->g.bl[j]? =Xa (b:Int)->i=file/\j=a:=by
 obtain⟨_,_,k⟩:=(z6 fs c).1 e;have l:(b:Int)≠-1:=by omega
 refine⟨?_,fun x=>?_,fun i j g c e=>zeV l k c e d h⟩
 ·have c:f.bl.set a (b:Int)=f.bl:=by
   apply Yf
   intro q;rw[Om]
   split
   ·rename_i e
    subst e;rw[kE (gS.1 h).1,h]
   rfl
  rw[c]
  apply Yf
  intro q;rw[Om]
  split
  ·rename_i e
   subst e;rw[kE (gS.1 d).1,d]
  rfl
 constructor
 ·intro c
  by_cases e:x=-1
  ·exact .inr (.inr ⟨e,c⟩)
  exact .inl ⟨c,e⟩
 rintro(⟨c,_⟩|rfl|⟨_,c⟩)
 ·exact c
 ·exact Zd.2 ⟨file,f,a,d,h⟩
 exact c
theorem zhn {fs:List Fl} {c:Int} {file a:Nat} {f:Fl} (h:stW fs c=0) (p:fs[file]? =Xa f) (q:f.bl[a]? =Xa (-1)) (d:b∈QM fs c):
  stW (fs.set file ⟨f.size,f.bl.set a (b:Int)⟩) c=0/\(∀x,zU (fs.set file ⟨f.size,f.bl.set a (b:Int)⟩) x=Xc↔(zU fs x=Xc/\x≠-1)\/x=(b:Int)\/(x=-1/\zU (fs.set file ⟨f.size,f.bl.set a (b:Int)⟩) x=Xc))/\zU fs (b:Int)=Xd/\∀(i j:Nat) g,fs[i]? =Xa g->g.bl[j]? =Xa (b:Int)->i=file/\j=a:=by
 have r:zU fs (b:Int)=Xd:=by
  have:=(Oc.1 d).2
  simpa using this
 have e:=(gS.1 p).1;have n:=(gS.1 q).1;refine⟨(zkr h p q d).1,fun x=>?_,r,fun i j g d c=>?_⟩
 ·constructor
  ·intro k
   by_cases l:x=-1
   ·exact .inr (.inr ⟨l,k⟩)
   obtain⟨i,g,j,d,c⟩:=Zd.1 k
   by_cases m:file=i
   ·subst m;rw[sF e]at d;cases d;simp only at c
    by_cases h:a=j
    ·subst h;rw[sF n]at c;cases c;exact .inr (.inl rfl)
    rw[sN h]at c;exact .inl ⟨Zd.2 ⟨file,f,j,p,c⟩,l⟩
   rw[sN m]at d;exact .inl ⟨Zd.2 ⟨i,g,j,d,c⟩,l⟩
  rintro(⟨k,l⟩|rfl|⟨_,k⟩)
  ·obtain⟨i,g,j,d,c⟩:=Zd.1 k
   by_cases m:i=file
   ·subst m;rw[p]at d;cases d;have p:a≠j:=fun h=>by
     subst h;rw[q]at c;cases c;exact l rfl
    exact Zd.2 ⟨i,⟨f.size,f.bl.set a (b:Int)⟩,j,by rw[sF e],by simp only;rw[sN p];exact c⟩
   exact Zd.2 ⟨i,g,j,by rw[sN (fun h=>m h.symm)];exact d,c⟩
  ·exact Zd.2 ⟨file,⟨f.size,f.bl.set a (b:Int)⟩,a,by rw[sF e],by simp only;rw[sF n]⟩
  exact k
 have:=Zd.2 ⟨i,g,j,d,c⟩;rw[r]at this;cases this
end
section
open Go.RowKit
theorem zoK (h:Rt m) {F:Fl} (f:m.fl[fi]? =Xa F) (d:ix<F.bl.length) (a:Qu m.fl m.cnt (fi:Int) (ix:Int)=0):
  ∃b:Nat,(b:Int)<m.cnt/\ziI m.fl m.cnt (fi:Int) (ix:Int)=(b:Int)/\zk4 m.fl m.cnt (fi:Int) (ix:Int)=m.cnt/\zhz m.fl m.cnt (fi:Int) (ix:Int)=m.fl.set fi ⟨F.size,F.bl.set ix (b:Int)⟩/\(F.bl[ix]? =Xa (b:Int)\/(F.bl[ix]? =Xa (-1)/\b∈QM m.fl m.cnt)):=by
 have c:=h.inv.st;have g:zmR m.fl (fi:Int)=F.bl:=by unfold zmR;rw[tN,f]
 have l:zpT m.fl (fi:Int)=F.size:=by unfold zpT;rw[tN,f]
 obtain⟨z,h⟩:∃z,F.bl[ix]? =Xa z:=⟨_,gE d⟩;have j:F.bl.getD ix 0=z:=by rw[gD,h];rfl
 obtain⟨d,k,_⟩:=(z6 _ _).1 c;have i:∃b:Nat,(b:Int)<m.cnt/\zoL m.fl m.cnt (fi:Int) (ix:Int)=(b:Int)/\(z=(b:Int)\/(z=-1/\b∈QM m.fl m.cnt)):=by
  unfold zoL;rw[g,tN,j]
  by_cases d:z=-1
  ·have p:QM m.fl m.cnt≠[]:=fun e=>by
    unfold Qu at a;have n:=(gS.1 f).1;rw[kE c,kE (Q9.2 ⟨by omega,by omega⟩),g,kE (Q9.2 ⟨by omega,by omega⟩),tN,j,kE d,kE e]at a
    cases a
   cases c:QM m.fl m.cnt with
   | nil=>exact absurd c p
   | cons b j=>
    have j:b∈QM m.fl m.cnt:=by rw[c];exact Ye ..
    have c:=Xu.1 (Oc.1 j).1;refine⟨b,by omega,by rw[kE d];rfl,.inr ⟨d,Ye ..⟩⟩
  rw[kF d];obtain⟨_,_,c⟩:=k F (mG f);have:=c z (mG h);exact⟨z.toNat,by omega,by omega,.inl (by omega)⟩
 obtain⟨b,f,d,c⟩:=i;refine⟨b,f,?_,?_,?_,?_⟩
 ·unfold ziI;rw[kE a,d]
 ·unfold zk4;rw[kE a]
 ·unfold zhz;rw[kE a,g,l,d,tN,tN]
 rw[h]
 rcases c with e|⟨e,a⟩
 ·exact .inl (by rw[e])
 exact .inr ⟨by rw[e],a⟩
theorem zf3 (c:List (List Int)) (a:List (Int × List Int)) (b:∀q∈a,∃i:Nat,q.1=(i:Int)/\i<c.length) (i:Nat):(qG c a)[i]? =c[i]?\/∃q∈a,q.1=(i:Int):=by
 unfold qG
 split
 ·rename_i c
  cases a with
  | nil=>cases c
  | cons q l=>
   simp only[List.headD_cons];obtain⟨j,a,_⟩:=b q (Ye ..)
   by_cases e:i=j
   ·exact .inr ⟨q,Ye ..,by rw[e];exact a⟩
   rw[a,tN,sN (fun h=>e h.symm)]
   exact .inl rfl
 exact .inl rfl
theorem zos (h:Rt m) {c:Ca} {k:Nat} {f:Fr} {F:Fl} (u:c∈m.ca) (hi:zpL m c k fi ix f F) (a:Qu m.fl m.cnt f.f f.x=0):Rt (clM m k f F):=by
 have g:=a;rw[hi.ff,hi.fx]at a;obtain⟨b,d,i,j,l,n⟩:=zoK h hi.fl hi.bl a;obtain⟨a,a,q⟩:=qY h.inv.dok;have a:=h.inv.cnt;have a:zi m.db.length m.dq (b:Int)=0:=by
  unfold zi;rw[kE h.inv.dok,kE (by simp[jE];omega)]
 have d:=h.inv.st;have s:∀e:List Int,wrM m e f.f f.x=zav m fi ix F (b:Int) (qG m.db m.dq) (qp m.dq (b:Int) e):=fun e=>by
  unfold wrM zav;rw[kE g,hi.ff,hi.fx,i,j,l];unfold qZ jB;rw[kE a,kE a]
 have t:∀e:List Int,Rt (zav m fi ix F (b:Int) (qG m.db m.dq) (qp m.dq (b:Int) e)):=fun e=>by
  have i:stW (m.fl.set fi ⟨F.size,F.bl.set ix (b:Int)⟩) m.cnt=0/\(∀x,zU (m.fl.set fi ⟨F.size,F.bl.set ix (b:Int)⟩) x=Xc↔(zU m.fl x=Xc/\x≠-1)\/x=(b:Int)\/(x=-1/\zU (m.fl.set fi ⟨F.size,F.bl.set ix (b:Int)⟩) x=Xc))/\(F.bl[ix]? =Xa (b:Int)\/zU m.fl (b:Int)=Xd)/\∀(j l:Nat) e,m.fl[j]? =Xa e->e.bl[l]? =Xa (b:Int)->j=fi/\l=ix:=by
   rcases n with e|⟨e,r⟩
   ·obtain⟨l,n,p⟩:=zhm d hi.fl e;rw[l];exact⟨d,n,.inl e,p⟩
   obtain⟨l,n,p,v⟩:=zhn d hi.fl e r;exact⟨l,n,.inr p,v⟩
  obtain⟨u1,u2,u3,u4⟩:=i;exact(zho h hi.fl u1 u2 (Qq _ _) (Qv a) (zf3 _ _ q) (fun q d=>by
   unfold qp at d
   rcases Od.1 d with e|e
   ·refine .inr ⟨q,?_,rfl⟩
    split at e
    ·exact Ym e
    exact e
   simp only[Yt]at e;exact .inl (by rw[e])) (fun j d=>Js a d) u3 ⟨c,u,hi.file,hi.idx⟩ u4).1.1
 unfold clM;rw[kE g,s];have a:(zav m fi ix F (b:Int) (qG m.db m.dq) (qp m.dq (b:Int) (Zb (pgL f.p) f.x F.size))).fs[k]? =Xa f:=hi.fa;exact(zjd (t _) a hi.r f.u Xd).1
theorem zjy {k:Nat} {f:Fr} {F:Fl} (a:Qu m.fl m.cnt f.f f.x=0):(clM m k f F).fs=m.fs.set k { f with d:=false }:=by
 unfold clM;rw[kE a]
def zqp (x:Nat × Nat):List Xq:=[Xe Xf (x.1:Int),Xe Xf (x.2:Int)]
theorem zq4:(Tryz.prog.info? 214).map (fun i=>(i.zero,i.size,i.bytes))=Xa (Xa (Xi #[I6 0,I6 0]),2,16):=by kernel_rfl
theorem zq5:Tryz.prog.underlying 113=Xa (.slice 214):=by kernel_rfl
def zfc:Elt (Nat × Nat) where
 enc:=zqp
 k:=2
 ty:=214
 st:=113
 bytes:=16
 zv:= Xi #[Xe Xf 0,Xe Xf 0]
 zero:=(0,0)
 len:=fun _=>rfl
 one:=fun a u hu=>by
  simp only[zqp,mC,nM,or_false]at hu
  rcases hu with rfl|rfl <;> rfl
 und:=zq5
 info:=zq4
 zok:=rfl
 few:=by decide
 pos:=by decide
theorem zjq (s) (kind k:Int):(zoe s kind k).length<=64:=by
 unfold zoe;exact nT (List.length_filter_le _ _) (by simp)
theorem zdr (m) (kind k:Int):∀q,(ZA m kind k q).length<=64*q
 | 0=>by simp[zko]
 | q+1=>by
  rw[zeB,lA,Yh];have a:=zdr m kind k q;have a:=zjq (m.sp.getD q ⟨Xd,[],[]⟩) kind k;omega
theorem zfO {w:Xn} {p:Nat} (h:ChW w0 p w V m) (kind k:Int) (h4:m.sp.length<=4):
  Xp prog 149 #[Xj (Xa ⟨p,0,Xb⟩),I6 kind,I6 k] w fun e w'=>∃v,e= Xl v/\zb zfc w.heap.size w' v (ZA m kind k m.sp.length)/\zc w w':=by
 obtain⟨xs,hxl,hrow,hsp⟩:=h.at.spaces;obtain⟨-,-,-,-,-,-,-,-,n9⟩:=h.at.ns;obtain⟨spa,HSA⟩:=kA V.sp.a;obtain⟨sn,HSN⟩:=kA m.sp.length;have c10:=h.box.box.c 10 rfl;rw[n9,HSN.out,HSA.out]at c10;have HXL:Xo (xs.length=sn):=dD<|by rw[hxl];exact HSN.out
 have HRW:Xo (∀(j:Nat) x,xs[j]? =Xa x->∃ad,spa=Xa ad/\∀W,zc w W->zoz W (ad.add (j*10)) x):=dD<|by rw[<-HSA.out];exact hrow
 have HSP:=dD hsp
 have hsn4:sn<=4:=by rw[<-HSN.out];exact h4
 rw[HSN.out];clear h hxl hrow hsp n9 h4
 go_enter func149,ntmps149
 go_wp2;clear c10
 go_loopg [7,18] sn (fun gg s7 s18 wr=>∃(q:Nat) (a7:Option Addr) (n7 c7:Nat),q<=sn/\sn - q<=gg/\s18=I6 q/\s7= O a7 n7 c7/\Xo (zc w wr)/\Xo (zb zfc w.heap.size wr (O a7 n7 c7) (ZA m kind k q)))
 case atStart=>exact⟨0,Xb,0,0,nZ _,by omega,rfl,rfl,zc.refl _,zb.nil _ _ _⟩
 obtain⟨q,a7,n7,c7,hq,hgq,rfl,rfl,GW,OW⟩:=hrel
 by_cases hlt:q<sn
 ·have hltz:=kC hlt
  obtain⟨x,hx⟩:∃x,xs[q]? =Xa x:=⟨_,gE (by rw[HXL.out];exact hlt)⟩
  obtain⟨s,HS⟩:∃s,Xo (m.sp[q]? =Xa s):=⟨_,gE (by rw[HSN.out];exact hlt)⟩
  have HAT:=dD<|HSP.out q x s hx HS.out;obtain⟨ad,rfl,hl⟩:=HRW.out q x hx;obtain⟨d0,d1,d2,d3,d4,d5,d6,d7,d8,d9⟩:=hl wr GW.out;have HNX:Xo (ZA m kind k (q+1)=ZA m kind k q++(zoe s kind k).map fun n=>(q,n)):=show _=_ by rw[zeB,Sp.getD_of HS.out]
  have HLE:=dD<|zdr m kind k q;have HFL:=dD<|zjq s kind k;clear hl hx;go_upto_region 5 with fail;obtain⟨W5,hW5⟩:=kB (wr.alloc (Xk #[Xh x.live,x.ar.x,x.t0.x,x.t1.x,x.t2.x,x.t3.x,x.t4.x,x.t5.x,x.t6.x,x.t7.x] 79));have g5:=gP hW5
  have S5:=xA hW5
  have G5:=dD (GW.trans g5);have O5:=dD (OW.grew g5);rw[hW5];clear hW5 g5 d0 d1 d2 d3 d4 d5 d6 d7 d8 d9;have hc:Xp prog 165 #[Xi #[x.t0.x,x.t1.x,x.t2.x,x.t3.x,x.t4.x,x.t5.x,x.t6.x,x.t7.x],I6 kind,I6 k] W5 fun e w'=>∃v,e= Xl v/\zb blE W5.heap.size w' v ((zoe s kind k).map fun(n:Nat)=>(n:Int))/\zc W5 w':=zky x.tab s.tb kind k W5 (HAT.tb.grew G5)
  have s2:=S5.c 2 rfl;have s3:=S5.c 3 rfl;have s4:=S5.c 4 rfl;have s5:=S5.c 5 rfl;have s6:=S5.c 6 rfl;have s7:=S5.c 7 rfl;have s8:=S5.c 8 rfl;have s9:=S5.c 9 rfl;go_wp2_with fail;refine hc.mono ?_;clear hc s2 s3 s4 s5 s6 s7 s8 s9;rintro e W6 ⟨v,rfl,ow6,g6⟩;obtain⟨FN,HFN⟩:=kA (zoe s kind k);rw[HFN.out]at ow6 HNX HFL;obtain⟨va,vc,rfl⟩:=ow6.form;rw[Yh]at ow6;have F6:=dD ow6
  have G6:=dD (G5.trans g6);have O6:=dD (O5.grew g6);rw[Yh];obtain⟨fl,HFL2⟩:=kA FN.length;rw[HFL2.out]at F6 HFL⊢;have hfl64:fl<=64:=HFL.out;clear ow6 g6;obtain⟨b5,HB5⟩:=kA W5.heap.size;have HWB:=dD<|bS G6.out
  rw[HB5.out]at F6;go_wp2
  go_loopg [7,29] fl (fun gg s7 s29 wr=>∃(j:Nat) (a7:Option Addr) (n7 c7:Nat),j<=fl/\fl - j<=gg/\s29=I6 j/\s7= O a7 n7 c7/\Xo (zc w wr)/\Xo (zb zfc w.heap.size wr (O a7 n7 c7) (ZA m kind k q++(FN.take j).map fun n=>(q,n)))/\Xo (zb blE b5 wr (O va fl vc) (FN.map fun(n:Nat)=>(n:Int))))
  case atStart=>exact⟨0,a7,n7,c7,nZ _,by omega,rfl,rfl,G6,show zb _ _ _ _ _ by simpa using(show zb _ _ _ _ _ from O6.out),F6.out⟩
  obtain⟨j,a8,n8,c8,hj,hgj,rfl,rfl,GJ,OJ,FJ⟩:=hrel
  by_cases hlj:j<fl
  ·have hljz:=kC hlj
   obtain⟨n,hn⟩:∃n,FN[j]? =Xa n:=⟨_,gE (by rw[HFL2.out];exact hlj)⟩
   have hnm:(FN.map fun(n:Nat)=>(n:Int))[j]? =Xa (n:Int):=by rw[Yw,hn];rfl
   obtain⟨_,_,hve,hrows⟩:=FJ.at.rows;simp only[vJ]at hve;obtain⟨ad2,had2,hl2⟩:=hrows j _ hnm;rw[<-hve.1]at had2;subst had2;have e0:wr.cell? (ad2.add (j*1))=Xa (I6 (n:Int)):=by
    have:=hl2 wr (zc.refl _) 0 _ rfl;rw[Addr.add_add]at this;exact this
   rw[Nat.mul_one]at e0;have HTK:Xo ((FN.take (j+1)).map (fun n=>(q,n))=(FN.take j).map (fun n=>(q,n))++ [(q,n)]):=dD<|by rw[Yx,hn];simp
   have HBD:Xo (((ZA m kind k q++(FN.take j).map fun n=>(q,n)).length+ [(q,n)].length)*16<=140737488355328):=dD<|by
    rw[lA,Yh,Xw];have:=HLE.out;simp only[Yz,List.length_nil];omega
   clear hn hnm hve hrows hl2;obtain⟨L0,HL0⟩:=kA (ZA m kind k q++(FN.take j).map fun n=>(q,n))
   rw[HL0.out]at OJ HBD;have O2:Xo (zb zfc w.heap.size (wr.alloc (Xk #[I6 (q:Int),I6 (n:Int)] 214)) (O a8 n8 c8) L0):=OJ.grew (za wr (Xk #[I6 (q:Int),I6 (n:Int)] 214));have HSZ:Xo (w.heap.size<=(wr.alloc (Xk #[I6 (q:Int),I6 (n:Int)] 214)).heap.size):=show _<=_ from nT (bS GJ) (bS (za _ _))
   go_wp2_with (at_builtin;refine zt (E:=zfc) rfl (.tmp 33) (.tmp 37) rfl w.heap.size (O a8 n8 c8) L0 rfl O2 _ [(q,n)] rfl (jV zfc wr (q,n) _ _ rfl (by decide)) HBD HSZ.out ?_)
   intro v9 W9 ow9 gr9;obtain⟨a9,c9,rfl⟩:=ow9.form;have O9:Xo (zb zfc w.heap.size W9 _ (ZA m kind k q++(FN.take (j+1)).map fun n=>(q,n))):=dD<|by rw[HTK.out,<-Yy,HL0.out];exact ow9
   have ga:zc wr (wr.alloc (Xk #[I6 (q:Int),I6 (n:Int)] 214)):=za _ _;have F9:Xo (zb blE b5 W9 (O (Xa ad2) fl vc) (FN.map fun(n:Nat)=>(n:Int))):=dD<|(FJ.grew ga).grown gr9 (fun g hg e=>(FJ.grew ga).apart O2 (by decide) g hg e)
   have G9:=dD<|zT (GJ.trans ga) gr9 (fun g hg=>(O2.lt g hg).1)
   clear ow9 gr9 ga e0;try simp only[Xx]
   go_wp2
   go_roundg (fl -(j+1))
   case measure=>omega
   exact⟨j+1,_,_,_,by omega,by omega,by go_num,rfl,G9,O9,F9⟩
  have hljz:=kD hlj
  have OQ:Xo (zb zfc w.heap.size wr (O a8 n8 c8) (ZA m kind k (q+1))):=dD<|by
   rw[HNX.out];have:=OJ.out;rw[Yd (by rw[HFL2.out];omega)]at this
   exact this
  go_wp2
  go_roundg (sn -(q+1))
  case measure=>omega
  exact⟨q+1,a8,n8,c8,by omega,by omega,by go_num,rfl,GJ,OQ⟩
 have hltz:=kD hlt
 obtain rfl:q=sn:=by omega
 go_wp2;go_ret;exact⟨_,rfl,OW,GW⟩
theorem zir {w:Xn} {p:Nat} (a5:ChW w0 p w V m) (q:Nat) (a9:q<m.sp.length) (n:Int) (z:En):
  Xp prog 150 #[Xj (Xa ⟨p,0,Xb⟩),Xi #[I6 (q:Int),I6 n],Xi #[I6 z.kind,I6 z.n,Xh z.wr]] w fun e w'=>(∃v,e= Xl v)/\Chg w0 p w V (zal m q n z) w':=by
 obtain⟨s,S⟩:∃s,m.sp[q]? =Xa s:=⟨_,gE a9⟩;obtain⟨ar,N,ah,ai⟩:=a5.sp;obtain⟨x,D⟩:∃x,ar[q]? =Xa x:=⟨_,gE (by rw[ah];exact a9)⟩
 have T:=dD<|ai q x s D S w (qT.refl _ _);obtain⟨b8,G⟩:=kA ar.length;obtain⟨k,be,l⟩:=N.formS (by omega)
 rw[G.out]at l;have bi:(q:Int)< (b8:Int):=by have:=G.out;omega
 have A:=dD l;have aw:=dD a5;have ax:=dD D;have ba:=dD S;have Z:=dD ah;have a0:=dD ai;rw[l]at N;have F:=dD N;have X:Xo (∀W,zc w W->zoz W ⟨k,q*10,Xb⟩ x):=show∀W,_ from fun W a7=>by
  have:=((N.grew a7).one D).sp10;rw[Xz,zA]at this;exact this
 have b9:=dD<|fun W (a7:zc w W)=>zlo x.tab s.tb n z W (T.tb.grew a7)
 have Y:Xo (zal m q n z={ m with sp:=m.sp.set q { s with tb:=zhP s.tb n z } }):=dD<|by unfold zal;rw[Sp.getD_of S]
 rw[Y.out];clear a5 a9 S N ah ai D l;obtain⟨az,d⟩:=kB ((w.alloc (Xk #[I6 (q:Int),I6 n] 214)).alloc (Xk #[I6 z.kind,I6 z.n,Xh z.wr] 75));have au:=gD2 d
 have a2:=x2a d
 have b0:=x2b d
 have a1:=dD d;clear d;have a3:az.cell? ⟨p,10,Xb⟩=Xa (O (Xa ⟨k,0,Xb⟩) b8 be):=by rw[<-A.out];exact(aw.box.box.grew au).c 10 rfl
 have b7:=a2.c 0 rfl
 go_enter func150,ntmps150
 go_upto_region 1 with fail;rw[a1.out];obtain⟨g,U⟩:=kA w.heap.size;rw[U.out]at a2 b0 b7⊢
 go_upto_region 2 with(go_quiet (fail))
 clear a3 b7;obtain⟨j,f⟩:=kB (az.drewN nq);have Q:Xo (zc w j):=dD<|by rw[<-f];exact au.trans (show Below _ _ _ from bD (bR _ _) _)
 have bc:Xo (Box j g [I6 (q:Int),I6 n]):=dD<|by rw[<-f];exact a2.grew (show Below _ _ _ from bD (bR _ _) _)
 have bd:Xo (Box j (g+1) [I6 z.kind,I6 z.n,Xh z.wr]):=dD<|by rw[<-f];exact b0.grew (show Below _ _ _ from bD (bR _ _) _)
 rw[f];clear f;obtain⟨i,h⟩:∃i:Xn->Prop,Xo (∀u,i u↔Box u g [I6 (q:Int),I6 n]/\Box u (g+1) [I6 z.kind,I6 z.n,Xh z.wr]):=⟨fun u=>Box u g [I6 (q:Int),I6 n]/\Box u (g+1) [I6 z.kind,I6 z.n,Xh z.wr],fun _=>Iff.rfl⟩
 have C:i j.drew:=(h _).2 ⟨bc.grew (gW _),bd.grew (gW _)⟩
 have H:zc j j.drew:=show Below _ _ _ from(bR _ _).drew
 have ab:∀y:zh i,y.world.cell? ⟨g,1,Xb⟩=Xa (I6 n):=fun y=>((h _).1 y.holds).1.c 1 rfl
 have ac:∀y:zh i,y.world.cell? ⟨g+1,0,Xb⟩=Xa (I6 z.kind):=fun y=>((h _).1 y.holds).2.c 0 rfl
 have ad:∀y:zh i,y.world.cell? ⟨g+1,1,Xb⟩=Xa (I6 z.n):=fun y=>((h _).1 y.holds).2.c 1 rfl
 have ae:∀y:zh i,y.world.cell? ⟨g+1,2,Xb⟩=Xa (Xh z.wr):=fun y=>((h _).1 y.holds).2.c 2 rfl
 have a8:Nonempty (zh i):=⟨⟨_,C⟩⟩;refine zG (I:=i) 15 [(4,fun v=>v= Xi #[x.t0.x,x.t1.x,x.t2.x,x.t3.x,x.t4.x,x.t5.x,x.t6.x,x.t7.x]),(8,fun v=>∃r:List Xq,v= Xm #[Xi r.toArray,I6 (zhy s.tb n z)]),(14,fun _=>True)] (fun u=>zc j u) C H zY (by kernel_rfl) rfl rfl (by decide) ?hS (by kernel_rfl) ?_
 case hS=>
  intro x D;simp only[mC,nM,or_false]at D
  rcases D with rfl|rfl|rfl
  ·exact⟨_,rfl⟩
  ·exact⟨_,[],rfl⟩
  exact⟨undef,trivial⟩
 simp only[Yr,Ys];iterate 2 refine ze ?_
 refine zJ (.tmp 17) ⟨k,q*10,Xb⟩ rfl rfl rfl rfl ?_;refine Uq ?_;refine ze ?_
 refine zI rfl rfl (fun _ u=>zc j u) (fun w' c b=>?_) (fun b6 L=>?_)
 ·refine zdH 72 (.tmp 19) rfl k (q*10+2) rfl [x.t0.x,x.t1.x,x.t2.x,x.t3.x,x.t4.x,x.t5.x,x.t6.x,x.t7.x] ?_ underlying72 rfl (by kernel_rfl) ⟨c,rfl,b⟩
  have t:=X.out _ (Q.trans b);intro b4 v a;have bj:(w'.cell? ⟨k,q*10+2+b4,Xb⟩)=Xa v:=by
   match b4,a with
   | 0,a=>cases a;exact t.2.2.1
   | 1,a=>cases a;exact t.2.2.2.1
   | 2,a=>cases a;exact t.2.2.2.2.1
   | 3,a=>cases a;exact t.2.2.2.2.2.1
   | 4,a=>cases a;exact t.2.2.2.2.2.2.1
   | 5,a=>cases a;exact t.2.2.2.2.2.2.2.1
   | 6,a=>cases a;exact t.2.2.2.2.2.2.2.2.1
   | 7,a=>cases a;exact t.2.2.2.2.2.2.2.2.2
  exact bj
 cases L;refine Uq ?_;iterate 3 refine ze ?_
 refine zI rfl rfl (fun v u=>∃(r:List Xq) (R:Xn),v= Xm #[Xi r.toArray,I6 (zhy s.tb n z)]/\zc j R/\zc R u/\Ja 0 R.heap.size u r (zhP s.tb n z)) (fun w' c b=>?_) (fun b6 L=>?_)
 ·refine zQ.call [Xi #[x.t0.x,x.t1.x,x.t2.x,x.t3.x,x.t4.x,x.t5.x,x.t6.x,x.t7.x],I6 n,Xi #[I6 z.kind,I6 z.n,Xh z.wr]] rfl func166 rfl rfl rfl ?_;refine(b9 w' (Q.trans b)).mono ?_;rintro e bk ⟨r,rfl,P,a4⟩;obtain⟨af,ag⟩:=(h _).1 c;exact⟨_,rfl,(h _).2 ⟨af.grew a4,ag.grew a4⟩,⟨r,rfl⟩,r,w',rfl,b,a4,P⟩
 obtain⟨r,rfl⟩:=L;refine Uq ?_;iterate 3 refine ze ?_
 refine zJ (.tmp 16) ⟨k,q*10,Xb⟩ rfl rfl rfl rfl ?_;refine Uq ?_;refine ze ?_
 refine zI rfl rfl (fun _ u=>Chg w0 p w V { m with sp:=m.sp.set q { s with tb:=zhP s.tb n z } } u) (fun w' c b=>?_) (fun b6 L=>?_)
 ·obtain⟨aq,R,bg,b1,bf,b5⟩:=b;have aa:aq=r:=by simpa using bg.symm
  subst aa;obtain⟨aj,ak,P,al,am,an,ao,ap,rfl⟩:=b5.form;have av:=(Q.trans b1).trans bf;refine zcu (E:=Qz) (.tmp 28) (.tmp 25) 72 rfl w0.heap.size _ ar (F.grew av) k q 2 rfl x ⟨x.live,x.ar,aj,ak,P,al,am,an,ao,ap⟩ ax.out [aj.v,ak.v,P.v,al.v,am.v,an.v,ao.v,ap.v] (by kernel_rfl) rfl (by show 2+8<=10;omega) ?_ ⟨k,q*10+2,Xb⟩ rfl rfl (Xi #[aj.v,ak.v,P.v,al.v,am.v,an.v,ao.v,ap.v]) rfl rfl ?_
  ·intro u b3;simp only[mC,nM,or_false]at b3
   rcases b3 with rfl|rfl|rfl|rfl|rfl|rfl|rfl|rfl <;> rfl
  intro bb M B _;rw[<-A.out]at M;obtain⟨af,ag⟩:=(h _).1 c;have bh:=F.lt k rfl;refine⟨(h _).2 ⟨af.grown B (by have:=U.out;omega),ag.grown B (by have:=U.out;omega)⟩,trivial,aw.setT Z a0 ax ba (by have b2:=A.out;(try simp only[Sli.x]at b2);unfold oB;rw[b2];rfl) av (b5.less (nR _) (nT (bS Q) (bS b1))) B M ⟨rfl,rfl,rfl⟩⟩
 clear L;try simp only[Xx]
 refine qe fun bb a6 K=>?_
 have ay:=dD K;clear a6 K C H ab ac ad ae a8;go_wp2
 (first | go_end0 | ((try simp only[Exit.inBlock,Exit.then]);refine bodyPost_ret (results_none rfl _ _ _) rfl ?_))
 first | exact ay.out | exact⟨⟨_,rfl⟩,ay⟩
theorem ChW.off {w:Xn} {p:Nat} (h:ChW w0 p w V m) {g:Nat} {cs:Array Xq} (c:w.heap[g]? =Xa (Xk cs t (0,0))) (t1:91≠t) (t2:JR.ty≠t) (f:qS.ty≠t) (i:Qz.ty≠t):¬Dw p V g:=by
 have a:∀{d:Type} {E:Elt d} {b:Nat} {v:Xq} {l:List d},zb E b w v l->E.ty≠t->v.ownBlock≠Xa g:=fun r d e=>by
  obtain⟨b,b⟩:=r.obj e;rw[b]at c;cases c;exact d rfl
 rintro(e|e|e|e)
 ·subst e;have b:w.heap[g]? =_:=h.box;rw[b]at c;cases c;exact t1 rfl
 ·exact a h.fs t2 e
 ·exact a h.ca f e
 obtain⟨b,b,_⟩:=h.sp;exact a b i e
theorem ChW.offB {w:Xn} {p:Nat} {cs:List Xq} (h:ChW w0 p w V m) (a:zx w b t cs) (t1:91≠t) (t2:JR.ty≠t) (c:qS.ty≠t) (d:Qz.ty≠t):¬Dw p V b:=h.off (show w.heap[b]? =_ from a) t1 t2 c d
theorem ChW.offR {w:Xn} {p:Nat} {α:Type} {E:Elt α} {base:Nat} {v:Xq} {l:List α} (h:ChW w0 p w V m) (r:zb E base w v l) (t1:91≠E.ty) (t2:JR.ty≠E.ty) (c:qS.ty≠E.ty) (d:Qz.ty≠E.ty):∀g,v.ownBlock=Xa g->¬Dw p V g:=fun g b=>by
 obtain⟨a,a⟩:=r.obj b;exact h.off a t1 t2 c d
theorem zb.chg {w:Xn} {p:Nat} {α:Type} {E:Elt α} {base:Nat} {v:Xq} {l:List α} (r:zb E base w v l) (o:qT (Dw p V) w w1) (a:∀g,v.ownBlock=Xa g->¬Dw p V g):zb E base w1 v l:=⟨zc9 r.1 o a,r.2⟩
def Jj (m:Ma) (e:En) (l:List (Nat × Nat)):Ma:=l.foldl (fun m x=>zal m x.1 (x.2:Int) e) m
theorem zin (m e) (l:List (Nat × Nat)) (x:Nat × Nat):Jj m e (l++ [x])=zal (Jj m e l) x.1 (x.2:Int) e:=by simp[Jj]
theorem za3 (e):∀(l:List (Nat × Nat)) (m:Ma),(Jj m e l).sp.length=m.sp.length/\(Jj m e l).fs=m.fs/\(Jj m e l).hand=m.hand
 | [],_=>⟨rfl,rfl,rfl⟩
 | x :: l,m=>by
  have h:=za3 e l (zal m x.1 (x.2:Int) e);exact⟨h.1.trans (zkD _ _ _ _),h.2⟩
def zaK (m:Ma) (k:Nat) (r:Int) (e:En):Ma:={ Jj m e (ZA m 1 (k:Int) m.sp.length)with fs:=zfE m.fs m.hand (k:Int) (-r),hand:=m.hand }
theorem zdK {w:Xn} {p:Nat} (h:ChW w0 p w V m) (k:Nat) (fr:Fr) (f:m.fs[k]? =Xa fr) (z:En) (a:m.sp.length<=4) (d:0<=fr.r/\fr.r<=1000) (b:zgT m.fs m.hand (k:Int) (-fr.r)=0):
  Xp prog 129 #[Xj (Xa ⟨p,0,Xb⟩),I6 (k:Int),Xi #[I6 z.kind,I6 z.n,Xh z.wr]] w fun e w'=>(∃v,e= Xl v)/\Chg w0 p w V (zaK m k fr.r z) w':=by
 have l:=dD h;have H:=dD f;have X:=dD b;have u:=dD d;have c:=dD a;clear h f a b d;obtain⟨j,a⟩:=kB (w.alloc (Xk #[I6 z.kind,I6 z.n,Xh z.wr] 75));have g:=gA a
 obtain⟨C,h⟩:=kA w.heap.size;have s:=xPT a h
 have d:=dD a;clear a;have a:=zfO (l.grew g) 1 (k:Int) c.out;obtain⟨L,F⟩:=kA (ZA m 1 (k:Int) m.sp.length);rw[F.out]at a;have b:Xo (L.length<=256):=show _<=_ by
  rw[<-F.out];have G:=zdr m 1 (k:Int) m.sp.length;have q:=c.out;omega
 have q:Xo (∀D∈L,D.1<m.sp.length):=dD<|fun D c=>by
  rw[<-F.out]at c;exact((zdq (by decide) (nR _)).1 c).1
 go_enter func129,ntmps129
 go_upto_region 1 with fail;rw[d.out,h.out];go_wp2_with fail;refine a.mono ?_;clear a;rintro e a ⟨v,rfl,a,A⟩;obtain⟨t,U,rfl⟩:=a.form;obtain⟨h,d⟩:=kA L.length;rw[d.out]at a b⊢;have r:h<=256:=b.out;obtain⟨N,b⟩:=kA j.heap.size;rw[b.out]at a;have r:=dD a;have b:=dD (g.trans A);have g:=dD (s.grew A);clear a A;go_wp2
 go_loopg [12] h (fun s a wr=>∃(j:Nat) (B:MaV),j<=h/\h - j<=s/\a=I6 j/\Xo (ChW w0 p wr B (Jj m z (L.take j)))/\Xo (qT (Dw p V) w wr)/\Xo (∀k,Dw p B k->Dw p V k\/w.heap.size<=k)/\Xo (zb zfc N wr (O t h U) L)/\Xo (zx wr C 75 [I6 z.kind,I6 z.n,Xh z.wr]))
 case atStart=>exact⟨0,V,nZ _,by omega,rfl,l.grew b,qT.grew b,fun k f=> .inl f,r,g⟩
 obtain⟨j,B,y,a,rfl,f,Q,P,t,T⟩:=hrel
 by_cases l:j<h
 ·have s:=kC l
  obtain⟨⟨E,n⟩,c⟩:∃D,L[j]? =Xa D:=⟨_,gE (by rw[d.out];exact l)⟩
  obtain⟨g,Y,b⟩:=t.formS (by rw[d.out];omega)
  simp only[vJ]at b;obtain⟨rfl,-,-⟩:=b;have a:=t.one c;have r:wr.cell? ⟨g,j*2,Xb⟩=Xa (I6 (E:Int)):=by
   have:=a 0 _ rfl;rw[Xz,Xz,zA,Yj]at this;exact this
  have M:wr.cell? ⟨g,j*2+1,Xb⟩=Xa (I6 (n:Int)):=by
   have:=a 1 _ rfl;rw[Xz,Xz,zA]at this;exact this
  have S:=dD<|q.out _ (mG c);have K:Xo (L.take (j+1)=L.take j++ [(E,n)]):=show _=_ by rw[Yx,c];rfl
  clear a c;go_upto_region 4 with fail;clear r M;obtain⟨a,r⟩:=kA wr.heap.size;obtain⟨a,a⟩:=kB (wr.alloc (Xk #[I6 (E:Int),I6 (n:Int)] 214));have q:=gA a
  have R:=xPT a r
  have M:=dD (T.grew q);rw[a,r.out];clear a;have r:=dD (f.grew q);have a:=zir r E (by rw[(za3 z _ m).1];exact S) (n:Int) z
  have E:=R.box.c 0 rfl;have S:=R.box.c 1 rfl;obtain⟨R,T,W⟩:=M.box.c3;go_wp2_with fail;refine a.mono ?_;clear a E S R T W;rintro e E ⟨⟨a,rfl⟩,R,T,a,S⟩;have W:Xo (ChW w0 p E R (Jj m z (L.take (j+1)))):=dD<|by rw[K.out,zin];exact T
  have K:=Chg.step (w0:=w0) (m':=Jj m z (L.take (j+1))) Q P (Chg.of_grew q ⟨R,W,a,S⟩);have R:Xo (zb zfc N E (O (Xa ⟨g,0,Xb⟩) h U) L):=(t.grew q).chg a (r.offR (t.grew q) (by decide) (by decide) (by decide) (by decide))
  have W:Xo (zx E C 75 [I6 z.kind,I6 z.n,Xh z.wr]):=M.outD a (r.offB M (by decide) (by decide) (by decide) (by decide))
  obtain⟨U,r,t,q⟩:=K;have K:=dD r;have M:=dD t;have E:=dD q
  clear T a S r t q;go_wp2
  go_roundg (h -(j+1))
  case measure=>omega
  exact⟨j+1,U,by omega,by omega,by go_num,K,M,E,R,W⟩
 have s:=kD l
 have a:Xo (L.take j=L):=dD<|Yd (by rw[d.out];omega)
 rw[a.out]at f;obtain⟨K,l⟩:=kA (Jj m z L);rw[l.out]at f;have a:Xo (K.fs=m.fs/\K.hand=m.hand):=dD<|by rw[<-l.out];exact(za3 z L m).2
 obtain⟨g,Y,b⟩:=f.fs.formS (by rw[a.1];have:=(gS.1 H).1;omega)
 obtain⟨⟨d,t,q⟩,d,d,d,d,d,d,d,d⟩:=B;simp only[vJ]at b;obtain⟨rfl,d,-⟩:=b;have b:(k:Int)< (t:Int):=by
  have G:=(gS.1 H).1;rw[d,a.1];omega
 have b:Xo (∀W,zc wr W->W.cell? ⟨g,k*13+8,Xb⟩=Xa (I6 fr.r)):=dD<|fun W h=>by
  have:=(f.fs.grew h).one (i:=k) (x:=fr) (by rw[a.1];exact H) 8 _ rfl
  rw[Xz,Xz,zA]at this;exact this
 have M:Xo (∀W,zc wr W->Xp prog 151 #[Xi #[O (Xa ⟨g,0,Xb⟩) t q,I6 m.hand],I6 (k:Int),I6 (-fr.r)] W fun e w'=>∃s:Sli,e= Xl (Xm #[Xi #[s.x,I6 m.hand],I6 0])/\zb JR W.heap.size w' (s.x) (zfE m.fs m.hand (k:Int) (-fr.r))/\zc W w'):=dD<|fun W h=>by
  have r:=(f.at.grew h).fs;rw[a.1]at r d;rw[d]at r⊢;refine(znZ (Xa ⟨g,0,Xb⟩) q m.fs m.hand (k:Int) (-fr.r) W r X).mono ?_;rintro e w' ⟨C,rfl,r,g⟩;have h:zb JR W.heap.size w' C (zfE m.fs m.hand (k:Int) (-fr.r)):=r;obtain⟨B,C,rfl⟩:=h.form;exact⟨⟨B,_,C⟩,rfl,r,g⟩
 have h:=dD f.box;have H:=dD a.2;clear d;obtain⟨r,B⟩:=kA fr.r;rw[B.out]at b M u;obtain⟨a,a⟩:=u.out;go_upto_region 6 with fail;obtain⟨a,E⟩:∃a:Xn->Prop,Xo (∀u,a u↔u.cell? ⟨g,k*13+8,Xb⟩=Xa (I6 r)):=⟨fun u=>u.cell? ⟨g,k*13+8,Xb⟩=Xa (I6 r),fun _=>Iff.rfl⟩
 have L:zc wr wr.drew:=show Below _ _ _ from(bR _ _).drew
 have d:=(E _).2 (b _ L);have C:zc wr wr.drew:=L;have R:∀L:zh a,L.world.cell? ⟨g,k*13+8,Xb⟩=Xa (I6 r):=fun L=>(E _).1 L.holds
 have L:Nonempty (zh a):=⟨⟨_,d⟩⟩;refine QR (I:=a) 26 [(18,fun v=>∃s:Sli,v= Xm #[Xi #[s.x,I6 m.hand],I6 0]),(25,fun _=>True)] [5,12] (fun u=>zc wr u) d C zY (by kernel_rfl) rfl rfl (by decide) ?hS (by kernel_rfl) (by kernel_rfl) ?_
 case hS=>
  intro D c;simp only[mC,nM,or_false]at c
  rcases c with rfl|rfl
  ·exact⟨_,zK,rfl⟩
  exact⟨undef,trivial⟩
 simp only[Yr,Ys];iterate 2 refine qD ?_
 refine Jh (.tmp 23) ⟨p,0,Xb⟩ rfl rfl rfl rfl ?_;refine Uq ?_;iterate 2 refine qD ?_
 refine zbu rfl rfl rfl (Xi #[O (Xa ⟨g,0,Xb⟩) t q,I6 m.hand]) (fun w' _ a=>?_) ?_
 ·exact zlr 28 (.tmp 26) rfl p 0 rfl [O (Xa ⟨g,0,Xb⟩) t q,I6 m.hand] ((h.box.grew a).mid 0 (fun j v y=>by
   match j,y with
   | 0,y=>exact y
   | 1,y=>rw[<-H.out]at y;exact y)) underlying28 rfl (by kernel_rfl)
 refine Uq ?_;iterate 2 refine qD ?_
 refine Jh (.tmp 29) ⟨p,0,Xb⟩ rfl rfl rfl rfl ?_;refine Uq ?_;iterate 3 refine qD ?_
 refine zbu rfl rfl rfl (O (Xa ⟨g,0,Xb⟩) t q) (fun w' _ a=>?_) ?_
 ·exact zel 26 (.tmp 33) rfl p 0 rfl (O (Xa ⟨g,0,Xb⟩) t q) ((h.box.grew a).c 0 rfl) underlying26 rfl
 refine Uq ?_;iterate 5 refine qD ?_
 refine zaa rfl rfl (fun v u=>∃(s:Sli) (c:Xn),v= Xm #[Xi #[s.x,I6 m.hand],I6 0]/\zc wr c/\zc c u/\zb JR c.heap.size u (s.x) (zfE m.fs m.hand (k:Int) (-r))) (fun w' j a=>?_) (fun D y=>?_)
 ·refine zQ.call [Xi #[O (Xa ⟨g,0,Xb⟩) t q,I6 m.hand],I6 (k:Int),I6 (-r)] rfl func151 rfl rfl rfl ?_;refine(M w' a).mono ?_;rintro e q ⟨s,rfl,q,A⟩;exact⟨_,rfl,(E _).2 (b _ (a.trans A)),⟨s,rfl⟩,s,w',rfl,a,A,q⟩
 obtain⟨s,rfl⟩:=y;refine Uq ?_;iterate 3 refine qD ?_
 refine Jh (.tmp 22) ⟨p,0,Xb⟩ rfl rfl rfl rfl ?_;refine Uq ?_;iterate 2 refine qD ?_
 refine zaa rfl rfl (fun _ u=>Chg w0 p w V (zaK m k r z) u) (fun w' j a=>?_) (fun D y=>?_)
 ·obtain⟨j,c,c,t,q,u⟩:=a;have a:j=s:=by
   obtain⟨A,A,A⟩:=s;obtain⟨N,s,s⟩:=j;simp only[Value.tuple.injEq,Array.mk.injEq,List.cons.injEq,Value.agg.injEq,vJ,and_true]at c;obtain⟨rfl,rfl,rfl⟩:=c;rfl
  subst a;have c:=t.trans q;refine QG 28 (.tmp 45) (.tmp 41) rfl p 0 rfl (Xi #[j.x,I6 m.hand]) rfl [j.x,I6 m.hand] rfl (h.grew c) (by simp[chL]) (by kernel_rfl) (by simp[Value.oneCell']) ?_
  intro q h a _;have j:=f.nf g rfl;refine⟨(E _).2 ?_,trivial,?_⟩
  ·have G:=b.out _ c;have b:=World.block_lt_of_cell? _ _ G;rw[World.cell?_of_block (w:=w') (a.block g b (fun e=>by cases e;exact j rfl))]
   exact G
  have b:zaK m k r z={ K with fs:=zfE m.fs m.hand (k:Int) (-r),hand:=m.hand }:=by
   unfold zaK;rw[F.out,l.out]
  rw[b];exact Chg.step Q P (f.setF c (u.base (bS t)) a h)
 clear y;try simp only[Xx]
 refine zaz fun q b a=>?_
 have c:Xo (Chg w0 p w V (zaK m k fr.r z) q):=dD<|by rw[B.out];exact a
 clear b a d C R L;go_wp2
 (first | go_end0 | ((try simp only[Exit.inBlock,Exit.then]);refine bodyPost_ret (results_none rfl _ _ _) rfl ?_))
 first | exact c.out | exact⟨⟨_,rfl⟩,c⟩
theorem zgC:∀(m:Nat) (fs:List Fr) (h:Nat),h<fs.length->(∀q∈fs,q=frF)->jR m fs h=(fs,(h+m) % fs.length,-1)
 | 0,fs,h,a,_=>by
  rw[jR,Yj,Yb a]
 | m+1,fs,h,a,b=>by
  have d:fs.getD h fr0=frF:=by
   rw[gD,gE a];exact b _ (Oa a)
  have e:fs.set h (frU frF)=fs:=by
   apply Yf
   intro j
   by_cases c:j=h
   ·subst c;rw[sF a,gE a,b _ (Oa a)];rfl
   rw[sN (Ne.symm c)]
  rw[jR,d,show zjj frF=Xd from rfl,e]
  rw[kF (by decide),zgC m fs ((h+1) % fs.length) (Yk _ (by omega)) b]
  rw[Yo,Nat.add_assoc,Nat.add_comm 1 m]
theorem zmg {q:Fr} (a:frW q=0) (c:q.r=0):q=frF:=by
 unfold frW at a
 by_cases b:(inB q.r 1001 && inB q.x 12)=Xd
 ·rw[kE b]at a;omega
 rw[kF b]at a
 by_cases b:(!(q.f == -1) && !inB q.f 5)=Xc
 ·rw[kE b]at a;omega
 rw[kF b]at a
 by_cases b:(q.r == 0 && !QO q frF || q.f == -1 && !(q.x == 0))=Xc
 ·rw[kE b]at a;omega
 simp[c]at b
 exact zcF b.1
def zfV (q:Fr):Bool:=decide (0<q.r)
theorem zj2 {fs:List Fr} {h:Int} (a:Qa fs h=0) (e:fs.any zfV=Xd):QL fs h=(fs,h.toNat,-1):=by
 obtain⟨b,c,b,b⟩:=Zj a;have a:∀q∈fs,q=frF:=fun q b=>by
  have d:=Oo.1 e q b;unfold zfV at d;have e:=(zbA (c q b)).1;exact zmg (c q b) (by simp at d;omega)
 unfold QL
 by_cases b:fs.length=0
 ·rw[b];rfl
 rw[zgC _ fs h.toNat (by omega) a,Nat.add_comm,Nat.two_mul,Nat.add_assoc,Nat.add_mod_left,Nat.add_mod_left,Yb (by omega)]
def zas (fs gs:List Fr):Prop:=gs.length=fs.length/\∀(i:Nat) q,fs[i]? =Xa q->∃q',gs[i]? =Xa q'/\(q'=q\/q'=frU q)
theorem zas.refl (fs):zas fs fs:=⟨rfl,fun _ q h=>⟨q,h,.inl rfl⟩⟩
theorem zas.set {fs a:List Fr} (h:zas fs a) (i:Nat):zas fs (a.set i (frU (a.getD i fr0))):=by
 refine⟨by rw[Yp];exact h.1,fun j q d=>?_⟩
 obtain⟨c,a,b⟩:=h.2 j q d
 by_cases e:j=i
 ·subst e;have d:=(gS.1 a).1;refine⟨frU c,?_,?_⟩
  ·rw[sF d,gD,a];rfl
  right
  rcases b with rfl|rfl <;> rfl
 exact⟨c,by rw[sN (Ne.symm e)];exact a,b⟩
theorem Jy:∀(m:Nat) (fs b:List Fr) (h:Nat),zas fs b->h<b.length->∀(a:List Fr) (c:Nat) (r:Int),jR m b h=(a,c,r)->zas fs a/\c<a.length/\(r=-1\/∃(k:Nat) (q:Fr),r=(k:Int)/\fs[k]? =Xa q/\0<q.r/\a[k]? =Xa (frU q)/\c=(k+1) % fs.length)
 | 0,fs,b,h,f,l,a,c,r,e=>by
  rw[jR]at e;cases e;exact⟨f,l,.inl rfl⟩
 | m+1,fs,b,h,f,l,a,c,r,e=>by
  rw[jR]at e;have j:=f.set h;have i:(h+1) % b.length< (b.set h (frU (b.getD h fr0))).length:=by
   rw[Yp];exact Yk _ (by omega)
  by_cases d:zjj (b.getD h fr0)=Xc
  ·rw[kE d]at e;cases e;refine⟨j,i,.inr ?_⟩;have g:h<fs.length:=by rw[<-f.1];exact l
   obtain⟨s,t,n⟩:=f.2 h fs[h] (gE g);have p:b.getD h fr0=s:=by rw[gD,t];rfl
   rw[p]at d;have b:0<s.r:=by unfold zjj at d;simp at d;exact d.1
   refine⟨h,fs[h],rfl,gE g,?_,?_,by rw[f.1]⟩
   ·rcases n with rfl|rfl
    ·exact b
    exact b
   rw[sF l,p]
   rcases n with rfl|rfl <;> rfl
  rw[kF d]at e;exact Jy m fs _ _ j i a c r e
theorem zkm {fs:List Fr} (b:∀q∈fs,0<=q.r):fs.countP zfV+za1 fs=fs.length:=by
 induction fs with
 | nil=>rfl
 | cons a l d=>
  have c:=d fun q d=>b q (by simp[d])
  have d:=b a (by simp)
  unfold za1 at c⊢;rw[Ya,Ya,Yz]
  by_cases b:a.r=0
  ·rw[kF (by unfold zfV;simp;omega),kE (by simp[b])]
   omega
  rw[kE (by unfold zfV;simp;omega),kF (by simp[b])]
  omega
theorem zes:∀(d m:Nat) (a:List Fr) (h:Nat),h<a.length->d<m->zfV (a.getD ((h+d) % a.length) fr0)=Xc->(a.getD ((h+d) % a.length) fr0).u=Xd->(jR m a h).2.2≠-1
 | d,0,_,_,_,l,_,_=>by omega
 | d,m+1,a,h,f,l,b,j=>by
  rw[jR]
  by_cases hi:zjj (a.getD h fr0)=Xc
  ·rw[kE hi];simp only;omega
  rw[kF hi]
  cases d with
  | zero=>
   rw[Yj,Yb f]at b j;unfold zjj at hi;unfold zfV at b;rw[b,j]at hi;exact absurd rfl hi
  | succ d=>
   have g:(a.set h (frU (a.getD h fr0))).length=a.length:=Yp;have c:∀i,(a.set h (frU (a.getD h fr0))).getD i fr0=if i=h/\h<a.length then frU (a.getD h fr0)else a.getD i fr0:=fun i=>by
    rw[gD]
    by_cases e:i=h
    ·subst e;rw[kE ⟨rfl,f⟩,sF f];rfl
    rw[kF (by omega),sN (Ne.symm e),<-gD]
   have k:((h+1) % a.length+d) % a.length=(h+(d+1)) % a.length:=by rw[Yo,show h+1+d=h+(d+1) by omega]
   refine zes d m _ _ (by rw[g];exact Yk _ (by omega)) (by omega) ?_ ?_
   ·rw[g,k,c]
    split
    ·rename_i e
     rw[e.1]at b;exact b
    exact b
   rw[g,k,c]
   split
   ·rfl
   exact j
theorem zde:∀(d m:Nat) (a:List Fr) (h:Nat),h<a.length->d+a.length<m->zfV (a.getD ((h+d) % a.length) fr0)=Xc->(jR m a h).2.2≠-1
 | d,0,_,_,_,k,_=>by omega
 | d,m+1,a,h,c,k,f=>by
  rw[jR]
  by_cases hi:zjj (a.getD h fr0)=Xc
  ·rw[kE hi];simp only;omega
  rw[kF hi];have e:(a.set h (frU (a.getD h fr0))).length=a.length:=Yp;have b:∀i,(a.set h (frU (a.getD h fr0))).getD i fr0=if i=h/\h<a.length then frU (a.getD h fr0)else a.getD i fr0:=fun i=>by
   rw[gD]
   by_cases g:i=h
   ·subst g;rw[kE ⟨rfl,c⟩,sF c];rfl
   rw[kF (by omega),sN (Ne.symm g),<-gD]
  cases d with
  | zero=>
   rw[Yj,Yb c]at f;have j:((h+1) % a.length+(a.length - 1)) % a.length=h:=by
    rw[Yo,show h+1+(a.length - 1)=h+a.length by omega,Nat.add_mod_right,Yb c]
   refine zes (a.length - 1) m _ _ (by rw[e];exact Yk _ (by omega)) (by omega) ?_ ?_
   ·rw[e,j,b,kE ⟨rfl,c⟩];exact f
   rw[e,j,b,kE ⟨rfl,c⟩];rfl
  | succ d=>
   have j:((h+1) % a.length+d) % a.length=(h+(d+1)) % a.length:=by rw[Yo,show h+1+d=h+(d+1) by omega]
   refine zde d m _ _ (by rw[e];exact Yk _ (by omega)) (by rw[e];omega) ?_
   rw[e,j,b]
   split
   ·rename_i g
    rw[g.1]at f;exact f
   exact f
theorem zj1 {fs:List Fr} {h:Int} (a:Qa fs h=0):
  (JV fs h=-1/\za1 fs=fs.length)\/∃(k:Nat) (q:Fr),JV fs h=(k:Int)/\fs[k]? =Xa q/\0<q.r/\zas fs (zaE fs h)/\(zaE fs h)[k]? =Xa (frU q)/\zbV fs h=(((k+1) % fs.length:Nat):Int):=by
 obtain⟨b,b,c,c⟩:=Zj a;have n:JV fs h=(QL fs h).2.2:=kE a;have m:zaE fs h=(QL fs h).1:=kE a;have s:zbV fs h=((QL fs h).2.1:Int):=kE a
 cases c:fs.any zfV with
 | false=>
  left;rw[n,zj2 a c];refine⟨rfl,?_⟩;have a:=zkm (fs:=fs) (fun q j=>(zbA (b q j)).1)
  have a:fs.countP zfV=0:=by
   rw[List.countP_eq_zero];intro a b;have:=Oo.1 c a b
   simpa using this
  omega
 | true=>
  right;obtain⟨a,a,l⟩:=Xv.1 c;obtain⟨i,p⟩:=Xs a;have f:=(gS.1 p).1;have c:h.toNat<fs.length:=by omega
  obtain⟨b,d,r,e⟩:∃b d r,jR (2*fs.length) fs h.toNat=(b,d,r):=⟨_,_,_,rfl⟩;have g:r≠-1:=by
   have a:=zde ((i+fs.length - h.toNat) % fs.length) (2*fs.length) fs h.toNat c (by have:=Yk (i+fs.length - h.toNat) (show 0<fs.length by omega);omega) (by
    rw[Nat.add_mod_mod,show h.toNat+(i+fs.length - h.toNat)=i+fs.length by omega,Nat.add_mod_right,Yb f,gD,p]
    exact l)
   rw[e]at a;exact a
  obtain⟨f,a,a⟩:=Jy (2*fs.length) fs fs h.toNat (zas.refl fs) c b d r e
  rcases a with a|⟨k,q,rfl,j,c,b,rfl⟩
  ·exact absurd a g
  refine⟨k,q,?_,j,c,?_,?_,?_⟩
  ·rw[n];unfold QL;rw[e]
  ·rw[m];unfold QL;rw[e];exact f
  ·rw[m];unfold QL;rw[e];exact b
  rw[s];unfold QL;rw[e]
theorem zeL {e:En} (a:enW e=0):∀(l:List (Nat × Nat)) {m:Ma},(∀s∈m.sp,zca s.tb)->(∀x∈l,x.1<m.sp.length/\x.2<64)->Jj m e l=ZH m e l
 | [],m,_,_=>rfl
 | x :: l,m,ht,b=>by
  obtain⟨c,d⟩:=b x (Ye ..)
  show Jj (zal m x.1 (x.2:Int) e) e l=ZH (zfh m x.1 x.2 e) e l
  rw[zmw ht c d a];exact zeL a l (zi6 ht a) (fun y a=>by rw[zhX];exact b y (List.mem_cons_of_mem _ a))
theorem zgs {e:En}:∀(l:List (Nat × Nat)) {m m0:Ma},m.sp=m0.sp->(ZH m e l).sp=(ZH m0 e l).sp
 | [],_,_,h=>h
 | x :: l,m,m0,h=>zgs l (m:=zfh m x.1 x.2 e) (m0:=zfh m0 x.1 x.2 e) (by unfold zfh;simp only;rw[h])
theorem zbx (h:Rt m) {k:Nat} {fr:Fr} (b:m.fs[k]? =Xa fr) (d:fr.r≠0):0<=fr.r/\fr.r<=1000/\zgT m.fs m.hand (k:Int) (-fr.r)=0:=by
 obtain⟨a,c⟩:=zbA ((Zj h.parts.1).2.1 fr (mG b));refine⟨a,c,?_⟩;have a:m.fs.getD k fr0=fr:=by rw[gD,b];rfl
 have c:=(gS.1 b).1;unfold zgT;rw[kE h.parts.1,tN,a];have a:(inB (k:Int) m.fs.length && !(fr.r == 0))=Xc:=by
  simp[inB,d]
  omega
 rw[a,kE rfl,kE (by omega)]
theorem zjh {m0:Ma} (h:Rt m0) (b:m.sp=m0.sp) (i:m.fs=m0.fs) (n:m.hand=m0.hand) {k:Nat} {fr:Fr} (j:m0.fs[k]? =Xa fr) (a:fr.r≠0) {e:En} (g:enW e=0):
  zaK m k fr.r e={ m with fs:=m.fs.set k frF,sp:=m.sp.map (ZI (k:Int) e) }:=by
 obtain⟨_,_,f⟩:=zbx h j a;have p:∀s∈m.sp,zca s.tb:=fun s a=>h.tb (by rw[<-b];exact a)
 have c:ZA m 1 (k:Int) m.sp.length=ZA m0 1 (k:Int) m0.sp.length:=by unfold ZA;rw[b]
 have a:∀x∈ZA m0 1 (k:Int) m0.sp.length,x.1<m.sp.length/\x.2<64:=fun x q=>by
  obtain⟨d,l,_⟩:=(zdq (m:=m0) (by decide) (nR _)).1 q
  exact⟨by rw[b];exact d,l⟩
 have d:(ZH m e (ZA m0 1 (k:Int) m0.sp.length)).sp=m.sp.map (ZI (k:Int) e):=by
  rw[zgs _ b,znU h g,b]
 have b:m0.fs.getD k fr0=fr:=by rw[gD,j];rfl
 unfold zaK;rw[c,zeL g _ p a,zc4];rw[<-i,<-n]at f;unfold zfE;rw[kE f,tN,i,b,d];have:frH fr (-fr.r)=frF:=by unfold frH;rw[kE (by omega)]
 rw[this]
def J3 (k:Nat) (fr:Fr) (l:List (Nat × Nat)) (q:Nat) (s:Sp) (a:Ar) (n:Nat):Bool:=decide ((qm a n).file=fr.f) && decide ((qm a n).page=fr.x) && !(l.contains (q,n)) &&(decide ((zo s n).kind=0) || isE (zo s n) 1 (k:Int))
def zgk (m:Ma) (k:Nat) (fr:Fr) (l:List (Nat × Nat)):Bool:=(Xy m.sp.length).any fun q=>(m.sp.getD q ⟨Xd,[],[]⟩).ars.any fun a=>(Xy 64).any fun n=>ZF a n && J3 k fr l q (m.sp.getD q ⟨Xd,[],[]⟩) a n
theorem zbe {k:Nat} {fr:Fr} {l:List (Nat × Nat)} {q:Nat} {s:Sp} {a:Ar} {n:Nat}:J3 k fr l q s a n=Xc↔ziO k fr l q s a n:=by
 unfold J3 ziO
 simp[and_assoc]
theorem zcY {k:Nat} {fr:Fr} {l:List (Nat × Nat)}:zgk m k fr l=Xc↔∃(q:Nat) (s:Sp) (i:Nat) (a:Ar) (n:Nat),m.sp[q]? =Xa s/\s.ars[i]? =Xa a/\ZF a n=Xc/\n<64/\ziO k fr l q s a n:=by
 unfold zgk;constructor
 ·intro h;obtain⟨q,d,h⟩:=Xv.1 h;obtain⟨a,b,h⟩:=Xv.1 h;obtain⟨n,e,h⟩:=Xv.1 h;obtain⟨i,c⟩:=Xs b;have b:=Xu.1 d;have d:=gE b;rw[Sp.getD_of d]at c h;rw[Yl]at h;exact⟨q,_,i,a,n,d,c,h.1,Xu.1 e,zbe.1 h.2⟩
 rintro⟨q,s,i,a,n,b,c,d,e,f⟩;refine Xv.2 ⟨q,Xu.2 (gS.1 b).1,?_⟩;rw[Sp.getD_of b];refine Xv.2 ⟨a,mG c,Xv.2 ⟨n,Xu.2 e,?_⟩⟩;rw[Yl];exact⟨d,zbe.2 f⟩
def zcH (m:Ma) (fr:Fr):List Int:=Zb (pgL fr.p) fr.x (ZG m fr.f)
def JU (m:Ma):Nat:=m.sl.findIdx isZ
def zaS (m:Ma) (k:Nat) (fr:Fr):Bool × Ma:=if JU m<m.sl.length then(Xc,Qe m k (JU m) fr.r (qG m.sb m.sq) (qp m.sq (JU m:Int) (pgL fr.p)))else(Xd,m)
def zdI (m:Ma) (k:Nat) (fr:Fr) (l:List (Nat × Nat)):Bool × Ma:=
 if zcH m fr≠pgL fr.p/\zgk m k fr l=Xc then(Xd,m)
 else if fr.d=Xc\/Zh m fr.f fr.x≠zcH m fr then
  (if Qu m.fl m.cnt fr.f fr.x=0 then(Xc,qd (wrM m (zcH m fr) fr.f fr.x) k)else if Zh m fr.f fr.x=zcH m fr then(Xc,qd m k)else(Xd,m))
 else(Xc,qd m k)
def jT (m:Ma) (k:Nat) (fr:Fr) (l:List (Nat × Nat)):Bool × Ma:=if fr.f=-1 then zaS m k fr else zdI m k fr l
def freeGo:Nat->Ma->List (Nat × Nat)->Bool × Ma
 | 0,m,_=>(Xd,m)
 | n+1,m,l=>
  if JV m.fs m.hand<0 then(Xd,Zu m)
  else if(jT (Zu m) (JV m.fs m.hand).toNat (zW (Zu m) (JV m.fs m.hand)) l).1=Xc then jT (Zu m) (JV m.fs m.hand).toNat (zW (Zu m) (JV m.fs m.hand)) l
  else freeGo n (Zu m) l
def zcs (m:Ma) (l:List (Nat × Nat)):Bool × Ma:=freeGo (2*m.fs.length) m l
section
variable{m:Ma} {k:Nat} {fr:Fr}
theorem Rt.frw (h:Rt m) (a:m.fs[k]? =Xa fr):frW fr=0:=(Zj h.parts.1).2.1 fr (mG a)
theorem zj9 (S:Nat->Nat->Prop) (l:Rt m) {a:List Fr} (j:zas m.fs a):QQ S m { m with fs:=a }:=by
 have k:∀i,i<=m.fs.length->QQ S m { m with fs:=a.take i++m.fs.drop i }:=by
  intro i
  induction i with
  | zero=>
   intro _;have:a.take 0++m.fs.drop 0=m.fs:=by simp
   rw[this];exact QQ.refl l
  | succ i b=>
   intro c;have g:=b (by omega)
   obtain⟨q,e⟩:∃q,m.fs[i]? =Xa q:=⟨_,gE (by omega)⟩
   obtain⟨c,h,n⟩:=j.2 i q e;have b:=j.1;have b:(a.take i).length=i:=by rw[Xw];omega
   have f:(a.take i++m.fs.drop i)[i]? =Xa q:=by
    rw[aR (by omega),b,Nat.sub_self,List.getElem?_drop,Yj]
    exact e
   have p:a.take (i+1)++m.fs.drop (i+1)=(a.take i++m.fs.drop i).set i c:=by
    rw[List.set_append,kF (by omega),b,Nat.sub_self,Yx,h,Yy]
    congr 1
    rw[Yu (by omega:i<m.fs.length),sZ]
    rfl
   rw[p]
   by_cases p:q.r=0
   ·have h:=zmg (l.frw e) p;have b:c=q:=by
     rcases n with e|e
     ·exact e
     rw[e,h];rfl
    have h:(a.take i++m.fs.drop i).set i c=a.take i++m.fs.drop i:=by
     rw[b]
     apply Yf
     intro a
     by_cases e:i=a
     ·subst e;rw[sF (gS.1 f).1,f]
     rw[sN e]
    rw[h];exact g
   have b:c={ q with u:=c.u,d:=q.d }:=by
    rcases n with e|e
    ·rw[e]
    rw[e];rfl
   rw[b];exact g.trans (zet S g.rt f p c.u q.d)
 have:=k m.fs.length (nR _);rw[List.drop_length,List.append_nil,Yd (by rw[j.1];exact nR _)]at this
 exact this
theorem zka {fs a:List Fr} (d:zas fs a):za1 a=za1 fs:=by
 unfold za1;have b:a.map (fun f=>decide (f.r=0))=fs.map (fun f=>decide (f.r=0)):=by
  apply Yf
  intro i;rw[Yw,Yw]
  cases c:fs[i]? with
  | none=>
   have:a[i]? =Xb:=by rw[List.getElem?_eq_none_iff]at c⊢;rw[d.1];exact c
   rw[this]
  | some q=>
   obtain⟨a,b,a⟩:=d.2 i q c;rw[b]
   rcases a with e|e <;> rw[e] <;> rfl
 have a:=congrArg (List.countP id) b;rw[List.countP_map,List.countP_map]at a;exact a
theorem zdd (S:Nat->Nat->Prop) (h:Rt m):QQ S m (Zu m)/\za1 (Zu m).fs=za1 m.fs/\((JV m.fs m.hand=-1/\za1 m.fs=m.fs.length)\/∃(k:Nat) (fr:Fr),JV m.fs m.hand=(k:Int)/\(Zu m).fs[k]? =Xa fr/\fr.r≠0):=by
 have c:=h.parts.1;obtain⟨a,a,a,a⟩:=Zj c;have a:zaE m.fs m.hand=(QL m.fs m.hand).1:=kE c;have b:zbV m.fs m.hand=((QL m.fs m.hand).2.1:Int):=kE c;have d:zas m.fs (zaE m.fs m.hand)/\0<=zbV m.fs m.hand/\zbV m.fs m.hand<max (m.fs.length:Int) 1:=by
  rw[a,b]
  by_cases a:m.fs.length=0
  ·have:QL m.fs m.hand=(m.fs,m.hand.toNat,-1):=by unfold QL;rw[a];rfl
   rw[this];exact⟨zas.refl _,by simp only;omega,by simp only;omega⟩
  obtain⟨a,b,r,f⟩:∃a b r,jR (2*m.fs.length) m.fs m.hand.toNat=(a,b,r):=⟨_,_,_,rfl⟩;obtain⟨e,g,_⟩:=Jy _ m.fs m.fs m.hand.toNat (zas.refl _) (by omega) a b r f
  have:QL m.fs m.hand=(a,b,r):=f;rw[this];have:=e.1;exact⟨e,by simp only;omega,by simp only;omega⟩
 obtain⟨a,e,f⟩:=d;have b:=zj9 S h a;have d:QQ S { m with fs:=zaE m.fs m.hand } (Zu m):=zl3 S b.rt e (by show _<max ((zaE m.fs m.hand).length:Int) 1;rw[a.1];exact f)
 refine⟨b.trans d,zka a,?_⟩
 rcases zj1 c with⟨a,b⟩ | ⟨k,q,a,b,c,c,c,d⟩
 ·exact .inl ⟨a,b⟩
 exact .inr ⟨k,frU q,a,c,by show q.r≠0;omega⟩
theorem zo1 (a:JU m<m.sl.length):m.sl[JU m]? =Xa 0:=by
 have b:(m.sl[JU m] == 0)=Xc:=List.findIdx_getElem (w:=a);rw[gE a,eq_of_beq b]
theorem zlj (S:Nat->Nat->Prop) (h:Rt m) (d:m.fs[k]? =Xa fr) (c:fr.f=-1) (e:fr.r≠0):QQ S m (zaS m k fr).2:=by
 unfold zaS
 by_cases b:JU m<m.sl.length
 ·rw[kE b];have a:=h.inv.sbl;have a:zi m.sb.length m.sq ((JU m:Nat):Int)=0:=by
   unfold zi;rw[kE h.inv.sq,kE (by simp[jE];omega)]
  exact zlk S h d c e (zo1 b) (Qq _ _) (Qv a) (zeb a).2 (fun i _ c=>Js a c)
 rw[kF b];exact QQ.refl h
theorem zcR (S:Nat->Nat->Prop) (h:Rt m) {c:Ca} {F:Fl} (u:c∈m.ca) (hi:zpL m c k fi ix fr F) (a:Qu m.fl m.cnt fr.f fr.x=0) (e):∃b:Nat,wrM m e fr.f fr.x=zav m fi ix F (b:Int) (qG m.db m.dq) (qp m.dq (b:Int) e)/\QQ S m (zav m fi ix F (b:Int) (qG m.db m.dq) (qp m.dq (b:Int) e))/\qj (qG m.db m.dq) (qp m.dq (b:Int) e) (b:Int)=e/\(b:Int)<m.cnt/\(∀(i j:Nat) g,m.fl[i]? =Xa g->g.bl[j]? =Xa (b:Int)->i=fi/\j=ix):=by
 have f:=a;rw[hi.ff,hi.fx]at a;obtain⟨b,q,l,n,p,r⟩:=zoK h hi.fl hi.bl a;obtain⟨a,a,s⟩:=qY h.inv.dok;have a:=h.inv.cnt;have a:zi m.db.length m.dq (b:Int)=0:=by
  unfold zi;rw[kE h.inv.dok,kE (by simp[jE];omega)]
 have d:=h.inv.st;have t:wrM m e fr.f fr.x=zav m fi ix F (b:Int) (qG m.db m.dq) (qp m.dq (b:Int) e):=by
  unfold wrM zav;rw[kE f,hi.ff,hi.fx,l,n,p];unfold qZ jB;rw[kE a,kE a]
 have f:stW (m.fl.set fi ⟨F.size,F.bl.set ix (b:Int)⟩) m.cnt=0/\(∀x,zU (m.fl.set fi ⟨F.size,F.bl.set ix (b:Int)⟩) x=Xc↔(zU m.fl x=Xc/\x≠-1)\/x=(b:Int)\/(x=-1/\zU (m.fl.set fi ⟨F.size,F.bl.set ix (b:Int)⟩) x=Xc))/\(F.bl[ix]? =Xa (b:Int)\/zU m.fl (b:Int)=Xd)/\∀(i j:Nat) g,m.fl[i]? =Xa g->g.bl[j]? =Xa (b:Int)->i=fi/\j=ix:=by
  rcases r with e|⟨e,r⟩
  ·obtain⟨l,n,p⟩:=zhm d hi.fl e;rw[l];exact⟨d,n,.inl e,p⟩
  obtain⟨l,n,p,v⟩:=zhn d hi.fl e r;exact⟨l,n,.inr p,v⟩
 obtain⟨u1,u2,u3,u4⟩:=f;refine⟨b,t,zkU S h hi.fl u1 u2 (Qq _ _) (Qv a) (zf3 _ _ s) (fun h f=>?_) (fun i d=>Js a d) u3 ⟨c,u,hi.file,hi.idx⟩ u4,(zeb a).2,q,u4⟩
 unfold qp at f
 rcases Od.1 f with e|e
 ·refine .inr ⟨h,?_,rfl⟩
  split at e
  ·exact Ym e
  exact e
 simp only[Yt]at e;exact .inl (by rw[e])
theorem JG (h:Rt m) (d:m.fs[k]? =Xa fr) (g:fr.f≠-1):∃(i:Nat) (c:Ca) (fi e:Nat) (F:Fl),m.ca[i]? =Xa c/\zpL m c k fi e fr F:=by
 have j:0<=fr.f:=by
  have:=h.frw d;unfold frW at this
  by_cases a:(inB fr.r 1001 && inB fr.x 12)=Xd
  ·rw[kE a]at this;omega
  rw[kF a]at this
  by_cases b:(!(fr.f == -1) && !inB fr.f 5)=Xc
  ·rw[kE b]at this;omega
  simp[g,inB]at b
  omega
 obtain⟨i,c,g,l,a,b⟩:=ziB h d j;obtain⟨j,fi,e,f,F,a⟩:=ziF h.w (mG g);have b:j=k:=by have:=a.fr;omega
 subst b;have:=a.fa.symm.trans d;cases this;exact⟨i,c,fi,e,F,g,a⟩
theorem zmC (h:Rt m) (d:m.fs[k]? =Xa fr) (b:fr.f≠-1) (g:fr.r≠0) (l:List (Nat × Nat)):QQ (fun q j=>(q,j)∈l) m (zdI m k fr l).2:=by
 obtain⟨i,c,a,a,F,c,a⟩:=JG h d b;have x:=mG c;have b:=(gS.1 a.fl).1;have b:ZG m fr.f=F.size:=by unfold ZG;rw[a.ff,tN,gD,a.fl];rfl
 have p:0<=fr.f:=by rw[a.ff];omega
 unfold zdI
 by_cases e:zcH m fr≠pgL fr.p/\zgk m k fr l=Xc
 ·rw[kE e];exact QQ.refl h
 rw[kF e];have f:Zb (pgL fr.p) fr.x (ZG m fr.f)=pgL fr.p\/∀(q:Nat) s (i:Nat) c (n:Nat),m.sp[q]? =Xa s->s.ars[i]? =Xa c->ZF c n=Xc->n<64->¬ziO k fr l q s c n:=by
  by_cases b:zcH m fr=pgL fr.p
  ·exact .inl b
  exact .inr fun q s i c n r t u v w=>e ⟨b,zcY.2 ⟨q,s,i,c,n,r,t,u,v,w⟩⟩
 by_cases b:fr.d=Xc\/Zh m fr.f fr.x≠zcH m fr
 ·rw[kE b]
  by_cases c:Qu m.fl m.cnt fr.f fr.x=0
  ·rw[kE c];obtain⟨e,e,i,n,_⟩:=zcR (fun q j=>(q,j)∈l) h x a c (zcH m fr)
   simp only;rw[e];refine zf1 i a.fl a.bl d a.ff a.fx g ?_ f;rw[n];unfold zcH;rw[a.fx,a.ff]
  rw[kF c]
  by_cases a:Zh m fr.f fr.x=zcH m fr
  ·rw[kE a];exact zfj h d p g a f
  rw[kF a];exact QQ.refl h
 rw[kF b];exact zfj h d p g (Classical.byContradiction fun e=>b (.inr e)) f
theorem zkE (h:Rt m) (b:m.fs[k]? =Xa fr) (c:fr.r≠0) (l:List (Nat × Nat)):QQ (fun q j=>(q,j)∈l) m (jT m k fr l).2:=by
 unfold jT
 split
 ·rename_i a
  exact zlj _ h b a c
 rename_i a
 exact zmC h b a c l
theorem zk9 (m:Ma) (b) (file a:Int):(wrM m b file a).fs=m.fs:=(zla _ _ _ _).1
theorem zju (m:Ma) (k:Nat) (fr) (l:List (Nat × Nat)):((jT m k fr l).1=Xc/\(jT m k fr l).2.fs=m.fs.set k frF)\/((jT m k fr l).1=Xd/\(jT m k fr l).2=m):=by
 unfold jT
 split
 ·unfold zaS
  split
  ·exact .inl ⟨rfl,rfl⟩
  exact .inr ⟨rfl,rfl⟩
 unfold zdI
 split
 ·exact .inr ⟨rfl,rfl⟩
 split
 ·split
  ·refine .inl ⟨rfl,?_⟩
   show(qd _ _).fs=_
   unfold qd;simp only;rw[zk9]
  split
  ·exact .inl ⟨rfl,rfl⟩
  exact .inr ⟨rfl,rfl⟩
 exact .inl ⟨rfl,rfl⟩
theorem zdx (l:List (Nat × Nat)):∀(n:Nat) {m:Ma},Rt m->QQ (fun q j=>(q,j)∈l) m (freeGo n m l).2/\za1 (freeGo n m l).2.fs=za1 m.fs+((freeGo n m l).1).toNat
 | 0,m,h=>⟨QQ.refl h,rfl⟩
 | n+1,m,h=>by
  obtain⟨a,d,b⟩:=zdd (fun q j=>(q,j)∈l) h
  unfold freeGo
  rcases b with⟨b,_⟩|⟨k,f,b,c,e⟩
  ·rw[kE (by omega)]
   exact⟨a,d⟩
  rw[kF (by omega),b,tN,z8 c]
  rcases zju (Zu m) k f l with⟨b,f⟩|⟨b,f⟩
  ·rw[kE b];refine⟨a.trans (zkE a.rt c e l),?_⟩;rw[b,f,zn8 c e,d];rfl
  rw[kF (by rw[b];decide)]
  obtain⟨b,c⟩:=zdx l n a.rt;exact⟨a.trans b,by rw[c,d]⟩
theorem zmh (h:Rt m) (l:List (Nat × Nat)):QQ (fun q j=>(q,j)∈l) m (zcs m l).2/\za1 (zcs m l).2.fs=za1 m.fs+((zcs m l).1).toNat:=zdx l _ h
end
theorem zkv (j : Nat) (w) : Xp Tryz.prog 58 #[Xe Xf (j : Int)] w fun e w' => e = Xl (Xh Xc) /\ zc w w' := by
  go_enter Tryz.func58, Tryz.ntmps58
  go_wp2
  go_ret
  exact ⟨rfl, zc.refl _⟩
theorem zge (w : Xn) : ziN 58 #[] (fun _ => Xc) w := fun W j _ _ => zkv j W
theorem zmk (d : Xq) (ps : List (List Int)) (qs : List (Int × List Int)) (w : Xn) (hd : Qi w d ps qs) :
    Xp Tryz.prog 32 #[d] w fun e w' => ∃ d', e = Xl (Xm #[d', Xe Xf (zB ps.length qs)]) /\ z3 w.heap.size w' d' (jX (fun _ => Xc) ps qs) [] /\ zc w w' := by
  have HD : Xo (Qi w d ps qs) := hd
  obtain ⟨b, q, rfl, hb, hq⟩ := hd
  obtain ⟨ab, cb, rfl, _⟩ := hb.rows
  obtain ⟨aq, cq, rfl, _⟩ := hq.rows
  clear hb hq
  obtain ⟨W0, hW0⟩ : ∃ W0, (w.alloc (.cells #[.slice ab ps.length cb, .slice aq qs.length cq] 34)).alloc (.cells #[.slice none 0 0, .slice none 0 0] 34) = W0 := ⟨_, rfl⟩
  have HG0 : Xo (zc w W0) := show zc w W0 by rw [<- hW0]; exact (za _ _).trans (za _ _)
  have B2 : Box W0 (w.heap.size + 1) [.slice none 0 0, .slice none 0 0] := by rw [<- hW0]; exact Box.top _ [.slice none 0 0, .slice none 0 0] _ (by simp)
  have hcon := zek (fun _ => Xc) 58 #[] (enters_of Tryz.func58 (by kernel_rfl) rfl) _ ps qs W0 (HD.out.grew HG0.out) (zge W0)
  have HB2 : Hid (Box W0 (w.heap.size + 1) [.slice none 0 0, .slice none 0 0]) := B2
  obtain ⟨nb, HNB⟩ : ∃ nb, Hid (ps.length = nb) := ⟨_, rfl⟩
  obtain ⟨nq, HNQ⟩ : ∃ nq, Hid (qs.length = nq) := ⟨_, rfl⟩
  obtain ⟨r, HW⟩ : ∃ r, Xo (zB nb qs = r) := ⟨_, rfl⟩
  rw [HNB.out, HNQ.out, HW.out] at hcon
  rw [HNB.out, HNQ.out] at hW0
  have HW0 : Hid (_ = W0) := hW0
  clear hW0
  rw [HNB.out, HNQ.out, HW.out]
  clear B2
  go_enter Tryz.func32, Tryz.ntmps32
  go_wp2_with (go_at_call 57; rw [HW0.out]
               refine hcon.mono ?_
               rintro e W1 ⟨d1, rfl, hd1, hg1⟩
               have b3 : Box W1 (w.heap.size + 1) [.slice none 0 0, .slice none 0 0] := HB2.out.grew hg1
               have c2 := b3.c 0 rfl
               have c3 := b3.c 1 rfl
               have f2 := b3.f 0
               have f3 := b3.f 1
               have HD1 : Xo (z3 W0.heap.size W1 d1 (jX (fun _ => Xc) ps qs) []) := hd1
               have HG1 : Xo (zc w W1) := HG0.out.trans hg1
               obtain ⟨v1, v2, rfl, hv1, hv2, _⟩ := hd1
               obtain ⟨x1, y1, rfl, _⟩ := hv1.rows
               obtain ⟨x2, y2, rfl, _⟩ := hv2.rows
               clear hv1 hv2 b3)
  refine bodyPost_ret (v := Xm #[Xi #[.slice x1 (jX (fun _ => Xc) ps qs).length y1, O x2 0 y2], Xe Xf r]) (by simp [results, Tryz.results32, go_sem, *]) rfl ⟨_, rfl, ?_, ?_⟩
  · have := HB2.out.lt
    exact ((HD1.out.setCell (by simpa using this) _).setCell (by simpa using this) _).base (Below.size HG0.out)
  · exact Below.setCell (Below.setCell HG1.out (p := ⟨w.heap.size + 1, 0, none⟩) (by simp) _) (p := ⟨w.heap.size + 1, 1, none⟩) (by simp) _
def Qj (m M:Ma):Prop:=∀J:Ma->Prop,J m->(∀(N:Ma) (c:Ca) (k fi ix:Nat) (f:Fr) (F:Fl),J N->c∈N.ca->zpL N c k fi ix f F->f.d=Xc->Qu N.fl N.cnt f.f f.x=0->J (clM N k f F))->J M
theorem Qj.refl (m):Qj m m:=fun _ h _=>h
theorem Qj.step {c:Ca} {k:Nat} {f:Fr} {F:Fl} (h:Qj m M) (d:c∈M.ca) (hi:zpL M c k fi ix f F) (e:f.d=Xc) (b:Qu M.fl M.cnt f.f f.x=0):Qj m (clM M k f F):=fun J g a=>a M c k fi ix f F (h J g a) d hi e b
theorem zoJ (m:Ma) (k:Nat) (f F):(clM m k f F).ca=m.ca:=by
 unfold clM
 split
 ·exact(zla _ _ _ _).2.2.1
 rfl
theorem Qj.ok (h:Qj m M) (a:Rt m):Rt M/\M.ca=m.ca:=
 h (fun M=>Rt M/\M.ca=m.ca) ⟨a,rfl⟩ fun N _ _ _ _ _ _ a c d _ b=>⟨zos a.1 c d b,by rw[zoJ];exact a.2⟩
def JS (m:Ma):Ma:={ m with db:=jX (fun _=>Xc) m.db m.dq,dq:=[] }
def zaP (file:Int) (i:Nat) (M:Ma):Prop:=∀(j:Nat) c (k:Nat) f,j<i->M.ca[j]? =Xa c->c.file=file->c.fr=(k:Int)->M.fs[k]? =Xa f->f.d=Xd
theorem ziy {file:Int} {i k:Nat} {f:Fr} {F:Fl} {c:Ca} (h:zaP file i M) (q:M.ca[i]? =Xa c) (n:M.fs[k]? =Xa f) (a:c.fr=(k:Int)) (e:Qu M.fl M.cnt f.f f.x=0):zaP file (i+1) (clM M k f F):=fun j m l p a b d g a=>by
 rw[zoJ]at b;rw[zjy e]at a
 by_cases e:l=k
 ·subst e;rw[sF (gS.1 n).1]at a;cases a;rfl
 rw[sN (fun h=>e h.symm)]at a
 by_cases n:j=i
 ·subst n;rw[q]at b;cases b;exact absurd (by omega) e
 exact h j m l p (by omega) b d g a
theorem zli (V) (m:Ma) (file:Int) (w:Xn) (d8:zN w V m) (c2:Rt m) (c7:0<=file) (au:file< (m.fl.length:Int)):
  Xp prog 12 #[Xi (mL V m).toArray,I6 file] w fun e w'=>(e= Xl (Xm #[Xi qo.toArray,I6 10])\/∃(M:Ma) (V':MaV),Qj m M/\zaP file M.ca.length M/\e= Xl (Xm #[Xi #[V'.f.x,I6 (JS M).hand,V'.s.x,V'.sb.x,V'.sq.x,V'.db.x,V'.dq.x,V'.fl.x,I6 (JS M).cnt,V'.ca.x,V'.sp.x],I6 0])/\∀W,qT (fun k=>k<w.heap.size) w' W->zN W V' (JS M))/\zc w w':=by
 have b0:=c2.w;obtain⟨b7,v⟩:=kB ((w.alloc (Xk (mL V m).toArray 41)).alloc (Xk zM.toArray 41));have cq:=gD2 v
 obtain⟨E,ab⟩:=kA w.heap.size;have cw:Xo (zx b7 E 41 (mL V m)):=dD<|by rw[<-v];exact(zx.top w (mL V m) _ ab.symm).grew (za _ _)
 have dl:Xo (zx b7 (E+1) 41 qo):=dD<|by rw[<-v];exact zx.top _ qo _ (by have:=ab.out;simp;omega)
 have cn:=dD<|d8.grew cq.out;have bp:Xo (_=b7):=v;have b1:=J1 V m b7 cn b0;clear b0;have cr:=dD c2;clear v d8 c2
 go_enter func12,ntmps12
 go_upto_region 1 with fail;rw[bp.out,ab.out];obtain⟨ch,ci,cj,ck,cl,b4,b5,H,cm,a5,a4⟩:=cw.box.c11;go_wp2_with fail;refine b1.mono ?_;clear b1 ch ci cj ck cl b4 b5 H cm a5 a4;rintro e a8 ⟨rfl,an⟩;have cx:=dD (cw.grew an);have cy:=dD (dl.grew an);have co:=dD (cn.grew an);have bg:=dD (cq.trans an);clear an;obtain⟨-,-,-,-,-,-,dc,-⟩:=co.ns;have H:=cx.box.c 7 rfl;(try simp only[Sli.x]at H);rw[dc]at H;clear dc;obtain⟨dr,bl⟩:=kA m.fl.length;rw[bl.out]at H au;have c3:decide (file<0)=Xd:=by simpa using c7
 have c4:decide ((dr:Int)<=file)=Xd:=by simpa using au
 go_upto_region 6 with fail;clear H c3 c4;have ay:=zfN V m a8 co.out;obtain⟨ch,ci,cj,ck,cl,b4,b5,H,cm,a5,a4⟩:=cx.box.c11;go_wp2_with fail;refine ay.mono ?_;clear ay ch ci cj ck cl b4 b5 H cm a5 a4;rintro e ec ⟨A,cu,rfl,c6⟩;have b6:=dD c6;have N:=dD cy.box.lt;have dm:=dD<|cy.grew c6.gr;clear c6;obtain⟨⟨bv,b,bw⟩,d⟩:∃ca,Xo (cu.ca=ca):=⟨_,rfl⟩;obtain⟨-,-,-,-,-,-,-,b2,-⟩:=b6.at.ns;have a5:=b6.box.box.c 9 rfl;rw[d.out]at a5 b2;dsimp only at a5 b2;have ag:=dD b2;have d6:b<=9223372036854775807:=by rw[b2];exact b6.ca.at.short
 clear b2;go_wp2;clear a5
 go_loopg [35] b (fun dt cf wr=>∃i:Nat,i<=b/\b - i<=dt/\cf=I6 i/\(∃V' M,Xo (V'.ca=⟨bv,b,bw⟩)/\Xo (ChW a8 A wr V' M)/\Xo (Qj m M)/\Xo (zaP file i M))/\Xo (zx wr (E+1) 41 qo))
 case atStart=>exact⟨0,nZ _,by omega,rfl,⟨cu,m,d,b6,Qj.refl m,fun cc ba k f T=>absurd T (nL _)⟩,dm⟩
 obtain⟨i,ef,du,rfl,⟨h,M,d,c,l,bs⟩,a9⟩:=hrel;have bm:=dD<|(l.ok cr).1;have af:=dD<|(l.ok cr).2
 by_cases aw:i<b
 rotate_left
 ·have ax:=kD aw
  have di:Xo (zaP file M.ca.length M):=dD<|by
   have:M.ca.length=i:=by rw[af.out,<-ag.out];omega
   rw[this];exact bs.out
  have y:=zmk (Xi #[h.db.x,h.dq.x]) M.db M.dq wr ⟨_,_,rfl,c.at.db,c.at.dq⟩;have b4:=c.box.box.c 5 rfl;have b5:=c.box.box.c 6 rfl;go_wp2_with fail;refine y.mono ?_;clear y b4 b5;rintro e dj ⟨ee,rfl,cd,c1⟩;obtain⟨bz,G,rfl,-,-⟩:=cd.form;have de:Xo (z3 wr.heap.size dj (Xi #[bz.x,G.x]) (jX (fun _=>Xc) M.db M.dq) []):=cd
  have dg:=dD c1;have be:=dD (c.box.grew c1);clear cd c1
  go_upto_region 14 with(refine ZU rfl 34 (.tmp 77) (.tmp 73) rfl A 5 rfl (Xi #[bz.x,G.x]) rfl [bz.x,G.x] rfl be (by simp[chL]) (by kernel_rfl) (by simp[Value.oneCell']) ?_)
  intro cv al ap _;obtain⟨R,-,am,b3,-⟩:=c.setDk dg (nR _) de ap al;have L:Xo (ChW a8 A cv R (JS M)):=am;have b9:Xo (zx cv (E+1) 41 qo):=a9.outD b3 (fun e=>by have:=c.dlo _ e;have:=N.out;omega)
  clear al ap am b3;have a9:=b9;try simp only[Xx]
  obtain⟨bf,Q⟩:=kA (JS M);rw[Q.out]at L;obtain⟨dz,e0,e1,e2,e3,e4,e5,e6,e7,e8,ce⟩:=L.box.box.c11;have br:Xo (∀cg∈chL R bf,cg.oneCell'=Xc):=dD<|by simp[chL,Value.oneCell']
  go_wp2_with (refine z9 rfl 41 (.tmp 4) (.tmp 81) rfl (E+1) rfl (chL R bf) rfl a9 rfl (by kernel_rfl) br.out ?_)
  clear dz e0 e1 e2 e3 e4 e5 e6 e7 e8 ce;intro b8 ak n _;have bh:Xo (zc w b8):=dD<|zd (bg.trans L.gr) n (by have:=ab.out;omega)
  have bd:=dD ak;have dh:Xo (∀W,qT (fun k=>k<w.heap.size) b8 W->zN W R bf):=show∀W,_ from fun W U=>L.doneD ((qT.grown n (show E+1<a8.heap.size from N.out)).trans (U.wide fun k dv=>Nat.lt_of_lt_of_le dv (bS bg)))
  clear ak n;go_wp2;refine bodyPost_ret (qL rfl _ rfl bd.box underlying41 rfl (by kernel_rfl)) rfl ⟨.inr ⟨M,R,l,di,by rw[Q.out];rfl,by rw[Q.out];exact dh⟩,bh⟩
 have ax:=kC aw
 obtain⟨ba,q⟩:∃ba,Xo (M.ca[i]? =Xa ba):=⟨_,gE (by rw[af.out];have:=ag.out;omega)⟩
 obtain⟨k,S,cb,f,cp,z⟩:=ziF bm.w (mG q);have a:=dD z;obtain⟨ed,X,ar⟩:=c.at.cas i ba q.out;rw[d.out]at X;dsimp only at X;subst X;obtain⟨cz,d3,d4⟩:=ar wr (zc.refl _);rw[z.fr]at d4;rw[z.file]at cz;rw[z.idx]at d3;clear ar z;go_upto_region 10 with fail;obtain⟨G,bo⟩:=kA wr.heap.size;obtain⟨D,C⟩:=kB (wr.alloc (Xk #[I6 (S:Int),I6 (cb:Int),I6 (k:Int)] 93));have a7:=gA C
 have dk:=xPT C bo
 have bc:¬Dw A h G:=fun e=>absurd (c.dlt _ e) (by have:=bo.out;omega)
 rw[C,bo.out];clear C cz d3 d4;obtain⟨s,F,y⟩:=c.at.frs k f a.fa;obtain⟨dx,-⟩:=c.at.ns;have d7:(k:Int)< (h.f.n:Int):=by
  have:=(gS.1 a.fa).1;omega
 have bq:Xo (∀W,zc D W->W.cell? ⟨A,0,Xb⟩=Xa (O (Xa s) h.f.n h.f.c)):=dD<|fun W U=>by
  have:=(c.box.box.grew (a7.trans U)).c 0 rfl;rw[F]at this;exact this
 obtain⟨bb,P⟩:=kA f.d;have bk:Xo (∀W,zc D W->W.cell? { block:=(s.add (k*13)).block,off:=(s.add (k*13)).off+10 }=Xa (Xh bb)):=dD<|fun W U=>by
  obtain⟨_,_,_,_,_,_,_,_,_,_,c0,_,_⟩:=y W (a7.trans U);rw[<-P.out];exact c0
 obtain⟨bt,cs⟩:=kA (decide (Qu M.fl M.cnt f.f f.x=0));obtain⟨aj,bn⟩:=kA (clM M k f cp);have bi:Xo (∀W,zc D W->Xp prog 31 #[Xj (Xa ⟨A,0,Xb⟩),I6 (k:Int)] W fun e w'=>e= Xl (Xh bt)/\zbM a8 A W h aj w'):=dD<|fun W U=>by
  rw[<-cs.out,<-bn.out];exact zit (c.grew (a7.trans U)) k f a.fa S cb cp a.ff a.fx a.fl a.sz a.lo
 clear F y dx;have ah:Xo (f.d=Xd\/(S:Int)≠file->zaP file (i+1) M):=dD<|fun T cc dn db dq eg Y av c8 Z=>by
  by_cases e:cc=i
  ·subst e;rw[q.out]at Y;cases Y;have:db=k:=by have:=a.fr;omega
   subst this;rw[a.fa]at Z;cases Z
   rcases T with T|T
   ·exact T
   exact absurd (a.file.symm.trans av) T
  exact bs cc dn db dq (by omega) Y av c8 Z
 have ao:zc D D.drew:=show Below _ _ _ from(bR _ _).drew
 obtain⟨I,ae⟩:∃I:Xn->Prop,Xo (∀a3,I a3↔zx a3 G 93 [I6 (S:Int),I6 (cb:Int),I6 (k:Int)]):=⟨fun a3=>_,fun _=>Iff.rfl⟩
 have t:=(ae _).2 (dk.grew ao);have B:zc D D.drew:=ao;have a1:∀a6:zh I,a6.world.cell? ⟨G,0,Xb⟩=Xa (I6 (S:Int)):=fun a6=>((ae _).1 a6.holds).box.c 0 rfl
 have a2:∀a6:zh I,a6.world.cell? ⟨G,2,Xb⟩=Xa (I6 (k:Int)):=fun a6=>((ae _).1 a6.holds).box.c 2 rfl
 have a0:Nonempty (zh I):=⟨⟨_,t⟩⟩;obtain⟨ct,ai⟩:=kA ((S:Int) == file);have az:((S:Int) == file)=ct:=ai.out;refine QR (I:=I) 24 [(21,fun cg=>cg= Xh bt)] [10,15] (fun a3=>zc D a3) t B zY (by kernel_rfl) rfl rfl (by decide) ?hS (by kernel_rfl) (by kernel_rfl) ?_
 case hS=>
  intro x da;simp only[mC,nM,or_false]at da;subst da;exact⟨_,rfl⟩
 simp only[Yr,Ys];iterate 3 refine qD ?_
 refine ZN rfl rfl rfl (fun K j=>?_);go_big_quiet_op;(try rw[az]);refine j _ ?_;clear j K
 refine ZN rfl rfl rfl (fun K j=>?_);go_big_quiet_op;refine j _ ?_;clear j K
 clear az
 cases ct with
 | false=>
  have r:Xo (zaP file (i+1) M):=ah.out (.inr (by simpa using ai.out))
  iterate 11 (refine zbt rfl ?_;simp only[Xx,sB,sS,sZ])
  iterate 2 refine qD ?_
  iterate 5 (refine zbt rfl ?_;simp only[Xx,sB,sS,sZ])
  refine ZN rfl rfl rfl (fun K j=>?_);go_big_quiet_op;refine j _ ?_;clear j K
  refine zaz fun bu u g=>?_
  have aa:=dD (a7.trans g);clear u g t B a1 a2 a0 ao bc;go_wp2
  go_roundg (b -(i+1))
  case measure=>omega
  exact⟨i+1,by omega,by omega,by go_num,⟨h,M,d,c.grew aa,l,r⟩,a9.grew aa⟩
 | true=>
  refine ZN rfl rfl rfl (fun K j=>?_);go_big_quiet_op;refine j _ ?_;clear j K
  refine Jh (.tmp 44) ⟨A,0,Xb⟩ rfl rfl rfl rfl ?_;refine Uq ?_;iterate 3 refine qD ?_
  refine zbu rfl rfl rfl (O (Xa s) h.f.n h.f.c) (fun w' _ p=>?_) ?_
  ·exact zel 26 (.tmp 48) rfl A 0 rfl (O (Xa s) h.f.n h.f.c) (bq w' p) underlying26 rfl
  refine Uq ?_;iterate 4 refine qD ?_
  refine zbu rfl rfl rfl (Xh bb) (fun w' _ p=>?_) ?_
  ·exact zjS 4 (.tmp 53) rfl _ rfl (Xh bb) (bk w' p) underlying4 rfl
  refine Uq ?_;iterate 2 refine qD ?_
  cases bb with
  | false=>
   have r:Xo (zaP file (i+1) M):=ah.out (.inl P);iterate 5 (refine zbt rfl ?_;simp only[Xx,sB,sS,sZ])
   refine ZN rfl rfl rfl (fun K j=>?_);go_big_quiet_op;refine j _ ?_;clear j K
   refine zaz fun bu u g=>?_
   have aa:=dD (a7.trans g);clear u g t B a1 a2 a0 ao bc;go_wp2
   go_roundg (b -(i+1))
   case measure=>omega
   exact⟨i+1,by omega,by omega,by go_num,⟨h,M,d,c.grew aa,l,r⟩,a9.grew aa⟩
  | true=>
   iterate 3 refine qD ?_
   refine zaa rfl rfl (fun _ a3=>zbM a8 A wr h aj a3) (fun w' c5 p=>?_) (fun eh dw=>?_)
   ·refine zQ.call [Xj (Xa ⟨A,0,Xb⟩),I6 (k:Int)] rfl func31 rfl rfl rfl ?_;refine(bi w' p).mono ?_;rintro e ea ⟨rfl,aq⟩;have ds:=zbM.of_grew (a7.trans p) aq;obtain⟨eb,_,_,dy,_⟩:=aq;exact⟨_,rfl,(ae _).2 (((ae _).1 c5).chg dy bc),rfl,ds⟩
   subst dw;refine Uq ?_;iterate 2 refine qD ?_
   refine zaz fun bu u g=>?_
   obtain⟨R,d5,am,b3,dp⟩:=g;have L:=dD am;have df:=dD<|d5.trans d.out
   have b9:Xo (zx bu (E+1) 41 qo):=a9.outD b3 (fun e=>by have:=c.dlo _ e;have:=N.out;omega)
   clear u d5 am b3 dp t B a1 a2 a0 ao bc
   cases bt with
   | true=>
    have ac:=dD<|of_decide_eq_true cs.out
    have bj:Xo (Qj m aj):=dD<|by rw[<-bn.out];exact Qj.step l (mG q) a P ac.out
    have r:Xo (zaP file (i+1) aj):=dD<|by rw[<-bn.out];exact ziy bs q a.fa a.fr ac.out
    go_wp2
    go_roundg (b -(i+1))
    case measure=>omega
    exact⟨i+1,by omega,by omega,by go_num,⟨R,aj,df,L,bj,r⟩,b9⟩
   | false=>
    go_wp2_with (refine z9 rfl 41 (.tmp 4) (.tmp 63) rfl (E+1) rfl qo rfl b9 rfl (by kernel_rfl) (by simp[qo,Value.oneCell']) ?_)
    intro b8 ak n _;have bh:Xo (zc w b8):=dD<|zd (bg.trans L.gr) n (by have:=ab.out;omega)
    have bd:=dD ak;clear ak n;go_wp2;refine bodyPost_ret (qL rfl _ rfl bd.box underlying41 rfl (by kernel_rfl)) rfl ⟨.inl rfl,bh⟩
theorem zeP (h:Rt m) {c:Ca} {k:Nat} {f:Fr} {F:Fl} (d:c∈m.ca) (hi:zpL m c k fi ix f F) (a:Qu m.fl m.cnt f.f f.x=0):QQ (fun _ _=>False) m (clM m k f F):=by
 obtain⟨b,e,g,-⟩:=zcR (fun _ _=>False) h d hi a (Zb (pgL f.p) f.x F.size)
 have d:(zav m fi ix F (b:Int) (qG m.db m.dq) (qp m.dq (b:Int) (Zb (pgL f.p) f.x F.size))).fs[k]? =Xa f:=hi.fa;have b:=zet (fun _ _=>False) g.rt d hi.r f.u Xd
 unfold clM;rw[kE a,e];exact g.trans b
theorem Qj.goes (h:Qj m M) (a:Rt m):QQ (fun _ _=>False) m M:=
 h (fun N=>QQ (fun _ _=>False) m N) (QQ.refl a) fun _ _ _ _ _ _ _ a c d _ b=>a.trans (zeP a.rt c d b)
theorem zgZ (i:Nat):∀(qs:List (Int × List Int)) (j:Nat) (ps:List (List Int)),i<ps.length->(∀q∈qs,∃k:Nat,q.1=(k:Int)/\k<ps.length)->
  (qw (fun _=>Xc) qs j ps).getD i zz=zbi (qs.reverse.find? (fun q=>q.1 ==(i:Int))) (ps.getD i zz)
 | [],_,_,_,_=>rfl
 | q :: r,j,ps,hi,hin=>by
  obtain⟨k,hk,hlt⟩:=hin q (by simp)
  unfold qw;simp only[if_true];rw[zgZ i r (j+1) _ (by simpa using hi) (fun x hx=>by
   obtain⟨k',h1,h2⟩:=hin x (by simp[hx])
   exact⟨k',h1,by simpa using h2⟩)]
  rw[List.reverse_cons,List.find?_append]
  cases hf:r.reverse.find? (fun q=>q.1 ==(i:Int))with
  | some x=>rfl
  | none=>
   simp only[Option.none_or,List.find?_cons,Oh,zbi]
   by_cases hki:k=i
   ·subst hki
    simp[hk,hlt]
   have hne:(q.1 ==(i:Int))=Xd:=by rw[hk];simp;omega
   rw[hne];simp only[hk,tN,gD];rw[sN hki]
theorem zeE {a:List (List Int)} {b:List (Int × List Int)} (h:zB a.length b=0) (m:Int):qj (qw (fun _=>Xc) b 0 a) [] m=qj a b m:=by
 have c:zB (qw (fun _=>Xc) b 0 a).length []=0:=zcO (by rw[ZL];exact(qY h).1) (by simp) (by simp)
 have e:zi (qw (fun _=>Xc) b 0 a).length [] m=zi a.length b m:=by
  rw[ZK h,ZK c,ZL]
 by_cases c:zi a.length b m=0
 ·obtain⟨_,i,rfl,d⟩:=qf c;rw[QX c,QX (e.trans c)];simp only[List.reverse_nil,Oh,zbi,tN];exact zgZ i b 0 a d (qY h).2.2
 have d:¬zi (qw (fun _=>Xc) b 0 a).length [] m=0:=by rw[e];exact c
 unfold qj;rw[kF c,kF d]
theorem zij (h:Rt m):QQ (fun _ _=>False) m (JS m):=by
 have e:jX (fun _=>Xc) m.db m.dq=qw (fun _=>Xc) m.dq 0 m.db:=kE h.inv.dok
 unfold JS;rw[e];exact zku _ h (ZL _ _ _ _) (zbd _ _ _ _) (zeE h.inv.dok)
theorem QQ.bytes (h:Rt m) (g:QQ (fun _ _=>False) m m') (file:Nat):Q3 m' (file:Int)=Q3 m (file:Int):=by
 have a:QH m' (file:Int)=QH m (file:Int):=by
  unfold QH;rw[g.rt.w,h.w,g.sam.fll]
 unfold Q3;rw[a,(g.views h).2]
def FrD (m:Ma) (f:Fr):Prop:=Zh m f.f f.x=zcH m f
structure Syn (m:Ma) (fi:Nat):Prop where
 fr:∀f∈m.fs,f.r≠0->f.f=(fi:Int)->f.d=Xd/\FrD m f
 qu:∀F,m.fl[fi]? =Xa F->∀q∈m.dq,q.1∉F.bl
section
variable{m:Ma} {fi:Nat}
theorem zgr {a:Nat} {F:Fl} {db':List (List Int)} {dq':List (Int × List Int)} (p:m.fl[a]? =Xa F) (n:∀i:Int,i≠(b:Int)->qj db' dq' i=qj m.db m.dq i) (f:∀(i j:Nat) g,m.fl[i]? =Xa g->g.bl[j]? =Xa (b:Int)->i=a/\j=ix)
  {G:Fl} (c:m.fl[fi]? =Xa G) {j:Nat} (e:j<G.bl.length) (d:¬(fi=a/\j=ix)):Zh (zav m a ix F (b:Int) db' dq') (fi:Int) (j:Int)=Zh m (fi:Int) (j:Int):=by
 obtain⟨z,k⟩:∃z,G.bl[j]? =Xa z:=⟨_,gE e⟩;have l:=(gS.1 p).1;have q:∃h,(zav m a ix F (b:Int) db' dq').fl[fi]? =Xa h/\h.bl[j]? =Xa z/\h.size=G.size:=by
  unfold zav;simp only
  by_cases e:a=fi
  ·subst e;rw[sF l];rw[p]at c;cases c;exact⟨_,rfl,by simp only;rw[sN (fun e=>d ⟨rfl,e.symm⟩)];exact k,rfl⟩
  rw[sN e];exact⟨G,c,k,rfl⟩
 obtain⟨h,a,h,l⟩:=q;rw[zbG a h,zbG c k,l];have a:z≠(b:Int):=fun e=>d (f fi j G c (by rw[k,e]))
 show(if z<0 then zz else Zb (qj db' dq' z) (j:Int) G.size)=_
 rw[n z a]
theorem zgq {a:Nat} {b:Int} {F:Fl} {db':List (List Int)} {dq':List (Int × List Int)} (d:m.fl[a]? =Xa F) (z:Int):ZG (zav m a ix F b db' dq') z=ZG m z:=by
 have c:=(gS.1 d).1;unfold ZG zav;simp only[gD]
 by_cases e:z.toNat=a
 ·rw[e,sF c,d];rfl
 rw[sN (fun h=>e h.symm)]
theorem ziU (h:Rt m) (c:(b:Int)<m.cnt) (a) (i:Int) (hi:i≠(b:Int)):qj (qG m.db m.dq) (qp m.dq (b:Int) a) i=qj m.db m.dq i:=by
 have a:=h.inv.cnt;have a:zi m.db.length m.dq (b:Int)=0:=by
  unfold zi;rw[kE h.inv.dok,kE (by simp[jE];omega)]
 exact Js a hi
theorem zjL {a:List (Int × List Int)} {b:Int} {c:List Int} {q:Int × List Int} (h:q∈qp a b c):q∈a\/q.1=b:=by
 unfold qp at h
 rcases Od.1 h with e|e
 ·refine .inl ?_
  split at e
  ·exact Ym e
  exact e
 rw[Yt.1 e];exact .inr rfl
theorem Syn.keep (h:Syn m fi) (k:∀f∈m'.fs,f.r≠0->∃g∈m.fs,g.r=f.r/\g.f=f.f/\g.x=f.x/\g.p=f.p/\g.d=f.d) (s:m'.db=m.db) (i:m'.dq=m.dq) (e:m'.fl=m.fl):Syn m' fi:=by
 refine⟨fun f b j t=>?_,fun F d u a=>?_⟩
 ·obtain⟨g,l,n,c,p,q,r⟩:=k f b j;obtain⟨k,b⟩:=h.fr g l (by rw[n];exact j) (by rw[c];exact t)
  refine⟨by rw[<-r];exact k,?_⟩
  unfold FrD zcH at b⊢;rw[<-c,<-p,<-q];unfold Zh zcK ZG at b⊢;rw[s,i,e];exact b
 rw[e]at d;rw[i]at a;exact h.qu F d u a
theorem Syn.next (h:Syn m fi) (b:Rt m):Syn (Zu m) fi:=by
 have a:=b.parts.1;have b:zaE m.fs m.hand=(QL m.fs m.hand).1:=kE a;obtain⟨c,c,c,c⟩:=Zj a;have c:zas m.fs (zaE m.fs m.hand):=by
  rw[b]
  by_cases a:m.fs.length=0
  ·have:QL m.fs m.hand=(m.fs,m.hand.toNat,-1):=by unfold QL;rw[a];rfl
   rw[this];exact zas.refl _
  obtain⟨a,b,r,e⟩:∃a b r,jR (2*m.fs.length) m.fs m.hand.toNat=(a,b,r):=⟨_,_,_,rfl⟩;obtain⟨d,_⟩:=Jy _ m.fs m.fs m.hand.toNat (zas.refl _) (by omega) a b r e
  have:QL m.fs m.hand=(a,b,r):=e;rw[this];exact d
 refine h.keep (m':=Zu m) (fun f a _=>?_) rfl rfl rfl
 obtain⟨i,b⟩:=Xs a;have a:(zaE m.fs m.hand)[i]? =Xa f:=b;have b:i<m.fs.length:=by rw[<-c.1];exact(gS.1 a).1
 obtain⟨d,d,f⟩:=c.2 i _ (gE b);rw[a]at d;cases d;refine⟨_,Oa b,?_⟩
 rcases f with e|e
 ·rw[e];exact⟨rfl,rfl,rfl,rfl,rfl⟩
 rw[e];exact⟨rfl,rfl,rfl,rfl,rfl⟩
theorem znl {fs:List Fr} {k:Nat} {f:Fr} (h:f∈fs.set k frF) (a:f.r≠0):f∈fs:=by
 rcases Yv h with e|e
 ·exact e
 rw[e]at a;exact absurd rfl a
theorem Syn.empty (h:Syn m fi) (hr:Rt m) {k:Nat} {fr:Fr} (hk:m.fs[k]? =Xa fr) (h0:fr.r≠0) (l:List (Nat × Nat)):Syn (jT m k fr l).2 fi:=by
 have same:∀f:Fr,∃g:Fr,g=f/\g.r=f.r/\g.f=f.f/\g.x=f.x/\g.p=f.p/\g.d=f.d:=fun f=>⟨f,rfl,rfl,rfl,rfl,rfl,rfl⟩
 have out:∀{m0 m1:Ma},Syn m0 fi->m1.fs=m0.fs.set k frF->m1.db=m0.db->m1.dq=m0.dq->m1.fl=m0.fl->Syn m1 fi:=fun hm hfs hd hq hl=>hm.keep (fun f hf hr=>by
  rw[hfs]at hf;exact⟨f,znl hf hr,rfl,rfl,rfl,rfl,rfl⟩) hd hq hl
 unfold jT
 split
 ·unfold zaS
  split
  ·exact out h rfl rfl rfl rfl
  exact h
 rename_i hf
 obtain⟨i,c,fj,ix,F,hi,hc⟩:=JG hr hk hf;unfold zdI
 split
 ·exact h
 split
 ·rename_i hd
  have hne:fj≠fi:=fun e=>by
   obtain⟨a1,a2⟩:=h.fr fr (mG hk) h0 (by rw[hc.ff,e])
   rcases hd with e1|e1
   ·rw[a1]at e1;cases e1
   exact e1 a2
  split
  ·rename_i hb
   obtain⟨b,e1,g,e3,e4,e5⟩:=zcR (fun q j=>(q,j)∈l) hr (mG hi) hc hb (zcH m fr)
   refine out (m0:=wrM m (zcH m fr) fr.f fr.x) (m1:=qd (wrM m (zcH m fr) fr.f fr.x) k) ?_ rfl rfl rfl rfl;rw[e1];refine⟨fun f hfm hfr hff=>?_,fun G hG q hq hqb=>?_⟩
   ·have hfm':f∈m.fs:=hfm;obtain⟨a1,a2⟩:=h.fr f hfm' hfr hff;refine⟨a1,?_⟩;obtain⟨kf,hkf⟩:=Xs hfm';obtain⟨_,c2,fj2,ix2,F2,_,hc2⟩:=JG hr hkf (by rw[hff];omega)
    have e6:fj2=fi:=by have:=hc2.ff;omega
    subst e6;unfold FrD zcH at a2⊢;rw[zgq hc.fl];rw[hc2.ff,hc2.fx]at a2⊢;rw[zgr hc.fl (ziU hr e4 _) e5 hc2.fl hc2.bl (fun e=>hne e.1.symm)]
    exact a2
   have hG':m.fl[fi]? =Xa G:=by
    have:(m.fl.set fj ⟨F.size,F.bl.set ix (b:Int)⟩)[fi]? =Xa G:=hG;rw[sN hne]at this;exact this
   have hq':q∈qp m.dq (b:Int) (zcH m fr):=hq
   rcases zjL hq' with e|e
   ·exact h.qu G hG' q e hqb
   rw[e]at hqb;obtain⟨j,hj⟩:=Xs hqb;exact hne (e5 fi j G hG' hj).1.symm
  split
  ·exact out h rfl rfl rfl rfl
  exact h
 exact out h rfl rfl rfl rfl
theorem Syn.freeGo (l:List (Nat × Nat)):∀(n:Nat) {m:Ma},Rt m->Syn m fi->Syn (freeGo n m l).2 fi
 | 0,_,_,h=>h
 | n+1,m,b,h=>by
  obtain⟨d,_,c⟩:=zdd (fun q j=>(q,j)∈l) b
  have a:=h.next b;unfold Go.Proofs.YtjjdljjhmcegdaaGreat.freeGo
  rcases c with⟨b,_⟩|⟨k,c,b,c,e⟩
  ·rw[kE (by omega)]
   exact a
  rw[kF (by omega),b,tN,z8 c]
  split
  ·exact a.empty d.rt c e l
  exact Syn.freeGo l n d.rt a
theorem Syn.free (h:Syn m fi) (a:Rt m) (l:List (Nat × Nat)):Syn (zcs m l).2 fi:=Syn.freeGo l _ a h
theorem zmL (b:Rt m) (i:zdV m) (a:Qj m M):Rt M/\∀f∈M.fs,f.r≠0->f.f=(fi:Int)->f.d=Xd->FrD M f:=by
 refine a (fun N=>Rt N/\∀f∈N.fs,f.r≠0->f.f=(fi:Int)->f.d=Xd->FrD N f) ⟨b,fun f n q l g=>?_⟩ fun N c k j v f F c r b C h=>⟨(zeP c.1 r b h).rt,fun B s q l g=>?_⟩
 ·obtain⟨a,e⟩:=(i f n).2 q (by rw[l];omega)
  unfold FrD zcH;rw[a,e g]
 obtain⟨a,i,_,x,y,A⟩:=zcR (fun _ _=>False) c.1 r b h (Zb (pgL f.p) f.x F.size)
 have u:ZG N (j:Int)=F.size:=by unfold ZG;rw[tN,gD,b.fl];rfl
 have n:clM N k f F={ zav N j v F (a:Int) (qG N.db N.dq) (qp N.dq (a:Int) (Zb (pgL f.p) f.x F.size))with fs:=N.fs.set k { f with d:=false } }:=by
  unfold clM;rw[kE h,i]
 have t:∀z i,Zh (clM N k f F) z i=Zh (zav N j v F (a:Int) (qG N.db N.dq) (qp N.dq (a:Int) (Zb (pgL f.p) f.x F.size))) z i:=fun z i=>by rw[n];rfl
 have i:∀z,ZG (clM N k f F) z=ZG N z:=fun z=>by rw[n];exact zgq (db':=qG N.db N.dq) (dq':=qp N.dq (a:Int) (Zb (pgL f.p) f.x F.size)) b.fl z
 unfold FrD zcH;rw[i,t];rw[zjy h]at s
 rcases Yv s with i|i
 ·obtain⟨z,h⟩:=Xs i;obtain⟨_,a,n,w,a,s,a⟩:=JG c.1 h (by rw[l];omega)
  have t:¬(n=j/\w=v):=fun j=>by
   have n:=ZQ c.1.inv.ca r;have r:=ZQ c.1.inv.ca (mG s);rw[b.file,b.idx,<-j.1,<-j.2,<-a.file,<-a.idx,r]at n;cases n;have j:=b.fr.symm.trans a.fr;have j:k=z:=by omega
   subst j;have:=b.fa.symm.trans h;cases this;rw[C]at g;cases g
  have e:=c.2 B i q l g;unfold FrD zcH at e;rw[a.ff,a.fx]at e⊢;rw[zgr b.fl (ziU c.1 y _) A a.fl a.bl t];exact e
 rw[i]
 show Zh _ f.f f.x=Zb (pgL f.p) f.x (ZG N f.f)
 rw[b.ff,b.fx]at⊢;rw[b.fx]at x;rw[zec b.fl b.bl (p:=pgL f.p) (by rw[x,u])]
theorem znj (e:Rt m) (c:zdV m) (a:Qj m M) (d:zaP (fi:Int) M.ca.length M):Syn (JS M) fi:=by
 obtain⟨b,l⟩:=zmL (fi:=fi) e c a;refine⟨fun f c g e=>?_,fun _ _ q a=>by cases a⟩
 have a:f∈M.fs:=c;obtain⟨p,j⟩:=Xs a;obtain⟨n,k,c,c,F,i,c⟩:=JG b j (by rw[e];omega)
 have h:f.d=Xd:=d n k p f (gS.1 i).1 i (by rw[c.file,<-c.ff];exact e) c.fr j
 refine⟨h,?_⟩;have c:=l f a g e h;unfold FrD at c⊢;have e:jX (fun _=>Xc) M.db M.dq=qw (fun _=>Xc) M.dq 0 M.db:=kE b.inv.dok
 have:Zh (JS M) f.f f.x=Zh M f.f f.x:=by
  unfold Zh JS
  show(if zcK M f.f f.x<0 then zz else Zb (qj (jX (fun _=>Xc) M.db M.dq) [] (zcK M f.f f.x)) f.x (ZG M f.f))=_
  rw[e,zeE b.inv.dok]
 rw[this];exact c
theorem Syn.crash (i:Syn m fi) (c:Rt m) (b:fi<m.fl.length) (a:Nat->Bool):Q3 (Zx m (jX a m.db m.dq)) (fi:Int)=Q3 m (fi:Int):=by
 have g:=zey c a;have d:=gE b;obtain⟨G,b⟩:=kB (m.fl[fi]);rw[b]at d;obtain⟨b,f⟩:=zpq c.w d;have e:ZG m (fi:Int)=G.size:=by unfold ZG;rw[tN,gD,d];rfl
 have b:QH (Zx m (jX a m.db m.dq)) (fi:Int)=QH m (fi:Int):=by
  unfold QH;rw[g.w,c.w];rfl
 unfold Q3;rw[b]
 congr 1
 unfold zeT;have b:ZG (Zx m (jX a m.db m.dq)) (fi:Int)=ZG m (fi:Int):=rfl;rw[b];refine Oi fun k g=>?_
 have b:=Xu.1 g;rw[e]at b;have b:k / 8<G.bl.length:=by
  unfold JI at f
  split at f <;> omega
 obtain⟨z,f⟩:∃z,G.bl[k / 8]? =Xa z:=⟨_,gE b⟩;have l:qn (Zx m (jX a m.db m.dq)) (fi:Int) ((k / 8:Nat):Int)=Zh m (fi:Int) ((k / 8:Nat):Int):=by
  have b:qn (Zx m (jX a m.db m.dq)) (fi:Int) ((k / 8:Nat):Int)=Zh (Zx m (jX a m.db m.dq)) (fi:Int) ((k / 8:Nat):Int):=rfl;rw[b,zbG (m:=Zx m (jX a m.db m.dq)) d f,zbG d f]
  by_cases b:z<0
  ·rw[kE b,kE b]
  rw[kF b,kF b]
  congr 1
  have h:=mG f;have b:∀q∈m.dq,q.1≠z:=fun q g f=>i.qu G d q g (by rw[f];exact h)
  have d:jX a m.db m.dq=qw a m.dq 0 m.db:=kE c.inv.dok;have h:zB (qw a m.dq 0 m.db).length []=0:=zcO (by rw[ZL];exact(qY c.inv.dok).1) (by simp) (by simp)
  have j:zi (qw a m.dq 0 m.db).length [] z=zi m.db.length m.dq z:=by
   rw[ZK c.inv.dok,ZK h,ZL]
  show qj (jX a m.db m.dq) [] z=_
  rw[d]
  by_cases d:zi m.db.length m.dq z=0
  ·rw[QX d,QX (j.trans d)];have n:m.dq.reverse.find? (fun q=>q.1 == z)=Xb:=by
    rw[List.find?_eq_none];intro q g h;exact b q (List.mem_reverse.1 g) (by simpa using h)
   rw[n];simp only[List.reverse_nil,Oh,zbi,gD]
   rcases zbd a m.dq 0 m.db z.toNat with f|⟨q,g,h⟩
   ·rw[f]
   have:=zlw c.inv.dok g;exact absurd (show q.1=z by omega) (b q g)
  have b:¬zi (qw a m.dq 0 m.db).length [] z=0:=by rw[j];exact d
  unfold qj;rw[kF d,kF b]
 rw[l];unfold qn
 cases b:m.ca.find? (JQ (fi:Int) ((k / 8:Nat):Int))with
 | none=>rfl
 | some a=>
  simp only;have d:=List.mem_of_find?_eq_some b;have a:=List.find?_some b;simp only[JQ,Yl,decide_eq_true_eq]at a;obtain⟨b,h,j,f,k,g,l,_⟩:=ziC c d;have b:=(i.fr h (mG f) k (by rw[g];exact a.1)).2
  unfold FrD zcH at b;rw[g,l,a.1,a.2]at b;rw[j,z8 f,b,e];exact zoI (by omega)
end
def zcl (a b:Int):Int:=if a<b then -1 else if b<a then 1 else 0
def znd (c d:Ca):Int:=zu [zcl c.file d.file,zcl c.idx d.idx]
theorem zor {c d:Ca} (a:0<=c.idx/\c.idx<100) (b:0<=d.idx/\d.idx<100):(znd c d<0↔qg c<qg d)/\(znd c d=0↔qg c=qg d):=by
 unfold znd zu zu zu zcl qg
 by_cases a:c.file<d.file
 ·rw[kE a,kF (by decide)]
  constructor
  ·constructor
   ·intro _;omega
   intro _;decide
  constructor
  ·intro h;cases h
  intro h;omega
 rw[kF a]
 by_cases a:d.file<c.file
 ·rw[kE a,kF (by decide)]
  constructor
  ·constructor
   ·intro h;exact absurd h (by decide)
   intro h;omega
  constructor
  ·intro h;cases h
  intro h;omega
 rw[kF a,kE rfl];have e:c.file=d.file:=by omega
 by_cases a:c.idx<d.idx
 ·rw[kE a,kF (by decide)]
  constructor
  ·constructor
   ·intro _;omega
   intro _;decide
  constructor
  ·intro h;cases h
  intro h;omega
 rw[kF a]
 by_cases a:d.idx<c.idx
 ·rw[kE a,kF (by decide)]
  constructor
  ·constructor
   ·intro h;exact absurd h (by decide)
   intro h;omega
  constructor
  ·intro h;cases h
  intro h;omega
 rw[kF a,kE rfl];constructor
 ·constructor
  ·intro h;exact absurd h (by decide)
  intro h;omega
 constructor
 ·intro _;omega
 intro _;rfl
theorem zQ.callF {P:Program} {a:Act} {w:Xn} {K:Xq->Xn->Prop} {f:FuncId} {xs:List Operand} {ts:Array TypeId} {caps:Array Xq} {fn:Func} (x args)
  (ho : o.op = .call { callee := .value x, args := xs.toArray, argTypes := ts }) (hx : a.eval x = .func (.func f) #[] caps) (hf : P.funcs[f]? = some fn) (hb : fn.body.isNone = false) (hn : (fn.name == "runtime.NumGoroutine") = false)
  (ha:xs.map a.eval=args) (h:Xp P f (args.toArray++caps) w fun e w'=>∃v,e= Xl v/\K v w'):zQ P o a w K:=by
 have hr:(execOp a.eval o).run P w= .ok (.enter f (args.toArray++caps)) w:=by
  simp only [execOp, ho, resolve, hx, List.map_toArray, ha, Deferred.ofValue, pure_bind, invoke];have hn' : fn.name ≠ "runtime.NumGoroutine" := by simpa using hn
  have hb':fn.body≠Xb:=fun e=>by rw[e]at hb;cases hb
  simp[callFunc,hf,hb',hn',program,Yi,Sem.run]
 unfold zQ;rw[hr];exact h
def zlY (ca:List Ca) (t:Ca):Bool:=ca.any fun c=>decide (qg c=qg t)
theorem zh0 {t:Ca}:∀{ca:List Ca} {i:Nat},i<=ca.length->(∀(j:Nat) c,j<i->ca[j]? =Xa c->qg c<qg t)->(∀c,ca[i]? =Xa c->¬qg c<qg t)->zoA ca t=i
 | [],i,hi,_,_=>by
  have:i=0:=by simpa using hi
  subst this;rfl
 | a :: l,0,_,_,b=>by
  unfold zoA;rw[Oj,kF (by simpa using b a rfl)]
  rfl
 | a :: l,i+1,hi,e,b=>by
  have f:=zh0 (t:=t) (ca:=l) (i:=i) (by simpa using hi) (fun j c d d=>e (j+1) c (by omega) (by rw[Xt];exact d)) (fun c d=>b c (by rw[Xt];exact d))
  unfold zoA at f⊢;rw[Oj,kE (by simpa using e 0 a (by omega) rfl),Yz,f]
theorem zpe {ca:List Ca} {t:Ca} {i:Nat} (p:ca.Pairwise fun a b=>qg a<qg b) (k:∀(j:Nat) c,j<i->ca[j]? =Xa c->qg c<qg t) (m:∀c,ca[i]? =Xa c->¬qg c<qg t):zlY ca t=match ca[i]? with | some c=>decide (qg c=qg t) | none=>Xd:=by
 have e:zlY ca t=Xc↔∃c,ca[i]? =Xa c/\qg c=qg t:=by
  unfold zlY;rw[Xv];constructor
  ·rintro⟨c,f,d⟩;have d:=of_decide_eq_true d;obtain⟨j,h⟩:=Xs f
   rcases Nat.lt_trichotomy j i with g|g|g
   ·have:=k j c g h;omega
   ·subst g;exact⟨c,h,d⟩
   obtain⟨l,k⟩:=gS.1 h;have h:i<ca.length:=by omega
   have n:=Yg.1 p i j h l g;have g:=m _ (gE h);rw[k]at n;omega
  rintro⟨c,f,d⟩;exact⟨c,mG f,decide_eq_true d⟩
 cases h:ca[i]? with
 | none=>
  cases g:zlY ca t with
  | false=>rfl
  | true=>
   obtain⟨c,f,_⟩:=e.1 g;rw[h]at f;cases f
 | some c=>
  simp only
  cases g:zlY ca t with
  | false=>
   symm
   refine decide_eq_false fun f=>?_
   have:=e.2 ⟨c,h,f⟩;rw[g]at this;cases this
  | true=>
   obtain⟨f,f,d⟩:=e.1 g;rw[h]at f;cases f;exact(decide_eq_true d).symm
theorem zlK (a:Int) (w):Xp prog 180 #[I6 a] w fun e w'=>e= Xl (Xh Xd)/\w'=w:=by
 have h:(a != a)=Xd:=by simp
 go_enter func180,ntmps180
 go_wp2;go_ret
 first | exact⟨rfl,rfl⟩ | exact⟨by rw[h],rfl⟩
theorem zdO (a b:Int) (w):Xp prog 172 #[I6 a,I6 b] w fun e w'=>e= Xl (I6 (zcl a b))/\w'=w:=by
 have h:=zlK a w;have i:=zlK b w
 by_cases f:a<b
 ·have d:Xo (zcl a b=-1):=dD<|by unfold zcl;rw[kE f]
  have g:decide (a<b)=Xc:=decide_eq_true f
  go_enter func172,ntmps172
  go_wp2_with fail;refine h.mono ?_;rintro e W ⟨rfl,c⟩;rw[c];go_wp2_with fail;refine i.mono ?_;rintro e W ⟨rfl,c⟩;rw[c];go_wp2;go_ret;exact⟨by rw[d.out];rfl,rfl⟩
 have g:decide (a<b)=Xd:=decide_eq_false f
 by_cases g:b<a
 ·have d:Xo (zcl a b=1):=dD<|by unfold zcl;rw[kF f,kE g]
  have j:decide (b<a)=Xc:=decide_eq_true g
  go_enter func172,ntmps172
  go_wp2_with fail;refine h.mono ?_;rintro e W ⟨rfl,c⟩;rw[c];go_wp2_with fail;refine i.mono ?_;rintro e W ⟨rfl,c⟩;rw[c];go_wp2;go_ret;exact⟨by rw[d.out];rfl,rfl⟩
 have d:Xo (zcl a b=0):=dD<|by unfold zcl;rw[kF f,kF g]
 have j:decide (b<a)=Xd:=decide_eq_false g
 go_enter func172,ntmps172
 go_wp2_with fail;refine h.mono ?_;rintro e W ⟨rfl,c⟩;rw[c];go_wp2_with fail;refine i.mono ?_;rintro e W ⟨rfl,c⟩;rw[c];go_wp2;go_ret;exact⟨by rw[d.out];rfl,rfl⟩
theorem zlB (v l w) (s:zq blE w v l):
  Xp prog 171 #[v] w fun e w'=>e= Xl (I6 (zu l))/\w'=w:=by
 have g:=s.short;obtain⟨G,H,rfl,b⟩:=s.nums;have z:=dD b;clear b s;obtain⟨n,m⟩:=kA l.length;rw[m.out]at g⊢;obtain⟨F,k⟩:=kA (zu l);rw[k.out]
 go_enter func171,ntmps171
 go_wp2
 go_loopg [5,8] n (fun B _ E wr=>∃a:Nat,a<=n/\n - a<=B/\E=I6 a/\wr=w/\Xo (∀(j:Nat) x,j<a->l[j]? =Xa x->x=0))
 case atStart=>exact⟨0,nZ _,by omega,rfl,rfl,fun j x t=>absurd t (nL _)⟩
 obtain⟨a,D,C,rfl,rfl,A⟩:=hrel
 by_cases c:a<n
 ·have h:=kC c
  obtain⟨q,p⟩:∃q,Xo (l[a]? =Xa q):=⟨_,gE (by rw[m.out];exact c)⟩
  obtain⟨x,rfl,u⟩:=z.out a q p.out;have K:=u wr (zc.refl _);clear u
  by_cases d:q=0
  ·have r:(q != 0)=Xd:=by simp[d]
   have y:Xo (∀(j:Nat) x,j<a+1->l[j]? =Xa x->x=0):=dD<|fun j x t f=>by
    by_cases e:j=a
    ·subst e;rw[p.out]at f;cases f;exact d
    exact A j x (by omega) f
   clear d;go_wp2
   go_roundg (n -(a+1))
   case measure=>omega
   exact⟨a+1,by omega,by omega,by go_num,rfl,y⟩
  have r:(q != 0)=Xc:=by simp[d]
  have i:Xo (F=q):=dD<|by rw[<-k.out];exact zdz A p d
  clear d;go_wp2;go_ret;exact⟨by rw[i.out];rfl,rfl⟩
 have h:=kD c
 have:a=n:=by omega
 subst this;have i:Xo (F=0):=dD<|by
  rw[<-k.out];exact zdA fun j x f=>A.out j x (by rw[<-m.out];exact(gS.1 f).1) f
 go_wp2;go_ret;exact⟨by rw[i.out];rfl,rfl⟩
theorem zjY (c d:Ca) (w):Xp prog 170 #[Xi #[I6 c.file,I6 c.idx,I6 c.fr],Xi #[I6 d.file,I6 d.idx,I6 d.fr]] w fun e w'=>e= Xl (I6 (znd c d))/\zc w w':=by
 obtain⟨E,a⟩:=kA (znd c d);have j:Xo (zu [zcl c.file d.file,zcl c.idx d.idx]=E):=a.out;rw[a.out];obtain⟨b,f,i⟩:=c;obtain⟨g,h,l⟩:=d;simp only at j⊢;obtain⟨k,a⟩:=kB ((w.alloc (Xk #[I6 b,I6 f,I6 i] 93)).alloc (Xk #[I6 g,I6 h,I6 l] 93));have n:=gD2 a
 have l:=x2a a
 have m:=x2b a
 have i:Xo (_=k):=a;clear a
 go_enter func170,ntmps170
 go_upto_region 1 with fail;rw[i.out];have q:=l.gw 0 rfl
 have r:=l.gw 1 rfl
 have s:=m.gw 0 rfl
 have t:=m.gw 1 rfl
 have p:Nonempty (zl k):=⟨⟨_,zc.refl _⟩⟩;refine jK [(4,⟨fun a=>a=I6 (zcl b g),fun a w'=>True⟩),(9,⟨fun a=>a=I6 (zcl f h),fun a w'=>True⟩),(10,⟨fun a=>∃i,a= O (Xa ⟨i,0,Xb⟩) 2 2,fun a w'=>zq blE w' a [zcl b g,zcl f h]⟩),(11,⟨fun a=>a=I6 E,fun a w'=>True⟩)] zY (by kernel_rfl) ?hS ?hp ?_
 case hS=>
  intro x a;simp only[mC,nM,or_false]at a
  rcases a with rfl|rfl|rfl|rfl
  ·exact⟨_,rfl⟩
  ·exact⟨_,rfl⟩
  ·exact⟨_,0,rfl⟩
  exact⟨_,rfl⟩
 case hp=>
  intro x a;simp only[mC,nM,or_false]at a
  rcases a with rfl|rfl|rfl|rfl
  ·exact fun _ _ _ _ a=>a
  ·exact fun _ _ _ _ a=>a
  ·exact fun _ _ _ k a=>zq.grew a k
  exact fun _ _ _ _ a=>a
 iterate 4 refine zg ?_
 refine zH rfl rfl (fun w' k i=>?_) (fun u a=>?_)
 ·refine zQ.call [I6 b,I6 g] rfl func172 rfl rfl rfl ?_;refine(zdO b g w').mono ?_;rintro e m ⟨rfl,rfl⟩;exact⟨_,rfl,zc.refl _,rfl,trivial⟩
 subst a;refine Uq ?_;iterate 4 refine zg ?_
 refine zH rfl rfl (fun w' k i=>?_) (fun u a=>?_)
 ·refine zQ.call [I6 f,I6 h] rfl func172 rfl rfl rfl ?_;refine(zdO f h w').mono ?_;rintro e m ⟨rfl,rfl⟩;exact⟨_,rfl,zc.refl _,rfl,trivial⟩
 subst a;refine Uq ?_;refine zH rfl rfl (fun w' k i=>?_) (fun u a=>?_)
 ·have l:zq blE (w'.alloc (Xk #[I6 (zcl b g),I6 (zcl f h)] 3)) (O (Xa ⟨w'.heap.size,0,Xb⟩) 2 2) [zcl b g,zcl f h]:=zff blE w' [zcl b g,zcl f h] _ rfl (show 2*8<=140737488355328 by decide)
  refine zQ.step (v:= O (Xa ⟨w'.heap.size,0,Xb⟩) 2 2) (w':=w'.alloc (Xk #[I6 (zcl b g),I6 (zcl f h)] 3)) (by simp only[execOp];go_simp) ⟨za _ _,⟨_,rfl⟩,l⟩
 obtain⟨l,rfl⟩:=a;refine Uq ?_;refine zH rfl rfl (fun w' k i=>?_) (fun u a=>?_)
 ·have k:zq blE w' (O (Xa ⟨l,0,Xb⟩) 2 2) [zcl b g,zcl f h]:=i 10 (by kernel_rfl)
  refine zQ.call [O (Xa ⟨l,0,Xb⟩) 2 2] rfl func171 rfl rfl rfl ?_;refine(zlB _ _ w' k).mono ?_;rintro e m ⟨rfl,rfl⟩;exact⟨_,rfl,zc.refl _,by rw[j.out],trivial⟩
 subst a;refine Uq ?_;refine zg ?_
 refine z7 fun a a i=>?_
 have b:=dD (n.trans a);clear a i q r s t p;go_wp2;go_ret;exact⟨rfl,b⟩
theorem ziG (v) (ca:List Ca) (t:Ca) (w) (a3:zq qS w v ca) (g:ca.Pairwise fun a b=>qg a<qg b) (hi:∀c∈ca,0<=c.idx/\c.idx<100) (ht:0<=t.idx/\t.idx<100) (d:ca.length<=1000):
  Xp prog 169 #[v,Xi #[I6 t.file,I6 t.idx,I6 t.fr],.func (.func 170) #[] #[]] w fun e w'=>e= Xl (Xm #[I6 (zoA ca t:Int),Xh (zlY ca t)])/\zc w w':=by
 obtain⟨a,c,rfl,f⟩:=a3.cas;have an:=dD f;have l:=dD g
 have ae:Xo (∀c∈ca,(znd c t<0↔qg c<qg t)/\(znd c t=0↔qg c=qg t)):=dD<|fun c p=>zor (hi c p) ht
 have h:=enters_of func170 (by kernel_rfl) rfl
 obtain⟨U,X⟩:=kA ca.length;rw[X.out]at d⊢;obtain⟨P,k⟩:=kA (zoA ca t);obtain⟨ac,h⟩:=kA (zlY ca t);rw[k.out,h.out];have a5:Xo (∀(i j:Nat) x y,ca[i]? =Xa x->ca[j]? =Xa y->i<=j->qg x<=qg y):=dD<|fun i j x y K n d=>by
  obtain⟨m,q⟩:=gS.1 K;obtain⟨r,s⟩:=gS.1 n
  rcases Nat.lt_or_eq_of_le d with F|F
  ·have:=Yg.1 g i j m r F;rw[q,s]at this;omega
  subst F;rw[K]at n;cases n;exact Int.le_refl _
 obtain⟨A,B,C⟩:=t;obtain⟨m,d⟩:=kA (qg ⟨A,B,C⟩);have a8:∀(x:Ca) (W:Xn),Xp prog 170 #[Xi #[I6 x.file,I6 x.idx,I6 x.fr],Xi #[I6 A,I6 B,I6 C]] W fun e w'=>e= Xl (I6 (znd x ⟨A,B,C⟩))/\zc W w':=fun x W=>zjY x ⟨A,B,C⟩ W
 rw[d.out]at ae;have a4:Xo (∀i,i<=U->(∀(j:Nat) x,j<i->ca[j]? =Xa x->qg x<m)->(∀(j:Nat) x,i<=j->ca[j]? =Xa x->m<=qg x)->P=i/\ac=match ca[i]? with | some x=>decide (qg x=m) | none=>Xd):=dD<|fun i K n F=>by
  rw[<-k.out,<-h.out,<-d.out];rw[<-d.out]at n F;exact⟨zh0 (by rw[X.out];exact K) n (fun x d=>by have:=F i x (nR _) d;omega),zpe l n (fun x d=>by have:=F i x (nR _) d;omega)⟩
 clear a3 g hi ht f;simp only;obtain⟨b,h⟩:=kA w.heap.size;obtain⟨f,f⟩:=kB (w.alloc (Xk #[I6 A,I6 B,I6 C] 93));have i:=gA f
 have k:=xP f h
 have g:=dD f;clear f
 go_enter func169,ntmps169
 go_upto_region 1 with fail;rw[g.out,h.out];go_wp2
 go_loopg [9,10] U (fun g l f wr=>∃h hi:Nat,l=I6 h/\f=I6 hi/\h<=hi/\hi<=U/\hi - h<=g/\Xo (zc w wr)/\Xo (Box wr b [I6 A,I6 B,I6 C])/\Xo ((∀(j:Nat) x,j<h->ca[j]? =Xa x->qg x<m)/\(∀(j:Nat) x,hi<=j->ca[j]? =Xa x->m<=qg x)))
 case atStart=>exact⟨0,U,rfl,rfl,nZ _,nR _,by omega,i,k,⟨fun j x ai=>absurd ai (nL _),fun j x K n=>by have:=(gS.1 n).1;have:=X.out;omega⟩⟩
 obtain⟨h,hi,rfl,rfl,f,a9,aq,G,E,ab⟩:=hrel;obtain⟨ak,al,am⟩:=E.c3
 by_cases f:h<hi
 ·obtain⟨r,D⟩:∃r,Xo (ca[(h+hi) / 2]? =Xa r):=⟨_,gE (by have:=X.out;omega)⟩
  obtain⟨l,rfl,M⟩:=an.out _ r D.out;obtain⟨Y,I,a0⟩:=M wr G.out;have p:=a8 r;have g:(h+hi) / 2<U:=by omega
  obtain⟨s,u,z⟩:=r;simp only at p Y I a0;obtain⟨Z,a6⟩:=kA (znd ⟨s,u,z⟩ ⟨A,B,C⟩);rw[a6.out]at p;have a7:Xo (Z<0↔qg ⟨s,u,z⟩<m):=dD<|by rw[<-a6.out];exact(ae _ (mG D)).1
  obtain⟨i,f⟩:=kA ((h+hi) / 2);rw[f.out]at Y I a0 g D;have g:Xo (∀W,zc wr W->zm8 W (l.add (i*3)) ⟨s,u,z⟩):=dD<|fun W ah=>by have:=M W (G.trans ah);rw[f.out]at this;exact this
  clear M Y I a0 ak al am;go_upto_region 5 with fail;rw[show((h:Int)+(hi:Int)) / 2=(i:Int) by have:=f.out;omega]
  have k:(i:Int)< (U:Int):=by omega
  have R:∀y:zl wr,y.world.cell? (l.add (i*3))=Xa (I6 s):=fun y=>(g _ y.grew).1
  have S:∀y:zl wr,y.world.cell? ⟨(l.add (i*3)).block,(l.add (i*3)).off+1,Xb⟩=Xa (I6 u):=fun y=>(g _ y.grew).2.1
  have T:∀y:zl wr,y.world.cell? ⟨(l.add (i*3)).block,(l.add (i*3)).off+2,Xb⟩=Xa (I6 z):=fun y=>(g _ y.grew).2.2
  have N:=E.gw 0 rfl
  have P:=E.gw 1 rfl
  have Q:=E.gw 2 rfl
  have q:Nonempty (zl wr):=⟨⟨_,zc.refl _⟩⟩;refine jK [(6,⟨fun v=>v=I6 Z,fun v w'=>True⟩)] zY (by kernel_rfl) ?hS ?hp ?_
  case hS=>
   intro x d;simp only[mC,nM,or_false]at d;subst d;exact⟨_,rfl⟩
  case hp=>
   intro x d;simp only[mC,nM,or_false]at d;subst d;exact fun _ _ _ _ ag=>ag
  iterate 6 refine zg ?_
  refine zH rfl rfl (fun w' aq L=>?_) (fun ar a3=>?_)
  ·refine zQ.callF (.tmp 24) [Xi #[I6 s,I6 u,I6 z],Xi #[I6 A,I6 B,I6 C]] rfl rfl func170 rfl rfl rfl ?_;refine(p w').mono ?_;rintro e aj ⟨rfl,k⟩;exact⟨_,rfl,k,rfl,trivial⟩
  subst a3;refine Uq ?_;refine zg ?_
  refine z7 fun ao k L=>?_
  have V:=dD (G.trans k);have ap:=dD (E.grew k);clear k p L R S T N P Q q
  by_cases aa:Z<0
  ·have H:=dD aa;go_wp2
   go_roundg (hi -(i+1))
   case measure=>have:=f.out;omega
   have af:Xo ((∀(j:Nat) x,j<i+1->ca[j]? =Xa x->qg x<m)/\(∀(j:Nat) x,hi<=j->ca[j]? =Xa x->m<=qg x)):=dD<|⟨fun j x ai d=>by
    have K:=a5.out j _ x _ d D (by omega)
    have n:=a7.1 H.out
    omega,ab.2⟩
   exact⟨i+1,hi,by go_num,rfl,by have:=f.out;omega,a9,nR _,V,ap,af⟩
  have H:=dD aa;go_wp2
  go_roundg (i - h)
  case measure=>have:=f.out;omega
  have af:Xo ((∀(j:Nat) x,j<h->ca[j]? =Xa x->qg x<m)/\(∀(j:Nat) x,i<=j->ca[j]? =Xa x->m<=qg x)):=dD<|⟨ab.1,fun j x ai d=>by
   have K:=a5.out _ j _ x D d (by omega)
   have n:¬qg ⟨s,u,z⟩<m:=fun e=>by have F:=a7.2 e;have j:=H.out;omega
   omega⟩
  exact⟨h,i,rfl,by go_num,by have:=f.out;omega,by have:=f.out;omega,nR _,V,ap,af⟩
 obtain rfl:hi=h:=by omega
 obtain⟨h,f⟩:=a4.out hi a9 ab.1 ab.2;have j:=dD h;clear h
 by_cases m:hi<U
 ·obtain⟨r,D⟩:∃r,Xo (ca[hi]? =Xa r):=⟨_,gE (by have:=X.out;omega)⟩
  obtain⟨l,rfl,M⟩:=an.out _ r D.out;obtain⟨Y,I,a0⟩:=M wr G.out;rw[D.out]at f;have p:=a8 r;obtain⟨s,u,z⟩:=r;simp only at p Y I a0 f;obtain⟨Z,a6⟩:=kA (znd ⟨s,u,z⟩ ⟨A,B,C⟩);rw[a6.out]at p;have i:Xo (ac=(Z == 0)):=dD<|by
   rw[f];have:=(ae _ (mG D)).2;rw[a6.out]at this
   by_cases h:Z=0
   ·rw[decide_eq_true (this.1 h),h];rfl
   rw[decide_eq_false (fun e=>h (this.2 e))];simp[h]
  have h:=kC m
  have g:=dD<|fun W (ah:zc wr W)=>M W (G.trans ah)
  clear M f Y I a0 ak al am;go_upto_region 8 with fail;have R:∀y:zl wr,y.world.cell? (l.add (hi*3))=Xa (I6 s):=fun y=>(g _ y.grew).1
  have S:∀y:zl wr,y.world.cell? ⟨(l.add (hi*3)).block,(l.add (hi*3)).off+1,Xb⟩=Xa (I6 u):=fun y=>(g _ y.grew).2.1
  have T:∀y:zl wr,y.world.cell? ⟨(l.add (hi*3)).block,(l.add (hi*3)).off+2,Xb⟩=Xa (I6 z):=fun y=>(g _ y.grew).2.2
  have N:=E.gw 0 rfl
  have P:=E.gw 1 rfl
  have Q:=E.gw 2 rfl
  have q:Nonempty (zl wr):=⟨⟨_,zc.refl _⟩⟩;refine jK [(11,⟨fun v=>v=I6 Z,fun v w'=>True⟩)] zY (by kernel_rfl) ?hS ?hp ?_
  case hS=>
   intro x d;simp only[mC,nM,or_false]at d;subst d;exact⟨_,rfl⟩
  case hp=>
   intro x d;simp only[mC,nM,or_false]at d;subst d;exact fun _ _ _ _ ag=>ag
  iterate 11 refine zg ?_
  refine zH rfl rfl (fun w' aq L=>?_) (fun ar a3=>?_)
  ·refine zQ.callF (.tmp 40) [Xi #[I6 s,I6 u,I6 z],Xi #[I6 A,I6 B,I6 C]] rfl rfl func170 rfl rfl rfl ?_;refine(p w').mono ?_;rintro e aj ⟨rfl,k⟩;exact⟨_,rfl,k,rfl,trivial⟩
  subst a3;refine Uq ?_;iterate 4 refine zg ?_
  refine z7 fun ao k L=>?_
  have V:=dD (G.trans k);clear k p L R S T N P Q q;go_wp2
  go_ret2
  exact⟨by rw[j.out,i.out];rfl,V⟩
 have h:=kD m
 have i:Xo (ac=Xd):=dD<|by
  rw[f,gN (by have:=X.out;omega)]
 clear f ak al am;go_upto_region 8 with fail;have q:Nonempty (zl wr):=⟨⟨_,zc.refl _⟩⟩;refine jK [] zY (by kernel_rfl) (by simp) (by simp) ?_
 iterate 5 refine zg ?_
 iterate 8 (refine Qk (by kernel_rfl) ?_;simp only[Xx,sB,sS,sZ])
 iterate 3 refine zg ?_
 refine z7 fun ao k L=>?_
 have V:=dD (G.trans k);clear k L q;go_wp2
 go_ret2
 exact⟨by rw[j.out,i.out];rfl,V⟩
theorem zio {w:Xn} {p:Nat} (h:ChW w0 p w V m) (i:m.ca.Pairwise fun a b=>qg a<qg b) (hi:∀c∈m.ca,0<=c.idx/\c.idx<100) (f:m.ca.length<=1000) (file d:Int) (ht:0<=d/\d<100):
  Xp prog 156 #[Xj (Xa ⟨p,0,Xb⟩),I6 file,I6 d] w fun e w'=>e= Xl (Xm #[I6 (zoA m.ca ⟨file,d,0⟩:Int),Xh (zlY m.ca ⟨file,d,0⟩)])/\zc w w':=by
 have g:=ziG _ m.ca ⟨file,d,0⟩ w h.at.ca i hi ht f;simp only at g;have j:=h.box.box.c 9 rfl;obtain⟨P,k⟩:=kA (zoA m.ca ⟨file,d,0⟩);obtain⟨H,j⟩:=kA (zlY m.ca ⟨file,d,0⟩);rw[k.out,j.out]at g⊢;clear h i hi f ht
 go_enter func156,ntmps156
 go_wp2_with fail;refine g.mono ?_;clear g;rintro e d ⟨rfl,d⟩;have f:=dD d;clear d;go_wp2
 go_ret2
 exact⟨rfl,f⟩
theorem zb.block {α:Type} {E:Elt α} {base:Nat} {w:Xn} {g n cap:Nat} {l:List α} (h:zb E base w (O (Xa ⟨g,0,Xb⟩) n cap) l):
  n=l.length/\base<=g/\l.length<=cap/\cap<=maxLen/\∃a,w.heap[g]? =Xa (Xk a E.ty (0,0))/\a.size=cap*E.k/\a.toList.take (l.length*E.k)=l.flatMap E.enc:=by
 rcases h.1.2 with⟨b,_⟩|⟨c,c,a,b,c,d,e,f,h,i⟩
 ·cases b
 cases b;exact⟨rfl,c,e,f,a,d,h,i⟩
theorem zb.mk' {α:Type} {E:Elt α} {base:Nat} {w:Xn} {g cap:Nat} {l:List α} {a:Array Xq} (c:base<=g) (d:w.heap[g]? =Xa (Xk a E.ty (0,0))) (f:l.length<=cap) (e:cap<=maxLen) (h:a.size=cap*E.k) (ht:a.toList.take (l.length*E.k)=l.flatMap E.enc)
  (b:l.length*E.bytes<=140737488355328):zb E base w (O (Xa ⟨g,0,Xb⟩) l.length cap) l:=
 ⟨⟨jO E l,.inr ⟨g,cap,a,rfl,c,d,f,e,h,ht⟩⟩,b⟩
theorem zcp {α:Type} {E:Elt α} {w:Xn} {rest:List Oper} {a:Act} (h:o.guard=Xb) (s x) (C:o.op= .call { callee:= .builtin .append,args:=#[s,x],argTypes:=#[E.st,E.st] })
  (base g cap n:Nat) (l:List α) (f:zb E base w (O (Xa ⟨g,0,Xb⟩) n cap) l) (i:Nat) (hi:i<=l.length) (D:a.eval s= O (Xa ⟨g,0,Xb⟩) i cap) (ad:Addr) (l2:List α) (b t:Nat) (G:a.eval x= O (Xa ad) b t) (k:b=l2.length)
  (e:∀j u,(l2.flatMap E.enc)[j]? =Xa u->w.cell? (ad.add j)=Xa u) (c:i+l2.length<=cap) (d:(i+l2.length)*E.bytes<=140737488355328)
  (y:∀w',zb E base w' (O (Xa ⟨g,0,Xb⟩) (i+b) cap) (l.take i++l2)->w.grownBy w' (Xa g)->w'.heap.size=w.heap.size->wpList prog ops Q rest (a.put o.dst (O (Xa ⟨g,0,Xb⟩) (i+b) cap)) w'):wpList prog ops Q (o :: rest) a w:=by
 subst k;refine wpList_plain h fun K z=>?_
 obtain⟨b,A,r,B,b,v,p,F⟩:=f.block;obtain⟨H,m,f,k,f⟩:=info_parts E.info;have q:=jO E l2;have f:(i+l2.length)*E.k<=cap*E.k:=Yn _ c;rw[Ou]at f;have h:=run_append_room (P:=prog) w E.st o.type E.ty H E.und m g i cap b v ad l2.length t (l2.flatMap E.enc) (by rw[k];exact q) e (qP E.one l2) c (by rw[q,k,p];exact f)
 rw[k]at h;unfold Oper.wp execOp;simp only[C,resolve,invoke,builtin,Yi,Ok,rA,List.map_toArray,mP,Oq,D,G,h];have hlen:(l.take i++l2).length=i+l2.length:=by rw[lA,Xw];omega
 have f:b.toList.length=cap*E.k:=by simpa using p
 have e:i*E.k<=l.length*E.k:=Yn _ hi;have h:l.length*E.k<=cap*E.k:=Yn _ r;have k:b.toList.take (i*E.k)=(l.take i).flatMap E.enc:=by
  have h:(b.toList.take (l.length*E.k)).take (i*E.k)=b.toList.take (i*E.k):=by rw[List.take_take,Nat.min_eq_left e]
  rw[<-h,F]
  conv=>lhs;rw[<-Og i l,Yq]
  exact Oe (by rw[jO,Xw,Nat.min_eq_left hi])
 have h:(b.toList.take (i*E.k)).length=i*E.k:=by rw[Xw,f];omega
 have e:=zb.mk' (E:=E) (base:=base) (w:=w.setRow g (b.toList.take (i*E.k)++l2.flatMap E.enc++b.toList.drop (i*E.k+(l2.flatMap E.enc).length)).toArray) (g:=g) (cap:=cap) (l:=l.take i++l2) A (setRow_heap w g b _ E.ty _ v) (by rw[hlen];exact c) B (by
  simp only[Ot,lA,h,q,Ob,f]
  omega) (by
  rw[hlen,Yq,<-k,Ou];have:(b.toList.take (i*E.k)++l2.flatMap E.enc).length=i*E.k+l2.length*E.k:=by rw[lA,h,q]
  simp only;rw[Oe this]) (by rw[hlen];exact d)
 rw[hlen]at e;exact z _ _ (y _ e (ZV _ _ _) (by simp[World.setRow]))
theorem zfX (n:Nat):∀u∈(Builtin.zeroCells #[I6 0,I6 0,I6 0] n).toList,u.oneCell'=Xc:=fun u a=>by
 simp only[Builtin.zeroCells,Array.toList_map,Yc,Array.toList_range,Xu]at a;obtain⟨i,_,rfl⟩:=a;have a:i % 3<3:=Yk _ (by decide)
 show(#[I6 0,I6 0,I6 0]:Array Xq)[i % 3]!.oneCell'=Xc
 generalize i % 3=k at a
 match k,a with
 | 0,_=>rfl
 | 1,_=>rfl
 | 2,_=>rfl
theorem zcV {w:Xn} {rest:List Oper} {a:Act} (b:o.guard=Xb) (x) (z:o.op= .call { callee:= .builtin .clear,args:=#[x],argTypes:=#[38] })
  (base g cap n:Nat) (l:List Ca) (c:zb qS base w (O (Xa ⟨g,0,Xb⟩) n cap) l) (k p:Nat) (A:a.eval x= O (Xa ⟨g,l.length*3,Xb⟩) (k+1) p) (d:l.length+(k+1)<=cap)
  (s:∀w',zb qS base w' (O (Xa ⟨g,0,Xb⟩) n cap) l->w.grownBy w' (Xa g)->w'.heap.size=w.heap.size->wpList prog ops Q rest (a.put o.dst (Xm #[])) w'):wpList prog ops Q (o :: rest) a w:=by
 refine wpList_plain b fun K t=>?_
 obtain⟨y,u,m,v,b,q,e,r⟩:=c.block;have d:qS.k=3:=rfl;rw[d]at e r;obtain⟨Z,j⟩:=kB ((Builtin.zeroCells #[I6 0,I6 0,I6 0] (k+1)).toList);have i:Z.length=(k+1)*3:=by
  rw[<-j,Array.length_toList,size_zeroCells];rfl
 have f:∀h∈Z,h.oneCell'=Xc:=by rw[<-j];exact zfX _
 have h:=run_storeCells_at prog g (l.length*3) 93 Z 0 b w q (by rw[i,e];omega) f
 simp only[Yj]at h;have f:(Builtin.clear_ #[38] o.type #[O (Xa ⟨g,l.length*3,Xb⟩) (k+1) p]).run prog w= .ok (Xm #[]) (w.setRow g (b.toList.take (l.length*3)++Z++b.toList.drop (l.length*3+Z.length)).toArray):=by
  simp only[Builtin.clear_]
  simp[run_underlying underlying38,Tryz.zeroValue93,Value.cells,j,h]
 unfold Oper.wp execOp;simp only[z,resolve,invoke,builtin,Yi,Ok,rA,List.map_toArray,mP,Oq,A,f];subst y;have f:b.toList.length=cap*3:=by simpa using e
 refine t _ _ (s _ (zb.mk' u (setRow_heap w g b _ 93 _ q) m v ?_ ?_ c.2) (ZV _ _ _) (by simp[World.setRow]))
 ·rw[d];simp only[Ot,lA,Xw,Ob,i,f];omega
 rw[d,Yy,Oe (by rw[Xw,f];omega)]
 exact r
theorem zkC {α:Type} (l:List α) (i:Nat):l.take i++l.drop (i+1)=l.eraseIdx i:=(List.eraseIdx_eq_take_drop_succ ..).symm
theorem zg6 (base g cap i:Nat) (l:List Ca) (w:Xn) (a:zb qS base w (O (Xa ⟨g,0,Xb⟩) l.length cap) l) (hi:i<l.length) (b:l.length<=1000):
  Xp prog 157 #[O (Xa ⟨g,0,Xb⟩) l.length cap,I6 i,I6 ((i:Int)+1)] w fun e w'=>e= Xl (O (Xa ⟨g,0,Xb⟩) (l.length - 1) cap)/\zb qS base w' (O (Xa ⟨g,0,Xb⟩) (l.length - 1) cap) (l.eraseIdx i)/\w.grownBy w' (Xa g):=by
 obtain⟨_,_,d,c,_⟩:=a.block;have f:cap<=9223372036854775807:=by simpa [maxLen]using c
 have j:=dD a;have f:=dD<|zkC l i;have a:Xo ((l.drop (i+1)).length=l.length -(i+1)):=show _=_ from Ob
 obtain⟨n,c⟩:=kA l.length;rw[c.out]at d hi b j a⊢;obtain⟨q,b⟩:∃q,Xo (n=q+1):=⟨n - 1,show _=_ by omega⟩
 have d:(i:Int)+1<=(n:Int):=by omega
 have d:(n:Int)<=(cap:Int):=by omega
 have d:¬((i:Int)=(i:Int)+1):=by omega
 have h:((i:Int) ==(i:Int)+1)=Xd:=by simpa using d
 have d:(i:Int)<=(i:Int)+1:=by omega
 have d:(i:Int)<=(cap:Int):=by omega
 have d:((i:Int)+1).toNat=i+1:=by omega
 go_enter func157,ntmps157
 go_upto_region 5 with fail;have d:Nonempty (zl w):=⟨⟨_,zc.refl _⟩⟩;refine Zr 6 [] zY (by kernel_rfl) rfl rfl (by decide) (by simp) (by simp) ?_
 simp only[Yr,Ys];iterate 6 refine zg ?_
 refine z7 fun w' p _=>?_
 obtain⟨k,d,m⟩:∃k:Addr,(if cap=i+1 then Xa (⟨g,0,Xb⟩:Addr)else Xa ⟨g,(i+1)*3,Xb⟩)=Xa k/\Xo (¬cap=i+1->k=⟨g,(i+1)*3,Xb⟩):=by
  by_cases e:cap=i+1
  ·exact⟨_,kE e,show _->_ from fun h=>absurd e h⟩
  exact⟨_,kF e,show _->_ from fun _=>rfl⟩
 rw[d];have h:=dD (j.grew p);have r:=dD p;have p:Xo (∀j u,((l.drop (i+1)).flatMap qS.enc)[j]? =Xa u->w'.cell? (k.add j)=Xa u):=show∀j u,_ from fun j u d=>by
  by_cases e:cap=i+1
  ·rw[List.drop_of_length_le (by have:=c.out;omega)]at d
   cases d
  rw[m.out e,Xz];have m:(l.flatMap qS.enc)[(i+1)*3+j]? =Xa u:=by
   conv=>lhs;rw[<-Og (i+1) l,Yq]
   rw[aR (by rw[jO,Xw];show _*3<=_;have:=c.out;omega),jO,Xw,show min (i+1) l.length=i+1 by have:=c.out;omega]
   show((l.drop (i+1)).flatMap qS.enc)[(i+1)*3+j -(i+1)*3]? =_
   rw[Nat.add_sub_cancel_left];exact d
  have:=h.1.cells rfl _ u m;rw[Xz,zA]at this;exact this
 have d:i+(n -(i+1))=q:=by have:=b.out;omega
 have j:Xo (i+(l.drop (i+1)).length<=cap/\(i+(l.drop (i+1)).length)*24<=140737488355328):=dD<|by rw[a.out];omega
 have d:Xo ((l.eraseIdx i).length=q):=dD<|by rw[<-f.out,lA,a.out,Xw];have:=c.out;have:=b.out;omega
 go_wp2_with (refine zcp (E:=qS) rfl (.tmp 22) (.tmp 25) rfl base g cap n l h i (by have:=c.out;omega) rfl k (l.drop (i+1)) (n -(i+1)) (cap -(i+1)) rfl a.symm p j.1 j.2 ?_)
 intro a a c _;rw[f.out]at a;have h:=dD a;have f:=dD c;have a:¬cap=q:=by have:=b.out;omega
 have a:(q:Int)<=(n:Int):=by have:=b.out;omega
 have a:n - q=0+1:=by have:=b.out;omega
 try simp only[Xx,sB,sS,sZ]
 go_wp2_with (refine zcV rfl (.tmp 31) rfl base g cap q (l.eraseIdx i) h 0 (cap - q) (by rw[d.out];rfl) (by rw[d.out];have:=b.out;omega) ?_)
 intro a c a _;have d:=dD c;have c:=dD<|zdt r (jY f a)
 have a:Xo (n - 1=q):=dD<|by have:=b.out;omega
 go_wp2;go_ret;exact⟨by rw[a.out];rfl,by rw[a.out];exact d,c⟩
theorem Rt.cache (h:Rt m):(m.ca.Pairwise fun a b=>qg a<qg b)/\(∀c∈m.ca,0<=c.idx/\c.idx<100)/\m.ca.length<=1000:=by
 obtain⟨d,d,g⟩:=zp.1 h.inv.ca;have d:∀c∈m.ca,0<=c.idx/\c.idx<100/\0<=qg c/\qg c<1000:=fun c e=>by
  obtain⟨k,f,f,f,F,f⟩:=ziF h.w e;have i:=(gS.1 f.fl).1;have i:=((z6 _ _).1 h.inv.st).1;have h:=f.idx;have h:=f.file;have h:=f.lo;unfold qg;omega
 refine⟨g,fun c e=>⟨(d c e).1,(d c e).2.1⟩,?_⟩
 have:=zej (m.ca.map qg) 0 1000 (by rw[List.pairwise_map];exact g) (fun x f=>by
  obtain⟨c,e,rfl⟩:=Yc.1 f;exact(d c e).2.2)
 rw[Yh]at this;omega
theorem znr (h:Rt m) {i:Nat} {c:Ca} (b:m.ca[i]? =Xa c):zoA m.ca ⟨c.file,c.idx,0⟩=i/\zlY m.ca ⟨c.file,c.idx,0⟩=Xc:=by
 obtain⟨l,_,_⟩:=h.cache;obtain⟨g,h⟩:=gS.1 b;have f:qg ⟨c.file,c.idx,0⟩=qg c:=rfl;refine⟨zh0 (Nat.le_of_lt g) (fun k d j a=>?_) (fun d a=>?_),?_⟩
 ·obtain⟨e,d⟩:=gS.1 a;have:=Yg.1 l k i e g j;rw[d,h]at this;rw[f];exact this
 ·rw[b]at a;cases a;rw[f];omega
 unfold zlY;exact Xv.2 ⟨c,mG b,decide_eq_true rfl⟩
theorem zg8 {w:Xn} {p:Nat} (l:ChW w0 p w V m) (g:Rt m) (k:Nat) (f:Fr) (h:m.fs[k]? =Xa f) (L:f.f≠-1) (D:f.r≠0):
  Xp prog 132 #[Xj (Xa ⟨p,0,Xb⟩),I6 (k:Int)] w fun e w'=>(∃v,e= Xl v)/\Chg w0 p w V (qd m k) w':=by
 obtain⟨j,c,A,u,F,d,a⟩:=JG g h L;obtain⟨R,S,G⟩:=g.cache;obtain⟨E,F⟩:=znr g d;rw[a.file,a.idx]at E F;have t:=(gS.1 d).1;have B:u<=12:=a.lo;have c:=dD<|ziD g h d a.fr
 obtain⟨P,Q,M⟩:=zbx g h D;have z:Xo (∀W,zc w W->Xp prog 156 #[Xj (Xa ⟨p,0,Xb⟩),I6 (A:Int),I6 (u:Int)] W fun e w'=>e= Xl (Xm #[I6 (j:Int),Xh Xc])/\zc W w'):=dD<|fun W i=>by
  have:=zio (l.grew i) R S G (A:Int) (u:Int) (by omega)
  rw[E,F]at this;exact this
 have q:Xo (qd m k=zaK { m with ca:=m.ca.eraseIdx j } k f.r ⟨0,0,Xd⟩):=dD<|by
  rw[show(⟨0,0,Xd⟩:En)=en0 from rfl,zjh (m:={ m with ca:=m.ca.eraseIdx j }) g rfl rfl rfl h D zfM]
  unfold qd;rw[c.out]
 have n:Xo (∀c i,ChW w0 p c i { m with ca:=m.ca.eraseIdx j }->Xp prog 129 #[Xj (Xa ⟨p,0,Xb⟩),I6 (k:Int),Xi #[I6 0,I6 0,Xh Xd]] c fun e w'=>(∃v,e= Xl v)/\Chg w0 p c i (qd m k) w'):=dD<|fun c i c=>by
  rw[q.out];exact zdK c k f h ⟨0,0,Xd⟩ g.inv.spl ⟨P,Q⟩ M
 have H:=dD l;have C:¬Dw p V w.heap.size:=fun e=>absurd (l.dlt _ e) (by omega)
 obtain⟨a4,-⟩:=l.at.ns;obtain⟨c,K,N⟩:=l.at.frs k f h;have x:=dD K;have y:=dD N
 have c:(k:Int)< (V.f.n:Int):=by
  have:=(gS.1 h).1;omega
 have r:=a.ff;have s:=a.fx;have i:=dD t;have c:=dD G;obtain⟨⟨T,U,W,X,Y,Z,I,a0⟩,a2,a3,a1,a5,a5⟩:=f;dsimp only at r s;subst r;subst s;obtain⟨r,r⟩:=kA (qd m k);rw[r.out]at n q⊢;clear l g h L D d a R S G E F t B P Q M K N a4;have F:=H.box.box.c 0 rfl;rw[x.out]at F;obtain⟨h,l,r,s,q,t,x,B,D,E,a,d,g⟩:=y.out w (zc.refl _);dsimp only at h l r s q t x B D E a d g
 go_enter func132,ntmps132
 go_upto_region 1 with fail;clear h l r s q t x B D E a d g F;obtain⟨a,d⟩:=kA w.heap.size;obtain⟨r,a⟩:=kB (w.alloc (Xk #[U8 T,U8 U,U8 W,U8 X,U8 Y,U8 Z,U8 I,U8 a0,I6 a2,Xh a3,Xh a1,I6 (A:Int),I6 (u:Int)] 62));have h:=gA a
 have l:=xPT a d
 rw[a,d.out];rw[d.out]at C;clear a;have d:=l.box.c 11 rfl;have g:=l.box.c 12 rfl;have a:=z.out r h.out;go_wp2_with fail;refine a.mono ?_;clear a d g;rintro e x ⟨rfl,a⟩;have u:=dD (h.trans a);clear a;have h:=dD (H.grew u);obtain⟨l,r,a⟩:=h.ca.formS (by have:=i.out;omega)
 have g:=zg6 w0.heap.size l r j m.ca x (by rw[<-a];exact h.ca) i c.out
 have s:=h.box.box.c 9 rfl;rw[a]at s;have d:=dD a;clear a;obtain⟨t,a⟩:=kA m.ca.length;rw[a.out]at g s;have a:j<1000:=by have:=i.out;have:=c.out;omega
 go_wp2_with fail;refine g.mono ?_;clear g s;rintro e y ⟨rfl,g,c⟩;have i:p≠l:=h.nc l (by have a:=d.out;(try simp only[Sli.x]at a);unfold oB;rw[a];rfl)
 have z:Xo (zx y p 91 (chL V m)):=h.box.beside c (fun k e=>by cases e;exact i)
 have A:=dD g;have s:=dD c;clear g c
 go_upto_region 3 with(refine ZU rfl 38 (.tmp 37) (.tmp 34) rfl p 9 rfl (O (Xa ⟨l,0,Xb⟩) (t - 1) r) rfl [O (Xa ⟨l,0,Xb⟩) (t - 1) r] rfl z (by simp[chL]) (by kernel_rfl) (by simp[Value.oneCell']) ?_)
 intro z c g _;have i:Chg w0 p x V { m with ca:=m.ca.eraseIdx j } z:=by
  refine h.cache (w1:=y) (b:=⟨Xa ⟨l,0,Xb⟩,t - 1,r⟩) (qT.grown s (by have a:=d.out;(try simp only[Sli.x]at a);unfold oB;rw[a];rfl)) (fun h h=>?_) A g c
  unfold oB at h;cases h;exact .inl (by have a:=d.out;(try simp only[Sli.x]at a);unfold oB;rw[a];rfl)
 have a:=Chg.of_grew u i;obtain⟨r,d,h,q⟩:=a;have a:=dD d;have l:=dD h;have j:=dD q;have a:=n.out z r d;clear i d h q c g;try simp only[Xx]
 go_wp2_with fail;refine a.mono ?_;clear a;rintro e a ⟨⟨a,rfl⟩,c⟩;have a:=dD<|Chg.step l j c
 clear c;go_wp2
 (first | go_end0 | ((try simp only[Exit.inBlock,Exit.then]);refine bodyPost_ret (results_none rfl _ _ _) rfl ?_))
 first | exact a.out | exact⟨⟨_,rfl⟩,a⟩
section
variable{w0 w w1 w2:Xn} {p:Nat} {V:MaV} {m:Ma}
theorem ChW.setSw (h:ChW w0 p w V m) {d q:Sli} {a:List (List Int)} {b:List (Int × List Int)} (e:zc w w1) (i:w.heap.size<=B) (g:z3 B w1 (Xi #[d.x,q.x]) a b) (f:w1.grownBy w2 (Xa p)) (c:zx w2 p 91 (chL { V with sb:=d,sq:=q } { m with sb:=a,sq:=b })):Chg w0 p w V { m with sb:=a,sq:=b } w2:=
 h.field (V':={ V with sb:=d,sq:=q }) (m':={ m with sb:=a,sq:=b }) e f rfl rfl rfl rfl rfl rfl c (fun W _ b r=>by
  have k:=(g.staysD (fun k a=>by have:=h.drt k a;omega) b).rows
  exact⟨r.sl,k.1,k.2,r.db,r.dq,r.fl⟩)
end
theorem zlf (h:Rt m) {k:Nat} {f:Fr} (a:m.fs[k]? =Xa f) (b:f.r≠0):(JU m<m.sl.length->Zw m.sl f.r=0/\QU m.sl f.r=m.sl.set (JU m) f.r/\zcd m.sl f.r=(JU m:Int))/\(¬JU m<m.sl.length->Zw m.sl f.r=10):=by
 obtain⟨c,j,_⟩:=zbx h a b;have g:=h.parts.2
 rcases zcW m.sl f.r with⟨i,_⟩|⟨_,e,_⟩|⟨_,_,b,a,_⟩|⟨_,_,b,a,c,d⟩
 ·exact absurd g i
 ·exact absurd ⟨by omega,j⟩ e
 ·exact⟨fun h=>absurd h b,fun _=>a⟩
 exact⟨fun _=>⟨a,c,d⟩,fun h=>absurd b h⟩
theorem zkG {w:Xn} {p:Nat} (K:ChW w0 p w V m) (Q:Rt m) (k:Nat) (f:Fr) (Y:m.fs[k]? =Xa f) (bx:f.r≠0):
  Xp prog 92 #[Xj (Xa ⟨p,0,Xb⟩),I6 (k:Int)] w fun e w'=>e= Xl (Xh (zaS m k f).1)/\Chg w0 p w V (zaS m k f).2 w':=by
 obtain⟨ck,ah⟩:=zlf Q Y bx;obtain⟨eb,ec,dq⟩:=zbx Q Y bx;have dn:=Q.inv.sl60;have ch:=Q.inv.sbl;obtain⟨E,L⟩:=kA (Zw m.sl f.r);obtain⟨aj,a7⟩:=kA (zcd m.sl f.r);have a8:Xo (∀W,zc w W->Xp prog 127 #[V.s.x,I6 f.r] W fun e w'=>∃s:Sli,e= Xl (Xm #[s.x,I6 aj,I6 E])/\Za slE W.heap.size w' (s.x) (QU m.sl f.r)/\zc W w'):=dD<|fun W am=>by
  obtain⟨-,e7,-⟩:=K.at.ns;have ag:=(K.at.grew am).sl;(try simp only[Sli.x]);rw[e7]at ag⊢;rw[<-L.out,<-a7.out];refine(zlg V.s.a V.s.c m.sl f.r W ag).mono ?_;rintro e w' ⟨ct,cx,rfl,e8,bs⟩;exact⟨⟨ct,_,cx⟩,rfl,e8,bs⟩
 have a6:Xo (E≠0->zaS m k f=(Xd,m)):=dD<|fun e=>by
  unfold zaS;rw[kF (fun Z=>e (L.symm.trans (ck Z).1))]
 have af:E=0->JU m<m.sl.length:=fun e=>Classical.byContradiction fun ds=>by
  have:=ah ds;rw[L.out,e]at this;cases this
 have i:Xo (E=0->(zaS m k f).1=Xc/\∃j:Nat,aj=(j:Int)/\j<=60/\zi m.sb.length m.sq (j:Int)=0/\(zaS m k f).2=zaK {({ m with sl:=QU m.sl f.r }:Ma)with sb:=qZ m.sb m.sq (j:Int),sq:=jB m.sb m.sq (j:Int) (pgL f.p) } k f.r ⟨2,(j:Int),Xd⟩):=dD<|fun e=>by
  have Z:=af e;obtain⟨dk,ce,cf⟩:=ck Z;have U:zi m.sb.length m.sq ((JU m:Nat):Int)=0:=by
   unfold zi;rw[kE Q.inv.sq,kE (by simp[jE];omega)]
  have S:enW ⟨2,(JU m:Int),Xd⟩=0:=Qg (by simp) ⟨by simp,by simp only;omega,fun K=>by simp at K⟩ (by simp)
  unfold zaS;rw[kE Z];refine⟨rfl,JU m,a7.symm.trans cf,by omega,U,?_⟩
  rw[zjh (m:={({ m with sl:=QU m.sl f.r }:Ma)with sb:=qZ m.sb m.sq (JU m:Int),sq:=jB m.sb m.sq (JU m:Int) (pgL f.p) }) Q rfl rfl rfl Y bx S];simp only;unfold Qe qZ jB;rw[kE U,kE U,ce]
 have a4:Xo (∀(ar:Xn) be (j:Nat) c4 c0 c5,ChW w0 p ar be {({ m with sl:=c4 }:Ma)with sb:=c0,sq:=c5 }->Xp prog 129 #[Xj (Xa ⟨p,0,Xb⟩),I6 (k:Int),Xi #[I6 2,I6 (j:Int),Xh Xd]] ar fun e w'=>(∃v,e= Xl v)/\Chg w0 p ar be (zaK {({ m with sl:=c4 }:Ma)with sb:=c0,sq:=c5 } k f.r ⟨2,(j:Int),Xd⟩) w'):=dD<|fun ar be j c4 c0 c5 dl=>zdK dl k f Y ⟨2,(j:Int),Xd⟩ Q.inv.spl ⟨eb,ec⟩ dq
 have a5:=dD K;have bw:p<w.heap.size:=K.dlt p (.inl rfl);obtain⟨eq,-⟩:=K.at.ns;obtain⟨el,dp,Z⟩:=K.at.frs k f Y;have aw:=dD dp;have ax:=dD Z
 have dr:(k:Int)< (V.f.n:Int):=by
  have:=(gS.1 Y).1;omega
 obtain⟨cb,az⟩:=kA (zaS m k f);rw[az.out]at a6 i⊢;obtain⟨⟨r,t,x,z,A,B,C,D⟩,M,bq,bo,bp,br⟩:=f;dsimp only at a8 i a4;have ee:=a5.box.box.c 0 rfl;rw[aw.out]at ee;obtain⟨db,dc,de,df,bm,dg,dh,di,dj,bn,bj,bk,bl⟩:=ax.out w (zc.refl _);dsimp only at db dc de df bm dg dh di dj bn bj bk bl
 go_enter func92,ntmps92
 go_upto_region 2 with fail;obtain⟨h,av⟩:=kA w.heap.size;obtain⟨H,R⟩:=kB (w.alloc (Xk #[U8 r,U8 t,U8 x,U8 z,U8 A,U8 B,U8 C,U8 D,I6 M,Xh bq,Xh bo,I6 bp,I6 br] 62));have ai:=gA R
 have cd:=xPT R av
 rw[R,av.out];rw[av.out]at bw;have cg:zc H H.drew:=show Below _ _ _ from(bR _ _).drew
 obtain⟨c,b⟩:∃c:Xn->Prop,Xo (∀u,c u↔zc H u):=⟨fun u=>zc H u,fun _=>Iff.rfl⟩
 have n:=(b _).2 cg;have N:zc H H.drew:=cg;have du:∀y:zh c,y.world.cell? ⟨p,2,Xb⟩=Xa (V.s.x):=fun y=>(a5.box.box.grew (ai.trans ((b _).1 y.holds))).c 2 rfl
 have e6:∀y:zh c,y.world.cell? ⟨h,8,Xb⟩=Xa (I6 M):=fun y=>(cd.box.grew ((b _).1 y.holds)).c 8 rfl
 have bv:Nonempty (zh c):=⟨⟨_,n⟩⟩;refine zG (I:=c) 15 [(7,fun v=>∃s:Sli,v= Xm #[s.x,I6 aj,I6 E])] (fun u=>zc H u) n N zY (by kernel_rfl) rfl rfl (by decide) ?hS (by kernel_rfl) ?_
 case hS=>
  intro ed ae;simp only[mC,nM,or_false]at ae;subst ae;exact⟨_,zK,rfl⟩
 simp only[Yr,Ys];refine ze ?_
 refine zJ (.tmp 19) ⟨p,0,Xb⟩ rfl rfl rfl rfl ?_;refine Uq ?_;iterate 5 refine ze ?_
 refine zI rfl rfl (fun v u=>∃(s:Sli) (G:Xn),v= Xm #[s.x,I6 aj,I6 E]/\zc H G/\zc G u/\Za slE G.heap.size u (s.x) (QU m.sl M)) (fun w' g a=>?_) (fun c7 a0=>?_)
 ·refine zQ.call [V.s.x,I6 M] rfl func127 rfl rfl rfl ?_;refine(a8 w' (ai.trans a)).mono ?_;rintro e c8 ⟨s,rfl,ah,a9⟩;exact⟨_,rfl,(b _).2 (((b _).1 g).trans a9),⟨s,rfl⟩,s,w',rfl,a,a9,ah⟩
 obtain⟨s,rfl⟩:=a0;refine Uq ?_;iterate 7 refine ze ?_
 refine qe fun ek bt P=>?_
 obtain⟨aq,G,S,X,al,c6⟩:=P;have T:aq=s:=by
  obtain⟨cu,cv,cw⟩:=s;obtain⟨cy,cz,da⟩:=aq;simp only[Value.tuple.injEq,Array.mk.injEq,List.cons.injEq,vJ,and_true]at S;obtain⟨rfl,rfl,rfl⟩:=S;rfl
 subst T;have bd:=dD<|c6.base (bS (ai.trans X))
 have au:=dD (ai.trans (X.trans al));have cr:=dD (cd.grew (X.trans al))
 by_cases an:E=0
 rotate_left
 ·have bz:(E != 0)=Xc:=by simp[an]
  have ca:=dD<|a6.out an;go_wp2;go_ret;exact⟨by rw[ca.out];rfl,by rw[ca.out];exact Chg.refl a5 au⟩
 have bz:(E != 0)=Xd:=by simp[an]
 obtain⟨ef,j,eg,es,eh,ei⟩:=i.out an;subst eg;have b8:=dD ef;have b9:=dD eh;have ba:Xo (cb.2=_):=ei;have cl:=dD (a5.box.grew au)
 go_upto_region 6 with(refine ZU rfl 30 (.tmp 36) (.tmp 33) rfl p 2 rfl (aq.x) rfl [aq.x] rfl cl (by simp[chL]) (by kernel_rfl) (by simp[Value.oneCell']) ?_)
 intro F bh aa _;have cs:Xo (zx F h 62 [U8 r,U8 t,U8 x,U8 z,U8 A,U8 B,U8 C,U8 D,I6 M,Xh bq,Xh bo,I6 bp,I6 br]):=dD<|cr.beside aa (fun k e=>by cases e;omega)
 obtain⟨l,ao,e9,bm⟩:=a5.setS au bd aa bh;have bc:=dD ao;have cp:=dD e9;have cm:=dD bm;have co:Xo (∀W,zc F W->Xp prog 128 #[Xi #[l.sb.x,l.sq.x],I6 (j:Int),Xi #[U8 r,U8 t,U8 x,U8 z,U8 A,U8 B,U8 C,U8 D]] W fun e w'=>∃d q:Sli,e= Xl (Xm #[Xi #[d.x,q.x],I6 0])/\z3 W.heap.size w' (Xi #[d.x,q.x]) (qZ m.sb m.sq (j:Int)) (jB m.sb m.sq (j:Int) (pgL ⟨r,t,x,z,A,B,C,D⟩))/\zc W w'):=show∀W,_ from fun W am=>by
  have ag:=zf2 (Xi #[l.sb.x,l.sq.x]) m.sb m.sq (j:Int) (pgL ⟨r,t,x,z,A,B,C,D⟩) rfl W ⟨_,_,rfl,(ao.at.grew am).sb,(ao.at.grew am).sq⟩;rw[b9.out]at ag;refine ag.mono ?_;rintro e w' ⟨em,rfl,cj,bs⟩;obtain⟨d,q,rfl,_,_⟩:=cj.form;exact⟨d,q,rfl,cj,bs⟩
 have dt:p<F.heap.size:=ao.dlt p (.inl rfl);have ay:Xo (p≠h):=dD<|by omega
 try simp only[Xx]
 go_upto_region 6 with fail;obtain⟨c,b⟩:∃c:Xn->Prop,Xo (∀u,c u↔zx u h 62 [U8 r,U8 t,U8 x,U8 z,U8 A,U8 B,U8 C,U8 D,I6 M,Xh bq,Xh bo,I6 bp,I6 br]):=⟨fun u=>_,fun _=>Iff.rfl⟩
 have n:=(b _).2 (cs.grew (gW _))
 have N:zc F F.drew:=show Below _ _ _ from(bR _ _).drew
 have dv:∀y:zh c,y.world.cell? ⟨h,0,Xb⟩=Xa (U8 r):=fun y=>((b _).1 y.holds).box.c 0 rfl
 have dw:∀y:zh c,y.world.cell? ⟨h,1,Xb⟩=Xa (U8 t):=fun y=>((b _).1 y.holds).box.c 1 rfl
 have dx:∀y:zh c,y.world.cell? ⟨h,2,Xb⟩=Xa (U8 x):=fun y=>((b _).1 y.holds).box.c 2 rfl
 have dy:∀y:zh c,y.world.cell? ⟨h,3,Xb⟩=Xa (U8 z):=fun y=>((b _).1 y.holds).box.c 3 rfl
 have dz:∀y:zh c,y.world.cell? ⟨h,4,Xb⟩=Xa (U8 A):=fun y=>((b _).1 y.holds).box.c 4 rfl
 have e0:∀y:zh c,y.world.cell? ⟨h,5,Xb⟩=Xa (U8 B):=fun y=>((b _).1 y.holds).box.c 5 rfl
 have e4:∀y:zh c,y.world.cell? ⟨h,6,Xb⟩=Xa (U8 C):=fun y=>((b _).1 y.holds).box.c 6 rfl
 have e5:∀y:zh c,y.world.cell? ⟨h,7,Xb⟩=Xa (U8 D):=fun y=>((b _).1 y.holds).box.c 7 rfl
 have bv:Nonempty (zh c):=⟨⟨_,n⟩⟩;refine zG (I:=c) 17 [(5,fun v=>v= Xi #[l.sb.x,l.sq.x]),(9,fun v=>∃d q:Sli,v= Xm #[Xi #[d.x,q.x],I6 0]),(16,fun _=>True)] (fun u=>zc F u) n N zY (by kernel_rfl) rfl rfl (by decide) ?hS (by kernel_rfl) ?_
 case hS=>
  intro ed ae;simp only[mC,nM,or_false]at ae
  rcases ae with rfl|rfl|rfl
  ·exact⟨_,rfl⟩
  ·exact⟨_,zK,zK,rfl⟩
  exact⟨undef,trivial⟩
 simp only[Yr,Ys];iterate 2 refine ze ?_
 refine zJ (.tmp 39) ⟨p,0,Xb⟩ rfl rfl rfl rfl ?_;refine Uq ?_;iterate 2 refine ze ?_
 refine zI rfl rfl (fun _ u=>zc F u) (fun w' g a=>?_) (fun c7 a0=>?_)
 ·refine zdH 34 (.tmp 42) rfl p 3 rfl [l.sb.x,l.sq.x] ((bc.box.box.grew a).mid 3 (fun j v ac=>by
   match j,ac with
   | 0,ac=>exact ac
   | 1,ac=>exact ac)) underlying34 rfl (by kernel_rfl) ⟨g,rfl,a⟩
 cases a0;refine Uq ?_;iterate 3 refine ze ?_
 refine zI rfl rfl (fun v u=>∃(d q:Sli) (G:Xn),v= Xm #[Xi #[d.x,q.x],I6 0]/\zc F G/\zc G u/\z3 G.heap.size u (Xi #[d.x,q.x]) (qZ m.sb m.sq (j:Int)) (jB m.sb m.sq (j:Int) (pgL ⟨r,t,x,z,A,B,C,D⟩))) (fun w' g a=>?_) (fun c7 a0=>?_)
 ·refine zQ.call [Xi #[l.sb.x,l.sq.x],I6 (j:Int),Xi #[U8 r,U8 t,U8 x,U8 z,U8 A,U8 B,U8 C,U8 D]] rfl func128 rfl rfl rfl ?_;refine(co w' a).mono ?_;rintro e c8 ⟨d,q,rfl,ah,a9⟩;exact⟨_,rfl,(b _).2 (((b _).1 g).grew a9),⟨d,q,rfl⟩,d,q,w',rfl,a,a9,ah⟩
 obtain⟨d,q,rfl⟩:=a0;refine Uq ?_;iterate 3 refine ze ?_
 refine zJ (.tmp 38) ⟨p,0,Xb⟩ rfl rfl rfl rfl ?_;refine Uq ?_;iterate 2 refine ze ?_
 refine zI rfl rfl (fun _ u=>Chg w0 p F l {({ m with sl:=QU m.sl M }:Ma)with sb:=qZ m.sb m.sq (j:Int),sq:=jB m.sb m.sq (j:Int) (pgL ⟨r,t,x,z,A,B,C,D⟩) } u) (fun w' g a=>?_) (fun c7 a0=>?_)
 ·obtain⟨ak,ap,G,S,X,al,c6⟩:=a;have T:ak=d/\ap=q:=by
   obtain⟨cu,cv,cw⟩:=d;obtain⟨cy,cz,da⟩:=ak;obtain⟨dk,ce,cf⟩:=q;obtain⟨en,eo,ep⟩:=ap;simp only[Value.tuple.injEq,Array.mk.injEq,List.cons.injEq,Value.agg.injEq,vJ,and_true]at S;obtain⟨⟨rfl,rfl,rfl⟩,rfl,rfl,rfl⟩:=S;exact⟨rfl,rfl⟩
  obtain⟨rfl,rfl⟩:=T;have c9:=X.trans al;refine QG 34 (.tmp 52) (.tmp 48) rfl p 3 rfl (Xi #[ak.x,ap.x]) rfl [ak.x,ap.x] rfl (bc.box.grew c9) (by simp[chL]) (by kernel_rfl) (by simp[Value.oneCell']) ?_
  intro bg bi ab _;exact⟨(b _).2 (((b _).1 g).beside ab (fun k e=>by cases e;exact fun e=>ay.out e.symm)),trivial,bc.setSw c9 (bS X) c6 ab bi⟩
 try simp only[Xx]
 refine qe fun bg bt P=>?_
 obtain⟨cc,ci,ea,bn⟩:=Chg.step cp cm P;have ej:Xo (ChW w0 p bg cc _):=ci;have cq:=dD ea;have cn:=dD bn;have bu:=a4.out bg cc j _ _ _ ci;go_wp2_with fail;refine bu.mono ?_;rintro e bf ⟨⟨er,rfl⟩,dm⟩;have bb:Xo (Chg w0 p w V cb.2 bf):=show Chg _ _ _ _ _ _ by rw[ba.out];exact Chg.step cq cn dm
 go_wp2;go_ret;exact⟨by rw[b8.out];rfl,bb⟩
theorem zoZ (x0 y0:Int) (x1 y1:Int) (w):(Op.equalIn 10000 214 (Xi #[I6 x0,I6 x1]) (Xi #[I6 y0,I6 y1])).run prog w= .ok ((x0 == y0) &&(x1 == y1)) w:=by
 have hf : (Tryz.prog.fieldsOf 214).toList.map (fun f => (f.name, f.type, f.offset)) = [("Proc", 3, 0), ("Page", 3, 1)] := by kernel_rfl
 rw[run_equalIn_struct w 9999 214 _ _ (by kernel_rfl) (by kernel_rfl)]
 obtain⟨f0,f1,hfs⟩:∃f0 f1,(Tryz.prog.fieldsOf 214).toList=[f0,f1]:=by
  have hl:(Tryz.prog.fieldsOf 214).toList.length=2:=by have:=congrArg List.length hf;simpa using this
  match hq:(Tryz.prog.fieldsOf 214).toList,hl with
  | [f0,f1],_=>exact⟨f0,f1,rfl⟩
 rw[hfs]at hf⊢
 simp at hf
 obtain⟨⟨n0,t0,o0⟩,⟨n1,t1,o1⟩⟩:=hf;have pI:∀(zs:Array Xq) (o:Nat) v,zs[o]? =Xa (I6 v)->(part 3 zs o).run prog w= .ok (I6 v) w:=fun zs o v hz=>run_part_plain w (by simp[Program.plainKey,underlying3]) hz
 simp only[Op.eqFields,n0,t0,o0,n1,t1,o1]
 simp[pI,run_equalIn_int w _ _ _ _ _ _ underlying3]
 by_cases e0:x0=y0
 case neg=>simp[e0]
 subst e0
 by_cases e1:x1=y1
 case neg=>simp[e1]
 subst e1;simp
def zmZ (W:Xn) (y:Addr) (x:Nat × Nat):Prop:=W.cell? y=Xa (Xe Xf (x.1:Int))/\W.cell? { block:=y.block,off:=y.off+1 }=Xa (Xe Xf (x.2:Int))
theorem zq.spots {w:Xn} {v:Xq} {l:List (Nat × Nat)} (h:zq zfc w v l):∃a c,v= O a l.length c/\∀(j:Nat) x,l[j]? =Xa x->∃ad,a=Xa ad/\∀W,zc w W->zmZ W (ad.add (j*2)) x:=by
 obtain⟨a,c,b,d⟩:=h.rows;refine⟨a,c,b,fun j x f=>?_⟩
 obtain⟨ad,e,b⟩:=d j x f;exact⟨ad,e,fun W d=>⟨b W d 0 _ rfl,b W d 1 _ rfl⟩⟩
theorem zfy (v) (l:List (Nat × Nat)) (q n:Nat) (w) (U:zq zfc w v l):
  Xp prog 167 #[v,Xi #[I6 (q:Int),I6 (n:Int)]] w fun e w'=>(∃E:Int,e= Xl (I6 E)/\(0<=E↔(q,n)∈l))/\zc w w':=by
 have s:=U.short;obtain⟨ae,af,rfl,f⟩:=U.spots;have I:=dD f;clear f U;obtain⟨L,K⟩:=kA l.length;rw[K.out]at s⊢;obtain⟨c,b⟩:∃c:Int->Prop,Xo (∀E,(0<=E↔(q,n)∈l)=c E):=⟨_,fun _=>rfl⟩
 simp only[b.out];obtain⟨a3,W⟩:=kA w.heap.size;obtain⟨ac,d⟩:=kB (w.alloc (Xk #[I6 (q:Int),I6 (n:Int)] 214));have Z:=gA d
 have a1:=xP d W
 have N:=dD d;clear d;have aa:=zoZ
 go_enter func167,ntmps167
 go_upto_region 1 with fail;rw[N.out,W.out];go_wp2
 go_loopg [5,8] L (fun a5 _ ab wr=>∃a:Nat,a<=L/\L - a<=a5/\ab=I6 a/\Xo (zc w wr)/\Xo (Box wr a3 [I6 (q:Int),I6 (n:Int)])/\Xo (∀(j:Nat) x,j<a->l[j]? =Xa x->x≠(q,n)))
 case atStart=>exact⟨0,nZ _,by omega,rfl,Z,a1,fun j x t=>absurd t (nL _)⟩
 obtain⟨a,a9,a8,rfl,F,P,V⟩:=hrel
 by_cases g:a<L
 ·have u:=kC g
  obtain⟨x,M⟩:∃x,Xo (l[a]? =Xa x):=⟨_,gE (by rw[K.out];exact g)⟩
  obtain⟨Q,rfl,Y⟩:=I.out a x M.out;have r:=dD<|fun X (a6:zc wr X)=>Y X (F.trans a6)
  clear Y;obtain⟨i,m⟩:=x;go_upto_region 4 with fail;have C:∀y:zl wr,y.world.cell? (Q.add (a*2))=Xa (I6 (i:Int)):=fun y=>(r _ y.grew).1
  have D:∀y:zl wr,y.world.cell? ⟨(Q.add (a*2)).block,(Q.add (a*2)).off+1,Xb⟩=Xa (I6 (m:Int)):=fun y=>(r _ y.grew).2
  have A:=P.gw 0 rfl
  have B:=P.gw 1 rfl
  have z:Nonempty (zl wr):=⟨⟨_,zc.refl _⟩⟩
  by_cases G:i=q/\m=n
  ·obtain⟨rfl,rfl⟩:=G;have p:Xo (c (a:Int)):=dD<|by
    rw[<-b.out];exact⟨fun _=>mG M,fun _=>by omega⟩
   refine jK [] zY (by kernel_rfl) (by simp) (by simp) ?_
   iterate 6 refine zg ?_
   refine z7 fun a0 k T=>?_
   have H:=dD (F.trans k);clear k T z C D A B;have a7:(((i:Int) ==(i:Int)) &&((m:Int) ==(m:Int)))=Xc:=by simp
   go_wp2;go_ret;exact⟨⟨_,rfl,p⟩,H⟩
  have p:Xo (∀(j:Nat) x,j<a+1->l[j]? =Xa x->x≠(q,n)):=dD<|fun j x t h=>by
   by_cases e:j=a
   ·subst e;rw[M.out]at h;cases h;exact fun e=>G (Prod.mk.inj e)
   exact V j x (by omega) h
  have a7:(((q:Int) ==(i:Int)) &&((n:Int) ==(m:Int)))=Xd:=by
   by_cases e:i=q
   ·have R:¬(n:Int)=(m:Int):=fun a4=>G ⟨e,by omega⟩
    simp[R]
   have R:¬(q:Int)=(i:Int):=fun a4=>e (by omega)
   simp[R]
  clear G;refine jK [] zY (by kernel_rfl) (by simp) (by simp) ?_
  iterate 6 refine zg ?_
  refine z7 fun a0 k T=>?_
  have H:=dD (F.trans k);have a2:=dD (P.grew k);clear k T z C D A B;go_wp2
  go_roundg (L -(a+1))
  case measure=>omega
  exact⟨a+1,by omega,by omega,by go_num,H,a2,p⟩
 have u:=kD g
 have:a=L:=by omega
 subst this;have p:Xo (c (-1)):=dD<|by
  rw[<-b.out];refine⟨fun S=>absurd S (by decide),fun S=>?_⟩
  obtain⟨j,t⟩:=Xs S;exact absurd rfl (V j _ (by rw[<-K.out];exact(gS.1 t).1) t)
 go_wp2;go_ret;exact⟨⟨_,rfl,p⟩,F⟩
theorem zcv (v) (l:List (Nat × Nat)) (q n:Nat) (w) (b:zq zfc w v l):
  Xp prog 153 #[v,Xi #[I6 (q:Int),I6 (n:Int)]] w fun e w'=>e= Xl (Xh (l.contains (q,n)))/\zc w w':=by
 have a:=zfy v l q n (w.alloc (Xk #[I6 (q:Int),I6 (n:Int)] 214)) (b.grew (za _ _));obtain⟨R,c⟩:=kA (l.contains (q,n));rw[c.out];clear b
 go_enter func153,ntmps153
 go_wp2_with fail;refine a.mono ?_;clear a;rintro e a ⟨⟨z,rfl,a⟩,b⟩;have f:=dD<|(za _ _).trans b
 clear b
 by_cases d:0<=z
 ·have b:Xo (R=Xc):=dD<|by rw[<-c.out];simpa using a.1 d
  clear a;go_wp2;go_ret;exact⟨by rw[b.out];rfl,f⟩
 have b:Xo (R=Xd):=dD<|by
  rw[<-c.out]
  cases c:l.contains (q,n)with
  | false=>rfl
  | true=>exact absurd (a.2 (by simpa using c)) d
 have c:Xo (decide (0<=z)=Xd):=decide_eq_false d;clear a;go_wp2;go_ret;exact⟨by rw[b.out,<-c.out];rfl,f⟩
theorem zpc {e:En} {a b:Int}:isE e a b=(decide (e.kind=a) && decide (e.n=b)):=by
 unfold isE
 cases c:decide (e.kind=a) <;> cases c:decide (e.n=b) <;> simp_all
theorem zlp {w:Xn} {p:Nat} (F:ChW w0 p w V m) (ap bc c0 bz:Nat) (f:Fr) (k:Nat) (a7) (l:List (Nat × Nat)) (ad:Box w ap (frv f)) (ag:Box w bc [a7]) (ah:Box w c0 [Xj (Xa ⟨p,0,Xb⟩)]) (ae:Box w bz [I6 (k:Int)]) (H:zq zfc w a7 l)
  (q n:Nat) (s:Sp) (a:Ar) (bn:m.sp[q]? =Xa s) (c4:n<64) (c9:0<=f.f) (bg:a.file=f.f->(0<=a.base/\a.base<=100)/\(0<=a.fr/\a.fr<=100)):
  Xp prog 152 #[Xi #[I6 (q:Int),I6 (n:Int)],Xi #[I6 a.fr,I6 a.tz,Xh a.rd,Xh a.wr,Xh a.sh,I6 a.file,I6 a.base],Xj (Xa ⟨ap,0,Xb⟩),Xj (Xa ⟨bc,0,Xb⟩),Xj (Xa ⟨c0,0,Xb⟩),Xj (Xa ⟨bz,0,Xb⟩)] w fun e w'=>e= Xl (Xh (J3 k f l q s a n))/\zc w w':=by
 have am:=(gS.1 bn).1;have ak:zp8 m q (n:Int)=zo s n:=by unfold zp8;rw[Sp.getD_of bn,zl9 c4]
 have bs:Xo (∀W,zc w W->Xp prog 154 #[Xj (Xa ⟨p,0,Xb⟩),Xi #[I6 (q:Int),I6 (n:Int)]] W fun e w'=>e= Xl (enV (zo s n))/\zc W w'):=dD<|fun W be=>by rw[<-ak];exact ziq (F.grew be) q am (n:Int)
 have bt:Xo (∀W,a.file=f.f->Xp prog 144 #[Xi #[I6 a.fr,I6 a.tz,Xh a.rd,Xh a.wr,Xh a.sh,I6 a.file,I6 a.base],I6 (n:Int)] W fun e w'=>e= Xl (I6 (a.base+(n:Int) - a.fr))/\zc W w'):=dD<|fun W bh=>zdn a (n:Int) W (bg bh).1 (bg bh).2 (by omega)
 have br:Xo (∀W,zc w W->Xp prog 153 #[a7,Xi #[I6 (q:Int),I6 (n:Int)]] W fun e w'=>e= Xl (Xh (l.contains (q,n)))/\zc W w'):=dD<|fun W be=>zcv a7 l q n W (H.grew be)
 have M:Xo (a.file=f.f->(qm a n).page=a.base+(n:Int) - a.fr):=dD<|fun bh=>by
  unfold qm;simp only;rw[kE (by omega)]
  omega
 have c:Xo (J3 k f l q s a n=(decide (a.file=f.f) && decide ((qm a n).page=f.x) && !(l.contains (q,n)) &&(decide ((zo s n).kind=0) || (decide ((zo s n).kind=1) && decide ((zo s n).n=(k:Int)))))):=dD<|by
  unfold J3;rw[zpc];rfl
 obtain⟨bq,ax⟩:=kA (l.contains (q,n));rw[ax.out]at br c;obtain⟨a2,b8⟩:=kA ((qm a n).page);rw[b8.out]at M c;obtain⟨B,aq,bd,aj⟩:∃B aq bd,zo s n=⟨B,aq,bd⟩:=⟨_,_,_,rfl⟩;rw[aj]at bs c;obtain⟨a3,c7⟩:=kA (J3 k f l q s a n);rw[c7.out]at c⊢;simp only at c;have a8:=dD ad;have av:=dD ag;have aw:=dD ah;have au:=dD ae;obtain⟨⟨cd,ce,cf,cg,ch,ci,cj,ck⟩,fr,cn,cm,ab,ac⟩:=f;obtain⟨aa,r,i,t,j,b,d⟩:=a;simp only at bt M c c9;clear F ad ag ah ae H bn c4 bg am ak aj;obtain⟨bx,ar⟩:=kA w.heap.size;obtain⟨N,u⟩:=kB ((w.alloc (Xk #[I6 (q:Int),I6 (n:Int)] 214)).alloc (Xk #[I6 aa,I6 r,Xh i,Xh t,Xh j,I6 b,I6 d] 105));have L:=gD2 u
 have bb:Xo (Box N bx [I6 (q:Int),I6 (n:Int)]):=dD<|by rw[<-u,<-ar.out];exact(Box.top w _ _ rfl).alloc _
 have P:Xo (Box N (bx+1) [I6 aa,I6 r,Xh i,Xh t,Xh j,I6 b,I6 d]):=dD<|by rw[<-u];exact Box.top _ [I6 aa,I6 r,Xh i,Xh t,Xh j,I6 b,I6 d] _ (by have:=ar.out;simp;omega)
 have b9:Xo (_=N):=u;clear u
 go_enter func152,ntmps152
 go_upto_region 1 with fail;rw[b9.out,ar.out];have U:=P.gw 0 rfl
 have X:=P.gw 1 rfl
 have Y:=P.gw 2 rfl
 have Z:=P.gw 3 rfl
 have I:=P.gw 4 rfl
 have a0:=P.gw 5 rfl
 have a1:=P.gw 6 rfl
 have S:=bb.gw 0 rfl
 have T:=bb.gw 1 rfl
 have v:∀A:zl N,A.world.cell? ⟨ap,11,Xb⟩=Xa (I6 ab):=fun A=>(a8.grew (L.trans A.grew)).c 11 rfl
 have x:∀A:zl N,A.world.cell? ⟨ap,12,Xb⟩=Xa (I6 ac):=fun A=>(a8.grew (L.trans A.grew)).c 12 rfl
 have Q:∀A:zl N,A.world.cell? ⟨bc,0,Xb⟩=Xa a7:=fun A=>(av.grew (L.trans A.grew)).c 0 rfl
 have R:Nonempty (zl N):=⟨⟨_,zc.refl _⟩⟩
 by_cases E:b=ab
 rotate_left
 ·have c2:(b != ab)=Xc:=by simpa using E
  have h:Xo (a3=Xd):=dD<|by rw[c.out,decide_eq_false E];rfl
  clear E;refine jK [] zY (by kernel_rfl) (by simp) (by simp) ?_
  iterate 6 refine zg ?_
  iterate 7 (refine Qk (by kernel_rfl) ?_;simp only[Xx,sB,sS,sZ])
  iterate 2 refine zg ?_
  iterate 3 (refine Qk (by kernel_rfl) ?_;simp only[Xx,sB,sS,sZ])
  refine zg ?_
  refine z7 fun ba g G=>?_
  have D:=dD (L.trans g);clear g G R U X Y Z I a0 a1 S T v x Q;go_wp2;go_ret;exact⟨by rw[h.out];rfl,D⟩
 have c2:(b != ab)=Xd:=by simp[E]
 have al:=M.out E;have y:=fun W=>bt.out W E
 rw[<-al]at y;have ay:Xo (decide (b=ab)=Xc):=decide_eq_true E;rw[ay.out]at c;clear E al
 by_cases a4:a2=ac
 rotate_left
 ·have c3:(a2 != ac)=Xc:=by simpa using a4
  have h:Xo (a3=Xd):=dD<|by rw[c.out,decide_eq_false a4];rfl
  clear a4;refine jK [(9,⟨fun K=>K=I6 a2,fun K w'=>True⟩)] zY (by kernel_rfl) ?hS ?hp ?_
  case hS=>
   intro bo z;simp only[mC,nM,or_false]at z;subst z;exact⟨_,rfl⟩
  case hp=>
   intro bo z;simp only[mC,nM,or_false]at z;subst z;exact fun _ _ _ _ F=>F
  iterate 9 refine zg ?_
  refine zH rfl rfl (fun w' bi G=>?_) (fun c5 H=>?_)
  ·refine zQ.call [Xi #[I6 aa,I6 r,Xh i,Xh t,Xh j,I6 b,I6 d],I6 (n:Int)] rfl func144 rfl rfl rfl ?_;refine(y w').mono ?_;rintro e an ⟨rfl,g⟩;exact⟨_,rfl,g,rfl,trivial⟩
  subst H;refine Uq ?_;iterate 5 refine zg ?_
  iterate 3 (refine Qk (by kernel_rfl) ?_;simp only[Xx,sB,sS,sZ])
  refine zg ?_
  refine z7 fun ba g G=>?_
  have D:=dD (L.trans g);clear g G R U X Y Z I a0 a1 S T v x Q y;go_wp2;go_ret;exact⟨by rw[h.out];rfl,D⟩
 have c3:(a2 != ac)=Xd:=by simp[a4]
 have az:Xo (decide (a2=ac)=Xc):=decide_eq_true a4;rw[az.out]at c;clear a4;refine jK [(9,⟨fun K=>K=I6 a2,fun K w'=>True⟩),(17,⟨fun K=>K= Xh bq,fun K w'=>True⟩)] zY (by kernel_rfl) ?hS ?hp ?_
 case hS=>
  intro bo z;simp only[mC,nM,or_false]at z
  rcases z with rfl|rfl
  ·exact⟨_,rfl⟩
  exact⟨_,rfl⟩
 case hp=>
  intro bo z;simp only[mC,nM,or_false]at z
  rcases z with rfl|rfl
  ·exact fun _ _ _ _ F=>F
  exact fun _ _ _ _ F=>F
 iterate 9 refine zg ?_
 refine zH rfl rfl (fun w' bi G=>?_) (fun c5 H=>?_)
 ·refine zQ.call [Xi #[I6 aa,I6 r,Xh i,Xh t,Xh j,I6 b,I6 d],I6 (n:Int)] rfl func144 rfl rfl rfl ?_;refine(y w').mono ?_;rintro e an ⟨rfl,g⟩;exact⟨_,rfl,g,rfl,trivial⟩
 subst H;refine Uq ?_;iterate 7 refine zg ?_
 refine zH rfl rfl (fun w' bi G=>?_) (fun c5 H=>?_)
 ·refine zQ.call [a7,Xi #[I6 (q:Int),I6 (n:Int)]] rfl func153 rfl rfl rfl ?_;refine(br w' (L.trans bi)).mono ?_;rintro e an ⟨rfl,g⟩;exact⟨_,rfl,g,rfl,trivial⟩
 subst H;refine Uq ?_;refine zg ?_
 refine z7 fun ba g G=>?_
 have D:=dD (L.trans g);have bv:=dD (bb.grew g);clear g G R U X Y Z I a0 a1 S T v x Q y c2 c3
 cases bq with
 | true=>
  have h:Xo (a3=Xd):=dD<|by rw[c.out];rfl
  go_wp2;go_ret;exact⟨by rw[h.out];rfl,D⟩
 | false=>
  have cb:=bv.c 0 rfl;have cc:=bv.c 1 rfl;have ca:=(aw.grew D).c 0 rfl;have ai:=bs.out ba D.out;go_wp2_with fail;refine ai.mono ?_;clear ai cb cc ca;rintro e bu ⟨rfl,c1⟩;have c6:=dD (D.trans c1);clear c1;unfold enV;go_upto_region 4 with fail;obtain⟨cl,a9⟩:=kA bu.heap.size;obtain⟨c8,C⟩:=kB (bu.alloc (Xk #[I6 B,I6 aq,Xh bd] 75));have ao:Xo (zc w c8):=show zc _ _ from c6.trans (by rw[<-C];exact za _ _)
  have bw:=xP C a9
  rw[C,a9.out];clear C;have cp:=bw.c 0 rfl;have cq:=bw.c 1 rfl;have co:=(au.grew ao).c 0 rfl
  by_cases a5:B=0
  ·have bj:(B == 0)=Xc:=by rw[a5];rfl
   have h:Xo (a3=Xc):=dD<|by rw[c.out,decide_eq_true a5];rfl
   clear a5;go_wp2;go_ret;exact⟨by rw[h.out];rfl,ao⟩
  have bj:(B == 0)=Xd:=by simpa using a5
  rw[decide_eq_false a5]at c;clear a5
  by_cases a6:B=1
  ·have bl:(B == 1)=Xc:=by rw[a6];rfl
   rw[decide_eq_true a6]at c;clear a6;have h:Xo (a3=(aq ==(k:Int))):=dD<|by rw[c.out];rfl
   go_wp2;go_ret;exact⟨by rw[h.out];rfl,ao⟩
  have bl:(B == 1)=Xd:=by simpa using a6
  rw[decide_eq_false a6]at c;clear a6;have h:Xo (a3=Xd):=dD<|by rw[c.out];rfl
  go_wp2;go_ret;exact⟨by rw[h.out];rfl,ao⟩
theorem zQ.allocFr {a:Act} {w:Xn} {K:Xq->Xn->Prop} (d:o.op= .alloc 62) (h:K (Xj (Xa ⟨w.heap.size,0,Xb⟩)) (w.alloc (Xk (frv fr0).toArray 62))):zQ prog o a w K:=by
 have e:(zeroValue 62).run prog w= .ok frz w:=by
  obtain⟨f,c,b,_,_⟩:=info_parts JR.info;have:JR.ty=62:=rfl;rw[this]at c;have b:f.zero=Xa frz:=b
  simp[zeroValue,typeInfo,c,b]
 unfold zQ;have:(execOp a.eval o).run prog w= .ok (.value (Xj (Xa ⟨w.heap.size,0,Xb⟩))) (w.alloc (Xk (frv fr0).toArray 62)):=by
  simp[execOp,d,go_sem,e]
  rfl
 rw[this];exact h
theorem zkH {w:Xn} {p:Nat} (h:ChW w0 p w V m) (hR:Rt m) (k:Nat) (f:Fr) (hk:m.fs[k]? =Xa f) (hf:0<=f.f) (mv) (l:List (Nat × Nat)) (hv:zq zfc w mv l):
  Xp prog 130 #[Xj (Xa ⟨p,0,Xb⟩),I6 (k:Int),mv] w fun e w'=>e= Xl (Xh (zgk m k f l))/\zc w w':=by
 obtain⟨ma,mc,rfl,_⟩:=hv.rows;obtain⟨mn,HMN⟩:=kA l.length;rw[HMN.out]at hv⊢;have HM:=dD h;have HV:=dD hv;have HOK:Xo (∀(q:Nat) s,m.sp[q]? =Xa s->s.ars.length<=16/\∀a∈s.ars,Zi a):=show∀(q:Nat) s,_ from fun q s hs=>by
  obtain⟨h1,h2⟩:=Zo.1 (hR.inv.spok s (mG hs)).1;exact⟨h1,h2.all⟩
 have HF0:=dD hf;obtain⟨n1,-⟩:=h.at.ns;obtain⟨ad,ha,hl⟩:=h.at.frs k f hk;have HFA:=dD ha;have HFC:=dD hl
 have hlt:(k:Int)< (V.f.n:Int):=by
  have:=(gS.1 hk).1;omega
 obtain⟨xs,hxl,hrow,hsp⟩:=h.at.spaces;obtain⟨-,-,-,-,-,-,-,-,n9⟩:=h.at.ns;obtain⟨spa,HSA⟩:=kA V.sp.a;obtain⟨sn,HSN⟩:=kA m.sp.length;have HN9:Xo (V.sp.n=sn):=dD<|by rw[n9];exact HSN.out
 have hsn4:sn<=4:=by rw[<-HSN.out];exact hR.inv.spl
 have HXL:Xo (xs.length=sn):=dD<|by rw[hxl];exact HSN.out
 have HRW:Xo (∀(j:Nat) x,xs[j]? =Xa x->∃ad,spa=Xa ad/\∀W,zc w W->zoz W (ad.add (j*10)) x):=dD<|by rw[<-HSA.out];exact hrow
 have HSP:=dD hsp
 obtain⟨SB,HSB⟩:=kA (zgk m k f l);rw[HSB.out];have HYES:Xo ((∃(q:Nat) (s:Sp) (i:Nat) (a:Ar) (n:Nat),m.sp[q]? =Xa s/\s.ars[i]? =Xa a/\ZF a n=Xc/\n<64/\J3 k f l q s a n=Xc)->SB=Xc):=dD<|fun⟨q,s,i,a,n,h1,h2,h3,h4,h5⟩=>by
  rw[<-HSB.out];exact zcY.2 ⟨q,s,i,a,n,h1,h2,h3,h4,zbe.1 h5⟩
 have HNO:Xo ((∀(q:Nat) (s:Sp) (i:Nat) (a:Ar) (n:Nat),m.sp[q]? =Xa s->s.ars[i]? =Xa a->ZF a n=Xc->n<64->J3 k f l q s a n=Xd)->SB=Xd):=dD<|fun hno=>by
  rw[<-HSB.out]
  cases hb:zgk m k f l with
  | false=>rfl
  | true=>
   obtain⟨q,s,i,a,n,h1,h2,h3,h4,h5⟩:=zcY.1 hb;have:=hno q s i a n h1 h2 h3 h4;rw[zbe.2 h5]at this;cases this
 clear h hR hk hf hv ha hl n1 n9 hxl hrow hsp;obtain⟨b,HB⟩:=kA w.heap.size;obtain⟨W0,hW0⟩:=kB (((w.alloc (Xk #[Xj (Xa ⟨p,0,Xb⟩)] 87)).alloc (Xk #[I6 (k:Int)] 3)).alloc (Xk #[O ma mn mc] 113));have G0:Xo (zc w W0):=dD<|by rw[<-hW0];exact((za _ _).trans (za _ _)).trans (za _ _)
 have P0:Xo (Box W0 b [Xj (Xa ⟨p,0,Xb⟩)]):=dD<|by rw[<-hW0,<-HB.out];exact((Box.top w [Xj (Xa ⟨p,0,Xb⟩)] _ rfl).alloc _).alloc _
 have K0:Xo (Box W0 (b+1) [I6 (k:Int)]):=dD<|by rw[<-hW0];exact(Box.top _ [I6 (k:Int)] _ (by have:=HB.out;simp;omega)).alloc _
 have M0:Xo (Box W0 (b+2) [O ma mn mc]):=dD<|by rw[<-hW0];exact Box.top _ [O ma mn mc] _ (by have:=HB.out;simp;omega)
 have HB3:Xo (W0.heap.size=b+3):=dD<|by rw[<-hW0];have:=HB.out;simp;omega
 have HW0:Xo (_=W0):=hW0;clear hW0
 go_enter func130,ntmps130
 go_upto_region 1 with fail;rw[HW0.out,HB.out];obtain⟨⟨b0,b1,b2,b3,b4,b5,b6,b7⟩,fr,fu,fd,ff,fx⟩:=f;have gd:zc W0 W0.drew:=show Below _ _ _ from(bR _ _).drew
 obtain⟨I,HI⟩:∃I:Xn->Prop,Xo (∀u,I u↔zc W0 u):=⟨fun u=>zc W0 u,fun _=>Iff.rfl⟩
 have hI0:=(HI _).2 gd;have hF0:W0.drew=W0.drew:=rfl;have hp0:=P0.h HI 0 rfl
 have hk0:=K0.h HI 0 rfl
 have hx0:∀y:zh I,y.world.cell? ⟨p,0,Xb⟩=Xa (O (Xa ad) V.f.n V.f.c):=fun y=>by rw[<-HFA.out];exact(HM.box.box.grew (G0.trans ((HI _).1 y.holds))).c 0 rfl
 have hfc:∀y:zh I,ziS y.world (ad.add (k*13)) ⟨⟨b0,b1,b2,b3,b4,b5,b6,b7⟩,fr,fu,fd,ff,fx⟩:=fun y=>HFC.out _ (G0.trans ((HI _).1 y.holds))
 have hd0:=fun y=>(hfc y).1
 have hd1:=fun y=>(hfc y).2.1
 have hd2:=fun y=>(hfc y).2.2.1
 have hd3:=fun y=>(hfc y).2.2.2.1
 have hd4:=fun y=>(hfc y).2.2.2.2.1
 have hd5:=fun y=>(hfc y).2.2.2.2.2.1
 have hd6:=fun y=>(hfc y).2.2.2.2.2.2.1
 have hd7:=fun y=>(hfc y).2.2.2.2.2.2.2.1
 have hd8:=fun y=>(hfc y).2.2.2.2.2.2.2.2.1
 have hd9:=fun y=>(hfc y).2.2.2.2.2.2.2.2.2.1
 have hd10:=fun y=>(hfc y).2.2.2.2.2.2.2.2.2.2.1
 have hd11:=fun y=>(hfc y).2.2.2.2.2.2.2.2.2.2.2.1
 have hd12:=fun y=>(hfc y).2.2.2.2.2.2.2.2.2.2.2.2
 dsimp only at hd0 hd1 hd2 hd3 hd4 hd5 hd6 hd7 hd8 hd9 hd10 hd11 hd12;clear hfc;have hne:Nonempty (zh I):=⟨⟨_,hI0⟩⟩;refine zG (I:=I) 11 [(9,fun v=>v= Xj (Xa ⟨b+3,0,Xb⟩)),(10,fun _=>True)] (fun u=>u=W0.drew) hI0 hF0 zY (by kernel_rfl) rfl rfl (by decide) ?hS (by kernel_rfl) ?_
 case hS=>
  intro x hx;simp only[mC,nM,or_false]at hx
  rcases hx with rfl|rfl
  ·exact⟨_,rfl⟩
  exact⟨undef,trivial⟩
 simp only[Yr,Ys];refine ze ?_
 refine zJ (.tmp 14) ⟨p,0,Xb⟩ rfl rfl rfl rfl ?_;refine Uq ?_;iterate 7 refine ze ?_
 refine zI rfl rfl (fun _ u=>zx u (b+3) 62 (frv fr0)/\zc W0 u) (fun w' hI' hF'=>?_) (fun v1 hv=>?_)
 ·subst hF';refine zQ.allocFr rfl ?_;have hs:W0.drew.heap.size=b+3:=HB3.out;refine⟨(HI _).2 (gd.trans (za _ _)),by rw[hs],zx.top _ (frv fr0) _ hs.symm,gd.trans (za _ _)⟩
 subst hv;refine Uq ?_;refine zI rfl rfl (fun _ u=>zx u (b+3) 62 [U8 b0,U8 b1,U8 b2,U8 b3,U8 b4,U8 b5,U8 b6,U8 b7,I6 fr,Xh fu,Xh fd,I6 ff,I6 fx]/\zc W0 u) (fun w' hI' hF'=>?_) (fun v1 hv=>?_)
 ·refine zQ.storeAllT 62 (.tmp 7) (.tmp 22) rfl (b+3) rfl [U8 b0,U8 b1,U8 b2,U8 b3,U8 b4,U8 b5,U8 b6,U8 b7,I6 fr,Xh fu,Xh fd,I6 ff,I6 fx] rfl hF'.1 rfl (by kernel_rfl) (by simp[Value.oneCell']) ?_
  intro W9 bx9 gr9 _;have g9:zc W0 W9:=zd hF'.2 gr9 (by have:=HB3.out;omega)
  exact⟨(HI _).2 g9,trivial,bx9,g9⟩
 clear hv;try simp only[Xx]
 refine qe fun W1 hI8 hF8=>?_
 have F1:=dD hF8.1.box;have G1:=dD<|G0.trans hF8.2;have P1:=dD<|P0.grew hF8.2;have K1:=dD<|K0.grew hF8.2;have M1:=dD<|M0.grew hF8.2;clear hI8 hF8 hI0 hF0 hp0 hk0 hx0 hd0 hd1 hd2 hd3 hd4 hd5 hd6 hd7 hd8 hd9 hd10 hd11 hd12 hne gd;have hmf:∀(fn:Fn) (first cap:Array Xq) (w:Xn),(Instr.makeFunc fn first cap).run prog w= .ok (.func fn first cap) w:=fun _ _ _ _=>rfl
 have eg:=enters_of func152 (by kernel_rfl) rfl
 have p0:=P1.c 0 rfl;have c10:=(HM.box.box.grew G1).c 10 rfl;rw[HN9.out,HSA.out]at c10;go_wp2;clear p0 c10;have HSEE:Xo (∀W,zc W1 W->∀(q n:Nat) s a,m.sp[q]? =Xa s->a∈s.ars->n<64->Xp prog 152 #[Xi #[I6 (q:Int),I6 (n:Int)],Xi #[I6 a.fr,I6 a.tz,Xh a.rd,Xh a.wr,Xh a.sh,I6 a.file,I6 a.base],Xj (Xa ⟨b+3,0,Xb⟩),Xj (Xa ⟨b+2,0,Xb⟩),Xj (Xa ⟨b,0,Xb⟩),Xj (Xa ⟨b+1,0,Xb⟩)] W fun e w'=>e= Xl (Xh (J3 k ⟨⟨b0,b1,b2,b3,b4,b5,b6,b7⟩,fr,fu,fd,ff,fx⟩ l q s a n))/\zc W w'):=dD<|fun W hW q n s a hs ha hn=>by
  obtain⟨a1,a2,a3,a4,a5,a6,a7,a8⟩:=(HOK q s hs).2 a ha;exact zlp (HM.grew (G1.trans hW)) (b+3) (b+2) b (b+1) ⟨⟨b0,b1,b2,b3,b4,b5,b6,b7⟩,fr,fu,fd,ff,fx⟩ k (O ma mn mc) l (F1.grew hW) (M1.grew hW) (P1.grew hW) (K1.grew hW) (HV.grew (G1.trans hW)) q n s a hs hn HF0 (fun e=>⟨⟨a6,by have:a.file=ff:=e;have h0:0<=ff:=HF0.out;have:=a8 (by omega);omega⟩,a1,by omega⟩)
 go_loopg [30] sn (fun gg s30 wr=>∃q:Nat,q<=sn/\sn - q<=gg/\s30=I6 q/\Xo (zc W1 wr)/\Xo (∀(q':Nat) (s:Sp) (i:Nat) (a:Ar) (n:Nat),q'<q->m.sp[q']? =Xa s->s.ars[i]? =Xa a->ZF a n=Xc->n<64->J3 k ⟨⟨b0,b1,b2,b3,b4,b5,b6,b7⟩,fr,fu,fd,ff,fx⟩ l q' s a n=Xd))
 case atStart=>exact⟨0,nZ _,by omega,rfl,zc.refl _,fun q' s i a n hq=>absurd hq (nL _)⟩
 obtain⟨q,hq,hgq,rfl,GW,A⟩:=hrel
 by_cases hltq:q<sn
 ·have hltz:=kC hltq
  obtain⟨x,hx⟩:∃x,xs[q]? =Xa x:=⟨_,gE (by rw[HXL.out];exact hltq)⟩
  obtain⟨s,HS⟩:∃s,Xo (m.sp[q]? =Xa s):=⟨_,gE (by rw[HSN.out];exact hltq)⟩
  have HAT:=dD<|HSP.out q x s hx HS.out;obtain⟨ad,rfl,hl⟩:=HRW.out q x hx;obtain⟨d0,d1,d2,d3,d4,d5,d6,d7,d8,d9⟩:=hl wr (G1.trans GW);clear hl hx;go_upto_region 6 with fail;obtain⟨g5,HG5⟩:=kA wr.heap.size;obtain⟨W5,hW5⟩:=kB (wr.alloc (Xk #[Xh x.live,x.ar.x,x.t0.x,x.t1.x,x.t2.x,x.t3.x,x.t4.x,x.t5.x,x.t6.x,x.t7.x] 79));have G5:Xo (zc W1 W5):=show zc _ _ from GW.trans (by rw[<-hW5];exact za _ _)
  have S5:=xP hW5 HG5
  rw[hW5,HG5.out];clear hW5 d0 d1 d2 d3 d4 d5 d6 d7 d8 d9;have HAN:=dD HAT.ar.n;obtain⟨an,HAL⟩:=kA s.ars.length;have han:an<=16:=by rw[<-HAL.out];exact(HOK q s HS).1
  obtain⟨ara,arc,hae,harw⟩:=HAT.ar.ars;simp only[vJ]at hae;have HAR:=dD harw;have s1:=S5.c 1 rfl;(try simp only[Sli.x]at s1);rw[hae.1,HAN.out,HAL.out]at s1;clear hae harw;go_wp2;clear s1
  go_loopg [38] an (fun gg s38 wr=>∃j:Nat,j<=an/\an - j<=gg/\s38=I6 j/\Xo (zc W1 wr)/\Xo (∀(i:Nat) (a:Ar) (n:Nat),i<j->s.ars[i]? =Xa a->ZF a n=Xc->n<64->J3 k ⟨⟨b0,b1,b2,b3,b4,b5,b6,b7⟩,fr,fu,fd,ff,fx⟩ l q s a n=Xd))
  case atStart=>exact⟨0,nZ _,by omega,rfl,G5,fun i a n hi=>absurd hi (nL _)⟩
  obtain⟨j,hj,hgj,rfl,GJ,AJ⟩:=hrel
  by_cases hltj:j<an
  ·have hljz:=kC hltj
   obtain⟨a,HA⟩:∃a,Xo (s.ars[j]? =Xa a):=⟨_,gE (by rw[HAL.out];exact hltj)⟩
   obtain⟨ad2,rfl,hl2⟩:=HAR.out j a HA.out;obtain⟨e0,e1,e2,e3,e4,e5,e6⟩:=hl2 wr (G1.trans GJ);have hok:=(HOK q s HS).2 a (mG HA);obtain⟨fa,hfa⟩:∃fa:Nat,a.fr=(fa:Int):=⟨a.fr.toNat,by have:=hok.1;omega⟩
   obtain⟨ta,hta⟩:∃ta:Nat,a.tz=(ta:Int):=⟨a.tz.toNat,by have:=hok.1;have:=hok.2.1;omega⟩
   have hft:fa<ta:=by have:=hok.2.1;omega
   have hta64:ta<=64:=by have:=hok.2.2.1;omega
   have HMEM:=dD<|mG HA.out;have HIN:Xo (∀n:Nat,ZF a n=Xc↔fa<=n/\n<ta):=show∀n:Nat,_ from fun n=>by rw[z4,hfa,hta];omega
   obtain⟨af,at_,ard,awr,ash,afile,abase⟩:=a;simp only at hfa hta e0 e1 e2 e3 e4 e5 e6;subst hfa;subst hta;clear hl2 hok;go_upto_region 9 with fail;obtain⟨g8,HG8⟩:=kA wr.heap.size;obtain⟨W8,hW8⟩:=kB (wr.alloc (Xk #[I6 (fa:Int),I6 (ta:Int),Xh ard,Xh awr,Xh ash,I6 afile,I6 abase] 105));have G8:Xo (zc W1 W8):=dD<|GJ.trans (by rw[<-hW8];exact za _ _)
   have S8:=xP hW8 HG8
   rw[hW8,HG8.out];clear hW8 e0 e1 e2 e3 e4 e5 e6;have y0:=S8.c 0 rfl;go_wp2;clear y0
   go_loopg [13] (ta - fa) (fun gg s13 wr=>∃n:Nat,fa<=n/\n<=ta/\ta - n<=gg/\s13=I6 n/\Xo (zc W1 wr)/\Xo (Box wr g8 [I6 (fa:Int),I6 (ta:Int),Xh ard,Xh awr,Xh ash,I6 afile,I6 abase])/\Xo (∀n':Nat,fa<=n'->n'<n->J3 k ⟨⟨b0,b1,b2,b3,b4,b5,b6,b7⟩,fr,fu,fd,ff,fx⟩ l q s ⟨(fa:Int),(ta:Int),ard,awr,ash,afile,abase⟩ n'=Xd))
   case atStart=>exact⟨fa,nR _,by omega,by omega,rfl,G8,S8,fun n' h1 h2=>absurd h2 (by omega)⟩
   obtain⟨n,hn1,hn2,hgn,rfl,GN,SN,AN⟩:=hrel;obtain⟨y0,y1,y2,y3,y4,y5,y6⟩:=SN.c7
   by_cases hltn:n<ta
   ·have hlnz:=kC hltn
    have hc:=HSEE.out wr GN q n s _ HS HMEM (by omega)
    simp only at hc;obtain⟨SE,HSE⟩:=kA (J3 k ⟨⟨b0,b1,b2,b3,b4,b5,b6,b7⟩,fr,fu,fd,ff,fx⟩ l q s ⟨(fa:Int),(ta:Int),ard,awr,ash,afile,abase⟩ n);rw[HSE.out]at hc;go_wp2_with fail;refine hc.mono ?_;rintro e W9 ⟨rfl,g9⟩;have G9:=dD (GN.trans g9);have S9:=dD (SN.grew g9);clear g9 hc y0 y1 y2 y3 y4 y5 y6
    cases SE with
    | true=>
     have HR:Xo (SB=Xc):=HYES.out ⟨q,s,j,_,n,HS,HA,(HIN n).2 ⟨hn1,hltn⟩,by omega,HSE⟩
     go_wp2;go_ret;exact⟨by rw[HR.out];rfl,G1.trans G9⟩
    | false=>
     have A9:Xo (∀n':Nat,fa<=n'->n'<n+1->J3 k ⟨⟨b0,b1,b2,b3,b4,b5,b6,b7⟩,fr,fu,fd,ff,fx⟩ l q s ⟨(fa:Int),(ta:Int),ard,awr,ash,afile,abase⟩ n'=Xd):=dD<|fun n' h1 h2=>by
      by_cases e:n'=n
      ·subst e;exact HSE.out
      exact AN n' h1 (by omega)
     go_wp2
     go_roundg (ta -(n+1))
     case measure=>omega
     exact⟨n+1,by omega,by omega,by omega,by go_num,G9,S9,A9⟩
   have hlnz:=kD hltn
   have AJ2:Xo (∀(i:Nat) (a:Ar) (n:Nat),i<j+1->s.ars[i]? =Xa a->ZF a n=Xc->n<64->J3 k ⟨⟨b0,b1,b2,b3,b4,b5,b6,b7⟩,fr,fu,fd,ff,fx⟩ l q s a n=Xd):=dD<|fun i a n' hi ha hin hn'=>by
    by_cases e:i=j
    ·subst e;rw[HA.out]at ha;cases ha;obtain⟨h1,h2⟩:=(HIN n').1 hin;exact AN n' h1 (by omega)
    exact AJ i a n' (by omega) ha hin hn'
   go_wp2
   go_roundg (an -(j+1))
   case measure=>omega
   exact⟨j+1,by omega,by omega,by go_num,GN,AJ2⟩
  have hljz:=kD hltj
  have A2:Xo (∀(q':Nat) (s:Sp) (i:Nat) (a:Ar) (n:Nat),q'<q+1->m.sp[q']? =Xa s->s.ars[i]? =Xa a->ZF a n=Xc->n<64->J3 k ⟨⟨b0,b1,b2,b3,b4,b5,b6,b7⟩,fr,fu,fd,ff,fx⟩ l q' s a n=Xd):=show∀(q':Nat) (s:Sp) (i:Nat) (a:Ar) (n:Nat),_ from fun q' s' i a n hq' hs' ha hin hn=>by
   by_cases e:q'=q
   ·subst e;rw[HS.out]at hs';cases hs';exact AJ i a n (by have:=(gS.1 ha).1;have:=HAL.out;omega) ha hin hn
   exact A q' s' i a n (by omega) hs' ha hin hn
  go_wp2
  go_roundg (sn -(q+1))
  case measure=>omega
  exact⟨q+1,by omega,by omega,by go_num,GJ,A2⟩
 have hltz:=kD hltq
 have HR:Xo (SB=Xd):=HNO.out fun q' s i a n h1 h2 h3 h4=>A.out q' s i a n (by have:=(gS.1 h1).1;have:=HSN.out;omega) h1 h2 h3 h4
 go_wp2;go_ret;exact⟨by rw[HR.out];rfl,G1.trans GW⟩
theorem zlA (a0 a1 a2 a3 a4 a5 a6 a7 a b c d e f g h:Int) (x):(Op.equalIn 10000 60 (Xi #[U8 a0,U8 a1,U8 a2,U8 a3,U8 a4,U8 a5,U8 a6,U8 a7]) (Xi #[U8 a,U8 b,U8 c,U8 d,U8 e,U8 f,U8 g,U8 h])).run prog x= .ok (decide ([a0,a1,a2,a3,a4,a5,a6,a7]=[a,b,c,d,e,f,g,h])) x:=by
 have i:=Qr 9998 a0 a1 a2 a3 a4 a5 a6 a7 a b c d e f g h x;rw[show zcq ⟨a0,a1,a2,a3,a4,a5,a6,a7⟩ ⟨a,b,c,d,e,f,g,h⟩=decide ([a0,a1,a2,a3,a4,a5,a6,a7]=[a,b,c,d,e,f,g,h])from by
  rw[Bool.eq_iff_iff,zbj,decide_eq_true_iff]
  simp]at i
 exact i
theorem zkJ {w:Xn} {p:Nat} (h:ChW w0 p w V m) (aw:Rt m) (k:Nat) (f:Fr) (a7:m.fs[k]? =Xa f) (cf:f.f≠-1) (dd:f.r≠0) (bz) (l:List (Nat × Nat)) (A:zq zfc w bz l):
  Xp prog 93 #[Xj (Xa ⟨p,0,Xb⟩),I6 (k:Int),bz] w fun e w'=>e= Xl (Xh (zdI m k f l).1)/\Chg w0 p w V (zdI m k f l).2 w':=by
 obtain⟨f2,ez,X,B,al,bs,a⟩:=JG aw a7 cf;have a8:=mG bs;have bw:ZG m f.f=al.size:=by unfold ZG;rw[a.ff,tN,gD,a.fl];rfl
 have hcut:zcH m f=Zb (pgL f.p) (B:Int) al.size:=by unfold zcH;rw[bw,a.fx]
 have e0:0<=f.f:=by rw[a.ff];omega
 obtain⟨co,br⟩:∃co,al.bl[B]? =Xa co:=⟨_,gE a.bl⟩;have s:=dD h;obtain⟨q,Z⟩:=kA (zcH m f);have a5:q.length=8:=by rw[<-Z.out,hcut];unfold Zb;simp[pgL]
 have C:Xo (∀W,zc w W->Xp prog 97 #[Xj (Xa ⟨p,0,Xb⟩),Xi (frv f).toArray] W fun e w'=>e= Xl (Xi (pgc q).toArray)/\zc W w'):=dD<|fun W z=>by
  rw[<-Z.out,hcut];exact(zck (h.grew z) f X B al a.ff a.fx a.fl a.sz a.lo).mono fun e w' S=>⟨S.1,S.2.2⟩
 obtain⟨aj,b9⟩:=kA (zgk m k f l);have ck:Xo (∀W,zc w W->Xp prog 130 #[Xj (Xa ⟨p,0,Xb⟩),I6 (k:Int),bz] W fun e w'=>e= Xl (Xh aj)/\zc W w'):=dD<|fun W z=>by
  rw[<-b9.out];exact zkH (h.grew z) aw k f a7 e0 bz l (A.grew z)
 obtain⟨ca,ab⟩:=kA (Zh m f.f f.x);have a6:ca.length=8:=by
  rw[<-ab.out];have ei:=h.at;exact zg5 ei.db.2.1 ei.dq.2.1 _ _
 have ae:Xo (∀W,zc w W->Xp prog 131 #[Xi (mL V m).toArray,I6 (X:Int),I6 (B:Int)] W fun e w'=>e= Xl (Xi (pgc ca).toArray)/\zc W w'):=dD<|fun W z=>by
  rw[<-ab.out,a.ff,a.fx];have f3:=a.sz;have f4:=a.lo;exact(zhM V m X B al co W (h.at.grew z) a.fl br (by omega) (by omega)).mono fun e w' S=>⟨S.1,S.2.2⟩
 obtain⟨T,aa⟩:=kA (decide (Qu m.fl m.cnt f.f f.x=0));have bc:Xo (∀W,zc w W->Xp prog 56 #[Xj (Xa ⟨p,0,Xb⟩),I6 (k:Int)] W fun e w'=>e= Xl (Xh T)/\Chg w0 p w V (wrM m q f.f f.x) w'):=dD<|fun W z=>by
  have eg:=zjw (h.grew z) k f a7 X B al a.ff a.fx a.fl a.sz a.lo;rw[<-hcut,Z.out,<-a.ff,<-a.fx,aa.out]at eg;exact eg.mono fun e w' S=>⟨S.1,Chg.of_grew z S.2.chg⟩
 have ba:Xo (∀W cn,ChW w0 p W cn (wrM m q f.f f.x)->Xp prog 132 #[Xj (Xa ⟨p,0,Xb⟩),I6 (k:Int)] W fun e w'=>(∃v,e= Xl v)/\Chg w0 p W cn (qd (wrM m q f.f f.x) k) w'):=dD<|fun W cn cq=>by
  have de:Rt (wrM m q f.f f.x):=by
   by_cases e:Qu m.fl m.cnt f.f f.x=0
   ·obtain⟨dq,et,eu,_⟩:=zcR (fun _ _=>False) aw a8 a e q
    rw[et];exact eu.rt
   have:wrM m q f.f f.x=m:=by unfold wrM;rw[kF e]
   rw[this];exact aw
  exact zg8 cq de k f (by rw[zk9];exact a7) cf dd
 have bb:Xo (∀W,zc w W->Xp prog 132 #[Xj (Xa ⟨p,0,Xb⟩),I6 (k:Int)] W fun e w'=>(∃v,e= Xl v)/\Chg w0 p w V (qd m k) w'):=dD<|fun W z=>(zg8 (h.grew z) aw k f a7 cf dd).mono fun e w' S=>⟨S.1,Chg.of_grew z S.2⟩
 obtain⟨ai,ac⟩:=kA (decide (q=pgL f.p));obtain⟨j,a4⟩:=kA (decide (ca=q));obtain⟨U,b8⟩:=kA (zdI m k f l);have cb:Xo (U=if ai=Xd/\aj=Xc then(Xd,m)else if f.d=Xc\/j=Xd then(if T=Xc then(Xc,qd (wrM m q f.f f.x) k)else if j=Xc then(Xc,qd m k)else(Xd,m))else(Xc,qd m k)):=dD<|by
  rw[<-b8.out];unfold zdI;rw[Z.out,b9.out,ab.out,<-ac.out,<-a4.out,<-aa.out];simp only[decide_eq_false_iff_not,decide_eq_true_eq]
 have ah:Xo (T=Xd->wrM m q f.f f.x=m):=dD<|fun e=>by
  unfold wrM;rw[kF (of_decide_eq_false (aa.trans e))]
 rw[b8.out];obtain⟨cc,cj⟩:=kA (wrM m q f.f f.x);rw[cj.out]at bc ba cb ah;obtain⟨ex,-⟩:=h.at.ns;obtain⟨ey,e5,e6⟩:=h.at.frs k f a7;have ch:=dD e5;have ci:=dD e6
 have ew:(k:Int)< (V.f.n:Int):=by
  have:=(gS.1 a7).1;omega
 have bt:=a.ff;have bu:=a.fx;obtain⟨bd,be,bf,bg,bh,bi,I,bj,a1⟩:=zfr q a5;obtain⟨e8,e9,ea,eb,ec,ed,ee,ef,ak⟩:=zfr ca a6;obtain⟨⟨am,an,ao,ap,aq,ar,au,av⟩,bp,bq,D,f0,f1⟩:=f;dsimp only at bt bu ac cb;have db:∀W,(Op.equalIn 10000 60 (Xi #[U8 bd,U8 be,U8 bf,U8 bg,U8 bh,U8 bi,U8 I,U8 bj]) (Xi #[U8 am,U8 an,U8 ao,U8 ap,U8 aq,U8 ar,U8 au,U8 av])).run prog W= .ok ai W:=fun W=>by
  rw[zlA];have:=ac.out;rw[a1]at this;rw[<-this];rfl
 have dc:∀W,(Op.equalIn 10000 60 (Xi #[U8 e8,U8 e9,U8 ea,U8 eb,U8 ec,U8 ed,U8 ee,U8 ef]) (Xi #[U8 bd,U8 be,U8 bf,U8 bg,U8 bh,U8 bi,U8 I,U8 bj])).run prog W= .ok j W:=fun W=>by
  rw[zlA,<-a1,<-ak,a4.out]
 rw[a1]at C;rw[ak]at ae;subst bt;subst bu;simp only[pgc,frv,mP,Oq]at C ae;clear h aw a7 cf dd A bs a a8 bw hcut e0 br a5 a6 e5 e6 ex a1 ak;have ej:=s.box.box.c 0 rfl;rw[ch.out]at ej;obtain⟨dr,ds,dt,du,dv,dw,bo,dx,dy,dz,bl,bm,bn⟩:=ci.out w (zc.refl _);dsimp only at dr ds dt du dv dw bo dx dy dz bl bm bn
 go_enter func93,ntmps93
 go_upto_region 2 with fail;clear dr ds dt du dv dw bo dx dy dz bl bm bn ej;obtain⟨dq,dl⟩:=kA w.heap.size;obtain⟨cd,a0⟩:=kB (w.alloc (Xk #[U8 am,U8 an,U8 ao,U8 ap,U8 aq,U8 ar,U8 au,U8 av,I6 bp,Xh bq,Xh D,I6 (X:Int),I6 (B:Int)] 62));have ax:=gA a0
 have dp:=xP a0 dl
 rw[a0,dl.out];clear a0;have e7:∀y:zl cd,Box y.world dq [U8 am,U8 an,U8 ao,U8 ap,U8 aq,U8 ar,U8 au,U8 av,I6 bp,Xh bq,Xh D,I6 (X:Int),I6 (B:Int)]:=fun y=>dp.grew y.grew
 have t:Xo (∀y:zl cd,_):=e7;clear e7;have F:=fun y=>(t y).c 0 rfl
 have G:=fun y=>(t y).c 1 rfl
 have H:=fun y=>(t y).c 2 rfl
 have K:=fun y=>(t y).c 3 rfl
 have L:=fun y=>(t y).c 4 rfl
 have M:=fun y=>(t y).c 5 rfl
 have N:=fun y=>(t y).c 6 rfl
 have P:=fun y=>(t y).c 7 rfl
 have Q:=fun y=>(t y).c 8 rfl
 have R:=fun y=>(t y).c 9 rfl
 have d:=fun y=>(t y).c 10 rfl
 have g:=fun y=>(t y).c 11 rfl
 have i:=fun y=>(t y).c 12 rfl
 have E:Nonempty (zl cd):=⟨⟨_,zc.refl _⟩⟩
 go_cut [30] (fun df c8=>df= Xh (!ai && aj)/\Xo (zc cd c8))
 case first=>
  cases ai with
  | true=>
   refine jK [(2,⟨fun v=>v= Xi #[U8 bd,U8 be,U8 bf,U8 bg,U8 bh,U8 bi,U8 I,U8 bj],fun v w'=>True⟩)] zY (by kernel_rfl) ?hS ?hp ?_
   case hS=>
    intro c9 c;simp only[mC,nM,or_false]at c;subst c;exact⟨_,rfl⟩
   case hp=>
    intro c9 c;simp only[mC,nM,or_false]at c;subst c;exact fun _ _ _ _ h=>h
   iterate 2 refine zg ?_
   refine zH rfl rfl (fun w' a2 Y=>?_) (fun cg A=>?_)
   ·refine zQ.call [Xj (Xa ⟨p,0,Xb⟩),Xi #[U8 am,U8 an,U8 ao,U8 ap,U8 aq,U8 ar,U8 au,U8 av,I6 bp,Xh bq,Xh D,I6 (X:Int),I6 (B:Int)]] rfl func97 rfl rfl rfl ?_;refine(C w' (ax.trans a2)).mono ?_;rintro e a3 ⟨rfl,n⟩;exact⟨_,rfl,n,rfl,trivial⟩
   subst A;refine Uq ?_;iterate 4 refine zg ?_
   iterate 4 (refine Qk (by kernel_rfl) ?_;simp only[Xx,sB,sS,sZ])
   refine zg ?_
   refine z7 fun ep n Y=>?_
   have a9:=dD n;clear n Y E F G H K L M N P Q R d g i;go_wp2
   go_meet
   exact⟨rfl,a9⟩
  | false=>
   refine jK [(2,⟨fun v=>v= Xi #[U8 bd,U8 be,U8 bf,U8 bg,U8 bh,U8 bi,U8 I,U8 bj],fun v w'=>True⟩),(10,⟨fun v=>v= Xh aj,fun v w'=>True⟩)] zY (by kernel_rfl) ?hS ?hp ?_
   case hS=>
    intro c9 c;simp only[mC,nM,or_false]at c
    rcases c with rfl|rfl
    ·exact⟨_,rfl⟩
    exact⟨_,rfl⟩
   case hp=>
    intro c9 c;simp only[mC,nM,or_false]at c
    rcases c with rfl|rfl
    ·exact fun _ _ _ _ h=>h
    exact fun _ _ _ _ h=>h
   iterate 2 refine zg ?_
   refine zH rfl rfl (fun w' a2 Y=>?_) (fun cg A=>?_)
   ·refine zQ.call [Xj (Xa ⟨p,0,Xb⟩),Xi #[U8 am,U8 an,U8 ao,U8 ap,U8 aq,U8 ar,U8 au,U8 av,I6 bp,Xh bq,Xh D,I6 (X:Int),I6 (B:Int)]] rfl func97 rfl rfl rfl ?_;refine(C w' (ax.trans a2)).mono ?_;rintro e a3 ⟨rfl,n⟩;exact⟨_,rfl,n,rfl,trivial⟩
   subst A;refine Uq ?_;iterate 7 refine zg ?_
   refine zH rfl rfl (fun w' a2 Y=>?_) (fun cg A=>?_)
   ·refine zQ.call [Xj (Xa ⟨p,0,Xb⟩),I6 (k:Int),bz] rfl func130 rfl rfl rfl ?_;refine(ck w' (ax.trans a2)).mono ?_;rintro e a3 ⟨rfl,n⟩;exact⟨_,rfl,n,rfl,trivial⟩
   subst A;refine Uq ?_;refine zg ?_
   refine z7 fun ep n Y=>?_
   have a9:=dD n;clear n Y E F G H K L M N P Q R d g i;go_wp2
   go_meet
   exact⟨rfl,a9⟩
 obtain⟨rfl,a9⟩:=hcut;clear E F G H K L M N P Q R d g i;obtain⟨em,cl⟩:=kA (!ai && aj);rw[cl.out]
 cases em with
 | true=>
  have x:Xo (U=(Xd,m)):=dD<|by
   rw[cb.out,kE];have:=cl.out
   cases ai <;> cases aj <;> simp_all
  go_wp2;go_ret;exact⟨by rw[x.out];rfl,by rw[x.out];exact Chg.refl s (ax.trans a9)⟩
 | false=>
  have ay:Xo (U=if D=Xc\/j=Xd then(if T=Xc then(Xc,qd cc k)else if j=Xc then(Xc,qd m k)else(Xd,m))else(Xc,qd m k)):=dD<|by
   rw[cb.out,kF];have:=cl.out
   cases ai <;> cases aj <;> simp_all
  go_upto_region 4 with fail;have b:=dD (ax.trans a9);have r:=dD (dp.grew a9);have F:=fun y:zl wc=>(r.grew y.grew).c 0 rfl
  have G:=fun y:zl wc=>(r.grew y.grew).c 1 rfl
  have H:=fun y:zl wc=>(r.grew y.grew).c 2 rfl
  have K:=fun y:zl wc=>(r.grew y.grew).c 3 rfl
  have L:=fun y:zl wc=>(r.grew y.grew).c 4 rfl
  have M:=fun y:zl wc=>(r.grew y.grew).c 5 rfl
  have N:=fun y:zl wc=>(r.grew y.grew).c 6 rfl
  have P:=fun y:zl wc=>(r.grew y.grew).c 7 rfl
  have Q:=fun y:zl wc=>(r.grew y.grew).c 8 rfl
  have R:=fun y:zl wc=>(r.grew y.grew).c 9 rfl
  have d:=fun y:zl wc=>(r.grew y.grew).c 10 rfl
  have g:=fun y:zl wc=>(r.grew y.grew).c 11 rfl
  have i:=fun y:zl wc=>(r.grew y.grew).c 12 rfl
  have cr:=fun y:zl wc=>(s.box.box.grew (b.trans y.grew)).c 0 rfl
  have cs:=fun y:zl wc=>(s.box.box.grew (b.trans y.grew)).c 1 rfl
  have ct:=fun y:zl wc=>(s.box.box.grew (b.trans y.grew)).c 2 rfl
  have cu:=fun y:zl wc=>(s.box.box.grew (b.trans y.grew)).c 3 rfl
  have cv:=fun y:zl wc=>(s.box.box.grew (b.trans y.grew)).c 4 rfl
  have cw:=fun y:zl wc=>(s.box.box.grew (b.trans y.grew)).c 5 rfl
  have cx:=fun y:zl wc=>(s.box.box.grew (b.trans y.grew)).c 6 rfl
  have cy:=fun y:zl wc=>(s.box.box.grew (b.trans y.grew)).c 7 rfl
  have cz:=fun y:zl wc=>(s.box.box.grew (b.trans y.grew)).c 8 rfl
  have da:=fun y:zl wc=>(s.box.box.grew (b.trans y.grew)).c 9 rfl
  have bv:=fun y:zl wc=>(s.box.box.grew (b.trans y.grew)).c 10 rfl
  have E:Nonempty (zl wc):=⟨⟨_,zc.refl _⟩⟩;refine jK [(8,⟨fun v=>v= Xi #[U8 e8,U8 e9,U8 ea,U8 eb,U8 ec,U8 ed,U8 ee,U8 ef],fun v w'=>True⟩),(11,⟨fun v=>v= Xi #[U8 bd,U8 be,U8 bf,U8 bg,U8 bh,U8 bi,U8 I,U8 bj],fun v w'=>True⟩)] zY (by kernel_rfl) ?hS ?hp ?_
  case hS=>
   intro c9 c;simp only[mC,nM,or_false]at c
   rcases c with rfl|rfl
   ·exact⟨_,rfl⟩
   exact⟨_,rfl⟩
  case hp=>
   intro c9 c;simp only[mC,nM,or_false]at c
   rcases c with rfl|rfl
   ·exact fun _ _ _ _ h=>h
   exact fun _ _ _ _ h=>h
  refine zg ?_
  refine znV (.tmp 31) ⟨p,0,Xb⟩ rfl rfl rfl rfl ?_;refine Uq ?_;iterate 6 refine zg ?_
  refine zH rfl rfl (fun w' a2 Y=>?_) (fun cg A=>?_)
  ·refine zQ.call [Xi (mL V m).toArray,I6 (X:Int),I6 (B:Int)] rfl func131 rfl rfl rfl ?_;refine(ae w' (b.trans a2)).mono ?_;rintro e a3 ⟨rfl,n⟩;exact⟨_,rfl,n,rfl,trivial⟩
  subst A;refine Uq ?_;iterate 2 refine zg ?_
  refine zH rfl rfl (fun w' a2 Y=>?_) (fun cg A=>?_)
  ·refine zQ.call [Xj (Xa ⟨p,0,Xb⟩),Xi #[U8 am,U8 an,U8 ao,U8 ap,U8 aq,U8 ar,U8 au,U8 av,I6 bp,Xh bq,Xh D,I6 (X:Int),I6 (B:Int)]] rfl func97 rfl rfl rfl ?_;refine(C w' (b.trans a2)).mono ?_;rintro e a3 ⟨rfl,n⟩;exact⟨_,rfl,n,rfl,trivial⟩
  subst A;refine Uq ?_;iterate 2 refine zg ?_
  refine z7 fun eq cp Y=>?_
  have dk:=dD (b.trans cp);have es:=dD (r.grew cp);clear cp Y E F G H K L M N P Q R d g i cr cs ct cu cv cw cx cy cz da bv db dc;have di:=es.c 10 rfl;go_upto_region 5 with fail
  go_cut [49] (fun dg c8=>dg= Xh (D || !j)/\c8=eq)
  case first=>
   cases D <;> cases j
   all_goals (go_wp2;go_meet;exact⟨rfl,rfl⟩)
  obtain⟨rfl,rfl⟩:=hcut;clear di;obtain⟨en,af⟩:=kA (D || !j);rw[af.out]
  cases en with
  | false=>
   have x:Xo (U=(Xc,qd m k)):=dD<|by
    rw[ay.out,kF];have:=af.out
    cases D <;> cases j <;> simp_all
   have u:=bb.out wc dk.out;go_wp2_with fail;refine u.mono ?_;clear u;rintro e ce ⟨⟨f5,rfl⟩,e3⟩;have cm:Xo (Chg w0 p w V U.2 ce):=dD<|by rw[x.out];exact e3
   clear e3;go_wp2;go_ret;exact⟨by rw[x.out];rfl,cm⟩
  | true=>
   have az:Xo (U=if T=Xc then(Xc,qd cc k)else if j=Xc then(Xc,qd m k)else(Xd,m)):=dD<|by
    rw[ay.out,kE];have:=af.out
    cases D <;> cases j <;> simp_all
   have bx:=bc.out wc dk.out;go_wp2_with fail;refine bx.mono ?_;clear bx;rintro e ce ⟨rfl,dn,I,eh,bo⟩;have cm:=dD I;have dm:=dD eh;have dj:=dD bo;have u:=ba.out ce dn I;clear I eh bo;go_upto_region 7 with fail
   go_cut [58] (fun dh c8=>dh= Xh (!T && !j)/\c8=ce)
   case first=>
    cases T <;> cases j
    all_goals (go_wp2;go_meet;exact⟨rfl,rfl⟩)
   obtain⟨rfl,rfl⟩:=hcut;obtain⟨eo,ag⟩:=kA (!T && !j);rw[ag.out]
   cases eo with
   | true=>
    have x:Xo (U=(Xd,m)/\cc=m):=dD<|by
     have cq:=ag.out;have ev:=ah.out;rw[az.out]
     cases T <;> cases j <;> simp_all
    have ek:Xo (Chg w0 p w V U.2 wc):=dD<|by
     rw[x.1,<-x.2];exact⟨dn,cm,dm,dj⟩
    clear u;go_wp2;go_ret;exact⟨by rw[x.1];rfl,ek⟩
   | false=>
    have x:Xo (U=(Xc,qd cc k)):=dD<|by
     have cq:=ag.out;have ev:=ah.out;rw[az.out]
     cases T <;> cases j <;> simp_all
    go_wp2_with fail;refine u.mono ?_;clear u;rintro e er ⟨⟨f6,rfl⟩,e4⟩;have el:Xo (Chg w0 p w V U.2 er):=dD<|by rw[x.out];exact Chg.step dm dj e4
    clear e4;go_wp2;go_ret;exact⟨by rw[x.out];rfl,el⟩
theorem zis {w:Xn} {p:Nat} (h:ChW w0 p w V m) (s:Rt m) (k:Nat) (f:Fr) (g:m.fs[k]? =Xa f) (t:f.r≠0) (q) (l:List (Nat × Nat)) (v:zq zfc w q l):
  Xp prog 48 #[Xj (Xa ⟨p,0,Xb⟩),I6 (k:Int),q] w fun e w'=>e= Xl (Xh (jT m k f l).1)/\Chg w0 p w V (jT m k f l).2 w':=by
 obtain⟨a,-⟩:=h.at.ns;obtain⟨a,a,c⟩:=h.at.frs k f g;have b:(k:Int)< (V.f.n:Int):=by
  have:=(gS.1 g).1;omega
 have b:=h.box.box.c 0 rfl;rw[a]at b;obtain⟨a,a,a,a,a,a,a,a,a,a,a,a,b⟩:=c w (zc.refl _);obtain⟨r,b⟩:=kA f.f;rw[b.out]at a
 by_cases d:f.f=-1
 ·have c:=zkG h s k f g t;have j:Xo (jT m k f l=zaS m k f):=dD<|by unfold jT;rw[kE d]
  have x:(r == -1)=Xc:=by rw[<-b.out,d];rfl
  rw[j.out];obtain⟨E,a⟩:=kA (zaS m k f);rw[a.out]at c⊢
  go_enter func48,ntmps48
  go_wp2_with fail;refine c.mono ?_;rintro e u ⟨rfl,n⟩;have i:=dD n;go_wp2;go_ret;exact⟨rfl,i⟩
 have c:=zkJ h s k f g d t q l v;have j:Xo (jT m k f l=zdI m k f l):=dD<|by unfold jT;rw[kF d]
 have x:(r == -1)=Xd:=by rw[<-b.out];simpa using d
 rw[j.out];obtain⟨E,a⟩:=kA (zdI m k f l);rw[a.out]at c⊢
 go_enter func48,ntmps48
 go_wp2_with fail;refine c.mono ?_;rintro e u ⟨rfl,n⟩;have i:=dD n;go_wp2;go_ret;exact⟨rfl,i⟩
theorem zih (n:Nat) (m:Ma) (l:List (Nat × Nat)) {k:Nat} {f:Fr} (hi:JV m.fs m.hand=(k:Int)) (a:(Zu m).fs[k]? =Xa f):freeGo (n+1) m l=if(jT (Zu m) k f l).1=Xc then jT (Zu m) k f l else freeGo n (Zu m) l:=by
 conv=>lhs;unfold freeGo
 rw[kF (by omega),hi,tN,z8 a]
theorem zig (n:Nat) (m:Ma) (l:List (Nat × Nat)) (hi:JV m.fs m.hand=-1):freeGo (n+1) m l=(Xd,Zu m):=by
 conv=>lhs;unfold freeGo
 rw[kE (by omega)]
theorem zkI {w:Xn} {p:Nat} (v:ChW w0 p w V m) (X:Rt m) (Z) (l:List (Nat × Nat)) (ai:zqr zfc (Dw p V) w Z l):
  Xp prog 26 #[Xj (Xa ⟨p,0,Xb⟩),Z] w fun e w'=>e= Xl (Xh (zcs m l).1)/\Chg w0 p w V (zcs m l).2 w':=by
 have aw:=dD ai;have au:=dD v;have av:=dD X;obtain⟨aj,-⟩:=v.at.ns;have Y:V.f.n<=40:=by have:=X.inv.fs40;omega
 obtain⟨f,z⟩:=kA (zcs m l);have A:Xo (freeGo (2*V.f.n) m l=f):=dD<|by rw[<-z.out,aj];rfl
 rw[z.out];have L:=v.box.box.c 0 rfl;clear v ai X aj;obtain⟨c,M⟩:=kA V.f.n;rw[M.out]at L Y A
 go_enter func26,ntmps26
 go_wp2;clear L
 go_loopg [14] (2*c) (fun b1 I wr=>∃(t:Nat) (a:Ma) (K:MaV),t<=2*c/\2*c - t<=b1/\I=I6 t/\Xo (ChW w0 p wr K a)/\Xo (Rt a)/\Xo (qT (Dw p V) w wr)/\Xo (∀k,Dw p K k->Dw p V k\/w.heap.size<=k)/\Xo (freeGo (2*c - t) a l=f))
 case atStart=>exact⟨0,m,V,nZ _,by omega,rfl,au,av,qT.refl _ _,(fun _ v=> .inl v:∀k,Dw p V k->Dw p V k\/w.heap.size<=k),A⟩
 obtain⟨t,a,K,b8,b2,rfl,s,a7,a6,a2,H⟩:=hrel
 by_cases b3:t<2*c
 ·have F:(t:Int)<2*(c:Int):=by omega
  obtain⟨r,B⟩:∃r,Xo (2*c - t=r+1):=⟨2*c - t - 1,show _=_ by omega⟩
  have P:Xo (2*c -(t+1)=r):=dD<|by have:=B.out;omega
  rw[B.out]at H;obtain⟨u,_,d⟩:=zdd (fun _ _=>False) a7.out
  have C:=dD u.rt;have x:=dD d;have L:=s.box.box.c 0 rfl;have b6:=s.box.box.c 1 rfl;have q:=zoH s a7.parts.1;obtain⟨b7,i⟩:=kA (JV a.fs a.hand);rw[i.out]at q x;clear u d;go_wp2_with fail;refine q.mono ?_;clear q L b6;rintro e az ⟨U,rfl,ak,u⟩;have an:=dD (s.box.grew u);have N:Xo (zb JR wr.heap.size az (U.x) (zaE a.fs a.hand)):=ak;have aq:=dD u;clear ak u
  go_upto_region 5 with(refine ZU rfl 28 (.tmp 29) (.tmp 24) rfl p 0 rfl (Xi #[U.x,I6 (zbV a.fs a.hand)]) rfl [U.x,I6 (zbV a.fs a.hand)] rfl an (by simp[chL]) (by kernel_rfl) (by simp[Value.oneCell']) ?_)
  intro T aa E _;obtain⟨a8,ab,al,ad⟩:=Chg.step a6 a2 (s.setF aq N E aa);have a4:Xo (ChW w0 p T a8 (Zu a)):=ab;have S:=dD al;have a0:=dD ad;clear aa E ab al ad;try simp only[Xx]
  rcases x with⟨D,_⟩|⟨k,j,D,W,af⟩
  ·have b:Xo (f=(Xd,Zu a)):=dD<|by rw[<-H.out,zig r a l (by rw[i.out];exact D)]
   subst D;have ax:Xo (Chg w0 p w V f.2 T):=dD<|by rw[b.out];exact⟨a8,a4,S,a0⟩
   go_wp2;go_ret;exact⟨by rw[b.out];rfl,ax⟩
  have b:Xo (f=if(jT (Zu a) k j l).1=Xc then jT (Zu a) k j l else freeGo r (Zu a) l):=dD<|by rw[<-H.out,zih r a l (by rw[i.out];exact D) W]
  have n:=zis a4 C k j W af Z l (aw T S);have h:Xo ((jT (Zu a) k j l).1=Xd->(jT (Zu a) k j l).2=Zu a):=dD<|fun e=>by
   rcases zju (Zu a) k j l with⟨b4,_⟩|⟨_,b5⟩
   ·rw[b4]at e;cases e
   exact b5
  obtain⟨ao,ar⟩:=kA (jT (Zu a) k j l);rw[ar.out]at n b h;subst D;have ah:(0:Int)<=(k:Int):=by omega
  clear W af;go_wp2_with fail;refine n.mono ?_;clear n;rintro e b0 ⟨rfl,ag⟩;obtain⟨a9,ac,am,ae⟩:=Chg.step S a0 ag;have Q:=dD ac;have a5:=dD am;have a1:=dD ae;clear ag ac am ae;obtain⟨ap,G⟩:=ao;simp only at Q b h
  cases ap with
  | true=>
   have g:Xo (f=(Xc,G)):=dD<|by rw[b.out];rfl
   have R:Xo (Chg w0 p w V f.2 b0):=dD<|by rw[g.out];exact⟨a9,Q,a5,a1⟩
   go_wp2;go_ret;exact⟨by rw[g.out];rfl,R⟩
  | false=>
   have y:=dD<|h.out rfl;have g:Xo (freeGo r G l=f):=show _=_ by rw[b.out,y.out];rfl
   have ay:Xo (Rt G):=dD<|by rw[y.out];exact C.out
   go_wp2
   go_roundg (2*c -(t+1))
   case measure=>omega
   exact⟨t+1,G,a9,by omega,by omega,by go_num,Q,ay,a5,a1,by rw[P.out];exact g⟩
 have F:¬(t:Int)<2*(c:Int):=by omega
 have a3:Xo (f=(Xd,a)):=dD<|by
  rw[<-H.out,show 2*c - t=0 by omega]
  rfl
 have R:Xo (Chg w0 p w V f.2 wr):=dD<|by rw[a3.out];exact⟨K,s,a6,a2⟩
 go_wp2;go_ret;exact⟨by rw[a3.out];rfl,R⟩
theorem zcf (V m) (file:Int) (w) (ab:zN w V m) (T:maW m=0):
  Xp prog 13 #[Xi (mL V m).toArray,I6 file] w fun e w'=>Byt m file w e w'/\zc w w':=by
 have bs:=dD ab;have r:Xo (∀W,zc w W->Xp prog 9 #[Xi (mL V m).toArray] W fun e w'=>e= Xl (I6 (maW m))/\zc W w'):=show∀W,_ from fun W b0=>by rw[T];exact zgn V m W (bs.grew b0) T
 have n:Xo (maW m=0->∀W (a y:Nat) f s,zc w W->m.fl[a]? =Xa f->f.bl[y]? =Xa s->y<=1000->Xp prog 33 #[Xi (mL V m).toArray,I6 (a:Int),I6 (y:Int)] W fun e w'=>e= Xl (Xi (pgc (qn m a y)).toArray)/\(qn m a y).length=8/\zc W w'):=dD<|fun T W a y f s b0 cb aa cf=>zdM V m a y f s W (bs.grew b0) (fun c4 t _=>zqd T c4 t) cb aa cf
 obtain⟨-,-,-,-,-,-,b3,-,-⟩:=ab.ns;obtain⟨_,_,u,_,U⟩:=z5.rows ab.fl;have H:Xo (zbL w V.fl.a m.fl):=dD<|by
  simp only[vJ]at u;rw[u.1];exact U
 obtain⟨⟨c6,c8,c7⟩,⟨cq,cs,cr⟩,⟨b4,b6,b5⟩,⟨bb,be,bd⟩,bf,bg,⟨aw,d,ax⟩,⟨ar,av,au⟩,⟨b7,b9,b8⟩⟩:=V;dsimp only[mL]at r n H b3⊢;have q:=dD b3.symm;obtain⟨E,ak⟩:=kA (maW m);rw[ak.out]at r n;clear ab b3 u U;obtain⟨ap,h⟩:=kB (w.alloc (Xk #[O c6 c8 c7,I6 m.hand,O cq cs cr,O b4 b6 b5,O bb be bd,bf.x,bg.x,O aw d ax,I6 m.cnt,O ar av au,O b7 b9 b8] 41));have B:=gA h
 have c:=xA h
 have L:=sA h
 have an:=dD h;clear h
 go_enter func13,ntmps13
 go_upto_region 1 with fail;rw[an.out];obtain⟨bh,bi,bj,bl,bm,bn,bo,a3,bp,bq,A⟩:=c.c11;have t:=r.out ap B.out;go_wp2_with fail;refine t.mono ?_;clear t bh bi bj bl bm bn bo a3 bp bq A;rintro cl a9 ⟨rfl,bx⟩;have a8:=dD bx;clear bx;have ac:=ak.out ▸ T;have b2:(E != 0)=Xd:=by simp[ac]
 have p:Xo (maW m=0):=dD<|by rw[ak.out];exact ac
 have F:Xo (file<0\/(d:Int)<=file->∀W,Byt m file w (Xl (Xm #[eS,I6 5])) W):=dD<|fun S W=>by
  have aa:QH m file=5:=by unfold QH;rw[kF (fun S=>S p),kE (by rw[q.out];exact S)]
  refine⟨_,by rw[aa],?_⟩
  unfold Q3;rw[kF (by rw[aa];decide)]
  exact zb.nil _ _ _
 have aj:=show Xo _ from n.out ac
 clear ac;have a3:=(c.grew a8).c 7 rfl
 by_cases C:file<0
 ·have M:decide (file<0)=Xc:=decide_eq_true C;have K:Xo (Byt m file w (Xl (Xm #[eS,I6 5])) a9):=F.out (.inl C) a9;clear C;go_wp2
  go_ret2
  exact⟨K,B.trans a8⟩
 have M:decide (file<0)=Xd:=decide_eq_false C
 by_cases N:(d:Int)<=file
 ·have P:decide ((d:Int)<=file)=Xc:=decide_eq_true N;have K:Xo (Byt m file w (Xl (Xm #[eS,I6 5])) a9):=F.out (.inr N) a9;clear C N;go_wp2
  go_ret2
  exact⟨K,B.trans a8⟩
 have P:decide ((d:Int)<=file)=Xd:=decide_eq_false N;go_upto_region 6 with fail;clear M P a3 b2;obtain⟨a,rfl⟩:∃a:Nat,file=(a:Int):=⟨file.toNat,by omega⟩
 obtain⟨f,a6⟩:∃f,Xo (m.fl[a]? =Xa f):=⟨_,gE (by rw[q.out];omega)⟩
 obtain⟨⟨cm,cn⟩,ad⟩:=zpq p a6.out;obtain⟨z,a7⟩:∃z:Nat,Xo (f.size=(z:Int)):=⟨f.size.toNat,show _=_ by omega⟩
 have bz:z<=96:=by have:=a7.out;omega
 have ah:Xo (∀k,k<z->k / 8<f.bl.length):=dD<|fun k cg=>by
  have az:=a7.out;rw[az]at ad;unfold JI at ad
  split at ad <;> omega
 have G:Xo (QH m (a:Int)=0):=dD<|by unfold QH;rw[kF (fun S=>S p),kF (by rw[q.out];omega)]
 have ai:Xo (Q3 m (a:Int)=(Xy z).map (byD m a)):=dD<|by
  unfold Q3;rw[kE G.out];unfold zeT;rw[show(ZG m (a:Int)).toNat=z from by unfold ZG;rw[tN,gD,a6.out];show f.size.toNat=z;rw[a7.out];rfl]
  rfl
 obtain⟨aq,rfl,c2,c3,_,Y⟩:=H.out a f a6.out;have al:Xo (∀W,zc w W->zm6 W (aq.add (a*2)) (z:Int) (O c2 f.bl.length c3)):=dD<|by rw[<-a7.out];exact Y
 have cc:(a:Int)< (d:Int):=by omega
 clear C N cm cn ad Y;go_wp2
 go_loopg [7,8] 96 (fun ca co cp wr=>∃(k:Nat) (ae:Option Addr) (af:Nat),k<=z/\z - k<=ca/\cp=I6 k/\co= O ae k af/\Xo (zc ap wr)/\Xo (zb byE (w.heap.size+1) wr (O ae k af) ((Xy k).map (byD m a))))
 case atStart=>exact⟨0,Xb,0,nZ _,by omega,rfl,rfl,a8,zb.nil _ _ _⟩
 obtain⟨k,ae,af,cg,ce,rfl,rfl,b,bu⟩:=hrel;have a3:=(c.grew b).c 7 rfl;obtain⟨c5,-⟩:=al.out wr (B.trans b)
 by_cases x:k<z
 ·have Z:=kC x
  obtain⟨D,g⟩:=kA (k / 8);obtain⟨a0,i⟩:=kA (k % 8);have X:a0<8:=by have:=i.out;omega
  have ch:(k:Int).tdiv 8=(D:Int):=by rw[Int.tdiv_eq_ediv_of_nonneg (by omega)];have:=g.out;omega
  have ci:(k:Int) / 8=(D:Int):=by have:=g.out;omega
  have cj:(k:Int).tmod 8=(a0:Int):=by rw[Int.tmod_eq_emod_of_nonneg (by omega)];have:=i.out;omega
  have ck:(k:Int) % 8=(a0:Int):=by have:=i.out;omega
  obtain⟨s,ag⟩:∃s,Xo (f.bl[D]? =Xa s):=⟨_,gE (by rw[<-g.out];exact ah k x)⟩
  have t:=aj.out wr a D f s (B.trans b) a6 ag (by have:=g.out;omega)
  have bh:=(c.grew b).c 0 rfl;have bi:=(c.grew b).c 1 rfl;have bj:=(c.grew b).c 2 rfl;have bl:=(c.grew b).c 3 rfl;have bm:=(c.grew b).c 4 rfl;have bn:=(c.grew b).c 5 rfl;have bo:=(c.grew b).c 6 rfl;have bp:=(c.grew b).c 8 rfl;have bq:=(c.grew b).c 9 rfl;have A:=(c.grew b).c 10 rfl;go_wp2_with fail;refine t.mono ?_;clear t bh bi bj bl bm bn bo a3 bp bq A c5;rintro cl bv ⟨rfl,v,ay⟩;have bt:=dD (b.trans ay);have ao:=dD (bu.grew ay);obtain⟨Q,br⟩:=kA (byD m a k);have b1:(pgc (qn m (a:Int) (D:Int)))[a0]? =Xa (U8 Q):=by
   rw[<-br.out];unfold byD;rw[g.out,i.out];exact zeo (by rw[gD,gE (by rw[v];exact X)];rfl)
  generalize qn m (a:Int) (D:Int)=c0 at b1 v⊢
  have j:Xo ((Xy (k+1)).map (byD m a)=(Xy k).map (byD m a)++ [Q]):=dD<|by rw[List.range_succ,List.map_append,List.map_singleton,br.out]
  have l:Xo (((Xy k).map (byD m a)).length=k):=dD<|by simp
  generalize(Xy k).map (byD m a)=acc at ao j l
  clear ay v;have am:Xo (w.heap.size+1<=bv.heap.size):=dD<|by rw[<-L.out];exact bS bt.out
  go_wp2_with (first | refine zoR rfl (.tmp 40) (.tmp 42) rfl (pgc c0) rfl a0 rfl X b1 ?_ | (at_builtin;refine zt (E:=byE) rfl (.tmp 35) (.tmp 44) rfl (w.heap.size+1) _ acc rfl (ao.grew (za _ _)) _ [Q] rfl (jV byE bv Q _ _ rfl (by decide)) ?qb ?qc ?_))
  case qb=>
   show(acc.length+1)*1<=_
   have:=l.out;omega
  case qc=>exact nT am (bS (za _ _))
  intro ct bw own R;obtain⟨a4,a5,I⟩:=own.form;rw[show(acc++ [Q]).length=k+1 from by rw[lA,l.out];rfl]at I
  subst I;have On:Xo (zb byE (w.heap.size+1) bw (O a4 (k+1) a5) ((Xy (k+1)).map (byD m a))):=dD<|by rw[j.out];exact own
  have c1:Xo (zc ap bw):=dD<|zT (bt.trans (za _ _)) R (fun c9 cd=>by
   have az:=(ao.lt c9 cd).1;rw[L.out];exact az)
  clear own R b1;go_wp2
  go_roundg (z -(k+1))
  case measure=>omega
  exact⟨k+1,a4,a5,by omega,by omega,by go_num,rfl,c1,On⟩
 have Z:=kD x
 obtain rfl:z=k:=by omega
 have K:Xo (Byt m (a:Int) w (Xl (Xm #[O ae z af,I6 0])) wr):=⟨_,by rw[G.out],by rw[ai.out];exact bu.base (Nat.le_succ _)⟩
 go_wp2
 go_ret2
 exact⟨K,B.trans b⟩
theorem zkB (h:Rt m):∀w0 W p a,ChW w0 p W a m->Xp prog 26 #[Xj (Xa ⟨p,0,Xb⟩),eS] W fun e w'=>∃b m',e= Xl (Xh b)/\(b=(zcs m []).1/\m'=(zcs m []).2)/\Chg w0 p W a m' w':=fun _ W _ _ a=>by
 refine(zkI a h (eS) [] (fun a _=>?_)).mono ?_
 ·exact zq.nil zfc a
 rintro e w' ⟨rfl,a⟩;exact⟨_,_,rfl,⟨rfl,rfl⟩,a⟩
theorem zhL (F S B:Int) (vl:Sli) (L) (file c b:Int) (w) (r:zq byE w (vl.x) L) (q:vl.n<=vl.c) (lb:∀z∈L,0<=z/\z<256):
  Xp prog 4 #[Xi #[I6 F,I6 S,I6 B],vl.x,I6 file,I6 c,I6 b] w fun e w'=>e= Xl (Xh Xc)/\zc w w':=by
 obtain⟨p,a⟩:=kB (w.alloc (Xk #[I6 F,I6 S,I6 B] 23));have t:=gA a
 have s:=xA a
 have k:Xo (_=p):=a;have g:=dD r;have f:=dD q;have d:=dD lb
 obtain⟨m,i⟩:∃m:Nat,Xo (max (min F 40) 0=(m:Int)):=⟨(max (min F 40) 0).toNat,show _=_ by omega⟩
 obtain⟨n,j⟩:∃n:Nat,Xo (max (min S 60) 0=(n:Int)):=⟨(max (min S 60) 0).toNat,show _=_ by omega⟩
 obtain⟨l,h⟩:∃l:Nat,Xo (max (min B 80) 0=(l:Int)):=⟨(max (min B 80) 0).toNat,show _=_ by omega⟩
 clear a r q lb;have a:=ziM p
 go_enter func4,ntmps4
 go_wp2_with fail;rw[k.out];refine a.mono ?_;clear a;rintro e p ⟨rfl,a⟩;have r:=dD (t.trans a);have k:=dD (s.grew a);clear a;have a:=zhl F S B m n l i j h vl L p (g.grew r) f d.out;obtain⟨d,f,g⟩:=k.c3;go_wp2_with fail;refine a.mono ?_;clear a d f g;rintro e y ⟨a2,a,T,q,g,d,d,rfl,f⟩;obtain⟨l,D⟩:=f.at;have k:Xo (∀s∈(Zn a T q).sp,Zv a.fl.length s.ars):=show∀s,_ from fun s j=>by
  obtain⟨i,g⟩:=Xs j;have g:(List.zipWith (fun s d=>{ s with tb:=Zt d }) a.sp T)[i]? =Xa s:=g
  rw[List.getElem?_zipWith]at g
  cases h:a.sp[i]? with
  | none=>rw[h]at g;simp at g
  | some m=>
   cases n:T[i]? with
   | none=>rw[h,n]at g;simp at g
   | some d=>
    rw[h,n]at g;simp only[Option.some.injEq]at g;rw[<-g];exact(f.fin m (mG h)).1
 have u:=dD f.fl2.1;have t:=dD f.rows.ap.2;have v:Xo ((Zn a T q).sp.length<=2):=show _<=_ by
  show(List.zipWith _ a.sp T).length<=2
  rw[List.length_zipWith];have:=f.sp.2;omega
 obtain⟨m,d⟩:=kA (Zn a T q);have A:Xo (zN y a2 m):=dD<|by rw[<-d.out];exact l
 have av:Xo (maW m=0):=dD<|by rw[<-d.out];exact D
 have p:Xo (Rt m):=dD<|⟨av,fun s j=>by
  obtain⟨i,g⟩:=Xs j;obtain⟨E,_,z,C⟩:=A.sp;have x:i<E.length:=by rw[z];exact(gS.1 g).1
  exact(C i _ s (gE x) g).tb.tlen⟩
 have C:=dD<|r.trans f.gr;have r:q=m.hand:=by rw[<-d.out];rfl
 have q:a.cnt=m.cnt:=by rw[<-d.out];rfl
 rw[r,q];have x:Xo (∀s∈m.sp,Zv m.fl.length s.ars):=dD<|fun s j=>by
  rw[<-d.out]at j⊢;exact k s j
 have z:Xo (m.fl.length<=5):=dD<|by rw[<-d.out];have:=u.out;show a.fl.length<=5;omega
 have x:Xo (zdV m):=dD<|by rw[<-d.out];exact t.out
 have a:Xo (m.sp.length<=2):=dD<|by rw[<-d.out];exact v.out
 clear f l D r q;go_upto_region 4 with fail;obtain⟨u,j⟩:=kA y.heap.size;obtain⟨r,a⟩:=kB (y.alloc (Xk (mL a2 m).toArray 41));have d:=gP a
 have s:=xPT a j
 have f:=dD (A.grew d);have l:=dD (C.trans d);have q:Xo (w.heap.size<=u):=show _<=_ by have:=bS C.out;have:=j.out;omega
 rw[a,j.out];clear a d;have j:=zcf a2 m file r f av.out;obtain⟨ae,af,ag,ah,ai,aj,ak,al,am,an,t⟩:=s.box.c11;go_wp2_with fail;refine j.mono ?_;clear j ae af ag ah ai aj ak al am an t;rintro az W ⟨⟨a,rfl,a⟩,d⟩;obtain⟨r,r,rfl⟩:=a.form;have y:=dD a.at;have D:=dD (s.grew d);have b0:=dD (f.grew d);have a9:=dD (l.trans d);have r:Xo (w.heap.size<=u):=q;clear a d f l;obtain⟨a,I⟩:=kA ((Q3 m file).length);rw[I.out]at y⊢;obtain⟨a,a⟩:=kA (QH m file);rw[a.out];obtain⟨ae,af,ag,ah,ai,aj,ak,al,am,an,t⟩:=D.box.c11
 by_cases a:0<=file/\file< (m.fl.length:Int)
 ·have r:=zli a2 m file W b0 p a.1 a.2;have A:=dD a
  clear a;go_wp2_with fail;refine r.mono ?_;clear r ae af ag ah ai aj ak al am an t;rintro az a3 ⟨a,s⟩
  rcases a with rfl|⟨M,E,f,v,rfl,l⟩
  ·have ao:=dD (a9.trans s);clear s;unfold qo;go_upto_region 6 with fail;obtain⟨aw,d⟩:=kB (a3.alloc (Xk zM.toArray 41));have C:=gT d ao
   rw[d];clear d;go_wp2;go_ret;exact⟨rfl,C⟩
  have u:=dD l
  obtain⟨a6,k⟩:∃a6:Nat,Xo (file=(a6:Int)):=⟨file.toNat,show _=_ by have:=A.out;omega⟩
  have q:Xo (Syn (JS M) a6):=dD<|znj p x f (by rw[<-k.out];exact v)
  have a:=dD<|(f.goes p).trans (zij (f.goes p).rt)
  have x:=dD D.box.lt;clear l f v;obtain⟨v,f⟩:=kA (JS M);rw[f.out]at u q a⊢;go_upto_region 6 with fail;obtain⟨a5,f⟩:=kA a3.heap.size;obtain⟨aw,d⟩:=kB (a3.alloc (Xk (mL E v).toArray 41));have l:=gP d
  have V:=xPT d f
  have ad:=dD<|u.out aw (qT.grew l);have Y:=dD (a9.trans (s.trans l));have u:=dD (y.grew (s.trans l));have Z:Xo (zc w W):=a9;have a1:Xo (W.heap.size<=a5):=show _<=_ by rw[<-f.out];exact bS s
  have u:=dD<|s.trans l;rw[d,f.out];clear d s l
  by_cases f:c<0\/12<c
  ·have l:decide (c<0)=Xc\/decide (c<0)=Xd/\decide (12<c)=Xc:=by
    by_cases x:c<0
    ·exact .inl (decide_eq_true x)
    exact .inr ⟨decide_eq_false x,decide_eq_true (by omega)⟩
   clear f
   rcases l with h|⟨h,n⟩
   ·go_wp2;go_ret;exact⟨rfl,Y⟩
   go_wp2;go_ret;exact⟨rfl,Y⟩
  have h:decide (c<0)=Xd:=decide_eq_false (by omega)
  have n:decide (12<c)=Xd:=decide_eq_false (by omega)
  obtain⟨N,l⟩:∃N:Nat,Xo (c=(N:Int)):=⟨c.toNat,show _=_ by omega⟩
  have c:N<=12:=by have:=l.out;omega
  rw[l.out]at h n⊢;clear f;have ar:=dD<|fun c (l:zc W c)=>y.grew l
  go_wp2;clear h n
  go_loopg [55] N (fun l c wr=>∃(i:Nat) (h:MaV) (M:Ma),i<=N/\N - i<=l/\c=I6 i/\Xo (zc W wr)/\Xo (zx wr a5 41 (mL h M))/\Xo (zN wr h M)/\Xo (Syn M a6)/\Xo (QQ (fun _ _=>False) m M))
  case atStart=>exact⟨0,E,v,nZ _,by omega,rfl,u,V,ad,q,a⟩
  obtain⟨i,b1,c,g,g,rfl,Y,V,ad,q,a⟩:=hrel
  by_cases a7:i<N
  ·have a8:=kC a7
   have f:=zeK b1 c wr ad a.rt.w _ (zkB a.rt);obtain⟨E,G,H,K,M,P,Q,R,T,U,h⟩:=V.box.c11;go_wp2_with fail;refine f.mono ?_;clear f E G H K M P Q R T U h;rintro e a4 ⟨⟨y,g,g,f,rfl,n⟩,X⟩;obtain⟨rfl,rfl⟩:=f;have v:=dD<|q.free a.rt [];have u:Xo (QQ (fun _ _=>False) m (zcs c []).2):=show QQ _ _ _ from a.trans ((zmh a.rt []).1.mono (fun _ _ e=>by cases e))
   have a0:=dD n
   have au:=dD V.box.lt;obtain⟨x,l⟩:=kA ((zcs c []).2);obtain⟨y,f⟩:=kA ((zcs c []).1);rw[l.out]at v u a0;rw[l.out,f.out];clear n;go_upto_region 11 with fail;obtain⟨b4,n⟩:=kA a4.heap.size;obtain⟨b2,f⟩:=kB (a4.alloc (Xk (mL g x).toArray 41));have y:=gP f
   have ay:=xPT f n
   have ax:=dD (V.grew (X.trans y));have ap:=dD y;have aq:=dD (Y.trans (X.trans y));rw[f,n.out];clear f X y;have D:Xo (∀ac∈chL g x,ac.oneCell'=Xc):=show∀ac∈chL g x,_ by simp[chL,Value.oneCell']
   obtain⟨E,G,H,K,M,P,Q,R,T,U,h⟩:=ay.box.c11
   go_wp2_with (refine z9 rfl 41 (.tmp 14) (.tmp 65) rfl a5 rfl (mL g x) rfl ax rfl (by kernel_rfl) D.out ?_)
   clear E G H K M P Q R T U h;intro ax a5 D _;have b3:=dD a5;have ac:=dD<|zd aq D a1.out
   have a1:=dD<|a0.out ax ((qT.grew ap).trans (qT.grown D au));clear a5 D;go_wp2
   go_roundg (N -(i+1))
   case measure=>omega
   exact⟨i+1,g,x,by omega,by omega,by go_num,ac,b3,a1,v,u⟩
  have a8:=kD a7
  have i:=zeN b1 c b wr ad a.rt;obtain⟨E,G,H,K,M,P,Q,R,T,U,h⟩:=V.box.c11;go_wp2_with fail;refine i.mono ?_;clear i E G H K M P Q R T U h;rintro e a4 ⟨⟨g,rfl,v,-⟩,X⟩;have i:Xo (Rt (Zx c (jX (ZJ b) c.db c.dq))):=zey a.rt _;have z:=dD a.sam.fll;have u:Xo (Q3 (Zx c (jX (ZJ b) c.db c.dq)) file=Q3 m file):=show _=_ by
   rw[k.out,q.crash a.rt (by rw[z.out];have:=A.out;have:=k.out;omega),a.bytes p a6]
  have k:Xo (QH (Zx c (jX (ZJ b) c.db c.dq)) file=0):=dD<|by
   unfold QH;rw[i.w,kF (by simp),kF]
   show¬(file<0\/(c.fl.length:Int)<=file)
   rw[z.out];have:=A.out;omega
  have q:=dD v;have a:(0:Int)=(Zx c (jX (ZJ b) c.db c.dq)).hand:=rfl;have p:c.cnt=(Zx c (jX (ZJ b) c.db c.dq)).cnt:=rfl;rw[p];obtain⟨x,l⟩:=kA (Zx c (jX (ZJ b) c.db c.dq));rw[l.out]at i u k q a;rw[l.out];have c:=dD (Y.trans X);clear v X p;have b:=dD a;clear a;go_upto_region 16 with fail;obtain⟨b4,n⟩:=kA a4.heap.size;obtain⟨b2,f⟩:=kB (a4.alloc (Xk #[g.f.x,I6 0,g.s.x,g.sb.x,g.sq.x,g.db.x,g.dq.x,g.fl.x,I6 x.cnt,g.ca.x,g.sp.x] 41));have y:=gP f
  have ay:=xPT f n
  have a:=dD (q.grew y);have aq:=dD (c.trans y);rw[f,n.out];clear f y;have j:=zcf g x file b2 a i.w;(try simp only[mL]at j);rw[<-b.out]at j;obtain⟨E,G,H,K,M,P,Q,R,T,U,h⟩:=ay.box.c11;go_wp2_with fail;refine j.mono ?_;clear j E G H K M P Q R T U h;rintro az ax ⟨⟨a,rfl,a⟩,f⟩;rw[u.out]at a;rw[k.out];obtain⟨b,b,rfl⟩:=a.form;have g:=dD a.at;have ac:=dD (aq.trans f);have c:=zhk (ar ax ac);have b:=zhk g.out;clear a f;rw[I.out]at b⊢
  generalize strOfNums (Q3 m file)=a at c b
  have a:=dD (Z.trans ac);go_wp2;go_ret;exact⟨rfl,a⟩
 have r:=zgd a2 m file W b0 av (by omega)
 go_wp2_with fail;refine r.mono ?_;clear r ae af ag ah ai aj ak al am an t;rintro az a3 ⟨rfl,s⟩;have ao:=dD (a9.trans s);clear s;unfold qo;go_upto_region 6 with fail;obtain⟨aw,d⟩:=kB (a3.alloc (Xk zM.toArray 41));have C:=gT d ao
 rw[d];clear d;go_wp2;go_ret;exact⟨rfl,C⟩
end
section
open Go.ChangeShapes Go.WideShapes Go.ChangeAt Go.RowKit
theorem zq6:Tryz.prog.cellsOf 3=1:=by kernel_rfl
theorem zq7:Tryz.prog.cellsOf 5=1:=by kernel_rfl
theorem zq8:Tryz.prog.cellsOf 23=3:=by kernel_rfl
theorem zq9:Tryz.prog.bytesOf 5=1:=by kernel_rfl
section
variable{H:Type} {enc:TypeId × Xq->H} {w:Xn} {base:Nat} {spare:Nat->Bool} {zfV:Bool}
theorem zeQ {α:Type} {b:α->List Xq} {k:Nat}:∀(l:List α) (x:Addr),(∀a∈l,(b a).length=k)->(∀(i:Nat) a,l[i]? =Xa a->Zf w (x.add (i*k)) (b a))->Zf w x (l.flatMap b)
 | [],x,_,_=>fun j u b=>by simp at b
 | a :: l,x,d,h=>fun j u b=>by
  rw[Ol]at b;have e:=d a (by simp)
  rcases Nat.lt_or_ge j k with c|c
  ·rw[List.getElem?_append_left (by omega)]at b
   have:=h 0 a rfl j u b;rw[zV]at this
   simpa using this
  rw[aR (by omega),e]at b
  have e:=zeQ l (x.add k) (fun c f=>d c (by simp[f])) (fun i c d=>by
   have:=h (i+1) c (by simpa using d)
   rw[zV];rw[show k+i*k=(i+1)*k by rw[Ou];omega]
   exact this) (j - k) u b
  rw[zV,show k+(j - k)=j by omega]at e
  exact e
theorem zny {α:Type} [Inhabited α] (b:α->List Xq) (Q:α->Prop) (k:Nat) {e:TypeId} (T:Tryz.prog.underlying t=Xa (.slice e)) (P:Tryz.prog.cellsOf e=k) (g:∀n cs (x:DataW H × List MemPlace),cs.length=k->DataW.trod enc prog w base spare zfV n e cs=Xa x->∃a,Q a/\cs=b a)
  {j:Nat} {cs:List Xq} {x:DataW H × List MemPlace} (r:DataW.trod enc prog w base spare zfV j t cs=Xa x):
  ∃v l,cs=[v]/\jP b w v l/\(∀a∈l,Q a/\(b a).length=k)/\(l=[]\/∃E W,x.1= .slice E W/\E.length=l.length):=by
 rcases Go.Deep.open_slice T r with⟨rfl,_⟩|⟨a,c,q,V,n,X,Y,rfl,p,Z,I,B,C,u⟩
 ·exact⟨_,[],rfl,⟨Xb,0,rfl,fun _=>rfl,fun x C=>by cases C⟩,by simp,.inl rfl⟩
 have R:c<=V:=by rw[B];split <;> omega
 have y:∀i,i<c->∃h,Q h/\(b h).length=k/\Zf w (a.add (i*k)) (b h):=fun i d=>by
  obtain⟨L,F,N⟩:=u i (by omega)
  rw[P]at F;obtain⟨_,f,s⟩:=World.cells?_some F;obtain⟨h,S,rfl⟩:=g _ _ _ f N;refine⟨h,S,f,fun K a1 G=>?_⟩
  have A:K<k:=by rw[<-f];exact(gS.1 G).1
  rw[s K A];exact G
 obtain⟨M,z⟩:=Go.Deep.choose_lt y;refine⟨_,(Xy c).map M,rfl,⟨Xa a,q,by simp,fun r=>(by cases r),fun a2 U=>?_⟩,fun D p=>?_,.inr ⟨_,_,by rw[C],by simp⟩⟩
 ·cases U;refine zeQ (k:=k) _ _ (fun D p=>?_) (fun i D d=>?_)
  ·obtain⟨i,d,rfl⟩:=Yc.1 p;exact(z i (Xu.1 d)).2.1
  have m:i<c:=by have:=(gS.1 d).1;simpa using this
  simp[m]at d
  subst d;exact(z i m).2.2
 obtain⟨i,d,rfl⟩:=Yc.1 p;have:=z i (Xu.1 d);exact⟨this.1,this.2.1⟩
theorem zj0 {a:Nat} {r:Reach} {v:Xq} {d:DataW H} {p:List MemPlace} (l:Value.okWide prog w r a 24 v) (b:DataW.Trod enc prog w base spare zfV 24 v d p) (m:∀n∈d.weights prog 24,n<=reachBytes):
  ∃(a:Sli) (s:List Int),v=a.x/\zq byE w (a.x) s/\a.n<=a.c/\∀z∈s,0<=z/\z<256:=by
 obtain⟨a,h⟩:=b;obtain⟨a,a,k,i,r,y⟩:=zny byE.enc (fun z=>0<=z/\z<256) 1 underlying24 zq7 (fun n b x _ e=>by
  obtain⟨z,g,b,b⟩:=DataW.trod_int underlying5 e;refine⟨z,?_,g⟩;have:=b;simp only[Lit.wf,Yl,decide_eq_true_eq]at this;have f:IntKind.u8.min=0:=rfl;have e:IntKind.u8.max=255:=rfl;rw[f,e]at this;exact⟨this.1,by have:=this.2;omega⟩) h
 obtain⟨b,c,rfl,t,u⟩:=i;obtain⟨i,q,j,rfl⟩:=okWide_slice underlying24 l;have f:O i q j= O b a.length c:=by simpa [Value.cells]using k
 cases f;refine⟨⟨b,a.length,c⟩,a,rfl,⟨⟨b,c,rfl,t,u⟩,?_⟩,?_,fun z g=>(r z g).1⟩
 ·rcases y with rfl|⟨g,i,j,f⟩
  ·show 0*1<=_
   omega
  have f:d= .slice g i:=j;have:=m ((g.length+i.length)*Tryz.prog.bytesOf 5) (by rw[f];simp[DataW.weights,underlying24])
  rw[zq9]at this;unfold reachBytes at this
  show a.length*1<=_
  omega
 rcases Go.Deep.open_slice underlying24 h with⟨g,_⟩|⟨i,h,f,_,_,_,_,g,_,j,_⟩
 ·have e:O b a.length c=eS:=by simpa [Value.cells]using g
  simp only[vJ]at e
  show a.length<=c
  omega
 have e:O b a.length c= O (Xa i) h f:=by simpa [Value.cells]using g
 simp only[vJ]at e
 show a.length<=c
 omega
theorem zh2 {k:Nat} {s:Reach} {v:Xq} {d:DataW H} {p:List MemPlace} (y:Value.okWide prog w s k 23 v) (t:DataW.Trod enc prog w base spare zfV 23 v d p):∃F S B:Int,v= Xi #[I6 F,I6 S,I6 B]:=by
 obtain⟨a,rfl,x,_⟩:∃a,v= Xi a/\a.size=Tryz.prog.cellsOf 23/\Row.okWide prog w s k 23 a:=by
  simpa [Value.okWide,underlying23]using y
 obtain⟨r,b⟩:=t;obtain⟨g,n,_,_,hlen,u,b⟩:=DataW.trod_struct underlying23 b;rw[zq8]at hlen;have z:g.length=3:=u;obtain⟨a⟩:=a;simp only[Value.cells]at hlen b;have h:DataW.trod enc prog w base spare zfV n 3 ((a.drop 0).take (Tryz.prog.cellsOf 3))=g[0]?:=b 0 _ rfl;have i:DataW.trod enc prog w base spare zfV n 3 ((a.drop 1).take (Tryz.prog.cellsOf 3))=g[1]?:=b 1 _ rfl;have j:DataW.trod enc prog w base spare zfV n 3 ((a.drop 2).take (Tryz.prog.cellsOf 3))=g[2]?:=b 2 _ rfl;rw[zq6]at h i j;rw[gE (by omega)]at h i j
 obtain⟨A,l,_,_⟩:=DataW.trod_int underlying3 h;obtain⟨C,m,_,_⟩:=DataW.trod_int underlying3 i;obtain⟨D,q,_,_⟩:=DataW.trod_int underlying3 j;obtain⟨c,e,f,rfl⟩:∃c e f,a=[c,e,f]:=by
  match a,hlen with
  | [c,e,f],_=>exact⟨c,e,f,rfl⟩
 simp only[List.drop_succ_cons,List.drop_zero,List.take_succ_cons,List.take_zero,List.cons.injEq,and_true]at l m q;subst l m q;exact⟨A,C,D,rfl⟩
end
theorem own:ownKnob Tryz.prog.godebug=Xb:=by kernel_rfl
theorem laidOut:laidOutB prog=Xc:=by kernel_rfl
theorem zbU (a0:Os) (f:a0.Started) (H:Type) (enc:TypeId × Xq->H):
  ReturnsInHanded {} Tryz.checked a0 4 .any (Rows.pagingSyncSpec.pre6 enc prog Tryz.f4 Rows.pagingSyncRow.domain Xd) (Rows.pagingSyncSpec.post enc prog Tryz.f4 Xd Xc Xd Xd):=by
 refine returnsInHanded_of_change_sized (C:=Tryz.checked) own f (by kernel_rfl) func4
  (ChangeSpec.witness6 (enc:=enc) (C:=Tryz.checked) Xd ⟨#[],#[Xi #[I6 0,I6 0,I6 0],eS,I6 0,I6 0,I6 0],[]⟩ 8 (by kernel_rfl) (by kernel_rfl) (by kernel_rfl) (by kernel_rfl)) ?_
 intro W k c U ah s e X Y h _;have r:(DataW.weightsEach prog (Tryz.f4.params.toList++Rows.pagingSyncSpec.plain.varTypes prog) (U++ah)).all (·<=reachBytes)=Xc:=h;have a:∀(Z:Nat) i v,Tryz.f4.params[Z]? =Xa i->c[Z]? =Xa v->Value.okWide prog W .any k i v:=e;have u:=X;obtain⟨ay,bk,l,an,rfl,ap,ar⟩:=X;have V:DataW.TrodAll enc prog W 0 (fun _=>Xc) Xc Tryz.f4.params.toList c.toList U ay:=l
 rw[Tryz.params4]at V a r;obtain⟨a1,ba,bf,ac,az,bl,w,rfl,rfl,A,b4⟩:=trodAll_cons V;obtain⟨a2,bb,ab,ad,b0,bm,rfl,rfl,rfl,B,b5⟩:=trodAll_cons b4;obtain⟨a3,bc,bg,ae,b1,bn,rfl,rfl,rfl,D,b6⟩:=trodAll_cons b5;obtain⟨a4,bd,bh,af,b2,bo,rfl,rfl,rfl,F,b7⟩:=trodAll_cons b6;obtain⟨a5,be,bi,ag,b3,bp,rfl,rfl,rfl,K,b8⟩:=trodAll_cons b7;obtain⟨rfl,rfl,rfl⟩:=trodAll_nil b8;obtain rfl:c=#[a1,a2,a3,a4,a5]:=by cases c;simp_all
 obtain⟨rfl,rfl⟩:=trodVars_none an;have M:∀x∈az,x.block<W.heap.size:=by obtain⟨m,g⟩:=A;exact DataW.trod_lt m _ _ _ g
 have N:∀x∈b0,x.block<W.heap.size:=by obtain⟨m,g⟩:=B;exact DataW.trod_lt m _ _ _ g
 have P:∀x∈b1,x.block<W.heap.size:=by obtain⟨m,g⟩:=D;exact DataW.trod_lt m _ _ _ g
 have Q:∀x∈b2,x.block<W.heap.size:=by obtain⟨m,g⟩:=F;exact DataW.trod_lt m _ _ _ g
 have R:∀x∈b3,x.block<W.heap.size:=by obtain⟨m,g⟩:=K;exact DataW.trod_lt m _ _ _ g
 obtain⟨a9,aa,a8,y⟩:=zh2 (a 0 23 a1 rfl rfl) A;subst y;obtain⟨b9,au,z,q,p,n⟩:=zj0 (a 1 24 a2 rfl rfl) B (fun I aq=>by
  have:=List.all_eq_true.1 r I (DataW.weights_mem_each (j:=1) (t:=24) (d:=ab) rfl rfl I aq)
  simpa using this)
 subst z;have E:=D;have G:=F;have L:=K;obtain⟨av,rfl,rfl,rfl,bq⟩:=open_int underlying3 (a 2 3 a3 rfl rfl) D;obtain⟨aw,rfl,rfl,rfl,br⟩:=open_int underlying3 (a 3 3 a4 rfl rfl) F;obtain⟨ax,rfl,rfl,rfl,bs⟩:=open_int underlying3 (a 4 3 a5 rfl rfl) K;clear l e h;refine(zhL a9 aa a8 b9 au av aw ax W q p n).mono fun bj a6 ⟨ao,bel⟩=>?_
 subst ao;have b:∀{i:TypeId} {v:Xq} {T:DataW H} {S:List MemPlace},Tryz.prog.readableRec i=Xc->i<Tryz.prog.types.size->DataW.Trod enc prog W 0 (fun _=>Xc) Xc i v T S->(∀x∈S,x.block<W.heap.size)->DataW.Trod enc prog a6 0 (fun a7=>decide (a7<W.heap.size)) Xc i v T S:=
  fun aj ak al am=>Below.trod laidOut aj ak al bel am
 exact⟨_,rfl,_,_,_,[],_,[],u,trodAll_mk1 (shut_bool underlying4 _),(trodAll_cons_mk (b (by kernel_rfl) (of_decide_eq_true (by kernel_rfl)) A M) (trodAll_cons_mk (b (by kernel_rfl) (of_decide_eq_true (by kernel_rfl)) B N) (trodAll_cons_mk (b (by kernel_rfl) (of_decide_eq_true (by kernel_rfl)) E P) (trodAll_cons_mk (b (by kernel_rfl) (of_decide_eq_true (by kernel_rfl)) G Q) (trodAll_cons_mk (b (by kernel_rfl) (of_decide_eq_true (by kernel_rfl)) L R) trodAll_mk0))))),rfl,Below.frame bel _,fun ai=>by cases ai⟩
theorem zc7:Rows.pagingSyncRow.holds Tryz.pinned (OpenSpec.ofChange Rows.pagingSyncSpec):=
 OpenClaim.holds_of_wide 4 Tryz.f4 rfl rfl rfl rfl rfl rfl rfl ⟨rfl,rfl,rfl,rfl,rfl⟩ rfl rfl rfl rfl rfl (by kernel_rfl) func4 (by kernel_rfl)
  (of_decide_eq_true (by kernel_rfl)) (by unfold Func.isWrapper;first | (rw[kE (by decide+kernel)];kernel_rfl) | (rw[kF (by decide+kernel)];exact⟨rfl,rfl⟩))
  (fun c a H b _=>zbU c a H b)
theorem pagingSync_holds:Rows.PagingSyncSaid:=zc7
#print axioms pagingSync_holds
end
end Go.Proofs.YtjjdljjhmcegdaaGreat
