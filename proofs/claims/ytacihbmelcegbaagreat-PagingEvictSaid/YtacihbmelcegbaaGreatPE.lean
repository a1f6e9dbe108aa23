/- PagingEvict, proved: where a frame is held, and a slot and a block are free, one more is, whatever the numbers and bytes. No condition. -/
import Derived.Test.YtacihbmelcegbaaGreatPE9
import Derived.Test.YtacihbmelcegbaaGreatRows
import Derived.WalkKit
import Derived.ProofKit
import Derived.OpenShut
import Derived.ShutString
import Derived.ChangeOld
import Derived.Below
import Derived.Carry
import Derived.SizedLaws
import Derived.Deep.Slices
import Derived.Test.YtacihbmelcegbaaGreatChecked
namespace Go.Proofs.YtacihbmelcegbaaGreat
open Go.Value renaming slice→O,int→Xe,bool→Xh,agg→Xi,pointer→Xj,tuple→Xm
open Go.IntKind renaming i64→Xf,u8→Xg
open Go.Obj renaming cells→Xk
open Go.Ending renaming returned→Xl
open Go renaming World→Xo,Calls→Xq,Value→Xr
open Go.RowKit renaming Hid→Xp
open Option renaming some→Xa,none→Xb
open Bool renaming true→Xc,false→Xd
open List renaming replicate→Xs
open Go.Act renaming put→Xt
open _root_.List renaming take_length→Xu,countP_le_length→Xv,getElem?_of_mem→Xw,take→Xx,drop→Xy
set_option maxRecDepth 100000
set_option maxHeartbeats 4000000
variable{V:MaV} {m:Ma} {t:TypeId} {w0:Xo}
open Go.Proofs.Tryz
section
open Go.RowKit
theorem zgE (n:Nat) (m:Ma) (l:List (Nat × Nat)) {k:Nat} {f:Fr} (hi:Qn m.fs m.hand=(k:Int)) (hk:(jd m).fs[k]? =Xa f):QU (n+1) m l=if(jJ (jd m) k f l).1=Xc then jJ (jd m) k f l else QU n (jd m) l:=by
 conv=>lhs;unfold QU
 rw[kF (by omega),hi,tN,jL hk]
theorem zgD (n:Nat) (m:Ma) (l:List (Nat × Nat)) (hi:Qn m.fs m.hand=-1):QU (n+1) m l=(Xd,jd m):=by
 conv=>lhs;unfold QU
 rw[kE (by omega)]
theorem ziM {w:Xo} {p:Nat} (h:ChW w0 p w V m) (hR:Rt m) (mv:Xr) (l:List (Nat × Nat)) (hv:zod zcV (Dw p V) w mv l):
  Xq prog 73 #[Xj (Xa ⟨p,0,Xb⟩),mv] w fun e w'=>e= Xl (Xh (zel m l).1)/\Chg w0 p w V (zel m l).2 w':=by
 have HV:Xp (zod zcV (Dw p V) w mv l):=hv;have HM:Xp (ChW w0 p w V m):=h;have HR:Xp (Rt m):=hR;obtain⟨n1,-⟩:=h.at.ns;have hn2:V.f.n<=40:=by have:=hR.inv.fs40;omega
 obtain⟨FR,HFR⟩:=kA (zel m l);have HG0:Xp (QU (2*V.f.n) m l=FR):=dD<|by rw[<-HFR.out,n1];rfl
 rw[HFR.out];have x0:=h.box.box.c 0 rfl;clear h hv hR n1;obtain⟨fn,HFN⟩:=kA V.f.n;simp only[Sli.x]at x0;rw[HFN.out]at x0 hn2 HG0
 go_enter func73,ntmps73
 go_wp2;clear x0
 go_loopg [14] (2*fn) (fun gg s14 wr=>∃(t:Nat) (mi:Ma) (Vi:MaV),t<=2*fn/\2*fn - t<=gg/\s14=I6 t/\Xp (ChW w0 p wr Vi mi)/\Xp (Rt mi)/\Xp (qW (Dw p V) w wr)/\Xp (∀k,Dw p Vi k->Dw p V k\/w.heap.size<=k)/\Xp (QU (2*fn - t) mi l=FR))
 case atStart=>exact⟨0,m,V,nZ _,by omega,rfl,HM,HR,qW.refl _ _,(fun _ h=> .inl h:∀k,Dw p V k->Dw p V k\/w.heap.size<=k),HG0⟩
 obtain⟨t,mi,Vi,ht,hgg,rfl,MI,RI,OI,DI,FI⟩:=hrel
 by_cases hlt:t<2*fn
 ·have hltz:(t:Int)<2*(fn:Int):=by omega
  obtain⟨r,HRE⟩:∃r,Xp (2*fn - t=r+1):=⟨2*fn - t - 1,show _=_ by omega⟩
  have HRT:Xp (2*fn -(t+1)=r):=dD<|by have:=HRE.out;omega
  rw[HRE.out]at FI;obtain⟨g1,_,hcase⟩:=zjQ (fun _ _=>False) RI.out
  have HRN:Xp (Rt (jd mi)):=g1.rt;have HCS:Xp ((Qn mi.fs mi.hand=-1/\JJ mi.fs=mi.fs.length)\/∃(k:Nat) (fr:Fr),Qn mi.fs mi.hand=(k:Int)/\(jd mi).fs[k]? =Xa fr/\fr.r≠0):=hcase;have x0:=MI.box.box.c 0 rfl;have x1:=MI.box.box.c 1 rfl;have hnx:=zmN MI RI.parts.1;obtain⟨NI,HNI⟩:=kA (Qn mi.fs mi.hand);rw[HNI.out]at hnx HCS;clear g1 hcase;go_wp2_with fail;refine hnx.mono ?_;clear hnx x0 x1;rintro e W1 ⟨b,rfl,nr,g1⟩;have B1:=dD (MI.box.grew g1);have HNR:Xp (zb Qj wr.heap.size W1 (b.x) (zat mi.fs mi.hand)):=nr;have G1:Xp (zc wr W1):=g1;clear nr g1
  go_upto_region 5 with(refine ZF rfl 28 (.tmp 29) (.tmp 24) rfl p 0 rfl (Xi #[b.x,I6 (zaU mi.fs mi.hand)]) rfl [b.x,I6 (zaU mi.fs mi.hand)] rfl B1 (by simp[chL]) (by kernel_rfl) (by simp[Value.oneCell']) ?_)
  intro W2 bx gr2 _;obtain⟨V2,c2,o2,d2⟩:=Chg.step OI DI (MI.setF G1 HNR gr2 bx);have M2:Xp (ChW w0 p W2 V2 (jd mi)):=c2;have O2:Xp (qW (Dw p V) w W2):=o2;have D2:Xp (∀k,Dw p V2 k->Dw p V k\/w.heap.size<=k):=d2;clear bx gr2 c2 o2 d2;try simp only[Xt]
  rcases HCS with⟨e1,_⟩|⟨k,fr,e1,e2,e3⟩
  ·have HFE:Xp (FR=(Xd,jd mi)):=dD<|by rw[<-FI.out,zgD r mi l (by rw[HNI.out];exact e1)]
   subst e1;have M3:Xp (Chg w0 p w V FR.2 W2):=dD<|by rw[HFE.out];exact⟨V2,M2,O2,D2⟩
   go_wp2;go_ret;exact⟨by rw[HFE.out];rfl,M3⟩
  have HFE:Xp (FR=if(jJ (jd mi) k fr l).1=Xc then jJ (jd mi) k fr l else QU r (jd mi) l):=dD<|by rw[<-FI.out,zgE r mi l (by rw[HNI.out];exact e1) e2]
  have hem:=zgM M2 HRN k fr e2 e3 mv l (HV W2 O2);have HEF:Xp ((jJ (jd mi) k fr l).1=Xd->(jJ (jd mi) k fr l).2=jd mi):=dD<|fun e=>by
   rcases zml (jd mi) k fr l with⟨q1,_⟩|⟨_,q2⟩
   ·rw[q1]at e;cases e
   exact q2
  obtain⟨E,HE⟩:=kA (jJ (jd mi) k fr l);rw[HE.out]at hem HFE HEF;subst e1;have hk40:(0:Int)<=(k:Int):=by omega
  clear e2 e3;go_wp2_with fail;refine hem.mono ?_;clear hem;rintro e W4 ⟨rfl,h4⟩;obtain⟨V4,c4,o4,d4⟩:=Chg.step O2 D2 h4;have M4:Xp (ChW w0 p W4 V4 E.2):=c4;have O4:Xp (qW (Dw p V) w W4):=o4;have D4:Xp (∀k,Dw p V4 k->Dw p V k\/w.heap.size<=k):=d4;clear h4 c4 o4 d4;obtain⟨EB,EM⟩:=E;simp only at M4 HFE HEF
  cases EB with
  | true=>
   have HF2:Xp (FR=(Xc,EM)):=dD<|by rw[HFE.out];rfl
   have M5:Xp (Chg w0 p w V FR.2 W4):=dD<|by rw[HF2.out];exact⟨V4,M4,O4,D4⟩
   go_wp2;go_ret;exact⟨by rw[HF2.out];rfl,M5⟩
  | false=>
   have HEM:Xp (EM=jd mi):=HEF.out rfl;have HF2:Xp (QU r EM l=FR):=show _=_ by rw[HFE.out,HEM.out];rfl
   have R4:Xp (Rt EM):=dD<|by rw[HEM.out];exact HRN.out
   go_wp2
   go_roundg (2*fn -(t+1))
   case measure=>omega
   exact⟨t+1,EM,V4,by omega,by omega,by go_num,M4,R4,O4,D4,by rw[HRT.out];exact HF2⟩
 have hltz:¬(t:Int)<2*(fn:Int):=by omega
 have HF:Xp (FR=(Xd,mi)):=dD<|by
  rw[<-FI.out,show 2*fn - t=0 by omega]
  rfl
 have M5:Xp (Chg w0 p w V FR.2 wr):=dD<|by rw[HF.out];exact⟨Vi,MI,OI,DI⟩
 go_wp2;go_ret;exact⟨by rw[HF.out];rfl,M5⟩
theorem ziG (h:Rt m):∀w0 W p V1,ChW w0 p W V1 m->Xq prog 73 #[Xj (Xa ⟨p,0,Xb⟩),eS] W fun e w'=>∃bo m',e= Xl (Xh bo)/\(bo=(zel m []).1/\m'=(zel m []).2)/\Chg w0 p W V1 m' w':=fun _ W _ _ hc=>by
 refine(ziM hc h (eS) [] (fun W' _=>?_)).mono ?_
 ·exact zm.nil zcV W'
 rintro e w' ⟨rfl,h2⟩;exact⟨_,_,rfl,⟨rfl,rfl⟩,h2⟩
theorem zfy (F S B:Int) (vl:Sli) (L:List Int) (w:Xo) (lr:zm byE w (vl.x) L) (lc:vl.n<=vl.c) (lb:∀z∈L,0<=z/\z<256):
  Xq prog 9 #[Xi #[I6 F,I6 S,I6 B],vl.x] w fun e w'=>e= Xl (Xh Xc)/\zc w w':=by
 obtain⟨W0,hW0⟩:=kB (w.alloc (Xk #[I6 F,I6 S,I6 B] 23));have G0:=gA hW0
 have C0:=xA hW0
 have HW0:Xp (_=W0):=hW0;have HLR:Xp (zm byE w (vl.x) L):=lr;have HLC:Xp (vl.n<=vl.c):=lc;have HLB:Xp (∀z∈L,0<=z/\z<256):=show∀z,_ from lb
 obtain⟨nf,HNF⟩:∃nf:Nat,Xp (max (min F 40) 0=(nf:Int)):=⟨(max (min F 40) 0).toNat,show _=_ by omega⟩
 obtain⟨ns,HNS⟩:∃ns:Nat,Xp (max (min S 60) 0=(ns:Int)):=⟨(max (min S 60) 0).toNat,show _=_ by omega⟩
 obtain⟨nb,HNB⟩:∃nb:Nat,Xp (max (min B 80) 0=(nb:Int)):=⟨(max (min B 80) 0).toNat,show _=_ by omega⟩
 clear hW0 lr lc lb;have hal:=zg1 W0
 go_enter func9,ntmps9
 go_wp2_with fail;rw[HW0.out];refine hal.mono ?_;clear hal;rintro e W1 ⟨rfl,g1⟩;have G1:=dD (G0.trans g1);have C1:=dD (C0.grew g1);clear g1;have hbu:=zfP F S B nf ns nb HNF HNS HNB vl L W1 (HLR.grew G1) HLC HLB.out;obtain⟨c0,c1,c2⟩:=C1.c3;go_wp2_with fail;refine hbu.mono ?_;clear hbu c0 c1 c2;rintro e W2 ⟨V,m0,T,hd,hi,ht,vt,rfl,hB⟩;obtain⟨at2,w2⟩:=hB.at;have HFI:Xp (∀s∈(jO m0 T hd).sp,jF m0.fl.length s.ars):=show∀s,_ from fun s hs=>by
  obtain⟨i,hi⟩:=Xw hs;have hi:(List.zipWith (fun s f=>{ s with tb:=jV f }) m0.sp T)[i]? =Xa s:=hi
  rw[List.getElem?_zipWith]at hi
  cases h1:m0.sp[i]? with
  | none=>rw[h1]at hi;simp at hi
  | some s0=>
   cases h2:T[i]? with
   | none=>rw[h1,h2]at hi;simp at hi
   | some f=>
    rw[h1,h2]at hi;simp only[Option.some.injEq]at hi;rw[<-hi];exact(hB.fin s0 (mG h1)).1
 have HF2:Xp (m0.fl.length<=2):=hB.fl2.1;have HC0:Xp (zcN m0):=hB.rows.ap.2;have HSL:Xp ((jO m0 T hd).sp.length<=2):=show _<=_ by
  show(List.zipWith _ m0.sp T).length<=2
  rw[List.length_zipWith];have:=hB.sp.2;omega
 obtain⟨m,HM⟩:=kA (jO m0 T hd);have A2:Xp (zN W2 V m):=dD<|by rw[<-HM.out];exact at2
 have HW:Xp (maW m=0):=dD<|by rw[<-HM.out];exact w2
 have HRT:Xp (Rt m):=dD<|⟨HW,fun s hs=>by
  obtain⟨i,hi⟩:=Xw hs;obtain⟨xs,_,s2,s3⟩:=A2.sp;have hx:i<xs.length:=by rw[s2];exact(gS.1 hi).1
  exact(s3 i _ s (gE hx) hi).tb.tlen⟩
 have G2:Xp (zc w W2):=G1.trans hB.gr;have hmh:hd=m.hand:=by rw[<-HM.out];rfl
 have hmc:m0.cnt=m.cnt:=by rw[<-HM.out];rfl
 rw[hmh,hmc];have HFS:Xp (∀s∈m.sp,jF m.fl.length s.ars):=dD<|fun s hs=>by
  rw[<-HM.out]at hs⊢;exact HFI s hs
 have HFL:Xp (m.fl.length<=5):=dD<|by rw[<-HM.out];have:=HF2.out;show m0.fl.length<=5;omega
 have HCC:Xp (zcN m):=dD<|by rw[<-HM.out];exact HC0.out
 have HS2:Xp (m.sp.length<=2):=dD<|by rw[<-HM.out];exact HSL.out
 clear hB at2 w2 hmh hmc;go_upto_region 4 with fail;obtain⟨pm,HPM⟩:=kA W2.heap.size;obtain⟨W2a,hW3⟩:=kB (W2.alloc (Xk (mL V m).toArray 41));have g3:=gP hW3
 have P2:=xPT hW3 HPM
 have A2a:=dD (A2.grew g3);have G2a:=dD (G2.trans g3);have HPG:Xp (w.heap.size<=pm):=show _<=_ by have:=bS G2.out;have:=HPM.out;omega
 rw[hW3,HPM.out];clear hW3 g3;have HMF:Xp (m.fs.length<=40):=HRT.inv.fs40;have hst:=HRT.inv.st;obtain⟨⟨s1,s2,s3⟩,s4,_⟩:=(qi _ _).1 hst;have h12:∀f∈m.fl,f.bl.length<=12:=fun f hf=>by
  obtain⟨k1,k2,_⟩:=s4 f hf;have:=zeq k1.1 k1.2;omega
 have H12:Xp (∀f∈m.fl,f.bl.length<=12):=dD<|h12
 obtain⟨a,c,hfe,_,hrow⟩:=qh.rows A2a.fl;simp only[vJ]at hfe;obtain⟨hfa,hfn,hfc⟩:=hfe;obtain⟨n,HN⟩:=kA m.fl.length;rw[HN.out]at hfn s1;have HR:Xp (Qv W2a a m.fl):=hrow;have HFE:Xp (V.fl.a=a/\V.fl.n=n):=show _/\_ from⟨hfa,hfn⟩
 have HZF:Xp (zcQ (m.fl.take n)=zcQ m.fl):=dD<|by rw[<-HN.out,Xu]
 have HUL:Xp (∀i,zcQ (m.fl.take i)<=60):=dD<|fun i=>by
  have h1:=zjp (fs:=m.fl.take i) fun f hf=>h12 f (List.mem_of_mem_take hf)
  have h2:(m.fl.take i).length<=n:=by rw[List.length_take,HN.out];omega
  omega
 obtain⟨cnt,HCN⟩:=kA m.cnt;rw[HCN.out]at s2 s3;clear hfa hfn hfc hrow hst s4 h12;obtain⟨n1,n2,-⟩:=A2a.ns;have HN1:Xp (V.f.n=m.fs.length):=n1;obtain⟨sa,HSA⟩:=kA V.s.a;have HSR:Xp (zaK W2a sa m.sl):=show zaK _ _ _ by rw[<-HSA.out];exact A2a.sls
 obtain⟨sn,HSN⟩:=kA m.sl.length;rw[HSN.out]at n2;have HN2:Xp (V.s.n=sn):=n2;have hsn:sn<=60:=by rw[<-HSN.out];exact HRT.inv.sl60
 have HZS:Xp (zlc m.sl=(m.sl.take sn).countP fun z=>z == 0):=dD<|by rw[<-HSN.out,Xu];rfl
 clear n1 n2;have hne:Nonempty (zn W2a):=⟨⟨_,zc.refl _⟩⟩;have hv8:∀y:zn W2a,y.world.cell? ⟨pm,8,Xb⟩=Xa (I6 cnt):=fun y=>by
  have:=(P2.box.grew y.grew).c 8 rfl;rw[HCN.out]at this;exact this
 refine ji [] zW (by kernel_rfl) (by simp) (by simp) ?_
 iterate 5 (refine zd rfl rfl rfl (fun K hK=>?_);go_big_quiet_op;refine hK _ ?_;clear hK)
 refine z6 fun W3 g3 _=>?_
 have G3:Xp (zc W2a W3):=dD<|g3
 clear g3 hv8 hne;have x2:=(P2.box.grew G3).c 2 rfl;simp only[Sli.x]at x2;rw[HSA.out,HN2.out]at x2;go_wp2;clear x2
 go_loopg [6,33] sn (fun gg s6 s33 wr=>∃kk:Nat,kk<=sn/\sn - kk<=gg/\s6=I6 (((m.sl.take kk).countP fun z=>z == 0:Nat):Int)/\s33=I6 kk/\Xp (zc W2a wr))
 case atStart=>exact⟨0,nZ _,by omega,rfl,rfl,G3⟩
 obtain⟨kk,hkk,hg,rfl,rfl,GW⟩:=hrel
 by_cases hlt:kk<sn
 ·have hltz:=kC hlt
  obtain⟨z,HK⟩:∃z,Xp (m.sl[kk]? =Xa z):=⟨_,gE (by rw[HSN.out];exact hlt)⟩
  obtain⟨ad,rfl,hl⟩:=HSR.out kk z HK.out;have d0:=hl wr GW.out;clear hl;have HC:Xp ((m.sl.take (kk+1)).countP (fun z=>z == 0)=(m.sl.take kk).countP (fun z=>z == 0)+(if(z == 0)=Xc then 1 else 0)):=za3 _ HK.out
  have HCL:Xp ((m.sl.take kk).countP (fun z=>z == 0)<=kk):=dD<|nT Xv (by simp;omega)
  generalize hcn:(m.sl.take kk).countP (fun z=>z == 0)=cn at HC HCL
  clear hcn;have hcl:cn<=kk:=HCL.out
  by_cases hz:z=0
  ·have hzb:(z == 0)=Xc:=by simpa using hz
   have HC1:Xp ((m.sl.take (kk+1)).countP (fun z=>z == 0)=cn+1):=dD<|by rw[HC.out,kE hzb]
   clear hz;go_wp2
   go_roundg (sn -(kk+1))
   case measure=>omega
   exact⟨kk+1,by omega,by omega,by rw[HC1.out];go_num,by go_num,GW⟩
  have hzb:(z == 0)=Xd:=by simpa using hz
  have HC1:Xp ((m.sl.take (kk+1)).countP (fun z=>z == 0)=cn):=dD<|by rw[HC.out,kF (by rw[hzb];decide)];rfl
  clear hz;go_wp2
  go_roundg (sn -(kk+1))
  case measure=>omega
  exact⟨kk+1,by omega,by omega,by rw[HC1.out],by go_num,GW⟩
 have hltz:=kD hlt
 have:kk=sn:=by omega
 subst this;rw[<-HZS.out];obtain⟨zs,HZ⟩:=kA (zlc m.sl);rw[HZ.out];have G4:Xp (zc W2a wr):=GW;have x7:=(P2.box.grew GW).c 7 rfl;(try simp only[Sli.x]at x7);rw[HFE.1,HFE.2]at x7;go_wp2;clear x7
 go_loopg [7,46] n (fun gg s7 s46 wr=>∃i:Nat,i<=n/\n - i<=gg/\s7=I6 (cnt -(zcQ (m.fl.take i):Int))/\s46=I6 i/\Xp (zc W2a wr))
 case atStart=>exact⟨0,nZ _,by omega,by simp[zcQ],rfl,G4⟩
 obtain⟨i,hi,hg,rfl,rfl,BW⟩:=hrel
 by_cases hlt:i<n
 ·have hltz:=kC hlt
  obtain⟨q,HQ⟩:∃q,Xp (m.fl[i]? =Xa q):=⟨_,gE (by rw[HN.out];exact hlt)⟩
  obtain⟨ad,rfl,xa,xc,hra,hl⟩:=HR.out i q HQ.out;obtain⟨d0,d1⟩:=hl wr BW.out;have hqbig:=hra.short;obtain⟨a',c',heq,hnum⟩:=hra.nums;cases heq;have HRA:Xp (zab W2a xa q.bl):=hnum;clear hl hra hnum;obtain⟨nb,HNB⟩:=kA q.bl.length;rw[HNB.out]at d1 hqbig;have hnb:nb<=12:=by rw[<-HNB.out];exact H12 q (mG HQ)
  have HTK:Xp (zcQ (m.fl.take (i+1))=zcQ (m.fl.take i)+bkC (q.bl.take nb)):=dD<|by rw[zeJ HQ.out,<-HNB.out,Xu]
  obtain⟨U,HU⟩:=kA (zcQ (m.fl.take i));have hul:U<=60:=by rw[<-HU.out];exact HUL i
  rw[HU.out]at HTK⊢;obtain⟨W2b,hW2⟩:=kB (wr.alloc (Xk #[I6 q.size,O xa nb xc] 84));have G2:=gT hW2 BW
  have HW2:Xp (_=W2b):=hW2;clear hW2;go_wp2;rw[HW2.out]
  go_loopg [7,53] nb (fun g2 s7 s53 wr2=>∃j:Nat,j<=nb/\nb - j<=g2/\s7=I6 (cnt -((U+bkC (q.bl.take j):Nat):Int))/\s53=I6 j/\Xp (zc W2a wr2))
  case atStart=>exact⟨0,nZ _,by omega,by simp[bkC],rfl,G2⟩
  obtain⟨j,hj,hg2,rfl,rfl,BW2⟩:=hrel;clear d0 d1
  by_cases hlt2:j<nb
  ·have hltz2:=kC hlt2
   obtain⟨z,HZ⟩:∃z,Xp (q.bl[j]? =Xa z):=⟨_,gE (by rw[HNB.out];exact hlt2)⟩
   obtain⟨ad2,rfl,hl2⟩:=HRA.out j z HZ.out;have d2:=hl2 _ BW2.out;clear hl2;have HC:Xp (bkC (q.bl.take (j+1))=bkC (q.bl.take j)+(if decide (0<=z)=Xc then 1 else 0)):=za3 _ HZ.out;have HCL:Xp (bkC (q.bl.take j)<=j):=show _<=_ from nT Xv (by simp;omega)
   generalize hcn:bkC (q.bl.take j)=cn at HC HCL
   have hcl:cn<=j:=HCL.out
   by_cases hz:0<=z
   ·have HC1:Xp (bkC (q.bl.take (j+1))=cn+1):=dD<|by rw[HC.out,kE (by simpa using hz)]
    have hzb:decide (0<=z)=Xc:=by simpa using hz
    clear hcn;go_wp2
    go_roundg (nb -(j+1))
    case measure=>omega
    exact⟨j+1,by omega,by omega,by rw[HC1.out];simp only[Value.int.injEq,true_and];omega,by go_num,BW2⟩
   have HC1:Xp (bkC (q.bl.take (j+1))=cn):=dD<|by rw[HC.out,kF (by simpa using hz)];rfl
   have hzb:decide (0<=z)=Xd:=by simpa using hz
   clear hcn;go_wp2
   go_roundg (nb -(j+1))
   case measure=>omega
   exact⟨j+1,by omega,by omega,by rw[HC1.out];first | rfl | (simp only[Value.int.injEq,true_and];omega),by go_num,BW2⟩
  have hltz2:=kD hlt2
  have:j=nb:=by omega
  subst this;go_wp2
  go_roundg (n -(i+1))
  case measure=>omega
  exact⟨i+1,by omega,by omega,by rw[HTK.out];first | rfl | (simp only[Value.int.injEq,true_and];omega),by go_num,BW2⟩
 have hltz:=kD hlt
 have:i=n:=by omega
 subst this;rw[HZF.out];have HD1:Xp (m.cnt -(zcQ m.fl:Int)≠0->zlc m.sl≠0->JJ m.fs≠m.fs.length->(zel m []).1=Xc):=dD<|fun h1 h2 h3=>zkx HRT HCC h3 h2 h1
 obtain⟨d,HD⟩:=kA (cnt -(zcQ m.fl:Int));obtain⟨N,HND⟩:=kA (JJ m.fs);rw[HCN.out,HD.out,HZ.out,HND.out,<-HN1.out]at HD1;rw[HD.out];have P5:=dD (P2.grew BW);have A5:=dD (A2a.grew BW);have G5:=dD (G2a.trans BW);go_upto_region 21 with fail;have hev:=zdr V m wr A5 HW _ (ziG HRT);obtain⟨x0,x1,x2,x3,x4,x5,x6,x7,x8,x9,x10⟩:=P5.box.c11;go_wp2_with fail;refine hev.mono ?_;clear hev x0 x1 x2 x3 x4 x5 x6 x7 x8 x9 x10;rintro e W6 ⟨⟨bo,M',V4,hev,rfl,-⟩,g6⟩;have HBO:Xp (bo=(zel m []).1):=hev.1;clear hev;go_upto_region 22 with fail;obtain⟨W7,hW7⟩:=kB (W6.alloc (Xk (mL V4 M').toArray 41));have g7:=gP hW7
 have P7:=dD (P5.grew (g6.trans g7));have A7:=dD (A5.grew (g6.trans g7));have G7:=dD (G5.trans (g6.trans g7));rw[hW7];clear hW7 g6 g7;have HC1:Xp (∀W,zc W7 W->Xq prog 29 #[Xi (mL V m).toArray] W fun e w'=>e= Xl (I6 (N:Int))/\zc W w'):=show∀W,_ from fun W hW=>by
  have k:=zix V m W (A7.grew hW) HMF.out;rw[HND.out]at k;exact k
 have hne:Nonempty (zn W7):=⟨⟨_,zc.refl _⟩⟩;have hv0:∀y:zn W7,y.world.cell? ⟨pm,0,Xb⟩=_:=fun y=>(P7.box.grew y.grew).c 0 rfl
 have hv1:∀y:zn W7,y.world.cell? ⟨pm,1,Xb⟩=_:=fun y=>(P7.box.grew y.grew).c 1 rfl
 have hv2:∀y:zn W7,y.world.cell? ⟨pm,2,Xb⟩=_:=fun y=>(P7.box.grew y.grew).c 2 rfl
 have hv3:∀y:zn W7,y.world.cell? ⟨pm,3,Xb⟩=_:=fun y=>(P7.box.grew y.grew).c 3 rfl
 have hv4:∀y:zn W7,y.world.cell? ⟨pm,4,Xb⟩=_:=fun y=>(P7.box.grew y.grew).c 4 rfl
 have hv5:∀y:zn W7,y.world.cell? ⟨pm,5,Xb⟩=_:=fun y=>(P7.box.grew y.grew).c 5 rfl
 have hv6:∀y:zn W7,y.world.cell? ⟨pm,6,Xb⟩=_:=fun y=>(P7.box.grew y.grew).c 6 rfl
 have hv7:∀y:zn W7,y.world.cell? ⟨pm,7,Xb⟩=_:=fun y=>(P7.box.grew y.grew).c 7 rfl
 have hv8:∀y:zn W7,y.world.cell? ⟨pm,8,Xb⟩=_:=fun y=>(P7.box.grew y.grew).c 8 rfl
 have hv9:∀y:zn W7,y.world.cell? ⟨pm,9,Xb⟩=_:=fun y=>(P7.box.grew y.grew).c 9 rfl
 have hv10:∀y:zn W7,y.world.cell? ⟨pm,10,Xb⟩=_:=fun y=>(P7.box.grew y.grew).c 10 rfl
 obtain⟨Ab,HAb⟩:=kA ((N:Int) ==(V.f.n:Int));obtain⟨Bb,HBb⟩:=kA ((zs:Int) == 0);obtain⟨Cb,HCb⟩:=kA (d == 0);have HALL:Xp ((bo || Ab || Bb || Cb)=Xc):=dD<|by
  rw[HBO.out,<-HAb.out,<-HBb.out,<-HCb.out]
  by_cases h1:d=0
  ·simp[h1]
  by_cases h2:zs=0
  ·simp[h2]
  by_cases h3:N=V.f.n
  ·simp[h3]
  rw[HD1.out h1 h2 h3];rfl
 have hAb:=HAb.out;have hBb:=HBb.out;have hCb:=HCb.out;clear HAb HBb HCb
 cases bo with
 | true=>
  refine qR 23 [(6,⟨fun v=>v=I6 (N:Int),fun _ _=>True⟩)] zW (by kernel_rfl) rfl rfl (by decide) ?hS ?hp ?_
  case hS=>
   intro x hx;simp only[mC,nM,or_false]at hx;subst hx;exact⟨_,rfl⟩
  case hp=>
   intro x hx;simp only[mC,nM,or_false]at hx;subst hx;exact fun _ _ _ _ _=>trivial
  simp only[Xx,Xy];iterate 5 (refine zd rfl rfl rfl (fun K hK=>?_);go_big_quiet_op;refine hK _ ?_;clear hK)
  iterate 7 (refine qa rfl ?_;simp only[Xt,sB,sS,sZ])
  iterate 2 (refine zd rfl rfl rfl (fun K hK=>?_);go_big_quiet_op;refine hK _ ?_;clear hK)
  iterate 2 (refine qa rfl ?_;simp only[Xt,sB,sS,sZ])
  iterate 2 (refine zd rfl rfl rfl (fun K hK=>?_);go_big_quiet_op;refine hK _ ?_;clear hK)
  iterate 2 (refine qa rfl ?_;simp only[Xt,sB,sS,sZ])
  iterate 3 (refine zd rfl rfl rfl (fun K hK=>?_);go_big_quiet_op;refine hK _ ?_;clear hK)
  refine z6 fun W8 g8 _=>?_
  have G8:=dD (G7.trans (show zc _ _ from g8))
  clear g8 hne hv0 hv1 hv2 hv3 hv4 hv5 hv6 hv7 hv8 hv9 hv10 hAb hBb hCb;go_wp2;go_ret;exact⟨rfl,G8⟩
 | false=>
  cases Ab with
  | true=>
   refine qR 23 [(6,⟨fun v=>v=I6 (N:Int),fun _ _=>True⟩)] zW (by kernel_rfl) rfl rfl (by decide) ?hS ?hp ?_
   case hS=>
    intro x hx;simp only[mC,nM,or_false]at hx;subst hx;exact⟨_,rfl⟩
   case hp=>
    intro x hx;simp only[mC,nM,or_false]at hx;subst hx;exact fun _ _ _ _ _=>trivial
   simp only[Xx,Xy];iterate 5 (refine zd rfl rfl rfl (fun K hK=>?_);go_big_quiet_op;refine hK _ ?_;clear hK)
   refine zd rfl rfl rfl (fun K hK=>?_);go_big_quiet_op;refine hK _ ?_;clear hK
   refine zE rfl rfl (fun w' hg hF=>?_) (fun v1 hv=>?_)
   ·refine zQ.call [Xi (mL V m).toArray] rfl func29 rfl rfl rfl ?_;refine(HC1 w' hg).mono ?_;rintro e w'' ⟨rfl,hg2⟩;exact⟨_,rfl,hg2,rfl,trivial⟩
   cases hv;simp only[Xt,sB,sS,sZ];iterate 4 (refine zd rfl rfl rfl (fun K hK=>?_);go_big_quiet_op;refine hK _ ?_;clear hK)
   refine zd rfl rfl rfl (fun K hK=>?_);go_big_quiet_op;(try rw[hAb]);refine hK _ ?_;clear hK
   iterate 2 (refine zd rfl rfl rfl (fun K hK=>?_);go_big_quiet_op;refine hK _ ?_;clear hK)
   iterate 2 (refine qa rfl ?_;simp only[Xt,sB,sS,sZ])
   iterate 2 (refine zd rfl rfl rfl (fun K hK=>?_);go_big_quiet_op;refine hK _ ?_;clear hK)
   iterate 2 (refine qa rfl ?_;simp only[Xt,sB,sS,sZ])
   iterate 3 (refine zd rfl rfl rfl (fun K hK=>?_);go_big_quiet_op;refine hK _ ?_;clear hK)
   refine z6 fun W8 g8 _=>?_
   have G8:=dD (G7.trans (show zc _ _ from g8))
   clear g8 hne hv0 hv1 hv2 hv3 hv4 hv5 hv6 hv7 hv8 hv9 hv10 hAb hBb hCb;go_wp2;go_ret;exact⟨rfl,G8⟩
  | false=>
   cases Bb with
   | true=>
    refine qR 23 [(6,⟨fun v=>v=I6 (N:Int),fun _ _=>True⟩)] zW (by kernel_rfl) rfl rfl (by decide) ?hS ?hp ?_
    case hS=>
     intro x hx;simp only[mC,nM,or_false]at hx;subst hx;exact⟨_,rfl⟩
    case hp=>
     intro x hx;simp only[mC,nM,or_false]at hx;subst hx;exact fun _ _ _ _ _=>trivial
    simp only[Xx,Xy];iterate 5 (refine zd rfl rfl rfl (fun K hK=>?_);go_big_quiet_op;refine hK _ ?_;clear hK)
    refine zd rfl rfl rfl (fun K hK=>?_);go_big_quiet_op;refine hK _ ?_;clear hK
    refine zE rfl rfl (fun w' hg hF=>?_) (fun v1 hv=>?_)
    ·refine zQ.call [Xi (mL V m).toArray] rfl func29 rfl rfl rfl ?_;refine(HC1 w' hg).mono ?_;rintro e w'' ⟨rfl,hg2⟩;exact⟨_,rfl,hg2,rfl,trivial⟩
    cases hv;simp only[Xt,sB,sS,sZ];iterate 4 (refine zd rfl rfl rfl (fun K hK=>?_);go_big_quiet_op;refine hK _ ?_;clear hK)
    refine zd rfl rfl rfl (fun K hK=>?_);go_big_quiet_op;(try rw[hAb]);refine hK _ ?_;clear hK
    iterate 2 (refine zd rfl rfl rfl (fun K hK=>?_);go_big_quiet_op;refine hK _ ?_;clear hK)
    refine zd rfl rfl rfl (fun K hK=>?_);go_big_quiet_op;refine hK _ ?_;clear hK
    refine zd rfl rfl rfl (fun K hK=>?_);go_big_quiet_op;(try rw[hBb]);refine hK _ ?_;clear hK
    iterate 2 (refine zd rfl rfl rfl (fun K hK=>?_);go_big_quiet_op;refine hK _ ?_;clear hK)
    iterate 2 (refine qa rfl ?_;simp only[Xt,sB,sS,sZ])
    iterate 3 (refine zd rfl rfl rfl (fun K hK=>?_);go_big_quiet_op;refine hK _ ?_;clear hK)
    refine z6 fun W8 g8 _=>?_
    have G8:=dD (G7.trans (show zc _ _ from g8))
    clear g8 hne hv0 hv1 hv2 hv3 hv4 hv5 hv6 hv7 hv8 hv9 hv10 hAb hBb hCb;go_wp2;go_ret;exact⟨rfl,G8⟩
   | false=>
    have hc1:Cb=Xc:=HALL.out;subst hc1;refine qR 23 [(6,⟨fun v=>v=I6 (N:Int),fun _ _=>True⟩)] zW (by kernel_rfl) rfl rfl (by decide) ?hS ?hp ?_
    case hS=>
     intro x hx;simp only[mC,nM,or_false]at hx;subst hx;exact⟨_,rfl⟩
    case hp=>
     intro x hx;simp only[mC,nM,or_false]at hx;subst hx;exact fun _ _ _ _ _=>trivial
    simp only[Xx,Xy];iterate 5 (refine zd rfl rfl rfl (fun K hK=>?_);go_big_quiet_op;refine hK _ ?_;clear hK)
    refine zd rfl rfl rfl (fun K hK=>?_);go_big_quiet_op;refine hK _ ?_;clear hK
    refine zE rfl rfl (fun w' hg hF=>?_) (fun v1 hv=>?_)
    ·refine zQ.call [Xi (mL V m).toArray] rfl func29 rfl rfl rfl ?_;refine(HC1 w' hg).mono ?_;rintro e w'' ⟨rfl,hg2⟩;exact⟨_,rfl,hg2,rfl,trivial⟩
    cases hv;simp only[Xt,sB,sS,sZ];iterate 4 (refine zd rfl rfl rfl (fun K hK=>?_);go_big_quiet_op;refine hK _ ?_;clear hK)
    refine zd rfl rfl rfl (fun K hK=>?_);go_big_quiet_op;(try rw[hAb]);refine hK _ ?_;clear hK
    iterate 2 (refine zd rfl rfl rfl (fun K hK=>?_);go_big_quiet_op;refine hK _ ?_;clear hK)
    refine zd rfl rfl rfl (fun K hK=>?_);go_big_quiet_op;refine hK _ ?_;clear hK
    refine zd rfl rfl rfl (fun K hK=>?_);go_big_quiet_op;(try rw[hBb]);refine hK _ ?_;clear hK
    iterate 2 (refine zd rfl rfl rfl (fun K hK=>?_);go_big_quiet_op;refine hK _ ?_;clear hK)
    refine zd rfl rfl rfl (fun K hK=>?_);go_big_quiet_op;refine hK _ ?_;clear hK
    refine zd rfl rfl rfl (fun K hK=>?_);go_big_quiet_op;(try rw[hCb]);refine hK _ ?_;clear hK
    iterate 3 (refine zd rfl rfl rfl (fun K hK=>?_);go_big_quiet_op;refine hK _ ?_;clear hK)
    refine z6 fun W8 g8 _=>?_
    have G8:=dD (G7.trans (show zc _ _ from g8))
    clear g8 hne hv0 hv1 hv2 hv3 hv4 hv5 hv6 hv7 hv8 hv9 hv10 hAb hBb hCb;go_wp2;go_ret;exact⟨rfl,G8⟩
end
section
open Go.ChangeShapes Go.WideShapes Go.ChangeAt Go.RowKit
theorem zoP:Tryz.prog.cellsOf 3=1:=by kernel_rfl
theorem zoQ:Tryz.prog.cellsOf 5=1:=by kernel_rfl
theorem zoR:Tryz.prog.cellsOf 23=3:=by kernel_rfl
theorem zoS:Tryz.prog.bytesOf 5=1:=by kernel_rfl
section
variable{H:Type} {enc:TypeId × Xr->H} {w:Xo} {base:Nat} {spare:Nat->Bool} {zeh:Bool}
theorem zdv {α:Type} {enc0:α->List Xr} {k:Nat}:∀(l:List α) (x:Addr),(∀a∈l,(enc0 a).length=k)->(∀(i:Nat) a,l[i]? =Xa a->jz w (x.add (i*k)) (enc0 a))->jz w x (l.flatMap enc0)
 | [],x,_,_=>fun j u hj=>by simp at hj
 | a :: l,x,hk,h=>fun j u hj=>by
  rw[List.flatMap_cons]at hj;have ha:=hk a (by simp)
  rcases Nat.lt_or_ge j k with hjk|hjk
  ·rw[List.getElem?_append_left (by omega)]at hj
   have:=h 0 a rfl j u hj;rw[zX]at this
   simpa using this
  rw[aR (by omega),ha]at hj
  have ih:=zdv l (x.add k) (fun b hb=>hk b (by simp[hb])) (fun i b hi=>by
   have:=h (i+1) b (by simpa using hi)
   rw[zX];rw[show k+i*k=(i+1)*k by rw[Nat.add_mul];omega]
   exact this) (j - k) u hj
  rw[zX,show k+(j - k)=j by omega]at ih
  exact ih
theorem zlw {α:Type} [Inhabited α] (enc0:α->List Xr) (Q:α->Prop) (k:Nat) {e:TypeId} (hu:Tryz.prog.underlying t=Xa (.slice e)) (hk:Tryz.prog.cellsOf e=k) (helem:∀n cs (x:DataW H × List MemPlace),cs.length=k->DataW.trod enc prog w base spare zeh n e cs=Xa x->∃a,Q a/\cs=enc0 a)
  {fuel:Nat} {cs:List Xr} {x:DataW H × List MemPlace} (h:DataW.trod enc prog w base spare zeh fuel t cs=Xa x):
  ∃v l,cs=[v]/\jv enc0 w v l/\(∀a∈l,Q a/\(enc0 a).length=k)/\(l=[]\/∃es sp,x.1= .slice es sp/\es.length=l.length):=by
 rcases Go.Deep.open_slice hu h with⟨rfl,_⟩|⟨a,len,cap,m,n,D,Pl,rfl,hb,hl,hm,hm',hx,hel⟩
 ·exact⟨_,[],rfl,⟨Xb,0,rfl,fun _=>rfl,fun x hx=>by cases hx⟩,by simp,.inl rfl⟩
 have hlm:len<=m:=by rw[hm'];split <;> omega
 have hex:∀i,i<len->∃a0,Q a0/\(enc0 a0).length=k/\jz w (a.add (i*k)) (enc0 a0):=fun i hi=>by
  obtain⟨cs',h1,h2⟩:=hel i (by omega)
  rw[hk]at h1;obtain⟨_,hcl,hcc⟩:=World.cells?_some h1;obtain⟨a0,hq,rfl⟩:=helem _ _ _ hcl h2;refine⟨a0,hq,hcl,fun j u hj=>?_⟩
  have hj':j<k:=by rw[<-hcl];exact(gS.1 hj).1
  rw[hcc j hj'];exact hj
 obtain⟨f,hf⟩:=Go.Deep.choose_lt hex;refine⟨_,(List.range len).map f,rfl,⟨Xa a,cap,by simp,fun h=>(by cases h),fun y hy=>?_⟩,fun b hb=>?_,.inr ⟨_,_,by rw[hx],by simp⟩⟩
 ·cases hy;refine zdv (k:=k) _ _ (fun b hb=>?_) (fun i b hi=>?_)
  ·obtain⟨i,hi,rfl⟩:=List.mem_map.1 hb;exact(hf i (List.mem_range.1 hi)).2.1
  have hil:i<len:=by have:=(gS.1 hi).1;simpa using this
  simp[hil]at hi
  subst hi;exact(hf i hil).2.2
 obtain⟨i,hi,rfl⟩:=List.mem_map.1 hb;have:=hf i (List.mem_range.1 hi);exact⟨this.1,this.2.1⟩
theorem zh9 {b0:Nat} {r:Reach} {v:Xr} {d:DataW H} {p:List MemPlace} (hv:Value.okWide prog w r b0 24 v) (h:DataW.Trod enc prog w base spare zeh 24 v d p) (hw:∀n∈d.weights prog 24,n<=reachBytes):
  ∃(vl:Sli) (s:List Int),v=vl.x/\zm byE w (vl.x) s/\vl.n<=vl.c/\∀z∈s,0<=z/\z<256:=by
 obtain⟨fuel,hf⟩:=h;obtain⟨v0,ps,e0,s0,q0,w0⟩:=zlw byE.enc (fun z=>0<=z/\z<256) 1 underlying24 zoQ (fun n cs x _ ht=>by
  obtain⟨z,hz,hz2,hz3⟩:=DataW.trod_int underlying5 ht;refine⟨z,?_,hz⟩;have:=hz3;simp only[Lit.wf,Bool.and_eq_true,decide_eq_true_eq]at this;have e1:IntKind.u8.min=0:=rfl;have e2:IntKind.u8.max=255:=rfl;rw[e1,e2]at this;exact⟨this.1,by have:=this.2;omega⟩) hf
 obtain⟨a,c,rfl,s2,s3⟩:=s0;obtain⟨a1,l1,c1,rfl⟩:=okWide_slice underlying24 hv;have e1:O a1 l1 c1= O a ps.length c:=by simpa [Value.cells]using e0
 cases e1;refine⟨⟨a,ps.length,c⟩,ps,rfl,⟨⟨a,c,rfl,s2,s3⟩,?_⟩,?_,fun z hz=>(q0 z hz).1⟩
 ·rcases w0 with rfl|⟨es,sp,he,hel⟩
  ·show 0*1<=_
   omega
  have he':d= .slice es sp:=he;have:=hw ((es.length+sp.length)*Tryz.prog.bytesOf 5) (by rw[he'];simp[DataW.weights,underlying24])
  rw[zoS]at this;unfold reachBytes at this
  show ps.length*1<=_
  omega
 rcases Go.Deep.open_slice underlying24 hf with⟨h1,_⟩|⟨a',len,cap,_,_,_,_,h1,_,hl,_⟩
 ·have e2:O a ps.length c=eS:=by simpa [Value.cells]using h1
  simp only[vJ]at e2
  show ps.length<=c
  omega
 have e2:O a ps.length c= O (Xa a') len cap:=by simpa [Value.cells]using h1
 simp only[vJ]at e2
 show ps.length<=c
 omega
theorem zgs {b0:Nat} {r:Reach} {v:Xr} {d:DataW H} {p:List MemPlace} (hv:Value.okWide prog w r b0 23 v) (h:DataW.Trod enc prog w base spare zeh 23 v d p):∃F S B:Int,v= Xi #[I6 F,I6 S,I6 B]:=by
 obtain⟨cs,rfl,hsz,_⟩:∃cs,v= Xi cs/\cs.size=Tryz.prog.cellsOf 23/\Row.okWide prog w r b0 23 cs:=by
  simpa [Value.okWide,underlying23]using hv
 obtain⟨fuel,hf⟩:=h;obtain⟨xs,n,_,_,hlen,hl,hf⟩:=DataW.trod_struct underlying23 hf;rw[zoR]at hlen;have hxl:xs.length=3:=hl;obtain⟨cs⟩:=cs;simp only[Value.cells]at hlen hf;have h0:DataW.trod enc prog w base spare zeh n 3 ((cs.drop 0).take (Tryz.prog.cellsOf 3))=xs[0]?:=hf 0 _ rfl;have h1:DataW.trod enc prog w base spare zeh n 3 ((cs.drop 1).take (Tryz.prog.cellsOf 3))=xs[1]?:=hf 1 _ rfl;have h2:DataW.trod enc prog w base spare zeh n 3 ((cs.drop 2).take (Tryz.prog.cellsOf 3))=xs[2]?:=hf 2 _ rfl;rw[zoP]at h0 h1 h2;rw[gE (by omega)]at h0 h1 h2
 obtain⟨r0,e0,_,_⟩:=DataW.trod_int underlying3 h0;obtain⟨r1,e1,_,_⟩:=DataW.trod_int underlying3 h1;obtain⟨r2,e2,_,_⟩:=DataW.trod_int underlying3 h2;obtain⟨c0,c1,c2,rfl⟩:∃c0 c1 c2,cs=[c0,c1,c2]:=by
  match cs,hlen with
  | [c0,c1,c2],_=>exact⟨c0,c1,c2,rfl⟩
 simp only[List.drop_succ_cons,List.drop_zero,List.take_succ_cons,List.take_zero,List.cons.injEq,and_true]at e0 e1 e2;subst e0 e1 e2;exact⟨r0,r1,r2,rfl⟩
end
theorem own:ownKnob Tryz.prog.godebug=Xb:=by kernel_rfl
theorem laidOut:laidOutB prog=Xc:=by kernel_rfl
theorem zaq (os:Os) (started:os.Started) (H:Type) (enc:TypeId × Xr->H):
  ReturnsInHanded {} Tryz.checked os 9 .any (Rows.pagingEvictSpec.pre6 enc prog Tryz.f9 Rows.pagingEvictRow.domain Xd) (Rows.pagingEvictSpec.post enc prog Tryz.f9 Xd Xc Xd Xd):=by
 refine returnsInHanded_of_change_sized (C:=Tryz.checked) own started (by kernel_rfl) func9
  (ChangeSpec.witness6 (enc:=enc) (C:=Tryz.checked) Xd ⟨#[],#[Xi #[I6 0,I6 0,I6 0],eS],[]⟩ 8 (by kernel_rfl) (by kernel_rfl) (by kernel_rfl) (by kernel_rfl)) ?_
 intro W base args ds gs before hval0 hW hcnd hsz0 _;have hsz:(DataW.weightsEach prog (Tryz.f9.params.toList++Rows.pagingEvictSpec.plain.varTypes prog) (ds++gs)).all (·<=reachBytes)=Xc:=hsz0;have hval:∀(j:Nat) t v,Tryz.f9.params[j]? =Xa t->args[j]? =Xa v->Value.okWide prog W .any base t v:=hval0;have hW':=hW;obtain⟨p,q,hA0,hV,rfl,hfz,hnd⟩:=hW;have hA:DataW.TrodAll enc prog W 0 (fun _=>Xc) Xc Tryz.f9.params.toList args.toList ds p:=hA0
 rw[Tryz.params9]at hA hval hsz;obtain⟨v0,vs0,d0,ds0,p0,q0,hargs,rfl,rfl,k0,r0⟩:=trodAll_cons hA;obtain⟨v1,vs1,d1,ds1,p1,q1,rfl,rfl,rfl,k1,r1⟩:=trodAll_cons r0;obtain⟨rfl,rfl,rfl⟩:=trodAll_nil r1;obtain rfl:args=#[v0,v1]:=by cases args;simp_all
 obtain⟨rfl,rfl⟩:=trodVars_none hV;have lt0:∀x∈p0,x.block<W.heap.size:=by obtain⟨m,hm⟩:=k0;exact DataW.trod_lt m _ _ _ hm
 have lt1:∀x∈p1,x.block<W.heap.size:=by obtain⟨m,hm⟩:=k1;exact DataW.trod_lt m _ _ _ hm
 obtain⟨cF,cS,cB,hce⟩:=zgs (hval 0 23 v0 rfl rfl) k0;subst hce;obtain⟨vl,ll,hvl,hrow,hcap,hbyt⟩:=zh9 (hval 1 24 v1 rfl rfl) k1 (fun n hn=>by
  have:=List.all_eq_true.1 hsz n (DataW.weights_mem_each (j:=1) (t:=24) (d:=d1) rfl rfl n hn)
  simpa using this)
 subst hvl;clear hA0 hval0 hsz0;refine(zfy cF cS cB vl ll W hrow hcap hbyt).mono fun e W' ⟨he,bel⟩=>?_
 subst he;have stay:∀{t:TypeId} {v:Xr} {d:DataW H} {ps:List MemPlace},Tryz.prog.readableRec t=Xc->t<Tryz.prog.types.size->DataW.Trod enc prog W 0 (fun _=>Xc) Xc t v d ps->(∀x∈ps,x.block<W.heap.size)->DataW.Trod enc prog W' 0 (fun b=>decide (b<W.heap.size)) Xc t v d ps:=
  fun h1 h2 h3 h4=>Below.trod laidOut h1 h2 h3 bel h4
 exact⟨_,rfl,_,_,_,[],_,[],hW',trodAll_mk1 (shut_bool underlying4 _),(trodAll_cons_mk (stay (by kernel_rfl) (of_decide_eq_true (by kernel_rfl)) k0 lt0) (trodAll_cons_mk (stay (by kernel_rfl) (of_decide_eq_true (by kernel_rfl)) k1 lt1) trodAll_mk0)),rfl,Below.frame bel _,fun h=>by cases h⟩
theorem zbs:Rows.pagingEvictRow.holds Tryz.pinned (OpenSpec.ofChange Rows.pagingEvictSpec):=
 OpenClaim.holds_of_wide 9 Tryz.f9 rfl rfl rfl rfl rfl rfl rfl ⟨rfl,rfl,rfl,rfl,rfl⟩ rfl rfl rfl rfl rfl (by kernel_rfl) func9 (by kernel_rfl)
  (of_decide_eq_true (by kernel_rfl)) (by unfold Func.isWrapper;first | (rw[kE (by decide+kernel)];kernel_rfl) | (rw[kF (by decide+kernel)];exact⟨rfl,rfl⟩))
  (fun os started H enc _=>zaq os started H enc)
theorem pagingEvict_holds:Rows.PagingEvictSaid:=zbs
#print axioms pagingEvict_holds
end
end Go.Proofs.YtacihbmelcegbaaGreat
