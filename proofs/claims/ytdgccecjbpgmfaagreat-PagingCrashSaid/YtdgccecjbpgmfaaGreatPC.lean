/- PagingCrash,proved:when the power fails files are as long as they were,the disk has what it had for good or what waited and came to be,one process begins,and memory is free:whatever the numbers,bytes and bits. No condition. -/
import Derived.Test.YtdgccecjbpgmfaaGreatPC9
import Derived.Test.YtdgccecjbpgmfaaGreatRows
import Derived.WalkKit
import Derived.ProofKit
import Derived.OpenShut
import Derived.ShutString
import Derived.ChangeOld
import Derived.Below
import Derived.Carry
import Derived.SizedLaws
import Derived.Deep.Slices
import Derived.Test.YtdgccecjbpgmfaaGreatChecked
namespace Go.Proofs.YtdgccecjbpgmfaaGreat
set_option maxRecDepth 100000
set_option maxHeartbeats 4000000
section
open Go.RowKit
theorem zek (F S B:Int) (vl:Sli) (L:List Int) (bs:Int) (w:World) (lr:zo byE w (.slice vl.a vl.n vl.c) L) (lc:vl.n<=vl.c) (lb:∀z∈L,0<=z/\z<256):
  Calls Tryz.prog 13 #[.agg #[.int .i64 F,.int .i64 S,.int .i64 B],.slice vl.a vl.n vl.c,.int .i64 bs] w fun e w'=>e= .returned (.bool true)/\zc w w':=by
 obtain⟨W0,hW0⟩:∃W0,w.alloc (.cells #[.int .i64 F,.int .i64 S,.int .i64 B] 23)=W0:=⟨_,rfl⟩;have G0:=gA hW0
 have C0:=xA hW0
 have HW0:Hid (_=W0):=hW0;have HLR:Hid (zo byE w (.slice vl.a vl.n vl.c) L):=lr;have HLC:Hid (vl.n<=vl.c):=lc;have HLB:Hid (∀z∈L,0<=z/\z<256):=show∀z,_ from lb
 obtain⟨nf,HNF⟩:∃nf:Nat,Hid (max (min F 40) 0=(nf:Int)):=⟨(max (min F 40) 0).toNat,show _=_ by omega⟩
 obtain⟨ns,HNS⟩:∃ns:Nat,Hid (max (min S 60) 0=(ns:Int)):=⟨(max (min S 60) 0).toNat,show _=_ by omega⟩
 obtain⟨nb,HNB⟩:∃nb:Nat,Hid (max (min B 80) 0=(nb:Int)):=⟨(max (min B 80) 0).toNat,show _=_ by omega⟩
 clear hW0 lr lc lb;have hal:=zfw W0
 go_enter Tryz.func13,Tryz.ntmps13
 go_wp2_with fail;rw[HW0.out];refine hal.mono ?_;clear hal;rintro e W1 ⟨rfl,g1⟩;have G1:=dD (G0.out.trans g1);have C1:=dD (C0.out.grew g1);clear g1 G0 C0 HW0;have hbu:=zer F S B nf ns nb HNF.out HNS.out HNB.out vl L W1 (HLR.out.grew G1.out) HLC.out HLB.out;obtain⟨c0,c1,c2⟩:=C1.out.c3;go_wp2_with fail;refine hbu.mono ?_;clear hbu c0 c1 c2;rintro e W2 ⟨V,m0,T,hd,hi,ht,vt,rfl,hB⟩;obtain⟨at2,w2⟩:=hB.at;have HFI:Hid (∀s∈(jC m0 T hd).sp,jn m0.fl.length s.ars):=show∀s,_ from fun s hs=>by
  obtain⟨i,hi⟩:=List.getElem?_of_mem hs;have hi:(List.zipWith (fun s f=>{ s with tb:=j5 f }) m0.sp T)[i]? =some s:=hi
  rw[List.getElem?_zipWith]at hi
  cases h1:m0.sp[i]? with
  | none=>rw[h1]at hi;simp at hi
  | some s0=>
   cases h2:T[i]? with
   | none=>rw[h1,h2]at hi;simp at hi
   | some f=>
    rw[h1,h2]at hi;simp only[Option.some.injEq]at hi;rw[<-hi];exact(hB.fin s0 (mG h1)).1
 have HF2:Hid (m0.fl.length<=2):=hB.fl2.1;have HSL:Hid ((jC m0 T hd).sp.length<=2):=show _<=_ by
  show(List.zipWith _ m0.sp T).length<=2
  rw[List.length_zipWith];have:=hB.sp.2;omega
 obtain⟨m,HM⟩:∃m,Hid (jC m0 T hd=m):=⟨_,rfl⟩;have A2:Hid (zC W2 V m):=show zC _ _ _ by rw[<-HM.out];exact at2
 have HW:Hid (maW m=0):=show _=_ by rw[<-HM.out];exact w2
 have HRT:Hid (Rt m):=show Rt m from⟨HW.out,fun s hs=>by
  obtain⟨i,hi⟩:=List.getElem?_of_mem hs;obtain⟨xs,_,s2,s3⟩:=A2.out.sp;have hx:i<xs.length:=by rw[s2];exact(gS.1 hi).1
  exact(s3 i _ s (gE hx) hi).tb.tlen⟩
 have G2:Hid (zc w W2):=G1.out.trans hB.gr;have hmh:hd=m.hand:=by rw[<-HM.out];rfl
 have hmc:m0.cnt=m.cnt:=by rw[<-HM.out];rfl
 rw[hmh,hmc];have HFS:Hid (∀s∈m.sp,jn m.fl.length s.ars):=show∀s,_ from fun s hs=>by
  rw[<-HM.out]at hs⊢;exact HFI.out s hs
 have HFL:Hid (m.fl.length<=5):=show _<=_ by rw[<-HM.out];have:=HF2.out;show m0.fl.length<=5;omega
 have HS2:Hid (m.sp.length<=2):=show _<=_ by rw[<-HM.out];exact HSL.out
 clear hB at2 w2 hmh hmc HM C1 G1 HLR HLB HLC HFI HSL HF2;go_upto_region 4 with fail;obtain⟨pm,HPM⟩:∃pm,Hid (W2.heap.size=pm):=⟨_,rfl⟩;obtain⟨W2a,hW3⟩:∃W2a,W2.alloc (.cells #[.slice V.f.a V.f.n V.f.c,.int .i64 m.hand,.slice V.s.a V.s.n V.s.c,.slice V.sb.a V.sb.n V.sb.c,.slice V.sq.a V.sq.n V.sq.c,.slice V.db.a V.db.n V.db.c,.slice V.dq.a V.dq.n V.dq.c,.slice V.fl.a V.fl.n V.fl.c,.int .i64 m.cnt,.slice V.ca.a V.ca.n V.ca.c,.slice V.sp.a V.sp.n V.sp.c] 41)=W2a:=⟨_,rfl⟩;have g3:=gP hW3
 have P2:=xPT hW3 HPM
 have A2a:=dD (A2.out.grew g3);have G2a:=dD (G2.out.trans g3);rw[hW3,HPM.out];clear hW3 g3 A2 G2 HPM;obtain⟨x0,x1,x2,x3,x4,x5,x6,x7,x8,x9,x10⟩:=P2.out.box.c11;have hex:=zcv V m bs W2a A2a.out HRT.out;go_wp2_with fail;refine hex.mono ?_;clear hex x0 x1 x2 x3 x4 x5 x6 x7 x8 x9 x10;rintro e W3 ⟨⟨V4,rfl,hm4,ps,hps⟩,g3⟩;have G3:=dD (G2a.out.trans g3);have A3:=dD (A2a.out.grew g3);have P3:=dD (P2.out.grew g3);have K3:Hid (zC W3 V4 (Qq m (Qd (jD bs) m.db m.dq))):=hm4;obtain⟨n1,-,-,-,-,-,n7,-,-⟩:=A3.out.ns;obtain⟨-,-,-,-,-,-,o7,o8,-⟩:=hm4.ns;have o7:V4.fl.n=m.fl.length:=o7;have o8:V4.ca.n=0:=o8;have HFR:Hid (zfg (Qq m (Qd (jD bs) m.db m.dq)).fs=m.fs.length):=zgL _ _;have HRX:Hid (Rt (Qq m (Qd (jD bs) m.db m.dq))):=zgx HRT.out _;clear g3 P2 A2a G2a hm4;obtain⟨sn,HSN⟩:∃sn,Hid (m.fs.length=sn):=⟨_,rfl⟩;obtain⟨fn,HFN⟩:∃fn,Hid (m.fl.length=fn):=⟨_,rfl⟩;rw[HSN.out]at n1 HFR;rw[HFN.out]at n7 o7;obtain⟨ku1,ku2,ku3,ku4,ku5,ku6,⟨ku7a,ku7n,ku7c⟩,⟨ku8a,ku8n,ku8c⟩,ku9⟩:=V4;obtain⟨⟨kv1a,kv1n,kv1c⟩,kv2,kv3,kv4,kv5,kv6,⟨kv7a,kv7n,kv7c⟩,kv8,kv9⟩:=V;dsimp only at n1 n7 o7 o8 hps;have n1':=n1.symm;have n7':=n7.symm;have o7':=o7.symm;subst n1' n7' o7' o8 hps;clear n1 n7 o7;have hfn5:fn<=5:=by rw[<-HFN.out];exact HFL.out
 obtain⟨xs,hxl,hrow,hsp⟩:=K3.out.spaces;have hxl:xs.length=1:=hxl;obtain⟨x,hx⟩:∃x,xs[0]? =some x:=⟨_,gE (by omega)⟩
 obtain⟨ad,had,hrx⟩:=hrow 0 x hx;simp only[Option.some.injEq]at had;subst had;have hsx:=hsp 0 x ⟨true,[],qx⟩ hx rfl;have hxv:x.live=true:=hsx.live;have hxn:x.ar.n=0:=by have:=hsx.ar.n;exact this
 have HRX0:Hid (∀W,zc W3 W->W.cell? ⟨ps,0,none⟩=some (.bool true)/\W.cell? ⟨ps,1,none⟩=some (.slice x.ar.a 0 x.ar.c)):=show∀W,_ from fun W hW=>by
  have k:=hrx W hW;rw[Addr.add_lit]at k;refine⟨?_,?_⟩
  ·have:=k.1;rw[hxv]at this;exact this
  have:=k.2.1;rw[hxn]at this;exact this
 clear hxl hrow hsp hx hrx hsx hxv hxn;go_upto_region 5 with fail
 try dsimp only at P3
 obtain⟨pk,HPK⟩:∃pk,Hid (W3.heap.size=pk):=⟨_,rfl⟩;obtain⟨W5,hW5⟩:∃W5,W3.alloc (.cells #[.slice ku1.a ku1.n ku1.c,.int .i64 0,.slice ku2.a ku2.n ku2.c,.slice ku3.a ku3.n ku3.c,.slice ku4.a ku4.n ku4.c,.slice ku5.a ku5.n ku5.c,.slice ku6.a ku6.n ku6.c,.slice ku7a fn ku7c,.int .i64 m.cnt,.slice ku8a 0 ku8c,.slice (some ⟨ps,0,none⟩) 1 1] 41)=W5:=⟨_,rfl⟩;have g5:=gP hW5
 have Q5:=xPT hW5 HPK
 have P5:=dD (P3.out.grew g5);have A5:=dD (A3.out.grew g5);have K5:=dD (K3.out.grew g5);have G5:=dD (G3.out.trans g5);have HRX5:Hid (∀W,zc W5 W->W.cell? ⟨ps,0,none⟩=some (.bool true)/\W.cell? ⟨ps,1,none⟩=some (.slice x.ar.a 0 x.ar.c)):=show∀W,_ from fun W hW=>HRX0.out W (g5.trans hW)
 rw[hW5,HPK.out];clear hW5 g5 P3 A3 K3 G3 HPK HRX0;have HC1:Hid (∀W,zc W5 W->Calls Tryz.prog 19 #[.agg #[.slice ku1.a ku1.n ku1.c,.int .i64 0,.slice ku2.a ku2.n ku2.c,.slice ku3.a ku3.n ku3.c,.slice ku4.a ku4.n ku4.c,.slice ku5.a ku5.n ku5.c,.slice ku6.a ku6.n ku6.c,.slice ku7a fn ku7c,.int .i64 m.cnt,.slice ku8a 0 ku8c,.slice (some ⟨ps,0,none⟩) 1 1]] W fun e w'=>e= .returned (.int .i64 0)/\zc W w'):=show∀W,_ from fun W hW=>by
  have:=zcY ⟨ku1,ku2,ku3,ku4,ku5,ku6,⟨ku7a,fn,ku7c⟩,⟨ku8a,0,ku8c⟩,⟨some ⟨ps,0,none⟩,1,1⟩⟩ (Qq m (Qd (jD bs) m.db m.dq)) W (K5.out.grew hW);rw[HRX.out.w]at this;exact this
 have HC2:Hid (∀W,zc W5 W->Calls Tryz.prog 34 #[.agg #[.slice ku1.a ku1.n ku1.c,.int .i64 0,.slice ku2.a ku2.n ku2.c,.slice ku3.a ku3.n ku3.c,.slice ku4.a ku4.n ku4.c,.slice ku5.a ku5.n ku5.c,.slice ku6.a ku6.n ku6.c,.slice ku7a fn ku7c,.int .i64 m.cnt,.slice ku8a 0 ku8c,.slice (some ⟨ps,0,none⟩) 1 1]] W fun e w'=>e= .returned (.int .i64 (sn:Int))/\zc W w'):=show∀W,_ from fun W hW=>by
  have:=zgC ⟨ku1,ku2,ku3,ku4,ku5,ku6,⟨ku7a,fn,ku7c⟩,⟨ku8a,0,ku8c⟩,⟨some ⟨ps,0,none⟩,1,1⟩⟩ (Qq m (Qd (jD bs) m.db m.dq)) W (K5.out.grew hW) (by show(List.replicate m.fs.length frF).length<=40;rw[lR];exact HRT.out.inv.fs40)
  rw[HFR.out]at this;exact this
 have hu0:∀y:zx W5,y.world.cell? ⟨pm,0,none⟩=_:=fun y=>(P5.out.box.grew y.grew).c 0 rfl
 have hu1:∀y:zx W5,y.world.cell? ⟨pm,1,none⟩=_:=fun y=>(P5.out.box.grew y.grew).c 1 rfl
 have hu2:∀y:zx W5,y.world.cell? ⟨pm,2,none⟩=_:=fun y=>(P5.out.box.grew y.grew).c 2 rfl
 have hu3:∀y:zx W5,y.world.cell? ⟨pm,3,none⟩=_:=fun y=>(P5.out.box.grew y.grew).c 3 rfl
 have hu4:∀y:zx W5,y.world.cell? ⟨pm,4,none⟩=_:=fun y=>(P5.out.box.grew y.grew).c 4 rfl
 have hu5:∀y:zx W5,y.world.cell? ⟨pm,5,none⟩=_:=fun y=>(P5.out.box.grew y.grew).c 5 rfl
 have hu6:∀y:zx W5,y.world.cell? ⟨pm,6,none⟩=_:=fun y=>(P5.out.box.grew y.grew).c 6 rfl
 have hu7:∀y:zx W5,y.world.cell? ⟨pm,7,none⟩=_:=fun y=>(P5.out.box.grew y.grew).c 7 rfl
 have hu8:∀y:zx W5,y.world.cell? ⟨pm,8,none⟩=_:=fun y=>(P5.out.box.grew y.grew).c 8 rfl
 have hu9:∀y:zx W5,y.world.cell? ⟨pm,9,none⟩=_:=fun y=>(P5.out.box.grew y.grew).c 9 rfl
 have hu10:∀y:zx W5,y.world.cell? ⟨pm,10,none⟩=_:=fun y=>(P5.out.box.grew y.grew).c 10 rfl
 have hv0:∀y:zx W5,y.world.cell? ⟨pk,0,none⟩=_:=fun y=>(Q5.out.box.grew y.grew).c 0 rfl
 have hv1:∀y:zx W5,y.world.cell? ⟨pk,1,none⟩=_:=fun y=>(Q5.out.box.grew y.grew).c 1 rfl
 have hv2:∀y:zx W5,y.world.cell? ⟨pk,2,none⟩=_:=fun y=>(Q5.out.box.grew y.grew).c 2 rfl
 have hv3:∀y:zx W5,y.world.cell? ⟨pk,3,none⟩=_:=fun y=>(Q5.out.box.grew y.grew).c 3 rfl
 have hv4:∀y:zx W5,y.world.cell? ⟨pk,4,none⟩=_:=fun y=>(Q5.out.box.grew y.grew).c 4 rfl
 have hv5:∀y:zx W5,y.world.cell? ⟨pk,5,none⟩=_:=fun y=>(Q5.out.box.grew y.grew).c 5 rfl
 have hv6:∀y:zx W5,y.world.cell? ⟨pk,6,none⟩=_:=fun y=>(Q5.out.box.grew y.grew).c 6 rfl
 have hv7:∀y:zx W5,y.world.cell? ⟨pk,7,none⟩=_:=fun y=>(Q5.out.box.grew y.grew).c 7 rfl
 have hv8:∀y:zx W5,y.world.cell? ⟨pk,8,none⟩=_:=fun y=>(Q5.out.box.grew y.grew).c 8 rfl
 have hv9:∀y:zx W5,y.world.cell? ⟨pk,9,none⟩=_:=fun y=>(Q5.out.box.grew y.grew).c 9 rfl
 have hv10:∀y:zx W5,y.world.cell? ⟨pk,10,none⟩=_:=fun y=>(Q5.out.box.grew y.grew).c 10 rfl
 have hs0:∀y:zx W5,y.world.cell? ⟨ps,0,none⟩=some (.bool true):=fun y=>(HRX5.out _ y.grew).1
 have hs1:∀y:zx W5,y.world.cell? ⟨ps,1,none⟩=some (.slice x.ar.a 0 x.ar.c):=fun y=>(HRX5.out _ y.grew).2
 have hne:Nonempty (zx W5):=⟨⟨_,zc.refl _⟩⟩;refine Qv 56 [(4,⟨fun v=>v= .int .i64 0,fun _ _=>True⟩),(43,⟨fun v=>v= .int .i64 (sn:Int),fun _ _=>True⟩)] qy (by kernel_rfl) rfl rfl (by decide) ?hS ?hp ?_
 case hS=>
  intro x hx;simp only[mC,nM,or_false]at hx
  rcases hx with rfl | rfl <;> exact⟨_,rfl⟩
 case hp=>
  intro x hx;simp only[mC,nM,or_false]at hx
  rcases hx with rfl | rfl <;> exact fun _ _ _ _ _=>trivial
 simp only[List.take,List.drop];iterate 4 (refine zm rfl rfl rfl (fun K hK=>?_);go_big_quiet_op;refine hK _ ?_;clear hK K)
 refine zM rfl rfl (fun w' hg hF=>?_) (fun v1 hv=>?_)
 ·refine zL.call [.agg #[.slice ku1.a ku1.n ku1.c,.int .i64 0,.slice ku2.a ku2.n ku2.c,.slice ku3.a ku3.n ku3.c,.slice ku4.a ku4.n ku4.c,.slice ku5.a ku5.n ku5.c,.slice ku6.a ku6.n ku6.c,.slice ku7a fn ku7c,.int .i64 m.cnt,.slice ku8a 0 ku8c,.slice (some ⟨ps,0,none⟩) 1 1]] rfl Tryz.func19 rfl rfl rfl ?_;refine(HC1.out w' hg).mono ?_;rintro e w'' ⟨rfl,hg2⟩;exact⟨_,rfl,hg2,rfl,trivial⟩
 cases hv;simp only[Act.put,sB,sS,sZ];iterate 38 (refine zm rfl rfl rfl (fun K hK=>?_);go_big_quiet_op;refine hK _ ?_;clear hK K)
 refine zM rfl rfl (fun w' hg hF=>?_) (fun v1 hv=>?_)
 ·refine zL.call [.agg #[.slice ku1.a ku1.n ku1.c,.int .i64 0,.slice ku2.a ku2.n ku2.c,.slice ku3.a ku3.n ku3.c,.slice ku4.a ku4.n ku4.c,.slice ku5.a ku5.n ku5.c,.slice ku6.a ku6.n ku6.c,.slice ku7a fn ku7c,.int .i64 m.cnt,.slice ku8a 0 ku8c,.slice (some ⟨ps,0,none⟩) 1 1]] rfl Tryz.func34 rfl rfl rfl ?_;refine(HC2.out w' hg).mono ?_;rintro e w'' ⟨rfl,hg2⟩;exact⟨_,rfl,hg2,rfl,trivial⟩
 cases hv;simp only[Act.put,sB,sS,sZ];iterate 12 (refine zm rfl rfl rfl (fun K hK=>?_);go_big_quiet_op;refine hK _ ?_;clear hK K)
 refine qU fun W7 g7 _=>?_
 have g7:zc W5 W7:=show zc _ _ from g7
 have Q7:=dD (Q5.out.grew g7);have P7:=dD (P5.out.grew g7);have A7:=dD (A5.out.grew g7);have K7:=dD (K5.out.grew g7);have G7:=dD (G5.out.trans g7);clear g7 Q5 P5 A5 K5 G5 HC1 HC2 hs0 hs1 hne HRX5 hu0 hu1 hu2 hu3 hu4 hu5 hu6 hu7 hu8 hu9 hu10 hv0 hv1 hv2 hv3 hv4 hv5 hv6 hv7 hv8 hv9 hv10;go_upto_region 7 with fail;have hkd:=zeV (.agg #[.slice kv5.a kv5.n kv5.c,.slice kv6.a kv6.n kv6.c]) m.db m.dq bs false W7 ⟨_,_,rfl,A7.out.db,A7.out.dq⟩;have x5:=P7.out.box.c 5 rfl;have x6:=P7.out.box.c 6 rfl;go_wp2_with fail;refine hkd.mono ?_;clear hkd x5 x6;rintro e W8 ⟨dd,rfl,nd,g8⟩;obtain⟨d,q,rfl,-,-⟩:=nd.form;have D8:Hid (ZD W8 (.agg #[.slice d.a d.n d.c,.slice q.a q.n q.c]) (Qd (jD bs) m.db m.dq) []):=nd.at;clear nd;go_upto_region 8 with fail;obtain⟨pd,HPD⟩:∃pd,Hid (W8.heap.size=pd):=⟨_,rfl⟩;obtain⟨W9,hW9⟩:∃W9,W8.alloc (.cells #[.slice d.a d.n d.c,.slice q.a q.n q.c] 34)=W9:=⟨_,rfl⟩;have g9:=gP hW9
 have R9:=xP hW9 HPD
 have D9:=dD (D8.out.grew g9);have Q9:=dD (Q7.out.grew (g8.trans g9));have P9:=dD (P7.out.grew (g8.trans g9));have A9:=dD (A7.out.grew (g8.trans g9));have K9:=dD (K7.out.grew (g8.trans g9));have G9:=dD (G7.out.trans (g8.trans g9));rw[hW9,HPD.out];clear hW9 g8 g9 D8 Q7 P7 A7 K7 G7 HPD;have hsm:=ziu (.agg #[.slice ku5.a ku5.n ku5.c,.slice ku6.a ku6.n ku6.c]) (.agg #[.slice d.a d.n d.c,.slice q.a q.n q.c]) (Qd (jD bs) m.db m.dq) [] W9 ⟨_,_,rfl,K9.out.db,K9.out.dq⟩ D9.out;have y5:=Q9.out.box.c 5 rfl;have y6:=Q9.out.box.c 6 rfl;have r0:=R9.out.c 0 rfl;have r1:=R9.out.c 1 rfl;go_wp2_with fail;refine hsm.mono ?_;clear hsm y5 y6 r0 r1;rintro e WA ⟨rfl,gA⟩;have QA:=dD (Q9.out.grew gA);have PA:=dD (P9.out.grew gA);have GA:=dD (G9.out.trans gA);have AA:=dD (A9.out.grew gA);have KA:=dD (K9.out.grew gA);clear gA D9 R9 Q9 P9 A9 K9 G9;obtain⟨_,_,hfe,_,hfr⟩:=qN.rows AA.out.fl;have HFL1:Hid (Zb WA kv7a m.fl):=show Zb _ _ _ by
  simp only[vJ]at hfe;rw[hfe.1];exact hfr
 obtain⟨_,_,hfe',_,hfr'⟩:=qN.rows KA.out.fl;have HFL2:Hid (Zb WA ku7a m.fl):=show Zb _ _ _ by
  simp only[vJ]at hfe';rw[hfe'.1];exact hfr'
 clear hfe hfr hfe' hfr';have x7:=PA.out.box.c 7 rfl;go_upto_region 11 with fail;clear x7
 go_loopg [102] fn (fun gg s102 wr=>∃kk:Nat,kk<=fn/\fn - kk<=gg/\s102= .int .i64 kk/\Hid (zc WA wr))
 case atStart=>exact⟨0,nZ _,by omega,rfl,zc.refl _⟩
 obtain⟨kk,hkk,hgg,rfl,GW⟩:=hrel
 by_cases hlt:kk<fn
 ·have hltz:(kk:Int)< (fn:Int):=by omega
  obtain⟨f,HK⟩:∃f,Hid (m.fl[kk]? =some f):=⟨_,gE (by rw[HFN.out];exact hlt)⟩
  obtain⟨ad1,hd1,ba,bc,_,hl1⟩:=HFL1.out kk f HK.out;obtain⟨ad2,hd2,ba',bc',_,hl2⟩:=HFL2.out kk f HK.out;have HL2:Hid (∀W,zc WA W->W.cell? (ad2.add (kk*2))=some (.int .i64 f.size)/\_):=show∀W,_ from hl2
  obtain⟨d0,d1⟩:=hl1 wr GW.out;obtain⟨bn,HBN⟩:∃bn,Hid (f.bl.length=bn):=⟨_,rfl⟩;rw[HBN.out]at d1;subst hd1;go_upto_region 13 with fail;clear d0 d1 hl1;obtain⟨pf,HPF⟩:∃pf,Hid (wr.heap.size=pf):=⟨_,rfl⟩;obtain⟨WB,hWB⟩:∃WB,wr.alloc (.cells #[.int .i64 f.size,.slice ba bn bc] 88)=WB:=⟨_,rfl⟩;have gB:=gP hWB
  have FB:=xP hWB HPF
  have GB:=dD (GW.out.trans gB);rw[hWB,HPF.out];clear hWB gB GW HPF;obtain⟨c0,c1⟩:=hl2 WB GB.out;rw[HBN.out]at c1;subst hd2;have y7:=(QA.out.box.grew GB.out).c 7 rfl;have f0:=FB.out.c 0 rfl;have f1:=FB.out.c 1 rfl;have hb1:(f.size != f.size)=false:=by simp
  have hb2:((bn:Int) !=(bn:Int))=false:=by simp
  clear hl2 HL2;go_quiet (fail);go_wp2
  go_roundg (fn -(kk+1))
  case measure=>omega
  exact⟨kk+1,by omega,by omega,by go_num,GB.out.trans (show Below _ _ _ from bD (bR _ _) _)⟩
 have hltz:¬(kk:Int)< (fn:Int):=by omega
 have:kk=fn:=by omega
 subst this;have GE:=dD (GA.out.trans GW.out);go_wp2;go_ret;exact⟨rfl,GE.out⟩
end
section
open Go.ChangeShapes Go.WideShapes Go.ChangeAt Go.RowKit
theorem zlB:Tryz.prog.cellsOf 3=1:=by kernel_rfl
theorem zlC:Tryz.prog.cellsOf 5=1:=by kernel_rfl
theorem zlD:Tryz.prog.cellsOf 23=3:=by kernel_rfl
theorem zlE:Tryz.prog.bytesOf 5=1:=by kernel_rfl
section
variable{H:Type} {enc:TypeId × Value->H} {w:World} {base:Nat} {spare:Nat->Bool} {held:Bool}
theorem zcw {α:Type} {enc0:α->List Value} {k:Nat}:∀(l:List α) (x:Addr),(∀a∈l,(enc0 a).length=k)->(∀(i:Nat) a,l[i]? =some a->jr w (x.add (i*k)) (enc0 a))->jr w x (l.flatMap enc0)
 | [],x,_,_=>fun j u hj=>by simp at hj
 | a :: l,x,hk,h=>fun j u hj=>by
  rw[List.flatMap_cons]at hj;have ha:=hk a (by simp)
  rcases Nat.lt_or_ge j k with hjk | hjk
  ·rw[List.getElem?_append_left (by omega)]at hj
   have:=h 0 a rfl j u hj;rw[zP]at this
   simpa using this
  rw[aR (by omega),ha]at hj
  have ih:=zcw l (x.add k) (fun b hb=>hk b (by simp[hb])) (fun i b hi=>by
   have:=h (i+1) b (by simpa using hi)
   rw[zP];rw[show k+i*k=(i+1)*k by rw[Nat.add_mul];omega]
   exact this) (j - k) u hj
  rw[zP,show k+(j - k)=j by omega]at ih
  exact ih
theorem ziG {α:Type} [Inhabited α] (enc0:α->List Value) (Q:α->Prop) (k:Nat) {t e:TypeId} (hu:Tryz.prog.underlying t=some (.slice e)) (hk:Tryz.prog.cellsOf e=k) (helem:∀n cs (x:DataW H × List MemPlace),cs.length=k->DataW.trod enc Tryz.prog w base spare held n e cs=some x->∃a,Q a/\cs=enc0 a)
  {fuel:Nat} {cs:List Value} {x:DataW H × List MemPlace} (h:DataW.trod enc Tryz.prog w base spare held fuel t cs=some x):
  ∃v l,cs=[v]/\ji enc0 w v l/\(∀a∈l,Q a/\(enc0 a).length=k)/\(l=[]\/∃es sp,x.1= .slice es sp/\es.length=l.length):=by
 rcases Go.Deep.open_slice hu h with⟨rfl,_⟩ | ⟨a,len,cap,m,n,D,Pl,rfl,hb,hl,hm,hm',hx,hel⟩
 ·exact⟨_,[],rfl,⟨none,0,rfl,fun _=>rfl,fun x hx=>by cases hx⟩,by simp,.inl rfl⟩
 have hlm:len<=m:=by rw[hm'];split <;> omega
 have hex:∀i,i<len->∃a0,Q a0/\(enc0 a0).length=k/\jr w (a.add (i*k)) (enc0 a0):=fun i hi=>by
  obtain⟨cs',h1,h2⟩:=hel i (by omega)
  rw[hk]at h1;obtain⟨_,hcl,hcc⟩:=World.cells?_some h1;obtain⟨a0,hq,rfl⟩:=helem _ _ _ hcl h2;refine⟨a0,hq,hcl,fun j u hj=>?_⟩
  have hj':j<k:=by rw[<-hcl];exact(gS.1 hj).1
  rw[hcc j hj'];exact hj
 obtain⟨f,hf⟩:=Go.Deep.choose_lt hex;refine⟨_,(List.range len).map f,rfl,⟨some a,cap,by simp,fun h=>(by cases h),fun y hy=>?_⟩,fun b hb=>?_,.inr ⟨_,_,by rw[hx],by simp⟩⟩
 ·cases hy;refine zcw (k:=k) _ _ (fun b hb=>?_) (fun i b hi=>?_)
  ·obtain⟨i,hi,rfl⟩:=List.mem_map.1 hb;exact(hf i (List.mem_range.1 hi)).2.1
  have hil:i<len:=by have:=(gS.1 hi).1;simpa using this
  simp[hil]at hi
  subst hi;exact(hf i hil).2.2
 obtain⟨i,hi,rfl⟩:=List.mem_map.1 hb;have:=hf i (List.mem_range.1 hi);exact⟨this.1,this.2.1⟩
theorem zgm {b0:Nat} {r:Reach} {v:Value} {d:DataW H} {p:List MemPlace} (hv:Value.okWide Tryz.prog w r b0 24 v) (h:DataW.Trod enc Tryz.prog w base spare held 24 v d p) (hw:∀n∈d.weights Tryz.prog 24,n<=reachBytes):
  ∃(vl:Sli) (s:List Int),v= .slice vl.a vl.n vl.c/\zo byE w (.slice vl.a vl.n vl.c) s/\vl.n<=vl.c/\∀z∈s,0<=z/\z<256:=by
 obtain⟨fuel,hf⟩:=h;obtain⟨v0,ps,e0,s0,q0,w0⟩:=ziG byE.enc (fun z=>0<=z/\z<256) 1 Tryz.underlying24 zlC (fun n cs x _ ht=>by
  obtain⟨z,hz,hz2,hz3⟩:=DataW.trod_int Tryz.underlying5 ht;refine⟨z,?_,hz⟩;have:=hz3;simp only[Lit.wf,Bool.and_eq_true,decide_eq_true_eq]at this;have e1:IntKind.u8.min=0:=rfl;have e2:IntKind.u8.max=255:=rfl;rw[e1,e2]at this;exact⟨this.1,by have:=this.2;omega⟩) hf
 obtain⟨a,c,rfl,s2,s3⟩:=s0;obtain⟨a1,l1,c1,rfl⟩:=okWide_slice Tryz.underlying24 hv;have e1:Value.slice a1 l1 c1= .slice a ps.length c:=by simpa [Value.cells]using e0
 cases e1;refine⟨⟨a,ps.length,c⟩,ps,rfl,⟨⟨a,c,rfl,s2,s3⟩,?_⟩,?_,fun z hz=>(q0 z hz).1⟩
 ·rcases w0 with rfl | ⟨es,sp,he,hel⟩
  ·show 0*1<=_
   omega
  have he':d= .slice es sp:=he;have:=hw ((es.length+sp.length)*Tryz.prog.bytesOf 5) (by rw[he'];simp[DataW.weights,Tryz.underlying24])
  rw[zlE]at this;unfold reachBytes at this
  show ps.length*1<=_
  omega
 rcases Go.Deep.open_slice Tryz.underlying24 hf with⟨h1,_⟩ | ⟨a',len,cap,_,_,_,_,h1,_,hl,_⟩
 ·have e2:Value.slice a ps.length c= .slice none 0 0:=by simpa [Value.cells]using h1
  simp only[vJ]at e2
  show ps.length<=c
  omega
 have e2:Value.slice a ps.length c= .slice (some a') len cap:=by simpa [Value.cells]using h1
 simp only[vJ]at e2
 show ps.length<=c
 omega
theorem ze0 {b0:Nat} {r:Reach} {v:Value} {d:DataW H} {p:List MemPlace} (hv:Value.okWide Tryz.prog w r b0 23 v) (h:DataW.Trod enc Tryz.prog w base spare held 23 v d p):∃F S B:Int,v= .agg #[.int .i64 F,.int .i64 S,.int .i64 B]:=by
 obtain⟨cs,rfl,hsz,_⟩:∃cs,v= .agg cs/\cs.size=Tryz.prog.cellsOf 23/\Row.okWide Tryz.prog w r b0 23 cs:=by
  simpa [Value.okWide,Tryz.underlying23]using hv
 obtain⟨fuel,hf⟩:=h;obtain⟨xs,n,_,_,hlen,hl,hf⟩:=DataW.trod_struct Tryz.underlying23 hf;rw[zlD]at hlen;have hxl:xs.length=3:=hl;obtain⟨cs⟩:=cs;simp only[Value.cells]at hlen hf;have h0:DataW.trod enc Tryz.prog w base spare held n 3 ((cs.drop 0).take (Tryz.prog.cellsOf 3))=xs[0]?:=hf 0 _ rfl;have h1:DataW.trod enc Tryz.prog w base spare held n 3 ((cs.drop 1).take (Tryz.prog.cellsOf 3))=xs[1]?:=hf 1 _ rfl;have h2:DataW.trod enc Tryz.prog w base spare held n 3 ((cs.drop 2).take (Tryz.prog.cellsOf 3))=xs[2]?:=hf 2 _ rfl;rw[zlB]at h0 h1 h2;rw[gE (by omega)]at h0 h1 h2
 obtain⟨r0,e0,_,_⟩:=DataW.trod_int Tryz.underlying3 h0;obtain⟨r1,e1,_,_⟩:=DataW.trod_int Tryz.underlying3 h1;obtain⟨r2,e2,_,_⟩:=DataW.trod_int Tryz.underlying3 h2;obtain⟨c0,c1,c2,rfl⟩:∃c0 c1 c2,cs=[c0,c1,c2]:=by
  match cs,hlen with
  | [c0,c1,c2],_=>exact⟨c0,c1,c2,rfl⟩
 simp only[List.drop_succ_cons,List.drop_zero,List.take_succ_cons,List.take_zero,List.cons.injEq,and_true]at e0 e1 e2;subst e0 e1 e2;exact⟨r0,r1,r2,rfl⟩
end
theorem own:ownKnob Tryz.prog.godebug=none:=by kernel_rfl
theorem laidOut:laidOutB Tryz.prog=true:=by kernel_rfl
theorem zae (os:Os) (started:os.Started) (H:Type) (enc:TypeId × Value->H):
  ReturnsInHanded {} Tryz.checked os 13 .any (Rows.pagingCrashSpec.pre6 enc Tryz.prog Tryz.f13 Rows.pagingCrashRow.domain false) (Rows.pagingCrashSpec.post enc Tryz.prog Tryz.f13 false true false false):=by
 refine returnsInHanded_of_change_sized (C:=Tryz.checked) own started (by kernel_rfl) Tryz.func13
  (ChangeSpec.witness6 (enc:=enc) (C:=Tryz.checked) false ⟨#[],#[.agg #[.int .i64 0,.int .i64 0,.int .i64 0],.slice none 0 0,.int .i64 0],[]⟩ 8 (by kernel_rfl) (by kernel_rfl) (by kernel_rfl) (by kernel_rfl)) ?_
 intro W base args ds gs before hval0 hW hcnd hsz0 _;have hsz:(DataW.weightsEach Tryz.prog (Tryz.f13.params.toList++Rows.pagingCrashSpec.plain.varTypes Tryz.prog) (ds++gs)).all (·<=reachBytes)=true:=hsz0;have hval:∀(j:Nat) t v,Tryz.f13.params[j]? =some t->args[j]? =some v->Value.okWide Tryz.prog W .any base t v:=hval0;have hW':=hW;obtain⟨p,q,hA0,hV,rfl,hfz,hnd⟩:=hW;have hA:DataW.TrodAll enc Tryz.prog W 0 (fun _=>true) true Tryz.f13.params.toList args.toList ds p:=hA0
 rw[Tryz.params13]at hA hval hsz;obtain⟨v0,vs0,d0,ds0,p0,q0,hargs,rfl,rfl,k0,r0⟩:=trodAll_cons hA;obtain⟨v1,vs1,d1,ds1,p1,q1,rfl,rfl,rfl,k1,r1⟩:=trodAll_cons r0;obtain⟨v2,vs2,d2,ds2,p2,q2,rfl,rfl,rfl,k2,r2⟩:=trodAll_cons r1;obtain⟨rfl,rfl,rfl⟩:=trodAll_nil r2;obtain rfl:args=#[v0,v1,v2]:=by cases args;simp_all
 obtain⟨rfl,rfl⟩:=trodVars_none hV;have lt0:∀x∈p0,x.block<W.heap.size:=by obtain⟨m,hm⟩:=k0;exact DataW.trod_lt m _ _ _ hm
 have lt1:∀x∈p1,x.block<W.heap.size:=by obtain⟨m,hm⟩:=k1;exact DataW.trod_lt m _ _ _ hm
 have lt2:∀x∈p2,x.block<W.heap.size:=by obtain⟨m,hm⟩:=k2;exact DataW.trod_lt m _ _ _ hm
 obtain⟨cF,cS,cB,hce⟩:=ze0 (hval 0 23 v0 rfl rfl) k0;subst hce;obtain⟨vl,ll,hvl,hrow,hcap,hbyt⟩:=zgm (hval 1 24 v1 rfl rfl) k1 (fun n hn=>by
  have:=List.all_eq_true.1 hsz n (DataW.weights_mem_each (j:=1) (t:=24) (d:=d1) rfl rfl n hn)
  simpa using this)
 subst hvl;have k2':=k2;obtain⟨n2,rfl,rfl,rfl,w2⟩:=open_int Tryz.underlying3 (hval 2 3 v2 rfl rfl) k2;clear hA0 hval0 hsz0;refine(zek cF cS cB vl ll n2 W hrow hcap hbyt).mono fun e W' ⟨he,bel⟩=>?_
 subst he;have stay:∀{t:TypeId} {v:Value} {d:DataW H} {ps:List MemPlace},Tryz.prog.readableRec t=true->t<Tryz.prog.types.size->DataW.Trod enc Tryz.prog W 0 (fun _=>true) true t v d ps->(∀x∈ps,x.block<W.heap.size)->DataW.Trod enc Tryz.prog W' 0 (fun b=>decide (b<W.heap.size)) true t v d ps:=
  fun h1 h2 h3 h4=>Below.trod laidOut h1 h2 h3 bel h4
 exact⟨_,rfl,_,_,_,[],_,[],hW',trodAll_mk1 (shut_bool Tryz.underlying4 _),(trodAll_cons_mk (stay (by kernel_rfl) (of_decide_eq_true (by kernel_rfl)) k0 lt0) (trodAll_cons_mk (stay (by kernel_rfl) (of_decide_eq_true (by kernel_rfl)) k1 lt1) (trodAll_cons_mk (stay (by kernel_rfl) (of_decide_eq_true (by kernel_rfl)) k2' lt2) trodAll_mk0))),rfl,Below.frame bel _,fun h=>by cases h⟩
theorem zaZ:Rows.pagingCrashRow.holds Tryz.pinned (OpenSpec.ofChange Rows.pagingCrashSpec):=
 OpenClaim.holds_of_wide 13 Tryz.f13 rfl rfl rfl rfl rfl rfl rfl ⟨rfl,rfl,rfl,rfl,rfl⟩ rfl rfl rfl rfl rfl (by kernel_rfl) Tryz.func13 (by kernel_rfl)
  (of_decide_eq_true (by kernel_rfl)) (by unfold Func.isWrapper;first | (rw[if_pos (by decide+kernel)];kernel_rfl) | (rw[if_neg (by decide+kernel)];exact⟨rfl,rfl⟩))
  (fun os started H enc _=>zae os started H enc)
theorem pagingCrash_holds:Rows.PagingCrashSaid:=zaZ
#print axioms pagingCrash_holds
end
end Go.Proofs.YtdgccecjbpgmfaaGreat
