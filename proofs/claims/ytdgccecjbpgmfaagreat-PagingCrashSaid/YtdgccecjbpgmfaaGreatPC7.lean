import Derived.Test.YtdgccecjbpgmfaaGreatPC6
import Derived.Deep.CutRange
import Derived.Deep.DeepCutAuto
namespace Go.Proofs.YtdgccecjbpgmfaaGreat
set_option maxRecDepth 100000
set_option maxHeartbeats 4000000
section
open Go.RowKit
theorem zdC {w0:World} {hi:Nat} {b:Nat} {vl:Sli} {L:List Int} {V:MaV} {m:Ma} {vt:Sli} {T:List (Nat->En)} {w:World} (h:Mk w0 hi w b vl L V m vt T) (hB:qO m T) (h4:m.sp.length<4):
  Calls Tryz.prog 48 #[.pointer (some ⟨b,0,none⟩)] w fun e w'=>(∃v,e= .returned v)/\Spc w0 hi b w L m T w':=by
 have HM:Hid (Mk w0 hi w b vl L V m vt T):=h;have HB:Hid (qO m T):=hB;have H4:Hid (m.sp.length<4):=h4;have hpk:=qk 4 h;obtain⟨fln,HFN⟩:∃fln,Hid (V.fl.n=fln):=⟨_,rfl⟩;have HFM:Hid (m.fl.length=fln):=show _=_ by rw[<-HFN.out];exact h.rows.at.ns.2.2.2.2.2.2.1.symm
 have hfl5:fln<=5:=by
  rw[<-HFM.out];obtain⟨⟨a1,a2,a3⟩,a4,a5⟩:=(jp m.fl m.cnt).1 hB.st;omega
 have HWB:Hid (w0.heap.size<=w.heap.size):=show _<=_ from bS h.gr
 clear h hB h4
 go_enter Tryz.func48,Tryz.ntmps48
 go_wp2_with fail;refine hpk.mono ?_;clear hpk;rintro e W1 ⟨vl1,L1,y,rfl,mk1,gr1,sz1,y0,y1,yn,ll⟩;obtain⟨c,rfl⟩:∃c:Nat,y=(c:Int):=⟨y.toNat,by omega⟩
 have hc4:c<4:=by rcases y1 with h | h <;> omega
 have HC0:Hid (L=[]->c=0):=show _->_ from fun e=>by have:=yn e;omega
 have M1:Hid (Mk w0 hi W1 b vl1 L1 V m vt T):=mk1;have K1:Hid (zn hi w W1):=HM.out.keeps gr1;have SB1:Hid (SpB w0.heap.size w.heap.size W1 V m):=HM.out.rows.spB.pick HM.out gr1;have LL1:Hid (ZC L L1):=ll;clear mk1 gr1 sz1 y0 y1 yn ll;go_wp2
 go_loopg [2,11] c (fun gg s2 s11 wr=>∃(kk ln:Nat) (l:List Ar) (xa:Option Addr) (xc:Nat) (vl':Sli) (L':List Int),kk<=c/\c - kk<=gg/\s11= .int .i64 kk/\s2=(.slice xa ln xc)/\Hid (Mk w0 hi wr b vl' L' V m vt T)/\Hid (ZC L L')/\Hid (zn hi w wr)/\Hid (SpB w0.heap.size w.heap.size wr V m)/\Hid (zb arE w0.heap.size wr (.slice xa ln xc) l)/\Hid (jn m.fl.length l/\(wrL l).1=0/\jQ l 64<=4*kk)/\Hid (kk=0->l=[]))
 case atStart=>exact⟨0,0,[],none,0,vl1,L1,nZ _,by omega,rfl,rfl,M1.out,LL1.out,K1.out,SB1.out,zb.nil _ _ _,(show _/\_ from⟨zfi _,rfl,by decide⟩),(fun _=>rfl)⟩
 obtain⟨kk,ln,l,xa,xc,vl2,L2,hkk,hgg,rfl,rfl,M2,LL2,K2,SB2,O2,FI2,Z2⟩:=hrel;clear M1 LL1 K1 SB1
 by_cases hlt:kk<c
 ·have hltz:(kk:Int)< (c:Int):=by omega
  have HLC:Hid (L≠[]):=show _≠_ from fun e=>by have:=HC0.out e;omega
  go_upto_region 3 with fail;obtain⟨I,HI⟩:∃I:World->Prop,Hid (∀u,I u↔(MkE w0 hi b w L V m vt T u/\SpB w0.heap.size w.heap.size u V m/\zb arE w0.heap.size u (.slice xa ln xc) l)):=⟨fun u=>(MkE w0 hi b w L V m vt T u/\SpB w0.heap.size w.heap.size u V m/\zb arE w0.heap.size u (.slice xa ln xc) l),fun _=>Iff.rfl⟩
  have hI0:I wr.drew:=(HI.out _).2 ⟨⟨vl2,L2,M2.out.grew (gW _),LL2.out,K2.out.trans (zn.grew (gW _))⟩,SB2.out.grew (gW _),O2.out.grew (gW _)⟩
  have hx8:∀y:zr I,y.world.cell? ⟨b,8,none⟩=some (.slice V.fl.a fln V.fl.c):=fun y=>by
   obtain⟨⟨_,_,mk,_,_⟩,_⟩:=(HI.out _).1 y.holds;have:=mk.box.box.c 8 rfl;rw[HFN.out]at this;exact this
  have hne:Nonempty (zr I):=⟨⟨_,hI0⟩⟩;have HPK:Hid (∀(N:Int) w',0<N->I w'->Calls Tryz.prog 43 #[.pointer (some ⟨b,0,none⟩),.int .i64 N] w' fun e w''=>∃x:Int,e= .returned (.int .i64 x)/\0<=x/\x<N/\I w''/\zn hi w' w''):=show∀N,_ from fun N w' hN hI'=>by
   obtain⟨⟨vl',L',mk',ll',kp'⟩,sb',ow'⟩:=(HI.out _).1 hI';refine(qk N mk').mono ?_;rintro e w'' ⟨vl3,L3,x,rfl,mk3,gr3,_,q0,q1,_,ll3⟩;exact⟨x,rfl,q0,by omega,(HI.out _).2 ⟨⟨vl3,L3,mk3,ll'.trans ll3,kp'.trans (mk'.keeps gr3)⟩,sb'.pick mk' gr3,ow'.pick mk' gr3⟩,mk'.keeps gr3⟩
  refine qP (I:=I) 21 [(1,⟨fun v=>∃x:Int,v= .int .i64 x/\0<=x/\x<12,fun _ _=>True,fun p q=>zn hi p q,fun _=>True⟩),(3,⟨fun v=>∃x:Int,v= .int .i64 x/\0<=x/\x<4,fun _ _=>True,fun p q=>zn hi p q,fun _=>True⟩),(6,⟨fun v=>∃x:Int,v= .int .i64 x/\0<=x/\x<3,fun _ _=>True,fun p q=>zn hi p q,fun _=>True⟩),(17,⟨fun v=>∃x:Int,v= .int .i64 x/\0<=x/\x< (fln:Int)+1,fun _ _=>True,fun p q=>zn hi p q,fun _=>True⟩),(20,⟨fun v=>∃g,v= .pointer (some ⟨g,0,none⟩),fun v u=>∃g,v= .pointer (some ⟨g,0,none⟩)/\zp u g 114 [.int .i64 0,.int .i64 0,.bool false,.bool false,.bool false,.int .i64 0,.int .i64 0]/\w.heap.size<=g/\∀k,(Value.slice xa ln xc).ownBlock=some k->k<g,fun p q=>zc p q,fun _=>True⟩)] hI0 qy (by kernel_rfl) rfl rfl (by decide) ?hS ?hp ?hpre ?hpr0 ?_
  case hS=>
   intro x hx;simp only[mC,nM,or_false]at hx
   rcases hx with rfl | rfl | rfl | rfl | rfl
   ·exact⟨_,0,rfl,by omega,by omega⟩
   ·exact⟨_,0,rfl,by omega,by omega⟩
   ·exact⟨_,0,rfl,by omega,by omega⟩
   ·exact⟨_,0,rfl,by omega,by omega⟩
   exact⟨_,0,rfl⟩
  case hp=>
   intro k s j t hk hj hjk hanc v p q hst hpo;have hk':=zN hk;have hj':=zN hj;clear hk hj;simp only[mC,pJ,nM,or_false]at hk' hj'
   rcases hk' with⟨rfl,rfl⟩ | ⟨rfl,rfl⟩ | ⟨rfl,rfl⟩ | ⟨rfl,rfl⟩ | ⟨rfl,rfl⟩
   ·trivial
   ·trivial
   ·trivial
   ·trivial
   obtain⟨g,hg1,hg2,hg3⟩:=hpo
   rcases hj' with⟨rfl,rfl⟩ | ⟨rfl,rfl⟩ | ⟨rfl,rfl⟩ | ⟨rfl,rfl⟩ | ⟨rfl,rfl⟩
   ·exact⟨g,hg1,hst.1 _ _ _ hg2 QD,hg3⟩
   ·exact⟨g,hg1,hst.1 _ _ _ hg2 QD,hg3⟩
   ·exact⟨g,hg1,hst.1 _ _ _ hg2 QD,hg3⟩
   ·exact⟨g,hg1,hst.1 _ _ _ hg2 QD,hg3⟩
   exact absurd rfl hjk
  case hpre=>
   intro j t k s hj hk hjk p q hst hpr;have hj':=zN hj;clear hk hj;simp only[mC,pJ,nM,or_false]at hj'
   rcases hj' with⟨rfl,rfl⟩ | ⟨rfl,rfl⟩ | ⟨rfl,rfl⟩ | ⟨rfl,rfl⟩ | ⟨rfl,rfl⟩ <;> trivial
  case hpr0=>
   intro k t hk;have hk':=zN hk;clear hk;simp only[mC,pJ,nM,or_false]at hk'
   rcases hk' with⟨rfl,rfl⟩ | ⟨rfl,rfl⟩ | ⟨rfl,rfl⟩ | ⟨rfl,rfl⟩ | ⟨rfl,rfl⟩ <;> trivial
  simp only[List.take,List.drop];iterate 1 (refine zk rfl rfl rfl (fun K hK=>?_);go_big_quiet_op;refine hK _ ?_;clear hK K)
  refine zF rfl rfl (fun w' hI' hpr hF=>?_) (fun v1 hv=>?_)
  ·refine zL.call [.pointer (some ⟨b,0,none⟩),.int .i64 12] rfl Tryz.func43 rfl rfl rfl ?_;refine(HPK.out 12 w' (by omega) hI').mono ?_
   rintro e w'' ⟨x,rfl,q0,q1,q2,q3⟩;exact⟨_,rfl,q2,q3,⟨x,rfl,q0,q1⟩,trivial⟩
  obtain⟨f1,rfl,f1a,f1b⟩:=hv;simp only[Act.put,sB,sS,sZ];iterate 1 (refine zk rfl rfl rfl (fun K hK=>?_);go_big_quiet_op;refine hK _ ?_;clear hK K)
  refine zF rfl rfl (fun w' hI' hpr hF=>?_) (fun v1 hv=>?_)
  ·refine zL.call [.pointer (some ⟨b,0,none⟩),.int .i64 4] rfl Tryz.func43 rfl rfl rfl ?_;refine(HPK.out 4 w' (by omega) hI').mono ?_
   rintro e w'' ⟨x,rfl,q0,q1,q2,q3⟩;exact⟨_,rfl,q2,q3,⟨x,rfl,q0,q1⟩,trivial⟩
  obtain⟨f3,rfl,f3a,f3b⟩:=hv;simp only[Act.put,sB,sS,sZ];iterate 2 (refine zk rfl rfl rfl (fun K hK=>?_);go_big_quiet_op;refine hK _ ?_;clear hK K)
  refine zF rfl rfl (fun w' hI' hpr hF=>?_) (fun v1 hv=>?_)
  ·refine zL.call [.pointer (some ⟨b,0,none⟩),.int .i64 3] rfl Tryz.func43 rfl rfl rfl ?_;refine(HPK.out 3 w' (by omega) hI').mono ?_
   rintro e w'' ⟨x,rfl,q0,q1,q2,q3⟩;exact⟨_,rfl,q2,q3,⟨x,rfl,q0,q1⟩,trivial⟩
  obtain⟨f6,rfl,f6a,f6b⟩:=hv;simp only[Act.put,sB,sS,sZ];iterate 3 (refine zk rfl rfl rfl (fun K hK=>?_);go_big_quiet_op;refine hK _ ?_;clear hK K)
  refine jv (.tmp 22) ⟨b,0,none⟩ rfl rfl rfl rfl ?_;simp only[Act.put,sB,sS,sZ];iterate 6 (refine zk rfl rfl rfl (fun K hK=>?_);go_big_quiet_op;refine hK _ ?_;clear hK K)
  refine zF rfl rfl (fun w' hI' hpr hF=>?_) (fun v1 hv=>?_)
  ·refine zL.call [.pointer (some ⟨b,0,none⟩),.int .i64 ((fln:Int)+1)] rfl Tryz.func43 rfl rfl rfl ?_;refine(HPK.out ((fln:Int)+1) w' (by omega) hI').mono ?_
   rintro e w'' ⟨x,rfl,q0,q1,q2,q3⟩;exact⟨_,rfl,q2,q3,⟨x,rfl,q0,q1⟩,trivial⟩
  obtain⟨f17,rfl,f17a,f17b⟩:=hv;simp only[Act.put,sB,sS,sZ];iterate 2 (refine zk rfl rfl rfl (fun K hK=>?_);go_big_quiet_op;refine hK _ ?_;clear hK K)
  refine zF rfl rfl (fun w' hI' hpr hF=>?_) (fun v1 hv=>?_)
  ·obtain⟨⟨vl',L',mk',ll',kp'⟩,sb',ow'⟩:=(HI.out _).1 hI';refine zL.step (v:= .pointer (some ⟨w'.heap.size,0,none⟩)) (w':=w'.alloc (.cells #[.int .i64 0,.int .i64 0,.bool false,.bool false,.bool false,.int .i64 0,.int .i64 0] 114)) (by clear hx8;simp only[execOp];go_simp) ⟨(HI.out _).2 ⟨⟨vl',L',mk'.grew (za _ _),ll',kp'.trans (zn.grew (za _ _))⟩,sb'.grew (za _ _),ow'.grew (za _ _)⟩,za _ _,⟨_,rfl⟩,_,rfl,zp.top _ [.int .i64 0,.int .i64 0,.bool false,.bool false,.bool false,.int .i64 0,.int .i64 0] _ rfl,kp'.2,fun k hk=>(ow'.lt k hk).2⟩
  obtain⟨pa,rfl⟩:=hv;simp only[Act.put,sB,sS,sZ];refine jI fun W3 hI3 hF=>?_
  obtain⟨g',hg1,hg2,hg3,hg4⟩:=hF 20;simp only[Value.pointer.injEq,Option.some.injEq,Addr.mk.injEq,and_true]at hg1;subst hg1;obtain⟨⟨vl3,L3,mk3,ll3,kp3⟩,sb3,ow3⟩:=(HI.out _).1 hI3;have M3:Hid (Mk w0 hi W3 b vl3 L3 V m vt T):=mk3;have LL3:Hid (ZC L L3):=ll3;have K3:Hid (zn hi w W3):=kp3;have SB3:Hid (SpB w0.heap.size w.heap.size W3 V m):=sb3;have O3:Hid (zb arE w0.heap.size W3 (.slice xa ln xc) l):=ow3;have P3:Hid (zp W3 pa 114 [.int .i64 0,.int .i64 0,.bool false,.bool false,.bool false,.int .i64 0,.int .i64 0]):=hg2;have HPA:Hid (w.heap.size<=pa):=hg3;have HPO:Hid (∀k,(Value.slice xa ln xc).ownBlock=some k->k<pa):=hg4;have HPB:Hid (w0.heap.size<=pa):=show _<=_ from nT HWB.out hg3
  clear hg2 hg3 hg4 mk3 ll3 kp3 sb3 ow3 hF hI3 hx8 hne hI0 HI HPK;clear M2 LL2 K2 SB2 O2;obtain⟨rd,HRD⟩:∃rd,Hid (decide ((0:Int)<f3)=rd):=⟨_,rfl⟩;obtain⟨wr',HWR⟩:∃wr',Hid (decide ((0:Int)<f6)=wr'):=⟨_,rfl⟩;rw[HRD.out,HWR.out];obtain⟨file,hfile⟩:∃file,f17 - 1=file:=⟨_,rfl⟩;have hfn:file< (fln:Int):=by omega
  have hf0:-1<=file:=by omega
  rw[hfile];refine qD rfl 114 (.tmp 3) (.tmp 32) rfl pa rfl [.int .i64 f1,.int .i64 0,.bool rd,.bool wr',.bool false,.int .i64 file,.int .i64 0] rfl P3.out rfl zlj (arE.one ⟨f1,0,rd,wr',false,file,0⟩) ?_;intro W4 hb4 hg4 _;have hM4:=M3.out.area SB3.out hg4 P3.out HPA.out HPB.out;have M4:Hid (Mk w0 hi W4 b vl3 L3 V m vt T):=hM4.1;have SB4:Hid (SpB w0.heap.size w.heap.size W4 V m):=hM4.2;have K4:Hid (zn hi w W4):=K3.out.own hg4 HPA.out;have O4:Hid (zb arE w0.heap.size W4 (.slice xa ln xc) l):=O3.out.grown hg4 (fun g hg e=>by cases e;have:=HPO.out _ hg;omega)
  have P4:Hid (zp W4 pa 114 [.int .i64 f1,.int .i64 0,.bool rd,.bool wr',.bool false,.int .i64 file,.int .i64 0]):=hb4;clear hM4 hb4 hg4 M3 SB3 K3 O3 P3 f17a f17b hfile HRD HWR;go_upto_region 4 with fail;simp only[Act.put];obtain⟨I,HI⟩:∃I:World->Prop,Hid (∀u,I u↔(MkE w0 hi b w L V m vt T u/\SpB w0.heap.size w.heap.size u V m/\zb arE w0.heap.size u (.slice xa ln xc) l/\zp u pa 114 [.int .i64 f1,.int .i64 0,.bool rd,.bool wr',.bool false,.int .i64 file,.int .i64 0])):=⟨fun u=>(MkE w0 hi b w L V m vt T u/\SpB w0.heap.size w.heap.size u V m/\zb arE w0.heap.size u (.slice xa ln xc) l/\zp u pa 114 [.int .i64 f1,.int .i64 0,.bool rd,.bool wr',.bool false,.int .i64 file,.int .i64 0]),fun _=>Iff.rfl⟩
  have hI0:I W4.drew:=(HI.out _).2 ⟨⟨vl3,L3,M4.out.grew (gW _),LL3.out,K4.out.trans (zn.grew (gW _))⟩,SB4.out.grew (gW _),O4.out.grew (gW _),P4.out.grew (gW _)⟩
  have hp0:∀y:zr I,y.world.cell? ⟨pa,0,none⟩=some (.int .i64 f1):=fun y=>((HI.out _).1 y.holds).2.2.2.box.c 0 rfl
  have hne:Nonempty (zr I):=⟨⟨_,hI0⟩⟩;refine qP (I:=I) 7 [(4,⟨fun v=>∃x:Int,v= .int .i64 x/\0<=x/\x<4,fun _ _=>True,fun _ _=>True,fun _=>True⟩)] hI0 qy (by kernel_rfl) rfl rfl (by decide) ?hS ?hp ?hpre ?hpr0 ?_
  case hS=>
   intro x hx;simp only[mC,nM,or_false]at hx;subst hx;exact⟨_,0,rfl,by omega,by omega⟩
  case hp=>
   intro k s j t hk hj hjk hanc v p q hst hpo;have hk':=zN hk;simp only[mC,pJ,nM,or_false]at hk';obtain⟨rfl,rfl⟩:=hk';trivial
  case hpre=>
   intro j t k s hj hk hjk p q hst hpr;have hj':=zN hj;simp only[mC,pJ,nM,or_false]at hj';obtain⟨rfl,rfl⟩:=hj';trivial
  case hpr0=>
   intro k t hk;have hk':=zN hk;simp only[mC,pJ,nM,or_false]at hk';obtain⟨rfl,rfl⟩:=hk';trivial
  simp only[List.take,List.drop];iterate 4 (refine zk rfl rfl rfl (fun K hK=>?_);go_big_quiet_op;refine hK _ ?_;clear hK K)
  refine zF rfl rfl (fun w' hI' hpr hF=>?_) (fun v1 hv=>?_)
  ·obtain⟨⟨vl',L',mk',ll',kp'⟩,sb',ow',pb'⟩:=(HI.out _).1 hI';refine zL.call [.pointer (some ⟨b,0,none⟩),.int .i64 4] rfl Tryz.func43 rfl rfl rfl ?_;refine(qk 4 mk').mono ?_;rintro e w'' ⟨vl5,L5,x,rfl,mk5,gr5,_,q0,q1,_,ll5⟩;exact⟨_,rfl,(HI.out _).2 ⟨⟨vl5,L5,mk5,ll'.trans ll5,kp'.trans (mk'.keeps gr5)⟩,sb'.pick mk' gr5,ow'.pick mk' gr5,(mk'.keeps gr5).1 _ _ _ pb' QD⟩,trivial,⟨x,rfl,q0,by omega⟩,trivial⟩
  obtain⟨f4,rfl,f4a,f4b⟩:=hv;simp only[Act.put,sB,sS,sZ];iterate 2 (refine zk rfl rfl rfl (fun K hK=>?_);go_big_quiet_op;refine hK _ ?_;clear hK K)
  refine jI fun W5 hI5 hF=>?_
  obtain⟨⟨vl5,L5,mk5,ll5,kp5⟩,sb5,ow5,pb5⟩:=(HI.out _).1 hI5;have M5:Hid (Mk w0 hi W5 b vl5 L5 V m vt T):=mk5;have LL5:Hid (ZC L L5):=ll5;have K5:Hid (zn hi w W5):=kp5;have SB5:Hid (SpB w0.heap.size w.heap.size W5 V m):=sb5;have O5:Hid (zb arE w0.heap.size W5 (.slice xa ln xc) l):=ow5;have P5:Hid (zp W5 pa 114 [.int .i64 f1,.int .i64 0,.bool rd,.bool wr',.bool false,.int .i64 file,.int .i64 0]):=pb5;clear mk5 ll5 kp5 sb5 ow5 pb5 hF hI5 hp0 hne hI0 HI M4 LL3 K4 SB4 O4 P4;obtain⟨tz,HTO⟩:∃tz,Hid (f1+1+f4=tz):=⟨_,rfl⟩;have HT4:Hid ((tz - f1).toNat<=4):=show _<=_ by rw[<-HTO.out];omega
  have xp:=P5.out.box.c 1 rfl;have xf:=P5.out.box.f;rw[HTO.out];go_upto_region 5 with fail;clear xp xf;obtain⟨W6,hW6⟩:∃W6,W5.setCell ⟨pa,1,none⟩ (.int .i64 tz)=W6:=⟨_,rfl⟩;have hg6:W5.grownBy W6 (some pa):=by rw[<-hW6];exact jc _ _ _ _
  have P6:Hid (zp W6 pa 114 [.int .i64 f1,.int .i64 tz,.bool rd,.bool wr',.bool false,.int .i64 file,.int .i64 0]):=show zp _ _ _ _ by rw[<-hW6];exact P5.out.set 1 _
  have hM6:=M5.out.area SB5.out hg6 P5.out HPA.out HPB.out;have M6:Hid (Mk w0 hi W6 b vl5 L5 V m vt T):=hM6.1;have SB6:Hid (SpB w0.heap.size w.heap.size W6 V m):=hM6.2;have K6:Hid (zn hi w W6):=K5.out.own hg6 HPA.out;have O6:Hid (zb arE w0.heap.size W6 (.slice xa ln xc) l):=O5.out.grown hg6 (fun g hg e=>by cases e;have:=HPO.out _ hg;omega)
  rw[hW6];clear hW6 hg6 hM6 M5 SB5 K5 O5 P5;have p5:=P6.out.box.c 5 rfl
  by_cases hfz:0<=file
  ·have hfd:decide ((0:Int)<=file)=true:=by simpa using hfz
   have hpk1:=qk 2 M6.out;go_wp2_with fail;refine hpk1.mono ?_;clear hpk1 p5;rintro e W7 ⟨vl7,L7,z7,rfl,mk7,gr7,_,_,_,_,ll7⟩;have M7:Hid (Mk w0 hi W7 b vl7 L7 V m vt T):=mk7;have SB7:Hid (SpB w0.heap.size w.heap.size W7 V m):=SB6.out.pick M6.out gr7;have K7:=dD (K6.out.trans (M6.out.keeps gr7));have O7:Hid (zb arE w0.heap.size W7 (.slice xa ln xc) l):=O6.out.pick M6.out gr7;have P7:Hid (zp W7 pa 114 [.int .i64 f1,.int .i64 tz,.bool rd,.bool wr',.bool false,.int .i64 file,.int .i64 0]):=(M6.out.keeps gr7).1 _ _ _ P6.out QD;have LL7:=dD (LL5.out.trans ll7);clear mk7 gr7 ll7 M6 SB6 K6 O6 P6;have hpk2:=qk 4 M7.out;go_wp2_with fail;refine hpk2.mono ?_;clear hpk2;rintro e W9 ⟨vl9,L9,z9,rfl,mk9,gr9,_,z9a,z9b,_,ll9⟩;have M9:Hid (Mk w0 hi W9 b vl9 L9 V m vt T):=mk9;have SB9:Hid (SpB w0.heap.size w.heap.size W9 V m):=SB7.out.pick M7.out gr9;have K9:=dD (K7.out.trans (M7.out.keeps gr9));have OA:Hid (zb arE w0.heap.size W9 (.slice xa ln xc) l):=O7.out.pick M7.out gr9;have P9:Hid (zp W9 pa 114 [.int .i64 f1,.int .i64 tz,.bool rd,.bool wr',.bool false,.int .i64 file,.int .i64 0]):=(M7.out.keeps gr9).1 _ _ _ P7.out QD;have LL9:=dD (LL7.out.trans ll9);clear mk9 gr9 ll9 M7 SB7 K7 O7 P7;obtain⟨sh,HSH⟩:∃sh,Hid ((z7 == 1)=sh):=⟨_,rfl⟩;try rw[HSH.out]
   have xp:=P9.out.box.c 4 rfl;have xq:=P9.out.box.c 6 rfl;have xf:=P9.out.box.f;go_upto_region 7 with fail;try rw[HSH.out]
   clear xp xq xf;obtain⟨WA,hWA⟩:∃WA,(W9.setCell ⟨pa,4,none⟩ (.bool sh)).setCell ⟨pa,6,none⟩ (.int .i64 z9)=WA:=⟨_,rfl⟩;have hgA:W9.grownBy WA (some pa):=by rw[<-hWA];exact JY (jc _ _ _ _) (jc _ _ _ _)
   have PA:Hid (zp WA pa 114 [.int .i64 f1,.int .i64 tz,.bool rd,.bool wr',.bool sh,.int .i64 file,.int .i64 z9]):=show zp _ _ _ _ by rw[<-hWA];exact(P9.out.set 4 _).set 6 _
   have hMA:=M9.out.area SB9.out hgA P9.out HPA.out HPB.out;have MA:Hid (Mk w0 hi WA b vl9 L9 V m vt T):=hMA.1;have SBA:Hid (SpB w0.heap.size w.heap.size WA V m):=hMA.2;have KA:Hid (zn hi w WA):=K9.out.own hgA HPA.out;have OB:Hid (zb arE w0.heap.size WA (.slice xa ln xc) l):=OA.out.grown hgA (fun g hg e=>by cases e;have:=HPO.out _ hg;omega)
   rw[hWA];clear hWA hgA hMA M9 SB9 K9 OA P9;obtain⟨p0,p1,p2,p3,p4,p5,p6⟩:=PA.out.box.c7;have hmp:=zcj (.slice xa ln xc) l ⟨f1,tz,rd,wr',sh,file,z9⟩ WA OB.out.at OB.out.cap;have HR:Hid ((J4 l ⟨f1,tz,rd,wr',sh,file,z9⟩).2=0->jn m.fl.length (J4 l ⟨f1,tz,rd,wr',sh,file,z9⟩).1/\(wrL (J4 l ⟨f1,tz,rd,wr',sh,file,z9⟩).1).1=0/\jQ (J4 l ⟨f1,tz,rd,wr',sh,file,z9⟩).1 64<=4*(kk+1)):=show _->_ from fun he=>⟨zbM FI2.out.1 (by show file<_;rw[HFM.out];exact hfn) he,zjw he,by have h1:=zf5 he;have h2:=HT4.out;have h3:=FI2.out.2.2;dsimp only at h1;omega⟩
   go_wp2_with fail;refine hmp.mono ?_;clear hmp p0 p1 p2 p3 p4 p5 p6;rintro e W8 ⟨⟨u,rfl,ow8⟩,g8⟩;obtain⟨ua,uc,rfl⟩:=ow8.form
   generalize J4 l ⟨f1,tz,rd,wr',sh,file,z9⟩=R at HR ow8⊢
   obtain⟨R1,R2⟩:=R;dsimp only at HR ow8⊢;have M8:=dD (MA.out.grew g8);have SB8:=dD (SBA.out.grew g8);have K8:=dD (KA.out.trans (zn.grew g8));have O8:=dD (OB.out.grew g8);have O9:Hid (zb arE w0.heap.size W8 (.slice ua R1.length uc) R1):=ow8.base (nT HWB.out KA.out.2);clear g8 ow8 MA SBA KA OB PA;obtain⟨n9,HN9⟩:∃n9,Hid (R1.length=n9):=⟨_,rfl⟩;rw[HN9.out]at O9⊢
   by_cases he:R2=0
   ·have hee:(R2 == 0)=true:=by simp[he]
    have HR2:Hid (jn m.fl.length R1/\(wrL R1).1=0/\jQ R1 64<=4*(kk+1)):=show _/\_ from HR.out he
    clear he;go_wp2
    go_roundg (c -(kk+1))
    case measure=>omega
    exact⟨kk+1,n9,R1,ua,uc,vl9,L9,by omega,by omega,by go_num,rfl,M8.out,LL9.out,K8.out,SB8.out,O9.out,HR2.out,(fun h=>by omega)⟩
   have hee:(R2 == 0)=false:=by simp[he]
   clear he;go_wp2
   go_roundg (c -(kk+1))
   case measure=>omega
   exact⟨kk+1,ln,l,xa,xc,vl9,L9,by omega,by omega,by go_num,rfl,M8.out,LL9.out,K8.out,SB8.out,O8.out,(show _/\_ from⟨FI2.out.1,FI2.out.2.1,by have:=FI2.out.2.2;omega⟩),(fun h=>by omega)⟩
  have hfd:decide ((0:Int)<=file)=false:=by simpa using hfz
  go_upto_region 7 with fail;clear p5;obtain⟨p0,p1,p2,p3,p4,p5,p6⟩:=P6.out.box.c7;have hmp:=zcj (.slice xa ln xc) l ⟨f1,tz,rd,wr',false,file,0⟩ W6 O6.out.at O6.out.cap;have HR:Hid ((J4 l ⟨f1,tz,rd,wr',false,file,0⟩).2=0->jn m.fl.length (J4 l ⟨f1,tz,rd,wr',false,file,0⟩).1/\(wrL (J4 l ⟨f1,tz,rd,wr',false,file,0⟩).1).1=0/\jQ (J4 l ⟨f1,tz,rd,wr',false,file,0⟩).1 64<=4*(kk+1)):=show _->_ from fun he=>⟨zbM FI2.out.1 (by show file<_;rw[HFM.out];exact hfn) he,zjw he,by have h1:=zf5 he;have h2:=HT4.out;have h3:=FI2.out.2.2;dsimp only at h1;omega⟩
  go_wp2_with fail;refine hmp.mono ?_;clear hmp p0 p1 p2 p3 p4 p5 p6;rintro e W8 ⟨⟨u,rfl,ow8⟩,g8⟩;obtain⟨ua,uc,rfl⟩:=ow8.form
  generalize J4 l ⟨f1,tz,rd,wr',false,file,0⟩=R at HR ow8⊢
  obtain⟨R1,R2⟩:=R;dsimp only at HR ow8⊢;have M8:=dD (M6.out.grew g8);have SB8:=dD (SB6.out.grew g8);have K8:=dD (K6.out.trans (zn.grew g8));have O8:=dD (O6.out.grew g8);have O9:Hid (zb arE w0.heap.size W8 (.slice ua R1.length uc) R1):=ow8.base (nT HWB.out K6.out.2);clear g8 ow8 M6 SB6 K6 O6 P6;obtain⟨n9,HN9⟩:∃n9,Hid (R1.length=n9):=⟨_,rfl⟩;rw[HN9.out]at O9⊢
  by_cases he:R2=0
  ·have hee:(R2 == 0)=true:=by simp[he]
   have HR2:Hid (jn m.fl.length R1/\(wrL R1).1=0/\jQ R1 64<=4*(kk+1)):=show _/\_ from HR.out he
   clear he;go_wp2
   go_roundg (c -(kk+1))
   case measure=>omega
   exact⟨kk+1,n9,R1,ua,uc,vl5,L5,by omega,by omega,by go_num,rfl,M8.out,LL5.out,K8.out,SB8.out,O9.out,HR2.out,(fun h=>by omega)⟩
  have hee:(R2 == 0)=false:=by simp[he]
  clear he;go_wp2
  go_roundg (c -(kk+1))
  case measure=>omega
  exact⟨kk+1,ln,l,xa,xc,vl5,L5,by omega,by omega,by go_num,rfl,M8.out,LL5.out,K8.out,SB8.out,O8.out,(show _/\_ from⟨FI2.out.1,FI2.out.2.1,by have:=FI2.out.2.2;omega⟩),(fun h=>by omega)⟩
 have hltz:¬(kk:Int)< (c:Int):=by omega
 have HL0:Hid (L=[]->l=[]):=show _->_ from fun e=>Z2.out (by have:=HC0.out e;omega)
 clear SB2;obtain⟨ys,s1,s2,s3⟩:=M2.out.rows.sp;have S1:Hid (zb Zl w0.heap.size wr (.slice V.sp.a V.sp.n V.sp.c) ys):=s1;have S2:Hid (ys.length=m.sp.length):=s2;have S3:Hid (∀(i:Nat) x s,ys[i]? =some x->m.sp[i]? =some s->x.live=s.live/\zb arE w0.heap.size wr x.ar.v s.ars/\x.tab=zah/\s.tb=qx):=show∀i,_ from s3
 clear s1 s2 s3;obtain⟨ps,HPS⟩:∃ps,Hid (m.sp.length=ps):=⟨_,rfl⟩;have hps4:ps<4:=by rw[<-HPS.out];exact H4.out
 have x11:=M2.out.box.box.c 11 rfl;have HSZ:Hid (w0.heap.size<=wr.heap.size):=show _<=_ from bS M2.out.gr
 go_wp2_with (at_builtin;refine zB (E:=Zl) rfl (.tmp 65) (.tmp 68) rfl w0.heap.size _ ys rfl (S1.out.grew (za _ _)) _ [⟨true,⟨xa,ln,xc⟩,zw,zw,zw,zw,zw,zw,zw,zw⟩] rfl (jT Zl wr ⟨true,⟨xa,ln,xc⟩,zw,zw,zw,zw,zw,zw,zw,zw⟩ _ _ rfl (by decide)) ?qb ?qc ?_)
 case qb=>
  rw[S2.out,HPS.out]
  show(ps+1)*224<=_
  omega
 case qc=>have:=HSZ.out;omega
 intro v4 W4 ow4 gr4;obtain⟨a4,c4,rfl⟩:=ow4.form;obtain⟨N,hN⟩:∃N,(ys++ [(⟨true,⟨xa,ln,xc⟩,zw,zw,zw,zw,zw,zw,zw,zw⟩:SpV)]).length=N:=⟨_,rfl⟩;have hNp:(N:Int) - 1=(ps:Int):=by
  have:N=ps+1:=by rw[<-hN,lA,S2.out,HPS.out];rfl
  omega
 rw[hN]at ow4⊢;clear hN;obtain⟨WX,hWX⟩:∃WX,wr.alloc (.cells #[.bool true,.slice xa ln xc,.slice none 0 0,.slice none 0 0,.slice none 0 0,.slice none 0 0,.slice none 0 0,.slice none 0 0,.slice none 0 0,.slice none 0 0] 55)=WX:=⟨_,rfl⟩;have gX:=gP hWX
 rw[hWX]at gr4;clear hWX;have hbx:zp W4 b 98 [.slice vl2.a vl2.n vl2.c,.slice V.f.a V.f.n V.f.c,.int .i64 m.hand,.slice V.s.a V.s.n V.s.c,.slice V.sb.a V.sb.n V.sb.c,.slice V.sq.a V.sq.n V.sq.c,.slice V.db.a V.db.n V.db.c,.slice V.dq.a V.dq.n V.dq.c,.slice V.fl.a V.fl.n V.fl.c,.int .i64 m.cnt,.slice V.ca.a V.ca.n V.ca.c,.slice V.sp.a V.sp.n V.sp.c,.slice vt.a vt.n vt.c]:=zp.row (S1.out.grew gX) gr4 (M2.out.box.grew gX) (by decide)
 have R4:Hid (MkR w0.heap.size hi W4 { V with sp:=⟨a4,N,c4⟩ } { m with sp:=m.sp++ [⟨true,l,qx⟩] } vt T):=(M2.out.rows.grew gX).addSp (S1.out.grew gX) S2.out (fun i x s hx hs=>by
  obtain⟨a1,a2,a3⟩:=S3.out i x s hx hs;exact⟨a1,a2.grew gX,a3⟩) gr4 ⟨a4,N,c4⟩ ⟨xa,ln,xc⟩ (O2.out.grew gX) ow4
 have G4:Hid (zc w0 W4):=zc.row (S1.out.grew gX) gr4 (M2.out.gr.trans gX);have K4:Hid (zn hi w W4):=(K2.out.trans (zn.grew gX)).trans (zn.row (S1.out.grew gX) gr4 (fun p hl=>hl.2.2.2.2.2.2.1 rfl))
 have OL4:Hid (zb arE w0.heap.size W4 (.slice xa ln xc) l):=show zb _ _ _ _ _ by
  cases hob:(Value.slice V.sp.a V.sp.n V.sp.c).ownBlock with
  | none=>
   rw[hob]at gr4;exact(O2.out.grew gX).grew (qf gr4)
  | some g=>
   obtain⟨cs,hc⟩:=(S1.out.grew gX).obj hob;rw[hob]at gr4;exact(O2.out.grew gX).kind gr4 hc (by decide)
 have BX4:Hid (zp W4 b 98 [.slice vl2.a vl2.n vl2.c,.slice V.f.a V.f.n V.f.c,.int .i64 m.hand,.slice V.s.a V.s.n V.s.c,.slice V.sb.a V.sb.n V.sb.c,.slice V.sq.a V.sq.n V.sq.c,.slice V.db.a V.db.n V.db.c,.slice V.dq.a V.dq.n V.dq.c,.slice V.fl.a V.fl.n V.fl.c,.int .i64 m.cnt,.slice V.ca.a V.ca.n V.ca.c,.slice V.sp.a V.sp.n V.sp.c,.slice vt.a vt.n vt.c]):=hbx;have ML:Hid (w0.heap.size<=b/\zo byE w0 (.slice vl2.a vl2.n vl2.c) L2/\vl2.n<=vl2.c/\∀z∈L2,0<=z/\z<256):=show _/\_ from⟨M2.out.hb,M2.out.lr,M2.out.lc,M2.out.lb⟩
 clear hbx ow4 gr4 gX x11 M2 S1 S2 S3 O2 K2;have x11:=BX4.out.box.c 11 rfl;have xf:=BX4.out.box.f;go_upto_region 12 with fail;clear x11 xf;obtain⟨W5,hW5⟩:∃W5,W4.setCell ⟨b,11,none⟩ (.slice a4 N c4)=W5:=⟨_,rfl⟩;have hg5:W4.grownBy W5 (some b):=by rw[<-hW5];exact jc _ _ _ _
 have M5:Hid (Mk w0 hi W5 b vl2 L2 { V with sp:=⟨a4,N,c4⟩ } { m with sp:=m.sp++ [⟨true,l,qx⟩] } vt T):=show Mk _ _ _ _ _ _ _ _ _ _ from⟨zg G4.out hg5 ML.out.1,ML.out.1,by rw[<-hW5];exact BX4.out.set 11 _,ML.out.2.1,ML.out.2.2.1,ML.out.2.2.2,R4.out.var hg5 BX4.out hg5.size (.inl rfl)⟩
 have K5:Hid (zn hi w W5):=K4.out.trans (zn.kind hg5 BX4.out (fun _ hl=>absurd rfl hl.1))
 have OL5:Hid (zb arE w0.heap.size W5 (.slice xa ln xc) l):=OL4.out.kind hg5 BX4.out (by decide)
 rw[hW5];clear hW5 hg5 R4 G4 K4 OL4 BX4;obtain⟨tn,HTN⟩:∃tn,Hid (T.length=tn):=⟨_,rfl⟩;have HTQ:Hid (tn=ps):=show _=_ by rw[<-HTN.out,HB.out.tl,HPS.out]
 have x12:=M5.out.box.box.c 12 rfl;have HSZ5:Hid (w0.heap.size<=W5.heap.size):=show _<=_ from bS M5.out.gr
 go_wp2_with (at_builtin;refine zB (E:=Qt) rfl (.tmp 77) (.tmp 79) rfl w0.heap.size _ T rfl (M5.out.rows.tt.grew (za _ _)) _ [fun _=>en0] rfl (jT Qt W5 (fun _=>en0) _ _ rfl (by decide)) ?qb ?qc ?_)
 case qb=>
  rw[HTN.out]
  show(tn+1)*1536<=_
  have:=HTQ.out;omega
 case qc=>exact nT HSZ5.out (bS (za _ _))
 intro v6 W6 ow6 gr6;obtain⟨a6,c6,rfl⟩:=ow6.form;obtain⟨N6,hN6⟩:∃N6,(T++ [fun _=>en0]).length=N6:=⟨_,rfl⟩
 rw[hN6]at ow6⊢;obtain⟨WX,hWX⟩:∃WX,W5.alloc (.cells (Qt.enc (fun _=>en0)).toArray 75)=WX:=⟨_,rfl⟩
 have gX:=gP hWX
 have gr6':WX.grownBy W6 (Value.slice vt.a vt.n vt.c).ownBlock:=by rw[<-hWX];exact gr6
 clear gr6 hWX hN6;have M5X:=M5.out.grew gX;have B6:Hid (zp W6 b 98 [.slice vl2.a vl2.n vl2.c,.slice V.f.a V.f.n V.f.c,.int .i64 m.hand,.slice V.s.a V.s.n V.s.c,.slice V.sb.a V.sb.n V.sb.c,.slice V.sq.a V.sq.n V.sq.c,.slice V.db.a V.db.n V.db.c,.slice V.dq.a V.dq.n V.dq.c,.slice V.fl.a V.fl.n V.fl.c,.int .i64 m.cnt,.slice V.ca.a V.ca.n V.ca.c,.slice a4 N c4,.slice vt.a vt.n vt.c]):=zp.row M5X.rows.tt gr6' M5X.box (by decide)
 have R6:Hid (MkR w0.heap.size hi W6 { V with sp:=⟨a4,N,c4⟩ } { m with sp:=m.sp++ [⟨true,l,qx⟩] } ⟨a6,N6,c6⟩ (T++ [fun _=>en0])):=M5X.rows.addT gr6' ⟨a6,N6,c6⟩ ow6
 have G6:Hid (zc w0 W6):=zc.row M5X.rows.tt gr6' M5X.gr;have K6:Hid (zn hi w W6):=(K5.out.trans (zn.grew gX)).trans (zn.row M5X.rows.tt gr6' (fun p hl=>hl.2.2.2.2.2.2.2.1 rfl))
 have OL6:Hid (zb arE w0.heap.size W6 (.slice xa ln xc) l):=show zb _ _ _ _ _ by
  cases hob:(Value.slice vt.a vt.n vt.c).ownBlock with
  | none=>
   rw[hob]at gr6';exact(OL5.out.grew gX).grew (qf gr6')
  | some g=>
   obtain⟨cs,hc⟩:=M5X.rows.tt.obj hob;rw[hob]at gr6';exact(OL5.out.grew gX).kind gr6' hc (by decide)
 clear M5X gr6' ow6 gX x12 M5 K5 OL5;have x12:=B6.out.box.c 12 rfl;have xf:=B6.out.box.f;go_upto_region 13 with fail;clear x12 xf;obtain⟨W7,hW7⟩:∃W7,W6.setCell ⟨b,12,none⟩ (.slice a6 N6 c6)=W7:=⟨_,rfl⟩;have hg7:W6.grownBy W7 (some b):=by rw[<-hW7];exact jc _ _ _ _
 have M7:Hid (Mk w0 hi W7 b vl2 L2 { V with sp:=⟨a4,N,c4⟩ } { m with sp:=m.sp++ [⟨true,l,qx⟩] } ⟨a6,N6,c6⟩ (T++ [fun _=>en0])):=show Mk _ _ _ _ _ _ _ _ _ _ from⟨zg G6.out hg7 ML.out.1,ML.out.1,by rw[<-hW7];exact B6.out.set 12 _,ML.out.2.1,ML.out.2.2.1,ML.out.2.2.2,R6.out.var hg7 B6.out hg7.size (.inl rfl)⟩
 have K7:Hid (zn hi w W7):=K6.out.trans (zn.kind hg7 B6.out (fun _ hl=>absurd rfl hl.1))
 have OL7:Hid (zb arE w0.heap.size W7 (.slice xa ln xc) l):=OL6.out.kind hg7 B6.out (by decide)
 rw[hW7];clear hW7 hg7 R6 G6 K6 OL6 B6;obtain⟨vt7,HVT⟩:∃vt7:Sli,Hid (vt7=⟨a6,N6,c6⟩):=⟨_,rfl⟩;rw[<-HVT.out]at M7;have HB7:Hid (qO { m with sp:=m.sp++ [⟨true,l,qx⟩] } (T++ [fun _=>en0])):=HB.out.space FI2.out.2.1 H4.out
 have x11:=M7.out.box.box.c 11 rfl;have hon:=jS (.slice xa ln xc) l W7 OL7.out.at (jV.1 FI2.out.2.1).2.lies;go_wp2_with fail;refine hon.mono ?_;clear hon x11;rintro e W8 ⟨rfl,g8⟩;have M8:=dD (M7.out.grew g8)
 have K8:=dD (K7.out.trans (zn.grew g8));clear g8 M7 K7 OL7;have HIX:Hid (∀{ops:Array Oper} {rest:List Oper} {o:Oper} {a:Act} {w:World} {Q:Exit->Act->World->Prop} (_:o.guard=none) (x ix:Operand) (_:o.op= .index 62 x ix) (_:a.eval x= .agg (zt (tab (zH l))).toArray) (i:Nat) (_:a.eval ix= .int .i64 (i:Int)) (_:i<64) {v:Value} (_: .agg (onv (zH l i)).toArray=v)
  (_:wpList Tryz.prog ops Q rest (a.put o.dst v) w),wpList Tryz.prog ops Q (o :: rest) a w):=fun h1 x ix h2 h3 i h4 h5 _ h6 h7=>zcJ h1 x ix h2 (zH l) h3 i h4 h5 h6 h7
 generalize zt (tab (zH l))=C at HIX⊢
 have HSP:Hid (({ m with sp:=m.sp++ [⟨true,l,qx⟩] }:Ma).sp[ps]? =some ⟨true,l,qx⟩):=show _=_ by
  show(m.sp++ [(⟨true,l,qx⟩:Sp)])[ps]? =_
  rw[aR (by rw[HPS.out];exact nR _),HPS.out,Nat.sub_self]
  rfl
 have HTP:Hid ((T++ [fun _=>en0])[ps]? =some (fun _=>en0)):=show _=_ by
  rw[aR (by rw[HTN.out,HTQ.out];exact nR _),HTN.out,HTQ.out,Nat.sub_self]
  rfl
 go_wp2
 go_loopg [92] 64 (fun gg s92 wr=>∃(kk:Nat) (vl':Sli) (L':List Int) (V':MaV) (m':Ma) (T':List (Nat->En)) (fT:Nat->En),kk<=64/\64 - kk<=gg/\s92= .int .i64 kk/\Hid (Mk w0 hi wr b vl' L' V' m' vt7 T')/\Hid (ZC L L')/\Hid (zn hi w wr)/\Hid (qO m' T')/\Hid (m'.sp=m.sp++ [⟨true,l,qx⟩]/\m'.fl=m.fl/\m'.hand=m.hand/\m'.fs.length=m.fs.length)/\Hid (T'[ps]? =some fT/\∀j,kk<=j->fT j=en0)/\Hid (L=[]->m'={ m with sp:=m.sp++ [⟨true,l,qx⟩] }/\T'=(T++ [fun _=>en0])))
 case atStart=>exact⟨0,vl2,L2,_,_,_,fun _=>en0,nZ _,by omega,rfl,M8.out,LL2.out,K8.out,HB7.out,(show _/\_ from⟨rfl,rfl,rfl,rfl⟩),(show _/\_ from⟨HTP.out,fun _ _=>rfl⟩),(fun _=>⟨rfl,rfl⟩)⟩
 obtain⟨k2,vlA,LA,VA,mA,TA,fT,hk2,hg2,rfl,MA,LLA,KA,BA,SA,TAt,EA⟩:=hrel;clear M8 K8 HB7
 by_cases hlt2:k2<64
 ·have hltz2:(k2:Int)<64:=by omega
  obtain⟨xx,HXX⟩:∃xx,Hid (zH l k2=xx):=⟨_,rfl⟩;obtain⟨xis,xrd,xwr,xsh,xfi,xpg⟩:=xx;have HIV:Hid (Value.agg (onv (zH l k2)).toArray= .agg #[.bool xis,.bool xrd,.bool xwr,.bool xsh,.int .i64 xfi,.int .i64 xpg]):=show _=_ by rw[HXX.out];rfl
  cases xis with
  | false=>
   go_wp2_with (refine HIX.out rfl (.tmp 91) (.tmp 92) rfl rfl k2 rfl hlt2 HIV.out ?_)
   go_roundg (64 -(k2+1))
   case measure=>omega
   exact⟨k2+1,vlA,LA,VA,mA,TA,fT,by omega,by omega,by go_num,MA.out.grew (za _ _),LLA.out,KA.out.trans (zn.grew (za _ _)),BA.out,SA.out,(show _/\_ from⟨TAt.out.1,fun j hj=>TAt.out.2 j (by omega)⟩),EA.out⟩
  | true=>
   have HLX:Hid (L≠[]):=show _≠_ from fun e=>by
    have h1:=HXX.out;rw[HL0.out e]at h1;cases h1
   go_upto_region 17 with(refine HIX.out rfl (.tmp 91) (.tmp 92) rfl rfl k2 rfl hlt2 HIV.out ?_)
   obtain⟨px,HPX⟩:∃px,Hid (wr.heap.size=px):=⟨_,rfl⟩;obtain⟨W9,hW9⟩:∃W9,wr.alloc (.cells #[.bool true,.bool xrd,.bool xwr,.bool xsh,.int .i64 xfi,.int .i64 xpg] 61)=W9:=⟨_,rfl⟩;have g9:=gP hW9
   have X9:=xP hW9 HPX
   rw[hW9,HPX.out];have M9:=dD (MA.out.grew g9);have K9:=dD (KA.out.trans (zn.grew g9));clear hW9 g9 MA KA;have c0:=X9.out.c 0 rfl;have c1:=X9.out.c 1 rfl;have c2:=X9.out.c 2 rfl;have c3:=X9.out.c 3 rfl;have c4:=X9.out.c 4 rfl;have c5:=X9.out.c 5 rfl;have hen:=zhT ps k2 ⟨true,l,qx⟩ fT ⟨true,xrd,xwr,xsh,xfi,xpg⟩ M9.out BA.out (by rw[SA.out.1];exact HSP.out) TAt.out.1 hlt2 (TAt.out.2 k2 (nR _)) HXX.out rfl (by rw[SA.out.2.1];exact FI2.out.1)
   go_wp2_with fail;refine hen.mono ?_;clear hen c0 c1 c2 c3 c4 c5;rintro e WB ⟨⟨v,rfl⟩,vlB,LB,VB,mB,TB,kB1,kB2,kB3,kB4,⟨kB5,kB6,kB7,kB8⟩,kB9,_⟩;obtain⟨fB,hfB⟩:∃fB,TB[ps]? =some fB/\∀j,k2+1<=j->fB j=en0:=by
    rcases kB9 with rfl | ⟨e,rfl⟩
    ·exact⟨fT,TAt.out.1,fun j hj=>TAt.out.2 j (by omega)⟩
    refine⟨qm fT k2 e,sF (gS.1 TAt.out.1).1,fun j hj=>?_⟩
    unfold qm;rw[if_neg (by omega)]
    exact TAt.out.2 j (by omega)
   have MB:Hid (Mk w0 hi WB b vlB LB VB mB vt7 TB):=kB1;have LLB:=dD (LLA.out.trans kB2);have KB:=dD (K9.out.trans kB3);have BB:Hid (qO mB TB):=kB4;have SB:Hid (mB.sp=m.sp++ [⟨true,l,qx⟩]/\mB.fl=m.fl/\mB.hand=m.hand/\mB.fs.length=m.fs.length):=show _/\_ from⟨kB5.trans SA.out.1,kB6.trans SA.out.2.1,kB7.trans SA.out.2.2.1,kB8.trans SA.out.2.2.2⟩
   have FB:Hid (TB[ps]? =some fB/\∀j,k2+1<=j->fB j=en0):=hfB;clear kB1 kB2 kB3 kB4 kB5 kB6 kB7 kB8 kB9 hfB;go_wp2
   go_roundg (64 -(k2+1))
   case measure=>omega
   exact⟨k2+1,vlB,LB,VB,mB,TB,fB,by omega,by omega,by go_num,MB.out,LLB.out,KB.out,BB.out,SB.out,FB.out,(fun h=>absurd h HLX.out)⟩
 have hltz2:¬(k2:Int)<64:=by omega
 have HE:Hid (Spc w0 hi b w L m T wr):=show Spc _ _ _ _ _ _ _ _ from⟨vlA,LA,VA,mA,vt7,TA,l,MA.out,LLA.out,KA.out,BA.out,SA.out,⟨FI2.out.1,by have:=FI2.out.2.2;omega⟩,fun e=>by
  obtain⟨e1,e2⟩:=EA.out e;rw[HL0.out e]at e1;exact⟨e1,e2⟩⟩
 go_wp2
 (first | go_end0 | ((try simp only[Exit.inBlock,Exit.then]);refine bodyPost_ret (results_none rfl _ _ _) rfl ?_))
 first | exact HE.out | exact⟨⟨_,rfl⟩,HE.out⟩
section
variable{I:World->Prop} {P:Program} {ops:Array Oper} {S:Nat->Option (Value->Prop)} {Q:Act->World->Prop} {o:Oper} {rest:List Oper} {k:Nat} {F:World->Prop} {a:Act}
theorem zi0 (v:Value) (hw:Region.wanted o (yielded ops a.tmps)=true) (hS:S k=none) (h:∀w,I w->(execOp a.eval o).run P w= .ok (.value v) w) (hn:za3 I P ops S Q rest (k+1) F (a.put o.dst v)):za3 I P ops S Q (o :: rest) k F a:=by
 constructor;unfold Q0;rw[if_pos hw];simp only[hS];exact⟨v,h,hn.out⟩
end
theorem zeQ {a:Act} {o:Oper} (x:Operand) (ho:o.op= .load 75 x) (b off:Nat) (hx:a.eval x= .pointer (some ⟨b,off,none⟩)) {vs:List Value} {w:World} (hb:w.rangeAt b off vs) (hl:vs.length=192):(execOp a.eval o).run Tryz.prog w= .ok (.value (.agg vs.toArray)) w:=by
 have:=run_loadAt_mid (P:=Tryz.prog) w b off 75 vs _ hb Tryz.underlying75 rfl (by rw[hl];exact zlq)
 simp only[execOp,ho,hx,Sem.run_bind,this,rA,Sem.run_pure]
theorem zb.range {α:Type} {E:Elt α} {base g n c:Nat} {w:World} {l:List α} (h:zb E base w (.slice (some ⟨g,0,none⟩) n c) l) {i:Nat} {x:α} (hx:l[i]? =some x):w.rangeAt g (i*E.k) (E.enc x):=fun j v hj=>by
 have:=h.one hx j v hj;rw[zP,Addr.add_lit,zA]at this;exact this
structure MkT (base hi ht k:Nat) (w:World) (V:MaV) (m:Ma) (vt:Sli) (T:List (Nat->En)):Prop where
 fs:zb Jx base w (.slice V.f.a V.f.n V.f.c) m.fs
 sl:zb slE base w (.slice V.s.a V.s.n V.s.c) m.sl
 slh:∀g,(Value.slice V.s.a V.s.n V.s.c).ownBlock=some g->g<hi
 sb:zj base w (.slice V.sb.a V.sb.n V.sb.c) m.sb
 sq:V.sq=zw/\m.sq=[]
 db:zj base w (.slice V.db.a V.db.n V.db.c) m.db
 dq:zT base w (.slice V.dq.a V.dq.n V.dq.c) m.dq
 fl:∃xs:List FlV,zb fvE base w (.slice V.fl.a V.fl.n V.fl.c) xs/\xs.length=m.fl.length/\∀(i:Nat) x f,xs[i]? =some x->m.fl[i]? =some f->x.size=f.size/\zb blE hi w x.v f.bl
 ca:zb qY base w (.slice V.ca.a V.ca.n V.ca.c) m.ca
 sp:∃xs:List SpV,zb Zl base w (.slice V.sp.a V.sp.n V.sp.c) xs/\xs.length=m.sp.length/\∀(i:Nat) x s f,xs[i]? =some x->m.sp[i]? =some s->T[i]? =some f->x.live=s.live/\zb arE base w x.ar.v s.ars/\(i<k->Jq 0 ht w x.tab (j5 f))/\(k<=i->x.tab=zah)
 tt:zb Qt base w (.slice vt.a vt.n vt.c) T
 ap:∀g,(Value.slice V.sb.a V.sb.n V.sb.c).ownBlock=some g->(Value.slice V.db.a V.db.n V.db.c).ownBlock≠some g
 lo:∀g,(Value.slice V.f.a V.f.n V.f.c).ownBlock=some g\/(Value.slice V.s.a V.s.n V.s.c).ownBlock=some g\/(Value.slice V.fl.a V.fl.n V.fl.c).ownBlock=some g\/(Value.slice V.ca.a V.ca.n V.ca.c).ownBlock=some g\/(Value.slice V.sp.a V.sp.n V.sp.c).ownBlock=some g->g<ht
 hts:ht<=w.heap.size
section
variable{base hi ht k:Nat} {w w':World} {V:MaV} {m:Ma} {vt:Sli} {T:List (Nat->En)}
theorem MkR.start (h:MkR base hi w V m vt T) (ht:Nat) (hht:w.heap.size=ht):MkT base hi ht 0 w V m vt T:=by
 have hlo:∀g,(Value.slice V.f.a V.f.n V.f.c).ownBlock=some g\/(Value.slice V.s.a V.s.n V.s.c).ownBlock=some g\/(Value.slice V.fl.a V.fl.n V.fl.c).ownBlock=some g\/(Value.slice V.ca.a V.ca.n V.ca.c).ownBlock=some g\/(Value.slice V.sp.a V.sp.n V.sp.c).ownBlock=some g->g<ht:=fun g hg=>by
  obtain⟨_,f1,_⟩:=h.fl;obtain⟨_,s1,_⟩:=h.sp
  rcases hg with hg | hg | hg | hg | hg
  ·have:=(h.fs.lt g hg).2;omega
  ·have:=(h.sl.lt g hg).2;omega
  ·have:=(f1.lt g hg).2;omega
  ·have:=(h.ca.lt g hg).2;omega
  have:=(s1.lt g hg).2;omega
 obtain⟨xs,s1,s2,s3⟩:=h.sp;exact⟨h.fs,h.sl,h.slh,h.sb,h.sq,h.db,h.dq,h.fl,h.ca,⟨xs,s1,s2,fun i x s f hx hs _=>⟨(s3 i x s hx hs).1,(s3 i x s hx hs).2.1,fun e=>absurd e (nL _),fun _=>(s3 i x s hx hs).2.2.1⟩⟩,h.tt,h.ap,hlo,Nat.le_of_eq hht.symm⟩
theorem MkT.grew (h:MkT base hi ht k w V m vt T) (g:zc w w'):MkT base hi ht k w' V m vt T:=by
 obtain⟨xs,f1,f2,f3⟩:=h.fl;obtain⟨ys,s1,s2,s3⟩:=h.sp;exact⟨h.fs.grew g,h.sl.grew g,h.slh,h.sb.grew g,h.sq,h.db.grew g,h.dq.grew g,⟨xs,f1.grew g,f2,fun i x f hx hf=>⟨(f3 i x f hx hf).1,(f3 i x f hx hf).2.grew g⟩⟩,h.ca.grew g,⟨ys,s1.grew g,s2,fun i x s f hx hs hT=>⟨(s3 i x s f hx hs hT).1,(s3 i x s f hx hs hT).2.1.grew g,fun e=>((s3 i x s f hx hs hT).2.2.1 e).grew g,(s3 i x s f hx hs hT).2.2.2⟩⟩,h.tt.grew g,h.ap,h.lo,nT h.hts (bS g)⟩
theorem MkT.table (h:MkT base hi ht k w V m vt T) {ys:List SpV} (s2:ys.length=m.sp.length) (s3:∀(i:Nat) x s f,ys[i]? =some x->m.sp[i]? =some s->T[i]? =some f->x.live=s.live/\zb arE base w x.ar.v s.ars/\(i<k->Jq 0 ht w x.tab (j5 f))/\(k<=i->x.tab=zah)) {g:Nat} {cs:Array Value} (ho:w.heap[g]? =some (.cells cs 55 (0,0))) (hlt:g<ht) (hg:w.grownBy w' (some g)) {x y:SpV} {f:Nat->En} (hx:ys[k]? =some x) (hf:T[k]? =some f) (hy:y.live=x.live/\y.ar=x.ar) (hT:Jq 0 ht w' y.tab (j5 f)) (hr:zb Zl base w' (.slice V.sp.a V.sp.n V.sp.c) (ys.set k y)):MkT base hi ht (k+1) w' V m vt T:=by
 obtain⟨xs,f1,f2,f3⟩:=h.fl;have hout:Out 0 ht w w':=Out.grown hg (fun g' e=>by cases e;exact⟨nZ _,hlt⟩)
 refine⟨h.fs.kind hg ho (by decide),h.sl.kind hg ho (by decide),h.slh,⟨qo h.sb.1 hg ho (by decide),h.sb.2⟩,h.sq,⟨qo h.db.1 hg ho (by decide),h.db.2⟩,⟨qo h.dq.1 hg ho (by decide),h.dq.2⟩,⟨xs,f1.kind hg ho (by decide),f2,fun i x f hx hf=>⟨(f3 i x f hx hf).1,(f3 i x f hx hf).2.kind hg ho (by decide)⟩⟩,h.ca.kind hg ho (by decide),⟨ys.set k y,hr,by rw[List.length_set];exact s2,fun i z s f' hz hs hf'=>?_⟩,h.tt.kind hg ho (by decide),h.ap,h.lo,nT h.hts hg.size⟩
 by_cases e:i=k
 ·subst e;rw[sF (gS.1 hx).1]at hz;cases hz;rw[hf]at hf';cases hf';obtain⟨a1,a2,_⟩:=s3 i x s f hx hs hf;exact⟨hy.1.trans a1,by rw[hy.2];exact a2.kind hg ho (by decide),fun _=>hT,fun e=>by omega⟩
 rw[sN (fun h=>e h.symm)]at hz
 obtain⟨a1,a2,a3,a4⟩:=s3 i z s f' hz hs hf';exact⟨a1,a2.kind hg ho (by decide),fun e'=>(a3 (by omega)).out hout,fun e'=>a4 (by omega)⟩
theorem MkT.mach (h:MkT base hi ht m.sp.length w V m vt T) (hl:T.length=m.sp.length) (hd:Int):zC w V (jC m T hd):=by
 obtain⟨xs,f1,f2,f3⟩:=h.fl;obtain⟨ys,s1,s2,s3⟩:=h.sp;obtain⟨q1,q2⟩:=h.sq;refine⟨h.fs.at,h.sl.at,h.sb.at,?_,h.db.at,h.dq.at,⟨f1.cap,xs,f1.at.s0,f2,fun i x f hx hf=>⟨(f3 i x f hx hf).1,(f3 i x f hx hf).2.at.s0⟩⟩,h.ca.at,⟨ys,s1.at,by simp[jC,hl,s2],fun i x s hx hs=>?_⟩⟩
 ·show qK w (.slice V.sq.a V.sq.n V.sq.c) m.sq
  rw[q1,q2];exact⟨⟨none,0,rfl,fun _=>rfl,fun x hx=>by cases hx⟩,by simp,by simp⟩
 have hs':(List.zipWith (fun s f=>({ s with tb:=j5 f }:Sp)) m.sp T)[i]? =some s:=hs
 rw[List.getElem?_zipWith]at hs';have hi:i<m.sp.length:=by rw[<-s2];exact(gS.1 hx).1
 rw[gE hi,gE (show i<T.length by omega)]at hs'
 simp only[Option.some.injEq]at hs';obtain⟨a1,a2,a3,_⟩:=s3 i x _ _ hx (gE hi) (gE (show i<T.length by omega))
 subst hs';exact⟨a1,a2.at,a2.cap,(a3 hi).now⟩
end
structure zid (w0 w:World) (b:Nat) (vl:Sli) (L:List Int) (cs:List Value):Prop where
 gr:zc w0 w
 hb:w0.heap.size<=b
 box:zp w b 98 (.slice vl.a vl.n vl.c :: cs)
 lr:zo byE w0 (.slice vl.a vl.n vl.c) L
 lc:vl.n<=vl.c
 lb:∀z∈L,0<=z/\z<256
theorem Mk.nums {w0 w:World} {hi b:Nat} {vl:Sli} {L:List Int} {V:MaV} {m:Ma} {vt:Sli} {T:List (Nat->En)} (h:Mk w0 hi w b vl L V m vt T):zid w0 w b vl L [.slice V.f.a V.f.n V.f.c,.int .i64 m.hand,.slice V.s.a V.s.n V.s.c,.slice V.sb.a V.sb.n V.sb.c,.slice V.sq.a V.sq.n V.sq.c,.slice V.db.a V.db.n V.db.c,.slice V.dq.a V.dq.n V.dq.c,.slice V.fl.a V.fl.n V.fl.c,.int .i64 m.cnt,.slice V.ca.a V.ca.n V.ca.c,.slice V.sp.a V.sp.n V.sp.c,.slice vt.a vt.n vt.c]:=⟨h.gr,h.hb,h.box,h.lr,h.lc,h.lb⟩
theorem ziB {w0 w:World} {b:Nat} {vl:Sli} {L:List Int} {cs:List Value} (n:Int) (h:zid w0 w b vl L cs):
  Calls Tryz.prog 43 #[.pointer (some ⟨b,0,none⟩),.int .i64 n] w fun e w'=>∃vl' L' x,e= .returned (.int .i64 x)/\zid w0 w' b vl' L' cs/\w.grownBy w' (some b)/\w'.heap.size=w.heap.size/\0<=x/\(x=0\/x<n)/\(L=[]->x=0)/\ZC L L':=by
 have HM:Hid (zid w0 w b vl L cs):=h;have hbx:=h.box.box;have x0:=hbx.c 0 rfl;have xf:=hbx.f;have hln:=h.lr.n;clear hbx;obtain⟨⟨la,ln,lc⟩,hvl⟩:∃s:Sli,vl=s:=⟨_,rfl⟩;subst hvl;dsimp only at x0 hln HM;clear h
 by_cases h0:ln=0
 ·subst h0;clear hln
  go_enter Tryz.func43,Tryz.ntmps43
  go_wp2;go_ret;exact⟨_,L,0,rfl,HM.out,World.grownBy.rfl' _ _,rfl,Int.le_refl _,.inl rfl,fun _=>rfl,ZC.refl L⟩
 have h0e:((ln:Int) == 0)=false:=by simp;omega
 have h0f:(ln == 0)=false:=by simp[h0]
 by_cases h1:n<1
 ·clear h0 hln
  go_enter Tryz.func43,Tryz.ntmps43
  go_wp2;go_ret;exact⟨_,L,0,rfl,HM.out,World.grownBy.rfl' _ _,rfl,Int.le_refl _,.inl rfl,fun _=>rfl,ZC.refl L⟩
 obtain⟨z,L',rfl⟩:∃z L',L=z :: L':=by
  cases L with
  | nil=>simp at hln;omega
  | cons z L'=>exact⟨z,L',rfl⟩
 have hz:=HM.out.lb z (by simp)
 obtain⟨hz0,hz1⟩:=hz;obtain⟨ad,rfl,hl⟩:=HM.out.lr.rowsAt 0 z rfl;have d0:w.cell? ad=some (.int .u8 z):=by
  have:=hl w HM.out.gr 0 _ rfl;rw[zP]at this
  simpa [byE,Addr.add]using this
 obtain⟨k,rfl⟩:∃k,ln=k+1:=⟨ln - 1,by omega⟩
 have hcap:k+1<=lc:=HM.out.lc;have hrun:=zfI (w:=w) (ad:=ad) (n:=k) (c:=lc);clear h0 hl;have hlt:(0:Int)< ((k+1:Nat):Int):=by omega
 obtain⟨ad',had⟩:∃ad',(if lc=1 then ad else ad.add 1)=ad':=⟨_,rfl⟩;rw[had]at hrun;have HL':Hid (zo byE w0 (.slice (some ad') k (lc - 1)) L'):=show zo _ _ _ _ by
  obtain⟨⟨xa,xc,q1,q2,q3⟩,q4⟩:=HM.out.lr;dsimp only at q1;cases q1;have q5:=q3 ad rfl;refine⟨⟨some ad',lc - 1,rfl,fun h=>(by cases h),fun y hy=>?_⟩,?_⟩
  ·cases hy
   by_cases hc:lc=1
   ·have:L'=[]:=by
     have:L'.length=0:=by omega
     exact eN this
    subst this;intro j u hj
    simp at hj
   rw[if_neg hc]at had;subst had;intro j u hj;rw[zP,Nat.add_comm 1 j];exact q5 (j+1) u (by simpa [byE]using hj)
  have:byE.bytes=1:=rfl;rw[this]at q4⊢
  simp at q4⊢
  omega
 have HBX:Hid (zp (w.setCell ⟨b,0,none⟩ (.slice (some ad') k (lc - 1))) b 98 (.slice (some ad') k (lc - 1) :: cs)):=HM.out.box.set 0 _;have HGR:Hid (w.grownBy (w.setCell ⟨b,0,none⟩ (.slice (some ad') k (lc - 1))) (some b)):=⟨rfl,rfl,rfl,by simp[World.setCell],fun j _ hj=>Below.heap_setCell _ _ _ _ (fun e=>hj (by rw[e]))⟩
 have HSZ:Hid ((w.setCell ⟨b,0,none⟩ (.slice (some ad') k (lc - 1))).heap.size=w.heap.size):=show _=_ by simp[World.setCell]
 have HMK:Hid (zid w0 (w.setCell ⟨b,0,none⟩ (.slice (some ad') k (lc - 1))) b ⟨some ad',k,lc - 1⟩ L' cs):=show zid _ _ _ _ _ _ from
  ⟨zg HM.out.gr HGR.out HM.out.hb,HM.out.hb,HBX.out,HL'.out,(show k<=lc - 1 by omega),fun y hy=>HM.out.lb y (by simp[hy])⟩
 have HX:Hid (0<=z % n/\z % n<n):=show _/\_ from⟨Int.emod_nonneg _ (by omega),Int.emod_lt_of_pos _ (by omega)⟩
 clear hln hcap had
 go_enter Tryz.func43,Tryz.ntmps43
 go_wp2;go_ret;exact⟨_,L',z % n,rfl,HMK.out,HGR.out,HSZ.out,HX.out.1,.inr HX.out.2,fun h=>(by cases h)⟩
theorem zg8 {B0 B1:Nat} {w:World} {us:List Value} {t:List (List En)} (h:Jq B0 B1 w us t):∃t0 t1 t2 t3 t4 t5 t6 t7:Sli,us=[t0.v,t1.v,t2.v,t3.v,t4.v,t5.v,t6.v,t7.v]:=by
 have key:∀i v,us[i]? =some v->∃s:Sli,v=s.v:=fun i v hv=>by
  obtain⟨y,hy⟩:∃y,t[i]? =some y:=⟨_,gE (by rw[h.tlen,<-h.len];exact(gS.1 hv).1)⟩
  obtain⟨⟨a,c,e,_⟩,_⟩:=(h.row i v y hv hy).now;exact⟨⟨a,y.length,c⟩,e⟩
 obtain⟨v0,v1,v2,v3,v4,v5,v6,v7,rfl⟩:=zj9 h.len;obtain⟨s0,rfl⟩:=key 0 v0 rfl;obtain⟨s1,rfl⟩:=key 1 v1 rfl;obtain⟨s2,rfl⟩:=key 2 v2 rfl;obtain⟨s3,rfl⟩:=key 3 v3 rfl;obtain⟨s4,rfl⟩:=key 4 v4 rfl;obtain⟨s5,rfl⟩:=key 5 v5 rfl;obtain⟨s6,rfl⟩:=key 6 v6 rfl;obtain⟨s7,rfl⟩:=key 7 v7 rfl;exact⟨s0,s1,s2,s3,s4,s5,s6,s7,rfl⟩
theorem zb.outb {α:Type} {E:Elt α} {base b:Nat} {w w':World} {v:Value} {l:List α} (h:zb E base w v l) (k:Out b (b+1) w w') (hne:∀g,v.ownBlock=some g->g≠b):zb E base w' v l:=by
 refine⟨⟨h.1.1,?_⟩,h.2⟩
 rcases h.1.2 with h1 | ⟨g,cap,cur,rfl,h2,h3,h4⟩
 ·exact .inl h1
 exact .inr ⟨g,cap,cur,rfl,h2,by rw[k.block g (aS.1 h3).1 (by have:=hne g rfl;omega)];exact h3,h4⟩
theorem zp.outb {b p:Nat} {w w':World} {t:TypeId} {cs:List Value} (h:zp w p t cs) (k:Out b (b+1) w w') (hne:p≠b):zp w' p t cs:=by
 have hl:=h.box.lt;have h0:w.heap[p]? =_:=h
 show w'.heap[p]? =_
 rw[k.block p hl (by omega)]
 exact h0
structure FC (w:World) (hi b:Nat) (u:World) (vl:Sli) (L:List Int) (V:MaV) (m:Ma) (pf:Nat) (sz:Int) (bs:Sli) (bl:List Int):Prop where
 mm:Mk w hi u b vl L V m zw []
 hp:hi<=pf
 fb:FlB w.heap.size hi pf u V m
 fn:∀g,(Value.slice V.fl.a V.fl.n V.fl.c).ownBlock=some g->g<pf
 box:zp u pf 88 [.int .i64 sz,.slice bs.a bs.n bs.c]
 row:zb blE (pf+1) u (.slice bs.a bs.n bs.c) bl
section
variable{w u u':World} {hi b pf:Nat} {vl vl' bs:Sli} {L L':List Int} {V V':MaV} {m m':Ma} {sz:Int} {bl:List Int}
theorem FC.grew (h:FC w hi b u vl L V m pf sz bs bl) (k:zc u u'):FC w hi b u' vl L V m pf sz bs bl:=⟨h.mm.grew k,h.hp,h.fb.grew k,h.fn,h.box.grew k,h.row.grew k⟩
theorem FlB.as (h:FlB w.heap.size hi pf u V m) (hV:V'.fl=V.fl) (hm:m'.fl=m.fl):FlB w.heap.size hi pf u V' m':=by
 unfold FlB at h⊢;rw[hV,hm];exact h
theorem zp.kind {g p:Nat} {t t':TypeId} {cs:List Value} {ds:Array Value} (h:zp u p t cs) (hg:u.grownBy u' (some g)) (ho:u.heap[g]? =some (.cells ds t' (0,0))) (ht:t'≠t):zp u' p t cs:=h.beside hg (fun k e=>by
 cases e;intro e;subst e;have h3:u.heap[p]? =_:=h;rw[ho]at h3;cases h3;exact ht rfl)
theorem FC.kind (h:FC w hi b u vl L V m pf sz bs bl) {g:Nat} {t:TypeId} {cs:Array Value} (hg:u.grownBy u' (some g)) (ho:u.heap[g]? =some (.cells cs t (0,0))) (ht:t≠88) (ht2:t≠3) (mk':Mk w hi u' b vl' L' V' m' zw []) (hV:V'.fl=V.fl) (hm:m'.fl=m.fl):FC w hi b u' vl' L' V' m' pf sz bs bl:=
 ⟨mk',h.hp,(h.fb.kind hg ho (.inl ht) (.inl ht2)).as hV hm,by rw[hV];exact h.fn,h.box.kind hg ho ht,h.row.kind hg ho ht2⟩
theorem FC.pick (h:FC w hi b u vl L V m pf sz bs bl) (hg:u.grownBy u' (some b)) (mk':Mk w hi u' b vl' L' V m zw []):FC w hi b u' vl' L' V m pf sz bs bl:=h.kind hg h.mm.box (by decide) (by decide) mk' rfl rfl
theorem FC.fresh (h:FC w hi b u vl L V m pf sz bs bl) {g:Nat} {cs:Array Value} (hg:u.grownBy u' (some g)) (ho:u.heap[g]? =some (.cells cs 88 (0,0))) (hl:pf<g):FC w hi b u' vl L V m pf sz bs bl:=by
 have hn:(Value.slice V.fl.a V.fl.n V.fl.c).ownBlock≠some g:=fun e=>by have:=h.fn g e;omega
 have hw:w.heap.size<=g:=by have:=h.mm.rows.bh;have:=h.hp;omega
 exact⟨⟨zg h.mm.gr hg hw,h.mm.hb,h.mm.box.kind hg ho (by decide),h.mm.lr,h.mm.lc,h.mm.lb,h.mm.rows.fileVar hg ho hn⟩,h.hp,h.fb.kind hg ho (.inr hn) (.inl (by decide)),h.fn,h.box.beside hg (fun k e=>by cases e;omega),h.row.kind hg ho (by decide)⟩
theorem ziE (w:World) (x:FlV):zb fvE w.heap.size (w.alloc (.cells (fvE.enc x).toArray 88)) (.slice (some ⟨w.heap.size,0,none⟩) 1 1) [x]:=by
 refine⟨⟨rfl,.inr ⟨w.heap.size,1,(fvE.enc x).toArray,rfl,nR _,?_,nR _,qz (by omega),rfl,?_⟩⟩,by show 1*32<=_;omega⟩
 ·show(w.heap.push _)[w.heap.size]? =_
  simp;rfl
 simp[fvE,flv]
theorem FC.addB (h:FC w hi b u vl L V m pf sz bs bl) (hg:u.grownBy u' (Value.slice bs.a bs.n bs.c).ownBlock) (s:Sli) {bl':List Int} (ho:zb blE (pf+1) u' (.slice s.a s.n s.c) bl'):
  zp u' pf 88 [.int .i64 sz,.slice bs.a bs.n bs.c]/\(∀p t cs,t≠3->t≠88->zp u p t cs->zp (u'.setCell ⟨pf,1,none⟩ (.slice s.a s.n s.c)) p t cs)/\FC w hi b (u'.setCell ⟨pf,1,none⟩ (.slice s.a s.n s.c)) vl L V m pf sz s bl':=by
 have key:Mk w hi u' b vl L V m zw []/\FlB w.heap.size hi pf u' V m/\zp u' pf 88 [.int .i64 sz,.slice bs.a bs.n bs.c]/\(∀p t cs,t≠3->zp u p t cs->zp u' p t cs):=by
  cases hob:(Value.slice bs.a bs.n bs.c).ownBlock with
  | none=>
   rw[hob]at hg;have k:=qf hg;exact⟨h.mm.grew k,h.fb.grew k,h.box.grew k,fun p t cs _ hb=>hb.grew k⟩
  | some g=>
   rw[hob]at hg;obtain⟨cs,hc⟩:=h.row.obj hob;have hl:=(h.row.lt g hob).1;have hw:w.heap.size<=g:=by have:=h.mm.rows.bh;have:=h.hp;omega
   exact⟨⟨zg h.mm.gr hg hw,h.mm.hb,h.mm.box.kind hg hc (by decide),h.mm.lr,h.mm.lc,h.mm.lb,h.mm.rows.ints h.fb hg hc (by omega) (by have:=h.hp;omega)⟩,h.fb.kind hg hc (.inl (by decide)) (.inr (by omega)),h.box.kind hg hc (by decide),fun p t ds ht hb=>hb.kind hg hc (fun e=>ht e.symm)⟩
 obtain⟨k1,k2,k3,k4⟩:=key;have hg2:=jc u' pf 1 (.slice s.a s.n s.c);have hn:(Value.slice V.fl.a V.fl.n V.fl.c).ownBlock≠some pf:=fun e=>by have:=h.fn pf e;omega
 have hw:w.heap.size<=pf:=by have:=h.mm.rows.bh;have:=h.hp;omega
 refine⟨k3,fun p t cs h1 h2 h3=>(k4 p t cs h1 h3).kind hg2 k3 (fun e=>h2 e.symm),⟨⟨zg k1.gr hg2 hw,k1.hb,k1.box.kind hg2 k3 (by decide),k1.lr,k1.lc,k1.lb,k1.rows.fileVar hg2 k3 hn⟩,h.hp,k2.kind hg2 k3 (.inr hn) (.inl (by decide)),h.fn,k3.set 1 _,ho.kind hg2 k3 (by decide)⟩⟩
def FCE (w:World) (hi b:Nat) (L0:List Int) (V:MaV) (m:Ma) (pf:Nat) (sz:Int) (bs:Sli) (bl:List Int) (u:World):Prop:=∃vl L,FC w hi b u vl L V m pf sz bs bl/\ZC L0 L
end
theorem MkT.other {base hi ht k:Nat} {w w':World} {V:MaV} {m:Ma} {vt:Sli} {T:List (Nat->En)} (h:MkT base hi ht k w V m vt T) {g:Nat} {t:TypeId} {cs:Array Value} (hg:w.grownBy w' (some g)) (ho:w.heap[g]? =some (.cells cs t (0,0))) (hlt:g<ht) (h1:t=98\/t=41):MkT base hi ht k w' V m vt T:=by
 have hne:t≠69/\t≠3/\t≠67/\t≠103/\t≠88/\t≠124/\t≠55/\t≠114/\t≠75:=by rcases h1 with rfl | rfl <;> decide
 obtain⟨a1,a2,a3,a4,a5,a6,a7,a8,a9⟩:=hne;obtain⟨xs,f1,f2,f3⟩:=h.fl;obtain⟨ys,s1,s2,s3⟩:=h.sp;have hout:Out 0 ht w w':=Out.grown hg (fun g' e=>by cases e;exact⟨nZ _,hlt⟩)
 exact⟨h.fs.kind hg ho a1,h.sl.kind hg ho a2,h.slh,⟨qo h.sb.1 hg ho a3,h.sb.2⟩,h.sq,⟨qo h.db.1 hg ho a3,h.db.2⟩,⟨qo h.dq.1 hg ho a4,h.dq.2⟩,⟨xs,f1.kind hg ho a5,f2,fun i x f hx hf=>⟨(f3 i x f hx hf).1,(f3 i x f hx hf).2.kind hg ho a2⟩⟩,h.ca.kind hg ho a6,⟨ys,s1.kind hg ho a7,s2,fun i x s f hx hs hT=>⟨(s3 i x s f hx hs hT).1,(s3 i x s f hx hs hT).2.1.kind hg ho a8,fun e=>((s3 i x s f hx hs hT).2.2.1 e).out hout,(s3 i x s f hx hs hT).2.2.2⟩⟩,h.tt.kind hg ho a9,h.ap,h.lo,nT h.hts hg.size⟩
theorem zc6 {hi p:Nat}:Loc hi p 41:=⟨by decide,by decide,by decide,by decide,by decide,by decide,by decide,by decide,fun h=>absurd h (by decide)⟩
theorem zly:(Tryz.prog.info? 41).map (·.size)=some 11:=by kernel_rfl
def zdW (nf ns nb k:Nat):Ma:=⟨List.replicate nf frF,0,List.replicate ns 0,List.replicate ns zz,[],List.replicate nb zz,[],[],nb,[],List.replicate k ⟨true,[],qx⟩⟩
structure zfB (w:World) (nf ns nb:Nat) (L:List Int) (w':World) (V:MaV) (m:Ma) (T:List (Nat->En)) (hd:Int) (hi ht:Nat) (vt:Sli):Prop where
 gr:zc w w'
 rows:MkT w.heap.size hi ht m.sp.length w' V m vt T
 inv:qO m T
 hand:0<=hd/\hd<max (m.fs.length:Int) 1
 fin:∀s∈m.sp,jn m.fl.length s.ars/\jQ s.ars 64<=12
 fl2:m.fl.length<=2/\∀f∈m.fl,f.size<40
 sp:1<=m.sp.length/\m.sp.length<=2
 fsl:m.fs.length=nf
 new:L=[]->m=zdW nf ns nb 1/\T=[fun _=>en0]/\hd=0
theorem zfE (v:Value) (fs:List Fl) (cnt b:Int) (w:World) (hv:qN w v fs):
  Calls Tryz.prog 45 #[.agg #[v,.int .i64 cnt],.int .i64 b] w fun e w'=>e= .returned (.bool (qG fs b))/\zc w w':=by
 obtain⟨a,c,rfl,hbig,hrow⟩:=hv.rows;have HR:Hid (Zb w a fs):=hrow;clear hrow hv;obtain⟨n,HN⟩:∃n,Hid (fs.length=n):=⟨_,rfl⟩;rw[HN.out]at hbig⊢;obtain⟨ANS,HANS⟩:∃ANS,Hid (qG fs b=ANS):=⟨_,rfl⟩;rw[HANS.out];obtain⟨W0,hW0⟩:∃W0,w.alloc (.cells #[.slice a n c,.int .i64 cnt] 37)=W0:=⟨_,rfl⟩;have HG0:=gA hW0
 have HW0:Hid (_=W0):=hW0;clear hW0
 go_enter Tryz.func45,Tryz.ntmps45
 go_wp2;rw[HW0.out]
 go_loopg [12] n (fun gg s12 wr=>∃kk:Nat,kk<=n/\n - kk<=gg/\s12= .int .i64 kk/\Hid (zc w wr)/\Hid (∀(j:Nat) (q:Fl),j<kk->fs[j]? =some q->q.bl.contains b=false))
 case atStart=>exact⟨0,nZ _,by omega,rfl,HG0.out,fun j q hj=>absurd hj (nL _)⟩
 obtain⟨kk,hkk,hg,rfl,BW,A⟩:=hrel
 by_cases hlt:kk<n
 ·have hltz:(kk:Int)< (n:Int):=by omega
  obtain⟨q,HQ⟩:∃q,Hid (fs[kk]? =some q):=⟨_,gE (by rw[HN.out];exact hlt)⟩
  obtain⟨ad,rfl,xa,xc,hra,hl⟩:=HR.out kk q HQ.out;obtain⟨d0,d1⟩:=hl wr BW.out;have hqbig:=hra.short;obtain⟨a',c',heq,hnum⟩:=hra.nums;cases heq;have HRA:Hid (zaM w xa q.bl):=hnum;clear hl hra hnum;obtain⟨nb,HNB⟩:∃nb,Hid (q.bl.length=nb):=⟨_,rfl⟩;rw[HNB.out]at d1 hqbig;obtain⟨W2,hW2⟩:∃W2,wr.alloc (.cells #[.int .i64 q.size,.slice xa nb xc] 88)=W2:=⟨_,rfl⟩;have G2:=gT hW2 BW
  have HW2:Hid (_=W2):=hW2;clear hW2;go_wp2;rw[HW2.out]
  go_loopg [19] nb (fun g2 s19 wr2=>∃k2:Nat,k2<=nb/\nb - k2<=g2/\s19= .int .i64 k2/\Hid (zc w wr2)/\Hid (∀(j:Nat) z,j<k2->q.bl[j]? =some z->¬z=b))
  case atStart=>exact⟨0,nZ _,by omega,rfl,G2.out,fun j z hj=>absurd hj (nL _)⟩
  obtain⟨k2,hk2,hg2,rfl,BW2,A2⟩:=hrel;clear d0 d1
  by_cases hlt2:k2<nb
  ·have hltz2:(k2:Int)< (nb:Int):=by omega
   obtain⟨z,HZ⟩:∃z,Hid (q.bl[k2]? =some z):=⟨_,gE (by rw[HNB.out];exact hlt2)⟩
   obtain⟨ad2,rfl,hl2⟩:=HRA.out k2 z HZ.out;have d2:=hl2 _ BW2.out;clear hl2
   by_cases hz:z=b
   ·have hzb:(z == b)=true:=by simpa using hz
    have HF:Hid (ANS=true):=show _=_ by
     rw[<-HANS.out];unfold qG;exact zkL HQ.out (List.contains_iff_mem.2 (hz ▸ mG HZ.out))
    clear hz;go_wp2;go_ret;exact⟨by rw[HF.out];rfl,BW2.out⟩
   have hzb:(z == b)=false:=by simpa using hz
   have HA2:Hid (∀(j:Nat) z,j<k2+1->q.bl[j]? =some z->¬z=b):=show∀(j:Nat) z,_ from fun j z' hj hz'=>by
    by_cases e:j=k2
    ·subst e;rw[HZ.out]at hz';cases hz';exact hz
    exact A2.out j z' (by omega) hz'
   clear hz;go_wp2
   go_roundg (nb -(k2+1))
   case measure=>omega
   exact⟨k2+1,by omega,by omega,by go_num,BW2.out,HA2.out⟩
  have hltz2:¬(k2:Int)< (nb:Int):=by omega
  have:k2=nb:=by omega
  subst this;have HA:Hid (∀(j:Nat) (q:Fl),j<kk+1->fs[j]? =some q->q.bl.contains b=false):=show∀(j:Nat) (q:Fl),_ from fun j q' hj hq'=>by
   by_cases e:j=kk
   ·subst e;rw[HQ.out]at hq';cases hq'
    cases hb:q.bl.contains b with
    | false=>rfl
    | true=>
     obtain⟨p,hp⟩:=List.getElem?_of_mem (List.contains_iff_mem.1 hb);exact absurd rfl (A2.out p b (by rw[<-HNB.out];exact(gS.1 hp).1) hp)
   exact A.out j q' (by omega) hq'
  go_wp2
  go_roundg (n -(kk+1))
  case measure=>omega
  exact⟨kk+1,by omega,by omega,by go_num,BW2.out,HA.out⟩
 have hltz:¬(kk:Int)< (n:Int):=by omega
 have:kk=n:=by omega
 subst this;have HF:Hid (ANS=false):=show _=_ by
  rw[<-HANS.out];unfold qG;rw[zkK (fun j q hj=>A.out j q (by rw[<-HN.out];exact(gS.1 hj).1) hj)]
 go_wp2;go_ret;exact⟨by rw[HF.out];rfl,BW.out⟩
theorem zh6 (l:List En) (i:Nat):(ZF l i).length=8:=by simp[ZF]
theorem zjn (l:List En) {i k:Nat} (hk:k<8):(ZF l i)[k]? =some (l[8*i+k]?.getD en0):=by
 unfold ZF;rw[List.getElem?_map,List.getElem?_range hk];rfl
structure zjt (l:List En) (kk:Nat) (t:List (List En)):Prop where
 len:t.length=8
 at':∀j,j<8->t[j]? =some (if j<kk then mk (ZF l j)else [])
theorem zhx (l:List En):zjt l 0 qx:=⟨rfl,fun j hj=>by rw[if_neg (nL _),qx,List.getElem?_replicate,if_pos hj]⟩
theorem zd3 {l:List En} {kk:Nat} {t:List (List En)} (h:zjt l kk t) (hk:kk<8):zjt l (kk+1) (t.set kk (mk (ZF l kk))):=by
 refine⟨by simp[h.len],fun j hj=>?_⟩
 by_cases e:j=kk
 ·subst e;rw[sF (by rw[h.len];exact hj),if_pos (Nat.lt_succ_self _)]
 rw[sN (fun h=>e h.symm),h.at' j hj]
 by_cases h1:j<kk
 ·rw[if_pos h1,if_pos (by omega)]
 rw[if_neg h1,if_neg (by omega)]
theorem ziW {l:List En} {t:List (List En)} (h:zjt l 8 t):t=j4 l:=by
 apply List.ext_getElem?
 intro j
 by_cases hj:j<8
 ·rw[h.at' j hj,if_pos hj];unfold j4;rw[List.getElem?_map,List.getElem?_range hj];rfl
 rw[gN (by rw[h.len];omega),gN (by simp[j4];omega)]
theorem zeL (l:List En) (w:World) (hl:l.length=64) (hk:∀e∈l,0<=e.kind):
  Calls Tryz.prog 49 #[.agg (qd l).toArray] w fun e w'=>∃us,e= .returned (.agg us.toArray)/\Jq 0 w.heap.size w' us (j4 l)/\zc w w':=by
 have HLL:Hid (l.length=64):=hl;have HK:Hid (∀e∈l,0<=e.kind):=hk;have HC:Hid (∀(j:Nat) e,l[j]? =some e->(qd l)[j*3]? =some (.int .i64 e.kind)/\(qd l)[j*3+1]? =some (.int .i64 e.n)/\(qd l)[j*3+2]? =some (.bool e.wr)):=show∀(j:Nat) e,_ from fun j e h=>zbQ h
 clear hl hk;obtain⟨TT,HTT⟩:∃TT,Hid (j4 l=TT):=⟨_,rfl⟩;rw[HTT.out]
 generalize qd l=C at HC⊢
 obtain⟨W0,hW0⟩:∃W0,((w.alloc (.cells C.toArray 75)).alloc (.cells #[.slice none 0 0,.slice none 0 0,.slice none 0 0,.slice none 0 0,.slice none 0 0,.slice none 0 0,.slice none 0 0,.slice none 0 0] 53)).alloc (.cells #[.slice none 0 0,.slice none 0 0,.slice none 0 0,.slice none 0 0,.slice none 0 0,.slice none 0 0,.slice none 0 0,.slice none 0 0] 53)=W0:=⟨_,rfl⟩;have HG0:Hid (zc w W0):=show zc w W0 by rw[<-hW0];exact((za _ _).trans (za _ _)).trans (za _ _)
 have X0:Hid (Box W0 w.heap.size C):=show Box _ _ _ by rw[<-hW0];exact((Box.top w _ _ rfl).alloc _).alloc _
 have Y0:Hid (Box W0 (w.heap.size+1) zah):=show Box _ _ _ by rw[<-hW0];exact(Box.top _ zah _ (by simp)).alloc _
 have T0:Hid (Box W0 (w.heap.size+2) zah):=show Box _ _ _ by rw[<-hW0];exact Box.top _ zah _ (by simp)
 have HW0:Hid (_=W0):=hW0;clear hW0;obtain⟨b2,HB2⟩:∃b2,Hid (w.heap.size+2=b2):=⟨_,rfl⟩
 go_enter Tryz.func49,Tryz.ntmps49
 go_upto_region 2 with fail;rw[HW0.out];go_wp2
 go_loopg [8] 8 (fun gg s8 wr=>∃(kk:Nat) (us:List Value) (t:List (List En)),kk<=8/\8 - kk<=gg/\s8= .int .i64 kk/\Hid (zc w wr)/\Hid (Box wr w.heap.size C)/\Hid (Box wr (w.heap.size+1) zah)/\Hid (Box wr (w.heap.size+2) us)/\Hid (Jq 0 (w.heap.size+3) wr us t)/\Hid (zjt l kk t)/\Hid (∀j,kk<=j->j<8->us[j]? =some (.slice none 0 0)))
 case atStart=>exact⟨0,zah,qx,nZ _,by omega,rfl,HG0.out,X0.out,Y0.out,T0.out,Jq.nil _ _ _,zhx l,show∀j,_ from fun j _ hj=>by rw[zah,List.getElem?_replicate,if_pos hj]⟩
 obtain⟨kk,us,t,hkk,hg,rfl,BW,XW,YW,TW,SW,MW,NW⟩:=hrel
 by_cases hlt:kk<8
 ·have hltz:(kk:Int)<8:=by omega
  obtain⟨Ch,HCH⟩:∃Ch,Hid (ZF l kk=Ch):=⟨_,rfl⟩;have HCL:Hid (Ch.length=8):=show _=_ by rw[<-HCH.out];exact zh6 _ _
  have HCA:Hid (∀k,k<8->∃e,Ch[k]? =some e/\l[8*kk+k]? =some e/\0<=e.kind):=show∀k,_ from fun k hk=>by
   obtain⟨e,he⟩:∃e,l[8*kk+k]? =some e:=⟨_,gE (by rw[HLL.out];omega)⟩
   exact⟨e,by rw[<-HCH.out,zjn l hk,he];rfl,he,HK.out e (mG he)⟩
  obtain⟨WB,rfl⟩:∃WB,WB=wr:=⟨_,rfl⟩;go_wp2
  go_loopg [5,6] 8 (fun g2 s5 s6 wr2=>∃(k2:Nat) (sm:Bool),k2<=8/\8 - k2<=g2/\s6= .int .i64 k2/\s5= .bool sm/\Hid (sm=Za (Ch.take k2))/\Hid (wr2=WB))
  case atStart=>exact⟨0,false,nZ _,by omega,rfl,rfl,rfl,rfl⟩
  obtain⟨k2,sm,hk2,hg2,rfl,rfl,AW2,EW⟩:=hrel;rw[EW.out]
  by_cases hlt2:k2<8
  ·have hltz2:(k2:Int)<8:=by omega
   obtain⟨e,he1,he2,he3⟩:=HCA.out k2 hlt2;have HT:Hid (Za (Ch.take (k2+1))=(sm || enS e)):=show _=_ by
    rw[qa he1,AW2.out];unfold Za;rw[List.any_append];simp
   cases sm with
   | true=>
    have HS:Hid (true=Za (Ch.take (k2+1))):=show _=_ by rw[HT.out];rfl
    clear he1 he2 he3;go_wp2
    go_roundg (8 -(k2+1))
    case measure=>omega
    exact⟨k2+1,true,by omega,by omega,by go_num,rfl,HS.out,rfl⟩
   | false=>
    have hidx:(8:Int)*(kk:Int)+(k2:Int)=((8*kk+k2:Nat):Int):=by omega
    have hi64:8*kk+k2<64:=by omega
    obtain⟨c0,_,_⟩:=HC.out _ e he2;obtain⟨ix,HIX⟩:∃ix,Hid (8*kk+k2=ix):=⟨_,rfl⟩;rw[HIX.out]at hidx hi64 c0;have hi64z:(ix:Int)<64:=by omega
    have x0:=XW.out.c _ c0;clear c0 he1 he2;obtain⟨B,HBB⟩:∃B,Hid (enS e=B):=⟨_,rfl⟩;have hB:decide (0<e.kind)=B:=by
     rw[<-HBB.out];unfold enS
     by_cases h:e.kind=0
     ·rw[h];rfl
     have:0<e.kind:=by omega
     rw[decide_eq_true this]
     simpa using h
    have HS:Hid (B=Za (Ch.take (k2+1))):=show _=_ by rw[HT.out,HBB.out];rfl
    clear he3;go_wp2
    go_roundg (8 -(k2+1))
    case measure=>omega
    exact⟨k2+1,B,by omega,by omega,by go_num,by first | rfl | rw[hB],HS.out,rfl⟩
  have hltz2:¬(k2:Int)<8:=by omega
  have:k2=8:=by omega
  subst this;have HSM:Hid (sm=Za Ch):=show _=_ by rw[AW2.out,List.take_of_length_le (by rw[HCL.out];exact nR _)]
  cases sm with
  | false=>
   have HMK:Hid (mk (ZF l kk)=[]):=show _=_ by rw[HCH.out];unfold mk;rw[<-HSM.out,if_neg (by decide)]
   have HTK:Hid (t.set kk (mk (ZF l kk))=t):=show _=_ by
    rw[HMK.out];refine zcV ?_;rw[MW.out.at' kk hlt,if_neg (Nat.lt_irrefl _)]
   have M2:Hid (zjt l (kk+1) t):=show zjt _ _ _ by rw[<-HTK.out];exact zd3 MW.out hlt
   go_wp2
   go_loopg [7] 1 (fun g3 s7 wr3=>1<=g3/\s7= .int .i64 0/\Hid (wr3=WB))
   case atStart=>exact⟨nR _,rfl,rfl⟩
   obtain⟨hg3,rfl,EW3⟩:=hrel;rw[EW3.out];go_wp2
   go_roundg (8 -(kk+1))
   case measure=>omega
   exact⟨kk+1,us,t,by omega,by omega,by go_num,BW.out,XW.out,YW.out,TW.out,SW.out,M2.out,show∀j,_ from fun j h1 h2=>NW.out j (by omega) h2⟩
  | true=>
   have HMK:Hid (mk (ZF l kk)=Ch):=show _=_ by rw[HCH.out];unfold mk;rw[<-HSM.out,if_pos rfl]
   have HU8:Hid (us.length=8):=SW.out.len;go_wp2
   go_loopg [7] 8 (fun g3 s7 wr3=>∃(k3 c:Nat) (a:Option Addr),k3<=8/\8 - k3<=g3/\s7= .int .i64 k3/\Hid (Out (w.heap.size+2) (w.heap.size+3) WB wr3)/\Hid (Box wr3 (w.heap.size+2) (us.set kk (.slice a k3 c)))/\Hid (zb enE WB.heap.size wr3 (.slice a k3 c) (Ch.take k3)))
   case atStart=>exact⟨0,0,none,nZ _,by omega,rfl,Out.refl _ _ _,by rw[zcV (NW.out kk (nR _) hlt)];exact TW.out,zb.nil _ _ _⟩
   obtain⟨k3,c,a,hk3,hg3,rfl,OW3,TW3,RW3⟩:=hrel;have HLB:Hid (w.heap.size+3<=WB.heap.size):=TW.out.lt
   by_cases hlt3:k3<8
   ·have hltz3:(k3:Int)<8:=by omega
    obtain⟨e,he1,he2,_⟩:=HCA.out k3 hlt3;have hidx:(8:Int)*(kk:Int)+(k3:Int)=((8*kk+k3:Nat):Int):=by omega
    have hi64:8*kk+k3<64:=by omega
    obtain⟨c0,c1,c2⟩:=HC.out _ e he2;obtain⟨ix,HIX⟩:∃ix,Hid (8*kk+k3=ix):=⟨_,rfl⟩;rw[HIX.out]at hidx hi64 c0 c1 c2;have hi64z:(ix:Int)<64:=by omega
    have HTK:Hid (Ch.take (k3+1)=Ch.take k3++ [e]):=qa he1;have HTL:Hid ((Ch.take k3).length=k3):=show _=_ by rw[List.length_take,HCL.out];omega
    have HXB:Hid (Box wr w.heap.size C):=XW.out.out OW3.out (by omega)
    have HYB:Hid (Box wr (w.heap.size+1) zah):=YW.out.out OW3.out (by omega)
    have hgo:∀g,(Value.slice a k3 c).ownBlock=some g->WB.heap.size<=g/\g<wr.heap.size:=RW3.out.lt;have HGO:Hid (∀g,(Value.slice a k3 c).ownBlock=some g->WB.heap.size<=g/\g<wr.heap.size):=hgo;clear hgo he1 he2;obtain⟨w3,rfl⟩:∃w3,w3=wr:=⟨_,rfl⟩;obtain⟨I,HI⟩:∃I:World->Prop,Hid (∀u,I u↔(Box u w.heap.size C/\Box u (w.heap.size+1) zah/\Box u (w.heap.size+2) (us.set kk (.slice a k3 c))/\Out (w.heap.size+2) (w.heap.size+3) WB u/\w3.heap.size<=u.heap.size)):=⟨fun u=>(Box u w.heap.size C/\Box u (w.heap.size+1) zah/\Box u (w.heap.size+2) (us.set kk (.slice a k3 c))/\Out (w.heap.size+2) (w.heap.size+3) WB u/\w3.heap.size<=u.heap.size),fun _=>Iff.rfl⟩
    go_upto_region 13 with fail;have hxt:∀y:zr I,y.world.cell? ⟨w.heap.size+2,kk,none⟩=some (.slice a k3 c):=fun y=>((HI.out _).1 y.holds).2.2.1.c kk (sF (by rw[HU8.out];exact hlt))
    have hx0:∀y:zr I,y.world.cell? ⟨w.heap.size,ix*3,none⟩=some (.int .i64 e.kind):=fun y=>((HI.out _).1 y.holds).1.c _ c0
    have hx1:∀y:zr I,y.world.cell? ⟨w.heap.size,ix*3+1,none⟩=some (.int .i64 e.n):=fun y=>((HI.out _).1 y.holds).1.c _ c1
    have hx2:∀y:zr I,y.world.cell? ⟨w.heap.size,ix*3+2,none⟩=some (.bool e.wr):=fun y=>((HI.out _).1 y.holds).1.c _ c2
    have hI0:I w3.drew:=(HI.out _).2 ⟨HXB.out.grew (gW _),HYB.out.grew (gW _),TW3.out.grew (gW _),OW3.out.trans (Out.drew _),nR _⟩
    have hne:Nonempty (zr I):=⟨⟨_,hI0⟩⟩;clear c0 c1 c2;refine qP (I:=I) 13 [(10,⟨fun v=>∃g,v= .slice (some ⟨g,0,none⟩) 1 1,fun v w'=>zaV enE w3.heap.size w' v [e],fun p q=>zc p q,fun _=>True⟩),(11,⟨fun v=>∃a' c',v= .slice a' (k3+1) c',fun v w'=>zb enE WB.heap.size w' v (Ch.take k3++ [e]),fun p q=>p.grownBy q (Value.slice a k3 c).ownBlock,fun u=>zb enE WB.heap.size u (.slice a k3 c) (Ch.take k3)⟩)] hI0 qy (by kernel_rfl) rfl rfl (by decide) ?hS ?hp ?hpre ?hpr0 ?_
    case hS=>
     intro y hy
     simp at hy
     rcases hy with rfl | rfl
     ·exact⟨_,0,rfl⟩
     exact⟨_,none,0,rfl⟩
    case hp=>
     intro k s j t' hk hj hjk _ v p q hst hpo
     rcases zgw hk with⟨rfl,rfl⟩ | ⟨rfl,rfl⟩
     ·rcases zgw hj with⟨rfl,rfl⟩ | ⟨rfl,rfl⟩
      ·exact absurd rfl hjk
      have h1:zaV enE w3.heap.size p v [e]:=hpo;exact⟨h1.1.beside hst (fun x n c' hx h=>by
       have h2:=h1.2 x n c' hx;have h3:=(HGO.out x.block h.symm).2
       omega),h1.2⟩
     rcases zgw hj with⟨rfl,rfl⟩ | ⟨rfl,rfl⟩
     ·exact zb.grew hpo hst
     exact absurd rfl hjk
    case hpre=>
     intro j t' k s hj hk hjk p q hst hpr
     rcases zgw hj with⟨rfl,rfl⟩ | ⟨rfl,rfl⟩
     ·trivial
     rcases zgw hk with⟨rfl,rfl⟩ | ⟨rfl,rfl⟩
     ·exact zb.grew hpr hst
     exact absurd rfl hjk
    case hpr0=>
     intro k t' hk
     rcases zgw hk with⟨rfl,rfl⟩ | ⟨rfl,rfl⟩
     ·trivial
     exact RW3.out.grew (gW _)
    simp only[List.take,List.drop];iterate 10 (refine zk rfl rfl rfl (fun K hK=>?_);go_big_quiet_op;refine hK _ ?_;clear hK K)
    refine zF rfl rfl (fun w' hI' hpr hF=>?_) (fun v1 hv=>?_)
    ·obtain⟨i1,i2,i3,i4,i5⟩:=(HI.out _).1 hI';have hnew:zaV enE w3.heap.size (w'.alloc (.cells #[.int .i64 e.kind,.int .i64 e.n,.bool e.wr] 74)) (.slice (some ⟨w'.heap.size,0,none⟩) 1 1) [e]:=⟨jT enE w' e _ _ rfl (by decide),fun x n c' hx=>by cases hx;exact i5⟩
     clear hxt hx0 hx1 hx2 hne;refine zL.step (v:= .slice (some ⟨w'.heap.size,0,none⟩) 1 1) (w':=w'.alloc (.cells #[.int .i64 e.kind,.int .i64 e.n,.bool e.wr] 74)) (by simp only[execOp];go_simp) ⟨(HI.out _).2 ⟨i1.alloc _,i2.alloc _,i3.alloc _,i4.trans (Out.grew (za _ _)),nT i5 (bS (za _ _))⟩,za _ _,⟨_,rfl⟩,hnew⟩
    obtain⟨g10,rfl⟩:=hv;simp only[Act.put,sB,sS,sZ];refine zF rfl rfl (fun w' hI' hpr hF=>?_) (fun v1 hv=>?_)
    ·obtain⟨i1,i2,i3,i4,i5⟩:=(HI.out _).1 hI';have h10:zaV enE w3.heap.size w' (.slice (some ⟨g10,0,none⟩) 1 1) [e]:=hF 10 (by kernel_rfl)
     have hpr':zb enE WB.heap.size w' (.slice a k3 c) (Ch.take k3):=hpr;obtain⟨v',w2,hrun,ho,hgr,_⟩:=qe (E:=enE) (w:=w') 51 hpr' (.slice (some ⟨g10,0,none⟩) 1 1) [e] h10.1 (by rw[HTL.out];show(k3+1)*24<=_;omega) i4.size
     obtain⟨a',c',rfl⟩:=ho.form;have hln:(Ch.take k3++ [e]).length=k3+1:=by rw[lA,HTL.out];rfl
     rw[hln]at ho hrun;have hne':∀b,b<w.heap.size+3->∀g,(Value.slice a k3 c).ownBlock=some g->b≠g:=fun b hb g hg=>by
      have:=(HGO.out g hg).1;have:=HLB.out;omega
     refine zL.step (v:= .slice a' (k3+1) c') (w':=w2) ?_ ⟨(HI.out _).2 ⟨i1.beside hgr (hne' _ (by omega)),i2.beside hgr (hne' _ (by omega)),i3.beside hgr (hne' _ (by omega)),⟨hgr.os.trans i4.os,hgr.tape.trans i4.tape,hgr.output.trans i4.output,nT i4.size hgr.size,fun k hk hb=>(hgr.block k (Nat.lt_of_lt_of_le hk i4.size) (fun h=>by have:=(HGO.out k h.symm).1;omega)).trans (i4.block k hk hb)⟩,nT i5 hgr.size⟩,hgr,⟨a',c',rfl⟩,ho⟩
     simp only[execOp,resolve,invoke,builtin,pure_bind,Sem.run_bind,Sem.run_pure,List.map_toArray,mP,List.map_nil];exact Eq.trans (congrArg (fun r=>Result.andThen r (fun a w'=>Result.ok (Next.value a) w')) hrun) rfl
    obtain⟨a11,c11,rfl⟩:=hv;simp only[Act.put,sB,sS,sZ];iterate 1 (refine zk rfl rfl rfl (fun K hK=>?_);go_big_quiet_op;refine hK _ ?_;clear hK K)
    refine jI fun W4 hI4 hF=>?_
    have o11:zb enE WB.heap.size W4 (.slice a11 (k3+1) c11) (Ch.take k3++ [e]):=hF 11;obtain⟨i1,i2,i3,i4,i5⟩:=(HI.out _).1 hI4;have O4:Hid (zb enE WB.heap.size W4 (.slice a11 (k3+1) c11) (Ch.take (k3+1))):=show zb _ _ _ _ _ by rw[HTK.out];exact o11
    have T4:Hid (Box W4 (w.heap.size+2) (us.set kk (.slice a k3 c))):=i3;have Out4:Hid (Out (w.heap.size+2) (w.heap.size+3) WB W4):=i4;clear hF hxt hx0 hx1 hx2 hI4 hne hI0 o11 i1 i2 i3 i4 i5 HI;have t0:=T4.out.c kk (sF (by rw[HU8.out];exact hlt))
    have tf:=T4.out.f;go_upto_region 12 with fail;have T5:Hid (Box (W4.setCell ⟨w.heap.size+2,kk,none⟩ (.slice a11 (k3+1) c11)) (w.heap.size+2) (us.set kk (.slice a11 (k3+1) c11))):=show Box _ _ _ by
     have:=T4.out.set kk (.slice a11 (k3+1) c11);rw[List.set_set]at this;exact this
    have O5:Hid (zb enE WB.heap.size (W4.setCell ⟨w.heap.size+2,kk,none⟩ (.slice a11 (k3+1) c11)) (.slice a11 (k3+1) c11) (Ch.take (k3+1))):=O4.out.setCell (by have:=HLB.out;simp;omega) _
    have Out5:Hid (Out (w.heap.size+2) (w.heap.size+3) WB (W4.setCell ⟨w.heap.size+2,kk,none⟩ (.slice a11 (k3+1) c11))):=Out4.out.trans (Out.setCell _ _ _ (p:=⟨w.heap.size+2,kk,none⟩) (nR _) (Nat.lt_succ_self _) _);clear t0 tf;go_wp2
    go_roundg (8 -(k3+1))
    case measure=>omega
    exact⟨k3+1,c11,a11,by omega,by omega,by go_num,Out5.out,T5.out,O5.out⟩
   have hltz3:¬(k3:Int)<8:=by omega
   have:k3=8:=by omega
   subst this;have R8:Hid (zb enE WB.heap.size wr (.slice a 8 c) Ch):=show zb _ _ _ _ _ by
    have:=RW3.out;rw[List.take_of_length_le (by rw[HCL.out];exact nR _)]at this
    exact this
   have S9:Hid (Jq 0 (w.heap.size+3) wr (us.set kk (.slice a 8 c)) (t.set kk Ch)):=show Jq _ _ _ _ _ from⟨by simp[HU8.out],by simp[MW.out.len],fun j v h hv hh=>by
    by_cases e:j=kk
    ·subst e;rw[sF (by rw[HU8.out];exact hlt)]at hv
     rw[sF (by rw[MW.out.len];exact hlt)]at hh
     cases hv;cases hh;exact R8.out.new.stays.less (nZ _) HLB.out
    rw[sN (fun h=>e h.symm)]at hv hh
    exact(SW.out.row j v h hv hh).out (OW3.out.wide (by omega) (by omega))⟩
   have M9:Hid (zjt l (kk+1) (t.set kk Ch)):=show zjt _ _ _ by rw[<-HMK.out];exact zd3 MW.out hlt
   have X9:Hid (Box wr w.heap.size C):=XW.out.out OW3.out (by omega)
   have Y9:Hid (Box wr (w.heap.size+1) zah):=YW.out.out OW3.out (by omega)
   have G9:Hid (zc w wr):=show zc _ _ from Out.grew_of BW.out (by omega) OW3.out
   have N9:Hid (∀j,kk+1<=j->j<8->(us.set kk (.slice a 8 c))[j]? =some (.slice none 0 0)):=show∀j,_ from fun j h1 h2=>by rw[sN (by omega)];exact NW.out j (by omega) h2
   go_wp2
   go_roundg (8 -(kk+1))
   case measure=>omega
   exact⟨kk+1,_,_,by omega,by omega,by go_num,G9.out,X9.out,Y9.out,TW3.out,S9.out,M9.out,N9.out⟩
 have hltz:¬(kk:Int)<8:=by omega
 have:kk=8:=by omega
 subst this;have SE:Hid (Jq 0 (w.heap.size+3) wr us TT):=show Jq _ _ _ _ _ by rw[<-HTT.out,<-ziW MW.out];exact SW.out
 have HU8:Hid (us.length=8):=SW.out.len
 go_wp2_with (first | refine jA rfl (.tmp 3) rfl (w.heap.size+2) rfl TW.out HU8.out ?_ | refine zQ rfl 53 (.tmp 2) (.tmp 47) rfl (w.heap.size+1) rfl us rfl YW.out HU8.out zlh SE.out.one ?_)
 intro W3 b3 g3 s3;have G3:Hid (zc w W3):=show zc _ _ from zg BW.out g3 (by simp)
 have B3:Hid (Box W3 (w.heap.size+1) us):=b3;have T3:Hid (Jq 0 w.heap.size W3 us TT):=(SE.out.out (Out.grown g3 (fun g h=>by cases h;omega))).less (nR _) (by omega)
 clear b3 g3 s3;go_wp2;refine bodyPost_ret (zW rfl _ rfl B3.out Tryz.underlying53 rfl (by rw[HU8.out];exact zlh)) rfl ⟨us,rfl,T3.out,G3.out⟩
theorem zer (F S B:Int) (nf ns nb:Nat) (hnf:max (min F 40) 0=(nf:Int)) (hns:max (min S 60) 0=(ns:Int)) (hnb:max (min B 80) 0=(nb:Int)) (vl:Sli) (L:List Int) (w:World) (lr:zo byE w (.slice vl.a vl.n vl.c) L) (lc:vl.n<=vl.c) (lb:∀z∈L,0<=z/\z<256):
  Calls Tryz.prog 15 #[.int .i64 F,.int .i64 S,.int .i64 B,.slice vl.a vl.n vl.c] w fun e w'=>∃(V:MaV) (m:Ma) (T:List (Nat->En)) (hd:Int) (hi ht:Nat) (vt:Sli),e= .returned (.agg #[.slice V.f.a V.f.n V.f.c,.int .i64 hd,.slice V.s.a V.s.n V.s.c,.slice V.sb.a V.sb.n V.sb.c,.slice V.sq.a V.sq.n V.sq.c,.slice V.db.a V.db.n V.db.c,.slice V.dq.a V.dq.n V.dq.c,.slice V.fl.a V.fl.n V.fl.c,.int .i64 m.cnt,.slice V.ca.a V.ca.n V.ca.c,.slice V.sp.a V.sp.n V.sp.c])/\zfB w nf ns nb L w' V m T hd hi ht vt:=by
 have hnf40:nf<=40:=by omega
 have hns60:ns<=60:=by omega
 have hnb80:nb<=80:=by omega
 obtain⟨W0,hW0⟩:∃W0,(w.alloc (.cells #[.slice none 0 0,.int .i64 0,.slice none 0 0,.slice none 0 0,.slice none 0 0,.slice none 0 0,.slice none 0 0,.slice none 0 0,.int .i64 0,.slice none 0 0,.slice none 0 0] 41)).alloc (.cells #[.slice vl.a vl.n vl.c,.slice none 0 0,.int .i64 0,.slice none 0 0,.slice none 0 0,.slice none 0 0,.slice none 0 0,.slice none 0 0,.slice none 0 0,.int .i64 0,.slice none 0 0,.slice none 0 0,.slice none 0 0] 98)=W0:=⟨_,rfl⟩;have G0:=gD2 hW0
 have X0:Hid (zp W0 w.heap.size 41 [.slice none 0 0,.int .i64 0,.slice none 0 0,.slice none 0 0,.slice none 0 0,.slice none 0 0,.slice none 0 0,.slice none 0 0,.int .i64 0,.slice none 0 0,.slice none 0 0]):=show zp _ _ _ _ by rw[<-hW0];exact(zp.top _ [.slice none 0 0,.int .i64 0,.slice none 0 0,.slice none 0 0,.slice none 0 0,.slice none 0 0,.slice none 0 0,.slice none 0 0,.int .i64 0,.slice none 0 0,.slice none 0 0] _ rfl).grew (za _ _)
 have Y0:Hid (zp W0 (w.heap.size+1) 98 [.slice vl.a vl.n vl.c,.slice none 0 0,.int .i64 0,.slice none 0 0,.slice none 0 0,.slice none 0 0,.slice none 0 0,.slice none 0 0,.slice none 0 0,.int .i64 0,.slice none 0 0,.slice none 0 0,.slice none 0 0]):=show zp _ _ _ _ by rw[<-hW0];exact zp.top _ [.slice vl.a vl.n vl.c,.slice none 0 0,.int .i64 0,.slice none 0 0,.slice none 0 0,.slice none 0 0,.slice none 0 0,.slice none 0 0,.slice none 0 0,.int .i64 0,.slice none 0 0,.slice none 0 0,.slice none 0 0] _ (by simp)
 have HW0:Hid (_=W0):=hW0;have HLR:Hid (zo byE w (.slice vl.a vl.n vl.c) L):=lr;have HLC:Hid (vl.n<=vl.c):=lc;have HLB:Hid (∀z∈L,0<=z/\z<256):=show∀z,_ from lb
 clear hW0 lr lc lb
 go_enter Tryz.func15,Tryz.ntmps15
 go_upto_region 3 with fail;rw[HW0.out];try rw[hnf]
 try rw[hns]
 try rw[hnb]
 clear hnf hns hnb HW0;obtain⟨b,HBB⟩:∃b,Hid (w.heap.size+1=b):=⟨_,rfl⟩;rw[HBB.out]at Y0⊢;obtain⟨I,HI⟩:∃I:World->Prop,Hid (∀u,I u↔zc W0 u):=⟨fun u=>zc W0 u,fun _=>Iff.rfl⟩
 have hI0:I W0.drew:=(HI.out _).2 (gW _)
 have hne:Nonempty (zr I):=⟨⟨_,hI0⟩⟩;refine zdy (I:=I) (J:=JB nf ns nb) 17 [(2,⟨fun v=>∃g,v= .slice (some ⟨g,0,none⟩) nf nf,fun v u=>zb Jx w.heap.size u v (List.replicate nf fr0),fun p q=>zc p q,fun _=>True⟩),(5,⟨fun v=>∃g,v= .slice (some ⟨g,0,none⟩) ns ns,fun v u=>zb slE w.heap.size u v (List.replicate ns 0),fun p q=>zc p q,fun _=>True⟩),(7,⟨fun v=>∃g,v= .slice (some ⟨g,0,none⟩) ns ns,fun v u=>zj w.heap.size u v (List.replicate ns zz),fun p q=>zc p q,fun _=>True⟩),(10,⟨fun v=>∃g,v= .slice (some ⟨g,0,none⟩) nb nb,fun v u=>zj w.heap.size u v (List.replicate nb zz),fun p q=>zc p q,fun _=>True⟩)] hI0 ?hJ0 ?hJq ?hJs ?hJu qy (by kernel_rfl) rfl rfl (by decide) ?hS ?hp ?hpre ?hpr0 ?_
 case hJ0=>
  refine⟨⟨rfl,rfl,rfl⟩,fun s hs=> .inl ?_,fun s hs x n c he=>?_,fun s hs t ht hst x n c y n' c' he=>?_⟩
  ·simp only[mC,nM,or_false]at hs
   rcases hs with rfl | rfl | rfl | rfl <;> rfl
  ·simp only[mC,nM,or_false]at hs
   rcases hs with rfl | rfl <;> cases he
  simp only[mC,nM,or_false]at hs
  rcases hs with rfl | rfl <;> cases he
 case hJq=>
  intro j o hj hS a v u hr hJ;exact hJ.quiet (ziI (Sx:=[2,5,7,10]) (by kernel_rfl) hj (zgv hS)) (by omega) (by omega) hnb80 hr
 case hJs=>
  intro j o s hj hs a u K hJ hI hd;have hs':=zN hs;clear hs;simp only[mC,pJ,nM,or_false]at hs'
  rcases hs' with⟨rfl,rfl⟩ | ⟨rfl,rfl⟩ | ⟨rfl,rfl⟩ | ⟨rfl,rfl⟩
  ·cases hj;obtain⟨i0,hi,hz0,hz1,hz2⟩:=info_parts Jx.info;exact hJ.make 26 69 i0 _ 32 rfl (by simp) Jx.und hi hz0 (by rw[hz2];decide) (by decide) hd
  ·cases hj;obtain⟨i0,hi,hz0,hz1,hz2⟩:=info_parts slE.info;exact hJ.make 30 3 i0 _ 35 rfl (by simp) slE.und hi hz0 (by rw[hz2];decide) (by decide) hd
  ·cases hj;obtain⟨i0,hi,hz0,hz1,hz2⟩:=info_parts zlb;exact hJ.make 31 67 i0 _ 37 rfl (by simp) Tryz.underlying31 hi hz0 (by rw[hz2];decide) (by decide) hd
  cases hj;obtain⟨i0,hi,hz0,hz1,hz2⟩:=info_parts zlb;exact hJ.make 31 67 i0 _ 40 rfl (by simp) Tryz.underlying31 hi hz0 (by rw[hz2];decide) (by decide) hd
 case hJu=>
  intro j o hj a u hJ;exact hJ.undef (ziJ (by kernel_rfl) hj)
 case hS=>
  intro x hx;simp only[mC,nM,or_false]at hx
  rcases hx with rfl | rfl | rfl | rfl <;> exact⟨_,0,rfl⟩
 case hp=>
  intro k s j t hk hj hjk hanc v p q hst hpo;have hk':=zN hk;have hj':=zN hj;clear hk hj;simp only[mC,pJ,nM,or_false]at hk' hj';have hg:zc p q:=by rcases hj' with⟨rfl,rfl⟩ | ⟨rfl,rfl⟩ | ⟨rfl,rfl⟩ | ⟨rfl,rfl⟩ <;> exact hst
  rcases hk' with⟨rfl,rfl⟩ | ⟨rfl,rfl⟩ | ⟨rfl,rfl⟩ | ⟨rfl,rfl⟩
  ·exact zb.grew hpo hg
  ·exact zb.grew hpo hg
  ·exact zj.grew hpo hg
  exact zj.grew hpo hg
 case hpre=>
  intro j t k s hj hk hjk p q hst hpr;have hj':=zN hj;clear hk hj;simp only[mC,pJ,nM,or_false]at hj'
  rcases hj' with⟨rfl,rfl⟩ | ⟨rfl,rfl⟩ | ⟨rfl,rfl⟩ | ⟨rfl,rfl⟩ <;> trivial
 case hpr0=>
  intro k t hk;have hk':=zN hk;clear hk;simp only[mC,pJ,nM,or_false]at hk'
  rcases hk' with⟨rfl,rfl⟩ | ⟨rfl,rfl⟩ | ⟨rfl,rfl⟩ | ⟨rfl,rfl⟩ <;> trivial
 simp only[List.take,List.drop];iterate 2 (refine zk rfl rfl rfl (fun K hK=>?_);go_big_quiet_op;refine hK _ ?_;clear hK K)
 refine zF rfl rfl (fun w' hI' hpr hF=>?_) (fun v1 hv=>?_)
 ·have hg:=(HI.out _).1 hI';exact zat Jx w' nf (by show nf*40<=_;omega) (.tmp 32) rfl rfl (fun C ho=>⟨(HI.out _).2 (hg.trans (za _ _)),za _ _,⟨_,rfl⟩,ho.base (nT (bS G0.out) (bS hg))⟩)
 obtain⟨gf,rfl⟩:=hv;simp only[Act.put,sB,sS,sZ];iterate 2 (refine zk rfl rfl rfl (fun K hK=>?_);go_big_quiet_op;refine hK _ ?_;clear hK K)
 refine zF rfl rfl (fun w' hI' hpr hF=>?_) (fun v1 hv=>?_)
 ·have hg:=(HI.out _).1 hI';exact zat slE w' ns (by show ns*8<=_;omega) (.tmp 35) rfl rfl (fun C ho=>⟨(HI.out _).2 (hg.trans (za _ _)),za _ _,⟨_,rfl⟩,ho.base (nT (bS G0.out) (bS hg))⟩)
 obtain⟨gl,rfl⟩:=hv;simp only[Act.put,sB,sS,sZ];iterate 1 (refine zk rfl rfl rfl (fun K hK=>?_);go_big_quiet_op;refine hK _ ?_;clear hK K)
 refine zF rfl rfl (fun w' hI' hpr hF=>?_) (fun v1 hv=>?_)
 ·have hg:=(HI.out _).1 hI';exact Jk w' ns (by omega) (.tmp 37) rfl rfl (fun C ho=>⟨(HI.out _).2 (hg.trans (za _ _)),za _ _,⟨_,rfl⟩,ho.base (nT (bS G0.out) (bS hg))⟩)
 obtain⟨gsb,rfl⟩:=hv;simp only[Act.put,sB,sS,sZ];iterate 2 (refine zk rfl rfl rfl (fun K hK=>?_);go_big_quiet_op;refine hK _ ?_;clear hK K)
 refine zF rfl rfl (fun w' hI' hpr hF=>?_) (fun v1 hv=>?_)
 ·have hg:=(HI.out _).1 hI';exact Jk w' nb hnb80 (.tmp 40) rfl rfl (fun C ho=>⟨(HI.out _).2 (hg.trans (za _ _)),za _ _,⟨_,rfl⟩,ho.base (nT (bS G0.out) (bS hg))⟩)
 obtain⟨gdb,rfl⟩:=hv;simp only[Act.put,sB,sS,sZ];iterate 4 (refine zk rfl rfl rfl (fun K hK=>?_);go_big_quiet_op;refine hK _ ?_;clear hK K)
 refine jv (.tmp 31) ⟨b,0,none⟩ rfl rfl rfl rfl ?_;simp only[Act.put,sB,sS,sZ];iterate 1 (refine zk rfl rfl rfl (fun K hK=>?_);go_big_quiet_op;refine hK _ ?_;clear hK K)
 refine jI fun W1 hI1 hF hJ=>?_
 have hap:gsb≠gdb:=hJ.2.2.2 38 (by simp) 41 (by simp) (by decide) ⟨gsb,0,none⟩ ns ns ⟨gdb,0,none⟩ nb nb rfl rfl
 have o1:zb Jx w.heap.size W1 (.slice (some ⟨gf,0,none⟩) nf nf) (List.replicate nf fr0):=hF 2;have o2:zb slE w.heap.size W1 (.slice (some ⟨gl,0,none⟩) ns ns) (List.replicate ns 0):=hF 5;have o3:zj w.heap.size W1 (.slice (some ⟨gsb,0,none⟩) ns ns) (List.replicate ns zz):=hF 7;have o4:zj w.heap.size W1 (.slice (some ⟨gdb,0,none⟩) nb nb) (List.replicate nb zz):=hF 10;have g1:=(HI.out _).1 hI1;have Y1:=dD (Y0.out.grew g1);have X1:=dD (X0.out.grew g1);have G1:=dD (G0.out.trans g1);clear hF hJ hI1 hI0 hne HI g1;refine zdx rfl 41 (.tmp 47) (.tmp 45) rfl b 1 rfl [.slice (some ⟨gf,0,none⟩) nf nf,.int .i64 0,.slice (some ⟨gl,0,none⟩) ns ns,.slice (some ⟨gsb,0,none⟩) ns ns,.slice none 0 0,.slice (some ⟨gdb,0,none⟩) nb nb,.slice none 0 0,.slice none 0 0,.int .i64 (nb:Int),.slice none 0 0,.slice none 0 0] rfl Y1.out (by simp) (by kernel_rfl) (fun v hv=>by simp only[mC,nM,or_false]at hv;rcases hv with rfl | rfl | rfl | rfl | rfl | rfl | rfl | rfl | rfl | rfl | rfl <;> rfl) ?_
 intro W2 hb2 hg2 hs2;have B2:zp W2 b 98 [.slice vl.a vl.n vl.c,.slice (some ⟨gf,0,none⟩) nf nf,.int .i64 0,.slice (some ⟨gl,0,none⟩) ns ns,.slice (some ⟨gsb,0,none⟩) ns ns,.slice none 0 0,.slice (some ⟨gdb,0,none⟩) nb nb,.slice none 0 0,.slice none 0 0,.int .i64 (nb:Int),.slice none 0 0,.slice none 0 0,.slice none 0 0]:=hb2;have M2:Hid (Mk w W2.heap.size W2 b vl L ⟨⟨some ⟨gf,0,none⟩,nf,nf⟩,⟨some ⟨gl,0,none⟩,ns,ns⟩,⟨some ⟨gsb,0,none⟩,ns,ns⟩,zw,⟨some ⟨gdb,0,none⟩,nb,nb⟩,zw,zw,zw,zw⟩ ⟨List.replicate nf fr0,0,List.replicate ns 0,List.replicate ns zz,[],List.replicate nb zz,[],[],nb,[],[]⟩ zw []):=ziR (zg G1.out hg2 (by have:=HBB.out;omega)) (by have:=HBB.out;omega) B2 HLR.out HLC.out HLB.out (o1.kind hg2 Y1.out (by decide)) (o2.kind hg2 Y1.out (by decide)) ⟨qo o3.1 hg2 Y1.out (by decide),o3.2⟩ ⟨qo o4.1 hg2 Y1.out (by decide),o4.2⟩ hap
 have X2:Hid (zp W2 w.heap.size 41 [.slice none 0 0,.int .i64 0,.slice none 0 0,.slice none 0 0,.slice none 0 0,.slice none 0 0,.slice none 0 0,.slice none 0 0,.int .i64 0,.slice none 0 0,.slice none 0 0]):=X1.out.beside hg2 (fun g e=>by cases e;have:=HBB.out;omega)
 clear hb2 hg2 hs2 B2 o1 o2 o3 o4 hap Y1 X1 G1;obtain⟨hi,HHI⟩:∃hi,Hid (W2.heap.size=hi):=⟨_,rfl⟩;rw[HHI.out]at M2;try simp only[Act.put]
 have x1:=M2.out.box.box.c 1 rfl;go_wp2;clear x1
 go_loopg [55] nf (fun gg s55 wr=>∃kk:Nat,kk<=nf/\nf - kk<=gg/\s55= .int .i64 kk/\Hid (Mk w hi wr b vl L ⟨⟨some ⟨gf,0,none⟩,nf,nf⟩,⟨some ⟨gl,0,none⟩,ns,ns⟩,⟨some ⟨gsb,0,none⟩,ns,ns⟩,zw,⟨some ⟨gdb,0,none⟩,nb,nb⟩,zw,zw,zw,zw⟩ ⟨zg0 nf kk,0,List.replicate ns 0,List.replicate ns zz,[],List.replicate nb zz,[],[],nb,[],[]⟩ zw [])/\Hid (zp wr w.heap.size 41 [.slice none 0 0,.int .i64 0,.slice none 0 0,.slice none 0 0,.slice none 0 0,.slice none 0 0,.slice none 0 0,.slice none 0 0,.int .i64 0,.slice none 0 0,.slice none 0 0]))
 case atStart=>exact⟨0,nZ _,by omega,rfl,by rw[zhJ];exact M2.out,X2.out⟩
 obtain⟨kk,hkk,hgg,rfl,MW,XW⟩:=hrel;clear M2 X2
 by_cases hlt:kk<nf
 ·have hltz:(kk:Int)< (nf:Int):=by omega
  have x1:=MW.out.box.box.c 1 rfl;have R:Hid (zb Jx w.heap.size wr (.slice (some ⟨gf,0,none⟩) nf nf) (zg0 nf kk)):=MW.out.rows.fs;have d:wr.cell? ⟨gf,kk*13+11,none⟩=some (.int .i64 0):=by
   have:=R.out.one (zhK hlt) 11 _ rfl;rw[zP,Addr.add_lit,zA]at this;exact this
  have xf:=R.out.unfrozen rfl;obtain⟨ow,gr,sz⟩:=R.out.cell (k:=kk) (o:=11) rfl (zhK hlt) (y:=frF) (u:= .int .i64 (-1)) rfl (by decide)
  rw[zi8 hlt]at ow;have hM:=MW.out.setF rfl gr sz ow;have M3:Hid (Mk w hi (wr.setCell ⟨gf,kk*13+11,none⟩ (.int .i64 (-1))) b vl L ⟨⟨some ⟨gf,0,none⟩,nf,nf⟩,⟨some ⟨gl,0,none⟩,ns,ns⟩,⟨some ⟨gsb,0,none⟩,ns,ns⟩,zw,⟨some ⟨gdb,0,none⟩,nb,nb⟩,zw,zw,zw,zw⟩ ⟨zg0 nf (kk+1),0,List.replicate ns 0,List.replicate ns zz,[],List.replicate nb zz,[],[],nb,[],[]⟩ zw []):=hM.1;have X3:Hid (zp (wr.setCell ⟨gf,kk*13+11,none⟩ (.int .i64 (-1))) w.heap.size 41 [.slice none 0 0,.int .i64 0,.slice none 0 0,.slice none 0 0,.slice none 0 0,.slice none 0 0,.slice none 0 0,.slice none 0 0,.int .i64 0,.slice none 0 0,.slice none 0 0]):=hM.2.1 _ _ _ XW.out ⟨by decide,by decide,by decide,by decide,by decide,by decide,by decide,by decide,fun h=>absurd h (by decide)⟩
  clear hM ow gr sz R;go_wp2
  go_roundg (nf -(kk+1))
  case measure=>omega
  exact⟨kk+1,by omega,by omega,by go_num,M3.out,X3.out⟩
 have hltz:¬(kk:Int)< (nf:Int):=by omega
 obtain rfl:nf=kk:=by omega
 rw[zi9]at MW;have hpk:=qk 3 MW.out;go_wp2_with fail;refine hpk.mono ?_;clear hpk;rintro e W3 ⟨vl1,L1,y,rfl,mk1,gr1,sz1,y0,y1,yn,ll⟩;obtain⟨c,rfl⟩:∃c:Nat,y=(c:Int):=⟨y.toNat,by omega⟩
 have hc3:c<3:=by rcases y1 with h | h <;> omega
 have HC0:Hid (L=[]->c=0):=show _->_ from fun e=>by have:=yn e;omega
 have M3:Hid (Mk w hi W3 b vl1 L1 ⟨⟨some ⟨gf,0,none⟩,nf,nf⟩,⟨some ⟨gl,0,none⟩,ns,ns⟩,⟨some ⟨gsb,0,none⟩,ns,ns⟩,zw,⟨some ⟨gdb,0,none⟩,nb,nb⟩,zw,zw,zw,zw⟩ ⟨List.replicate nf frF,0,List.replicate ns 0,List.replicate ns zz,[],(List.replicate nb zz),[],[],nb,[],[]⟩ zw []):=mk1;have X3:Hid (zp W3 w.heap.size 41 [.slice none 0 0,.int .i64 0,.slice none 0 0,.slice none 0 0,.slice none 0 0,.slice none 0 0,.slice none 0 0,.slice none 0 0,.int .i64 0,.slice none 0 0,.slice none 0 0]):=XW.out.beside gr1 (fun g e=>by cases e;have:=HBB.out;omega)
 have LL3:Hid (ZC L L1):=ll;clear mk1 gr1 sz1 y0 y1 yn ll MW XW;go_wp2
 go_loopg [70] c (fun gg s70 wr=>∃(k2:Nat) (vl':Sli) (L':List Int) (sd sf:Sli) (db:List (List Int)) (dq:List (Int × List Int)) (fl:List Fl),k2<=c/\c - k2<=gg/\s70= .int .i64 k2/\Hid (Mk w hi wr b vl' L' ⟨⟨some ⟨gf,0,none⟩,nf,nf⟩,⟨some ⟨gl,0,none⟩,ns,ns⟩,⟨some ⟨gsb,0,none⟩,ns,ns⟩,zw,⟨some ⟨gdb,0,none⟩,nb,nb⟩,sd,sf,zw,zw⟩ ⟨List.replicate nf frF,0,List.replicate ns 0,List.replicate ns zz,[],db,dq,fl,nb,[],[]⟩ zw [])/\Hid (ZC L L')/\Hid (zp wr w.heap.size 41 [.slice none 0 0,.int .i64 0,.slice none 0 0,.slice none 0 0,.slice none 0 0,.slice none 0 0,.slice none 0 0,.slice none 0 0,.int .i64 0,.slice none 0 0,.slice none 0 0])/\Hid (zcD fl nb db dq []/\fl.length<=k2/\db.length=nb/\∀f∈fl,f.size<40)/\Hid (k2=0->fl=[]/\dq=[]/\db=List.replicate nb zz))
 case atStart=>exact⟨0,vl1,L1,zw,zw,_,_,_,nZ _,by omega,rfl,M3.out,LL3.out,X3.out,(show _/\_ from⟨zcD.zero hnb80,nZ _,lR,fun f hf=>(by cases hf)⟩),(fun _=>⟨rfl,rfl,rfl⟩)⟩
 obtain⟨k2,vl2,L2,sd,sf,db,dq,fl,hk2,hg2,rfl,MW,LW,XW,FW,ZW⟩:=hrel;clear M3 X3 LL3
 by_cases hlt2:k2<c
 ·have hltz2:(k2:Int)< (c:Int):=by omega
  have hpk2:=qk 40 MW.out;go_wp2_with fail;refine hpk2.mono ?_;clear hpk2;rintro e W4 ⟨vl4,L4,sz,rfl,mk4,gr4,-,s0,s1,-,ll4⟩;have hsz:sz<40:=by rcases s1 with h | h <;> omega
  have M4:Hid (Mk w hi W4 b vl4 L4 ⟨⟨some ⟨gf,0,none⟩,nf,nf⟩,⟨some ⟨gl,0,none⟩,ns,ns⟩,⟨some ⟨gsb,0,none⟩,ns,ns⟩,zw,⟨some ⟨gdb,0,none⟩,nb,nb⟩,sd,sf,zw,zw⟩ ⟨List.replicate nf frF,0,List.replicate ns 0,List.replicate ns zz,[],db,dq,fl,nb,[],[]⟩ zw []):=mk4;have X4:Hid (zp W4 w.heap.size 41 [.slice none 0 0,.int .i64 0,.slice none 0 0,.slice none 0 0,.slice none 0 0,.slice none 0 0,.slice none 0 0,.slice none 0 0,.int .i64 0,.slice none 0 0,.slice none 0 0]):=XW.out.beside gr4 (fun g e=>by cases e;have:=HBB.out;omega)
  have LL4:=dD (LW.out.trans ll4);clear mk4 gr4 ll4 MW XW LW s1;go_upto_region 12 with fail;obtain⟨pf,HPF⟩:∃pf,Hid (W4.heap.size=pf):=⟨_,rfl⟩;obtain⟨W5,hW5⟩:∃W5,W4.alloc (.cells #[.int .i64 sz,.slice none 0 0] 88)=W5:=⟨_,rfl⟩;have g5:=gP hW5
  have P5:=xPT hW5 HPF
  have M5:=dD (M4.out.grew g5);have X5:=dD (X4.out.grew g5);have FB5:Hid (FlB w.heap.size hi pf W5 ⟨⟨some ⟨gf,0,none⟩,nf,nf⟩,⟨some ⟨gl,0,none⟩,ns,ns⟩,⟨some ⟨gsb,0,none⟩,ns,ns⟩,zw,⟨some ⟨gdb,0,none⟩,nb,nb⟩,sd,sf,zw,zw⟩ ⟨List.replicate nf frF,0,List.replicate ns 0,List.replicate ns zz,[],db,dq,fl,nb,[],[]⟩):=show FlB _ _ _ _ _ _ by rw[<-HPF.out];exact M4.out.rows.flB.grew g5
  have HHP:Hid (hi<=pf):=show _<=_ by rw[<-HPF.out];exact M4.out.rows.hw
  have HFN:Hid (∀g,(Value.slice sf.a sf.n sf.c).ownBlock=some g->g<pf):=show∀g,_ from fun g hg=>by rw[<-HPF.out];obtain⟨xs,q1,-,-⟩:=M4.out.rows.fl;exact(q1.lt g hg).2
  rw[hW5,HPF.out];clear hW5 g5 M4 X4;have p0:=P5.out.box.c 0 rfl;have hcn:=zaO sz W5 s0 (by omega)
  go_wp2_with fail;refine hcn.mono ?_;clear hcn p0;rintro e W6 ⟨rfl,hw6⟩;rw[hw6];clear hw6 W6;have HC9:Hid (JG sz<=5):=show _<=_ by unfold JG;split <;> omega
  obtain⟨N3,HN3⟩:∃N3:Nat,Hid (JG sz=(N3:Int)):=⟨(JG sz).toNat,show _=_ by unfold JG;split <;> omega⟩
  rw[HN3.out];have HSZ:Hid (0<=sz/\sz<40):=show _/\_ from⟨s0,hsz⟩
  have hN35:N3<=5:=by have:=HC9.out;have:=HN3.out;omega
  have F5:Hid (FC w hi b W5 vl4 L4 ⟨⟨some ⟨gf,0,none⟩,nf,nf⟩,⟨some ⟨gl,0,none⟩,ns,ns⟩,⟨some ⟨gsb,0,none⟩,ns,ns⟩,zw,⟨some ⟨gdb,0,none⟩,nb,nb⟩,sd,sf,zw,zw⟩ ⟨List.replicate nf frF,0,List.replicate ns 0,List.replicate ns zz,[],db,dq,fl,nb,[],[]⟩ pf sz zw []):=show FC _ _ _ _ _ _ _ _ _ _ _ _ from⟨M5.out,HHP.out,FB5.out,HFN.out,P5.out,zb.nil _ _ _⟩
  have HF0:Hid (zcD fl nb db dq []/\db.length=nb):=show _/\_ from⟨FW.out.1,FW.out.2.2.1⟩
  have HF40:Hid (∀f∈fl,f.size<40):=show∀f,_ from FW.out.2.2.2
  have HFL:Hid (fl.length<=k2):=show _<=_ from FW.out.2.1
  clear s0 hsz M5 FB5 P5 HHP FW ZW HC9;go_wp2
  go_loopg [78] N3 (fun gg s78 wr=>∃(k3:Nat) (vl':Sli) (L':List Int) (sd' bs:Sli) (db':List (List Int)) (dq':List (Int × List Int)) (bl:List Int),k3<=N3/\N3 - k3<=gg/\s78= .int .i64 k3/\Hid (FC w hi b wr vl' L' ⟨⟨some ⟨gf,0,none⟩,nf,nf⟩,⟨some ⟨gl,0,none⟩,ns,ns⟩,⟨some ⟨gsb,0,none⟩,ns,ns⟩,zw,⟨some ⟨gdb,0,none⟩,nb,nb⟩,sd',sf,zw,zw⟩ ⟨List.replicate nf frF,0,List.replicate ns 0,List.replicate ns zz,[],db',dq',fl,nb,[],[]⟩ pf sz bs bl)/\Hid (ZC L L')/\Hid (zp wr w.heap.size 41 [.slice none 0 0,.int .i64 0,.slice none 0 0,.slice none 0 0,.slice none 0 0,.slice none 0 0,.slice none 0 0,.slice none 0 0,.int .i64 0,.slice none 0 0,.slice none 0 0])/\Hid (zcD fl nb db' dq' bl/\bl.length=k3/\db'.length=nb))
  case atStart=>exact⟨0,vl4,L4,sd,zw,db,dq,[],nZ _,by omega,rfl,F5.out,LL4.out,X5.out,(show _/\_ from⟨HF0.out.1,rfl,HF0.out.2⟩)⟩
  obtain⟨k3,vl6,L6,sd6,bs,db6,dq6,bl,hk3,hg3,rfl,FX,LX,XX,FI⟩:=hrel;clear F5 LL4 X5 HF0
  by_cases hlt3:k3<N3
  ·have hltz3:(k3:Int)< (N3:Int):=by omega
   have hpk7:=qk (max (nb:Int) 1) FX.out.mm;go_wp2_with fail;refine hpk7.mono ?_;clear hpk7;rintro e W7 ⟨vl7,L7,x,rfl,mk7,gr7,-,x0,-,-,ll7⟩;obtain⟨n,rfl⟩:∃n:Nat,x=(n:Int):=⟨x.toNat,by omega⟩
   have F7:Hid (FC w hi b W7 vl7 L7 ⟨⟨some ⟨gf,0,none⟩,nf,nf⟩,⟨some ⟨gl,0,none⟩,ns,ns⟩,⟨some ⟨gsb,0,none⟩,ns,ns⟩,zw,⟨some ⟨gdb,0,none⟩,nb,nb⟩,sd6,sf,zw,zw⟩ ⟨List.replicate nf frF,0,List.replicate ns 0,List.replicate ns zz,[],db6,dq6,fl,nb,[],[]⟩ pf sz bs bl):=FX.out.pick gr7 mk7;have X7:Hid (zp W7 w.heap.size 41 [.slice none 0 0,.int .i64 0,.slice none 0 0,.slice none 0 0,.slice none 0 0,.slice none 0 0,.slice none 0 0,.slice none 0 0,.int .i64 0,.slice none 0 0,.slice none 0 0]):=XX.out.kind gr7 FX.out.mm.box (by decide)
   have LL7:=dD (LX.out.trans ll7);clear mk7 gr7 ll7 x0 FX XX LX;go_upto_region 17 with fail
   go_cut [78,109]from 78 to 160 (fun s78 s109 wx=>∃(tk:Bool) (vl':Sli) (L':List Int),s78= .int .i64 k3/\s109= .bool tk/\Hid (FC w hi b wx vl' L' ⟨⟨some ⟨gf,0,none⟩,nf,nf⟩,⟨some ⟨gl,0,none⟩,ns,ns⟩,⟨some ⟨gsb,0,none⟩,ns,ns⟩,zw,⟨some ⟨gdb,0,none⟩,nb,nb⟩,sd6,sf,zw,zw⟩ ⟨List.replicate nf frF,0,List.replicate ns 0,List.replicate ns zz,[],db6,dq6,fl,nb,[],[]⟩ pf sz bs bl)/\Hid (ZC L L')/\Hid (zp wx w.heap.size 41 [.slice none 0 0,.int .i64 0,.slice none 0 0,.slice none 0 0,.slice none 0 0,.slice none 0 0,.slice none 0 0,.slice none 0 0,.int .i64 0,.slice none 0 0,.slice none 0 0])/\Hid (tk=true->n<nb/\qG (fl++ [⟨sz,bl⟩]) (n:Int)=false))
   case first=>
    by_cases hn:n<nb
    ·have hnz:(n:Int)< (nb:Int):=by omega
     have hnd:decide ((n:Int)< (nb:Int))=true:=by simpa using hnz
     obtain⟨xs,q1,q2,q3⟩:=F7.out.fb;have HX:Hid (zb fvE w.heap.size W7 (.slice sf.a sf.n sf.c) xs):=q1;obtain⟨nF,HNF⟩:∃nF,Hid (fl.length=nF):=⟨_,rfl⟩;have HXL:Hid (xs.length=nF):=show _=_ by rw[q2];exact HNF.out
     have hnF:nF<=10:=by have:=HFL.out;have:=HNF.out;omega
     have HSN:Hid (sf.n=nF):=show _=_ by rw[q1.n];exact HXL.out
     have HX3:Hid (∀(i:Nat) x f,xs[i]? =some x->fl[i]? =some f->x.size=f.size/\zb blE hi W7 x.v f.bl):=show∀i,_ from fun i x f hx hf=>(q3 i x f hx hf).1
     clear q1 q2 q3;obtain⟨fx,HFX⟩:∃fx:FlV,Hid (fx=⟨sz,bs.a,bs.n,bs.c⟩):=⟨_,rfl⟩;obtain⟨UB,HUB⟩:∃UB,Hid (qG (fl++ [(⟨sz,bl⟩:Fl)]) (n:Int)=UB):=⟨qG (fl++ [(⟨sz,bl⟩:Fl)]) (n:Int),rfl⟩;have HB7:Hid (b<W7.heap.size):=F7.out.mm.box.box.lt;have HPB:Hid (pf≠b):=show _≠_ from fun e=>by
      have h1:W7.heap[pf]? =_:=F7.out.box;have h2:W7.heap[b]? =_:=F7.out.mm.box;rw[e,h2]at h1;cases h1
     have HXB:Hid (w.heap.size≠b):=show _≠_ by have:=HBB.out;omega
     obtain⟨I,HI⟩:∃I:World->Prop,Hid (∀u,I u↔Out b (b+1) W7 u/\FCE w hi b L ⟨⟨some ⟨gf,0,none⟩,nf,nf⟩,⟨some ⟨gl,0,none⟩,ns,ns⟩,⟨some ⟨gsb,0,none⟩,ns,ns⟩,zw,⟨some ⟨gdb,0,none⟩,nb,nb⟩,sd6,sf,zw,zw⟩ ⟨List.replicate nf frF,0,List.replicate ns 0,List.replicate ns zz,[],db6,dq6,fl,nb,[],[]⟩ pf sz bs bl u):=⟨fun u=>Out b (b+1) W7 u/\FCE w hi b L ⟨⟨some ⟨gf,0,none⟩,nf,nf⟩,⟨some ⟨gl,0,none⟩,ns,ns⟩,⟨some ⟨gsb,0,none⟩,ns,ns⟩,zw,⟨some ⟨gdb,0,none⟩,nb,nb⟩,sd6,sf,zw,zw⟩ ⟨List.replicate nf frF,0,List.replicate ns 0,List.replicate ns zz,[],db6,dq6,fl,nb,[],[]⟩ pf sz bs bl u,fun _=>Iff.rfl⟩
     have hI0:I W7.drew:=(HI.out _).2 ⟨Out.drew _,vl7,L7,F7.out.grew (gW _),LL7.out⟩
     have HIG:Hid (∀u u',I u->zc u u'->I u'):=show∀u u',_ from fun u u' h k=>by
      obtain⟨h1,vl',L',h2,h3⟩:=(HI.out _).1 h;exact(HI.out _).2 ⟨h1.trans (Out.grew k),vl',L',h2.grew k,h3⟩
     have hx8:∀y:zr I,y.world.cell? ⟨b,8,none⟩=some (.slice sf.a sf.n sf.c):=fun y=>by
      obtain⟨_,_,_,h2,_⟩:=(HI.out _).1 y.holds;exact h2.mm.box.box.c 8 rfl
     have hp0:∀y:zr I,y.world.cell? ⟨pf,0,none⟩=some (.int .i64 sz):=fun y=>by
      obtain⟨_,_,_,h2,_⟩:=(HI.out _).1 y.holds;exact h2.box.box.c 0 rfl
     have hp1:∀y:zr I,y.world.cell? ⟨pf,1,none⟩=some (.slice bs.a bs.n bs.c):=fun y=>by
      obtain⟨_,_,_,h2,_⟩:=(HI.out _).1 y.holds;exact h2.box.box.c 1 rfl
     have hne:Nonempty (zr I):=⟨⟨_,hI0⟩⟩;refine qP (I:=I) 25 [(4,⟨fun v=>∃g,v= .slice (some ⟨g,0,none⟩) 0 0,fun v u=>zb fvE W7.heap.size u v [],fun p q=>zc p q,fun _=>True⟩),(11,⟨fun v=>(∃a c,v= .slice a nF c)/\(nF=0->∃g,v= .slice (some ⟨g,0,none⟩) 0 0),fun v u=>zb fvE W7.heap.size u v xs,fun p q=>zc p q,fun _=>True⟩),(13,⟨fun v=>∃g,v= .slice (some ⟨g,0,none⟩) 1 1,fun v u=>zb fvE W7.heap.size u v [fx],fun p q=>zc p q,fun _=>True⟩),(14,⟨fun v=>∃a c,v= .slice a (nF+1) c,fun v u=>zb fvE W7.heap.size u v (xs++ [fx]),fun p q=>∀u m,m.length<=nF\/m.length<=1->zb fvE W7.heap.size p u m->zb fvE W7.heap.size q u m,fun _=>True⟩),(17,⟨fun v=>v= .bool UB,fun _ _=>True,fun p q=>zc p q,fun _=>True⟩),(22,⟨fun v=>∃x:Int,v= .int .i64 x,fun _ _=>True,fun p q=>Out b (b+1) p q,fun _=>True⟩)] hI0 qy (by kernel_rfl) rfl rfl (by decide) ?hS ?hp ?hpre ?hpr0 ?_
     case hS=>
      intro x hx;simp only[mC,nM,or_false]at hx
      rcases hx with rfl | rfl | rfl | rfl | rfl | rfl
      ·exact⟨_,0,rfl⟩
      ·by_cases h0:nF=0
       ·exact⟨.slice (some ⟨0,0,none⟩) 0 0,⟨some ⟨0,0,none⟩,0,by rw[h0]⟩,fun _=>⟨0,rfl⟩⟩
       exact⟨.slice none nF 0,⟨_,_,rfl⟩,fun h=>absurd h h0⟩
      ·exact⟨_,0,rfl⟩
      ·exact⟨_,none,0,rfl⟩
      ·exact⟨_,rfl⟩
      exact⟨_,0,rfl⟩
     case hp=>
      intro k s j t hk hj hjk hanc v p q hst hpo;have hk':=zN hk;have hj':=zN hj;clear hk hj;simp only[mC,pJ,nM,or_false]at hk' hj';have keep:∀l:List FlV,l.length<=nF\/l.length<=1\/j≠14->zb fvE W7.heap.size p v l->zb fvE W7.heap.size q v l:=fun l hl ho=>by
       rcases hj' with⟨rfl,rfl⟩ | ⟨rfl,rfl⟩ | ⟨rfl,rfl⟩ | ⟨rfl,rfl⟩ | ⟨rfl,rfl⟩ | ⟨rfl,rfl⟩
       ·exact zb.grew ho hst
       ·exact zb.grew ho hst
       ·exact zb.grew ho hst
       ·exact hst v l (by omega) ho
       ·exact zb.grew ho hst
       exact ho.outb hst (fun g hg=>by have:=(ho.lt g hg).1;have:=HB7.out;omega)
      rcases hk' with⟨rfl,rfl⟩ | ⟨rfl,rfl⟩ | ⟨rfl,rfl⟩ | ⟨rfl,rfl⟩ | ⟨rfl,rfl⟩ | ⟨rfl,rfl⟩
      ·exact keep _ (.inl (nZ _)) hpo
      ·exact keep _ (.inl (by rw[HXL.out];exact nR _)) hpo
      ·exact keep _ (.inr (.inl (nR _))) hpo
      ·exact keep _ (.inr (.inr (fun e=>hjk e))) hpo
      ·trivial
      trivial
     case hpre=>
      intro j t k s hj hk hjk p q hst hpr;have hj':=zN hj;clear hk hj;simp only[mC,pJ,nM,or_false]at hj'
      rcases hj' with⟨rfl,rfl⟩ | ⟨rfl,rfl⟩ | ⟨rfl,rfl⟩ | ⟨rfl,rfl⟩ | ⟨rfl,rfl⟩ | ⟨rfl,rfl⟩ <;> trivial
     case hpr0=>
      intro k t hk;have hk':=zN hk;clear hk;simp only[mC,pJ,nM,or_false]at hk'
      rcases hk' with⟨rfl,rfl⟩ | ⟨rfl,rfl⟩ | ⟨rfl,rfl⟩ | ⟨rfl,rfl⟩ | ⟨rfl,rfl⟩ | ⟨rfl,rfl⟩ <;> trivial
     simp only[List.take,List.drop];iterate 4 (refine zk rfl rfl rfl (fun K hK=>?_);go_big_quiet_op;refine hK _ ?_;clear hK K)
     refine zF rfl rfl (fun w' hI' hpr hF=>?_) (fun v1 hv=>?_)
     ·have hg:=((HI.out _).1 hI').1;exact zL.step (v:= .slice (some ⟨w'.heap.size,0,none⟩) 0 0) (w':=w'.alloc (.cells #[] 88)) (by simp only[execOp];go_simp) ⟨HIG.out _ _ hI' (za _ _),za _ _,⟨_,rfl⟩,(zb.made fvE w').base hg.size⟩
     obtain⟨g0,rfl⟩:=hv;simp only[Act.put,sB,sS,sZ];iterate 1 (refine zk rfl rfl rfl (fun K hK=>?_);go_big_quiet_op;refine hK _ ?_;clear hK K)
     refine jv (.tmp 90) ⟨b,0,none⟩ rfl rfl rfl rfl ?_;simp only[Act.put,sB,sS,sZ];iterate 4 (refine zk rfl rfl rfl (fun K hK=>?_);go_big_quiet_op;refine hK _ ?_;clear hK K)
     refine zF rfl rfl (fun w' hI' hpr hF=>?_) (fun v1 hv=>?_)
     ·have hg:=((HI.out _).1 hI').1;have h0:zb fvE W7.heap.size w' (.slice (some ⟨g0,0,none⟩) 0 0) []:=hF 4 (by kernel_rfl)
      have hX:=HX.out.outb hg (fun g hg' e=>by
       obtain⟨cs,hc⟩:=HX.out.obj hg';have h3:W7.heap[b]? =_:=F7.out.mm.box;rw[e,h3]at hc
       cases hc)
      obtain⟨v',w2,hrun,ho,hg2,hz⟩:=jg (E:=fvE) (w:=w') 35 h0 (.slice sf.a sf.n sf.c) xs hX.at hg.size;obtain⟨a',c',rfl⟩:=ho.form;refine zL.step (v:= .slice a' xs.length c') (w':=w2) ?_ ⟨HIG.out _ _ hI' hg2,hg2,⟨⟨a',c',by rw[HXL.out]⟩,fun h=>⟨g0,hz (eN (by rw[HXL.out];exact h))⟩⟩,ho⟩
      simp only[execOp,resolve,invoke,builtin,pure_bind,Sem.run_bind,Sem.run_pure,List.map_toArray,mP,List.map_nil];exact Eq.trans (congrArg (fun r=>Result.andThen r (fun a w'=>Result.ok (Next.value a) w')) hrun) rfl
     obtain⟨⟨a3,c3,rfl⟩,hz3⟩:=hv;simp only[Act.put,sB,sS,sZ];iterate 1 (refine zk rfl rfl rfl (fun K hK=>?_);go_big_quiet_op;refine hK _ ?_;clear hK K)
     refine zF rfl rfl (fun w' hI' hpr hF=>?_) (fun v1 hv=>?_)
     ·have hg:=((HI.out _).1 hI').1;exact zL.step (v:= .slice (some ⟨w'.heap.size,0,none⟩) 1 1) (w':=w'.alloc (.cells #[.int .i64 sz,.slice bs.a bs.n bs.c] 88)) (by simp only[execOp];go_simp) ⟨HIG.out _ _ hI' (za _ _),za _ _,⟨_,rfl⟩,by rw[HFX.out];exact(ziE w' ⟨sz,bs.a,bs.n,bs.c⟩).base hg.size⟩
     obtain⟨g5,rfl⟩:=hv;simp only[Act.put,sB,sS,sZ];refine zF rfl rfl (fun w' hI' hpr hF=>?_) (fun v1 hv=>?_)
     ·have hg:=((HI.out _).1 hI').1;have o3:zb fvE W7.heap.size w' (.slice a3 nF c3) xs:=hF 11 (by kernel_rfl)
      have o5:zb fvE W7.heap.size w' (.slice (some ⟨g5,0,none⟩) 1 1) [fx]:=hF 13 (by kernel_rfl)
      have key:∃v' w2,(Builtin.append_ #[35,35] 35 #[.slice a3 nF c3,.slice (some ⟨g5,0,none⟩) 1 1]).run Tryz.prog w'= .ok v' w2/\zb fvE W7.heap.size w2 v' (xs++ [fx])/\I w2/\∀u m,m.length<=nF\/m.length<=1->zb fvE W7.heap.size w' u m->zb fvE W7.heap.size w2 u m:=by
       by_cases h0:nF=0
       ·have hxs:xs=[]:=eN (by rw[HXL.out];exact h0)
        subst hxs;obtain⟨g,hgv⟩:=hz3 h0;rw[hgv]at o3⊢;obtain⟨v',w2,hrun,ho,hg2,_⟩:=jg (E:=fvE) (w:=w') 35 o3 (.slice (some ⟨g5,0,none⟩) 1 1) [fx] o5.at hg.size;exact⟨v',w2,hrun,ho,HIG.out _ _ hI' hg2,fun u m _ h=>h.grew hg2⟩
       obtain⟨v',w2,hrun,ho,hgr,hk⟩:=qe (E:=fvE) (w:=w') 35 o3 (.slice (some ⟨g5,0,none⟩) 1 1) [fx] o5.at (by rw[HXL.out];show(nF+1)*32<=_;omega) hg.size
       refine⟨v',w2,hrun,ho,?_,fun u m hm h=>hk u m (by rw[HXL.out];omega) h⟩
       obtain⟨h1,vl',L',h2,h3⟩:=(HI.out _).1 hI';obtain⟨gr,cr,hgr3⟩:=o3.formS (by rw[HXL.out];omega)
       obtain⟨cs,hcs⟩:=o3.obj (g:=gr) (by rw[hgr3];rfl)
       have hgr':w'.grownBy w2 (some gr):=by rw[hgr3]at hgr;exact hgr
       have hgl:=(o3.lt gr (by rw[hgr3];rfl)).1
       have hpl:=F7.out.box.box.lt;refine(HI.out _).2 ⟨⟨hgr'.os.trans h1.os,hgr'.tape.trans h1.tape,hgr'.output.trans h1.output,nT h1.size hgr'.size,fun k hk' hb'=>(hgr'.block k (Nat.lt_of_lt_of_le hk' h1.size) (fun e=>by cases e;omega)).trans (h1.block k hk' hb')⟩,vl',L',h2.fresh hgr' hcs (by omega),h3⟩
      obtain⟨v',w2,hrun,ho,hI2,hk⟩:=key;obtain⟨a',c',rfl⟩:=ho.form;refine zL.step (v:= .slice a' (xs++ [fx]).length c') (w':=w2) ?_ ⟨hI2,hk,⟨a',c',by rw[lA,HXL.out];rfl⟩,ho⟩
      simp only[execOp,resolve,invoke,builtin,pure_bind,Sem.run_bind,Sem.run_pure,List.map_toArray,mP,List.map_nil];exact Eq.trans (congrArg (fun r=>Result.andThen r (fun a w'=>Result.ok (Next.value a) w')) hrun) rfl
     obtain⟨a6,c6,rfl⟩:=hv;simp only[Act.put,sB,sS,sZ];iterate 2 (refine zk rfl rfl rfl (fun K hK=>?_);go_big_quiet_op;refine hK _ ?_;clear hK K)
     refine zF rfl rfl (fun w' hI' hpr hF=>?_) (fun v1 hv=>?_)
     ·obtain⟨h1,vl',L',h2,h3⟩:=(HI.out _).1 hI';have o6:zb fvE W7.heap.size w' (.slice a6 (nF+1) c6) (xs++ [fx]):=hF 14 (by kernel_rfl)
      have hfa:qN w' (.slice a6 (nF+1) c6) (fl++ [⟨sz,bl⟩]):=by
       refine⟨o6.cap,xs++ [fx],o6.at.s0,by rw[lA,lA,HXL.out,HNF.out];rfl,fun i x f hx hf=>?_⟩
       rcases Nat.lt_or_ge i nF with hi' | hi'
       ·rw[List.getElem?_append_left (by rw[HXL.out];exact hi')]at hx
        rw[List.getElem?_append_left (by rw[HNF.out];exact hi')]at hf
        obtain⟨a1,a2⟩:=HX3.out i x f hx hf;exact⟨a1,(a2.outb h1 (fun g hg' e=>by
         obtain⟨cs,hc⟩:=a2.obj hg';have h3:W7.heap[b]? =_:=F7.out.mm.box;rw[e,h3]at hc
         cases hc)).at.s0⟩
       rw[aR (by rw[HXL.out];exact hi'),HXL.out]at hx
       rw[aR (by rw[HNF.out];exact hi'),HNF.out]at hf
       have hi0:i - nF=0:=by
        have:=(gS.1 hx).1
        simp at this
        omega
       rw[hi0]at hx hf;cases hx;cases hf;rw[HFX.out];exact⟨rfl,h2.row.at.s0⟩
      refine zL.call [.agg #[.slice a6 (nF+1) c6,.int .i64 0],.int .i64 (n:Int)] rfl Tryz.func45 rfl rfl rfl ?_;refine(zfE (.slice a6 (nF+1) c6) (fl++ [⟨sz,bl⟩]) 0 (n:Int) w' hfa).mono ?_;rintro e w'' ⟨rfl,hg2⟩;exact⟨_,rfl,HIG.out _ _ hI' hg2,hg2,by rw[HUB.out],trivial⟩
     subst hv;simp only[Act.put,sB,sS,sZ];iterate 3 (refine zk rfl rfl rfl (fun K hK=>?_);go_big_quiet_op;refine hK _ ?_;clear hK K)
     cases UB with
     | true=>
      refine zbA ?_ ?_
      ·kernel_rfl
      simp only[Act.put,sB,sS,sZ];refine zbA ?_ ?_
      ·kernel_rfl
      simp only[Act.put,sB,sS,sZ];refine zbA ?_ ?_
      ·kernel_rfl
      simp only[Act.put,sB,sS,sZ];iterate 1 (refine zk rfl rfl rfl (fun K hK=>?_);go_big_quiet_op;refine hK _ ?_;clear hK K)
      refine jI fun W8 hI8 hF8=>?_
      obtain⟨h1,vl8,L8,h2,h3⟩:=(HI.out _).1 hI8;have F8:Hid (FC w hi b W8 vl8 L8 ⟨⟨some ⟨gf,0,none⟩,nf,nf⟩,⟨some ⟨gl,0,none⟩,ns,ns⟩,⟨some ⟨gsb,0,none⟩,ns,ns⟩,zw,⟨some ⟨gdb,0,none⟩,nb,nb⟩,sd6,sf,zw,zw⟩ ⟨List.replicate nf frF,0,List.replicate ns 0,List.replicate ns zz,[],db6,dq6,fl,nb,[],[]⟩ pf sz bs bl):=h2;have LL8:Hid (ZC L L8):=h3;have X8:Hid (zp W8 w.heap.size 41 [.slice none 0 0,.int .i64 0,.slice none 0 0,.slice none 0 0,.slice none 0 0,.slice none 0 0,.slice none 0 0,.slice none 0 0,.int .i64 0,.slice none 0 0,.slice none 0 0]):=X7.out.outb h1 HXB.out;clear hI8 hF8 hI0 HI HIG hx8 hp0 hp1 hne h1 h2 h3 F7 LL7 X7 hz3;go_wp2
      go_meet
      exact⟨false,vl8,L8,rfl,rfl,F8.out,LL8.out,X8.out,fun h=>(by cases h)⟩
     | false=>
      iterate 1 (refine zk rfl rfl rfl (fun K hK=>?_);go_big_quiet_op;refine hK _ ?_;clear hK K)
      refine zF rfl rfl (fun w' hI' hpr hF=>?_) (fun v1 hv=>?_)
      ·obtain⟨h1,vl',L',h2,h3⟩:=(HI.out _).1 hI';refine zL.call [.pointer (some ⟨b,0,none⟩),.int .i64 3] rfl Tryz.func43 rfl rfl rfl ?_;refine(qk 3 h2.mm).mono ?_;rintro e w'' ⟨vl2,L2,y,rfl,mk2,gr2,-,-,-,-,ll2⟩;have ho2:Out b (b+1) w' w'':=Out.grown gr2 (fun g e=>by cases e;omega)
       exact⟨_,rfl,(HI.out _).2 ⟨h1.trans ho2,vl2,L2,h2.pick gr2 mk2,h3.trans ll2⟩,ho2,⟨y,rfl⟩,trivial⟩
      obtain⟨x,rfl⟩:=hv;simp only[Act.put,sB,sS,sZ];iterate 2 (refine zk rfl rfl rfl (fun K hK=>?_);go_big_quiet_op;refine hK _ ?_;clear hK K)
      refine jI fun W8 hI8 hF8=>?_
      obtain⟨h1,vl8,L8,h2,h3⟩:=(HI.out _).1 hI8;have F8:Hid (FC w hi b W8 vl8 L8 ⟨⟨some ⟨gf,0,none⟩,nf,nf⟩,⟨some ⟨gl,0,none⟩,ns,ns⟩,⟨some ⟨gsb,0,none⟩,ns,ns⟩,zw,⟨some ⟨gdb,0,none⟩,nb,nb⟩,sd6,sf,zw,zw⟩ ⟨List.replicate nf frF,0,List.replicate ns 0,List.replicate ns zz,[],db6,dq6,fl,nb,[],[]⟩ pf sz bs bl):=h2;have LL8:Hid (ZC L L8):=h3;have X8:Hid (zp W8 w.heap.size 41 [.slice none 0 0,.int .i64 0,.slice none 0 0,.slice none 0 0,.slice none 0 0,.slice none 0 0,.slice none 0 0,.slice none 0 0,.int .i64 0,.slice none 0 0,.slice none 0 0]):=X7.out.outb h1 HXB.out;have HUF:Hid (decide (0<x)=true->n<nb/\qG (fl++ [⟨sz,bl⟩]) (n:Int)=false):=show _->_ from fun _=>⟨hn,HUB.out⟩
      clear hI8 hF8 hI0 HI HIG hx8 hp0 hp1 hne h1 h2 h3 F7 LL7 X7 hz3;go_wp2
      go_meet
      exact⟨decide (0<x),vl8,L8,rfl,rfl,F8.out,LL8.out,X8.out,HUF.out⟩
    have hnz:¬(n:Int)< (nb:Int):=by omega
    have hnd:decide ((n:Int)< (nb:Int))=false:=by simpa using hnz
    clear hn;go_quiet (fail);go_wp2
    go_meet
    exact⟨false,vl7,L7,rfl,rfl,F7.out.grew (show Below _ _ _ from bD (bR _ _) _),LL7.out,X7.out.grew (show Below _ _ _ from bD (bR _ _) _),fun h=>(by cases h)⟩
   obtain⟨tk,vl8,L8,rfl,rfl,F8,LL8,X8,HTK⟩:=hcut;clear F7 LL7 X7
   go_upto_if 109 with fail
   go_cut [13,15,16,78]from 78 to 160 (fun s13 s15 s16 s78 wx=>∃(bx:Int) (vl':Sli) (L':List Int) (sd':Sli) (db':List (List Int)) (dq':List (Int × List Int)),s13= .int .i64 bx/\s78= .int .i64 k3/\Hid (FC w hi b wx vl' L' ⟨⟨some ⟨gf,0,none⟩,nf,nf⟩,⟨some ⟨gl,0,none⟩,ns,ns⟩,⟨some ⟨gsb,0,none⟩,ns,ns⟩,zw,⟨some ⟨gdb,0,none⟩,nb,nb⟩,sd',sf,zw,zw⟩ ⟨List.replicate nf frF,0,List.replicate ns 0,List.replicate ns zz,[],db',dq',fl,nb,[],[]⟩ pf sz bs bl)/\Hid (ZC L L')/\Hid (zp wx w.heap.size 41 [.slice none 0 0,.int .i64 0,.slice none 0 0,.slice none 0 0,.slice none 0 0,.slice none 0 0,.slice none 0 0,.slice none 0 0,.int .i64 0,.slice none 0 0,.slice none 0 0])/\Hid (zcD fl nb db' dq' (bl++ [bx])/\db'.length=nb))
   case first=>
    cases tk with
    | false=>
     go_wp2
     go_meet
     exact⟨-1,vl8,L8,sd6,db6,dq6,rfl,rfl,F8.out,LL8.out,X8.out,(show _/\_ from⟨FI.out.1.none,FI.out.2.2⟩)⟩
    | true=>
     obtain⟨hn,hu⟩:=HTK.out rfl;have HUF:Hid (qG fl (n:Int)=false/\(n:Int)∉bl):=show _/\_ by
      have h2:¬(n:Int)∈J3 (fl++ [⟨sz,bl⟩]):=fun h=>by rw[(zaa _ _).2 h]at hu;cases hu
      have h3:J3 (fl++ [⟨sz,bl⟩])=J3 fl++bl:=by simp[J3]
      rw[h3,List.mem_append]at h2;refine⟨?_,fun h=>h2 (.inr h)⟩
      cases e:qG fl (n:Int)with
      | false=>rfl
      | true=>exact absurd (.inl ((zaa _ _).1 e)) h2
     have hnz:(n:Int)< (nb:Int):=by omega
     clear hu HTK;have hpg:=za8 F8.out.mm;go_wp2_with fail;refine hpg.mono ?_;clear hpg;rintro e W9 ⟨vl9,L9,q9,rfl,ql9,mk9,gr9,ll9⟩;have F9:Hid (FC w hi b W9 vl9 L9 ⟨⟨some ⟨gf,0,none⟩,nf,nf⟩,⟨some ⟨gl,0,none⟩,ns,ns⟩,⟨some ⟨gsb,0,none⟩,ns,ns⟩,zw,⟨some ⟨gdb,0,none⟩,nb,nb⟩,sd6,sf,zw,zw⟩ ⟨List.replicate nf frF,0,List.replicate ns 0,List.replicate ns zz,[],db6,dq6,fl,nb,[],[]⟩ pf sz bs bl):=F8.out.pick gr9 mk9;have X9:Hid (zp W9 w.heap.size 41 [.slice none 0 0,.int .i64 0,.slice none 0 0,.slice none 0 0,.slice none 0 0,.slice none 0 0,.slice none 0 0,.slice none 0 0,.int .i64 0,.slice none 0 0,.slice none 0 0]):=X8.out.kind gr9 F8.out.mm.box (by decide)
     have LL9:=dD (LL8.out.trans ll9);clear mk9 gr9 ll9 F8 X8 LL8;obtain⟨o0,o1,o2,o3,o4,o5,o6,o7,rfl⟩:=ziZ q9 ql9;clear ql9;simp only[pgc,mP,List.map_nil];go_upto_region 20 with fail;obtain⟨pp,HPP⟩:∃pp,Hid (W9.heap.size=pp):=⟨_,rfl⟩;obtain⟨W10,hW10⟩:∃W10,W9.alloc (.cells #[.int .u8 o0,.int .u8 o1,.int .u8 o2,.int .u8 o3,.int .u8 o4,.int .u8 o5,.int .u8 o6,.int .u8 o7] 67)=W10:=⟨_,rfl⟩;have g10:=gP hW10
     have P10:Hid (zp W10 pp 67 (pgc [o0,o1,o2,o3,o4,o5,o6,o7])):=show zp _ _ _ _ by rw[<-hW10];exact zp.top _ (pgc [o0,o1,o2,o3,o4,o5,o6,o7]) _ HPP.out.symm
     have F10:=dD (F9.out.grew g10);have X10:=dD (X9.out.grew g10);have HHP:Hid (hi<=pp):=show _<=_ by rw[<-HPP.out];exact F9.out.mm.rows.hw
     rw[hW10,HPP.out];clear hW10 g10 F9 X9;go_wp2
     go_loopg [113] 8 (fun gg s113 wr=>∃(i:Nat) (qq:List Int),i<=8/\8 - i<=gg/\s113= .int .i64 i/\Hid (FC w hi b wr vl9 L9 ⟨⟨some ⟨gf,0,none⟩,nf,nf⟩,⟨some ⟨gl,0,none⟩,ns,ns⟩,⟨some ⟨gsb,0,none⟩,ns,ns⟩,zw,⟨some ⟨gdb,0,none⟩,nb,nb⟩,sd6,sf,zw,zw⟩ ⟨List.replicate nf frF,0,List.replicate ns 0,List.replicate ns zz,[],db6,dq6,fl,nb,[],[]⟩ pf sz bs bl)/\Hid (zp wr pp 67 (pgc qq))/\Hid (qq.length=8)/\Hid (zp wr w.heap.size 41 [.slice none 0 0,.int .i64 0,.slice none 0 0,.slice none 0 0,.slice none 0 0,.slice none 0 0,.slice none 0 0,.slice none 0 0,.int .i64 0,.slice none 0 0,.slice none 0 0]))
     case atStart=>exact⟨0,[o0,o1,o2,o3,o4,o5,o6,o7],nZ _,by omega,rfl,F10.out,P10.out,rfl,X10.out⟩
     obtain⟨i,qq,hi8,hg4,rfl,FW,PW,QW,XW⟩:=hrel;clear F10 P10 X10
     by_cases hlt4:i<8
     ·have hltz4:(i:Int)<8:=by omega
      obtain⟨z,hz⟩:∃z,qq[i]? =some z:=⟨_,gE (by rw[QW.out];exact hlt4)⟩
      have z0:=PW.out.box.c i (zfL hz);have zf:=PW.out.box.f;have y0:=FW.out.box.box.c 0 rfl;clear hz
      by_cases hc:sz<=8*(k3:Int)+(i:Int)
      ·have hcd:decide (sz<=8*(k3:Int)+(i:Int))=true:=by simpa using hc
       have HG:Hid (wr.grownBy (wr.setCell ⟨pp,i,none⟩ (.int .u8 0)) (some pp)):=jc _ _ _ _;have P11:Hid (zp (wr.setCell ⟨pp,i,none⟩ (.int .u8 0)) pp 67 (pgc (qq.set i 0))):=show zp _ _ _ _ by rw[zcZ];exact PW.out.set i _
       have F11:Hid (FC w hi b (wr.setCell ⟨pp,i,none⟩ (.int .u8 0)) vl9 L9 ⟨⟨some ⟨gf,0,none⟩,nf,nf⟩,⟨some ⟨gl,0,none⟩,ns,ns⟩,⟨some ⟨gsb,0,none⟩,ns,ns⟩,zw,⟨some ⟨gdb,0,none⟩,nb,nb⟩,sd6,sf,zw,zw⟩ ⟨List.replicate nf frF,0,List.replicate ns 0,List.replicate ns zz,[],db6,dq6,fl,nb,[],[]⟩ pf sz bs bl):=FW.out.kind HG.out PW.out (by decide) (by decide) (FW.out.mm.page PW.out HHP.out HG.out) rfl rfl
       have X11:Hid (zp (wr.setCell ⟨pp,i,none⟩ (.int .u8 0)) w.heap.size 41 [.slice none 0 0,.int .i64 0,.slice none 0 0,.slice none 0 0,.slice none 0 0,.slice none 0 0,.slice none 0 0,.slice none 0 0,.int .i64 0,.slice none 0 0,.slice none 0 0]):=XW.out.kind HG.out PW.out (by decide)
       clear HG;go_wp2
       go_roundg (8 -(i+1))
       case measure=>omega
       exact⟨i+1,qq.set i 0,by omega,by omega,by go_num,F11.out,P11.out,(show(qq.set i 0).length=8 by rw[List.length_set];exact QW.out),X11.out⟩
      have hcd:decide (sz<=8*(k3:Int)+(i:Int))=false:=by simpa using hc
      go_wp2
      go_roundg (8 -(i+1))
      case measure=>omega
      exact⟨i+1,qq,by omega,by omega,by go_num,FW.out,PW.out,QW.out,XW.out⟩
     have hltz4:¬(i:Int)<8:=by omega
     obtain⟨p0,p1,p2,p3,p4,p5,p6,p7,rfl⟩:=ziZ qq QW.out;go_upto_region 26 with fail;obtain⟨I,HI⟩:∃I:World->Prop,Hid (∀u,I u↔zc wr u):=⟨fun u=>zc wr u,fun _=>Iff.rfl⟩
     have hI0:I wr.drew:=(HI.out _).2 (gW _)
     have HP:Hid (∀u,I u->zp u pp 67 (pgc [p0,p1,p2,p3,p4,p5,p6,p7])):=show∀u,_ from fun u hu=>PW.out.grew ((HI.out _).1 hu)
     have hx6:∀y:zr I,y.world.cell? ⟨b,6,none⟩=some (.slice (some ⟨gdb,0,none⟩) nb nb):=fun y=>(FW.out.mm.box.box.grew ((HI.out _).1 y.holds)).c 6 rfl
     have hf0:∀y:zr I,y.world.cell? ⟨pp,0,none⟩=some (.int .u8 p0):=fun y=>(HP.out _ y.holds).box.c 0 rfl
     have hf1:∀y:zr I,y.world.cell? ⟨pp,1,none⟩=some (.int .u8 p1):=fun y=>(HP.out _ y.holds).box.c 1 rfl
     have hf2:∀y:zr I,y.world.cell? ⟨pp,2,none⟩=some (.int .u8 p2):=fun y=>(HP.out _ y.holds).box.c 2 rfl
     have hf3:∀y:zr I,y.world.cell? ⟨pp,3,none⟩=some (.int .u8 p3):=fun y=>(HP.out _ y.holds).box.c 3 rfl
     have hf4:∀y:zr I,y.world.cell? ⟨pp,4,none⟩=some (.int .u8 p4):=fun y=>(HP.out _ y.holds).box.c 4 rfl
     have hf5:∀y:zr I,y.world.cell? ⟨pp,5,none⟩=some (.int .u8 p5):=fun y=>(HP.out _ y.holds).box.c 5 rfl
     have hf6:∀y:zr I,y.world.cell? ⟨pp,6,none⟩=some (.int .u8 p6):=fun y=>(HP.out _ y.holds).box.c 6 rfl
     have hf7:∀y:zr I,y.world.cell? ⟨pp,7,none⟩=some (.int .u8 p7):=fun y=>(HP.out _ y.holds).box.c 7 rfl
     have hne:Nonempty (zr I):=⟨⟨_,hI0⟩⟩;refine qP (I:=I) 9 [] hI0 qy (by kernel_rfl) rfl rfl (by decide) (fun x hx=>by cases hx) (fun k s j t hk=>by cases hk) (fun j t k s hj=>by cases hj) (fun k t hk=>by cases hk) ?_
     simp only[List.take,List.drop];iterate 1 (refine zk rfl rfl rfl (fun K hK=>?_);go_big_quiet_op;refine hK _ ?_;clear hK K)
     refine jv (.tmp 126) ⟨b,0,none⟩ rfl rfl rfl rfl ?_;simp only[Act.put,sB,sS,sZ];iterate 7 (refine zk rfl rfl rfl (fun K hK=>?_);go_big_quiet_op;refine hK _ ?_;clear hK K)
     refine jI fun W11 hI11 _=>?_
     have g11:=(HI.out _).1 hI11;refine jb rfl (.tmp 134) (.tmp 133) rfl w.heap.size (.slice (some ⟨gdb,0,none⟩) nb nb) db6 (FW.out.grew g11).mm.rows.db gdb n rfl (by rw[FI.out.2.2];exact hn) [p0,p1,p2,p3,p4,p5,p6,p7] rfl _ rfl (by first | rfl | simp) rfl ?_
     intro W12 op12 gr12 sz12;obtain⟨-,cs12,hc12⟩:=ZR (FW.out.grew g11).mm.rows.db (g:=gdb) rfl;have F12:Hid (FC w hi b W12 vl9 L9 ⟨⟨some ⟨gf,0,none⟩,nf,nf⟩,⟨some ⟨gl,0,none⟩,ns,ns⟩,⟨some ⟨gsb,0,none⟩,ns,ns⟩,zw,⟨some ⟨gdb,0,none⟩,nb,nb⟩,sd6,sf,zw,zw⟩ ⟨List.replicate nf frF,0,List.replicate ns 0,List.replicate ns zz,[],(db6.set n [p0,p1,p2,p3,p4,p5,p6,p7]),dq6,fl,nb,[],[]⟩ pf sz bs bl):=(FW.out.grew g11).kind gr12 hc12 (by decide) (by decide) ((FW.out.grew g11).mm.setDb rfl gr12 sz12 op12).1 rfl rfl
     have X12:=dD ((XW.out.grew g11).kind gr12 hc12 (by decide))
     have P12:Hid (zp W12 pp 67 (pgc [p0,p1,p2,p3,p4,p5,p6,p7])):=(PW.out.grew g11).beside gr12 (fun g e=>by cases e;have:=(FW.out.mm.rows.dbh gdb rfl);have:=HHP.out;omega)
     clear hI11 g11 op12 gr12 sz12 cs12 hc12 hI0 HI HP hx6 hne FW XW PW;clear hf0 hf1 hf2 hf3 hf4 hf5 hf6 hf7;have hpk12:=qk 2 F12.out.mm;go_wp2_with fail;refine hpk12.mono ?_;clear hpk12;rintro e W13 ⟨vl13,L13,y,rfl,mk13,gr13,-,-,-,-,ll13⟩;have F13:Hid (FC w hi b W13 vl13 L13 ⟨⟨some ⟨gf,0,none⟩,nf,nf⟩,⟨some ⟨gl,0,none⟩,ns,ns⟩,⟨some ⟨gsb,0,none⟩,ns,ns⟩,zw,⟨some ⟨gdb,0,none⟩,nb,nb⟩,sd6,sf,zw,zw⟩ ⟨List.replicate nf frF,0,List.replicate ns 0,List.replicate ns zz,[],(db6.set n [p0,p1,p2,p3,p4,p5,p6,p7]),dq6,fl,nb,[],[]⟩ pf sz bs bl):=F12.out.pick gr13 mk13;have X13:Hid (zp W13 w.heap.size 41 [.slice none 0 0,.int .i64 0,.slice none 0 0,.slice none 0 0,.slice none 0 0,.slice none 0 0,.slice none 0 0,.slice none 0 0,.int .i64 0,.slice none 0 0,.slice none 0 0]):=X12.out.kind gr13 F12.out.mm.box (by decide)
     have P13:Hid (zp W13 pp 67 (pgc [p0,p1,p2,p3,p4,p5,p6,p7])):=P12.out.kind gr13 F12.out.mm.box (by decide)
     have LL13:=dD (LL9.out.trans ll13);clear mk13 gr13 ll13 F12 X12 P12;have HDL:Hid ((db6.set n [p0,p1,p2,p3,p4,p5,p6,p7]).length=nb):=show _=_ by rw[List.length_set];exact FI.out.2.2
     by_cases hy:y=1
     ·have hye:(y == 1)=true:=by simp[hy]
      clear hy;go_upto_region 28 with fail;have HDQ:Hid (zT w.heap.size W13 (.slice sd6.a sd6.n sd6.c) dq6):=F13.out.mm.rows.dq;have HQL:Hid (dq6.length<=1000):=show _<=_ by
       have h1:=FI.out.1.ql;have h2:=zdr ((jp _ _).1 FI.out.1.st).2.1;have h3:=((jp _ _).1 FI.out.1.st).1.1;have h4:=FI.out.2.1;omega
      obtain⟨I,HI⟩:∃I:World->Prop,Hid (∀u,I u↔zp u b 98 [.slice vl13.a vl13.n vl13.c,.slice (some ⟨gf,0,none⟩) nf nf,.int .i64 0,.slice (some ⟨gl,0,none⟩) ns ns,.slice (some ⟨gsb,0,none⟩) ns ns,.slice none 0 0,.slice (some ⟨gdb,0,none⟩) nb nb,.slice sd6.a sd6.n sd6.c,.slice sf.a sf.n sf.c,.int .i64 (nb:Int),.slice none 0 0,.slice none 0 0,.slice none 0 0]/\zp u pp 67 (pgc [p0,p1,p2,p3,p4,p5,p6,p7])):=⟨fun u=>zp u b 98 [.slice vl13.a vl13.n vl13.c,.slice (some ⟨gf,0,none⟩) nf nf,.int .i64 0,.slice (some ⟨gl,0,none⟩) ns ns,.slice (some ⟨gsb,0,none⟩) ns ns,.slice none 0 0,.slice (some ⟨gdb,0,none⟩) nb nb,.slice sd6.a sd6.n sd6.c,.slice sf.a sf.n sf.c,.int .i64 (nb:Int),.slice none 0 0,.slice none 0 0,.slice none 0 0]/\zp u pp 67 (pgc [p0,p1,p2,p3,p4,p5,p6,p7]),fun _=>Iff.rfl⟩
      have hI0:I W13.drew:=(HI.out _).2 ⟨F13.out.mm.box.grew (gW _),P13.out.grew (gW _)⟩
      have HP:Hid (∀u,I u->zp u pp 67 (pgc [p0,p1,p2,p3,p4,p5,p6,p7])):=show∀u,_ from fun u hu=>((HI.out _).1 hu).2
      have hx7:∀y:zr I,y.world.cell? ⟨b,7,none⟩=some (.slice sd6.a sd6.n sd6.c):=fun y=>((HI.out _).1 y.holds).1.box.c 7 rfl
      have hf0:∀y:zr I,y.world.cell? ⟨pp,0,none⟩=some (.int .u8 p0):=fun y=>(HP.out _ y.holds).box.c 0 rfl
      have hf1:∀y:zr I,y.world.cell? ⟨pp,1,none⟩=some (.int .u8 p1):=fun y=>(HP.out _ y.holds).box.c 1 rfl
      have hf2:∀y:zr I,y.world.cell? ⟨pp,2,none⟩=some (.int .u8 p2):=fun y=>(HP.out _ y.holds).box.c 2 rfl
      have hf3:∀y:zr I,y.world.cell? ⟨pp,3,none⟩=some (.int .u8 p3):=fun y=>(HP.out _ y.holds).box.c 3 rfl
      have hf4:∀y:zr I,y.world.cell? ⟨pp,4,none⟩=some (.int .u8 p4):=fun y=>(HP.out _ y.holds).box.c 4 rfl
      have hf5:∀y:zr I,y.world.cell? ⟨pp,5,none⟩=some (.int .u8 p5):=fun y=>(HP.out _ y.holds).box.c 5 rfl
      have hf6:∀y:zr I,y.world.cell? ⟨pp,6,none⟩=some (.int .u8 p6):=fun y=>(HP.out _ y.holds).box.c 6 rfl
      have hf7:∀y:zr I,y.world.cell? ⟨pp,7,none⟩=some (.int .u8 p7):=fun y=>(HP.out _ y.holds).box.c 7 rfl
      have hne:Nonempty (zr I):=⟨⟨_,hI0⟩⟩;refine zR (I:=I) 16 [(10,fun v=>∃g,v= .slice (some ⟨g,0,none⟩) 1 1),(11,fun v=>∃a n c,v= .slice a n c)] (fun u=>zc W13 u) hI0 (gW _) qy (by kernel_rfl) rfl rfl (by decide) ?hS (by kernel_rfl) ?_
      case hS=>
       intro x hx;simp only[mC,nM,or_false]at hx
       rcases hx with rfl | rfl
       ·exact⟨_,0,rfl⟩
       exact⟨_,none,0,0,rfl⟩
      simp only[List.take,List.drop];iterate 2 (refine zi rfl rfl rfl (fun K hK=>?_);go_big_quiet_op;refine hK _ ?_;clear hK K)
      refine zS (.tmp 139) ⟨b,0,none⟩ rfl rfl rfl rfl ?_;simp only[Act.put,sB,sS,sZ];iterate 7 (refine zi rfl rfl rfl (fun K hK=>?_);go_big_quiet_op;refine hK _ ?_;clear hK K)
      refine qA rfl rfl (fun v u=>zc W13 u/\∃g,v= .slice (some ⟨g,0,none⟩) 1 1/\jr u ⟨g,0,none⟩ (ptc ((n:Int),[p0,p1,p2,p3,p4,p5,p6,p7]))) (fun w' hI' hF'=>?_) (fun v1 hv=>?_)
      ·exact zL.step (v:= .slice (some ⟨w'.heap.size,0,none⟩) 1 1) (w':=w'.alloc (.cells #[.int .i64 (n:Int),.int .u8 p0,.int .u8 p1,.int .u8 p2,.int .u8 p3,.int .u8 p4,.int .u8 p5,.int .u8 p6,.int .u8 p7] 103)) (by simp only[execOp];go_simp) ⟨(HI.out _).2 ⟨((HI.out _).1 hI').1.grew (za _ _),((HI.out _).1 hI').2.grew (za _ _)⟩,⟨_,rfl⟩,hF'.trans (za _ _),_,rfl,jr.top w' (ptc ((n:Int),[p0,p1,p2,p3,p4,p5,p6,p7])) _ rfl⟩
      obtain⟨g5,rfl⟩:=hv;simp only[Act.put,sB,sS,sZ];refine qA rfl rfl (fun v u=>∃u0,zc W13 u0/\u0.grownBy u (Value.slice sd6.a sd6.n sd6.c).ownBlock/\zT w.heap.size u v (dq6++ [((n:Int),[p0,p1,p2,p3,p4,p5,p6,p7])])) (fun w' hI' hF'=>?_) (fun v1 hv=>?_)
      ·obtain⟨hg',g,hge,hcl⟩:=hF';have hge':g5=g:=by
        simp only[vJ,Option.some.injEq,Addr.mk.injEq]at hge;exact hge.1.1
       subst hge';obtain⟨v',w2,hrun,ho,hgr⟩:=zb6 (w:=w') 32 (HDQ.out.grew hg') g5 ((n:Int),[p0,p1,p2,p3,p4,p5,p6,p7]) rfl hcl HQL.out (nT (bS F13.out.mm.gr) (bS hg'));obtain⟨a',n',c',rfl⟩:=ho.slice;have hbx:I w2:=by
        cases hob:(Value.slice sd6.a sd6.n sd6.c).ownBlock with
        | none=>
         rw[hob]at hgr;exact(HI.out _).2 ⟨((HI.out _).1 hI').1.grew (qf hgr),((HI.out _).1 hI').2.grew (qf hgr)⟩
        | some gq=>
         rw[hob]at hgr;obtain⟨-,cs,hc⟩:=JV (HDQ.out.grew hg') hob;exact(HI.out _).2 ⟨((HI.out _).1 hI').1.kind hgr hc (by decide),((HI.out _).1 hI').2.kind hgr hc (by decide)⟩
       refine zL.step (v:= .slice a' n' c') (w':=w2) ?_ ⟨hbx,⟨a',n',c',rfl⟩,w',hg',hgr,ho⟩;simp only[execOp,resolve,invoke,builtin,pure_bind,Sem.run_bind,Sem.run_pure,List.map_toArray,mP,List.map_nil];exact Eq.trans (congrArg (fun r=>Result.andThen r (fun a w'=>Result.ok (Next.value a) w')) hrun) rfl
      obtain⟨da,dn,dc,rfl⟩:=hv;simp only[Act.put,sB,sS,sZ];refine zS (.tmp 138) ⟨b,0,none⟩ rfl rfl rfl rfl ?_;simp only[Act.put,sB,sS,sZ];iterate 3 (refine zi rfl rfl rfl (fun K hK=>?_);go_big_quiet_op;refine hK _ ?_;clear hK K)
      refine ja fun W14 hI14 hF14=>?_
      obtain⟨u0,g0,gr14,op14⟩:=hF14;have B14:Hid (zp W14 b 98 [.slice vl13.a vl13.n vl13.c,.slice (some ⟨gf,0,none⟩) nf nf,.int .i64 0,.slice (some ⟨gl,0,none⟩) ns ns,.slice (some ⟨gsb,0,none⟩) ns ns,.slice none 0 0,.slice (some ⟨gdb,0,none⟩) nb nb,.slice sd6.a sd6.n sd6.c,.slice sf.a sf.n sf.c,.int .i64 (nb:Int),.slice none 0 0,.slice none 0 0,.slice none 0 0]):=((HI.out _).1 hI14).1;have R14:Hid (MkR w.heap.size hi W14 ⟨⟨some ⟨gf,0,none⟩,nf,nf⟩,⟨some ⟨gl,0,none⟩,ns,ns⟩,⟨some ⟨gsb,0,none⟩,ns,ns⟩,zw,⟨some ⟨gdb,0,none⟩,nb,nb⟩,⟨da,dn,dc⟩,sf,zw,zw⟩ ⟨List.replicate nf frF,0,List.replicate ns 0,List.replicate ns zz,[],db6.set n [p0,p1,p2,p3,p4,p5,p6,p7],dq6++ [((n:Int),[p0,p1,p2,p3,p4,p5,p6,p7])],fl,nb,[],[]⟩ zw []):=(F13.out.mm.rows.grew g0).addDq gr14 ⟨da,dn,dc⟩ op14;have hk14:zc w W14/\FlB w.heap.size hi pf W14 ⟨⟨some ⟨gf,0,none⟩,nf,nf⟩,⟨some ⟨gl,0,none⟩,ns,ns⟩,⟨some ⟨gsb,0,none⟩,ns,ns⟩,zw,⟨some ⟨gdb,0,none⟩,nb,nb⟩,sd6,sf,zw,zw⟩ ⟨List.replicate nf frF,0,List.replicate ns 0,List.replicate ns zz,[],db6.set n [p0,p1,p2,p3,p4,p5,p6,p7],dq6,fl,nb,[],[]⟩/\zp W14 pf 88 [.int .i64 sz,.slice bs.a bs.n bs.c]/\zb blE (pf+1) W14 (.slice bs.a bs.n bs.c) bl/\zp W14 w.heap.size 41 [.slice none 0 0,.int .i64 0,.slice none 0 0,.slice none 0 0,.slice none 0 0,.slice none 0 0,.slice none 0 0,.slice none 0 0,.int .i64 0,.slice none 0 0,.slice none 0 0]:=by
       cases hob:(Value.slice sd6.a sd6.n sd6.c).ownBlock with
       | none=>
        rw[hob]at gr14;have k:=qf gr14;exact⟨(F13.out.mm.gr.trans g0).trans k,(F13.out.fb.grew g0).grew k,(F13.out.box.grew g0).grew k,(F13.out.row.grew g0).grew k,(X13.out.grew g0).grew k⟩
       | some gq=>
        rw[hob]at gr14;obtain⟨hgq,cs,hc⟩:=JV (HDQ.out.grew g0) hob;exact⟨zg (F13.out.mm.gr.trans g0) gr14 hgq,(F13.out.fb.grew g0).kind gr14 hc (.inl (by decide)) (.inl (by decide)),(F13.out.box.grew g0).kind gr14 hc (by decide),(F13.out.row.grew g0).kind gr14 hc (by decide),(X13.out.grew g0).kind gr14 hc (by decide)⟩
      obtain⟨e1,e2,e3,e4,e5⟩:=hk14;have GW14:Hid (zc w W14):=e1;have FB14:Hid (FlB w.heap.size hi pf W14 ⟨⟨some ⟨gf,0,none⟩,nf,nf⟩,⟨some ⟨gl,0,none⟩,ns,ns⟩,⟨some ⟨gsb,0,none⟩,ns,ns⟩,zw,⟨some ⟨gdb,0,none⟩,nb,nb⟩,sd6,sf,zw,zw⟩ ⟨List.replicate nf frF,0,List.replicate ns 0,List.replicate ns zz,[],db6.set n [p0,p1,p2,p3,p4,p5,p6,p7],dq6,fl,nb,[],[]⟩):=e2;have PF14:Hid (zp W14 pf 88 [.int .i64 sz,.slice bs.a bs.n bs.c]):=e3;have RW14:Hid (zb blE (pf+1) W14 (.slice bs.a bs.n bs.c) bl):=e4;have X14:Hid (zp W14 w.heap.size 41 [.slice none 0 0,.int .i64 0,.slice none 0 0,.slice none 0 0,.slice none 0 0,.slice none 0 0,.slice none 0 0,.slice none 0 0,.int .i64 0,.slice none 0 0,.slice none 0 0]):=e5;clear e1 e2 e3 e4 e5 u0 g0 gr14 op14 hI14 hI0 HI HP hx7 hne HDQ HQL;clear hf0 hf1 hf2 hf3 hf4 hf5 hf6 hf7;obtain⟨W15,hW15⟩:∃W15,W14.setCell ⟨b,7,none⟩ (.slice da dn dc)=W15:=⟨_,rfl⟩;have hg15:W14.grownBy W15 (some b):=by rw[<-hW15];exact jc _ _ _ _
      have M15:Mk w hi W15 b vl13 L13 ⟨⟨some ⟨gf,0,none⟩,nf,nf⟩,⟨some ⟨gl,0,none⟩,ns,ns⟩,⟨some ⟨gsb,0,none⟩,ns,ns⟩,zw,⟨some ⟨gdb,0,none⟩,nb,nb⟩,⟨da,dn,dc⟩,sf,zw,zw⟩ ⟨List.replicate nf frF,0,List.replicate ns 0,List.replicate ns zz,[],db6.set n [p0,p1,p2,p3,p4,p5,p6,p7],dq6++ [((n:Int),[p0,p1,p2,p3,p4,p5,p6,p7])],fl,nb,[],[]⟩ zw []:=⟨zg GW14.out hg15 F13.out.mm.hb,F13.out.mm.hb,by rw[<-hW15];exact B14.out.set 7 _,F13.out.mm.lr,F13.out.mm.lc,F13.out.mm.lb,R14.out.var hg15 B14.out hg15.size (.inl rfl)⟩
      have F15:Hid (FC w hi b W15 vl13 L13 ⟨⟨some ⟨gf,0,none⟩,nf,nf⟩,⟨some ⟨gl,0,none⟩,ns,ns⟩,⟨some ⟨gsb,0,none⟩,ns,ns⟩,zw,⟨some ⟨gdb,0,none⟩,nb,nb⟩,⟨da,dn,dc⟩,sf,zw,zw⟩ ⟨List.replicate nf frF,0,List.replicate ns 0,List.replicate ns zz,[],(db6.set n [p0,p1,p2,p3,p4,p5,p6,p7]),(dq6++ [((n:Int),[p0,p1,p2,p3,p4,p5,p6,p7])]),fl,nb,[],[]⟩ pf sz bs bl):=show FC _ _ _ _ _ _ _ _ _ _ _ _ from⟨M15,F13.out.hp,(FB14.out.kind hg15 B14.out (.inl (by decide)) (.inl (by decide))).as rfl rfl,F13.out.fn,PF14.out.kind hg15 B14.out (by decide),RW14.out.kind hg15 B14.out (by decide)⟩
      have X15:Hid (zp W15 w.heap.size 41 [.slice none 0 0,.int .i64 0,.slice none 0 0,.slice none 0 0,.slice none 0 0,.slice none 0 0,.slice none 0 0,.slice none 0 0,.int .i64 0,.slice none 0 0,.slice none 0 0]):=X14.out.kind hg15 B14.out (by decide)
      have HW15:Hid (_=W15):=hW15;have x7:=B14.out.box.c 7 rfl;have xf:=B14.out.box.f;clear hW15 hg15 M15 FB14 PF14 RW14 X14 GW14 R14 F13 X13 P13;go_wp2;rw[HW15.out]
      go_meet
      exact⟨(n:Int),vl13,L13,⟨da,dn,dc⟩,_,_,rfl,rfl,F15.out,LL13.out,X15.out,(show _/\_ from⟨FI.out.1.block (more:=true) (by rw[FI.out.2.2];exact hn) HUF.out.1 HUF.out.2,HDL.out⟩)⟩
     have hye:(y == 1)=false:=by simp[hy]
     clear hy;go_wp2
     go_meet
     exact⟨(n:Int),vl13,L13,sd6,_,_,rfl,rfl,F13.out,LL13.out,X13.out,(show _/\_ from⟨FI.out.1.block (more:=false) (by rw[FI.out.2.2];exact hn) HUF.out.1 HUF.out.2,HDL.out⟩)⟩
   obtain⟨bx,vl9,L9,sd9,db9,dq9,rfl,rfl,F9,LL9,X9,FI9⟩:=hcut;clear F8 LL8 X8;have y1:=F9.out.box.box.c 1 rfl;have HBL:Hid (bl.length=k3):=show _=_ from FI.out.2.1
   have HSW:Hid (pf+1<=wc.heap.size):=F9.out.box.box.lt
   go_wp2_with (at_builtin;refine zB (E:=blE) rfl (.tmp 155) (.tmp 157) rfl (pf+1) _ bl rfl (F9.out.row.grew (za _ _)) _ [bx] rfl (jT blE wc bx _ _ rfl (by decide)) ?qb ?qc ?_)
   case qb=>
    rw[HBL.out]
    show(k3+1)*8<=_
    omega
   case qc=>exact nT HSW.out (bS (za _ _))
   intro v4 W14 ow4 gr4;obtain⟨a4,c4,rfl⟩:=ow4.form;obtain⟨N4,hN4⟩:∃N4,(bl++ [bx]).length=N4:=⟨_,rfl⟩;rw[hN4]at ow4⊢;clear hN4;obtain⟨WX,hWX⟩:∃WX,wc.alloc (.cells #[.int .i64 bx] 3)=WX:=⟨_,rfl⟩;have gX:=gP hWX
   have gr4':WX.grownBy W14 (Value.slice bs.a bs.n bs.c).ownBlock:=by rw[<-hWX];exact gr4
   clear gr4 hWX;obtain⟨b14,k14,f14⟩:=(F9.out.grew gX).addB gr4' ⟨a4,N4,c4⟩ ow4;have F14:Hid (FC w hi b (W14.setCell ⟨pf,1,none⟩ (.slice a4 N4 c4)) vl9 L9 ⟨⟨some ⟨gf,0,none⟩,nf,nf⟩,⟨some ⟨gl,0,none⟩,ns,ns⟩,⟨some ⟨gsb,0,none⟩,ns,ns⟩,zw,⟨some ⟨gdb,0,none⟩,nb,nb⟩,sd9,sf,zw,zw⟩ ⟨List.replicate nf frF,0,List.replicate ns 0,List.replicate ns zz,[],db9,dq9,fl,nb,[],[]⟩ pf sz ⟨a4,N4,c4⟩ (bl++ [bx])):=f14;have X14:Hid (zp (W14.setCell ⟨pf,1,none⟩ (.slice a4 N4 c4)) w.heap.size 41 [.slice none 0 0,.int .i64 0,.slice none 0 0,.slice none 0 0,.slice none 0 0,.slice none 0 0,.slice none 0 0,.slice none 0 0,.int .i64 0,.slice none 0 0,.slice none 0 0]):=k14 _ _ _ (by decide) (by decide) (X9.out.grew gX)
   have B14:Hid (zp W14 pf 88 [.int .i64 sz,.slice bs.a bs.n bs.c]):=b14;clear b14 k14 f14 gr4' ow4 gX y1 F9 X9 HSW;have y1:=B14.out.box.c 1 rfl;have yf:=B14.out.box.f;go_wp2
   go_roundg (N3 -(k3+1))
   case measure=>omega
   exact⟨k3+1,vl9,L9,sd9,⟨a4,N4,c4⟩,db9,dq9,bl++ [bx],by omega,by omega,by go_num,F14.out,LL9.out,X14.out,(show _/\_ from⟨FI9.out.1,by rw[lA,HBL.out];rfl,FI9.out.2⟩)⟩
  have hltz3:¬(k3:Int)< (N3:Int):=by omega
  obtain rfl:k3=N3:=by omega
  go_upto_region 31 with fail;obtain⟨xs,q1,q2,q3⟩:=FX.out.fb;have HX:Hid (zb fvE w.heap.size wr (.slice sf.a sf.n sf.c) xs):=q1;have HXL:Hid (xs.length=fl.length):=show _=_ from q2
  have HX3:Hid (∀(i:Nat) x f,xs[i]? =some x->fl[i]? =some f->x.size=f.size/\zb blE hi wr x.v f.bl):=show∀i,_ from fun i x f hx hf=>(q3 i x f hx hf).1
  clear q1 q2 q3;obtain⟨fx,HFX⟩:∃fx:FlV,Hid (fx=⟨sz,bs.a,bs.n,bs.c⟩):=⟨_,rfl⟩;obtain⟨I,HI⟩:∃I:World->Prop,Hid (∀u,I u↔zp u b 98 [.slice vl6.a vl6.n vl6.c,.slice (some ⟨gf,0,none⟩) nf nf,.int .i64 0,.slice (some ⟨gl,0,none⟩) ns ns,.slice (some ⟨gsb,0,none⟩) ns ns,.slice none 0 0,.slice (some ⟨gdb,0,none⟩) nb nb,.slice sd6.a sd6.n sd6.c,.slice sf.a sf.n sf.c,.int .i64 (nb:Int),.slice none 0 0,.slice none 0 0,.slice none 0 0]/\zp u pf 88 [.int .i64 sz,.slice bs.a bs.n bs.c]):=⟨fun u=>zp u b 98 [.slice vl6.a vl6.n vl6.c,.slice (some ⟨gf,0,none⟩) nf nf,.int .i64 0,.slice (some ⟨gl,0,none⟩) ns ns,.slice (some ⟨gsb,0,none⟩) ns ns,.slice none 0 0,.slice (some ⟨gdb,0,none⟩) nb nb,.slice sd6.a sd6.n sd6.c,.slice sf.a sf.n sf.c,.int .i64 (nb:Int),.slice none 0 0,.slice none 0 0,.slice none 0 0]/\zp u pf 88 [.int .i64 sz,.slice bs.a bs.n bs.c],fun _=>Iff.rfl⟩
  have hI0:I wr.drew:=(HI.out _).2 ⟨FX.out.mm.box.grew (gW _),FX.out.box.grew (gW _)⟩
  have hx8:∀y:zr I,y.world.cell? ⟨b,8,none⟩=some (.slice sf.a sf.n sf.c):=fun y=>((HI.out _).1 y.holds).1.box.c 8 rfl
  have hp0:∀y:zr I,y.world.cell? ⟨pf,0,none⟩=some (.int .i64 sz):=fun y=>((HI.out _).1 y.holds).2.box.c 0 rfl
  have hp1:∀y:zr I,y.world.cell? ⟨pf,1,none⟩=some (.slice bs.a bs.n bs.c):=fun y=>((HI.out _).1 y.holds).2.box.c 1 rfl
  have hne:Nonempty (zr I):=⟨⟨_,hI0⟩⟩;refine zR (I:=I) 14 [(8,fun v=>∃g,v= .slice (some ⟨g,0,none⟩) 1 1),(9,fun v=>∃a n c,v= .slice a n c)] (fun u=>zc wr u) hI0 (gW _) qy (by kernel_rfl) rfl rfl (by decide) ?hS (by kernel_rfl) ?_
  case hS=>
   intro x hx;simp only[mC,nM,or_false]at hx
   rcases hx with rfl | rfl
   ·exact⟨_,0,rfl⟩
   exact⟨_,none,0,0,rfl⟩
  simp only[List.take,List.drop];iterate 2 (refine zi rfl rfl rfl (fun K hK=>?_);go_big_quiet_op;refine hK _ ?_;clear hK K)
  refine zS (.tmp 162) ⟨b,0,none⟩ rfl rfl rfl rfl ?_;simp only[Act.put,sB,sS,sZ];iterate 5 (refine zi rfl rfl rfl (fun K hK=>?_);go_big_quiet_op;refine hK _ ?_;clear hK K)
  refine qA rfl rfl (fun v u=>zc wr u/\zo fvE u v [fx]) (fun w' hI' hF'=>?_) (fun v1 hv=>?_)
  ·exact zL.step (v:= .slice (some ⟨w'.heap.size,0,none⟩) 1 1) (w':=w'.alloc (.cells #[.int .i64 sz,.slice bs.a bs.n bs.c] 88)) (by simp only[execOp];go_simp) ⟨(HI.out _).2 ⟨((HI.out _).1 hI').1.grew (za _ _),((HI.out _).1 hI').2.grew (za _ _)⟩,⟨_,rfl⟩,hF'.trans (za _ _),jT fvE w' fx _ _ (by rw[HFX.out];rfl) (by decide)⟩
  obtain⟨g5,rfl⟩:=hv;simp only[Act.put,sB,sS,sZ];refine qA rfl rfl (fun v u=>∃u0,zc wr u0/\u0.grownBy u (Value.slice sf.a sf.n sf.c).ownBlock/\zb fvE w.heap.size u v (xs++ [fx])) (fun w' hI' hF'=>?_) (fun v1 hv=>?_)
  ·obtain⟨hg',hrw⟩:=hF';obtain⟨v',w2,hrun,ho,hgr,-⟩:=qe (E:=fvE) (w:=w') 35 (HX.out.grew hg') (.slice (some ⟨g5,0,none⟩) 1 1) [fx] hrw (by have:=HXL.out;have:=HFL.out;rw[HXL.out];show(fl.length+1)*32<=_;omega) (nT (bS FX.out.mm.gr) (bS hg'))
   obtain⟨a',c',rfl⟩:=ho.form;have hbx:I w2:=by
    cases hob:(Value.slice sf.a sf.n sf.c).ownBlock with
    | none=>
     rw[hob]at hgr;exact(HI.out _).2 ⟨((HI.out _).1 hI').1.grew (qf hgr),((HI.out _).1 hI').2.grew (qf hgr)⟩
    | some gq=>
     rw[hob]at hgr;obtain⟨cs,hc⟩:=(HX.out.grew hg').obj hob;have hlt:=FX.out.fn gq hob;exact(HI.out _).2 ⟨((HI.out _).1 hI').1.kind hgr hc (by decide),((HI.out _).1 hI').2.beside hgr (fun k e=>by cases e;omega)⟩
   refine zL.step (v:= .slice a' (xs++ [fx]).length c') (w':=w2) ?_ ⟨hbx,⟨a',_,c',rfl⟩,w',hg',hgr,ho⟩;simp only[execOp,resolve,invoke,builtin,pure_bind,Sem.run_bind,Sem.run_pure,List.map_toArray,mP,List.map_nil];exact Eq.trans (congrArg (fun r=>Result.andThen r (fun a w'=>Result.ok (Next.value a) w')) hrun) rfl
  obtain⟨fa,fn,fc,rfl⟩:=hv;simp only[Act.put,sB,sS,sZ];refine zS (.tmp 161) ⟨b,0,none⟩ rfl rfl rfl rfl ?_;simp only[Act.put,sB,sS,sZ];iterate 3 (refine zi rfl rfl rfl (fun K hK=>?_);go_big_quiet_op;refine hK _ ?_;clear hK K)
  refine ja fun W14 hI14 hF14=>?_
  obtain⟨u0,g0,gr14,op14⟩:=hF14;have B14:Hid (zp W14 b 98 [.slice vl6.a vl6.n vl6.c,.slice (some ⟨gf,0,none⟩) nf nf,.int .i64 0,.slice (some ⟨gl,0,none⟩) ns ns,.slice (some ⟨gsb,0,none⟩) ns ns,.slice none 0 0,.slice (some ⟨gdb,0,none⟩) nb nb,.slice sd6.a sd6.n sd6.c,.slice sf.a sf.n sf.c,.int .i64 (nb:Int),.slice none 0 0,.slice none 0 0,.slice none 0 0]):=((HI.out _).1 hI14).1;have R14:Hid (MkR w.heap.size hi W14 ⟨⟨some ⟨gf,0,none⟩,nf,nf⟩,⟨some ⟨gl,0,none⟩,ns,ns⟩,⟨some ⟨gsb,0,none⟩,ns,ns⟩,zw,⟨some ⟨gdb,0,none⟩,nb,nb⟩,sd6,⟨fa,fn,fc⟩,zw,zw⟩ ⟨List.replicate nf frF,0,List.replicate ns 0,List.replicate ns zz,[],db6,dq6,fl++ [⟨sz,bl⟩],nb,[],[]⟩ zw []):=(FX.out.mm.rows.grew g0).addFl (HX.out.grew g0) HXL.out (fun i x f hx hf=>⟨(HX3.out i x f hx hf).1,(HX3.out i x f hx hf).2.grew g0⟩) gr14 ⟨fa,fn,fc⟩ (x:=fx) (f:=⟨sz,bl⟩) (by rw[HFX.out]) (by rw[HFX.out];exact(FX.out.row.grew g0).base (by have:=FX.out.hp;omega)) op14
  have hk14:zc w W14/\zp W14 w.heap.size 41 [.slice none 0 0,.int .i64 0,.slice none 0 0,.slice none 0 0,.slice none 0 0,.slice none 0 0,.slice none 0 0,.slice none 0 0,.int .i64 0,.slice none 0 0,.slice none 0 0]:=by
   cases hob:(Value.slice sf.a sf.n sf.c).ownBlock with
   | none=>
    rw[hob]at gr14;exact⟨(FX.out.mm.gr.trans g0).trans (qf gr14),(XX.out.grew g0).grew (qf gr14)⟩
   | some gq=>
    rw[hob]at gr14;obtain⟨cs,hc⟩:=(HX.out.grew g0).obj hob;exact⟨zg (FX.out.mm.gr.trans g0) gr14 ((HX.out.grew g0).lt gq hob).1,(XX.out.grew g0).kind gr14 hc (by decide)⟩
  obtain⟨e1,e5⟩:=hk14;have hg15:=jc W14 b 8 (.slice fa fn fc);have M15:Hid (Mk w hi (W14.setCell ⟨b,8,none⟩ (.slice fa fn fc)) b vl6 L6 ⟨⟨some ⟨gf,0,none⟩,nf,nf⟩,⟨some ⟨gl,0,none⟩,ns,ns⟩,⟨some ⟨gsb,0,none⟩,ns,ns⟩,zw,⟨some ⟨gdb,0,none⟩,nb,nb⟩,sd6,⟨fa,fn,fc⟩,zw,zw⟩ ⟨List.replicate nf frF,0,List.replicate ns 0,List.replicate ns zz,[],db6,dq6,fl++ [⟨sz,bl⟩],nb,[],[]⟩ zw []):=show Mk _ _ _ _ _ _ _ _ _ _ from⟨zg e1 hg15 FX.out.mm.hb,FX.out.mm.hb,B14.out.set 8 _,FX.out.mm.lr,FX.out.mm.lc,FX.out.mm.lb,R14.out.var hg15 B14.out hg15.size (.inl rfl)⟩
  have X15:Hid (zp (W14.setCell ⟨b,8,none⟩ (.slice fa fn fc)) w.heap.size 41 [.slice none 0 0,.int .i64 0,.slice none 0 0,.slice none 0 0,.slice none 0 0,.slice none 0 0,.slice none 0 0,.slice none 0 0,.int .i64 0,.slice none 0 0,.slice none 0 0]):=e5.kind hg15 B14.out (by decide)
  have FI15:Hid (zcD (fl++ [⟨sz,bl⟩]) nb db6 dq6 []/\(fl++ [(⟨sz,bl⟩:Fl)]).length<=k2+1/\db6.length=nb/\∀f∈fl++ [(⟨sz,bl⟩:Fl)],f.size<40):=show _/\_ from⟨FI.out.1.file (by have:=HFL.out;omega) (by have:=HSZ.out;omega) (by rw[FI.out.2.1,HN3.out]),by have:=HFL.out;simp;omega,FI.out.2.2,fun f hf=>by
   rcases List.mem_append.1 hf with hf | hf
   ·exact HF40.out f hf
   simp only[mC,nM,or_false]at hf;rw[hf];exact HSZ.out.2⟩
  clear u0 g0 gr14 op14 e1 e5 hg15 hI14 hI0 HI hx8 hp0 hp1 hne R14 FX XX HX HXL HX3 HFX;have x8:=B14.out.box.c 8 rfl;have xf:=B14.out.box.f;go_wp2
  go_roundg (c -(k2+1))
  case measure=>omega
  exact⟨k2+1,vl6,L6,sd6,⟨fa,fn,fc⟩,db6,dq6,fl++ [(⟨sz,bl⟩:Fl)],by omega,by omega,by go_num,M15.out,LX.out,X15.out,FI15.out,(fun h=>absurd h (Nat.succ_ne_zero _))⟩
 have hltz2:¬(k2:Int)< (c:Int):=by omega
 have BI:Hid (qO ⟨List.replicate nf frF,0,List.replicate ns 0,List.replicate ns zz,[],db,dq,fl,nb,[],[]⟩ []):=FW.out.1.start hnf40 hns60 0;have HFL2:Hid (fl.length<=2/\∀f∈fl,f.size<40):=show _/\_ from⟨by have:=FW.out.2.1;omega,FW.out.2.2.2⟩
 have HE0:Hid (L=[]->fl=[]/\dq=[]/\db=List.replicate nb zz):=show _->_ from fun e=>ZW.out (by have:=HC0.out e;omega)
 have hpk3:=qk 2 MW.out;go_wp2_with fail;refine hpk3.mono ?_;clear hpk3;rintro e W4 ⟨vl4,L4,y,rfl,mk4,gr4,-,s0,s1,s2,ll4⟩;obtain⟨n5,hn5⟩:∃n5:Nat,1+y=(n5:Int):=⟨(1+y).toNat,by omega⟩
 have hn52:n5<=2:=by rcases s1 with h | h <;> omega
 have hn51:1<=n5:=by omega
 have HN1:Hid (L=[]->n5=1):=show _->_ from fun e=>by have:=s2 (LW.out e);omega
 have M4:Hid (Mk w hi W4 b vl4 L4 ⟨⟨some ⟨gf,0,none⟩,nf,nf⟩,⟨some ⟨gl,0,none⟩,ns,ns⟩,⟨some ⟨gsb,0,none⟩,ns,ns⟩,zw,⟨some ⟨gdb,0,none⟩,nb,nb⟩,sd,sf,zw,zw⟩ ⟨List.replicate nf frF,0,List.replicate ns 0,List.replicate ns zz,[],db,dq,fl,nb,[],[]⟩ zw []):=mk4;have X4:Hid (zp W4 w.heap.size 41 [.slice none 0 0,.int .i64 0,.slice none 0 0,.slice none 0 0,.slice none 0 0,.slice none 0 0,.slice none 0 0,.slice none 0 0,.int .i64 0,.slice none 0 0,.slice none 0 0]):=XW.out.beside gr4 (fun g e=>by cases e;have:=HBB.out;omega)
 have LL4:=dD (LW.out.trans ll4);clear mk4 gr4 ll4 MW XW LW s0 s1 s2;go_wp2
 go_loopg [179] n5 (fun gg s179 wr=>∃(k5:Nat) (vl':Sli) (L':List Int) (V':MaV) (m':Ma) (vt':Sli) (T':List (Nat->En)),k5<=n5/\n5 - k5<=gg/\s179= .int .i64 k5/\Hid (Mk w hi wr b vl' L' V' m' vt' T')/\Hid (ZC L L')/\Hid (zp wr w.heap.size 41 [.slice none 0 0,.int .i64 0,.slice none 0 0,.slice none 0 0,.slice none 0 0,.slice none 0 0,.slice none 0 0,.slice none 0 0,.int .i64 0,.slice none 0 0,.slice none 0 0])/\Hid (qO m' T')/\Hid (m'.sp.length=k5/\(∀s∈m'.sp,jn m'.fl.length s.ars/\jQ s.ars 64<=12)/\m'.hand=0/\m'.fs.length=nf/\(m'.fl.length<=2/\∀f∈m'.fl,f.size<40))/\Hid (L=[]->m'=zdW nf ns nb k5/\T'=List.replicate k5 (fun _=>en0)))
 case atStart=>exact⟨0,vl4,L4,_,_,_,_,nZ _,by omega,rfl,M4.out,LL4.out,X4.out,BI.out,(show _/\_ from⟨rfl,fun s hs=>(by cases hs),rfl,lR,HFL2.out⟩),(show _->_ from fun e=>by obtain⟨a1,a2,a3⟩:=HE0.out e;rw[a1,a2,a3];exact⟨rfl,rfl⟩)⟩
 obtain⟨k5,vl5,L5,V5,m5,vt5,T5,hk5,hg5,rfl,MX,LX,XX,BX5,S5,E5⟩:=hrel;clear M4 X4 LL4 BI;have HL5:Hid (m5.sp.length=k5):=S5.out.1
 by_cases hlt5:k5<n5
 ·have hltz5:(k5:Int)< (n5:Int):=by omega
  by_cases h1:k5=1
  ·subst h1;have HL1:Hid (L≠[]):=show _≠_ from fun e=>by have:=HN1.out e;omega
   have h1e:((((1:Nat):Int)) == 1)=true:=by decide
   have hpk4:=qk 2 MX.out;go_wp2_with fail;refine hpk4.mono ?_;clear hpk4;rintro e W7 ⟨vl7,L7,z,rfl,mk7,gr7,-,-,-,-,ll7⟩;have M7:Hid (Mk w hi W7 b vl7 L7 V5 m5 vt5 T5):=mk7;have X7:Hid (zp W7 w.heap.size 41 [.slice none 0 0,.int .i64 0,.slice none 0 0,.slice none 0 0,.slice none 0 0,.slice none 0 0,.slice none 0 0,.slice none 0 0,.int .i64 0,.slice none 0 0,.slice none 0 0]):=XX.out.beside gr7 (fun g e=>by cases e;have:=HBB.out;omega)
   have LL7:=dD (LX.out.trans ll7);clear mk7 gr7 ll7 MX XX LX;obtain⟨MX,LX,XX⟩:Hid (Mk w hi W7 b vl7 L7 V5 m5 vt5 T5)/\Hid (ZC L L7)/\Hid (zp W7 w.heap.size 41 [.slice none 0 0,.int .i64 0,.slice none 0 0,.slice none 0 0,.slice none 0 0,.slice none 0 0,.slice none 0 0,.slice none 0 0,.int .i64 0,.slice none 0 0,.slice none 0 0]):=⟨M7,LL7,X7⟩;clear M7 LL7 X7
   by_cases hz:z=1
   ·have hze:(z == 1)=true:=by simp[hz]
    clear hz;obtain⟨s0,hs0⟩:=List.length_eq_one_iff.1 HL5.out;have HS0:Hid (m5.sp=[s0]):=hs0;clear hs0;have hfk:=zjd s0 MX.out BX5.out HS0.out;go_wp2_with fail;refine hfk.mono ?_;clear hfk;rintro e W9 ⟨⟨v,rfl⟩,V9,m9,vt9,T9,q1,q3,q4,⟨q5,q6,q7,q8⟩⟩;have M9:Hid (Mk w hi W9 b vl7 L7 V9 m9 vt9 T9):=q1;have X9:Hid (zp W9 w.heap.size 41 [.slice none 0 0,.int .i64 0,.slice none 0 0,.slice none 0 0,.slice none 0 0,.slice none 0 0,.slice none 0 0,.slice none 0 0,.int .i64 0,.slice none 0 0,.slice none 0 0]):=q3.1 _ _ _ XX.out zc6;have B9:Hid (qO m9 T9):=q4;have S9:Hid (m9.sp.length=1+1/\(∀s∈m9.sp,jn m9.fl.length s.ars/\jQ s.ars 64<=12)/\m9.hand=0/\m9.fs.length=nf/\(m9.fl.length<=2/\∀f∈m9.fl,f.size<40)):=show _/\_ from⟨by rw[q5,HS0.out];rfl,fun s hs=>by
     rw[q5]at hs;rw[q6]
     rcases List.mem_append.1 hs with hs | hs
     ·exact S5.out.2.1 s hs
     simp only[mC,nM,or_false]at hs;rw[hs];exact S5.out.2.1 s0 (by rw[HS0.out];simp),q7.trans S5.out.2.2.1,q8.trans S5.out.2.2.2.1,by rw[q6];exact S5.out.2.2.2.2⟩
    have E9:Hid (L=[]->m9=zdW nf ns nb (1+1)/\T9=List.replicate (1+1) (fun _=>en0)):=show _->_ from fun e=>absurd e HL1.out
    clear q1 q3 q4 q5 q6 q7 q8;go_wp2
    go_roundg (n5 -(1+1))
    case measure=>omega
    exact⟨1+1,vl7,L7,V9,m9,vt9,T9,by omega,by omega,by go_num,M9.out,LX.out,X9.out,B9.out,S9.out,E9.out⟩
   have hze:(z == 1)=false:=by simp[hz]
   clear hz;have hsp:=zdC MX.out BX5.out (by rw[HL5.out];omega)
   go_wp2_with fail;refine hsp.mono ?_;clear hsp;rintro e W9 ⟨⟨v,rfl⟩,vl9,L9,V9,m9,vt9,T9,l9,q1,q2,q3,q4,⟨q5,q6,q7,q8⟩,q9,q10⟩;have M9:Hid (Mk w hi W9 b vl9 L9 V9 m9 vt9 T9):=q1;have LL9:=dD (LX.out.trans q2);have X9:Hid (zp W9 w.heap.size 41 [.slice none 0 0,.int .i64 0,.slice none 0 0,.slice none 0 0,.slice none 0 0,.slice none 0 0,.slice none 0 0,.slice none 0 0,.int .i64 0,.slice none 0 0,.slice none 0 0]):=q3.1 _ _ _ XX.out zc6;have B9:Hid (qO m9 T9):=q4;have S9:Hid (m9.sp.length=1+1/\(∀s∈m9.sp,jn m9.fl.length s.ars/\jQ s.ars 64<=12)/\m9.hand=0/\m9.fs.length=nf/\(m9.fl.length<=2/\∀f∈m9.fl,f.size<40)):=show _/\_ from⟨by rw[q5,lA,HL5.out];rfl,fun s hs=>by
    rw[q5]at hs;rw[q6]
    rcases List.mem_append.1 hs with hs | hs
    ·exact S5.out.2.1 s hs
    simp only[mC,nM,or_false]at hs;rw[hs];exact q9,q7.trans S5.out.2.2.1,q8.trans S5.out.2.2.2.1,by rw[q6];exact S5.out.2.2.2.2⟩
   have E9:Hid (L=[]->m9=zdW nf ns nb (1+1)/\T9=List.replicate (1+1) (fun _=>en0)):=show _->_ from fun e=>absurd e HL1.out
   clear q1 q2 q3 q4 q5 q6 q7 q8 q9 q10;go_wp2
   go_roundg (n5 -(1+1))
   case measure=>omega
   exact⟨1+1,vl9,L9,V9,m9,vt9,T9,by omega,by omega,by go_num,M9.out,LL9.out,X9.out,B9.out,S9.out,E9.out⟩
  obtain rfl:k5=0:=by omega
  have h1e:((((0:Nat):Int)) == 1)=false:=by decide
  have hsp:=zdC MX.out BX5.out (by rw[HL5.out];omega)
  go_wp2_with fail;refine hsp.mono ?_;clear hsp;rintro e W9 ⟨⟨v,rfl⟩,vl9,L9,V9,m9,vt9,T9,l9,q1,q2,q3,q4,⟨q5,q6,q7,q8⟩,q9,q10⟩;have M9:Hid (Mk w hi W9 b vl9 L9 V9 m9 vt9 T9):=q1;have LL9:=dD (LX.out.trans q2);have X9:Hid (zp W9 w.heap.size 41 [.slice none 0 0,.int .i64 0,.slice none 0 0,.slice none 0 0,.slice none 0 0,.slice none 0 0,.slice none 0 0,.slice none 0 0,.int .i64 0,.slice none 0 0,.slice none 0 0]):=q3.1 _ _ _ XX.out zc6;have B9:Hid (qO m9 T9):=q4;have S9:Hid (m9.sp.length=0+1/\(∀s∈m9.sp,jn m9.fl.length s.ars/\jQ s.ars 64<=12)/\m9.hand=0/\m9.fs.length=nf/\(m9.fl.length<=2/\∀f∈m9.fl,f.size<40)):=show _/\_ from⟨by rw[q5,lA,HL5.out];rfl,fun s hs=>by
   rw[q5]at hs;rw[q6]
   rcases List.mem_append.1 hs with hs | hs
   ·exact S5.out.2.1 s hs
   simp only[mC,nM,or_false]at hs;rw[hs];exact q9,q7.trans S5.out.2.2.1,q8.trans S5.out.2.2.2.1,by rw[q6];exact S5.out.2.2.2.2⟩
  have E9:Hid (L=[]->m9=zdW nf ns nb (0+1)/\T9=List.replicate (0+1) (fun _=>en0)):=show _->_ from fun e=>by
   obtain⟨a1,a2⟩:=q10 (LX.out e);obtain⟨b1,b2⟩:=E5.out e;rw[b1]at a1;rw[b2]at a2;exact⟨a1,a2⟩
  clear q1 q2 q3 q4 q5 q6 q7 q8 q9 q10;go_wp2
  go_roundg (n5 -(0+1))
  case measure=>omega
  exact⟨0+1,vl9,L9,V9,m9,vt9,T9,by omega,by omega,by go_num,M9.out,LL9.out,X9.out,B9.out,S9.out,E9.out⟩
 have hltz5:¬(k5:Int)< (n5:Int):=by omega
 obtain⟨ys0,z1,z2,-⟩:=MX.out.rows.sp;have HN5:Hid (V5.sp.n=k5):=show _=_ by rw[z1.n,z2,HL5.out]
 obtain⟨ht,HHT⟩:∃ht,Hid (wr.heap.size=ht):=⟨_,rfl⟩;have HBT:Hid (b<ht):=show _<_ by rw[<-HHT.out];exact MX.out.box.box.lt
 have HXT:Hid (w.heap.size<ht):=show _<_ by rw[<-HHT.out];exact XX.out.box.lt
 have HZ1:Hid (∀g,(Value.slice V5.sp.a V5.sp.n V5.sp.c).ownBlock=some g->g<ht):=show∀g,_ from fun g hg=>by rw[<-HHT.out];exact(z1.lt g hg).2
 have NX:Hid (zid w wr b vl5 L5 [.slice V5.f.a V5.f.n V5.f.c,.int .i64 m5.hand,.slice V5.s.a V5.s.n V5.s.c,.slice V5.sb.a V5.sb.n V5.sb.c,.slice V5.sq.a V5.sq.n V5.sq.c,.slice V5.db.a V5.db.n V5.db.c,.slice V5.dq.a V5.dq.n V5.dq.c,.slice V5.fl.a V5.fl.n V5.fl.c,.int .i64 m5.cnt,.slice V5.ca.a V5.ca.n V5.ca.c,.slice V5.sp.a V5.sp.n V5.sp.c,.slice vt5.a vt5.n vt5.c]):=MX.out.nums;have TX:Hid (MkT w.heap.size hi ht 0 wr V5 m5 vt5 T5):=MX.out.rows.start ht HHT.out;have HTL:Hid (T5.length=k5):=show _=_ by rw[BX5.out.tl,HL5.out]
 have HK:Hid (∀(p:Nat) f,T5[p]? =some f->∀e∈tab f,0<=e.kind):=show∀p,_ from fun p f hf e he=>by
  obtain⟨j,hj⟩:=List.getElem?_of_mem he;have hj64:j<64:=by have:=(gS.1 hj).1;rw[Qa]at this;exact this
  rw[QO hj64]at hj;cases hj;have hp:p<m5.sp.length:=by rw[<-BX5.out.tl];exact(gS.1 hf).1
  rcases BX5.out.ent p _ f (gE hp) hf j hj64 with e | e
  ·rw[e];decide
  by_cases hk:(f j).kind=2
  ·omega
  have:=(qS e hk).1;omega
 have x11:=MX.out.box.box.c 11 rfl;rw[HN5.out]at x11;clear z1 z2 ys0;go_wp2;clear x11
 go_loopg [200] k5 (fun gg s200 wr=>∃p:Nat,p<=k5/\k5 - p<=gg/\s200= .int .i64 p/\Hid (MkT w.heap.size hi ht p wr V5 m5 vt5 T5)/\Hid (zid w wr b vl5 L5 [.slice V5.f.a V5.f.n V5.f.c,.int .i64 m5.hand,.slice V5.s.a V5.s.n V5.s.c,.slice V5.sb.a V5.sb.n V5.sb.c,.slice V5.sq.a V5.sq.n V5.sq.c,.slice V5.db.a V5.db.n V5.db.c,.slice V5.dq.a V5.dq.n V5.dq.c,.slice V5.fl.a V5.fl.n V5.fl.c,.int .i64 m5.cnt,.slice V5.ca.a V5.ca.n V5.ca.c,.slice V5.sp.a V5.sp.n V5.sp.c,.slice vt5.a vt5.n vt5.c])/\Hid (zp wr w.heap.size 41 [.slice none 0 0,.int .i64 0,.slice none 0 0,.slice none 0 0,.slice none 0 0,.slice none 0 0,.slice none 0 0,.slice none 0 0,.int .i64 0,.slice none 0 0,.slice none 0 0])/\Hid (ht<=wr.heap.size))
 case atStart=>exact⟨0,nZ _,by omega,rfl,TX.out,NX.out,XX.out,(show _<=_ by rw[HHT.out];exact nR _)⟩
 obtain⟨p,hp,hg6,rfl,TW,NW,XW,HW⟩:=hrel;clear TX NX XX
 by_cases hlt6:p<k5
 ·have hltz6:(p:Int)< (k5:Int):=by omega
  obtain⟨f,HF⟩:∃f,Hid (T5[p]? =some f):=⟨_,gE (by rw[HTL.out];exact hlt6)⟩
  obtain⟨ys,s1,s2,s3⟩:=TW.out.sp;have hyl:ys.length=k5:=by rw[s2,HL5.out]
  obtain⟨x,HX⟩:∃x,Hid (ys[p]? =some x):=⟨_,gE (by omega)⟩
  obtain⟨gs,cs,hse⟩:=s1.formS (by omega)
  rw[hyl]at hse;have HSE:Hid (Value.slice V5.sp.a V5.sp.n V5.sp.c=(.slice (some ⟨gs,0,none⟩) k5 cs)):=hse;obtain⟨gt,ct,hte⟩:=TW.out.tt.formS (by rw[HTL.out];omega)
  rw[HTL.out]at hte;have HTE:Hid (Value.slice vt5.a vt5.n vt5.c=(.slice (some ⟨gt,0,none⟩) k5 ct)):=hte;have S1:Hid (zb Zl w.heap.size wr (.slice (some ⟨gs,0,none⟩) k5 cs) ys):=show zb _ _ _ _ _ by rw[<-HSE.out];exact s1
  have R1:Hid (zb Qt w.heap.size wr (.slice (some ⟨gt,0,none⟩) k5 ct) T5):=show zb _ _ _ _ _ by rw[<-HTE.out];exact TW.out.tt
  have S2:Hid (ys.length=m5.sp.length):=s2;have S3:Hid (∀(i:Nat) x s f,ys[i]? =some x->m5.sp[i]? =some s->T5[i]? =some f->x.live=s.live/\zb arE w.heap.size wr x.ar.v s.ars/\(i<p->Jq 0 ht wr x.tab (j5 f))/\(p<=i->x.tab=zah)):=show∀i,_ from s3
  clear s1 s2 s3 hse hte hyl;go_upto_region 43 with fail;obtain⟨I,HI⟩:∃I:World->Prop,Hid (∀u,I u↔zc wr u):=⟨fun u=>zc wr u,fun _=>Iff.rfl⟩
  have hI0:I wr.drew:=(HI.out _).2 (gW _)
  have hx11:∀y:zr I,y.world.cell? ⟨b,11,none⟩=some (.slice (some ⟨gs,0,none⟩) k5 cs):=fun y=>by
   have:=(NW.out.box.box.grew ((HI.out _).1 y.holds)).c 11 rfl;rw[HSE.out]at this;exact this
  have hx12:∀y:zr I,y.world.cell? ⟨b,12,none⟩=some (.slice (some ⟨gt,0,none⟩) k5 ct):=fun y=>by
   have:=(NW.out.box.box.grew ((HI.out _).1 y.holds)).c 12 rfl;rw[HTE.out]at this;exact this
  have hne:Nonempty (zr I):=⟨⟨_,hI0⟩⟩;refine zR (I:=I) 16 [(13,fun v=>∃us:List Value,v= .agg us.toArray)] (fun _=>True) hI0 trivial qy (by kernel_rfl) rfl rfl (by decide) ?hS (by kernel_rfl) ?_
  case hS=>
   intro x hx;simp only[mC,nM,or_false]at hx;subst hx;exact⟨_,[],rfl⟩
  simp only[List.take,List.drop];iterate 1 (refine zi rfl rfl rfl (fun K hK=>?_);go_big_quiet_op;refine hK _ ?_;clear hK K)
  refine zS (.tmp 203) ⟨b,0,none⟩ rfl rfl rfl rfl ?_;simp only[Act.put,sB,sS,sZ];iterate 5 (refine zi rfl rfl rfl (fun K hK=>?_);go_big_quiet_op;refine hK _ ?_;clear hK K)
  refine zS (.tmp 209) ⟨b,0,none⟩ rfl rfl rfl rfl ?_;simp only[Act.put,sB,sS,sZ];iterate 4 (refine zi rfl rfl rfl (fun K hK=>?_);go_big_quiet_op;refine hK _ ?_;clear hK K)
  refine zi0 (.agg (qd (tab f)).toArray) rfl rfl (fun u hu=>zeQ (.tmp 214) rfl gt (p*192) rfl ((R1.out.grew ((HI.out _).1 hu)).range HF.out) (by rw[Zn,Qa])) ?_
  simp only[Act.put,sB,sS,sZ];refine qA rfl rfl (fun v u=>∃us:List Value,v= .agg us.toArray/\Jq 0 ht u us (j5 f)) (fun w' hI' _=>?_) (fun v1 hv=>?_)
  ·refine zL.call [.agg (qd (tab f)).toArray] rfl Tryz.func49 rfl rfl rfl ?_;refine(zeL (tab f) w' (Qa f) (HK.out p f HF.out)).mono ?_;rintro e w'' ⟨us,rfl,ht1,ht2⟩;exact⟨_,rfl,(HI.out _).2 (((HI.out _).1 hI').trans ht2),⟨us,rfl⟩,us,rfl,ht1.less (nR _) (nT HW.out (bS ((HI.out _).1 hI')))⟩
  obtain⟨us,rfl⟩:=hv;simp only[Act.put,sB,sS,sZ];iterate 2 (refine zi rfl rfl rfl (fun K hK=>?_);go_big_quiet_op;refine hK _ ?_;clear hK K)
  refine ja fun W1 hI1 hF1=>?_
  obtain⟨us',hus,ht1⟩:=hF1;have hue:us=us':=by
   simp only[Value.agg.injEq]at hus
   simpa using congrArg Array.toList hus
  subst hue;obtain⟨t0,t1,t2,t3,t4,t5,t6,t7,rfl⟩:=zg8 ht1;have g1:=(HI.out _).1 hI1;have T1:Hid (Jq 0 ht W1 [t0.v,t1.v,t2.v,t3.v,t4.v,t5.v,t6.v,t7.v] (j5 f)):=ht1;have G1:Hid (zc wr W1):=g1;clear hus ht1 g1 hI1 hI0 hx11 hx12 hne HI;refine zu (E:=Zl) rfl (.tmp 218) (.tmp 216) 53 rfl w.heap.size _ ys (S1.out.grew G1.out) gs p 2 rfl x ⟨x.live,x.ar,t0,t1,t2,t3,t4,t5,t6,t7⟩ HX.out [t0.v,t1.v,t2.v,t3.v,t4.v,t5.v,t6.v,t7.v] (by kernel_rfl) rfl (by show 2+8<=10;omega) (fun u hu=>by simp only[mC,nM,or_false]at hu;rcases hu with rfl | rfl | rfl | rfl | rfl | rfl | rfl | rfl <;> rfl) _ rfl (by first | rfl | simp) _ rfl rfl ?_
  intro W2 ow2 gr2 sz2;obtain⟨cs',hcs⟩:=(S1.out.grew G1.out).obj (g:=gs) rfl;have hgl:gs<ht:=HZ1.out gs (by rw[HSE.out];rfl)
  have T2:Hid (MkT w.heap.size hi ht (p+1) W2 V5 m5 vt5 T5):=(TW.out.grew G1.out).table S2.out (fun i x s f hx hs hf=>by
   obtain⟨a1,a2,a3,a4⟩:=S3.out i x s f hx hs hf;exact⟨a1,a2.grew G1.out,fun e=>(a3 e).grew G1.out,a4⟩) hcs hgl gr2 HX.out HF.out (y:=⟨x.live,x.ar,t0,t1,t2,t3,t4,t5,t6,t7⟩) ⟨rfl,rfl⟩ (T1.out.out (Out.grown gr2 (fun g e=>by cases e;exact⟨nZ _,hgl⟩))) (by rw[HSE.out];exact ow2)
  have N2:Hid (zid w W2 b vl5 L5 [.slice V5.f.a V5.f.n V5.f.c,.int .i64 m5.hand,.slice V5.s.a V5.s.n V5.s.c,.slice V5.sb.a V5.sb.n V5.sb.c,.slice V5.sq.a V5.sq.n V5.sq.c,.slice V5.db.a V5.db.n V5.db.c,.slice V5.dq.a V5.dq.n V5.dq.c,.slice V5.fl.a V5.fl.n V5.fl.c,.int .i64 m5.cnt,.slice V5.ca.a V5.ca.n V5.ca.c,.slice V5.sp.a V5.sp.n V5.sp.c,.slice vt5.a vt5.n vt5.c]):=show zid _ _ _ _ _ _ from⟨zg (NW.out.gr.trans G1.out) gr2 ((S1.out.grew G1.out).lt gs rfl).1,NW.out.hb,(NW.out.box.grew G1.out).beside gr2 (fun g e=>by cases e;exact(S1.out.grew G1.out).ne (NW.out.box.grew G1.out) (by decide) gs rfl),NW.out.lr,NW.out.lc,NW.out.lb⟩
  have X2:Hid (zp W2 w.heap.size 41 [.slice none 0 0,.int .i64 0,.slice none 0 0,.slice none 0 0,.slice none 0 0,.slice none 0 0,.slice none 0 0,.slice none 0 0,.int .i64 0,.slice none 0 0,.slice none 0 0]):=(XW.out.grew G1.out).beside gr2 (fun g e=>by cases e;exact(S1.out.grew G1.out).ne (XW.out.grew G1.out) (by decide) gs rfl)
  have H2:Hid (ht<=W2.heap.size):=show _<=_ by rw[sz2];exact nT HW.out (bS G1.out)
  clear ow2 gr2 sz2 hcs hgl;go_wp2
  go_roundg (k5 -(p+1))
  case measure=>omega
  exact⟨p+1,by omega,by omega,by go_num,T2.out,N2.out,X2.out,H2.out⟩
 have hltz6:¬(p:Int)< (k5:Int):=by omega
 obtain rfl:k5=p:=by omega
 have HSPL:Hid (1<=m5.sp.length/\m5.sp.length<=2):=show _/\_ by rw[HL5.out];omega
 by_cases h0:0<nf
 ·have h0d:decide ((0:Int)< (nf:Int))=true:=by simp;omega
  have hpk:=ziB (nf:Int) NW.out;go_wp2_with fail;refine hpk.mono ?_;clear hpk;rintro e W20 ⟨vl20,L20,y,rfl,nm20,gr20,-,y0,y1,yn,-⟩;have T20:Hid (MkT w.heap.size hi ht k5 W20 V5 m5 vt5 T5):=TW.out.other gr20 NW.out.box HBT.out (.inl rfl);have X20:Hid (zp W20 w.heap.size 41 [.slice none 0 0,.int .i64 0,.slice none 0 0,.slice none 0 0,.slice none 0 0,.slice none 0 0,.slice none 0 0,.slice none 0 0,.int .i64 0,.slice none 0 0,.slice none 0 0]):=XW.out.kind gr20 NW.out.box (by decide)
  have N20:Hid (zid w W20 b vl20 L20 [.slice V5.f.a V5.f.n V5.f.c,.int .i64 m5.hand,.slice V5.s.a V5.s.n V5.s.c,.slice V5.sb.a V5.sb.n V5.sb.c,.slice V5.sq.a V5.sq.n V5.sq.c,.slice V5.db.a V5.db.n V5.db.c,.slice V5.dq.a V5.dq.n V5.dq.c,.slice V5.fl.a V5.fl.n V5.fl.c,.int .i64 m5.cnt,.slice V5.ca.a V5.ca.n V5.ca.c,.slice V5.sp.a V5.sp.n V5.sp.c,.slice vt5.a vt5.n vt5.c]):=nm20;have HY:Hid (0<=y/\y<max (m5.fs.length:Int) 1):=show _/\_ from⟨y0,by rw[S5.out.2.2.2.1];omega⟩
  have HY0:Hid (L=[]->y=0):=show _->_ from fun e=>yn (LX.out e)
  clear nm20 gr20 y0 y1 yn TW XW;have x2:=N20.out.box.box.c 2 rfl;have xf:=N20.out.box.box.f;go_upto_region 47 with fail;clear x2 xf;obtain⟨W21,hW21⟩:∃W21,W20.setCell ⟨b,2,none⟩ (.int .i64 y)=W21:=⟨_,rfl⟩;have hg21:W20.grownBy W21 (some b):=by rw[<-hW21];exact jc _ _ _ _
  have B21:Hid (zp W21 b 98 [.slice vl20.a vl20.n vl20.c,.slice V5.f.a V5.f.n V5.f.c,.int .i64 y,.slice V5.s.a V5.s.n V5.s.c,.slice V5.sb.a V5.sb.n V5.sb.c,.slice V5.sq.a V5.sq.n V5.sq.c,.slice V5.db.a V5.db.n V5.db.c,.slice V5.dq.a V5.dq.n V5.dq.c,.slice V5.fl.a V5.fl.n V5.fl.c,.int .i64 m5.cnt,.slice V5.ca.a V5.ca.n V5.ca.c,.slice V5.sp.a V5.sp.n V5.sp.c,.slice vt5.a vt5.n vt5.c]):=show zp _ _ _ _ by rw[<-hW21];exact N20.out.box.set 2 _
  have T21:Hid (MkT w.heap.size hi ht k5 W21 V5 m5 vt5 T5):=T20.out.other hg21 N20.out.box HBT.out (.inl rfl);have X21:Hid (zp W21 w.heap.size 41 [.slice none 0 0,.int .i64 0,.slice none 0 0,.slice none 0 0,.slice none 0 0,.slice none 0 0,.slice none 0 0,.slice none 0 0,.int .i64 0,.slice none 0 0,.slice none 0 0]):=X20.out.kind hg21 N20.out.box (by decide)
  have G21:Hid (zc w W21):=zg N20.out.gr hg21 N20.out.hb;rw[hW21];clear hW21 hg21 T20 X20 N20 NW;have c1:=B21.out.box.c 1 rfl;have c2:=B21.out.box.c 2 rfl;have c3:=B21.out.box.c 3 rfl;have c4:=B21.out.box.c 4 rfl;have c5:=B21.out.box.c 5 rfl;have c6:=B21.out.box.c 6 rfl;have c7:=B21.out.box.c 7 rfl;have c8:=B21.out.box.c 8 rfl;have c9:=B21.out.box.c 9 rfl;have c10:=B21.out.box.c 10 rfl;have c11:=B21.out.box.c 11 rfl
  go_wp2_with (refine qD rfl 41 (.tmp 8) (.tmp 233) rfl w.heap.size rfl [.slice V5.f.a V5.f.n V5.f.c,.int .i64 y,.slice V5.s.a V5.s.n V5.s.c,.slice V5.sb.a V5.sb.n V5.sb.c,.slice V5.sq.a V5.sq.n V5.sq.c,.slice V5.db.a V5.db.n V5.db.c,.slice V5.dq.a V5.dq.n V5.dq.c,.slice V5.fl.a V5.fl.n V5.fl.c,.int .i64 m5.cnt,.slice V5.ca.a V5.ca.n V5.ca.c,.slice V5.sp.a V5.sp.n V5.sp.c] rfl X21.out rfl zly (fun v hv=>by simp only[mC,nM,or_false]at hv;rcases hv with rfl | rfl | rfl | rfl | rfl | rfl | rfl | rfl | rfl | rfl | rfl <;> rfl) ?_)
  intro W22 hb22 hg22 _;have HRS:Hid (zfB w nf ns nb L W22 V5 m5 T5 y hi ht vt5):=show zfB _ _ _ _ _ _ _ _ _ _ _ _ _ from⟨zg G21.out hg22 (nR _),by rw[HL5.out];exact T21.out.other hg22 X21.out HXT.out (.inr rfl),BX5.out,HY.out,S5.out.2.1,S5.out.2.2.2.2,HSPL.out,S5.out.2.2.2.1,fun e=>by obtain⟨a1,a2⟩:=E5.out e;have h1:=HN1.out e;have h2:k5=1:=(by omega);rw[h2]at a1 a2;exact⟨a1,a2,HY0.out e⟩⟩
  have B22:Hid (Box W22 w.heap.size [.slice V5.f.a V5.f.n V5.f.c,.int .i64 y,.slice V5.s.a V5.s.n V5.s.c,.slice V5.sb.a V5.sb.n V5.sb.c,.slice V5.sq.a V5.sq.n V5.sq.c,.slice V5.db.a V5.db.n V5.db.c,.slice V5.dq.a V5.dq.n V5.dq.c,.slice V5.fl.a V5.fl.n V5.fl.c,.int .i64 m5.cnt,.slice V5.ca.a V5.ca.n V5.ca.c,.slice V5.sp.a V5.sp.n V5.sp.c]):=hb22.box;clear hb22 hg22;clear c1 c2 c3 c4 c5 c6 c7 c8 c9 c10 c11;go_wp2;refine bodyPost_ret (zW rfl _ rfl B22.out Tryz.underlying41 rfl zly) rfl ⟨V5,m5,T5,y,hi,ht,vt5,rfl,HRS.out⟩
 have h0d:decide ((0:Int)< (nf:Int))=false:=by simp;omega
 have B21:Hid (zp wr b 98 [.slice vl5.a vl5.n vl5.c,.slice V5.f.a V5.f.n V5.f.c,.int .i64 0,.slice V5.s.a V5.s.n V5.s.c,.slice V5.sb.a V5.sb.n V5.sb.c,.slice V5.sq.a V5.sq.n V5.sq.c,.slice V5.db.a V5.db.n V5.db.c,.slice V5.dq.a V5.dq.n V5.dq.c,.slice V5.fl.a V5.fl.n V5.fl.c,.int .i64 m5.cnt,.slice V5.ca.a V5.ca.n V5.ca.c,.slice V5.sp.a V5.sp.n V5.sp.c,.slice vt5.a vt5.n vt5.c]):=show zp _ _ _ _ by have:=NW.out.box;rw[S5.out.2.2.1]at this;exact this
 have G21:Hid (zc w wr):=NW.out.gr;have HY:Hid ((0:Int)<=0/\(0:Int)<max (m5.fs.length:Int) 1):=show _/\_ from⟨Int.le_refl _,by omega⟩
 have c1:=B21.out.box.c 1 rfl;have c2:=B21.out.box.c 2 rfl;have c3:=B21.out.box.c 3 rfl;have c4:=B21.out.box.c 4 rfl;have c5:=B21.out.box.c 5 rfl;have c6:=B21.out.box.c 6 rfl;have c7:=B21.out.box.c 7 rfl;have c8:=B21.out.box.c 8 rfl;have c9:=B21.out.box.c 9 rfl;have c10:=B21.out.box.c 10 rfl;have c11:=B21.out.box.c 11 rfl
 go_wp2_with (refine qD rfl 41 (.tmp 8) (.tmp 233) rfl w.heap.size rfl [.slice V5.f.a V5.f.n V5.f.c,.int .i64 0,.slice V5.s.a V5.s.n V5.s.c,.slice V5.sb.a V5.sb.n V5.sb.c,.slice V5.sq.a V5.sq.n V5.sq.c,.slice V5.db.a V5.db.n V5.db.c,.slice V5.dq.a V5.dq.n V5.dq.c,.slice V5.fl.a V5.fl.n V5.fl.c,.int .i64 m5.cnt,.slice V5.ca.a V5.ca.n V5.ca.c,.slice V5.sp.a V5.sp.n V5.sp.c] rfl XW.out rfl zly (fun v hv=>by simp only[mC,nM,or_false]at hv;rcases hv with rfl | rfl | rfl | rfl | rfl | rfl | rfl | rfl | rfl | rfl | rfl <;> rfl) ?_)
 intro W22 hb22 hg22 _;have HRS:Hid (zfB w nf ns nb L W22 V5 m5 T5 0 hi ht vt5):=show zfB _ _ _ _ _ _ _ _ _ _ _ _ _ from⟨zg G21.out hg22 (nR _),by rw[HL5.out];exact TW.out.other hg22 XW.out HXT.out (.inr rfl),BX5.out,HY.out,S5.out.2.1,S5.out.2.2.2.2,HSPL.out,S5.out.2.2.2.1,fun e=>by obtain⟨a1,a2⟩:=E5.out e;have h1:=HN1.out e;have h2:k5=1:=(by omega);rw[h2]at a1 a2;exact⟨a1,a2,rfl⟩⟩
 have B22:Hid (Box W22 w.heap.size [.slice V5.f.a V5.f.n V5.f.c,.int .i64 0,.slice V5.s.a V5.s.n V5.s.c,.slice V5.sb.a V5.sb.n V5.sb.c,.slice V5.sq.a V5.sq.n V5.sq.c,.slice V5.db.a V5.db.n V5.db.c,.slice V5.dq.a V5.dq.n V5.dq.c,.slice V5.fl.a V5.fl.n V5.fl.c,.int .i64 m5.cnt,.slice V5.ca.a V5.ca.n V5.ca.c,.slice V5.sp.a V5.sp.n V5.sp.c]):=hb22.box;clear hb22 hg22;clear c1 c2 c3 c4 c5 c6 c7 c8 c9 c10 c11;go_wp2;refine bodyPost_ret (zW rfl _ rfl B22.out Tryz.underlying41 rfl zly) rfl ⟨V5,m5,T5,0,hi,ht,vt5,rfl,HRS.out⟩
theorem zfB.at {w w':World} {nf ns nb hi ht:Nat} {L:List Int} {V:MaV} {m:Ma} {T:List (Nat->En)} {hd:Int} {vt:Sli} (h:zfB w nf ns nb L w' V m T hd hi ht vt):zC w' V (jC m T hd)/\maW (jC m T hd)=0:=⟨h.rows.mach h.inv.tl hd,h.inv.right h.hand.1 h.hand.2⟩
theorem zjR {k:Nat} (h:k<8):zah[k]? =some (.slice none 0 0):=by
 match k,h with
 | 0,_ | 1,_ | 2,_ | 3,_ | 4,_ | 5,_ | 6,_ | 7,_=>rfl
theorem zeP (vs:List Value) (t:List (List En)) (w:World) (hv:ZH w vs t):
  Calls Tryz.prog 61 #[.agg vs.toArray,.agg #[.slice none 0 0,.slice none 0 0,.slice none 0 0,.slice none 0 0,.slice none 0 0,.slice none 0 0,.slice none 0 0,.slice none 0 0]] w fun e w'=>e= .returned (.bool (t.all (·.isEmpty)))/\zc w w':=by
 have HV:Hid (ZH w vs t):=hv;have HTL:Hid (t.length=8):=hv.tlen;clear hv;obtain⟨ANS,HANS⟩:∃ANS,Hid (t.all (·.isEmpty)=ANS):=⟨_,rfl⟩;rw[HANS.out];obtain⟨W0,hW0⟩:∃W0,(w.alloc (.cells vs.toArray 53)).alloc (.cells zah.toArray 53)=W0:=⟨_,rfl⟩;have HG0:=gD2 hW0
 have X0:=x2a hW0
 have Y0:=x2b hW0
 have HW0:Hid (_=W0):=hW0;clear hW0
 go_enter Tryz.func61,Tryz.ntmps61
 go_upto_region 1 with fail;have hw:(w.alloc (.cells vs.toArray 53)).alloc (.cells #[.slice none 0 0,.slice none 0 0,.slice none 0 0,.slice none 0 0,.slice none 0 0,.slice none 0 0,.slice none 0 0,.slice none 0 0] 53)=W0:=HW0.out;rw[hw];clear hw;go_wp2
 go_loopg [7] 8 (fun gg s7 wr=>∃kk:Nat,kk<=8/\8 - kk<=gg/\s7= .int .i64 kk/\Hid (zc W0 wr)/\Hid (∀(j:Nat) h,j<kk->t[j]? =some h->h=[]))
 case atStart=>exact⟨0,nZ _,by omega,rfl,zc.refl _,fun j h hj=>absurd hj (nL _)⟩
 obtain⟨kk,hkk,hg,rfl,BW,OW⟩:=hrel
 by_cases hlt:kk<8
 ·have hltz:(kk:Int)<8:=by omega
  obtain⟨xa,xc,q,hq,hvk,hr⟩:=HV.out.half hlt;have hqbig:=hr.short;have HQ:Hid (t[kk]? =some q):=hq;obtain⟨mq,HMQ⟩:∃mq,Hid (q.length=mq):=⟨_,rfl⟩;rw[HMQ.out]at hvk hqbig;have HVK:Hid (vs[kk]? =some (.slice xa mq xc)):=hvk;clear hr hq hvk;have x0:=(X0.out.grew BW.out).c kk HVK.out;have y0:=(Y0.out.grew BW.out).c kk (zjR hlt)
  by_cases h0:mq=0
  ·subst h0;have OW':Hid (∀(j:Nat) h,j<kk+1->t[j]? =some h->h=[]):=show∀j,_ from fun j h hj hh=>by
    by_cases e:j=kk
    ·subst e;rw[HQ.out]at hh;cases hh;exact eN HMQ.out
    exact OW.out j h (by omega) hh
   go_wp2;go_quiet (fail);obtain⟨W2,hW2⟩:∃W2,wr.drewN nq=W2:=⟨_,rfl⟩;have G2:Hid (zc W0 W2):=show zc _ _ by rw[<-hW2];exact BW.out.trans (show Below _ _ _ from bD (bR _ _) _)
   rw[hW2];clear hW2 x0 y0;have x0:=(X0.out.grew G2.out).c kk HVK.out;go_wp2
   go_loopg [23] 0 (fun g2 s23 wr2=>s23= .int .i64 0/\Hid (zc W0 wr2))
   case atStart=>exact⟨rfl,G2.out⟩
   obtain⟨rfl,BW2⟩:=hrel;clear x0;go_wp2
   go_roundg (8 -(kk+1))
   case measure=>omega
   exact⟨kk+1,by omega,by omega,by go_num,BW2.out,OW'.out⟩
  have hne:((mq:Int) != 0)=true:=by simp[h0]
  have HF:Hid (ANS=false):=show _=_ by
   rw[<-HANS.out]
   cases e:t.all (·.isEmpty)with
   | false=>rfl
   | true=>
    have:=List.all_eq_true.1 e q (mG HQ.out);have h1:=HMQ.out;rw[List.isEmpty_iff]at this;rw[this]at h1;exact absurd h1.symm h0
  have hnf:(mq != 0)=true:=by simp[h0]
  clear h0;go_wp2;go_quiet (fail);go_wp2;go_ret;exact⟨by rw[HF.out];rfl,HG0.out.trans (BW.out.trans (show Below _ _ _ from bD (bR _ _) _))⟩
 have hltz:¬(kk:Int)<8:=by omega
 have HF:Hid (ANS=true):=show _=_ by
  rw[<-HANS.out,List.all_eq_true];intro h hh;obtain⟨j,hj⟩:=List.getElem?_of_mem hh;rw[OW.out j h (by have:=(gS.1 hj).1;have:=HTL.out;omega) hj]
  rfl
 go_wp2;go_ret;exact⟨by rw[HF.out];rfl,HG0.out.trans BW.out⟩
theorem zbs (a:Option Addr) (c:Nat) (fs:List Fr) (h:Int) (w:World) (hv:zY w (.slice a fs.length c) fs):
  Calls Tryz.prog 94 #[.agg #[.slice a fs.length c,.int .i64 h]] w fun e w'=>e= .returned (.int .i64 (Ze fs h))/\zc w w':=by
 have hbig:=hv.short;obtain⟨a',c',heq,hrow⟩:=hv.frs;cases heq;have HR:Hid (Qs w a fs):=hrow;clear hrow hv;have HM:Hid (Ze fs h=if 40<fs.length then 4 else if J5 fs=0 then(if inB h (max fs.length 1)then 0 else 3)else J5 fs):=rfl;obtain⟨n,HN⟩:∃n,Hid (fs.length=n):=⟨_,rfl⟩;rw[HN.out]at hbig HM⊢;obtain⟨W0,hW0⟩:∃W0,w.alloc (.cells #[.slice a n c,.int .i64 h] 28)=W0:=⟨_,rfl⟩;have HG0:=gA hW0
 have X0:=xA hW0
 have HW0:Hid (_=W0):=hW0;clear hW0
 by_cases h40:40<n
 ·have h40z:(40:Int)< (n:Int):=by omega
  go_enter Tryz.func94,Tryz.ntmps94
  go_wp2;go_ret;exact⟨by rw[HM.out,if_pos h40];rfl,by rw[HW0.out];exact HG0.out⟩
 have h40z:¬(40:Int)< (n:Int):=by omega
 rw[if_neg h40]at HM
 go_enter Tryz.func94,Tryz.ntmps94
 go_wp2;rw[HW0.out]
 go_loopg [4,5,13] n (fun gg _ _ s13 wr=>∃kk:Nat,kk<=n/\n - kk<=gg/\s13= .int .i64 kk/\Hid (zc W0 wr)/\Hid (J5 (fs.drop kk)=J5 fs))
 case atStart=>exact⟨0,nZ _,by omega,rfl,zc.refl _,rfl⟩
 obtain⟨kk,hkk,hg,rfl,BW,A⟩:=hrel
 by_cases hlt:kk<n
 ·have hltz:(kk:Int)< (n:Int):=by omega
  obtain⟨q,HQ⟩:∃q,Hid (fs[kk]? =some q):=⟨_,gE (by rw[HN.out];exact hlt)⟩
  obtain⟨ad,rfl,hl⟩:=HR.out kk q HQ.out;obtain⟨d0,d1,d2,d3,d4,d5,d6,d7,d8,d9,d10,d11,d12⟩:=hl wr (HG0.out.trans BW.out);have hcall:∀W,Calls Tryz.prog 141 #[.agg #[.int .u8 q.p.b0,.int .u8 q.p.b1,.int .u8 q.p.b2,.int .u8 q.p.b3,.int .u8 q.p.b4,.int .u8 q.p.b5,.int .u8 q.p.b6,.int .u8 q.p.b7,.int .i64 q.r,.bool q.u,.bool q.d,.int .i64 q.f,.int .i64 q.x]] W fun e w'=>e= .returned (.int .i64 (frW q))/\zc W w':=fun W=>zaA q W
  have HST:Hid (J5 (fs.drop kk)=if frW q=0 then J5 (fs.drop (kk+1))else frW q):=show _=_ by
   obtain⟨hlt',rfl⟩:=gS.1 HQ.out;rw[List.drop_eq_getElem_cons hlt'];rfl
  clear hl
  generalize frW q=z at hcall HST
  by_cases hz:z=0
  ·have HA:Hid (J5 (fs.drop (kk+1))=J5 fs):=show _=_ by rw[<-A.out,HST.out,if_pos hz]
   subst hz;clear HST
   go_wp2_with (go_at_call 141;refine(hcall _).mono ?_;rintro e w' ⟨rfl,hb'⟩)
   go_roundg (n -(kk+1))
   case measure=>omega
   exact⟨kk+1,by omega,by omega,by go_num,(BW.out.trans (za _ _)).trans hb',HA.out⟩
  have hzb:(z != 0)=true:=by simpa using hz
  have HF:Hid (Ze fs h=z):=show _=_ by
   have h1:=A.out;rw[HST.out,if_neg hz]at h1;rw[HM.out,<-h1,if_neg hz]
  clear HST A HM
  go_wp2_with (go_at_call 141;refine(hcall _).mono ?_;rintro e w' ⟨rfl,hb'⟩)
  go_ret;exact⟨by rw[HF.out];rfl,((HG0.out.trans BW.out).trans (za _ _)).trans hb'⟩
 have hltz:¬(kk:Int)< (n:Int):=by omega
 have:kk=n:=by omega
 subst this;have e0:=(X0.out.grew BW.out).c 0 rfl;have e1:=(X0.out.grew BW.out).c 1 rfl;have hz:J5 fs=0:=by rw[<-A.out,List.drop_of_length_le (by rw[HN.out];exact nR _)];rfl
 have HM':Hid (Ze fs h=if inB h (max kk 1)then 0 else 3):=show _=_ by rw[HM.out,if_pos hz]
 clear HM A hz
 by_cases hh0:h=0
 ·subst hh0;rw[show inB 0 (max kk 1)=true from by simp[inB];omega,if_pos rfl]at HM'
  go_wp2;go_ret;exact⟨by rw[HM'.out];rfl,HG0.out.trans BW.out⟩
 have hh0b:(h != 0)=true:=by simp[hh0]
 by_cases hneg:h<0
 ·rw[show inB h (max kk 1)=false from by simp[inB];omega,if_neg (by decide)]at HM'
  go_wp2;go_ret;exact⟨by rw[HM'.out];rfl,HG0.out.trans BW.out⟩
 by_cases hge:(kk:Int)<=h
 ·rw[show inB h (max kk 1)=false from by simp[inB];omega,if_neg (by decide)]at HM'
  go_wp2;go_ret;exact⟨by rw[HM'.out];rfl,HG0.out.trans BW.out⟩
 rw[show inB h (max kk 1)=true from by simp[inB];omega,if_pos rfl]at HM'
 go_wp2;go_ret;exact⟨by rw[HM'.out];rfl,HG0.out.trans BW.out⟩
theorem zcX (a:Option Addr) (c:Nat) (s:List Int) (w:World) (hv:zo slE w (.slice a s.length c) s):
  Calls Tryz.prog 95 #[.slice a s.length c] w fun e w'=>e= .returned (.int .i64 (slW s))/\zc w w':=by
 have HM:Hid (slW s=if 60<s.length then 4 else if s.any zav then 3 else 0):=rfl;have hbig:=hv.short;obtain⟨a',c',heq,hrow⟩:=hv.sls;cases heq;have HR:Hid (zaU w a s):=hrow;clear hrow hv;obtain⟨n,HN⟩:∃n,Hid (s.length=n):=⟨_,rfl⟩;rw[HN.out]at HM hbig⊢
 by_cases h60:60<n
 ·have h60z:(60:Int)< (n:Int):=by omega
  have HF:Hid (slW s=4):=show _=_ by rw[HM.out,if_pos h60]
  clear HM
  go_enter Tryz.func95,Tryz.ntmps95
  go_wp2;go_ret;exact⟨by rw[HF.out];rfl,zc.refl _⟩
 have h60z:¬(60:Int)< (n:Int):=by omega
 rw[if_neg h60]at HM
 go_enter Tryz.func95,Tryz.ntmps95
 go_wp2
 go_loopg [4,10] n (fun gg _ s8 wr=>∃kk:Nat,kk<=n/\n - kk<=gg/\s8= .int .i64 kk/\Hid (zc w wr)/\Hid (∀j q,j<kk->s[j]? =some q->zav q=false))
 case atStart=>exact⟨0,nZ _,by omega,rfl,zc.refl w,fun j q hj=>absurd hj (nL _)⟩
 obtain⟨kk,hkk,hg,rfl,BW,A⟩:=hrel
 by_cases hlt:kk<n
 ·have hltz:(kk:Int)< (n:Int):=by omega
  obtain⟨q,HQ⟩:∃q,Hid (s[kk]? =some q):=⟨_,gE (by rw[HN.out];exact hlt)⟩
  obtain⟨ad,rfl,hl⟩:=HR.out kk q HQ.out;have d0:=hl wr BW.out;clear hl
  by_cases hq:zav q=true
  ·have HF:Hid (slW s=3):=show _=_ by rw[HM.out,zjD HQ.out hq];rfl
   clear HM A
   by_cases h0:q<0
   ·clear hq;go_wp2;go_ret;exact⟨by rw[HF.out];rfl,BW.out⟩
   have h1:1000<q:=by simp[zav]at hq;omega
   clear hq;go_wp2;go_ret;exact⟨by rw[HF.out];rfl,BW.out⟩
  have hq':zav q=false:=by simpa using hq
  have HA:Hid (∀(j:Nat) q,j<kk+1->s[j]? =some q->zav q=false):=show∀(j:Nat) q,_ from fun j q' hj hq''=>by
   by_cases e:j=kk
   ·subst e;rw[HQ.out]at hq'';cases hq'';exact hq'
   exact A.out j q' (by omega) hq''
  have h0:¬q<0:=by intro h;exact hq (by simp[zav,h])
  have h1:¬1000<q:=by intro h;exact hq (by simp[zav,h])
  clear hq hq';go_wp2
  go_roundg (n -(kk+1))
  case measure=>omega
  exact⟨kk+1,by omega,by omega,by go_num,BW.out,HA.out⟩
 have hltz:¬(kk:Int)< (n:Int):=by omega
 have:kk=n:=by omega
 subst this;have HF:Hid (slW s=0):=show _=_ by
  rw[HM.out,zjC (fun j q hj=>A.out j q (by rw[<-HN.out];exact(gS.1 hj).1) hj)]
  rfl
 clear HM A;go_wp2;go_ret;exact⟨by rw[HF.out];rfl,BW.out⟩
end
end Go.Proofs.YtdgccecjbpgmfaaGreat
