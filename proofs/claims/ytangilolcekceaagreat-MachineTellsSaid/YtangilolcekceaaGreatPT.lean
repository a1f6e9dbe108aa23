/- MachineTells:for every configuration,whatever bytes a machine is made of,whatever one number of it is bent to,every file,process and page:New,Own,Wrong,Bytes and View answer as the document's;no condition but what the statement itself says. -/
import Derived.Test.YtangilolcekceaaGreatPT9
import Derived.Laws.BytesArg
import Derived.Test.YtangilolcekceaaGreatRows
import Derived.WalkKit
import Derived.ProofKit
import Derived.OpenShut
import Derived.ShutString
import Derived.ChangeOld
import Derived.Below
import Derived.Carry
import Derived.SizedLaws
import Derived.Deep.Slices
import Derived.Test.YtangilolcekceaaGreatChecked
namespace Go.Proofs.YtangilolcekceaaGreat
set_option maxRecDepth 100000
set_option maxHeartbeats 4000000
variable{T:List (Nat->En)} {e t:TypeId} {hd:Int} {m:Ma} {w:World}
open Go.Proofs.Tryz
section
open Go.RowKit
theorem zeQ {v:Value} {l:List Int} (h:zr byE w v l):(convert 24 9 v).run prog w= .ok (.string (strOfNums l)) w:=by
 have hs:=byE.und;have he:Tryz.prog.underlying 5=some (.int .u8):=underlying5;have hd:Tryz.prog.underlying 9=some .string:=underlying9;obtain⟨a,c,h1,h2⟩:=h.rows;subst h1
 cases a with
 | none=>
  have:l=[]:=by
   cases l with
   | nil=>rfl
   | cons x l=>
    obtain⟨ad,h3,_⟩:=h2 0 x rfl;cases h3
  subst this;exact run_convert_bytes_nil w 24 5 hs he _ _ 9 hd
 | some x=>
  have hc:∀(j:Nat) u,(l.map (Value.int .u8))[j]? =some u->w.cell? (x.add j)=some u:=fun j u hj=>by
   rw[List.getElem?_map]at hj
   cases hz:l[j]? with
   | none=>rw[hz]at hj;cases hj
   | some z=>
    rw[hz]at hj;simp only[Option.map_some,Option.some.injEq]at hj;obtain⟨ad,h3,h4⟩:=h2 j z hz;cases h3;have:=h4 w (zc.refl _) 0 u (by rw[<-hj];rfl)
    simp only[byE,Nat.mul_one,zI,Nat.add_zero]at this;exact this
  have hl:=run_loadCells_list (P:=prog) w x (l.map (Value.int .u8)) hc;rw[List.length_map]at hl;rw[run_convert_bytes_string w 24 9 5 _ _ c hs he hd,run_bytesToString w x l.length c l hl,foldl_push_bytes]
  simp[strOfNums,ByteArray.empty,ByteArray.emptyWithCapacity]
  rfl
theorem zkt (l:List Int) (hl:l.length=8) (w:World):(Op.equalIn 10000 50 (.agg (pgc l).toArray) (.agg (pgc l).toArray)).run prog w= .ok true w:=by
 obtain⟨i0,hi,_,hz1,_⟩:=info_parts zl0;have:=Zf (P:=prog) w 50 5 .u8 9998 8 l l i0 underlying50 underlying5 hi hz1 hl hl;rw[decide_eq_true rfl]at this;exact this
theorem zkL {s:Sp} (h:s∈(jg m T hd).sp):∃s0∈m.sp,s.ars=s0.ars:=by
 have h':s∈List.zipWith (fun s f=>({ s with tb:=ZH f }:Sp)) m.sp T:=h
 obtain⟨i,hi⟩:=List.getElem?_of_mem h';rw[List.getElem?_zipWith]at hi
 cases h1:m.sp[i]? with
 | none=>rw[h1]at hi;cases hi
 | some a=>
  cases h2:T[i]? with
  | none=>rw[h1,h2]at hi;cases hi
  | some f=>
   rw[h1,h2]at hi;simp only[Option.some.injEq]at hi;exact⟨a,mG h1,by rw[<-hi]⟩
def zfA:Ma:=⟨[],0,[],[],[],[],[],[],0,[],[]⟩
theorem zaS {α:Type} (E:Elt α) (w:World):zr E w (eS) ([]:List α):=(zb.nil E 0 w).at
theorem Q3 (w:World):zH w ⟨zj,zj,zj,zj,zj,zj,zj,zj,zj⟩ zfA:=⟨zaS _ _,zaS _ _,⟨⟨none,0,rfl,fun _=>rfl,fun x hx=>by cases hx⟩,by simp[zfA],by simp[zfA]⟩,⟨⟨none,0,rfl,fun _=>rfl,fun x hx=>by cases hx⟩,by simp[zfA],by simp[zfA]⟩,⟨⟨none,0,rfl,fun _=>rfl,fun x hx=>by cases hx⟩,by simp[zfA],by simp[zfA]⟩,⟨⟨none,0,rfl,fun _=>rfl,fun x hx=>by cases hx⟩,by simp[zfA],by simp[zfA]⟩,⟨nR _,[],(zaS _ _).s0,rfl,fun i x f hx=>by cases hx⟩,zaS _ _,⟨[],zaS _ _,rfl,fun i x s hx=>by cases hx⟩⟩
theorem zgI:ZH (fun _=>en0)=qY:=by kernel_rfl
theorem zjN {F S B:Int} (h:zhe F S B):jg (zfu F.toNat S.toNat B.toNat 1) [fun _=>en0] 0=zej F S B:=by
 unfold jg zfu zej;simp only[List.replicate_one,List.zipWith_cons_cons,List.zipWith_nil_left,zgI]
 congr 1
 unfold zhe at h;omega
theorem zgH (F S B:Int) (vl:Sli) (L:List Int) (wh at1 n p page:Int) (w:World) (lr:zr byE w (vl.x) L) (lc:vl.n<=vl.c) (lb:∀z∈L,0<=z/\z<256):
  Calls prog 3 #[.agg #[I6 F,I6 S,I6 B],vl.x,I6 wh,I6 at1,I6 n,I6 p,I6 page] w fun e w'=>e= .returned (.bool true)/\zc w w':=by
 obtain⟨W0,hW0⟩:∃W0,w.alloc (.cells #[I6 F,I6 S,I6 B] 23)=W0:=⟨_,rfl⟩;have G0:=gA hW0
 have C0:=xA hW0
 have HW0:Hid (_=W0):=hW0;have HLR:Hid (zr byE w (vl.x) L):=lr;have HLC:Hid (vl.n<=vl.c):=lc;have HLB:Hid (∀z∈L,0<=z/\z<256):=show∀z,_ from lb
 obtain⟨nf,HNF⟩:∃nf:Nat,Hid (max (min F 40) 0=(nf:Int)):=⟨(max (min F 40) 0).toNat,show _=_ by omega⟩
 obtain⟨ns,HNS⟩:∃ns:Nat,Hid (max (min S 60) 0=(ns:Int)):=⟨(max (min S 60) 0).toNat,show _=_ by omega⟩
 obtain⟨nb,HNB⟩:∃nb:Nat,Hid (max (min B 80) 0=(nb:Int)):=⟨(max (min B 80) 0).toNat,show _=_ by omega⟩
 clear hW0 lr lc lb
 go_enter func3,ntmps3
 have hbu:=zeR F S B nf ns nb HNF HNS HNB vl L W0 (HLR.grew G0) HLC HLB.out;obtain⟨c0,c1,c2⟩:=C0.c3;go_upto_region 1 with fail;rw[HW0.out];go_wp2_with fail;refine hbu.mono ?_;clear hbu c0 c1 c2;rintro r W1 ⟨V0,m0,T0,hd0,hi0,ht0,vt0,rfl,hbt⟩;have G1:Hid (zc w W1):=G0.trans hbt.gr;have C1:Hid (Box W1 w.heap.size [I6 F,I6 S,I6 B]):=C0.grew hbt.gr;have hbe:=zjY W1 W0.heap.size hi0 ht0 V0 (jg m0 T0 hd0) wh at1 n W1 hbt.bd hbt.sp0 (by
  have h1:=hbt.inv.fs40;have h2:=hbt.inv.sl60;have h3:=hbt.fl2.1;have h4:=hbt.inv.cached.2.1;have h5:=hbt.sp;have h6:(jg m0 T0 hd0).sp.length=m0.sp.length:=by simp[jg,hbt.inv.tl]
  have h7:(jg m0 T0 hd0).fs=m0.fs:=rfl;have h8:(jg m0 T0 hd0).sl=m0.sl:=rfl;have h9:(jg m0 T0 hd0).fl=m0.fl:=rfl;have h10:(jg m0 T0 hd0).ca=m0.ca:=rfl;rw[h6,h7,h8,h9,h10]
  omega) (fun s hs=>tb8 ((zgd (Qt hbt.at.2)).ar s hs).2)
 have HFI:Hid (∀s∈(jg m0 T0 hd0).sp,qW m0.fl.length s.ars):=dD<|fun s hs=>by
  obtain⟨s0,k1,k2⟩:=zkL hs;rw[k2];exact(hbt.fin s0 k1).1
 have HGB:Hid (zc W0 W1):=hbt.gr;clear hbt;go_wp2_with fail;refine hbe.mono ?_;clear hbe;rintro r W2 ⟨V,m,rfl,hma,hfl,hars,hgr⟩;have HFS:Hid (maW m=0->∀s∈m.sp,qW m.fl.length s.ars):=show _->_ from fun _ s hs=>by
  rw[hfl]
  rcases hars s hs with h1|⟨s0,h1,h2⟩
  ·exact zeE h1
  rw[h2];exact HFI s0 h1
 have GC:zc W0 W2:=hgr W0 (HGB) (nR _);have G2:=dD (G0.trans GC);have C2:=dD (C0.grew GC);have HM2:Hid (zH W2 V m):=hma;clear hma hfl hars hgr;go_upto_region 2 with fail;obtain⟨pm,HPM⟩:∃pm,Hid (W2.heap.size=pm):=⟨_,rfl⟩;obtain⟨W3,hW3⟩:∃W3,W2.alloc (.cells (mL V m).toArray 40)=W3:=⟨_,rfl⟩;have g3:=gP hW3
 have X3:=xP hW3 HPM
 have G3:=dD (G2.trans g3);have C3:=dD (C2.grew g3);have HM:=dD (HM2.grew g3);rw[hW3,HPM.out];clear hW3 g3;obtain⟨E,HE⟩:∃E,Hid (maW m=E):=⟨_,rfl⟩;have HWP:Hid (∀W,zc W3 W->Calls prog 9 #[.agg (mL V m).toArray] W fun e w'=>e= .returned (I6 E)/\zc W w'):=show∀W,_ from fun W hW=>by rw[<-HE.out];exact zaN V m W (HM.grew hW)
 have HWD:Hid (∀W,zc W3 W->Calls prog 10 #[.agg (mL V m).toArray] W fun e w'=>e= .returned (I6 E)/\zc W w'):=dD<|fun W hW=>by rw[<-HE.out];exact QH V m W (HM.grew hW)
 obtain⟨I,HI⟩:∃I:World->Prop,Hid (∀u,I u↔zc W3 u):=⟨fun u=>zc W3 u,fun _=>Iff.rfl⟩
 have hI0:I W3.drew:=(HI _).2 (gW _)
 have hx0:=X3.h HI 0 rfl
 have hx1:=X3.h HI 1 rfl
 have hx2:=X3.h HI 2 rfl
 have hx3:=X3.h HI 3 rfl
 have hx4:=X3.h HI 4 rfl
 have hx5:=X3.h HI 5 rfl
 have hx6:=X3.h HI 6 rfl
 have hx7:=X3.h HI 7 rfl
 have hx8:=X3.h HI 8 rfl
 have hx9:=X3.h HI 9 rfl
 have hx10:=X3.h HI 10 rfl
 have hne:Nonempty (zk I):=⟨⟨_,hI0⟩⟩;refine qa (I:=I) 12 [(1,⟨fun v=>v=I6 E,fun _ _=>True,fun p q=>zc p q,fun _=>True⟩),(3,⟨fun v=>v=I6 E,fun _ _=>True,fun p q=>zc p q,fun _=>True⟩),(7,⟨fun v=>∃V1:MaV,v= .agg (mL V1 m).toArray,fun v u=>∃V1:MaV,v= .agg (mL V1 m).toArray/\zH u V1 m,fun p q=>zc p q,fun _=>True⟩),(9,⟨fun v=>v= .bool true,fun _ _=>True,fun p q=>zc p q,fun _=>True⟩)] hI0 qu (by kernel_rfl) rfl rfl (by decide) ?hS ?hp ?hpre ?hpr0 ?_
 case hS=>
  intro x hx;simp only[mC,nM,or_false]at hx
  rcases hx with rfl|rfl|rfl|rfl
  ·exact⟨_,rfl⟩
  ·exact⟨_,rfl⟩
  ·exact⟨_,V,rfl⟩
  exact⟨_,rfl⟩
 case hp=>
  intro k s j t hk hj hjk hanc v p q hst hpo;have hk':=zt hk;have hj':=zt hj;clear hk hj;simp only[mC,pJ,nM,or_false]at hk' hj'
  rcases hk' with⟨rfl,rfl⟩|⟨rfl,rfl⟩|⟨rfl,rfl⟩|⟨rfl,rfl⟩
  ·trivial
  ·trivial
  ·obtain⟨V1,h1,h2⟩:=hpo
   rcases hj' with⟨rfl,rfl⟩|⟨rfl,rfl⟩|⟨rfl,rfl⟩|⟨rfl,rfl⟩
   ·exact⟨V1,h1,h2.grew hst⟩
   ·exact⟨V1,h1,h2.grew hst⟩
   ·exact absurd rfl hjk
   exact⟨V1,h1,h2.grew hst⟩
  trivial
 case hpre=>
  intro j t k s hj hk hjk p q hst hpr;have hj':=zt hj;simp only[mC,pJ,nM,or_false]at hj'
  rcases hj' with⟨rfl,rfl⟩|⟨rfl,rfl⟩|⟨rfl,rfl⟩|⟨rfl,rfl⟩ <;> trivial
 case hpr0=>
  intro k t hk;have hk':=zt hk;simp only[mC,pJ,nM,or_false]at hk'
  rcases hk' with⟨rfl,rfl⟩|⟨rfl,rfl⟩|⟨rfl,rfl⟩|⟨rfl,rfl⟩ <;> trivial
 simp only[List.take,List.drop];iterate 1 (refine zh rfl rfl rfl (fun K hK=>?_);go_big_quiet_op;refine hK _ ?_;clear hK)
 refine zz rfl rfl (fun w' hI' hpr hF=>?_) (fun v1 hv=>?_)
 ·refine zP.call [.agg (mL V m).toArray] rfl func9 rfl rfl rfl ?_;refine(HWP w' ((HI _).1 hI')).mono ?_;rintro e w'' ⟨rfl,gg⟩;exact⟨_,rfl,(HI _).2 (((HI _).1 hI').trans gg),gg,rfl,trivial⟩
 subst hv;simp only[Act.put,sB,sS,sZ];iterate 1 (refine zh rfl rfl rfl (fun K hK=>?_);go_big_quiet_op;refine hK _ ?_;clear hK)
 refine zz rfl rfl (fun w' hI' hpr hF=>?_) (fun v1 hv=>?_)
 ·refine zP.call [.agg (mL V m).toArray] rfl func10 rfl rfl rfl ?_;refine(HWD w' ((HI _).1 hI')).mono ?_;rintro e w'' ⟨rfl,gg⟩;exact⟨_,rfl,(HI _).2 (((HI _).1 hI').trans gg),gg,rfl,trivial⟩
 subst hv;simp only[Act.put,sB,sS,sZ];iterate 3 (refine zh rfl rfl rfl (fun K hK=>?_);go_big_quiet_op;refine hK _ ?_;clear hK)
 refine zz rfl rfl (fun w' hI' hpr hF=>?_) (fun v1 hv=>?_)
 ·refine zP.call [.agg (mL V m).toArray] rfl func12 rfl rfl rfl ?_;refine(zjh V m w' (HM.grew ((HI _).1 hI'))).mono ?_;rintro e w'' ⟨V1,rfl,own,gg⟩;exact⟨_,rfl,(HI _).2 (((HI _).1 hI').trans gg),gg,⟨V1,rfl⟩,V1,rfl,own.at⟩
 obtain⟨V1,rfl⟩:=hv;simp only[Act.put,sB,sS,sZ];iterate 1 (refine zh rfl rfl rfl (fun K hK=>?_);go_big_quiet_op;refine hK _ ?_;clear hK)
 refine zz rfl rfl (fun w' hI' hpr hF=>?_) (fun v1 hv=>?_)
 ·obtain⟨V2,h1,h2⟩:=hF 7 (by kernel_rfl)
  refine zP.call [.agg (mL V1 m).toArray,.agg (mL V m).toArray] rfl func11 rfl rfl rfl ?_;rw[h1];refine(jk V2 V m w' h2 (HM.grew ((HI _).1 hI'))).mono ?_;rintro e w'' ⟨rfl,gg⟩;exact⟨_,rfl,(HI _).2 (((HI _).1 hI').trans gg),gg,rfl,trivial⟩
 subst hv;simp only[Act.put,sB,sS,sZ];iterate 2 (refine zh rfl rfl rfl (fun K hK=>?_);go_big_quiet_op;refine hK _ ?_;clear hK)
 refine jc fun W4 hI4 hF=>?_
 have g4:=(HI _).1 hI4;have G4:=dD (G3.trans g4);have X4:=dD (X3.grew g4);have C4:=dD (C3.grew g4);have HM4:=dD (HM.grew g4);clear hF hI4 hI0 hne g4 hx0 hx1 hx2 hx3 hx4 hx5 hx6 hx7 hx8 hx9 hx10;obtain⟨x0,x1,x2,x3,x4,x5,x6,x7,x8,x9,x10⟩:=X4.c11;have hc:=zhn V m p W4 HM4.out;go_wp2_with fail;refine hc.mono ?_;clear hc x0 x1 x2 x3 x4 x5 x6 x7 x8 x9 x10;rintro r W5 ⟨⟨ua,rfl,owa⟩,g5⟩;have G5:=dD (G4.trans g5);have X5:=dD (X4.grew g5);have C5:=dD (C4.grew g5);have HM5:=dD (HM4.grew g5);have RA:Hid (zr byE W5 ua (Jb m p)):=owa.at;clear g5 owa;obtain⟨x0,x1,x2,x3,x4,x5,x6,x7,x8,x9,x10⟩:=X5.c11;have hc:=zdm V m p W5 HM5.out;go_wp2_with fail;refine hc.mono ?_;clear hc x0 x1 x2 x3 x4 x5 x6 x7 x8 x9 x10;rintro r W6 ⟨⟨ub,rfl,owb⟩,g6⟩;have G6:=dD (G5.trans g6);have X6:=dD (X5.grew g6);have C6:=dD (C5.grew g6);have HM6:=dD (HM5.grew g6);have RB:Hid (zr byE W6 ub (Jb m p)):=owb.at;have hs1:=zeQ (RA.grew g6);have hs2:=zeQ RB.out;obtain⟨be,HBE⟩:∃be,Hid (ZV m p=be):=⟨_,rfl⟩;rw[HBE.out]
 generalize strOfNums (Jb m p)=str at hs1 hs2
 clear g6 owb;have hbb:(be != be)=false:=by simp
 go_upto_region 8 with fail;clear hs1 hs2 hbb;obtain⟨x0,x1,x2,x3,x4,x5,x6,x7,x8,x9,x10⟩:=X6.c11;have hc:=zhD V m p page W6 HM6.out;go_wp2_with fail;refine hc.mono ?_;clear hc x0 x1 x2 x3 x4 x5 x6 x7 x8 x9 x10;rintro r W7 ⟨rfl,hl8,g7⟩;have G7:=dD (G6.trans g7);have X7:=dD (X6.grew g7);have C7:=dD (C6.grew g7);have HM7:=dD (HM6.grew g7);obtain⟨⟨rl,rb,re⟩,HRR⟩:∃rr,Hid (Jk m p page=rr):=⟨_,rfl⟩;rw[HRR.out]at hl8⊢;obtain⟨p0,p1,p2,p3,p4,p5,p6,p7,hrl⟩:=zdP rl hl8;subst hrl;clear hl8 g7;simp only[zbj,pgc,mP,List.map_nil];go_upto_region 9 with fail;obtain⟨pv,HPV⟩:∃pv,Hid (W7.heap.size=pv):=⟨_,rfl⟩;obtain⟨W8,hW8⟩:∃W8,W7.alloc (.cells #[U8 p0,U8 p1,U8 p2,U8 p3,U8 p4,U8 p5,U8 p6,U8 p7] 50)=W8:=⟨_,rfl⟩;have g8:=gP hW8
 have Q8:=xP hW8 HPV
 have G8:=dD (G7.trans g8);have X8:=dD (X7.grew g8);have C8:=dD (C7.grew g8);have HM8:=dD (HM7.grew g8);rw[hW8,HPV.out];clear hW8 g8;obtain⟨x0,x1,x2,x3,x4,x5,x6,x7,x8,x9,x10⟩:=X8.c11;have hc:=zd6 V m p page W8 HM8 HFS.out;go_wp2_with fail;refine hc.mono ?_;clear hc x0 x1 x2 x3 x4 x5 x6 x7 x8 x9 x10;rintro r W9 ⟨rfl,-,g9⟩;have G9:=dD (G8.trans g9);have Q9:=dD (Q8.grew g9);have C9:=dD (C8.grew g9);rw[HRR.out];clear g9;simp only[zbj,pgc,mP,List.map_nil];go_upto_region 10 with fail;obtain⟨pu,HPU⟩:∃pu,Hid (W9.heap.size=pu):=⟨_,rfl⟩;obtain⟨W10,hW10⟩:∃W10,W9.alloc (.cells #[U8 p0,U8 p1,U8 p2,U8 p3,U8 p4,U8 p5,U8 p6,U8 p7] 50)=W10:=⟨_,rfl⟩;have g10:=gP hW10
 have U10:=xP hW10 HPU
 have Q10:=dD (Q9.grew g10);have G10:=dD (G9.trans g10);have C10:=dD (C9.grew g10);rw[hW10,HPU.out];clear hW10 g10;have hre:(re != re)=false:=by simp
 have hrb:(rb != rb)=false:=by simp
 have hpg:=fun W=>zkt [p0,p1,p2,p3,p4,p5,p6,p7] rfl W
 simp only[pgc,mP,List.map_nil]at hpg;obtain⟨u0,u1,u2,u3,u4,u5,u6,u7⟩:=U10.c8;obtain⟨q0,q1,q2,q3,q4,q5,q6,q7⟩:=Q10.c8;go_upto_region 12 with fail;clear hre hrb hpg u0 u1 u2 u3 u4 u5 u6 u7 q0 q1 q2 q3 q4 q5 q6 q7;have hnw:=zjp F S B W10;obtain⟨c0,c1,c2⟩:=C10.c3;go_wp2_with fail;refine hnw.mono ?_;clear hnw;rintro r W11 ⟨hnew,g11⟩;have G11:=dD (G10.trans g11);have C11:=dD (C10.grew g11);clear g11 c0 c1 c2
 rcases hnew with⟨hfew,VN,rfl,hmn⟩|⟨hfew,rfl⟩
 ·go_upto_region 13 with fail;obtain⟨pk,HPK⟩:∃pk,Hid (W11.heap.size=pk):=⟨_,rfl⟩;obtain⟨W12,hW12⟩:∃W12,W11.alloc (.cells #[VN.f.x,I6 0,VN.s.x,VN.sb.x,VN.sq.x,VN.db.x,VN.dq.x,VN.fl.x,I6 B,VN.ca.x,VN.sp.x] 40)=W12:=⟨_,rfl⟩;have g12:=gP hW12
  have K12:=xP hW12 HPK
  have G12:=dD (G11.trans g12);have C12:=dD (C11.grew g12);have HMN:Hid (zH W12 VN (zej F S B)):=hmn.grew g12;rw[hW12,HPK.out];clear hW12 g12;obtain⟨c0,c1,c2⟩:=C12.c3;obtain⟨⟨a0,a1⟩,⟨a2,a3⟩,⟨a4,a5⟩⟩:=hfew;have HFW:Hid (zhe F S B):=show zhe F S B from⟨⟨a0,a1⟩,⟨a2,a3⟩,⟨a4,a5⟩⟩
  have HNN:Hid (nf=F.toNat/\ns=S.toNat/\nb=B.toNat):=dD<|by have:=HNF.out;have:=HNS.out;have:=HNB.out;omega
  have b0:decide (0<=F)=true:=decide_eq_true a0;have b1:decide (F<=40)=true:=decide_eq_true a1;have b2:decide (0<=S)=true:=decide_eq_true a2;have b3:decide (S<=60)=true:=decide_eq_true a3;have b4:decide (0<=B)=true:=decide_eq_true a4;have b5:decide (B<=80)=true:=decide_eq_true a5;clear a0 a1 a2 a3 a4 a5 hmn;go_upto_region 16 with fail;clear b0 b1 b2 b3 b4 b5 c0 c1 c2;have HBN:Hid (∀W,zc W12 W->Calls prog 8 #[I6 F,I6 S,I6 B,eS] W fun e w'=>(∃V2:MaV,e= .returned (.agg #[V2.f.x,I6 0,V2.s.x,V2.sb.x,V2.sq.x,V2.db.x,V2.dq.x,V2.fl.x,I6 B,V2.ca.x,V2.sp.x])/\zH w' V2 (zej F S B))/\zc W w'):=dD<|fun W hW=>by
   refine(zeR F S B nf ns nb HNF HNS HNB zj [] W (zaS _ _) (nR _) (by simp)).mono ?_
   rintro e w' ⟨V2,m2,T2,hd2,hi2,ht2,vt2,rfl,hbt⟩;obtain⟨e1,e2,e3⟩:=hbt.new rfl;have hat:=hbt.at.1;rw[e1,e2,e3,HNN.1,HNN.2.1,HNN.2.2,zjN HFW.out]at hat;have hc:m2.cnt=B:=by
    rw[e1,HNN.2.2];have:=HFW.out;unfold zhe at this
    show((B.toNat:Nat):Int)=B
    omega
   exact⟨⟨V2,by rw[hc,e3],hat⟩,hbt.gr⟩
  obtain⟨I,HI⟩:∃I:World->Prop,Hid (∀u,I u↔zc W12 u):=⟨fun u=>zc W12 u,fun _=>Iff.rfl⟩
  have hI0:I W12.drew:=(HI _).2 (gW _)
  have hk0:=K12.h HI 0 rfl
  have hk1:=K12.h HI 1 rfl
  have hk2:=K12.h HI 2 rfl
  have hk3:=K12.h HI 3 rfl
  have hk4:=K12.h HI 4 rfl
  have hk5:=K12.h HI 5 rfl
  have hk6:=K12.h HI 6 rfl
  have hk7:=K12.h HI 7 rfl
  have hk8:=K12.h HI 8 rfl
  have hk9:=K12.h HI 9 rfl
  have hk10:=K12.h HI 10 rfl
  have hc0:=C12.h HI 0 rfl
  have hc1:=C12.h HI 1 rfl
  have hc2:=C12.h HI 2 rfl
  have hne:Nonempty (zk I):=⟨⟨_,hI0⟩⟩;refine qa (I:=I) 14 [(10,⟨fun v=>∃V2:MaV,v= .agg #[V2.f.x,I6 0,V2.s.x,V2.sb.x,V2.sq.x,V2.db.x,V2.dq.x,V2.fl.x,I6 B,V2.ca.x,V2.sp.x],fun v u=>∃V2:MaV,v= .agg #[V2.f.x,I6 0,V2.s.x,V2.sb.x,V2.sq.x,V2.db.x,V2.dq.x,V2.fl.x,I6 B,V2.ca.x,V2.sp.x]/\zH u V2 (zej F S B),fun p q=>zc p q,fun _=>True⟩),(11,⟨fun v=>v= .bool true,fun _ _=>True,fun p q=>zc p q,fun _=>True⟩)] hI0 qu (by kernel_rfl) rfl rfl (by decide) ?hS ?hp ?hpre ?hpr0 ?_
  case hS=>
   intro x hx;simp only[mC,nM,or_false]at hx
   rcases hx with rfl|rfl
   ·exact⟨_,VN,rfl⟩
   exact⟨_,rfl⟩
  case hp=>
   intro k s j t hk hj hjk hanc v p q hst hpo;have hk':=zt hk;have hj':=zt hj;clear hk hj;simp only[mC,pJ,nM,or_false]at hk' hj'
   rcases hk' with⟨rfl,rfl⟩|⟨rfl,rfl⟩
   ·obtain⟨V2,h1,h2⟩:=hpo
    rcases hj' with⟨rfl,rfl⟩|⟨rfl,rfl⟩
    ·exact absurd rfl hjk
    exact⟨V2,h1,h2.grew hst⟩
   trivial
  case hpre=>
   intro j t k s hj hk hjk p q hst hpr;have hj':=zt hj;simp only[mC,pJ,nM,or_false]at hj'
   rcases hj' with⟨rfl,rfl⟩|⟨rfl,rfl⟩ <;> trivial
  case hpr0=>
   intro k t hk;have hk':=zt hk;simp only[mC,pJ,nM,or_false]at hk'
   rcases hk' with⟨rfl,rfl⟩|⟨rfl,rfl⟩ <;> trivial
  simp only[List.take,List.drop];iterate 10 (refine zh rfl rfl rfl (fun K hK=>?_);go_big_quiet_op;refine hK _ ?_;clear hK)
  refine zz rfl rfl (fun w' hI' hpr hF=>?_) (fun v1 hv=>?_)
  ·refine zP.call [I6 F,I6 S,I6 B,eS] rfl func8 rfl rfl rfl ?_;refine(HBN w' ((HI _).1 hI')).mono ?_;rintro e w'' ⟨⟨V2,rfl,hm2⟩,gg⟩;exact⟨_,rfl,(HI _).2 (((HI _).1 hI').trans gg),gg,⟨V2,rfl⟩,V2,rfl,hm2⟩
  obtain⟨V2,rfl⟩:=hv;simp only[Act.put,sB,sS,sZ];refine zz rfl rfl (fun w' hI' hpr hF=>?_) (fun v1 hv=>?_)
  ·obtain⟨V3,h1,h2⟩:=hF 10 (by kernel_rfl)
   refine zP.call [.agg #[VN.f.x,I6 0,VN.s.x,VN.sb.x,VN.sq.x,VN.db.x,VN.dq.x,VN.fl.x,I6 B,VN.ca.x,VN.sp.x],.agg #[V2.f.x,I6 0,V2.s.x,V2.sb.x,V2.sq.x,V2.db.x,V2.dq.x,V2.fl.x,I6 B,V2.ca.x,V2.sp.x]] rfl func11 rfl rfl rfl ?_;rw[h1];refine(jk VN V3 (zej F S B) w' (HMN.grew ((HI _).1 hI')) h2).mono ?_;rintro e w'' ⟨rfl,gg⟩;exact⟨_,rfl,(HI _).2 (((HI _).1 hI').trans gg),gg,rfl,trivial⟩
  subst hv;simp only[Act.put,sB,sS,sZ];iterate 2 (refine zh rfl rfl rfl (fun K hK=>?_);go_big_quiet_op;refine hK _ ?_;clear hK)
  refine jc fun W13 hI13 hF=>?_
  have G13:Hid (zc w W13):=G12.trans ((HI _).1 hI13);clear hF hI13 hI0 hne hk0 hk1 hk2 hk3 hk4 hk5 hk6 hk7 hk8 hk9 hk10 hc0 hc1 hc2;go_wp2;go_ret;exact⟨rfl,G13⟩
 go_upto_region 13 with fail;obtain⟨pk,HPK⟩:∃pk,Hid (W11.heap.size=pk):=⟨_,rfl⟩;obtain⟨W12,hW12⟩:∃W12,W11.alloc (.cells zM.toArray 40)=W12:=⟨_,rfl⟩;have g12:=gP hW12
 have K12:=xP hW12 HPK
 have G12:=dD (G11.trans g12);have C12:=dD (C11.grew g12);rw[hW12,HPK.out];clear hW12 g12;obtain⟨c0,c1,c2⟩:=C12.c3;have HNF2:Hid (¬zhe F S B):=hfew;clear hfew
 by_cases a0:0<=F
 rotate_left
 ·have b0:decide (0<=F)=false:=decide_eq_false a0;clear a0;have hsm:=jk ⟨zj,zj,zj,zj,zj,zj,zj,zj,zj⟩ ⟨zj,zj,zj,zj,zj,zj,zj,zj,zj⟩ zfA W12 (Q3 _) (Q3 _);obtain⟨k0,k1,k2,k3,k4,k5,k6,k7,k8,k9,k10⟩:=K12.c11;go_wp2_with fail;refine hsm.mono ?_;clear hsm k0 k1 k2 k3 k4 k5 k6 k7 k8 k9 k10 c0 c1 c2;rintro r W13 ⟨rfl,g13⟩;have G13:=dD (G12.trans g13);clear g13;go_wp2;go_ret;exact⟨rfl,G13⟩
 by_cases a1:F<=40
 rotate_left
 ·have b0:decide (0<=F)=true:=decide_eq_true a0;have b1:decide (F<=40)=false:=decide_eq_false a1;clear a0;clear a1;have hsm:=jk ⟨zj,zj,zj,zj,zj,zj,zj,zj,zj⟩ ⟨zj,zj,zj,zj,zj,zj,zj,zj,zj⟩ zfA W12 (Q3 _) (Q3 _);obtain⟨k0,k1,k2,k3,k4,k5,k6,k7,k8,k9,k10⟩:=K12.c11;go_wp2_with fail;refine hsm.mono ?_;clear hsm k0 k1 k2 k3 k4 k5 k6 k7 k8 k9 k10 c0 c1 c2;rintro r W13 ⟨rfl,g13⟩;have G13:=dD (G12.trans g13);clear g13;go_wp2;go_ret;exact⟨rfl,G13⟩
 by_cases a2:0<=S
 rotate_left
 ·have b0:decide (0<=F)=true:=decide_eq_true a0;have b1:decide (F<=40)=true:=decide_eq_true a1;have b2:decide (0<=S)=false:=decide_eq_false a2;clear a0;clear a1;clear a2;have hsm:=jk ⟨zj,zj,zj,zj,zj,zj,zj,zj,zj⟩ ⟨zj,zj,zj,zj,zj,zj,zj,zj,zj⟩ zfA W12 (Q3 _) (Q3 _);obtain⟨k0,k1,k2,k3,k4,k5,k6,k7,k8,k9,k10⟩:=K12.c11;go_wp2_with fail;refine hsm.mono ?_;clear hsm k0 k1 k2 k3 k4 k5 k6 k7 k8 k9 k10 c0 c1 c2;rintro r W13 ⟨rfl,g13⟩;have G13:=dD (G12.trans g13);clear g13;go_wp2;go_ret;exact⟨rfl,G13⟩
 by_cases a3:S<=60
 rotate_left
 ·have b0:decide (0<=F)=true:=decide_eq_true a0;have b1:decide (F<=40)=true:=decide_eq_true a1;have b2:decide (0<=S)=true:=decide_eq_true a2;have b3:decide (S<=60)=false:=decide_eq_false a3;clear a0;clear a1;clear a2;clear a3;have hsm:=jk ⟨zj,zj,zj,zj,zj,zj,zj,zj,zj⟩ ⟨zj,zj,zj,zj,zj,zj,zj,zj,zj⟩ zfA W12 (Q3 _) (Q3 _);obtain⟨k0,k1,k2,k3,k4,k5,k6,k7,k8,k9,k10⟩:=K12.c11;go_wp2_with fail;refine hsm.mono ?_;clear hsm k0 k1 k2 k3 k4 k5 k6 k7 k8 k9 k10 c0 c1 c2;rintro r W13 ⟨rfl,g13⟩;have G13:=dD (G12.trans g13);clear g13;go_wp2;go_ret;exact⟨rfl,G13⟩
 by_cases a4:0<=B
 rotate_left
 ·have b0:decide (0<=F)=true:=decide_eq_true a0;have b1:decide (F<=40)=true:=decide_eq_true a1;have b2:decide (0<=S)=true:=decide_eq_true a2;have b3:decide (S<=60)=true:=decide_eq_true a3;have b4:decide (0<=B)=false:=decide_eq_false a4;clear a0;clear a1;clear a2;clear a3;clear a4;have hsm:=jk ⟨zj,zj,zj,zj,zj,zj,zj,zj,zj⟩ ⟨zj,zj,zj,zj,zj,zj,zj,zj,zj⟩ zfA W12 (Q3 _) (Q3 _);obtain⟨k0,k1,k2,k3,k4,k5,k6,k7,k8,k9,k10⟩:=K12.c11;go_wp2_with fail;refine hsm.mono ?_;clear hsm k0 k1 k2 k3 k4 k5 k6 k7 k8 k9 k10 c0 c1 c2;rintro r W13 ⟨rfl,g13⟩;have G13:=dD (G12.trans g13);clear g13;go_wp2;go_ret;exact⟨rfl,G13⟩
 by_cases a5:B<=80
 rotate_left
 ·have b0:decide (0<=F)=true:=decide_eq_true a0;have b1:decide (F<=40)=true:=decide_eq_true a1;have b2:decide (0<=S)=true:=decide_eq_true a2;have b3:decide (S<=60)=true:=decide_eq_true a3;have b4:decide (0<=B)=true:=decide_eq_true a4;have b5:decide (B<=80)=false:=decide_eq_false a5;clear a0;clear a1;clear a2;clear a3;clear a4;clear a5;have hsm:=jk ⟨zj,zj,zj,zj,zj,zj,zj,zj,zj⟩ ⟨zj,zj,zj,zj,zj,zj,zj,zj,zj⟩ zfA W12 (Q3 _) (Q3 _);obtain⟨k0,k1,k2,k3,k4,k5,k6,k7,k8,k9,k10⟩:=K12.c11;go_wp2_with fail;refine hsm.mono ?_;clear hsm k0 k1 k2 k3 k4 k5 k6 k7 k8 k9 k10 c0 c1 c2;rintro r W13 ⟨rfl,g13⟩;have G13:=dD (G12.trans g13);clear g13;go_wp2;go_ret;exact⟨rfl,G13⟩
 exact absurd ⟨⟨a0,a1⟩,⟨a2,a3⟩,⟨a4,a5⟩⟩ HNF2.out
end
section
open Go.ChangeShapes Go.WideShapes Go.ChangeAt Go.RowKit
theorem zmd:Tryz.prog.cellsOf 3=1:=by kernel_rfl
theorem zme:Tryz.prog.cellsOf 5=1:=by kernel_rfl
theorem zmf:Tryz.prog.cellsOf 23=3:=by kernel_rfl
theorem zmg:Tryz.prog.bytesOf 5=1:=by kernel_rfl
section
variable{H:Type} {enc:TypeId × Value->H} {w:World} {base:Nat} {spare:Nat->Bool} {held:Bool}
theorem zcU {α:Type} {enc0:α->List Value} {k:Nat}:∀(l:List α) (x:Addr),(∀a∈l,(enc0 a).length=k)->(∀(i:Nat) a,l[i]? =some a->jp w (x.add (i*k)) (enc0 a))->jp w x (l.flatMap enc0)
 | [],x,_,_=>fun j u hj=>by simp at hj
 | a :: l,x,hk,h=>fun j u hj=>by
  rw[List.flatMap_cons]at hj;have ha:=hk a (by simp)
  rcases Nat.lt_or_ge j k with hjk|hjk
  ·rw[List.getElem?_append_left (by omega)]at hj
   have:=h 0 a rfl j u hj;rw[zI]at this
   simpa using this
  rw[aR (by omega),ha]at hj
  have ih:=zcU l (x.add k) (fun b hb=>hk b (by simp[hb])) (fun i b hi=>by
   have:=h (i+1) b (by simpa using hi)
   rw[zI];rw[show k+i*k=(i+1)*k by rw[Nat.add_mul];omega]
   exact this) (j - k) u hj
  rw[zI,show k+(j - k)=j by omega]at ih
  exact ih
theorem zji {α:Type} [Inhabited α] (enc0:α->List Value) (Q:α->Prop) (k:Nat) (hu:Tryz.prog.underlying t=some (.slice e)) (hk:Tryz.prog.cellsOf e=k) (helem:∀n cs (x:DataW H × List MemPlace),cs.length=k->DataW.trod enc prog w base spare held n e cs=some x->∃a,Q a/\cs=enc0 a)
  {fuel:Nat} {cs:List Value} {x:DataW H × List MemPlace} (h:DataW.trod enc prog w base spare held fuel t cs=some x):
  ∃v l,cs=[v]/\jI enc0 w v l/\(∀a∈l,Q a/\(enc0 a).length=k)/\(l=[]\/∃es sp,x.1= .slice es sp/\es.length=l.length):=by
 rcases Go.Deep.open_slice hu h with⟨rfl,_⟩|⟨a,len,cap,m,n,D,Pl,rfl,hb,hl,hm,hm',hx,hel⟩
 ·exact⟨_,[],rfl,⟨none,0,rfl,fun _=>rfl,fun x hx=>by cases hx⟩,by simp,.inl rfl⟩
 have hlm:len<=m:=by rw[hm'];split <;> omega
 have hex:∀i,i<len->∃a0,Q a0/\(enc0 a0).length=k/\jp w (a.add (i*k)) (enc0 a0):=fun i hi=>by
  obtain⟨cs',h1,h2⟩:=hel i (by omega)
  rw[hk]at h1;obtain⟨_,hcl,hcc⟩:=World.cells?_some h1;obtain⟨a0,hq,rfl⟩:=helem _ _ _ hcl h2;refine⟨a0,hq,hcl,fun j u hj=>?_⟩
  have hj':j<k:=by rw[<-hcl];exact(gS.1 hj).1
  rw[hcc j hj'];exact hj
 obtain⟨f,hf⟩:=Go.Deep.choose_lt hex;refine⟨_,(List.range len).map f,rfl,⟨some a,cap,by simp,fun h=>(by cases h),fun y hy=>?_⟩,fun b hb=>?_,.inr ⟨_,_,by rw[hx],by simp⟩⟩
 ·cases hy;refine zcU (k:=k) _ _ (fun b hb=>?_) (fun i b hi=>?_)
  ·obtain⟨i,hi,rfl⟩:=List.mem_map.1 hb;exact(hf i (List.mem_range.1 hi)).2.1
  have hil:i<len:=by have:=(gS.1 hi).1;simpa using this
  simp[hil]at hi
  subst hi;exact(hf i hil).2.2
 obtain⟨i,hi,rfl⟩:=List.mem_map.1 hb;have:=hf i (List.mem_range.1 hi);exact⟨this.1,this.2.1⟩
theorem zgU {b0:Nat} {r:Reach} {v:Value} {d:DataW H} {p:List MemPlace} (hv:Value.okWide prog w r b0 24 v) (h:DataW.Trod enc prog w base spare held 24 v d p) (hw:∀n∈d.weights prog 24,n<=reachBytes):
  ∃(vl:Sli) (s:List Int),v=vl.x/\zr byE w (vl.x) s/\vl.n<=vl.c/\∀z∈s,0<=z/\z<256:=by
 obtain⟨fuel,hf⟩:=h;obtain⟨v0,ps,e0,s0,q0,w0⟩:=zji byE.enc (fun z=>0<=z/\z<256) 1 underlying24 zme (fun n cs x _ ht=>by
  obtain⟨z,hz,hz2,hz3⟩:=DataW.trod_int underlying5 ht;refine⟨z,?_,hz⟩;have:=hz3;simp only[Lit.wf,Bool.and_eq_true,decide_eq_true_eq]at this;have e1:IntKind.u8.min=0:=rfl;have e2:IntKind.u8.max=255:=rfl;rw[e1,e2]at this;exact⟨this.1,by have:=this.2;omega⟩) hf
 obtain⟨a,c,rfl,s2,s3⟩:=s0;obtain⟨a1,l1,c1,rfl⟩:=okWide_slice underlying24 hv;have e1:Value.slice a1 l1 c1= .slice a ps.length c:=by simpa [Value.cells]using e0
 cases e1;refine⟨⟨a,ps.length,c⟩,ps,rfl,⟨⟨a,c,rfl,s2,s3⟩,?_⟩,?_,fun z hz=>(q0 z hz).1⟩
 ·rcases w0 with rfl|⟨es,sp,he,hel⟩
  ·show 0*1<=_
   omega
  have he':d= .slice es sp:=he;have:=hw ((es.length+sp.length)*Tryz.prog.bytesOf 5) (by rw[he'];simp[DataW.weights,underlying24])
  rw[zmg]at this;unfold reachBytes at this
  show ps.length*1<=_
  omega
 rcases Go.Deep.open_slice underlying24 hf with⟨h1,_⟩|⟨a',len,cap,_,_,_,_,h1,_,hl,_⟩
 ·have e2:Value.slice a ps.length c=eS:=by simpa [Value.cells]using h1
  simp only[vJ]at e2
  show ps.length<=c
  omega
 have e2:Value.slice a ps.length c= .slice (some a') len cap:=by simpa [Value.cells]using h1
 simp only[vJ]at e2
 show ps.length<=c
 omega
theorem zfs {b0:Nat} {r:Reach} {v:Value} {d:DataW H} {p:List MemPlace} (hv:Value.okWide prog w r b0 23 v) (h:DataW.Trod enc prog w base spare held 23 v d p):∃F S B:Int,v= .agg #[I6 F,I6 S,I6 B]:=by
 obtain⟨cs,rfl,hsz,_⟩:∃cs,v= .agg cs/\cs.size=Tryz.prog.cellsOf 23/\Row.okWide prog w r b0 23 cs:=by
  simpa [Value.okWide,underlying23]using hv
 obtain⟨fuel,hf⟩:=h;obtain⟨xs,n,_,_,hlen,hl,hf⟩:=DataW.trod_struct underlying23 hf;rw[zmf]at hlen;have hxl:xs.length=3:=hl;obtain⟨cs⟩:=cs;simp only[Value.cells]at hlen hf;have h0:DataW.trod enc prog w base spare held n 3 ((cs.drop 0).take (Tryz.prog.cellsOf 3))=xs[0]?:=hf 0 _ rfl;have h1:DataW.trod enc prog w base spare held n 3 ((cs.drop 1).take (Tryz.prog.cellsOf 3))=xs[1]?:=hf 1 _ rfl;have h2:DataW.trod enc prog w base spare held n 3 ((cs.drop 2).take (Tryz.prog.cellsOf 3))=xs[2]?:=hf 2 _ rfl;rw[zmd]at h0 h1 h2;rw[gE (by omega)]at h0 h1 h2
 obtain⟨r0,e0,_,_⟩:=DataW.trod_int underlying3 h0;obtain⟨r1,e1,_,_⟩:=DataW.trod_int underlying3 h1;obtain⟨r2,e2,_,_⟩:=DataW.trod_int underlying3 h2;obtain⟨c0,c1,c2,rfl⟩:∃c0 c1 c2,cs=[c0,c1,c2]:=by
  match cs,hlen with
  | [c0,c1,c2],_=>exact⟨c0,c1,c2,rfl⟩
 simp only[List.drop_succ_cons,List.drop_zero,List.take_succ_cons,List.take_zero,List.cons.injEq,and_true]at e0 e1 e2;subst e0 e1 e2;exact⟨r0,r1,r2,rfl⟩
end
theorem own:ownKnob Tryz.prog.godebug=none:=by kernel_rfl
theorem laidOut:laidOutB prog=true:=by kernel_rfl
theorem zab (os:Os) (started:os.Started) (H:Type) (enc:TypeId × Value->H):
  ReturnsInHanded {} Tryz.checked os 3 .any (Rows.machineTellsSpec.pre6 enc prog Tryz.f3 Rows.machineTellsRow.domain false) (Rows.machineTellsSpec.post enc prog Tryz.f3 false true false false):=by
 refine returnsInHanded_of_change_sized (C:=Tryz.checked) own started (by kernel_rfl) func3
  (ChangeSpec.witness6 (enc:=enc) (C:=Tryz.checked) false ⟨#[],#[.agg #[I6 0,I6 0,I6 0],eS,I6 0,I6 0,I6 0,I6 0,I6 0],[]⟩ 8 (by kernel_rfl) (by kernel_rfl) (by kernel_rfl) (by kernel_rfl)) ?_
 intro W base args ds gs before hval0 hW hcnd hsz0 _;have hsz:(DataW.weightsEach prog (Tryz.f3.params.toList++Rows.machineTellsSpec.plain.varTypes prog) (ds++gs)).all (·<=reachBytes)=true:=hsz0;have hval:∀(j:Nat) t v,Tryz.f3.params[j]? =some t->args[j]? =some v->Value.okWide prog W .any base t v:=hval0;have hW':=hW;obtain⟨p,q,hA0,hV,rfl,hfz,hnd⟩:=hW;have hA:DataW.TrodAll enc prog W 0 (fun _=>true) true Tryz.f3.params.toList args.toList ds p:=hA0
 rw[Tryz.params3]at hA hval hsz;obtain⟨v0,vs0,d0,ds0,p0,q0,hargs,rfl,rfl,k0,r0⟩:=trodAll_cons hA;obtain⟨v1,vs1,d1,ds1,p1,q1,rfl,rfl,rfl,k1,r1⟩:=trodAll_cons r0;obtain⟨v2,vs2,d2,ds2,p2,q2,rfl,rfl,rfl,k2,r2⟩:=trodAll_cons r1;obtain⟨v3,vs3,d3,ds3,p3,q3,rfl,rfl,rfl,k3,r3⟩:=trodAll_cons r2;obtain⟨v4,vs4,d4,ds4,p4,q4,rfl,rfl,rfl,k4,r4⟩:=trodAll_cons r3;obtain⟨v5,vs5,d5,ds5,p5,q5,rfl,rfl,rfl,k5,r5⟩:=trodAll_cons r4;obtain⟨v6,vs6,d6,ds6,p6,q6,rfl,rfl,rfl,k6,r6⟩:=trodAll_cons r5;obtain⟨rfl,rfl,rfl⟩:=trodAll_nil r6;obtain rfl:args=#[v0,v1,v2,v3,v4,v5,v6]:=by cases args;simp_all
 obtain⟨rfl,rfl⟩:=trodVars_none hV;have lt0:∀x∈p0,x.block<W.heap.size:=by obtain⟨m,hm⟩:=k0;exact DataW.trod_lt m _ _ _ hm
 have lt1:∀x∈p1,x.block<W.heap.size:=by obtain⟨m,hm⟩:=k1;exact DataW.trod_lt m _ _ _ hm
 have lt2:∀x∈p2,x.block<W.heap.size:=by obtain⟨m,hm⟩:=k2;exact DataW.trod_lt m _ _ _ hm
 have lt3:∀x∈p3,x.block<W.heap.size:=by obtain⟨m,hm⟩:=k3;exact DataW.trod_lt m _ _ _ hm
 have lt4:∀x∈p4,x.block<W.heap.size:=by obtain⟨m,hm⟩:=k4;exact DataW.trod_lt m _ _ _ hm
 have lt5:∀x∈p5,x.block<W.heap.size:=by obtain⟨m,hm⟩:=k5;exact DataW.trod_lt m _ _ _ hm
 have lt6:∀x∈p6,x.block<W.heap.size:=by obtain⟨m,hm⟩:=k6;exact DataW.trod_lt m _ _ _ hm
 obtain⟨cF,cS,cB,hce⟩:=zfs (hval 0 23 v0 rfl rfl) k0;subst hce;obtain⟨vl,ll,hvl,hrow,hcap,hbyt⟩:=zgU (hval 1 24 v1 rfl rfl) k1 (fun n hn=>by
  have:=List.all_eq_true.1 hsz n (DataW.weights_mem_each (j:=1) (t:=24) (d:=d1) rfl rfl n hn)
  simpa using this)
 subst hvl;have k2':=k2;have k3':=k3;have k4':=k4;have k5':=k5;have k6':=k6;obtain⟨n2,rfl,rfl,rfl,w2⟩:=open_int underlying3 (hval 2 3 v2 rfl rfl) k2;obtain⟨n3,rfl,rfl,rfl,w3⟩:=open_int underlying3 (hval 3 3 v3 rfl rfl) k3;obtain⟨n4,rfl,rfl,rfl,w4⟩:=open_int underlying3 (hval 4 3 v4 rfl rfl) k4;obtain⟨n5,rfl,rfl,rfl,w5⟩:=open_int underlying3 (hval 5 3 v5 rfl rfl) k5;obtain⟨n6,rfl,rfl,rfl,w6⟩:=open_int underlying3 (hval 6 3 v6 rfl rfl) k6;clear hA0 hval0 hsz0;refine(zgH cF cS cB vl ll n2 n3 n4 n5 n6 W hrow hcap hbyt).mono fun e W' ⟨he,bel⟩=>?_
 subst he;have stay:∀{t:TypeId} {v:Value} {d:DataW H} {ps:List MemPlace},Tryz.prog.readableRec t=true->t<Tryz.prog.types.size->DataW.Trod enc prog W 0 (fun _=>true) true t v d ps->(∀x∈ps,x.block<W.heap.size)->DataW.Trod enc prog W' 0 (fun b=>decide (b<W.heap.size)) true t v d ps:=
  fun h1 h2 h3 h4=>Below.trod laidOut h1 h2 h3 bel h4
 exact⟨_,rfl,_,_,_,[],_,[],hW',trodAll_mk1 (shut_bool underlying4 _),(trodAll_cons_mk (stay (by kernel_rfl) (of_decide_eq_true (by kernel_rfl)) k0 lt0) (trodAll_cons_mk (stay (by kernel_rfl) (of_decide_eq_true (by kernel_rfl)) k1 lt1) (trodAll_cons_mk (stay (by kernel_rfl) (of_decide_eq_true (by kernel_rfl)) k2' lt2) (trodAll_cons_mk (stay (by kernel_rfl) (of_decide_eq_true (by kernel_rfl)) k3' lt3) (trodAll_cons_mk (stay (by kernel_rfl) (of_decide_eq_true (by kernel_rfl)) k4' lt4) (trodAll_cons_mk (stay (by kernel_rfl) (of_decide_eq_true (by kernel_rfl)) k5' lt5) (trodAll_cons_mk (stay (by kernel_rfl) (of_decide_eq_true (by kernel_rfl)) k6' lt6) trodAll_mk0))))))),rfl,Below.frame bel _,fun h=>by cases h⟩
theorem zaU:Rows.machineTellsRow.holds Tryz.pinned (OpenSpec.ofChange Rows.machineTellsSpec):=
 OpenClaim.holds_of_wide 3 Tryz.f3 rfl rfl rfl rfl rfl rfl rfl ⟨rfl,rfl,rfl,rfl,rfl⟩ rfl rfl rfl rfl rfl (by kernel_rfl) func3 (by kernel_rfl)
  (of_decide_eq_true (by kernel_rfl)) (by unfold Func.isWrapper;first | (rw[if_pos (by decide+kernel)];kernel_rfl) | (rw[if_neg (by decide+kernel)];exact⟨rfl,rfl⟩))
  (fun os started H enc _=>zab os started H enc)
theorem machineTells_holds:Rows.MachineTellsSaid:=zaU
#print axioms machineTells_holds
end
end Go.Proofs.YtangilolcekceaaGreat
