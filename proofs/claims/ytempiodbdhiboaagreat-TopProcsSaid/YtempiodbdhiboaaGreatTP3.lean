import Derived.Test.YtempiodbdhiboaaGreatTP2
import Derived.Deep.Cut
import Derived.Laws.MakeOwn
import Derived.RangeFuncNested
import Derived.RangeFuncBound
import Derived.RangeFuncCalls
import Derived.RangeFuncLeaves
import Derived.Shelf.Abstract
import Derived.Shelf.RegionOpen
import Derived.WalkKit
import Derived.OwnWalkIn
import Derived.TacticsInMore
import Derived.LoopNIn
import Derived.LoopIn
namespace Go.Proofs.YtempiodbdhiboaaGreat
open Go.Value renaming slice→O,int→Xe,bool→Xh,agg→Xi,pointer→Xj,tuple→Xm
open Go.IntKind renaming i64→Xf,u8→Xg
open Go.Obj renaming cells→Xk
open Go.Ending renaming returned→Xl
open Go renaming World→Xn,Calls→Xp,Value→Xq
open Go.RowKit renaming Hid→Xo
open Option renaming some→Xa,none→Xb
open Bool renaming true→Xc,false→Xd
open List renaming replicate→Xr
open Go.Act renaming put→Xs
open _root_.List renaming getElem?_mapIdx→Xt,eq_of_mem_replicate→Xu,length_set→Xw,length_cons→Xy,mem_of_find?_eq_some→Ya,mem_or_eq_of_mem_set→Yb,ext_getElem?→Yc,take→Ye,drop→Yf,cons_append→Yg,length_nil→Yh,nil_append→Yi,reverse_append→Ym,append_toArray→Yn,find?_eq_none→Yp,getElem?_map→Yq,mem_map→Yr,find?_append→Ys,size_toArray→Yt,push_toArray→Yu
open Go.Sem renaming run_bind→Xv,run_pure→Xz
open Go.Addr renaming add_lit→Xx
open Go.Region renaming wanted→Yd
open _root_.Nat renaming le_of_ble_eq_true→Yj,lt_of_lt_of_le→Yo
open _root_.Array renaming replicate_succ→Yk,replicate_zero→Yl
set_option maxRecDepth 100000
set_option maxHeartbeats 4000000
section
open Go.RowKit
def frH (q:Fr) (n:Int):Fr:=if q.r+n=0 then frF else{ q with r:=q.r+n }
def holdE (fs:List Fr) (h k n:Int):Int:=if memW fs h=0 then(if inB k fs.length && !((fs.getD k.toNat fr0).r == 0)then(if -(fs.getD k.toNat fr0).r<=n/\n<=1000 -(fs.getD k.toNat fr0).r then 0 else 3)else 5)else memW fs h
def holdF (fs:List Fr) (h k n:Int):List Fr:=if holdE fs h k n=0 then fs.set k.toNat (frH (fs.getD k.toNat fr0) n)else []
def holdH (fs:List Fr) (h k n:Int):Int:=if holdE fs h k n=0 then h else 0
theorem frsW_all:∀{fs:List Fr},frsW fs=0->∀q∈fs,frW q=0
 | [],_,_,hq=>by cases hq
 | a :: l,h,q,hq=>by
  unfold frsW at h
  by_cases h0:frW a=0
  ·rw[if_pos h0]at h
   rcases mC.1 hq with rfl | h1
   ·exact h0
   exact frsW_all h q h1
  rw[if_neg h0]at h;exact absurd h h0
theorem memW_zero {fs:List Fr} {h:Int} (hz:memW fs h=0):fs.length<=40/\(∀q∈fs,frW q=0)/\0<=h/\h<max (fs.length:Int) 1:=by
 unfold memW at hz
 by_cases h1:40<fs.length
 ·rw[if_pos h1]at hz;omega
 rw[if_neg h1]at hz
 by_cases h2:frsW fs=0
 ·rw[if_pos h2]at hz
  cases hb:inB h (max fs.length 1)with
  | false=>rw[hb]at hz;simp at hz
  | true=>
   unfold inB at hb
   simp at hb
   exact⟨by omega,frsW_all h2,by omega,by omega⟩
 rw[if_neg h2]at hz;exact absurd hz h2
theorem frW_zero {q:Fr} (h:frW q=0):0<=q.r/\q.r<=1000:=by
 unfold frW at h
 by_cases h1:(inB q.r 1001 && inB q.x 12)=Xd
 ·rw[if_pos h1]at h;omega
 have h2:inB q.r 1001=Xc:=by
  cases hb:inB q.r 1001 with
  | true=>rfl
  | false=>rw[hb]at h1;simp at h1
 unfold inB at h2
 simp at h2
 omega
theorem frOwnRow.frc {base:Nat} {w:Xn} {g n c:Nat} {fs:List Fr} (h:frOwnRow base w (O (Xa ⟨g,0,Xb⟩) n c) fs) {i:Nat} {q:Fr} (hq:fs[i]? =Xa q) (j:Nat) {u:Xq} (hu:(frv q)[j]? =Xa u):w.cell? ⟨g,i*13+j,Xb⟩=Xa u:=by
 obtain⟨a',c',he,hr⟩:=h.at.rows;obtain⟨ad,he2,hc⟩:=hr i q hq;cases he;cases he2;have:=hc w (Grew.refl _) j u hu;rw[add_add',Xx,zA]at this;exact this
theorem hdA (a:Option Addr) (c:Nat) (fs:List Fr) (h:Int) (k:Int) (nn:Int) (w:Xn) (hv:frRowAt w (O a fs.length c) fs) (z:Int) (hz:memW fs h=z) (hzb:(z != 0)=Xc):
  Xp Tryz.prog 173 #[Xi #[O a fs.length c,Xe Xf h],Xe Xf k,Xe Xf nn] w fun e w'=>∃b,e= Xl (Xm #[Xi #[b,Xe Xf 0],Xe Xf z])/\frNewRow w.heap.size w' b ([]:List Fr)/\Grew w w':=by
 have HV:Xo (frRowAt w (O a fs.length c) fs):=hv;have hw:∀W,Grew w W->Xp Tryz.prog 58 #[Xi #[O a fs.length c,Xe Xf h]] W fun e w'=>e= Xl (Xe Xf (memW fs h))/\Grew W w':=fun W hW=>wrongMem_any a c fs h W (HV.out.grew hW)
 clear hv;simp only[hz]at hw;clear hz;obtain⟨n,HN⟩:∃n,Xo (fs.length=n):=⟨_,rfl⟩;simp only[HN.out]at hw HV⊢;obtain⟨W0,hW0⟩:∃W0,(w.alloc (Xk #[O a n c,Xe Xf h] 29)).alloc (Xk #[O Xb 0 0,Xe Xf 0] 29)=W0:=⟨_,rfl⟩;have HG0:=gD2 hW0
 have X0:=x2a hW0
 have X2:=x2b hW0
 have HW0:Xo (_=W0):=hW0;clear hW0
 go_enter Tryz.func173,Tryz.ntmps173
 go_upto_region 1 with fail;rw[HW0.out];have e0:=X0.out.c 0 rfl;have e1:=X0.out.c 1 rfl;go_wp2_with fail;refine(hw _ HG0.out).mono ?_;rintro e W1 ⟨rfl,g1⟩;have G1:Xo (Grew W0 W1):=g1;clear g1 e0 e1 hw;have r0:=(X2.out.grew G1.out).c 0 rfl;have r1:=(X2.out.grew G1.out).c 1 rfl;have rf:=(X2.out.grew G1.out).f;go_wp2;refine bodyPost_ret (v:= Xm #[Xi #[O Xb 0 0,Xe Xf 0],Xe Xf z]) (by simp[results,Tryz.results173,go_sem, *]) rfl ⟨_,rfl,frNewRow.nil _ _,?_⟩
 exact grew_set (grew_set (HG0.out.trans G1.out) (by simp) _) (by simp) _
theorem hdB (a:Option Addr) (c:Nat) (fs:List Fr) (h:Int) (k:Int) (nn:Int) (w:Xn) (hv:frRowAt w (O a fs.length c) fs) (hz:memW fs h=0) (hkb:inB k fs.length=Xd):
  Xp Tryz.prog 173 #[Xi #[O a fs.length c,Xe Xf h],Xe Xf k,Xe Xf nn] w fun e w'=>∃b,e= Xl (Xm #[Xi #[b,Xe Xf 0],Xe Xf 5])/\frNewRow w.heap.size w' b ([]:List Fr)/\Grew w w':=by
 have HV:Xo (frRowAt w (O a fs.length c) fs):=hv;have hw:∀W,Grew w W->Xp Tryz.prog 58 #[Xi #[O a fs.length c,Xe Xf h]] W fun e w'=>e= Xl (Xe Xf (memW fs h))/\Grew W w':=fun W hW=>wrongMem_any a c fs h W (HV.out.grew hW)
 have hbl:∀W,Xp Tryz.prog 109 #[Xe Xf k,Xe Xf (fs.length:Int)] W fun e w'=>e= Xl (Xh (inB k fs.length))/\w'=W:=fun W=>frBelow_any k _ W
 simp only[hkb]at hbl;clear hkb;have hbig:=hv.short;clear hv;simp only[hz]at hw;clear hz;obtain⟨n,HN⟩:∃n,Xo (fs.length=n):=⟨_,rfl⟩;simp only[HN.out]at hw HV hbig hbl⊢;obtain⟨W0,hW0⟩:∃W0,(w.alloc (Xk #[O a n c,Xe Xf h] 29)).alloc (Xk #[O Xb 0 0,Xe Xf 0] 29)=W0:=⟨_,rfl⟩;have HG0:=gD2 hW0
 have X0:=x2a hW0
 have X2:=x2b hW0
 have HW0:Xo (_=W0):=hW0;clear hW0
 go_enter Tryz.func173,Tryz.ntmps173
 go_upto_region 1 with fail;rw[HW0.out];have e0:=X0.out.c 0 rfl;have e1:=X0.out.c 1 rfl;go_wp2_with fail;refine(hw _ HG0.out).mono ?_;rintro e W1 ⟨rfl,g1⟩;have G1:Xo (Grew W0 W1):=g1;clear g1 e0 e1 hw;have e0:=(X0.out.grew G1.out).c 0 rfl;have r0:=(X2.out.grew G1.out).c 0 rfl;have r1:=(X2.out.grew G1.out).c 1 rfl;have rf:=(X2.out.grew G1.out).f
 go_wp2_with (go_at_call 109;refine(hbl _).mono ?_;rintro e w' ⟨rfl,hw'⟩;rw[hw'];clear hw' w')
 refine bodyPost_ret (v:= Xm #[Xi #[O Xb 0 0,Xe Xf 0],Xe Xf 5]) (by simp[results,Tryz.results173,go_sem, *]) rfl ⟨_,rfl,frNewRow.nil _ _,?_⟩
 exact grew_set (grew_set (HG0.out.trans G1.out) (by simp) _) (by simp) _
theorem hdC (a:Option Addr) (c:Nat) (fs:List Fr) (h:Int) (i:Nat) (q:Fr) (nn:Int) (w:Xn) (hv:frRowAt w (O a fs.length c) fs) (hz:memW fs h=0) (hq:fs[i]? =Xa q) (hr:(q.r == 0)=Xc):
  Xp Tryz.prog 173 #[Xi #[O a fs.length c,Xe Xf h],Xe Xf (i:Int),Xe Xf nn] w fun e w'=>∃b,e= Xl (Xm #[Xi #[b,Xe Xf 0],Xe Xf 5])/\frNewRow w.heap.size w' b ([]:List Fr)/\Grew w w':=by
 have HV:Xo (frRowAt w (O a fs.length c) fs):=hv;have hw:∀W,Grew w W->Xp Tryz.prog 58 #[Xi #[O a fs.length c,Xe Xf h]] W fun e w'=>e= Xl (Xe Xf (memW fs h))/\Grew W w':=fun W hW=>wrongMem_any a c fs h W (HV.out.grew hW)
 have hbl:∀W,Xp Tryz.prog 109 #[Xe Xf (i:Int),Xe Xf (fs.length:Int)] W fun e w'=>e= Xl (Xh (inB (i:Int) fs.length))/\w'=W:=fun W=>frBelow_any (i:Int) _ W
 have hb1000:=frW_zero ((memW_zero hz).2.1 q (mG hq));have hil:i<fs.length:=(gS.1 hq).1;obtain⟨a',c',heq,hrow⟩:=hv.frs;cases heq;obtain⟨ad,rfl,hl⟩:=hrow i q hq;have HL:Xo (∀W,Grew w W->FrCells W (ad.add (i*13)) q):=hl;have HQ:Xo (fs[i]? =Xa q):=hq;clear hrow hl hq;simp only[show inB (i:Int) fs.length=Xc from by simp[inB];exact hil]at hbl
 have hbig:=hv.short;clear hv;simp only[hz]at hw;clear hz;obtain⟨n,HN⟩:∃n,Xo (fs.length=n):=⟨_,rfl⟩;simp only[HN.out]at hw HV hbig hbl hil⊢;have hiz:(i:Int)< (n:Int):=by omega
 obtain⟨hb1,hb2⟩:=hb1000;obtain⟨W0,hW0⟩:∃W0,(w.alloc (Xk #[O (Xa ad) n c,Xe Xf h] 29)).alloc (Xk #[O Xb 0 0,Xe Xf 0] 29)=W0:=⟨_,rfl⟩;have HG0:=gD2 hW0
 have X0:=x2a hW0
 have X2:=x2b hW0
 have HW0:Xo (_=W0):=hW0;clear hW0
 go_enter Tryz.func173,Tryz.ntmps173
 go_upto_region 1 with fail;rw[HW0.out];have e0:=X0.out.c 0 rfl;have e1:=X0.out.c 1 rfl;go_wp2_with fail;refine(hw _ HG0.out).mono ?_;rintro e W1 ⟨rfl,g1⟩;have G1:Xo (Grew W0 W1):=g1;clear g1 e0 e1 hw;obtain⟨-,-,-,-,-,-,-,-,d8,-,-,-,-⟩:=HL.out W1 (HG0.out.trans G1.out);have e0:=(X0.out.grew G1.out).c 0 rfl;have r0:=(X2.out.grew G1.out).c 0 rfl;have r1:=(X2.out.grew G1.out).c 1 rfl;have rf:=(X2.out.grew G1.out).f
 go_wp2_with (go_at_call 109;refine(hbl _).mono ?_;rintro e w' ⟨rfl,hw'⟩;rw[hw'];clear hw' w')
 refine bodyPost_ret (v:= Xm #[Xi #[O Xb 0 0,Xe Xf 0],Xe Xf 5]) (by simp[results,Tryz.results173,go_sem, *]) rfl ⟨_,rfl,frNewRow.nil _ _,?_⟩
 exact grew_set (grew_set (HG0.out.trans G1.out) (by simp) _) (by simp) _
theorem hdD (a:Option Addr) (c:Nat) (fs:List Fr) (h:Int) (i:Nat) (q:Fr) (nn:Int) (w:Xn) (hv:frRowAt w (O a fs.length c) fs) (hz:memW fs h=0) (hq:fs[i]? =Xa q) (hr:(q.r == 0)=Xd) (hn:nn< -q.r):
  Xp Tryz.prog 173 #[Xi #[O a fs.length c,Xe Xf h],Xe Xf (i:Int),Xe Xf nn] w fun e w'=>∃b,e= Xl (Xm #[Xi #[b,Xe Xf 0],Xe Xf 3])/\frNewRow w.heap.size w' b ([]:List Fr)/\Grew w w':=by
 have HV:Xo (frRowAt w (O a fs.length c) fs):=hv;have hw:∀W,Grew w W->Xp Tryz.prog 58 #[Xi #[O a fs.length c,Xe Xf h]] W fun e w'=>e= Xl (Xe Xf (memW fs h))/\Grew W w':=fun W hW=>wrongMem_any a c fs h W (HV.out.grew hW)
 have hbl:∀W,Xp Tryz.prog 109 #[Xe Xf (i:Int),Xe Xf (fs.length:Int)] W fun e w'=>e= Xl (Xh (inB (i:Int) fs.length))/\w'=W:=fun W=>frBelow_any (i:Int) _ W
 have hb1000:=frW_zero ((memW_zero hz).2.1 q (mG hq));have hil:i<fs.length:=(gS.1 hq).1;obtain⟨a',c',heq,hrow⟩:=hv.frs;cases heq;obtain⟨ad,rfl,hl⟩:=hrow i q hq;have HL:Xo (∀W,Grew w W->FrCells W (ad.add (i*13)) q):=hl;have HQ:Xo (fs[i]? =Xa q):=hq;clear hrow hl hq;simp only[show inB (i:Int) fs.length=Xc from by simp[inB];exact hil]at hbl
 have hbig:=hv.short;clear hv;simp only[hz]at hw;clear hz;obtain⟨n,HN⟩:∃n,Xo (fs.length=n):=⟨_,rfl⟩;simp only[HN.out]at hw HV hbig hbl hil⊢;have hiz:(i:Int)< (n:Int):=by omega
 obtain⟨hb1,hb2⟩:=hb1000;obtain⟨W0,hW0⟩:∃W0,(w.alloc (Xk #[O (Xa ad) n c,Xe Xf h] 29)).alloc (Xk #[O Xb 0 0,Xe Xf 0] 29)=W0:=⟨_,rfl⟩;have HG0:=gD2 hW0
 have X0:=x2a hW0
 have X2:=x2b hW0
 have HW0:Xo (_=W0):=hW0;clear hW0
 go_enter Tryz.func173,Tryz.ntmps173
 go_upto_region 1 with fail;rw[HW0.out];have e0:=X0.out.c 0 rfl;have e1:=X0.out.c 1 rfl;go_wp2_with fail;refine(hw _ HG0.out).mono ?_;rintro e W1 ⟨rfl,g1⟩;have G1:Xo (Grew W0 W1):=g1;clear g1 e0 e1 hw;obtain⟨-,-,-,-,-,-,-,-,d8,-,-,-,-⟩:=HL.out W1 (HG0.out.trans G1.out);have e0:=(X0.out.grew G1.out).c 0 rfl;have r0:=(X2.out.grew G1.out).c 0 rfl;have r1:=(X2.out.grew G1.out).c 1 rfl;have rf:=(X2.out.grew G1.out).f
 go_wp2_with (go_at_call 109;refine(hbl _).mono ?_;rintro e w' ⟨rfl,hw'⟩;rw[hw'];clear hw' w')
 refine bodyPost_ret (v:= Xm #[Xi #[O Xb 0 0,Xe Xf 0],Xe Xf 3]) (by simp[results,Tryz.results173,go_sem, *]) rfl ⟨_,rfl,frNewRow.nil _ _,?_⟩
 exact grew_set (grew_set (HG0.out.trans G1.out) (by simp) _) (by simp) _
theorem hdE (a:Option Addr) (c:Nat) (fs:List Fr) (h:Int) (i:Nat) (q:Fr) (nn:Int) (w:Xn) (hv:frRowAt w (O a fs.length c) fs) (hz:memW fs h=0) (hq:fs[i]? =Xa q) (hr:(q.r == 0)=Xd) (hn:¬nn< -q.r) (hn2:1000 - q.r<nn):
  Xp Tryz.prog 173 #[Xi #[O a fs.length c,Xe Xf h],Xe Xf (i:Int),Xe Xf nn] w fun e w'=>∃b,e= Xl (Xm #[Xi #[b,Xe Xf 0],Xe Xf 3])/\frNewRow w.heap.size w' b ([]:List Fr)/\Grew w w':=by
 have HV:Xo (frRowAt w (O a fs.length c) fs):=hv;have hw:∀W,Grew w W->Xp Tryz.prog 58 #[Xi #[O a fs.length c,Xe Xf h]] W fun e w'=>e= Xl (Xe Xf (memW fs h))/\Grew W w':=fun W hW=>wrongMem_any a c fs h W (HV.out.grew hW)
 have hbl:∀W,Xp Tryz.prog 109 #[Xe Xf (i:Int),Xe Xf (fs.length:Int)] W fun e w'=>e= Xl (Xh (inB (i:Int) fs.length))/\w'=W:=fun W=>frBelow_any (i:Int) _ W
 have hb1000:=frW_zero ((memW_zero hz).2.1 q (mG hq));have hil:i<fs.length:=(gS.1 hq).1;obtain⟨a',c',heq,hrow⟩:=hv.frs;cases heq;obtain⟨ad,rfl,hl⟩:=hrow i q hq;have HL:Xo (∀W,Grew w W->FrCells W (ad.add (i*13)) q):=hl;have HQ:Xo (fs[i]? =Xa q):=hq;clear hrow hl hq;simp only[show inB (i:Int) fs.length=Xc from by simp[inB];exact hil]at hbl
 have hbig:=hv.short;clear hv;simp only[hz]at hw;clear hz;obtain⟨n,HN⟩:∃n,Xo (fs.length=n):=⟨_,rfl⟩;simp only[HN.out]at hw HV hbig hbl hil⊢;have hiz:(i:Int)< (n:Int):=by omega
 obtain⟨hb1,hb2⟩:=hb1000;obtain⟨W0,hW0⟩:∃W0,(w.alloc (Xk #[O (Xa ad) n c,Xe Xf h] 29)).alloc (Xk #[O Xb 0 0,Xe Xf 0] 29)=W0:=⟨_,rfl⟩;have HG0:=gD2 hW0
 have X0:=x2a hW0
 have X2:=x2b hW0
 have HW0:Xo (_=W0):=hW0;clear hW0
 go_enter Tryz.func173,Tryz.ntmps173
 go_upto_region 1 with fail;rw[HW0.out];have e0:=X0.out.c 0 rfl;have e1:=X0.out.c 1 rfl;go_wp2_with fail;refine(hw _ HG0.out).mono ?_;rintro e W1 ⟨rfl,g1⟩;have G1:Xo (Grew W0 W1):=g1;clear g1 e0 e1 hw;obtain⟨-,-,-,-,-,-,-,-,d8,-,-,-,-⟩:=HL.out W1 (HG0.out.trans G1.out);have e0:=(X0.out.grew G1.out).c 0 rfl;have r0:=(X2.out.grew G1.out).c 0 rfl;have r1:=(X2.out.grew G1.out).c 1 rfl;have rf:=(X2.out.grew G1.out).f
 go_wp2_with (go_at_call 109;refine(hbl _).mono ?_;rintro e w' ⟨rfl,hw'⟩;rw[hw'];clear hw' w')
 refine bodyPost_ret (v:= Xm #[Xi #[O Xb 0 0,Xe Xf 0],Xe Xf 3]) (by simp[results,Tryz.results173,go_sem, *]) rfl ⟨_,rfl,frNewRow.nil _ _,?_⟩
 exact grew_set (grew_set (HG0.out.trans G1.out) (by simp) _) (by simp) _
theorem hdF (a:Option Addr) (c:Nat) (fs:List Fr) (h:Int) (i:Nat) (q:Fr) (nn:Int) (w:Xn) (hv:frRowAt w (O a fs.length c) fs) (hz:memW fs h=0) (hq:fs[i]? =Xa q) (hr:(q.r == 0)=Xd) (hn:¬nn< -q.r) (hn2:¬1000 - q.r<nn) (hs:q.r+nn=0):
  Xp Tryz.prog 173 #[Xi #[O a fs.length c,Xe Xf h],Xe Xf (i:Int),Xe Xf nn] w fun e w'=>∃b,e= Xl (Xm #[Xi #[b,Xe Xf h],Xe Xf 0])/\frNewRow w.heap.size w' b (fs.set i frF)/\Grew w w':=by
 have HV:Xo (frRowAt w (O a fs.length c) fs):=hv;have HS:Xo (q.r+nn=0):=hs;clear hs;have hw:∀W,Grew w W->Xp Tryz.prog 58 #[Xi #[O a fs.length c,Xe Xf h]] W fun e w'=>e= Xl (Xe Xf (memW fs h))/\Grew W w':=fun W hW=>wrongMem_any a c fs h W (HV.out.grew hW)
 have hbl:∀W,Xp Tryz.prog 109 #[Xe Xf (i:Int),Xe Xf (fs.length:Int)] W fun e w'=>e= Xl (Xh (inB (i:Int) fs.length))/\w'=W:=fun W=>frBelow_any (i:Int) _ W
 have ho:∀W,Grew w W->Xp Tryz.prog 51 #[Xi #[O a fs.length c,Xe Xf h]] W fun e w'=>∃b,e= Xl (Xi #[b,Xe Xf h])/\frOwnRow W.heap.size w' b fs/\Grew W w':=fun W hW=>ownMem_any a c fs h W (HV.out.grew hW)
 have hb1000:=frW_zero ((memW_zero hz).2.1 q (mG hq));have hil:i<fs.length:=(gS.1 hq).1;obtain⟨a',c',heq,hrow⟩:=hv.frs;cases heq;obtain⟨ad,rfl,hl⟩:=hrow i q hq;have HL:Xo (∀W,Grew w W->FrCells W (ad.add (i*13)) q):=hl;have HQ:Xo (fs[i]? =Xa q):=hq;clear hrow hl hq;simp only[show inB (i:Int) fs.length=Xc from by simp[inB];exact hil]at hbl
 have hbig:=hv.short;clear hv;simp only[hz]at hw;clear hz;obtain⟨n,HN⟩:∃n,Xo (fs.length=n):=⟨_,rfl⟩;simp only[HN.out]at hw HV hbig hbl ho hil⊢;have hiz:(i:Int)< (n:Int):=by omega
 obtain⟨hb1,hb2⟩:=hb1000;obtain⟨W0,hW0⟩:∃W0,(w.alloc (Xk #[O (Xa ad) n c,Xe Xf h] 29)).alloc (Xk #[O Xb 0 0,Xe Xf 0] 29)=W0:=⟨_,rfl⟩;have HG0:=gD2 hW0
 have X0:=x2a hW0
 have X2:=x2b hW0
 have HW0:Xo (_=W0):=hW0;clear hW0
 go_enter Tryz.func173,Tryz.ntmps173
 go_upto_region 1 with fail;rw[HW0.out];have e0:=X0.out.c 0 rfl;have e1:=X0.out.c 1 rfl;go_wp2_with fail;refine(hw _ HG0.out).mono ?_;rintro e W1 ⟨rfl,g1⟩;have G1:Xo (Grew W0 W1):=g1;clear g1 e0 e1 hw;obtain⟨-,-,-,-,-,-,-,-,d8,-,-,-,-⟩:=HL.out W1 (HG0.out.trans G1.out);have e0:=(X0.out.grew G1.out).c 0 rfl;have e1:=(X0.out.grew G1.out).c 1 rfl
 go_wp2_with (go_at_call 109;refine(hbl _).mono ?_;rintro e w' ⟨rfl,hw'⟩;rw[hw'];clear hw' w')
 refine(ho _ (HG0.out.trans G1.out)).mono ?_;rintro e W4 ⟨b,rfl,hown,g4⟩;obtain⟨g,cv,rfl⟩:=hown.formS (by rw[HN.out];omega)
 rw[HN.out]at hown⊢;have OW:Xo (frOwnRow W1.heap.size W4 (O (Xa ⟨g,0,Xb⟩) n cv) fs):=hown;have G4:=dD (G1.out.trans g4);have g34:Xo (W1.heap.size<=W4.heap.size):=bS g4;clear hown g4 e0 e1 ho d8;have hgl:=OW.out.lt g rfl;have hne:g≠W4.heap.size:=by omega
 have u8:=(OW.out.grew (grew_alloc W4 (Xk #[O (Xa ⟨g,0,Xb⟩) n cv,Xe Xf h] 29))).frc HQ.out 8 rfl
 go_wp2_with (refine frWpList_store_part rfl (.tmp 61) (.tmp 59) 3 rfl W1.heap.size (O (Xa ⟨g,0,Xb⟩) n cv) fs (OW.out.grew (grew_alloc _ _)) g i 8 rfl q { q with r:=q.r+nn } HQ.out [Xe Xf (q.r+nn)] (by kernel_rfl) rfl (Yj rfl) (by intro u hu;simp at hu;subst hu;rfl) _ rfl (by simp) _ rfl rfl ?_)
 intro W5 ow5 gr5 sz5;have OW5:Xo (frOwnRow W1.heap.size W5 (O (Xa ⟨g,0,Xb⟩) n cv) (fs.set i { q with r:=q.r+nn })):=ow5;have h34:=g34.out;have h03:W0.heap.size<=W1.heap.size:=bS G1.out;have hx2:=X2.out.lt;have XO:Xo (Box W5 W4.heap.size [O (Xa ⟨g,0,Xb⟩) n cv,Xe Xf h]):=(Box.top W4 _ _ rfl).beside gr5 (fun g' hg'=>by cases hg';omega)
 have X25:Xo (Box W5 (w.heap.size+1) [O Xb 0 0,Xe Xf 0]):=((X2.out.grew G4.out).alloc _).beside gr5 (fun g' hg'=>by cases hg';omega)
 have G5:Xo (Grew W0 W5):=grew_beside (G4.out.trans (grew_alloc _ _)) gr5 (fun g' hg'=>by cases hg';omega)
 have HQ5:Xo ((fs.set i { q with r:=q.r+nn })[i]? =Xa { q with r:=q.r+nn }):=show _=_ by rw[sF (by rw[HN.out];exact hil)]
 clear ow5 gr5 sz5 u8;have u8:=OW5.out.frc HQ5.out 8 rfl;have o0:=XO.out.c 0 rfl;have o1:=XO.out.c 1 rfl;have r0:=X25.out.c 0 rfl;have r1:=X25.out.c 1 rfl;have rf:=X25.out.f;simp only at u8;have hsb:(q.r+nn == 0)=Xc:=by simp[HS.out]
 go_wp2;have hx0:∀x:GrownW W5,x.world.cell? ⟨W4.heap.size,0,Xb⟩=Xa (O (Xa ⟨g,0,Xb⟩) n cv):=fun x=>(XO.out.grew x.grew).c 0 rfl
 have hne5:Nonempty (GrownW W5):=⟨⟨_,Grew.refl _⟩⟩;clear u8 o0 o1 r0 r1 rf;refine wp_lax_tail 5 [(3,⟨fun v=>v= Xi (frv frF).toArray,fun _ _=>True⟩)] mixed (by kernel_rfl) rfl rfl (by decide) ?_ ?_ ?_
 ·intro x hx
  simp at hx
  subst hx;exact⟨_,rfl⟩
 ·intro x hx
  simp at hx
  subst hx;exact fun _ _ _ _ h=>h
 simp only[Ye,Yf];iterate 3 (refine lax_quiet rfl rfl rfl (fun K hK=>?_);go_big_quiet_op;refine hK _ ?_;clear hK K)
 refine lax_spec rfl rfl (fun w' hg hF=>?_) (fun v1 hv=>?_)
 ·refine Does.call [] rfl Tryz.func26 rfl rfl rfl ?_;refine(freeFrame_any w').mono ?_;rintro e w'' ⟨rfl,hg2⟩;exact⟨_,rfl,hg2,rfl,trivial⟩
 subst hv;simp only[Xs,sB,sS,sZ,frv,frF,pg0];iterate 1 (refine lax_quiet rfl rfl rfl (fun K hK=>?_);go_big_quiet_op;refine hK _ ?_;clear hK K)
 refine lax_nil fun W6 hg6 hF=>?_
 have OW6:=dD (OW5.out.grew hg6);have XO6:=dD (XO.out.grew hg6);have X26:=dD (X25.out.grew hg6);have G6:=dD (G5.out.trans hg6);clear hF hx0 hg6 hne5
 go_wp2_with (refine frWpList_store_elt rfl (.tmp 73) (.tmp 72) rfl W1.heap.size _ _ OW6.out g i rfl frF (by rw[Xw,HN.out];exact hil) _ rfl (by simp) _ rfl rfl ?_)
 intro W7 ow7 gr7 sz7;have OW7:Xo (frOwnRow W1.heap.size W7 (O (Xa ⟨g,0,Xb⟩) n cv) (fs.set i frF)):=ow7;have XO7:Xo (Box W7 W4.heap.size [O (Xa ⟨g,0,Xb⟩) n cv,Xe Xf h]):=XO6.out.beside gr7 (fun g' hg'=>by cases hg';omega)
 have X27:Xo (Box W7 (w.heap.size+1) [O Xb 0 0,Xe Xf 0]):=X26.out.beside gr7 (fun g' hg'=>by cases hg';omega)
 have G7:Xo (Grew W0 W7):=grew_beside G6.out gr7 (fun g' hg'=>by cases hg';omega)
 clear ow7 gr7 sz7;have o0:=XO7.out.c 0 rfl;have o1:=XO7.out.c 1 rfl;have r0:=X27.out.c 0 rfl;have r1:=X27.out.c 1 rfl;have rf:=X27.out.f;go_wp2;refine bodyPost_ret (v:= Xm #[Xi #[O (Xa ⟨g,0,Xb⟩) n cv,Xe Xf h],Xe Xf 0]) (by simp[results,Tryz.results173,go_sem, *]) rfl ⟨_,rfl,?_,?_⟩
 ·exact((OW7.out.new.setCell (a:=⟨w.heap.size+1,0,Xb⟩) (by show w.heap.size+1<_;omega) _).setCell (a:=⟨w.heap.size+1,1,Xb⟩) (by show w.heap.size+1<_;omega) _).base (by have:=bS HG0.out;omega)
 exact grew_set (grew_set (HG0.out.trans G7.out) (by simp) _) (by simp) _
theorem hdG (a:Option Addr) (c:Nat) (fs:List Fr) (h:Int) (i:Nat) (q:Fr) (nn:Int) (w:Xn) (hv:frRowAt w (O a fs.length c) fs) (hz:memW fs h=0) (hq:fs[i]? =Xa q) (hr:(q.r == 0)=Xd) (hn:¬nn< -q.r) (hn2:¬1000 - q.r<nn) (hs:(q.r+nn == 0)=Xd):
  Xp Tryz.prog 173 #[Xi #[O a fs.length c,Xe Xf h],Xe Xf (i:Int),Xe Xf nn] w fun e w'=>∃b,e= Xl (Xm #[Xi #[b,Xe Xf h],Xe Xf 0])/\frNewRow w.heap.size w' b (fs.set i { q with r:=q.r+nn })/\Grew w w':=by
 have HV:Xo (frRowAt w (O a fs.length c) fs):=hv;have hw:∀W,Grew w W->Xp Tryz.prog 58 #[Xi #[O a fs.length c,Xe Xf h]] W fun e w'=>e= Xl (Xe Xf (memW fs h))/\Grew W w':=fun W hW=>wrongMem_any a c fs h W (HV.out.grew hW)
 have hbl:∀W,Xp Tryz.prog 109 #[Xe Xf (i:Int),Xe Xf (fs.length:Int)] W fun e w'=>e= Xl (Xh (inB (i:Int) fs.length))/\w'=W:=fun W=>frBelow_any (i:Int) _ W
 have ho:∀W,Grew w W->Xp Tryz.prog 51 #[Xi #[O a fs.length c,Xe Xf h]] W fun e w'=>∃b,e= Xl (Xi #[b,Xe Xf h])/\frOwnRow W.heap.size w' b fs/\Grew W w':=fun W hW=>ownMem_any a c fs h W (HV.out.grew hW)
 have hb1000:=frW_zero ((memW_zero hz).2.1 q (mG hq));have hil:i<fs.length:=(gS.1 hq).1;obtain⟨a',c',heq,hrow⟩:=hv.frs;cases heq;obtain⟨ad,rfl,hl⟩:=hrow i q hq;have HL:Xo (∀W,Grew w W->FrCells W (ad.add (i*13)) q):=hl;have HQ:Xo (fs[i]? =Xa q):=hq;clear hrow hl hq;simp only[show inB (i:Int) fs.length=Xc from by simp[inB];exact hil]at hbl
 have hbig:=hv.short;clear hv;simp only[hz]at hw;clear hz;obtain⟨n,HN⟩:∃n,Xo (fs.length=n):=⟨_,rfl⟩;simp only[HN.out]at hw HV hbig hbl ho hil⊢;have hiz:(i:Int)< (n:Int):=by omega
 obtain⟨hb1,hb2⟩:=hb1000;obtain⟨W0,hW0⟩:∃W0,(w.alloc (Xk #[O (Xa ad) n c,Xe Xf h] 29)).alloc (Xk #[O Xb 0 0,Xe Xf 0] 29)=W0:=⟨_,rfl⟩;have HG0:=gD2 hW0
 have X0:=x2a hW0
 have X2:=x2b hW0
 have HW0:Xo (_=W0):=hW0;clear hW0
 go_enter Tryz.func173,Tryz.ntmps173
 go_upto_region 1 with fail;rw[HW0.out];have e0:=X0.out.c 0 rfl;have e1:=X0.out.c 1 rfl;go_wp2_with fail;refine(hw _ HG0.out).mono ?_;rintro e W1 ⟨rfl,g1⟩;have G1:Xo (Grew W0 W1):=g1;clear g1 e0 e1 hw;obtain⟨-,-,-,-,-,-,-,-,d8,-,-,-,-⟩:=HL.out W1 (HG0.out.trans G1.out);have e0:=(X0.out.grew G1.out).c 0 rfl;have e1:=(X0.out.grew G1.out).c 1 rfl
 go_wp2_with (go_at_call 109;refine(hbl _).mono ?_;rintro e w' ⟨rfl,hw'⟩;rw[hw'];clear hw' w')
 refine(ho _ (HG0.out.trans G1.out)).mono ?_;rintro e W4 ⟨b,rfl,hown,g4⟩;obtain⟨g,cv,rfl⟩:=hown.formS (by rw[HN.out];omega)
 rw[HN.out]at hown⊢;have OW:Xo (frOwnRow W1.heap.size W4 (O (Xa ⟨g,0,Xb⟩) n cv) fs):=hown;have G4:=dD (G1.out.trans g4);have g34:Xo (W1.heap.size<=W4.heap.size):=bS g4;clear hown g4 e0 e1 ho d8;have hgl:=OW.out.lt g rfl;have hne:g≠W4.heap.size:=by omega
 have u8:=(OW.out.grew (grew_alloc W4 (Xk #[O (Xa ⟨g,0,Xb⟩) n cv,Xe Xf h] 29))).frc HQ.out 8 rfl
 go_wp2_with (refine frWpList_store_part rfl (.tmp 61) (.tmp 59) 3 rfl W1.heap.size (O (Xa ⟨g,0,Xb⟩) n cv) fs (OW.out.grew (grew_alloc _ _)) g i 8 rfl q { q with r:=q.r+nn } HQ.out [Xe Xf (q.r+nn)] (by kernel_rfl) rfl (Yj rfl) (by intro u hu;simp at hu;subst hu;rfl) _ rfl (by simp) _ rfl rfl ?_)
 intro W5 ow5 gr5 sz5;have OW5:Xo (frOwnRow W1.heap.size W5 (O (Xa ⟨g,0,Xb⟩) n cv) (fs.set i { q with r:=q.r+nn })):=ow5;have h34:=g34.out;have h03:W0.heap.size<=W1.heap.size:=bS G1.out;have hx2:=X2.out.lt;have XO:Xo (Box W5 W4.heap.size [O (Xa ⟨g,0,Xb⟩) n cv,Xe Xf h]):=(Box.top W4 _ _ rfl).beside gr5 (fun g' hg'=>by cases hg';omega)
 have X25:Xo (Box W5 (w.heap.size+1) [O Xb 0 0,Xe Xf 0]):=((X2.out.grew G4.out).alloc _).beside gr5 (fun g' hg'=>by cases hg';omega)
 have G5:Xo (Grew W0 W5):=grew_beside (G4.out.trans (grew_alloc _ _)) gr5 (fun g' hg'=>by cases hg';omega)
 have HQ5:Xo ((fs.set i { q with r:=q.r+nn })[i]? =Xa { q with r:=q.r+nn }):=show _=_ by rw[sF (by rw[HN.out];exact hil)]
 clear ow5 gr5 sz5 u8;have u8:=OW5.out.frc HQ5.out 8 rfl;have o0:=XO.out.c 0 rfl;have o1:=XO.out.c 1 rfl;have r0:=X25.out.c 0 rfl;have r1:=X25.out.c 1 rfl;have rf:=X25.out.f;simp only at u8;go_wp2;refine bodyPost_ret (v:= Xm #[Xi #[O (Xa ⟨g,0,Xb⟩) n cv,Xe Xf h],Xe Xf 0]) (by simp[results,Tryz.results173,go_sem, *]) rfl ⟨_,rfl,?_,?_⟩
 ·exact((OW5.out.new.setCell (a:=⟨w.heap.size+1,0,Xb⟩) (by show w.heap.size+1<_;omega) _).setCell (a:=⟨w.heap.size+1,1,Xb⟩) (by show w.heap.size+1<_;omega) _).base (by have:=bS HG0.out;omega)
 exact grew_set (grew_set (HG0.out.trans G5.out) (by simp) _) (by simp) _
theorem hold_any (a:Option Addr) (c:Nat) (fs:List Fr) (h k nn:Int) (w:Xn) (hv:frRowAt w (O a fs.length c) fs):
  Xp Tryz.prog 173 #[Xi #[O a fs.length c,Xe Xf h],Xe Xf k,Xe Xf nn] w fun e w'=>∃b,e= Xl (Xm #[Xi #[b,Xe Xf (holdH fs h k nn)],Xe Xf (holdE fs h k nn)])/\frNewRow w.heap.size w' b (holdF fs h k nn)/\Grew w w':=by
 unfold holdH holdF
 by_cases hz:memW fs h=0
 ·cases hkb:inB k fs.length with
  | false=>
   rw[show holdE fs h k nn=5 from by unfold holdE;rw[if_pos hz,hkb];rfl,if_neg (by decide),if_neg (by decide)]
   exact hdB a c fs h k nn w hv hz hkb
  | true=>
   have hkb':=hkb;unfold inB at hkb'
   simp at hkb'
   obtain⟨i,rfl⟩:=Int.eq_ofNat_of_zero_le hkb'.1;have hil:i<fs.length:=by omega
   obtain⟨q,hq⟩:∃q,fs[i]? =Xa q:=⟨_,gE hil⟩;have hgd:fs.getD (i:Int).toNat fr0=q:=by rw[tN,gD,hq];rfl
   cases hr:(q.r == 0)with
   | true=>
    rw[show holdE fs h i nn=5 from by unfold holdE;rw[if_pos hz,hkb,hgd,hr];rfl,if_neg (by decide),if_neg (by decide)]
    exact hdC a c fs h i q nn w hv hz hq hr
   | false=>
    by_cases h1:nn< -q.r
    ·rw[show holdE fs h i nn=3 from by unfold holdE;rw[if_pos hz,hkb,hgd,hr,if_pos (by decide),if_neg (by omega)],if_neg (by decide),if_neg (by decide)]
     exact hdD a c fs h i q nn w hv hz hq hr h1
    by_cases h2:1000 - q.r<nn
    ·rw[show holdE fs h i nn=3 from by unfold holdE;rw[if_pos hz,hkb,hgd,hr,if_pos (by decide),if_neg (by omega)],if_neg (by decide),if_neg (by decide)]
     exact hdE a c fs h i q nn w hv hz hq hr h1 h2
    rw[show holdE fs h i nn=0 from by unfold holdE;rw[if_pos hz,hkb,hgd,hr,if_pos (by decide),if_pos (by omega)],if_pos rfl,if_pos rfl,hgd,tN]
    by_cases h3:q.r+nn=0
    ·rw[show frH q nn=frF from if_pos h3]
     exact hdF a c fs h i q nn w hv hz hq hr h1 h2 h3
    rw[show frH q nn={ q with r:=q.r+nn }from if_neg h3]
    exact hdG a c fs h i q nn w hv hz hq hr h1 h2 (by simpa using h3)
 rw[show holdE fs h k nn=memW fs h from by unfold holdE;rw[if_neg hz],if_neg hz,if_neg hz]
 exact hdA a c fs h k nn w hv _ rfl (by simpa using hz)
def atS (s:List Int) (k:Int):Int:=if 0<=k then s.getD k.toNat 0 else 0
def holdSE (s:List Int) (k m:Int):Int:=if slW s=0 then(if atS s k=0 then 5 else if 0<=atS s k+m/\atS s k+m<=1000 then 0 else 3)else slW s
def holdSL (s:List Int) (k m:Int):List Int:=if holdSE s k m=0 then s.set k.toNat (atS s k+m)else []
theorem slW_range {s:List Int} (h:slW s=0) {k:Nat} {q:Int} (hq:s[k]? =Xa q):0<=q/\q<=1000:=by
 have h2:s.any badS=Xd:=by
  cases hb:s.any badS with
  | false=>rfl
  | true=>
   unfold slW at h;rw[hb]at h
   split at h
   ·cases h
   cases h
 have h3:=List.any_eq_false.1 h2 q (mG hq)
 simp[badS]at h3
 omega
theorem holdS_cases (s:List Int) (k m:Int):
  (slW s≠0/\holdSE s k m=slW s/\holdSL s k m=[])\/
  (slW s=0/\(k<0\/(s.length:Int)<=k)/\holdSE s k m=5/\holdSL s k m=[])\/
  (slW s=0/\∃i:Nat,k=(i:Int)/\s[i]? =Xa 0/\holdSE s k m=5/\holdSL s k m=[])\/
  (slW s=0/\∃(i:Nat) (q:Int),k=(i:Int)/\s[i]? =Xa q/\q≠0/\0<=q/\q<=1000/\¬(0<=q+m/\q+m<=1000)/\holdSE s k m=3/\holdSL s k m=[])\/
  (slW s=0/\∃(i:Nat) (q:Int),k=(i:Int)/\s[i]? =Xa q/\q≠0/\0<=q/\q<=1000/\(0<=q+m/\q+m<=1000)/\holdSE s k m=0/\holdSL s k m=s.set i (q+m)):=by
 have no:∀z,holdSE s k m=z->z≠0->holdSL s k m=[]:=fun z h hz=>if_neg (by rw[h];exact hz)
 by_cases h1:slW s=0
 ·by_cases h2:k<0\/(s.length:Int)<=k
  ·have hat:atS s k=0:=by
    unfold atS
    split
    ·rw[gD,gN (by omega)]
     rfl
    rfl
   have h:holdSE s k m=5:=by unfold holdSE;rw[if_pos h1,if_pos hat]
   exact .inr (.inl ⟨h1,h2,h,no _ h (by decide)⟩)
  obtain⟨i,rfl⟩:∃i:Nat,k=(i:Int):=⟨k.toNat,by omega⟩
  have hil:i<s.length:=by omega
  obtain⟨q,hq⟩:∃q,s[i]? =Xa q:=⟨_,gE hil⟩;have hat:atS s (i:Int)=q:=by
   unfold atS;rw[if_pos (by omega),gD,tN,hq]
   rfl
  by_cases h0:q=0
  ·subst h0;have h:holdSE s i m=5:=by unfold holdSE;rw[if_pos h1,if_pos hat]
   exact .inr (.inr (.inl ⟨h1,i,rfl,hq,h,no _ h (by decide)⟩))
  have hr:=slW_range h1 hq
  by_cases h3:0<=q+m/\q+m<=1000
  ·have h:holdSE s i m=0:=by unfold holdSE;rw[if_pos h1,hat,if_neg h0,if_pos h3]
   exact .inr (.inr (.inr (.inr ⟨h1,i,q,rfl,hq,h0,hr.1,hr.2,h3,h,by unfold holdSL;rw[if_pos h,hat,tN]⟩)))
  have h:holdSE s i m=3:=by unfold holdSE;rw[if_pos h1,hat,if_neg h0,if_neg h3]
  exact .inr (.inr (.inr (.inl ⟨h1,i,q,rfl,hq,h0,hr.1,hr.2,h3,h,no _ h (by decide)⟩)))
 have h:holdSE s k m=slW s:=by unfold holdSE;rw[if_neg h1]
 exact .inl ⟨h1,h,no _ h h1⟩
theorem holdS_any (a:Option Addr) (c:Nat) (s:List Int) (k m:Int) (w:Xn) (hv:RowAt slE w (O a s.length c) s):
  Xp Tryz.prog 174 #[O a s.length c,Xe Xf k,Xe Xf m] w fun e w'=>∃a' c',e= Xl (Xm #[.slice a' (holdSL s k m).length c',Xe Xf (holdSE s k m)])/\NewRow slE w.heap.size w' (.slice a' (holdSL s k m).length c') (holdSL s k m)/\Grew w w':=by
 have h1:=wrongS_any a c s w hv;have h3:∀W,Grew w W->Xp Tryz.prog 52 #[O a s.length c] W fun e w'=>∃v',e= Xl v'/\OwnRow slE W.heap.size w' v' s/\Grew W w':=fun W hW=>cloneS_any _ s W (hv.grew hW)
 have hbig:=hv.short;obtain⟨a',c',heq,hrow⟩:=hv.sls;cases heq;have HR:Xo (SlRows w a s):=hrow;clear hrow hv;obtain⟨n,HN⟩:∃n,Xo (s.length=n):=⟨_,rfl⟩
 rcases holdS_cases s k m with⟨hw,e1,e2⟩ | ⟨hw,hk,e1,e2⟩ | ⟨hw,i,rfl,hq,e1,e2⟩ | ⟨hw,i,q,rfl,hq,h0,hr0,hr1,hno,e1,e2⟩ | ⟨hw,i,q,rfl,hq,h0,hr0,hr1,hyes,e1,e2⟩
 ·rw[e1,e2];clear e1 e2 h3
  generalize slW s=z at h1 hw⊢
  have hzb:(z != 0)=Xc:=by simpa using hw
  rw[HN.out]at h1 hbig⊢
  go_enter Tryz.func174,Tryz.ntmps174
  go_wp2_with fail;refine h1.mono ?_;rintro e W1 ⟨rfl,g1⟩;have G1:Xo (Grew w W1):=g1;clear g1 h1 hw;go_wp2;refine bodyPost_ret (v:= Xm #[O Xb 0 0,Xe Xf z]) (by simp[results,Tryz.results174,go_sem, *]) rfl ⟨Xb,0,rfl,NewRow.nil _ _ _,G1.out⟩
 ·rw[hw]at h1;rw[e1,e2];clear e1 e2 h3 hw;rw[HN.out]at h1 hbig hk⊢
  by_cases hk0:k<0
  ·go_enter Tryz.func174,Tryz.ntmps174
   go_wp2_with fail;refine h1.mono ?_;rintro e W1 ⟨rfl,g1⟩;have G1:Xo (Grew w W1):=g1;clear g1 h1 hk;go_wp2;refine bodyPost_ret (v:= Xm #[O Xb 0 0,Xe Xf 5]) (by simp[results,Tryz.results174,go_sem, *]) rfl ⟨Xb,0,rfl,NewRow.nil _ _ _,G1.out⟩
  have hkn:(n:Int)<=k:=by omega
  go_enter Tryz.func174,Tryz.ntmps174
  go_wp2_with fail;refine h1.mono ?_;rintro e W1 ⟨rfl,g1⟩;have G1:Xo (Grew w W1):=g1;clear g1 h1 hk;go_wp2;refine bodyPost_ret (v:= Xm #[O Xb 0 0,Xe Xf 5]) (by simp[results,Tryz.results174,go_sem, *]) rfl ⟨Xb,0,rfl,NewRow.nil _ _ _,G1.out⟩
 ·rw[hw]at h1;rw[e1,e2];clear e1 e2 h3 hw;have hil:i<n:=by rw[<-HN.out];exact(gS.1 hq).1
  rw[HN.out]at h1 hbig⊢;have hilz:¬(n:Int)<=(i:Int):=by omega
  have hi0:¬(i:Int)<0:=by omega
  have hilz':(i:Int)< (n:Int):=by omega
  obtain⟨ad,rfl,hl⟩:=HR.out i 0 hq;clear hq
  go_enter Tryz.func174,Tryz.ntmps174
  go_wp2_with fail;refine h1.mono ?_;rintro e W1 ⟨rfl,g1⟩;have G1:Xo (Grew w W1):=g1;have d0:=hl W1 g1;clear g1 h1 hl;go_wp2;refine bodyPost_ret (v:= Xm #[O Xb 0 0,Xe Xf 5]) (by simp[results,Tryz.results174,go_sem, *]) rfl ⟨Xb,0,rfl,NewRow.nil _ _ _,G1.out⟩
 ·rw[hw]at h1;rw[e1,e2];clear e1 e2 h3 hw;have hil:i<n:=by rw[<-HN.out];exact(gS.1 hq).1
  rw[HN.out]at h1 hbig⊢;have hilz:¬(n:Int)<=(i:Int):=by omega
  have hi0:¬(i:Int)<0:=by omega
  have hilz':(i:Int)< (n:Int):=by omega
  obtain⟨ad,rfl,hl⟩:=HR.out i q hq;have hqb:(q == 0)=Xd:=by simpa using h0
  by_cases hlo:m< -q
  ·clear hq h0 hno
   go_enter Tryz.func174,Tryz.ntmps174
   go_wp2_with fail;refine h1.mono ?_;rintro e W1 ⟨rfl,g1⟩;have G1:Xo (Grew w W1):=g1;have d0:=hl W1 g1;clear g1 h1 hl;go_wp2;refine bodyPost_ret (v:= Xm #[O Xb 0 0,Xe Xf 3]) (by simp[results,Tryz.results174,go_sem, *]) rfl ⟨Xb,0,rfl,NewRow.nil _ _ _,G1.out⟩
  have hhi:1000 - q<m:=by omega
  clear hq h0 hno
  go_enter Tryz.func174,Tryz.ntmps174
  go_wp2_with fail;refine h1.mono ?_;rintro e W1 ⟨rfl,g1⟩;have G1:Xo (Grew w W1):=g1;have d0:=hl W1 g1;clear g1 h1 hl;go_wp2;refine bodyPost_ret (v:= Xm #[O Xb 0 0,Xe Xf 3]) (by simp[results,Tryz.results174,go_sem, *]) rfl ⟨Xb,0,rfl,NewRow.nil _ _ _,G1.out⟩
 rw[hw]at h1;rw[e1,e2,Xw];clear e1 e2 hw;have hil:i<n:=by rw[<-HN.out];exact(gS.1 hq).1
 rw[HN.out]at h1 h3 hbig⊢;have hilz:¬(n:Int)<=(i:Int):=by omega
 have hi0:¬(i:Int)<0:=by omega
 have hilz':(i:Int)< (n:Int):=by omega
 obtain⟨ad,rfl,hl⟩:=HR.out i q hq;have hqb:(q == 0)=Xd:=by simpa using h0
 have hlo:¬m< -q:=by omega
 have hhi:¬1000 - q<m:=by omega
 have HQ:Xo (s[i]? =Xa q):=hq;clear hq h0
 go_enter Tryz.func174,Tryz.ntmps174
 go_wp2_with fail;refine h1.mono ?_;rintro e W1 ⟨rfl,g1⟩;have G1:Xo (Grew w W1):=g1;have d0:=hl W1 g1;clear g1 h1 hl;go_wp2_with fail;refine(h3 _ G1.out).mono ?_;rintro e W3 ⟨v',rfl,ow,g3⟩;obtain⟨g,cv,rfl⟩:=ow.formS (by rw[HN.out];omega)
 rw[HN.out]at ow⊢;have OW:Xo (OwnRow slE W1.heap.size W3 (O (Xa ⟨g,0,Xb⟩) n cv) s):=ow;have G3:Xo (Grew W1 W3):=g3;have d1:W3.cell? ⟨g,i,Xb⟩=Xa (Xe Xf q):=by
  obtain⟨x,y,he,hr⟩:=ow.at.sls;cases he;obtain⟨x',he,hr⟩:=hr i q HQ.out;cases he;have:=hr W3 (Grew.refl _);rw[Xx,zA]at this;exact this
 clear g3 h3 ow d0
 go_wp2_with (refine wpList_store_elt (E:=slE) rfl (.tmp 54) (.tmp 53) rfl W1.heap.size _ s OW.out g i rfl (q+m) (by rw[HN.out];exact hil) _ rfl (by simp[slE]) _ rfl rfl ?_)
 intro w4 ow4 gr4 _;have hg2:=(OW.out.lt g rfl).1;have OW4:Xo (OwnRow slE W1.heap.size w4 (O (Xa ⟨g,0,Xb⟩) n cv) (s.set i (q+m))):=ow4;have G4:Xo (Grew W1 w4):=grew_grown G3.out gr4 hg2;clear ow4 gr4 d1;go_wp2;refine bodyPost_ret (v:= Xm #[O (Xa ⟨g,0,Xb⟩) n cv,Xe Xf 0]) (by simp[results,Tryz.results174,go_sem, *]) rfl ⟨_,_,rfl,OW4.out.new.base (bS G1.out),G1.out.trans G4.out⟩
theorem withEntry_any (xa:Option Addr) (xc:Nat) (h:List En) (k:Nat) (hk:k<8) (x:En) (base:Nat) (w:Xn) (hown:OwnRow enE base w (O xa h.length xc) h) (hb:base<=w.heap.size) (h8:h.length=0\/h.length=8):
  Xp Tryz.prog 203 #[O xa h.length xc,Xe Xf (k:Int),Xi #[Xe Xf x.kind,Xe Xf x.n,Xh x.wr]] w fun e w'=>∃a' c',e= Xl (.slice a' (mk ((full h).set k x)).length c')/\OwnRow enE base w' (.slice a' (mk ((full h).set k x)).length c') (mk ((full h).set k x))/\w.grownBy w' (O xa h.length xc).ownBlock/\(∀g,(Value.slice a' (mk ((full h).set k x)).length c').ownBlock=Xa g->(O xa h.length xc).ownBlock=Xa g\/w.heap.size<=g):=by
 have HOWN:Xo (OwnRow enE base w (O xa h.length xc) h):=hown;have HB:Xo (base<=w.heap.size):=hb;have HMK:Xo (mk ((full h).set k x)=if anyS ((full h).set k x)=Xc then(full h).set k x else []):=rfl;clear hown hb;obtain⟨W0,hW0⟩:∃W0,w.alloc (Xk #[Xe Xf x.kind,Xe Xf x.n,Xh x.wr] 127)=W0:=⟨_,rfl⟩;have HG0:=gA hW0
 have X0:=xA hW0
 have HS0:=sA hW0
 have HW0:Xo (_=W0):=hW0;clear hW0;have hkz:(k:Int)<8:=by omega
 rcases h8 with h0 | h8
 ·have hnil:h=[]:=List.length_eq_zero_iff.1 h0;subst hnil;obtain⟨L,HL⟩:∃L,Xo ((full []).set k x=L):=⟨_,rfl⟩;have HLL:Xo (L.length=8):=show _=_ by rw[<-HL.out];simp[full]
  rw[HL.out]at HMK⊢
  generalize mk L=M at HMK⊢
  simp only[Yh]at HOWN⊢;clear h0
  go_enter Tryz.func203,Tryz.ntmps203
  go_upto_region 1 with fail;rw[HW0.out]
  go_wp2_with (refine wpList_make_row enE rfl (.const (Xe Xf 8)) rfl 8 rfl (by decide) ?_)
  intro C ow
  show wpList _ _ _ _ _ (W0.alloc (Xk C 127))
  have ow':OwnRow enE W0.heap.size (W0.alloc (Xk C 127)) (O (Xa ⟨W0.heap.size,0,Xb⟩) 8 8) (full []):=ow;obtain⟨W1,hW1⟩:∃W1,W0.alloc (Xk C 127)=W1:=⟨_,rfl⟩;have G1:=gA hW1
  rw[hW1]at ow'⊢;obtain⟨g,HGG⟩:∃g,Xo (W0.heap.size=g):=⟨_,rfl⟩;rw[HGG.out]at ow'⊢;have O1:Xo (OwnRow enE g W1 (O (Xa ⟨g,0,Xb⟩) 8 8) (full [])):=ow';have X1:=dD (X0.out.grew G1.out);have HBG:Xo (base<=g/\w.heap.size<=g):=show _/\_ by
   have:=HS0.out;have:=HB.out;have:=HGG.out
   constructor <;> omega
  clear hW1 ow ow';obtain⟨x0,x1,x2⟩:=X1.out.c3
  go_wp2_with (refine wpList_store_elt (E:=enE) rfl (.tmp 14) (.tmp 13) rfl g _ (full []) O1.out g k rfl x ?t1 ⟨g,k*3,Xb⟩ rfl rfl (Xi #[Xe Xf x.kind,Xe Xf x.n,Xh x.wr]) rfl rfl ?_)
  case t1=>exact hk
  intro W2 ow2 gr2 sz2;rw[HL.out]at ow2;have O2:Xo (OwnRow enE base W2 (O (Xa ⟨g,0,Xb⟩) 8 8) L):=ow2.base HBG.out.1;have G2:Xo (Grew w W2):=show Grew _ _ from grew_grown (HG0.out.trans G1.out) gr2 HBG.out.2
  have hcall:=containsSome_any _ L W2 ow2.at;clear ow2 gr2 sz2 x0 x1 x2
  generalize anyS L=A at hcall HMK
  cases A with
  | true=>
   have HM:Xo (M=L):=show _=_ by rw[HMK.out,if_pos rfl]
   go_wp2_with fail;refine hcall.mono ?_;rintro e W3 ⟨rfl,k1⟩;have G3:Xo (w.grownBy W3 _):=show World.grownBy _ _ (Value.ownBlock (O xa 0 xc))from grew_by (G2.out.trans k1) _
   have O3:=dD (O2.out.grew k1);clear k1 hcall;go_wp2;go_ret;rw[HM.out,HLL.out];exact⟨Xa ⟨g,0,Xb⟩,8,rfl,O3.out,G3.out,fun g' hg=> .inr (by cases hg;exact HBG.out.2)⟩
  | false=>
   have HM:Xo (M=[]):=show _=_ by rw[HMK.out,if_neg (by decide)]
   go_wp2_with fail;refine hcall.mono ?_;rintro e W3 ⟨rfl,k1⟩;have G3:Xo (w.grownBy W3 _):=show World.grownBy _ _ (Value.ownBlock (O xa 0 xc))from grew_by (G2.out.trans k1) _
   clear k1 hcall;go_wp2;go_ret;rw[HM.out];exact⟨Xb,0,rfl,OwnRow.nil _ _ _,G3.out,fun g' hg=>by cases hg⟩
 obtain⟨L,HL⟩:∃L,Xo ((full h).set k x=L):=⟨_,rfl⟩;have HFU:Xo (full h=h):=show _=_ by unfold full;rw[if_neg (by omega)]
 have HLL:Xo (L.length=8):=show _=_ by rw[<-HL.out,HFU.out];simp[h8]
 rw[HL.out]at HMK⊢
 generalize mk L=M at HMK⊢
 have HH8:Xo (h.length=8):=h8;obtain⟨g,c',heq⟩:=HOWN.out.formS (by omega)
 cases heq;rw[h8]at HOWN⊢;clear h8
 go_enter Tryz.func203,Tryz.ntmps203
 go_upto_region 1 with fail;rw[HW0.out];have O1:=dD (HOWN.out.grew HG0.out);obtain⟨x0,x1,x2⟩:=X0.out.c3
 go_wp2_with (refine wpList_store_elt (E:=enE) rfl (.tmp 14) (.tmp 13) rfl base _ h O1.out g k rfl x ?t1 ⟨g,k*3,Xb⟩ rfl rfl (Xi #[Xe Xf x.kind,Xe Xf x.n,Xh x.wr]) rfl rfl ?_)
 case t1=>rw[HH8.out];exact hk
 intro W2 ow2 gr2 sz2;rw[HFU.out]at HL;rw[HL.out]at ow2;have O2:Xo (OwnRow enE base W2 (O (Xa ⟨g,0,Xb⟩) 8 xc) L):=ow2;have G2:Xo (w.grownBy W2 (Xa g)):=show World.grownBy _ _ _ from grown_trans (grew_by HG0.out _) gr2
 have hcall:=containsSome_any _ L W2 ow2.at;clear ow2 gr2 sz2 x0 x1 x2
 generalize anyS L=A at hcall HMK
 cases A with
 | true=>
  have HM:Xo (M=L):=show _=_ by rw[HMK.out,if_pos rfl]
  go_wp2_with fail;refine hcall.mono ?_;rintro e W3 ⟨rfl,k1⟩;have G3:Xo (w.grownBy W3 _):=show World.grownBy _ _ (Value.ownBlock (O (Xa ⟨g,0,Xb⟩) 8 xc))from grown_trans G2.out (grew_by k1 _)
  have O3:=dD (O2.out.grew k1);clear k1 hcall;go_wp2;go_ret;rw[HM.out,HLL.out];exact⟨Xa ⟨g,0,Xb⟩,xc,rfl,O3.out,G3.out,fun g' hg=> .inl hg⟩
 | false=>
  have HM:Xo (M=[]):=show _=_ by rw[HMK.out,if_neg (by decide)]
  go_wp2_with fail;refine hcall.mono ?_;rintro e W3 ⟨rfl,k1⟩;have G3:Xo (w.grownBy W3 _):=show World.grownBy _ _ (Value.ownBlock (O (Xa ⟨g,0,Xb⟩) 8 xc))from grown_trans G2.out (grew_by k1 _)
  clear k1 hcall;go_wp2;go_ret;rw[HM.out];exact⟨Xb,0,rfl,OwnRow.nil _ _ _,G3.out,fun g' hg=>by cases hg⟩
theorem nil8_one:∀v∈nil8,v.oneCell'=Xc:=fun v hv=>by
 rw[nil8,List.mem_replicate]at hv;rw[hv.2];rfl
theorem set_cases (t:List (List En)) (n:Int) (x:En):
  (tbW t≠0/\setE t n x=tbW t/\setR t n x=none8)\/
  (tbW t=0/\¬(0<=n/\n<64)/\setE t n x=3/\setR t n x=none8)\/
  (tbW t=0/\(0<=n/\n<64)/\enW x≠0/\setE t n x=enW x/\setR t n x=none8)\/
  (tbW t=0/\(0<=n/\n<64)/\enW x=0/\setE t n x=0/\setR t n x=setT t n.toNat x):=by
 by_cases h1:tbW t=0
 ·by_cases h2:0<=n/\n<64
  ·have e:setE t n x=enW x:=by unfold setE;rw[if_pos h1,if_pos h2]
   by_cases h3:enW x=0
   ·exact .inr (.inr (.inr ⟨h1,h2,h3,e.trans h3,by unfold setR;rw[if_pos (e.trans h3)]⟩))
   exact .inr (.inr (.inl ⟨h1,h2,h3,e,by unfold setR;rw[if_neg (by rw[e];exact h3)]⟩))
  have e:setE t n x=3:=by unfold setE;rw[if_pos h1,if_neg h2]
  exact .inr (.inl ⟨h1,h2,e,by unfold setR;rw[if_neg (by rw[e];decide)]⟩)
 have e:setE t n x=tbW t:=by unfold setE;rw[if_neg h1]
 exact .inl ⟨h1,e,by unfold setR;rw[if_neg (by rw[e];exact h1)]⟩
theorem setTb_any (vs:List Xq) (t:List (List En)) (n:Int) (x:En) (w:Xn) (hv:TabAt w vs t):
  Xp Tryz.prog 175 #[Xi vs.toArray,Xe Xf n,Xi #[Xe Xf x.kind,Xe Xf x.n,Xh x.wr]] w fun e w'=>∃us,e= Xl (Xm #[Xi us.toArray,Xe Xf (setE t n x)])/\TabS 0 w.heap.size w' us (setR t n x)/\Grew w w':=by
 have HL:Xo (vs.length=8):=hv.len;have HT8:Xo (t.length=8):=hv.tlen;have h1:∀W,Grew w W->Xp Tryz.prog 118 #[Xi vs.toArray] W fun e w'=>e= Xl (Xe Xf (tbW t))/\Grew W w':=fun W hW=>wrongTb_any vs t W (hv.grew hW)
 have h2:∀W,Grew w W->Xp Tryz.prog 105 #[Xi vs.toArray] W fun e w'=>∃us,e= Xl (Xi us.toArray)/\OwnTab (W.heap.size+2) w' us t/\Grew W w'/\W.heap.size+2<=w'.heap.size:=fun W hW=>ownTb_any vs t W (hv.grew hW)
 have h3:=fun W=>wrongEntry_any x.kind x.n x.wr W
 clear hv;obtain⟨W0,hW0⟩:∃W0,((w.alloc (Xk vs.toArray 74)).alloc (Xk #[Xe Xf x.kind,Xe Xf x.n,Xh x.wr] 127)).alloc (Xk #[O Xb 0 0,O Xb 0 0,O Xb 0 0,O Xb 0 0,O Xb 0 0,O Xb 0 0,O Xb 0 0,O Xb 0 0] 74)=W0:=⟨_,rfl⟩;have HG0:Xo (Grew w W0):=show Grew w W0 by rw[<-hW0];exact((grew_alloc _ _).trans (grew_alloc _ _)).trans (grew_alloc _ _)
 have X0:Xo (Box W0 w.heap.size vs):=show Box _ _ _ by rw[<-hW0];exact((Box.top w _ _ rfl).alloc _).alloc _
 have E0:Xo (Box W0 (w.heap.size+1) [Xe Xf x.kind,Xe Xf x.n,Xh x.wr]):=show Box _ _ _ by rw[<-hW0];exact(Box.top _ _ _ (by simp)).alloc _
 have Y0:Xo (Box W0 (w.heap.size+2) nil8):=show Box _ _ _ by rw[<-hW0];exact Box.top _ nil8 _ (by simp)
 have HW0:Xo (_=W0):=hW0;clear hW0
 rcases set_cases t n x with⟨hz,e1,e2⟩ | ⟨hz,hn,e1,e2⟩ | ⟨hz,hn,hx,e1,e2⟩ | ⟨hz,hn,hx,e1,e2⟩
 ·rw[e1,e2];have hzb:(tbW t != 0)=Xc:=by simpa using hz
  clear e1 e2 hz h2 h3
  generalize tbW t=z at h1 hzb⊢
  go_enter Tryz.func175,Tryz.ntmps175
  go_upto_region 1 with fail;rw[HW0.out]
  go_wp2_with (refine wp_loadTab rfl (.tmp 3) rfl w.heap.size rfl X0.out HL.out ?_)
  refine(h1 W0 HG0.out).mono ?_;rintro e W1 ⟨rfl,g1⟩;have G1:=dD (HG0.out.trans g1);have X1:=dD (X0.out.grew g1);have E1:=dD (E0.out.grew g1);have Y1:=dD (Y0.out.grew g1);clear g1 h1
  go_wp2_with (refine wp_storeAll rfl 74 (.tmp 6) (.tmp 15) rfl (w.heap.size+2) rfl nil8 rfl Y1.out rfl Tryz.sizeTable nil8_one ?_)
  intro W9 b9 g9 s9;have B9:Xo (Box W9 (w.heap.size+2) nil8):=b9;have G9:Xo (Grew w W9):=show Grew _ _ from grew_grown G1.out g9 (by simp)
  clear b9 g9 s9;go_wp2;refine bodyPost_ret (ret_cell_tmp rfl _ rfl B9.out Tryz.underlying74 rfl Tryz.sizeTable) rfl ⟨nil8,rfl,TabS.nil _ _ _,G9.out⟩
 ·rw[e1,e2];rw[hz]at h1;have hb:=fun W=>belowT_no (m:=n) (n:=64) hn W
  clear e1 e2 hz hn h2 h3
  go_enter Tryz.func175,Tryz.ntmps175
  go_upto_region 1 with fail;rw[HW0.out]
  go_wp2_with (refine wp_loadTab rfl (.tmp 3) rfl w.heap.size rfl X0.out HL.out ?_)
  refine(h1 W0 HG0.out).mono ?_;rintro e W1 ⟨rfl,g1⟩;have G1:=dD (HG0.out.trans g1);have X1:=dD (X0.out.grew g1);have E1:=dD (E0.out.grew g1);have Y1:=dD (Y0.out.grew g1);clear g1 h1;go_wp2_with fail;refine(hb _).mono ?_;rintro e w' ⟨rfl,hw'⟩;rw[hw'];clear hw' w'
  go_wp2_with (refine wp_storeAll rfl 74 (.tmp 6) (.tmp 20) rfl (w.heap.size+2) rfl nil8 rfl Y1.out rfl Tryz.sizeTable nil8_one ?_)
  intro W9 b9 g9 s9;have B9:Xo (Box W9 (w.heap.size+2) nil8):=b9;have G9:Xo (Grew w W9):=show Grew _ _ from grew_grown G1.out g9 (by simp)
  clear b9 g9 s9;go_wp2;refine bodyPost_ret (ret_cell_tmp rfl _ rfl B9.out Tryz.underlying74 rfl Tryz.sizeTable) rfl ⟨nil8,rfl,TabS.nil _ _ _,G9.out⟩
 ·rw[e1,e2];rw[hz]at h1;have hb:=fun W=>belowT_yes (m:=n) (n:=64) hn.1 hn.2 W
  change ∀W,Xp Tryz.prog 201 _ W fun e w'=>e= Xl (Xe Xf (enW x))/\Grew W w' at h3
  have hzb:(enW x != 0)=Xc:=by simpa using hx
  clear e1 e2 hz hn hx h2
  generalize enW x=z at h3 hzb⊢
  go_enter Tryz.func175,Tryz.ntmps175
  go_upto_region 1 with fail;rw[HW0.out]
  go_wp2_with (refine wp_loadTab rfl (.tmp 3) rfl w.heap.size rfl X0.out HL.out ?_)
  refine(h1 W0 HG0.out).mono ?_;rintro e W1 ⟨rfl,g1⟩;have G1:=dD (HG0.out.trans g1);have X1:=dD (X0.out.grew g1);have E1:=dD (E0.out.grew g1);have Y1:=dD (Y0.out.grew g1);clear g1 h1;go_wp2_with fail;refine(hb _).mono ?_;rintro e w' ⟨rfl,hw'⟩;rw[hw'];clear hw' w';obtain⟨e0,e1,e2⟩:=E1.out.c3;go_wp2_with fail;refine(h3 W1).mono ?_;rintro e W2 ⟨rfl,g2⟩;have G2:=dD (G1.out.trans g2);have X2:=dD (X1.out.grew g2);have E2:=dD (E1.out.grew g2);have Y2:=dD (Y1.out.grew g2);clear g2 h3 e0 e1 e2
  go_wp2_with (refine wp_storeAll rfl 74 (.tmp 6) (.tmp 25) rfl (w.heap.size+2) rfl nil8 rfl Y2.out rfl Tryz.sizeTable nil8_one ?_)
  intro W9 b9 g9 s9;have B9:Xo (Box W9 (w.heap.size+2) nil8):=b9;have G9:Xo (Grew w W9):=show Grew _ _ from grew_grown G2.out g9 (by simp)
  clear b9 g9 s9;go_wp2;refine bodyPost_ret (ret_cell_tmp rfl _ rfl B9.out Tryz.underlying74 rfl Tryz.sizeTable) rfl ⟨nil8,rfl,TabS.nil _ _ _,G9.out⟩
 rw[e1,e2];rw[hz]at h1;have hb:=fun W=>belowT_yes (m:=n) (n:=64) hn.1 hn.2 W
 change ∀W,Xp Tryz.prog 201 _ W fun e w'=>e= Xl (Xe Xf (enW x))/\Grew W w' at h3
 rw[hx]at h3;obtain⟨i,k,hi,hk,hnk,q1,q2,q3,q4,q5,q6⟩:=page_split hn.1 hn.2;obtain⟨q,HQ⟩:∃q,Xo (t[i]? =Xa q):=⟨_,gE (by rw[HT8.out];exact hi)⟩
 have H8:Xo (q.length=0\/q.length=8):=show _\/_ by
  rcases tbW_zero.1 hz q (mG HQ.out)with h | ⟨h,_⟩
  ·exact .inl (by rw[h];rfl)
  exact .inr h
 have HM:Xo (setT t n.toNat x=t.set i (mk ((full q).set k x))):=show _=_ by
  unfold setT;rw[q5,q6,HQ.out];rfl
 rw[HM.out];obtain⟨M,HMM⟩:∃M,Xo (mk ((full q).set k x)=M):=⟨_,rfl⟩;rw[HMM.out];have hn0:=hn.1;have hiz:(i:Int)<8:=by omega
 clear e1 e2 hz hn hx hnk q5 q6
 go_enter Tryz.func175,Tryz.ntmps175
 go_upto_region 1 with fail;rw[HW0.out]
 go_wp2_with (refine wp_loadTab rfl (.tmp 3) rfl w.heap.size rfl X0.out HL.out ?_)
 refine(h1 W0 HG0.out).mono ?_;rintro e W1 ⟨rfl,g1⟩;have G1:=dD (HG0.out.trans g1);have X1:=dD (X0.out.grew g1);have E1:=dD (E0.out.grew g1);have Y1:=dD (Y0.out.grew g1);clear g1 h1;go_wp2_with fail;refine(hb _).mono ?_;rintro e w' ⟨rfl,hw'⟩;rw[hw'];clear hw' w';obtain⟨e0,e1,e2⟩:=E1.out.c3;go_wp2_with fail;refine(h3 W1).mono ?_;rintro e W2 ⟨rfl,g2⟩;have G2:=dD (G1.out.trans g2);have X2:=dD (X1.out.grew g2);have E2:=dD (E1.out.grew g2);have Y2:=dD (Y1.out.grew g2);clear g2 h3 e0 e1 e2
 go_wp2_with (refine wp_loadTab rfl (.tmp 3) rfl w.heap.size rfl X2.out HL.out ?_)
 refine(h2 W2 G2.out).mono ?_;rintro e W3 ⟨us,rfl,ot3,g3,s3⟩;have OT3:Xo (OwnTab (W2.heap.size+2) W3 us t):=ot3;have G23:Xo (Grew W2 W3):=g3;have HB3:Xo (W2.heap.size+2<=W3.heap.size):=s3;have HB2:Xo (w.heap.size+3<=W2.heap.size):=Y2.out.lt;clear ot3 g3 s3 h2;obtain⟨po,HPO⟩:∃po,Xo (W3.heap.size=po):=⟨_,rfl⟩
 go_wp2_with (refine wp_storeAll rfl 74 (.tmp 10) (.tmp 28) rfl W3.heap.size rfl us rfl (Box.top W3 nil8 74 rfl) OT3.out.len Tryz.sizeTable OT3.out.new.one ?_)
 intro W4 b4 g4 s4;rw[HPO.out]at b4 g4⊢;have P4:Xo (Box W4 po us):=b4;have G34:Xo (Grew W3 W4):=show Grew _ _ from grew_grown (grew_alloc W3 _) g4 (by rw[HPO.out];exact nR _)
 have HS4:Xo (po<W4.heap.size):=b4.lt;clear b4 g4 s4;have OT4:=dD (OT3.out.grew G34.out);have E4:=dD ((E2.out.grew G23.out).grew G34.out);have Y4:=dD ((Y2.out.grew G23.out).grew G34.out);have G4:=dD ((G2.out.trans G23.out).trans G34.out);have HLT:Xo (∀(j:Nat) u,us[j]? =Xa u->∀g,u.ownBlock=Xa g->W2.heap.size+2<=g/\g<po):=show∀(j:Nat) u,_ from fun j u hu g hg=>by
  obtain⟨y,hy⟩:∃y,t[j]? =Xa y:=⟨_,gE (by rw[HT8.out,<-OT3.out.len];exact(gS.1 hu).1)⟩
  rw[<-HPO.out];exact(OT3.out.row j u y hu hy).lt g hg
 obtain⟨xa,xc,q',hq',hvk,ho4⟩:=OT4.out.half hi;obtain rfl:q=q':=by rw[HQ.out]at hq';cases hq';rfl
 have HVK:Xo (us[i]? =Xa (O xa q.length xc)):=hvk;have O4:Xo (OwnRow enE (W2.heap.size+2) W4 (O xa q.length xc) q):=ho4;clear hq' hvk ho4;go_upto_region 10 with fail;obtain⟨g,hg1,hg3,hg4,hg5⟩:∃g,(∀g',(O xa q.length xc).ownBlock=Xa g'->g'=g)/\g≠po/\W2.heap.size+2<=g/\((O xa q.length xc).ownBlock=Xb->W4.heap.size<=g):=by
  cases ho:(O xa q.length xc).ownBlock with
  | none=>exact⟨W4.heap.size,fun g' h=>(by cases h),by have:=HS4.out;omega,by have:=HS4.out;have:=HPO.out;have:=HB3.out;omega,fun _=>nR _⟩
  | some g=>
   have:=HLT.out i _ HVK.out g ho;exact⟨g,fun g' h=>by cases h;rfl,by omega,by omega,fun h=>by cases h⟩
 have HWP:Xo (W2.heap.size+2<=W4.heap.size):=show _<=_ by have:=HS4.out;have:=HPO.out;have:=HB3.out;omega
 obtain⟨I,HI⟩:∃I:Xn->Prop,Xo (∀w,I w↔Out g (g+1) W4 w):=⟨fun w=>Out g (g+1) W4 w,fun _=>Iff.rfl⟩
 obtain⟨nq,HNQ⟩:∃nq,Xo (q.length=nq):=⟨_,rfl⟩;rw[HNQ.out]at hg1 hg5 HVK O4;have hx0:∀y:HoldI I,y.world.cell? ⟨po,i,Xb⟩=Xa (O xa nq xc):=fun y=>(P4.out.out ((HI.out _).1 y.holds) (by omega)).c i HVK.out
 have hgE:w.heap.size+1<g:=by have:=HB2.out;omega
 have hx1:∀y:HoldI I,y.world.cell? ⟨w.heap.size+1,0,Xb⟩=Xa (Xe Xf x.kind):=fun y=>(E4.out.out ((HI.out _).1 y.holds) (by omega)).c 0 rfl
 have hx2:∀y:HoldI I,y.world.cell? ⟨w.heap.size+1,1,Xb⟩=Xa (Xe Xf x.n):=fun y=>(E4.out.out ((HI.out _).1 y.holds) (by omega)).c 1 rfl
 have hx3:∀y:HoldI I,y.world.cell? ⟨w.heap.size+1,2,Xb⟩=Xa (Xh x.wr):=fun y=>(E4.out.out ((HI.out _).1 y.holds) (by omega)).c 2 rfl
 have hne:Nonempty (HoldI I):=⟨⟨W4,(HI.out _).2 (Out.refl _ _ _)⟩⟩;obtain⟨nm,HNM⟩:∃nm,Xo (M.length=nm):=⟨_,rfl⟩;refine wp_lax_tailI (I:=I) 11 [(9,⟨fun v=>∃a' c',v= O a' nm c',fun v w'=>OwnRow enE (W2.heap.size+2) w' v M/\∀g',v.ownBlock=Xa g'->(O xa nq xc).ownBlock=Xa g'\/W4.heap.size<=g',fun w w'=>w.grownBy w' (O xa nq xc).ownBlock,fun w=>OwnRow enE (W2.heap.size+2) w (O xa nq xc) q/\W4.heap.size<=w.heap.size⟩)] ((HI.out _).2 (Out.drew _)) mixed (by kernel_rfl) rfl rfl (by decide) ?hS ?hp ?hpre ?hpr0 ?_
 case hS=>
  intro y hy
  simp at hy
  subst hy;exact⟨_,Xb,0,rfl⟩
 case hp=>
  intro k' s j t' hk' hj hjk _ v w w' hst hpo;have a1:=(look1 hk').1;have a2:=(look1 hj).1;exact absurd (a2.trans a1.symm) hjk
 case hpre=>
  intro j t' k' s hj hk' hjk w w' hst hpr;have a1:=(look1 hk').1;have a2:=(look1 hj).1;exact absurd (a2.trans a1.symm) hjk
 case hpr0=>
  intro k' t' hk';obtain⟨rfl,rfl⟩:=look1 hk';exact⟨O4.out.grew (gW _),nR _⟩
 simp only[Ye,Yf];iterate 9 (refine laxI_quiet rfl rfl rfl (fun K hK=>?_);go_big_quiet_op;refine hK _ ?_;clear hK K)
 refine laxI_spec rfl rfl (fun w' hI' hpr hF=>?_) (fun v1 hv=>?_)
 ·refine Does.call [O xa nq xc,Xe Xf (k:Int),Xi #[Xe Xf x.kind,Xe Xf x.n,Xh x.wr]] rfl Tryz.func203 rfl rfl rfl ?_;have hpr':OwnRow enE (W2.heap.size+2) w' (O xa nq xc) q/\W4.heap.size<=w'.heap.size:=hpr;have hcall:=withEntry_any xa xc q k hk x (W2.heap.size+2) w' (by rw[HNQ.out];exact hpr'.1) (nT HWP.out hpr'.2) H8.out
  rw[HNQ.out,HMM.out,HNM.out]at hcall;refine hcall.mono ?_;rintro e w'' ⟨a',c',rfl,nr,gb,ho⟩;refine⟨_,rfl,(HI.out _).2 (((HI.out _).1 hI').trans (Out.grown gb (fun g' h=>by have:=hg1 g' h;omega))),gb,⟨a',c',rfl⟩,nr,fun g' hg'=>?_⟩
  rcases ho g' hg' with h | h
  ·exact .inl h
  exact .inr (nT hpr'.2 h)
 obtain⟨ra,rc,rfl⟩:=hv;simp only[Xs,sB,sS,sZ];iterate 1 (refine laxI_quiet rfl rfl rfl (fun K hK=>?_);go_big_quiet_op;refine hK _ ?_;clear hK K)
 refine laxI_nil fun W5 hI5 hF=>?_
 have f9:OwnRow enE (W2.heap.size+2) W5 (O ra nm rc) M/\∀g',(O ra nm rc).ownBlock=Xa g'->(O xa nq xc).ownBlock=Xa g'\/W4.heap.size<=g':=hF 9;have O5:Xo (Out g (g+1) W4 W5):=(HI.out _).1 hI5;have OT5:Xo (OwnTab (W2.heap.size+2) W5 (us.set i (O ra nm rc)) (t.set i M)):=OT4.out.one hi HVK.out (by
  cases ho:(O xa nq xc).ownBlock with
  | none=>exact⟨O5.out.os,O5.out.tape,O5.out.output,O5.out.size,fun j hj _=>O5.out.block j hj (.inl (Yo hj (hg5 ho)))⟩
  | some g0=>
   have:=hg1 g0 ho;subst this;exact⟨O5.out.os,O5.out.tape,O5.out.output,O5.out.size,fun j hj hne=>O5.out.block j hj (by
    have:j≠g0:=fun e=>hne (by rw[e])
    omega)⟩) f9.1 f9.2
 have HNE:Xo (∀(j:Nat) u,(us.set i (O ra nm rc))[j]? =Xa u->∀g',u.ownBlock=Xa g'->po≠g'):=show∀(j:Nat) u,_ from fun j u hu g' hg'=>by
  by_cases e:j=i
  ·subst e;rw[sF (by rw[OT4.out.len];exact hi)]at hu
   cases hu
   rcases f9.2 g' hg' with h | h
   ·have:=HLT.out j _ HVK.out g' h;omega
   have:=HS4.out;omega
  rw[sN (fun h=>e h.symm)]at hu
  have:=HLT.out j u hu g' hg';omega
 have P5:Xo (Box W5 po us):=P4.out.out O5.out (by omega)
 have Y5:Xo (Box W5 (w.heap.size+2) nil8):=Y4.out.out O5.out (by have:=HB2.out;omega)
 have G5:Xo (Grew w W5):=show Grew _ _ from Out.grew_of G4.out (by have:=HB2.out;omega) O5.out
 clear hF hx0 hx1 hx2 hx3 hI5 hne f9 hg1 hg5;have p0:=P5.out.c i HVK.out;have pf:=P5.out.f;go_upto_region 11 with fail;have hlen:(us.set i (O ra nm rc)).length=8:=by rw[Xw];exact OT4.out.len
 have HLEN:Xo ((us.set i (O ra nm rc)).length=8):=hlen;clear hlen;obtain⟨W6,hW6⟩:∃W6,W5.setCell ⟨po,i,Xb⟩ (O ra nm rc)=W6:=⟨_,rfl⟩;have P6:Xo (Box W6 po (us.set i (O ra nm rc))):=show Box _ _ _ by rw[<-hW6];exact P5.out.set i _
 have Y6:Xo (Box W6 (w.heap.size+2) nil8):=show Box _ _ _ by rw[<-hW6];exact Y5.out.other (by have:=HPO.out;have:=HB3.out;have:=HB2.out;simp;omega) _
 have G6:Xo (Grew w W6):=show Grew _ _ by rw[<-hW6];exact Below.setCell G5.out (p:=⟨po,i,Xb⟩) (by have:=HPO.out;have:=HB3.out;have:=HB2.out;simp;omega) _
 have OT6:Xo (OwnTab (W2.heap.size+2) W6 (us.set i (O ra nm rc)) (t.set i M)):=show OwnTab _ _ _ _ by
  rw[<-hW6];exact⟨OT5.out.len,OT5.out.tlen,fun j v h hv hh=>(OT5.out.row j v h hv hh).setOther (fun g' hg'=>HNE.out j v hv g' hg') _,OT5.out.two⟩
 rw[hW6];clear hW6 p0 pf
 go_wp2_with (first | refine wp_loadTab rfl (.tmp 10) rfl po rfl P6.out HLEN.out ?_ | refine wp_storeAll rfl 74 (.tmp 6) (.tmp 40) rfl (w.heap.size+2) rfl _ rfl Y6.out HLEN.out Tryz.sizeTable OT6.out.new.one ?_)
 intro W7 b7 g7 s7;have B7:Xo (Box W7 (w.heap.size+2) (us.set i (O ra nm rc))):=b7;have G7:Xo (Grew w W7):=show Grew _ _ from grew_grown G6.out g7 (by simp)
 have T7:Xo (TabS 0 w.heap.size W7 (us.set i (O ra nm rc)) (t.set i M)):=show TabS _ _ _ _ _ from
  ⟨OT6.out.len,OT6.out.tlen,fun j v h hv hh=>(((OT6.out.row j v h hv hh).grown g7 (fun g' hg' e=>by
   cases e;have:=((OT6.out.row j v h hv hh).lt _ hg').1;have:=HB2.out
   omega)).new.stays).less (nR _) (by have:=HB2.out;omega)⟩
 clear b7 g7 s7;go_wp2;refine bodyPost_ret (ret_cell_tmp rfl _ rfl B7.out Tryz.underlying74 rfl (by rw[HLEN.out];exact Tryz.sizeTable)) rfl ⟨_,rfl,T7.out,G7.out⟩
def chL (V:MaV) (m:Ma):List Xq:=[O V.f.a V.f.n V.f.c,Xe Xf m.hand,O V.s.a V.s.n V.s.c,O V.sb.a V.sb.n V.sb.c,O V.sq.a V.sq.n V.sq.c,O V.db.a V.db.n V.db.c,O V.dq.a V.dq.n V.dq.c,O V.fl.a V.fl.n V.fl.c,Xe Xf m.cnt,O V.ca.a V.ca.n V.ca.c,O V.sp.a V.sp.n V.sp.c]
structure RestAt (w:Xn) (V:MaV) (m:Ma):Prop where
 fs:RowAt frmE w (O V.f.a V.f.n V.f.c) m.fs
 sl:RowAt slE w (O V.s.a V.s.n V.s.c) m.sl
 sb:PagesAt w (O V.sb.a V.sb.n V.sb.c) m.sb
 sq:PutsAt w (O V.sq.a V.sq.n V.sq.c) m.sq
 db:PagesAt w (O V.db.a V.db.n V.db.c) m.db
 dq:PutsAt w (O V.dq.a V.dq.n V.dq.c) m.dq
 fl:FilesAt w (O V.fl.a V.fl.n V.fl.c) m.fl
 ca:RowAt cchE w (O V.ca.a V.ca.n V.ca.c) m.ca
def Dp (p:Nat) (s:Sli):Nat->Prop:=fun b=>b=p\/(O s.a s.n s.c).ownBlock=Xa b
def Dq (B p:Nat) (s:Sli):Nat->Prop:=fun b=>b<B\/Dp p s b
theorem OutD.big {p:Nat} {s:Sli} {w w':Xn} (B:Nat) (h:OutD (Dp p s) w w'):OutD (Dq B p s) w w':=h.wide fun _ hk=> .inr hk
theorem OutD.grown {D:Nat->Prop} {w w':Xn} {b:Nat} (hg:w.grownBy w' (Xa b)) (h:D b):OutD D w w':=
 ⟨hg.os,hg.tape,hg.output,hg.size,fun k hk hb=>hg.block k hk (fun e=>by cases e;exact hb h)⟩
theorem BoxT.outD {D:Nat->Prop} {w w':Xn} {b:Nat} {t:TypeId} {cs:List Xq} (h:BoxT w b t cs) (k:OutD D w w') (hn:¬D b):BoxT w' b t cs:=(k.block b h.box.lt hn).trans h
theorem TabS.outD {B:Nat} {D:Nat->Prop} {w W:Xn} {us:List Xq} {t:List (List En)} (h:TabS 0 B w us t) (hd:∀k,D k->k<B) (k:OutD D w W):TabAt W us t:=
 (h.out ⟨k.os,k.tape,k.output,k.size,fun i hi hb=>k.block i hi (fun e=>by have:=hd i e;omega)⟩).now
structure ChM (w0:Xn) (p:Nat) (w:Xn) (V:MaV) (m:Ma):Prop where
 gr:Grew w0 w
 lo:w0.heap.size<=p
 box:BoxT w p 88 (chL V m)
 rest:∀W,OutD (Dq w0.heap.size p V.sp) w W->RestAt W V m
 sp:∃xs:List SpV,OwnRow spcE w0.heap.size w (O V.sp.a V.sp.n V.sp.c) xs/\xs.length=m.sp.length/\∀(i:Nat) x s,xs[i]? =Xa x->m.sp[i]? =Xa s->∀W,OutD (Dq w0.heap.size p V.sp) w W->SpaceAt W x s
section
variable{w0 w w1 w2:Xn} {p:Nat} {V:MaV} {m:Ma}
theorem ChM.dlt (h:ChM w0 p w V m):∀k,Dp p V.sp k->k<w.heap.size:=by
 rintro k (rfl | hk)
 ·exact h.box.box.lt
 obtain⟨xs,s1,_⟩:=h.sp;exact(s1.lt k hk).2
theorem ChM.dlo (h:ChM w0 p w V m):∀k,Dp p V.sp k->w0.heap.size<=k:=by
 rintro k (rfl | hk)
 ·exact h.lo
 obtain⟨xs,s1,_⟩:=h.sp;exact(s1.lt k hk).1
theorem ChM.dqt (h:ChM w0 p w V m):∀k,Dq w0.heap.size p V.sp k->k<w.heap.size:=by
 rintro k (hk | hk)
 ·exact Yo hk (bS h.gr)
 exact h.dlt k hk
theorem ChM.grew (h:ChM w0 p w V m) (k:Grew w w1):ChM w0 p w1 V m:=by
 obtain⟨xs,s1,s2,s3⟩:=h.sp;exact⟨h.gr.trans k,h.lo,h.box.grew k,fun W hW=>h.rest W ((OutD.grew k).trans hW),⟨xs,s1.grew k,s2,fun i x s hx hs W hW=>s3 i x s hx hs W ((OutD.grew k).trans hW)⟩⟩
theorem ChM.at (h:ChM w0 p w V m):MachAt w V m:=by
 have r:=h.rest w (OutD.refl _ _);obtain⟨xs,s1,s2,s3⟩:=h.sp;exact⟨r.fs,r.sl,r.sb,r.sq,r.db,r.dq,r.fl,r.ca,⟨xs,s1.at,s2,fun i x s hx hs=>s3 i x s hx hs w (OutD.refl _ _)⟩⟩
theorem ChM.ne (h:ChM w0 p w V m):∀g,(O V.sp.a V.sp.n V.sp.c).ownBlock=Xa g->p≠g:=by
 obtain⟨xs,s1,_⟩:=h.sp;exact s1.ne h.box (by decide)
theorem ChM.setF (h:ChM w0 p w V m) {b:Sli} {fs:List Fr} {hd:Int} (g1:Grew w w1) (nr:NewRow frmE w.heap.size w1 (O b.a b.n b.c) fs) (g2:w1.grownBy w2 (Xa p)) (bx:BoxT w2 p 88 (chL { V with f:=b } { m with fs:=fs,hand:=hd })):ChM w0 p w2 { V with f:=b } { m with fs:=fs,hand:=hd }:=by
 have o1:OutD (Dq w0.heap.size p V.sp) w w1:=OutD.grew g1;have o2:OutD (Dq w0.heap.size p V.sp) w1 w2:=OutD.grown g2 (.inr (.inl rfl));obtain⟨xs,s1,s2,s3⟩:=h.sp;refine⟨grew_grown (h.gr.trans g1) g2 h.lo,h.lo,bx,fun W hW=>?_,⟨xs,(s1.grew g1).grown g2 (fun g hg e=>h.ne g hg (by cases e;rfl)),s2,fun i x s hx hs W hW=>s3 i x s hx hs W ((o1.trans o2).trans hW)⟩⟩
 have r:=h.rest W ((o1.trans o2).trans hW);exact⟨nr.staysD h.dqt W (o2.trans hW),r.sl,r.sb,r.sq,r.db,r.dq,r.fl,r.ca⟩
theorem ChM.setS (h:ChM w0 p w V m) {b:Sli} {sl:List Int} (g1:Grew w w1) (nr:NewRow slE w.heap.size w1 (O b.a b.n b.c) sl) (g2:w1.grownBy w2 (Xa p)) (bx:BoxT w2 p 88 (chL { V with s:=b } { m with sl:=sl })):ChM w0 p w2 { V with s:=b } { m with sl:=sl }:=by
 have o1:OutD (Dq w0.heap.size p V.sp) w w1:=OutD.grew g1;have o2:OutD (Dq w0.heap.size p V.sp) w1 w2:=OutD.grown g2 (.inr (.inl rfl));obtain⟨xs,s1,s2,s3⟩:=h.sp;refine⟨grew_grown (h.gr.trans g1) g2 h.lo,h.lo,bx,fun W hW=>?_,⟨xs,(s1.grew g1).grown g2 (fun g hg e=>h.ne g hg (by cases e;rfl)),s2,fun i x s hx hs W hW=>s3 i x s hx hs W ((o1.trans o2).trans hW)⟩⟩
 have r:=h.rest W ((o1.trans o2).trans hW);exact⟨r.fs,nr.staysD h.dqt W (o2.trans hW),r.sb,r.sq,r.db,r.dq,r.fl,r.ca⟩
theorem ChM.setT (h:ChM w0 p w V m) {xs:List SpV} {q g:Nat} {x y:SpV} {s:Sp} {us:List Xq} {t:List (List En)} (s2:xs.length=m.sp.length) (s3:∀(i:Nat) x s,xs[i]? =Xa x->m.sp[i]? =Xa s->∀W,OutD (Dq w0.heap.size p V.sp) w W->SpaceAt W x s) (hx:xs[q]? =Xa x) (hs:m.sp[q]? =Xa s) (hg:(O V.sp.a V.sp.n V.sp.c).ownBlock=Xa g)
  (g1:Grew w w1) (tb:TabS 0 w.heap.size w1 us t) (g2:w1.grownBy w2 (Xa g)) (ow:OwnRow spcE w0.heap.size w2 (O V.sp.a V.sp.n V.sp.c) (xs.set q y)) (hy:y.live=x.live/\y.ar=x.ar/\y.tab=us):ChM w0 p w2 V { m with sp:=m.sp.set q { s with tb:=t } }:=by
 have o1:OutD (Dq w0.heap.size p V.sp) w w1:=OutD.grew g1;have o2:OutD (Dq w0.heap.size p V.sp) w1 w2:=OutD.grown g2 (.inr (.inr hg));refine⟨grew_grown (h.gr.trans g1) g2 (h.dlo g (.inr hg)),h.lo,(h.box.grew g1).beside g2 (fun k e=>by cases e;exact h.ne g hg),fun W hW=>?_,⟨xs.set q y,ow,by simp[s2],fun i x' s' hx' hs' W hW=>?_⟩⟩
 ·have r:=h.rest W ((o1.trans o2).trans hW);exact⟨r.fs,r.sl,r.sb,r.sq,r.db,r.dq,r.fl,r.ca⟩
 by_cases e:i=q
 ·subst e;rw[sF (gS.1 hx).1]at hx';have hs':(m.sp.set i { s with tb:=t })[i]? =Xa s':=hs';rw[sF (gS.1 hs).1]at hs';cases hx';cases hs';have k:=s3 i x s hx hs W ((o1.trans o2).trans hW);obtain⟨y1,y2,y3⟩:=hy;refine⟨y1.trans k.live,by rw[y2];exact k.ar,by rw[y2];exact k.cap,?_⟩
  rw[y3];exact tb.outD h.dqt (o2.trans hW)
 rw[sN (fun h=>e h.symm)]at hx'
 have hs':(m.sp.set q { s with tb:=t })[i]? =Xa s':=hs';rw[sN (fun h=>e h.symm)]at hs'
 exact s3 i x' s' hx' hs' W ((o1.trans o2).trans hW)
end
def holdM (m:Ma) (e:En) (n:Int):Ma:=if e.kind=1 then{ m with fs:=holdF m.fs m.hand e.n n,hand:=holdH m.fs m.hand e.n n }else if e.kind=2 then{ m with sl:=holdSL m.sl e.n n }else m
def entM (m:Ma) (q:Nat) (n:Int):En:=getT (m.sp.getD q ⟨Xd,[],[]⟩).tb n
def enterM (m:Ma) (q:Nat) (n:Int) (e:En):Ma:={ m with sp:=m.sp.set q { m.sp.getD q ⟨Xd,[],[]⟩with tb:=setR (m.sp.getD q ⟨Xd,[],[]⟩).tb n e } }
def shareM (m:Ma) (q p:Nat) (n:Int):Ma:=enterM (enterM (holdM m { entM m p n with wr:=false } 1) p n { entM m p n with wr:=false }) q n { entM m p n with wr:=false }
def dropP (m:Ma) (p:Nat) (n:Int):Ma:=enterM (holdM m (entM m p n) (-1)) p n en0
def Chd (w0:Xn) (p:Nat) (w:Xn) (V:MaV) (m':Ma) (w':Xn):Prop:=∃V':MaV,V'.sp=V.sp/\ChM w0 p w' V' m'/\OutD (Dp p V.sp) w w'
theorem Sp.getD_of {l:List Sp} {q:Nat} {s d:Sp} (h:l[q]? =Xa s):l.getD q d=s:=by
 rw[gD,h];rfl
section
variable{I:Xn->Prop} {P:Program} {ops:Array Oper} {S:Nat->Option (Xq->Prop)} {Q:Act->Xn->Prop}
variable(I P ops S Q)in
abbrev WLaxD:List Oper->Nat->(Xn->Prop)->Act->Prop:=WLaxF I P ops S (fun _=>Xd) Q
theorem wp_lax_tailD {id:Nat} {Q:Exit->Act->Xn->Prop} {a:Act} {w:Xn} {L l r:List Oper} (T:Nat) (S:List (Nat ×(Xq->Prop))) (F:Xn->Prop) (hI:I w.drew) (hF:F w.drew) (hm:P.follows .mixedOrders=Xc) (hB:laxTB L.toArray T=Xc) (hl:L.take T=l) (hr:L.drop T=r) (hT:T<=L.length)
  (hS:∀x∈S,∃v,x.2 v) (hch:((S.map (·.1)).all fun i=>(S.map (·.1)).all fun k=>!decide (i<k) || anc L.toArray 9 i k)=Xc)
  (h:WLaxD I P L.toArray (fun k=>S.lookup k) (fun a w=>wpList P L.toArray Q r a w) l 0 F a):(Code.region id L.toArray Xc).wp P Q a w:=
 wp_lax_tailF T S [] F hI hF hm hB hl hr hT hS (by simpa using hch) rfl h
variable{o:Oper} {rest:List Oper} {k:Nat} {F:Xn->Prop} {a:Act}
theorem laxD_quiet (ht:tame o=Xc) (hw:Yd o (yielded ops a.tmps)=Xc) (hS:S k=Xb)
  (h:∀K:Act->Prop,(∀a,WLaxD I P ops S Q rest (k+1) F a->K a)->o.quiet P a (fun w'=>∃x:HoldI I,w'=x.world) K):WLaxD I P ops S Q (o :: rest) k F a:=laxF_quiet ht hw hS h
theorem laxD_spec {s:Xq->Prop} (hw:Yd o (yielded ops a.tmps)=Xc) (hS:S k=Xa s) (p:Xq->Xn->Prop)
  (h:∀w,I w->F w->Does P o a w fun v w'=>I w'/\s v/\p v w')
  (hn:∀v,s v->WLaxD I P ops S Q rest (k+1) (p v) (a.put o.dst v)):WLaxD I P ops S Q (o :: rest) k F a:=laxF_spec hw hS p h hn
theorem laxD_nilc (x:Operand) (p:Addr) (ho:o.op= .nilCheck x) (hx:a.eval x= Xj (Xa p)) (hw:Yd o (yielded ops a.tmps)=Xc) (hS:S k=Xb) (h:WLaxD I P ops S Q rest (k+1) F (a.put o.dst (Xj (Xa p)))):WLaxD I P ops S Q (o :: rest) k F a:=laxF_nilc x p ho hx hw hS h
theorem laxD_nil (h:∀w,I w->F w->Q a w):WLaxD I P ops S Q [] k F a:=laxF_nil h
theorem laxD_val (v:Xq) (hw:Yd o (yielded ops a.tmps)=Xc) (hS:S k=Xb) (h:∀w,I w->(execOp a.eval o).run P w= .ok (.value v) w) (hn:WLaxD I P ops S Q rest (k+1) F (a.put o.dst v)):WLaxD I P ops S Q (o :: rest) k F a:=laxF_val hw hS (fun w hw _=>h w hw) hn
end
theorem chEntry_any {w0 w:Xn} {p:Nat} {V:MaV} {m:Ma} (h:ChM w0 p w V m) (q:Nat) (hq:q<m.sp.length) (n:Int):
  Xp Tryz.prog 136 #[Xj (Xa ⟨p,0,Xb⟩),Xi #[Xe Xf (q:Int),Xe Xf n]] w fun e w'=>e= Xl (enV (entM m q n))/\Grew w w':=by
 obtain⟨s,hs⟩:∃s,m.sp[q]? =Xa s:=⟨_,gE hq⟩;obtain⟨xs,s1,s2,s3⟩:=h.sp;obtain⟨x,hx⟩:∃x,xs[q]? =Xa x:=⟨_,gE (by rw[s2];exact hq)⟩
 have HAT:Xo (SpaceAt w x s):=s3 q x s hx hs w (OutD.refl _ _);obtain⟨xn,HXN⟩:∃xn,Xo (xs.length=xn):=⟨_,rfl⟩;obtain⟨g,c,heq⟩:=s1.formS (by omega)
 rw[HXN.out]at heq;have c10:=h.box.box.c 10 rfl;rw[heq]at c10 s1;have hqz:(q:Int)< (xn:Int):=by have:=HXN.out;omega
 have HC10:Xo (w.cell? ⟨p,10,Xb⟩=Xa (O (Xa ⟨g,0,Xb⟩) xn c)):=c10;have HBX:Xo (BoxT w p 88 (chL V m)):=h.box;have hce:Sp10 w ((Addr.mk g 0 Xb).add (q*10)) x:=(s1.one hx).sp10;rw[Xx,zA]at hce;have HCE:Xo (∀W,Grew w W->Sp10 W ⟨g,q*10,Xb⟩ x):=show∀W,_ from fun W hW=>by
  have:=((s1.grew hW).one hx).sp10;rw[Xx,zA]at this;exact this
 have HVS:Xo (O V.sp.a V.sp.n V.sp.c= O (Xa ⟨g,0,Xb⟩) xn c):=heq;obtain⟨E,HE⟩:∃E,Xo (entM m q n=E):=⟨_,rfl⟩;have HG:Xo (∀W,Grew w W->Xp Tryz.prog 69 #[Xi #[O x.t0.a x.t0.n x.t0.c,O x.t1.a x.t1.n x.t1.c,O x.t2.a x.t2.n x.t2.c,O x.t3.a x.t3.n x.t3.c,O x.t4.a x.t4.n x.t4.c,O x.t5.a x.t5.n x.t5.c,O x.t6.a x.t6.n x.t6.c,O x.t7.a x.t7.n x.t7.c],Xe Xf n] W fun e w'=>e= Xl (enV E)/\Grew W w'):=show∀W,_ from fun W hW=>by
  have k:=getTb_any x.tab s.tb n W (HAT.out.tb.grew hW);rw[show getT s.tb n=E from by rw[<-HE.out];unfold entM;rw[Sp.getD_of hs]]at k
  exact k
 rw[HE.out];clear h hq hs s1 s2 s3 hx heq c10 hce HAT;obtain⟨W1,hW1⟩:∃W1,(w.alloc (Xk #[Xe Xf (q:Int),Xe Xf n] 141)).alloc (Xk #[Xe Xf 0,Xe Xf 0,Xh Xd] 127)=W1:=⟨_,rfl⟩;have G1:=gD2 hW1
 have X1:=x2a hW1
 have Y1:=x2b hW1
 have HW1:Xo (_=W1):=hW1;clear hW1
 go_enter Tryz.func136,Tryz.ntmps136
 go_upto_region 1 with fail;rw[HW1.out];obtain⟨b,HB⟩:∃b,Xo (w.heap.size=b):=⟨_,rfl⟩;rw[HB.out]at X1 Y1⊢;obtain⟨I,HI⟩:∃I:Xn->Prop,Xo (∀u,I u↔Grew W1 u):=⟨fun u=>Grew W1 u,fun _=>Iff.rfl⟩
 have hI0:I W1.drew:=(HI.out _).2 (gW _)
 have ht:∀y:HoldI I,y.world.cell? ⟨p,10,Xb⟩=Xa (O (Xa ⟨g,0,Xb⟩) xn c):=fun y=>by rw[<-HVS.out];exact(HBX.out.box.grew (G1.out.trans ((HI.out _).1 y.holds))).c 10 rfl
 have hx0:=X1.out.h HI.out 0 rfl
 have hx1:=X1.out.h HI.out 1 rfl
 have hce:∀y:HoldI I,Sp10 y.world ⟨g,q*10,Xb⟩ x:=fun y=>HCE.out _ (G1.out.trans ((HI.out _).1 y.holds))
 have h2:=fun y=>(hce y).2.2.1
 have h3:=fun y=>(hce y).2.2.2.1
 have h4:=fun y=>(hce y).2.2.2.2.1
 have h5:=fun y=>(hce y).2.2.2.2.2.1
 have h6:=fun y=>(hce y).2.2.2.2.2.2.1
 have h7:=fun y=>(hce y).2.2.2.2.2.2.2.1
 have h8:=fun y=>(hce y).2.2.2.2.2.2.2.2.1
 have h9:=fun y=>(hce y).2.2.2.2.2.2.2.2.2
 dsimp only at h2 h3 h4 h5 h6 h7 h8 h9;clear hce;have hne:Nonempty (HoldI I):=⟨⟨_,hI0⟩⟩;refine wp_lax_tailD (I:=I) 13 [(12,fun v=>v=enV E)] (fun u=>True) hI0 trivial mixed (by kernel_rfl) rfl rfl (by decide) ?hS (by kernel_rfl) ?_
 case hS=>
  intro x hx;simp only[mC,nM,or_false]at hx;subst hx;exact⟨_,rfl⟩
 simp only[Ye,Yf];iterate 1 (refine laxD_quiet rfl rfl rfl (fun K hK=>?_);go_big_quiet_op;refine hK _ ?_;clear hK K)
 refine laxD_nilc (.tmp 5) ⟨p,0,Xb⟩ rfl rfl rfl rfl ?_;simp only[Xs,sB,sS,sZ];iterate 10 (refine laxD_quiet rfl rfl rfl (fun K hK=>?_);go_big_quiet_op;refine hK _ ?_;clear hK K)
 refine laxD_spec rfl rfl (fun _ u=>True) (fun w' hI' hF'=>?_) (fun v1 hv=>?_)
 ·refine Does.call [Xi #[O x.t0.a x.t0.n x.t0.c,O x.t1.a x.t1.n x.t1.c,O x.t2.a x.t2.n x.t2.c,O x.t3.a x.t3.n x.t3.c,O x.t4.a x.t4.n x.t4.c,O x.t5.a x.t5.n x.t5.c,O x.t6.a x.t6.n x.t6.c,O x.t7.a x.t7.n x.t7.c],Xe Xf n] rfl Tryz.func69 rfl rfl rfl ?_;refine(HG.out w' (G1.out.trans ((HI.out _).1 hI'))).mono ?_;rintro e w'' ⟨rfl,g2⟩;exact⟨_,rfl,(HI.out _).2 (((HI.out _).1 hI').trans g2),rfl,trivial⟩
 cases hv;simp only[Xs,sB,sS,sZ];refine laxD_nil fun W8 hI8 hF8=>?_
 have G8:Xo (Grew W1 W8):=(HI.out _).1 hI8;have Y8:=dD (Y1.out.grew G8.out);clear hI8 hF8 hI0 ht hx0 hx1 h2 h3 h4 h5 h6 h7 h8 h9 hne HI;unfold enV;refine wp_storeAll rfl 127 (.tmp 4) (.tmp 17) rfl (b+1) rfl [Xe Xf E.kind,Xe Xf E.n,Xh E.wr] rfl Y8.out rfl (by kernel_rfl) (by simp[Value.oneCell']) ?_
 intro W9 bx9 gr9 _;have G9:Xo (Grew w W9):=show Grew _ _ from grew_grown (G1.out.trans G8.out) gr9 (by have:=HB.out;omega)
 have B9:Xo (Box W9 (b+1) [Xe Xf E.kind,Xe Xf E.n,Xh E.wr]):=bx9;clear bx9 gr9;go_wp2;refine bodyPost_ret (ret_cell rfl _ rfl B9.out Tryz.underlying127 rfl (by kernel_rfl)) rfl ⟨rfl,G9.out⟩
theorem pgc_set (q:List Int) (i:Nat) (z:Int):pgc (q.set i z)=(pgc q).set i (Xe Xg z):=by
 unfold pgc;rw[List.map_set]
theorem pgc_at {q:List Int} {i:Nat} {z:Int} (h:q[i]? =Xa z):(pgc q)[i]? =Xa (Xe Xg z):=by
 unfold pgc;rw[Yq,h];rfl
theorem Tryz.sizePg:(Tryz.prog.info? 91).map (·.size)=Xa 8:=by kernel_rfl
theorem wrongL_zero {n:Nat} {qs:List (Int × List Int)} (h:wrongL n qs=0):n<=80/\qs.length<=400/\∀q∈qs,∃i:Nat,q.1=(i:Int)/\i<n:=by
 unfold wrongL at h
 by_cases h1:80<n
 ·rw[if_pos h1]at h;omega
 rw[if_neg h1]at h
 by_cases h2:400<qs.length
 ·rw[if_pos h2]at h;omega
 rw[if_neg h2]at h
 by_cases h3:(qs.any fun q=>!dkInB q.1 n)=Xc
 ·rw[if_pos h3]at h;omega
 refine⟨by omega,by omega,fun q hq=>?_⟩
 have h4:dkInB q.1 n=Xc:=by
  cases hb:dkInB q.1 n with
  | true=>rfl
  | false=>exact absurd (List.any_eq_true.2 ⟨q,hq,by simp[hb]⟩) h3
 unfold dkInB at h4
 simp at h4
 obtain⟨i,hi⟩:=Int.eq_ofNat_of_zero_le h4.1;exact⟨i,hi,by omega⟩
theorem nilDisk (base:Nat) (w:Xn):NewDisk base w (Xi #[O Xb 0 0,O Xb 0 0]) [] []:=
 ⟨_,_,rfl,⟨⟨Xb,0,rfl,fun _=>rfl,fun x hx=>by cases hx⟩,by simp,by simp⟩,⟨⟨Xb,0,rfl,fun _=>rfl,fun x hx=>by cases hx⟩,by simp,by simp⟩,fresh_nil _,fresh_nil _⟩
theorem nilPuts (w:Xn):PutsAt w (O Xb 0 0) []:=⟨⟨Xb,0,rfl,fun _=>rfl,fun x hx=>by cases hx⟩,by simp,by simp⟩
def newErr (n:Int):Int:=if 0<=n/\n<=80 then 0 else 4
def newD (n:Int):List (List Int):=if 0<=n/\n<=80 then Xr n.toNat zero8 else []
theorem made_pages (n:Nat):(madeCells #[Xe Xg 0,Xe Xg 0,Xe Xg 0,Xe Xg 0,Xe Xg 0,Xe Xg 0,Xe Xg 0,Xe Xg 0] (n*8)).toList=(Xr n zero8).flatMap pgc:=by
 have hl:((Xr n zero8).flatMap pgc).length=n*8:=by rw[flatMap_len (k:=8) _ (fun a ha=>by rw[Xu ha];rfl)];simp
 apply Yc
 intro j
 rcases Nat.lt_or_ge j (n*8)with h | h
 ·have hj:j=j / 8*8+j % 8:=by omega
  have h8:j % 8<8:=Nat.mod_lt _ (by decide)
  have hq:j / 8<n:=by omega
  have hz:(pgc zero8)[j % 8]? =Xa (Xe Xg 0):=by
   generalize j % 8=k at h8
   match k,h8 with
   | 0,_=>rfl
   | 1,_=>rfl
   | 2,_=>rfl
   | 3,_=>rfl
   | 4,_=>rfl
   | 5,_=>rfl
   | 6,_=>rfl
   | 7,_=>rfl
  have h1:=flatMap_elem (enc:=pgc) (k:=8) (Xr n zero8) (j / 8) zero8 (fun a ha=>by rw[Xu ha];rfl) (by simp[hq]) (j % 8) _ hz
  rw[<-hj]at h1;rw[h1];have:(#[Value.int .u8 0,Xe Xg 0,Xe Xg 0,Xe Xg 0,Xe Xg 0,Xe Xg 0,Xe Xg 0,Xe Xg 0]:Array Xq)[j % 8]! = Xe Xg 0:=by
   generalize j % 8=k at h8
   match k,h8 with
   | 0,_=>rfl
   | 1,_=>rfl
   | 2,_=>rfl
   | 3,_=>rfl
   | 4,_=>rfl
   | 5,_=>rfl
   | 6,_=>rfl
   | 7,_=>rfl
  simp[madeCells,h]
  simpa using this
 rw[gN (by simp[madeCells];exact h),gN (by rw[hl];exact h)]
theorem wpList_make_pages {w:Xn} {ops:Array Oper} {rest:List Oper} {o:Oper} {a:Act} {Q:Exit->Act->Xn->Prop} (hgd:o.guard=Xb) (l:Operand) (ho:o.op= .makeSlice 32 l l) (n:Nat) (hl:a.eval l= Xe Xf n) (hn:n<=80)
  (h:∀C,OwnPages w.heap.size (w.alloc (Xk C 91)) (O (Xa ⟨w.heap.size,0,Xb⟩) n n) (Xr n zero8)->wpList Tryz.prog ops Q rest (a.put o.dst (O (Xa ⟨w.heap.size,0,Xb⟩) n n)) (w.alloc (Xk C 91))):wpList Tryz.prog ops Q (o :: rest) a w:=by
 refine wpList_plain hgd fun K hK=>?_
 obtain⟨i0,hi,hz0,hz1,hz2⟩:=info_parts Tryz.infoPage;have hrun:=run_make (P:=Tryz.prog) w 32 91 i0 _ Tryz.underlying32 hi hz0 .i64 .i64 n n (by omega) (Int.le_refl _) (by rw[hz2];omega) (by omega)
 rw[hz1,tN]at hrun;unfold Oper.wp;simp only[execOp,ho,hl,Xv,hrun,Result.andThen,Xz,Oper.upon];refine hK _ _ (h _ ⟨⟨?_,.inr ⟨w.heap.size,n,madeCells #[Xe Xg 0,Xe Xg 0,Xe Xg 0,Xe Xg 0,Xe Xg 0,Xe Xg 0,Xe Xg 0,Xe Xg 0] (n*8),by rw[lR],nR _,?_,?_,?_,?_,?_⟩⟩,fun p hp=>by rw[Xu hp];rfl,by rw[lR];omega⟩)
 ·rw[flatMap_len (k:=8) _ (fun a ha=>by rw[Xu ha];rfl)]
 ·show(w.heap.push _)[w.heap.size]? =_
  simp[Value.cells]
 ·rw[lR];exact nR _
 ·exact maxLen_of (by omega)
 ·rw[size_madeCells]
 rw[lR]
 show(madeCells #[Xe Xg 0,Xe Xg 0,Xe Xg 0,Xe Xg 0,Xe Xg 0,Xe Xg 0,Xe Xg 0,Xe Xg 0] (n*8)).toList.take (n*8)=_
 rw[List.take_of_length_le (by simp[madeCells]),made_pages]
theorem new_any (n:Int) (w:Xn):
  Xp Tryz.prog 17 #[Xe Xf n] w fun e w'=>∃d',e= Xl (Xm #[d',Xe Xf (newErr n)])/\NewDisk w.heap.size w' d' (newD n) []/\Grew w w':=by
 by_cases h:0<=n/\n<=80
 ·have HE:Xo (newErr n=0):=show newErr n=0 by unfold newErr;rw[if_pos h]
  have HD:Xo (newD n=Xr n.toNat zero8):=show newD n=_ by unfold newD;rw[if_pos h]
  obtain⟨k,rfl⟩:=Int.eq_ofNat_of_zero_le h.1;have h0:¬(k:Int)<0:=by omega
  have h1:¬(80:Int)< (k:Int):=by omega
  have hk:k<=80:=by omega
  have HG0:Xo (Grew w (w.alloc (Xk #[O Xb 0 0,O Xb 0 0] 35))):=grew_alloc _ _;rw[HE.out]
  go_enter Tryz.func17,Tryz.ntmps17
  go_wp2_with (refine wpList_make_pages rfl (.tmp 11) rfl k rfl hk ?_;intro C ow;have OW:Xo (OwnPages (w.alloc (Xk #[O Xb 0 0,O Xb 0 0] 35)).heap.size ((w.alloc (Xk #[O Xb 0 0,O Xb 0 0] 35)).alloc (Xk C 91)) (O (Xa ⟨(w.alloc (Xk #[O Xb 0 0,O Xb 0 0] 35)).heap.size,0,Xb⟩) k k) (Xr k zero8)):=ow;clear ow)
  refine bodyPost_ret (v:= Xm #[Xi #[O (Xa ⟨w.heap.size+1,0,Xb⟩) k k,O Xb 0 0],Xe Xf 0]) (by simp[results,Tryz.results17,go_sem, *]) rfl ⟨_,rfl,?_,?_⟩
  ·rw[HD.out];have ho:=OW.out;rw[World.size_alloc]at ho;exact⟨_,_,rfl,OwnPages.at (base:=w.heap.size+1) ⟨ownsRow_same ho.1 (fun k hk=>alloc2_same w _ _ _ k hk),ho.2⟩,nilPuts _,fun x n c e=>by cases e;simp,fresh_nil _⟩
  exact(grew_alloc _ _).trans (grew_alloc _ _)
 have HE:Xo (newErr n=4):=show newErr n=4 by unfold newErr;rw[if_neg h]
 have HD:Xo (newD n=[]):=show newD n=_ by unfold newD;rw[if_neg h]
 rw[HE.out,HD.out]
 by_cases h0:n<0
 ·clear h
  go_enter Tryz.func17,Tryz.ntmps17
  go_wp2;refine bodyPost_ret (v:= Xm #[Xi #[O Xb 0 0,O Xb 0 0],Xe Xf 4]) (by simp[results,Tryz.results17,go_sem]) rfl ⟨_,rfl,nilDisk _ _,?_⟩
  exact grew_alloc _ _
 have h1:(80:Int)<n:=by omega
 clear h
 go_enter Tryz.func17,Tryz.ntmps17
 go_wp2;refine bodyPost_ret (v:= Xm #[Xi #[O Xb 0 0,O Xb 0 0],Xe Xf 4]) (by simp[results,Tryz.results17,go_sem]) rfl ⟨_,rfl,nilDisk _ _,?_⟩
 exact grew_alloc _ _
end
section
open Go.RowKit Go.Shelf
section
attribute [local go_sem] Oper.semAt_some
structure P9 where
  (i m b0 b1 b2 b3 b4 b5 b6 b7 : Int)
def P9.q (x : P9) : Int × List Int := (x.m, [x.b0, x.b1, x.b2, x.b3, x.b4, x.b5, x.b6, x.b7])
def P9.encs (x : P9) : Array Value := #[.int .i64 x.i, .agg #[.int .i64 x.m, .int .u8 x.b0, .int .u8 x.b1, .int .u8 x.b2, .int .u8 x.b3, .int .u8 x.b4, .int .u8 x.b5, .int .u8 x.b6, .int .u8 x.b7]]
theorem drop_rev {α : Type} (l : List α) (k : Nat) (q : α) (h : l[k]? = some q) : (l.drop k).reverse = (l.drop (k + 1)).reverse ++ [q] := by
  obtain ⟨hlt, rfl⟩ := List.getElem?_eq_some_iff.1 h
  rw [List.drop_eq_getElem_cons hlt, List.reverse_cons]
theorem drop_pre {α : Type} (l : List α) (k : Nat) : (l.drop k).reverse <+: l.reverse := by
  refine ⟨(l.take k).reverse, ?_⟩
  rw [<- Ym, List.take_append_drop]
theorem back1_in (F : Fence) (n : Nat) (hF : F.fn 234) (hro : F.round = Xb) (hn : 1 <= n) (l Bs n₀ : Nat) (w : Xn) (a : Option Addr) (c : Nat) (qs : List (Int × List Int)) (hr : PutRows w a qs) (hbig : qs.length <= 9223372036854775807) (hw : w.heap.size <= n₀) (hBn : Bs < n₀) (J Jx : List P9 -> Xn -> Prop)
    (hY : ∀ pre x W, J pre W -> pre.length < qs.length -> YieldAt F (n - 1) Tryz.prog l (P9.encs x) W fun e W' =>
      (e = Xl (Xh Xc) /\ J (pre ++ [x]) W' /\ Below n₀ W W') \/ (e = Xl (Xh Xd) /\ Jx (pre ++ [x]) W'))
    (W : World) (hgW : Grew w W) (hBs : W.cell? ⟨Bs, 0, none⟩ = some (.slice a qs.length c)) (h0 : J [] W) :
    CallsIn F n Tryz.prog 234 #[.func (.yield l) #[] #[], Xj (Xa ⟨Bs, 0, Xb⟩)] W fun e W' => (∃ v, e = Xl v) /\
      ((∃ ys, ys.map P9.q = qs.reverse /\ J ys W') \/ (∃ pre, pre.map P9.q <+: qs.reverse /\ Jx pre W')) := by
  have HR : Hid (PutRows w a qs) := hr
  have HY : Hid _ := hY
  obtain ⟨nq, HN⟩ : ∃ nq, Hid (qs.length = nq) := ⟨_, rfl⟩
  rw [HN.out] at hbig hBs
  have HBS : Hid (W.cell? ⟨Bs, 0, none⟩ = some (.slice a nq c)) := hBs
  have HGW : Hid (Grew w W) := hgW
  clear hr hY hgW
  refine callsIn_of_wp Tryz.func234 rfl hF ?_ hro
  simp only [Tryz.ntmps234, List.size_toArray, List.length_cons, List.length_nil, Nat.reduceAdd, Nat.reduceSub, Array.replicate_succ, Array.replicate_zero, List.push_toArray, List.append_toArray, List.nil_append, List.cons_append]
  gi_wp2
  clear hBs
  gi_loopw [3] (fun p wr => ∃ (r : Nat) (pre : List P9), r <= nq /\ p = Xe Xf ((r : Int) - 1) /\ Xo (pre.map P9.q = (qs.drop r).reverse) /\ Xo (J pre wr) /\ Xo (Below n₀ W wr))
    (fun p _ => ((intOf p) + 1).toNat)
  case atStart => exact ⟨nq, [], Nat.le_refl _, by go_num, (show Hid _ from by rw [List.drop_of_length_le (by rw [HN.out]; exact Nat.le_refl _)]; rfl), h0, Below.refl _ _⟩
  case round =>
    obtain ⟨r, pre, hrn, rfl, HP, HJ, HB⟩ := hrel
    cases r with
    | zero =>
      gi_wp2
      go_end0
      exact ⟨⟨_, rfl⟩, .inl ⟨pre, by rw [HP.out]; rfl, HJ.out⟩⟩
    | succ k =>
      obtain ⟨q, HQ⟩ : ∃ q, Hid (qs[k]? = some q) := ⟨_, List.getElem?_eq_getElem (by rw [HN.out]; omega)⟩
      obtain ⟨x, m, b0, b1, b2, b3, b4, b5, b6, b7, rfl, rfl, hl⟩ := HR.out k q HQ.out
      obtain ⟨d0, d1, d2, d3, d4, d5, d6, d7, d8⟩ := hl wr (Below.trans HGW.out (HB.out.mono hw))
      have hbs : wr.cell? ⟨Bs, 0, none⟩ = some (.slice (some x) nq c) := (HB.out.cell (p := ⟨Bs, 0, none⟩) hBn).trans HBS.out
      have hlen : pre.length < qs.length := by
        have := congrArg List.length HP.out
        rw [List.length_map, List.length_reverse, List.length_drop] at this
        have := HN.out
        omega
      obtain ⟨fn, tmps, assign, body, hy, hR⟩ := HY.out pre ⟨k, m, b0, b1, b2, b3, b4, b5, b6, b7⟩ wr HJ.out hlen
      simp only [P9.encs] at hy
      have hk1 : ((k + 1 : Nat) : Int) - 1 = (k : Int) := by omega
      have hkn : (k : Int) < (nq : Int) := by omega
      rw [hk1]
      clear hl
      gi_wp2
      refine hR.mono ?_
      rintro e W3 (⟨rfl, hJ3, hk3⟩ | ⟨rfl, hJx3⟩)
      · gi_wp2
        go_roundw
        case rel => exact ⟨k, _, by omega, by go_num, (show Hid _ from by rw [List.map_append, HP.out, drop_rev qs k _ HQ.out]; rfl), hJ3, (show Hid _ from HB.out.trans hk3)⟩
        case measure => simp [intOf]
      · gi_wp2
        refine bodyPost_ret (results_none rfl _ _ _) rfl ?_
        refine ⟨⟨_, rfl⟩, .inr ⟨_, ?_, hJx3⟩⟩
        rw [List.map_append, HP.out]
        have := drop_pre qs k
        rw [drop_rev qs k _ HQ.out] at this
        exact this
theorem back_in (F : Fence) (n : Nat) (hF : F.fn 211) (hro : F.round = none) (a : Option Addr) (len cap : Nat) (w : World) :
    CallsIn F n Tryz.prog 211 #[O a len cap] w fun e w' => e = Xl (.func (.func 234) #[] #[Xj (Xa ⟨w.heap.size, 0, Xb⟩)]) /\ w' = w.alloc (Xk #[O a len cap] 33) := by
  refine callsIn_of_wp Tryz.func211 rfl hF ?_ hro
  simp only [Tryz.ntmps211, List.size_toArray, List.length_cons, List.length_nil, Nat.reduceAdd, Nat.reduceSub, Array.replicate_succ, Array.replicate_zero, List.push_toArray, List.append_toArray, List.nil_append, List.cons_append]
  gi_wp2
  go_ret
  exact ⟨rfl, rfl⟩
theorem back_stops (F : Fence) (n : Nat) (hF : F.fn 234) (hro : F.round = Xb) (hn : 1 <= n) (Bs n₀ : Nat) (w0 : Xn) (a : Option Addr) (c : Nat) (qs : List (Int × List Int)) (hr : PutRows w0 a qs) (hbig : qs.length <= 9223372036854775807) (w : Xn) (hg : Grew w0 w) (hBs : Bs < n₀) (hn₀ : n₀ = w.heap.size)
    (hc : w.cell? ⟨Bs, 0, none⟩ = some (.slice a qs.length c)) :
    SeqStopsK F n Tryz.prog 234 #[.pointer (some ⟨Bs, 0, none⟩)] P9.encs (Below n₀) (fun ys => ys.map P9.q = qs.reverse) (fun pre => pre.map P9.q <+: qs.reverse) qs.length w := fun l J Jx W hW _ _ hY h0 => by
  subst hn₀
  exact back1_in F n hF hro hn l Bs w.heap.size w0 a c qs hr hbig (Below.size hg) hBs J Jx hY W (hg.trans hW) ((hW.cell (p := ⟨Bs, 0, none⟩) hBs).trans hc) h0
end
section
attribute [local go_sem] Oper.semAt_some
theorem box_own {β:Type} (B:Nat) (f:β->List Xq):Own (fun s W=>Box W B (f s)):=fun s X Y row hs hg hrow=>by
 have hlt:=hs.lt;obtain⟨t,h⟩:=hs;refine⟨t,?_⟩;rw[hg.block B hlt (fun e=>?_)]
 ·exact h
 obtain⟨o,ho,hc⟩:=hrow B e.symm;rw[h]at ho;cases ho;cases hc
theorem Box.put {W:Xn} {b D:Nat} {cs:List Xq} {o:Obj} (h:Box W b cs) (o':Obj) (hD:W.heap[D]? =Xa o) (ho:o.isCells=Xd):Box (W.putObj D o') b cs:=
 box_own b (fun _:Unit=>cs) () W _ (Xa D) h (grownBy_putObj' W D o') (fun r e=>by cases e;exact⟨o,hD,ho⟩)
theorem keeps_set {A B:Xn} (h:KeepsOthers A B) (a:Addr) (u:Xq):KeepsOthers A (B.setCell a u):=h.trans (KeepsOthers.setCell _ _ _)
theorem find_none {qs:List (Int × List Int)} {ys:List P9} {m:Int} (h:ys.map P9.q=qs.reverse) (hne:∀x∈ys,x.m≠m):qs.reverse.find? (fun q=>q.1 == m)=Xb:=by
 rw[<-h,Yp];intro q hq;obtain⟨x,hx,rfl⟩:=Yr.1 hq
 simpa [P9.q]using hne x hx
theorem find_some {qs:List (Int × List Int)} {ini:List P9} {x:P9} {m:Int} (h:(ini++ [x]).map P9.q<+:qs.reverse) (hne:∀y∈ini,y.m≠m) (hx:x.m=m):qs.reverse.find? (fun q=>q.1 == m)=Xa x.q:=by
 obtain⟨t,ht⟩:=h;rw[<-ht,List.map_append,List.append_assoc,Ys];have h1:(ini.map P9.q).find? (fun q=>q.1 == m)=Xb:=by
  rw[Yp];intro q hq;obtain⟨y,hy,rfl⟩:=Yr.1 hq
  simpa [P9.q]using hne y hy
 rw[h1]
 simp[P9.q,hx]
theorem wrongAtL_zero {n:Nat} {qs:List (Int × List Int)} {m:Int} (h:wrongAtL n qs m=0):wrongL n qs=0/\∃i:Nat,m=(i:Int)/\i<n:=by
 unfold wrongAtL at h
 by_cases h1:wrongL n qs=0
 ·rw[if_pos h1]at h;refine⟨h1,?_⟩
  cases hb:dkInB m n with
  | false=>rw[hb]at h;simp at h
  | true=>
   unfold dkInB at hb
   simp at hb
   obtain⟨i,hi⟩:=Int.eq_ofNat_of_zero_le hb.1;exact⟨i,hi,by omega⟩
 rw[if_neg h1]at h;exact absurd h h1
theorem read_any (d:Xq) (ps:List (List Int)) (qs:List (Int × List Int)) (m:Int) (w:Xn) (hd:DiskAt w d ps qs):
  Xp Tryz.prog 184 #[d,Xe Xf m] w fun e w'=>e= Xl (Xm #[Xi (pgc (readL ps qs m)).toArray,Xe Xf (wrongAtL ps.length qs m)])/\Grew w w':=by
 obtain⟨b,q,rfl,hb,hq⟩:=hd;have HB:Xo (PagesAt w b ps):=hb;have HQ:Xo (PutsAt w q qs):=hq;obtain⟨ab,cb,rfl,hrb⟩:=hb.rows;obtain⟨aq,cq,rfl,hrq⟩:=hq.rows;have HRB:Xo (PageRows w ab ps):=hrb;have HRQ:Xo (PutRows w aq qs):=hrq;clear hb hq hrb hrq;have HL:Xo (readL ps qs m=if wrongAtL ps.length qs m=0 then(match qs.reverse.find? (fun q=>q.1 == m)with | some q=>q.2 | none=>ps.getD m.toNat zero8)else zero8):=rfl
 obtain⟨W0,hW0⟩:∃W0,(((w.alloc (Xk #[O ab ps.length cb,O aq qs.length cq] 35)).alloc (Xk #[Xe Xf m] 3)).alloc (Xk #[Xe Xg 0,Xe Xg 0,Xe Xg 0,Xe Xg 0,Xe Xg 0,Xe Xg 0,Xe Xg 0,Xe Xg 0] 91)).alloc (Xk #[Xe Xf 0] 44)=W0:=⟨_,rfl⟩;have HG0:Xo (Grew w W0):=show Grew w W0 by rw[<-hW0];exact(((grew_alloc _ _).trans (grew_alloc _ _)).trans (grew_alloc _ _)).trans (grew_alloc _ _)
 have X0:Xo (Box W0 w.heap.size [O ab ps.length cb,O aq qs.length cq]):=show Box _ _ _ by rw[<-hW0];exact(((Box.top w [O ab ps.length cb,O aq qs.length cq] _ rfl).alloc _).alloc _).alloc _
 have X1:Xo (Box W0 (w.heap.size+1) [Xe Xf m]):=show Box _ _ _ by rw[<-hW0];exact((Box.top _ [Xe Xf m] _ (by simp)).alloc _).alloc _
 have X2:Xo (Box W0 (w.heap.size+1+1) [Xe Xg 0,Xe Xg 0,Xe Xg 0,Xe Xg 0,Xe Xg 0,Xe Xg 0,Xe Xg 0,Xe Xg 0]):=show Box _ _ _ by rw[<-hW0];exact(Box.top _ [Xe Xg 0,Xe Xg 0,Xe Xg 0,Xe Xg 0,Xe Xg 0,Xe Xg 0,Xe Xg 0,Xe Xg 0] _ (by simp)).alloc _
 have X3:Xo (Box W0 (w.heap.size+1+1+1) [Xe Xf 0]):=show Box _ _ _ by rw[<-hW0];exact Box.top _ [Xe Xf 0] _ (by simp)
 have hcon:=wrongAt_any ab ps.length cb (O aq qs.length cq) qs m W0 (HQ.out.grew HG0.out);have hqbig:qs.length<=9223372036854775807:=by have:=HQ.out.2.2;omega
 obtain⟨r,HW⟩:∃r,Xo (wrongAtL ps.length qs m=r):=⟨_,rfl⟩;rw[HW.out]at hcon HL⊢;obtain⟨nb,HNB⟩:∃nb,Xo (ps.length=nb):=⟨_,rfl⟩;obtain⟨nq,HNQ⟩:∃nq,Xo (qs.length=nq):=⟨_,rfl⟩;rw[HNB.out,HNQ.out]at hcon hW0 X0⊢;have HW0:Xo (_=W0):=hW0;clear hW0
 by_cases hr:r=0
 ·subst hr;rw[if_pos rfl]at HL;refine(callsIn_wide (n:=5)).1 ?_;refine callsIn_of_wp_marks Tryz.func184 rfl trivial ?_ rfl;simp only[Tryz.ntmps184,Yt,Xy,Yh,Nat.reduceAdd,Nat.reduceSub,Yk,Yl,Yu,Yn,Yi,Yg]
  gi_wp2_with (first
   | (
    refine⟨trivial,?_⟩;gi_at_call 210;rw[HW0.out];refine(callsIn_wide.2 hcon).mono ?_;rintro e W1 ⟨rfl,hg1⟩;have HG1:Xo (Grew W0 W1):=hg1;have e0:=(X0.out.grew hg1).c 0 rfl;have e1:=(X0.out.grew hg1).c 1 rfl)
   | (
    refine⟨trivial,?_⟩;gi_at_call 211;refine(back_in Fence.wide _ trivial rfl _ _ _ _).mono ?_;rintro e W2 ⟨rfl,hW2⟩;have HW2:Xo (W2=W1.alloc (Xk #[O aq nq cq] 33)):=hW2;clear hW2))
  have HG2:Xo (Grew w W2):=show Grew w W2 by rw[HW2.out];exact(HG0.out.trans HG1.out).trans (grew_alloc _ _)
  have HGW2:Xo (Grew W0 W2):=show Grew W0 W2 by rw[HW2.out];exact HG1.out.trans (grew_alloc _ _)
  have HSZ:Xo (w.heap.size+4<=W1.heap.size/\W2.heap.size=W1.heap.size+1):=show _/\_ from⟨by have h1:=bS HG1.out;have h2:=X3.out.lt;omega,by rw[HW2.out];simp⟩
  have bS:Box W2 W1.heap.size [O aq nq cq]:=by rw[HW2.out];exact Box.top _ [O aq nq cq] _ rfl
  have HC:=bS.c 0 rfl;obtain⟨_,i,hmi,hib⟩:=wrongAtL_zero HW.out;have HI:Xo (m=(i:Int)/\i<ps.length):=⟨hmi,hib⟩;clear e0 e1 hcon hg1 hmi hib bS;refine wpIn_rangeFunc_ownH rfl (by decide) (gf:=234) (lb:=#[Xj (Xa ⟨W1.heap.size,0,Xb⟩)]) rfl trivial (enters_of Tryz.func234 (by kernel_rfl) rfl)
   (back_stops Fence.wide 4 trivial rfl (by decide) W1.heap.size W2.heap.size w aq cq qs HRQ.out hqbig W2 HG2.out (by have:=HSZ.out.2;omega) rfl (by rw[HNQ.out];exact HC)) belowK_t (belowK_b (nR _)) (bR _ _) (fun _=>rfl)
   (fun pre W=>(∀x∈pre,x.m≠m)/\Below W2.heap.size W2 W)
   (fun c pre W=>(c= .ret/\∃ini last,pre=ini++ [last]/\(∀x∈ini,x.m≠m)/\last.m=m/\Box W (w.heap.size+1+1) [Xe Xg last.b0,Xe Xg last.b1,Xe Xg last.b2,Xe Xg last.b3,Xe Xg last.b4,Xe Xg last.b5,Xe Xg last.b6,Xe Xg last.b7]/\Box W (w.heap.size+1+1+1) [Xe Xf 0])/\Below w.heap.size w W)
   (OwnFrom.and (fun s X Y row hs hg hr=>hs) (ownFrom_below (nR _) (nR _)))
   (fun c=>OwnFrom.and (Own.from (fun s X Y row hs hg hr=>by
    obtain⟨hc,ini,last,e1,e2,e3,e4,e5⟩:=hs;exact⟨hc,ini,last,e1,e2,e3,box_own _ (fun _:Unit=>_) () X Y row e4 hg hr,box_own _ (fun _:Unit=>_) () X Y row e5 hg hr⟩) _) (ownFrom_below (nR _) (bS HG2.out)))
   ⟨by simp,bR _ _⟩
   (fun x a' W=>∃Bx,W2.heap.size<=Bx/\Box W Bx [Xe Xf x.m,Xe Xg x.b0,Xe Xg x.b1,Xe Xg x.b2,Xe Xg x.b3,Xe Xg x.b4,Xe Xg x.b5,Xe Xg x.b6,Xe Xg x.b7]/\
    a'={ tmps:=#[Xi #[O ab nb cb,O aq nq cq],Xe Xf m,Xj (Xa ⟨w.heap.size,0,Xb⟩),Xj (Xa ⟨w.heap.size+1,0,Xb⟩),Xj (Xa ⟨w.heap.size+1+1,0,Xb⟩),Xj (Xa ⟨w.heap.size+1+1+1,0,Xb⟩),Xe Xf 0,undef,Xj (Xa ⟨Bx,0,Xb⟩),
     Xi #[O ab nb cb,O aq nq cq],Xe Xf m,Xe Xf 0,Xe Xf 0,Xh Xd,undef,undef,Xj (Xa ⟨w.heap.size,1,Xb⟩),O aq nq cq,.func (.func 234) #[] #[Xj (Xa ⟨W1.heap.size,0,Xb⟩)],Xe Xf x.i,
     Xi #[Xe Xf x.m,Xe Xg x.b0,Xe Xg x.b1,Xe Xg x.b2,Xe Xg x.b3,Xe Xg x.b4,Xe Xg x.b5,Xe Xg x.b6,Xe Xg x.b7],undef,undef,undef,undef,undef,undef,undef,undef,undef,undef,undef],defers:=[] })
   (fun x a' _ X Y row hs hg hr=>by obtain⟨Bx,h1,h2,h3⟩:=hs;exact⟨Bx,h1,box_own Bx (fun _:Unit=>_) () X Y row h2 hg (fun r e=>(hr r e).2),h3⟩)
   ?assign ?body ?done ?stop
  case assign=>
   rintro l pre x W K ⟨hp,hB⟩ hK;simp only[P9.encs]
   gi_wp2
   exact hK _ _ ((KeepsOthers.alloc _ _).from _) ((bR _ W).alloc hB.size _) ⟨hp,hB.alloc hB.size _⟩ ⟨W.heap.size,hB.size,Box.top W [Xe Xf x.m,Xe Xg x.b0,Xe Xg x.b1,Xe Xg x.b2,Xe Xg x.b3,Xe Xg x.b4,Xe Xg x.b5,Xe Xg x.b6,Xe Xg x.b7] _ rfl,rfl⟩
  case body=>
   rintro l pre x a' W hl ⟨rr,hrr⟩ ⟨hp,hB⟩ ⟨Bx,hBx,bX,rfl⟩ hlt;have Z1:=(X1.out.grew HGW2.out).below hB ((X1.out.grew HGW2.out).lt);have Z2:=(X2.out.grew HGW2.out).below hB ((X2.out.grew HGW2.out).lt);have Z3:=(X3.out.grew HGW2.out).below hB ((X3.out.grew HGW2.out).lt);have HZ2:Xo (Box W _ _):=Z2;have HZ3:Xo (Box W _ _):=Z3;have HBW:Xo (Below W2.heap.size W2 W):=hB;obtain⟨c0,c1,c2,c3,c4,c5,c6,c7⟩:=Z2.c8;have f0:=Z2.f;have c8:=Z3.c 0 rfl;have f1:=Z3.f 0;have cm:=Z1.c 0 rfl;have x0:=bX.c 0 rfl;have x1:=bX.c 1 rfl;have x2:=bX.c 2 rfl;have x3:=bX.c 3 rfl;have x4:=bX.c 4 rfl;have x5:=bX.c 5 rfl;have x6:=bX.c 6 rfl;have x7:=bX.c 7 rfl;have x8:=bX.c 8 rfl;have HP:Xo (∀x∈pre,x.m≠m):=hp;clear hp Z1 Z2 Z3 bX hB hrr
   by_cases hx:x.m=m
   ·have hxb:(x.m == m)=Xc:=by simpa using hx
    gi_wp2
    refine⟨KeepsOthers.from ?_ _,⟨rfl,pre,x,rfl,HP.out,hx,?_,?_⟩,?_⟩
    ·iterate 9 (refine keeps_set ?_ _ _)
     exact KeepsOthers.refl _
    ·exact((((((((HZ2.out.set 0 _).set 1 _).set 2 _).set 3 _).set 4 _).set 5 _).set 6 _).set 7 _).other (by simp) _
    ·refine Box.set (cs:=[Xe Xf 0]) ?_ 0 _;iterate 8 (refine Box.other ?_ (by simp) _)
     exact HZ3.out
    iterate 9 (refine grew_set ?_ (by simp;omega) _)
    exact Below.trans HG2.out (HBW.out.mono (bS HG2.out))
   have hxb:(x.m == m)=Xd:=by simpa using hx
   gi_wp2
   exact⟨KeepsFrom.refl _ _,bR _ _,fun y hy=>(List.mem_append.1 hy).elim (HP.out y) (fun e=>by simp at e;subst e;exact hx),HBW.out⟩
  case done=>
   rintro D ys W hD hS ⟨hp,hB⟩ hK;have Z0:=(X0.out.grew HGW2.out).below hB ((X0.out.grew HGW2.out).lt);have Z1:=(X1.out.grew HGW2.out).below hB ((X1.out.grew HGW2.out).lt);have Z2:=(X2.out.grew HGW2.out).below hB ((X2.out.grew HGW2.out).lt);have Z3:=(X3.out.grew HGW2.out).below hB ((X3.out.grew HGW2.out).lt);have HZ2:Xo (Box W _ _):=Z2;have HZ3:Xo (Box W _ _):=Z3;have HGW:Xo (Grew w W):=show Grew w W from Below.trans HG2.out (hB.mono (bS HG2.out))
   have HF:=find_none hS hp;obtain⟨rfl,hib⟩:=HI.out;obtain⟨pg,hpg⟩:∃pg,ps[i]? =Xa pg:=⟨_,gE hib⟩;obtain⟨xa,b0,b1,b2,b3,b4,b5,b6,b7,rfl,rfl,hl⟩:=HRB.out i pg hpg;obtain⟨d0,d1,d2,d3,d4,d5,d6,d7⟩:=hl W HGW.out;have hib':(i:Int)< (nb:Int):=by rw[<-HNB.out];omega
   rw[HF,show ps.getD (Int.toNat (i:Int)) zero8=[b0,b1,b2,b3,b4,b5,b6,b7]from by simp[hpg]]at HL
   have z0:=Z0.c 0 rfl;have z1:=Z1.c 0 rfl;obtain⟨c0,c1,c2,c3,c4,c5,c6,c7⟩:=Z2.c8;have f0:=Z2.f;have c8:=Z3.c 0 rfl;have f1:=Z3.f 0;have HKD:Xo (W.heap[D]? =Xa (.deferred (Xa []))):=hK;clear hl hpg hib HF hS hp Z0 Z1 Z2 Z3 hK hB
   gi_wp2
   clear c0 c1 c2 c3 c4 c5 c6 c7 c8 f0 f1 z0 z1 d0 d1 d2 d3 d4 d5 d6 d7;have hK':=(show KeepsOthers W _ from keeps_set (keeps_set (keeps_set (keeps_set (keeps_set (keeps_set (keeps_set (keeps_set (keeps_set (KeepsOthers.refl W) ⟨w.heap.size+1+1,0,Xb⟩ (Xe Xg b0)) ⟨w.heap.size+1+1,1,Xb⟩ (Xe Xg b1)) ⟨w.heap.size+1+1,2,Xb⟩ (Xe Xg b2)) ⟨w.heap.size+1+1,3,Xb⟩ (Xe Xg b3)) ⟨w.heap.size+1+1,4,Xb⟩ (Xe Xg b4)) ⟨w.heap.size+1+1,5,Xb⟩ (Xe Xg b5)) ⟨w.heap.size+1+1,6,Xb⟩ (Xe Xg b6)) ⟨w.heap.size+1+1,7,Xb⟩ (Xe Xg b7)) ⟨w.heap.size+1+1+1,0,Xb⟩ (Xe Xf 0)).same D _ HKD.out rfl
   refine⟨by simp,.inl ⟨_,_,rfl,run_takeDeferred hK',?_⟩⟩
   have B2:=(((((((((HZ2.out.set 0 (Xe Xg b0)).set 1 (Xe Xg b1)).set 2 (Xe Xg b2)).set 3 (Xe Xg b3)).set 4 (Xe Xg b4)).set 5 (Xe Xg b5)).set 6 (Xe Xg b6)).set 7 (Xe Xg b7)).other (a:=⟨w.heap.size+1+1+1,0,Xb⟩) (by simp) (Xe Xf 0)).put (.deferred Xb) hK' rfl
   have B3:=((((((((((HZ3.out.other (a:=⟨w.heap.size+1+1,0,Xb⟩) (by simp) (Xe Xg b0)).other (a:=⟨w.heap.size+1+1,1,Xb⟩) (by simp) (Xe Xg b1)).other (a:=⟨w.heap.size+1+1,2,Xb⟩) (by simp) (Xe Xg b2)).other (a:=⟨w.heap.size+1+1,3,Xb⟩) (by simp) (Xe Xg b3)).other (a:=⟨w.heap.size+1+1,4,Xb⟩) (by simp) (Xe Xg b4)).other (a:=⟨w.heap.size+1+1,5,Xb⟩) (by simp) (Xe Xg b5)).other (a:=⟨w.heap.size+1+1,6,Xb⟩) (by simp) (Xe Xg b6)).other (a:=⟨w.heap.size+1+1,7,Xb⟩) (by simp) (Xe Xg b7)).set 0 (Xe Xf 0)).put (.deferred Xb) hK' rfl)
   obtain⟨r0,r1,r2,r3,r4,r5,r6,r7⟩:=B2.c8;have r8:=B3.c 0 rfl;refine⟨Xm #[Xi #[Xe Xg b0,Xe Xg b1,Xe Xg b2,Xe Xg b3,Xe Xg b4,Xe Xg b5,Xe Xg b6,Xe Xg b7],Xe Xf 0],by simp[results,Tryz.f184,go_sem,r0,r1,r2,r3,r4,r5,r6,r7,r8],?_,?_⟩
   ·rw[HL.out];rfl
   refine Below.trans ?_ (belowK_b (w:=W2) (n₀:=w.heap.size) (bS HG2.out) _ D _ _ hD hK' rfl rfl);iterate 9 (refine grew_set ?_ (by simp;omega) _)
   exact HGW.out
  rintro D c pre W hD hS ⟨⟨rfl,ini,last,e1,e2,e3,b2,b3⟩,hB⟩ hK
  gi_wp2
  have B2:=b2.put (.deferred Xb) hK rfl;have B3:=b3.put (.deferred Xb) hK rfl;obtain⟨r0,r1,r2,r3,r4,r5,r6,r7⟩:=B2.c8;have r8:=B3.c 0 rfl;refine⟨by simp,.inl ⟨_,_,rfl,run_takeDeferred hK,?_⟩⟩
  refine⟨Xm #[Xi #[Xe Xg last.b0,Xe Xg last.b1,Xe Xg last.b2,Xe Xg last.b3,Xe Xg last.b4,Xe Xg last.b5,Xe Xg last.b6,Xe Xg last.b7],Xe Xf 0],by simp[results,Tryz.f184,go_sem,r0,r1,r2,r3,r4,r5,r6,r7,r8],?_,?_⟩
  ·subst e1;rw[HL.out,find_some hS e2 e3];rfl
  exact Below.trans hB (belowK_b (w:=W2) (n₀:=w.heap.size) (bS HG2.out) W D _ _ hD hK rfl rfl)
 have hne:(r != 0)=Xc:=by simpa using hr
 rw[if_neg hr]at HL;rw[HL.out];refine(callsIn_wide (n:=5)).1 ?_;refine callsIn_of_wp_marks Tryz.func184 rfl trivial ?_ rfl;simp only[Tryz.ntmps184,Yt,Xy,Yh,Nat.reduceAdd,Nat.reduceSub,Yk,Yl,Yu,Yn,Yi,Yg]
 gi_wp2_with (
  refine⟨trivial,?_⟩;gi_at_call 210;rw[HW0.out];refine(callsIn_wide.2 hcon).mono ?_;rintro e W1 ⟨rfl,hg1⟩;have Y2:=dD (X2.out.grew hg1);have Y3:=dD (X3.out.grew hg1);obtain⟨c0,c1,c2,c3,c4,c5,c6,c7⟩:=Y2.out.c8;have f0:=Y2.out.f;have c8:=Y3.out.c 0 rfl;have f1:=Y3.out.f 0)
 refine⟨Xm #[Xi #[Xe Xg 0,Xe Xg 0,Xe Xg 0,Xe Xg 0,Xe Xg 0,Xe Xg 0,Xe Xg 0,Xe Xg 0],Xe Xf r],by simp[results,Tryz.f184,go_sem, *],rfl,?_⟩
 have HG1:Grew w W1:=HG0.out.trans hg1;iterate 9 (refine grew_set ?_ (by simp;omega) _)
 exact HG1
end
end
section
open Go.RowKit
def writeB (ps:List (List Int)) (qs:List (Int × List Int)):List (List Int):=if qs.length=400 then ps.set (qs.headD (0,[])).1.toNat (qs.headD (0,[])).2 else ps
def writeQ (qs:List (Int × List Int)) (m:Int) (p:List Int):List (Int × List Int):=(if qs.length=400 then qs.tail else qs)++ [(m,p)]
def writeDP (ps:List (List Int)) (qs:List (Int × List Int)) (m:Int):List (List Int):=if wrongAtL ps.length qs m=0 then writeB ps qs else []
def writeDQ (ps:List (List Int)) (qs:List (Int × List Int)) (m:Int) (p:List Int):List (Int × List Int):=if wrongAtL ps.length qs m=0 then writeQ qs m p else []
theorem wrongL_ok {n:Nat} {qs:List (Int × List Int)} (hn:n<=80) (hq:qs.length<=400) (hin:∀q∈qs,∃i:Nat,q.1=(i:Int)/\i<n):wrongL n qs=0:=by
 unfold wrongL;rw[if_neg (by omega),if_neg (by omega),if_neg]
 intro h;obtain⟨q,hq,hb⟩:=List.any_eq_true.1 h;obtain⟨i,hi,hlt⟩:=hin q hq
 simp[dkInB,hi,hlt]at hb
theorem wrongAtL_ok {n:Nat} {qs:List (Int × List Int)} {m:Int} (h:wrongL n qs=0) {i:Nat} (hm:m=(i:Int)) (hi:i<n):wrongAtL n qs m=0:=by
 unfold wrongAtL;rw[if_pos h,if_pos]
 simp[dkInB,hm,hi]
theorem wrongAtL_of {n:Nat} {qs:List (Int × List Int)} (h:wrongL n qs=0) (m:Int):wrongAtL n qs m=if dkInB m n then 0 else 3:=by
 unfold wrongAtL;rw[if_pos h]
theorem writeB_len (ps:List (List Int)) (qs:List (Int × List Int)):(writeB ps qs).length=ps.length:=by
 unfold writeB
 split <;> simp
theorem write_right {ps:List (List Int)} {qs:List (Int × List Int)} {m:Int} {p:List Int} (h:wrongAtL ps.length qs m=0):wrongL (writeB ps qs).length (writeQ qs m p)=0:=by
 obtain⟨h0,i,hmi,hib⟩:=wrongAtL_zero h;obtain⟨h1,h2,h3⟩:=wrongL_zero h0;rw[writeB_len];refine wrongL_ok h1 ?_ fun q hq=>?_
 ·unfold writeQ
  split
  ·simp;omega
  simp;omega
 unfold writeQ at hq
 rcases List.mem_append.1 hq with h4 | h4
 ·split at h4
  ·exact h3 q (List.mem_of_mem_tail h4)
  exact h3 q h4
 simp at h4
 subst h4;exact⟨i,hmi,hib⟩
def pickQ:Option (Int × List Int)->List Int->List Int
 | some q,_=>q.2
 | none,d=>d
theorem readL_of {ps:List (List Int)} {qs:List (Int × List Int)} {m:Int} (h:wrongAtL ps.length qs m=0):readL ps qs m=pickQ (qs.reverse.find? (fun q=>q.1 == m)) (ps.getD m.toNat zero8):=by
 unfold readL;rw[if_pos h]
 cases qs.reverse.find? (fun q=>q.1 == m) <;> rfl
theorem write_same {ps:List (List Int)} {qs:List (Int × List Int)} {m:Int} {p:List Int} (h:wrongAtL ps.length qs m=0):wrongAtL (writeB ps qs).length (writeQ qs m p) m=0/\readL (writeB ps qs) (writeQ qs m p) m=p:=by
 have hr:=write_right (p:=p) h;obtain⟨_,i,hmi,hib⟩:=wrongAtL_zero h;have h1:wrongAtL (writeB ps qs).length (writeQ qs m p) m=0:=wrongAtL_ok hr hmi (by rw[writeB_len];exact hib)
 refine⟨h1,?_⟩;rw[readL_of h1]
 simp[writeQ,pickQ]
theorem write_other_err {ps:List (List Int)} {qs:List (Int × List Int)} {m:Int} {p:List Int} (h:wrongAtL ps.length qs m=0) (o:Int):wrongAtL (writeB ps qs).length (writeQ qs m p) o=wrongAtL ps.length qs o:=by
 rw[wrongAtL_of (write_right h),wrongAtL_of (wrongAtL_zero h).1,writeB_len]
theorem write_other {ps:List (List Int)} {qs:List (Int × List Int)} {m:Int} {p:List Int} (h:wrongAtL ps.length qs m=0) {o:Int} (ho:¬o=m):readL (writeB ps qs) (writeQ qs m p) o=readL ps qs o:=by
 have he:=write_other_err (p:=p) h o
 by_cases hz:wrongAtL ps.length qs o=0
 ·rw[readL_of hz,readL_of (he.trans hz)];have hmo:(m == o)=Xd:=by simpa using fun e=>ho (Eq.symm e)
  unfold writeQ writeB
  by_cases h4:qs.length=400
  ·rw[if_pos h4,if_pos h4]
   cases qs with
   | nil=>simp at h4
   | cons q0 r=>
    obtain⟨_,i,hoi,hio⟩:=wrongAtL_zero hz;obtain⟨i0,hq0,hi0⟩:=(wrongL_zero (wrongAtL_zero h).1).2.2 q0 (by simp)
    simp only[List.tail_cons,List.headD_cons,Ym,List.reverse_cons,List.reverse_nil,Yi,Yg,List.find?_cons,hmo,Ys]
    cases hf:r.reverse.find? (fun q=>q.1 == o)with
    | some q=>rfl
    | none=>
     simp only[Option.none_or]
     cases hq:(q0.1 == o)with
     | true=>
      have:q0.1=o:=by simpa using hq
      subst this;simp only[hq0,tN,pickQ]
      simp[hi0]
     | false=>
      have:q0.1≠o:=by simpa using hq
      simp only[List.find?_nil,pickQ];rw[gD,gD,sN];rw[hq0,hoi]at this;rw[hq0,hoi];simp only[tN];omega
  rw[if_neg h4,if_neg h4]
  simp[hmo]
 have hz':¬wrongAtL (writeB ps qs).length (writeQ qs m p) o=0:=by rw[he];exact hz
 unfold readL;rw[if_neg hz,if_neg hz']
def cutTo (p:List Int) (idx size:Int) (k:Nat):List Int:=p.mapIdx fun i z=>if i<k/\size<=8*idx+(i:Int)then 0 else z
theorem cutTo_len (p:List Int) (idx size:Int) (k:Nat):(cutTo p idx size k).length=p.length:=by unfold cutTo;simp
theorem cutTo_all {p:List Int} {idx size:Int} {k:Nat} (h:p.length<=k):cutTo p idx size k=cutP p idx size:=by
 unfold cutTo cutP
 apply Yc
 intro i;rw[Xt,Xt]
 cases hp:p[i]? with
 | none=>rfl
 | some z=>
  have:=(gS.1 hp).1;have hk:i<k:=by omega
  simp[hk]
theorem cutTo_cut {p:List Int} {idx size:Int} {k:Nat} (hk:k<p.length) (h:size<=8*idx+(k:Int)):(cutTo p idx size k).set k 0=cutTo p idx size (k+1):=by
 unfold cutTo
 apply Yc
 intro i
 by_cases e:i=k
 ·subst e;rw[sF (by simpa using hk),Xt,gE hk]
  simp[h]
 rw[sN (fun h=>e h.symm),Xt,Xt]
 cases p[i]? with
 | none=>rfl
 | some z=>
  have:i<k↔i<k+1:=by omega
  simp[this]
theorem readL8 {ps:List (List Int)} {qs:List (Int × List Int)} {b:Int} (h1:∀p∈ps,p.length=8) (h2:∀q∈qs,q.2.length=8):(readL ps qs b).length=8:=by
 unfold readL
 split
 ·cases h:qs.reverse.find? (fun q=>q.1 == b)with
  | some q=>exact h2 q (by have:=Ya h;simpa using this)
  | none=>
   simp only;rw[gD]
   cases h3:ps[b.toNat]? with
   | none=>rfl
   | some p=>exact h1 p (mG h3)
 rfl
theorem lookup_in {α:Type} {k:Nat} {s:α}:∀{S:List (Nat × α)},S.lookup k=Xa s->(k,s)∈S
 | [],h=>by simp at h
 | (p,a) :: S,h=>by
  by_cases h1:k=p
  ·subst h1
   simp at h
   subst h;simp
  have e1:(k == p)=Xd:=by simpa using h1
  rw[List.lookup_cons,e1]at h;exact List.mem_cons_of_mem _ (lookup_in h)
theorem BoxT.part {w:Xn} {b:Nat} {t:TypeId}:∀{ds cs:List Xq} {o:Nat},BoxT w b t cs->o+ds.length<=cs.length->BoxT (w.setCells b o ds) b t (splice cs o ds):=by
 have key:∀(ds cs:List Xq) (o:Nat) (w:Xn),BoxT w b t cs->o+ds.length<=cs.length->BoxT (w.setCells b o ds) b t (splice cs o ds):=fun ds=>by
  induction ds with
  | nil=>
   intro cs o w h hl;have:splice cs o []=cs:=by simp[splice]
   rw[this];exact h
  | cons d ds ih=>
   intro cs o w h hl;simp only[Xy]at hl;have h1:=h.set o d;have h2:=ih (cs.set o d) (o+1) (w.setCell ⟨b,o,Xb⟩ d) h1 (by simp;omega)
   have h3:splice (cs.set o d) (o+1) ds=splice cs o (d :: ds):=by
    unfold splice;rw[List.take_set,List.drop_set,if_pos (by omega),List.take_add_one,gE (by omega)]
    simp only[Xy,Option.toList_some];rw[List.set_append_right _ _ (by simp;omega),show o+1+ds.length=o+(ds.length+1) by omega]
    simp[List.length_take,Nat.min_eq_left (show o<=cs.length by omega)]
   rw[h3]at h2;exact h2
 exact fun{ds cs o} h hl=>key ds cs o w h hl
theorem wp_storeAllT {ops:Array Oper} {rest:List Oper} {o:Oper} {a:Act} {w:Xn} {Q:Exit->Act->Xn->Prop} (hgd:o.guard=Xb) (ty:TypeId) (p x:Operand) (ho:o.op= .store ty p x) (b:Nat) (hp:a.eval p= Xj (Xa ⟨b,0,Xb⟩)) (vs:List Xq) (hx:a.eval x= Xi vs.toArray)
  {cs:List Xq} {t:TypeId} (hb:BoxT w b t cs) (hl:vs.length=cs.length) (hi:(Tryz.prog.info? ty).map (·.size)=Xa cs.length) (h1:∀v∈vs,v.oneCell'=Xc)
  (h:∀w',BoxT w' b t vs->w.grownBy w' (Xa b)->w'.heap.size=w.heap.size->wpList Tryz.prog ops Q rest (a.put o.dst undef) w'):wpList Tryz.prog ops Q (o :: rest) a w:=by
 refine wpList_store_mid hgd ty p x ho b 0 vs.toArray hp hx ?_ ?_ (all_oneCell_toArray h1) ?_
 ·simpa [hl]using hb.box.there
 ·simpa [hl]using hi
 have:=hb.part (ds:=vs) (o:=0) (by omega)
 rw[splice_all hl]at this;exact h _ this (setCells_grown b vs 0 w).1 (setCells_grown b vs 0 w).2
end
section
def seeE (m:Ma) (x:On) (e:En):List Int × Bool × Int:=
 if x.is=Xd then(zero8,Xd,5)
 else if e.kind=1 then(pgL (frAt m e.n).p,decide ((frAt m e.n).f<0),0)
 else if e.kind=2 then(readL m.sb m.sq e.n,Xc,0)
 else if x.file<0 then(zero8,Xd,0)
 else if bkN m x.file<=x.page then(zero8,Xd,9)
 else(contL m x.file x.page,Xd,0)
theorem view_see {m:Ma} {p n:Nat} {s:Sp} (hs:m.sp[p]? =Xa s) (hn:n<64):viewR m (p:Int) (n:Int)=seeE m (onAt s.ars n) (flatN s n):=by
 have hp:=(gS.1 hs).1;unfold viewR;rw[if_neg (by omega)]
 simp only[tN,gD,hs,Option.getD_some];rfl
theorem view_out {m:Ma} {p n:Int} (h:p<0\/(m.sp.length:Int)<=p\/n<0\/63<n):viewR m p n=(zero8,Xd,5):=by
 unfold viewR;rw[if_pos h]
theorem see_same {m m':Ma} {x:On} {e e':En} (hk:e'.kind=e.kind) (hn:e'.n=e.n) (h1:e.kind=1->(frAt m' e.n).p=(frAt m e.n).p/\((frAt m' e.n).f<0↔(frAt m e.n).f<0)) (h2:e.kind=2->readL m'.sb m'.sq e.n=readL m.sb m.sq e.n)
  (hb:∀file,bkN m' file=bkN m file) (hc:∀file idx,contL m' file idx=contL m file idx):seeE m' x e'=seeE m x e:=by
 unfold seeE;rw[hk,hn,hb,hc]
 by_cases h0:x.is=Xd
 ·rw[if_pos h0,if_pos h0]
 rw[if_neg h0,if_neg h0]
 by_cases e1:e.kind=1
 ·rw[if_pos e1,if_pos e1,(h1 e1).1,decide_eq_decide.2 (h1 e1).2]
 rw[if_neg e1,if_neg e1]
 by_cases e2:e.kind=2
 ·rw[if_pos e2,if_pos e2,h2 e2]
 rw[if_neg e2,if_neg e2]
theorem cont_same {m m':Ma} (hca:m'.ca=m.ca) (hfl:m'.fl=m.fl) (hdb:m'.db=m.db) (hdq:m'.dq=m.dq) (hfr:∀c∈m.ca,(frAt m' c.fr).p=(frAt m c.fr).p) (file idx:Int):contL m' file idx=contL m file idx:=by
 unfold contL;rw[hca]
 cases hq:m.ca.find? (hitC file idx)with
 | some c=>
  simp only;rw[hfr c (Ya hq)]
 | none=>
  simp only;unfold blAt szAt;rw[hfl,hdb,hdq]
section
variable{m:Ma} {T:List (Nat->En)}
theorem BInv.marks (h:BInv m T) {k:Nat} {fr:Fr} {p:Pg} {u d:Bool} (hk:m.fs[k]? =Xa fr) (hr:fr.r≠0):BInv { m with fs:=m.fs.set k { fr with p:=p,u:=u,d:=d } } T:=by
 have hkl:=(gS.1 hk).1;have hsh:=h.fok fr (mG hk);have hfa:∀z:Int,0<=z->(frAt { m with fs:=m.fs.set k { fr with p:=p,u:=u,d:=d } } z).f=(frAt m z).f/\(frAt { m with fs:=m.fs.set k { fr with p:=p,u:=u,d:=d } } z).x=(frAt m z).x/\(frAt { m with fs:=m.fs.set k { fr with p:=p,u:=u,d:=d } } z).r=(frAt m z).r:=fun z hz=>by
  rw[frAt_set hkl z hz]
  by_cases e:z=(k:Int)
  ·subst e;rw[if_pos rfl,frAt_of hk];exact⟨rfl,rfl,rfl⟩
  rw[if_neg e];exact⟨rfl,rfl,rfl⟩
 refine⟨by simpa using h.fs40,fun g hg=>?_,h.sl60,h.sbl,h.sq,h.dok,h.st,h.cnt,h.blk,h.que,h.spl,h.spok,h.tl,?_,fun q s g hs hg j hj=>?_,fun j g hj=>?_,h.cs⟩
 ·rcases Yb hg with hg | rfl
  ·exact h.fok g hg
  obtain⟨c1,c2,c3,c4,c5⟩:=hsh;exact⟨c1,c2,c3,fun h=>absurd h hr,c5⟩
 ·obtain⟨a1,a2,a3⟩:=caGo_zero.1 h.ca;refine caGo_zero.2 ⟨fun c hc=>?_,fun q c hq=>(by cases hq),a3⟩
  obtain⟨b1,b2,b3,b4⟩:=caE_ok (a1 c hc);obtain⟨e1,e2,e3⟩:=hfa c.fr b1.2.2.2.2.1;exact caE_of (by simpa [bkN]using b1) (by rw[e3];exact b2) (by rw[e1];exact b3) (by rw[e2];exact b4)
 ·rcases h.ent q s g hs hg j hj with e | e
  ·exact .inl e
  refine .inr ⟨e.1,e.2.1,entE_keep e.2.2 rfl (by simp) fun hk2=>?_⟩
  obtain⟨c1,c2,c3,c4⟩:=entE_present e hk2;obtain⟨e1,e2,e3⟩:=hfa (g j).n c2;exact⟨e1,e2,by rw[e3];exact c4⟩
 by_cases e:j=k
 ·subst e;simp only at hj;rw[sF hkl]at hj;cases hj;exact h.cf j fr hk
 simp only at hj;rw[sN (fun h=>e h.symm)]at hj
 exact h.cf j g hj
def letGo (fr:Fr):Fr:=if fr.r=1 then frF else{ fr with r:=fr.r - 1 }
theorem letGo_r (fr:Fr):(letGo fr).r=fr.r - 1:=by
 unfold letGo
 split
 ·simp[frF];omega
 rfl
theorem BInv.drop (h:BInv m T) {k p n:Nat} {fr:Fr} {f:Nat->En} (hk:m.fs[k]? =Xa fr) (hT:T[p]? =Xa f) (hn:n<64) (he:(f n).kind=1) (hen:(f n).n=(k:Int)):
  BInv { m with fs:=m.fs.set k (letGo fr) } (T.set p (updF f n en0)):=by
 have hkl:=(gS.1 hk).1;have hpl:=(gS.1 hT).1;have hsh:=h.fok fr (mG hk);have hcf:=h.cf k fr hk;have hpos:1<=holdN T 1 k:=by
  have:=held_of hT hn he;rw[hen]at this;exact this
 have hup:∀kind j:Int,holdN (T.set p (updF f n en0)) kind j+(isE (f n) kind j).toNat=holdN T kind j+(isE en0 kind j).toNat:=fun kind j=>hold_upd en0 kind j hT hn
 have hgo:fr.r≠1->letGo fr={ fr with r:=fr.r - 1 }:=fun h=>by unfold letGo;rw[if_neg h]
 have hca1:cachedN m.ca k≠0->fr.r≠1:=fun h1 h2=>by omega
 have hoth:holdN T 1 k ≥ 2->fr.r≠1:=fun h1 h2=>by omega
 refine⟨by simpa using h.fs40,fun g hg=>?_,h.sl60,h.sbl,h.sq,h.dok,h.st,h.cnt,h.blk,h.que,h.spl,h.spok,by simpa using h.tl,?_,?_,fun j g hj=>?_,fun j z hj=>?_⟩
 ·rcases Yb hg with hg | rfl
  ·exact h.fok g hg
  by_cases e:fr.r=1
  ·unfold letGo;rw[if_pos e];exact⟨by decide,by decide,.inl rfl,fun _=>rfl,fun _=>rfl⟩
  rw[hgo e];obtain⟨c1,c2,c3,c4,c5⟩:=hsh;exact⟨by simp only;omega,c2,c3,fun h=>by simp only at h;omega,c5⟩
 ·obtain⟨a1,a2,a3⟩:=caGo_zero.1 h.ca;refine caGo_zero.2 ⟨fun c hc=>?_,fun q c hq=>(by cases hq),a3⟩
  obtain⟨b1,b2,b3,b4⟩:=caE_ok (a1 c hc);have hf:=frAt_set (f:=letGo fr) hkl c.fr b1.2.2.2.2.1
  by_cases ec:c.fr=(k:Int)
  ·have hne:=hca1 (by have:=cached_pos hc;rw[ec]at this;exact this)
   rw[if_pos ec,hgo hne]at hf;rw[ec,frAt_of hk]at b2 b3 b4;refine caE_of (by simpa [bkN]using b1) ?_ ?_ ?_ <;> rw[hgo hne] <;> rw[hf]
   ·simp only;omega
   ·exact b3
   exact b4
  rw[if_neg ec]at hf;exact caE_of (by simpa [bkN]using b1) (by rw[hf];exact b2) (by rw[hf];exact b3) (by rw[hf];exact b4)
 ·intro q s g hs hg j hj
  by_cases same:q=p/\j=n
  ·obtain⟨rfl,rfl⟩:=same;rw[sF hpl]at hg;cases hg;left;unfold updF;rw[if_pos rfl]
  have hold:∃g0,T[q]? =Xa g0/\g j=g0 j:=by
   by_cases eq:q=p
   ·subst eq;rw[sF hpl]at hg;cases hg;refine⟨f,hT,?_⟩;unfold updF;rw[if_neg (fun e=>same ⟨rfl,e⟩)]
   rw[sN (fun h=>eq h.symm)]at hg
   exact⟨g,hg,rfl⟩
  obtain⟨g0,hg0,hgj⟩:=hold;rw[hgj]
  rcases h.ent q s g0 hs hg0 j hj with e | e
  ·exact .inl e
  refine .inr ⟨e.1,e.2.1,entE_keep e.2.2 rfl (by simp) fun hk2=>?_⟩
  obtain⟨c1,c2,c3,c4⟩:=entE_present e hk2;rw[frAt_set hkl _ c2]
  by_cases ec:(g0 j).n=(k:Int)
  ·have h2:=hold_two hT hn (kind:=1) (k:=(k:Int)) (by simp[isE,he,hen]) hg0 hj (by simp[isE,c1,ec]) (by
    by_cases e3:p=q
    ·right;intro e4;exact same ⟨e3.symm,e4.symm⟩
    exact .inl e3) (by decide)
   rw[if_pos ec,hgo (hoth h2),ec,frAt_of hk];refine⟨rfl,rfl,fun g1 g2=>?_⟩
   have:=c4 g1 (by rw[ec,frAt_of hk];exact g2)
   rw[ec,frAt_of hk]at this;simp only;omega
  rw[if_neg ec];exact⟨rfl,rfl,c4⟩
 ·simp only at hj⊢;have hu:=hup 1 j;rw[isE_none 1 j (by decide)]at hu
  by_cases ej:j=k
  ·subst ej;rw[sF hkl]at hj;cases hj;have h1:isE (f n) 1 (j:Int)=Xc:=by simp[isE,he,hen]
   rw[h1]at hu
   simp at hu
   rw[letGo_r];refine⟨by omega,fun hf=>?_⟩
   by_cases e:fr.r=1
   ·unfold letGo at hf;rw[if_pos e]at hf
    simp[frF]at hf
   rw[hgo e]at hf;exact hcf.2 hf
  rw[sN (fun h=>ej h.symm)]at hj
  rw[isE_other (by rw[hen];omega)]at hu
  have:=h.cf j g hj;refine⟨?_,this.2⟩
  simp at hu
  omega
 simp only at hj⊢;have hu:=hup 2 j;rw[isE_none 2 j (by decide),isE_kind (by rw[he];decide)]at hu
 have:=h.cs j z hj
 simp at hu
 omega
theorem BInv.dropS (h:BInv m T) {k p n:Nat} {z:Int} {f:Nat->En} (hk:m.sl[k]? =Xa z) (hT:T[p]? =Xa f) (hn:n<64) (he:(f n).kind=2) (hen:(f n).n=(k:Int)):
  BInv { m with sl:=m.sl.set k (z - 1) } (T.set p (updF f n en0)):=by
 have hkl:=(gS.1 hk).1;have hpl:=(gS.1 hT).1;have hpos:1<=holdN T 2 k:=hold_pos hT hn (by simp[isE,he,hen]) (by decide)
 have hup:∀kind j:Int,holdN (T.set p (updF f n en0)) kind j+(isE (f n) kind j).toNat=holdN T kind j+(isE en0 kind j).toNat:=fun kind j=>hold_upd en0 kind j hT hn
 refine⟨h.fs40,h.fok,by simpa using h.sl60,by simpa using h.sbl,h.sq,h.dok,h.st,h.cnt,h.blk,h.que,h.spl,h.spok,by simpa using h.tl,?_,?_,fun j g hj=>?_,fun j x hj=>?_⟩
 ·obtain⟨a1,a2,a3⟩:=caGo_zero.1 h.ca;exact caGo_zero.2 ⟨fun c hc=>a1 c hc,fun q c hq=>(by cases hq),a3⟩
 ·intro q s g hs hg j hj
  by_cases same:q=p/\j=n
  ·obtain⟨rfl,rfl⟩:=same;rw[sF hpl]at hg;cases hg;left;unfold updF;rw[if_pos rfl]
  have hold:∃g0,T[q]? =Xa g0/\g j=g0 j:=by
   by_cases eq:q=p
   ·subst eq;rw[sF hpl]at hg;cases hg;refine⟨f,hT,?_⟩;unfold updF;rw[if_neg (fun e=>same ⟨rfl,e⟩)]
   rw[sN (fun h=>eq h.symm)]at hg
   exact⟨g,hg,rfl⟩
  obtain⟨g0,hg0,hgj⟩:=hold;rw[hgj]
  rcases h.ent q s g0 hs hg0 j hj with e | e
  ·exact .inl e
  refine .inr ⟨e.1,e.2.1,entE_keep e.2.2 (by simp) rfl fun hk2=>?_⟩
  obtain⟨c1,c2,c3,c4⟩:=entE_present e hk2;exact⟨rfl,rfl,c4⟩
 ·have hu:=hup 1 j;rw[isE_none 1 j (by decide),isE_kind (by rw[he];decide)]at hu
  have:=h.cf j g hj;refine⟨?_,this.2⟩;simp only at this⊢
  simp at hu
  omega
 simp only at hj⊢;have hu:=hup 2 j;rw[isE_none 2 j (by decide)]at hu
 by_cases ej:j=k
 ·subst ej;rw[sF hkl]at hj;cases hj;have h1:isE (f n) 2 (j:Int)=Xc:=by simp[isE,he,hen]
  rw[h1]at hu;have:=h.cs j z hk
  simp at hu
  omega
 rw[sN (fun h=>ej h.symm)]at hj
 rw[isE_other (by rw[hen];omega)]at hu
 have:=h.cs j x hj
 simp at hu
 omega
end
end
section
open Go.RowKit
section
variable{α:Type} {E:Elt α}
theorem run_store_part {w:Xn} {o:Oper} {a:Act} (p x:Operand) (t:TypeId) (ho:o.op= .store t p x) (base:Nat) (v:Xq) (l:List α) (hown:OwnRow E base w v l)
  (g i j:Nat) (hg:v.ownBlock=Xa g) (e y:α) (hi:l[i]? =Xa e) (cs:List Xq) (hk:(Tryz.prog.info? t).map (·.size)=Xa cs.length) (hy:E.enc y=splice (E.enc e) j cs) (hj:j+cs.length<=E.k) (h1:∀u∈cs,u.oneCell'=Xc)
  (ad:Addr) (hp:a.eval p= Xj (Xa ad)) (had:ad=⟨g,i*E.k+j,Xb⟩) (vx:Xq) (hx:a.eval x=vx) (hvx:vx.cells=cs.toArray):
  ∃w',(execOp a.eval o).run Tryz.prog w= .ok .skip w'/\OwnRow E base w' v (l.set i y)/\w.grownBy w' (Xa g)/\w'.heap.size=w.heap.size:=by
 subst had;have hil:i<l.length:=(gS.1 hi).1;have hfit:i*E.k+j+cs.length<=l.length*E.k:=by
  have:(i+1)*E.k<=l.length*E.k:=Nat.mul_le_mul_right _ hil;rw[Nat.add_mul]at this;omega
 obtain⟨w',hr,h2,h3,h4⟩:=run_storeCells_row (P:=Tryz.prog) hown.1 hg (i*E.k+j) cs hfit h1;have hsz:(Go.sizeOf t).run Tryz.prog w= .ok cs.length w:=by
  cases hq:Tryz.prog.info? t with
  | none=>simp[hq]at hk
  | some i=>simp[hq]at hk;simp[Go.sizeOf,typeInfo,hq,hk]
 have hall:(Instr.storeAt t (Xj (Xa ⟨g,i*E.k+j,Xb⟩)) vx).run Tryz.prog w= .ok () w':=by
  simp[Instr.storeAt,Instr.sureAddr,storeVar,Xv,hsz,Result.andThen,hvx,hr]
 rw[splice_part j cs hy hj l i hi]at h2;refine⟨w',?_,⟨by rw[Xw];exact h2,by rw[Xw];exact hown.2⟩,h3,h4⟩
 simp only[execOp,ho,hp,hx,Xv,hall,Result.andThen,Xz]
theorem does_skip {P:Program} {o:Oper} {a:Act} {w w':Xn} {K:Xq->Xn->Prop} (hr:(execOp a.eval o).run P w= .ok .skip w') (h:K undef w'):Does P o a w K:=by
 unfold Does;rw[hr];exact h
end
theorem does_storeT {o:Oper} {a:Act} {w:Xn} {K:Xq->Xn->Prop} (ty:TypeId) (p x:Operand) (ho:o.op= .store ty p x) (b off:Nat) (hp:a.eval p= Xj (Xa ⟨b,off,Xb⟩)) (vx:Xq) (hx:a.eval x=vx) (vs:List Xq) (hvx:vx.cells=vs.toArray)
  {t:TypeId} {cs:List Xq} (hb:BoxT w b t cs) (hl:off+vs.length<=cs.length) (hi:(Tryz.prog.info? ty).map (·.size)=Xa vs.length) (h1:∀v∈vs,v.oneCell'=Xc)
  (h:∀w',BoxT w' b t (splice cs off vs)->w.grownBy w' (Xa b)->w'.heap.size=w.heap.size->K undef w'):Does Tryz.prog o a w K:=by
 have hag:(Value.agg vs.toArray).cells=vs.toArray:=by
  unfold Value.cells;simp
 have hr:(execOp a.eval o).run Tryz.prog w= .ok .skip (w.setCells b off vs):=by
  have h2:=run_storeAt_mid (P:=Tryz.prog) w b off ty vs.toArray (fun j hj=>by
   have:=hb.box.there (off+j) (by simp at hj;omega)
   rw[zA]at this;exact this) (by simpa using hi) (all_oneCell_toArray h1)
  have h3:(Instr.storeAt ty (Xj (Xa ⟨b,off,Xb⟩)) vx).run Tryz.prog w=(Instr.storeAt ty (Xj (Xa ⟨b,off,Xb⟩)) (Xi vs.toArray)).run Tryz.prog w:=by
   simp only[Instr.storeAt,Instr.sureAddr,storeVar,hvx,hag]
  simp only[execOp,ho,hp,hx,Xv,h3,h2,rA,Xz]
 exact does_skip hr (h _ (hb.part (ds:=vs) (o:=off) hl) (setCells_grown b vs off w).1 (setCells_grown b vs off w).2)
theorem wp_storeT {ops:Array Oper} {rest:List Oper} {o:Oper} {a:Act} {w:Xn} {Q:Exit->Act->Xn->Prop} (hgd:o.guard=Xb) (ty:TypeId) (p x:Operand) (ho:o.op= .store ty p x) (b off:Nat) (hp:a.eval p= Xj (Xa ⟨b,off,Xb⟩)) (vx:Xq) (hx:a.eval x=vx) (vs:List Xq) (hvx:vx.cells=vs.toArray)
  {t:TypeId} {cs:List Xq} (hb:BoxT w b t cs) (hl:off+vs.length<=cs.length) (hi:(Tryz.prog.info? ty).map (·.size)=Xa vs.length) (h1:∀v∈vs,v.oneCell'=Xc)
  (h:∀w',BoxT w' b t (splice cs off vs)->w.grownBy w' (Xa b)->w'.heap.size=w.heap.size->wpList Tryz.prog ops Q rest (a.put o.dst undef) w'):wpList Tryz.prog ops Q (o :: rest) a w:=
 wpList_plain hgd fun _ hK=>(does_storeT (K:=fun v w'=>v=undef/\wpList Tryz.prog ops Q rest (a.put o.dst undef) w') ty p x ho b off hp vx hx vs hvx hb hl hi h1 (fun w' k1 k2 k3=>⟨rfl,h w' k1 k2 k3⟩)).wp (fun v w' hk=>hK _ _ (by rw[hk.1];exact hk.2))
theorem does_load {o:Oper} {a:Act} {w:Xn} {K:Xq->Xn->Prop} (ty:TypeId) (x:Operand) (ho:o.op= .load ty x) (b off:Nat) (hx:a.eval x= Xj (Xa ⟨b,off,Xb⟩)) (vs:List Xq) (hc:w.rangeAt b off vs) {d:TypeDesc} (hu:Tryz.prog.underlying ty=Xa d) (hd:d.isRow=Xc) (hi:(Tryz.prog.info? ty).map (·.size)=Xa vs.length) (h:K (Xi vs.toArray) w):Does Tryz.prog o a w K:=by
 have:=run_loadAt_mid (P:=Tryz.prog) w b off ty vs d hc hu hd hi;exact Does.step (by simp only[execOp,ho,hx,Xv,this,rA,Xz]) h
theorem does_load1 {o:Oper} {a:Act} {w:Xn} {K:Xq->Xn->Prop} (ty:TypeId) (x:Operand) (ho:o.op= .load ty x) (b off:Nat) (hx:a.eval x= Xj (Xa ⟨b,off,Xb⟩)) (v:Xq) (hc:w.cell? ⟨b,off,Xb⟩=Xa v) {d:TypeDesc} (hu:Tryz.prog.underlying ty=Xa d) (hd:d.isRow=Xd) (h:K v w):Does Tryz.prog o a w K:=by
 have hagg:(isAgg ty).run Tryz.prog w= .ok Xd w:=by
  unfold isAgg;rw[Xv,run_underlying hu w]
  cases d <;> simp_all [TypeDesc.isRow]
 have h2:(loadVar ty ⟨b,off,Xb⟩).run Tryz.prog w= .ok v w:=by simp[loadVar,Xv,hagg,hc]
 exact Does.step (by simp only[execOp,ho,hx,Instr.loadAt,Instr.sureAddr,Xv,Xz,h2,rA]) h
theorem does_store_partC {α:Type} {E:Elt α} {w:Xn} {o:Oper} {a:Act} {K:Xq->Xn->Prop} (p x:Operand) (t:TypeId) (ho:o.op= .store t p x) (base:Nat) (v:Xq) (l:List α) (hown:OwnRow E base w v l)
  (g i j:Nat) (hg:v.ownBlock=Xa g) (e y:α) (hi:l[i]? =Xa e) (cs:List Xq) (hk:(Tryz.prog.info? t).map (·.size)=Xa cs.length) (hy:E.enc y=splice (E.enc e) j cs) (hj:j+cs.length<=E.k) (h1:∀u∈cs,u.oneCell'=Xc)
  (ad:Addr) (hp:a.eval p= Xj (Xa ad)) (had:ad=⟨g,i*E.k+j,Xb⟩) (vx:Xq) (hx:a.eval x=vx) (hvx:vx.cells=cs.toArray)
  (h:∀w',OwnRow E base w' v (l.set i y)->w.grownBy w' (Xa g)->w'.heap.size=w.heap.size->K undef w'):Does Tryz.prog o a w K:=by
 obtain⟨w',h2,h3,h4,h5⟩:=run_store_part p x t ho base v l hown g i j hg e y hi cs hk hy hj h1 ad hp had vx hx hvx;exact does_skip h2 (h w' h3 h4 h5)
theorem TabS.form {B0 B1:Nat} {w:Xn} {us:List Xq} {t:List (List En)} (h:TabS B0 B1 w us t):∃t0 t1 t2 t3 t4 t5 t6 t7:Sli,us=[t0.v,t1.v,t2.v,t3.v,t4.v,t5.v,t6.v,t7.v]:=by
 obtain⟨u0,u1,u2,u3,u4,u5,u6,u7,rfl⟩:=eight h.len;obtain⟨y0,y1,y2,y3,y4,y5,y6,y7,rfl⟩:=eight h.tlen;obtain⟨a0,c0,rfl,_⟩:=(h.row 0 _ _ rfl rfl).now.rows;obtain⟨a1,c1,rfl,_⟩:=(h.row 1 _ _ rfl rfl).now.rows;obtain⟨a2,c2,rfl,_⟩:=(h.row 2 _ _ rfl rfl).now.rows;obtain⟨a3,c3,rfl,_⟩:=(h.row 3 _ _ rfl rfl).now.rows;obtain⟨a4,c4,rfl,_⟩:=(h.row 4 _ _ rfl rfl).now.rows;obtain⟨a5,c5,rfl,_⟩:=(h.row 5 _ _ rfl rfl).now.rows;obtain⟨a6,c6,rfl,_⟩:=(h.row 6 _ _ rfl rfl).now.rows;obtain⟨a7,c7,rfl,_⟩:=(h.row 7 _ _ rfl rfl).now.rows;exact⟨⟨a0,_,c0⟩,⟨a1,_,c1⟩,⟨a2,_,c2⟩,⟨a3,_,c3⟩,⟨a4,_,c4⟩,⟨a5,_,c5⟩,⟨a6,_,c6⟩,⟨a7,_,c7⟩,rfl⟩
theorem chEnter_any {w0 w:Xn} {p:Nat} {V:MaV} {m:Ma} (h:ChM w0 p w V m) (q:Nat) (hq:q<m.sp.length) (n:Int) (z:En):
  Xp Tryz.prog 137 #[Xj (Xa ⟨p,0,Xb⟩),Xi #[Xe Xf (q:Int),Xe Xf n],Xi #[Xe Xf z.kind,Xe Xf z.n,Xh z.wr]] w fun e w'=>(∃v,e= Xl v)/\Chd w0 p w V (enterM m q n z) w':=by
 obtain⟨s,hs⟩:∃s,m.sp[q]? =Xa s:=⟨_,gE hq⟩;obtain⟨xs,s1,s2,s3⟩:=h.sp;obtain⟨x,hx⟩:∃x,xs[q]? =Xa x:=⟨_,gE (by rw[s2];exact hq)⟩
 have HAT:Xo (SpaceAt w x s):=s3 q x s hx hs w (OutD.refl _ _);obtain⟨xn,HXN⟩:∃xn,Xo (xs.length=xn):=⟨_,rfl⟩;obtain⟨g,c,heq⟩:=s1.formS (by omega)
 rw[HXN.out]at heq;have hqz:(q:Int)< (xn:Int):=by have:=HXN.out;omega
 have HVS:Xo (O V.sp.a V.sp.n V.sp.c= O (Xa ⟨g,0,Xb⟩) xn c):=heq;have HM:Xo (ChM w0 p w V m):=h;have HX:Xo (xs[q]? =Xa x):=hx;have HS:Xo (m.sp[q]? =Xa s):=hs;have HS2:Xo (xs.length=m.sp.length):=s2;have HS3:Xo (∀(i:Nat) x s,xs[i]? =Xa x->m.sp[i]? =Xa s->∀W,OutD (Dq w0.heap.size p V.sp) w W->SpaceAt W x s):=s3;rw[heq]at s1;have HS1:Xo (OwnRow spcE w0.heap.size w (O (Xa ⟨g,0,Xb⟩) xn c) xs):=s1;have HCE:Xo (∀W,Grew w W->Sp10 W ⟨g,q*10,Xb⟩ x):=show∀W,_ from fun W hW=>by
  have:=((s1.grew hW).one hx).sp10;rw[Xx,zA]at this;exact this
 have HG:Xo (∀W,Grew w W->Xp Tryz.prog 175 #[Xi #[O x.t0.a x.t0.n x.t0.c,O x.t1.a x.t1.n x.t1.c,O x.t2.a x.t2.n x.t2.c,O x.t3.a x.t3.n x.t3.c,O x.t4.a x.t4.n x.t4.c,O x.t5.a x.t5.n x.t5.c,O x.t6.a x.t6.n x.t6.c,O x.t7.a x.t7.n x.t7.c],Xe Xf n,Xi #[Xe Xf z.kind,Xe Xf z.n,Xh z.wr]] W fun e w'=>∃us,e= Xl (Xm #[Xi us.toArray,Xe Xf (setE s.tb n z)])/\TabS 0 W.heap.size w' us (setR s.tb n z)/\Grew W w'):=show∀W,_ from fun W hW=>setTb_any x.tab s.tb n z W (HAT.out.tb.grew hW)
 have HEM:Xo (enterM m q n z={ m with sp:=m.sp.set q { s with tb:=setR s.tb n z } }):=show _=_ by unfold enterM;rw[Sp.getD_of hs]
 rw[HEM.out];clear h hq hs s1 s2 s3 hx heq HAT HEM;obtain⟨W1,hW1⟩:∃W1,(w.alloc (Xk #[Xe Xf (q:Int),Xe Xf n] 141)).alloc (Xk #[Xe Xf z.kind,Xe Xf z.n,Xh z.wr] 127)=W1:=⟨_,rfl⟩;have G1:=gD2 hW1
 have X1:=x2a hW1
 have Y1:=x2b hW1
 have HW1:Xo (_=W1):=hW1;clear hW1;have c10:W1.cell? ⟨p,10,Xb⟩=Xa (O (Xa ⟨g,0,Xb⟩) xn c):=by rw[<-HVS.out];exact(HM.out.box.box.grew G1.out).c 10 rfl
 have x0:=X1.out.c 0 rfl
 go_enter Tryz.func137,Tryz.ntmps137
 go_upto_region 1 with fail;rw[HW1.out];obtain⟨b,HB⟩:∃b,Xo (w.heap.size=b):=⟨_,rfl⟩;rw[HB.out]at X1 Y1 x0⊢
 go_upto_region 2 with(go_quiet (fail))
 clear c10 x0;obtain⟨W2,hW2⟩:∃W2,W1.drewN nq=W2:=⟨_,rfl⟩;have G2:Xo (Grew w W2):=show Grew _ _ by rw[<-hW2];exact G1.out.trans (show Below _ _ _ from bD (bR _ _) _)
 have X2:Xo (Box W2 b [Xe Xf (q:Int),Xe Xf n]):=show Box _ _ _ by rw[<-hW2];exact X1.out.grew (show Below _ _ _ from bD (bR _ _) _)
 have Y2:Xo (Box W2 (b+1) [Xe Xf z.kind,Xe Xf z.n,Xh z.wr]):=show Box _ _ _ by rw[<-hW2];exact Y1.out.grew (show Below _ _ _ from bD (bR _ _) _)
 rw[hW2];clear hW2 G1 X1 Y1;obtain⟨I,HI⟩:∃I:Xn->Prop,Xo (∀u,I u↔Box u b [Xe Xf (q:Int),Xe Xf n]/\Box u (b+1) [Xe Xf z.kind,Xe Xf z.n,Xh z.wr]):=⟨fun u=>Box u b [Xe Xf (q:Int),Xe Xf n]/\Box u (b+1) [Xe Xf z.kind,Xe Xf z.n,Xh z.wr],fun _=>Iff.rfl⟩
 have hI0:I W2.drew:=(HI.out _).2 ⟨X2.out.grew (gW _),Y2.out.grew (gW _)⟩
 have hF0:Grew W2 W2.drew:=show Below _ _ _ from(bR _ _).drew
 have hx1:∀y:HoldI I,y.world.cell? ⟨b,1,Xb⟩=Xa (Xe Xf n):=fun y=>((HI.out _).1 y.holds).1.c 1 rfl
 have hy0:∀y:HoldI I,y.world.cell? ⟨b+1,0,Xb⟩=Xa (Xe Xf z.kind):=fun y=>((HI.out _).1 y.holds).2.c 0 rfl
 have hy1:∀y:HoldI I,y.world.cell? ⟨b+1,1,Xb⟩=Xa (Xe Xf z.n):=fun y=>((HI.out _).1 y.holds).2.c 1 rfl
 have hy2:∀y:HoldI I,y.world.cell? ⟨b+1,2,Xb⟩=Xa (Xh z.wr):=fun y=>((HI.out _).1 y.holds).2.c 2 rfl
 have hne:Nonempty (HoldI I):=⟨⟨_,hI0⟩⟩;refine wp_lax_tailD (I:=I) 15 [(4,fun v=>v= Xi #[O x.t0.a x.t0.n x.t0.c,O x.t1.a x.t1.n x.t1.c,O x.t2.a x.t2.n x.t2.c,O x.t3.a x.t3.n x.t3.c,O x.t4.a x.t4.n x.t4.c,O x.t5.a x.t5.n x.t5.c,O x.t6.a x.t6.n x.t6.c,O x.t7.a x.t7.n x.t7.c]),(8,fun v=>∃us:List Xq,v= Xm #[Xi us.toArray,Xe Xf (setE s.tb n z)]),(14,fun _=>True)] (fun u=>Grew W2 u) hI0 hF0 mixed (by kernel_rfl) rfl rfl (by decide) ?hS (by kernel_rfl) ?_
 case hS=>
  intro x hx;simp only[mC,nM,or_false]at hx
  rcases hx with rfl | rfl | rfl
  ·exact⟨_,rfl⟩
  ·exact⟨_,[],rfl⟩
  exact⟨undef,trivial⟩
 simp only[Ye,Yf];iterate 2 (refine laxD_quiet rfl rfl rfl (fun K hK=>?_);go_big_quiet_op;refine hK _ ?_;clear hK K)
 refine laxD_nilc (.tmp 17) ⟨g,q*10,Xb⟩ rfl rfl rfl rfl ?_;simp only[Xs,sB,sS,sZ];iterate 1 (refine laxD_quiet rfl rfl rfl (fun K hK=>?_);go_big_quiet_op;refine hK _ ?_;clear hK K)
 refine laxD_spec rfl rfl (fun _ u=>Grew W2 u) (fun w' hI' hF'=>?_) (fun v1 hv=>?_)
 ·refine does_load 74 (.tmp 19) rfl g (q*10+2) rfl [O x.t0.a x.t0.n x.t0.c,O x.t1.a x.t1.n x.t1.c,O x.t2.a x.t2.n x.t2.c,O x.t3.a x.t3.n x.t3.c,O x.t4.a x.t4.n x.t4.c,O x.t5.a x.t5.n x.t5.c,O x.t6.a x.t6.n x.t6.c,O x.t7.a x.t7.n x.t7.c] ?_ Tryz.underlying74 rfl (by kernel_rfl) ⟨hI',rfl,hF'⟩
  have hc:=HCE.out _ (G2.out.trans hF');intro j v hj;have hr:(w'.cell? ⟨g,q*10+2+j,Xb⟩)=Xa v:=by
   match j,hj with
   | 0,hj=>cases hj;exact hc.2.2.1
   | 1,hj=>cases hj;exact hc.2.2.2.1
   | 2,hj=>cases hj;exact hc.2.2.2.2.1
   | 3,hj=>cases hj;exact hc.2.2.2.2.2.1
   | 4,hj=>cases hj;exact hc.2.2.2.2.2.2.1
   | 5,hj=>cases hj;exact hc.2.2.2.2.2.2.2.1
   | 6,hj=>cases hj;exact hc.2.2.2.2.2.2.2.2.1
   | 7,hj=>cases hj;exact hc.2.2.2.2.2.2.2.2.2
  exact hr
 cases hv;simp only[Xs,sB,sS,sZ];iterate 3 (refine laxD_quiet rfl rfl rfl (fun K hK=>?_);go_big_quiet_op;refine hK _ ?_;clear hK K)
 refine laxD_spec rfl rfl (fun v u=>∃(us:List Xq) (Wa:Xn),v= Xm #[Xi us.toArray,Xe Xf (setE s.tb n z)]/\Grew W2 Wa/\Grew Wa u/\TabS 0 Wa.heap.size u us (setR s.tb n z)) (fun w' hI' hF'=>?_) (fun v1 hv=>?_)
 ·refine Does.call [Xi #[O x.t0.a x.t0.n x.t0.c,O x.t1.a x.t1.n x.t1.c,O x.t2.a x.t2.n x.t2.c,O x.t3.a x.t3.n x.t3.c,O x.t4.a x.t4.n x.t4.c,O x.t5.a x.t5.n x.t5.c,O x.t6.a x.t6.n x.t6.c,O x.t7.a x.t7.n x.t7.c],Xe Xf n,Xi #[Xe Xf z.kind,Xe Xf z.n,Xh z.wr]] rfl Tryz.func175 rfl rfl rfl ?_;refine(HG.out w' (G2.out.trans hF')).mono ?_;rintro e w'' ⟨us,rfl,t2,g2⟩;obtain⟨i1,i2⟩:=(HI.out _).1 hI';exact⟨_,rfl,(HI.out _).2 ⟨i1.grew g2,i2.grew g2⟩,⟨us,rfl⟩,us,w',rfl,hF',g2,t2⟩
 obtain⟨us,rfl⟩:=hv;simp only[Xs,sB,sS,sZ];iterate 3 (refine laxD_quiet rfl rfl rfl (fun K hK=>?_);go_big_quiet_op;refine hK _ ?_;clear hK K)
 refine laxD_nilc (.tmp 16) ⟨g,q*10,Xb⟩ rfl rfl rfl rfl ?_;simp only[Xs,sB,sS,sZ];iterate 1 (refine laxD_quiet rfl rfl rfl (fun K hK=>?_);go_big_quiet_op;refine hK _ ?_;clear hK K)
 refine laxD_spec rfl rfl (fun _ u=>Chd w0 p w V { m with sp:=m.sp.set q { s with tb:=setR s.tb n z } } u) (fun w' hI' hF'=>?_) (fun v1 hv=>?_)
 ·obtain⟨us',Wa,he,ga,gb,t8⟩:=hF';have hus:us'=us:=by simpa using he.symm
  subst hus;obtain⟨t0,t1,t2,t3,t4,t5,t6,t7,rfl⟩:=t8.form;have G8:Grew w w':=(G2.out.trans ga).trans gb;refine does_store_partC (E:=spcE) (.tmp 28) (.tmp 25) 74 rfl w0.heap.size _ xs (HS1.out.grew G8) g q 2 rfl x ⟨x.live,x.ar,t0,t1,t2,t3,t4,t5,t6,t7⟩ HX.out [t0.v,t1.v,t2.v,t3.v,t4.v,t5.v,t6.v,t7.v] (by kernel_rfl) rfl (by show 2+8<=10;omega) ?_ ⟨g,q*10+2,Xb⟩ rfl rfl (Xi #[t0.v,t1.v,t2.v,t3.v,t4.v,t5.v,t6.v,t7.v]) rfl rfl ?_
  ·intro u hu;simp only[mC,nM,or_false]at hu
   rcases hu with rfl | rfl | rfl | rfl | rfl | rfl | rfl | rfl <;> rfl
  intro W9 ow9 gr9 _;rw[<-HVS.out]at ow9;obtain⟨i1,i2⟩:=(HI.out _).1 hI';have hgl:=HS1.out.lt g rfl;refine⟨(HI.out _).2 ⟨i1.grown gr9 (by have:=HB.out;omega),i2.grown gr9 (by have:=HB.out;omega)⟩,trivial,V,rfl,HM.out.setT HS2.out HS3.out HX.out HS.out (by rw[HVS.out];rfl) G8 (t8.less (nR _) (nT (bS G2.out) (bS ga))) gr9 ow9 ⟨rfl,rfl,rfl⟩,(OutD.grew G8).trans (OutD.grown gr9 (.inr (by rw[HVS.out];rfl)))⟩
 clear hv;try simp only[Xs]
 refine laxD_nil fun W9 hI8 hF8=>?_
 have M9:Xo (Chd w0 p w V { m with sp:=m.sp.set q { s with tb:=setR s.tb n z } } W9):=hF8;clear hI8 hF8 hI0 hF0 hx1 hy0 hy1 hy2 hne HI;go_wp2
 (first | go_end0 | ((try simp only[Exit.inBlock,Exit.then]);refine bodyPost_ret (results_none rfl _ _ _) rfl ?_))
 first | exact M9.out | exact⟨⟨_,rfl⟩,M9.out⟩
theorem chHold_any {w0 w:Xn} {p:Nat} {V:MaV} {m:Ma} (h:ChM w0 p w V m) (z:En) (n:Int):
  Xp Tryz.prog 135 #[Xj (Xa ⟨p,0,Xb⟩),Xi #[Xe Xf z.kind,Xe Xf z.n,Xh z.wr],Xe Xf n] w fun e w'=>(∃v,e= Xl v)/\Chd w0 p w V (holdM m z n) w':=by
 have HM:Xo (ChM w0 p w V m):=h;obtain⟨n1,n2,-⟩:=h.at.ns;have HF:Xo (∀W,Grew w W->Xp Tryz.prog 173 #[Xi #[O V.f.a V.f.n V.f.c,Xe Xf m.hand],Xe Xf z.n,Xe Xf n] W fun e w'=>∃b:Sli,e= Xl (Xm #[Xi #[O b.a b.n b.c,Xe Xf (holdH m.fs m.hand z.n n)],Xe Xf (holdE m.fs m.hand z.n n)])/\NewRow frmE W.heap.size w' (O b.a b.n b.c) (holdF m.fs m.hand z.n n)/\Grew W w'):=show∀W,_ from fun W hW=>by
  have k:=(h.at.grew hW).fs;rw[n1]at k⊢;refine(hold_any V.f.a V.f.c m.fs m.hand z.n n W k).mono ?_;rintro e w' ⟨b,rfl,nr,g⟩;have nr':NewRow frmE W.heap.size w' b (holdF m.fs m.hand z.n n):=nr;obtain⟨a,c,rfl,_⟩:=nr'.1.rows;exact⟨⟨a,_,c⟩,rfl,nr,g⟩
 have HSL:Xo (∀W,Grew w W->Xp Tryz.prog 174 #[O V.s.a V.s.n V.s.c,Xe Xf z.n,Xe Xf n] W fun e w'=>∃b:Sli,e= Xl (Xm #[O b.a b.n b.c,Xe Xf (holdSE m.sl z.n n)])/\NewRow slE W.heap.size w' (O b.a b.n b.c) (holdSL m.sl z.n n)/\Grew W w'):=show∀W,_ from fun W hW=>by
  have k:=(h.at.grew hW).sl;rw[n2]at k⊢;refine(holdS_any V.s.a V.s.c m.sl z.n n W k).mono ?_;rintro e w' ⟨a,c,rfl,nr,g⟩;exact⟨⟨a,_,c⟩,rfl,nr,g⟩
 have HD:Xo (∀k,Dp p V.sp k->k<w.heap.size):=h.dlt;clear h n1 n2;obtain⟨W1,hW1⟩:∃W1,w.alloc (Xk #[Xe Xf z.kind,Xe Xf z.n,Xh z.wr] 127)=W1:=⟨_,rfl⟩;have G1:=gA hW1
 have Y1:=xA hW1
 have HW1:Xo (_=W1):=hW1;clear hW1;have y0:=Y1.out.c 0 rfl
 go_enter Tryz.func135,Tryz.ntmps135
 go_upto_region 1 with fail;rw[HW1.out];obtain⟨b,HB⟩:∃b,Xo (w.heap.size=b):=⟨_,rfl⟩;rw[HB.out]at Y1 y0⊢
 by_cases k1:z.kind=1
 ·have hk1:(z.kind == 1)=Xc:=by rw[k1];rfl
  have HH:Xo (holdM m z n={ m with fs:=holdF m.fs m.hand z.n n,hand:=holdH m.fs m.hand z.n n }):=show _=_ by unfold holdM;rw[if_pos k1]
  clear k1;go_upto_region 3 with fail;clear y0;obtain⟨I,HI⟩:∃I:Xn->Prop,Xo (∀u,I u↔Box u b [Xe Xf z.kind,Xe Xf z.n,Xh z.wr]):=⟨fun u=>Box u b [Xe Xf z.kind,Xe Xf z.n,Xh z.wr],fun _=>Iff.rfl⟩
  have hI0:I W1.drew:=(HI.out _).2 (Y1.out.grew (gW _))
  have hF0:Grew W1 W1.drew:=show Below _ _ _ from(bR _ _).drew
  have hy1:∀y:HoldI I,y.world.cell? ⟨b,1,Xb⟩=Xa (Xe Xf z.n):=fun y=>((HI.out _).1 y.holds).c 1 rfl
  have hne:Nonempty (HoldI I):=⟨⟨_,hI0⟩⟩;refine wp_lax_tailD (I:=I) 17 [(5,fun v=>v= Xi #[O V.f.a V.f.n V.f.c,Xe Xf m.hand]),(9,fun v=>∃s:Sli,v= Xm #[Xi #[O s.a s.n s.c,Xe Xf (holdH m.fs m.hand z.n n)],Xe Xf (holdE m.fs m.hand z.n n)]),(16,fun _=>True)] (fun u=>Grew W1 u) hI0 hF0 mixed (by kernel_rfl) rfl rfl (by decide) ?hS (by kernel_rfl) ?_
  case hS=>
   intro x hx;simp only[mC,nM,or_false]at hx
   rcases hx with rfl | rfl | rfl
   ·exact⟨_,rfl⟩
   ·exact⟨_,sli0,rfl⟩
   exact⟨undef,trivial⟩
  simp only[Ye,Yf];iterate 2 (refine laxD_quiet rfl rfl rfl (fun K hK=>?_);go_big_quiet_op;refine hK _ ?_;clear hK K)
  refine laxD_nilc (.tmp 12) ⟨p,0,Xb⟩ rfl rfl rfl rfl ?_;simp only[Xs,sB,sS,sZ];iterate 2 (refine laxD_quiet rfl rfl rfl (fun K hK=>?_);go_big_quiet_op;refine hK _ ?_;clear hK K)
  refine laxD_spec rfl rfl (fun _ u=>Grew W1 u) (fun w' hI' hF'=>?_) (fun v1 hv=>?_)
  ·refine does_load 29 (.tmp 15) rfl p 0 rfl [O V.f.a V.f.n V.f.c,Xe Xf m.hand] ((HM.out.box.box.grew (G1.out.trans hF')).mid 0 (fun j v hj=>by
    match j,hj with
    | 0,hj=>exact hj
    | 1,hj=>exact hj)) Tryz.underlying29 rfl (by kernel_rfl) ⟨hI',rfl,hF'⟩
  cases hv;simp only[Xs,sB,sS,sZ];iterate 3 (refine laxD_quiet rfl rfl rfl (fun K hK=>?_);go_big_quiet_op;refine hK _ ?_;clear hK K)
  refine laxD_spec rfl rfl (fun v u=>∃(s:Sli) (Wa:Xn),v= Xm #[Xi #[O s.a s.n s.c,Xe Xf (holdH m.fs m.hand z.n n)],Xe Xf (holdE m.fs m.hand z.n n)]/\Grew W1 Wa/\Grew Wa u/\NewRow frmE Wa.heap.size u (O s.a s.n s.c) (holdF m.fs m.hand z.n n)) (fun w' hI' hF'=>?_) (fun v1 hv=>?_)
  ·refine Does.call [Xi #[O V.f.a V.f.n V.f.c,Xe Xf m.hand],Xe Xf z.n,Xe Xf n] rfl Tryz.func173 rfl rfl rfl ?_;refine(HF.out w' (G1.out.trans hF')).mono ?_;rintro e w'' ⟨s,rfl,t2,g2⟩;exact⟨_,rfl,(HI.out _).2 (((HI.out _).1 hI').grew g2),⟨s,rfl⟩,s,w',rfl,hF',g2,t2⟩
  obtain⟨s,rfl⟩:=hv;simp only[Xs,sB,sS,sZ];iterate 3 (refine laxD_quiet rfl rfl rfl (fun K hK=>?_);go_big_quiet_op;refine hK _ ?_;clear hK K)
  refine laxD_nilc (.tmp 11) ⟨p,0,Xb⟩ rfl rfl rfl rfl ?_;simp only[Xs,sB,sS,sZ];iterate 2 (refine laxD_quiet rfl rfl rfl (fun K hK=>?_);go_big_quiet_op;refine hK _ ?_;clear hK K)
  refine laxD_spec rfl rfl (fun _ u=>Chd w0 p w V { m with fs:=holdF m.fs m.hand z.n n,hand:=holdH m.fs m.hand z.n n } u) (fun w' hI' hF'=>?_) (fun v1 hv=>?_)
  ·obtain⟨s',Wa,he,ga,gb,t8⟩:=hF';have hss:s'=s:=by
    obtain⟨a1,a2,a3⟩:=s;obtain⟨b1,b2,b3⟩:=s';simp only[Value.tuple.injEq,Array.mk.injEq,List.cons.injEq,Value.agg.injEq,vJ,and_true]at he;obtain⟨rfl,rfl,rfl⟩:=he;rfl
   subst hss;have G8:Grew w w':=(G1.out.trans ga).trans gb;refine does_storeT 29 (.tmp 25) (.tmp 21) rfl p 0 rfl (Xi #[O s'.a s'.n s'.c,Xe Xf (holdH m.fs m.hand z.n n)]) rfl [O s'.a s'.n s'.c,Xe Xf (holdH m.fs m.hand z.n n)] rfl (HM.out.box.grew G8) (by simp[chL]) (by kernel_rfl) (by simp[Value.oneCell']) ?_
   intro W9 bx9 gr9 _;have hpl:=HD.out p (.inl rfl);exact⟨(HI.out _).2 (((HI.out _).1 hI').grown gr9 (by have:=HB.out;omega)),trivial,{ V with f:=s' },rfl,HM.out.setF G8 (t8.base (nT (bS G1.out) (bS ga))) gr9 bx9,(OutD.grew G8).trans (OutD.grown gr9 (.inl rfl))⟩
  clear hv;try simp only[Xs]
  refine laxD_nil fun W9 hI8 hF8=>?_
  have M9:Xo (Chd w0 p w V (holdM m z n) W9):=show Chd _ _ _ _ _ _ by rw[HH.out];exact hF8
  clear hI8 hF8 hI0 hF0 hy1 hne HI;go_wp2
  (first | go_end0 | ((try simp only[Exit.inBlock,Exit.then]);refine bodyPost_ret (results_none rfl _ _ _) rfl ?_))
  first | exact M9.out | exact⟨⟨_,rfl⟩,M9.out⟩
 have hk1:(z.kind == 1)=Xd:=by simpa using k1
 by_cases k2:z.kind=2
 ·have hk2:(z.kind == 2)=Xc:=by rw[k2];rfl
  have HH:Xo (holdM m z n={ m with sl:=holdSL m.sl z.n n }):=show _=_ by unfold holdM;rw[if_neg k1,if_pos k2]
  clear k1 k2;go_upto_region 5 with fail;clear y0;obtain⟨I,HI⟩:∃I:Xn->Prop,Xo (∀u,I u↔Box u b [Xe Xf z.kind,Xe Xf z.n,Xh z.wr]):=⟨fun u=>Box u b [Xe Xf z.kind,Xe Xf z.n,Xh z.wr],fun _=>Iff.rfl⟩
  have hI0:I W1.drew:=(HI.out _).2 (Y1.out.grew (gW _))
  have hF0:Grew W1 W1.drew:=show Below _ _ _ from(bR _ _).drew
  have hy1:∀y:HoldI I,y.world.cell? ⟨b,1,Xb⟩=Xa (Xe Xf z.n):=fun y=>((HI.out _).1 y.holds).c 1 rfl
  have hne:Nonempty (HoldI I):=⟨⟨_,hI0⟩⟩;refine wp_lax_tailD (I:=I) 17 [(5,fun v=>v= O V.s.a V.s.n V.s.c),(9,fun v=>∃s:Sli,v= Xm #[O s.a s.n s.c,Xe Xf (holdSE m.sl z.n n)]),(16,fun _=>True)] (fun u=>Grew W1 u) hI0 hF0 mixed (by kernel_rfl) rfl rfl (by decide) ?hS (by kernel_rfl) ?_
  case hS=>
   intro x hx;simp only[mC,nM,or_false]at hx
   rcases hx with rfl | rfl | rfl
   ·exact⟨_,rfl⟩
   ·exact⟨_,sli0,rfl⟩
   exact⟨undef,trivial⟩
  simp only[Ye,Yf];iterate 2 (refine laxD_quiet rfl rfl rfl (fun K hK=>?_);go_big_quiet_op;refine hK _ ?_;clear hK K)
  refine laxD_nilc (.tmp 30) ⟨p,0,Xb⟩ rfl rfl rfl rfl ?_;simp only[Xs,sB,sS,sZ];iterate 2 (refine laxD_quiet rfl rfl rfl (fun K hK=>?_);go_big_quiet_op;refine hK _ ?_;clear hK K)
  refine laxD_spec rfl rfl (fun _ u=>Grew W1 u) (fun w' hI' hF'=>?_) (fun v1 hv=>?_)
  ·exact does_load1 31 (.tmp 33) rfl p 2 rfl (O V.s.a V.s.n V.s.c) ((HM.out.box.box.grew (G1.out.trans hF')).c 2 rfl) Tryz.underlying31 rfl ⟨hI',rfl,hF'⟩
  cases hv;simp only[Xs,sB,sS,sZ];iterate 3 (refine laxD_quiet rfl rfl rfl (fun K hK=>?_);go_big_quiet_op;refine hK _ ?_;clear hK K)
  refine laxD_spec rfl rfl (fun v u=>∃(s:Sli) (Wa:Xn),v= Xm #[O s.a s.n s.c,Xe Xf (holdSE m.sl z.n n)]/\Grew W1 Wa/\Grew Wa u/\NewRow slE Wa.heap.size u (O s.a s.n s.c) (holdSL m.sl z.n n)) (fun w' hI' hF'=>?_) (fun v1 hv=>?_)
  ·refine Does.call [O V.s.a V.s.n V.s.c,Xe Xf z.n,Xe Xf n] rfl Tryz.func174 rfl rfl rfl ?_;refine(HSL.out w' (G1.out.trans hF')).mono ?_;rintro e w'' ⟨s,rfl,t2,g2⟩;exact⟨_,rfl,(HI.out _).2 (((HI.out _).1 hI').grew g2),⟨s,rfl⟩,s,w',rfl,hF',g2,t2⟩
  obtain⟨s,rfl⟩:=hv;simp only[Xs,sB,sS,sZ];iterate 3 (refine laxD_quiet rfl rfl rfl (fun K hK=>?_);go_big_quiet_op;refine hK _ ?_;clear hK K)
  refine laxD_nilc (.tmp 29) ⟨p,0,Xb⟩ rfl rfl rfl rfl ?_;simp only[Xs,sB,sS,sZ];iterate 2 (refine laxD_quiet rfl rfl rfl (fun K hK=>?_);go_big_quiet_op;refine hK _ ?_;clear hK K)
  refine laxD_spec rfl rfl (fun _ u=>Chd w0 p w V { m with sl:=holdSL m.sl z.n n } u) (fun w' hI' hF'=>?_) (fun v1 hv=>?_)
  ·obtain⟨s',Wa,he,ga,gb,t8⟩:=hF';have hss:s'=s:=by
    obtain⟨a1,a2,a3⟩:=s;obtain⟨b1,b2,b3⟩:=s';simp only[Value.tuple.injEq,Array.mk.injEq,List.cons.injEq,vJ,and_true]at he;obtain⟨rfl,rfl,rfl⟩:=he;rfl
   subst hss;have G8:Grew w w':=(G1.out.trans ga).trans gb;refine does_storeT 31 (.tmp 43) (.tmp 39) rfl p 2 rfl (O s'.a s'.n s'.c) rfl [O s'.a s'.n s'.c] rfl (HM.out.box.grew G8) (by simp[chL]) (by kernel_rfl) (by simp[Value.oneCell']) ?_
   intro W9 bx9 gr9 _;have hpl:=HD.out p (.inl rfl);exact⟨(HI.out _).2 (((HI.out _).1 hI').grown gr9 (by have:=HB.out;omega)),trivial,{ V with s:=s' },rfl,HM.out.setS G8 (t8.base (nT (bS G1.out) (bS ga))) gr9 bx9,(OutD.grew G8).trans (OutD.grown gr9 (.inl rfl))⟩
  clear hv;try simp only[Xs]
  refine laxD_nil fun W9 hI8 hF8=>?_
  have M9:Xo (Chd w0 p w V (holdM m z n) W9):=show Chd _ _ _ _ _ _ by rw[HH.out];exact hF8
  clear hI8 hF8 hI0 hF0 hy1 hne HI;go_wp2
  (first | go_end0 | ((try simp only[Exit.inBlock,Exit.then]);refine bodyPost_ret (results_none rfl _ _ _) rfl ?_))
  first | exact M9.out | exact⟨⟨_,rfl⟩,M9.out⟩
 have hk2:(z.kind == 2)=Xd:=by simpa using k2
 have HH:Xo (holdM m z n=m):=show _=_ by unfold holdM;rw[if_neg k1,if_neg k2]
 clear k1 k2;have M9:Xo (Chd w0 p w V (holdM m z n) W1):=show Chd _ _ _ _ _ _ by rw[HH.out];exact⟨V,rfl,HM.out.grew G1.out,OutD.grew G1.out⟩
 go_wp2
 (first | go_end0 | ((try simp only[Exit.inBlock,Exit.then]);refine bodyPost_ret (results_none rfl _ _ _) rfl ?_))
 first | exact M9.out | exact⟨⟨_,rfl⟩,M9.out⟩
theorem Chd.trans {w0 w w1 w2:Xn} {p:Nat} {V V1:MaV} {m2:Ma} (hs:V1.sp=V.sp) (h1:OutD (Dp p V.sp) w w1) (h2:Chd w0 p w1 V1 m2 w2):Chd w0 p w V m2 w2:=by
 obtain⟨V2,k1,k2,k3⟩:=h2;rw[hs]at k1 k3;exact⟨V2,k1,k2,h1.trans k3⟩
theorem holdM_sp (m:Ma) (e:En) (n:Int):(holdM m e n).sp=m.sp:=by
 unfold holdM
 split
 ·rfl
 split <;> rfl
theorem enterM_len (m:Ma) (q:Nat) (n:Int) (e:En):(enterM m q n e).sp.length=m.sp.length:=by simp[enterM]
theorem chShare_any {w0 w:Xn} {p:Nat} {V:MaV} {m:Ma} (h:ChM w0 p w V m) (q r:Nat) (hq:q<m.sp.length) (hr:r<m.sp.length) (n:Int):
  Xp Tryz.prog 147 #[Xj (Xa ⟨p,0,Xb⟩),Xi #[Xe Xf (q:Int),Xe Xf n],Xi #[Xe Xf (r:Int),Xe Xf n]] w fun e w'=>(∃v,e= Xl v)/\Chd w0 p w V (shareM m q r n) w':=by
 obtain⟨E,HE⟩:∃E,Xo (entM m r n=E):=⟨_,rfl⟩;have HSH:Xo (shareM m q r n=enterM (enterM (holdM m ⟨E.kind,E.n,Xd⟩ 1) r n ⟨E.kind,E.n,Xd⟩) q n ⟨E.kind,E.n,Xd⟩):=show _=_ by rw[<-HE.out];rfl
 have HM:Xo (ChM w0 p w V m):=h;have HQ:Xo (q<m.sp.length/\r<m.sp.length):=⟨hq,hr⟩;have HD:Xo (∀k,Dp p V.sp k->k<w.heap.size):=h.dlt;clear h hq hr;obtain⟨W1,hW1⟩:∃W1,(w.alloc (Xk #[Xe Xf (q:Int),Xe Xf n] 141)).alloc (Xk #[Xe Xf (r:Int),Xe Xf n] 141)=W1:=⟨_,rfl⟩;have G1:=gD2 hW1
 obtain⟨b,HB⟩:∃b,Xo (w.heap.size=b):=⟨_,rfl⟩;have X1:Xo (BoxT W1 b 141 [Xe Xf (q:Int),Xe Xf n]):=show BoxT _ _ _ _ by rw[<-hW1];exact(BoxT.top w [Xe Xf (q:Int),Xe Xf n] _ HB.out.symm).grew (grew_alloc _ _)
 have Y1:Xo (BoxT W1 (b+1) 141 [Xe Xf (r:Int),Xe Xf n]):=show BoxT _ _ _ _ by rw[<-hW1];exact BoxT.top _ [Xe Xf (r:Int),Xe Xf n] _ (by have:=HB.out;simp;omega)
 have HW1:Xo (_=W1):=hW1;clear hW1;have hen:=chEntry_any (HM.out.grew G1.out) r HQ.out.2 n;rw[HE.out]at hen
 go_enter Tryz.func147,Tryz.ntmps147
 go_upto_region 1 with fail;rw[HW1.out,HB.out];have y0:=Y1.out.box.c 0 rfl;have y1:=Y1.out.box.c 1 rfl;go_wp2_with fail;refine hen.mono ?_;clear hen y0 y1;rintro e W2 ⟨rfl,g2⟩;have G2:=dD (G1.out.trans g2);have X2:=dD (X1.out.grew g2);have Y2:=dD (Y1.out.grew g2);clear g2 G1 X1 Y1 HW1;unfold enV;go_upto_region 3 with fail;obtain⟨c,HC⟩:∃c,Xo (W2.heap.size=c):=⟨_,rfl⟩;obtain⟨W3,hW3⟩:∃W3,W2.alloc (Xk #[Xe Xf E.kind,Xe Xf E.n,Xh Xd] 127)=W3:=⟨_,rfl⟩;have g3:=gP hW3
 have G3:=dD (G2.out.trans g3);have X3:=dD (X2.out.grew g3);have Y3:=dD (Y2.out.grew g3);have Z3:=xPT hW3 HC
 have HND:Xo (¬Dp p V.sp b/\¬Dp p V.sp (b+1)/\¬Dp p V.sp c):=show _/\_ by
  have hs:=bS G2.out;have:=HB.out;have:=HC.out;exact⟨fun e=>by have:=HD.out _ e;omega,fun e=>by have:=HD.out _ e;omega,fun e=>by have:=HD.out _ e;omega⟩
 have M3:=dD (HM.out.grew G3.out);have O3:Xo (OutD (Dp p V.sp) w W3):=show OutD _ _ _ from OutD.grew G3.out
 rw[hW3,HC.out];clear hW3 g3 G3 X2 Y2 G2 HM HD;obtain⟨z0,z1,z2⟩:=Z3.out.box.c3;have hho:=chHold_any M3.out ⟨E.kind,E.n,Xd⟩ 1;go_wp2_with fail;refine hho.mono ?_;clear hho z0 z1 z2;rintro e W4 ⟨⟨v4,rfl⟩,V4,hs4,m4,o4⟩;have M4:Xo (ChM w0 p W4 V4 (holdM m ⟨E.kind,E.n,Xd⟩ 1)):=m4;have HS4:Xo (V4.sp=V.sp):=hs4;have O4:Xo (OutD (Dp p V.sp) w W4):=show OutD _ _ _ from O3.out.trans o4
 have X4:Xo (BoxT W4 b 141 [Xe Xf (q:Int),Xe Xf n]):=X3.out.outD o4 HND.out.1;have Y4:Xo (BoxT W4 (b+1) 141 [Xe Xf (r:Int),Xe Xf n]):=Y3.out.outD o4 HND.out.2.1;have Z4:Xo (BoxT W4 c 127 [Xe Xf E.kind,Xe Xf E.n,Xh Xd]):=Z3.out.outD o4 HND.out.2.2;clear m4 hs4 o4 M3 O3 X3 Y3 Z3;have y0:=Y4.out.box.c 0 rfl;have y1:=Y4.out.box.c 1 rfl;obtain⟨z0,z1,z2⟩:=Z4.out.box.c3;have hen:=chEnter_any M4.out r (by rw[holdM_sp];exact HQ.out.2) n ⟨E.kind,E.n,Xd⟩
 go_wp2_with fail;refine hen.mono ?_;clear hen y0 y1 z0 z1 z2;rintro e W5 ⟨⟨v5,rfl⟩,V5,hs5,m5,o5⟩;rw[HS4.out]at o5 hs5;have M5:Xo (ChM w0 p W5 V5 (enterM (holdM m ⟨E.kind,E.n,Xd⟩ 1) r n ⟨E.kind,E.n,Xd⟩)):=m5;have HS5:Xo (V5.sp=V.sp):=hs5;have O5:Xo (OutD (Dp p V.sp) w W5):=show OutD _ _ _ from O4.out.trans o5
 have X5:Xo (BoxT W5 b 141 [Xe Xf (q:Int),Xe Xf n]):=X4.out.outD o5 HND.out.1;have Z5:Xo (BoxT W5 c 127 [Xe Xf E.kind,Xe Xf E.n,Xh Xd]):=Z4.out.outD o5 HND.out.2.2;clear m5 hs5 o5 M4 O4 X4 Y4 Z4 HS4;have x0:=X5.out.box.c 0 rfl;have x1:=X5.out.box.c 1 rfl;obtain⟨z0,z1,z2⟩:=Z5.out.box.c3;have hen:=chEnter_any M5.out q (by rw[enterM_len,holdM_sp];exact HQ.out.1) n ⟨E.kind,E.n,Xd⟩
 go_wp2_with fail;refine hen.mono ?_;clear hen x0 x1 z0 z1 z2;rintro e W6 ⟨⟨v6,rfl⟩,h6⟩;have M6:Xo (Chd w0 p w V (shareM m q r n) W6):=show Chd _ _ _ _ _ _ by rw[HSH.out];exact Chd.trans HS5.out O5.out h6
 clear h6;go_wp2
 (first | go_end0 | ((try simp only[Exit.inBlock,Exit.then]);refine bodyPost_ret (results_none rfl _ _ _) rfl ?_))
 first | exact M6.out | exact⟨⟨_,rfl⟩,M6.out⟩
theorem chDrop_any {w0 w:Xn} {p:Nat} {V:MaV} {m:Ma} (h:ChM w0 p w V m) (q:Nat) (hq:q<m.sp.length) (n:Int):
  Xp Tryz.prog 78 #[Xj (Xa ⟨p,0,Xb⟩),Xi #[Xe Xf (q:Int),Xe Xf n]] w fun e w'=>(∃v,e= Xl v)/\Chd w0 p w V (dropP m q n) w':=by
 obtain⟨E,HE⟩:∃E,Xo (entM m q n=E):=⟨_,rfl⟩;have HSH:Xo (dropP m q n=enterM (holdM m E (-1)) q n ⟨0,0,Xd⟩):=show _=_ by rw[<-HE.out];rfl
 have HM:Xo (ChM w0 p w V m):=h;have HQ:Xo (q<m.sp.length):=hq;have HD:Xo (∀k,Dp p V.sp k->k<w.heap.size):=h.dlt;clear h hq;obtain⟨W1,hW1⟩:∃W1,w.alloc (Xk #[Xe Xf (q:Int),Xe Xf n] 141)=W1:=⟨_,rfl⟩;have G1:=gA hW1
 obtain⟨b,HB⟩:∃b,Xo (w.heap.size=b):=⟨_,rfl⟩;have X1:=xPT hW1 HB
 have HND:Xo (¬Dp p V.sp b):=show¬_ from fun e=>by have:=HD.out _ e;have:=HB.out;omega
 have HW1:Xo (_=W1):=hW1;clear hW1;have hen:=chEntry_any (HM.out.grew G1.out) q HQ.out n;rw[HE.out]at hen
 go_enter Tryz.func78,Tryz.ntmps78
 go_upto_region 1 with fail;rw[HW1.out,HB.out];have x0:=X1.out.box.c 0 rfl;have x1:=X1.out.box.c 1 rfl;go_wp2_with fail;refine hen.mono ?_;clear hen x0 x1;rintro e W2 ⟨rfl,g2⟩;have G2:=dD (G1.out.trans g2);have X2:=dD (X1.out.grew g2);clear g2 G1 X1 HW1;unfold enV;have hho:=chHold_any (HM.out.grew G2.out) E (-1);go_wp2_with fail;refine hho.mono ?_;clear hho;rintro e W4 ⟨⟨v4,rfl⟩,V4,hs4,m4,o4⟩;have M4:Xo (ChM w0 p W4 V4 (holdM m E (-1))):=m4;have HS4:Xo (V4.sp=V.sp):=hs4;have O4:Xo (OutD (Dp p V.sp) w W4):=show OutD _ _ _ from(OutD.grew G2.out).trans o4
 have X4:Xo (BoxT W4 b 141 [Xe Xf (q:Int),Xe Xf n]):=X2.out.outD o4 HND.out;clear m4 hs4 o4 X2 G2;have x0:=X4.out.box.c 0 rfl;have x1:=X4.out.box.c 1 rfl;have hen:=chEnter_any M4.out q (by rw[holdM_sp];exact HQ.out) n ⟨0,0,Xd⟩
 go_wp2_with fail;refine hen.mono ?_;clear hen x0 x1;rintro e W6 ⟨⟨v6,rfl⟩,h6⟩;have M6:Xo (Chd w0 p w V (dropP m q n) W6):=show Chd _ _ _ _ _ _ by rw[HSH.out];exact Chd.trans HS4.out O4.out h6
 clear h6;go_wp2
 (first | go_end0 | ((try simp only[Exit.inBlock,Exit.then]);refine bodyPost_ret (results_none rfl _ _ _) rfl ?_))
 first | exact M6.out | exact⟨⟨_,rfl⟩,M6.out⟩
theorem eachPage_any {w0 w:Xn} {p:Nat} {V:MaV} {m:Ma} (h:ChM w0 p w V m) (q:Nat) (s:Sp) (hs:m.sp[q]? =Xa s) (F:Nat) (caps:Array Xq) (J:Nat->Xn->Prop) (eg:Enters Tryz.prog F) (hJ0:∀W,Grew w W->J 0 W)
  (hstep:∀(k:Nat) (n:Int) W,(pagesTo s.tb anyEn 64)[k]? =Xa n->J k W->Xp Tryz.prog F (#[Xe Xf n]++caps) W fun e w'=>(∃v,e= Xl v)/\J (k+1) w'/\OutD (Dp p V.sp) W w'):
  Xp Tryz.prog 145 #[Xj (Xa ⟨p,0,Xb⟩),Xe Xf (q:Int),.func (.func F) #[] caps] w fun e w'=>(∃v,e= Xl v)/\J (pagesTo s.tb anyEn 64).length w'/\OutD (Dp p V.sp) w w':=by
 obtain⟨xs,s1,s2,s3⟩:=h.sp;obtain⟨x,hx⟩:∃x,xs[q]? =Xa x:=⟨_,gE (by rw[s2];exact(gS.1 hs).1)⟩
 have HAT:Xo (SpaceAt w x s):=s3 q x s hx hs w (OutD.refl _ _);have hql:=(gS.1 hx).1;obtain⟨xn,HXN⟩:∃xn,Xo (xs.length=xn):=⟨_,rfl⟩;obtain⟨g,c,heq⟩:=s1.formS (by omega)
 rw[HXN.out]at heq hql;have hqz:(q:Int)< (xn:Int):=by omega
 have c10:=h.box.box.c 10 rfl;rw[heq]at c10 s1;have hce:Sp10 w ((Addr.mk g 0 Xb).add (q*10)) x:=(s1.one hx).sp10;rw[Xx,zA]at hce;obtain⟨d0,d1,d2,d3,d4,d5,d6,d7,d8,d9⟩:=hce;have hpg:Xp Tryz.prog 66 #[Xi #[O x.t0.a x.t0.n x.t0.c,O x.t1.a x.t1.n x.t1.c,O x.t2.a x.t2.n x.t2.c,O x.t3.a x.t3.n x.t3.c,O x.t4.a x.t4.n x.t4.c,O x.t5.a x.t5.n x.t5.c,O x.t6.a x.t6.n x.t6.c,O x.t7.a x.t7.n x.t7.c]] w fun e w'=>∃v,e= Xl v/\OwnRow blE w.heap.size w' v (pagesTo s.tb anyEn 64)/\Grew w w':=pagesTb_any x.tab s.tb w HAT.out.tb
 have HD:Xo (∀k,Dp p V.sp k->k<w.heap.size):=h.dlt;have EG:Xo (∀(args:Array Xq) (w:Xn),(callFunc F args).run Tryz.prog w= .ok (.enter F args) w):=eg;have HJ0:Xo (∀W,Grew w W->J 0 W):=hJ0
 generalize hPG:pagesTo s.tb anyEn 64=L at hstep hpg⊢
 have HST:Xo (∀(k:Nat) (n:Int) W,L[k]? =Xa n->J k W->Xp Tryz.prog F (#[Xe Xf n]++caps) W fun e w'=>(∃v,e= Xl v)/\J (k+1) w'/\OutD (Dp p V.sp) W w'):=hstep
 clear h hs s1 s2 s3 hx heq HAT eg hJ0 hstep hPG d0 d1
 go_enter Tryz.func145,Tryz.ntmps145
 go_wp2_with fail;refine hpg.mono ?_;clear hpg d2 d3 d4 d5 d6 d7 d8 d9 c10;rintro e W1 ⟨v1,rfl,ow1,g1⟩;have G1:Xo (Grew w W1):=g1;obtain⟨ra,rc,rfl⟩:=ow1.form;have R1:Xo (RowD blE (Dp p V.sp) W1 (O ra L.length rc) L):=show RowD _ _ _ _ _ from ow1.new.staysD HD.out
 have hbig:=ow1.at.short;clear ow1 g1;obtain⟨N,HN⟩:∃N,Xo (L.length=N):=⟨_,rfl⟩;rw[HN.out]at R1 hbig⊢;go_wp2
 go_loopg [19] N (fun gg s19 wr=>∃kk:Nat,kk<=N/\N - kk<=gg/\s19= Xe Xf kk/\Xo (OutD (Dp p V.sp) W1 wr)/\Xo (J kk wr))
 case atStart=>exact⟨0,nZ _,by omega,rfl,OutD.refl _ _,HJ0.out W1 G1.out⟩
 obtain⟨kk,hkk,hgg,rfl,OW,JW⟩:=hrel
 by_cases hlt:kk<N
 ·have hltz:(kk:Int)< (N:Int):=by omega
  obtain⟨n,HK⟩:∃n,Xo (L[kk]? =Xa n):=⟨_,gE (by rw[HN.out];exact hlt)⟩
  obtain⟨_,_,heq,hnr⟩:=(R1.out wr OW.out).nums;simp only[vJ]at heq;obtain⟨ad2,had2,hl2⟩:=hnr kk n HK.out;have e0:=hl2 wr (Grew.refl _);rw[<-heq.1]at had2;subst had2;clear heq hnr hl2;go_wp2_with fail;rw[EG.out];refine(HST.out kk n wr HK.out JW.out).mono ?_;clear e0;rintro e W3 ⟨⟨v3,rfl⟩,j3,o3⟩;have J3:Xo (J (kk+1) W3):=j3;have O3:Xo (OutD (Dp p V.sp) W1 W3):=show OutD _ _ _ from OW.out.trans o3
  clear j3 o3;go_wp2
  go_roundg (N -(kk+1))
  case measure=>omega
  exact⟨kk+1,by omega,by omega,by go_num,O3.out,J3.out⟩
 have hltz:¬(kk:Int)< (N:Int):=by omega
 have:kk=N:=by omega
 subst this;have HF:Xo (J L.length wr/\OutD (Dp p V.sp) w wr):=show _/\_ from⟨by rw[HN.out];exact JW.out,(OutD.grew G1.out).trans OW.out⟩
 go_wp2
 (first | go_end0 | ((try simp only[Exit.inBlock,Exit.then]);refine bodyPost_ret (results_none rfl _ _ _) rfl ?_))
 first | exact HF.out | exact⟨⟨_,rfl⟩,HF.out⟩
def RightSp (m:Ma):Prop:=∀s∈m.sp,(wrL s.ars).1=0/\tbW s.tb=0
theorem rightSp {m:Ma} (h:wSpaces m=0):RightSp m:=fun s hs=>by
 unfold wSpaces at h
 split at h
 ·cases h
 have:=firstE_zero.1 h (spE s) (Yr.2 ⟨s,hs,rfl⟩);unfold spE at this
 split at this
 ·rename_i a;exact absurd this a
 rename_i a
 split at this
 ·rename_i b;exact absurd this b
 rename_i b;exact⟨by simpa using a,by simpa using b⟩
theorem flat_ok {s:Sp} (h:tbW s.tb=0) (n:Nat):enW (flatN s n)=0:=by
 unfold flatN getN;have hall:=tbW_zero.1 h;have:HaOk (s.tb[n / 8]?.getD []):=by
  cases e:s.tb[n / 8]? with
  | none=>exact .inl rfl
  | some x=>exact hall x (mG e)
 exact this.get (n % 8)
theorem get_flat {s:Sp} {n:Nat} (h:n<64):getT s.tb (n:Int)=flatN s n:=by
 unfold getT flatN;rw[if_pos (by omega),tN]
theorem pagesN_lt {s:Sp} {j n:Nat} (h:(pagesN s)[j]? =Xa n):n<64:=by
 have:=mG h;unfold pagesN at this;rw[List.mem_filter,List.mem_range]at this;exact this.1
theorem canP_at:∀{l:List Ar} {p:Option Ar} {k:Nat} {a:Ar},CanP p l->l[k]? =Xa a->ArOk a
 | [],_,_,_,_,h=>by simp at h
 | b :: l,p,0,a,hc,h=>by
  simp at h
  subst h;exact hc.1
 | b :: l,p,k+1,a,hc,h=>canP_at hc.2.2 (by simpa using h)
theorem wrongPagesM_any (V:MaV) (m:Ma) (w:Xn) (hm:MachAt w V m) (h1:Right1 m) (h2:RightSp m):
  Xp Tryz.prog 32 #[Xi #[O V.f.a V.f.n V.f.c,Xe Xf m.hand,O V.s.a V.s.n V.s.c,O V.sb.a V.sb.n V.sb.c,O V.sq.a V.sq.n V.sq.c,O V.db.a V.db.n V.db.c,O V.dq.a V.dq.n V.dq.c,O V.fl.a V.fl.n V.fl.c,Xe Xf m.cnt,O V.ca.a V.ca.n V.ca.c,O V.sp.a V.sp.n V.sp.c]] w fun e w'=>e= Xl (Xe Xf (wPages m))/\Grew w w':=by
 have HWE:Xo (∀(a:Ar) (n:Nat) (e:En) W,Grew w W->ArOk a->n<=64->0<=e.n->Xp Tryz.prog 68 #[Xi #[O V.f.a V.f.n V.f.c,Xe Xf m.hand,O V.s.a V.s.n V.s.c,O V.sb.a V.sb.n V.sb.c,O V.sq.a V.sq.n V.sq.c,O V.db.a V.db.n V.db.c,O V.dq.a V.dq.n V.dq.c,O V.fl.a V.fl.n V.fl.c,Xe Xf m.cnt,O V.ca.a V.ca.n V.ca.c,O V.sp.a V.sp.n V.sp.c],Xi #[Xe Xf a.fr,Xe Xf a.tz,Xh a.rd,Xh a.wr,Xh a.sh,Xe Xf a.file,Xe Xf a.base],Xe Xf (n:Int),Xi #[Xe Xf e.kind,Xe Xf e.n,Xh e.wr]] W fun e' w'=>e'= Xl (Xe Xf (wEntry m a n e))/\Grew W w'):=show∀(a:Ar) (n:Nat) (e:En) W,_ from fun a n e W hW ha hn he=>wrongEntryM_any V m a n e W (hm.grew hW) ha hn he
 have HM1:Xo (memW m.fs m.hand=0):=h1.mem;have HRS:Xo (RightSp m):=h2;obtain⟨vf,vs,vsb,vsq,vdb,vdq,vfl,vca,⟨spa,spn,spc⟩⟩:=V;dsimp only at HWE⊢;obtain⟨-,-,-,-,-,-,-,-,n9⟩:=hm.ns;dsimp only at n9;obtain⟨xs,hxl,hrow,hsp⟩:=hm.spaces;have HXL:Xo (xs.length=m.sp.length):=hxl;have HR:Xo (∀(j:Nat) x,xs[j]? =Xa x->∃ad,spa=Xa ad/\∀W,Grew w W->Sp10 W (ad.add (j*10)) x):=hrow;have HSP:Xo (∀(i:Nat) x s,xs[i]? =Xa x->m.sp[i]? =Xa s->SpaceAt w x s):=hsp;have HN:Xo (m.sp.length=spn):=n9.symm;have hbig:spn<=9223372036854775807:=by
  obtain⟨ys,k1,k2,_⟩:=hm.sp;have:=k1.short;omega
 obtain⟨Z,HZ⟩:∃Z,Xo (wPages m=Z):=⟨_,rfl⟩;rw[HZ.out];clear hm hxl hrow hsp n9 h1 h2;obtain⟨W0,hW0⟩:∃W0,w.alloc (Xk #[O vf.a vf.n vf.c,Xe Xf m.hand,O vs.a vs.n vs.c,O vsb.a vsb.n vsb.c,O vsq.a vsq.n vsq.c,O vdb.a vdb.n vdb.c,O vdq.a vdq.n vdq.c,O vfl.a vfl.n vfl.c,Xe Xf m.cnt,O vca.a vca.n vca.c,O spa spn spc] 42)=W0:=⟨_,rfl⟩;have HG0:=gA hW0
 have X0:=xA hW0
 have HW0:Xo (_=W0):=hW0;clear hW0
 go_enter Tryz.func32,Tryz.ntmps32
 go_upto_region 1 with fail;rw[HW0.out];have x10:=X0.out.c 10 rfl;go_wp2;clear x10
 go_loopg [12] spn (fun gg s12 wr=>∃kk:Nat,kk<=spn/\spn - kk<=gg/\s12= Xe Xf kk/\Xo (Grew w wr)/\Xo (Box wr w.heap.size [O vf.a vf.n vf.c,Xe Xf m.hand,O vs.a vs.n vs.c,O vsb.a vsb.n vsb.c,O vsq.a vsq.n vsq.c,O vdb.a vdb.n vdb.c,O vdq.a vdq.n vdq.c,O vfl.a vfl.n vfl.c,Xe Xf m.cnt,O vca.a vca.n vca.c,O spa spn spc])/\Xo (∀(j:Nat) s,j<kk->m.sp[j]? =Xa s->spEnt m s=0))
 case atStart=>exact⟨0,nZ _,by omega,rfl,HG0.out,X0.out,fun j s hj=>absurd hj (nL _)⟩
 obtain⟨kk,hkk,hgg,rfl,BW,XW,OW⟩:=hrel;clear X0 HG0
 by_cases hlt:kk<spn
 ·have hltz:(kk:Int)< (spn:Int):=by omega
  obtain⟨s,HS⟩:∃s,Xo (m.sp[kk]? =Xa s):=⟨_,gE (by rw[HN.out];exact hlt)⟩
  obtain⟨x,HX⟩:∃x,Xo (xs[kk]? =Xa x):=⟨_,gE (by rw[HXL.out,HN.out];exact hlt)⟩
  have HAT:Xo (SpaceAt w x s):=HSP.out kk x s HX.out HS.out;obtain⟨hok1,hok2⟩:=HRS.out s (mG HS.out);have HCN:Xo (CanP Xb s.ars):=(wrL_zero.1 hok1).2;have HTB:Xo (tbW s.tb=0):=hok2;have HAL:Xo (s.ars.length=x.ar.n):=HAT.out.ar.n.symm;have HAR:Xo (ArRows w x.ar.a s.ars):=show ArRows _ _ _ by
   obtain⟨_,_,q1,q2⟩:=HAT.out.ar.ars;simp only[vJ]at q1;rw[q1.1];exact q2
  clear hok1 hok2;obtain⟨ad,rfl,hl⟩:=HR.out kk x HX.out;obtain⟨d0,d1,d2,d3,d4,d5,d6,d7,d8,d9⟩:=hl wr BW.out;clear hl;go_upto_region 4 with fail;obtain⟨W1,hW1⟩:∃W1,wr.alloc (Xk #[Xh x.live,O x.ar.a x.ar.n x.ar.c,O x.t0.a x.t0.n x.t0.c,O x.t1.a x.t1.n x.t1.c,O x.t2.a x.t2.n x.t2.c,O x.t3.a x.t3.n x.t3.c,O x.t4.a x.t4.n x.t4.c,O x.t5.a x.t5.n x.t5.c,O x.t6.a x.t6.n x.t6.c,O x.t7.a x.t7.n x.t7.c] 76)=W1:=⟨_,rfl⟩;have HG1:=gT hW1 BW
  have X1:=yA hW1 XW
  have S1:=xA hW1
  rw[hW1];clear hW1 d0 d1 d2 d3 d4 d5 d6 d7 d8 d9;obtain⟨pb,HPB⟩:∃pb,Xo (wr.heap.size=pb):=⟨_,rfl⟩;rw[HPB.out]at S1⊢;have hcall:Xp Tryz.prog 66 #[Xi #[O x.t0.a x.t0.n x.t0.c,O x.t1.a x.t1.n x.t1.c,O x.t2.a x.t2.n x.t2.c,O x.t3.a x.t3.n x.t3.c,O x.t4.a x.t4.n x.t4.c,O x.t5.a x.t5.n x.t5.c,O x.t6.a x.t6.n x.t6.c,O x.t7.a x.t7.n x.t7.c]] W1 fun e w'=>∃v,e= Xl v/\OwnRow blE W1.heap.size w' v (pagesTo s.tb anyEn 64)/\Grew W1 w':=pagesTb_any x.tab s.tb W1 (HAT.out.grew HG1.out).tb
  have s2:=S1.out.c 2 rfl;have s3:=S1.out.c 3 rfl;have s4:=S1.out.c 4 rfl;have s5:=S1.out.c 5 rfl;have s6:=S1.out.c 6 rfl;have s7:=S1.out.c 7 rfl;have s8:=S1.out.c 8 rfl;have s9:=S1.out.c 9 rfl;go_wp2_with fail;refine hcall.mono ?_;clear hcall s2 s3 s4 s5 s6 s7 s8 s9;rintro e' W2 ⟨pv,rfl,ow2,hg2⟩;have HG2:=dD (HG1.out.trans hg2);have X2:=dD (X1.out.grew hg2);have S2:=dD (S1.out.grew hg2);clear hg2;obtain⟨pa,pc,rfl,hnr⟩:=ow2.at.nums;have hq0:=ow2.at.short;have HNR:Xo (NumRows W2 pa (pagesTo s.tb anyEn 64)):=hnr;rw[pagesTo_any,List.length_map]at hq0⊢;rw[pagesTo_any]at HNR;clear ow2 hnr;obtain⟨q,HQ⟩:∃q,Xo ((pagesN s).length=q):=⟨_,rfl⟩;rw[HQ.out]at hq0⊢;go_wp2;have HBW:Xo (Grew w wr):=BW;have HOW:Xo (∀(j:Nat) s,j<kk->m.sp[j]? =Xa s->spEnt m s=0):=OW;clear BW XW OW
  go_loopg [20] q (fun gg s20 wr=>∃i:Nat,i<=q/\q - i<=gg/\s20= Xe Xf i/\Xo (Grew W2 wr)/\Xo (∀(j:Nat) n,j<i->(pagesN s)[j]? =Xa n->entE m (onAt s.ars n) (flatN s n)=0))
  case atStart=>exact⟨0,nZ _,by omega,rfl,Grew.refl _,fun j s hj=>absurd hj (nL _)⟩
  obtain⟨i,hi,hg2,rfl,BW,OW⟩:=hrel
  by_cases hlt2:i<q
  ·have hltz2:(i:Int)< (q:Int):=by omega
   obtain⟨n,HNI⟩:∃n,Xo ((pagesN s)[i]? =Xa n):=⟨_,gE (by rw[HQ.out];exact hlt2)⟩
   have hn64:n<64:=pagesN_lt HNI.out;obtain⟨ad2,rfl,hl2⟩:=HNR.out i (n:Int) (by rw[Yq,HNI.out];rfl)
   have e0:=hl2 wr BW.out;clear hl2;have HGW:=dD (HG2.out.trans BW.out);have hcf:=find_any (O x.ar.a x.ar.n x.ar.c) s.ars (n:Int) wr (HAT.out.ar.grew HGW.out);have s1:=(S2.out.grew BW.out).c 1 rfl;go_wp2_with fail;refine hcf.mono ?_;clear hcf e0 s1;rintro e' W4 ⟨⟨z,rfl,hz⟩,hg4⟩;have HFZ:Xo (FindsZ s.ars (n:Int) z):=hz;have HG4:=dD (BW.out.trans hg4);have HGw4:=dD (HG2.out.trans HG4.out);clear hg4 hz
   by_cases hz0:z<0
   ·have HZE:Xo (Z=5):=show _=_ by
     have h5:entE m (onAt s.ars n) (flatN s n)=5:=by
      have:=finds_is HFZ.out;rw[decide_eq_false (by omega)]at this
      unfold entE;rw[if_pos this.symm]
     have h6:spEnt m s=5:=by rw[spEnt_pages,firstE_at HNI.out OW.out (by rw[h5];decide),h5]
     rw[<-HZ.out];unfold wPages;rw[firstE_at HS.out HOW.out (by rw[h6];decide),h6]
    go_wp2;go_ret;exact⟨by rw[HZE.out];rfl,HGw4.out⟩
   obtain⟨k,a,rfl,HKA,HIN⟩:∃(k:Nat) (a:Ar),z=(k:Int)/\Xo (s.ars[k]? =Xa a)/\Xo (inZ a (n:Int)=Xc):=by
    rcases HFZ.out with⟨k,a,q1,q2,q3⟩ | ⟨q1,_⟩
    ·exact⟨k,a,q1,q2,q3⟩
    omega
   have HAO:Xo (ArOk a):=canP_at HCN.out HKA.out;have hkl:k<x.ar.n:=by rw[<-HAL.out];exact(gS.1 HKA.out).1
   have HEN:Xo (entE m (onAt s.ars n) (flatN s n)=wEntry m a n (flatN s n)):=show _=_ by rw[onAt_uniq HCN.out HKA.out HIN.out,wEntry_eq HM1.out HAO.out]
   have hen0:0<=(flatN s n).n:=(enW_zero (flat_ok HTB.out n)).2.1.1;have HWE':Xo (∀W,Grew w W->Xp Tryz.prog 68 #[Xi #[O vf.a vf.n vf.c,Xe Xf m.hand,O vs.a vs.n vs.c,O vsb.a vsb.n vsb.c,O vsq.a vsq.n vsq.c,O vdb.a vdb.n vdb.c,O vdq.a vdq.n vdq.c,O vfl.a vfl.n vfl.c,Xe Xf m.cnt,O vca.a vca.n vca.c,O (Xa ad) spn spc],Xi #[Xe Xf a.fr,Xe Xf a.tz,Xh a.rd,Xh a.wr,Xh a.sh,Xe Xf a.file,Xe Xf a.base],Xe Xf (n:Int),enV (flatN s n)] W fun e' w'=>e'= Xl (Xe Xf (wEntry m a n (flatN s n)))/\Grew W w'):=show∀W,_ from fun W hW=>HWE.out a n (flatN s n) W hW HAO.out (by omega) hen0
   have HGT:Xo (∀W,Grew w W->Xp Tryz.prog 69 #[Xi #[O x.t0.a x.t0.n x.t0.c,O x.t1.a x.t1.n x.t1.c,O x.t2.a x.t2.n x.t2.c,O x.t3.a x.t3.n x.t3.c,O x.t4.a x.t4.n x.t4.c,O x.t5.a x.t5.n x.t5.c,O x.t6.a x.t6.n x.t6.c,O x.t7.a x.t7.n x.t7.c],Xe Xf (n:Int)] W fun e w'=>e= Xl (enV (flatN s n))/\Grew W w'):=show∀W,_ from fun W hW=>by
    have:=getTb_any x.tab s.tb (n:Int) W (HAT.out.grew hW).tb;rw[get_flat hn64]at this;exact this
   clear hen0;go_upto_region 10 with fail;obtain⟨ada,hva,hl⟩:=HAR.out k a HKA.out;have X4:=dD (X2.out.grew HG4.out);have S4:=dD (S2.out.grew HG4.out);have hx0:=X4.out.gw 0 rfl
   have hx1:=X4.out.gw 1 rfl
   have hx2:=X4.out.gw 2 rfl
   have hx3:=X4.out.gw 3 rfl
   have hx4:=X4.out.gw 4 rfl
   have hx5:=X4.out.gw 5 rfl
   have hx6:=X4.out.gw 6 rfl
   have hx7:=X4.out.gw 7 rfl
   have hx8:=X4.out.gw 8 rfl
   have hx9:=X4.out.gw 9 rfl
   have hx10:=X4.out.gw 10 rfl
   have hs1:=S4.out.gw 1 rfl
   have hs2:=S4.out.gw 2 rfl
   have hs3:=S4.out.gw 3 rfl
   have hs4:=S4.out.gw 4 rfl
   have hs5:=S4.out.gw 5 rfl
   have hs6:=S4.out.gw 6 rfl
   have hs7:=S4.out.gw 7 rfl
   have hs8:=S4.out.gw 8 rfl
   have hs9:=S4.out.gw 9 rfl
   rw[hva]at hs1;have hy0:∀y:GrownW W4,y.world.cell? (ada.add (k*7))=Xa (Xe Xf a.fr):=fun y=>(hl _ (HGw4.out.trans y.grew)).1
   have hy1:∀y:GrownW W4,y.world.cell? { block:=(ada.add (k*7)).block,off:=(ada.add (k*7)).off+1 }=Xa (Xe Xf a.tz):=fun y=>(hl _ (HGw4.out.trans y.grew)).2.1
   have hy2:∀y:GrownW W4,y.world.cell? { block:=(ada.add (k*7)).block,off:=(ada.add (k*7)).off+2 }=Xa (Xh a.rd):=fun y=>(hl _ (HGw4.out.trans y.grew)).2.2.1
   have hy3:∀y:GrownW W4,y.world.cell? { block:=(ada.add (k*7)).block,off:=(ada.add (k*7)).off+3 }=Xa (Xh a.wr):=fun y=>(hl _ (HGw4.out.trans y.grew)).2.2.2.1
   have hy4:∀y:GrownW W4,y.world.cell? { block:=(ada.add (k*7)).block,off:=(ada.add (k*7)).off+4 }=Xa (Xh a.sh):=fun y=>(hl _ (HGw4.out.trans y.grew)).2.2.2.2.1
   have hy5:∀y:GrownW W4,y.world.cell? { block:=(ada.add (k*7)).block,off:=(ada.add (k*7)).off+5 }=Xa (Xe Xf a.file):=fun y=>(hl _ (HGw4.out.trans y.grew)).2.2.2.2.2.1
   have hy6:∀y:GrownW W4,y.world.cell? { block:=(ada.add (k*7)).block,off:=(ada.add (k*7)).off+6 }=Xa (Xe Xf a.base):=fun y=>(hl _ (HGw4.out.trans y.grew)).2.2.2.2.2.2
   have hne:Nonempty (GrownW W4):=⟨⟨_,Grew.refl _⟩⟩;clear hl hva;refine wp_lax [(10,⟨fun v=>v=enV (flatN s n),fun v w'=>True⟩),(11,⟨fun v=>v= Xe Xf (wEntry m a n (flatN s n)),fun v w'=>True⟩)] mixed (by kernel_rfl) ?hS ?hp ?_
   case hS=>
    intro x hx;simp only[mC,nM,or_false]at hx
    rcases hx with rfl | rfl
    ·exact⟨_,rfl⟩
    exact⟨_,rfl⟩
   case hp=>
    intro x hx;simp only[mC,nM,or_false]at hx
    rcases hx with rfl | rfl
    ·exact fun _ _ _ _ h=>h
    exact fun _ _ _ _ h=>h
   iterate 10 (refine lax_quiet rfl rfl rfl (fun K hK=>?_);go_big_quiet_op;refine hK _ ?_;clear hK K)
   refine lax_spec rfl rfl (fun w' hg hF=>?_) (fun v1 hv=>?_)
   ·refine Does.call [Xi #[O x.t0.a x.t0.n x.t0.c,O x.t1.a x.t1.n x.t1.c,O x.t2.a x.t2.n x.t2.c,O x.t3.a x.t3.n x.t3.c,O x.t4.a x.t4.n x.t4.c,O x.t5.a x.t5.n x.t5.c,O x.t6.a x.t6.n x.t6.c,O x.t7.a x.t7.n x.t7.c],Xe Xf (n:Int)] rfl Tryz.func69 rfl rfl rfl ?_;refine(HGT.out w' (HGw4.out.trans hg)).mono ?_;rintro e w'' ⟨rfl,hg3⟩;exact⟨_,rfl,hg3,rfl,trivial⟩
   subst hv;simp only[Xs,sB,sS,sZ];refine lax_spec rfl rfl (fun w' hg hF=>?_) (fun v1 hv=>?_)
   ·refine Does.call [Xi #[O vf.a vf.n vf.c,Xe Xf m.hand,O vs.a vs.n vs.c,O vsb.a vsb.n vsb.c,O vsq.a vsq.n vsq.c,O vdb.a vdb.n vdb.c,O vdq.a vdq.n vdq.c,O vfl.a vfl.n vfl.c,Xe Xf m.cnt,O vca.a vca.n vca.c,O (Xa ad) spn spc],Xi #[Xe Xf a.fr,Xe Xf a.tz,Xh a.rd,Xh a.wr,Xh a.sh,Xe Xf a.file,Xe Xf a.base],Xe Xf (n:Int),enV (flatN s n)] rfl Tryz.func68 rfl rfl rfl ?_;refine(HWE'.out w' (HGw4.out.trans hg)).mono ?_;rintro e w'' ⟨rfl,hg3⟩;exact⟨_,rfl,hg3,rfl,trivial⟩
   subst hv;simp only[Xs,sB,sS,sZ];iterate 1 (refine lax_quiet rfl rfl rfl (fun K hK=>?_);go_big_quiet_op;refine hK _ ?_;clear hK K)
   refine lax_nil fun W5 hg5 hF=>?_
   have HG5:=dD (HG4.out.trans hg5);have HGw5:=dD (HG2.out.trans HG5.out);clear hg5 hF hx0 hx1 hx2 hx3 hx4 hx5 hx6 hx7 hx8 hx9 hx10 hs1 hs2 hs3 hs4 hs5 hs6 hs7 hs8 hs9 hy0 hy1 hy2 hy3 hy4 hy5 hy6 hne;obtain⟨e,HEE⟩:∃e,Xo (wEntry m a n (flatN s n)=e):=⟨_,rfl⟩;rw[HEE.out];rw[HEE.out]at HEN
   by_cases h0:e=0
   ·have h0e:(e != 0)=Xd:=by simp[h0]
    have OW':Xo (∀(j:Nat) n,j<i+1->(pagesN s)[j]? =Xa n->entE m (onAt s.ars n) (flatN s n)=0):=show∀(j:Nat) n,_ from fun j n' hj hn'=>by
     by_cases ej:j=i
     ·subst ej;rw[HNI.out]at hn';cases hn';rw[HEN.out];exact h0
     exact OW.out j n' (by omega) hn'
    clear h0;go_wp2
    go_roundg (q -(i+1))
    case measure=>omega
    exact⟨i+1,by omega,by omega,by go_num,HG5.out,OW'.out⟩
   have h0e:(e != 0)=Xc:=by simp[h0]
   have HZE:Xo (Z=e):=show _=_ by
    have h6:spEnt m s=e:=by rw[spEnt_pages,firstE_at HNI.out OW.out (by rw[HEN.out];exact h0),HEN.out]
    rw[<-HZ.out];unfold wPages;rw[firstE_at HS.out HOW.out (by rw[h6];exact h0),h6]
   clear h0;go_wp2;go_ret;exact⟨by rw[HZE.out];rfl,HGw5.out⟩
  have hltz2:¬(i:Int)< (q:Int):=by omega
  have:i=q:=by omega
  subst this;have HSE:Xo (spEnt m s=0):=show _=_ by
   rw[spEnt_pages];exact firstE_all fun j n hn=>OW.out j n (by rw[<-HQ.out];exact(gS.1 hn).1) hn
  have OW':Xo (∀(j:Nat) s,j<kk+1->m.sp[j]? =Xa s->spEnt m s=0):=show∀(j:Nat) s,_ from fun j s' hj hs=>by
   by_cases ej:j=kk
   ·subst ej;rw[HS.out]at hs;cases hs;exact HSE.out
   exact HOW.out j s' (by omega) hs
  have XX:=dD (X2.out.grew BW.out);have GG:=dD (HG2.out.trans BW.out);go_wp2
  go_roundg (spn -(kk+1))
  case measure=>omega
  exact⟨kk+1,by omega,by omega,by go_num,GG.out,XX.out,OW'.out⟩
 have hltz:¬(kk:Int)< (spn:Int):=by omega
 have:kk=spn:=by omega
 subst this;have HZE:Xo (Z=0):=show _=_ by
  rw[<-HZ.out];exact firstE_all fun j s hs=>OW.out j s (by rw[<-HN.out];exact(gS.1 hs).1) hs
 go_wp2;go_ret;exact⟨by rw[HZE.out];rfl,BW.out⟩
end
end Go.Proofs.YtempiodbdhiboaaGreat
