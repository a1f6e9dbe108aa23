import Derived.Test.YtempiodbdhiboaaGreatSW2
import Derived.Laws.CopyRow
import Derived.Laws.CopyOwn
import Derived.Laws.MakeOwn
import Derived.RangeFuncNested
import Derived.RangeFuncBound
import Derived.RangeFuncCalls
import Derived.RangeFuncLeaves
import Derived.Shelf.Abstract
import Derived.Shelf.RegionOpen
import Derived.WalkKit
import Derived.OwnWalkIn
import Derived.TacticsInMore
import Derived.LoopNIn
import Derived.LoopIn
import Derived.ChangeKeysEq
namespace Go.Proofs.YtempiodbdhiboaaGreat
open Go.Value renaming slice→O,int→Xe,bool→Xh,agg→Xi,pointer→Xj,tuple→Xm
open Go.IntKind renaming i64→Xf,u8→Xg
open Go.Obj renaming cells→Xk
open Go.Ending renaming returned→Xl
open Go renaming World→Xn,Calls→Xp,Value→Xq
open Go.RowKit renaming Hid→Xo
open Option renaming some→Xa,none→Xb
open Bool renaming true→Xc,false→Xd
open List renaming replicate→Xr
open Go.Sem renaming run_bind→Xs,run_pure→Xw
open _root_.List renaming length_cons→Xt,getElem?_mapIdx→Xu,eq_of_mem_replicate→Xv,mem_map→Xx,mem_or_eq_of_mem_set→Xy,length_set→Xz,getElem?_map→Ya,ext_getElem?→Yb,cons_append→Yc,nil_append→Yd,mem_append→Ye,mem_of_find?_eq_some→Yf,size_toArray→Yg,length→Yh,map_toArray→Yj,length_take→Yk,take_of_length_le→Yl,map_nil→Ym,length_nil→Yn,length_singleton→Yo,reverse_append→Yr,append_toArray→Ys,find?_eq_none→Yv,append_assoc→Yx,find?_append→Yy,push_toArray→Yz
open Go.Region renaming wanted→Yi
open _root_.Array renaming replicate_succ→Yp,replicate_zero→Yq,toList_modify→Yt,forIn_toList→Yw,toList_push→Oa
open _root_.Nat renaming lt_of_lt_of_le→Yu
set_option maxRecDepth 100000
set_option maxHeartbeats 4000000
section
open Go.RowKit
theorem withEntry_any (xa:Option Addr) (xc:Nat) (h:List En) (k:Nat) (hk:k<8) (x:En) (base:Nat) (w:Xn) (hown:OwnRow enE base w (O xa h.length xc) h) (hb:base<=w.heap.size) (h8:h.length=0\/h.length=8):
  Xp Tryz.prog 203 #[O xa h.length xc,Xe Xf (k:Int),Xi #[Xe Xf x.kind,Xe Xf x.n,Xh x.wr]] w fun e w'=>∃a' c',e= Xl (.slice a' (mk ((full h).set k x)).length c')/\OwnRow enE base w' (.slice a' (mk ((full h).set k x)).length c') (mk ((full h).set k x))/\w.grownBy w' (O xa h.length xc).ownBlock/\(∀g,(Value.slice a' (mk ((full h).set k x)).length c').ownBlock=Xa g->(O xa h.length xc).ownBlock=Xa g\/w.heap.size<=g):=by
 have HOWN:Xo (OwnRow enE base w (O xa h.length xc) h):=hown;have HB:Xo (base<=w.heap.size):=hb;have HMK:Xo (mk ((full h).set k x)=if anyS ((full h).set k x)=Xc then(full h).set k x else []):=rfl;clear hown hb;obtain⟨W0,hW0⟩:∃W0,w.alloc (Xk #[Xe Xf x.kind,Xe Xf x.n,Xh x.wr] 127)=W0:=⟨_,rfl⟩;have HG0:=gA hW0
 have X0:=xA hW0
 have HS0:=sA hW0
 have HW0:Xo (_=W0):=hW0;clear hW0;have hkz:(k:Int)<8:=by omega
 rcases h8 with h0 | h8
 ·have hnil:h=[]:=List.length_eq_zero_iff.1 h0;subst hnil;obtain⟨L,HL⟩:∃L,Xo ((full []).set k x=L):=⟨_,rfl⟩;have HLL:Xo (L.length=8):=show _=_ by rw[<-HL.out];simp[full]
  rw[HL.out]at HMK⊢
  generalize mk L=M at HMK⊢
  simp only[Yn]at HOWN⊢;clear h0
  go_enter Tryz.func203,Tryz.ntmps203
  go_upto_region 1 with fail;rw[HW0.out]
  go_wp2_with (refine wpList_make_row enE rfl (.const (Xe Xf 8)) rfl 8 rfl (by decide) ?_)
  intro C ow
  show wpList _ _ _ _ _ (W0.alloc (Xk C 127))
  have ow':OwnRow enE W0.heap.size (W0.alloc (Xk C 127)) (O (Xa ⟨W0.heap.size,0,Xb⟩) 8 8) (full []):=ow;obtain⟨W1,hW1⟩:∃W1,W0.alloc (Xk C 127)=W1:=⟨_,rfl⟩;have G1:=gA hW1
  rw[hW1]at ow'⊢;obtain⟨g,HGG⟩:∃g,Xo (W0.heap.size=g):=⟨_,rfl⟩;rw[HGG.out]at ow'⊢;have O1:Xo (OwnRow enE g W1 (O (Xa ⟨g,0,Xb⟩) 8 8) (full [])):=ow';have X1:=dD (X0.out.grew G1.out);have HBG:Xo (base<=g/\w.heap.size<=g):=show _/\_ by
   have:=HS0.out;have:=HB.out;have:=HGG.out
   constructor <;> omega
  clear hW1 ow ow';obtain⟨x0,x1,x2⟩:=X1.out.c3
  go_wp2_with (refine wpList_store_elt (E:=enE) rfl (.tmp 14) (.tmp 13) rfl g _ (full []) O1.out g k rfl x ?t1 ⟨g,k*3,Xb⟩ rfl rfl (Xi #[Xe Xf x.kind,Xe Xf x.n,Xh x.wr]) rfl rfl ?_)
  case t1=>exact hk
  intro W2 ow2 gr2 sz2;rw[HL.out]at ow2;have O2:Xo (OwnRow enE base W2 (O (Xa ⟨g,0,Xb⟩) 8 8) L):=ow2.base HBG.out.1;have G2:Xo (Grew w W2):=show Grew _ _ from grew_grown (HG0.out.trans G1.out) gr2 HBG.out.2
  have hcall:=containsSome_any _ L W2 ow2.at;clear ow2 gr2 sz2 x0 x1 x2
  generalize anyS L=A at hcall HMK
  cases A with
  | true=>
   have HM:Xo (M=L):=show _=_ by rw[HMK.out,if_pos rfl]
   go_wp2_with fail;refine hcall.mono ?_;rintro e W3 ⟨rfl,k1⟩;have G3:Xo (w.grownBy W3 _):=show World.grownBy _ _ (Value.ownBlock (O xa 0 xc))from grew_by (G2.out.trans k1) _
   have O3:=dD (O2.out.grew k1);clear k1 hcall;go_wp2;go_ret;rw[HM.out,HLL.out];exact⟨Xa ⟨g,0,Xb⟩,8,rfl,O3.out,G3.out,fun g' hg=> .inr (by cases hg;exact HBG.out.2)⟩
  | false=>
   have HM:Xo (M=[]):=show _=_ by rw[HMK.out,if_neg (by decide)]
   go_wp2_with fail;refine hcall.mono ?_;rintro e W3 ⟨rfl,k1⟩;have G3:Xo (w.grownBy W3 _):=show World.grownBy _ _ (Value.ownBlock (O xa 0 xc))from grew_by (G2.out.trans k1) _
   clear k1 hcall;go_wp2;go_ret;rw[HM.out];exact⟨Xb,0,rfl,OwnRow.nil _ _ _,G3.out,fun g' hg=>by cases hg⟩
 obtain⟨L,HL⟩:∃L,Xo ((full h).set k x=L):=⟨_,rfl⟩;have HFU:Xo (full h=h):=show _=_ by unfold full;rw[if_neg (by omega)]
 have HLL:Xo (L.length=8):=show _=_ by rw[<-HL.out,HFU.out];simp[h8]
 rw[HL.out]at HMK⊢
 generalize mk L=M at HMK⊢
 have HH8:Xo (h.length=8):=h8;obtain⟨g,c',heq⟩:=HOWN.out.formS (by omega)
 cases heq;rw[h8]at HOWN⊢;clear h8
 go_enter Tryz.func203,Tryz.ntmps203
 go_upto_region 1 with fail;rw[HW0.out];have O1:=dD (HOWN.out.grew HG0.out);obtain⟨x0,x1,x2⟩:=X0.out.c3
 go_wp2_with (refine wpList_store_elt (E:=enE) rfl (.tmp 14) (.tmp 13) rfl base _ h O1.out g k rfl x ?t1 ⟨g,k*3,Xb⟩ rfl rfl (Xi #[Xe Xf x.kind,Xe Xf x.n,Xh x.wr]) rfl rfl ?_)
 case t1=>rw[HH8.out];exact hk
 intro W2 ow2 gr2 sz2;rw[HFU.out]at HL;rw[HL.out]at ow2;have O2:Xo (OwnRow enE base W2 (O (Xa ⟨g,0,Xb⟩) 8 xc) L):=ow2;have G2:Xo (w.grownBy W2 (Xa g)):=show World.grownBy _ _ _ from grown_trans (grew_by HG0.out _) gr2
 have hcall:=containsSome_any _ L W2 ow2.at;clear ow2 gr2 sz2 x0 x1 x2
 generalize anyS L=A at hcall HMK
 cases A with
 | true=>
  have HM:Xo (M=L):=show _=_ by rw[HMK.out,if_pos rfl]
  go_wp2_with fail;refine hcall.mono ?_;rintro e W3 ⟨rfl,k1⟩;have G3:Xo (w.grownBy W3 _):=show World.grownBy _ _ (Value.ownBlock (O (Xa ⟨g,0,Xb⟩) 8 xc))from grown_trans G2.out (grew_by k1 _)
  have O3:=dD (O2.out.grew k1);clear k1 hcall;go_wp2;go_ret;rw[HM.out,HLL.out];exact⟨Xa ⟨g,0,Xb⟩,xc,rfl,O3.out,G3.out,fun g' hg=> .inl hg⟩
 | false=>
  have HM:Xo (M=[]):=show _=_ by rw[HMK.out,if_neg (by decide)]
  go_wp2_with fail;refine hcall.mono ?_;rintro e W3 ⟨rfl,k1⟩;have G3:Xo (w.grownBy W3 _):=show World.grownBy _ _ (Value.ownBlock (O (Xa ⟨g,0,Xb⟩) 8 xc))from grown_trans G2.out (grew_by k1 _)
  clear k1 hcall;go_wp2;go_ret;rw[HM.out];exact⟨Xb,0,rfl,OwnRow.nil _ _ _,G3.out,fun g' hg=>by cases hg⟩
theorem nil8_one:∀v∈nil8,v.oneCell'=Xc:=fun v hv=>by
 rw[nil8,List.mem_replicate]at hv;rw[hv.2];rfl
theorem set_cases (t:List (List En)) (n:Int) (x:En):
  (tbW t≠0/\setE t n x=tbW t/\setR t n x=none8)\/
  (tbW t=0/\¬(0<=n/\n<64)/\setE t n x=3/\setR t n x=none8)\/
  (tbW t=0/\(0<=n/\n<64)/\enW x≠0/\setE t n x=enW x/\setR t n x=none8)\/
  (tbW t=0/\(0<=n/\n<64)/\enW x=0/\setE t n x=0/\setR t n x=setT t n.toNat x):=by
 by_cases h1:tbW t=0
 ·by_cases h2:0<=n/\n<64
  ·have e:setE t n x=enW x:=by unfold setE;rw[if_pos h1,if_pos h2]
   by_cases h3:enW x=0
   ·exact .inr (.inr (.inr ⟨h1,h2,h3,e.trans h3,by unfold setR;rw[if_pos (e.trans h3)]⟩))
   exact .inr (.inr (.inl ⟨h1,h2,h3,e,by unfold setR;rw[if_neg (by rw[e];exact h3)]⟩))
  have e:setE t n x=3:=by unfold setE;rw[if_pos h1,if_neg h2]
  exact .inr (.inl ⟨h1,h2,e,by unfold setR;rw[if_neg (by rw[e];decide)]⟩)
 have e:setE t n x=tbW t:=by unfold setE;rw[if_neg h1]
 exact .inl ⟨h1,e,by unfold setR;rw[if_neg (by rw[e];exact h1)]⟩
theorem setTb_any (vs:List Xq) (t:List (List En)) (n:Int) (x:En) (w:Xn) (hv:TabAt w vs t):
  Xp Tryz.prog 175 #[Xi vs.toArray,Xe Xf n,Xi #[Xe Xf x.kind,Xe Xf x.n,Xh x.wr]] w fun e w'=>∃us,e= Xl (Xm #[Xi us.toArray,Xe Xf (setE t n x)])/\TabS 0 w.heap.size w' us (setR t n x)/\Grew w w':=by
 have HL:Xo (vs.length=8):=hv.len;have HT8:Xo (t.length=8):=hv.tlen;have h1:∀W,Grew w W->Xp Tryz.prog 118 #[Xi vs.toArray] W fun e w'=>e= Xl (Xe Xf (tbW t))/\Grew W w':=fun W hW=>wrongTb_any vs t W (hv.grew hW)
 have h2:∀W,Grew w W->Xp Tryz.prog 105 #[Xi vs.toArray] W fun e w'=>∃us,e= Xl (Xi us.toArray)/\OwnTab (W.heap.size+2) w' us t/\Grew W w'/\W.heap.size+2<=w'.heap.size:=fun W hW=>ownTb_any vs t W (hv.grew hW)
 have h3:=fun W=>wrongEntry_any x.kind x.n x.wr W
 clear hv;obtain⟨W0,hW0⟩:∃W0,((w.alloc (Xk vs.toArray 74)).alloc (Xk #[Xe Xf x.kind,Xe Xf x.n,Xh x.wr] 127)).alloc (Xk #[O Xb 0 0,O Xb 0 0,O Xb 0 0,O Xb 0 0,O Xb 0 0,O Xb 0 0,O Xb 0 0,O Xb 0 0] 74)=W0:=⟨_,rfl⟩;have HG0:Xo (Grew w W0):=show Grew w W0 by rw[<-hW0];exact((grew_alloc _ _).trans (grew_alloc _ _)).trans (grew_alloc _ _)
 have X0:Xo (Box W0 w.heap.size vs):=show Box _ _ _ by rw[<-hW0];exact((Box.top w _ _ rfl).alloc _).alloc _
 have E0:Xo (Box W0 (w.heap.size+1) [Xe Xf x.kind,Xe Xf x.n,Xh x.wr]):=show Box _ _ _ by rw[<-hW0];exact(Box.top _ _ _ (by simp)).alloc _
 have Y0:Xo (Box W0 (w.heap.size+2) nil8):=show Box _ _ _ by rw[<-hW0];exact Box.top _ nil8 _ (by simp)
 have HW0:Xo (_=W0):=hW0;clear hW0
 rcases set_cases t n x with⟨hz,e1,e2⟩ | ⟨hz,hn,e1,e2⟩ | ⟨hz,hn,hx,e1,e2⟩ | ⟨hz,hn,hx,e1,e2⟩
 ·rw[e1,e2];have hzb:(tbW t != 0)=Xc:=by simpa using hz
  clear e1 e2 hz h2 h3
  generalize tbW t=z at h1 hzb⊢
  go_enter Tryz.func175,Tryz.ntmps175
  go_upto_region 1 with fail;rw[HW0.out]
  go_wp2_with (refine wp_loadTab rfl (.tmp 3) rfl w.heap.size rfl X0.out HL.out ?_)
  refine(h1 W0 HG0.out).mono ?_;rintro e W1 ⟨rfl,g1⟩;have G1:=dD (HG0.out.trans g1);have X1:=dD (X0.out.grew g1);have E1:=dD (E0.out.grew g1);have Y1:=dD (Y0.out.grew g1);clear g1 h1
  go_wp2_with (refine wp_storeAll rfl 74 (.tmp 6) (.tmp 15) rfl (w.heap.size+2) rfl nil8 rfl Y1.out rfl Tryz.sizeTable nil8_one ?_)
  intro W9 b9 g9 s9;have B9:Xo (Box W9 (w.heap.size+2) nil8):=b9;have G9:Xo (Grew w W9):=show Grew _ _ from grew_grown G1.out g9 (by simp)
  clear b9 g9 s9;go_wp2;refine bodyPost_ret (ret_cell_tmp rfl _ rfl B9.out Tryz.underlying74 rfl Tryz.sizeTable) rfl ⟨nil8,rfl,TabS.nil _ _ _,G9.out⟩
 ·rw[e1,e2];rw[hz]at h1;have hb:=fun W=>belowT_no (m:=n) (n:=64) hn W
  clear e1 e2 hz hn h2 h3
  go_enter Tryz.func175,Tryz.ntmps175
  go_upto_region 1 with fail;rw[HW0.out]
  go_wp2_with (refine wp_loadTab rfl (.tmp 3) rfl w.heap.size rfl X0.out HL.out ?_)
  refine(h1 W0 HG0.out).mono ?_;rintro e W1 ⟨rfl,g1⟩;have G1:=dD (HG0.out.trans g1);have X1:=dD (X0.out.grew g1);have E1:=dD (E0.out.grew g1);have Y1:=dD (Y0.out.grew g1);clear g1 h1;go_wp2_with fail;refine(hb _).mono ?_;rintro e w' ⟨rfl,hw'⟩;rw[hw'];clear hw' w'
  go_wp2_with (refine wp_storeAll rfl 74 (.tmp 6) (.tmp 20) rfl (w.heap.size+2) rfl nil8 rfl Y1.out rfl Tryz.sizeTable nil8_one ?_)
  intro W9 b9 g9 s9;have B9:Xo (Box W9 (w.heap.size+2) nil8):=b9;have G9:Xo (Grew w W9):=show Grew _ _ from grew_grown G1.out g9 (by simp)
  clear b9 g9 s9;go_wp2;refine bodyPost_ret (ret_cell_tmp rfl _ rfl B9.out Tryz.underlying74 rfl Tryz.sizeTable) rfl ⟨nil8,rfl,TabS.nil _ _ _,G9.out⟩
 ·rw[e1,e2];rw[hz]at h1;have hb:=fun W=>belowT_yes (m:=n) (n:=64) hn.1 hn.2 W
  change ∀W,Xp Tryz.prog 201 _ W fun e w'=>e= Xl (Xe Xf (enW x))/\Grew W w' at h3
  have hzb:(enW x != 0)=Xc:=by simpa using hx
  clear e1 e2 hz hn hx h2
  generalize enW x=z at h3 hzb⊢
  go_enter Tryz.func175,Tryz.ntmps175
  go_upto_region 1 with fail;rw[HW0.out]
  go_wp2_with (refine wp_loadTab rfl (.tmp 3) rfl w.heap.size rfl X0.out HL.out ?_)
  refine(h1 W0 HG0.out).mono ?_;rintro e W1 ⟨rfl,g1⟩;have G1:=dD (HG0.out.trans g1);have X1:=dD (X0.out.grew g1);have E1:=dD (E0.out.grew g1);have Y1:=dD (Y0.out.grew g1);clear g1 h1;go_wp2_with fail;refine(hb _).mono ?_;rintro e w' ⟨rfl,hw'⟩;rw[hw'];clear hw' w';obtain⟨e0,e1,e2⟩:=E1.out.c3;go_wp2_with fail;refine(h3 W1).mono ?_;rintro e W2 ⟨rfl,g2⟩;have G2:=dD (G1.out.trans g2);have X2:=dD (X1.out.grew g2);have E2:=dD (E1.out.grew g2);have Y2:=dD (Y1.out.grew g2);clear g2 h3 e0 e1 e2
  go_wp2_with (refine wp_storeAll rfl 74 (.tmp 6) (.tmp 25) rfl (w.heap.size+2) rfl nil8 rfl Y2.out rfl Tryz.sizeTable nil8_one ?_)
  intro W9 b9 g9 s9;have B9:Xo (Box W9 (w.heap.size+2) nil8):=b9;have G9:Xo (Grew w W9):=show Grew _ _ from grew_grown G2.out g9 (by simp)
  clear b9 g9 s9;go_wp2;refine bodyPost_ret (ret_cell_tmp rfl _ rfl B9.out Tryz.underlying74 rfl Tryz.sizeTable) rfl ⟨nil8,rfl,TabS.nil _ _ _,G9.out⟩
 rw[e1,e2];rw[hz]at h1;have hb:=fun W=>belowT_yes (m:=n) (n:=64) hn.1 hn.2 W
 change ∀W,Xp Tryz.prog 201 _ W fun e w'=>e= Xl (Xe Xf (enW x))/\Grew W w' at h3
 rw[hx]at h3;obtain⟨i,k,hi,hk,hnk,q1,q2,q3,q4,q5,q6⟩:=page_split hn.1 hn.2;obtain⟨q,HQ⟩:∃q,Xo (t[i]? =Xa q):=⟨_,gE (by rw[HT8.out];exact hi)⟩
 have H8:Xo (q.length=0\/q.length=8):=show _\/_ by
  rcases tbW_zero.1 hz q (mG HQ.out)with h | ⟨h,_⟩
  ·exact .inl (by rw[h];rfl)
  exact .inr h
 have HM:Xo (setT t n.toNat x=t.set i (mk ((full q).set k x))):=show _=_ by
  unfold setT;rw[q5,q6,HQ.out];rfl
 rw[HM.out];obtain⟨M,HMM⟩:∃M,Xo (mk ((full q).set k x)=M):=⟨_,rfl⟩;rw[HMM.out];have hn0:=hn.1;have hiz:(i:Int)<8:=by omega
 clear e1 e2 hz hn hx hnk q5 q6
 go_enter Tryz.func175,Tryz.ntmps175
 go_upto_region 1 with fail;rw[HW0.out]
 go_wp2_with (refine wp_loadTab rfl (.tmp 3) rfl w.heap.size rfl X0.out HL.out ?_)
 refine(h1 W0 HG0.out).mono ?_;rintro e W1 ⟨rfl,g1⟩;have G1:=dD (HG0.out.trans g1);have X1:=dD (X0.out.grew g1);have E1:=dD (E0.out.grew g1);have Y1:=dD (Y0.out.grew g1);clear g1 h1;go_wp2_with fail;refine(hb _).mono ?_;rintro e w' ⟨rfl,hw'⟩;rw[hw'];clear hw' w';obtain⟨e0,e1,e2⟩:=E1.out.c3;go_wp2_with fail;refine(h3 W1).mono ?_;rintro e W2 ⟨rfl,g2⟩;have G2:=dD (G1.out.trans g2);have X2:=dD (X1.out.grew g2);have E2:=dD (E1.out.grew g2);have Y2:=dD (Y1.out.grew g2);clear g2 h3 e0 e1 e2
 go_wp2_with (refine wp_loadTab rfl (.tmp 3) rfl w.heap.size rfl X2.out HL.out ?_)
 refine(h2 W2 G2.out).mono ?_;rintro e W3 ⟨us,rfl,ot3,g3,s3⟩;have OT3:Xo (OwnTab (W2.heap.size+2) W3 us t):=ot3;have G23:Xo (Grew W2 W3):=g3;have HB3:Xo (W2.heap.size+2<=W3.heap.size):=s3;have HB2:Xo (w.heap.size+3<=W2.heap.size):=Y2.out.lt;clear ot3 g3 s3 h2;obtain⟨po,HPO⟩:∃po,Xo (W3.heap.size=po):=⟨_,rfl⟩
 go_wp2_with (refine wp_storeAll rfl 74 (.tmp 10) (.tmp 28) rfl W3.heap.size rfl us rfl (Box.top W3 nil8 74 rfl) OT3.out.len Tryz.sizeTable OT3.out.new.one ?_)
 intro W4 b4 g4 s4;rw[HPO.out]at b4 g4⊢;have P4:Xo (Box W4 po us):=b4;have G34:Xo (Grew W3 W4):=show Grew _ _ from grew_grown (grew_alloc W3 _) g4 (by rw[HPO.out];exact nR _)
 have HS4:Xo (po<W4.heap.size):=b4.lt;clear b4 g4 s4;have OT4:=dD (OT3.out.grew G34.out);have E4:=dD ((E2.out.grew G23.out).grew G34.out);have Y4:=dD ((Y2.out.grew G23.out).grew G34.out);have G4:=dD ((G2.out.trans G23.out).trans G34.out);have HLT:Xo (∀(j:Nat) u,us[j]? =Xa u->∀g,u.ownBlock=Xa g->W2.heap.size+2<=g/\g<po):=show∀(j:Nat) u,_ from fun j u hu g hg=>by
  obtain⟨y,hy⟩:∃y,t[j]? =Xa y:=⟨_,gE (by rw[HT8.out,<-OT3.out.len];exact(gS.1 hu).1)⟩
  rw[<-HPO.out];exact(OT3.out.row j u y hu hy).lt g hg
 obtain⟨xa,xc,q',hq',hvk,ho4⟩:=OT4.out.half hi;obtain rfl:q=q':=by rw[HQ.out]at hq';cases hq';rfl
 have HVK:Xo (us[i]? =Xa (O xa q.length xc)):=hvk;have O4:Xo (OwnRow enE (W2.heap.size+2) W4 (O xa q.length xc) q):=ho4;clear hq' hvk ho4;go_upto_region 10 with fail;obtain⟨g,hg1,hg3,hg4,hg5⟩:∃g,(∀g',(O xa q.length xc).ownBlock=Xa g'->g'=g)/\g≠po/\W2.heap.size+2<=g/\((O xa q.length xc).ownBlock=Xb->W4.heap.size<=g):=by
  cases ho:(O xa q.length xc).ownBlock with
  | none=>exact⟨W4.heap.size,fun g' h=>(by cases h),by have:=HS4.out;omega,by have:=HS4.out;have:=HPO.out;have:=HB3.out;omega,fun _=>nR _⟩
  | some g=>
   have:=HLT.out i _ HVK.out g ho;exact⟨g,fun g' h=>by cases h;rfl,by omega,by omega,fun h=>by cases h⟩
 have HWP:Xo (W2.heap.size+2<=W4.heap.size):=show _<=_ by have:=HS4.out;have:=HPO.out;have:=HB3.out;omega
 obtain⟨I,HI⟩:∃I:Xn->Prop,Xo (∀w,I w↔Out g (g+1) W4 w):=⟨fun w=>Out g (g+1) W4 w,fun _=>Iff.rfl⟩
 obtain⟨nq,HNQ⟩:∃nq,Xo (q.length=nq):=⟨_,rfl⟩;rw[HNQ.out]at hg1 hg5 HVK O4;have hx0:∀y:HoldI I,y.world.cell? ⟨po,i,Xb⟩=Xa (O xa nq xc):=fun y=>(P4.out.out ((HI.out _).1 y.holds) (by omega)).c i HVK.out
 have hgE:w.heap.size+1<g:=by have:=HB2.out;omega
 have hx1:∀y:HoldI I,y.world.cell? ⟨w.heap.size+1,0,Xb⟩=Xa (Xe Xf x.kind):=fun y=>(E4.out.out ((HI.out _).1 y.holds) (by omega)).c 0 rfl
 have hx2:∀y:HoldI I,y.world.cell? ⟨w.heap.size+1,1,Xb⟩=Xa (Xe Xf x.n):=fun y=>(E4.out.out ((HI.out _).1 y.holds) (by omega)).c 1 rfl
 have hx3:∀y:HoldI I,y.world.cell? ⟨w.heap.size+1,2,Xb⟩=Xa (Xh x.wr):=fun y=>(E4.out.out ((HI.out _).1 y.holds) (by omega)).c 2 rfl
 have hne:Nonempty (HoldI I):=⟨⟨W4,(HI.out _).2 (Out.refl _ _ _)⟩⟩;obtain⟨nm,HNM⟩:∃nm,Xo (M.length=nm):=⟨_,rfl⟩;refine wp_lax_tailI (I:=I) 11 [(9,⟨fun v=>∃a' c',v= O a' nm c',fun v w'=>OwnRow enE (W2.heap.size+2) w' v M/\∀g',v.ownBlock=Xa g'->(O xa nq xc).ownBlock=Xa g'\/W4.heap.size<=g',fun w w'=>w.grownBy w' (O xa nq xc).ownBlock,fun w=>OwnRow enE (W2.heap.size+2) w (O xa nq xc) q/\W4.heap.size<=w.heap.size⟩)] ((HI.out _).2 (Out.drew _)) mixed (by kernel_rfl) rfl rfl (by decide) ?hS ?hp ?hpre ?hpr0 ?_
 case hS=>
  intro y hy
  simp at hy
  subst hy;exact⟨_,Xb,0,rfl⟩
 case hp=>
  intro k' s j t' hk' hj hjk _ v w w' hst hpo;have a1:=(look1 hk').1;have a2:=(look1 hj).1;exact absurd (a2.trans a1.symm) hjk
 case hpre=>
  intro j t' k' s hj hk' hjk w w' hst hpr;have a1:=(look1 hk').1;have a2:=(look1 hj).1;exact absurd (a2.trans a1.symm) hjk
 case hpr0=>
  intro k' t' hk';obtain⟨rfl,rfl⟩:=look1 hk';exact⟨O4.out.grew (gW _),nR _⟩
 simp only[List.take,List.drop];iterate 9 (refine laxI_quiet rfl rfl rfl (fun K hK=>?_);go_big_quiet_op;refine hK _ ?_;clear hK K)
 refine laxI_spec rfl rfl (fun w' hI' hpr hF=>?_) (fun v1 hv=>?_)
 ·refine Does.call [O xa nq xc,Xe Xf (k:Int),Xi #[Xe Xf x.kind,Xe Xf x.n,Xh x.wr]] rfl Tryz.func203 rfl rfl rfl ?_;have hpr':OwnRow enE (W2.heap.size+2) w' (O xa nq xc) q/\W4.heap.size<=w'.heap.size:=hpr;have hcall:=withEntry_any xa xc q k hk x (W2.heap.size+2) w' (by rw[HNQ.out];exact hpr'.1) (nT HWP.out hpr'.2) H8.out
  rw[HNQ.out,HMM.out,HNM.out]at hcall;refine hcall.mono ?_;rintro e w'' ⟨a',c',rfl,nr,gb,ho⟩;refine⟨_,rfl,(HI.out _).2 (((HI.out _).1 hI').trans (Out.grown gb (fun g' h=>by have:=hg1 g' h;omega))),gb,⟨a',c',rfl⟩,nr,fun g' hg'=>?_⟩
  rcases ho g' hg' with h | h
  ·exact .inl h
  exact .inr (nT hpr'.2 h)
 obtain⟨ra,rc,rfl⟩:=hv;simp only[Act.put,sB,sS,sZ];iterate 1 (refine laxI_quiet rfl rfl rfl (fun K hK=>?_);go_big_quiet_op;refine hK _ ?_;clear hK K)
 refine laxI_nil fun W5 hI5 hF=>?_
 have f9:OwnRow enE (W2.heap.size+2) W5 (O ra nm rc) M/\∀g',(O ra nm rc).ownBlock=Xa g'->(O xa nq xc).ownBlock=Xa g'\/W4.heap.size<=g':=hF 9;have O5:Xo (Out g (g+1) W4 W5):=(HI.out _).1 hI5;have OT5:Xo (OwnTab (W2.heap.size+2) W5 (us.set i (O ra nm rc)) (t.set i M)):=OT4.out.one hi HVK.out (by
  cases ho:(O xa nq xc).ownBlock with
  | none=>exact⟨O5.out.os,O5.out.tape,O5.out.output,O5.out.size,fun j hj _=>O5.out.block j hj (.inl (Yu hj (hg5 ho)))⟩
  | some g0=>
   have:=hg1 g0 ho;subst this;exact⟨O5.out.os,O5.out.tape,O5.out.output,O5.out.size,fun j hj hne=>O5.out.block j hj (by
    have:j≠g0:=fun e=>hne (by rw[e])
    omega)⟩) f9.1 f9.2
 have HNE:Xo (∀(j:Nat) u,(us.set i (O ra nm rc))[j]? =Xa u->∀g',u.ownBlock=Xa g'->po≠g'):=show∀(j:Nat) u,_ from fun j u hu g' hg'=>by
  by_cases e:j=i
  ·subst e;rw[sF (by rw[OT4.out.len];exact hi)]at hu
   cases hu
   rcases f9.2 g' hg' with h | h
   ·have:=HLT.out j _ HVK.out g' h;omega
   have:=HS4.out;omega
  rw[sN (fun h=>e h.symm)]at hu
  have:=HLT.out j u hu g' hg';omega
 have P5:Xo (Box W5 po us):=P4.out.out O5.out (by omega)
 have Y5:Xo (Box W5 (w.heap.size+2) nil8):=Y4.out.out O5.out (by have:=HB2.out;omega)
 have G5:Xo (Grew w W5):=show Grew _ _ from Out.grew_of G4.out (by have:=HB2.out;omega) O5.out
 clear hF hx0 hx1 hx2 hx3 hI5 hne f9 hg1 hg5;have p0:=P5.out.c i HVK.out;have pf:=P5.out.f;go_upto_region 11 with fail;have hlen:(us.set i (O ra nm rc)).length=8:=by rw[Xz];exact OT4.out.len
 have HLEN:Xo ((us.set i (O ra nm rc)).length=8):=hlen;clear hlen;obtain⟨W6,hW6⟩:∃W6,W5.setCell ⟨po,i,Xb⟩ (O ra nm rc)=W6:=⟨_,rfl⟩;have P6:Xo (Box W6 po (us.set i (O ra nm rc))):=show Box _ _ _ by rw[<-hW6];exact P5.out.set i _
 have Y6:Xo (Box W6 (w.heap.size+2) nil8):=show Box _ _ _ by rw[<-hW6];exact Y5.out.other (by have:=HPO.out;have:=HB3.out;have:=HB2.out;simp;omega) _
 have G6:Xo (Grew w W6):=show Grew _ _ by rw[<-hW6];exact Below.setCell G5.out (p:=⟨po,i,Xb⟩) (by have:=HPO.out;have:=HB3.out;have:=HB2.out;simp;omega) _
 have OT6:Xo (OwnTab (W2.heap.size+2) W6 (us.set i (O ra nm rc)) (t.set i M)):=show OwnTab _ _ _ _ by
  rw[<-hW6];exact⟨OT5.out.len,OT5.out.tlen,fun j v h hv hh=>(OT5.out.row j v h hv hh).setOther (fun g' hg'=>HNE.out j v hv g' hg') _,OT5.out.two⟩
 rw[hW6];clear hW6 p0 pf
 go_wp2_with (first | refine wp_loadTab rfl (.tmp 10) rfl po rfl P6.out HLEN.out ?_ | refine wp_storeAll rfl 74 (.tmp 6) (.tmp 40) rfl (w.heap.size+2) rfl _ rfl Y6.out HLEN.out Tryz.sizeTable OT6.out.new.one ?_)
 intro W7 b7 g7 s7;have B7:Xo (Box W7 (w.heap.size+2) (us.set i (O ra nm rc))):=b7;have G7:Xo (Grew w W7):=show Grew _ _ from grew_grown G6.out g7 (by simp)
 have T7:Xo (TabS 0 w.heap.size W7 (us.set i (O ra nm rc)) (t.set i M)):=show TabS _ _ _ _ _ from
  ⟨OT6.out.len,OT6.out.tlen,fun j v h hv hh=>(((OT6.out.row j v h hv hh).grown g7 (fun g' hg' e=>by
   cases e;have:=((OT6.out.row j v h hv hh).lt _ hg').1;have:=HB2.out
   omega)).new.stays).less (nR _) (by have:=HB2.out;omega)⟩
 clear b7 g7 s7;go_wp2;refine bodyPost_ret (ret_cell_tmp rfl _ rfl B7.out Tryz.underlying74 rfl (by rw[HLEN.out];exact Tryz.sizeTable)) rfl ⟨_,rfl,T7.out,G7.out⟩
def chL (V:MaV) (m:Ma):List Xq:=[O V.f.a V.f.n V.f.c,Xe Xf m.hand,O V.s.a V.s.n V.s.c,O V.sb.a V.sb.n V.sb.c,O V.sq.a V.sq.n V.sq.c,O V.db.a V.db.n V.db.c,O V.dq.a V.dq.n V.dq.c,O V.fl.a V.fl.n V.fl.c,Xe Xf m.cnt,O V.ca.a V.ca.n V.ca.c,O V.sp.a V.sp.n V.sp.c]
theorem OutD.grown {D:Nat->Prop} {w w':Xn} {b:Nat} (hg:w.grownBy w' (Xa b)) (h:D b):OutD D w w':=
 ⟨hg.os,hg.tape,hg.output,hg.size,fun k hk hb=>hg.block k hk (fun e=>by cases e;exact hb h)⟩
theorem BoxT.outD {D:Nat->Prop} {w w':Xn} {b:Nat} {t:TypeId} {cs:List Xq} (h:BoxT w b t cs) (k:OutD D w w') (hn:¬D b):BoxT w' b t cs:=(k.block b h.box.lt hn).trans h
theorem TabS.outD {B:Nat} {D:Nat->Prop} {w W:Xn} {us:List Xq} {t:List (List En)} (h:TabS 0 B w us t) (hd:∀k,D k->k<B) (k:OutD D w W):TabAt W us t:=
 (h.out ⟨k.os,k.tape,k.output,k.size,fun i hi hb=>k.block i hi (fun e=>by have:=hd i e;omega)⟩).now
def holdM (m:Ma) (e:En) (n:Int):Ma:=if e.kind=1 then{ m with fs:=holdF m.fs m.hand e.n n,hand:=holdH m.fs m.hand e.n n }else if e.kind=2 then{ m with sl:=holdSL m.sl e.n n }else m
def entM (m:Ma) (q:Nat) (n:Int):En:=getT (m.sp.getD q ⟨Xd,[],[]⟩).tb n
def enterM (m:Ma) (q:Nat) (n:Int) (e:En):Ma:={ m with sp:=m.sp.set q { m.sp.getD q ⟨Xd,[],[]⟩with tb:=setR (m.sp.getD q ⟨Xd,[],[]⟩).tb n e } }
def dropP (m:Ma) (p:Nat) (n:Int):Ma:=enterM (holdM m (entM m p n) (-1)) p n en0
theorem Sp.getD_of {l:List Sp} {q:Nat} {s d:Sp} (h:l[q]? =Xa s):l.getD q d=s:=by
 rw[gD,h];rfl
section
variable{I:Xn->Prop} {P:Program} {ops:Array Oper} {S:Nat->Option (Xq->Prop)} {Q:Act->Xn->Prop}
variable(I P ops S Q)in
abbrev WLaxD:List Oper->Nat->(Xn->Prop)->Act->Prop:=WLaxF I P ops S (fun _=>Xd) Q
theorem wp_lax_tailD {id:Nat} {Q:Exit->Act->Xn->Prop} {a:Act} {w:Xn} {L l r:List Oper} (T:Nat) (S:List (Nat ×(Xq->Prop))) (F:Xn->Prop) (hI:I w.drew) (hF:F w.drew) (hm:P.follows .mixedOrders=Xc) (hB:laxTB L.toArray T=Xc) (hl:L.take T=l) (hr:L.drop T=r) (hT:T<=L.length)
  (hS:∀x∈S,∃v,x.2 v) (hch:((S.map (·.1)).all fun i=>(S.map (·.1)).all fun k=>!decide (i<k) || anc L.toArray 9 i k)=Xc)
  (h:WLaxD I P L.toArray (fun k=>S.lookup k) (fun a w=>wpList P L.toArray Q r a w) l 0 F a):(Code.region id L.toArray Xc).wp P Q a w:=
 wp_lax_tailF T S [] F hI hF hm hB hl hr hT hS (by simpa using hch) rfl h
variable{o:Oper} {rest:List Oper} {k:Nat} {F:Xn->Prop} {a:Act}
theorem laxD_quiet (ht:tame o=Xc) (hw:Yi o (yielded ops a.tmps)=Xc) (hS:S k=Xb)
  (h:∀K:Act->Prop,(∀a,WLaxD I P ops S Q rest (k+1) F a->K a)->o.quiet P a (fun w'=>∃x:HoldI I,w'=x.world) K):WLaxD I P ops S Q (o :: rest) k F a:=laxF_quiet ht hw hS h
theorem laxD_spec {s:Xq->Prop} (hw:Yi o (yielded ops a.tmps)=Xc) (hS:S k=Xa s) (p:Xq->Xn->Prop)
  (h:∀w,I w->F w->Does P o a w fun v w'=>I w'/\s v/\p v w')
  (hn:∀v,s v->WLaxD I P ops S Q rest (k+1) (p v) (a.put o.dst v)):WLaxD I P ops S Q (o :: rest) k F a:=laxF_spec hw hS p h hn
theorem laxD_nilc (x:Operand) (p:Addr) (ho:o.op= .nilCheck x) (hx:a.eval x= Xj (Xa p)) (hw:Yi o (yielded ops a.tmps)=Xc) (hS:S k=Xb) (h:WLaxD I P ops S Q rest (k+1) F (a.put o.dst (Xj (Xa p)))):WLaxD I P ops S Q (o :: rest) k F a:=laxF_nilc x p ho hx hw hS h
theorem laxD_nil (h:∀w,I w->F w->Q a w):WLaxD I P ops S Q [] k F a:=laxF_nil h
theorem laxD_val (v:Xq) (hw:Yi o (yielded ops a.tmps)=Xc) (hS:S k=Xb) (h:∀w,I w->(execOp a.eval o).run P w= .ok (.value v) w) (hn:WLaxD I P ops S Q rest (k+1) F (a.put o.dst v)):WLaxD I P ops S Q (o :: rest) k F a:=laxF_val hw hS (fun w hw _=>h w hw) hn
end
theorem pgc_set (q:List Int) (i:Nat) (z:Int):pgc (q.set i z)=(pgc q).set i (Xe Xg z):=by
 unfold pgc;rw[List.map_set]
theorem pgc_at {q:List Int} {i:Nat} {z:Int} (h:q[i]? =Xa z):(pgc q)[i]? =Xa (Xe Xg z):=by
 unfold pgc;rw[Ya,h];rfl
theorem Tryz.sizePg:(Tryz.prog.info? 91).map (·.size)=Xa 8:=by kernel_rfl
theorem mem_set_len {ps:List (List Int)} {i:Nat} {l:List Int} (h:∀p∈ps,p.length=8) (hl:l.length=8):∀p∈ps.set i l,p.length=8:=fun p hp=>by
 rcases Xy hp with h1 | h1
 ·exact h p h1
 rw[h1];exact hl
theorem wpList_store_page {w:Xn} {ops:Array Oper} {rest:List Oper} {o:Oper} {a:Act} {Q:Exit->Act->Xn->Prop} (hgd:o.guard=Xb) (p x:Operand) (ho:o.op= .store 91 p x)
  (base:Nat) (v:Xq) (ps:List (List Int)) (hown:OwnPages base w v ps) (g i:Nat) (hg:v.ownBlock=Xa g) (hi:i<ps.length) (l:List Int) (hl:l.length=8)
  (ad:Addr) (hp:a.eval p= Xj (Xa ad)) (had:ad=⟨g,i*8,Xb⟩) (hx:a.eval x= Xi (pgc l).toArray)
  (h:∀w',OwnPages base w' v (ps.set i l)->w.grownBy w' (Xa g)->w'.heap.size=w.heap.size->wpList Tryz.prog ops Q rest (a.put o.dst undef) w'):wpList Tryz.prog ops Q (o :: rest) a w:=by
 refine wpList_store_row hgd p x 91 ho 8 (by kernel_rfl) base v ps.length _ hown.1 g i hg hi (pgc l) (by rw[pgc_len,hl]) (pgc_one l) ad hp had hx fun w' h1 h2 h3=>?_
 rw[splice_set l (by rw[pgc_len,hl]) ps i (fun b hb=>by rw[pgc_len,hown.2.1 b hb]) hi]at h1
 refine h w' ⟨by rw[Xz];exact h1,mem_set_len hown.2.1 hl,by rw[Xz];exact hown.2.2⟩ h2 h3
theorem wrongL_zero {n:Nat} {qs:List (Int × List Int)} (h:wrongL n qs=0):n<=80/\qs.length<=400/\∀q∈qs,∃i:Nat,q.1=(i:Int)/\i<n:=by
 unfold wrongL at h
 by_cases h1:80<n
 ·rw[if_pos h1]at h;omega
 rw[if_neg h1]at h
 by_cases h2:400<qs.length
 ·rw[if_pos h2]at h;omega
 rw[if_neg h2]at h
 by_cases h3:(qs.any fun q=>!dkInB q.1 n)=Xc
 ·rw[if_pos h3]at h;omega
 refine⟨by omega,by omega,fun q hq=>?_⟩
 have h4:dkInB q.1 n=Xc:=by
  cases hb:dkInB q.1 n with
  | true=>rfl
  | false=>exact absurd (List.any_eq_true.2 ⟨q,hq,by simp[hb]⟩) h3
 unfold dkInB at h4
 simp at h4
 obtain⟨i,hi⟩:=Int.eq_ofNat_of_zero_le h4.1;exact⟨i,hi,by omega⟩
theorem nilDisk (base:Nat) (w:Xn):NewDisk base w (Xi #[O Xb 0 0,O Xb 0 0]) [] []:=
 ⟨_,_,rfl,⟨⟨Xb,0,rfl,fun _=>rfl,fun x hx=>by cases hx⟩,by simp,by simp⟩,⟨⟨Xb,0,rfl,fun _=>rfl,fun x hx=>by cases hx⟩,by simp,by simp⟩,fresh_nil _,fresh_nil _⟩
theorem nilPuts (w:Xn):PutsAt w (O Xb 0 0) []:=⟨⟨Xb,0,rfl,fun _=>rfl,fun x hx=>by cases hx⟩,by simp,by simp⟩
def newErr (n:Int):Int:=if 0<=n/\n<=80 then 0 else 4
def newD (n:Int):List (List Int):=if 0<=n/\n<=80 then Xr n.toNat zero8 else []
theorem made_pages (n:Nat):(madeCells #[Xe Xg 0,Xe Xg 0,Xe Xg 0,Xe Xg 0,Xe Xg 0,Xe Xg 0,Xe Xg 0,Xe Xg 0] (n*8)).toList=(Xr n zero8).flatMap pgc:=by
 have hl:((Xr n zero8).flatMap pgc).length=n*8:=by rw[flatMap_len (k:=8) _ (fun a ha=>by rw[Xv ha];rfl)];simp
 apply Yb
 intro j
 rcases Nat.lt_or_ge j (n*8)with h | h
 ·have hj:j=j / 8*8+j % 8:=by omega
  have h8:j % 8<8:=Nat.mod_lt _ (by decide)
  have hq:j / 8<n:=by omega
  have hz:(pgc zero8)[j % 8]? =Xa (Xe Xg 0):=by
   generalize j % 8=k at h8
   match k,h8 with
   | 0,_=>rfl
   | 1,_=>rfl
   | 2,_=>rfl
   | 3,_=>rfl
   | 4,_=>rfl
   | 5,_=>rfl
   | 6,_=>rfl
   | 7,_=>rfl
  have h1:=flatMap_elem (enc:=pgc) (k:=8) (Xr n zero8) (j / 8) zero8 (fun a ha=>by rw[Xv ha];rfl) (by simp[hq]) (j % 8) _ hz
  rw[<-hj]at h1;rw[h1];have:(#[Value.int .u8 0,Xe Xg 0,Xe Xg 0,Xe Xg 0,Xe Xg 0,Xe Xg 0,Xe Xg 0,Xe Xg 0]:Array Xq)[j % 8]! = Xe Xg 0:=by
   generalize j % 8=k at h8
   match k,h8 with
   | 0,_=>rfl
   | 1,_=>rfl
   | 2,_=>rfl
   | 3,_=>rfl
   | 4,_=>rfl
   | 5,_=>rfl
   | 6,_=>rfl
   | 7,_=>rfl
  simp[madeCells,h]
  simpa using this
 rw[gN (by simp[madeCells];exact h),gN (by rw[hl];exact h)]
theorem wpList_make_pages {w:Xn} {ops:Array Oper} {rest:List Oper} {o:Oper} {a:Act} {Q:Exit->Act->Xn->Prop} (hgd:o.guard=Xb) (l:Operand) (ho:o.op= .makeSlice 32 l l) (n:Nat) (hl:a.eval l= Xe Xf n) (hn:n<=80)
  (h:∀C,OwnPages w.heap.size (w.alloc (Xk C 91)) (O (Xa ⟨w.heap.size,0,Xb⟩) n n) (Xr n zero8)->wpList Tryz.prog ops Q rest (a.put o.dst (O (Xa ⟨w.heap.size,0,Xb⟩) n n)) (w.alloc (Xk C 91))):wpList Tryz.prog ops Q (o :: rest) a w:=by
 refine wpList_plain hgd fun K hK=>?_
 obtain⟨i0,hi,hz0,hz1,hz2⟩:=info_parts Tryz.infoPage;have hrun:=run_make (P:=Tryz.prog) w 32 91 i0 _ Tryz.underlying32 hi hz0 .i64 .i64 n n (by omega) (Int.le_refl _) (by rw[hz2];omega) (by omega)
 rw[hz1,tN]at hrun;unfold Oper.wp;simp only[execOp,ho,hl,Xs,hrun,Result.andThen,Xw,Oper.upon];refine hK _ _ (h _ ⟨⟨?_,.inr ⟨w.heap.size,n,madeCells #[Xe Xg 0,Xe Xg 0,Xe Xg 0,Xe Xg 0,Xe Xg 0,Xe Xg 0,Xe Xg 0,Xe Xg 0] (n*8),by rw[lR],nR _,?_,?_,?_,?_,?_⟩⟩,fun p hp=>by rw[Xv hp];rfl,by rw[lR];omega⟩)
 ·rw[flatMap_len (k:=8) _ (fun a ha=>by rw[Xv ha];rfl)]
 ·show(w.heap.push _)[w.heap.size]? =_
  simp[Value.cells]
 ·rw[lR];exact nR _
 ·exact maxLen_of (by omega)
 ·rw[size_madeCells]
 rw[lR]
 show(madeCells #[Xe Xg 0,Xe Xg 0,Xe Xg 0,Xe Xg 0,Xe Xg 0,Xe Xg 0,Xe Xg 0,Xe Xg 0] (n*8)).toList.take (n*8)=_
 rw[Yl (by simp[madeCells]),made_pages]
theorem new_any (n:Int) (w:Xn):
  Xp Tryz.prog 17 #[Xe Xf n] w fun e w'=>∃d',e= Xl (Xm #[d',Xe Xf (newErr n)])/\NewDisk w.heap.size w' d' (newD n) []/\Grew w w':=by
 by_cases h:0<=n/\n<=80
 ·have HE:Xo (newErr n=0):=show newErr n=0 by unfold newErr;rw[if_pos h]
  have HD:Xo (newD n=Xr n.toNat zero8):=show newD n=_ by unfold newD;rw[if_pos h]
  obtain⟨k,rfl⟩:=Int.eq_ofNat_of_zero_le h.1;have h0:¬(k:Int)<0:=by omega
  have h1:¬(80:Int)< (k:Int):=by omega
  have hk:k<=80:=by omega
  have HG0:Xo (Grew w (w.alloc (Xk #[O Xb 0 0,O Xb 0 0] 35))):=grew_alloc _ _;rw[HE.out]
  go_enter Tryz.func17,Tryz.ntmps17
  go_wp2_with (refine wpList_make_pages rfl (.tmp 11) rfl k rfl hk ?_;intro C ow;have OW:Xo (OwnPages (w.alloc (Xk #[O Xb 0 0,O Xb 0 0] 35)).heap.size ((w.alloc (Xk #[O Xb 0 0,O Xb 0 0] 35)).alloc (Xk C 91)) (O (Xa ⟨(w.alloc (Xk #[O Xb 0 0,O Xb 0 0] 35)).heap.size,0,Xb⟩) k k) (Xr k zero8)):=ow;clear ow)
  refine bodyPost_ret (v:= Xm #[Xi #[O (Xa ⟨w.heap.size+1,0,Xb⟩) k k,O Xb 0 0],Xe Xf 0]) (by simp[results,Tryz.results17,go_sem, *]) rfl ⟨_,rfl,?_,?_⟩
  ·rw[HD.out];have ho:=OW.out;rw[World.size_alloc]at ho;exact⟨_,_,rfl,OwnPages.at (base:=w.heap.size+1) ⟨ownsRow_same ho.1 (fun k hk=>alloc2_same w _ _ _ k hk),ho.2⟩,nilPuts _,fun x n c e=>by cases e;simp,fresh_nil _⟩
  exact(grew_alloc _ _).trans (grew_alloc _ _)
 have HE:Xo (newErr n=4):=show newErr n=4 by unfold newErr;rw[if_neg h]
 have HD:Xo (newD n=[]):=show newD n=_ by unfold newD;rw[if_neg h]
 rw[HE.out,HD.out]
 by_cases h0:n<0
 ·clear h
  go_enter Tryz.func17,Tryz.ntmps17
  go_wp2;refine bodyPost_ret (v:= Xm #[Xi #[O Xb 0 0,O Xb 0 0],Xe Xf 4]) (by simp[results,Tryz.results17,go_sem]) rfl ⟨_,rfl,nilDisk _ _,?_⟩
  exact grew_alloc _ _
 have h1:(80:Int)<n:=by omega
 clear h
 go_enter Tryz.func17,Tryz.ntmps17
 go_wp2;refine bodyPost_ret (v:= Xm #[Xi #[O Xb 0 0,O Xb 0 0],Xe Xf 4]) (by simp[results,Tryz.results17,go_sem]) rfl ⟨_,rfl,nilDisk _ _,?_⟩
 exact grew_alloc _ _
end
section
open Go.RowKit Go.Shelf
section
attribute [local go_sem] Oper.semAt_some
structure P9 where
  (i m b0 b1 b2 b3 b4 b5 b6 b7 : Int)
def P9.q (x : P9) : Int × List Int := (x.m, [x.b0, x.b1, x.b2, x.b3, x.b4, x.b5, x.b6, x.b7])
def P9.encs (x : P9) : Array Value := #[.int .i64 x.i, .agg #[.int .i64 x.m, .int .u8 x.b0, .int .u8 x.b1, .int .u8 x.b2, .int .u8 x.b3, .int .u8 x.b4, .int .u8 x.b5, .int .u8 x.b6, .int .u8 x.b7]]
theorem drop_rev {α : Type} (l : List α) (k : Nat) (q : α) (h : l[k]? = some q) : (l.drop k).reverse = (l.drop (k + 1)).reverse ++ [q] := by
  obtain ⟨hlt, rfl⟩ := List.getElem?_eq_some_iff.1 h
  rw [List.drop_eq_getElem_cons hlt, List.reverse_cons]
theorem drop_pre {α : Type} (l : List α) (k : Nat) : (l.drop k).reverse <+: l.reverse := by
  refine ⟨(l.take k).reverse, ?_⟩
  rw [<- Yr, List.take_append_drop]
theorem back1_in (F : Fence) (n : Nat) (hF : F.fn 234) (hro : F.round = Xb) (hn : 1 <= n) (l Bs n₀ : Nat) (w : Xn) (a : Option Addr) (c : Nat) (qs : List (Int × List Int)) (hr : PutRows w a qs) (hbig : qs.length <= 9223372036854775807) (hw : w.heap.size <= n₀) (hBn : Bs < n₀) (J Jx : List P9 -> Xn -> Prop)
    (hY : ∀ pre x W, J pre W -> pre.length < qs.length -> YieldAt F (n - 1) Tryz.prog l (P9.encs x) W fun e W' =>
      (e = Xl (Xh Xc) /\ J (pre ++ [x]) W' /\ Below n₀ W W') \/ (e = Xl (Xh Xd) /\ Jx (pre ++ [x]) W'))
    (W : World) (hgW : Grew w W) (hBs : W.cell? ⟨Bs, 0, none⟩ = some (.slice a qs.length c)) (h0 : J [] W) :
    CallsIn F n Tryz.prog 234 #[.func (.yield l) #[] #[], Xj (Xa ⟨Bs, 0, Xb⟩)] W fun e W' => (∃ v, e = Xl v) /\
      ((∃ ys, ys.map P9.q = qs.reverse /\ J ys W') \/ (∃ pre, pre.map P9.q <+: qs.reverse /\ Jx pre W')) := by
  have HR : Hid (PutRows w a qs) := hr
  have HY : Hid _ := hY
  obtain ⟨nq, HN⟩ : ∃ nq, Hid (qs.length = nq) := ⟨_, rfl⟩
  rw [HN.out] at hbig hBs
  have HBS : Hid (W.cell? ⟨Bs, 0, none⟩ = some (.slice a nq c)) := hBs
  have HGW : Hid (Grew w W) := hgW
  clear hr hY hgW
  refine callsIn_of_wp Tryz.func234 rfl hF ?_ hro
  simp only [Tryz.ntmps234, List.size_toArray, List.length_cons, List.length_nil, Nat.reduceAdd, Nat.reduceSub, Array.replicate_succ, Array.replicate_zero, List.push_toArray, List.append_toArray, List.nil_append, List.cons_append]
  gi_wp2
  clear hBs
  gi_loopw [3] (fun p wr => ∃ (r : Nat) (pre : List P9), r <= nq /\ p = Xe Xf ((r : Int) - 1) /\ Xo (pre.map P9.q = (qs.drop r).reverse) /\ Xo (J pre wr) /\ Xo (Below n₀ W wr))
    (fun p _ => ((intOf p) + 1).toNat)
  case atStart => exact ⟨nq, [], Nat.le_refl _, by go_num, (show Hid _ from by rw [List.drop_of_length_le (by rw [HN.out]; exact Nat.le_refl _)]; rfl), h0, Below.refl _ _⟩
  case round =>
    obtain ⟨r, pre, hrn, rfl, HP, HJ, HB⟩ := hrel
    cases r with
    | zero =>
      gi_wp2
      go_end0
      exact ⟨⟨_, rfl⟩, .inl ⟨pre, by rw [HP.out]; rfl, HJ.out⟩⟩
    | succ k =>
      obtain ⟨q, HQ⟩ : ∃ q, Hid (qs[k]? = some q) := ⟨_, List.getElem?_eq_getElem (by rw [HN.out]; omega)⟩
      obtain ⟨x, m, b0, b1, b2, b3, b4, b5, b6, b7, rfl, rfl, hl⟩ := HR.out k q HQ.out
      obtain ⟨d0, d1, d2, d3, d4, d5, d6, d7, d8⟩ := hl wr (Below.trans HGW.out (HB.out.mono hw))
      have hbs : wr.cell? ⟨Bs, 0, none⟩ = some (.slice (some x) nq c) := (HB.out.cell (p := ⟨Bs, 0, none⟩) hBn).trans HBS.out
      have hlen : pre.length < qs.length := by
        have := congrArg List.length HP.out
        rw [List.length_map, List.length_reverse, List.length_drop] at this
        have := HN.out
        omega
      obtain ⟨fn, tmps, assign, body, hy, hR⟩ := HY.out pre ⟨k, m, b0, b1, b2, b3, b4, b5, b6, b7⟩ wr HJ.out hlen
      simp only [P9.encs] at hy
      have hk1 : ((k + 1 : Nat) : Int) - 1 = (k : Int) := by omega
      have hkn : (k : Int) < (nq : Int) := by omega
      rw [hk1]
      clear hl
      gi_wp2
      refine hR.mono ?_
      rintro e W3 (⟨rfl, hJ3, hk3⟩ | ⟨rfl, hJx3⟩)
      · gi_wp2
        go_roundw
        case rel => exact ⟨k, _, by omega, by go_num, (show Hid _ from by rw [List.map_append, HP.out, drop_rev qs k _ HQ.out]; rfl), hJ3, (show Hid _ from HB.out.trans hk3)⟩
        case measure => simp [intOf]
      · gi_wp2
        refine bodyPost_ret (results_none rfl _ _ _) rfl ?_
        refine ⟨⟨_, rfl⟩, .inr ⟨_, ?_, hJx3⟩⟩
        rw [List.map_append, HP.out]
        have := drop_pre qs k
        rw [drop_rev qs k _ HQ.out] at this
        exact this
theorem back_in (F : Fence) (n : Nat) (hF : F.fn 211) (hro : F.round = none) (a : Option Addr) (len cap : Nat) (w : World) :
    CallsIn F n Tryz.prog 211 #[O a len cap] w fun e w' => e = Xl (.func (.func 234) #[] #[Xj (Xa ⟨w.heap.size, 0, Xb⟩)]) /\ w' = w.alloc (Xk #[O a len cap] 33) := by
  refine callsIn_of_wp Tryz.func211 rfl hF ?_ hro
  simp only [Tryz.ntmps211, List.size_toArray, List.length_cons, List.length_nil, Nat.reduceAdd, Nat.reduceSub, Array.replicate_succ, Array.replicate_zero, List.push_toArray, List.append_toArray, List.nil_append, List.cons_append]
  gi_wp2
  go_ret
  exact ⟨rfl, rfl⟩
theorem back_stops (F : Fence) (n : Nat) (hF : F.fn 234) (hro : F.round = Xb) (hn : 1 <= n) (Bs n₀ : Nat) (w0 : Xn) (a : Option Addr) (c : Nat) (qs : List (Int × List Int)) (hr : PutRows w0 a qs) (hbig : qs.length <= 9223372036854775807) (w : Xn) (hg : Grew w0 w) (hBs : Bs < n₀) (hn₀ : n₀ = w.heap.size)
    (hc : w.cell? ⟨Bs, 0, none⟩ = some (.slice a qs.length c)) :
    SeqStopsK F n Tryz.prog 234 #[.pointer (some ⟨Bs, 0, none⟩)] P9.encs (Below n₀) (fun ys => ys.map P9.q = qs.reverse) (fun pre => pre.map P9.q <+: qs.reverse) qs.length w := fun l J Jx W hW _ _ hY h0 => by
  subst hn₀
  exact back1_in F n hF hro hn l Bs w.heap.size w0 a c qs hr hbig (Below.size hg) hBs J Jx hY W (hg.trans hW) ((hW.cell (p := ⟨Bs, 0, none⟩) hBs).trans hc) h0
end
section
attribute [local go_sem] Oper.semAt_some
theorem box_own {β:Type} (B:Nat) (f:β->List Xq):Own (fun s W=>Box W B (f s)):=fun s X Y row hs hg hrow=>by
 have hlt:=hs.lt;obtain⟨t,h⟩:=hs;refine⟨t,?_⟩;rw[hg.block B hlt (fun e=>?_)]
 ·exact h
 obtain⟨o,ho,hc⟩:=hrow B e.symm;rw[h]at ho;cases ho;cases hc
theorem Box.put {W:Xn} {b D:Nat} {cs:List Xq} {o:Obj} (h:Box W b cs) (o':Obj) (hD:W.heap[D]? =Xa o) (ho:o.isCells=Xd):Box (W.putObj D o') b cs:=
 box_own b (fun _:Unit=>cs) () W _ (Xa D) h (grownBy_putObj' W D o') (fun r e=>by cases e;exact⟨o,hD,ho⟩)
theorem keeps_set {A B:Xn} (h:KeepsOthers A B) (a:Addr) (u:Xq):KeepsOthers A (B.setCell a u):=h.trans (KeepsOthers.setCell _ _ _)
theorem find_none {qs:List (Int × List Int)} {ys:List P9} {m:Int} (h:ys.map P9.q=qs.reverse) (hne:∀x∈ys,x.m≠m):qs.reverse.find? (fun q=>q.1 == m)=Xb:=by
 rw[<-h,Yv];intro q hq;obtain⟨x,hx,rfl⟩:=Xx.1 hq
 simpa [P9.q]using hne x hx
theorem find_some {qs:List (Int × List Int)} {ini:List P9} {x:P9} {m:Int} (h:(ini++ [x]).map P9.q<+:qs.reverse) (hne:∀y∈ini,y.m≠m) (hx:x.m=m):qs.reverse.find? (fun q=>q.1 == m)=Xa x.q:=by
 obtain⟨t,ht⟩:=h;rw[<-ht,List.map_append,Yx,Yy];have h1:(ini.map P9.q).find? (fun q=>q.1 == m)=Xb:=by
  rw[Yv];intro q hq;obtain⟨y,hy,rfl⟩:=Xx.1 hq
  simpa [P9.q]using hne y hy
 rw[h1]
 simp[P9.q,hx]
theorem wrongAtL_zero {n:Nat} {qs:List (Int × List Int)} {m:Int} (h:wrongAtL n qs m=0):wrongL n qs=0/\∃i:Nat,m=(i:Int)/\i<n:=by
 unfold wrongAtL at h
 by_cases h1:wrongL n qs=0
 ·rw[if_pos h1]at h;refine⟨h1,?_⟩
  cases hb:dkInB m n with
  | false=>rw[hb]at h;simp at h
  | true=>
   unfold dkInB at hb
   simp at hb
   obtain⟨i,hi⟩:=Int.eq_ofNat_of_zero_le hb.1;exact⟨i,hi,by omega⟩
 rw[if_neg h1]at h;exact absurd h h1
theorem read_any (d:Xq) (ps:List (List Int)) (qs:List (Int × List Int)) (m:Int) (w:Xn) (hd:DiskAt w d ps qs):
  Xp Tryz.prog 184 #[d,Xe Xf m] w fun e w'=>e= Xl (Xm #[Xi (pgc (readL ps qs m)).toArray,Xe Xf (wrongAtL ps.length qs m)])/\Grew w w':=by
 obtain⟨b,q,rfl,hb,hq⟩:=hd;have HB:Xo (PagesAt w b ps):=hb;have HQ:Xo (PutsAt w q qs):=hq;obtain⟨ab,cb,rfl,hrb⟩:=hb.rows;obtain⟨aq,cq,rfl,hrq⟩:=hq.rows;have HRB:Xo (PageRows w ab ps):=hrb;have HRQ:Xo (PutRows w aq qs):=hrq;clear hb hq hrb hrq;have HL:Xo (readL ps qs m=if wrongAtL ps.length qs m=0 then(match qs.reverse.find? (fun q=>q.1 == m)with | some q=>q.2 | none=>ps.getD m.toNat zero8)else zero8):=rfl
 obtain⟨W0,hW0⟩:∃W0,(((w.alloc (Xk #[O ab ps.length cb,O aq qs.length cq] 35)).alloc (Xk #[Xe Xf m] 3)).alloc (Xk #[Xe Xg 0,Xe Xg 0,Xe Xg 0,Xe Xg 0,Xe Xg 0,Xe Xg 0,Xe Xg 0,Xe Xg 0] 91)).alloc (Xk #[Xe Xf 0] 44)=W0:=⟨_,rfl⟩;have HG0:Xo (Grew w W0):=show Grew w W0 by rw[<-hW0];exact(((grew_alloc _ _).trans (grew_alloc _ _)).trans (grew_alloc _ _)).trans (grew_alloc _ _)
 have X0:Xo (Box W0 w.heap.size [O ab ps.length cb,O aq qs.length cq]):=show Box _ _ _ by rw[<-hW0];exact(((Box.top w [O ab ps.length cb,O aq qs.length cq] _ rfl).alloc _).alloc _).alloc _
 have X1:Xo (Box W0 (w.heap.size+1) [Xe Xf m]):=show Box _ _ _ by rw[<-hW0];exact((Box.top _ [Xe Xf m] _ (by simp)).alloc _).alloc _
 have X2:Xo (Box W0 (w.heap.size+1+1) [Xe Xg 0,Xe Xg 0,Xe Xg 0,Xe Xg 0,Xe Xg 0,Xe Xg 0,Xe Xg 0,Xe Xg 0]):=show Box _ _ _ by rw[<-hW0];exact(Box.top _ [Xe Xg 0,Xe Xg 0,Xe Xg 0,Xe Xg 0,Xe Xg 0,Xe Xg 0,Xe Xg 0,Xe Xg 0] _ (by simp)).alloc _
 have X3:Xo (Box W0 (w.heap.size+1+1+1) [Xe Xf 0]):=show Box _ _ _ by rw[<-hW0];exact Box.top _ [Xe Xf 0] _ (by simp)
 have hcon:=wrongAt_any ab ps.length cb (O aq qs.length cq) qs m W0 (HQ.out.grew HG0.out);have hqbig:qs.length<=9223372036854775807:=by have:=HQ.out.2.2;omega
 obtain⟨r,HW⟩:∃r,Xo (wrongAtL ps.length qs m=r):=⟨_,rfl⟩;rw[HW.out]at hcon HL⊢;obtain⟨nb,HNB⟩:∃nb,Xo (ps.length=nb):=⟨_,rfl⟩;obtain⟨nq,HNQ⟩:∃nq,Xo (qs.length=nq):=⟨_,rfl⟩;rw[HNB.out,HNQ.out]at hcon hW0 X0⊢;have HW0:Xo (_=W0):=hW0;clear hW0
 by_cases hr:r=0
 ·subst hr;rw[if_pos rfl]at HL;refine(callsIn_wide (n:=5)).1 ?_;refine callsIn_of_wp_marks Tryz.func184 rfl trivial ?_ rfl;simp only[Tryz.ntmps184,Yg,Xt,Yn,Nat.reduceAdd,Nat.reduceSub,Yp,Yq,Yz,Ys,Yd,Yc]
  gi_wp2_with (first
   | (
    refine⟨trivial,?_⟩;gi_at_call 210;rw[HW0.out];refine(callsIn_wide.2 hcon).mono ?_;rintro e W1 ⟨rfl,hg1⟩;have HG1:Xo (Grew W0 W1):=hg1;have e0:=(X0.out.grew hg1).c 0 rfl;have e1:=(X0.out.grew hg1).c 1 rfl)
   | (
    refine⟨trivial,?_⟩;gi_at_call 211;refine(back_in Fence.wide _ trivial rfl _ _ _ _).mono ?_;rintro e W2 ⟨rfl,hW2⟩;have HW2:Xo (W2=W1.alloc (Xk #[O aq nq cq] 33)):=hW2;clear hW2))
  have HG2:Xo (Grew w W2):=show Grew w W2 by rw[HW2.out];exact(HG0.out.trans HG1.out).trans (grew_alloc _ _)
  have HGW2:Xo (Grew W0 W2):=show Grew W0 W2 by rw[HW2.out];exact HG1.out.trans (grew_alloc _ _)
  have HSZ:Xo (w.heap.size+4<=W1.heap.size/\W2.heap.size=W1.heap.size+1):=show _/\_ from⟨by have h1:=bS HG1.out;have h2:=X3.out.lt;omega,by rw[HW2.out];simp⟩
  have bS:Box W2 W1.heap.size [O aq nq cq]:=by rw[HW2.out];exact Box.top _ [O aq nq cq] _ rfl
  have HC:=bS.c 0 rfl;obtain⟨_,i,hmi,hib⟩:=wrongAtL_zero HW.out;have HI:Xo (m=(i:Int)/\i<ps.length):=⟨hmi,hib⟩;clear e0 e1 hcon hg1 hmi hib bS;refine wpIn_rangeFunc_ownH rfl (by decide) (gf:=234) (lb:=#[Xj (Xa ⟨W1.heap.size,0,Xb⟩)]) rfl trivial (enters_of Tryz.func234 (by kernel_rfl) rfl)
   (back_stops Fence.wide 4 trivial rfl (by decide) W1.heap.size W2.heap.size w aq cq qs HRQ.out hqbig W2 HG2.out (by have:=HSZ.out.2;omega) rfl (by rw[HNQ.out];exact HC)) belowK_t (belowK_b (nR _)) (bR _ _) (fun _=>rfl)
   (fun pre W=>(∀x∈pre,x.m≠m)/\Below W2.heap.size W2 W)
   (fun c pre W=>(c= .ret/\∃ini last,pre=ini++ [last]/\(∀x∈ini,x.m≠m)/\last.m=m/\Box W (w.heap.size+1+1) [Xe Xg last.b0,Xe Xg last.b1,Xe Xg last.b2,Xe Xg last.b3,Xe Xg last.b4,Xe Xg last.b5,Xe Xg last.b6,Xe Xg last.b7]/\Box W (w.heap.size+1+1+1) [Xe Xf 0])/\Below w.heap.size w W)
   (OwnFrom.and (fun s X Y row hs hg hr=>hs) (ownFrom_below (nR _) (nR _)))
   (fun c=>OwnFrom.and (Own.from (fun s X Y row hs hg hr=>by
    obtain⟨hc,ini,last,e1,e2,e3,e4,e5⟩:=hs;exact⟨hc,ini,last,e1,e2,e3,box_own _ (fun _:Unit=>_) () X Y row e4 hg hr,box_own _ (fun _:Unit=>_) () X Y row e5 hg hr⟩) _) (ownFrom_below (nR _) (bS HG2.out)))
   ⟨by simp,bR _ _⟩
   (fun x a' W=>∃Bx,W2.heap.size<=Bx/\Box W Bx [Xe Xf x.m,Xe Xg x.b0,Xe Xg x.b1,Xe Xg x.b2,Xe Xg x.b3,Xe Xg x.b4,Xe Xg x.b5,Xe Xg x.b6,Xe Xg x.b7]/\
    a'={ tmps:=#[Xi #[O ab nb cb,O aq nq cq],Xe Xf m,Xj (Xa ⟨w.heap.size,0,Xb⟩),Xj (Xa ⟨w.heap.size+1,0,Xb⟩),Xj (Xa ⟨w.heap.size+1+1,0,Xb⟩),Xj (Xa ⟨w.heap.size+1+1+1,0,Xb⟩),Xe Xf 0,undef,Xj (Xa ⟨Bx,0,Xb⟩),
     Xi #[O ab nb cb,O aq nq cq],Xe Xf m,Xe Xf 0,Xe Xf 0,Xh Xd,undef,undef,Xj (Xa ⟨w.heap.size,1,Xb⟩),O aq nq cq,.func (.func 234) #[] #[Xj (Xa ⟨W1.heap.size,0,Xb⟩)],Xe Xf x.i,
     Xi #[Xe Xf x.m,Xe Xg x.b0,Xe Xg x.b1,Xe Xg x.b2,Xe Xg x.b3,Xe Xg x.b4,Xe Xg x.b5,Xe Xg x.b6,Xe Xg x.b7],undef,undef,undef,undef,undef,undef,undef,undef,undef,undef,undef],defers:=[] })
   (fun x a' _ X Y row hs hg hr=>by obtain⟨Bx,h1,h2,h3⟩:=hs;exact⟨Bx,h1,box_own Bx (fun _:Unit=>_) () X Y row h2 hg (fun r e=>(hr r e).2),h3⟩)
   ?assign ?body ?done ?stop
  case assign=>
   rintro l pre x W K ⟨hp,hB⟩ hK;simp only[P9.encs]
   gi_wp2
   exact hK _ _ ((KeepsOthers.alloc _ _).from _) ((bR _ W).alloc hB.size _) ⟨hp,hB.alloc hB.size _⟩ ⟨W.heap.size,hB.size,Box.top W [Xe Xf x.m,Xe Xg x.b0,Xe Xg x.b1,Xe Xg x.b2,Xe Xg x.b3,Xe Xg x.b4,Xe Xg x.b5,Xe Xg x.b6,Xe Xg x.b7] _ rfl,rfl⟩
  case body=>
   rintro l pre x a' W hl ⟨rr,hrr⟩ ⟨hp,hB⟩ ⟨Bx,hBx,bX,rfl⟩ hlt;have Z1:=(X1.out.grew HGW2.out).below hB ((X1.out.grew HGW2.out).lt);have Z2:=(X2.out.grew HGW2.out).below hB ((X2.out.grew HGW2.out).lt);have Z3:=(X3.out.grew HGW2.out).below hB ((X3.out.grew HGW2.out).lt);have HZ2:Xo (Box W _ _):=Z2;have HZ3:Xo (Box W _ _):=Z3;have HBW:Xo (Below W2.heap.size W2 W):=hB;obtain⟨c0,c1,c2,c3,c4,c5,c6,c7⟩:=Z2.c8;have f0:=Z2.f;have c8:=Z3.c 0 rfl;have f1:=Z3.f 0;have cm:=Z1.c 0 rfl;have x0:=bX.c 0 rfl;have x1:=bX.c 1 rfl;have x2:=bX.c 2 rfl;have x3:=bX.c 3 rfl;have x4:=bX.c 4 rfl;have x5:=bX.c 5 rfl;have x6:=bX.c 6 rfl;have x7:=bX.c 7 rfl;have x8:=bX.c 8 rfl;have HP:Xo (∀x∈pre,x.m≠m):=hp;clear hp Z1 Z2 Z3 bX hB hrr
   by_cases hx:x.m=m
   ·have hxb:(x.m == m)=Xc:=by simpa using hx
    gi_wp2
    refine⟨KeepsOthers.from ?_ _,⟨rfl,pre,x,rfl,HP.out,hx,?_,?_⟩,?_⟩
    ·iterate 9 (refine keeps_set ?_ _ _)
     exact KeepsOthers.refl _
    ·exact((((((((HZ2.out.set 0 _).set 1 _).set 2 _).set 3 _).set 4 _).set 5 _).set 6 _).set 7 _).other (by simp) _
    ·refine Box.set (cs:=[Xe Xf 0]) ?_ 0 _;iterate 8 (refine Box.other ?_ (by simp) _)
     exact HZ3.out
    iterate 9 (refine grew_set ?_ (by simp;omega) _)
    exact Below.trans HG2.out (HBW.out.mono (bS HG2.out))
   have hxb:(x.m == m)=Xd:=by simpa using hx
   gi_wp2
   exact⟨KeepsFrom.refl _ _,bR _ _,fun y hy=>(Ye.1 hy).elim (HP.out y) (fun e=>by simp at e;subst e;exact hx),HBW.out⟩
  case done=>
   rintro D ys W hD hS ⟨hp,hB⟩ hK;have Z0:=(X0.out.grew HGW2.out).below hB ((X0.out.grew HGW2.out).lt);have Z1:=(X1.out.grew HGW2.out).below hB ((X1.out.grew HGW2.out).lt);have Z2:=(X2.out.grew HGW2.out).below hB ((X2.out.grew HGW2.out).lt);have Z3:=(X3.out.grew HGW2.out).below hB ((X3.out.grew HGW2.out).lt);have HZ2:Xo (Box W _ _):=Z2;have HZ3:Xo (Box W _ _):=Z3;have HGW:Xo (Grew w W):=show Grew w W from Below.trans HG2.out (hB.mono (bS HG2.out))
   have HF:=find_none hS hp;obtain⟨rfl,hib⟩:=HI.out;obtain⟨pg,hpg⟩:∃pg,ps[i]? =Xa pg:=⟨_,gE hib⟩;obtain⟨xa,b0,b1,b2,b3,b4,b5,b6,b7,rfl,rfl,hl⟩:=HRB.out i pg hpg;obtain⟨d0,d1,d2,d3,d4,d5,d6,d7⟩:=hl W HGW.out;have hib':(i:Int)< (nb:Int):=by rw[<-HNB.out];omega
   rw[HF,show ps.getD (Int.toNat (i:Int)) zero8=[b0,b1,b2,b3,b4,b5,b6,b7]from by simp[hpg]]at HL
   have z0:=Z0.c 0 rfl;have z1:=Z1.c 0 rfl;obtain⟨c0,c1,c2,c3,c4,c5,c6,c7⟩:=Z2.c8;have f0:=Z2.f;have c8:=Z3.c 0 rfl;have f1:=Z3.f 0;have HKD:Xo (W.heap[D]? =Xa (.deferred (Xa []))):=hK;clear hl hpg hib HF hS hp Z0 Z1 Z2 Z3 hK hB
   gi_wp2
   clear c0 c1 c2 c3 c4 c5 c6 c7 c8 f0 f1 z0 z1 d0 d1 d2 d3 d4 d5 d6 d7;have hK':=(show KeepsOthers W _ from keeps_set (keeps_set (keeps_set (keeps_set (keeps_set (keeps_set (keeps_set (keeps_set (keeps_set (KeepsOthers.refl W) ⟨w.heap.size+1+1,0,Xb⟩ (Xe Xg b0)) ⟨w.heap.size+1+1,1,Xb⟩ (Xe Xg b1)) ⟨w.heap.size+1+1,2,Xb⟩ (Xe Xg b2)) ⟨w.heap.size+1+1,3,Xb⟩ (Xe Xg b3)) ⟨w.heap.size+1+1,4,Xb⟩ (Xe Xg b4)) ⟨w.heap.size+1+1,5,Xb⟩ (Xe Xg b5)) ⟨w.heap.size+1+1,6,Xb⟩ (Xe Xg b6)) ⟨w.heap.size+1+1,7,Xb⟩ (Xe Xg b7)) ⟨w.heap.size+1+1+1,0,Xb⟩ (Xe Xf 0)).same D _ HKD.out rfl
   refine⟨by simp,.inl ⟨_,_,rfl,run_takeDeferred hK',?_⟩⟩
   have B2:=(((((((((HZ2.out.set 0 (Xe Xg b0)).set 1 (Xe Xg b1)).set 2 (Xe Xg b2)).set 3 (Xe Xg b3)).set 4 (Xe Xg b4)).set 5 (Xe Xg b5)).set 6 (Xe Xg b6)).set 7 (Xe Xg b7)).other (a:=⟨w.heap.size+1+1+1,0,Xb⟩) (by simp) (Xe Xf 0)).put (.deferred Xb) hK' rfl
   have B3:=((((((((((HZ3.out.other (a:=⟨w.heap.size+1+1,0,Xb⟩) (by simp) (Xe Xg b0)).other (a:=⟨w.heap.size+1+1,1,Xb⟩) (by simp) (Xe Xg b1)).other (a:=⟨w.heap.size+1+1,2,Xb⟩) (by simp) (Xe Xg b2)).other (a:=⟨w.heap.size+1+1,3,Xb⟩) (by simp) (Xe Xg b3)).other (a:=⟨w.heap.size+1+1,4,Xb⟩) (by simp) (Xe Xg b4)).other (a:=⟨w.heap.size+1+1,5,Xb⟩) (by simp) (Xe Xg b5)).other (a:=⟨w.heap.size+1+1,6,Xb⟩) (by simp) (Xe Xg b6)).other (a:=⟨w.heap.size+1+1,7,Xb⟩) (by simp) (Xe Xg b7)).set 0 (Xe Xf 0)).put (.deferred Xb) hK' rfl)
   obtain⟨r0,r1,r2,r3,r4,r5,r6,r7⟩:=B2.c8;have r8:=B3.c 0 rfl;refine⟨Xm #[Xi #[Xe Xg b0,Xe Xg b1,Xe Xg b2,Xe Xg b3,Xe Xg b4,Xe Xg b5,Xe Xg b6,Xe Xg b7],Xe Xf 0],by simp[results,Tryz.f184,go_sem,r0,r1,r2,r3,r4,r5,r6,r7,r8],?_,?_⟩
   ·rw[HL.out];rfl
   refine Below.trans ?_ (belowK_b (w:=W2) (n₀:=w.heap.size) (bS HG2.out) _ D _ _ hD hK' rfl rfl);iterate 9 (refine grew_set ?_ (by simp;omega) _)
   exact HGW.out
  rintro D c pre W hD hS ⟨⟨rfl,ini,last,e1,e2,e3,b2,b3⟩,hB⟩ hK
  gi_wp2
  have B2:=b2.put (.deferred Xb) hK rfl;have B3:=b3.put (.deferred Xb) hK rfl;obtain⟨r0,r1,r2,r3,r4,r5,r6,r7⟩:=B2.c8;have r8:=B3.c 0 rfl;refine⟨by simp,.inl ⟨_,_,rfl,run_takeDeferred hK,?_⟩⟩
  refine⟨Xm #[Xi #[Xe Xg last.b0,Xe Xg last.b1,Xe Xg last.b2,Xe Xg last.b3,Xe Xg last.b4,Xe Xg last.b5,Xe Xg last.b6,Xe Xg last.b7],Xe Xf 0],by simp[results,Tryz.f184,go_sem,r0,r1,r2,r3,r4,r5,r6,r7,r8],?_,?_⟩
  ·subst e1;rw[HL.out,find_some hS e2 e3];rfl
  exact Below.trans hB (belowK_b (w:=W2) (n₀:=w.heap.size) (bS HG2.out) W D _ _ hD hK rfl rfl)
 have hne:(r != 0)=Xc:=by simpa using hr
 rw[if_neg hr]at HL;rw[HL.out];refine(callsIn_wide (n:=5)).1 ?_;refine callsIn_of_wp_marks Tryz.func184 rfl trivial ?_ rfl;simp only[Tryz.ntmps184,Yg,Xt,Yn,Nat.reduceAdd,Nat.reduceSub,Yp,Yq,Yz,Ys,Yd,Yc]
 gi_wp2_with (
  refine⟨trivial,?_⟩;gi_at_call 210;rw[HW0.out];refine(callsIn_wide.2 hcon).mono ?_;rintro e W1 ⟨rfl,hg1⟩;have Y2:=dD (X2.out.grew hg1);have Y3:=dD (X3.out.grew hg1);obtain⟨c0,c1,c2,c3,c4,c5,c6,c7⟩:=Y2.out.c8;have f0:=Y2.out.f;have c8:=Y3.out.c 0 rfl;have f1:=Y3.out.f 0)
 refine⟨Xm #[Xi #[Xe Xg 0,Xe Xg 0,Xe Xg 0,Xe Xg 0,Xe Xg 0,Xe Xg 0,Xe Xg 0,Xe Xg 0],Xe Xf r],by simp[results,Tryz.f184,go_sem, *],rfl,?_⟩
 have HG1:Grew w W1:=HG0.out.trans hg1;iterate 9 (refine grew_set ?_ (by simp;omega) _)
 exact HG1
end
end
section
open Go.RowKit
theorem OwnPuts.block {base:Nat} {w:Xn} {g n cap:Nat} {qs:List (Int × List Int)} (h:OwnPuts base w (O (Xa ⟨g,0,Xb⟩) n cap) qs):
  n=qs.length/\base<=g/\qs.length<=cap/\cap<=maxLen/\∃cur,w.heap[g]? =Xa (Xk cur 117 (0,0))/\cur.size=cap*9/\cur.toList.take (qs.length*9)=qs.flatMap ptc:=by
 rcases h.1.2 with⟨h0,_⟩ | ⟨g',cap',cur,h0,h1,h2,h3,h4,h5,h6⟩
 ·cases h0
 cases h0;exact⟨rfl,h1,h3,h4,cur,h2,h5,h6⟩
theorem OwnPuts.mk {base:Nat} {w:Xn} {g cap:Nat} {qs:List (Int × List Int)} {cur:Array Xq} (hb:base<=g) (hh:w.heap[g]? =Xa (Xk cur 117 (0,0))) (hn:qs.length<=cap) (hm:cap<=maxLen) (hs:cur.size=cap*9) (ht:cur.toList.take (qs.length*9)=qs.flatMap ptc)
  (h8:∀q∈qs,q.2.length=8) (hbytes:qs.length*16<=140737488355328):OwnPuts base w (O (Xa ⟨g,0,Xb⟩) qs.length cap) qs:=
 ⟨⟨flatMap_len qs fun q hq=>by rw[ptc_len,h8 q hq],.inr ⟨g,cap,cur,rfl,hb,hh,hn,hm,hs,ht⟩⟩,h8,hbytes⟩
theorem wpList_append_shift {w:Xn} {ops:Array Oper} {rest:List Oper} {o:Oper} {a:Act} {Q:Exit->Act->Xn->Prop} (hgd:o.guard=Xb) (s x:Operand) (ho:o.op= .call { callee:= .builtin .append,args:=#[s,x],argTypes:=#[33,33] })
  (base g cap n:Nat) (q0:Int × List Int) (r:List (Int × List Int)) (hown:OwnPuts base w (O (Xa ⟨g,0,Xb⟩) n cap) (q0 :: r)) (hs:a.eval s= O (Xa ⟨g,0,Xb⟩) 0 cap) (c':Nat) (hx:a.eval x= O (Xa ⟨g,9,Xb⟩) r.length c')
  (h:∀w',OwnPuts base w' (O (Xa ⟨g,0,Xb⟩) r.length cap) r->w.grownBy w' (Xa g)->w'.heap.size=w.heap.size->wpList Tryz.prog ops Q rest (a.put o.dst (O (Xa ⟨g,0,Xb⟩) r.length cap)) w'):wpList Tryz.prog ops Q (o :: rest) a w:=by
 refine wpList_plain hgd fun K hK=>?_
 obtain⟨hn,hb,hnc,hm,cur,hh,hsz,ht⟩:=hown.block;obtain⟨i0,hi,hz0,hz1,hz2⟩:=info_parts Tryz.infoPut;have h8:=hown.2.1;have hl:(r.flatMap ptc).length=r.length*9:=flatMap_len r fun q hq=>by rw[ptc_len,h8 q (by simp[hq])]
 have hl0:(ptc q0).length=9:=by rw[ptc_len,h8 q0 (by simp)]
 simp only[Xt]at hnc ht;have hcells:∀j u,(r.flatMap ptc)[j]? =Xa u->w.cell? ((⟨g,9,Xb⟩:Addr).add j)=Xa u:=fun j u hj=>by
  have hjl:j<r.length*9:=by rw[<-hl];exact(gS.1 hj).1
  rw[Addr.add_lit];have h1:(cur.toList.take ((r.length+1)*9))[9+j]? =Xa u:=by
   rw[ht,List.flatMap_cons,aR (by omega),hl0]
   simpa using hj
  rw[List.getElem?_take_of_lt (by omega)]at h1
  simp only[World.cell?,hh]
  simpa using h1
 have hrun:=run_append_room (P:=Tryz.prog) w 33 o.type 117 i0 Tryz.underlying33 hi g 0 cap cur hh ⟨g,9,Xb⟩ r.length c' (r.flatMap ptc) (by rw[hz1];exact hl) hcells (flatMap_one ptc_one r) (by omega) (by rw[hl];simp;omega)
 simp only[Nat.zero_mul,List.take_zero,Yd,zA]at hrun;unfold Oper.wp execOp;simp only[ho,resolve,invoke,builtin,Xs,Xw,rA,Yj,mP,Ym,hs,hx,hrun];refine hK _ _ (h _ (OwnPuts.mk hb (setRow_heap w g cur _ 117 _ hh) (by omega) hm ?_ ?_ (fun q hq=>h8 q (by simp[hq])) (by have:=hown.2.2;simp at this;omega)) (setRow_grown _ _ _) (by simp[World.setRow]))
 ·simp[hl];omega
 rw[<-hl];simp
theorem zeroCells_one (n:Nat):∀u∈(Builtin.zeroCells #[Xe Xf 0,Xe Xg 0,Xe Xg 0,Xe Xg 0,Xe Xg 0,Xe Xg 0,Xe Xg 0,Xe Xg 0,Xe Xg 0] n).toList,u.oneCell'=Xc:=fun u hu=>by
 simp only[Builtin.zeroCells,Array.toList_map,Xx,Array.toList_range,List.mem_range]at hu;obtain⟨i,_,rfl⟩:=hu;have h9:i % 9<9:=Nat.mod_lt _ (by decide)
 show(#[Value.int .i64 0,Xe Xg 0,Xe Xg 0,Xe Xg 0,Xe Xg 0,Xe Xg 0,Xe Xg 0,Xe Xg 0,Xe Xg 0]:Array Xq)[i % 9]!.oneCell'=Xc
 generalize i % 9=k at h9
 match k,h9 with
 | 0,_=>rfl
 | 1,_=>rfl
 | 2,_=>rfl
 | 3,_=>rfl
 | 4,_=>rfl
 | 5,_=>rfl
 | 6,_=>rfl
 | 7,_=>rfl
 | 8,_=>rfl
theorem wpList_clear_row {w:Xn} {ops:Array Oper} {rest:List Oper} {o:Oper} {a:Act} {Q:Exit->Act->Xn->Prop} (hgd:o.guard=Xb) (x:Operand) (ho:o.op= .call { callee:= .builtin .clear,args:=#[x],argTypes:=#[33] })
  (base g cap n:Nat) (qs:List (Int × List Int)) (hown:OwnPuts base w (O (Xa ⟨g,0,Xb⟩) n cap) qs) (ad:Addr) (k c':Nat) (hx:a.eval x= O (Xa ad) k c') (hk:qs.length+k<=cap) (had:0<k->ad=⟨g,qs.length*9,Xb⟩)
  (h:∀w',OwnPuts base w' (O (Xa ⟨g,0,Xb⟩) n cap) qs->w.grownBy w' (Xa g)->w'.heap.size=w.heap.size->wpList Tryz.prog ops Q rest (a.put o.dst (Xm #[])) w'):wpList Tryz.prog ops Q (o :: rest) a w:=by
 refine wpList_plain hgd fun K hK=>?_
 cases k with
 | zero=>
  have hrun:(Builtin.clear_ #[33] o.type #[O (Xa ad) 0 c']).run Tryz.prog w= .ok (Xm #[]) w:=by
   simp[Builtin.clear_,run_underlying Tryz.underlying33]
  unfold Oper.wp execOp;simp only[ho,resolve,invoke,builtin,Xs,Xw,rA,Yj,mP,Ym,hx,hrun];exact hK _ _ (h w hown (World.grownBy.rfl' _ _) rfl)
 | succ k=>
  have had':=had (by omega)
  subst had';obtain⟨hn,hb,hnc,hm,cur,hh,hsz,ht⟩:=hown.block;obtain⟨Z,hZ⟩:∃Z,(Builtin.zeroCells #[Xe Xf 0,Xe Xg 0,Xe Xg 0,Xe Xg 0,Xe Xg 0,Xe Xg 0,Xe Xg 0,Xe Xg 0,Xe Xg 0] (k+1)).toList=Z:=⟨_,rfl⟩;have hzl:Z.length=(k+1)*9:=by
   rw[<-hZ,Array.length_toList,size_zeroCells];rfl
  have hone:∀u∈Z,u.oneCell'=Xc:=by rw[<-hZ];exact zeroCells_one _
  have hst:=run_storeCells_at Tryz.prog g (qs.length*9) 117 Z 0 cur w hh (by rw[hzl,hsz];omega) hone
  simp only[Nat.add_zero]at hst;have hrun:(Builtin.clear_ #[33] o.type #[O (Xa ⟨g,qs.length*9,Xb⟩) (k+1) c']).run Tryz.prog w= .ok (Xm #[]) (w.setRow g (cur.toList.take (qs.length*9)++Z++cur.toList.drop (qs.length*9+Z.length)).toArray):=by
   simp only[Builtin.clear_]
   simp[run_underlying Tryz.underlying33,Tryz.zeroValue117,Value.cells,hZ,hst]
  unfold Oper.wp execOp;simp only[ho,resolve,invoke,builtin,Xs,Xw,rA,Yj,mP,Ym,hx,hrun];subst hn;have hcl:cur.toList.length=cap*9:=by simpa using hsz
  refine hK _ _ (h _ (OwnPuts.mk hb (setRow_heap w g cur _ 117 _ hh) hnc hm ?_ ?_ hown.2.1 hown.2.2) (setRow_grown _ _ _) (by simp[World.setRow]))
  ·simp only[Yg,lA,Yk,List.length_drop,hzl,hcl];omega
  rw[Yx,List.take_left' (by rw[Yk,hcl];omega)]
  exact ht
theorem grew_grown' {a b c:Xn} {g:Nat} (h:Grew a b) (k:b.grownBy c (Xa g)):a.grownBy c (Xa g):=
 ⟨k.os.trans h.os,k.tape.trans h.tape,k.output.trans h.output,nT h.size k.size,fun i hi hne=>(k.block i (Yu hi h.size) hne).trans (h.block i hi)⟩
theorem delete01_any (base g cap:Nat) (q0:Int × List Int) (r:List (Int × List Int)) (w:Xn) (hown:OwnPuts base w (O (Xa ⟨g,0,Xb⟩) (r.length+1) cap) (q0 :: r)) (hr:1<=r.length) (h400:r.length<=400):
  Xp Tryz.prog 212 #[O (Xa ⟨g,0,Xb⟩) (r.length+1) cap,Xe Xf 0,Xe Xf 1] w fun e w'=>e= Xl (O (Xa ⟨g,0,Xb⟩) r.length cap)/\OwnPuts base w' (O (Xa ⟨g,0,Xb⟩) r.length cap) r/\w.grownBy w' (Xa g):=by
 obtain⟨_,_,hcap,hmax,_⟩:=hown.block;have HO:Xo (OwnPuts base w (O (Xa ⟨g,0,Xb⟩) (r.length+1) cap) (q0 :: r)):=hown;simp only[Xt]at hcap;obtain⟨k,HK⟩:∃k,Xo (r.length=k):=⟨_,rfl⟩;have hmax':cap<=9223372036854775807:=by simpa [maxLen]using hmax
 rw[HK.out]at hcap hr h400 HO⊢;clear hown hmax;have h1:¬cap=1:=by omega
 have h2:((k+1:Nat):Int)=(k:Int)+1:=by omega
 have h3:(k:Int)+1<=(cap:Int):=by omega
 have h4:(1:Int)<=(k:Int):=by omega
 go_enter Tryz.func212,Tryz.ntmps212
 go_wp2;have hne:Nonempty (GrownW w):=⟨⟨_,Grew.refl _⟩⟩;refine wp_lax_tail 6 [] mixed (by kernel_rfl) rfl rfl (by decide) (by simp) (by simp) ?_
 simp only[List.take,List.drop];iterate 6 (refine lax_quiet rfl rfl rfl (fun K hK=>?_);go_big_quiet_op;refine hK _ ?_;clear hK K)
 refine lax_nil fun w' hg _=>?_
 have HO':=dD (HO.out.grew hg);have HG:Xo (Grew w w'):=hg;clear hg hne
 go_wp2_with (first
  | (refine wpList_append_shift rfl (.tmp 22) (.tmp 25) rfl base g cap (k+1) q0 r HO'.out rfl (cap - 1) (by rw[HK.out];rfl) ?_;intro w2 ow2 gr2 sz2;have O2:Xo (OwnPuts base w2 (O (Xa ⟨g,0,Xb⟩) r.length cap) r):=ow2;have G2:Xo (w'.grownBy w2 (Xa g)):=gr2;clear ow2 gr2 sz2;rw[HK.out])
  | (refine wpList_clear_row rfl (.tmp 31) rfl base g cap _ r O2.out _ 1 _ rfl (by rw[HK.out];exact hcap) (fun _=>by rw[HK.out]) ?_;intro w3 ow3 gr3 sz3;have O3:Xo (OwnPuts base w3 (O (Xa ⟨g,0,Xb⟩) r.length cap) r):=ow3;have G3:Xo (w2.grownBy w3 (Xa g)):=gr3;clear ow3 gr3 sz3))
 go_ret;exact⟨rfl,by rw[<-HK.out];exact O3.out,grew_grown' HG.out (grown_trans G2.out G3.out)⟩
theorem OwnPages.beside {base base':Nat} {w w':Xn} {bv qv:Xq} {ps:List (List Int)} {qs:List (Int × List Int)} (h:OwnPages base w bv ps) (k:OwnPuts base' w qv qs) (hg:w.grownBy w' qv.ownBlock):OwnPages base w' bv ps:=by
 refine⟨⟨h.1.1,?_⟩,h.2⟩
 rcases h.1.2 with h1 | ⟨g,cap,cur,rfl,h2,h3,h4⟩
 ·exact .inl h1
 refine .inr ⟨g,cap,cur,rfl,h2,?_,h4⟩;rw[hg.block g (aS.1 h3).1 (fun e=>?_)]
 ·exact h3
 rcases k.1.2 with⟨rfl,_⟩ | ⟨g',cap',cur',rfl,_,k3,_⟩
 ·cases e
 simp only[Value.ownBlock,Option.some.injEq]at e;subst e;rw[h3]at k3;cases k3
theorem OwnPuts.beside {base base':Nat} {w w':Xn} {bv qv:Xq} {ps:List (List Int)} {qs:List (Int × List Int)} (k:OwnPuts base' w qv qs) (h:OwnPages base w bv ps) (hg:w.grownBy w' bv.ownBlock):OwnPuts base' w' qv qs:=by
 refine⟨⟨k.1.1,?_⟩,k.2⟩
 rcases k.1.2 with h1 | ⟨g,cap,cur,rfl,h2,h3,h4⟩
 ·exact .inl h1
 refine .inr ⟨g,cap,cur,rfl,h2,?_,h4⟩;rw[hg.block g (aS.1 h3).1 (fun e=>?_)]
 ·exact h3
 rcases h.1.2 with⟨rfl,_⟩ | ⟨g',cap',cur',rfl,_,k3,_⟩
 ·cases e
 simp only[Value.ownBlock,Option.some.injEq]at e;subst e;rw[h3]at k3;cases k3
theorem OwnPuts.lt {base:Nat} {w:Xn} {v:Xq} {qs:List (Int × List Int)} (h:OwnPuts base w v qs):∀g,v.ownBlock=Xa g->base<=g/\g<w.heap.size:=h.1.lt
theorem OwnPages.lt {base:Nat} {w:Xn} {v:Xq} {ps:List (List Int)} (h:OwnPages base w v ps):∀g,v.ownBlock=Xa g->base<=g/\g<w.heap.size:=h.1.lt
theorem OwnPuts.ne {base:Nat} {w:Xn} {v:Xq} {qs:List (Int × List Int)} (h:OwnPuts base w v qs) {b:Nat} {cs:List Xq} (hb:BoxT w b 35 cs):∀g,v.ownBlock=Xa g->b≠g:=fun g hg e=>by
 subst e
 rcases h.1.2 with⟨rfl,_⟩ | ⟨g',cap,cur,rfl,_,h3,_⟩
 ·cases hg
 simp only[Value.ownBlock,Option.some.injEq]at hg;subst hg;rw[hb]at h3;cases h3
theorem OwnPages.ne {base:Nat} {w:Xn} {v:Xq} {ps:List (List Int)} (h:OwnPages base w v ps) {b:Nat} {cs:List Xq} (hb:BoxT w b 35 cs):∀g,v.ownBlock=Xa g->b≠g:=fun g hg e=>by
 subst e
 rcases h.1.2 with⟨rfl,_⟩ | ⟨g',cap,cur,rfl,_,h3,_⟩
 ·cases hg
 simp only[Value.ownBlock,Option.some.injEq]at hg;subst hg;rw[hb]at h3;cases h3
theorem OwnPages.setOther {base:Nat} {w:Xn} {v:Xq} {ps:List (List Int)} (h:OwnPages base w v ps) {a:Addr} (ha:∀g,v.ownBlock=Xa g->a.block≠g) (u:Xq):OwnPages base (w.setCell a u) v ps:=⟨ownsRow_setOther h.1 ha u,h.2⟩
theorem OwnPuts.setOther {base:Nat} {w:Xn} {v:Xq} {qs:List (Int × List Int)} (h:OwnPuts base w v qs) {a:Addr} (ha:∀g,v.ownBlock=Xa g->a.block≠g) (u:Xq):OwnPuts base (w.setCell a u) v qs:=⟨ownsRow_setOther h.1 ha u,h.2⟩
theorem OwnPages.form {base:Nat} {w:Xn} {v:Xq} {ps:List (List Int)} (h:OwnPages base w v ps):∃a c,v= O a ps.length c:=by
 obtain⟨a,c,h1,_⟩:=h.at.rows;exact⟨a,c,h1⟩
theorem OwnPuts.form {base:Nat} {w:Xn} {v:Xq} {qs:List (Int × List Int)} (h:OwnPuts base w v qs):∃a c,v= O a qs.length c:=by
 obtain⟨a,c,h1,_⟩:=h.at.rows;exact⟨a,c,h1⟩
theorem OwnPuts.snoc {base:Nat} {w:Xn} {v:Xq} {qs:List (Int × List Int)} {q:Int × List Int} (h:w.ownsRow base 117 9 v (qs.length+1) (qs.flatMap ptc++ptc q)) (h8:∀x∈qs,x.2.length=8) (hq:q.2.length=8) (hb:(qs.length+1)*16<=140737488355328):OwnPuts base w v (qs++ [q]):=by
 refine⟨by simpa using h,fun x hx=>?_,by simpa using hb⟩
 rcases Ye.1 hx with h1 | h1
 ·exact h8 x h1
 simp at h1;subst h1;exact hq
theorem fin_new {base base' Bo R:Nat} {w:Xn} {bv qv:Xq} {ps:List (List Int)} {qs:List (Int × List Int)} {cs:List Xq} (hp:OwnPages base w bv ps) (hq:OwnPuts base w qv qs) (hB:BoxT w Bo 35 cs) (hR:R<base) (hb:base'<=base):
  NewDisk base' (((w.setCell ⟨Bo,1,Xb⟩ qv).setCell ⟨R,0,Xb⟩ bv).setCell ⟨R,1,Xb⟩ qv) (Xi #[bv,qv]) ps qs:=by
 have hp1:=((hp.setOther (a:=⟨Bo,1,Xb⟩) (hp.ne hB) qv).setCell (a:=⟨R,0,Xb⟩) hR bv).setCell (a:=⟨R,1,Xb⟩) hR qv;have hq1:=((hq.setOther (a:=⟨Bo,1,Xb⟩) (hq.ne hB) qv).setCell (a:=⟨R,0,Xb⟩) hR bv).setCell (a:=⟨R,1,Xb⟩) hR qv;exact NewDisk.base (OwnDisk.new ⟨_,_,rfl,hp1,hq1⟩) hb
theorem OwnPuts.head {base:Nat} {w:Xn} {g n cap:Nat} {m c0 c1 c2 c3 c4 c5 c6 c7:Int} {r:List (Int × List Int)} (h:OwnPuts base w (O (Xa ⟨g,0,Xb⟩) n cap) ((m,[c0,c1,c2,c3,c4,c5,c6,c7]) :: r)):
  w.cell? ⟨g,0,Xb⟩=Xa (Xe Xf m)/\w.cell? ⟨g,1,Xb⟩=Xa (Xe Xg c0)/\w.cell? ⟨g,2,Xb⟩=Xa (Xe Xg c1)/\w.cell? ⟨g,3,Xb⟩=Xa (Xe Xg c2)/\w.cell? ⟨g,4,Xb⟩=Xa (Xe Xg c3)/\w.cell? ⟨g,5,Xb⟩=Xa (Xe Xg c4)/\w.cell? ⟨g,6,Xb⟩=Xa (Xe Xg c5)/\w.cell? ⟨g,7,Xb⟩=Xa (Xe Xg c6)/\w.cell? ⟨g,8,Xb⟩=Xa (Xe Xg c7):=by
 have hc:∀(j:Nat) u,(((m,[c0,c1,c2,c3,c4,c5,c6,c7]) :: r).flatMap ptc)[j]? =Xa u->w.cell? ⟨g,j,Xb⟩=Xa u:=fun j u hj=>by
  have:=h.1.cells rfl j u hj;rwa [Addr.add_lit,zA]at this
 exact⟨hc 0 _ rfl,hc 1 _ rfl,hc 2 _ rfl,hc 3 _ rfl,hc 4 _ rfl,hc 5 _ rfl,hc 6 _ rfl,hc 7 _ rfl,hc 8 _ rfl⟩
def writeB (ps:List (List Int)) (qs:List (Int × List Int)):List (List Int):=if qs.length=400 then ps.set (qs.headD (0,[])).1.toNat (qs.headD (0,[])).2 else ps
def writeQ (qs:List (Int × List Int)) (m:Int) (p:List Int):List (Int × List Int):=(if qs.length=400 then qs.tail else qs)++ [(m,p)]
def writeDP (ps:List (List Int)) (qs:List (Int × List Int)) (m:Int):List (List Int):=if wrongAtL ps.length qs m=0 then writeB ps qs else []
def writeDQ (ps:List (List Int)) (qs:List (Int × List Int)) (m:Int) (p:List Int):List (Int × List Int):=if wrongAtL ps.length qs m=0 then writeQ qs m p else []
theorem write_err (d:Xq) (ps:List (List Int)) (qs:List (Int × List Int)) (m:Int) (p:List Int) (hp:p.length=8) (w:Xn) (hd:DiskAt w d ps qs) (hr0:¬wrongAtL ps.length qs m=0):
  Xp Tryz.prog 185 #[d,Xe Xf m,Xi (pgc p).toArray] w fun e w'=>∃d',e= Xl (Xm #[d',Xe Xf (wrongAtL ps.length qs m)])/\NewDisk w.heap.size w' d' (writeDP ps qs m) (writeDQ ps qs m p)/\Grew w w':=by
 obtain⟨p0,p1,p2,p3,p4,p5,p6,p7,rfl⟩:=len8 p hp;have HD:Xo (DiskAt w d ps qs):=hd;obtain⟨b,q,rfl,hb,hq⟩:=hd;have HQ:Xo (PutsAt w q qs):=hq;obtain⟨ab,cb,rfl,_⟩:=hb.rows;obtain⟨aq,cq,rfl,_⟩:=hq.rows;clear hb hq hp
 show Xp Tryz.prog 185 #[Xi #[O ab ps.length cb,O aq qs.length cq],Xe Xf m,Xi #[Xe Xg p0,Xe Xg p1,Xe Xg p2,Xe Xg p3,Xe Xg p4,Xe Xg p5,Xe Xg p6,Xe Xg p7]] w _
 have HP:Xo (writeDP ps qs m=if wrongAtL ps.length qs m=0 then writeB ps qs else []):=rfl;have HQ':Xo (writeDQ ps qs m [p0,p1,p2,p3,p4,p5,p6,p7]=if wrongAtL ps.length qs m=0 then writeQ qs m [p0,p1,p2,p3,p4,p5,p6,p7]else []):=rfl;obtain⟨W0,hW0⟩:∃W0,((w.alloc (Xk #[O ab ps.length cb,O aq qs.length cq] 35)).alloc (Xk #[Xe Xg p0,Xe Xg p1,Xe Xg p2,Xe Xg p3,Xe Xg p4,Xe Xg p5,Xe Xg p6,Xe Xg p7] 91)).alloc (Xk #[O Xb 0 0,O Xb 0 0] 35)=W0:=⟨_,rfl⟩;have HG0:Xo (Grew w W0):=show Grew w W0 by rw[<-hW0];exact((grew_alloc _ _).trans (grew_alloc _ _)).trans (grew_alloc _ _)
 have X0:Xo (Box W0 w.heap.size [O ab ps.length cb,O aq qs.length cq]):=show Box _ _ _ by rw[<-hW0];exact((Box.top w [O ab ps.length cb,O aq qs.length cq] _ rfl).alloc _).alloc _
 have X1:Xo (Box W0 (w.heap.size+1) [Xe Xg p0,Xe Xg p1,Xe Xg p2,Xe Xg p3,Xe Xg p4,Xe Xg p5,Xe Xg p6,Xe Xg p7]):=show Box _ _ _ by rw[<-hW0];exact(Box.top _ [Xe Xg p0,Xe Xg p1,Xe Xg p2,Xe Xg p3,Xe Xg p4,Xe Xg p5,Xe Xg p6,Xe Xg p7] _ (by simp)).alloc _
 have X2:Xo (Box W0 (w.heap.size+1+1) [O Xb 0 0,O Xb 0 0]):=show Box _ _ _ by rw[<-hW0];exact Box.top _ [O Xb 0 0,O Xb 0 0] _ (by simp)
 have hcon:=wrongAt_any ab ps.length cb (O aq qs.length cq) qs m W0 (HQ.out.grew HG0.out);have hown:∀W,Grew W0 W->Xp Tryz.prog 53 #[Xi #[O ab ps.length cb,O aq qs.length cq]] W fun e w'=>∃d',e= Xl d'/\OwnDisk W.heap.size w' d' ps qs/\Grew W w':=fun W hW=>own_any _ ps qs W (HD.out.grew (HG0.out.trans hW))
 obtain⟨r,HW⟩:∃r,Xo (wrongAtL ps.length qs m=r):=⟨_,rfl⟩;rw[HW.out]at hcon HP HQ'⊢;obtain⟨nb,HNB⟩:∃nb,Xo (ps.length=nb):=⟨_,rfl⟩;obtain⟨nq,HNQ⟩:∃nq,Xo (qs.length=nq):=⟨_,rfl⟩;rw[HNB.out,HNQ.out]at hcon hW0 X0⊢;simp only[HNB.out,HNQ.out]at hown;have HW0:Xo (_=W0):=hW0;clear hW0;have hr:¬r=0:=fun e=>hr0 (HW.out.trans e)
 have hne:(r != 0)=Xc:=by simpa using hr
 rw[if_neg hr]at HP HQ';rw[HP.out,HQ'.out]
 go_enter Tryz.func185,Tryz.ntmps185
 go_wp2_with (
  go_at_call 210;rw[HW0.out];refine hcon.mono ?_;rintro e W1 ⟨rfl,hg1⟩
  have Y2:=X2.out.grew hg1;have c0:=Y2.c 0 rfl;have c1:=Y2.c 1 rfl;have f0:=Y2.f;clear Y2)
 refine bodyPost_ret (v:= Xm #[Xi #[O Xb 0 0,O Xb 0 0],Xe Xf r]) (by simp[results,Tryz.results185,go_sem, *]) rfl ⟨_,rfl,nilDisk _ _,?_⟩
 have HG1:Grew w W1:=HG0.out.trans hg1;iterate 2 (refine grew_set ?_ (by simp;omega) _)
 exact HG1
theorem write_few (d:Xq) (ps:List (List Int)) (qs:List (Int × List Int)) (m:Int) (p:List Int) (hp:p.length=8) (w:Xn) (hd:DiskAt w d ps qs) (hr0:wrongAtL ps.length qs m=0) (h4:¬qs.length=400):
  Xp Tryz.prog 185 #[d,Xe Xf m,Xi (pgc p).toArray] w fun e w'=>∃d',e= Xl (Xm #[d',Xe Xf (wrongAtL ps.length qs m)])/\NewDisk w.heap.size w' d' (writeDP ps qs m) (writeDQ ps qs m p)/\Grew w w':=by
 obtain⟨p0,p1,p2,p3,p4,p5,p6,p7,rfl⟩:=len8 p hp;have HD:Xo (DiskAt w d ps qs):=hd;obtain⟨b,q,rfl,hb,hq⟩:=hd;have HQ:Xo (PutsAt w q qs):=hq;obtain⟨ab,cb,rfl,_⟩:=hb.rows;obtain⟨aq,cq,rfl,_⟩:=hq.rows;clear hb hq hp
 show Xp Tryz.prog 185 #[Xi #[O ab ps.length cb,O aq qs.length cq],Xe Xf m,Xi #[Xe Xg p0,Xe Xg p1,Xe Xg p2,Xe Xg p3,Xe Xg p4,Xe Xg p5,Xe Xg p6,Xe Xg p7]] w _
 have HP:Xo (writeDP ps qs m=if wrongAtL ps.length qs m=0 then writeB ps qs else []):=rfl;have HQ':Xo (writeDQ ps qs m [p0,p1,p2,p3,p4,p5,p6,p7]=if wrongAtL ps.length qs m=0 then writeQ qs m [p0,p1,p2,p3,p4,p5,p6,p7]else []):=rfl;obtain⟨W0,hW0⟩:∃W0,((w.alloc (Xk #[O ab ps.length cb,O aq qs.length cq] 35)).alloc (Xk #[Xe Xg p0,Xe Xg p1,Xe Xg p2,Xe Xg p3,Xe Xg p4,Xe Xg p5,Xe Xg p6,Xe Xg p7] 91)).alloc (Xk #[O Xb 0 0,O Xb 0 0] 35)=W0:=⟨_,rfl⟩;have HG0:Xo (Grew w W0):=show Grew w W0 by rw[<-hW0];exact((grew_alloc _ _).trans (grew_alloc _ _)).trans (grew_alloc _ _)
 have X0:Xo (Box W0 w.heap.size [O ab ps.length cb,O aq qs.length cq]):=show Box _ _ _ by rw[<-hW0];exact((Box.top w [O ab ps.length cb,O aq qs.length cq] _ rfl).alloc _).alloc _
 have X1:Xo (Box W0 (w.heap.size+1) [Xe Xg p0,Xe Xg p1,Xe Xg p2,Xe Xg p3,Xe Xg p4,Xe Xg p5,Xe Xg p6,Xe Xg p7]):=show Box _ _ _ by rw[<-hW0];exact(Box.top _ [Xe Xg p0,Xe Xg p1,Xe Xg p2,Xe Xg p3,Xe Xg p4,Xe Xg p5,Xe Xg p6,Xe Xg p7] _ (by simp)).alloc _
 have X2:Xo (Box W0 (w.heap.size+1+1) [O Xb 0 0,O Xb 0 0]):=show Box _ _ _ by rw[<-hW0];exact Box.top _ [O Xb 0 0,O Xb 0 0] _ (by simp)
 have hcon:=wrongAt_any ab ps.length cb (O aq qs.length cq) qs m W0 (HQ.out.grew HG0.out);have hown:∀W,Grew W0 W->Xp Tryz.prog 53 #[Xi #[O ab ps.length cb,O aq qs.length cq]] W fun e w'=>∃d',e= Xl d'/\OwnDisk W.heap.size w' d' ps qs/\Grew W w':=fun W hW=>own_any _ ps qs W (HD.out.grew (HG0.out.trans hW))
 obtain⟨r,HW⟩:∃r,Xo (wrongAtL ps.length qs m=r):=⟨_,rfl⟩;rw[HW.out]at hcon HP HQ'⊢;obtain⟨nb,HNB⟩:∃nb,Xo (ps.length=nb):=⟨_,rfl⟩;obtain⟨nq,HNQ⟩:∃nq,Xo (qs.length=nq):=⟨_,rfl⟩;rw[HNB.out,HNQ.out]at hcon hW0 X0⊢;simp only[HNB.out,HNQ.out]at hown;have HW0:Xo (_=W0):=hW0;clear hW0;have hr:=HW.out.symm.trans hr0;subst hr;rw[if_pos rfl]at HP HQ';obtain⟨hw0,i,hmi,hib⟩:=wrongAtL_zero HW.out;obtain⟨hn80,hq400,hin⟩:=wrongL_zero hw0;obtain⟨i0,hi,hz0,hz1,hz2⟩:=info_parts Tryz.infoPut;rw[HP.out,HQ'.out];clear hmi hib;have h400:¬nq=400:=fun e=>h4 (HNQ.out.trans e)
 have hb4:((nq:Int) == 400)=Xd:=by simp;omega
 have HB':Xo (writeB ps qs=ps):=show writeB ps qs=ps by unfold writeB;rw[if_neg (by rw[HNQ.out];exact h400)]
 have HQ2:Xo (writeQ qs m [p0,p1,p2,p3,p4,p5,p6,p7]=qs++ [(m,[p0,p1,p2,p3,p4,p5,p6,p7])]):=show writeQ _ _ _=_ by unfold writeQ;rw[if_neg (by rw[HNQ.out];exact h400)]
 have H400:Xo (qs.length<=400):=hq400;clear hq400 hin hn80 hw0
 go_enter Tryz.func185,Tryz.ntmps185
 go_wp2_with (first
  | (
   go_at_call 210;rw[HW0.out];refine hcon.mono ?_;rintro e W1 ⟨rfl,hg1⟩
   have G1:Xo (Grew W0 W1):=hg1;have e0:=(X0.out.grew hg1).c 0 rfl;have e1:=(X0.out.grew hg1).c 1 rfl)
  | (
   go_at_call 53;refine(hown W1 G1.out).mono ?_;rintro e W2 ⟨d',rfl,hd',hg2⟩
   obtain⟨bv,qv,rfl,ob,oq⟩:=hd';obtain⟨ab',cb',rfl⟩:=ob.form;obtain⟨aq',cq',rfl⟩:=oq.form;have OB:Xo (OwnPages W1.heap.size W2 (O ab' ps.length cb') ps):=ob;have OQ:Xo (OwnPuts W1.heap.size W2 (O aq' qs.length cq') qs):=oq;have G2:Xo (Grew W1 W2):=hg2;rw[HNB.out]at OB;rw[HNQ.out]at OQ;rw[HNB.out,HNQ.out];clear ob oq hg1 hg2 e0 e1;have P1:=(X1.out.grew G1.out).grew G2.out;have lt1:w.heap.size+1<W2.heap.size:=P1.lt;obtain⟨u0,u1,u2,u3,u4,u5,u6,u7⟩:=P1.c8;clear P1)
  | (
   at_builtin
   have O4:=OQ.out.grew ((grew_alloc W2 (Xk #[O ab' nb cb',O aq' nq cq'] 35)).trans (grew_alloc _ (Xk #[Xe Xf m,Xe Xg p0,Xe Xg p1,Xe Xg p2,Xe Xg p3,Xe Xg p4,Xe Xg p5,Xe Xg p6,Xe Xg p7] 117)));have P4:=OB.out.grew ((grew_alloc W2 (Xk #[O ab' nb cb',O aq' nq cq'] 35)).trans (grew_alloc _ (Xk #[Xe Xf m,Xe Xg p0,Xe Xg p1,Xe Xg p2,Xe Xg p3,Xe Xg p4,Xe Xg p5,Xe Xg p6,Xe Xg p7] 117)));have B4:=(BoxT.top W2 [O ab' nb cb',O aq' nq cq'] 35 rfl).grew (grew_alloc _ (Xk #[Xe Xf m,Xe Xg p0,Xe Xg p1,Xe Xg p2,Xe Xg p3,Xe Xg p4,Xe Xg p5,Xe Xg p6,Xe Xg p7] 117));have R4:=((((X2.out.grew G1.out).grew G2.out).grew (grew_alloc W2 (Xk #[O ab' nb cb',O aq' nq cq'] 35))).grew (grew_alloc _ (Xk #[Xe Xf m,Xe Xg p0,Xe Xg p1,Xe Xg p2,Xe Xg p3,Xe Xg p4,Xe Xg p5,Xe Xg p6,Xe Xg p7] 117)));refine wpList_append_own _ rfl (.tmp 40) (.tmp 44) 33 rfl W1.heap.size 117 i0 _ 9 16 Tryz.underlying33 hi hz0 hz1 hz2 rfl (by decide) _ _ _ rfl O4.1 ⟨W2.heap.size+1,0,Xb⟩ 1 1 (ptc (m,[p0,p1,p2,p3,p4,p5,p6,p7])) rfl rfl (Cells.top _ (ptc (m,[p0,p1,p2,p3,p4,p5,p6,p7])) _ (by simp)) (ptc_one _) (maxLen_of (by have:=H400.out;omega)) (by have:=H400.out;omega) (by have:=bS G2.out;simp;omega) ?_
   intro v' W5 hown' hgrow _;have N5:Xo (OwnPuts W1.heap.size W5 v' (qs++ [(m,[p0,p1,p2,p3,p4,p5,p6,p7])])):=OwnPuts.snoc hown' OQ.out.2.1 rfl (by have:=H400.out;omega)
   have P5:Xo (OwnPages W1.heap.size W5 (O ab' nb cb') ps):=P4.beside O4 hgrow;have B5:Xo (BoxT W5 W2.heap.size 35 [O ab' nb cb',O aq' nq cq']):=B4.beside hgrow (O4.ne B4);have R5:Xo (Box W5 (w.heap.size+1+1) [O Xb 0 0,O Xb 0 0]):=R4.beside hgrow (fun g hg=>by have h1:=(O4.lt g hg).1;have h2:=(X2.out.grew G1.out).lt;omega)
   have G5:Xo (Grew w W5):=grew_beside (((HG0.out.trans G1.out).trans G2.out).trans ((grew_alloc _ _).trans (grew_alloc _ _))) hgrow (fun g hg=>by have h1:=(O4.lt g hg).1;have h2:=bS (HG0.out.trans G1.out);omega)
   obtain⟨av,cv,hv'⟩:=N5.out.form;rw[lA,HNQ.out,Yo]at hv';subst hv';have v0:=B5.out.box.c 0 rfl;have v1:=B5.out.box.c 1 rfl;have vf:=B5.out.box.f;have y0:=R5.out.c 0 rfl;have y1:=R5.out.c 1 rfl;have yf:=R5.out.f;have hneb:w.heap.size+1+1≠W2.heap.size:=by have:=((X2.out.grew G1.out).grew G2.out).lt;omega
   clear O4 P4 B4 R4 hown' hgrow u0 u1 u2 u3 u4 u5 u6 u7 lt1))
 refine bodyPost_ret (v:= Xm #[Xi #[O ab' nb cb',O av (nq+1) cv],Xe Xf 0]) (by simp[results,Tryz.results185,go_sem, *]) rfl ⟨_,rfl,?_,?_⟩
 ·rw[HB'.out,HQ2.out];exact fin_new P5.out N5.out B5.out (X2.out.grew G1.out).lt (bS (HG0.out.trans G1.out))
 have h1:=bS (HG0.out.trans G1.out);have h2:=bS G2.out;iterate 3 (refine grew_set ?_ (by simp;omega) _)
 exact G5.out
theorem write_full (d:Xq) (ps:List (List Int)) (qs:List (Int × List Int)) (m:Int) (p:List Int) (hp:p.length=8) (w:Xn) (hd:DiskAt w d ps qs) (hr0:wrongAtL ps.length qs m=0) (h4:qs.length=400):
  Xp Tryz.prog 185 #[d,Xe Xf m,Xi (pgc p).toArray] w fun e w'=>∃d',e= Xl (Xm #[d',Xe Xf (wrongAtL ps.length qs m)])/\NewDisk w.heap.size w' d' (writeDP ps qs m) (writeDQ ps qs m p)/\Grew w w':=by
 obtain⟨p0,p1,p2,p3,p4,p5,p6,p7,rfl⟩:=len8 p hp;have HD:Xo (DiskAt w d ps qs):=hd;obtain⟨b,q,rfl,hb,hq⟩:=hd;have HQ:Xo (PutsAt w q qs):=hq;obtain⟨ab,cb,rfl,_⟩:=hb.rows;obtain⟨aq,cq,rfl,_⟩:=hq.rows;clear hb hq hp
 show Xp Tryz.prog 185 #[Xi #[O ab ps.length cb,O aq qs.length cq],Xe Xf m,Xi #[Xe Xg p0,Xe Xg p1,Xe Xg p2,Xe Xg p3,Xe Xg p4,Xe Xg p5,Xe Xg p6,Xe Xg p7]] w _
 have HP:Xo (writeDP ps qs m=if wrongAtL ps.length qs m=0 then writeB ps qs else []):=rfl;have HQ':Xo (writeDQ ps qs m [p0,p1,p2,p3,p4,p5,p6,p7]=if wrongAtL ps.length qs m=0 then writeQ qs m [p0,p1,p2,p3,p4,p5,p6,p7]else []):=rfl;obtain⟨W0,hW0⟩:∃W0,((w.alloc (Xk #[O ab ps.length cb,O aq qs.length cq] 35)).alloc (Xk #[Xe Xg p0,Xe Xg p1,Xe Xg p2,Xe Xg p3,Xe Xg p4,Xe Xg p5,Xe Xg p6,Xe Xg p7] 91)).alloc (Xk #[O Xb 0 0,O Xb 0 0] 35)=W0:=⟨_,rfl⟩;have HG0:Xo (Grew w W0):=show Grew w W0 by rw[<-hW0];exact((grew_alloc _ _).trans (grew_alloc _ _)).trans (grew_alloc _ _)
 have X0:Xo (Box W0 w.heap.size [O ab ps.length cb,O aq qs.length cq]):=show Box _ _ _ by rw[<-hW0];exact((Box.top w [O ab ps.length cb,O aq qs.length cq] _ rfl).alloc _).alloc _
 have X1:Xo (Box W0 (w.heap.size+1) [Xe Xg p0,Xe Xg p1,Xe Xg p2,Xe Xg p3,Xe Xg p4,Xe Xg p5,Xe Xg p6,Xe Xg p7]):=show Box _ _ _ by rw[<-hW0];exact(Box.top _ [Xe Xg p0,Xe Xg p1,Xe Xg p2,Xe Xg p3,Xe Xg p4,Xe Xg p5,Xe Xg p6,Xe Xg p7] _ (by simp)).alloc _
 have X2:Xo (Box W0 (w.heap.size+1+1) [O Xb 0 0,O Xb 0 0]):=show Box _ _ _ by rw[<-hW0];exact Box.top _ [O Xb 0 0,O Xb 0 0] _ (by simp)
 have hcon:=wrongAt_any ab ps.length cb (O aq qs.length cq) qs m W0 (HQ.out.grew HG0.out);have hown:∀W,Grew W0 W->Xp Tryz.prog 53 #[Xi #[O ab ps.length cb,O aq qs.length cq]] W fun e w'=>∃d',e= Xl d'/\OwnDisk W.heap.size w' d' ps qs/\Grew W w':=fun W hW=>own_any _ ps qs W (HD.out.grew (HG0.out.trans hW))
 obtain⟨r,HW⟩:∃r,Xo (wrongAtL ps.length qs m=r):=⟨_,rfl⟩;rw[HW.out]at hcon HP HQ'⊢;obtain⟨nb,HNB⟩:∃nb,Xo (ps.length=nb):=⟨_,rfl⟩;obtain⟨nq,HNQ⟩:∃nq,Xo (qs.length=nq):=⟨_,rfl⟩;rw[HNB.out,HNQ.out]at hcon hW0 X0⊢;simp only[HNB.out,HNQ.out]at hown;have HW0:Xo (_=W0):=hW0;clear hW0;have hr:=HW.out.symm.trans hr0;subst hr;rw[if_pos rfl]at HP HQ';obtain⟨hw0,i,hmi,hib⟩:=wrongAtL_zero HW.out;obtain⟨hn80,hq400,hin⟩:=wrongL_zero hw0;obtain⟨i0,hi,hz0,hz1,hz2⟩:=info_parts Tryz.infoPut;rw[HP.out,HQ'.out];clear hmi hib;have h400:=HNQ.out.symm.trans h4;subst h400;obtain⟨q0,r,rfl⟩:∃q0 r,qs=q0 :: r:=by
  cases qs with
  | nil=>exact absurd HNQ.out (by simp)
  | cons q0 r=>exact⟨q0,r,rfl⟩
 have HR:Xo (r.length=399):=show r.length=399 by have:=HNQ.out;simpa using this
 obtain⟨mi,l⟩:=q0;obtain⟨c0,c1,c2,c3,c4,c5,c6,c7,rfl⟩:=len8 l (HQ.out.2.1 (mi,l) (by simp))
 obtain⟨i1,hmi1,hib1⟩:=hin _ (List.mem_cons_self);simp only at hmi1;subst hmi1;have hi1n:i1<nb:=by rw[<-HNB.out];exact hib1
 have hi1z:(i1:Int)< (nb:Int):=by omega
 have HB':Xo (writeB ps (((i1:Int),[c0,c1,c2,c3,c4,c5,c6,c7]) :: r)=ps.set i1 [c0,c1,c2,c3,c4,c5,c6,c7]):=show writeB _ _=_ by unfold writeB;rw[if_pos HNQ.out];rfl
 have HQ2:Xo (writeQ (((i1:Int),[c0,c1,c2,c3,c4,c5,c6,c7]) :: r) m [p0,p1,p2,p3,p4,p5,p6,p7]=r++ [(m,[p0,p1,p2,p3,p4,p5,p6,p7])]):=show writeQ _ _ _=_ by unfold writeQ;rw[if_pos HNQ.out];rfl
 clear hq400 hin hn80 hw0 hib1
 go_enter Tryz.func185,Tryz.ntmps185
 go_wp2_with (first
  | (
   go_at_call 210;rw[HW0.out];refine hcon.mono ?_;rintro e W1 ⟨rfl,hg1⟩
   have G1:Xo (Grew W0 W1):=hg1;have e0:=(X0.out.grew hg1).c 0 rfl;have e1:=(X0.out.grew hg1).c 1 rfl)
  | (
   go_at_call 53;refine(hown W1 G1.out).mono ?_;rintro e W2 ⟨d',rfl,hd',hg2⟩
   obtain⟨bv,qv,rfl,ob,oq⟩:=hd';obtain⟨gb,capb,hbv⟩:∃gb capb,bv= O (Xa ⟨gb,0,Xb⟩) nb capb:=by
    rcases ob.1.2 with⟨_,h0⟩ | ⟨gv,cap,cur,h0,_⟩
    ·have:=HNB.out;omega
    exact⟨gv,cap,by rw[h0,HNB.out]⟩
   subst hbv;obtain⟨gq,capq,hqv⟩:∃gq capq,qv= O (Xa ⟨gq,0,Xb⟩) 400 capq:=by
    rcases oq.1.2 with⟨_,h0⟩ | ⟨gv,cap,cur,h0,_⟩
    ·simp at h0
    exact⟨gv,cap,by rw[h0,HNQ.out]⟩
   subst hqv;have OB:Xo (OwnPages W1.heap.size W2 (O (Xa ⟨gb,0,Xb⟩) nb capb) ps):=ob;have OQ:Xo (OwnPuts W1.heap.size W2 (O (Xa ⟨gq,0,Xb⟩) 400 capq) (((i1:Int),[c0,c1,c2,c3,c4,c5,c6,c7]) :: r)):=oq;have G2:Xo (Grew W1 W2):=hg2;obtain⟨k0,k1,k2,k3,k4,k5,k6,k7,k8⟩:=oq.head;have lq:gq<W2.heap.size:=(oq.lt gq rfl).2;clear ob oq hg1 hg2 e0 e1)
  | (
   refine wpList_store_page rfl (.tmp 34) (.tmp 33) rfl W1.heap.size _ ps (OB.out.grew ((grew_alloc W2 (Xk #[O (Xa ⟨gb,0,Xb⟩) nb capb,O (Xa ⟨gq,0,Xb⟩) 400 capq] 35)).trans (grew_alloc _ (Xk #[Xe Xf (i1:Int),Xe Xg c0,Xe Xg c1,Xe Xg c2,Xe Xg c3,Xe Xg c4,Xe Xg c5,Xe Xg c6,Xe Xg c7] 117)))) gb i1 rfl (by rw[HNB.out];exact hi1n) [c0,c1,c2,c3,c4,c5,c6,c7] rfl _ rfl (by simp) rfl ?_
   intro W5 ow5 gr5 _;have O4:=OQ.out.grew ((grew_alloc W2 (Xk #[O (Xa ⟨gb,0,Xb⟩) nb capb,O (Xa ⟨gq,0,Xb⟩) 400 capq] 35)).trans (grew_alloc _ (Xk #[Xe Xf (i1:Int),Xe Xg c0,Xe Xg c1,Xe Xg c2,Xe Xg c3,Xe Xg c4,Xe Xg c5,Xe Xg c6,Xe Xg c7] 117)));have P4:=OB.out.grew ((grew_alloc W2 (Xk #[O (Xa ⟨gb,0,Xb⟩) nb capb,O (Xa ⟨gq,0,Xb⟩) 400 capq] 35)).trans (grew_alloc _ (Xk #[Xe Xf (i1:Int),Xe Xg c0,Xe Xg c1,Xe Xg c2,Xe Xg c3,Xe Xg c4,Xe Xg c5,Xe Xg c6,Xe Xg c7] 117)));have B4:=(BoxT.top W2 [O (Xa ⟨gb,0,Xb⟩) nb capb,O (Xa ⟨gq,0,Xb⟩) 400 capq] 35 rfl).grew (grew_alloc _ (Xk #[Xe Xf (i1:Int),Xe Xg c0,Xe Xg c1,Xe Xg c2,Xe Xg c3,Xe Xg c4,Xe Xg c5,Xe Xg c6,Xe Xg c7] 117));have hgb:=P4.lt gb rfl;have O5:Xo (OwnPuts W1.heap.size W5 (O (Xa ⟨gq,0,Xb⟩) 400 capq) (((i1:Int),[c0,c1,c2,c3,c4,c5,c6,c7]) :: r)):=O4.beside P4 gr5;have P5:Xo (OwnPages W1.heap.size W5 (O (Xa ⟨gb,0,Xb⟩) nb capb) (ps.set i1 [c0,c1,c2,c3,c4,c5,c6,c7])):=ow5;have B5:Xo (BoxT W5 W2.heap.size 35 [O (Xa ⟨gb,0,Xb⟩) nb capb,O (Xa ⟨gq,0,Xb⟩) 400 capq]):=B4.beside gr5 (P4.ne B4);have R5:Xo (Box W5 (w.heap.size+1+1) [O Xb 0 0,O Xb 0 0]):=((((X2.out.grew G1.out).grew G2.out).grew (grew_alloc W2 _)).grew (grew_alloc _ _)).beside gr5 (fun g hg=>by cases hg;have h2:=(X2.out.grew G1.out).lt;omega)
   have A5:Xo (Box W5 (w.heap.size+1) [Xe Xg p0,Xe Xg p1,Xe Xg p2,Xe Xg p3,Xe Xg p4,Xe Xg p5,Xe Xg p6,Xe Xg p7]):=((((X1.out.grew G1.out).grew G2.out).grew (grew_alloc W2 _)).grew (grew_alloc _ _)).beside gr5 (fun g hg=>by cases hg;have h2:=(X1.out.grew G1.out).lt;omega)
   have G5:Xo (Grew w W5):=grew_beside (((HG0.out.trans G1.out).trans G2.out).trans ((grew_alloc _ _).trans (grew_alloc _ _))) gr5 (fun g hg=>by cases hg;have h2:=bS (HG0.out.trans G1.out);omega)
   have v0:=B5.out.box.c 0 rfl;have v1:=B5.out.box.c 1 rfl;clear O4 P4 B4 ow5 gr5 k0 k1 k2 k3 k4 k5 k6 k7 k8 lq hgb)
  | (
   go_at_call 212
   have hdel:=delete01_any W1.heap.size gq capq ((i1:Int),[c0,c1,c2,c3,c4,c5,c6,c7]) r W5 (by rw[HR.out];exact O5.out) (by rw[HR.out];decide) (by rw[HR.out];decide)
   rw[HR.out]at hdel;refine hdel.mono ?_;rintro e W6 ⟨rfl,ow6,gr6⟩;have hgq:=O5.out.lt gq rfl;have O6:Xo (OwnPuts W1.heap.size W6 (O (Xa ⟨gq,0,Xb⟩) 399 capq) r):=ow6;have P6:Xo (OwnPages W1.heap.size W6 (O (Xa ⟨gb,0,Xb⟩) nb capb) (ps.set i1 [c0,c1,c2,c3,c4,c5,c6,c7])):=P5.out.beside O5.out gr6;have B6:Xo (BoxT W6 W2.heap.size 35 [O (Xa ⟨gb,0,Xb⟩) nb capb,O (Xa ⟨gq,0,Xb⟩) 400 capq]):=B5.out.beside gr6 (O5.out.ne B5.out);have R6:Xo (Box W6 (w.heap.size+1+1) [O Xb 0 0,O Xb 0 0]):=R5.out.beside gr6 (fun g hg=>by cases hg;have h2:=(X2.out.grew G1.out).lt;omega)
   have A6:Xo (Box W6 (w.heap.size+1) [Xe Xg p0,Xe Xg p1,Xe Xg p2,Xe Xg p3,Xe Xg p4,Xe Xg p5,Xe Xg p6,Xe Xg p7]):=A5.out.beside gr6 (fun g hg=>by cases hg;have h2:=(X1.out.grew G1.out).lt;omega)
   have G6:Xo (Grew w W6):=grew_beside G5.out gr6 (fun g hg=>by cases hg;have h2:=bS (HG0.out.trans G1.out);omega)
   clear hdel ow6 gr6 v0 v1 hgq;have v0:=B6.out.box.c 0 rfl;have v1:=B6.out.box.c 1 rfl;have vf:=B6.out.box.f;have hneb1:w.heap.size+1≠W2.heap.size:=by have:=((X1.out.grew G1.out).grew G2.out).lt;omega
   have lt1:w.heap.size+1<W6.heap.size:=A6.out.lt;have lt2:W2.heap.size<W6.heap.size:=B6.out.box.lt;obtain⟨u0,u1,u2,u3,u4,u5,u6⟩:=A6.out.c7;have u7:=A6.out.c 7 rfl)
  | (
   at_builtin
   have g7:=grew_alloc (W6.setCell ⟨W2.heap.size,1,Xb⟩ (O (Xa ⟨gq,0,Xb⟩) 399 capq)) (Xk #[Xe Xf m,Xe Xg p0,Xe Xg p1,Xe Xg p2,Xe Xg p3,Xe Xg p4,Xe Xg p5,Xe Xg p6,Xe Xg p7] 117);have O7:=(O6.out.setOther (a:=⟨W2.heap.size,1,Xb⟩) (O6.out.ne B6.out) (O (Xa ⟨gq,0,Xb⟩) 399 capq)).grew g7;have P7:=(P6.out.setOther (a:=⟨W2.heap.size,1,Xb⟩) (P6.out.ne B6.out) (O (Xa ⟨gq,0,Xb⟩) 399 capq)).grew g7;have B7:=(B6.out.set 1 (O (Xa ⟨gq,0,Xb⟩) 399 capq)).grew g7;have R7:=(R6.out.other (a:=⟨W2.heap.size,1,Xb⟩) (by have:=((X2.out.grew G1.out).grew G2.out).lt;show w.heap.size+1+1≠W2.heap.size;omega) (O (Xa ⟨gq,0,Xb⟩) 399 capq)).grew g7
   have G7:=(show Grew w (W6.setCell ⟨W2.heap.size,1,Xb⟩ (O (Xa ⟨gq,0,Xb⟩) 399 capq))from grew_set G6.out (by have:=bS ((HG0.out.trans G1.out).trans G2.out);exact this) _).trans g7
   refine wpList_append_own _ rfl (.tmp 40) (.tmp 44) 33 rfl W1.heap.size 117 i0 _ 9 16 Tryz.underlying33 hi hz0 hz1 hz2 rfl (by decide) _ _ _ rfl O7.1 ⟨W6.heap.size,0,Xb⟩ 1 1 (ptc (m,[p0,p1,p2,p3,p4,p5,p6,p7])) rfl rfl (Cells.top _ (ptc (m,[p0,p1,p2,p3,p4,p5,p6,p7])) _ (by simp)) (ptc_one _) (maxLen_of (by rw[HR.out];decide)) (by rw[HR.out];decide) (by have h1:=bS G2.out;have h2:=bS g7;have h3:=B6.out.box.lt;simp at h2⊢;omega) ?_
   intro v' W8 hown' hgrow _;have N5:Xo (OwnPuts W1.heap.size W8 v' (r++ [(m,[p0,p1,p2,p3,p4,p5,p6,p7])])):=OwnPuts.snoc hown' O6.out.2.1 rfl (by rw[HR.out];decide)
   have P8:Xo (OwnPages W1.heap.size W8 (O (Xa ⟨gb,0,Xb⟩) nb capb) (ps.set i1 [c0,c1,c2,c3,c4,c5,c6,c7])):=P7.beside O7 hgrow;have B8:Xo (BoxT W8 W2.heap.size 35 [O (Xa ⟨gb,0,Xb⟩) nb capb,O (Xa ⟨gq,0,Xb⟩) 399 capq]):=B7.beside hgrow (O7.ne B7);have R8:Xo (Box W8 (w.heap.size+1+1) [O Xb 0 0,O Xb 0 0]):=R7.beside hgrow (fun g hg=>by have h1:=(O7.lt g hg).1;have h2:=(X2.out.grew G1.out).lt;omega)
   have G8:Xo (Grew w W8):=grew_beside G7 hgrow (fun g hg=>by have h1:=(O7.lt g hg).1;have h2:=bS (HG0.out.trans G1.out);omega)
   obtain⟨av,cv,hv'⟩:=N5.out.form;rw[lA,HR.out,Yo]at hv';subst hv';clear v0 v1 vf;have v0:=B8.out.box.c 0 rfl;have v1:=B8.out.box.c 1 rfl;have vf:=B8.out.box.f;have y0:=R8.out.c 0 rfl;have y1:=R8.out.c 1 rfl;have yf:=R8.out.f;have hneb:w.heap.size+1+1≠W2.heap.size:=by have:=((X2.out.grew G1.out).grew G2.out).lt;omega
   clear O7 P7 B7 R7 G7 g7 hown' hgrow u0 u1 u2 u3 u4 u5 u6 u7 lt1 lt2 hneb1))
 refine bodyPost_ret (v:= Xm #[Xi #[O (Xa ⟨gb,0,Xb⟩) nb capb,O av 400 cv],Xe Xf 0]) (by simp[results,Tryz.results185,go_sem, *]) rfl ⟨_,rfl,?_,?_⟩
 ·rw[HB'.out,HQ2.out];exact fin_new P8.out N5.out B8.out (X2.out.grew G1.out).lt (bS (HG0.out.trans G1.out))
 have h1:=bS (HG0.out.trans G1.out);have h2:=bS G2.out;iterate 3 (refine grew_set ?_ (by simp;omega) _)
 exact G8.out
theorem write_any (d:Xq) (ps:List (List Int)) (qs:List (Int × List Int)) (m:Int) (p:List Int) (hp:p.length=8) (w:Xn) (hd:DiskAt w d ps qs):
  Xp Tryz.prog 185 #[d,Xe Xf m,Xi (pgc p).toArray] w fun e w'=>∃d',e= Xl (Xm #[d',Xe Xf (wrongAtL ps.length qs m)])/\NewDisk w.heap.size w' d' (writeDP ps qs m) (writeDQ ps qs m p)/\Grew w w':=by
 by_cases hr0:wrongAtL ps.length qs m=0
 ·by_cases h4:qs.length=400
  ·exact write_full d ps qs m p hp w hd hr0 h4
  exact write_few d ps qs m p hp w hd hr0 h4
 exact write_err d ps qs m p hp w hd hr0
theorem wrongL_ok {n:Nat} {qs:List (Int × List Int)} (hn:n<=80) (hq:qs.length<=400) (hin:∀q∈qs,∃i:Nat,q.1=(i:Int)/\i<n):wrongL n qs=0:=by
 unfold wrongL;rw[if_neg (by omega),if_neg (by omega),if_neg]
 intro h;obtain⟨q,hq,hb⟩:=List.any_eq_true.1 h;obtain⟨i,hi,hlt⟩:=hin q hq
 simp[dkInB,hi,hlt]at hb
theorem wrongAtL_ok {n:Nat} {qs:List (Int × List Int)} {m:Int} (h:wrongL n qs=0) {i:Nat} (hm:m=(i:Int)) (hi:i<n):wrongAtL n qs m=0:=by
 unfold wrongAtL;rw[if_pos h,if_pos]
 simp[dkInB,hm,hi]
theorem wrongAtL_of {n:Nat} {qs:List (Int × List Int)} (h:wrongL n qs=0) (m:Int):wrongAtL n qs m=if dkInB m n then 0 else 3:=by
 unfold wrongAtL;rw[if_pos h]
theorem writeB_len (ps:List (List Int)) (qs:List (Int × List Int)):(writeB ps qs).length=ps.length:=by
 unfold writeB
 split <;> simp
theorem write_right {ps:List (List Int)} {qs:List (Int × List Int)} {m:Int} {p:List Int} (h:wrongAtL ps.length qs m=0):wrongL (writeB ps qs).length (writeQ qs m p)=0:=by
 obtain⟨h0,i,hmi,hib⟩:=wrongAtL_zero h;obtain⟨h1,h2,h3⟩:=wrongL_zero h0;rw[writeB_len];refine wrongL_ok h1 ?_ fun q hq=>?_
 ·unfold writeQ
  split
  ·simp;omega
  simp;omega
 unfold writeQ at hq
 rcases Ye.1 hq with h4 | h4
 ·split at h4
  ·exact h3 q (List.mem_of_mem_tail h4)
  exact h3 q h4
 simp at h4
 subst h4;exact⟨i,hmi,hib⟩
def pickQ:Option (Int × List Int)->List Int->List Int
 | some q,_=>q.2
 | none,d=>d
theorem readL_of {ps:List (List Int)} {qs:List (Int × List Int)} {m:Int} (h:wrongAtL ps.length qs m=0):readL ps qs m=pickQ (qs.reverse.find? (fun q=>q.1 == m)) (ps.getD m.toNat zero8):=by
 unfold readL;rw[if_pos h]
 cases qs.reverse.find? (fun q=>q.1 == m) <;> rfl
theorem write_same {ps:List (List Int)} {qs:List (Int × List Int)} {m:Int} {p:List Int} (h:wrongAtL ps.length qs m=0):wrongAtL (writeB ps qs).length (writeQ qs m p) m=0/\readL (writeB ps qs) (writeQ qs m p) m=p:=by
 have hr:=write_right (p:=p) h;obtain⟨_,i,hmi,hib⟩:=wrongAtL_zero h;have h1:wrongAtL (writeB ps qs).length (writeQ qs m p) m=0:=wrongAtL_ok hr hmi (by rw[writeB_len];exact hib)
 refine⟨h1,?_⟩;rw[readL_of h1]
 simp[writeQ,pickQ]
theorem write_other_err {ps:List (List Int)} {qs:List (Int × List Int)} {m:Int} {p:List Int} (h:wrongAtL ps.length qs m=0) (o:Int):wrongAtL (writeB ps qs).length (writeQ qs m p) o=wrongAtL ps.length qs o:=by
 rw[wrongAtL_of (write_right h),wrongAtL_of (wrongAtL_zero h).1,writeB_len]
theorem write_other {ps:List (List Int)} {qs:List (Int × List Int)} {m:Int} {p:List Int} (h:wrongAtL ps.length qs m=0) {o:Int} (ho:¬o=m):readL (writeB ps qs) (writeQ qs m p) o=readL ps qs o:=by
 have he:=write_other_err (p:=p) h o
 by_cases hz:wrongAtL ps.length qs o=0
 ·rw[readL_of hz,readL_of (he.trans hz)];have hmo:(m == o)=Xd:=by simpa using fun e=>ho (Eq.symm e)
  unfold writeQ writeB
  by_cases h4:qs.length=400
  ·rw[if_pos h4,if_pos h4]
   cases qs with
   | nil=>simp at h4
   | cons q0 r=>
    obtain⟨_,i,hoi,hio⟩:=wrongAtL_zero hz;obtain⟨i0,hq0,hi0⟩:=(wrongL_zero (wrongAtL_zero h).1).2.2 q0 (by simp)
    simp only[List.tail_cons,List.headD_cons,Yr,List.reverse_cons,List.reverse_nil,Yd,Yc,List.find?_cons,hmo,Yy]
    cases hf:r.reverse.find? (fun q=>q.1 == o)with
    | some q=>rfl
    | none=>
     simp only[Option.none_or]
     cases hq:(q0.1 == o)with
     | true=>
      have:q0.1=o:=by simpa using hq
      subst this;simp only[hq0,tN,pickQ]
      simp[hi0]
     | false=>
      have:q0.1≠o:=by simpa using hq
      simp only[List.find?_nil,pickQ];rw[gD,gD,sN];rw[hq0,hoi]at this;rw[hq0,hoi];simp only[tN];omega
  rw[if_neg h4,if_neg h4]
  simp[hmo]
 have hz':¬wrongAtL (writeB ps qs).length (writeQ qs m p) o=0:=by rw[he];exact hz
 unfold readL;rw[if_neg hz,if_neg hz']
def cutTo (p:List Int) (idx size:Int) (k:Nat):List Int:=p.mapIdx fun i z=>if i<k/\size<=8*idx+(i:Int)then 0 else z
theorem cutTo_len (p:List Int) (idx size:Int) (k:Nat):(cutTo p idx size k).length=p.length:=by unfold cutTo;simp
theorem cutTo_all {p:List Int} {idx size:Int} {k:Nat} (h:p.length<=k):cutTo p idx size k=cutP p idx size:=by
 unfold cutTo cutP
 apply Yb
 intro i;rw[Xu,Xu]
 cases hp:p[i]? with
 | none=>rfl
 | some z=>
  have:=(gS.1 hp).1;have hk:i<k:=by omega
  simp[hk]
theorem cutTo_cut {p:List Int} {idx size:Int} {k:Nat} (hk:k<p.length) (h:size<=8*idx+(k:Int)):(cutTo p idx size k).set k 0=cutTo p idx size (k+1):=by
 unfold cutTo
 apply Yb
 intro i
 by_cases e:i=k
 ·subst e;rw[sF (by simpa using hk),Xu,gE hk]
  simp[h]
 rw[sN (fun h=>e h.symm),Xu,Xu]
 cases p[i]? with
 | none=>rfl
 | some z=>
  have:i<k↔i<k+1:=by omega
  simp[this]
theorem readL8 {ps:List (List Int)} {qs:List (Int × List Int)} {b:Int} (h1:∀p∈ps,p.length=8) (h2:∀q∈qs,q.2.length=8):(readL ps qs b).length=8:=by
 unfold readL
 split
 ·cases h:qs.reverse.find? (fun q=>q.1 == b)with
  | some q=>exact h2 q (by have:=Yf h;simpa using this)
  | none=>
   simp only;rw[gD]
   cases h3:ps[b.toNat]? with
   | none=>rfl
   | some p=>exact h1 p (mG h3)
 rfl
theorem lookup_in {α:Type} {k:Nat} {s:α}:∀{S:List (Nat × α)},S.lookup k=Xa s->(k,s)∈S
 | [],h=>by simp at h
 | (p,a) :: S,h=>by
  by_cases h1:k=p
  ·subst h1
   simp at h
   subst h;simp
  have e1:(k == p)=Xd:=by simpa using h1
  rw[List.lookup_cons,e1]at h;exact List.mem_cons_of_mem _ (lookup_in h)
theorem BoxT.part {w:Xn} {b:Nat} {t:TypeId}:∀{ds cs:List Xq} {o:Nat},BoxT w b t cs->o+ds.length<=cs.length->BoxT (w.setCells b o ds) b t (splice cs o ds):=by
 have key:∀(ds cs:List Xq) (o:Nat) (w:Xn),BoxT w b t cs->o+ds.length<=cs.length->BoxT (w.setCells b o ds) b t (splice cs o ds):=fun ds=>by
  induction ds with
  | nil=>
   intro cs o w h hl;have:splice cs o []=cs:=by simp[splice]
   rw[this];exact h
  | cons d ds ih=>
   intro cs o w h hl;simp only[Xt]at hl;have h1:=h.set o d;have h2:=ih (cs.set o d) (o+1) (w.setCell ⟨b,o,Xb⟩ d) h1 (by simp;omega)
   have h3:splice (cs.set o d) (o+1) ds=splice cs o (d :: ds):=by
    unfold splice;rw[List.take_set,List.drop_set,if_pos (by omega),List.take_add_one,gE (by omega)]
    simp only[Xt,Option.toList_some];rw[List.set_append_right _ _ (by simp;omega),show o+1+ds.length=o+(ds.length+1) by omega]
    simp[Yk,Nat.min_eq_left (show o<=cs.length by omega)]
   rw[h3]at h2;exact h2
 exact fun{ds cs o} h hl=>key ds cs o w h hl
theorem wp_storeAllT {ops:Array Oper} {rest:List Oper} {o:Oper} {a:Act} {w:Xn} {Q:Exit->Act->Xn->Prop} (hgd:o.guard=Xb) (ty:TypeId) (p x:Operand) (ho:o.op= .store ty p x) (b:Nat) (hp:a.eval p= Xj (Xa ⟨b,0,Xb⟩)) (vs:List Xq) (hx:a.eval x= Xi vs.toArray)
  {cs:List Xq} {t:TypeId} (hb:BoxT w b t cs) (hl:vs.length=cs.length) (hi:(Tryz.prog.info? ty).map (·.size)=Xa cs.length) (h1:∀v∈vs,v.oneCell'=Xc)
  (h:∀w',BoxT w' b t vs->w.grownBy w' (Xa b)->w'.heap.size=w.heap.size->wpList Tryz.prog ops Q rest (a.put o.dst undef) w'):wpList Tryz.prog ops Q (o :: rest) a w:=by
 refine wpList_store_mid hgd ty p x ho b 0 vs.toArray hp hx ?_ ?_ (all_oneCell_toArray h1) ?_
 ·simpa [hl]using hb.box.there
 ·simpa [hl]using hi
 have:=hb.part (ds:=vs) (o:=0) (by omega)
 rw[splice_all hl]at this;exact h _ this (setCells_grown b vs 0 w).1 (setCells_grown b vs 0 w).2
end
section
def seeE (m:Ma) (x:On) (e:En):List Int × Bool × Int:=
 if x.is=Xd then(zero8,Xd,5)
 else if e.kind=1 then(pgL (frAt m e.n).p,decide ((frAt m e.n).f<0),0)
 else if e.kind=2 then(readL m.sb m.sq e.n,Xc,0)
 else if x.file<0 then(zero8,Xd,0)
 else if bkN m x.file<=x.page then(zero8,Xd,9)
 else(contL m x.file x.page,Xd,0)
theorem view_see {m:Ma} {p n:Nat} {s:Sp} (hs:m.sp[p]? =Xa s) (hn:n<64):viewR m (p:Int) (n:Int)=seeE m (onAt s.ars n) (flatN s n):=by
 have hp:=(gS.1 hs).1;unfold viewR;rw[if_neg (by omega)]
 simp only[tN,gD,hs,Option.getD_some];rfl
theorem view_out {m:Ma} {p n:Int} (h:p<0\/(m.sp.length:Int)<=p\/n<0\/63<n):viewR m p n=(zero8,Xd,5):=by
 unfold viewR;rw[if_pos h]
theorem see_same {m m':Ma} {x:On} {e e':En} (hk:e'.kind=e.kind) (hn:e'.n=e.n) (h1:e.kind=1->(frAt m' e.n).p=(frAt m e.n).p/\((frAt m' e.n).f<0↔(frAt m e.n).f<0)) (h2:e.kind=2->readL m'.sb m'.sq e.n=readL m.sb m.sq e.n)
  (hb:∀file,bkN m' file=bkN m file) (hc:∀file idx,contL m' file idx=contL m file idx):seeE m' x e'=seeE m x e:=by
 unfold seeE;rw[hk,hn,hb,hc]
 by_cases h0:x.is=Xd
 ·rw[if_pos h0,if_pos h0]
 rw[if_neg h0,if_neg h0]
 by_cases e1:e.kind=1
 ·rw[if_pos e1,if_pos e1,(h1 e1).1,decide_eq_decide.2 (h1 e1).2]
 rw[if_neg e1,if_neg e1]
 by_cases e2:e.kind=2
 ·rw[if_pos e2,if_pos e2,h2 e2]
 rw[if_neg e2,if_neg e2]
theorem cont_same {m m':Ma} (hca:m'.ca=m.ca) (hfl:m'.fl=m.fl) (hdb:m'.db=m.db) (hdq:m'.dq=m.dq) (hfr:∀c∈m.ca,(frAt m' c.fr).p=(frAt m c.fr).p) (file idx:Int):contL m' file idx=contL m file idx:=by
 unfold contL;rw[hca]
 cases hq:m.ca.find? (hitC file idx)with
 | some c=>
  simp only;rw[hfr c (Yf hq)]
 | none=>
  simp only;unfold blAt szAt;rw[hfl,hdb,hdq]
section
variable{m:Ma} {T:List (Nat->En)}
theorem BInv.marks (h:BInv m T) {k:Nat} {fr:Fr} {p:Pg} {u d:Bool} (hk:m.fs[k]? =Xa fr) (hr:fr.r≠0):BInv { m with fs:=m.fs.set k { fr with p:=p,u:=u,d:=d } } T:=by
 have hkl:=(gS.1 hk).1;have hsh:=h.fok fr (mG hk);have hfa:∀z:Int,0<=z->(frAt { m with fs:=m.fs.set k { fr with p:=p,u:=u,d:=d } } z).f=(frAt m z).f/\(frAt { m with fs:=m.fs.set k { fr with p:=p,u:=u,d:=d } } z).x=(frAt m z).x/\(frAt { m with fs:=m.fs.set k { fr with p:=p,u:=u,d:=d } } z).r=(frAt m z).r:=fun z hz=>by
  rw[frAt_set hkl z hz]
  by_cases e:z=(k:Int)
  ·subst e;rw[if_pos rfl,frAt_of hk];exact⟨rfl,rfl,rfl⟩
  rw[if_neg e];exact⟨rfl,rfl,rfl⟩
 refine⟨by simpa using h.fs40,fun g hg=>?_,h.sl60,h.sbl,h.sq,h.dok,h.st,h.cnt,h.blk,h.que,h.spl,h.spok,h.tl,?_,fun q s g hs hg j hj=>?_,fun j g hj=>?_,h.cs⟩
 ·rcases Xy hg with hg | rfl
  ·exact h.fok g hg
  obtain⟨c1,c2,c3,c4,c5⟩:=hsh;exact⟨c1,c2,c3,fun h=>absurd h hr,c5⟩
 ·obtain⟨a1,a2,a3⟩:=caGo_zero.1 h.ca;refine caGo_zero.2 ⟨fun c hc=>?_,fun q c hq=>(by cases hq),a3⟩
  obtain⟨b1,b2,b3,b4⟩:=caE_ok (a1 c hc);obtain⟨e1,e2,e3⟩:=hfa c.fr b1.2.2.2.2.1;exact caE_of (by simpa [bkN]using b1) (by rw[e3];exact b2) (by rw[e1];exact b3) (by rw[e2];exact b4)
 ·rcases h.ent q s g hs hg j hj with e | e
  ·exact .inl e
  refine .inr ⟨e.1,e.2.1,entE_keep e.2.2 rfl (by simp) fun hk2=>?_⟩
  obtain⟨c1,c2,c3,c4⟩:=entE_present e hk2;obtain⟨e1,e2,e3⟩:=hfa (g j).n c2;exact⟨e1,e2,by rw[e3];exact c4⟩
 by_cases e:j=k
 ·subst e;simp only at hj;rw[sF hkl]at hj;cases hj;exact h.cf j fr hk
 simp only at hj;rw[sN (fun h=>e h.symm)]at hj
 exact h.cf j g hj
theorem BInv.entry (h:BInv m T) {p n:Nat} {f:Nat->En} {e:En} {s:Sp} (hs:m.sp[p]? =Xa s) (hT:T[p]? =Xa f) (hn:n<64) (hk:e.kind=(f n).kind) (hn2:e.n=(f n).n) (he:EntOk m (onAt s.ars n) e):BInv m (T.set p (updF f n e)):=by
 have hpl:=(gS.1 hT).1;have hh:=hold_same (e':=e) hT hn hk hn2;refine⟨h.fs40,h.fok,h.sl60,h.sbl,h.sq,h.dok,h.st,h.cnt,h.blk,h.que,h.spl,h.spok,by simpa using h.tl,h.ca,?_,fun k g hk=>?_,fun k z hk=>?_⟩
 ·refine ent_set hpl rfl hT (fun q s g hs hg j hj _=>h.ent q s g hs hg j hj) (fun s' hs'=>?_)
  rw[hs]at hs';cases hs';exact he
 ·rw[hh];exact h.cf k g hk
 rw[hh];exact h.cs k z hk
def letGo (fr:Fr):Fr:=if fr.r=1 then frF else{ fr with r:=fr.r - 1 }
theorem letGo_r (fr:Fr):(letGo fr).r=fr.r - 1:=by
 unfold letGo
 split
 ·simp[frF];omega
 rfl
theorem BInv.drop (h:BInv m T) {k p n:Nat} {fr:Fr} {f:Nat->En} (hk:m.fs[k]? =Xa fr) (hT:T[p]? =Xa f) (hn:n<64) (he:(f n).kind=1) (hen:(f n).n=(k:Int)):
  BInv { m with fs:=m.fs.set k (letGo fr) } (T.set p (updF f n en0)):=by
 have hkl:=(gS.1 hk).1;have hpl:=(gS.1 hT).1;have hsh:=h.fok fr (mG hk);have hcf:=h.cf k fr hk;have hpos:1<=holdN T 1 k:=by
  have:=held_of hT hn he;rw[hen]at this;exact this
 have hup:∀kind j:Int,holdN (T.set p (updF f n en0)) kind j+(isE (f n) kind j).toNat=holdN T kind j+(isE en0 kind j).toNat:=fun kind j=>hold_upd en0 kind j hT hn
 have hgo:fr.r≠1->letGo fr={ fr with r:=fr.r - 1 }:=fun h=>by unfold letGo;rw[if_neg h]
 have hca1:cachedN m.ca k≠0->fr.r≠1:=fun h1 h2=>by omega
 have hoth:holdN T 1 k ≥ 2->fr.r≠1:=fun h1 h2=>by omega
 refine⟨by simpa using h.fs40,fun g hg=>?_,h.sl60,h.sbl,h.sq,h.dok,h.st,h.cnt,h.blk,h.que,h.spl,h.spok,by simpa using h.tl,?_,?_,fun j g hj=>?_,fun j z hj=>?_⟩
 ·rcases Xy hg with hg | rfl
  ·exact h.fok g hg
  by_cases e:fr.r=1
  ·unfold letGo;rw[if_pos e];exact⟨by decide,by decide,.inl rfl,fun _=>rfl,fun _=>rfl⟩
  rw[hgo e];obtain⟨c1,c2,c3,c4,c5⟩:=hsh;exact⟨by simp only;omega,c2,c3,fun h=>by simp only at h;omega,c5⟩
 ·obtain⟨a1,a2,a3⟩:=caGo_zero.1 h.ca;refine caGo_zero.2 ⟨fun c hc=>?_,fun q c hq=>(by cases hq),a3⟩
  obtain⟨b1,b2,b3,b4⟩:=caE_ok (a1 c hc);have hf:=frAt_set (f:=letGo fr) hkl c.fr b1.2.2.2.2.1
  by_cases ec:c.fr=(k:Int)
  ·have hne:=hca1 (by have:=cached_pos hc;rw[ec]at this;exact this)
   rw[if_pos ec,hgo hne]at hf;rw[ec,frAt_of hk]at b2 b3 b4;refine caE_of (by simpa [bkN]using b1) ?_ ?_ ?_ <;> rw[hgo hne] <;> rw[hf]
   ·simp only;omega
   ·exact b3
   exact b4
  rw[if_neg ec]at hf;exact caE_of (by simpa [bkN]using b1) (by rw[hf];exact b2) (by rw[hf];exact b3) (by rw[hf];exact b4)
 ·intro q s g hs hg j hj
  by_cases same:q=p/\j=n
  ·obtain⟨rfl,rfl⟩:=same;rw[sF hpl]at hg;cases hg;left;unfold updF;rw[if_pos rfl]
  have hold:∃g0,T[q]? =Xa g0/\g j=g0 j:=by
   by_cases eq:q=p
   ·subst eq;rw[sF hpl]at hg;cases hg;refine⟨f,hT,?_⟩;unfold updF;rw[if_neg (fun e=>same ⟨rfl,e⟩)]
   rw[sN (fun h=>eq h.symm)]at hg
   exact⟨g,hg,rfl⟩
  obtain⟨g0,hg0,hgj⟩:=hold;rw[hgj]
  rcases h.ent q s g0 hs hg0 j hj with e | e
  ·exact .inl e
  refine .inr ⟨e.1,e.2.1,entE_keep e.2.2 rfl (by simp) fun hk2=>?_⟩
  obtain⟨c1,c2,c3,c4⟩:=entE_present e hk2;rw[frAt_set hkl _ c2]
  by_cases ec:(g0 j).n=(k:Int)
  ·have h2:=hold_two hT hn (kind:=1) (k:=(k:Int)) (by simp[isE,he,hen]) hg0 hj (by simp[isE,c1,ec]) (by
    by_cases e3:p=q
    ·right;intro e4;exact same ⟨e3.symm,e4.symm⟩
    exact .inl e3) (by decide)
   rw[if_pos ec,hgo (hoth h2),ec,frAt_of hk];refine⟨rfl,rfl,fun g1 g2=>?_⟩
   have:=c4 g1 (by rw[ec,frAt_of hk];exact g2)
   rw[ec,frAt_of hk]at this;simp only;omega
  rw[if_neg ec];exact⟨rfl,rfl,c4⟩
 ·simp only at hj⊢;have hu:=hup 1 j;rw[isE_none 1 j (by decide)]at hu
  by_cases ej:j=k
  ·subst ej;rw[sF hkl]at hj;cases hj;have h1:isE (f n) 1 (j:Int)=Xc:=by simp[isE,he,hen]
   rw[h1]at hu
   simp at hu
   rw[letGo_r];refine⟨by omega,fun hf=>?_⟩
   by_cases e:fr.r=1
   ·unfold letGo at hf;rw[if_pos e]at hf
    simp[frF]at hf
   rw[hgo e]at hf;exact hcf.2 hf
  rw[sN (fun h=>ej h.symm)]at hj
  rw[isE_other (by rw[hen];omega)]at hu
  have:=h.cf j g hj;refine⟨?_,this.2⟩
  simp at hu
  omega
 simp only at hj⊢;have hu:=hup 2 j;rw[isE_none 2 j (by decide),isE_kind (by rw[he];decide)]at hu
 have:=h.cs j z hj
 simp at hu
 omega
theorem BInv.dropS (h:BInv m T) {k p n:Nat} {z:Int} {f:Nat->En} (hk:m.sl[k]? =Xa z) (hT:T[p]? =Xa f) (hn:n<64) (he:(f n).kind=2) (hen:(f n).n=(k:Int)):
  BInv { m with sl:=m.sl.set k (z - 1) } (T.set p (updF f n en0)):=by
 have hkl:=(gS.1 hk).1;have hpl:=(gS.1 hT).1;have hpos:1<=holdN T 2 k:=hold_pos hT hn (by simp[isE,he,hen]) (by decide)
 have hup:∀kind j:Int,holdN (T.set p (updF f n en0)) kind j+(isE (f n) kind j).toNat=holdN T kind j+(isE en0 kind j).toNat:=fun kind j=>hold_upd en0 kind j hT hn
 refine⟨h.fs40,h.fok,by simpa using h.sl60,by simpa using h.sbl,h.sq,h.dok,h.st,h.cnt,h.blk,h.que,h.spl,h.spok,by simpa using h.tl,?_,?_,fun j g hj=>?_,fun j x hj=>?_⟩
 ·obtain⟨a1,a2,a3⟩:=caGo_zero.1 h.ca;exact caGo_zero.2 ⟨fun c hc=>a1 c hc,fun q c hq=>(by cases hq),a3⟩
 ·intro q s g hs hg j hj
  by_cases same:q=p/\j=n
  ·obtain⟨rfl,rfl⟩:=same;rw[sF hpl]at hg;cases hg;left;unfold updF;rw[if_pos rfl]
  have hold:∃g0,T[q]? =Xa g0/\g j=g0 j:=by
   by_cases eq:q=p
   ·subst eq;rw[sF hpl]at hg;cases hg;refine⟨f,hT,?_⟩;unfold updF;rw[if_neg (fun e=>same ⟨rfl,e⟩)]
   rw[sN (fun h=>eq h.symm)]at hg
   exact⟨g,hg,rfl⟩
  obtain⟨g0,hg0,hgj⟩:=hold;rw[hgj]
  rcases h.ent q s g0 hs hg0 j hj with e | e
  ·exact .inl e
  refine .inr ⟨e.1,e.2.1,entE_keep e.2.2 (by simp) rfl fun hk2=>?_⟩
  obtain⟨c1,c2,c3,c4⟩:=entE_present e hk2;exact⟨rfl,rfl,c4⟩
 ·have hu:=hup 1 j;rw[isE_none 1 j (by decide),isE_kind (by rw[he];decide)]at hu
  have:=h.cf j g hj;refine⟨?_,this.2⟩;simp only at this⊢
  simp at hu
  omega
 simp only at hj⊢;have hu:=hup 2 j;rw[isE_none 2 j (by decide)]at hu
 by_cases ej:j=k
 ·subst ej;rw[sF hkl]at hj;cases hj;have h1:isE (f n) 2 (j:Int)=Xc:=by simp[isE,he,hen]
  rw[h1]at hu;have:=h.cs j z hk
  simp at hu
  omega
 rw[sN (fun h=>ej h.symm)]at hj
 rw[isE_other (by rw[hen];omega)]at hu
 have:=h.cs j x hj
 simp at hu
 omega
end
def sumTo (g:Nat->Nat):Nat->Nat
 | 0=>0
 | n+1=>sumTo g n+g n
theorem sum_add (g h:Nat->Nat):∀n,sumTo (fun k=>g k+h k) n=sumTo g n+sumTo h n
 | 0=>rfl
 | n+1=>by
  have:=sum_add g h n;unfold sumTo;omega
theorem sum_zero:∀n,sumTo (fun _=>0) n=0
 | 0=>rfl
 | n+1=>by
  unfold sumTo;rw[sum_zero n]
theorem sum_one (z:Int):∀n,sumTo (fun k=>(decide (z=(k:Int))).toNat) n<=1/\((n:Int)<=z->sumTo (fun k=>(decide (z=(k:Int))).toNat) n=0)
 | 0=>⟨nZ _,fun _=>rfl⟩
 | n+1=>by
  obtain⟨h1,h2⟩:=sum_one z n;unfold sumTo
  by_cases e:z=(n:Int)
  ·have h3:=h2 (by omega)
   simp only[e,decide_true,Bool.toNat_true]at h3⊢;exact⟨by omega,fun h=>by omega⟩
  simp only[e,decide_false,Bool.toNat_false];exact⟨by omega,fun h=>by have:=h2 (by omega);omega⟩
def presTo (f:Nat->En):Nat->Nat
 | 0=>0
 | n+1=>presTo f n+(decide ((f n).kind=1)).toNat
def presN (T:List (Nat->En)):Nat:=(T.map fun f=>presTo f 64).sum
theorem cnt_pres (f:Nat->En) (N:Nat):∀n,sumTo (fun k=>cntTo f 1 (k:Int) n) N<=presTo f n
 | 0=>by
  have:(fun k:Nat=>cntTo f 1 (k:Int) 0)=fun _=>0:=rfl
  rw[this,sum_zero];exact nR _
 | n+1=>by
  have ih:=cnt_pres f N n;have h1:(fun k:Nat=>cntTo f 1 (k:Int) (n+1))=fun k:Nat=>cntTo f 1 (k:Int) n+(isE (f n) 1 (k:Int)).toNat:=rfl
  rw[h1,sum_add];have h2:sumTo (fun k:Nat=>(isE (f n) 1 (k:Int)).toNat) N<=(decide ((f n).kind=1)).toNat:=by
   by_cases e:(f n).kind=1
   ·have h3:(fun k:Nat=>(isE (f n) 1 (k:Int)).toNat)=fun k:Nat=>(decide ((f n).n=(k:Int))).toNat:=by
     funext k
     simp[isE,e]
    rw[h3];simp only[e,decide_true,Bool.toNat_true];exact(sum_one _ N).1
   have h3:(fun k:Nat=>(isE (f n) 1 (k:Int)).toNat)=fun _=>0:=by
    funext k
    simp[isE,e]
   rw[h3,sum_zero];exact nZ _
  unfold presTo;omega
theorem hold_pres (N:Nat):∀T:List (Nat->En),sumTo (fun k=>holdN T 1 (k:Int)) N<=presN T
 | []=>by
  have:(fun k:Nat=>holdN [] 1 (k:Int))=fun _=>0:=rfl
  rw[this,sum_zero];exact nZ _
 | f :: T=>by
  have h1:=cnt_pres f N 64;have h2:=hold_pres N T;have h3:(fun k:Nat=>holdN (f :: T) 1 (k:Int))=fun k:Nat=>cntTo f 1 (k:Int) 64+holdN T 1 (k:Int):=by
   funext k
   simp[holdN]
  rw[h3,sum_add];simp only[presN,mP,List.sum_cons]at h2⊢;omega
theorem cached_sum (N:Nat):∀ca:List Ca,sumTo (fun k=>cachedN ca (k:Int)) N<=ca.length
 | []=>by
  have:(fun k:Nat=>cachedN [] (k:Int))=fun _=>0:=rfl
  rw[this,sum_zero];exact nZ _
 | c :: ca=>by
  have h1:=cached_sum N ca;have h2:=(sum_one c.fr N).1;have h3:(fun k:Nat=>cachedN (c :: ca) (k:Int))=fun k:Nat=>cachedN ca (k:Int)+(decide (c.fr=(k:Int))).toNat:=by
   funext k
   unfold cachedN;rw[List.countP_cons]
   by_cases e:c.fr=(k:Int) <;> simp[e]
  rw[h3,sum_add];simp only[Xt];omega
def heldN (fs:List Fr):Nat:=fs.countP fun f=>!decide (f.r=0)
theorem held_sum:∀(fs:List Fr) (o:Nat) (g:Nat->Nat),(∀(k:Nat) f,fs[k]? =Xa f->f.r≠0->1<=g (o+k))->heldN fs<=sumTo (fun k=>g (o+k)) fs.length
 | [],_,_,_=>by simp[heldN]
 | f :: fs,o,g,h=>by
  have ih:=held_sum fs (o+1) g fun k x hx hr=>by
   have:=h (k+1) x (by simpa using hx) hr
   rw[show o+(k+1)=o+1+k by omega]at this
   exact this
  have shift:∀n,sumTo (fun k=>g (o+k)) (n+1)=g o+sumTo (fun k=>g (o+1+k)) n:=by
   intro n
   induction n with
   | zero=>simp[sumTo]
   | succ n ihn=>
    unfold sumTo;rw[ihn,show o+(n+1)=o+1+n by omega]
    unfold sumTo;omega
  rw[Xt,shift];unfold heldN at ih⊢;rw[List.countP_cons]
  by_cases e:f.r=0
  ·simp[e]
   omega
  have:=h 0 f rfl e
  simp[e]
  rw[Nat.add_zero]at this;omega
theorem BInv.heldLe {m:Ma} {T:List (Nat->En)} (h:BInv m T):heldN m.fs<=presN T+m.ca.length:=by
 have h1:=held_sum m.fs 0 (fun k=>holdN T 1 (k:Int)+cachedN m.ca (k:Int)) fun k f hk hr=>by
  have:=(h.cf k f hk).1;simp only[zA];omega
 have h2:=hold_pres m.fs.length T;have h3:=cached_sum m.fs.length m.ca;simp only[zA]at h1;rw[sum_add]at h1;omega
end
section
open Go.RowKit
section
variable{α:Type} {E:Elt α}
theorem run_store_part {w:Xn} {o:Oper} {a:Act} (p x:Operand) (t:TypeId) (ho:o.op= .store t p x) (base:Nat) (v:Xq) (l:List α) (hown:OwnRow E base w v l)
  (g i j:Nat) (hg:v.ownBlock=Xa g) (e y:α) (hi:l[i]? =Xa e) (cs:List Xq) (hk:(Tryz.prog.info? t).map (·.size)=Xa cs.length) (hy:E.enc y=splice (E.enc e) j cs) (hj:j+cs.length<=E.k) (h1:∀u∈cs,u.oneCell'=Xc)
  (ad:Addr) (hp:a.eval p= Xj (Xa ad)) (had:ad=⟨g,i*E.k+j,Xb⟩) (vx:Xq) (hx:a.eval x=vx) (hvx:vx.cells=cs.toArray):
  ∃w',(execOp a.eval o).run Tryz.prog w= .ok .skip w'/\OwnRow E base w' v (l.set i y)/\w.grownBy w' (Xa g)/\w'.heap.size=w.heap.size:=by
 subst had;have hil:i<l.length:=(gS.1 hi).1;have hfit:i*E.k+j+cs.length<=l.length*E.k:=by
  have:(i+1)*E.k<=l.length*E.k:=Nat.mul_le_mul_right _ hil;rw[Nat.add_mul]at this;omega
 obtain⟨w',hr,h2,h3,h4⟩:=run_storeCells_row (P:=Tryz.prog) hown.1 hg (i*E.k+j) cs hfit h1;have hsz:(Go.sizeOf t).run Tryz.prog w= .ok cs.length w:=by
  cases hq:Tryz.prog.info? t with
  | none=>simp[hq]at hk
  | some i=>simp[hq]at hk;simp[Go.sizeOf,typeInfo,hq,hk]
 have hall:(Instr.storeAt t (Xj (Xa ⟨g,i*E.k+j,Xb⟩)) vx).run Tryz.prog w= .ok () w':=by
  simp[Instr.storeAt,Instr.sureAddr,storeVar,Xs,hsz,Result.andThen,hvx,hr]
 rw[splice_part j cs hy hj l i hi]at h2;refine⟨w',?_,⟨by rw[Xz];exact h2,by rw[Xz];exact hown.2⟩,h3,h4⟩
 simp only[execOp,ho,hp,hx,Xs,hall,Result.andThen,Xw]
theorem does_skip {P:Program} {o:Oper} {a:Act} {w w':Xn} {K:Xq->Xn->Prop} (hr:(execOp a.eval o).run P w= .ok .skip w') (h:K undef w'):Does P o a w K:=by
 unfold Does;rw[hr];exact h
end
theorem does_storeT {o:Oper} {a:Act} {w:Xn} {K:Xq->Xn->Prop} (ty:TypeId) (p x:Operand) (ho:o.op= .store ty p x) (b off:Nat) (hp:a.eval p= Xj (Xa ⟨b,off,Xb⟩)) (vx:Xq) (hx:a.eval x=vx) (vs:List Xq) (hvx:vx.cells=vs.toArray)
  {t:TypeId} {cs:List Xq} (hb:BoxT w b t cs) (hl:off+vs.length<=cs.length) (hi:(Tryz.prog.info? ty).map (·.size)=Xa vs.length) (h1:∀v∈vs,v.oneCell'=Xc)
  (h:∀w',BoxT w' b t (splice cs off vs)->w.grownBy w' (Xa b)->w'.heap.size=w.heap.size->K undef w'):Does Tryz.prog o a w K:=by
 have hag:(Value.agg vs.toArray).cells=vs.toArray:=by
  unfold Value.cells;simp
 have hr:(execOp a.eval o).run Tryz.prog w= .ok .skip (w.setCells b off vs):=by
  have h2:=run_storeAt_mid (P:=Tryz.prog) w b off ty vs.toArray (fun j hj=>by
   have:=hb.box.there (off+j) (by simp at hj;omega)
   rw[zA]at this;exact this) (by simpa using hi) (all_oneCell_toArray h1)
  have h3:(Instr.storeAt ty (Xj (Xa ⟨b,off,Xb⟩)) vx).run Tryz.prog w=(Instr.storeAt ty (Xj (Xa ⟨b,off,Xb⟩)) (Xi vs.toArray)).run Tryz.prog w:=by
   simp only[Instr.storeAt,Instr.sureAddr,storeVar,hvx,hag]
  simp only[execOp,ho,hp,hx,Xs,h3,h2,rA,Xw]
 exact does_skip hr (h _ (hb.part (ds:=vs) (o:=off) hl) (setCells_grown b vs off w).1 (setCells_grown b vs off w).2)
theorem wp_storeT {ops:Array Oper} {rest:List Oper} {o:Oper} {a:Act} {w:Xn} {Q:Exit->Act->Xn->Prop} (hgd:o.guard=Xb) (ty:TypeId) (p x:Operand) (ho:o.op= .store ty p x) (b off:Nat) (hp:a.eval p= Xj (Xa ⟨b,off,Xb⟩)) (vx:Xq) (hx:a.eval x=vx) (vs:List Xq) (hvx:vx.cells=vs.toArray)
  {t:TypeId} {cs:List Xq} (hb:BoxT w b t cs) (hl:off+vs.length<=cs.length) (hi:(Tryz.prog.info? ty).map (·.size)=Xa vs.length) (h1:∀v∈vs,v.oneCell'=Xc)
  (h:∀w',BoxT w' b t (splice cs off vs)->w.grownBy w' (Xa b)->w'.heap.size=w.heap.size->wpList Tryz.prog ops Q rest (a.put o.dst undef) w'):wpList Tryz.prog ops Q (o :: rest) a w:=
 wpList_plain hgd fun _ hK=>(does_storeT (K:=fun v w'=>v=undef/\wpList Tryz.prog ops Q rest (a.put o.dst undef) w') ty p x ho b off hp vx hx vs hvx hb hl hi h1 (fun w' k1 k2 k3=>⟨rfl,h w' k1 k2 k3⟩)).wp (fun v w' hk=>hK _ _ (by rw[hk.1];exact hk.2))
theorem does_load {o:Oper} {a:Act} {w:Xn} {K:Xq->Xn->Prop} (ty:TypeId) (x:Operand) (ho:o.op= .load ty x) (b off:Nat) (hx:a.eval x= Xj (Xa ⟨b,off,Xb⟩)) (vs:List Xq) (hc:w.rangeAt b off vs) {d:TypeDesc} (hu:Tryz.prog.underlying ty=Xa d) (hd:d.isRow=Xc) (hi:(Tryz.prog.info? ty).map (·.size)=Xa vs.length) (h:K (Xi vs.toArray) w):Does Tryz.prog o a w K:=by
 have:=run_loadAt_mid (P:=Tryz.prog) w b off ty vs d hc hu hd hi;exact Does.step (by simp only[execOp,ho,hx,Xs,this,rA,Xw]) h
theorem does_load1 {o:Oper} {a:Act} {w:Xn} {K:Xq->Xn->Prop} (ty:TypeId) (x:Operand) (ho:o.op= .load ty x) (b off:Nat) (hx:a.eval x= Xj (Xa ⟨b,off,Xb⟩)) (v:Xq) (hc:w.cell? ⟨b,off,Xb⟩=Xa v) {d:TypeDesc} (hu:Tryz.prog.underlying ty=Xa d) (hd:d.isRow=Xd) (h:K v w):Does Tryz.prog o a w K:=by
 have hagg:(isAgg ty).run Tryz.prog w= .ok Xd w:=by
  unfold isAgg;rw[Xs,run_underlying hu w]
  cases d <;> simp_all [TypeDesc.isRow]
 have h2:(loadVar ty ⟨b,off,Xb⟩).run Tryz.prog w= .ok v w:=by simp[loadVar,Xs,hagg,hc]
 exact Does.step (by simp only[execOp,ho,hx,Instr.loadAt,Instr.sureAddr,Xs,Xw,h2,rA]) h
theorem does_store_partC {α:Type} {E:Elt α} {w:Xn} {o:Oper} {a:Act} {K:Xq->Xn->Prop} (p x:Operand) (t:TypeId) (ho:o.op= .store t p x) (base:Nat) (v:Xq) (l:List α) (hown:OwnRow E base w v l)
  (g i j:Nat) (hg:v.ownBlock=Xa g) (e y:α) (hi:l[i]? =Xa e) (cs:List Xq) (hk:(Tryz.prog.info? t).map (·.size)=Xa cs.length) (hy:E.enc y=splice (E.enc e) j cs) (hj:j+cs.length<=E.k) (h1:∀u∈cs,u.oneCell'=Xc)
  (ad:Addr) (hp:a.eval p= Xj (Xa ad)) (had:ad=⟨g,i*E.k+j,Xb⟩) (vx:Xq) (hx:a.eval x=vx) (hvx:vx.cells=cs.toArray)
  (h:∀w',OwnRow E base w' v (l.set i y)->w.grownBy w' (Xa g)->w'.heap.size=w.heap.size->K undef w'):Does Tryz.prog o a w K:=by
 obtain⟨w',h2,h3,h4,h5⟩:=run_store_part p x t ho base v l hown g i j hg e y hi cs hk hy hj h1 ad hp had vx hx hvx;exact does_skip h2 (h w' h3 h4 h5)
theorem TabS.form {B0 B1:Nat} {w:Xn} {us:List Xq} {t:List (List En)} (h:TabS B0 B1 w us t):∃t0 t1 t2 t3 t4 t5 t6 t7:Sli,us=[t0.v,t1.v,t2.v,t3.v,t4.v,t5.v,t6.v,t7.v]:=by
 obtain⟨u0,u1,u2,u3,u4,u5,u6,u7,rfl⟩:=eight h.len;obtain⟨y0,y1,y2,y3,y4,y5,y6,y7,rfl⟩:=eight h.tlen;obtain⟨a0,c0,rfl,_⟩:=(h.row 0 _ _ rfl rfl).now.rows;obtain⟨a1,c1,rfl,_⟩:=(h.row 1 _ _ rfl rfl).now.rows;obtain⟨a2,c2,rfl,_⟩:=(h.row 2 _ _ rfl rfl).now.rows;obtain⟨a3,c3,rfl,_⟩:=(h.row 3 _ _ rfl rfl).now.rows;obtain⟨a4,c4,rfl,_⟩:=(h.row 4 _ _ rfl rfl).now.rows;obtain⟨a5,c5,rfl,_⟩:=(h.row 5 _ _ rfl rfl).now.rows;obtain⟨a6,c6,rfl,_⟩:=(h.row 6 _ _ rfl rfl).now.rows;obtain⟨a7,c7,rfl,_⟩:=(h.row 7 _ _ rfl rfl).now.rows;exact⟨⟨a0,_,c0⟩,⟨a1,_,c1⟩,⟨a2,_,c2⟩,⟨a3,_,c3⟩,⟨a4,_,c4⟩,⟨a5,_,c5⟩,⟨a6,_,c6⟩,⟨a7,_,c7⟩,rfl⟩
theorem holdM_sp (m:Ma) (e:En) (n:Int):(holdM m e n).sp=m.sp:=by
 unfold holdM
 split
 ·rfl
 split <;> rfl
theorem enterM_len (m:Ma) (q:Nat) (n:Int) (e:En):(enterM m q n e).sp.length=m.sp.length:=by simp[enterM]
def RightSp (m:Ma):Prop:=∀s∈m.sp,(wrL s.ars).1=0/\tbW s.tb=0
theorem rightSp {m:Ma} (h:wSpaces m=0):RightSp m:=fun s hs=>by
 unfold wSpaces at h
 split at h
 ·cases h
 have:=firstE_zero.1 h (spE s) (Xx.2 ⟨s,hs,rfl⟩);unfold spE at this
 split at this
 ·rename_i a;exact absurd this a
 rename_i a
 split at this
 ·rename_i b;exact absurd this b
 rename_i b;exact⟨by simpa using a,by simpa using b⟩
theorem flat_ok {s:Sp} (h:tbW s.tb=0) (n:Nat):enW (flatN s n)=0:=by
 unfold flatN getN;have hall:=tbW_zero.1 h;have:HaOk (s.tb[n / 8]?.getD []):=by
  cases e:s.tb[n / 8]? with
  | none=>exact .inl rfl
  | some x=>exact hall x (mG e)
 exact this.get (n % 8)
theorem get_flat {s:Sp} {n:Nat} (h:n<64):getT s.tb (n:Int)=flatN s n:=by
 unfold getT flatN;rw[if_pos (by omega),tN]
theorem pagesN_lt {s:Sp} {j n:Nat} (h:(pagesN s)[j]? =Xa n):n<64:=by
 have:=mG h;unfold pagesN at this;rw[List.mem_filter,List.mem_range]at this;exact this.1
theorem canP_at:∀{l:List Ar} {p:Option Ar} {k:Nat} {a:Ar},CanP p l->l[k]? =Xa a->ArOk a
 | [],_,_,_,_,h=>by simp at h
 | b :: l,p,0,a,hc,h=>by
  simp at h
  subst h;exact hc.1
 | b :: l,p,k+1,a,hc,h=>canP_at hc.2.2 (by simpa using h)
theorem wrongPagesM_any (V:MaV) (m:Ma) (w:Xn) (hm:MachAt w V m) (h1:Right1 m) (h2:RightSp m):
  Xp Tryz.prog 32 #[Xi #[O V.f.a V.f.n V.f.c,Xe Xf m.hand,O V.s.a V.s.n V.s.c,O V.sb.a V.sb.n V.sb.c,O V.sq.a V.sq.n V.sq.c,O V.db.a V.db.n V.db.c,O V.dq.a V.dq.n V.dq.c,O V.fl.a V.fl.n V.fl.c,Xe Xf m.cnt,O V.ca.a V.ca.n V.ca.c,O V.sp.a V.sp.n V.sp.c]] w fun e w'=>e= Xl (Xe Xf (wPages m))/\Grew w w':=by
 have HWE:Xo (∀(a:Ar) (n:Nat) (e:En) W,Grew w W->ArOk a->n<=64->0<=e.n->Xp Tryz.prog 68 #[Xi #[O V.f.a V.f.n V.f.c,Xe Xf m.hand,O V.s.a V.s.n V.s.c,O V.sb.a V.sb.n V.sb.c,O V.sq.a V.sq.n V.sq.c,O V.db.a V.db.n V.db.c,O V.dq.a V.dq.n V.dq.c,O V.fl.a V.fl.n V.fl.c,Xe Xf m.cnt,O V.ca.a V.ca.n V.ca.c,O V.sp.a V.sp.n V.sp.c],Xi #[Xe Xf a.fr,Xe Xf a.tz,Xh a.rd,Xh a.wr,Xh a.sh,Xe Xf a.file,Xe Xf a.base],Xe Xf (n:Int),Xi #[Xe Xf e.kind,Xe Xf e.n,Xh e.wr]] W fun e' w'=>e'= Xl (Xe Xf (wEntry m a n e))/\Grew W w'):=show∀(a:Ar) (n:Nat) (e:En) W,_ from fun a n e W hW ha hn he=>wrongEntryM_any V m a n e W (hm.grew hW) ha hn he
 have HM1:Xo (memW m.fs m.hand=0):=h1.mem;have HRS:Xo (RightSp m):=h2;obtain⟨vf,vs,vsb,vsq,vdb,vdq,vfl,vca,⟨spa,spn,spc⟩⟩:=V;dsimp only at HWE⊢;obtain⟨-,-,-,-,-,-,-,-,n9⟩:=hm.ns;dsimp only at n9;obtain⟨xs,hxl,hrow,hsp⟩:=hm.spaces;have HXL:Xo (xs.length=m.sp.length):=hxl;have HR:Xo (∀(j:Nat) x,xs[j]? =Xa x->∃ad,spa=Xa ad/\∀W,Grew w W->Sp10 W (ad.add (j*10)) x):=hrow;have HSP:Xo (∀(i:Nat) x s,xs[i]? =Xa x->m.sp[i]? =Xa s->SpaceAt w x s):=hsp;have HN:Xo (m.sp.length=spn):=n9.symm;have hbig:spn<=9223372036854775807:=by
  obtain⟨ys,k1,k2,_⟩:=hm.sp;have:=k1.short;omega
 obtain⟨Z,HZ⟩:∃Z,Xo (wPages m=Z):=⟨_,rfl⟩;rw[HZ.out];clear hm hxl hrow hsp n9 h1 h2;obtain⟨W0,hW0⟩:∃W0,w.alloc (Xk #[O vf.a vf.n vf.c,Xe Xf m.hand,O vs.a vs.n vs.c,O vsb.a vsb.n vsb.c,O vsq.a vsq.n vsq.c,O vdb.a vdb.n vdb.c,O vdq.a vdq.n vdq.c,O vfl.a vfl.n vfl.c,Xe Xf m.cnt,O vca.a vca.n vca.c,O spa spn spc] 42)=W0:=⟨_,rfl⟩;have HG0:=gA hW0
 have X0:=xA hW0
 have HW0:Xo (_=W0):=hW0;clear hW0
 go_enter Tryz.func32,Tryz.ntmps32
 go_upto_region 1 with fail;rw[HW0.out];have x10:=X0.out.c 10 rfl;go_wp2;clear x10
 go_loopg [12] spn (fun gg s12 wr=>∃kk:Nat,kk<=spn/\spn - kk<=gg/\s12= Xe Xf kk/\Xo (Grew w wr)/\Xo (Box wr w.heap.size [O vf.a vf.n vf.c,Xe Xf m.hand,O vs.a vs.n vs.c,O vsb.a vsb.n vsb.c,O vsq.a vsq.n vsq.c,O vdb.a vdb.n vdb.c,O vdq.a vdq.n vdq.c,O vfl.a vfl.n vfl.c,Xe Xf m.cnt,O vca.a vca.n vca.c,O spa spn spc])/\Xo (∀(j:Nat) s,j<kk->m.sp[j]? =Xa s->spEnt m s=0))
 case atStart=>exact⟨0,nZ _,by omega,rfl,HG0.out,X0.out,fun j s hj=>absurd hj (nL _)⟩
 obtain⟨kk,hkk,hgg,rfl,BW,XW,OW⟩:=hrel;clear X0 HG0
 by_cases hlt:kk<spn
 ·have hltz:(kk:Int)< (spn:Int):=by omega
  obtain⟨s,HS⟩:∃s,Xo (m.sp[kk]? =Xa s):=⟨_,gE (by rw[HN.out];exact hlt)⟩
  obtain⟨x,HX⟩:∃x,Xo (xs[kk]? =Xa x):=⟨_,gE (by rw[HXL.out,HN.out];exact hlt)⟩
  have HAT:Xo (SpaceAt w x s):=HSP.out kk x s HX.out HS.out;obtain⟨hok1,hok2⟩:=HRS.out s (mG HS.out);have HCN:Xo (CanP Xb s.ars):=(wrL_zero.1 hok1).2;have HTB:Xo (tbW s.tb=0):=hok2;have HAL:Xo (s.ars.length=x.ar.n):=HAT.out.ar.n.symm;have HAR:Xo (ArRows w x.ar.a s.ars):=show ArRows _ _ _ by
   obtain⟨_,_,q1,q2⟩:=HAT.out.ar.ars;simp only[vJ]at q1;rw[q1.1];exact q2
  clear hok1 hok2;obtain⟨ad,rfl,hl⟩:=HR.out kk x HX.out;obtain⟨d0,d1,d2,d3,d4,d5,d6,d7,d8,d9⟩:=hl wr BW.out;clear hl;go_upto_region 4 with fail;obtain⟨W1,hW1⟩:∃W1,wr.alloc (Xk #[Xh x.live,O x.ar.a x.ar.n x.ar.c,O x.t0.a x.t0.n x.t0.c,O x.t1.a x.t1.n x.t1.c,O x.t2.a x.t2.n x.t2.c,O x.t3.a x.t3.n x.t3.c,O x.t4.a x.t4.n x.t4.c,O x.t5.a x.t5.n x.t5.c,O x.t6.a x.t6.n x.t6.c,O x.t7.a x.t7.n x.t7.c] 76)=W1:=⟨_,rfl⟩;have HG1:=gT hW1 BW
  have X1:=yA hW1 XW
  have S1:=xA hW1
  rw[hW1];clear hW1 d0 d1 d2 d3 d4 d5 d6 d7 d8 d9;obtain⟨pb,HPB⟩:∃pb,Xo (wr.heap.size=pb):=⟨_,rfl⟩;rw[HPB.out]at S1⊢;have hcall:Xp Tryz.prog 66 #[Xi #[O x.t0.a x.t0.n x.t0.c,O x.t1.a x.t1.n x.t1.c,O x.t2.a x.t2.n x.t2.c,O x.t3.a x.t3.n x.t3.c,O x.t4.a x.t4.n x.t4.c,O x.t5.a x.t5.n x.t5.c,O x.t6.a x.t6.n x.t6.c,O x.t7.a x.t7.n x.t7.c]] W1 fun e w'=>∃v,e= Xl v/\OwnRow blE W1.heap.size w' v (pagesTo s.tb anyEn 64)/\Grew W1 w':=pagesTb_any x.tab s.tb W1 (HAT.out.grew HG1.out).tb
  have s2:=S1.out.c 2 rfl;have s3:=S1.out.c 3 rfl;have s4:=S1.out.c 4 rfl;have s5:=S1.out.c 5 rfl;have s6:=S1.out.c 6 rfl;have s7:=S1.out.c 7 rfl;have s8:=S1.out.c 8 rfl;have s9:=S1.out.c 9 rfl;go_wp2_with fail;refine hcall.mono ?_;clear hcall s2 s3 s4 s5 s6 s7 s8 s9;rintro e' W2 ⟨pv,rfl,ow2,hg2⟩;have HG2:=dD (HG1.out.trans hg2);have X2:=dD (X1.out.grew hg2);have S2:=dD (S1.out.grew hg2);clear hg2;obtain⟨pa,pc,rfl,hnr⟩:=ow2.at.nums;have hq0:=ow2.at.short;have HNR:Xo (NumRows W2 pa (pagesTo s.tb anyEn 64)):=hnr;rw[pagesTo_any,List.length_map]at hq0⊢;rw[pagesTo_any]at HNR;clear ow2 hnr;obtain⟨q,HQ⟩:∃q,Xo ((pagesN s).length=q):=⟨_,rfl⟩;rw[HQ.out]at hq0⊢;go_wp2;have HBW:Xo (Grew w wr):=BW;have HOW:Xo (∀(j:Nat) s,j<kk->m.sp[j]? =Xa s->spEnt m s=0):=OW;clear BW XW OW
  go_loopg [20] q (fun gg s20 wr=>∃i:Nat,i<=q/\q - i<=gg/\s20= Xe Xf i/\Xo (Grew W2 wr)/\Xo (∀(j:Nat) n,j<i->(pagesN s)[j]? =Xa n->entE m (onAt s.ars n) (flatN s n)=0))
  case atStart=>exact⟨0,nZ _,by omega,rfl,Grew.refl _,fun j s hj=>absurd hj (nL _)⟩
  obtain⟨i,hi,hg2,rfl,BW,OW⟩:=hrel
  by_cases hlt2:i<q
  ·have hltz2:(i:Int)< (q:Int):=by omega
   obtain⟨n,HNI⟩:∃n,Xo ((pagesN s)[i]? =Xa n):=⟨_,gE (by rw[HQ.out];exact hlt2)⟩
   have hn64:n<64:=pagesN_lt HNI.out;obtain⟨ad2,rfl,hl2⟩:=HNR.out i (n:Int) (by rw[Ya,HNI.out];rfl)
   have e0:=hl2 wr BW.out;clear hl2;have HGW:=dD (HG2.out.trans BW.out);have hcf:=find_any (O x.ar.a x.ar.n x.ar.c) s.ars (n:Int) wr (HAT.out.ar.grew HGW.out);have s1:=(S2.out.grew BW.out).c 1 rfl;go_wp2_with fail;refine hcf.mono ?_;clear hcf e0 s1;rintro e' W4 ⟨⟨z,rfl,hz⟩,hg4⟩;have HFZ:Xo (FindsZ s.ars (n:Int) z):=hz;have HG4:=dD (BW.out.trans hg4);have HGw4:=dD (HG2.out.trans HG4.out);clear hg4 hz
   by_cases hz0:z<0
   ·have HZE:Xo (Z=5):=show _=_ by
     have h5:entE m (onAt s.ars n) (flatN s n)=5:=by
      have:=finds_is HFZ.out;rw[decide_eq_false (by omega)]at this
      unfold entE;rw[if_pos this.symm]
     have h6:spEnt m s=5:=by rw[spEnt_pages,firstE_at HNI.out OW.out (by rw[h5];decide),h5]
     rw[<-HZ.out];unfold wPages;rw[firstE_at HS.out HOW.out (by rw[h6];decide),h6]
    go_wp2;go_ret;exact⟨by rw[HZE.out];rfl,HGw4.out⟩
   obtain⟨k,a,rfl,HKA,HIN⟩:∃(k:Nat) (a:Ar),z=(k:Int)/\Xo (s.ars[k]? =Xa a)/\Xo (inZ a (n:Int)=Xc):=by
    rcases HFZ.out with⟨k,a,q1,q2,q3⟩ | ⟨q1,_⟩
    ·exact⟨k,a,q1,q2,q3⟩
    omega
   have HAO:Xo (ArOk a):=canP_at HCN.out HKA.out;have hkl:k<x.ar.n:=by rw[<-HAL.out];exact(gS.1 HKA.out).1
   have HEN:Xo (entE m (onAt s.ars n) (flatN s n)=wEntry m a n (flatN s n)):=show _=_ by rw[onAt_uniq HCN.out HKA.out HIN.out,wEntry_eq HM1.out HAO.out]
   have hen0:0<=(flatN s n).n:=(enW_zero (flat_ok HTB.out n)).2.1.1;have HWE':Xo (∀W,Grew w W->Xp Tryz.prog 68 #[Xi #[O vf.a vf.n vf.c,Xe Xf m.hand,O vs.a vs.n vs.c,O vsb.a vsb.n vsb.c,O vsq.a vsq.n vsq.c,O vdb.a vdb.n vdb.c,O vdq.a vdq.n vdq.c,O vfl.a vfl.n vfl.c,Xe Xf m.cnt,O vca.a vca.n vca.c,O (Xa ad) spn spc],Xi #[Xe Xf a.fr,Xe Xf a.tz,Xh a.rd,Xh a.wr,Xh a.sh,Xe Xf a.file,Xe Xf a.base],Xe Xf (n:Int),enV (flatN s n)] W fun e' w'=>e'= Xl (Xe Xf (wEntry m a n (flatN s n)))/\Grew W w'):=show∀W,_ from fun W hW=>HWE.out a n (flatN s n) W hW HAO.out (by omega) hen0
   have HGT:Xo (∀W,Grew w W->Xp Tryz.prog 69 #[Xi #[O x.t0.a x.t0.n x.t0.c,O x.t1.a x.t1.n x.t1.c,O x.t2.a x.t2.n x.t2.c,O x.t3.a x.t3.n x.t3.c,O x.t4.a x.t4.n x.t4.c,O x.t5.a x.t5.n x.t5.c,O x.t6.a x.t6.n x.t6.c,O x.t7.a x.t7.n x.t7.c],Xe Xf (n:Int)] W fun e w'=>e= Xl (enV (flatN s n))/\Grew W w'):=show∀W,_ from fun W hW=>by
    have:=getTb_any x.tab s.tb (n:Int) W (HAT.out.grew hW).tb;rw[get_flat hn64]at this;exact this
   clear hen0;go_upto_region 10 with fail;obtain⟨ada,hva,hl⟩:=HAR.out k a HKA.out;have X4:=dD (X2.out.grew HG4.out);have S4:=dD (S2.out.grew HG4.out);have hx0:=X4.out.gw 0 rfl
   have hx1:=X4.out.gw 1 rfl
   have hx2:=X4.out.gw 2 rfl
   have hx3:=X4.out.gw 3 rfl
   have hx4:=X4.out.gw 4 rfl
   have hx5:=X4.out.gw 5 rfl
   have hx6:=X4.out.gw 6 rfl
   have hx7:=X4.out.gw 7 rfl
   have hx8:=X4.out.gw 8 rfl
   have hx9:=X4.out.gw 9 rfl
   have hx10:=X4.out.gw 10 rfl
   have hs1:=S4.out.gw 1 rfl
   have hs2:=S4.out.gw 2 rfl
   have hs3:=S4.out.gw 3 rfl
   have hs4:=S4.out.gw 4 rfl
   have hs5:=S4.out.gw 5 rfl
   have hs6:=S4.out.gw 6 rfl
   have hs7:=S4.out.gw 7 rfl
   have hs8:=S4.out.gw 8 rfl
   have hs9:=S4.out.gw 9 rfl
   rw[hva]at hs1;have hy0:∀y:GrownW W4,y.world.cell? (ada.add (k*7))=Xa (Xe Xf a.fr):=fun y=>(hl _ (HGw4.out.trans y.grew)).1
   have hy1:∀y:GrownW W4,y.world.cell? { block:=(ada.add (k*7)).block,off:=(ada.add (k*7)).off+1 }=Xa (Xe Xf a.tz):=fun y=>(hl _ (HGw4.out.trans y.grew)).2.1
   have hy2:∀y:GrownW W4,y.world.cell? { block:=(ada.add (k*7)).block,off:=(ada.add (k*7)).off+2 }=Xa (Xh a.rd):=fun y=>(hl _ (HGw4.out.trans y.grew)).2.2.1
   have hy3:∀y:GrownW W4,y.world.cell? { block:=(ada.add (k*7)).block,off:=(ada.add (k*7)).off+3 }=Xa (Xh a.wr):=fun y=>(hl _ (HGw4.out.trans y.grew)).2.2.2.1
   have hy4:∀y:GrownW W4,y.world.cell? { block:=(ada.add (k*7)).block,off:=(ada.add (k*7)).off+4 }=Xa (Xh a.sh):=fun y=>(hl _ (HGw4.out.trans y.grew)).2.2.2.2.1
   have hy5:∀y:GrownW W4,y.world.cell? { block:=(ada.add (k*7)).block,off:=(ada.add (k*7)).off+5 }=Xa (Xe Xf a.file):=fun y=>(hl _ (HGw4.out.trans y.grew)).2.2.2.2.2.1
   have hy6:∀y:GrownW W4,y.world.cell? { block:=(ada.add (k*7)).block,off:=(ada.add (k*7)).off+6 }=Xa (Xe Xf a.base):=fun y=>(hl _ (HGw4.out.trans y.grew)).2.2.2.2.2.2
   have hne:Nonempty (GrownW W4):=⟨⟨_,Grew.refl _⟩⟩;clear hl hva;refine wp_lax [(10,⟨fun v=>v=enV (flatN s n),fun v w'=>True⟩),(11,⟨fun v=>v= Xe Xf (wEntry m a n (flatN s n)),fun v w'=>True⟩)] mixed (by kernel_rfl) ?hS ?hp ?_
   case hS=>
    intro x hx;simp only[mC,nM,or_false]at hx
    rcases hx with rfl | rfl
    ·exact⟨_,rfl⟩
    exact⟨_,rfl⟩
   case hp=>
    intro x hx;simp only[mC,nM,or_false]at hx
    rcases hx with rfl | rfl
    ·exact fun _ _ _ _ h=>h
    exact fun _ _ _ _ h=>h
   iterate 10 (refine lax_quiet rfl rfl rfl (fun K hK=>?_);go_big_quiet_op;refine hK _ ?_;clear hK K)
   refine lax_spec rfl rfl (fun w' hg hF=>?_) (fun v1 hv=>?_)
   ·refine Does.call [Xi #[O x.t0.a x.t0.n x.t0.c,O x.t1.a x.t1.n x.t1.c,O x.t2.a x.t2.n x.t2.c,O x.t3.a x.t3.n x.t3.c,O x.t4.a x.t4.n x.t4.c,O x.t5.a x.t5.n x.t5.c,O x.t6.a x.t6.n x.t6.c,O x.t7.a x.t7.n x.t7.c],Xe Xf (n:Int)] rfl Tryz.func69 rfl rfl rfl ?_;refine(HGT.out w' (HGw4.out.trans hg)).mono ?_;rintro e w'' ⟨rfl,hg3⟩;exact⟨_,rfl,hg3,rfl,trivial⟩
   subst hv;simp only[Act.put,sB,sS,sZ];refine lax_spec rfl rfl (fun w' hg hF=>?_) (fun v1 hv=>?_)
   ·refine Does.call [Xi #[O vf.a vf.n vf.c,Xe Xf m.hand,O vs.a vs.n vs.c,O vsb.a vsb.n vsb.c,O vsq.a vsq.n vsq.c,O vdb.a vdb.n vdb.c,O vdq.a vdq.n vdq.c,O vfl.a vfl.n vfl.c,Xe Xf m.cnt,O vca.a vca.n vca.c,O (Xa ad) spn spc],Xi #[Xe Xf a.fr,Xe Xf a.tz,Xh a.rd,Xh a.wr,Xh a.sh,Xe Xf a.file,Xe Xf a.base],Xe Xf (n:Int),enV (flatN s n)] rfl Tryz.func68 rfl rfl rfl ?_;refine(HWE'.out w' (HGw4.out.trans hg)).mono ?_;rintro e w'' ⟨rfl,hg3⟩;exact⟨_,rfl,hg3,rfl,trivial⟩
   subst hv;simp only[Act.put,sB,sS,sZ];iterate 1 (refine lax_quiet rfl rfl rfl (fun K hK=>?_);go_big_quiet_op;refine hK _ ?_;clear hK K)
   refine lax_nil fun W5 hg5 hF=>?_
   have HG5:=dD (HG4.out.trans hg5);have HGw5:=dD (HG2.out.trans HG5.out);clear hg5 hF hx0 hx1 hx2 hx3 hx4 hx5 hx6 hx7 hx8 hx9 hx10 hs1 hs2 hs3 hs4 hs5 hs6 hs7 hs8 hs9 hy0 hy1 hy2 hy3 hy4 hy5 hy6 hne;obtain⟨e,HEE⟩:∃e,Xo (wEntry m a n (flatN s n)=e):=⟨_,rfl⟩;rw[HEE.out];rw[HEE.out]at HEN
   by_cases h0:e=0
   ·have h0e:(e != 0)=Xd:=by simp[h0]
    have OW':Xo (∀(j:Nat) n,j<i+1->(pagesN s)[j]? =Xa n->entE m (onAt s.ars n) (flatN s n)=0):=show∀(j:Nat) n,_ from fun j n' hj hn'=>by
     by_cases ej:j=i
     ·subst ej;rw[HNI.out]at hn';cases hn';rw[HEN.out];exact h0
     exact OW.out j n' (by omega) hn'
    clear h0;go_wp2
    go_roundg (q -(i+1))
    case measure=>omega
    exact⟨i+1,by omega,by omega,by go_num,HG5.out,OW'.out⟩
   have h0e:(e != 0)=Xc:=by simp[h0]
   have HZE:Xo (Z=e):=show _=_ by
    have h6:spEnt m s=e:=by rw[spEnt_pages,firstE_at HNI.out OW.out (by rw[HEN.out];exact h0),HEN.out]
    rw[<-HZ.out];unfold wPages;rw[firstE_at HS.out HOW.out (by rw[h6];exact h0),h6]
   clear h0;go_wp2;go_ret;exact⟨by rw[HZE.out];rfl,HGw5.out⟩
  have hltz2:¬(i:Int)< (q:Int):=by omega
  have:i=q:=by omega
  subst this;have HSE:Xo (spEnt m s=0):=show _=_ by
   rw[spEnt_pages];exact firstE_all fun j n hn=>OW.out j n (by rw[<-HQ.out];exact(gS.1 hn).1) hn
  have OW':Xo (∀(j:Nat) s,j<kk+1->m.sp[j]? =Xa s->spEnt m s=0):=show∀(j:Nat) s,_ from fun j s' hj hs=>by
   by_cases ej:j=kk
   ·subst ej;rw[HS.out]at hs;cases hs;exact HSE.out
   exact HOW.out j s' (by omega) hs
  have XX:=dD (X2.out.grew BW.out);have GG:=dD (HG2.out.trans BW.out);go_wp2
  go_roundg (spn -(kk+1))
  case measure=>omega
  exact⟨kk+1,by omega,by omega,by go_num,GG.out,XX.out,OW'.out⟩
 have hltz:¬(kk:Int)< (spn:Int):=by omega
 have:kk=spn:=by omega
 subst this;have HZE:Xo (Z=0):=show _=_ by
  rw[<-HZ.out];exact firstE_all fun j s hs=>OW.out j s (by rw[<-HN.out];exact(gS.1 hs).1) hs
 go_wp2;go_ret;exact⟨by rw[HZE.out];rfl,BW.out⟩
structure KeyK where
 ty:TypeId
 enc:Int × Int->Xq
 und:∃fs,Tryz.prog.underlying ty=Xa (.struct fs)
 check:∀(em:Bool) (a:Int × Int) (w:Xn),(Instr.checkKey em 10000 ty (enc a)).run Tryz.prog w= .ok () w
 same:∀(a b:Int × Int) (w:Xn),(Op.equal ty (enc a) (enc b)).run Tryz.prog w= .ok (decide (a=b)) w
 bits:∀a:Int × Int,Instr.sameBits 10000 (enc a) (enc a)=Xc
def lookP:List ((Int × Int) × Int)->Int × Int->Option Int
 | [],_=>Xb
 | p :: l,k=>if k=p.1 then Xa p.2 else lookP l k
def findP:List ((Int × Int) × Int)->Int × Int->Nat->Option (Nat × Xq)
 | [],_,_=>Xb
 | p :: l,k,i=>if k=p.1 then Xa (i,Xe Xf p.2)else findP l k (i+1)
def putP:List ((Int × Int) × Int)->Int × Int->Int->List ((Int × Int) × Int)
 | [],k,v=>[(k,v)]
 | p :: l,k,v=>if k=p.1 then(k,v) :: l else p :: putP l k v
theorem lookP_put:∀(l:List ((Int × Int) × Int)) (k x:Int × Int) (v:Int),lookP (putP l k v) x=if x=k then Xa v else lookP l x
 | [],k,x,v=>by simp[putP,lookP]
 | p :: l,k,x,v=>by
  unfold putP
  by_cases h:k=p.1
  ·rw[if_pos h];unfold lookP
   by_cases hx:x=k
   ·simp[hx]
   have hx':¬x=p.1:=fun e=>hx (e.trans h.symm)
   simp[hx,hx']
  rw[if_neg h];unfold lookP;rw[lookP_put l]
  by_cases hp:x=p.1
  ·rw[if_pos hp,if_pos hp,if_neg (fun e=>h (e.symm.trans hp))]
  rw[if_neg hp,if_neg hp]
theorem findP_none:∀{l:List ((Int × Int) × Int)} {k:Int × Int} {i:Nat},findP l k i=Xb->lookP l k=Xb/\∀v,putP l k v=l++ [(k,v)]
 | [],k,i,_=>⟨rfl,fun v=>rfl⟩
 | p :: l,k,i,h=>by
  unfold findP at h
  by_cases e:k=p.1
  ·rw[if_pos e]at h;cases h
  rw[if_neg e]at h;obtain⟨h1,h2⟩:=findP_none h;refine⟨by unfold lookP;rw[if_neg e,h1],fun v=>?_⟩
  unfold putP;rw[if_neg e,h2];rfl
theorem findP_some:∀{l:List ((Int × Int) × Int)} {k:Int × Int} {i j:Nat} {u:Xq},findP l k i=Xa (j,u)->∃n z,u= Xe Xf z/\j=i+n/\l[n]? =Xa (k,z)/\lookP l k=Xa z/\∀v,putP l k v=l.set n (k,v)
 | [],k,i,j,u,h=>by cases h
 | p :: l,k,i,j,u,h=>by
  unfold findP at h
  by_cases e:k=p.1
  ·rw[if_pos e]at h;cases h;refine⟨0,p.2,rfl,rfl,by rw[e];rfl,by unfold lookP;rw[if_pos e],fun v=>?_⟩
   unfold putP;rw[if_pos e];rfl
  rw[if_neg e]at h;obtain⟨n,z,h1,h2,h3,h4,h5⟩:=findP_some h;refine⟨n+1,z,h1,by omega,by simpa using h3,by unfold lookP;rw[if_neg e,h4],fun v=>?_⟩
  unfold putP;rw[if_neg e,h5];rfl
def MapF (K:KeyK) (w:Xn) (b:Nat) (g:Int × Int->Option Int):Prop:=
 ∃es clock l,w.heap[b]? =Xa (.map es clock)/\(es.toList.map (fun e=>(e.key,e.val))=l.map (fun p:(Int × Int) × Int=>(K.enc p.1,Value.int .i64 p.2))/\(es.toList.map (·.born)).Pairwise (·< ·)/\∀e∈es.toList,e.born<clock)/\∀k,lookP l k=g k
theorem MapF.lt {K:KeyK} {w:Xn} {b:Nat} {g:Int × Int->Option Int} (h:MapF K w b g):b<w.heap.size:=by
 obtain⟨es,c,l,h1,_⟩:=h;exact(aS.1 h1).1
theorem MapF.made (K:KeyK) (w:Xn):MapF K (w.alloc (.map #[] 0)) w.heap.size (fun _=>Xb):=⟨#[],0,[],by
 show(w.heap.push _)[w.heap.size]? =_
 simp,⟨rfl,List.Pairwise.nil,fun e he=>by cases he⟩,fun k=>rfl⟩
theorem MapF.grew {K:KeyK} {w w':Xn} {b:Nat} {g:Int × Int->Option Int} (h:MapF K w b g) (hg:Grew w w'):MapF K w' b g:=by
 have hlt:=h.lt;obtain⟨es,c,l,h1,h2⟩:=h;exact⟨es,c,l,(Below.block hg b hlt).trans h1,h2⟩
theorem MapF.kept {K:KeyK} {w w':Xn} {b:Nat} {g:Int × Int->Option Int} {row:Option Nat} (h:MapF K w b g) (hg:w.grownBy w' row) (hne:Xa b≠row):MapF K w' b g:=by
 have hlt:=h.lt;obtain⟨es,c,l,h1,h2⟩:=h;exact⟨es,c,l,(hg.block b hlt hne).trans h1,h2⟩
theorem MapF.congr {K:KeyK} {w:Xn} {b:Nat} {g g':Int × Int->Option Int} (h:MapF K w b g) (e:∀k,g k=g' k):MapF K w b g':=by
 obtain⟨es,c,l,h1,h2,h3⟩:=h;exact⟨es,c,l,h1,h2,fun k=>(h3 k).trans (e k)⟩
theorem run_findAsking (K:KeyK) (k:Int × Int) (w:Xn):∀(l:List ((Int × Int) × Int)) (es:List MapEntry) (i:Nat),es.map (fun e=>(e.key,e.val))=l.map (fun p=>(K.enc p.1,Value.int .i64 p.2))->(Instr.findAsking K.ty (K.enc k) es i).run Tryz.prog w= .ok (findP l k i) w
 | [],[],i,_=>rfl
 | [],e :: es,i,h=>by simp at h
 | p :: l,[],i,h=>by simp at h
 | p :: l,e :: es,i,h=>by
  simp only[mP,List.cons.injEq,pJ]at h;obtain⟨⟨h1,h2⟩,h3⟩:=h;unfold Instr.findAsking findP;simp only[Xs,h1,K.same,rA]
  by_cases e':k=p.1
  ·simp[e',h2]
  simp[e',run_findAsking K k w l es (i+1) h3]
theorem run_findKey (K:KeyK) (k:Int × Int) (w:Xn) (l:List ((Int × Int) × Int)) (es:List MapEntry) (h:es.map (fun e=>(e.key,e.val))=l.map (fun p=>(K.enc p.1,Value.int .i64 p.2))):(Instr.findKey K.ty (K.enc k) es).run Tryz.prog w= .ok (findP l k 0) w:=by
 obtain⟨fs,hu⟩:=K.und;unfold Instr.findKey;simp only[Xs,run_underlying hu,rA]
 cases es with
 | nil=>
  cases l with
  | nil=>rfl
  | cons p l=>simp at h
 | cons e es=>
  have:Instr.findNow (.struct fs) (K.enc k) (e :: es) 0=Xb:=by simp[Instr.findNow,Instr.sameNow]
  rw[this];exact run_findAsking K k w l (e :: es) 0 h
theorem MapF.look {K:KeyK} {w:Xn} {b:Nat} {g:Int × Int->Option Int} (h:MapF K w b g) {t e:TypeId} (ht:Tryz.prog.underlying t=Xa (.map K.ty e)) (hz:(zeroValue e).run Tryz.prog w= .ok (Xe Xf 0) w) (k:Int × Int) (c:Bool):
  (Instr.lookup t (.map (Xa b)) (K.enc k) c).run Tryz.prog w= .ok (if c then Xm #[Xe Xf ((g k).getD 0),Xh (g k).isSome]else Xe Xf ((g k).getD 0)) w:=by
 obtain⟨es,cl,l,h1,⟨h2,_⟩,h3⟩:=h;have hf:=run_findKey K k w l es.toList h2;unfold Instr.lookup
 cases hp:findP l k 0 with
 | none=>
  rw[hp]at hf;have:=(findP_none hp).1;rw[h3 k]at this
  cases c <;> simp[run_underlying ht,MapKept.run_getObj_map h1,K.check,hf,hz,this]
 | some q=>
  obtain⟨j,u⟩:=q;rw[hp]at hf;obtain⟨n,z,rfl,_,_,h4,_⟩:=findP_some hp;rw[h3 k]at h4
  cases c <;> simp[run_underlying ht,MapKept.run_getObj_map h1,K.check,hf,h4]
theorem modify_born (f:MapEntry->MapEntry) (hf:∀e,(f e).born=e.born):∀(es:List MapEntry) (n:Nat),(es.modify n f).map (·.born)=es.map (·.born)
 | [],n=>by simp
 | e :: es,0=>by simp[hf]
 | e :: es,n+1=>by simp[modify_born f hf es n]
structure Stamped (K:KeyK) (es:Array MapEntry) (cl:Nat) (l:List ((Int × Int) × Int)):Prop where
 pairs:es.toList.map (fun e=>(e.key,e.val))=l.map (fun p=>(K.enc p.1,Value.int .i64 p.2))
 rise:(es.toList.map (·.born)).Pairwise (·< ·)
 low:∀e∈es.toList,e.born<cl
theorem Stamped.push {K:KeyK} {es:Array MapEntry} {cl:Nat} {l:List ((Int × Int) × Int)} (h:Stamped K es cl l) (k:Int × Int) (v:Int):Stamped K (es.push ⟨K.enc k,Xe Xf v,cl⟩) (cl+1) (l++ [(k,v)]):=by
 refine⟨by simp[h.pairs],?_,fun e he=>?_⟩
 ·simp only[Oa,List.map_append,mP,Ym];rw[List.pairwise_append];refine⟨h.rise,by simp,fun a ha b hb=>?_⟩
  obtain⟨e,he,rfl⟩:=Xx.1 ha
  simp at hb
  rw[hb];exact h.low e he
 simp only[Oa,Ye,List.mem_singleton]at he
 rcases he with he | rfl
 ·have:=h.low e he;omega
 simp
theorem Stamped.modify {K:KeyK} {es:Array MapEntry} {cl:Nat} {l:List ((Int × Int) × Int)} (h:Stamped K es cl l) {n:Nat} {k:Int × Int} {z:Int} (hn:l[n]? =Xa (k,z)) (f:MapEntry->MapEntry) (v:Int) (hf:∀e,(f e).born=e.born) (hg:∀e,e.key=K.enc k->e.val= Xe Xf z->(f e).key=K.enc k/\(f e).val= Xe Xf v):Stamped K (es.modify n f) cl (l.set n (k,v)):=by
 have hb:(es.modify n f).toList.map (·.born)=es.toList.map (·.born):=by rw[Yt];exact modify_born f hf es.toList n
 refine⟨?_,by rw[hb];exact h.rise,fun e he=>?_⟩
 ·have hp:=h.pairs;rw[Yt]
  apply Yb
  intro j;have hj:=congrArg (fun(x:List (Xq × Xq))=>x[j]?) hp
  simp only[Ya,List.getElem?_modify,List.getElem?_set]at hj⊢
  by_cases e:n=j
  ·subst e;rw[hn]at hj;have hnl:=(gS.1 hn).1
   cases hq:es.toList[n]? with
   | none=>rw[hq]at hj;simp at hj
   | some e0=>
    rw[hq]at hj
    simp at hj
    obtain⟨g1,g2⟩:=hg e0 hj.1 hj.2
    simp[hnl,g1,g2]
  simp only[e,if_false]at hj⊢
  cases hq:es.toList[j]? <;> rw[hq]at hj <;> simpa using hj
 have:e.born∈es.toList.map (·.born):=by rw[<-hb];exact Xx.2 ⟨e,he,rfl⟩
 obtain⟨e',he',h'⟩:=Xx.1 this;rw[<-h'];exact h.low e' he'
theorem Stamped.at {K:KeyK} {es:Array MapEntry} {cl:Nat} {l:List ((Int × Int) × Int)} (h:Stamped K es cl l) {n:Nat} {k:Int × Int} {z:Int} (hn:l[n]? =Xa (k,z)):∃e0,es[n]? =Xa e0/\e0.key=K.enc k/\e0.val= Xe Xf z:=by
 have:=congrArg (fun(x:List (Xq × Xq))=>x[n]?) h.pairs
 simp only[Ya,hn,Option.map_some]at this
 cases hq:es[n]? with
 | none=>simp[hq]at this
 | some e0=>simp[hq]at this;exact⟨e0,rfl,this.1,this.2⟩
theorem born_inj:∀{l:List Nat},l.Pairwise (·< ·)->∀{i j:Nat} {x:Nat},l[i]? =Xa x->l[j]? =Xa x->i=j
 | [],_,i,j,x,h,_=>by simp at h
 | a :: l,hp,i,j,x,h,h'=>by
  rw[List.pairwise_cons]at hp
  cases i with
  | zero=>
   cases j with
   | zero=>rfl
   | succ j=>
    simp at h h'
    subst h;have:=hp.1 a (mG h');omega
  | succ i=>
   cases j with
   | zero=>
    simp at h h'
    subst h';have:=hp.1 a (mG h);omega
   | succ j=>
    simp at h h'
    rw[born_inj hp.2 h h']
theorem map_put {K:KeyK} {w:Xn} {b:Nat} {es es':Array MapEntry} {cl cl':Nat} {l:List ((Int × Int) × Int)} {g:Int × Int->Option Int} {k:Int × Int} {v:Int} (h1:w.heap[b]? =Xa (.map es cl)) (h3:∀k,lookP l k=g k) (hs:Stamped K es' cl' (putP l k v)):
  MapF K (ChangeMaps.setBlock w b (.map es' cl')) b (fun x=>if x=k then Xa v else g x)/\w.grownBy (ChangeMaps.setBlock w b (.map es' cl')) (Xa b)/\(ChangeMaps.setBlock w b (.map es' cl')).heap.size=w.heap.size:=by
 refine⟨⟨es',cl',putP l k v,ChangeMaps.heap_setBlock_same h1 _,⟨hs.pairs,hs.rise,hs.low⟩,fun x=>?_⟩,⟨rfl,rfl,rfl,by simp[ChangeMaps.setBlock],fun i _ hi=>ChangeMaps.heap_setBlock_other h1 _ (fun e=>hi (by rw[e]))⟩,by simp[ChangeMaps.setBlock]⟩
 rw[lookP_put,h3]
theorem MapF.put {K:KeyK} {w:Xn} {b:Nat} {g:Int × Int->Option Int} (h:MapF K w b g) {t e:TypeId} (ht:Tryz.prog.underlying t=Xa (.map K.ty e)) (k:Int × Int) (v:Int):
  ∃w',(Instr.mapUpdate t (.map (Xa b)) (K.enc k) (Xe Xf v)).run Tryz.prog w= .ok () w'/\MapF K w' b (fun x=>if x=k then Xa v else g x)/\w.grownBy w' (Xa b)/\w'.heap.size=w.heap.size:=by
 obtain⟨es,cl,l,h1,⟨h2,h4,h5⟩,h3⟩:=h;have hst:Stamped K es cl l:=⟨h2,h4,h5⟩;have hf:=run_findKey K k w l es.toList h2
 cases hp:findP l k 0 with
 | none=>
  rw[hp]at hf;have hput:=(findP_none hp).2 v;refine⟨ChangeMaps.setBlock w b (.map (es.push ⟨K.enc k,Xe Xf v,cl⟩) (cl+1)),?_,map_put h1 h3 (by rw[hput];exact hst.push k v)⟩
  simp[Instr.mapUpdate,run_underlying ht,MapKept.run_getObj_map h1,K.check,hf,MapKept.run_setObj_map _ h1,ChangeMaps.setBlock]
 | some q=>
  obtain⟨j,u⟩:=q;rw[hp]at hf;obtain⟨n,z,rfl,rfl,h6,_,h7⟩:=findP_some hp;rw[zA]at hf;obtain⟨e0,he0,hk0,_⟩:=hst.at h6;refine⟨ChangeMaps.setBlock w b (.map (es.modify n fun e=>{ e with key:=K.enc k,val:= Xe Xf v }) cl),?_,map_put h1 h3 (by rw[h7];exact hst.modify h6 _ v (fun _=>rfl) (fun _ _ _=>⟨rfl,rfl⟩))⟩
  simp[Instr.mapUpdate,run_underlying ht,MapKept.run_getObj_map h1,K.check,hf,he0,hk0,Instr.keyThatStays,K.bits,MapKept.run_setObj_map _ h1,ChangeMaps.setBlock]
def MapE (K:KeyK) (w:Xn) (b:Nat) (g:Int × Int->Option Int) (k:Int × Int) (st:Int):Prop:=
 ∃es cl l,w.heap[b]? =Xa (.map es cl)/\Stamped K es cl l/\(∀k,lookP l k=g k)/\∃(n:Nat) (z:Int) (e:MapEntry),l[n]? =Xa (k,z)/\(∀v,putP l k v=l.set n (k,v))/\es[n]? =Xa e/\(e.born:Int)=st
theorem MapE.f {K:KeyK} {w:Xn} {b:Nat} {g:Int × Int->Option Int} {k:Int × Int} {st:Int} (h:MapE K w b g k st):MapF K w b g:=by
 obtain⟨es,cl,l,h1,h2,h3,_⟩:=h;exact⟨es,cl,l,h1,⟨h2.pairs,h2.rise,h2.low⟩,h3⟩
theorem putP_snoc:∀{l:List ((Int × Int) × Int)} {k:Int × Int} (z v:Int),lookP l k=Xb->putP (l++ [(k,z)]) k v=(l++ [(k,z)]).set l.length (k,v)
 | [],k,z,v,_=>by simp[putP]
 | p :: l,k,z,v,h=>by
  unfold lookP at h
  by_cases e:k=p.1
  ·rw[if_pos e]at h;cases h
  rw[if_neg e]at h;simp only[Yc,putP,e,if_false,Xt,sS];rw[putP_snoc z v h]
theorem MapF.entry {K:KeyK} {w:Xn} {b:Nat} {g:Int × Int->Option Int} (h:MapF K w b g) {t e:TypeId} (ht:Tryz.prog.underlying t=Xa (.map K.ty e)) (hz:(zeroValue e).run Tryz.prog w= .ok (Xe Xf 0) w) (k:Int × Int):
  ∃w' st,(Instr.mapEntry t (.map (Xa b)) (K.enc k)).run Tryz.prog w= .ok (Xm #[Xe Xf ((g k).getD 0),Xe Xf st]) w'/\MapE K w' b (fun x=>if x=k then Xa ((g k).getD 0)else g x) k st/\w.grownBy w' (Xa b)/\w'.heap.size=w.heap.size:=by
 obtain⟨es,cl,l,h1,⟨h2,h4,h5⟩,h3⟩:=h;have hst:Stamped K es cl l:=⟨h2,h4,h5⟩;have hf:=run_findKey K k w l es.toList h2
 cases hp:findP l k 0 with
 | none=>
  rw[hp]at hf;obtain⟨hno,hput⟩:=findP_none hp;have hg:g k=Xb:=by rw[<-h3];exact hno
  have hs':=hst.push k 0;have hm:=map_put h1 h3 (k:=k) (v:=0) (by rw[hput];exact hs')
  refine⟨ChangeMaps.setBlock w b (.map (es.push ⟨K.enc k,Xe Xf 0,cl⟩) (cl+1)),cl,?_,⟨_,_,_,ChangeMaps.heap_setBlock_same h1 _,hs',fun x=>?_,l.length,0,⟨K.enc k,Xe Xf 0,cl⟩,by simp,fun v=>putP_snoc 0 v hno,?_,rfl⟩,hm.2⟩
  ·rw[hg]
   simp[Instr.mapEntry,run_underlying ht,MapKept.run_getObj_map h1,K.check,hf,hz,MapKept.run_setObj_map _ h1,ChangeMaps.setBlock,goInt]
  ·rw[hg,<-hput,lookP_put,h3];rfl
  have:es.size=l.length:=by have:=congrArg Yh h2;simpa using this
  simp[<-this]
 | some q=>
  obtain⟨j,u⟩:=q;rw[hp]at hf;obtain⟨n,z,rfl,rfl,h6,h8,h7⟩:=findP_some hp;rw[zA]at hf;obtain⟨e0,he0,hk0,hv0⟩:=hst.at h6;have hg:g k=Xa z:=by rw[<-h3];exact h8
  have hs':Stamped K (es.modify n fun e=>{ e with key:=K.enc k }) cl (l.set n (k,z)):=hst.modify h6 (fun e=>{ e with key:=K.enc k }) z (fun _=>rfl) (fun _ _ hv=>⟨rfl,hv⟩)
  have hm:=map_put h1 h3 (k:=k) (v:=z) (by rw[h7];exact hs')
  have hnl:=(gS.1 h6).1;refine⟨ChangeMaps.setBlock w b (.map (es.modify n fun e=>{ e with key:=K.enc k }) cl),e0.born,?_,⟨_,_,_,ChangeMaps.heap_setBlock_same h1 _,hs',fun x=>?_,n,z,{ e0 with key:=K.enc k },sF hnl,fun v=>?_,?_,rfl⟩,hm.2⟩
  ·rw[hg]
   simp[Instr.mapEntry,run_underlying ht,MapKept.run_getObj_map h1,K.check,hf,he0,hk0,Instr.keyThatStays,K.bits,MapKept.run_setObj_map _ h1,ChangeMaps.setBlock,goInt]
  ·rw[hg,<-h7,lookP_put,h3];rfl
  ·rw[set_same h6,h7]
  rw[Array.getElem?_modify,if_pos rfl,he0];rfl
theorem MapE.store {K:KeyK} {w:Xn} {b:Nat} {g:Int × Int->Option Int} {k:Int × Int} {st:Int} (h:MapE K w b g k st) (t:TypeId) (v:Int):
  ∃w',(Instr.entryStore t (.map (Xa b)) (Xe Xf st) (Xe Xf v)).run Tryz.prog w= .ok () w'/\MapF K w' b (fun x=>if x=k then Xa v else g x)/\w.grownBy w' (Xa b)/\w'.heap.size=w.heap.size:=by
 obtain⟨es,cl,l,h1,hst,h3,n,z,e0,h6,h7,he0,rfl⟩:=h;have hnl:n<es.size:=(aS.1 he0).1;have hfind:es.findIdx? (fun e=>(e.born:Int) ==(e0.born:Int))=Xa n:=by
  rw[Array.findIdx?_eq_some_iff_getElem];refine⟨hnl,?_,fun j hj=>?_⟩
  ·have:es[n]=e0:=(aS.1 he0).2
   simp[this]
  intro hc;have hjl:j<es.size:=by omega
  have hc':es[j].born=e0.born:=by
   have:(es[j].born:Int)=(e0.born:Int):=by simpa using hc
   omega
  have q1:(es.toList.map (·.born))[n]? =Xa e0.born:=by simp[he0]
  have q2:(es.toList.map (·.born))[j]? =Xa e0.born:=by simp[hjl,hc']
  have:=born_inj hst.rise q1 q2;omega
 refine⟨ChangeMaps.setBlock w b (.map (es.modify n fun e=>{ e with val:= Xe Xf v }) cl),?_,map_put h1 h3 (by rw[h7];exact hst.modify h6 _ v (fun _=>rfl) (fun _ hk _=>⟨hk,rfl⟩))⟩
 simp[Instr.entryStore,MapKept.run_getObj_map h1,asInt,asIntOf,hfind,MapKept.run_setObj_map _ h1,ChangeMaps.setBlock]
theorem wp_putMap {K:KeyK} {w:Xn} {ops:Array Oper} {rest:List Oper} {o:Oper} {a:Act} {Q:Exit->Act->Xn->Prop} (hgd:o.guard=Xb) (t e:TypeId) (m x v:Operand) (hop:o.op= .mapUpdate t m x v) (ht:Tryz.prog.underlying t=Xa (.map K.ty e)) (b:Nat) (g:Int × Int->Option Int) (h:MapF K w b g) (k:Int × Int) (z:Int)
  (hm:a.eval m= .map (Xa b)) (hx:a.eval x=K.enc k) (hv:a.eval v= Xe Xf z)
  (hK:∀w',MapF K w' b (fun x=>if x=k then Xa z else g x)->w.grownBy w' (Xa b)->w'.heap.size=w.heap.size->wpList Tryz.prog ops Q rest (a.put o.dst undef) w'):wpList Tryz.prog ops Q (o :: rest) a w:=by
 refine wpList_plain hgd fun K' hK'=>?_
 obtain⟨w',hrun,r1,r2,r3⟩:=h.put ht k z;unfold Oper.wp
 simp[execOp,hop,hm,hx,hv,hrun,Result.andThen]
 exact hK' _ _ (hK w' r1 r2 r3)
theorem plK_check (em:Bool) (a:Int × Int) (w:Xn):(Instr.checkKey em 10000 197 (Xi #[Xe Xf a.1,Xe Xf a.2])).run Tryz.prog w= .ok () w:=by
 have hf : (Tryz.prog.fieldsOf 197).toList.map (fun f => (f.name, f.type, f.offset)) = [("file", 3, 0), ("index", 3, 1)] := by kernel_rfl
 have hu:∃fs,Tryz.prog.underlying 197=Xa (.struct fs)/\Tryz.prog.fieldsOf 197=fs:=⟨_,Tryz.underlying197,by kernel_rfl⟩
 obtain⟨fs,hu,hfe⟩:=hu;rw[hfe]at hf;obtain⟨f0,f1,hfs⟩:∃f0 f1,fs.toList=[f0,f1]:=by
  have hl:fs.toList.length=2:=by have:=congrArg Yh hf;simpa using this
  match hq:fs.toList,hl with
  | [f0,f1],_=>exact⟨f0,f1,rfl⟩
 rw[hfs]at hf
 simp at hf
 obtain⟨⟨n0,t0,o0⟩,⟨n1,t1,o1⟩⟩:=hf;have pI:∀(zs:Array Xq) (o:Nat) v,zs[o]? =Xa (Xe Xf v)->(part 3 zs o).run Tryz.prog w= .ok (Xe Xf v) w:=fun zs o v hz=>run_part_plain w (by simp[Program.plainKey,Tryz.underlying3]) hz
 have pB:∀(zs:Array Xq) (o:Nat) v,zs[o]? =Xa (Xh v)->(part 4 zs o).run Tryz.prog w= .ok (Xh v) w:=fun zs o v hz=>run_part_plain w (by simp[Program.plainKey,Tryz.underlying4]) hz
 have cI:∀(v:Int) (n:Nat),(Instr.checkKey em (n+1) 3 (Xe Xf v)).run Tryz.prog w= .ok () w:=fun v n=>by
  unfold Instr.checkKey
  simp[run_underlying Tryz.underlying3]
 have cB:∀(v:Bool) (n:Nat),(Instr.checkKey em (n+1) 4 (Xh v)).run Tryz.prog w= .ok () w:=fun v n=>by
  unfold Instr.checkKey
  simp[run_underlying Tryz.underlying4]
 rw[show(10000:Nat)=9999+1 from rfl,Instr.checkKey]
 simp only[Xs,run_underlying hu,rA];rw[<-Yw,hfs];have k1:=cI a.1 9998;have k2:=cI a.2 9998;have k3:=cB Xd 9998;have q0:=pI (#[Xe Xf a.1,Xe Xf a.2]) 0 a.1 rfl;have q1:=pI (#[Xe Xf a.1,Xe Xf a.2]) 1 a.2 rfl
 simp[List.forIn_cons,n0,t0,o0,n1,t1,o1,q0,q1,k1,k2]
theorem plK_same (a b:Int × Int) (w:Xn):(Op.equal 197 (Xi #[Xe Xf a.1,Xe Xf a.2]) (Xi #[Xe Xf b.1,Xe Xf b.2])).run Tryz.prog w= .ok (decide (a=b)) w:=by
 have hf : (Tryz.prog.fieldsOf 197).toList.map (fun f => (f.name, f.type, f.offset)) = [("file", 3, 0), ("index", 3, 1)] := by kernel_rfl
 unfold Op.equal Op.maxDepth;rw[run_equalIn_struct w 9999 197 _ _ (by kernel_rfl) (by kernel_rfl)]
 obtain⟨f0,f1,hfs⟩:∃f0 f1,(Tryz.prog.fieldsOf 197).toList=[f0,f1]:=by
  have hl:(Tryz.prog.fieldsOf 197).toList.length=2:=by have:=congrArg Yh hf;simpa using this
  match hq:(Tryz.prog.fieldsOf 197).toList,hl with
  | [f0,f1],_=>exact⟨f0,f1,rfl⟩
 rw[hfs]at hf⊢
 simp at hf
 obtain⟨⟨n0,t0,o0⟩,⟨n1,t1,o1⟩⟩:=hf;have pI:∀(zs:Array Xq) (o:Nat) v,zs[o]? =Xa (Xe Xf v)->(part 3 zs o).run Tryz.prog w= .ok (Xe Xf v) w:=fun zs o v hz=>run_part_plain w (by simp[Program.plainKey,Tryz.underlying3]) hz
 have pB:∀(zs:Array Xq) (o:Nat) v,zs[o]? =Xa (Xh v)->(part 4 zs o).run Tryz.prog w= .ok (Xh v) w:=fun zs o v hz=>run_part_plain w (by simp[Program.plainKey,Tryz.underlying4]) hz
 simp only[Op.eqFields,n0,t0,o0,n1,t1,o1];obtain⟨a1,a2⟩:=a;obtain⟨b1,b2⟩:=b
 simp[pI,run_equalIn_int w _ _ _ _ _ _ Tryz.underlying3]
 by_cases e1:a1=b1 <;> by_cases e2:a2=b2 <;> simp[e1,e2]
def plK:KeyK where
 ty:=197
 enc:=fun a=> Xi #[Xe Xf a.1,Xe Xf a.2]
 und:=⟨_,Tryz.underlying197⟩
 check:=plK_check
 same:=plK_same
 bits:=fun a=>by simp[Instr.sameBits]
theorem enK_check (em:Bool) (a:Int × Int) (w:Xn):(Instr.checkKey em 10000 127 (Xi #[Xe Xf a.1,Xe Xf a.2,Xh Xd])).run Tryz.prog w= .ok () w:=by
 have hf : (Tryz.prog.fieldsOf 127).toList.map (fun f => (f.name, f.type, f.offset)) = [("Kind", 3, 0), ("N", 3, 1), ("Write", 4, 2)] := by kernel_rfl
 have hu:∃fs,Tryz.prog.underlying 127=Xa (.struct fs)/\Tryz.prog.fieldsOf 127=fs:=⟨_,Tryz.underlying127,by kernel_rfl⟩
 obtain⟨fs,hu,hfe⟩:=hu;rw[hfe]at hf;obtain⟨f0,f1,f2,hfs⟩:∃f0 f1 f2,fs.toList=[f0,f1,f2]:=by
  have hl:fs.toList.length=3:=by have:=congrArg Yh hf;simpa using this
  match hq:fs.toList,hl with
  | [f0,f1,f2],_=>exact⟨f0,f1,f2,rfl⟩
 rw[hfs]at hf
 simp at hf
 obtain⟨⟨n0,t0,o0⟩,⟨n1,t1,o1⟩,⟨n2,t2,o2⟩⟩:=hf;have pI:∀(zs:Array Xq) (o:Nat) v,zs[o]? =Xa (Xe Xf v)->(part 3 zs o).run Tryz.prog w= .ok (Xe Xf v) w:=fun zs o v hz=>run_part_plain w (by simp[Program.plainKey,Tryz.underlying3]) hz
 have pB:∀(zs:Array Xq) (o:Nat) v,zs[o]? =Xa (Xh v)->(part 4 zs o).run Tryz.prog w= .ok (Xh v) w:=fun zs o v hz=>run_part_plain w (by simp[Program.plainKey,Tryz.underlying4]) hz
 have cI:∀(v:Int) (n:Nat),(Instr.checkKey em (n+1) 3 (Xe Xf v)).run Tryz.prog w= .ok () w:=fun v n=>by
  unfold Instr.checkKey
  simp[run_underlying Tryz.underlying3]
 have cB:∀(v:Bool) (n:Nat),(Instr.checkKey em (n+1) 4 (Xh v)).run Tryz.prog w= .ok () w:=fun v n=>by
  unfold Instr.checkKey
  simp[run_underlying Tryz.underlying4]
 rw[show(10000:Nat)=9999+1 from rfl,Instr.checkKey]
 simp only[Xs,run_underlying hu,rA];rw[<-Yw,hfs];have k1:=cI a.1 9998;have k2:=cI a.2 9998;have k3:=cB Xd 9998;have q0:=pI (#[Xe Xf a.1,Xe Xf a.2,Xh Xd]) 0 a.1 rfl;have q1:=pI (#[Xe Xf a.1,Xe Xf a.2,Xh Xd]) 1 a.2 rfl;have q2:=pB (#[Xe Xf a.1,Xe Xf a.2,Xh Xd]) 2 Xd rfl
 simp[List.forIn_cons,n0,t0,o0,n1,t1,o1,n2,t2,o2,q0,q1,q2,k1,k2,k3]
theorem enK_same (a b:Int × Int) (w:Xn):(Op.equal 127 (Xi #[Xe Xf a.1,Xe Xf a.2,Xh Xd]) (Xi #[Xe Xf b.1,Xe Xf b.2,Xh Xd])).run Tryz.prog w= .ok (decide (a=b)) w:=by
 have hf : (Tryz.prog.fieldsOf 127).toList.map (fun f => (f.name, f.type, f.offset)) = [("Kind", 3, 0), ("N", 3, 1), ("Write", 4, 2)] := by kernel_rfl
 unfold Op.equal Op.maxDepth;rw[run_equalIn_struct w 9999 127 _ _ (by kernel_rfl) (by kernel_rfl)]
 obtain⟨f0,f1,f2,hfs⟩:∃f0 f1 f2,(Tryz.prog.fieldsOf 127).toList=[f0,f1,f2]:=by
  have hl:(Tryz.prog.fieldsOf 127).toList.length=3:=by have:=congrArg Yh hf;simpa using this
  match hq:(Tryz.prog.fieldsOf 127).toList,hl with
  | [f0,f1,f2],_=>exact⟨f0,f1,f2,rfl⟩
 rw[hfs]at hf⊢
 simp at hf
 obtain⟨⟨n0,t0,o0⟩,⟨n1,t1,o1⟩,⟨n2,t2,o2⟩⟩:=hf;have pI:∀(zs:Array Xq) (o:Nat) v,zs[o]? =Xa (Xe Xf v)->(part 3 zs o).run Tryz.prog w= .ok (Xe Xf v) w:=fun zs o v hz=>run_part_plain w (by simp[Program.plainKey,Tryz.underlying3]) hz
 have pB:∀(zs:Array Xq) (o:Nat) v,zs[o]? =Xa (Xh v)->(part 4 zs o).run Tryz.prog w= .ok (Xh v) w:=fun zs o v hz=>run_part_plain w (by simp[Program.plainKey,Tryz.underlying4]) hz
 simp only[Op.eqFields,n0,t0,o0,n1,t1,o1,n2,t2,o2];obtain⟨a1,a2⟩:=a;obtain⟨b1,b2⟩:=b
 simp[pI,pB,run_equalIn_bool' w _ _ _ _ Tryz.underlying4,run_equalIn_int w _ _ _ _ _ _ Tryz.underlying3]
 by_cases e1:a1=b1 <;> by_cases e2:a2=b2 <;> simp[e1,e2]
def enK:KeyK where
 ty:=127
 enc:=fun a=> Xi #[Xe Xf a.1,Xe Xf a.2,Xh Xd]
 und:=⟨_,Tryz.underlying127⟩
 check:=enK_check
 same:=enK_same
 bits:=fun a=>by simp[Instr.sameBits]
theorem Box.ne_map {K:KeyK} {w:Xn} {b B:Nat} {cs:List Xq} {g:Int × Int->Option Int} (h:Box w b cs) (k:MapF K w B g):b≠B:=fun e=>by
 subst e;obtain⟨t,h⟩:=h;obtain⟨es,cl,l,k1,_⟩:=k;rw[h]at k1;cases k1
theorem OwnRow.ne_map {α:Type} {E:Elt α} {K:KeyK} {w:Xn} {base B:Nat} {v:Xq} {l:List α} {g:Int × Int->Option Int} (h:OwnRow E base w v l) (k:MapF K w B g):∀x,v.ownBlock=Xa x->Xa B≠Xa x:=fun x hx e=>by
 cases e;obtain⟨cs,h1⟩:=h.obj hx;obtain⟨es,cl,l,k1,_⟩:=k;rw[h1]at k1;cases k1
theorem Tryz.zeroInt (w:Xn):(zeroValue 3).run Tryz.prog w= .ok (Xe Xf 0) w:=by kernel_rfl
theorem withIndex_any (V:MaV) (m:Ma) (w:Xn) (hm:MachAt w V m):
  Xp Tryz.prog 70 #[Xi #[O V.f.a V.f.n V.f.c,Xe Xf m.hand,O V.s.a V.s.n V.s.c,O V.sb.a V.sb.n V.sb.c,O V.sq.a V.sq.n V.sq.c,O V.db.a V.db.n V.db.c,O V.dq.a V.dq.n V.dq.c,O V.fl.a V.fl.n V.fl.c,Xe Xf m.cnt,O V.ca.a V.ca.n V.ca.c,O V.sp.a V.sp.n V.sp.c]] w fun e w'=>∃B,e= Xl (Xi #[O V.f.a V.f.n V.f.c,Xe Xf m.hand,O V.s.a V.s.n V.s.c,O V.sb.a V.sb.n V.sb.c,O V.sq.a V.sq.n V.sq.c,O V.db.a V.db.n V.db.c,O V.dq.a V.dq.n V.dq.c,O V.fl.a V.fl.n V.fl.c,Xe Xf m.cnt,O V.ca.a V.ca.n V.ca.c,O V.sp.a V.sp.n V.sp.c,.map (Xa B)])/\MapF plK w' B (idxG m.ca)/\Grew w w':=by
 obtain⟨vf,vs,vsb,vsq,vdb,vdq,vfl,⟨caa,can,cac⟩,vsp⟩:=V;dsimp only;obtain⟨-,-,-,-,-,-,-,n8,-⟩:=hm.ns;dsimp only at n8;have HR:Xo (CaRows w caa m.ca):=hm.cas;have HN:Xo (m.ca.length=can):=n8.symm;have hbig:can<=9223372036854775807:=by have:=hm.ca.short;omega
 clear hm n8;have hmm:=@run_makeMap Tryz.prog;obtain⟨W0,hW0⟩:∃W0,((w.alloc (Xk #[O vf.a vf.n vf.c,Xe Xf m.hand,O vs.a vs.n vs.c,O vsb.a vsb.n vsb.c,O vsq.a vsq.n vsq.c,O vdb.a vdb.n vdb.c,O vdq.a vdq.n vdq.c,O vfl.a vfl.n vfl.c,Xe Xf m.cnt,O caa can cac,O vsp.a vsp.n vsp.c] 42)).alloc (Xk #[O Xb 0 0,Xe Xf 0,O Xb 0 0,O Xb 0 0,O Xb 0 0,O Xb 0 0,O Xb 0 0,O Xb 0 0,Xe Xf 0,O Xb 0 0,O Xb 0 0,.map Xb] 131)).alloc (.map #[] 0)=W0:=⟨_,rfl⟩;have HG0:Xo (Grew w W0):=show Grew _ _ by rw[<-hW0];exact((grew_alloc _ _).trans (grew_alloc _ _)).trans (grew_alloc _ _)
 have X0:Xo (Box W0 w.heap.size [O vf.a vf.n vf.c,Xe Xf m.hand,O vs.a vs.n vs.c,O vsb.a vsb.n vsb.c,O vsq.a vsq.n vsq.c,O vdb.a vdb.n vdb.c,O vdq.a vdq.n vdq.c,O vfl.a vfl.n vfl.c,Xe Xf m.cnt,O caa can cac,O vsp.a vsp.n vsp.c]):=show Box _ _ _ by rw[<-hW0];exact((Box.top _ _ _ rfl).alloc _).alloc _
 have Y0:Xo (Box W0 (w.heap.size+1) [O Xb 0 0,Xe Xf 0,O Xb 0 0,O Xb 0 0,O Xb 0 0,O Xb 0 0,O Xb 0 0,O Xb 0 0,Xe Xf 0,O Xb 0 0,O Xb 0 0,.map Xb]):=show Box _ _ _ by rw[<-hW0];exact(Box.top _ _ _ (by simp)).alloc _
 have M0:Xo (MapF plK W0 (w.heap.size+1+1) (idxG (m.ca.take 0))):=show MapF _ _ _ _ by
  rw[<-hW0];have:=MapF.made plK ((w.alloc (Xk #[O vf.a vf.n vf.c,Xe Xf m.hand,O vs.a vs.n vs.c,O vsb.a vsb.n vsb.c,O vsq.a vsq.n vsq.c,O vdb.a vdb.n vdb.c,O vdq.a vdq.n vdq.c,O vfl.a vfl.n vfl.c,Xe Xf m.cnt,O caa can cac,O vsp.a vsp.n vsp.c] 42)).alloc (Xk #[O Xb 0 0,Xe Xf 0,O Xb 0 0,O Xb 0 0,O Xb 0 0,O Xb 0 0,O Xb 0 0,O Xb 0 0,Xe Xf 0,O Xb 0 0,O Xb 0 0,.map Xb] 131));have hs:((w.alloc (Xk #[O vf.a vf.n vf.c,Xe Xf m.hand,O vs.a vs.n vs.c,O vsb.a vsb.n vsb.c,O vsq.a vsq.n vsq.c,O vdb.a vdb.n vdb.c,O vdq.a vdq.n vdq.c,O vfl.a vfl.n vfl.c,Xe Xf m.cnt,O caa can cac,O vsp.a vsp.n vsp.c] 42)).alloc (Xk #[O Xb 0 0,Xe Xf 0,O Xb 0 0,O Xb 0 0,O Xb 0 0,O Xb 0 0,O Xb 0 0,O Xb 0 0,Xe Xf 0,O Xb 0 0,O Xb 0 0,.map Xb] 131)).heap.size=w.heap.size+1+1:=by simp
  rw[hs]at this;exact this.congr fun k=>by rw[List.take_zero];rfl
 have HW0:Xo (_=W0):=hW0;clear hW0
 go_enter Tryz.func70,Tryz.ntmps70
 go_upto_region 2 with fail;rw[HW0.out];clear hmm;have x9:=X0.out.c 9 rfl;go_wp2;clear x9
 go_loopg [10] can (fun gg s10 wr=>∃kk:Nat,kk<=can/\can - kk<=gg/\s10= Xe Xf kk/\Xo (Grew w wr)/\Xo (Box wr w.heap.size [O vf.a vf.n vf.c,Xe Xf m.hand,O vs.a vs.n vs.c,O vsb.a vsb.n vsb.c,O vsq.a vsq.n vsq.c,O vdb.a vdb.n vdb.c,O vdq.a vdq.n vdq.c,O vfl.a vfl.n vfl.c,Xe Xf m.cnt,O caa can cac,O vsp.a vsp.n vsp.c])/\Xo (Box wr (w.heap.size+1) [O Xb 0 0,Xe Xf 0,O Xb 0 0,O Xb 0 0,O Xb 0 0,O Xb 0 0,O Xb 0 0,O Xb 0 0,Xe Xf 0,O Xb 0 0,O Xb 0 0,.map Xb])/\Xo (MapF plK wr (w.heap.size+1+1) (idxG (m.ca.take kk))))
 case atStart=>exact⟨0,nZ _,by omega,rfl,HG0.out,X0.out,Y0.out,M0.out⟩
 obtain⟨kk,hkk,hgg,rfl,BW,XW,YW,MW⟩:=hrel;clear X0 Y0 M0 HG0
 by_cases hlt:kk<can
 ·have hltz:(kk:Int)< (can:Int):=by omega
  obtain⟨c,HC⟩:∃c,Xo (m.ca[kk]? =Xa c):=⟨_,gE (by rw[HN.out];exact hlt)⟩
  obtain⟨ad,rfl,hl⟩:=HR.out kk c HC.out;obtain⟨d0,d1,d2⟩:=hl wr BW.out;clear hl;go_upto_region 5 with fail;obtain⟨W1,hW1⟩:∃W1,wr.alloc (Xk #[Xe Xf c.file,Xe Xf c.idx,Xe Xf c.fr] 105)=W1:=⟨_,rfl⟩;have HG1:=gT hW1 BW
  have X1:=yA hW1 XW
  have Y1:=yA hW1 YW
  have M1:Xo (MapF plK W1 (w.heap.size+1+1) (idxG (m.ca.take kk))):=show MapF _ _ _ _ by rw[<-hW1];exact MW.out.grew (grew_alloc _ _)
  have C1:=xA hW1
  rw[hW1];clear hW1 d0 d1 d2;obtain⟨c0,c1,c2⟩:=C1.out.c3
  go_wp2_with (refine wp_putMap (K:=plK) rfl 129 3 (.tmp 14) (.tmp 19) (.tmp 21) rfl Tryz.underlying129 (w.heap.size+1+1) _ M1.out (c.file,c.idx) c.fr rfl rfl rfl ?_)
  clear c0 c1 c2;intro W2 m2 hg2 _;have M2:Xo (MapF plK W2 (w.heap.size+1+1) (idxG (m.ca.take (kk+1)))):=show MapF _ _ _ _ from m2.congr fun k=>by rw[take_snoc HC.out,idxG_snoc]
  have HG2:Xo (Grew w W2):=show Grew _ _ from grew_grown HG1.out hg2 (by omega)
  have X2:Xo (Box W2 w.heap.size [O vf.a vf.n vf.c,Xe Xf m.hand,O vs.a vs.n vs.c,O vsb.a vsb.n vsb.c,O vsq.a vsq.n vsq.c,O vdb.a vdb.n vdb.c,O vdq.a vdq.n vdq.c,O vfl.a vfl.n vfl.c,Xe Xf m.cnt,O (Xa ad) can cac,O vsp.a vsp.n vsp.c]):=X1.out.grown hg2 (by omega)
  have Y2:Xo (Box W2 (w.heap.size+1) [O Xb 0 0,Xe Xf 0,O Xb 0 0,O Xb 0 0,O Xb 0 0,O Xb 0 0,O Xb 0 0,O Xb 0 0,Xe Xf 0,O Xb 0 0,O Xb 0 0,.map Xb]):=Y1.out.grown hg2 (by omega)
  clear m2 hg2;go_wp2
  go_roundg (can -(kk+1))
  case measure=>omega
  exact⟨kk+1,by omega,by omega,by go_num,HG2.out,X2.out,Y2.out,M2.out⟩
 have hltz:¬(kk:Int)< (can:Int):=by omega
 have:kk=can:=by omega
 subst this;have MA1:Xo (MapF plK wr (w.heap.size+1+1) (idxG m.ca)):=show MapF _ _ _ _ by
  have:=MW.out;rw[Yl (by rw[HN.out];exact nR _)]at this
  exact this
 obtain⟨x0,x1,x2,x3,x4,x5,x6,x7,x8,x9,x10⟩:=XW.out.c11
 go_wp2_with (refine wp_storeAll rfl 131 (.tmp 2) (.tmp 25) rfl (w.heap.size+1) rfl [O vf.a vf.n vf.c,Xe Xf m.hand,O vs.a vs.n vs.c,O vsb.a vsb.n vsb.c,O vsq.a vsq.n vsq.c,O vdb.a vdb.n vdb.c,O vdq.a vdq.n vdq.c,O vfl.a vfl.n vfl.c,Xe Xf m.cnt,O caa kk cac,O vsp.a vsp.n vsp.c,.map (Xa (w.heap.size+1+1))] rfl YW.out rfl (by kernel_rfl) (fun v hv=>by
  simp only[mC,nM,or_false]at hv
  rcases hv with rfl | rfl | rfl | rfl | rfl | rfl | rfl | rfl | rfl | rfl | rfl | rfl <;> rfl) ?_)
 clear x0 x1 x2 x3 x4 x5 x6 x7 x8 x9 x10;intro W5 hb5 hg5 _;have G5:Xo (Grew w W5):=show Grew _ _ from grew_grown BW.out hg5 (by omega)
 have M5:Xo (MapF plK W5 (w.heap.size+1+1) (idxG m.ca)):=MA1.out.kept hg5 (by simp)
 go_wp2;refine bodyPost_ret (ret_cell rfl _ rfl hb5 Tryz.underlying131 rfl (by kernel_rfl)) rfl ⟨_,rfl,M5.out,G5.out⟩
theorem hasCached_any (V:MaV) (m:Ma) (B k:Nat) (g:Int × Int->Option Int) (w:Xn) (hm:MachAt w V m) (hk:k<m.fs.length) (hmap:MapF plK w B g):
  Xp Tryz.prog 72 #[Xi #[O V.f.a V.f.n V.f.c,Xe Xf m.hand,O V.s.a V.s.n V.s.c,O V.sb.a V.sb.n V.sb.c,O V.sq.a V.sq.n V.sq.c,O V.db.a V.db.n V.db.c,O V.dq.a V.dq.n V.dq.c,O V.fl.a V.fl.n V.fl.c,Xe Xf m.cnt,O V.ca.a V.ca.n V.ca.c,O V.sp.a V.sp.n V.sp.c,.map (Xa B)],Xe Xf (k:Int)] w fun e w'=>e= Xl (Xh (decide (g ((frAt m k).f,(frAt m k).x)=Xa (k:Int))))/\Grew w w':=by
 obtain⟨⟨fa,fn,fc⟩,vs,vsb,vsq,vdb,vdq,vfl,vca,vsp⟩:=V;dsimp only;obtain⟨n1,-⟩:=hm.ns;dsimp only at n1;have hkn:k<fn:=by omega
 obtain⟨q,HQ⟩:∃q,Xo (m.fs[k]? =Xa q):=⟨_,gE hk⟩;have hfr:frAt m (k:Int)=q:=by unfold frAt;rw[tN,gD,HQ.out];rfl
 rw[hfr];obtain⟨ad,rfl,hl⟩:=(show FrRows w fa m.fs from hm.frs) k q HQ.out
 clear hfr hm n1 hk;obtain⟨W1,hW1⟩:∃W1,w.alloc (Xk #[O (Xa ad) fn fc,Xe Xf m.hand,O vs.a vs.n vs.c,O vsb.a vsb.n vsb.c,O vsq.a vsq.n vsq.c,O vdb.a vdb.n vdb.c,O vdq.a vdq.n vdq.c,O vfl.a vfl.n vfl.c,Xe Xf m.cnt,O vca.a vca.n vca.c,O vsp.a vsp.n vsp.c,.map (Xa B)] 131)=W1:=⟨_,rfl⟩;have HG1:=gA hW1
 have X1:=xA hW1
 have HS1:=sA hW1
 obtain⟨d0,d1,d2,d3,d4,d5,d6,d7,d8,d9,d10,d11,d12⟩:=hl W1 HG1.out;obtain⟨W2,hW2⟩:∃W2,W1.alloc (Xk #[Xe Xg q.p.b0,Xe Xg q.p.b1,Xe Xg q.p.b2,Xe Xg q.p.b3,Xe Xg q.p.b4,Xe Xg q.p.b5,Xe Xg q.p.b6,Xe Xg q.p.b7,Xe Xf q.r,Xh q.u,Xh q.d,Xe Xf q.f,Xe Xf q.x] 93)=W2:=⟨_,rfl⟩;have HG2:=gT hW2 HG1
 have X2:=yA hW2 X1
 have F2:=xP hW2 HS1
 have hlook:(Instr.lookup 129 (.map (Xa B)) (Xi #[Xe Xf q.f,Xe Xf q.x]) Xc).run Tryz.prog W2= .ok (Xm #[Xe Xf ((g (q.f,q.x)).getD 0),Xh (g (q.f,q.x)).isSome]) W2:=(hmap.grew HG2.out).look (K:=plK) Tryz.underlying129 (Tryz.zeroInt W2) (q.f,q.x) Xc;have HW1:Xo (_=W1):=hW1;have HW2:Xo (_=W2):=hW2;clear hW1 hW2 hl hmap;obtain⟨R,HRR⟩:∃R,Xo (decide (g (q.f,q.x)=Xa (k:Int))=R):=⟨_,rfl⟩;rw[HRR.out];obtain⟨gv,HGV⟩:∃gv,Xo (g (q.f,q.x)=gv):=⟨_,rfl⟩;rw[HGV.out]at hlook HRR
 go_enter Tryz.func72,Tryz.ntmps72
 go_upto_region 1 with fail;rw[HW1.out];have x0:=X1.out.c 0 rfl;go_upto_region 2 with fail;rw[HW2.out];rw[HS1.out];clear d0 d1 d2 d3 d4 d5 d6 d7 d8 d9 d10 d11 d12 x0;have x11:=X2.out.c 11 rfl;have f11:=F2.out.c 11 rfl;have f12:=F2.out.c 12 rfl
 cases gv with
 | none=>
  simp only[Option.getD_none,Option.isSome_none]at hlook;go_wp2;go_ret;exact⟨by rw[<-HRR.out];rfl,HG2.out⟩
 | some z=>
  simp only[Option.getD_some,Option.isSome_some]at hlook;have HE:Xo ((z ==(k:Int))=R):=show _=_ by rw[<-HRR.out,Bool.eq_iff_iff];simp
  go_wp2;go_ret;exact⟨by rw[<-HE.out];rfl,HG2.out⟩
end
end Go.Proofs.YtempiodbdhiboaaGreat
