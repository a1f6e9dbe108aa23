import Derived.Test.YtangilolcekceaaGreatPF5
import Derived.OrdersHeld
namespace Go.Proofs.YtangilolcekceaaGreat
set_option maxRecDepth 100000
set_option maxHeartbeats 4000000
section
open Go.RowKit
def dropL (m:Ma) (q:Nat) (l:List Int):Ma:=l.foldl (fun m n=>dropP m q n) m
theorem dropL_snoc (m:Ma) (q:Nat) (l:List Int) (n:Int):dropL m q (l++ [n])=dropP (dropL m q l) q n:=by simp[dropL]
theorem dropP_len (m:Ma) (q:Nat) (n:Int):(dropP m q n).sp.length=m.sp.length:=by unfold dropP;rw[enterM_len,holdM_sp]
theorem dropL_len (m:Ma) (q:Nat):∀(l:List Int),(dropL m q l).sp.length=m.sp.length:=by
 intro l;unfold dropL
 induction l generalizing m with
 | nil=>rfl
 | cons n l ih=>rw[List.foldl_cons,ih,dropP_len]
def goneM (m:Ma) (q:Nat):Ma:={ m with sp:=m.sp.set q ⟨false,[],none8⟩ }
def exitP (m:Ma) (q:Nat) (s:Sp):Ma:=goneM (dropL m q (pagesTo s.tb anyEn 64)) q
def Exited (m:Ma) (p:Int) (e:Ending) (w':World):Prop:=
 ((∀q s,¬LiveP m p q s)/\e= .returned (.tuple #[.agg zeroM.toArray,.int .i64 5]))\/
 ∃q s,LiveP m p q s/\∃V':MaV,e= .returned (.tuple #[.agg #[.slice V'.f.a V'.f.n V'.f.c,.int .i64 (exitP m q s).hand,.slice V'.s.a V'.s.n V'.s.c,.slice V'.sb.a V'.sb.n V'.sb.c,.slice V'.sq.a V'.sq.n V'.sq.c,.slice V'.db.a V'.db.n V'.db.c,.slice V'.dq.a V'.dq.n V'.dq.c,.slice V'.fl.a V'.fl.n V'.fl.c,.int .i64 (exitP m q s).cnt,.slice V'.ca.a V'.ca.n V'.ca.c,.slice V'.sp.a V'.sp.n V'.sp.c],.int .i64 0])/\MachAt w' V' (exitP m q s)
theorem ChM.setP {w0 w w2:World} {p q g:Nat} {V:MaV} {m:Ma} (h:ChM w0 p w V m) {xs:List SpV} {y:SpV} {s':Sp} (s2:xs.length=m.sp.length) (s3:∀(i:Nat) x s,xs[i]? =some x->m.sp[i]? =some s->∀W,OutD (Dq w0.heap.size p V.sp) w W->SpaceAt W x s) (hg:(Value.slice V.sp.a V.sp.n V.sp.c).ownBlock=some g)
  (g2:w.grownBy w2 (some g)) (ow:OwnRow spcE w0.heap.size w2 (.slice V.sp.a V.sp.n V.sp.c) (xs.set q y)) (hy:∀W,SpaceAt W y s'):ChM w0 p w2 V { m with sp:=m.sp.set q s' }:=by
 have o2:OutD (Dq w0.heap.size p V.sp) w w2:=OutD.grown g2 (.inr (.inr hg));refine⟨grew_grown h.gr g2 (h.dlo g (.inr hg)),h.lo,h.box.beside g2 (fun k e=>by cases e;exact h.ne g hg),fun W hW=>?_,⟨xs.set q y,ow,by simp[s2],fun i x' s' hx' hs' W hW=>?_⟩⟩
 ·have r:=h.rest W (o2.trans hW);exact⟨r.fs,r.sl,r.sb,r.sq,r.db,r.dq,r.fl,r.ca⟩
 rename_i s0
 have hs':(m.sp.set q s0)[i]? =some s':=hs'
 by_cases e:i=q
 ·subst e;have hl:=(gS.1 hx').1;rw[List.length_set]at hl;rw[sF hl]at hx';rw[sF (by omega)]at hs'
  cases hx';cases hs';exact hy W
 rw[sN (fun h=>e h.symm)]at hx' hs'
 exact s3 i x' s' hx' hs' W (o2.trans hW)
theorem exitF_any (V:MaV) (m:Ma) (p:Int) (w:World) (hm:MachAt w V m) (h0:maW m=0):
  Calls Tryz.prog 23 #[.agg #[.slice V.f.a V.f.n V.f.c,.int .i64 m.hand,.slice V.s.a V.s.n V.s.c,.slice V.sb.a V.sb.n V.sb.c,.slice V.sq.a V.sq.n V.sq.c,.slice V.db.a V.db.n V.db.c,.slice V.dq.a V.dq.n V.dq.c,.slice V.fl.a V.fl.n V.fl.c,.int .i64 m.cnt,.slice V.ca.a V.ca.n V.ca.c,.slice V.sp.a V.sp.n V.sp.c],.int .i64 p] w fun e w'=>Exited m p e w'/\Grew w w':=by
 obtain⟨W1,hW1⟩:∃W1,((w.alloc (.cells #[.slice V.f.a V.f.n V.f.c,.int .i64 m.hand,.slice V.s.a V.s.n V.s.c,.slice V.sb.a V.sb.n V.sb.c,.slice V.sq.a V.sq.n V.sq.c,.slice V.db.a V.db.n V.db.c,.slice V.dq.a V.dq.n V.dq.c,.slice V.fl.a V.fl.n V.fl.c,.int .i64 m.cnt,.slice V.ca.a V.ca.n V.ca.c,.slice V.sp.a V.sp.n V.sp.c] 40)).alloc (.cells #[.int .i64 p] 3)).alloc (.cells #[.slice none 0 0,.int .i64 0,.slice none 0 0,.slice none 0 0,.slice none 0 0,.slice none 0 0,.slice none 0 0,.slice none 0 0,.int .i64 0,.slice none 0 0,.slice none 0 0] 40)=W1:=⟨_,rfl⟩;have G1:Hid (Grew w W1):=show Grew _ _ by rw[<-hW1];exact((grew_alloc _ _).trans (grew_alloc _ _)).trans (grew_alloc _ _)
 obtain⟨b,HB⟩:∃b,Hid (w.heap.size=b):=⟨_,rfl⟩;have X1:Hid (BoxT W1 b 40 [.slice V.f.a V.f.n V.f.c,.int .i64 m.hand,.slice V.s.a V.s.n V.s.c,.slice V.sb.a V.sb.n V.sb.c,.slice V.sq.a V.sq.n V.sq.c,.slice V.db.a V.db.n V.db.c,.slice V.dq.a V.dq.n V.dq.c,.slice V.fl.a V.fl.n V.fl.c,.int .i64 m.cnt,.slice V.ca.a V.ca.n V.ca.c,.slice V.sp.a V.sp.n V.sp.c]):=show BoxT _ _ _ _ by rw[<-hW1];exact((BoxT.top w [.slice V.f.a V.f.n V.f.c,.int .i64 m.hand,.slice V.s.a V.s.n V.s.c,.slice V.sb.a V.sb.n V.sb.c,.slice V.sq.a V.sq.n V.sq.c,.slice V.db.a V.db.n V.db.c,.slice V.dq.a V.dq.n V.dq.c,.slice V.fl.a V.fl.n V.fl.c,.int .i64 m.cnt,.slice V.ca.a V.ca.n V.ca.c,.slice V.sp.a V.sp.n V.sp.c] _ HB.out.symm).grew (grew_alloc _ _)).grew (grew_alloc _ _)
 have Y1:Hid (BoxT W1 (b+1) 3 [.int .i64 p]):=show BoxT _ _ _ _ by rw[<-hW1];exact(BoxT.top _ [.int .i64 p] _ (by have:=HB.out;simp;omega)).grew (grew_alloc _ _)
 have Z1:Hid (BoxT W1 (b+1+1) 40 zeroM):=show BoxT _ _ _ _ by rw[<-hW1];exact BoxT.top _ zeroM _ (by have:=HB.out;simp;omega)
 have HM:Hid (MachAt w V m):=hm;have HW1:Hid (_=W1):=hW1;clear hW1;have hwp:=wrongProcess_any V m p W1 (hm.grew G1.out) h0;clear hm h0
 go_enter Tryz.func23,Tryz.ntmps23
 go_upto_region 1 with fail;rw[HW1.out,HB.out];obtain⟨x0,x1,x2,x3,x4,x5,x6,x7,x8,x9,x10⟩:=X1.out.box.c11;have y0:=Y1.out.box.c 0 rfl;go_wp2_with fail;refine hwp.mono ?_;clear hwp x0 x1 x2 x3 x4 x5 x6 x7 x8 x9 x10 y0;rintro e W2 ⟨hE,g2⟩;have G2:=dD (G1.out.trans g2);have X2:=dD (X1.out.grew g2);have Y2:=dD (Y1.out.grew g2);have Z2:=dD (Z1.out.grew g2);clear g2 X1 Y1 Z1 G1 HW1
 rcases hE with⟨rfl,hL⟩ | ⟨rfl,hL⟩
 case inr=>
  have HF:Hid (∀q s,¬LiveP m p q s):=hL;clear hL;have hzl:∀v∈zeroM,v.oneCell'=true:=by simp[zeroM,Value.oneCell']
  go_wp2_with (refine wp_storeAllT rfl 40 (.tmp 4) (.tmp 13) rfl (b+1+1) rfl zeroM rfl Z2.out rfl (by kernel_rfl) hzl ?_)
  intro W3 bx3 gr3 _;have G3:Hid (Grew w W3):=show Grew _ _ from grew_grown G2.out gr3 (by have:=HB.out;omega)
  have B3:Hid (BoxT W3 (b+1+1) 40 zeroM):=bx3;clear bx3 gr3;go_wp2;refine bodyPost_ret (ret_cell_tmp rfl _ rfl B3.out.box Tryz.underlying40 rfl (by kernel_rfl)) rfl ⟨.inl ⟨HF.out,rfl⟩,G3.out⟩
 obtain⟨q,s,hp,hs,hl⟩:=hL;subst hp;have HS:Hid (m.sp[q]? =some s):=hs;have HLV:Hid (s.live=true):=hl;clear hs hl;have hof:=of_any V m W2 (HM.out.grew G2.out);obtain⟨x0,x1,x2,x3,x4,x5,x6,x7,x8,x9,x10⟩:=X2.out.box.c11;go_wp2_with fail;refine hof.mono ?_;clear hof x0 x1 x2 x3 x4 x5 x6 x7 x8 x9 x10;rintro e W5 ⟨r,V5,rfl,m5⟩;go_upto_region 5 with fail;obtain⟨d,HD⟩:∃d,Hid (W5.heap.size=d):=⟨_,rfl⟩;obtain⟨W6,hW6⟩:∃W6,W5.alloc (.cells #[.pointer (some ⟨r,0,none⟩)] 137)=W6:=⟨_,rfl⟩;have g6:=gP hW6
 have g46:Grew W2 W6:=m5.gr.trans g6;have M6:Hid (ChM W2 r W6 V5 m):=m5.grew g6;have D6:=xPT hW6 HD
 have Y6:=dD (Y2.out.grew g46);have Z6:=dD (Z2.out.grew g46);have HND:Hid (b+1+1<W2.heap.size/\r<d/\(∀k,Dp r V5.sp k->W2.heap.size<=k/\k<d)):=show _/\_ by
  have:=HD.out;exact⟨Z2.out.box.lt,by have:=m5.dlt r (.inl rfl);omega,fun k hk=>⟨m5.dlo k hk,by have:=m5.dlt k hk;omega⟩⟩
 rw[hW6,HD.out];clear hW6 g6 g46 m5 X2 Y2 Z2 HD;have hep:=eachPage_any M6.out q s HS.out 80 #[.pointer (some ⟨d,0,none⟩),.pointer (some ⟨b+1,0,none⟩)]
  (fun j W=>∃V':MaV,V'.sp=V5.sp/\ChM W2 r W V' (dropL m q ((pagesTo s.tb anyEn 64).take j))/\BoxT W d 137 [.pointer (some ⟨r,0,none⟩)]/\BoxT W (b+1) 3 [.int .i64 (q:Int)]/\BoxT W (b+1+1) 40 zeroM)
  (enters_of Tryz.func80 (by kernel_rfl) rfl)
  (fun W hW=>⟨V5,rfl,by rw[List.take_zero];exact M6.out.grew hW,D6.out.grew hW,Y6.out.grew hW,Z6.out.grew hW⟩)
  (fun j n W hj hJ=>by
   obtain⟨V',e1,e2,e3,e5,e6⟩:=hJ;refine(exit1_any e2 q (by rw[dropL_len];exact(gS.1 HS.out).1) n d (b+1) e3.box e5.box).mono ?_
   rintro e w' ⟨hv,V'',f1,f2,f3⟩;rw[e1]at f1 f3;obtain⟨hn1,hn2,hn3⟩:=HND.out;refine⟨hv,⟨V'',f1,?_,e3.outD f3 (fun h=>by have:=(hn3 _ h).2;omega),e5.outD f3 (fun h=>by have:=(hn3 _ h).1;omega),e6.outD f3 (fun h=>by have:=(hn3 _ h).1;omega)⟩,f3⟩
   rw[take_snoc hj,dropL_snoc];exact f2)
 rw[List.take_length]at hep;have hmf:∀(fn:Fn) (first cap:Array Value) (w:World),(Instr.makeFunc fn first cap).run Tryz.prog w= .ok (.func fn first cap) w:=fun _ _ _ _=>rfl
 have d0:=D6.out.box.c 0 rfl;have y0:=Y6.out.box.c 0 rfl;go_wp2_with fail;refine hep.mono ?_;clear hep d0 y0;rintro e W7 ⟨⟨v7,rfl⟩,⟨V7,e1,e2,e3,e5,e6⟩,_⟩;obtain⟨DM,HDM⟩:∃DM,Hid (dropL m q (pagesTo s.tb anyEn 64)=DM):=⟨_,rfl⟩;rw[HDM.out]at e2;have HQL:Hid (q<DM.sp.length):=show _<_ by rw[<-HDM.out,dropL_len];exact(gS.1 HS.out).1
 have M7:Hid (ChM W2 r W7 V7 DM):=e2;have D7:Hid (BoxT W7 d 137 [.pointer (some ⟨r,0,none⟩)]):=e3;have Y7:Hid (BoxT W7 (b+1) 3 [.int .i64 (q:Int)]):=e5;have Z7:Hid (BoxT W7 (b+1+1) 40 zeroM):=e6;have HSP:Hid (V7.sp=V5.sp):=e1;clear e1 e2 e3 e5 e6 D6 Y6 Z6 M6;go_upto_region 6 with fail;obtain⟨xs,s1,s2,s3⟩:=M7.out.sp;obtain⟨xn,HXN⟩:∃xn,Hid (xs.length=xn):=⟨_,rfl⟩;obtain⟨g,gc,heq⟩:=s1.formS (by have:=HQL.out;omega)
 rw[HXN.out]at heq;have hqz:(q:Int)< (xn:Int):=by have:=HXN.out;have:=HQL.out;omega
 have HVS:Hid (Value.slice V7.sp.a V7.sp.n V7.sp.c= .slice (some ⟨g,0,none⟩) xn gc):=heq;rw[heq]at s1;have HS1:Hid (OwnRow spcE W2.heap.size W7 (.slice (some ⟨g,0,none⟩) xn gc) xs):=s1;have HS2:Hid (xs.length=DM.sp.length):=s2;have HS3:Hid (∀(i:Nat) x s,xs[i]? =some x->DM.sp[i]? =some s->∀W,OutD (Dq W2.heap.size r V7.sp) W7 W->SpaceAt W x s):=s3;clear s1 s2 s3 heq;obtain⟨I,HI⟩:∃I:World->Prop,Hid (∀u,I u↔Grew W7 u):=⟨fun u=>Grew W7 u,fun _=>Iff.rfl⟩
 have hI0:I W7.drew:=(HI.out _).2 (gW _)
 have hr10:∀y:HoldI I,y.world.cell? ⟨r,10,none⟩=some (.slice (some ⟨g,0,none⟩) xn gc):=fun y=>by rw[<-HVS.out];exact(M7.out.box.box.grew ((HI.out _).1 y.holds)).c 10 rfl
 have hd0:∀y:HoldI I,y.world.cell? ⟨d,0,none⟩=some (.pointer (some ⟨r,0,none⟩)):=fun y=>(D7.out.box.grew ((HI.out _).1 y.holds)).c 0 rfl
 have hy0:∀y:HoldI I,y.world.cell? ⟨b+1,0,none⟩=some (.int .i64 (q:Int)):=fun y=>(Y7.out.box.grew ((HI.out _).1 y.holds)).c 0 rfl
 have hne:Nonempty (HoldI I):=⟨⟨_,hI0⟩⟩;refine wp_lax_tailD (I:=I) 8 [] (fun _=>True) hI0 trivial mixed (by kernel_rfl) rfl rfl (by decide) (by simp) (by kernel_rfl) ?_
 simp only[List.take,List.drop];iterate 1 (refine laxD_quiet rfl rfl rfl (fun K hK=>?_);go_big_quiet_op;refine hK _ ?_;clear hK K)
 refine laxD_nilc (.tmp 21) ⟨r,0,none⟩ rfl rfl rfl rfl ?_;simp only[Act.put,sB,sS,sZ];iterate 6 (refine laxD_quiet rfl rfl rfl (fun K hK=>?_);go_big_quiet_op;refine hK _ ?_;clear hK K)
 refine laxD_nil fun W8 hI8 _=>?_
 have g8:Grew W7 W8:=(HI.out _).1 hI8;refine wpList_store_elt (E:=spcE) rfl (.tmp 28) (.tmp 27) rfl W2.heap.size _ xs (HS1.out.grew g8) g q rfl ⟨false,sli0,sli0,sli0,sli0,sli0,sli0,sli0,sli0,sli0⟩ (by rw[HXN.out];omega) ⟨g,q*10,none⟩ rfl rfl spz rfl rfl ?_
 intro W9 ow9 gr9 _;rw[<-HVS.out]at ow9;have hgo:(Value.slice V7.sp.a V7.sp.n V7.sp.c).ownBlock=some g:=by rw[HVS.out];rfl
 have M9:Hid (ChM W2 r W9 V7 (goneM DM q)):=show ChM _ _ _ _ _ from(M7.out.grew g8).setP HS2.out (fun i x s hx hs W hW=>HS3.out i x s hx hs W ((OutD.grew g8).trans hW)) hgo gr9 ow9 (fun W=>⟨rfl,RowAt.nil _ _,nR _,TabS.nil _ _ _⟩)
 obtain⟨hn1,hn2,hn3⟩:=HND.out;have hgd:=hn3 g (by rw[<-HSP.out];exact .inr hgo)
 have D9:Hid (BoxT W9 d 137 [.pointer (some ⟨r,0,none⟩)]):=show BoxT _ _ _ _ from(D7.out.grew g8).beside gr9 (fun k e=>by cases e;omega)
 have Z9:Hid (BoxT W9 (b+1+1) 40 zeroM):=show BoxT _ _ _ _ from(Z7.out.grew g8).beside gr9 (fun k e=>by cases e;omega)
 clear ow9 gr9 hI8 g8 hI0 hne HI hr10 hd0 hy0 hgo hn1 hn2 hn3 hgd HS1 HS3 M7 D7 Y7 Z7;obtain⟨FM,HFM⟩:∃FM,Hid (goneM DM q=FM):=⟨_,rfl⟩;rw[HFM.out]at M9;have HZL:Hid (∀v∈chL V7 FM,v.oneCell'=true):=show∀v∈chL V7 FM,_ by simp[chL,Value.oneCell']
 have d0:=D9.out.box.c 0 rfl;obtain⟨r0,r1,r2,r3,r4,r5,r6,r7,r8,r9,r10⟩:=M9.out.box.box.c11
 go_wp2_with (refine wp_storeAllT rfl 40 (.tmp 4) (.tmp 32) rfl (b+1+1) rfl (chL V7 FM) rfl Z9.out rfl (by kernel_rfl) HZL.out ?_)
 clear d0 r0 r1 r2 r3 r4 r5 r6 r7 r8 r9 r10;intro W11 bx gr11 _;have G11:Hid (Grew w W11):=show Grew _ _ from grew_grown (G2.out.trans M9.out.gr) gr11 (by have:=HB.out;omega)
 have B11:Hid (BoxT W11 (b+1+1) 40 (chL V7 FM)):=bx;have HF:Hid (MachAt W11 V7 FM):=show MachAt _ _ _ by
  have hn1:=HND.out.1;have o:OutD (Dq W2.heap.size r V7.sp) W9 W11:=OutD.grown gr11 (.inl (by omega))
  have rs:=M9.out.rest W11 o;obtain⟨ys,t1,t2,t3⟩:=M9.out.sp;exact⟨rs.fs,rs.sl,rs.sb,rs.sq,rs.db,rs.dq,rs.fl,rs.ca,⟨ys,(t1.grown gr11 (fun g' hg' e=>by cases e;have:=(t1.lt _ hg').1;omega)).at,t2,fun i x s hx hs=>t3 i x s hx hs W11 o⟩⟩
 have HEX:Hid (exitP m q s=FM):=show _=_ by unfold exitP;rw[HDM.out,HFM.out]
 clear bx gr11;go_wp2;refine bodyPost_ret (ret_cell_tmp rfl _ rfl B11.out.box Tryz.underlying40 rfl (by kernel_rfl)) rfl ⟨.inr ⟨q,s,⟨rfl,HS.out,HLV.out⟩,V7,?_,?_⟩,G11.out⟩
 ·rw[HEX.out];rfl
 rw[HEX.out];exact HF.out
end
section
structure Rt (m:Ma):Prop where
 w:maW m=0
 t8:∀s∈m.sp,s.tb.length=8
theorem Rt.inv {m:Ma} (h:Rt m):BInv m (flats m):=(right_inv h.w).1
theorem Rt.hand {m:Ma} (h:Rt m):0<=m.hand/\m.hand<max (m.fs.length:Int) 1:=(right_inv h.w).2
theorem Rt.tb {m:Ma} (h:Rt m) {s:Sp} (hs:s∈m.sp):TbOk s.tb:=by
 refine⟨h.t8 s hs,tbW_zero.1 ?_⟩;have h0:=h.w;unfold maW at h0;rw[firstE_zero]at h0;have h1:partE m=0:=h0 _ (by simp)
 unfold partE at h1;rw[firstE_zero]at h1;have p10:=firstE_zero.1 (h1 (firstE (m.sp.map spE)) (by simp)) (spE s) (List.mem_map.2 ⟨s,hs,rfl⟩)
 unfold spE at p10
 split at p10
 ·rename_i a
  exact absurd p10 a
 split at p10
 ·rename_i a
  exact absurd p10 a
 rename_i a
 exact Classical.byContradiction a
theorem Rt.of {m:Ma} (hb:BInv m (flats m)) (ht:∀s∈m.sp,TbOk s.tb) (h0:0<=m.hand) (h1:m.hand<max (m.fs.length:Int) 1):Rt m:=by
 refine⟨?_,fun s hs=>(ht s hs).1⟩
 have:=hb.right h0 h1;rw[fin_self ht]at this;exact this
theorem flats_at {m:Ma} {p:Nat} {s:Sp} (h:m.sp[p]? =some s):(flats m)[p]? =some (flatN s):=by
 unfold flats;rw[List.getElem?_map,h];rfl
theorem BInv.tabs {m:Ma} {T:List (Nat->En)} (h:BInv m T) {sp':List Sp} (hl:sp'.length=m.sp.length) (hs:∀(p:Nat) s s',m.sp[p]? =some s->sp'[p]? =some s'->s'.live=s.live/\s'.ars=s.ars):BInv { m with sp:=sp' } T:=by
 have back:∀(p:Nat) s',sp'[p]? =some s'->∃s,m.sp[p]? =some s/\s'.live=s.live/\s'.ars=s.ars:=fun p s' h'=>by
  have hp:p<m.sp.length:=by rw[<-hl];exact(gS.1 h').1
  exact⟨_,gE hp,hs p _ s' (gE hp) h'⟩
 refine⟨h.fs40,h.fok,h.sl60,h.sbl,h.sq,h.dok,h.st,h.cnt,h.blk,h.que,by show sp'.length<=4;rw[hl];exact h.spl,fun s' hs'=>?_,h.tl.trans hl.symm,?_,fun p s' f hs' hT n hn=>?_,h.cf,h.cs⟩
 ·obtain⟨p,hp⟩:=List.getElem?_of_mem hs';obtain⟨s,h1,h2,h3⟩:=back p s' hp;rw[h2,h3];exact h.spok s (mG h1)
 ·obtain⟨a1,a2,a3⟩:=caGo_zero.1 h.ca;exact caGo_zero.2 ⟨fun c hc=>a1 c hc,fun q c hq=>(by cases hq),a3⟩
 obtain⟨s,h1,h2,h3⟩:=back p s' hs';rw[h3];exact h.ent p s f h1 hT n hn
def putE (m:Ma) (p n:Nat) (e:En):Ma:={ m with sp:=m.sp.modify p fun s=>{ s with tb:=setT s.tb n e } }
theorem put_at {m:Ma} {p n:Nat} {e:En} {q:Nat}:(putE m p n e).sp[q]? =(m.sp[q]?).map fun s=>if p=q then{ s with tb:=setT s.tb n e }else s:=by
 unfold putE;simp only[List.getElem?_modify]
 by_cases h:p=q
 ·simp[h]
 simp[h]
theorem put_flat {s:Sp} (ht:TbOk s.tb) {n:Nat} (hn:n<64) {e:En} (he:enW e=0):flatN { s with tb:=setT s.tb n e }=updF (flatN s) n e:=by
 funext j
 unfold flatN updF;simp only;rw[getN_set ht hn he _ _ (Nat.mod_lt _ (by decide))]
 by_cases h:j=n
 ·rw[if_pos h,if_pos (by subst h;exact⟨rfl,rfl⟩)]
 rw[if_neg h,if_neg (fun k=>h (by omega))]
theorem flats_put {m:Ma} {p n:Nat} {e:En} {s:Sp} (hs:m.sp[p]? =some s) (ht:TbOk s.tb) (hn:n<64) (he:enW e=0):flats (putE m p n e)=(flats m).set p (updF (flatN s) n e):=by
 apply List.ext_getElem?
 intro q;have hpl:=(gS.1 hs).1;unfold flats;rw[List.getElem?_map,put_at,List.getElem?_set,List.length_map]
 by_cases h:p=q
 ·subst h;rw[hs,if_pos rfl,if_pos hpl];simp only[Option.map_some,if_pos,put_flat ht hn he]
 rw[if_neg h,List.getElem?_map]
 cases m.sp[q]? with
 | none=>rfl
 | some x=>simp[h]
theorem put_len {m:Ma} {p n:Nat} {e:En}:(putE m p n e).sp.length=m.sp.length:=by simp[putE]
theorem putE_same {m:Ma} {p n:Nat} {e:En} {q:Nat} {s s':Sp} (hs:m.sp[q]? =some s) (hs':(putE m p n e).sp[q]? =some s'):s'.live=s.live/\s'.ars=s.ars:=by
 rw[put_at,hs]at hs';simp only[Option.map_some,Option.some.injEq]at hs';subst hs'
 split <;> exact⟨rfl,rfl⟩
theorem put_tabs {m:Ma} (ht:∀s∈m.sp,TbOk s.tb) {p n:Nat} {e:En} (he:enW e=0):∀s∈(putE m p n e).sp,TbOk s.tb:=fun s hs=>by
 obtain⟨q,hq⟩:=List.getElem?_of_mem hs;rw[put_at]at hq
 cases h:m.sp[q]? with
 | none=>rw[h]at hq;cases hq
 | some x=>
  rw[h]at hq;simp only[Option.map_some,Option.some.injEq]at hq;have hx:=ht x (mG h);subst hq
  split
  ·exact setT_ok hx he
  exact hx
theorem put_rt {m:Ma} {p n:Nat} {e:En} {s:Sp} (hs:m.sp[p]? =some s) (ht:∀s∈m.sp,TbOk s.tb) (hn:n<64) (he:enW e=0) (hb:BInv m ((flats m).set p (updF (flatN s) n e))) (h0:0<=m.hand/\m.hand<max (m.fs.length:Int) 1):Rt (putE m p n e):=by
 refine Rt.of ?_ (put_tabs ht he) h0.1 h0.2;rw[flats_put hs (ht s (mG hs)) hn he];exact hb.tabs put_len fun q s s' h1 h2=>putE_same h1 h2
section
variable{m:Ma} {p n:Nat} {s:Sp}
theorem Rt.ent (h:Rt m) (hs:m.sp[p]? =some s) (hn:n<64):flatN s n=en0\/EntOk m (onAt s.ars n) (flatN s n):=h.inv.ent p s _ hs (flats_at hs) n hn
theorem Rt.present (h:Rt m) (hs:m.sp[p]? =some s) (hn:n<64) (hk:(flatN s n).kind=1):∃(k:Nat) (fr:Fr),(flatN s n).n=(k:Int)/\m.fs[k]? =some fr/\frAt m (flatN s n).n=fr/\fr.r≠0:=by
 rcases h.ent hs hn with e | e
 ·rw[e]at hk;cases hk
 obtain⟨c1,c2,c3,_⟩:=entE_present e (by omega)
 refine⟨(flatN s n).n.toNat,m.fs[(flatN s n).n.toNat]'(by omega),by omega,gE _,?_,fun h0=>?_⟩
 ·have:=frAt_of (m:=m) (k:=(flatN s n).n.toNat) (gE (by omega))
  rw[show(((flatN s n).n.toNat:Nat):Int)=(flatN s n).n by omega]at this
  exact this
 have h1:=(h.inv.free (gE (show(flatN s n).n.toNat<m.fs.length by omega)) h0).1
 have h2:=held_of (flats_at hs) hn hk;rw[show(((flatN s n).n.toNat:Nat):Int)=(flatN s n).n by omega]at h1
 omega
theorem Rt.swapped (h:Rt m) (hs:m.sp[p]? =some s) (hn:n<64) (hk:(flatN s n).kind=2):∃(k:Nat) (z:Int),(flatN s n).n=(k:Int)/\m.sl[k]? =some z/\m.sl.getD (flatN s n).n.toNat 0=z/\0<z/\(onAt s.ars n).is=true/\(onAt s.ars n).sh=false/\k<m.sb.length:=by
 rcases h.ent hs hn with e | e
 ·rw[e]at hk;cases hk
 obtain⟨e1,e2,e3⟩:=e;unfold entE at e3
 split at e3
 ·cases e3
 rename_i his
 split at e3
 ·cases e3
 rename_i hb
 have hn0:=(enW_zero e1).2.1.1;have hlt:(flatN s n).n< (m.sl.length:Int):=by
  rcases Int.lt_or_le (flatN s n).n m.sl.length with h1 | h1
  ·exact h1
  exact absurd (.inl h1) hb
 have hl:(flatN s n).n.toNat<m.sl.length:=by omega
 refine⟨(flatN s n).n.toNat,m.sl[(flatN s n).n.toNat],by omega,gE hl,?_,?_,?_,?_,?_⟩
 ·rw[gD,gE hl];rfl
 ·rw[h.inv.cs _ _ (gE hl)];have:=hold_pos (flats_at hs) hn (kind:=2) (k:=(((flatN s n).n.toNat:Nat):Int)) (by simp[isE,hk];omega) (by decide)
  omega
 ·cases hx:(onAt s.ars n).is with
  | true=>rfl
  | false=>exact absurd hx his
 ·cases hx:(onAt s.ars n).sh with
  | false=>rfl
  | true=>exact absurd (.inr hx) hb
 have:=h.inv.sbl;omega
end
def zeroF (m:Ma):Nat:=m.fs.countP fun f=>f.r == 0
def zeroS (m:Ma):Nat:=m.sl.countP fun z=>z == 0
theorem Rt.parts {m:Ma} (h:Rt m):memW m.fs m.hand=0/\slW m.sl=0:=by
 have h0:=h.w;unfold maW at h0;rw[firstE_zero]at h0;have h1:partE m=0:=h0 _ (by simp)
 unfold partE at h1;rw[firstE_zero]at h1;exact⟨h1 _ (by simp),h1 _ (by simp)⟩
theorem Rt.refs {m:Ma} (h:Rt m) {k:Nat} {f:Fr} (hk:m.fs[k]? =some f):0<=f.r/\f.r<=300:=by
 have h1:=(h.inv.cf k f hk).1;have h2:=hold_le (flats m) 1 k;have h3:=cached_one h.inv.ca (k:Int);have h4:=h.inv.tl;have h5:=h.inv.spl;omega
theorem Rt.slots {m:Ma} (h:Rt m) {k:Nat} {z:Int} (hk:m.sl[k]? =some z):0<=z/\z<=300:=by
 have h1:=h.inv.cs k z hk;have h2:=hold_le (flats m) 2 k;have h4:=h.inv.tl;have h5:=h.inv.spl;omega
theorem none8_right:TbOk none8:=⟨rfl,fun h hh=>by
 have:=List.eq_of_mem_replicate (show h∈List.replicate 8 []from hh)
 subst this;exact .inl rfl⟩
theorem flat_none (l:List Ar) (b:Bool):flatN ⟨b,l,none8⟩=fun _=>en0:=by
 funext n
 unfold flatN getN;simp only;have:(none8[n / 8]?.getD [])=[]:=by
  unfold none8;rw[List.getElem?_replicate]
  split <;> rfl
 rw[this];rfl
theorem BInv.rebirth {m:Ma} {T:List (Nat->En)} (h:BInv m T) {k:Nat} {f:Nat->En} {l:List Ar} (hT:T[k]? =some f) (hf:∀n,n<64->f n=en0) (hl:(wrL l).1=0):BInv { m with sp:=m.sp.set k ⟨true,l,none8⟩ } T:=by
 have back:∀(p:Nat) s',(m.sp.set k ⟨true,l,none8⟩)[p]? =some s'->(p=k/\s'=⟨true,l,none8⟩)\/(p≠k/\m.sp[p]? =some s'):=fun p s' h'=>by
  rw[List.getElem?_set]at h'
  by_cases e:k=p
  ·rw[if_pos e]at h'
   split at h'
   ·exact .inl ⟨e.symm,by simpa using h'.symm⟩
   cases h'
  rw[if_neg e]at h';exact .inr ⟨fun h=>e h.symm,h'⟩
 refine⟨h.fs40,h.fok,h.sl60,h.sbl,h.sq,h.dok,h.st,h.cnt,h.blk,h.que,by show(m.sp.set k _).length<=4;rw[List.length_set];exact h.spl,fun s' hs'=>?_,by show T.length=(m.sp.set k _).length;rw[List.length_set];exact h.tl,?_,fun p s' g hs' hT' n hn=>?_,h.cf,h.cs⟩
 ·obtain⟨p,hp⟩:=List.getElem?_of_mem hs'
  rcases back p s' hp with⟨_,rfl⟩ | ⟨_,h2⟩
  ·exact⟨hl,fun e=>by cases e⟩
  exact h.spok s' (mG h2)
 ·obtain⟨a1,a2,a3⟩:=caGo_zero.1 h.ca;exact caGo_zero.2 ⟨fun c hc=>a1 c hc,fun q c hq=>(by cases hq),a3⟩
 rcases back p s' hs' with⟨rfl,rfl⟩ | ⟨_,h2⟩
 ·rw[hT]at hT';cases hT';exact .inl (hf n hn)
 exact h.ent p s' g h2 hT' n hn
theorem Rt.dead {m:Ma} (h:Rt m) {k:Nat} {s:Sp} (hs:m.sp[k]? =some s) (hd:s.live=false):∀n,n<64->flatN s n=en0:=fun n hn=>by
 rcases h.ent hs hn with e | e
 ·exact e
 have ha:=(h.inv.spok s (mG hs)).2 hd;rw[ha]at e;have h2:=e.2.2;have h3:(onAt ([]:List Ar) n).is=false:=by first | rfl | simp[onAt]
 unfold entE at h2;rw[if_pos h3]at h2;cases h2
theorem bornM_rt {m:Ma} (h:Rt m) {k q:Nat} {s:Sp} (hs:m.sp[q]? =some s) (hk:Vac m.sp k) (h4:k<4):Rt (bornM m k s):=by
 have hw:=(h.inv.spok s (mG hs)).1;have ht:∀x∈(bornM m k s).sp,TbOk x.tb:=fun x hx=>by
  obtain⟨i,hi⟩:=List.getElem?_of_mem hx;have hi:(setK m.sp k ⟨true,s.ars,none8⟩)[i]? =some x:=hi;rw[setK_at hk.1]at hi
  split at hi
  ·cases hi;exact none8_right
  exact h.tb (mG hi)
 refine Rt.of ?_ ht h.hand.1 h.hand.2
 by_cases e:k=m.sp.length
 ·have e1:(bornM m k s).sp=m.sp++ [⟨true,s.ars,none8⟩]:=by unfold bornM setK;rw[if_pos e]
  have e2:flats (bornM m k s)=flats m++ [fun _=>en0]:=by unfold flats;rw[e1,List.map_append,mP,List.map_nil,flat_none]
  rw[e2];have:=h.inv.space hw (by omega)
  have e3:bornM m k s={ m with sp:=m.sp++ [⟨true,s.ars,none8⟩] }:=by unfold bornM setK;rw[if_pos e]
  rw[e3];exact this
 have e1:(bornM m k s).sp=m.sp.set k ⟨true,s.ars,none8⟩:=by unfold bornM setK;rw[if_neg e]
 have hkl:k<m.sp.length:=by have:=hk.1;omega
 obtain⟨d,hd⟩:∃d,m.sp[k]? =some d:=⟨_,gE hkl⟩;have hdead:=h.dead hd (hk.2.1 d hd);have hT8:=(h.tb (mG hd)).1;have hdf:flatN d=fun _=>en0:=by
  funext n
  by_cases hn:n<64
  ·exact hdead n hn
  have h9:d.tb[n / 8]? =none:=gN (by rw[hT8];omega)
  unfold flatN getN;rw[h9];rfl
 have e2:flats (bornM m k s)=flats m:=by
  unfold flats;rw[e1]
  apply List.ext_getElem?
  intro i;rw[List.getElem?_map,List.getElem?_map,List.getElem?_set]
  by_cases ei:k=i
  ·subst ei;rw[if_pos rfl,if_pos hkl,hd];simp only[Option.map_some,flat_none,hdf]
  rw[if_neg ei]
 rw[e2];have e3:bornM m k s={ m with sp:=m.sp.set k ⟨true,s.ars,none8⟩ }:=by unfold bornM setK;rw[if_neg e]
 rw[e3];exact h.inv.rebirth (flats_at hd) hdead hw
theorem getT_flat {s:Sp} {n:Nat} (hn:n<64):getT s.tb (n:Int)=flatN s n:=by
 unfold getT flatN;rw[if_pos (by omega),tN]
theorem setR_ok {t:List (List En)} (h:TbOk t) {n:Nat} (hn:n<64) {e:En} (he:enW e=0):setR t (n:Int) e=setT t n e:=by
 have h0:tbW t=0:=tbW_zero.2 h.2;have:setE t (n:Int) e=0:=by unfold setE;rw[if_pos h0,if_pos (by omega)];exact he
 unfold setR;rw[if_pos this,tN]
theorem enter_put {m:Ma} (ht:∀s∈m.sp,TbOk s.tb) {p n:Nat} (hp:p<m.sp.length) (hn:n<64) {e:En} (he:enW e=0):enterM m p (n:Int) e=putE m p n e:=by
 obtain⟨s,hs⟩:∃s,m.sp[p]? =some s:=⟨_,gE hp⟩;unfold enterM putE;rw[Sp.getD_of hs,setR_ok (ht s (mG hs)) hn he]
 congr 1
 apply List.ext_getElem?
 intro i;rw[List.getElem?_set,List.getElem?_modify]
 by_cases e:p=i
 ·subst e;rw[if_pos rfl,if_pos hp,hs];simp
 rw[if_neg e]
 simp[e]
theorem enW_guard {e:En} (h:enW e=0) (hk:e.kind≠0):enW ⟨e.kind,e.n,false⟩=0:=by
 obtain⟨h1,h2,h3⟩:=enW_zero h;unfold enW;rw[if_pos h1,if_pos h2,if_neg];rintro(⟨a,_⟩ | ⟨_,a⟩)
 ·exact hk a
 cases a
theorem count_set {α:Type} (p:α->Bool) {l:List α} {i:Nat} {x y:α} (hx:l[i]? =some x) (h1:p x=false) (h2:p y=false):(l.set i y).countP p=l.countP p:=by
 induction l generalizing i with
 | nil=>cases hx
 | cons a l ih=>
  cases i with
  | zero=>
   simp only[List.getElem?_cons_zero,Option.some.injEq]at hx;subst hx
   simp[h1,h2]
  | succ i=>
   simp only[List.getElem?_cons_succ]at hx;simp only[sS,List.countP_cons,ih hx]
structure Shd (m m':Ma) (k q n:Nat) (sk sq sk' sq':Sp):Prop where
 rt:Rt m'
 f:zeroF m'=zeroF m
 s:zeroS m'=zeroS m
 pk:m'.sp[k]? =some sk'
 pq:m'.sp[q]? =some sq'
 ak:sk'.ars=sk.ars
 aq:sq'.ars=sq.ars
 fk:∀j,j≠n->flatN sk' j=flatN sk j
 fq:∀j,j≠n->flatN sq' j=flatN sq j
theorem share_ok {m:Ma} (h:Rt m) {k q n:Nat} {sk sq:Sp} (hk:m.sp[k]? =some sk) (hq:m.sp[q]? =some sq) (hkq:q≠k) (ha:sk.ars=sq.ars) (hn:n<64) (h0:flatN sk n=en0) (h1:flatN sq n≠en0):∃sk' sq',Shd m (shareM m k q (n:Int)) k q n sk sq sk' sq':=by
 have ht:∀s∈m.sp,TbOk s.tb:=fun s hs=>h.tb hs
 have hkl:=(gS.1 hk).1;have hql:=(gS.1 hq).1;have heo:EntOk m (onAt sq.ars n) (flatN sq n):=(h.ent hq hn).resolve_left h1;obtain⟨e,he⟩:∃e,flatN sq n=e:=⟨_,rfl⟩;rw[he]at heo h1;have hew:enW ⟨e.kind,e.n,false⟩=0:=enW_guard heo.1 heo.2.1;have hent:entM m q (n:Int)=e:=by unfold entM;rw[Sp.getD_of hq,getT_flat hn,he]
 have hA:Rt (putE m q n ⟨e.kind,e.n,false⟩):=put_rt hq ht hn hew (by
  have:=h.inv.guard (flats_at hq) hn (by rw[he];exact h1)
  rw[he]at this;exact this) h.hand
 have hAk:(putE m q n ⟨e.kind,e.n,false⟩).sp[k]? =some sk:=by rw[put_at,hk];simp[hkq]
 obtain⟨sq',hsq'⟩:∃sq',sq'={ sq with tb:=setT sq.tb n ⟨e.kind,e.n,false⟩ }:=⟨_,rfl⟩;have hAq:(putE m q n ⟨e.kind,e.n,false⟩).sp[q]? =some sq':=by rw[put_at,hq,hsq'];simp
 have hqf:flatN sq'=updF (flatN sq) n ⟨e.kind,e.n,false⟩:=by rw[hsq'];exact put_flat (ht sq (mG hq)) hn hew
 have hqa:sq'.ars=sq.ars:=by rw[hsq']
 have hqn:flatN sq' n=⟨e.kind,e.n,false⟩:=by rw[hqf];simp[updF]
 have hAo:EntOk (putE m q n ⟨e.kind,e.n,false⟩) (onAt sk.ars n) ⟨e.kind,e.n,false⟩:=by
  rcases hA.ent hAq hn with e1 | e1
  ·rw[hqn]at e1;exact absurd (congrArg En.kind e1) heo.2.1
  rw[hqn,hqa,<-ha]at e1;exact e1
 have htA:∀s∈(putE m q n ⟨e.kind,e.n,false⟩).sp,TbOk s.tb:=put_tabs ht hew;obtain⟨sk',hsk'⟩:∃sk',sk'={ sk with tb:=setT sk.tb n ⟨e.kind,e.n,false⟩ }:=⟨_,rfl⟩;have hkf:flatN sk'=updF (flatN sk) n ⟨e.kind,e.n,false⟩:=by rw[hsk'];exact put_flat (ht sk (mG hk)) hn hew
 have fin:∀M:Ma,M.sp=m.sp->holdM m ⟨e.kind,e.n,false⟩ 1=M->zeroF M=zeroF m->zeroS M=zeroS m->Rt (putE (putE M q n ⟨e.kind,e.n,false⟩) k n ⟨e.kind,e.n,false⟩)->∃sk' sq',Shd m (shareM m k q (n:Int)) k q n sk sq sk' sq':=fun M hM hh c1 c2 hR=>by
  have e1:shareM m k q (n:Int)=putE (putE M q n ⟨e.kind,e.n,false⟩) k n ⟨e.kind,e.n,false⟩:=by
   unfold shareM;rw[hent]
   show enterM (enterM (holdM m ⟨e.kind,e.n,false⟩ 1) q n ⟨e.kind,e.n,false⟩) k n ⟨e.kind,e.n,false⟩=_
   have hMt:∀s∈M.sp,TbOk s.tb:=by rw[hM];exact ht
   rw[hh,enter_put (m:=M) (p:=q) hMt (by rw[hM];exact hql) hn hew,enter_put (p:=k) (put_tabs hMt hew) (by rw[put_len,hM];exact hkl) hn hew]
  rw[e1];refine⟨sk',sq',hR,c1,c2,?_,?_,by rw[hsk'],hqa,fun j hj=>by rw[hkf];simp[updF,hj],fun j hj=>by rw[hqf];simp[updF,hj]⟩
  ·rw[put_at,put_at,hM,hk,hsk']
   simp[hkq]
  rw[put_at,put_at,hM,hq,hsq'];have:¬k=q:=fun h=>hkq h.symm
  simp[this]
 by_cases hk1:e.kind=1
 ·obtain⟨i,fr,f1,f2,f3,f4⟩:=h.present hq hn (by rw[he];exact hk1)
  rw[he]at f1 f3;obtain⟨r0,r1⟩:=h.refs f2;have hil:=(gS.1 f2).1;have hgd:m.fs.getD i fr0=fr:=by rw[gD,f2];rfl
  have hho:holdM m ⟨e.kind,e.n,false⟩ 1={ m with fs:=m.fs.set i { fr with r:=fr.r+1 } }:=by
   have e0:holdE m.fs m.hand e.n 1=0:=by
    unfold holdE;rw[if_pos h.parts.1,f1,tN,hgd];have hb:(inB (i:Int) m.fs.length && !(fr.r == 0))=true:=by
     simp[inB,f4]
     omega
    rw[hb,if_pos rfl,if_pos (by omega)]
   unfold holdM;rw[if_pos hk1];simp only;unfold holdF holdH;rw[if_pos e0,if_pos e0,f1,tN,hgd];unfold frH;rw[if_neg (by omega)]
  refine fin { m with fs:=m.fs.set i { fr with r:=fr.r+1 } } rfl hho (by
   unfold zeroF;refine count_set (fun f:Fr=>f.r == 0) f2 (by simpa using f4) ?_
   have:¬fr.r+1=0:=by omega
   simpa using this) rfl ?_
  have hb:=hA.inv.share (p:=q) (q:=k) (n:=n) (k:=i) (fr:=fr) (e:=⟨e.kind,e.n,false⟩) f2 (flats_at hAq) hqn (flats_at hAk) hkq hn h0 hAk hAo hk1 f1 (fun h=>by cases h)
  exact put_rt (m:={ putE m q n ⟨e.kind,e.n,false⟩with fs:=m.fs.set i { fr with r:=fr.r+1 } }) hAk htA hn hew hb (by show 0<=m.hand/\m.hand<max ((m.fs.set i _).length:Int) 1;rw[List.length_set];exact h.hand)
 have hk2:e.kind=2:=by have:=(enW_zero heo.1).1;have:=heo.2.1;omega
 obtain⟨i,z,f1,f2,f3,f4,_⟩:=h.swapped hq hn (by rw[he];exact hk2)
 rw[he]at f1 f3;obtain⟨r0,r1⟩:=h.slots f2;have hgd:m.sl.getD i 0=z:=by rw[gD,f2];rfl
 have hho:holdM m ⟨e.kind,e.n,false⟩ 1={ m with sl:=m.sl.set i (z+1) }:=by
  have ea:atS m.sl e.n=z:=by unfold atS;rw[f1,if_pos (by omega),tN,hgd]
  have e0:holdSE m.sl e.n 1=0:=by
   unfold holdSE;rw[if_pos h.parts.2,ea,if_neg (by omega),if_pos (by omega)]
  unfold holdM;rw[if_neg hk1,if_pos hk2];simp only;unfold holdSL;rw[if_pos e0,ea,f1,tN]
 refine fin { m with sl:=m.sl.set i (z+1) } rfl hho rfl (by
  unfold zeroS;refine count_set (fun z:Int=>z == 0) f2 ?_ ?_
  ·have:¬z=0:=by omega
   simpa using this
  have:¬z+1=0:=by omega
  simpa using this) ?_
 have hb:=hA.inv.shareS (q:=k) (n:=n) (k:=i) (z:=z) (e:=⟨e.kind,e.n,false⟩) f2 (flats_at hAk) hn h0 hAk hAo hk2 f1;exact put_rt (m:={ putE m q n ⟨e.kind,e.n,false⟩with sl:=m.sl.set i (z+1) }) hAk htA hn hew hb h.hand
theorem shareL_ok {k q:Nat} (hkq:q≠k):∀(l:List Nat) {m:Ma} {sk sq:Sp},Rt m->m.sp[k]? =some sk->m.sp[q]? =some sq->sk.ars=sq.ars->l.Nodup->(∀n∈l,n<64/\flatN sk n=en0/\flatN sq n≠en0)->
  Rt (shareL m k q (l.map fun(n:Nat)=>(n:Int)))/\zeroF (shareL m k q (l.map fun(n:Nat)=>(n:Int)))=zeroF m/\zeroS (shareL m k q (l.map fun(n:Nat)=>(n:Int)))=zeroS m
 | [],m,sk,sq,h,_,_,_,_,_=>⟨h,rfl,rfl⟩
 | n :: l,m,sk,sq,h,hk,hq,ha,hd,hl=>by
  obtain⟨h1,h2,h3⟩:=hl n (by simp)
  obtain⟨sk',sq',hS⟩:=share_ok h hk hq hkq ha h1 h2 h3;rw[List.nodup_cons]at hd;have ih:=shareL_ok hkq l hS.rt hS.pk hS.pq (by rw[hS.ak,hS.aq,ha]) hd.2 (fun j hj=>by
   obtain⟨a1,a2,a3⟩:=hl j (by simp[hj])
   have hne:j≠n:=fun e=>hd.1 (e ▸ hj)
   rw[hS.fk j hne,hS.fq j hne];exact⟨a1,a2,a3⟩)
  rw[hS.f,hS.s]at ih;exact ih
theorem pagesN_ok {s:Sp}:(pagesN s).Nodup/\∀n∈pagesN s,n<64/\flatN s n≠en0:=by
 unfold pagesN;refine⟨List.Pairwise.filter _ List.nodup_range,fun n hn=>?_⟩
 rw[List.mem_filter,List.mem_range]at hn;refine⟨hn.1,fun e=>?_⟩
 rw[e]at hn;exact absurd hn.2 (by decide)
theorem forkP_ok {m:Ma} (h:Rt m) {k q:Nat} {s:Sp} (hs:m.sp[q]? =some s) (hl:s.live=true) (hk:Vac m.sp k) (h4:k<4):Rt (forkP m k q s)/\zeroF (forkP m k q s)=zeroF m/\zeroS (forkP m k q s)=zeroS m:=by
 have hkq:q≠k:=fun e=>by
  have h1:=hk.2.1 s (by rw[<-e];exact hs)
  rw[hl]at h1;cases h1
 unfold forkP;rw[pagesTo_any];have e1:(bornM m k s).sp[k]? =some ⟨true,s.ars,none8⟩:=by show(setK m.sp k _)[k]? =_;rw[setK_at hk.1,if_pos rfl]
 have e2:(bornM m k s).sp[q]? =some s:=by show(setK m.sp k _)[q]? =_;rw[setK_at hk.1,if_neg hkq];exact hs
 exact shareL_ok hkq (pagesN s) (bornM_rt h hs hk h4) e1 e2 rfl pagesN_ok.1 (fun n hn=>⟨(pagesN_ok.2 n hn).1,by rw[flat_none],(pagesN_ok.2 n hn).2⟩)
end
section
open Go.RowKit
theorem count_take {α:Type} (p:α->Bool) {l:List α} {k:Nat} {x:α} (h:l[k]? =some x):(l.take (k+1)).countP p=(l.take k).countP p+(if p x=true then 1 else 0):=by
 rw[take_snoc h,List.countP_append]
 simp[List.countP_cons]
theorem free_any (V:MaV) (m:Ma) (w:World) (hm:MachAt w V m) (hf:m.fs.length<=40) (hs:m.sl.length<=60):
  Calls Tryz.prog 22 #[.agg #[.slice V.f.a V.f.n V.f.c,.int .i64 m.hand,.slice V.s.a V.s.n V.s.c,.slice V.sb.a V.sb.n V.sb.c,.slice V.sq.a V.sq.n V.sq.c,.slice V.db.a V.db.n V.db.c,.slice V.dq.a V.dq.n V.dq.c,.slice V.fl.a V.fl.n V.fl.c,.int .i64 m.cnt,.slice V.ca.a V.ca.n V.ca.c,.slice V.sp.a V.sp.n V.sp.c]] w fun e w'=>e= .returned (.agg #[.int .i64 (zeroF m:Int),.int .i64 (zeroS m:Int)])/\Grew w w':=by
 obtain⟨n1,n2,-⟩:=hm.ns;obtain⟨fa,HFA⟩:∃fa,Hid (V.f.a=fa):=⟨_,rfl⟩;obtain⟨sa,HSA⟩:∃sa,Hid (V.s.a=sa):=⟨_,rfl⟩;have HFR:Hid (FrRows w fa m.fs):=show FrRows _ _ _ by rw[<-HFA.out];exact hm.frs
 have HSR:Hid (SlRows w sa m.sl):=show SlRows _ _ _ by rw[<-HSA.out];exact hm.sls
 obtain⟨fn,HFN⟩:∃fn,Hid (m.fs.length=fn):=⟨_,rfl⟩;obtain⟨sn,HSN⟩:∃sn,Hid (m.sl.length=sn):=⟨_,rfl⟩;rw[HFN.out]at n1 hf;rw[HSN.out]at n2 hs;have HN1:Hid (V.f.n=fn):=n1;have HN2:Hid (V.s.n=sn):=n2;clear n1 n2;obtain⟨W0,hW0⟩:∃W0,((w.alloc (.cells #[.slice V.f.a V.f.n V.f.c,.int .i64 m.hand,.slice V.s.a V.s.n V.s.c,.slice V.sb.a V.sb.n V.sb.c,.slice V.sq.a V.sq.n V.sq.c,.slice V.db.a V.db.n V.db.c,.slice V.dq.a V.dq.n V.dq.c,.slice V.fl.a V.fl.n V.fl.c,.int .i64 m.cnt,.slice V.ca.a V.ca.n V.ca.c,.slice V.sp.a V.sp.n V.sp.c] 40)).alloc (.cells #[.int .i64 0,.int .i64 0] 75)).alloc (.cells #[.int .i64 0,.int .i64 0] 75)=W0:=⟨_,rfl⟩;have G0:Hid (Grew w W0):=show Grew _ _ by rw[<-hW0];exact((grew_alloc _ _).trans (grew_alloc _ _)).trans (grew_alloc _ _)
 obtain⟨b,HB⟩:∃b,Hid (w.heap.size=b):=⟨_,rfl⟩;have X0:Hid (BoxT W0 b 40 [.slice V.f.a V.f.n V.f.c,.int .i64 m.hand,.slice V.s.a V.s.n V.s.c,.slice V.sb.a V.sb.n V.sb.c,.slice V.sq.a V.sq.n V.sq.c,.slice V.db.a V.db.n V.db.c,.slice V.dq.a V.dq.n V.dq.c,.slice V.fl.a V.fl.n V.fl.c,.int .i64 m.cnt,.slice V.ca.a V.ca.n V.ca.c,.slice V.sp.a V.sp.n V.sp.c]):=show BoxT _ _ _ _ by rw[<-hW0];exact((BoxT.top w [.slice V.f.a V.f.n V.f.c,.int .i64 m.hand,.slice V.s.a V.s.n V.s.c,.slice V.sb.a V.sb.n V.sb.c,.slice V.sq.a V.sq.n V.sq.c,.slice V.db.a V.db.n V.db.c,.slice V.dq.a V.dq.n V.dq.c,.slice V.fl.a V.fl.n V.fl.c,.int .i64 m.cnt,.slice V.ca.a V.ca.n V.ca.c,.slice V.sp.a V.sp.n V.sp.c] _ HB.out.symm).grew (grew_alloc _ _)).grew (grew_alloc _ _)
 have Y0:Hid (BoxT W0 (b+1) 75 [.int .i64 0,.int .i64 0]):=show BoxT _ _ _ _ by rw[<-hW0];exact(BoxT.top _ [.int .i64 0,.int .i64 0] _ (by have:=HB.out;simp;omega)).grew (grew_alloc _ _)
 have Z0:Hid (BoxT W0 (b+1+1) 75 [.int .i64 0,.int .i64 0]):=show BoxT _ _ _ _ by rw[<-hW0];exact BoxT.top _ [.int .i64 0,.int .i64 0] _ (by have:=HB.out;simp;omega)
 have HW0:Hid (_=W0):=hW0;have HZF:Hid (zeroF m=(m.fs.take fn).countP fun f=>f.r == 0):=show _=_ by rw[<-HFN.out,List.take_length];rfl
 have HZS:Hid (zeroS m=(m.sl.take sn).countP fun z=>z == 0):=show _=_ by rw[<-HSN.out,List.take_length];rfl
 clear hW0 hm
 go_enter Tryz.func22,Tryz.ntmps22
 go_upto_region 2 with fail;rw[HW0.out,HB.out];have x0:=X0.out.box.c 0 rfl;rw[HN1.out,HFA.out]at x0;go_wp2;clear x0
 go_loopg [12] fn (fun gg s12 wr=>∃kk:Nat,kk<=fn/\fn - kk<=gg/\s12= .int .i64 kk/\Hid (Grew w wr)/\Hid (BoxT wr b 40 [.slice V.f.a V.f.n V.f.c,.int .i64 m.hand,.slice V.s.a V.s.n V.s.c,.slice V.sb.a V.sb.n V.sb.c,.slice V.sq.a V.sq.n V.sq.c,.slice V.db.a V.db.n V.db.c,.slice V.dq.a V.dq.n V.dq.c,.slice V.fl.a V.fl.n V.fl.c,.int .i64 m.cnt,.slice V.ca.a V.ca.n V.ca.c,.slice V.sp.a V.sp.n V.sp.c])/\Hid (BoxT wr (b+1) 75 [.int .i64 0,.int .i64 0])/\Hid (BoxT wr (b+1+1) 75 [.int .i64 (((m.fs.take kk).countP fun f=>f.r == 0:Nat):Int),.int .i64 0]))
 case atStart=>exact⟨0,nZ _,by omega,rfl,G0.out,X0.out,Y0.out,Z0.out⟩
 obtain⟨kk,hkk,hg,rfl,GW,XW,YW,ZW⟩:=hrel;clear G0 X0 Y0 Z0
 by_cases hlt:kk<fn
 ·have hltz:(kk:Int)< (fn:Int):=by omega
  obtain⟨f,HK⟩:∃f,Hid (m.fs[kk]? =some f):=⟨_,gE (by rw[HFN.out];exact hlt)⟩
  obtain⟨ad,rfl,hl⟩:=HFR.out kk f HK.out;obtain⟨d0,d1,d2,d3,d4,d5,d6,d7,d8,d9,d10,d11,d12⟩:=hl wr GW.out;clear hl;go_upto_region 5 with fail;clear d0 d1 d2 d3 d4 d5 d6 d7 d8 d9 d10 d11 d12;obtain⟨W1,hW1⟩:∃W1,wr.alloc (.cells #[.int .u8 f.p.b0,.int .u8 f.p.b1,.int .u8 f.p.b2,.int .u8 f.p.b3,.int .u8 f.p.b4,.int .u8 f.p.b5,.int .u8 f.p.b6,.int .u8 f.p.b7,.int .i64 f.r,.bool f.u,.bool f.d,.int .i64 f.f,.int .i64 f.x] 59)=W1:=⟨_,rfl⟩;have g1:=gP hW1
  have F1:=xA hW1
  have G1:=dD (GW.out.trans g1);have X1:=dD (XW.out.grew g1);have Y1:=dD (YW.out.grew g1);have Z1:=dD (ZW.out.grew g1)
  have HC:Hid ((m.fs.take (kk+1)).countP (fun f=>f.r == 0)=(m.fs.take kk).countP (fun f=>f.r == 0)+(if(f.r == 0)=true then 1 else 0)):=count_take _ HK.out
  have HCL:Hid ((m.fs.take kk).countP (fun f=>f.r == 0)<=kk):=show _<=_ from nT List.countP_le_length (by simp;omega)
  rw[hW1];clear hW1 g1 GW XW YW ZW
  generalize hcn:(m.fs.take kk).countP (fun f=>f.r == 0)=cn at Z1 HC HCL
  clear hcn;have hcl:cn<=kk:=HCL.out;have f8:=F1.out.c 8 rfl
  by_cases hz:f.r=0
  ·have hzb:(f.r == 0)=true:=by simpa using hz
   have HC1:Hid ((m.fs.take (kk+1)).countP (fun f=>f.r == 0)=cn+1):=show _=_ by rw[HC.out,hzb];rfl
   clear hz HC HCL;have z0:=Z1.out.box.c 0 rfl;have zf:=Z1.out.box.f 0;have Z2:Hid (BoxT (W1.setCell ⟨b+1+1,0,none⟩ (.int .i64 ((cn:Int)+1))) (b+1+1) 75 [.int .i64 (((m.fs.take (kk+1)).countP (fun f=>f.r == 0):Nat):Int),.int .i64 0]):=show BoxT _ _ _ _ by
    rw[HC1.out];exact Z1.out.set 0 _
   have X2:Hid (BoxT (W1.setCell ⟨b+1+1,0,none⟩ (.int .i64 ((cn:Int)+1))) b 40 [.slice V.f.a V.f.n V.f.c,.int .i64 m.hand,.slice V.s.a V.s.n V.s.c,.slice V.sb.a V.sb.n V.sb.c,.slice V.sq.a V.sq.n V.sq.c,.slice V.db.a V.db.n V.db.c,.slice V.dq.a V.dq.n V.dq.c,.slice V.fl.a V.fl.n V.fl.c,.int .i64 m.cnt,.slice V.ca.a V.ca.n V.ca.c,.slice V.sp.a V.sp.n V.sp.c]):=show BoxT _ _ _ _ from X1.out.other (by show b≠b+1+1;omega) _
   have Y2:Hid (BoxT (W1.setCell ⟨b+1+1,0,none⟩ (.int .i64 ((cn:Int)+1))) (b+1) 75 [.int .i64 0,.int .i64 0]):=show BoxT _ _ _ _ from Y1.out.other (by show b+1≠b+1+1;omega) _
   have G2:Hid (Grew w (W1.setCell ⟨b+1+1,0,none⟩ (.int .i64 ((cn:Int)+1)))):=show Grew _ _ from grew_grown G1.out (setCells_grown (b+1+1) [.int .i64 ((cn:Int)+1)] 0 W1).1 (by have:=HB.out;omega)
   clear X1 Y1 Z1 G1 HC1;go_wp2
   go_roundg (fn -(kk+1))
   case measure=>omega
   exact⟨kk+1,by omega,by omega,by go_num,G2.out,X2.out,Y2.out,Z2.out⟩
  have hzb:(f.r == 0)=false:=by simpa using hz
  have Z2:Hid (BoxT W1 (b+1+1) 75 [.int .i64 (((m.fs.take (kk+1)).countP (fun f=>f.r == 0):Nat):Int),.int .i64 0]):=show BoxT _ _ _ _ by
   rw[HC.out,hzb];exact Z1.out
  clear hz HC HCL;go_wp2
  go_roundg (fn -(kk+1))
  case measure=>omega
  exact⟨kk+1,by omega,by omega,by go_num,G1.out,X1.out,Y1.out,Z2.out⟩
 have hltz:¬(kk:Int)< (fn:Int):=by omega
 have:kk=fn:=by omega
 subst this;rw[<-HZF.out]at ZW;have hzl:zeroF m<=kk:=by rw[HZF.out];exact nT List.countP_le_length (by simp;omega)
 obtain⟨zf,HZ⟩:∃zf,Hid (zeroF m=zf):=⟨_,rfl⟩;rw[HZ.out]at ZW hzl;have x2:=XW.out.box.c 2 rfl;rw[HN2.out,HSA.out]at x2;obtain⟨WC,rfl⟩:∃WC,WC=wr:=⟨_,rfl⟩;go_upto_region 9 with fail;clear x2
 go_loopg [27] sn (fun gg s27 wr=>∃jj:Nat,jj<=sn/\sn - jj<=gg/\s27= .int .i64 jj/\Hid (Grew w wr)/\Hid (BoxT wr (b+1) 75 [.int .i64 0,.int .i64 0])/\Hid (BoxT wr (b+1+1) 75 [.int .i64 (zf:Int),.int .i64 (((m.sl.take jj).countP fun z=>z == 0:Nat):Int)]))
 case atStart=>exact⟨0,nZ _,by omega,rfl,GW.out,YW.out,ZW.out⟩
 obtain⟨jj,hjj,hg2,rfl,GV,YV,ZV⟩:=hrel;clear GW XW YW ZW
 by_cases hlt:jj<sn
 ·have hltz2:(jj:Int)< (sn:Int):=by omega
  obtain⟨z,HK⟩:∃z,Hid (m.sl[jj]? =some z):=⟨_,gE (by rw[HSN.out];exact hlt)⟩
  obtain⟨ad,rfl,hl⟩:=HSR.out jj z HK.out;have d0:=hl wr GV.out;clear hl;have HC:Hid ((m.sl.take (jj+1)).countP (fun z=>z == 0)=(m.sl.take jj).countP (fun z=>z == 0)+(if(z == 0)=true then 1 else 0)):=count_take _ HK.out
  have HCL:Hid ((m.sl.take jj).countP (fun z=>z == 0)<=jj):=show _<=_ from nT List.countP_le_length (by simp;omega)
  generalize hcn:(m.sl.take jj).countP (fun z=>z == 0)=cn at ZV HC HCL
  clear hcn;have hcl:cn<=jj:=HCL.out
  by_cases hz:z=0
  ·have hzb:(z == 0)=true:=by simpa using hz
   have HC1:Hid ((m.sl.take (jj+1)).countP (fun z=>z == 0)=cn+1):=show _=_ by rw[HC.out,hzb];rfl
   clear hz HC HCL;have z1:=ZV.out.box.c 1 rfl;have zfz:=ZV.out.box.f 1;have Z2:Hid (BoxT (wr.setCell ⟨b+1+1,1,none⟩ (.int .i64 ((cn:Int)+1))) (b+1+1) 75 [.int .i64 (zf:Int),.int .i64 (((m.sl.take (jj+1)).countP (fun z=>z == 0):Nat):Int)]):=show BoxT _ _ _ _ by
    rw[HC1.out];exact ZV.out.set 1 _
   have Y2:Hid (BoxT (wr.setCell ⟨b+1+1,1,none⟩ (.int .i64 ((cn:Int)+1))) (b+1) 75 [.int .i64 0,.int .i64 0]):=show BoxT _ _ _ _ from YV.out.other (by show b+1≠b+1+1;omega) _
   have G2:Hid (Grew w (wr.setCell ⟨b+1+1,1,none⟩ (.int .i64 ((cn:Int)+1)))):=show Grew _ _ from grew_grown GV.out (setCells_grown (b+1+1) [.int .i64 ((cn:Int)+1)] 1 wr).1 (by have:=HB.out;omega)
   clear YV ZV GV HC1;go_wp2
   go_roundg (sn -(jj+1))
   case measure=>omega
   exact⟨jj+1,by omega,by omega,by go_num,G2.out,Y2.out,Z2.out⟩
  have hzb:(z == 0)=false:=by simpa using hz
  have Z2:Hid (BoxT wr (b+1+1) 75 [.int .i64 (zf:Int),.int .i64 (((m.sl.take (jj+1)).countP (fun z=>z == 0):Nat):Int)]):=show BoxT _ _ _ _ by
   rw[HC.out,hzb];exact ZV.out
  clear hz HC HCL;go_wp2
  go_roundg (sn -(jj+1))
  case measure=>omega
  exact⟨jj+1,by omega,by omega,by go_num,GV.out,YV.out,Z2.out⟩
 have hltz2:¬(jj:Int)< (sn:Int):=by omega
 have:jj=sn:=by omega
 subst this;rw[<-HZS.out]at ZV;have z0:=ZV.out.box.c 0 rfl;have z1:=ZV.out.box.c 1 rfl
 go_wp2_with (refine wp_storeAllT rfl 75 (.tmp 2) (.tmp 38) rfl (b+1) rfl [.int .i64 (zf:Int),.int .i64 (zeroS m:Int)] rfl YV.out rfl (by kernel_rfl) (by simp[Value.oneCell']) ?_)
 intro W9 bx9 gr9 _;have G9:Hid (Grew w W9):=show Grew _ _ from grew_grown GV.out gr9 (by have:=HB.out;omega)
 have B9:Hid (BoxT W9 (b+1) 75 [.int .i64 (zf:Int),.int .i64 (zeroS m:Int)]):=bx9;clear bx9 gr9 z0 z1;go_wp2;refine bodyPost_ret (ret_cell rfl _ rfl B9.out.box Tryz.underlying75 rfl (by kernel_rfl)) rfl ⟨by rw[HZ.out],G9.out⟩
theorem cellsO_set {l:List On} {j:Nat} (y:On) (h:j<l.length):splice (cellsO l) (j*6) (onv y)=cellsO (l.set j y):=splice_set (enc:=onv) (k:=6) y rfl l j (fun _ _=>rfl) h
theorem cellsO_at {l:List On} {j:Nat} {e:On} (h:l[j]? =some e) (i:Nat) (u:Value) (hu:(onv e)[i]? =some u):(cellsO l)[j*6+i]? =some u:=flatMap_elem (enc:=onv) (k:=6) l j e (fun _ _=>rfl) h i u hu
theorem tabO_len (f:Nat->On):(cellsO (tab f)).length=384:=by rw[cellsO_len,tab_len]
theorem wp_storeOn {ops:Array Oper} {rest:List Oper} {op:Oper} {a:Act} {w:World} {Q:Exit->Act->World->Prop} (hgd:op.guard=none) (p x:Operand) (ho:op.op= .store 96 p x) (b k:Nat) (hk:k<64) (hp:a.eval p= .pointer (some ⟨b,k*6,none⟩)) (y:On) (hx:a.eval x= .agg (onv y).toArray)
  {f:Nat->On} (hb:Box w b (cellsO (tab f)))
  (h:∀w',Box w' b (cellsO (tab (upd f k y)))->w.grownBy w' (some b)->w'.heap.size=w.heap.size->wpList Tryz.prog ops Q rest (a.put op.dst undef) w'):wpList Tryz.prog ops Q (op :: rest) a w:=by
 refine wp_storeMid hgd 96 p x ho b (k*6) hp (onv y) hx hb (by rw[tabO_len];show _+6<=_;omega) Tryz.sizeOne (onv_one y) fun w' h1 h2 h3=>h w' ?_ h2 h3
 rw[cellsO_set y (by rw[tab_len];exact hk),tab_set]at h1
 exact h1
theorem Box.onCell {w:World} {b k:Nat} {f:Nat->On} (h:Box w b (cellsO (tab f))) (hk:k<64) (i:Nat) (u:Value) (y:On) (hy:(onv (f k)).set i u=onv y) (hi:i<6):Box (w.setCell ⟨b,k*6+i,none⟩ u) b (cellsO (tab (upd f k y))):=by
 have h1:=h.set (k*6+i) u;have:(cellsO (tab f)).set (k*6+i) u=cellsO (tab (upd f k y)):=by
  rw[<-tab_set,<-cellsO_set y (by rw[tab_len];exact hk),<-hy]
  have hl:(cellsO (tab f)).length=384:=tabO_len f
  apply List.ext_getElem?
  intro j;unfold splice;have e6:((onv (f k)).set i u).length=6:=by simp[onv]
  rw[e6]
  by_cases h1:j<k*6
  ·rw[sN (by omega),List.getElem?_append_left (by simp;omega),List.getElem?_take_of_lt h1]
  have hl2:((cellsO (tab f)).take (k*6)).length=k*6:=by simp;omega
  rw[aR (by omega),hl2]
  by_cases h2:j<k*6+6
  ·rw[List.getElem?_append_left (by rw[e6];omega)]
   have hc:∀i',i'<6->(cellsO (tab f))[k*6+i']? =(onv (f k))[i']?:=fun i' hi'=>by
    obtain⟨v,hv⟩:∃v,(onv (f k))[i']? =some v:=⟨_,gE (by simpa [onv]using hi')⟩
    rw[hv];exact cellsO_at (tab_at hk) i' v hv
   by_cases e:j=k*6+i
   ·subst e;rw[sF (by omega),show k*6+i - k*6=i by omega,sF (by simpa [onv]using hi)]
   rw[sN (fun h=>e h.symm),sN (by omega),<-hc _ (by omega),show k*6+(j - k*6)=j by omega]
  rw[sN (by omega),aR (by rw[e6];omega),e6,List.getElem?_drop]
  congr 1
  omega
 rw[this]at h1;exact h1
theorem extract_elem {cs vs:List Value} {o k:Nat} (hl:vs.length=k) (h:∀(i:Nat) u,vs[i]? =some u->cs[o+i]? =some u):cs.toArray.extract o (o+k)=vs.toArray:=by
 apply Array.ext_getElem?
 intro j;rw[Array.getElem?_extract]
 by_cases hj:j<k
 ·obtain⟨u,hu⟩:∃u,vs[j]? =some u:=⟨_,gE (by omega)⟩
  have h1:=h j u hu;have h2:=(gS.1 h1).1;rw[if_pos (by simp;omega)]
  simp[h1,hu]
 rw[if_neg (by omega)]
 simp;omega
theorem run_idxO {w:World} {f:Nat->On} (i:Nat) (hi:i<64):(Instr.index 97 (.agg (cellsO (tab f)).toArray) (.int .i64 (i:Int))).run Tryz.prog w= .ok (.agg (onv (f i)).toArray) w:=by
 have ha:(isAgg 96).run Tryz.prog w= .ok true w:=by
  unfold isAgg;rw[Sem.run_bind,run_underlying Tryz.underlying96 w];rfl
 have hs:(Go.sizeOf 96).run Tryz.prog w= .ok 6 w:=by
  obtain⟨i0,h1,h2⟩:∃i0,Tryz.prog.info? 96=some i0/\i0.size=6:=by
   have:=Tryz.sizeOne
   cases hq:Tryz.prog.info? 96 with
   | none=>rw[hq]at this;cases this
   | some i0=>rw[hq]at this;exact⟨i0,rfl,by simpa using this⟩
  simp[Go.sizeOf,typeInfo,h1,h2]
 have hlt:(0:Int)<=(i:Int)/\(i:Int)< ((64:Nat):Int):=by omega
 have hx:(cellsO (tab f)).toArray.extract (i*6) (i*6+6)=(onv (f i)).toArray:=extract_elem rfl fun j u hu=>cellsO_at (tab_at hi) j u hu
 simp only[Instr.index,asIntOf,Sem.run_bind,Sem.run_pure,rA,run_underlying Tryz.underlying97];rw[if_pos hlt];simp only[Sem.run_bind,hs,rA,part,ha,if_true,tN,Sem.run_pure,hx]
theorem wp_idxO {ops:Array Oper} {rest:List Oper} {o:Oper} {a:Act} {w:World} {Q:Exit->Act->World->Prop} (hgd:o.guard=none) (x ix:Operand) (ho:o.op= .index 97 x ix) (f:Nat->On) (hx:a.eval x= .agg (cellsO (tab f)).toArray) (i:Nat) (hix:a.eval ix= .int .i64 (i:Int)) (hi:i<64)
  (h:wpList Tryz.prog ops Q rest (a.put o.dst (.agg (onv (f i)).toArray)) w):wpList Tryz.prog ops Q (o :: rest) a w:=by
 refine wpList_plain hgd fun K hK=>?_
 unfold Oper.wp execOp;simp only[ho,hx,hix,Sem.run_bind,Sem.run_pure,rA,run_idxO i hi];exact hK _ _ h
theorem wp_idxOv {ops:Array Oper} {rest:List Oper} {o:Oper} {a:Act} {w:World} {Q:Exit->Act->World->Prop} (hgd:o.guard=none) (x ix:Operand) (ho:o.op= .index 97 x ix) (f:Nat->On) (hx:a.eval x= .agg (cellsO (tab f)).toArray) (i:Nat) (hix:a.eval ix= .int .i64 (i:Int)) (hi:i<64) {v:Value} (hv: .agg (onv (f i)).toArray=v)
  (h:wpList Tryz.prog ops Q rest (a.put o.dst v) w):wpList Tryz.prog ops Q (o :: rest) a w:=wp_idxO hgd x ix ho f hx i hix hi (by rw[hv];exact h)
theorem wp_loadOn {ops:Array Oper} {rest:List Oper} {o:Oper} {a:Act} {w:World} {Q:Exit->Act->World->Prop} (hgd:o.guard=none) (x:Operand) (ho:o.op= .load 96 x) (b k:Nat) (hk:k<64) (hx:a.eval x= .pointer (some ⟨b,k*6,none⟩)) {f:Nat->On} (hb:Box w b (cellsO (tab f)))
  (h:wpList Tryz.prog ops Q rest (a.put o.dst (.agg (onv (f k)).toArray)) w):wpList Tryz.prog ops Q (o :: rest) a w:=
 wpList_load_mid hgd 96 x ho b (k*6) hx (onv (f k)) _ (hb.mid _ fun j u hu=>cellsO_at (tab_at hk) j u hu) Tryz.underlying96 rfl Tryz.sizeOne h
theorem wp_loadOnv {ops:Array Oper} {rest:List Oper} {o:Oper} {a:Act} {w:World} {Q:Exit->Act->World->Prop} (hgd:o.guard=none) (x:Operand) (ho:o.op= .load 96 x) (b k:Nat) (hk:k<64) (hx:a.eval x= .pointer (some ⟨b,k*6,none⟩)) {f:Nat->On} (hb:Box w b (cellsO (tab f))) {v:Value} (hv: .agg (onv (f k)).toArray=v)
  (h:wpList Tryz.prog ops Q rest (a.put o.dst v) w):wpList Tryz.prog ops Q (o :: rest) a w:=wp_loadOn hgd x ho b k hk hx hb (by rw[hv];exact h)
theorem zeroO:(Tryz.prog.info? 97).map (·.zero)=some (some (.agg (cellsO (tab fun _=>on0)).toArray)):=by kernel_rfl
theorem run_zeroO (w:World):(zeroValue 97).run Tryz.prog w= .ok (.agg (cellsO (tab fun _=>on0)).toArray) w:=by
 have h:=zeroO
 cases hq:Tryz.prog.info? 97 with
 | none=>simp[hq]at h
 | some i=>
  simp[hq]at h
  simp[zeroValue,typeInfo,hq,h]
def partF (f:Nat->On):Nat->Ar:=fun n=>arOf n (f n)
def midF (l:List Ar) (i:Nat) (a:Ar) (n:Nat):Nat->On:=fun j=>if a.fr<=(j:Int)/\(j:Int)< (n:Int)then oneOf a j else onAt (l.take i) j
theorem CanP.take:∀{l:List Ar} {p:Option Ar},CanP p l->∀i,CanP p (l.take i)
 | [],_,_,i=>by simp[CanP]
 | a :: l,p,h,0=>by simp[CanP]
 | a :: l,p,h,i+1=>⟨h.1,h.2.1,h.2.2.take i⟩
theorem CanP.free {l:List Ar} (h:CanP none l) {i:Nat} {a:Ar} (ha:l[i]? =some a) {j:Nat} (hj:a.fr<=(j:Int)):onAt (l.take i) j=on0:=by
 refine onAt_none fun x hx=>arIn_no ?_
 have h1:=h.take (i+1);rw[take_snoc ha]at h1;obtain⟨c1,c2,c3⟩:=canP_snoc.1 h1
 cases hl:lastP none (l.take i)with
 | none=>
  unfold lastP at hl
  cases hq:l.take i with
  | nil=>rw[hq]at hx;cases hx
  | cons y ys=>rw[hq]at hl;simp[List.getLast?_cons]at hl
 | some y=>
  have q:=(c3 y hl).1;have hy:ArOk y:=c1.all y (by
   unfold lastP at hl
   split at hl
   ·rename_i b hb
    cases hl;exact List.mem_of_getLast? hb
   cases hl)
  unfold ArOk at hy
  rcases last_to _ none c1 x hx y hl with e | e
  ·rw[e];omega
  omega
theorem mid_start {l:List Ar} {i:Nat} {a:Ar} {n:Nat} (hn:(n:Int)=a.fr):midF l i a n=onAt (l.take i):=by
 funext j
 unfold midF;rw[if_neg (by omega)]
def Lies (l:List Ar):Prop:=(∀a∈l,ArOk a)/\∀(i:Nat) a,l[i]? =some a->∀j:Nat,a.fr<=(j:Int)->onAt (l.take i) j=on0
theorem CanP.lies {l:List Ar} (h:CanP none l):Lies l:=⟨h.all,fun _ _ ha _ hj=>h.free ha hj⟩
theorem lies_two {b a:Ar} (hb:ArOk b) (ha:ArOk a) (hf:b.tz<=a.fr):Lies [b,a]:=by
 refine⟨fun x hx=>?_,fun i x hx j hj=>?_⟩
 ·simp at hx
  rcases hx with rfl | rfl
  ·exact hb
  exact ha
 match i with
 | 0=>rfl
 | 1=>
  simp at hx
  subst hx
  show onAt [b] j=on0
  rw[onAt_out (.inr (by omega))]
  rfl
 | k+2=>simp at hx
theorem lies_one {a:Ar} (ha:ArOk a):Lies [a]:=by
 refine⟨fun x hx=>?_,fun i x hx j hj=>?_⟩
 ·simp at hx
  subst hx;exact ha
 match i with
 | 0=>rfl
 | k+1=>simp at hx
theorem midO_step {l:List Ar} {i:Nat} {a:Ar} {n:Nat} (hn:a.fr<=(n:Int)):upd (midF l i a n) n (oneOf a n)=midF l i a (n+1):=by
 funext j
 unfold upd midF
 by_cases e:j=n
 ·subst e;rw[if_pos rfl,if_pos (by omega)]
 rw[if_neg e]
 by_cases h:a.fr<=(j:Int)/\(j:Int)< (n:Int)
 ·rw[if_pos h,if_pos (by omega)]
 rw[if_neg h,if_neg (by omega)]
theorem midO_end {l:List Ar} {i:Nat} {a:Ar} {n:Nat} (h:Lies l) (ha:l[i]? =some a) (hn:(n:Int)=a.tz):midF l i a n=onAt (l.take (i+1)):=by
 funext j
 unfold midF;rw[take_snoc ha,onAt_snoc]
 ·by_cases h1:a.fr<=(j:Int)/\(j:Int)< (n:Int)
  ·rw[if_pos h1,if_pos (arIn_iff.2 (by omega))]
  rw[if_neg h1,if_neg (fun h2=>h1 (by have:=arIn_iff.1 h2;omega))]
 by_cases h1:a.fr<=(j:Int)
 ·exact .inl (h.2 i a ha j h1)
 exact .inr (arIn_no (by omega))
theorem upd_upd {α:Type} (f:Nat->α) (k:Nat) (x y:α):upd (upd f k x) k y=upd f k y:=by
 funext j
 unfold upd
 by_cases e:j=k
 ·rw[if_pos e,if_pos e]
 rw[if_neg e,if_neg e,if_neg e]
theorem refOnes_any (v:Value) (l:List Ar) (w:World) (hv:RowAt arE w v l) (hok:Lies l):
  Calls Tryz.prog 41 #[v] w fun e w'=>e= .returned (.agg (cellsO (tab (onAt l))).toArray)/\Grew w w':=by
 have hbig:=hv.short;obtain⟨a,c,rfl,hrow⟩:=hv.ars;have HR:Hid (ArRows w a l):=hrow;have HOK:Hid (Lies l):=hok;clear hrow hv hok;have hz:=run_zeroO;obtain⟨Z0,HZ0⟩:∃Z0,Hid (cellsO (tab fun _=>on0)=Z0):=⟨_,rfl⟩
 rw[HZ0.out]at hz;have HZL:Hid (Z0.length=384):=show _=_ by rw[<-HZ0.out,tabO_len]
 obtain⟨C,HC⟩:∃C,Hid (cellsO (tab (onAt l))=C):=⟨_,rfl⟩;rw[HC.out];obtain⟨n,HN⟩:∃n,Hid (l.length=n):=⟨_,rfl⟩;rw[HN.out]at hbig⊢;obtain⟨W0,hW0⟩:∃W0,(w.alloc (.cells Z0.toArray 97)).alloc (.cells Z0.toArray 97)=W0:=⟨_,rfl⟩;have HG0:=gD2 hW0
 have Y0:Hid (Box W0 w.heap.size Z0):=show Box _ _ _ by rw[<-hW0];exact(Box.top _ _ _ (by simp)).alloc _
 have L0:Hid (Box W0 (w.heap.size+1) (cellsO (tab (onAt (l.take 0))))):=show Box _ _ _ by rw[<-hW0,List.take_zero,show onAt ([]:List Ar)=fun _=>on0 from rfl,HZ0.out];exact Box.top _ _ _ (by simp)
 have HW0:Hid (_=W0):=hW0;clear hW0
 go_enter Tryz.func41,Tryz.ntmps41
 go_upto_region 2 with fail;rw[HW0.out];clear hz;go_wp2
 go_loopg [9] n (fun gg s9 wr=>∃kk:Nat,kk<=n/\n - kk<=gg/\s9= .int .i64 kk/\Hid (Grew w wr)/\Hid (Box wr w.heap.size Z0)/\Hid (Box wr (w.heap.size+1) (cellsO (tab (onAt (l.take kk))))))
 case atStart=>exact⟨0,nZ _,by omega,rfl,HG0.out,Y0.out,L0.out⟩
 obtain⟨kk,hkk,hg,rfl,BW,YW,LW⟩:=hrel
 by_cases hlt:kk<n
 ·have hltz:(kk:Int)< (n:Int):=by omega
  obtain⟨q,HQ⟩:∃q,Hid (l[kk]? =some q):=⟨_,gE (by rw[HN.out];exact hlt)⟩
  obtain⟨ad,rfl,hl⟩:=HR.out kk q HQ.out;obtain⟨d0,d1,d2,d3,d4,d5,d6⟩:=hl wr BW.out;have HQK:Hid (ArOk q):=HOK.out.1 q (mG HQ.out);have hqb:0<=q.fr/\q.fr<q.tz/\q.tz<=64/\0<=q.base/\q.base<=12:=by
   have:=HQK.out;unfold ArOk at this
   rcases Int.lt_or_le q.file 0 with h | h
   ·omega
   omega
  obtain⟨hq1,hq2,hq3,hq4,hq5⟩:=hqb;obtain⟨p,HP⟩:∃p,Hid (wr.heap.size=p):=⟨_,rfl⟩;have HLP:Hid (w.heap.size+1<p):=show _<_ by rw[<-HP.out];exact LW.out.lt
  clear hl;go_upto_region 5 with fail;obtain⟨W1,hW1⟩:∃W1,wr.alloc (.cells #[.int .i64 q.fr,.int .i64 q.tz,.bool q.rd,.bool q.wr,.bool q.sh,.int .i64 q.file,.int .i64 q.base] 69)=W1:=⟨_,rfl⟩;have G1:=gT hW1 BW
  have Y1:=yA hW1 YW
  obtain⟨f0,hf0⟩:∃f0:Nat,(f0:Int)=q.fr:=⟨q.fr.toNat,by omega⟩
  have L1:Hid (Box W1 (w.heap.size+1) (cellsO (tab (midF l kk q f0)))):=show Box _ _ _ by rw[<-hW1,mid_start hf0];exact LW.out.alloc _
  have P1:=xP hW1 HP
  rw[hW1,HP.out];clear hW1 d0 d1 d2 d3 d4 d5 d6;have p0:=P1.out.c 0 rfl;go_wp2
  go_loopg [6] (q.tz.toNat - f0) (fun g2 s6 wr2=>∃k2:Nat,f0<=k2/\(k2:Int)<=q.tz/\q.tz.toNat - k2<=g2/\s6= .int .i64 k2/\Hid (Grew w wr2)/\Hid (Box wr2 w.heap.size Z0)/\Hid (Box wr2 (w.heap.size+1) (cellsO (tab (midF l kk q k2))))/\Hid (Box wr2 p [.int .i64 q.fr,.int .i64 q.tz,.bool q.rd,.bool q.wr,.bool q.sh,.int .i64 q.file,.int .i64 q.base]))
  case atStart=>exact⟨f0,nR _,by omega,by omega,by rw[hf0],G1.out,Y1.out,L1.out,P1.out⟩
  obtain⟨k2,hk2,hk2',hg2,rfl,BW2,YW2,LW2,PW2⟩:=hrel;clear p0;have p1:=PW2.out.c 1 rfl
  by_cases hlt2:(k2:Int)<q.tz
  ·have hi64:k2<64:=by omega
   have hi64z:(k2:Int)<64:=by omega
   have HST:Hid (upd (midF l kk q k2) k2 (oneOf q k2)=midF l kk q (k2+1)):=midO_step (l:=l) (i:=kk) (a:=q) (n:=k2) (by omega)
   have p2:=PW2.out.c 2 rfl;have p3:=PW2.out.c 3 rfl;have p4:=PW2.out.c 4 rfl;have p5:=PW2.out.c 5 rfl
   go_wp2_with (refine wp_storeOn rfl (.tmp 31) (.tmp 30) rfl (w.heap.size+1) k2 hi64 rfl ⟨true,q.rd,q.wr,q.sh,q.file,0⟩ rfl LW2.out ?_)
   intro W3 b3 g3 s3;have L3:Hid (Box W3 (w.heap.size+1) (cellsO (tab (upd (midF l kk q k2) k2 ⟨true,q.rd,q.wr,q.sh,q.file,0⟩)))):=b3;have G3:Hid (Grew w W3):=grew_grown BW2.out g3 (by simp)
   have Y3:Hid (Box W3 w.heap.size Z0):=YW2.out.beside g3 (by intro g hg;cases hg;simp)
   have P3:Hid (Box W3 p [.int .i64 q.fr,.int .i64 q.tz,.bool q.rd,.bool q.wr,.bool q.sh,.int .i64 q.file,.int .i64 q.base]):=PW2.out.beside g3 (by intro g hg;cases hg;have:=HLP.out;omega)
   clear b3 g3 s3 p1 p2 p3 p4 p5;have p5:=P3.out.c 5 rfl
   by_cases hfile:0<=q.file
   ·have HONE:Hid (oneOf q k2=⟨true,q.rd,q.wr,q.sh,q.file,q.base+(k2:Int) - q.fr⟩):=show _=_ by
     unfold oneOf;rw[if_pos hfile]
     congr 1
     omega
    have p0:=P3.out.c 0 rfl;have p6:=P3.out.c 6 rfl;have l5:=L3.out.c (k2*6+5) (cellsO_at (tab_at hi64) 5 (.int .i64 0) (by unfold upd;rw[if_pos rfl];rfl))
    have lf:=L3.out.f;go_upto_region 7 with fail;obtain⟨W4,hW4⟩:∃W4,W3.setCell ⟨w.heap.size+1,k2*6+5,none⟩ (.int .i64 (q.base+(k2:Int) - q.fr))=W4:=⟨_,rfl⟩;have L4:Hid (Box W4 (w.heap.size+1) (cellsO (tab (midF l kk q (k2+1))))):=show Box _ _ _ by
     rw[<-hW4];have:=L3.out.onCell hi64 5 (.int .i64 (q.base+(k2:Int) - q.fr)) (oneOf q k2) (by rw[HONE.out];unfold upd;rw[if_pos rfl];rfl) (by omega)
     rw[upd_upd,HST.out]at this;exact this
    have G4:Hid (Grew w W4):=show Grew _ _ by rw[<-hW4];exact grew_set G3.out (by simp) _
    have Y4:Hid (Box W4 w.heap.size Z0):=show Box _ _ _ by rw[<-hW4];exact Y3.out.other (by simp) _
    have P4:Hid (Box W4 p [.int .i64 q.fr,.int .i64 q.tz,.bool q.rd,.bool q.wr,.bool q.sh,.int .i64 q.file,.int .i64 q.base]):=show Box _ _ _ by rw[<-hW4];exact P3.out.other (by have:=HLP.out;simp;omega) _
    rw[hW4];clear hW4 l5 lf p0 p5 p6;go_wp2
    go_roundg (q.tz.toNat -(k2+1))
    case measure=>omega
    exact⟨k2+1,by omega,by omega,by omega,by go_num,G4.out,Y4.out,L4.out,P4.out⟩
   have HONE:Hid (oneOf q k2=⟨true,q.rd,q.wr,q.sh,q.file,0⟩):=show _=_ by
    unfold oneOf;rw[if_neg hfile]
   have L4:Hid (Box W3 (w.heap.size+1) (cellsO (tab (midF l kk q (k2+1))))):=show Box _ _ _ by rw[<-HST.out,HONE.out];exact L3.out
   go_wp2
   go_roundg (q.tz.toNat -(k2+1))
   case measure=>omega
   exact⟨k2+1,by omega,by omega,by omega,by go_num,G3.out,Y3.out,L4.out,P3.out⟩
  have hke:(k2:Int)=q.tz:=by omega
  have LE:Hid (Box wr (w.heap.size+1) (cellsO (tab (onAt (l.take (kk+1)))))):=show Box _ _ _ by rw[<-midO_end HOK.out HQ.out hke];exact LW2.out
  go_wp2
  go_roundg (n -(kk+1))
  case measure=>omega
  exact⟨kk+1,by omega,by omega,by go_num,BW2.out,YW2.out,LE.out⟩
 have hltz:¬(kk:Int)< (n:Int):=by omega
 have:kk=n:=by omega
 subst this;have LE:Hid (Box wr (w.heap.size+1) C):=show Box _ _ _ by rw[<-HC.out];have:=LW.out;rw[<-HN.out,List.take_length]at this;exact this
 have HFL:Hid (C.length=384):=show _=_ by rw[<-HC.out,tabO_len]
 have HFO:Hid (∀v∈C,v.oneCell'=true):=show∀v∈C,_ by rw[<-HC.out];exact cellsO_one _
 go_wp2_with (first | refine wp_loadAll rfl 97 (.tmp 3) rfl (w.heap.size+1) rfl LE.out Tryz.underlying97 rfl (by rw[HFL.out];exact Tryz.sizeOnes) ?_ | refine wp_storeAll rfl 97 (.tmp 2) (.tmp 46) rfl w.heap.size rfl C rfl YW.out (by rw[HFL.out,HZL.out]) (by rw[HZL.out];exact Tryz.sizeOnes) HFO.out ?_)
 intro W3 b3 g3 s3;have G3:Hid (Grew w W3):=show Grew _ _ from grew_grown BW.out g3 (by simp)
 have B3:Hid (Box W3 w.heap.size C):=b3;clear b3 g3 s3;go_wp2;refine bodyPost_ret (ret_cell rfl _ rfl B3.out Tryz.underlying97 rfl (by rw[HFL.out];exact Tryz.sizeOnes)) rfl ⟨rfl,G3.out⟩
theorem partF_is {f:Nat->On} {k:Nat} (h:(f k).is=true):partF f k=⟨k,(k:Int)+1,(f k).rd,(f k).wr,(f k).sh,(f k).file,(f k).page⟩:=by
 unfold partF arOf;rw[if_pos h]
theorem goJ_eq (x y:On):onEqB ⟨y.is,y.rd,y.wr,y.sh,y.file,if 0<=x.file then y.page+1 else y.page⟩ x=goJ x y:=by
 unfold onEqB goJ;have hd:∀x y:Int,(x == y)=decide (x=y):=fun x y=>rfl
 simp only[hd]
theorem refAreas_any (f:Nat->On) (w:World) (hg:Good f):
  Calls Tryz.prog 145 #[.agg (cellsO (tab f)).toArray] w fun e w'=>(∃v,e= .returned v/\OwnRow arE (w.heap.size+1) w' v (joinL f))/\Grew w w':=by
 have HGD:Hid (Good f):=hg;clear hg;have HCL:Hid ((cellsO (tab f)).length=384):=tabO_len _;obtain⟨W0,hW0⟩:∃W0,w.alloc (.cells (cellsO (tab f)).toArray 97)=W0:=⟨_,rfl⟩;have HG0:=gA hW0
 have X0:=xA hW0
 have HS0:=sA hW0
 have HW0:Hid (_=W0):=hW0;clear hW0
 go_enter Tryz.func145,Tryz.ntmps145
 go_upto_region 1 with fail;rw[HW0.out]
 go_wp2_with (refine wp_loadAll rfl 97 (.tmp 1) rfl w.heap.size rfl X0.out Tryz.underlying97 rfl (by rw[HCL.out];exact Tryz.sizeOnes) ?_)
 go_loopg [3,9] 64 (fun gg s3 s9 wr=>∃(kk:Nat) (acc:List Ar) (xa:Option Addr) (xc:Nat),kk<=64/\64 - kk<=gg/\s9= .int .i64 kk/\s3= .slice xa acc.length xc/\Hid (Grew W0 wr)/\Hid (OwnRow arE (w.heap.size+1) wr (.slice xa acc.length xc) acc)/\Hid (J f kk acc))
 case atStart=>exact⟨0,[],none,0,nZ _,by omega,rfl,rfl,Grew.refl _,OwnRow.nil _ _ _,J.zero f⟩
 obtain⟨kk,acc,xa,xc,hkk,hgg,rfl,rfl,BW,OW,JW⟩:=hrel
 by_cases hlt:kk<64
 ·have hltz:(kk:Int)<64:=by omega
  have HLEN:Hid (acc.length<=kk):=JW.out.len;have XW:=dD (X0.out.grew BW.out);obtain⟨p,HP⟩:∃p,Hid (wr.heap.size=p):=⟨_,rfl⟩;have HPW:Hid (wr.heap.size<=p):=show _<=_ by rw[HP.out];exact nR _
  cases hs:(f kk).is with
  | false=>
   have HIV:Hid (Value.agg (onv (f kk)).toArray= .agg #[.bool false,.bool (f kk).rd,.bool (f kk).wr,.bool (f kk).sh,.int .i64 (f kk).file,.int .i64 (f kk).page]):=show _=_ by rw[<-hs];rfl
   have J2:Hid (J f (kk+1) acc):=JW.out.skip ((HGD.out kk hlt).1 hs);clear hs
   go_wp2_with (refine wp_idxOv rfl (.tmp 8) (.tmp 9) rfl f rfl kk rfl hlt HIV.out ?_)
   go_roundg (64 -(kk+1))
   case measure=>omega
   exact⟨kk+1,acc,xa,xc,by omega,by omega,by go_num,rfl,BW.out.trans (grew_alloc _ _),OW.out.grew (grew_alloc _ _),J2.out⟩
  | true=>
   have HS:Hid ((f kk).is=true):=hs;have HPF:Hid (arOf kk (f kk)=⟨kk,(kk:Int)+1,(f kk).rd,(f kk).wr,(f kk).sh,(f kk).file,(f kk).page⟩):=partF_is hs;have HNEW:Hid ((∀b,acc.getLast? =some b->goB (arOf kk (f kk)) b=false)->J f (kk+1) (acc++ [arOf kk (f kk)])):=fun h=>JW.out.new HGD.out hlt HS.out h
   have HEXT:Hid (∀i b,acc=i++ [b]->goB (arOf kk (f kk)) b=true->J f (kk+1) (i++ [{ b with tz:=(kk:Int)+1 }])):=fun i b h1 h2=>by
    have:=JW.out;rw[h1]at this;exact this.ext HGD.out hlt HS.out h2
   have HIV:Hid (Value.agg (onv (f kk)).toArray= .agg #[.bool true,.bool (f kk).rd,.bool (f kk).wr,.bool (f kk).sh,.int .i64 (f kk).file,.int .i64 (f kk).page]):=show _=_ by rw[<-hs];rfl
   clear hs;obtain⟨x,HX⟩:∃x,Hid (f kk=x):=⟨_,rfl⟩;rw[HX.out]at HIV;have HIV2:Hid (Value.agg (onv (f kk)).toArray= .agg #[.bool true,.bool x.rd,.bool x.wr,.bool x.sh,.int .i64 x.file,.int .i64 x.page]):=show _=_ by rw[HX.out];exact HIV.out
   go_upto_region 5 with(refine wp_idxOv rfl (.tmp 8) (.tmp 9) rfl f rfl kk rfl hlt HIV2.out ?_)
   obtain⟨W1,hW1⟩:∃W1,wr.alloc (.cells #[.bool true,.bool x.rd,.bool x.wr,.bool x.sh,.int .i64 x.file,.int .i64 x.page] 96)=W1:=⟨_,rfl⟩;have G1:=gT hW1 BW
   have O1:Hid (OwnRow arE (w.heap.size+1) W1 (.slice xa acc.length xc) acc):=show OwnRow _ _ _ _ _ by rw[<-hW1];exact OW.out.grew (grew_alloc _ _)
   have P1:=xP hW1 HP
   have X1:=yA hW1 XW
   rw[hW1,HP.out];clear hW1 HP;have p0:=P1.out.c 0 rfl
   cases kk with
   | zero=>
    have HNIL:Hid (acc=[]):=JW.out.first;have J2:Hid (J f (0+1) (acc++ [⟨((0:Nat):Int),((0:Nat):Int)+1,x.rd,x.wr,x.sh,x.file,x.page⟩])):=show J _ _ _ by
     have:=HNEW.out (fun b hb=>by rw[HNIL.out]at hb;cases hb)
     rw[HPF.out,HX.out]at this;exact this
    go_upto_region 14 with fail;clear p0;have HSZ:Hid (w.heap.size+1<=W1.heap.size):=show _<=_ by rw[<-HS0.out];exact bS G1.out
    have p1:=P1.out.c 1 rfl;have p2:=P1.out.c 2 rfl;have p3:=P1.out.c 3 rfl;have p4:=P1.out.c 4 rfl;have p5:=P1.out.c 5 rfl
    go_wp2_with (at_builtin;refine wpList_append_row (E:=arE) rfl (.tmp 41) (.tmp 56) rfl (w.heap.size+1) _ acc rfl (O1.out.grew (grew_alloc _ _)) _ [⟨((0:Nat):Int),((0:Nat):Int)+1,x.rd,x.wr,x.sh,x.file,x.page⟩] rfl (one_row arE W1 ⟨((0:Nat):Int),((0:Nat):Int)+1,x.rd,x.wr,x.sh,x.file,x.page⟩ _ _ rfl (by show 40<=_;omega)) ?qb ?qc ?_)
    case qb=>
     show(acc.length+1)*40<=_
     have:=HLEN.out;omega
    case qc=>first | exact HSZ.out | exact nT HSZ.out (Nat.le_succ _) | (have:=HSZ.out;omega) | (simp;have:=HSZ.out;omega)
    intro vn Wn own grn;obtain⟨xan,xcn,rfl⟩:=own.form;have On':Hid (OwnRow arE (w.heap.size+1) Wn (.slice xan (acc++ [(⟨((0:Nat):Int),((0:Nat):Int)+1,x.rd,x.wr,x.sh,x.file,x.page⟩:Ar)]).length xcn) (acc++ [⟨((0:Nat):Int),((0:Nat):Int)+1,x.rd,x.wr,x.sh,x.file,x.page⟩])):=own;have Gn:Hid (Grew W0 Wn):=show Grew _ _ from grew_beside (G1.out.trans (grew_alloc _ _)) grn (fun g hg=>by
     have h1:=(O1.out.lt g hg).1;rw[HS0.out];exact h1)
    have Xn:=dD (X0.out.grew Gn.out);clear own grn p1 p2 p3 p4 p5;go_wp2
    go_roundg (64 -(0+1))
    case measure=>omega
    exact⟨0+1,acc++ [(⟨((0:Nat):Int),((0:Nat):Int)+1,x.rd,x.wr,x.sh,x.file,x.page⟩:Ar)],xan,xcn,by omega,by omega,by go_num,rfl,Gn.out,On'.out,J2.out⟩
   | succ j=>
    have hj64:j<64:=by omega
    have hj64z:(j:Int)<64:=by omega
    have hjz:(0:Int)< ((j+1:Nat):Int):=by omega
    have hj1:((j+1:Nat):Int) - 1=(j:Int):=by omega
    have HGO:=JW.out.go HS.out;obtain⟨y,HY⟩:∃y,Hid (f j=y):=⟨_,rfl⟩;have hyp:0<=y.page/\y.page<=12:=by
     rw[<-HY.out];have h1:=HGD.out j hj64
     cases hq:(f j).is with
     | false=>rw[h1.1 hq];exact⟨by decide,by decide⟩
     | true=>
      have h2:=h1.2 hq;unfold ArOk arOf at h2;rw[if_pos hq]at h2;simp only at h2
      rcases Int.lt_or_le (f j).file 0 with h | h
      ·omega
      omega
    obtain⟨hy0,hy1⟩:=hyp;have HYV:Hid (Value.agg (onv (f j)).toArray= .agg #[.bool y.is,.bool y.rd,.bool y.wr,.bool y.sh,.int .i64 y.file,.int .i64 y.page]):=show _=_ by rw[HY.out];rfl
    have HGJ:=goJ_eq x y;rw[HX.out,HY.out]at HGO;have HGO':Hid _:=HGO;clear HGO;obtain⟨p7,HP7⟩:∃p7,Hid (W1.heap.size=p7):=⟨_,rfl⟩;have HPP:Hid (p<p7):=show _<_ by rw[<-HP7.out];exact P1.out.lt
    go_upto_region 9 with(refine wp_loadOnv rfl (.tmp 20) rfl w.heap.size j hj64 rfl X1.out HYV.out ?_)
    clear p0;obtain⟨W2,hW2⟩:∃W2,W1.alloc (.cells #[.bool y.is,.bool y.rd,.bool y.wr,.bool y.sh,.int .i64 y.file,.int .i64 y.page] 96)=W2:=⟨_,rfl⟩;have G2:=gT hW2 G1
    have O2:Hid (OwnRow arE (w.heap.size+1) W2 (.slice xa acc.length xc) acc):=show OwnRow _ _ _ _ _ by rw[<-hW2];exact O1.out.grew (grew_alloc _ _)
    have P2:=yA hW2 P1
    have Y2:=xPT hW2 HP7
    rw[hW2,HP7.out];clear hW2 HP7;have p4:=P2.out.c 4 rfl
    by_cases hfile:0<=x.file
    ·rw[if_pos hfile]at HGJ;have HQ:=fun W=>on_eq y.is true y.rd x.rd y.wr x.wr y.sh x.sh y.file x.file (y.page+1) x.page W
     have HXT:Hid ((⟨true,x.rd,x.wr,x.sh,x.file,x.page⟩:On)=x):=show _=_ by
      have h:=HS.out;rw[HX.out]at h;rw[<-h]
     rw[HXT.out,HGJ]at HQ;clear HGJ;obtain⟨R,HR⟩:∃R,Hid (goJ x y=R):=⟨_,rfl⟩;rw[HR.out]at HQ HGO';have y5:=Y2.out.box.c 5 rfl;have yf:=Y2.out.box.f;go_upto_region 11 with fail;obtain⟨W3,hW3⟩:∃W3,W2.setCell ⟨p7,5,none⟩ (.int .i64 (y.page+1))=W3:=⟨_,rfl⟩;have HW0P:Hid (W0.heap.size<=p7):=show _<=_ by have h1:=HPP.out;have h2:=bS BW.out;have h3:=HPW.out;omega
     have G3:Hid (Grew W0 W3):=show Grew _ _ by rw[<-hW3];exact grew_set G2.out HW0P.out _
     have O3:Hid (OwnRow arE (w.heap.size+1) W3 (.slice xa acc.length xc) acc):=show OwnRow _ _ _ _ _ by rw[<-hW3];exact O2.out.setOther (fun g hg=>O2.out.ne Y2.out (by decide) g hg) _
     have P3:Hid (Box W3 p [.bool true,.bool x.rd,.bool x.wr,.bool x.sh,.int .i64 x.file,.int .i64 x.page]):=show Box _ _ _ by rw[<-hW3];exact P2.out.other (by have:=HPP.out;simp;omega) _
     have Y3:Hid (Box W3 p7 [.bool y.is,.bool y.rd,.bool y.wr,.bool y.sh,.int .i64 y.file,.int .i64 (y.page+1)]):=show Box _ _ _ by rw[<-hW3];exact Y2.out.box.set 5 _
     rw[hW3];clear hW3 y5 yf p4
     cases R with
     | true=>
      obtain⟨b,hlast,hgb⟩:=HGO'.out.1 rfl;have hacc:=snoc_of hlast;obtain⟨ini,hini⟩:∃ini,acc.dropLast=ini:=⟨_,rfl⟩;rw[hini]at hacc;have HACC:Hid (acc=ini++ [b]):=hacc;have J2:Hid (J f (j+1+1) (ini++ [{ b with tz:=((j+1:Nat):Int)+1 }])):=HEXT.out ini b hacc (by rw[HX.out];exact hgb)
      obtain⟨m,HM⟩:∃m,Hid (ini.length=m):=⟨_,rfl⟩;have HAL:Hid (acc.length=m+1):=show _=_ by rw[HACC.out,<-HM.out];simp
      have HBI:Hid (acc[m]? =some b):=show _=_ by rw[HACC.out,<-HM.out];simp
      obtain⟨g,xc',hxe⟩:=O3.out.formS (by rw[HAL.out];omega)
      cases hxe;have hmm:((m+1:Nat):Int) - 1=(m:Int):=by omega
      have hm0:(0:Int)<=(m:Int):=by omega
      have hmlt:(m:Int)< ((m+1:Nat):Int):=by omega
      have hmk:m+1<=64:=by have:=HLEN.out;rw[HAL.out]at this;omega
      clear hlast hgb hacc hini;rw[HAL.out]at O3⊢;have HSET:Hid (acc.set m { b with tz:=((j+1:Nat):Int)+1 }=ini++ [{ b with tz:=((j+1:Nat):Int)+1 }]):=show _=_ by rw[HACC.out,List.set_append_right _ _ (by rw[HM.out];exact nR _),HM.out,Nat.sub_self];rfl
      go_wp2_with (first | refine wp_loadAll rfl 96 (.tmp 7) rfl p7 rfl Y3.out Tryz.underlying96 rfl Tryz.sizeOne ?_ | refine wp_loadAll rfl 96 (.tmp 5) rfl p rfl P3.out Tryz.underlying96 rfl Tryz.sizeOne ?_ | refine wpList_store_part (E:=arE) rfl (.tmp 40) (.tmp 38) 3 rfl (w.heap.size+1) (.slice (some ⟨g,0,none⟩) (m+1) xc) acc O3.out g m 1 rfl b { b with tz:=((j+1:Nat):Int)+1 } HBI.out [.int .i64 (((j+1:Nat):Int)+1)] (by kernel_rfl) rfl (Nat.le_of_ble_eq_true rfl) (by intro u hu;simp at hu;subst hu;rfl) _ rfl (by simp;rfl) _ rfl rfl ?_)
      intro W4 ow4 gr4 sz4;have HBG:=O3.out.lt g rfl;have G4:Hid (Grew W0 W4):=show Grew _ _ from grew_grown G3.out gr4 (by rw[HS0.out];exact HBG.1)
      have HL4:Hid ((ini++ [({ b with tz:=((j+1:Nat):Int)+1 }:Ar)]).length=m+1):=show _=_ by simp[HM.out]
      have O4:Hid (OwnRow arE (w.heap.size+1) W4 (.slice (some ⟨g,0,none⟩) (ini++ [({ b with tz:=((j+1:Nat):Int)+1 }:Ar)]).length xc) (ini++ [{ b with tz:=((j+1:Nat):Int)+1 }])):=show OwnRow _ _ _ _ _ by rw[HL4.out,<-HSET.out];exact ow4
      clear ow4 gr4 sz4 HBG;rw[<-HL4.out];go_wp2
      go_roundg (64 -(j+1+1))
      case measure=>omega
      exact⟨j+1+1,ini++ [({ b with tz:=((j+1:Nat):Int)+1 }:Ar)],some ⟨g,0,none⟩,xc,by omega,by omega,by go_num,rfl,G4.out,O4.out,J2.out⟩
     | false=>
      have J2:Hid (J f (j+1+1) (acc++ [⟨((j+1:Nat)),(((j+1:Nat)):Int)+1,x.rd,x.wr,x.sh,x.file,x.page⟩])):=show J _ _ _ by
       have:=HNEW.out (fun b hb=>by rw[HX.out];exact HGO'.out.2 rfl b hb)
       rw[HPF.out,HX.out]at this;exact this
      go_upto_region 14 with(first | refine wp_loadAll rfl 96 (.tmp 7) rfl p7 rfl Y3.out Tryz.underlying96 rfl Tryz.sizeOne ?_ | refine wp_loadAll rfl 96 (.tmp 5) rfl p rfl P3.out Tryz.underlying96 rfl Tryz.sizeOne ?_)
      have HSZ:Hid (w.heap.size+1<=W3.heap.size):=show _<=_ by rw[<-HS0.out];exact bS G3.out
      have p1:=P3.out.c 1 rfl;have p2:=P3.out.c 2 rfl;have p3:=P3.out.c 3 rfl;have p4:=P3.out.c 4 rfl;have p5:=P3.out.c 5 rfl
      go_wp2_with (at_builtin;refine wpList_append_row (E:=arE) rfl (.tmp 41) (.tmp 56) rfl (w.heap.size+1) _ acc rfl (O3.out.grew (grew_alloc _ _)) _ [⟨((j+1:Nat):Int),((j+1:Nat):Int)+1,x.rd,x.wr,x.sh,x.file,x.page⟩] rfl (one_row arE W3 ⟨((j+1:Nat):Int),((j+1:Nat):Int)+1,x.rd,x.wr,x.sh,x.file,x.page⟩ _ _ rfl (by show 40<=_;omega)) ?qb ?qc ?_)
      case qb=>
       show(acc.length+1)*40<=_
       have:=HLEN.out;omega
      case qc=>first | exact HSZ.out | exact nT HSZ.out (Nat.le_succ _) | (have:=HSZ.out;omega) | (simp;have:=HSZ.out;omega)
      intro vn Wn own grn;obtain⟨xan,xcn,rfl⟩:=own.form;have On':Hid (OwnRow arE (w.heap.size+1) Wn (.slice xan (acc++ [(⟨((j+1:Nat):Int),((j+1:Nat):Int)+1,x.rd,x.wr,x.sh,x.file,x.page⟩:Ar)]).length xcn) (acc++ [⟨((j+1:Nat):Int),((j+1:Nat):Int)+1,x.rd,x.wr,x.sh,x.file,x.page⟩])):=own;have Gn:Hid (Grew W0 Wn):=show Grew _ _ from grew_beside (G3.out.trans (grew_alloc _ _)) grn (fun g hg=>by
       have h1:=(O3.out.lt g hg).1;rw[HS0.out];exact h1)
      have Xn:=dD (X0.out.grew Gn.out);clear own grn p1 p2 p3 p4 p5;go_wp2
      go_roundg (64 -((j+1)+1))
      case measure=>omega
      exact⟨(j+1)+1,acc++ [(⟨((j+1:Nat):Int),((j+1:Nat):Int)+1,x.rd,x.wr,x.sh,x.file,x.page⟩:Ar)],xan,xcn,by omega,by omega,by go_num,rfl,Gn.out,On'.out,J2.out⟩
    rw[if_neg hfile]at HGJ;have HQ:=fun W=>on_eq y.is true y.rd x.rd y.wr x.wr y.sh x.sh y.file x.file y.page x.page W
    have HXT:Hid ((⟨true,x.rd,x.wr,x.sh,x.file,x.page⟩:On)=x):=show _=_ by
     have h:=HS.out;rw[HX.out]at h;rw[<-h]
    rw[HXT.out,HGJ]at HQ;clear HGJ;obtain⟨R,HR⟩:∃R,Hid (goJ x y=R):=⟨_,rfl⟩;rw[HR.out]at HQ HGO';go_upto_region 11 with fail;clear p4;have G3:Hid (Grew W0 W2):=G2;have O3:Hid (OwnRow arE (w.heap.size+1) W2 (.slice xa acc.length xc) acc):=O2;have P3:Hid (Box W2 p [.bool true,.bool x.rd,.bool x.wr,.bool x.sh,.int .i64 x.file,.int .i64 x.page]):=P2;have Y3:Hid (Box W2 p7 [.bool y.is,.bool y.rd,.bool y.wr,.bool y.sh,.int .i64 y.file,.int .i64 y.page]):=Y2.out.box;obtain⟨W3,hW3⟩:∃W3,W2=W3:=⟨_,rfl⟩;rw[hW3]at G3 O3 P3 Y3⊢;clear hW3
    cases R with
    | true=>
     obtain⟨b,hlast,hgb⟩:=HGO'.out.1 rfl;have hacc:=snoc_of hlast;obtain⟨ini,hini⟩:∃ini,acc.dropLast=ini:=⟨_,rfl⟩;rw[hini]at hacc;have HACC:Hid (acc=ini++ [b]):=hacc;have J2:Hid (J f (j+1+1) (ini++ [{ b with tz:=((j+1:Nat):Int)+1 }])):=HEXT.out ini b hacc (by rw[HX.out];exact hgb)
     obtain⟨m,HM⟩:∃m,Hid (ini.length=m):=⟨_,rfl⟩;have HAL:Hid (acc.length=m+1):=show _=_ by rw[HACC.out,<-HM.out];simp
     have HBI:Hid (acc[m]? =some b):=show _=_ by rw[HACC.out,<-HM.out];simp
     obtain⟨g,xc',hxe⟩:=O3.out.formS (by rw[HAL.out];omega)
     cases hxe;have hmm:((m+1:Nat):Int) - 1=(m:Int):=by omega
     have hm0:(0:Int)<=(m:Int):=by omega
     have hmlt:(m:Int)< ((m+1:Nat):Int):=by omega
     have hmk:m+1<=64:=by have:=HLEN.out;rw[HAL.out]at this;omega
     clear hlast hgb hacc hini;rw[HAL.out]at O3⊢;have HSET:Hid (acc.set m { b with tz:=((j+1:Nat):Int)+1 }=ini++ [{ b with tz:=((j+1:Nat):Int)+1 }]):=show _=_ by rw[HACC.out,List.set_append_right _ _ (by rw[HM.out];exact nR _),HM.out,Nat.sub_self];rfl
     go_wp2_with (first | refine wp_loadAll rfl 96 (.tmp 7) rfl p7 rfl Y3.out Tryz.underlying96 rfl Tryz.sizeOne ?_ | refine wp_loadAll rfl 96 (.tmp 5) rfl p rfl P3.out Tryz.underlying96 rfl Tryz.sizeOne ?_ | refine wpList_store_part (E:=arE) rfl (.tmp 40) (.tmp 38) 3 rfl (w.heap.size+1) (.slice (some ⟨g,0,none⟩) (m+1) xc) acc O3.out g m 1 rfl b { b with tz:=((j+1:Nat):Int)+1 } HBI.out [.int .i64 (((j+1:Nat):Int)+1)] (by kernel_rfl) rfl (Nat.le_of_ble_eq_true rfl) (by intro u hu;simp at hu;subst hu;rfl) _ rfl (by simp;rfl) _ rfl rfl ?_)
     intro W4 ow4 gr4 sz4;have HBG:=O3.out.lt g rfl;have G4:Hid (Grew W0 W4):=show Grew _ _ from grew_grown G3.out gr4 (by rw[HS0.out];exact HBG.1)
     have HL4:Hid ((ini++ [({ b with tz:=((j+1:Nat):Int)+1 }:Ar)]).length=m+1):=show _=_ by simp[HM.out]
     have O4:Hid (OwnRow arE (w.heap.size+1) W4 (.slice (some ⟨g,0,none⟩) (ini++ [({ b with tz:=((j+1:Nat):Int)+1 }:Ar)]).length xc) (ini++ [{ b with tz:=((j+1:Nat):Int)+1 }])):=show OwnRow _ _ _ _ _ by rw[HL4.out,<-HSET.out];exact ow4
     clear ow4 gr4 sz4 HBG;rw[<-HL4.out];go_wp2
     go_roundg (64 -(j+1+1))
     case measure=>omega
     exact⟨j+1+1,ini++ [({ b with tz:=((j+1:Nat):Int)+1 }:Ar)],some ⟨g,0,none⟩,xc,by omega,by omega,by go_num,rfl,G4.out,O4.out,J2.out⟩
    | false=>
     have J2:Hid (J f (j+1+1) (acc++ [⟨((j+1:Nat)),(((j+1:Nat)):Int)+1,x.rd,x.wr,x.sh,x.file,x.page⟩])):=show J _ _ _ by
      have:=HNEW.out (fun b hb=>by rw[HX.out];exact HGO'.out.2 rfl b hb)
      rw[HPF.out,HX.out]at this;exact this
     go_upto_region 14 with(first | refine wp_loadAll rfl 96 (.tmp 7) rfl p7 rfl Y3.out Tryz.underlying96 rfl Tryz.sizeOne ?_ | refine wp_loadAll rfl 96 (.tmp 5) rfl p rfl P3.out Tryz.underlying96 rfl Tryz.sizeOne ?_)
     have HSZ:Hid (w.heap.size+1<=W3.heap.size):=show _<=_ by rw[<-HS0.out];exact bS G3.out
     have p1:=P3.out.c 1 rfl;have p2:=P3.out.c 2 rfl;have p3:=P3.out.c 3 rfl;have p4:=P3.out.c 4 rfl;have p5:=P3.out.c 5 rfl
     go_wp2_with (at_builtin;refine wpList_append_row (E:=arE) rfl (.tmp 41) (.tmp 56) rfl (w.heap.size+1) _ acc rfl (O3.out.grew (grew_alloc _ _)) _ [⟨((j+1:Nat):Int),((j+1:Nat):Int)+1,x.rd,x.wr,x.sh,x.file,x.page⟩] rfl (one_row arE W3 ⟨((j+1:Nat):Int),((j+1:Nat):Int)+1,x.rd,x.wr,x.sh,x.file,x.page⟩ _ _ rfl (by show 40<=_;omega)) ?qb ?qc ?_)
     case qb=>
      show(acc.length+1)*40<=_
      have:=HLEN.out;omega
     case qc=>first | exact HSZ.out | exact nT HSZ.out (Nat.le_succ _) | (have:=HSZ.out;omega) | (simp;have:=HSZ.out;omega)
     intro vn Wn own grn;obtain⟨xan,xcn,rfl⟩:=own.form;have On':Hid (OwnRow arE (w.heap.size+1) Wn (.slice xan (acc++ [(⟨((j+1:Nat):Int),((j+1:Nat):Int)+1,x.rd,x.wr,x.sh,x.file,x.page⟩:Ar)]).length xcn) (acc++ [⟨((j+1:Nat):Int),((j+1:Nat):Int)+1,x.rd,x.wr,x.sh,x.file,x.page⟩])):=own;have Gn:Hid (Grew W0 Wn):=show Grew _ _ from grew_beside (G3.out.trans (grew_alloc _ _)) grn (fun g hg=>by
      have h1:=(O3.out.lt g hg).1;rw[HS0.out];exact h1)
     have Xn:=dD (X0.out.grew Gn.out);clear own grn p1 p2 p3 p4 p5;go_wp2
     go_roundg (64 -((j+1)+1))
     case measure=>omega
     exact⟨(j+1)+1,acc++ [(⟨((j+1:Nat):Int),((j+1:Nat):Int)+1,x.rd,x.wr,x.sh,x.file,x.page⟩:Ar)],xan,xcn,by omega,by omega,by go_num,rfl,Gn.out,On'.out,J2.out⟩
 have hltz:¬(kk:Int)<64:=by omega
 have:kk=64:=by omega
 subst this;have HE:Hid (acc=joinL f):=JW.out.all HGD.out;have OE:Hid (OwnRow arE (w.heap.size+1) wr (.slice xa acc.length xc) (joinL f)):=show OwnRow _ _ _ _ _ by rw[<-HE.out];exact OW.out
 have GE:=dD (HG0.out.trans BW.out);go_wp2;go_ret;exact⟨⟨_,rfl,OE.out⟩,GE.out⟩
theorem refFew_any (f:Nat->On) (w:World) (hg:Good f):
  Calls Tryz.prog 126 #[.agg (cellsO (tab f)).toArray] w fun e w'=>(∃u,e= .returned (.tuple #[u,.int .i64 (fewL f).2])/\OwnRow arE w.heap.size w' u (fewL f).1)/\Grew w w':=by
 have HA:Hid (∀W,Calls Tryz.prog 145 #[.agg (cellsO (tab f)).toArray] W fun e w'=>(∃v,e= .returned v/\OwnRow arE (W.heap.size+1) w' v (joinL f))/\Grew W w'):=fun W=>refAreas_any f W hg
 have HFW:Hid (¬16< (joinL f).length->fewL f=(joinL f,0)):=fun h=>by unfold fewL;rw[if_neg h]
 have HFM:Hid (16< (joinL f).length->fewL f=([],4)):=fun h=>by unfold fewL;rw[if_pos h]
 have HJS:Hid ((joinL f).length<=64):=(joinL_J hg).len;clear hg;obtain⟨FW,HFE⟩:∃FW,Hid (fewL f=FW):=⟨_,rfl⟩;simp only[HFE.out]at HFW HFM⊢;obtain⟨JL,HJL⟩:∃JL,Hid (joinL f=JL):=⟨_,rfl⟩;simp only[HJL.out]at HFW HFM HJS HA;clear HFE HJL;have HCL:Hid ((cellsO (tab f)).length=384):=tabO_len _
 generalize cellsO (tab f)=C at HA HCL⊢
 obtain⟨W0,hW0⟩:∃W0,w.alloc (.cells C.toArray 97)=W0:=⟨_,rfl⟩;have HG0:=gA hW0
 have X0:=xA hW0
 have HW0:Hid (_=W0):=hW0;clear hW0
 go_enter Tryz.func126,Tryz.ntmps126
 go_upto_region 1 with fail;rw[HW0.out]
 go_wp2_with (refine wp_loadAll rfl 97 (.tmp 1) rfl w.heap.size rfl X0.out Tryz.underlying97 rfl (by rw[HCL.out];exact Tryz.sizeOnes) ?_)
 refine(HA.out W0).mono ?_;rintro e W5 ⟨⟨u,rfl,ow5⟩,g5⟩;obtain⟨xa,xc,rfl⟩:=ow5.form;have G5:=dD (HG0.out.trans g5);have O5:Hid (OwnRow arE w.heap.size W5 (.slice xa JL.length xc) JL):=ow5.base (nT (bS HG0.out) (Nat.le_succ _));clear g5 ow5;obtain⟨m,HM⟩:∃m,Hid (JL.length=m):=⟨_,rfl⟩;rw[HM.out]at HFW HFM HJS O5⊢;have hm64:m<=64:=HJS.out
 by_cases hmany:16<m
 ·have hmz:(16:Int)< (m:Int):=by omega
  have HR:Hid (FW=([],4)):=HFM.out hmany;go_wp2;refine bodyPost_ret (results_tmp2 rfl _ _ _) rfl ?_;rw[HR.out];exact⟨⟨_,rfl,OwnRow.nil _ _ _⟩,G5.out⟩
 have hmz:¬(16:Int)< (m:Int):=by omega
 have HR:Hid (FW=(JL,0)):=HFW.out hmany;go_wp2;refine bodyPost_ret (results_tmp2 rfl _ _ _) rfl ?_;rw[HR.out];exact⟨⟨_,rfl,O5.out⟩,G5.out⟩
theorem two_good {b a:Ar} (hb:ArOk b) (ha:ArOk a):Good (onAt [b,a]):=fun k _=>⟨onAt_no,fun h1=>by
 obtain⟨i,c,h2,h3,h4⟩:=onAt_some h1;rw[h4];have:c=b\/c=a:=by simpa using mG h2
 rcases this with e | e <;> subst e
 ·exact oneOf_ok hb h3
 exact oneOf_ok ha h3⟩
theorem sub_two {w:World} {ad:Addr} {n c j:Nat} {l:List Ar} {b q:Ar} (h:RowAt arE w (.slice (some ad) n c) l) (hb:l[j]? =some b) (hq:l[j+1]? =some q):RowAt arE w (.slice (some (ad.add (j*7))) 2 (c - j)) [b,q]:=by
 obtain⟨⟨a',c',h1,h2,h3⟩,h4⟩:=h;cases h1;refine⟨⟨some (ad.add (j*7)),c - j,rfl,fun h=>(by cases h),fun x hx k u hu=>?_⟩,by show 2*40<=_;omega⟩
 cases hx;rw[add_add'];refine h3 ad rfl (j*7+k) u ?_;have hu':(arv b++arv q)[k]? =some u:=by simpa [arE]using hu
 by_cases hk:k<7
 ·rw[List.getElem?_append_left (by simpa [arv]using hk)]at hu'
  exact flatMap_elem (enc:=arv) (k:=7) l j b (fun _ _=>rfl) hb k u hu'
 rw[aR (by simp[arv];omega)]at hu'
 have:=flatMap_elem (enc:=arv) (k:=7) l (j+1) q (fun _ _=>rfl) hq (k - 7) u (by simpa [arv]using hu')
 rw[show(j+1)*7+(k - 7)=j*7+k by omega]at this
 exact this
theorem run_slice2 {w:World} {ad:Addr} {n c j:Nat} (hj:j+2<=c):(Instr.sliceAt 60 (.slice (some ad) n c) (some (.int .i64 (j:Int))) (some (.int .i64 ((j:Int)+1+1))) none).run Tryz.prog w= .ok (.slice (some (ad.add (j*7))) 2 (c - j)) w:=by
 have hs:(Go.sizeOf 69).run Tryz.prog w= .ok 7 w:=by
  obtain⟨i0,h1,h2⟩:∃i0,Tryz.prog.info? 69=some i0/\i0.size=7:=by
   have:=Tryz.sizeArea
   cases hq:Tryz.prog.info? 69 with
   | none=>rw[hq]at this;cases this
   | some i0=>rw[hq]at this;exact⟨i0,rfl,by simpa using this⟩
  simp[Go.sizeOf,typeInfo,h1,h2]
 have h1:(0:Int)<=(j:Int)+1+1/\(j:Int)+1+1<=(c:Int):=by omega
 have h2:((j:Int)+1+1).toNat=j+2:=by omega
 have h3:(0:Int)<=(j:Int)/\(j:Int)<=((j+2:Nat):Int):=by omega
 have h4:¬c=j:=by omega
 simp only[Instr.sliceAt,Instr.slice,Instr.sliceBounds,Instr.sliceBound,asIntOf,Sem.run_bind,Sem.run_pure,rA,run_underlying Tryz.underlying60];rw[if_pos h1];simp only[Sem.run_pure,rA,h2];rw[if_pos h3];simp only[Sem.run_pure,rA,hs,tN,if_neg h4,Option.map_some]
 congr 2
 omega
theorem refWrongAr_any (v:Value) (l:List Ar) (w:World) (hv:RowAt arE w v l) (hcap:Cap v):
  Calls Tryz.prog 100 #[v] w fun e w'=>e= .returned (.agg #[.int .i64 (wrL l).1,.int .i64 (wrL l).2])/\Grew w w':=by
 have hbig:=hv.short;obtain⟨a,c,rfl,hrow⟩:=hv.ars;have HR':Hid (ArRows w a l):=hrow;have hwa:Hid (∀(q:Ar) W,Calls Tryz.prog 125 #[.agg #[.int .i64 q.fr,.int .i64 q.tz,.bool q.rd,.bool q.wr,.bool q.sh,.int .i64 q.file,.int .i64 q.base]] W fun e w'=>e= .returned (.int .i64 (arW q))/\Grew W w'):=fun q W=>refWrongArea_any q W
 have HV:Hid (RowAt arE w (.slice a l.length c) l):=hv;have hcp:l.length<=c:=hcap;have h1:Hid (∀(b q:Ar) v W,RowAt arE W v [b,q]->ArOk b->ArOk q->b.tz<=q.fr->Calls Tryz.prog 41 #[v] W fun e w'=>e= .returned (.agg (cellsO (tab (onAt [b,q]))).toArray)/\Grew W w'):=fun b q v W hv hb hq hf=>refOnes_any v [b,q] W hv (lies_two hb hq hf)
 have h2:Hid (∀(b q:Ar) W,ArOk b->ArOk q->b.tz<=q.fr->Calls Tryz.prog 145 #[.agg (cellsO (tab (onAt [b,q]))).toArray] W fun e w'=>(∃xa xc,e= .returned (.slice xa (joinL (onAt [b,q])).length xc))/\Grew W w'):=fun b q W hb hq hf=>(refAreas_any (onAt [b,q]) W (two_good hb hq)).mono (by
  rintro e w' ⟨⟨v,rfl,ow⟩,g⟩;obtain⟨xa,xc,rfl⟩:=ow.form;exact⟨⟨xa,xc,rfl⟩,g⟩)
 clear hrow hv hcap;have HST:Hid (¬16<l.length->wrGo (prevO l 0) (l.drop 0) 0=wrL l):=wrL_start;have HMA:Hid (16<l.length->wrL l=(4,0)):=fun h=>by unfold wrL;rw[if_pos h]
 have HEND:Hid (∀r,wrGo (prevO l l.length) (l.drop l.length) l.length=r->r=(0,0)):=fun r=>wrn_end
 obtain⟨n,HN⟩:∃n,Hid (l.length=n):=⟨_,rfl⟩;rw[HN.out]at hbig hcp HV⊢;have HST':Hid (¬16<n->wrGo (prevO l 0) (l.drop 0) 0=wrL l):=show _->_ by rw[<-HN.out];exact HST.out
 have HMA':Hid (16<n->wrL l=(4,0)):=show _->_ by rw[<-HN.out];exact HMA.out
 have HEND':Hid (∀r,wrGo (prevO l n) (l.drop n) n=r->r=(0,0)):=show∀r,_ by rw[<-HN.out];exact HEND.out
 clear HST HMA HEND
 generalize hA:wrL l=ANS at HST' HMA'⊢
 clear hA;obtain⟨W0,hW0⟩:∃W0,w.alloc (.cells #[.int .i64 0,.int .i64 0] 167)=W0:=⟨_,rfl⟩;have HG0:=gA hW0
 have X0:=xA hW0
 have HW0:Hid (_=W0):=hW0;clear hW0
 by_cases hmany:16<n
 ·have HR:Hid (ANS=(4,0)):=HMA'.out hmany;have hmz:(16:Int)< (n:Int):=by omega
  go_enter Tryz.func100,Tryz.ntmps100
  go_upto_region 1 with fail;rw[HW0.out];have f0:=X0.out.c 0 rfl;have f1:=X0.out.c 1 rfl;have ff:=X0.out.f;have RB:Hid (Box ((W0.setCell ⟨w.heap.size,0,none⟩ (.int .i64 4)).setCell ⟨w.heap.size,1,none⟩ (.int .i64 0)) w.heap.size [.int .i64 4,.int .i64 0]):=show Box _ _ _ from(X0.out.set 0 _).set 1 _
  have RG:Hid (Grew w ((W0.setCell ⟨w.heap.size,0,none⟩ (.int .i64 4)).setCell ⟨w.heap.size,1,none⟩ (.int .i64 0))):=show Grew _ _ from grew_set (grew_set HG0.out (by simp) _) (by simp) _
  go_wp2;refine bodyPost_ret (ret_cell (vs:=[.int .i64 4,.int .i64 0]) rfl _ rfl RB.out Tryz.underlying167 rfl Tryz.sizeFault) rfl ⟨?_,RG.out⟩;rw[HR.out]
 have hmz:¬(16:Int)< (n:Int):=by omega
 have HI:Hid (wrGo (prevO l 0) (l.drop 0) 0=ANS):=HST'.out hmany
 go_enter Tryz.func100,Tryz.ntmps100
 go_upto_region 1 with fail;rw[HW0.out];go_wp2
 go_loopg [12] n (fun gg s12 wr=>∃kk:Nat,kk<=n/\n - kk<=gg/\s12= .int .i64 kk/\Hid (Grew w wr)/\Hid (Box wr w.heap.size [.int .i64 0,.int .i64 0])/\Hid (wrGo (prevO l kk) (l.drop kk) kk=ANS)/\Hid (∀(j:Nat) q,j<kk->l[j]? =some q->ArOk q))
 case atStart=>exact⟨0,nZ _,by omega,rfl,HG0.out,X0.out,HI.out,fun j q hj=>absurd hj (nL _)⟩
 obtain⟨kk,hkk,hg,rfl,BW,FW,IW,OW⟩:=hrel
 by_cases hlt:kk<n
 ·have hltz:(kk:Int)< (n:Int):=by omega
  obtain⟨q,HQ⟩:∃q,Hid (l[kk]? =some q):=⟨_,gE (by rw[HN.out];exact hlt)⟩
  obtain⟨ad,rfl,hl⟩:=HR'.out kk q HQ.out;obtain⟨d0,d1,d2,d3,d4,d5,d6⟩:=hl wr BW.out;have HL:Hid (w.heap.size<wr.heap.size):=FW.out.lt;obtain⟨p,HP⟩:∃p,Hid (wr.heap.size=p):=⟨_,rfl⟩;have HLP:Hid (w.heap.size<p):=show _<_ by rw[<-HP.out];exact HL.out
  clear hl HL;go_upto_region 6 with fail;obtain⟨W1,hW1⟩:∃W1,wr.alloc (.cells #[.int .i64 q.fr,.int .i64 q.tz,.bool q.rd,.bool q.wr,.bool q.sh,.int .i64 q.file,.int .i64 q.base] 69)=W1:=⟨_,rfl⟩;have G1:=gT hW1 BW
  have F1:=yA hW1 FW
  have P1:=xP hW1 HP
  rw[hW1,HP.out];clear hW1 d0 d1 d2 d3 d4 d5 d6
  go_wp2_with (refine wp_loadAll rfl 69 (.tmp 4) rfl p rfl P1.out Tryz.underlying69 rfl Tryz.sizeArea ?_)
  refine(hwa.out q _).mono ?_;rintro e W2 ⟨rfl,g2⟩;have G2:=dD (G1.out.trans g2);have F2:=dD (F1.out.grew g2);have P2:=dD (P1.out.grew g2);clear g2;have hpne:p≠w.heap.size:=by have:=HLP.out;omega
  have hpne':w.heap.size≠p:=by have:=HLP.out;omega
  by_cases hz:arW q=0
  ·have HZ:Hid (arW q=0):=hz;have hzb:(arW q != 0)=false:=by simp[hz]
   have HOK:Hid (ArOk q):=arW_zero.1 hz;have OW':Hid (∀(j:Nat) x,j<kk+1->l[j]? =some x->ArOk x):=show∀(j:Nat) x,_ from fun j x hj hx=>by
    by_cases e:j=kk
    ·subst e;rw[HQ.out]at hx;cases hx;exact HOK.out
    exact OW.out j x (by omega) hx
   clear hz;go_upto_region 9 with fail
   generalize arW q=zq
   cases kk with
   | zero=>
    have HNX:Hid (wrGo (prevO l 1) (l.drop 1) 1=ANS):=wrn_first IW.out HQ.out HZ.out;have hz0:¬(0:Int)< ((0:Nat):Int):=by decide
    have hz1:decide ((0:Int)< ((0:Nat):Int))=false:=by decide
    go_quiet (fail);go_wp2
    go_roundg (n - 1)
    case measure=>omega
    exact⟨1,by omega,by omega,by go_num,G2.out.trans (show Below _ _ _ from bD (bR _ _) _),F2.out.grew (show Below _ _ _ from bD (bR _ _) _),HNX.out,OW'.out⟩
   | succ j=>
    obtain⟨b,HB⟩:∃b,Hid (l[j]? =some b):=⟨_,gE (by rw[HN.out];omega)⟩
    have HBK:Hid (ArOk b):=OW.out j b (by omega) HB.out
    have hz0:(0:Int)< ((j+1:Nat):Int):=by omega
    have hz1:decide ((0:Int)< ((j+1:Nat):Int))=true:=by simp
    have hj1:((j+1:Nat):Int) - 1=(j:Int):=by omega
    have hjn:(j:Int)< (n:Int):=by omega
    obtain⟨ad',had,hl⟩:=HR'.out j b HB.out;obtain rfl:ad=ad':=by cases had;rfl
    by_cases hc:q.fr<b.tz
    ·have HR:Hid (ANS=(2,((j+1:Nat):Int))):=wrn_form IW.out HB.out HQ.out HZ.out (.inl hc);have hcd:decide (q.fr<b.tz)=true:=by simpa using hc
     obtain⟨e0,e1,e2,e3,e4,e5,e6⟩:=hl W2 G2.out;have p0:=P2.out.c 0 rfl;clear hl;go_quiet (fail);obtain⟨W3,hW3⟩:∃W3,W2.drewN nq=W3:=⟨_,rfl⟩;have G3:Hid (Grew w W3):=show Grew _ _ by rw[<-hW3];exact G2.out.trans (show Below _ _ _ from bD (bR _ _) _)
     have F3:Hid (Box W3 w.heap.size [.int .i64 0,.int .i64 0]):=show Box _ _ _ by rw[<-hW3];exact F2.out.grew (show Below _ _ _ from bD (bR _ _) _)
     rw[hW3];clear hW3 e0 e1 e2 e3 e4 e5 e6 p0;have f0:=F3.out.c 0 rfl;have f1:=F3.out.c 1 rfl;have ff:=F3.out.f;have RB:Hid (Box ((W3.setCell ⟨w.heap.size,0,none⟩ (.int .i64 2)).setCell ⟨w.heap.size,1,none⟩ (.int .i64 ((j+1:Nat):Int))) w.heap.size [.int .i64 2,.int .i64 ((j+1:Nat):Int)]):=show Box _ _ _ from(F3.out.set 0 _).set 1 _
     have RG:Hid (Grew w ((W3.setCell ⟨w.heap.size,0,none⟩ (.int .i64 2)).setCell ⟨w.heap.size,1,none⟩ (.int .i64 ((j+1:Nat):Int)))):=show Grew _ _ from grew_set (grew_set G3.out (by simp) _) (by simp) _
     go_wp2;refine bodyPost_ret (ret_cell (vs:=[.int .i64 2,.int .i64 ((j+1:Nat):Int)]) rfl _ rfl RB.out Tryz.underlying167 rfl Tryz.sizeFault) rfl ⟨?_,RG.out⟩;rw[HR.out]
    have hcd:decide (q.fr<b.tz)=false:=by simpa using hc
    have HC:Hid (¬q.fr<b.tz):=hc;have hx0:=P2.out.gw 0 rfl
    have hx1:=P2.out.gw 1 rfl
    have hx2:=P2.out.gw 2 rfl
    have hx3:=P2.out.gw 3 rfl
    have hx4:=P2.out.gw 4 rfl
    have hx5:=P2.out.gw 5 rfl
    have hx6:=P2.out.gw 6 rfl
    have hy0:∀y:GrownW W2,y.world.cell? (ad.add (j*7))=some (.int .i64 b.fr):=fun y=>(hl _ (G2.out.trans y.grew)).1
    have hy1:∀y:GrownW W2,y.world.cell? { block:=(ad.add (j*7)).block,off:=(ad.add (j*7)).off+1 }=some (.int .i64 b.tz):=fun y=>(hl _ (G2.out.trans y.grew)).2.1
    have hy2:∀y:GrownW W2,y.world.cell? { block:=(ad.add (j*7)).block,off:=(ad.add (j*7)).off+2 }=some (.bool b.rd):=fun y=>(hl _ (G2.out.trans y.grew)).2.2.1
    have hy3:∀y:GrownW W2,y.world.cell? { block:=(ad.add (j*7)).block,off:=(ad.add (j*7)).off+3 }=some (.bool b.wr):=fun y=>(hl _ (G2.out.trans y.grew)).2.2.2.1
    have hy4:∀y:GrownW W2,y.world.cell? { block:=(ad.add (j*7)).block,off:=(ad.add (j*7)).off+4 }=some (.bool b.sh):=fun y=>(hl _ (G2.out.trans y.grew)).2.2.2.2.1
    have hy5:∀y:GrownW W2,y.world.cell? { block:=(ad.add (j*7)).block,off:=(ad.add (j*7)).off+5 }=some (.int .i64 b.file):=fun y=>(hl _ (G2.out.trans y.grew)).2.2.2.2.2.1
    have hy6:∀y:GrownW W2,y.world.cell? { block:=(ad.add (j*7)).block,off:=(ad.add (j*7)).off+6 }=some (.int .i64 b.base):=fun y=>(hl _ (G2.out.trans y.grew)).2.2.2.2.2.2
    have hne:Nonempty (GrownW W2):=⟨⟨_,Grew.refl _⟩⟩;have HSL:Hid (∀W,Grew w W->RowAt arE W (.slice (some (ad.add (j*7))) 2 (c - j)) [b,q]):=fun W hW=>sub_two (HV.out.grew hW) HB.out HQ.out
    have hsl:=fun W=>run_slice2 (w:=W) (ad:=ad) (n:=n) (c:=c) (j:=j) (by omega)
    obtain⟨M,HM⟩:∃M,Hid ((joinL (onAt [b,q])).length=M):=⟨_,rfl⟩;have HTG:Hid (decide (M<2)=goB q b):=show _=_ by rw[<-HM.out];exact two_go HBK.out HOK.out (by have:=HC.out;omega)
    have HF2:Hid (b.tz<=q.fr):=show _<=_ by have:=HC.out;omega
    clear hl;obtain⟨O2,HO2⟩:∃O2,Hid (cellsO (tab (onAt [b,q]))=O2):=⟨_,rfl⟩;refine wp_lax [(19,⟨fun v=>v= .agg O2.toArray,fun _ _=>True⟩),(20,⟨fun v=>∃xa xc,v= .slice xa M xc,fun _ _=>True⟩)] mixed (by kernel_rfl) ?_ ?_ ?_
    ·intro x hx
     simp at hx
     rcases hx with rfl | rfl
     ·exact⟨_,rfl⟩
     exact⟨.slice none M 0,none,0,rfl⟩
    ·intro x hx
     simp at hx
     rcases hx with rfl | rfl
     ·exact fun _ _ _ _ h=>h
     exact fun _ _ _ _ h=>h
    iterate 19 (refine lax_quiet rfl rfl rfl (fun K hK=>?_);go_big_quiet_op;refine hK _ ?_;clear hK K)
    refine lax_spec rfl rfl (fun w' hg hF=>?_) (fun v1 hv=>?_)
    ·refine Does.call [.slice (some (ad.add (j*7))) 2 (c - j)] rfl Tryz.func41 rfl rfl rfl ?_;refine(h1.out b q _ w' (HSL.out w' (G2.out.trans hg)) HBK.out HOK.out HF2.out).mono ?_;rintro e w'' ⟨rfl,hg2⟩;exact⟨_,rfl,hg2,by rw[HO2.out],trivial⟩
    subst hv;simp only[Act.put,sB,sS,sZ];refine lax_spec rfl rfl (fun w' hg hF=>?_) (fun v1 hv=>?_)
    ·refine Does.call [.agg O2.toArray] rfl Tryz.func145 rfl rfl rfl ?_;rw[<-HO2.out];refine(h2.out b q w' HBK.out HOK.out HF2.out).mono ?_;rintro e w'' ⟨⟨xa,xc,rfl⟩,hg2⟩;exact⟨_,rfl,hg2,⟨xa,xc,by rw[HM.out]⟩,trivial⟩
    obtain⟨xa2,xc2,rfl⟩:=hv;simp only[Act.put,sB,sS,sZ];have hmz:decide ((M:Int)<2)=goB q b:=by rw[<-HTG.out];exact decide_eq_decide.2 (by omega)
    iterate 4 (refine lax_quiet rfl rfl rfl (fun K hK=>?_);go_big_quiet_op;refine hK _ ?_;clear hK K)
    refine lax_nil fun W3 hg1 hF=>?_
    have G3:=dD (G2.out.trans hg1);have F3:=dD (F2.out.grew hg1);clear hmz hsl hg1 hF hx0 hx1 hx2 hx3 hx4 hx5 hx6 hy0 hy1 hy2 hy3 hy4 hy5 hy6 hne
    cases hgb:goB q b with
    | true=>
     have HR:Hid (ANS=(2,((j+1:Nat):Int))):=wrn_form IW.out HB.out HQ.out HZ.out (.inr hgb);clear hgb;have f0:=F3.out.c 0 rfl;have f1:=F3.out.c 1 rfl;have ff:=F3.out.f;have RB:Hid (Box ((W3.setCell ⟨w.heap.size,0,none⟩ (.int .i64 2)).setCell ⟨w.heap.size,1,none⟩ (.int .i64 ((j+1:Nat):Int))) w.heap.size [.int .i64 2,.int .i64 ((j+1:Nat):Int)]):=show Box _ _ _ from(F3.out.set 0 _).set 1 _
     have RG:Hid (Grew w ((W3.setCell ⟨w.heap.size,0,none⟩ (.int .i64 2)).setCell ⟨w.heap.size,1,none⟩ (.int .i64 ((j+1:Nat):Int)))):=show Grew _ _ from grew_set (grew_set G3.out (by simp) _) (by simp) _
     go_wp2;refine bodyPost_ret (ret_cell (vs:=[.int .i64 2,.int .i64 ((j+1:Nat):Int)]) rfl _ rfl RB.out Tryz.underlying167 rfl Tryz.sizeFault) rfl ⟨?_,RG.out⟩;rw[HR.out]
    | false=>
     have HNX:Hid (wrGo (prevO l (j+1+1)) (l.drop (j+1+1)) (j+1+1)=ANS):=wrn_next IW.out HB.out HQ.out HZ.out HC.out hgb;clear hgb;go_wp2
     go_roundg (n -(j+1+1))
     case measure=>omega
     exact⟨j+1+1,by omega,by omega,by go_num,G3.out,F3.out,HNX.out,OW'.out⟩
  have HR:Hid (ANS=(arW q,(kk:Int))):=wrn_bad IW.out HQ.out hz;have hzb:(arW q != 0)=true:=by simp[hz]
  clear hz;have f0:=F2.out.c 0 rfl;have f1:=F2.out.c 1 rfl;have ff:=F2.out.f;have RB:Hid (Box ((W2.setCell ⟨w.heap.size,0,none⟩ (.int .i64 (arW q))).setCell ⟨w.heap.size,1,none⟩ (.int .i64 (kk:Int))) w.heap.size [.int .i64 (arW q),.int .i64 (kk:Int)]):=show Box _ _ _ from(F2.out.set 0 _).set 1 _
  have RG:Hid (Grew w ((W2.setCell ⟨w.heap.size,0,none⟩ (.int .i64 (arW q))).setCell ⟨w.heap.size,1,none⟩ (.int .i64 (kk:Int)))):=show Grew _ _ from grew_set (grew_set G2.out (by simp) _) (by simp) _
  go_wp2;refine bodyPost_ret (ret_cell (vs:=[.int .i64 (arW q),.int .i64 (kk:Int)]) rfl _ rfl RB.out Tryz.underlying167 rfl Tryz.sizeFault) rfl ⟨?_,RG.out⟩;rw[HR.out]
 have hltz:¬(kk:Int)< (n:Int):=by omega
 have:kk=n:=by omega
 subst this;have HR:Hid (ANS=(0,0)):=HEND'.out _ IW.out;have f0:=FW.out.c 0 rfl;have f1:=FW.out.c 1 rfl;have ff:=FW.out.f;have RB:Hid (Box ((wr.setCell ⟨w.heap.size,0,none⟩ (.int .i64 0)).setCell ⟨w.heap.size,1,none⟩ (.int .i64 0)) w.heap.size [.int .i64 0,.int .i64 0]):=show Box _ _ _ from(FW.out.set 0 _).set 1 _
 have RG:Hid (Grew w ((wr.setCell ⟨w.heap.size,0,none⟩ (.int .i64 0)).setCell ⟨w.heap.size,1,none⟩ (.int .i64 0))):=show Grew _ _ from grew_set (grew_set BW.out (by simp) _) (by simp) _
 go_wp2;refine bodyPost_ret (ret_cell (vs:=[.int .i64 0,.int .i64 0]) rfl _ rfl RB.out Tryz.underlying167 rfl Tryz.sizeFault) rfl ⟨?_,RG.out⟩;rw[HR.out]
theorem Does.allocOnes {o:Oper} {a:Act} {w:World} {K:Value->World->Prop} (ho:o.op= .alloc 97) (h:K (.pointer (some ⟨w.heap.size,0,none⟩)) (w.alloc (.cells (cellsO (tab fun _=>on0)).toArray 97))):Does Tryz.prog o a w K:=by
 have hz:=run_zeroO w
 generalize cellsO (tab fun _=>on0)=Z at hz h
 unfold Does;have:(execOp a.eval o).run Tryz.prog w= .ok (.value (.pointer (some ⟨w.heap.size,0,none⟩))) (w.alloc (.cells Z.toArray 97)):=by
  simp[execOp,ho,go_sem,hz]
 rw[this];exact h
theorem Does.oneArea {o:Oper} {a:Act} {w:World} {K:Value->World->Prop} (x:Operand) (ho:o.op= .buildSlice 60 1 #[(0,x)]) (q:Ar) (hx:a.eval x=arA q) (h:K (.slice (some ⟨w.heap.size,0,none⟩) 1 1) (w.alloc (.cells (arv q).toArray 69))):Does Tryz.prog o a w K:=by
 unfold Does;have:(execOp a.eval o).run Tryz.prog w= .ok (.value (.slice (some ⟨w.heap.size,0,none⟩) 1 1)) (w.alloc (.cells (arv q).toArray 69)):=by
  simp only[execOp,ho,List.map_toArray,mP,List.map_nil,hx]
  simp[go_sem,arA,arv]
 rw[this];exact h
theorem Does.val {o:Oper} {a:Act} {w:World} {K:Value->World->Prop} {v:Value} (hr:(execOp a.eval o).run Tryz.prog w= .ok (.value v) w) (h:K v w):Does Tryz.prog o a w K:=by
 unfold Does;rw[hr];exact h
theorem run_loadA {a:Act} {o:Oper} (x:Operand) (ho:o.op= .load 69 x) (b:Nat) (hx:a.eval x= .pointer (some ⟨b,0,none⟩)) {q:Ar} {w:World} (hb:Box w b (arv q)):(execOp a.eval o).run Tryz.prog w= .ok (.value (arA q)) w:=by
 have:=run_loadAt_mid (P:=Tryz.prog) w b 0 69 (arv q) _ hb.range Tryz.underlying69 rfl Tryz.sizeArea;simp only[execOp,ho,hx,Sem.run_bind,this,rA,Sem.run_pure];rfl
def mapOps:List Oper:=[
 { dst := some 23, op := .move (.tmp 0), type := 60, pos := "ref.go:325", after := #[], guard := none },
 { dst := some 24, op := .call { callee := .value (.func 41), args := #[.tmp 23], argTypes := #[60] }, type := 97, pos := "ref.go:325", after := #[{ on := 0, ground := .data }], guard := none },
 { dst := some 25, op := .load 69 (.tmp 3), type := 69, pos := "ref.go:325", after := #[], guard := none },
 { dst := some 26, op := .buildSlice 60 1 #[(0, .tmp 25)], type := 60, pos := "ref.go:325", after := #[{ on := 2, ground := .data }], guard := none },
 { dst := some 27, op := .call { callee := .value (.func 41), args := #[.tmp 26], argTypes := #[60] }, type := 97, pos := "ref.go:325", after := #[{ on := 3, ground := .data }, { on := 1, ground := .chain }], guard := none },
 { dst := some 8, op := .alloc 97, type := 0, pos := "ref.go:325", after := #[], guard := none },
 { dst := some 9, op := .alloc 97, type := 0, pos := "ref.go:325", after := #[], guard := none },
 { dst := none, op := .store 97 (.tmp 8) (.tmp 24), type := 0, pos := "ref.go:325", after := #[{ on := 5, ground := .data }, { on := 1, ground := .data }, { on := 4, ground := .chain }, { on := 0, ground := .phase }, { on := 1, ground := .phase }, { on := 2, ground := .textOnly .lateStores }, { on := 3, ground := .textOnly .lateStores }, { on := 4, ground := .textOnly .lateStoresUnsure }, { on := 5, ground := .phase }, { on := 6, ground := .phase }], guard := none },
 { dst := none, op := .store 97 (.tmp 9) (.tmp 27), type := 0, pos := "ref.go:325", after := #[{ on := 6, ground := .data }, { on := 4, ground := .data }, { on := 7, ground := .chain }, { on := 0, ground := .phase }, { on := 1, ground := .phase }, { on := 2, ground := .phase }, { on := 3, ground := .phase }, { on := 4, ground := .phase }, { on := 5, ground := .phase }, { on := 6, ground := .phase }, { on := 7, ground := .phase }], guard := none }]
theorem map_some:∀l0 l1 l2 l3 l4 l5 l6:Bool,(Region.ready .any mapOps.toArray #[l0,l1,l2,l3,l4,l5,l6,false,false]).isEmpty=false\/(l4=true/\(l1=false\/l3=false))\/(l1=true/\l0=false)\/(l3=true/\l2=false):=by decide+kernel
theorem map_nextB:∀l0 l1 l2 l3 l4 l5 l6:Bool,(!((!l1 || l0) &&(!l3 || l2) &&(!l4 || (l1 && l3))) || (Region.ready .any mapOps.toArray #[l0,l1,l2,l3,l4,l5,l6,false,false]).all fun i=>(i == 0 && !l0) || (i == 1 && !l1 && l0) || (i == 2 && !l2) || (i == 3 && !l3 && l2) || (i == 4 && !l4 && l1 && l3) || (i == 5 && !l5) || (i == 6 && !l6) || (i == 7 && l0 && l1 && l2 && l3 && l4 && l5 && l6))=true:=by decide+kernel
theorem map_next (l0 l1 l2 l3 l4 l5 l6:Bool) (i:Nat) (c1:l1=true->l0=true) (c3:l3=true->l2=true) (c4:l4=true->l1=true/\l3=true) (hi:i∈Region.ready .any mapOps.toArray #[l0,l1,l2,l3,l4,l5,l6,false,false]):(i=0/\l0=false)\/(i=1/\l1=false/\l0=true)\/(i=2/\l2=false)\/(i=3/\l3=false/\l2=true)\/(i=4/\l4=false/\l1=true/\l3=true)\/(i=5/\l5=false)\/(i=6/\l6=false)\/(i=7/\l0=true/\l1=true/\l2=true/\l3=true/\l4=true/\l5=true/\l6=true):=by
 have hc:((!l1 || l0) &&(!l3 || l2) &&(!l4 || (l1 && l3)))=true:=by
  cases l0 <;> cases l1 <;> cases l2 <;> cases l3 <;> cases l4 <;> simp at c1 c3 c4⊢
 have hb:=map_nextB l0 l1 l2 l3 l4 l5 l6;rw[hc,Bool.not_true,Bool.false_or]at hb;have h:=List.all_eq_true.1 hb i hi
 simpa [and_assoc,or_assoc]using h
structure MapInv (W0:World) (v:Value) (q:Ar) (O1 O2 Z0:List Value) (l0 l1 l2 l3 l4 l5 l6:Bool) (t23 t24 t25 t26 t27 t8 t9:Value) (W:World):Prop where
 g:Grew W0 W
 h0:l0=true->t23=v
 h1:l1=true->t24= .agg O1.toArray
 h2:l2=true->t25=arA q
 h3:l3=true->RowAt arE W t26 [q]
 h4:l4=true->t27= .agg O2.toArray
 h5:l5=true->∃b,t8= .pointer (some ⟨b,0,none⟩)/\Box W b Z0/\W0.heap.size<=b
 h6:l6=true->∃b,t9= .pointer (some ⟨b,0,none⟩)/\Box W b Z0/\W0.heap.size<=b
 ne:l5=true->l6=true->t8≠t9
 c1:l1=true->l0=true
 c3:l3=true->l2=true
 c4:l4=true->l1=true/\l3=true
section
variable{W0:World} {v:Value} {q:Ar} {O1 O2 Z0:List Value} {l0 l1 l2 l3 l4 l5 l6:Bool} {t23 t24 t25 t26 t27 t8 t9:Value} {W W':World}
theorem MapInv.grew (h:MapInv W0 v q O1 O2 Z0 l0 l1 l2 l3 l4 l5 l6 t23 t24 t25 t26 t27 t8 t9 W) (k:Grew W W'):MapInv W0 v q O1 O2 Z0 l0 l1 l2 l3 l4 l5 l6 t23 t24 t25 t26 t27 t8 t9 W':=
 ⟨h.g.trans k,h.h0,h.h1,h.h2,fun e=>(h.h3 e).grew k,h.h4,fun e=>by obtain⟨b,x,y,z⟩:=h.h5 e;exact⟨b,x,y.grew k,z⟩,fun e=>by obtain⟨b,x,y,z⟩:=h.h6 e;exact⟨b,x,y.grew k,z⟩,h.ne,h.c1,h.c3,h.c4⟩
def mapLeft (l0 l1 l2 l3 l4 l5 l6:Bool):Nat:=(!l0).toNat+(!l1).toNat+(!l2).toNat+(!l3).toNat+(!l4).toNat+(!l5).toNat+(!l6).toNat
theorem map_region {id:Nat} {Q:Exit->Act->World->Prop} {pa:Nat} {l:List Ar} (A:Value->Value->Value->Value->Value->Value->Value->Act)
  (e0:∀x23 x24 x25 x26 x27 x8 x9,(A x23 x24 x25 x26 x27 x8 x9).eval (.tmp 0)=v) (e3:∀x23 x24 x25 x26 x27 x8 x9,(A x23 x24 x25 x26 x27 x8 x9).eval (.tmp 3)= .pointer (some ⟨pa,0,none⟩))
  (e23:∀x23 x24 x25 x26 x27 x8 x9,(A x23 x24 x25 x26 x27 x8 x9).eval (.tmp 23)=x23) (e24:∀x23 x24 x25 x26 x27 x8 x9,(A x23 x24 x25 x26 x27 x8 x9).eval (.tmp 24)=x24) (e25:∀x23 x24 x25 x26 x27 x8 x9,(A x23 x24 x25 x26 x27 x8 x9).eval (.tmp 25)=x25) (e26:∀x23 x24 x25 x26 x27 x8 x9,(A x23 x24 x25 x26 x27 x8 x9).eval (.tmp 26)=x26) (e27:∀x23 x24 x25 x26 x27 x8 x9,(A x23 x24 x25 x26 x27 x8 x9).eval (.tmp 27)=x27) (e8:∀x23 x24 x25 x26 x27 x8 x9,(A x23 x24 x25 x26 x27 x8 x9).eval (.tmp 8)=x8) (e9:∀x23 x24 x25 x26 x27 x8 x9,(A x23 x24 x25 x26 x27 x8 x9).eval (.tmp 9)=x9)
  (p23:∀x23 x24 x25 x26 x27 x8 x9 y,(A x23 x24 x25 x26 x27 x8 x9).put (some 23) y=A y x24 x25 x26 x27 x8 x9) (p24:∀x23 x24 x25 x26 x27 x8 x9 y,(A x23 x24 x25 x26 x27 x8 x9).put (some 24) y=A x23 y x25 x26 x27 x8 x9) (p25:∀x23 x24 x25 x26 x27 x8 x9 y,(A x23 x24 x25 x26 x27 x8 x9).put (some 25) y=A x23 x24 y x26 x27 x8 x9) (p26:∀x23 x24 x25 x26 x27 x8 x9 y,(A x23 x24 x25 x26 x27 x8 x9).put (some 26) y=A x23 x24 x25 y x27 x8 x9) (p27:∀x23 x24 x25 x26 x27 x8 x9 y,(A x23 x24 x25 x26 x27 x8 x9).put (some 27) y=A x23 x24 x25 x26 y x8 x9) (p8:∀x23 x24 x25 x26 x27 x8 x9 y,(A x23 x24 x25 x26 x27 x8 x9).put (some 8) y=A x23 x24 x25 x26 x27 y x9) (p9:∀x23 x24 x25 x26 x27 x8 x9 y,(A x23 x24 x25 x26 x27 x8 x9).put (some 9) y=A x23 x24 x25 x26 x27 x8 y)
  (pn:∀x23 x24 x25 x26 x27 x8 x9 y,(A x23 x24 x25 x26 x27 x8 x9).put none y=A x23 x24 x25 x26 x27 x8 x9)
  (hv:RowAt arE W0 v l) (hl:Lies l) (ha:ArOk q) (hb:Box W0 pa (arv q))
  (hQ:∀W b8 b9 x26,b8≠b9->Grew W0 W->Box W b8 (cellsO (tab (onAt l)))->Box W b9 (cellsO (tab (onAt [q])))->W0.heap.size<=b8->W0.heap.size<=b9->Q .normal (A v (.agg (cellsO (tab (onAt l))).toArray) (arA q) x26 (.agg (cellsO (tab (onAt [q]))).toArray) (.pointer (some ⟨b8,0,none⟩)) (.pointer (some ⟨b9,0,none⟩))) W)
  (x23 x24 x25 x26 x27 x8 x9:Value):(Code.region id mapOps.toArray true).wp Tryz.prog Q (A x23 x24 x25 x26 x27 x8 x9) W0:=by
 have hO1:(cellsO (tab (onAt l))).length=384:=tabO_len _;have hO2:(cellsO (tab (onAt [q]))).length=384:=tabO_len _;have hZ:(cellsO (tab fun _=>on0)).length=384:=tabO_len _
 have hc1:∀W,Grew W0 W->Calls Tryz.prog 41 #[v] W fun e w'=>e= .returned (.agg (cellsO (tab (onAt l))).toArray)/\Grew W w':=fun W hW=>refOnes_any v l W (hv.grew hW) hl
 have hc2:∀W u,RowAt arE W u [q]->Calls Tryz.prog 41 #[u] W fun e w'=>e= .returned (.agg (cellsO (tab (onAt [q]))).toArray)/\Grew W w':=fun W u hu=>refOnes_any u [q] W hu (lies_one ha)
 have hn1:=cellsO_one (tab (onAt l));have hn2:=cellsO_one (tab (onAt [q]));have hal:∀W:World,Box (W.alloc (.cells (cellsO (tab fun _=>on0)).toArray 97)) W.heap.size (cellsO (tab fun _=>on0)):=fun W=>Box.top _ _ _ rfl
 generalize cellsO (tab (onAt l))=O1 at*
 generalize cellsO (tab (onAt [q]))=O2 at*
 have main:∀(n:Nat) (l0 l1 l2 l3 l4 l5 l6:Bool) (x23 x24 x25 x26 x27 x8 x9:Value) (W:World),mapLeft l0 l1 l2 l3 l4 l5 l6=n->MapInv W0 v q O1 O2 (cellsO (tab fun _=>on0)) l0 l1 l2 l3 l4 l5 l6 x23 x24 x25 x26 x27 x8 x9 W->wpAnyH Tryz.prog .any mapOps.toArray Q (fun _=>True) (n+2) #[l0,l1,l2,l3,l4,l5,l6,false,false] (A x23 x24 x25 x26 x27 x8 x9) W:=by
  intro n
  induction n with
  | zero=>
   intro l0 l1 l2 l3 l4 l5 l6 x23 x24 x25 x26 x27 x8 x9 W hcnt inv;obtain⟨rfl,rfl,rfl,rfl,rfl,rfl,rfl⟩:l0=true/\l1=true/\l2=true/\l3=true/\l4=true/\l5=true/\l6=true:=by
    revert hcnt
    unfold mapLeft
    cases l0 <;> cases l1 <;> cases l2 <;> cases l3 <;> cases l4 <;> cases l5 <;> cases l6 <;> simp
   obtain⟨b8,rfl,hb8,hs8⟩:=inv.h5 rfl;obtain⟨b9,rfl,hb9,hs9⟩:=inv.h6 rfl;have hne:b8≠b9:=fun e=>inv.ne rfl rfl (by rw[e])
   obtain rfl:=inv.h0 rfl;obtain rfl:=inv.h1 rfl;obtain rfl:=inv.h2 rfl;obtain rfl:=inv.h4 rfl;refine wpAnyH_all (rs:=[7]) (by kernel_rfl) (by simp) ?_
   intro j hj;rw[List.mem_singleton]at hj;subst hj;refine wpOp_does none (fun _ w'=>Box w' b8 O1/\Box w' b9 (cellsO (tab fun _=>on0))/\Grew W0 w') rfl rfl rfl (Does.storeAll 97 (.tmp 8) (.tmp 24) rfl b8 (e8 ..) O1 (e24 ..) hb8 (by rw[hO1,hZ]) (by rw[hZ];exact Tryz.sizeOnes) hn1 (fun w' b' g' s'=>⟨b',hb9.grown g' (fun e=>hne e.symm),grew_grown inv.g g' hs8⟩)) ?_
   rintro y W1 ⟨h1,h2,h3⟩;rw[pn];refine⟨trivial,?_⟩;refine wpAnyH_all (rs:=[8]) (by kernel_rfl) (by simp) ?_
   intro j hj;rw[List.mem_singleton]at hj;subst hj;refine wpOp_does none (fun _ w'=>Box w' b8 O1/\Box w' b9 O2/\Grew W0 w') rfl rfl rfl (Does.storeAll 97 (.tmp 9) (.tmp 27) rfl b9 (e9 ..) O2 (e27 ..) h2 (by rw[hO2,hZ]) (by rw[hZ];exact Tryz.sizeOnes) hn2 (fun w' b' g' s'=>⟨h1.grown g' hne,b',grew_grown h3 g' hs9⟩)) ?_
   rintro y W2 ⟨h4,h5,h6⟩;rw[pn];refine⟨trivial,?_⟩;exact wpAnyH_done (by kernel_rfl) (hQ W2 b8 b9 _ hne h6 h4 h5 hs8 hs9) _
  | succ n ih=>
   intro l0 l1 l2 l3 l4 l5 l6 x23 x24 x25 x26 x27 x8 x9 W hcnt inv;refine⟨fun h0=>?_,fun i hi=>?_⟩
   ·rcases map_some l0 l1 l2 l3 l4 l5 l6 with h | ⟨h,h'⟩ | ⟨h,h'⟩ | ⟨h,h'⟩
    ·rw[h0]at h;cases h
    ·have:=inv.c4 h
     rcases h' with h' | h'
     ·rw[this.1]at h';cases h'
     rw[this.2]at h';cases h'
    ·rw[inv.c1 h]at h';cases h'
    rw[inv.c3 h]at h';cases h'
   rcases map_next l0 l1 l2 l3 l4 l5 l6 i inv.c1 inv.c3 inv.c4 hi with⟨rfl,rfl⟩ | ⟨rfl,rfl,rfl⟩ | ⟨rfl,rfl⟩ | ⟨rfl,rfl,rfl⟩ | ⟨rfl,rfl,rfl,rfl⟩ | ⟨rfl,rfl⟩ | ⟨rfl,rfl⟩ | ⟨rfl,rfl,rfl,rfl,rfl,rfl,rfl,rfl⟩
   ·refine wpOp_does (some 23) (fun y w'=>y=v/\w'=W) rfl rfl rfl (Does.val (v:=v) (by rw[<-e0 x23 x24 x25 x26 x27 x8 x9];rfl) ⟨rfl,rfl⟩) ?_
    rintro y w' ⟨rfl,rfl⟩;rw[p23];refine⟨trivial,ih true l1 l2 l3 l4 l5 l6 _ _ _ _ _ _ _ _ (by unfold mapLeft at hcnt⊢;simp at hcnt⊢;omega) ⟨inv.g,fun _=>rfl,inv.h1,inv.h2,inv.h3,inv.h4,inv.h5,inv.h6,inv.ne,fun _=>rfl,inv.c3,inv.c4⟩⟩
   ·refine wpOp_does (some 24) (fun y w'=>y= .agg O1.toArray/\Grew W w') rfl rfl rfl (Does.call [v] rfl Tryz.func41 rfl rfl (by rw[mP,List.map_nil,e23,inv.h0 rfl]) ((hc1 W inv.g).mono (fun e w' h=>⟨_,h.1,rfl,h.2⟩))) ?_
    rintro y w' ⟨rfl,hg⟩;rw[p24];have inv':=inv.grew hg;refine⟨trivial,ih true true l2 l3 l4 l5 l6 _ _ _ _ _ _ _ _ (by unfold mapLeft at hcnt⊢;simp at hcnt⊢;omega) ⟨inv'.g,inv'.h0,fun _=>rfl,inv'.h2,inv'.h3,inv'.h4,inv'.h5,inv'.h6,inv'.ne,fun _=>rfl,inv'.c3,fun h=>⟨rfl,(inv'.c4 h).2⟩⟩⟩
   ·refine wpOp_does (some 25) (fun y w'=>y=arA q/\w'=W) rfl rfl rfl (Does.val (v:=arA q) (run_loadA (.tmp 3) rfl pa (e3 ..) (hb.grew inv.g)) ⟨rfl,rfl⟩) ?_
    rintro y w' ⟨rfl,rfl⟩;rw[p25];refine⟨trivial,ih l0 l1 true l3 l4 l5 l6 _ _ _ _ _ _ _ _ (by unfold mapLeft at hcnt⊢;simp at hcnt⊢;omega) ⟨inv.g,inv.h0,inv.h1,fun _=>rfl,inv.h3,inv.h4,inv.h5,inv.h6,inv.ne,inv.c1,fun _=>rfl,inv.c4⟩⟩
   ·refine wpOp_does (some 26) (fun y w'=>RowAt arE w' y [q]/\Grew W w') rfl rfl rfl (Does.oneArea (.tmp 25) rfl q (by rw[e25,inv.h2 rfl]) ⟨one_row arE W q _ _ rfl (by show 40<=_;omega),grew_alloc _ _⟩) ?_
    rintro y w' ⟨hr,hg⟩;rw[p26];have inv':=inv.grew hg;refine⟨trivial,ih l0 l1 true true l4 l5 l6 _ _ _ _ _ _ _ _ (by unfold mapLeft at hcnt⊢;simp at hcnt⊢;omega) ⟨inv'.g,inv'.h0,inv'.h1,inv'.h2,fun _=>hr,inv'.h4,inv'.h5,inv'.h6,inv'.ne,inv'.c1,fun _=>rfl,fun h=>⟨(inv'.c4 h).1,rfl⟩⟩⟩
   ·refine wpOp_does (some 27) (fun y w'=>y= .agg O2.toArray/\Grew W w') rfl rfl rfl (Does.call [x26] rfl Tryz.func41 rfl rfl (by rw[mP,List.map_nil,e26]) ((hc2 W x26 (inv.h3 rfl)).mono (fun e w' h=>⟨_,h.1,rfl,h.2⟩))) ?_
    rintro y w' ⟨rfl,hg⟩;rw[p27];have inv':=inv.grew hg;refine⟨trivial,ih l0 true l2 true true l5 l6 _ _ _ _ _ _ _ _ (by unfold mapLeft at hcnt⊢;simp at hcnt⊢;omega) ⟨inv'.g,inv'.h0,inv'.h1,inv'.h2,inv'.h3,fun _=>rfl,inv'.h5,inv'.h6,inv'.ne,inv'.c1,inv'.c3,fun _=>⟨rfl,rfl⟩⟩⟩
   ·refine wpOp_does (some 8) (fun y w'=>y= .pointer (some ⟨W.heap.size,0,none⟩)/\Box w' W.heap.size (cellsO (tab fun _=>on0))/\Grew W w') rfl rfl rfl (Does.allocOnes rfl ⟨rfl,hal W,grew_alloc _ _⟩) ?_
    rintro y w' ⟨rfl,hbx,hg⟩;rw[p8];have inv':=inv.grew hg;refine⟨trivial,ih l0 l1 l2 l3 l4 true l6 _ _ _ _ _ _ _ _ (by unfold mapLeft at hcnt⊢;simp at hcnt⊢;omega) ⟨inv'.g,inv'.h0,inv'.h1,inv'.h2,inv'.h3,inv'.h4,fun _=>⟨_,rfl,hbx,bS inv.g⟩,inv'.h6,fun _ h6=>?_,inv'.c1,inv'.c3,inv'.c4⟩⟩
    obtain⟨b,rfl,h2,_⟩:=inv.h6 h6;intro e;cases e;exact absurd h2.lt (Nat.lt_irrefl _)
   ·refine wpOp_does (some 9) (fun y w'=>y= .pointer (some ⟨W.heap.size,0,none⟩)/\Box w' W.heap.size (cellsO (tab fun _=>on0))/\Grew W w') rfl rfl rfl (Does.allocOnes rfl ⟨rfl,hal W,grew_alloc _ _⟩) ?_
    rintro y w' ⟨rfl,hbx,hg⟩;rw[p9];have inv':=inv.grew hg;refine⟨trivial,ih l0 l1 l2 l3 l4 l5 true _ _ _ _ _ _ _ _ (by unfold mapLeft at hcnt⊢;simp at hcnt⊢;omega) ⟨inv'.g,inv'.h0,inv'.h1,inv'.h2,inv'.h3,inv'.h4,inv'.h5,fun _=>⟨_,rfl,hbx,bS inv.g⟩,fun h5 _=>?_,inv'.c1,inv'.c3,inv'.c4⟩⟩
    obtain⟨b,rfl,h2,_⟩:=inv.h5 h5;intro e;cases e;exact absurd h2.lt (Nat.lt_irrefl _)
   unfold mapLeft at hcnt
   simp at hcnt
 refine wp_region_held (S:=fun _=>True) mixed ?_
 have hd:Grew W0 { W0 with drawn:=W0.drawn+1 }:=show Below _ _ _ from Below.drew (bR _ _)
 exact main 7 false false false false false false false x23 x24 x25 x26 x27 x8 x9 _ rfl ⟨hd,fun h=>(by cases h),fun h=>(by cases h),fun h=>(by cases h),fun h=>(by cases h),fun h=>(by cases h),fun h=>(by cases h),fun h=>(by cases h),fun h=>(by cases h),fun h=>(by cases h),fun h=>(by cases h),fun h=>(by cases h)⟩
end
def Gives (R:List Ar × Int) (w:World) (e:Ending) (w':World):Prop:=(∃u,e= .returned (.tuple #[u,.int .i64 R.2])/\OwnRow arE w.heap.size w' u R.1)/\Grew w w'
def curF (l:List Ar) (a:Ar) (k:Nat):Nat->On:=fun j=>if j<k/\arIn a j=true then oneOf a j else onAt l j
theorem cur_zero (l:List Ar) (a:Ar):curF l a 0=onAt l:=by
 funext j
 unfold curF;rw[if_neg (by omega)]
theorem cur_at (l:List Ar) (a:Ar) (k:Nat):curF l a k k=onAt l k:=by
 unfold curF;rw[if_neg (by omega)]
theorem cur_set {l:List Ar} {a:Ar} {k:Nat} (h:arIn a k=true):upd (curF l a k) k (oneOf a k)=curF l a (k+1):=by
 funext j
 unfold upd curF
 by_cases e:j=k
 ·subst e;rw[if_pos rfl,if_pos ⟨by omega,h⟩]
 rw[if_neg e]
 by_cases h1:j<k/\arIn a j=true
 ·rw[if_pos h1,if_pos ⟨by omega,h1.2⟩]
 rw[if_neg h1,if_neg (fun h2=>h1 ⟨by omega,h2.2⟩)]
theorem cur_skip {l:List Ar} {a:Ar} {k:Nat} (h:arIn a k=false):curF l a k=curF l a (k+1):=by
 funext j
 unfold curF
 by_cases h1:j<k/\arIn a j=true
 ·rw[if_pos h1,if_pos ⟨by omega,h1.2⟩]
 rw[if_neg h1]
 by_cases h2:j<k+1/\arIn a j=true
 ·have:j=k:=by
   rcases Nat.lt_or_ge j k with h3 | h3
   ·exact absurd ⟨h3,h2.2⟩ h1
   omega
  rw[this,h]at h2
  cases h2.2
 rw[if_neg h2]
theorem cur_all (l:List Ar) (a:Ar):tab (curF l a 64)=tab (mapF l a):=tab_ext fun k hk=>by
 unfold curF mapF
 by_cases h:arIn a k=true
 ·rw[if_pos ⟨hk,h⟩,if_pos h]
 rw[if_neg (fun h1=>h h1.2),if_neg h]
theorem on_one (a:Ar) (k:Nat):onAt [a] k=if arIn a k=true then oneOf a k else on0:=rfl
theorem on_one_is (a:Ar) (k:Nat):(onAt [a] k).is=arIn a k:=by
 rw[on_one]
 cases h:arIn a k with
 | true=>rfl
 | false=>rfl
theorem hit_in {l:List Ar} {a:Ar} {k:Nat} (hk:k<64) (h:arIn a k=true) (h':(onAt l k).is=true):hitB l a.fr (a.tz - a.fr)=true:=hitB_iff.2 ⟨k,hk,by have:=arIn_iff.1 h;omega,h'⟩
theorem hit_none {l:List Ar} {a:Ar} (h:∀k,k<64->arIn a k=true->(onAt l k).is=false):hitB l a.fr (a.tz - a.fr)=false:=hitB_no.2 fun k hk hw=>h k hk (arIn_iff.2 (by omega))
theorem refMap_any (v:Value) (l:List Ar) (a:Ar) (w:World) (hv:RowAt arE w v l) (hcap:Cap v):
  Calls Tryz.prog 82 #[v,.agg #[.int .i64 a.fr,.int .i64 a.tz,.bool a.rd,.bool a.wr,.bool a.sh,.int .i64 a.file,.int .i64 a.base]] w (Gives (mapA l a) w):=by
 have HV:Hid (RowAt arE w v l):=hv;have HW:Hid (∀W,Grew w W->Calls Tryz.prog 100 #[v] W fun e w'=>e= .returned (.agg #[.int .i64 (wrL l).1,.int .i64 (wrL l).2])/\Grew W w'):=fun W hW=>refWrongAr_any v l W (HV.out.grew hW) hcap
 have HWA:Hid (∀W,Calls Tryz.prog 125 #[.agg #[.int .i64 a.fr,.int .i64 a.tz,.bool a.rd,.bool a.wr,.bool a.sh,.int .i64 a.file,.int .i64 a.base]] W fun e w'=>e= .returned (.int .i64 (arW a))/\Grew W w'):=fun W=>refWrongArea_any a W
 clear hv hcap;obtain⟨W0,hW0⟩:∃W0,w.alloc (.cells #[.int .i64 a.fr,.int .i64 a.tz,.bool a.rd,.bool a.wr,.bool a.sh,.int .i64 a.file,.int .i64 a.base] 69)=W0:=⟨_,rfl⟩;have G0:=gA hW0
 have X0:=xA hW0
 have HW0:Hid (_=W0):=hW0;clear hW0
 by_cases hz:(wrL l).1=0
 ·rw[hz]at HW
  generalize(wrL l).2=I at HW
  by_cases hza:arW a=0
  ·rw[hza]at HWA;have HL:Hid (l.length<=16/\CanP none l):=wrL_zero.1 hz;have HA:Hid (ArOk a):=arW_zero.1 hza;have HR0:Hid (mapA l a=if hitB l a.fr (a.tz - a.fr)=true then([],6)else fewL (mapF l a)):=show _=_ by unfold mapA;rw[if_neg (fun h=>h hz),if_neg (fun h=>h hza)]
   have HFEW:Hid (∀W,Calls Tryz.prog 126 #[.agg (cellsO (tab (curF l a 64))).toArray] W fun e w'=>(∃u,e= .returned (.tuple #[u,.int .i64 (fewL (mapF l a)).2])/\OwnRow arE W.heap.size w' u (fewL (mapF l a)).1)/\Grew W w'):=fun W=>by
    rw[cur_all];exact refFew_any (mapF l a) W (mapF_good HL.out.2 HA.out)
   clear hz hza
   go_enter Tryz.func82,Tryz.ntmps82
   go_upto_region 1 with fail;rw[HW0.out];go_wp2_with fail;refine(HW.out W0 G0.out).mono ?_;rintro e W1 ⟨rfl,g⟩;have G1:=dD (G0.out.trans g);have X1:=dD (X0.out.grew g);clear g;obtain⟨pf,HPF⟩:∃pf,Hid (W1.heap.size=pf):=⟨_,rfl⟩;go_upto_region 2 with fail;obtain⟨W2,hWf⟩:∃W2,W1.alloc (.cells #[.int .i64 0,.int .i64 I] 167)=W2:=⟨_,rfl⟩;have G2:=gT hWf G1
   have F2:=xP hWf HPF
   have X2:=yA hWf X1
   rw[hWf,HPF.out];clear hWf;have f0:=F2.out.c 0 rfl
   go_wp2_with (refine wp_loadAll rfl 69 (.tmp 3) rfl w.heap.size rfl X2.out Tryz.underlying69 rfl Tryz.sizeArea ?_)
   refine(HWA.out W2).mono ?_;rintro e W3 ⟨rfl,g⟩;have G3:=dD (G2.out.trans g);have X3:=dD (X2.out.grew g);clear g f0;go_upto_region 7 with fail;refine map_region (v:=v) (q:=a) (pa:=w.heap.size) (l:=l) (fun x23 x24 x25 x26 x27 x8 x9=>⟨#[_,_,_,_,_,_,_,_,x8,x9,_,_,_,_,_,_,_,_,_,_,_,_,_,x23,x24,x25,x26,x27,_,_,_,_,_,_,_,_,_,_,_,_,_,_,_,_,_,_,_,_,_,_,_,_,_,_,_],[]⟩) (fun _ _ _ _ _ _ _=>rfl) (fun _ _ _ _ _ _ _=>rfl) (fun _ _ _ _ _ _ _=>rfl) (fun _ _ _ _ _ _ _=>rfl) (fun _ _ _ _ _ _ _=>rfl) (fun _ _ _ _ _ _ _=>rfl) (fun _ _ _ _ _ _ _=>rfl) (fun _ _ _ _ _ _ _=>rfl) (fun _ _ _ _ _ _ _=>rfl) (fun _ _ _ _ _ _ _ _=>rfl) (fun _ _ _ _ _ _ _ _=>rfl) (fun _ _ _ _ _ _ _ _=>rfl) (fun _ _ _ _ _ _ _ _=>rfl) (fun _ _ _ _ _ _ _ _=>rfl) (fun _ _ _ _ _ _ _ _=>rfl) (fun _ _ _ _ _ _ _ _=>rfl) (fun _ _ _ _ _ _ _ _=>rfl) (HV.out.grew G3.out) HL.out.2.lies HA.out X3.out ?_ _ _ _ _ _ _ _
   intro W4 b8 b9 x26 hbne g4 hb8 hb9 hs8 hs9;have G4:=dD (G3.out.trans g4);have B8:Hid (Box W4 b8 (cellsO (tab (curF l a 0)))):=show Box _ _ _ by rw[cur_zero];exact hb8
   have B9:Hid (Box W4 b9 (cellsO (tab (onAt [a])))):=hb9;have HS8:Hid (w.heap.size<=b8):=nT (bS G3.out) hs8;have hbne':b9≠b8:=fun e=>hbne e.symm
   have HNE:Hid (b9≠b8):=hbne';clear g4 hb8 hb9 hs8 hs9;go_wp2
   go_loopg [28] 64 (fun gg s28 wr=>∃kk:Nat,kk<=64/\64 - kk<=gg/\s28= .int .i64 kk/\Hid (Grew w wr)/\Hid (Box wr b8 (cellsO (tab (curF l a kk))))/\Hid (Box wr b9 (cellsO (tab (onAt [a]))))/\Hid (∀j:Nat,j<kk->arIn a j=true->(onAt l j).is=false))
   case atStart=>exact⟨0,nZ _,by omega,rfl,G4.out,B8.out,B9.out,fun j hj=>absurd hj (nL _)⟩
   obtain⟨kk,hkk,hg,rfl,BW,LW,RW,HH⟩:=hrel
   by_cases hlt:kk<64
   ·have hltz:(kk:Int)<64:=by omega
    have d8:=LW.out.c (kk*6) (cellsO_at (tab_at hlt) 0 (.bool (onAt l kk).is) (by rw[cur_at];rfl))
    have d9:=RW.out.c (kk*6) (cellsO_at (tab_at hlt) 0 (.bool (arIn a kk)) (by rw[<-on_one_is];rfl))
    cases hin:arIn a kk with
    | true=>
     cases his:(onAt l kk).is with
     | true=>
      have HR:Hid (mapA l a=([],6)):=show _=_ by rw[HR0.out,hit_in hlt hin his,if_pos rfl]
      rw[his]at d8;rw[hin]at d9;clear hin his;go_wp2;refine bodyPost_ret (results_tmp2 rfl _ _ _) rfl ?_;rw[HR.out];exact⟨⟨_,rfl,OwnRow.nil _ _ _⟩,BW.out⟩
     | false=>
      have HST:Hid (upd (curF l a kk) kk (oneOf a kk)=curF l a (kk+1)):=cur_set hin;have HON:Hid (onAt [a] kk=oneOf a kk):=show _=_ by rw[on_one,if_pos hin]
      have HH2:Hid (∀j:Nat,j<kk+1->arIn a j=true->(onAt l j).is=false):=show∀j:Nat,_ from fun j hj h=>by
       by_cases e:j=kk
       ·rw[e];exact his
       exact HH.out j (by omega) h
      rw[his]at d8;rw[hin]at d9;clear hin his;have HLV:Hid (Value.agg (onv (onAt [a] kk)).toArray= .agg (onv (oneOf a kk)).toArray):=show _=_ by rw[HON.out]
      go_wp2_with (first | refine wp_loadOnv rfl (.tmp 47) rfl b9 kk hlt rfl RW.out HLV.out ?_ | refine wp_storeOn rfl (.tmp 49) (.tmp 48) rfl b8 kk hlt rfl (oneOf a kk) rfl LW.out ?_)
      intro W5 b5 g5 s5;have L5:Hid (Box W5 b8 (cellsO (tab (curF l a (kk+1))))):=show Box _ _ _ by rw[<-HST.out];exact b5
      have R5:Hid (Box W5 b9 (cellsO (tab (onAt [a])))):=RW.out.grown g5 HNE.out;have G5:Hid (Grew w W5):=grew_grown BW.out g5 HS8.out;clear b5 g5 s5 d8 d9;go_wp2
      go_roundg (64 -(kk+1))
      case measure=>omega
      exact⟨kk+1,by omega,by omega,by go_num,G5.out,L5.out,R5.out,HH2.out⟩
    | false=>
     have L5:Hid (Box wr b8 (cellsO (tab (curF l a (kk+1))))):=show Box _ _ _ by rw[<-cur_skip hin];exact LW.out
     have HH2:Hid (∀j:Nat,j<kk+1->arIn a j=true->(onAt l j).is=false):=show∀j:Nat,_ from fun j hj h=>by
      by_cases e:j=kk
      ·rw[e,hin]at h;cases h
      exact HH.out j (by omega) h
     rw[hin]at d9;clear hin
     cases his:(onAt l kk).is with
     | true=>
      rw[his]at d8;clear his;go_wp2
      go_roundg (64 -(kk+1))
      case measure=>omega
      exact⟨kk+1,by omega,by omega,by go_num,BW.out,L5.out,RW.out,HH2.out⟩
     | false=>
      rw[his]at d8;clear his;go_wp2
      go_roundg (64 -(kk+1))
      case measure=>omega
      exact⟨kk+1,by omega,by omega,by go_num,BW.out,L5.out,RW.out,HH2.out⟩
   have hltz:¬(kk:Int)<64:=by omega
   have:kk=64:=by omega
   subst this;have HR:Hid (mapA l a=fewL (mapF l a)):=show _=_ by rw[HR0.out,hit_none HH.out,if_neg (by decide)]
   have HCL:Hid ((cellsO (tab (curF l a 64))).length=384):=tabO_len _
   go_wp2_with (refine wp_loadAll rfl 97 (.tmp 8) rfl b8 rfl LW.out Tryz.underlying97 rfl (by rw[HCL.out];exact Tryz.sizeOnes) ?_)
   refine(HFEW.out wr).mono ?_;rintro e W6 ⟨⟨u,rfl,ow⟩,g6⟩;have G6:=dD (BW.out.trans g6);have O6:Hid (OwnRow arE w.heap.size W6 u (fewL (mapF l a)).1):=ow.base (bS BW.out);clear g6 ow;go_wp2;refine bodyPost_ret (results_tmp2 rfl _ _ _) rfl ?_;rw[HR.out];exact⟨⟨_,rfl,O6.out⟩,G6.out⟩
  have hzb:(arW a != 0)=true:=by simp[hza]
  have HR:Hid (mapA l a=([],arW a)):=show _=_ by unfold mapA;rw[if_neg (fun h=>h hz),if_pos hza]
  clear hz hza
  generalize arW a=E at*
  go_enter Tryz.func82,Tryz.ntmps82
  go_upto_region 1 with fail;rw[HW0.out];go_wp2_with fail;refine(HW.out W0 G0.out).mono ?_;rintro e W1 ⟨rfl,g⟩;have G1:=dD (G0.out.trans g);have X1:=dD (X0.out.grew g);clear g;obtain⟨pf,HPF⟩:∃pf,Hid (W1.heap.size=pf):=⟨_,rfl⟩;go_upto_region 2 with fail;obtain⟨W2,hWf⟩:∃W2,W1.alloc (.cells #[.int .i64 0,.int .i64 I] 167)=W2:=⟨_,rfl⟩;have G2:=gT hWf G1
  have F2:=xP hWf HPF
  have X2:=yA hWf X1
  rw[hWf,HPF.out];clear hWf;have f0:=F2.out.c 0 rfl
  go_wp2_with (refine wp_loadAll rfl 69 (.tmp 3) rfl w.heap.size rfl X2.out Tryz.underlying69 rfl Tryz.sizeArea ?_)
  refine(HWA.out W2).mono ?_;rintro e W3 ⟨rfl,g⟩;have G3:=dD (G2.out.trans g);clear g f0;go_wp2;refine bodyPost_ret (results_tmp2 rfl _ _ _) rfl ?_;rw[HR.out];exact⟨⟨_,rfl,OwnRow.nil _ _ _⟩,G3.out⟩
 have hzb:((wrL l).1 != 0)=true:=by simp[hz]
 have HR:Hid (mapA l a=([],(wrL l).1)):=show _=_ by unfold mapA;rw[if_pos hz]
 clear hz
 generalize(wrL l).2=I at HW
 generalize(wrL l).1=E at*
 go_enter Tryz.func82,Tryz.ntmps82
 go_upto_region 1 with fail;rw[HW0.out];go_wp2_with fail;refine(HW.out W0 G0.out).mono ?_;rintro e W1 ⟨rfl,g⟩;have G1:=dD (G0.out.trans g);clear g;obtain⟨pf,HPF⟩:∃pf,Hid (W1.heap.size=pf):=⟨_,rfl⟩;go_upto_region 2 with fail;obtain⟨W2,hWf⟩:∃W2,W1.alloc (.cells #[.int .i64 E,.int .i64 I] 167)=W2:=⟨_,rfl⟩;have G2:=gT hWf G1
 have F2:=xP hWf HPF
 rw[hWf,HPF.out];clear hWf;have f0:=F2.out.c 0 rfl;go_upto_region 3 with fail;go_quiet (fail);obtain⟨Wq,hWq⟩:∃Wq,W2.drewN nq=Wq:=⟨_,rfl⟩;have Gq:Hid (Grew w Wq):=show Grew _ _ by rw[<-hWq];exact G2.out.trans (show Below _ _ _ from bD (bR _ _) _)
 rw[hWq];clear hWq f0;go_wp2;refine bodyPost_ret (results_tmp2 rfl _ _ _) rfl ?_;rw[HR.out];exact⟨⟨_,rfl,OwnRow.nil _ _ _⟩,Gq.out⟩
def Frk (w0:World) (hi b:Nat) (w:World) (vl:Sli) (L:List Int) (m:Ma) (l:List Ar) (w':World):Prop:=∃V' m' vt' T',Mk w0 hi w' b vl L V' m' vt' T'/\Keeps hi w w'/\BInv m' T'/\(m'.sp=m.sp++ [⟨true,l,none8⟩]/\m'.fl=m.fl/\m'.hand=m.hand/\m'.fs.length=m.fs.length)
theorem does_store_part {α:Type} {E:Elt α} {w:World} {o:Oper} {a:Act} {K:Value->World->Prop} (p x:Operand) (t:TypeId) (ho:o.op= .store t p x) (base:Nat) (v:Value) (l:List α) (hown:OwnRow E base w v l)
  (g i j:Nat) (hg:v.ownBlock=some g) (e y:α) (hi:l[i]? =some e) (cs:List Value) (hk:(Tryz.prog.info? t).map (·.size)=some cs.length) (hy:E.enc y=splice (E.enc e) j cs) (hj:j+cs.length<=E.k) (h1:∀u∈cs,u.oneCell'=true)
  (ad:Addr) (hp:a.eval p= .pointer (some ad)) (had:ad=⟨g,i*E.k+j,none⟩) (vx:Value) (hx:a.eval x=vx) (hvx:vx.cells=cs.toArray)
  (h:∀w',OwnRow E base w' v (l.set i y)->w.grownBy w' (some g)->w'.heap.size=w.heap.size->K undef w'):Does Tryz.prog o a w K:=by
 obtain⟨w',h2,h3,h4,h5⟩:=run_store_part p x t ho base v l hown g i j hg e y hi cs hk hy hj h1 ad hp had vx hx hvx;exact does_skip h2 (h w' h3 h4 h5)
theorem Mk.entry {w0 w w':World} {hi b pe:Nat} {vl:Sli} {L:List Int} {V:MaV} {m:Ma} {vt:Sli} {T:List (Nat->En)} {cs:List Value} (h:Mk w0 hi w b vl L V m vt T) (hp:BoxT w pe 67 cs) (hh:hi<=pe) (hg:w.grownBy w' (some pe)):Mk w0 hi w' b vl L V m vt T:=by
 have hne:b≠pe:=fun e=>by
  subst e;have h1:w.heap[b]? =_:=h.box;rw[show w.heap[b]? =_ from hp]at h1
  cases h1
 have r:=h.rows;obtain⟨k1,k2,k3,k4,k5,k6,k7,k8,k9⟩:=r.kept hg hp;exact⟨grew_grown h.gr hg (nT r.bh hh),h.hb,h.box.beside hg (fun k e=>by cases e;exact hne),h.lr,h.lc,h.lb,⟨nT r.hw hg.size,r.bh,k1 (by decide),k2 (.inl (by decide)),r.slh,k3 (.inl (by decide)),r.sbh,r.sq,k4 (.inl (by decide)),r.dbh,k5 (by decide),k6 (by decide) (.inl (by decide)),k7 (by decide),k8 (by decide) (by decide),k9 (by decide),r.ap⟩⟩
theorem fork_any {w0:World} {hi:Nat} {b:Nat} {vl:Sli} {L:List Int} {V:MaV} {m:Ma} {vt:Sli} {T:List (Nat->En)} {w:World} (s0:Sp) (h:Mk w0 hi w b vl L V m vt T) (hB:BInv m T) (hs:m.sp=[s0]):
  Calls Tryz.prog 31 #[.pointer (some ⟨b,0,none⟩)] w fun e w'=>(∃v,e= .returned v)/\Frk w0 hi b w vl L m s0.ars w':=by
 have HM:Hid (Mk w0 hi w b vl L V m vt T):=h;have HB:Hid (BInv m T):=hB;have HS:Hid (m.sp=[s0]):=hs;obtain⟨f0,rfl⟩:∃f0,T=[f0]:=List.length_eq_one_iff.1 (by rw[hB.tl,hs];rfl)
 obtain⟨ys,s1,s2,s3⟩:=h.rows.sp;obtain⟨y0,rfl⟩:∃y0,ys=[y0]:=List.length_eq_one_iff.1 (by rw[s2,hs];rfl)
 obtain⟨gs,cs,hse⟩:=s1.formS (by simp)
 have hse:Value.slice V.sp.a V.sp.n V.sp.c=(.slice (some ⟨gs,0,none⟩) 1 cs):=hse;have HSE:Hid (Value.slice V.sp.a V.sp.n V.sp.c=(.slice (some ⟨gs,0,none⟩) 1 cs)):=hse;have S1:Hid (OwnRow spcE w0.heap.size w (.slice V.sp.a V.sp.n V.sp.c) [y0]):=s1;have S2:Hid ([y0].length=m.sp.length):=s2;have S3:Hid (∀(i:Nat) x s,[y0][i]? =some x->m.sp[i]? =some s->x.live=s.live/\OwnRow arE w0.heap.size w x.ar.v s.ars/\x.tab=nil8/\s.tb=none8):=show∀i,_ from s3
 have A1:Hid (OwnRow arE w0.heap.size w y0.ar.v s0.ars):=(s3 0 y0 s0 rfl (by rw[hs];rfl)).2.1
 have HWR:Hid ((wrL s0.ars).1=0):=(hB.spok s0 (by rw[hs];simp)).1
 have HON:Hid (∀W,OwnRow arE w0.heap.size W y0.ar.v s0.ars->Calls Tryz.prog 41 #[.slice y0.ar.a y0.ar.n y0.ar.c] W fun e w'=>e= .returned (.agg (cellsO (tab (onAt s0.ars))).toArray)/\Grew W w'):=show∀W,_ from fun W hW=>refOnes_any y0.ar.v s0.ars W hW.at (wrL_zero.1 HWR.out).2.lies
 have hz:=run_zeroO;obtain⟨Z0,HZ0⟩:∃Z0,Hid (cellsO (tab fun _=>on0)=Z0):=⟨_,rfl⟩
 rw[HZ0.out]at hz;have HZL:Hid (Z0.length=384):=show _=_ by rw[<-HZ0.out,tabO_len]
 have HPL:Hid ((cellsO (tab (onAt s0.ars))).length=384):=tabO_len _;have HPO:Hid (∀v∈cellsO (tab (onAt s0.ars)),v.oneCell'=true):=cellsO_one _;have HCA:Hid (∀k,k<64->(cellsO (tab (onAt s0.ars)))[k*6+3]? =some (.bool (onAt s0.ars k).sh)):=show∀k,_ from fun k hk=>cellsO_at (tab_at hk) 3 _ rfl
 generalize cellsO (tab (onAt s0.ars))=CO at HON HPL HPO HCA
 clear h hB hs s1 s2 s3 hse
 go_enter Tryz.func31,Tryz.ntmps31
 try go_upto_region 0 with fail
 obtain⟨I,HI⟩:∃I:World->Prop,Hid (∀u,I u↔(BoxT u b 87 [.slice vl.a vl.n vl.c,.slice V.f.a V.f.n V.f.c,.int .i64 m.hand,.slice V.s.a V.s.n V.s.c,.slice V.sb.a V.sb.n V.sb.c,.slice V.sq.a V.sq.n V.sq.c,.slice V.db.a V.db.n V.db.c,.slice V.dq.a V.dq.n V.dq.c,.slice V.fl.a V.fl.n V.fl.c,.int .i64 m.cnt,.slice V.ca.a V.ca.n V.ca.c,.slice V.sp.a V.sp.n V.sp.c,.slice vt.a vt.n vt.c]/\OwnRow spcE w0.heap.size u (.slice (some ⟨gs,0,none⟩) 1 cs) [y0])):=⟨fun u=>(BoxT u b 87 [.slice vl.a vl.n vl.c,.slice V.f.a V.f.n V.f.c,.int .i64 m.hand,.slice V.s.a V.s.n V.s.c,.slice V.sb.a V.sb.n V.sb.c,.slice V.sq.a V.sq.n V.sq.c,.slice V.db.a V.db.n V.db.c,.slice V.dq.a V.dq.n V.dq.c,.slice V.fl.a V.fl.n V.fl.c,.int .i64 m.cnt,.slice V.ca.a V.ca.n V.ca.c,.slice V.sp.a V.sp.n V.sp.c,.slice vt.a vt.n vt.c]/\OwnRow spcE w0.heap.size u (.slice (some ⟨gs,0,none⟩) 1 cs) [y0]),fun _=>Iff.rfl⟩
 have hI0:I w.drew:=(HI.out _).2 ⟨HM.out.box.grew (gW _),by rw[<-HSE.out];exact S1.out.grew (gW _)⟩
 have hx11:∀y:HoldI I,y.world.cell? ⟨b,11,none⟩=some (.slice (some ⟨gs,0,none⟩) 1 cs):=fun y=>by
  have:=((HI.out _).1 y.holds).1.box.c 11 rfl;rw[HSE.out]at this;exact this
 have hy1:∀y:HoldI I,y.world.cell? ⟨gs,1,none⟩=some (.slice y0.ar.a y0.ar.n y0.ar.c):=fun y=>by
  have:=((HI.out _).1 y.holds).2.one (i:=0) (x:=y0) rfl 1 _ rfl;rw[add_add',Addr.add_lit]at this;exact this
 have hne:Nonempty (HoldI I):=⟨⟨_,hI0⟩⟩;refine wp_lax_tailD (I:=I) 20 [(15,fun v=>∃g,v= .slice (some ⟨g,0,none⟩) 1 1),(16,fun v=>∃g c,v= .slice (some ⟨g,0,none⟩) 2 c)] (fun u=>Grew w u) hI0 (gW _) mixed (by kernel_rfl) rfl rfl (by decide) ?hS (by kernel_rfl) ?_
 case hS=>
  intro x hx;simp only[mC,nM,or_false]at hx
  rcases hx with rfl | rfl
  ·exact⟨_,0,rfl⟩
  exact⟨_,0,0,rfl⟩
 simp only[List.take,List.drop];iterate 2 (refine laxD_quiet rfl rfl rfl (fun K hK=>?_);go_big_quiet_op;refine hK _ ?_;clear hK K)
 refine laxD_nilc (.tmp 6) ⟨b,0,none⟩ rfl rfl rfl rfl ?_;simp only[Act.put,sB,sS,sZ];iterate 4 (refine laxD_quiet rfl rfl rfl (fun K hK=>?_);go_big_quiet_op;refine hK _ ?_;clear hK K)
 refine laxD_nilc (.tmp 11) ⟨b,0,none⟩ rfl rfl rfl rfl ?_;simp only[Act.put,sB,sS,sZ];iterate 7 (refine laxD_quiet rfl rfl rfl (fun K hK=>?_);go_big_quiet_op;refine hK _ ?_;clear hK K)
 refine laxD_spec rfl rfl (fun v u=>Grew w u/\RowAt spcE u v [⟨true,y0.ar,sli0,sli0,sli0,sli0,sli0,sli0,sli0,sli0⟩]) (fun w' hI' hF'=>?_) (fun v1 hv=>?_)
 ·obtain⟨i1,i2⟩:=(HI.out _).1 hI';refine Does.step (v:= .slice (some ⟨w'.heap.size,0,none⟩) 1 1) (w':=w'.alloc (.cells #[.bool true,.slice y0.ar.a y0.ar.n y0.ar.c,.slice none 0 0,.slice none 0 0,.slice none 0 0,.slice none 0 0,.slice none 0 0,.slice none 0 0,.slice none 0 0,.slice none 0 0] 65)) (by clear hx11 hy1;simp only[execOp];go_simp) ⟨(HI.out _).2 ⟨i1.grew (grew_alloc _ _),i2.grew (grew_alloc _ _)⟩,⟨_,rfl⟩,hF'.trans (grew_alloc _ _),one_row spcE w' ⟨true,y0.ar,sli0,sli0,sli0,sli0,sli0,sli0,sli0,sli0⟩ _ _ rfl (by decide)⟩
 obtain⟨g15,rfl⟩:=hv;simp only[Act.put,sB,sS,sZ];refine laxD_spec rfl rfl (fun v u=>∃w1,Grew w w1/\w1.grownBy u (some gs)/\OwnRow spcE w0.heap.size u v [y0,⟨true,y0.ar,sli0,sli0,sli0,sli0,sli0,sli0,sli0,sli0⟩]) (fun w' hI' hF'=>?_) (fun v1 hv=>?_)
 ·obtain⟨i1,i2⟩:=(HI.out _).1 hI';obtain⟨k1,k2⟩:=hF';obtain⟨v',w2,hrun,ho,hgr,hk⟩:=run_append_keeps (E:=spcE) (w:=w') 38 i2 (.slice (some ⟨g15,0,none⟩) 1 1) [⟨true,y0.ar,sli0,sli0,sli0,sli0,sli0,sli0,sli0,sli0⟩] k2 (by show(1+1)*224<=_;omega) (nT (bS HM.out.gr) (bS k1))
  obtain⟨g',c',rfl⟩:=ho.formS (by simp)
  refine Does.step (v:= .slice (some ⟨g',0,none⟩) 2 c') (w':=w2) ?_ ⟨(HI.out _).2 ⟨BoxT.row i2 hgr i1 (by decide),hk _ [y0] (nR _) i2⟩,⟨_,_,rfl⟩,w',k1,hgr,ho⟩
  clear hx11 hy1;simp only[execOp,resolve,invoke,builtin,pure_bind,Sem.run_bind,Sem.run_pure,List.map_toArray,mP,List.map_nil];exact Eq.trans (congrArg (fun r=>Result.andThen r (fun a w'=>Result.ok (Next.value a) w')) hrun) rfl
 obtain⟨g4,c4,rfl⟩:=hv;simp only[Act.put,sB,sS,sZ];refine laxD_nilc (.tmp 5) ⟨b,0,none⟩ rfl rfl rfl rfl ?_;simp only[Act.put,sB,sS,sZ];iterate 2 (refine laxD_quiet rfl rfl rfl (fun K hK=>?_);go_big_quiet_op;refine hK _ ?_;clear hK K)
 refine laxD_nil fun W4 hI4 hF4=>?_
 obtain⟨w1,gw,gr4,ow4⟩:=hF4;have B4:Hid (BoxT W4 b 87 [.slice vl.a vl.n vl.c,.slice V.f.a V.f.n V.f.c,.int .i64 m.hand,.slice V.s.a V.s.n V.s.c,.slice V.sb.a V.sb.n V.sb.c,.slice V.sq.a V.sq.n V.sq.c,.slice V.db.a V.db.n V.db.c,.slice V.dq.a V.dq.n V.dq.c,.slice V.fl.a V.fl.n V.fl.c,.int .i64 m.cnt,.slice V.ca.a V.ca.n V.ca.c,.slice V.sp.a V.sp.n V.sp.c,.slice vt.a vt.n vt.c]):=((HI.out _).1 hI4).1;have gr4':w1.grownBy W4 (Value.slice V.sp.a V.sp.n V.sp.c).ownBlock:=by rw[HSE.out];exact gr4
 have R4:Hid (MkR w0.heap.size hi W4 { V with sp:=⟨some ⟨g4,0,none⟩,2,c4⟩ } { m with sp:=m.sp++ [⟨true,s0.ars,none8⟩] } vt [f0]):=(HM.out.rows.grew gw).addSp (S1.out.grew gw) S2.out (fun i x s hx hs=>by
  obtain⟨a1,a2,a3⟩:=S3.out i x s hx hs;exact⟨a1,a2.grew gw,a3⟩) gr4' ⟨some ⟨g4,0,none⟩,2,c4⟩ y0.ar (A1.out.grew gw) ow4
 have G4:Hid (Grew w0 W4):=Grew.row (S1.out.grew gw) gr4' (HM.out.gr.trans gw);have K4:Hid (Keeps hi w W4):=(Keeps.grew gw).trans (Keeps.row (S1.out.grew gw) gr4' (fun p hl=>hl.2.2.2.2.2.2.1 rfl))
 have A4:Hid (OwnRow arE w0.heap.size W4 y0.ar.v s0.ars):=show OwnRow _ _ _ _ _ by
  obtain⟨ds,hc⟩:=(S1.out.grew gw).obj (g:=gs) (by rw[HSE.out];rfl)
  exact(A1.out.grew gw).kind gr4 hc (by decide)
 have O4:Hid (OwnRow spcE w0.heap.size W4 (.slice (some ⟨g4,0,none⟩) 2 c4) [y0,⟨true,y0.ar,sli0,sli0,sli0,sli0,sli0,sli0,sli0,sli0⟩]):=ow4;clear gw gr4 gr4' ow4 hI4 hI0 hx11 hy1 hne HI S1 S2 S3 A1;have x11:=B4.out.box.c 11 rfl;rw[HSE.out]at x11;have xf:=B4.out.box.f;go_upto_region 1 with fail;clear x11 xf;obtain⟨W5,hW5⟩:∃W5,W4.setCell ⟨b,11,none⟩ (.slice (some ⟨g4,0,none⟩) 2 c4)=W5:=⟨_,rfl⟩;have hg5:W4.grownBy W5 (some b):=by rw[<-hW5];exact set_grown _ _ _ _
 have M5:Hid (Mk w0 hi W5 b vl L { V with sp:=⟨some ⟨g4,0,none⟩,2,c4⟩ } { m with sp:=m.sp++ [⟨true,s0.ars,none8⟩] } vt [f0]):=show Mk _ _ _ _ _ _ _ _ _ _ from⟨grew_grown G4.out hg5 HM.out.hb,HM.out.hb,by rw[<-hW5];exact B4.out.set 11 _,HM.out.lr,HM.out.lc,HM.out.lb,R4.out.var hg5 B4.out hg5.size (.inl rfl)⟩
 have K5:Hid (Keeps hi w W5):=K4.out.trans (Keeps.kind hg5 B4.out (fun _ hl=>absurd rfl hl.1))
 have A5:Hid (OwnRow arE w0.heap.size W5 y0.ar.v s0.ars):=A4.out.kind hg5 B4.out (by decide)
 have O5:Hid (OwnRow spcE w0.heap.size W5 (.slice (some ⟨g4,0,none⟩) 2 c4) [y0,⟨true,y0.ar,sli0,sli0,sli0,sli0,sli0,sli0,sli0,sli0⟩]):=O4.out.kind hg5 B4.out (by decide)
 rw[hW5];clear hW5 hg5 R4 G4 K4 A4 O4 B4;have HML:Hid (w0.heap.size<=b/\RowAt byE w0 (.slice vl.a vl.n vl.c) L/\vl.n<=vl.c/\∀z∈L,0<=z/\z<256):=show _/\_ from⟨HM.out.hb,HM.out.lr,HM.out.lc,HM.out.lb⟩
 have x11:W5.cell? ⟨b,11,none⟩=some (.slice (some ⟨g4,0,none⟩) 2 c4):=M5.out.box.box.c 11 rfl;have y1:W5.cell? ⟨g4,1,none⟩=some (.slice y0.ar.a y0.ar.n y0.ar.c):=by
  have:=O5.out.one (i:=0) (x:=y0) rfl 1 _ rfl;rw[add_add',Addr.add_lit]at this;exact this
 have hon:=HON.out W5 A5.out;go_wp2_with fail;refine hon.mono ?_;clear hon x11 y1;rintro e W6 ⟨rfl,g6⟩;obtain⟨po,HPO2⟩:∃po,Hid (W6.heap.size=po):=⟨_,rfl⟩;have M6:=dD (M5.out.grew g6);have K6:=dD (K5.out.trans (Keeps.grew g6));clear g6 M5 K5 A5 O5
 go_upto_region 2 with(refine wp_storeAllT rfl 97 (.tmp 2) (.tmp 33) rfl W6.heap.size rfl CO rfl (BoxT.top W6 Z0 97 rfl) (by rw[HPL.out,HZL.out]) (by rw[HZL.out];exact Tryz.sizeOnes) HPO.out ?_)
 intro W7 b7 g7 s7;have g67:Grew W6 W7:=grew_grown (grew_alloc _ _) g7 (nR _);have M7:=dD (M6.out.grew g67);have K7:=dD (K6.out.trans (Keeps.grew g67));rw[HPO2.out]at b7⊢;have P7:Hid (BoxT W7 po 97 CO):=b7;clear b7 g7 s7 g67 M6 K6 hz;try simp only[Act.put]
 have x12:=M7.out.box.box.c 12 rfl;have HSZ5:Hid (w0.heap.size<=W7.heap.size):=show _<=_ from bS M7.out.gr
 go_wp2_with (at_builtin;refine wpList_append_row (E:=flaE) rfl (.tmp 38) (.tmp 40) rfl w0.heap.size _ [f0] rfl (M7.out.rows.tt.grew (grew_alloc _ _)) _ [fun _=>en0] rfl (one_row flaE W7 (fun _=>en0) _ _ rfl (by decide)) ?qb ?qc ?_)
 case qb=>
  show(1+1)*1536<=_
  omega
 case qc=>exact nT HSZ5.out (bS (grew_alloc _ _))
 intro v8 W8 ow8 gr8;obtain⟨gt,ct,rfl⟩:=ow8.formS (by simp)
 have ow8':OwnRow flaE w0.heap.size W8 (.slice (some ⟨gt,0,none⟩) 2 ct) ([f0]++ [fun _=>en0]):=ow8
 obtain⟨WX,hWX⟩:∃WX,W7.alloc (.cells (flaE.enc (fun _=>en0)).toArray 93)=WX:=⟨_,rfl⟩
 have gX:=gP hWX
 have gr8':WX.grownBy W8 (Value.slice vt.a vt.n vt.c).ownBlock:=by rw[<-hWX];exact gr8
 clear gr8 hWX ow8;have M7X:=M7.out.grew gX;have B8:Hid (BoxT W8 b 87 [.slice vl.a vl.n vl.c,.slice V.f.a V.f.n V.f.c,.int .i64 m.hand,.slice V.s.a V.s.n V.s.c,.slice V.sb.a V.sb.n V.sb.c,.slice V.sq.a V.sq.n V.sq.c,.slice V.db.a V.db.n V.db.c,.slice V.dq.a V.dq.n V.dq.c,.slice V.fl.a V.fl.n V.fl.c,.int .i64 m.cnt,.slice V.ca.a V.ca.n V.ca.c,.slice (some ⟨g4,0,none⟩) 2 c4,.slice vt.a vt.n vt.c]):=BoxT.row M7X.rows.tt gr8' M7X.box (by decide)
 have R8:Hid (MkR w0.heap.size hi W8 { V with sp:=⟨some ⟨g4,0,none⟩,2,c4⟩ } { m with sp:=m.sp++ [⟨true,s0.ars,none8⟩] } ⟨some ⟨gt,0,none⟩,2,ct⟩ ([f0]++ [fun _=>en0])):=M7X.rows.addT gr8' ⟨some ⟨gt,0,none⟩,2,ct⟩ ow8'
 have G8:Hid (Grew w0 W8):=Grew.row M7X.rows.tt gr8' M7X.gr;have K8:Hid (Keeps hi w W8):=(K7.out.trans (Keeps.grew gX)).trans (Keeps.row M7X.rows.tt gr8' (fun p hl=>hl.2.2.2.2.2.2.2.1 rfl))
 have P8:Hid (BoxT W8 po 97 CO):=BoxT.row M7X.rows.tt gr8' (P7.out.grew gX) (by decide)
 clear M7X gr8' ow8' gX x12 M7 K7 P7;have x12:=B8.out.box.c 12 rfl;have xf:=B8.out.box.f;go_upto_region 3 with fail;clear x12 xf;obtain⟨W9,hW9⟩:∃W9,W8.setCell ⟨b,12,none⟩ (.slice (some ⟨gt,0,none⟩) 2 ct)=W9:=⟨_,rfl⟩;have hg9:W8.grownBy W9 (some b):=by rw[<-hW9];exact set_grown _ _ _ _
 obtain⟨vt9,HVT⟩:∃vt9:Sli,Hid (vt9=⟨some ⟨gt,0,none⟩,2,ct⟩):=⟨_,rfl⟩;obtain⟨V9,HV9⟩:∃V9:MaV,Hid (V9={ V with sp:=⟨some ⟨g4,0,none⟩,2,c4⟩ }):=⟨_,rfl⟩;obtain⟨m9,HM9⟩:∃m9:Ma,Hid (m9={ m with sp:=m.sp++ [⟨true,s0.ars,none8⟩] }):=⟨_,rfl⟩;have M9:Hid (Mk w0 hi W9 b vl L V9 m9 vt9 [f0,fun _=>en0]):=show Mk _ _ _ _ _ _ _ _ _ _ by
  rw[HVT.out,HV9.out,HM9.out];exact⟨grew_grown G8.out hg9 HML.out.1,HML.out.1,by rw[<-hW9];exact B8.out.set 12 _,HML.out.2.1,HML.out.2.2.1,HML.out.2.2.2,R8.out.var hg9 B8.out hg9.size (.inl rfl)⟩
 have K9:Hid (Keeps hi w W9):=K8.out.trans (Keeps.kind hg9 B8.out (fun _ hl=>absurd rfl hl.1))
 have P9:Hid (BoxT W9 po 97 CO):=P8.out.beside hg9 (fun g e=>by
  cases e;intro e;have h1:W8.heap[po]? =_:=P8.out;rw[e,show W8.heap[b]? =_ from B8.out]at h1
  cases h1)
 have HB9:Hid (BInv m9 [f0,fun _=>en0]):=show BInv _ _ by
  rw[HM9.out];exact HB.out.space HWR.out (by rw[HS.out];simp)
 have HS9:Hid (m9.sp=[s0,⟨true,s0.ars,none8⟩]/\m9.fl=m.fl/\m9.hand=m.hand/\m9.fs.length=m.fs.length):=show _/\_ by
  rw[HM9.out];exact⟨by show m.sp++_=_;rw[HS.out];rfl,rfl,rfl,rfl⟩
 have HTV:Hid (Value.slice vt9.a vt9.n vt9.c= .slice (some ⟨gt,0,none⟩) 2 ct):=show _=_ by rw[HVT.out]
 rw[hW9];clear hW9 hg9 R8 G8 K8 B8 P8 HML;have x12:W9.cell? ⟨b,12,none⟩=some (.slice (some ⟨gt,0,none⟩) 2 ct):=by rw[<-HTV.out];exact M9.out.box.box.c 12 rfl
 have hrg:W9.rangeAt gt 0 (cellsL (tab f0)):=fun j v hj=>by
  have hr:=M9.out.rows.tt;rw[HTV.out]at hr;have:=hr.one (i:=0) (x:=f0) rfl j v hj;rw[add_add',Addr.add_lit]at this
  simpa using this
 go_wp2_with (refine wpList_load_mid rfl 93 (.tmp 48) rfl gt 0 rfl (cellsL (tab f0)) _ hrg Tryz.underlying93 rfl (by rw[cellsL_len,tab_len];exact Tryz.sizeFlat) ?_)
 clear hrg x12;have HIX:Hid (∀{ops:Array Oper} {rest:List Oper} {o:Oper} {a:Act} {w:World} {Q:Exit->Act->World->Prop} (_:o.guard=none) (x ix:Operand) (_:o.op= .index 93 x ix) (_:a.eval x= .agg (cellsL (tab f0)).toArray) (i:Nat) (_:a.eval ix= .int .i64 (i:Int)) (_:i<64) {e:En} (_:f0 i=e)
  (_:wpList Tryz.prog ops Q rest (a.put o.dst (.agg #[.int .i64 e.kind,.int .i64 e.n,.bool e.wr])) w),wpList Tryz.prog ops Q (o :: rest) a w):=fun h1 x ix h2 h3 i h4 h5 _ h6 h7=>wp_flatAt h1 x ix h2 (tab f0) h3 i h4 h5 (by rw[tab_at h5,h6]) h7
 generalize cellsL (tab f0)=CF at HIX⊢
 go_wp2
 go_loopg [50] 64 (fun gg s50 wr=>∃(kk:Nat) (m':Ma) (T':List (Nat->En)) (fA fB:Nat->En),kk<=64/\64 - kk<=gg/\s50= .int .i64 kk/\Hid (Mk w0 hi wr b vl L V9 m' vt9 T')/\Hid (Keeps hi w wr)/\Hid (BInv m' T')/\Hid (m'.sp=[s0,⟨true,s0.ars,none8⟩]/\m'.fl=m.fl/\m'.hand=m.hand/\m'.fs.length=m.fs.length)/\Hid (T'[0]? =some fA/\T'[1]? =some fB/\(∀j,kk<=j->fA j=f0 j/\fB j=en0))/\Hid (BoxT wr po 97 CO))
 case atStart=>exact⟨0,m9,_,f0,fun _=>en0,nZ _,by omega,rfl,M9.out,K9.out,HB9.out,HS9.out,(show _/\_ from⟨rfl,rfl,fun _ _=>⟨rfl,rfl⟩⟩),P9.out⟩
 obtain⟨kk,m',T',fA,fB,hkk,hgg,rfl,MW,KW,BW,SW,TW,PW⟩:=hrel;clear M9 K9 HB9 HS9 P9
 by_cases hlt:kk<64
 ·have hltz:(kk:Int)<64:=by omega
  obtain⟨ek,en,ew,HE⟩:∃ek en ew,Hid (f0 kk=⟨ek,en,ew⟩):=⟨_,_,_,rfl⟩;have HAK:Hid (fA kk=⟨ek,en,ew⟩):=show _=_ by rw[(TW.out.2.2 kk (nR _)).1];exact HE.out
  have HBK:Hid (fB kk=en0):=(TW.out.2.2 kk (nR _)).2;have HNX:Hid (∀e',(((T'.set 0 (updF fA kk e')).set 1 (updF fB kk e'))[0]? =some (updF fA kk e')/\((T'.set 0 (updF fA kk e')).set 1 (updF fB kk e'))[1]? =some (updF fB kk e')/\(∀j,kk+1<=j->updF fA kk e' j=f0 j/\updF fB kk e' j=en0))):=show∀e',_ from fun e'=>by
   have hA:=(gS.1 TW.out.1).1;have hB:=(gS.1 TW.out.2.1).1;refine⟨?_,?_,fun j hj=>?_⟩
   ·rw[sN (by decide)]
    exact sF hA
   ·exact sF (by simpa using hB)
   unfold updF;rw[if_neg (by omega),if_neg (by omega)]
   exact TW.out.2.2 j (by omega)
  have hent:=BW.out.entry0 (s0:=s0) (by rw[SW.out.1];rfl) TW.out.1 hlt
  rw[HAK.out]at hent
  go_upto_region 6 with(refine HIX.out rfl (.tmp 49) (.tmp 50) rfl rfl kk rfl hlt HE.out ?_)
  obtain⟨pe,HPE⟩:∃pe,Hid (wr.heap.size=pe):=⟨_,rfl⟩;obtain⟨W1,hW1⟩:∃W1,wr.alloc (.cells #[.int .i64 ek,.int .i64 en,.bool ew] 67)=W1:=⟨_,rfl⟩;have g1:=gP hW1
  have E1:=xPT hW1 HPE
  have M1:=dD (MW.out.grew g1);have K1:=dD (KW.out.trans (Keeps.grew g1));have P1:=dD (PW.out.grew g1);have HEL:Hid (hi<=pe/\w.heap.size<=pe):=show _/\_ by rw[<-HPE.out];exact⟨MW.out.rows.hw,KW.out.2⟩
  rw[hW1,HPE.out];clear hW1 g1 MW KW PW;have e0:=E1.out.box.c 0 rfl
  rcases hent with hE | ⟨k,fr,h1,h2,h3⟩ | ⟨k,z,h1,h2,h3,h4,h5⟩
  ·cases hE;have hk1:((0:Int) == 1)=false:=by decide
   have hk2:((0:Int) == 2)=false:=by decide
   go_upto_region 12 with fail;obtain⟨I,HI⟩:∃I:World->Prop,Hid (∀u,I u↔(u.cell? ⟨b,12,none⟩=some (.slice (some ⟨gt,0,none⟩) 2 ct)/\BoxT u pe 67 [.int .i64 0,.int .i64 0,.bool false]/\BoxT u po 97 CO)):=⟨fun u=>(u.cell? ⟨b,12,none⟩=some (.slice (some ⟨gt,0,none⟩) 2 ct)/\BoxT u pe 67 [.int .i64 0,.int .i64 0,.bool false]/\BoxT u po 97 CO),fun _=>Iff.rfl⟩
   have HIM:Hid (∀u m' T',Mk w0 hi u b vl L V9 m' vt9 T'->u.cell? ⟨b,12,none⟩=some (.slice (some ⟨gt,0,none⟩) 2 ct)):=show∀u,_ from fun u m' T' hm=>by
    have:=hm.box.box.c 12 rfl;rw[HTV.out]at this;exact this
   have hI0:I W1.drew:=(HI.out _).2 ⟨HIM.out _ _ _ (M1.out.grew (gW _)),E1.out.grew (gW _),P1.out.grew (gW _)⟩
   have hF0:Mk w0 hi W1.drew b vl L V9 m' vt9 T'/\Keeps hi w W1.drew:=⟨M1.out.grew (gW _),K1.out.trans (Keeps.grew (gW _))⟩
   have ht:∀y:HoldI I,y.world.cell? ⟨b,12,none⟩=some (.slice (some ⟨gt,0,none⟩) 2 ct):=fun y=>((HI.out _).1 y.holds).1
   have he0:∀y:HoldI I,y.world.cell? ⟨pe,0,none⟩=some (.int .i64 0):=fun y=>((HI.out _).1 y.holds).2.1.box.c 0 rfl
   have he1:∀y:HoldI I,y.world.cell? ⟨pe,1,none⟩=some (.int .i64 0):=fun y=>((HI.out _).1 y.holds).2.1.box.c 1 rfl
   have he2:∀y:HoldI I,y.world.cell? ⟨pe,2,none⟩=some (.bool false):=fun y=>((HI.out _).1 y.holds).2.1.box.c 2 rfl
   have hne:Nonempty (HoldI I):=⟨⟨_,hI0⟩⟩;refine wp_lax_tailD (I:=I) 17 [(14,fun _=>True)] (fun u=>Mk w0 hi u b vl L V9 m' vt9 T'/\Keeps hi w u) hI0 hF0 mixed (by kernel_rfl) rfl rfl (by decide) ?hS (by kernel_rfl) ?_
   case hS=>
    intro x hx;simp only[mC,nM,or_false]at hx;subst hx;exact⟨undef,trivial⟩
   simp only[List.take,List.drop];iterate 1 (refine laxD_quiet rfl rfl rfl (fun K hK=>?_);go_big_quiet_op;refine hK _ ?_;clear hK K)
   refine laxD_nilc (.tmp 91) ⟨b,0,none⟩ rfl rfl rfl rfl ?_;simp only[Act.put,sB,sS,sZ];iterate 4 (refine laxD_quiet rfl rfl rfl (fun K hK=>?_);go_big_quiet_op;refine hK _ ?_;clear hK K)
   refine laxD_nilc (.tmp 96) ⟨b,0,none⟩ rfl rfl rfl rfl ?_;simp only[Act.put,sB,sS,sZ];iterate 7 (refine laxD_quiet rfl rfl rfl (fun K hK=>?_);go_big_quiet_op;refine hK _ ?_;clear hK K)
   refine laxD_spec rfl rfl (fun _ u=>Mk w0 hi u b vl L V9 m' vt9 (T'.set 0 (updF fA kk ⟨0,0,false⟩))/\Keeps hi w u) (fun w' hI' hF'=>?_) (fun v1 hv=>?_)
   ·obtain⟨i1,i2,i3⟩:=(HI.out _).1 hI';obtain⟨k1,k2⟩:=hF';have hr:=k1.rows.tt;rw[HTV.out]at hr;refine does_store_part (E:=flaE) (.tmp 104) (.tmp 101) 67 rfl w0.heap.size (.slice (some ⟨gt,0,none⟩) 2 ct) T' hr gt 0 (kk*3) rfl fA (updF fA kk ⟨0,0,false⟩) TW.out.1 (env ⟨0,0,false⟩) (by kernel_rfl) (flaE_upd fA hlt _) (by show kk*3+3<=192;omega) (enE.one _) _ rfl (by first | rfl | simp) (.agg (env ⟨0,0,false⟩).toArray) rfl rfl (fun w2 ow gr sz=>?_)
    rw[<-HTV.out]at ow;have hM:=k1.setT (by rw[HTV.out];rfl) gr sz ow
    exact⟨(HI.out _).2 ⟨HIM.out _ _ _ hM.1,hM.2.1 _ _ _ i2 loc_entry,hM.2.1 _ _ _ i3 loc_ones⟩,trivial,hM.1,k2.trans hM.2⟩
   try simp only[Act.put]
   iterate 2 (refine laxD_quiet rfl rfl rfl (fun K hK=>?_);go_big_quiet_op;refine hK _ ?_;clear hK K)
   refine laxD_nil fun W8 hI8 hF8=>?_
   have M8:Hid (Mk w0 hi W8 b vl L V9 m' vt9 (T'.set 0 (updF fA kk ⟨0,0,false⟩))):=hF8.1;have K8:Hid (Keeps hi w W8):=hF8.2;have P8:Hid (BoxT W8 po 97 CO):=((HI.out _).1 hI8).2.2;clear hF8 hI8 hI0 hF0 ht he0 he1 he2 hne HI;have R8:Hid (OwnRow flaE w0.heap.size W8 (.slice (some ⟨gt,0,none⟩) 2 ct) (T'.set 0 (updF fA kk ⟨0,0,false⟩))):=show OwnRow _ _ _ _ _ by rw[<-HTV.out];exact M8.out.rows.tt
   refine wpList_store_part (E:=flaE) rfl (.tmp 106) (.tmp 102) 67 rfl w0.heap.size _ _ R8.out gt 1 (kk*3) rfl fB (updF fB kk ⟨0,0,false⟩) (by rw[sN (by decide)];exact TW.out.2.1) (env ⟨0,0,false⟩) (by kernel_rfl) (flaE_upd fB hlt _) (by show kk*3+3<=192;omega) (enE.one _) _ rfl (by first | rfl | simp) (.agg (env ⟨0,0,false⟩).toArray) rfl rfl ?_
   intro W9 ow9 gr9 sz9;rw[<-HTV.out]at ow9;have hM9:=M8.out.setT (by rw[HTV.out];rfl) gr9 sz9 ow9
   have M9:Hid (Mk w0 hi W9 b vl L V9 m' vt9 ((T'.set 0 (updF fA kk ⟨0,0,false⟩)).set 1 (updF fB kk ⟨0,0,false⟩))):=hM9.1;have K9:Hid (Keeps hi w W9):=K8.out.trans hM9.2;have P9:Hid (BoxT W9 po 97 CO):=hM9.2.1 _ _ _ P8.out loc_ones;have B9:Hid (BInv m' ((T'.set 0 (updF fA kk ⟨0,0,false⟩)).set 1 (updF fB kk ⟨0,0,false⟩))):=(show BInv _ _ by
    have:=fork_none TW.out.1 TW.out.2.1 HAK.out HBK.out;rw[show(⟨0,0,false⟩:En)=en0 from rfl,this]
    exact BW.out)
   clear hM9 ow9 gr9 sz9 R8 M8 K8 P8;go_wp2
   go_roundg (64 -(kk+1))
   case measure=>omega
   exact⟨kk+1,m',_,_,_,by omega,by omega,by go_num,M9.out,K9.out,B9.out,(show _/\_ from SW.out),HNX.out _,P9.out⟩
  ·dsimp only at h1 h2;subst h1;subst h2;have HK:Hid (m'.fs[k]? =some fr):=h3;obtain⟨hr0,hr1⟩:=BW.out.refs h3;obtain⟨nf,HNF⟩:∃nf,Hid (m'.fs.length=nf):=⟨_,rfl⟩;have hkn:k<nf:=by rw[<-HNF.out];exact(gS.1 h3).1
   have hkz:(k:Int)< (nf:Int):=by omega
   clear h3;have hk1:((1:Int) == 1)=true:=by decide
   have hk2:((1:Int) == 2)=false:=by decide
   obtain⟨g,cf,heq⟩:=M1.out.rows.fs.formS (by rw[HNF.out];omega)
   rw[HNF.out]at heq;have HEQ:Hid (Value.slice V9.f.a V9.f.n V9.f.c= .slice (some ⟨g,0,none⟩) nf cf):=heq;have hrw:=M1.out.rows.fs;rw[HEQ.out]at hrw;have HRW:Hid (OwnRow frmE w0.heap.size W1 (.slice (some ⟨g,0,none⟩) nf cf) m'.fs):=hrw;clear hrw heq;go_upto_region 7 with fail;clear e0;obtain⟨I,HI⟩:∃I:World->Prop,Hid (∀u,I u↔Grew W1 u):=⟨fun u=>Grew W1 u,fun _=>Iff.rfl⟩
   have hI0:I W1.drew:=(HI.out _).2 (gW _)
   have hx1:∀y:HoldI I,y.world.cell? ⟨b,1,none⟩=some (.slice (some ⟨g,0,none⟩) nf cf):=fun y=>by rw[<-HEQ.out];exact(M1.out.box.box.grew ((HI.out _).1 y.holds)).c 1 rfl
   have he1:∀y:HoldI I,y.world.cell? ⟨pe,1,none⟩=some (.int .i64 (k:Int)):=fun y=>(E1.out.box.grew ((HI.out _).1 y.holds)).c 1 rfl
   have hd8:∀y:HoldI I,y.world.cell? ⟨g,k*13+8,none⟩=some (.int .i64 fr.r):=fun y=>by
    have:=(HRW.out.grew ((HI.out _).1 y.holds)).one HK.out 8 _ rfl;rw[add_add',Addr.add_lit,zA]at this;exact this
   have hne:Nonempty (HoldI I):=⟨⟨_,hI0⟩⟩;refine wp_lax_tailC (I:=I) 14 [] hI0 mixed (by kernel_rfl) rfl rfl (by decide) (by simp) (by kernel_rfl) ?_
   simp only[List.take,List.drop];iterate 1 (refine laxC_quiet rfl rfl rfl (fun K hK=>?_);go_big_quiet_op;refine hK _ ?_;clear hK K)
   refine laxC_nilc (.tmp 57) ⟨b,0,none⟩ rfl rfl rfl rfl ?_;simp only[Act.put,sB,sS,sZ];iterate 12 (refine laxC_quiet rfl rfl rfl (fun K hK=>?_);go_big_quiet_op;refine hK _ ?_;clear hK K)
   refine laxC_nil fun W2 hI2 hF=>?_
   have g2:=(HI.out _).1 hI2;have M2:=dD (M1.out.grew g2);have K2:=dD (K1.out.trans (Keeps.grew g2));have E2:=dD (E1.out.grew g2);have P2:=dD (P1.out.grew g2);have R2:=dD (HRW.out.grew g2);clear g2 hI2 hF hx1 he1 hd8 hne hI0 HI M1 K1 E1 P1 HRW;have xf:=R2.out.unfrozen rfl;have d8:W2.cell? ⟨g,k*13+8,none⟩=some (.int .i64 fr.r):=by
    have:=R2.out.one HK.out 8 _ rfl;rw[add_add',Addr.add_lit,zA]at this;exact this
   go_upto_region 8 with fail;clear d8 xf;obtain⟨ow3,gr3,sz3⟩:=R2.out.cell (k:=k) (o:=8) rfl HK.out (y:={ fr with r:=fr.r+1 }) (u:= .int .i64 (fr.r+1)) rfl (by decide)
   obtain⟨W3,hW3⟩:∃W3,W2.setCell ⟨g,k*13+8,none⟩ (.int .i64 (fr.r+1))=W3:=⟨_,rfl⟩;have e3:W2.setCell ⟨g,k*frmE.k+8,none⟩ (.int .i64 (fr.r+1))=W3:=hW3;rw[e3]at ow3 gr3 sz3;rw[hW3];rw[<-HEQ.out]at ow3;have hM3:=M2.out.setF (by rw[HEQ.out];rfl) gr3 sz3 ow3
   have M3:Hid (Mk w0 hi W3 b vl L V9 { m' with fs:=m'.fs.set k { fr with r:=fr.r+1 } } vt9 T'):=hM3.1;have K3:Hid (Keeps hi w W3):=K2.out.trans hM3.2;have E3:Hid (BoxT W3 pe 67 [.int .i64 1,.int .i64 (k:Int),.bool ew]):=hM3.2.1 _ _ _ E2.out loc_entry;have P3:Hid (BoxT W3 po 97 CO):=hM3.2.1 _ _ _ P2.out loc_ones;clear e3 hW3 ow3 gr3 sz3 hM3 M2 K2 E2 P2 R2;have HBF:Hid (∀e',e'=(if(onAt s0.ars kk).sh=true then(⟨1,(k:Int),ew⟩:En)else⟨1,(k:Int),false⟩)->BInv { m' with fs:=m'.fs.set k { fr with r:=fr.r+1 } } ((T'.set 0 (updF fA kk e')).set 1 (updF fB kk e'))):=show∀e',_ from fun e' he=>BW.out.forkP (s0:=s0) (s1:=⟨true,s0.ars,none8⟩) (by rw[SW.out.1];rfl) (by rw[SW.out.1];rfl) rfl TW.out.1 TW.out.2.1 hlt HBK.out HK.out (by rw[HAK.out]) (by rw[HAK.out]) (by rw[HAK.out];exact he)
   have o3:=P3.out.box.c _ (HCA.out kk hlt);have e0:=E3.out.box.c 0 rfl
   cases hsh:(onAt s0.ars kk).sh with
   | true=>
    rw[hsh]at o3 HBF;clear hsh;go_upto_region 10 with fail;clear o3;go_upto_region 12 with fail;obtain⟨I,HI⟩:∃I:World->Prop,Hid (∀u,I u↔(u.cell? ⟨b,12,none⟩=some (.slice (some ⟨gt,0,none⟩) 2 ct)/\BoxT u pe 67 [.int .i64 1,.int .i64 (k:Int),.bool ew]/\BoxT u po 97 CO)):=⟨fun u=>(u.cell? ⟨b,12,none⟩=some (.slice (some ⟨gt,0,none⟩) 2 ct)/\BoxT u pe 67 [.int .i64 1,.int .i64 (k:Int),.bool ew]/\BoxT u po 97 CO),fun _=>Iff.rfl⟩
    have HIM:Hid (∀u m' T',Mk w0 hi u b vl L V9 m' vt9 T'->u.cell? ⟨b,12,none⟩=some (.slice (some ⟨gt,0,none⟩) 2 ct)):=show∀u,_ from fun u m' T' hm=>by
     have:=hm.box.box.c 12 rfl;rw[HTV.out]at this;exact this
    have hI0:I W3.drew:=(HI.out _).2 ⟨HIM.out _ _ _ (M3.out.grew (gW _)),E3.out.grew (gW _),P3.out.grew (gW _)⟩
    have hF0:Mk w0 hi W3.drew b vl L V9 { m' with fs:=m'.fs.set k { fr with r:=fr.r+1 } } vt9 T'/\Keeps hi w W3.drew:=⟨M3.out.grew (gW _),K3.out.trans (Keeps.grew (gW _))⟩
    have ht:∀y:HoldI I,y.world.cell? ⟨b,12,none⟩=some (.slice (some ⟨gt,0,none⟩) 2 ct):=fun y=>((HI.out _).1 y.holds).1
    have he0:∀y:HoldI I,y.world.cell? ⟨pe,0,none⟩=some (.int .i64 1):=fun y=>((HI.out _).1 y.holds).2.1.box.c 0 rfl
    have he1:∀y:HoldI I,y.world.cell? ⟨pe,1,none⟩=some (.int .i64 (k:Int)):=fun y=>((HI.out _).1 y.holds).2.1.box.c 1 rfl
    have he2:∀y:HoldI I,y.world.cell? ⟨pe,2,none⟩=some (.bool ew):=fun y=>((HI.out _).1 y.holds).2.1.box.c 2 rfl
    have hne:Nonempty (HoldI I):=⟨⟨_,hI0⟩⟩;refine wp_lax_tailD (I:=I) 17 [(14,fun _=>True)] (fun u=>Mk w0 hi u b vl L V9 { m' with fs:=m'.fs.set k { fr with r:=fr.r+1 } } vt9 T'/\Keeps hi w u) hI0 hF0 mixed (by kernel_rfl) rfl rfl (by decide) ?hS (by kernel_rfl) ?_
    case hS=>
     intro x hx;simp only[mC,nM,or_false]at hx;subst hx;exact⟨undef,trivial⟩
    simp only[List.take,List.drop];iterate 1 (refine laxD_quiet rfl rfl rfl (fun K hK=>?_);go_big_quiet_op;refine hK _ ?_;clear hK K)
    refine laxD_nilc (.tmp 91) ⟨b,0,none⟩ rfl rfl rfl rfl ?_;simp only[Act.put,sB,sS,sZ];iterate 4 (refine laxD_quiet rfl rfl rfl (fun K hK=>?_);go_big_quiet_op;refine hK _ ?_;clear hK K)
    refine laxD_nilc (.tmp 96) ⟨b,0,none⟩ rfl rfl rfl rfl ?_;simp only[Act.put,sB,sS,sZ];iterate 7 (refine laxD_quiet rfl rfl rfl (fun K hK=>?_);go_big_quiet_op;refine hK _ ?_;clear hK K)
    refine laxD_spec rfl rfl (fun _ u=>Mk w0 hi u b vl L V9 { m' with fs:=m'.fs.set k { fr with r:=fr.r+1 } } vt9 (T'.set 0 (updF fA kk ⟨1,(k:Int),ew⟩))/\Keeps hi w u) (fun w' hI' hF'=>?_) (fun v1 hv=>?_)
    ·obtain⟨i1,i2,i3⟩:=(HI.out _).1 hI';obtain⟨k1,k2⟩:=hF';have hr:=k1.rows.tt;rw[HTV.out]at hr;refine does_store_part (E:=flaE) (.tmp 104) (.tmp 101) 67 rfl w0.heap.size (.slice (some ⟨gt,0,none⟩) 2 ct) T' hr gt 0 (kk*3) rfl fA (updF fA kk ⟨1,(k:Int),ew⟩) TW.out.1 (env ⟨1,(k:Int),ew⟩) (by kernel_rfl) (flaE_upd fA hlt _) (by show kk*3+3<=192;omega) (enE.one _) _ rfl (by first | rfl | simp) (.agg (env ⟨1,(k:Int),ew⟩).toArray) rfl rfl (fun w2 ow gr sz=>?_)
     rw[<-HTV.out]at ow;have hM:=k1.setT (by rw[HTV.out];rfl) gr sz ow
     exact⟨(HI.out _).2 ⟨HIM.out _ _ _ hM.1,hM.2.1 _ _ _ i2 loc_entry,hM.2.1 _ _ _ i3 loc_ones⟩,trivial,hM.1,k2.trans hM.2⟩
    try simp only[Act.put]
    iterate 2 (refine laxD_quiet rfl rfl rfl (fun K hK=>?_);go_big_quiet_op;refine hK _ ?_;clear hK K)
    refine laxD_nil fun W8 hI8 hF8=>?_
    have M8:Hid (Mk w0 hi W8 b vl L V9 { m' with fs:=m'.fs.set k { fr with r:=fr.r+1 } } vt9 (T'.set 0 (updF fA kk ⟨1,(k:Int),ew⟩))):=hF8.1;have K8:Hid (Keeps hi w W8):=hF8.2;have P8:Hid (BoxT W8 po 97 CO):=((HI.out _).1 hI8).2.2;clear hF8 hI8 hI0 hF0 ht he0 he1 he2 hne HI;have R8:Hid (OwnRow flaE w0.heap.size W8 (.slice (some ⟨gt,0,none⟩) 2 ct) (T'.set 0 (updF fA kk ⟨1,(k:Int),ew⟩))):=show OwnRow _ _ _ _ _ by rw[<-HTV.out];exact M8.out.rows.tt
    refine wpList_store_part (E:=flaE) rfl (.tmp 106) (.tmp 102) 67 rfl w0.heap.size _ _ R8.out gt 1 (kk*3) rfl fB (updF fB kk ⟨1,(k:Int),ew⟩) (by rw[sN (by decide)];exact TW.out.2.1) (env ⟨1,(k:Int),ew⟩) (by kernel_rfl) (flaE_upd fB hlt _) (by show kk*3+3<=192;omega) (enE.one _) _ rfl (by first | rfl | simp) (.agg (env ⟨1,(k:Int),ew⟩).toArray) rfl rfl ?_
    intro W9 ow9 gr9 sz9;rw[<-HTV.out]at ow9;have hM9:=M8.out.setT (by rw[HTV.out];rfl) gr9 sz9 ow9
    have M9:Hid (Mk w0 hi W9 b vl L V9 { m' with fs:=m'.fs.set k { fr with r:=fr.r+1 } } vt9 ((T'.set 0 (updF fA kk ⟨1,(k:Int),ew⟩)).set 1 (updF fB kk ⟨1,(k:Int),ew⟩))):=hM9.1;have K9:Hid (Keeps hi w W9):=K8.out.trans hM9.2;have P9:Hid (BoxT W9 po 97 CO):=hM9.2.1 _ _ _ P8.out loc_ones;have B9:Hid (BInv { m' with fs:=m'.fs.set k { fr with r:=fr.r+1 } } ((T'.set 0 (updF fA kk ⟨1,(k:Int),ew⟩)).set 1 (updF fB kk ⟨1,(k:Int),ew⟩))):=(show BInv _ _ from HBF.out _ (if_pos rfl).symm)
    clear hM9 ow9 gr9 sz9 R8 M8 K8 P8;go_wp2
    go_roundg (64 -(kk+1))
    case measure=>omega
    exact⟨kk+1,{ m' with fs:=m'.fs.set k { fr with r:=fr.r+1 } },_,_,_,by omega,by omega,by go_num,M9.out,K9.out,B9.out,(show _/\_ from⟨SW.out.1,SW.out.2.1,SW.out.2.2.1,List.length_set.trans SW.out.2.2.2⟩),HNX.out _,P9.out⟩
   | false=>
    rw[hsh]at o3 HBF;clear hsh;have e2:=E3.out.box.c 2 rfl;have xf:=E3.out.box.f;go_upto_region 10 with fail;clear o3 e0 e2 xf;obtain⟨W4,hW4⟩:∃W4,W3.setCell ⟨pe,2,none⟩ (.bool false)=W4:=⟨_,rfl⟩;have hg4:W3.grownBy W4 (some pe):=by rw[<-hW4];exact set_grown _ _ _ _
    have E4:Hid (BoxT W4 pe 67 [.int .i64 1,.int .i64 (k:Int),.bool false]):=show BoxT _ _ _ _ by rw[<-hW4];exact E3.out.set 2 _
    have M4:Hid (Mk w0 hi W4 b vl L V9 { m' with fs:=m'.fs.set k { fr with r:=fr.r+1 } } vt9 T'):=M3.out.entry E3.out HEL.out.1 hg4;have K4:Hid (Keeps hi w W4):=K3.out.own hg4 HEL.out.2;have P4:Hid (BoxT W4 po 97 CO):=P3.out.beside hg4 (fun g e=>by
     cases e;intro e;have h1:W3.heap[po]? =_:=P3.out;rw[e,show W3.heap[pe]? =_ from E3.out]at h1
     cases h1)
    rw[hW4];clear hW4 hg4 M3 K3 E3 P3;have e0:=E4.out.box.c 0 rfl;go_upto_region 12 with fail;obtain⟨I,HI⟩:∃I:World->Prop,Hid (∀u,I u↔(u.cell? ⟨b,12,none⟩=some (.slice (some ⟨gt,0,none⟩) 2 ct)/\BoxT u pe 67 [.int .i64 1,.int .i64 (k:Int),.bool false]/\BoxT u po 97 CO)):=⟨fun u=>(u.cell? ⟨b,12,none⟩=some (.slice (some ⟨gt,0,none⟩) 2 ct)/\BoxT u pe 67 [.int .i64 1,.int .i64 (k:Int),.bool false]/\BoxT u po 97 CO),fun _=>Iff.rfl⟩
    have HIM:Hid (∀u m' T',Mk w0 hi u b vl L V9 m' vt9 T'->u.cell? ⟨b,12,none⟩=some (.slice (some ⟨gt,0,none⟩) 2 ct)):=show∀u,_ from fun u m' T' hm=>by
     have:=hm.box.box.c 12 rfl;rw[HTV.out]at this;exact this
    have hI0:I W4.drew:=(HI.out _).2 ⟨HIM.out _ _ _ (M4.out.grew (gW _)),E4.out.grew (gW _),P4.out.grew (gW _)⟩
    have hF0:Mk w0 hi W4.drew b vl L V9 { m' with fs:=m'.fs.set k { fr with r:=fr.r+1 } } vt9 T'/\Keeps hi w W4.drew:=⟨M4.out.grew (gW _),K4.out.trans (Keeps.grew (gW _))⟩
    have ht:∀y:HoldI I,y.world.cell? ⟨b,12,none⟩=some (.slice (some ⟨gt,0,none⟩) 2 ct):=fun y=>((HI.out _).1 y.holds).1
    have he0:∀y:HoldI I,y.world.cell? ⟨pe,0,none⟩=some (.int .i64 1):=fun y=>((HI.out _).1 y.holds).2.1.box.c 0 rfl
    have he1:∀y:HoldI I,y.world.cell? ⟨pe,1,none⟩=some (.int .i64 (k:Int)):=fun y=>((HI.out _).1 y.holds).2.1.box.c 1 rfl
    have he2:∀y:HoldI I,y.world.cell? ⟨pe,2,none⟩=some (.bool false):=fun y=>((HI.out _).1 y.holds).2.1.box.c 2 rfl
    have hne:Nonempty (HoldI I):=⟨⟨_,hI0⟩⟩;refine wp_lax_tailD (I:=I) 17 [(14,fun _=>True)] (fun u=>Mk w0 hi u b vl L V9 { m' with fs:=m'.fs.set k { fr with r:=fr.r+1 } } vt9 T'/\Keeps hi w u) hI0 hF0 mixed (by kernel_rfl) rfl rfl (by decide) ?hS (by kernel_rfl) ?_
    case hS=>
     intro x hx;simp only[mC,nM,or_false]at hx;subst hx;exact⟨undef,trivial⟩
    simp only[List.take,List.drop];iterate 1 (refine laxD_quiet rfl rfl rfl (fun K hK=>?_);go_big_quiet_op;refine hK _ ?_;clear hK K)
    refine laxD_nilc (.tmp 91) ⟨b,0,none⟩ rfl rfl rfl rfl ?_;simp only[Act.put,sB,sS,sZ];iterate 4 (refine laxD_quiet rfl rfl rfl (fun K hK=>?_);go_big_quiet_op;refine hK _ ?_;clear hK K)
    refine laxD_nilc (.tmp 96) ⟨b,0,none⟩ rfl rfl rfl rfl ?_;simp only[Act.put,sB,sS,sZ];iterate 7 (refine laxD_quiet rfl rfl rfl (fun K hK=>?_);go_big_quiet_op;refine hK _ ?_;clear hK K)
    refine laxD_spec rfl rfl (fun _ u=>Mk w0 hi u b vl L V9 { m' with fs:=m'.fs.set k { fr with r:=fr.r+1 } } vt9 (T'.set 0 (updF fA kk ⟨1,(k:Int),false⟩))/\Keeps hi w u) (fun w' hI' hF'=>?_) (fun v1 hv=>?_)
    ·obtain⟨i1,i2,i3⟩:=(HI.out _).1 hI';obtain⟨k1,k2⟩:=hF';have hr:=k1.rows.tt;rw[HTV.out]at hr;refine does_store_part (E:=flaE) (.tmp 104) (.tmp 101) 67 rfl w0.heap.size (.slice (some ⟨gt,0,none⟩) 2 ct) T' hr gt 0 (kk*3) rfl fA (updF fA kk ⟨1,(k:Int),false⟩) TW.out.1 (env ⟨1,(k:Int),false⟩) (by kernel_rfl) (flaE_upd fA hlt _) (by show kk*3+3<=192;omega) (enE.one _) _ rfl (by first | rfl | simp) (.agg (env ⟨1,(k:Int),false⟩).toArray) rfl rfl (fun w2 ow gr sz=>?_)
     rw[<-HTV.out]at ow;have hM:=k1.setT (by rw[HTV.out];rfl) gr sz ow
     exact⟨(HI.out _).2 ⟨HIM.out _ _ _ hM.1,hM.2.1 _ _ _ i2 loc_entry,hM.2.1 _ _ _ i3 loc_ones⟩,trivial,hM.1,k2.trans hM.2⟩
    try simp only[Act.put]
    iterate 2 (refine laxD_quiet rfl rfl rfl (fun K hK=>?_);go_big_quiet_op;refine hK _ ?_;clear hK K)
    refine laxD_nil fun W8 hI8 hF8=>?_
    have M8:Hid (Mk w0 hi W8 b vl L V9 { m' with fs:=m'.fs.set k { fr with r:=fr.r+1 } } vt9 (T'.set 0 (updF fA kk ⟨1,(k:Int),false⟩))):=hF8.1;have K8:Hid (Keeps hi w W8):=hF8.2;have P8:Hid (BoxT W8 po 97 CO):=((HI.out _).1 hI8).2.2;clear hF8 hI8 hI0 hF0 ht he0 he1 he2 hne HI;have R8:Hid (OwnRow flaE w0.heap.size W8 (.slice (some ⟨gt,0,none⟩) 2 ct) (T'.set 0 (updF fA kk ⟨1,(k:Int),false⟩))):=show OwnRow _ _ _ _ _ by rw[<-HTV.out];exact M8.out.rows.tt
    refine wpList_store_part (E:=flaE) rfl (.tmp 106) (.tmp 102) 67 rfl w0.heap.size _ _ R8.out gt 1 (kk*3) rfl fB (updF fB kk ⟨1,(k:Int),false⟩) (by rw[sN (by decide)];exact TW.out.2.1) (env ⟨1,(k:Int),false⟩) (by kernel_rfl) (flaE_upd fB hlt _) (by show kk*3+3<=192;omega) (enE.one _) _ rfl (by first | rfl | simp) (.agg (env ⟨1,(k:Int),false⟩).toArray) rfl rfl ?_
    intro W9 ow9 gr9 sz9;rw[<-HTV.out]at ow9;have hM9:=M8.out.setT (by rw[HTV.out];rfl) gr9 sz9 ow9
    have M9:Hid (Mk w0 hi W9 b vl L V9 { m' with fs:=m'.fs.set k { fr with r:=fr.r+1 } } vt9 ((T'.set 0 (updF fA kk ⟨1,(k:Int),false⟩)).set 1 (updF fB kk ⟨1,(k:Int),false⟩))):=hM9.1;have K9:Hid (Keeps hi w W9):=K8.out.trans hM9.2;have P9:Hid (BoxT W9 po 97 CO):=hM9.2.1 _ _ _ P8.out loc_ones;have B9:Hid (BInv { m' with fs:=m'.fs.set k { fr with r:=fr.r+1 } } ((T'.set 0 (updF fA kk ⟨1,(k:Int),false⟩)).set 1 (updF fB kk ⟨1,(k:Int),false⟩))):=(show BInv _ _ from HBF.out _ (if_neg (by decide)).symm)
    clear hM9 ow9 gr9 sz9 R8 M8 K8 P8;go_wp2
    go_roundg (64 -(kk+1))
    case measure=>omega
    exact⟨kk+1,{ m' with fs:=m'.fs.set k { fr with r:=fr.r+1 } },_,_,_,by omega,by omega,by go_num,M9.out,K9.out,B9.out,(show _/\_ from⟨SW.out.1,SW.out.2.1,SW.out.2.2.1,List.length_set.trans SW.out.2.2.2⟩),HNX.out _,P9.out⟩
  dsimp only at h1 h2;subst h1;subst h2;have HK:Hid (m'.sl[k]? =some z):=h3;obtain⟨nf,HNF⟩:∃nf,Hid (m'.sl.length=nf):=⟨_,rfl⟩;have hkn:k<nf:=by rw[<-HNF.out];exact(gS.1 h3).1
  have hkz:(k:Int)< (nf:Int):=by omega
  clear h3;have hk1:((2:Int) == 1)=false:=by decide
  have hk2:((2:Int) == 2)=true:=by decide
  obtain⟨g,cf,heq⟩:=M1.out.rows.sl.formS (by rw[HNF.out];omega)
  rw[HNF.out]at heq;have HEQ:Hid (Value.slice V9.s.a V9.s.n V9.s.c= .slice (some ⟨g,0,none⟩) nf cf):=heq;have hrw:=M1.out.rows.sl;rw[HEQ.out]at hrw;have HRW:Hid (OwnRow slE w0.heap.size W1 (.slice (some ⟨g,0,none⟩) nf cf) m'.sl):=hrw;clear hrw heq;go_upto_region 11 with fail;clear e0;obtain⟨I,HI⟩:∃I:World->Prop,Hid (∀u,I u↔Grew W1 u):=⟨fun u=>Grew W1 u,fun _=>Iff.rfl⟩
  have hI0:I W1.drew:=(HI.out _).2 (gW _)
  have hx1:∀y:HoldI I,y.world.cell? ⟨b,3,none⟩=some (.slice (some ⟨g,0,none⟩) nf cf):=fun y=>by rw[<-HEQ.out];exact(M1.out.box.box.grew ((HI.out _).1 y.holds)).c 3 rfl
  have he1:∀y:HoldI I,y.world.cell? ⟨pe,1,none⟩=some (.int .i64 (k:Int)):=fun y=>(E1.out.box.grew ((HI.out _).1 y.holds)).c 1 rfl
  have hd8:∀y:HoldI I,y.world.cell? ⟨g,k,none⟩=some (.int .i64 z):=fun y=>by
   have:=(HRW.out.grew ((HI.out _).1 y.holds)).one HK.out 0 _ rfl;rw[add_add',Addr.add_lit,zA]at this
   simpa [slE,Nat.mul_one]using this
  have hne:Nonempty (HoldI I):=⟨⟨_,hI0⟩⟩;refine wp_lax_tailC (I:=I) 11 [] hI0 mixed (by kernel_rfl) rfl rfl (by decide) (by simp) (by kernel_rfl) ?_
  simp only[List.take,List.drop];iterate 1 (refine laxC_quiet rfl rfl rfl (fun K hK=>?_);go_big_quiet_op;refine hK _ ?_;clear hK K)
  refine laxC_nilc (.tmp 80) ⟨b,0,none⟩ rfl rfl rfl rfl ?_;simp only[Act.put,sB,sS,sZ];iterate 9 (refine laxC_quiet rfl rfl rfl (fun K hK=>?_);go_big_quiet_op;refine hK _ ?_;clear hK K)
  refine laxC_nil fun W2 hI2 hF=>?_
  have g2:=(HI.out _).1 hI2;have M2:=dD (M1.out.grew g2);have K2:=dD (K1.out.trans (Keeps.grew g2));have E2:=dD (E1.out.grew g2);have P2:=dD (P1.out.grew g2);have R2:=dD (HRW.out.grew g2);clear g2 hI2 hF hx1 he1 hd8 hne hI0 HI M1 K1 E1 P1 HRW;have xf:=R2.out.unfrozen rfl;have d8:W2.cell? ⟨g,k,none⟩=some (.int .i64 z):=by
   have:=R2.out.one HK.out 0 _ rfl;rw[add_add',Addr.add_lit,zA]at this
   simpa [slE,Nat.mul_one]using this
  go_upto_region 12 with fail;clear d8 xf;obtain⟨ow3,gr3,sz3⟩:=R2.out.cell (k:=k) (o:=0) rfl HK.out (y:=z+1) (u:= .int .i64 (z+1)) rfl (by decide)
  obtain⟨W3,hW3⟩:∃W3,W2.setCell ⟨g,k,none⟩ (.int .i64 (z+1))=W3:=⟨_,rfl⟩;have e3:W2.setCell ⟨g,k*slE.k+0,none⟩ (.int .i64 (z+1))=W3:=by rw[<-hW3];simp[slE]
  rw[e3]at ow3 gr3 sz3;rw[hW3];rw[<-HEQ.out]at ow3;have hM3:=M2.out.setS (by rw[HEQ.out];rfl) gr3 sz3 ow3
  have M3:Hid (Mk w0 hi W3 b vl L V9 { m' with sl:=m'.sl.set k (z+1) } vt9 T'):=hM3.1;have K3:Hid (Keeps hi w W3):=K2.out.trans hM3.2;have E3:Hid (BoxT W3 pe 67 [.int .i64 2,.int .i64 (k:Int),.bool ew]):=hM3.2.1 _ _ _ E2.out loc_entry;have P3:Hid (BoxT W3 po 97 CO):=hM3.2.1 _ _ _ P2.out loc_ones;clear e3 hW3 ow3 gr3 sz3 hM3 M2 K2 E2 P2 R2;obtain⟨I,HI⟩:∃I:World->Prop,Hid (∀u,I u↔(u.cell? ⟨b,12,none⟩=some (.slice (some ⟨gt,0,none⟩) 2 ct)/\BoxT u pe 67 [.int .i64 2,.int .i64 (k:Int),.bool ew]/\BoxT u po 97 CO)):=⟨fun u=>(u.cell? ⟨b,12,none⟩=some (.slice (some ⟨gt,0,none⟩) 2 ct)/\BoxT u pe 67 [.int .i64 2,.int .i64 (k:Int),.bool ew]/\BoxT u po 97 CO),fun _=>Iff.rfl⟩
  have HIM:Hid (∀u m' T',Mk w0 hi u b vl L V9 m' vt9 T'->u.cell? ⟨b,12,none⟩=some (.slice (some ⟨gt,0,none⟩) 2 ct)):=show∀u,_ from fun u m' T' hm=>by
   have:=hm.box.box.c 12 rfl;rw[HTV.out]at this;exact this
  have hI0:I W3.drew:=(HI.out _).2 ⟨HIM.out _ _ _ (M3.out.grew (gW _)),E3.out.grew (gW _),P3.out.grew (gW _)⟩
  have hF0:Mk w0 hi W3.drew b vl L V9 { m' with sl:=m'.sl.set k (z+1) } vt9 T'/\Keeps hi w W3.drew:=⟨M3.out.grew (gW _),K3.out.trans (Keeps.grew (gW _))⟩
  have ht:∀y:HoldI I,y.world.cell? ⟨b,12,none⟩=some (.slice (some ⟨gt,0,none⟩) 2 ct):=fun y=>((HI.out _).1 y.holds).1
  have he0:∀y:HoldI I,y.world.cell? ⟨pe,0,none⟩=some (.int .i64 2):=fun y=>((HI.out _).1 y.holds).2.1.box.c 0 rfl
  have he1:∀y:HoldI I,y.world.cell? ⟨pe,1,none⟩=some (.int .i64 (k:Int)):=fun y=>((HI.out _).1 y.holds).2.1.box.c 1 rfl
  have he2:∀y:HoldI I,y.world.cell? ⟨pe,2,none⟩=some (.bool ew):=fun y=>((HI.out _).1 y.holds).2.1.box.c 2 rfl
  have hne:Nonempty (HoldI I):=⟨⟨_,hI0⟩⟩;refine wp_lax_tailD (I:=I) 17 [(14,fun _=>True)] (fun u=>Mk w0 hi u b vl L V9 { m' with sl:=m'.sl.set k (z+1) } vt9 T'/\Keeps hi w u) hI0 hF0 mixed (by kernel_rfl) rfl rfl (by decide) ?hS (by kernel_rfl) ?_
  case hS=>
   intro x hx;simp only[mC,nM,or_false]at hx;subst hx;exact⟨undef,trivial⟩
  simp only[List.take,List.drop];iterate 1 (refine laxD_quiet rfl rfl rfl (fun K hK=>?_);go_big_quiet_op;refine hK _ ?_;clear hK K)
  refine laxD_nilc (.tmp 91) ⟨b,0,none⟩ rfl rfl rfl rfl ?_;simp only[Act.put,sB,sS,sZ];iterate 4 (refine laxD_quiet rfl rfl rfl (fun K hK=>?_);go_big_quiet_op;refine hK _ ?_;clear hK K)
  refine laxD_nilc (.tmp 96) ⟨b,0,none⟩ rfl rfl rfl rfl ?_;simp only[Act.put,sB,sS,sZ];iterate 7 (refine laxD_quiet rfl rfl rfl (fun K hK=>?_);go_big_quiet_op;refine hK _ ?_;clear hK K)
  refine laxD_spec rfl rfl (fun _ u=>Mk w0 hi u b vl L V9 { m' with sl:=m'.sl.set k (z+1) } vt9 (T'.set 0 (updF fA kk ⟨2,(k:Int),ew⟩))/\Keeps hi w u) (fun w' hI' hF'=>?_) (fun v1 hv=>?_)
  ·obtain⟨i1,i2,i3⟩:=(HI.out _).1 hI';obtain⟨k1,k2⟩:=hF';have hr:=k1.rows.tt;rw[HTV.out]at hr;refine does_store_part (E:=flaE) (.tmp 104) (.tmp 101) 67 rfl w0.heap.size (.slice (some ⟨gt,0,none⟩) 2 ct) T' hr gt 0 (kk*3) rfl fA (updF fA kk ⟨2,(k:Int),ew⟩) TW.out.1 (env ⟨2,(k:Int),ew⟩) (by kernel_rfl) (flaE_upd fA hlt _) (by show kk*3+3<=192;omega) (enE.one _) _ rfl (by first | rfl | simp) (.agg (env ⟨2,(k:Int),ew⟩).toArray) rfl rfl (fun w2 ow gr sz=>?_)
   rw[<-HTV.out]at ow;have hM:=k1.setT (by rw[HTV.out];rfl) gr sz ow
   exact⟨(HI.out _).2 ⟨HIM.out _ _ _ hM.1,hM.2.1 _ _ _ i2 loc_entry,hM.2.1 _ _ _ i3 loc_ones⟩,trivial,hM.1,k2.trans hM.2⟩
  try simp only[Act.put]
  iterate 2 (refine laxD_quiet rfl rfl rfl (fun K hK=>?_);go_big_quiet_op;refine hK _ ?_;clear hK K)
  refine laxD_nil fun W8 hI8 hF8=>?_
  have M8:Hid (Mk w0 hi W8 b vl L V9 { m' with sl:=m'.sl.set k (z+1) } vt9 (T'.set 0 (updF fA kk ⟨2,(k:Int),ew⟩))):=hF8.1;have K8:Hid (Keeps hi w W8):=hF8.2;have P8:Hid (BoxT W8 po 97 CO):=((HI.out _).1 hI8).2.2;clear hF8 hI8 hI0 hF0 ht he0 he1 he2 hne HI;have R8:Hid (OwnRow flaE w0.heap.size W8 (.slice (some ⟨gt,0,none⟩) 2 ct) (T'.set 0 (updF fA kk ⟨2,(k:Int),ew⟩))):=show OwnRow _ _ _ _ _ by rw[<-HTV.out];exact M8.out.rows.tt
  refine wpList_store_part (E:=flaE) rfl (.tmp 106) (.tmp 102) 67 rfl w0.heap.size _ _ R8.out gt 1 (kk*3) rfl fB (updF fB kk ⟨2,(k:Int),ew⟩) (by rw[sN (by decide)];exact TW.out.2.1) (env ⟨2,(k:Int),ew⟩) (by kernel_rfl) (flaE_upd fB hlt _) (by show kk*3+3<=192;omega) (enE.one _) _ rfl (by first | rfl | simp) (.agg (env ⟨2,(k:Int),ew⟩).toArray) rfl rfl ?_
  intro W9 ow9 gr9 sz9;rw[<-HTV.out]at ow9;have hM9:=M8.out.setT (by rw[HTV.out];rfl) gr9 sz9 ow9
  have M9:Hid (Mk w0 hi W9 b vl L V9 { m' with sl:=m'.sl.set k (z+1) } vt9 ((T'.set 0 (updF fA kk ⟨2,(k:Int),ew⟩)).set 1 (updF fB kk ⟨2,(k:Int),ew⟩))):=hM9.1;have K9:Hid (Keeps hi w W9):=K8.out.trans hM9.2;have P9:Hid (BoxT W9 po 97 CO):=hM9.2.1 _ _ _ P8.out loc_ones;have B9:Hid (BInv { m' with sl:=m'.sl.set k (z+1) } ((T'.set 0 (updF fA kk ⟨2,(k:Int),ew⟩)).set 1 (updF fB kk ⟨2,(k:Int),ew⟩))):=(show BInv _ _ by
   have:=BW.out.forkS (s0:=s0) (s1:=⟨true,s0.ars,none8⟩) (by rw[SW.out.1];rfl) (by rw[SW.out.1];rfl) rfl TW.out.1 TW.out.2.1 hlt HBK.out HK.out (by rw[HAK.out]) (by rw[HAK.out])
   rw[HAK.out]at this;exact this)
  clear hM9 ow9 gr9 sz9 R8 M8 K8 P8;go_wp2
  go_roundg (64 -(kk+1))
  case measure=>omega
  exact⟨kk+1,{ m' with sl:=m'.sl.set k (z+1) },_,_,_,by omega,by omega,by go_num,M9.out,K9.out,B9.out,(show _/\_ from⟨SW.out.1,SW.out.2.1,SW.out.2.2.1,SW.out.2.2.2⟩),HNX.out _,P9.out⟩
 have hltz:¬(kk:Int)<64:=by omega
 have HE:Hid (Frk w0 hi b w vl L m s0.ars wr):=show Frk _ _ _ _ _ _ _ _ _ from⟨V9,m',vt9,T',MW.out,KW.out,BW.out,by rw[SW.out.1,HS.out];rfl,SW.out.2⟩
 go_wp2
 (first | go_end0 | ((try simp only[Exit.inBlock,Exit.then]);refine bodyPost_ret (results_none rfl _ _ _) rfl ?_))
 first | exact HE.out | exact⟨⟨_,rfl⟩,HE.out⟩
end
end Go.Proofs.YtangilolcekceaaGreat
