import Derived.Test.YtangilolcekceaaGreatPO5
import Derived.Deep.DeepCutAuto
import Derived.Shelf.Bits.Mul64
import Derived.Deep.Cut
namespace Go.Proofs.YtangilolcekceaaGreat
set_option maxRecDepth 100000
set_option maxHeartbeats 4000000
variable{Q:Exit->Act->World->Prop} {R:List Int} {Z:Int} {b i j:Nat} {m:Ma} {o:Oper} {ops:Array Oper} {vs:List Value} {w':World}
open Go.Proofs.Tryz
section
open Go.RowKit
theorem frE_prog (hca:caGo m none m.ca=0) (k:Nat):frE m k=if(frAt m k).r≠heldTo m m.sp.length [] sp00 (1,(k:Int))\/(0<=(frAt m k).f/\¬idxG m.ca ((frAt m k).f,(frAt m k).x)=some (k:Int))then 7 else 0:=by
 unfold frE;rw[held_all m sp00 (k:Int) (by decide:(1:Int)≠0),if_pos rfl]
 have:=has_cached hca k
 by_cases h:cachedN m.ca k=0
 ·have h2:¬idxG m.ca ((frAt m k).f,(frAt m k).x)=some (k:Int):=fun e=>(this.1 e) h
  simp only[h,h2,not_false_iff,and_true]
 have h2:idxG m.ca ((frAt m k).f,(frAt m k).x)=some (k:Int):=this.2 h;simp only[h,h2,not_true,and_false]
theorem sloE_prog (m:Ma) (k:Nat):sloE m k=if m.sl.getD k 0≠heldTo m m.sp.length [] sp00 (2,(k:Int))then 7 else 0:=by
 unfold sloE;have h:=held_all m sp00 (k:Int) (by decide:(2:Int)≠0)
 have h2:¬(2:Int)=1:=by decide
 rw[if_neg h2,Nat.add_zero]at h;rw[h]
theorem wrongCounts_any (V:MaV) (m:Ma) (w:World) (hm:MachAt w V m) (hca:caGo m none m.ca=0) (hsp4:m.sp.length<=4) (htb:∀s∈m.sp,tbW s.tb=0):
  Calls prog 39 #[.agg #[.slice V.f.a V.f.n V.f.c,.int .i64 m.hand,.slice V.s.a V.s.n V.s.c,.slice V.sb.a V.sb.n V.sb.c,.slice V.sq.a V.sq.n V.sq.c,.slice V.db.a V.db.n V.db.c,.slice V.dq.a V.dq.n V.dq.c,.slice V.fl.a V.fl.n V.fl.c,.int .i64 m.cnt,.slice V.ca.a V.ca.n V.ca.c,.slice V.sp.a V.sp.n V.sp.c]] w fun e w'=>e= .returned (.int .i64 (wCounts m))/\Grew w w':=by
 have HWI:Hid (∀W,Grew w W->Calls prog 58 #[.agg #[.slice V.f.a V.f.n V.f.c,.int .i64 m.hand,.slice V.s.a V.s.n V.s.c,.slice V.sb.a V.sb.n V.sb.c,.slice V.sq.a V.sq.n V.sq.c,.slice V.db.a V.db.n V.db.c,.slice V.dq.a V.dq.n V.dq.c,.slice V.fl.a V.fl.n V.fl.c,.int .i64 m.cnt,.slice V.ca.a V.ca.n V.ca.c,.slice V.sp.a V.sp.n V.sp.c]] W fun e w'=>∃B,e= .returned (.agg #[.slice V.f.a V.f.n V.f.c,.int .i64 m.hand,.slice V.s.a V.s.n V.s.c,.slice V.sb.a V.sb.n V.sb.c,.slice V.sq.a V.sq.n V.sq.c,.slice V.db.a V.db.n V.db.c,.slice V.dq.a V.dq.n V.dq.c,.slice V.fl.a V.fl.n V.fl.c,.int .i64 m.cnt,.slice V.ca.a V.ca.n V.ca.c,.slice V.sp.a V.sp.n V.sp.c,.map (some B)])/\MapF plK w' B (idxG m.ca)/\Grew W w'):=dD<|fun W hW=>withIndex_any V m W (hm.grew hW)
 have HHO:Hid (∀W,Grew w W->Calls prog 94 #[.agg #[.slice V.f.a V.f.n V.f.c,.int .i64 m.hand,.slice V.s.a V.s.n V.s.c,.slice V.sb.a V.sb.n V.sb.c,.slice V.sq.a V.sq.n V.sq.c,.slice V.db.a V.db.n V.db.c,.slice V.dq.a V.dq.n V.dq.c,.slice V.fl.a V.fl.n V.fl.c,.int .i64 m.cnt,.slice V.ca.a V.ca.n V.ca.c,.slice V.sp.a V.sp.n V.sp.c]] W fun e w'=>∃B,e= .returned (.map (some B))/\MapH enK w' B (heldTo m m.sp.length [] sp00)/\Grew W w'):=dD<|fun W hW=>holders_any V m W (hm.grew hW) hsp4 htb
 have HHC:Hid (∀(B k:Nat) W,Grew w W->k<m.fs.length->MapF plK W B (idxG m.ca)->Calls prog 95 #[.agg #[.slice V.f.a V.f.n V.f.c,.int .i64 m.hand,.slice V.s.a V.s.n V.s.c,.slice V.sb.a V.sb.n V.sb.c,.slice V.sq.a V.sq.n V.sq.c,.slice V.db.a V.db.n V.db.c,.slice V.dq.a V.dq.n V.dq.c,.slice V.fl.a V.fl.n V.fl.c,.int .i64 m.cnt,.slice V.ca.a V.ca.n V.ca.c,.slice V.sp.a V.sp.n V.sp.c,.map (some B)],.int .i64 (k:Int)] W fun e w'=>e= .returned (.bool (decide (idxG m.ca ((frAt m k).f,(frAt m k).x)=some (k:Int))))/\Grew W w'):=dD<|fun B k W hW hk hM=>hasCached_any V m B k (idxG m.ca) W (hm.grew hW) hk hM
 obtain⟨⟨fa,fn,fc⟩,⟨sa,sn,sc⟩,vsb,vsq,vdb,vdq,vfl,vca,vsp⟩:=V;dsimp only at HWI HHO HHC⊢;obtain⟨n1,n2,-⟩:=hm.ns;dsimp only at n1 n2;have HFR:Hid (FrRows w fa m.fs):=hm.frs;have HSL:Hid (SlRows w sa m.sl):=hm.sls;have HN1:Hid (m.fs.length=fn):=n1.symm;have HN2:Hid (m.sl.length=sn):=n2.symm;have hb1:fn<=9223372036854775807:=by have:=hm.fs.short;omega
 have hb2:sn<=9223372036854775807:=by have:=hm.sl.short;omega
 have HFE:Hid (∀k:Nat,frE m k=if(frAt m k).r≠(heldTo m m.sp.length [] sp00) (1,(k:Int))\/(0<=(frAt m k).f/\¬idxG m.ca ((frAt m k).f,(frAt m k).x)=some (k:Int))then 7 else 0):=dD<|fun k=>frE_prog hca k
 clear hm hca hsp4 htb n1 n2;obtain⟨Z,HZ⟩:∃Z,Hid (wCounts m=Z):=⟨_,rfl⟩;rw[HZ.out];have HZ1:Hid (∀k:Nat,k<m.fs.length->(∀j:Nat,j<k->frE m j=0)->frE m k=7->Z=7):=dD<|fun k hk h1 h2=>by
  have h3:=firstE_range hk h1 (by rw[h2];decide)
  rw[<-HZ.out];unfold wCounts;rw[h3,h2,if_neg (by decide)]
 have HZ2:Hid ((∀j:Nat,j<m.fs.length->frE m j=0)->∀k:Nat,k<m.sl.length->(∀j:Nat,j<k->sloE m j=0)->sloE m k=7->Z=7):=dD<|fun h0 k hk h1 h2=>by
  have h3:=firstE_range hk h1 (by rw[h2];decide)
  rw[<-HZ.out];unfold wCounts;rw[firstE_range_all h0,if_pos rfl,h3,h2]
 have HZ3:Hid ((∀j:Nat,j<m.fs.length->frE m j=0)->(∀j:Nat,j<m.sl.length->sloE m j=0)->Z=0):=dD<|fun h0 h1=>by
  rw[<-HZ.out];unfold wCounts;rw[firstE_range_all h0,if_pos rfl,firstE_range_all h1]
 obtain⟨W0,hW0⟩:∃W0,w.alloc (.cells #[.slice fa fn fc,.int .i64 m.hand,.slice sa sn sc,.slice vsb.a vsb.n vsb.c,.slice vsq.a vsq.n vsq.c,.slice vdb.a vdb.n vdb.c,.slice vdq.a vdq.n vdq.c,.slice vfl.a vfl.n vfl.c,.int .i64 m.cnt,.slice vca.a vca.n vca.c,.slice vsp.a vsp.n vsp.c] 40)=W0:=⟨_,rfl⟩;have HG0:=gA hW0
 have X0:=xA hW0
 have HW0:Hid (_=W0):=hW0;clear hW0
 go_enter func39,ntmps39
 go_upto_region 1 with fail;rw[HW0.out];have hx0:=X0.out.gw 0 rfl
 have hx1:=X0.out.gw 1 rfl
 have hx2:=X0.out.gw 2 rfl
 have hx3:=X0.out.gw 3 rfl
 have hx4:=X0.out.gw 4 rfl
 have hx5:=X0.out.gw 5 rfl
 have hx6:=X0.out.gw 6 rfl
 have hx7:=X0.out.gw 7 rfl
 have hx8:=X0.out.gw 8 rfl
 have hx9:=X0.out.gw 9 rfl
 have hx10:=X0.out.gw 10 rfl
 have hne:Nonempty (GrownW W0):=⟨⟨_,Grew.refl _⟩⟩;refine wp_lax_tail 5 [(1,⟨fun v=>∃B,v= .agg #[.slice fa fn fc,.int .i64 m.hand,.slice sa sn sc,.slice vsb.a vsb.n vsb.c,.slice vsq.a vsq.n vsq.c,.slice vdb.a vdb.n vdb.c,.slice vdq.a vdq.n vdq.c,.slice vfl.a vfl.n vfl.c,.int .i64 m.cnt,.slice vca.a vca.n vca.c,.slice vsp.a vsp.n vsp.c,.map (some B)],fun v w'=>∃B,v= .agg #[.slice fa fn fc,.int .i64 m.hand,.slice sa sn sc,.slice vsb.a vsb.n vsb.c,.slice vsq.a vsq.n vsq.c,.slice vdb.a vdb.n vdb.c,.slice vdq.a vdq.n vdq.c,.slice vfl.a vfl.n vfl.c,.int .i64 m.cnt,.slice vca.a vca.n vca.c,.slice vsp.a vsp.n vsp.c,.map (some B)]/\MapF plK w' B (idxG m.ca)⟩),(3,⟨fun v=>∃B,v= .map (some B),fun v w'=>∃B,v= .map (some B)/\MapH enK w' B (heldTo m m.sp.length [] sp00)⟩),(4,⟨fun v=>∃p,v= .pointer (some ⟨p,0,none⟩),fun v w'=>∃p,v= .pointer (some ⟨p,0,none⟩)/\Box w' p [.slice none 0 0,.int .i64 0,.slice none 0 0,.slice none 0 0,.slice none 0 0,.slice none 0 0,.slice none 0 0,.slice none 0 0,.int .i64 0,.slice none 0 0,.slice none 0 0,.map none]/\w.heap.size<=p⟩)] mixed (by kernel_rfl) rfl rfl (by decide) ?hS ?hp ?_
 case hS=>
  intro x hx;simp only[mC,nM,or_false]at hx
  rcases hx with rfl|rfl|rfl
  ·exact⟨_,0,rfl⟩
  ·exact⟨_,0,rfl⟩
  exact⟨_,0,rfl⟩
 case hp=>
  intro x hx;simp only[mC,nM,or_false]at hx
  rcases hx with rfl|rfl|rfl
  ·exact fun _ _ _ hg h=>by obtain⟨B,h1,h2⟩:=h;exact⟨B,h1,h2.grew hg⟩
  ·exact fun _ _ _ hg h=>by obtain⟨B,h1,h2⟩:=h;exact⟨B,h1,h2.grew hg⟩
  exact fun _ _ _ hg h=>by obtain⟨p,h1,h2,h3⟩:=h;exact⟨p,h1,h2.grew hg,h3⟩
 simp only[List.take,List.drop];iterate 1 (refine lax_quiet rfl rfl rfl (fun K hK=>?_);go_big_quiet_op;refine hK _ ?_;clear hK)
 refine lax_spec rfl rfl (fun w' hg hF=>?_) (fun v1 hv=>?_)
 ·refine Does.call [.agg #[.slice fa fn fc,.int .i64 m.hand,.slice sa sn sc,.slice vsb.a vsb.n vsb.c,.slice vsq.a vsq.n vsq.c,.slice vdb.a vdb.n vdb.c,.slice vdq.a vdq.n vdq.c,.slice vfl.a vfl.n vfl.c,.int .i64 m.cnt,.slice vca.a vca.n vca.c,.slice vsp.a vsp.n vsp.c]] rfl func58 rfl rfl rfl ?_;refine(HWI.out w' (HG0.out.trans hg)).mono ?_;rintro e w'' ⟨B,rfl,hM,hg2⟩;exact⟨_,rfl,hg2,⟨B,rfl⟩,B,rfl,hM⟩
 obtain⟨B1,rfl⟩:=hv;simp only[Act.put,sB,sS,sZ];iterate 1 (refine lax_quiet rfl rfl rfl (fun K hK=>?_);go_big_quiet_op;refine hK _ ?_;clear hK)
 refine lax_spec rfl rfl (fun w' hg hF=>?_) (fun v1 hv=>?_)
 ·refine Does.call [.agg #[.slice fa fn fc,.int .i64 m.hand,.slice sa sn sc,.slice vsb.a vsb.n vsb.c,.slice vsq.a vsq.n vsq.c,.slice vdb.a vdb.n vdb.c,.slice vdq.a vdq.n vdq.c,.slice vfl.a vfl.n vfl.c,.int .i64 m.cnt,.slice vca.a vca.n vca.c,.slice vsp.a vsp.n vsp.c]] rfl func94 rfl rfl rfl ?_;refine(HHO.out w' (HG0.out.trans hg)).mono ?_;rintro e w'' ⟨B,rfl,hM,hg2⟩;exact⟨_,rfl,hg2,⟨B,rfl⟩,B,rfl,hM⟩
 obtain⟨B2,rfl⟩:=hv;simp only[Act.put,sB,sS,sZ];refine lax_spec rfl rfl (fun w' hg hF=>?_) (fun v1 hv=>?_)
 ·have hnew:Box (w'.alloc (.cells #[.slice none 0 0,.int .i64 0,.slice none 0 0,.slice none 0 0,.slice none 0 0,.slice none 0 0,.slice none 0 0,.slice none 0 0,.int .i64 0,.slice none 0 0,.slice none 0 0,.map none] 117)) w'.heap.size [.slice none 0 0,.int .i64 0,.slice none 0 0,.slice none 0 0,.slice none 0 0,.slice none 0 0,.slice none 0 0,.slice none 0 0,.int .i64 0,.slice none 0 0,.slice none 0 0,.map none]:=Box.top _ _ _ rfl;have hle:w.heap.size<=w'.heap.size:=bS (HG0.out.trans hg);clear hx0 hx1 hx2 hx3 hx4 hx5 hx6 hx7 hx8 hx9 hx10 hne;refine Does.step (v:= .pointer (some ⟨w'.heap.size,0,none⟩)) (w':=w'.alloc (.cells #[.slice none 0 0,.int .i64 0,.slice none 0 0,.slice none 0 0,.slice none 0 0,.slice none 0 0,.slice none 0 0,.slice none 0 0,.int .i64 0,.slice none 0 0,.slice none 0 0,.map none] 117)) (by simp only[execOp];go_simp) ⟨grew_alloc _ _,⟨_,rfl⟩,_,rfl,hnew,hle⟩
 obtain⟨p3,rfl⟩:=hv;simp only[Act.put,sB,sS,sZ];refine lax_nil fun W3 hg3 hF=>?_
 obtain⟨B1',he1,hM1⟩:∃B,(Value.agg #[.slice fa fn fc,.int .i64 m.hand,.slice sa sn sc,.slice vsb.a vsb.n vsb.c,.slice vsq.a vsq.n vsq.c,.slice vdb.a vdb.n vdb.c,.slice vdq.a vdq.n vdq.c,.slice vfl.a vfl.n vfl.c,.int .i64 m.cnt,.slice vca.a vca.n vca.c,.slice vsp.a vsp.n vsp.c,.map (some B1)])= .agg #[.slice fa fn fc,.int .i64 m.hand,.slice sa sn sc,.slice vsb.a vsb.n vsb.c,.slice vsq.a vsq.n vsq.c,.slice vdb.a vdb.n vdb.c,.slice vdq.a vdq.n vdq.c,.slice vfl.a vfl.n vfl.c,.int .i64 m.cnt,.slice vca.a vca.n vca.c,.slice vsp.a vsp.n vsp.c,.map (some B)]/\MapF plK W3 B (idxG m.ca):=hF 1;obtain⟨B2',he2,hM2⟩:∃B,(Value.map (some B2))= .map (some B)/\MapH enK W3 B (heldTo m m.sp.length [] sp00):=hF 3;obtain⟨p3',he3,hB3,hle3⟩:∃p,(Value.pointer (some ⟨p3,0,none⟩))= .pointer (some ⟨p,0,none⟩)/\Box W3 p [.slice none 0 0,.int .i64 0,.slice none 0 0,.slice none 0 0,.slice none 0 0,.slice none 0 0,.slice none 0 0,.slice none 0 0,.int .i64 0,.slice none 0 0,.slice none 0 0,.map none]/\w.heap.size<=p:=hF 4;have e1:B1'=B1:=by simp at he1;exact he1.symm
 have e2:B2'=B2:=by simp at he2;exact he2.symm
 have e3:p3'=p3:=by simp at he3;exact he3.symm
 subst e1 e2 e3;have M1:Hid (MapF plK W3 B1' (idxG m.ca)):=hM1;have M2:Hid (MapH enK W3 B2' (heldTo m m.sp.length [] sp00)):=hM2;have Y3:Hid (Box W3 p3' [.slice none 0 0,.int .i64 0,.slice none 0 0,.slice none 0 0,.slice none 0 0,.slice none 0 0,.slice none 0 0,.slice none 0 0,.int .i64 0,.slice none 0 0,.slice none 0 0,.map none]):=hB3;have HL3:Hid (w.heap.size<=p3'):=hle3;have HG3:=dD (HG0.out.trans hg3);have X3:=dD (X0.out.grew hg3);clear he1 he2 he3 hM1 hM2 hB3 hle3 hg3 hF hx0 hx1 hx2 hx3 hx4 hx5 hx6 hx7 hx8 hx9 hx10 hne;have HXP:Hid (w.heap.size≠p3'):=show _≠_ from fun e=>by
  obtain⟨t1,h1⟩:=X3.out;obtain⟨t2,h2⟩:=Y3.out;rw[<-e,h1]at h2
  simp at h2
 go_wp2_with (refine wp_storeAll rfl 117 (.tmp 3) (.tmp 10) rfl p3' rfl [.slice fa fn fc,.int .i64 m.hand,.slice sa sn sc,.slice vsb.a vsb.n vsb.c,.slice vsq.a vsq.n vsq.c,.slice vdb.a vdb.n vdb.c,.slice vdq.a vdq.n vdq.c,.slice vfl.a vfl.n vfl.c,.int .i64 m.cnt,.slice vca.a vca.n vca.c,.slice vsp.a vsp.n vsp.c,.map (some B1')] rfl Y3.out rfl (by kernel_rfl) (fun v hv=>by
    simp only[mC,nM,or_false]at hv
    rcases hv with rfl|rfl|rfl|rfl|rfl|rfl|rfl|rfl|rfl|rfl|rfl|rfl <;> rfl) ?_)
 intro W4 hb4 hg4 _;have Y4:Hid (Box W4 p3' [.slice fa fn fc,.int .i64 m.hand,.slice sa sn sc,.slice vsb.a vsb.n vsb.c,.slice vsq.a vsq.n vsq.c,.slice vdb.a vdb.n vdb.c,.slice vdq.a vdq.n vdq.c,.slice vfl.a vfl.n vfl.c,.int .i64 m.cnt,.slice vca.a vca.n vca.c,.slice vsp.a vsp.n vsp.c,.map (some B1')]):=hb4;have X4:Hid (Box W4 w.heap.size [.slice fa fn fc,.int .i64 m.hand,.slice sa sn sc,.slice vsb.a vsb.n vsb.c,.slice vsq.a vsq.n vsq.c,.slice vdb.a vdb.n vdb.c,.slice vdq.a vdq.n vdq.c,.slice vfl.a vfl.n vfl.c,.int .i64 m.cnt,.slice vca.a vca.n vca.c,.slice vsp.a vsp.n vsp.c]):=X3.out.grown hg4 HXP.out;have N1:Hid (MapF plK W4 B1' (idxG m.ca)):=M1.out.kept hg4 (fun e=>by cases e;exact Y3.out.ne_map M1.out rfl)
 have N2:Hid (MapH enK W4 B2' (heldTo m m.sp.length [] sp00)):=dD<|by
  obtain⟨g,k1,k2⟩:=M2.out;exact⟨g,k1.kept hg4 (fun e=>by cases e;exact Y3.out.ne_map k1 rfl),k2⟩
 have HG4:Hid (Grew w W4):=dD<|grew_grown HG3.out hg4 HL3.out
 clear hb4 hg4;have x0:=X4.out.c 0 rfl;go_wp2;clear x0
 go_loopg [17] fn (fun gg s17 wr=>∃kk:Nat,kk<=fn/\fn - kk<=gg/\s17= .int .i64 kk/\Hid (Grew W4 wr)/\Hid (∀j:Nat,j<kk->frE m j=0))
 case atStart=>exact⟨0,nZ _,by omega,rfl,Grew.refl _,fun j hj=>absurd hj (nL _)⟩
 obtain⟨kk,hkk,hgg,rfl,BW,OW⟩:=hrel
 by_cases hlt:kk<fn
 ·have hltz:(kk:Int)< (fn:Int):=by omega
  have HKL:Hid (kk<m.fs.length):=dD<|by rw[HN1.out];exact hlt
  obtain⟨q,HQ⟩:∃q,Hid (m.fs[kk]? =some q):=⟨_,gE HKL.out⟩;have HFQ:Hid (frAt m (kk:Int)=q):=dD<|by unfold frAt;rw[tN,gD,HQ.out];rfl
  obtain⟨ad,rfl,hl⟩:=HFR.out kk q HQ.out;obtain⟨d0,d1,d2,d3,d4,d5,d6,d7,d8,d9,d10,d11,d12⟩:=hl wr (HG4.out.trans BW.out);clear hl;go_upto_region 5 with fail;obtain⟨W5,hW5⟩:∃W5,wr.alloc (.cells #[.int .u8 q.p.b0,.int .u8 q.p.b1,.int .u8 q.p.b2,.int .u8 q.p.b3,.int .u8 q.p.b4,.int .u8 q.p.b5,.int .u8 q.p.b6,.int .u8 q.p.b7,.int .i64 q.r,.bool q.u,.bool q.d,.int .i64 q.f,.int .i64 q.x] 59)=W5:=⟨_,rfl⟩;have HG5:=gT hW5 BW
  have HGw5:=dD (HG4.out.trans HG5.out);have F5:=xA hW5
  have Y5:=dD (Y4.out.grew HG5.out);rw[hW5];clear hW5 d0 d1 d2 d3 d4 d5 d6 d7 d8 d9 d10 d11 d12;obtain⟨pf,HPF⟩:∃pf,Hid (wr.heap.size=pf):=⟨_,rfl⟩;rw[HPF.out]at F5⊢;obtain⟨h,HHK⟩:∃h,Hid ((heldTo m m.sp.length [] sp00) (1,(kk:Int))=h):=⟨_,rfl⟩;have hlk:∀y:GrownW W5,(Instr.lookup 163 (.map (some B2')) (.agg #[.int .i64 1,.int .i64 (kk:Int),.bool false]) false).run prog y.world= .ok (.int .i64 h) y.world:=fun y=>by
   have:=(N2.out.grew (HG5.out.trans y.grew)).look (K:=enK) underlying163 (Tryz.zeroInt _) (1,(kk:Int));rw[HHK.out]at this;exact this
  have hf8:=F5.out.gw 8 rfl
  have hf11:=F5.out.gw 11 rfl
  have hy0:=Y5.out.gw 0 rfl
  have hy1:=Y5.out.gw 1 rfl
  have hy2:=Y5.out.gw 2 rfl
  have hy3:=Y5.out.gw 3 rfl
  have hy4:=Y5.out.gw 4 rfl
  have hy5:=Y5.out.gw 5 rfl
  have hy6:=Y5.out.gw 6 rfl
  have hy7:=Y5.out.gw 7 rfl
  have hy8:=Y5.out.gw 8 rfl
  have hy9:=Y5.out.gw 9 rfl
  have hy10:=Y5.out.gw 10 rfl
  have hy11:=Y5.out.gw 11 rfl
  have hne:Nonempty (GrownW W5):=⟨⟨_,Grew.refl _⟩⟩;have HFK:=HFE.out kk;rw[HFQ.out,HHK.out]at HFK
  by_cases hr:q.r=h
  ·have hre:(q.r != h)=false:=by simp[hr]
   by_cases hf0:0<=q.f
   ·have hf0d:decide (0<=q.f)=true:=by simpa using hf0
    obtain⟨U,HU⟩:∃U,Hid (decide (idxG m.ca ((frAt m (kk:Int)).f,(frAt m (kk:Int)).x)=some (kk:Int))=U):=⟨_,rfl⟩;have HUF:Hid (frE m kk=if U=true then 0 else 7):=dD<|by
     have h1:=HU.out;rw[HFQ.out]at h1;rw[HFK,<-h1]
     by_cases hc:idxG m.ca (q.f,q.x)=some (kk:Int)
     ·rw[if_neg (by simp[hr,hc]),if_pos (by simpa using hc)]
     rw[if_pos (.inr ⟨hf0,hc⟩),if_neg (by simpa using hc)]
    have HCC:Hid (∀W,Grew W4 W->Calls prog 95 #[.agg #[.slice (some ad) fn fc,.int .i64 m.hand,.slice sa sn sc,.slice vsb.a vsb.n vsb.c,.slice vsq.a vsq.n vsq.c,.slice vdb.a vdb.n vdb.c,.slice vdq.a vdq.n vdq.c,.slice vfl.a vfl.n vfl.c,.int .i64 m.cnt,.slice vca.a vca.n vca.c,.slice vsp.a vsp.n vsp.c,.map (some B1')],.int .i64 (kk:Int)] W fun e w'=>e= .returned (.bool U)/\Grew W w'):=dD<|fun W hW=>by
     have h1:=HHC.out B1' kk W (HG4.out.trans hW) HKL.out (N1.out.grew hW);rw[HU.out]at h1;exact h1
    clear hr hf0;refine wp_lax [(14,⟨fun v=>v= .bool U,fun v w'=>True⟩)] mixed (by kernel_rfl) ?hS ?hp ?_
    case hS=>
     intro x hx;simp only[mC,nM,or_false]at hx;subst hx;exact⟨_,rfl⟩
    case hp=>
     intro x hx;simp only[mC,nM,or_false]at hx;subst hx;exact fun _ _ _ _ h=>h
    iterate 14 (refine lax_quiet rfl rfl rfl (fun K hK=>?_);go_big_quiet_op;refine hK _ ?_;clear hK)
    refine lax_spec rfl rfl (fun w' hg hF=>?_) (fun v1 hv=>?_)
    ·refine Does.call [.agg #[.slice (some ad) fn fc,.int .i64 m.hand,.slice sa sn sc,.slice vsb.a vsb.n vsb.c,.slice vsq.a vsq.n vsq.c,.slice vdb.a vdb.n vdb.c,.slice vdq.a vdq.n vdq.c,.slice vfl.a vfl.n vfl.c,.int .i64 m.cnt,.slice vca.a vca.n vca.c,.slice vsp.a vsp.n vsp.c,.map (some B1')],.int .i64 (kk:Int)] rfl func95 rfl rfl rfl ?_;refine(HCC.out w' (HG5.out.trans hg)).mono ?_;rintro e w'' ⟨rfl,hg3⟩;exact⟨_,rfl,hg3,rfl,trivial⟩
    subst hv;simp only[Act.put,sB,sS,sZ];iterate 3 (refine lax_quiet rfl rfl rfl (fun K hK=>?_);go_big_quiet_op;refine hK _ ?_;clear hK)
    refine lax_nil fun W6 hg6 hF=>?_
    have HG6:=dD (HG5.out.trans hg6);clear hg6 hF hlk hf8 hf11 hy0 hy1 hy2 hy3 hy4 hy5 hy6 hy7 hy8 hy9 hy10 hy11 hne
    cases U with
    | true=>
     have OW':Hid (∀j:Nat,j<kk+1->frE m j=0):=dD<|fun j hj=>by
      by_cases e:j=kk
      ·rw[e,HUF.out,if_pos rfl]
      exact OW.out j (by omega)
     go_wp2
     go_roundg (fn -(kk+1))
     case measure=>omega
     exact⟨kk+1,by omega,by omega,by go_num,HG6.out,OW'.out⟩
    | false=>
     have HZE:Hid (Z=7):=HZ1.out kk HKL.out OW.out (by rw[HUF.out,if_neg (by decide)])
     have HGW:=dD (HG4.out.trans HG6.out);go_wp2;go_ret;exact⟨by rw[HZE.out];rfl,HGW.out⟩
   have hf0d:decide (0<=q.f)=false:=by simpa using hf0
   have HFZ:Hid (frE m kk=0):=dD<|by rw[HFK,if_neg (by simp[hr,hf0])]
   have OW':Hid (∀j:Nat,j<kk+1->frE m j=0):=dD<|fun j hj=>by
    by_cases e:j=kk
    ·rw[e];exact HFZ.out
    exact OW.out j (by omega)
   clear hr hf0;refine wp_lax [] mixed (by kernel_rfl) (by simp) (by simp) ?_
   iterate 12 (refine lax_quiet rfl rfl rfl (fun K hK=>?_);go_big_quiet_op;refine hK _ ?_;clear hK)
   refine lax_skip ?_ ?_
   ·kernel_rfl
   simp only[Act.put,sB,sS,sZ];refine lax_skip ?_ ?_
   ·kernel_rfl
   simp only[Act.put,sB,sS,sZ];refine lax_skip ?_ ?_
   ·kernel_rfl
   simp only[Act.put,sB,sS,sZ];refine lax_skip ?_ ?_
   ·kernel_rfl
   simp only[Act.put,sB,sS,sZ];iterate 2 (refine lax_quiet rfl rfl rfl (fun K hK=>?_);go_big_quiet_op;refine hK _ ?_;clear hK)
   refine lax_nil fun W6 hg6 hF=>?_
   have HG6:=dD (HG5.out.trans hg6);clear hg6 hF hlk hf8 hf11 hy0 hy1 hy2 hy3 hy4 hy5 hy6 hy7 hy8 hy9 hy10 hy11 hne;go_wp2
   go_roundg (fn -(kk+1))
   case measure=>omega
   exact⟨kk+1,by omega,by omega,by go_num,HG6.out,OW'.out⟩
  have hre:(q.r != h)=true:=by simp[hr]
  have HZE:Hid (Z=7):=HZ1.out kk HKL.out OW.out (by rw[HFK,if_pos (.inl hr)])
  clear hr;refine wp_lax [] mixed (by kernel_rfl) (by simp) (by simp) ?_
  iterate 8 (refine lax_quiet rfl rfl rfl (fun K hK=>?_);go_big_quiet_op;refine hK _ ?_;clear hK)
  refine lax_skip ?_ ?_
  ·kernel_rfl
  simp only[Act.put,sB,sS,sZ];refine lax_skip ?_ ?_
  ·kernel_rfl
  simp only[Act.put,sB,sS,sZ];refine lax_skip ?_ ?_
  ·kernel_rfl
  simp only[Act.put,sB,sS,sZ];refine lax_skip ?_ ?_
  ·kernel_rfl
  simp only[Act.put,sB,sS,sZ];refine lax_skip ?_ ?_
  ·kernel_rfl
  simp only[Act.put,sB,sS,sZ];refine lax_skip ?_ ?_
  ·kernel_rfl
  simp only[Act.put,sB,sS,sZ];refine lax_skip ?_ ?_
  ·kernel_rfl
  simp only[Act.put,sB,sS,sZ];refine lax_skip ?_ ?_
  ·kernel_rfl
  simp only[Act.put,sB,sS,sZ];refine lax_skip ?_ ?_
  ·kernel_rfl
  simp only[Act.put,sB,sS,sZ];iterate 1 (refine lax_quiet rfl rfl rfl (fun K hK=>?_);go_big_quiet_op;refine hK _ ?_;clear hK)
  refine lax_nil fun W6 hg6 hF=>?_
  have HG6:=dD (HGw5.out.trans hg6);clear hg6 hF hlk hf8 hf11 hy0 hy1 hy2 hy3 hy4 hy5 hy6 hy7 hy8 hy9 hy10 hy11 hne;go_wp2;go_ret;exact⟨by rw[HZE.out];rfl,HG6.out⟩
 have hltz:¬(kk:Int)< (fn:Int):=by omega
 have:kk=fn:=by omega
 subst this;have OA:Hid (∀j:Nat,j<m.fs.length->frE m j=0):=dD<|fun j hj=>OW.out j (by rw[<-HN1.out];exact hj)
 have x2:=(X4.out.grew BW.out).c 2 rfl;go_wp2;clear x2;have HBW:Hid (Grew W4 wr):=BW
 go_loopg [44] sn (fun gg s44 wr=>∃i:Nat,i<=sn/\sn - i<=gg/\s44= .int .i64 i/\Hid (Grew W4 wr)/\Hid (∀j:Nat,j<i->sloE m j=0))
 case atStart=>exact⟨0,nZ _,by omega,rfl,HBW.out,fun j hj=>absurd hj (nL _)⟩
 obtain⟨i,hi,hg2,rfl,BW,OW⟩:=hrel
 by_cases hlt2:i<sn
 ·have hltz2:(i:Int)< (sn:Int):=by omega
  have HKL:Hid (i<m.sl.length):=dD<|by rw[HN2.out];exact hlt2
  obtain⟨z,HZI⟩:∃z,Hid (m.sl[i]? =some z):=⟨_,gE HKL.out⟩;obtain⟨ad,rfl,hl⟩:=HSL.out i z HZI.out;have d0:=hl wr (HG4.out.trans BW.out);clear hl;obtain⟨h,HHK⟩:∃h,Hid ((heldTo m m.sp.length [] sp00) (2,(i:Int))=h):=⟨_,rfl⟩;have hlk:(Instr.lookup 163 (.map (some B2')) (.agg #[.int .i64 2,.int .i64 (i:Int),.bool false]) false).run prog wr= .ok (.int .i64 h) wr:=by
   have:=(N2.out.grew BW.out).look (K:=enK) underlying163 (Tryz.zeroInt _) (2,(i:Int));rw[HHK.out]at this;exact this
  have HSE:Hid (sloE m i=if z≠h then 7 else 0):=dD<|by rw[sloE_prog,gD,HZI.out,HHK.out];rfl
  by_cases hr:z=h
  ·have hre:(z != h)=false:=by simp[hr]
   have OW':Hid (∀j:Nat,j<i+1->sloE m j=0):=dD<|fun j hj=>by
    by_cases e:j=i
    ·rw[e,HSE.out,if_neg (by simp[hr])]
    exact OW.out j (by omega)
   clear hr;go_wp2
   go_roundg (sn -(i+1))
   case measure=>omega
   exact⟨i+1,by omega,by omega,by go_num,BW.out,OW'.out⟩
  have hre:(z != h)=true:=by simp[hr]
  have HZE:Hid (Z=7):=HZ2.out OA.out i HKL.out OW.out (by rw[HSE.out,if_pos hr])
  have HGW:=dD (HG4.out.trans BW.out);clear hr;go_wp2;go_ret;exact⟨by rw[HZE.out];rfl,HGW.out⟩
 have hltz2:¬(i:Int)< (sn:Int):=by omega
 have:i=sn:=by omega
 subst this;have HZE:Hid (Z=0):=HZ3.out OA.out fun j hj=>OW.out j (by rw[<-HN2.out];exact hj)
 have HGW:=dD (HG4.out.trans BW.out);go_wp2;go_ret;exact⟨by rw[HZE.out];rfl,HGW.out⟩
def chk:List Nat:=[34,35,36,37,38,39]
def chkE (m:Ma):List Int:=[firstE (wPartsL m),firstE (wDisksL m),wSpaces m,wCache m,wPages m,wCounts m]
theorem wSpaces_four (h:wSpaces m=0):m.sp.length<=4:=by
 unfold wSpaces at h
 split at h
 ·cases h
 omega
theorem chk_any (V:MaV) (m:Ma) (w:World) (hm:MachAt w V m) (k:Nat) (hb:∀j,j<k->(chkE m)[j]?.getD 0=0) (f:Nat) (hf:chk[k]? =some f) (e:Int) (he:(chkE m)[k]? =some e):
  Calls prog f #[.agg #[.slice V.f.a V.f.n V.f.c,.int .i64 m.hand,.slice V.s.a V.s.n V.s.c,.slice V.sb.a V.sb.n V.sb.c,.slice V.sq.a V.sq.n V.sq.c,.slice V.db.a V.db.n V.db.c,.slice V.dq.a V.dq.n V.dq.c,.slice V.fl.a V.fl.n V.fl.c,.int .i64 m.cnt,.slice V.ca.a V.ca.n V.ca.c,.slice V.sp.a V.sp.n V.sp.c]] w fun r w'=>r= .returned (.int .i64 e)/\Grew w w':=by
 have h1:1<=k->Right1 m:=fun h=>right1.1 (hb 0 (by omega))
 have h3:3<=k->RightSp m/\m.sp.length<=4:=fun h=>⟨rightSp (hb 2 (by omega)),wSpaces_four (hb 2 (by omega))⟩
 have h4:4<=k->caGo m none m.ca=0:=fun h=>hb 3 (by omega)
 match k,hf,he with
 | 0,hf,he=>cases hf;cases he;exact wrongParts_any V m w hm
 | 1,hf,he=>cases hf;cases he;exact wrongDisks_any V m w hm (h1 (by omega))
 | 2,hf,he=>cases hf;cases he;exact wrongSpaces_any V m w hm
 | 3,hf,he=>cases hf;cases he;exact wrongCache_any V m w hm (h1 (by omega))
 | 4,hf,he=>cases hf;cases he;exact wrongPagesM_any V m w hm (h1 (by omega)) (h3 (by omega)).1
 | 5,hf,he=>cases hf;cases he;exact wrongCounts_any V m w hm (h4 (by omega)) (h3 (by omega)).2 (fun s hs=>((h3 (by omega)).1 s hs).2)
 | k+6,hf,he=>simp[chk]at hf
theorem chk_enters (k f:Nat) (hf:chk[k]? =some f):∀args w,(callFunc f args).run prog w= .ok (.enter f args) w:=by
 match k,hf with
 | 0,hf=>cases hf;exact enters_of func34 (by kernel_rfl) rfl
 | 1,hf=>cases hf;exact enters_of func35 (by kernel_rfl) rfl
 | 2,hf=>cases hf;exact enters_of func36 (by kernel_rfl) rfl
 | 3,hf=>cases hf;exact enters_of func37 (by kernel_rfl) rfl
 | 4,hf=>cases hf;exact enters_of func38 (by kernel_rfl) rfl
 | 5,hf=>cases hf;exact enters_of func39 (by kernel_rfl) rfl
 | k+6,hf=>simp[chk]at hf
def fnV (f:Nat):Value:= .func (.func f) #[] #[]
theorem wrongM_any (V:MaV) (m:Ma) (w:World) (hm:MachAt w V m):
  Calls prog 9 #[.agg #[.slice V.f.a V.f.n V.f.c,.int .i64 m.hand,.slice V.s.a V.s.n V.s.c,.slice V.sb.a V.sb.n V.sb.c,.slice V.sq.a V.sq.n V.sq.c,.slice V.db.a V.db.n V.db.c,.slice V.dq.a V.dq.n V.dq.c,.slice V.fl.a V.fl.n V.fl.c,.int .i64 m.cnt,.slice V.ca.a V.ca.n V.ca.c,.slice V.sp.a V.sp.n V.sp.c]] w fun e w'=>e= .returned (.int .i64 (maW m))/\Grew w w':=by
 have HCK:Hid (∀W,Grew w W->∀(k:Nat),(∀j,j<k->(chkE m)[j]?.getD 0=0)->∀f,chk[k]? =some f->∀e,(chkE m)[k]? =some e->Calls prog f #[.agg #[.slice V.f.a V.f.n V.f.c,.int .i64 m.hand,.slice V.s.a V.s.n V.s.c,.slice V.sb.a V.sb.n V.sb.c,.slice V.sq.a V.sq.n V.sq.c,.slice V.db.a V.db.n V.db.c,.slice V.dq.a V.dq.n V.dq.c,.slice V.fl.a V.fl.n V.fl.c,.int .i64 m.cnt,.slice V.ca.a V.ca.n V.ca.c,.slice V.sp.a V.sp.n V.sp.c]] W fun r w'=>r= .returned (.int .i64 e)/\Grew W w'):=dD<|fun W hW k hb f hf e he=>chk_any V m W (hm.grew hW) k hb f hf e he
 clear hm;obtain⟨Z,HZ⟩:∃Z,Hid (maW m=Z):=⟨_,rfl⟩;rw[HZ.out];have HZ2:Hid (firstE (chkE m)=Z):=dD<|by rw[<-HZ.out,maW_six];rfl
 obtain⟨W0,hW0⟩:∃W0,(w.alloc (.cells #[.slice V.f.a V.f.n V.f.c,.int .i64 m.hand,.slice V.s.a V.s.n V.s.c,.slice V.sb.a V.sb.n V.sb.c,.slice V.sq.a V.sq.n V.sq.c,.slice V.db.a V.db.n V.db.c,.slice V.dq.a V.dq.n V.dq.c,.slice V.fl.a V.fl.n V.fl.c,.int .i64 m.cnt,.slice V.ca.a V.ca.n V.ca.c,.slice V.sp.a V.sp.n V.sp.c] 40)).alloc (.cells #[.func (.func 34) #[] #[],.func (.func 35) #[] #[],.func (.func 36) #[] #[],.func (.func 37) #[] #[],.func (.func 38) #[] #[],.func (.func 39) #[] #[]] 44)=W0:=⟨_,rfl⟩;have HG0:=gD2 hW0
 have X0:=x2a hW0
 have Y0:Hid (Box W0 (w.heap.size+1) (chk.map fnV)):=dD<|by rw[<-hW0];exact Box.top _ (chk.map fnV) _ (by simp)
 have HW0:Hid (_=W0):=hW0;clear hW0
 go_enter func9,ntmps9
 go_upto_region 2 with fail;rw[HW0.out];go_wp2
 go_loopg [10] 6 (fun gg s10 wr=>∃kk:Nat,kk<=6/\6 - kk<=gg/\s10= .int .i64 kk/\Hid (Grew w wr)/\Hid (Box wr w.heap.size [.slice V.f.a V.f.n V.f.c,.int .i64 m.hand,.slice V.s.a V.s.n V.s.c,.slice V.sb.a V.sb.n V.sb.c,.slice V.sq.a V.sq.n V.sq.c,.slice V.db.a V.db.n V.db.c,.slice V.dq.a V.dq.n V.dq.c,.slice V.fl.a V.fl.n V.fl.c,.int .i64 m.cnt,.slice V.ca.a V.ca.n V.ca.c,.slice V.sp.a V.sp.n V.sp.c])/\Hid (Box wr (w.heap.size+1) (chk.map fnV))/\Hid (∀j,j<kk->(chkE m)[j]?.getD 0=0))
 case atStart=>exact⟨0,nZ _,by omega,rfl,HG0.out,X0.out,Y0.out,fun j hj=>absurd hj (nL _)⟩
 obtain⟨kk,hkk,hgg,rfl,BW,XW,YW,OW⟩:=hrel
 by_cases hlt:kk<6
 ·have hltz:(kk:Int)<6:=by omega
  obtain⟨f,HF⟩:∃f,Hid (chk[kk]? =some f):=⟨_,gE (by simp[chk];exact hlt)⟩
  obtain⟨e,HE⟩:∃e,Hid ((chkE m)[kk]? =some e):=⟨_,gE (by simp[chkE];exact hlt)⟩
  have y0:wr.cell? ⟨w.heap.size+1,kk,none⟩=some (.func (.func f) #[] #[]):=YW.out.c kk (by rw[List.getElem?_map,HF.out];rfl)
  have eg:=chk_enters kk f HF.out;have hcall:=HCK.out wr BW.out kk OW.out f HF.out e HE.out;obtain⟨x0,x1,x2,x3,x4,x5,x6,x7,x8,x9,x10⟩:=XW.out.c11;go_wp2_with fail;refine hcall.mono ?_;clear hcall x0 x1 x2 x3 x4 x5 x6 x7 x8 x9 x10 y0;rintro e' W2 ⟨rfl,hg2⟩;have HG2:=dD (BW.out.trans hg2);have X2:=dD (XW.out.grew hg2);have Y2:=dD (YW.out.grew hg2);clear hg2 eg
  by_cases h0:e=0
  ·have h0e:(e != 0)=false:=by simp[h0]
   have OW':Hid (∀j,j<kk+1->(chkE m)[j]?.getD 0=0):=dD<|fun j hj=>by
    by_cases ej:j=kk
    ·rw[ej,HE.out,h0];rfl
    exact OW.out j (by omega)
   clear h0;go_wp2
   go_roundg (6 -(kk+1))
   case measure=>omega
   exact⟨kk+1,by omega,by omega,by go_num,HG2.out,X2.out,Y2.out,OW'.out⟩
  have h0e:(e != 0)=true:=by simp[h0]
  have HZE:Hid (Z=e):=dD<|by
   rw[<-HZ2.out];exact firstE_take (fun j x hj hx=>by have:=OW.out j hj;rw[hx]at this;exact this) HE.out h0
  clear h0;go_wp2;go_ret;exact⟨by rw[HZE.out];rfl,HG2.out⟩
 have hltz:¬(kk:Int)<6:=by omega
 have:kk=6:=by omega
 subst this;have HZE:Hid (Z=0):=dD<|by
  rw[<-HZ2.out];refine firstE_none fun j x hx=>?_
  have hj:=(gS.1 hx).1;have:=OW.out j (by simpa [chkE]using hj)
  rw[hx]at this;exact this
 go_wp2;go_ret;exact⟨by rw[HZE.out];rfl,BW.out⟩
def holdTo (m:Ma) (kind k:Int) (p:Nat):Nat:=holdN ((m.sp.take p).map flatN) kind k
theorem holdTo_succ {kind k:Int} {p:Nat} {s:Sp} (h:m.sp[p]? =some s):holdTo m kind k (p+1)=holdTo m kind k p+cntTo (flatN s) kind k 64:=by
 unfold holdTo holdN;rw[List.take_add_one,h];simp
theorem holdTo_all {kind k:Int}:holdTo m kind k m.sp.length=holders m kind k:=by
 unfold holdTo holders;rw[List.take_length]
theorem holdTo_le {kind k:Int} (p:Nat):holdTo m kind k p<=64*p:=by
 have:=hold_le ((m.sp.take p).map flatN) kind k;simp only[List.length_map,List.length_take]at this;unfold holdTo;omega
theorem refHolders_any (V:MaV) (m:Ma) (kind k:Int) (w:World) (hm:MachAt w V m) (h4:m.sp.length<=4) (h8:∀s∈m.sp,∀h∈s.tb,h.length<=8):
  Calls prog 44 #[.agg #[.slice V.f.a V.f.n V.f.c,.int .i64 m.hand,.slice V.s.a V.s.n V.s.c,.slice V.sb.a V.sb.n V.sb.c,.slice V.sq.a V.sq.n V.sq.c,.slice V.db.a V.db.n V.db.c,.slice V.dq.a V.dq.n V.dq.c,.slice V.fl.a V.fl.n V.fl.c,.int .i64 m.cnt,.slice V.ca.a V.ca.n V.ca.c,.slice V.sp.a V.sp.n V.sp.c],.int .i64 kind,.int .i64 k] w fun e w'=>e= .returned (.int .i64 (holders m kind k:Int))/\Grew w w':=by
 obtain⟨-,-,-,-,-,-,-,-,n9⟩:=hm.ns;obtain⟨xs,hxl,hrow,hsp⟩:=hm.spaces;have HR:Hid (∀(j:Nat) x,xs[j]? =some x->∃ad,V.sp.a=some ad/\∀W,Grew w W->Sp10 W (ad.add (j*10)) x):=dD<|hrow
 have HS:Hid (∀(i:Nat) x s,xs[i]? =some x->m.sp[i]? =some s->SpaceAt w x s):=dD<|hsp
 obtain⟨N,HN⟩:∃N,Hid (m.sp.length=N):=⟨_,rfl⟩;have hN4:N<=4:=by rw[<-HN.out];exact h4
 have HXL:Hid (xs.length=N):=dD<|by rw[hxl];exact HN.out
 have H8:Hid (∀s∈m.sp,∀h∈s.tb,h.length<=8):=dD<|h8
 obtain⟨vf,vs,vsb,vsq,vdb,vdq,vfl,vca,⟨spa,spn,spc⟩⟩:=V;dsimp only at n9 HR⊢;obtain rfl:spn=N:=by rw[n9];exact HN.out
 clear hm hrow hsp hxl n9 h8 h4;obtain⟨W0,hW0⟩:∃W0,w.alloc (.cells #[.slice vf.a vf.n vf.c,.int .i64 m.hand,.slice vs.a vs.n vs.c,.slice vsb.a vsb.n vsb.c,.slice vsq.a vsq.n vsq.c,.slice vdb.a vdb.n vdb.c,.slice vdq.a vdq.n vdq.c,.slice vfl.a vfl.n vfl.c,.int .i64 m.cnt,.slice vca.a vca.n vca.c,.slice spa spn spc] 40)=W0:=⟨_,rfl⟩;have HG0:=gA hW0
 have HW0:Hid (_=W0):=hW0;have X0:=xA hW0
 clear hW0
 go_enter func44,ntmps44
 go_upto_region 2 with fail;rw[HW0.out];have x10:=X0.out.c 10 rfl;go_wp2;clear x10
 go_loopg [7,15] spn (fun gg s7 s15 wr=>∃p:Nat,p<=spn/\spn - p<=gg/\s15= .int .i64 p/\s7= .int .i64 (holdTo m kind k p:Int)/\Hid (Grew w wr))
 case atStart=>exact⟨0,nZ _,by omega,rfl,rfl,HG0.out⟩
 obtain⟨p,hp,hg,rfl,rfl,GW⟩:=hrel
 by_cases hlt:p<spn
 ·have hltz:(p:Int)< (spn:Int):=by omega
  obtain⟨x,hx⟩:∃x,xs[p]? =some x:=⟨_,gE (by rw[HXL.out];exact hlt)⟩
  obtain⟨s,hs⟩:∃s,m.sp[p]? =some s:=⟨_,gE (by rw[HN.out];exact hlt)⟩
  have HAT:Hid (SpaceAt w x s):=HS.out p x s hx hs;have HSS:Hid (m.sp[p]? =some s):=hs;obtain⟨ad,rfl,hl⟩:=HR.out p x hx;have hcl:=hl wr GW.out;obtain⟨d0,d1,d2,d3,d4,d5,d6,d7,d8,d9⟩:=hcl;clear hl hx hs;have HF64:Hid (∀j,j<64->(flatT s.tb)[j]? =some (flatN s j)):=show∀j,_ from fun j hj=>flatT_at s.tb hj
  have hfl:∀W,Grew w W->Calls prog 42 #[.agg #[.slice x.t0.a x.t0.n x.t0.c,.slice x.t1.a x.t1.n x.t1.c,.slice x.t2.a x.t2.n x.t2.c,.slice x.t3.a x.t3.n x.t3.c,.slice x.t4.a x.t4.n x.t4.c,.slice x.t5.a x.t5.n x.t5.c,.slice x.t6.a x.t6.n x.t6.c,.slice x.t7.a x.t7.n x.t7.c]] W fun e w'=>e= .returned (.agg (cellsL (flatT s.tb)).toArray)/\Grew W w':=fun W hW=>flatTb_any x.tab s.tb W ((HAT.out.grew hW).tb) (H8.out s (mG HSS.out))
  have HFL:Hid (∀W,Grew w W->Calls prog 42 #[.agg #[.slice x.t0.a x.t0.n x.t0.c,.slice x.t1.a x.t1.n x.t1.c,.slice x.t2.a x.t2.n x.t2.c,.slice x.t3.a x.t3.n x.t3.c,.slice x.t4.a x.t4.n x.t4.c,.slice x.t5.a x.t5.n x.t5.c,.slice x.t6.a x.t6.n x.t6.c,.slice x.t7.a x.t7.n x.t7.c]] W fun e w'=>e= .returned (.agg (cellsL (flatT s.tb)).toArray)/\Grew W w'):=dD<|hfl
  clear hfl;have hb0:=holdTo_le (m:=m) (kind:=kind) (k:=k) p;have HSU:Hid (holdTo m kind k (p+1)=holdTo m kind k p+cntTo (flatN s) kind k 64):=holdTo_succ HSS.out;obtain⟨H0,hH0⟩:∃H0,holdTo m kind k p=H0:=⟨_,rfl⟩;rw[hH0]at hb0 HSU⊢;clear hH0;go_upto_region 5 with fail;obtain⟨W1,hW1⟩:∃W1,wr.alloc (.cells #[.bool x.live,.slice x.ar.a x.ar.n x.ar.c,.slice x.t0.a x.t0.n x.t0.c,.slice x.t1.a x.t1.n x.t1.c,.slice x.t2.a x.t2.n x.t2.c,.slice x.t3.a x.t3.n x.t3.c,.slice x.t4.a x.t4.n x.t4.c,.slice x.t5.a x.t5.n x.t5.c,.slice x.t6.a x.t6.n x.t6.c,.slice x.t7.a x.t7.n x.t7.c] 65)=W1:=⟨_,rfl⟩;have G1:=gT hW1 GW
  have S1:=xA hW1
  rw[hW1];clear hW1 d0 d1 d2 d3 d4 d5 d6 d7 d8 d9;have s2:=S1.out.c 2 rfl;have s3:=S1.out.c 3 rfl;have s4:=S1.out.c 4 rfl;have s5:=S1.out.c 5 rfl;have s6:=S1.out.c 6 rfl;have s7:=S1.out.c 7 rfl;have s8:=S1.out.c 8 rfl;have s9:=S1.out.c 9 rfl;go_wp2_with fail;refine(HFL.out W1 G1.out).mono ?_;clear s2 s3 s4 s5 s6 s7 s8 s9;rintro e W2 ⟨rfl,g2⟩;have G2:=dD (G1.out.trans g2);clear g2;go_wp2
  go_loopg [7,22] 64 (fun gg s7 s22 wr=>∃n:Nat,n<=64/\64 - n<=gg/\s22= .int .i64 n/\s7= .int .i64 ((H0+cntTo (flatN s) kind k n:Nat):Int)/\Hid (Grew w wr))
  case atStart=>exact⟨0,nZ _,by omega,rfl,rfl,G2.out⟩
  obtain⟨n,hn,hg2,rfl,rfl,GW2⟩:=hrel
  by_cases hlt2:n<64
  ·have hltz2:(n:Int)<64:=by omega
   obtain⟨e,HE⟩:∃e,Hid (flatN s n=e):=⟨_,rfl⟩;have HZF:Hid ((flatT s.tb)[n]? =some e):=dD<|by rw[HF64.out n hlt2,HE.out]
   have hcl:=cnt_le (flatN s) kind k n;have HCS:Hid (cntTo (flatN s) kind k (n+1)=cntTo (flatN s) kind k n+(isE e kind k).toNat):=dD<|by rw[<-HE.out];rfl
   obtain⟨c0,hc0⟩:∃c0,cntTo (flatN s) kind k n=c0:=⟨_,rfl⟩;rw[hc0]at hcl HCS⊢;clear hc0
   go_upto_region 8 with(refine wp_flatAt rfl (.tmp 21) (.tmp 22) rfl (flatT s.tb) rfl n rfl hlt2 HZF.out ?_)
   obtain⟨W3,hW3⟩:∃W3,wr.alloc (.cells #[.int .i64 e.kind,.int .i64 e.n,.bool e.wr] 67)=W3:=⟨_,rfl⟩;have G3:=gT hW3 GW2
   have E3:=xA hW3
   rw[hW3];clear hW3;have e0:=E3.out.c 0 rfl;have e1:=E3.out.c 1 rfl
   by_cases h1:e.kind=kind
   ·have h1e:(e.kind == kind)=true:=by simp[h1]
    by_cases h2:e.n=k
    ·have h2e:(e.n == k)=true:=by simp[h2]
     have HV:Hid (cntTo (flatN s) kind k (n+1)=c0+1):=dD<|by rw[HCS.out];simp[isE,h1,h2]
     clear h1 h2;go_wp2
     go_roundg (64 -(n+1))
     case measure=>omega
     exact⟨n+1,by omega,by omega,by go_num,by rw[HV.out];go_num,G3.out⟩
    have h2e:(e.n == k)=false:=by simp[h2]
    have HV:Hid (cntTo (flatN s) kind k (n+1)=c0):=dD<|by rw[HCS.out];simp[isE,h2]
    clear h1 h2;go_wp2
    go_roundg (64 -(n+1))
    case measure=>omega
    exact⟨n+1,by omega,by omega,by go_num,by rw[HV.out];go_num,G3.out⟩
   have h1e:(e.kind == kind)=false:=by simp[h1]
   have HV:Hid (cntTo (flatN s) kind k (n+1)=c0):=dD<|by rw[HCS.out];simp[isE,h1]
   clear h1;go_wp2
   go_roundg (64 -(n+1))
   case measure=>omega
   exact⟨n+1,by omega,by omega,by go_num,by rw[HV.out];go_num,G3.out⟩
  have hltz2:¬(n:Int)<64:=by omega
  obtain rfl:n=64:=by omega
  go_wp2
  go_roundg (spn -(p+1))
  case measure=>omega
  exact⟨p+1,by omega,by omega,by go_num,by rw[HSU.out];go_num,GW2.out⟩
 have hltz:¬(p:Int)< (spn:Int):=by omega
 obtain rfl:p=spn:=by omega
 have HF:Hid (holdTo m kind k p=holders m kind k):=dD<|by rw[<-HN.out];exact holdTo_all
 rw[HF.out];go_wp2;go_ret;exact⟨rfl,GW.out⟩
def entB (mi it sh ew xw big:Bool):Bool:=(!mi && !it) || (sh && !it) || (ew && !xw) || (ew && it && !sh) || (ew && mi && big)
theorem entE_B {x:On} {e:En} {q:Fr} (h1:x.is=true) (h2:¬e.kind=2) (h3:¬(m.fs.length:Int)<=e.n) (hq:frAt m e.n=q):entE m x e=if entB (q.f == -1) (decide (0<=x.file) &&(q.f == x.file) &&(q.x == x.page)) x.sh e.wr x.wr (decide (1<q.r))=true then 7 else 0:=by
 have key:entB (q.f == -1) (decide (0<=x.file) &&(q.f == x.file) &&(q.x == x.page)) x.sh e.wr x.wr (decide (1<q.r))=true↔((¬q.f=-1/\¬(0<=x.file/\q.f=x.file/\q.x=x.page))\/(x.sh=true/\¬(0<=x.file/\q.f=x.file/\q.x=x.page))\/(e.wr=true/\x.wr=false)\/(e.wr=true/\(0<=x.file/\q.f=x.file/\q.x=x.page)/\x.sh=false)\/(e.wr=true/\q.f=-1/\1<q.r)):=by
  have hit:(decide (0<=x.file) &&(q.f == x.file) &&(q.x == x.page))=true↔(0<=x.file/\q.f=x.file/\q.x=x.page):=by simp[and_assoc]
  have hmi:(q.f == -1)=true↔q.f=-1:=by simp
  generalize hb:decide (1<q.r)=bg
  have hbg:bg=true↔1<q.r:=by rw[<-hb];simp
  rw[<-hit,<-hmi,<-hbg];clear hit hmi hbg hb
  generalize(decide (0<=x.file) &&(q.f == x.file) &&(q.x == x.page))=it
  generalize(q.f == -1)=mi
  generalize x.sh=sh
  generalize e.wr=ew
  generalize x.wr=xw
  cases mi <;> cases it <;> cases sh <;> cases ew <;> cases xw <;> cases bg <;> decide
 unfold entE;rw[if_neg (by rw[h1];decide),if_neg h2,if_neg h3,hq]
 by_cases hb:entB (q.f == -1) (decide (0<=x.file) &&(q.f == x.file) &&(q.x == x.page)) x.sh e.wr x.wr (decide (1<q.r))=true
 ·rw[if_pos hb,if_pos (key.1 hb)]
 rw[if_neg hb,if_neg (fun h=>hb (key.2 h))]
theorem refEntry_any (V:MaV) (m:Ma) (x:On) (e:En) (w:World) (hm:MachAt w V m) (h0:0<=e.n):
  Calls prog 43 #[.agg #[.slice V.f.a V.f.n V.f.c,.int .i64 m.hand,.slice V.s.a V.s.n V.s.c,.slice V.sb.a V.sb.n V.sb.c,.slice V.sq.a V.sq.n V.sq.c,.slice V.db.a V.db.n V.db.c,.slice V.dq.a V.dq.n V.dq.c,.slice V.fl.a V.fl.n V.fl.c,.int .i64 m.cnt,.slice V.ca.a V.ca.n V.ca.c,.slice V.sp.a V.sp.n V.sp.c],.agg #[.bool x.is,.bool x.rd,.bool x.wr,.bool x.sh,.int .i64 x.file,.int .i64 x.page],.agg #[.int .i64 e.kind,.int .i64 e.n,.bool e.wr]] w fun r w'=>r= .returned (.int .i64 (entE m x e))/\Grew w w':=by
 obtain⟨n1,n2,-⟩:=hm.ns;have HFR:Hid (FrRows w V.f.a m.fs):=hm.frs;obtain⟨⟨fa,fn,fc⟩,⟨sa,sn,sc⟩,vsb,vsq,vdb,vdq,vfl,vca,vsp⟩:=V;dsimp only at n1 n2 HFR⊢;obtain rfl:fn=m.fs.length:=n1;obtain rfl:sn=m.sl.length:=n2;obtain⟨NF,HNF⟩:∃NF,Hid (m.fs.length=NF):=⟨_,rfl⟩;obtain⟨NS,HNS⟩:∃NS,Hid (m.sl.length=NS):=⟨_,rfl⟩;rw[HNF.out,HNS.out];clear hm;obtain⟨ANS,HANS⟩:∃ANS,Hid (entE m x e=ANS):=⟨_,rfl⟩;rw[HANS.out];obtain⟨W0,hW0⟩:∃W0,((w.alloc (.cells #[.slice fa NF fc,.int .i64 m.hand,.slice sa NS sc,.slice vsb.a vsb.n vsb.c,.slice vsq.a vsq.n vsq.c,.slice vdb.a vdb.n vdb.c,.slice vdq.a vdq.n vdq.c,.slice vfl.a vfl.n vfl.c,.int .i64 m.cnt,.slice vca.a vca.n vca.c,.slice vsp.a vsp.n vsp.c] 40)).alloc (.cells #[.bool x.is,.bool x.rd,.bool x.wr,.bool x.sh,.int .i64 x.file,.int .i64 x.page] 96)).alloc (.cells #[.int .i64 e.kind,.int .i64 e.n,.bool e.wr] 67)=W0:=⟨_,rfl⟩;have G0:Hid (Grew w W0):=show Grew _ _ by rw[<-hW0];exact((grew_alloc _ _).trans (grew_alloc _ _)).trans (grew_alloc _ _)
 have X0:Hid (Box W0 w.heap.size [.slice fa NF fc,.int .i64 m.hand,.slice sa NS sc,.slice vsb.a vsb.n vsb.c,.slice vsq.a vsq.n vsq.c,.slice vdb.a vdb.n vdb.c,.slice vdq.a vdq.n vdq.c,.slice vfl.a vfl.n vfl.c,.int .i64 m.cnt,.slice vca.a vca.n vca.c,.slice vsp.a vsp.n vsp.c]):=dD<|by rw[<-hW0];exact((Box.top _ _ _ rfl).alloc _).alloc _
 have Y0:Hid (Box W0 (w.heap.size+1) [.bool x.is,.bool x.rd,.bool x.wr,.bool x.sh,.int .i64 x.file,.int .i64 x.page]):=dD<|by rw[<-hW0];exact(Box.top _ _ _ (by simp)).alloc _
 have Z0:Hid (Box W0 (w.heap.size+2) [.int .i64 e.kind,.int .i64 e.n,.bool e.wr]):=dD<|by rw[<-hW0];exact Box.top _ _ _ (by simp)
 have HW0:Hid (_=W0):=hW0;clear hW0
 go_enter func43,ntmps43
 go_upto_region 1 with fail;rw[HW0.out];have x0:=X0.out.c 0 rfl;have x2:=X0.out.c 2 rfl;have y0:=Y0.out.c 0 rfl;have y1:=Y0.out.c 1 rfl;have y2:=Y0.out.c 2 rfl;have y3:=Y0.out.c 3 rfl;have y4:=Y0.out.c 4 rfl;have y5:=Y0.out.c 5 rfl;obtain⟨z0,z1,z2⟩:=Z0.out.c3
 cases his:x.is with
 | false=>
  have HF:Hid (ANS=5):=dD<|by rw[<-HANS.out];unfold entE;rw[if_pos his]
  rw[his]at y0;go_wp2;go_ret;exact⟨by rw[HF.out];rfl,G0.out⟩
 | true=>
  rw[his]at y0
  by_cases h2:e.kind=2
  ·have h2e:(e.kind == 2)=true:=by simp[h2]
   by_cases h3:(NS:Int)<=e.n
   ·have h3d:decide ((NS:Int)<=e.n)=true:=by simpa using h3
    have HF:Hid (ANS=7):=dD<|by rw[<-HANS.out];unfold entE;rw[if_neg (by rw[his];decide),if_pos h2,if_pos (.inl (by rw[HNS.out];exact h3))]
    go_wp2;go_ret;exact⟨by rw[HF.out];rfl,G0.out⟩
   have h3d:decide ((NS:Int)<=e.n)=false:=by simpa using h3
   have HF:Hid (ANS=if x.sh=true then 7 else 0):=dD<|by
    rw[<-HANS.out];unfold entE;rw[if_neg (by rw[his];decide),if_pos h2]
    by_cases hs:x.sh=true
    ·rw[if_pos hs,if_pos (.inr hs)]
    rw[if_neg hs,if_neg (by rintro(h | h) <;> first | exact h3 (by rw[<-HNS.out];exact h) | exact hs h)]
   cases hsh:x.sh with
   | true=>
    rw[hsh]at y3 HF;go_wp2;go_ret;exact⟨by rw[HF.out];rfl,G0.out⟩
   | false=>
    rw[hsh]at y3 HF;go_wp2;go_ret;exact⟨by rw[HF.out];rfl,G0.out⟩
  have h2e:(e.kind == 2)=false:=by simp[h2]
  by_cases h3:(NF:Int)<=e.n
  ·have h3d:decide ((NF:Int)<=e.n)=true:=by simpa using h3
   have HF:Hid (ANS=3):=dD<|by rw[<-HANS.out];unfold entE;rw[if_neg (by rw[his];decide),if_neg h2,if_pos (by rw[HNF.out];exact h3)]
   go_wp2;go_ret;exact⟨by rw[HF.out];rfl,G0.out⟩
  have h3d:decide ((NF:Int)<=e.n)=false:=by simpa using h3
  have hnz:e.n< (NF:Int):=by omega
  obtain⟨j,hj⟩:∃j:Nat,e.n=(j:Int):=⟨e.n.toNat,by omega⟩
  obtain⟨q,hq⟩:∃q,m.fs[j]? =some q:=⟨_,gE (by rw[HNF.out];omega)⟩
  obtain⟨ad,rfl,hl⟩:=HFR.out j q hq;have hcl:=hl W0 G0.out;have HF:Hid (ANS=if entB (q.f == -1) (decide (0<=x.file) &&(q.f == x.file) &&(q.x == x.page)) x.sh e.wr x.wr (decide (1<q.r))=true then 7 else 0):=dD<|by rw[<-HANS.out];exact entE_B his h2 (by rw[HNF.out];exact h3) (by rw[hj];exact frAt_of hq)
  obtain⟨d0,d1,d2,d3,d4,d5,d6,d7,d8,d9,d10,d11,d12⟩:=hcl;rw[hj]at z1 hnz h3d h3;have HJ:Hid (e.n=(j:Int)):=hj;clear hl hq h2 his hj;go_upto_region 10 with fail;obtain⟨W1,hW1⟩:∃W1,W0.alloc (.cells #[.int .u8 q.p.b0,.int .u8 q.p.b1,.int .u8 q.p.b2,.int .u8 q.p.b3,.int .u8 q.p.b4,.int .u8 q.p.b5,.int .u8 q.p.b6,.int .u8 q.p.b7,.int .i64 q.r,.bool q.u,.bool q.d,.int .i64 q.f,.int .i64 q.x] 59)=W1:=⟨_,rfl⟩;obtain⟨pq,HPQ⟩:∃pq,Hid (W0.heap.size=pq):=⟨_,rfl⟩;have G1:=gT hW1 G0
  have Q1:=xP hW1 HPQ
  have Y1:=yA hW1 Y0
  have Z1:=yA hW1 Z0
  rw[hW1,HPQ.out];clear hW1 d0 d1 d2 d3 d4 d5 d6 d7 d8 d9 d10 d11 d12 x0 x2 y0 y1 y2 y3 y4 y5 z0 z1 z2;have q8:=Q1.out.c 8 rfl;have q11:=Q1.out.c 11 rfl;have q12:=Q1.out.c 12 rfl;have y2:=Y1.out.c 2 rfl;have y3:=Y1.out.c 3 rfl;have y4:=Y1.out.c 4 rfl;have y5:=Y1.out.c 5 rfl;have z2:=Z1.out.c 2 rfl;go_upto_region 11 with fail;obtain⟨it,HIT⟩:∃it,Hid ((decide (0<=x.file) &&(q.f == x.file) &&(q.x == x.page))=it):=⟨_,rfl⟩;rw[HIT.out]at HF
  go_cut [9] (fun s9 wx=>s9= .bool it/\wx=W1)
  case first=>
   by_cases k1:0<=x.file
   ·have k1d:decide ((0:Int)<=x.file)=true:=by simpa using k1
    by_cases k2:q.f=x.file
    ·have k2e:(q.f == x.file)=true:=by simp[k2]
     have HV:Hid ((q.x == x.page)=it):=dD<|by rw[<-HIT.out,k1d,k2e];rfl
     clear k1 k2;go_wp2
     go_meet
     exact⟨by rw[HV.out],rfl⟩
    have k2e:(q.f == x.file)=false:=by simp[k2]
    have HV:Hid (false=it):=dD<|by rw[<-HIT.out,k2e];simp
    clear k1 k2;go_wp2
    go_meet
    exact⟨by rw[<-HV.out],rfl⟩
   have k1d:decide ((0:Int)<=x.file)=false:=by simpa using k1
   have HV:Hid (false=it):=dD<|by rw[<-HIT.out,k1d];rfl
   clear k1;go_wp2
   go_meet
   exact⟨by rw[<-HV.out],rfl⟩
  obtain⟨rfl,rfl⟩:=hcut;obtain⟨mi,hmi⟩:∃mi,(q.f == -1)=mi:=⟨_,rfl⟩;obtain⟨bg,hbg⟩:∃bg,decide (1<q.r)=bg:=⟨_,rfl⟩;rw[hmi,hbg]at HF;try rw[hmi]
  obtain⟨sh,hsh⟩:∃sh,x.sh=sh:=⟨_,rfl⟩;obtain⟨ew,hew⟩:∃ew,e.wr=ew:=⟨_,rfl⟩;obtain⟨xw,hxw⟩:∃xw,x.wr=xw:=⟨_,rfl⟩;rw[hsh,hew,hxw]at HF;rw[hsh]at y3;rw[hew]at z2;rw[hxw]at y2;clear hsh hew hxw hmi y4 y5 q11 q12
  cases mi with
  | false=>
   cases it with
   | false=>
    (go_wp2;go_ret;exact⟨by rw[HF.out];first | rfl | (cases bg <;> rfl),G1.out⟩)
   | true=>
    cases sh with
    | false=>
     cases ew with
     | false=>
      (go_wp2;go_ret;exact⟨by rw[HF.out];first | rfl | (cases bg <;> rfl),G1.out⟩)
     | true=>
      cases xw with
      | false=>
       (go_wp2;go_ret;exact⟨by rw[HF.out];first | rfl | (cases bg <;> rfl),G1.out⟩)
      | true=>
       (go_wp2;go_ret;exact⟨by rw[HF.out];first | rfl | (cases bg <;> rfl),G1.out⟩)
    | true=>
     cases ew with
     | false=>
      (go_wp2;go_ret;exact⟨by rw[HF.out];first | rfl | (cases bg <;> rfl),G1.out⟩)
     | true=>
      cases xw with
      | false=>
       (go_wp2;go_ret;exact⟨by rw[HF.out];first | rfl | (cases bg <;> rfl),G1.out⟩)
      | true=>
       (go_wp2;go_ret;exact⟨by rw[HF.out];first | rfl | (cases bg <;> rfl),G1.out⟩)
  | true=>
   cases sh with
   | false=>
    cases ew with
    | false=>
     (go_wp2;go_ret;exact⟨by rw[HF.out];first | rfl | (cases bg <;> rfl),G1.out⟩)
    | true=>
     cases xw with
     | false=>
      (go_wp2;go_ret;exact⟨by rw[HF.out];first | rfl | (cases bg <;> rfl),G1.out⟩)
     | true=>
      cases it with
      | false=>
       cases bg with
       | false=>
        (go_wp2;go_ret;exact⟨by rw[HF.out];first | rfl | (cases bg <;> rfl),G1.out⟩)
       | true=>
        (go_wp2;go_ret;exact⟨by rw[HF.out];first | rfl | (cases bg <;> rfl),G1.out⟩)
      | true=>
       (go_wp2;go_ret;exact⟨by rw[HF.out];first | rfl | (cases bg <;> rfl),G1.out⟩)
   | true=>
    cases it with
    | false=>
     (go_wp2;go_ret;exact⟨by rw[HF.out];first | rfl | (cases bg <;> rfl),G1.out⟩)
    | true=>
     cases ew with
     | false=>
      (go_wp2;go_ret;exact⟨by rw[HF.out];first | rfl | (cases bg <;> rfl),G1.out⟩)
     | true=>
      cases xw with
      | false=>
       (go_wp2;go_ret;exact⟨by rw[HF.out];first | rfl | (cases bg <;> rfl),G1.out⟩)
      | true=>
       cases bg with
       | false=>
        (go_wp2;go_ret;exact⟨by rw[HF.out];first | rfl | (cases bg <;> rfl),G1.out⟩)
       | true=>
        (go_wp2;go_ret;exact⟨by rw[HF.out];first | rfl | (cases bg <;> rfl),G1.out⟩)
def goL (f:Nat->Int) (n k:Nat):Int:=firstE ((List.range' k (n - k)).map f)
def thr (a b:Int):Int:=if a=0 then b else a
theorem goL_all (f:Nat->Int) (n:Nat):goL f n 0=firstE ((List.range n).map f):=by unfold goL;rw[List.range_eq_range'];simp
theorem goL_end (f:Nat->Int) (n:Nat):goL f n n=0:=by unfold goL;simp[firstE]
theorem goL_step (f:Nat->Int) {n k:Nat} (h:k<n):goL f n k=thr (f k) (goL f n (k+1)):=by
 unfold goL thr;obtain⟨j,hj⟩:∃j,n - k=j+1:=⟨n - k - 1,by omega⟩
 rw[hj,show n -(k+1)=j by omega,List.range'_succ,mP,firstE_cons]
theorem goL_yes {f:Nat->Int} {n k:Nat} (h:k<n) (hz:firstE (goL f n k :: R)=Z) (hf:f k≠0):Z=f k:=by
 rw[goL_step f h]at hz;unfold thr at hz;rw[if_neg hf]at hz;exact firstE_pos hz hf
theorem goL_no {f:Nat->Int} {n k:Nat} (h:k<n) (hz:firstE (goL f n k :: R)=Z) (hf:f k=0):firstE (goL f n (k+1) :: R)=Z:=by
 rw[goL_step f h]at hz;unfold thr at hz;rw[if_pos hf]at hz;exact hz
theorem thr_yes {a b:Int} (hz:firstE (thr a b :: R)=Z) (ha:a≠0):Z=a:=by
 unfold thr at hz;rw[if_neg ha]at hz;exact firstE_pos hz ha
theorem thr_no {a b:Int} (hz:firstE (thr a b :: R)=Z) (ha:a=0):firstE (b :: R)=Z:=by
 unfold thr at hz;rw[if_pos ha]at hz;exact hz
def spF (m:Ma) (i:Nat):Int:=match m.sp[i]? with | some s=>spEnt m s | none=>0
theorem spF_all (m:Ma):firstE (m.sp.map (spEnt m))=goL (spF m) m.sp.length 0:=by
 rw[goL_all]
 congr 1
 apply List.ext_getElem?
 intro i;rw[List.getElem?_map,List.getElem?_map]
 rcases Nat.lt_or_ge i m.sp.length with h|h
 ·rw[gE h,List.getElem?_range h];simp only[Option.map_some,spF,gE h]
 rw[gN h,gN (by simpa using h)]
 rfl
theorem spF_at {s:Sp} (h:m.sp[i]? =some s):spF m i=spEnt m s:=by unfold spF;rw[h]
theorem thr_two (a b:Int) (R:List Int):firstE (thr a b :: R)=firstE (a :: b :: R):=by
 unfold thr
 by_cases h:a=0
 ·rw[if_pos h,firstE_cons a,if_pos h]
 rw[if_neg h,firstE_cons,if_neg h,firstE_cons,if_neg h]
theorem flat_fine {s:Sp} (h:tbW s.tb=0) (n:Nat):enW (flatN s n)=0:=by
 unfold flatN getN;have hall:=tbW_zero.1 h;have:HaOk (s.tb[n / 8]?.getD []):=by
  cases e:s.tb[n / 8]? with
  | none=>exact .inl rfl
  | some x=>exact hall x (mG e)
 exact this.get (n % 8)
theorem en_pos {e:En} (h:enW e=0):0<=e.n:=by
 unfold enW at h
 split at h
 ·split at h
  ·omega
  cases h
 cases h
def pgF (m:Ma) (s:Sp) (n:Nat):Int:=if(flatN s n).kind=0 then 0 else entE m (onAt s.ars n) (flatN s n)
theorem pgF_all (m:Ma) (s:Sp):spEnt m s=goL (pgF m s) 64 0:=by rw[goL_all];rfl
def pvC (m:Ma) (i:Nat):Option Ca:=if i=0 then none else m.ca[i - 1]?
theorem pvC_zero (m:Ma):pvC m 0=none:=rfl
theorem ca_step {c:Ca} (h:m.ca[i]? =some c):caGo m (pvC m i) (m.ca.drop i)=thr (caE m (pvC m i) c) (caGo m (pvC m (i+1)) (m.ca.drop (i+1))):=by
 have hl:=(gS.1 h).1;have hc:m.ca[i]=c:=by rw[gE hl]at h;cases h;rfl
 have hp:pvC m (i+1)=some c:=by unfold pvC;rw[if_neg (by omega)];exact h
 rw[List.drop_eq_getElem_cons hl,hc,hp];rfl
structure Pts (m:Ma):Prop where
 s4:m.sp.length<=4
 f40:m.fs.length<=40
 fr:∀(k:Nat) f,m.fs[k]? =some f->0<=f.r/\f.r<=1000
 fl:m.fl.length<=5/\∀f∈m.fl,f.bl.length<=12
 ar:∀s∈m.sp,(wrL s.ars).1=0/\tbW s.tb=0
theorem pts_of (h:partE m=0):Pts m:=by
 unfold partE at h;rw[firstE_zero]at h;have p1:memW m.fs m.hand=0:=h _ (by simp)
 have p5:stW m.fl m.cnt=0:=h _ (by simp)
 have p9:(if 4<m.sp.length then(4:Int)else 0)=0:=h _ (by simp)
 have p10:=firstE_zero.1 (h (firstE (m.sp.map spE)) (by simp))
 obtain⟨⟨a1,a2,a3⟩,a4,a5⟩:=(stW_zero _ _).1 p5;unfold memW at p1
 split at p1
 ·cases p1
 rename_i b1
 split at p1
 ·rename_i b2
  refine⟨?_,by omega,fun k f hf=>?_,⟨a1,fun f hf=>?_⟩,fun s hs=>?_⟩
  ·split at p9
   ·cases p9
   omega
  ·have hw:=frsW_zero.1 b2 f (mG hf);unfold frW at hw
   split at hw
   ·cases hw
   rename_i c1
   simp[inB]at c1
   omega
  ·obtain⟨k1,k2,k3⟩:=a4 f hf;have:=cntP_nat k1.1 k1.2;omega
  have h3:=p10 (spE s) (List.mem_map.2 ⟨s,hs,rfl⟩);unfold spE at h3
  split at h3
  ·rename_i c
   exact absurd h3 c
  rename_i c
  split at h3
  ·rename_i d
   exact absurd h3 d
  rename_i d
  exact⟨Classical.byContradiction c,Classical.byContradiction d⟩
 rename_i b2
 exact absurd p1 b2
theorem tb8 {t:List (List En)} (h:tbW t=0):∀x∈t,x.length<=8:=fun x hx=>by
 rcases tbW_zero.1 h x hx with e|e
 ·rw[e];simp
 rw[e.1];omega
theorem cached_step {l:List Ca} {c:Ca} {k:Int} (h:l[j]? =some c):cachedN (l.take (j+1)) k=cachedN (l.take j) k+(decide (c.fr=k)).toNat:=by
 unfold cachedN;rw[List.take_add_one,h]
 simp[List.countP_append,List.countP_cons,Bool.toNat]
theorem cached_le {l:List Ca} (j:Nat) {k:Int}:cachedN (l.take j) k<=j:=nT List.countP_le_length (by simp;omega)
theorem refWrongM_any (V:MaV) (m:Ma) (w:World) (hm:MachAt w V m):
  Calls prog 10 #[.agg #[.slice V.f.a V.f.n V.f.c,.int .i64 m.hand,.slice V.s.a V.s.n V.s.c,.slice V.sb.a V.sb.n V.sb.c,.slice V.sq.a V.sq.n V.sq.c,.slice V.db.a V.db.n V.db.c,.slice V.dq.a V.dq.n V.dq.c,.slice V.fl.a V.fl.n V.fl.c,.int .i64 m.cnt,.slice V.ca.a V.ca.n V.ca.c,.slice V.sp.a V.sp.n V.sp.c]] w fun e w'=>e= .returned (.int .i64 (maW m))/\Grew w w':=by
 have HM:Hid (MachAt w V m):=hm;obtain⟨n1,n2,-,-,-,-,n7,n8,n9⟩:=hm.ns;obtain⟨xs,hxl,hrow,hsp⟩:=hm.spaces;have HFR:Hid (FrRows w V.f.a m.fs):=hm.frs;have HCA:Hid (CaRows w V.ca.a m.ca):=hm.cas;have HSL:Hid (SlRows w V.s.a m.sl):=hm.sls;have hcab:=hm.ca.2;have hslb:=hm.sl.2;obtain⟨_,_,hfe,_,hfr⟩:=FilesAt.rows hm.fl;have HFL:Hid (FlRows w V.fl.a m.fl):=show FlRows _ _ _ by
  simp only[vJ]at hfe;rw[hfe.1];exact hfr
 have HPT:Hid (∀W,Grew w W->Calls prog 40 #[.agg #[.slice V.f.a V.f.n V.f.c,.int .i64 m.hand,.slice V.s.a V.s.n V.s.c,.slice V.sb.a V.sb.n V.sb.c,.slice V.sq.a V.sq.n V.sq.c,.slice V.db.a V.db.n V.db.c,.slice V.dq.a V.dq.n V.dq.c,.slice V.fl.a V.fl.n V.fl.c,.int .i64 m.cnt,.slice V.ca.a V.ca.n V.ca.c,.slice V.sp.a V.sp.n V.sp.c]] W fun e w'=>e= .returned (.int .i64 (partE m))/\Grew W w'):=dD<|fun W hW=>refParts_any V m W (HM.out.grew hW)
 have HEN:Hid (∀W x e,Grew w W->0<=e.n->Calls prog 43 #[.agg #[.slice V.f.a V.f.n V.f.c,.int .i64 m.hand,.slice V.s.a V.s.n V.s.c,.slice V.sb.a V.sb.n V.sb.c,.slice V.sq.a V.sq.n V.sq.c,.slice V.db.a V.db.n V.db.c,.slice V.dq.a V.dq.n V.dq.c,.slice V.fl.a V.fl.n V.fl.c,.int .i64 m.cnt,.slice V.ca.a V.ca.n V.ca.c,.slice V.sp.a V.sp.n V.sp.c],.agg (onv x).toArray,.agg #[.int .i64 e.kind,.int .i64 e.n,.bool e.wr]] W fun r w'=>r= .returned (.int .i64 (entE m x e))/\Grew W w'):=dD<|fun W x e hW h0=>refEntry_any V m x e W (HM.out.grew hW) h0
 have HHO:Hid (∀W kind k,Grew w W->Pts m->Calls prog 44 #[.agg #[.slice V.f.a V.f.n V.f.c,.int .i64 m.hand,.slice V.s.a V.s.n V.s.c,.slice V.sb.a V.sb.n V.sb.c,.slice V.sq.a V.sq.n V.sq.c,.slice V.db.a V.db.n V.db.c,.slice V.dq.a V.dq.n V.dq.c,.slice V.fl.a V.fl.n V.fl.c,.int .i64 m.cnt,.slice V.ca.a V.ca.n V.ca.c,.slice V.sp.a V.sp.n V.sp.c],.int .i64 kind,.int .i64 k] W fun e w'=>e= .returned (.int .i64 (holders m kind k:Int))/\Grew W w'):=dD<|fun W kind k hW hp=>refHolders_any V m kind k W (HM.out.grew hW) hp.s4 (fun s hs=>tb8 (hp.ar s hs).2)
 obtain⟨Z,HZ⟩:∃Z,Hid (maW m=Z):=⟨_,rfl⟩;rw[HZ.out];have Z1:Hid (firstE [partE m,caGo m none m.ca,firstE (m.sp.map (spEnt m)),firstE ((List.range m.fs.length).map (frE m)),firstE ((List.range m.sl.length).map (sloE m))]=Z):=HZ.out;obtain⟨⟨fa,fn,fc⟩,⟨sa,sn,sc⟩,vsb,vsq,vdb,vdq,⟨fla,fln,flc⟩,⟨caa,can,cac⟩,⟨spa,spn,spc⟩⟩:=V;dsimp only at n1 n2 n7 n8 n9 hrow HFR HCA HSL HFL HPT HEN HHO⊢;have HN1:Hid (m.fs.length=fn):=n1.symm;have HN2:Hid (m.sl.length=sn):=n2.symm;have HN7:Hid (m.fl.length=fln):=n7.symm;have HN8:Hid (m.ca.length=can):=n8.symm;have HN9:Hid (m.sp.length=spn):=n9.symm;have hb8:can<=5864062014805:=by rw[n8];have h:m.ca.length*24<=140737488355328:=hcab;omega
 have hb2:sn<=9223372036854775807:=by rw[n2];have h:m.sl.length*8<=140737488355328:=hslb;omega
 have HXL:Hid (xs.length=spn):=dD<|by rw[hxl];exact HN9.out
 have HRW:Hid (∀(j:Nat) x,xs[j]? =some x->∃ad,spa=some ad/\∀W,Grew w W->Sp10 W (ad.add (j*10)) x):=dD<|hrow
 have HSP:Hid (∀(i:Nat) x s,xs[i]? =some x->m.sp[i]? =some s->SpaceAt w x s):=dD<|hsp
 clear hm n1 n2 n7 n8 n9 hxl hrow hsp hfe hfr hcab hslb;obtain⟨W0,hW0⟩:∃W0,w.alloc (.cells #[.slice fa fn fc,.int .i64 m.hand,.slice sa sn sc,.slice vsb.a vsb.n vsb.c,.slice vsq.a vsq.n vsq.c,.slice vdb.a vdb.n vdb.c,.slice vdq.a vdq.n vdq.c,.slice fla fln flc,.int .i64 m.cnt,.slice caa can cac,.slice spa spn spc] 40)=W0:=⟨_,rfl⟩;have G0:=gA hW0
 have X0:=xA hW0
 have HW0:Hid (_=W0):=hW0;clear hW0
 go_enter func10,ntmps10
 go_upto_region 1 with fail;rw[HW0.out];obtain⟨x0,x1,x2,x3,x4,x5,x6,x7,x8,x9,x10⟩:=X0.out.c11;have hc:=HPT.out W0 G0.out;obtain⟨E1,HE1⟩:∃E1,Hid (partE m=E1):=⟨_,rfl⟩;rw[HE1.out]at hc Z1;go_wp2_with fail;refine hc.mono ?_;clear hc;clear x0 x1 x2 x3 x4 x5 x6 x7 x8 x9 x10;rintro e W1 ⟨rfl,g⟩;have G1:=dD (G0.out.trans g);have X1:=dD (X0.out.grew g);clear g
 by_cases hz:E1=0
 rotate_left
 ·have hze:(E1 != 0)=true:=by simp[hz]
  have HF:Hid (Z=E1):=firstE_pos Z1.out hz;clear hz;go_wp2;go_ret;exact⟨by rw[HF.out];first | rfl | skip,G1.out⟩
 have hze:(E1 != 0)=false:=by simp[hz]
 have Z2:Hid (firstE [caGo m none m.ca,firstE (m.sp.map (spEnt m)),firstE ((List.range m.fs.length).map (frE m)),firstE ((List.range m.sl.length).map (sloE m))]=Z):=firstE_neg Z1.out hz;have HP:Hid (Pts m):=pts_of (by rw[HE1.out];exact hz)
 have hsp4:spn<=4:=by rw[<-HN9.out];exact HP.out.s4
 have hfn40:fn<=40:=by rw[<-HN1.out];exact HP.out.f40
 clear hz;have x9:=X1.out.c 9 rfl;go_wp2;clear x9 hze
 go_loopg [29] can (fun gg s29 wr=>∃i:Nat,i<=can/\can - i<=gg/\s29= .int .i64 i/\Hid (Grew w wr)/\Hid (Box wr w.heap.size [.slice fa fn fc,.int .i64 m.hand,.slice sa sn sc,.slice vsb.a vsb.n vsb.c,.slice vsq.a vsq.n vsq.c,.slice vdb.a vdb.n vdb.c,.slice vdq.a vdq.n vdq.c,.slice fla fln flc,.int .i64 m.cnt,.slice caa can cac,.slice spa spn spc])/\Hid (firstE [caGo m (pvC m i) (m.ca.drop i),firstE (m.sp.map (spEnt m)),firstE ((List.range m.fs.length).map (frE m)),firstE ((List.range m.sl.length).map (sloE m))]=Z)/\Hid (∀(j:Nat) c,j<i->m.ca[j]? =some c->0<=c.file/\c.file<5/\0<=c.idx/\c.idx<12))
 case atStart=>exact⟨0,nZ _,by omega,rfl,G1.out,X1.out,Z2.out,fun j c hj=>absurd hj (nL _)⟩
 obtain⟨i,hi,hgg,rfl,GW,XW,ZW,OW⟩:=hrel
 by_cases hlt:i<can
 ·have hltz:(i:Int)< (can:Int):=by omega
  obtain⟨c,HC⟩:∃c,Hid (m.ca[i]? =some c):=⟨_,gE (by rw[HN8.out];exact hlt)⟩
  obtain⟨adc,hca,hl⟩:=HCA.out i c HC.out;have HL:Hid (∀W,Grew w W->CaCells W (adc.add (i*3)) c):=dD<|hl
  subst hca;obtain⟨d0,d1,d2⟩:=hl wr GW.out;have ZI:Hid (firstE (thr (caE m (pvC m i) c) (caGo m (pvC m (i+1)) (m.ca.drop (i+1))) :: [firstE (m.sp.map (spEnt m)),firstE ((List.range m.fs.length).map (frE m)),firstE ((List.range m.sl.length).map (sloE m))])=Z):=dD<|by have:=ZW.out;rw[ca_step HC.out]at this;exact this
  clear hl;go_upto_region 7 with fail;obtain⟨pc,HPC⟩:∃pc,Hid (wr.heap.size=pc):=⟨_,rfl⟩;obtain⟨W2,hW2⟩:∃W2,wr.alloc (.cells #[.int .i64 c.file,.int .i64 c.idx,.int .i64 c.fr] 83)=W2:=⟨_,rfl⟩;have g2:=gP hW2
  have C2:=xP hW2 HPC
  have G2:=dD (GW.out.trans g2);have X2:=dD (XW.out.grew g2);rw[hW2,HPC.out];clear hW2 g2 d0 d1 d2;obtain⟨B1,HB1⟩:∃B1:Bool,Hid (B1=true↔(c.file<0\/(m.fl.length:Int)<=c.file\/c.idx<0\/bkN m c.file<=c.idx\/c.fr<0\/(m.fs.length:Int)<=c.fr)):=⟨decide (c.file<0\/(m.fl.length:Int)<=c.file\/c.idx<0\/bkN m c.file<=c.idx\/c.fr<0\/(m.fs.length:Int)<=c.fr),show _↔_ from decide_eq_true_iff⟩
  go_cut [29,78]from 29 to 130 (fun s29 s78 wx=>s29= .int .i64 i/\s78= .bool B1/\Hid (Grew w wx)/\Hid (Box wx w.heap.size [.slice fa fn fc,.int .i64 m.hand,.slice sa sn sc,.slice vsb.a vsb.n vsb.c,.slice vsq.a vsq.n vsq.c,.slice vdb.a vdb.n vdb.c,.slice vdq.a vdq.n vdq.c,.slice fla fln flc,.int .i64 m.cnt,.slice (some adc) can cac,.slice spa spn spc])/\Hid (Box wx pc [.int .i64 c.file,.int .i64 c.idx,.int .i64 c.fr]))
  case first=>
   have x0:=X2.out.c 0 rfl;have x7:=X2.out.c 7 rfl;obtain⟨c0,c1,c2⟩:=C2.out.c3
   by_cases a1:c.file<0
   ·have a1d:decide (c.file<0)=true:=by simpa using a1
    have HV:Hid (B1=true):=HB1.out.2 (.inl a1);go_quiet (fail);go_wp2
    go_meet
    exact⟨rfl,by rw[HV.out],G2.out.trans (show Below _ _ _ from bD (bR _ _) _),X2.out.grew (show Below _ _ _ from bD (bR _ _) _),C2.out.grew (show Below _ _ _ from bD (bR _ _) _)⟩
   have a1d:decide (c.file<0)=false:=by simpa using a1
   by_cases a2:(fln:Int)<=c.file
   ·have a2d:decide ((fln:Int)<=c.file)=true:=by simpa using a2
    have HV:Hid (B1=true):=HB1.out.2 (.inr (.inl (by rw[HN7.out];exact a2)))
    go_quiet (fail);go_wp2
    go_meet
    exact⟨rfl,by rw[HV.out],G2.out.trans (show Below _ _ _ from bD (bR _ _) _),X2.out.grew (show Below _ _ _ from bD (bR _ _) _),C2.out.grew (show Below _ _ _ from bD (bR _ _) _)⟩
   have a2d:decide ((fln:Int)<=c.file)=false:=by simpa using a2
   obtain⟨jf,hjf⟩:∃jf:Nat,c.file=(jf:Int):=⟨c.file.toNat,by omega⟩
   obtain⟨ff,hff⟩:∃ff,m.fl[jf]? =some ff:=⟨_,gE (by rw[HN7.out];omega)⟩
   obtain⟨adl,hfl,ba,bc,_,hlf⟩:=HFL.out jf ff hff;obtain⟨-,e1⟩:=hlf W2 G2.out;obtain⟨bn,HBN⟩:∃bn,Hid (ff.bl.length=bn):=⟨_,rfl⟩;rw[HBN.out]at e1;have HBK:Hid (bkN m c.file=(bn:Int)):=dD<|by unfold bkN;rw[hjf,tN,gD,hff];simp only[Option.getD_some];rw[HBN.out]
   have hjz:(jf:Int)< (fln:Int):=by omega
   rw[hfl]at x7;rw[hjf]at c0;have a2n:decide (fln<=jf)=false:=decide_eq_false (by omega)
   have a1n:decide ((jf:Int)<0)=false:=decide_eq_false (by omega)
   have HJF:Hid (c.file=(jf:Int)):=hjf;have HA12:Hid (¬c.file<0/\¬(fln:Int)<=c.file):=show _/\_ from⟨a1,a2⟩
   clear hjf hff hlf hfl a1 a2
   by_cases a3:c.idx<0
   ·have a3d:decide (c.idx<0)=true:=by simpa using a3
    have HV:Hid (B1=true):=HB1.out.2 (.inr (.inr (.inl a3)));go_quiet (fail);go_wp2
    go_meet
    exact⟨rfl,by rw[HV.out],G2.out.trans (show Below _ _ _ from bD (bR _ _) _),X2.out.grew (show Below _ _ _ from bD (bR _ _) _),C2.out.grew (show Below _ _ _ from bD (bR _ _) _)⟩
   have a3d:decide (c.idx<0)=false:=by simpa using a3
   by_cases a4:(bn:Int)<=c.idx
   ·have a4d:decide ((bn:Int)<=c.idx)=true:=by simpa using a4
    have HV:Hid (B1=true):=HB1.out.2 (.inr (.inr (.inr (.inl (by rw[HBK.out];exact a4)))))
    go_quiet (fail);go_wp2
    go_meet
    exact⟨rfl,by rw[HV.out],G2.out.trans (show Below _ _ _ from bD (bR _ _) _),X2.out.grew (show Below _ _ _ from bD (bR _ _) _),C2.out.grew (show Below _ _ _ from bD (bR _ _) _)⟩
   have a4d:decide ((bn:Int)<=c.idx)=false:=by simpa using a4
   by_cases a5:c.fr<0
   ·have a5d:decide (c.fr<0)=true:=by simpa using a5
    have HV:Hid (B1=true):=HB1.out.2 (.inr (.inr (.inr (.inr (.inl a5)))));go_quiet (fail);go_wp2
    go_meet
    exact⟨rfl,by rw[HV.out],G2.out.trans (show Below _ _ _ from bD (bR _ _) _),X2.out.grew (show Below _ _ _ from bD (bR _ _) _),C2.out.grew (show Below _ _ _ from bD (bR _ _) _)⟩
   have a5d:decide (c.fr<0)=false:=by simpa using a5
   by_cases a6:(fn:Int)<=c.fr
   ·have a6d:decide ((fn:Int)<=c.fr)=true:=by simpa using a6
    have HV:Hid (B1=true):=HB1.out.2 (.inr (.inr (.inr (.inr (.inr (by rw[HN1.out];exact a6))))))
    go_quiet (fail);go_wp2
    go_meet
    exact⟨rfl,by rw[HV.out],G2.out.trans (show Below _ _ _ from bD (bR _ _) _),X2.out.grew (show Below _ _ _ from bD (bR _ _) _),C2.out.grew (show Below _ _ _ from bD (bR _ _) _)⟩
   have a6d:decide ((fn:Int)<=c.fr)=false:=by simpa using a6
   have HV:Hid (B1=false):=dD<|by
    cases hb:B1 with
    | false=>rfl
    | true=>
     have h1:=HB1.out.1 hb;have h2:=HA12.out;have h3:=HBK.out;have h4:=HN7.out;have h5:=HN1.out;omega
   go_quiet (fail);go_wp2
   go_meet
   exact⟨rfl,by rw[HV.out],G2.out.trans (show Below _ _ _ from bD (bR _ _) _),X2.out.grew (show Below _ _ _ from bD (bR _ _) _),C2.out.grew (show Below _ _ _ from bD (bR _ _) _)⟩
  obtain⟨rfl,rfl,G3,X3,C3⟩:=hcut
  cases hB:B1 with
  | true=>
   have HF:Hid (Z=3):=dD<|by
    have hb:caE m (pvC m i) c=3:=by unfold caE;rw[if_pos (HB1.out.1 hB)]
    rw[thr_yes ZI.out (by rw[hb];decide),hb]
   go_wp2;go_ret;exact⟨by rw[HF.out];rfl,G3.out⟩
  | false=>
   have HOK:Hid (¬(c.file<0\/(m.fl.length:Int)<=c.file\/c.idx<0\/bkN m c.file<=c.idx\/c.fr<0\/(m.fs.length:Int)<=c.fr)):=dD<|fun h=>by have:=HB1.out.2 h;rw[hB]at this;cases this
   clear hB;have HRG:Hid (0<=c.file/\c.file<5/\0<=c.idx/\c.idx<12):=dD<|by
    have h1:=HOK.out;have h2:=HP.out.fl.1;have h3:bkN m c.file<=12:=by
     unfold bkN;rw[gD]
     cases e:m.fl[c.file.toNat]? with
     | none=>simp
     | some f=>have:=HP.out.fl.2 f (mG e);simp;omega
    omega
   obtain⟨j,hj⟩:∃j:Nat,c.fr=(j:Int):=⟨c.fr.toNat,by have:=HOK.out;omega⟩
   obtain⟨q,hq⟩:∃q,m.fs[j]? =some q:=⟨_,gE (by have:=HOK.out;omega)⟩
   have HQ:Hid (frAt m c.fr=q):=dD<|by rw[hj];exact frAt_of hq
   obtain⟨adf,hfa,hl⟩:=HFR.out j q hq;have hjz:(j:Int)< (fn:Int):=by have:=HOK.out;have:=HN1.out;omega
   have XW3:Hid (Box wc w.heap.size [.slice (some adf) fn fc,.int .i64 m.hand,.slice sa sn sc,.slice vsb.a vsb.n vsb.c,.slice vsq.a vsq.n vsq.c,.slice vdb.a vdb.n vdb.c,.slice vdq.a vdq.n vdq.c,.slice fla fln flc,.int .i64 m.cnt,.slice (some adc) can cac,.slice spa spn spc]):=dD<|by rw[<-hfa];exact X3.out
   obtain⟨d0,d1,d2,d3,d4,d5,d6,d7,d8,d9,d10,d11,d12⟩:=hl wc G3.out;have c2:=C3.out.c 2 rfl;rw[hj]at c2;have HJ:Hid (c.fr=(j:Int)):=hj;have x0:=XW3.out.c 0 rfl;clear hj hq hl hfa;go_upto_region 10 with fail;obtain⟨pq,HPQ⟩:∃pq,Hid (wc.heap.size=pq):=⟨_,rfl⟩;obtain⟨W4,hW4⟩:∃W4,wc.alloc (.cells #[.int .u8 q.p.b0,.int .u8 q.p.b1,.int .u8 q.p.b2,.int .u8 q.p.b3,.int .u8 q.p.b4,.int .u8 q.p.b5,.int .u8 q.p.b6,.int .u8 q.p.b7,.int .i64 q.r,.bool q.u,.bool q.d,.int .i64 q.f,.int .i64 q.x] 59)=W4:=⟨_,rfl⟩;have g4:=gP hW4
   have Q4:=xP hW4 HPQ
   have G4:=dD (G3.out.trans g4);have X4:=dD (X3.out.grew g4);have C4:=dD (C3.out.grew g4);rw[hW4,HPQ.out];clear hW4 g4 x0 c2 d0 d1 d2 d3 d4 d5 d6 d7 d8 d9 d10 d11 d12;have HBAD:Hid (q.r=0\/q.f≠c.file\/q.x≠c.idx->Z=7):=show _->_ from fun h=>by
    have hb:caE m (pvC m i) c=7:=by unfold caE;rw[if_neg HOK.out,HQ.out,if_pos h]
    rw[thr_yes ZI.out (by rw[hb];decide),hb]
   have q8:=Q4.out.c 8 rfl;have q11:=Q4.out.c 11 rfl;have q12:=Q4.out.c 12 rfl;have c0:=C4.out.c 0 rfl;have c1:=C4.out.c 1 rfl
   by_cases k1:q.r=0
   ·have k1e:(q.r == 0)=true:=by simp[k1]
    have HF:Hid (Z=7):=HBAD.out (.inl k1);clear k1;go_wp2;go_ret;exact⟨by rw[HF.out];rfl,G4.out⟩
   have k1e:(q.r == 0)=false:=by simp[k1]
   by_cases k2:q.f=c.file
   rotate_left
   ·have k2e:(q.f != c.file)=true:=by simp[k2]
    have HF:Hid (Z=7):=HBAD.out (.inr (.inl k2));clear k1 k2;go_wp2;go_ret;exact⟨by rw[HF.out];rfl,G4.out⟩
   have k2e:(q.f != c.file)=false:=by simp[k2]
   by_cases k3:q.x=c.idx
   rotate_left
   ·have k3e:(q.x != c.idx)=true:=by simp[k3]
    have HF:Hid (Z=7):=HBAD.out (.inr (.inr k3));clear k1 k2 k3;go_wp2;go_ret;exact⟨by rw[HF.out];rfl,G4.out⟩
   have k3e:(q.x != c.idx)=false:=by simp[k3]
   have HGD:Hid (caE m (pvC m i) c=match pvC m i with | some q=>(if keyC c<=keyC q then 2 else 0) | none=>0):=dD<|by
    unfold caE;rw[if_neg HOK.out,HQ.out,if_neg (by rintro(h | h | h) <;> contradiction)]
    cases pvC m i <;> rfl
   have OW':Hid (∀(j:Nat) c,j<i+1->m.ca[j]? =some c->0<=c.file/\c.file<5/\0<=c.idx/\c.idx<12):=dD<|fun j c' hj' hc'=>by
    by_cases e:j=i
    ·subst e;rw[HC.out]at hc';cases hc';exact HRG.out
    exact OW.out j c' (by omega) hc'
   clear k1 k2 k3;go_upto_region 12 with fail;clear k1e k2e k3e q8 q11 q12;obtain⟨r0,r1,r2,r3⟩:=HRG.out;have x9:=X4.out.c 9 rfl
   by_cases h0:i=0
   ·subst h0;have ZN:Hid (firstE [caGo m (pvC m (0+1)) (m.ca.drop (0+1)),firstE (m.sp.map (spEnt m)),firstE ((List.range m.fs.length).map (frE m)),firstE ((List.range m.sl.length).map (sloE m))]=Z):=thr_no ZI.out (HGD.out.trans (by rw[pvC_zero]))
    go_quiet (fail);go_wp2
    go_roundg (can -(0+1))
    case measure=>omega
    exact⟨0+1,by omega,by omega,by go_num,G4.out.trans (show Below _ _ _ from bD (bR _ _) _),X4.out.grew (show Below _ _ _ from bD (bR _ _) _),ZN.out,OW'.out⟩
   obtain⟨i',rfl⟩:∃i',i=i'+1:=⟨i - 1,by omega⟩
   obtain⟨c',HC'⟩:∃c',Hid (m.ca[i']? =some c'):=⟨_,gE (by rw[HN8.out];omega)⟩
   obtain⟨_,he,hl⟩:=HCA.out i' c' HC'.out;cases he;obtain⟨e0,e1,-⟩:=hl W4 G4.out;obtain⟨s0,s1,s2,s3⟩:=OW.out i' c' (by omega) HC'.out
   have HPV:Hid (pvC m (i'+1)=some c'):=dD<|by unfold pvC;rw[if_neg (by omega)];exact HC'.out
   have hiz:(((i'+1:Nat):Int) - 1)=(i':Int):=by omega
   have hil:(i':Int)< (can:Int):=by omega
   have hpz:(0:Int)< ((i'+1:Nat):Int):=by omega
   clear hl h0
   by_cases hk:100*c.file+c.idx<=100*c'.file+c'.idx
   ·have hkd:decide (100*c.file+c.idx<=100*c'.file+c'.idx)=true:=by simpa using hk
    have HF:Hid (Z=2):=dD<|by
     have hb:caE m (pvC m (i'+1)) c=2:=by rw[HGD.out,HPV.out];exact if_pos hk
     rw[thr_yes ZI.out (by rw[hb];decide),hb]
    clear hk;go_quiet (fail);go_wp2;go_ret;exact⟨by rw[HF.out];rfl,G4.out.trans (show Below _ _ _ from bD (bR _ _) _)⟩
   have hkd:decide (100*c.file+c.idx<=100*c'.file+c'.idx)=false:=by simpa using hk
   have ZN:Hid (firstE [caGo m (pvC m (i'+1+1)) (m.ca.drop (i'+1+1)),firstE (m.sp.map (spEnt m)),firstE ((List.range m.fs.length).map (frE m)),firstE ((List.range m.sl.length).map (sloE m))]=Z):=thr_no ZI.out (by rw[HGD.out,HPV.out];exact if_neg hk)
   clear hk;go_quiet (fail);go_wp2
   go_roundg (can -(i'+1+1))
   case measure=>omega
   exact⟨i'+1+1,by omega,by omega,by go_num,G4.out.trans (show Below _ _ _ from bD (bR _ _) _),X4.out.grew (show Below _ _ _ from bD (bR _ _) _),ZN.out,OW'.out⟩
 have hltz:¬(i:Int)< (can:Int):=by omega
 obtain rfl:can=i:=by omega
 have Z3:Hid (firstE [firstE (m.sp.map (spEnt m)),firstE ((List.range m.fs.length).map (frE m)),firstE ((List.range m.sl.length).map (sloE m))]=Z):=firstE_neg ZW.out (by rw[List.drop_of_length_le (by rw[HN8.out];exact nR _)];rfl)
 have Z4:Hid (firstE [goL (spF m) m.sp.length 0,firstE ((List.range m.fs.length).map (frE m)),firstE ((List.range m.sl.length).map (sloE m))]=Z):=dD<|by have:=Z3.out;rw[spF_all]at this;exact this
 have x10:=XW.out.c 10 rfl;go_wp2;clear x10
 go_loopg [134] spn (fun gg s134 wr=>∃p:Nat,p<=spn/\spn - p<=gg/\s134= .int .i64 p/\Hid (Grew w wr)/\Hid (Box wr w.heap.size [.slice fa fn fc,.int .i64 m.hand,.slice sa sn sc,.slice vsb.a vsb.n vsb.c,.slice vsq.a vsq.n vsq.c,.slice vdb.a vdb.n vdb.c,.slice vdq.a vdq.n vdq.c,.slice fla fln flc,.int .i64 m.cnt,.slice caa can cac,.slice spa spn spc])/\Hid (firstE [goL (spF m) m.sp.length p,firstE ((List.range m.fs.length).map (frE m)),firstE ((List.range m.sl.length).map (sloE m))]=Z))
 case atStart=>exact⟨0,nZ _,by omega,rfl,GW.out,XW.out,Z4.out⟩
 obtain⟨p,hp,hgp,rfl,GP,XP,ZP⟩:=hrel
 by_cases hlp:p<spn
 ·have hlpz:(p:Int)< (spn:Int):=by omega
  obtain⟨x,hx⟩:∃x,xs[p]? =some x:=⟨_,gE (by rw[HXL.out];exact hlp)⟩
  obtain⟨s,HS⟩:∃s,Hid (m.sp[p]? =some s):=⟨_,gE (by rw[HN9.out];exact hlp)⟩
  have HAT:Hid (SpaceAt w x s):=HSP.out p x s hx HS.out;obtain⟨ad,rfl,hl⟩:=HRW.out p x hx;obtain⟨d0,d1,d2,d3,d4,d5,d6,d7,d8,d9⟩:=hl wr GP.out;have HRT:Hid ((wrL s.ars).1=0/\tbW s.tb=0):=HP.out.ar s (mG HS.out);have ZS:Hid (firstE (goL (pgF m s) 64 0 :: [goL (spF m) m.sp.length (p+1),firstE ((List.range m.fs.length).map (frE m)),firstE ((List.range m.sl.length).map (sloE m))])=Z):=show _=_ by
   have h1:=ZP.out;rw[goL_step (spF m) (by rw[HN9.out];exact hlp),thr_two,spF_at HS.out,pgF_all]at h1
   exact h1
  have HON:Hid (∀W,Grew w W->Calls prog 41 #[.slice x.ar.a x.ar.n x.ar.c] W fun e w'=>e= .returned (.agg (cellsO (tab (onAt s.ars))).toArray)/\Grew W w'):=dD<|fun W hW=>refOnes_any _ s.ars W (HAT.out.ar.grew hW) (wrL_zero.1 HRT.out.1).2.lies
  have HFT:Hid (∀W,Grew w W->Calls prog 42 #[.agg #[.slice x.t0.a x.t0.n x.t0.c,.slice x.t1.a x.t1.n x.t1.c,.slice x.t2.a x.t2.n x.t2.c,.slice x.t3.a x.t3.n x.t3.c,.slice x.t4.a x.t4.n x.t4.c,.slice x.t5.a x.t5.n x.t5.c,.slice x.t6.a x.t6.n x.t6.c,.slice x.t7.a x.t7.n x.t7.c]] W fun e w'=>e= .returned (.agg (cellsL (flatT s.tb)).toArray)/\Grew W w'):=dD<|fun W hW=>flatTb_any x.tab s.tb W ((HAT.out.grew hW).tb) (tb8 HRT.out.2)
  have HF64:Hid (∀j,j<64->(flatT s.tb)[j]? =some (flatN s j)):=dD<|fun j hj=>flatT_at s.tb hj
  have hz:=run_zeroO;obtain⟨Z0,HZ0⟩:∃Z0,Hid (cellsO (tab fun _=>on0)=Z0):=⟨_,rfl⟩
  rw[HZ0.out]at hz;have HZL:Hid (Z0.length=384):=dD<|by rw[<-HZ0.out,tabO_len]
  have HPL:Hid ((cellsO (tab (onAt s.ars))).length=384):=tabO_len _;have HPO:Hid (∀v∈cellsO (tab (onAt s.ars)),v.oneCell'=true):=cellsO_one _;have HCO:Hid (∀k,k<64->∀(i:Nat) u,(onv (onAt s.ars k))[i]? =some u->(cellsO (tab (onAt s.ars)))[k*6+i]? =some u):=show∀k,_ from fun k hk i u hu=>cellsO_at (tab_at hk) i _ hu
  generalize cellsO (tab (onAt s.ars))=CO at HON HPL HPO HCO
  clear hl hx;go_upto_region 18 with fail;obtain⟨px,HPX⟩:∃px,Hid (wr.heap.size=px):=⟨_,rfl⟩;obtain⟨W5,hW5⟩:∃W5,wr.alloc (.cells #[.bool x.live,.slice x.ar.a x.ar.n x.ar.c,.slice x.t0.a x.t0.n x.t0.c,.slice x.t1.a x.t1.n x.t1.c,.slice x.t2.a x.t2.n x.t2.c,.slice x.t3.a x.t3.n x.t3.c,.slice x.t4.a x.t4.n x.t4.c,.slice x.t5.a x.t5.n x.t5.c,.slice x.t6.a x.t6.n x.t6.c,.slice x.t7.a x.t7.n x.t7.c] 65)=W5:=⟨_,rfl⟩;have g5:=gP hW5
  have S5:=xP hW5 HPX
  have G5:=dD (GP.out.trans g5);have X5:=dD (XP.out.grew g5);rw[hW5,HPX.out];clear hW5 g5 d0 d1 d2 d3 d4 d5 d6 d7 d8 d9;have s1:=S5.out.c 1 rfl;have hc:=HON.out W5 G5.out;go_wp2_with fail;refine hc.mono ?_;clear s1 hc;rintro e W6 ⟨rfl,g6⟩;obtain⟨po,HPQ⟩:∃po,Hid (W6.heap.size=po):=⟨_,rfl⟩;have G6:=dD (G5.out.trans g6);have X6:=dD (X5.out.grew g6);have S6:=dD (S5.out.grew g6);clear g6
  go_upto_region 19 with(refine wp_storeAll rfl 97 (.tmp 9) (.tmp 140) rfl W6.heap.size rfl CO rfl (Box.top W6 Z0 97 rfl) (by rw[HPL.out,HZL.out]) (by rw[HZL.out];exact Tryz.sizeOnes) HPO.out ?_)
  intro W7 b7 g7 s7;have g67:Grew W6 W7:=grew_grown (grew_alloc _ _) g7 (nR _);have G7:=dD (G6.out.trans g67);have X7:=dD (X6.out.grew g67);have S7:=dD (S6.out.grew g67);rw[HPQ.out]at b7⊢;have P7:Hid (Box W7 po CO):=b7;clear b7 g7 s7 g67 hz;try simp only[Act.put]
  have s2:=S7.out.c 2 rfl;have s3:=S7.out.c 3 rfl;have s4:=S7.out.c 4 rfl;have s5:=S7.out.c 5 rfl;have s6:=S7.out.c 6 rfl;have s7:=S7.out.c 7 rfl;have s8:=S7.out.c 8 rfl;have s9:=S7.out.c 9 rfl;have hc:=HFT.out W7 G7.out;go_wp2_with fail;refine hc.mono ?_;clear hc s2 s3 s4 s5 s6 s7 s8 s9;rintro e W8 ⟨rfl,g8⟩;have G8:=dD (G7.out.trans g8);have X8:=dD (X7.out.grew g8);have P8:=dD (P7.out.grew g8);clear g8;go_wp2
  go_loopg [144] 64 (fun gg s144 wr=>∃n:Nat,n<=64/\64 - n<=gg/\s144= .int .i64 n/\Hid (Grew w wr)/\Hid (Box wr w.heap.size [.slice fa fn fc,.int .i64 m.hand,.slice sa sn sc,.slice vsb.a vsb.n vsb.c,.slice vsq.a vsq.n vsq.c,.slice vdb.a vdb.n vdb.c,.slice vdq.a vdq.n vdq.c,.slice fla fln flc,.int .i64 m.cnt,.slice caa can cac,.slice (some ad) spn spc])/\Hid (Box wr po CO)/\Hid (firstE (goL (pgF m s) 64 n :: [goL (spF m) m.sp.length (p+1),firstE ((List.range m.fs.length).map (frE m)),firstE ((List.range m.sl.length).map (sloE m))])=Z))
  case atStart=>exact⟨0,nZ _,by omega,rfl,G8.out,X8.out,P8.out,ZS.out⟩
  obtain⟨n,hn,hgn,rfl,G9,X9,P9,Z9⟩:=hrel
  by_cases hln:n<64
  ·have hlnz:(n:Int)<64:=by omega
   obtain⟨e,HE⟩:∃e,Hid (flatN s n=e):=⟨_,rfl⟩;obtain⟨o,HO⟩:∃o,Hid (onAt s.ars n=o):=⟨_,rfl⟩;have HZF:Hid ((flatT s.tb)[n]? =some e):=dD<|by rw[HF64.out n hln,HE.out]
   have HON:Hid (∀(i:Nat) u,(onv o)[i]? =some u->CO[n*6+i]? =some u):=dD<|by rw[<-HO.out];exact HCO.out n hln
   have h0:0<=e.n:=by rw[<-HE.out];exact en_pos (flat_fine HRT.out.2 n)
   have HPG:Hid (pgF m s n=if e.kind=0 then 0 else entE m o e):=dD<|by unfold pgF;rw[HE.out,HO.out]
   go_upto_region 22 with(refine wp_flatAt rfl (.tmp 143) (.tmp 144) rfl (flatT s.tb) rfl n rfl hln HZF.out ?_)
   obtain⟨pe,HPE⟩:∃pe,Hid (wr.heap.size=pe):=⟨_,rfl⟩;obtain⟨W10,hW10⟩:∃W10,wr.alloc (.cells #[.int .i64 e.kind,.int .i64 e.n,.bool e.wr] 67)=W10:=⟨_,rfl⟩;have g10:=gP hW10
   have E10:=xP hW10 HPE
   have G10:=dD (G9.out.trans g10);have X10:=dD (X9.out.grew g10);have P10:=dD (P9.out.grew g10);rw[hW10,HPE.out];clear hW10 g10;have e0:=E10.out.c 0 rfl
   by_cases hk:e.kind=0
   ·have hke:(e.kind == 0)=true:=by simp[hk]
    have ZN:Hid (firstE (goL (pgF m s) 64 (n+1) :: [goL (spF m) m.sp.length (p+1),firstE ((List.range m.fs.length).map (frE m)),firstE ((List.range m.sl.length).map (sloE m))])=Z):=goL_no hln Z9.out (by rw[HPG.out,if_pos hk])
    clear hk;go_wp2
    go_roundg (64 -(n+1))
    case measure=>omega
    exact⟨n+1,by omega,by omega,by go_num,G10.out,X10.out,P10.out,ZN.out⟩
   have hke:(e.kind == 0)=false:=by simp[hk]
   obtain⟨EE,HEE⟩:∃EE,Hid (entE m o e=EE):=⟨_,rfl⟩;have HPE2:Hid (pgF m s n=EE):=dD<|by rw[HPG.out,if_neg hk,HEE.out]
   clear hk;go_upto_region 23 with fail;clear hke e0;have hx0:=X10.out.gw 0 rfl
   have hx1:=X10.out.gw 1 rfl
   have hx2:=X10.out.gw 2 rfl
   have hx3:=X10.out.gw 3 rfl
   have hx4:=X10.out.gw 4 rfl
   have hx5:=X10.out.gw 5 rfl
   have hx6:=X10.out.gw 6 rfl
   have hx7:=X10.out.gw 7 rfl
   have hx8:=X10.out.gw 8 rfl
   have hx9:=X10.out.gw 9 rfl
   have hx10:=X10.out.gw 10 rfl
   have he0:=E10.out.gw 0 rfl
   have he1:=E10.out.gw 1 rfl
   have he2:=E10.out.gw 2 rfl
   have ho0:∀y:GrownW W10,y.world.cell? ⟨po,n*6,none⟩=some (.bool o.is):=fun y=>(P10.out.grew y.grew).c _ (HON.out 0 _ rfl)
   have ho1:∀y:GrownW W10,y.world.cell? ⟨po,n*6+1,none⟩=some (.bool o.rd):=fun y=>(P10.out.grew y.grew).c _ (HON.out 1 _ rfl)
   have ho2:∀y:GrownW W10,y.world.cell? ⟨po,n*6+2,none⟩=some (.bool o.wr):=fun y=>(P10.out.grew y.grew).c _ (HON.out 2 _ rfl)
   have ho3:∀y:GrownW W10,y.world.cell? ⟨po,n*6+3,none⟩=some (.bool o.sh):=fun y=>(P10.out.grew y.grew).c _ (HON.out 3 _ rfl)
   have ho4:∀y:GrownW W10,y.world.cell? ⟨po,n*6+4,none⟩=some (.int .i64 o.file):=fun y=>(P10.out.grew y.grew).c _ (HON.out 4 _ rfl)
   have ho5:∀y:GrownW W10,y.world.cell? ⟨po,n*6+5,none⟩=some (.int .i64 o.page):=fun y=>(P10.out.grew y.grew).c _ (HON.out 5 _ rfl)
   have hne:Nonempty (GrownW W10):=⟨⟨_,Grew.refl _⟩⟩;refine wp_lax [(5,⟨fun v=>v= .int .i64 EE,fun v w'=>True⟩)] mixed (by kernel_rfl) ?hS ?hp ?_
   case hS=>
    intro x hx;simp only[mC,nM,or_false]at hx;subst hx;exact⟨_,rfl⟩
   case hp=>
    intro x hx;simp only[mC,nM,or_false]at hx;subst hx;exact fun _ _ _ _ h=>h
   iterate 5 (refine lax_quiet rfl rfl rfl (fun K hK=>?_);go_big_quiet_op;refine hK _ ?_;clear hK)
   refine lax_spec rfl rfl (fun w' hg hF=>?_) (fun v1 hv=>?_)
   ·refine Does.call [.agg #[.slice fa fn fc,.int .i64 m.hand,.slice sa sn sc,.slice vsb.a vsb.n vsb.c,.slice vsq.a vsq.n vsq.c,.slice vdb.a vdb.n vdb.c,.slice vdq.a vdq.n vdq.c,.slice fla fln flc,.int .i64 m.cnt,.slice caa can cac,.slice (some ad) spn spc],.agg #[.bool o.is,.bool o.rd,.bool o.wr,.bool o.sh,.int .i64 o.file,.int .i64 o.page],.agg #[.int .i64 e.kind,.int .i64 e.n,.bool e.wr]] rfl func43 rfl rfl rfl ?_;refine(HEN.out w' o e (G10.out.trans hg) h0).mono ?_;rintro e w'' ⟨rfl,hg2⟩;exact⟨_,rfl,hg2,by rw[HEE.out],trivial⟩
   subst hv;simp only[Act.put,sB,sS,sZ];iterate 1 (refine lax_quiet rfl rfl rfl (fun K hK=>?_);go_big_quiet_op;refine hK _ ?_;clear hK)
   refine lax_nil fun W11 hg1 hF=>?_
   have G11:=dD (G10.out.trans hg1);have X11:=dD (X10.out.grew hg1);have P11:=dD (P10.out.grew hg1);clear hg1 hF hne hx0 hx1 hx2 hx3 hx4 hx5 hx6 hx7 hx8 hx9 hx10 he0 he1 he2 ho0 ho1 ho2 ho3 ho4 ho5
   by_cases hz:EE=0
   ·have hze:(EE != 0)=false:=by simp[hz]
    have ZN:Hid (firstE (goL (pgF m s) 64 (n+1) :: [goL (spF m) m.sp.length (p+1),firstE ((List.range m.fs.length).map (frE m)),firstE ((List.range m.sl.length).map (sloE m))])=Z):=goL_no hln Z9.out (by rw[HPE2.out];exact hz)
    clear hz;go_wp2
    go_roundg (64 -(n+1))
    case measure=>omega
    exact⟨n+1,by omega,by omega,by go_num,G11.out,X11.out,P11.out,ZN.out⟩
   have hze:(EE != 0)=true:=by simp[hz]
   have HF:Hid (Z=EE):=dD<|by rw[goL_yes hln Z9.out (by rw[HPE2.out];exact hz),HPE2.out]
   clear hz;go_wp2;go_ret;exact⟨by rw[HF.out];first | rfl | skip,G11.out⟩
  have hlnz:¬(n:Int)<64:=by omega
  obtain rfl:n=64:=by omega
  have ZN:Hid (firstE [goL (spF m) m.sp.length (p+1),firstE ((List.range m.fs.length).map (frE m)),firstE ((List.range m.sl.length).map (sloE m))]=Z):=firstE_neg Z9.out (goL_end _ _);go_wp2
  go_roundg (spn -(p+1))
  case measure=>omega
  exact⟨p+1,by omega,by omega,by go_num,G9.out,X9.out,ZN.out⟩
 have hlpz:¬(p:Int)< (spn:Int):=by omega
 obtain rfl:spn=p:=by omega
 have Z5:Hid (firstE [firstE ((List.range m.fs.length).map (frE m)),firstE ((List.range m.sl.length).map (sloE m))]=Z):=firstE_neg ZP.out (by rw[HN9.out];exact goL_end _ _)
 have Z6:Hid (firstE [goL (frE m) m.fs.length 0,firstE ((List.range m.sl.length).map (sloE m))]=Z):=dD<|by have h1:=Z5.out;rw[<-goL_all]at h1;exact h1
 have x0:=XP.out.c 0 rfl;go_wp2;clear x0
 go_loopg [166] fn (fun gg s166 wr=>∃k:Nat,k<=fn/\fn - k<=gg/\s166= .int .i64 k/\Hid (Grew w wr)/\Hid (Box wr w.heap.size [.slice fa fn fc,.int .i64 m.hand,.slice sa sn sc,.slice vsb.a vsb.n vsb.c,.slice vsq.a vsq.n vsq.c,.slice vdb.a vdb.n vdb.c,.slice vdq.a vdq.n vdq.c,.slice fla fln flc,.int .i64 m.cnt,.slice caa can cac,.slice spa spn spc])/\Hid (firstE [goL (frE m) m.fs.length k,firstE ((List.range m.sl.length).map (sloE m))]=Z))
 case atStart=>exact⟨0,nZ _,by omega,rfl,GP.out,XP.out,Z6.out⟩
 obtain⟨k,hk,hgk,rfl,GK,XK,ZK⟩:=hrel
 by_cases hlk:k<fn
 ·have hlkz:(k:Int)< (fn:Int):=by omega
  obtain⟨q,HQ⟩:∃q,Hid (m.fs[k]? =some q):=⟨_,gE (by rw[HN1.out];exact hlk)⟩
  obtain⟨adf,rfl,hl⟩:=HFR.out k q HQ.out;obtain⟨d0,d1,d2,d3,d4,d5,d6,d7,d8,d9,d10,d11,d12⟩:=hl wr GK.out;obtain⟨Hz,HHZ⟩:∃Hz:Int,Hid ((holders m 1 (k:Int):Int)=Hz):=⟨_,rfl⟩;obtain⟨Cz,HCZ⟩:∃Cz:Int,Hid ((cachedN m.ca (k:Int):Int)=Cz):=⟨_,rfl⟩;have hHz:0<=Hz/\Hz<=256:=by
   have h1:=holdTo_le (m:=m) (kind:=1) (k:=(k:Int)) m.sp.length;rw[holdTo_all]at h1;have h2:=HHZ.out;have h3:=HP.out.s4;omega
  have hCz:0<=Cz/\Cz<=5864062014805:=by
   have h1:cachedN m.ca (k:Int)<=m.ca.length:=List.countP_le_length;have h2:=HCZ.out;have h3:=HN8.out;omega
  obtain⟨hHz0,hHz1⟩:=hHz;obtain⟨hCz0,hCz1⟩:=hCz;have HBAD:Hid (q.r≠Hz+Cz\/(0<=q.f/\Cz=0)->Z=7):=dD<|fun h=>by
   have h1:=HHZ.out;have h2:=HCZ.out;have hb:frE m k=7:=by unfold frE;rw[frAt_of HQ.out,if_pos (by omega)]
   rw[goL_yes (by rw[HN1.out];exact hlk) ZK.out (by rw[hb];decide),hb]
  have HGOOD:Hid (¬(q.r≠Hz+Cz\/(0<=q.f/\Cz=0))->firstE [goL (frE m) m.fs.length (k+1),firstE ((List.range m.sl.length).map (sloE m))]=Z):=dD<|fun h=>by
   have h1:=HHZ.out;have h2:=HCZ.out;exact goL_no (by rw[HN1.out];exact hlk) ZK.out (by unfold frE;rw[frAt_of HQ.out,if_neg (by omega)])
  clear hl;go_upto_region 31 with fail;obtain⟨pq,HPQ⟩:∃pq,Hid (wr.heap.size=pq):=⟨_,rfl⟩;obtain⟨W12,hW12⟩:∃W12,wr.alloc (.cells #[.int .u8 q.p.b0,.int .u8 q.p.b1,.int .u8 q.p.b2,.int .u8 q.p.b3,.int .u8 q.p.b4,.int .u8 q.p.b5,.int .u8 q.p.b6,.int .u8 q.p.b7,.int .i64 q.r,.bool q.u,.bool q.d,.int .i64 q.f,.int .i64 q.x] 59)=W12:=⟨_,rfl⟩;have g12:=gP hW12
  have Q12:=xP hW12 HPQ
  have G12:=dD (GK.out.trans g12);have X12:=dD (XK.out.grew g12);rw[hW12,HPQ.out];clear hW12 g12 d0 d1 d2 d3 d4 d5 d6 d7 d8 d9 d10 d11 d12;obtain⟨x0,x1,x2,x3,x4,x5,x6,x7,x8,x9,x10⟩:=X12.out.c11;have hc:=HHO.out W12 1 (k:Int) G12.out HP.out;rw[HHZ.out]at hc;go_wp2_with fail;refine hc.mono ?_;clear hc x0 x1 x2 x3 x4 x5 x6 x7 x8 x9 x10;rintro e W13 ⟨rfl,g13⟩;have G13:=dD (G12.out.trans g13);have X13:=dD (X12.out.grew g13);have Q13:=dD (Q12.out.grew g13);clear g13;have x9:=X13.out.c 9 rfl;go_wp2;clear x9
  go_loopg [16,177] can (fun gg s16 s177 wr=>∃j:Nat,j<=can/\can - j<=gg/\s177= .int .i64 j/\s16= .int .i64 (cachedN (m.ca.take j) (k:Int):Int)/\Hid (Grew w wr)/\Hid (Box wr w.heap.size [.slice (some adf) fn fc,.int .i64 m.hand,.slice sa sn sc,.slice vsb.a vsb.n vsb.c,.slice vsq.a vsq.n vsq.c,.slice vdb.a vdb.n vdb.c,.slice vdq.a vdq.n vdq.c,.slice fla fln flc,.int .i64 m.cnt,.slice caa can cac,.slice spa spn spc])/\Hid (Box wr pq [.int .u8 q.p.b0,.int .u8 q.p.b1,.int .u8 q.p.b2,.int .u8 q.p.b3,.int .u8 q.p.b4,.int .u8 q.p.b5,.int .u8 q.p.b6,.int .u8 q.p.b7,.int .i64 q.r,.bool q.u,.bool q.d,.int .i64 q.f,.int .i64 q.x]))
  case atStart=>exact⟨0,nZ _,by omega,rfl,rfl,G13.out,X13.out,Q13.out⟩
  obtain⟨j,hj,hgj,rfl,rfl,GJ,XJ,QJ⟩:=hrel
  by_cases hlj:j<can
  ·have hljz:(j:Int)< (can:Int):=by omega
   obtain⟨c,HC⟩:∃c,Hid (m.ca[j]? =some c):=⟨_,gE (by rw[HN8.out];exact hlj)⟩
   obtain⟨adc,rfl,hl⟩:=HCA.out j c HC.out;obtain⟨d0,d1,d2⟩:=hl wr GJ.out;have hcl:cachedN (m.ca.take j) (k:Int)<=j:=cached_le j;have HCS:Hid (cachedN (m.ca.take (j+1)) (k:Int)=cachedN (m.ca.take j) (k:Int)+(decide (c.fr=(k:Int))).toNat):=cached_step HC.out;obtain⟨c0,hc0⟩:∃c0,cachedN (m.ca.take j) (k:Int)=c0:=⟨_,rfl⟩;rw[hc0]at hcl HCS⊢;clear hc0 hl;go_upto_region 35 with fail;obtain⟨pc,HPC⟩:∃pc,Hid (wr.heap.size=pc):=⟨_,rfl⟩;obtain⟨W14,hW14⟩:∃W14,wr.alloc (.cells #[.int .i64 c.file,.int .i64 c.idx,.int .i64 c.fr] 83)=W14:=⟨_,rfl⟩;have g14:=gP hW14
   have C14:=xP hW14 HPC
   have G14:=dD (GJ.out.trans g14);have X14:=dD (XJ.out.grew g14);have Q14:=dD (QJ.out.grew g14);rw[hW14,HPC.out];clear hW14 g14 d0 d1 d2;have c2:=C14.out.c 2 rfl
   by_cases hkk:c.fr=(k:Int)
   ·have hke:(c.fr ==(k:Int))=true:=by simp[hkk]
    have HV:Hid (cachedN (m.ca.take (j+1)) (k:Int)=c0+1):=dD<|by rw[HCS.out,decide_eq_true hkk];rfl
    clear hkk;go_wp2
    go_roundg (can -(j+1))
    case measure=>omega
    exact⟨j+1,by omega,by omega,by go_num,by rw[HV.out];go_num,G14.out,X14.out,Q14.out⟩
   have hke:(c.fr ==(k:Int))=false:=by simp[hkk]
   have HV:Hid (cachedN (m.ca.take (j+1)) (k:Int)=c0):=dD<|by rw[HCS.out,decide_eq_false hkk];rfl
   clear hkk;go_wp2
   go_roundg (can -(j+1))
   case measure=>omega
   exact⟨j+1,by omega,by omega,by go_num,by rw[HV.out],G14.out,X14.out,Q14.out⟩
  have hljz:¬(j:Int)< (can:Int):=by omega
  obtain rfl:can=j:=by omega
  have hce:(cachedN (m.ca.take can) (k:Int):Int)=Cz:=by rw[List.take_of_length_le (by rw[HN8.out];exact nR _)];exact HCZ.out
  rw[hce];clear hce;have q8:=QJ.out.c 8 rfl;have q11:=QJ.out.c 11 rfl
  by_cases k1:q.r=Hz+Cz
  rotate_left
  ·have k1e:(q.r != Hz+Cz)=true:=by simp[k1]
   have HF:Hid (Z=7):=HBAD.out (.inl k1);clear k1;go_wp2;go_ret;exact⟨by rw[HF.out];rfl,GJ.out⟩
  have k1e:(q.r != Hz+Cz)=false:=by simp[k1]
  by_cases k2:0<=q.f
  ·have k2d:decide (0<=q.f)=true:=decide_eq_true k2
   by_cases k3:Cz=0
   ·have k3e:(Cz == 0)=true:=by simp[k3]
    have HF:Hid (Z=7):=HBAD.out (.inr ⟨k2,k3⟩);clear k1 k2 k3;go_wp2;go_ret;exact⟨by rw[HF.out];rfl,GJ.out⟩
   have k3e:(Cz == 0)=false:=by simp[k3]
   have ZN:Hid (firstE [goL (frE m) m.fs.length (k+1),firstE ((List.range m.sl.length).map (sloE m))]=Z):=HGOOD.out (by omega)
   clear k1 k2 k3;go_wp2
   go_roundg (fn -(k+1))
   case measure=>omega
   exact⟨k+1,by omega,by omega,by go_num,GJ.out,XJ.out,ZN.out⟩
  have k2d:decide (0<=q.f)=false:=decide_eq_false k2;have ZN:Hid (firstE [goL (frE m) m.fs.length (k+1),firstE ((List.range m.sl.length).map (sloE m))]=Z):=HGOOD.out (by omega)
  clear k1 k2;go_wp2
  go_roundg (fn -(k+1))
  case measure=>omega
  exact⟨k+1,by omega,by omega,by go_num,GJ.out,XJ.out,ZN.out⟩
 have hlkz:¬(k:Int)< (fn:Int):=by omega
 obtain rfl:fn=k:=by omega
 have Z7:Hid (firstE [goL (sloE m) m.sl.length 0]=Z):=dD<|by
  have h1:=firstE_neg ZK.out (by rw[HN1.out];exact goL_end _ _)
  rw[<-goL_all]at h1;exact h1
 have x2:=XK.out.c 2 rfl;go_wp2;clear x2
 go_loopg [207] sn (fun gg s207 wr=>∃j:Nat,j<=sn/\sn - j<=gg/\s207= .int .i64 j/\Hid (Grew w wr)/\Hid (Box wr w.heap.size [.slice fa fn fc,.int .i64 m.hand,.slice sa sn sc,.slice vsb.a vsb.n vsb.c,.slice vsq.a vsq.n vsq.c,.slice vdb.a vdb.n vdb.c,.slice vdq.a vdq.n vdq.c,.slice fla fln flc,.int .i64 m.cnt,.slice caa can cac,.slice spa spn spc])/\Hid (firstE [goL (sloE m) m.sl.length j]=Z))
 case atStart=>exact⟨0,nZ _,by omega,rfl,GK.out,XK.out,Z7.out⟩
 obtain⟨j,hj,hgj,rfl,GJ,X12,ZJ⟩:=hrel
 by_cases hlj:j<sn
 ·have hljz:(j:Int)< (sn:Int):=by omega
  obtain⟨z,HQ⟩:∃z,Hid (m.sl[j]? =some z):=⟨_,gE (by rw[HN2.out];exact hlj)⟩
  obtain⟨ads,rfl,hl⟩:=HSL.out j z HQ.out;have d0:=hl wr GJ.out;obtain⟨Hz,HHZ⟩:∃Hz:Int,Hid ((holders m 2 (j:Int):Int)=Hz):=⟨_,rfl⟩;have HSV:Hid (sloE m j=if z≠Hz then 7 else 0):=dD<|by unfold sloE;rw[gD,HQ.out,HHZ.out];rfl
  clear hl;have hc:=HHO.out wr 2 (j:Int) GJ.out HP.out;rw[HHZ.out]at hc;obtain⟨x0,x1,x2,x3,x4,x5,x6,x7,x8,x9,x10⟩:=X12.out.c11;go_wp2_with fail;refine hc.mono ?_;clear hc d0 x0 x1 x2 x3 x4 x5 x6 x7 x8 x9 x10;rintro e W13 ⟨rfl,g13⟩;have G13:=dD (GJ.out.trans g13);have X13:=dD (X12.out.grew g13);clear g13
  by_cases k1:z=Hz
  ·have k1e:(z != Hz)=false:=by simp[k1]
   have ZN:Hid (firstE [goL (sloE m) m.sl.length (j+1)]=Z):=goL_no (by rw[HN2.out];exact hlj) ZJ.out (by rw[HSV.out,if_neg (fun h=>h k1)])
   clear k1;go_wp2
   go_roundg (sn -(j+1))
   case measure=>omega
   exact⟨j+1,by omega,by omega,by go_num,G13.out,X13.out,ZN.out⟩
  have k1e:(z != Hz)=true:=by simp[k1]
  have HF:Hid (Z=7):=dD<|by
   have hb:sloE m j=7:=by rw[HSV.out,if_pos k1]
   rw[goL_yes (by rw[HN2.out];exact hlj) ZJ.out (by rw[hb];decide),hb]
  clear k1;go_wp2;go_ret;exact⟨by rw[HF.out];rfl,G13.out⟩
 have hljz:¬(j:Int)< (sn:Int):=by omega
 obtain rfl:sn=j:=by omega
 have HF:Hid (Z=0):=dD<|by
  have h1:=firstE_neg ZJ.out (by rw[HN2.out];exact goL_end _ _)
  rw[<-h1];rfl
 go_wp2;go_ret;exact⟨by rw[HF.out];rfl,GJ.out⟩
theorem frMul64_one (n:Nat) (hn:n<=40) (w:World):
  Calls prog 163 #[.int .u64 1,.int .u64 (n:Int)] w fun e w'=>e= .returned (.tuple #[.int .u64 0,.int .u64 (n:Int)])/\w'=w:=by
 have m1:bits .and .u64 1 4294967295=1:=Mul64.maskN 1 (by omega)
 have m2:bits .and .u64 (n:Int) 4294967295=(n:Int):=by rw[Mul64.maskN n (by omega)];omega
 have m0:bits .and .u64 0 4294967295=0:=Mul64.maskN 0 (by omega)
 have d1:(n:Int) / 4294967296=0:=by omega
 have HM1:Hid (bits .and .u64 1 4294967295=1):=m1;have HM2:Hid (bits .and .u64 (n:Int) 4294967295=(n:Int)):=m2;have HM0:Hid (bits .and .u64 0 4294967295=0):=m0;have HD1:Hid ((n:Int) / 4294967296=0):=d1;clear m1 m2 m0 d1
 go_enter func163,ntmps163
 go_wp2;have w0:IntKind.u64.wrap 0=0:=Mul64.wrapN 0 (by omega)
 have wn:IntKind.u64.wrap (n:Int)=(n:Int):=Mul64.wrapN n (by omega)
 simp only[HM1.out,HM2.out,Int.one_mul,wn,HD1.out,w0,HM0.out,Int.mul_zero,Int.add_zero,Int.zero_ediv]
 go_ret2
 exact⟨rfl,rfl⟩
theorem frMul_one (n:Nat) (hn:n<=40) (w:World):
  Calls prog 150 #[.int .u64 1,.int .u64 (n:Int)] w fun e w'=>e= .returned (.tuple #[.int .u64 0,.int .u64 (n:Int)])/\w'=w:=by
 have c64:=frMul64_one n hn w
 go_enter func150,ntmps150
 go_wp2_with (go_at_call 163;refine c64.mono ?_;rintro e w' ⟨rfl,hw⟩;rw[hw])
 go_ret2
 exact⟨rfl,rfl⟩
theorem frSplice_row (m:List Fr):∀(l:List Fr) (off:Nat),off+m.length<=l.length->splice (l.flatMap frv) (off*13) (m.flatMap frv)=(l.take off++(m++l.drop (off+m.length))).flatMap frv:=fun l off h=>by
 have h1:∀(l:List Fr) (j:Nat),j<=l.length->(l.flatMap frv).take (j*13)=(l.take j).flatMap frv/\(l.flatMap frv).drop (j*13)=(l.drop j).flatMap frv:=fun l j hj=>by
  have he:l.flatMap frv=(l.take j).flatMap frv++(l.drop j).flatMap frv:=by rw[<-List.flatMap_append,List.take_append_drop]
  have hl:((l.take j).flatMap frv).length=j*13:=by rw[frRow_len,List.length_take,Nat.min_eq_left hj]
  constructor
  ·rw[he,<-hl,List.take_left]
  rw[he,<-hl,List.drop_left]
 unfold splice;rw[frRow_len m,<-Nat.add_mul,(h1 l off (by omega)).1,(h1 l (off+m.length) h).2,List.flatMap_append,List.flatMap_append]
theorem frRun_copy_elts {w:World} (ty:TypeId) (base:Nat) (v:Value) (l:List Fr) (hown:frOwnRow base w v l) (g:Nat) (hg:v.ownBlock=some g) (off dLen dCap:Nat) (ad:Addr) (sLen sCap:Nat)
  (m:List Fr) (hm:m.length=Nat.min sLen dLen) (hsrc:Cells w ad (m.flatMap frv)) (hfit:off+m.length<=l.length):
  ∃w',(Builtin.copy_ #[25,25] ty #[.slice (some ⟨g,off*13,none⟩) dLen dCap,.slice (some ad) sLen sCap]).run prog w= .ok (goInt m.length) w'/\frOwnRow base w' v (l.take off++(m++l.drop (off+m.length)))/\w.grownBy w' (some g)/\w'.heap.size=w.heap.size:=by
 obtain⟨i0,hi,_,hz1,_⟩:=info_parts Tryz.infoFrame;have hcl:(m.flatMap frv).length=m.length*13:=frRow_len m;have hfit':off*13+(m.flatMap frv).length<=l.length*13:=by
  rw[hcl,<-Nat.add_mul];exact Nat.mul_le_mul_right _ hfit
 obtain⟨w',hr,h2,h3,h4⟩:=run_storeCells_row (P:=prog) hown.1 hg (off*13) (m.flatMap frv) hfit' (flatMap_one frv_one m);have hl:=run_loadCells_list (P:=prog) w ad (m.flatMap frv) hsrc;rw[hcl]at hl;rw[frSplice_row m l off hfit]at h2;have hlen:(l.take off++(m++l.drop (off+m.length))).length=l.length:=by simp;omega
 refine⟨w',?_,⟨by rw[hlen];exact h2,by rw[hlen];exact hown.2⟩,h3,h4⟩
 simp[Builtin.copy_,run_underlying underlying25,Builtin.lenOf,Builtin.firstCells,sizeOf,typeInfo,hi,hz1,<-hm,hl,hr]
theorem frWpList_copy_elts {w:World} {rest:List Oper} {a:Act} (hgd:o.guard=none) (d s:Operand) (ho:o.op= .call { callee:= .builtin .copy,args:=#[d,s],argTypes:=#[25,25] })
  (base:Nat) (v:Value) (l:List Fr) (hown:frOwnRow base w v l) (g:Nat) (hg:v.ownBlock=some g) (off dLen dCap:Nat) (dp:Addr) (hd:a.eval d= .slice (some dp) dLen dCap) (hdp:dp=⟨g,off*13,none⟩) (ad:Addr) (sLen sCap:Nat) (hs:a.eval s= .slice (some ad) sLen sCap)
  (m:List Fr) (hm:m.length=Nat.min sLen dLen) (hsrc:Cells w ad (m.flatMap frv)) (hfit:off+m.length<=l.length)
  (h:∀w',frOwnRow base w' v (l.take off++(m++l.drop (off+m.length)))->w.grownBy w' (some g)->w'.heap.size=w.heap.size->wpList prog ops Q rest (a.put o.dst (goInt m.length)) w'):wpList prog ops Q (o :: rest) a w:=by
 subst hdp;refine wpList_plain hgd fun K hK=>?_
 obtain⟨w',hrun,h2,h3,h4⟩:=frRun_copy_elts o.type base v l hown g hg off dLen dCap ad sLen sCap m hm hsrc hfit;unfold Oper.wp
 simp[execOp,ho,resolve,invoke,builtin,hd,hs,hrun,Result.andThen]
 exact hK _ _ (h w' h2 h3 h4)
theorem frRep_step (q:Fr) (n m z:Nat) (_h:m<=n) (hz:z=Nat.min m (n - m)):(List.replicate m q++List.replicate (n - m) fr0).take m++(List.replicate z q++(List.replicate m q++List.replicate (n - m) fr0).drop (m+z))=List.replicate (m+z) q++List.replicate (n -(m+z)) fr0:=by
 have hzz:z<=n - m:=by rw[hz];exact Nat.min_le_right _ _
 rw[List.take_append_of_le_length (by simp),List.take_of_length_le (by simp),List.drop_append,List.drop_of_length_le (by simp),List.nil_append,lR,List.drop_replicate,<-List.append_assoc,List.replicate_append_replicate]
 congr 2
 omega
theorem frRepeat_any (q:Fr) (x:Nat) (c n:Nat) (hn:n<=40) (hn1:1<=n) (w:World) (hv:frRowAt w (.slice (some ⟨x,0,none⟩) 1 c) [q]):
  Calls prog 117 #[.slice (some ⟨x,0,none⟩) 1 c,.int .i64 (n:Int)] w fun e w'=>∃b,e= .returned b/\frNewRow w.heap.size w' b (List.replicate n q)/\Grew w w':=by
 have HC:Hid (Cells w ⟨x,0,none⟩ ([q].flatMap frv)):=by
  obtain⟨⟨a,c',h1,_,h3⟩,_⟩:=hv;cases h1;exact h3 _ rfl
 clear hv;have hm:=frMul_one n hn w;have hnz:¬(n:Int)<0:=by omega
 have hn2:¬(9223372036854775807:Int)< (n:Int):=by omega
 go_enter func117,ntmps117
 go_wp2_with (first
  | (go_at_call 150;refine hm.mono ?_;rintro e w' ⟨rfl,hw⟩;rw[hw])
  | (refine frWpList_make_row rfl (.tmp 29) rfl n rfl (by show n*40<=_;omega) ?_;intro C ow;have OW:Hid (frOwnRow w.heap.size (w.alloc (.cells C 59)) (.slice (some ⟨w.heap.size,0,none⟩) n n) (List.replicate n fr0)):=ow;clear ow)
  | (refine frWpList_copy_elts rfl (.tmp 31) (.tmp 32) rfl w.heap.size (.slice (some ⟨w.heap.size,0,none⟩) n n) (List.replicate n fr0) OW.out w.heap.size rfl 0 n n _ rfl ?a1 _ 1 c rfl [q] ?a2 ?a3 ?a4 ?_))
 case a1=>simp
 case a2=>show 1=Nat.min 1 n;exact(Nat.min_eq_left hn1).symm
 case a3=>exact HC.out.grew (grew_alloc _ _)
 case a4=>simp;omega
 intro W1 ow1 gr1 _;have OW1:Hid (frOwnRow w.heap.size W1 (.slice (some ⟨w.heap.size,0,none⟩) n n) (List.replicate 1 q++List.replicate (n - 1) fr0)):=show frOwnRow _ _ _ (List.replicate 1 q++List.replicate (n - 1) fr0) by simpa [List.drop_replicate]using ow1
 have G1:Hid (Grew w W1):=grew_grown (grew_alloc _ _) gr1 (nR _);clear ow1 gr1;go_wp2
 go_loopg [8] n (fun gg s8 wr=>∃m:Nat,1<=m/\m<=n/\n - m<=gg/\s8= .int .i64 m/\Hid (frOwnRow w.heap.size wr (.slice (some ⟨w.heap.size,0,none⟩) n n) (List.replicate m q++List.replicate (n - m) fr0))/\Hid (Grew w wr))
 case atStart=>exact⟨1,nR _,hn1,by omega,rfl,OW1.out,G1.out⟩
 obtain⟨m,hm1,hmn,hg,rfl,OF,GW⟩:=hrel
 by_cases hlt:m<n
 ·have hltz:(m:Int)< (n:Int):=by omega
  have hmnz:(m:Int)<=(n:Int):=by omega
  have OFd:Hid (frOwnRow w.heap.size wr.drew (.slice (some ⟨w.heap.size,0,none⟩) n n) (List.replicate m q++List.replicate (n - m) fr0)):=dD<|OF.out.grew (gW _)
  obtain⟨z,HZ⟩:∃z,Hid (z=Nat.min m (n - m)):=⟨_,rfl⟩;have hz0:z=min m (n - m):=HZ.out;have hz1:1<=z:=by omega
  have hz2:z<=m:=by omega
  have hz3:z<=n - m:=by omega
  clear hz0;have hsrc:Cells wr.drew ⟨w.heap.size,0,none⟩ ((List.replicate z q).flatMap frv):=fun j u hj=>by
   have h1:=OFd.out.1.cells rfl;refine h1 j u ?_;rw[List.flatMap_append,List.getElem?_append_left]
   ·rw[show m=z+(m - z) by omega,<-List.replicate_append_replicate,List.flatMap_append,List.getElem?_append_left (gS.1 hj).1]
    exact hj
   have h3:=(gS.1 hj).1;rw[frRow_len]at h3⊢;simp only[lR]at h3⊢;exact Nat.lt_of_lt_of_le h3 (Nat.mul_le_mul_right _ hz2)
  obtain⟨W2,hrun,ow2,gr2,_⟩:=frRun_copy_elts 3 w.heap.size _ _ OFd.out w.heap.size rfl m (n - m) (n - m) ⟨w.heap.size,0,none⟩ m n (List.replicate z q) (by rw[lR];exact HZ.out) hsrc (by simp;omega)
  have hcopy:(Builtin.copy_ #[25,25] 3 #[.slice (some ⟨w.heap.size,m*13,none⟩) (n - m) (n - m),.slice (some ⟨w.heap.size,0,none⟩) m n]).run prog wr.drew= .ok (.int .i64 (z:Int)) W2:=by
   have h1:=hrun;rw[lR]at h1;exact h1
  have OW2:Hid (frOwnRow w.heap.size W2 (.slice (some ⟨w.heap.size,0,none⟩) n n) (List.replicate (m+z) q++List.replicate (n -(m+z)) fr0)):=dD<|by
   rw[<-frRep_step q n m z (by omega) HZ.out]
   rw[lR]at ow2;exact ow2
  have GW2:Hid (Grew w W2):=grew_grown (GW.out.trans (gW _)) gr2 (nR _)
  clear hsrc hrun ow2 gr2;go_wp2
  go_region
  go_wp2
  go_roundg (n -(m+z))
  case measure=>omega
  exact⟨m+z,by omega,by omega,nR _,by go_num,OW2.out,GW2.out⟩
 have hltz:¬(m:Int)< (n:Int):=by omega
 have:m=n:=by omega
 subst this;have HO:Hid (frOwnRow w.heap.size wr (.slice (some ⟨w.heap.size,0,none⟩) m m) (List.replicate m q)):=dD<|by have:=OF.out;simpa using this
 go_wp2;go_ret;exact⟨_,rfl,HO.out.new,GW.out⟩
def newME (n:Int):Int:=if 0<=n/\n<=40 then 0 else 4
def newMF (n:Int):List Fr:=if 0<=n/\n<=40 then List.replicate n.toNat frF else []
theorem repeat_zero (q:Fr) (x:Nat) (c:Nat) (w:World):
  Calls prog 117 #[.slice (some ⟨x,0,none⟩) 1 c,.int .i64 0] w fun e w'=>∃b,e= .returned b/\frNewRow w.heap.size w' b (List.replicate 0 q)/\Grew w w':=by
 have hm:=frMul_one 0 (by omega) w
 go_enter func117,ntmps117
 go_wp2_with (first
  | (go_at_call 150;refine hm.mono ?_;rintro e w' ⟨rfl,hw⟩;rw[hw])
  | (refine frWpList_make_row rfl (.tmp 29) rfl 0 rfl (by show 0*40<=_;omega) ?_;intro C ow;have OW:Hid (frOwnRow w.heap.size (w.alloc (.cells C 59)) (.slice (some ⟨w.heap.size,0,none⟩) 0 0) (List.replicate 0 fr0)):=ow;clear ow)
  | (refine frWpList_copy_elts rfl (.tmp 31) (.tmp 32) rfl w.heap.size (.slice (some ⟨w.heap.size,0,none⟩) 0 0) (List.replicate 0 fr0) OW.out w.heap.size rfl 0 0 0 _ rfl ?a1 _ 1 c rfl [] ?a2 ?a3 ?a4 ?_))
 case a1=>simp
 case a2=>rfl
 case a3=>intro j u hj;simp at hj
 case a4=>simp
 intro W1 ow1 gr1 _;have OW1:Hid (frOwnRow w.heap.size W1 (.slice (some ⟨w.heap.size,0,none⟩) 0 0) (List.replicate 0 q)):=dD<|by simpa using ow1
 have G1:Hid (Grew w W1):=grew_grown (grew_alloc _ _) gr1 (nR _);clear ow1 gr1;go_wp2
 go_loopg [8] 0 (fun _ s8 wr=>s8= .int .i64 0/\wr=W1)
 case atStart=>exact⟨rfl,rfl⟩
 obtain⟨rfl,rfl⟩:=hrel;go_wp2;go_ret;exact⟨_,rfl,OW1.out.new,G1.out⟩
theorem newMem_nat (n:Nat) (hn:n<=40) (w:World):
  Calls prog 67 #[.int .i64 (n:Int)] w fun e w'=>∃b,e= .returned (.tuple #[.agg #[b,.int .i64 0],.int .i64 0])/\frNewRow w.heap.size w' b (List.replicate n frF)/\Grew w w':=by
 have hnz:¬(n:Int)<0:=by omega
 have hn4:¬(40:Int)< (n:Int):=by omega
 have hrep:∀W x,Box W x (frv frF)->Calls prog 117 #[.slice (some ⟨x,0,none⟩) 1 1,.int .i64 (n:Int)] W fun e w'=>∃b,e= .returned b/\frNewRow W.heap.size w' b (List.replicate n frF)/\Grew W w':=fun W x hx=>by
  by_cases h1:1<=n
  ·refine frRepeat_any frF x 1 n hn h1 W ⟨⟨_,1,rfl,fun h=>(by cases h),fun y hy=>?_⟩,by show 1*40<=_;omega⟩
   cases hy;intro j u hj;rw[Addr.add_lit,zA];exact hx.c j (by have h:=hj;simp only[List.flatMap_cons,List.flatMap_nil,List.append_nil]at h;exact h)
  have:n=0:=by omega
  subst this;exact repeat_zero frF x 1 W
 go_enter func67,ntmps67
 go_wp2_with fail;refine(freeFrame_any _).mono ?_;rintro e W1 ⟨rfl,g1⟩;have X2:Hid (Box W1 w.heap.size [.slice none 0 0,.int .i64 0]):=(Box.top w [.slice none 0 0,.int .i64 0] _ rfl).grew g1;have G1:Hid (Grew w W1):=(grew_alloc _ _).trans g1;clear g1;simp only[frv,frF,pg0];go_wp2_with fail;refine(hrep _ _ (Box.top W1 _ _ rfl)).mono ?_;rintro e W2 ⟨b,rfl,hb,g2⟩;obtain⟨a2,c2,rfl,_⟩:=hb.1.rows;rw[lR]at hb⊢;have NB:Hid (frNewRow W1.heap.size W2 (.slice a2 n c2) (List.replicate n frF)):=hb.base (by simp)
 have X22:=(X2.out.alloc (.cells #[.int .u8 0,.int .u8 0,.int .u8 0,.int .u8 0,.int .u8 0,.int .u8 0,.int .u8 0,.int .u8 0,.int .i64 0,.bool false,.bool false,.int .i64 (-1),.int .i64 0] 59)).grew g2;have G2:=dD ((G1.out.trans (grew_alloc _ _)).trans g2);have r0:=X22.c 0 rfl;have r1:=X22.c 1 rfl;have rf:=X22.f;have HX:Hid (w.heap.size<W1.heap.size):=X2.out.lt;clear hb g2;go_wp2;refine bodyPost_ret (v:= .tuple #[.agg #[.slice a2 n c2,.int .i64 0],.int .i64 0]) (by simp[results,Tryz.results67,go_sem, *]) rfl ⟨_,rfl,?_,?_⟩
 ·exact((NB.out.setCell (a:=⟨w.heap.size,0,none⟩) HX.out _).setCell (a:=⟨w.heap.size,1,none⟩) HX.out _).base (bS G1.out)
 exact grew_set (grew_set G2.out (by simp) _) (by simp) _
theorem newMem_bad (n:Int) (hn:¬(0<=n/\n<=40)) (w:World):
  Calls prog 67 #[.int .i64 n] w fun e w'=>∃b,e= .returned (.tuple #[.agg #[b,.int .i64 0],.int .i64 4])/\frNewRow w.heap.size w' b ([]:List Fr)/\Grew w w':=by
 by_cases h0:n<0
 ·go_enter func67,ntmps67
  go_wp2;refine bodyPost_ret (v:= .tuple #[.agg #[.slice none 0 0,.int .i64 0],.int .i64 4]) (by simp[results,Tryz.results67,go_sem, *]) rfl ⟨_,rfl,frNewRow.nil _ _,?_⟩
  exact grew_alloc _ _
 have h1:40<n:=by omega
 go_enter func67,ntmps67
 go_wp2;refine bodyPost_ret (v:= .tuple #[.agg #[.slice none 0 0,.int .i64 0],.int .i64 4]) (by simp[results,Tryz.results67,go_sem, *]) rfl ⟨_,rfl,frNewRow.nil _ _,?_⟩
 exact grew_alloc _ _
theorem newS_nat (n:Nat) (hn:n<=60) (w:World):
  Calls prog 68 #[.int .i64 (n:Int)] w fun e w'=>∃a' c',e= .returned (.tuple #[.slice a' n c',.int .i64 0])/\NewRow slE w.heap.size w' (.slice a' n c') (List.replicate n 0)/\Grew w w':=by
 have hnz:¬(n:Int)<0:=by omega
 have hn4:¬(60:Int)< (n:Int):=by omega
 go_enter func68,ntmps68
 go_wp2_with (refine wpList_make_row slE rfl (.tmp 10) rfl n rfl (by show n*8<=_;omega) ?_)
 intro C ow;have OW:Hid (OwnRow slE w.heap.size (w.alloc (.cells C 3)) (.slice (some ⟨w.heap.size,0,none⟩) n n) (List.replicate n 0)):=ow;clear ow
 show wpList _ _ _ _ _ (w.alloc (.cells C 3))
 obtain⟨W1,hW1⟩:∃W1,w.alloc (.cells C 3)=W1:=⟨_,rfl⟩;have G1:=gA hW1
 rw[hW1]at OW⊢;clear hW1;go_wp2;refine bodyPost_ret (v:= .tuple #[.slice (some ⟨w.heap.size,0,none⟩) n n,.int .i64 0]) (by simp[results,Tryz.results68,go_sem, *]) rfl ⟨_,_,rfl,OW.out.new,G1.out⟩
theorem newS_bad (n:Int) (hn:¬(0<=n/\n<=60)) (w:World):
  Calls prog 68 #[.int .i64 n] w fun e w'=>e= .returned (.tuple #[.slice none 0 0,.int .i64 4])/\Grew w w':=by
 by_cases h0:n<0
 ·clear hn
  go_enter func68,ntmps68
  go_wp2;refine bodyPost_ret (v:= .tuple #[.slice none 0 0,.int .i64 4]) (by simp[results,Tryz.results68,go_sem, *]) rfl ⟨rfl,Grew.refl _⟩
 have h1:60<n:=by omega
 clear hn
 go_enter func68,ntmps68
 go_wp2;refine bodyPost_ret (v:= .tuple #[.slice none 0 0,.int .i64 4]) (by simp[results,Tryz.results68,go_sem, *]) rfl ⟨rfl,Grew.refl _⟩
theorem newSt_any (n:Int) (w:World):
  Calls prog 70 #[.int .i64 n] w fun e w'=>e= .returned (.tuple #[.agg #[.slice none 0 0,.int .i64 (if 0<=n/\n<=80 then n else 0)],.int .i64 (if 0<=n/\n<=80 then 0 else 4)])/\Grew w w':=by
 by_cases h:0<=n/\n<=80
 ·rw[if_pos h,if_pos h];have hb:=fun W=>below_yes (m:=n) (n:=81) h.1 (by omega) W
  clear h
  go_enter func70,ntmps70
  go_wp2_with (go_at_call 119;refine(hb _).mono ?_;rintro e w' ⟨rfl,rfl⟩)
  refine bodyPost_ret (v:= .tuple #[.agg #[.slice none 0 0,.int .i64 n],.int .i64 0]) (by simp[results,Tryz.results70,go_sem, *]) rfl ⟨rfl,?_⟩
  first | exact grew_alloc _ _ | exact Below.setCell (Below.setCell (grew_alloc _ _) (p:=⟨w.heap.size,0,none⟩) (by simp) _) (p:=⟨w.heap.size,1,none⟩) (by simp) _
 rw[if_neg h,if_neg h];have hb:=fun W=>below_no (m:=n) (n:=81) (by omega) W
 clear h
 go_enter func70,ntmps70
 go_wp2_with (go_at_call 119;refine(hb _).mono ?_;rintro e w' ⟨rfl,rfl⟩)
 refine bodyPost_ret (v:= .tuple #[.agg #[.slice none 0 0,.int .i64 0],.int .i64 4]) (by simp[results,Tryz.results70,go_sem, *]) rfl ⟨rfl,?_⟩
 first | exact grew_alloc _ _ | exact Below.setCell (Below.setCell (grew_alloc _ _) (p:=⟨w.heap.size,0,none⟩) (by simp) _) (p:=⟨w.heap.size,1,none⟩) (by simp) _
def newSE (n:Int):Int:=if 0<=n/\n<=60 then 0 else 4
def newSL (n:Int):List Int:=if 0<=n/\n<=60 then List.replicate n.toNat 0 else []
theorem newMem_all (n:Int) (w:World):Calls prog 67 #[.int .i64 n] w fun e w'=>∃s:Sli,e= .returned (.tuple #[.agg #[.slice s.a s.n s.c,.int .i64 0],.int .i64 (newME n)])/\(RowAt frmE w' (.slice s.a s.n s.c) (newMF n)/\fresh w.heap.size (.slice s.a s.n s.c))/\Grew w w':=by
 by_cases h:0<=n/\n<=40
 ·obtain⟨k,rfl⟩:∃k:Nat,n=(k:Int):=⟨n.toNat,by omega⟩
  refine(newMem_nat k (by omega) w).mono ?_
  rintro e w' ⟨b,rfl,h1,h2⟩;obtain⟨a,c,rfl,_⟩:=h1.1.rows;refine⟨⟨a,(List.replicate k frF).length,c⟩,?_,⟨?_,h1.2⟩,h2⟩
  ·unfold newME;rw[if_pos h]
  unfold newMF;rw[if_pos h];exact h1.1
 refine(newMem_bad n h w).mono ?_;rintro e w' ⟨b,rfl,h1,h2⟩;obtain⟨a,c,rfl,_⟩:=h1.1.rows;refine⟨⟨a,([]:List Fr).length,c⟩,?_,⟨?_,h1.2⟩,h2⟩
 ·unfold newME;rw[if_neg h]
 unfold newMF;rw[if_neg h];exact h1.1
theorem newS_all (n:Int) (w:World):Calls prog 68 #[.int .i64 n] w fun e w'=>∃s:Sli,e= .returned (.tuple #[.slice s.a s.n s.c,.int .i64 (newSE n)])/\(RowAt slE w' (.slice s.a s.n s.c) (newSL n)/\fresh w.heap.size (.slice s.a s.n s.c))/\Grew w w':=by
 by_cases h:0<=n/\n<=60
 ·obtain⟨k,rfl⟩:∃k:Nat,n=(k:Int):=⟨n.toNat,by omega⟩
  refine(newS_nat k (by omega) w).mono ?_
  rintro e w' ⟨a,c,rfl,h1,h2⟩;refine⟨⟨a,k,c⟩,?_,⟨?_,h1.2⟩,h2⟩
  ·unfold newSE;rw[if_pos h]
  unfold newSL;rw[if_pos h];exact h1.1
 refine(newS_bad n h w).mono ?_;rintro e w' ⟨rfl,h2⟩;refine⟨⟨none,0,0⟩,?_,⟨?_,fresh_nil _⟩,h2⟩
 ·unfold newSE;rw[if_neg h]
 unfold newSL;rw[if_neg h];exact RowAt.nil slE w'
theorem newDk_all (n:Int) (w:World):Calls prog 69 #[.int .i64 n] w fun e w'=>∃b q:Sli,e= .returned (.tuple #[.agg #[.slice b.a b.n b.c,.slice q.a q.n q.c],.int .i64 (newErr n)])/\(PagesAt w' (.slice b.a b.n b.c) (newD n)/\PutsAt w' (.slice q.a q.n q.c) []/\fresh w.heap.size (.slice b.a b.n b.c)/\fresh w.heap.size (.slice q.a q.n q.c))/\Grew w w':=by
 refine(new_any n w).mono ?_;rintro e w' ⟨d,rfl,⟨b,q,rfl,h1,h2,f1,f2⟩,h3⟩;obtain⟨a,c,rfl,_⟩:=h1.rows;obtain⟨a',c',rfl,_⟩:=h2.rows;exact⟨⟨a,(newD n).length,c⟩,⟨a',([]:List (Int × List Int)).length,c'⟩,rfl,⟨h1,h2,f1,f2⟩,h3⟩
theorem SliceAt.beside {α:Type} {enc:α->List Value} {w:World} {row:Option Nat} {v:Value} {l:List α} (h:SliceAt enc w v l) (hg:w.grownBy w' row) (hn:∀x n c,v= .slice (some x) n c->some x.block≠row):SliceAt enc w' v l:=by
 obtain⟨a,c,h1,h2,h3⟩:=h;refine⟨a,c,h1,h2,fun x hx j u hj=>?_⟩
 subst hx;have hc:=h3 x rfl j u hj;rw[World.cell?_of_block (w:=w) (hg.block _ (World.block_lt_of_cell? _ _ hc) (by rw[add_block];exact hn x _ _ h1))]
 exact hc
def fewB (f s b:Int):Prop:=(0<=f/\f<=40)/\(0<=s/\s<=60)/\(0<=b/\b<=80)
def newMa (f s b:Int):Ma:=⟨List.replicate f.toNat frF,0,List.replicate s.toNat 0,List.replicate s.toNat zero8,[],List.replicate b.toNat zero8,[],[],b,[],[⟨true,[],none8⟩]⟩
def newEs (f s b:Int):List Int:=[newME f,newSE s,newErr s,newErr b,if 0<=b/\b<=80 then 0 else 4]
theorem newEs_few {f s b:Int} (h:fewB f s b):firstE (newEs f s b)=0:=by
 obtain⟨h1,h2,h3⟩:=h;unfold newEs newME newSE newErr;rw[if_pos h1,if_pos h2,if_pos (by omega),if_pos h3]
 rfl
theorem newEs_many {f s b:Int} (h:¬fewB f s b):firstE (newEs f s b)=4:=by
 unfold newEs newME newSE newErr;simp only[firstE_cons,firstE_nil]
 by_cases h1:0<=f/\f<=40
 ·by_cases h2:0<=s/\s<=60
  ·by_cases h3:0<=b/\b<=80
   ·exact absurd ⟨h1,h2,h3⟩ h
   simp[h1,h2,h3,show s<=80 by omega]
  simp[h1,h2]
 simp[h1]
theorem newM_any (cf cs cb:Int) (w:World):
  Calls prog 17 #[.agg #[.int .i64 cf,.int .i64 cs,.int .i64 cb]] w fun e w'=>((fewB cf cs cb/\∃V:MaV,e= .returned (.tuple #[.agg #[.slice V.f.a V.f.n V.f.c,.int .i64 0,.slice V.s.a V.s.n V.s.c,.slice V.sb.a V.sb.n V.sb.c,.slice V.sq.a V.sq.n V.sq.c,.slice V.db.a V.db.n V.db.c,.slice V.dq.a V.dq.n V.dq.c,.slice V.fl.a V.fl.n V.fl.c,.int .i64 cb,.slice V.ca.a V.ca.n V.ca.c,.slice V.sp.a V.sp.n V.sp.c],.int .i64 0])/\MachAt w' V (newMa cf cs cb))\/(¬fewB cf cs cb/\e= .returned (.tuple #[.agg #[.slice none 0 0,.int .i64 0,.slice none 0 0,.slice none 0 0,.slice none 0 0,.slice none 0 0,.slice none 0 0,.slice none 0 0,.int .i64 0,.slice none 0 0,.slice none 0 0],.int .i64 4])))/\Grew w w':=by
 obtain⟨W0,hW0⟩:∃W0,(w.alloc (.cells #[.int .i64 cf,.int .i64 cs,.int .i64 cb] 23)).alloc (.cells #[.slice none 0 0,.int .i64 0,.slice none 0 0,.slice none 0 0,.slice none 0 0,.slice none 0 0,.slice none 0 0,.slice none 0 0,.int .i64 0,.slice none 0 0,.slice none 0 0] 40)=W0:=⟨_,rfl⟩;have HG0:=gD2 hW0
 have X0:=x2a hW0
 have Y0:=x2b hW0
 have HW0:Hid (_=W0):=hW0;clear hW0;obtain⟨e1,HE1⟩:∃e,Hid (newME cf=e):=⟨_,rfl⟩;obtain⟨e2,HE2⟩:∃e,Hid (newSE cs=e):=⟨_,rfl⟩;obtain⟨e3,HE3⟩:∃e,Hid (newErr cs=e):=⟨_,rfl⟩;obtain⟨e4,HE4⟩:∃e,Hid (newErr cb=e):=⟨_,rfl⟩;obtain⟨e5,HE5⟩:∃e:Int,Hid ((if 0<=cb/\cb<=80 then(0:Int)else 4)=e):=⟨_,rfl⟩;obtain⟨z5,HZ5⟩:∃e:Int,Hid ((if 0<=cb/\cb<=80 then cb else 0)=e):=⟨_,rfl⟩;have h1:=fun W=>newMem_all cf W
 have h2:=fun W=>newS_all cs W
 have h3:=fun W=>newDk_all cs W
 have h4:=fun W=>newDk_all cb W
 have h5:=fun W=>newSt_any cb W
 rw[HE1.out]at h1;rw[HE2.out]at h2;rw[HE3.out]at h3;rw[HE4.out]at h4;rw[HE5.out,HZ5.out]at h5;have HES:Hid (newEs cf cs cb=[e1,e2,e3,e4,e5]):=dD<|by unfold newEs;rw[HE1.out,HE2.out,HE3.out,HE4.out,HE5.out]
 have H1:Hid (∀W,_):=h1;have H2:Hid (∀W,_):=h2;have H3:Hid (∀W,_):=h3;have H4:Hid (∀W,_):=h4;have H5:Hid (∀W,_):=h5;clear h1 h2 h3 h4 h5
 go_enter func17,ntmps17
 go_upto_region 1 with fail;rw[HW0.out];have x0:=X0.out.c 0 rfl;go_wp2_with fail;refine(H1.out _).mono ?_;rintro e W1 ⟨mf,rfl,⟨r1,f1⟩,g1⟩;clear x0;have R1:Hid (RowAt frmE W1 (.slice mf.a mf.n mf.c) (newMF cf)):=r1;have HG1:Hid (Grew W0 W1):=g1;have FR1:Hid (fresh W0.heap.size (.slice mf.a mf.n mf.c)):=f1;clear r1 g1 f1;go_upto_region 2 with fail;obtain⟨W2,hW2⟩:∃W2,W1.alloc (.cells #[.slice mf.a mf.n mf.c,.int .i64 0] 27)=W2:=⟨_,rfl⟩;have HG2:=gA hW2
 have B2:=xA hW2
 rw[hW2];clear hW2;obtain⟨p2,HP2⟩:∃p,Hid (W1.heap.size=p):=⟨_,rfl⟩;rw[HP2.out]at B2⊢;have x1:=(X0.out.grew (HG1.out.trans HG2.out)).c 1 rfl;go_wp2_with fail;refine(H2.out _).mono ?_;rintro e W3 ⟨ms,rfl,⟨r3,f3⟩,g3⟩;clear x1;have R3:Hid (RowAt slE W3 (.slice ms.a ms.n ms.c) (newSL cs)):=r3;have HG3:Hid (Grew W2 W3):=g3;have HG03:=dD ((HG1.out.trans HG2.out).trans g3);have FR3:Hid (fresh W2.heap.size (.slice ms.a ms.n ms.c)):=f3;clear r3 g3 f3;have x1:=(X0.out.grew HG03.out).c 1 rfl;go_upto_region 3 with fail;go_wp2_with fail;refine(H3.out _).mono ?_;rintro e W4 ⟨mb,mq,rfl,⟨r4,r5,f4,f5⟩,g4⟩;clear x1;have R4:Hid (PagesAt W4 (.slice mb.a mb.n mb.c) (newD cs)):=r4;have R5:Hid (PutsAt W4 (.slice mq.a mq.n mq.c) []):=r5;have HG4:Hid (Grew W3 W4):=g4;have FR4:Hid (fresh W3.heap.size (.slice mb.a mb.n mb.c)):=f4;have FR5:Hid (fresh W3.heap.size (.slice mq.a mq.n mq.c)):=f5;clear r4 r5 g4 f4 f5;go_upto_region 4 with fail;obtain⟨W5,hW5⟩:∃W5,W4.alloc (.cells #[.slice mb.a mb.n mb.c,.slice mq.a mq.n mq.c] 33)=W5:=⟨_,rfl⟩;have HG5:=gA hW5
 have B5:=xA hW5
 rw[hW5];clear hW5;obtain⟨p5,HP5⟩:∃p,Hid (W4.heap.size=p):=⟨_,rfl⟩;rw[HP5.out]at B5⊢;have HG05:=dD ((HG03.out.trans HG4.out).trans HG5.out);have x2:=(X0.out.grew HG05.out).c 2 rfl;go_wp2_with fail;refine(H4.out _).mono ?_;rintro e W6 ⟨md,me,rfl,⟨r6,r7,f6,f7⟩,g6⟩;clear x2;have R6:Hid (PagesAt W6 (.slice md.a md.n md.c) (newD cb)):=r6;have R7:Hid (PutsAt W6 (.slice me.a me.n me.c) []):=r7;have HG6:Hid (Grew W5 W6):=g6;have FR6:Hid (fresh W5.heap.size (.slice md.a md.n md.c)):=f6;have FR7:Hid (fresh W5.heap.size (.slice me.a me.n me.c)):=f7;clear r6 r7 g6 f6 f7;go_upto_region 5 with fail;obtain⟨W7,hW7⟩:∃W7,W6.alloc (.cells #[.slice md.a md.n md.c,.slice me.a me.n me.c] 33)=W7:=⟨_,rfl⟩;have HG7:=gA hW7
 have B7:=xA hW7
 rw[hW7];clear hW7;obtain⟨p7,HP7⟩:∃p,Hid (W6.heap.size=p):=⟨_,rfl⟩;rw[HP7.out]at B7⊢;have HG07:=dD ((HG05.out.trans HG6.out).trans HG7.out);have x2:=(X0.out.grew HG07.out).c 2 rfl;go_wp2_with fail;refine(H5.out _).mono ?_;rintro e W8 ⟨rfl,g8⟩;clear x2;have HG8:Hid (Grew W7 W8):=g8;clear g8;go_upto_region 6 with fail;obtain⟨W9,hW9⟩:∃W9,W8.alloc (.cells #[.slice none 0 0,.int .i64 z5] 36)=W9:=⟨_,rfl⟩;have HG9:=gA hW9
 have B9:=xA hW9
 rw[hW9];clear hW9;obtain⟨p9,HP9⟩:∃p,Hid (W8.heap.size=p):=⟨_,rfl⟩;rw[HP9.out]at B9⊢;obtain⟨E,HE⟩:∃E,Hid (firstE [e1,e2,e3,e4,e5]=E):=⟨_,rfl⟩;have hor:=orErr_any (.slice (some ⟨W9.heap.size,0,none⟩) 5 5) [e1,e2,e3,e4,e5] _ (row_lit errE W9 [e1,e2,e3,e4,e5] #[.int .i64 e1,.int .i64 e2,.int .i64 e3,.int .i64 e4,.int .i64 e5] rfl (show 5*8<=140737488355328 by decide))
 rw[HE.out]at hor;go_wp2_with fail;refine hor.mono ?_;rintro e W10 ⟨rfl,hw10⟩;clear hor;have HG10:Hid (Grew W9 W10):=dD<|by rw[hw10];exact grew_alloc _ _
 clear hw10;have HGW:=dD (((HG07.out.trans HG8.out).trans HG9.out).trans HG10.out);have Y10:=dD (Y0.out.grew HGW.out)
 by_cases hfew:fewB cf cs cb
 ·have hE0:E=0:=by rw[<-HE.out,<-HES.out];exact newEs_few hfew
  subst hE0;have b20:=(B2.out.grew ((((((HG3.out.trans HG4.out).trans HG5.out).trans HG6.out).trans HG7.out).trans HG8.out).trans (HG9.out.trans HG10.out))).c 0 rfl;have b21:=(B2.out.grew ((((((HG3.out.trans HG4.out).trans HG5.out).trans HG6.out).trans HG7.out).trans HG8.out).trans (HG9.out.trans HG10.out))).c 1 rfl;have b50:=(B5.out.grew (((HG6.out.trans HG7.out).trans HG8.out).trans (HG9.out.trans HG10.out))).c 0 rfl;have b51:=(B5.out.grew (((HG6.out.trans HG7.out).trans HG8.out).trans (HG9.out.trans HG10.out))).c 1 rfl;have b70:=(B7.out.grew ((HG8.out).trans (HG9.out.trans HG10.out))).c 0 rfl;have b71:=(B7.out.grew ((HG8.out).trans (HG9.out.trans HG10.out))).c 1 rfl;have b90:=(B9.out.grew HG10.out).c 0 rfl;have b91:=(B9.out.grew HG10.out).c 1 rfl;have HFEW:Hid (fewB cf cs cb):=hfew;clear hfew;go_upto_region 9 with fail;obtain⟨W11,hW11⟩:∃W11,W10.alloc (.cells #[.bool true,.slice none 0 0,.slice none 0 0,.slice none 0 0,.slice none 0 0,.slice none 0 0,.slice none 0 0,.slice none 0 0,.slice none 0 0,.slice none 0 0] 65)=W11:=⟨_,rfl⟩;have HG11:=gA hW11
  have S11:Hid (RowAt spcE W11 (.slice (some ⟨W10.heap.size,0,none⟩) 1 1) [⟨true,sli0,sli0,sli0,sli0,sli0,sli0,sli0,sli0,sli0⟩]):=dD<|by rw[<-hW11];exact one_row spcE W10 ⟨true,sli0,sli0,sli0,sli0,sli0,sli0,sli0,sli0,sli0⟩ _ _ rfl (by decide)
  have Y11:=dD (Y10.out.grew HG11.out);have HW11:Hid (_=W11):=hW11;clear hW11;obtain⟨ps,HPS⟩:∃p,Hid (W10.heap.size=p):=⟨_,rfl⟩
  go_wp2_with (first | (rw[HW11.out];rw[HPS.out];refine wp_storeAll rfl 40 (.tmp 2) (.tmp 63) rfl (w.heap.size+1) rfl [.slice mf.a mf.n mf.c,.int .i64 0,.slice ms.a ms.n ms.c,.slice mb.a mb.n mb.c,.slice mq.a mq.n mq.c,.slice md.a md.n md.c,.slice me.a me.n me.c,.slice none 0 0,.int .i64 z5,.slice none 0 0,.slice (some ⟨ps,0,none⟩) 1 1] rfl Y11.out rfl (by kernel_rfl) (fun v hv=>by
    simp only[mC,nM,or_false]at hv
    rcases hv with rfl|rfl|rfl|rfl|rfl|rfl|rfl|rfl|rfl|rfl|rfl <;> rfl) ?_))
  intro W12 hb12 hg12 _;clear b20 b21 b50 b51 b70 b71 b90 b91;have HG12:Hid (Grew w W12):=dD<|grew_grown ((HG0.out.trans HGW.out).trans HG11.out) hg12 (by omega)
  have HS0:w.heap.size+1<W0.heap.size:=Y0.out.lt;have k1:=bS HG1.out;have k2:=bS HG2.out;have k3:=bS HG3.out;have k4:=bS HG4.out;have k5:=bS HG5.out;have kw:=bS HGW.out;have far:∀{b:Nat} {v:Value},W0.heap.size<=b->fresh b v->∀x n c,v= .slice (some x) n c->some x.block≠some (w.heap.size+1):=fun hb hf x n c hv e=>by
   have:=hf x n c hv;simp only[Option.some.injEq]at e;omega
  have t1:Grew W1 W11:=((((((HG2.out.trans HG3.out).trans HG4.out).trans HG5.out).trans HG6.out).trans HG7.out).trans HG8.out).trans ((HG9.out.trans HG10.out).trans HG11.out);have t3:Grew W3 W11:=((((HG4.out.trans HG5.out).trans HG6.out).trans HG7.out).trans HG8.out).trans ((HG9.out.trans HG10.out).trans HG11.out);have t4:Grew W4 W11:=(((HG5.out.trans HG6.out).trans HG7.out).trans HG8.out).trans ((HG9.out.trans HG10.out).trans HG11.out);have t6:Grew W6 W11:=(HG7.out.trans HG8.out).trans ((HG9.out.trans HG10.out).trans HG11.out);have HMA:Hid (MachAt W12 ⟨mf,ms,mb,mq,md,me,sli0,sli0,⟨some ⟨ps,0,none⟩,1,1⟩⟩ (newMa cf cs cb)):=dD<|by
   obtain⟨hf1,hf2,hf3⟩:=HFEW.out;refine⟨?_,?_,?_,?_,?_,?_,?_,RowAt.nil cchE W12,?_⟩
   ·have h:=(R1.out.grew t1).beside hg12 (far (nR _) FR1.out);unfold newMF at h;rw[if_pos hf1]at h;exact h
   ·have h:=(R3.out.grew t3).beside hg12 (far (by omega) FR3.out)
    unfold newSL at h;rw[if_pos hf2]at h;exact h
   ·have h:PagesAt W12 (.slice mb.a mb.n mb.c) (newD cs):=⟨(R4.out.grew t4).1.beside hg12 (far (by omega) FR4.out),R4.out.2⟩
    unfold newD at h;rw[if_pos (by omega)]at h
    exact h
   ·exact⟨(R5.out.grew t4).1.beside hg12 (far (by omega) FR5.out),R5.out.2⟩
   ·have h:PagesAt W12 (.slice md.a md.n md.c) (newD cb):=⟨(R6.out.grew t6).1.beside hg12 (far (by omega) FR6.out),R6.out.2⟩
    unfold newD at h;rw[if_pos hf3]at h;exact h
   ·exact⟨(R7.out.grew t6).1.beside hg12 (far (by omega) FR7.out),R7.out.2⟩
   ·exact⟨nR _,[],fun w' _=>RowAt.nil fvE w',rfl,fun i x f hx=>by simp at hx⟩
   have hs:=S11.out;rw[HPS.out]at hs;refine⟨_,hs.beside hg12 (fun x n c hx e=>?_),rfl,fun i x s hx hs=>?_⟩
   ·cases hx;simp only[Option.some.injEq]at e;have:=HPS.out;omega
   cases i with
   | zero=>
    cases hx;cases hs;exact⟨rfl,RowAt.nil arE W12,nR _,TabS.nil 0 0 W12⟩
   | succ i=>simp at hx
  have hz5:z5=cb:=by rw[<-HZ5.out,if_pos HFEW.out.2.2]
  subst hz5;clear t1 t3 t4 t6 far k1 k2 k3 k4 k5 kw;go_wp2;refine bodyPost_ret (ret_cell_tmp rfl _ rfl hb12 underlying40 rfl (by kernel_rfl)) rfl ⟨.inl ⟨HFEW.out,⟨mf,ms,mb,mq,md,me,sli0,sli0,⟨some ⟨ps,0,none⟩,1,1⟩⟩,rfl,HMA.out⟩,HG12.out⟩
 have hE0:E=4:=by rw[<-HE.out,<-HES.out];exact newEs_many hfew
 subst hE0;have HFEW:Hid (¬fewB cf cs cb):=hfew;clear hfew
 go_wp2_with (refine wp_storeAll rfl 40 (.tmp 2) (.tmp 54) rfl (w.heap.size+1) rfl [.slice none 0 0,.int .i64 0,.slice none 0 0,.slice none 0 0,.slice none 0 0,.slice none 0 0,.slice none 0 0,.slice none 0 0,.int .i64 0,.slice none 0 0,.slice none 0 0] rfl Y10.out rfl (by kernel_rfl) (fun v hv=>by
   simp only[mC,nM,or_false]at hv
   rcases hv with rfl|rfl|rfl|rfl|rfl|rfl|rfl|rfl|rfl|rfl|rfl <;> rfl) ?_)
 intro W12 hb12 hg12 _;have HG12:Hid (Grew w W12):=dD<|grew_grown (HG0.out.trans HGW.out) hg12 (by omega)
 go_wp2;refine bodyPost_ret (ret_cell_tmp rfl _ rfl hb12 underlying40 rfl (by kernel_rfl)) rfl ⟨.inr ⟨HFEW.out,rfl⟩,HG12.out⟩
theorem ret_cell_tmp2 {fn:Func} {p u t:Tmp} {ty:TypeId} (h:fn.results=#[.cell p ty,.tmp u,.tmp t]) (tmps:Array Value) {w:World} (hp:tmps.getD p undef= .pointer (some ⟨b,0,none⟩)) (hb:Box w b vs) {d:TypeDesc} (hu:Tryz.prog.underlying ty=some d) (hd:d.isRow=true) (hi:(Tryz.prog.info? ty).map (·.size)=some vs.length):
  (results fn tmps).run prog w= .ok (.tuple #[.agg vs.toArray,tmps.getD u undef,tmps.getD t undef]) w:=by
 have hp':tmps[p]?.getD undef= .pointer (some ⟨b,0,none⟩):=by simpa using hp
 have hld:=run_loadVar_mid (P:=prog) w b 0 ty vs d hb.range hu hd hi
 simp[results,h,hp',asAddr,hld]
theorem Tryz.sizePage:(Tryz.prog.info? 50).map (·.size)=some 8:=by kernel_rfl
theorem viewNone_any (V:MaV) (m:Ma) (p:Nat) (n:Int) (s:Sp) (w:World) (hm:MachAt w V m) (h0:maW m=0) (hs:m.sp[p]? =some s) (hn:∀a∈s.ars,inZ a n=false):
  Calls prog 15 #[.agg #[.slice V.f.a V.f.n V.f.c,.int .i64 m.hand,.slice V.s.a V.s.n V.s.c,.slice V.sb.a V.sb.n V.sb.c,.slice V.sq.a V.sq.n V.sq.c,.slice V.db.a V.db.n V.db.c,.slice V.dq.a V.dq.n V.dq.c,.slice V.fl.a V.fl.n V.fl.c,.int .i64 m.cnt,.slice V.ca.a V.ca.n V.ca.c,.slice V.sp.a V.sp.n V.sp.c],.int .i64 (p:Int),.int .i64 n] w fun e w'=>e= .returned (.tuple #[.agg #[.int .u8 0,.int .u8 0,.int .u8 0,.int .u8 0,.int .u8 0,.int .u8 0,.int .u8 0,.int .u8 0],.bool false,.int .i64 5])/\Grew w w':=by
 have HWR:Hid (∀W,Grew w W->Calls prog 9 #[.agg #[.slice V.f.a V.f.n V.f.c,.int .i64 m.hand,.slice V.s.a V.s.n V.s.c,.slice V.sb.a V.sb.n V.sb.c,.slice V.sq.a V.sq.n V.sq.c,.slice V.db.a V.db.n V.db.c,.slice V.dq.a V.dq.n V.dq.c,.slice V.fl.a V.fl.n V.fl.c,.int .i64 m.cnt,.slice V.ca.a V.ca.n V.ca.c,.slice V.sp.a V.sp.n V.sp.c]] W fun e w'=>e= .returned (.int .i64 0)/\Grew W w'):=dD<|fun W hW=>by
  have:=wrongM_any V m W (hm.grew hW);rw[h0]at this;exact this
 obtain⟨vf,vs,vsb,vsq,vdb,vdq,vfl,vca,⟨spa,spn,spc⟩⟩:=V;dsimp only at HWR⊢;obtain⟨-,-,-,-,-,-,-,-,n9⟩:=hm.ns;dsimp only at n9;obtain⟨xs,hxl,hrow,hsp⟩:=hm.spaces;have hpl:p<spn:=by rw[n9];exact(gS.1 hs).1
 obtain⟨x,hx⟩:∃x,xs[p]? =some x:=⟨_,gE (by rw[hxl,<-n9];exact hpl)⟩
 have HAT:Hid (SpaceAt w x s):=hsp p x s hx hs;obtain⟨ad,hva,hl⟩:=hrow p x hx;dsimp only at hva;subst hva;have HL:Hid (∀W,Grew w W->Sp10 W (ad.add (p*10)) x):=hl;have HFN:Hid (∀W,Grew w W->Calls prog 63 #[.slice x.ar.a x.ar.n x.ar.c,.int .i64 n] W fun e w'=>e= .returned (.int .i64 (-1))/\Grew W w'):=show∀W,_ from fun W hW=>by
  refine(find_any _ s.ars n W (HAT.out.grew hW).ar).mono ?_;rintro e w' ⟨⟨z,rfl,hz⟩,hg⟩;refine⟨?_,hg⟩
  rcases hz with⟨k,a,rfl,h1,h2⟩|⟨rfl,_⟩
  ·rw[hn a (mG h1)]at h2;cases h2
  rfl
 have hbel:=belowM_any (p:Int) (spn:Int);have hbt:bel (p:Int) (spn:Int)=true:=bel_iff.2 ⟨by omega,by omega⟩
 rw[hbt]at hbel;have HBL:Hid (∀W,Calls prog 57 #[.int .i64 (p:Int),.int .i64 (spn:Int)] W fun e w'=>e= .returned (.bool true)/\w'=W):=hbel
 have hpz:(p:Int)< (spn:Int):=by omega
 clear hm hs hn hrow hsp hxl hx hl hbel hbt n9 h0;obtain⟨W0,hW0⟩:∃W0,(w.alloc (.cells #[.slice vf.a vf.n vf.c,.int .i64 m.hand,.slice vs.a vs.n vs.c,.slice vsb.a vsb.n vsb.c,.slice vsq.a vsq.n vsq.c,.slice vdb.a vdb.n vdb.c,.slice vdq.a vdq.n vdq.c,.slice vfl.a vfl.n vfl.c,.int .i64 m.cnt,.slice vca.a vca.n vca.c,.slice (some ad) spn spc] 40)).alloc (.cells #[.int .u8 0,.int .u8 0,.int .u8 0,.int .u8 0,.int .u8 0,.int .u8 0,.int .u8 0,.int .u8 0] 50)=W0:=⟨_,rfl⟩;have HG0:=gD2 hW0
 have X0:=x2a hW0
 have Y0:=x2b hW0
 have HW0:Hid (_=W0):=hW0;clear hW0
 go_enter func15,ntmps15
 go_upto_region 1 with fail;rw[HW0.out];obtain⟨x0,x1,x2,x3,x4,x5,x6,x7,x8,x9,x10⟩:=X0.out.c11;go_wp2_with fail;refine(HWR.out _ HG0.out).mono ?_;clear x0 x1 x2 x3 x4 x5 x6 x7 x8 x9 x10;rintro e W1 ⟨rfl,g1⟩;have HG1:Hid (Grew W0 W1):=g1;have HGw1:=dD (HG0.out.trans g1);clear g1;have x10:=(X0.out.grew HG1.out).c 10 rfl
 go_upto_region 6 with(go_at_call 57;refine(HBL.out _).mono ?_;rintro e w' ⟨rfl,hw'⟩;rw[hw'];clear hw' w')
 obtain⟨d0,d1,d2,d3,d4,d5,d6,d7,d8,d9⟩:=HL.out W1 HGw1.out;go_upto_region 7 with fail;clear d0 d1 d2 d3 d4 d5 d6 d7 d8 d9 x10;obtain⟨W2,hW2⟩:∃W2,W1.alloc (.cells #[.bool x.live,.slice x.ar.a x.ar.n x.ar.c,.slice x.t0.a x.t0.n x.t0.c,.slice x.t1.a x.t1.n x.t1.c,.slice x.t2.a x.t2.n x.t2.c,.slice x.t3.a x.t3.n x.t3.c,.slice x.t4.a x.t4.n x.t4.c,.slice x.t5.a x.t5.n x.t5.c,.slice x.t6.a x.t6.n x.t6.c,.slice x.t7.a x.t7.n x.t7.c] 65)=W2:=⟨_,rfl⟩;have HG2:=gT hW2 HG1
 have HGw2:=dD (HG0.out.trans HG2.out);have S2:=xA hW2
 rw[hW2];clear hW2;have s1:=S2.out.c 1 rfl;go_wp2_with fail;refine(HFN.out _ HGw2.out).mono ?_;clear s1;rintro e W3 ⟨rfl,g3⟩;have HGw3:=dD (HGw2.out.trans g3);have Y3:=dD (Y0.out.grew (HG2.out.trans g3));clear g3
 go_wp2_with (refine wp_storeAll rfl 50 (.tmp 6) (.tmp 36) rfl (w.heap.size+1) rfl [.int .u8 0,.int .u8 0,.int .u8 0,.int .u8 0,.int .u8 0,.int .u8 0,.int .u8 0,.int .u8 0] rfl Y3.out rfl Tryz.sizePage (fun v hv=>by
    simp only[mC,nM,or_false]at hv
    rcases hv with rfl|rfl|rfl|rfl|rfl|rfl|rfl|rfl <;> rfl) ?_)
 intro W4 hb4 hg4 _;have HG4:Hid (Grew w W4):=dD<|grew_grown HGw3.out hg4 (by omega)
 go_wp2;refine bodyPost_ret (ret_cell_tmp2 rfl _ rfl hb4 underlying50 rfl Tryz.sizePage) rfl ⟨rfl,HG4.out⟩
theorem bytesNone_any (V:MaV) (m:Ma) (file:Int) (w:World) (hm:MachAt w V m) (h0:maW m=0) (hf:bel file m.fl.length=false):
  Calls prog 13 #[.agg #[.slice V.f.a V.f.n V.f.c,.int .i64 m.hand,.slice V.s.a V.s.n V.s.c,.slice V.sb.a V.sb.n V.sb.c,.slice V.sq.a V.sq.n V.sq.c,.slice V.db.a V.db.n V.db.c,.slice V.dq.a V.dq.n V.dq.c,.slice V.fl.a V.fl.n V.fl.c,.int .i64 m.cnt,.slice V.ca.a V.ca.n V.ca.c,.slice V.sp.a V.sp.n V.sp.c],.int .i64 file] w fun e w'=>e= .returned (.tuple #[.slice none 0 0,.int .i64 5])/\Grew w w':=by
 have HWR:Hid (∀W,Grew w W->Calls prog 9 #[.agg #[.slice V.f.a V.f.n V.f.c,.int .i64 m.hand,.slice V.s.a V.s.n V.s.c,.slice V.sb.a V.sb.n V.sb.c,.slice V.sq.a V.sq.n V.sq.c,.slice V.db.a V.db.n V.db.c,.slice V.dq.a V.dq.n V.dq.c,.slice V.fl.a V.fl.n V.fl.c,.int .i64 m.cnt,.slice V.ca.a V.ca.n V.ca.c,.slice V.sp.a V.sp.n V.sp.c]] W fun e w'=>e= .returned (.int .i64 0)/\Grew W w'):=dD<|fun W hW=>by
  have:=wrongM_any V m W (hm.grew hW);rw[h0]at this;exact this
 obtain⟨-,-,-,-,-,-,n7,-⟩:=hm.ns;have hbel:=belowM_any file (V.fl.n:Int);rw[n7,hf]at hbel;rw[<-n7]at hbel;have HBL:Hid (∀W,Calls prog 57 #[.int .i64 file,.int .i64 (V.fl.n:Int)] W fun e w'=>e= .returned (.bool false)/\w'=W):=hbel
 clear hm hf hbel n7 h0;obtain⟨W0,hW0⟩:∃W0,w.alloc (.cells #[.slice V.f.a V.f.n V.f.c,.int .i64 m.hand,.slice V.s.a V.s.n V.s.c,.slice V.sb.a V.sb.n V.sb.c,.slice V.sq.a V.sq.n V.sq.c,.slice V.db.a V.db.n V.db.c,.slice V.dq.a V.dq.n V.dq.c,.slice V.fl.a V.fl.n V.fl.c,.int .i64 m.cnt,.slice V.ca.a V.ca.n V.ca.c,.slice V.sp.a V.sp.n V.sp.c] 40)=W0:=⟨_,rfl⟩;have HG0:=gA hW0
 have X0:=xA hW0
 have HW0:Hid (_=W0):=hW0;clear hW0
 go_enter func13,ntmps13
 go_upto_region 1 with fail;rw[HW0.out];obtain⟨x0,x1,x2,x3,x4,x5,x6,x7,x8,x9,x10⟩:=X0.out.c11;go_wp2_with fail;refine(HWR.out _ HG0.out).mono ?_;clear x0 x1 x2 x3 x4 x5 x6 x7 x8 x9 x10;rintro e W1 ⟨rfl,g1⟩;have HGw1:=dD (HG0.out.trans g1);have x7:=(X0.out.grew g1).c 7 rfl;clear g1
 go_wp2_with (go_at_call 57;refine(HBL.out _).mono ?_;rintro e w' ⟨rfl,hw'⟩;rw[hw'];clear hw' w')
 refine bodyPost_ret (results_tmp2 rfl _ _ _) rfl ⟨rfl,HGw1.out⟩
theorem newMa_right:maW (newMa 3 2 4)=0:=by decide+kernel
theorem aliveM_any (w:World):Calls prog 18 #[] w fun e w'=>e= .returned (.bool true)/\Grew w w':=by
 have hnew:=newM_any 3 2 4 w
 go_enter func18,ntmps18
 go_wp2_with fail;refine hnew.mono ?_;clear hnew;rintro e W1 ⟨⟨_,V,rfl,hm1⟩|⟨hno,_⟩,g1⟩
 case inr=>exact absurd (show fewB 3 2 4 from⟨by decide,by decide,by decide⟩) hno
 obtain⟨n1,n2,-,-,n5,-,n7,-,n9⟩:=hm1.ns;have HM1:Hid (MachAt W1 V (newMa 3 2 4)):=hm1;have HG1:Hid (Grew w W1):=g1;have E1:Hid (V.f.n=3):=n1;have E2:Hid (V.s.n=2):=n2;have E5:Hid (V.db.n=4):=n5;have E9:Hid (V.sp.n=1):=n9;clear hm1 g1 n1 n2 n5 n7 n9;go_upto_region 2 with fail;obtain⟨W2,hW2⟩:∃W2,W1.alloc (.cells #[.slice V.f.a V.f.n V.f.c,.int .i64 0,.slice V.s.a V.s.n V.s.c,.slice V.sb.a V.sb.n V.sb.c,.slice V.sq.a V.sq.n V.sq.c,.slice V.db.a V.db.n V.db.c,.slice V.dq.a V.dq.n V.dq.c,.slice V.fl.a V.fl.n V.fl.c,.int .i64 4,.slice V.ca.a V.ca.n V.ca.c,.slice V.sp.a V.sp.n V.sp.c] 40)=W2:=⟨_,rfl⟩;have HG2:=gA hW2
 have X2:=xA hW2
 rw[hW2];clear hW2;obtain⟨pm,HPM⟩:∃p,Hid (W1.heap.size=p):=⟨_,rfl⟩;rw[HPM.out]at X2⊢;have hvw:=viewNone_any V (newMa 3 2 4) 0 5 ⟨true,[],none8⟩ W2 (HM1.out.grew HG2.out) newMa_right rfl (fun a ha=>by cases ha)
 have hvw':Calls prog 15 #[.agg #[.slice V.f.a V.f.n V.f.c,.int .i64 0,.slice V.s.a V.s.n V.s.c,.slice V.sb.a V.sb.n V.sb.c,.slice V.sq.a V.sq.n V.sq.c,.slice V.db.a V.db.n V.db.c,.slice V.dq.a V.dq.n V.dq.c,.slice V.fl.a V.fl.n V.fl.c,.int .i64 4,.slice V.ca.a V.ca.n V.ca.c,.slice V.sp.a V.sp.n V.sp.c],.int .i64 0,.int .i64 5] W2 fun e w'=>e= .returned (.tuple #[.agg #[.int .u8 0,.int .u8 0,.int .u8 0,.int .u8 0,.int .u8 0,.int .u8 0,.int .u8 0,.int .u8 0],.bool false,.int .i64 5])/\Grew W2 w':=hvw
 clear hvw;obtain⟨x0,x1,x2,x3,x4,x5,x6,x7,x8,x9,x10⟩:=X2.out.c11;go_wp2_with fail;refine hvw'.mono ?_;clear hvw' x0 x1 x2 x3 x4 x5 x6 x7 x8 x9 x10;rintro e W3 ⟨rfl,g3⟩;have HG3:Hid (Grew W2 W3):=g3;clear g3;go_upto_region 3 with fail;obtain⟨W4,hW4⟩:∃W4,W3.alloc (.cells #[.int .u8 0,.int .u8 0,.int .u8 0,.int .u8 0,.int .u8 0,.int .u8 0,.int .u8 0,.int .u8 0] 50)=W4:=⟨_,rfl⟩;have HG4:=gT hW4 HG3
 have X4:=dD (X2.out.grew HG4.out);rw[hW4];clear hW4;have hby:=bytesNone_any V (newMa 3 2 4) 0 W4 (HM1.out.grew (HG2.out.trans HG4.out)) newMa_right (by decide)
 have hby':Calls prog 13 #[.agg #[.slice V.f.a V.f.n V.f.c,.int .i64 0,.slice V.s.a V.s.n V.s.c,.slice V.sb.a V.sb.n V.sb.c,.slice V.sq.a V.sq.n V.sq.c,.slice V.db.a V.db.n V.db.c,.slice V.dq.a V.dq.n V.dq.c,.slice V.fl.a V.fl.n V.fl.c,.int .i64 4,.slice V.ca.a V.ca.n V.ca.c,.slice V.sp.a V.sp.n V.sp.c],.int .i64 0] W4 fun e w'=>e= .returned (.tuple #[.slice none 0 0,.int .i64 5])/\Grew W4 w':=hby
 clear hby;obtain⟨x0,x1,x2,x3,x4,x5,x6,x7,x8,x9,x10⟩:=X4.out.c11;go_wp2_with fail;refine hby'.mono ?_;clear hby' x0 x1 x2 x3 x4 x5 x6 x7 x8 x9 x10;rintro e W5 ⟨rfl,g5⟩;have HG5:=dD (HG4.out.trans g5);have X5:=dD (X4.out.grew g5);clear g5;have hwr:=wrongM_any V (newMa 3 2 4) W5 (HM1.out.grew (HG2.out.trans HG5.out));rw[newMa_right]at hwr;have hwr':Calls prog 9 #[.agg #[.slice V.f.a V.f.n V.f.c,.int .i64 0,.slice V.s.a V.s.n V.s.c,.slice V.sb.a V.sb.n V.sb.c,.slice V.sq.a V.sq.n V.sq.c,.slice V.db.a V.db.n V.db.c,.slice V.dq.a V.dq.n V.dq.c,.slice V.fl.a V.fl.n V.fl.c,.int .i64 4,.slice V.ca.a V.ca.n V.ca.c,.slice V.sp.a V.sp.n V.sp.c]] W5 fun e w'=>e= .returned (.int .i64 0)/\Grew W5 w':=hwr
 clear hwr;obtain⟨x0,x1,x2,x3,x4,x5,x6,x7,x8,x9,x10⟩:=X5.out.c11;go_wp2_with fail;refine hwr'.mono ?_;clear hwr' x0 x1 x2 x3 x4 x5 x6 x7 x8 x9 x10;rintro e W6 ⟨rfl,g6⟩;have HG6:=dD ((HG1.out.trans HG2.out).trans (HG5.out.trans g6));have X6:=X5.out.grew g6;clear g6;have x0:=X6.c 0 rfl;have x2:=X6.c 2 rfl;have x5:=X6.c 5 rfl;have x10:=X6.c 10 rfl;rw[E1.out]at x0;rw[E2.out]at x2;rw[E5.out]at x5;rw[E9.out]at x10;go_wp2;go_ret;exact⟨rfl,HG6.out⟩
theorem onAt_page:∀{l:List Ar} {p:Option Ar} {n:Nat},CanP p l->(onAt l n).is=true->0<=(onAt l n).page/\((onAt l n).page<=11\/(onAt l n).file<0)
 | [],_,_,_,h=>by cases h
 | a :: l,p,n,hc,h=>by
  unfold onAt at h⊢
  by_cases e:arIn a n=true
  ·rw[if_pos e]at h⊢;have ha:=hc.1;have e':=arIn_iff.1 e;unfold ArOk at ha;unfold oneOf;simp only
   split
   ·exact⟨by omega,.inl (by omega)⟩
   exact⟨by omega,.inr (by omega)⟩
  rw[if_neg e]at h⊢;exact onAt_page hc.2.2 h
def viewV (r:List Int × Bool × Int):Value:= .tuple #[.agg (pgc r.1).toArray,.bool r.2.1,.int .i64 r.2.2]
theorem ent_all (h:maW m=0):∀s∈m.sp,∀n,n<64->(if(flatN s n).kind=0 then 0 else entE m (onAt s.ars n) (flatN s n))=0:=fun s hs n hn=>by
 unfold maW at h;rw[firstE_zero]at h;have h1:=firstE_zero.1 (h (firstE (m.sp.map (spEnt m))) (by simp)) (spEnt m s) (List.mem_map.2 ⟨s,hs,rfl⟩)
 unfold spEnt at h1;exact firstE_zero.1 h1 _ (List.mem_map.2 ⟨n,List.mem_range.2 hn,rfl⟩)
theorem ca_all (h:maW m=0):∀c∈m.ca,0<=c.fr/\c.fr< (m.fs.length:Int):=fun c hc=>by
 unfold maW at h;rw[firstE_zero]at h;have h1:=(caGo_zero.1 (h (caGo m none m.ca) (by simp))).1 c hc
 unfold caE at h1
 split at h1
 ·cases h1
 omega
theorem maW_parts (h:maW m=0):partE m=0:=by
 unfold maW at h;rw[firstE_zero]at h;exact h _ (by simp)
theorem refView_any (V:MaV) (m:Ma) (p n:Int) (w:World) (hm:MachAt w V m) (hw:maW m=0) (hfs:∀s∈m.sp,FilesIn m.fl.length s.ars):
  Calls prog 66 #[.agg #[.slice V.f.a V.f.n V.f.c,.int .i64 m.hand,.slice V.s.a V.s.n V.s.c,.slice V.sb.a V.sb.n V.sb.c,.slice V.sq.a V.sq.n V.sq.c,.slice V.db.a V.db.n V.db.c,.slice V.dq.a V.dq.n V.dq.c,.slice V.fl.a V.fl.n V.fl.c,.int .i64 m.cnt,.slice V.ca.a V.ca.n V.ca.c,.slice V.sp.a V.sp.n V.sp.c],.int .i64 p,.int .i64 n] w fun e w'=>e= .returned (viewV (viewR m p n))/\(viewR m p n).1.length=8/\Grew w w':=by
 have HM:Hid (MachAt w V m):=hm;obtain⟨n1,n2,-,-,-,-,n7,n8,n9⟩:=hm.ns;obtain⟨xs,hxl,hrow,hsp⟩:=hm.spaces;have HFR:Hid (FrRows w V.f.a m.fs):=hm.frs;obtain⟨_,_,hfe,_,hfr⟩:=FilesAt.rows hm.fl;have HFL:Hid (FlRows w V.fl.a m.fl):=show FlRows _ _ _ by
  simp only[vJ]at hfe;rw[hfe.1];exact hfr
 have HP:Hid (Pts m):=pts_of (maW_parts hw);have HENT:Hid (∀s∈m.sp,∀n,n<64->(if(flatN s n).kind=0 then 0 else entE m (onAt s.ars n) (flatN s n))=0):=show∀s,_ from ent_all hw
 have HFS:Hid (∀s∈m.sp,FilesIn m.fl.length s.ars):=dD<|hfs
 have HCO:Hid (∀W (fi ix:Nat) f bk,Grew w W->m.fl[fi]? =some f->f.bl[ix]? =some bk->ix<=1000->Calls prog 62 #[.agg #[.slice V.f.a V.f.n V.f.c,.int .i64 m.hand,.slice V.s.a V.s.n V.s.c,.slice V.sb.a V.sb.n V.sb.c,.slice V.sq.a V.sq.n V.sq.c,.slice V.db.a V.db.n V.db.c,.slice V.dq.a V.dq.n V.dq.c,.slice V.fl.a V.fl.n V.fl.c,.int .i64 m.cnt,.slice V.ca.a V.ca.n V.ca.c,.slice V.sp.a V.sp.n V.sp.c],.int .i64 (fi:Int),.int .i64 (ix:Int)] W fun e w'=>e= .returned (.agg (pgc (contL m fi ix)).toArray)/\(contL m fi ix).length=8/\Grew W w'):=dD<|fun W fi ix f bk hW hf hb hi=>content_any V m fi ix f bk W (HM.out.grew hW) (fun c hc _=>ca_all hw c hc) hf hb hi
 have HRD:Hid (∀W k,Grew w W->Calls prog 110 #[.agg #[.slice V.sb.a V.sb.n V.sb.c,.slice V.sq.a V.sq.n V.sq.c],.int .i64 k] W fun e w'=>e= .returned (.tuple #[.agg (pgc (readL m.sb m.sq k)).toArray,.int .i64 (wrongAtL m.sb.length m.sq k)])/\Grew W w'):=dD<|fun W k hW=>refRead_any _ m.sb m.sq k W ⟨_,_,rfl,(HM.out.grew hW).sb,(HM.out.grew hW).sq⟩
 have HRL:Hid (∀k,(readL m.sb m.sq k).length=8):=dD<|fun k=>readL8 hm.sb.2.1 hm.sq.2.1
 obtain⟨⟨fa,fn,fc⟩,⟨sa,sn,sc⟩,⟨sba,sbn,sbc⟩,⟨sqa,sqn,sqc⟩,vdb,vdq,⟨fla,fln,flc⟩,⟨caa,can,cac⟩,⟨spa,spn,spc⟩⟩:=V;dsimp only at n1 n2 n7 n8 n9 hrow HFR HFL HCO HRD⊢;have HN1:Hid (m.fs.length=fn):=n1.symm;have HN7:Hid (m.fl.length=fln):=n7.symm;have HN9:Hid (m.sp.length=spn):=n9.symm;have HXL:Hid (xs.length=spn):=show _=_ by rw[hxl];exact HN9.out
 have HRW:Hid (∀(j:Nat) x,xs[j]? =some x->∃ad,spa=some ad/\∀W,Grew w W->Sp10 W (ad.add (j*10)) x):=dD<|hrow
 have HSP:Hid (∀(i:Nat) x s,xs[i]? =some x->m.sp[i]? =some s->SpaceAt w x s):=dD<|hsp
 clear hm n1 n2 n7 n8 n9 hxl hrow hsp hfe hfr hw hfs;obtain⟨W0,hW0⟩:∃W0,(w.alloc (.cells #[.slice fa fn fc,.int .i64 m.hand,.slice sa sn sc,.slice sba sbn sbc,.slice sqa sqn sqc,.slice vdb.a vdb.n vdb.c,.slice vdq.a vdq.n vdq.c,.slice fla fln flc,.int .i64 m.cnt,.slice caa can cac,.slice spa spn spc] 40)).alloc (.cells #[.int .u8 0,.int .u8 0,.int .u8 0,.int .u8 0,.int .u8 0,.int .u8 0,.int .u8 0,.int .u8 0] 50)=W0:=⟨_,rfl⟩;have G0:=gD2 hW0
 have X0:=x2a hW0
 have Y0:Hid (Box W0 (w.heap.size+1) (pgc zero8)):=dD<|by rw[<-hW0];exact Box.top _ (pgc zero8) _ (by simp)
 have HW0:Hid (_=W0):=hW0;clear hW0
 by_cases a1:p<0
 ·have HR:Hid (viewR m p n=(zero8,false,5)):=dD<|by unfold viewR;exact if_pos (by rw[HN9.out];omega)
  have k1:decide (p<0)=true:=decide_eq_true a1;clear a1
  go_enter func66,ntmps66
  go_upto_region 1 with fail;rw[HW0.out];have x10:=X0.out.c 10 rfl
  go_wp2_with (refine wp_storeAll rfl 50 (.tmp 6) (.tmp 31) rfl (w.heap.size+1) rfl (pgc zero8) rfl Y0.out rfl Tryz.sizePg (pgc_one _) ?_)
  intro WL hbL hgL _;have HGL:Hid (Grew w WL):=dD<|grew_grown G0.out hgL (by omega)
  go_wp2;refine bodyPost_ret (ret_cell_tmp2 rfl _ rfl hbL underlying50 rfl Tryz.sizePg) rfl ⟨by rw[HR.out];rfl,by rw[HR.out];rfl,HGL.out⟩
 by_cases a2:(spn:Int)<=p
 ·have HR:Hid (viewR m p n=(zero8,false,5)):=dD<|by unfold viewR;exact if_pos (by rw[HN9.out];omega)
  have k1:decide (p<0)=false:=decide_eq_false a1;have k2:decide ((spn:Int)<=p)=true:=decide_eq_true a2;clear a1 a2
  go_enter func66,ntmps66
  go_upto_region 1 with fail;rw[HW0.out];have x10:=X0.out.c 10 rfl
  go_wp2_with (refine wp_storeAll rfl 50 (.tmp 6) (.tmp 31) rfl (w.heap.size+1) rfl (pgc zero8) rfl Y0.out rfl Tryz.sizePg (pgc_one _) ?_)
  intro WL hbL hgL _;have HGL:Hid (Grew w WL):=dD<|grew_grown G0.out hgL (by omega)
  go_wp2;refine bodyPost_ret (ret_cell_tmp2 rfl _ rfl hbL underlying50 rfl Tryz.sizePg) rfl ⟨by rw[HR.out];rfl,by rw[HR.out];rfl,HGL.out⟩
 by_cases a3:n<0
 ·have HR:Hid (viewR m p n=(zero8,false,5)):=dD<|by unfold viewR;exact if_pos (by rw[HN9.out];omega)
  have k1:decide (p<0)=false:=decide_eq_false a1;have k2:decide ((spn:Int)<=p)=false:=decide_eq_false a2;have k3:decide (n<0)=true:=decide_eq_true a3;clear a1 a2 a3
  go_enter func66,ntmps66
  go_upto_region 1 with fail;rw[HW0.out];have x10:=X0.out.c 10 rfl
  go_wp2_with (refine wp_storeAll rfl 50 (.tmp 6) (.tmp 31) rfl (w.heap.size+1) rfl (pgc zero8) rfl Y0.out rfl Tryz.sizePg (pgc_one _) ?_)
  intro WL hbL hgL _;have HGL:Hid (Grew w WL):=dD<|grew_grown G0.out hgL (by omega)
  go_wp2;refine bodyPost_ret (ret_cell_tmp2 rfl _ rfl hbL underlying50 rfl Tryz.sizePg) rfl ⟨by rw[HR.out];rfl,by rw[HR.out];rfl,HGL.out⟩
 by_cases a4:63<n
 ·have HR:Hid (viewR m p n=(zero8,false,5)):=dD<|by unfold viewR;exact if_pos (by rw[HN9.out];omega)
  have k1:decide (p<0)=false:=decide_eq_false a1;have k2:decide ((spn:Int)<=p)=false:=decide_eq_false a2;have k3:decide (n<0)=false:=decide_eq_false a3;have k4:decide (63<n)=true:=decide_eq_true a4;clear a1 a2 a3 a4
  go_enter func66,ntmps66
  go_upto_region 1 with fail;rw[HW0.out];have x10:=X0.out.c 10 rfl
  go_wp2_with (refine wp_storeAll rfl 50 (.tmp 6) (.tmp 31) rfl (w.heap.size+1) rfl (pgc zero8) rfl Y0.out rfl Tryz.sizePg (pgc_one _) ?_)
  intro WL hbL hgL _;have HGL:Hid (Grew w WL):=dD<|grew_grown G0.out hgL (by omega)
  go_wp2;refine bodyPost_ret (ret_cell_tmp2 rfl _ rfl hbL underlying50 rfl Tryz.sizePg) rfl ⟨by rw[HR.out];rfl,by rw[HR.out];rfl,HGL.out⟩
 obtain⟨pp,rfl⟩:∃pp:Nat,p=(pp:Int):=⟨p.toNat,by omega⟩
 obtain⟨nn,rfl⟩:∃nn:Nat,n=(nn:Int):=⟨n.toNat,by omega⟩
 have hpn:pp<spn:=by omega
 have hn64:nn<64:=by omega
 obtain⟨x,hx⟩:∃x,xs[pp]? =some x:=⟨_,gE (by rw[HXL.out];exact hpn)⟩
 obtain⟨s,HS⟩:∃s,Hid (m.sp[pp]? =some s):=⟨_,gE (by rw[HN9.out];exact hpn)⟩
 have HAT:Hid (SpaceAt w x s):=HSP.out pp x s hx HS.out;obtain⟨ad,HSA,hl⟩:∃ad,Hid (spa=some ad)/\∀W,Grew w W->Sp10 W (ad.add (pp*10)) x:=HRW.out pp x hx;have HRT:Hid ((wrL s.ars).1=0/\tbW s.tb=0):=HP.out.ar s (mG HS.out);obtain⟨o,HO⟩:∃o,Hid (onAt s.ars nn=o):=⟨_,rfl⟩;obtain⟨e,HE⟩:∃e,Hid (flatN s nn=e):=⟨_,rfl⟩;have HVR:Hid (viewR m (pp:Int) (nn:Int)=if o.is=false then(zero8,false,5)else if e.kind=1 then(pgL (frAt m e.n).p,decide ((frAt m e.n).f<0),0)else if e.kind=2 then(readL m.sb m.sq e.n,true,0)else if o.file<0 then(zero8,false,0)else if bkN m o.file<=o.page then(zero8,false,9)else(contL m o.file o.page,false,0)):=show _=_ by
  unfold viewR;rw[if_neg (by rw[HN9.out];omega)]
  have hsd:m.sp.getD pp ⟨false,[],[]⟩=s:=by rw[gD,HS.out];rfl
  simp only[tN,hsd,HO.out,HE.out]
 have HON:Hid (∀W,Grew w W->Calls prog 41 #[.slice x.ar.a x.ar.n x.ar.c] W fun e w'=>e= .returned (.agg (cellsO (tab (onAt s.ars))).toArray)/\Grew W w'):=dD<|fun W hW=>refOnes_any _ s.ars W (HAT.out.ar.grew hW) (wrL_zero.1 HRT.out.1).2.lies
 have HFT:Hid (∀W,Grew w W->Calls prog 42 #[.agg #[.slice x.t0.a x.t0.n x.t0.c,.slice x.t1.a x.t1.n x.t1.c,.slice x.t2.a x.t2.n x.t2.c,.slice x.t3.a x.t3.n x.t3.c,.slice x.t4.a x.t4.n x.t4.c,.slice x.t5.a x.t5.n x.t5.c,.slice x.t6.a x.t6.n x.t6.c,.slice x.t7.a x.t7.n x.t7.c]] W fun e w'=>e= .returned (.agg (cellsL (flatT s.tb)).toArray)/\Grew W w'):=dD<|fun W hW=>flatTb_any x.tab s.tb W ((HAT.out.grew hW).tb) (tb8 HRT.out.2)
 have HZF:Hid ((flatT s.tb)[nn]? =some e):=(flatT_at s.tb hn64).trans (congrArg some HE.out);have h0:0<=e.n:=by rw[<-HE.out];exact en_pos (flat_fine HRT.out.2 nn)
 have HE1:Hid (o.is=true->e.kind=1->e.n< (fn:Int)):=dD<|fun h1 h2=>by
  have h3:entE m o e=0:=by
   have:=HENT.out s (mG HS.out) nn hn64;rw[HE.out,HO.out,if_neg (by omega)]at this
   exact this
  unfold entE at h3;rw[if_neg (by rw[h1];decide),if_neg (by omega)]at h3
  have h4:=HN1.out
  split at h3
  ·cases h3
  omega
 have HPG:Hid (o.is=true->0<=o.page/\(o.page<=11\/o.file<0)):=dD<|fun h1=>by rw[<-HO.out]at h1⊢;exact onAt_page (wrL_zero.1 HRT.out.1).2 h1
 have HFI:Hid (o.is=true->o.file< (fln:Int)):=dD<|fun h1=>by
  have h2:=HFS.out s (mG HS.out) nn hn64 (by rw[HO.out];exact h1)
  rw[HO.out,HN7.out]at h2;exact h2
 have hov:Value.agg (onv (onAt s.ars nn)).toArray= .agg #[.bool o.is,.bool o.rd,.bool o.wr,.bool o.sh,.int .i64 o.file,.int .i64 o.page]:=by rw[HO.out];rfl
 have k1:decide ((pp:Int)<0)=false:=decide_eq_false a1;have k2:decide (spn<=pp)=false:=decide_eq_false (by omega)
 have k3:decide ((nn:Int)<0)=false:=decide_eq_false a3;have k4:decide ((63:Int)< (nn:Int))=false:=decide_eq_false a4;have hpz:(pp:Int)< (spn:Int):=by omega
 clear a1 a2 a3 a4 hx
 go_enter func66,ntmps66
 go_upto_region 1 with fail;rw[HW0.out];have x10:=X0.out.c 10 rfl;rw[HSA.out]at x10;obtain⟨d0,d1,d2,d3,d4,d5,d6,d7,d8,d9⟩:=hl W0 G0.out;have HL:Hid (∀W,Grew w W->Sp10 W (ad.add (pp*10)) x):=dD<|hl
 clear hl d0 d2 d3 d4 d5 d6 d7 d8 d9;have hc:=HON.out W0 G0.out;go_wp2_with fail;refine hc.mono ?_;clear hc d1 x10 k1 k2 k3 k4;rintro r W1 ⟨rfl,g1⟩;have G1:=dD (G0.out.trans g1);have X1:=dD (X0.out.grew g1);have Y1:=dD (Y0.out.grew g1);clear g1
 go_upto_region 4 with(refine wp_idxOv rfl (.tmp 38) (.tmp 39) rfl (onAt s.ars) rfl nn rfl hn64 hov ?_)
 obtain⟨po,HPO⟩:∃po,Hid (W1.heap.size=po):=⟨_,rfl⟩;obtain⟨W2,hW2⟩:∃W2,W1.alloc (.cells #[.bool o.is,.bool o.rd,.bool o.wr,.bool o.sh,.int .i64 o.file,.int .i64 o.page] 96)=W2:=⟨_,rfl⟩;have g2:=gP hW2
 have O2:=xP hW2 HPO
 have G2:=dD (G1.out.trans g2);have X2:=dD (X1.out.grew g2);have Y2:=dD (Y1.out.grew g2);rw[hW2,HPO.out];clear hW2 g2 hov;have o0:=O2.out.c 0 rfl
 cases his:o.is with
 | false=>
  rw[his]at o0;have HR:Hid (viewR m (pp:Int) (nn:Int)=(zero8,false,5)):=dD<|by rw[HVR.out,if_pos his]
  clear his
  go_wp2_with (refine wp_storeAll rfl 50 (.tmp 6) (.tmp 44) rfl (w.heap.size+1) rfl (pgc zero8) rfl Y2.out rfl Tryz.sizePg (pgc_one _) ?_)
  intro WL hbL hgL _;have HGL:Hid (Grew w WL):=dD<|grew_grown G2.out hgL (by omega)
  go_wp2;refine bodyPost_ret (ret_cell_tmp2 rfl _ rfl hbL underlying50 rfl Tryz.sizePg) rfl ⟨by rw[HR.out];rfl,by rw[HR.out];rfl,HGL.out⟩
 | true=>
 rw[his]at o0;have HVR2:Hid (viewR m (pp:Int) (nn:Int)=if e.kind=1 then(pgL (frAt m e.n).p,decide ((frAt m e.n).f<0),0)else if e.kind=2 then(readL m.sb m.sq e.n,true,0)else if o.file<0 then(zero8,false,0)else if bkN m o.file<=o.page then(zero8,false,9)else(contL m o.file o.page,false,0)):=dD<|by rw[HVR.out,if_neg (by rw[his];decide)]
 obtain⟨hpg0,hpg1⟩:=HPG.out his;have hfl0:=HFI.out his;have HE2:Hid (e.kind=1->e.n< (fn:Int)):=dD<|HE1.out his
 clear his;obtain⟨d0,d1,d2,d3,d4,d5,d6,d7,d8,d9⟩:=HL.out W2 G2.out;have x10:=X2.out.c 10 rfl;rw[HSA.out]at x10;have hc:=HFT.out W2 G2.out;go_wp2_with fail;refine hc.mono ?_;clear hc d0 d1 d2 d3 d4 d5 d6 d7 d8 d9 x10 o0;rintro r W3 ⟨rfl,g3⟩;have G3:=dD (G2.out.trans g3);have X3:=dD (X2.out.grew g3);have Y3:=dD (Y2.out.grew g3);have O3:=dD (O2.out.grew g3);clear g3
 go_upto_region 7 with(refine wp_flatAt rfl (.tmp 51) (.tmp 52) rfl (flatT s.tb) rfl nn rfl hn64 HZF.out ?_)
 obtain⟨pe,HPE⟩:∃pe,Hid (W3.heap.size=pe):=⟨_,rfl⟩;obtain⟨W4,hW4⟩:∃W4,W3.alloc (.cells #[.int .i64 e.kind,.int .i64 e.n,.bool e.wr] 67)=W4:=⟨_,rfl⟩;have g4:=gP hW4
 have E4:=xP hW4 HPE
 have G4:=dD (G3.out.trans g4);have X4:=dD (X3.out.grew g4);have Y4:=dD (Y3.out.grew g4);have O4:=dD (O3.out.grew g4);rw[hW4,HPE.out];clear hW4 g4;have e0:=E4.out.c 0 rfl;have e1:=E4.out.c 1 rfl
 by_cases h1:e.kind=1
 ·have h1e:(e.kind == 1)=true:=by simp[h1]
  obtain⟨k,hk⟩:∃k:Nat,e.n=(k:Int):=⟨e.n.toNat,by omega⟩
  have hkf:=HE2.out h1;rw[hk]at hkf;obtain⟨q,HQ⟩:∃q,Hid (m.fs[k]? =some q):=⟨_,gE (by rw[HN1.out];omega)⟩
  have HR:Hid (viewR m (pp:Int) (nn:Int)=(pgL q.p,decide (q.f<0),0)):=dD<|by rw[HVR2.out,if_pos h1,hk,frAt_of HQ.out]
  obtain⟨adf,hva,hlf⟩:=HFR.out k q HQ.out;obtain⟨d0,d1,d2,d3,d4,d5,d6,d7,d8,d9,d10,d11,d12⟩:=hlf W4 G4.out;have x0:=X4.out.c 0 rfl;rw[hva]at x0;rw[hk]at e1;clear hlf hva h1 hk;go_upto_region 9 with fail;obtain⟨pq,HPQ⟩:∃pq,Hid (W4.heap.size=pq):=⟨_,rfl⟩;obtain⟨W5,hW5⟩:∃W5,W4.alloc (.cells #[.int .u8 q.p.b0,.int .u8 q.p.b1,.int .u8 q.p.b2,.int .u8 q.p.b3,.int .u8 q.p.b4,.int .u8 q.p.b5,.int .u8 q.p.b6,.int .u8 q.p.b7,.int .i64 q.r,.bool q.u,.bool q.d,.int .i64 q.f,.int .i64 q.x] 59)=W5:=⟨_,rfl⟩;have g5:=gP hW5
  have Q5:=xP hW5 HPQ
  have G5:=dD (G4.out.trans g5);have Y5:=dD (Y4.out.grew g5);have hne:w.heap.size+1≠pq:=by have:=Y4.out.lt;have h2:=HPQ.out;omega
  have hne2:pq≠w.heap.size+1:=fun h=>hne h.symm
  rw[hW5,HPQ.out];clear hW5 g5 x0 e0 e1 d0 d1 d2 d3 d4 d5 d6 d7 d8 d9 d10 d11 d12;obtain⟨q0,q1,q2,q3,q4,q5,q6,q7⟩:=Q5.out.c8;have q11:=Q5.out.c 11 rfl;obtain⟨y0,y1,y2,y3,y4,y5,y6,y7⟩:=Y5.out.c8;have yf:=Y5.out.f
  go_region
  all_goals
   obtain⟨W6,hW6⟩:∃W6,(((((((((W5).setCell ⟨w.heap.size+1,0,none⟩ (.int .u8 q.p.b0)).setCell ⟨w.heap.size+1,1,none⟩ (.int .u8 q.p.b1)).setCell ⟨w.heap.size+1,2,none⟩ (.int .u8 q.p.b2)).setCell ⟨w.heap.size+1,3,none⟩ (.int .u8 q.p.b3)).setCell ⟨w.heap.size+1,4,none⟩ (.int .u8 q.p.b4)).setCell ⟨w.heap.size+1,5,none⟩ (.int .u8 q.p.b5)).setCell ⟨w.heap.size+1,6,none⟩ (.int .u8 q.p.b6)).setCell ⟨w.heap.size+1,7,none⟩ (.int .u8 q.p.b7)).drew=W6:=⟨_,rfl⟩;have Y6:Hid (Box W6 (w.heap.size+1) (pgc (pgL q.p))):=dD<|by rw[<-hW6];exact(((((((((Y5.out).set 0 _).set 1 _).set 2 _).set 3 _).set 4 _).set 5 _).set 6 _).set 7 _).grew (show Below _ _ _ from Below.drew (bR _ _))
   have G6:Hid (Grew w W6):=dD<|by rw[<-hW6];exact(grew_set (grew_set (grew_set (grew_set (grew_set (grew_set (grew_set (grew_set (G5.out) (by simp) _) (by simp) _) (by simp) _) (by simp) _) (by simp) _) (by simp) _) (by simp) _) (by simp) _).trans (show Below _ _ _ from Below.drew (bR _ _))
   rw[hW6];clear hW6 yf q0 q1 q2 q3 q4 q5 q6 q7 q11 y0 y1 y2 y3 y4 y5 y6 y7;go_wp2;refine bodyPost_ret (ret_cell_tmp2 rfl _ rfl Y6.out underlying50 rfl Tryz.sizePg) rfl ⟨by rw[HR.out];rfl,by rw[HR.out];rfl,G6.out⟩
 have h1e:(e.kind == 1)=false:=by simp[h1]
 by_cases h2:e.kind=2
 ·have h2e:(e.kind == 2)=true:=by simp[h2]
  have HR:Hid (viewR m (pp:Int) (nn:Int)=(readL m.sb m.sq e.n,true,0)):=dD<|by rw[HVR2.out,if_neg h1,if_pos h2]
  have HRN:Hid ((readL m.sb m.sq e.n).length=8):=HRL.out e.n;have x3:=X4.out.c 3 rfl;have x4:=X4.out.c 4 rfl;have hc:=HRD.out W4 e.n G4.out;clear h1 h2;go_wp2_with fail;refine hc.mono ?_;clear hc x3 x4 e0 e1;rintro r W5 ⟨rfl,g5⟩;have G5:=dD (G4.out.trans g5);have Y5:=dD (Y4.out.grew g5);obtain⟨rl,HRLL⟩:∃rl,Hid (readL m.sb m.sq e.n=rl):=⟨_,rfl⟩;rw[HRLL.out]at HR HRN⊢;obtain⟨p0,p1,p2,p3,p4,p5,p6,p7,rfl⟩:=len8 rl HRN.out;simp only[pgc,mP,List.map_nil];go_upto_region 12 with fail;obtain⟨pl,HPL⟩:∃pl,Hid (W5.heap.size=pl):=⟨_,rfl⟩;obtain⟨W6,hW6⟩:∃W6,W5.alloc (.cells #[.int .u8 p0,.int .u8 p1,.int .u8 p2,.int .u8 p3,.int .u8 p4,.int .u8 p5,.int .u8 p6,.int .u8 p7] 50)=W6:=⟨_,rfl⟩;have g6:=gP hW6
  have P6:=xP hW6 HPL
  have G6:=dD (G5.out.trans g6);have Y6:=dD (Y5.out.grew g6);rw[hW6,HPL.out];clear hW6 g6 g5;obtain⟨c0,c1,c2,c3,c4,c5,c6,c7⟩:=P6.out.c8
  go_wp2_with (refine wp_storeAll rfl 50 (.tmp 6) (.tmp 80) rfl (w.heap.size+1) rfl (pgc [p0,p1,p2,p3,p4,p5,p6,p7]) rfl Y6.out rfl Tryz.sizePg (pgc_one _) ?_)
  intro WL hbL hgL _;have HGL:Hid (Grew w WL):=dD<|grew_grown G6.out hgL (by omega)
  go_wp2;refine bodyPost_ret (ret_cell_tmp2 rfl _ rfl hbL underlying50 rfl Tryz.sizePg) rfl ⟨by rw[HR.out];rfl,by rw[HR.out];rfl,HGL.out⟩
 have h2e:(e.kind == 2)=false:=by simp[h2]
 have HVR3:Hid (viewR m (pp:Int) (nn:Int)=if o.file<0 then(zero8,false,0)else if bkN m o.file<=o.page then(zero8,false,9)else(contL m o.file o.page,false,0)):=dD<|by rw[HVR2.out,if_neg h1,if_neg h2]
 clear h1 h2;have o4:=O4.out.c 4 rfl;have o5:=O4.out.c 5 rfl
 by_cases h3:o.file<0
 ·have h3d:decide (o.file<0)=true:=decide_eq_true h3;have HR:Hid (viewR m (pp:Int) (nn:Int)=(zero8,false,0)):=dD<|by rw[HVR3.out,if_pos h3]
  clear h3
  go_wp2_with (refine wp_storeAll rfl 50 (.tmp 6) (.tmp 84) rfl (w.heap.size+1) rfl (pgc zero8) rfl Y4.out rfl Tryz.sizePg (pgc_one _) ?_)
  intro WL hbL hgL _;have HGL:Hid (Grew w WL):=dD<|grew_grown G4.out hgL (by omega)
  go_wp2;refine bodyPost_ret (ret_cell_tmp2 rfl _ rfl hbL underlying50 rfl Tryz.sizePg) rfl ⟨by rw[HR.out];rfl,by rw[HR.out];rfl,HGL.out⟩
 have HVR4:Hid (viewR m (pp:Int) (nn:Int)=if bkN m o.file<=o.page then(zero8,false,9)else(contL m o.file o.page,false,0)):=dD<|by rw[HVR3.out,if_neg h3]
 obtain⟨fi,hfi⟩:∃fi:Nat,o.file=(fi:Int):=⟨o.file.toNat,by omega⟩
 obtain⟨pg,hpg⟩:∃pg:Nat,o.page=(pg:Int):=⟨o.page.toNat,by omega⟩
 obtain⟨f,HF⟩:∃f,Hid (m.fl[fi]? =some f):=⟨_,gE (by rw[HN7.out];omega)⟩
 obtain⟨ad7,h7,ba,bc,_,hlf⟩:=HFL.out fi f HF.out;obtain⟨-,f1⟩:=hlf W4 G4.out;obtain⟨bn,HBN⟩:∃bn,Hid (f.bl.length=bn):=⟨_,rfl⟩;rw[HBN.out]at f1;have HBK:Hid (bkN m o.file=(bn:Int)):=dD<|by unfold bkN;rw[hfi,tN,gD,HF.out];simp only[Option.getD_some];rw[HBN.out]
 have x7:=X4.out.c 7 rfl;rw[h7]at x7;rw[hfi]at o4;rw[hpg]at o5;have h3d:decide ((fi:Int)<0)=false:=decide_eq_false (by omega)
 have hfz:(fi:Int)< (fln:Int):=by omega
 have hpg3:pg<=1000:=by omega
 rw[HBK.out,hfi,hpg]at HVR4;clear h3 hfi hpg hlf h7 hpg0 hpg1 hfl0;go_upto_region 15 with fail
 by_cases h4:bn<=pg
 ·have h4d:decide (bn<=pg)=true:=decide_eq_true h4;have HR:Hid (viewR m (pp:Int) (nn:Int)=(zero8,false,9)):=dD<|by rw[HVR4.out,if_pos (by omega)]
  clear h4;go_quiet (fail);obtain⟨W5,hW5⟩:∃W5,W4.drewN nq=W5:=⟨_,rfl⟩;have g5:Grew W4 W5:=by rw[<-hW5];exact(show Below _ _ _ from bD (bR _ _) _)
  have G5:=dD (G4.out.trans g5);have Y5:=dD (Y4.out.grew g5);rw[hW5];clear hW5 g5 x7 f1 o4 o5
  go_wp2_with (refine wp_storeAll rfl 50 (.tmp 6) (.tmp 97) rfl (w.heap.size+1) rfl (pgc zero8) rfl Y5.out rfl Tryz.sizePg (pgc_one _) ?_)
  intro WL hbL hgL _;have HGL:Hid (Grew w WL):=dD<|grew_grown G5.out hgL (by omega)
  go_wp2;refine bodyPost_ret (ret_cell_tmp2 rfl _ rfl hbL underlying50 rfl Tryz.sizePg) rfl ⟨by rw[HR.out];rfl,by rw[HR.out];rfl,HGL.out⟩
 have h4d:decide (bn<=pg)=false:=decide_eq_false h4;obtain⟨bk,HBL⟩:∃bk,Hid (f.bl[pg]? =some bk):=⟨_,gE (by rw[HBN.out];omega)⟩
 have HR0:Hid (viewR m (pp:Int) (nn:Int)=(contL m (fi:Int) (pg:Int),false,0)):=dD<|by rw[HVR4.out,if_neg (by omega)]
 clear h4;go_quiet (fail);obtain⟨W5,hW5⟩:∃W5,W4.drewN nq=W5:=⟨_,rfl⟩;have g5:Grew W4 W5:=by rw[<-hW5];exact(show Below _ _ _ from bD (bR _ _) _)
 have G5:=dD (G4.out.trans g5);have X5:=dD (X4.out.grew g5);have Y5:=dD (Y4.out.grew g5);have O5:=dD (O4.out.grew g5);have o4':W5.cell? ⟨po,4,none⟩=some (.int .i64 (fi:Int)):=by rw[<-hW5];exact o4
 have o5':W5.cell? ⟨po,5,none⟩=some (.int .i64 (pg:Int)):=by rw[<-hW5];exact o5
 rw[hW5];clear hW5 g5 x7 f1 o4 o5;obtain⟨x0,x1,x2,x3,x4,x5,x6,x7,x8,x9,x10⟩:=X5.out.c11;have hc:=HCO.out W5 fi pg f bk G5.out HF.out HBL.out hpg3;go_wp2_with fail;refine hc.mono ?_;clear hc;rintro r W6 ⟨rfl,hl8,g6⟩;have G6:=dD (G5.out.trans g6);have Y6:=dD (Y5.out.grew g6);obtain⟨rl,HRLL⟩:∃rl,Hid (contL m (fi:Int) (pg:Int)=rl):=⟨_,rfl⟩;have HR:Hid (viewR m (pp:Int) (nn:Int)=(rl,false,0)):=show _=_ by rw[HR0.out,HRLL.out]
 rw[HRLL.out]at hl8⊢;have HL8:Hid (rl.length=8):=hl8;clear g6 hl8 x0 x1 x2 x3 x4 x5 x6 x7 x8 x9 x10 o4' o5';obtain⟨p0,p1,p2,p3,p4,p5,p6,p7,rfl⟩:=len8 rl HL8.out
 go_wp2_with (refine wp_storeAll rfl 50 (.tmp 6) (.tmp 103) rfl (w.heap.size+1) rfl (pgc [p0,p1,p2,p3,p4,p5,p6,p7]) rfl Y6.out rfl Tryz.sizePg (pgc_one _) ?_)
 intro WL hbL hgL _;have HGL:Hid (Grew w WL):=dD<|grew_grown G6.out hgL (by omega)
 go_wp2;refine bodyPost_ret (ret_cell_tmp2 rfl _ rfl hbL underlying50 rfl Tryz.sizePg) rfl ⟨by rw[HR.out];rfl,by rw[HR.out];rfl,HGL.out⟩
end
end Go.Proofs.YtangilolcekceaaGreat
