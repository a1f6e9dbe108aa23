import Derived.Test.YtangilolcekceaaGreatPO7
import Derived.Deep.CutRange
import Derived.Deep.DeepCutAuto
import Derived.Laws.BytesArg
namespace Go.Proofs.YtangilolcekceaaGreat
set_option maxRecDepth 100000
set_option maxHeartbeats 4000000
variable{L:List Int} {Q:Exit->Act->World->Prop} {T:List (Nat->En)} {V:MaV} {b hi i kk:Nat} {m:Ma} {o:Oper} {ops:Array Oper} {vt:Sli} {w' w0:World}
open Go.Proofs.Tryz
section
open Go.RowKit
theorem chunk_len (l:List En) (i:Nat):(chunk l i).length=8:=by simp[chunk]
theorem chunk_at (l:List En) {k:Nat} (hk:k<8):(chunk l i)[k]? =some (l[8*i+k]?.getD en0):=by
 unfold chunk;rw[List.getElem?_map,List.getElem?_range hk];rfl
structure Made (l:List En) (kk:Nat) (t:List (List En)):Prop where
 len:t.length=8
 at':∀j,j<8->t[j]? =some (if j<kk then mk (chunk l j)else [])
theorem made_zero (l:List En):Made l 0 none8:=⟨rfl,fun j hj=>by rw[if_neg (nL _),none8,List.getElem?_replicate,if_pos hj]⟩
theorem made_step {l:List En} {t:List (List En)} (h:Made l kk t) (hk:kk<8):Made l (kk+1) (t.set kk (mk (chunk l kk))):=by
 refine⟨by simp[h.len],fun j hj=>?_⟩
 by_cases e:j=kk
 ·subst e;rw[sF (by rw[h.len];exact hj),if_pos (Nat.lt_succ_self _)]
 rw[sN (fun h=>e h.symm),h.at' j hj]
 by_cases h1:j<kk
 ·rw[if_pos h1,if_pos (by omega)]
 rw[if_neg h1,if_neg (by omega)]
theorem made_all {l:List En} {t:List (List En)} (h:Made l 8 t):t=tableOf l:=by
 apply List.ext_getElem?
 intro j
 by_cases hj:j<8
 ·rw[h.at' j hj,if_pos hj];unfold tableOf;rw[List.getElem?_map,List.getElem?_range hj];rfl
 rw[gN (by rw[h.len];omega),gN (by simp[tableOf];omega)]
theorem tableOf_any (l:List En) (w:World) (hl:l.length=64) (hk:∀e∈l,0<=e.kind):
  Calls prog 33 #[.agg (cellsL l).toArray] w fun e w'=>∃us,e= .returned (.agg us.toArray)/\TabS 0 w.heap.size w' us (tableOf l)/\Grew w w':=by
 have HLL:Hid (l.length=64):=hl;have HK:Hid (∀e∈l,0<=e.kind):=hk;have HC:Hid (∀(j:Nat) e,l[j]? =some e->(cellsL l)[j*3]? =some (.int .i64 e.kind)/\(cellsL l)[j*3+1]? =some (.int .i64 e.n)/\(cellsL l)[j*3+2]? =some (.bool e.wr)):=show∀(j:Nat) e,_ from fun j e h=>cellsL_at h
 clear hl hk;obtain⟨TT,HTT⟩:∃TT,Hid (tableOf l=TT):=⟨_,rfl⟩;rw[HTT.out]
 generalize cellsL l=C at HC⊢
 obtain⟨W0,hW0⟩:∃W0,((w.alloc (.cells C.toArray 93)).alloc (.cells #[.slice none 0 0,.slice none 0 0,.slice none 0 0,.slice none 0 0,.slice none 0 0,.slice none 0 0,.slice none 0 0,.slice none 0 0] 63)).alloc (.cells #[.slice none 0 0,.slice none 0 0,.slice none 0 0,.slice none 0 0,.slice none 0 0,.slice none 0 0,.slice none 0 0,.slice none 0 0] 63)=W0:=⟨_,rfl⟩;have HG0:Hid (Grew w W0):=dD<|by rw[<-hW0];exact((grew_alloc _ _).trans (grew_alloc _ _)).trans (grew_alloc _ _)
 have X0:Hid (Box W0 w.heap.size C):=dD<|by rw[<-hW0];exact((Box.top w _ _ rfl).alloc _).alloc _
 have Y0:Hid (Box W0 (w.heap.size+1) nil8):=dD<|by rw[<-hW0];exact(Box.top _ nil8 _ (by simp)).alloc _
 have T0:Hid (Box W0 (w.heap.size+2) nil8):=dD<|by rw[<-hW0];exact Box.top _ nil8 _ (by simp)
 have HW0:Hid (_=W0):=hW0;clear hW0;obtain⟨b2,HB2⟩:∃b2,Hid (w.heap.size+2=b2):=⟨_,rfl⟩
 go_enter func33,ntmps33
 go_upto_region 2 with fail;rw[HW0.out];go_wp2
 go_loopg [8] 8 (fun gg s8 wr=>∃(kk:Nat) (us:List Value) (t:List (List En)),kk<=8/\8 - kk<=gg/\s8= .int .i64 kk/\Hid (Grew w wr)/\Hid (Box wr w.heap.size C)/\Hid (Box wr (w.heap.size+1) nil8)/\Hid (Box wr (w.heap.size+2) us)/\Hid (TabS 0 (w.heap.size+3) wr us t)/\Hid (Made l kk t)/\Hid (∀j,kk<=j->j<8->us[j]? =some (.slice none 0 0)))
 case atStart=>exact⟨0,nil8,none8,nZ _,by omega,rfl,HG0.out,X0.out,Y0.out,T0.out,TabS.nil _ _ _,made_zero l,show∀j,_ from fun j _ hj=>by rw[nil8,List.getElem?_replicate,if_pos hj]⟩
 obtain⟨kk,us,t,hkk,hg,rfl,BW,XW,YW,TW,SW,MW,NW⟩:=hrel
 by_cases hlt:kk<8
 ·have hltz:(kk:Int)<8:=by omega
  obtain⟨Ch,HCH⟩:∃Ch,Hid (chunk l kk=Ch):=⟨_,rfl⟩;have HCL:Hid (Ch.length=8):=dD<|by rw[<-HCH.out];exact chunk_len _ _
  have HCA:Hid (∀k,k<8->∃e,Ch[k]? =some e/\l[8*kk+k]? =some e/\0<=e.kind):=dD<|fun k hk=>by
   obtain⟨e,he⟩:∃e,l[8*kk+k]? =some e:=⟨_,gE (by rw[HLL.out];omega)⟩
   exact⟨e,by rw[<-HCH.out,chunk_at l hk,he];rfl,he,HK.out e (mG he)⟩
  obtain⟨WB,rfl⟩:∃WB,WB=wr:=⟨_,rfl⟩;go_wp2
  go_loopg [5,6] 8 (fun g2 s5 s6 wr2=>∃(k2:Nat) (sm:Bool),k2<=8/\8 - k2<=g2/\s6= .int .i64 k2/\s5= .bool sm/\Hid (sm=anyS (Ch.take k2))/\Hid (wr2=WB))
  case atStart=>exact⟨0,false,nZ _,by omega,rfl,rfl,rfl,rfl⟩
  obtain⟨k2,sm,hk2,hg2,rfl,rfl,AW2,EW⟩:=hrel;rw[EW.out]
  by_cases hlt2:k2<8
  ·have hltz2:(k2:Int)<8:=by omega
   obtain⟨e,he1,he2,he3⟩:=HCA.out k2 hlt2;have HT:Hid (anyS (Ch.take (k2+1))=(sm || enS e)):=dD<|by
    rw[take_snoc he1,AW2.out];unfold anyS;rw[List.any_append];simp
   cases sm with
   | true=>
    have HS:Hid (true=anyS (Ch.take (k2+1))):=dD<|by rw[HT.out];rfl
    clear he1 he2 he3;go_wp2
    go_roundg (8 -(k2+1))
    case measure=>omega
    exact⟨k2+1,true,by omega,by omega,by go_num,rfl,HS.out,rfl⟩
   | false=>
    have hidx:(8:Int)*(kk:Int)+(k2:Int)=((8*kk+k2:Nat):Int):=by omega
    have hi64:8*kk+k2<64:=by omega
    obtain⟨c0,_,_⟩:=HC.out _ e he2;obtain⟨ix,HIX⟩:∃ix,Hid (8*kk+k2=ix):=⟨_,rfl⟩;rw[HIX.out]at hidx hi64 c0;have hi64z:(ix:Int)<64:=by omega
    have x0:=XW.out.c _ c0;clear c0 he1 he2;obtain⟨B,HBB⟩:∃B,Hid (enS e=B):=⟨_,rfl⟩;have hB:decide (0<e.kind)=B:=by
     rw[<-HBB.out];unfold enS
     by_cases h:e.kind=0
     ·rw[h];rfl
     have:0<e.kind:=by omega
     rw[decide_eq_true this]
     simpa using h
    have HS:Hid (B=anyS (Ch.take (k2+1))):=dD<|by rw[HT.out,HBB.out];rfl
    clear he3;go_wp2
    go_roundg (8 -(k2+1))
    case measure=>omega
    exact⟨k2+1,B,by omega,by omega,by go_num,by first | rfl | rw[hB],HS.out,rfl⟩
  have hltz2:¬(k2:Int)<8:=by omega
  have:k2=8:=by omega
  subst this;have HSM:Hid (sm=anyS Ch):=dD<|by rw[AW2.out,List.take_of_length_le (by rw[HCL.out];exact nR _)]
  cases sm with
  | false=>
   have HMK:Hid (mk (chunk l kk)=[]):=dD<|by rw[HCH.out];unfold mk;rw[<-HSM.out,if_neg (by decide)]
   have HTK:Hid (t.set kk (mk (chunk l kk))=t):=dD<|by
    rw[HMK.out];refine set_same ?_;rw[MW.out.at' kk hlt,if_neg (Nat.lt_irrefl _)]
   have M2:Hid (Made l (kk+1) t):=dD<|by rw[<-HTK.out];exact made_step MW.out hlt
   go_wp2
   go_loopg [7] 1 (fun g3 s7 wr3=>1<=g3/\s7= .int .i64 0/\Hid (wr3=WB))
   case atStart=>exact⟨nR _,rfl,rfl⟩
   obtain⟨hg3,rfl,EW3⟩:=hrel;rw[EW3.out];go_wp2
   go_roundg (8 -(kk+1))
   case measure=>omega
   exact⟨kk+1,us,t,by omega,by omega,by go_num,BW.out,XW.out,YW.out,TW.out,SW.out,M2.out,show∀j,_ from fun j h1 h2=>NW.out j (by omega) h2⟩
  | true=>
   have HMK:Hid (mk (chunk l kk)=Ch):=dD<|by rw[HCH.out];unfold mk;rw[<-HSM.out,if_pos rfl]
   have HU8:Hid (us.length=8):=SW.out.len;go_wp2
   go_loopg [7] 8 (fun g3 s7 wr3=>∃(k3 c:Nat) (a:Option Addr),k3<=8/\8 - k3<=g3/\s7= .int .i64 k3/\Hid (Out (w.heap.size+2) (w.heap.size+3) WB wr3)/\Hid (Box wr3 (w.heap.size+2) (us.set kk (.slice a k3 c)))/\Hid (OwnRow enE WB.heap.size wr3 (.slice a k3 c) (Ch.take k3)))
   case atStart=>exact⟨0,0,none,nZ _,by omega,rfl,Out.refl _ _ _,by rw[set_same (NW.out kk (nR _) hlt)];exact TW.out,OwnRow.nil _ _ _⟩
   obtain⟨k3,c,a,hk3,hg3,rfl,OW3,TW3,RW3⟩:=hrel;have HLB:Hid (w.heap.size+3<=WB.heap.size):=TW.out.lt
   by_cases hlt3:k3<8
   ·have hltz3:(k3:Int)<8:=by omega
    obtain⟨e,he1,he2,_⟩:=HCA.out k3 hlt3;have hidx:(8:Int)*(kk:Int)+(k3:Int)=((8*kk+k3:Nat):Int):=by omega
    have hi64:8*kk+k3<64:=by omega
    obtain⟨c0,c1,c2⟩:=HC.out _ e he2;obtain⟨ix,HIX⟩:∃ix,Hid (8*kk+k3=ix):=⟨_,rfl⟩;rw[HIX.out]at hidx hi64 c0 c1 c2;have hi64z:(ix:Int)<64:=by omega
    have HTK:Hid (Ch.take (k3+1)=Ch.take k3++ [e]):=take_snoc he1;have HTL:Hid ((Ch.take k3).length=k3):=show _=_ by rw[List.length_take,HCL.out];omega
    have HXB:Hid (Box wr w.heap.size C):=XW.out.out OW3.out (by omega)
    have HYB:Hid (Box wr (w.heap.size+1) nil8):=YW.out.out OW3.out (by omega)
    have hgo:∀g,(Value.slice a k3 c).ownBlock=some g->WB.heap.size<=g/\g<wr.heap.size:=RW3.out.lt;have HGO:Hid (∀g,(Value.slice a k3 c).ownBlock=some g->WB.heap.size<=g/\g<wr.heap.size):=hgo;clear hgo he1 he2;obtain⟨w3,rfl⟩:∃w3,w3=wr:=⟨_,rfl⟩;obtain⟨I,HI⟩:∃I:World->Prop,Hid (∀u,I u↔(Box u w.heap.size C/\Box u (w.heap.size+1) nil8/\Box u (w.heap.size+2) (us.set kk (.slice a k3 c))/\Out (w.heap.size+2) (w.heap.size+3) WB u/\w3.heap.size<=u.heap.size)):=⟨fun u=>(Box u w.heap.size C/\Box u (w.heap.size+1) nil8/\Box u (w.heap.size+2) (us.set kk (.slice a k3 c))/\Out (w.heap.size+2) (w.heap.size+3) WB u/\w3.heap.size<=u.heap.size),fun _=>Iff.rfl⟩
    go_upto_region 13 with fail;have hxt:∀y:HoldI I,y.world.cell? ⟨w.heap.size+2,kk,none⟩=some (.slice a k3 c):=fun y=>((HI.out _).1 y.holds).2.2.1.c kk (sF (by rw[HU8.out];exact hlt))
    have hx0:∀y:HoldI I,y.world.cell? ⟨w.heap.size,ix*3,none⟩=some (.int .i64 e.kind):=fun y=>((HI.out _).1 y.holds).1.c _ c0
    have hx1:∀y:HoldI I,y.world.cell? ⟨w.heap.size,ix*3+1,none⟩=some (.int .i64 e.n):=fun y=>((HI.out _).1 y.holds).1.c _ c1
    have hx2:∀y:HoldI I,y.world.cell? ⟨w.heap.size,ix*3+2,none⟩=some (.bool e.wr):=fun y=>((HI.out _).1 y.holds).1.c _ c2
    have hI0:I w3.drew:=(HI.out _).2 ⟨HXB.out.grew (gW _),HYB.out.grew (gW _),TW3.out.grew (gW _),OW3.out.trans (Out.drew _),nR _⟩
    have hne:Nonempty (HoldI I):=⟨⟨_,hI0⟩⟩;clear c0 c1 c2;refine wp_lax_tailI (I:=I) 13 [(10,⟨fun v=>∃g,v= .slice (some ⟨g,0,none⟩) 1 1,fun v w'=>NewRow enE w3.heap.size w' v [e],fun p q=>Grew p q,fun _=>True⟩),(11,⟨fun v=>∃a' c',v= .slice a' (k3+1) c',fun v w'=>OwnRow enE WB.heap.size w' v (Ch.take k3++ [e]),fun p q=>p.grownBy q (Value.slice a k3 c).ownBlock,fun u=>OwnRow enE WB.heap.size u (.slice a k3 c) (Ch.take k3)⟩)] hI0 mixed (by kernel_rfl) rfl rfl (by decide) ?hS ?hp ?hpre ?hpr0 ?_
    case hS=>
     intro y hy
     simp at hy
     rcases hy with rfl|rfl
     ·exact⟨_,0,rfl⟩
     exact⟨_,none,0,rfl⟩
    case hp=>
     intro k s j t' hk hj hjk _ v p q hst hpo
     rcases look2 hk with⟨rfl,rfl⟩|⟨rfl,rfl⟩
     ·rcases look2 hj with⟨rfl,rfl⟩|⟨rfl,rfl⟩
      ·exact absurd rfl hjk
      have h1:NewRow enE w3.heap.size p v [e]:=hpo;exact⟨h1.1.beside hst (fun x n c' hx h=>by
       have h2:=h1.2 x n c' hx;have h3:=(HGO.out x.block h.symm).2
       omega),h1.2⟩
     rcases look2 hj with⟨rfl,rfl⟩|⟨rfl,rfl⟩
     ·exact OwnRow.grew hpo hst
     exact absurd rfl hjk
    case hpre=>
     intro j t' k s hj hk hjk p q hst hpr
     rcases look2 hj with⟨rfl,rfl⟩|⟨rfl,rfl⟩
     ·trivial
     rcases look2 hk with⟨rfl,rfl⟩|⟨rfl,rfl⟩
     ·exact OwnRow.grew hpr hst
     exact absurd rfl hjk
    case hpr0=>
     intro k t' hk
     rcases look2 hk with⟨rfl,rfl⟩|⟨rfl,rfl⟩
     ·trivial
     exact RW3.out.grew (gW _)
    simp only[List.take,List.drop];iterate 10 (refine laxI_quiet rfl rfl rfl (fun K hK=>?_);go_big_quiet_op;refine hK _ ?_;clear hK)
    refine laxI_spec rfl rfl (fun w' hI' hpr hF=>?_) (fun v1 hv=>?_)
    ·obtain⟨i1,i2,i3,i4,i5⟩:=(HI.out _).1 hI';have hnew:NewRow enE w3.heap.size (w'.alloc (.cells #[.int .i64 e.kind,.int .i64 e.n,.bool e.wr] 67)) (.slice (some ⟨w'.heap.size,0,none⟩) 1 1) [e]:=⟨one_row enE w' e _ _ rfl (by decide),fun x n c' hx=>by cases hx;exact i5⟩
     clear hxt hx0 hx1 hx2 hne;refine Does.step (v:= .slice (some ⟨w'.heap.size,0,none⟩) 1 1) (w':=w'.alloc (.cells #[.int .i64 e.kind,.int .i64 e.n,.bool e.wr] 67)) (by simp only[execOp];go_simp) ⟨(HI.out _).2 ⟨i1.alloc _,i2.alloc _,i3.alloc _,i4.trans (Out.grew (grew_alloc _ _)),nT i5 (bS (grew_alloc _ _))⟩,grew_alloc _ _,⟨_,rfl⟩,hnew⟩
    obtain⟨g10,rfl⟩:=hv;simp only[Act.put,sB,sS,sZ];refine laxI_spec rfl rfl (fun w' hI' hpr hF=>?_) (fun v1 hv=>?_)
    ·obtain⟨i1,i2,i3,i4,i5⟩:=(HI.out _).1 hI';have h10:NewRow enE w3.heap.size w' (.slice (some ⟨g10,0,none⟩) 1 1) [e]:=hF 10 (by kernel_rfl)
     have hpr':OwnRow enE WB.heap.size w' (.slice a k3 c) (Ch.take k3):=hpr;obtain⟨v',w2,hrun,ho,hgr,_⟩:=run_append_keeps (E:=enE) (w:=w') 61 hpr' (.slice (some ⟨g10,0,none⟩) 1 1) [e] h10.1 (by rw[HTL.out];show(k3+1)*24<=_;omega) i4.size
     obtain⟨a',c',rfl⟩:=ho.form;have hln:(Ch.take k3++ [e]).length=k3+1:=by rw[lA,HTL.out];rfl
     rw[hln]at ho hrun;have hne':∀b,b<w.heap.size+3->∀g,(Value.slice a k3 c).ownBlock=some g->b≠g:=fun b hb g hg=>by
      have:=(HGO.out g hg).1;have:=HLB.out;omega
     refine Does.step (v:= .slice a' (k3+1) c') (w':=w2) ?_ ⟨(HI.out _).2 ⟨i1.beside hgr (hne' _ (by omega)),i2.beside hgr (hne' _ (by omega)),i3.beside hgr (hne' _ (by omega)),⟨hgr.os.trans i4.os,hgr.tape.trans i4.tape,hgr.output.trans i4.output,nT i4.size hgr.size,fun k hk hb=>(hgr.block k (Nat.lt_of_lt_of_le hk i4.size) (fun h=>by have:=(HGO.out k h.symm).1;omega)).trans (i4.block k hk hb)⟩,nT i5 hgr.size⟩,hgr,⟨a',c',rfl⟩,ho⟩
     simp only[execOp,resolve,invoke,builtin,pure_bind,Sem.run_bind,Sem.run_pure,List.map_toArray,mP,List.map_nil];exact Eq.trans (congrArg (fun r=>Result.andThen r (fun a w'=>Result.ok (Next.value a) w')) hrun) rfl
    obtain⟨a11,c11,rfl⟩:=hv;simp only[Act.put,sB,sS,sZ];iterate 1 (refine laxI_quiet rfl rfl rfl (fun K hK=>?_);go_big_quiet_op;refine hK _ ?_;clear hK)
    refine laxI_nil fun W4 hI4 hF=>?_
    have o11:OwnRow enE WB.heap.size W4 (.slice a11 (k3+1) c11) (Ch.take k3++ [e]):=hF 11;obtain⟨i1,i2,i3,i4,i5⟩:=(HI.out _).1 hI4;have O4:Hid (OwnRow enE WB.heap.size W4 (.slice a11 (k3+1) c11) (Ch.take (k3+1))):=dD<|by rw[HTK.out];exact o11
    have T4:Hid (Box W4 (w.heap.size+2) (us.set kk (.slice a k3 c))):=i3;have Out4:Hid (Out (w.heap.size+2) (w.heap.size+3) WB W4):=i4;clear hF hxt hx0 hx1 hx2 hI4 hne hI0 o11 i1 i2 i3 i4 i5;have t0:=T4.out.c kk (sF (by rw[HU8.out];exact hlt))
    have tf:=T4.out.f;go_upto_region 12 with fail;have T5:Hid (Box (W4.setCell ⟨w.heap.size+2,kk,none⟩ (.slice a11 (k3+1) c11)) (w.heap.size+2) (us.set kk (.slice a11 (k3+1) c11))):=dD<|by
     have:=T4.out.set kk (.slice a11 (k3+1) c11);rw[List.set_set]at this;exact this
    have O5:Hid (OwnRow enE WB.heap.size (W4.setCell ⟨w.heap.size+2,kk,none⟩ (.slice a11 (k3+1) c11)) (.slice a11 (k3+1) c11) (Ch.take (k3+1))):=O4.out.setCell (by have:=HLB.out;simp;omega) _
    have Out5:Hid (Out (w.heap.size+2) (w.heap.size+3) WB (W4.setCell ⟨w.heap.size+2,kk,none⟩ (.slice a11 (k3+1) c11))):=Out4.out.trans (Out.setCell _ _ _ (p:=⟨w.heap.size+2,kk,none⟩) (nR _) (Nat.lt_succ_self _) _);clear t0 tf;go_wp2
    go_roundg (8 -(k3+1))
    case measure=>omega
    exact⟨k3+1,c11,a11,by omega,by omega,by go_num,Out5.out,T5.out,O5.out⟩
   have hltz3:¬(k3:Int)<8:=by omega
   have:k3=8:=by omega
   subst this;have R8:Hid (OwnRow enE WB.heap.size wr (.slice a 8 c) Ch):=dD<|by
    have:=RW3.out;rw[List.take_of_length_le (by rw[HCL.out];exact nR _)]at this
    exact this
   have S9:Hid (TabS 0 (w.heap.size+3) wr (us.set kk (.slice a 8 c)) (t.set kk Ch)):=dD<|⟨by simp[HU8.out],by simp[MW.out.len],fun j v h hv hh=>by
    by_cases e:j=kk
    ·subst e;rw[sF (by rw[HU8.out];exact hlt)]at hv
     rw[sF (by rw[MW.out.len];exact hlt)]at hh
     cases hv;cases hh;exact R8.out.new.stays.less (nZ _) HLB.out
    rw[sN (fun h=>e h.symm)]at hv hh
    exact(SW.out.row j v h hv hh).out (OW3.out.wide (by omega) (by omega))⟩
   have M9:Hid (Made l (kk+1) (t.set kk Ch)):=dD<|by rw[<-HMK.out];exact made_step MW.out hlt
   have X9:Hid (Box wr w.heap.size C):=XW.out.out OW3.out (by omega)
   have Y9:Hid (Box wr (w.heap.size+1) nil8):=YW.out.out OW3.out (by omega)
   have G9:Hid (Grew w wr):=dD<|Out.grew_of BW.out (by omega) OW3.out
   have N9:Hid (∀j,kk+1<=j->j<8->(us.set kk (.slice a 8 c))[j]? =some (.slice none 0 0)):=dD<|fun j h1 h2=>by rw[sN (by omega)];exact NW.out j (by omega) h2
   go_wp2
   go_roundg (8 -(kk+1))
   case measure=>omega
   exact⟨kk+1,_,_,by omega,by omega,by go_num,G9.out,X9.out,Y9.out,TW3.out,S9.out,M9.out,N9.out⟩
 have hltz:¬(kk:Int)<8:=by omega
 have:kk=8:=by omega
 subst this;have SE:Hid (TabS 0 (w.heap.size+3) wr us TT):=dD<|by rw[<-HTT.out,<-made_all MW.out];exact SW.out
 have HU8:Hid (us.length=8):=SW.out.len
 go_wp2_with (first | refine wp_loadTab rfl (.tmp 3) rfl (w.heap.size+2) rfl TW.out HU8.out ?_ | refine wp_storeAll rfl 63 (.tmp 2) (.tmp 47) rfl (w.heap.size+1) rfl us rfl YW.out HU8.out Tryz.sizeTable SE.out.one ?_)
 intro W3 b3 g3 s3;have G3:Hid (Grew w W3):=dD<|grew_grown BW.out g3 (by simp)
 have B3:Hid (Box W3 (w.heap.size+1) us):=b3;have T3:Hid (TabS 0 w.heap.size W3 us TT):=(SE.out.out (Out.grown g3 (fun g h=>by cases h;omega))).less (nR _) (by omega)
 clear b3 g3 s3;go_wp2;refine bodyPost_ret (ret_cell rfl _ rfl B3.out underlying63 rfl (by rw[HU8.out];exact Tryz.sizeTable)) rfl ⟨us,rfl,T3.out,G3.out⟩
theorem build_any (F S B:Int) (nf ns nb:Nat) (hnf:max (min F 40) 0=(nf:Int)) (hns:max (min S 60) 0=(ns:Int)) (hnb:max (min B 80) 0=(nb:Int)) (vl:Sli) (L:List Int) (w:World) (lr:RowAt byE w (.slice vl.a vl.n vl.c) L) (lc:vl.n<=vl.c) (lb:∀z∈L,0<=z/\z<256):
  Calls prog 8 #[.int .i64 F,.int .i64 S,.int .i64 B,.slice vl.a vl.n vl.c] w fun e w'=>∃(V:MaV) (m:Ma) (T:List (Nat->En)) (hd:Int) (hi ht:Nat) (vt:Sli),e= .returned (.agg #[.slice V.f.a V.f.n V.f.c,.int .i64 hd,.slice V.s.a V.s.n V.s.c,.slice V.sb.a V.sb.n V.sb.c,.slice V.sq.a V.sq.n V.sq.c,.slice V.db.a V.db.n V.db.c,.slice V.dq.a V.dq.n V.dq.c,.slice V.fl.a V.fl.n V.fl.c,.int .i64 m.cnt,.slice V.ca.a V.ca.n V.ca.c,.slice V.sp.a V.sp.n V.sp.c])/\Built w nf ns nb L w' V m T hd hi ht vt:=by
 have hnf40:nf<=40:=by omega
 have hns60:ns<=60:=by omega
 have hnb80:nb<=80:=by omega
 obtain⟨W0,hW0⟩:∃W0,(w.alloc (.cells #[.slice none 0 0,.int .i64 0,.slice none 0 0,.slice none 0 0,.slice none 0 0,.slice none 0 0,.slice none 0 0,.slice none 0 0,.int .i64 0,.slice none 0 0,.slice none 0 0] 40)).alloc (.cells #[.slice vl.a vl.n vl.c,.slice none 0 0,.int .i64 0,.slice none 0 0,.slice none 0 0,.slice none 0 0,.slice none 0 0,.slice none 0 0,.slice none 0 0,.int .i64 0,.slice none 0 0,.slice none 0 0,.slice none 0 0] 87)=W0:=⟨_,rfl⟩;have G0:=gD2 hW0
 have X0:Hid (BoxT W0 w.heap.size 40 [.slice none 0 0,.int .i64 0,.slice none 0 0,.slice none 0 0,.slice none 0 0,.slice none 0 0,.slice none 0 0,.slice none 0 0,.int .i64 0,.slice none 0 0,.slice none 0 0]):=dD<|by rw[<-hW0];exact(BoxT.top _ [.slice none 0 0,.int .i64 0,.slice none 0 0,.slice none 0 0,.slice none 0 0,.slice none 0 0,.slice none 0 0,.slice none 0 0,.int .i64 0,.slice none 0 0,.slice none 0 0] _ rfl).grew (grew_alloc _ _)
 have Y0:Hid (BoxT W0 (w.heap.size+1) 87 [.slice vl.a vl.n vl.c,.slice none 0 0,.int .i64 0,.slice none 0 0,.slice none 0 0,.slice none 0 0,.slice none 0 0,.slice none 0 0,.slice none 0 0,.int .i64 0,.slice none 0 0,.slice none 0 0,.slice none 0 0]):=dD<|by rw[<-hW0];exact BoxT.top _ [.slice vl.a vl.n vl.c,.slice none 0 0,.int .i64 0,.slice none 0 0,.slice none 0 0,.slice none 0 0,.slice none 0 0,.slice none 0 0,.slice none 0 0,.int .i64 0,.slice none 0 0,.slice none 0 0,.slice none 0 0] _ (by simp)
 have HW0:Hid (_=W0):=hW0;have HLR:Hid (RowAt byE w (.slice vl.a vl.n vl.c) L):=lr;have HLC:Hid (vl.n<=vl.c):=lc;have HLB:Hid (∀z∈L,0<=z/\z<256):=show∀z,_ from lb
 clear hW0 lr lc lb
 go_enter func8,ntmps8
 go_upto_region 3 with fail;rw[HW0.out];try rw[hnf]
 try rw[hns]
 try rw[hnb]
 clear hnf hns hnb;obtain⟨b,HBB⟩:∃b,Hid (w.heap.size+1=b):=⟨_,rfl⟩;rw[HBB.out]at Y0⊢;obtain⟨I,HI⟩:∃I:World->Prop,Hid (∀u,I u↔Grew W0 u):=⟨fun u=>Grew W0 u,fun _=>Iff.rfl⟩
 have hI0:I W0.drew:=(HI.out _).2 (gW _)
 have hne:Nonempty (HoldI I):=⟨⟨_,hI0⟩⟩;refine wp_lax_tailJ (I:=I) (J:=JB nf ns nb) 17 [(2,⟨fun v=>∃g,v= .slice (some ⟨g,0,none⟩) nf nf,fun v u=>OwnRow frmE w.heap.size u v (List.replicate nf fr0),fun p q=>Grew p q,fun _=>True⟩),(5,⟨fun v=>∃g,v= .slice (some ⟨g,0,none⟩) ns ns,fun v u=>OwnRow slE w.heap.size u v (List.replicate ns 0),fun p q=>Grew p q,fun _=>True⟩),(7,⟨fun v=>∃g,v= .slice (some ⟨g,0,none⟩) ns ns,fun v u=>OwnPages w.heap.size u v (List.replicate ns zero8),fun p q=>Grew p q,fun _=>True⟩),(10,⟨fun v=>∃g,v= .slice (some ⟨g,0,none⟩) nb nb,fun v u=>OwnPages w.heap.size u v (List.replicate nb zero8),fun p q=>Grew p q,fun _=>True⟩)] hI0 ?hJ0 ?hJq ?hJs ?hJu mixed (by kernel_rfl) rfl rfl (by decide) ?hS ?hp ?hpre ?hpr0 ?_
 case hJ0=>
  refine⟨⟨rfl,rfl,rfl⟩,fun s hs=> .inl ?_,fun s hs x n c he=>?_,fun s hs t ht hst x n c y n' c' he=>?_⟩
  ·simp only[mC,nM,or_false]at hs
   rcases hs with rfl|rfl|rfl|rfl <;> rfl
  ·simp only[mC,nM,or_false]at hs
   rcases hs with rfl|rfl <;> cases he
  simp only[mC,nM,or_false]at hs
  rcases hs with rfl|rfl <;> cases he
 case hJq=>
  intro j o hj hS a v u hr hJ;exact hJ.quiet (okL_spec (Sx:=[2,5,7,10]) (by kernel_rfl) hj (lookup_out hS)) (by omega) (by omega) hnb80 hr
 case hJs=>
  intro j o s hj hs a u K hJ hI hd;have hs':=lookup_in hs;clear hs;simp only[mC,pJ,nM,or_false]at hs'
  rcases hs' with⟨rfl,rfl⟩|⟨rfl,rfl⟩|⟨rfl,rfl⟩|⟨rfl,rfl⟩
  ·cases hj;obtain⟨i0,hi,hz0,hz1,hz2⟩:=info_parts frmE.info;exact hJ.make 25 59 i0 _ 32 rfl (by simp) frmE.und hi hz0 (by rw[hz2];decide) (by decide) hd
  ·cases hj;obtain⟨i0,hi,hz0,hz1,hz2⟩:=info_parts slE.info;exact hJ.make 29 3 i0 _ 35 rfl (by simp) slE.und hi hz0 (by rw[hz2];decide) (by decide) hd
  ·cases hj;obtain⟨i0,hi,hz0,hz1,hz2⟩:=info_parts Tryz.infoPage;exact hJ.make 30 50 i0 _ 37 rfl (by simp) underlying30 hi hz0 (by rw[hz2];decide) (by decide) hd
  cases hj;obtain⟨i0,hi,hz0,hz1,hz2⟩:=info_parts Tryz.infoPage;exact hJ.make 30 50 i0 _ 40 rfl (by simp) underlying30 hi hz0 (by rw[hz2];decide) (by decide) hd
 case hJu=>
  intro j o hj a u hJ;exact hJ.undef (okD_spec (by kernel_rfl) hj)
 case hS=>
  intro x hx;simp only[mC,nM,or_false]at hx
  rcases hx with rfl|rfl|rfl|rfl <;> exact⟨_,0,rfl⟩
 case hp=>
  intro k s j t hk hj hjk hanc v p q hst hpo;have hk':=lookup_in hk;have hj':=lookup_in hj;clear hk hj;simp only[mC,pJ,nM,or_false]at hk' hj';have hg:Grew p q:=by rcases hj' with⟨rfl,rfl⟩ | ⟨rfl,rfl⟩ | ⟨rfl,rfl⟩ | ⟨rfl,rfl⟩ <;> exact hst
  rcases hk' with⟨rfl,rfl⟩|⟨rfl,rfl⟩|⟨rfl,rfl⟩|⟨rfl,rfl⟩
  ·exact OwnRow.grew hpo hg
  ·exact OwnRow.grew hpo hg
  ·exact OwnPages.grew hpo hg
  exact OwnPages.grew hpo hg
 case hpre=>
  intro j t k s hj hk hjk p q hst hpr;have hj':=lookup_in hj;clear hk hj;simp only[mC,pJ,nM,or_false]at hj'
  rcases hj' with⟨rfl,rfl⟩|⟨rfl,rfl⟩|⟨rfl,rfl⟩|⟨rfl,rfl⟩ <;> trivial
 case hpr0=>
  intro k t hk;have hk':=lookup_in hk;clear hk;simp only[mC,pJ,nM,or_false]at hk'
  rcases hk' with⟨rfl,rfl⟩|⟨rfl,rfl⟩|⟨rfl,rfl⟩|⟨rfl,rfl⟩ <;> trivial
 simp only[List.take,List.drop];iterate 2 (refine laxI_quiet rfl rfl rfl (fun K hK=>?_);go_big_quiet_op;refine hK _ ?_;clear hK)
 refine laxI_spec rfl rfl (fun w' hI' hpr hF=>?_) (fun v1 hv=>?_)
 ·have hg:=(HI.out _).1 hI';exact does_make_row frmE w' nf (by show nf*40<=_;omega) (.tmp 32) rfl rfl (fun C ho=>⟨(HI.out _).2 (hg.trans (grew_alloc _ _)),grew_alloc _ _,⟨_,rfl⟩,ho.base (nT (bS G0.out) (bS hg))⟩)
 obtain⟨gf,rfl⟩:=hv;simp only[Act.put,sB,sS,sZ];iterate 2 (refine laxI_quiet rfl rfl rfl (fun K hK=>?_);go_big_quiet_op;refine hK _ ?_;clear hK)
 refine laxI_spec rfl rfl (fun w' hI' hpr hF=>?_) (fun v1 hv=>?_)
 ·have hg:=(HI.out _).1 hI';exact does_make_row slE w' ns (by show ns*8<=_;omega) (.tmp 35) rfl rfl (fun C ho=>⟨(HI.out _).2 (hg.trans (grew_alloc _ _)),grew_alloc _ _,⟨_,rfl⟩,ho.base (nT (bS G0.out) (bS hg))⟩)
 obtain⟨gl,rfl⟩:=hv;simp only[Act.put,sB,sS,sZ];iterate 1 (refine laxI_quiet rfl rfl rfl (fun K hK=>?_);go_big_quiet_op;refine hK _ ?_;clear hK)
 refine laxI_spec rfl rfl (fun w' hI' hpr hF=>?_) (fun v1 hv=>?_)
 ·have hg:=(HI.out _).1 hI';exact does_make_pages w' ns (by omega) (.tmp 37) rfl rfl (fun C ho=>⟨(HI.out _).2 (hg.trans (grew_alloc _ _)),grew_alloc _ _,⟨_,rfl⟩,ho.base (nT (bS G0.out) (bS hg))⟩)
 obtain⟨gsb,rfl⟩:=hv;simp only[Act.put,sB,sS,sZ];iterate 2 (refine laxI_quiet rfl rfl rfl (fun K hK=>?_);go_big_quiet_op;refine hK _ ?_;clear hK)
 refine laxI_spec rfl rfl (fun w' hI' hpr hF=>?_) (fun v1 hv=>?_)
 ·have hg:=(HI.out _).1 hI';exact does_make_pages w' nb hnb80 (.tmp 40) rfl rfl (fun C ho=>⟨(HI.out _).2 (hg.trans (grew_alloc _ _)),grew_alloc _ _,⟨_,rfl⟩,ho.base (nT (bS G0.out) (bS hg))⟩)
 obtain⟨gdb,rfl⟩:=hv;simp only[Act.put,sB,sS,sZ];iterate 4 (refine laxI_quiet rfl rfl rfl (fun K hK=>?_);go_big_quiet_op;refine hK _ ?_;clear hK)
 refine laxI_nilc (.tmp 31) ⟨b,0,none⟩ rfl rfl rfl rfl ?_;simp only[Act.put,sB,sS,sZ];iterate 1 (refine laxI_quiet rfl rfl rfl (fun K hK=>?_);go_big_quiet_op;refine hK _ ?_;clear hK)
 refine laxI_nil fun W1 hI1 hF hJ=>?_
 have hap:gsb≠gdb:=hJ.2.2.2 38 (by simp) 41 (by simp) (by decide) ⟨gsb,0,none⟩ ns ns ⟨gdb,0,none⟩ nb nb rfl rfl
 have o1:OwnRow frmE w.heap.size W1 (.slice (some ⟨gf,0,none⟩) nf nf) (List.replicate nf fr0):=hF 2;have o2:OwnRow slE w.heap.size W1 (.slice (some ⟨gl,0,none⟩) ns ns) (List.replicate ns 0):=hF 5;have o3:OwnPages w.heap.size W1 (.slice (some ⟨gsb,0,none⟩) ns ns) (List.replicate ns zero8):=hF 7;have o4:OwnPages w.heap.size W1 (.slice (some ⟨gdb,0,none⟩) nb nb) (List.replicate nb zero8):=hF 10;have g1:=(HI.out _).1 hI1;have Y1:=dD (Y0.out.grew g1);have X1:=dD (X0.out.grew g1);have G1:=dD (G0.out.trans g1);clear hF hJ hI1 hI0 hne g1;refine wp_storeMidT rfl 40 (.tmp 47) (.tmp 45) rfl b 1 rfl [.slice (some ⟨gf,0,none⟩) nf nf,.int .i64 0,.slice (some ⟨gl,0,none⟩) ns ns,.slice (some ⟨gsb,0,none⟩) ns ns,.slice none 0 0,.slice (some ⟨gdb,0,none⟩) nb nb,.slice none 0 0,.slice none 0 0,.int .i64 (nb:Int),.slice none 0 0,.slice none 0 0] rfl Y1.out (by simp) (by kernel_rfl) (fun v hv=>by simp only[mC,nM,or_false]at hv;rcases hv with rfl | rfl | rfl | rfl | rfl | rfl | rfl | rfl | rfl | rfl | rfl <;> rfl) ?_
 intro W2 hb2 hg2 hs2;have B2:BoxT W2 b 87 [.slice vl.a vl.n vl.c,.slice (some ⟨gf,0,none⟩) nf nf,.int .i64 0,.slice (some ⟨gl,0,none⟩) ns ns,.slice (some ⟨gsb,0,none⟩) ns ns,.slice none 0 0,.slice (some ⟨gdb,0,none⟩) nb nb,.slice none 0 0,.slice none 0 0,.int .i64 (nb:Int),.slice none 0 0,.slice none 0 0,.slice none 0 0]:=hb2;have M2:Hid (Mk w W2.heap.size W2 b vl L ⟨⟨some ⟨gf,0,none⟩,nf,nf⟩,⟨some ⟨gl,0,none⟩,ns,ns⟩,⟨some ⟨gsb,0,none⟩,ns,ns⟩,sli0,⟨some ⟨gdb,0,none⟩,nb,nb⟩,sli0,sli0,sli0,sli0⟩ ⟨List.replicate nf fr0,0,List.replicate ns 0,List.replicate ns zero8,[],List.replicate nb zero8,[],[],nb,[],[]⟩ sli0 []):=mk_start (grew_grown G1.out hg2 (by have:=HBB.out;omega)) (by have:=HBB.out;omega) B2 HLR.out HLC.out HLB.out (o1.kind hg2 Y1.out (by decide)) (o2.kind hg2 Y1.out (by decide)) ⟨ownsRow_kind o3.1 hg2 Y1.out (by decide),o3.2⟩ ⟨ownsRow_kind o4.1 hg2 Y1.out (by decide),o4.2⟩ hap
 have X2:Hid (BoxT W2 w.heap.size 40 [.slice none 0 0,.int .i64 0,.slice none 0 0,.slice none 0 0,.slice none 0 0,.slice none 0 0,.slice none 0 0,.slice none 0 0,.int .i64 0,.slice none 0 0,.slice none 0 0]):=X1.out.beside hg2 (fun g e=>by cases e;have:=HBB.out;omega)
 clear hb2 hg2 hs2 o1 o2 o3 o4 hap;obtain⟨hi,HHI⟩:∃hi,Hid (W2.heap.size=hi):=⟨_,rfl⟩;rw[HHI.out]at M2;try simp only[Act.put]
 have x1:=M2.out.box.box.c 1 rfl;go_wp2;clear x1
 go_loopg [55] nf (fun gg s55 wr=>∃kk:Nat,kk<=nf/\nf - kk<=gg/\s55= .int .i64 kk/\Hid (Mk w hi wr b vl L ⟨⟨some ⟨gf,0,none⟩,nf,nf⟩,⟨some ⟨gl,0,none⟩,ns,ns⟩,⟨some ⟨gsb,0,none⟩,ns,ns⟩,sli0,⟨some ⟨gdb,0,none⟩,nb,nb⟩,sli0,sli0,sli0,sli0⟩ ⟨fsTo nf kk,0,List.replicate ns 0,List.replicate ns zero8,[],List.replicate nb zero8,[],[],nb,[],[]⟩ sli0 [])/\Hid (BoxT wr w.heap.size 40 [.slice none 0 0,.int .i64 0,.slice none 0 0,.slice none 0 0,.slice none 0 0,.slice none 0 0,.slice none 0 0,.slice none 0 0,.int .i64 0,.slice none 0 0,.slice none 0 0]))
 case atStart=>exact⟨0,nZ _,by omega,rfl,by rw[fsTo_zero];exact M2.out,X2.out⟩
 obtain⟨kk,hkk,hgg,rfl,MW,XW⟩:=hrel
 by_cases hlt:kk<nf
 ·have hltz:(kk:Int)< (nf:Int):=by omega
  have x1:=MW.out.box.box.c 1 rfl;have R:Hid (OwnRow frmE w.heap.size wr (.slice (some ⟨gf,0,none⟩) nf nf) (fsTo nf kk)):=MW.out.rows.fs;have d:wr.cell? ⟨gf,kk*13+11,none⟩=some (.int .i64 0):=by
   have:=R.out.one (fsTo_at hlt) 11 _ rfl;rw[add_add',Addr.add_lit,zA]at this;exact this
  have xf:=R.out.unfrozen rfl;obtain⟨ow,gr,sz⟩:=R.out.cell (k:=kk) (o:=11) rfl (fsTo_at hlt) (y:=frF) (u:= .int .i64 (-1)) rfl (by decide)
  rw[fsTo_set hlt]at ow;have hM:=MW.out.setF rfl gr sz ow;have M3:Hid (Mk w hi (wr.setCell ⟨gf,kk*13+11,none⟩ (.int .i64 (-1))) b vl L ⟨⟨some ⟨gf,0,none⟩,nf,nf⟩,⟨some ⟨gl,0,none⟩,ns,ns⟩,⟨some ⟨gsb,0,none⟩,ns,ns⟩,sli0,⟨some ⟨gdb,0,none⟩,nb,nb⟩,sli0,sli0,sli0,sli0⟩ ⟨fsTo nf (kk+1),0,List.replicate ns 0,List.replicate ns zero8,[],List.replicate nb zero8,[],[],nb,[],[]⟩ sli0 []):=hM.1;have X3:Hid (BoxT (wr.setCell ⟨gf,kk*13+11,none⟩ (.int .i64 (-1))) w.heap.size 40 [.slice none 0 0,.int .i64 0,.slice none 0 0,.slice none 0 0,.slice none 0 0,.slice none 0 0,.slice none 0 0,.slice none 0 0,.int .i64 0,.slice none 0 0,.slice none 0 0]):=hM.2.1 _ _ _ XW.out ⟨by decide,by decide,by decide,by decide,by decide,by decide,by decide,by decide,fun h=>absurd h (by decide)⟩
  clear hM ow gr sz;go_wp2
  go_roundg (nf -(kk+1))
  case measure=>omega
  exact⟨kk+1,by omega,by omega,by go_num,M3.out,X3.out⟩
 have hltz:¬(kk:Int)< (nf:Int):=by omega
 obtain rfl:nf=kk:=by omega
 rw[fsTo_all]at MW;have hpk:=pick_any 3 MW.out;go_wp2_with fail;refine hpk.mono ?_;clear hpk;rintro e W3 ⟨vl1,L1,y,rfl,mk1,gr1,sz1,y0,y1,yn,ll⟩;obtain⟨c,rfl⟩:∃c:Nat,y=(c:Int):=⟨y.toNat,by omega⟩
 have hc3:c<3:=by rcases y1 with h | h <;> omega
 have HC0:Hid (L=[]->c=0):=dD<|fun e=>by have:=yn e;omega
 have M3:Hid (Mk w hi W3 b vl1 L1 ⟨⟨some ⟨gf,0,none⟩,nf,nf⟩,⟨some ⟨gl,0,none⟩,ns,ns⟩,⟨some ⟨gsb,0,none⟩,ns,ns⟩,sli0,⟨some ⟨gdb,0,none⟩,nb,nb⟩,sli0,sli0,sli0,sli0⟩ ⟨List.replicate nf frF,0,List.replicate ns 0,List.replicate ns zero8,[],(List.replicate nb zero8),[],[],nb,[],[]⟩ sli0 []):=mk1;have X3:Hid (BoxT W3 w.heap.size 40 [.slice none 0 0,.int .i64 0,.slice none 0 0,.slice none 0 0,.slice none 0 0,.slice none 0 0,.slice none 0 0,.slice none 0 0,.int .i64 0,.slice none 0 0,.slice none 0 0]):=XW.out.beside gr1 (fun g e=>by cases e;have:=HBB.out;omega)
 have LL3:Hid (Less L L1):=ll;clear mk1 gr1 sz1 y0 y1 yn ll;go_wp2
 go_loopg [70] c (fun gg s70 wr=>∃(k2:Nat) (vl':Sli) (L':List Int) (sd sf:Sli) (db:List (List Int)) (dq:List (Int × List Int)) (fl:List Fl),k2<=c/\c - k2<=gg/\s70= .int .i64 k2/\Hid (Mk w hi wr b vl' L' ⟨⟨some ⟨gf,0,none⟩,nf,nf⟩,⟨some ⟨gl,0,none⟩,ns,ns⟩,⟨some ⟨gsb,0,none⟩,ns,ns⟩,sli0,⟨some ⟨gdb,0,none⟩,nb,nb⟩,sd,sf,sli0,sli0⟩ ⟨List.replicate nf frF,0,List.replicate ns 0,List.replicate ns zero8,[],db,dq,fl,nb,[],[]⟩ sli0 [])/\Hid (Less L L')/\Hid (BoxT wr w.heap.size 40 [.slice none 0 0,.int .i64 0,.slice none 0 0,.slice none 0 0,.slice none 0 0,.slice none 0 0,.slice none 0 0,.slice none 0 0,.int .i64 0,.slice none 0 0,.slice none 0 0])/\Hid (FInv fl nb db dq []/\fl.length<=k2/\db.length=nb/\∀f∈fl,f.size<40)/\Hid (k2=0->fl=[]/\dq=[]/\db=List.replicate nb zero8))
 case atStart=>exact⟨0,vl1,L1,sli0,sli0,_,_,_,nZ _,by omega,rfl,M3.out,LL3.out,X3.out,(show _/\_ from⟨FInv.zero hnb80,nZ _,lR,fun f hf=>(by cases hf)⟩),(fun _=>⟨rfl,rfl,rfl⟩)⟩
 obtain⟨k2,vl2,L2,sd,sf,db,dq,fl,hk2,hg2,rfl,MW,LW,XW,FW,ZW⟩:=hrel
 by_cases hlt2:k2<c
 ·have hltz2:(k2:Int)< (c:Int):=by omega
  have hpk2:=pick_any 40 MW.out;go_wp2_with fail;refine hpk2.mono ?_;clear hpk2;rintro e W4 ⟨vl4,L4,sz,rfl,mk4,gr4,-,s0,s1,-,ll4⟩;have hsz:sz<40:=by rcases s1 with h|h <;> omega
  have M4:Hid (Mk w hi W4 b vl4 L4 ⟨⟨some ⟨gf,0,none⟩,nf,nf⟩,⟨some ⟨gl,0,none⟩,ns,ns⟩,⟨some ⟨gsb,0,none⟩,ns,ns⟩,sli0,⟨some ⟨gdb,0,none⟩,nb,nb⟩,sd,sf,sli0,sli0⟩ ⟨List.replicate nf frF,0,List.replicate ns 0,List.replicate ns zero8,[],db,dq,fl,nb,[],[]⟩ sli0 []):=mk4;have X4:Hid (BoxT W4 w.heap.size 40 [.slice none 0 0,.int .i64 0,.slice none 0 0,.slice none 0 0,.slice none 0 0,.slice none 0 0,.slice none 0 0,.slice none 0 0,.int .i64 0,.slice none 0 0,.slice none 0 0]):=XW.out.beside gr4 (fun g e=>by cases e;have:=HBB.out;omega)
  have LL4:=dD (LW.out.trans ll4);clear mk4 gr4 ll4 s1;go_upto_region 12 with fail;obtain⟨pf,HPF⟩:∃pf,Hid (W4.heap.size=pf):=⟨_,rfl⟩;obtain⟨W5,hW5⟩:∃W5,W4.alloc (.cells #[.int .i64 sz,.slice none 0 0] 71)=W5:=⟨_,rfl⟩;have g5:=gP hW5
  have P5:=xPT hW5 HPF
  have M5:=dD (M4.out.grew g5);have X5:=dD (X4.out.grew g5);have FB5:Hid (FlB w.heap.size hi pf W5 ⟨⟨some ⟨gf,0,none⟩,nf,nf⟩,⟨some ⟨gl,0,none⟩,ns,ns⟩,⟨some ⟨gsb,0,none⟩,ns,ns⟩,sli0,⟨some ⟨gdb,0,none⟩,nb,nb⟩,sd,sf,sli0,sli0⟩ ⟨List.replicate nf frF,0,List.replicate ns 0,List.replicate ns zero8,[],db,dq,fl,nb,[],[]⟩):=show FlB _ _ _ _ _ _ by rw[<-HPF.out];exact M4.out.rows.flB.grew g5
  have HHP:Hid (hi<=pf):=dD<|by rw[<-HPF.out];exact M4.out.rows.hw
  have HFN:Hid (∀g,(Value.slice sf.a sf.n sf.c).ownBlock=some g->g<pf):=dD<|fun g hg=>by rw[<-HPF.out];obtain⟨xs,q1,-,-⟩:=M4.out.rows.fl;exact(q1.lt g hg).2
  rw[hW5,HPF.out];clear hW5 g5;have p0:=P5.out.box.c 0 rfl;have hcn:=refCount_any sz W5 s0 (by omega)
  go_wp2_with fail;refine hcn.mono ?_;clear hcn p0;rintro e W6 ⟨rfl,hw6⟩;rw[hw6];clear hw6;have HC9:Hid (cntP sz<=5):=dD<|by unfold cntP;split <;> omega
  obtain⟨N3,HN3⟩:∃N3:Nat,Hid (cntP sz=(N3:Int)):=⟨(cntP sz).toNat,show _=_ by unfold cntP;split <;> omega⟩
  rw[HN3.out];have HSZ:Hid (0<=sz/\sz<40):=dD<|⟨s0,hsz⟩
  have hN35:N3<=5:=by have:=HC9.out;have:=HN3.out;omega
  have F5:Hid (FC w hi b W5 vl4 L4 ⟨⟨some ⟨gf,0,none⟩,nf,nf⟩,⟨some ⟨gl,0,none⟩,ns,ns⟩,⟨some ⟨gsb,0,none⟩,ns,ns⟩,sli0,⟨some ⟨gdb,0,none⟩,nb,nb⟩,sd,sf,sli0,sli0⟩ ⟨List.replicate nf frF,0,List.replicate ns 0,List.replicate ns zero8,[],db,dq,fl,nb,[],[]⟩ pf sz sli0 []):=dD<|⟨M5.out,HHP.out,FB5.out,HFN.out,P5.out,OwnRow.nil _ _ _⟩
  have HF0:Hid (FInv fl nb db dq []/\db.length=nb):=dD<|⟨FW.out.1,FW.out.2.2.1⟩
  have HF40:Hid (∀f∈fl,f.size<40):=dD<|FW.out.2.2.2
  have HFL:Hid (fl.length<=k2):=dD<|FW.out.2.1
  clear s0 hsz;go_wp2
  go_loopg [78] N3 (fun gg s78 wr=>∃(k3:Nat) (vl':Sli) (L':List Int) (sd' bs:Sli) (db':List (List Int)) (dq':List (Int × List Int)) (bl:List Int),k3<=N3/\N3 - k3<=gg/\s78= .int .i64 k3/\Hid (FC w hi b wr vl' L' ⟨⟨some ⟨gf,0,none⟩,nf,nf⟩,⟨some ⟨gl,0,none⟩,ns,ns⟩,⟨some ⟨gsb,0,none⟩,ns,ns⟩,sli0,⟨some ⟨gdb,0,none⟩,nb,nb⟩,sd',sf,sli0,sli0⟩ ⟨List.replicate nf frF,0,List.replicate ns 0,List.replicate ns zero8,[],db',dq',fl,nb,[],[]⟩ pf sz bs bl)/\Hid (Less L L')/\Hid (BoxT wr w.heap.size 40 [.slice none 0 0,.int .i64 0,.slice none 0 0,.slice none 0 0,.slice none 0 0,.slice none 0 0,.slice none 0 0,.slice none 0 0,.int .i64 0,.slice none 0 0,.slice none 0 0])/\Hid (FInv fl nb db' dq' bl/\bl.length=k3/\db'.length=nb))
  case atStart=>exact⟨0,vl4,L4,sd,sli0,db,dq,[],nZ _,by omega,rfl,F5.out,LL4.out,X5.out,(show _/\_ from⟨HF0.out.1,rfl,HF0.out.2⟩)⟩
  obtain⟨k3,vl6,L6,sd6,bs,db6,dq6,bl,hk3,hg3,rfl,FX,LX,XX,FI⟩:=hrel
  by_cases hlt3:k3<N3
  ·have hltz3:(k3:Int)< (N3:Int):=by omega
   have hpk7:=pick_any (max (nb:Int) 1) FX.out.mm;go_wp2_with fail;refine hpk7.mono ?_;clear hpk7;rintro e W7 ⟨vl7,L7,x,rfl,mk7,gr7,-,x0,-,-,ll7⟩;obtain⟨n,rfl⟩:∃n:Nat,x=(n:Int):=⟨x.toNat,by omega⟩
   have F7:Hid (FC w hi b W7 vl7 L7 ⟨⟨some ⟨gf,0,none⟩,nf,nf⟩,⟨some ⟨gl,0,none⟩,ns,ns⟩,⟨some ⟨gsb,0,none⟩,ns,ns⟩,sli0,⟨some ⟨gdb,0,none⟩,nb,nb⟩,sd6,sf,sli0,sli0⟩ ⟨List.replicate nf frF,0,List.replicate ns 0,List.replicate ns zero8,[],db6,dq6,fl,nb,[],[]⟩ pf sz bs bl):=FX.out.pick gr7 mk7;have X7:Hid (BoxT W7 w.heap.size 40 [.slice none 0 0,.int .i64 0,.slice none 0 0,.slice none 0 0,.slice none 0 0,.slice none 0 0,.slice none 0 0,.slice none 0 0,.int .i64 0,.slice none 0 0,.slice none 0 0]):=XX.out.kind gr7 FX.out.mm.box (by decide)
   have LL7:=dD (LX.out.trans ll7);clear mk7 gr7 ll7 x0;go_upto_region 17 with fail
   go_cut [78,109]from 78 to 160 (fun s78 s109 wx=>∃(tk:Bool) (vl':Sli) (L':List Int),s78= .int .i64 k3/\s109= .bool tk/\Hid (FC w hi b wx vl' L' ⟨⟨some ⟨gf,0,none⟩,nf,nf⟩,⟨some ⟨gl,0,none⟩,ns,ns⟩,⟨some ⟨gsb,0,none⟩,ns,ns⟩,sli0,⟨some ⟨gdb,0,none⟩,nb,nb⟩,sd6,sf,sli0,sli0⟩ ⟨List.replicate nf frF,0,List.replicate ns 0,List.replicate ns zero8,[],db6,dq6,fl,nb,[],[]⟩ pf sz bs bl)/\Hid (Less L L')/\Hid (BoxT wx w.heap.size 40 [.slice none 0 0,.int .i64 0,.slice none 0 0,.slice none 0 0,.slice none 0 0,.slice none 0 0,.slice none 0 0,.slice none 0 0,.int .i64 0,.slice none 0 0,.slice none 0 0])/\Hid (tk=true->n<nb/\usedB (fl++ [⟨sz,bl⟩]) (n:Int)=false))
   case first=>
    by_cases hn:n<nb
    ·have hnz:(n:Int)< (nb:Int):=by omega
     have hnd:decide ((n:Int)< (nb:Int))=true:=by simpa using hnz
     obtain⟨xs,q1,q2,q3⟩:=F7.out.fb;have HX:Hid (OwnRow fvE w.heap.size W7 (.slice sf.a sf.n sf.c) xs):=q1;obtain⟨nF,HNF⟩:∃nF,Hid (fl.length=nF):=⟨_,rfl⟩;have HXL:Hid (xs.length=nF):=show _=_ by rw[q2];exact HNF.out
     have hnF:nF<=10:=by have:=HFL.out;have:=HNF.out;omega
     have HSN:Hid (sf.n=nF):=dD<|by rw[q1.n];exact HXL.out
     have HX3:Hid (∀(i:Nat) x f,xs[i]? =some x->fl[i]? =some f->x.size=f.size/\OwnRow blE hi W7 x.v f.bl):=dD<|fun i x f hx hf=>(q3 i x f hx hf).1
     clear q1 q2 q3;obtain⟨fx,HFX⟩:∃fx:FlV,Hid (fx=⟨sz,bs.a,bs.n,bs.c⟩):=⟨_,rfl⟩;obtain⟨UB,HUB⟩:∃UB,Hid (usedB (fl++ [(⟨sz,bl⟩:Fl)]) (n:Int)=UB):=⟨usedB (fl++ [(⟨sz,bl⟩:Fl)]) (n:Int),rfl⟩;have HB7:Hid (b<W7.heap.size):=F7.out.mm.box.box.lt;have HPB:Hid (pf≠b):=show _≠_ from fun e=>by
      have h1:W7.heap[pf]? =_:=F7.out.box;have h2:W7.heap[b]? =_:=F7.out.mm.box;rw[e,h2]at h1;cases h1
     have HXB:Hid (w.heap.size≠b):=dD<|by have:=HBB.out;omega
     obtain⟨I,HI⟩:∃I:World->Prop,Hid (∀u,I u↔Out b (b+1) W7 u/\FCE w hi b L ⟨⟨some ⟨gf,0,none⟩,nf,nf⟩,⟨some ⟨gl,0,none⟩,ns,ns⟩,⟨some ⟨gsb,0,none⟩,ns,ns⟩,sli0,⟨some ⟨gdb,0,none⟩,nb,nb⟩,sd6,sf,sli0,sli0⟩ ⟨List.replicate nf frF,0,List.replicate ns 0,List.replicate ns zero8,[],db6,dq6,fl,nb,[],[]⟩ pf sz bs bl u):=⟨fun u=>Out b (b+1) W7 u/\FCE w hi b L ⟨⟨some ⟨gf,0,none⟩,nf,nf⟩,⟨some ⟨gl,0,none⟩,ns,ns⟩,⟨some ⟨gsb,0,none⟩,ns,ns⟩,sli0,⟨some ⟨gdb,0,none⟩,nb,nb⟩,sd6,sf,sli0,sli0⟩ ⟨List.replicate nf frF,0,List.replicate ns 0,List.replicate ns zero8,[],db6,dq6,fl,nb,[],[]⟩ pf sz bs bl u,fun _=>Iff.rfl⟩
     have hI0:I W7.drew:=(HI.out _).2 ⟨Out.drew _,vl7,L7,F7.out.grew (gW _),LL7.out⟩
     have HIG:Hid (∀u u',I u->Grew u u'->I u'):=dD<|fun u u' h k=>by
      obtain⟨h1,vl',L',h2,h3⟩:=(HI.out _).1 h;exact(HI.out _).2 ⟨h1.trans (Out.grew k),vl',L',h2.grew k,h3⟩
     have hx8:∀y:HoldI I,y.world.cell? ⟨b,8,none⟩=some (.slice sf.a sf.n sf.c):=fun y=>by
      obtain⟨_,_,_,h2,_⟩:=(HI.out _).1 y.holds;exact h2.mm.box.box.c 8 rfl
     have hp0:∀y:HoldI I,y.world.cell? ⟨pf,0,none⟩=some (.int .i64 sz):=fun y=>by
      obtain⟨_,_,_,h2,_⟩:=(HI.out _).1 y.holds;exact h2.box.box.c 0 rfl
     have hp1:∀y:HoldI I,y.world.cell? ⟨pf,1,none⟩=some (.slice bs.a bs.n bs.c):=fun y=>by
      obtain⟨_,_,_,h2,_⟩:=(HI.out _).1 y.holds;exact h2.box.box.c 1 rfl
     have hne:Nonempty (HoldI I):=⟨⟨_,hI0⟩⟩;refine wp_lax_tailI (I:=I) 25 [(4,⟨fun v=>∃g,v= .slice (some ⟨g,0,none⟩) 0 0,fun v u=>OwnRow fvE W7.heap.size u v [],fun p q=>Grew p q,fun _=>True⟩),(11,⟨fun v=>(∃a c,v= .slice a nF c)/\(nF=0->∃g,v= .slice (some ⟨g,0,none⟩) 0 0),fun v u=>OwnRow fvE W7.heap.size u v xs,fun p q=>Grew p q,fun _=>True⟩),(13,⟨fun v=>∃g,v= .slice (some ⟨g,0,none⟩) 1 1,fun v u=>OwnRow fvE W7.heap.size u v [fx],fun p q=>Grew p q,fun _=>True⟩),(14,⟨fun v=>∃a c,v= .slice a (nF+1) c,fun v u=>OwnRow fvE W7.heap.size u v (xs++ [fx]),fun p q=>∀u m,m.length<=nF\/m.length<=1->OwnRow fvE W7.heap.size p u m->OwnRow fvE W7.heap.size q u m,fun _=>True⟩),(17,⟨fun v=>v= .bool UB,fun _ _=>True,fun p q=>Grew p q,fun _=>True⟩),(22,⟨fun v=>∃x:Int,v= .int .i64 x,fun _ _=>True,fun p q=>Out b (b+1) p q,fun _=>True⟩)] hI0 mixed (by kernel_rfl) rfl rfl (by decide) ?hS ?hp ?hpre ?hpr0 ?_
     case hS=>
      intro x hx;simp only[mC,nM,or_false]at hx
      rcases hx with rfl|rfl|rfl|rfl|rfl|rfl
      ·exact⟨_,0,rfl⟩
      ·by_cases h0:nF=0
       ·exact⟨.slice (some ⟨0,0,none⟩) 0 0,⟨some ⟨0,0,none⟩,0,by rw[h0]⟩,fun _=>⟨0,rfl⟩⟩
       exact⟨.slice none nF 0,⟨_,_,rfl⟩,fun h=>absurd h h0⟩
      ·exact⟨_,0,rfl⟩
      ·exact⟨_,none,0,rfl⟩
      ·exact⟨_,rfl⟩
      exact⟨_,0,rfl⟩
     case hp=>
      intro k s j t hk hj hjk hanc v p q hst hpo;have hk':=lookup_in hk;have hj':=lookup_in hj;clear hk hj;simp only[mC,pJ,nM,or_false]at hk' hj';have keep:∀l:List FlV,l.length<=nF\/l.length<=1\/j≠14->OwnRow fvE W7.heap.size p v l->OwnRow fvE W7.heap.size q v l:=fun l hl ho=>by
       rcases hj' with⟨rfl,rfl⟩|⟨rfl,rfl⟩|⟨rfl,rfl⟩|⟨rfl,rfl⟩|⟨rfl,rfl⟩|⟨rfl,rfl⟩
       ·exact OwnRow.grew ho hst
       ·exact OwnRow.grew ho hst
       ·exact OwnRow.grew ho hst
       ·exact hst v l (by omega) ho
       ·exact OwnRow.grew ho hst
       exact ho.outb hst (fun g hg=>by have:=(ho.lt g hg).1;have:=HB7.out;omega)
      rcases hk' with⟨rfl,rfl⟩|⟨rfl,rfl⟩|⟨rfl,rfl⟩|⟨rfl,rfl⟩|⟨rfl,rfl⟩|⟨rfl,rfl⟩
      ·exact keep _ (.inl (nZ _)) hpo
      ·exact keep _ (.inl (by rw[HXL.out];exact nR _)) hpo
      ·exact keep _ (.inr (.inl (nR _))) hpo
      ·exact keep _ (.inr (.inr (fun e=>hjk e))) hpo
      ·trivial
      trivial
     case hpre=>
      intro j t k s hj hk hjk p q hst hpr;have hj':=lookup_in hj;clear hk hj;simp only[mC,pJ,nM,or_false]at hj'
      rcases hj' with⟨rfl,rfl⟩|⟨rfl,rfl⟩|⟨rfl,rfl⟩|⟨rfl,rfl⟩|⟨rfl,rfl⟩|⟨rfl,rfl⟩ <;> trivial
     case hpr0=>
      intro k t hk;have hk':=lookup_in hk;clear hk;simp only[mC,pJ,nM,or_false]at hk'
      rcases hk' with⟨rfl,rfl⟩|⟨rfl,rfl⟩|⟨rfl,rfl⟩|⟨rfl,rfl⟩|⟨rfl,rfl⟩|⟨rfl,rfl⟩ <;> trivial
     simp only[List.take,List.drop];iterate 4 (refine laxI_quiet rfl rfl rfl (fun K hK=>?_);go_big_quiet_op;refine hK _ ?_;clear hK)
     refine laxI_spec rfl rfl (fun w' hI' hpr hF=>?_) (fun v1 hv=>?_)
     ·have hg:=((HI.out _).1 hI').1;exact Does.step (v:= .slice (some ⟨w'.heap.size,0,none⟩) 0 0) (w':=w'.alloc (.cells #[] 71)) (by simp only[execOp];go_simp) ⟨HIG.out _ _ hI' (grew_alloc _ _),grew_alloc _ _,⟨_,rfl⟩,(OwnRow.made fvE w').base hg.size⟩
     obtain⟨g0,rfl⟩:=hv;simp only[Act.put,sB,sS,sZ];iterate 1 (refine laxI_quiet rfl rfl rfl (fun K hK=>?_);go_big_quiet_op;refine hK _ ?_;clear hK)
     refine laxI_nilc (.tmp 90) ⟨b,0,none⟩ rfl rfl rfl rfl ?_;simp only[Act.put,sB,sS,sZ];iterate 4 (refine laxI_quiet rfl rfl rfl (fun K hK=>?_);go_big_quiet_op;refine hK _ ?_;clear hK)
     refine laxI_spec rfl rfl (fun w' hI' hpr hF=>?_) (fun v1 hv=>?_)
     ·have hg:=((HI.out _).1 hI').1;have h0:OwnRow fvE W7.heap.size w' (.slice (some ⟨g0,0,none⟩) 0 0) []:=hF 4 (by kernel_rfl)
      have hX:=HX.out.outb hg (fun g hg' e=>by
       obtain⟨cs,hc⟩:=HX.out.obj hg';have h3:W7.heap[b]? =_:=F7.out.mm.box;rw[e,h3]at hc
       cases hc)
      obtain⟨v',w2,hrun,ho,hg2,hz⟩:=run_append_new (E:=fvE) (w:=w') 34 h0 (.slice sf.a sf.n sf.c) xs hX.at hg.size;obtain⟨a',c',rfl⟩:=ho.form;refine Does.step (v:= .slice a' xs.length c') (w':=w2) ?_ ⟨HIG.out _ _ hI' hg2,hg2,⟨⟨a',c',by rw[HXL.out]⟩,fun h=>⟨g0,hz (eN (by rw[HXL.out];exact h))⟩⟩,ho⟩
      simp only[execOp,resolve,invoke,builtin,pure_bind,Sem.run_bind,Sem.run_pure,List.map_toArray,mP,List.map_nil];exact Eq.trans (congrArg (fun r=>Result.andThen r (fun a w'=>Result.ok (Next.value a) w')) hrun) rfl
     obtain⟨⟨a3,c3,rfl⟩,hz3⟩:=hv;simp only[Act.put,sB,sS,sZ];iterate 1 (refine laxI_quiet rfl rfl rfl (fun K hK=>?_);go_big_quiet_op;refine hK _ ?_;clear hK)
     refine laxI_spec rfl rfl (fun w' hI' hpr hF=>?_) (fun v1 hv=>?_)
     ·have hg:=((HI.out _).1 hI').1;exact Does.step (v:= .slice (some ⟨w'.heap.size,0,none⟩) 1 1) (w':=w'.alloc (.cells #[.int .i64 sz,.slice bs.a bs.n bs.c] 71)) (by simp only[execOp];go_simp) ⟨HIG.out _ _ hI' (grew_alloc _ _),grew_alloc _ _,⟨_,rfl⟩,by rw[HFX.out];exact(own_one' w' ⟨sz,bs.a,bs.n,bs.c⟩).base hg.size⟩
     obtain⟨g5,rfl⟩:=hv;simp only[Act.put,sB,sS,sZ];refine laxI_spec rfl rfl (fun w' hI' hpr hF=>?_) (fun v1 hv=>?_)
     ·have hg:=((HI.out _).1 hI').1;have o3:OwnRow fvE W7.heap.size w' (.slice a3 nF c3) xs:=hF 11 (by kernel_rfl)
      have o5:OwnRow fvE W7.heap.size w' (.slice (some ⟨g5,0,none⟩) 1 1) [fx]:=hF 13 (by kernel_rfl)
      have key:∃v' w2,(Builtin.append_ #[34,34] 34 #[.slice a3 nF c3,.slice (some ⟨g5,0,none⟩) 1 1]).run prog w'= .ok v' w2/\OwnRow fvE W7.heap.size w2 v' (xs++ [fx])/\I w2/\∀u m,m.length<=nF\/m.length<=1->OwnRow fvE W7.heap.size w' u m->OwnRow fvE W7.heap.size w2 u m:=by
       by_cases h0:nF=0
       ·have hxs:xs=[]:=eN (by rw[HXL.out];exact h0)
        subst hxs;obtain⟨g,hgv⟩:=hz3 h0;rw[hgv]at o3⊢;obtain⟨v',w2,hrun,ho,hg2,_⟩:=run_append_new (E:=fvE) (w:=w') 34 o3 (.slice (some ⟨g5,0,none⟩) 1 1) [fx] o5.at hg.size;exact⟨v',w2,hrun,ho,HIG.out _ _ hI' hg2,fun u m _ h=>h.grew hg2⟩
       obtain⟨v',w2,hrun,ho,hgr,hk⟩:=run_append_keeps (E:=fvE) (w:=w') 34 o3 (.slice (some ⟨g5,0,none⟩) 1 1) [fx] o5.at (by rw[HXL.out];show(nF+1)*32<=_;omega) hg.size
       refine⟨v',w2,hrun,ho,?_,fun u m hm h=>hk u m (by rw[HXL.out];omega) h⟩
       obtain⟨h1,vl',L',h2,h3⟩:=(HI.out _).1 hI';obtain⟨gr,cr,hgr3⟩:=o3.formS (by rw[HXL.out];omega)
       obtain⟨cs,hcs⟩:=o3.obj (g:=gr) (by rw[hgr3];rfl)
       have hgr':w'.grownBy w2 (some gr):=by rw[hgr3]at hgr;exact hgr
       have hgl:=(o3.lt gr (by rw[hgr3];rfl)).1
       have hpl:=F7.out.box.box.lt;refine(HI.out _).2 ⟨⟨hgr'.os.trans h1.os,hgr'.tape.trans h1.tape,hgr'.output.trans h1.output,nT h1.size hgr'.size,fun k hk' hb'=>(hgr'.block k (Nat.lt_of_lt_of_le hk' h1.size) (fun e=>by cases e;omega)).trans (h1.block k hk' hb')⟩,vl',L',h2.fresh hgr' hcs (by omega),h3⟩
      obtain⟨v',w2,hrun,ho,hI2,hk⟩:=key;obtain⟨a',c',rfl⟩:=ho.form;refine Does.step (v:= .slice a' (xs++ [fx]).length c') (w':=w2) ?_ ⟨hI2,hk,⟨a',c',by rw[lA,HXL.out];rfl⟩,ho⟩
      simp only[execOp,resolve,invoke,builtin,pure_bind,Sem.run_bind,Sem.run_pure,List.map_toArray,mP,List.map_nil];exact Eq.trans (congrArg (fun r=>Result.andThen r (fun a w'=>Result.ok (Next.value a) w')) hrun) rfl
     obtain⟨a6,c6,rfl⟩:=hv;simp only[Act.put,sB,sS,sZ];iterate 2 (refine laxI_quiet rfl rfl rfl (fun K hK=>?_);go_big_quiet_op;refine hK _ ?_;clear hK)
     refine laxI_spec rfl rfl (fun w' hI' hpr hF=>?_) (fun v1 hv=>?_)
     ·obtain⟨h1,vl',L',h2,h3⟩:=(HI.out _).1 hI';have o6:OwnRow fvE W7.heap.size w' (.slice a6 (nF+1) c6) (xs++ [fx]):=hF 14 (by kernel_rfl)
      have hfa:FilesAt w' (.slice a6 (nF+1) c6) (fl++ [⟨sz,bl⟩]):=by
       refine⟨o6.cap,xs++ [fx],o6.at.s0,by rw[lA,lA,HXL.out,HNF.out];rfl,fun i x f hx hf=>?_⟩
       rcases Nat.lt_or_ge i nF with hi' | hi'
       ·rw[List.getElem?_append_left (by rw[HXL.out];exact hi')]at hx
        rw[List.getElem?_append_left (by rw[HNF.out];exact hi')]at hf
        obtain⟨a1,a2⟩:=HX3.out i x f hx hf;exact⟨a1,(a2.outb h1 (fun g hg' e=>by
         obtain⟨cs,hc⟩:=a2.obj hg';have h3:W7.heap[b]? =_:=F7.out.mm.box;rw[e,h3]at hc
         cases hc)).at.s0⟩
       rw[aR (by rw[HXL.out];exact hi'),HXL.out]at hx
       rw[aR (by rw[HNF.out];exact hi'),HNF.out]at hf
       have hi0:i - nF=0:=by
        have:=(gS.1 hx).1
        simp at this
        omega
       rw[hi0]at hx hf;cases hx;cases hf;rw[HFX.out];exact⟨rfl,h2.row.at.s0⟩
      refine Does.call [.agg #[.slice a6 (nF+1) c6,.int .i64 0],.int .i64 (n:Int)] rfl func29 rfl rfl rfl ?_;refine(used_any (.slice a6 (nF+1) c6) (fl++ [⟨sz,bl⟩]) 0 (n:Int) w' hfa).mono ?_;rintro e w'' ⟨rfl,hg2⟩;exact⟨_,rfl,HIG.out _ _ hI' hg2,hg2,by rw[HUB.out],trivial⟩
     subst hv;simp only[Act.put,sB,sS,sZ];iterate 3 (refine laxI_quiet rfl rfl rfl (fun K hK=>?_);go_big_quiet_op;refine hK _ ?_;clear hK)
     cases UB with
     | true=>
      refine laxI_skip ?_ ?_
      ·kernel_rfl
      simp only[Act.put,sB,sS,sZ];refine laxI_skip ?_ ?_
      ·kernel_rfl
      simp only[Act.put,sB,sS,sZ];refine laxI_skip ?_ ?_
      ·kernel_rfl
      simp only[Act.put,sB,sS,sZ];iterate 1 (refine laxI_quiet rfl rfl rfl (fun K hK=>?_);go_big_quiet_op;refine hK _ ?_;clear hK)
      refine laxI_nil fun W8 hI8 hF8=>?_
      obtain⟨h1,vl8,L8,h2,h3⟩:=(HI.out _).1 hI8;have F8:Hid (FC w hi b W8 vl8 L8 ⟨⟨some ⟨gf,0,none⟩,nf,nf⟩,⟨some ⟨gl,0,none⟩,ns,ns⟩,⟨some ⟨gsb,0,none⟩,ns,ns⟩,sli0,⟨some ⟨gdb,0,none⟩,nb,nb⟩,sd6,sf,sli0,sli0⟩ ⟨List.replicate nf frF,0,List.replicate ns 0,List.replicate ns zero8,[],db6,dq6,fl,nb,[],[]⟩ pf sz bs bl):=h2;have LL8:Hid (Less L L8):=h3;have X8:Hid (BoxT W8 w.heap.size 40 [.slice none 0 0,.int .i64 0,.slice none 0 0,.slice none 0 0,.slice none 0 0,.slice none 0 0,.slice none 0 0,.slice none 0 0,.int .i64 0,.slice none 0 0,.slice none 0 0]):=X7.out.outb h1 HXB.out;clear hI8 hF8 hI0 hx8 hp0 hp1 hne h1 h2 h3 hz3;go_wp2
      go_meet
      exact⟨false,vl8,L8,rfl,rfl,F8.out,LL8.out,X8.out,fun h=>(by cases h)⟩
     | false=>
      iterate 1 (refine laxI_quiet rfl rfl rfl (fun K hK=>?_);go_big_quiet_op;refine hK _ ?_;clear hK)
      refine laxI_spec rfl rfl (fun w' hI' hpr hF=>?_) (fun v1 hv=>?_)
      ·obtain⟨h1,vl',L',h2,h3⟩:=(HI.out _).1 hI';refine Does.call [.pointer (some ⟨b,0,none⟩),.int .i64 3] rfl func27 rfl rfl rfl ?_;refine(pick_any 3 h2.mm).mono ?_;rintro e w'' ⟨vl2,L2,y,rfl,mk2,gr2,-,-,-,-,ll2⟩;have ho2:Out b (b+1) w' w'':=Out.grown gr2 (fun g e=>by cases e;omega)
       exact⟨_,rfl,(HI.out _).2 ⟨h1.trans ho2,vl2,L2,h2.pick gr2 mk2,h3.trans ll2⟩,ho2,⟨y,rfl⟩,trivial⟩
      obtain⟨x,rfl⟩:=hv;simp only[Act.put,sB,sS,sZ];iterate 2 (refine laxI_quiet rfl rfl rfl (fun K hK=>?_);go_big_quiet_op;refine hK _ ?_;clear hK)
      refine laxI_nil fun W8 hI8 hF8=>?_
      obtain⟨h1,vl8,L8,h2,h3⟩:=(HI.out _).1 hI8;have F8:Hid (FC w hi b W8 vl8 L8 ⟨⟨some ⟨gf,0,none⟩,nf,nf⟩,⟨some ⟨gl,0,none⟩,ns,ns⟩,⟨some ⟨gsb,0,none⟩,ns,ns⟩,sli0,⟨some ⟨gdb,0,none⟩,nb,nb⟩,sd6,sf,sli0,sli0⟩ ⟨List.replicate nf frF,0,List.replicate ns 0,List.replicate ns zero8,[],db6,dq6,fl,nb,[],[]⟩ pf sz bs bl):=h2;have LL8:Hid (Less L L8):=h3;have X8:Hid (BoxT W8 w.heap.size 40 [.slice none 0 0,.int .i64 0,.slice none 0 0,.slice none 0 0,.slice none 0 0,.slice none 0 0,.slice none 0 0,.slice none 0 0,.int .i64 0,.slice none 0 0,.slice none 0 0]):=X7.out.outb h1 HXB.out;have HUF:Hid (decide (0<x)=true->n<nb/\usedB (fl++ [⟨sz,bl⟩]) (n:Int)=false):=show _->_ from fun _=>⟨hn,HUB.out⟩
      clear hI8 hF8 hI0 hx8 hp0 hp1 hne h1 h2 h3 hz3;go_wp2
      go_meet
      exact⟨decide (0<x),vl8,L8,rfl,rfl,F8.out,LL8.out,X8.out,HUF.out⟩
    have hnz:¬(n:Int)< (nb:Int):=by omega
    have hnd:decide ((n:Int)< (nb:Int))=false:=by simpa using hnz
    clear hn;go_quiet (fail);go_wp2
    go_meet
    exact⟨false,vl7,L7,rfl,rfl,F7.out.grew (show Below _ _ _ from bD (bR _ _) _),LL7.out,X7.out.grew (show Below _ _ _ from bD (bR _ _) _),fun h=>(by cases h)⟩
   obtain⟨tk,vl8,L8,rfl,rfl,F8,LL8,X8,HTK⟩:=hcut
   go_upto_if 109 with fail
   go_cut [13,15,16,78]from 78 to 160 (fun s13 s15 s16 s78 wx=>∃(bx:Int) (vl':Sli) (L':List Int) (sd':Sli) (db':List (List Int)) (dq':List (Int × List Int)),s13= .int .i64 bx/\s78= .int .i64 k3/\Hid (FC w hi b wx vl' L' ⟨⟨some ⟨gf,0,none⟩,nf,nf⟩,⟨some ⟨gl,0,none⟩,ns,ns⟩,⟨some ⟨gsb,0,none⟩,ns,ns⟩,sli0,⟨some ⟨gdb,0,none⟩,nb,nb⟩,sd',sf,sli0,sli0⟩ ⟨List.replicate nf frF,0,List.replicate ns 0,List.replicate ns zero8,[],db',dq',fl,nb,[],[]⟩ pf sz bs bl)/\Hid (Less L L')/\Hid (BoxT wx w.heap.size 40 [.slice none 0 0,.int .i64 0,.slice none 0 0,.slice none 0 0,.slice none 0 0,.slice none 0 0,.slice none 0 0,.slice none 0 0,.int .i64 0,.slice none 0 0,.slice none 0 0])/\Hid (FInv fl nb db' dq' (bl++ [bx])/\db'.length=nb))
   case first=>
    cases tk with
    | false=>
     go_wp2
     go_meet
     exact⟨-1,vl8,L8,sd6,db6,dq6,rfl,rfl,F8.out,LL8.out,X8.out,(show _/\_ from⟨FI.out.1.none,FI.out.2.2⟩)⟩
    | true=>
     obtain⟨hn,hu⟩:=HTK.out rfl;have HUF:Hid (usedB fl (n:Int)=false/\(n:Int)∉bl):=dD<|by
      have h2:¬(n:Int)∈allB (fl++ [⟨sz,bl⟩]):=fun h=>by rw[(used_iff _ _).2 h]at hu;cases hu
      have h3:allB (fl++ [⟨sz,bl⟩])=allB fl++bl:=by simp[allB]
      rw[h3,List.mem_append]at h2;refine⟨?_,fun h=>h2 (.inr h)⟩
      cases e:usedB fl (n:Int)with
      | false=>rfl
      | true=>exact absurd (.inl ((used_iff _ _).1 e)) h2
     have hnz:(n:Int)< (nb:Int):=by omega
     clear hu;have hpg:=page_any F8.out.mm;go_wp2_with fail;refine hpg.mono ?_;clear hpg;rintro e W9 ⟨vl9,L9,q9,rfl,ql9,mk9,gr9,ll9⟩;have F9:Hid (FC w hi b W9 vl9 L9 ⟨⟨some ⟨gf,0,none⟩,nf,nf⟩,⟨some ⟨gl,0,none⟩,ns,ns⟩,⟨some ⟨gsb,0,none⟩,ns,ns⟩,sli0,⟨some ⟨gdb,0,none⟩,nb,nb⟩,sd6,sf,sli0,sli0⟩ ⟨List.replicate nf frF,0,List.replicate ns 0,List.replicate ns zero8,[],db6,dq6,fl,nb,[],[]⟩ pf sz bs bl):=F8.out.pick gr9 mk9;have X9:Hid (BoxT W9 w.heap.size 40 [.slice none 0 0,.int .i64 0,.slice none 0 0,.slice none 0 0,.slice none 0 0,.slice none 0 0,.slice none 0 0,.slice none 0 0,.int .i64 0,.slice none 0 0,.slice none 0 0]):=X8.out.kind gr9 F8.out.mm.box (by decide)
     have LL9:=dD (LL8.out.trans ll9);clear mk9 gr9 ll9;obtain⟨o0,o1,o2,o3,o4,o5,o6,o7,rfl⟩:=len8 q9 ql9;clear ql9;simp only[pgc,mP,List.map_nil];go_upto_region 20 with fail;obtain⟨pp,HPP⟩:∃pp,Hid (W9.heap.size=pp):=⟨_,rfl⟩;obtain⟨W10,hW10⟩:∃W10,W9.alloc (.cells #[.int .u8 o0,.int .u8 o1,.int .u8 o2,.int .u8 o3,.int .u8 o4,.int .u8 o5,.int .u8 o6,.int .u8 o7] 50)=W10:=⟨_,rfl⟩;have g10:=gP hW10
     have P10:Hid (BoxT W10 pp 50 (pgc [o0,o1,o2,o3,o4,o5,o6,o7])):=dD<|by rw[<-hW10];exact BoxT.top _ (pgc [o0,o1,o2,o3,o4,o5,o6,o7]) _ HPP.out.symm
     have F10:=dD (F9.out.grew g10);have X10:=dD (X9.out.grew g10);have HHP:Hid (hi<=pp):=show _<=_ by rw[<-HPP.out];exact F9.out.mm.rows.hw
     rw[hW10,HPP.out];clear hW10 g10;go_wp2
     go_loopg [113] 8 (fun gg s113 wr=>∃(i:Nat) (qq:List Int),i<=8/\8 - i<=gg/\s113= .int .i64 i/\Hid (FC w hi b wr vl9 L9 ⟨⟨some ⟨gf,0,none⟩,nf,nf⟩,⟨some ⟨gl,0,none⟩,ns,ns⟩,⟨some ⟨gsb,0,none⟩,ns,ns⟩,sli0,⟨some ⟨gdb,0,none⟩,nb,nb⟩,sd6,sf,sli0,sli0⟩ ⟨List.replicate nf frF,0,List.replicate ns 0,List.replicate ns zero8,[],db6,dq6,fl,nb,[],[]⟩ pf sz bs bl)/\Hid (BoxT wr pp 50 (pgc qq))/\Hid (qq.length=8)/\Hid (BoxT wr w.heap.size 40 [.slice none 0 0,.int .i64 0,.slice none 0 0,.slice none 0 0,.slice none 0 0,.slice none 0 0,.slice none 0 0,.slice none 0 0,.int .i64 0,.slice none 0 0,.slice none 0 0]))
     case atStart=>exact⟨0,[o0,o1,o2,o3,o4,o5,o6,o7],nZ _,by omega,rfl,F10.out,P10.out,rfl,X10.out⟩
     obtain⟨i,qq,hi8,hg4,rfl,FW,PW,QW,XW⟩:=hrel
     by_cases hlt4:i<8
     ·have hltz4:(i:Int)<8:=by omega
      obtain⟨z,hz⟩:∃z,qq[i]? =some z:=⟨_,gE (by rw[QW.out];exact hlt4)⟩
      have z0:=PW.out.box.c i (pgc_at hz);have zf:=PW.out.box.f;have y0:=FW.out.box.box.c 0 rfl;clear hz
      by_cases hc:sz<=8*(k3:Int)+(i:Int)
      ·have hcd:decide (sz<=8*(k3:Int)+(i:Int))=true:=by simpa using hc
       have HG:Hid (wr.grownBy (wr.setCell ⟨pp,i,none⟩ (.int .u8 0)) (some pp)):=set_grown _ _ _ _;have P11:Hid (BoxT (wr.setCell ⟨pp,i,none⟩ (.int .u8 0)) pp 50 (pgc (qq.set i 0))):=show BoxT _ _ _ _ by rw[pgc_set];exact PW.out.set i _
       have F11:Hid (FC w hi b (wr.setCell ⟨pp,i,none⟩ (.int .u8 0)) vl9 L9 ⟨⟨some ⟨gf,0,none⟩,nf,nf⟩,⟨some ⟨gl,0,none⟩,ns,ns⟩,⟨some ⟨gsb,0,none⟩,ns,ns⟩,sli0,⟨some ⟨gdb,0,none⟩,nb,nb⟩,sd6,sf,sli0,sli0⟩ ⟨List.replicate nf frF,0,List.replicate ns 0,List.replicate ns zero8,[],db6,dq6,fl,nb,[],[]⟩ pf sz bs bl):=FW.out.kind HG.out PW.out (by decide) (by decide) (FW.out.mm.page PW.out HHP.out HG.out) rfl rfl
       have X11:Hid (BoxT (wr.setCell ⟨pp,i,none⟩ (.int .u8 0)) w.heap.size 40 [.slice none 0 0,.int .i64 0,.slice none 0 0,.slice none 0 0,.slice none 0 0,.slice none 0 0,.slice none 0 0,.slice none 0 0,.int .i64 0,.slice none 0 0,.slice none 0 0]):=XW.out.kind HG.out PW.out (by decide)
       go_wp2
       go_roundg (8 -(i+1))
       case measure=>omega
       exact⟨i+1,qq.set i 0,by omega,by omega,by go_num,F11.out,P11.out,(show(qq.set i 0).length=8 by rw[List.length_set];exact QW.out),X11.out⟩
      have hcd:decide (sz<=8*(k3:Int)+(i:Int))=false:=by simpa using hc
      go_wp2
      go_roundg (8 -(i+1))
      case measure=>omega
      exact⟨i+1,qq,by omega,by omega,by go_num,FW.out,PW.out,QW.out,XW.out⟩
     have hltz4:¬(i:Int)<8:=by omega
     obtain⟨p0,p1,p2,p3,p4,p5,p6,p7,rfl⟩:=len8 qq QW.out;go_upto_region 26 with fail;obtain⟨I,HI⟩:∃I:World->Prop,Hid (∀u,I u↔Grew wr u):=⟨fun u=>Grew wr u,fun _=>Iff.rfl⟩
     have hI0:I wr.drew:=(HI.out _).2 (gW _)
     have HP:Hid (∀u,I u->BoxT u pp 50 (pgc [p0,p1,p2,p3,p4,p5,p6,p7])):=dD<|fun u hu=>PW.out.grew ((HI.out _).1 hu)
     have hx6:∀y:HoldI I,y.world.cell? ⟨b,6,none⟩=some (.slice (some ⟨gdb,0,none⟩) nb nb):=fun y=>(FW.out.mm.box.box.grew ((HI.out _).1 y.holds)).c 6 rfl
     have hf0:∀y:HoldI I,y.world.cell? ⟨pp,0,none⟩=some (.int .u8 p0):=fun y=>(HP.out _ y.holds).box.c 0 rfl
     have hf1:∀y:HoldI I,y.world.cell? ⟨pp,1,none⟩=some (.int .u8 p1):=fun y=>(HP.out _ y.holds).box.c 1 rfl
     have hf2:∀y:HoldI I,y.world.cell? ⟨pp,2,none⟩=some (.int .u8 p2):=fun y=>(HP.out _ y.holds).box.c 2 rfl
     have hf3:∀y:HoldI I,y.world.cell? ⟨pp,3,none⟩=some (.int .u8 p3):=fun y=>(HP.out _ y.holds).box.c 3 rfl
     have hf4:∀y:HoldI I,y.world.cell? ⟨pp,4,none⟩=some (.int .u8 p4):=fun y=>(HP.out _ y.holds).box.c 4 rfl
     have hf5:∀y:HoldI I,y.world.cell? ⟨pp,5,none⟩=some (.int .u8 p5):=fun y=>(HP.out _ y.holds).box.c 5 rfl
     have hf6:∀y:HoldI I,y.world.cell? ⟨pp,6,none⟩=some (.int .u8 p6):=fun y=>(HP.out _ y.holds).box.c 6 rfl
     have hf7:∀y:HoldI I,y.world.cell? ⟨pp,7,none⟩=some (.int .u8 p7):=fun y=>(HP.out _ y.holds).box.c 7 rfl
     have hne:Nonempty (HoldI I):=⟨⟨_,hI0⟩⟩;refine wp_lax_tailI (I:=I) 9 [] hI0 mixed (by kernel_rfl) rfl rfl (by decide) (fun x hx=>by cases hx) (fun k s j t hk=>by cases hk) (fun j t k s hj=>by cases hj) (fun k t hk=>by cases hk) ?_
     simp only[List.take,List.drop];iterate 1 (refine laxI_quiet rfl rfl rfl (fun K hK=>?_);go_big_quiet_op;refine hK _ ?_;clear hK)
     refine laxI_nilc (.tmp 126) ⟨b,0,none⟩ rfl rfl rfl rfl ?_;simp only[Act.put,sB,sS,sZ];iterate 7 (refine laxI_quiet rfl rfl rfl (fun K hK=>?_);go_big_quiet_op;refine hK _ ?_;clear hK)
     refine laxI_nil fun W11 hI11 _=>?_
     have g11:=(HI.out _).1 hI11;refine wpList_store_page rfl (.tmp 134) (.tmp 133) rfl w.heap.size (.slice (some ⟨gdb,0,none⟩) nb nb) db6 (FW.out.grew g11).mm.rows.db gdb n rfl (by rw[FI.out.2.2];exact hn) [p0,p1,p2,p3,p4,p5,p6,p7] rfl _ rfl (by first | rfl | simp) rfl ?_
     intro W12 op12 gr12 sz12;obtain⟨-,cs12,hc12⟩:=ownPages_obj (FW.out.grew g11).mm.rows.db (g:=gdb) rfl;have F12:Hid (FC w hi b W12 vl9 L9 ⟨⟨some ⟨gf,0,none⟩,nf,nf⟩,⟨some ⟨gl,0,none⟩,ns,ns⟩,⟨some ⟨gsb,0,none⟩,ns,ns⟩,sli0,⟨some ⟨gdb,0,none⟩,nb,nb⟩,sd6,sf,sli0,sli0⟩ ⟨List.replicate nf frF,0,List.replicate ns 0,List.replicate ns zero8,[],(db6.set n [p0,p1,p2,p3,p4,p5,p6,p7]),dq6,fl,nb,[],[]⟩ pf sz bs bl):=(FW.out.grew g11).kind gr12 hc12 (by decide) (by decide) ((FW.out.grew g11).mm.setDb rfl gr12 sz12 op12).1 rfl rfl
     have X12:=dD ((XW.out.grew g11).kind gr12 hc12 (by decide))
     have P12:Hid (BoxT W12 pp 50 (pgc [p0,p1,p2,p3,p4,p5,p6,p7])):=(PW.out.grew g11).beside gr12 (fun g e=>by cases e;have:=(FW.out.mm.rows.dbh gdb rfl);have:=HHP.out;omega)
     clear hI11 g11 op12 gr12 sz12 cs12 hc12 hI0 hx6 hne;clear hf0 hf1 hf2 hf3 hf4 hf5 hf6 hf7;have hpk12:=pick_any 2 F12.out.mm;go_wp2_with fail;refine hpk12.mono ?_;clear hpk12;rintro e W13 ⟨vl13,L13,y,rfl,mk13,gr13,-,-,-,-,ll13⟩;have F13:Hid (FC w hi b W13 vl13 L13 ⟨⟨some ⟨gf,0,none⟩,nf,nf⟩,⟨some ⟨gl,0,none⟩,ns,ns⟩,⟨some ⟨gsb,0,none⟩,ns,ns⟩,sli0,⟨some ⟨gdb,0,none⟩,nb,nb⟩,sd6,sf,sli0,sli0⟩ ⟨List.replicate nf frF,0,List.replicate ns 0,List.replicate ns zero8,[],(db6.set n [p0,p1,p2,p3,p4,p5,p6,p7]),dq6,fl,nb,[],[]⟩ pf sz bs bl):=F12.out.pick gr13 mk13;have X13:Hid (BoxT W13 w.heap.size 40 [.slice none 0 0,.int .i64 0,.slice none 0 0,.slice none 0 0,.slice none 0 0,.slice none 0 0,.slice none 0 0,.slice none 0 0,.int .i64 0,.slice none 0 0,.slice none 0 0]):=X12.out.kind gr13 F12.out.mm.box (by decide)
     have P13:Hid (BoxT W13 pp 50 (pgc [p0,p1,p2,p3,p4,p5,p6,p7])):=P12.out.kind gr13 F12.out.mm.box (by decide)
     have LL13:=dD (LL9.out.trans ll13);clear mk13 gr13 ll13;have HDL:Hid ((db6.set n [p0,p1,p2,p3,p4,p5,p6,p7]).length=nb):=show _=_ by rw[List.length_set];exact FI.out.2.2
     by_cases hy:y=1
     ·have hye:(y == 1)=true:=by simp[hy]
      clear hy;go_upto_region 28 with fail;have HDQ:Hid (OwnPuts w.heap.size W13 (.slice sd6.a sd6.n sd6.c) dq6):=F13.out.mm.rows.dq;have HQL:Hid (dq6.length<=1000):=show _<=_ by
       have h1:=FI.out.1.ql;have h2:=allB_len ((stW_zero _ _).1 FI.out.1.st).2.1;have h3:=((stW_zero _ _).1 FI.out.1.st).1.1;have h4:=FI.out.2.1;omega
      obtain⟨I,HI⟩:∃I:World->Prop,Hid (∀u,I u↔BoxT u b 87 [.slice vl13.a vl13.n vl13.c,.slice (some ⟨gf,0,none⟩) nf nf,.int .i64 0,.slice (some ⟨gl,0,none⟩) ns ns,.slice (some ⟨gsb,0,none⟩) ns ns,.slice none 0 0,.slice (some ⟨gdb,0,none⟩) nb nb,.slice sd6.a sd6.n sd6.c,.slice sf.a sf.n sf.c,.int .i64 (nb:Int),.slice none 0 0,.slice none 0 0,.slice none 0 0]/\BoxT u pp 50 (pgc [p0,p1,p2,p3,p4,p5,p6,p7])):=⟨fun u=>BoxT u b 87 [.slice vl13.a vl13.n vl13.c,.slice (some ⟨gf,0,none⟩) nf nf,.int .i64 0,.slice (some ⟨gl,0,none⟩) ns ns,.slice (some ⟨gsb,0,none⟩) ns ns,.slice none 0 0,.slice (some ⟨gdb,0,none⟩) nb nb,.slice sd6.a sd6.n sd6.c,.slice sf.a sf.n sf.c,.int .i64 (nb:Int),.slice none 0 0,.slice none 0 0,.slice none 0 0]/\BoxT u pp 50 (pgc [p0,p1,p2,p3,p4,p5,p6,p7]),fun _=>Iff.rfl⟩
      have hI0:I W13.drew:=(HI.out _).2 ⟨F13.out.mm.box.grew (gW _),P13.out.grew (gW _)⟩
      have HP:Hid (∀u,I u->BoxT u pp 50 (pgc [p0,p1,p2,p3,p4,p5,p6,p7])):=dD<|fun u hu=>((HI.out _).1 hu).2
      have hx7:∀y:HoldI I,y.world.cell? ⟨b,7,none⟩=some (.slice sd6.a sd6.n sd6.c):=fun y=>((HI.out _).1 y.holds).1.box.c 7 rfl
      have hf0:∀y:HoldI I,y.world.cell? ⟨pp,0,none⟩=some (.int .u8 p0):=fun y=>(HP.out _ y.holds).box.c 0 rfl
      have hf1:∀y:HoldI I,y.world.cell? ⟨pp,1,none⟩=some (.int .u8 p1):=fun y=>(HP.out _ y.holds).box.c 1 rfl
      have hf2:∀y:HoldI I,y.world.cell? ⟨pp,2,none⟩=some (.int .u8 p2):=fun y=>(HP.out _ y.holds).box.c 2 rfl
      have hf3:∀y:HoldI I,y.world.cell? ⟨pp,3,none⟩=some (.int .u8 p3):=fun y=>(HP.out _ y.holds).box.c 3 rfl
      have hf4:∀y:HoldI I,y.world.cell? ⟨pp,4,none⟩=some (.int .u8 p4):=fun y=>(HP.out _ y.holds).box.c 4 rfl
      have hf5:∀y:HoldI I,y.world.cell? ⟨pp,5,none⟩=some (.int .u8 p5):=fun y=>(HP.out _ y.holds).box.c 5 rfl
      have hf6:∀y:HoldI I,y.world.cell? ⟨pp,6,none⟩=some (.int .u8 p6):=fun y=>(HP.out _ y.holds).box.c 6 rfl
      have hf7:∀y:HoldI I,y.world.cell? ⟨pp,7,none⟩=some (.int .u8 p7):=fun y=>(HP.out _ y.holds).box.c 7 rfl
      have hne:Nonempty (HoldI I):=⟨⟨_,hI0⟩⟩;refine wp_lax_tailD (I:=I) 16 [(10,fun v=>∃g,v= .slice (some ⟨g,0,none⟩) 1 1),(11,fun v=>∃a n c,v= .slice a n c)] (fun u=>Grew W13 u) hI0 (gW _) mixed (by kernel_rfl) rfl rfl (by decide) ?hS (by kernel_rfl) ?_
      case hS=>
       intro x hx;simp only[mC,nM,or_false]at hx
       rcases hx with rfl|rfl
       ·exact⟨_,0,rfl⟩
       exact⟨_,none,0,0,rfl⟩
      simp only[List.take,List.drop];iterate 2 (refine laxD_quiet rfl rfl rfl (fun K hK=>?_);go_big_quiet_op;refine hK _ ?_;clear hK)
      refine laxD_nilc (.tmp 139) ⟨b,0,none⟩ rfl rfl rfl rfl ?_;simp only[Act.put,sB,sS,sZ];iterate 7 (refine laxD_quiet rfl rfl rfl (fun K hK=>?_);go_big_quiet_op;refine hK _ ?_;clear hK)
      refine laxD_spec rfl rfl (fun v u=>Grew W13 u/\∃g,v= .slice (some ⟨g,0,none⟩) 1 1/\Cells u ⟨g,0,none⟩ (ptc ((n:Int),[p0,p1,p2,p3,p4,p5,p6,p7]))) (fun w' hI' hF'=>?_) (fun v1 hv=>?_)
      ·exact Does.step (v:= .slice (some ⟨w'.heap.size,0,none⟩) 1 1) (w':=w'.alloc (.cells #[.int .i64 (n:Int),.int .u8 p0,.int .u8 p1,.int .u8 p2,.int .u8 p3,.int .u8 p4,.int .u8 p5,.int .u8 p6,.int .u8 p7] 91)) (by simp only[execOp];go_simp) ⟨(HI.out _).2 ⟨((HI.out _).1 hI').1.grew (grew_alloc _ _),((HI.out _).1 hI').2.grew (grew_alloc _ _)⟩,⟨_,rfl⟩,hF'.trans (grew_alloc _ _),_,rfl,Cells.top w' (ptc ((n:Int),[p0,p1,p2,p3,p4,p5,p6,p7])) _ rfl⟩
      obtain⟨g5,rfl⟩:=hv;simp only[Act.put,sB,sS,sZ];refine laxD_spec rfl rfl (fun v u=>∃u0,Grew W13 u0/\u0.grownBy u (Value.slice sd6.a sd6.n sd6.c).ownBlock/\OwnPuts w.heap.size u v (dq6++ [((n:Int),[p0,p1,p2,p3,p4,p5,p6,p7])])) (fun w' hI' hF'=>?_) (fun v1 hv=>?_)
      ·obtain⟨hg',g,hge,hcl⟩:=hF';have hge':g5=g:=by
        simp only[vJ,Option.some.injEq,Addr.mk.injEq]at hge;exact hge.1.1
       subst hge';obtain⟨v',w2,hrun,ho,hgr⟩:=run_append_put (w:=w') 31 (HDQ.out.grew hg') g5 ((n:Int),[p0,p1,p2,p3,p4,p5,p6,p7]) rfl hcl HQL.out (nT (bS F13.out.mm.gr) (bS hg'));obtain⟨a',n',c',rfl⟩:=ho.slice;have hbx:I w2:=by
        cases hob:(Value.slice sd6.a sd6.n sd6.c).ownBlock with
        | none=>
         rw[hob]at hgr;exact(HI.out _).2 ⟨((HI.out _).1 hI').1.grew (grown_none hgr),((HI.out _).1 hI').2.grew (grown_none hgr)⟩
        | some gq=>
         rw[hob]at hgr;obtain⟨-,cs,hc⟩:=ownPuts_obj (HDQ.out.grew hg') hob;exact(HI.out _).2 ⟨((HI.out _).1 hI').1.kind hgr hc (by decide),((HI.out _).1 hI').2.kind hgr hc (by decide)⟩
       refine Does.step (v:= .slice a' n' c') (w':=w2) ?_ ⟨hbx,⟨a',n',c',rfl⟩,w',hg',hgr,ho⟩;simp only[execOp,resolve,invoke,builtin,pure_bind,Sem.run_bind,Sem.run_pure,List.map_toArray,mP,List.map_nil];exact Eq.trans (congrArg (fun r=>Result.andThen r (fun a w'=>Result.ok (Next.value a) w')) hrun) rfl
      obtain⟨da,dn,dc,rfl⟩:=hv;simp only[Act.put,sB,sS,sZ];refine laxD_nilc (.tmp 138) ⟨b,0,none⟩ rfl rfl rfl rfl ?_;simp only[Act.put,sB,sS,sZ];iterate 3 (refine laxD_quiet rfl rfl rfl (fun K hK=>?_);go_big_quiet_op;refine hK _ ?_;clear hK)
      refine laxD_nil fun W14 hI14 hF14=>?_
      obtain⟨u0,g0,gr14,op14⟩:=hF14;have B14:Hid (BoxT W14 b 87 [.slice vl13.a vl13.n vl13.c,.slice (some ⟨gf,0,none⟩) nf nf,.int .i64 0,.slice (some ⟨gl,0,none⟩) ns ns,.slice (some ⟨gsb,0,none⟩) ns ns,.slice none 0 0,.slice (some ⟨gdb,0,none⟩) nb nb,.slice sd6.a sd6.n sd6.c,.slice sf.a sf.n sf.c,.int .i64 (nb:Int),.slice none 0 0,.slice none 0 0,.slice none 0 0]):=((HI.out _).1 hI14).1;have R14:Hid (MkR w.heap.size hi W14 ⟨⟨some ⟨gf,0,none⟩,nf,nf⟩,⟨some ⟨gl,0,none⟩,ns,ns⟩,⟨some ⟨gsb,0,none⟩,ns,ns⟩,sli0,⟨some ⟨gdb,0,none⟩,nb,nb⟩,⟨da,dn,dc⟩,sf,sli0,sli0⟩ ⟨List.replicate nf frF,0,List.replicate ns 0,List.replicate ns zero8,[],db6.set n [p0,p1,p2,p3,p4,p5,p6,p7],dq6++ [((n:Int),[p0,p1,p2,p3,p4,p5,p6,p7])],fl,nb,[],[]⟩ sli0 []):=(F13.out.mm.rows.grew g0).addDq gr14 ⟨da,dn,dc⟩ op14;have hk14:Grew w W14/\FlB w.heap.size hi pf W14 ⟨⟨some ⟨gf,0,none⟩,nf,nf⟩,⟨some ⟨gl,0,none⟩,ns,ns⟩,⟨some ⟨gsb,0,none⟩,ns,ns⟩,sli0,⟨some ⟨gdb,0,none⟩,nb,nb⟩,sd6,sf,sli0,sli0⟩ ⟨List.replicate nf frF,0,List.replicate ns 0,List.replicate ns zero8,[],db6.set n [p0,p1,p2,p3,p4,p5,p6,p7],dq6,fl,nb,[],[]⟩/\BoxT W14 pf 71 [.int .i64 sz,.slice bs.a bs.n bs.c]/\OwnRow blE (pf+1) W14 (.slice bs.a bs.n bs.c) bl/\BoxT W14 w.heap.size 40 [.slice none 0 0,.int .i64 0,.slice none 0 0,.slice none 0 0,.slice none 0 0,.slice none 0 0,.slice none 0 0,.slice none 0 0,.int .i64 0,.slice none 0 0,.slice none 0 0]:=by
       cases hob:(Value.slice sd6.a sd6.n sd6.c).ownBlock with
       | none=>
        rw[hob]at gr14;have k:=grown_none gr14;exact⟨(F13.out.mm.gr.trans g0).trans k,(F13.out.fb.grew g0).grew k,(F13.out.box.grew g0).grew k,(F13.out.row.grew g0).grew k,(X13.out.grew g0).grew k⟩
       | some gq=>
        rw[hob]at gr14;obtain⟨hgq,cs,hc⟩:=ownPuts_obj (HDQ.out.grew g0) hob;exact⟨grew_grown (F13.out.mm.gr.trans g0) gr14 hgq,(F13.out.fb.grew g0).kind gr14 hc (.inl (by decide)) (.inl (by decide)),(F13.out.box.grew g0).kind gr14 hc (by decide),(F13.out.row.grew g0).kind gr14 hc (by decide),(X13.out.grew g0).kind gr14 hc (by decide)⟩
      obtain⟨e1,e2,e3,e4,e5⟩:=hk14;have GW14:Hid (Grew w W14):=e1;have FB14:Hid (FlB w.heap.size hi pf W14 ⟨⟨some ⟨gf,0,none⟩,nf,nf⟩,⟨some ⟨gl,0,none⟩,ns,ns⟩,⟨some ⟨gsb,0,none⟩,ns,ns⟩,sli0,⟨some ⟨gdb,0,none⟩,nb,nb⟩,sd6,sf,sli0,sli0⟩ ⟨List.replicate nf frF,0,List.replicate ns 0,List.replicate ns zero8,[],db6.set n [p0,p1,p2,p3,p4,p5,p6,p7],dq6,fl,nb,[],[]⟩):=e2;have PF14:Hid (BoxT W14 pf 71 [.int .i64 sz,.slice bs.a bs.n bs.c]):=e3;have RW14:Hid (OwnRow blE (pf+1) W14 (.slice bs.a bs.n bs.c) bl):=e4;have X14:Hid (BoxT W14 w.heap.size 40 [.slice none 0 0,.int .i64 0,.slice none 0 0,.slice none 0 0,.slice none 0 0,.slice none 0 0,.slice none 0 0,.slice none 0 0,.int .i64 0,.slice none 0 0,.slice none 0 0]):=e5;clear e1 e2 e3 e4 e5 u0 g0 gr14 op14 hI14 hI0 hx7 hne;clear hf0 hf1 hf2 hf3 hf4 hf5 hf6 hf7;obtain⟨W15,hW15⟩:∃W15,W14.setCell ⟨b,7,none⟩ (.slice da dn dc)=W15:=⟨_,rfl⟩;have hg15:W14.grownBy W15 (some b):=by rw[<-hW15];exact set_grown _ _ _ _
      have M15:Mk w hi W15 b vl13 L13 ⟨⟨some ⟨gf,0,none⟩,nf,nf⟩,⟨some ⟨gl,0,none⟩,ns,ns⟩,⟨some ⟨gsb,0,none⟩,ns,ns⟩,sli0,⟨some ⟨gdb,0,none⟩,nb,nb⟩,⟨da,dn,dc⟩,sf,sli0,sli0⟩ ⟨List.replicate nf frF,0,List.replicate ns 0,List.replicate ns zero8,[],db6.set n [p0,p1,p2,p3,p4,p5,p6,p7],dq6++ [((n:Int),[p0,p1,p2,p3,p4,p5,p6,p7])],fl,nb,[],[]⟩ sli0 []:=⟨grew_grown GW14.out hg15 F13.out.mm.hb,F13.out.mm.hb,by rw[<-hW15];exact B14.out.set 7 _,F13.out.mm.lr,F13.out.mm.lc,F13.out.mm.lb,R14.out.var hg15 B14.out hg15.size (.inl rfl)⟩
      have F15:Hid (FC w hi b W15 vl13 L13 ⟨⟨some ⟨gf,0,none⟩,nf,nf⟩,⟨some ⟨gl,0,none⟩,ns,ns⟩,⟨some ⟨gsb,0,none⟩,ns,ns⟩,sli0,⟨some ⟨gdb,0,none⟩,nb,nb⟩,⟨da,dn,dc⟩,sf,sli0,sli0⟩ ⟨List.replicate nf frF,0,List.replicate ns 0,List.replicate ns zero8,[],(db6.set n [p0,p1,p2,p3,p4,p5,p6,p7]),(dq6++ [((n:Int),[p0,p1,p2,p3,p4,p5,p6,p7])]),fl,nb,[],[]⟩ pf sz bs bl):=dD<|⟨M15,F13.out.hp,(FB14.out.kind hg15 B14.out (.inl (by decide)) (.inl (by decide))).as rfl rfl,F13.out.fn,PF14.out.kind hg15 B14.out (by decide),RW14.out.kind hg15 B14.out (by decide)⟩
      have X15:Hid (BoxT W15 w.heap.size 40 [.slice none 0 0,.int .i64 0,.slice none 0 0,.slice none 0 0,.slice none 0 0,.slice none 0 0,.slice none 0 0,.slice none 0 0,.int .i64 0,.slice none 0 0,.slice none 0 0]):=X14.out.kind hg15 B14.out (by decide)
      have HW15:Hid (_=W15):=hW15;have x7:=B14.out.box.c 7 rfl;have xf:=B14.out.box.f;clear hW15 hg15;go_wp2;rw[HW15.out]
      go_meet
      exact⟨(n:Int),vl13,L13,⟨da,dn,dc⟩,_,_,rfl,rfl,F15.out,LL13.out,X15.out,(show _/\_ from⟨FI.out.1.block (more:=true) (by rw[FI.out.2.2];exact hn) HUF.out.1 HUF.out.2,HDL.out⟩)⟩
     have hye:(y == 1)=false:=by simp[hy]
     clear hy;go_wp2
     go_meet
     exact⟨(n:Int),vl13,L13,sd6,_,_,rfl,rfl,F13.out,LL13.out,X13.out,(show _/\_ from⟨FI.out.1.block (more:=false) (by rw[FI.out.2.2];exact hn) HUF.out.1 HUF.out.2,HDL.out⟩)⟩
   obtain⟨bx,vl9,L9,sd9,db9,dq9,rfl,rfl,F9,LL9,X9,FI9⟩:=hcut;have y1:=F9.out.box.box.c 1 rfl;have HBL:Hid (bl.length=k3):=dD<|FI.out.2.1
   have HSW:Hid (pf+1<=wc.heap.size):=F9.out.box.box.lt
   go_wp2_with (at_builtin;refine wpList_append_row (E:=blE) rfl (.tmp 155) (.tmp 157) rfl (pf+1) _ bl rfl (F9.out.row.grew (grew_alloc _ _)) _ [bx] rfl (one_row blE wc bx _ _ rfl (by decide)) ?qb ?qc ?_)
   case qb=>
    rw[HBL.out]
    show(k3+1)*8<=_
    omega
   case qc=>exact nT HSW.out (bS (grew_alloc _ _))
   intro v4 W14 ow4 gr4;obtain⟨a4,c4,rfl⟩:=ow4.form;obtain⟨N4,hN4⟩:∃N4,(bl++ [bx]).length=N4:=⟨_,rfl⟩;rw[hN4]at ow4⊢;clear hN4;obtain⟨WX,hWX⟩:∃WX,wc.alloc (.cells #[.int .i64 bx] 3)=WX:=⟨_,rfl⟩;have gX:=gP hWX
   have gr4':WX.grownBy W14 (Value.slice bs.a bs.n bs.c).ownBlock:=by rw[<-hWX];exact gr4
   clear gr4 hWX;obtain⟨b14,k14,f14⟩:=(F9.out.grew gX).addB gr4' ⟨a4,N4,c4⟩ ow4;have F14:Hid (FC w hi b (W14.setCell ⟨pf,1,none⟩ (.slice a4 N4 c4)) vl9 L9 ⟨⟨some ⟨gf,0,none⟩,nf,nf⟩,⟨some ⟨gl,0,none⟩,ns,ns⟩,⟨some ⟨gsb,0,none⟩,ns,ns⟩,sli0,⟨some ⟨gdb,0,none⟩,nb,nb⟩,sd9,sf,sli0,sli0⟩ ⟨List.replicate nf frF,0,List.replicate ns 0,List.replicate ns zero8,[],db9,dq9,fl,nb,[],[]⟩ pf sz ⟨a4,N4,c4⟩ (bl++ [bx])):=f14;have X14:Hid (BoxT (W14.setCell ⟨pf,1,none⟩ (.slice a4 N4 c4)) w.heap.size 40 [.slice none 0 0,.int .i64 0,.slice none 0 0,.slice none 0 0,.slice none 0 0,.slice none 0 0,.slice none 0 0,.slice none 0 0,.int .i64 0,.slice none 0 0,.slice none 0 0]):=k14 _ _ _ (by decide) (by decide) (X9.out.grew gX)
   have B14:Hid (BoxT W14 pf 71 [.int .i64 sz,.slice bs.a bs.n bs.c]):=b14;clear b14 k14 f14 gr4' ow4 gX y1;have y1:=B14.out.box.c 1 rfl;have yf:=B14.out.box.f;go_wp2
   go_roundg (N3 -(k3+1))
   case measure=>omega
   exact⟨k3+1,vl9,L9,sd9,⟨a4,N4,c4⟩,db9,dq9,bl++ [bx],by omega,by omega,by go_num,F14.out,LL9.out,X14.out,(show _/\_ from⟨FI9.out.1,by rw[lA,HBL.out];rfl,FI9.out.2⟩)⟩
  have hltz3:¬(k3:Int)< (N3:Int):=by omega
  obtain rfl:k3=N3:=by omega
  go_upto_region 31 with fail;obtain⟨xs,q1,q2,q3⟩:=FX.out.fb;have HX:Hid (OwnRow fvE w.heap.size wr (.slice sf.a sf.n sf.c) xs):=q1;have HXL:Hid (xs.length=fl.length):=show _=_ from q2
  have HX3:Hid (∀(i:Nat) x f,xs[i]? =some x->fl[i]? =some f->x.size=f.size/\OwnRow blE hi wr x.v f.bl):=dD<|fun i x f hx hf=>(q3 i x f hx hf).1
  clear q1 q2 q3;obtain⟨fx,HFX⟩:∃fx:FlV,Hid (fx=⟨sz,bs.a,bs.n,bs.c⟩):=⟨_,rfl⟩;obtain⟨I,HI⟩:∃I:World->Prop,Hid (∀u,I u↔BoxT u b 87 [.slice vl6.a vl6.n vl6.c,.slice (some ⟨gf,0,none⟩) nf nf,.int .i64 0,.slice (some ⟨gl,0,none⟩) ns ns,.slice (some ⟨gsb,0,none⟩) ns ns,.slice none 0 0,.slice (some ⟨gdb,0,none⟩) nb nb,.slice sd6.a sd6.n sd6.c,.slice sf.a sf.n sf.c,.int .i64 (nb:Int),.slice none 0 0,.slice none 0 0,.slice none 0 0]/\BoxT u pf 71 [.int .i64 sz,.slice bs.a bs.n bs.c]):=⟨fun u=>BoxT u b 87 [.slice vl6.a vl6.n vl6.c,.slice (some ⟨gf,0,none⟩) nf nf,.int .i64 0,.slice (some ⟨gl,0,none⟩) ns ns,.slice (some ⟨gsb,0,none⟩) ns ns,.slice none 0 0,.slice (some ⟨gdb,0,none⟩) nb nb,.slice sd6.a sd6.n sd6.c,.slice sf.a sf.n sf.c,.int .i64 (nb:Int),.slice none 0 0,.slice none 0 0,.slice none 0 0]/\BoxT u pf 71 [.int .i64 sz,.slice bs.a bs.n bs.c],fun _=>Iff.rfl⟩
  have hI0:I wr.drew:=(HI.out _).2 ⟨FX.out.mm.box.grew (gW _),FX.out.box.grew (gW _)⟩
  have hx8:∀y:HoldI I,y.world.cell? ⟨b,8,none⟩=some (.slice sf.a sf.n sf.c):=fun y=>((HI.out _).1 y.holds).1.box.c 8 rfl
  have hp0:∀y:HoldI I,y.world.cell? ⟨pf,0,none⟩=some (.int .i64 sz):=fun y=>((HI.out _).1 y.holds).2.box.c 0 rfl
  have hp1:∀y:HoldI I,y.world.cell? ⟨pf,1,none⟩=some (.slice bs.a bs.n bs.c):=fun y=>((HI.out _).1 y.holds).2.box.c 1 rfl
  have hne:Nonempty (HoldI I):=⟨⟨_,hI0⟩⟩;refine wp_lax_tailD (I:=I) 14 [(8,fun v=>∃g,v= .slice (some ⟨g,0,none⟩) 1 1),(9,fun v=>∃a n c,v= .slice a n c)] (fun u=>Grew wr u) hI0 (gW _) mixed (by kernel_rfl) rfl rfl (by decide) ?hS (by kernel_rfl) ?_
  case hS=>
   intro x hx;simp only[mC,nM,or_false]at hx
   rcases hx with rfl|rfl
   ·exact⟨_,0,rfl⟩
   exact⟨_,none,0,0,rfl⟩
  simp only[List.take,List.drop];iterate 2 (refine laxD_quiet rfl rfl rfl (fun K hK=>?_);go_big_quiet_op;refine hK _ ?_;clear hK)
  refine laxD_nilc (.tmp 162) ⟨b,0,none⟩ rfl rfl rfl rfl ?_;simp only[Act.put,sB,sS,sZ];iterate 5 (refine laxD_quiet rfl rfl rfl (fun K hK=>?_);go_big_quiet_op;refine hK _ ?_;clear hK)
  refine laxD_spec rfl rfl (fun v u=>Grew wr u/\RowAt fvE u v [fx]) (fun w' hI' hF'=>?_) (fun v1 hv=>?_)
  ·exact Does.step (v:= .slice (some ⟨w'.heap.size,0,none⟩) 1 1) (w':=w'.alloc (.cells #[.int .i64 sz,.slice bs.a bs.n bs.c] 71)) (by simp only[execOp];go_simp) ⟨(HI.out _).2 ⟨((HI.out _).1 hI').1.grew (grew_alloc _ _),((HI.out _).1 hI').2.grew (grew_alloc _ _)⟩,⟨_,rfl⟩,hF'.trans (grew_alloc _ _),one_row fvE w' fx _ _ (by rw[HFX.out];rfl) (by decide)⟩
  obtain⟨g5,rfl⟩:=hv;simp only[Act.put,sB,sS,sZ];refine laxD_spec rfl rfl (fun v u=>∃u0,Grew wr u0/\u0.grownBy u (Value.slice sf.a sf.n sf.c).ownBlock/\OwnRow fvE w.heap.size u v (xs++ [fx])) (fun w' hI' hF'=>?_) (fun v1 hv=>?_)
  ·obtain⟨hg',hrw⟩:=hF';obtain⟨v',w2,hrun,ho,hgr,-⟩:=run_append_keeps (E:=fvE) (w:=w') 34 (HX.out.grew hg') (.slice (some ⟨g5,0,none⟩) 1 1) [fx] hrw (by have:=HXL.out;have:=HFL.out;rw[HXL.out];show(fl.length+1)*32<=_;omega) (nT (bS FX.out.mm.gr) (bS hg'))
   obtain⟨a',c',rfl⟩:=ho.form;have hbx:I w2:=by
    cases hob:(Value.slice sf.a sf.n sf.c).ownBlock with
    | none=>
     rw[hob]at hgr;exact(HI.out _).2 ⟨((HI.out _).1 hI').1.grew (grown_none hgr),((HI.out _).1 hI').2.grew (grown_none hgr)⟩
    | some gq=>
     rw[hob]at hgr;obtain⟨cs,hc⟩:=(HX.out.grew hg').obj hob;have hlt:=FX.out.fn gq hob;exact(HI.out _).2 ⟨((HI.out _).1 hI').1.kind hgr hc (by decide),((HI.out _).1 hI').2.beside hgr (fun k e=>by cases e;omega)⟩
   refine Does.step (v:= .slice a' (xs++ [fx]).length c') (w':=w2) ?_ ⟨hbx,⟨a',_,c',rfl⟩,w',hg',hgr,ho⟩;simp only[execOp,resolve,invoke,builtin,pure_bind,Sem.run_bind,Sem.run_pure,List.map_toArray,mP,List.map_nil];exact Eq.trans (congrArg (fun r=>Result.andThen r (fun a w'=>Result.ok (Next.value a) w')) hrun) rfl
  obtain⟨fa,fn,fc,rfl⟩:=hv;simp only[Act.put,sB,sS,sZ];refine laxD_nilc (.tmp 161) ⟨b,0,none⟩ rfl rfl rfl rfl ?_;simp only[Act.put,sB,sS,sZ];iterate 3 (refine laxD_quiet rfl rfl rfl (fun K hK=>?_);go_big_quiet_op;refine hK _ ?_;clear hK)
  refine laxD_nil fun W14 hI14 hF14=>?_
  obtain⟨u0,g0,gr14,op14⟩:=hF14;have B14:Hid (BoxT W14 b 87 [.slice vl6.a vl6.n vl6.c,.slice (some ⟨gf,0,none⟩) nf nf,.int .i64 0,.slice (some ⟨gl,0,none⟩) ns ns,.slice (some ⟨gsb,0,none⟩) ns ns,.slice none 0 0,.slice (some ⟨gdb,0,none⟩) nb nb,.slice sd6.a sd6.n sd6.c,.slice sf.a sf.n sf.c,.int .i64 (nb:Int),.slice none 0 0,.slice none 0 0,.slice none 0 0]):=((HI.out _).1 hI14).1;have R14:Hid (MkR w.heap.size hi W14 ⟨⟨some ⟨gf,0,none⟩,nf,nf⟩,⟨some ⟨gl,0,none⟩,ns,ns⟩,⟨some ⟨gsb,0,none⟩,ns,ns⟩,sli0,⟨some ⟨gdb,0,none⟩,nb,nb⟩,sd6,⟨fa,fn,fc⟩,sli0,sli0⟩ ⟨List.replicate nf frF,0,List.replicate ns 0,List.replicate ns zero8,[],db6,dq6,fl++ [⟨sz,bl⟩],nb,[],[]⟩ sli0 []):=(FX.out.mm.rows.grew g0).addFl (HX.out.grew g0) HXL.out (fun i x f hx hf=>⟨(HX3.out i x f hx hf).1,(HX3.out i x f hx hf).2.grew g0⟩) gr14 ⟨fa,fn,fc⟩ (x:=fx) (f:=⟨sz,bl⟩) (by rw[HFX.out]) (by rw[HFX.out];exact(FX.out.row.grew g0).base (by have:=FX.out.hp;omega)) op14
  have hk14:Grew w W14/\BoxT W14 w.heap.size 40 [.slice none 0 0,.int .i64 0,.slice none 0 0,.slice none 0 0,.slice none 0 0,.slice none 0 0,.slice none 0 0,.slice none 0 0,.int .i64 0,.slice none 0 0,.slice none 0 0]:=by
   cases hob:(Value.slice sf.a sf.n sf.c).ownBlock with
   | none=>
    rw[hob]at gr14;exact⟨(FX.out.mm.gr.trans g0).trans (grown_none gr14),(XX.out.grew g0).grew (grown_none gr14)⟩
   | some gq=>
    rw[hob]at gr14;obtain⟨cs,hc⟩:=(HX.out.grew g0).obj hob;exact⟨grew_grown (FX.out.mm.gr.trans g0) gr14 ((HX.out.grew g0).lt gq hob).1,(XX.out.grew g0).kind gr14 hc (by decide)⟩
  obtain⟨e1,e5⟩:=hk14;have hg15:=set_grown W14 b 8 (.slice fa fn fc);have M15:Hid (Mk w hi (W14.setCell ⟨b,8,none⟩ (.slice fa fn fc)) b vl6 L6 ⟨⟨some ⟨gf,0,none⟩,nf,nf⟩,⟨some ⟨gl,0,none⟩,ns,ns⟩,⟨some ⟨gsb,0,none⟩,ns,ns⟩,sli0,⟨some ⟨gdb,0,none⟩,nb,nb⟩,sd6,⟨fa,fn,fc⟩,sli0,sli0⟩ ⟨List.replicate nf frF,0,List.replicate ns 0,List.replicate ns zero8,[],db6,dq6,fl++ [⟨sz,bl⟩],nb,[],[]⟩ sli0 []):=dD<|⟨grew_grown e1 hg15 FX.out.mm.hb,FX.out.mm.hb,B14.out.set 8 _,FX.out.mm.lr,FX.out.mm.lc,FX.out.mm.lb,R14.out.var hg15 B14.out hg15.size (.inl rfl)⟩
  have X15:Hid (BoxT (W14.setCell ⟨b,8,none⟩ (.slice fa fn fc)) w.heap.size 40 [.slice none 0 0,.int .i64 0,.slice none 0 0,.slice none 0 0,.slice none 0 0,.slice none 0 0,.slice none 0 0,.slice none 0 0,.int .i64 0,.slice none 0 0,.slice none 0 0]):=e5.kind hg15 B14.out (by decide)
  have FI15:Hid (FInv (fl++ [⟨sz,bl⟩]) nb db6 dq6 []/\(fl++ [(⟨sz,bl⟩:Fl)]).length<=k2+1/\db6.length=nb/\∀f∈fl++ [(⟨sz,bl⟩:Fl)],f.size<40):=dD<|⟨FI.out.1.file (by have:=HFL.out;omega) (by have:=HSZ.out;omega) (by rw[FI.out.2.1,HN3.out]),by have:=HFL.out;simp;omega,FI.out.2.2,fun f hf=>by
   rcases List.mem_append.1 hf with hf|hf
   ·exact HF40.out f hf
   simp only[mC,nM,or_false]at hf;rw[hf];exact HSZ.out.2⟩
  clear u0 g0 gr14 op14 e1 e5 hg15 hI14 hI0 hx8 hp0 hp1 hne;have x8:=B14.out.box.c 8 rfl;have xf:=B14.out.box.f;go_wp2
  go_roundg (c -(k2+1))
  case measure=>omega
  exact⟨k2+1,vl6,L6,sd6,⟨fa,fn,fc⟩,db6,dq6,fl++ [(⟨sz,bl⟩:Fl)],by omega,by omega,by go_num,M15.out,LX.out,X15.out,FI15.out,(fun h=>absurd h (Nat.succ_ne_zero _))⟩
 have hltz2:¬(k2:Int)< (c:Int):=by omega
 have BI:Hid (BInv ⟨List.replicate nf frF,0,List.replicate ns 0,List.replicate ns zero8,[],db,dq,fl,nb,[],[]⟩ []):=FW.out.1.start hnf40 hns60 0;have HFL2:Hid (fl.length<=2/\∀f∈fl,f.size<40):=show _/\_ from⟨by have:=FW.out.2.1;omega,FW.out.2.2.2⟩
 have HE0:Hid (L=[]->fl=[]/\dq=[]/\db=List.replicate nb zero8):=dD<|fun e=>ZW.out (by have:=HC0.out e;omega)
 have hpk3:=pick_any 2 MW.out;go_wp2_with fail;refine hpk3.mono ?_;clear hpk3;rintro e W4 ⟨vl4,L4,y,rfl,mk4,gr4,-,s0,s1,s2,ll4⟩;obtain⟨n5,hn5⟩:∃n5:Nat,1+y=(n5:Int):=⟨(1+y).toNat,by omega⟩
 have hn52:n5<=2:=by rcases s1 with h | h <;> omega
 have hn51:1<=n5:=by omega
 have HN1:Hid (L=[]->n5=1):=dD<|fun e=>by have:=s2 (LW.out e);omega
 have M4:Hid (Mk w hi W4 b vl4 L4 ⟨⟨some ⟨gf,0,none⟩,nf,nf⟩,⟨some ⟨gl,0,none⟩,ns,ns⟩,⟨some ⟨gsb,0,none⟩,ns,ns⟩,sli0,⟨some ⟨gdb,0,none⟩,nb,nb⟩,sd,sf,sli0,sli0⟩ ⟨List.replicate nf frF,0,List.replicate ns 0,List.replicate ns zero8,[],db,dq,fl,nb,[],[]⟩ sli0 []):=mk4;have X4:Hid (BoxT W4 w.heap.size 40 [.slice none 0 0,.int .i64 0,.slice none 0 0,.slice none 0 0,.slice none 0 0,.slice none 0 0,.slice none 0 0,.slice none 0 0,.int .i64 0,.slice none 0 0,.slice none 0 0]):=XW.out.beside gr4 (fun g e=>by cases e;have:=HBB.out;omega)
 have LL4:=dD (LW.out.trans ll4);clear mk4 gr4 ll4 s0 s1 s2;go_wp2
 go_loopg [179] n5 (fun gg s179 wr=>∃(k5:Nat) (vl':Sli) (L':List Int) (V':MaV) (m':Ma) (vt':Sli) (T':List (Nat->En)),k5<=n5/\n5 - k5<=gg/\s179= .int .i64 k5/\Hid (Mk w hi wr b vl' L' V' m' vt' T')/\Hid (Less L L')/\Hid (BoxT wr w.heap.size 40 [.slice none 0 0,.int .i64 0,.slice none 0 0,.slice none 0 0,.slice none 0 0,.slice none 0 0,.slice none 0 0,.slice none 0 0,.int .i64 0,.slice none 0 0,.slice none 0 0])/\Hid (BInv m' T')/\Hid (m'.sp.length=k5/\(∀s∈m'.sp,FilesIn m'.fl.length s.ars/\areaTo s.ars 64<=12)/\m'.hand=0/\m'.fs.length=nf/\(m'.fl.length<=2/\∀f∈m'.fl,f.size<40))/\Hid (L=[]->m'=newMk nf ns nb k5/\T'=List.replicate k5 (fun _=>en0)))
 case atStart=>exact⟨0,vl4,L4,_,_,_,_,nZ _,by omega,rfl,M4.out,LL4.out,X4.out,BI.out,(show _/\_ from⟨rfl,fun s hs=>(by cases hs),rfl,lR,HFL2.out⟩),(show _->_ from fun e=>by obtain⟨a1,a2,a3⟩:=HE0.out e;rw[a1,a2,a3];exact⟨rfl,rfl⟩)⟩
 obtain⟨k5,vl5,L5,V5,m5,vt5,T5,hk5,hg5,rfl,MX,LX,XX,BX5,S5,E5⟩:=hrel;have HL5:Hid (m5.sp.length=k5):=S5.out.1
 by_cases hlt5:k5<n5
 ·have hltz5:(k5:Int)< (n5:Int):=by omega
  by_cases h1:k5=1
  ·subst h1;have HL1:Hid (L≠[]):=dD<|fun e=>by have:=HN1.out e;omega
   have h1e:((((1:Nat):Int)) == 1)=true:=by decide
   have hpk4:=pick_any 2 MX.out;go_wp2_with fail;refine hpk4.mono ?_;clear hpk4;rintro e W7 ⟨vl7,L7,z,rfl,mk7,gr7,-,-,-,-,ll7⟩;have M7:Hid (Mk w hi W7 b vl7 L7 V5 m5 vt5 T5):=mk7;have X7:Hid (BoxT W7 w.heap.size 40 [.slice none 0 0,.int .i64 0,.slice none 0 0,.slice none 0 0,.slice none 0 0,.slice none 0 0,.slice none 0 0,.slice none 0 0,.int .i64 0,.slice none 0 0,.slice none 0 0]):=XX.out.beside gr7 (fun g e=>by cases e;have:=HBB.out;omega)
   have LL7:=dD (LX.out.trans ll7);clear mk7 gr7 ll7;obtain⟨MX,LX,XX⟩:Hid (Mk w hi W7 b vl7 L7 V5 m5 vt5 T5)/\Hid (Less L L7)/\Hid (BoxT W7 w.heap.size 40 [.slice none 0 0,.int .i64 0,.slice none 0 0,.slice none 0 0,.slice none 0 0,.slice none 0 0,.slice none 0 0,.slice none 0 0,.int .i64 0,.slice none 0 0,.slice none 0 0]):=⟨M7,LL7,X7⟩
   by_cases hz:z=1
   ·have hze:(z == 1)=true:=by simp[hz]
    clear hz;obtain⟨s0,hs0⟩:=List.length_eq_one_iff.1 HL5.out;have HS0:Hid (m5.sp=[s0]):=hs0;clear hs0;have hfk:=fork_any s0 MX.out BX5.out HS0.out;go_wp2_with fail;refine hfk.mono ?_;clear hfk;rintro e W9 ⟨⟨v,rfl⟩,V9,m9,vt9,T9,q1,q3,q4,⟨q5,q6,q7,q8⟩⟩;have M9:Hid (Mk w hi W9 b vl7 L7 V9 m9 vt9 T9):=q1;have X9:Hid (BoxT W9 w.heap.size 40 [.slice none 0 0,.int .i64 0,.slice none 0 0,.slice none 0 0,.slice none 0 0,.slice none 0 0,.slice none 0 0,.slice none 0 0,.int .i64 0,.slice none 0 0,.slice none 0 0]):=q3.1 _ _ _ XX.out loc_mach;have B9:Hid (BInv m9 T9):=q4;have S9:Hid (m9.sp.length=1+1/\(∀s∈m9.sp,FilesIn m9.fl.length s.ars/\areaTo s.ars 64<=12)/\m9.hand=0/\m9.fs.length=nf/\(m9.fl.length<=2/\∀f∈m9.fl,f.size<40)):=show _/\_ from⟨by rw[q5,HS0.out];rfl,fun s hs=>by
     rw[q5]at hs;rw[q6]
     rcases List.mem_append.1 hs with hs|hs
     ·exact S5.out.2.1 s hs
     simp only[mC,nM,or_false]at hs;rw[hs];exact S5.out.2.1 s0 (by rw[HS0.out];simp),q7.trans S5.out.2.2.1,q8.trans S5.out.2.2.2.1,by rw[q6];exact S5.out.2.2.2.2⟩
    have E9:Hid (L=[]->m9=newMk nf ns nb (1+1)/\T9=List.replicate (1+1) (fun _=>en0)):=dD<|fun e=>absurd e HL1.out
    clear q1 q3 q4 q5 q6 q7 q8;go_wp2
    go_roundg (n5 -(1+1))
    case measure=>omega
    exact⟨1+1,vl7,L7,V9,m9,vt9,T9,by omega,by omega,by go_num,M9.out,LX.out,X9.out,B9.out,S9.out,E9.out⟩
   have hze:(z == 1)=false:=by simp[hz]
   clear hz;have hsp:=space_any MX.out BX5.out (by rw[HL5.out];omega)
   go_wp2_with fail;refine hsp.mono ?_;clear hsp;rintro e W9 ⟨⟨v,rfl⟩,vl9,L9,V9,m9,vt9,T9,l9,q1,q2,q3,q4,⟨q5,q6,q7,q8⟩,q9,q10⟩;have M9:Hid (Mk w hi W9 b vl9 L9 V9 m9 vt9 T9):=q1;have LL9:=dD (LX.out.trans q2);have X9:Hid (BoxT W9 w.heap.size 40 [.slice none 0 0,.int .i64 0,.slice none 0 0,.slice none 0 0,.slice none 0 0,.slice none 0 0,.slice none 0 0,.slice none 0 0,.int .i64 0,.slice none 0 0,.slice none 0 0]):=q3.1 _ _ _ XX.out loc_mach;have B9:Hid (BInv m9 T9):=q4;have S9:Hid (m9.sp.length=1+1/\(∀s∈m9.sp,FilesIn m9.fl.length s.ars/\areaTo s.ars 64<=12)/\m9.hand=0/\m9.fs.length=nf/\(m9.fl.length<=2/\∀f∈m9.fl,f.size<40)):=show _/\_ from⟨by rw[q5,lA,HL5.out];rfl,fun s hs=>by
    rw[q5]at hs;rw[q6]
    rcases List.mem_append.1 hs with hs|hs
    ·exact S5.out.2.1 s hs
    simp only[mC,nM,or_false]at hs;rw[hs];exact q9,q7.trans S5.out.2.2.1,q8.trans S5.out.2.2.2.1,by rw[q6];exact S5.out.2.2.2.2⟩
   have E9:Hid (L=[]->m9=newMk nf ns nb (1+1)/\T9=List.replicate (1+1) (fun _=>en0)):=dD<|fun e=>absurd e HL1.out
   clear q1 q2 q3 q4 q5 q6 q7 q8 q9 q10;go_wp2
   go_roundg (n5 -(1+1))
   case measure=>omega
   exact⟨1+1,vl9,L9,V9,m9,vt9,T9,by omega,by omega,by go_num,M9.out,LL9.out,X9.out,B9.out,S9.out,E9.out⟩
  obtain rfl:k5=0:=by omega
  have h1e:((((0:Nat):Int)) == 1)=false:=by decide
  have hsp:=space_any MX.out BX5.out (by rw[HL5.out];omega)
  go_wp2_with fail;refine hsp.mono ?_;clear hsp;rintro e W9 ⟨⟨v,rfl⟩,vl9,L9,V9,m9,vt9,T9,l9,q1,q2,q3,q4,⟨q5,q6,q7,q8⟩,q9,q10⟩;have M9:Hid (Mk w hi W9 b vl9 L9 V9 m9 vt9 T9):=q1;have LL9:=dD (LX.out.trans q2);have X9:Hid (BoxT W9 w.heap.size 40 [.slice none 0 0,.int .i64 0,.slice none 0 0,.slice none 0 0,.slice none 0 0,.slice none 0 0,.slice none 0 0,.slice none 0 0,.int .i64 0,.slice none 0 0,.slice none 0 0]):=q3.1 _ _ _ XX.out loc_mach;have B9:Hid (BInv m9 T9):=q4;have S9:Hid (m9.sp.length=0+1/\(∀s∈m9.sp,FilesIn m9.fl.length s.ars/\areaTo s.ars 64<=12)/\m9.hand=0/\m9.fs.length=nf/\(m9.fl.length<=2/\∀f∈m9.fl,f.size<40)):=show _/\_ from⟨by rw[q5,lA,HL5.out];rfl,fun s hs=>by
   rw[q5]at hs;rw[q6]
   rcases List.mem_append.1 hs with hs|hs
   ·exact S5.out.2.1 s hs
   simp only[mC,nM,or_false]at hs;rw[hs];exact q9,q7.trans S5.out.2.2.1,q8.trans S5.out.2.2.2.1,by rw[q6];exact S5.out.2.2.2.2⟩
  have E9:Hid (L=[]->m9=newMk nf ns nb (0+1)/\T9=List.replicate (0+1) (fun _=>en0)):=dD<|fun e=>by
   obtain⟨a1,a2⟩:=q10 (LX.out e);obtain⟨b1,b2⟩:=E5.out e;rw[b1]at a1;rw[b2]at a2;exact⟨a1,a2⟩
  clear q1 q2 q3 q4 q5 q6 q7 q8 q9 q10;go_wp2
  go_roundg (n5 -(0+1))
  case measure=>omega
  exact⟨0+1,vl9,L9,V9,m9,vt9,T9,by omega,by omega,by go_num,M9.out,LL9.out,X9.out,B9.out,S9.out,E9.out⟩
 have hltz5:¬(k5:Int)< (n5:Int):=by omega
 obtain⟨ys0,z1,z2,-⟩:=MX.out.rows.sp;have HN5:Hid (V5.sp.n=k5):=dD<|by rw[z1.n,z2,HL5.out]
 obtain⟨ht,HHT⟩:∃ht,Hid (wr.heap.size=ht):=⟨_,rfl⟩;have HBT:Hid (b<ht):=dD<|by rw[<-HHT.out];exact MX.out.box.box.lt
 have HXT:Hid (w.heap.size<ht):=dD<|by rw[<-HHT.out];exact XX.out.box.lt
 have HZ1:Hid (∀g,(Value.slice V5.sp.a V5.sp.n V5.sp.c).ownBlock=some g->g<ht):=dD<|fun g hg=>by rw[<-HHT.out];exact(z1.lt g hg).2
 have NX:Hid (Nums w wr b vl5 L5 [.slice V5.f.a V5.f.n V5.f.c,.int .i64 m5.hand,.slice V5.s.a V5.s.n V5.s.c,.slice V5.sb.a V5.sb.n V5.sb.c,.slice V5.sq.a V5.sq.n V5.sq.c,.slice V5.db.a V5.db.n V5.db.c,.slice V5.dq.a V5.dq.n V5.dq.c,.slice V5.fl.a V5.fl.n V5.fl.c,.int .i64 m5.cnt,.slice V5.ca.a V5.ca.n V5.ca.c,.slice V5.sp.a V5.sp.n V5.sp.c,.slice vt5.a vt5.n vt5.c]):=MX.out.nums;have TX:Hid (MkT w.heap.size hi ht 0 wr V5 m5 vt5 T5):=MX.out.rows.start ht HHT.out;have HTL:Hid (T5.length=k5):=show _=_ by rw[BX5.out.tl,HL5.out]
 have HK:Hid (∀(p:Nat) f,T5[p]? =some f->∀e∈tab f,0<=e.kind):=dD<|fun p f hf e he=>by
  obtain⟨j,hj⟩:=List.getElem?_of_mem he;have hj64:j<64:=by have:=(gS.1 hj).1;rw[tab_len]at this;exact this
  rw[tab_at hj64]at hj;cases hj;have hp:p<m5.sp.length:=by rw[<-BX5.out.tl];exact(gS.1 hf).1
  rcases BX5.out.ent p _ f (gE hp) hf j hj64 with e|e
  ·rw[e];decide
  by_cases hk:(f j).kind=2
  ·omega
  have:=(entE_present e hk).1;omega
 have x11:=MX.out.box.box.c 11 rfl;rw[HN5.out]at x11;clear z1 z2 ys0;go_wp2;clear x11
 go_loopg [200] k5 (fun gg s200 wr=>∃p:Nat,p<=k5/\k5 - p<=gg/\s200= .int .i64 p/\Hid (MkT w.heap.size hi ht p wr V5 m5 vt5 T5)/\Hid (Nums w wr b vl5 L5 [.slice V5.f.a V5.f.n V5.f.c,.int .i64 m5.hand,.slice V5.s.a V5.s.n V5.s.c,.slice V5.sb.a V5.sb.n V5.sb.c,.slice V5.sq.a V5.sq.n V5.sq.c,.slice V5.db.a V5.db.n V5.db.c,.slice V5.dq.a V5.dq.n V5.dq.c,.slice V5.fl.a V5.fl.n V5.fl.c,.int .i64 m5.cnt,.slice V5.ca.a V5.ca.n V5.ca.c,.slice V5.sp.a V5.sp.n V5.sp.c,.slice vt5.a vt5.n vt5.c])/\Hid (BoxT wr w.heap.size 40 [.slice none 0 0,.int .i64 0,.slice none 0 0,.slice none 0 0,.slice none 0 0,.slice none 0 0,.slice none 0 0,.slice none 0 0,.int .i64 0,.slice none 0 0,.slice none 0 0])/\Hid (ht<=wr.heap.size))
 case atStart=>exact⟨0,nZ _,by omega,rfl,TX.out,NX.out,XX.out,(show _<=_ by rw[HHT.out];exact nR _)⟩
 obtain⟨p,hp,hg6,rfl,TW,NW,XW,HW⟩:=hrel
 by_cases hlt6:p<k5
 ·have hltz6:(p:Int)< (k5:Int):=by omega
  obtain⟨f,HF⟩:∃f,Hid (T5[p]? =some f):=⟨_,gE (by rw[HTL.out];exact hlt6)⟩
  obtain⟨ys,s1,s2,s3⟩:=TW.out.sp;have hyl:ys.length=k5:=by rw[s2,HL5.out]
  obtain⟨x,HX⟩:∃x,Hid (ys[p]? =some x):=⟨_,gE (by omega)⟩
  obtain⟨gs,cs,hse⟩:=s1.formS (by omega)
  rw[hyl]at hse;have HSE:Hid (Value.slice V5.sp.a V5.sp.n V5.sp.c=(.slice (some ⟨gs,0,none⟩) k5 cs)):=hse;obtain⟨gt,ct,hte⟩:=TW.out.tt.formS (by rw[HTL.out];omega)
  rw[HTL.out]at hte;have HTE:Hid (Value.slice vt5.a vt5.n vt5.c=(.slice (some ⟨gt,0,none⟩) k5 ct)):=hte;have S1:Hid (OwnRow spcE w.heap.size wr (.slice (some ⟨gs,0,none⟩) k5 cs) ys):=show OwnRow _ _ _ _ _ by rw[<-HSE.out];exact s1
  have R1:Hid (OwnRow flaE w.heap.size wr (.slice (some ⟨gt,0,none⟩) k5 ct) T5):=dD<|by rw[<-HTE.out];exact TW.out.tt
  have S2:Hid (ys.length=m5.sp.length):=s2;have S3:Hid (∀(i:Nat) x s f,ys[i]? =some x->m5.sp[i]? =some s->T5[i]? =some f->x.live=s.live/\OwnRow arE w.heap.size wr x.ar.v s.ars/\(i<p->TabS 0 ht wr x.tab (tabOf f))/\(p<=i->x.tab=nil8)):=show∀i,_ from s3
  clear s1 s2 s3 hse hte hyl;go_upto_region 43 with fail;obtain⟨I,HI⟩:∃I:World->Prop,Hid (∀u,I u↔Grew wr u):=⟨fun u=>Grew wr u,fun _=>Iff.rfl⟩
  have hI0:I wr.drew:=(HI.out _).2 (gW _)
  have hx11:∀y:HoldI I,y.world.cell? ⟨b,11,none⟩=some (.slice (some ⟨gs,0,none⟩) k5 cs):=fun y=>by
   have:=(NW.out.box.box.grew ((HI.out _).1 y.holds)).c 11 rfl;rw[HSE.out]at this;exact this
  have hx12:∀y:HoldI I,y.world.cell? ⟨b,12,none⟩=some (.slice (some ⟨gt,0,none⟩) k5 ct):=fun y=>by
   have:=(NW.out.box.box.grew ((HI.out _).1 y.holds)).c 12 rfl;rw[HTE.out]at this;exact this
  have hne:Nonempty (HoldI I):=⟨⟨_,hI0⟩⟩;refine wp_lax_tailD (I:=I) 16 [(13,fun v=>∃us:List Value,v= .agg us.toArray)] (fun _=>True) hI0 trivial mixed (by kernel_rfl) rfl rfl (by decide) ?hS (by kernel_rfl) ?_
  case hS=>
   intro x hx;simp only[mC,nM,or_false]at hx;subst hx;exact⟨_,[],rfl⟩
  simp only[List.take,List.drop];iterate 1 (refine laxD_quiet rfl rfl rfl (fun K hK=>?_);go_big_quiet_op;refine hK _ ?_;clear hK)
  refine laxD_nilc (.tmp 203) ⟨b,0,none⟩ rfl rfl rfl rfl ?_;simp only[Act.put,sB,sS,sZ];iterate 5 (refine laxD_quiet rfl rfl rfl (fun K hK=>?_);go_big_quiet_op;refine hK _ ?_;clear hK)
  refine laxD_nilc (.tmp 209) ⟨b,0,none⟩ rfl rfl rfl rfl ?_;simp only[Act.put,sB,sS,sZ];iterate 4 (refine laxD_quiet rfl rfl rfl (fun K hK=>?_);go_big_quiet_op;refine hK _ ?_;clear hK)
  refine laxD_val (.agg (cellsL (tab f)).toArray) rfl rfl (fun u hu=>run_flatMid (.tmp 214) rfl gt (p*192) rfl ((R1.out.grew ((HI.out _).1 hu)).range HF.out) (by rw[cellsL_len,tab_len])) ?_
  simp only[Act.put,sB,sS,sZ];refine laxD_spec rfl rfl (fun v u=>∃us:List Value,v= .agg us.toArray/\TabS 0 ht u us (tabOf f)) (fun w' hI' _=>?_) (fun v1 hv=>?_)
  ·refine Does.call [.agg (cellsL (tab f)).toArray] rfl func33 rfl rfl rfl ?_;refine(tableOf_any (tab f) w' (tab_len f) (HK.out p f HF.out)).mono ?_;rintro e w'' ⟨us,rfl,ht1,ht2⟩;exact⟨_,rfl,(HI.out _).2 (((HI.out _).1 hI').trans ht2),⟨us,rfl⟩,us,rfl,ht1.less (nR _) (nT HW.out (bS ((HI.out _).1 hI')))⟩
  obtain⟨us,rfl⟩:=hv;simp only[Act.put,sB,sS,sZ];iterate 2 (refine laxD_quiet rfl rfl rfl (fun K hK=>?_);go_big_quiet_op;refine hK _ ?_;clear hK)
  refine laxD_nil fun W1 hI1 hF1=>?_
  obtain⟨us',hus,ht1⟩:=hF1;have hue:us=us':=by
   simp only[Value.agg.injEq]at hus
   simpa using congrArg Array.toList hus
  subst hue;obtain⟨t0,t1,t2,t3,t4,t5,t6,t7,rfl⟩:=tabS_form ht1;have g1:=(HI.out _).1 hI1;have T1:Hid (TabS 0 ht W1 [t0.v,t1.v,t2.v,t3.v,t4.v,t5.v,t6.v,t7.v] (tabOf f)):=ht1;have G1:Hid (Grew wr W1):=g1;clear hus ht1 g1 hI1 hI0 hx11 hx12 hne;refine wpList_store_part (E:=spcE) rfl (.tmp 218) (.tmp 216) 63 rfl w.heap.size _ ys (S1.out.grew G1.out) gs p 2 rfl x ⟨x.live,x.ar,t0,t1,t2,t3,t4,t5,t6,t7⟩ HX.out [t0.v,t1.v,t2.v,t3.v,t4.v,t5.v,t6.v,t7.v] (by kernel_rfl) rfl (by show 2+8<=10;omega) (fun u hu=>by simp only[mC,nM,or_false]at hu;rcases hu with rfl | rfl | rfl | rfl | rfl | rfl | rfl | rfl <;> rfl) _ rfl (by first | rfl | simp) _ rfl rfl ?_
  intro W2 ow2 gr2 sz2;obtain⟨cs',hcs⟩:=(S1.out.grew G1.out).obj (g:=gs) rfl;have hgl:gs<ht:=HZ1.out gs (by rw[HSE.out];rfl)
  have T2:Hid (MkT w.heap.size hi ht (p+1) W2 V5 m5 vt5 T5):=(TW.out.grew G1.out).table S2.out (fun i x s f hx hs hf=>by
   obtain⟨a1,a2,a3,a4⟩:=S3.out i x s f hx hs hf;exact⟨a1,a2.grew G1.out,fun e=>(a3 e).grew G1.out,a4⟩) hcs hgl gr2 HX.out HF.out (y:=⟨x.live,x.ar,t0,t1,t2,t3,t4,t5,t6,t7⟩) ⟨rfl,rfl⟩ (T1.out.out (Out.grown gr2 (fun g e=>by cases e;exact⟨nZ _,hgl⟩))) (by rw[HSE.out];exact ow2)
  have N2:Hid (Nums w W2 b vl5 L5 [.slice V5.f.a V5.f.n V5.f.c,.int .i64 m5.hand,.slice V5.s.a V5.s.n V5.s.c,.slice V5.sb.a V5.sb.n V5.sb.c,.slice V5.sq.a V5.sq.n V5.sq.c,.slice V5.db.a V5.db.n V5.db.c,.slice V5.dq.a V5.dq.n V5.dq.c,.slice V5.fl.a V5.fl.n V5.fl.c,.int .i64 m5.cnt,.slice V5.ca.a V5.ca.n V5.ca.c,.slice V5.sp.a V5.sp.n V5.sp.c,.slice vt5.a vt5.n vt5.c]):=dD<|⟨grew_grown (NW.out.gr.trans G1.out) gr2 ((S1.out.grew G1.out).lt gs rfl).1,NW.out.hb,(NW.out.box.grew G1.out).beside gr2 (fun g e=>by cases e;exact(S1.out.grew G1.out).ne (NW.out.box.grew G1.out) (by decide) gs rfl),NW.out.lr,NW.out.lc,NW.out.lb⟩
  have X2:Hid (BoxT W2 w.heap.size 40 [.slice none 0 0,.int .i64 0,.slice none 0 0,.slice none 0 0,.slice none 0 0,.slice none 0 0,.slice none 0 0,.slice none 0 0,.int .i64 0,.slice none 0 0,.slice none 0 0]):=(XW.out.grew G1.out).beside gr2 (fun g e=>by cases e;exact(S1.out.grew G1.out).ne (XW.out.grew G1.out) (by decide) gs rfl)
  have H2:Hid (ht<=W2.heap.size):=dD<|by rw[sz2];exact nT HW.out (bS G1.out)
  clear ow2 gr2 sz2 hcs hgl;go_wp2
  go_roundg (k5 -(p+1))
  case measure=>omega
  exact⟨p+1,by omega,by omega,by go_num,T2.out,N2.out,X2.out,H2.out⟩
 have hltz6:¬(p:Int)< (k5:Int):=by omega
 obtain rfl:k5=p:=by omega
 have HSPL:Hid (1<=m5.sp.length/\m5.sp.length<=2):=dD<|by rw[HL5.out];omega
 by_cases h0:0<nf
 ·have h0d:decide ((0:Int)< (nf:Int))=true:=by simp;omega
  have hpk:=pick_raw (nf:Int) NW.out;go_wp2_with fail;refine hpk.mono ?_;clear hpk;rintro e W20 ⟨vl20,L20,y,rfl,nm20,gr20,-,y0,y1,yn,-⟩;have T20:Hid (MkT w.heap.size hi ht k5 W20 V5 m5 vt5 T5):=TW.out.other gr20 NW.out.box HBT.out (.inl rfl);have X20:Hid (BoxT W20 w.heap.size 40 [.slice none 0 0,.int .i64 0,.slice none 0 0,.slice none 0 0,.slice none 0 0,.slice none 0 0,.slice none 0 0,.slice none 0 0,.int .i64 0,.slice none 0 0,.slice none 0 0]):=XW.out.kind gr20 NW.out.box (by decide)
  have N20:Hid (Nums w W20 b vl20 L20 [.slice V5.f.a V5.f.n V5.f.c,.int .i64 m5.hand,.slice V5.s.a V5.s.n V5.s.c,.slice V5.sb.a V5.sb.n V5.sb.c,.slice V5.sq.a V5.sq.n V5.sq.c,.slice V5.db.a V5.db.n V5.db.c,.slice V5.dq.a V5.dq.n V5.dq.c,.slice V5.fl.a V5.fl.n V5.fl.c,.int .i64 m5.cnt,.slice V5.ca.a V5.ca.n V5.ca.c,.slice V5.sp.a V5.sp.n V5.sp.c,.slice vt5.a vt5.n vt5.c]):=nm20;have HY:Hid (0<=y/\y<max (m5.fs.length:Int) 1):=show _/\_ from⟨y0,by rw[S5.out.2.2.2.1];omega⟩
  have HY0:Hid (L=[]->y=0):=dD<|fun e=>yn (LX.out e)
  clear nm20 gr20 y0 y1 yn;have x2:=N20.out.box.box.c 2 rfl;have xf:=N20.out.box.box.f;go_upto_region 47 with fail;clear x2 xf;obtain⟨W21,hW21⟩:∃W21,W20.setCell ⟨b,2,none⟩ (.int .i64 y)=W21:=⟨_,rfl⟩;have hg21:W20.grownBy W21 (some b):=by rw[<-hW21];exact set_grown _ _ _ _
  have B21:Hid (BoxT W21 b 87 [.slice vl20.a vl20.n vl20.c,.slice V5.f.a V5.f.n V5.f.c,.int .i64 y,.slice V5.s.a V5.s.n V5.s.c,.slice V5.sb.a V5.sb.n V5.sb.c,.slice V5.sq.a V5.sq.n V5.sq.c,.slice V5.db.a V5.db.n V5.db.c,.slice V5.dq.a V5.dq.n V5.dq.c,.slice V5.fl.a V5.fl.n V5.fl.c,.int .i64 m5.cnt,.slice V5.ca.a V5.ca.n V5.ca.c,.slice V5.sp.a V5.sp.n V5.sp.c,.slice vt5.a vt5.n vt5.c]):=dD<|by rw[<-hW21];exact N20.out.box.set 2 _
  have T21:Hid (MkT w.heap.size hi ht k5 W21 V5 m5 vt5 T5):=T20.out.other hg21 N20.out.box HBT.out (.inl rfl);have X21:Hid (BoxT W21 w.heap.size 40 [.slice none 0 0,.int .i64 0,.slice none 0 0,.slice none 0 0,.slice none 0 0,.slice none 0 0,.slice none 0 0,.slice none 0 0,.int .i64 0,.slice none 0 0,.slice none 0 0]):=X20.out.kind hg21 N20.out.box (by decide)
  have G21:Hid (Grew w W21):=grew_grown N20.out.gr hg21 N20.out.hb;rw[hW21];clear hW21 hg21;have c1:=B21.out.box.c 1 rfl;have c2:=B21.out.box.c 2 rfl;have c3:=B21.out.box.c 3 rfl;have c4:=B21.out.box.c 4 rfl;have c5:=B21.out.box.c 5 rfl;have c6:=B21.out.box.c 6 rfl;have c7:=B21.out.box.c 7 rfl;have c8:=B21.out.box.c 8 rfl;have c9:=B21.out.box.c 9 rfl;have c10:=B21.out.box.c 10 rfl;have c11:=B21.out.box.c 11 rfl
  go_wp2_with (refine wp_storeAllT rfl 40 (.tmp 8) (.tmp 233) rfl w.heap.size rfl [.slice V5.f.a V5.f.n V5.f.c,.int .i64 y,.slice V5.s.a V5.s.n V5.s.c,.slice V5.sb.a V5.sb.n V5.sb.c,.slice V5.sq.a V5.sq.n V5.sq.c,.slice V5.db.a V5.db.n V5.db.c,.slice V5.dq.a V5.dq.n V5.dq.c,.slice V5.fl.a V5.fl.n V5.fl.c,.int .i64 m5.cnt,.slice V5.ca.a V5.ca.n V5.ca.c,.slice V5.sp.a V5.sp.n V5.sp.c] rfl X21.out rfl Tryz.sizeMachine (fun v hv=>by simp only[mC,nM,or_false]at hv;rcases hv with rfl | rfl | rfl | rfl | rfl | rfl | rfl | rfl | rfl | rfl | rfl <;> rfl) ?_)
  intro W22 hb22 hg22 _;have HRS:Hid (Built w nf ns nb L W22 V5 m5 T5 y hi ht vt5):=dD<|⟨grew_grown G21.out hg22 (nR _),by rw[HL5.out];exact T21.out.other hg22 X21.out HXT.out (.inr rfl),BX5.out,HY.out,S5.out.2.1,S5.out.2.2.2.2,HSPL.out,S5.out.2.2.2.1,fun e=>by obtain⟨a1,a2⟩:=E5.out e;have h1:=HN1.out e;have h2:k5=1:=(by omega);rw[h2]at a1 a2;exact⟨a1,a2,HY0.out e⟩⟩
  have B22:Hid (Box W22 w.heap.size [.slice V5.f.a V5.f.n V5.f.c,.int .i64 y,.slice V5.s.a V5.s.n V5.s.c,.slice V5.sb.a V5.sb.n V5.sb.c,.slice V5.sq.a V5.sq.n V5.sq.c,.slice V5.db.a V5.db.n V5.db.c,.slice V5.dq.a V5.dq.n V5.dq.c,.slice V5.fl.a V5.fl.n V5.fl.c,.int .i64 m5.cnt,.slice V5.ca.a V5.ca.n V5.ca.c,.slice V5.sp.a V5.sp.n V5.sp.c]):=hb22.box;clear hb22 hg22;clear c1 c2 c3 c4 c5 c6 c7 c8 c9 c10 c11;go_wp2;refine bodyPost_ret (ret_cell rfl _ rfl B22.out underlying40 rfl Tryz.sizeMachine) rfl ⟨V5,m5,T5,y,hi,ht,vt5,rfl,HRS.out⟩
 have h0d:decide ((0:Int)< (nf:Int))=false:=by simp;omega
 have B21:Hid (BoxT wr b 87 [.slice vl5.a vl5.n vl5.c,.slice V5.f.a V5.f.n V5.f.c,.int .i64 0,.slice V5.s.a V5.s.n V5.s.c,.slice V5.sb.a V5.sb.n V5.sb.c,.slice V5.sq.a V5.sq.n V5.sq.c,.slice V5.db.a V5.db.n V5.db.c,.slice V5.dq.a V5.dq.n V5.dq.c,.slice V5.fl.a V5.fl.n V5.fl.c,.int .i64 m5.cnt,.slice V5.ca.a V5.ca.n V5.ca.c,.slice V5.sp.a V5.sp.n V5.sp.c,.slice vt5.a vt5.n vt5.c]):=dD<|by have:=NW.out.box;rw[S5.out.2.2.1]at this;exact this
 have G21:Hid (Grew w wr):=NW.out.gr;have HY:Hid ((0:Int)<=0/\(0:Int)<max (m5.fs.length:Int) 1):=show _/\_ from⟨Int.le_refl _,by omega⟩
 have c1:=B21.out.box.c 1 rfl;have c2:=B21.out.box.c 2 rfl;have c3:=B21.out.box.c 3 rfl;have c4:=B21.out.box.c 4 rfl;have c5:=B21.out.box.c 5 rfl;have c6:=B21.out.box.c 6 rfl;have c7:=B21.out.box.c 7 rfl;have c8:=B21.out.box.c 8 rfl;have c9:=B21.out.box.c 9 rfl;have c10:=B21.out.box.c 10 rfl;have c11:=B21.out.box.c 11 rfl
 go_wp2_with (refine wp_storeAllT rfl 40 (.tmp 8) (.tmp 233) rfl w.heap.size rfl [.slice V5.f.a V5.f.n V5.f.c,.int .i64 0,.slice V5.s.a V5.s.n V5.s.c,.slice V5.sb.a V5.sb.n V5.sb.c,.slice V5.sq.a V5.sq.n V5.sq.c,.slice V5.db.a V5.db.n V5.db.c,.slice V5.dq.a V5.dq.n V5.dq.c,.slice V5.fl.a V5.fl.n V5.fl.c,.int .i64 m5.cnt,.slice V5.ca.a V5.ca.n V5.ca.c,.slice V5.sp.a V5.sp.n V5.sp.c] rfl XW.out rfl Tryz.sizeMachine (fun v hv=>by simp only[mC,nM,or_false]at hv;rcases hv with rfl | rfl | rfl | rfl | rfl | rfl | rfl | rfl | rfl | rfl | rfl <;> rfl) ?_)
 intro W22 hb22 hg22 _;have HRS:Hid (Built w nf ns nb L W22 V5 m5 T5 0 hi ht vt5):=dD<|⟨grew_grown G21.out hg22 (nR _),by rw[HL5.out];exact TW.out.other hg22 XW.out HXT.out (.inr rfl),BX5.out,HY.out,S5.out.2.1,S5.out.2.2.2.2,HSPL.out,S5.out.2.2.2.1,fun e=>by obtain⟨a1,a2⟩:=E5.out e;have h1:=HN1.out e;have h2:k5=1:=(by omega);rw[h2]at a1 a2;exact⟨a1,a2,rfl⟩⟩
 have B22:Hid (Box W22 w.heap.size [.slice V5.f.a V5.f.n V5.f.c,.int .i64 0,.slice V5.s.a V5.s.n V5.s.c,.slice V5.sb.a V5.sb.n V5.sb.c,.slice V5.sq.a V5.sq.n V5.sq.c,.slice V5.db.a V5.db.n V5.db.c,.slice V5.dq.a V5.dq.n V5.dq.c,.slice V5.fl.a V5.fl.n V5.fl.c,.int .i64 m5.cnt,.slice V5.ca.a V5.ca.n V5.ca.c,.slice V5.sp.a V5.sp.n V5.sp.c]):=hb22.box;clear hb22 hg22;clear c1 c2 c3 c4 c5 c6 c7 c8 c9 c10 c11;go_wp2;refine bodyPost_ret (ret_cell rfl _ rfl B22.out underlying40 rfl Tryz.sizeMachine) rfl ⟨V5,m5,T5,0,hi,ht,vt5,rfl,HRS.out⟩
theorem Built.at {w:World} {nf ns nb ht:Nat} {hd:Int} (h:Built w nf ns nb L w' V m T hd hi ht vt):MachAt w' V (finish m T hd)/\maW (finish m T hd)=0:=⟨h.rows.mach h.inv.tl hd,h.inv.right h.hand.1 h.hand.2⟩
structure SpecE where
 arg:Operand
 pv:Value->Prop
 post:Value->Value->World->Prop
 step:World->World->Prop
 pre:World->Prop:=fun _=>True
theorem by_string {w:World} {v:Value} {l:List Int} (h:RowAt byE w v l):(convert 24 9 v).run prog w= .ok (.string (strOfNums l)) w:=by
 have hs:=byE.und;have he:Tryz.prog.underlying 5=some (.int .u8):=underlying5;have hd:Tryz.prog.underlying 9=some .string:=underlying9;obtain⟨a,c,h1,h2⟩:=h.rows;subst h1
 cases a with
 | none=>
  have:l=[]:=by
   cases l with
   | nil=>rfl
   | cons x l=>
    obtain⟨ad,h3,_⟩:=h2 0 x rfl;cases h3
  subst this;exact run_convert_bytes_nil w 24 5 hs he _ _ 9 hd
 | some x=>
  have hc:∀(j:Nat) u,(l.map (Value.int .u8))[j]? =some u->w.cell? (x.add j)=some u:=fun j u hj=>by
   rw[List.getElem?_map]at hj
   cases hz:l[j]? with
   | none=>rw[hz]at hj;cases hj
   | some z=>
    rw[hz]at hj;simp only[Option.map_some,Option.some.injEq]at hj;obtain⟨ad,h3,h4⟩:=h2 j z hz;cases h3;have:=h4 w (Grew.refl _) 0 u (by rw[<-hj];rfl)
    simp only[byE,Nat.mul_one,add_add',Nat.add_zero]at this;exact this
  have hl:=run_loadCells_list (P:=prog) w x (l.map (Value.int .u8)) hc;rw[List.length_map]at hl;rw[run_convert_bytes_string w 24 9 5 _ _ c hs he hd,run_bytesToString w x l.length c l hl,foldl_push_bytes]
  simp[strOfNums,ByteArray.empty,ByteArray.emptyWithCapacity]
  rfl
theorem fin_ars {hd:Int} {s:Sp} (h:s∈(finish m T hd).sp):∃s0∈m.sp,s.ars=s0.ars:=by
 have h':s∈List.zipWith (fun s f=>({ s with tb:=tabOf f }:Sp)) m.sp T:=h
 obtain⟨i,hi⟩:=List.getElem?_of_mem h';rw[List.getElem?_zipWith]at hi
 cases h1:m.sp[i]? with
 | none=>rw[h1]at hi;cases hi
 | some a=>
  cases h2:T[i]? with
  | none=>rw[h1,h2]at hi;cases hi
  | some f=>
   rw[h1,h2]at hi;simp only[Option.some.injEq]at hi;exact⟨a,mG h1,by rw[<-hi]⟩
end
section
structure Rt (m:Ma):Prop where
 w:maW m=0
 t8:∀s∈m.sp,s.tb.length=8
theorem Rt.inv (h:Rt m):BInv m (flats m):=(right_inv h.w).1
end
section
open Go.RowKit
theorem box_row {α:Type} (E:Elt α) {w:World} {cs:List Value} (h:Box w b cs) (l:List α) (hcs:cs=l.flatMap E.enc) (hb:l.length*E.bytes<=140737488355328):RowAt E w (.slice (some ⟨b,0,none⟩) l.length l.length) l:=by
 refine⟨⟨_,l.length,rfl,fun h=>(by cases h),fun y hy=>?_⟩,hb⟩
 cases hy;intro j u hj;rw[Addr.add_lit,zA];exact h.c j (by rw[hcs];exact hj)
def pageS (m:Ma) (p:Nat) (s:Sp) (n:Nat):List Int:=if(onAt s.ars n).is=false then []else [(n:Int),(viewR m (p:Int) (n:Int)).2.2 % 256,(onAt s.ars n).file % 256,(onAt s.ars n).page % 256]++(viewR m (p:Int) (n:Int)).1++ [yn (onAt s.ars n).rd,yn (onAt s.ars n).wr,yn (onAt s.ars n).sh,yn ((viewR m (p:Int) (n:Int)).2.1 && decide (0<=(onAt s.ars n).file))]
def pagesTo8 (m:Ma) (p:Nat) (s:Sp) (n:Nat):List Int:=(List.range n).flatMap (pageS m p s)
theorem seenP_eq (m:Ma) (p:Nat) (s:Sp):seenP m p s=112 ::((if s.live=true then [108]else [])++pagesTo8 m p s 64):=rfl
theorem pages_next (m:Ma) (p:Nat) (s:Sp) (n:Nat):pagesTo8 m p s (n+1)=pagesTo8 m p s n++pageS m p s n:=by
 unfold pagesTo8;rw[List.range_succ,List.flatMap_append];simp
theorem seenS_snoc (m:Ma) (s:Sp):∀(l:List Sp) (p:Nat),seenS m (l++ [s]) p=seenS m l p++seenP m (p+l.length) s
 | [],p=>by simp[seenS]
 | t :: l,p=>by
  rw[List.cons_append];unfold seenS;rw[seenS_snoc m s l (p+1),List.append_assoc,List.length_cons,show p+1+l.length=p+(l.length+1) by omega]
def seenTo (m:Ma) (p:Nat):List Int:=seenS m (m.sp.take p) 0
theorem seenTo_next {p:Nat} {s:Sp} (hs:m.sp[p]? =some s):seenTo m (p+1)=seenTo m p++(112 ::((if s.live=true then [108]else [])++pagesTo8 m p s 64)):=by
 have hp:=(gS.1 hs).1;unfold seenTo;rw[take_snoc hs,seenS_snoc,<-seenP_eq,List.length_take,Nat.min_eq_left (by omega),zA]
theorem seenTo_all {p:Nat} (h:p=m.sp.length):seenTo m p=seenS m m.sp 0:=by
 unfold seenTo;rw[h,List.take_length]
def filesTo8 (m:Ma) (n:Nat):List Int:=(List.range n).flatMap (seenF m)
theorem files_next (m:Ma) (n:Nat):filesTo8 m (n+1)=filesTo8 m n++seenF m n:=by
 unfold filesTo8;rw[List.range_succ,List.flatMap_append];simp
theorem wp_more {rest:List Oper} {a:Act} {w:World} (hgd:o.guard=none) (s x:Operand) (ho:o.op= .call { callee:= .builtin .append,args:=#[s,x],argTypes:=#[24,24] }) (v:Value) (acc:List Int) (hv:a.eval s=v) (hr:OwnRow byE w0.heap.size w v acc) (u:Value) (l:List Int) (hu:a.eval x=u) (hl:RowAt byE w u l) (hb:acc.length+l.length<=100000000) (hg:Grew w0 w) (res:List Int) (hres:acc++l=res)
  (h:∀(xa:Option Addr) (n xc:Nat) w',Hid (n=res.length)->Hid (OwnRow byE w0.heap.size w' (.slice xa n xc) res)->Hid (Grew w0 w')->(∀p t cs,t≠5->BoxT w p t cs->BoxT w' p t cs)->wpList prog ops Q rest (a.put o.dst (.slice xa n xc)) w'):wpList prog ops Q (o :: rest) a w:=by
 subst hres;refine wpList_append_row (E:=byE) hgd s x ho w0.heap.size v acc hv hr u l hu hl (by show(acc.length+l.length)*1<=_;omega) (bS hg) ?_
 intro vn wn own grn;obtain⟨xa,xc,rfl⟩:=own.form;exact h xa _ xc wn (show _=_ from rfl) own (grew_beside hg grn (fun g hg'=>(hr.lt g hg').1)) (fun p t cs ht hb=>BoxT.row hr grn hb ht)
theorem refSeen_any (V:MaV) (m:Ma) (w:World) (hm:MachAt w V m) (hw:maW m=0) (hfs:∀s∈m.sp,FilesIn m.fl.length s.ars):
  Calls prog 19 #[.agg #[.slice V.f.a V.f.n V.f.c,.int .i64 m.hand,.slice V.s.a V.s.n V.s.c,.slice V.sb.a V.sb.n V.sb.c,.slice V.sq.a V.sq.n V.sq.c,.slice V.db.a V.db.n V.db.c,.slice V.dq.a V.dq.n V.dq.c,.slice V.fl.a V.fl.n V.fl.c,.int .i64 m.cnt,.slice V.ca.a V.ca.n V.ca.c,.slice V.sp.a V.sp.n V.sp.c]] w fun e w'=>e= .returned (.string (strOfNums (seenL m)))/\Grew w w':=by
 have HM:Hid (MachAt w V m):=hm;have HVW:Hid (∀W (p n:Int),Grew w W->Calls prog 66 #[.agg #[.slice V.f.a V.f.n V.f.c,.int .i64 m.hand,.slice V.s.a V.s.n V.s.c,.slice V.sb.a V.sb.n V.sb.c,.slice V.sq.a V.sq.n V.sq.c,.slice V.db.a V.db.n V.db.c,.slice V.dq.a V.dq.n V.dq.c,.slice V.fl.a V.fl.n V.fl.c,.int .i64 m.cnt,.slice V.ca.a V.ca.n V.ca.c,.slice V.sp.a V.sp.n V.sp.c],.int .i64 p,.int .i64 n] W fun e w'=>e= .returned (viewV (viewR m p n))/\(viewR m p n).1.length=8/\Grew W w'):=show∀W,_ from fun W p n hW=>refView_any V m p n W (HM.out.grew hW) hw hfs
 have HBY:Hid (∀W (f:Int),Grew w W->Calls prog 14 #[.agg #[.slice V.f.a V.f.n V.f.c,.int .i64 m.hand,.slice V.s.a V.s.n V.s.c,.slice V.sb.a V.sb.n V.sb.c,.slice V.sq.a V.sq.n V.sq.c,.slice V.db.a V.db.n V.db.c,.slice V.dq.a V.dq.n V.dq.c,.slice V.fl.a V.fl.n V.fl.c,.int .i64 m.cnt,.slice V.ca.a V.ca.n V.ca.c,.slice V.sp.a V.sp.n V.sp.c],.int .i64 f] W fun e w'=>Byt m f W e w'/\Grew W w'):=dD<|fun W f hW=>refBytesM_any V m f W (HM.out.grew hW)
 have HBL:Hid (∀f,(bytesL m f).length<=1000):=dD<|fun f=>by
  unfold bytesL
  split
  ·unfold bytesD;rw[List.length_map,List.length_range];have:szAt m f<=96:=by
    unfold szAt;rw[gD]
    cases hq:m.fl[f.toNat]? with
    | none=>simp
    | some x=>simpa using(fl_ok hw hq).1.2
   omega
  simp
 have HPT:Hid (Pts m):=pts_of (maW_parts hw);have HSL:Hid (seenL m=seenTo m m.sp.length++filesTo8 m m.fl.length):=show _=_ by rw[seenTo_all rfl];rfl
 have h4:m.sp.length<=4:=(right_inv hw).1.spl;have h5:m.fl.length<=5:=by
  have h1:=maW_parts hw;unfold partE at h1;rw[firstE_zero]at h1;have h2:=((stW_zero _ _).1 (h1 (stW m.fl m.cnt) (by simp))).1
  omega
 obtain⟨-,-,-,-,-,-,n7,-,n9⟩:=hm.ns;obtain⟨xs,hxl,hrow,hsp⟩:=hm.spaces;obtain⟨vf,vs,vsb,vsq,vdb,vdq,⟨fla,fln,flc⟩,vca,⟨spa,spn,spc⟩⟩:=V;dsimp only at n7 n9 hrow HVW HBY⊢;have HN7:Hid (m.fl.length=fln):=n7.symm;have HN9:Hid (m.sp.length=spn):=n9.symm;rw[<-n7]at h5;rw[<-n9]at h4;rw[HN7.out,HN9.out]at HSL;have HXL:Hid (xs.length=spn):=show _=_ by rw[hxl];exact HN9.out
 have HRW:Hid (∀(j:Nat) x,xs[j]? =some x->∃ad,spa=some ad/\∀W,Grew w W->Sp10 W (ad.add (j*10)) x):=dD<|hrow
 have HSP:Hid (∀(i:Nat) x s,xs[i]? =some x->m.sp[i]? =some s->SpaceAt w x s):=dD<|hsp
 clear hm n7 n9 hxl hrow hsp hw hfs;obtain⟨W0,hW0⟩:∃W0,w.alloc (.cells #[.slice vf.a vf.n vf.c,.int .i64 m.hand,.slice vs.a vs.n vs.c,.slice vsb.a vsb.n vsb.c,.slice vsq.a vsq.n vsq.c,.slice vdb.a vdb.n vdb.c,.slice vdq.a vdq.n vdq.c,.slice fla fln flc,.int .i64 m.cnt,.slice vca.a vca.n vca.c,.slice spa spn spc] 40)=W0:=⟨_,rfl⟩;have G0:=gA hW0
 have X0:=xA hW0
 have HW0:Hid (_=W0):=hW0;clear hW0
 go_enter func19,ntmps19
 go_upto_region 2 with fail;rw[HW0.out];have x10:=X0.out.c 10 rfl;go_upto_region 3 with fail;clear x10
 go_loopg [3,19] spn (fun gg s3 s19 wr=>∃(p nc:Nat) (xa:Option Addr) (xc:Nat),p<=spn/\spn - p<=gg/\nc<=2000*p/\s19= .int .i64 p/\s3= .slice xa nc xc/\Hid (nc=(seenTo m p).length)/\Hid (Grew W0 wr)/\Hid (OwnRow byE W0.heap.size wr (.slice xa nc xc) (seenTo m p)))
 case atStart=>exact⟨0,0,none,0,nZ _,by omega,by omega,rfl,rfl,rfl,Grew.refl _,OwnRow.nil _ _ _⟩
 obtain⟨p,nc,xa,xc,hp,hgp,hnc,rfl,rfl,HNC,KW,OW⟩:=hrel
 by_cases hlt:p<spn
 ·have hltz:(p:Int)< (spn:Int):=by omega
  obtain⟨s,HS⟩:∃s,Hid (m.sp[p]? =some s):=⟨_,gE (by rw[HN9.out];exact hlt)⟩
  obtain⟨x,hx⟩:∃x,xs[p]? =some x:=⟨_,gE (by rw[HXL.out];exact hlt)⟩
  have HAT:Hid (SpaceAt w x s):=HSP.out p x s hx HS.out;obtain⟨ad,hva,hl⟩:=HRW.out p x hx;obtain⟨d0,d1,d2,d3,d4,d5,d6,d7,d8,d9⟩:=hl wr (G0.out.trans KW.out);subst hva;clear hl hx;go_upto_region 5 with fail;obtain⟨pb,HPB⟩:∃pb,Hid (wr.heap.size=pb):=⟨_,rfl⟩;obtain⟨W1,hW1⟩:∃W1,wr.alloc (.cells #[.bool x.live,.slice x.ar.a x.ar.n x.ar.c,.slice x.t0.a x.t0.n x.t0.c,.slice x.t1.a x.t1.n x.t1.c,.slice x.t2.a x.t2.n x.t2.c,.slice x.t3.a x.t3.n x.t3.c,.slice x.t4.a x.t4.n x.t4.c,.slice x.t5.a x.t5.n x.t5.c,.slice x.t6.a x.t6.n x.t6.c,.slice x.t7.a x.t7.n x.t7.c] 65)=W1:=⟨_,rfl⟩;have g1:=gP hW1
  have S1:=xPT hW1 HPB
  have K1:=dD (KW.out.trans g1);have O1:=dD (OW.out.grew g1);rw[hW1,HPB.out];clear hW1 g1 d0 d1 d2 d3 d4 d5 d6 d7 d8 d9;obtain⟨acc,HACC⟩:∃acc,Hid (seenTo m p=acc):=⟨_,rfl⟩;rw[HACC.out]at O1 HNC;rw[HNC.out]at O1⊢;obtain⟨a2,HA2⟩:∃a2:List Int,Hid (acc++ [112]=a2):=⟨acc++ [112],rfl⟩;have HB2:Hid (a2.length<=2000*p+1):=show _<=_ by rw[<-HA2.out];have:=HNC.out;simp;omega
  obtain⟨a3,HA3⟩:∃a3:List Int,Hid (a2++(if s.live=true then [108]else [])=a3):=⟨a2++(if s.live=true then [108]else []),rfl⟩;have HB3:Hid (a3.length<=2000*p+2):=dD<|by rw[<-HA3.out];have:=HB2.out;split <;> simp <;> omega
  go_wp2_with (at_builtin;refine wp_more (w0:=W0) rfl (.tmp 24) (.tmp 25) rfl _ acc rfl (O1.out.grew (grew_alloc _ _)) _ [112] rfl (one_row byE W1 112 _ _ rfl (by decide)) (by have:=HNC.out;show acc.length+1<=_;omega) (K1.out.trans (grew_alloc _ _)) a2 HA2.out ?_)
  intro xa2 nc2 xc2 W2 HNC2 O2 K2 bx2;have S2:Hid (BoxT W2 pb 65 [.bool x.live,.slice x.ar.a x.ar.n x.ar.c,.slice x.t0.a x.t0.n x.t0.c,.slice x.t1.a x.t1.n x.t1.c,.slice x.t2.a x.t2.n x.t2.c,.slice x.t3.a x.t3.n x.t3.c,.slice x.t4.a x.t4.n x.t4.c,.slice x.t5.a x.t5.n x.t5.c,.slice x.t6.a x.t6.n x.t6.c,.slice x.t7.a x.t7.n x.t7.c]):=bx2 _ _ _ (by decide) (S1.out.grew (grew_alloc _ _))
  clear bx2;have HLA:Hid (seenTo m (p+1)=a3++pagesTo8 m p s 64):=dD<|by rw[seenTo_next HS.out,HACC.out,<-HA3.out,<-HA2.out];simp
  have s0:=S2.out.box.c 0 rfl;obtain⟨lv,HLV⟩:∃lv,Hid (s.live=lv):=⟨_,rfl⟩;rw[HAT.out.live,HLV.out]at s0
  go_upto_if 28 with fail
  clear s0
  go_cut [3,19]from 19 to 92 (fun s3 s19 wx=>s19= .int .i64 p/\∃(xa:Option Addr) (nc xc:Nat),s3= .slice xa nc xc/\Hid (nc=a3.length)/\Hid (OwnRow byE W0.heap.size wx (.slice xa nc xc) a3)/\Hid (BoxT wx pb 65 [.bool x.live,.slice x.ar.a x.ar.n x.ar.c,.slice x.t0.a x.t0.n x.t0.c,.slice x.t1.a x.t1.n x.t1.c,.slice x.t2.a x.t2.n x.t2.c,.slice x.t3.a x.t3.n x.t3.c,.slice x.t4.a x.t4.n x.t4.c,.slice x.t5.a x.t5.n x.t5.c,.slice x.t6.a x.t6.n x.t6.c,.slice x.t7.a x.t7.n x.t7.c])/\Hid (Grew W0 wx))
  case first=>
   cases lv with
   | false=>
    have HR:Hid (a3=a2):=dD<|by rw[<-HA3.out,if_neg (by rw[HLV.out];decide),List.append_nil]
    go_wp2
    go_meet
    exact⟨rfl,xa2,nc2,xc2,rfl,by rw[HR.out];exact HNC2.out,by rw[HR.out];exact O2.out,S2.out,K2.out⟩
   | true=>
    have HR:Hid (a2++ [108]=a3):=dD<|by rw[<-HA3.out,if_pos HLV.out]
    go_wp2_with (at_builtin;refine wp_more (w0:=W0) rfl (.tmp 29) (.tmp 30) rfl _ a2 rfl (O2.out.grew (grew_alloc _ _)) _ [108] rfl (one_row byE W2 108 _ _ rfl (by decide)) (by have:=HB2.out;show a2.length+1<=_;omega) (K2.out.trans (grew_alloc _ _)) a3 HR.out ?_)
    intro xa3 nc3 xc3 W3 HNC3 O3 K3 bx3;have S3:Hid (BoxT W3 pb 65 [.bool x.live,.slice x.ar.a x.ar.n x.ar.c,.slice x.t0.a x.t0.n x.t0.c,.slice x.t1.a x.t1.n x.t1.c,.slice x.t2.a x.t2.n x.t2.c,.slice x.t3.a x.t3.n x.t3.c,.slice x.t4.a x.t4.n x.t4.c,.slice x.t5.a x.t5.n x.t5.c,.slice x.t6.a x.t6.n x.t6.c,.slice x.t7.a x.t7.n x.t7.c]):=bx3 _ _ _ (by decide) (S2.out.grew (grew_alloc _ _))
    clear bx3;go_wp2
    go_meet
    exact⟨rfl,xa3,nc3,xc3,rfl,HNC3.out,O3.out,S3.out,K3.out⟩
  case rest=>
  obtain⟨rfl,xa3,nc3,xc3,rfl,HNC3,O3,S3,K3⟩:=hcut;have HCN:Hid (CanP none s.ars):=(wrL_zero.1 (HPT.out.ar s (mG HS.out)).1).2;have hon:=refOnes_any (.slice x.ar.a x.ar.n x.ar.c) s.ars wc (HAT.out.ar.grew (G0.out.trans K3.out)) HCN.out.lies;have s1:=S3.out.box.c 1 rfl;go_wp2_with fail;refine hon.mono ?_;clear hon s1;rintro r W4 ⟨rfl,g4⟩;have K4:=dD (K3.out.trans g4);have O4:Hid (OwnRow byE W0.heap.size W4 (.slice xa3 nc3 xc3) (a3++pagesTo8 m p s 0)):=show OwnRow _ _ _ _ _ by
   rw[show pagesTo8 m p s 0=[]from rfl,List.append_nil]
   exact O3.out.grew g4
  have HN4:Hid (nc3=(a3++pagesTo8 m p s 0).length):=dD<|by
   rw[show pagesTo8 m p s 0=[]from rfl,List.append_nil]
   exact HNC3.out
  clear g4;go_upto_region 9 with fail
  go_loopg [3,35] 64 (fun gg s3 s35 wr=>∃(n nc:Nat) (xa:Option Addr) (xc:Nat),n<=64/\64 - n<=gg/\nc<=2000*p+2+16*n/\s35= .int .i64 n/\s3= .slice xa nc xc/\Hid (nc=(a3++pagesTo8 m p s n).length)/\Hid (Grew W0 wr)/\Hid (OwnRow byE W0.heap.size wr (.slice xa nc xc) (a3++pagesTo8 m p s n)))
  case atStart=>exact⟨0,nc3,xa3,xc3,by omega,by omega,by have:=HN4.out;have:=HB3.out;simp[pagesTo8]at*;omega,rfl,rfl,HN4.out,K4.out,O4.out⟩
  obtain⟨n,nn,ya,yc,hn,hgn,hnn,rfl,rfl,HNN,KW,OW⟩:=hrel
  by_cases hlt2:n<64
  ·have hltz2:(n:Int)<64:=by omega
   obtain⟨o,HO⟩:∃o,Hid (onAt s.ars n=o):=⟨_,rfl⟩;have hov:Value.agg (onv (onAt s.ars n)).toArray= .agg #[.bool o.is,.bool o.rd,.bool o.wr,.bool o.sh,.int .i64 o.file,.int .i64 o.page]:=by rw[HO.out];rfl
   obtain⟨a4,HA4⟩:∃a4:List Int,Hid (a3++pagesTo8 m p s n=a4):=⟨_,rfl⟩;have HPN:Hid (a3++pagesTo8 m p s (n+1)=a4++pageS m p s n):=dD<|by rw[pages_next,<-List.append_assoc,HA4.out]
   rw[HA4.out]at OW HNN
   go_upto_region 11 with(refine wp_idxOv rfl (.tmp 34) (.tmp 35) rfl (onAt s.ars) rfl n rfl hlt2 hov ?_)
   obtain⟨po,HPO⟩:∃po,Hid (wr.heap.size=po):=⟨_,rfl⟩;obtain⟨W5,hW5⟩:∃W5,wr.alloc (.cells #[.bool o.is,.bool o.rd,.bool o.wr,.bool o.sh,.int .i64 o.file,.int .i64 o.page] 96)=W5:=⟨_,rfl⟩;have g5:=gP hW5
   have B5:=xPT hW5 HPO
   have K5:=dD (KW.out.trans g5);have O5:=dD (OW.out.grew g5);rw[hW5,HPO.out];clear hW5 g5 hov;have o0:=B5.out.box.c 0 rfl
   cases his:o.is with
   | false=>
    rw[his]at o0;have HPE:Hid (a3++pagesTo8 m p s (n+1)=a4):=dD<|by
     rw[HPN.out];unfold pageS;rw[HO.out,if_pos his,List.append_nil]
    clear his;go_wp2
    go_roundg (64 -(n+1))
    case measure=>omega
    exact⟨n+1,nn,ya,yc,by omega,by omega,by omega,by go_num,rfl,by rw[HPE.out];exact HNN.out,K5.out,by rw[HPE.out];exact O5.out⟩
   | true=>
    rw[his]at o0;have hvw:=HVW.out W5 (p:Int) (n:Int) (G0.out.trans K5.out);have x0:=(X0.out.grew K5.out).c 0 rfl;have x1:=(X0.out.grew K5.out).c 1 rfl;have x2:=(X0.out.grew K5.out).c 2 rfl;have x3:=(X0.out.grew K5.out).c 3 rfl;have x4:=(X0.out.grew K5.out).c 4 rfl;have x5:=(X0.out.grew K5.out).c 5 rfl;have x6:=(X0.out.grew K5.out).c 6 rfl;have x7:=(X0.out.grew K5.out).c 7 rfl;have x8:=(X0.out.grew K5.out).c 8 rfl;have x9:=(X0.out.grew K5.out).c 9 rfl;have x10:=(X0.out.grew K5.out).c 10 rfl;go_wp2_with fail;refine hvw.mono ?_;clear hvw o0 x0 x1 x2 x3 x4 x5 x6 x7 x8 x9 x10;rintro r W6 ⟨rfl,hl8,g6⟩;obtain⟨⟨rl,rb,re⟩,HRR⟩:∃rr,Hid (viewR m (p:Int) (n:Int)=rr):=⟨_,rfl⟩;rw[HRR.out]at hl8⊢;obtain⟨p0,p1,p2,p3,p4,p5,p6,p7,hrl⟩:=len8 rl hl8;subst hrl;have HPG:Hid (pageS m p s n=[(n:Int),re % 256,o.file % 256,o.page % 256]++ [p0,p1,p2,p3,p4,p5,p6,p7]++ [yn o.rd,yn o.wr,yn o.sh,yn (rb && decide (0<=o.file))]):=dD<|by
     unfold pageS;rw[HO.out,if_neg (by rw[his];decide),HRR.out]
    have K6:=dD (K5.out.trans g6);have O6:=dD (O5.out.grew g6);have B6:=dD (B5.out.grew g6);clear g6 hl8 his;simp only[viewV,pgc,mP,List.map_nil];go_upto_region 13 with fail;obtain⟨pp,HPP⟩:∃pp,Hid (W6.heap.size=pp):=⟨_,rfl⟩;obtain⟨W7,hW7⟩:∃W7,W6.alloc (.cells #[.int .u8 p0,.int .u8 p1,.int .u8 p2,.int .u8 p3,.int .u8 p4,.int .u8 p5,.int .u8 p6,.int .u8 p7] 50)=W7:=⟨_,rfl⟩;have g7:=gP hW7
    have Q7:=xPT hW7 HPP
    have K7:=dD (K6.out.trans g7);have O7:=dD (O6.out.grew g7);have B7:=dD (B6.out.grew g7);rw[hW7,HPP.out];clear hW7 g7;have hal:a4.length<=20000:=by have:=HNN.out;omega
    obtain⟨I,HI⟩:∃I:World->Prop,Hid (∀u,I u↔(BoxT u pp 50 [.int .u8 p0,.int .u8 p1,.int .u8 p2,.int .u8 p3,.int .u8 p4,.int .u8 p5,.int .u8 p6,.int .u8 p7]/\BoxT u po 96 [.bool o.is,.bool o.rd,.bool o.wr,.bool o.sh,.int .i64 o.file,.int .i64 o.page])):=⟨_,fun _=>Iff.rfl⟩
    have hI0:I W7.drew:=(HI.out _).2 ⟨Q7.out.grew (gW _),B7.out.grew (gW _)⟩
    have hF0:Grew W7 W7.drew:=show Below _ _ _ from(bR _ _).drew
    have hne:Nonempty (HoldI I):=⟨⟨_,hI0⟩⟩;have ho4:∀y:HoldI I,y.world.cell? ⟨po,4,none⟩=some (.int .i64 o.file):=fun y=>((HI.out _).1 y.holds).2.box.c 4 rfl
    have ho5:∀y:HoldI I,y.world.cell? ⟨po,5,none⟩=some (.int .i64 o.page):=fun y=>((HI.out _).1 y.holds).2.box.c 5 rfl
    refine wp_lax_tailD (I:=I) 15 [(11,fun v=>∃g,v= .slice (some ⟨g,0,none⟩) 4 4),(12,fun v=>∃s:Sli,v= .slice s.a s.n s.c),(14,fun v=>∃s:Sli,v= .slice s.a s.n s.c)] (fun u=>Grew W7 u) hI0 hF0 mixed (by kernel_rfl) rfl rfl (by decide) ?hS (by kernel_rfl) ?_
    case hS=>
     intro x hx;simp only[mC,nM,or_false]at hx
     rcases hx with rfl|rfl|rfl
     ·exact⟨_,0,rfl⟩
     ·exact⟨_,sli0,rfl⟩
     exact⟨_,sli0,rfl⟩
    simp only[List.take,List.drop];iterate 11 (refine laxD_quiet rfl rfl rfl (fun K hK=>?_);go_big_quiet_op;refine hK _ ?_;clear hK)
    refine laxD_spec rfl rfl (fun v u=>Grew W7 u/\RowAt byE u v [(n:Int),re % 256,o.file % 256,o.page % 256]) (fun w' hI' hF'=>?_) (fun v1 hv=>?_)
    ·obtain⟨i1,i2⟩:=(HI.out _).1 hI';refine Does.step (v:= .slice (some ⟨w'.heap.size,0,none⟩) 4 4) (w':=w'.alloc (.cells #[.int .u8 (n:Int),.int .u8 (re % 256),.int .u8 (o.file % 256),.int .u8 (o.page % 256)] 5)) (by clear ho4 ho5;simp only[execOp];go_simp) ⟨(HI.out _).2 ⟨i1.grew (grew_alloc _ _),i2.grew (grew_alloc _ _)⟩,⟨_,rfl⟩,hF'.trans (grew_alloc _ _),row_lit byE w' [(n:Int),re % 256,o.file % 256,o.page % 256] _ rfl (show 4*1<=_ by decide)⟩
    obtain⟨g5,rfl⟩:=hv;simp only[Act.put,sB,sS,sZ];refine laxD_spec rfl rfl (fun v u=>Grew W0 u/\OwnRow byE W0.heap.size u v (a4++ [(n:Int),re % 256,o.file % 256,o.page % 256])) (fun w' hI' hF'=>?_) (fun v1 hv=>?_)
    ·obtain⟨i1,i2⟩:=(HI.out _).1 hI';obtain⟨k1,k2⟩:=hF';obtain⟨v',w2,hrun,ho,hgr,hk⟩:=run_append_keeps (E:=byE) (w:=w') 24 (O7.out.grew k1) (.slice (some ⟨g5,0,none⟩) 4 4) [(n:Int),re % 256,o.file % 256,o.page % 256] k2 (by show(a4.length+4)*1<=_;omega) (nT (bS K7.out) (bS k1))
     obtain⟨a',c',rfl⟩:=ho.form;refine Does.step (w':=w2) (v:= .slice a' (a4++ [(n:Int),re % 256,o.file % 256,o.page % 256]).length c') ?_ ⟨(HI.out _).2 ⟨BoxT.row (O7.out.grew k1) hgr i1 (by decide),BoxT.row (O7.out.grew k1) hgr i2 (by decide)⟩,⟨⟨a',_,c'⟩,rfl⟩,Grew.row (O7.out.grew k1) hgr (K7.out.trans k1),ho⟩
     simp only[execOp,resolve,invoke,builtin,pure_bind,Sem.run_bind,Sem.run_pure,List.map_toArray,mP,List.map_nil];exact Eq.trans (congrArg (fun r=>Result.andThen r (fun a w'=>Result.ok (Next.value a) w')) hrun) rfl
    obtain⟨s6,rfl⟩:=hv;simp only[Act.put,sB,sS,sZ];iterate 1 (refine laxD_quiet rfl rfl rfl (fun K hK=>?_);go_big_quiet_op;refine hK _ ?_;clear hK)
    refine laxD_spec rfl rfl (fun v u=>Grew W0 u/\OwnRow byE W0.heap.size u v ((a4++ [(n:Int),re % 256,o.file % 256,o.page % 256])++ [p0,p1,p2,p3,p4,p5,p6,p7])) (fun w' hI' hF'=>?_) (fun v1 hv=>?_)
    ·obtain⟨i1,i2⟩:=(HI.out _).1 hI';obtain⟨k1,k2⟩:=hF';obtain⟨v',w2,hrun,ho,hgr,hk⟩:=run_append_keeps (E:=byE) (w:=w') 24 k2 (.slice (some ⟨pp,0,none⟩) 8 8) [p0,p1,p2,p3,p4,p5,p6,p7] (box_row byE i1.box [p0,p1,p2,p3,p4,p5,p6,p7] rfl (show 8*1<=_ by decide)) (by simp only[lA];show(a4.length+4+8)*1<=_;omega) (bS k1)
     obtain⟨a',c',rfl⟩:=ho.form;refine Does.step (w':=w2) (v:= .slice a' ((a4++ [(n:Int),re % 256,o.file % 256,o.page % 256])++ [p0,p1,p2,p3,p4,p5,p6,p7]).length c') ?_ ⟨(HI.out _).2 ⟨BoxT.row k2 hgr i1 (by decide),BoxT.row k2 hgr i2 (by decide)⟩,⟨⟨a',_,c'⟩,rfl⟩,Grew.row k2 hgr k1,ho⟩
     simp only[execOp,resolve,invoke,builtin,pure_bind,Sem.run_bind,Sem.run_pure,List.map_toArray,mP,List.map_nil];exact Eq.trans (congrArg (fun r=>Result.andThen r (fun a w'=>Result.ok (Next.value a) w')) hrun) rfl
    obtain⟨s8,rfl⟩:=hv;simp only[Act.put,sB,sS,sZ];refine laxD_nil fun W8 hI8 hF8=>?_
    obtain⟨a5,HA5⟩:∃a5:List Int,Hid ((a4++ [(n:Int),re % 256,o.file % 256,o.page % 256])++ [p0,p1,p2,p3,p4,p5,p6,p7]=a5):=⟨_,rfl⟩;have K8:Hid (Grew W0 W8):=hF8.1;have O8:Hid (OwnRow byE W0.heap.size W8 (.slice s8.a s8.n s8.c) a5):=show OwnRow _ _ _ _ _ by rw[<-HA5.out];exact hF8.2
    have B8:Hid (BoxT W8 po 96 [.bool o.is,.bool o.rd,.bool o.wr,.bool o.sh,.int .i64 o.file,.int .i64 o.page]):=((HI.out _).1 hI8).2;have HA5E:Hid (a5.length<=2000*p+2+16*n+12):=show _<=_ by rw[<-HA5.out];have:=HNN.out;simp;omega
    have HA5L:Hid (a5.length<=20020):=dD<|by rw[<-HA5.out];simp;omega
    clear hI8 hF8 hI0 hF0 hne ho4 ho5;have b1:=B8.out.box.c 1 rfl;have b2:=B8.out.box.c 2 rfl;have b3:=B8.out.box.c 3 rfl;have b4:=B8.out.box.c 4 rfl
    cases rb with
    | false=>
     have HPE:Hid (a3++pagesTo8 m p s (n+1)=a5++ [yn o.rd,yn o.wr,yn o.sh,yn (false)]):=dD<|by
      rw[HPN.out,HPG.out,<-HA5.out];simp
     go_upto_region 15 with fail;obtain⟨pq,HPQ⟩:∃pq,Hid (W8.heap.size=pq):=⟨_,rfl⟩;obtain⟨W9,hW9⟩:∃W9,W8.alloc (.cells #[.bool o.rd,.bool o.wr,.bool o.sh,.bool (false)] 4)=W9:=⟨_,rfl⟩;have g9:=gP hW9
     have U9:=xPT hW9 HPQ
     have K9:=dD (K8.out.trans g9);have O9:=dD (O8.out.grew g9);rw[hW9,HPQ.out];clear hW9 g9 b1 b2 b3 b4;obtain⟨bs,HBS⟩:∃bs:List Bool,Hid (bs=[o.rd,o.wr,o.sh,false]):=⟨_,rfl⟩;have HPE2:Hid (a3++pagesTo8 m p s (n+1)=a5++bs.map yn):=show _=_ by rw[HPE.out,HBS.out];rfl
     have U92:Hid (BoxT W9 pq 4 (bs.map Value.bool)):=dD<|by rw[HBS.out];exact U9.out
     have HBL4:Hid (bs.length=4):=dD<|by rw[HBS.out];rfl
     have O92:Hid (OwnRow byE W0.heap.size W9 (.slice s8.a s8.n s8.c) (a5++(bs.map yn).take 0)):=dD<|by simpa using O9.out
     skip
     go_loopg [3,79] 4 (fun gg s3 s79 wr=>∃(j:Nat) (t:Sli),j<=4/\4 - j<=gg/\s79= .int .i64 j/\s3= .slice t.a t.n t.c/\Hid (Grew W0 wr)/\Hid (BoxT wr pq 4 (bs.map Value.bool))/\Hid (OwnRow byE W0.heap.size wr (.slice t.a t.n t.c) (a5++(bs.map yn).take j)))
     case atStart=>exact⟨0,s8,by omega,by omega,rfl,rfl,K9.out,U92.out,O92.out⟩
     obtain⟨j,t,hj,hgj,rfl,rfl,KV,UV,OV⟩:=hrel
     by_cases hlt3:j<4
     ·have hltz3:(j:Int)<4:=by omega
      obtain⟨y,HY⟩:∃y,Hid (bs[j]? =some y):=⟨_,gE (by rw[HBL4.out];exact hlt3)⟩
      have HTK:Hid ((a5++(bs.map yn).take j)++ [yn y]=a5++(bs.map yn).take (j+1)):=dD<|by rw[take_snoc (l:=bs.map yn) (q:=yn y) (by rw[List.getElem?_map,HY.out];rfl)];simp
      have u:=UV.out.box.c j (u:= .bool y) (by rw[List.getElem?_map,HY.out];rfl)
      have HTL:Hid ((a5++(bs.map yn).take j).length<=30000):=dD<|by
       have:=HA5L.out;simp only[lA,List.length_take];omega
      generalize a5++(bs.map yn).take j=ac at OV HTK HTL
      have hac:ac.length<=30000:=HTL.out
      cases y with
      | true=>
       go_wp2_with (at_builtin;refine wp_more (w0:=W0) rfl (.tmp 84) (.tmp 85) rfl _ ac rfl (OV.out.grew (grew_alloc _ _)) _ [121] rfl (one_row byE wr 121 _ _ rfl (by decide)) (by show ac.length+1<=_;omega) (KV.out.trans (grew_alloc _ _)) _ (show ac++ [121]=_ from HTK.out) ?_)
       intro xb nb xcb Wb HNB OB KB bxb;have UB:Hid (BoxT Wb pq 4 (bs.map Value.bool)):=dD<|bxb _ _ _ (by decide) (UV.out.grew (grew_alloc _ _))
       clear bxb u;go_wp2
       go_roundg (4 -(j+1))
       case measure=>omega
       exact⟨j+1,⟨xb,nb,xcb⟩,by omega,by omega,by go_num,rfl,KB.out,UB.out,OB.out⟩
      | false=>
       go_wp2_with (at_builtin;refine wp_more (w0:=W0) rfl (.tmp 87) (.tmp 88) rfl _ ac rfl (OV.out.grew (grew_alloc _ _)) _ [110] rfl (one_row byE wr 110 _ _ rfl (by decide)) (by show ac.length+1<=_;omega) (KV.out.trans (grew_alloc _ _)) _ (show ac++ [110]=_ from HTK.out) ?_)
       intro xb nb xcb Wb HNB OB KB bxb;have UB:Hid (BoxT Wb pq 4 (bs.map Value.bool)):=dD<|bxb _ _ _ (by decide) (UV.out.grew (grew_alloc _ _))
       clear bxb u;go_wp2
       go_roundg (4 -(j+1))
       case measure=>omega
       exact⟨j+1,⟨xb,nb,xcb⟩,by omega,by omega,by go_num,rfl,KB.out,UB.out,OB.out⟩
     have hltz3:¬(j:Int)<4:=by omega
     have:j=4:=by omega
     subst this;have OF:Hid (OwnRow byE W0.heap.size wr (.slice t.a t.n t.c) (a3++pagesTo8 m p s (n+1))):=dD<|by
      rw[HPE2.out];have:=OV.out;rw[List.take_of_length_le (by rw[List.length_map,HBL4.out];exact nR _)]at this
      exact this
     have HTN:Hid (t.n=(a3++pagesTo8 m p s (n+1)).length):=dD<|OF.out.n
     have htn:t.n<=2000*p+2+16*(n+1):=by
      rw[HTN.out,HPE2.out,lA,List.length_map,HBL4.out];have:=HA5E.out;omega
     go_wp2
     go_roundg (64 -(n+1))
     case measure=>omega
     exact⟨n+1,t.n,t.a,t.c,by omega,by omega,htn,by go_num,rfl,HTN.out,KV.out,OF.out⟩
    | true=>
     obtain⟨df,hdf⟩:∃df,decide (0<=o.file)=df:=⟨_,rfl⟩;rw[Bool.true_and,hdf]at HPG;have HPE:Hid (a3++pagesTo8 m p s (n+1)=a5++ [yn o.rd,yn o.wr,yn o.sh,yn (df)]):=dD<|by
      rw[HPN.out,HPG.out,<-HA5.out];simp
     go_upto_region 15 with fail;obtain⟨pq,HPQ⟩:∃pq,Hid (W8.heap.size=pq):=⟨_,rfl⟩;obtain⟨W9,hW9⟩:∃W9,W8.alloc (.cells #[.bool o.rd,.bool o.wr,.bool o.sh,.bool (df)] 4)=W9:=⟨_,rfl⟩;have g9:=gP hW9
     have U9:=xPT hW9 HPQ
     have K9:=dD (K8.out.trans g9);have O9:=dD (O8.out.grew g9);rw[hW9,HPQ.out];clear hW9 g9 b1 b2 b3 b4;obtain⟨bs,HBS⟩:∃bs:List Bool,Hid (bs=[o.rd,o.wr,o.sh,df]):=⟨_,rfl⟩;have HPE2:Hid (a3++pagesTo8 m p s (n+1)=a5++bs.map yn):=show _=_ by rw[HPE.out,HBS.out];rfl
     have U92:Hid (BoxT W9 pq 4 (bs.map Value.bool)):=dD<|by rw[HBS.out];exact U9.out
     have HBL4:Hid (bs.length=4):=dD<|by rw[HBS.out];rfl
     have O92:Hid (OwnRow byE W0.heap.size W9 (.slice s8.a s8.n s8.c) (a5++(bs.map yn).take 0)):=dD<|by simpa using O9.out
     skip
     go_loopg [3,79] 4 (fun gg s3 s79 wr=>∃(j:Nat) (t:Sli),j<=4/\4 - j<=gg/\s79= .int .i64 j/\s3= .slice t.a t.n t.c/\Hid (Grew W0 wr)/\Hid (BoxT wr pq 4 (bs.map Value.bool))/\Hid (OwnRow byE W0.heap.size wr (.slice t.a t.n t.c) (a5++(bs.map yn).take j)))
     case atStart=>exact⟨0,s8,by omega,by omega,rfl,rfl,K9.out,U92.out,O92.out⟩
     obtain⟨j,t,hj,hgj,rfl,rfl,KV,UV,OV⟩:=hrel
     by_cases hlt3:j<4
     ·have hltz3:(j:Int)<4:=by omega
      obtain⟨y,HY⟩:∃y,Hid (bs[j]? =some y):=⟨_,gE (by rw[HBL4.out];exact hlt3)⟩
      have HTK:Hid ((a5++(bs.map yn).take j)++ [yn y]=a5++(bs.map yn).take (j+1)):=dD<|by rw[take_snoc (l:=bs.map yn) (q:=yn y) (by rw[List.getElem?_map,HY.out];rfl)];simp
      have u:=UV.out.box.c j (u:= .bool y) (by rw[List.getElem?_map,HY.out];rfl)
      have HTL:Hid ((a5++(bs.map yn).take j).length<=30000):=dD<|by
       have:=HA5L.out;simp only[lA,List.length_take];omega
      generalize a5++(bs.map yn).take j=ac at OV HTK HTL
      have hac:ac.length<=30000:=HTL.out
      cases y with
      | true=>
       go_wp2_with (at_builtin;refine wp_more (w0:=W0) rfl (.tmp 84) (.tmp 85) rfl _ ac rfl (OV.out.grew (grew_alloc _ _)) _ [121] rfl (one_row byE wr 121 _ _ rfl (by decide)) (by show ac.length+1<=_;omega) (KV.out.trans (grew_alloc _ _)) _ (show ac++ [121]=_ from HTK.out) ?_)
       intro xb nb xcb Wb HNB OB KB bxb;have UB:Hid (BoxT Wb pq 4 (bs.map Value.bool)):=dD<|bxb _ _ _ (by decide) (UV.out.grew (grew_alloc _ _))
       clear bxb u;go_wp2
       go_roundg (4 -(j+1))
       case measure=>omega
       exact⟨j+1,⟨xb,nb,xcb⟩,by omega,by omega,by go_num,rfl,KB.out,UB.out,OB.out⟩
      | false=>
       go_wp2_with (at_builtin;refine wp_more (w0:=W0) rfl (.tmp 87) (.tmp 88) rfl _ ac rfl (OV.out.grew (grew_alloc _ _)) _ [110] rfl (one_row byE wr 110 _ _ rfl (by decide)) (by show ac.length+1<=_;omega) (KV.out.trans (grew_alloc _ _)) _ (show ac++ [110]=_ from HTK.out) ?_)
       intro xb nb xcb Wb HNB OB KB bxb;have UB:Hid (BoxT Wb pq 4 (bs.map Value.bool)):=dD<|bxb _ _ _ (by decide) (UV.out.grew (grew_alloc _ _))
       clear bxb u;go_wp2
       go_roundg (4 -(j+1))
       case measure=>omega
       exact⟨j+1,⟨xb,nb,xcb⟩,by omega,by omega,by go_num,rfl,KB.out,UB.out,OB.out⟩
     have hltz3:¬(j:Int)<4:=by omega
     have:j=4:=by omega
     subst this;have OF:Hid (OwnRow byE W0.heap.size wr (.slice t.a t.n t.c) (a3++pagesTo8 m p s (n+1))):=dD<|by
      rw[HPE2.out];have:=OV.out;rw[List.take_of_length_le (by rw[List.length_map,HBL4.out];exact nR _)]at this
      exact this
     have HTN:Hid (t.n=(a3++pagesTo8 m p s (n+1)).length):=dD<|OF.out.n
     have htn:t.n<=2000*p+2+16*(n+1):=by
      rw[HTN.out,HPE2.out,lA,List.length_map,HBL4.out];have:=HA5E.out;omega
     go_wp2
     go_roundg (64 -(n+1))
     case measure=>omega
     exact⟨n+1,t.n,t.a,t.c,by omega,by omega,htn,by go_num,rfl,HTN.out,KV.out,OF.out⟩
  have hltz2:¬(n:Int)<64:=by omega
  have:n=64:=by omega
  subst this;rw[<-HLA.out]at OW HNN;go_wp2
  go_roundg (spn -(p+1))
  case measure=>omega
  exact⟨p+1,nn,ya,yc,by omega,by omega,by omega,by go_num,rfl,HNN.out,KW.out,OW.out⟩
 have hltz:¬(p:Int)< (spn:Int):=by omega
 have:p=spn:=by omega
 subst this;have x7:=(X0.out.grew KW.out).c 7 rfl;obtain⟨a6,HA6⟩:∃a6:List Int,Hid (seenTo m p=a6):=⟨_,rfl⟩;rw[HA6.out]at OW HNC HSL;have h6:a6.length<=8000:=by have:=HNC.out;omega
 have OW2:Hid (OwnRow byE W0.heap.size wr (.slice xa nc xc) (a6++filesTo8 m 0)):=dD<|by
  rw[show filesTo8 m 0=[]from rfl,List.append_nil]
  exact OW.out
 go_upto_region 24 with fail;clear x7;obtain⟨WC,hWC⟩:∃WC,wr=WC:=⟨_,rfl⟩;rw[hWC]at OW2 KW⊢;clear hWC
 go_loopg [3,97] fln (fun gg s3 s97 wr=>∃(f:Nat) (t:Sli),f<=fln/\fln - f<=gg/\s97= .int .i64 f/\s3= .slice t.a t.n t.c/\Hid (Grew W0 wr)/\Hid (OwnRow byE W0.heap.size wr (.slice t.a t.n t.c) (a6++filesTo8 m f))/\Hid ((a6++filesTo8 m f).length<=8000+1002*f))
 case atStart=>exact⟨0,⟨xa,nc,xc⟩,by omega,by omega,rfl,rfl,KW.out,OW2.out,show _<=_ by simpa [filesTo8]using h6⟩
 obtain⟨f,t,hf,hgf,rfl,rfl,KV,OV,HLV⟩:=hrel
 by_cases hlt4:f<fln
 ·have hltz4:(f:Int)< (fln:Int):=by omega
  have hby:=HBY.out wr (f:Int) (G0.out.trans KV.out);have x0:=(X0.out.grew KV.out).c 0 rfl;have x1:=(X0.out.grew KV.out).c 1 rfl;have x2:=(X0.out.grew KV.out).c 2 rfl;have x3:=(X0.out.grew KV.out).c 3 rfl;have x4:=(X0.out.grew KV.out).c 4 rfl;have x5:=(X0.out.grew KV.out).c 5 rfl;have x6:=(X0.out.grew KV.out).c 6 rfl;have x7:=(X0.out.grew KV.out).c 7 rfl;have x8:=(X0.out.grew KV.out).c 8 rfl;have x9:=(X0.out.grew KV.out).c 9 rfl;have x10:=(X0.out.grew KV.out).c 10 rfl;go_wp2_with fail;refine hby.mono ?_;clear hby x0 x1 x2 x3 x4 x5 x6 x7 x8 x9 x10;rintro r W1 ⟨⟨u,rfl,ow1⟩,g1⟩;obtain⟨ua,uc,rfl⟩:=ow1.form;have hbl:=HBL.out (f:Int);have HFN:Hid (a6++filesTo8 m (f+1)=((a6++filesTo8 m f)++ [102,((bytesL m (f:Int)).length:Int) % 256])++bytesL m (f:Int)):=dD<|by
   rw[files_next];unfold seenF;simp
  obtain⟨bl,HBLL⟩:∃bl,Hid (bytesL m (f:Int)=bl):=⟨_,rfl⟩;rw[HBLL.out]at ow1 hbl HFN⊢;have K1:=dD (KV.out.trans g1);have O1:=dD (OV.out.grew g1);have Y1:Hid (OwnRow byE wr.heap.size W1 (.slice ua bl.length uc) bl):=ow1;have HTL:Hid (∀g,(Value.slice t.a t.n t.c).ownBlock=some g->g<wr.heap.size):=show∀g,_ from fun g hg=>(OV.out.lt g hg).2
  clear ow1 g1
  generalize a6++filesTo8 m f=ac at O1 HFN HLV
  have hac:ac.length<=20000:=by have:=HLV.out;omega
  obtain⟨bn,HBN⟩:∃bn,Hid (bl.length=bn):=⟨_,rfl⟩;rw[HBN.out]at Y1 hbl HFN⊢;obtain⟨W2,hW2⟩:∃W2,W1.alloc (.cells #[.int .u8 102,.int .u8 ((bn:Int) % 256)] 5)=W2:=⟨_,rfl⟩;have g2:=gP hW2
  have R2:Hid (RowAt byE W2 (.slice (some ⟨W1.heap.size,0,none⟩) 2 2) [102,(bn:Int) % 256]):=dD<|by rw[<-hW2];exact row_lit byE W1 [102,(bn:Int) % 256] _ rfl (show 2*1<=_ by decide)
  have K2:=dD (K1.out.trans g2);have O2:=dD (O1.out.grew g2);have Y2:=dD (Y1.out.grew g2);have HW2:Hid (_=W2):=hW2;clear hW2 g2
  go_wp2_with (at_builtin;rw[HW2.out];refine wpList_append_row (E:=byE) rfl (.tmp 106) (.tmp 110) rfl W0.heap.size _ ac rfl O2.out _ [102,(bn:Int) % 256] rfl R2.out (by show(ac.length+2)*1<=_;omega) (bS K2.out) ?_)
  intro v3 W3 ow3 gr3;have K3:Hid (Grew W0 W3):=dD<|Grew.row O2.out gr3 K2.out
  have Y3:Hid (OwnRow byE wr.heap.size W3 (.slice ua bn uc) bl):=dD<|Y2.out.grown gr3 (fun g hg e=>by have:=HTL.out g e;have:=(Y2.out.lt g hg).1;omega)
  obtain⟨a3',c3',rfl⟩:=ow3.form;have O3:Hid (OwnRow byE W0.heap.size W3 (.slice a3' (ac++ [102,(bn:Int) % 256]).length c3') (ac++ [102,(bn:Int) % 256])):=ow3;clear ow3 gr3
  go_wp2_with (at_builtin;refine wp_more (w0:=W0) rfl (.tmp 111) (.tmp 112) rfl _ (ac++ [102,(bn:Int) % 256]) rfl O3.out _ bl rfl Y3.out.at (by simp only[lA];show ac.length+2+_<=_;have:=HBN.out;omega) K3.out _ HFN.out.symm ?_)
  intro xb nb xcb Wb HNB OB KB bxb;have HLB:Hid ((a6++filesTo8 m (f+1)).length<=8000+1002*(f+1)):=dD<|by
   rw[HFN.out];have:=HLV.out;have:=HBN.out;simp only[lA,List.length_cons,List.length_nil];omega
  clear bxb;go_wp2
  go_roundg (fln -(f+1))
  case measure=>omega
  exact⟨f+1,⟨xb,nb,xcb⟩,by omega,by omega,by go_num,rfl,KB.out,OB.out,HLB.out⟩
 have hltz4:¬(f:Int)< (fln:Int):=by omega
 have:f=fln:=by omega
 subst this;have hst:=by_string OV.out.at;rw[<-HSL.out]at hst;have GF:=dD (G0.out.trans KV.out);go_wp2;go_ret;exact⟨rfl,GF.out⟩
theorem ownLaw_any (F S B:Int) (vl:Sli) (L:List Int) (w:World) (lr:RowAt byE w (.slice vl.a vl.n vl.c) L) (lc:vl.n<=vl.c) (lb:∀z∈L,0<=z/\z<256):
  Calls prog 4 #[.agg #[.int .i64 F,.int .i64 S,.int .i64 B],.slice vl.a vl.n vl.c] w fun e w'=>e= .returned (.bool true)/\Grew w w':=by
 obtain⟨W0,hW0⟩:∃W0,w.alloc (.cells #[.int .i64 F,.int .i64 S,.int .i64 B] 23)=W0:=⟨_,rfl⟩;have G0:=gA hW0
 have C0:=xA hW0
 have HW0:Hid (_=W0):=hW0;have HLR:Hid (RowAt byE w (.slice vl.a vl.n vl.c) L):=lr;have HLC:Hid (vl.n<=vl.c):=lc;have HLB:Hid (∀z∈L,0<=z/\z<256):=show∀z,_ from lb
 obtain⟨nf,HNF⟩:∃nf:Nat,Hid (max (min F 40) 0=(nf:Int)):=⟨(max (min F 40) 0).toNat,show _=_ by omega⟩
 obtain⟨ns,HNS⟩:∃ns:Nat,Hid (max (min S 60) 0=(ns:Int)):=⟨(max (min S 60) 0).toNat,show _=_ by omega⟩
 obtain⟨nb,HNB⟩:∃nb:Nat,Hid (max (min B 80) 0=(nb:Int)):=⟨(max (min B 80) 0).toNat,show _=_ by omega⟩
 clear hW0 lr lc lb;have hal:=aliveM_any W0
 go_enter func4,ntmps4
 go_wp2_with fail;rw[HW0.out];refine hal.mono ?_;clear hal;rintro e W1 ⟨rfl,g1⟩;have G1:=dD (G0.out.trans g1);have C1:=dD (C0.out.grew g1);clear g1;have hbu:=build_any F S B nf ns nb HNF.out HNS.out HNB.out vl L W1 (HLR.out.grew G1.out) HLC.out HLB.out;obtain⟨c0,c1,c2⟩:=C1.out.c3;go_wp2_with fail;refine hbu.mono ?_;clear hbu c0 c1 c2;rintro e W2 ⟨V,m0,T,hd,hi,ht,vt,rfl,hB⟩;obtain⟨at2,w2⟩:=hB.at;have HFI:Hid (∀s∈(finish m0 T hd).sp,FilesIn m0.fl.length s.ars):=show∀s,_ from fun s hs=>by
  obtain⟨s0,k1,k2⟩:=fin_ars hs;rw[k2];exact(hB.fin s0 k1).1
 obtain⟨m,HM⟩:∃m,Hid (finish m0 T hd=m):=⟨_,rfl⟩;have A2:Hid (MachAt W2 V m):=dD<|by rw[<-HM.out];exact at2
 have HW:Hid (maW m=0):=dD<|by rw[<-HM.out];exact w2
 have HRT:Hid (Rt m):=dD<|⟨HW.out,fun s hs=>by
  obtain⟨i,hi⟩:=List.getElem?_of_mem hs;obtain⟨xs,_,s2,s3⟩:=A2.out.sp;have hx:i<xs.length:=by rw[s2];exact(gS.1 hi).1
  exact(s3 i _ s (gE hx) hi).tb.tlen⟩
 have G2:Hid (Grew w W2):=G1.out.trans hB.gr;have hmh:hd=m.hand:=by rw[<-HM.out];rfl
 have hmc:m0.cnt=m.cnt:=by rw[<-HM.out];rfl
 rw[hmh,hmc];have HFS:Hid (∀s∈m.sp,FilesIn m.fl.length s.ars):=dD<|fun s hs=>by
  rw[<-HM.out]at hs⊢;exact HFI.out s hs
 clear hB at2 w2 hmh hmc;go_upto_region 4 with fail;obtain⟨pm,HPM⟩:∃pm,Hid (W2.heap.size=pm):=⟨_,rfl⟩;obtain⟨W2a,hW3⟩:∃W2a,W2.alloc (.cells #[.slice V.f.a V.f.n V.f.c,.int .i64 m.hand,.slice V.s.a V.s.n V.s.c,.slice V.sb.a V.sb.n V.sb.c,.slice V.sq.a V.sq.n V.sq.c,.slice V.db.a V.db.n V.db.c,.slice V.dq.a V.dq.n V.dq.c,.slice V.fl.a V.fl.n V.fl.c,.int .i64 m.cnt,.slice V.ca.a V.ca.n V.ca.c,.slice V.sp.a V.sp.n V.sp.c] 40)=W2a:=⟨_,rfl⟩;have g3:=gP hW3
 have P2:=xPT hW3 HPM
 have A2a:=dD (A2.out.grew g3);have G2a:=dD (G2.out.trans g3);rw[hW3,HPM.out];clear hW3 g3;obtain⟨x0,x1,x2,x3,x4,x5,x6,x7,x8,x9,x10⟩:=P2.out.box.c11;have hse:=refSeen_any V m W2a A2a.out HW.out HFS.out;go_wp2_with fail;refine hse.mono ?_;clear hse x0 x1 x2 x3 x4 x5 x6 x7 x8 x9 x10;rintro e W3 ⟨rfl,g3⟩;have G3:=dD (G2a.out.trans g3);have A3:=dD (A2a.out.grew g3);have P3:=dD (P2.out.grew g3);clear g3 A2a G2a;obtain⟨S0,HS0⟩:∃S0,Hid (strOfNums (seenL m)=S0):=⟨_,rfl⟩;rw[HS0.out];have how:=ownM_any V m W3 A3.out;obtain⟨x0,x1,x2,x3,x4,x5,x6,x7,x8,x9,x10⟩:=P3.out.box.c11;go_wp2_with fail;refine how.mono ?_;clear how x0 x1 x2 x3 x4 x5 x6 x7 x8 x9 x10;rintro e W4 ⟨V5,rfl,ow4,g4⟩;have HB4:Hid (W3.heap.size<=W4.heap.size):=show _<=_ from bS g4
 have HPL:Hid (pm<W3.heap.size):=dD<|P3.out.box.lt
 go_upto_region 6 with fail;obtain⟨pk,HPK⟩:∃pk,Hid (W4.heap.size=pk):=⟨_,rfl⟩;obtain⟨W5,hW5⟩:∃W5,W4.alloc (.cells #[.slice V5.f.a V5.f.n V5.f.c,.int .i64 m.hand,.slice V5.s.a V5.s.n V5.s.c,.slice V5.sb.a V5.sb.n V5.sb.c,.slice V5.sq.a V5.sq.n V5.sq.c,.slice V5.db.a V5.db.n V5.db.c,.slice V5.dq.a V5.dq.n V5.dq.c,.slice V5.fl.a V5.fl.n V5.fl.c,.int .i64 m.cnt,.slice V5.ca.a V5.ca.n V5.ca.c,.slice V5.sp.a V5.sp.n V5.sp.c] 40)=W5:=⟨_,rfl⟩;have g5:=gP hW5
 have Q5:=xPT hW5 HPK
 have P5:=dD ((P3.out.grew g4).grew g5);have E5:Hid (Grew W3 W5):=g4.trans g5;have K5:Hid (OwnM W3.heap.size W5 V5 m):=ow4.grew g5;rw[hW5,HPK.out];clear hW5 g5 g4 ow4;have hse:=refSeen_any V5 m W5 K5.out.at HW.out HFS.out;rw[HS0.out]at hse;obtain⟨x0,x1,x2,x3,x4,x5,x6,x7,x8,x9,x10⟩:=Q5.out.box.c11;go_wp2_with fail;refine hse.mono ?_;clear hse x0 x1 x2 x3 x4 x5 x6 x7 x8 x9 x10;rintro e W6 ⟨rfl,g6⟩;have Q6:=dD (Q5.out.grew g6);have P6:=dD (P5.out.grew g6);have E6:=dD (E5.out.trans g6);have K6:Hid (OwnW W3.heap.size W6 V5):=(K5.out.grew g6).w;obtain⟨k1,k2,k3,k4,k5,k6,k7,k8,k9⟩:=(K5.out.grew g6).at.ns;have HIV:Hid (BInv m (flats m)):=HRT.out.inv;have hf40:V5.f.n<=40:=by rw[k1];exact HIV.out.fs40
 have hs60:V5.s.n<=60:=by rw[k2];exact HIV.out.sl60
 have hsb60:V5.sb.n<=60:=by rw[k3,HIV.out.sbl];exact HIV.out.sl60
 have hdb80:V5.db.n<=100:=by
  rw[k5];have h1:=HIV.out.cnt;have h2:=((stW_zero _ _).1 HIV.out.st);have h3:m.cnt<=80:=by first | exact h2.2.2.1 | omega | (have:=HIV.out.dok;unfold wrongL at this;split at this <;> omega)
  omega
 clear g6;have WB:Hid (Wr W3.heap.size W6 W6):=Wr.refl _ _;obtain⟨n1,HN1⟩:∃n1,Hid (V5.f.n=n1):=⟨_,rfl⟩;obtain⟨a1,HA1⟩:∃a1,Hid (V5.f.a=a1):=⟨_,rfl⟩;have HR1:Hid (∀wr,OwnW W3.heap.size wr V5->∀kk:Nat,kk<n1->∃g cs,a1=some ⟨g,0,none⟩/\BoxT wr g 59 cs/\(kk+1)*13<=cs.length/\W3.heap.size<=g):=show∀wr,_ from fun wr h kk hk=>by
  rcases h.f with h|⟨g,cs,h1,h2,h3,h4,_⟩
  ·have:=HN1.out;omega
  refine⟨g,cs,by rw[<-HA1.out];exact h1,h2,nT (Nat.mul_le_mul_right _ ?_) h3,h4⟩
  have:=HN1.out;omega
 rw[HN1.out]at hf40;have y:=(WB.out.keep _ _ _ Q6.out (.inr (.inr rfl))).box.c 0 rfl;rw[HN1.out,HA1.out]at y;go_upto_region 9 with fail;clear y
 go_loopg [41] n1 (fun gg sc wr=>∃kk:Nat,kk<=n1/\n1 - kk<=gg/\sc= .int .i64 kk/\Hid (Wr W3.heap.size W6 wr))
 case atStart=>exact⟨0,nZ _,by omega,rfl,WB.out⟩
 case round=>
 obtain⟨kk,hkk,hgg,rfl,WR⟩:=hrel
 by_cases hlt:kk<n1
 ·have hltz:(kk:Int)< (n1:Int):=by omega
  obtain⟨g,cs,rfl,hb,hl,hlo⟩:=HR1.out wr (K6.out.wr WR.out) kk hlt;have HBX:Hid (BoxT wr g 59 cs):=hb;have HLL:Hid ((kk+1)*13<=cs.length/\W3.heap.size<=g):=⟨hl,hlo⟩;clear hb hl hlo;have y:=(WR.out.keep _ _ _ Q6.out (.inr (.inr rfl))).box.c 0 rfl;rw[HN1.out,HA1.out]at y
  go_wp2_with (refine wp_storeW W3.heap.size rfl 59 (.tmp 49) (.tmp 48) rfl g (kk*13) rfl (.agg #[.int .u8 0,.int .u8 0,.int .u8 0,.int .u8 0,.int .u8 0,.int .u8 0,.int .u8 0,.int .u8 0,.int .i64 0,.bool false,.bool false,.int .i64 0,.int .i64 0]) rfl [.int .u8 0,.int .u8 0,.int .u8 0,.int .u8 0,.int .u8 0,.int .u8 0,.int .u8 0,.int .u8 0,.int .i64 0,.bool false,.bool false,.int .i64 0,.int .i64 0] rfl HBX.out (by have:=HLL.out.1;show(kk*13)+13<=_;omega) (by kernel_rfl) (by simp[Value.oneCell']) HLL.out.2 (by decide) ?_)
  intro w1 wr1;have WR1:=dD (WR.out.trans wr1);clear wr1 y;go_wp2
  go_roundg (n1 -(kk+1))
  case measure=>omega
  exact⟨kk+1,by omega,by omega,by go_num,WR1.out⟩
 have hltz:¬(kk:Int)< (n1:Int):=by omega
 have hke:kk=n1:=by omega
 subst hke;have Q7:Hid (BoxT wr pk 40 [.slice V5.f.a V5.f.n V5.f.c,.int .i64 m.hand,.slice V5.s.a V5.s.n V5.s.c,.slice V5.sb.a V5.sb.n V5.sb.c,.slice V5.sq.a V5.sq.n V5.sq.c,.slice V5.db.a V5.db.n V5.db.c,.slice V5.dq.a V5.dq.n V5.dq.c,.slice V5.fl.a V5.fl.n V5.fl.c,.int .i64 m.cnt,.slice V5.ca.a V5.ca.n V5.ca.c,.slice V5.sp.a V5.sp.n V5.sp.c]):=WR.out.keep _ _ _ Q6.out (.inr (.inr rfl));obtain⟨WN1,hWN⟩:∃WN1,wr=WN1:=⟨_,rfl⟩;rw[hWN]at WR Q7⊢;clear hWN hlt hltz hkk hgg
 replace WB:Hid (Wr W3.heap.size W6 WN1):=WR
 obtain⟨n2,HN2⟩:∃n2,Hid (V5.db.n=n2):=⟨_,rfl⟩;obtain⟨a2,HA2⟩:∃a2,Hid (V5.db.a=a2):=⟨_,rfl⟩;have HR2:Hid (∀wr,OwnW W3.heap.size wr V5->∀kk:Nat,kk<n2->∃g cs,a2=some ⟨g,0,none⟩/\BoxT wr g 50 cs/\(kk+1)*8<=cs.length/\W3.heap.size<=g):=dD<|fun wr h kk hk=>by
  rcases h.db with h|⟨g,cs,h1,h2,h3,h4,_⟩
  ·have:=HN2.out;omega
  refine⟨g,cs,by rw[<-HA2.out];exact h1,h2,nT (Nat.mul_le_mul_right _ ?_) h3,h4⟩
  have:=HN2.out;omega
 rw[HN2.out]at hdb80;have y:=(WB.out.keep _ _ _ Q6.out (.inr (.inr rfl))).box.c 5 rfl;rw[HN2.out,HA2.out]at y;go_upto_region 14 with fail;clear y
 go_loopg [55] n2 (fun gg sc wr=>∃kk:Nat,kk<=n2/\n2 - kk<=gg/\sc= .int .i64 kk/\Hid (Wr W3.heap.size W6 wr))
 case atStart=>exact⟨0,nZ _,by omega,rfl,WB.out⟩
 case round=>
 obtain⟨kk,hkk,hgg,rfl,WR⟩:=hrel
 by_cases hlt:kk<n2
 ·have hltz:(kk:Int)< (n2:Int):=by omega
  obtain⟨g,cs,rfl,hb,hl,hlo⟩:=HR2.out wr (K6.out.wr WR.out) kk hlt;have HBX:Hid (BoxT wr g 50 cs):=hb;have HLL:Hid ((kk+1)*8<=cs.length/\W3.heap.size<=g):=⟨hl,hlo⟩;clear hb hl hlo;have y:=(WR.out.keep _ _ _ Q6.out (.inr (.inr rfl))).box.c 5 rfl;rw[HN2.out,HA2.out]at y
  go_wp2_with (refine wp_storeW W3.heap.size rfl 50 (.tmp 63) (.tmp 62) rfl g (kk*8) rfl (.agg #[.int .u8 1,.int .u8 0,.int .u8 0,.int .u8 0,.int .u8 0,.int .u8 0,.int .u8 0,.int .u8 0]) rfl [.int .u8 1,.int .u8 0,.int .u8 0,.int .u8 0,.int .u8 0,.int .u8 0,.int .u8 0,.int .u8 0] rfl HBX.out (by have:=HLL.out.1;show(kk*8)+8<=_;omega) (by kernel_rfl) (by simp[Value.oneCell']) HLL.out.2 (by decide) ?_)
  intro w1 wr1;have WR1:=dD (WR.out.trans wr1);clear wr1 y;go_wp2
  go_roundg (n2 -(kk+1))
  case measure=>omega
  exact⟨kk+1,by omega,by omega,by go_num,WR1.out⟩
 have hltz:¬(kk:Int)< (n2:Int):=by omega
 have hke:kk=n2:=by omega
 subst hke;have Q7:Hid (BoxT wr pk 40 [.slice V5.f.a V5.f.n V5.f.c,.int .i64 m.hand,.slice V5.s.a V5.s.n V5.s.c,.slice V5.sb.a V5.sb.n V5.sb.c,.slice V5.sq.a V5.sq.n V5.sq.c,.slice V5.db.a V5.db.n V5.db.c,.slice V5.dq.a V5.dq.n V5.dq.c,.slice V5.fl.a V5.fl.n V5.fl.c,.int .i64 m.cnt,.slice V5.ca.a V5.ca.n V5.ca.c,.slice V5.sp.a V5.sp.n V5.sp.c]):=WR.out.keep _ _ _ Q6.out (.inr (.inr rfl));obtain⟨WN2,hWN⟩:∃WN2,wr=WN2:=⟨_,rfl⟩;rw[hWN]at WR Q7⊢;clear hWN hlt hltz hkk hgg
 replace WB:Hid (Wr W3.heap.size W6 WN2):=WR
 obtain⟨n3,HN3⟩:∃n3,Hid (V5.sb.n=n3):=⟨_,rfl⟩;obtain⟨a3,HA3⟩:∃a3,Hid (V5.sb.a=a3):=⟨_,rfl⟩;have HR3:Hid (∀wr,OwnW W3.heap.size wr V5->∀kk:Nat,kk<n3->∃g cs,a3=some ⟨g,0,none⟩/\BoxT wr g 50 cs/\(kk+1)*8<=cs.length/\W3.heap.size<=g):=dD<|fun wr h kk hk=>by
  rcases h.sb with h|⟨g,cs,h1,h2,h3,h4,_⟩
  ·have:=HN3.out;omega
  refine⟨g,cs,by rw[<-HA3.out];exact h1,h2,nT (Nat.mul_le_mul_right _ ?_) h3,h4⟩
  have:=HN3.out;omega
 rw[HN3.out]at hsb60;have y:=(WB.out.keep _ _ _ Q6.out (.inr (.inr rfl))).box.c 3 rfl;rw[HN3.out,HA3.out]at y;go_upto_region 19 with fail;clear y
 go_loopg [69] n3 (fun gg sc wr=>∃kk:Nat,kk<=n3/\n3 - kk<=gg/\sc= .int .i64 kk/\Hid (Wr W3.heap.size W6 wr))
 case atStart=>exact⟨0,nZ _,by omega,rfl,WB.out⟩
 case round=>
 obtain⟨kk,hkk,hgg,rfl,WR⟩:=hrel
 by_cases hlt:kk<n3
 ·have hltz:(kk:Int)< (n3:Int):=by omega
  obtain⟨g,cs,rfl,hb,hl,hlo⟩:=HR3.out wr (K6.out.wr WR.out) kk hlt;have HBX:Hid (BoxT wr g 50 cs):=hb;have HLL:Hid ((kk+1)*8<=cs.length/\W3.heap.size<=g):=⟨hl,hlo⟩;clear hb hl hlo;have y:=(WR.out.keep _ _ _ Q6.out (.inr (.inr rfl))).box.c 3 rfl;rw[HN3.out,HA3.out]at y
  go_wp2_with (refine wp_storeW W3.heap.size rfl 50 (.tmp 77) (.tmp 76) rfl g (kk*8) rfl (.agg #[.int .u8 1,.int .u8 0,.int .u8 0,.int .u8 0,.int .u8 0,.int .u8 0,.int .u8 0,.int .u8 0]) rfl [.int .u8 1,.int .u8 0,.int .u8 0,.int .u8 0,.int .u8 0,.int .u8 0,.int .u8 0,.int .u8 0] rfl HBX.out (by have:=HLL.out.1;show(kk*8)+8<=_;omega) (by kernel_rfl) (by simp[Value.oneCell']) HLL.out.2 (by decide) ?_)
  intro w1 wr1;have WR1:=dD (WR.out.trans wr1);clear wr1 y;go_wp2
  go_roundg (n3 -(kk+1))
  case measure=>omega
  exact⟨kk+1,by omega,by omega,by go_num,WR1.out⟩
 have hltz:¬(kk:Int)< (n3:Int):=by omega
 have hke:kk=n3:=by omega
 subst hke;have Q7:Hid (BoxT wr pk 40 [.slice V5.f.a V5.f.n V5.f.c,.int .i64 m.hand,.slice V5.s.a V5.s.n V5.s.c,.slice V5.sb.a V5.sb.n V5.sb.c,.slice V5.sq.a V5.sq.n V5.sq.c,.slice V5.db.a V5.db.n V5.db.c,.slice V5.dq.a V5.dq.n V5.dq.c,.slice V5.fl.a V5.fl.n V5.fl.c,.int .i64 m.cnt,.slice V5.ca.a V5.ca.n V5.ca.c,.slice V5.sp.a V5.sp.n V5.sp.c]):=WR.out.keep _ _ _ Q6.out (.inr (.inr rfl));obtain⟨WN3,hWN⟩:∃WN3,wr=WN3:=⟨_,rfl⟩;rw[hWN]at WR Q7⊢;clear hWN hlt hltz hkk hgg
 replace WB:Hid (Wr W3.heap.size W6 WN3):=WR
 obtain⟨n4,HN4⟩:∃n4,Hid (V5.s.n=n4):=⟨_,rfl⟩;obtain⟨a4,HA4⟩:∃a4,Hid (V5.s.a=a4):=⟨_,rfl⟩;have HR4:Hid (∀wr,OwnW W3.heap.size wr V5->∀kk:Nat,kk<n4->∃g cs,a4=some ⟨g,0,none⟩/\BoxT wr g 3 cs/\(kk+1)*1<=cs.length/\W3.heap.size<=g):=dD<|fun wr h kk hk=>by
  rcases h.s with h|⟨g,cs,h1,h2,h3,h4,_⟩
  ·have:=HN4.out;omega
  refine⟨g,cs,by rw[<-HA4.out];exact h1,h2,nT (Nat.mul_le_mul_right _ ?_) h3,h4⟩
  have:=HN4.out;omega
 rw[HN4.out]at hs60;have y:=(WB.out.keep _ _ _ Q6.out (.inr (.inr rfl))).box.c 2 rfl;rw[HN4.out,HA4.out]at y;go_upto_region 24 with fail;clear y
 go_loopg [82] n4 (fun gg sc wr=>∃kk:Nat,kk<=n4/\n4 - kk<=gg/\sc= .int .i64 kk/\Hid (Wr W3.heap.size W6 wr))
 case atStart=>exact⟨0,nZ _,by omega,rfl,WB.out⟩
 case round=>
 obtain⟨kk,hkk,hgg,rfl,WR⟩:=hrel
 by_cases hlt:kk<n4
 ·have hltz:(kk:Int)< (n4:Int):=by omega
  obtain⟨g,cs,rfl,hb,hl,hlo⟩:=HR4.out wr (K6.out.wr WR.out) kk hlt;have HBX:Hid (BoxT wr g 3 cs):=hb;have HLL:Hid ((kk+1)*1<=cs.length/\W3.heap.size<=g):=⟨hl,hlo⟩;clear hb hl hlo;have y:=(WR.out.keep _ _ _ Q6.out (.inr (.inr rfl))).box.c 2 rfl;rw[HN4.out,HA4.out]at y
  go_wp2_with (refine wp_storeW W3.heap.size rfl 3 (.tmp 88) (.const (.int .i64 9)) rfl g kk rfl (.int .i64 9) rfl [.int .i64 9] rfl HBX.out (by have:=HLL.out.1;show kk+1<=_;omega) (by kernel_rfl) (by simp[Value.oneCell']) HLL.out.2 (by decide) ?_)
  intro w1 wr1;have WR1:=dD (WR.out.trans wr1);clear wr1 y;go_wp2
  go_roundg (n4 -(kk+1))
  case measure=>omega
  exact⟨kk+1,by omega,by omega,by go_num,WR1.out⟩
 have hltz:¬(kk:Int)< (n4:Int):=by omega
 have hke:kk=n4:=by omega
 subst hke;have Q7:Hid (BoxT wr pk 40 [.slice V5.f.a V5.f.n V5.f.c,.int .i64 m.hand,.slice V5.s.a V5.s.n V5.s.c,.slice V5.sb.a V5.sb.n V5.sb.c,.slice V5.sq.a V5.sq.n V5.sq.c,.slice V5.db.a V5.db.n V5.db.c,.slice V5.dq.a V5.dq.n V5.dq.c,.slice V5.fl.a V5.fl.n V5.fl.c,.int .i64 m.cnt,.slice V5.ca.a V5.ca.n V5.ca.c,.slice V5.sp.a V5.sp.n V5.sp.c]):=WR.out.keep _ _ _ Q6.out (.inr (.inr rfl));obtain⟨WN4,hWN⟩:∃WN4,wr=WN4:=⟨_,rfl⟩;rw[hWN]at WR Q7⊢;clear hWN hlt hltz hkk hgg
 replace WB:Hid (Wr W3.heap.size W6 WN4):=WR
 obtain⟨xs,s1,s2⟩:=K6.out.sp;have HXS:Hid (OwnRow spcE W3.heap.size W6 (.slice V5.sp.a V5.sp.n V5.sp.c) xs):=s1;have HXR:Hid (∀(i:Nat) x,xs[i]? =some x->Room W3.heap.size W6 x.ar 69 7/\∀(j:Nat) t,[x.t0,x.t1,x.t2,x.t3,x.t4,x.t5,x.t6,x.t7][j]? =some t->Room W3.heap.size W6 t 67 3):=show∀(i:Nat) x,_ from s2
 have hsp4:V5.sp.n<=4:=by rw[k9];exact HIV.out.spl
 have HXN:Hid (V5.sp.n=xs.length):=dD<|s1.n
 clear s1 s2;obtain⟨n5,HN5⟩:∃n5,Hid (V5.sp.n=n5):=⟨_,rfl⟩;obtain⟨a5,HA5⟩:∃a5,Hid (V5.sp.a=a5):=⟨_,rfl⟩;rw[HN5.out]at hsp4;have HG5:Hid (∀kk:Nat,kk<n5->∃g x,a5=some ⟨g,0,none⟩/\xs[kk]? =some x/\∀wr,Wr W3.heap.size W6 wr->Sp10 wr ⟨g,kk*10,none⟩ x):=dD<|fun kk hk=>by
  have hl:kk<xs.length:=by rw[<-HXN.out,HN5.out];exact hk
  obtain⟨g,c,heq⟩:=HXS.out.formS (by omega)
  have he:=heq;simp only[vJ]at he;refine⟨g,_,by rw[<-HA5.out];exact he.1,gE hl,fun wr h=>?_⟩
  have s1:=HXS.out.wr h (.inl rfl);rw[heq]at s1;have:=(s1.one (gE hl)).sp10;rw[Addr.add_lit,zA]at this;exact this
 have y:=(WB.out.keep _ _ _ Q6.out (.inr (.inr rfl))).box.c 10 rfl;rw[HN5.out,HA5.out]at y;go_upto_region 29 with fail;clear y
 go_loopg [93] n5 (fun gg sc wr=>∃kk:Nat,kk<=n5/\n5 - kk<=gg/\sc= .int .i64 kk/\Hid (Wr W3.heap.size W6 wr))
 case atStart=>exact⟨0,nZ _,by omega,rfl,WB.out⟩
 case round=>
 obtain⟨kk,hkk,hgg,rfl,WR⟩:=hrel
 by_cases hlt:kk<n5
 ·have hltz:(kk:Int)< (n5:Int):=by omega
  obtain⟨g,x,rfl,hx,hsp⟩:=HG5.out kk hlt;have HSPC:Hid (∀wr,Wr W3.heap.size W6 wr->Sp10 wr ⟨g,kk*10,none⟩ x):=dD<|hsp
  have HRO:Hid (Room W3.heap.size W6 x.ar 69 7/\∀(j:Nat) t,[x.t0,x.t1,x.t2,x.t3,x.t4,x.t5,x.t6,x.t7][j]? =some t->Room W3.heap.size W6 t 67 3):=HXR.out kk x hx;have HXK:Hid (xs[kk]? =some x):=hx;clear hx hsp;obtain⟨d0,d1,d2,d3,d4,d5,d6,d7,d8,d9⟩:=HSPC.out wr WR.out;have y:=(WR.out.keep _ _ _ Q6.out (.inr (.inr rfl))).box.c 10 rfl;rw[HN5.out,HA5.out]at y;go_upto_region 32 with fail;clear d0 d1 d2 d3 d4 d5 d6 d7 d8 d9 y;obtain⟨WC,hWC⟩:∃WC,wr=WC:=⟨_,rfl⟩;rw[hWC]at WR⊢;clear hWC
  go_loopg [102] 8 (fun gg sc wr=>∃jj:Nat,jj<=8/\8 - jj<=gg/\sc= .int .i64 jj/\Hid (Wr W3.heap.size W6 wr))
  case atStart=>exact⟨0,by omega,by omega,rfl,WR.out⟩
  case round=>
  obtain⟨jj,hjj,hgj,rfl,WJ⟩:=hrel
  by_cases hltj:jj<8
  ·have hltjz:(jj:Int)<8:=by omega
   obtain⟨tj,HTJ⟩:∃tj,Hid ([x.t0,x.t1,x.t2,x.t3,x.t4,x.t5,x.t6,x.t7][jj]? =some tj):=⟨_,gE (by simpa using hltj)⟩
   have HVK:Hid (([.slice x.t0.a x.t0.n x.t0.c,.slice x.t1.a x.t1.n x.t1.c,.slice x.t2.a x.t2.n x.t2.c,.slice x.t3.a x.t3.n x.t3.c,.slice x.t4.a x.t4.n x.t4.c,.slice x.t5.a x.t5.n x.t5.c,.slice x.t6.a x.t6.n x.t6.c,.slice x.t7.a x.t7.n x.t7.c]:List Value)[jj]? =some (.slice tj.a tj.n tj.c)):=show([x.t0,x.t1,x.t2,x.t3,x.t4,x.t5,x.t6,x.t7].map Sli.v)[jj]? =_ by rw[List.getElem?_map,HTJ.out];rfl
   have HRT2:Hid (Room W3.heap.size W6 tj 67 3):=HRO.out.2 jj tj HTJ.out;have HCJ:Hid (∀wr,Wr W3.heap.size W6 wr->wr.cell? ⟨g,kk*10+2+jj,none⟩=some (.slice tj.a tj.n tj.c)):=show∀wr,_ from fun wr h=>by
    obtain⟨d0,d1,d2,d3,d4,d5,d6,d7,d8,d9⟩:=HSPC.out wr h;have hh:=HTJ.out
    match jj,hh with
    | 0,hh=>
     have e:x.t0=tj:=by simpa using hh
     rw[<-e];exact d2
    | 1,hh=>
     have e:x.t1=tj:=by simpa using hh
     rw[<-e];exact d3
    | 2,hh=>
     have e:x.t2=tj:=by simpa using hh
     rw[<-e];exact d4
    | 3,hh=>
     have e:x.t3=tj:=by simpa using hh
     rw[<-e];exact d5
    | 4,hh=>
     have e:x.t4=tj:=by simpa using hh
     rw[<-e];exact d6
    | 5,hh=>
     have e:x.t5=tj:=by simpa using hh
     rw[<-e];exact d7
    | 6,hh=>
     have e:x.t6=tj:=by simpa using hh
     rw[<-e];exact d8
    | 7,hh=>
     have e:x.t7=tj:=by simpa using hh
     rw[<-e];exact d9
   obtain⟨nt,HNT⟩:∃nt,Hid (tj.n=nt):=⟨_,rfl⟩;obtain⟨at1,HAT1⟩:∃at1,Hid (tj.a=at1):=⟨_,rfl⟩;rw[HNT.out,HAT1.out]at HVK HCJ;have HRJ:Hid (∀wr,Wr W3.heap.size W6 wr->∀i:Nat,i<nt->∃g cs,at1=some ⟨g,0,none⟩/\BoxT wr g 67 cs/\(i+1)*3<=cs.length/\W3.heap.size<=g):=dD<|fun wr h i hi=>by
    rcases HRT2.out.wr h with h|⟨g,cs,h1,h2,h3,h4,_⟩
    ·have:=HNT.out;omega
    refine⟨g,cs,by rw[<-HAT1.out];exact h1,h2,nT (Nat.mul_le_mul_right _ ?_) h3,h4⟩
    have:=HNT.out;omega
   have hnt:nt<=9223372036854775807:=by rw[<-HNT.out];exact HRT2.out.short
   go_upto_region 35 with(refine wp_half rfl (.tmp 101) (.tmp 102) rfl [.slice x.t0.a x.t0.n x.t0.c,.slice x.t1.a x.t1.n x.t1.c,.slice x.t2.a x.t2.n x.t2.c,.slice x.t3.a x.t3.n x.t3.c,.slice x.t4.a x.t4.n x.t4.c,.slice x.t5.a x.t5.n x.t5.c,.slice x.t6.a x.t6.n x.t6.c,.slice x.t7.a x.t7.n x.t7.c] rfl jj rfl hltj HVK.out ?_)
   obtain⟨WD,hWD⟩:∃WD,wr=WD:=⟨_,rfl⟩;rw[hWD]at WJ⊢;clear hWD
   go_loopg [108] nt (fun gg sc wr=>∃i:Nat,i<=nt/\nt - i<=gg/\sc= .int .i64 i/\Hid (Wr W3.heap.size W6 wr))
   case atStart=>exact⟨0,by omega,by omega,rfl,WJ.out⟩
   case round=>
   obtain⟨i,hi,hgi,rfl,WI⟩:=hrel
   by_cases hlti:i<nt
   ·have hltiz:(i:Int)< (nt:Int):=by omega
    obtain⟨g2,cs,rfl,hb,hl,hlo⟩:=HRJ.out wr WI.out i hlti;have HBX:Hid (BoxT wr g2 67 cs):=hb;have HLL:Hid ((i+1)*3<=cs.length/\W3.heap.size<=g2):=⟨hl,hlo⟩;clear hb hl hlo;have y:=(WI.out.keep _ _ _ Q6.out (.inr (.inr rfl))).box.c 10 rfl;rw[HN5.out,HA5.out]at y;have z:=HCJ.out wr WI.out
    go_wp2_with (refine wp_storeW W3.heap.size rfl 67 (.tmp 121) (.tmp 120) rfl g2 (i*3) rfl (.agg #[.int .i64 0,.int .i64 0,.bool false]) rfl [.int .i64 0,.int .i64 0,.bool false] rfl HBX.out (by have:=HLL.out.1;show i*3+3<=_;omega) (by kernel_rfl) (by simp[Value.oneCell']) HLL.out.2 (by decide) ?_)
    intro w1 wr1;have WR1:=dD (WI.out.trans wr1);clear wr1 y z;go_wp2
    go_roundg (nt -(i+1))
    case measure=>omega
    exact⟨i+1,by omega,by omega,by go_num,WR1.out⟩
   have hltiz:¬(i:Int)< (nt:Int):=by omega
   go_wp2
   go_roundg (8 -(jj+1))
   case measure=>omega
   exact⟨jj+1,by omega,by omega,by go_num,WI.out⟩
  have hltjz:¬(jj:Int)<8:=by omega
  obtain⟨na,HNA⟩:∃na,Hid (x.ar.n=na):=⟨_,rfl⟩;obtain⟨aa,HAA⟩:∃aa,Hid (x.ar.a=aa):=⟨_,rfl⟩;have HRA:Hid (∀wr,Wr W3.heap.size W6 wr->∀i:Nat,i<na->∃g cs,aa=some ⟨g,0,none⟩/\BoxT wr g 69 cs/\(i+1)*7<=cs.length/\W3.heap.size<=g):=dD<|fun wr h i hi=>by
   rcases HRO.out.1.wr h with h|⟨g,cs,h1,h2,h3,h4,_⟩
   ·have:=HNA.out;omega
   refine⟨g,cs,by rw[<-HAA.out];exact h1,h2,nT (Nat.mul_le_mul_right _ ?_) h3,h4⟩
   have:=HNA.out;omega
  have HCA:Hid (∀wr,Wr W3.heap.size W6 wr->wr.cell? ⟨g,kk*10+1,none⟩=some (.slice aa na x.ar.c)):=dD<|fun wr h=>by rw[<-HAA.out,<-HNA.out];exact(HSPC.out wr h).2.1
  have y:=(WJ.out.keep _ _ _ Q6.out (.inr (.inr rfl))).box.c 10 rfl;rw[HN5.out,HA5.out]at y;have z:=HCA.out wr WJ.out;have hna:na<=9223372036854775807:=by rw[<-HNA.out];exact HRO.out.1.short
  go_upto_region 41 with fail;clear y z;obtain⟨WD,hWD⟩:∃WD,wr=WD:=⟨_,rfl⟩;rw[hWD]at WJ⊢;clear hWD
  go_loopg [131] na (fun gg sc wr=>∃i:Nat,i<=na/\na - i<=gg/\sc= .int .i64 i/\Hid (Wr W3.heap.size W6 wr))
  case atStart=>exact⟨0,by omega,by omega,rfl,WJ.out⟩
  case round=>
  obtain⟨i,hi,hgi,rfl,WI⟩:=hrel
  by_cases hlti:i<na
  ·have hltiz:(i:Int)< (na:Int):=by omega
   obtain⟨g2,cs,rfl,hb,hl,hlo⟩:=HRA.out wr WI.out i hlti;have HBX:Hid (BoxT wr g2 69 cs):=hb;have HLL:Hid ((i+1)*7<=cs.length/\W3.heap.size<=g2):=⟨hl,hlo⟩;clear hb hl hlo;have y:=(WI.out.keep _ _ _ Q6.out (.inr (.inr rfl))).box.c 10 rfl;rw[HN5.out,HA5.out]at y;have z:=HCA.out wr WI.out
   go_wp2_with (refine wp_storeW W3.heap.size rfl 69 (.tmp 142) (.tmp 141) rfl g2 (i*7) rfl (.agg #[.int .i64 0,.int .i64 0,.bool false,.bool false,.bool false,.int .i64 0,.int .i64 0]) rfl [.int .i64 0,.int .i64 0,.bool false,.bool false,.bool false,.int .i64 0,.int .i64 0] rfl HBX.out (by have:=HLL.out.1;show i*7+7<=_;omega) (by kernel_rfl) (by simp[Value.oneCell']) HLL.out.2 (by decide) ?_)
   intro w1 wr1;have WR1:=dD (WI.out.trans wr1);clear wr1 y z;go_wp2
   go_roundg (na -(i+1))
   case measure=>omega
   exact⟨i+1,by omega,by omega,by go_num,WR1.out⟩
  have hltiz:¬(i:Int)< (na:Int):=by omega
  go_wp2
  go_roundg (n5 -(kk+1))
  case measure=>omega
  exact⟨kk+1,by omega,by omega,by go_num,WI.out⟩
 have hltz:¬(kk:Int)< (n5:Int):=by omega
 replace WB:Hid (Wr W3.heap.size W6 wr):=WR
 obtain⟨WE,hWE⟩:∃WE,wr=WE:=⟨_,rfl⟩;rw[hWE]at WB⊢;clear hWE hkk hgg;obtain⟨ys,f1,f2⟩:=K6.out.fl;have HYS:Hid (OwnRow fvE W3.heap.size W6 (.slice V5.fl.a V5.fl.n V5.fl.c) ys):=f1;have HYR:Hid (∀(i:Nat) y,ys[i]? =some y->∃t:Sli,y.v= .slice t.a t.n t.c/\Room W3.heap.size W6 t 3 1):=show∀(i:Nat) y,_ from f2
 have HYN:Hid (V5.fl.n=ys.length):=dD<|f1.n
 have hfl5:V5.fl.n<=100:=by
  rw[k7];have:=((stW_zero _ _).1 HIV.out.st).1;omega
 clear f1 f2;obtain⟨n9,HN9⟩:∃n9,Hid (V5.fl.n=n9):=⟨_,rfl⟩;obtain⟨a9,HA9⟩:∃a9,Hid (V5.fl.a=a9):=⟨_,rfl⟩;rw[HN9.out]at hfl5;have HG9:Hid (∀kk:Nat,kk<n9->∃g t,a9=some ⟨g,0,none⟩/\Room W3.heap.size W6 t 3 1/\∀wr,Wr W3.heap.size W6 wr->wr.cell? ⟨g,kk*2+1,none⟩=some (.slice t.a t.n t.c)):=dD<|fun kk hk=>by
  have hl:kk<ys.length:=by rw[<-HYN.out,HN9.out];exact hk
  obtain⟨g,c,heq⟩:=HYS.out.formS (by omega)
  have he:=heq;simp only[vJ]at he;obtain⟨t,t1,t2⟩:=HYR.out kk _ (gE hl);refine⟨g,t,by rw[<-HA9.out];exact he.1,t2,fun wr h=>?_⟩
  have s1:=HYS.out.wr h (.inr (.inl rfl));rw[heq]at s1;have:=s1.one (gE hl) 1 _ rfl;rw[add_add',Addr.add_lit,zA]at this;rw[<-t1];exact this
 have y:=(WB.out.keep _ _ _ Q6.out (.inr (.inr rfl))).box.c 7 rfl;rw[HN9.out,HA9.out]at y;go_upto_region 47 with fail;clear y
 go_loopg [149] n9 (fun gg sc wr=>∃kk:Nat,kk<=n9/\n9 - kk<=gg/\sc= .int .i64 kk/\Hid (Wr W3.heap.size W6 wr))
 case atStart=>exact⟨0,nZ _,by omega,rfl,WB.out⟩
 case round=>
 obtain⟨kk,hkk,hgg,rfl,WR⟩:=hrel
 by_cases hlt:kk<n9
 ·have hltz:(kk:Int)< (n9:Int):=by omega
  obtain⟨g,tj,rfl,hrm,hcl⟩:=HG9.out kk hlt;obtain⟨nt,HNT⟩:∃nt,Hid (tj.n=nt):=⟨_,rfl⟩;obtain⟨at1,HAT1⟩:∃at1,Hid (tj.a=at1):=⟨_,rfl⟩;rw[HNT.out,HAT1.out]at hcl;have HCJ:Hid (∀wr,Wr W3.heap.size W6 wr->wr.cell? ⟨g,kk*2+1,none⟩=some (.slice at1 nt tj.c)):=dD<|hcl
  have HRJ:Hid (∀wr,Wr W3.heap.size W6 wr->∀i:Nat,i<nt->∃g cs,at1=some ⟨g,0,none⟩/\BoxT wr g 3 cs/\(i+1)*1<=cs.length/\W3.heap.size<=g):=dD<|fun wr h i hi=>by
   rcases hrm.wr h with h|⟨g,cs,h1,h2,h3,h4,_⟩
   ·have:=HNT.out;omega
   refine⟨g,cs,by rw[<-HAT1.out];exact h1,h2,nT (Nat.mul_le_mul_right _ ?_) h3,h4⟩
   have:=HNT.out;omega
  have hnt:nt<=9223372036854775807:=by rw[<-HNT.out];exact hrm.short
  clear hrm hcl;have y:=(WR.out.keep _ _ _ Q6.out (.inr (.inr rfl))).box.c 7 rfl;rw[HN9.out,HA9.out]at y;have z:=HCJ.out wr WR.out;go_upto_region 50 with fail;clear y z;obtain⟨WD,hWD⟩:∃WD,wr=WD:=⟨_,rfl⟩;rw[hWD]at WR⊢;clear hWD
  go_loopg [160] nt (fun gg sc wr=>∃i:Nat,i<=nt/\nt - i<=gg/\sc= .int .i64 i/\Hid (Wr W3.heap.size W6 wr))
  case atStart=>exact⟨0,by omega,by omega,rfl,WR.out⟩
  case round=>
  obtain⟨i,hi,hgi,rfl,WI⟩:=hrel
  by_cases hlti:i<nt
  ·have hltiz:(i:Int)< (nt:Int):=by omega
   obtain⟨g2,cs,rfl,hb,hl,hlo⟩:=HRJ.out wr WI.out i hlti;have HBX:Hid (BoxT wr g2 3 cs):=hb;have HLL:Hid ((i+1)*1<=cs.length/\W3.heap.size<=g2):=⟨hl,hlo⟩;clear hb hl hlo;have y:=(WI.out.keep _ _ _ Q6.out (.inr (.inr rfl))).box.c 7 rfl;rw[HN9.out,HA9.out]at y;have z:=HCJ.out wr WI.out
   go_wp2_with (refine wp_storeW W3.heap.size rfl 3 (.tmp 171) (.const (.int .i64 (-1))) rfl g2 i rfl (.int .i64 (-1)) rfl [.int .i64 (-1)] rfl HBX.out (by have:=HLL.out.1;show i+1<=_;omega) (by kernel_rfl) (by simp[Value.oneCell']) HLL.out.2 (by decide) ?_)
   intro w1 wr1;have WR1:=dD (WI.out.trans wr1);clear wr1 y z;go_wp2
   go_roundg (nt -(i+1))
   case measure=>omega
   exact⟨i+1,by omega,by omega,by go_num,WR1.out⟩
  have hltiz:¬(i:Int)< (nt:Int):=by omega
  go_wp2
  go_roundg (n9 -(kk+1))
  case measure=>omega
  exact⟨kk+1,by omega,by omega,by go_num,WI.out⟩
 have hltz:¬(kk:Int)< (n9:Int):=by omega
 have GE:Hid (Grew W3 wr):=dD<|WR.out.old E6.out (nR _)
 have A8:=dD (A3.out.grew GE.out);have P8:Hid (BoxT wr pm 40 [.slice V.f.a V.f.n V.f.c,.int .i64 m.hand,.slice V.s.a V.s.n V.s.c,.slice V.sb.a V.sb.n V.sb.c,.slice V.sq.a V.sq.n V.sq.c,.slice V.db.a V.db.n V.db.c,.slice V.dq.a V.dq.n V.dq.c,.slice V.fl.a V.fl.n V.fl.c,.int .i64 m.cnt,.slice V.ca.a V.ca.n V.ca.c,.slice V.sp.a V.sp.n V.sp.c]):=WR.out.keep _ _ _ P6.out (.inr (.inr rfl));have G8:=dD (G3.out.trans GE.out);have hse:=refSeen_any V m wr A8.out HW.out HFS.out;rw[HS0.out]at hse;obtain⟨x0,x1,x2,x3,x4,x5,x6,x7,x8,x9,x10⟩:=P8.out.box.c11;go_wp2_with fail;refine hse.mono ?_;clear hse x0 x1 x2 x3 x4 x5 x6 x7 x8 x9 x10;rintro e W9 ⟨rfl,g9⟩;have A9:=dD (A8.out.grew g9);have P9:=dD (P8.out.grew g9);have G9:=dD (G8.out.trans g9);clear g9;have hwr:=wrongM_any V m W9 A9.out;rw[HW.out]at hwr;obtain⟨x0,x1,x2,x3,x4,x5,x6,x7,x8,x9,x10⟩:=P9.out.box.c11;go_wp2_with fail;refine hwr.mono ?_;clear hwr x0 x1 x2 x3 x4 x5 x6 x7 x8 x9 x10;rintro e W10 ⟨rfl,g10⟩;have G10:=dD (G9.out.trans g10);clear g10;go_wp2;go_ret;exact⟨rfl,G10.out⟩
end
end Go.Proofs.YtangilolcekceaaGreat
