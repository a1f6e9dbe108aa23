import Derived.Test.YtangilolcekceaaGreatPT5
import Derived.Deep.CutRange
import Derived.ChangeKeysEq
namespace Go.Proofs.YtangilolcekceaaGreat
set_option maxRecDepth 100000
set_option maxHeartbeats 4000000
variable{B b cl i j kk:Nat} {Q:Exit->Act->World->Prop} {e t:TypeId} {m:Ma} {o:Oper} {ops:Array Oper} {w w':World} {z:Int}
open Go.Proofs.Tryz
section
open Go.RowKit
theorem ziG (l:List En) (i:Nat):(Je l i).length=8:=by simp[Je]
theorem zjW (l:List En) {k:Nat} (hk:k<8):(Je l i)[k]? =some (l[8*i+k]?.getD en0):=by
 unfold Je;rw[List.getElem?_map,List.getElem?_range hk];rfl
structure zkZ (l:List En) (kk:Nat) (t:List (List En)):Prop where
 len:t.length=8
 at':∀j,j<8->t[j]? =some (if j<kk then mk (Je l j)else [])
theorem zh5 (l:List En):zkZ l 0 qY:=⟨rfl,fun j hj=>by rw[if_neg (nL _),qY,List.getElem?_replicate,if_pos hj]⟩
theorem zep {l:List En} {t:List (List En)} (h:zkZ l kk t) (hk:kk<8):zkZ l (kk+1) (t.set kk (mk (Je l kk))):=by
 refine⟨by simp[h.len],fun j hj=>?_⟩
 by_cases e:j=kk
 ·subst e;rw[sF (by rw[h.len];exact hj),if_pos (Nat.lt_succ_self _)]
 rw[sN (fun h=>e h.symm),h.at' j hj]
 by_cases h1:j<kk
 ·rw[if_pos h1,if_pos (by omega)]
 rw[if_neg h1,if_neg (by omega)]
theorem zjv {l:List En} {t:List (List En)} (h:zkZ l 8 t):t=QF l:=by
 apply List.ext_getElem?
 intro j
 by_cases hj:j<8
 ·rw[h.at' j hj,if_pos hj];unfold QF;rw[List.getElem?_map,List.getElem?_range hj];rfl
 rw[gN (by rw[h.len];omega),gN (by simp[QF];omega)]
theorem zfb (l:List En) (w:World) (hl:l.length=64) (hk:∀e∈l,0<=e.kind):
  Calls prog 33 #[.agg (qk l).toArray] w fun e w'=>∃us,e= .returned (.agg us.toArray)/\Jg 0 w.heap.size w' us (QF l)/\zc w w':=by
 have HLL:Hid (l.length=64):=hl;have HK:Hid (∀e∈l,0<=e.kind):=hk;have HC:Hid (∀(j:Nat) e,l[j]? =some e->(qk l)[j*3]? =some (I6 e.kind)/\(qk l)[j*3+1]? =some (I6 e.n)/\(qk l)[j*3+2]? =some (.bool e.wr)):=show∀(j:Nat) e,_ from fun j e h=>zce h
 clear hl hk;obtain⟨TT,HTT⟩:∃TT,Hid (QF l=TT):=⟨_,rfl⟩;rw[HTT.out]
 generalize qk l=C at HC⊢
 obtain⟨W0,hW0⟩:∃W0,((w.alloc (.cells C.toArray 93)).alloc (.cells #[eS,eS,eS,eS,eS,eS,eS,eS] 63)).alloc (.cells #[eS,eS,eS,eS,eS,eS,eS,eS] 63)=W0:=⟨_,rfl⟩;have HG0:Hid (zc w W0):=dD<|by rw[<-hW0];exact((za _ _).trans (za _ _)).trans (za _ _)
 have X0:Hid (Box W0 w.heap.size C):=dD<|by rw[<-hW0];exact((Box.top w _ _ rfl).alloc _).alloc _
 have Y0:Hid (Box W0 (w.heap.size+1) zav):=dD<|by rw[<-hW0];exact(Box.top _ zav _ (by simp)).alloc _
 have T0:Hid (Box W0 (w.heap.size+2) zav):=dD<|by rw[<-hW0];exact Box.top _ zav _ (by simp)
 have HW0:Hid (_=W0):=hW0;clear hW0;obtain⟨b2,HB2⟩:∃b2,Hid (w.heap.size+2=b2):=⟨_,rfl⟩
 go_enter func33,ntmps33
 go_upto_region 2 with fail;rw[HW0.out];go_wp2
 go_loopg [8] 8 (fun gg s8 wr=>∃(kk:Nat) (us:List Value) (t:List (List En)),kk<=8/\8 - kk<=gg/\s8=I6 kk/\Hid (zc w wr)/\Hid (Box wr w.heap.size C)/\Hid (Box wr (w.heap.size+1) zav)/\Hid (Box wr (w.heap.size+2) us)/\Hid (Jg 0 (w.heap.size+3) wr us t)/\Hid (zkZ l kk t)/\Hid (∀j,kk<=j->j<8->us[j]? =some (eS)))
 case atStart=>exact⟨0,zav,qY,nZ _,by omega,rfl,HG0,X0,Y0,T0,Jg.nil _ _ _,zh5 l,show∀j,_ from fun j _ hj=>by rw[zav,List.getElem?_replicate,if_pos hj]⟩
 obtain⟨kk,us,t,hkk,hg,rfl,BW,XW,YW,TW,SW,MW,NW⟩:=hrel
 by_cases hlt:kk<8
 ·have hltz:(kk:Int)<8:=by omega
  obtain⟨Ch,HCH⟩:∃Ch,Hid (Je l kk=Ch):=⟨_,rfl⟩;have HCL:Hid (Ch.length=8):=dD<|by rw[<-HCH.out];exact ziG _ _
  have HCA:Hid (∀k,k<8->∃e,Ch[k]? =some e/\l[8*kk+k]? =some e/\0<=e.kind):=dD<|fun k hk=>by
   obtain⟨e,he⟩:∃e,l[8*kk+k]? =some e:=⟨_,gE (by rw[HLL.out];omega)⟩
   exact⟨e,by rw[<-HCH.out,zjW l hk,he];rfl,he,HK e (mG he)⟩
  obtain⟨WB,rfl⟩:∃WB,WB=wr:=⟨_,rfl⟩;go_wp2
  go_loopg [5,6] 8 (fun g2 s5 s6 wr2=>∃(k2:Nat) (sm:Bool),k2<=8/\8 - k2<=g2/\s6=I6 k2/\s5= .bool sm/\Hid (sm=Zs (Ch.take k2))/\Hid (wr2=WB))
  case atStart=>exact⟨0,false,nZ _,by omega,rfl,rfl,rfl,rfl⟩
  obtain⟨k2,sm,hk2,hg2,rfl,rfl,AW2,EW⟩:=hrel;rw[EW.out]
  by_cases hlt2:k2<8
  ·have hltz2:(k2:Int)<8:=by omega
   obtain⟨e,he1,he2,he3⟩:=HCA.out k2 hlt2;have HT:Hid (Zs (Ch.take (k2+1))=(sm || enS e)):=dD<|by
    rw[qt he1,AW2.out];unfold Zs;rw[List.any_append];simp
   cases sm with
   | true=>
    have HS:Hid (true=Zs (Ch.take (k2+1))):=dD<|by rw[HT.out];rfl
    clear he1 he2 he3;go_wp2
    go_roundg (8 -(k2+1))
    case measure=>omega
    exact⟨k2+1,true,by omega,by omega,by go_num,rfl,HS,rfl⟩
   | false=>
    have hidx:(8:Int)*(kk:Int)+(k2:Int)=((8*kk+k2:Nat):Int):=by omega
    have hi64:8*kk+k2<64:=by omega
    obtain⟨c0,_,_⟩:=HC.out _ e he2;obtain⟨ix,HIX⟩:∃ix,Hid (8*kk+k2=ix):=⟨_,rfl⟩;rw[HIX.out]at hidx hi64 c0;have hi64z:(ix:Int)<64:=by omega
    have x0:=XW.c _ c0;clear c0 he1 he2;obtain⟨B,HBB⟩:∃B,Hid (enS e=B):=⟨_,rfl⟩;have hB:decide (0<e.kind)=B:=by
     rw[<-HBB.out];unfold enS
     by_cases h:e.kind=0
     ·rw[h];rfl
     have:0<e.kind:=by omega
     rw[decide_eq_true this]
     simpa using h
    have HS:Hid (B=Zs (Ch.take (k2+1))):=dD<|by rw[HT.out,HBB.out];rfl
    clear he3;go_wp2
    go_roundg (8 -(k2+1))
    case measure=>omega
    exact⟨k2+1,B,by omega,by omega,by go_num,by first | rfl | rw[hB],HS,rfl⟩
  have hltz2:¬(k2:Int)<8:=by omega
  have:k2=8:=by omega
  subst this;have HSM:Hid (sm=Zs Ch):=dD<|by rw[AW2.out,List.take_of_length_le (by rw[HCL.out];exact nR _)]
  cases sm with
  | false=>
   have HMK:Hid (mk (Je l kk)=[]):=dD<|by rw[HCH.out];unfold mk;rw[<-HSM.out,if_neg (by decide)]
   have HTK:Hid (t.set kk (mk (Je l kk))=t):=dD<|by
    rw[HMK.out];refine zdh ?_;rw[MW.at' kk hlt,if_neg (Nat.lt_irrefl _)]
   have M2:Hid (zkZ l (kk+1) t):=dD<|by rw[<-HTK.out];exact zep MW hlt
   go_wp2
   go_loopg [7] 1 (fun g3 s7 wr3=>1<=g3/\s7=I6 0/\Hid (wr3=WB))
   case atStart=>exact⟨nR _,rfl,rfl⟩
   obtain⟨hg3,rfl,EW3⟩:=hrel;rw[EW3.out];go_wp2
   go_roundg (8 -(kk+1))
   case measure=>omega
   exact⟨kk+1,us,t,by omega,by omega,by go_num,BW,XW,YW,TW,SW,M2,show∀j,_ from fun j h1 h2=>NW.out j (by omega) h2⟩
  | true=>
   have HMK:Hid (mk (Je l kk)=Ch):=dD<|by rw[HCH.out];unfold mk;rw[<-HSM.out,if_pos rfl]
   have HU8:Hid (us.length=8):=SW.len;go_wp2
   go_loopg [7] 8 (fun g3 s7 wr3=>∃(k3 c:Nat) (a:Option Addr),k3<=8/\8 - k3<=g3/\s7=I6 k3/\Hid (Out (w.heap.size+2) (w.heap.size+3) WB wr3)/\Hid (Box wr3 (w.heap.size+2) (us.set kk (.slice a k3 c)))/\Hid (zb enE WB.heap.size wr3 (.slice a k3 c) (Ch.take k3)))
   case atStart=>exact⟨0,0,none,nZ _,by omega,rfl,Out.refl _ _ _,by rw[zdh (NW.out kk (nR _) hlt)];exact TW,zb.nil _ _ _⟩
   obtain⟨k3,c,a,hk3,hg3,rfl,OW3,TW3,RW3⟩:=hrel;have HLB:Hid (w.heap.size+3<=WB.heap.size):=TW.lt
   by_cases hlt3:k3<8
   ·have hltz3:(k3:Int)<8:=by omega
    obtain⟨e,he1,he2,_⟩:=HCA.out k3 hlt3;have hidx:(8:Int)*(kk:Int)+(k3:Int)=((8*kk+k3:Nat):Int):=by omega
    have hi64:8*kk+k3<64:=by omega
    obtain⟨c0,c1,c2⟩:=HC.out _ e he2;obtain⟨ix,HIX⟩:∃ix,Hid (8*kk+k3=ix):=⟨_,rfl⟩;rw[HIX.out]at hidx hi64 c0 c1 c2;have hi64z:(ix:Int)<64:=by omega
    have HTK:Hid (Ch.take (k3+1)=Ch.take k3++ [e]):=qt he1;have HTL:Hid ((Ch.take k3).length=k3):=show _=_ by rw[List.length_take,HCL.out];omega
    have HXB:Hid (Box wr w.heap.size C):=XW.out.out OW3 (by omega)
    have HYB:Hid (Box wr (w.heap.size+1) zav):=YW.out.out OW3 (by omega)
    have hgo:∀g,(Value.slice a k3 c).ownBlock=some g->WB.heap.size<=g/\g<wr.heap.size:=RW3.lt;have HGO:Hid (∀g,(Value.slice a k3 c).ownBlock=some g->WB.heap.size<=g/\g<wr.heap.size):=hgo;clear hgo he1 he2;obtain⟨w3,rfl⟩:∃w3,w3=wr:=⟨_,rfl⟩;obtain⟨I,HI⟩:∃I:World->Prop,Hid (∀u,I u↔(Box u w.heap.size C/\Box u (w.heap.size+1) zav/\Box u (w.heap.size+2) (us.set kk (.slice a k3 c))/\Out (w.heap.size+2) (w.heap.size+3) WB u/\w3.heap.size<=u.heap.size)):=⟨fun u=>(Box u w.heap.size C/\Box u (w.heap.size+1) zav/\Box u (w.heap.size+2) (us.set kk (.slice a k3 c))/\Out (w.heap.size+2) (w.heap.size+3) WB u/\w3.heap.size<=u.heap.size),fun _=>Iff.rfl⟩
    go_upto_region 13 with fail;have hxt:∀y:zk I,y.world.cell? ⟨w.heap.size+2,kk,none⟩=some (.slice a k3 c):=fun y=>((HI _).1 y.holds).2.2.1.c kk (sF (by rw[HU8.out];exact hlt))
    have hx0:∀y:zk I,y.world.cell? ⟨w.heap.size,ix*3,none⟩=some (I6 e.kind):=fun y=>((HI _).1 y.holds).1.c _ c0
    have hx1:∀y:zk I,y.world.cell? ⟨w.heap.size,ix*3+1,none⟩=some (I6 e.n):=fun y=>((HI _).1 y.holds).1.c _ c1
    have hx2:∀y:zk I,y.world.cell? ⟨w.heap.size,ix*3+2,none⟩=some (.bool e.wr):=fun y=>((HI _).1 y.holds).1.c _ c2
    have hI0:I w3.drew:=(HI _).2 ⟨HXB.grew (gW _),HYB.grew (gW _),TW3.grew (gW _),OW3.trans (Out.drew _),nR _⟩
    have hne:Nonempty (zk I):=⟨⟨_,hI0⟩⟩;clear c0 c1 c2;refine qa (I:=I) 13 [(10,⟨fun v=>∃g,v= .slice (some ⟨g,0,none⟩) 1 1,fun v w'=>zbf enE w3.heap.size w' v [e],fun p q=>zc p q,fun _=>True⟩),(11,⟨fun v=>∃a' c',v= .slice a' (k3+1) c',fun v w'=>zb enE WB.heap.size w' v (Ch.take k3++ [e]),fun p q=>p.grownBy q (Value.slice a k3 c).ownBlock,fun u=>zb enE WB.heap.size u (.slice a k3 c) (Ch.take k3)⟩)] hI0 qu (by kernel_rfl) rfl rfl (by decide) ?hS ?hp ?hpre ?hpr0 ?_
    case hS=>
     intro y hy
     simp at hy
     rcases hy with rfl|rfl
     ·exact⟨_,0,rfl⟩
     exact⟨_,none,0,rfl⟩
    case hp=>
     intro k s j t' hk hj hjk _ v p q hst hpo
     rcases zg2 hk with⟨rfl,rfl⟩|⟨rfl,rfl⟩
     ·rcases zg2 hj with⟨rfl,rfl⟩|⟨rfl,rfl⟩
      ·exact absurd rfl hjk
      have h1:zbf enE w3.heap.size p v [e]:=hpo;exact⟨h1.1.beside hst (fun x n c' hx h=>by
       have h2:=h1.2 x n c' hx;have h3:=(HGO x.block h.symm).2
       omega),h1.2⟩
     rcases zg2 hj with⟨rfl,rfl⟩|⟨rfl,rfl⟩
     ·exact zb.grew hpo hst
     exact absurd rfl hjk
    case hpre=>
     intro j t' k s hj hk hjk p q hst hpr
     rcases zg2 hj with⟨rfl,rfl⟩|⟨rfl,rfl⟩
     ·trivial
     rcases zg2 hk with⟨rfl,rfl⟩|⟨rfl,rfl⟩
     ·exact zb.grew hpr hst
     exact absurd rfl hjk
    case hpr0=>
     intro k t' hk
     rcases zg2 hk with⟨rfl,rfl⟩|⟨rfl,rfl⟩
     ·trivial
     exact RW3.grew (gW _)
    simp only[List.take,List.drop];iterate 10 (refine zh rfl rfl rfl (fun K hK=>?_);go_big_quiet_op;refine hK _ ?_;clear hK)
    refine zz rfl rfl (fun w' hI' hpr hF=>?_) (fun v1 hv=>?_)
    ·obtain⟨i1,i2,i3,i4,i5⟩:=(HI _).1 hI';have hnew:zbf enE w3.heap.size (w'.alloc (.cells #[I6 e.kind,I6 e.n,.bool e.wr] 67)) (.slice (some ⟨w'.heap.size,0,none⟩) 1 1) [e]:=⟨jV enE w' e _ _ rfl (by decide),fun x n c' hx=>by cases hx;exact i5⟩
     clear hxt hx0 hx1 hx2 hne;refine zP.step (v:= .slice (some ⟨w'.heap.size,0,none⟩) 1 1) (w':=w'.alloc (.cells #[I6 e.kind,I6 e.n,.bool e.wr] 67)) (by simp only[execOp];go_simp) ⟨(HI _).2 ⟨i1.alloc _,i2.alloc _,i3.alloc _,i4.trans (Out.grew (za _ _)),nT i5 (bS (za _ _))⟩,za _ _,⟨_,rfl⟩,hnew⟩
    obtain⟨g10,rfl⟩:=hv;simp only[Act.put,sB,sS,sZ];refine zz rfl rfl (fun w' hI' hpr hF=>?_) (fun v1 hv=>?_)
    ·obtain⟨i1,i2,i3,i4,i5⟩:=(HI _).1 hI';have h10:zbf enE w3.heap.size w' (.slice (some ⟨g10,0,none⟩) 1 1) [e]:=hF 10 (by kernel_rfl)
     have hpr':zb enE WB.heap.size w' (.slice a k3 c) (Ch.take k3):=hpr;obtain⟨v',w2,hrun,ho,hgr,_⟩:=qp (E:=enE) (w:=w') 61 hpr' (.slice (some ⟨g10,0,none⟩) 1 1) [e] h10.1 (by rw[HTL.out];show(k3+1)*24<=_;omega) i4.size
     obtain⟨a',c',rfl⟩:=ho.form;have hln:(Ch.take k3++ [e]).length=k3+1:=by rw[lA,HTL.out];rfl
     rw[hln]at ho hrun;have hne':∀b,b<w.heap.size+3->∀g,(Value.slice a k3 c).ownBlock=some g->b≠g:=fun b hb g hg=>by
      have:=(HGO g hg).1;have:=HLB.out;omega
     refine zP.step (v:= .slice a' (k3+1) c') (w':=w2) ?_ ⟨(HI _).2 ⟨i1.beside hgr (hne' _ (by omega)),i2.beside hgr (hne' _ (by omega)),i3.beside hgr (hne' _ (by omega)),⟨hgr.os.trans i4.os,hgr.tape.trans i4.tape,hgr.output.trans i4.output,nT i4.size hgr.size,fun k hk hb=>(hgr.block k (Nat.lt_of_lt_of_le hk i4.size) (fun h=>by have:=(HGO k h.symm).1;omega)).trans (i4.block k hk hb)⟩,nT i5 hgr.size⟩,hgr,⟨a',c',rfl⟩,ho⟩
     simp only[execOp,resolve,invoke,builtin,pure_bind,Sem.run_bind,Sem.run_pure,List.map_toArray,mP,List.map_nil];exact Eq.trans (congrArg (fun r=>Result.andThen r (fun a w'=>Result.ok (Next.value a) w')) hrun) rfl
    obtain⟨a11,c11,rfl⟩:=hv;simp only[Act.put,sB,sS,sZ];iterate 1 (refine zh rfl rfl rfl (fun K hK=>?_);go_big_quiet_op;refine hK _ ?_;clear hK)
    refine jc fun W4 hI4 hF=>?_
    have o11:zb enE WB.heap.size W4 (.slice a11 (k3+1) c11) (Ch.take k3++ [e]):=hF 11;obtain⟨i1,i2,i3,i4,i5⟩:=(HI _).1 hI4;have O4:Hid (zb enE WB.heap.size W4 (.slice a11 (k3+1) c11) (Ch.take (k3+1))):=dD<|by rw[HTK.out];exact o11
    have T4:Hid (Box W4 (w.heap.size+2) (us.set kk (.slice a k3 c))):=i3;have Out4:Hid (Out (w.heap.size+2) (w.heap.size+3) WB W4):=i4;clear hF hxt hx0 hx1 hx2 hI4 hne hI0 o11 i1 i2 i3 i4 i5;have t0:=T4.c kk (sF (by rw[HU8.out];exact hlt))
    have tf:=T4.f;go_upto_region 12 with fail;have T5:Hid (Box (W4.setCell ⟨w.heap.size+2,kk,none⟩ (.slice a11 (k3+1) c11)) (w.heap.size+2) (us.set kk (.slice a11 (k3+1) c11))):=dD<|by
     have:=T4.set kk (.slice a11 (k3+1) c11);rw[List.set_set]at this;exact this
    have O5:Hid (zb enE WB.heap.size (W4.setCell ⟨w.heap.size+2,kk,none⟩ (.slice a11 (k3+1) c11)) (.slice a11 (k3+1) c11) (Ch.take (k3+1))):=O4.setCell (by have:=HLB.out;simp;omega) _
    have Out5:Hid (Out (w.heap.size+2) (w.heap.size+3) WB (W4.setCell ⟨w.heap.size+2,kk,none⟩ (.slice a11 (k3+1) c11))):=Out4.trans (Out.setCell _ _ _ (p:=⟨w.heap.size+2,kk,none⟩) (nR _) (Nat.lt_succ_self _) _);clear t0 tf;go_wp2
    go_roundg (8 -(k3+1))
    case measure=>omega
    exact⟨k3+1,c11,a11,by omega,by omega,by go_num,Out5,T5,O5⟩
   have hltz3:¬(k3:Int)<8:=by omega
   have:k3=8:=by omega
   subst this;have R8:Hid (zb enE WB.heap.size wr (.slice a 8 c) Ch):=dD<|by
    have:=RW3.out;rw[List.take_of_length_le (by rw[HCL.out];exact nR _)]at this
    exact this
   have S9:Hid (Jg 0 (w.heap.size+3) wr (us.set kk (.slice a 8 c)) (t.set kk Ch)):=dD<|⟨by simp[HU8.out],by simp[MW.len],fun j v h hv hh=>by
    by_cases e:j=kk
    ·subst e;rw[sF (by rw[HU8.out];exact hlt)]at hv
     rw[sF (by rw[MW.len];exact hlt)]at hh
     cases hv;cases hh;exact R8.new.stays.less (nZ _) HLB.out
    rw[sN (fun h=>e h.symm)]at hv hh
    exact(SW.row j v h hv hh).out (OW3.wide (by omega) (by omega))⟩
   have M9:Hid (zkZ l (kk+1) (t.set kk Ch)):=dD<|by rw[<-HMK.out];exact zep MW hlt
   have X9:Hid (Box wr w.heap.size C):=XW.out.out OW3 (by omega)
   have Y9:Hid (Box wr (w.heap.size+1) zav):=YW.out.out OW3 (by omega)
   have G9:Hid (zc w wr):=dD<|Out.grew_of BW (by omega) OW3.out
   have N9:Hid (∀j,kk+1<=j->j<8->(us.set kk (.slice a 8 c))[j]? =some (eS)):=dD<|fun j h1 h2=>by rw[sN (by omega)];exact NW j (by omega) h2
   go_wp2
   go_roundg (8 -(kk+1))
   case measure=>omega
   exact⟨kk+1,_,_,by omega,by omega,by go_num,G9,X9,Y9,TW3,S9,M9,N9⟩
 have hltz:¬(kk:Int)<8:=by omega
 have:kk=8:=by omega
 subst this;have SE:Hid (Jg 0 (w.heap.size+3) wr us TT):=dD<|by rw[<-HTT.out,<-zjv MW.out];exact SW.out
 have HU8:Hid (us.length=8):=SW.len
 go_wp2_with (first | refine jN rfl (.tmp 3) rfl (w.heap.size+2) rfl TW HU8.out ?_ | refine zn rfl 63 (.tmp 2) (.tmp 47) rfl (w.heap.size+1) rfl us rfl YW HU8 zlQ SE.one ?_)
 intro W3 b3 g3 s3;have G3:Hid (zc w W3):=dD<|ze BW g3 (by simp)
 have B3:Hid (Box W3 (w.heap.size+1) us):=b3;have T3:Hid (Jg 0 w.heap.size W3 us TT):=(SE.out.out (Out.grown g3 (fun g h=>by cases h;omega))).less (nR _) (by omega)
 clear b3 g3 s3;go_wp2;refine bodyPost_ret (zT rfl _ rfl B3 underlying63 rfl (by rw[HU8.out];exact zlQ)) rfl ⟨us,rfl,T3,G3⟩
theorem zeR (F S B:Int) (nf ns nb:Nat) (hnf:max (min F 40) 0=(nf:Int)) (hns:max (min S 60) 0=(ns:Int)) (hnb:max (min B 80) 0=(nb:Int)) (vl:Sli) (L:List Int) (w:World) (lr:zr byE w (vl.x) L) (lc:vl.n<=vl.c) (lb:∀z∈L,0<=z/\z<256):
  Calls prog 8 #[I6 F,I6 S,I6 B,vl.x] w fun e w'=>∃(V:MaV) (m:Ma) (T:List (Nat->En)) (hd:Int) (hi ht:Nat) (vt:Sli),e= .returned (.agg #[V.f.x,I6 hd,V.s.x,V.sb.x,V.sq.x,V.db.x,V.dq.x,V.fl.x,I6 m.cnt,V.ca.x,V.sp.x])/\zdO w nf ns nb L w' V m T hd hi ht vt:=by
 have hnf40:nf<=40:=by omega
 have hns60:ns<=60:=by omega
 have hnb80:nb<=80:=by omega
 obtain⟨W0,hW0⟩:∃W0,(w.alloc (.cells zM.toArray 40)).alloc (.cells #[vl.x,eS,I6 0,eS,eS,eS,eS,eS,eS,I6 0,eS,eS,eS] 87)=W0:=⟨_,rfl⟩;have G0:=gD2 hW0
 have X0:Hid (zD W0 w.heap.size 40 zM):=dD<|by rw[<-hW0];exact(zD.top _ zM _ rfl).grew (za _ _)
 have Y0:Hid (zD W0 (w.heap.size+1) 87 [vl.x,eS,I6 0,eS,eS,eS,eS,eS,eS,I6 0,eS,eS,eS]):=dD<|by rw[<-hW0];exact zD.top _ [vl.x,eS,I6 0,eS,eS,eS,eS,eS,eS,I6 0,eS,eS,eS] _ (by simp)
 have HW0:Hid (_=W0):=hW0;have HLR:Hid (zr byE w (vl.x) L):=lr;have HLC:Hid (vl.n<=vl.c):=lc;have HLB:Hid (∀z∈L,0<=z/\z<256):=show∀z,_ from lb
 clear hW0 lr lc lb
 go_enter func8,ntmps8
 go_upto_region 3 with fail;rw[HW0.out];try rw[hnf]
 try rw[hns]
 try rw[hnb]
 clear hnf hns hnb;obtain⟨b,HBB⟩:∃b,Hid (w.heap.size+1=b):=⟨_,rfl⟩;rw[HBB.out]at Y0⊢;obtain⟨I,HI⟩:∃I:World->Prop,Hid (∀u,I u↔zc W0 u):=⟨fun u=>zc W0 u,fun _=>Iff.rfl⟩
 have hI0:I W0.drew:=(HI _).2 (gW _)
 have hne:Nonempty (zk I):=⟨⟨_,hI0⟩⟩;refine zdX (I:=I) (J:=JB nf ns nb) 17 [(2,⟨fun v=>∃g,v= .slice (some ⟨g,0,none⟩) nf nf,fun v u=>zb zaf w.heap.size u v (List.replicate nf fr0),fun p q=>zc p q,fun _=>True⟩),(5,⟨fun v=>∃g,v= .slice (some ⟨g,0,none⟩) ns ns,fun v u=>zb slE w.heap.size u v (List.replicate ns 0),fun p q=>zc p q,fun _=>True⟩),(7,⟨fun v=>∃g,v= .slice (some ⟨g,0,none⟩) ns ns,fun v u=>zu w.heap.size u v (List.replicate ns zm),fun p q=>zc p q,fun _=>True⟩),(10,⟨fun v=>∃g,v= .slice (some ⟨g,0,none⟩) nb nb,fun v u=>zu w.heap.size u v (List.replicate nb zm),fun p q=>zc p q,fun _=>True⟩)] hI0 ?hJ0 ?hJq ?hJs ?hJu qu (by kernel_rfl) rfl rfl (by decide) ?hS ?hp ?hpre ?hpr0 ?_
 case hJ0=>
  refine⟨⟨rfl,rfl,rfl⟩,fun s hs=> .inl ?_,fun s hs x n c he=>?_,fun s hs t ht hst x n c y n' c' he=>?_⟩
  ·simp only[mC,nM,or_false]at hs
   rcases hs with rfl|rfl|rfl|rfl <;> rfl
  ·simp only[mC,nM,or_false]at hs
   rcases hs with rfl|rfl <;> cases he
  simp only[mC,nM,or_false]at hs
  rcases hs with rfl|rfl <;> cases he
 case hJq=>
  intro j o hj hS a v u hr hJ;exact hJ.quiet (zjk (Sx:=[2,5,7,10]) (by kernel_rfl) hj (zg1 hS)) (by omega) (by omega) hnb80 hr
 case hJs=>
  intro j o s hj hs a u K hJ hI hd;have hs':=zt hs;clear hs;simp only[mC,pJ,nM,or_false]at hs'
  rcases hs' with⟨rfl,rfl⟩|⟨rfl,rfl⟩|⟨rfl,rfl⟩|⟨rfl,rfl⟩
  ·cases hj;obtain⟨i0,hi,hz0,hz1,hz2⟩:=info_parts zaf.info;exact hJ.make 25 59 i0 _ 32 rfl (by simp) zaf.und hi hz0 (by rw[hz2];decide) (by decide) hd
  ·cases hj;obtain⟨i0,hi,hz0,hz1,hz2⟩:=info_parts slE.info;exact hJ.make 29 3 i0 _ 35 rfl (by simp) slE.und hi hz0 (by rw[hz2];decide) (by decide) hd
  ·cases hj;obtain⟨i0,hi,hz0,hz1,hz2⟩:=info_parts zlK;exact hJ.make 30 50 i0 _ 37 rfl (by simp) underlying30 hi hz0 (by rw[hz2];decide) (by decide) hd
  cases hj;obtain⟨i0,hi,hz0,hz1,hz2⟩:=info_parts zlK;exact hJ.make 30 50 i0 _ 40 rfl (by simp) underlying30 hi hz0 (by rw[hz2];decide) (by decide) hd
 case hJu=>
  intro j o hj a u hJ;exact hJ.undef (zjl (by kernel_rfl) hj)
 case hS=>
  intro x hx;simp only[mC,nM,or_false]at hx
  rcases hx with rfl|rfl|rfl|rfl <;> exact⟨_,0,rfl⟩
 case hp=>
  intro k s j t hk hj hjk hanc v p q hst hpo;have hk':=zt hk;have hj':=zt hj;clear hk hj;simp only[mC,pJ,nM,or_false]at hk' hj';have hg:zc p q:=by rcases hj' with⟨rfl,rfl⟩ | ⟨rfl,rfl⟩ | ⟨rfl,rfl⟩ | ⟨rfl,rfl⟩ <;> exact hst
  rcases hk' with⟨rfl,rfl⟩|⟨rfl,rfl⟩|⟨rfl,rfl⟩|⟨rfl,rfl⟩
  ·exact zb.grew hpo hg
  ·exact zb.grew hpo hg
  ·exact zu.grew hpo hg
  exact zu.grew hpo hg
 case hpre=>
  intro j t k s hj hk hjk p q hst hpr;have hj':=zt hj;clear hk hj;simp only[mC,pJ,nM,or_false]at hj'
  rcases hj' with⟨rfl,rfl⟩|⟨rfl,rfl⟩|⟨rfl,rfl⟩|⟨rfl,rfl⟩ <;> trivial
 case hpr0=>
  intro k t hk;have hk':=zt hk;clear hk;simp only[mC,pJ,nM,or_false]at hk'
  rcases hk' with⟨rfl,rfl⟩|⟨rfl,rfl⟩|⟨rfl,rfl⟩|⟨rfl,rfl⟩ <;> trivial
 simp only[List.take,List.drop];iterate 2 (refine zh rfl rfl rfl (fun K hK=>?_);go_big_quiet_op;refine hK _ ?_;clear hK)
 refine zz rfl rfl (fun w' hI' hpr hF=>?_) (fun v1 hv=>?_)
 ·have hg:=(HI _).1 hI';exact zaI zaf w' nf (by show nf*40<=_;omega) (.tmp 32) rfl rfl (fun C ho=>⟨(HI _).2 (hg.trans (za _ _)),za _ _,⟨_,rfl⟩,ho.base (nT (bS G0) (bS hg))⟩)
 obtain⟨gf,rfl⟩:=hv;simp only[Act.put,sB,sS,sZ];iterate 2 (refine zh rfl rfl rfl (fun K hK=>?_);go_big_quiet_op;refine hK _ ?_;clear hK)
 refine zz rfl rfl (fun w' hI' hpr hF=>?_) (fun v1 hv=>?_)
 ·have hg:=(HI _).1 hI';exact zaI slE w' ns (by show ns*8<=_;omega) (.tmp 35) rfl rfl (fun C ho=>⟨(HI _).2 (hg.trans (za _ _)),za _ _,⟨_,rfl⟩,ho.base (nT (bS G0) (bS hg))⟩)
 obtain⟨gl,rfl⟩:=hv;simp only[Act.put,sB,sS,sZ];iterate 1 (refine zh rfl rfl rfl (fun K hK=>?_);go_big_quiet_op;refine hK _ ?_;clear hK)
 refine zz rfl rfl (fun w' hI' hpr hF=>?_) (fun v1 hv=>?_)
 ·have hg:=(HI _).1 hI';exact Jz w' ns (by omega) (.tmp 37) rfl rfl (fun C ho=>⟨(HI _).2 (hg.trans (za _ _)),za _ _,⟨_,rfl⟩,ho.base (nT (bS G0) (bS hg))⟩)
 obtain⟨gsb,rfl⟩:=hv;simp only[Act.put,sB,sS,sZ];iterate 2 (refine zh rfl rfl rfl (fun K hK=>?_);go_big_quiet_op;refine hK _ ?_;clear hK)
 refine zz rfl rfl (fun w' hI' hpr hF=>?_) (fun v1 hv=>?_)
 ·have hg:=(HI _).1 hI';exact Jz w' nb hnb80 (.tmp 40) rfl rfl (fun C ho=>⟨(HI _).2 (hg.trans (za _ _)),za _ _,⟨_,rfl⟩,ho.base (nT (bS G0) (bS hg))⟩)
 obtain⟨gdb,rfl⟩:=hv;simp only[Act.put,sB,sS,sZ];iterate 4 (refine zh rfl rfl rfl (fun K hK=>?_);go_big_quiet_op;refine hK _ ?_;clear hK)
 refine jE (.tmp 31) ⟨b,0,none⟩ rfl rfl rfl rfl ?_;simp only[Act.put,sB,sS,sZ];iterate 1 (refine zh rfl rfl rfl (fun K hK=>?_);go_big_quiet_op;refine hK _ ?_;clear hK)
 refine jc fun W1 hI1 hF hJ=>?_
 have hap:gsb≠gdb:=hJ.2.2.2 38 (by simp) 41 (by simp) (by decide) ⟨gsb,0,none⟩ ns ns ⟨gdb,0,none⟩ nb nb rfl rfl
 have o1:zb zaf w.heap.size W1 (.slice (some ⟨gf,0,none⟩) nf nf) (List.replicate nf fr0):=hF 2;have o2:zb slE w.heap.size W1 (.slice (some ⟨gl,0,none⟩) ns ns) (List.replicate ns 0):=hF 5;have o3:zu w.heap.size W1 (.slice (some ⟨gsb,0,none⟩) ns ns) (List.replicate ns zm):=hF 7;have o4:zu w.heap.size W1 (.slice (some ⟨gdb,0,none⟩) nb nb) (List.replicate nb zm):=hF 10;have g1:=(HI _).1 hI1;have Y1:=dD (Y0.grew g1);have X1:=dD (X0.grew g1);have G1:=dD (G0.trans g1);clear hF hJ hI1 hI0 hne g1;refine zdW rfl 40 (.tmp 47) (.tmp 45) rfl b 1 rfl [.slice (some ⟨gf,0,none⟩) nf nf,I6 0,.slice (some ⟨gl,0,none⟩) ns ns,.slice (some ⟨gsb,0,none⟩) ns ns,eS,.slice (some ⟨gdb,0,none⟩) nb nb,eS,eS,I6 (nb:Int),eS,eS] rfl Y1 (by simp) (by kernel_rfl) (fun v hv=>by simp only[mC,nM,or_false]at hv;rcases hv with rfl | rfl | rfl | rfl | rfl | rfl | rfl | rfl | rfl | rfl | rfl <;> rfl) ?_
 intro W2 hb2 hg2 hs2;have B2:zD W2 b 87 [vl.x,.slice (some ⟨gf,0,none⟩) nf nf,I6 0,.slice (some ⟨gl,0,none⟩) ns ns,.slice (some ⟨gsb,0,none⟩) ns ns,eS,.slice (some ⟨gdb,0,none⟩) nb nb,eS,eS,I6 (nb:Int),eS,eS,eS]:=hb2;have M2:Hid (Mk w W2.heap.size W2 b vl L ⟨⟨some ⟨gf,0,none⟩,nf,nf⟩,⟨some ⟨gl,0,none⟩,ns,ns⟩,⟨some ⟨gsb,0,none⟩,ns,ns⟩,zj,⟨some ⟨gdb,0,none⟩,nb,nb⟩,zj,zj,zj,zj⟩ ⟨List.replicate nf fr0,0,List.replicate ns 0,List.replicate ns zm,[],List.replicate nb zm,[],[],nb,[],[]⟩ zj []):=zjq (ze G1 hg2 (by have:=HBB.out;omega)) (by have:=HBB.out;omega) B2 HLR HLC HLB (o1.kind hg2 Y1 (by decide)) (o2.kind hg2 Y1 (by decide)) ⟨zx o3.1 hg2 Y1 (by decide),o3.2⟩ ⟨zx o4.1 hg2 Y1 (by decide),o4.2⟩ hap
 have X2:Hid (zD W2 w.heap.size 40 zM):=X1.beside hg2 (fun g e=>by cases e;have:=HBB.out;omega)
 clear hb2 hg2 hs2 o1 o2 o3 o4 hap;obtain⟨hi,HHI⟩:∃hi,Hid (W2.heap.size=hi):=⟨_,rfl⟩;rw[HHI.out]at M2;try simp only[Act.put]
 have x1:=M2.box.box.c 1 rfl;go_wp2;clear x1
 go_loopg [55] nf (fun gg s55 wr=>∃kk:Nat,kk<=nf/\nf - kk<=gg/\s55=I6 kk/\Hid (Mk w hi wr b vl L ⟨⟨some ⟨gf,0,none⟩,nf,nf⟩,⟨some ⟨gl,0,none⟩,ns,ns⟩,⟨some ⟨gsb,0,none⟩,ns,ns⟩,zj,⟨some ⟨gdb,0,none⟩,nb,nb⟩,zj,zj,zj,zj⟩ ⟨zhv nf kk,0,List.replicate ns 0,List.replicate ns zm,[],List.replicate nb zm,[],[],nb,[],[]⟩ zj [])/\Hid (zD wr w.heap.size 40 zM))
 case atStart=>exact⟨0,nZ _,by omega,rfl,by rw[zij];exact M2,X2⟩
 obtain⟨kk,hkk,hgg,rfl,MW,XW⟩:=hrel
 by_cases hlt:kk<nf
 ·have hltz:(kk:Int)< (nf:Int):=by omega
  have x1:=MW.box.box.c 1 rfl;dsimp only[Sli.x]at x1;have R:Hid (zb zaf w.heap.size wr (.slice (some ⟨gf,0,none⟩) nf nf) (zhv nf kk)):=MW.rows.fs;have d:wr.cell? ⟨gf,kk*13+11,none⟩=some (I6 0):=by
   have:=R.one (zik hlt) 11 _ rfl;rw[zI,Addr.add_lit,zA]at this;exact this
  have xf:=R.unfrozen rfl;obtain⟨ow,gr,sz⟩:=R.cell (k:=kk) (o:=11) rfl (zik hlt) (y:=frF) (u:=I6 (-1)) rfl (by decide)
  rw[zjG hlt]at ow;have hM:=MW.setF rfl gr sz ow;have M3:Hid (Mk w hi (wr.setCell ⟨gf,kk*13+11,none⟩ (I6 (-1))) b vl L ⟨⟨some ⟨gf,0,none⟩,nf,nf⟩,⟨some ⟨gl,0,none⟩,ns,ns⟩,⟨some ⟨gsb,0,none⟩,ns,ns⟩,zj,⟨some ⟨gdb,0,none⟩,nb,nb⟩,zj,zj,zj,zj⟩ ⟨zhv nf (kk+1),0,List.replicate ns 0,List.replicate ns zm,[],List.replicate nb zm,[],[],nb,[],[]⟩ zj []):=hM.1;have X3:Hid (zD (wr.setCell ⟨gf,kk*13+11,none⟩ (I6 (-1))) w.heap.size 40 zM):=hM.2.1 _ _ _ XW ⟨by decide,by decide,by decide,by decide,by decide,by decide,by decide,by decide,fun h=>absurd h (by decide)⟩
  clear hM ow gr sz;go_wp2
  go_roundg (nf -(kk+1))
  case measure=>omega
  exact⟨kk+1,by omega,by omega,by go_num,M3,X3⟩
 have hltz:¬(kk:Int)< (nf:Int):=by omega
 obtain rfl:nf=kk:=by omega
 rw[zjH]at MW;have hpk:=qB 3 MW.out;go_wp2_with fail;refine hpk.mono ?_;clear hpk;rintro e W3 ⟨vl1,L1,y,rfl,mk1,gr1,sz1,y0,y1,yn,ll⟩;obtain⟨c,rfl⟩:∃c:Nat,y=(c:Int):=⟨y.toNat,by omega⟩
 have hc3:c<3:=by rcases y1 with h | h <;> omega
 have HC0:Hid (L=[]->c=0):=dD<|fun e=>by have:=yn e;omega
 have M3:Hid (Mk w hi W3 b vl1 L1 ⟨⟨some ⟨gf,0,none⟩,nf,nf⟩,⟨some ⟨gl,0,none⟩,ns,ns⟩,⟨some ⟨gsb,0,none⟩,ns,ns⟩,zj,⟨some ⟨gdb,0,none⟩,nb,nb⟩,zj,zj,zj,zj⟩ ⟨List.replicate nf frF,0,List.replicate ns 0,List.replicate ns zm,[],(List.replicate nb zm),[],[],nb,[],[]⟩ zj []):=mk1;have X3:Hid (zD W3 w.heap.size 40 zM):=XW.beside gr1 (fun g e=>by cases e;have:=HBB.out;omega)
 have LL3:Hid (ZX L L1):=ll;clear mk1 gr1 sz1 y0 y1 yn ll;go_wp2
 go_loopg [70] c (fun gg s70 wr=>∃(k2:Nat) (vl':Sli) (L':List Int) (sd sf:Sli) (db:List (List Int)) (dq:List (Int × List Int)) (fl:List Fl),k2<=c/\c - k2<=gg/\s70=I6 k2/\Hid (Mk w hi wr b vl' L' ⟨⟨some ⟨gf,0,none⟩,nf,nf⟩,⟨some ⟨gl,0,none⟩,ns,ns⟩,⟨some ⟨gsb,0,none⟩,ns,ns⟩,zj,⟨some ⟨gdb,0,none⟩,nb,nb⟩,sd,sf,zj,zj⟩ ⟨List.replicate nf frF,0,List.replicate ns 0,List.replicate ns zm,[],db,dq,fl,nb,[],[]⟩ zj [])/\Hid (ZX L L')/\Hid (zD wr w.heap.size 40 zM)/\Hid (zdN fl nb db dq []/\fl.length<=k2/\db.length=nb/\∀f∈fl,f.size<40)/\Hid (k2=0->fl=[]/\dq=[]/\db=List.replicate nb zm))
 case atStart=>exact⟨0,vl1,L1,zj,zj,_,_,_,nZ _,by omega,rfl,M3,LL3,X3,(show _/\_ from⟨zdN.zero hnb80,nZ _,lR,fun f hf=>(by cases hf)⟩),(fun _=>⟨rfl,rfl,rfl⟩)⟩
 obtain⟨k2,vl2,L2,sd,sf,db,dq,fl,hk2,hg2,rfl,MW,LW,XW,FW,ZW⟩:=hrel
 by_cases hlt2:k2<c
 ·have hltz2:(k2:Int)< (c:Int):=by omega
  have hpk2:=qB 40 MW.out;go_wp2_with fail;refine hpk2.mono ?_;clear hpk2;rintro e W4 ⟨vl4,L4,sz,rfl,mk4,gr4,-,s0,s1,-,ll4⟩;have hsz:sz<40:=by rcases s1 with h|h <;> omega
  have M4:Hid (Mk w hi W4 b vl4 L4 ⟨⟨some ⟨gf,0,none⟩,nf,nf⟩,⟨some ⟨gl,0,none⟩,ns,ns⟩,⟨some ⟨gsb,0,none⟩,ns,ns⟩,zj,⟨some ⟨gdb,0,none⟩,nb,nb⟩,sd,sf,zj,zj⟩ ⟨List.replicate nf frF,0,List.replicate ns 0,List.replicate ns zm,[],db,dq,fl,nb,[],[]⟩ zj []):=mk4;have X4:Hid (zD W4 w.heap.size 40 zM):=XW.beside gr4 (fun g e=>by cases e;have:=HBB.out;omega)
  have LL4:=dD (LW.trans ll4);clear mk4 gr4 ll4 s1;go_upto_region 12 with fail;obtain⟨pf,HPF⟩:∃pf,Hid (W4.heap.size=pf):=⟨_,rfl⟩;obtain⟨W5,hW5⟩:∃W5,W4.alloc (.cells #[I6 sz,eS] 71)=W5:=⟨_,rfl⟩;have g5:=gP hW5
  have P5:=xPT hW5 HPF
  have M5:=dD (M4.grew g5);have X5:=dD (X4.grew g5);have FB5:Hid (FlB w.heap.size hi pf W5 ⟨⟨some ⟨gf,0,none⟩,nf,nf⟩,⟨some ⟨gl,0,none⟩,ns,ns⟩,⟨some ⟨gsb,0,none⟩,ns,ns⟩,zj,⟨some ⟨gdb,0,none⟩,nb,nb⟩,sd,sf,zj,zj⟩ ⟨List.replicate nf frF,0,List.replicate ns 0,List.replicate ns zm,[],db,dq,fl,nb,[],[]⟩):=show FlB _ _ _ _ _ _ by rw[<-HPF.out];exact M4.rows.flB.grew g5
  have HHP:Hid (hi<=pf):=dD<|by rw[<-HPF.out];exact M4.rows.hw
  have HFN:Hid (∀g,(sf.x).ownBlock=some g->g<pf):=dD<|fun g hg=>by rw[<-HPF.out];obtain⟨xs,q1,-,-⟩:=M4.rows.fl;exact(q1.lt g hg).2
  rw[hW5,HPF.out];clear hW5 g5;have p0:=P5.box.c 0 rfl;have hcn:=za8 sz W5 s0 (by omega)
  go_wp2_with fail;refine hcn.mono ?_;clear hcn p0;rintro e W6 ⟨rfl,hw6⟩;rw[hw6];clear hw6;have HC9:Hid (Ja sz<=5):=dD<|by unfold Ja;split <;> omega
  obtain⟨N3,HN3⟩:∃N3:Nat,Hid (Ja sz=(N3:Int)):=⟨(Ja sz).toNat,show _=_ by unfold Ja;split <;> omega⟩
  rw[HN3.out];have HSZ:Hid (0<=sz/\sz<40):=dD<|⟨s0,hsz⟩
  have hN35:N3<=5:=by have:=HC9.out;have:=HN3.out;omega
  have F5:Hid (FC w hi b W5 vl4 L4 ⟨⟨some ⟨gf,0,none⟩,nf,nf⟩,⟨some ⟨gl,0,none⟩,ns,ns⟩,⟨some ⟨gsb,0,none⟩,ns,ns⟩,zj,⟨some ⟨gdb,0,none⟩,nb,nb⟩,sd,sf,zj,zj⟩ ⟨List.replicate nf frF,0,List.replicate ns 0,List.replicate ns zm,[],db,dq,fl,nb,[],[]⟩ pf sz zj []):=dD<|⟨M5,HHP,FB5,HFN,P5,zb.nil _ _ _⟩
  have HF0:Hid (zdN fl nb db dq []/\db.length=nb):=dD<|⟨FW.1,FW.2.2.1⟩
  have HF40:Hid (∀f∈fl,f.size<40):=dD<|FW.2.2.2
  have HFL:Hid (fl.length<=k2):=dD<|FW.2.1
  clear s0 hsz;go_wp2
  go_loopg [78] N3 (fun gg s78 wr=>∃(k3:Nat) (vl':Sli) (L':List Int) (sd' bs:Sli) (db':List (List Int)) (dq':List (Int × List Int)) (bl:List Int),k3<=N3/\N3 - k3<=gg/\s78=I6 k3/\Hid (FC w hi b wr vl' L' ⟨⟨some ⟨gf,0,none⟩,nf,nf⟩,⟨some ⟨gl,0,none⟩,ns,ns⟩,⟨some ⟨gsb,0,none⟩,ns,ns⟩,zj,⟨some ⟨gdb,0,none⟩,nb,nb⟩,sd',sf,zj,zj⟩ ⟨List.replicate nf frF,0,List.replicate ns 0,List.replicate ns zm,[],db',dq',fl,nb,[],[]⟩ pf sz bs bl)/\Hid (ZX L L')/\Hid (zD wr w.heap.size 40 zM)/\Hid (zdN fl nb db' dq' bl/\bl.length=k3/\db'.length=nb))
  case atStart=>exact⟨0,vl4,L4,sd,zj,db,dq,[],nZ _,by omega,rfl,F5,LL4,X5,(show _/\_ from⟨HF0.1,rfl,HF0.2⟩)⟩
  obtain⟨k3,vl6,L6,sd6,bs,db6,dq6,bl,hk3,hg3,rfl,FX,LX,XX,FI⟩:=hrel
  by_cases hlt3:k3<N3
  ·have hltz3:(k3:Int)< (N3:Int):=by omega
   have hpk7:=qB (max (nb:Int) 1) FX.mm;go_wp2_with fail;refine hpk7.mono ?_;clear hpk7;rintro e W7 ⟨vl7,L7,x,rfl,mk7,gr7,-,x0,-,-,ll7⟩;obtain⟨n,rfl⟩:∃n:Nat,x=(n:Int):=⟨x.toNat,by omega⟩
   have F7:Hid (FC w hi b W7 vl7 L7 ⟨⟨some ⟨gf,0,none⟩,nf,nf⟩,⟨some ⟨gl,0,none⟩,ns,ns⟩,⟨some ⟨gsb,0,none⟩,ns,ns⟩,zj,⟨some ⟨gdb,0,none⟩,nb,nb⟩,sd6,sf,zj,zj⟩ ⟨List.replicate nf frF,0,List.replicate ns 0,List.replicate ns zm,[],db6,dq6,fl,nb,[],[]⟩ pf sz bs bl):=FX.pick gr7 mk7;have X7:Hid (zD W7 w.heap.size 40 zM):=XX.kind gr7 FX.mm.box (by decide)
   have LL7:=dD (LX.trans ll7);clear mk7 gr7 ll7 x0;go_upto_region 17 with fail
   go_cut [78,109]from 78 to 160 (fun s78 s109 wx=>∃(tk:Bool) (vl':Sli) (L':List Int),s78=I6 k3/\s109= .bool tk/\Hid (FC w hi b wx vl' L' ⟨⟨some ⟨gf,0,none⟩,nf,nf⟩,⟨some ⟨gl,0,none⟩,ns,ns⟩,⟨some ⟨gsb,0,none⟩,ns,ns⟩,zj,⟨some ⟨gdb,0,none⟩,nb,nb⟩,sd6,sf,zj,zj⟩ ⟨List.replicate nf frF,0,List.replicate ns 0,List.replicate ns zm,[],db6,dq6,fl,nb,[],[]⟩ pf sz bs bl)/\Hid (ZX L L')/\Hid (zD wx w.heap.size 40 zM)/\Hid (tk=true->n<nb/\qN (fl++ [⟨sz,bl⟩]) (n:Int)=false))
   case first=>
    by_cases hn:n<nb
    ·have hnz:(n:Int)< (nb:Int):=by omega
     have hnd:decide ((n:Int)< (nb:Int))=true:=by simpa using hnz
     obtain⟨xs,q1,q2,q3⟩:=F7.fb;have HX:Hid (zb fvE w.heap.size W7 (sf.x) xs):=q1;obtain⟨nF,HNF⟩:∃nF,Hid (fl.length=nF):=⟨_,rfl⟩;have HXL:Hid (xs.length=nF):=show _=_ by rw[q2];exact HNF.out
     have hnF:nF<=10:=by have:=HFL.out;have:=HNF.out;omega
     have HSN:Hid (sf.n=nF):=dD<|by rw[q1.n];exact HXL.out
     have HX3:Hid (∀(i:Nat) x f,xs[i]? =some x->fl[i]? =some f->x.size=f.size/\zb blE hi W7 x.v f.bl):=dD<|fun i x f hx hf=>(q3 i x f hx hf).1
     clear q1 q2 q3;obtain⟨fx,HFX⟩:∃fx:FlV,Hid (fx=⟨sz,bs.a,bs.n,bs.c⟩):=⟨_,rfl⟩;obtain⟨UB,HUB⟩:∃UB,Hid (qN (fl++ [(⟨sz,bl⟩:Fl)]) (n:Int)=UB):=⟨qN (fl++ [(⟨sz,bl⟩:Fl)]) (n:Int),rfl⟩;have HB7:Hid (b<W7.heap.size):=F7.mm.box.box.lt;have HPB:Hid (pf≠b):=show _≠_ from fun e=>by
      have h1:W7.heap[pf]? =_:=F7.box;have h2:W7.heap[b]? =_:=F7.mm.box;rw[e,h2]at h1;cases h1
     have HXB:Hid (w.heap.size≠b):=dD<|by have:=HBB.out;omega
     obtain⟨I,HI⟩:∃I:World->Prop,Hid (∀u,I u↔Out b (b+1) W7 u/\FCE w hi b L ⟨⟨some ⟨gf,0,none⟩,nf,nf⟩,⟨some ⟨gl,0,none⟩,ns,ns⟩,⟨some ⟨gsb,0,none⟩,ns,ns⟩,zj,⟨some ⟨gdb,0,none⟩,nb,nb⟩,sd6,sf,zj,zj⟩ ⟨List.replicate nf frF,0,List.replicate ns 0,List.replicate ns zm,[],db6,dq6,fl,nb,[],[]⟩ pf sz bs bl u):=⟨fun u=>Out b (b+1) W7 u/\FCE w hi b L ⟨⟨some ⟨gf,0,none⟩,nf,nf⟩,⟨some ⟨gl,0,none⟩,ns,ns⟩,⟨some ⟨gsb,0,none⟩,ns,ns⟩,zj,⟨some ⟨gdb,0,none⟩,nb,nb⟩,sd6,sf,zj,zj⟩ ⟨List.replicate nf frF,0,List.replicate ns 0,List.replicate ns zm,[],db6,dq6,fl,nb,[],[]⟩ pf sz bs bl u,fun _=>Iff.rfl⟩
     have hI0:I W7.drew:=(HI _).2 ⟨Out.drew _,vl7,L7,F7.grew (gW _),LL7⟩
     have HIG:Hid (∀u u',I u->zc u u'->I u'):=dD<|fun u u' h k=>by
      obtain⟨h1,vl',L',h2,h3⟩:=(HI _).1 h;exact(HI _).2 ⟨h1.trans (Out.grew k),vl',L',h2.grew k,h3⟩
     have hx8:∀y:zk I,y.world.cell? ⟨b,8,none⟩=some (sf.x):=fun y=>by
      obtain⟨_,_,_,h2,_⟩:=(HI _).1 y.holds;exact h2.mm.box.box.c 8 rfl
     have hp0:∀y:zk I,y.world.cell? ⟨pf,0,none⟩=some (I6 sz):=fun y=>by
      obtain⟨_,_,_,h2,_⟩:=(HI _).1 y.holds;exact h2.box.box.c 0 rfl
     have hp1:∀y:zk I,y.world.cell? ⟨pf,1,none⟩=some (bs.x):=fun y=>by
      obtain⟨_,_,_,h2,_⟩:=(HI _).1 y.holds;exact h2.box.box.c 1 rfl
     have hne:Nonempty (zk I):=⟨⟨_,hI0⟩⟩;refine qa (I:=I) 25 [(4,⟨fun v=>∃g,v= .slice (some ⟨g,0,none⟩) 0 0,fun v u=>zb fvE W7.heap.size u v [],fun p q=>zc p q,fun _=>True⟩),(11,⟨fun v=>(∃a c,v= .slice a nF c)/\(nF=0->∃g,v= .slice (some ⟨g,0,none⟩) 0 0),fun v u=>zb fvE W7.heap.size u v xs,fun p q=>zc p q,fun _=>True⟩),(13,⟨fun v=>∃g,v= .slice (some ⟨g,0,none⟩) 1 1,fun v u=>zb fvE W7.heap.size u v [fx],fun p q=>zc p q,fun _=>True⟩),(14,⟨fun v=>∃a c,v= .slice a (nF+1) c,fun v u=>zb fvE W7.heap.size u v (xs++ [fx]),fun p q=>∀u m,m.length<=nF\/m.length<=1->zb fvE W7.heap.size p u m->zb fvE W7.heap.size q u m,fun _=>True⟩),(17,⟨fun v=>v= .bool UB,fun _ _=>True,fun p q=>zc p q,fun _=>True⟩),(22,⟨fun v=>∃x:Int,v=I6 x,fun _ _=>True,fun p q=>Out b (b+1) p q,fun _=>True⟩)] hI0 qu (by kernel_rfl) rfl rfl (by decide) ?hS ?hp ?hpre ?hpr0 ?_
     case hS=>
      intro x hx;simp only[mC,nM,or_false]at hx
      rcases hx with rfl|rfl|rfl|rfl|rfl|rfl
      ·exact⟨_,0,rfl⟩
      ·by_cases h0:nF=0
       ·exact⟨.slice (some ⟨0,0,none⟩) 0 0,⟨some ⟨0,0,none⟩,0,by rw[h0]⟩,fun _=>⟨0,rfl⟩⟩
       exact⟨.slice none nF 0,⟨_,_,rfl⟩,fun h=>absurd h h0⟩
      ·exact⟨_,0,rfl⟩
      ·exact⟨_,none,0,rfl⟩
      ·exact⟨_,rfl⟩
      exact⟨_,0,rfl⟩
     case hp=>
      intro k s j t hk hj hjk hanc v p q hst hpo;have hk':=zt hk;have hj':=zt hj;clear hk hj;simp only[mC,pJ,nM,or_false]at hk' hj';have keep:∀l:List FlV,l.length<=nF\/l.length<=1\/j≠14->zb fvE W7.heap.size p v l->zb fvE W7.heap.size q v l:=fun l hl ho=>by
       rcases hj' with⟨rfl,rfl⟩|⟨rfl,rfl⟩|⟨rfl,rfl⟩|⟨rfl,rfl⟩|⟨rfl,rfl⟩|⟨rfl,rfl⟩
       ·exact zb.grew ho hst
       ·exact zb.grew ho hst
       ·exact zb.grew ho hst
       ·exact hst v l (by omega) ho
       ·exact zb.grew ho hst
       exact ho.outb hst (fun g hg=>by have:=(ho.lt g hg).1;have:=HB7.out;omega)
      rcases hk' with⟨rfl,rfl⟩|⟨rfl,rfl⟩|⟨rfl,rfl⟩|⟨rfl,rfl⟩|⟨rfl,rfl⟩|⟨rfl,rfl⟩
      ·exact keep _ (.inl (nZ _)) hpo
      ·exact keep _ (.inl (by rw[HXL.out];exact nR _)) hpo
      ·exact keep _ (.inr (.inl (nR _))) hpo
      ·exact keep _ (.inr (.inr (fun e=>hjk e))) hpo
      ·trivial
      trivial
     case hpre=>
      intro j t k s hj hk hjk p q hst hpr;have hj':=zt hj;clear hk hj;simp only[mC,pJ,nM,or_false]at hj'
      rcases hj' with⟨rfl,rfl⟩|⟨rfl,rfl⟩|⟨rfl,rfl⟩|⟨rfl,rfl⟩|⟨rfl,rfl⟩|⟨rfl,rfl⟩ <;> trivial
     case hpr0=>
      intro k t hk;have hk':=zt hk;clear hk;simp only[mC,pJ,nM,or_false]at hk'
      rcases hk' with⟨rfl,rfl⟩|⟨rfl,rfl⟩|⟨rfl,rfl⟩|⟨rfl,rfl⟩|⟨rfl,rfl⟩|⟨rfl,rfl⟩ <;> trivial
     simp only[List.take,List.drop];iterate 4 (refine zh rfl rfl rfl (fun K hK=>?_);go_big_quiet_op;refine hK _ ?_;clear hK)
     refine zz rfl rfl (fun w' hI' hpr hF=>?_) (fun v1 hv=>?_)
     ·have hg:=((HI _).1 hI').1;exact zP.step (v:= .slice (some ⟨w'.heap.size,0,none⟩) 0 0) (w':=w'.alloc (.cells #[] 71)) (by simp only[execOp];go_simp) ⟨HIG _ _ hI' (za _ _),za _ _,⟨_,rfl⟩,(zb.made fvE w').base hg.size⟩
     obtain⟨g0,rfl⟩:=hv;simp only[Act.put,sB,sS,sZ];iterate 1 (refine zh rfl rfl rfl (fun K hK=>?_);go_big_quiet_op;refine hK _ ?_;clear hK)
     refine jE (.tmp 90) ⟨b,0,none⟩ rfl rfl rfl rfl ?_;simp only[Act.put,sB,sS,sZ];iterate 4 (refine zh rfl rfl rfl (fun K hK=>?_);go_big_quiet_op;refine hK _ ?_;clear hK)
     refine zz rfl rfl (fun w' hI' hpr hF=>?_) (fun v1 hv=>?_)
     ·have hg:=((HI _).1 hI').1;have h0:zb fvE W7.heap.size w' (.slice (some ⟨g0,0,none⟩) 0 0) []:=hF 4 (by kernel_rfl)
      have hX:=HX.outb hg (fun g hg' e=>by
       obtain⟨cs,hc⟩:=HX.obj hg';have h3:W7.heap[b]? =_:=F7.mm.box;rw[e,h3]at hc
       cases hc)
      obtain⟨v',w2,hrun,ho,hg2,hz⟩:=jq (E:=fvE) (w:=w') 34 h0 (sf.x) xs hX.at hg.size;obtain⟨a',c',rfl⟩:=ho.form;refine zP.step (v:= .slice a' xs.length c') (w':=w2) ?_ ⟨HIG _ _ hI' hg2,hg2,⟨⟨a',c',by rw[HXL.out]⟩,fun h=>⟨g0,hz (eN (by rw[HXL.out];exact h))⟩⟩,ho⟩
      simp only[execOp,resolve,invoke,builtin,pure_bind,Sem.run_bind,Sem.run_pure,List.map_toArray,mP,List.map_nil];exact Eq.trans (congrArg (fun r=>Result.andThen r (fun a w'=>Result.ok (Next.value a) w')) hrun) rfl
     obtain⟨⟨a3,c3,rfl⟩,hz3⟩:=hv;simp only[Act.put,sB,sS,sZ];iterate 1 (refine zh rfl rfl rfl (fun K hK=>?_);go_big_quiet_op;refine hK _ ?_;clear hK)
     refine zz rfl rfl (fun w' hI' hpr hF=>?_) (fun v1 hv=>?_)
     ·have hg:=((HI _).1 hI').1;exact zP.step (v:= .slice (some ⟨w'.heap.size,0,none⟩) 1 1) (w':=w'.alloc (.cells #[I6 sz,bs.x] 71)) (by simp only[execOp];go_simp) ⟨HIG _ _ hI' (za _ _),za _ _,⟨_,rfl⟩,by rw[HFX.out];exact(zjg w' ⟨sz,bs.a,bs.n,bs.c⟩).base hg.size⟩
     obtain⟨g5,rfl⟩:=hv;simp only[Act.put,sB,sS,sZ];refine zz rfl rfl (fun w' hI' hpr hF=>?_) (fun v1 hv=>?_)
     ·have hg:=((HI _).1 hI').1;have o3:zb fvE W7.heap.size w' (.slice a3 nF c3) xs:=hF 11 (by kernel_rfl)
      have o5:zb fvE W7.heap.size w' (.slice (some ⟨g5,0,none⟩) 1 1) [fx]:=hF 13 (by kernel_rfl)
      have key:∃v' w2,(Builtin.append_ #[34,34] 34 #[.slice a3 nF c3,.slice (some ⟨g5,0,none⟩) 1 1]).run prog w'= .ok v' w2/\zb fvE W7.heap.size w2 v' (xs++ [fx])/\I w2/\∀u m,m.length<=nF\/m.length<=1->zb fvE W7.heap.size w' u m->zb fvE W7.heap.size w2 u m:=by
       by_cases h0:nF=0
       ·have hxs:xs=[]:=eN (by rw[HXL.out];exact h0)
        subst hxs;obtain⟨g,hgv⟩:=hz3 h0;rw[hgv]at o3⊢;obtain⟨v',w2,hrun,ho,hg2,_⟩:=jq (E:=fvE) (w:=w') 34 o3 (.slice (some ⟨g5,0,none⟩) 1 1) [fx] o5.at hg.size;exact⟨v',w2,hrun,ho,HIG _ _ hI' hg2,fun u m _ h=>h.grew hg2⟩
       obtain⟨v',w2,hrun,ho,hgr,hk⟩:=qp (E:=fvE) (w:=w') 34 o3 (.slice (some ⟨g5,0,none⟩) 1 1) [fx] o5.at (by rw[HXL.out];show(nF+1)*32<=_;omega) hg.size
       refine⟨v',w2,hrun,ho,?_,fun u m hm h=>hk u m (by rw[HXL.out];omega) h⟩
       obtain⟨h1,vl',L',h2,h3⟩:=(HI _).1 hI';obtain⟨gr,cr,hgr3⟩:=o3.formS (by rw[HXL.out];omega)
       obtain⟨cs,hcs⟩:=o3.obj (g:=gr) (by rw[hgr3];rfl)
       have hgr':w'.grownBy w2 (some gr):=by rw[hgr3]at hgr;exact hgr
       have hgl:=(o3.lt gr (by rw[hgr3];rfl)).1
       have hpl:=F7.box.box.lt;refine(HI _).2 ⟨⟨hgr'.os.trans h1.os,hgr'.tape.trans h1.tape,hgr'.output.trans h1.output,nT h1.size hgr'.size,fun k hk' hb'=>(hgr'.block k (Nat.lt_of_lt_of_le hk' h1.size) (fun e=>by cases e;omega)).trans (h1.block k hk' hb')⟩,vl',L',h2.fresh hgr' hcs (by omega),h3⟩
      obtain⟨v',w2,hrun,ho,hI2,hk⟩:=key;obtain⟨a',c',rfl⟩:=ho.form;refine zP.step (v:= .slice a' (xs++ [fx]).length c') (w':=w2) ?_ ⟨hI2,hk,⟨a',c',by rw[lA,HXL.out];rfl⟩,ho⟩
      simp only[execOp,resolve,invoke,builtin,pure_bind,Sem.run_bind,Sem.run_pure,List.map_toArray,mP,List.map_nil];exact Eq.trans (congrArg (fun r=>Result.andThen r (fun a w'=>Result.ok (Next.value a) w')) hrun) rfl
     obtain⟨a6,c6,rfl⟩:=hv;simp only[Act.put,sB,sS,sZ];iterate 2 (refine zh rfl rfl rfl (fun K hK=>?_);go_big_quiet_op;refine hK _ ?_;clear hK)
     refine zz rfl rfl (fun w' hI' hpr hF=>?_) (fun v1 hv=>?_)
     ·obtain⟨h1,vl',L',h2,h3⟩:=(HI _).1 hI';have o6:zb fvE W7.heap.size w' (.slice a6 (nF+1) c6) (xs++ [fx]):=hF 14 (by kernel_rfl)
      have hfa:qL w' (.slice a6 (nF+1) c6) (fl++ [⟨sz,bl⟩]):=by
       refine⟨o6.cap,xs++ [fx],o6.at.s0,by rw[lA,lA,HXL.out,HNF.out];rfl,fun i x f hx hf=>?_⟩
       rcases Nat.lt_or_ge i nF with hi' | hi'
       ·rw[List.getElem?_append_left (by rw[HXL.out];exact hi')]at hx
        rw[List.getElem?_append_left (by rw[HNF.out];exact hi')]at hf
        obtain⟨a1,a2⟩:=HX3.out i x f hx hf;exact⟨a1,(a2.outb h1 (fun g hg' e=>by
         obtain⟨cs,hc⟩:=a2.obj hg';have h3:W7.heap[b]? =_:=F7.mm.box;rw[e,h3]at hc
         cases hc)).at.s0⟩
       rw[aR (by rw[HXL.out];exact hi'),HXL.out]at hx
       rw[aR (by rw[HNF.out];exact hi'),HNF.out]at hf
       have hi0:i - nF=0:=by
        have:=(gS.1 hx).1
        simp at this
        omega
       rw[hi0]at hx hf;cases hx;cases hf;rw[HFX.out];exact⟨rfl,h2.row.at.s0⟩
      refine zP.call [.agg #[.slice a6 (nF+1) c6,I6 0],I6 (n:Int)] rfl func29 rfl rfl rfl ?_;refine(zf5 (.slice a6 (nF+1) c6) (fl++ [⟨sz,bl⟩]) 0 (n:Int) w' hfa).mono ?_;rintro e w'' ⟨rfl,hg2⟩;exact⟨_,rfl,HIG _ _ hI' hg2,hg2,by rw[HUB.out],trivial⟩
     subst hv;simp only[Act.put,sB,sS,sZ];iterate 3 (refine zh rfl rfl rfl (fun K hK=>?_);go_big_quiet_op;refine hK _ ?_;clear hK)
     cases UB with
     | true=>
      refine zbW ?_ ?_
      ·kernel_rfl
      simp only[Act.put,sB,sS,sZ];refine zbW ?_ ?_
      ·kernel_rfl
      simp only[Act.put,sB,sS,sZ];refine zbW ?_ ?_
      ·kernel_rfl
      simp only[Act.put,sB,sS,sZ];iterate 1 (refine zh rfl rfl rfl (fun K hK=>?_);go_big_quiet_op;refine hK _ ?_;clear hK)
      refine jc fun W8 hI8 hF8=>?_
      obtain⟨h1,vl8,L8,h2,h3⟩:=(HI _).1 hI8;have F8:Hid (FC w hi b W8 vl8 L8 ⟨⟨some ⟨gf,0,none⟩,nf,nf⟩,⟨some ⟨gl,0,none⟩,ns,ns⟩,⟨some ⟨gsb,0,none⟩,ns,ns⟩,zj,⟨some ⟨gdb,0,none⟩,nb,nb⟩,sd6,sf,zj,zj⟩ ⟨List.replicate nf frF,0,List.replicate ns 0,List.replicate ns zm,[],db6,dq6,fl,nb,[],[]⟩ pf sz bs bl):=h2;have LL8:Hid (ZX L L8):=h3;have X8:Hid (zD W8 w.heap.size 40 zM):=X7.outb h1 HXB.out;clear hI8 hF8 hI0 hx8 hp0 hp1 hne h1 h2 h3 hz3;go_wp2
      go_meet
      exact⟨false,vl8,L8,rfl,rfl,F8,LL8,X8,fun h=>(by cases h)⟩
     | false=>
      iterate 1 (refine zh rfl rfl rfl (fun K hK=>?_);go_big_quiet_op;refine hK _ ?_;clear hK)
      refine zz rfl rfl (fun w' hI' hpr hF=>?_) (fun v1 hv=>?_)
      ·obtain⟨h1,vl',L',h2,h3⟩:=(HI _).1 hI';refine zP.call [.pointer (some ⟨b,0,none⟩),I6 3] rfl func27 rfl rfl rfl ?_;refine(qB 3 h2.mm).mono ?_;rintro e w'' ⟨vl2,L2,y,rfl,mk2,gr2,-,-,-,-,ll2⟩;have ho2:Out b (b+1) w' w'':=Out.grown gr2 (fun g e=>by cases e;omega)
       exact⟨_,rfl,(HI _).2 ⟨h1.trans ho2,vl2,L2,h2.pick gr2 mk2,h3.trans ll2⟩,ho2,⟨y,rfl⟩,trivial⟩
      obtain⟨x,rfl⟩:=hv;simp only[Act.put,sB,sS,sZ];iterate 2 (refine zh rfl rfl rfl (fun K hK=>?_);go_big_quiet_op;refine hK _ ?_;clear hK)
      refine jc fun W8 hI8 hF8=>?_
      obtain⟨h1,vl8,L8,h2,h3⟩:=(HI _).1 hI8;have F8:Hid (FC w hi b W8 vl8 L8 ⟨⟨some ⟨gf,0,none⟩,nf,nf⟩,⟨some ⟨gl,0,none⟩,ns,ns⟩,⟨some ⟨gsb,0,none⟩,ns,ns⟩,zj,⟨some ⟨gdb,0,none⟩,nb,nb⟩,sd6,sf,zj,zj⟩ ⟨List.replicate nf frF,0,List.replicate ns 0,List.replicate ns zm,[],db6,dq6,fl,nb,[],[]⟩ pf sz bs bl):=h2;have LL8:Hid (ZX L L8):=h3;have X8:Hid (zD W8 w.heap.size 40 zM):=X7.outb h1 HXB.out;have HUF:Hid (decide (0<x)=true->n<nb/\qN (fl++ [⟨sz,bl⟩]) (n:Int)=false):=show _->_ from fun _=>⟨hn,HUB⟩
      clear hI8 hF8 hI0 hx8 hp0 hp1 hne h1 h2 h3 hz3;go_wp2
      go_meet
      exact⟨decide (0<x),vl8,L8,rfl,rfl,F8,LL8,X8,HUF⟩
    have hnz:¬(n:Int)< (nb:Int):=by omega
    have hnd:decide ((n:Int)< (nb:Int))=false:=by simpa using hnz
    clear hn;go_quiet (fail);go_wp2
    go_meet
    exact⟨false,vl7,L7,rfl,rfl,F7.grew (show Below _ _ _ from bD (bR _ _) _),LL7,X7.grew (show Below _ _ _ from bD (bR _ _) _),fun h=>(by cases h)⟩
   obtain⟨tk,vl8,L8,rfl,rfl,F8,LL8,X8,HTK⟩:=hcut
   go_upto_if 109 with fail
   go_cut [13,15,16,78]from 78 to 160 (fun s13 s15 s16 s78 wx=>∃(bx:Int) (vl':Sli) (L':List Int) (sd':Sli) (db':List (List Int)) (dq':List (Int × List Int)),s13=I6 bx/\s78=I6 k3/\Hid (FC w hi b wx vl' L' ⟨⟨some ⟨gf,0,none⟩,nf,nf⟩,⟨some ⟨gl,0,none⟩,ns,ns⟩,⟨some ⟨gsb,0,none⟩,ns,ns⟩,zj,⟨some ⟨gdb,0,none⟩,nb,nb⟩,sd',sf,zj,zj⟩ ⟨List.replicate nf frF,0,List.replicate ns 0,List.replicate ns zm,[],db',dq',fl,nb,[],[]⟩ pf sz bs bl)/\Hid (ZX L L')/\Hid (zD wx w.heap.size 40 zM)/\Hid (zdN fl nb db' dq' (bl++ [bx])/\db'.length=nb))
   case first=>
    cases tk with
    | false=>
     go_wp2
     go_meet
     exact⟨-1,vl8,L8,sd6,db6,dq6,rfl,rfl,F8,LL8,X8,(show _/\_ from⟨FI.1.none,FI.2.2⟩)⟩
    | true=>
     obtain⟨hn,hu⟩:=HTK.out rfl;have HUF:Hid (qN fl (n:Int)=false/\(n:Int)∉bl):=dD<|by
      have h2:¬(n:Int)∈zaj (fl++ [⟨sz,bl⟩]):=fun h=>by rw[(zaq _ _).2 h]at hu;cases hu
      have h3:zaj (fl++ [⟨sz,bl⟩])=zaj fl++bl:=by simp[zaj]
      rw[h3,List.mem_append]at h2;refine⟨?_,fun h=>h2 (.inr h)⟩
      cases e:qN fl (n:Int)with
      | false=>rfl
      | true=>exact absurd (.inl ((zaq _ _).1 e)) h2
     have hnz:(n:Int)< (nb:Int):=by omega
     clear hu;have hpg:=zbt F8.mm;go_wp2_with fail;refine hpg.mono ?_;clear hpg;rintro e W9 ⟨vl9,L9,q9,rfl,ql9,mk9,gr9,ll9⟩;have F9:Hid (FC w hi b W9 vl9 L9 ⟨⟨some ⟨gf,0,none⟩,nf,nf⟩,⟨some ⟨gl,0,none⟩,ns,ns⟩,⟨some ⟨gsb,0,none⟩,ns,ns⟩,zj,⟨some ⟨gdb,0,none⟩,nb,nb⟩,sd6,sf,zj,zj⟩ ⟨List.replicate nf frF,0,List.replicate ns 0,List.replicate ns zm,[],db6,dq6,fl,nb,[],[]⟩ pf sz bs bl):=F8.pick gr9 mk9;have X9:Hid (zD W9 w.heap.size 40 zM):=X8.kind gr9 F8.mm.box (by decide)
     have LL9:=dD (LL8.trans ll9);clear mk9 gr9 ll9;obtain⟨o0,o1,o2,o3,o4,o5,o6,o7,rfl⟩:=zdP q9 ql9;clear ql9;simp only[pgc,mP,List.map_nil];go_upto_region 20 with fail;obtain⟨pp,HPP⟩:∃pp,Hid (W9.heap.size=pp):=⟨_,rfl⟩;obtain⟨W10,hW10⟩:∃W10,W9.alloc (.cells #[U8 o0,U8 o1,U8 o2,U8 o3,U8 o4,U8 o5,U8 o6,U8 o7] 50)=W10:=⟨_,rfl⟩;have g10:=gP hW10
     have P10:Hid (zD W10 pp 50 (pgc [o0,o1,o2,o3,o4,o5,o6,o7])):=dD<|by rw[<-hW10];exact zD.top _ (pgc [o0,o1,o2,o3,o4,o5,o6,o7]) _ HPP.symm
     have F10:=dD (F9.grew g10);have X10:=dD (X9.grew g10);have HHP:Hid (hi<=pp):=show _<=_ by rw[<-HPP.out];exact F9.mm.rows.hw
     rw[hW10,HPP.out];clear hW10 g10;go_wp2
     go_loopg [113] 8 (fun gg s113 wr=>∃(i:Nat) (qq:List Int),i<=8/\8 - i<=gg/\s113=I6 i/\Hid (FC w hi b wr vl9 L9 ⟨⟨some ⟨gf,0,none⟩,nf,nf⟩,⟨some ⟨gl,0,none⟩,ns,ns⟩,⟨some ⟨gsb,0,none⟩,ns,ns⟩,zj,⟨some ⟨gdb,0,none⟩,nb,nb⟩,sd6,sf,zj,zj⟩ ⟨List.replicate nf frF,0,List.replicate ns 0,List.replicate ns zm,[],db6,dq6,fl,nb,[],[]⟩ pf sz bs bl)/\Hid (zD wr pp 50 (pgc qq))/\Hid (qq.length=8)/\Hid (zD wr w.heap.size 40 zM))
     case atStart=>exact⟨0,[o0,o1,o2,o3,o4,o5,o6,o7],nZ _,by omega,rfl,F10,P10,rfl,X10⟩
     obtain⟨i,qq,hi8,hg4,rfl,FW,PW,QW,XW⟩:=hrel
     by_cases hlt4:i<8
     ·have hltz4:(i:Int)<8:=by omega
      obtain⟨z,hz⟩:∃z,qq[i]? =some z:=⟨_,gE (by rw[QW.out];exact hlt4)⟩
      have z0:=PW.box.c i (zcL hz);have zf:=PW.box.f;have y0:=FW.box.box.c 0 rfl;clear hz
      by_cases hc:sz<=8*(k3:Int)+(i:Int)
      ·have hcd:decide (sz<=8*(k3:Int)+(i:Int))=true:=by simpa using hc
       have HG:Hid (wr.grownBy (wr.setCell ⟨pp,i,none⟩ (U8 0)) (some pp)):=qO _ _ _ _;have P11:Hid (zD (wr.setCell ⟨pp,i,none⟩ (U8 0)) pp 50 (pgc (qq.set i 0))):=show zD _ _ _ _ by rw[zbN];exact PW.set i _
       have F11:Hid (FC w hi b (wr.setCell ⟨pp,i,none⟩ (U8 0)) vl9 L9 ⟨⟨some ⟨gf,0,none⟩,nf,nf⟩,⟨some ⟨gl,0,none⟩,ns,ns⟩,⟨some ⟨gsb,0,none⟩,ns,ns⟩,zj,⟨some ⟨gdb,0,none⟩,nb,nb⟩,sd6,sf,zj,zj⟩ ⟨List.replicate nf frF,0,List.replicate ns 0,List.replicate ns zm,[],db6,dq6,fl,nb,[],[]⟩ pf sz bs bl):=FW.kind HG PW (by decide) (by decide) (FW.mm.page PW HHP HG) rfl rfl
       have X11:Hid (zD (wr.setCell ⟨pp,i,none⟩ (U8 0)) w.heap.size 40 zM):=XW.kind HG PW (by decide)
       go_wp2
       go_roundg (8 -(i+1))
       case measure=>omega
       exact⟨i+1,qq.set i 0,by omega,by omega,by go_num,F11,P11,(show(qq.set i 0).length=8 by rw[List.length_set];exact QW),X11⟩
      have hcd:decide (sz<=8*(k3:Int)+(i:Int))=false:=by simpa using hc
      go_wp2
      go_roundg (8 -(i+1))
      case measure=>omega
      exact⟨i+1,qq,by omega,by omega,by go_num,FW,PW,QW,XW⟩
     have hltz4:¬(i:Int)<8:=by omega
     obtain⟨p0,p1,p2,p3,p4,p5,p6,p7,rfl⟩:=zdP qq QW.out;go_upto_region 26 with fail;obtain⟨I,HI⟩:∃I:World->Prop,Hid (∀u,I u↔zc wr u):=⟨fun u=>zc wr u,fun _=>Iff.rfl⟩
     have hI0:I wr.drew:=(HI _).2 (gW _)
     have HP:Hid (∀u,I u->zD u pp 50 (pgc [p0,p1,p2,p3,p4,p5,p6,p7])):=dD<|fun u hu=>PW.grew ((HI _).1 hu)
     have hx6:∀y:zk I,y.world.cell? ⟨b,6,none⟩=some (.slice (some ⟨gdb,0,none⟩) nb nb):=fun y=>(FW.mm.box.box.grew ((HI _).1 y.holds)).c 6 rfl
     have hf0:∀y:zk I,y.world.cell? ⟨pp,0,none⟩=some (U8 p0):=fun y=>(HP _ y.holds).box.c 0 rfl
     have hf1:∀y:zk I,y.world.cell? ⟨pp,1,none⟩=some (U8 p1):=fun y=>(HP _ y.holds).box.c 1 rfl
     have hf2:∀y:zk I,y.world.cell? ⟨pp,2,none⟩=some (U8 p2):=fun y=>(HP _ y.holds).box.c 2 rfl
     have hf3:∀y:zk I,y.world.cell? ⟨pp,3,none⟩=some (U8 p3):=fun y=>(HP _ y.holds).box.c 3 rfl
     have hf4:∀y:zk I,y.world.cell? ⟨pp,4,none⟩=some (U8 p4):=fun y=>(HP _ y.holds).box.c 4 rfl
     have hf5:∀y:zk I,y.world.cell? ⟨pp,5,none⟩=some (U8 p5):=fun y=>(HP _ y.holds).box.c 5 rfl
     have hf6:∀y:zk I,y.world.cell? ⟨pp,6,none⟩=some (U8 p6):=fun y=>(HP _ y.holds).box.c 6 rfl
     have hf7:∀y:zk I,y.world.cell? ⟨pp,7,none⟩=some (U8 p7):=fun y=>(HP _ y.holds).box.c 7 rfl
     have hne:Nonempty (zk I):=⟨⟨_,hI0⟩⟩;refine qa (I:=I) 9 [] hI0 qu (by kernel_rfl) rfl rfl (by decide) (fun x hx=>by cases hx) (fun k s j t hk=>by cases hk) (fun j t k s hj=>by cases hj) (fun k t hk=>by cases hk) ?_
     simp only[List.take,List.drop];iterate 1 (refine zh rfl rfl rfl (fun K hK=>?_);go_big_quiet_op;refine hK _ ?_;clear hK)
     refine jE (.tmp 126) ⟨b,0,none⟩ rfl rfl rfl rfl ?_;simp only[Act.put,sB,sS,sZ];iterate 7 (refine zh rfl rfl rfl (fun K hK=>?_);go_big_quiet_op;refine hK _ ?_;clear hK)
     refine jc fun W11 hI11 _=>?_
     have g11:=(HI _).1 hI11;refine Ql rfl (.tmp 134) (.tmp 133) rfl w.heap.size (.slice (some ⟨gdb,0,none⟩) nb nb) db6 (FW.grew g11).mm.rows.db gdb n rfl (by rw[FI.2.2];exact hn) [p0,p1,p2,p3,p4,p5,p6,p7] rfl _ rfl (by first | rfl | simp) rfl ?_
     intro W12 op12 gr12 sz12;obtain⟨-,cs12,hc12⟩:=Qe (FW.grew g11).mm.rows.db (g:=gdb) rfl;have F12:Hid (FC w hi b W12 vl9 L9 ⟨⟨some ⟨gf,0,none⟩,nf,nf⟩,⟨some ⟨gl,0,none⟩,ns,ns⟩,⟨some ⟨gsb,0,none⟩,ns,ns⟩,zj,⟨some ⟨gdb,0,none⟩,nb,nb⟩,sd6,sf,zj,zj⟩ ⟨List.replicate nf frF,0,List.replicate ns 0,List.replicate ns zm,[],(db6.set n [p0,p1,p2,p3,p4,p5,p6,p7]),dq6,fl,nb,[],[]⟩ pf sz bs bl):=(FW.grew g11).kind gr12 hc12 (by decide) (by decide) ((FW.grew g11).mm.setDb rfl gr12 sz12 op12).1 rfl rfl
     have X12:=dD ((XW.grew g11).kind gr12 hc12 (by decide))
     have P12:Hid (zD W12 pp 50 (pgc [p0,p1,p2,p3,p4,p5,p6,p7])):=(PW.grew g11).beside gr12 (fun g e=>by cases e;have:=(FW.mm.rows.dbh gdb rfl);have:=HHP.out;omega)
     clear hI11 g11 op12 gr12 sz12 cs12 hc12 hI0 hx6 hne;clear hf0 hf1 hf2 hf3 hf4 hf5 hf6 hf7;have hpk12:=qB 2 F12.mm;go_wp2_with fail;refine hpk12.mono ?_;clear hpk12;rintro e W13 ⟨vl13,L13,y,rfl,mk13,gr13,-,-,-,-,ll13⟩;have F13:Hid (FC w hi b W13 vl13 L13 ⟨⟨some ⟨gf,0,none⟩,nf,nf⟩,⟨some ⟨gl,0,none⟩,ns,ns⟩,⟨some ⟨gsb,0,none⟩,ns,ns⟩,zj,⟨some ⟨gdb,0,none⟩,nb,nb⟩,sd6,sf,zj,zj⟩ ⟨List.replicate nf frF,0,List.replicate ns 0,List.replicate ns zm,[],(db6.set n [p0,p1,p2,p3,p4,p5,p6,p7]),dq6,fl,nb,[],[]⟩ pf sz bs bl):=F12.pick gr13 mk13;have X13:Hid (zD W13 w.heap.size 40 zM):=X12.kind gr13 F12.mm.box (by decide)
     have P13:Hid (zD W13 pp 50 (pgc [p0,p1,p2,p3,p4,p5,p6,p7])):=P12.kind gr13 F12.mm.box (by decide)
     have LL13:=dD (LL9.trans ll13);clear mk13 gr13 ll13;have HDL:Hid ((db6.set n [p0,p1,p2,p3,p4,p5,p6,p7]).length=nb):=show _=_ by rw[List.length_set];exact FI.2.2
     by_cases hy:y=1
     ·have hye:(y == 1)=true:=by simp[hy]
      clear hy;go_upto_region 28 with fail;have HDQ:Hid (z8 w.heap.size W13 (sd6.x) dq6):=F13.mm.rows.dq;have HQL:Hid (dq6.length<=1000):=show _<=_ by
       have h1:=FI.1.ql;have h2:=zdK ((jx _ _).1 FI.1.st).2.1;have h3:=((jx _ _).1 FI.1.st).1.1;have h4:=FI.2.1;omega
      obtain⟨I,HI⟩:∃I:World->Prop,Hid (∀u,I u↔zD u b 87 [vl13.x,.slice (some ⟨gf,0,none⟩) nf nf,I6 0,.slice (some ⟨gl,0,none⟩) ns ns,.slice (some ⟨gsb,0,none⟩) ns ns,eS,.slice (some ⟨gdb,0,none⟩) nb nb,sd6.x,sf.x,I6 (nb:Int),eS,eS,eS]/\zD u pp 50 (pgc [p0,p1,p2,p3,p4,p5,p6,p7])):=⟨fun u=>zD u b 87 [vl13.x,.slice (some ⟨gf,0,none⟩) nf nf,I6 0,.slice (some ⟨gl,0,none⟩) ns ns,.slice (some ⟨gsb,0,none⟩) ns ns,eS,.slice (some ⟨gdb,0,none⟩) nb nb,sd6.x,sf.x,I6 (nb:Int),eS,eS,eS]/\zD u pp 50 (pgc [p0,p1,p2,p3,p4,p5,p6,p7]),fun _=>Iff.rfl⟩
      have hI0:I W13.drew:=(HI _).2 ⟨F13.mm.box.grew (gW _),P13.grew (gW _)⟩
      have HP:Hid (∀u,I u->zD u pp 50 (pgc [p0,p1,p2,p3,p4,p5,p6,p7])):=dD<|fun u hu=>((HI _).1 hu).2
      have hx7:∀y:zk I,y.world.cell? ⟨b,7,none⟩=some (sd6.x):=fun y=>((HI _).1 y.holds).1.box.c 7 rfl
      have hf0:∀y:zk I,y.world.cell? ⟨pp,0,none⟩=some (U8 p0):=fun y=>(HP _ y.holds).box.c 0 rfl
      have hf1:∀y:zk I,y.world.cell? ⟨pp,1,none⟩=some (U8 p1):=fun y=>(HP _ y.holds).box.c 1 rfl
      have hf2:∀y:zk I,y.world.cell? ⟨pp,2,none⟩=some (U8 p2):=fun y=>(HP _ y.holds).box.c 2 rfl
      have hf3:∀y:zk I,y.world.cell? ⟨pp,3,none⟩=some (U8 p3):=fun y=>(HP _ y.holds).box.c 3 rfl
      have hf4:∀y:zk I,y.world.cell? ⟨pp,4,none⟩=some (U8 p4):=fun y=>(HP _ y.holds).box.c 4 rfl
      have hf5:∀y:zk I,y.world.cell? ⟨pp,5,none⟩=some (U8 p5):=fun y=>(HP _ y.holds).box.c 5 rfl
      have hf6:∀y:zk I,y.world.cell? ⟨pp,6,none⟩=some (U8 p6):=fun y=>(HP _ y.holds).box.c 6 rfl
      have hf7:∀y:zk I,y.world.cell? ⟨pp,7,none⟩=some (U8 p7):=fun y=>(HP _ y.holds).box.c 7 rfl
      have hne:Nonempty (zk I):=⟨⟨_,hI0⟩⟩;refine zX (I:=I) 16 [(10,fun v=>∃g,v= .slice (some ⟨g,0,none⟩) 1 1),(11,fun v=>∃a n c,v= .slice a n c)] (fun u=>zc W13 u) hI0 (gW _) qu (by kernel_rfl) rfl rfl (by decide) ?hS (by kernel_rfl) ?_
      case hS=>
       intro x hx;simp only[mC,nM,or_false]at hx
       rcases hx with rfl|rfl
       ·exact⟨_,0,rfl⟩
       exact⟨_,none,0,0,rfl⟩
      simp only[List.take,List.drop];iterate 2 (refine zi rfl rfl rfl (fun K hK=>?_);go_big_quiet_op;refine hK _ ?_;clear hK)
      refine zY (.tmp 139) ⟨b,0,none⟩ rfl rfl rfl rfl ?_;simp only[Act.put,sB,sS,sZ];iterate 7 (refine zi rfl rfl rfl (fun K hK=>?_);go_big_quiet_op;refine hK _ ?_;clear hK)
      refine qI rfl rfl (fun v u=>zc W13 u/\∃g,v= .slice (some ⟨g,0,none⟩) 1 1/\jp u ⟨g,0,none⟩ (ptc ((n:Int),[p0,p1,p2,p3,p4,p5,p6,p7]))) (fun w' hI' hF'=>?_) (fun v1 hv=>?_)
      ·exact zP.step (v:= .slice (some ⟨w'.heap.size,0,none⟩) 1 1) (w':=w'.alloc (.cells #[I6 (n:Int),U8 p0,U8 p1,U8 p2,U8 p3,U8 p4,U8 p5,U8 p6,U8 p7] 91)) (by simp only[execOp];go_simp) ⟨(HI _).2 ⟨((HI _).1 hI').1.grew (za _ _),((HI _).1 hI').2.grew (za _ _)⟩,⟨_,rfl⟩,hF'.trans (za _ _),_,rfl,jp.top w' (ptc ((n:Int),[p0,p1,p2,p3,p4,p5,p6,p7])) _ rfl⟩
      obtain⟨g5,rfl⟩:=hv;simp only[Act.put,sB,sS,sZ];refine qI rfl rfl (fun v u=>∃u0,zc W13 u0/\u0.grownBy u (sd6.x).ownBlock/\z8 w.heap.size u v (dq6++ [((n:Int),[p0,p1,p2,p3,p4,p5,p6,p7])])) (fun w' hI' hF'=>?_) (fun v1 hv=>?_)
      ·obtain⟨hg',g,hge,hcl⟩:=hF';have hge':g5=g:=by
        simp only[vJ,Option.some.injEq,Addr.mk.injEq]at hge;exact hge.1.1
       subst hge';obtain⟨v',w2,hrun,ho,hgr⟩:=zcw (w:=w') 31 (HDQ.grew hg') g5 ((n:Int),[p0,p1,p2,p3,p4,p5,p6,p7]) rfl hcl HQL (nT (bS F13.mm.gr) (bS hg'));obtain⟨a',n',c',rfl⟩:=ho.slice;have hbx:I w2:=by
        cases hob:(sd6.x).ownBlock with
        | none=>
         rw[hob]at hgr;exact(HI _).2 ⟨((HI _).1 hI').1.grew (qx hgr),((HI _).1 hI').2.grew (qx hgr)⟩
        | some gq=>
         rw[hob]at hgr;obtain⟨-,cs,hc⟩:=J9 (HDQ.grew hg') hob;exact(HI _).2 ⟨((HI _).1 hI').1.kind hgr hc (by decide),((HI _).1 hI').2.kind hgr hc (by decide)⟩
       refine zP.step (v:= .slice a' n' c') (w':=w2) ?_ ⟨hbx,⟨a',n',c',rfl⟩,w',hg',hgr,ho⟩;simp only[execOp,resolve,invoke,builtin,pure_bind,Sem.run_bind,Sem.run_pure,List.map_toArray,mP,List.map_nil];exact Eq.trans (congrArg (fun r=>Result.andThen r (fun a w'=>Result.ok (Next.value a) w')) hrun) rfl
      obtain⟨da,dn,dc,rfl⟩:=hv;simp only[Act.put,sB,sS,sZ];refine zY (.tmp 138) ⟨b,0,none⟩ rfl rfl rfl rfl ?_;simp only[Act.put,sB,sS,sZ];iterate 3 (refine zi rfl rfl rfl (fun K hK=>?_);go_big_quiet_op;refine hK _ ?_;clear hK)
      refine jd fun W14 hI14 hF14=>?_
      obtain⟨u0,g0,gr14,op14⟩:=hF14;have B14:Hid (zD W14 b 87 [vl13.x,.slice (some ⟨gf,0,none⟩) nf nf,I6 0,.slice (some ⟨gl,0,none⟩) ns ns,.slice (some ⟨gsb,0,none⟩) ns ns,eS,.slice (some ⟨gdb,0,none⟩) nb nb,sd6.x,sf.x,I6 (nb:Int),eS,eS,eS]):=((HI _).1 hI14).1;have R14:Hid (MkR w.heap.size hi W14 ⟨⟨some ⟨gf,0,none⟩,nf,nf⟩,⟨some ⟨gl,0,none⟩,ns,ns⟩,⟨some ⟨gsb,0,none⟩,ns,ns⟩,zj,⟨some ⟨gdb,0,none⟩,nb,nb⟩,⟨da,dn,dc⟩,sf,zj,zj⟩ ⟨List.replicate nf frF,0,List.replicate ns 0,List.replicate ns zm,[],db6.set n [p0,p1,p2,p3,p4,p5,p6,p7],dq6++ [((n:Int),[p0,p1,p2,p3,p4,p5,p6,p7])],fl,nb,[],[]⟩ zj []):=(F13.mm.rows.grew g0).addDq gr14 ⟨da,dn,dc⟩ op14;have hk14:zc w W14/\FlB w.heap.size hi pf W14 ⟨⟨some ⟨gf,0,none⟩,nf,nf⟩,⟨some ⟨gl,0,none⟩,ns,ns⟩,⟨some ⟨gsb,0,none⟩,ns,ns⟩,zj,⟨some ⟨gdb,0,none⟩,nb,nb⟩,sd6,sf,zj,zj⟩ ⟨List.replicate nf frF,0,List.replicate ns 0,List.replicate ns zm,[],db6.set n [p0,p1,p2,p3,p4,p5,p6,p7],dq6,fl,nb,[],[]⟩/\zD W14 pf 71 [I6 sz,bs.x]/\zb blE (pf+1) W14 (bs.x) bl/\zD W14 w.heap.size 40 zM:=by
       cases hob:(sd6.x).ownBlock with
       | none=>
        rw[hob]at gr14;have k:=qx gr14;exact⟨(F13.mm.gr.trans g0).trans k,(F13.fb.grew g0).grew k,(F13.box.grew g0).grew k,(F13.row.grew g0).grew k,(X13.grew g0).grew k⟩
       | some gq=>
        rw[hob]at gr14;obtain⟨hgq,cs,hc⟩:=J9 (HDQ.grew g0) hob;exact⟨ze (F13.mm.gr.trans g0) gr14 hgq,(F13.fb.grew g0).kind gr14 hc (.inl (by decide)) (.inl (by decide)),(F13.box.grew g0).kind gr14 hc (by decide),(F13.row.grew g0).kind gr14 hc (by decide),(X13.grew g0).kind gr14 hc (by decide)⟩
      obtain⟨e1,e2,e3,e4,e5⟩:=hk14;have GW14:Hid (zc w W14):=e1;have FB14:Hid (FlB w.heap.size hi pf W14 ⟨⟨some ⟨gf,0,none⟩,nf,nf⟩,⟨some ⟨gl,0,none⟩,ns,ns⟩,⟨some ⟨gsb,0,none⟩,ns,ns⟩,zj,⟨some ⟨gdb,0,none⟩,nb,nb⟩,sd6,sf,zj,zj⟩ ⟨List.replicate nf frF,0,List.replicate ns 0,List.replicate ns zm,[],db6.set n [p0,p1,p2,p3,p4,p5,p6,p7],dq6,fl,nb,[],[]⟩):=e2;have PF14:Hid (zD W14 pf 71 [I6 sz,bs.x]):=e3;have RW14:Hid (zb blE (pf+1) W14 (bs.x) bl):=e4;have X14:Hid (zD W14 w.heap.size 40 zM):=e5;clear e1 e2 e3 e4 e5 u0 g0 gr14 op14 hI14 hI0 hx7 hne;clear hf0 hf1 hf2 hf3 hf4 hf5 hf6 hf7;obtain⟨W15,hW15⟩:∃W15,W14.setCell ⟨b,7,none⟩ (.slice da dn dc)=W15:=⟨_,rfl⟩;have hg15:W14.grownBy W15 (some b):=by rw[<-hW15];exact qO _ _ _ _
      have M15:Mk w hi W15 b vl13 L13 ⟨⟨some ⟨gf,0,none⟩,nf,nf⟩,⟨some ⟨gl,0,none⟩,ns,ns⟩,⟨some ⟨gsb,0,none⟩,ns,ns⟩,zj,⟨some ⟨gdb,0,none⟩,nb,nb⟩,⟨da,dn,dc⟩,sf,zj,zj⟩ ⟨List.replicate nf frF,0,List.replicate ns 0,List.replicate ns zm,[],db6.set n [p0,p1,p2,p3,p4,p5,p6,p7],dq6++ [((n:Int),[p0,p1,p2,p3,p4,p5,p6,p7])],fl,nb,[],[]⟩ zj []:=⟨ze GW14 hg15 F13.mm.hb,F13.mm.hb,by rw[<-hW15];exact B14.set 7 _,F13.mm.lr,F13.mm.lc,F13.mm.lb,R14.var hg15 B14 hg15.size (.inl rfl)⟩
      have F15:Hid (FC w hi b W15 vl13 L13 ⟨⟨some ⟨gf,0,none⟩,nf,nf⟩,⟨some ⟨gl,0,none⟩,ns,ns⟩,⟨some ⟨gsb,0,none⟩,ns,ns⟩,zj,⟨some ⟨gdb,0,none⟩,nb,nb⟩,⟨da,dn,dc⟩,sf,zj,zj⟩ ⟨List.replicate nf frF,0,List.replicate ns 0,List.replicate ns zm,[],(db6.set n [p0,p1,p2,p3,p4,p5,p6,p7]),(dq6++ [((n:Int),[p0,p1,p2,p3,p4,p5,p6,p7])]),fl,nb,[],[]⟩ pf sz bs bl):=dD<|⟨M15,F13.hp,(FB14.kind hg15 B14 (.inl (by decide)) (.inl (by decide))).as rfl rfl,F13.fn,PF14.kind hg15 B14 (by decide),RW14.kind hg15 B14 (by decide)⟩
      have X15:Hid (zD W15 w.heap.size 40 zM):=X14.kind hg15 B14 (by decide)
      have HW15:Hid (_=W15):=hW15;have x7:=B14.box.c 7 rfl;have xf:=B14.box.f;clear hW15 hg15;go_wp2;rw[HW15.out]
      go_meet
      exact⟨(n:Int),vl13,L13,⟨da,dn,dc⟩,_,_,rfl,rfl,F15,LL13,X15,(show _/\_ from⟨FI.1.block (more:=true) (by rw[FI.2.2];exact hn) HUF.1 HUF.2,HDL⟩)⟩
     have hye:(y == 1)=false:=by simp[hy]
     clear hy;go_wp2
     go_meet
     exact⟨(n:Int),vl13,L13,sd6,_,_,rfl,rfl,F13,LL13,X13,(show _/\_ from⟨FI.1.block (more:=false) (by rw[FI.2.2];exact hn) HUF.1 HUF.2,HDL⟩)⟩
   obtain⟨bx,vl9,L9,sd9,db9,dq9,rfl,rfl,F9,LL9,X9,FI9⟩:=hcut;have y1:=F9.box.box.c 1 rfl;have HBL:Hid (bl.length=k3):=dD<|FI.2.1
   have HSW:Hid (pf+1<=wc.heap.size):=F9.box.box.lt
   go_wp2_with (at_builtin;refine zw (E:=blE) rfl (.tmp 155) (.tmp 157) rfl (pf+1) _ bl rfl (F9.row.grew (za _ _)) _ [bx] rfl (jV blE wc bx _ _ rfl (by decide)) ?qb ?qc ?_)
   case qb=>
    rw[HBL.out]
    show(k3+1)*8<=_
    omega
   case qc=>exact nT HSW (bS (za _ _))
   intro v4 W14 ow4 gr4;obtain⟨a4,c4,rfl⟩:=ow4.form;obtain⟨N4,hN4⟩:∃N4,(bl++ [bx]).length=N4:=⟨_,rfl⟩;rw[hN4]at ow4⊢;clear hN4;obtain⟨WX,hWX⟩:∃WX,wc.alloc (.cells #[I6 bx] 3)=WX:=⟨_,rfl⟩;have gX:=gP hWX
   have gr4':WX.grownBy W14 (bs.x).ownBlock:=by rw[<-hWX];exact gr4
   clear gr4 hWX;obtain⟨b14,k14,f14⟩:=(F9.grew gX).addB gr4' ⟨a4,N4,c4⟩ ow4;have F14:Hid (FC w hi b (W14.setCell ⟨pf,1,none⟩ (.slice a4 N4 c4)) vl9 L9 ⟨⟨some ⟨gf,0,none⟩,nf,nf⟩,⟨some ⟨gl,0,none⟩,ns,ns⟩,⟨some ⟨gsb,0,none⟩,ns,ns⟩,zj,⟨some ⟨gdb,0,none⟩,nb,nb⟩,sd9,sf,zj,zj⟩ ⟨List.replicate nf frF,0,List.replicate ns 0,List.replicate ns zm,[],db9,dq9,fl,nb,[],[]⟩ pf sz ⟨a4,N4,c4⟩ (bl++ [bx])):=f14;have X14:Hid (zD (W14.setCell ⟨pf,1,none⟩ (.slice a4 N4 c4)) w.heap.size 40 zM):=k14 _ _ _ (by decide) (by decide) (X9.grew gX)
   have B14:Hid (zD W14 pf 71 [I6 sz,bs.x]):=b14;clear b14 k14 f14 gr4' ow4 gX y1;have y1:=B14.box.c 1 rfl;have yf:=B14.box.f;go_wp2
   go_roundg (N3 -(k3+1))
   case measure=>omega
   exact⟨k3+1,vl9,L9,sd9,⟨a4,N4,c4⟩,db9,dq9,bl++ [bx],by omega,by omega,by go_num,F14,LL9,X14,(show _/\_ from⟨FI9.1,by rw[lA,HBL.out];rfl,FI9.2⟩)⟩
  have hltz3:¬(k3:Int)< (N3:Int):=by omega
  obtain rfl:k3=N3:=by omega
  go_upto_region 31 with fail;obtain⟨xs,q1,q2,q3⟩:=FX.fb;have HX:Hid (zb fvE w.heap.size wr (sf.x) xs):=q1;have HXL:Hid (xs.length=fl.length):=show _=_ from q2
  have HX3:Hid (∀(i:Nat) x f,xs[i]? =some x->fl[i]? =some f->x.size=f.size/\zb blE hi wr x.v f.bl):=dD<|fun i x f hx hf=>(q3 i x f hx hf).1
  clear q1 q2 q3;obtain⟨fx,HFX⟩:∃fx:FlV,Hid (fx=⟨sz,bs.a,bs.n,bs.c⟩):=⟨_,rfl⟩;obtain⟨I,HI⟩:∃I:World->Prop,Hid (∀u,I u↔zD u b 87 [vl6.x,.slice (some ⟨gf,0,none⟩) nf nf,I6 0,.slice (some ⟨gl,0,none⟩) ns ns,.slice (some ⟨gsb,0,none⟩) ns ns,eS,.slice (some ⟨gdb,0,none⟩) nb nb,sd6.x,sf.x,I6 (nb:Int),eS,eS,eS]/\zD u pf 71 [I6 sz,bs.x]):=⟨fun u=>zD u b 87 [vl6.x,.slice (some ⟨gf,0,none⟩) nf nf,I6 0,.slice (some ⟨gl,0,none⟩) ns ns,.slice (some ⟨gsb,0,none⟩) ns ns,eS,.slice (some ⟨gdb,0,none⟩) nb nb,sd6.x,sf.x,I6 (nb:Int),eS,eS,eS]/\zD u pf 71 [I6 sz,bs.x],fun _=>Iff.rfl⟩
  have hI0:I wr.drew:=(HI _).2 ⟨FX.mm.box.grew (gW _),FX.box.grew (gW _)⟩
  have hx8:∀y:zk I,y.world.cell? ⟨b,8,none⟩=some (sf.x):=fun y=>((HI _).1 y.holds).1.box.c 8 rfl
  have hp0:∀y:zk I,y.world.cell? ⟨pf,0,none⟩=some (I6 sz):=fun y=>((HI _).1 y.holds).2.box.c 0 rfl
  have hp1:∀y:zk I,y.world.cell? ⟨pf,1,none⟩=some (bs.x):=fun y=>((HI _).1 y.holds).2.box.c 1 rfl
  have hne:Nonempty (zk I):=⟨⟨_,hI0⟩⟩;refine zX (I:=I) 14 [(8,fun v=>∃g,v= .slice (some ⟨g,0,none⟩) 1 1),(9,fun v=>∃a n c,v= .slice a n c)] (fun u=>zc wr u) hI0 (gW _) qu (by kernel_rfl) rfl rfl (by decide) ?hS (by kernel_rfl) ?_
  case hS=>
   intro x hx;simp only[mC,nM,or_false]at hx
   rcases hx with rfl|rfl
   ·exact⟨_,0,rfl⟩
   exact⟨_,none,0,0,rfl⟩
  simp only[List.take,List.drop];iterate 2 (refine zi rfl rfl rfl (fun K hK=>?_);go_big_quiet_op;refine hK _ ?_;clear hK)
  refine zY (.tmp 162) ⟨b,0,none⟩ rfl rfl rfl rfl ?_;simp only[Act.put,sB,sS,sZ];iterate 5 (refine zi rfl rfl rfl (fun K hK=>?_);go_big_quiet_op;refine hK _ ?_;clear hK)
  refine qI rfl rfl (fun v u=>zc wr u/\zr fvE u v [fx]) (fun w' hI' hF'=>?_) (fun v1 hv=>?_)
  ·exact zP.step (v:= .slice (some ⟨w'.heap.size,0,none⟩) 1 1) (w':=w'.alloc (.cells #[I6 sz,bs.x] 71)) (by simp only[execOp];go_simp) ⟨(HI _).2 ⟨((HI _).1 hI').1.grew (za _ _),((HI _).1 hI').2.grew (za _ _)⟩,⟨_,rfl⟩,hF'.trans (za _ _),jV fvE w' fx _ _ (by rw[HFX.out];rfl) (by decide)⟩
  obtain⟨g5,rfl⟩:=hv;simp only[Act.put,sB,sS,sZ];refine qI rfl rfl (fun v u=>∃u0,zc wr u0/\u0.grownBy u (sf.x).ownBlock/\zb fvE w.heap.size u v (xs++ [fx])) (fun w' hI' hF'=>?_) (fun v1 hv=>?_)
  ·obtain⟨hg',hrw⟩:=hF';obtain⟨v',w2,hrun,ho,hgr,-⟩:=qp (E:=fvE) (w:=w') 34 (HX.grew hg') (.slice (some ⟨g5,0,none⟩) 1 1) [fx] hrw (by have:=HXL.out;have:=HFL.out;rw[HXL.out];show(fl.length+1)*32<=_;omega) (nT (bS FX.mm.gr) (bS hg'))
   obtain⟨a',c',rfl⟩:=ho.form;have hbx:I w2:=by
    cases hob:(sf.x).ownBlock with
    | none=>
     rw[hob]at hgr;exact(HI _).2 ⟨((HI _).1 hI').1.grew (qx hgr),((HI _).1 hI').2.grew (qx hgr)⟩
    | some gq=>
     rw[hob]at hgr;obtain⟨cs,hc⟩:=(HX.grew hg').obj hob;have hlt:=FX.fn gq hob;exact(HI _).2 ⟨((HI _).1 hI').1.kind hgr hc (by decide),((HI _).1 hI').2.beside hgr (fun k e=>by cases e;omega)⟩
   refine zP.step (v:= .slice a' (xs++ [fx]).length c') (w':=w2) ?_ ⟨hbx,⟨a',_,c',rfl⟩,w',hg',hgr,ho⟩;simp only[execOp,resolve,invoke,builtin,pure_bind,Sem.run_bind,Sem.run_pure,List.map_toArray,mP,List.map_nil];exact Eq.trans (congrArg (fun r=>Result.andThen r (fun a w'=>Result.ok (Next.value a) w')) hrun) rfl
  obtain⟨fa,fn,fc,rfl⟩:=hv;simp only[Act.put,sB,sS,sZ];refine zY (.tmp 161) ⟨b,0,none⟩ rfl rfl rfl rfl ?_;simp only[Act.put,sB,sS,sZ];iterate 3 (refine zi rfl rfl rfl (fun K hK=>?_);go_big_quiet_op;refine hK _ ?_;clear hK)
  refine jd fun W14 hI14 hF14=>?_
  obtain⟨u0,g0,gr14,op14⟩:=hF14;have B14:Hid (zD W14 b 87 [vl6.x,.slice (some ⟨gf,0,none⟩) nf nf,I6 0,.slice (some ⟨gl,0,none⟩) ns ns,.slice (some ⟨gsb,0,none⟩) ns ns,eS,.slice (some ⟨gdb,0,none⟩) nb nb,sd6.x,sf.x,I6 (nb:Int),eS,eS,eS]):=((HI _).1 hI14).1;have R14:Hid (MkR w.heap.size hi W14 ⟨⟨some ⟨gf,0,none⟩,nf,nf⟩,⟨some ⟨gl,0,none⟩,ns,ns⟩,⟨some ⟨gsb,0,none⟩,ns,ns⟩,zj,⟨some ⟨gdb,0,none⟩,nb,nb⟩,sd6,⟨fa,fn,fc⟩,zj,zj⟩ ⟨List.replicate nf frF,0,List.replicate ns 0,List.replicate ns zm,[],db6,dq6,fl++ [⟨sz,bl⟩],nb,[],[]⟩ zj []):=(FX.mm.rows.grew g0).addFl (HX.grew g0) HXL (fun i x f hx hf=>⟨(HX3 i x f hx hf).1,(HX3 i x f hx hf).2.grew g0⟩) gr14 ⟨fa,fn,fc⟩ (x:=fx) (f:=⟨sz,bl⟩) (by rw[HFX.out]) (by rw[HFX.out];exact(FX.row.grew g0).base (by have:=FX.hp;omega)) op14
  have hk14:zc w W14/\zD W14 w.heap.size 40 zM:=by
   cases hob:(sf.x).ownBlock with
   | none=>
    rw[hob]at gr14;exact⟨(FX.mm.gr.trans g0).trans (qx gr14),(XX.grew g0).grew (qx gr14)⟩
   | some gq=>
    rw[hob]at gr14;obtain⟨cs,hc⟩:=(HX.grew g0).obj hob;exact⟨ze (FX.mm.gr.trans g0) gr14 ((HX.grew g0).lt gq hob).1,(XX.grew g0).kind gr14 hc (by decide)⟩
  obtain⟨e1,e5⟩:=hk14;have hg15:=qO W14 b 8 (.slice fa fn fc);have M15:Hid (Mk w hi (W14.setCell ⟨b,8,none⟩ (.slice fa fn fc)) b vl6 L6 ⟨⟨some ⟨gf,0,none⟩,nf,nf⟩,⟨some ⟨gl,0,none⟩,ns,ns⟩,⟨some ⟨gsb,0,none⟩,ns,ns⟩,zj,⟨some ⟨gdb,0,none⟩,nb,nb⟩,sd6,⟨fa,fn,fc⟩,zj,zj⟩ ⟨List.replicate nf frF,0,List.replicate ns 0,List.replicate ns zm,[],db6,dq6,fl++ [⟨sz,bl⟩],nb,[],[]⟩ zj []):=dD<|⟨ze e1 hg15 FX.mm.hb,FX.mm.hb,B14.set 8 _,FX.mm.lr,FX.mm.lc,FX.mm.lb,R14.var hg15 B14 hg15.size (.inl rfl)⟩
  have X15:Hid (zD (W14.setCell ⟨b,8,none⟩ (.slice fa fn fc)) w.heap.size 40 zM):=e5.kind hg15 B14 (by decide)
  have FI15:Hid (zdN (fl++ [⟨sz,bl⟩]) nb db6 dq6 []/\(fl++ [(⟨sz,bl⟩:Fl)]).length<=k2+1/\db6.length=nb/\∀f∈fl++ [(⟨sz,bl⟩:Fl)],f.size<40):=dD<|⟨FI.1.file (by have:=HFL.out;omega) (by have:=HSZ.out;omega) (by rw[FI.2.1,HN3.out]),by have:=HFL.out;simp;omega,FI.2.2,fun f hf=>by
   rcases List.mem_append.1 hf with hf|hf
   ·exact HF40 f hf
   simp only[mC,nM,or_false]at hf;rw[hf];exact HSZ.2⟩
  clear u0 g0 gr14 op14 e1 e5 hg15 hI14 hI0 hx8 hp0 hp1 hne;have x8:=B14.box.c 8 rfl;have xf:=B14.box.f;go_wp2
  go_roundg (c -(k2+1))
  case measure=>omega
  exact⟨k2+1,vl6,L6,sd6,⟨fa,fn,fc⟩,db6,dq6,fl++ [(⟨sz,bl⟩:Fl)],by omega,by omega,by go_num,M15,LX,X15,FI15,(fun h=>absurd h (Nat.succ_ne_zero _))⟩
 have hltz2:¬(k2:Int)< (c:Int):=by omega
 have BI:Hid (ja ⟨List.replicate nf frF,0,List.replicate ns 0,List.replicate ns zm,[],db,dq,fl,nb,[],[]⟩ []):=FW.1.start hnf40 hns60 0;have HFL2:Hid (fl.length<=2/\∀f∈fl,f.size<40):=show _/\_ from⟨by have:=FW.2.1;omega,FW.2.2.2⟩
 have HE0:Hid (L=[]->fl=[]/\dq=[]/\db=List.replicate nb zm):=dD<|fun e=>ZW.out (by have:=HC0.out e;omega)
 have hpk3:=qB 2 MW.out;go_wp2_with fail;refine hpk3.mono ?_;clear hpk3;rintro e W4 ⟨vl4,L4,y,rfl,mk4,gr4,-,s0,s1,s2,ll4⟩;obtain⟨n5,hn5⟩:∃n5:Nat,1+y=(n5:Int):=⟨(1+y).toNat,by omega⟩
 have hn52:n5<=2:=by rcases s1 with h | h <;> omega
 have hn51:1<=n5:=by omega
 have HN1:Hid (L=[]->n5=1):=dD<|fun e=>by have:=s2 (LW e);omega
 have M4:Hid (Mk w hi W4 b vl4 L4 ⟨⟨some ⟨gf,0,none⟩,nf,nf⟩,⟨some ⟨gl,0,none⟩,ns,ns⟩,⟨some ⟨gsb,0,none⟩,ns,ns⟩,zj,⟨some ⟨gdb,0,none⟩,nb,nb⟩,sd,sf,zj,zj⟩ ⟨List.replicate nf frF,0,List.replicate ns 0,List.replicate ns zm,[],db,dq,fl,nb,[],[]⟩ zj []):=mk4;have X4:Hid (zD W4 w.heap.size 40 zM):=XW.beside gr4 (fun g e=>by cases e;have:=HBB.out;omega)
 have LL4:=dD (LW.trans ll4);clear mk4 gr4 ll4 s0 s1 s2;go_wp2
 go_loopg [179] n5 (fun gg s179 wr=>∃(k5:Nat) (vl':Sli) (L':List Int) (V':MaV) (m':Ma) (vt':Sli) (T':List (Nat->En)),k5<=n5/\n5 - k5<=gg/\s179=I6 k5/\Hid (Mk w hi wr b vl' L' V' m' vt' T')/\Hid (ZX L L')/\Hid (zD wr w.heap.size 40 zM)/\Hid (ja m' T')/\Hid (m'.sp.length=k5/\(∀s∈m'.sp,qW m'.fl.length s.ars/\j3 s.ars 64<=12)/\m'.hand=0/\m'.fs.length=nf/\(m'.fl.length<=2/\∀f∈m'.fl,f.size<40))/\Hid (L=[]->m'=zfu nf ns nb k5/\T'=List.replicate k5 (fun _=>en0)))
 case atStart=>exact⟨0,vl4,L4,_,_,_,_,nZ _,by omega,rfl,M4,LL4,X4,BI,(show _/\_ from⟨rfl,fun s hs=>(by cases hs),rfl,lR,HFL2⟩),(show _->_ from fun e=>by obtain⟨a1,a2,a3⟩:=HE0.out e;rw[a1,a2,a3];exact⟨rfl,rfl⟩)⟩
 obtain⟨k5,vl5,L5,V5,m5,vt5,T5,hk5,hg5,rfl,MX,LX,XX,BX5,S5,E5⟩:=hrel;have HL5:Hid (m5.sp.length=k5):=S5.1
 by_cases hlt5:k5<n5
 ·have hltz5:(k5:Int)< (n5:Int):=by omega
  by_cases h1:k5=1
  ·subst h1;have HL1:Hid (L≠[]):=dD<|fun e=>by have:=HN1.out e;omega
   have h1e:((((1:Nat):Int)) == 1)=true:=by decide
   have hpk4:=qB 2 MX.out;go_wp2_with fail;refine hpk4.mono ?_;clear hpk4;rintro e W7 ⟨vl7,L7,z,rfl,mk7,gr7,-,-,-,-,ll7⟩;have M7:Hid (Mk w hi W7 b vl7 L7 V5 m5 vt5 T5):=mk7;have X7:Hid (zD W7 w.heap.size 40 zM):=XX.beside gr7 (fun g e=>by cases e;have:=HBB.out;omega)
   have LL7:=dD (LX.trans ll7);clear mk7 gr7 ll7;obtain⟨MX,LX,XX⟩:Hid (Mk w hi W7 b vl7 L7 V5 m5 vt5 T5)/\Hid (ZX L L7)/\Hid (zD W7 w.heap.size 40 zM):=⟨M7,LL7,X7⟩
   by_cases hz:z=1
   ·have hze:(z == 1)=true:=by simp[hz]
    clear hz;obtain⟨s0,hs0⟩:=List.length_eq_one_iff.1 HL5.out;have HS0:Hid (m5.sp=[s0]):=hs0;clear hs0;have hfk:=zjL s0 MX BX5 HS0.out;go_wp2_with fail;refine hfk.mono ?_;clear hfk;rintro e W9 ⟨⟨v,rfl⟩,V9,m9,vt9,T9,q1,q3,q4,⟨q5,q6,q7,q8⟩⟩;have M9:Hid (Mk w hi W9 b vl7 L7 V9 m9 vt9 T9):=q1;have X9:Hid (zD W9 w.heap.size 40 zM):=q3.1 _ _ _ XX zdq;have B9:Hid (ja m9 T9):=q4;have S9:Hid (m9.sp.length=1+1/\(∀s∈m9.sp,qW m9.fl.length s.ars/\j3 s.ars 64<=12)/\m9.hand=0/\m9.fs.length=nf/\(m9.fl.length<=2/\∀f∈m9.fl,f.size<40)):=show _/\_ from⟨by rw[q5,HS0.out];rfl,fun s hs=>by
     rw[q5]at hs;rw[q6]
     rcases List.mem_append.1 hs with hs|hs
     ·exact S5.2.1 s hs
     simp only[mC,nM,or_false]at hs;rw[hs];exact S5.2.1 s0 (by rw[HS0.out];simp),q7.trans S5.2.2.1,q8.trans S5.2.2.2.1,by rw[q6];exact S5.2.2.2.2⟩
    have E9:Hid (L=[]->m9=zfu nf ns nb (1+1)/\T9=List.replicate (1+1) (fun _=>en0)):=dD<|fun e=>absurd e HL1.out
    clear q1 q3 q4 q5 q6 q7 q8;go_wp2
    go_roundg (n5 -(1+1))
    case measure=>omega
    exact⟨1+1,vl7,L7,V9,m9,vt9,T9,by omega,by omega,by go_num,M9,LX,X9,B9,S9,E9⟩
   have hze:(z == 1)=false:=by simp[hz]
   clear hz;have hsp:=zd1 MX BX5 (by rw[HL5.out];omega)
   go_wp2_with fail;refine hsp.mono ?_;clear hsp;rintro e W9 ⟨⟨v,rfl⟩,vl9,L9,V9,m9,vt9,T9,l9,q1,q2,q3,q4,⟨q5,q6,q7,q8⟩,q9,q10⟩;have M9:Hid (Mk w hi W9 b vl9 L9 V9 m9 vt9 T9):=q1;have LL9:=dD (LX.trans q2);have X9:Hid (zD W9 w.heap.size 40 zM):=q3.1 _ _ _ XX zdq;have B9:Hid (ja m9 T9):=q4;have S9:Hid (m9.sp.length=1+1/\(∀s∈m9.sp,qW m9.fl.length s.ars/\j3 s.ars 64<=12)/\m9.hand=0/\m9.fs.length=nf/\(m9.fl.length<=2/\∀f∈m9.fl,f.size<40)):=show _/\_ from⟨by rw[q5,lA,HL5.out];rfl,fun s hs=>by
    rw[q5]at hs;rw[q6]
    rcases List.mem_append.1 hs with hs|hs
    ·exact S5.2.1 s hs
    simp only[mC,nM,or_false]at hs;rw[hs];exact q9,q7.trans S5.2.2.1,q8.trans S5.2.2.2.1,by rw[q6];exact S5.2.2.2.2⟩
   have E9:Hid (L=[]->m9=zfu nf ns nb (1+1)/\T9=List.replicate (1+1) (fun _=>en0)):=dD<|fun e=>absurd e HL1.out
   clear q1 q2 q3 q4 q5 q6 q7 q8 q9 q10;go_wp2
   go_roundg (n5 -(1+1))
   case measure=>omega
   exact⟨1+1,vl9,L9,V9,m9,vt9,T9,by omega,by omega,by go_num,M9,LL9,X9,B9,S9,E9⟩
  obtain rfl:k5=0:=by omega
  have h1e:((((0:Nat):Int)) == 1)=false:=by decide
  have hsp:=zd1 MX BX5 (by rw[HL5.out];omega)
  go_wp2_with fail;refine hsp.mono ?_;clear hsp;rintro e W9 ⟨⟨v,rfl⟩,vl9,L9,V9,m9,vt9,T9,l9,q1,q2,q3,q4,⟨q5,q6,q7,q8⟩,q9,q10⟩;have M9:Hid (Mk w hi W9 b vl9 L9 V9 m9 vt9 T9):=q1;have LL9:=dD (LX.trans q2);have X9:Hid (zD W9 w.heap.size 40 zM):=q3.1 _ _ _ XX zdq;have B9:Hid (ja m9 T9):=q4;have S9:Hid (m9.sp.length=0+1/\(∀s∈m9.sp,qW m9.fl.length s.ars/\j3 s.ars 64<=12)/\m9.hand=0/\m9.fs.length=nf/\(m9.fl.length<=2/\∀f∈m9.fl,f.size<40)):=show _/\_ from⟨by rw[q5,lA,HL5.out];rfl,fun s hs=>by
   rw[q5]at hs;rw[q6]
   rcases List.mem_append.1 hs with hs|hs
   ·exact S5.2.1 s hs
   simp only[mC,nM,or_false]at hs;rw[hs];exact q9,q7.trans S5.2.2.1,q8.trans S5.2.2.2.1,by rw[q6];exact S5.2.2.2.2⟩
  have E9:Hid (L=[]->m9=zfu nf ns nb (0+1)/\T9=List.replicate (0+1) (fun _=>en0)):=dD<|fun e=>by
   obtain⟨a1,a2⟩:=q10 (LX e);obtain⟨b1,b2⟩:=E5.out e;rw[b1]at a1;rw[b2]at a2;exact⟨a1,a2⟩
  clear q1 q2 q3 q4 q5 q6 q7 q8 q9 q10;go_wp2
  go_roundg (n5 -(0+1))
  case measure=>omega
  exact⟨0+1,vl9,L9,V9,m9,vt9,T9,by omega,by omega,by go_num,M9,LL9,X9,B9,S9,E9⟩
 have hltz5:¬(k5:Int)< (n5:Int):=by omega
 obtain⟨ys0,z1,z2,-⟩:=MX.rows.sp;have HN5:Hid (V5.sp.n=k5):=dD<|by rw[z1.n,z2,HL5.out]
 obtain⟨ht,HHT⟩:∃ht,Hid (wr.heap.size=ht):=⟨_,rfl⟩;have HBT:Hid (b<ht):=dD<|by rw[<-HHT.out];exact MX.box.box.lt
 have HXT:Hid (w.heap.size<ht):=dD<|by rw[<-HHT.out];exact XX.box.lt
 have HZ1:Hid (∀g,(V5.sp.x).ownBlock=some g->g<ht):=dD<|fun g hg=>by rw[<-HHT.out];exact(z1.lt g hg).2
 have NX:Hid (ziV w wr b vl5 L5 [V5.f.x,I6 m5.hand,V5.s.x,V5.sb.x,V5.sq.x,V5.db.x,V5.dq.x,V5.fl.x,I6 m5.cnt,V5.ca.x,V5.sp.x,vt5.x]):=MX.nums;have TX:Hid (MkT w.heap.size hi ht 0 wr V5 m5 vt5 T5):=MX.rows.start ht HHT.out;have HTL:Hid (T5.length=k5):=show _=_ by rw[BX5.tl,HL5.out]
 have HK:Hid (∀(p:Nat) f,T5[p]? =some f->∀e∈tab f,0<=e.kind):=dD<|fun p f hf e he=>by
  obtain⟨j,hj⟩:=List.getElem?_of_mem he;have hj64:j<64:=by have:=(gS.1 hj).1;rw[Qj]at this;exact this
  rw[QZ hj64]at hj;cases hj;have hp:p<m5.sp.length:=by rw[<-BX5.tl];exact(gS.1 hf).1
  rcases BX5.ent p _ f (gE hp) hf j hj64 with e|e
  ·rw[e];decide
  by_cases hk:(f j).kind=2
  ·omega
  have:=(qS e hk).1;omega
 have x11:=MX.box.box.c 11 rfl;(try simp only[Sli.x]at x11);rw[HN5.out]at x11;clear z1 z2 ys0;go_wp2;clear x11
 go_loopg [200] k5 (fun gg s200 wr=>∃p:Nat,p<=k5/\k5 - p<=gg/\s200=I6 p/\Hid (MkT w.heap.size hi ht p wr V5 m5 vt5 T5)/\Hid (ziV w wr b vl5 L5 [V5.f.x,I6 m5.hand,V5.s.x,V5.sb.x,V5.sq.x,V5.db.x,V5.dq.x,V5.fl.x,I6 m5.cnt,V5.ca.x,V5.sp.x,vt5.x])/\Hid (zD wr w.heap.size 40 zM)/\Hid (ht<=wr.heap.size))
 case atStart=>exact⟨0,nZ _,by omega,rfl,TX,NX,XX,(show _<=_ by rw[HHT.out];exact nR _)⟩
 obtain⟨p,hp,hg6,rfl,TW,NW,XW,HW⟩:=hrel
 by_cases hlt6:p<k5
 ·have hltz6:(p:Int)< (k5:Int):=by omega
  obtain⟨f,HF⟩:∃f,Hid (T5[p]? =some f):=⟨_,gE (by rw[HTL.out];exact hlt6)⟩
  obtain⟨ys,s1,s2,s3⟩:=TW.sp;have hyl:ys.length=k5:=by rw[s2,HL5.out]
  obtain⟨x,HX⟩:∃x,Hid (ys[p]? =some x):=⟨_,gE (by omega)⟩
  obtain⟨gs,cs,hse⟩:=s1.formS (by omega)
  rw[hyl]at hse;have HSE:Hid (V5.sp.x=(.slice (some ⟨gs,0,none⟩) k5 cs)):=hse;obtain⟨gt,ct,hte⟩:=TW.tt.formS (by rw[HTL.out];omega)
  rw[HTL.out]at hte;have HTE:Hid (vt5.x=(.slice (some ⟨gt,0,none⟩) k5 ct)):=hte;have S1:Hid (zb jQ w.heap.size wr (.slice (some ⟨gs,0,none⟩) k5 cs) ys):=show zb _ _ _ _ _ by rw[<-HSE.out];exact s1
  have R1:Hid (zb QC w.heap.size wr (.slice (some ⟨gt,0,none⟩) k5 ct) T5):=dD<|by rw[<-HTE.out];exact TW.tt
  have S2:Hid (ys.length=m5.sp.length):=s2;have S3:Hid (∀(i:Nat) x s f,ys[i]? =some x->m5.sp[i]? =some s->T5[i]? =some f->x.live=s.live/\zb arE w.heap.size wr x.ar.v s.ars/\(i<p->Jg 0 ht wr x.tab (ZH f))/\(p<=i->x.tab=zav)):=show∀i,_ from s3
  clear s1 s2 s3 hse hte hyl;go_upto_region 43 with fail;obtain⟨I,HI⟩:∃I:World->Prop,Hid (∀u,I u↔zc wr u):=⟨fun u=>zc wr u,fun _=>Iff.rfl⟩
  have hI0:I wr.drew:=(HI _).2 (gW _)
  have hx11:∀y:zk I,y.world.cell? ⟨b,11,none⟩=some (.slice (some ⟨gs,0,none⟩) k5 cs):=fun y=>by
   have:=(NW.box.box.grew ((HI _).1 y.holds)).c 11 rfl;rw[HSE.out]at this;exact this
  have hx12:∀y:zk I,y.world.cell? ⟨b,12,none⟩=some (.slice (some ⟨gt,0,none⟩) k5 ct):=fun y=>by
   have:=(NW.box.box.grew ((HI _).1 y.holds)).c 12 rfl;rw[HTE.out]at this;exact this
  have hne:Nonempty (zk I):=⟨⟨_,hI0⟩⟩;refine zX (I:=I) 16 [(13,fun v=>∃us:List Value,v= .agg us.toArray)] (fun _=>True) hI0 trivial qu (by kernel_rfl) rfl rfl (by decide) ?hS (by kernel_rfl) ?_
  case hS=>
   intro x hx;simp only[mC,nM,or_false]at hx;subst hx;exact⟨_,[],rfl⟩
  simp only[List.take,List.drop];iterate 1 (refine zi rfl rfl rfl (fun K hK=>?_);go_big_quiet_op;refine hK _ ?_;clear hK)
  refine zY (.tmp 203) ⟨b,0,none⟩ rfl rfl rfl rfl ?_;simp only[Act.put,sB,sS,sZ];iterate 5 (refine zi rfl rfl rfl (fun K hK=>?_);go_big_quiet_op;refine hK _ ?_;clear hK)
  refine zY (.tmp 209) ⟨b,0,none⟩ rfl rfl rfl rfl ?_;simp only[Act.put,sB,sS,sZ];iterate 4 (refine zi rfl rfl rfl (fun K hK=>?_);go_big_quiet_op;refine hK _ ?_;clear hK)
  refine zjz (.agg (qk (tab f)).toArray) rfl rfl (fun u hu=>zfi (.tmp 214) rfl gt (p*192) rfl ((R1.grew ((HI _).1 hu)).range HF) (by rw[ZE,Qj])) ?_
  simp only[Act.put,sB,sS,sZ];refine qI rfl rfl (fun v u=>∃us:List Value,v= .agg us.toArray/\Jg 0 ht u us (ZH f)) (fun w' hI' _=>?_) (fun v1 hv=>?_)
  ·refine zP.call [.agg (qk (tab f)).toArray] rfl func33 rfl rfl rfl ?_;refine(zfb (tab f) w' (Qj f) (HK p f HF)).mono ?_;rintro e w'' ⟨us,rfl,ht1,ht2⟩;exact⟨_,rfl,(HI _).2 (((HI _).1 hI').trans ht2),⟨us,rfl⟩,us,rfl,ht1.less (nR _) (nT HW (bS ((HI _).1 hI')))⟩
  obtain⟨us,rfl⟩:=hv;simp only[Act.put,sB,sS,sZ];iterate 2 (refine zi rfl rfl rfl (fun K hK=>?_);go_big_quiet_op;refine hK _ ?_;clear hK)
  refine jd fun W1 hI1 hF1=>?_
  obtain⟨us',hus,ht1⟩:=hF1;have hue:us=us':=by
   simp only[Value.agg.injEq]at hus
   simpa using congrArg Array.toList hus
  subst hue;obtain⟨t0,t1,t2,t3,t4,t5,t6,t7,rfl⟩:=zhF ht1;have g1:=(HI _).1 hI1;have T1:Hid (Jg 0 ht W1 [t0.v,t1.v,t2.v,t3.v,t4.v,t5.v,t6.v,t7.v] (ZH f)):=ht1;have G1:Hid (zc wr W1):=g1;clear hus ht1 g1 hI1 hI0 hx11 hx12 hne;refine zB (E:=jQ) rfl (.tmp 218) (.tmp 216) 63 rfl w.heap.size _ ys (S1.grew G1) gs p 2 rfl x ⟨x.live,x.ar,t0,t1,t2,t3,t4,t5,t6,t7⟩ HX.out [t0.v,t1.v,t2.v,t3.v,t4.v,t5.v,t6.v,t7.v] (by kernel_rfl) rfl (by show 2+8<=10;omega) (fun u hu=>by simp only[mC,nM,or_false]at hu;rcases hu with rfl | rfl | rfl | rfl | rfl | rfl | rfl | rfl <;> rfl) _ rfl (by first | rfl | simp) _ rfl rfl ?_
  intro W2 ow2 gr2 sz2;obtain⟨cs',hcs⟩:=(S1.grew G1).obj (g:=gs) rfl;have hgl:gs<ht:=HZ1.out gs (by rw[HSE.out];rfl)
  have T2:Hid (MkT w.heap.size hi ht (p+1) W2 V5 m5 vt5 T5):=(TW.grew G1).table S2 (fun i x s f hx hs hf=>by
   obtain⟨a1,a2,a3,a4⟩:=S3.out i x s f hx hs hf;exact⟨a1,a2.grew G1,fun e=>(a3 e).grew G1,a4⟩) hcs hgl gr2 HX HF (y:=⟨x.live,x.ar,t0,t1,t2,t3,t4,t5,t6,t7⟩) ⟨rfl,rfl⟩ (T1.out.out (Out.grown gr2 (fun g e=>by cases e;exact⟨nZ _,hgl⟩))) (by (first|rw[HSE.out]|rw[show Value.slice _ _ _=_ from HSE.out]);exact ow2)
  have N2:Hid (ziV w W2 b vl5 L5 [V5.f.x,I6 m5.hand,V5.s.x,V5.sb.x,V5.sq.x,V5.db.x,V5.dq.x,V5.fl.x,I6 m5.cnt,V5.ca.x,V5.sp.x,vt5.x]):=dD<|⟨ze (NW.gr.trans G1) gr2 ((S1.grew G1).lt gs rfl).1,NW.hb,(NW.box.grew G1).beside gr2 (fun g e=>by cases e;exact(S1.grew G1).ne (NW.box.grew G1) (by decide) gs rfl),NW.lr,NW.lc,NW.lb⟩
  have X2:Hid (zD W2 w.heap.size 40 zM):=(XW.grew G1).beside gr2 (fun g e=>by cases e;exact(S1.grew G1).ne (XW.grew G1) (by decide) gs rfl)
  have H2:Hid (ht<=W2.heap.size):=dD<|by rw[sz2];exact nT HW (bS G1)
  clear ow2 gr2 sz2 hcs hgl;go_wp2
  go_roundg (k5 -(p+1))
  case measure=>omega
  exact⟨p+1,by omega,by omega,by go_num,T2,N2,X2,H2⟩
 have hltz6:¬(p:Int)< (k5:Int):=by omega
 obtain rfl:k5=p:=by omega
 have HSPL:Hid (1<=m5.sp.length/\m5.sp.length<=2):=dD<|by rw[HL5.out];omega
 by_cases h0:0<nf
 ·have h0d:decide ((0:Int)< (nf:Int))=true:=by simp;omega
  have hpk:=zje (nf:Int) NW.out;go_wp2_with fail;refine hpk.mono ?_;clear hpk;rintro e W20 ⟨vl20,L20,y,rfl,nm20,gr20,-,y0,y1,yn,-⟩;have T20:Hid (MkT w.heap.size hi ht k5 W20 V5 m5 vt5 T5):=TW.other gr20 NW.box HBT (.inl rfl);have X20:Hid (zD W20 w.heap.size 40 zM):=XW.kind gr20 NW.box (by decide)
  have N20:Hid (ziV w W20 b vl20 L20 [V5.f.x,I6 m5.hand,V5.s.x,V5.sb.x,V5.sq.x,V5.db.x,V5.dq.x,V5.fl.x,I6 m5.cnt,V5.ca.x,V5.sp.x,vt5.x]):=nm20;have HY:Hid (0<=y/\y<max (m5.fs.length:Int) 1):=show _/\_ from⟨y0,by rw[S5.2.2.2.1];omega⟩
  have HY0:Hid (L=[]->y=0):=dD<|fun e=>yn (LX e)
  clear nm20 gr20 y0 y1 yn;have x2:=N20.box.box.c 2 rfl;have xf:=N20.box.box.f;go_upto_region 47 with fail;clear x2 xf;obtain⟨W21,hW21⟩:∃W21,W20.setCell ⟨b,2,none⟩ (I6 y)=W21:=⟨_,rfl⟩;have hg21:W20.grownBy W21 (some b):=by rw[<-hW21];exact qO _ _ _ _
  have B21:Hid (zD W21 b 87 [vl20.x,V5.f.x,I6 y,V5.s.x,V5.sb.x,V5.sq.x,V5.db.x,V5.dq.x,V5.fl.x,I6 m5.cnt,V5.ca.x,V5.sp.x,vt5.x]):=dD<|by rw[<-hW21];exact N20.box.set 2 _
  have T21:Hid (MkT w.heap.size hi ht k5 W21 V5 m5 vt5 T5):=T20.other hg21 N20.box HBT (.inl rfl);have X21:Hid (zD W21 w.heap.size 40 zM):=X20.kind hg21 N20.box (by decide)
  have G21:Hid (zc w W21):=ze N20.gr hg21 N20.hb;rw[hW21];clear hW21 hg21;have c1:=B21.box.c 1 rfl;have c2:=B21.box.c 2 rfl;have c3:=B21.box.c 3 rfl;have c4:=B21.box.c 4 rfl;have c5:=B21.box.c 5 rfl;have c6:=B21.box.c 6 rfl;have c7:=B21.box.c 7 rfl;have c8:=B21.box.c 8 rfl;have c9:=B21.box.c 9 rfl;have c10:=B21.box.c 10 rfl;have c11:=B21.box.c 11 rfl
  go_wp2_with (refine jM rfl 40 (.tmp 8) (.tmp 233) rfl w.heap.size rfl [V5.f.x,I6 y,V5.s.x,V5.sb.x,V5.sq.x,V5.db.x,V5.dq.x,V5.fl.x,I6 m5.cnt,V5.ca.x,V5.sp.x] rfl X21 rfl zl5 (fun v hv=>by simp only[mC,nM,or_false]at hv;rcases hv with rfl | rfl | rfl | rfl | rfl | rfl | rfl | rfl | rfl | rfl | rfl <;> rfl) ?_)
  intro W22 hb22 hg22 _;have HRS:Hid (zdO w nf ns nb L W22 V5 m5 T5 y hi ht vt5):=dD<|⟨ze G21 hg22 (nR _),by rw[HL5.out];exact T21.other hg22 X21 HXT (.inr rfl),BX5,HY,S5.2.1,S5.2.2.2.2,HSPL,S5.2.2.2.1,fun e=>by obtain⟨a1,a2⟩:=E5.out e;have h1:=HN1.out e;have h2:k5=1:=(by omega);rw[h2]at a1 a2;exact⟨a1,a2,HY0 e⟩⟩
  have B22:Hid (Box W22 w.heap.size [V5.f.x,I6 y,V5.s.x,V5.sb.x,V5.sq.x,V5.db.x,V5.dq.x,V5.fl.x,I6 m5.cnt,V5.ca.x,V5.sp.x]):=hb22.box;clear hb22 hg22;clear c1 c2 c3 c4 c5 c6 c7 c8 c9 c10 c11;go_wp2;refine bodyPost_ret (zT rfl _ rfl B22 underlying40 rfl zl5) rfl ⟨V5,m5,T5,y,hi,ht,vt5,rfl,HRS⟩
 have h0d:decide ((0:Int)< (nf:Int))=false:=by simp;omega
 have B21:Hid (zD wr b 87 [vl5.x,V5.f.x,I6 0,V5.s.x,V5.sb.x,V5.sq.x,V5.db.x,V5.dq.x,V5.fl.x,I6 m5.cnt,V5.ca.x,V5.sp.x,vt5.x]):=dD<|by have:=NW.box;rw[S5.2.2.1]at this;exact this
 have G21:Hid (zc w wr):=NW.gr;have HY:Hid ((0:Int)<=0/\(0:Int)<max (m5.fs.length:Int) 1):=show _/\_ from⟨Int.le_refl _,by omega⟩
 have c1:=B21.box.c 1 rfl;have c2:=B21.box.c 2 rfl;have c3:=B21.box.c 3 rfl;have c4:=B21.box.c 4 rfl;have c5:=B21.box.c 5 rfl;have c6:=B21.box.c 6 rfl;have c7:=B21.box.c 7 rfl;have c8:=B21.box.c 8 rfl;have c9:=B21.box.c 9 rfl;have c10:=B21.box.c 10 rfl;have c11:=B21.box.c 11 rfl
 go_wp2_with (refine jM rfl 40 (.tmp 8) (.tmp 233) rfl w.heap.size rfl [V5.f.x,I6 0,V5.s.x,V5.sb.x,V5.sq.x,V5.db.x,V5.dq.x,V5.fl.x,I6 m5.cnt,V5.ca.x,V5.sp.x] rfl XW rfl zl5 (fun v hv=>by simp only[mC,nM,or_false]at hv;rcases hv with rfl | rfl | rfl | rfl | rfl | rfl | rfl | rfl | rfl | rfl | rfl <;> rfl) ?_)
 intro W22 hb22 hg22 _;have HRS:Hid (zdO w nf ns nb L W22 V5 m5 T5 0 hi ht vt5):=dD<|⟨ze G21 hg22 (nR _),by rw[HL5.out];exact TW.other hg22 XW HXT (.inr rfl),BX5,HY,S5.2.1,S5.2.2.2.2,HSPL,S5.2.2.2.1,fun e=>by obtain⟨a1,a2⟩:=E5.out e;have h1:=HN1.out e;have h2:k5=1:=(by omega);rw[h2]at a1 a2;exact⟨a1,a2,rfl⟩⟩
 have B22:Hid (Box W22 w.heap.size [V5.f.x,I6 0,V5.s.x,V5.sb.x,V5.sq.x,V5.db.x,V5.dq.x,V5.fl.x,I6 m5.cnt,V5.ca.x,V5.sp.x]):=hb22.box;clear hb22 hg22;clear c1 c2 c3 c4 c5 c6 c7 c8 c9 c10 c11;go_wp2;refine bodyPost_ret (zT rfl _ rfl B22 underlying40 rfl zl5) rfl ⟨V5,m5,T5,0,hi,ht,vt5,rfl,HRS⟩
def zdM (m:Ma):Prop:=∀s∈m.sp,(wrL s.ars).1=0/\tbW s.tb=0
theorem zks (h:ZG m=0):zdM m:=fun s hs=>by
 unfold ZG at h
 split at h
 ·cases h
 have:=zE.1 h (spE s) (List.mem_map.2 ⟨s,hs,rfl⟩);unfold spE at this
 split at this
 ·rename_i a;exact absurd this a
 rename_i a
 split at this
 ·rename_i b;exact absurd this b
 rename_i b;exact⟨by simpa using a,by simpa using b⟩
theorem zkK {s:Sp} (h:tbW s.tb=0) (n:Nat):enW (zO s n)=0:=by
 unfold zO zcn;have hall:=JH.1 h;have:zj2 (s.tb[n / 8]?.getD []):=by
  cases e:s.tb[n / 8]? with
  | none=>exact .inl rfl
  | some x=>exact hall x (mG e)
 exact this.get (n % 8)
theorem zdE {s:Sp} {n:Nat} (h:n<64):zii s.tb (n:Int)=zO s n:=by
 unfold zii zO;rw[if_pos (by omega),tN]
theorem zed {s:Sp} {n:Nat} (h:(qz s)[j]? =some n):n<64:=by
 have:=mG h;unfold qz at this;rw[List.mem_filter,List.mem_range]at this;exact this.1
theorem zfS:∀{l:List Ar} {p:Option Ar} {k:Nat} {a:Ar},ZY p l->l[k]? =some a->jl a
 | [],_,_,_,_,h=>by simp at h
 | b :: l,p,0,a,hc,h=>by
  simp at h
  subst h;exact hc.1
 | b :: l,p,k+1,a,hc,h=>zfS hc.2.2 (by simpa using h)
theorem zbC (V:MaV) (m:Ma) (w:World) (hm:zH w V m) (h1:zeY m) (h2:zdM m):
  Calls prog 38 #[.agg (mL V m).toArray] w fun e w'=>e= .returned (I6 (zbI m))/\zc w w':=by
 have HWE:Hid (∀(a:Ar) (n:Nat) (e:En) W,zc w W->jl a->n<=64->0<=e.n->Calls prog 93 #[.agg (mL V m).toArray,.agg #[I6 a.fr,I6 a.tz,.bool a.rd,.bool a.wr,.bool a.sh,I6 a.file,I6 a.base],I6 (n:Int),.agg #[I6 e.kind,I6 e.n,.bool e.wr]] W fun e' w'=>e'= .returned (I6 (JT m a n e))/\zc W w'):=dD<|fun a n e W hW ha hn he=>zbD V m a n e W (hm.grew hW) ha hn he
 have HM1:Hid (Jo m.fs m.hand=0):=h1.mem;have HRS:Hid (zdM m):=h2;obtain⟨vf,vs,vsb,vsq,vdb,vdq,vfl,vca,⟨spa,spn,spc⟩⟩:=V;dsimp only[mL]at HWE⊢;obtain⟨-,-,-,-,-,-,-,-,n9⟩:=hm.ns;dsimp only at n9;obtain⟨xs,hxl,hrow,hsp⟩:=hm.spaces;have HXL:Hid (xs.length=m.sp.length):=hxl;have HR:Hid (∀(j:Nat) x,xs[j]? =some x->∃ad,spa=some ad/\∀W,zc w W->zc1 W (ad.add (j*10)) x):=hrow;have HSP:Hid (∀(i:Nat) x s,xs[i]? =some x->m.sp[i]? =some s->qr w x s):=hsp;have HN:Hid (m.sp.length=spn):=n9.symm;have hbig:spn<=9223372036854775807:=by
  obtain⟨ys,k1,k2,_⟩:=hm.sp;have:=k1.short;omega
 obtain⟨Z,HZ⟩:∃Z,Hid (zbI m=Z):=⟨_,rfl⟩;rw[HZ.out];clear hm hxl hrow hsp n9 h1 h2;obtain⟨W0,hW0⟩:∃W0,w.alloc (.cells #[vf.x,I6 m.hand,vs.x,vsb.x,vsq.x,vdb.x,vdq.x,vfl.x,I6 m.cnt,vca.x,.slice spa spn spc] 40)=W0:=⟨_,rfl⟩;have HG0:=gA hW0
 have X0:=xA hW0
 have HW0:Hid (_=W0):=hW0;clear hW0
 go_enter func38,ntmps38
 go_upto_region 1 with fail;rw[HW0.out];have x10:=X0.c 10 rfl;go_wp2;clear x10
 go_loopg [12] spn (fun gg s12 wr=>∃kk:Nat,kk<=spn/\spn - kk<=gg/\s12=I6 kk/\Hid (zc w wr)/\Hid (Box wr w.heap.size [vf.x,I6 m.hand,vs.x,vsb.x,vsq.x,vdb.x,vdq.x,vfl.x,I6 m.cnt,vca.x,.slice spa spn spc])/\Hid (∀(j:Nat) s,j<kk->m.sp[j]? =some s->j6 m s=0))
 case atStart=>exact⟨0,nZ _,by omega,rfl,HG0,X0,fun j s hj=>absurd hj (nL _)⟩
 obtain⟨kk,hkk,hgg,rfl,BW,XW,OW⟩:=hrel
 by_cases hlt:kk<spn
 ·have hltz:(kk:Int)< (spn:Int):=by omega
  obtain⟨s,HS⟩:∃s,Hid (m.sp[kk]? =some s):=⟨_,gE (by rw[HN.out];exact hlt)⟩
  obtain⟨x,HX⟩:∃x,Hid (xs[kk]? =some x):=⟨_,gE (by rw[HXL.out,HN.out];exact hlt)⟩
  have HAT:Hid (qr w x s):=HSP.out kk x s HX HS.out;obtain⟨hok1,hok2⟩:=HRS.out s (mG HS);have HCN:Hid (ZY none s.ars):=(jw.1 hok1).2;have HTB:Hid (tbW s.tb=0):=hok2;have HAL:Hid (s.ars.length=x.ar.n):=HAT.ar.n.symm;have HAR:Hid (zaK w x.ar.a s.ars):=show zaK _ _ _ by
   obtain⟨_,_,q1,q2⟩:=HAT.ar.ars;simp only[vJ]at q1;rw[q1.1];exact q2
  clear hok1 hok2;obtain⟨ad,rfl,hl⟩:=HR.out kk x HX.out;obtain⟨d0,d1,d2,d3,d4,d5,d6,d7,d8,d9⟩:=hl wr BW.out;clear hl;go_upto_region 4 with fail;obtain⟨W1,hW1⟩:∃W1,wr.alloc (.cells #[.bool x.live,x.ar.x,x.t0.x,x.t1.x,x.t2.x,x.t3.x,x.t4.x,x.t5.x,x.t6.x,x.t7.x] 65)=W1:=⟨_,rfl⟩;have HG1:=gT hW1 BW
  have X1:=yA hW1 XW
  have S1:=xA hW1
  rw[hW1];clear hW1 d0 d1 d2 d3 d4 d5 d6 d7 d8 d9;obtain⟨pb,HPB⟩:∃pb,Hid (wr.heap.size=pb):=⟨_,rfl⟩;rw[HPB.out]at S1⊢;have hcall:Calls prog 92 #[.agg #[x.t0.x,x.t1.x,x.t2.x,x.t3.x,x.t4.x,x.t5.x,x.t6.x,x.t7.x]] W1 fun e w'=>∃v,e= .returned v/\zb blE W1.heap.size w' v (jm s.tb JD 64)/\zc W1 w':=J8 x.tab s.tb W1 (HAT.grew HG1).tb
  have s2:=S1.c 2 rfl;have s3:=S1.c 3 rfl;have s4:=S1.c 4 rfl;have s5:=S1.c 5 rfl;have s6:=S1.c 6 rfl;have s7:=S1.c 7 rfl;have s8:=S1.c 8 rfl;have s9:=S1.c 9 rfl;go_wp2_with fail;refine hcall.mono ?_;clear hcall s2 s3 s4 s5 s6 s7 s8 s9;rintro e' W2 ⟨pv,rfl,ow2,hg2⟩;have HG2:=dD (HG1.trans hg2);have X2:=dD (X1.grew hg2);have S2:=dD (S1.grew hg2);clear hg2;obtain⟨pa,pc,rfl,hnr⟩:=ow2.at.nums;have hq0:=ow2.at.short;have HNR:Hid (zak W2 pa (jm s.tb JD 64)):=hnr;rw[QI,List.length_map]at hq0⊢;rw[QI]at HNR;clear ow2 hnr;obtain⟨q,HQ⟩:∃q,Hid ((qz s).length=q):=⟨_,rfl⟩;rw[HQ.out]at hq0⊢;go_wp2;have HBW:Hid (zc w wr):=BW;have HOW:Hid (∀(j:Nat) s,j<kk->m.sp[j]? =some s->j6 m s=0):=OW
  go_loopg [20] q (fun gg s20 wr=>∃i:Nat,i<=q/\q - i<=gg/\s20=I6 i/\Hid (zc W2 wr)/\Hid (∀(j:Nat) n,j<i->(qz s)[j]? =some n->Q7 m (zN s.ars n) (zO s n)=0))
  case atStart=>exact⟨0,nZ _,by omega,rfl,zc.refl _,fun j s hj=>absurd hj (nL _)⟩
  obtain⟨i,hi,hg2,rfl,BW,OW⟩:=hrel
  by_cases hlt2:i<q
  ·have hltz2:(i:Int)< (q:Int):=by omega
   obtain⟨n,HNI⟩:∃n,Hid ((qz s)[i]? =some n):=⟨_,gE (by rw[HQ.out];exact hlt2)⟩
   have hn64:n<64:=zed HNI.out;obtain⟨ad2,rfl,hl2⟩:=HNR.out i (n:Int) (by rw[List.getElem?_map,HNI.out];rfl)
   have e0:=hl2 wr BW.out;clear hl2;have HGW:=dD (HG2.trans BW);have hcf:=zgr (x.ar.x) s.ars (n:Int) wr (HAT.ar.grew HGW);have s1:=(S2.grew BW).c 1 rfl;go_wp2_with fail;refine hcf.mono ?_;clear hcf e0 s1;rintro e' W4 ⟨⟨z,rfl,hz⟩,hg4⟩;have HFZ:Hid (J0 s.ars (n:Int) z):=hz;have HG4:=dD (BW.trans hg4);have HGw4:=dD (HG2.trans HG4);clear hg4 hz
   by_cases hz0:z<0
   ·have HZE:Hid (Z=5):=dD<|by
     have h5:Q7 m (zN s.ars n) (zO s n)=5:=by
      have:=zgq HFZ.out;rw[decide_eq_false (by omega)]at this
      unfold Q7;rw[if_pos this.symm]
     have h6:j6 m s=5:=by rw[J5,Zk HNI OW (by rw[h5];decide),h5]
     rw[<-HZ.out];unfold zbI;rw[Zk HS HOW (by rw[h6];decide),h6]
    go_wp2;go_ret;exact⟨by rw[HZE.out];rfl,HGw4⟩
   obtain⟨k,a,rfl,HKA,HIN⟩:∃(k:Nat) (a:Ar),z=(k:Int)/\Hid (s.ars[k]? =some a)/\Hid (inZ a (n:Int)=true):=by
    rcases HFZ with⟨k,a,q1,q2,q3⟩|⟨q1,_⟩
    ·exact⟨k,a,q1,q2,q3⟩
    omega
   have HAO:Hid (jl a):=zfS HCN HKA.out;have hkl:k<x.ar.n:=by rw[<-HAL.out];exact(gS.1 HKA).1
   have HEN:Hid (Q7 m (zN s.ars n) (zO s n)=JT m a n (zO s n)):=dD<|by rw[zbS HCN.out HKA.out HIN.out,zhB HM1.out HAO.out]
   have hen0:0<=(zO s n).n:=(JP (zkK HTB n)).2.1.1;have HWE':Hid (∀W,zc w W->Calls prog 93 #[.agg #[vf.x,I6 m.hand,vs.x,vsb.x,vsq.x,vdb.x,vdq.x,vfl.x,I6 m.cnt,vca.x,.slice (some ad) spn spc],.agg #[I6 a.fr,I6 a.tz,.bool a.rd,.bool a.wr,.bool a.sh,I6 a.file,I6 a.base],I6 (n:Int),enV (zO s n)] W fun e' w'=>e'= .returned (I6 (JT m a n (zO s n)))/\zc W w'):=dD<|fun W hW=>HWE.out a n (zO s n) W hW HAO (by omega) hen0
   have HGT:Hid (∀W,zc w W->Calls prog 65 #[.agg #[x.t0.x,x.t1.x,x.t2.x,x.t3.x,x.t4.x,x.t5.x,x.t6.x,x.t7.x],I6 (n:Int)] W fun e w'=>e= .returned (enV (zO s n))/\zc W w'):=dD<|fun W hW=>by
    have:=zaE x.tab s.tb (n:Int) W (HAT.grew hW).tb;rw[zdE hn64]at this;exact this
   clear hen0;go_upto_region 10 with fail;obtain⟨ada,hva,hl⟩:=HAR.out k a HKA.out;have X4:=dD (X2.grew HG4);have S4:=dD (S2.grew HG4);have hx0:=X4.gw 0 rfl
   have hx1:=X4.gw 1 rfl
   have hx2:=X4.gw 2 rfl
   have hx3:=X4.gw 3 rfl
   have hx4:=X4.gw 4 rfl
   have hx5:=X4.gw 5 rfl
   have hx6:=X4.gw 6 rfl
   have hx7:=X4.gw 7 rfl
   have hx8:=X4.gw 8 rfl
   have hx9:=X4.gw 9 rfl
   have hx10:=X4.gw 10 rfl
   have hs1:=S4.gw 1 rfl
   have hs2:=S4.gw 2 rfl
   have hs3:=S4.gw 3 rfl
   have hs4:=S4.gw 4 rfl
   have hs5:=S4.gw 5 rfl
   have hs6:=S4.gw 6 rfl
   have hs7:=S4.gw 7 rfl
   have hs8:=S4.gw 8 rfl
   have hs9:=S4.gw 9 rfl
   (try simp only[Sli.x]at hs1);rw[hva]at hs1;have hy0:∀y:zR W4,y.world.cell? (ada.add (k*7))=some (I6 a.fr):=fun y=>(hl _ (HGw4.trans y.grew)).1
   have hy1:∀y:zR W4,y.world.cell? { block:=(ada.add (k*7)).block,off:=(ada.add (k*7)).off+1 }=some (I6 a.tz):=fun y=>(hl _ (HGw4.trans y.grew)).2.1
   have hy2:∀y:zR W4,y.world.cell? { block:=(ada.add (k*7)).block,off:=(ada.add (k*7)).off+2 }=some (.bool a.rd):=fun y=>(hl _ (HGw4.trans y.grew)).2.2.1
   have hy3:∀y:zR W4,y.world.cell? { block:=(ada.add (k*7)).block,off:=(ada.add (k*7)).off+3 }=some (.bool a.wr):=fun y=>(hl _ (HGw4.trans y.grew)).2.2.2.1
   have hy4:∀y:zR W4,y.world.cell? { block:=(ada.add (k*7)).block,off:=(ada.add (k*7)).off+4 }=some (.bool a.sh):=fun y=>(hl _ (HGw4.trans y.grew)).2.2.2.2.1
   have hy5:∀y:zR W4,y.world.cell? { block:=(ada.add (k*7)).block,off:=(ada.add (k*7)).off+5 }=some (I6 a.file):=fun y=>(hl _ (HGw4.trans y.grew)).2.2.2.2.2.1
   have hy6:∀y:zR W4,y.world.cell? { block:=(ada.add (k*7)).block,off:=(ada.add (k*7)).off+6 }=some (I6 a.base):=fun y=>(hl _ (HGw4.trans y.grew)).2.2.2.2.2.2
   have hne:Nonempty (zR W4):=⟨⟨_,zc.refl _⟩⟩;clear hl hva;refine Zh [(10,⟨fun v=>v=enV (zO s n),fun v w'=>True⟩),(11,⟨fun v=>v=I6 (JT m a n (zO s n)),fun v w'=>True⟩)] qu (by kernel_rfl) ?hS ?hp ?_
   case hS=>
    intro x hx;simp only[mC,nM,or_false]at hx
    rcases hx with rfl|rfl
    ·exact⟨_,rfl⟩
    exact⟨_,rfl⟩
   case hp=>
    intro x hx;simp only[mC,nM,or_false]at hx
    rcases hx with rfl|rfl
    ·exact fun _ _ _ _ h=>h
    exact fun _ _ _ _ h=>h
   iterate 10 (refine zp rfl rfl rfl (fun K hK=>?_);go_big_quiet_op;refine hK _ ?_;clear hK)
   refine zV rfl rfl (fun w' hg hF=>?_) (fun v1 hv=>?_)
   ·refine zP.call [.agg #[x.t0.x,x.t1.x,x.t2.x,x.t3.x,x.t4.x,x.t5.x,x.t6.x,x.t7.x],I6 (n:Int)] rfl func65 rfl rfl rfl ?_;refine(HGT w' (HGw4.trans hg)).mono ?_;rintro e w'' ⟨rfl,hg3⟩;exact⟨_,rfl,hg3,rfl,trivial⟩
   subst hv;simp only[Act.put,sB,sS,sZ];refine zV rfl rfl (fun w' hg hF=>?_) (fun v1 hv=>?_)
   ·refine zP.call [.agg #[vf.x,I6 m.hand,vs.x,vsb.x,vsq.x,vdb.x,vdq.x,vfl.x,I6 m.cnt,vca.x,.slice (some ad) spn spc],.agg #[I6 a.fr,I6 a.tz,.bool a.rd,.bool a.wr,.bool a.sh,I6 a.file,I6 a.base],I6 (n:Int),enV (zO s n)] rfl func93 rfl rfl rfl ?_;refine(HWE' w' (HGw4.trans hg)).mono ?_;rintro e w'' ⟨rfl,hg3⟩;exact⟨_,rfl,hg3,rfl,trivial⟩
   subst hv;simp only[Act.put,sB,sS,sZ];iterate 1 (refine zp rfl rfl rfl (fun K hK=>?_);go_big_quiet_op;refine hK _ ?_;clear hK)
   refine je fun W5 hg5 hF=>?_
   have HG5:=dD (HG4.trans hg5);have HGw5:=dD (HG2.trans HG5);clear hg5 hF hx0 hx1 hx2 hx3 hx4 hx5 hx6 hx7 hx8 hx9 hx10 hs1 hs2 hs3 hs4 hs5 hs6 hs7 hs8 hs9 hy0 hy1 hy2 hy3 hy4 hy5 hy6 hne;obtain⟨e,HEE⟩:∃e,Hid (JT m a n (zO s n)=e):=⟨_,rfl⟩;rw[HEE.out];rw[HEE.out]at HEN
   by_cases h0:e=0
   ·have h0e:(e != 0)=false:=by simp[h0]
    have OW':Hid (∀(j:Nat) n,j<i+1->(qz s)[j]? =some n->Q7 m (zN s.ars n) (zO s n)=0):=dD<|fun j n' hj hn'=>by
     by_cases ej:j=i
     ·subst ej;rw[HNI.out]at hn';cases hn';rw[HEN.out];exact h0
     exact OW j n' (by omega) hn'
    clear h0;go_wp2
    go_roundg (q -(i+1))
    case measure=>omega
    exact⟨i+1,by omega,by omega,by go_num,HG5,OW'⟩
   have h0e:(e != 0)=true:=by simp[h0]
   have HZE:Hid (Z=e):=dD<|by
    have h6:j6 m s=e:=by rw[J5,Zk HNI OW (by rw[HEN.out];exact h0),HEN.out]
    rw[<-HZ.out];unfold zbI;rw[Zk HS HOW (by rw[h6];exact h0),h6]
   clear h0;go_wp2;go_ret;exact⟨by rw[HZE.out];rfl,HGw5⟩
  have hltz2:¬(i:Int)< (q:Int):=by omega
  have:i=q:=by omega
  subst this;have HSE:Hid (j6 m s=0):=dD<|by
   rw[J5];exact Qx fun j n hn=>OW.out j n (by rw[<-HQ.out];exact(gS.1 hn).1) hn
  have OW':Hid (∀(j:Nat) s,j<kk+1->m.sp[j]? =some s->j6 m s=0):=dD<|fun j s' hj hs=>by
   by_cases ej:j=kk
   ·subst ej;rw[HS.out]at hs;cases hs;exact HSE.out
   exact HOW j s' (by omega) hs
  have XX:=dD (X2.grew BW);have GG:=dD (HG2.trans BW);go_wp2
  go_roundg (spn -(kk+1))
  case measure=>omega
  exact⟨kk+1,by omega,by omega,by go_num,GG,XX,OW'⟩
 have hltz:¬(kk:Int)< (spn:Int):=by omega
 have:kk=spn:=by omega
 subst this;have HZE:Hid (Z=0):=dD<|by
  rw[<-HZ.out];exact Qx fun j s hs=>OW.out j s (by rw[<-HN.out];exact(gS.1 hs).1) hs
 go_wp2;go_ret;exact⟨by rw[HZE.out];rfl,BW⟩
structure JQ where
 ty:TypeId
 enc:Int × Int->Value
 und:∃fs,Tryz.prog.underlying ty=some (.struct fs)
 check:∀(em:Bool) (a:Int × Int) (w:World),(Instr.checkKey em 10000 ty (enc a)).run prog w= .ok () w
 same:∀(a b:Int × Int) (w:World),(Op.equal ty (enc a) (enc b)).run prog w= .ok (decide (a=b)) w
 bits:∀a:Int × Int,Instr.sameBits 10000 (enc a) (enc a)=true
def JR:List ((Int × Int) × Int)->Int × Int->Option Int
 | [],_=>none
 | p :: l,k=>if k=p.1 then some p.2 else JR l k
def zb8:List ((Int × Int) × Int)->Int × Int->Nat->Option (Nat × Value)
 | [],_,_=>none
 | p :: l,k,i=>if k=p.1 then some (i,I6 p.2)else zb8 l k (i+1)
def zfn:List ((Int × Int) × Int)->Int × Int->Int->List ((Int × Int) × Int)
 | [],k,v=>[(k,v)]
 | p :: l,k,v=>if k=p.1 then(k,v) :: l else p :: zfn l k v
theorem zaA:∀(l:List ((Int × Int) × Int)) (k x:Int × Int) (v:Int),JR (zfn l k v) x=if x=k then some v else JR l x
 | [],k,x,v=>by simp[zfn,JR]
 | p :: l,k,x,v=>by
  unfold zfn
  by_cases h:k=p.1
  ·rw[if_pos h];unfold JR
   by_cases hx:x=k
   ·simp[hx]
   have hx':¬x=p.1:=fun e=>hx (e.trans h.symm)
   simp[hx,hx']
  rw[if_neg h];unfold JR;rw[zaA l]
  by_cases hp:x=p.1
  ·rw[if_pos hp,if_pos hp,if_neg (fun e=>h (e.symm.trans hp))]
  rw[if_neg hp,if_neg hp]
theorem JO:∀{l:List ((Int × Int) × Int)} {k:Int × Int} {i:Nat},zb8 l k i=none->JR l k=none/\∀v,zfn l k v=l++ [(k,v)]
 | [],k,i,_=>⟨rfl,fun v=>rfl⟩
 | p :: l,k,i,h=>by
  unfold zb8 at h
  by_cases e:k=p.1
  ·rw[if_pos e]at h;cases h
  rw[if_neg e]at h;obtain⟨h1,h2⟩:=JO h;refine⟨by unfold JR;rw[if_neg e,h1],fun v=>?_⟩
  unfold zfn;rw[if_neg e,h2];rfl
theorem JN:∀{l:List ((Int × Int) × Int)} {k:Int × Int} {i j:Nat} {u:Value},zb8 l k i=some (j,u)->∃n z,u=I6 z/\j=i+n/\l[n]? =some (k,z)/\JR l k=some z/\∀v,zfn l k v=l.set n (k,v)
 | [],k,i,j,u,h=>by cases h
 | p :: l,k,i,j,u,h=>by
  unfold zb8 at h
  by_cases e:k=p.1
  ·rw[if_pos e]at h;cases h;refine⟨0,p.2,rfl,rfl,by rw[e];rfl,by unfold JR;rw[if_pos e],fun v=>?_⟩
   unfold zfn;rw[if_pos e];rfl
  rw[if_neg e]at h;obtain⟨n,z,h1,h2,h3,h4,h5⟩:=JN h;refine⟨n+1,z,h1,by omega,by simpa using h3,by unfold JR;rw[if_neg e,h4],fun v=>?_⟩
  unfold zfn;rw[if_neg e,h5];rfl
def j5 (K:JQ) (w:World) (b:Nat) (g:Int × Int->Option Int):Prop:=
 ∃es clock l,w.heap[b]? =some (.map es clock)/\(es.toList.map (fun e=>(e.key,e.val))=l.map (fun p:(Int × Int) × Int=>(K.enc p.1,I6 p.2))/\(es.toList.map (·.born)).Pairwise (·< ·)/\∀e∈es.toList,e.born<clock)/\∀k,JR l k=g k
theorem j5.lt {K:JQ} {g:Int × Int->Option Int} (h:j5 K w b g):b<w.heap.size:=by
 obtain⟨es,c,l,h1,_⟩:=h;exact(aS.1 h1).1
theorem j5.made (K:JQ) (w:World):j5 K (w.alloc (.map #[] 0)) w.heap.size (fun _=>none):=⟨#[],0,[],by
 show(w.heap.push _)[w.heap.size]? =_
 simp,⟨rfl,List.Pairwise.nil,fun e he=>by cases he⟩,fun k=>rfl⟩
theorem j5.grew {K:JQ} {g:Int × Int->Option Int} (h:j5 K w b g) (hg:zc w w'):j5 K w' b g:=by
 have hlt:=h.lt;obtain⟨es,c,l,h1,h2⟩:=h;exact⟨es,c,l,(Below.block hg b hlt).trans h1,h2⟩
theorem j5.kept {K:JQ} {g:Int × Int->Option Int} {row:Option Nat} (h:j5 K w b g) (hg:w.grownBy w' row) (hne:some b≠row):j5 K w' b g:=by
 have hlt:=h.lt;obtain⟨es,c,l,h1,h2⟩:=h;exact⟨es,c,l,(hg.block b hlt hne).trans h1,h2⟩
theorem j5.congr {K:JQ} {g g':Int × Int->Option Int} (h:j5 K w b g) (e:∀k,g k=g' k):j5 K w b g':=by
 obtain⟨es,c,l,h1,h2,h3⟩:=h;exact⟨es,c,l,h1,h2,fun k=>(h3 k).trans (e k)⟩
theorem JU (K:JQ) (k:Int × Int) (w:World):∀(l:List ((Int × Int) × Int)) (es:List MapEntry) (i:Nat),es.map (fun e=>(e.key,e.val))=l.map (fun p=>(K.enc p.1,I6 p.2))->(Instr.findAsking K.ty (K.enc k) es i).run prog w= .ok (zb8 l k i) w
 | [],[],i,_=>rfl
 | [],e :: es,i,h=>by simp at h
 | p :: l,[],i,h=>by simp at h
 | p :: l,e :: es,i,h=>by
  simp only[mP,List.cons.injEq,pJ]at h;obtain⟨⟨h1,h2⟩,h3⟩:=h;unfold Instr.findAsking zb8;simp only[Sem.run_bind,h1,K.same,rA]
  by_cases e':k=p.1
  ·simp[e',h2]
  simp[e',JU K k w l es (i+1) h3]
theorem J6 (K:JQ) (k:Int × Int) (w:World) (l:List ((Int × Int) × Int)) (es:List MapEntry) (h:es.map (fun e=>(e.key,e.val))=l.map (fun p=>(K.enc p.1,I6 p.2))):(Instr.findKey K.ty (K.enc k) es).run prog w= .ok (zb8 l k 0) w:=by
 obtain⟨fs,hu⟩:=K.und;unfold Instr.findKey;simp only[Sem.run_bind,run_underlying hu,rA]
 cases es with
 | nil=>
  cases l with
  | nil=>rfl
  | cons p l=>simp at h
 | cons e es=>
  have:Instr.findNow (.struct fs) (K.enc k) (e :: es) 0=none:=by simp[Instr.findNow,Instr.sameNow]
  rw[this];exact JU K k w l (e :: es) 0 h
theorem j5.look {K:JQ} {g:Int × Int->Option Int} (h:j5 K w b g) (ht:Tryz.prog.underlying t=some (.map K.ty e)) (hz:(zeroValue e).run prog w= .ok (I6 0) w) (k:Int × Int) (c:Bool):
  (Instr.lookup t (.map (some b)) (K.enc k) c).run prog w= .ok (if c then .tuple #[I6 ((g k).getD 0),.bool (g k).isSome]else I6 ((g k).getD 0)) w:=by
 obtain⟨es,cl,l,h1,⟨h2,_⟩,h3⟩:=h;have hf:=J6 K k w l es.toList h2;unfold Instr.lookup
 cases hp:zb8 l k 0 with
 | none=>
  rw[hp]at hf;have:=(JO hp).1;rw[h3 k]at this
  cases c <;> simp[run_underlying ht,MapKept.run_getObj_map h1,K.check,hf,hz,this]
 | some q=>
  obtain⟨j,u⟩:=q;rw[hp]at hf;obtain⟨n,z,rfl,_,_,h4,_⟩:=JN hp;rw[h3 k]at h4
  cases c <;> simp[run_underlying ht,MapKept.run_getObj_map h1,K.check,hf,h4]
theorem zbT (f:MapEntry->MapEntry) (hf:∀e,(f e).born=e.born):∀(es:List MapEntry) (n:Nat),(es.modify n f).map (·.born)=es.map (·.born)
 | [],n=>by simp
 | e :: es,0=>by simp[hf]
 | e :: es,n+1=>by simp[zbT f hf es n]
structure Zd (K:JQ) (es:Array MapEntry) (cl:Nat) (l:List ((Int × Int) × Int)):Prop where
 pairs:es.toList.map (fun e=>(e.key,e.val))=l.map (fun p=>(K.enc p.1,I6 p.2))
 rise:(es.toList.map (·.born)).Pairwise (·< ·)
 low:∀e∈es.toList,e.born<cl
theorem Zd.push {K:JQ} {es:Array MapEntry} {l:List ((Int × Int) × Int)} (h:Zd K es cl l) (k:Int × Int) (v:Int):Zd K (es.push ⟨K.enc k,I6 v,cl⟩) (cl+1) (l++ [(k,v)]):=by
 refine⟨by simp[h.pairs],?_,fun e he=>?_⟩
 ·simp only[Array.toList_push,List.map_append,mP,List.map_nil];rw[List.pairwise_append];refine⟨h.rise,by simp,fun a ha b hb=>?_⟩
  obtain⟨e,he,rfl⟩:=List.mem_map.1 ha
  simp at hb
  rw[hb];exact h.low e he
 simp only[Array.toList_push,List.mem_append,List.mem_singleton]at he
 rcases he with he|rfl
 ·have:=h.low e he;omega
 simp
theorem Zd.modify {K:JQ} {es:Array MapEntry} {l:List ((Int × Int) × Int)} (h:Zd K es cl l) {n:Nat} {k:Int × Int} (hn:l[n]? =some (k,z)) (f:MapEntry->MapEntry) (v:Int) (hf:∀e,(f e).born=e.born) (hg:∀e,e.key=K.enc k->e.val=I6 z->(f e).key=K.enc k/\(f e).val=I6 v):Zd K (es.modify n f) cl (l.set n (k,v)):=by
 have hb:(es.modify n f).toList.map (·.born)=es.toList.map (·.born):=by rw[Array.toList_modify];exact zbT f hf es.toList n
 refine⟨?_,by rw[hb];exact h.rise,fun e he=>?_⟩
 ·have hp:=h.pairs;rw[Array.toList_modify]
  apply List.ext_getElem?
  intro j;have hj:=congrArg (fun(x:List (Value × Value))=>x[j]?) hp
  simp only[List.getElem?_map,List.getElem?_modify,List.getElem?_set]at hj⊢
  by_cases e:n=j
  ·subst e;rw[hn]at hj;have hnl:=(gS.1 hn).1
   cases hq:es.toList[n]? with
   | none=>rw[hq]at hj;simp at hj
   | some e0=>
    rw[hq]at hj
    simp at hj
    obtain⟨g1,g2⟩:=hg e0 hj.1 hj.2
    simp[hnl,g1,g2]
  simp only[e,if_false]at hj⊢
  cases hq:es.toList[j]? <;> rw[hq]at hj <;> simpa using hj
 have:e.born∈es.toList.map (·.born):=by rw[<-hb];exact List.mem_map.2 ⟨e,he,rfl⟩
 obtain⟨e',he',h'⟩:=List.mem_map.1 this;rw[<-h'];exact h.low e' he'
theorem Zd.at {K:JQ} {es:Array MapEntry} {l:List ((Int × Int) × Int)} (h:Zd K es cl l) {n:Nat} {k:Int × Int} (hn:l[n]? =some (k,z)):∃e0,es[n]? =some e0/\e0.key=K.enc k/\e0.val=I6 z:=by
 have:=congrArg (fun(x:List (Value × Value))=>x[n]?) h.pairs
 simp only[List.getElem?_map,hn,Option.map_some]at this
 cases hq:es[n]? with
 | none=>simp[hq]at this
 | some e0=>simp[hq]at this;exact⟨e0,rfl,this.1,this.2⟩
theorem zgx:∀{l:List Nat},l.Pairwise (·< ·)->∀{i j:Nat} {x:Nat},l[i]? =some x->l[j]? =some x->i=j
 | [],_,i,j,x,h,_=>by simp at h
 | a :: l,hp,i,j,x,h,h'=>by
  rw[List.pairwise_cons]at hp
  cases i with
  | zero=>
   cases j with
   | zero=>rfl
   | succ j=>
    simp at h h'
    subst h;have:=hp.1 a (mG h');omega
  | succ i=>
   cases j with
   | zero=>
    simp at h h'
    subst h';have:=hp.1 a (mG h);omega
   | succ j=>
    simp at h h'
    rw[zgx hp.2 h h']
theorem zbV {K:JQ} {es es':Array MapEntry} {cl':Nat} {l:List ((Int × Int) × Int)} {g:Int × Int->Option Int} {k:Int × Int} {v:Int} (h1:w.heap[b]? =some (.map es cl)) (h3:∀k,JR l k=g k) (hs:Zd K es' cl' (zfn l k v)):
  j5 K (ChangeMaps.setBlock w b (.map es' cl')) b (fun x=>if x=k then some v else g x)/\w.grownBy (ChangeMaps.setBlock w b (.map es' cl')) (some b)/\(ChangeMaps.setBlock w b (.map es' cl')).heap.size=w.heap.size:=by
 refine⟨⟨es',cl',zfn l k v,ChangeMaps.heap_setBlock_same h1 _,⟨hs.pairs,hs.rise,hs.low⟩,fun x=>?_⟩,⟨rfl,rfl,rfl,by simp[ChangeMaps.setBlock],fun i _ hi=>ChangeMaps.heap_setBlock_other h1 _ (fun e=>hi (by rw[e]))⟩,by simp[ChangeMaps.setBlock]⟩
 rw[zaA,h3]
theorem j5.put {K:JQ} {g:Int × Int->Option Int} (h:j5 K w b g) (ht:Tryz.prog.underlying t=some (.map K.ty e)) (k:Int × Int) (v:Int):
  ∃w',(Instr.mapUpdate t (.map (some b)) (K.enc k) (I6 v)).run prog w= .ok () w'/\j5 K w' b (fun x=>if x=k then some v else g x)/\w.grownBy w' (some b)/\w'.heap.size=w.heap.size:=by
 obtain⟨es,cl,l,h1,⟨h2,h4,h5⟩,h3⟩:=h;have hst:Zd K es cl l:=⟨h2,h4,h5⟩;have hf:=J6 K k w l es.toList h2
 cases hp:zb8 l k 0 with
 | none=>
  rw[hp]at hf;have hput:=(JO hp).2 v;refine⟨ChangeMaps.setBlock w b (.map (es.push ⟨K.enc k,I6 v,cl⟩) (cl+1)),?_,zbV h1 h3 (by rw[hput];exact hst.push k v)⟩
  simp[Instr.mapUpdate,run_underlying ht,MapKept.run_getObj_map h1,K.check,hf,MapKept.run_setObj_map _ h1,ChangeMaps.setBlock]
 | some q=>
  obtain⟨j,u⟩:=q;rw[hp]at hf;obtain⟨n,z,rfl,rfl,h6,_,h7⟩:=JN hp;rw[zA]at hf;obtain⟨e0,he0,hk0,_⟩:=hst.at h6;refine⟨ChangeMaps.setBlock w b (.map (es.modify n fun e=>{ e with key:=K.enc k,val:=I6 v }) cl),?_,zbV h1 h3 (by rw[h7];exact hst.modify h6 _ v (fun _=>rfl) (fun _ _ _=>⟨rfl,rfl⟩))⟩
  simp[Instr.mapUpdate,run_underlying ht,MapKept.run_getObj_map h1,K.check,hf,he0,hk0,Instr.keyThatStays,K.bits,MapKept.run_setObj_map _ h1,ChangeMaps.setBlock]
def zk4 (K:JQ) (w:World) (b:Nat) (g:Int × Int->Option Int) (k:Int × Int) (st:Int):Prop:=
 ∃es cl l,w.heap[b]? =some (.map es cl)/\Zd K es cl l/\(∀k,JR l k=g k)/\∃(n:Nat) (z:Int) (e:MapEntry),l[n]? =some (k,z)/\(∀v,zfn l k v=l.set n (k,v))/\es[n]? =some e/\(e.born:Int)=st
theorem zk4.f {K:JQ} {g:Int × Int->Option Int} {k:Int × Int} {st:Int} (h:zk4 K w b g k st):j5 K w b g:=by
 obtain⟨es,cl,l,h1,h2,h3,_⟩:=h;exact⟨es,cl,l,h1,⟨h2.pairs,h2.rise,h2.low⟩,h3⟩
theorem zea:∀{l:List ((Int × Int) × Int)} {k:Int × Int} (z v:Int),JR l k=none->zfn (l++ [(k,z)]) k v=(l++ [(k,z)]).set l.length (k,v)
 | [],k,z,v,_=>by simp[zfn]
 | p :: l,k,z,v,h=>by
  unfold JR at h
  by_cases e:k=p.1
  ·rw[if_pos e]at h;cases h
  rw[if_neg e]at h;simp only[List.cons_append,zfn,e,if_false,List.length_cons,sS];rw[zea z v h]
theorem j5.entry {K:JQ} {g:Int × Int->Option Int} (h:j5 K w b g) (ht:Tryz.prog.underlying t=some (.map K.ty e)) (hz:(zeroValue e).run prog w= .ok (I6 0) w) (k:Int × Int):
  ∃w' st,(Instr.mapEntry t (.map (some b)) (K.enc k)).run prog w= .ok (.tuple #[I6 ((g k).getD 0),I6 st]) w'/\zk4 K w' b (fun x=>if x=k then some ((g k).getD 0)else g x) k st/\w.grownBy w' (some b)/\w'.heap.size=w.heap.size:=by
 obtain⟨es,cl,l,h1,⟨h2,h4,h5⟩,h3⟩:=h;have hst:Zd K es cl l:=⟨h2,h4,h5⟩;have hf:=J6 K k w l es.toList h2
 cases hp:zb8 l k 0 with
 | none=>
  rw[hp]at hf;obtain⟨hno,hput⟩:=JO hp;have hg:g k=none:=by rw[<-h3];exact hno
  have hs':=hst.push k 0;have hm:=zbV h1 h3 (k:=k) (v:=0) (by rw[hput];exact hs')
  refine⟨ChangeMaps.setBlock w b (.map (es.push ⟨K.enc k,I6 0,cl⟩) (cl+1)),cl,?_,⟨_,_,_,ChangeMaps.heap_setBlock_same h1 _,hs',fun x=>?_,l.length,0,⟨K.enc k,I6 0,cl⟩,by simp,fun v=>zea 0 v hno,?_,rfl⟩,hm.2⟩
  ·rw[hg]
   simp[Instr.mapEntry,run_underlying ht,MapKept.run_getObj_map h1,K.check,hf,hz,MapKept.run_setObj_map _ h1,ChangeMaps.setBlock,goInt]
  ·rw[hg,<-hput,zaA,h3];rfl
  have:es.size=l.length:=by have:=congrArg List.length h2;simpa using this
  simp[<-this]
 | some q=>
  obtain⟨j,u⟩:=q;rw[hp]at hf;obtain⟨n,z,rfl,rfl,h6,h8,h7⟩:=JN hp;rw[zA]at hf;obtain⟨e0,he0,hk0,hv0⟩:=hst.at h6;have hg:g k=some z:=by rw[<-h3];exact h8
  have hs':Zd K (es.modify n fun e=>{ e with key:=K.enc k }) cl (l.set n (k,z)):=hst.modify h6 (fun e=>{ e with key:=K.enc k }) z (fun _=>rfl) (fun _ _ hv=>⟨rfl,hv⟩)
  have hm:=zbV h1 h3 (k:=k) (v:=z) (by rw[h7];exact hs')
  have hnl:=(gS.1 h6).1;refine⟨ChangeMaps.setBlock w b (.map (es.modify n fun e=>{ e with key:=K.enc k }) cl),e0.born,?_,⟨_,_,_,ChangeMaps.heap_setBlock_same h1 _,hs',fun x=>?_,n,z,{ e0 with key:=K.enc k },sF hnl,fun v=>?_,?_,rfl⟩,hm.2⟩
  ·rw[hg]
   simp[Instr.mapEntry,run_underlying ht,MapKept.run_getObj_map h1,K.check,hf,he0,hk0,Instr.keyThatStays,K.bits,MapKept.run_setObj_map _ h1,ChangeMaps.setBlock,goInt]
  ·rw[hg,<-h7,zaA,h3];rfl
  ·rw[zdh h6,h7]
  rw[Array.getElem?_modify,if_pos rfl,he0];rfl
theorem zk4.store {K:JQ} {g:Int × Int->Option Int} {k:Int × Int} {st:Int} (h:zk4 K w b g k st) (t:TypeId) (v:Int):
  ∃w',(Instr.entryStore t (.map (some b)) (I6 st) (I6 v)).run prog w= .ok () w'/\j5 K w' b (fun x=>if x=k then some v else g x)/\w.grownBy w' (some b)/\w'.heap.size=w.heap.size:=by
 obtain⟨es,cl,l,h1,hst,h3,n,z,e0,h6,h7,he0,rfl⟩:=h;have hnl:n<es.size:=(aS.1 he0).1;have hfind:es.findIdx? (fun e=>(e.born:Int) ==(e0.born:Int))=some n:=by
  rw[Array.findIdx?_eq_some_iff_getElem];refine⟨hnl,?_,fun j hj=>?_⟩
  ·have:es[n]=e0:=(aS.1 he0).2
   simp[this]
  intro hc;have hjl:j<es.size:=by omega
  have hc':es[j].born=e0.born:=by
   have:(es[j].born:Int)=(e0.born:Int):=by simpa using hc
   omega
  have q1:(es.toList.map (·.born))[n]? =some e0.born:=by simp[he0]
  have q2:(es.toList.map (·.born))[j]? =some e0.born:=by simp[hjl,hc']
  have:=zgx hst.rise q1 q2;omega
 refine⟨ChangeMaps.setBlock w b (.map (es.modify n fun e=>{ e with val:=I6 v }) cl),?_,zbV h1 h3 (by rw[h7];exact hst.modify h6 _ v (fun _=>rfl) (fun _ hk _=>⟨hk,rfl⟩))⟩
 simp[Instr.entryStore,MapKept.run_getObj_map h1,asInt,asIntOf,hfind,MapKept.run_setObj_map _ h1,ChangeMaps.setBlock]
theorem zhz {K:JQ} {rest:List Oper} {a:Act} (hgd:o.guard=none) (t e:TypeId) (m x v:Operand) (hop:o.op= .mapUpdate t m x v) (ht:Tryz.prog.underlying t=some (.map K.ty e)) (b:Nat) (g:Int × Int->Option Int) (h:j5 K w b g) (k:Int × Int) (z:Int)
  (hm:a.eval m= .map (some b)) (hx:a.eval x=K.enc k) (hv:a.eval v=I6 z)
  (hK:∀w',j5 K w' b (fun x=>if x=k then some z else g x)->w.grownBy w' (some b)->w'.heap.size=w.heap.size->wpList prog ops Q rest (a.put o.dst undef) w'):wpList prog ops Q (o :: rest) a w:=by
 refine wpList_plain hgd fun K' hK'=>?_
 obtain⟨w',hrun,r1,r2,r3⟩:=h.put ht k z;unfold Oper.wp
 simp[execOp,hop,hm,hx,hv,hrun,Result.andThen]
 exact hK' _ _ (hK w' r1 r2 r3)
theorem zhO (em:Bool) (a:Int × Int) (w:World):(Instr.checkKey em 10000 177 (.agg #[I6 a.1,I6 a.2])).run prog w= .ok () w:=by
 have hf : (Tryz.prog.fieldsOf 177).toList.map (fun f => (f.name, f.type, f.offset)) = [("file", 3, 0), ("index", 3, 1)] := by kernel_rfl
 have hu:∃fs,Tryz.prog.underlying 177=some (.struct fs)/\Tryz.prog.fieldsOf 177=fs:=⟨_,underlying177,by kernel_rfl⟩
 obtain⟨fs,hu,hfe⟩:=hu;rw[hfe]at hf;obtain⟨f0,f1,hfs⟩:∃f0 f1,fs.toList=[f0,f1]:=by
  have hl:fs.toList.length=2:=by have:=congrArg List.length hf;simpa using this
  match hq:fs.toList,hl with
  | [f0,f1],_=>exact⟨f0,f1,rfl⟩
 rw[hfs]at hf
 simp at hf
 obtain⟨⟨n0,t0,o0⟩,⟨n1,t1,o1⟩⟩:=hf;have pI:∀(zs:Array Value) (o:Nat) v,zs[o]? =some (I6 v)->(part 3 zs o).run prog w= .ok (I6 v) w:=fun zs o v hz=>run_part_plain w (by simp[Program.plainKey,underlying3]) hz
 have pB:∀(zs:Array Value) (o:Nat) v,zs[o]? =some (.bool v)->(part 4 zs o).run prog w= .ok (.bool v) w:=fun zs o v hz=>run_part_plain w (by simp[Program.plainKey,underlying4]) hz
 have cI:∀(v:Int) (n:Nat),(Instr.checkKey em (n+1) 3 (I6 v)).run prog w= .ok () w:=fun v n=>by
  unfold Instr.checkKey
  simp[run_underlying underlying3]
 have cB:∀(v:Bool) (n:Nat),(Instr.checkKey em (n+1) 4 (.bool v)).run prog w= .ok () w:=fun v n=>by
  unfold Instr.checkKey
  simp[run_underlying underlying4]
 rw[show(10000:Nat)=9999+1 from rfl,Instr.checkKey]
 simp only[Sem.run_bind,run_underlying hu,rA];rw[<-Array.forIn_toList,hfs];have k1:=cI a.1 9998;have k2:=cI a.2 9998;have k3:=cB false 9998;have q0:=pI (#[I6 a.1,I6 a.2]) 0 a.1 rfl;have q1:=pI (#[I6 a.1,I6 a.2]) 1 a.2 rfl
 simp[List.forIn_cons,n0,t0,o0,n1,t1,o1,q0,q1,k1,k2]
theorem zjd (a b:Int × Int) (w:World):(Op.equal 177 (.agg #[I6 a.1,I6 a.2]) (.agg #[I6 b.1,I6 b.2])).run prog w= .ok (decide (a=b)) w:=by
 have hf : (Tryz.prog.fieldsOf 177).toList.map (fun f => (f.name, f.type, f.offset)) = [("file", 3, 0), ("index", 3, 1)] := by kernel_rfl
 unfold Op.equal Op.maxDepth;rw[run_equalIn_struct w 9999 177 _ _ (by kernel_rfl) (by kernel_rfl)]
 obtain⟨f0,f1,hfs⟩:∃f0 f1,(Tryz.prog.fieldsOf 177).toList=[f0,f1]:=by
  have hl:(Tryz.prog.fieldsOf 177).toList.length=2:=by have:=congrArg List.length hf;simpa using this
  match hq:(Tryz.prog.fieldsOf 177).toList,hl with
  | [f0,f1],_=>exact⟨f0,f1,rfl⟩
 rw[hfs]at hf⊢
 simp at hf
 obtain⟨⟨n0,t0,o0⟩,⟨n1,t1,o1⟩⟩:=hf;have pI:∀(zs:Array Value) (o:Nat) v,zs[o]? =some (I6 v)->(part 3 zs o).run prog w= .ok (I6 v) w:=fun zs o v hz=>run_part_plain w (by simp[Program.plainKey,underlying3]) hz
 have pB:∀(zs:Array Value) (o:Nat) v,zs[o]? =some (.bool v)->(part 4 zs o).run prog w= .ok (.bool v) w:=fun zs o v hz=>run_part_plain w (by simp[Program.plainKey,underlying4]) hz
 simp only[Op.eqFields,n0,t0,o0,n1,t1,o1];obtain⟨a1,a2⟩:=a;obtain⟨b1,b2⟩:=b
 simp[pI,run_equalIn_int w _ _ _ _ _ _ underlying3]
 by_cases e1:a1=b1 <;> by_cases e2:a2=b2 <;> simp[e1,e2]
def plK:JQ where
 ty:=177
 enc:=fun a=> .agg #[I6 a.1,I6 a.2]
 und:=⟨_,underlying177⟩
 check:=zhO
 same:=zjd
 bits:=fun a=>by simp[Instr.sameBits]
theorem ziz (em:Bool) (a:Int × Int) (w:World):(Instr.checkKey em 10000 67 (.agg #[I6 a.1,I6 a.2,.bool false])).run prog w= .ok () w:=by
 have hf : (Tryz.prog.fieldsOf 67).toList.map (fun f => (f.name, f.type, f.offset)) = [("Kind", 3, 0), ("N", 3, 1), ("Write", 4, 2)] := by kernel_rfl
 have hu:∃fs,Tryz.prog.underlying 67=some (.struct fs)/\Tryz.prog.fieldsOf 67=fs:=⟨_,underlying67,by kernel_rfl⟩
 obtain⟨fs,hu,hfe⟩:=hu;rw[hfe]at hf;obtain⟨f0,f1,f2,hfs⟩:∃f0 f1 f2,fs.toList=[f0,f1,f2]:=by
  have hl:fs.toList.length=3:=by have:=congrArg List.length hf;simpa using this
  match hq:fs.toList,hl with
  | [f0,f1,f2],_=>exact⟨f0,f1,f2,rfl⟩
 rw[hfs]at hf
 simp at hf
 obtain⟨⟨n0,t0,o0⟩,⟨n1,t1,o1⟩,⟨n2,t2,o2⟩⟩:=hf;have pI:∀(zs:Array Value) (o:Nat) v,zs[o]? =some (I6 v)->(part 3 zs o).run prog w= .ok (I6 v) w:=fun zs o v hz=>run_part_plain w (by simp[Program.plainKey,underlying3]) hz
 have pB:∀(zs:Array Value) (o:Nat) v,zs[o]? =some (.bool v)->(part 4 zs o).run prog w= .ok (.bool v) w:=fun zs o v hz=>run_part_plain w (by simp[Program.plainKey,underlying4]) hz
 have cI:∀(v:Int) (n:Nat),(Instr.checkKey em (n+1) 3 (I6 v)).run prog w= .ok () w:=fun v n=>by
  unfold Instr.checkKey
  simp[run_underlying underlying3]
 have cB:∀(v:Bool) (n:Nat),(Instr.checkKey em (n+1) 4 (.bool v)).run prog w= .ok () w:=fun v n=>by
  unfold Instr.checkKey
  simp[run_underlying underlying4]
 rw[show(10000:Nat)=9999+1 from rfl,Instr.checkKey]
 simp only[Sem.run_bind,run_underlying hu,rA];rw[<-Array.forIn_toList,hfs];have k1:=cI a.1 9998;have k2:=cI a.2 9998;have k3:=cB false 9998;have q0:=pI (#[I6 a.1,I6 a.2,.bool false]) 0 a.1 rfl;have q1:=pI (#[I6 a.1,I6 a.2,.bool false]) 1 a.2 rfl;have q2:=pB (#[I6 a.1,I6 a.2,.bool false]) 2 false rfl
 simp[List.forIn_cons,n0,t0,o0,n1,t1,o1,n2,t2,o2,q0,q1,q2,k1,k2,k3]
theorem zjP (a b:Int × Int) (w:World):(Op.equal 67 (.agg #[I6 a.1,I6 a.2,.bool false]) (.agg #[I6 b.1,I6 b.2,.bool false])).run prog w= .ok (decide (a=b)) w:=by
 have hf : (Tryz.prog.fieldsOf 67).toList.map (fun f => (f.name, f.type, f.offset)) = [("Kind", 3, 0), ("N", 3, 1), ("Write", 4, 2)] := by kernel_rfl
 unfold Op.equal Op.maxDepth;rw[run_equalIn_struct w 9999 67 _ _ (by kernel_rfl) (by kernel_rfl)]
 obtain⟨f0,f1,f2,hfs⟩:∃f0 f1 f2,(Tryz.prog.fieldsOf 67).toList=[f0,f1,f2]:=by
  have hl:(Tryz.prog.fieldsOf 67).toList.length=3:=by have:=congrArg List.length hf;simpa using this
  match hq:(Tryz.prog.fieldsOf 67).toList,hl with
  | [f0,f1,f2],_=>exact⟨f0,f1,f2,rfl⟩
 rw[hfs]at hf⊢
 simp at hf
 obtain⟨⟨n0,t0,o0⟩,⟨n1,t1,o1⟩,⟨n2,t2,o2⟩⟩:=hf;have pI:∀(zs:Array Value) (o:Nat) v,zs[o]? =some (I6 v)->(part 3 zs o).run prog w= .ok (I6 v) w:=fun zs o v hz=>run_part_plain w (by simp[Program.plainKey,underlying3]) hz
 have pB:∀(zs:Array Value) (o:Nat) v,zs[o]? =some (.bool v)->(part 4 zs o).run prog w= .ok (.bool v) w:=fun zs o v hz=>run_part_plain w (by simp[Program.plainKey,underlying4]) hz
 simp only[Op.eqFields,n0,t0,o0,n1,t1,o1,n2,t2,o2];obtain⟨a1,a2⟩:=a;obtain⟨b1,b2⟩:=b
 simp[pI,pB,run_equalIn_bool' w _ _ _ _ underlying4,run_equalIn_int w _ _ _ _ _ _ underlying3]
 by_cases e1:a1=b1 <;> by_cases e2:a2=b2 <;> simp[e1,e2]
def enK:JQ where
 ty:=67
 enc:=fun a=> .agg #[I6 a.1,I6 a.2,.bool false]
 und:=⟨_,underlying67⟩
 check:=ziz
 same:=zjP
 bits:=fun a=>by simp[Instr.sameBits]
theorem Box.ne_map {K:JQ} {cs:List Value} {g:Int × Int->Option Int} (h:Box w b cs) (k:j5 K w B g):b≠B:=fun e=>by
 subst e;obtain⟨t,h⟩:=h;obtain⟨es,cl,l,k1,_⟩:=k;rw[h]at k1;cases k1
theorem zb.ne_map {α:Type} {E:Elt α} {K:JQ} {base:Nat} {v:Value} {l:List α} {g:Int × Int->Option Int} (h:zb E base w v l) (k:j5 K w B g):∀x,v.ownBlock=some x->some B≠some x:=fun x hx e=>by
 cases e;obtain⟨cs,h1⟩:=h.obj hx;obtain⟨es,cl,l,k1,_⟩:=k;rw[h1]at k1;cases k1
theorem zl6 (w:World):(zeroValue 3).run prog w= .ok (I6 0) w:=by kernel_rfl
theorem QE (V:MaV) (m:Ma) (w:World) (hm:zH w V m):
  Calls prog 58 #[.agg (mL V m).toArray] w fun e w'=>∃B,e= .returned (.agg #[V.f.x,I6 m.hand,V.s.x,V.sb.x,V.sq.x,V.db.x,V.dq.x,V.fl.x,I6 m.cnt,V.ca.x,V.sp.x,.map (some B)])/\j5 plK w' B (j9 m.ca)/\zc w w':=by
 obtain⟨vf,vs,vsb,vsq,vdb,vdq,vfl,⟨caa,can,cac⟩,vsp⟩:=V;dsimp only[mL];obtain⟨-,-,-,-,-,-,-,n8,-⟩:=hm.ns;dsimp only at n8;have HR:Hid (J1 w caa m.ca):=hm.cas;have HN:Hid (m.ca.length=can):=n8.symm;have hbig:can<=9223372036854775807:=by have:=hm.ca.short;omega
 clear hm n8;have hmm:=@run_makeMap prog;obtain⟨W0,hW0⟩:∃W0,((w.alloc (.cells #[vf.x,I6 m.hand,vs.x,vsb.x,vsq.x,vdb.x,vdq.x,vfl.x,I6 m.cnt,.slice caa can cac,vsp.x] 40)).alloc (.cells #[eS,I6 0,eS,eS,eS,eS,eS,eS,I6 0,eS,eS,.map none] 117)).alloc (.map #[] 0)=W0:=⟨_,rfl⟩;have HG0:Hid (zc w W0):=dD<|by rw[<-hW0];exact((za _ _).trans (za _ _)).trans (za _ _)
 have X0:Hid (Box W0 w.heap.size [vf.x,I6 m.hand,vs.x,vsb.x,vsq.x,vdb.x,vdq.x,vfl.x,I6 m.cnt,.slice caa can cac,vsp.x]):=dD<|by rw[<-hW0];exact((Box.top _ _ _ rfl).alloc _).alloc _
 have Y0:Hid (Box W0 (w.heap.size+1) [eS,I6 0,eS,eS,eS,eS,eS,eS,I6 0,eS,eS,.map none]):=dD<|by rw[<-hW0];exact(Box.top _ _ _ (by simp)).alloc _
 have M0:Hid (j5 plK W0 (w.heap.size+1+1) (j9 (m.ca.take 0))):=dD<|by
  rw[<-hW0];have:=j5.made plK ((w.alloc (.cells #[vf.x,I6 m.hand,vs.x,vsb.x,vsq.x,vdb.x,vdq.x,vfl.x,I6 m.cnt,.slice caa can cac,vsp.x] 40)).alloc (.cells #[eS,I6 0,eS,eS,eS,eS,eS,eS,I6 0,eS,eS,.map none] 117));have hs:((w.alloc (.cells #[vf.x,I6 m.hand,vs.x,vsb.x,vsq.x,vdb.x,vdq.x,vfl.x,I6 m.cnt,.slice caa can cac,vsp.x] 40)).alloc (.cells #[eS,I6 0,eS,eS,eS,eS,eS,eS,I6 0,eS,eS,.map none] 117)).heap.size=w.heap.size+1+1:=by simp
  rw[hs]at this;exact this.congr fun k=>by rw[List.take_zero];rfl
 have HW0:Hid (_=W0):=hW0;clear hW0
 go_enter func58,ntmps58
 go_upto_region 2 with fail;rw[HW0.out];clear hmm;have x9:=X0.c 9 rfl;go_wp2;clear x9
 go_loopg [10] can (fun gg s10 wr=>∃kk:Nat,kk<=can/\can - kk<=gg/\s10=I6 kk/\Hid (zc w wr)/\Hid (Box wr w.heap.size [vf.x,I6 m.hand,vs.x,vsb.x,vsq.x,vdb.x,vdq.x,vfl.x,I6 m.cnt,.slice caa can cac,vsp.x])/\Hid (Box wr (w.heap.size+1) [eS,I6 0,eS,eS,eS,eS,eS,eS,I6 0,eS,eS,.map none])/\Hid (j5 plK wr (w.heap.size+1+1) (j9 (m.ca.take kk))))
 case atStart=>exact⟨0,nZ _,by omega,rfl,HG0,X0,Y0,M0⟩
 obtain⟨kk,hkk,hgg,rfl,BW,XW,YW,MW⟩:=hrel
 by_cases hlt:kk<can
 ·have hltz:(kk:Int)< (can:Int):=by omega
  obtain⟨c,HC⟩:∃c,Hid (m.ca[kk]? =some c):=⟨_,gE (by rw[HN.out];exact hlt)⟩
  obtain⟨ad,rfl,hl⟩:=HR.out kk c HC.out;obtain⟨d0,d1,d2⟩:=hl wr BW.out;clear hl;go_upto_region 5 with fail;obtain⟨W1,hW1⟩:∃W1,wr.alloc (.cells #[I6 c.file,I6 c.idx,I6 c.fr] 83)=W1:=⟨_,rfl⟩;have HG1:=gT hW1 BW
  have X1:=yA hW1 XW
  have Y1:=yA hW1 YW
  have M1:Hid (j5 plK W1 (w.heap.size+1+1) (j9 (m.ca.take kk))):=dD<|by rw[<-hW1];exact MW.grew (za _ _)
  have C1:=xA hW1
  rw[hW1];clear hW1 d0 d1 d2;obtain⟨c0,c1,c2⟩:=C1.c3
  go_wp2_with (refine zhz (K:=plK) rfl 115 3 (.tmp 14) (.tmp 19) (.tmp 21) rfl underlying115 (w.heap.size+1+1) _ M1 (c.file,c.idx) c.fr rfl rfl rfl ?_)
  clear c0 c1 c2;intro W2 m2 hg2 _;have M2:Hid (j5 plK W2 (w.heap.size+1+1) (j9 (m.ca.take (kk+1)))):=dD<|m2.congr fun k=>by rw[qt HC.out,zet]
  have HG2:Hid (zc w W2):=dD<|ze HG1 hg2 (by omega)
  have X2:Hid (Box W2 w.heap.size [vf.x,I6 m.hand,vs.x,vsb.x,vsq.x,vdb.x,vdq.x,vfl.x,I6 m.cnt,.slice (some ad) can cac,vsp.x]):=X1.grown hg2 (by omega)
  have Y2:Hid (Box W2 (w.heap.size+1) [eS,I6 0,eS,eS,eS,eS,eS,eS,I6 0,eS,eS,.map none]):=Y1.grown hg2 (by omega)
  clear m2 hg2;go_wp2
  go_roundg (can -(kk+1))
  case measure=>omega
  exact⟨kk+1,by omega,by omega,by go_num,HG2,X2,Y2,M2⟩
 have hltz:¬(kk:Int)< (can:Int):=by omega
 have:kk=can:=by omega
 subst this;have MA1:Hid (j5 plK wr (w.heap.size+1+1) (j9 m.ca)):=dD<|by
  have:=MW.out;rw[List.take_of_length_le (by rw[HN.out];exact nR _)]at this
  exact this
 obtain⟨x0,x1,x2,x3,x4,x5,x6,x7,x8,x9,x10⟩:=XW.c11
 go_wp2_with (refine zn rfl 117 (.tmp 2) (.tmp 25) rfl (w.heap.size+1) rfl [vf.x,I6 m.hand,vs.x,vsb.x,vsq.x,vdb.x,vdq.x,vfl.x,I6 m.cnt,.slice caa kk cac,vsp.x,.map (some (w.heap.size+1+1))] rfl YW rfl (by kernel_rfl) (fun v hv=>by
  simp only[mC,nM,or_false]at hv
  rcases hv with rfl|rfl|rfl|rfl|rfl|rfl|rfl|rfl|rfl|rfl|rfl|rfl <;> rfl) ?_)
 clear x0 x1 x2 x3 x4 x5 x6 x7 x8 x9 x10;intro W5 hb5 hg5 _;have G5:Hid (zc w W5):=dD<|ze BW hg5 (by omega)
 have M5:Hid (j5 plK W5 (w.heap.size+1+1) (j9 m.ca)):=MA1.kept hg5 (by simp)
 go_wp2;refine bodyPost_ret (zT rfl _ rfl hb5 underlying117 rfl (by kernel_rfl)) rfl ⟨_,rfl,M5,G5⟩
theorem zdA (V:MaV) (m:Ma) (B k:Nat) (g:Int × Int->Option Int) (w:World) (hm:zH w V m) (hk:k<m.fs.length) (hmap:j5 plK w B g):
  Calls prog 95 #[.agg #[V.f.x,I6 m.hand,V.s.x,V.sb.x,V.sq.x,V.db.x,V.dq.x,V.fl.x,I6 m.cnt,V.ca.x,V.sp.x,.map (some B)],I6 (k:Int)] w fun e w'=>e= .returned (.bool (decide (g ((qe m k).f,(qe m k).x)=some (k:Int))))/\zc w w':=by
 obtain⟨⟨fa,fn,fc⟩,vs,vsb,vsq,vdb,vdq,vfl,vca,vsp⟩:=V;dsimp only[mL];obtain⟨n1,-⟩:=hm.ns;dsimp only at n1;have hkn:k<fn:=by omega
 obtain⟨q,HQ⟩:∃q,Hid (m.fs[k]? =some q):=⟨_,gE hk⟩;have hfr:qe m (k:Int)=q:=by unfold qe;rw[tN,gD,HQ.out];rfl
 rw[hfr];obtain⟨ad,rfl,hl⟩:=(show Zu w fa m.fs from hm.frs) k q HQ.out
 clear hfr hm n1 hk;obtain⟨W1,hW1⟩:∃W1,w.alloc (.cells #[.slice (some ad) fn fc,I6 m.hand,vs.x,vsb.x,vsq.x,vdb.x,vdq.x,vfl.x,I6 m.cnt,vca.x,vsp.x,.map (some B)] 117)=W1:=⟨_,rfl⟩;have HG1:=gA hW1
 have X1:=xA hW1
 have HS1:=sA hW1
 obtain⟨d0,d1,d2,d3,d4,d5,d6,d7,d8,d9,d10,d11,d12⟩:=hl W1 HG1.out;obtain⟨W2,hW2⟩:∃W2,W1.alloc (.cells #[U8 q.p.b0,U8 q.p.b1,U8 q.p.b2,U8 q.p.b3,U8 q.p.b4,U8 q.p.b5,U8 q.p.b6,U8 q.p.b7,I6 q.r,.bool q.u,.bool q.d,I6 q.f,I6 q.x] 59)=W2:=⟨_,rfl⟩;have HG2:=gT hW2 HG1
 have X2:=yA hW2 X1
 have F2:=xP hW2 HS1
 have hlook:(Instr.lookup 115 (.map (some B)) (.agg #[I6 q.f,I6 q.x]) true).run prog W2= .ok (.tuple #[I6 ((g (q.f,q.x)).getD 0),.bool (g (q.f,q.x)).isSome]) W2:=(hmap.grew HG2).look (K:=plK) underlying115 (zl6 W2) (q.f,q.x) true;have HW1:Hid (_=W1):=hW1;have HW2:Hid (_=W2):=hW2;clear hW1 hW2 hl hmap;obtain⟨R,HRR⟩:∃R,Hid (decide (g (q.f,q.x)=some (k:Int))=R):=⟨_,rfl⟩;rw[HRR.out];obtain⟨gv,HGV⟩:∃gv,Hid (g (q.f,q.x)=gv):=⟨_,rfl⟩;rw[HGV.out]at hlook HRR
 go_enter func95,ntmps95
 go_upto_region 1 with fail;rw[HW1.out];have x0:=X1.c 0 rfl;go_upto_region 2 with fail;rw[HW2.out];rw[HS1.out];clear d0 d1 d2 d3 d4 d5 d6 d7 d8 d9 d10 d11 d12 x0;have x11:=X2.c 11 rfl;have f11:=F2.c 11 rfl;have f12:=F2.c 12 rfl
 cases gv with
 | none=>
  simp only[Option.getD_none,Option.isSome_none]at hlook;go_wp2;go_ret;exact⟨by rw[<-HRR.out];rfl,HG2⟩
 | some z=>
  simp only[Option.getD_some,Option.isSome_some]at hlook;have HE:Hid ((z ==(k:Int))=R):=dD<|by rw[<-HRR.out,Bool.eq_iff_iff];simp
  go_wp2;go_ret;exact⟨by rw[<-HE.out];rfl,HG2⟩
end
end Go.Proofs.YtangilolcekceaaGreat
