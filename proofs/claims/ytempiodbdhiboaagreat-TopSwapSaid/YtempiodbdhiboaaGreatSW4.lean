import Derived.Test.YtempiodbdhiboaaGreatSW3
import Derived.Shelf.Bits.Mul64
import Derived.Deep.Cut
namespace Go.Proofs.YtempiodbdhiboaaGreat
open Go.Value renaming slice→O,int→Xe,bool→Xh,agg→Xi,pointer→Xj,tuple→Xm
open Go.IntKind renaming i64→Xf,u8→Xg
open Go.Obj renaming cells→Xk
open Go.Ending renaming returned→Xl
open Go renaming World→Xn,Calls→Xp,Value→Xq
open Go.RowKit renaming Hid→Xo
open Option renaming some→Xa,none→Xb
open Bool renaming true→Xc,false→Xd
open List renaming replicate→Xr
open Go.Act renaming put→Xs
open _root_.List renaming flatMap_append→Xt,take_of_length_le→Xu,countP_le_length→Xw,any_eq_true→Xx,replicate_append_replicate→Xy,take→Xz,drop→Ya,getElem?_append_left→Yb,take_zero→Ye,mem_range→Yf,drop_replicate→Yh,getElem?_map→Yi
open _root_.Nat renaming lt_of_lt_of_le→Xv,le_of_ble_eq_true→Yd,mul_le_mul_right→Yg,min→Yk
open _root_.Bool renaming eq_iff_iff→Yc
open Go.Addr renaming add_lit→Yj
set_option maxRecDepth 100000
set_option maxHeartbeats 4000000
section
open Go.RowKit
def MapH (K:KeyK) (w:Xn) (b:Nat) (H:Int × Int->Int):Prop:=∃g,MapF K w b g/\∀k,(g k).getD 0=H k
theorem MapH.grew {K:KeyK} {w w':Xn} {b:Nat} {H:Int × Int->Int} (h:MapH K w b H) (k:Grew w w'):MapH K w' b H:=by
 obtain⟨g,h1,h2⟩:=h;exact⟨g,h1.grew k,h2⟩
theorem MapH.congr {K:KeyK} {w:Xn} {b:Nat} {H H':Int × Int->Int} (h:MapH K w b H) (e:∀k,H k=H' k):MapH K w b H':=by
 obtain⟨g,h1,h2⟩:=h;exact⟨g,h1,fun k=>(h2 k).trans (e k)⟩
theorem MapH.ne_box {K:KeyK} {w:Xn} {b B:Nat} {cs:List Xq} {H:Int × Int->Int} (k:MapH K w B H) (h:Box w b cs):b≠B:=by
 obtain⟨g,h1,_⟩:=k;exact h.ne_map h1
theorem MapH.ne_own {α:Type} {E:Elt α} {K:KeyK} {w:Xn} {base B:Nat} {v:Xq} {l:List α} {H:Int × Int->Int} (k:MapH K w B H) (h:OwnRow E base w v l):∀x,v.ownBlock=Xa x->Xa B≠Xa x:=by
 obtain⟨g,h1,_⟩:=k;exact h.ne_map h1
def MapEH (K:KeyK) (w:Xn) (b:Nat) (H:Int × Int->Int) (k:Int × Int) (st:Int):Prop:=∃g,MapE K w b g k st/\∀x,(g x).getD 0=H x
theorem MapH.entry {K:KeyK} {w:Xn} {b:Nat} {H:Int × Int->Int} (h:MapH K w b H) {t e:TypeId} (ht:Tryz.prog.underlying t=Xa (.map K.ty e)) (hz:(zeroValue e).run Tryz.prog w= .ok (Xe Xf 0) w) (k:Int × Int):
  ∃w' st,(Instr.mapEntry t (.map (Xa b)) (K.enc k)).run Tryz.prog w= .ok (Xm #[Xe Xf (H k),Xe Xf st]) w'/\MapEH K w' b H k st/\w.grownBy w' (Xa b)/\w'.heap.size=w.heap.size:=by
 obtain⟨g,h1,h2⟩:=h;obtain⟨w',st,r1,r2,r3,r4⟩:=h1.entry ht hz k;rw[h2 k]at r1;refine⟨w',st,r1,⟨_,r2,fun x=>?_⟩,r3,r4⟩
 by_cases e:x=k
 ·subst e;rw[if_pos rfl];exact h2 x
 rw[if_neg e];exact h2 x
theorem MapEH.h {K:KeyK} {w:Xn} {b:Nat} {H:Int × Int->Int} {k:Int × Int} {st:Int} (h:MapEH K w b H k st):MapH K w b H:=by
 obtain⟨g,h1,h2⟩:=h;exact⟨g,h1.f,h2⟩
theorem MapH.look {K:KeyK} {w:Xn} {b:Nat} {H:Int × Int->Int} (h:MapH K w b H) {t e:TypeId} (ht:Tryz.prog.underlying t=Xa (.map K.ty e)) (hz:(zeroValue e).run Tryz.prog w= .ok (Xe Xf 0) w) (k:Int × Int):
  (Instr.lookup t (.map (Xa b)) (K.enc k) Xd).run Tryz.prog w= .ok (Xe Xf (H k)) w:=by
 obtain⟨g,h1,h2⟩:=h;have:=h1.look ht hz k Xd;rw[h2 k]at this;exact this
def addH (H:Int × Int->Int) (k:Int × Int):Int × Int->Int:=fun x=>H x+(if x=k then 1 else 0)
theorem wp_storeEntry {K:KeyK} {w:Xn} {ops:Array Oper} {rest:List Oper} {o:Oper} {a:Act} {Q:Exit->Act->Xn->Prop} (hgd:o.guard=Xb) (t:TypeId) (m s x:Operand) (hop:o.op= .entryStore t m s x) (b:Nat) (H:Int × Int->Int) (k:Int × Int) (st:Int) (h:MapEH K w b H k st)
  (hm:a.eval m= .map (Xa b)) (hs:a.eval s= Xe Xf st) (hv:a.eval x= Xe Xf (H k+1))
  (hK:∀w',MapH K w' b (addH H k)->w.grownBy w' (Xa b)->w'.heap.size=w.heap.size->wpList Tryz.prog ops Q rest (a.put o.dst undef) w'):wpList Tryz.prog ops Q (o :: rest) a w:=by
 refine wpList_plain hgd fun K' hK'=>?_
 obtain⟨g,h1,h2⟩:=h;obtain⟨w',hrun,r1,r2,r3⟩:=h1.store t (H k+1);unfold Oper.wp
 simp[execOp,hop,hm,hs,hv,hrun,Result.andThen]
 refine hK' _ _ (hK w' ⟨_,r1,fun y=>?_⟩ r2 r3)
 unfold addH
 by_cases e:y=k
 ·subst e;rw[if_pos rfl,if_pos rfl];rfl
 rw[if_neg e,if_neg e,h2 y];omega
theorem heldC_le (l:List Ca) (key:Int × Int):0<=heldC l key/\heldC l key<=l.length:=by
 unfold heldC cachedN
 split
 ·have:=Xw (p:=fun c:Ca=>decide (c.fr=key.2)) (l:=l)
  omega
 omega
theorem pagesN_len (s:Sp):(pagesN s).length<=64:=by
 unfold pagesN;have:=List.length_filter_le (fun n=>enS (flatN s n)) (List.range 64)
 simpa using this
theorem held_le (m:Ma) (i:Nat) (l:List Nat) (s:Sp) (key:Int × Int):0<=heldTo m i l s key/\heldTo m i l s key<=m.ca.length+64*m.sp.length+l.length:=by
 unfold heldTo;have h1:(if key.1=1 then cachedN m.ca key.2 else 0)<=m.ca.length:=by
  split
  ·exact Xw
  omega
 have h2:∀(L:List Sp),(L.map fun s=>(pagesN s).countP fun n=>isE (flatN s n) key.1 key.2).sum<=64*L.length:=by
  intro L
  induction L with
  | nil=>simp
  | cons a L ih=>
   have h3:=Xw (p:=fun n=>isE (flatN a n) key.1 key.2) (l:=pagesN a)
   have h4:=pagesN_len a;simp only[mP,List.sum_cons,List.length_cons];omega
 have h5:=h2 (m.sp.take i);have h6:(m.sp.take i).length<=m.sp.length:=by simp;omega
 have h7:=Xw (p:=fun n=>isE (flatN s n) key.1 key.2) (l:=l)
 omega
def sp00:Sp:=⟨Xc,[],[]⟩
theorem holders_any (V:MaV) (m:Ma) (w:Xn) (hm:MachAt w V m) (hsp4:m.sp.length<=4) (htb:∀s∈m.sp,tbW s.tb=0):
  Xp Tryz.prog 71 #[Xi #[O V.f.a V.f.n V.f.c,Xe Xf m.hand,O V.s.a V.s.n V.s.c,O V.sb.a V.sb.n V.sb.c,O V.sq.a V.sq.n V.sq.c,O V.db.a V.db.n V.db.c,O V.dq.a V.dq.n V.dq.c,O V.fl.a V.fl.n V.fl.c,Xe Xf m.cnt,O V.ca.a V.ca.n V.ca.c,O V.sp.a V.sp.n V.sp.c]] w fun e w'=>∃B,e= Xl (.map (Xa B))/\MapH enK w' B (heldTo m m.sp.length [] sp00)/\Grew w w':=by
 obtain⟨vf,vs,vsb,vsq,vdb,vdq,vfl,⟨caa,can,cac⟩,⟨spa,spn,spc⟩⟩:=V;dsimp only;obtain⟨-,-,-,-,-,-,-,n8,n9⟩:=hm.ns;dsimp only at n8 n9;have HR:Xo (CaRows w caa m.ca):=hm.cas;have HN:Xo (m.ca.length=can):=n8.symm;have hbig:can<=140737488355328:=by have:=hm.ca.2;have h24:cchE.bytes=24:=rfl;rw[h24]at this;omega
 obtain⟨xs,hxl,hrow,hsp⟩:=hm.spaces;have HXL:Xo (xs.length=m.sp.length):=hxl;have HRS:Xo (∀(j:Nat) x,xs[j]? =Xa x->∃ad,spa=Xa ad/\∀W,Grew w W->Sp10 W (ad.add (j*10)) x):=hrow;have HSP:Xo (∀(i:Nat) x s,xs[i]? =Xa x->m.sp[i]? =Xa s->SpaceAt w x s):=hsp;have HNS:Xo (m.sp.length=spn):=n9.symm;have HTBS:Xo (∀s∈m.sp,tbW s.tb=0):=htb;have HC0:Xo (∀j key,0<=heldC (m.ca.take j) key/\heldC (m.ca.take j) key<=140737488355328):=show∀j key,_ from fun j key=>by
  have h1:=heldC_le (m.ca.take j) key;have h2:(m.ca.take j).length<=m.ca.length:=by simp;omega
  omega
 have HH0:Xo (∀i l s key,l.length<=64->0<=heldTo m i l s key/\heldTo m i l s key<=140737488360000):=show∀i l s key,_ from fun i l s key hl=>by
  have h1:=held_le m i l s key;omega
 have hsn4:spn<=4:=by omega
 clear hm n8 n9 hxl hrow hsp hsp4 htb;have hmm:=@run_makeMap Tryz.prog;obtain⟨W0,hW0⟩:∃W0,(w.alloc (Xk #[O vf.a vf.n vf.c,Xe Xf m.hand,O vs.a vs.n vs.c,O vsb.a vsb.n vsb.c,O vsq.a vsq.n vsq.c,O vdb.a vdb.n vdb.c,O vdq.a vdq.n vdq.c,O vfl.a vfl.n vfl.c,Xe Xf m.cnt,O caa can cac,O spa spn spc] 42)).alloc (.map #[] 0)=W0:=⟨_,rfl⟩;have HG0:Xo (Grew w W0):=show Grew _ _ by rw[<-hW0];exact(grew_alloc _ _).trans (grew_alloc _ _)
 have X0:Xo (Box W0 w.heap.size [O vf.a vf.n vf.c,Xe Xf m.hand,O vs.a vs.n vs.c,O vsb.a vsb.n vsb.c,O vsq.a vsq.n vsq.c,O vdb.a vdb.n vdb.c,O vdq.a vdq.n vdq.c,O vfl.a vfl.n vfl.c,Xe Xf m.cnt,O caa can cac,O spa spn spc]):=show Box _ _ _ by rw[<-hW0];exact(Box.top _ _ _ rfl).alloc _
 have M0:Xo (MapH enK W0 (w.heap.size+1) (heldC (m.ca.take 0))):=show MapH _ _ _ _ by
  rw[<-hW0];have:=MapF.made enK (w.alloc (Xk #[O vf.a vf.n vf.c,Xe Xf m.hand,O vs.a vs.n vs.c,O vsb.a vsb.n vsb.c,O vsq.a vsq.n vsq.c,O vdb.a vdb.n vdb.c,O vdq.a vdq.n vdq.c,O vfl.a vfl.n vfl.c,Xe Xf m.cnt,O caa can cac,O spa spn spc] 42));have hs:(w.alloc (Xk #[O vf.a vf.n vf.c,Xe Xf m.hand,O vs.a vs.n vs.c,O vsb.a vsb.n vsb.c,O vsq.a vsq.n vsq.c,O vdb.a vdb.n vdb.c,O vdq.a vdq.n vdq.c,O vfl.a vfl.n vfl.c,Xe Xf m.cnt,O caa can cac,O spa spn spc] 42)).heap.size=w.heap.size+1:=by simp
  rw[hs]at this;exact⟨_,this,fun k=>by rw[Ye,heldC_nil];rfl⟩
 have HW0:Xo (_=W0):=hW0;clear hW0
 go_enter Tryz.func71,Tryz.ntmps71
 go_upto_region 2 with fail;rw[HW0.out];clear hmm;have x9:=X0.out.c 9 rfl;go_wp2;clear x9
 go_loopg [15] can (fun gg s15 wr=>∃kk:Nat,kk<=can/\can - kk<=gg/\s15= Xe Xf kk/\Xo (Grew w wr)/\Xo (Box wr w.heap.size [O vf.a vf.n vf.c,Xe Xf m.hand,O vs.a vs.n vs.c,O vsb.a vsb.n vsb.c,O vsq.a vsq.n vsq.c,O vdb.a vdb.n vdb.c,O vdq.a vdq.n vdq.c,O vfl.a vfl.n vfl.c,Xe Xf m.cnt,O caa can cac,O spa spn spc])/\Xo (MapH enK wr (w.heap.size+1) (heldC (m.ca.take kk))))
 case atStart=>exact⟨0,nZ _,by omega,rfl,HG0.out,X0.out,M0.out⟩
 obtain⟨kk,hkk,hgg,rfl,BW,XW,MW⟩:=hrel;clear X0 M0 HG0
 by_cases hlt:kk<can
 ·have hltz:(kk:Int)< (can:Int):=by omega
  obtain⟨c,HC⟩:∃c,Xo (m.ca[kk]? =Xa c):=⟨_,gE (by rw[HN.out];exact hlt)⟩
  obtain⟨ad,rfl,hl⟩:=HR.out kk c HC.out;obtain⟨d0,d1,d2⟩:=hl wr BW.out;clear hl;go_upto_region 5 with fail;obtain⟨W1,hW1⟩:∃W1,wr.alloc (Xk #[Xe Xf c.file,Xe Xf c.idx,Xe Xf c.fr] 105)=W1:=⟨_,rfl⟩;have HG1:=gT hW1 BW
  have X1:=yA hW1 XW
  have M1:Xo (MapH enK W1 (w.heap.size+1) (heldC (m.ca.take kk))):=show MapH _ _ _ _ by rw[<-hW1];exact MW.out.grew (grew_alloc _ _)
  have C1:=xA hW1
  rw[hW1];clear hW1 d0 d1 d2;obtain⟨pb,HPB⟩:∃pb,Xo (wr.heap.size=pb):=⟨_,rfl⟩;rw[HPB.out]at C1⊢;obtain⟨H,HH⟩:∃H,Xo (heldC (m.ca.take kk)=H):=⟨_,rfl⟩;rw[HH.out]at M1;obtain⟨hb0,hb1⟩:0<=H (1,c.fr)/\H (1,c.fr)<=140737488355328:=by rw[<-HH.out];exact HC0.out kk (1,c.fr)
  obtain⟨I,hI⟩:∃I:Xn->Prop,I=fun u=>MapH enK u (w.heap.size+1) H/\Box u pb [Xe Xf c.file,Xe Xf c.idx,Xe Xf c.fr]/\Box u w.heap.size [O vf.a vf.n vf.c,Xe Xf m.hand,O vs.a vs.n vs.c,O vsb.a vsb.n vsb.c,O vsq.a vsq.n vsq.c,O vdb.a vdb.n vdb.c,O vdq.a vdq.n vdq.c,O vfl.a vfl.n vfl.c,Xe Xf m.cnt,O (Xa ad) can cac,O spa spn spc]/\Grew w u:=⟨_,rfl⟩
  have HI:Xo (∀u,I u↔MapH enK u (w.heap.size+1) H/\Box u pb [Xe Xf c.file,Xe Xf c.idx,Xe Xf c.fr]/\Box u w.heap.size [O vf.a vf.n vf.c,Xe Xf m.hand,O vs.a vs.n vs.c,O vsb.a vsb.n vsb.c,O vsq.a vsq.n vsq.c,O vdb.a vdb.n vdb.c,O vdq.a vdq.n vdq.c,O vfl.a vfl.n vfl.c,Xe Xf m.cnt,O (Xa ad) can cac,O spa spn spc]/\Grew w u):=show∀u,_ from fun u=>by rw[hI]
  clear hI;have hx2:∀y:HoldI I,y.world.cell? ⟨pb,2,Xb⟩=Xa (Xe Xf c.fr):=fun y=>((HI.out _).1 y.holds).2.1.c 2 rfl
  have hlk:∀y:HoldI I,(Instr.lookup 133 (.map (Xa (w.heap.size+1))) (Xi #[Xe Xf 1,Xe Xf c.fr,Xh Xd]) Xd).run Tryz.prog y.world= .ok (Xe Xf (H (1,c.fr))) y.world:=fun y=>((HI.out _).1 y.holds).1.look (K:=enK) Tryz.underlying133 (Tryz.zeroInt _) (1,c.fr)
  have hI0:I W1.drew:=(HI.out _).2 ⟨M1.out.grew (gW _),C1.out.grew (gW _),X1.out.grew (gW _),HG1.out.trans (gW _)⟩
  have hne:Nonempty (HoldI I):=⟨⟨_,hI0⟩⟩;refine wp_lax_tailI (I:=I) 8 [(6,⟨fun v=>∃st,v= Xm #[Xe Xf (H (1,c.fr)),Xe Xf st],fun v w'=>∃st,v= Xm #[Xe Xf (H (1,c.fr)),Xe Xf st]/\MapEH enK w' (w.heap.size+1) H (1,c.fr) st,fun _ _=>True,fun _=>True⟩)] hI0 mixed (by kernel_rfl) rfl rfl (by decide) ?hS ?hp ?hpre ?hpr0 ?_
  case hS=>
   intro y hy;simp only[mC,nM,or_false]at hy;subst hy;exact⟨_,0,rfl⟩
  case hp=>
   intro k s j t' hk hj hjk _ v p q hst hpo;obtain⟨rfl,rfl⟩:=look1 hk;obtain⟨rfl,rfl⟩:=look1 hj;exact absurd rfl hjk
  case hpre=>
   intro j t' k s hj hk hjk p q hst hpr;obtain⟨rfl,rfl⟩:=look1 hj;trivial
  case hpr0=>
   intro k t' hk;obtain⟨rfl,rfl⟩:=look1 hk;trivial
  simp only[Xz,Ya];iterate 6 (refine laxI_quiet rfl rfl rfl (fun K hK=>?_);go_big_quiet_op;refine hK _ ?_;clear hK K)
  refine laxI_spec rfl rfl (fun w' hI' hpr hF=>?_) (fun v1 hv=>?_)
  ·obtain⟨i1,i2,i3,i4⟩:=(HI.out _).1 hI';obtain⟨w2,st,hrun,r1,r2,r3⟩:=i1.entry (K:=enK) Tryz.underlying133 (Tryz.zeroInt w') (1,c.fr);have hrun':(Instr.mapEntry 133 (.map (Xa (w.heap.size+1))) (Xi #[Xe Xf 1,Xe Xf c.fr,Xh Xd])).run Tryz.prog w'= .ok (Xm #[Xe Xf (H (1,c.fr)),Xe Xf st]) w2:=hrun;clear hx2 hlk hne;refine Does.step (v:= Xm #[Xe Xf (H (1,c.fr)),Xe Xf st]) (w':=w2) (by simp only[execOp];go_simp) ⟨(HI.out _).2 ⟨r1.h,i2.grown r2 (i1.ne_box i2),i3.grown r2 (i1.ne_box i3),grew_grown i4 r2 (by omega)⟩,trivial,⟨_,rfl⟩,_,rfl,r1⟩
  obtain⟨st,rfl⟩:=hv;simp only[Xs,sB,sS,sZ];iterate 1 (refine laxI_quiet rfl rfl rfl (fun K hK=>?_);go_big_quiet_op;refine hK _ ?_;clear hK K)
  refine laxI_nil fun W3 hI3 hF=>?_
  obtain⟨i1,i2,i3,i4⟩:=(HI.out _).1 hI3;obtain⟨st',hst,hE⟩:∃st',(Value.tuple #[Xe Xf (H (1,c.fr)),Xe Xf st])= Xm #[Xe Xf (H (1,c.fr)),Xe Xf st']/\MapEH enK W3 (w.heap.size+1) H (1,c.fr) st':=hF 6;have hE':MapEH enK W3 (w.heap.size+1) H (1,c.fr) st:=by
   simp at hst
   rw[hst];exact hE
  have X3:Xo (Box W3 w.heap.size [O vf.a vf.n vf.c,Xe Xf m.hand,O vs.a vs.n vs.c,O vsb.a vsb.n vsb.c,O vsq.a vsq.n vsq.c,O vdb.a vdb.n vdb.c,O vdq.a vdq.n vdq.c,O vfl.a vfl.n vfl.c,Xe Xf m.cnt,O (Xa ad) can cac,O spa spn spc]):=i3;have HG3:Xo (Grew w W3):=i4;have HE3:Xo (MapEH enK W3 (w.heap.size+1) H (1,c.fr) st):=hE';clear hx2 hlk hne hF hI3 i1 i2 i3 i4 hE hst hE' hI0;refine wp_storeEntry (K:=enK) rfl 133 (.tmp 19) (.tmp 26) (.tmp 24) rfl (w.heap.size+1) H (1,c.fr) st HE3.out rfl rfl (by go_num) ?_
  intro W4 m4 hg4 _;have X4:Xo (Box W4 w.heap.size [O vf.a vf.n vf.c,Xe Xf m.hand,O vs.a vs.n vs.c,O vsb.a vsb.n vsb.c,O vsq.a vsq.n vsq.c,O vdb.a vdb.n vdb.c,O vdq.a vdq.n vdq.c,O vfl.a vfl.n vfl.c,Xe Xf m.cnt,O (Xa ad) can cac,O spa spn spc]):=X3.out.grown hg4 (by omega)
  have HG4:Xo (Grew w W4):=show Grew _ _ from grew_grown HG3.out hg4 (by omega)
  have M4:Xo (MapH enK W4 (w.heap.size+1) (heldC (m.ca.take (kk+1)))):=show MapH _ _ _ _ from m4.congr fun k=>by rw[take_snoc HC.out,heldC_step,<-HH.out];rfl
  clear m4 hg4 hb0 hb1;go_wp2
  go_roundg (can -(kk+1))
  case measure=>omega
  exact⟨kk+1,by omega,by omega,by go_num,HG4.out,X4.out,M4.out⟩
 have hltz:¬(kk:Int)< (can:Int):=by omega
 have:kk=can:=by omega
 subst this;have MA1:Xo (MapH enK wr (w.heap.size+1) (heldTo m 0 [] sp00)):=show MapH _ _ _ _ from MW.out.congr fun k=>by
  rw[Xu (by rw[HN.out];exact nR _)]
  exact heldC_all m sp00 k
 have x10:=XW.out.c 10 rfl;go_wp2;clear x10;have HBW:Xo (Grew w wr):=BW;clear BW XW MW
 go_loopg [31] spn (fun gg s31 wr=>∃i:Nat,i<=spn/\spn - i<=gg/\s31= Xe Xf i/\Xo (Grew w wr)/\Xo (MapH enK wr (w.heap.size+1) (heldTo m i [] sp00)))
 case atStart=>exact⟨0,nZ _,by omega,rfl,HBW.out,MA1.out⟩
 obtain⟨i,hi,hg2,rfl,BW,MW⟩:=hrel;clear HBW MA1
 by_cases hlt2:i<spn
 ·have hltz2:(i:Int)< (spn:Int):=by omega
  obtain⟨s,HS⟩:∃s,Xo (m.sp[i]? =Xa s):=⟨_,gE (by rw[HNS.out];exact hlt2)⟩
  obtain⟨x,HX⟩:∃x,Xo (xs[i]? =Xa x):=⟨_,gE (by rw[HXL.out,HNS.out];exact hlt2)⟩
  have HAT:Xo (SpaceAt w x s):=HSP.out i x s HX.out HS.out;obtain⟨ad,rfl,hl⟩:=HRS.out i x HX.out;obtain⟨d0,d1,d2,d3,d4,d5,d6,d7,d8,d9⟩:=hl wr BW.out;clear hl;go_upto_region 10 with fail;obtain⟨W1,hW1⟩:∃W1,wr.alloc (Xk #[Xh x.live,O x.ar.a x.ar.n x.ar.c,O x.t0.a x.t0.n x.t0.c,O x.t1.a x.t1.n x.t1.c,O x.t2.a x.t2.n x.t2.c,O x.t3.a x.t3.n x.t3.c,O x.t4.a x.t4.n x.t4.c,O x.t5.a x.t5.n x.t5.c,O x.t6.a x.t6.n x.t6.c,O x.t7.a x.t7.n x.t7.c] 76)=W1:=⟨_,rfl⟩;have HG1:=gT hW1 BW
  have M1:Xo (MapH enK W1 (w.heap.size+1) (heldTo m i [] s)):=show MapH _ _ _ _ by rw[<-hW1];exact(MW.out.grew (grew_alloc _ _)).congr fun k=>by unfold heldTo;simp
  have S1:=xA hW1
  rw[hW1];clear hW1 d0 d1 d2 d3 d4 d5 d6 d7 d8 d9;obtain⟨pb,HPB⟩:∃pb,Xo (wr.heap.size=pb):=⟨_,rfl⟩;rw[HPB.out]at S1⊢;have hcall:Xp Tryz.prog 66 #[Xi #[O x.t0.a x.t0.n x.t0.c,O x.t1.a x.t1.n x.t1.c,O x.t2.a x.t2.n x.t2.c,O x.t3.a x.t3.n x.t3.c,O x.t4.a x.t4.n x.t4.c,O x.t5.a x.t5.n x.t5.c,O x.t6.a x.t6.n x.t6.c,O x.t7.a x.t7.n x.t7.c]] W1 fun e w'=>∃v,e= Xl v/\OwnRow blE W1.heap.size w' v (pagesTo s.tb anyEn 64)/\Grew W1 w':=pagesTb_any x.tab s.tb W1 (HAT.out.grew HG1.out).tb
  have s2:=S1.out.c 2 rfl;have s3:=S1.out.c 3 rfl;have s4:=S1.out.c 4 rfl;have s5:=S1.out.c 5 rfl;have s6:=S1.out.c 6 rfl;have s7:=S1.out.c 7 rfl;have s8:=S1.out.c 8 rfl;have s9:=S1.out.c 9 rfl;go_wp2_with fail;refine hcall.mono ?_;clear hcall s2 s3 s4 s5 s6 s7 s8 s9;rintro e' W2 ⟨pv,rfl,ow2,hg2'⟩;have HG2:=dD (HG1.out.trans hg2');have M2:=dD (M1.out.grew hg2');have S2:=dD (S1.out.grew hg2');have HW1L:Xo (w.heap.size<=W1.heap.size):=show _<=_ from bS HG1.out
  clear hg2';obtain⟨pa,pc,rfl⟩:=ow2.form;have hq0:=ow2.at.short;rw[pagesTo_any]at ow2 hq0⊢;rw[List.length_map]at ow2 hq0⊢;obtain⟨q,HQ⟩:∃q,Xo ((pagesN s).length=q):=⟨_,rfl⟩;rw[HQ.out]at ow2 hq0⊢;have OW2:Xo (OwnRow blE W1.heap.size W2 (O pa q pc) ((pagesN s).map fun(n:Nat)=>(n:Int))):=ow2
  have hq64:q<=64:=by rw[<-HQ.out];exact pagesN_len s
  clear ow2;go_wp2;clear BW MW
  go_loopg [39] q (fun gg s39 wr=>∃j:Nat,j<=q/\q - j<=gg/\s39= Xe Xf j/\Xo (Grew w wr)/\Xo (OwnRow blE W1.heap.size wr (O pa q pc) ((pagesN s).map fun(n:Nat)=>(n:Int)))/\Xo (Box wr pb [Xh x.live,O x.ar.a x.ar.n x.ar.c,O x.t0.a x.t0.n x.t0.c,O x.t1.a x.t1.n x.t1.c,O x.t2.a x.t2.n x.t2.c,O x.t3.a x.t3.n x.t3.c,O x.t4.a x.t4.n x.t4.c,O x.t5.a x.t5.n x.t5.c,O x.t6.a x.t6.n x.t6.c,O x.t7.a x.t7.n x.t7.c])/\Xo (MapH enK wr (w.heap.size+1) (heldTo m i ((pagesN s).take j) s)))
  case atStart=>exact⟨0,nZ _,by omega,rfl,HG2.out,OW2.out,S2.out,by rw[Ye];exact M2.out⟩
  obtain⟨j,hj,hg3,rfl,BW,OW,SW,MW⟩:=hrel;clear S2 M2 OW2 HG2
  by_cases hlt3:j<q
  ·have hltz3:(j:Int)< (q:Int):=by omega
   obtain⟨n,HNI⟩:∃n,Xo ((pagesN s)[j]? =Xa n):=⟨_,gE (by rw[HQ.out];exact hlt3)⟩
   have hn64:n<64:=pagesN_lt HNI.out;have HTS:Xo ((pagesN s).take (j+1)=(pagesN s).take j++ [n]):=take_snoc HNI.out;obtain⟨_,_,heq,hnr⟩:=OW.out.at.nums;simp only[vJ]at heq;obtain⟨ad2,had2,hl2⟩:=hnr j (n:Int) (by rw[Yi,HNI.out];rfl)
   have e0:=hl2 wr (Grew.refl _);rw[<-heq.1]at had2;subst had2;clear hl2 heq hnr;have hcg:Xp Tryz.prog 69 #[Xi #[O x.t0.a x.t0.n x.t0.c,O x.t1.a x.t1.n x.t1.c,O x.t2.a x.t2.n x.t2.c,O x.t3.a x.t3.n x.t3.c,O x.t4.a x.t4.n x.t4.c,O x.t5.a x.t5.n x.t5.c,O x.t6.a x.t6.n x.t6.c,O x.t7.a x.t7.n x.t7.c],Xe Xf (n:Int)] wr fun e w'=>e= Xl (enV (flatN s n))/\Grew wr w':=by
    have:=getTb_any x.tab s.tb (n:Int) wr (HAT.out.grew BW.out).tb;rw[get_flat hn64]at this;exact this
   obtain⟨en,HEN⟩:∃en,Xo (flatN s n=en):=⟨_,rfl⟩;rw[HEN.out]at hcg;have s2:=SW.out.c 2 rfl;have s3:=SW.out.c 3 rfl;have s4:=SW.out.c 4 rfl;have s5:=SW.out.c 5 rfl;have s6:=SW.out.c 6 rfl;have s7:=SW.out.c 7 rfl;have s8:=SW.out.c 8 rfl;have s9:=SW.out.c 9 rfl;go_wp2_with fail;refine hcg.mono ?_;clear hcg e0 s2 s3 s4 s5 s6 s7 s8 s9;rintro e' W4 ⟨rfl,hg4⟩;have HG4:=dD (BW.out.trans hg4);have OW4:=dD (OW.out.grew hg4)
   have S4:=dD (SW.out.grew hg4);have M4:=dD (MW.out.grew hg4);clear hg4;unfold enV;go_upto_region 14 with fail;obtain⟨W5,hW5⟩:∃W5,W4.alloc (Xk #[Xe Xf en.kind,Xe Xf en.n,Xh en.wr] 127)=W5:=⟨_,rfl⟩;have HG5:=gT hW5 HG4
   have OW5:Xo (OwnRow blE W1.heap.size W5 (O (Xa ad2) q pc) ((pagesN s).map fun(n:Nat)=>(n:Int))):=show OwnRow _ _ _ _ _ by rw[<-hW5];exact OW4.out.grew (grew_alloc _ _)
   have S5:=yA hW5 S4
   have M5:Xo (MapH enK W5 (w.heap.size+1) (heldTo m i ((pagesN s).take j) s)):=show MapH _ _ _ _ by rw[<-hW5];exact M4.out.grew (grew_alloc _ _)
   have E5:=xA hW5
   rw[hW5];clear hW5;obtain⟨pe,HPE⟩:∃pe,Xo (W4.heap.size=pe):=⟨_,rfl⟩;rw[HPE.out]at E5⊢;obtain⟨H,HH⟩:∃H,Xo (heldTo m i ((pagesN s).take j) s=H):=⟨_,rfl⟩;rw[HH.out]at M5;obtain⟨hb0,hb1⟩:0<=H (en.kind,en.n)/\H (en.kind,en.n)<=140737488360000:=by rw[<-HH.out];exact HH0.out i _ s (en.kind,en.n) (by simp;omega)
   obtain⟨I,hI⟩:∃I:Xn->Prop,I=fun u=>MapH enK u (w.heap.size+1) H/\Box u pe [Xe Xf en.kind,Xe Xf en.n,Xh en.wr]/\Box u pb [Xh x.live,O x.ar.a x.ar.n x.ar.c,O x.t0.a x.t0.n x.t0.c,O x.t1.a x.t1.n x.t1.c,O x.t2.a x.t2.n x.t2.c,O x.t3.a x.t3.n x.t3.c,O x.t4.a x.t4.n x.t4.c,O x.t5.a x.t5.n x.t5.c,O x.t6.a x.t6.n x.t6.c,O x.t7.a x.t7.n x.t7.c]/\OwnRow blE W1.heap.size u (O (Xa ad2) q pc) ((pagesN s).map fun(n:Nat)=>(n:Int))/\Grew w u:=⟨_,rfl⟩
   have HI:Xo (∀u,I u↔MapH enK u (w.heap.size+1) H/\Box u pe [Xe Xf en.kind,Xe Xf en.n,Xh en.wr]/\Box u pb [Xh x.live,O x.ar.a x.ar.n x.ar.c,O x.t0.a x.t0.n x.t0.c,O x.t1.a x.t1.n x.t1.c,O x.t2.a x.t2.n x.t2.c,O x.t3.a x.t3.n x.t3.c,O x.t4.a x.t4.n x.t4.c,O x.t5.a x.t5.n x.t5.c,O x.t6.a x.t6.n x.t6.c,O x.t7.a x.t7.n x.t7.c]/\OwnRow blE W1.heap.size u (O (Xa ad2) q pc) ((pagesN s).map fun(n:Nat)=>(n:Int))/\Grew w u):=show∀u,_ from fun u=>by rw[hI]
   clear hI;have hx0:∀y:HoldI I,y.world.cell? ⟨pe,0,Xb⟩=Xa (Xe Xf en.kind):=fun y=>((HI.out _).1 y.holds).2.1.c 0 rfl
   have hx1:∀y:HoldI I,y.world.cell? ⟨pe,1,Xb⟩=Xa (Xe Xf en.n):=fun y=>((HI.out _).1 y.holds).2.1.c 1 rfl
   have hlk:∀y:HoldI I,(Instr.lookup 133 (.map (Xa (w.heap.size+1))) (Xi #[Xe Xf en.kind,Xe Xf en.n,Xh Xd]) Xd).run Tryz.prog y.world= .ok (Xe Xf (H (en.kind,en.n))) y.world:=fun y=>((HI.out _).1 y.holds).1.look (K:=enK) Tryz.underlying133 (Tryz.zeroInt _) (en.kind,en.n)
   have hI0:I W5.drew:=(HI.out _).2 ⟨M5.out.grew (gW _),E5.out.grew (gW _),S5.out.grew (gW _),OW5.out.grew (gW _),HG5.out.trans (gW _)⟩
   have hne:Nonempty (HoldI I):=⟨⟨_,hI0⟩⟩;refine wp_lax_tailI (I:=I) 10 [(8,⟨fun v=>∃st,v= Xm #[Xe Xf (H (en.kind,en.n)),Xe Xf st],fun v w'=>∃st,v= Xm #[Xe Xf (H (en.kind,en.n)),Xe Xf st]/\MapEH enK w' (w.heap.size+1) H (en.kind,en.n) st,fun _ _=>True,fun _=>True⟩)] hI0 mixed (by kernel_rfl) rfl rfl (by decide) ?hS ?hp ?hpre ?hpr0 ?_
   case hS=>
    intro y hy;simp only[mC,nM,or_false]at hy;subst hy;exact⟨_,0,rfl⟩
   case hp=>
    intro k s j t' hk hj hjk _ v p q hst hpo;obtain⟨rfl,rfl⟩:=look1 hk;obtain⟨rfl,rfl⟩:=look1 hj;exact absurd rfl hjk
   case hpre=>
    intro j t' k s hj hk hjk p q hst hpr;obtain⟨rfl,rfl⟩:=look1 hj;trivial
   case hpr0=>
    intro k t' hk;obtain⟨rfl,rfl⟩:=look1 hk;trivial
   simp only[Xz,Ya];iterate 8 (refine laxI_quiet rfl rfl rfl (fun K hK=>?_);go_big_quiet_op;refine hK _ ?_;clear hK K)
   refine laxI_spec rfl rfl (fun w' hI' hpr hF=>?_) (fun v1 hv=>?_)
   ·obtain⟨i1,i2,i3,i4,i5⟩:=(HI.out _).1 hI';obtain⟨w2,st,hrun,r1,r2,r3⟩:=i1.entry (K:=enK) Tryz.underlying133 (Tryz.zeroInt w') (en.kind,en.n);have hrun':(Instr.mapEntry 133 (.map (Xa (w.heap.size+1))) (Xi #[Xe Xf en.kind,Xe Xf en.n,Xh Xd])).run Tryz.prog w'= .ok (Xm #[Xe Xf (H (en.kind,en.n)),Xe Xf st]) w2:=hrun;clear hx0 hx1 hlk hne;refine Does.step (v:= Xm #[Xe Xf (H (en.kind,en.n)),Xe Xf st]) (w':=w2) (by simp only[execOp];go_simp) ⟨(HI.out _).2 ⟨r1.h,i2.grown r2 (i1.ne_box i2),i3.grown r2 (i1.ne_box i3),i4.grown r2 (i1.ne_own i4),grew_grown i5 r2 (by omega)⟩,trivial,⟨_,rfl⟩,_,rfl,r1⟩
   obtain⟨st,rfl⟩:=hv;simp only[Xs,sB,sS,sZ];iterate 1 (refine laxI_quiet rfl rfl rfl (fun K hK=>?_);go_big_quiet_op;refine hK _ ?_;clear hK K)
   refine laxI_nil fun W6 hI6 hF=>?_
   obtain⟨i1,i2,i3,i4,i5⟩:=(HI.out _).1 hI6;obtain⟨st',hst,hE⟩:∃st',(Value.tuple #[Xe Xf (H (en.kind,en.n)),Xe Xf st])= Xm #[Xe Xf (H (en.kind,en.n)),Xe Xf st']/\MapEH enK W6 (w.heap.size+1) H (en.kind,en.n) st':=hF 8;have hE':MapEH enK W6 (w.heap.size+1) H (en.kind,en.n) st:=by
    simp at hst
    rw[hst];exact hE
   have S6:Xo (Box W6 pb [Xh x.live,O x.ar.a x.ar.n x.ar.c,O x.t0.a x.t0.n x.t0.c,O x.t1.a x.t1.n x.t1.c,O x.t2.a x.t2.n x.t2.c,O x.t3.a x.t3.n x.t3.c,O x.t4.a x.t4.n x.t4.c,O x.t5.a x.t5.n x.t5.c,O x.t6.a x.t6.n x.t6.c,O x.t7.a x.t7.n x.t7.c]):=i3;have OW6:Xo (OwnRow blE W1.heap.size W6 (O (Xa ad2) q pc) ((pagesN s).map fun(n:Nat)=>(n:Int))):=i4
   have HG6:Xo (Grew w W6):=i5;have M6:Xo (MapH enK W6 (w.heap.size+1) H):=i1;have HE6:Xo (MapEH enK W6 (w.heap.size+1) H (en.kind,en.n) st):=hE';clear hx0 hx1 hlk hne hF hI6 i1 i2 i3 i4 i5 hE hst hE' hI0;refine wp_storeEntry (K:=enK) rfl 133 (.tmp 47) (.tmp 56) (.tmp 54) rfl (w.heap.size+1) H (en.kind,en.n) st HE6.out rfl rfl (by go_num) ?_
   intro W7 m7 hg7 _;have S7:Xo (Box W7 pb [Xh x.live,O x.ar.a x.ar.n x.ar.c,O x.t0.a x.t0.n x.t0.c,O x.t1.a x.t1.n x.t1.c,O x.t2.a x.t2.n x.t2.c,O x.t3.a x.t3.n x.t3.c,O x.t4.a x.t4.n x.t4.c,O x.t5.a x.t5.n x.t5.c,O x.t6.a x.t6.n x.t6.c,O x.t7.a x.t7.n x.t7.c]):=S6.out.grown hg7 (M6.out.ne_box S6.out);have OW7:Xo (OwnRow blE W1.heap.size W7 (O (Xa ad2) q pc) ((pagesN s).map fun(n:Nat)=>(n:Int))):=OW6.out.grown hg7 (M6.out.ne_own OW6.out)
   have HG7:Xo (Grew w W7):=show Grew _ _ from grew_grown HG6.out hg7 (by omega)
   have M7:Xo (MapH enK W7 (w.heap.size+1) (heldTo m i ((pagesN s).take (j+1)) s)):=show MapH _ _ _ _ from m7.congr fun k=>by rw[HTS.out,held_page,HEN.out,HH.out];rfl
   clear m7 hg7 hb0 hb1;go_wp2
   go_roundg (q -(j+1))
   case measure=>omega
   exact⟨j+1,by omega,by omega,by go_num,HG7.out,OW7.out,S7.out,M7.out⟩
  have hltz3:¬(j:Int)< (q:Int):=by omega
  have:j=q:=by omega
  subst this;have M8:Xo (MapH enK wr (w.heap.size+1) (heldTo m (i+1) [] sp00)):=show MapH _ _ _ _ from MW.out.congr fun k=>by
   rw[Xu (by rw[HQ.out];exact nR _)]
   exact held_next m i s sp00 HS.out k
  go_wp2
  go_roundg (spn -(i+1))
  case measure=>omega
  exact⟨i+1,by omega,by omega,by go_num,BW.out,M8.out⟩
 have hltz2:¬(i:Int)< (spn:Int):=by omega
 have:i=spn:=by omega
 subst this;have M9:Xo (MapH enK wr (w.heap.size+1) (heldTo m m.sp.length [] sp00)):=show MapH _ _ _ _ by rw[HNS.out];exact MW.out
 go_wp2;go_ret;exact⟨_,rfl,M9.out,BW.out⟩
def filedTo (fl:List Fl) (i:Nat) (bl:List Int):List Int:=(allB (fl.take i))++bl
theorem marks_congr {n:Nat} {g h:List Int} (e:∀i:Nat,i<n->g.contains (i:Int)=h.contains (i:Int)):marks n g=marks n h:=by
 unfold marks
 apply List.map_congr_left
 intro i hi;rw[e i (Yf.1 hi)]
theorem filed_skip (fl:List Fl) (i:Nat) (bl:List Int) {b:Int} (hb:b<0) (n:Nat):marks n (filedTo fl i (bl++ [b]))=marks n (filedTo fl i bl):=marks_congr fun j _=>by
 unfold filedTo;have:¬(j:Int)=b:=by omega
 simp[this]
theorem filed_put (fl:List Fl) (i:Nat) (bl:List Int) (b:Nat) (n:Nat):marks n ((b:Int) :: filedTo fl i bl)=marks n (filedTo fl i (bl++ [(b:Int)])):=marks_congr fun j _=>by
 unfold filedTo;rw[Yc];simp only[List.contains_eq_mem,mC,List.mem_append,nM,or_false,decide_eq_true_eq];constructor
 ·rintro(h | h | h)
  ·exact .inr (.inr h)
  ·exact .inl h
  exact .inr (.inl h)
 rintro(h | h | h)
 ·exact .inr (.inl h)
 ·exact .inr (.inr h)
 exact .inl h
theorem filed_next {fl:List Fl} {i:Nat} {f:Fl} (hf:fl[i]? =Xa f):filedTo fl i f.bl=filedTo fl (i+1) []:=by
 unfold filedTo allB;rw[List.take_add_one,hf];simp
theorem filed_all (fl:List Fl) (b:Int):(filedTo fl fl.length []).contains b=usedB fl b:=by
 unfold filedTo allB usedB;rw[List.take_length,List.append_nil,Yc];simp
theorem Tryz.sizeGiven:(Tryz.prog.info? 114).map (·.size)=Xa 80:=by kernel_rfl
theorem marks_one (n:Nat) (g:List Int):∀v∈marks n g,v.oneCell'=Xc:=fun v hv=>by
 unfold marks at hv;obtain⟨i,_,rfl⟩:=List.mem_map.1 hv;rfl
theorem marks_len (n:Nat) (g:List Int):(marks n g).length=n:=by simp[marks]
theorem filedBlocks_any (v:Xq) (fl:List Fl) (cnt:Int) (w:Xn) (hv:FilesAt w v fl) (hst:stW fl cnt=0):
  Xp Tryz.prog 62 #[Xi #[v,Xe Xf cnt]] w fun e w'=>e= Xl (Xi (marks 80 (filedTo fl fl.length [])).toArray)/\Grew w w':=by
 have hz:=run_zGiven;obtain⟨a,c,rfl,hbig,hrow⟩:=hv.rows;have HR:Xo (FlRows w a fl):=hrow;clear hrow hv;have HB:Xo (∀f∈fl,∀b∈f.bl,b=-1\/(0<=b/\b<80)):=show∀f∈fl,_ from fun f hf b hb=>by
  obtain⟨⟨_,_,h80⟩,h2,_⟩:=(stW_zero fl cnt).1 hst
  rcases(h2 f hf).2.2 b hb with h | h
  ·exact .inl h
  exact .inr (by omega)
 clear hst;obtain⟨n,HN⟩:∃n,Xo (fl.length=n):=⟨_,rfl⟩;rw[HN.out]at hbig⊢;obtain⟨W0,hW0⟩:∃W0,((w.alloc (Xk #[O a n c,Xe Xf cnt] 38)).alloc (Xk zGiven 114)).alloc (Xk zGiven 114)=W0:=⟨_,rfl⟩;have HG0:Xo (Grew w W0):=show Grew _ _ by rw[<-hW0];exact((grew_alloc _ _).trans (grew_alloc _ _)).trans (grew_alloc _ _)
 have X0:Xo (Box W0 w.heap.size [O a n c,Xe Xf cnt]):=show Box _ _ _ by rw[<-hW0];exact((Box.top _ _ _ rfl).alloc _).alloc _
 have Y0:Xo (Box W0 (w.heap.size+1) (marks 80 [])):=show Box _ _ _ by rw[<-hW0,marks_nil];exact(Box.top _ (Xr 80 (Xh Xd)) _ (by simp)).alloc _
 have Z0:Xo (Box W0 (w.heap.size+1+1) (marks 80 (filedTo fl 0 []))):=show Box _ _ _ by
  have:marks 80 (filedTo fl 0 [])=marks 80 []:=marks_congr fun i _=>by simp[filedTo,allB]
  rw[<-hW0,this,marks_nil];exact Box.top _ (Xr 80 (Xh Xd)) _ (by simp)
 have HW0:Xo (_=W0):=hW0;clear hW0
 go_enter Tryz.func62,Tryz.ntmps62
 go_upto_region 2 with fail;rw[HW0.out];clear hz;have x0:=X0.out.c 0 rfl;go_wp2;clear x0
 go_loopg [5,11] n (fun gg _ s11 wr=>∃i:Nat,i<=n/\n - i<=gg/\s11= Xe Xf i/\Xo (Grew w wr)/\Xo (Box wr (w.heap.size+1) (marks 80 []))/\Xo (Box wr (w.heap.size+1+1) (marks 80 (filedTo fl i []))))
 case atStart=>exact⟨0,nZ _,by omega,rfl,HG0.out,Y0.out,Z0.out⟩
 obtain⟨i,hi,hgg,rfl,BW,YW,ZW⟩:=hrel;clear X0 Y0 Z0
 by_cases hlt:i<n
 ·have hltz:(i:Int)< (n:Int):=by omega
  obtain⟨f,HF⟩:∃f,Xo (fl[i]? =Xa f):=⟨_,gE (by rw[HN.out];exact hlt)⟩
  obtain⟨ad,rfl,xa,xc,hr2,hl⟩:=HR.out i f HF.out;obtain⟨d0,d1⟩:=hl wr BW.out;obtain⟨_,_,heq,hnr⟩:=hr2.nums;have hq:=hr2.short;have HNR:Xo (NumRows w xa f.bl):=show NumRows _ _ _ by
   simp only[vJ]at heq;rw[heq.1];exact hnr
  clear heq hnr hr2 hl;obtain⟨q,HQ⟩:∃q,Xo (f.bl.length=q):=⟨_,rfl⟩;rw[HQ.out]at d1 hq;go_upto_region 5 with fail;obtain⟨W1,hW1⟩:∃W1,wr.alloc (Xk #[Xe Xf f.size,O xa q xc] 158)=W1:=⟨_,rfl⟩;have HG1:=gT hW1 BW
  have F1:=xA hW1
  have Y1:=yA hW1 YW
  have Z1:=yA hW1 ZW
  rw[hW1];clear hW1 d0 d1;have f1:=F1.out.c 1 rfl;go_wp2;clear f1;have HBW:Xo (Grew w wr):=BW;clear BW YW ZW
  go_loopg [7,18] q (fun gg _ s18 wr=>∃j:Nat,j<=q/\q - j<=gg/\s18= Xe Xf j/\Xo (Grew w wr)/\Xo (Box wr (w.heap.size+1) (marks 80 []))/\Xo (Box wr (w.heap.size+1+1) (marks 80 (filedTo fl i (f.bl.take j)))))
  case atStart=>exact⟨0,nZ _,by omega,rfl,HG1.out,Y1.out,by rw[Ye];exact Z1.out⟩
  obtain⟨j,hj,hg2,rfl,BW,YW,ZW⟩:=hrel;clear F1 Y1 Z1
  by_cases hlt2:j<q
  ·have hltz2:(j:Int)< (q:Int):=by omega
   obtain⟨b,HBJ⟩:∃b,Xo (f.bl[j]? =Xa b):=⟨_,gE (by rw[HQ.out];exact hlt2)⟩
   obtain⟨ad2,rfl,hl2⟩:=HNR.out j b HBJ.out;have e0:=hl2 wr BW.out;have HRB:Xo (b=-1\/(0<=b/\b<80)):=HB.out f (mG HF.out) b (mG HBJ.out);have HTS:Xo (f.bl.take (j+1)=f.bl.take j++ [b]):=take_snoc HBJ.out;clear hl2
   by_cases hb:0<=b
   ·obtain⟨k,rfl⟩:∃k:Nat,b=(k:Int):=⟨b.toNat,by omega⟩
    have hk80:k<80:=by have:=HRB.out;omega
    have z0:=ZW.out.c k (marks_at _ hk80);have zf:=ZW.out.f;have Z2:Xo (Box (wr.setCell ⟨w.heap.size+1+1,k,Xb⟩ (Xh Xc)) (w.heap.size+1+1) (marks 80 (filedTo fl i (f.bl.take (j+1))))):=show Box _ _ _ by
     rw[HTS.out,<-filed_put,<-marks_set _ hk80];exact ZW.out.set k _
    have Y2:Xo (Box (wr.setCell ⟨w.heap.size+1+1,k,Xb⟩ (Xh Xc)) (w.heap.size+1) (marks 80 [])):=show Box _ _ _ from YW.out.other (by simp) _
    have G2:Xo (Grew w (wr.setCell ⟨w.heap.size+1+1,k,Xb⟩ (Xh Xc))):=show Grew _ _ from grew_set BW.out (by simp;omega) _
    go_wp2
    go_roundg (q -(j+1))
    case measure=>omega
    exact⟨j+1,by omega,by omega,by go_num,G2.out,Y2.out,Z2.out⟩
   have Z2:Xo (Box wr (w.heap.size+1+1) (marks 80 (filedTo fl i (f.bl.take (j+1))))):=show Box _ _ _ by
    rw[HTS.out,filed_skip _ _ _ (by omega)]
    exact ZW.out
   go_wp2
   go_roundg (q -(j+1))
   case measure=>omega
   exact⟨j+1,by omega,by omega,by go_num,BW.out,YW.out,Z2.out⟩
  have hltz2:¬(j:Int)< (q:Int):=by omega
  have:j=q:=by omega
  subst this;have Z2:Xo (Box wr (w.heap.size+1+1) (marks 80 (filedTo fl (i+1) []))):=show Box _ _ _ by
   have h1:=ZW.out;rw[Xu (by rw[HQ.out];exact nR _),filed_next HF.out]at h1
   exact h1
  go_wp2
  go_roundg (n -(i+1))
  case measure=>omega
  exact⟨i+1,by omega,by omega,by go_num,BW.out,YW.out,Z2.out⟩
 have hltz:¬(i:Int)< (n:Int):=by omega
 have:i=n:=by omega
 subst this;obtain⟨ms,HMS⟩:∃ms,Xo (marks 80 (filedTo fl i [])=ms):=⟨_,rfl⟩;have HML:Xo (ms.length=80):=show _=_ by rw[<-HMS.out];exact marks_len _ _
 have HMO:Xo (∀v∈ms,v.oneCell'=Xc):=show∀v∈ms,_ by rw[<-HMS.out];exact marks_one _ _
 rw[HMS.out]at ZW;go_upto_region 12 with fail
 go_wp2_with (first | (refine wp_loadAll rfl 114 (.tmp 3) rfl (w.heap.size+1+1) rfl ZW.out Tryz.underlying114 rfl (by rw[HML.out];exact Tryz.sizeGiven) ?_) | (refine wp_storeAll rfl 114 (.tmp 2) (.tmp 28) rfl (w.heap.size+1) rfl ms rfl YW.out (by rw[HML.out,marks_len]) (by rw[marks_len];exact Tryz.sizeGiven) HMO.out ?_))
 intro W5 hb5 hg5 _;have G5:Xo (Grew w W5):=show Grew _ _ from grew_grown BW.out hg5 (by omega)
 go_wp2;refine bodyPost_ret (ret_cell rfl _ rfl hb5 Tryz.underlying114 rfl (by rw[HML.out];exact Tryz.sizeGiven)) rfl ⟨by rw[<-HMS.out],G5.out⟩
theorem zero_page (b0 b1 b2 b3 b4 b5 b6 b7:Int):pgEqB ⟨b0,b1,b2,b3,b4,b5,b6,b7⟩ ⟨0,0,0,0,0,0,0,0⟩=([b0,b1,b2,b3,b4,b5,b6,b7] == zero8):=by
 rw[Yc,pgEqB_iff]
 simp[zero8]
def badBlk (m:Ma) (b:Nat):Bool:=!usedB m.fl (b:Int) && !(m.db.getD b [] == zero8)
theorem blockE_no {m:Ma} (h:∀b,b<m.db.length->badBlk m b=Xd):blockE m=0:=by
 unfold blockE;rw[if_neg];rw[Xx];rintro⟨b,hb,hx⟩;have:=h b (Yf.1 hb);unfold badBlk at this;rw[this]at hx;cases hx
theorem blockE_yes {m:Ma} {b:Nat} (hb:b<m.db.length) (h:badBlk m b=Xc):blockE m=7:=by
 unfold blockE;rw[if_pos];rw[Xx];exact⟨b,Yf.2 hb,h⟩
theorem queueE_no {m:Ma} (h:∀(j:Nat) q,m.dq[j]? =Xa q->usedB m.fl q.1=Xc):queueE m=0:=by
 unfold queueE;rw[if_neg];rw[Xx];rintro⟨q,hq,hx⟩;obtain⟨j,hj⟩:=List.getElem?_of_mem hq;rw[h j q hj]at hx;cases hx
theorem queueE_yes {m:Ma} {j:Nat} {q:Int × List Int} (hq:m.dq[j]? =Xa q) (h:usedB m.fl q.1=Xd):queueE m=7:=by
 unfold queueE;rw[if_pos];rw[Xx];exact⟨q,mG hq,by rw[h];rfl⟩
theorem wrongL_fine {n:Nat} {qs:List (Int × List Int)} (h:wrongL n qs=0):n<=80/\∀(j:Nat) q,qs[j]? =Xa q->0<=q.1/\q.1<n:=by
 unfold wrongL at h
 split at h
 ·cases h
 split at h
 ·cases h
 split at h
 ·cases h
 rename_i h1 h2 h3
 refine⟨by omega,fun j q hq=>?_⟩
 have:(!dkInB q.1 n)=Xd:=by
  cases e:(!dkInB q.1 n)with
  | false=>rfl
  | true=>exact absurd (Xx.2 ⟨q,mG hq,e⟩) h3
 simp[dkInB]at this
 exact this
theorem filed_at {m:Ma} {b:Nat} (hb:b<80):(marks 80 (filedTo m.fl m.fl.length []))[b]? =Xa (Xh (usedB m.fl (b:Int))):=by
 rw[marks_at _ hb,filed_all]
theorem wrongDisks_any (V:MaV) (m:Ma) (w:Xn) (hm:MachAt w V m) (h1:Right1 m):
  Xp Tryz.prog 29 #[Xi #[O V.f.a V.f.n V.f.c,Xe Xf m.hand,O V.s.a V.s.n V.s.c,O V.sb.a V.sb.n V.sb.c,O V.sq.a V.sq.n V.sq.c,O V.db.a V.db.n V.db.c,O V.dq.a V.dq.n V.dq.c,O V.fl.a V.fl.n V.fl.c,Xe Xf m.cnt,O V.ca.a V.ca.n V.ca.c,O V.sp.a V.sp.n V.sp.c]] w fun e w'=>e= Xl (Xe Xf (firstE (wDisksL m)))/\Grew w w':=by
 obtain⟨vf,vs,vsb,vsq,⟨dba,dbn,dbc⟩,⟨dqa,dqn,dqc⟩,vfl,vca,vsp⟩:=V;dsimp only;have hz:=run_zGiven;obtain⟨-,n2,n3,-,n5,n6,-⟩:=hm.ns;dsimp only at n2 n3 n5 n6;have HFB:Xo (∀W,Grew w W->Xp Tryz.prog 62 #[Xi #[O vfl.a vfl.n vfl.c,Xe Xf m.cnt]] W fun e w'=>e= Xl (Xi (marks 80 (filedTo m.fl m.fl.length [])).toArray)/\Grew W w'):=show∀W,_ from fun W hW=>filedBlocks_any _ m.fl m.cnt W (hm.grew hW).fl h1.st
 have HPG:Xo (PageRows w dba m.db):=hm.pgs;have HPU:Xo (PutRows w dqa m.dq):=hm.puts;obtain⟨h80,hqs⟩:=wrongL_fine h1.dq;have HQS:Xo (∀(j:Nat) q,m.dq[j]? =Xa q->0<=q.1/\q.1<m.db.length):=hqs;have HN5:Xo (m.db.length=dbn):=n5.symm;have HN6:Xo (m.dq.length=dqn):=n6.symm;have hb6:dqn<=9223372036854775807:=by have:=hm.dq.2.2;omega
 rw[HN5.out]at h80;obtain⟨Z,HZ⟩:∃Z,Xo (firstE (wDisksL m)=Z):=⟨_,rfl⟩;rw[HZ.out];have HZ2:Xo (firstE [fitE m,blockE m,queueE m]=Z):=HZ.out;have hfit:fitE m=if vs.n≠vsb.n\/m.cnt≠(dbn:Int)then 7 else 0:=by unfold fitE;rw[n2,n3,n5]
 clear hm h1 hqs n2 n3 n5 n6;obtain⟨W0,hW0⟩:∃W0,w.alloc (Xk #[O vf.a vf.n vf.c,Xe Xf m.hand,O vs.a vs.n vs.c,O vsb.a vsb.n vsb.c,O vsq.a vsq.n vsq.c,O dba dbn dbc,O dqa dqn dqc,O vfl.a vfl.n vfl.c,Xe Xf m.cnt,O vca.a vca.n vca.c,O vsp.a vsp.n vsp.c] 42)=W0:=⟨_,rfl⟩;have HG0:=gA hW0
 have X0:=xA hW0
 have HS0:Xo (w.heap.size<W0.heap.size):=show _<_ by rw[<-hW0];simp
 have HW0:Xo (_=W0):=hW0;clear hW0
 by_cases c1:vsb.n=vs.n
 ·by_cases c2:m.cnt=(dbn:Int)
  ·have HF:Xo (fitE m=0):=show _=_ by rw[hfit,if_neg (by omega)]
   have c1e:((vsb.n:Int) !=(vs.n:Int))=Xd:=by simp[c1]
   have c2e:((dbn:Int) != m.cnt)=Xd:=by simp[c2]
   have c1f:(vsb.n != vs.n)=Xd:=by simp[c1]
   have HB0:Xo (∀b,b<m.db.length->badBlk m b=Xc->Z=7):=show∀b,_ from fun b hb h=>by rw[<-HZ2.out,firstE_cons,if_pos HF.out,firstE_cons,blockE_yes hb h];rfl
   have HB1:Xo ((∀b,b<m.db.length->badBlk m b=Xd)->∀(j:Nat) q,m.dq[j]? =Xa q->usedB m.fl q.1=Xd->Z=7):=show _->_ from fun h j q hq hu=>by rw[<-HZ2.out,firstE_cons,if_pos HF.out,firstE_cons,if_pos (blockE_no h),firstE_cons,queueE_yes hq hu];rfl
   have HB2:Xo ((∀b,b<m.db.length->badBlk m b=Xd)->(∀(j:Nat) q,m.dq[j]? =Xa q->usedB m.fl q.1=Xc)->Z=0):=show _->_ from fun h h'=>by rw[<-HZ2.out,firstE_cons,if_pos HF.out,firstE_cons,if_pos (blockE_no h),firstE_cons,queueE_no h'];rfl
   have hFB:=HFB.out W0 HG0.out;clear hfit HFB HF HZ HZ2;have HC1:Xo (vsb.n=vs.n):=c1;have HC2:Xo (m.cnt=(dbn:Int)):=c2;clear c1 c2
   go_enter Tryz.func29,Tryz.ntmps29
   go_upto_region 1 with fail;rw[HW0.out];have x2:=X0.out.c 2 rfl;have x3:=X0.out.c 3 rfl;have x5:=X0.out.c 5 rfl;have x6:=X0.out.c 6 rfl;have x7:=X0.out.c 7 rfl;have x8:=X0.out.c 8 rfl;go_upto_region 3 with fail;go_wp2_with fail;refine hFB.mono ?_;clear hFB x2 x3 x5 x6 x7 x8;rintro e W1 ⟨rfl,hg1⟩;have HG1:=dD (HG0.out.trans hg1);have X1:=dD (X0.out.grew hg1);clear hg1;obtain⟨ms,HMS⟩:∃ms,Xo (marks 80 (filedTo m.fl m.fl.length [])=ms):=⟨_,rfl⟩;have HML:Xo (ms.length=80):=show _=_ by rw[<-HMS.out];exact marks_len _ _
   have HMO:Xo (∀v∈ms,v.oneCell'=Xc):=show∀v∈ms,_ by rw[<-HMS.out];exact marks_one _ _
   have HMA:Xo (∀b:Nat,b<80->ms[b]? =Xa (Xh (usedB m.fl (b:Int)))):=show∀b:Nat,_ from fun b hb=>by rw[<-HMS.out];exact filed_at hb
   rw[HMS.out];obtain⟨W2,hW2⟩:∃W2,W1.alloc (Xk zGiven 114)=W2:=⟨_,rfl⟩;have HG2:=gT hW2 HG1
   have X2:=yA hW2 X1
   have Z2:Xo (Box W2 W1.heap.size (Xr 80 (Xh Xd))):=show Box _ _ _ by rw[<-hW2];exact Box.top _ (Xr 80 (Xh Xd)) _ rfl
   have HW2:Xo (_=W2):=hW2;clear hW2;have HLT:Xo (w.heap.size<=W1.heap.size):=show _<=_ from bS HG1.out
   have HXL:Xo (w.heap.size<W1.heap.size):=show _<_ from X1.out.lt
   go_wp2_with (first | (rw[HW2.out];refine wp_storeAll rfl 114 (.tmp 3) (.tmp 28) rfl W1.heap.size rfl ms rfl Z2.out (by rw[HML.out];simp) (by simpa using Tryz.sizeGiven) HMO.out ?_))
   intro W3 hb3 hg3 _;have HG3:Xo (Grew w W3):=show Grew _ _ from grew_grown HG2.out hg3 HLT.out
   have X3:Xo (Box W3 w.heap.size [O vf.a vf.n vf.c,Xe Xf m.hand,O vs.a vs.n vs.c,O vsb.a vsb.n vsb.c,O vsq.a vsq.n vsq.c,O dba dbn dbc,O dqa dqn dqc,O vfl.a vfl.n vfl.c,Xe Xf m.cnt,O vca.a vca.n vca.c,O vsp.a vsp.n vsp.c]):=X2.out.grown hg3 (by have:=HXL.out;omega)
   have Z3:Xo (Box W3 W1.heap.size ms):=hb3;obtain⟨p3,HP3⟩:∃p3,Xo (W1.heap.size=p3):=⟨_,rfl⟩;rw[HP3.out]at Z3⊢;clear hb3 hg3 Z2 X2 HG2 HW2 HXL HLT hz;have x5:=X3.out.c 5 rfl;go_wp2;clear x5;obtain⟨n,HN⟩:∃n,Xo (dbn=n):=⟨_,rfl⟩;rw[HN.out]at h80⊢
   go_loopg [33] n (fun gg s33 wr=>∃kk:Nat,kk<=n/\n - kk<=gg/\s33= Xe Xf kk/\Xo (Grew w wr)/\Xo (Box wr w.heap.size [O vf.a vf.n vf.c,Xe Xf m.hand,O vs.a vs.n vs.c,O vsb.a vsb.n vsb.c,O vsq.a vsq.n vsq.c,O dba dbn dbc,O dqa dqn dqc,O vfl.a vfl.n vfl.c,Xe Xf m.cnt,O vca.a vca.n vca.c,O vsp.a vsp.n vsp.c])/\Xo (Box wr p3 ms)/\Xo (∀b,b<kk->badBlk m b=Xd))
   case atStart=>exact⟨0,nZ _,by omega,rfl,HG3.out,X3.out,Z3.out,fun b hb=>absurd hb (nL _)⟩
   obtain⟨kk,hkk,hgg,rfl,BW,XW,ZW,OW⟩:=hrel;clear X3 Z3 HG3
   by_cases hlt:kk<n
   ·have hltz:(kk:Int)< (n:Int):=by omega
    have hk80:kk<80:=by omega
    have HKL:Xo (kk<m.db.length):=show _<_ by rw[HN5.out,HN.out];exact hlt
    obtain⟨p,HP⟩:∃p,Xo (m.db[kk]? =Xa p):=⟨_,gE HKL.out⟩;obtain⟨ad,b0,b1,b2,b3,b4,b5,b6,b7,rfl,rfl,hl⟩:=HPG.out kk p HP.out;have HBD:Xo (badBlk m kk=(!usedB m.fl (kk:Int) && !([b0,b1,b2,b3,b4,b5,b6,b7] == zero8))):=show _=_ by unfold badBlk;rw[gD,HP.out];rfl
    obtain⟨d0,d1,d2,d3,d4,d5,d6,d7⟩:=hl wr BW.out;have hqp:=fun W=>page_eq_at 9998 b0 b1 b2 b3 b4 b5 b6 b7 0 0 0 0 0 0 0 0 W
    simp only[zero_page]at hqp;obtain⟨U,HU⟩:∃U,Xo (usedB m.fl (kk:Int)=U):=⟨_,rfl⟩;have hmu:=HMA.out kk hk80;rw[HU.out]at hmu;rw[HU.out]at HBD;obtain⟨PZ,HPZ⟩:∃PZ,Xo (([b0,b1,b2,b3,b4,b5,b6,b7] == zero8)=PZ):=⟨_,rfl⟩;rw[HPZ.out]at hqp HBD;clear hl;go_upto_region 7 with fail;obtain⟨W4,hW4⟩:∃W4,wr.alloc (Xk #[Xe Xg b0,Xe Xg b1,Xe Xg b2,Xe Xg b3,Xe Xg b4,Xe Xg b5,Xe Xg b6,Xe Xg b7] 91)=W4:=⟨_,rfl⟩;have HG4:=gT hW4 BW
    have X4:=yA hW4 XW
    have Z4:=yA hW4 ZW
    have P4:=xA hW4
    rw[hW4];clear hW4 d0 d1 d2 d3 d4 d5 d6 d7;have z0:=Z4.out.c kk hmu;obtain⟨p0,p1,p2,p3,p4,p5,p6,p7⟩:=P4.out.c8;clear hmu
    cases U with
    | true=>
     have HB:Xo (badBlk m kk=Xd):=show _=_ by rw[HBD.out];rfl
     have OW':Xo (∀b,b<kk+1->badBlk m b=Xd):=show∀b,_ from fun b hb=>by
      by_cases e:b=kk
      ·rw[e];exact HB.out
      exact OW.out b (by omega)
     clear p0 p1 p2 p3 p4 p5 p6 p7 hqp;go_wp2
     go_roundg (n -(kk+1))
     case measure=>omega
     exact⟨kk+1,by omega,by omega,by go_num,HG4.out,X4.out,Z4.out,OW'.out⟩
    | false=>
     cases PZ with
     | true=>
      have HB:Xo (badBlk m kk=Xd):=show _=_ by rw[HBD.out];rfl
      have OW':Xo (∀b,b<kk+1->badBlk m b=Xd):=show∀b,_ from fun b hb=>by
       by_cases e:b=kk
       ·rw[e];exact HB.out
       exact OW.out b (by omega)
      go_wp2
      go_roundg (n -(kk+1))
      case measure=>omega
      exact⟨kk+1,by omega,by omega,by go_num,HG4.out,X4.out,Z4.out,OW'.out⟩
     | false=>
      have HE:Xo (Z=7):=HB0.out kk HKL.out (by rw[HBD.out];rfl)
      go_wp2;go_ret;exact⟨by rw[HE.out];rfl,HG4.out⟩
   have hltz:¬(kk:Int)< (n:Int):=by omega
   have:kk=n:=by omega
   subst this;have OA:Xo (∀b,b<m.db.length->badBlk m b=Xd):=show∀b,_ from fun b hb=>OW.out b (by rw[<-HN.out,<-HN5.out];exact hb)
   have x6:=XW.out.c 6 rfl;go_wp2;clear x6;obtain⟨n2,HN2⟩:∃n2,Xo (dqn=n2):=⟨_,rfl⟩;rw[HN2.out]at hb6⊢;have HBW:Xo (Grew w wr):=BW;have HZW:Xo (Box wr p3 ms):=ZW;clear BW XW ZW OW
   go_loopg [52] n2 (fun gg s52 wr=>∃j:Nat,j<=n2/\n2 - j<=gg/\s52= Xe Xf j/\Xo (Grew w wr)/\Xo (Box wr p3 ms)/\Xo (∀(i:Nat) q,i<j->m.dq[i]? =Xa q->usedB m.fl q.1=Xc))
   case atStart=>exact⟨0,nZ _,by omega,rfl,HBW.out,HZW.out,fun i q hi=>absurd hi (nL _)⟩
   obtain⟨j,hj,hg2,rfl,BW,ZW,OW⟩:=hrel;clear HBW HZW
   by_cases hlt2:j<n2
   ·have hltz2:(j:Int)< (n2:Int):=by omega
    obtain⟨q,HQ⟩:∃q,Xo (m.dq[j]? =Xa q):=⟨_,gE (by rw[HN6.out,HN2.out];exact hlt2)⟩
    obtain⟨ad,mm,b0,b1,b2,b3,b4,b5,b6,b7,rfl,rfl,hl⟩:=HPU.out j q HQ.out;obtain⟨r0,r1⟩:=HQS.out j _ HQ.out;simp only at r0 r1;obtain⟨b,rfl⟩:∃b:Nat,mm=(b:Int):=⟨mm.toNat,by omega⟩
    have hk80:b<80:=by rw[HN5.out,HN.out]at r1;omega
    obtain⟨d0,d1,d2,d3,d4,d5,d6,d7,d8⟩:=hl wr BW.out;obtain⟨U,HU⟩:∃U,Xo (usedB m.fl (b:Int)=U):=⟨_,rfl⟩;have hmu:=HMA.out b hk80;rw[HU.out]at hmu;clear hl r0 r1;go_upto_region 13 with fail;obtain⟨W4,hW4⟩:∃W4,wr.alloc (Xk #[Xe Xf (b:Int),Xe Xg b0,Xe Xg b1,Xe Xg b2,Xe Xg b3,Xe Xg b4,Xe Xg b5,Xe Xg b6,Xe Xg b7] 117)=W4:=⟨_,rfl⟩;have HG4:=gT hW4 BW
    have Z4:=yA hW4 ZW
    have P4:=xA hW4
    rw[hW4];clear hW4 d0 d1 d2 d3 d4 d5 d6 d7 d8;have z0:=Z4.out.c b hmu;have p0:=P4.out.c 0 rfl;clear hmu
    cases U with
    | true=>
     have OW':Xo (∀(i:Nat) q,i<j+1->m.dq[i]? =Xa q->usedB m.fl q.1=Xc):=show∀(i:Nat) q,_ from fun i q hi hq=>by
      by_cases e:i=j
      ·subst e;rw[HQ.out]at hq;cases hq;exact HU.out
      exact OW.out i q (by omega) hq
     go_wp2
     go_roundg (n2 -(j+1))
     case measure=>omega
     exact⟨j+1,by omega,by omega,by go_num,HG4.out,Z4.out,OW'.out⟩
    | false=>
     have HE:Xo (Z=7):=HB1.out OA.out j _ HQ.out HU.out;go_wp2;go_ret;exact⟨by rw[HE.out];rfl,HG4.out⟩
   have hltz2:¬(j:Int)< (n2:Int):=by omega
   have:j=n2:=by omega
   subst this;have HE:Xo (Z=0):=HB2.out OA.out fun i q hq=>OW.out i q (by rw[<-HN2.out,<-HN6.out];exact(gS.1 hq).1) hq
   go_wp2;go_ret;exact⟨by rw[HE.out];rfl,BW.out⟩
  have HE:Xo (Z=7):=show _=_ by
   have hf7:fitE m=7:=by rw[hfit,if_pos (.inr c2)]
   rw[<-HZ2.out,firstE_cons,hf7];rfl
  have c1e:((vsb.n:Int) !=(vs.n:Int))=Xd:=by simp[c1]
  have c1f:(vsb.n != vs.n)=Xd:=by simp[c1]
  have c2e:((dbn:Int) != m.cnt)=Xc:=by simp;omega
  clear c1 c2 hfit
  go_enter Tryz.func29,Tryz.ntmps29
  go_upto_region 1 with fail;rw[HW0.out];have x2:=X0.out.c 2 rfl;have x3:=X0.out.c 3 rfl;have x5:=X0.out.c 5 rfl;have x8:=X0.out.c 8 rfl;go_wp2;go_ret;exact⟨by rw[HE.out];rfl,HG0.out⟩
 have HE:Xo (Z=7):=show _=_ by
  have hf7:fitE m=7:=by rw[hfit,if_pos (.inl (fun e=>c1 e.symm))]
  rw[<-HZ2.out,firstE_cons,hf7];rfl
 have c1e:((vsb.n:Int) !=(vs.n:Int))=Xc:=by simp;omega
 have c1f:(vsb.n != vs.n)=Xc:=by simp[c1]
 clear c1 hfit
 go_enter Tryz.func29,Tryz.ntmps29
 go_upto_region 1 with fail;rw[HW0.out];have x2:=X0.out.c 2 rfl;have x3:=X0.out.c 3 rfl;go_wp2;go_ret;exact⟨by rw[HE.out];rfl,HG0.out⟩
theorem frE_prog {m:Ma} (hca:caGo m Xb m.ca=0) (k:Nat):frE m k=if(frAt m k).r≠heldTo m m.sp.length [] sp00 (1,(k:Int))\/(0<=(frAt m k).f/\¬idxG m.ca ((frAt m k).f,(frAt m k).x)=Xa (k:Int))then 7 else 0:=by
 unfold frE;rw[held_all m sp00 (k:Int) (by decide:(1:Int)≠0),if_pos rfl]
 have:=has_cached hca k
 by_cases h:cachedN m.ca k=0
 ·have h2:¬idxG m.ca ((frAt m k).f,(frAt m k).x)=Xa (k:Int):=fun e=>(this.1 e) h
  simp only[h,h2,not_false_iff,and_true]
 have h2:idxG m.ca ((frAt m k).f,(frAt m k).x)=Xa (k:Int):=this.2 h;simp only[h,h2,not_true,and_false]
theorem sloE_prog (m:Ma) (k:Nat):sloE m k=if m.sl.getD k 0≠heldTo m m.sp.length [] sp00 (2,(k:Int))then 7 else 0:=by
 unfold sloE;have h:=held_all m sp00 (k:Int) (by decide:(2:Int)≠0)
 have h2:¬(2:Int)=1:=by decide
 rw[if_neg h2,Nat.add_zero]at h;rw[h]
theorem wrongCounts_any (V:MaV) (m:Ma) (w:Xn) (hm:MachAt w V m) (hca:caGo m Xb m.ca=0) (hsp4:m.sp.length<=4) (htb:∀s∈m.sp,tbW s.tb=0):
  Xp Tryz.prog 33 #[Xi #[O V.f.a V.f.n V.f.c,Xe Xf m.hand,O V.s.a V.s.n V.s.c,O V.sb.a V.sb.n V.sb.c,O V.sq.a V.sq.n V.sq.c,O V.db.a V.db.n V.db.c,O V.dq.a V.dq.n V.dq.c,O V.fl.a V.fl.n V.fl.c,Xe Xf m.cnt,O V.ca.a V.ca.n V.ca.c,O V.sp.a V.sp.n V.sp.c]] w fun e w'=>e= Xl (Xe Xf (wCounts m))/\Grew w w':=by
 have HWI:Xo (∀W,Grew w W->Xp Tryz.prog 70 #[Xi #[O V.f.a V.f.n V.f.c,Xe Xf m.hand,O V.s.a V.s.n V.s.c,O V.sb.a V.sb.n V.sb.c,O V.sq.a V.sq.n V.sq.c,O V.db.a V.db.n V.db.c,O V.dq.a V.dq.n V.dq.c,O V.fl.a V.fl.n V.fl.c,Xe Xf m.cnt,O V.ca.a V.ca.n V.ca.c,O V.sp.a V.sp.n V.sp.c]] W fun e w'=>∃B,e= Xl (Xi #[O V.f.a V.f.n V.f.c,Xe Xf m.hand,O V.s.a V.s.n V.s.c,O V.sb.a V.sb.n V.sb.c,O V.sq.a V.sq.n V.sq.c,O V.db.a V.db.n V.db.c,O V.dq.a V.dq.n V.dq.c,O V.fl.a V.fl.n V.fl.c,Xe Xf m.cnt,O V.ca.a V.ca.n V.ca.c,O V.sp.a V.sp.n V.sp.c,.map (Xa B)])/\MapF plK w' B (idxG m.ca)/\Grew W w'):=show∀W,_ from fun W hW=>withIndex_any V m W (hm.grew hW)
 have HHO:Xo (∀W,Grew w W->Xp Tryz.prog 71 #[Xi #[O V.f.a V.f.n V.f.c,Xe Xf m.hand,O V.s.a V.s.n V.s.c,O V.sb.a V.sb.n V.sb.c,O V.sq.a V.sq.n V.sq.c,O V.db.a V.db.n V.db.c,O V.dq.a V.dq.n V.dq.c,O V.fl.a V.fl.n V.fl.c,Xe Xf m.cnt,O V.ca.a V.ca.n V.ca.c,O V.sp.a V.sp.n V.sp.c]] W fun e w'=>∃B,e= Xl (.map (Xa B))/\MapH enK w' B (heldTo m m.sp.length [] sp00)/\Grew W w'):=show∀W,_ from fun W hW=>holders_any V m W (hm.grew hW) hsp4 htb
 have HHC:Xo (∀(B k:Nat) W,Grew w W->k<m.fs.length->MapF plK W B (idxG m.ca)->Xp Tryz.prog 72 #[Xi #[O V.f.a V.f.n V.f.c,Xe Xf m.hand,O V.s.a V.s.n V.s.c,O V.sb.a V.sb.n V.sb.c,O V.sq.a V.sq.n V.sq.c,O V.db.a V.db.n V.db.c,O V.dq.a V.dq.n V.dq.c,O V.fl.a V.fl.n V.fl.c,Xe Xf m.cnt,O V.ca.a V.ca.n V.ca.c,O V.sp.a V.sp.n V.sp.c,.map (Xa B)],Xe Xf (k:Int)] W fun e w'=>e= Xl (Xh (decide (idxG m.ca ((frAt m k).f,(frAt m k).x)=Xa (k:Int))))/\Grew W w'):=show∀(B k:Nat) W,_ from fun B k W hW hk hM=>hasCached_any V m B k (idxG m.ca) W (hm.grew hW) hk hM
 obtain⟨⟨fa,fn,fc⟩,⟨sa,sn,sc⟩,vsb,vsq,vdb,vdq,vfl,vca,vsp⟩:=V;dsimp only at HWI HHO HHC⊢;obtain⟨n1,n2,-⟩:=hm.ns;dsimp only at n1 n2;have HFR:Xo (FrRows w fa m.fs):=hm.frs;have HSL:Xo (SlRows w sa m.sl):=hm.sls;have HN1:Xo (m.fs.length=fn):=n1.symm;have HN2:Xo (m.sl.length=sn):=n2.symm;have hb1:fn<=9223372036854775807:=by have:=hm.fs.short;omega
 have hb2:sn<=9223372036854775807:=by have:=hm.sl.short;omega
 have HFE:Xo (∀k:Nat,frE m k=if(frAt m k).r≠(heldTo m m.sp.length [] sp00) (1,(k:Int))\/(0<=(frAt m k).f/\¬idxG m.ca ((frAt m k).f,(frAt m k).x)=Xa (k:Int))then 7 else 0):=show∀k:Nat,_ from fun k=>frE_prog hca k
 clear hm hca hsp4 htb n1 n2;obtain⟨Z,HZ⟩:∃Z,Xo (wCounts m=Z):=⟨_,rfl⟩;rw[HZ.out];have HZ1:Xo (∀k:Nat,k<m.fs.length->(∀j:Nat,j<k->frE m j=0)->frE m k=7->Z=7):=show∀k:Nat,_ from fun k hk h1 h2=>by
  have h3:=firstE_range hk h1 (by rw[h2];decide)
  rw[<-HZ.out];unfold wCounts;rw[h3,h2,if_neg (by decide)]
 have HZ2:Xo ((∀j:Nat,j<m.fs.length->frE m j=0)->∀k:Nat,k<m.sl.length->(∀j:Nat,j<k->sloE m j=0)->sloE m k=7->Z=7):=show _->_ from fun h0 k hk h1 h2=>by
  have h3:=firstE_range hk h1 (by rw[h2];decide)
  rw[<-HZ.out];unfold wCounts;rw[firstE_range_all h0,if_pos rfl,h3,h2]
 have HZ3:Xo ((∀j:Nat,j<m.fs.length->frE m j=0)->(∀j:Nat,j<m.sl.length->sloE m j=0)->Z=0):=show _->_ from fun h0 h1=>by
  rw[<-HZ.out];unfold wCounts;rw[firstE_range_all h0,if_pos rfl,firstE_range_all h1]
 clear HZ;obtain⟨W0,hW0⟩:∃W0,w.alloc (Xk #[O fa fn fc,Xe Xf m.hand,O sa sn sc,O vsb.a vsb.n vsb.c,O vsq.a vsq.n vsq.c,O vdb.a vdb.n vdb.c,O vdq.a vdq.n vdq.c,O vfl.a vfl.n vfl.c,Xe Xf m.cnt,O vca.a vca.n vca.c,O vsp.a vsp.n vsp.c] 42)=W0:=⟨_,rfl⟩;have HG0:=gA hW0
 have X0:=xA hW0
 have HW0:Xo (_=W0):=hW0;clear hW0
 go_enter Tryz.func33,Tryz.ntmps33
 go_upto_region 1 with fail;rw[HW0.out];have hx0:=X0.out.gw 0 rfl
 have hx1:=X0.out.gw 1 rfl
 have hx2:=X0.out.gw 2 rfl
 have hx3:=X0.out.gw 3 rfl
 have hx4:=X0.out.gw 4 rfl
 have hx5:=X0.out.gw 5 rfl
 have hx6:=X0.out.gw 6 rfl
 have hx7:=X0.out.gw 7 rfl
 have hx8:=X0.out.gw 8 rfl
 have hx9:=X0.out.gw 9 rfl
 have hx10:=X0.out.gw 10 rfl
 have hne:Nonempty (GrownW W0):=⟨⟨_,Grew.refl _⟩⟩;refine wp_lax_tail 5 [(1,⟨fun v=>∃B,v= Xi #[O fa fn fc,Xe Xf m.hand,O sa sn sc,O vsb.a vsb.n vsb.c,O vsq.a vsq.n vsq.c,O vdb.a vdb.n vdb.c,O vdq.a vdq.n vdq.c,O vfl.a vfl.n vfl.c,Xe Xf m.cnt,O vca.a vca.n vca.c,O vsp.a vsp.n vsp.c,.map (Xa B)],fun v w'=>∃B,v= Xi #[O fa fn fc,Xe Xf m.hand,O sa sn sc,O vsb.a vsb.n vsb.c,O vsq.a vsq.n vsq.c,O vdb.a vdb.n vdb.c,O vdq.a vdq.n vdq.c,O vfl.a vfl.n vfl.c,Xe Xf m.cnt,O vca.a vca.n vca.c,O vsp.a vsp.n vsp.c,.map (Xa B)]/\MapF plK w' B (idxG m.ca)⟩),(3,⟨fun v=>∃B,v= .map (Xa B),fun v w'=>∃B,v= .map (Xa B)/\MapH enK w' B (heldTo m m.sp.length [] sp00)⟩),(4,⟨fun v=>∃p,v= Xj (Xa ⟨p,0,Xb⟩),fun v w'=>∃p,v= Xj (Xa ⟨p,0,Xb⟩)/\Box w' p [O Xb 0 0,Xe Xf 0,O Xb 0 0,O Xb 0 0,O Xb 0 0,O Xb 0 0,O Xb 0 0,O Xb 0 0,Xe Xf 0,O Xb 0 0,O Xb 0 0,.map Xb]/\w.heap.size<=p⟩)] mixed (by kernel_rfl) rfl rfl (by decide) ?hS ?hp ?_
 case hS=>
  intro x hx;simp only[mC,nM,or_false]at hx
  rcases hx with rfl | rfl | rfl
  ·exact⟨_,0,rfl⟩
  ·exact⟨_,0,rfl⟩
  exact⟨_,0,rfl⟩
 case hp=>
  intro x hx;simp only[mC,nM,or_false]at hx
  rcases hx with rfl | rfl | rfl
  ·exact fun _ _ _ hg h=>by obtain⟨B,h1,h2⟩:=h;exact⟨B,h1,h2.grew hg⟩
  ·exact fun _ _ _ hg h=>by obtain⟨B,h1,h2⟩:=h;exact⟨B,h1,h2.grew hg⟩
  exact fun _ _ _ hg h=>by obtain⟨p,h1,h2,h3⟩:=h;exact⟨p,h1,h2.grew hg,h3⟩
 simp only[Xz,Ya];iterate 1 (refine lax_quiet rfl rfl rfl (fun K hK=>?_);go_big_quiet_op;refine hK _ ?_;clear hK K)
 refine lax_spec rfl rfl (fun w' hg hF=>?_) (fun v1 hv=>?_)
 ·refine Does.call [Xi #[O fa fn fc,Xe Xf m.hand,O sa sn sc,O vsb.a vsb.n vsb.c,O vsq.a vsq.n vsq.c,O vdb.a vdb.n vdb.c,O vdq.a vdq.n vdq.c,O vfl.a vfl.n vfl.c,Xe Xf m.cnt,O vca.a vca.n vca.c,O vsp.a vsp.n vsp.c]] rfl Tryz.func70 rfl rfl rfl ?_;refine(HWI.out w' (HG0.out.trans hg)).mono ?_;rintro e w'' ⟨B,rfl,hM,hg2⟩;exact⟨_,rfl,hg2,⟨B,rfl⟩,B,rfl,hM⟩
 obtain⟨B1,rfl⟩:=hv;simp only[Xs,sB,sS,sZ];iterate 1 (refine lax_quiet rfl rfl rfl (fun K hK=>?_);go_big_quiet_op;refine hK _ ?_;clear hK K)
 refine lax_spec rfl rfl (fun w' hg hF=>?_) (fun v1 hv=>?_)
 ·refine Does.call [Xi #[O fa fn fc,Xe Xf m.hand,O sa sn sc,O vsb.a vsb.n vsb.c,O vsq.a vsq.n vsq.c,O vdb.a vdb.n vdb.c,O vdq.a vdq.n vdq.c,O vfl.a vfl.n vfl.c,Xe Xf m.cnt,O vca.a vca.n vca.c,O vsp.a vsp.n vsp.c]] rfl Tryz.func71 rfl rfl rfl ?_;refine(HHO.out w' (HG0.out.trans hg)).mono ?_;rintro e w'' ⟨B,rfl,hM,hg2⟩;exact⟨_,rfl,hg2,⟨B,rfl⟩,B,rfl,hM⟩
 obtain⟨B2,rfl⟩:=hv;simp only[Xs,sB,sS,sZ];refine lax_spec rfl rfl (fun w' hg hF=>?_) (fun v1 hv=>?_)
 ·have hnew:Box (w'.alloc (Xk #[O Xb 0 0,Xe Xf 0,O Xb 0 0,O Xb 0 0,O Xb 0 0,O Xb 0 0,O Xb 0 0,O Xb 0 0,Xe Xf 0,O Xb 0 0,O Xb 0 0,.map Xb] 131)) w'.heap.size [O Xb 0 0,Xe Xf 0,O Xb 0 0,O Xb 0 0,O Xb 0 0,O Xb 0 0,O Xb 0 0,O Xb 0 0,Xe Xf 0,O Xb 0 0,O Xb 0 0,.map Xb]:=Box.top _ _ _ rfl;have hle:w.heap.size<=w'.heap.size:=bS (HG0.out.trans hg);clear hx0 hx1 hx2 hx3 hx4 hx5 hx6 hx7 hx8 hx9 hx10 hne;refine Does.step (v:= Xj (Xa ⟨w'.heap.size,0,Xb⟩)) (w':=w'.alloc (Xk #[O Xb 0 0,Xe Xf 0,O Xb 0 0,O Xb 0 0,O Xb 0 0,O Xb 0 0,O Xb 0 0,O Xb 0 0,Xe Xf 0,O Xb 0 0,O Xb 0 0,.map Xb] 131)) (by simp only[execOp];go_simp) ⟨grew_alloc _ _,⟨_,rfl⟩,_,rfl,hnew,hle⟩
 obtain⟨p3,rfl⟩:=hv;simp only[Xs,sB,sS,sZ];refine lax_nil fun W3 hg3 hF=>?_
 obtain⟨B1',he1,hM1⟩:∃B,(Value.agg #[O fa fn fc,Xe Xf m.hand,O sa sn sc,O vsb.a vsb.n vsb.c,O vsq.a vsq.n vsq.c,O vdb.a vdb.n vdb.c,O vdq.a vdq.n vdq.c,O vfl.a vfl.n vfl.c,Xe Xf m.cnt,O vca.a vca.n vca.c,O vsp.a vsp.n vsp.c,.map (Xa B1)])= Xi #[O fa fn fc,Xe Xf m.hand,O sa sn sc,O vsb.a vsb.n vsb.c,O vsq.a vsq.n vsq.c,O vdb.a vdb.n vdb.c,O vdq.a vdq.n vdq.c,O vfl.a vfl.n vfl.c,Xe Xf m.cnt,O vca.a vca.n vca.c,O vsp.a vsp.n vsp.c,.map (Xa B)]/\MapF plK W3 B (idxG m.ca):=hF 1;obtain⟨B2',he2,hM2⟩:∃B,(Value.map (Xa B2))= .map (Xa B)/\MapH enK W3 B (heldTo m m.sp.length [] sp00):=hF 3;obtain⟨p3',he3,hB3,hle3⟩:∃p,(Value.pointer (Xa ⟨p3,0,Xb⟩))= Xj (Xa ⟨p,0,Xb⟩)/\Box W3 p [O Xb 0 0,Xe Xf 0,O Xb 0 0,O Xb 0 0,O Xb 0 0,O Xb 0 0,O Xb 0 0,O Xb 0 0,Xe Xf 0,O Xb 0 0,O Xb 0 0,.map Xb]/\w.heap.size<=p:=hF 4;have e1:B1'=B1:=by simp at he1;exact he1.symm
 have e2:B2'=B2:=by simp at he2;exact he2.symm
 have e3:p3'=p3:=by simp at he3;exact he3.symm
 subst e1 e2 e3;have M1:Xo (MapF plK W3 B1' (idxG m.ca)):=hM1;have M2:Xo (MapH enK W3 B2' (heldTo m m.sp.length [] sp00)):=hM2;have Y3:Xo (Box W3 p3' [O Xb 0 0,Xe Xf 0,O Xb 0 0,O Xb 0 0,O Xb 0 0,O Xb 0 0,O Xb 0 0,O Xb 0 0,Xe Xf 0,O Xb 0 0,O Xb 0 0,.map Xb]):=hB3;have HL3:Xo (w.heap.size<=p3'):=hle3;have HG3:=dD (HG0.out.trans hg3);have X3:=dD (X0.out.grew hg3);clear he1 he2 he3 hM1 hM2 hB3 hle3 hg3 hF hx0 hx1 hx2 hx3 hx4 hx5 hx6 hx7 hx8 hx9 hx10 hne;have HXP:Xo (w.heap.size≠p3'):=show _≠_ from fun e=>by
  obtain⟨t1,h1⟩:=X3.out;obtain⟨t2,h2⟩:=Y3.out;rw[<-e,h1]at h2
  simp at h2
 go_wp2_with (refine wp_storeAll rfl 131 (.tmp 3) (.tmp 10) rfl p3' rfl [O fa fn fc,Xe Xf m.hand,O sa sn sc,O vsb.a vsb.n vsb.c,O vsq.a vsq.n vsq.c,O vdb.a vdb.n vdb.c,O vdq.a vdq.n vdq.c,O vfl.a vfl.n vfl.c,Xe Xf m.cnt,O vca.a vca.n vca.c,O vsp.a vsp.n vsp.c,.map (Xa B1')] rfl Y3.out rfl (by kernel_rfl) (fun v hv=>by
    simp only[mC,nM,or_false]at hv
    rcases hv with rfl | rfl | rfl | rfl | rfl | rfl | rfl | rfl | rfl | rfl | rfl | rfl <;> rfl) ?_)
 intro W4 hb4 hg4 _;have Y4:Xo (Box W4 p3' [O fa fn fc,Xe Xf m.hand,O sa sn sc,O vsb.a vsb.n vsb.c,O vsq.a vsq.n vsq.c,O vdb.a vdb.n vdb.c,O vdq.a vdq.n vdq.c,O vfl.a vfl.n vfl.c,Xe Xf m.cnt,O vca.a vca.n vca.c,O vsp.a vsp.n vsp.c,.map (Xa B1')]):=hb4;have X4:Xo (Box W4 w.heap.size [O fa fn fc,Xe Xf m.hand,O sa sn sc,O vsb.a vsb.n vsb.c,O vsq.a vsq.n vsq.c,O vdb.a vdb.n vdb.c,O vdq.a vdq.n vdq.c,O vfl.a vfl.n vfl.c,Xe Xf m.cnt,O vca.a vca.n vca.c,O vsp.a vsp.n vsp.c]):=X3.out.grown hg4 HXP.out;have N1:Xo (MapF plK W4 B1' (idxG m.ca)):=M1.out.kept hg4 (fun e=>by cases e;exact Y3.out.ne_map M1.out rfl)
 have N2:Xo (MapH enK W4 B2' (heldTo m m.sp.length [] sp00)):=show MapH _ _ _ _ by
  obtain⟨g,k1,k2⟩:=M2.out;exact⟨g,k1.kept hg4 (fun e=>by cases e;exact Y3.out.ne_map k1 rfl),k2⟩
 have HG4:Xo (Grew w W4):=show Grew _ _ from grew_grown HG3.out hg4 HL3.out
 clear hb4 hg4 M1 M2 Y3 X3;have x0:=X4.out.c 0 rfl;go_wp2;clear x0
 go_loopg [17] fn (fun gg s17 wr=>∃kk:Nat,kk<=fn/\fn - kk<=gg/\s17= Xe Xf kk/\Xo (Grew W4 wr)/\Xo (∀j:Nat,j<kk->frE m j=0))
 case atStart=>exact⟨0,nZ _,by omega,rfl,Grew.refl _,fun j hj=>absurd hj (nL _)⟩
 obtain⟨kk,hkk,hgg,rfl,BW,OW⟩:=hrel
 by_cases hlt:kk<fn
 ·have hltz:(kk:Int)< (fn:Int):=by omega
  have HKL:Xo (kk<m.fs.length):=show _<_ by rw[HN1.out];exact hlt
  obtain⟨q,HQ⟩:∃q,Xo (m.fs[kk]? =Xa q):=⟨_,gE HKL.out⟩;have HFQ:Xo (frAt m (kk:Int)=q):=show _=_ by unfold frAt;rw[tN,gD,HQ.out];rfl
  obtain⟨ad,rfl,hl⟩:=HFR.out kk q HQ.out;obtain⟨d0,d1,d2,d3,d4,d5,d6,d7,d8,d9,d10,d11,d12⟩:=hl wr (HG4.out.trans BW.out);clear hl;go_upto_region 5 with fail;obtain⟨W5,hW5⟩:∃W5,wr.alloc (Xk #[Xe Xg q.p.b0,Xe Xg q.p.b1,Xe Xg q.p.b2,Xe Xg q.p.b3,Xe Xg q.p.b4,Xe Xg q.p.b5,Xe Xg q.p.b6,Xe Xg q.p.b7,Xe Xf q.r,Xh q.u,Xh q.d,Xe Xf q.f,Xe Xf q.x] 93)=W5:=⟨_,rfl⟩;have HG5:=gT hW5 BW
  have HGw5:=dD (HG4.out.trans HG5.out);have F5:=xA hW5
  have Y5:=dD (Y4.out.grew HG5.out);rw[hW5];clear hW5 d0 d1 d2 d3 d4 d5 d6 d7 d8 d9 d10 d11 d12;obtain⟨pf,HPF⟩:∃pf,Xo (wr.heap.size=pf):=⟨_,rfl⟩;rw[HPF.out]at F5⊢;obtain⟨h,HHK⟩:∃h,Xo ((heldTo m m.sp.length [] sp00) (1,(kk:Int))=h):=⟨_,rfl⟩;have hlk:∀y:GrownW W5,(Instr.lookup 133 (.map (Xa B2')) (Xi #[Xe Xf 1,Xe Xf (kk:Int),Xh Xd]) Xd).run Tryz.prog y.world= .ok (Xe Xf h) y.world:=fun y=>by
   have:=(N2.out.grew (HG5.out.trans y.grew)).look (K:=enK) Tryz.underlying133 (Tryz.zeroInt _) (1,(kk:Int));rw[HHK.out]at this;exact this
  have hf8:=F5.out.gw 8 rfl
  have hf11:=F5.out.gw 11 rfl
  have hy0:=Y5.out.gw 0 rfl
  have hy1:=Y5.out.gw 1 rfl
  have hy2:=Y5.out.gw 2 rfl
  have hy3:=Y5.out.gw 3 rfl
  have hy4:=Y5.out.gw 4 rfl
  have hy5:=Y5.out.gw 5 rfl
  have hy6:=Y5.out.gw 6 rfl
  have hy7:=Y5.out.gw 7 rfl
  have hy8:=Y5.out.gw 8 rfl
  have hy9:=Y5.out.gw 9 rfl
  have hy10:=Y5.out.gw 10 rfl
  have hy11:=Y5.out.gw 11 rfl
  have hne:Nonempty (GrownW W5):=⟨⟨_,Grew.refl _⟩⟩;have HFK:=HFE.out kk;rw[HFQ.out,HHK.out]at HFK
  by_cases hr:q.r=h
  ·have hre:(q.r != h)=Xd:=by simp[hr]
   by_cases hf0:0<=q.f
   ·have hf0d:decide (0<=q.f)=Xc:=by simpa using hf0
    obtain⟨U,HU⟩:∃U,Xo (decide (idxG m.ca ((frAt m (kk:Int)).f,(frAt m (kk:Int)).x)=Xa (kk:Int))=U):=⟨_,rfl⟩;have HUF:Xo (frE m kk=if U=Xc then 0 else 7):=show _=_ by
     have h1:=HU.out;rw[HFQ.out]at h1;rw[HFK,<-h1]
     by_cases hc:idxG m.ca (q.f,q.x)=Xa (kk:Int)
     ·rw[if_neg (by simp[hr,hc]),if_pos (by simpa using hc)]
     rw[if_pos (.inr ⟨hf0,hc⟩),if_neg (by simpa using hc)]
    have HCC:Xo (∀W,Grew W4 W->Xp Tryz.prog 72 #[Xi #[O (Xa ad) fn fc,Xe Xf m.hand,O sa sn sc,O vsb.a vsb.n vsb.c,O vsq.a vsq.n vsq.c,O vdb.a vdb.n vdb.c,O vdq.a vdq.n vdq.c,O vfl.a vfl.n vfl.c,Xe Xf m.cnt,O vca.a vca.n vca.c,O vsp.a vsp.n vsp.c,.map (Xa B1')],Xe Xf (kk:Int)] W fun e w'=>e= Xl (Xh U)/\Grew W w'):=show∀W,_ from fun W hW=>by
     have h1:=HHC.out B1' kk W (HG4.out.trans hW) HKL.out (N1.out.grew hW);rw[HU.out]at h1;exact h1
    clear hr hf0 HFK;refine wp_lax [(14,⟨fun v=>v= Xh U,fun v w'=>True⟩)] mixed (by kernel_rfl) ?hS ?hp ?_
    case hS=>
     intro x hx;simp only[mC,nM,or_false]at hx;subst hx;exact⟨_,rfl⟩
    case hp=>
     intro x hx;simp only[mC,nM,or_false]at hx;subst hx;exact fun _ _ _ _ h=>h
    iterate 14 (refine lax_quiet rfl rfl rfl (fun K hK=>?_);go_big_quiet_op;refine hK _ ?_;clear hK K)
    refine lax_spec rfl rfl (fun w' hg hF=>?_) (fun v1 hv=>?_)
    ·refine Does.call [Xi #[O (Xa ad) fn fc,Xe Xf m.hand,O sa sn sc,O vsb.a vsb.n vsb.c,O vsq.a vsq.n vsq.c,O vdb.a vdb.n vdb.c,O vdq.a vdq.n vdq.c,O vfl.a vfl.n vfl.c,Xe Xf m.cnt,O vca.a vca.n vca.c,O vsp.a vsp.n vsp.c,.map (Xa B1')],Xe Xf (kk:Int)] rfl Tryz.func72 rfl rfl rfl ?_;refine(HCC.out w' (HG5.out.trans hg)).mono ?_;rintro e w'' ⟨rfl,hg3⟩;exact⟨_,rfl,hg3,rfl,trivial⟩
    subst hv;simp only[Xs,sB,sS,sZ];iterate 3 (refine lax_quiet rfl rfl rfl (fun K hK=>?_);go_big_quiet_op;refine hK _ ?_;clear hK K)
    refine lax_nil fun W6 hg6 hF=>?_
    have HG6:=dD (HG5.out.trans hg6);clear hg6 hF hlk hf8 hf11 hy0 hy1 hy2 hy3 hy4 hy5 hy6 hy7 hy8 hy9 hy10 hy11 hne
    cases U with
    | true=>
     have OW':Xo (∀j:Nat,j<kk+1->frE m j=0):=show∀j:Nat,_ from fun j hj=>by
      by_cases e:j=kk
      ·rw[e,HUF.out,if_pos rfl]
      exact OW.out j (by omega)
     go_wp2
     go_roundg (fn -(kk+1))
     case measure=>omega
     exact⟨kk+1,by omega,by omega,by go_num,HG6.out,OW'.out⟩
    | false=>
     have HZE:Xo (Z=7):=HZ1.out kk HKL.out OW.out (by rw[HUF.out,if_neg (by decide)])
     have HGW:=dD (HG4.out.trans HG6.out);go_wp2;go_ret;exact⟨by rw[HZE.out];rfl,HGW.out⟩
   have hf0d:decide (0<=q.f)=Xd:=by simpa using hf0
   have HFZ:Xo (frE m kk=0):=show _=_ by rw[HFK,if_neg (by simp[hr,hf0])]
   have OW':Xo (∀j:Nat,j<kk+1->frE m j=0):=show∀j:Nat,_ from fun j hj=>by
    by_cases e:j=kk
    ·rw[e];exact HFZ.out
    exact OW.out j (by omega)
   clear hr hf0 HFK;refine wp_lax [] mixed (by kernel_rfl) (by simp) (by simp) ?_
   iterate 12 (refine lax_quiet rfl rfl rfl (fun K hK=>?_);go_big_quiet_op;refine hK _ ?_;clear hK K)
   refine lax_skip ?_ ?_
   ·kernel_rfl
   simp only[Xs,sB,sS,sZ];refine lax_skip ?_ ?_
   ·kernel_rfl
   simp only[Xs,sB,sS,sZ];refine lax_skip ?_ ?_
   ·kernel_rfl
   simp only[Xs,sB,sS,sZ];refine lax_skip ?_ ?_
   ·kernel_rfl
   simp only[Xs,sB,sS,sZ];iterate 2 (refine lax_quiet rfl rfl rfl (fun K hK=>?_);go_big_quiet_op;refine hK _ ?_;clear hK K)
   refine lax_nil fun W6 hg6 hF=>?_
   have HG6:=dD (HG5.out.trans hg6);clear hg6 hF hlk hf8 hf11 hy0 hy1 hy2 hy3 hy4 hy5 hy6 hy7 hy8 hy9 hy10 hy11 hne;go_wp2
   go_roundg (fn -(kk+1))
   case measure=>omega
   exact⟨kk+1,by omega,by omega,by go_num,HG6.out,OW'.out⟩
  have hre:(q.r != h)=Xc:=by simp[hr]
  have HZE:Xo (Z=7):=HZ1.out kk HKL.out OW.out (by rw[HFK,if_pos (.inl hr)])
  clear hr HFK;refine wp_lax [] mixed (by kernel_rfl) (by simp) (by simp) ?_
  iterate 8 (refine lax_quiet rfl rfl rfl (fun K hK=>?_);go_big_quiet_op;refine hK _ ?_;clear hK K)
  refine lax_skip ?_ ?_
  ·kernel_rfl
  simp only[Xs,sB,sS,sZ];refine lax_skip ?_ ?_
  ·kernel_rfl
  simp only[Xs,sB,sS,sZ];refine lax_skip ?_ ?_
  ·kernel_rfl
  simp only[Xs,sB,sS,sZ];refine lax_skip ?_ ?_
  ·kernel_rfl
  simp only[Xs,sB,sS,sZ];refine lax_skip ?_ ?_
  ·kernel_rfl
  simp only[Xs,sB,sS,sZ];refine lax_skip ?_ ?_
  ·kernel_rfl
  simp only[Xs,sB,sS,sZ];refine lax_skip ?_ ?_
  ·kernel_rfl
  simp only[Xs,sB,sS,sZ];refine lax_skip ?_ ?_
  ·kernel_rfl
  simp only[Xs,sB,sS,sZ];refine lax_skip ?_ ?_
  ·kernel_rfl
  simp only[Xs,sB,sS,sZ];iterate 1 (refine lax_quiet rfl rfl rfl (fun K hK=>?_);go_big_quiet_op;refine hK _ ?_;clear hK K)
  refine lax_nil fun W6 hg6 hF=>?_
  have HG6:=dD (HGw5.out.trans hg6);clear hg6 hF hlk hf8 hf11 hy0 hy1 hy2 hy3 hy4 hy5 hy6 hy7 hy8 hy9 hy10 hy11 hne;go_wp2;go_ret;exact⟨by rw[HZE.out];rfl,HG6.out⟩
 have hltz:¬(kk:Int)< (fn:Int):=by omega
 have:kk=fn:=by omega
 subst this;have OA:Xo (∀j:Nat,j<m.fs.length->frE m j=0):=show∀j:Nat,_ from fun j hj=>OW.out j (by rw[<-HN1.out];exact hj)
 have x2:=(X4.out.grew BW.out).c 2 rfl;go_wp2;clear x2;have HBW:Xo (Grew W4 wr):=BW;clear BW OW
 go_loopg [44] sn (fun gg s44 wr=>∃i:Nat,i<=sn/\sn - i<=gg/\s44= Xe Xf i/\Xo (Grew W4 wr)/\Xo (∀j:Nat,j<i->sloE m j=0))
 case atStart=>exact⟨0,nZ _,by omega,rfl,HBW.out,fun j hj=>absurd hj (nL _)⟩
 obtain⟨i,hi,hg2,rfl,BW,OW⟩:=hrel;clear HBW
 by_cases hlt2:i<sn
 ·have hltz2:(i:Int)< (sn:Int):=by omega
  have HKL:Xo (i<m.sl.length):=show _<_ by rw[HN2.out];exact hlt2
  obtain⟨z,HZI⟩:∃z,Xo (m.sl[i]? =Xa z):=⟨_,gE HKL.out⟩;obtain⟨ad,rfl,hl⟩:=HSL.out i z HZI.out;have d0:=hl wr (HG4.out.trans BW.out);clear hl;obtain⟨h,HHK⟩:∃h,Xo ((heldTo m m.sp.length [] sp00) (2,(i:Int))=h):=⟨_,rfl⟩;have hlk:(Instr.lookup 133 (.map (Xa B2')) (Xi #[Xe Xf 2,Xe Xf (i:Int),Xh Xd]) Xd).run Tryz.prog wr= .ok (Xe Xf h) wr:=by
   have:=(N2.out.grew BW.out).look (K:=enK) Tryz.underlying133 (Tryz.zeroInt _) (2,(i:Int));rw[HHK.out]at this;exact this
  have HSE:Xo (sloE m i=if z≠h then 7 else 0):=show _=_ by rw[sloE_prog,gD,HZI.out,HHK.out];rfl
  by_cases hr:z=h
  ·have hre:(z != h)=Xd:=by simp[hr]
   have OW':Xo (∀j:Nat,j<i+1->sloE m j=0):=show∀j:Nat,_ from fun j hj=>by
    by_cases e:j=i
    ·rw[e,HSE.out,if_neg (by simp[hr])]
    exact OW.out j (by omega)
   clear hr;go_wp2
   go_roundg (sn -(i+1))
   case measure=>omega
   exact⟨i+1,by omega,by omega,by go_num,BW.out,OW'.out⟩
  have hre:(z != h)=Xc:=by simp[hr]
  have HZE:Xo (Z=7):=HZ2.out OA.out i HKL.out OW.out (by rw[HSE.out,if_pos hr])
  have HGW:=dD (HG4.out.trans BW.out);clear hr;go_wp2;go_ret;exact⟨by rw[HZE.out];rfl,HGW.out⟩
 have hltz2:¬(i:Int)< (sn:Int):=by omega
 have:i=sn:=by omega
 subst this;have HZE:Xo (Z=0):=HZ3.out OA.out fun j hj=>OW.out j (by rw[<-HN2.out];exact hj)
 have HGW:=dD (HG4.out.trans BW.out);go_wp2;go_ret;exact⟨by rw[HZE.out];rfl,HGW.out⟩
def chk:List Nat:=[28,29,30,31,32,33]
def chkE (m:Ma):List Int:=[firstE (wPartsL m),firstE (wDisksL m),wSpaces m,wCache m,wPages m,wCounts m]
theorem wSpaces_four {m:Ma} (h:wSpaces m=0):m.sp.length<=4:=by
 unfold wSpaces at h
 split at h
 ·cases h
 omega
theorem chk_enters (k f:Nat) (hf:chk[k]? =Xa f):∀args w,(callFunc f args).run Tryz.prog w= .ok (.enter f args) w:=by
 match k,hf with
 | 0,hf=>cases hf;exact enters_of Tryz.func28 (by kernel_rfl) rfl
 | 1,hf=>cases hf;exact enters_of Tryz.func29 (by kernel_rfl) rfl
 | 2,hf=>cases hf;exact enters_of Tryz.func30 (by kernel_rfl) rfl
 | 3,hf=>cases hf;exact enters_of Tryz.func31 (by kernel_rfl) rfl
 | 4,hf=>cases hf;exact enters_of Tryz.func32 (by kernel_rfl) rfl
 | 5,hf=>cases hf;exact enters_of Tryz.func33 (by kernel_rfl) rfl
 | k+6,hf=>simp[chk]at hf
def fnV (f:Nat):Xq:= .func (.func f) #[] #[]
theorem ownsRow_own {b size n g:Nat} {w:Xn} {e:TypeId} {v:Xq} {xs:List Xq} (h:w.ownsRow b e size v n xs) (hv:v.ownBlock=Xa g):b<=g/\g<w.heap.size/\∃cs,w.heap[g]? =Xa (Xk cs e (0,0)):=by
 rcases h.2 with⟨rfl,_⟩ | ⟨k,cap,cur,rfl,h2,h3,h4⟩
 ·cases hv
 simp only[Value.ownBlock,Option.some.injEq]at hv;subst hv;exact⟨h2,(aS.1 h3).1,cur,h3⟩
theorem ownsRow_outD {D:Nat->Prop} {b size n:Nat} {w W:Xn} {e:TypeId} {v:Xq} {xs:List Xq} (h:w.ownsRow b e size v n xs) (k:OutD D w W) (hn:∀g,v.ownBlock=Xa g->¬D g):W.ownsRow b e size v n xs:=by
 refine⟨h.1,?_⟩
 rcases h.2 with h1 | ⟨g,cap,cur,rfl,h2,h3,h4⟩
 ·exact .inl h1
 exact .inr ⟨g,cap,cur,rfl,h2,by rw[k.block g (aS.1 h3).1 (hn g rfl)];exact h3,h4⟩
theorem owns_outD {D:Nat->Prop} {b size n:Nat} {w W:Xn} {e:TypeId} {v:Xq} {xs:List Xq} (h:w.ownsRow b e size v n xs) (k:OutD D w W) (hn:∀g,v.ownBlock=Xa g->¬D g):W.ownsRow b e size v n xs:=by
 refine⟨h.1,?_⟩
 rcases h.2 with h1 | ⟨g,cap,cur,rfl,h2,h3,h4⟩
 ·exact .inl h1
 exact .inr ⟨g,cap,cur,rfl,h2,by rw[k.block g (aS.1 h3).1 (hn g rfl)];exact h3,h4⟩
def oB (s:Sli) (b:Nat):Prop:=(O s.a s.n s.c).ownBlock=Xa b
def Dw (p:Nat) (V:MaV):Nat->Prop:=fun b=>b=p\/oB V.f b\/oB V.ca b\/oB V.sp b
def Dr (B p:Nat) (V:MaV):Nat->Prop:=fun b=>b<B\/Dw p V b
structure RestW (w:Xn) (V:MaV) (m:Ma):Prop where
 sl:RowAt slE w (O V.s.a V.s.n V.s.c) m.sl
 sb:PagesAt w (O V.sb.a V.sb.n V.sb.c) m.sb
 sq:PutsAt w (O V.sq.a V.sq.n V.sq.c) m.sq
 db:PagesAt w (O V.db.a V.db.n V.db.c) m.db
 dq:PutsAt w (O V.dq.a V.dq.n V.dq.c) m.dq
 fl:FilesAt w (O V.fl.a V.fl.n V.fl.c) m.fl
structure ChW (w0:Xn) (p:Nat) (w:Xn) (V:MaV) (m:Ma):Prop where
 gr:Grew w0 w
 lo:w0.heap.size<=p
 box:BoxT w p 88 (chL V m)
 fs:OwnRow frmE w0.heap.size w (O V.f.a V.f.n V.f.c) m.fs
 ca:OwnRow cchE w0.heap.size w (O V.ca.a V.ca.n V.ca.c) m.ca
 sp:∃xs:List SpV,OwnRow spcE w0.heap.size w (O V.sp.a V.sp.n V.sp.c) xs/\xs.length=m.sp.length/\∀(i:Nat) x s,xs[i]? =Xa x->m.sp[i]? =Xa s->∀W,OutD (Dr w0.heap.size p V) w W->SpaceAt W x s
 rest:∀W,OutD (Dr w0.heap.size p V) w W->RestW W V m
def Chg (w0:Xn) (p:Nat) (w:Xn) (V:MaV) (m':Ma) (w':Xn):Prop:=∃V':MaV,ChW w0 p w' V' m'/\OutD (Dw p V) w w'/\∀k,Dw p V' k->Dw p V k\/w.heap.size<=k
section
variable{w0 w w1 w2:Xn} {p:Nat} {V V':MaV} {m m':Ma}
theorem ChW.dlt (h:ChW w0 p w V m):∀k,Dw p V k->k<w.heap.size:=by
 rintro k (rfl | hk | hk | hk)
 ·exact h.box.box.lt
 ·exact(h.fs.lt k hk).2
 ·exact(h.ca.lt k hk).2
 obtain⟨xs,s1,_⟩:=h.sp;exact(s1.lt k hk).2
theorem ChW.dlo (h:ChW w0 p w V m):∀k,Dw p V k->w0.heap.size<=k:=by
 rintro k (rfl | hk | hk | hk)
 ·exact h.lo
 ·exact(h.fs.lt k hk).1
 ·exact(h.ca.lt k hk).1
 obtain⟨xs,s1,_⟩:=h.sp;exact(s1.lt k hk).1
theorem ChW.drt (h:ChW w0 p w V m):∀k,Dr w0.heap.size p V k->k<w.heap.size:=by
 rintro k (hk | hk)
 ·exact Xv hk (bS h.gr)
 exact h.dlt k hk
theorem ChW.grew (h:ChW w0 p w V m) (k:Grew w w1):ChW w0 p w1 V m:=by
 obtain⟨xs,s1,s2,s3⟩:=h.sp;exact⟨h.gr.trans k,h.lo,h.box.grew k,h.fs.grew k,h.ca.grew k,⟨xs,s1.grew k,s2,fun i x s hx hs W hW=>s3 i x s hx hs W ((OutD.grew k).trans hW)⟩,fun W hW=>h.rest W ((OutD.grew k).trans hW)⟩
theorem ChW.at (h:ChW w0 p w V m):MachAt w V m:=by
 have r:=h.rest w (OutD.refl _ _);obtain⟨xs,s1,s2,s3⟩:=h.sp;exact⟨h.fs.at,r.sl,r.sb,r.sq,r.db,r.dq,r.fl,h.ca.at,⟨xs,s1.at,s2,fun i x s hx hs=>s3 i x s hx hs w (OutD.refl _ _)⟩⟩
theorem ChW.nf (h:ChW w0 p w V m):∀g,oB V.f g->p≠g:=h.fs.ne h.box (by decide)
theorem ChW.nc (h:ChW w0 p w V m):∀g,oB V.ca g->p≠g:=h.ca.ne h.box (by decide)
theorem ChW.ns (h:ChW w0 p w V m):∀g,oB V.sp g->p≠g:=by
 obtain⟨xs,s1,_⟩:=h.sp;exact s1.ne h.box (by decide)
theorem ChW.fc (h:ChW w0 p w V m):∀g,oB V.f g->¬oB V.ca g:=h.fs.apart h.ca (by decide)
theorem ChW.fS (h:ChW w0 p w V m):∀g,oB V.f g->¬oB V.sp g:=by
 obtain⟨xs,s1,_⟩:=h.sp;exact h.fs.apart s1 (by decide)
theorem ChW.cS (h:ChW w0 p w V m):∀g,oB V.ca g->¬oB V.sp g:=by
 obtain⟨xs,s1,_⟩:=h.sp;exact h.ca.apart s1 (by decide)
theorem ChW.key (k:OutD (Dw p V) w w1) (hd:∀k,Dw p V' k->Dw p V k\/w.heap.size<=k) {W:Xn} (hW:OutD (Dr w0.heap.size p V') w1 W):OutD (Dr w0.heap.size p V) w W:=
 ⟨hW.os.trans k.os,hW.tape.trans k.tape,hW.output.trans k.output,nT k.size hW.size,fun b hb hn=>(hW.block b (Xv hb k.size) (fun e=>by
  rcases e with e | e
  ·exact hn (.inl e)
  rcases hd b e with e | e
  ·exact hn (.inr e)
  omega)).trans (k.block b hb (fun e=>hn (.inr e)))⟩
theorem ChW.grOut (h:ChW w0 p w V m) (k:OutD (Dw p V) w w1):Grew w0 w1:=
 ⟨k.os.trans (Below.os h.gr),k.tape.trans (Below.tape h.gr),k.output.trans (Below.output h.gr),nT (bS h.gr) k.size,fun b hb=>(k.block b (Xv hb (bS h.gr)) (fun e=>by have:=h.dlo b e;omega)).trans (Below.block h.gr b hb)⟩
theorem Chg.refl (h:ChW w0 p w V m) (g:Grew w w1):Chg w0 p w V m w1:=⟨V,h.grew g,OutD.grew g,fun _ hk=> .inl hk⟩
theorem Chg.of_grew (g:Grew w w1) (h:Chg w0 p w1 V m' w2):Chg w0 p w V m' w2:=by
 obtain⟨V2,c2,o2,d2⟩:=h;refine⟨V2,c2,(OutD.grew g).trans o2,fun k hk=>?_⟩
 rcases d2 k hk with e | e
 ·exact .inl e
 exact .inr (nT (bS g) e)
theorem Chg.step {V1:MaV} (o1:OutD (Dw p V) w w1) (d1:∀k,Dw p V1 k->Dw p V k\/w.heap.size<=k) (h2:Chg w0 p w1 V1 m' w2):Chg w0 p w V m' w2:=by
 obtain⟨V2,c2,o2,d2⟩:=h2;refine⟨V2,c2,⟨o2.os.trans o1.os,o2.tape.trans o1.tape,o2.output.trans o1.output,nT o1.size o2.size,fun b hb hn=>(o2.block b (Xv hb o1.size) (fun e=>?_)).trans (o1.block b hb hn)⟩,fun k hk=>?_⟩
 ·rcases d1 b e with e | e
  ·exact hn e
  omega
 rcases d2 k hk with e | e
 ·exact d1 k e
 exact .inr (nT o1.size e)
theorem Chg.far {V1:MaV} (g:Grew w w1) (d:∀k,Dw p V1 k->Dw p V k\/w1.heap.size<=k):∀k,Dw p V1 k->Dw p V k\/w.heap.size<=k:=fun k hk=>(d k hk).elim .inl fun e=> .inr (nT (bS g) e)
theorem ChW.field (h:ChW w0 p w V m) (g1:Grew w w1) (g2:w1.grownBy w2 (Xa p)) (hf:V'.f=V.f) (hc:V'.ca=V.ca) (hs:V'.sp=V.sp) (mf:m'.fs=m.fs) (mc:m'.ca=m.ca) (ms:m'.sp=m.sp) (bx:BoxT w2 p 88 (chL V' m')) (rs:∀W,OutD (Dr w0.heap.size p V) w W->OutD (Dr w0.heap.size p V) w1 W->RestW W V m->RestW W V' m'):Chg w0 p w V m' w2:=by
 have o:OutD (Dw p V) w w2:=(OutD.grew g1).trans (OutD.grown g2 (.inl rfl));have hdw:Dw p V'=Dw p V:=by unfold Dw;rw[hf,hc,hs]
 have hdr:Dr w0.heap.size p V'=Dr w0.heap.size p V:=by unfold Dr;rw[hdw]
 obtain⟨xs,s1,s2,s3⟩:=h.sp;refine⟨V',⟨h.grOut o,h.lo,bx,?_,?_,⟨xs,?_,by rw[ms];exact s2,fun i x s hx hs' W hW=>?_⟩,fun W hW=>?_⟩,o,fun k hk=> .inl (by rw[hdw]at hk;exact hk)⟩
 ·rw[hf,mf];exact(h.fs.grew g1).grown g2 (fun g hg e=>h.nf g hg (by cases e;rfl))
 ·rw[hc,mc];exact(h.ca.grew g1).grown g2 (fun g hg e=>h.nc g hg (by cases e;rfl))
 ·rw[hs];exact(s1.grew g1).grown g2 (fun g hg e=>h.ns g hg (by cases e;rfl))
 ·rw[hdr]at hW;rw[ms]at hs';exact s3 i x s hx hs' W ((o.wide fun k hk=> .inr hk).trans hW)
 rw[hdr]at hW;exact rs W ((o.wide fun k hk=> .inr hk).trans hW) (((OutD.grown g2 (.inr (.inl rfl)))).trans hW) (h.rest W ((o.wide fun k hk=> .inr hk).trans hW))
theorem ChW.setS (h:ChW w0 p w V m) {b:Sli} {sl:List Int} (g1:Grew w w1) (nr:NewRow slE w.heap.size w1 (O b.a b.n b.c) sl) (g2:w1.grownBy w2 (Xa p)) (bx:BoxT w2 p 88 (chL { V with s:=b } { m with sl:=sl })):Chg w0 p w V { m with sl:=sl } w2:=
 h.field (V':={ V with s:=b }) (m':={ m with sl:=sl }) g1 g2 rfl rfl rfl rfl rfl rfl bx (fun W _ o r=>⟨nr.staysD h.drt W o,r.sb,r.sq,r.db,r.dq,r.fl⟩)
theorem ChW.setF (h:ChW w0 p w V m) {b:Sli} {fs:List Fr} {hd:Int} (g1:Grew w w1) (nr:OwnRow frmE w.heap.size w1 (O b.a b.n b.c) fs) (g2:w1.grownBy w2 (Xa p)) (bx:BoxT w2 p 88 (chL { V with f:=b } { m with fs:=fs,hand:=hd })):Chg w0 p w V { m with fs:=fs,hand:=hd } w2:=by
 have o:OutD (Dw p V) w w2:=(OutD.grew g1).trans (OutD.grown g2 (.inl rfl));have hpl:=h.dlt p (.inl rfl);have hd:∀k,Dw p { V with f:=b } k->Dw p V k\/w.heap.size<=k:=by
  rintro k (e | e | e | e)
  ·exact .inl (.inl e)
  ·exact .inr (nr.lt k e).1
  ·exact .inl (.inr (.inr (.inl e)))
  exact .inl (.inr (.inr (.inr e)))
 obtain⟨xs,s1,s2,s3⟩:=h.sp;refine⟨{ V with f:=b },⟨h.grOut o,h.lo,bx,(nr.base (bS h.gr)).grown g2 (fun g hg e=>?_),(h.ca.grew g1).grown g2 (fun g hg e=>h.nc g hg (by cases e;rfl)),⟨xs,(s1.grew g1).grown g2 (fun g hg e=>h.ns g hg (by cases e;rfl)),s2,fun i x s hx hs W hW=>s3 i x s hx hs W (ChW.key o hd hW)⟩,fun W hW=>?_⟩,o,hd⟩
 ·cases e;have:=(nr.lt _ hg).1;omega
 have r:=h.rest W (ChW.key o hd hW);exact⟨r.sl,r.sb,r.sq,r.db,r.dq,r.fl⟩
theorem ChW.frame (h:ChW w0 p w V m) {fs:List Fr} {g:Nat} (hg:oB V.f g) (g2:w.grownBy w1 (Xa g)) (nr:OwnRow frmE w0.heap.size w1 (O V.f.a V.f.n V.f.c) fs):Chg w0 p w V { m with fs:=fs } w1:=by
 have o:OutD (Dw p V) w w1:=OutD.grown g2 (.inr (.inl hg));have hd:∀k,Dw p V k->Dw p V k\/w.heap.size<=k:=fun _ hk=> .inl hk
 obtain⟨xs,s1,s2,s3⟩:=h.sp;refine⟨V,⟨h.grOut o,h.lo,h.box.beside g2 (fun k e=>by cases e;exact h.nf g hg),nr,h.ca.grown g2 (fun k hk e=>by cases e;exact h.fc _ hg hk),⟨xs,s1.grown g2 (fun k hk e=>by cases e;exact h.fS _ hg hk),s2,fun i x s hx hs W hW=>s3 i x s hx hs W (ChW.key o hd hW)⟩,fun W hW=>?_⟩,o,hd⟩
 have r:=h.rest W (ChW.key o hd hW);exact⟨r.sl,r.sb,r.sq,r.db,r.dq,r.fl⟩
theorem ChW.setT (h:ChW w0 p w V m) {xs:List SpV} {q g:Nat} {x y:SpV} {s:Sp} {us:List Xq} {t:List (List En)} (s2:xs.length=m.sp.length) (s3:∀(i:Nat) x s,xs[i]? =Xa x->m.sp[i]? =Xa s->∀W,OutD (Dr w0.heap.size p V) w W->SpaceAt W x s) (hx:xs[q]? =Xa x) (hs:m.sp[q]? =Xa s) (hg:oB V.sp g)
  (g1:Grew w w1) (tb:TabS 0 w.heap.size w1 us t) (g2:w1.grownBy w2 (Xa g)) (ow:OwnRow spcE w0.heap.size w2 (O V.sp.a V.sp.n V.sp.c) (xs.set q y)) (hy:y.live=x.live/\y.ar=x.ar/\y.tab=us):Chg w0 p w V { m with sp:=m.sp.set q { s with tb:=t } } w2:=by
 have o2:OutD (Dr w0.heap.size p V) w1 w2:=OutD.grown g2 (.inr (.inr (.inr (.inr hg))));have o:OutD (Dw p V) w w2:=(OutD.grew g1).trans (OutD.grown g2 (.inr (.inr (.inr hg))));have hd:∀k,Dw p V k->Dw p V k\/w.heap.size<=k:=fun _ hk=> .inl hk
 refine⟨V,⟨h.grOut o,h.lo,(h.box.grew g1).beside g2 (fun k e=>by cases e;exact h.ns g hg),(h.fs.grew g1).grown g2 (fun k hk e=>by cases e;exact h.fS _ hk hg),(h.ca.grew g1).grown g2 (fun k hk e=>by cases e;exact h.cS _ hk hg),⟨xs.set q y,ow,by simp[s2],fun i x' s' hx' hs' W hW=>?_⟩,fun W hW=>?_⟩,o,hd⟩
 ·by_cases e:i=q
  ·subst e;rw[sF (gS.1 hx).1]at hx';have hs':(m.sp.set i { s with tb:=t })[i]? =Xa s':=hs';rw[sF (gS.1 hs).1]at hs';cases hx';cases hs';have k:=s3 i x s hx hs W (ChW.key o hd hW);obtain⟨y1,y2,y3⟩:=hy;refine⟨y1.trans k.live,by rw[y2];exact k.ar,by rw[y2];exact k.cap,?_⟩
   rw[y3];exact tb.outD h.drt (o2.trans hW)
  rw[sN (fun h=>e h.symm)]at hx'
  have hs':(m.sp.set q { s with tb:=t })[i]? =Xa s':=hs';rw[sN (fun h=>e h.symm)]at hs'
  exact s3 i x' s' hx' hs' W (ChW.key o hd hW)
 have r:=h.rest W (ChW.key o hd hW);exact⟨r.sl,r.sb,r.sq,r.db,r.dq,r.fl⟩
end
theorem OwnM.changeW {base B p:Nat} {w W:Xn} {V:MaV} {m:Ma} (h:OwnM base w V m) (hB:B<=base) (hp:w.heap.size<=p) (k:OutD (Dr B p V) w W):RestW W V m/\∀(xs:List SpV) (Bs:Nat->Nat),base<=Bs 0->(∀i,Bs i<=Bs (i+1))->(∀(i:Nat) x s,xs[i]? =Xa x->m.sp[i]? =Xa s->OwnSp (Bs i) (Bs (i+1)) w x s)->∀(i:Nat) x s,xs[i]? =Xa x->m.sp[i]? =Xa s->SpaceAt W x s:=by
 obtain⟨ys,_,s1,_⟩:=h.sp;have key:∀{b size n:Nat} {e:TypeId} {v:Xq} {xs:List Xq},w.ownsRow b e size v n xs->base<=b->spcE.ty≠e/\frmE.ty≠e/\cchE.ty≠e->W.ownsRow b e size v n xs:=fun hr hb he=>ownsRow_outD hr k fun g hg hd=>by
  obtain⟨h1,h2,cs,h3⟩:=ownsRow_own hr hg
  rcases hd with hd | hd | hd | hd | hd
  ·omega
  ·omega
  ·obtain⟨ds,h4⟩:=h.fs.obj hd;rw[h4]at h3;cases h3;exact he.2.1 rfl
  ·obtain⟨ds,h4⟩:=h.ca.obj hd;rw[h4]at h3;cases h3;exact he.2.2 rfl
  obtain⟨ds,h4⟩:=s1.obj hd;rw[h4]at h3;cases h3;exact he.1 rfl
 have keyR:∀{α:Type} {E:Elt α} {b:Nat} {v:Xq} {l:List α},OwnRow E b w v l->base<=b->spcE.ty≠E.ty/\frmE.ty≠E.ty/\cchE.ty≠E.ty->OwnRow E b W v l:=fun hr hb he=>⟨key hr.1 hb he,hr.2⟩
 obtain⟨lo,⟨zs,f1,f2,f3,f4⟩,l1,l2⟩:=h.fl;have hf':OwnFiles lo W (O V.fl.a V.fl.n V.fl.c) m.fl:=⟨zs,keyR f1 l1 (by decide),f2,fun i x f hx hf=>⟨(f3 i x f hx hf).1,keyR (f3 i x f hx hf).2 l1 (by decide)⟩,f4⟩
 have hb:=nR base;refine⟨⟨(keyR h.sl hb (by decide)).at,OwnPages.at ⟨key h.sb.1 hb (by decide),h.sb.2⟩,OwnPuts.at ⟨key h.sq.1 hb (by decide),h.sq.2⟩,OwnPages.at ⟨key h.db.1 hb (by decide),h.db.2⟩,OwnPuts.at ⟨key h.dq.1 hb (by decide),h.dq.2⟩,hf'.new.now0⟩,fun xs Bs b0 bm h5 i x s hx hs=>?_⟩
 have o:=h5 i x s hx hs;have hbi:base<=Bs i:=nT b0 (mono_le bm (nZ i));have o':OwnSp (Bs i) (Bs (i+1)) W x s:=⟨o.live,keyR o.ar hbi (by decide),⟨o.tb.len,o.tb.tlen,fun j v y hv hy=>keyR (o.tb.row j v y hv hy) hbi (by decide),o.tb.two⟩,o.arh,o.tbh⟩
 exact o'.at
def LiveP (m:Ma) (p:Int) (q:Nat) (s:Sp):Prop:=p=(q:Int)/\m.sp[q]? =Xa s/\s.live=Xc
theorem frMul64_one (n:Nat) (hn:n<=40) (w:Xn):
  Xp Tryz.prog 107 #[.int .u64 1,.int .u64 (n:Int)] w fun e w'=>e= Xl (Xm #[.int .u64 0,.int .u64 (n:Int)])/\w'=w:=by
 have m1:bits .and .u64 1 4294967295=1:=Mul64.maskN 1 (by omega)
 have m2:bits .and .u64 (n:Int) 4294967295=(n:Int):=by rw[Mul64.maskN n (by omega)];omega
 have m0:bits .and .u64 0 4294967295=0:=Mul64.maskN 0 (by omega)
 have d1:(n:Int) / 4294967296=0:=by omega
 have HM1:Xo (bits .and .u64 1 4294967295=1):=m1;have HM2:Xo (bits .and .u64 (n:Int) 4294967295=(n:Int)):=m2;have HM0:Xo (bits .and .u64 0 4294967295=0):=m0;have HD1:Xo ((n:Int) / 4294967296=0):=d1;clear m1 m2 m0 d1
 go_enter Tryz.func107,Tryz.ntmps107
 go_wp2;have w0:IntKind.u64.wrap 0=0:=Mul64.wrapN 0 (by omega)
 have wn:IntKind.u64.wrap (n:Int)=(n:Int):=Mul64.wrapN n (by omega)
 simp only[HM1.out,HM2.out,Int.one_mul,wn,HD1.out,w0,HM0.out,Int.mul_zero,Int.add_zero,Int.zero_ediv]
 go_ret2
 exact⟨rfl,rfl⟩
theorem frMul_one (n:Nat) (hn:n<=40) (w:Xn):
  Xp Tryz.prog 57 #[.int .u64 1,.int .u64 (n:Int)] w fun e w'=>e= Xl (Xm #[.int .u64 0,.int .u64 (n:Int)])/\w'=w:=by
 have c64:=frMul64_one n hn w
 go_enter Tryz.func57,Tryz.ntmps57
 go_wp2_with (go_at_call 107;refine c64.mono ?_;rintro e w' ⟨rfl,hw⟩;rw[hw])
 go_ret2
 exact⟨rfl,rfl⟩
theorem frSplice_row (m:List Fr):∀(l:List Fr) (off:Nat),off+m.length<=l.length->splice (l.flatMap frv) (off*13) (m.flatMap frv)=(l.take off++(m++l.drop (off+m.length))).flatMap frv:=fun l off h=>by
 have h1:∀(l:List Fr) (j:Nat),j<=l.length->(l.flatMap frv).take (j*13)=(l.take j).flatMap frv/\(l.flatMap frv).drop (j*13)=(l.drop j).flatMap frv:=fun l j hj=>by
  have he:l.flatMap frv=(l.take j).flatMap frv++(l.drop j).flatMap frv:=by rw[<-Xt,List.take_append_drop]
  have hl:((l.take j).flatMap frv).length=j*13:=by rw[frRow_len,List.length_take,Nat.min_eq_left hj]
  constructor
  ·rw[he,<-hl,List.take_left]
  rw[he,<-hl,List.drop_left]
 unfold splice;rw[frRow_len m,<-Nat.add_mul,(h1 l off (by omega)).1,(h1 l (off+m.length) h).2,Xt,Xt]
theorem frRun_copy_elts {w:Xn} (ty:TypeId) (base:Nat) (v:Xq) (l:List Fr) (hown:frOwnRow base w v l) (g:Nat) (hg:v.ownBlock=Xa g) (off dLen dCap:Nat) (ad:Addr) (sLen sCap:Nat)
  (m:List Fr) (hm:m.length=Yk sLen dLen) (hsrc:Cells w ad (m.flatMap frv)) (hfit:off+m.length<=l.length):
  ∃w',(Builtin.copy_ #[27,27] ty #[O (Xa ⟨g,off*13,Xb⟩) dLen dCap,O (Xa ad) sLen sCap]).run Tryz.prog w= .ok (goInt m.length) w'/\frOwnRow base w' v (l.take off++(m++l.drop (off+m.length)))/\w.grownBy w' (Xa g)/\w'.heap.size=w.heap.size:=by
 obtain⟨i0,hi,_,hz1,_⟩:=info_parts Tryz.infoFrame;have hcl:(m.flatMap frv).length=m.length*13:=frRow_len m;have hfit':off*13+(m.flatMap frv).length<=l.length*13:=by
  rw[hcl,<-Nat.add_mul];exact Yg _ hfit
 obtain⟨w',hr,h2,h3,h4⟩:=run_storeCells_row (P:=Tryz.prog) hown.1 hg (off*13) (m.flatMap frv) hfit' (flatMap_one frv_one m);have hl:=run_loadCells_list (P:=Tryz.prog) w ad (m.flatMap frv) hsrc;rw[hcl]at hl;rw[frSplice_row m l off hfit]at h2;have hlen:(l.take off++(m++l.drop (off+m.length))).length=l.length:=by simp;omega
 refine⟨w',?_,⟨by rw[hlen];exact h2,by rw[hlen];exact hown.2⟩,h3,h4⟩
 simp[Builtin.copy_,run_underlying Tryz.underlying27,Builtin.lenOf,Builtin.firstCells,sizeOf,typeInfo,hi,hz1,<-hm,hl,hr]
theorem frWpList_copy_elts {w:Xn} {ops:Array Oper} {rest:List Oper} {o:Oper} {a:Act} {Q:Exit->Act->Xn->Prop} (hgd:o.guard=Xb) (d s:Operand) (ho:o.op= .call { callee:= .builtin .copy,args:=#[d,s],argTypes:=#[27,27] })
  (base:Nat) (v:Xq) (l:List Fr) (hown:frOwnRow base w v l) (g:Nat) (hg:v.ownBlock=Xa g) (off dLen dCap:Nat) (dp:Addr) (hd:a.eval d= O (Xa dp) dLen dCap) (hdp:dp=⟨g,off*13,Xb⟩) (ad:Addr) (sLen sCap:Nat) (hs:a.eval s= O (Xa ad) sLen sCap)
  (m:List Fr) (hm:m.length=Yk sLen dLen) (hsrc:Cells w ad (m.flatMap frv)) (hfit:off+m.length<=l.length)
  (h:∀w',frOwnRow base w' v (l.take off++(m++l.drop (off+m.length)))->w.grownBy w' (Xa g)->w'.heap.size=w.heap.size->wpList Tryz.prog ops Q rest (a.put o.dst (goInt m.length)) w'):wpList Tryz.prog ops Q (o :: rest) a w:=by
 subst hdp;refine wpList_plain hgd fun K hK=>?_
 obtain⟨w',hrun,h2,h3,h4⟩:=frRun_copy_elts o.type base v l hown g hg off dLen dCap ad sLen sCap m hm hsrc hfit;unfold Oper.wp
 simp[execOp,ho,resolve,invoke,builtin,hd,hs,hrun,Result.andThen]
 exact hK _ _ (h w' h2 h3 h4)
theorem frRep_step (q:Fr) (n m z:Nat) (_h:m<=n) (hz:z=Yk m (n - m)):(Xr m q++Xr (n - m) fr0).take m++(Xr z q++(Xr m q++Xr (n - m) fr0).drop (m+z))=Xr (m+z) q++Xr (n -(m+z)) fr0:=by
 have hzz:z<=n - m:=by rw[hz];exact Nat.min_le_right _ _
 rw[List.take_append_of_le_length (by simp),Xu (by simp),List.drop_append,List.drop_of_length_le (by simp),List.nil_append,lR,Yh,<-List.append_assoc,Xy]
 congr 2
 omega
theorem frRepeat_any (q:Fr) (x:Nat) (c n:Nat) (hn:n<=40) (hn1:1<=n) (w:Xn) (hv:frRowAt w (O (Xa ⟨x,0,Xb⟩) 1 c) [q]):
  Xp Tryz.prog 25 #[O (Xa ⟨x,0,Xb⟩) 1 c,Xe Xf (n:Int)] w fun e w'=>∃b,e= Xl b/\frNewRow w.heap.size w' b (Xr n q)/\Grew w w':=by
 have HC:Xo (Cells w ⟨x,0,Xb⟩ ([q].flatMap frv)):=by
  obtain⟨⟨a,c',h1,_,h3⟩,_⟩:=hv;cases h1;exact h3 _ rfl
 clear hv;have hm:=frMul_one n hn w;have hnz:¬(n:Int)<0:=by omega
 have hn2:¬(9223372036854775807:Int)< (n:Int):=by omega
 go_enter Tryz.func25,Tryz.ntmps25
 go_wp2_with (first
  | (go_at_call 57;refine hm.mono ?_;rintro e w' ⟨rfl,hw⟩;rw[hw])
  | (refine frWpList_make_row rfl (.tmp 29) rfl n rfl (by show n*40<=_;omega) ?_;intro C ow;have OW:Xo (frOwnRow w.heap.size (w.alloc (Xk C 93)) (O (Xa ⟨w.heap.size,0,Xb⟩) n n) (Xr n fr0)):=ow;clear ow)
  | (refine frWpList_copy_elts rfl (.tmp 31) (.tmp 32) rfl w.heap.size (O (Xa ⟨w.heap.size,0,Xb⟩) n n) (Xr n fr0) OW.out w.heap.size rfl 0 n n _ rfl ?a1 _ 1 c rfl [q] ?a2 ?a3 ?a4 ?_))
 case a1=>simp
 case a2=>show 1=Yk 1 n;exact(Nat.min_eq_left hn1).symm
 case a3=>exact HC.out.grew (grew_alloc _ _)
 case a4=>simp;omega
 intro W1 ow1 gr1 _;have OW1:Xo (frOwnRow w.heap.size W1 (O (Xa ⟨w.heap.size,0,Xb⟩) n n) (Xr 1 q++Xr (n - 1) fr0)):=show frOwnRow _ _ _ (Xr 1 q++Xr (n - 1) fr0) by simpa [Yh]using ow1
 have G1:Xo (Grew w W1):=grew_grown (grew_alloc _ _) gr1 (nR _);clear ow1 gr1;go_wp2
 go_loopg [8] n (fun gg s8 wr=>∃m:Nat,1<=m/\m<=n/\n - m<=gg/\s8= Xe Xf m/\Xo (frOwnRow w.heap.size wr (O (Xa ⟨w.heap.size,0,Xb⟩) n n) (Xr m q++Xr (n - m) fr0))/\Xo (Grew w wr))
 case atStart=>exact⟨1,nR _,hn1,by omega,rfl,OW1.out,G1.out⟩
 obtain⟨m,hm1,hmn,hg,rfl,OF,GW⟩:=hrel
 by_cases hlt:m<n
 ·have hltz:(m:Int)< (n:Int):=by omega
  have hmnz:(m:Int)<=(n:Int):=by omega
  have OFd:Xo (frOwnRow w.heap.size wr.drew (O (Xa ⟨w.heap.size,0,Xb⟩) n n) (Xr m q++Xr (n - m) fr0)):=show frOwnRow _ _ _ _ from OF.out.grew (gW _)
  obtain⟨z,HZ⟩:∃z,Xo (z=Yk m (n - m)):=⟨_,rfl⟩;have hz0:z=min m (n - m):=HZ.out;have hz1:1<=z:=by omega
  have hz2:z<=m:=by omega
  have hz3:z<=n - m:=by omega
  clear hz0;have hsrc:Cells wr.drew ⟨w.heap.size,0,Xb⟩ ((Xr z q).flatMap frv):=fun j u hj=>by
   have h1:=OFd.out.1.cells rfl;refine h1 j u ?_;rw[Xt,Yb]
   ·rw[show m=z+(m - z) by omega,<-Xy,Xt,Yb (gS.1 hj).1]
    exact hj
   have h3:=(gS.1 hj).1;rw[frRow_len]at h3⊢;simp only[lR]at h3⊢;exact Xv h3 (Yg _ hz2)
  obtain⟨W2,hrun,ow2,gr2,_⟩:=frRun_copy_elts 3 w.heap.size _ _ OFd.out w.heap.size rfl m (n - m) (n - m) ⟨w.heap.size,0,Xb⟩ m n (Xr z q) (by rw[lR];exact HZ.out) hsrc (by simp;omega)
  have hcopy:(Builtin.copy_ #[27,27] 3 #[O (Xa ⟨w.heap.size,m*13,Xb⟩) (n - m) (n - m),O (Xa ⟨w.heap.size,0,Xb⟩) m n]).run Tryz.prog wr.drew= .ok (Xe Xf (z:Int)) W2:=by
   have h1:=hrun;rw[lR]at h1;exact h1
  have OW2:Xo (frOwnRow w.heap.size W2 (O (Xa ⟨w.heap.size,0,Xb⟩) n n) (Xr (m+z) q++Xr (n -(m+z)) fr0)):=show frOwnRow _ _ _ _ by
   rw[<-frRep_step q n m z (by omega) HZ.out]
   rw[lR]at ow2;exact ow2
  have GW2:Xo (Grew w W2):=grew_grown (GW.out.trans (gW _)) gr2 (nR _)
  clear hsrc hrun ow2 gr2;go_wp2
  go_region
  go_wp2
  go_roundg (n -(m+z))
  case measure=>omega
  exact⟨m+z,by omega,by omega,nR _,by go_num,OW2.out,GW2.out⟩
 have hltz:¬(m:Int)< (n:Int):=by omega
 have:m=n:=by omega
 subst this;have HO:Xo (frOwnRow w.heap.size wr (O (Xa ⟨w.heap.size,0,Xb⟩) m m) (Xr m q)):=show frOwnRow _ _ _ (Xr m q) by have:=OF.out;simpa using this
 go_wp2;go_ret;exact⟨_,rfl,HO.out.new,GW.out⟩
def newME (n:Int):Int:=if 0<=n/\n<=40 then 0 else 4
def newMF (n:Int):List Fr:=if 0<=n/\n<=40 then Xr n.toNat frF else []
theorem repeat_zero (q:Fr) (x:Nat) (c:Nat) (w:Xn):
  Xp Tryz.prog 25 #[O (Xa ⟨x,0,Xb⟩) 1 c,Xe Xf 0] w fun e w'=>∃b,e= Xl b/\frNewRow w.heap.size w' b (Xr 0 q)/\Grew w w':=by
 have hm:=frMul_one 0 (by omega) w
 go_enter Tryz.func25,Tryz.ntmps25
 go_wp2_with (first
  | (go_at_call 57;refine hm.mono ?_;rintro e w' ⟨rfl,hw⟩;rw[hw])
  | (refine frWpList_make_row rfl (.tmp 29) rfl 0 rfl (by show 0*40<=_;omega) ?_;intro C ow;have OW:Xo (frOwnRow w.heap.size (w.alloc (Xk C 93)) (O (Xa ⟨w.heap.size,0,Xb⟩) 0 0) (Xr 0 fr0)):=ow;clear ow)
  | (refine frWpList_copy_elts rfl (.tmp 31) (.tmp 32) rfl w.heap.size (O (Xa ⟨w.heap.size,0,Xb⟩) 0 0) (Xr 0 fr0) OW.out w.heap.size rfl 0 0 0 _ rfl ?a1 _ 1 c rfl [] ?a2 ?a3 ?a4 ?_))
 case a1=>simp
 case a2=>rfl
 case a3=>intro j u hj;simp at hj
 case a4=>simp
 intro W1 ow1 gr1 _;have OW1:Xo (frOwnRow w.heap.size W1 (O (Xa ⟨w.heap.size,0,Xb⟩) 0 0) (Xr 0 q)):=show frOwnRow _ _ _ ([]:List Fr) by simpa using ow1
 have G1:Xo (Grew w W1):=grew_grown (grew_alloc _ _) gr1 (nR _);clear ow1 gr1;go_wp2
 go_loopg [8] 0 (fun _ s8 wr=>s8= Xe Xf 0/\wr=W1)
 case atStart=>exact⟨rfl,rfl⟩
 obtain⟨rfl,rfl⟩:=hrel;go_wp2;go_ret;exact⟨_,rfl,OW1.out.new,G1.out⟩
theorem newMem_nat (n:Nat) (hn:n<=40) (w:Xn):
  Xp Tryz.prog 15 #[Xe Xf (n:Int)] w fun e w'=>∃b,e= Xl (Xm #[Xi #[b,Xe Xf 0],Xe Xf 0])/\frNewRow w.heap.size w' b (Xr n frF)/\Grew w w':=by
 have hnz:¬(n:Int)<0:=by omega
 have hn4:¬(40:Int)< (n:Int):=by omega
 have hrep:∀W x,Box W x (frv frF)->Xp Tryz.prog 25 #[O (Xa ⟨x,0,Xb⟩) 1 1,Xe Xf (n:Int)] W fun e w'=>∃b,e= Xl b/\frNewRow W.heap.size w' b (Xr n frF)/\Grew W w':=fun W x hx=>by
  by_cases h1:1<=n
  ·refine frRepeat_any frF x 1 n hn h1 W ⟨⟨_,1,rfl,fun h=>(by cases h),fun y hy=>?_⟩,by show 1*40<=_;omega⟩
   cases hy;intro j u hj;rw[Yj,zA];exact hx.c j (by have h:=hj;simp only[List.flatMap_cons,List.flatMap_nil,List.append_nil]at h;exact h)
  have:n=0:=by omega
  subst this;exact repeat_zero frF x 1 W
 go_enter Tryz.func15,Tryz.ntmps15
 go_wp2_with fail;refine(freeFrame_any _).mono ?_;rintro e W1 ⟨rfl,g1⟩;have X2:Xo (Box W1 w.heap.size [O Xb 0 0,Xe Xf 0]):=(Box.top w [O Xb 0 0,Xe Xf 0] _ rfl).grew g1;have G1:Xo (Grew w W1):=(grew_alloc _ _).trans g1;clear g1;simp only[frv,frF,pg0];go_wp2_with fail;refine(hrep _ _ (Box.top W1 _ _ rfl)).mono ?_;rintro e W2 ⟨b,rfl,hb,g2⟩;obtain⟨a2,c2,rfl,_⟩:=hb.1.rows;rw[lR]at hb⊢;have NB:Xo (frNewRow W1.heap.size W2 (O a2 n c2) (Xr n frF)):=hb.base (by simp)
 have X22:=(X2.out.alloc (Xk #[Xe Xg 0,Xe Xg 0,Xe Xg 0,Xe Xg 0,Xe Xg 0,Xe Xg 0,Xe Xg 0,Xe Xg 0,Xe Xf 0,Xh Xd,Xh Xd,Xe Xf (-1),Xe Xf 0] 93)).grew g2;have G2:=dD ((G1.out.trans (grew_alloc _ _)).trans g2);have r0:=X22.c 0 rfl;have r1:=X22.c 1 rfl;have rf:=X22.f;have HX:Xo (w.heap.size<W1.heap.size):=X2.out.lt;clear hb g2 X22;go_wp2;refine bodyPost_ret (v:= Xm #[Xi #[O a2 n c2,Xe Xf 0],Xe Xf 0]) (by simp[results,Tryz.results15,go_sem, *]) rfl ⟨_,rfl,?_,?_⟩
 ·exact((NB.out.setCell (a:=⟨w.heap.size,0,Xb⟩) HX.out _).setCell (a:=⟨w.heap.size,1,Xb⟩) HX.out _).base (bS G1.out)
 exact grew_set (grew_set G2.out (by simp) _) (by simp) _
theorem newMem_bad (n:Int) (hn:¬(0<=n/\n<=40)) (w:Xn):
  Xp Tryz.prog 15 #[Xe Xf n] w fun e w'=>∃b,e= Xl (Xm #[Xi #[b,Xe Xf 0],Xe Xf 4])/\frNewRow w.heap.size w' b ([]:List Fr)/\Grew w w':=by
 by_cases h0:n<0
 ·go_enter Tryz.func15,Tryz.ntmps15
  go_wp2;refine bodyPost_ret (v:= Xm #[Xi #[O Xb 0 0,Xe Xf 0],Xe Xf 4]) (by simp[results,Tryz.results15,go_sem, *]) rfl ⟨_,rfl,frNewRow.nil _ _,?_⟩
  exact grew_alloc _ _
 have h1:40<n:=by omega
 go_enter Tryz.func15,Tryz.ntmps15
 go_wp2;refine bodyPost_ret (v:= Xm #[Xi #[O Xb 0 0,Xe Xf 0],Xe Xf 4]) (by simp[results,Tryz.results15,go_sem, *]) rfl ⟨_,rfl,frNewRow.nil _ _,?_⟩
 exact grew_alloc _ _
theorem newS_nat (n:Nat) (hn:n<=60) (w:Xn):
  Xp Tryz.prog 16 #[Xe Xf (n:Int)] w fun e w'=>∃a' c',e= Xl (Xm #[O a' n c',Xe Xf 0])/\NewRow slE w.heap.size w' (O a' n c') (Xr n 0)/\Grew w w':=by
 have hnz:¬(n:Int)<0:=by omega
 have hn4:¬(60:Int)< (n:Int):=by omega
 go_enter Tryz.func16,Tryz.ntmps16
 go_wp2_with (refine wpList_make_row slE rfl (.tmp 10) rfl n rfl (by show n*8<=_;omega) ?_)
 intro C ow;have OW:Xo (OwnRow slE w.heap.size (w.alloc (Xk C 3)) (O (Xa ⟨w.heap.size,0,Xb⟩) n n) (Xr n 0)):=ow;clear ow
 show wpList _ _ _ _ _ (w.alloc (Xk C 3))
 obtain⟨W1,hW1⟩:∃W1,w.alloc (Xk C 3)=W1:=⟨_,rfl⟩;have G1:=gA hW1
 rw[hW1]at OW⊢;clear hW1;go_wp2;refine bodyPost_ret (v:= Xm #[O (Xa ⟨w.heap.size,0,Xb⟩) n n,Xe Xf 0]) (by simp[results,Tryz.results16,go_sem, *]) rfl ⟨_,_,rfl,OW.out.new,G1.out⟩
theorem newS_bad (n:Int) (hn:¬(0<=n/\n<=60)) (w:Xn):
  Xp Tryz.prog 16 #[Xe Xf n] w fun e w'=>e= Xl (Xm #[O Xb 0 0,Xe Xf 4])/\Grew w w':=by
 by_cases h0:n<0
 ·clear hn
  go_enter Tryz.func16,Tryz.ntmps16
  go_wp2;refine bodyPost_ret (v:= Xm #[O Xb 0 0,Xe Xf 4]) (by simp[results,Tryz.results16,go_sem, *]) rfl ⟨rfl,Grew.refl _⟩
 have h1:60<n:=by omega
 clear hn
 go_enter Tryz.func16,Tryz.ntmps16
 go_wp2;refine bodyPost_ret (v:= Xm #[O Xb 0 0,Xe Xf 4]) (by simp[results,Tryz.results16,go_sem, *]) rfl ⟨rfl,Grew.refl _⟩
theorem newSt_any (n:Int) (w:Xn):
  Xp Tryz.prog 18 #[Xe Xf n] w fun e w'=>e= Xl (Xm #[Xi #[O Xb 0 0,Xe Xf (if 0<=n/\n<=80 then n else 0)],Xe Xf (if 0<=n/\n<=80 then 0 else 4)])/\Grew w w':=by
 by_cases h:0<=n/\n<=80
 ·rw[if_pos h,if_pos h];have hb:=fun W=>below_yes (m:=n) (n:=81) h.1 (by omega) W
  clear h
  go_enter Tryz.func18,Tryz.ntmps18
  go_wp2_with (go_at_call 27;refine(hb _).mono ?_;rintro e w' ⟨rfl,rfl⟩)
  refine bodyPost_ret (v:= Xm #[Xi #[O Xb 0 0,Xe Xf n],Xe Xf 0]) (by simp[results,Tryz.results18,go_sem, *]) rfl ⟨rfl,?_⟩
  first | exact grew_alloc _ _ | exact Below.setCell (Below.setCell (grew_alloc _ _) (p:=⟨w.heap.size,0,Xb⟩) (by simp) _) (p:=⟨w.heap.size,1,Xb⟩) (by simp) _
 rw[if_neg h,if_neg h];have hb:=fun W=>below_no (m:=n) (n:=81) (by omega) W
 clear h
 go_enter Tryz.func18,Tryz.ntmps18
 go_wp2_with (go_at_call 27;refine(hb _).mono ?_;rintro e w' ⟨rfl,rfl⟩)
 refine bodyPost_ret (v:= Xm #[Xi #[O Xb 0 0,Xe Xf 0],Xe Xf 4]) (by simp[results,Tryz.results18,go_sem, *]) rfl ⟨rfl,?_⟩
 first | exact grew_alloc _ _ | exact Below.setCell (Below.setCell (grew_alloc _ _) (p:=⟨w.heap.size,0,Xb⟩) (by simp) _) (p:=⟨w.heap.size,1,Xb⟩) (by simp) _
def newSE (n:Int):Int:=if 0<=n/\n<=60 then 0 else 4
def newSL (n:Int):List Int:=if 0<=n/\n<=60 then Xr n.toNat 0 else []
theorem newMem_all (n:Int) (w:Xn):Xp Tryz.prog 15 #[Xe Xf n] w fun e w'=>∃s:Sli,e= Xl (Xm #[Xi #[O s.a s.n s.c,Xe Xf 0],Xe Xf (newME n)])/\(RowAt frmE w' (O s.a s.n s.c) (newMF n)/\fresh w.heap.size (O s.a s.n s.c))/\Grew w w':=by
 by_cases h:0<=n/\n<=40
 ·obtain⟨k,rfl⟩:∃k:Nat,n=(k:Int):=⟨n.toNat,by omega⟩
  refine(newMem_nat k (by omega) w).mono ?_
  rintro e w' ⟨b,rfl,h1,h2⟩;obtain⟨a,c,rfl,_⟩:=h1.1.rows;refine⟨⟨a,(Xr k frF).length,c⟩,?_,⟨?_,h1.2⟩,h2⟩
  ·unfold newME;rw[if_pos h]
  unfold newMF;rw[if_pos h];exact h1.1
 refine(newMem_bad n h w).mono ?_;rintro e w' ⟨b,rfl,h1,h2⟩;obtain⟨a,c,rfl,_⟩:=h1.1.rows;refine⟨⟨a,([]:List Fr).length,c⟩,?_,⟨?_,h1.2⟩,h2⟩
 ·unfold newME;rw[if_neg h]
 unfold newMF;rw[if_neg h];exact h1.1
theorem newS_all (n:Int) (w:Xn):Xp Tryz.prog 16 #[Xe Xf n] w fun e w'=>∃s:Sli,e= Xl (Xm #[O s.a s.n s.c,Xe Xf (newSE n)])/\(RowAt slE w' (O s.a s.n s.c) (newSL n)/\fresh w.heap.size (O s.a s.n s.c))/\Grew w w':=by
 by_cases h:0<=n/\n<=60
 ·obtain⟨k,rfl⟩:∃k:Nat,n=(k:Int):=⟨n.toNat,by omega⟩
  refine(newS_nat k (by omega) w).mono ?_
  rintro e w' ⟨a,c,rfl,h1,h2⟩;refine⟨⟨a,k,c⟩,?_,⟨?_,h1.2⟩,h2⟩
  ·unfold newSE;rw[if_pos h]
  unfold newSL;rw[if_pos h];exact h1.1
 refine(newS_bad n h w).mono ?_;rintro e w' ⟨rfl,h2⟩;refine⟨⟨Xb,0,0⟩,?_,⟨?_,fresh_nil _⟩,h2⟩
 ·unfold newSE;rw[if_neg h]
 unfold newSL;rw[if_neg h];exact RowAt.nil slE w'
theorem newDk_all (n:Int) (w:Xn):Xp Tryz.prog 17 #[Xe Xf n] w fun e w'=>∃b q:Sli,e= Xl (Xm #[Xi #[O b.a b.n b.c,O q.a q.n q.c],Xe Xf (newErr n)])/\(PagesAt w' (O b.a b.n b.c) (newD n)/\PutsAt w' (O q.a q.n q.c) []/\fresh w.heap.size (O b.a b.n b.c)/\fresh w.heap.size (O q.a q.n q.c))/\Grew w w':=by
 refine(new_any n w).mono ?_;rintro e w' ⟨d,rfl,⟨b,q,rfl,h1,h2,f1,f2⟩,h3⟩;obtain⟨a,c,rfl,_⟩:=h1.rows;obtain⟨a',c',rfl,_⟩:=h2.rows;exact⟨⟨a,(newD n).length,c⟩,⟨a',([]:List (Int × List Int)).length,c'⟩,rfl,⟨h1,h2,f1,f2⟩,h3⟩
theorem SliceAt.beside {α:Type} {enc:α->List Xq} {w w':Xn} {row:Option Nat} {v:Xq} {l:List α} (h:SliceAt enc w v l) (hg:w.grownBy w' row) (hn:∀x n c,v= O (Xa x) n c->Xa x.block≠row):SliceAt enc w' v l:=by
 obtain⟨a,c,h1,h2,h3⟩:=h;refine⟨a,c,h1,h2,fun x hx j u hj=>?_⟩
 subst hx;have hc:=h3 x rfl j u hj;rw[World.cell?_of_block (w:=w) (hg.block _ (World.block_lt_of_cell? _ _ hc) (by rw[add_block];exact hn x _ _ h1))]
 exact hc
def fewB (f s b:Int):Prop:=(0<=f/\f<=40)/\(0<=s/\s<=60)/\(0<=b/\b<=80)
def newMa (f s b:Int):Ma:=⟨Xr f.toNat frF,0,Xr s.toNat 0,Xr s.toNat zero8,[],Xr b.toNat zero8,[],[],b,[],[⟨Xc,[],none8⟩]⟩
def newEs (f s b:Int):List Int:=[newME f,newSE s,newErr s,newErr b,if 0<=b/\b<=80 then 0 else 4]
theorem newEs_few {f s b:Int} (h:fewB f s b):firstE (newEs f s b)=0:=by
 obtain⟨h1,h2,h3⟩:=h;unfold newEs newME newSE newErr;rw[if_pos h1,if_pos h2,if_pos (by omega),if_pos h3]
 rfl
theorem ret_cell_tmp2 {fn:Func} {p u t:Tmp} {ty:TypeId} (h:fn.results=#[.cell p ty,.tmp u,.tmp t]) (tmps:Array Xq) {w:Xn} {b:Nat} (hp:tmps.getD p undef= Xj (Xa ⟨b,0,Xb⟩)) {vs:List Xq} (hb:Box w b vs) {d:TypeDesc} (hu:Tryz.prog.underlying ty=Xa d) (hd:d.isRow=Xc) (hi:(Tryz.prog.info? ty).map (·.size)=Xa vs.length):
  (results fn tmps).run Tryz.prog w= .ok (Xm #[Xi vs.toArray,tmps.getD u undef,tmps.getD t undef]) w:=by
 have hp':tmps[p]?.getD undef= Xj (Xa ⟨b,0,Xb⟩):=by simpa using hp
 have hld:=run_loadVar_mid (P:=Tryz.prog) w b 0 ty vs d hb.range hu hd hi
 simp[results,h,hp',asAddr,hld]
theorem cutTo_low {l:List Int} {n:Int} {k:Nat} (h:(k:Int)<=n\/k=0):cutTo l 0 n k=l:=by
 unfold cutTo
 apply List.ext_getElem?
 intro i;rw[List.getElem?_mapIdx]
 cases l[i]? with
 | none=>rfl
 | some z=>
  simp only[Option.map_some];rw[if_neg (by omega)]
theorem cutP_at (l:List Int) (idx size:Int):cutP l 0 (size - idx*8)=cutP l idx size:=by
 unfold cutP
 congr 1
 funext i z
 by_cases h:size<=8*idx+(i:Int)
 ·rw[if_pos h,if_pos (by omega)]
 rw[if_neg h,if_neg (by omega)]
theorem pageCut_any (l:List Int) (n:Int) (w:Xn) (hl:l.length=8) (h1:-9223372036854775808<=n) (h2:n<=9223372036854775807):
  Xp Tryz.prog 182 #[Xi (pgc l).toArray,Xe Xf n] w fun e w'=>e= Xl (Xi (pgc (cutP l 0 n)).toArray)/\(cutP l 0 n).length=8/\Grew w w':=by
 have HL:Xo (l.length=8):=hl;have HC8:Xo ((cutP l 0 n).length=8):=show _=_ by unfold cutP;simp[hl]
 obtain⟨W0,hW0⟩:∃W0,(w.alloc (Xk (pgc l).toArray 91)).alloc (Xk #[Xe Xg 0,Xe Xg 0,Xe Xg 0,Xe Xg 0,Xe Xg 0,Xe Xg 0,Xe Xg 0,Xe Xg 0] 91)=W0:=⟨_,rfl⟩;have G0:=gD2 hW0
 have X0:=x2a hW0
 have Y0:Xo (Box W0 (w.heap.size+1) (pgc zero8)):=show Box _ _ _ by rw[<-hW0];exact Box.top _ (pgc zero8) _ (by simp)
 have HW0:Xo (_=W0):=hW0;have XB:Xo (Box W0 w.heap.size (pgc (cutTo l 0 n n.toNat))):=show Box _ _ _ by rw[cutTo_low (by omega)];exact X0.out
 obtain⟨CL,HCL⟩:∃CL,Xo (cutP l 0 n=CL):=⟨_,rfl⟩;rw[HCL.out]at HC8⊢;clear hW0 hl
 go_enter Tryz.func182,Tryz.ntmps182
 go_upto_region 1 with fail;rw[HW0.out];clear HW0;go_wp2
 all_goals
  go_loopg [5] 8 (fun gg s5 wr=>∃k:Nat,n<=(k:Int)/\(k:Int)<=9223372036854775807/\8 - k<=gg/\s5= Xe Xf k/\Xo (Grew w wr)/\Xo (Box wr w.heap.size (pgc (cutTo l 0 n k)))/\Xo (Box wr (w.heap.size+1) (pgc zero8)))
  case atStart=>
   exact⟨n.toNat,by omega,by omega,by omega,(by first | rw[Int.toNat_eq_max] | (congr 1;omega) | (congr 1;rw[Int.max_def];split <;> omega) | (congr 1;split <;> omega)),G0.out,XB.out,Y0.out⟩
  obtain⟨k,hk,hk2,hg,rfl,GW,XW,YW⟩:=hrel
  by_cases hlt:k<8
  ·have hltz:(k:Int)<8:=by omega
   obtain⟨z,hz⟩:∃z,(cutTo l 0 n k)[k]? =Xa z:=⟨_,gE (by rw[cutTo_len,HL.out];exact hlt)⟩
   have z0:=XW.out.c k (pgc_at hz);have zf:=XW.out.f;clear hz;go_wp2;obtain⟨W1,hW1⟩:∃W1,wr.setCell ⟨w.heap.size,k,Xb⟩ (Xe Xg 0)=W1:=⟨_,rfl⟩;have X1:Xo (Box W1 w.heap.size (pgc (cutTo l 0 n (k+1)))):=show Box _ _ _ by rw[<-hW1,<-cutTo_cut (by rw[HL.out];exact hlt) (by omega),pgc_set];exact XW.out.set k _
   have Y1:Xo (Box W1 (w.heap.size+1) (pgc zero8)):=show Box _ _ _ by rw[<-hW1];exact YW.out.other (by simp) _
   have G1:Xo (Grew w W1):=show Grew _ _ by rw[<-hW1];exact grew_set GW.out (by simp) _
   rw[hW1];clear hW1 z0 zf
   go_roundg (8 -(k+1))
   case measure=>omega
   exact⟨k+1,by omega,by omega,by omega,by go_num,G1.out,X1.out,Y1.out⟩
  have hltz:¬(k:Int)<8:=by omega
  have HCE:Xo (cutTo l 0 n k=CL):=show _=_ by rw[cutTo_all (by rw[HL.out];omega),HCL.out]
  rw[HCE.out]at XW
  go_wp2_with (first | refine wp_loadAll rfl 91 (.tmp 2) rfl w.heap.size rfl XW.out Tryz.underlying91 rfl (by rw[pgc_len,HC8.out];exact Tryz.sizePg) ?_ | refine wp_storeAll rfl 91 (.tmp 4) (.tmp 14) rfl (w.heap.size+1) rfl (pgc CL) rfl YW.out (by rw[pgc_len,HC8.out];rfl) Tryz.sizePg (pgc_one _) ?_)
  intro WL hbL hgL _;have HGL:Xo (Grew w WL):=show Grew _ _ from grew_grown GW.out hgL (by omega)
  go_wp2;refine bodyPost_ret (ret_cell rfl _ rfl hbL Tryz.underlying91 rfl (by rw[pgc_len,HC8.out];exact Tryz.sizePg)) rfl ⟨rfl,HC8.out,HGL.out⟩
theorem Does.storeAllT {o:Oper} {a:Act} {w:Xn} {K:Xq->Xn->Prop} (ty:TypeId) (p x:Operand) (ho:o.op= .store ty p x) (b:Nat) (hp:a.eval p= Xj (Xa ⟨b,0,Xb⟩)) (vs:List Xq) (hx:a.eval x= Xi vs.toArray)
  {t:TypeId} {cs:List Xq} (hb:BoxT w b t cs) (hl:vs.length=cs.length) (hi:(Tryz.prog.info? ty).map (·.size)=Xa cs.length) (h1:∀v∈vs,v.oneCell'=Xc)
  (h:∀w',BoxT w' b t vs->w.grownBy w' (Xa b)->w'.heap.size=w.heap.size->K undef w'):Does Tryz.prog o a w K:=by
 unfold Does;have hr:(execOp a.eval o).run Tryz.prog w= .ok .skip (w.setCells b 0 vs):=by
  have:=run_storeAt_mid (P:=Tryz.prog) w b 0 ty vs.toArray (by simpa [hl]using hb.box.there) (by simpa [hl]using hi) (all_oneCell_toArray h1)
  simp only[execOp,ho,hp,hx,Sem.run_bind,this,rA,Sem.run_pure]
 rw[hr];have hp:=hb.part (ds:=vs) (o:=0) (by omega)
 rw[splice_all hl]at hp;exact h _ hp (setCells_grown b vs 0 w).1 (setCells_grown b vs 0 w).2
theorem diskL_len {m:Ma} (h1:∀p∈m.db,p.length=8) (h2:∀q∈m.dq,q.2.length=8) (file idx:Int):(diskL m file idx).length=8:=by
 unfold diskL
 split
 ·rfl
 simp[cutP,readL8 h1 h2]
theorem diskL_at {m:Ma} {fi ix:Nat} {f:Fl} {bk:Int} (hf:m.fl[fi]? =Xa f) (hbk:f.bl[ix]? =Xa bk):diskL m fi ix=if bk<0 then zero8 else cutP (readL m.db m.dq bk) ix f.size:=by
 have hg:m.fl.getD ((fi:Int).toNat) ⟨0,[]⟩=f:=by rw[tN,gD,hf];rfl
 have e1:blAt m fi ix=bk:=by unfold blAt;rw[hg,tN,gD,hbk];rfl
 have e2:szAt m fi=f.size:=by unfold szAt;rw[hg]
 unfold diskL;rw[e1,e2]
theorem hasP_at {fl:List Fl} {fi ix:Nat} {f:Fl} {bk:Int} (hf:fl[fi]? =Xa f) (hbk:f.bl[ix]? =Xa bk):hasP fl fi ix=Xc:=by
 have h1:=(gS.1 hf).1;have h2:=(gS.1 hbk).1;have hg:fl.getD ((fi:Int).toNat) ⟨0,[]⟩=f:=by rw[tN,gD,hf];rfl
 unfold hasP;rw[hg,bel_iff.2 ⟨by omega,by omega⟩,bel_iff.2 ⟨by omega,by omega⟩]
 rfl
theorem storedM_any (V:MaV) (m:Ma) (fi ix:Nat) (f:Fl) (bk:Int) (w:Xn) (hm:MachAt w V m) (hf:m.fl[fi]? =Xa f) (hbk:f.bl[ix]? =Xa bk) (hix:ix<=1000) (hsz:0<=f.size/\f.size<=1000):
  Xp Tryz.prog 155 #[Xi #[O V.f.a V.f.n V.f.c,Xe Xf m.hand,O V.s.a V.s.n V.s.c,O V.sb.a V.sb.n V.sb.c,O V.sq.a V.sq.n V.sq.c,O V.db.a V.db.n V.db.c,O V.dq.a V.dq.n V.dq.c,O V.fl.a V.fl.n V.fl.c,Xe Xf m.cnt,O V.ca.a V.ca.n V.ca.c,O V.sp.a V.sp.n V.sp.c],Xe Xf (fi:Int),Xe Xf (ix:Int)] w fun e w'=>e= Xl (Xi (pgc (diskL m fi ix)).toArray)/\(diskL m fi ix).length=8/\Grew w w':=by
 have HRD:Xo (∀W,Grew w W->Xp Tryz.prog 184 #[Xi #[O V.db.a V.db.n V.db.c,O V.dq.a V.dq.n V.dq.c],Xe Xf bk] W fun e w'=>e= Xl (Xm #[Xi (pgc (readL m.db m.dq bk)).toArray,Xe Xf (wrongAtL m.db.length m.dq bk)])/\Grew W w'):=show∀W,_ from fun W hW=>read_any _ m.db m.dq bk W ⟨_,_,rfl,(hm.grew hW).db,(hm.grew hW).dq⟩
 have HHP:Xo (∀W,Grew w W->Xp Tryz.prog 119 #[Xi #[O V.fl.a V.fl.n V.fl.c,Xe Xf m.cnt],Xe Xf (fi:Int),Xe Xf (ix:Int)] W fun e w'=>e= Xl (Xh Xc)/\Grew W w'):=show∀W,_ from fun W hW=>by
  have:=hasPage_any (O V.fl.a V.fl.n V.fl.c) m.fl m.cnt fi ix W (hm.grew hW).fl;rw[hasP_at hf hbk]at this;exact this
 have HRL:Xo ((readL m.db m.dq bk).length=8):=readL8 hm.db.2.1 hm.dq.2.1;have HD8:Xo ((diskL m fi ix).length=8):=diskL_len hm.db.2.1 hm.dq.2.1 _ _;have HDL:Xo (diskL m fi ix=if bk<0 then zero8 else cutP (readL m.db m.dq bk) ix f.size):=diskL_at hf hbk;obtain⟨C,HC⟩:∃C,Xo (diskL m fi ix=C):=⟨_,rfl⟩;rw[HC.out]at HDL HD8⊢;obtain⟨⟨fa,fn,fc⟩,vs,vsb,vsq,vdb,vdq,⟨fla,fln,flc⟩,⟨caa,can,cac⟩,vsp⟩:=V;dsimp only at HRD HHP⊢;obtain⟨-,-,-,-,-,-,n7,-,-⟩:=hm.ns;dsimp only at n7;obtain⟨_,_,hfe,_,hfr⟩:=FilesAt.rows hm.fl;have HFL:Xo (FlRows w fla m.fl):=show FlRows _ _ _ by
  simp only[vJ]at hfe;rw[hfe.1];exact hfr
 have hfn:fi<fln:=by rw[n7];exact(gS.1 hf).1
 obtain⟨ad,rfl,ba,bc,hbr,hfl⟩:=HFL.out fi f hf;have HBL:Xo (∀W,Grew w W->FlCells W (ad.add (fi*2)) f.size (O ba f.bl.length bc)):=show∀W,_ from hfl
 obtain⟨_,_,hbe,hbn⟩:=hbr.nums;have hbl:ix<f.bl.length:=(gS.1 hbk).1;obtain⟨ad2,had2,hb2⟩:=hbn ix bk hbk;have HB2:Xo (ba=Xa ad2/\∀W,Grew w W->W.cell? (ad2.add ix)=Xa (Xe Xf bk)):=show _/\_ from⟨by simp only[vJ]at hbe;rw[hbe.1];exact had2,hb2⟩
 obtain⟨bn,HBN⟩:∃bn,Xo (f.bl.length=bn):=⟨_,rfl⟩;rw[HBN.out]at hbl HBL;clear hm n7 hfe hfr hf hbk hfl hbr hbe hbn had2 hb2 HFL HC;obtain⟨z,HZ⟩:∃z,Xo (f.size=z):=⟨_,rfl⟩;rw[HZ.out]at HBL HDL hsz;have hfz:(fi:Int)< (fln:Int):=by omega
 have hbz:(ix:Int)< (bn:Int):=by omega
 obtain⟨W0,hW0⟩:∃W0,(w.alloc (Xk #[O fa fn fc,Xe Xf m.hand,O vs.a vs.n vs.c,O vsb.a vsb.n vsb.c,O vsq.a vsq.n vsq.c,O vdb.a vdb.n vdb.c,O vdq.a vdq.n vdq.c,O (Xa ad) fln flc,Xe Xf m.cnt,O caa can cac,O vsp.a vsp.n vsp.c] 42)).alloc (Xk #[Xe Xg 0,Xe Xg 0,Xe Xg 0,Xe Xg 0,Xe Xg 0,Xe Xg 0,Xe Xg 0,Xe Xg 0] 91)=W0:=⟨_,rfl⟩;have G0:=gD2 hW0
 have X0:=x2a hW0
 have Y0:Xo (Box W0 (w.heap.size+1) (pgc zero8)):=show Box _ _ _ by rw[<-hW0];exact Box.top _ (pgc zero8) _ (by simp)
 have HW0:Xo (_=W0):=hW0;clear hW0
 go_enter Tryz.func155,Tryz.ntmps155
 go_upto_region 1 with fail;rw[HW0.out];clear HW0;have x7:=X0.out.c 7 rfl;have x8:=X0.out.c 8 rfl;have hc:=HHP.out W0 G0.out;go_wp2_with fail;refine hc.mono ?_;clear hc x7 x8 HHP;rintro r W1 ⟨rfl,g1⟩;have G1:=dD (G0.out.trans g1);have X1:=dD (X0.out.grew g1);have Y1:=dD (Y0.out.grew g1);clear g1 G0 X0 Y0;have x7:=X1.out.c 7 rfl;obtain⟨d0,d1⟩:=HBL.out W1 G1.out;go_upto_region 4 with fail;obtain⟨pf,HPF⟩:∃pf,Xo (W1.heap.size=pf):=⟨_,rfl⟩;obtain⟨W2,hW2⟩:∃W2,W1.alloc (Xk #[Xe Xf z,O ba bn bc] 158)=W2:=⟨_,rfl⟩;have g2:=gP hW2
 have F2:=xP hW2 HPF
 have G2:=dD (G1.out.trans g2);have X2:=dD (X1.out.grew g2);have Y2:=dD (Y1.out.grew g2);rw[hW2,HPF.out];clear hW2 g2 d0 d1 x7 G1 X1 Y1 HPF;obtain⟨hba,hb2⟩:=HB2.out;subst hba;have HB3:Xo (∀W,Grew w W->W.cell? (ad2.add ix)=Xa (Xe Xf bk)):=show∀W,_ from hb2
 clear hb2 HB2;have f1:=F2.out.c 1 rfl;have e0:=HB3.out W2 G2.out
 by_cases hb:bk<0
 ·rw[if_pos hb]at HDL
  go_wp2_with (refine wp_storeAll rfl 91 (.tmp 6) (.tmp 29) rfl (w.heap.size+1) rfl (pgc zero8) rfl Y2.out rfl Tryz.sizePg (pgc_one _) ?_)
  intro WL hbL hgL _;have HGL:Xo (Grew w WL):=show Grew _ _ from grew_grown G2.out hgL (by omega)
  go_wp2;refine bodyPost_ret (ret_cell rfl _ rfl hbL Tryz.underlying91 rfl Tryz.sizePg) rfl ⟨by rw[HDL.out],by rw[HDL.out];rfl,HGL.out⟩
 rw[if_neg hb]at HDL;have hbd:decide (bk<0)=Xd:=decide_eq_false hb;go_upto_region 6 with fail;clear f1 e0 hb hbd;obtain⟨p,HP⟩:∃p,Xo (readL m.db m.dq bk=p):=⟨_,rfl⟩;rw[HP.out]at HDL HRL HRD;obtain⟨p0,p1,p2,p3,p4,p5,p6,p7,rfl⟩:=len8 p HRL.out;obtain⟨I,HI⟩:∃I:Xn->Prop,Xo (∀u,I u↔Grew W2 u):=⟨fun u=>Grew W2 u,fun _=>Iff.rfl⟩
 have hI0:I W2.drew:=(HI.out _).2 (gW _)
 have hx5:=X2.out.h HI.out 5 rfl
 have hx6:=X2.out.h HI.out 6 rfl
 have hf1:=F2.out.h HI.out 1 rfl
 have he0:∀y:HoldI I,y.world.cell? (ad2.add ix)=Xa (Xe Xf bk):=fun y=>HB3.out _ (G2.out.trans ((HI.out _).1 y.holds))
 have hne:Nonempty (HoldI I):=⟨⟨_,hI0⟩⟩;refine wp_lax_tailE (I:=I) 14 [(7,⟨.const (Xh Xd),fun v=>v= Xm #[Xi #[Xe Xg p0,Xe Xg p1,Xe Xg p2,Xe Xg p3,Xe Xg p4,Xe Xg p5,Xe Xg p6,Xe Xg p7],Xe Xf (wrongAtL m.db.length m.dq bk)],fun _ _ _=>True,fun p q=>Grew p q,fun _=>True⟩),(11,⟨.const (Xh Xd),fun v=>∃g,v= Xj (Xa ⟨g,0,Xb⟩),fun _ v u=>∃g cs,v= Xj (Xa ⟨g,0,Xb⟩)/\W2.heap.size<=g/\BoxT u g 91 cs/\cs.length=8,fun p q=>Grew p q,fun _=>True⟩),(12,⟨.tmp 8,fun _=>True,fun r _ u=>∃g,r= Xj (Xa ⟨g,0,Xb⟩)/\W2.heap.size<=g/\Box u g (pgc [p0,p1,p2,p3,p4,p5,p6,p7]),fun p q=>∃g,W2.heap.size<=g/\p.grownBy q (Xa g)/\BoxT q g 91 (pgc [p0,p1,p2,p3,p4,p5,p6,p7]),fun _=>True⟩)] hI0 mixed (by kernel_rfl) (by kernel_rfl) rfl rfl (by decide) ?hS ?hp ?hpre ?hpr0 ?_
 case hS=>
  intro x hx;simp only[mC,nM,or_false]at hx
  rcases hx with rfl | rfl | rfl
  ·exact⟨_,rfl⟩
  ·exact⟨_,0,rfl⟩
  exact⟨Xh Xc,trivial⟩
 case hp=>
  intro k s j t hk hj hjk hanc r v p q hst hpo;have hk':=lookup_in hk;have hj':=lookup_in hj;clear hk hj;simp only[mC,pJ,nM,or_false]at hk' hj'
  rcases hk' with⟨rfl,rfl⟩ | ⟨rfl,rfl⟩ | ⟨rfl,rfl⟩
  ·trivial
  ·obtain⟨g,cs,h1,h2,h3,h4⟩:=hpo
   rcases hj' with⟨rfl,rfl⟩ | ⟨rfl,rfl⟩ | ⟨rfl,rfl⟩
   ·exact⟨g,cs,h1,h2,h3.grew hst,h4⟩
   ·exact absurd rfl hjk
   obtain⟨g',q1,q2,q3⟩:=hst
   by_cases e:g=g'
   ·subst e;exact⟨g,_,h1,h2,q3,rfl⟩
   exact⟨g,cs,h1,h2,h3.beside q2 (fun k hk=>by cases hk;exact e),h4⟩
  obtain⟨g,h1,h2,h3⟩:=hpo
  rcases hj' with⟨rfl,rfl⟩ | ⟨rfl,rfl⟩ | ⟨rfl,rfl⟩
  ·exact⟨g,h1,h2,h3.grew hst⟩
  ·exact⟨g,h1,h2,h3.grew hst⟩
  exact absurd rfl hjk
 case hpre=>
  intro j t k s hj hk hjk p q hst hpr;have hj':=lookup_in hj;simp only[mC,pJ,nM,or_false]at hj'
  rcases hj' with⟨rfl,rfl⟩ | ⟨rfl,rfl⟩ | ⟨rfl,rfl⟩ <;> trivial
 case hpr0=>
  intro k t hk;have hk':=lookup_in hk;simp only[mC,pJ,nM,or_false]at hk'
  rcases hk' with⟨rfl,rfl⟩ | ⟨rfl,rfl⟩ | ⟨rfl,rfl⟩ <;> trivial
 simp only[Xz,Ya];iterate 7 (refine laxE_quiet rfl rfl rfl (fun K hK=>?_);go_big_quiet_op;refine hK _ ?_;clear hK K)
 refine laxE_spec rfl rfl (fun w' hI' hpr hF=>?_) (fun v1 hv=>?_)
 ·refine Does.call [Xi #[O vdb.a vdb.n vdb.c,O vdq.a vdq.n vdq.c],Xe Xf bk] rfl Tryz.func184 rfl rfl rfl ?_;refine(HRD.out w' (G2.out.trans ((HI.out _).1 hI'))).mono ?_;rintro e w'' ⟨rfl,gg⟩;exact⟨_,rfl,(HI.out _).2 (((HI.out _).1 hI').trans gg),gg,rfl,trivial⟩
 subst hv;simp only[Xs,sB,sS,sZ];iterate 3 (refine laxE_quiet rfl rfl rfl (fun K hK=>?_);go_big_quiet_op;refine hK _ ?_;clear hK K)
 refine laxE_spec rfl rfl (fun w' hI' hpr hF=>?_) (fun v1 hv=>?_)
 ·refine Does.step (v:= Xj (Xa ⟨w'.heap.size,0,Xb⟩)) (w':=w'.alloc (Xk #[Xe Xg 0,Xe Xg 0,Xe Xg 0,Xe Xg 0,Xe Xg 0,Xe Xg 0,Xe Xg 0,Xe Xg 0] 91)) (by clear hx5 hx6 hf1 he0;simp only[execOp];go_simp) ⟨(HI.out _).2 (((HI.out _).1 hI').trans (grew_alloc _ _)),grew_alloc _ _,⟨_,rfl⟩,_,_,rfl,bS ((HI.out _).1 hI'),BoxT.top _ (pgc zero8) _ rfl,rfl⟩
 obtain⟨pg,rfl⟩:=hv;simp only[Xs,sB,sS,sZ];refine laxE_spec rfl rfl (fun w' hI' hpr hF=>?_) (fun v1 hv=>?_)
 ·obtain⟨g,cs,hg1,hg2,hg3,hg4⟩:=hF 11 (by kernel_rfl)
  simp only[Value.pointer.injEq,Option.some.injEq,Addr.mk.injEq,and_true]at hg1;subst hg1;refine Does.storeAllT 91 (.tmp 8) (.tmp 39) rfl pg rfl (pgc [p0,p1,p2,p3,p4,p5,p6,p7]) rfl hg3 (by rw[hg4];rfl) (by rw[hg4];exact Tryz.sizePg) (pgc_one _) fun w'' b1 b2 b3=>?_
  exact⟨(HI.out _).2 (grew_grown ((HI.out _).1 hI') b2 hg2),⟨pg,hg2,b2,b1⟩,trivial,pg,rfl,hg2,b1.box⟩
 simp only[Xs];iterate 1 (refine laxE_quiet rfl rfl rfl (fun K hK=>?_);go_big_quiet_op;refine hK _ ?_;clear hK K)
 refine laxE_nil fun W4 hI4 hF=>?_
 obtain⟨g',hg1,hg3,hg2⟩:=hF 12;have hg1':(Value.pointer (Xa ⟨pg,0,Xb⟩):Xq)= Xj (Xa ⟨g',0,Xb⟩):=hg1;simp only[Value.pointer.injEq,Option.some.injEq,Addr.mk.injEq,and_true]at hg1';subst hg1';have g4:=(HI.out _).1 hI4;have G4:=dD (G2.out.trans g4);have F4:=dD (F2.out.grew g4);have Y4:=dD (Y2.out.grew g4);have P4:Xo (Box W4 pg (pgc [p0,p1,p2,p3,p4,p5,p6,p7])):=hg2;clear hF hI4 hI0 hne hx5 hx6 hf1 he0 g4 hg1 hg2 hg3 HI G2 X2 F2 Y2;have hcut:=pageCut_any [p0,p1,p2,p3,p4,p5,p6,p7] (z -(ix:Int)*8) W4 rfl (by omega) (by omega)
 rw[cutP_at]at hcut;rw[<-HDL.out]at hcut;have f0:=F4.out.c 0 rfl
 go_wp2_with (refine wp_loadAll rfl 91 (.tmp 8) rfl pg rfl P4.out Tryz.underlying91 rfl Tryz.sizePg ?_)
 refine hcut.mono ?_;clear hcut f0;rintro r W5 ⟨rfl,-,g5⟩;have Y5:=dD (Y4.out.grew g5);have G5:=dD (G4.out.trans g5);clear g5
 go_wp2_with (refine wp_storeAll rfl 91 (.tmp 6) (.tmp 47) rfl (w.heap.size+1) rfl (pgc C) rfl Y5.out (by rw[pgc_len,HD8.out];rfl) Tryz.sizePg (pgc_one _) ?_)
 intro WL hbL hgL _;have HGL:Xo (Grew w WL):=show Grew _ _ from grew_grown G5.out hgL (by omega)
 go_wp2;refine bodyPost_ret (ret_cell rfl _ rfl hbL Tryz.underlying91 rfl (by rw[pgc_len,HD8.out];exact Tryz.sizePg)) rfl ⟨rfl,HD8.out,HGL.out⟩
theorem wrongFrame_ok (a:Fr) (w:Xn) (h0:frW a=0):Xp Tryz.prog 108 #[Xi (frv a).toArray] w fun e w'=>e= Xl (Xe Xf 0)/\Grew w w':=by
 obtain⟨⟨b0,b1,b2,b3,b4,b5,b6,b7⟩,r,u,d,f,x⟩:=a
 show Xp Tryz.prog 108 #[Xi #[Xe Xg b0,Xe Xg b1,Xe Xg b2,Xe Xg b3,Xe Xg b4,Xe Xg b5,Xe Xg b6,Xe Xg b7,Xe Xf r,Xh u,Xh d,Xe Xf f,Xe Xf x]] w _
 cases hb1:inB r 1001 with
 | false=>simp[frW,hb1]at h0
 | true=>
 cases hb2:inB x 12 with
 | false=>simp[frW,hb1,hb2]at h0
 | true=>
 by_cases hf:f=-1
 ·have hfe:(f == -1)=Xc:=by simp[hf]
  have hfn:(f != -1)=Xd:=by simp[hf]
  by_cases hr:r=0
  ·have hre:(r == 0)=Xc:=by simp[hr]
   cases hfr:frEqB (⟨⟨b0,b1,b2,b3,b4,b5,b6,b7⟩,r,u,d,f,x⟩:Fr) frF with
   | false=>simp[frW,hb1,hb2,hfe,hre,hfr]at h0
   | true=>
    have hx:x=0:=by have:=frEqB_eq hfr;simp only[frF,Fr.mk.injEq]at this;exact this.2.2.2.2.2
    exact wf7 _ _ _ _ _ _ _ _ _ _ _ _ _ w hb1 hb2 hfn hfe hre hfr (by simp[hx])
  have hre:(r == 0)=Xd:=by simp[hr]
  by_cases hx:x=0
  ·exact wf9 _ _ _ _ _ _ _ _ _ _ _ _ _ w hb1 hb2 hfn hfe hre (by simp[hx])
  have hxe:(x == 0)=Xd:=by simp[hx]
  simp[frW,hb1,hb2,hfe,hre,hxe]at h0
 have hfe:(f == -1)=Xd:=by simp[hf]
 have hfn:(f != -1)=Xc:=by simp[hf]
 cases hb3:inB f 5 with
 | false=>simp[frW,hb1,hb2,hfe,hb3]at h0
 | true=>
  by_cases hr:r=0
  ·have hre:(r == 0)=Xc:=by simp[hr]
   have hfr:frEqB (⟨⟨b0,b1,b2,b3,b4,b5,b6,b7⟩,r,u,d,f,x⟩:Fr) frF=Xd:=by
    refine frEqB_ne fun h=>?_
    simp only[frF,Fr.mk.injEq]at h;exact hf h.2.2.2.2.1
   simp[frW,hb1,hb2,hfe,hb3,hre,hfr]at h0
  have hre:(r == 0)=Xd:=by simp[hr]
  exact wf5 _ _ _ _ _ _ _ _ _ _ _ _ _ w hb1 hb2 hfn hfe hb3 hre
theorem frsW_ok:∀{fs:List Fr},frsW fs=0->∀f∈fs,frW f=0
 | [],_,_,hf=>by cases hf
 | g :: fs,h,f,hf=>by
  unfold frsW at h
  by_cases hg:frW g=0
  ·rw[if_pos hg]at h
   rcases mC.1 hf with rfl | hf
   ·exact hg
   exact frsW_ok h f hf
  rw[if_neg hg]at h;exact absurd h hg
theorem wrongMem_ok (a:Option Addr) (c:Nat) (fs:List Fr) (h:Int) (w:Xn) (hv:frRowAt w (O a fs.length c) fs) (h0:memW fs h=0):
  Xp Tryz.prog 58 #[Xi #[O a fs.length c,Xe Xf h]] w fun e w'=>e= Xl (Xe Xf 0)/\Grew w w':=by
 have hbig:=hv.short;obtain⟨a',c',heq,hrow⟩:=hv.frs;cases heq;have HR:Xo (FrRows w a fs):=hrow;clear hrow hv;have hm:memW fs h=if 40<fs.length then 4 else if frsW fs=0 then(if inB h (max fs.length 1)then 0 else 3)else frsW fs:=rfl;rw[h0]at hm;obtain⟨n,HN⟩:∃n,Xo (fs.length=n):=⟨_,rfl⟩;rw[HN.out]at hbig hm⊢;have h40:¬40<n:=fun e=>by rw[if_pos e]at hm;cases hm
 rw[if_neg h40]at hm;have HF:Xo (∀f∈fs,frW f=0):=show∀f∈fs,_ from frsW_ok (Decidable.byContradiction fun e=>e (by rw[if_neg e]at hm;exact hm.symm))
 have hz:frsW fs=0:=Decidable.byContradiction fun e=>e (by rw[if_neg e]at hm;exact hm.symm)
 rw[if_pos hz]at hm;have hin:inB h (max n 1)=Xc:=by
  cases e:inB h (max n 1)with
  | true=>rfl
  | false=>rw[e]at hm;cases hm
 clear hm hz h0;have h40z:¬(40:Int)< (n:Int):=by omega
 have HBE:Xo (∀W,Xp Tryz.prog 109 #[Xe Xf h,Xe Xf (max (n:Int) 1)] W fun e w'=>e= Xl (Xh Xc)/\w'=W):=show∀W,_ from fun W=>by
  have k:=frBelow_any h (max (n:Int) 1) W;rw[show inB h (max (n:Int) 1)=inB h (max n 1) by simp,hin]at k
  exact k
 clear hin;obtain⟨W0,hW0⟩:∃W0,w.alloc (Xk #[O a n c,Xe Xf h] 29)=W0:=⟨_,rfl⟩;have HG0:=gA hW0
 have X0:=xA hW0
 have HW0:Xo (_=W0):=hW0;clear hW0 h40
 go_enter Tryz.func58,Tryz.ntmps58
 go_wp2;rw[HW0.out]
 go_loopg [13] n (fun gg s13 wr=>∃kk:Nat,kk<=n/\n - kk<=gg/\s13= Xe Xf kk/\Xo (Grew W0 wr))
 case atStart=>exact⟨0,nZ _,by omega,rfl,Grew.refl _⟩
 obtain⟨kk,hkk,hg,rfl,BW⟩:=hrel
 by_cases hlt:kk<n
 ·have hltz:(kk:Int)< (n:Int):=by omega
  obtain⟨q,HQ⟩:∃q,Xo (fs[kk]? =Xa q):=⟨_,gE (by rw[HN.out];exact hlt)⟩
  obtain⟨ad,rfl,hl⟩:=HR.out kk q HQ.out;obtain⟨d0,d1,d2,d3,d4,d5,d6,d7,d8,d9,d10,d11,d12⟩:=hl wr (HG0.out.trans BW.out);have hcall:=fun W=>wrongFrame_ok q W (HF.out q (mG HQ.out))
  clear hl
  go_wp2_with (go_at_call 108;refine(hcall _).mono ?_;rintro e w' ⟨rfl,hb'⟩)
  go_roundg (n -(kk+1))
  case measure=>omega
  exact⟨kk+1,by omega,by omega,by go_num,(BW.out.trans (grew_alloc _ _)).trans hb'⟩
 have hltz:¬(kk:Int)< (n:Int):=by omega
 have:kk=n:=by omega
 subst this;have e0:=(X0.out.grew BW.out).c 0 rfl;have e1:=(X0.out.grew BW.out).c 1 rfl;have hbel:=HBE.out
 go_wp2_with (go_at_call 109;refine(hbel _).mono ?_;rintro e w' ⟨rfl,rfl⟩)
 go_ret;exact⟨rfl,HG0.out.trans BW.out⟩
theorem chk_ok (V:MaV) (m:Ma) (w:Xn) (hm:MachAt w V m) (h0:maW m=0) (k:Nat) (f:Nat) (hf:chk[k]? =Xa f):
  Xp Tryz.prog f #[Xi #[O V.f.a V.f.n V.f.c,Xe Xf m.hand,O V.s.a V.s.n V.s.c,O V.sb.a V.sb.n V.sb.c,O V.sq.a V.sq.n V.sq.c,O V.db.a V.db.n V.db.c,O V.dq.a V.dq.n V.dq.c,O V.fl.a V.fl.n V.fl.c,Xe Xf m.cnt,O V.ca.a V.ca.n V.ca.c,O V.sp.a V.sp.n V.sp.c]] w fun e w'=>e= Xl (Xe Xf 0)/\Grew w w':=by
 have hz:∀e∈chkE m,e=0:=firstE_zero.1 (by rw[<-h0,maW_six];rfl)
 have z0:firstE (wPartsL m)=0:=hz _ (by simp[chkE])
 have z1:firstE (wDisksL m)=0:=hz _ (by simp[chkE])
 have z2:wSpaces m=0:=hz _ (by simp[chkE])
 have z3:wCache m=0:=hz _ (by simp[chkE])
 have z4:wPages m=0:=hz _ (by simp[chkE])
 have z5:wCounts m=0:=hz _ (by simp[chkE])
 have r1:Right1 m:=right1.1 z0
 match k,hf with
 | 0,hf=>
  cases hf;have k:=wrongParts_of V m w hm fun W hW=>by
   obtain⟨n1,-⟩:=hm.ns;have h:=(hm.grew hW).fs;rw[n1]at h⊢;have hw:memW m.fs m.hand=0:=firstE_zero.1 z0 _ (by simp[wPartsL])
   rw[hw];exact wrongMem_ok _ _ m.fs m.hand W h hw
  rw[z0]at k;exact k
 | 1,hf=>cases hf;rw[<-z1];exact wrongDisks_any V m w hm r1
 | 2,hf=>cases hf;rw[<-z2];exact wrongSpaces_any V m w hm
 | 3,hf=>cases hf;rw[<-z3];exact wrongCache_any V m w hm r1
 | 4,hf=>cases hf;rw[<-z4];exact wrongPagesM_any V m w hm r1 (rightSp z2)
 | 5,hf=>cases hf;rw[<-z5];exact wrongCounts_any V m w hm z3 (wSpaces_four z2) (fun s hs=>(rightSp z2 s hs).2)
 | k+6,hf=>simp[chk]at hf
theorem wrongM_ok (V:MaV) (m:Ma) (w:Xn) (hm:MachAt w V m) (h0:maW m=0):
  Xp Tryz.prog 20 #[Xi #[O V.f.a V.f.n V.f.c,Xe Xf m.hand,O V.s.a V.s.n V.s.c,O V.sb.a V.sb.n V.sb.c,O V.sq.a V.sq.n V.sq.c,O V.db.a V.db.n V.db.c,O V.dq.a V.dq.n V.dq.c,O V.fl.a V.fl.n V.fl.c,Xe Xf m.cnt,O V.ca.a V.ca.n V.ca.c,O V.sp.a V.sp.n V.sp.c]] w fun e w'=>e= Xl (Xe Xf 0)/\Grew w w':=by
 have HCK:Xo (∀W,Grew w W->∀(k f:Nat),chk[k]? =Xa f->Xp Tryz.prog f #[Xi #[O V.f.a V.f.n V.f.c,Xe Xf m.hand,O V.s.a V.s.n V.s.c,O V.sb.a V.sb.n V.sb.c,O V.sq.a V.sq.n V.sq.c,O V.db.a V.db.n V.db.c,O V.dq.a V.dq.n V.dq.c,O V.fl.a V.fl.n V.fl.c,Xe Xf m.cnt,O V.ca.a V.ca.n V.ca.c,O V.sp.a V.sp.n V.sp.c]] W fun e w'=>e= Xl (Xe Xf 0)/\Grew W w'):=show∀W,_ from fun W hW k f hf=>chk_ok V m W (hm.grew hW) h0 k f hf
 clear hm h0;obtain⟨W0,hW0⟩:∃W0,(w.alloc (Xk #[O V.f.a V.f.n V.f.c,Xe Xf m.hand,O V.s.a V.s.n V.s.c,O V.sb.a V.sb.n V.sb.c,O V.sq.a V.sq.n V.sq.c,O V.db.a V.db.n V.db.c,O V.dq.a V.dq.n V.dq.c,O V.fl.a V.fl.n V.fl.c,Xe Xf m.cnt,O V.ca.a V.ca.n V.ca.c,O V.sp.a V.sp.n V.sp.c] 42)).alloc (Xk #[.func (.func 28) #[] #[],.func (.func 29) #[] #[],.func (.func 30) #[] #[],.func (.func 31) #[] #[],.func (.func 32) #[] #[],.func (.func 33) #[] #[]] 77)=W0:=⟨_,rfl⟩;have HG0:=gD2 hW0
 have X0:=x2a hW0
 have Y0:Xo (Box W0 (w.heap.size+1) (chk.map fnV)):=show Box _ _ _ by rw[<-hW0];exact Box.top _ (chk.map fnV) _ (by simp)
 have HW0:Xo (_=W0):=hW0;clear hW0
 go_enter Tryz.func20,Tryz.ntmps20
 go_upto_region 2 with fail;rw[HW0.out];go_wp2
 go_loopg [10] 6 (fun gg s10 wr=>∃kk:Nat,kk<=6/\6 - kk<=gg/\s10= Xe Xf kk/\Xo (Grew W0 wr))
 case atStart=>exact⟨0,nZ _,by omega,rfl,Grew.refl _⟩
 obtain⟨kk,hkk,hgg,rfl,BW⟩:=hrel;have HG:=dD (HG0.out.trans BW.out)
 by_cases hlt:kk<6
 ·have hltz:(kk:Int)<6:=by omega
  obtain⟨f,HF⟩:∃f,Xo (chk[kk]? =Xa f):=⟨_,gE (by simp[chk];exact hlt)⟩
  have y0:wr.cell? ⟨w.heap.size+1,kk,Xb⟩=Xa (.func (.func f) #[] #[]):=(Y0.out.grew BW.out).c kk (by rw[Yi,HF.out];rfl)
  have eg:=chk_enters kk f HF.out;have hcall:=HCK.out wr HG.out kk f HF.out;have XW:=dD (X0.out.grew BW.out);obtain⟨x0,x1,x2,x3,x4,x5,x6,x7,x8,x9,x10⟩:=XW.out.c11;go_wp2_with fail;refine hcall.mono ?_;clear hcall x0 x1 x2 x3 x4 x5 x6 x7 x8 x9 x10 y0;rintro e' W2 ⟨rfl,hg2⟩;have BW2:=dD (BW.out.trans hg2);clear hg2 eg BW;go_wp2
  go_roundg (6 -(kk+1))
  case measure=>omega
  exact⟨kk+1,by omega,by omega,by go_num,BW2.out⟩
 have hltz:¬(kk:Int)<6:=by omega
 go_wp2;go_ret;exact⟨rfl,HG.out⟩
theorem cwEntry_any {w0 w:Xn} {p:Nat} {V:MaV} {m:Ma} (h:ChW w0 p w V m) (q:Nat) (hq:q<m.sp.length) (n:Int):
  Xp Tryz.prog 136 #[Xj (Xa ⟨p,0,Xb⟩),Xi #[Xe Xf (q:Int),Xe Xf n]] w fun e w'=>e= Xl (enV (entM m q n))/\Grew w w':=by
 obtain⟨s,hs⟩:∃s,m.sp[q]? =Xa s:=⟨_,gE hq⟩;obtain⟨xs,s1,s2,s3⟩:=h.sp;obtain⟨x,hx⟩:∃x,xs[q]? =Xa x:=⟨_,gE (by rw[s2];exact hq)⟩
 have HAT:Xo (SpaceAt w x s):=s3 q x s hx hs w (OutD.refl _ _);obtain⟨xn,HXN⟩:∃xn,Xo (xs.length=xn):=⟨_,rfl⟩;obtain⟨g,c,heq⟩:=s1.formS (by omega)
 rw[HXN.out]at heq;have c10:=h.box.box.c 10 rfl;rw[heq]at c10 s1;have hqz:(q:Int)< (xn:Int):=by have:=HXN.out;omega
 have HC10:Xo (w.cell? ⟨p,10,Xb⟩=Xa (O (Xa ⟨g,0,Xb⟩) xn c)):=c10;have HBX:Xo (BoxT w p 88 (chL V m)):=h.box;have hce:Sp10 w ((Addr.mk g 0 Xb).add (q*10)) x:=(s1.one hx).sp10;rw[Yj,zA]at hce;have HCE:Xo (∀W,Grew w W->Sp10 W ⟨g,q*10,Xb⟩ x):=show∀W,_ from fun W hW=>by
  have:=((s1.grew hW).one hx).sp10;rw[Yj,zA]at this;exact this
 have HVS:Xo (O V.sp.a V.sp.n V.sp.c= O (Xa ⟨g,0,Xb⟩) xn c):=heq;obtain⟨E,HE⟩:∃E,Xo (entM m q n=E):=⟨_,rfl⟩;have HG:Xo (∀W,Grew w W->Xp Tryz.prog 69 #[Xi #[O x.t0.a x.t0.n x.t0.c,O x.t1.a x.t1.n x.t1.c,O x.t2.a x.t2.n x.t2.c,O x.t3.a x.t3.n x.t3.c,O x.t4.a x.t4.n x.t4.c,O x.t5.a x.t5.n x.t5.c,O x.t6.a x.t6.n x.t6.c,O x.t7.a x.t7.n x.t7.c],Xe Xf n] W fun e w'=>e= Xl (enV E)/\Grew W w'):=show∀W,_ from fun W hW=>by
  have k:=getTb_any x.tab s.tb n W (HAT.out.tb.grew hW);rw[show getT s.tb n=E from by rw[<-HE.out];unfold entM;rw[Sp.getD_of hs]]at k
  exact k
 rw[HE.out];clear h hq hs s1 s2 s3 hx heq c10 hce HAT;obtain⟨W1,hW1⟩:∃W1,(w.alloc (Xk #[Xe Xf (q:Int),Xe Xf n] 141)).alloc (Xk #[Xe Xf 0,Xe Xf 0,Xh Xd] 127)=W1:=⟨_,rfl⟩;have G1:=gD2 hW1
 have X1:=x2a hW1
 have Y1:=x2b hW1
 have HW1:Xo (_=W1):=hW1;clear hW1
 go_enter Tryz.func136,Tryz.ntmps136
 go_upto_region 1 with fail;rw[HW1.out];obtain⟨b,HB⟩:∃b,Xo (w.heap.size=b):=⟨_,rfl⟩;rw[HB.out]at X1 Y1⊢;obtain⟨I,HI⟩:∃I:Xn->Prop,Xo (∀u,I u↔Grew W1 u):=⟨fun u=>Grew W1 u,fun _=>Iff.rfl⟩
 have hI0:I W1.drew:=(HI.out _).2 (gW _)
 have ht:∀y:HoldI I,y.world.cell? ⟨p,10,Xb⟩=Xa (O (Xa ⟨g,0,Xb⟩) xn c):=fun y=>by rw[<-HVS.out];exact(HBX.out.box.grew (G1.out.trans ((HI.out _).1 y.holds))).c 10 rfl
 have hx0:=X1.out.h HI.out 0 rfl
 have hx1:=X1.out.h HI.out 1 rfl
 have hce:∀y:HoldI I,Sp10 y.world ⟨g,q*10,Xb⟩ x:=fun y=>HCE.out _ (G1.out.trans ((HI.out _).1 y.holds))
 have h2:=fun y=>(hce y).2.2.1
 have h3:=fun y=>(hce y).2.2.2.1
 have h4:=fun y=>(hce y).2.2.2.2.1
 have h5:=fun y=>(hce y).2.2.2.2.2.1
 have h6:=fun y=>(hce y).2.2.2.2.2.2.1
 have h7:=fun y=>(hce y).2.2.2.2.2.2.2.1
 have h8:=fun y=>(hce y).2.2.2.2.2.2.2.2.1
 have h9:=fun y=>(hce y).2.2.2.2.2.2.2.2.2
 dsimp only at h2 h3 h4 h5 h6 h7 h8 h9;clear hce;have hne:Nonempty (HoldI I):=⟨⟨_,hI0⟩⟩;refine wp_lax_tailD (I:=I) 13 [(12,fun v=>v=enV E)] (fun u=>True) hI0 trivial mixed (by kernel_rfl) rfl rfl (by decide) ?hS (by kernel_rfl) ?_
 case hS=>
  intro x hx;simp only[mC,nM,or_false]at hx;subst hx;exact⟨_,rfl⟩
 simp only[Xz,Ya];iterate 1 (refine laxD_quiet rfl rfl rfl (fun K hK=>?_);go_big_quiet_op;refine hK _ ?_;clear hK K)
 refine laxD_nilc (.tmp 5) ⟨p,0,Xb⟩ rfl rfl rfl rfl ?_;simp only[Xs,sB,sS,sZ];iterate 10 (refine laxD_quiet rfl rfl rfl (fun K hK=>?_);go_big_quiet_op;refine hK _ ?_;clear hK K)
 refine laxD_spec rfl rfl (fun _ u=>True) (fun w' hI' hF'=>?_) (fun v1 hv=>?_)
 ·refine Does.call [Xi #[O x.t0.a x.t0.n x.t0.c,O x.t1.a x.t1.n x.t1.c,O x.t2.a x.t2.n x.t2.c,O x.t3.a x.t3.n x.t3.c,O x.t4.a x.t4.n x.t4.c,O x.t5.a x.t5.n x.t5.c,O x.t6.a x.t6.n x.t6.c,O x.t7.a x.t7.n x.t7.c],Xe Xf n] rfl Tryz.func69 rfl rfl rfl ?_;refine(HG.out w' (G1.out.trans ((HI.out _).1 hI'))).mono ?_;rintro e w'' ⟨rfl,g2⟩;exact⟨_,rfl,(HI.out _).2 (((HI.out _).1 hI').trans g2),rfl,trivial⟩
 cases hv;simp only[Xs,sB,sS,sZ];refine laxD_nil fun W8 hI8 hF8=>?_
 have G8:Xo (Grew W1 W8):=(HI.out _).1 hI8;have Y8:=dD (Y1.out.grew G8.out);clear hI8 hF8 hI0 ht hx0 hx1 h2 h3 h4 h5 h6 h7 h8 h9 hne HI;unfold enV;refine wp_storeAll rfl 127 (.tmp 4) (.tmp 17) rfl (b+1) rfl [Xe Xf E.kind,Xe Xf E.n,Xh E.wr] rfl Y8.out rfl (by kernel_rfl) (by simp[Value.oneCell']) ?_
 intro W9 bx9 gr9 _;have G9:Xo (Grew w W9):=show Grew _ _ from grew_grown (G1.out.trans G8.out) gr9 (by have:=HB.out;omega)
 have B9:Xo (Box W9 (b+1) [Xe Xf E.kind,Xe Xf E.n,Xh E.wr]):=bx9;clear bx9 gr9;go_wp2;refine bodyPost_ret (ret_cell rfl _ rfl B9.out Tryz.underlying127 rfl (by kernel_rfl)) rfl ⟨rfl,G9.out⟩
theorem hoF (a:Option Addr) (c:Nat) (fs:List Fr) (h:Int) (i:Nat) (q:Fr) (nn:Int) (w:Xn) (hv:frRowAt w (O a fs.length c) fs) (hz:memW fs h=0) (hq:fs[i]? =Xa q) (hr:(q.r == 0)=Xd) (hn:¬nn< -q.r) (hn2:¬1000 - q.r<nn) (hs:q.r+nn=0):
  Xp Tryz.prog 173 #[Xi #[O a fs.length c,Xe Xf h],Xe Xf (i:Int),Xe Xf nn] w fun e w'=>∃b,e= Xl (Xm #[Xi #[b,Xe Xf h],Xe Xf 0])/\frOwnRow w.heap.size w' b (fs.set i frF)/\Grew w w':=by
 have HV:Xo (frRowAt w (O a fs.length c) fs):=hv;have HS:Xo (q.r+nn=0):=hs;clear hs;have hw:∀W,Grew w W->Xp Tryz.prog 58 #[Xi #[O a fs.length c,Xe Xf h]] W fun e w'=>e= Xl (Xe Xf (memW fs h))/\Grew W w':=fun W hW=>by rw[hz];exact wrongMem_ok a c fs h W (HV.out.grew hW) hz
 have hbl:∀W,Xp Tryz.prog 109 #[Xe Xf (i:Int),Xe Xf (fs.length:Int)] W fun e w'=>e= Xl (Xh (inB (i:Int) fs.length))/\w'=W:=fun W=>frBelow_any (i:Int) _ W
 have ho:∀W,Grew w W->Xp Tryz.prog 51 #[Xi #[O a fs.length c,Xe Xf h]] W fun e w'=>∃b,e= Xl (Xi #[b,Xe Xf h])/\frOwnRow W.heap.size w' b fs/\Grew W w':=fun W hW=>ownMem_any a c fs h W (HV.out.grew hW)
 have hb1000:=frW_zero ((memW_zero hz).2.1 q (mG hq));have hil:i<fs.length:=(gS.1 hq).1;obtain⟨a',c',heq,hrow⟩:=hv.frs;cases heq;obtain⟨ad,rfl,hl⟩:=hrow i q hq;have HL:Xo (∀W,Grew w W->FrCells W (ad.add (i*13)) q):=hl;have HQ:Xo (fs[i]? =Xa q):=hq;clear hrow hl hq;simp only[show inB (i:Int) fs.length=Xc from by simp[inB];exact hil]at hbl
 have hbig:=hv.short;clear hv;simp only[hz]at hw;clear hz;obtain⟨n,HN⟩:∃n,Xo (fs.length=n):=⟨_,rfl⟩;simp only[HN.out]at hw HV hbig hbl ho hil⊢;have hiz:(i:Int)< (n:Int):=by omega
 obtain⟨hb1,hb2⟩:=hb1000;obtain⟨W0,hW0⟩:∃W0,(w.alloc (Xk #[O (Xa ad) n c,Xe Xf h] 29)).alloc (Xk #[O Xb 0 0,Xe Xf 0] 29)=W0:=⟨_,rfl⟩;have HG0:=gD2 hW0
 have X0:=x2a hW0
 have X2:=x2b hW0
 have HW0:Xo (_=W0):=hW0;clear hW0
 go_enter Tryz.func173,Tryz.ntmps173
 go_upto_region 1 with fail;rw[HW0.out];have e0:=X0.out.c 0 rfl;have e1:=X0.out.c 1 rfl;go_wp2_with fail;refine(hw _ HG0.out).mono ?_;rintro e W1 ⟨rfl,g1⟩;have G1:Xo (Grew W0 W1):=g1;clear g1 e0 e1 hw;obtain⟨-,-,-,-,-,-,-,-,d8,-,-,-,-⟩:=HL.out W1 (HG0.out.trans G1.out);have e0:=(X0.out.grew G1.out).c 0 rfl;have e1:=(X0.out.grew G1.out).c 1 rfl
 go_wp2_with (go_at_call 109;refine(hbl _).mono ?_;rintro e w' ⟨rfl,hw'⟩;rw[hw'];clear hw' w')
 refine(ho _ (HG0.out.trans G1.out)).mono ?_;rintro e W4 ⟨b,rfl,hown,g4⟩;obtain⟨g,cv,rfl⟩:=hown.formS (by rw[HN.out];omega)
 rw[HN.out]at hown⊢;have OW:Xo (frOwnRow W1.heap.size W4 (O (Xa ⟨g,0,Xb⟩) n cv) fs):=hown;have G4:=dD (G1.out.trans g4);have g34:Xo (W1.heap.size<=W4.heap.size):=bS g4;clear hown g4 e0 e1 ho d8;have hgl:=OW.out.lt g rfl;have hne:g≠W4.heap.size:=by omega
 have u8:=(OW.out.grew (grew_alloc W4 (Xk #[O (Xa ⟨g,0,Xb⟩) n cv,Xe Xf h] 29))).frc HQ.out 8 rfl
 go_wp2_with (refine frWpList_store_part rfl (.tmp 61) (.tmp 59) 3 rfl W1.heap.size (O (Xa ⟨g,0,Xb⟩) n cv) fs (OW.out.grew (grew_alloc _ _)) g i 8 rfl q { q with r:=q.r+nn } HQ.out [Xe Xf (q.r+nn)] (by kernel_rfl) rfl (Yd rfl) (by intro u hu;simp at hu;subst hu;rfl) _ rfl (by simp) _ rfl rfl ?_)
 intro W5 ow5 gr5 sz5;have OW5:Xo (frOwnRow W1.heap.size W5 (O (Xa ⟨g,0,Xb⟩) n cv) (fs.set i { q with r:=q.r+nn })):=ow5;have h34:=g34.out;have h03:W0.heap.size<=W1.heap.size:=bS G1.out;have hx2:=X2.out.lt;have XO:Xo (Box W5 W4.heap.size [O (Xa ⟨g,0,Xb⟩) n cv,Xe Xf h]):=(Box.top W4 _ _ rfl).beside gr5 (fun g' hg'=>by cases hg';omega)
 have X25:Xo (Box W5 (w.heap.size+1) [O Xb 0 0,Xe Xf 0]):=((X2.out.grew G4.out).alloc _).beside gr5 (fun g' hg'=>by cases hg';omega)
 have G5:Xo (Grew W0 W5):=grew_beside (G4.out.trans (grew_alloc _ _)) gr5 (fun g' hg'=>by cases hg';omega)
 have HQ5:Xo ((fs.set i { q with r:=q.r+nn })[i]? =Xa { q with r:=q.r+nn }):=show _=_ by rw[sF (by rw[HN.out];exact hil)]
 clear ow5 gr5 sz5 u8;have u8:=OW5.out.frc HQ5.out 8 rfl;have o0:=XO.out.c 0 rfl;have o1:=XO.out.c 1 rfl;have r0:=X25.out.c 0 rfl;have r1:=X25.out.c 1 rfl;have rf:=X25.out.f;simp only at u8;have hsb:(q.r+nn == 0)=Xc:=by simp[HS.out]
 go_wp2;have hx0:∀x:GrownW W5,x.world.cell? ⟨W4.heap.size,0,Xb⟩=Xa (O (Xa ⟨g,0,Xb⟩) n cv):=fun x=>(XO.out.grew x.grew).c 0 rfl
 have hne5:Nonempty (GrownW W5):=⟨⟨_,Grew.refl _⟩⟩;clear u8 o0 o1 r0 r1 rf;refine wp_lax_tail 5 [(3,⟨fun v=>v= Xi (frv frF).toArray,fun _ _=>True⟩)] mixed (by kernel_rfl) rfl rfl (by decide) ?_ ?_ ?_
 ·intro x hx
  simp at hx
  subst hx;exact⟨_,rfl⟩
 ·intro x hx
  simp at hx
  subst hx;exact fun _ _ _ _ h=>h
 simp only[Xz,Ya];iterate 3 (refine lax_quiet rfl rfl rfl (fun K hK=>?_);go_big_quiet_op;refine hK _ ?_;clear hK K)
 refine lax_spec rfl rfl (fun w' hg hF=>?_) (fun v1 hv=>?_)
 ·refine Does.call [] rfl Tryz.func26 rfl rfl rfl ?_;refine(freeFrame_any w').mono ?_;rintro e w'' ⟨rfl,hg2⟩;exact⟨_,rfl,hg2,rfl,trivial⟩
 subst hv;simp only[Xs,sB,sS,sZ,frv,frF,pg0];iterate 1 (refine lax_quiet rfl rfl rfl (fun K hK=>?_);go_big_quiet_op;refine hK _ ?_;clear hK K)
 refine lax_nil fun W6 hg6 hF=>?_
 have OW6:=dD (OW5.out.grew hg6);have XO6:=dD (XO.out.grew hg6);have X26:=dD (X25.out.grew hg6);have G6:=dD (G5.out.trans hg6);clear hF hx0 hg6 hne5
 go_wp2_with (refine frWpList_store_elt rfl (.tmp 73) (.tmp 72) rfl W1.heap.size _ _ OW6.out g i rfl frF (by rw[List.length_set,HN.out];exact hil) _ rfl (by simp) _ rfl rfl ?_)
 intro W7 ow7 gr7 sz7;have OW7:Xo (frOwnRow W1.heap.size W7 (O (Xa ⟨g,0,Xb⟩) n cv) (fs.set i frF)):=ow7;have XO7:Xo (Box W7 W4.heap.size [O (Xa ⟨g,0,Xb⟩) n cv,Xe Xf h]):=XO6.out.beside gr7 (fun g' hg'=>by cases hg';omega)
 have X27:Xo (Box W7 (w.heap.size+1) [O Xb 0 0,Xe Xf 0]):=X26.out.beside gr7 (fun g' hg'=>by cases hg';omega)
 have G7:Xo (Grew W0 W7):=grew_beside G6.out gr7 (fun g' hg'=>by cases hg';omega)
 clear ow7 gr7 sz7;have o0:=XO7.out.c 0 rfl;have o1:=XO7.out.c 1 rfl;have r0:=X27.out.c 0 rfl;have r1:=X27.out.c 1 rfl;have rf:=X27.out.f;go_wp2;refine bodyPost_ret (v:= Xm #[Xi #[O (Xa ⟨g,0,Xb⟩) n cv,Xe Xf h],Xe Xf 0]) (by simp[results,Tryz.results173,go_sem, *]) rfl ⟨_,rfl,?_,?_⟩
 ·exact((OW7.out.setCell (a:=⟨w.heap.size+1,0,Xb⟩) (by show w.heap.size+1<_;omega) _).setCell (a:=⟨w.heap.size+1,1,Xb⟩) (by show w.heap.size+1<_;omega) _).base (by have:=bS HG0.out;omega)
 exact grew_set (grew_set (HG0.out.trans G7.out) (by simp) _) (by simp) _
theorem hoG (a:Option Addr) (c:Nat) (fs:List Fr) (h:Int) (i:Nat) (q:Fr) (nn:Int) (w:Xn) (hv:frRowAt w (O a fs.length c) fs) (hz:memW fs h=0) (hq:fs[i]? =Xa q) (hr:(q.r == 0)=Xd) (hn:¬nn< -q.r) (hn2:¬1000 - q.r<nn) (hs:(q.r+nn == 0)=Xd):
  Xp Tryz.prog 173 #[Xi #[O a fs.length c,Xe Xf h],Xe Xf (i:Int),Xe Xf nn] w fun e w'=>∃b,e= Xl (Xm #[Xi #[b,Xe Xf h],Xe Xf 0])/\frOwnRow w.heap.size w' b (fs.set i { q with r:=q.r+nn })/\Grew w w':=by
 have HV:Xo (frRowAt w (O a fs.length c) fs):=hv;have hw:∀W,Grew w W->Xp Tryz.prog 58 #[Xi #[O a fs.length c,Xe Xf h]] W fun e w'=>e= Xl (Xe Xf (memW fs h))/\Grew W w':=fun W hW=>by rw[hz];exact wrongMem_ok a c fs h W (HV.out.grew hW) hz
 have hbl:∀W,Xp Tryz.prog 109 #[Xe Xf (i:Int),Xe Xf (fs.length:Int)] W fun e w'=>e= Xl (Xh (inB (i:Int) fs.length))/\w'=W:=fun W=>frBelow_any (i:Int) _ W
 have ho:∀W,Grew w W->Xp Tryz.prog 51 #[Xi #[O a fs.length c,Xe Xf h]] W fun e w'=>∃b,e= Xl (Xi #[b,Xe Xf h])/\frOwnRow W.heap.size w' b fs/\Grew W w':=fun W hW=>ownMem_any a c fs h W (HV.out.grew hW)
 have hb1000:=frW_zero ((memW_zero hz).2.1 q (mG hq));have hil:i<fs.length:=(gS.1 hq).1;obtain⟨a',c',heq,hrow⟩:=hv.frs;cases heq;obtain⟨ad,rfl,hl⟩:=hrow i q hq;have HL:Xo (∀W,Grew w W->FrCells W (ad.add (i*13)) q):=hl;have HQ:Xo (fs[i]? =Xa q):=hq;clear hrow hl hq;simp only[show inB (i:Int) fs.length=Xc from by simp[inB];exact hil]at hbl
 have hbig:=hv.short;clear hv;simp only[hz]at hw;clear hz;obtain⟨n,HN⟩:∃n,Xo (fs.length=n):=⟨_,rfl⟩;simp only[HN.out]at hw HV hbig hbl ho hil⊢;have hiz:(i:Int)< (n:Int):=by omega
 obtain⟨hb1,hb2⟩:=hb1000;obtain⟨W0,hW0⟩:∃W0,(w.alloc (Xk #[O (Xa ad) n c,Xe Xf h] 29)).alloc (Xk #[O Xb 0 0,Xe Xf 0] 29)=W0:=⟨_,rfl⟩;have HG0:=gD2 hW0
 have X0:=x2a hW0
 have X2:=x2b hW0
 have HW0:Xo (_=W0):=hW0;clear hW0
 go_enter Tryz.func173,Tryz.ntmps173
 go_upto_region 1 with fail;rw[HW0.out];have e0:=X0.out.c 0 rfl;have e1:=X0.out.c 1 rfl;go_wp2_with fail;refine(hw _ HG0.out).mono ?_;rintro e W1 ⟨rfl,g1⟩;have G1:Xo (Grew W0 W1):=g1;clear g1 e0 e1 hw;obtain⟨-,-,-,-,-,-,-,-,d8,-,-,-,-⟩:=HL.out W1 (HG0.out.trans G1.out);have e0:=(X0.out.grew G1.out).c 0 rfl;have e1:=(X0.out.grew G1.out).c 1 rfl
 go_wp2_with (go_at_call 109;refine(hbl _).mono ?_;rintro e w' ⟨rfl,hw'⟩;rw[hw'];clear hw' w')
 refine(ho _ (HG0.out.trans G1.out)).mono ?_;rintro e W4 ⟨b,rfl,hown,g4⟩;obtain⟨g,cv,rfl⟩:=hown.formS (by rw[HN.out];omega)
 rw[HN.out]at hown⊢;have OW:Xo (frOwnRow W1.heap.size W4 (O (Xa ⟨g,0,Xb⟩) n cv) fs):=hown;have G4:=dD (G1.out.trans g4);have g34:Xo (W1.heap.size<=W4.heap.size):=bS g4;clear hown g4 e0 e1 ho d8;have hgl:=OW.out.lt g rfl;have hne:g≠W4.heap.size:=by omega
 have u8:=(OW.out.grew (grew_alloc W4 (Xk #[O (Xa ⟨g,0,Xb⟩) n cv,Xe Xf h] 29))).frc HQ.out 8 rfl
 go_wp2_with (refine frWpList_store_part rfl (.tmp 61) (.tmp 59) 3 rfl W1.heap.size (O (Xa ⟨g,0,Xb⟩) n cv) fs (OW.out.grew (grew_alloc _ _)) g i 8 rfl q { q with r:=q.r+nn } HQ.out [Xe Xf (q.r+nn)] (by kernel_rfl) rfl (Yd rfl) (by intro u hu;simp at hu;subst hu;rfl) _ rfl (by simp) _ rfl rfl ?_)
 intro W5 ow5 gr5 sz5;have OW5:Xo (frOwnRow W1.heap.size W5 (O (Xa ⟨g,0,Xb⟩) n cv) (fs.set i { q with r:=q.r+nn })):=ow5;have h34:=g34.out;have h03:W0.heap.size<=W1.heap.size:=bS G1.out;have hx2:=X2.out.lt;have XO:Xo (Box W5 W4.heap.size [O (Xa ⟨g,0,Xb⟩) n cv,Xe Xf h]):=(Box.top W4 _ _ rfl).beside gr5 (fun g' hg'=>by cases hg';omega)
 have X25:Xo (Box W5 (w.heap.size+1) [O Xb 0 0,Xe Xf 0]):=((X2.out.grew G4.out).alloc _).beside gr5 (fun g' hg'=>by cases hg';omega)
 have G5:Xo (Grew W0 W5):=grew_beside (G4.out.trans (grew_alloc _ _)) gr5 (fun g' hg'=>by cases hg';omega)
 have HQ5:Xo ((fs.set i { q with r:=q.r+nn })[i]? =Xa { q with r:=q.r+nn }):=show _=_ by rw[sF (by rw[HN.out];exact hil)]
 clear ow5 gr5 sz5 u8;have u8:=OW5.out.frc HQ5.out 8 rfl;have o0:=XO.out.c 0 rfl;have o1:=XO.out.c 1 rfl;have r0:=X25.out.c 0 rfl;have r1:=X25.out.c 1 rfl;have rf:=X25.out.f;simp only at u8;go_wp2;refine bodyPost_ret (v:= Xm #[Xi #[O (Xa ⟨g,0,Xb⟩) n cv,Xe Xf h],Xe Xf 0]) (by simp[results,Tryz.results173,go_sem, *]) rfl ⟨_,rfl,?_,?_⟩
 ·exact((OW5.out.setCell (a:=⟨w.heap.size+1,0,Xb⟩) (by show w.heap.size+1<_;omega) _).setCell (a:=⟨w.heap.size+1,1,Xb⟩) (by show w.heap.size+1<_;omega) _).base (by have:=bS HG0.out;omega)
 exact grew_set (grew_set (HG0.out.trans G5.out) (by simp) _) (by simp) _
theorem holdE_zero {fs:List Fr} {h k nn:Int} (he:holdE fs h k nn=0):∃(i:Nat) (q:Fr),k=(i:Int)/\fs[i]? =Xa q/\memW fs h=0/\q.r≠0/\-q.r<=nn/\nn<=1000 - q.r/\holdF fs h k nn=fs.set i (frH q nn)/\holdH fs h k nn=h:=by
 have he0:=he;unfold holdE at he
 split at he
 ·rename_i h0
  split at he
  ·rename_i h1
   simp only[inB,Bool.and_eq_true,decide_eq_true_eq,Bool.not_eq_true',beq_eq_false_iff_ne]at h1;obtain⟨⟨h2,h3⟩,h4⟩:=h1
   split at he
   ·rename_i h5
    have hl:k.toNat<fs.length:=by omega
    have e:fs.getD k.toNat fr0=fs[k.toNat]:=by rw[gD,gE hl];rfl
    rw[e]at h4 h5;refine⟨k.toNat,fs[k.toNat],by omega,gE hl,h0,h4,h5.1,h5.2,?_,?_⟩
    ·unfold holdF;rw[if_pos he0,e]
    unfold holdH;rw[if_pos he0]
   cases he
  cases he
 rename_i h0
 exact absurd he h0
theorem holdO_ok (a:Option Addr) (c:Nat) (fs:List Fr) (h k nn:Int) (w:Xn) (hv:frRowAt w (O a fs.length c) fs) (he:holdE fs h k nn=0):
  Xp Tryz.prog 173 #[Xi #[O a fs.length c,Xe Xf h],Xe Xf k,Xe Xf nn] w fun e w'=>∃b,e= Xl (Xm #[Xi #[b,Xe Xf h],Xe Xf 0])/\frOwnRow w.heap.size w' b (holdF fs h k nn)/\Grew w w':=by
 obtain⟨i,q,rfl,hq,hm,hr,h1,h2,hf,_⟩:=holdE_zero he;rw[hf]
 by_cases hs:q.r+nn=0
 ·rw[show frH q nn=frF from if_pos hs]
  exact hoF a c fs h i q nn w hv hm hq (by simpa using hr) (by omega) (by omega) hs
 rw[show frH q nn={ q with r:=q.r+nn }from if_neg hs]
 exact hoG a c fs h i q nn w hv hm hq (by simpa using hr) (by omega) (by omega) (by simpa using hs)
theorem cwHold_any {w0 w:Xn} {p:Nat} {V:MaV} {m:Ma} (h:ChW w0 p w V m) (z:En) (n:Int) (hk:z.kind=1->holdE m.fs m.hand z.n n=0):
  Xp Tryz.prog 135 #[Xj (Xa ⟨p,0,Xb⟩),Xi #[Xe Xf z.kind,Xe Xf z.n,Xh z.wr],Xe Xf n] w fun e w'=>(∃v,e= Xl v)/\Chg w0 p w V (holdM m z n) w':=by
 have HM:Xo (ChW w0 p w V m):=h;obtain⟨n1,n2,-⟩:=h.at.ns;have HF:Xo (z.kind=1->∀W,Grew w W->Xp Tryz.prog 173 #[Xi #[O V.f.a V.f.n V.f.c,Xe Xf m.hand],Xe Xf z.n,Xe Xf n] W fun e w'=>∃b:Sli,e= Xl (Xm #[Xi #[O b.a b.n b.c,Xe Xf m.hand],Xe Xf 0])/\OwnRow frmE W.heap.size w' (O b.a b.n b.c) (holdF m.fs m.hand z.n n)/\Grew W w'):=show _->∀W,_ from fun hk1 W hW=>by
  have k:=(h.at.grew hW).fs;rw[n1]at k⊢;refine(holdO_ok V.f.a V.f.c m.fs m.hand z.n n W k (hk hk1)).mono ?_;rintro e w' ⟨b,rfl,nr,g⟩;have nr':OwnRow frmE W.heap.size w' b (holdF m.fs m.hand z.n n):=nr;obtain⟨a,c,rfl,_⟩:=nr'.at.rows;exact⟨⟨a,_,c⟩,rfl,nr,g⟩
 have HSL:Xo (∀W,Grew w W->Xp Tryz.prog 174 #[O V.s.a V.s.n V.s.c,Xe Xf z.n,Xe Xf n] W fun e w'=>∃b:Sli,e= Xl (Xm #[O b.a b.n b.c,Xe Xf (holdSE m.sl z.n n)])/\NewRow slE W.heap.size w' (O b.a b.n b.c) (holdSL m.sl z.n n)/\Grew W w'):=show∀W,_ from fun W hW=>by
  have k:=(h.at.grew hW).sl;rw[n2]at k⊢;refine(holdS_any V.s.a V.s.c m.sl z.n n W k).mono ?_;rintro e w' ⟨a,c,rfl,nr,g⟩;exact⟨⟨a,_,c⟩,rfl,nr,g⟩
 have HD:Xo (∀k,Dw p V k->k<w.heap.size):=h.dlt;clear h n1 n2;obtain⟨W1,hW1⟩:∃W1,w.alloc (Xk #[Xe Xf z.kind,Xe Xf z.n,Xh z.wr] 127)=W1:=⟨_,rfl⟩;have G1:=gA hW1
 have Y1:=xA hW1
 have HW1:Xo (_=W1):=hW1;clear hW1;have y0:=Y1.out.c 0 rfl
 go_enter Tryz.func135,Tryz.ntmps135
 go_upto_region 1 with fail;rw[HW1.out];obtain⟨b,HB⟩:∃b,Xo (w.heap.size=b):=⟨_,rfl⟩;rw[HB.out]at Y1 y0⊢
 by_cases k1:z.kind=1
 ·have hk1:(z.kind == 1)=Xc:=by rw[k1];rfl
  have HH:Xo (holdM m z n={ m with fs:=holdF m.fs m.hand z.n n,hand:=m.hand }):=show _=_ by
   obtain⟨_,_,_,_,_,_,_,_,_,e9⟩:=holdE_zero (hk k1);unfold holdM;rw[if_pos k1,e9]
  have HF:Xo (∀W,_):=HF.out k1;clear k1;go_upto_region 3 with fail;clear y0;obtain⟨I,HI⟩:∃I:Xn->Prop,Xo (∀u,I u↔Box u b [Xe Xf z.kind,Xe Xf z.n,Xh z.wr]):=⟨fun u=>Box u b [Xe Xf z.kind,Xe Xf z.n,Xh z.wr],fun _=>Iff.rfl⟩
  have hI0:I W1.drew:=(HI.out _).2 (Y1.out.grew (gW _))
  have hF0:Grew W1 W1.drew:=show Below _ _ _ from(bR _ _).drew
  have hy1:∀y:HoldI I,y.world.cell? ⟨b,1,Xb⟩=Xa (Xe Xf z.n):=fun y=>((HI.out _).1 y.holds).c 1 rfl
  have hne:Nonempty (HoldI I):=⟨⟨_,hI0⟩⟩;refine wp_lax_tailD (I:=I) 17 [(5,fun v=>v= Xi #[O V.f.a V.f.n V.f.c,Xe Xf m.hand]),(9,fun v=>∃s:Sli,v= Xm #[Xi #[O s.a s.n s.c,Xe Xf m.hand],Xe Xf 0]),(16,fun _=>True)] (fun u=>Grew W1 u) hI0 hF0 mixed (by kernel_rfl) rfl rfl (by decide) ?hS (by kernel_rfl) ?_
  case hS=>
   intro x hx;simp only[mC,nM,or_false]at hx
   rcases hx with rfl | rfl | rfl
   ·exact⟨_,rfl⟩
   ·exact⟨_,sli0,rfl⟩
   exact⟨undef,trivial⟩
  simp only[Xz,Ya];iterate 2 (refine laxD_quiet rfl rfl rfl (fun K hK=>?_);go_big_quiet_op;refine hK _ ?_;clear hK K)
  refine laxD_nilc (.tmp 12) ⟨p,0,Xb⟩ rfl rfl rfl rfl ?_;simp only[Xs,sB,sS,sZ];iterate 2 (refine laxD_quiet rfl rfl rfl (fun K hK=>?_);go_big_quiet_op;refine hK _ ?_;clear hK K)
  refine laxD_spec rfl rfl (fun _ u=>Grew W1 u) (fun w' hI' hF'=>?_) (fun v1 hv=>?_)
  ·refine does_load 29 (.tmp 15) rfl p 0 rfl [O V.f.a V.f.n V.f.c,Xe Xf m.hand] ((HM.out.box.box.grew (G1.out.trans hF')).mid 0 (fun j v hj=>by
    match j,hj with
    | 0,hj=>exact hj
    | 1,hj=>exact hj)) Tryz.underlying29 rfl (by kernel_rfl) ⟨hI',rfl,hF'⟩
  cases hv;simp only[Xs,sB,sS,sZ];iterate 3 (refine laxD_quiet rfl rfl rfl (fun K hK=>?_);go_big_quiet_op;refine hK _ ?_;clear hK K)
  refine laxD_spec rfl rfl (fun v u=>∃(s:Sli) (Wa:Xn),v= Xm #[Xi #[O s.a s.n s.c,Xe Xf m.hand],Xe Xf 0]/\Grew W1 Wa/\Grew Wa u/\OwnRow frmE Wa.heap.size u (O s.a s.n s.c) (holdF m.fs m.hand z.n n)) (fun w' hI' hF'=>?_) (fun v1 hv=>?_)
  ·refine Does.call [Xi #[O V.f.a V.f.n V.f.c,Xe Xf m.hand],Xe Xf z.n,Xe Xf n] rfl Tryz.func173 rfl rfl rfl ?_;refine(HF.out w' (G1.out.trans hF')).mono ?_;rintro e w'' ⟨s,rfl,t2,g2⟩;exact⟨_,rfl,(HI.out _).2 (((HI.out _).1 hI').grew g2),⟨s,rfl⟩,s,w',rfl,hF',g2,t2⟩
  obtain⟨s,rfl⟩:=hv;simp only[Xs,sB,sS,sZ];iterate 3 (refine laxD_quiet rfl rfl rfl (fun K hK=>?_);go_big_quiet_op;refine hK _ ?_;clear hK K)
  refine laxD_nilc (.tmp 11) ⟨p,0,Xb⟩ rfl rfl rfl rfl ?_;simp only[Xs,sB,sS,sZ];iterate 2 (refine laxD_quiet rfl rfl rfl (fun K hK=>?_);go_big_quiet_op;refine hK _ ?_;clear hK K)
  refine laxD_spec rfl rfl (fun _ u=>Chg w0 p w V { m with fs:=holdF m.fs m.hand z.n n,hand:=m.hand } u) (fun w' hI' hF'=>?_) (fun v1 hv=>?_)
  ·obtain⟨s',Wa,he,ga,gb,t8⟩:=hF';have hss:s'=s:=by
    obtain⟨a1,a2,a3⟩:=s;obtain⟨b1,b2,b3⟩:=s';simp only[Value.tuple.injEq,Array.mk.injEq,List.cons.injEq,Value.agg.injEq,vJ,and_true]at he;obtain⟨rfl,rfl,rfl⟩:=he;rfl
   subst hss;have G8:Grew w w':=(G1.out.trans ga).trans gb;refine does_storeT 29 (.tmp 25) (.tmp 21) rfl p 0 rfl (Xi #[O s'.a s'.n s'.c,Xe Xf m.hand]) rfl [O s'.a s'.n s'.c,Xe Xf m.hand] rfl (HM.out.box.grew G8) (by simp[chL]) (by kernel_rfl) (by simp[Value.oneCell']) ?_
   intro W9 bx9 gr9 _;have hpl:=HD.out p (.inl rfl);exact⟨(HI.out _).2 (((HI.out _).1 hI').grown gr9 (by have:=HB.out;omega)),trivial,HM.out.setF G8 (t8.base (nT (bS G1.out) (bS ga))) gr9 bx9⟩
  clear hv;try simp only[Xs]
  refine laxD_nil fun W9 hI8 hF8=>?_
  have M9:Xo (Chg w0 p w V (holdM m z n) W9):=show Chg _ _ _ _ _ _ by rw[HH.out];exact hF8
  clear hI8 hF8 hI0 hF0 hy1 hne HI;go_wp2
  (first | go_end0 | ((try simp only[Exit.inBlock,Exit.then]);refine bodyPost_ret (results_none rfl _ _ _) rfl ?_))
  first | exact M9.out | exact⟨⟨_,rfl⟩,M9.out⟩
 have hk1:(z.kind == 1)=Xd:=by simpa using k1
 by_cases k2:z.kind=2
 ·have hk2:(z.kind == 2)=Xc:=by rw[k2];rfl
  have HH:Xo (holdM m z n={ m with sl:=holdSL m.sl z.n n }):=show _=_ by unfold holdM;rw[if_neg k1,if_pos k2]
  clear k1 k2;go_upto_region 5 with fail;clear y0;obtain⟨I,HI⟩:∃I:Xn->Prop,Xo (∀u,I u↔Box u b [Xe Xf z.kind,Xe Xf z.n,Xh z.wr]):=⟨fun u=>Box u b [Xe Xf z.kind,Xe Xf z.n,Xh z.wr],fun _=>Iff.rfl⟩
  have hI0:I W1.drew:=(HI.out _).2 (Y1.out.grew (gW _))
  have hF0:Grew W1 W1.drew:=show Below _ _ _ from(bR _ _).drew
  have hy1:∀y:HoldI I,y.world.cell? ⟨b,1,Xb⟩=Xa (Xe Xf z.n):=fun y=>((HI.out _).1 y.holds).c 1 rfl
  have hne:Nonempty (HoldI I):=⟨⟨_,hI0⟩⟩;refine wp_lax_tailD (I:=I) 17 [(5,fun v=>v= O V.s.a V.s.n V.s.c),(9,fun v=>∃s:Sli,v= Xm #[O s.a s.n s.c,Xe Xf (holdSE m.sl z.n n)]),(16,fun _=>True)] (fun u=>Grew W1 u) hI0 hF0 mixed (by kernel_rfl) rfl rfl (by decide) ?hS (by kernel_rfl) ?_
  case hS=>
   intro x hx;simp only[mC,nM,or_false]at hx
   rcases hx with rfl | rfl | rfl
   ·exact⟨_,rfl⟩
   ·exact⟨_,sli0,rfl⟩
   exact⟨undef,trivial⟩
  simp only[Xz,Ya];iterate 2 (refine laxD_quiet rfl rfl rfl (fun K hK=>?_);go_big_quiet_op;refine hK _ ?_;clear hK K)
  refine laxD_nilc (.tmp 30) ⟨p,0,Xb⟩ rfl rfl rfl rfl ?_;simp only[Xs,sB,sS,sZ];iterate 2 (refine laxD_quiet rfl rfl rfl (fun K hK=>?_);go_big_quiet_op;refine hK _ ?_;clear hK K)
  refine laxD_spec rfl rfl (fun _ u=>Grew W1 u) (fun w' hI' hF'=>?_) (fun v1 hv=>?_)
  ·exact does_load1 31 (.tmp 33) rfl p 2 rfl (O V.s.a V.s.n V.s.c) ((HM.out.box.box.grew (G1.out.trans hF')).c 2 rfl) Tryz.underlying31 rfl ⟨hI',rfl,hF'⟩
  cases hv;simp only[Xs,sB,sS,sZ];iterate 3 (refine laxD_quiet rfl rfl rfl (fun K hK=>?_);go_big_quiet_op;refine hK _ ?_;clear hK K)
  refine laxD_spec rfl rfl (fun v u=>∃(s:Sli) (Wa:Xn),v= Xm #[O s.a s.n s.c,Xe Xf (holdSE m.sl z.n n)]/\Grew W1 Wa/\Grew Wa u/\NewRow slE Wa.heap.size u (O s.a s.n s.c) (holdSL m.sl z.n n)) (fun w' hI' hF'=>?_) (fun v1 hv=>?_)
  ·refine Does.call [O V.s.a V.s.n V.s.c,Xe Xf z.n,Xe Xf n] rfl Tryz.func174 rfl rfl rfl ?_;refine(HSL.out w' (G1.out.trans hF')).mono ?_;rintro e w'' ⟨s,rfl,t2,g2⟩;exact⟨_,rfl,(HI.out _).2 (((HI.out _).1 hI').grew g2),⟨s,rfl⟩,s,w',rfl,hF',g2,t2⟩
  obtain⟨s,rfl⟩:=hv;simp only[Xs,sB,sS,sZ];iterate 3 (refine laxD_quiet rfl rfl rfl (fun K hK=>?_);go_big_quiet_op;refine hK _ ?_;clear hK K)
  refine laxD_nilc (.tmp 29) ⟨p,0,Xb⟩ rfl rfl rfl rfl ?_;simp only[Xs,sB,sS,sZ];iterate 2 (refine laxD_quiet rfl rfl rfl (fun K hK=>?_);go_big_quiet_op;refine hK _ ?_;clear hK K)
  refine laxD_spec rfl rfl (fun _ u=>Chg w0 p w V { m with sl:=holdSL m.sl z.n n } u) (fun w' hI' hF'=>?_) (fun v1 hv=>?_)
  ·obtain⟨s',Wa,he,ga,gb,t8⟩:=hF';have hss:s'=s:=by
    obtain⟨a1,a2,a3⟩:=s;obtain⟨b1,b2,b3⟩:=s';simp only[Value.tuple.injEq,Array.mk.injEq,List.cons.injEq,vJ,and_true]at he;obtain⟨rfl,rfl,rfl⟩:=he;rfl
   subst hss;have G8:Grew w w':=(G1.out.trans ga).trans gb;refine does_storeT 31 (.tmp 43) (.tmp 39) rfl p 2 rfl (O s'.a s'.n s'.c) rfl [O s'.a s'.n s'.c] rfl (HM.out.box.grew G8) (by simp[chL]) (by kernel_rfl) (by simp[Value.oneCell']) ?_
   intro W9 bx9 gr9 _;have hpl:=HD.out p (.inl rfl);exact⟨(HI.out _).2 (((HI.out _).1 hI').grown gr9 (by have:=HB.out;omega)),trivial,HM.out.setS G8 (t8.base (nT (bS G1.out) (bS ga))) gr9 bx9⟩
  clear hv;try simp only[Xs]
  refine laxD_nil fun W9 hI8 hF8=>?_
  have M9:Xo (Chg w0 p w V (holdM m z n) W9):=show Chg _ _ _ _ _ _ by rw[HH.out];exact hF8
  clear hI8 hF8 hI0 hF0 hy1 hne HI;go_wp2
  (first | go_end0 | ((try simp only[Exit.inBlock,Exit.then]);refine bodyPost_ret (results_none rfl _ _ _) rfl ?_))
  first | exact M9.out | exact⟨⟨_,rfl⟩,M9.out⟩
 have hk2:(z.kind == 2)=Xd:=by simpa using k2
 have HH:Xo (holdM m z n=m):=show _=_ by unfold holdM;rw[if_neg k1,if_neg k2]
 clear k1 k2;have M9:Xo (Chg w0 p w V (holdM m z n) W1):=show Chg _ _ _ _ _ _ by rw[HH.out];exact Chg.refl HM.out G1.out
 go_wp2
 (first | go_end0 | ((try simp only[Exit.inBlock,Exit.then]);refine bodyPost_ret (results_none rfl _ _ _) rfl ?_))
 first | exact M9.out | exact⟨⟨_,rfl⟩,M9.out⟩
def NewV (B:Nat) (V:MaV):Prop:=(fresh B V.f.v/\fresh B V.s.v/\fresh B V.sb.v/\fresh B V.sq.v)/\(fresh B V.db.v/\fresh B V.dq.v/\fresh B V.fl.v/\fresh B V.ca.v/\fresh B V.sp.v)
theorem fresh.less {a b:Nat} {v:Xq} (h:fresh b v) (k:a<=b):fresh a v:=fun x n c e=>nT k (h x n c e)
theorem newF_any (cf cs cb:Int) (hfew:fewB cf cs cb) (w:Xn):
  Xp Tryz.prog 13 #[Xi #[Xe Xf cf,Xe Xf cs,Xe Xf cb]] w fun e w'=>(∃V:MaV,e= Xl (Xm #[Xi #[O V.f.a V.f.n V.f.c,Xe Xf 0,O V.s.a V.s.n V.s.c,O V.sb.a V.sb.n V.sb.c,O V.sq.a V.sq.n V.sq.c,O V.db.a V.db.n V.db.c,O V.dq.a V.dq.n V.dq.c,O V.fl.a V.fl.n V.fl.c,Xe Xf cb,O V.ca.a V.ca.n V.ca.c,O V.sp.a V.sp.n V.sp.c],Xe Xf 0])/\MachAt w' V (newMa cf cs cb)/\NewV w.heap.size V/\∃ps,V.sp=⟨Xa ⟨ps,0,Xb⟩,1,1⟩)/\Grew w w':=by
 obtain⟨W0,hW0⟩:∃W0,(w.alloc (Xk #[Xe Xf cf,Xe Xf cs,Xe Xf cb] 48)).alloc (Xk #[O Xb 0 0,Xe Xf 0,O Xb 0 0,O Xb 0 0,O Xb 0 0,O Xb 0 0,O Xb 0 0,O Xb 0 0,Xe Xf 0,O Xb 0 0,O Xb 0 0] 42)=W0:=⟨_,rfl⟩;have HG0:=gD2 hW0
 have X0:=x2a hW0
 have Y0:=x2b hW0
 have HW0:Xo (_=W0):=hW0;clear hW0;obtain⟨e1,HE1⟩:∃e,Xo (newME cf=e):=⟨_,rfl⟩;obtain⟨e2,HE2⟩:∃e,Xo (newSE cs=e):=⟨_,rfl⟩;obtain⟨e3,HE3⟩:∃e,Xo (newErr cs=e):=⟨_,rfl⟩;obtain⟨e4,HE4⟩:∃e,Xo (newErr cb=e):=⟨_,rfl⟩;obtain⟨e5,HE5⟩:∃e:Int,Xo ((if 0<=cb/\cb<=80 then(0:Int)else 4)=e):=⟨_,rfl⟩;obtain⟨z5,HZ5⟩:∃e:Int,Xo ((if 0<=cb/\cb<=80 then cb else 0)=e):=⟨_,rfl⟩;have h1:=fun W=>newMem_all cf W
 have h2:=fun W=>newS_all cs W
 have h3:=fun W=>newDk_all cs W
 have h4:=fun W=>newDk_all cb W
 have h5:=fun W=>newSt_any cb W
 rw[HE1.out]at h1;rw[HE2.out]at h2;rw[HE3.out]at h3;rw[HE4.out]at h4;rw[HE5.out,HZ5.out]at h5;have HES:Xo (newEs cf cs cb=[e1,e2,e3,e4,e5]):=show _=_ by unfold newEs;rw[HE1.out,HE2.out,HE3.out,HE4.out,HE5.out]
 have H1:Xo (∀W,_):=h1;have H2:Xo (∀W,_):=h2;have H3:Xo (∀W,_):=h3;have H4:Xo (∀W,_):=h4;have H5:Xo (∀W,_):=h5;clear h1 h2 h3 h4 h5
 go_enter Tryz.func13,Tryz.ntmps13
 go_upto_region 1 with fail;rw[HW0.out];have x0:=X0.out.c 0 rfl;go_wp2_with fail;refine(H1.out _).mono ?_;rintro e W1 ⟨mf,rfl,⟨r1,f1⟩,g1⟩;clear x0;have R1:Xo (RowAt frmE W1 (O mf.a mf.n mf.c) (newMF cf)):=r1;have HG1:Xo (Grew W0 W1):=g1;have FR1:Xo (fresh W0.heap.size (O mf.a mf.n mf.c)):=f1;clear r1 g1 f1;go_upto_region 2 with fail;obtain⟨W2,hW2⟩:∃W2,W1.alloc (Xk #[O mf.a mf.n mf.c,Xe Xf 0] 29)=W2:=⟨_,rfl⟩;have HG2:=gA hW2
 have B2:=xA hW2
 rw[hW2];clear hW2;obtain⟨p2,HP2⟩:∃p,Xo (W1.heap.size=p):=⟨_,rfl⟩;rw[HP2.out]at B2⊢;have x1:=(X0.out.grew (HG1.out.trans HG2.out)).c 1 rfl;go_wp2_with fail;refine(H2.out _).mono ?_;rintro e W3 ⟨ms,rfl,⟨r3,f3⟩,g3⟩;clear x1;have R3:Xo (RowAt slE W3 (O ms.a ms.n ms.c) (newSL cs)):=r3;have HG3:Xo (Grew W2 W3):=g3;have HG03:=dD ((HG1.out.trans HG2.out).trans g3);have FR3:Xo (fresh W2.heap.size (O ms.a ms.n ms.c)):=f3;clear r3 g3 f3;have x1:=(X0.out.grew HG03.out).c 1 rfl;go_upto_region 3 with fail;go_wp2_with fail;refine(H3.out _).mono ?_;rintro e W4 ⟨mb,mq,rfl,⟨r4,r5,f4,f5⟩,g4⟩;clear x1;have R4:Xo (PagesAt W4 (O mb.a mb.n mb.c) (newD cs)):=r4;have R5:Xo (PutsAt W4 (O mq.a mq.n mq.c) []):=r5;have HG4:Xo (Grew W3 W4):=g4;have FR4:Xo (fresh W3.heap.size (O mb.a mb.n mb.c)):=f4;have FR5:Xo (fresh W3.heap.size (O mq.a mq.n mq.c)):=f5;clear r4 r5 g4 f4 f5;go_upto_region 4 with fail;obtain⟨W5,hW5⟩:∃W5,W4.alloc (Xk #[O mb.a mb.n mb.c,O mq.a mq.n mq.c] 35)=W5:=⟨_,rfl⟩;have HG5:=gA hW5
 have B5:=xA hW5
 rw[hW5];clear hW5;obtain⟨p5,HP5⟩:∃p,Xo (W4.heap.size=p):=⟨_,rfl⟩;rw[HP5.out]at B5⊢;have HG05:=dD ((HG03.out.trans HG4.out).trans HG5.out);have x2:=(X0.out.grew HG05.out).c 2 rfl;go_wp2_with fail;refine(H4.out _).mono ?_;rintro e W6 ⟨md,me,rfl,⟨r6,r7,f6,f7⟩,g6⟩;clear x2;have R6:Xo (PagesAt W6 (O md.a md.n md.c) (newD cb)):=r6;have R7:Xo (PutsAt W6 (O me.a me.n me.c) []):=r7;have HG6:Xo (Grew W5 W6):=g6;have FR6:Xo (fresh W5.heap.size (O md.a md.n md.c)):=f6;have FR7:Xo (fresh W5.heap.size (O me.a me.n me.c)):=f7;clear r6 r7 g6 f6 f7;go_upto_region 5 with fail;obtain⟨W7,hW7⟩:∃W7,W6.alloc (Xk #[O md.a md.n md.c,O me.a me.n me.c] 35)=W7:=⟨_,rfl⟩;have HG7:=gA hW7
 have B7:=xA hW7
 rw[hW7];clear hW7;obtain⟨p7,HP7⟩:∃p,Xo (W6.heap.size=p):=⟨_,rfl⟩;rw[HP7.out]at B7⊢;have HG07:=dD ((HG05.out.trans HG6.out).trans HG7.out);have x2:=(X0.out.grew HG07.out).c 2 rfl;go_wp2_with fail;refine(H5.out _).mono ?_;rintro e W8 ⟨rfl,g8⟩;clear x2;have HG8:Xo (Grew W7 W8):=g8;clear g8;go_upto_region 6 with fail;obtain⟨W9,hW9⟩:∃W9,W8.alloc (Xk #[O Xb 0 0,Xe Xf z5] 38)=W9:=⟨_,rfl⟩;have HG9:=gA hW9
 have B9:=xA hW9
 rw[hW9];clear hW9;obtain⟨p9,HP9⟩:∃p,Xo (W8.heap.size=p):=⟨_,rfl⟩;rw[HP9.out]at B9⊢;obtain⟨E,HE⟩:∃E,Xo (firstE [e1,e2,e3,e4,e5]=E):=⟨_,rfl⟩;have hor:=orErr_any (O (Xa ⟨W9.heap.size,0,Xb⟩) 5 5) [e1,e2,e3,e4,e5] _ (row_lit errE W9 [e1,e2,e3,e4,e5] #[Xe Xf e1,Xe Xf e2,Xe Xf e3,Xe Xf e4,Xe Xf e5] rfl (show 5*8<=140737488355328 by decide))
 rw[HE.out]at hor;go_wp2_with fail;refine hor.mono ?_;rintro e W10 ⟨rfl,hw10⟩;clear hor;have HG10:Xo (Grew W9 W10):=show Grew _ _ by rw[hw10];exact grew_alloc _ _
 clear hw10;have HGW:=dD (((HG07.out.trans HG8.out).trans HG9.out).trans HG10.out);have Y10:=dD (Y0.out.grew HGW.out);have hE0:E=0:=by rw[<-HE.out,<-HES.out];exact newEs_few hfew
 subst hE0;have b20:=(B2.out.grew ((((((HG3.out.trans HG4.out).trans HG5.out).trans HG6.out).trans HG7.out).trans HG8.out).trans (HG9.out.trans HG10.out))).c 0 rfl;have b21:=(B2.out.grew ((((((HG3.out.trans HG4.out).trans HG5.out).trans HG6.out).trans HG7.out).trans HG8.out).trans (HG9.out.trans HG10.out))).c 1 rfl;have b50:=(B5.out.grew (((HG6.out.trans HG7.out).trans HG8.out).trans (HG9.out.trans HG10.out))).c 0 rfl;have b51:=(B5.out.grew (((HG6.out.trans HG7.out).trans HG8.out).trans (HG9.out.trans HG10.out))).c 1 rfl;have b70:=(B7.out.grew ((HG8.out).trans (HG9.out.trans HG10.out))).c 0 rfl;have b71:=(B7.out.grew ((HG8.out).trans (HG9.out.trans HG10.out))).c 1 rfl;have b90:=(B9.out.grew HG10.out).c 0 rfl;have b91:=(B9.out.grew HG10.out).c 1 rfl;have HFEW:Xo (fewB cf cs cb):=hfew;clear hfew;go_upto_region 9 with fail;obtain⟨W11,hW11⟩:∃W11,W10.alloc (Xk #[Xh Xc,O Xb 0 0,O Xb 0 0,O Xb 0 0,O Xb 0 0,O Xb 0 0,O Xb 0 0,O Xb 0 0,O Xb 0 0,O Xb 0 0] 76)=W11:=⟨_,rfl⟩;have HG11:=gA hW11
 have S11:Xo (RowAt spcE W11 (O (Xa ⟨W10.heap.size,0,Xb⟩) 1 1) [⟨Xc,sli0,sli0,sli0,sli0,sli0,sli0,sli0,sli0,sli0⟩]):=show RowAt _ _ _ _ by rw[<-hW11];exact one_row spcE W10 ⟨Xc,sli0,sli0,sli0,sli0,sli0,sli0,sli0,sli0,sli0⟩ _ _ rfl (by decide)
 have Y11:=dD (Y10.out.grew HG11.out);have HW11:Xo (_=W11):=hW11;clear hW11;obtain⟨ps,HPS⟩:∃p,Xo (W10.heap.size=p):=⟨_,rfl⟩
 go_wp2_with (first | (rw[HW11.out];rw[HPS.out];refine wp_storeAll rfl 42 (.tmp 2) (.tmp 63) rfl (w.heap.size+1) rfl [O mf.a mf.n mf.c,Xe Xf 0,O ms.a ms.n ms.c,O mb.a mb.n mb.c,O mq.a mq.n mq.c,O md.a md.n md.c,O me.a me.n me.c,O Xb 0 0,Xe Xf z5,O Xb 0 0,O (Xa ⟨ps,0,Xb⟩) 1 1] rfl Y11.out rfl (by kernel_rfl) (fun v hv=>by
   simp only[mC,nM,or_false]at hv
   rcases hv with rfl | rfl | rfl | rfl | rfl | rfl | rfl | rfl | rfl | rfl | rfl <;> rfl) ?_))
 intro W12 hb12 hg12 _;clear b20 b21 b50 b51 b70 b71 b90 b91;have HG12:Xo (Grew w W12):=show Grew _ _ from grew_grown ((HG0.out.trans HGW.out).trans HG11.out) hg12 (by omega)
 have HS0:w.heap.size+1<W0.heap.size:=Y0.out.lt;have k1:=bS HG1.out;have k2:=bS HG2.out;have k3:=bS HG3.out;have k4:=bS HG4.out;have k5:=bS HG5.out;have kw:=bS HGW.out;have far:∀{b:Nat} {v:Xq},W0.heap.size<=b->fresh b v->∀x n c,v= O (Xa x) n c->Xa x.block≠Xa (w.heap.size+1):=fun hb hf x n c hv e=>by
  have:=hf x n c hv;simp only[Option.some.injEq]at e;omega
 have t1:Grew W1 W11:=((((((HG2.out.trans HG3.out).trans HG4.out).trans HG5.out).trans HG6.out).trans HG7.out).trans HG8.out).trans ((HG9.out.trans HG10.out).trans HG11.out);have t3:Grew W3 W11:=((((HG4.out.trans HG5.out).trans HG6.out).trans HG7.out).trans HG8.out).trans ((HG9.out.trans HG10.out).trans HG11.out);have t4:Grew W4 W11:=(((HG5.out.trans HG6.out).trans HG7.out).trans HG8.out).trans ((HG9.out.trans HG10.out).trans HG11.out);have t6:Grew W6 W11:=(HG7.out.trans HG8.out).trans ((HG9.out.trans HG10.out).trans HG11.out);have HMA:Xo (MachAt W12 ⟨mf,ms,mb,mq,md,me,sli0,sli0,⟨Xa ⟨ps,0,Xb⟩,1,1⟩⟩ (newMa cf cs cb)):=show MachAt _ _ _ by
  obtain⟨hf1,hf2,hf3⟩:=HFEW.out;refine⟨?_,?_,?_,?_,?_,?_,?_,RowAt.nil cchE W12,?_⟩
  ·have h:=(R1.out.grew t1).beside hg12 (far (nR _) FR1.out);unfold newMF at h;rw[if_pos hf1]at h;exact h
  ·have h:=(R3.out.grew t3).beside hg12 (far (by omega) FR3.out)
   unfold newSL at h;rw[if_pos hf2]at h;exact h
  ·have h:PagesAt W12 (O mb.a mb.n mb.c) (newD cs):=⟨(R4.out.grew t4).1.beside hg12 (far (by omega) FR4.out),R4.out.2⟩
   unfold newD at h;rw[if_pos (by omega)]at h
   exact h
  ·exact⟨(R5.out.grew t4).1.beside hg12 (far (by omega) FR5.out),R5.out.2⟩
  ·have h:PagesAt W12 (O md.a md.n md.c) (newD cb):=⟨(R6.out.grew t6).1.beside hg12 (far (by omega) FR6.out),R6.out.2⟩
   unfold newD at h;rw[if_pos hf3]at h;exact h
  ·exact⟨(R7.out.grew t6).1.beside hg12 (far (by omega) FR7.out),R7.out.2⟩
  ·exact⟨nR _,[],fun w' _=>RowAt.nil fvE w',rfl,fun i x f hx=>by simp at hx⟩
  have hs:=S11.out;rw[HPS.out]at hs;refine⟨_,hs.beside hg12 (fun x n c hx e=>?_),rfl,fun i x s hx hs=>?_⟩
  ·cases hx;simp only[Option.some.injEq]at e;have:=HPS.out;omega
  cases i with
  | zero=>
   cases hx;cases hs;exact⟨rfl,RowAt.nil arE W12,nR _,TabS.nil 0 0 W12⟩
  | succ i=>simp at hx
 have HNV:Xo (NewV w.heap.size ⟨mf,ms,mb,mq,md,me,sli0,sli0,⟨Xa ⟨ps,0,Xb⟩,1,1⟩⟩):=show NewV _ _ from by
  refine⟨⟨FR1.out.less (by omega),FR3.out.less (by omega),FR4.out.less (by omega),FR5.out.less (by omega)⟩,FR6.out.less (by omega),FR7.out.less (by omega),fresh_nil _,fresh_nil _,fun x n c e=>?_⟩
  cases e;have:=HPS.out
  show w.heap.size<=ps
  omega
 have hz5:z5=cb:=by rw[<-HZ5.out,if_pos HFEW.out.2.2]
 subst hz5;clear t1 t3 t4 t6 far k1 k2 k3 k4 k5 kw HS0;go_wp2;refine bodyPost_ret (ret_cell_tmp rfl _ rfl hb12 Tryz.underlying42 rfl (by kernel_rfl)) rfl ⟨⟨⟨mf,ms,mb,mq,md,me,sli0,sli0,⟨Xa ⟨ps,0,Xb⟩,1,1⟩⟩,rfl,HMA.out,HNV.out,ps,rfl⟩,HG12.out⟩
end
end Go.Proofs.YtempiodbdhiboaaGreat
