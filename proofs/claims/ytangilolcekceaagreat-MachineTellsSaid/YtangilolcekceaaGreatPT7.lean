import Derived.Test.YtangilolcekceaaGreatPT6
import Derived.Shelf.Bits.Mul64
import Derived.Deep.Cut
import Derived.Deep.DeepCutAuto
namespace Go.Proofs.YtangilolcekceaaGreat
set_option maxRecDepth 100000
set_option maxHeartbeats 4000000
variable{B b fi hi ht i id j nb nf:Nat} {L:List Int} {Q Q':Exit->Act->World->Prop} {T:List (Nat->En)} {V:MaV} {e t:TypeId} {hd s:Int} {m:Ma} {o oi oj:Oper} {ops:Array Oper} {vs:List Value} {vt:Sli} {w w':World}
open Go.Proofs.Tryz
section
open Go.RowKit
def QX (K:JQ) (w:World) (b:Nat) (H:Int × Int->Int):Prop:=∃g,j5 K w b g/\∀k,(g k).getD 0=H k
theorem QX.grew {K:JQ} {H:Int × Int->Int} (h:QX K w b H) (k:zc w w'):QX K w' b H:=by
 obtain⟨g,h1,h2⟩:=h;exact⟨g,h1.grew k,h2⟩
theorem QX.congr {K:JQ} {H H':Int × Int->Int} (h:QX K w b H) (e:∀k,H k=H' k):QX K w b H':=by
 obtain⟨g,h1,h2⟩:=h;exact⟨g,h1,fun k=>(h2 k).trans (e k)⟩
theorem QX.ne_box {K:JQ} {cs:List Value} {H:Int × Int->Int} (k:QX K w B H) (h:Box w b cs):b≠B:=by
 obtain⟨g,h1,_⟩:=k;exact h.ne_map h1
theorem QX.ne_own {α:Type} {E:Elt α} {K:JQ} {base:Nat} {v:Value} {l:List α} {H:Int × Int->Int} (k:QX K w B H) (h:zb E base w v l):∀x,v.ownBlock=some x->some B≠some x:=by
 obtain⟨g,h1,_⟩:=k;exact h.ne_map h1
def zbo (K:JQ) (w:World) (b:Nat) (H:Int × Int->Int) (k:Int × Int) (st:Int):Prop:=∃g,zk4 K w b g k st/\∀x,(g x).getD 0=H x
theorem QX.entry {K:JQ} {H:Int × Int->Int} (h:QX K w b H) (ht:Tryz.prog.underlying t=some (.map K.ty e)) (hz:(zeroValue e).run prog w= .ok (I6 0) w) (k:Int × Int):
  ∃w' st,(Instr.mapEntry t (.map (some b)) (K.enc k)).run prog w= .ok (.tuple #[I6 (H k),I6 st]) w'/\zbo K w' b H k st/\w.grownBy w' (some b)/\w'.heap.size=w.heap.size:=by
 obtain⟨g,h1,h2⟩:=h;obtain⟨w',st,r1,r2,r3,r4⟩:=h1.entry ht hz k;rw[h2 k]at r1;refine⟨w',st,r1,⟨_,r2,fun x=>?_⟩,r3,r4⟩
 by_cases e:x=k
 ·subst e;rw[if_pos rfl];exact h2 x
 rw[if_neg e];exact h2 x
theorem zbo.h {K:JQ} {H:Int × Int->Int} {k:Int × Int} {st:Int} (h:zbo K w b H k st):QX K w b H:=by
 obtain⟨g,h1,h2⟩:=h;exact⟨g,h1.f,h2⟩
theorem QX.look {K:JQ} {H:Int × Int->Int} (h:QX K w b H) (ht:Tryz.prog.underlying t=some (.map K.ty e)) (hz:(zeroValue e).run prog w= .ok (I6 0) w) (k:Int × Int):
  (Instr.lookup t (.map (some b)) (K.enc k) false).run prog w= .ok (I6 (H k)) w:=by
 obtain⟨g,h1,h2⟩:=h;have:=h1.look ht hz k false;rw[h2 k]at this;exact this
def zlx (H:Int × Int->Int) (k:Int × Int):Int × Int->Int:=fun x=>H x+(if x=k then 1 else 0)
theorem zan {K:JQ} {rest:List Oper} {a:Act} (hgd:o.guard=none) (t:TypeId) (m s x:Operand) (hop:o.op= .entryStore t m s x) (b:Nat) (H:Int × Int->Int) (k:Int × Int) (st:Int) (h:zbo K w b H k st)
  (hm:a.eval m= .map (some b)) (hs:a.eval s=I6 st) (hv:a.eval x=I6 (H k+1))
  (hK:∀w',QX K w' b (zlx H k)->w.grownBy w' (some b)->w'.heap.size=w.heap.size->wpList prog ops Q rest (a.put o.dst undef) w'):wpList prog ops Q (o :: rest) a w:=by
 refine wpList_plain hgd fun K' hK'=>?_
 obtain⟨g,h1,h2⟩:=h;obtain⟨w',hrun,r1,r2,r3⟩:=h1.store t (H k+1);unfold Oper.wp
 simp[execOp,hop,hm,hs,hv,hrun,Result.andThen]
 refine hK' _ _ (hK w' ⟨_,r1,fun y=>?_⟩ r2 r3)
 unfold zlx
 by_cases e:y=k
 ·subst e;rw[if_pos rfl,if_pos rfl];rfl
 rw[if_neg e,if_neg e,h2 y];omega
theorem zjE (l:List Ca) (key:Int × Int):0<=Jr l key/\Jr l key<=l.length:=by
 unfold Jr zS
 split
 ·have:=List.countP_le_length (p:=fun c:Ca=>decide (c.fr=key.2)) (l:=l)
  omega
 omega
theorem zcM (s:Sp):(qz s).length<=64:=by
 unfold qz;have:=List.length_filter_le (fun n=>enS (zO s n)) (List.range 64)
 simpa using this
theorem zkC (m:Ma) (i:Nat) (l:List Nat) (s:Sp) (key:Int × Int):0<=qA m i l s key/\qA m i l s key<=m.ca.length+64*m.sp.length+l.length:=by
 unfold qA;have h1:(if key.1=1 then zS m.ca key.2 else 0)<=m.ca.length:=by
  split
  ·exact List.countP_le_length
  omega
 have h2:∀(L:List Sp),(L.map fun s=>(qz s).countP fun n=>isE (zO s n) key.1 key.2).sum<=64*L.length:=by
  intro L
  induction L with
  | nil=>simp
  | cons a L ih=>
   have h3:=List.countP_le_length (p:=fun n=>isE (zO a n) key.1 key.2) (l:=qz a)
   have h4:=zcM a;simp only[mP,List.sum_cons,List.length_cons];omega
 have h5:=h2 (m.sp.take i);have h6:(m.sp.take i).length<=m.sp.length:=by simp;omega
 have h7:=List.countP_le_length (p:=fun n=>isE (zO s n) key.1 key.2) (l:=l)
 omega
def zdg:Sp:=⟨true,[],[]⟩
theorem zfD (V:MaV) (m:Ma) (w:World) (hm:zH w V m) (hsp4:m.sp.length<=4) (htb:∀s∈m.sp,tbW s.tb=0):
  Calls prog 94 #[.agg (mL V m).toArray] w fun e w'=>∃B,e= .returned (.map (some B))/\QX enK w' B (qA m m.sp.length [] zdg)/\zc w w':=by
 obtain⟨vf,vs,vsb,vsq,vdb,vdq,vfl,⟨caa,can,cac⟩,⟨spa,spn,spc⟩⟩:=V;dsimp only[mL];obtain⟨-,-,-,-,-,-,-,n8,n9⟩:=hm.ns;dsimp only at n8 n9;have HR:Hid (J1 w caa m.ca):=hm.cas;have HN:Hid (m.ca.length=can):=n8.symm;have hbig:can<=140737488355328:=by have:=hm.ca.2;have h24:qX.bytes=24:=rfl;rw[h24]at this;omega
 obtain⟨xs,hxl,hrow,hsp⟩:=hm.spaces;have HXL:Hid (xs.length=m.sp.length):=hxl;have HRS:Hid (∀(j:Nat) x,xs[j]? =some x->∃ad,spa=some ad/\∀W,zc w W->zc1 W (ad.add (j*10)) x):=hrow;have HSP:Hid (∀(i:Nat) x s,xs[i]? =some x->m.sp[i]? =some s->qr w x s):=hsp;have HNS:Hid (m.sp.length=spn):=n9.symm;have HTBS:Hid (∀s∈m.sp,tbW s.tb=0):=htb;have HC0:Hid (∀j key,0<=Jr (m.ca.take j) key/\Jr (m.ca.take j) key<=140737488355328):=show∀j key,_ from fun j key=>by
  have h1:=zjE (m.ca.take j) key;have h2:(m.ca.take j).length<=m.ca.length:=by simp;omega
  omega
 have HH0:Hid (∀i l s key,l.length<=64->0<=qA m i l s key/\qA m i l s key<=140737488360000):=dD<|fun i l s key hl=>by
  have h1:=zkC m i l s key;omega
 have hsn4:spn<=4:=by omega
 clear hm n8 n9 hxl hrow hsp hsp4 htb;have hmm:=@run_makeMap prog;obtain⟨W0,hW0⟩:∃W0,(w.alloc (.cells #[vf.x,I6 m.hand,vs.x,vsb.x,vsq.x,vdb.x,vdq.x,vfl.x,I6 m.cnt,.slice caa can cac,.slice spa spn spc] 40)).alloc (.map #[] 0)=W0:=⟨_,rfl⟩;have HG0:Hid (zc w W0):=dD<|by rw[<-hW0];exact(za _ _).trans (za _ _)
 have X0:Hid (Box W0 w.heap.size [vf.x,I6 m.hand,vs.x,vsb.x,vsq.x,vdb.x,vdq.x,vfl.x,I6 m.cnt,.slice caa can cac,.slice spa spn spc]):=dD<|by rw[<-hW0];exact(Box.top _ _ _ rfl).alloc _
 have M0:Hid (QX enK W0 (w.heap.size+1) (Jr (m.ca.take 0))):=dD<|by
  rw[<-hW0];have:=j5.made enK (w.alloc (.cells #[vf.x,I6 m.hand,vs.x,vsb.x,vsq.x,vdb.x,vdq.x,vfl.x,I6 m.cnt,.slice caa can cac,.slice spa spn spc] 40));have hs:(w.alloc (.cells #[vf.x,I6 m.hand,vs.x,vsb.x,vsq.x,vdb.x,vdq.x,vfl.x,I6 m.cnt,.slice caa can cac,.slice spa spn spc] 40)).heap.size=w.heap.size+1:=by simp
  rw[hs]at this;exact⟨_,this,fun k=>by rw[List.take_zero,zic];rfl⟩
 have HW0:Hid (_=W0):=hW0;clear hW0
 go_enter func94,ntmps94
 go_upto_region 2 with fail;rw[HW0.out];clear hmm;have x9:=X0.c 9 rfl;go_wp2;clear x9
 go_loopg [15] can (fun gg s15 wr=>∃kk:Nat,kk<=can/\can - kk<=gg/\s15=I6 kk/\Hid (zc w wr)/\Hid (Box wr w.heap.size [vf.x,I6 m.hand,vs.x,vsb.x,vsq.x,vdb.x,vdq.x,vfl.x,I6 m.cnt,.slice caa can cac,.slice spa spn spc])/\Hid (QX enK wr (w.heap.size+1) (Jr (m.ca.take kk))))
 case atStart=>exact⟨0,nZ _,by omega,rfl,HG0,X0,M0⟩
 obtain⟨kk,hkk,hgg,rfl,BW,XW,MW⟩:=hrel
 by_cases hlt:kk<can
 ·have hltz:(kk:Int)< (can:Int):=by omega
  obtain⟨c,HC⟩:∃c,Hid (m.ca[kk]? =some c):=⟨_,gE (by rw[HN.out];exact hlt)⟩
  obtain⟨ad,rfl,hl⟩:=HR.out kk c HC.out;obtain⟨d0,d1,d2⟩:=hl wr BW.out;clear hl;go_upto_region 5 with fail;obtain⟨W1,hW1⟩:∃W1,wr.alloc (.cells #[I6 c.file,I6 c.idx,I6 c.fr] 83)=W1:=⟨_,rfl⟩;have HG1:=gT hW1 BW
  have X1:=yA hW1 XW
  have M1:Hid (QX enK W1 (w.heap.size+1) (Jr (m.ca.take kk))):=dD<|by rw[<-hW1];exact MW.grew (za _ _)
  have C1:=xA hW1
  rw[hW1];clear hW1 d0 d1 d2;obtain⟨pb,HPB⟩:∃pb,Hid (wr.heap.size=pb):=⟨_,rfl⟩;rw[HPB.out]at C1⊢;obtain⟨H,HH⟩:∃H,Hid (Jr (m.ca.take kk)=H):=⟨_,rfl⟩;rw[HH.out]at M1;obtain⟨hb0,hb1⟩:0<=H (1,c.fr)/\H (1,c.fr)<=140737488355328:=by rw[<-HH.out];exact HC0 kk (1,c.fr)
  obtain⟨I,hI⟩:∃I:World->Prop,I=fun u=>QX enK u (w.heap.size+1) H/\Box u pb [I6 c.file,I6 c.idx,I6 c.fr]/\Box u w.heap.size [vf.x,I6 m.hand,vs.x,vsb.x,vsq.x,vdb.x,vdq.x,vfl.x,I6 m.cnt,.slice (some ad) can cac,.slice spa spn spc]/\zc w u:=⟨_,rfl⟩
  have HI:Hid (∀u,I u↔QX enK u (w.heap.size+1) H/\Box u pb [I6 c.file,I6 c.idx,I6 c.fr]/\Box u w.heap.size [vf.x,I6 m.hand,vs.x,vsb.x,vsq.x,vdb.x,vdq.x,vfl.x,I6 m.cnt,.slice (some ad) can cac,.slice spa spn spc]/\zc w u):=dD<|fun u=>by rw[hI]
  clear hI;have hx2:∀y:zk I,y.world.cell? ⟨pb,2,none⟩=some (I6 c.fr):=fun y=>((HI _).1 y.holds).2.1.c 2 rfl
  have hlk:∀y:zk I,(Instr.lookup 163 (.map (some (w.heap.size+1))) (.agg #[I6 1,I6 c.fr,.bool false]) false).run prog y.world= .ok (I6 (H (1,c.fr))) y.world:=fun y=>((HI _).1 y.holds).1.look (K:=enK) underlying163 (zl6 _) (1,c.fr)
  have hI0:I W1.drew:=(HI _).2 ⟨M1.grew (gW _),C1.grew (gW _),X1.grew (gW _),HG1.trans (gW _)⟩
  have hne:Nonempty (zk I):=⟨⟨_,hI0⟩⟩;refine qa (I:=I) 8 [(6,⟨fun v=>∃st,v= .tuple #[I6 (H (1,c.fr)),I6 st],fun v w'=>∃st,v= .tuple #[I6 (H (1,c.fr)),I6 st]/\zbo enK w' (w.heap.size+1) H (1,c.fr) st,fun _ _=>True,fun _=>True⟩)] hI0 qu (by kernel_rfl) rfl rfl (by decide) ?hS ?hp ?hpre ?hpr0 ?_
  case hS=>
   intro y hy;simp only[mC,nM,or_false]at hy;subst hy;exact⟨_,0,rfl⟩
  case hp=>
   intro k s j t' hk hj hjk _ v p q hst hpo;obtain⟨rfl,rfl⟩:=zeq hk;obtain⟨rfl,rfl⟩:=zeq hj;exact absurd rfl hjk
  case hpre=>
   intro j t' k s hj hk hjk p q hst hpr;obtain⟨rfl,rfl⟩:=zeq hj;trivial
  case hpr0=>
   intro k t' hk;obtain⟨rfl,rfl⟩:=zeq hk;trivial
  simp only[List.take,List.drop];iterate 6 (refine zh rfl rfl rfl (fun K hK=>?_);go_big_quiet_op;refine hK _ ?_;clear hK)
  refine zz rfl rfl (fun w' hI' hpr hF=>?_) (fun v1 hv=>?_)
  ·obtain⟨i1,i2,i3,i4⟩:=(HI _).1 hI';obtain⟨w2,st,hrun,r1,r2,r3⟩:=i1.entry (K:=enK) underlying163 (zl6 w') (1,c.fr);have hrun':(Instr.mapEntry 163 (.map (some (w.heap.size+1))) (.agg #[I6 1,I6 c.fr,.bool false])).run prog w'= .ok (.tuple #[I6 (H (1,c.fr)),I6 st]) w2:=hrun;clear hx2 hlk hne;refine zP.step (v:= .tuple #[I6 (H (1,c.fr)),I6 st]) (w':=w2) (by simp only[execOp];go_simp) ⟨(HI _).2 ⟨r1.h,i2.grown r2 (i1.ne_box i2),i3.grown r2 (i1.ne_box i3),ze i4 r2 (by omega)⟩,trivial,⟨_,rfl⟩,_,rfl,r1⟩
  obtain⟨st,rfl⟩:=hv;simp only[Act.put,sB,sS,sZ];iterate 1 (refine zh rfl rfl rfl (fun K hK=>?_);go_big_quiet_op;refine hK _ ?_;clear hK)
  refine jc fun W3 hI3 hF=>?_
  obtain⟨i1,i2,i3,i4⟩:=(HI _).1 hI3;obtain⟨st',hst,hE⟩:∃st',(Value.tuple #[I6 (H (1,c.fr)),I6 st])= .tuple #[I6 (H (1,c.fr)),I6 st']/\zbo enK W3 (w.heap.size+1) H (1,c.fr) st':=hF 6;have hE':zbo enK W3 (w.heap.size+1) H (1,c.fr) st:=by
   simp at hst
   rw[hst];exact hE
  have X3:Hid (Box W3 w.heap.size [vf.x,I6 m.hand,vs.x,vsb.x,vsq.x,vdb.x,vdq.x,vfl.x,I6 m.cnt,.slice (some ad) can cac,.slice spa spn spc]):=i3;have HG3:Hid (zc w W3):=i4;have HE3:Hid (zbo enK W3 (w.heap.size+1) H (1,c.fr) st):=hE';clear hx2 hlk hne hF hI3 i1 i2 i3 i4 hE hst hE' hI0;refine zan (K:=enK) rfl 163 (.tmp 19) (.tmp 26) (.tmp 24) rfl (w.heap.size+1) H (1,c.fr) st HE3 rfl rfl (by go_num) ?_
  intro W4 m4 hg4 _;have X4:Hid (Box W4 w.heap.size [vf.x,I6 m.hand,vs.x,vsb.x,vsq.x,vdb.x,vdq.x,vfl.x,I6 m.cnt,.slice (some ad) can cac,.slice spa spn spc]):=X3.grown hg4 (by omega)
  have HG4:Hid (zc w W4):=dD<|ze HG3 hg4 (by omega)
  have M4:Hid (QX enK W4 (w.heap.size+1) (Jr (m.ca.take (kk+1)))):=dD<|m4.congr fun k=>by rw[qt HC.out,zg4,<-HH.out];rfl
  clear m4 hg4 hb0 hb1;go_wp2
  go_roundg (can -(kk+1))
  case measure=>omega
  exact⟨kk+1,by omega,by omega,by go_num,HG4,X4,M4⟩
 have hltz:¬(kk:Int)< (can:Int):=by omega
 have:kk=can:=by omega
 subst this;have MA1:Hid (QX enK wr (w.heap.size+1) (qA m 0 [] zdg)):=dD<|MW.congr fun k=>by
  rw[List.take_of_length_le (by rw[HN.out];exact nR _)]
  exact zid m zdg k
 have x10:=XW.c 10 rfl;go_wp2;clear x10;have HBW:Hid (zc w wr):=BW
 go_loopg [31] spn (fun gg s31 wr=>∃i:Nat,i<=spn/\spn - i<=gg/\s31=I6 i/\Hid (zc w wr)/\Hid (QX enK wr (w.heap.size+1) (qA m i [] zdg)))
 case atStart=>exact⟨0,nZ _,by omega,rfl,HBW,MA1⟩
 obtain⟨i,hi,hg2,rfl,BW,MW⟩:=hrel
 by_cases hlt2:i<spn
 ·have hltz2:(i:Int)< (spn:Int):=by omega
  obtain⟨s,HS⟩:∃s,Hid (m.sp[i]? =some s):=⟨_,gE (by rw[HNS.out];exact hlt2)⟩
  obtain⟨x,HX⟩:∃x,Hid (xs[i]? =some x):=⟨_,gE (by rw[HXL.out,HNS.out];exact hlt2)⟩
  have HAT:Hid (qr w x s):=HSP.out i x s HX HS.out;obtain⟨ad,rfl,hl⟩:=HRS.out i x HX.out;obtain⟨d0,d1,d2,d3,d4,d5,d6,d7,d8,d9⟩:=hl wr BW.out;clear hl;go_upto_region 10 with fail;obtain⟨W1,hW1⟩:∃W1,wr.alloc (.cells #[.bool x.live,x.ar.x,x.t0.x,x.t1.x,x.t2.x,x.t3.x,x.t4.x,x.t5.x,x.t6.x,x.t7.x] 65)=W1:=⟨_,rfl⟩;have HG1:=gT hW1 BW
  have M1:Hid (QX enK W1 (w.heap.size+1) (qA m i [] s)):=dD<|by rw[<-hW1];exact(MW.grew (za _ _)).congr fun k=>by unfold qA;simp
  have S1:=xA hW1
  rw[hW1];clear hW1 d0 d1 d2 d3 d4 d5 d6 d7 d8 d9;obtain⟨pb,HPB⟩:∃pb,Hid (wr.heap.size=pb):=⟨_,rfl⟩;rw[HPB.out]at S1⊢;have hcall:Calls prog 92 #[.agg #[x.t0.x,x.t1.x,x.t2.x,x.t3.x,x.t4.x,x.t5.x,x.t6.x,x.t7.x]] W1 fun e w'=>∃v,e= .returned v/\zb blE W1.heap.size w' v (jm s.tb JD 64)/\zc W1 w':=J8 x.tab s.tb W1 (HAT.grew HG1).tb
  have s2:=S1.c 2 rfl;have s3:=S1.c 3 rfl;have s4:=S1.c 4 rfl;have s5:=S1.c 5 rfl;have s6:=S1.c 6 rfl;have s7:=S1.c 7 rfl;have s8:=S1.c 8 rfl;have s9:=S1.c 9 rfl;go_wp2_with fail;refine hcall.mono ?_;clear hcall s2 s3 s4 s5 s6 s7 s8 s9;rintro e' W2 ⟨pv,rfl,ow2,hg2'⟩;have HG2:=dD (HG1.trans hg2');have M2:=dD (M1.grew hg2');have S2:=dD (S1.grew hg2');have HW1L:Hid (w.heap.size<=W1.heap.size):=show _<=_ from bS HG1.out
  clear hg2';obtain⟨pa,pc,rfl⟩:=ow2.form;have hq0:=ow2.at.short;rw[QI]at ow2 hq0⊢;rw[List.length_map]at ow2 hq0⊢;obtain⟨q,HQ⟩:∃q,Hid ((qz s).length=q):=⟨_,rfl⟩;rw[HQ.out]at ow2 hq0⊢;have OW2:Hid (zb blE W1.heap.size W2 (.slice pa q pc) ((qz s).map fun(n:Nat)=>(n:Int))):=ow2
  have hq64:q<=64:=by rw[<-HQ.out];exact zcM s
  clear ow2;go_wp2
  go_loopg [39] q (fun gg s39 wr=>∃j:Nat,j<=q/\q - j<=gg/\s39=I6 j/\Hid (zc w wr)/\Hid (zb blE W1.heap.size wr (.slice pa q pc) ((qz s).map fun(n:Nat)=>(n:Int)))/\Hid (Box wr pb [.bool x.live,x.ar.x,x.t0.x,x.t1.x,x.t2.x,x.t3.x,x.t4.x,x.t5.x,x.t6.x,x.t7.x])/\Hid (QX enK wr (w.heap.size+1) (qA m i ((qz s).take j) s)))
  case atStart=>exact⟨0,nZ _,by omega,rfl,HG2,OW2,S2,by rw[List.take_zero];exact M2⟩
  obtain⟨j,hj,hg3,rfl,BW,OW,SW,MW⟩:=hrel
  by_cases hlt3:j<q
  ·have hltz3:(j:Int)< (q:Int):=by omega
   obtain⟨n,HNI⟩:∃n,Hid ((qz s)[j]? =some n):=⟨_,gE (by rw[HQ.out];exact hlt3)⟩
   have hn64:n<64:=zed HNI.out;have HTS:Hid ((qz s).take (j+1)=(qz s).take j++ [n]):=qt HNI.out;obtain⟨_,_,heq,hnr⟩:=OW.at.nums;simp only[vJ]at heq;obtain⟨ad2,had2,hl2⟩:=hnr j (n:Int) (by rw[List.getElem?_map,HNI.out];rfl)
   have e0:=hl2 wr (zc.refl _);rw[<-heq.1]at had2;subst had2;clear hl2 heq hnr;have hcg:Calls prog 65 #[.agg #[x.t0.x,x.t1.x,x.t2.x,x.t3.x,x.t4.x,x.t5.x,x.t6.x,x.t7.x],I6 (n:Int)] wr fun e w'=>e= .returned (enV (zO s n))/\zc wr w':=by
    have:=zaE x.tab s.tb (n:Int) wr (HAT.grew BW).tb;rw[zdE hn64]at this;exact this
   obtain⟨en,HEN⟩:∃en,Hid (zO s n=en):=⟨_,rfl⟩;rw[HEN.out]at hcg;have s2:=SW.c 2 rfl;have s3:=SW.c 3 rfl;have s4:=SW.c 4 rfl;have s5:=SW.c 5 rfl;have s6:=SW.c 6 rfl;have s7:=SW.c 7 rfl;have s8:=SW.c 8 rfl;have s9:=SW.c 9 rfl;go_wp2_with fail;refine hcg.mono ?_;clear hcg e0 s2 s3 s4 s5 s6 s7 s8 s9;rintro e' W4 ⟨rfl,hg4⟩;have HG4:=dD (BW.trans hg4);have OW4:=dD (OW.grew hg4)
   have S4:=dD (SW.grew hg4);have M4:=dD (MW.grew hg4);clear hg4;unfold enV;go_upto_region 14 with fail;obtain⟨W5,hW5⟩:∃W5,W4.alloc (.cells #[I6 en.kind,I6 en.n,.bool en.wr] 67)=W5:=⟨_,rfl⟩;have HG5:=gT hW5 HG4
   have OW5:Hid (zb blE W1.heap.size W5 (.slice (some ad2) q pc) ((qz s).map fun(n:Nat)=>(n:Int))):=dD<|by rw[<-hW5];exact OW4.grew (za _ _)
   have S5:=yA hW5 S4
   have M5:Hid (QX enK W5 (w.heap.size+1) (qA m i ((qz s).take j) s)):=dD<|by rw[<-hW5];exact M4.grew (za _ _)
   have E5:=xA hW5
   rw[hW5];clear hW5;obtain⟨pe,HPE⟩:∃pe,Hid (W4.heap.size=pe):=⟨_,rfl⟩;rw[HPE.out]at E5⊢;obtain⟨H,HH⟩:∃H,Hid (qA m i ((qz s).take j) s=H):=⟨_,rfl⟩;rw[HH.out]at M5;obtain⟨hb0,hb1⟩:0<=H (en.kind,en.n)/\H (en.kind,en.n)<=140737488360000:=by rw[<-HH.out];exact HH0 i _ s (en.kind,en.n) (by simp;omega)
   obtain⟨I,hI⟩:∃I:World->Prop,I=fun u=>QX enK u (w.heap.size+1) H/\Box u pe [I6 en.kind,I6 en.n,.bool en.wr]/\Box u pb [.bool x.live,x.ar.x,x.t0.x,x.t1.x,x.t2.x,x.t3.x,x.t4.x,x.t5.x,x.t6.x,x.t7.x]/\zb blE W1.heap.size u (.slice (some ad2) q pc) ((qz s).map fun(n:Nat)=>(n:Int))/\zc w u:=⟨_,rfl⟩
   have HI:Hid (∀u,I u↔QX enK u (w.heap.size+1) H/\Box u pe [I6 en.kind,I6 en.n,.bool en.wr]/\Box u pb [.bool x.live,x.ar.x,x.t0.x,x.t1.x,x.t2.x,x.t3.x,x.t4.x,x.t5.x,x.t6.x,x.t7.x]/\zb blE W1.heap.size u (.slice (some ad2) q pc) ((qz s).map fun(n:Nat)=>(n:Int))/\zc w u):=dD<|fun u=>by rw[hI]
   clear hI;have hx0:∀y:zk I,y.world.cell? ⟨pe,0,none⟩=some (I6 en.kind):=fun y=>((HI _).1 y.holds).2.1.c 0 rfl
   have hx1:∀y:zk I,y.world.cell? ⟨pe,1,none⟩=some (I6 en.n):=fun y=>((HI _).1 y.holds).2.1.c 1 rfl
   have hlk:∀y:zk I,(Instr.lookup 163 (.map (some (w.heap.size+1))) (.agg #[I6 en.kind,I6 en.n,.bool false]) false).run prog y.world= .ok (I6 (H (en.kind,en.n))) y.world:=fun y=>((HI _).1 y.holds).1.look (K:=enK) underlying163 (zl6 _) (en.kind,en.n)
   have hI0:I W5.drew:=(HI _).2 ⟨M5.grew (gW _),E5.grew (gW _),S5.grew (gW _),OW5.grew (gW _),HG5.trans (gW _)⟩
   have hne:Nonempty (zk I):=⟨⟨_,hI0⟩⟩;refine qa (I:=I) 10 [(8,⟨fun v=>∃st,v= .tuple #[I6 (H (en.kind,en.n)),I6 st],fun v w'=>∃st,v= .tuple #[I6 (H (en.kind,en.n)),I6 st]/\zbo enK w' (w.heap.size+1) H (en.kind,en.n) st,fun _ _=>True,fun _=>True⟩)] hI0 qu (by kernel_rfl) rfl rfl (by decide) ?hS ?hp ?hpre ?hpr0 ?_
   case hS=>
    intro y hy;simp only[mC,nM,or_false]at hy;subst hy;exact⟨_,0,rfl⟩
   case hp=>
    intro k s j t' hk hj hjk _ v p q hst hpo;obtain⟨rfl,rfl⟩:=zeq hk;obtain⟨rfl,rfl⟩:=zeq hj;exact absurd rfl hjk
   case hpre=>
    intro j t' k s hj hk hjk p q hst hpr;obtain⟨rfl,rfl⟩:=zeq hj;trivial
   case hpr0=>
    intro k t' hk;obtain⟨rfl,rfl⟩:=zeq hk;trivial
   simp only[List.take,List.drop];iterate 8 (refine zh rfl rfl rfl (fun K hK=>?_);go_big_quiet_op;refine hK _ ?_;clear hK)
   refine zz rfl rfl (fun w' hI' hpr hF=>?_) (fun v1 hv=>?_)
   ·obtain⟨i1,i2,i3,i4,i5⟩:=(HI _).1 hI';obtain⟨w2,st,hrun,r1,r2,r3⟩:=i1.entry (K:=enK) underlying163 (zl6 w') (en.kind,en.n);have hrun':(Instr.mapEntry 163 (.map (some (w.heap.size+1))) (.agg #[I6 en.kind,I6 en.n,.bool false])).run prog w'= .ok (.tuple #[I6 (H (en.kind,en.n)),I6 st]) w2:=hrun;clear hx0 hx1 hlk hne;refine zP.step (v:= .tuple #[I6 (H (en.kind,en.n)),I6 st]) (w':=w2) (by simp only[execOp];go_simp) ⟨(HI _).2 ⟨r1.h,i2.grown r2 (i1.ne_box i2),i3.grown r2 (i1.ne_box i3),i4.grown r2 (i1.ne_own i4),ze i5 r2 (by omega)⟩,trivial,⟨_,rfl⟩,_,rfl,r1⟩
   obtain⟨st,rfl⟩:=hv;simp only[Act.put,sB,sS,sZ];iterate 1 (refine zh rfl rfl rfl (fun K hK=>?_);go_big_quiet_op;refine hK _ ?_;clear hK)
   refine jc fun W6 hI6 hF=>?_
   obtain⟨i1,i2,i3,i4,i5⟩:=(HI _).1 hI6;obtain⟨st',hst,hE⟩:∃st',(Value.tuple #[I6 (H (en.kind,en.n)),I6 st])= .tuple #[I6 (H (en.kind,en.n)),I6 st']/\zbo enK W6 (w.heap.size+1) H (en.kind,en.n) st':=hF 8;have hE':zbo enK W6 (w.heap.size+1) H (en.kind,en.n) st:=by
    simp at hst
    rw[hst];exact hE
   have S6:Hid (Box W6 pb [.bool x.live,x.ar.x,x.t0.x,x.t1.x,x.t2.x,x.t3.x,x.t4.x,x.t5.x,x.t6.x,x.t7.x]):=i3;have OW6:Hid (zb blE W1.heap.size W6 (.slice (some ad2) q pc) ((qz s).map fun(n:Nat)=>(n:Int))):=i4
   have HG6:Hid (zc w W6):=i5;have M6:Hid (QX enK W6 (w.heap.size+1) H):=i1;have HE6:Hid (zbo enK W6 (w.heap.size+1) H (en.kind,en.n) st):=hE';clear hx0 hx1 hlk hne hF hI6 i1 i2 i3 i4 i5 hE hst hE' hI0;refine zan (K:=enK) rfl 163 (.tmp 47) (.tmp 56) (.tmp 54) rfl (w.heap.size+1) H (en.kind,en.n) st HE6 rfl rfl (by go_num) ?_
   intro W7 m7 hg7 _;have S7:Hid (Box W7 pb [.bool x.live,x.ar.x,x.t0.x,x.t1.x,x.t2.x,x.t3.x,x.t4.x,x.t5.x,x.t6.x,x.t7.x]):=S6.grown hg7 (M6.ne_box S6);have OW7:Hid (zb blE W1.heap.size W7 (.slice (some ad2) q pc) ((qz s).map fun(n:Nat)=>(n:Int))):=OW6.grown hg7 (M6.ne_own OW6)
   have HG7:Hid (zc w W7):=dD<|ze HG6 hg7 (by omega)
   have M7:Hid (QX enK W7 (w.heap.size+1) (qA m i ((qz s).take (j+1)) s)):=dD<|m7.congr fun k=>by rw[HTS.out,zia,HEN.out,HH.out];rfl
   clear m7 hg7 hb0 hb1;go_wp2
   go_roundg (q -(j+1))
   case measure=>omega
   exact⟨j+1,by omega,by omega,by go_num,HG7,OW7,S7,M7⟩
  have hltz3:¬(j:Int)< (q:Int):=by omega
  have:j=q:=by omega
  subst this;have M8:Hid (QX enK wr (w.heap.size+1) (qA m (i+1) [] zdg)):=dD<|MW.congr fun k=>by
   rw[List.take_of_length_le (by rw[HQ.out];exact nR _)]
   exact zib m i s zdg HS k
  go_wp2
  go_roundg (spn -(i+1))
  case measure=>omega
  exact⟨i+1,by omega,by omega,by go_num,BW,M8⟩
 have hltz2:¬(i:Int)< (spn:Int):=by omega
 have:i=spn:=by omega
 subst this;have M9:Hid (QX enK wr (w.heap.size+1) (qA m m.sp.length [] zdg)):=dD<|by rw[HNS.out];exact MW.out
 go_wp2;go_ret;exact⟨_,rfl,M9,BW⟩
def qK (fl:List Fl) (i:Nat) (bl:List Int):List Int:=(zaj (fl.take i))++bl
theorem zaa {n:Nat} {g h:List Int} (e:∀i:Nat,i<n->g.contains (i:Int)=h.contains (i:Int)):qD n g=qD n h:=by
 unfold qD
 apply List.map_congr_left
 intro i hi;rw[e i (List.mem_range.1 hi)]
theorem zhc (fl:List Fl) (i:Nat) (bl:List Int) {b:Int} (hb:b<0) (n:Nat):qD n (qK fl i (bl++ [b]))=qD n (qK fl i bl):=zaa fun j _=>by
 unfold qK;have:¬(j:Int)=b:=by omega
 simp[this]
theorem ziu (fl:List Fl) (i:Nat) (bl:List Int) (b:Nat) (n:Nat):qD n ((b:Int) :: qK fl i bl)=qD n (qK fl i (bl++ [(b:Int)])):=zaa fun j _=>by
 unfold qK;rw[Bool.eq_iff_iff];simp only[List.contains_eq_mem,mC,List.mem_append,nM,or_false,decide_eq_true_eq];constructor
 ·rintro(h|h|h)
  ·exact .inr (.inr h)
  ·exact .inl h
  exact .inr (.inl h)
 rintro(h|h|h)
 ·exact .inr (.inl h)
 ·exact .inr (.inr h)
 exact .inl h
theorem zhd {fl:List Fl} {f:Fl} (hf:fl[i]? =some f):qK fl i f.bl=qK fl (i+1) []:=by
 unfold qK zaj;rw[List.take_add_one,hf];simp
theorem ziv (fl:List Fl) (b:Int):(qK fl fl.length []).contains b=qN fl b:=by
 unfold qK zaj qN;rw[List.take_length,List.append_nil,Bool.eq_iff_iff];simp
theorem zl7:(Tryz.prog.info? 156).map (·.size)=some 80:=by kernel_rfl
theorem zen (n:Nat) (g:List Int):∀v∈qD n g,v.oneCell'=true:=fun v hv=>by
 unfold qD at hv;obtain⟨i,_,rfl⟩:=List.mem_map.1 hv;rfl
theorem zaw (n:Nat) (g:List Int):(qD n g).length=n:=by simp[qD]
theorem zcb (v:Value) (fl:List Fl) (cnt:Int) (w:World) (hv:qL w v fl) (hst:stW fl cnt=0):
  Calls prog 88 #[.agg #[v,I6 cnt]] w fun e w'=>e= .returned (.agg (qD 80 (qK fl fl.length [])).toArray)/\zc w w':=by
 have hz:=zaR;obtain⟨a,c,rfl,hbig,hrow⟩:=hv.rows;have HR:Hid (jZ w a fl):=hrow;clear hrow hv;have HB:Hid (∀f∈fl,∀b∈f.bl,b=-1\/(0<=b/\b<80)):=show∀f∈fl,_ from fun f hf b hb=>by
  obtain⟨⟨_,_,h80⟩,h2,_⟩:=(jx fl cnt).1 hst
  rcases(h2 f hf).2.2 b hb with h|h
  ·exact .inl h
  exact .inr (by omega)
 clear hst;obtain⟨n,HN⟩:∃n,Hid (fl.length=n):=⟨_,rfl⟩;rw[HN.out]at hbig⊢;obtain⟨W0,hW0⟩:∃W0,((w.alloc (.cells #[.slice a n c,I6 cnt] 36)).alloc (.cells zdS 156)).alloc (.cells zdS 156)=W0:=⟨_,rfl⟩;have HG0:Hid (zc w W0):=dD<|by rw[<-hW0];exact((za _ _).trans (za _ _)).trans (za _ _)
 have X0:Hid (Box W0 w.heap.size [.slice a n c,I6 cnt]):=dD<|by rw[<-hW0];exact((Box.top _ _ _ rfl).alloc _).alloc _
 have Y0:Hid (Box W0 (w.heap.size+1) (qD 80 [])):=dD<|by rw[<-hW0,zbU];exact(Box.top _ (List.replicate 80 (.bool false)) _ (by simp)).alloc _
 have Z0:Hid (Box W0 (w.heap.size+1+1) (qD 80 (qK fl 0 []))):=dD<|by
  have:qD 80 (qK fl 0 [])=qD 80 []:=zaa fun i _=>by simp[qK,zaj]
  rw[<-hW0,this,zbU];exact Box.top _ (List.replicate 80 (.bool false)) _ (by simp)
 have HW0:Hid (_=W0):=hW0;clear hW0
 go_enter func88,ntmps88
 go_upto_region 2 with fail;rw[HW0.out];clear hz;have x0:=X0.c 0 rfl;go_wp2;clear x0
 go_loopg [5,11] n (fun gg _ s11 wr=>∃i:Nat,i<=n/\n - i<=gg/\s11=I6 i/\Hid (zc w wr)/\Hid (Box wr (w.heap.size+1) (qD 80 []))/\Hid (Box wr (w.heap.size+1+1) (qD 80 (qK fl i []))))
 case atStart=>exact⟨0,nZ _,by omega,rfl,HG0,Y0,Z0⟩
 obtain⟨i,hi,hgg,rfl,BW,YW,ZW⟩:=hrel
 by_cases hlt:i<n
 ·have hltz:(i:Int)< (n:Int):=by omega
  obtain⟨f,HF⟩:∃f,Hid (fl[i]? =some f):=⟨_,gE (by rw[HN.out];exact hlt)⟩
  obtain⟨ad,rfl,xa,xc,hr2,hl⟩:=HR.out i f HF.out;obtain⟨d0,d1⟩:=hl wr BW.out;obtain⟨_,_,heq,hnr⟩:=hr2.nums;have hq:=hr2.short;have HNR:Hid (zak w xa f.bl):=dD<|by
   simp only[vJ]at heq;rw[heq.1];exact hnr
  clear heq hnr hr2 hl;obtain⟨q,HQ⟩:∃q,Hid (f.bl.length=q):=⟨_,rfl⟩;rw[HQ.out]at d1 hq;go_upto_region 5 with fail;obtain⟨W1,hW1⟩:∃W1,wr.alloc (.cells #[I6 f.size,.slice xa q xc] 71)=W1:=⟨_,rfl⟩;have HG1:=gT hW1 BW
  have F1:=xA hW1
  have Y1:=yA hW1 YW
  have Z1:=yA hW1 ZW
  rw[hW1];clear hW1 d0 d1;have f1:=F1.c 1 rfl;go_wp2;clear f1;have HBW:Hid (zc w wr):=BW
  go_loopg [7,18] q (fun gg _ s18 wr=>∃j:Nat,j<=q/\q - j<=gg/\s18=I6 j/\Hid (zc w wr)/\Hid (Box wr (w.heap.size+1) (qD 80 []))/\Hid (Box wr (w.heap.size+1+1) (qD 80 (qK fl i (f.bl.take j)))))
  case atStart=>exact⟨0,nZ _,by omega,rfl,HG1,Y1,by rw[List.take_zero];exact Z1⟩
  obtain⟨j,hj,hg2,rfl,BW,YW,ZW⟩:=hrel
  by_cases hlt2:j<q
  ·have hltz2:(j:Int)< (q:Int):=by omega
   obtain⟨b,HBJ⟩:∃b,Hid (f.bl[j]? =some b):=⟨_,gE (by rw[HQ.out];exact hlt2)⟩
   obtain⟨ad2,rfl,hl2⟩:=HNR.out j b HBJ.out;have e0:=hl2 wr BW.out;have HRB:Hid (b=-1\/(0<=b/\b<80)):=HB.out f (mG HF) b (mG HBJ);have HTS:Hid (f.bl.take (j+1)=f.bl.take j++ [b]):=qt HBJ.out;clear hl2
   by_cases hb:0<=b
   ·obtain⟨k,rfl⟩:∃k:Nat,b=(k:Int):=⟨b.toNat,by omega⟩
    have hk80:k<80:=by have:=HRB.out;omega
    have z0:=ZW.c k (QM _ hk80);have zf:=ZW.f;have Z2:Hid (Box (wr.setCell ⟨w.heap.size+1+1,k,none⟩ (.bool true)) (w.heap.size+1+1) (qD 80 (qK fl i (f.bl.take (j+1))))):=dD<|by
     rw[HTS.out,<-ziu,<-zem _ hk80];exact ZW.set k _
    have Y2:Hid (Box (wr.setCell ⟨w.heap.size+1+1,k,none⟩ (.bool true)) (w.heap.size+1) (qD 80 [])):=dD<|YW.other (by simp) _
    have G2:Hid (zc w (wr.setCell ⟨w.heap.size+1+1,k,none⟩ (.bool true))):=dD<|zC BW (by simp;omega) _
    go_wp2
    go_roundg (q -(j+1))
    case measure=>omega
    exact⟨j+1,by omega,by omega,by go_num,G2,Y2,Z2⟩
   have Z2:Hid (Box wr (w.heap.size+1+1) (qD 80 (qK fl i (f.bl.take (j+1))))):=dD<|by
    rw[HTS.out,zhc _ _ _ (by omega)]
    exact ZW.out
   go_wp2
   go_roundg (q -(j+1))
   case measure=>omega
   exact⟨j+1,by omega,by omega,by go_num,BW,YW,Z2⟩
  have hltz2:¬(j:Int)< (q:Int):=by omega
  have:j=q:=by omega
  subst this;have Z2:Hid (Box wr (w.heap.size+1+1) (qD 80 (qK fl (i+1) []))):=dD<|by
   have h1:=ZW.out;rw[List.take_of_length_le (by rw[HQ.out];exact nR _),zhd HF.out]at h1
   exact h1
  go_wp2
  go_roundg (n -(i+1))
  case measure=>omega
  exact⟨i+1,by omega,by omega,by go_num,BW,YW,Z2⟩
 have hltz:¬(i:Int)< (n:Int):=by omega
 have:i=n:=by omega
 subst this;obtain⟨ms,HMS⟩:∃ms,Hid (qD 80 (qK fl i [])=ms):=⟨_,rfl⟩;have HML:Hid (ms.length=80):=dD<|by rw[<-HMS.out];exact zaw _ _
 have HMO:Hid (∀v∈ms,v.oneCell'=true):=dD<|by rw[<-HMS.out];exact zen _ _
 rw[HMS.out]at ZW;go_upto_region 12 with fail
 go_wp2_with (first | (refine zK rfl 156 (.tmp 3) rfl (w.heap.size+1+1) rfl ZW underlying156 rfl (by rw[HML.out];exact zl7) ?_) | (refine zn rfl 156 (.tmp 2) (.tmp 28) rfl (w.heap.size+1) rfl ms rfl YW (by rw[HML.out,zaw]) (by rw[zaw];exact zl7) HMO.out ?_))
 intro W5 hb5 hg5 _;have G5:Hid (zc w W5):=dD<|ze BW hg5 (by omega)
 go_wp2;refine bodyPost_ret (zT rfl _ rfl hb5 underlying156 rfl (by rw[HML.out];exact zl7)) rfl ⟨by rw[<-HMS.out],G5⟩
theorem zdR (b0 b1 b2 b3 b4 b5 b6 b7:Int):zbP ⟨b0,b1,b2,b3,b4,b5,b6,b7⟩ ⟨0,0,0,0,0,0,0,0⟩=([b0,b1,b2,b3,b4,b5,b6,b7] == zm):=by
 rw[Bool.eq_iff_iff,zbO]
 simp[zm]
def jA (m:Ma) (b:Nat):Bool:=!qN m.fl (b:Int) && !(m.db.getD b [] == zm)
theorem zcf (h:∀b,b<m.db.length->jA m b=false):j2 m=0:=by
 unfold j2;rw[if_neg];rw[List.any_eq_true];rintro⟨b,hb,hx⟩;have:=h b (List.mem_range.1 hb);unfold jA at this;rw[this]at hx;cases hx
theorem zcZ (hb:b<m.db.length) (h:jA m b=true):j2 m=7:=by
 unfold j2;rw[if_pos];rw[List.any_eq_true];exact⟨b,List.mem_range.2 hb,h⟩
theorem zd9 (h:∀(j:Nat) q,m.dq[j]? =some q->qN m.fl q.1=true):jS m=0:=by
 unfold jS;rw[if_neg];rw[List.any_eq_true];rintro⟨q,hq,hx⟩;obtain⟨j,hj⟩:=List.getElem?_of_mem hq;rw[h j q hj]at hx;cases hx
theorem zcK {q:Int × List Int} (hq:m.dq[j]? =some q) (h:qN m.fl q.1=false):jS m=7:=by
 unfold jS;rw[if_pos];rw[List.any_eq_true];exact⟨q,mG hq,by rw[h];rfl⟩
theorem ze6 {n:Nat} {qs:List (Int × List Int)} (h:zL n qs=0):n<=80/\∀(j:Nat) q,qs[j]? =some q->0<=q.1/\q.1<n:=by
 unfold zL at h
 split at h
 ·cases h
 split at h
 ·cases h
 split at h
 ·cases h
 rename_i h1 h2 h3
 refine⟨by omega,fun j q hq=>?_⟩
 have:(!jO q.1 n)=false:=by
  cases e:(!jO q.1 n)with
  | false=>rfl
  | true=>exact absurd (List.any_eq_true.2 ⟨q,mG hq,e⟩) h3
 simp[jO]at this
 exact this
theorem zjO (hb:b<80):(qD 80 (qK m.fl m.fl.length []))[b]? =some (.bool (qN m.fl (b:Int))):=by
 rw[QM _ hb,ziv]
theorem zcs (V:MaV) (m:Ma) (w:World) (hm:zH w V m) (h1:zeY m):
  Calls prog 35 #[.agg (mL V m).toArray] w fun e w'=>e= .returned (I6 (zg (Ji m)))/\zc w w':=by
 obtain⟨vf,vs,vsb,vsq,⟨dba,dbn,dbc⟩,⟨dqa,dqn,dqc⟩,vfl,vca,vsp⟩:=V;dsimp only[mL];have hz:=zaR;obtain⟨-,n2,n3,-,n5,n6,-⟩:=hm.ns;dsimp only at n2 n3 n5 n6;have HFB:Hid (∀W,zc w W->Calls prog 88 #[.agg #[vfl.x,I6 m.cnt]] W fun e w'=>e= .returned (.agg (qD 80 (qK m.fl m.fl.length [])).toArray)/\zc W w'):=dD<|fun W hW=>zcb _ m.fl m.cnt W (hm.grew hW).fl h1.st
 have HPG:Hid (QV w dba m.db):=hm.pgs;have HPU:Hid (Ze w dqa m.dq):=hm.puts;obtain⟨h80,hqs⟩:=ze6 h1.dq;have HQS:Hid (∀(j:Nat) q,m.dq[j]? =some q->0<=q.1/\q.1<m.db.length):=hqs;have HN5:Hid (m.db.length=dbn):=n5.symm;have HN6:Hid (m.dq.length=dqn):=n6.symm;have hb6:dqn<=9223372036854775807:=by have:=hm.dq.2.2;omega
 rw[HN5.out]at h80;obtain⟨Z,HZ⟩:∃Z,Hid (zg (Ji m)=Z):=⟨_,rfl⟩;rw[HZ.out];have HZ2:Hid (zg [zcB m,j2 m,jS m]=Z):=HZ.out;have hfit:zcB m=if vs.n≠vsb.n\/m.cnt≠(dbn:Int)then 7 else 0:=by unfold zcB;rw[n2,n3,n5]
 clear hm h1 hqs n2 n3 n5 n6;obtain⟨W0,hW0⟩:∃W0,w.alloc (.cells #[vf.x,I6 m.hand,vs.x,vsb.x,vsq.x,.slice dba dbn dbc,.slice dqa dqn dqc,vfl.x,I6 m.cnt,vca.x,vsp.x] 40)=W0:=⟨_,rfl⟩;have HG0:=gA hW0
 have X0:=xA hW0
 have HS0:Hid (w.heap.size<W0.heap.size):=dD<|by rw[<-hW0];simp
 have HW0:Hid (_=W0):=hW0;clear hW0
 by_cases c1:vsb.n=vs.n
 ·by_cases c2:m.cnt=(dbn:Int)
  ·have HF:Hid (zcB m=0):=dD<|by rw[hfit,if_neg (by omega)]
   have c1e:((vsb.n:Int) !=(vs.n:Int))=false:=by simp[c1]
   have c2e:((dbn:Int) != m.cnt)=false:=by simp[c2]
   have c1f:(vsb.n != vs.n)=false:=by simp[c1]
   have HB0:Hid (∀b,b<m.db.length->jA m b=true->Z=7):=dD<|fun b hb h=>by rw[<-HZ2.out,zJ,if_pos HF.out,zJ,zcZ hb h];rfl
   have HB1:Hid ((∀b,b<m.db.length->jA m b=false)->∀(j:Nat) q,m.dq[j]? =some q->qN m.fl q.1=false->Z=7):=dD<|fun h j q hq hu=>by rw[<-HZ2.out,zJ,if_pos HF.out,zJ,if_pos (zcf h),zJ,zcK hq hu];rfl
   have HB2:Hid ((∀b,b<m.db.length->jA m b=false)->(∀(j:Nat) q,m.dq[j]? =some q->qN m.fl q.1=true)->Z=0):=dD<|fun h h'=>by rw[<-HZ2.out,zJ,if_pos HF.out,zJ,if_pos (zcf h),zJ,zd9 h'];rfl
   have hFB:=HFB.out W0 HG0.out;clear hfit;have HC1:Hid (vsb.n=vs.n):=c1;have HC2:Hid (m.cnt=(dbn:Int)):=c2;clear c1 c2
   go_enter func35,ntmps35
   go_upto_region 1 with fail;rw[HW0.out];have x2:=X0.c 2 rfl;have x3:=X0.c 3 rfl;have x5:=X0.c 5 rfl;have x6:=X0.c 6 rfl;have x7:=X0.c 7 rfl;have x8:=X0.c 8 rfl;go_upto_region 3 with fail;go_wp2_with fail;refine hFB.mono ?_;clear hFB x2 x3 x5 x6 x7 x8;rintro e W1 ⟨rfl,hg1⟩;have HG1:=dD (HG0.trans hg1);have X1:=dD (X0.grew hg1);clear hg1;obtain⟨ms,HMS⟩:∃ms,Hid (qD 80 (qK m.fl m.fl.length [])=ms):=⟨_,rfl⟩;have HML:Hid (ms.length=80):=show _=_ by rw[<-HMS.out];exact zaw _ _
   have HMO:Hid (∀v∈ms,v.oneCell'=true):=dD<|by rw[<-HMS.out];exact zen _ _
   have HMA:Hid (∀b:Nat,b<80->ms[b]? =some (.bool (qN m.fl (b:Int)))):=dD<|fun b hb=>by rw[<-HMS.out];exact zjO hb
   rw[HMS.out];obtain⟨W2,hW2⟩:∃W2,W1.alloc (.cells zdS 156)=W2:=⟨_,rfl⟩;have HG2:=gT hW2 HG1
   have X2:=yA hW2 X1
   have Z2:Hid (Box W2 W1.heap.size (List.replicate 80 (.bool false))):=dD<|by rw[<-hW2];exact Box.top _ (List.replicate 80 (.bool false)) _ rfl
   have HW2:Hid (_=W2):=hW2;clear hW2;have HLT:Hid (w.heap.size<=W1.heap.size):=show _<=_ from bS HG1.out
   have HXL:Hid (w.heap.size<W1.heap.size):=dD<|X1.lt
   go_wp2_with (first | (rw[HW2.out];refine zn rfl 156 (.tmp 3) (.tmp 28) rfl W1.heap.size rfl ms rfl Z2 (by rw[HML.out];simp) (by simpa using zl7) HMO.out ?_))
   intro W3 hb3 hg3 _;have HG3:Hid (zc w W3):=dD<|ze HG2 hg3 HLT.out
   have X3:Hid (Box W3 w.heap.size [vf.x,I6 m.hand,vs.x,vsb.x,vsq.x,.slice dba dbn dbc,.slice dqa dqn dqc,vfl.x,I6 m.cnt,vca.x,vsp.x]):=X2.grown hg3 (by have:=HXL.out;omega)
   have Z3:Hid (Box W3 W1.heap.size ms):=hb3;obtain⟨p3,HP3⟩:∃p3,Hid (W1.heap.size=p3):=⟨_,rfl⟩;rw[HP3.out]at Z3⊢;clear hb3 hg3 hz;have x5:=X3.c 5 rfl;go_wp2;clear x5;obtain⟨n,HN⟩:∃n,Hid (dbn=n):=⟨_,rfl⟩;rw[HN.out]at h80⊢
   go_loopg [33] n (fun gg s33 wr=>∃kk:Nat,kk<=n/\n - kk<=gg/\s33=I6 kk/\Hid (zc w wr)/\Hid (Box wr w.heap.size [vf.x,I6 m.hand,vs.x,vsb.x,vsq.x,.slice dba dbn dbc,.slice dqa dqn dqc,vfl.x,I6 m.cnt,vca.x,vsp.x])/\Hid (Box wr p3 ms)/\Hid (∀b,b<kk->jA m b=false))
   case atStart=>exact⟨0,nZ _,by omega,rfl,HG3,X3,Z3,fun b hb=>absurd hb (nL _)⟩
   obtain⟨kk,hkk,hgg,rfl,BW,XW,ZW,OW⟩:=hrel
   by_cases hlt:kk<n
   ·have hltz:(kk:Int)< (n:Int):=by omega
    have hk80:kk<80:=by omega
    have HKL:Hid (kk<m.db.length):=dD<|by rw[HN5.out,HN.out];exact hlt
    obtain⟨p,HP⟩:∃p,Hid (m.db[kk]? =some p):=⟨_,gE HKL⟩;obtain⟨ad,b0,b1,b2,b3,b4,b5,b6,b7,rfl,rfl,hl⟩:=HPG.out kk p HP.out;have HBD:Hid (jA m kk=(!qN m.fl (kk:Int) && !([b0,b1,b2,b3,b4,b5,b6,b7] == zm))):=dD<|by unfold jA;rw[gD,HP.out];rfl
    obtain⟨d0,d1,d2,d3,d4,d5,d6,d7⟩:=hl wr BW.out;have hqp:=fun W=>Qp 9998 b0 b1 b2 b3 b4 b5 b6 b7 0 0 0 0 0 0 0 0 W
    simp only[zdR]at hqp;obtain⟨U,HU⟩:∃U,Hid (qN m.fl (kk:Int)=U):=⟨_,rfl⟩;have hmu:=HMA.out kk hk80;rw[HU.out]at hmu;rw[HU.out]at HBD;obtain⟨PZ,HPZ⟩:∃PZ,Hid (([b0,b1,b2,b3,b4,b5,b6,b7] == zm)=PZ):=⟨_,rfl⟩;rw[HPZ.out]at hqp HBD;clear hl;go_upto_region 7 with fail;obtain⟨W4,hW4⟩:∃W4,wr.alloc (.cells #[U8 b0,U8 b1,U8 b2,U8 b3,U8 b4,U8 b5,U8 b6,U8 b7] 50)=W4:=⟨_,rfl⟩;have HG4:=gT hW4 BW
    have X4:=yA hW4 XW
    have Z4:=yA hW4 ZW
    have P4:=xA hW4
    rw[hW4];clear hW4 d0 d1 d2 d3 d4 d5 d6 d7;have z0:=Z4.c kk hmu;obtain⟨p0,p1,p2,p3,p4,p5,p6,p7⟩:=P4.c8;clear hmu
    cases U with
    | true=>
     have HB:Hid (jA m kk=false):=dD<|by rw[HBD.out];rfl
     have OW':Hid (∀b,b<kk+1->jA m b=false):=dD<|fun b hb=>by
      by_cases e:b=kk
      ·rw[e];exact HB.out
      exact OW b (by omega)
     clear p0 p1 p2 p3 p4 p5 p6 p7 hqp;go_wp2
     go_roundg (n -(kk+1))
     case measure=>omega
     exact⟨kk+1,by omega,by omega,by go_num,HG4,X4,Z4,OW'⟩
    | false=>
     cases PZ with
     | true=>
      have HB:Hid (jA m kk=false):=dD<|by rw[HBD.out];rfl
      have OW':Hid (∀b,b<kk+1->jA m b=false):=dD<|fun b hb=>by
       by_cases e:b=kk
       ·rw[e];exact HB.out
       exact OW b (by omega)
      go_wp2
      go_roundg (n -(kk+1))
      case measure=>omega
      exact⟨kk+1,by omega,by omega,by go_num,HG4,X4,Z4,OW'⟩
     | false=>
      have HE:Hid (Z=7):=HB0.out kk HKL (by rw[HBD.out];rfl)
      go_wp2;go_ret;exact⟨by rw[HE.out];rfl,HG4⟩
   have hltz:¬(kk:Int)< (n:Int):=by omega
   have:kk=n:=by omega
   subst this;have OA:Hid (∀b,b<m.db.length->jA m b=false):=dD<|fun b hb=>OW.out b (by rw[<-HN.out,<-HN5.out];exact hb)
   have x6:=XW.c 6 rfl;go_wp2;clear x6;obtain⟨n2,HN2⟩:∃n2,Hid (dqn=n2):=⟨_,rfl⟩;rw[HN2.out]at hb6⊢;have HBW:Hid (zc w wr):=BW;have HZW:Hid (Box wr p3 ms):=ZW
   go_loopg [52] n2 (fun gg s52 wr=>∃j:Nat,j<=n2/\n2 - j<=gg/\s52=I6 j/\Hid (zc w wr)/\Hid (Box wr p3 ms)/\Hid (∀(i:Nat) q,i<j->m.dq[i]? =some q->qN m.fl q.1=true))
   case atStart=>exact⟨0,nZ _,by omega,rfl,HBW,HZW,fun i q hi=>absurd hi (nL _)⟩
   obtain⟨j,hj,hg2,rfl,BW,ZW,OW⟩:=hrel
   by_cases hlt2:j<n2
   ·have hltz2:(j:Int)< (n2:Int):=by omega
    obtain⟨q,HQ⟩:∃q,Hid (m.dq[j]? =some q):=⟨_,gE (by rw[HN6.out,HN2.out];exact hlt2)⟩
    obtain⟨ad,mm,b0,b1,b2,b3,b4,b5,b6,b7,rfl,rfl,hl⟩:=HPU.out j q HQ.out;obtain⟨r0,r1⟩:=HQS.out j _ HQ.out;simp only at r0 r1;obtain⟨b,rfl⟩:∃b:Nat,mm=(b:Int):=⟨mm.toNat,by omega⟩
    have hk80:b<80:=by rw[HN5.out,HN.out]at r1;omega
    obtain⟨d0,d1,d2,d3,d4,d5,d6,d7,d8⟩:=hl wr BW.out;obtain⟨U,HU⟩:∃U,Hid (qN m.fl (b:Int)=U):=⟨_,rfl⟩;have hmu:=HMA.out b hk80;rw[HU.out]at hmu;clear hl r0 r1;go_upto_region 13 with fail;obtain⟨W4,hW4⟩:∃W4,wr.alloc (.cells #[I6 (b:Int),U8 b0,U8 b1,U8 b2,U8 b3,U8 b4,U8 b5,U8 b6,U8 b7] 91)=W4:=⟨_,rfl⟩;have HG4:=gT hW4 BW
    have Z4:=yA hW4 ZW
    have P4:=xA hW4
    rw[hW4];clear hW4 d0 d1 d2 d3 d4 d5 d6 d7 d8;have z0:=Z4.c b hmu;have p0:=P4.c 0 rfl;clear hmu
    cases U with
    | true=>
     have OW':Hid (∀(i:Nat) q,i<j+1->m.dq[i]? =some q->qN m.fl q.1=true):=dD<|fun i q hi hq=>by
      by_cases e:i=j
      ·subst e;rw[HQ.out]at hq;cases hq;exact HU.out
      exact OW i q (by omega) hq
     go_wp2
     go_roundg (n2 -(j+1))
     case measure=>omega
     exact⟨j+1,by omega,by omega,by go_num,HG4,Z4,OW'⟩
    | false=>
     have HE:Hid (Z=7):=HB1.out OA j _ HQ HU.out;go_wp2;go_ret;exact⟨by rw[HE.out];rfl,HG4⟩
   have hltz2:¬(j:Int)< (n2:Int):=by omega
   have:j=n2:=by omega
   subst this;have HE:Hid (Z=0):=HB2.out OA fun i q hq=>OW.out i q (by rw[<-HN2.out,<-HN6.out];exact(gS.1 hq).1) hq
   go_wp2;go_ret;exact⟨by rw[HE.out];rfl,BW⟩
  have HE:Hid (Z=7):=dD<|by
   have hf7:zcB m=7:=by rw[hfit,if_pos (.inr c2)]
   rw[<-HZ2.out,zJ,hf7];rfl
  have c1e:((vsb.n:Int) !=(vs.n:Int))=false:=by simp[c1]
  have c1f:(vsb.n != vs.n)=false:=by simp[c1]
  have c2e:((dbn:Int) != m.cnt)=true:=by simp;omega
  clear c1 c2 hfit
  go_enter func35,ntmps35
  go_upto_region 1 with fail;rw[HW0.out];have x2:=X0.c 2 rfl;have x3:=X0.c 3 rfl;have x5:=X0.c 5 rfl;have x8:=X0.c 8 rfl;go_wp2;go_ret;exact⟨by rw[HE.out];rfl,HG0⟩
 have HE:Hid (Z=7):=dD<|by
  have hf7:zcB m=7:=by rw[hfit,if_pos (.inl (fun e=>c1 e.symm))]
  rw[<-HZ2.out,zJ,hf7];rfl
 have c1e:((vsb.n:Int) !=(vs.n:Int))=true:=by simp;omega
 have c1f:(vsb.n != vs.n)=true:=by simp[c1]
 clear c1 hfit
 go_enter func35,ntmps35
 go_upto_region 1 with fail;rw[HW0.out];have x2:=X0.c 2 rfl;have x3:=X0.c 3 rfl;go_wp2;go_ret;exact⟨by rw[HE.out];rfl,HG0⟩
theorem zjK (hca:Jf m none m.ca=0) (k:Nat):frE m k=if(qe m k).r≠qA m m.sp.length [] zdg (1,(k:Int))\/(0<=(qe m k).f/\¬j9 m.ca ((qe m k).f,(qe m k).x)=some (k:Int))then 7 else 0:=by
 unfold frE;rw[zgn m zdg (k:Int) (by decide:(1:Int)≠0),if_pos rfl]
 have:=zg5 hca k
 by_cases h:zS m.ca k=0
 ·have h2:¬j9 m.ca ((qe m k).f,(qe m k).x)=some (k:Int):=fun e=>(this.1 e) h
  simp only[h,h2,not_false_iff,and_true]
 have h2:j9 m.ca ((qe m k).f,(qe m k).x)=some (k:Int):=this.2 h;simp only[h,h2,not_true,and_false]
theorem zhH (m:Ma) (k:Nat):Qo m k=if m.sl.getD k 0≠qA m m.sp.length [] zdg (2,(k:Int))then 7 else 0:=by
 unfold Qo;have h:=zgn m zdg (k:Int) (by decide:(2:Int)≠0)
 have h2:¬(2:Int)=1:=by decide
 rw[if_neg h2,Nat.add_zero]at h;rw[h]
theorem zbE (V:MaV) (m:Ma) (w:World) (hm:zH w V m) (hca:Jf m none m.ca=0) (hsp4:m.sp.length<=4) (htb:∀s∈m.sp,tbW s.tb=0):
  Calls prog 39 #[.agg (mL V m).toArray] w fun e w'=>e= .returned (I6 (Jj m))/\zc w w':=by
 have HWI:Hid (∀W,zc w W->Calls prog 58 #[.agg (mL V m).toArray] W fun e w'=>∃B,e= .returned (.agg #[V.f.x,I6 m.hand,V.s.x,V.sb.x,V.sq.x,V.db.x,V.dq.x,V.fl.x,I6 m.cnt,V.ca.x,V.sp.x,.map (some B)])/\j5 plK w' B (j9 m.ca)/\zc W w'):=dD<|fun W hW=>QE V m W (hm.grew hW)
 have HHO:Hid (∀W,zc w W->Calls prog 94 #[.agg (mL V m).toArray] W fun e w'=>∃B,e= .returned (.map (some B))/\QX enK w' B (qA m m.sp.length [] zdg)/\zc W w'):=dD<|fun W hW=>zfD V m W (hm.grew hW) hsp4 htb
 have HHC:Hid (∀(B k:Nat) W,zc w W->k<m.fs.length->j5 plK W B (j9 m.ca)->Calls prog 95 #[.agg #[V.f.x,I6 m.hand,V.s.x,V.sb.x,V.sq.x,V.db.x,V.dq.x,V.fl.x,I6 m.cnt,V.ca.x,V.sp.x,.map (some B)],I6 (k:Int)] W fun e w'=>e= .returned (.bool (decide (j9 m.ca ((qe m k).f,(qe m k).x)=some (k:Int))))/\zc W w'):=dD<|fun B k W hW hk hM=>zdA V m B k (j9 m.ca) W (hm.grew hW) hk hM
 obtain⟨⟨fa,fn,fc⟩,⟨sa,sn,sc⟩,vsb,vsq,vdb,vdq,vfl,vca,vsp⟩:=V;dsimp only[mL]at HWI HHO HHC⊢;obtain⟨n1,n2,-⟩:=hm.ns;dsimp only at n1 n2;have HFR:Hid (Zu w fa m.fs):=hm.frs;have HSL:Hid (JY w sa m.sl):=hm.sls;have HN1:Hid (m.fs.length=fn):=n1.symm;have HN2:Hid (m.sl.length=sn):=n2.symm;have hb1:fn<=9223372036854775807:=by have:=hm.fs.short;omega
 have hb2:sn<=9223372036854775807:=by have:=hm.sl.short;omega
 have HFE:Hid (∀k:Nat,frE m k=if(qe m k).r≠(qA m m.sp.length [] zdg) (1,(k:Int))\/(0<=(qe m k).f/\¬j9 m.ca ((qe m k).f,(qe m k).x)=some (k:Int))then 7 else 0):=dD<|fun k=>zjK hca k
 clear hm hca hsp4 htb n1 n2;obtain⟨Z,HZ⟩:∃Z,Hid (Jj m=Z):=⟨_,rfl⟩;rw[HZ.out];have HZ1:Hid (∀k:Nat,k<m.fs.length->(∀j:Nat,j<k->frE m j=0)->frE m k=7->Z=7):=dD<|fun k hk h1 h2=>by
  have h3:=zbc hk h1 (by rw[h2];decide)
  rw[<-HZ.out];unfold Jj;rw[h3,h2,if_neg (by decide)]
 have HZ2:Hid ((∀j:Nat,j<m.fs.length->frE m j=0)->∀k:Nat,k<m.sl.length->(∀j:Nat,j<k->Qo m j=0)->Qo m k=7->Z=7):=dD<|fun h0 k hk h1 h2=>by
  have h3:=zbc hk h1 (by rw[h2];decide)
  rw[<-HZ.out];unfold Jj;rw[Zp h0,if_pos rfl,h3,h2]
 have HZ3:Hid ((∀j:Nat,j<m.fs.length->frE m j=0)->(∀j:Nat,j<m.sl.length->Qo m j=0)->Z=0):=dD<|fun h0 h1=>by
  rw[<-HZ.out];unfold Jj;rw[Zp h0,if_pos rfl,Zp h1]
 obtain⟨W0,hW0⟩:∃W0,w.alloc (.cells #[.slice fa fn fc,I6 m.hand,.slice sa sn sc,vsb.x,vsq.x,vdb.x,vdq.x,vfl.x,I6 m.cnt,vca.x,vsp.x] 40)=W0:=⟨_,rfl⟩;have HG0:=gA hW0
 have X0:=xA hW0
 have HW0:Hid (_=W0):=hW0;clear hW0
 go_enter func39,ntmps39
 go_upto_region 1 with fail;rw[HW0.out];have hx0:=X0.gw 0 rfl
 have hx1:=X0.gw 1 rfl
 have hx2:=X0.gw 2 rfl
 have hx3:=X0.gw 3 rfl
 have hx4:=X0.gw 4 rfl
 have hx5:=X0.gw 5 rfl
 have hx6:=X0.gw 6 rfl
 have hx7:=X0.gw 7 rfl
 have hx8:=X0.gw 8 rfl
 have hx9:=X0.gw 9 rfl
 have hx10:=X0.gw 10 rfl
 have hne:Nonempty (zR W0):=⟨⟨_,zc.refl _⟩⟩;refine J3 5 [(1,⟨fun v=>∃B,v= .agg #[.slice fa fn fc,I6 m.hand,.slice sa sn sc,vsb.x,vsq.x,vdb.x,vdq.x,vfl.x,I6 m.cnt,vca.x,vsp.x,.map (some B)],fun v w'=>∃B,v= .agg #[.slice fa fn fc,I6 m.hand,.slice sa sn sc,vsb.x,vsq.x,vdb.x,vdq.x,vfl.x,I6 m.cnt,vca.x,vsp.x,.map (some B)]/\j5 plK w' B (j9 m.ca)⟩),(3,⟨fun v=>∃B,v= .map (some B),fun v w'=>∃B,v= .map (some B)/\QX enK w' B (qA m m.sp.length [] zdg)⟩),(4,⟨fun v=>∃p,v= .pointer (some ⟨p,0,none⟩),fun v w'=>∃p,v= .pointer (some ⟨p,0,none⟩)/\Box w' p [eS,I6 0,eS,eS,eS,eS,eS,eS,I6 0,eS,eS,.map none]/\w.heap.size<=p⟩)] qu (by kernel_rfl) rfl rfl (by decide) ?hS ?hp ?_
 case hS=>
  intro x hx;simp only[mC,nM,or_false]at hx
  rcases hx with rfl|rfl|rfl
  ·exact⟨_,0,rfl⟩
  ·exact⟨_,0,rfl⟩
  exact⟨_,0,rfl⟩
 case hp=>
  intro x hx;simp only[mC,nM,or_false]at hx
  rcases hx with rfl|rfl|rfl
  ·exact fun _ _ _ hg h=>by obtain⟨B,h1,h2⟩:=h;exact⟨B,h1,h2.grew hg⟩
  ·exact fun _ _ _ hg h=>by obtain⟨B,h1,h2⟩:=h;exact⟨B,h1,h2.grew hg⟩
  exact fun _ _ _ hg h=>by obtain⟨p,h1,h2,h3⟩:=h;exact⟨p,h1,h2.grew hg,h3⟩
 simp only[List.take,List.drop];iterate 1 (refine zp rfl rfl rfl (fun K hK=>?_);go_big_quiet_op;refine hK _ ?_;clear hK)
 refine zV rfl rfl (fun w' hg hF=>?_) (fun v1 hv=>?_)
 ·refine zP.call [.agg #[.slice fa fn fc,I6 m.hand,.slice sa sn sc,vsb.x,vsq.x,vdb.x,vdq.x,vfl.x,I6 m.cnt,vca.x,vsp.x]] rfl func58 rfl rfl rfl ?_;refine(HWI w' (HG0.trans hg)).mono ?_;rintro e w'' ⟨B,rfl,hM,hg2⟩;exact⟨_,rfl,hg2,⟨B,rfl⟩,B,rfl,hM⟩
 obtain⟨B1,rfl⟩:=hv;simp only[Act.put,sB,sS,sZ];iterate 1 (refine zp rfl rfl rfl (fun K hK=>?_);go_big_quiet_op;refine hK _ ?_;clear hK)
 refine zV rfl rfl (fun w' hg hF=>?_) (fun v1 hv=>?_)
 ·refine zP.call [.agg #[.slice fa fn fc,I6 m.hand,.slice sa sn sc,vsb.x,vsq.x,vdb.x,vdq.x,vfl.x,I6 m.cnt,vca.x,vsp.x]] rfl func94 rfl rfl rfl ?_;refine(HHO w' (HG0.trans hg)).mono ?_;rintro e w'' ⟨B,rfl,hM,hg2⟩;exact⟨_,rfl,hg2,⟨B,rfl⟩,B,rfl,hM⟩
 obtain⟨B2,rfl⟩:=hv;simp only[Act.put,sB,sS,sZ];refine zV rfl rfl (fun w' hg hF=>?_) (fun v1 hv=>?_)
 ·have hnew:Box (w'.alloc (.cells #[eS,I6 0,eS,eS,eS,eS,eS,eS,I6 0,eS,eS,.map none] 117)) w'.heap.size [eS,I6 0,eS,eS,eS,eS,eS,eS,I6 0,eS,eS,.map none]:=Box.top _ _ _ rfl;have hle:w.heap.size<=w'.heap.size:=bS (HG0.trans hg);clear hx0 hx1 hx2 hx3 hx4 hx5 hx6 hx7 hx8 hx9 hx10 hne;refine zP.step (v:= .pointer (some ⟨w'.heap.size,0,none⟩)) (w':=w'.alloc (.cells #[eS,I6 0,eS,eS,eS,eS,eS,eS,I6 0,eS,eS,.map none] 117)) (by simp only[execOp];go_simp) ⟨za _ _,⟨_,rfl⟩,_,rfl,hnew,hle⟩
 obtain⟨p3,rfl⟩:=hv;simp only[Act.put,sB,sS,sZ];refine je fun W3 hg3 hF=>?_
 obtain⟨B1',he1,hM1⟩:∃B,(Value.agg #[.slice fa fn fc,I6 m.hand,.slice sa sn sc,vsb.x,vsq.x,vdb.x,vdq.x,vfl.x,I6 m.cnt,vca.x,vsp.x,.map (some B1)])= .agg #[.slice fa fn fc,I6 m.hand,.slice sa sn sc,vsb.x,vsq.x,vdb.x,vdq.x,vfl.x,I6 m.cnt,vca.x,vsp.x,.map (some B)]/\j5 plK W3 B (j9 m.ca):=hF 1;obtain⟨B2',he2,hM2⟩:∃B,(Value.map (some B2))= .map (some B)/\QX enK W3 B (qA m m.sp.length [] zdg):=hF 3;obtain⟨p3',he3,hB3,hle3⟩:∃p,(Value.pointer (some ⟨p3,0,none⟩))= .pointer (some ⟨p,0,none⟩)/\Box W3 p [eS,I6 0,eS,eS,eS,eS,eS,eS,I6 0,eS,eS,.map none]/\w.heap.size<=p:=hF 4;have e1:B1'=B1:=by simp at he1;exact he1.symm
 have e2:B2'=B2:=by simp at he2;exact he2.symm
 have e3:p3'=p3:=by simp at he3;exact he3.symm
 subst e1 e2 e3;have M1:Hid (j5 plK W3 B1' (j9 m.ca)):=hM1;have M2:Hid (QX enK W3 B2' (qA m m.sp.length [] zdg)):=hM2;have Y3:Hid (Box W3 p3' [eS,I6 0,eS,eS,eS,eS,eS,eS,I6 0,eS,eS,.map none]):=hB3;have HL3:Hid (w.heap.size<=p3'):=hle3;have HG3:=dD (HG0.trans hg3);have X3:=dD (X0.grew hg3);clear he1 he2 he3 hM1 hM2 hB3 hle3 hg3 hF hx0 hx1 hx2 hx3 hx4 hx5 hx6 hx7 hx8 hx9 hx10 hne;have HXP:Hid (w.heap.size≠p3'):=show _≠_ from fun e=>by
  obtain⟨t1,h1⟩:=X3.out;obtain⟨t2,h2⟩:=Y3.out;rw[<-e,h1]at h2
  simp at h2
 go_wp2_with (refine zn rfl 117 (.tmp 3) (.tmp 10) rfl p3' rfl [.slice fa fn fc,I6 m.hand,.slice sa sn sc,vsb.x,vsq.x,vdb.x,vdq.x,vfl.x,I6 m.cnt,vca.x,vsp.x,.map (some B1')] rfl Y3 rfl (by kernel_rfl) (fun v hv=>by
    simp only[mC,nM,or_false]at hv
    rcases hv with rfl|rfl|rfl|rfl|rfl|rfl|rfl|rfl|rfl|rfl|rfl|rfl <;> rfl) ?_)
 intro W4 hb4 hg4 _;have Y4:Hid (Box W4 p3' [.slice fa fn fc,I6 m.hand,.slice sa sn sc,vsb.x,vsq.x,vdb.x,vdq.x,vfl.x,I6 m.cnt,vca.x,vsp.x,.map (some B1')]):=hb4;have X4:Hid (Box W4 w.heap.size [.slice fa fn fc,I6 m.hand,.slice sa sn sc,vsb.x,vsq.x,vdb.x,vdq.x,vfl.x,I6 m.cnt,vca.x,vsp.x]):=X3.grown hg4 HXP.out;have N1:Hid (j5 plK W4 B1' (j9 m.ca)):=M1.kept hg4 (fun e=>by cases e;exact Y3.ne_map M1 rfl)
 have N2:Hid (QX enK W4 B2' (qA m m.sp.length [] zdg)):=dD<|by
  obtain⟨g,k1,k2⟩:=M2.out;exact⟨g,k1.kept hg4 (fun e=>by cases e;exact Y3.ne_map k1 rfl),k2⟩
 have HG4:Hid (zc w W4):=dD<|ze HG3 hg4 HL3.out
 clear hb4 hg4;have x0:=X4.c 0 rfl;go_wp2;clear x0
 go_loopg [17] fn (fun gg s17 wr=>∃kk:Nat,kk<=fn/\fn - kk<=gg/\s17=I6 kk/\Hid (zc W4 wr)/\Hid (∀j:Nat,j<kk->frE m j=0))
 case atStart=>exact⟨0,nZ _,by omega,rfl,zc.refl _,fun j hj=>absurd hj (nL _)⟩
 obtain⟨kk,hkk,hgg,rfl,BW,OW⟩:=hrel
 by_cases hlt:kk<fn
 ·have hltz:(kk:Int)< (fn:Int):=by omega
  have HKL:Hid (kk<m.fs.length):=dD<|by rw[HN1.out];exact hlt
  obtain⟨q,HQ⟩:∃q,Hid (m.fs[kk]? =some q):=⟨_,gE HKL⟩;have HFQ:Hid (qe m (kk:Int)=q):=dD<|by unfold qe;rw[tN,gD,HQ.out];rfl
  obtain⟨ad,rfl,hl⟩:=HFR.out kk q HQ.out;obtain⟨d0,d1,d2,d3,d4,d5,d6,d7,d8,d9,d10,d11,d12⟩:=hl wr (HG4.trans BW);clear hl;go_upto_region 5 with fail;obtain⟨W5,hW5⟩:∃W5,wr.alloc (.cells #[U8 q.p.b0,U8 q.p.b1,U8 q.p.b2,U8 q.p.b3,U8 q.p.b4,U8 q.p.b5,U8 q.p.b6,U8 q.p.b7,I6 q.r,.bool q.u,.bool q.d,I6 q.f,I6 q.x] 59)=W5:=⟨_,rfl⟩;have HG5:=gT hW5 BW
  have HGw5:=dD (HG4.trans HG5);have F5:=xA hW5
  have Y5:=dD (Y4.grew HG5);rw[hW5];clear hW5 d0 d1 d2 d3 d4 d5 d6 d7 d8 d9 d10 d11 d12;obtain⟨pf,HPF⟩:∃pf,Hid (wr.heap.size=pf):=⟨_,rfl⟩;rw[HPF.out]at F5⊢;obtain⟨h,HHK⟩:∃h,Hid ((qA m m.sp.length [] zdg) (1,(kk:Int))=h):=⟨_,rfl⟩;have hlk:∀y:zR W5,(Instr.lookup 163 (.map (some B2')) (.agg #[I6 1,I6 (kk:Int),.bool false]) false).run prog y.world= .ok (I6 h) y.world:=fun y=>by
   have:=(N2.grew (HG5.trans y.grew)).look (K:=enK) underlying163 (zl6 _) (1,(kk:Int));rw[HHK.out]at this;exact this
  have hf8:=F5.gw 8 rfl
  have hf11:=F5.gw 11 rfl
  have hy0:=Y5.gw 0 rfl
  have hy1:=Y5.gw 1 rfl
  have hy2:=Y5.gw 2 rfl
  have hy3:=Y5.gw 3 rfl
  have hy4:=Y5.gw 4 rfl
  have hy5:=Y5.gw 5 rfl
  have hy6:=Y5.gw 6 rfl
  have hy7:=Y5.gw 7 rfl
  have hy8:=Y5.gw 8 rfl
  have hy9:=Y5.gw 9 rfl
  have hy10:=Y5.gw 10 rfl
  have hy11:=Y5.gw 11 rfl
  have hne:Nonempty (zR W5):=⟨⟨_,zc.refl _⟩⟩;have HFK:=HFE.out kk;rw[HFQ.out,HHK.out]at HFK
  by_cases hr:q.r=h
  ·have hre:(q.r != h)=false:=by simp[hr]
   by_cases hf0:0<=q.f
   ·have hf0d:decide (0<=q.f)=true:=by simpa using hf0
    obtain⟨U,HU⟩:∃U,Hid (decide (j9 m.ca ((qe m (kk:Int)).f,(qe m (kk:Int)).x)=some (kk:Int))=U):=⟨_,rfl⟩;have HUF:Hid (frE m kk=if U=true then 0 else 7):=dD<|by
     have h1:=HU.out;rw[HFQ.out]at h1;rw[HFK,<-h1]
     by_cases hc:j9 m.ca (q.f,q.x)=some (kk:Int)
     ·rw[if_neg (by simp[hr,hc]),if_pos (by simpa using hc)]
     rw[if_pos (.inr ⟨hf0,hc⟩),if_neg (by simpa using hc)]
    have HCC:Hid (∀W,zc W4 W->Calls prog 95 #[.agg #[.slice (some ad) fn fc,I6 m.hand,.slice sa sn sc,vsb.x,vsq.x,vdb.x,vdq.x,vfl.x,I6 m.cnt,vca.x,vsp.x,.map (some B1')],I6 (kk:Int)] W fun e w'=>e= .returned (.bool U)/\zc W w'):=dD<|fun W hW=>by
     have h1:=HHC.out B1' kk W (HG4.trans hW) HKL (N1.grew hW);rw[HU.out]at h1;exact h1
    clear hr hf0;refine Zh [(14,⟨fun v=>v= .bool U,fun v w'=>True⟩)] qu (by kernel_rfl) ?hS ?hp ?_
    case hS=>
     intro x hx;simp only[mC,nM,or_false]at hx;subst hx;exact⟨_,rfl⟩
    case hp=>
     intro x hx;simp only[mC,nM,or_false]at hx;subst hx;exact fun _ _ _ _ h=>h
    iterate 14 (refine zp rfl rfl rfl (fun K hK=>?_);go_big_quiet_op;refine hK _ ?_;clear hK)
    refine zV rfl rfl (fun w' hg hF=>?_) (fun v1 hv=>?_)
    ·refine zP.call [.agg #[.slice (some ad) fn fc,I6 m.hand,.slice sa sn sc,vsb.x,vsq.x,vdb.x,vdq.x,vfl.x,I6 m.cnt,vca.x,vsp.x,.map (some B1')],I6 (kk:Int)] rfl func95 rfl rfl rfl ?_;refine(HCC w' (HG5.trans hg)).mono ?_;rintro e w'' ⟨rfl,hg3⟩;exact⟨_,rfl,hg3,rfl,trivial⟩
    subst hv;simp only[Act.put,sB,sS,sZ];iterate 3 (refine zp rfl rfl rfl (fun K hK=>?_);go_big_quiet_op;refine hK _ ?_;clear hK)
    refine je fun W6 hg6 hF=>?_
    have HG6:=dD (HG5.trans hg6);clear hg6 hF hlk hf8 hf11 hy0 hy1 hy2 hy3 hy4 hy5 hy6 hy7 hy8 hy9 hy10 hy11 hne
    cases U with
    | true=>
     have OW':Hid (∀j:Nat,j<kk+1->frE m j=0):=dD<|fun j hj=>by
      by_cases e:j=kk
      ·rw[e,HUF.out,if_pos rfl]
      exact OW j (by omega)
     go_wp2
     go_roundg (fn -(kk+1))
     case measure=>omega
     exact⟨kk+1,by omega,by omega,by go_num,HG6,OW'⟩
    | false=>
     have HZE:Hid (Z=7):=HZ1.out kk HKL OW (by rw[HUF.out,if_neg (by decide)])
     have HGW:=dD (HG4.trans HG6);go_wp2;go_ret;exact⟨by rw[HZE.out];rfl,HGW⟩
   have hf0d:decide (0<=q.f)=false:=by simpa using hf0
   have HFZ:Hid (frE m kk=0):=dD<|by rw[HFK,if_neg (by simp[hr,hf0])]
   have OW':Hid (∀j:Nat,j<kk+1->frE m j=0):=dD<|fun j hj=>by
    by_cases e:j=kk
    ·rw[e];exact HFZ.out
    exact OW j (by omega)
   clear hr hf0;refine Zh [] qu (by kernel_rfl) (by simp) (by simp) ?_
   iterate 12 (refine zp rfl rfl rfl (fun K hK=>?_);go_big_quiet_op;refine hK _ ?_;clear hK)
   refine qJ ?_ ?_
   ·kernel_rfl
   simp only[Act.put,sB,sS,sZ];refine qJ ?_ ?_
   ·kernel_rfl
   simp only[Act.put,sB,sS,sZ];refine qJ ?_ ?_
   ·kernel_rfl
   simp only[Act.put,sB,sS,sZ];refine qJ ?_ ?_
   ·kernel_rfl
   simp only[Act.put,sB,sS,sZ];iterate 2 (refine zp rfl rfl rfl (fun K hK=>?_);go_big_quiet_op;refine hK _ ?_;clear hK)
   refine je fun W6 hg6 hF=>?_
   have HG6:=dD (HG5.trans hg6);clear hg6 hF hlk hf8 hf11 hy0 hy1 hy2 hy3 hy4 hy5 hy6 hy7 hy8 hy9 hy10 hy11 hne;go_wp2
   go_roundg (fn -(kk+1))
   case measure=>omega
   exact⟨kk+1,by omega,by omega,by go_num,HG6,OW'⟩
  have hre:(q.r != h)=true:=by simp[hr]
  have HZE:Hid (Z=7):=HZ1.out kk HKL OW (by rw[HFK,if_pos (.inl hr)])
  clear hr;refine Zh [] qu (by kernel_rfl) (by simp) (by simp) ?_
  iterate 8 (refine zp rfl rfl rfl (fun K hK=>?_);go_big_quiet_op;refine hK _ ?_;clear hK)
  refine qJ ?_ ?_
  ·kernel_rfl
  simp only[Act.put,sB,sS,sZ];refine qJ ?_ ?_
  ·kernel_rfl
  simp only[Act.put,sB,sS,sZ];refine qJ ?_ ?_
  ·kernel_rfl
  simp only[Act.put,sB,sS,sZ];refine qJ ?_ ?_
  ·kernel_rfl
  simp only[Act.put,sB,sS,sZ];refine qJ ?_ ?_
  ·kernel_rfl
  simp only[Act.put,sB,sS,sZ];refine qJ ?_ ?_
  ·kernel_rfl
  simp only[Act.put,sB,sS,sZ];refine qJ ?_ ?_
  ·kernel_rfl
  simp only[Act.put,sB,sS,sZ];refine qJ ?_ ?_
  ·kernel_rfl
  simp only[Act.put,sB,sS,sZ];refine qJ ?_ ?_
  ·kernel_rfl
  simp only[Act.put,sB,sS,sZ];iterate 1 (refine zp rfl rfl rfl (fun K hK=>?_);go_big_quiet_op;refine hK _ ?_;clear hK)
  refine je fun W6 hg6 hF=>?_
  have HG6:=dD (HGw5.trans hg6);clear hg6 hF hlk hf8 hf11 hy0 hy1 hy2 hy3 hy4 hy5 hy6 hy7 hy8 hy9 hy10 hy11 hne;go_wp2;go_ret;exact⟨by rw[HZE.out];rfl,HG6⟩
 have hltz:¬(kk:Int)< (fn:Int):=by omega
 have:kk=fn:=by omega
 subst this;have OA:Hid (∀j:Nat,j<m.fs.length->frE m j=0):=dD<|fun j hj=>OW.out j (by rw[<-HN1.out];exact hj)
 have x2:=(X4.grew BW).c 2 rfl;go_wp2;clear x2;have HBW:Hid (zc W4 wr):=BW
 go_loopg [44] sn (fun gg s44 wr=>∃i:Nat,i<=sn/\sn - i<=gg/\s44=I6 i/\Hid (zc W4 wr)/\Hid (∀j:Nat,j<i->Qo m j=0))
 case atStart=>exact⟨0,nZ _,by omega,rfl,HBW,fun j hj=>absurd hj (nL _)⟩
 obtain⟨i,hi,hg2,rfl,BW,OW⟩:=hrel
 by_cases hlt2:i<sn
 ·have hltz2:(i:Int)< (sn:Int):=by omega
  have HKL:Hid (i<m.sl.length):=dD<|by rw[HN2.out];exact hlt2
  obtain⟨z,HZI⟩:∃z,Hid (m.sl[i]? =some z):=⟨_,gE HKL⟩;obtain⟨ad,rfl,hl⟩:=HSL.out i z HZI.out;have d0:=hl wr (HG4.trans BW);clear hl;obtain⟨h,HHK⟩:∃h,Hid ((qA m m.sp.length [] zdg) (2,(i:Int))=h):=⟨_,rfl⟩;have hlk:(Instr.lookup 163 (.map (some B2')) (.agg #[I6 2,I6 (i:Int),.bool false]) false).run prog wr= .ok (I6 h) wr:=by
   have:=(N2.grew BW).look (K:=enK) underlying163 (zl6 _) (2,(i:Int));rw[HHK.out]at this;exact this
  have HSE:Hid (Qo m i=if z≠h then 7 else 0):=dD<|by rw[zhH,gD,HZI.out,HHK.out];rfl
  by_cases hr:z=h
  ·have hre:(z != h)=false:=by simp[hr]
   have OW':Hid (∀j:Nat,j<i+1->Qo m j=0):=dD<|fun j hj=>by
    by_cases e:j=i
    ·rw[e,HSE,if_neg (by simp[hr])]
    exact OW j (by omega)
   clear hr;go_wp2
   go_roundg (sn -(i+1))
   case measure=>omega
   exact⟨i+1,by omega,by omega,by go_num,BW,OW'⟩
  have hre:(z != h)=true:=by simp[hr]
  have HZE:Hid (Z=7):=HZ2.out OA i HKL OW (by rw[HSE.out,if_pos hr])
  have HGW:=dD (HG4.trans BW);clear hr;go_wp2;go_ret;exact⟨by rw[HZE.out];rfl,HGW⟩
 have hltz2:¬(i:Int)< (sn:Int):=by omega
 have:i=sn:=by omega
 subst this;have HZE:Hid (Z=0):=HZ3.out OA fun j hj=>OW.out j (by rw[<-HN2.out];exact hj)
 have HGW:=dD (HG4.trans BW);go_wp2;go_ret;exact⟨by rw[HZE.out];rfl,HGW⟩
def chk:List Nat:=[34,35,36,37,38,39]
def ziT (m:Ma):List Int:=[zg (Qi m),zg (Ji m),ZG m,zd0 m,zbI m,Jj m]
theorem zdZ (h:ZG m=0):m.sp.length<=4:=by
 unfold ZG at h
 split at h
 ·cases h
 omega
theorem zkT (V:MaV) (m:Ma) (w:World) (hm:zH w V m) (k:Nat) (hb:∀j,j<k->(ziT m)[j]?.getD 0=0) (f:Nat) (hf:chk[k]? =some f) (e:Int) (he:(ziT m)[k]? =some e):
  Calls prog f #[.agg (mL V m).toArray] w fun r w'=>r= .returned (I6 e)/\zc w w':=by
 have h1:1<=k->zeY m:=fun h=>zk9.1 (hb 0 (by omega))
 have h3:3<=k->zdM m/\m.sp.length<=4:=fun h=>⟨zks (hb 2 (by omega)),zdZ (hb 2 (by omega))⟩
 have h4:4<=k->Jf m none m.ca=0:=fun h=>hb 3 (by omega)
 match k,hf,he with
 | 0,hf,he=>cases hf;cases he;exact zcp V m w hm
 | 1,hf,he=>cases hf;cases he;exact zcs V m w hm (h1 (by omega))
 | 2,hf,he=>cases hf;cases he;exact zbB V m w hm
 | 3,hf,he=>cases hf;cases he;exact zct V m w hm (h1 (by omega))
 | 4,hf,he=>cases hf;cases he;exact zbC V m w hm (h1 (by omega)) (h3 (by omega)).1
 | 5,hf,he=>cases hf;cases he;exact zbE V m w hm (h4 (by omega)) (h3 (by omega)).2 (fun s hs=>((h3 (by omega)).1 s hs).2)
 | k+6,hf,he=>simp[chk]at hf
theorem zhi (k f:Nat) (hf:chk[k]? =some f):∀args w,(callFunc f args).run prog w= .ok (.enter f args) w:=by
 match k,hf with
 | 0,hf=>cases hf;exact enters_of func34 (by kernel_rfl) rfl
 | 1,hf=>cases hf;exact enters_of func35 (by kernel_rfl) rfl
 | 2,hf=>cases hf;exact enters_of func36 (by kernel_rfl) rfl
 | 3,hf=>cases hf;exact enters_of func37 (by kernel_rfl) rfl
 | 4,hf=>cases hf;exact enters_of func38 (by kernel_rfl) rfl
 | 5,hf=>cases hf;exact enters_of func39 (by kernel_rfl) rfl
 | k+6,hf=>simp[chk]at hf
def fnV (f:Nat):Value:= .func (.func f) #[] #[]
theorem zaN (V:MaV) (m:Ma) (w:World) (hm:zH w V m):
  Calls prog 9 #[.agg (mL V m).toArray] w fun e w'=>e= .returned (I6 (maW m))/\zc w w':=by
 have HCK:Hid (∀W,zc w W->∀(k:Nat),(∀j,j<k->(ziT m)[j]?.getD 0=0)->∀f,chk[k]? =some f->∀e,(ziT m)[k]? =some e->Calls prog f #[.agg (mL V m).toArray] W fun r w'=>r= .returned (I6 e)/\zc W w'):=dD<|fun W hW k hb f hf e he=>zkT V m W (hm.grew hW) k hb f hf e he
 clear hm;obtain⟨Z,HZ⟩:∃Z,Hid (maW m=Z):=⟨_,rfl⟩;rw[HZ.out];have HZ2:Hid (zg (ziT m)=Z):=dD<|by rw[<-HZ.out,zkz];rfl
 obtain⟨W0,hW0⟩:∃W0,(w.alloc (.cells (mL V m).toArray 40)).alloc (.cells #[.func (.func 34) #[] #[],.func (.func 35) #[] #[],.func (.func 36) #[] #[],.func (.func 37) #[] #[],.func (.func 38) #[] #[],.func (.func 39) #[] #[]] 44)=W0:=⟨_,rfl⟩;have HG0:=gD2 hW0
 have X0:=x2a hW0
 have Y0:Hid (Box W0 (w.heap.size+1) (chk.map fnV)):=dD<|by rw[<-hW0];exact Box.top _ (chk.map fnV) _ (by simp)
 have HW0:Hid (_=W0):=hW0;clear hW0
 go_enter func9,ntmps9
 go_upto_region 2 with fail;rw[HW0.out];go_wp2
 go_loopg [10] 6 (fun gg s10 wr=>∃kk:Nat,kk<=6/\6 - kk<=gg/\s10=I6 kk/\Hid (zc w wr)/\Hid (Box wr w.heap.size (mL V m))/\Hid (Box wr (w.heap.size+1) (chk.map fnV))/\Hid (∀j,j<kk->(ziT m)[j]?.getD 0=0))
 case atStart=>exact⟨0,nZ _,by omega,rfl,HG0,X0,Y0,fun j hj=>absurd hj (nL _)⟩
 obtain⟨kk,hkk,hgg,rfl,BW,XW,YW,OW⟩:=hrel
 by_cases hlt:kk<6
 ·have hltz:(kk:Int)<6:=by omega
  obtain⟨f,HF⟩:∃f,Hid (chk[kk]? =some f):=⟨_,gE (by simp[chk];exact hlt)⟩
  obtain⟨e,HE⟩:∃e,Hid ((ziT m)[kk]? =some e):=⟨_,gE (by simp[ziT];exact hlt)⟩
  have y0:wr.cell? ⟨w.heap.size+1,kk,none⟩=some (.func (.func f) #[] #[]):=YW.c kk (by rw[List.getElem?_map,HF.out];rfl)
  have eg:=zhi kk f HF.out;have hcall:=HCK.out wr BW kk OW f HF e HE.out;obtain⟨x0,x1,x2,x3,x4,x5,x6,x7,x8,x9,x10⟩:=XW.c11;go_wp2_with fail;refine hcall.mono ?_;clear hcall x0 x1 x2 x3 x4 x5 x6 x7 x8 x9 x10 y0;rintro e' W2 ⟨rfl,hg2⟩;have HG2:=dD (BW.trans hg2);have X2:=dD (XW.grew hg2);have Y2:=dD (YW.grew hg2);clear hg2 eg
  by_cases h0:e=0
  ·have h0e:(e != 0)=false:=by simp[h0]
   have OW':Hid (∀j,j<kk+1->(ziT m)[j]?.getD 0=0):=dD<|fun j hj=>by
    by_cases ej:j=kk
    ·rw[ej,HE.out,h0];rfl
    exact OW j (by omega)
   clear h0;go_wp2
   go_roundg (6 -(kk+1))
   case measure=>omega
   exact⟨kk+1,by omega,by omega,by go_num,HG2,X2,Y2,OW'⟩
  have h0e:(e != 0)=true:=by simp[h0]
  have HZE:Hid (Z=e):=dD<|by
   rw[<-HZ2.out];exact zb6 (fun j x hj hx=>by have:=OW.out j hj;rw[hx]at this;exact this) HE h0
  clear h0;go_wp2;go_ret;exact⟨by rw[HZE.out];rfl,HG2⟩
 have hltz:¬(kk:Int)<6:=by omega
 have:kk=6:=by omega
 subst this;have HZE:Hid (Z=0):=dD<|by
  rw[<-HZ2.out];refine zb7 fun j x hx=>?_
  have hj:=(gS.1 hx).1;have:=OW.out j (by simpa [ziT]using hj)
  rw[hx]at this;exact this
 go_wp2;go_ret;exact⟨by rw[HZE.out];rfl,BW⟩
theorem zfK (n:Nat) (hn:n<=40) (w:World):
  Calls prog 163 #[.int .u64 1,.int .u64 (n:Int)] w fun e w'=>e= .returned (.tuple #[.int .u64 0,.int .u64 (n:Int)])/\w'=w:=by
 have m1:bits .and .u64 1 4294967295=1:=Mul64.maskN 1 (by omega)
 have m2:bits .and .u64 (n:Int) 4294967295=(n:Int):=by rw[Mul64.maskN n (by omega)];omega
 have m0:bits .and .u64 0 4294967295=0:=Mul64.maskN 0 (by omega)
 have d1:(n:Int) / 4294967296=0:=by omega
 have HM1:Hid (bits .and .u64 1 4294967295=1):=m1;have HM2:Hid (bits .and .u64 (n:Int) 4294967295=(n:Int)):=m2;have HM0:Hid (bits .and .u64 0 4294967295=0):=m0;have HD1:Hid ((n:Int) / 4294967296=0):=d1;clear m1 m2 m0 d1
 go_enter func163,ntmps163
 go_wp2;have w0:IntKind.u64.wrap 0=0:=Mul64.wrapN 0 (by omega)
 have wn:IntKind.u64.wrap (n:Int)=(n:Int):=Mul64.wrapN n (by omega)
 simp only[HM1.out,HM2.out,Int.one_mul,wn,HD1.out,w0,HM0.out,Int.mul_zero,Int.add_zero,Int.zero_ediv]
 go_ret2
 exact⟨rfl,rfl⟩
theorem zez (n:Nat) (hn:n<=40) (w:World):
  Calls prog 150 #[.int .u64 1,.int .u64 (n:Int)] w fun e w'=>e= .returned (.tuple #[.int .u64 0,.int .u64 (n:Int)])/\w'=w:=by
 have c64:=zfK n hn w
 go_enter func150,ntmps150
 go_wp2_with (go_at_call 163;refine c64.mono ?_;rintro e w' ⟨rfl,hw⟩;rw[hw])
 go_ret2
 exact⟨rfl,rfl⟩
theorem zex (m:List Fr):∀(l:List Fr) (off:Nat),off+m.length<=l.length->splice (l.flatMap frv) (off*13) (m.flatMap frv)=(l.take off++(m++l.drop (off+m.length))).flatMap frv:=fun l off h=>by
 have h1:∀(l:List Fr) (j:Nat),j<=l.length->(l.flatMap frv).take (j*13)=(l.take j).flatMap frv/\(l.flatMap frv).drop (j*13)=(l.drop j).flatMap frv:=fun l j hj=>by
  have he:l.flatMap frv=(l.take j).flatMap frv++(l.drop j).flatMap frv:=by rw[<-List.flatMap_append,List.take_append_drop]
  have hl:((l.take j).flatMap frv).length=j*13:=by rw[ZU,List.length_take,Nat.min_eq_left hj]
  constructor
  ·rw[he,<-hl,List.take_left]
  rw[he,<-hl,List.drop_left]
 unfold splice;rw[ZU m,<-Nat.add_mul,(h1 l off (by omega)).1,(h1 l (off+m.length) h).2,List.flatMap_append,List.flatMap_append]
theorem Jw (ty:TypeId) (base:Nat) (v:Value) (l:List Fr) (hown:zF base w v l) (g:Nat) (hg:v.ownBlock=some g) (off dLen dCap:Nat) (ad:Addr) (sLen sCap:Nat)
  (m:List Fr) (hm:m.length=Nat.min sLen dLen) (hsrc:jp w ad (m.flatMap frv)) (hfit:off+m.length<=l.length):
  ∃w',(Builtin.copy_ #[25,25] ty #[.slice (some ⟨g,off*13,none⟩) dLen dCap,.slice (some ad) sLen sCap]).run prog w= .ok (goInt m.length) w'/\zF base w' v (l.take off++(m++l.drop (off+m.length)))/\w.grownBy w' (some g)/\w'.heap.size=w.heap.size:=by
 obtain⟨i0,hi,_,hz1,_⟩:=info_parts zlI;have hcl:(m.flatMap frv).length=m.length*13:=ZU m;have hfit':off*13+(m.flatMap frv).length<=l.length*13:=by
  rw[hcl,<-Nat.add_mul];exact Nat.mul_le_mul_right _ hfit
 obtain⟨w',hr,h2,h3,h4⟩:=qQ (P:=prog) hown.1 hg (off*13) (m.flatMap frv) hfit' (qU zfI m);have hl:=run_loadCells_list (P:=prog) w ad (m.flatMap frv) hsrc;rw[hcl]at hl;rw[zex m l off hfit]at h2;have hlen:(l.take off++(m++l.drop (off+m.length))).length=l.length:=by simp;omega
 refine⟨w',?_,⟨by rw[hlen];exact h2,by rw[hlen];exact hown.2⟩,h3,h4⟩
 simp[Builtin.copy_,run_underlying underlying25,Builtin.lenOf,Builtin.firstCells,sizeOf,typeInfo,hi,hz1,<-hm,hl,hr]
theorem Qf {rest:List Oper} {a:Act} (hgd:o.guard=none) (d s:Operand) (ho:o.op= .call { callee:= .builtin .copy,args:=#[d,s],argTypes:=#[25,25] })
  (base:Nat) (v:Value) (l:List Fr) (hown:zF base w v l) (g:Nat) (hg:v.ownBlock=some g) (off dLen dCap:Nat) (dp:Addr) (hd:a.eval d= .slice (some dp) dLen dCap) (hdp:dp=⟨g,off*13,none⟩) (ad:Addr) (sLen sCap:Nat) (hs:a.eval s= .slice (some ad) sLen sCap)
  (m:List Fr) (hm:m.length=Nat.min sLen dLen) (hsrc:jp w ad (m.flatMap frv)) (hfit:off+m.length<=l.length)
  (h:∀w',zF base w' v (l.take off++(m++l.drop (off+m.length)))->w.grownBy w' (some g)->w'.heap.size=w.heap.size->wpList prog ops Q rest (a.put o.dst (goInt m.length)) w'):wpList prog ops Q (o :: rest) a w:=by
 subst hdp;refine wpList_plain hgd fun K hK=>?_
 obtain⟨w',hrun,h2,h3,h4⟩:=Jw o.type base v l hown g hg off dLen dCap ad sLen sCap m hm hsrc hfit;unfold Oper.wp
 simp[execOp,ho,resolve,invoke,builtin,hd,hs,hrun,Result.andThen]
 exact hK _ _ (h w' h2 h3 h4)
theorem zg7 (q:Fr) (n m z:Nat) (_h:m<=n) (hz:z=Nat.min m (n - m)):(List.replicate m q++List.replicate (n - m) fr0).take m++(List.replicate z q++(List.replicate m q++List.replicate (n - m) fr0).drop (m+z))=List.replicate (m+z) q++List.replicate (n -(m+z)) fr0:=by
 have hzz:z<=n - m:=by rw[hz];exact Nat.min_le_right _ _
 rw[List.take_append_of_le_length (by simp),List.take_of_length_le (by simp),List.drop_append,List.drop_of_length_le (by simp),List.nil_append,lR,List.drop_replicate,<-List.append_assoc,List.replicate_append_replicate]
 congr 2
 omega
theorem zey (q:Fr) (x:Nat) (c n:Nat) (hn:n<=40) (hn1:1<=n) (w:World) (hv:qy w (.slice (some ⟨x,0,none⟩) 1 c) [q]):
  Calls prog 117 #[.slice (some ⟨x,0,none⟩) 1 c,I6 (n:Int)] w fun e w'=>∃b,e= .returned b/\qR w.heap.size w' b (List.replicate n q)/\zc w w':=by
 have HC:Hid (jp w ⟨x,0,none⟩ ([q].flatMap frv)):=by
  obtain⟨⟨a,c',h1,_,h3⟩,_⟩:=hv;cases h1;exact h3 _ rfl
 clear hv;have hm:=zez n hn w;have hnz:¬(n:Int)<0:=by omega
 have hn2:¬(9223372036854775807:Int)< (n:Int):=by omega
 go_enter func117,ntmps117
 go_wp2_with (first
  | (go_at_call 150;refine hm.mono ?_;rintro e w' ⟨rfl,hw⟩;rw[hw])
  | (refine Qw rfl (.tmp 29) rfl n rfl (by show n*40<=_;omega) ?_;intro C ow;have OW:Hid (zF w.heap.size (w.alloc (.cells C 59)) (.slice (some ⟨w.heap.size,0,none⟩) n n) (List.replicate n fr0)):=ow;clear ow)
  | (refine Qf rfl (.tmp 31) (.tmp 32) rfl w.heap.size (.slice (some ⟨w.heap.size,0,none⟩) n n) (List.replicate n fr0) OW w.heap.size rfl 0 n n _ rfl ?a1 _ 1 c rfl [q] ?a2 ?a3 ?a4 ?_))
 case a1=>simp
 case a2=>show 1=Nat.min 1 n;exact(Nat.min_eq_left hn1).symm
 case a3=>exact HC.grew (za _ _)
 case a4=>simp;omega
 intro W1 ow1 gr1 _;have OW1:Hid (zF w.heap.size W1 (.slice (some ⟨w.heap.size,0,none⟩) n n) (List.replicate 1 q++List.replicate (n - 1) fr0)):=show zF _ _ _ (List.replicate 1 q++List.replicate (n - 1) fr0) by simpa [List.drop_replicate]using ow1
 have G1:Hid (zc w W1):=ze (za _ _) gr1 (nR _);clear ow1 gr1;go_wp2
 go_loopg [8] n (fun gg s8 wr=>∃m:Nat,1<=m/\m<=n/\n - m<=gg/\s8=I6 m/\Hid (zF w.heap.size wr (.slice (some ⟨w.heap.size,0,none⟩) n n) (List.replicate m q++List.replicate (n - m) fr0))/\Hid (zc w wr))
 case atStart=>exact⟨1,nR _,hn1,by omega,rfl,OW1,G1⟩
 obtain⟨m,hm1,hmn,hg,rfl,OF,GW⟩:=hrel
 by_cases hlt:m<n
 ·have hltz:(m:Int)< (n:Int):=by omega
  have hmnz:(m:Int)<=(n:Int):=by omega
  have OFd:Hid (zF w.heap.size wr.drew (.slice (some ⟨w.heap.size,0,none⟩) n n) (List.replicate m q++List.replicate (n - m) fr0)):=dD<|OF.grew (gW _)
  obtain⟨z,HZ⟩:∃z,Hid (z=Nat.min m (n - m)):=⟨_,rfl⟩;have hz0:z=min m (n - m):=HZ.out;have hz1:1<=z:=by omega
  have hz2:z<=m:=by omega
  have hz3:z<=n - m:=by omega
  clear hz0;have hsrc:jp wr.drew ⟨w.heap.size,0,none⟩ ((List.replicate z q).flatMap frv):=fun j u hj=>by
   have h1:=OFd.1.cells rfl;refine h1 j u ?_;rw[List.flatMap_append,List.getElem?_append_left]
   ·rw[show m=z+(m - z) by omega,<-List.replicate_append_replicate,List.flatMap_append,List.getElem?_append_left (gS.1 hj).1]
    exact hj
   have h3:=(gS.1 hj).1;rw[ZU]at h3⊢;simp only[lR]at h3⊢;exact Nat.lt_of_lt_of_le h3 (Nat.mul_le_mul_right _ hz2)
  obtain⟨W2,hrun,ow2,gr2,_⟩:=Jw 3 w.heap.size _ _ OFd w.heap.size rfl m (n - m) (n - m) ⟨w.heap.size,0,none⟩ m n (List.replicate z q) (by rw[lR];exact HZ) hsrc (by simp;omega)
  have hcopy:(Builtin.copy_ #[25,25] 3 #[.slice (some ⟨w.heap.size,m*13,none⟩) (n - m) (n - m),.slice (some ⟨w.heap.size,0,none⟩) m n]).run prog wr.drew= .ok (I6 (z:Int)) W2:=by
   have h1:=hrun;rw[lR]at h1;exact h1
  have OW2:Hid (zF w.heap.size W2 (.slice (some ⟨w.heap.size,0,none⟩) n n) (List.replicate (m+z) q++List.replicate (n -(m+z)) fr0)):=dD<|by
   rw[<-zg7 q n m z (by omega) HZ.out]
   rw[lR]at ow2;exact ow2
  have GW2:Hid (zc w W2):=ze (GW.trans (gW _)) gr2 (nR _)
  clear hsrc hrun ow2 gr2;go_wp2
  go_region
  go_wp2
  go_roundg (n -(m+z))
  case measure=>omega
  exact⟨m+z,by omega,by omega,nR _,by go_num,OW2,GW2⟩
 have hltz:¬(m:Int)< (n:Int):=by omega
 have:m=n:=by omega
 subst this;have HO:Hid (zF w.heap.size wr (.slice (some ⟨w.heap.size,0,none⟩) m m) (List.replicate m q)):=dD<|by have:=OF.out;simpa using this
 go_wp2;go_ret;exact⟨_,rfl,HO.new,GW⟩
def zfv (n:Int):Int:=if 0<=n/\n<=40 then 0 else 4
def zhY (n:Int):List Fr:=if 0<=n/\n<=40 then List.replicate n.toNat frF else []
theorem zfk (q:Fr) (x:Nat) (c:Nat) (w:World):
  Calls prog 117 #[.slice (some ⟨x,0,none⟩) 1 c,I6 0] w fun e w'=>∃b,e= .returned b/\qR w.heap.size w' b (List.replicate 0 q)/\zc w w':=by
 have hm:=zez 0 (by omega) w
 go_enter func117,ntmps117
 go_wp2_with (first
  | (go_at_call 150;refine hm.mono ?_;rintro e w' ⟨rfl,hw⟩;rw[hw])
  | (refine Qw rfl (.tmp 29) rfl 0 rfl (by show 0*40<=_;omega) ?_;intro C ow;have OW:Hid (zF w.heap.size (w.alloc (.cells C 59)) (.slice (some ⟨w.heap.size,0,none⟩) 0 0) (List.replicate 0 fr0)):=ow;clear ow)
  | (refine Qf rfl (.tmp 31) (.tmp 32) rfl w.heap.size (.slice (some ⟨w.heap.size,0,none⟩) 0 0) (List.replicate 0 fr0) OW w.heap.size rfl 0 0 0 _ rfl ?a1 _ 1 c rfl [] ?a2 ?a3 ?a4 ?_))
 case a1=>simp
 case a2=>rfl
 case a3=>intro j u hj;simp at hj
 case a4=>simp
 intro W1 ow1 gr1 _;have OW1:Hid (zF w.heap.size W1 (.slice (some ⟨w.heap.size,0,none⟩) 0 0) (List.replicate 0 q)):=dD<|by simpa using ow1
 have G1:Hid (zc w W1):=ze (za _ _) gr1 (nR _);clear ow1 gr1;go_wp2
 go_loopg [8] 0 (fun _ s8 wr=>s8=I6 0/\wr=W1)
 case atStart=>exact⟨rfl,rfl⟩
 obtain⟨rfl,rfl⟩:=hrel;go_wp2;go_ret;exact⟨_,rfl,OW1.new,G1⟩
theorem zgV (n:Nat) (hn:n<=40) (w:World):
  Calls prog 67 #[I6 (n:Int)] w fun e w'=>∃b,e= .returned (.tuple #[.agg #[b,I6 0],I6 0])/\qR w.heap.size w' b (List.replicate n frF)/\zc w w':=by
 have hnz:¬(n:Int)<0:=by omega
 have hn4:¬(40:Int)< (n:Int):=by omega
 have hrep:∀W x,Box W x (frv frF)->Calls prog 117 #[.slice (some ⟨x,0,none⟩) 1 1,I6 (n:Int)] W fun e w'=>∃b,e= .returned b/\qR W.heap.size w' b (List.replicate n frF)/\zc W w':=fun W x hx=>by
  by_cases h1:1<=n
  ·refine zey frF x 1 n hn h1 W ⟨⟨_,1,rfl,fun h=>(by cases h),fun y hy=>?_⟩,by show 1*40<=_;omega⟩
   cases hy;intro j u hj;rw[Addr.add_lit,zA];exact hx.c j (by have h:=hj;simp only[List.flatMap_cons,List.flatMap_nil,List.append_nil]at h;exact h)
  have:n=0:=by omega
  subst this;exact zfk frF x 1 W
 go_enter func67,ntmps67
 go_wp2_with fail;refine(Zz _).mono ?_;rintro e W1 ⟨rfl,g1⟩;have X2:Hid (Box W1 w.heap.size [eS,I6 0]):=(Box.top w [eS,I6 0] _ rfl).grew g1;have G1:Hid (zc w W1):=(za _ _).trans g1;clear g1;simp only[frv,frF,pg0];go_wp2_with fail;refine(hrep _ _ (Box.top W1 _ _ rfl)).mono ?_;rintro e W2 ⟨b,rfl,hb,g2⟩;obtain⟨a2,c2,rfl,_⟩:=hb.1.rows;rw[lR]at hb⊢;have NB:Hid (qR W1.heap.size W2 (.slice a2 n c2) (List.replicate n frF)):=hb.base (by simp)
 have X22:=(X2.alloc (.cells #[U8 0,U8 0,U8 0,U8 0,U8 0,U8 0,U8 0,U8 0,I6 0,.bool false,.bool false,I6 (-1),I6 0] 59)).grew g2;have G2:=dD ((G1.trans (za _ _)).trans g2);have r0:=X22.c 0 rfl;have r1:=X22.c 1 rfl;have rf:=X22.f;have HX:Hid (w.heap.size<W1.heap.size):=X2.lt;clear hb g2;go_wp2;refine bodyPost_ret (v:= .tuple #[.agg #[.slice a2 n c2,I6 0],I6 0]) (by simp[results,Tryz.results67,go_sem, *]) rfl ⟨_,rfl,?_,?_⟩
 ·exact((NB.setCell (a:=⟨w.heap.size,0,none⟩) HX _).setCell (a:=⟨w.heap.size,1,none⟩) HX _).base (bS G1)
 exact zC (zC G2 (by simp) _) (by simp) _
theorem zgW (n:Int) (hn:¬(0<=n/\n<=40)) (w:World):
  Calls prog 67 #[I6 n] w fun e w'=>∃b,e= .returned (.tuple #[.agg #[b,I6 0],I6 4])/\qR w.heap.size w' b ([]:List Fr)/\zc w w':=by
 by_cases h0:n<0
 ·go_enter func67,ntmps67
  go_wp2;refine bodyPost_ret (v:= .tuple #[.agg #[eS,I6 0],I6 4]) (by simp[results,Tryz.results67,go_sem, *]) rfl ⟨_,rfl,qR.nil _ _,?_⟩
  exact za _ _
 have h1:40<n:=by omega
 go_enter func67,ntmps67
 go_wp2;refine bodyPost_ret (v:= .tuple #[.agg #[eS,I6 0],I6 4]) (by simp[results,Tryz.results67,go_sem, *]) rfl ⟨_,rfl,qR.nil _ _,?_⟩
 exact za _ _
theorem zjm (n:Nat) (hn:n<=60) (w:World):
  Calls prog 68 #[I6 (n:Int)] w fun e w'=>∃a' c',e= .returned (.tuple #[.slice a' n c',I6 0])/\zbf slE w.heap.size w' (.slice a' n c') (List.replicate n 0)/\zc w w':=by
 have hnz:¬(n:Int)<0:=by omega
 have hn4:¬(60:Int)< (n:Int):=by omega
 go_enter func68,ntmps68
 go_wp2_with (refine ZF slE rfl (.tmp 10) rfl n rfl (by show n*8<=_;omega) ?_)
 intro C ow;have OW:Hid (zb slE w.heap.size (w.alloc (.cells C 3)) (.slice (some ⟨w.heap.size,0,none⟩) n n) (List.replicate n 0)):=ow;clear ow
 show wpList _ _ _ _ _ (w.alloc (.cells C 3))
 obtain⟨W1,hW1⟩:∃W1,w.alloc (.cells C 3)=W1:=⟨_,rfl⟩;have G1:=gA hW1
 rw[hW1]at OW⊢;clear hW1;go_wp2;refine bodyPost_ret (v:= .tuple #[.slice (some ⟨w.heap.size,0,none⟩) n n,I6 0]) (by simp[results,Tryz.results68,go_sem, *]) rfl ⟨_,_,rfl,OW.new,G1⟩
theorem zjn (n:Int) (hn:¬(0<=n/\n<=60)) (w:World):
  Calls prog 68 #[I6 n] w fun e w'=>e= .returned (.tuple #[eS,I6 4])/\zc w w':=by
 by_cases h0:n<0
 ·clear hn
  go_enter func68,ntmps68
  go_wp2;refine bodyPost_ret (v:= .tuple #[eS,I6 4]) (by simp[results,Tryz.results68,go_sem, *]) rfl ⟨rfl,zc.refl _⟩
 have h1:60<n:=by omega
 clear hn
 go_enter func68,ntmps68
 go_wp2;refine bodyPost_ret (v:= .tuple #[eS,I6 4]) (by simp[results,Tryz.results68,go_sem, *]) rfl ⟨rfl,zc.refl _⟩
theorem zhW (n:Int) (w:World):
  Calls prog 70 #[I6 n] w fun e w'=>e= .returned (.tuple #[.agg #[eS,I6 (if 0<=n/\n<=80 then n else 0)],I6 (if 0<=n/\n<=80 then 0 else 4)])/\zc w w':=by
 by_cases h:0<=n/\n<=80
 ·rw[if_pos h,if_pos h];have hb:=fun W=>JC (m:=n) (n:=81) h.1 (by omega) W
  clear h
  go_enter func70,ntmps70
  go_wp2_with (go_at_call 119;refine(hb _).mono ?_;rintro e w' ⟨rfl,rfl⟩)
  refine bodyPost_ret (v:= .tuple #[.agg #[eS,I6 n],I6 0]) (by simp[results,Tryz.results70,go_sem, *]) rfl ⟨rfl,?_⟩
  first | exact za _ _ | exact Below.setCell (Below.setCell (za _ _) (p:=⟨w.heap.size,0,none⟩) (by simp) _) (p:=⟨w.heap.size,1,none⟩) (by simp) _
 rw[if_neg h,if_neg h];have hb:=fun W=>zbz (m:=n) (n:=81) (by omega) W
 clear h
 go_enter func70,ntmps70
 go_wp2_with (go_at_call 119;refine(hb _).mono ?_;rintro e w' ⟨rfl,rfl⟩)
 refine bodyPost_ret (v:= .tuple #[.agg #[eS,I6 0],I6 4]) (by simp[results,Tryz.results70,go_sem, *]) rfl ⟨rfl,?_⟩
 first | exact za _ _ | exact Below.setCell (Below.setCell (za _ _) (p:=⟨w.heap.size,0,none⟩) (by simp) _) (p:=⟨w.heap.size,1,none⟩) (by simp) _
def zft (n:Int):Int:=if 0<=n/\n<=60 then 0 else 4
def zhX (n:Int):List Int:=if 0<=n/\n<=60 then List.replicate n.toNat 0 else []
theorem zgX (n:Int) (w:World):Calls prog 67 #[I6 n] w fun e w'=>∃s:Sli,e= .returned (.tuple #[.agg #[s.x,I6 0],I6 (zfv n)])/\(zr zaf w' (s.x) (zhY n)/\Qv w.heap.size (s.x))/\zc w w':=by
 by_cases h:0<=n/\n<=40
 ·obtain⟨k,rfl⟩:∃k:Nat,n=(k:Int):=⟨n.toNat,by omega⟩
  refine(zgV k (by omega) w).mono ?_
  rintro e w' ⟨b,rfl,h1,h2⟩;obtain⟨a,c,rfl,_⟩:=h1.1.rows;refine⟨⟨a,(List.replicate k frF).length,c⟩,?_,⟨?_,h1.2⟩,h2⟩
  ·unfold zfv;rw[if_pos h]
  unfold zhY;rw[if_pos h];exact h1.1
 refine(zgW n h w).mono ?_;rintro e w' ⟨b,rfl,h1,h2⟩;obtain⟨a,c,rfl,_⟩:=h1.1.rows;refine⟨⟨a,([]:List Fr).length,c⟩,?_,⟨?_,h1.2⟩,h2⟩
 ·unfold zfv;rw[if_neg h]
 unfold zhY;rw[if_neg h];exact h1.1
theorem zjo (n:Int) (w:World):Calls prog 68 #[I6 n] w fun e w'=>∃s:Sli,e= .returned (.tuple #[s.x,I6 (zft n)])/\(zr slE w' (s.x) (zhX n)/\Qv w.heap.size (s.x))/\zc w w':=by
 by_cases h:0<=n/\n<=60
 ·obtain⟨k,rfl⟩:∃k:Nat,n=(k:Int):=⟨n.toNat,by omega⟩
  refine(zjm k (by omega) w).mono ?_
  rintro e w' ⟨a,c,rfl,h1,h2⟩;refine⟨⟨a,k,c⟩,?_,⟨?_,h1.2⟩,h2⟩
  ·unfold zft;rw[if_pos h]
  unfold zhX;rw[if_pos h];exact h1.1
 refine(zjn n h w).mono ?_;rintro e w' ⟨rfl,h2⟩;refine⟨⟨none,0,0⟩,?_,⟨?_,Jv _⟩,h2⟩
 ·unfold zft;rw[if_neg h]
 unfold zhX;rw[if_neg h];exact zr.nil slE w'
theorem zek (n:Int) (w:World):Calls prog 69 #[I6 n] w fun e w'=>∃b q:Sli,e= .returned (.tuple #[.agg #[b.x,q.x],I6 (Qs n)])/\(ji w' (b.x) (zgi n)/\jh w' (q.x) []/\Qv w.heap.size (b.x)/\Qv w.heap.size (q.x))/\zc w w':=by
 refine(zky n w).mono ?_;rintro e w' ⟨d,rfl,⟨b,q,rfl,h1,h2,f1,f2⟩,h3⟩;obtain⟨a,c,rfl,_⟩:=h1.rows;obtain⟨a',c',rfl,_⟩:=h2.rows;exact⟨⟨a,(zgi n).length,c⟩,⟨a',([]:List (Int × List Int)).length,c'⟩,rfl,⟨h1,h2,f1,f2⟩,h3⟩
theorem jI.beside {α:Type} {enc:α->List Value} {row:Option Nat} {v:Value} {l:List α} (h:jI enc w v l) (hg:w.grownBy w' row) (hn:∀x n c,v= .slice (some x) n c->some x.block≠row):jI enc w' v l:=by
 obtain⟨a,c,h1,h2,h3⟩:=h;refine⟨a,c,h1,h2,fun x hx j u hj=>?_⟩
 subst hx;have hc:=h3 x rfl j u hj;rw[World.cell?_of_block (w:=w) (hg.block _ (World.block_lt_of_cell? _ _ hc) (by rw[zaJ];exact hn x _ _ h1))]
 exact hc
def zhe (f s b:Int):Prop:=(0<=f/\f<=40)/\(0<=s/\s<=60)/\(0<=b/\b<=80)
def zej (f s b:Int):Ma:=⟨List.replicate f.toNat frF,0,List.replicate s.toNat 0,List.replicate s.toNat zm,[],List.replicate b.toNat zm,[],[],b,[],[⟨true,[],qY⟩]⟩
def zgZ (f s b:Int):List Int:=[zfv f,zft s,Qs s,Qs b,if 0<=b/\b<=80 then 0 else 4]
theorem zhZ {f b:Int} (h:zhe f s b):zg (zgZ f s b)=0:=by
 obtain⟨h1,h2,h3⟩:=h;unfold zgZ zfv zft Qs;rw[if_pos h1,if_pos h2,if_pos (by omega),if_pos h3]
 rfl
theorem zgY {f b:Int} (h:¬zhe f s b):zg (zgZ f s b)=4:=by
 unfold zgZ zfv zft Qs;simp only[zJ,JM]
 by_cases h1:0<=f/\f<=40
 ·by_cases h2:0<=s/\s<=60
  ·by_cases h3:0<=b/\b<=80
   ·exact absurd ⟨h1,h2,h3⟩ h
   simp[h1,h2,h3,show s<=80 by omega]
  simp[h1,h2]
 simp[h1]
theorem zjp (cf cs cb:Int) (w:World):
  Calls prog 17 #[.agg #[I6 cf,I6 cs,I6 cb]] w fun e w'=>((zhe cf cs cb/\∃V:MaV,e= .returned (.tuple #[.agg #[V.f.x,I6 0,V.s.x,V.sb.x,V.sq.x,V.db.x,V.dq.x,V.fl.x,I6 cb,V.ca.x,V.sp.x],I6 0])/\zH w' V (zej cf cs cb))\/(¬zhe cf cs cb/\e= .returned (.tuple #[.agg zM.toArray,I6 4])))/\zc w w':=by
 obtain⟨W0,hW0⟩:∃W0,(w.alloc (.cells #[I6 cf,I6 cs,I6 cb] 23)).alloc (.cells zM.toArray 40)=W0:=⟨_,rfl⟩;have HG0:=gD2 hW0
 have X0:=x2a hW0
 have Y0:=x2b hW0
 have HW0:Hid (_=W0):=hW0;clear hW0;obtain⟨e1,HE1⟩:∃e,Hid (zfv cf=e):=⟨_,rfl⟩;obtain⟨e2,HE2⟩:∃e,Hid (zft cs=e):=⟨_,rfl⟩;obtain⟨e3,HE3⟩:∃e,Hid (Qs cs=e):=⟨_,rfl⟩;obtain⟨e4,HE4⟩:∃e,Hid (Qs cb=e):=⟨_,rfl⟩;obtain⟨e5,HE5⟩:∃e:Int,Hid ((if 0<=cb/\cb<=80 then(0:Int)else 4)=e):=⟨_,rfl⟩;obtain⟨z5,HZ5⟩:∃e:Int,Hid ((if 0<=cb/\cb<=80 then cb else 0)=e):=⟨_,rfl⟩;have h1:=fun W=>zgX cf W
 have h2:=fun W=>zjo cs W
 have h3:=fun W=>zek cs W
 have h4:=fun W=>zek cb W
 have h5:=fun W=>zhW cb W
 rw[HE1.out]at h1;rw[HE2.out]at h2;rw[HE3.out]at h3;rw[HE4.out]at h4;rw[HE5.out,HZ5.out]at h5;have HES:Hid (zgZ cf cs cb=[e1,e2,e3,e4,e5]):=dD<|by unfold zgZ;rw[HE1.out,HE2.out,HE3.out,HE4.out,HE5.out]
 have H1:Hid (∀W,_):=h1;have H2:Hid (∀W,_):=h2;have H3:Hid (∀W,_):=h3;have H4:Hid (∀W,_):=h4;have H5:Hid (∀W,_):=h5;clear h1 h2 h3 h4 h5
 go_enter func17,ntmps17
 go_upto_region 1 with fail;rw[HW0.out];have x0:=X0.c 0 rfl;go_wp2_with fail;refine(H1 _).mono ?_;rintro e W1 ⟨mf,rfl,⟨r1,f1⟩,g1⟩;clear x0;have R1:Hid (zr zaf W1 (mf.x) (zhY cf)):=r1;have HG1:Hid (zc W0 W1):=g1;have FR1:Hid (Qv W0.heap.size (mf.x)):=f1;clear r1 g1 f1;go_upto_region 2 with fail;obtain⟨W2,hW2⟩:∃W2,W1.alloc (.cells #[mf.x,I6 0] 27)=W2:=⟨_,rfl⟩;have HG2:=gA hW2
 have B2:=xA hW2
 rw[hW2];clear hW2;obtain⟨p2,HP2⟩:∃p,Hid (W1.heap.size=p):=⟨_,rfl⟩;rw[HP2.out]at B2⊢;have x1:=(X0.grew (HG1.trans HG2)).c 1 rfl;go_wp2_with fail;refine(H2 _).mono ?_;rintro e W3 ⟨ms,rfl,⟨r3,f3⟩,g3⟩;clear x1;have R3:Hid (zr slE W3 (ms.x) (zhX cs)):=r3;have HG3:Hid (zc W2 W3):=g3;have HG03:=dD ((HG1.trans HG2).trans g3);have FR3:Hid (Qv W2.heap.size (ms.x)):=f3;clear r3 g3 f3;have x1:=(X0.grew HG03).c 1 rfl;go_upto_region 3 with fail;go_wp2_with fail;refine(H3 _).mono ?_;rintro e W4 ⟨mb,mq,rfl,⟨r4,r5,f4,f5⟩,g4⟩;clear x1;have R4:Hid (ji W4 (mb.x) (zgi cs)):=r4;have R5:Hid (jh W4 (mq.x) []):=r5;have HG4:Hid (zc W3 W4):=g4;have FR4:Hid (Qv W3.heap.size (mb.x)):=f4;have FR5:Hid (Qv W3.heap.size (mq.x)):=f5;clear r4 r5 g4 f4 f5;go_upto_region 4 with fail;obtain⟨W5,hW5⟩:∃W5,W4.alloc (.cells #[mb.x,mq.x] 33)=W5:=⟨_,rfl⟩;have HG5:=gA hW5
 have B5:=xA hW5
 rw[hW5];clear hW5;obtain⟨p5,HP5⟩:∃p,Hid (W4.heap.size=p):=⟨_,rfl⟩;rw[HP5.out]at B5⊢;have HG05:=dD ((HG03.trans HG4).trans HG5);have x2:=(X0.grew HG05).c 2 rfl;go_wp2_with fail;refine(H4 _).mono ?_;rintro e W6 ⟨md,me,rfl,⟨r6,r7,f6,f7⟩,g6⟩;clear x2;have R6:Hid (ji W6 (md.x) (zgi cb)):=r6;have R7:Hid (jh W6 (me.x) []):=r7;have HG6:Hid (zc W5 W6):=g6;have FR6:Hid (Qv W5.heap.size (md.x)):=f6;have FR7:Hid (Qv W5.heap.size (me.x)):=f7;clear r6 r7 g6 f6 f7;go_upto_region 5 with fail;obtain⟨W7,hW7⟩:∃W7,W6.alloc (.cells #[md.x,me.x] 33)=W7:=⟨_,rfl⟩;have HG7:=gA hW7
 have B7:=xA hW7
 rw[hW7];clear hW7;obtain⟨p7,HP7⟩:∃p,Hid (W6.heap.size=p):=⟨_,rfl⟩;rw[HP7.out]at B7⊢;have HG07:=dD ((HG05.trans HG6).trans HG7);have x2:=(X0.grew HG07).c 2 rfl;go_wp2_with fail;refine(H5 _).mono ?_;rintro e W8 ⟨rfl,g8⟩;clear x2;have HG8:Hid (zc W7 W8):=g8;clear g8;go_upto_region 6 with fail;obtain⟨W9,hW9⟩:∃W9,W8.alloc (.cells #[eS,I6 z5] 36)=W9:=⟨_,rfl⟩;have HG9:=gA hW9
 have B9:=xA hW9
 rw[hW9];clear hW9;obtain⟨p9,HP9⟩:∃p,Hid (W8.heap.size=p):=⟨_,rfl⟩;rw[HP9.out]at B9⊢;obtain⟨E,HE⟩:∃E,Hid (zg [e1,e2,e3,e4,e5]=E):=⟨_,rfl⟩;have hor:=zbR (.slice (some ⟨W9.heap.size,0,none⟩) 5 5) [e1,e2,e3,e4,e5] _ (zfj zhw W9 [e1,e2,e3,e4,e5] #[I6 e1,I6 e2,I6 e3,I6 e4,I6 e5] rfl (show 5*8<=140737488355328 by decide))
 rw[HE.out]at hor;go_wp2_with fail;refine hor.mono ?_;rintro e W10 ⟨rfl,hw10⟩;clear hor;have HG10:Hid (zc W9 W10):=dD<|by rw[hw10];exact za _ _
 clear hw10;have HGW:=dD (((HG07.trans HG8).trans HG9).trans HG10);have Y10:=dD (Y0.grew HGW)
 by_cases hfew:zhe cf cs cb
 ·have hE0:E=0:=by rw[<-HE.out,<-HES.out];exact zhZ hfew
  subst hE0;have b20:=(B2.grew ((((((HG3.trans HG4).trans HG5).trans HG6).trans HG7).trans HG8).trans (HG9.trans HG10))).c 0 rfl;have b21:=(B2.grew ((((((HG3.trans HG4).trans HG5).trans HG6).trans HG7).trans HG8).trans (HG9.trans HG10))).c 1 rfl;have b50:=(B5.grew (((HG6.trans HG7).trans HG8).trans (HG9.trans HG10))).c 0 rfl;have b51:=(B5.grew (((HG6.trans HG7).trans HG8).trans (HG9.trans HG10))).c 1 rfl;have b70:=(B7.grew ((HG8).trans (HG9.trans HG10))).c 0 rfl;have b71:=(B7.grew ((HG8).trans (HG9.trans HG10))).c 1 rfl;have b90:=(B9.grew HG10).c 0 rfl;have b91:=(B9.grew HG10).c 1 rfl;have HFEW:Hid (zhe cf cs cb):=hfew;clear hfew;go_upto_region 9 with fail;obtain⟨W11,hW11⟩:∃W11,W10.alloc (.cells #[.bool true,eS,eS,eS,eS,eS,eS,eS,eS,eS] 65)=W11:=⟨_,rfl⟩;have HG11:=gA hW11
  have S11:Hid (zr jQ W11 (.slice (some ⟨W10.heap.size,0,none⟩) 1 1) [⟨true,zj,zj,zj,zj,zj,zj,zj,zj,zj⟩]):=dD<|by rw[<-hW11];exact jV jQ W10 ⟨true,zj,zj,zj,zj,zj,zj,zj,zj,zj⟩ _ _ rfl (by decide)
  have Y11:=dD (Y10.grew HG11);have HW11:Hid (_=W11):=hW11;clear hW11;obtain⟨ps,HPS⟩:∃p,Hid (W10.heap.size=p):=⟨_,rfl⟩
  go_wp2_with (first | (rw[HW11.out];rw[HPS.out];refine zn rfl 40 (.tmp 2) (.tmp 63) rfl (w.heap.size+1) rfl [mf.x,I6 0,ms.x,mb.x,mq.x,md.x,me.x,eS,I6 z5,eS,.slice (some ⟨ps,0,none⟩) 1 1] rfl Y11 rfl (by kernel_rfl) (fun v hv=>by
    simp only[mC,nM,or_false]at hv
    rcases hv with rfl|rfl|rfl|rfl|rfl|rfl|rfl|rfl|rfl|rfl|rfl <;> rfl) ?_))
  intro W12 hb12 hg12 _;clear b20 b21 b50 b51 b70 b71 b90 b91;have HG12:Hid (zc w W12):=dD<|ze ((HG0.trans HGW).trans HG11) hg12 (by omega)
  have HS0:w.heap.size+1<W0.heap.size:=Y0.lt;have k1:=bS HG1.out;have k2:=bS HG2.out;have k3:=bS HG3.out;have k4:=bS HG4.out;have k5:=bS HG5.out;have kw:=bS HGW.out;have far:∀{b:Nat} {v:Value},W0.heap.size<=b->Qv b v->∀x n c,v= .slice (some x) n c->some x.block≠some (w.heap.size+1):=fun hb hf x n c hv e=>by
   have:=hf x n c hv;simp only[Option.some.injEq]at e;omega
  have t1:zc W1 W11:=((((((HG2.trans HG3).trans HG4).trans HG5).trans HG6).trans HG7).trans HG8).trans ((HG9.trans HG10).trans HG11);have t3:zc W3 W11:=((((HG4.trans HG5).trans HG6).trans HG7).trans HG8).trans ((HG9.trans HG10).trans HG11);have t4:zc W4 W11:=(((HG5.trans HG6).trans HG7).trans HG8).trans ((HG9.trans HG10).trans HG11);have t6:zc W6 W11:=(HG7.trans HG8).trans ((HG9.trans HG10).trans HG11);have HMA:Hid (zH W12 ⟨mf,ms,mb,mq,md,me,zj,zj,⟨some ⟨ps,0,none⟩,1,1⟩⟩ (zej cf cs cb)):=dD<|by
   obtain⟨hf1,hf2,hf3⟩:=HFEW.out;refine⟨?_,?_,?_,?_,?_,?_,?_,zr.nil qX W12,?_⟩
   ·have h:=(R1.grew t1).beside hg12 (far (nR _) FR1);unfold zhY at h;rw[if_pos hf1]at h;exact h
   ·have h:=(R3.grew t3).beside hg12 (far (by omega) FR3)
    unfold zhX at h;rw[if_pos hf2]at h;exact h
   ·have h:ji W12 (mb.x) (zgi cs):=⟨(R4.grew t4).1.beside hg12 (far (by omega) FR4),R4.2⟩
    unfold zgi at h;rw[if_pos (by omega)]at h
    exact h
   ·exact⟨(R5.grew t4).1.beside hg12 (far (by omega) FR5),R5.2⟩
   ·have h:ji W12 (md.x) (zgi cb):=⟨(R6.grew t6).1.beside hg12 (far (by omega) FR6),R6.2⟩
    unfold zgi at h;rw[if_pos hf3]at h;exact h
   ·exact⟨(R7.grew t6).1.beside hg12 (far (by omega) FR7),R7.2⟩
   ·exact⟨nR _,[],fun w' _=>zr.nil fvE w',rfl,fun i x f hx=>by simp at hx⟩
   have hs:=S11.out;rw[HPS.out]at hs;refine⟨_,hs.beside hg12 (fun x n c hx e=>?_),rfl,fun i x s hx hs=>?_⟩
   ·cases hx;simp only[Option.some.injEq]at e;have:=HPS.out;omega
   cases i with
   | zero=>
    cases hx;cases hs;exact⟨rfl,zr.nil arE W12,nR _,Jg.nil 0 0 W12⟩
   | succ i=>simp at hx
  have hz5:z5=cb:=by rw[<-HZ5.out,if_pos HFEW.2.2]
  subst hz5;clear t1 t3 t4 t6 far k1 k2 k3 k4 k5 kw;go_wp2;refine bodyPost_ret (za7 rfl _ rfl hb12 underlying40 rfl (by kernel_rfl)) rfl ⟨.inl ⟨HFEW,⟨mf,ms,mb,mq,md,me,zj,zj,⟨some ⟨ps,0,none⟩,1,1⟩⟩,rfl,HMA⟩,HG12⟩
 have hE0:E=4:=by rw[<-HE.out,<-HES.out];exact zgY hfew
 subst hE0;have HFEW:Hid (¬zhe cf cs cb):=hfew;clear hfew
 go_wp2_with (refine zn rfl 40 (.tmp 2) (.tmp 54) rfl (w.heap.size+1) rfl zM rfl Y10 rfl (by kernel_rfl) (fun v hv=>by
   simp only[mC,nM,or_false]at hv
   rcases hv with rfl|rfl|rfl|rfl|rfl|rfl|rfl|rfl|rfl|rfl|rfl <;> rfl) ?_)
 intro W12 hb12 hg12 _;have HG12:Hid (zc w W12):=dD<|ze (HG0.trans HGW) hg12 (by omega)
 go_wp2;refine bodyPost_ret (za7 rfl _ rfl hb12 underlying40 rfl (by kernel_rfl)) rfl ⟨.inr ⟨HFEW,rfl⟩,HG12⟩
theorem zG {fn:Func} {p u t:Tmp} {ty:TypeId} (h:fn.results=#[.cell p ty,.tmp u,.tmp t]) (tmps:Array Value) (hp:tmps.getD p undef= .pointer (some ⟨b,0,none⟩)) (hb:Box w b vs) {d:TypeDesc} (hu:Tryz.prog.underlying ty=some d) (hd:d.isRow=true) (hi:(Tryz.prog.info? ty).map (·.size)=some vs.length):
  (results fn tmps).run prog w= .ok (.tuple #[.agg vs.toArray,tmps.getD u undef,tmps.getD t undef]) w:=by
 have hp':tmps[p]?.getD undef= .pointer (some ⟨b,0,none⟩):=by simpa using hp
 have hld:=run_loadVar_mid (P:=prog) w b 0 ty vs d hb.range hu hd hi
 simp[results,h,hp',asAddr,hld]
theorem zi9 (a:Int) {l:Nat} (hl:0<l):∃k:Nat,k<l/\(a.tmod l+l).tmod l=(k:Int)/\-(l:Int)<a.tmod l/\a.tmod l<l:=by
 have h1:-(l:Int)<a.tmod l:=by
  rcases Int.le_total 0 a with h|h
  ·rw[Int.tmod_eq_emod_of_nonneg h];have:=Int.emod_nonneg a (b:=(l:Int)) (by omega)
   omega
  have e:a.tmod l=-((-a).tmod l):=by rw[Int.neg_tmod];omega
  rw[e,Int.tmod_eq_emod_of_nonneg (by omega)]
  have:=Int.emod_lt_of_pos (-a) (b:=(l:Int)) (by omega)
  omega
 have h2:a.tmod l<l:=Int.tmod_lt_of_pos a (by omega)
 have h3:(a.tmod l+l).tmod l=(a.tmod l+l) % l:=Int.tmod_eq_emod_of_nonneg (by omega)
 have h4:0<=(a.tmod l+l) %(l:Int):=Int.emod_nonneg _ (by omega)
 have h5:(a.tmod l+l) %(l:Int)<l:=Int.emod_lt_of_pos _ (by omega)
 exact⟨((a.tmod l+l) %(l:Int)).toNat,by omega,by rw[h3];omega,h1,h2⟩
theorem zlb {cnt:Int}:∀v∈([V.f.x,I6 hd,V.s.x,V.sb.x,V.sq.x,V.db.x,V.dq.x,V.fl.x,I6 cnt,V.ca.x,V.sp.x]:List Value),v.oneCell'=true:=fun v hv=>by
 simp only[mC,nM,or_false]at hv
 rcases hv with rfl|rfl|rfl|rfl|rfl|rfl|rfl|rfl|rfl|rfl|rfl <;> rfl
theorem zdO.at {ns:Nat} (h:zdO w nf ns nb L w' V m T hd hi ht vt):zH w' V (jg m T hd)/\maW (jg m T hd)=0:=⟨h.rows.mach h.inv.tl hd,h.inv.right h.hand.1 h.hand.2⟩
theorem ziC {l:List Int} {n:Int} {k:Nat} (h:(k:Int)<=n\/k=0):ZB l 0 n k=l:=by
 unfold ZB
 apply List.ext_getElem?
 intro i;rw[List.getElem?_mapIdx]
 cases l[i]? with
 | none=>rfl
 | some z=>
  simp only[Option.map_some];rw[if_neg (by omega)]
theorem zkQ (l:List Int) (idx size:Int):zdQ l 0 (size - idx*8)=zdQ l idx size:=by
 unfold zdQ
 congr 1
 funext i z
 by_cases h:size<=8*idx+(i:Int)
 ·rw[if_pos h,if_pos (by omega)]
 rw[if_neg h,if_neg (by omega)]
theorem zfr (l:List Int) (n:Int) (w:World) (hl:l.length=8) (h1:-9223372036854775808<=n) (h2:n<=9223372036854775807):
  Calls prog 147 #[.agg (pgc l).toArray,I6 n] w fun e w'=>e= .returned (.agg (pgc (zdQ l 0 n)).toArray)/\(zdQ l 0 n).length=8/\zc w w':=by
 have HL:Hid (l.length=8):=hl;have HC8:Hid ((zdQ l 0 n).length=8):=show _=_ by unfold zdQ;simp[hl]
 obtain⟨W0,hW0⟩:∃W0,(w.alloc (.cells (pgc l).toArray 50)).alloc (.cells #[U8 0,U8 0,U8 0,U8 0,U8 0,U8 0,U8 0,U8 0] 50)=W0:=⟨_,rfl⟩;have G0:=gD2 hW0
 have X0:=x2a hW0
 have Y0:Hid (Box W0 (w.heap.size+1) (pgc zm)):=dD<|by rw[<-hW0];exact Box.top _ (pgc zm) _ (by simp)
 have HW0:Hid (_=W0):=hW0;have XB:Hid (Box W0 w.heap.size (pgc (ZB l 0 n n.toNat))):=show Box _ _ _ by rw[ziC (by omega)];exact X0.out
 obtain⟨CL,HCL⟩:∃CL,Hid (zdQ l 0 n=CL):=⟨_,rfl⟩;rw[HCL.out]at HC8⊢;clear hW0 hl
 go_enter func147,ntmps147
 go_upto_region 1 with fail;rw[HW0.out];go_wp2
 all_goals
  go_loopg [5] 8 (fun gg s5 wr=>∃k:Nat,n<=(k:Int)/\(k:Int)<=9223372036854775807/\8 - k<=gg/\s5=I6 k/\Hid (zc w wr)/\Hid (Box wr w.heap.size (pgc (ZB l 0 n k)))/\Hid (Box wr (w.heap.size+1) (pgc zm)))
  case atStart=>
   exact⟨n.toNat,by omega,by omega,by omega,(by first | rw[Int.toNat_eq_max] | (congr 1;omega) | (congr 1;rw[Int.max_def];split <;> omega) | (congr 1;split <;> omega)),G0,XB,Y0⟩
  obtain⟨k,hk,hk2,hg,rfl,GW,XW,YW⟩:=hrel
  by_cases hlt:k<8
  ·have hltz:(k:Int)<8:=by omega
   obtain⟨z,hz⟩:∃z,(ZB l 0 n k)[k]? =some z:=⟨_,gE (by rw[zeH,HL.out];exact hlt)⟩
   have z0:=XW.c k (zcL hz);have zf:=XW.f;clear hz;go_wp2;obtain⟨W1,hW1⟩:∃W1,wr.setCell ⟨w.heap.size,k,none⟩ (U8 0)=W1:=⟨_,rfl⟩;have X1:Hid (Box W1 w.heap.size (pgc (ZB l 0 n (k+1)))):=dD<|by rw[<-hW1,<-zeI (by rw[HL.out];exact hlt) (by omega),zbN];exact XW.set k _
   have Y1:Hid (Box W1 (w.heap.size+1) (pgc zm)):=dD<|by rw[<-hW1];exact YW.other (by simp) _
   have G1:Hid (zc w W1):=dD<|by rw[<-hW1];exact zC GW (by simp) _
   rw[hW1];clear hW1 z0 zf
   go_roundg (8 -(k+1))
   case measure=>omega
   exact⟨k+1,by omega,by omega,by omega,by go_num,G1,X1,Y1⟩
  have hltz:¬(k:Int)<8:=by omega
  have HCE:Hid (ZB l 0 n k=CL):=dD<|by rw[zeJ (by rw[HL.out];omega),HCL.out]
  rw[HCE.out]at XW
  go_wp2_with (first | refine zK rfl 50 (.tmp 2) rfl w.heap.size rfl XW underlying50 rfl (by rw[jU,HC8.out];exact zl3) ?_ | refine zn rfl 50 (.tmp 4) (.tmp 14) rfl (w.heap.size+1) rfl (pgc CL) rfl YW (by rw[jU,HC8.out];rfl) zl3 (z6 _) ?_)
  intro WL hbL hgL _;have HGL:Hid (zc w WL):=dD<|ze GW hgL (by omega)
  go_wp2;refine bodyPost_ret (zT rfl _ rfl hbL underlying50 rfl (by rw[jU,HC8.out];exact zl3)) rfl ⟨rfl,HC8,HGL⟩
structure zeW where
 arg:Operand
 pv:Value->Prop
 post:Value->Value->World->Prop
 step:World->World->Prop
 pre:World->Prop:=fun _=>True
section
variable(I:World->Prop) (P:Program) (ops:Array Oper) (S:Nat->Option zeW)
def jJ (i:Nat) (F:Nat->World->Prop) (a:Act) (K:(Nat->World->Prop)->Act->Prop):Prop:=
 match ops[i]? with
 | none=>False
 | some o=>
  if Region.wanted o (yielded ops a.tmps)then
   match S i with
   | none=>∃v,(∀w,I w->(∀m,anc ops 9 m i=true->F m w)->(execOp a.eval o).run P w= .ok (.value v) w)/\K F (a.put o.dst v)
   | some s=>(∀w,I w->s.pre w->(∀m,anc ops 9 m i=true->F m w)->zP P o a w fun v w'=>I w'/\s.step w w'/\s.pv v/\s.post (a.eval s.arg) v w')/\∀v,s.pv v->K (Za F i (s.post (a.eval s.arg) v)) (a.put o.dst v)
  else K F (a.put o.dst undef)
def ziW (Q:Act->World->Prop):List Nat->(Nat->World->Prop)->Act->Prop
 | [],F,a=>∀w,I w->(∀i,F i w)->Q a w
 | i :: l,F,a=>jJ I P ops S i F a (ziW Q l)
end
section
variable{I:World->Prop} {P:Program} {ops:Array Oper} {S:Nat->Option zeW} {T:Nat}
theorem jJ.mono {F:Nat->World->Prop} {a:Act} {K K':(Nat->World->Prop)->Act->Prop}
  (h:∀F' a',(∀m,m≠i->F' m=F m)->K F' a'->K' F' a') (hc:jJ I P ops S i F a K):jJ I P ops S i F a K':=by
 unfold jJ at*
 split
 ·rename_i ho;simp only[ho]at hc
 rename_i o ho
 simp only[ho]at hc
 split
 ·rename_i hw
  simp only[hw,if_true]at hc
  split
  ·rename_i hs
   simp only[hs]at hc;obtain⟨v,h1,h2⟩:=hc;exact⟨v,h1,h _ _ (fun _ _=>rfl) h2⟩
  rename_i s hs
  simp only[hs]at hc;exact⟨hc.1,fun v hv=>h _ _ (fun m hm=>zQ hm) (hc.2 v hv)⟩
 rename_i hw
 simp only[hw]at hc;exact h _ _ (fun _ _=>rfl) hc
theorem jJ.swap {F:Nat->World->Prop} {a:Act} {K:(Nat->World->Prop)->Act->Prop}
  (hi:ops[i]? =some oi) (hj:ops[j]? =some oj) (hne:i≠j) (hap:oi.apart ops oj=true)
  (hsi:∀cs b,oi.op≠.select cs b) (hsj:∀cs b,oj.op≠.select cs b)
  (hA:∀k s o,S k=some s->ops[k]? =some o->∀d,s.arg= .tmp d->d∈o.looksAt ops) (hij:anc ops 9 i j=false) (hji:anc ops 9 j i=false) (hS:∀s,S i=some s->∃v,s.pv v)
  (hw0:I w) (hF:∀m,anc ops 9 m j=true->F m w)
  (h:jJ I P ops S i F a fun F' a'=>jJ I P ops S j F' a' K):jJ I P ops S j F a fun F' a'=>jJ I P ops S i F' a' K:=by
 obtain⟨h1,h2,h3⟩:=Oper.apart_spec hap;have ei:∀v,execOp (a.put oj.dst v).eval oi=execOp a.eval oi:=fun v=>execOp_put oi hsi a oj.dst v h3
 have ej:∀v,execOp (a.put oi.dst v).eval oj=execOp a.eval oj:=fun v=>execOp_put oj hsj a oi.dst v h1
 have wi:∀v,Region.wanted oi (yielded ops (a.put oj.dst v).tmps)=Region.wanted oi (yielded ops a.tmps):=fun v=>wanted_put oi a oj.dst v h3
 have wj:∀v,Region.wanted oj (yielded ops (a.put oi.dst v).tmps)=Region.wanted oj (yielded ops a.tmps):=fun v=>wanted_put oj a oi.dst v h1
 have di:∀v w K,zP P oi (a.put oj.dst v) w K=zP P oi a w K:=fun v w K=>by unfold zP;rw[ei]
 have dj:∀v w K,zP P oj (a.put oi.dst v) w K=zP P oj a w K:=fun v w K=>by unfold zP;rw[ej]
 have gi:∀v s,S i=some s->(a.put oj.dst v).eval s.arg=a.eval s.arg:=fun v s hs=>Act.eval_put fun d hd hxd=>h3 d hd (hA i s oi hs hi d hxd)
 have gj:∀v s,S j=some s->(a.put oi.dst v).eval s.arg=a.eval s.arg:=fun v s hs=>Act.eval_put fun d hd hxd=>h1 d hd (hA j s oj hs hj d hxd)
 have pc:∀v u,(a.put oi.dst v).put oj.dst u=(a.put oj.dst u).put oi.dst v:=fun v u=>Act.put_comm a v u h2
 have fi:∀p,(fun m=>anc ops 9 m i=true->Za F j p m w=F m w)=fun _=>True:=fun p=>by
  funext m
  simp only[eq_iff_iff,iff_true];intro hm;rw[zQ (fun e=>by subst e;rw[hji]at hm;cases hm)]
 have faci:∀p w',(∀m,anc ops 9 m i=true->Za F j p m w')↔(∀m,anc ops 9 m i=true->F m w'):=fun p w'=>by
  constructor <;> intro hh m hm <;> have:=hh m hm
  ·rwa [zQ (fun e=>by subst e;rw[hji]at hm;cases hm)]at this
  rwa [zQ (fun e=>by subst e;rw[hji]at hm;cases hm)]
 have facj:∀p w',(∀m,anc ops 9 m j=true->Za F i p m w')↔(∀m,anc ops 9 m j=true->F m w'):=fun p w'=>by
  constructor <;> intro hh m hm <;> have:=hh m hm
  ·rwa [zQ (fun e=>by subst e;rw[hij]at hm;cases hm)]at this
  rwa [zQ (fun e=>by subst e;rw[hij]at hm;cases hm)]
 clear fi;unfold jJ at h⊢;simp only[hi,hj,ei,ej,wi,wj,di,dj,pc]at h⊢
 cases hwi:Region.wanted oi (yielded ops a.tmps) <;> cases hwj:Region.wanted oj (yielded ops a.tmps) <;>
  simp only[hwi,hwj,if_true,if_false,Bool.false_eq_true]at h⊢
 ·exact h
 ·cases hsj':S j with
  | none=>simp only[hsj']at h⊢;exact h
  | some s=>simp only[hsj',gj _ s hsj']at h⊢;exact h
 ·cases hsi':S i with
  | none=>simp only[hsi']at h⊢;exact h
  | some s=>simp only[hsi',gi _ s hsi']at h⊢;exact h
 cases hsi':S i with
 | none=>
  simp only[hsi']at h;obtain⟨vi,hri,h⟩:=h
  cases hsj':S j with
  | none=>
   simp only[hsj']at h⊢;obtain⟨vj,hrj,h⟩:=h;exact⟨vj,hrj,vi,hri,h⟩
  | some s=>
   simp only[hsj',gj _ s hsj']at h⊢;exact⟨h.1,fun vj hvj=>⟨vi,fun w' hw' hf=>hri w' hw' ((faci _ _).1 hf),h.2 vj hvj⟩⟩
 | some si=>
  simp only[hsi']at h;obtain⟨hdi,h⟩:=h;obtain⟨v1,hv1⟩:=hS si hsi'
  cases hsj':S j with
  | none=>
   simp only[hsj',gi _ si hsi']at h⊢;obtain⟨vj,hrj,_⟩:=h v1 hv1;refine⟨vj,fun w' hw' hf=>hrj w' hw' ((facj _ _).2 hf),hdi,fun vi hvi=>?_⟩
   obtain⟨vj',hrj',hl⟩:=h vi hvi;have e1:=hrj w hw0 ((facj _ _).2 hF);have e2:=hrj' w hw0 ((facj _ _).2 hF);rw[e1]at e2;simp only[Result.ok.injEq,Next.value.injEq,and_true]at e2;subst e2;exact hl
  | some sj=>
   simp only[hsj',gj _ sj hsj',gi _ si hsi']at h⊢;refine⟨fun w' hw' hpr hf=>(h v1 hv1).1 w' hw' hpr ((facj _ _).2 hf),fun vj hvj=>⟨fun w' hw' hpr hf=>hdi w' hw' hpr ((faci _ _).1 hf),fun vi hvi=>?_⟩⟩
   have:=(h vi hvi).2 vj hvj;rwa [zb3 hne]at this
theorem ziW.commute {Q:Act->World->Prop} {j:Nat} {oj:Oper} {w:World} (hj:ops[j]? =some oj) (hw0:I w)
  (hsel:∀(k:Nat) (o:Oper) cs b,ops[k]? =some o->o.op≠.select cs b) (hA:∀k s o,S k=some s->ops[k]? =some o->∀d,s.arg= .tmp d->d∈o.looksAt ops) (hS:∀k s,S k=some s->∃v,s.pv v):
  ∀(l:List Nat) (F:Nat->World->Prop) (a:Act),l.Nodup->j∈l->
   (∀i∈l,i≠j->∃oi,ops[i]? =some oi/\(i<j->oi.apart ops oj=true)/\anc ops 9 i j=false/\(i<j->anc ops 9 j i=false))->
   (l.Pairwise (·< ·))->(∀m,anc ops 9 m j=true->F m w)->ziW I P ops S Q l F a->ziW I P ops S Q (j :: l.filter (· != j)) F a
 | [],_,_,_,hm,_,_,_,_=>by cases hm
 | i :: l,F,a,hnd,hm,hall,hsorted,hF,h=>by
  by_cases hij:i=j
  ·subst hij;have:(i :: l).filter (· != i)=l:=by
    rw[List.filter_cons];simp only[bne_self_eq_false,Bool.false_eq_true,if_false];refine List.filter_eq_self.2 fun x hx=>?_
    have:x≠i:=fun e=>(List.nodup_cons.1 hnd).1 (e ▸ hx)
    simpa using this
   rw[this];exact h
  have hjl:j∈l:=by
   rcases mC.1 hm with e|e
   ·exact absurd e.symm hij
   exact e
  have hlt:i<j:=(List.pairwise_cons.1 hsorted).1 j hjl;obtain⟨oi,hoi,hap,haij,haji⟩:=hall i (by simp) hij
  have hf:(i :: l).filter (· != j)=i :: l.filter (· != j):=by
   rw[List.filter_cons];have:(i != j)=true:=by simpa using hij
   simp[this]
  rw[hf];refine jJ.swap hoi hj hij (hap hlt) (fun cs b=>hsel i oi cs b hoi) (fun cs b=>hsel j oj cs b hj) hA haij (haji hlt) (hS i) hw0 hF ?_
  refine jJ.mono (fun F' a' hF' hl=>?_) h
  refine ziW.commute hj hw0 hsel hA hS l F' a' (List.nodup_cons.1 hnd).2 hjl (fun k hk=>hall k (by simp[hk])) (List.pairwise_cons.1 hsorted).2 (fun m hma=>?_) hl
  rw[hF' m (fun e=>by subst e;rw[haij]at hma;cases hma)]
  exact hF m hma
theorem zdb {Q:Act->World->Prop} {l:List Oper} {m:Nat} (hA:∀k s o,S k=some s->ops[k]? =some o->∀d,s.arg= .tmp d->d∈o.looksAt ops) (hB:Zi ops T=true) (hTl:T+m=ops.size) (hll:l.length=m) (hops:∀j,l[j]? =ops[T+j]?) (hS:∀k s,S k=some s->∃v,s.pv v)
  (hp:∀k s j t,S k=some s->S j=some t->j≠k->anc ops 9 j k=false->∀u v w w',t.step w w'->s.post u v w->s.post u v w') (hpre:∀j t k s,S j=some t->S k=some s->j≠k->∀w w',s.step w w'->t.pre w->t.pre w') (hQ:∀a w,Q a w->wpList P ops Q' l a w):
  ∀(fuel:Nat) (listed:Array Bool) (F:Nat->World->Prop) (a:Act) (w:World),listed.size=ops.size->(∀i,T<=i->i<ops.size->listed.getD i true=false)->(zd listed T).length=fuel->Zr ops listed->I w->
   (∀i,F i w)->(∀i,(∀w,F i w)\/∃s u v,S i=some s/\F i=s.post u v/\listed.getD i false=true)->(∀k t,S k=some t->listed.getD k true=false->t.pre w)->ziW I P ops S Q (zd listed T) F a->wpAny P .any ops Q' (fuel+m) listed a w:=by
 have hsel:=Region.noSelect_spec (ops:=ops) (by simp only[Zi,Bool.and_eq_true]at hB;exact hB.1.1)
 intro fuel
 induction fuel with
 | zero=>
  intro listed F a w hsz hout hl hc hw hF hFp hPre h;have hnil:zd listed T=[]:=eN hl;rw[hnil]at h;rw[zA];refine ZD hB m l T listed a w (nR _) hsz hTl hll hops (fun i hi=>?_) hout (hQ _ _ (h w hw hF))
  cases hg:listed.getD i true with
  | true=>rfl
  | false=>
   have:i∈zd listed T:=List.mem_filter.2 ⟨List.mem_range.2 hi,by simp only[hg,beq_self_eq_true]⟩
   rw[hnil]at this;cases this
 | succ fuel ih=>
  intro listed F a w hsz hout hl hc hw hF hFp hPre h;rw[Nat.add_right_comm];refine⟨fun hr=>?_,fun j hj=>?_⟩
  ·exfalso
   cases hu:zd listed T with
   | nil=>simp[hu]at hl
   | cons x xs=>
    have hx:x∈zd listed T:=by rw[hu];simp
    have hx':=List.mem_filter.1 hx;have hxT:x<T:=List.mem_range.1 hx'.1;have hxs:x<ops.size:=by omega
    have ho:ops[x]? =some ops[x]:=Array.getElem?_eq_getElem hxs;have hsorted:(zd listed T).Pairwise (·< ·):=List.Pairwise.filter _ List.pairwise_lt_range;have:x∈Region.ready .any ops listed:=by
     refine mem_ready.2 ⟨by simpa using hx'.2,ops[x],ho,fun e he hb=>?_⟩
     have hed:zaL ops e.on x=true:=(jr ho).2 ⟨e,he,hb,rfl⟩;have hlt:=jy hB ho _ hed
     cases hg:listed.getD e.on true with
     | true=>exact Jt (by omega) hg
     | false=>
      have hmem:e.on∈zd listed T:=List.mem_filter.2 ⟨List.mem_range.2 (by omega),by simp only[hg,beq_self_eq_true]⟩
      rw[hu]at hmem hsorted
      rcases mC.1 hmem with e1|e1
      ·omega
      have:=(List.pairwise_cons.1 hsorted).1 _ e1;omega
    rw[hr]at this;cases this
  obtain⟨h0,oj,hoj,hall⟩:=mem_ready.1 hj;have hjs:j<ops.size:=(aS.1 hoj).1;have hdir:∀k,zaL ops k j=true->listed.getD k false=true:=fun k hk=>by
   obtain⟨e,he,hb,rfl⟩:=(jr hoj).1 hk;exact hall e he hb
  have hjT:j<T:=by
   rcases Nat.lt_or_ge j T with h1|h1
   ·exact h1
   exfalso
   cases hu:zd listed T with
   | nil=>simp[hu]at hl
   | cons x xs=>
    have hx:x∈zd listed T:=by rw[hu];simp
    have hx':=List.mem_filter.1 hx;have hxT:x<T:=List.mem_range.1 hx'.1;have:=qg hc j x j hdir (j7 hB hoj h1 x (by omega))
    rw[qw (by simpa using hx'.2)]at this
    cases this
  have hju:j∈zd listed T:=List.mem_filter.2 ⟨List.mem_range.2 hjT,by simp only[h0,beq_self_eq_true]⟩
  have hnd:(zd listed T).Nodup:=List.Pairwise.filter _ List.nodup_range;have hsorted:(zd listed T).Pairwise (·< ·):=List.Pairwise.filter _ List.pairwise_lt_range;have hcm:=ziW.commute hoj hw hsel hA hS (zd listed T) F a hnd hju (fun i hi hij=>by
   have hi':=List.mem_filter.1 hi;have hun:listed.getD i false=false:=qw (by simpa using hi'.2)
   have his:i<ops.size:=by have:=List.mem_range.1 hi'.1;omega
   have hoi:ops[i]? =some ops[i]:=Array.getElem?_eq_getElem his;refine⟨ops[i],hoi,fun hlt=>?_,?_,fun hlt=>?_⟩
   ·rcases j8 hB hoj hjT i hlt with he|⟨oi,hoi',hap⟩
    ·have:=hdir i he;rw[hun]at this;cases this
    rw[hoi]at hoi';cases hoi';exact hap
   ·cases ha:anc ops 9 i j with
    | false=>rfl
    | true=>
     have:=qg hc 9 i j hdir ha;rw[hun]at this;cases this
   cases ha:anc ops 9 j i with
   | false=>rfl
   | true=>
    have:=zai hB 9 j i ha
    omega) hsorted (fun m _=>hF m) h
  have hsz':(listed.setIfInBounds j true).size=ops.size:=by simp[hsz]
  have hout':∀i,T<=i->i<ops.size->(listed.setIfInBounds j true).getD i true=false:=fun i hi hi'=>by rw[getD_set_ne true (by omega)];exact hout i hi hi'
  have hlen':(zd (listed.setIfInBounds j true) T).length=fuel:=by
   rw[qh (by omega)]
   have he:(zd listed T).filter (· != j)=(zd listed T).erase j:=by
    rw[List.Nodup.erase_eq_filter hnd]
   rw[he,List.length_erase_of_mem hju];omega
  have hc':Zr ops (listed.setIfInBounds j true):=fun i k hk hik=>by
   by_cases hkj:j=k
   ·subst hkj;exact getD_set_true (hdir i hik)
   rw[getD_set_ne false hkj]at hk;exact getD_set_true (hc i k hk hik)
  have hFs:(∀i,(∀w,F i w)\/∃s u v,S i=some s/\F i=s.post u v/\listed.getD i false=true)->∀i,(∀w,F i w)\/∃s u v,S i=some s/\F i=s.post u v/\(listed.setIfInBounds j true).getD i false=true:=fun h i=>by
   rcases h i with h1|⟨s1,u1,v1,e1,e2,e3⟩
   ·exact .inl h1
   refine .inr ⟨s1,u1,v1,e1,e2,?_⟩
   by_cases hij:j=i
   ·subst hij
    simp[show j<listed.size by omega]
   rw[getD_set_ne false hij];exact e3
  have hPs:∀k,(listed.setIfInBounds j true).getD k true=false->k≠j/\listed.getD k true=false:=fun k hl'=>by
   by_cases hkj:j=k
   ·subst hkj
    simp[show j<listed.size by omega]at hl'
   rw[getD_set_ne true hkj]at hl';exact⟨fun e=>hkj e.symm,hl'⟩
  unfold wpOp;simp only[hoj];simp only[ziW,jJ,hoj]at hcm;rw[<-qh (by omega)]at hcm
  split
  ·rename_i hwant
   simp only[hwant,if_true]at hcm;refine .inl ?_
   cases hs:S j with
   | none=>
    simp only[hs]at hcm;obtain⟨v,hrun,hk⟩:=hcm;have hr:=hrun w hw (fun m _=>hF m)
    unfold Oper.wp;rw[hr];exact ih _ F _ w hsz' hout' hlen' hc' hw hF (hFs hFp) (fun k t hk' hl'=>(hPs k hl').elim fun _ q=>hPre k t hk' q) hk
   | some s=>
    simp only[hs]at hcm;refine(hcm.1 w hw (hPre j s hs h0) (fun m _=>hF m)).wp fun v w' ⟨hi',hstep,hpv,hpost⟩=>?_
    refine ih _ (Za F j (s.post (a.eval s.arg) v)) _ w' hsz' hout' hlen' hc' hi' (fun i=>?_) (fun i=>?_) (fun k t hk' hl'=>(hPs k hl').elim fun q1 q2=>hpre k t j s hk' hs q1 w w' hstep (hPre k t hk' q2)) (hcm.2 v hpv)
    ·unfold Za
     split
     ·exact hpost
     rename_i hij
     rcases hFp i with h1|⟨s1,u1,v1,e1,e2,e3⟩
     ·exact h1 w'
     rw[e2];refine hp i s1 j s e1 hs (fun e=>hij e.symm) ?_ u1 v1 w w' hstep ?_
     ·cases ha:anc ops 9 j i with
      | false=>rfl
      | true=>
       have h1:=qg hc 9 j i (fun k hk=>hc k i e3 hk) ha
       rw[qw h0]at h1;cases h1
     have:=hF i;rw[e2]at this;exact this
    by_cases hij:i=j
    ·subst hij;refine .inr ⟨s,a.eval s.arg,v,hs,?_,?_⟩
     ·unfold Za;rw[if_pos rfl]
     simp[show i<listed.size by omega]
    rcases hFp i with h1|⟨s1,u1,v1,e1,e2,e3⟩
    ·refine .inl fun w=>?_
     unfold Za;rw[if_neg hij];exact h1 w
    refine .inr ⟨s1,u1,v1,e1,?_,?_⟩
    ·unfold Za;rw[if_neg hij];exact e2
    rw[getD_set_ne false (fun e=>hij e.symm)]
    exact e3
  rename_i hwant
  simp only[hwant]at hcm;exact ih _ F _ w hsz' hout' hlen' hc' hw hF (hFs hFp) (fun k t hk' hl'=>(hPs k hl').elim fun _ q=>hPre k t hk' q) hcm
end
section
variable{I:World->Prop} {P:Program} {ops:Array Oper} {S:Nat->Option zeW} {Q:Act->World->Prop}
variable(I P ops S Q)in
def za5:List Oper->Nat->(Nat->World->Prop)->Act->Prop
 | [],_,F,a=>∀w,I w->(∀i,F i w)->Q a w
 | o :: rest,k,F,a=>
  if Region.wanted o (yielded ops a.tmps)then
   match S k with
   | none=>∃v,(∀w,I w->(∀m,anc ops 9 m k=true->F m w)->(execOp a.eval o).run P w= .ok (.value v) w)/\za5 rest (k+1) F (a.put o.dst v)
   | some s=>(∀w,I w->s.pre w->(∀m,anc ops 9 m k=true->F m w)->zP P o a w fun v w'=>I w'/\s.step w w'/\s.pv v/\s.post (a.eval s.arg) v w')/\∀v,s.pv v->za5 rest (k+1) (Za F k (s.post (a.eval s.arg) v)) (a.put o.dst v)
  else za5 rest (k+1) F (a.put o.dst undef)
theorem QP:∀(l:List Oper) (k:Nat) (F:Nat->World->Prop) (a:Act),(∀j,l[j]? =ops[k+j]?\/l.length<=j)->za5 I P ops S Q l k F a->ziW I P ops S Q (List.range' k l.length) F a
 | [],_,_,_,_,h=>h
 | o :: l,k,F,a,hl,h=>by
  have h0:ops[k]? =some o:=by
   rcases hl 0 with e|e
   ·simpa using e.symm
   simp at e
  have hnext:∀j,l[j]? =ops[k+1+j]?\/l.length<=j:=fun j=>by
   rcases hl (j+1)with e|e
   ·left;rw[List.getElem?_cons_succ]at e;rw[e];congr 1;omega
   right;simpa using e
  simp only[List.length_cons,List.range'_succ,ziW,jJ,h0];unfold za5 at h
  split
  ·rename_i hw
   simp only[hw,if_true]at h
   cases hs:S k with
   | none=>
    simp only[hs]at h;obtain⟨v,h1,h2⟩:=h;exact⟨v,h1,QP l (k+1) _ _ hnext h2⟩
   | some s=>
    simp only[hs]at h;exact⟨h.1,fun v hv=>QP l (k+1) _ _ hnext (h.2 v hv)⟩
  rename_i hw
  simp only[hw]at h;exact QP l (k+1) _ _ hnext h
variable(I P ops S Q)in
structure zht (l:List Oper) (k:Nat) (F:Nat->World->Prop) (a:Act):Prop where
 out:za5 I P ops S Q l k F a
def ziL (ops:Array Oper) (S:List (Nat × zeW)):Bool:=S.all fun x=>match x.2.arg with
 | .tmp d=>(match ops[x.1]? with | some o=>(o.looksAt ops).contains d | none=>false)
 | _=>true
theorem zfV {ops:Array Oper} {S:List (Nat × zeW)} (h:ziL ops S=true):∀k s o,S.lookup k=some s->ops[k]? =some o->∀d,s.arg= .tmp d->d∈o.looksAt ops:=fun k s o hk ho d hd=>by
 have hm:(k,s)∈S:=by
  induction S with
  | nil=>simp at hk
  | cons x S ih=>
   rw[List.lookup_cons]at hk
   split at hk
   ·rename_i e
    have e1:k=x.1:=by simpa using e
    have e2:x.2=s:=by simpa using hk
    rw[e1,<-e2];simp
   exact List.mem_cons_of_mem _ (ih (by simp only[ziL,List.all_cons,Bool.and_eq_true]at h;exact h.2) hk)
 have:=List.all_eq_true.1 h _ hm;simp only[hd,ho]at this
 simpa using this
theorem zdY {Q:Exit->Act->World->Prop} {a:Act} {L l r:List Oper} (T:Nat) (S:List (Nat × zeW)) (hI:I w.drew) (hm:P.follows .mixedOrders=true) (hAB:ziL L.toArray S=true) (hB:Zi L.toArray T=true) (hl:L.take T=l) (hr:L.drop T=r) (hT:T<=L.length)
  (hS:∀x∈S,∃v,x.2.pv v) (hp:∀k s j t,S.lookup k=some s->S.lookup j=some t->j≠k->anc L.toArray 9 j k=false->∀u v w w',t.step w w'->s.post u v w->s.post u v w') (hpre:∀j t k s,S.lookup j=some t->S.lookup k=some s->j≠k->∀w w',s.step w w'->t.pre w->t.pre w') (hpr0:∀k t,S.lookup k=some t->t.pre w.drew)
  (h:zht I P L.toArray (fun k=>S.lookup k) (fun a w=>wpList P L.toArray Q r a w) l 0 (fun _ _=>True) a):(Code.region id L.toArray true).wp P Q a w:=by
 have hlook:∀(S:List (Nat × zeW)) k s,S.lookup k=some s->∃x∈S,x.2=s:=by
  intro S
  induction S with
  | nil=>intro k s h;simp at h
  | cons x S ih=>
   intro k s h;rw[List.lookup_cons]at h
   split at h
   ·exact⟨x,by simp,by simpa using h⟩
   obtain⟨y,hy,he⟩:=ih k s h;exact⟨y,by simp[hy],he⟩
 have hlT:l.length=T:=by rw[<-hl,List.length_take];omega
 have hrT:r.length=L.length - T:=by rw[<-hr,List.length_drop]
 refine wp_region_any hm ?_;have hu:zd (Array.replicate L.toArray.size false) T=List.range T:=by
  unfold zd;refine List.filter_eq_self.2 fun i hi=>?_
  have:i<T:=by simpa using hi
  simp[show i<L.length by omega]
 have h':=QP (ops:=L.toArray) l 0 _ a (fun j=>by
  rcases Nat.lt_or_ge j T with hj|hj
  ·left;rw[<-hl,List.getElem?_take_of_lt hj];simp
  right;omega) h.out
 rw[hlT,<-List.range_eq_range']at h';have hfin:=zdb (I:=I) (P:=P) (S:=fun k=>S.lookup k) (F:=fun _ _=>True) (ops:=L.toArray) (T:=T) (l:=r) (m:=L.length - T) (Q:=fun a w=>wpList P L.toArray Q r a w) (Q':=Q) (zfV hAB) hB (by simp;omega) hrT (fun j=>by rw[<-hr,List.getElem?_drop];simp) (fun k s hs=>by obtain⟨x,hx,rfl⟩:=hlook S k s hs;exact hS x hx) hp hpre (fun _ _ h=>h)
  T (Array.replicate L.toArray.size false) a w.drew (by simp) (fun i hi hi'=>by simp at hi';simp[hi']) (by rw[hu];simp) (fun i j hj _=>by
   exfalso;rw[Array.getD_eq_getD_getElem?,Array.getElem?_replicate]at hj
   split at hj <;> simp at hj)
  hI (fun _=>trivial) (fun _=> .inl fun _=>trivial) (fun k t hk _=>hpr0 k t hk) (by rw[hu];exact h')
 have hsz:T+(L.length - T)=L.toArray.size:=by simp;omega
 rw[hsz]at hfin;exact hfin
variable{o:Oper} {rest:List Oper} {k:Nat} {F:Nat->World->Prop} {a:Act}
theorem zaV (ht:zkm o=true) (hw:Region.wanted o (yielded ops a.tmps)=true) (hS:S k=none)
  (h:∀K:Act->Prop,(∀a,zht I P ops S Q rest (k+1) F a->K a)->o.quiet P a (fun w'=>∃x:zk I,w'=x.world) K):zht I P ops S Q (o :: rest) k F a:=by
 obtain⟨v,h1,h2⟩:=h _ fun _ h=>h
 constructor;unfold za5;rw[if_pos hw];simp only[hS];refine⟨v,fun w hg _=>?_,h2.out⟩
 have h3:=h1 w ⟨⟨w,hg⟩,rfl⟩;unfold Oper.quietAt at h3;have hne:=fun n w'=>@Qm P o ht a.eval w w' n
 generalize(execOp a.eval o).run P w=r at*
 cases r with
 | ok n w'=>
  cases n <;> simp only[Oper.quietUpon]at h3
  case value u=>rw[h3.1,h3.2]
  case skip=>obtain⟨_,he⟩:=hne _ _ rfl;cases he
  case enter f args=>obtain⟨_,he⟩:=hne _ _ rfl;cases he
 | halt x w'=>simp only[Oper.quietUpon]at h3
theorem zbX {s:zeW} (hw:Region.wanted o (yielded ops a.tmps)=true) (hS:S k=some s)
  (h:∀w,I w->s.pre w->(∀m,anc ops 9 m k=true->F m w)->zP P o a w fun v w'=>I w'/\s.step w w'/\s.pv v/\s.post (a.eval s.arg) v w')
  (hn:∀v,s.pv v->zht I P ops S Q rest (k+1) (Za F k (s.post (a.eval s.arg) v)) (a.put o.dst v)):zht I P ops S Q (o :: rest) k F a:=by
 constructor;unfold za5;rw[if_pos hw];simp only[hS];exact⟨h,fun v hv=>(hn v hv).out⟩
theorem zjy (h:∀w,I w->(∀i,F i w)->Q a w):zht I P ops S Q [] k F a:=⟨h⟩
end
theorem zP.storeAllT {a:Act} {K:Value->World->Prop} (ty:TypeId) (p x:Operand) (ho:o.op= .store ty p x) (b:Nat) (hp:a.eval p= .pointer (some ⟨b,0,none⟩)) (vs:List Value) (hx:a.eval x= .agg vs.toArray)
  {t:TypeId} {cs:List Value} (hb:zD w b t cs) (hl:vs.length=cs.length) (hi:(Tryz.prog.info? ty).map (·.size)=some cs.length) (h1:∀v∈vs,v.oneCell'=true)
  (h:∀w',zD w' b t vs->w.grownBy w' (some b)->w'.heap.size=w.heap.size->K undef w'):zP prog o a w K:=by
 unfold zP;have hr:(execOp a.eval o).run prog w= .ok .skip (w.setCells b 0 vs):=by
  have:=run_storeAt_mid (P:=prog) w b 0 ty vs.toArray (by simpa [hl]using hb.box.there) (by simpa [hl]using hi) (all_oneCell_toArray h1)
  simp only[execOp,ho,hp,hx,Sem.run_bind,this,rA,Sem.run_pure]
 rw[hr];have hp:=hb.part (ds:=vs) (o:=0) (by omega)
 rw[JJ hl]at hp;exact h _ hp (zU b vs 0 w).1 (zU b vs 0 w).2
theorem zeG (h1:∀p∈m.db,p.length=8) (h2:∀q∈m.dq,q.2.length=8) (file idx:Int):(za2 m file idx).length=8:=by
 unfold za2
 split
 ·rfl
 simp[zdQ,zcJ h1 h2]
theorem zjR {ix:Nat} {f:Fl} {bk:Int} (hf:m.fl[fi]? =some f) (hbk:f.bl[ix]? =some bk):za2 m fi ix=if bk<0 then zm else zdQ (ju m.db m.dq bk) ix f.size:=by
 have hg:m.fl.getD ((fi:Int).toNat) ⟨0,[]⟩=f:=by rw[tN,gD,hf];rfl
 have e1:zkb m fi ix=bk:=by unfold zkb;rw[hg,tN,gD,hbk];rfl
 have e2:zhG m fi=f.size:=by unfold zhG;rw[hg]
 unfold za2;rw[e1,e2]
theorem zkE {fl:List Fl} {ix:Nat} {f:Fl} {bk:Int} (hf:fl[fi]? =some f) (hbk:f.bl[ix]? =some bk):zie fl fi ix=true:=by
 have h1:=(gS.1 hf).1;have h2:=(gS.1 hbk).1;have hg:fl.getD ((fi:Int).toNat) ⟨0,[]⟩=f:=by rw[tN,gD,hf];rfl
 unfold zie;rw[hg,jY.2 ⟨by omega,by omega⟩,jY.2 ⟨by omega,by omega⟩]
 rfl
theorem zfe (V:MaV) (m:Ma) (fi ix:Nat) (f:Fl) (bk:Int) (w:World) (hm:zH w V m) (hf:m.fl[fi]? =some f) (hbk:f.bl[ix]? =some bk) (hix:ix<=1000) (hsz:0<=f.size/\f.size<=1000):
  Calls prog 109 #[.agg (mL V m).toArray,I6 (fi:Int),I6 (ix:Int)] w fun e w'=>e= .returned (.agg (pgc (za2 m fi ix)).toArray)/\(za2 m fi ix).length=8/\zc w w':=by
 have HRD:Hid (∀W,zc w W->Calls prog 113 #[.agg #[V.db.x,V.dq.x],I6 bk] W fun e w'=>e= .returned (.tuple #[.agg (pgc (ju m.db m.dq bk)).toArray,I6 (zW m.db.length m.dq bk)])/\zc W w'):=dD<|fun W hW=>zgc _ m.db m.dq bk W ⟨_,_,rfl,(hm.grew hW).db,(hm.grew hW).dq⟩
 have HHP:Hid (∀W,zc w W->Calls prog 115 #[.agg #[V.fl.x,I6 m.cnt],I6 (fi:Int),I6 (ix:Int)] W fun e w'=>e= .returned (.bool true)/\zc W w'):=dD<|fun W hW=>by
  have:=zac (V.fl.x) m.fl m.cnt fi ix W (hm.grew hW).fl;rw[zkE hf hbk]at this;exact this
 have HRL:Hid ((ju m.db m.dq bk).length=8):=zcJ hm.db.2.1 hm.dq.2.1;have HD8:Hid ((za2 m fi ix).length=8):=zeG hm.db.2.1 hm.dq.2.1 _ _;have HDL:Hid (za2 m fi ix=if bk<0 then zm else zdQ (ju m.db m.dq bk) ix f.size):=zjR hf hbk;obtain⟨C,HC⟩:∃C,Hid (za2 m fi ix=C):=⟨_,rfl⟩;rw[HC.out]at HDL HD8⊢;obtain⟨⟨fa,fn,fc⟩,vs,vsb,vsq,vdb,vdq,⟨fla,fln,flc⟩,⟨caa,can,cac⟩,vsp⟩:=V;dsimp only[mL]at HRD HHP⊢;obtain⟨-,-,-,-,-,-,n7,-,-⟩:=hm.ns;dsimp only at n7;obtain⟨_,_,hfe,_,hfr⟩:=qL.rows hm.fl;have HFL:Hid (jZ w fla m.fl):=show jZ _ _ _ by
  simp only[vJ]at hfe;rw[hfe.1];exact hfr
 have hfn:fi<fln:=by rw[n7];exact(gS.1 hf).1
 obtain⟨ad,rfl,ba,bc,hbr,hfl⟩:=HFL.out fi f hf;have HBL:Hid (∀W,zc w W->zck W (ad.add (fi*2)) f.size (.slice ba f.bl.length bc)):=dD<|hfl
 obtain⟨_,_,hbe,hbn⟩:=hbr.nums;have hbl:ix<f.bl.length:=(gS.1 hbk).1;obtain⟨ad2,had2,hb2⟩:=hbn ix bk hbk;have HB2:Hid (ba=some ad2/\∀W,zc w W->W.cell? (ad2.add ix)=some (I6 bk)):=dD<|⟨by simp only[vJ]at hbe;rw[hbe.1];exact had2,hb2⟩
 obtain⟨bn,HBN⟩:∃bn,Hid (f.bl.length=bn):=⟨_,rfl⟩;rw[HBN.out]at hbl HBL;clear hm n7 hfe hfr hf hbk hfl hbr hbe hbn had2 hb2;obtain⟨z,HZ⟩:∃z,Hid (f.size=z):=⟨_,rfl⟩;rw[HZ.out]at HBL HDL hsz;have hfz:(fi:Int)< (fln:Int):=by omega
 have hbz:(ix:Int)< (bn:Int):=by omega
 obtain⟨W0,hW0⟩:∃W0,(w.alloc (.cells #[.slice fa fn fc,I6 m.hand,vs.x,vsb.x,vsq.x,vdb.x,vdq.x,.slice (some ad) fln flc,I6 m.cnt,.slice caa can cac,vsp.x] 40)).alloc (.cells #[U8 0,U8 0,U8 0,U8 0,U8 0,U8 0,U8 0,U8 0] 50)=W0:=⟨_,rfl⟩;have G0:=gD2 hW0
 have X0:=x2a hW0
 have Y0:Hid (Box W0 (w.heap.size+1) (pgc zm)):=dD<|by rw[<-hW0];exact Box.top _ (pgc zm) _ (by simp)
 have HW0:Hid (_=W0):=hW0;clear hW0
 go_enter func109,ntmps109
 go_upto_region 1 with fail;rw[HW0.out];have x7:=X0.c 7 rfl;have x8:=X0.c 8 rfl;have hc:=HHP.out W0 G0.out;go_wp2_with fail;refine hc.mono ?_;clear hc x7 x8;rintro r W1 ⟨rfl,g1⟩;have G1:=dD (G0.trans g1);have X1:=dD (X0.grew g1);have Y1:=dD (Y0.grew g1);clear g1;have x7:=X1.c 7 rfl;obtain⟨d0,d1⟩:=HBL.out W1 G1.out;go_upto_region 4 with fail;obtain⟨pf,HPF⟩:∃pf,Hid (W1.heap.size=pf):=⟨_,rfl⟩;obtain⟨W2,hW2⟩:∃W2,W1.alloc (.cells #[I6 z,.slice ba bn bc] 71)=W2:=⟨_,rfl⟩;have g2:=gP hW2
 have F2:=xP hW2 HPF
 have G2:=dD (G1.trans g2);have X2:=dD (X1.grew g2);have Y2:=dD (Y1.grew g2);rw[hW2,HPF.out];clear hW2 g2 d0 d1 x7;obtain⟨hba,hb2⟩:=HB2.out;subst hba;have HB3:Hid (∀W,zc w W->W.cell? (ad2.add ix)=some (I6 bk)):=show∀W,_ from hb2
 clear hb2;have f1:=F2.c 1 rfl;have e0:=HB3.out W2 G2.out
 by_cases hb:bk<0
 ·rw[if_pos hb]at HDL
  go_wp2_with (refine zn rfl 50 (.tmp 6) (.tmp 29) rfl (w.heap.size+1) rfl (pgc zm) rfl Y2 rfl zl3 (z6 _) ?_)
  intro WL hbL hgL _;have HGL:Hid (zc w WL):=dD<|ze G2 hgL (by omega)
  go_wp2;refine bodyPost_ret (zT rfl _ rfl hbL underlying50 rfl zl3) rfl ⟨by rw[HDL.out],by rw[HDL.out];rfl,HGL⟩
 rw[if_neg hb]at HDL;have hbd:decide (bk<0)=false:=decide_eq_false hb;go_upto_region 6 with fail;clear f1 e0 hb hbd;obtain⟨p,HP⟩:∃p,Hid (ju m.db m.dq bk=p):=⟨_,rfl⟩;rw[HP.out]at HDL HRL HRD;obtain⟨p0,p1,p2,p3,p4,p5,p6,p7,rfl⟩:=zdP p HRL.out;obtain⟨I,HI⟩:∃I:World->Prop,Hid (∀u,I u↔zc W2 u):=⟨fun u=>zc W2 u,fun _=>Iff.rfl⟩
 have hI0:I W2.drew:=(HI _).2 (gW _)
 have hx5:=X2.h HI 5 rfl
 have hx6:=X2.h HI 6 rfl
 have hf1:=F2.h HI 1 rfl
 have he0:∀y:zk I,y.world.cell? (ad2.add ix)=some (I6 bk):=fun y=>HB3.out _ (G2.trans ((HI _).1 y.holds))
 have hne:Nonempty (zk I):=⟨⟨_,hI0⟩⟩;refine zdY (I:=I) 14 [(7,⟨.const (.bool false),fun v=>v= .tuple #[.agg #[U8 p0,U8 p1,U8 p2,U8 p3,U8 p4,U8 p5,U8 p6,U8 p7],I6 (zW m.db.length m.dq bk)],fun _ _ _=>True,fun p q=>zc p q,fun _=>True⟩),(11,⟨.const (.bool false),fun v=>∃g,v= .pointer (some ⟨g,0,none⟩),fun _ v u=>∃g cs,v= .pointer (some ⟨g,0,none⟩)/\W2.heap.size<=g/\zD u g 50 cs/\cs.length=8,fun p q=>zc p q,fun _=>True⟩),(12,⟨.tmp 8,fun _=>True,fun r _ u=>∃g,r= .pointer (some ⟨g,0,none⟩)/\W2.heap.size<=g/\Box u g (pgc [p0,p1,p2,p3,p4,p5,p6,p7]),fun p q=>∃g,W2.heap.size<=g/\p.grownBy q (some g)/\zD q g 50 (pgc [p0,p1,p2,p3,p4,p5,p6,p7]),fun _=>True⟩)] hI0 qu (by kernel_rfl) (by kernel_rfl) rfl rfl (by decide) ?hS ?hp ?hpre ?hpr0 ?_
 case hS=>
  intro x hx;simp only[mC,nM,or_false]at hx
  rcases hx with rfl|rfl|rfl
  ·exact⟨_,rfl⟩
  ·exact⟨_,0,rfl⟩
  exact⟨.bool true,trivial⟩
 case hp=>
  intro k s j t hk hj hjk hanc r v p q hst hpo;have hk':=zt hk;have hj':=zt hj;clear hk hj;simp only[mC,pJ,nM,or_false]at hk' hj'
  rcases hk' with⟨rfl,rfl⟩|⟨rfl,rfl⟩|⟨rfl,rfl⟩
  ·trivial
  ·obtain⟨g,cs,h1,h2,h3,h4⟩:=hpo
   rcases hj' with⟨rfl,rfl⟩|⟨rfl,rfl⟩|⟨rfl,rfl⟩
   ·exact⟨g,cs,h1,h2,h3.grew hst,h4⟩
   ·exact absurd rfl hjk
   obtain⟨g',q1,q2,q3⟩:=hst
   by_cases e:g=g'
   ·subst e;exact⟨g,_,h1,h2,q3,rfl⟩
   exact⟨g,cs,h1,h2,h3.beside q2 (fun k hk=>by cases hk;exact e),h4⟩
  obtain⟨g,h1,h2,h3⟩:=hpo
  rcases hj' with⟨rfl,rfl⟩|⟨rfl,rfl⟩|⟨rfl,rfl⟩
  ·exact⟨g,h1,h2,h3.grew hst⟩
  ·exact⟨g,h1,h2,h3.grew hst⟩
  exact absurd rfl hjk
 case hpre=>
  intro j t k s hj hk hjk p q hst hpr;have hj':=zt hj;simp only[mC,pJ,nM,or_false]at hj'
  rcases hj' with⟨rfl,rfl⟩|⟨rfl,rfl⟩|⟨rfl,rfl⟩ <;> trivial
 case hpr0=>
  intro k t hk;have hk':=zt hk;simp only[mC,pJ,nM,or_false]at hk'
  rcases hk' with⟨rfl,rfl⟩|⟨rfl,rfl⟩|⟨rfl,rfl⟩ <;> trivial
 simp only[List.take,List.drop];iterate 7 (refine zaV rfl rfl rfl (fun K hK=>?_);go_big_quiet_op;refine hK _ ?_;clear hK)
 refine zbX rfl rfl (fun w' hI' hpr hF=>?_) (fun v1 hv=>?_)
 ·refine zP.call [.agg #[vdb.x,vdq.x],I6 bk] rfl func113 rfl rfl rfl ?_;refine(HRD w' (G2.trans ((HI _).1 hI'))).mono ?_;rintro e w'' ⟨rfl,gg⟩;exact⟨_,rfl,(HI _).2 (((HI _).1 hI').trans gg),gg,rfl,trivial⟩
 subst hv;simp only[Act.put,sB,sS,sZ];iterate 3 (refine zaV rfl rfl rfl (fun K hK=>?_);go_big_quiet_op;refine hK _ ?_;clear hK)
 refine zbX rfl rfl (fun w' hI' hpr hF=>?_) (fun v1 hv=>?_)
 ·refine zP.step (v:= .pointer (some ⟨w'.heap.size,0,none⟩)) (w':=w'.alloc (.cells #[U8 0,U8 0,U8 0,U8 0,U8 0,U8 0,U8 0,U8 0] 50)) (by clear hx5 hx6 hf1 he0;simp only[execOp];go_simp) ⟨(HI _).2 (((HI _).1 hI').trans (za _ _)),za _ _,⟨_,rfl⟩,_,_,rfl,bS ((HI _).1 hI'),zD.top _ (pgc zm) _ rfl,rfl⟩
 obtain⟨pg,rfl⟩:=hv;simp only[Act.put,sB,sS,sZ];refine zbX rfl rfl (fun w' hI' hpr hF=>?_) (fun v1 hv=>?_)
 ·obtain⟨g,cs,hg1,hg2,hg3,hg4⟩:=hF 11 (by kernel_rfl)
  simp only[Value.pointer.injEq,Option.some.injEq,Addr.mk.injEq,and_true]at hg1;subst hg1;refine zP.storeAllT 50 (.tmp 8) (.tmp 39) rfl pg rfl (pgc [p0,p1,p2,p3,p4,p5,p6,p7]) rfl hg3 (by rw[hg4];rfl) (by rw[hg4];exact zl3) (z6 _) fun w'' b1 b2 b3=>?_
  exact⟨(HI _).2 (ze ((HI _).1 hI') b2 hg2),⟨pg,hg2,b2,b1⟩,trivial,pg,rfl,hg2,b1.box⟩
 simp only[Act.put];iterate 1 (refine zaV rfl rfl rfl (fun K hK=>?_);go_big_quiet_op;refine hK _ ?_;clear hK)
 refine zjy fun W4 hI4 hF=>?_
 obtain⟨g',hg1,hg3,hg2⟩:=hF 12;have hg1':(Value.pointer (some ⟨pg,0,none⟩):Value)= .pointer (some ⟨g',0,none⟩):=hg1;simp only[Value.pointer.injEq,Option.some.injEq,Addr.mk.injEq,and_true]at hg1';subst hg1';have g4:=(HI _).1 hI4;have G4:=dD (G2.trans g4);have F4:=dD (F2.grew g4);have Y4:=dD (Y2.grew g4);have P4:Hid (Box W4 pg (pgc [p0,p1,p2,p3,p4,p5,p6,p7])):=hg2;clear hF hI4 hI0 hne hx5 hx6 hf1 he0 g4 hg1 hg2 hg3;have hcut:=zfr [p0,p1,p2,p3,p4,p5,p6,p7] (z -(ix:Int)*8) W4 rfl (by omega) (by omega)
 rw[zkQ]at hcut;rw[<-HDL.out]at hcut;have f0:=F4.c 0 rfl
 go_wp2_with (refine zK rfl 50 (.tmp 8) rfl pg rfl P4 underlying50 rfl zl3 ?_)
 refine hcut.mono ?_;clear hcut f0;rintro r W5 ⟨rfl,-,g5⟩;have Y5:=dD (Y4.grew g5);have G5:=dD (G4.trans g5);clear g5
 go_wp2_with (refine zn rfl 50 (.tmp 6) (.tmp 47) rfl (w.heap.size+1) rfl (pgc C) rfl Y5 (by rw[jU,HD8.out];rfl) zl3 (z6 _) ?_)
 intro WL hbL hgL _;have HGL:Hid (zc w WL):=dD<|ze G5 hgL (by omega)
 go_wp2;refine bodyPost_ret (zT rfl _ rfl hbL underlying50 rfl (by rw[jU,HD8.out];exact zl3)) rfl ⟨rfl,HD8,HGL⟩
theorem zgK (vs us:List Value) (t:List (List En)) (w:World) (hv:Zc w vs t) (hu:Zc w us t):
  Calls prog 50 #[.agg vs.toArray,.agg us.toArray] w fun e w'=>e= .returned (.bool true)/\zc w w':=by
 have HV:Hid (Zc w vs t):=hv;have HU:Hid (Zc w us t):=hu;clear hv hu;obtain⟨W0,hW0⟩:∃W0,(w.alloc (.cells vs.toArray 63)).alloc (.cells us.toArray 63)=W0:=⟨_,rfl⟩;have HG0:=gD2 hW0
 have X0:=x2a hW0
 have Y0:=x2b hW0
 have HW0:Hid (_=W0):=hW0;clear hW0
 go_enter func50,ntmps50
 go_upto_region 1 with fail;rw[HW0.out];go_wp2
 go_loopg [7] 8 (fun gg s7 wr=>∃kk:Nat,kk<=8/\8 - kk<=gg/\s7=I6 kk/\Hid (zc W0 wr))
 case atStart=>exact⟨0,nZ _,by omega,rfl,zc.refl _⟩
 obtain⟨kk,hkk,hg,rfl,BW⟩:=hrel
 by_cases hlt:kk<8
 ·have hltz:(kk:Int)<8:=by omega
  obtain⟨xa,xc,q,hq,hvk,hr⟩:=HV.half hlt;obtain⟨ya,yc,q',hq',huk,hr'⟩:=HU.half hlt;obtain rfl:q=q':=by rw[hq]at hq';cases hq';rfl
  have hqbig:=hr.short;obtain⟨_,_,heq,hens⟩:=hr.ens;cases heq;obtain⟨_,_,heq,hens'⟩:=hr'.ens;cases heq;have HE:Hid (zbg w xa q):=hens;have HE':Hid (zbg w ya q):=hens';obtain⟨mq,HMQ⟩:∃mq,Hid (q.length=mq):=⟨_,rfl⟩;rw[HMQ.out]at hvk huk hqbig;have HVK:Hid (vs[kk]? =some (.slice xa mq xc)):=hvk;have HUK:Hid (us[kk]? =some (.slice ya mq yc)):=huk;clear hens hens' hr hr' hq hq' hvk huk;have x0:=(X0.grew BW).c kk HVK.out;have y0:=(Y0.grew BW).c kk HUK.out;have hnn:((mq:Int) !=(mq:Int))=false:=by simp
  go_wp2;go_quiet (fail);obtain⟨W2,hW2⟩:∃W2,wr.drewN nq=W2:=⟨_,rfl⟩;have G2:Hid (zc W0 W2):=dD<|by rw[<-hW2];exact BW.trans (show Below _ _ _ from bD (bR _ _) _)
  rw[hW2];clear hW2 x0 y0;have x0:=(X0.grew G2).c kk HVK.out;have y0:=(Y0.grew G2).c kk HUK.out;go_wp2
  go_loopg [23] mq (fun g2 s23 wr2=>∃k2:Nat,k2<=mq/\mq - k2<=g2/\s23=I6 k2/\Hid (zc W0 wr2))
  case atStart=>exact⟨0,nZ _,by omega,rfl,G2⟩
  obtain⟨k2,hk2,hg2,rfl,BW2⟩:=hrel;clear x0 y0
  by_cases hlt2:k2<mq
  ·have hltz2:(k2:Int)< (mq:Int):=by omega
   obtain⟨z,HZ⟩:∃z,Hid (q[k2]? =some z):=⟨_,gE (by rw[HMQ.out];exact hlt2)⟩
   obtain⟨ad2,rfl,hl2⟩:=HE.out k2 z HZ.out;obtain⟨ad3,rfl,hl3⟩:=HE'.out k2 z HZ.out;obtain⟨d0,d1,d2⟩:=hl2 _ (HG0.trans BW2);obtain⟨e0,e1,e2⟩:=hl3 _ (HG0.trans BW2);have x0:=(X0.grew BW2).c kk HVK.out;have y0:=(Y0.grew BW2).c kk HUK.out;have hee:=fun W=>zlj z.kind z.n z.kind z.n z.wr z.wr W
   rw[zhf]at hee;clear hl2 hl3;go_wp2;go_quiet (fail);go_wp2
   go_roundg (mq -(k2+1))
   case measure=>omega
   exact⟨k2+1,by omega,by omega,by go_num,BW2.trans (show Below _ _ _ from bD (bR _ _) _)⟩
  have hltz2:¬(k2:Int)< (mq:Int):=by omega
  have:k2=mq:=by omega
  subst this;go_wp2
  go_roundg (8 -(kk+1))
  case measure=>omega
  exact⟨kk+1,by omega,by omega,by go_num,BW2⟩
 have hltz:¬(kk:Int)<8:=by omega
 have:kk=8:=by omega
 subst this;have GE:=dD (HG0.trans BW);go_wp2;go_ret;exact⟨rfl,GE⟩
theorem zkx {k:Nat} (h:k<8):zav[k]? =some (eS):=by
 match k,h with
 | 0,_ | 1,_ | 2,_ | 3,_ | 4,_ | 5,_ | 6,_ | 7,_=>rfl
theorem zfg (vs:List Value) (t:List (List En)) (w:World) (hv:Zc w vs t):
  Calls prog 50 #[.agg vs.toArray,.agg #[eS,eS,eS,eS,eS,eS,eS,eS]] w fun e w'=>e= .returned (.bool (t.all (·.isEmpty)))/\zc w w':=by
 have HV:Hid (Zc w vs t):=hv;have HTL:Hid (t.length=8):=hv.tlen;clear hv;obtain⟨ANS,HANS⟩:∃ANS,Hid (t.all (·.isEmpty)=ANS):=⟨_,rfl⟩;rw[HANS.out];obtain⟨W0,hW0⟩:∃W0,(w.alloc (.cells vs.toArray 63)).alloc (.cells zav.toArray 63)=W0:=⟨_,rfl⟩;have HG0:=gD2 hW0
 have X0:=x2a hW0
 have Y0:=x2b hW0
 have HW0:Hid (_=W0):=hW0;clear hW0
 go_enter func50,ntmps50
 go_upto_region 1 with fail;have hw:(w.alloc (.cells vs.toArray 63)).alloc (.cells #[eS,eS,eS,eS,eS,eS,eS,eS] 63)=W0:=HW0.out;rw[hw];clear hw;go_wp2
 go_loopg [7] 8 (fun gg s7 wr=>∃kk:Nat,kk<=8/\8 - kk<=gg/\s7=I6 kk/\Hid (zc W0 wr)/\Hid (∀(j:Nat) h,j<kk->t[j]? =some h->h=[]))
 case atStart=>exact⟨0,nZ _,by omega,rfl,zc.refl _,fun j h hj=>absurd hj (nL _)⟩
 obtain⟨kk,hkk,hg,rfl,BW,OW⟩:=hrel
 by_cases hlt:kk<8
 ·have hltz:(kk:Int)<8:=by omega
  obtain⟨xa,xc,q,hq,hvk,hr⟩:=HV.half hlt;have hqbig:=hr.short;have HQ:Hid (t[kk]? =some q):=hq;obtain⟨mq,HMQ⟩:∃mq,Hid (q.length=mq):=⟨_,rfl⟩;rw[HMQ.out]at hvk hqbig;have HVK:Hid (vs[kk]? =some (.slice xa mq xc)):=hvk;clear hr hq hvk;have x0:=(X0.grew BW).c kk HVK.out;have y0:=(Y0.grew BW).c kk (zkx hlt)
  by_cases h0:mq=0
  ·subst h0;have OW':Hid (∀(j:Nat) h,j<kk+1->t[j]? =some h->h=[]):=dD<|fun j h hj hh=>by
    by_cases e:j=kk
    ·subst e;rw[HQ.out]at hh;cases hh;exact eN HMQ.out
    exact OW j h (by omega) hh
   go_wp2;go_quiet (fail);obtain⟨W2,hW2⟩:∃W2,wr.drewN nq=W2:=⟨_,rfl⟩;have G2:Hid (zc W0 W2):=dD<|by rw[<-hW2];exact BW.trans (show Below _ _ _ from bD (bR _ _) _)
   rw[hW2];clear hW2 x0 y0;have x0:=(X0.grew G2).c kk HVK.out;go_wp2
   go_loopg [23] 0 (fun g2 s23 wr2=>s23=I6 0/\Hid (zc W0 wr2))
   case atStart=>exact⟨rfl,G2⟩
   obtain⟨rfl,BW2⟩:=hrel;clear x0;go_wp2
   go_roundg (8 -(kk+1))
   case measure=>omega
   exact⟨kk+1,by omega,by omega,by go_num,BW2,OW'⟩
  have hne:((mq:Int) != 0)=true:=by simp[h0]
  have HF:Hid (ANS=false):=dD<|by
   rw[<-HANS.out]
   cases e:t.all (·.isEmpty)with
   | false=>rfl
   | true=>
    have:=List.all_eq_true.1 e q (mG HQ);have h1:=HMQ.out;rw[List.isEmpty_iff]at this;rw[this]at h1;exact absurd h1.symm h0
  have hnf:(mq != 0)=true:=by simp[h0]
  clear h0;go_wp2;go_quiet (fail);go_wp2;go_ret;exact⟨by rw[HF.out];rfl,HG0.trans (BW.trans (show Below _ _ _ from bD (bR _ _) _))⟩
 have hltz:¬(kk:Int)<8:=by omega
 have HF:Hid (ANS=true):=dD<|by
  rw[<-HANS.out,List.all_eq_true];intro h hh;obtain⟨j,hj⟩:=List.getElem?_of_mem hh;rw[OW.out j h (by have:=(gS.1 hj).1;have:=HTL.out;omega) hj]
  rfl
 go_wp2;go_ret;exact⟨by rw[HF.out];rfl,HG0.trans BW⟩
theorem zbL (a:Option Addr) (c:Nat) (fs:List Fr) (h:Int) (w:World) (hv:qy w (.slice a fs.length c) fs):
  Calls prog 96 #[.agg #[.slice a fs.length c,I6 h]] w fun e w'=>e= .returned (I6 (Jo fs h))/\zc w w':=by
 have hbig:=hv.short;obtain⟨a',c',heq,hrow⟩:=hv.frs;cases heq;have HR:Hid (Zu w a fs):=hrow;clear hrow hv;have HM:Hid (Jo fs h=if 40<fs.length then 4 else if zaY fs=0 then(if inB h (max fs.length 1)then 0 else 3)else zaY fs):=rfl;obtain⟨n,HN⟩:∃n,Hid (fs.length=n):=⟨_,rfl⟩;rw[HN.out]at hbig HM⊢;obtain⟨W0,hW0⟩:∃W0,w.alloc (.cells #[.slice a n c,I6 h] 27)=W0:=⟨_,rfl⟩;have HG0:=gA hW0
 have X0:=xA hW0
 have HW0:Hid (_=W0):=hW0;clear hW0
 by_cases h40:40<n
 ·have h40z:(40:Int)< (n:Int):=by omega
  go_enter func96,ntmps96
  go_wp2;go_ret;exact⟨by rw[HM.out,if_pos h40];rfl,by rw[HW0.out];exact HG0⟩
 have h40z:¬(40:Int)< (n:Int):=by omega
 rw[if_neg h40]at HM
 go_enter func96,ntmps96
 go_wp2;rw[HW0.out]
 go_loopg [4,5,13] n (fun gg _ _ s13 wr=>∃kk:Nat,kk<=n/\n - kk<=gg/\s13=I6 kk/\Hid (zc W0 wr)/\Hid (zaY (fs.drop kk)=zaY fs))
 case atStart=>exact⟨0,nZ _,by omega,rfl,zc.refl _,rfl⟩
 obtain⟨kk,hkk,hg,rfl,BW,A⟩:=hrel
 by_cases hlt:kk<n
 ·have hltz:(kk:Int)< (n:Int):=by omega
  obtain⟨q,HQ⟩:∃q,Hid (fs[kk]? =some q):=⟨_,gE (by rw[HN.out];exact hlt)⟩
  obtain⟨ad,rfl,hl⟩:=HR.out kk q HQ.out;obtain⟨d0,d1,d2,d3,d4,d5,d6,d7,d8,d9,d10,d11,d12⟩:=hl wr (HG0.trans BW);have hcall:∀W,Calls prog 144 #[.agg #[U8 q.p.b0,U8 q.p.b1,U8 q.p.b2,U8 q.p.b3,U8 q.p.b4,U8 q.p.b5,U8 q.p.b6,U8 q.p.b7,I6 q.r,.bool q.u,.bool q.d,I6 q.f,I6 q.x]] W fun e w'=>e= .returned (I6 (frW q))/\zc W w':=fun W=>zaT q W
  have HST:Hid (zaY (fs.drop kk)=if frW q=0 then zaY (fs.drop (kk+1))else frW q):=dD<|by
   obtain⟨hlt',rfl⟩:=gS.1 HQ.out;rw[List.drop_eq_getElem_cons hlt'];rfl
  clear hl
  generalize frW q=z at hcall HST
  by_cases hz:z=0
  ·have HA:Hid (zaY (fs.drop (kk+1))=zaY fs):=dD<|by rw[<-A.out,HST.out,if_pos hz]
   subst hz
   go_wp2_with (go_at_call 144;refine(hcall _).mono ?_;rintro e w' ⟨rfl,hb'⟩)
   go_roundg (n -(kk+1))
   case measure=>omega
   exact⟨kk+1,by omega,by omega,by go_num,(BW.trans (za _ _)).trans hb',HA⟩
  have hzb:(z != 0)=true:=by simpa using hz
  have HF:Hid (Jo fs h=z):=dD<|by
   have h1:=A.out;rw[HST.out,if_neg hz]at h1;rw[HM.out,<-h1,if_neg hz]
  skip
  go_wp2_with (go_at_call 144;refine(hcall _).mono ?_;rintro e w' ⟨rfl,hb'⟩)
  go_ret;exact⟨by rw[HF.out];rfl,((HG0.trans BW).trans (za _ _)).trans hb'⟩
 have hltz:¬(kk:Int)< (n:Int):=by omega
 have:kk=n:=by omega
 subst this;have e0:=(X0.grew BW).c 0 rfl;have e1:=(X0.grew BW).c 1 rfl;have hz:zaY fs=0:=by rw[<-A.out,List.drop_of_length_le (by rw[HN.out];exact nR _)];rfl
 have HM':Hid (Jo fs h=if inB h (max kk 1)then 0 else 3):=dD<|by rw[HM.out,if_pos hz]
 clear hz
 by_cases hh0:h=0
 ·subst hh0;rw[show inB 0 (max kk 1)=true from by simp[inB];omega,if_pos rfl]at HM'
  go_wp2;go_ret;exact⟨by rw[HM'.out];rfl,HG0.trans BW⟩
 have hh0b:(h != 0)=true:=by simp[hh0]
 by_cases hneg:h<0
 ·rw[show inB h (max kk 1)=false from by simp[inB];omega,if_neg (by decide)]at HM'
  go_wp2;go_ret;exact⟨by rw[HM'.out];rfl,HG0.trans BW⟩
 by_cases hge:(kk:Int)<=h
 ·rw[show inB h (max kk 1)=false from by simp[inB];omega,if_neg (by decide)]at HM'
  go_wp2;go_ret;exact⟨by rw[HM'.out];rfl,HG0.trans BW⟩
 rw[show inB h (max kk 1)=true from by simp[inB];omega,if_pos rfl]at HM'
 go_wp2;go_ret;exact⟨by rw[HM'.out];rfl,HG0.trans BW⟩
theorem zdl (a:Option Addr) (c:Nat) (s:List Int) (w:World) (hv:zr slE w (.slice a s.length c) s):
  Calls prog 97 #[.slice a s.length c] w fun e w'=>e= .returned (I6 (slW s))/\zc w w':=by
 have HM:Hid (slW s=if 60<s.length then 4 else if s.any zaM then 3 else 0):=rfl;have hbig:=hv.short;obtain⟨a',c',heq,hrow⟩:=hv.sls;cases heq;have HR:Hid (JY w a s):=hrow;clear hrow hv;obtain⟨n,HN⟩:∃n,Hid (s.length=n):=⟨_,rfl⟩;rw[HN.out]at HM hbig⊢
 by_cases h60:60<n
 ·have h60z:(60:Int)< (n:Int):=by omega
  have HF:Hid (slW s=4):=dD<|by rw[HM.out,if_pos h60]
  skip
  go_enter func97,ntmps97
  go_wp2;go_ret;exact⟨by rw[HF.out];rfl,zc.refl _⟩
 have h60z:¬(60:Int)< (n:Int):=by omega
 rw[if_neg h60]at HM
 go_enter func97,ntmps97
 go_wp2
 go_loopg [4,10] n (fun gg _ s8 wr=>∃kk:Nat,kk<=n/\n - kk<=gg/\s8=I6 kk/\Hid (zc w wr)/\Hid (∀j q,j<kk->s[j]? =some q->zaM q=false))
 case atStart=>exact⟨0,nZ _,by omega,rfl,zc.refl w,fun j q hj=>absurd hj (nL _)⟩
 obtain⟨kk,hkk,hg,rfl,BW,A⟩:=hrel
 by_cases hlt:kk<n
 ·have hltz:(kk:Int)< (n:Int):=by omega
  obtain⟨q,HQ⟩:∃q,Hid (s[kk]? =some q):=⟨_,gE (by rw[HN.out];exact hlt)⟩
  obtain⟨ad,rfl,hl⟩:=HR.out kk q HQ.out;have d0:=hl wr BW.out;clear hl
  by_cases hq:zaM q=true
  ·have HF:Hid (slW s=3):=dD<|by rw[HM.out,zkd HQ.out hq];rfl
   skip
   by_cases h0:q<0
   ·clear hq;go_wp2;go_ret;exact⟨by rw[HF.out];rfl,BW⟩
   have h1:1000<q:=by simp[zaM]at hq;omega
   clear hq;go_wp2;go_ret;exact⟨by rw[HF.out];rfl,BW⟩
  have hq':zaM q=false:=by simpa using hq
  have HA:Hid (∀(j:Nat) q,j<kk+1->s[j]? =some q->zaM q=false):=dD<|fun j q' hj hq''=>by
   by_cases e:j=kk
   ·subst e;rw[HQ.out]at hq'';cases hq'';exact hq'
   exact A j q' (by omega) hq''
  have h0:¬q<0:=by intro h;exact hq (by simp[zaM,h])
  have h1:¬1000<q:=by intro h;exact hq (by simp[zaM,h])
  clear hq hq';go_wp2
  go_roundg (n -(kk+1))
  case measure=>omega
  exact⟨kk+1,by omega,by omega,by go_num,BW,HA⟩
 have hltz:¬(kk:Int)< (n:Int):=by omega
 have:kk=n:=by omega
 subst this;have HF:Hid (slW s=0):=dD<|by
  rw[HM.out,zkc (fun j q hj=>A.out j q (by rw[<-HN.out];exact(gS.1 hj).1) hj)]
  rfl
 go_wp2;go_ret;exact⟨by rw[HF.out];rfl,BW⟩
end
end Go.Proofs.YtangilolcekceaaGreat
