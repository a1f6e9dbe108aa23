import Derived.Test.YtdgccecjbpgmfaaGreatPC4
import Derived.Shelf.Bits.Mul64
import Derived.Deep.Cut
namespace Go.Proofs.YtdgccecjbpgmfaaGreat
set_option maxRecDepth 100000
set_option maxHeartbeats 4000000
section
open Go.RowKit
def Zk (K:JC) (w:World) (b:Nat) (H:Int × Int->Int):Prop:=∃g,Zo K w b g/\∀k,(g k).getD 0=H k
theorem Zk.grew {K:JC} {w w':World} {b:Nat} {H:Int × Int->Int} (h:Zk K w b H) (k:zc w w'):Zk K w' b H:=by
 obtain⟨g,h1,h2⟩:=h;exact⟨g,h1.grew k,h2⟩
theorem Zk.congr {K:JC} {w:World} {b:Nat} {H H':Int × Int->Int} (h:Zk K w b H) (e:∀k,H k=H' k):Zk K w b H':=by
 obtain⟨g,h1,h2⟩:=h;exact⟨g,h1,fun k=>(h2 k).trans (e k)⟩
theorem Zk.ne_box {K:JC} {w:World} {b B:Nat} {cs:List Value} {H:Int × Int->Int} (k:Zk K w B H) (h:Box w b cs):b≠B:=by
 obtain⟨g,h1,_⟩:=k;exact h.ne_map h1
theorem Zk.ne_own {α:Type} {E:Elt α} {K:JC} {w:World} {base B:Nat} {v:Value} {l:List α} {H:Int × Int->Int} (k:Zk K w B H) (h:zb E base w v l):∀x,v.ownBlock=some x->some B≠some x:=by
 obtain⟨g,h1,_⟩:=k;exact h.ne_map h1
def za4 (K:JC) (w:World) (b:Nat) (H:Int × Int->Int) (k:Int × Int) (st:Int):Prop:=∃g,zkp K w b g k st/\∀x,(g x).getD 0=H x
theorem Zk.entry {K:JC} {w:World} {b:Nat} {H:Int × Int->Int} (h:Zk K w b H) {t e:TypeId} (ht:Tryz.prog.underlying t=some (.map K.ty e)) (hz:(zeroValue e).run Tryz.prog w= .ok (.int .i64 0) w) (k:Int × Int):
  ∃w' st,(Instr.mapEntry t (.map (some b)) (K.enc k)).run Tryz.prog w= .ok (.tuple #[.int .i64 (H k),.int .i64 st]) w'/\za4 K w' b H k st/\w.grownBy w' (some b)/\w'.heap.size=w.heap.size:=by
 obtain⟨g,h1,h2⟩:=h;obtain⟨w',st,r1,r2,r3,r4⟩:=h1.entry ht hz k;rw[h2 k]at r1;refine⟨w',st,r1,⟨_,r2,fun x=>?_⟩,r3,r4⟩
 by_cases e:x=k
 ·subst e;rw[if_pos rfl];exact h2 x
 rw[if_neg e];exact h2 x
theorem za4.h {K:JC} {w:World} {b:Nat} {H:Int × Int->Int} {k:Int × Int} {st:Int} (h:za4 K w b H k st):Zk K w b H:=by
 obtain⟨g,h1,h2⟩:=h;exact⟨g,h1.f,h2⟩
theorem Zk.look {K:JC} {w:World} {b:Nat} {H:Int × Int->Int} (h:Zk K w b H) {t e:TypeId} (ht:Tryz.prog.underlying t=some (.map K.ty e)) (hz:(zeroValue e).run Tryz.prog w= .ok (.int .i64 0) w) (k:Int × Int):
  (Instr.lookup t (.map (some b)) (K.enc k) false).run Tryz.prog w= .ok (.int .i64 (H k)) w:=by
 obtain⟨g,h1,h2⟩:=h;have:=h1.look ht hz k false;rw[h2 k]at this;exact this
def zkY (H:Int × Int->Int) (k:Int × Int):Int × Int->Int:=fun x=>H x+(if x=k then 1 else 0)
theorem J8 {K:JC} {w:World} {ops:Array Oper} {rest:List Oper} {o:Oper} {a:Act} {Q:Exit->Act->World->Prop} (hgd:o.guard=none) (t:TypeId) (m s x:Operand) (hop:o.op= .entryStore t m s x) (b:Nat) (H:Int × Int->Int) (k:Int × Int) (st:Int) (h:za4 K w b H k st)
  (hm:a.eval m= .map (some b)) (hs:a.eval s= .int .i64 st) (hv:a.eval x= .int .i64 (H k+1))
  (hK:∀w',Zk K w' b (zkY H k)->w.grownBy w' (some b)->w'.heap.size=w.heap.size->wpList Tryz.prog ops Q rest (a.put o.dst undef) w'):wpList Tryz.prog ops Q (o :: rest) a w:=by
 refine wpList_plain hgd fun K' hK'=>?_
 obtain⟨g,h1,h2⟩:=h;obtain⟨w',hrun,r1,r2,r3⟩:=h1.store t (H k+1);unfold Oper.wp
 simp[execOp,hop,hm,hs,hv,hrun,Result.andThen]
 refine hK' _ _ (hK w' ⟨_,r1,fun y=>?_⟩ r2 r3)
 unfold zkY
 by_cases e:y=k
 ·subst e;rw[if_pos rfl,if_pos rfl];rfl
 rw[if_neg e,if_neg e,h2 y];omega
theorem zi5 (l:List Ca) (key:Int × Int):0<=Jg l key/\Jg l key<=l.length:=by
 unfold Jg zK
 split
 ·have:=List.countP_le_length (p:=fun c:Ca=>decide (c.fr=key.2)) (l:=l)
  omega
 omega
theorem zcl (s:Sp):(qh s).length<=64:=by
 unfold qh;have:=List.length_filter_le (fun n=>enS (zJ s n)) (List.range 64)
 simpa using this
theorem zjZ (m:Ma) (i:Nat) (l:List Nat) (s:Sp) (key:Int × Int):0<=qi m i l s key/\qi m i l s key<=m.ca.length+64*m.sp.length+l.length:=by
 unfold qi;have h1:(if key.1=1 then zK m.ca key.2 else 0)<=m.ca.length:=by
  split
  ·exact List.countP_le_length
  omega
 have h2:∀(L:List Sp),(L.map fun s=>(qh s).countP fun n=>isE (zJ s n) key.1 key.2).sum<=64*L.length:=by
  intro L
  induction L with
  | nil=>simp
  | cons a L ih=>
   have h3:=List.countP_le_length (p:=fun n=>isE (zJ a n) key.1 key.2) (l:=qh a)
   have h4:=zcl a;simp only[mP,List.sum_cons,List.length_cons];omega
 have h5:=h2 (m.sp.take i);have h6:(m.sp.take i).length<=m.sp.length:=by simp;omega
 have h7:=List.countP_le_length (p:=fun n=>isE (zJ s n) key.1 key.2) (l:=l)
 omega
def zcU:Sp:=⟨true,[],[]⟩
theorem ze8 (V:MaV) (m:Ma) (w:World) (hm:zC w V m) (hsp4:m.sp.length<=4) (htb:∀s∈m.sp,tbW s.tb=0):
  Calls Tryz.prog 165 #[.agg #[.slice V.f.a V.f.n V.f.c,.int .i64 m.hand,.slice V.s.a V.s.n V.s.c,.slice V.sb.a V.sb.n V.sb.c,.slice V.sq.a V.sq.n V.sq.c,.slice V.db.a V.db.n V.db.c,.slice V.dq.a V.dq.n V.dq.c,.slice V.fl.a V.fl.n V.fl.c,.int .i64 m.cnt,.slice V.ca.a V.ca.n V.ca.c,.slice V.sp.a V.sp.n V.sp.c]] w fun e w'=>∃B,e= .returned (.map (some B))/\Zk enK w' B (qi m m.sp.length [] zcU)/\zc w w':=by
 obtain⟨vf,vs,vsb,vsq,vdb,vdq,vfl,⟨caa,can,cac⟩,⟨spa,spn,spc⟩⟩:=V;dsimp only;obtain⟨-,-,-,-,-,-,-,n8,n9⟩:=hm.ns;dsimp only at n8 n9;have HR:Hid (zaX w caa m.ca):=hm.cas;have HN:Hid (m.ca.length=can):=n8.symm;have hbig:can<=140737488355328:=by have:=hm.ca.2;have h24:qY.bytes=24:=rfl;rw[h24]at this;omega
 obtain⟨xs,hxl,hrow,hsp⟩:=hm.spaces;have HXL:Hid (xs.length=m.sp.length):=hxl;have HRS:Hid (∀(j:Nat) x,xs[j]? =some x->∃ad,spa=some ad/\∀W,zc w W->zjs W (ad.add (j*10)) x):=hrow;have HSP:Hid (∀(i:Nat) x s,xs[i]? =some x->m.sp[i]? =some s->qL w x s):=hsp;have HNS:Hid (m.sp.length=spn):=n9.symm;have HTBS:Hid (∀s∈m.sp,tbW s.tb=0):=htb;have HC0:Hid (∀j key,0<=Jg (m.ca.take j) key/\Jg (m.ca.take j) key<=140737488355328):=show∀j key,_ from fun j key=>by
  have h1:=zi5 (m.ca.take j) key;have h2:(m.ca.take j).length<=m.ca.length:=by simp;omega
  omega
 have HH0:Hid (∀i l s key,l.length<=64->0<=qi m i l s key/\qi m i l s key<=140737488360000):=show∀i l s key,_ from fun i l s key hl=>by
  have h1:=zjZ m i l s key;omega
 have hsn4:spn<=4:=by omega
 clear hm n8 n9 hxl hrow hsp hsp4 htb;have hmm:=@run_makeMap Tryz.prog;obtain⟨W0,hW0⟩:∃W0,(w.alloc (.cells #[.slice vf.a vf.n vf.c,.int .i64 m.hand,.slice vs.a vs.n vs.c,.slice vsb.a vsb.n vsb.c,.slice vsq.a vsq.n vsq.c,.slice vdb.a vdb.n vdb.c,.slice vdq.a vdq.n vdq.c,.slice vfl.a vfl.n vfl.c,.int .i64 m.cnt,.slice caa can cac,.slice spa spn spc] 41)).alloc (.map #[] 0)=W0:=⟨_,rfl⟩;have HG0:Hid (zc w W0):=show zc _ _ by rw[<-hW0];exact(za _ _).trans (za _ _)
 have X0:Hid (Box W0 w.heap.size [.slice vf.a vf.n vf.c,.int .i64 m.hand,.slice vs.a vs.n vs.c,.slice vsb.a vsb.n vsb.c,.slice vsq.a vsq.n vsq.c,.slice vdb.a vdb.n vdb.c,.slice vdq.a vdq.n vdq.c,.slice vfl.a vfl.n vfl.c,.int .i64 m.cnt,.slice caa can cac,.slice spa spn spc]):=show Box _ _ _ by rw[<-hW0];exact(Box.top _ _ _ rfl).alloc _
 have M0:Hid (Zk enK W0 (w.heap.size+1) (Jg (m.ca.take 0))):=show Zk _ _ _ _ by
  rw[<-hW0];have:=Zo.made enK (w.alloc (.cells #[.slice vf.a vf.n vf.c,.int .i64 m.hand,.slice vs.a vs.n vs.c,.slice vsb.a vsb.n vsb.c,.slice vsq.a vsq.n vsq.c,.slice vdb.a vdb.n vdb.c,.slice vdq.a vdq.n vdq.c,.slice vfl.a vfl.n vfl.c,.int .i64 m.cnt,.slice caa can cac,.slice spa spn spc] 41));have hs:(w.alloc (.cells #[.slice vf.a vf.n vf.c,.int .i64 m.hand,.slice vs.a vs.n vs.c,.slice vsb.a vsb.n vsb.c,.slice vsq.a vsq.n vsq.c,.slice vdb.a vdb.n vdb.c,.slice vdq.a vdq.n vdq.c,.slice vfl.a vfl.n vfl.c,.int .i64 m.cnt,.slice caa can cac,.slice spa spn spc] 41)).heap.size=w.heap.size+1:=by simp
  rw[hs]at this;exact⟨_,this,fun k=>by rw[List.take_zero,zhD];rfl⟩
 have HW0:Hid (_=W0):=hW0;clear hW0
 go_enter Tryz.func165,Tryz.ntmps165
 go_upto_region 2 with fail;rw[HW0.out];clear hmm;have x9:=X0.out.c 9 rfl;go_wp2;clear x9
 go_loopg [15] can (fun gg s15 wr=>∃kk:Nat,kk<=can/\can - kk<=gg/\s15= .int .i64 kk/\Hid (zc w wr)/\Hid (Box wr w.heap.size [.slice vf.a vf.n vf.c,.int .i64 m.hand,.slice vs.a vs.n vs.c,.slice vsb.a vsb.n vsb.c,.slice vsq.a vsq.n vsq.c,.slice vdb.a vdb.n vdb.c,.slice vdq.a vdq.n vdq.c,.slice vfl.a vfl.n vfl.c,.int .i64 m.cnt,.slice caa can cac,.slice spa spn spc])/\Hid (Zk enK wr (w.heap.size+1) (Jg (m.ca.take kk))))
 case atStart=>exact⟨0,nZ _,by omega,rfl,HG0.out,X0.out,M0.out⟩
 obtain⟨kk,hkk,hgg,rfl,BW,XW,MW⟩:=hrel;clear X0 M0 HG0
 by_cases hlt:kk<can
 ·have hltz:(kk:Int)< (can:Int):=by omega
  obtain⟨c,HC⟩:∃c,Hid (m.ca[kk]? =some c):=⟨_,gE (by rw[HN.out];exact hlt)⟩
  obtain⟨ad,rfl,hl⟩:=HR.out kk c HC.out;obtain⟨d0,d1,d2⟩:=hl wr BW.out;clear hl;go_upto_region 5 with fail;obtain⟨W1,hW1⟩:∃W1,wr.alloc (.cells #[.int .i64 c.file,.int .i64 c.idx,.int .i64 c.fr] 124)=W1:=⟨_,rfl⟩;have HG1:=gT hW1 BW
  have X1:=yA hW1 XW
  have M1:Hid (Zk enK W1 (w.heap.size+1) (Jg (m.ca.take kk))):=show Zk _ _ _ _ by rw[<-hW1];exact MW.out.grew (za _ _)
  have C1:=xA hW1
  rw[hW1];clear hW1 d0 d1 d2;obtain⟨pb,HPB⟩:∃pb,Hid (wr.heap.size=pb):=⟨_,rfl⟩;rw[HPB.out]at C1⊢;obtain⟨H,HH⟩:∃H,Hid (Jg (m.ca.take kk)=H):=⟨_,rfl⟩;rw[HH.out]at M1;obtain⟨hb0,hb1⟩:0<=H (1,c.fr)/\H (1,c.fr)<=140737488355328:=by rw[<-HH.out];exact HC0.out kk (1,c.fr)
  obtain⟨I,hI⟩:∃I:World->Prop,I=fun u=>Zk enK u (w.heap.size+1) H/\Box u pb [.int .i64 c.file,.int .i64 c.idx,.int .i64 c.fr]/\Box u w.heap.size [.slice vf.a vf.n vf.c,.int .i64 m.hand,.slice vs.a vs.n vs.c,.slice vsb.a vsb.n vsb.c,.slice vsq.a vsq.n vsq.c,.slice vdb.a vdb.n vdb.c,.slice vdq.a vdq.n vdq.c,.slice vfl.a vfl.n vfl.c,.int .i64 m.cnt,.slice (some ad) can cac,.slice spa spn spc]/\zc w u:=⟨_,rfl⟩
  have HI:Hid (∀u,I u↔Zk enK u (w.heap.size+1) H/\Box u pb [.int .i64 c.file,.int .i64 c.idx,.int .i64 c.fr]/\Box u w.heap.size [.slice vf.a vf.n vf.c,.int .i64 m.hand,.slice vs.a vs.n vs.c,.slice vsb.a vsb.n vsb.c,.slice vsq.a vsq.n vsq.c,.slice vdb.a vdb.n vdb.c,.slice vdq.a vdq.n vdq.c,.slice vfl.a vfl.n vfl.c,.int .i64 m.cnt,.slice (some ad) can cac,.slice spa spn spc]/\zc w u):=show∀u,_ from fun u=>by rw[hI]
  clear hI;have hx2:∀y:zr I,y.world.cell? ⟨pb,2,none⟩=some (.int .i64 c.fr):=fun y=>((HI.out _).1 y.holds).2.1.c 2 rfl
  have hlk:∀y:zr I,(Instr.lookup 229 (.map (some (w.heap.size+1))) (.agg #[.int .i64 1,.int .i64 c.fr,.bool false]) false).run Tryz.prog y.world= .ok (.int .i64 (H (1,c.fr))) y.world:=fun y=>((HI.out _).1 y.holds).1.look (K:=enK) Tryz.underlying229 (zlw _) (1,c.fr)
  have hI0:I W1.drew:=(HI.out _).2 ⟨M1.out.grew (gW _),C1.out.grew (gW _),X1.out.grew (gW _),HG1.out.trans (gW _)⟩
  have hne:Nonempty (zr I):=⟨⟨_,hI0⟩⟩;refine qP (I:=I) 8 [(6,⟨fun v=>∃st,v= .tuple #[.int .i64 (H (1,c.fr)),.int .i64 st],fun v w'=>∃st,v= .tuple #[.int .i64 (H (1,c.fr)),.int .i64 st]/\za4 enK w' (w.heap.size+1) H (1,c.fr) st,fun _ _=>True,fun _=>True⟩)] hI0 qy (by kernel_rfl) rfl rfl (by decide) ?hS ?hp ?hpre ?hpr0 ?_
  case hS=>
   intro y hy;simp only[mC,nM,or_false]at hy;subst hy;exact⟨_,0,rfl⟩
  case hp=>
   intro k s j t' hk hj hjk _ v p q hst hpo;obtain⟨rfl,rfl⟩:=zd4 hk;obtain⟨rfl,rfl⟩:=zd4 hj;exact absurd rfl hjk
  case hpre=>
   intro j t' k s hj hk hjk p q hst hpr;obtain⟨rfl,rfl⟩:=zd4 hj;trivial
  case hpr0=>
   intro k t' hk;obtain⟨rfl,rfl⟩:=zd4 hk;trivial
  simp only[List.take,List.drop];iterate 6 (refine zk rfl rfl rfl (fun K hK=>?_);go_big_quiet_op;refine hK _ ?_;clear hK K)
  refine zF rfl rfl (fun w' hI' hpr hF=>?_) (fun v1 hv=>?_)
  ·obtain⟨i1,i2,i3,i4⟩:=(HI.out _).1 hI';obtain⟨w2,st,hrun,r1,r2,r3⟩:=i1.entry (K:=enK) Tryz.underlying229 (zlw w') (1,c.fr);have hrun':(Instr.mapEntry 229 (.map (some (w.heap.size+1))) (.agg #[.int .i64 1,.int .i64 c.fr,.bool false])).run Tryz.prog w'= .ok (.tuple #[.int .i64 (H (1,c.fr)),.int .i64 st]) w2:=hrun;clear hx2 hlk hne;refine zL.step (v:= .tuple #[.int .i64 (H (1,c.fr)),.int .i64 st]) (w':=w2) (by simp only[execOp];go_simp) ⟨(HI.out _).2 ⟨r1.h,i2.grown r2 (i1.ne_box i2),i3.grown r2 (i1.ne_box i3),zg i4 r2 (by omega)⟩,trivial,⟨_,rfl⟩,_,rfl,r1⟩
  obtain⟨st,rfl⟩:=hv;simp only[Act.put,sB,sS,sZ];iterate 1 (refine zk rfl rfl rfl (fun K hK=>?_);go_big_quiet_op;refine hK _ ?_;clear hK K)
  refine jI fun W3 hI3 hF=>?_
  obtain⟨i1,i2,i3,i4⟩:=(HI.out _).1 hI3;obtain⟨st',hst,hE⟩:∃st',(Value.tuple #[.int .i64 (H (1,c.fr)),.int .i64 st])= .tuple #[.int .i64 (H (1,c.fr)),.int .i64 st']/\za4 enK W3 (w.heap.size+1) H (1,c.fr) st':=hF 6;have hE':za4 enK W3 (w.heap.size+1) H (1,c.fr) st:=by
   simp at hst
   rw[hst];exact hE
  have X3:Hid (Box W3 w.heap.size [.slice vf.a vf.n vf.c,.int .i64 m.hand,.slice vs.a vs.n vs.c,.slice vsb.a vsb.n vsb.c,.slice vsq.a vsq.n vsq.c,.slice vdb.a vdb.n vdb.c,.slice vdq.a vdq.n vdq.c,.slice vfl.a vfl.n vfl.c,.int .i64 m.cnt,.slice (some ad) can cac,.slice spa spn spc]):=i3;have HG3:Hid (zc w W3):=i4;have HE3:Hid (za4 enK W3 (w.heap.size+1) H (1,c.fr) st):=hE';clear hx2 hlk hne hF hI3 i1 i2 i3 i4 hE hst hE' hI0;refine J8 (K:=enK) rfl 229 (.tmp 19) (.tmp 26) (.tmp 24) rfl (w.heap.size+1) H (1,c.fr) st HE3.out rfl rfl (by go_num) ?_
  intro W4 m4 hg4 _;have X4:Hid (Box W4 w.heap.size [.slice vf.a vf.n vf.c,.int .i64 m.hand,.slice vs.a vs.n vs.c,.slice vsb.a vsb.n vsb.c,.slice vsq.a vsq.n vsq.c,.slice vdb.a vdb.n vdb.c,.slice vdq.a vdq.n vdq.c,.slice vfl.a vfl.n vfl.c,.int .i64 m.cnt,.slice (some ad) can cac,.slice spa spn spc]):=X3.out.grown hg4 (by omega)
  have HG4:Hid (zc w W4):=show zc _ _ from zg HG3.out hg4 (by omega)
  have M4:Hid (Zk enK W4 (w.heap.size+1) (Jg (m.ca.take (kk+1)))):=show Zk _ _ _ _ from m4.congr fun k=>by rw[qa HC.out,zgz,<-HH.out];rfl
  clear m4 hg4 hb0 hb1;go_wp2
  go_roundg (can -(kk+1))
  case measure=>omega
  exact⟨kk+1,by omega,by omega,by go_num,HG4.out,X4.out,M4.out⟩
 have hltz:¬(kk:Int)< (can:Int):=by omega
 have:kk=can:=by omega
 subst this;have MA1:Hid (Zk enK wr (w.heap.size+1) (qi m 0 [] zcU)):=show Zk _ _ _ _ from MW.out.congr fun k=>by
  rw[List.take_of_length_le (by rw[HN.out];exact nR _)]
  exact zhE m zcU k
 have x10:=XW.out.c 10 rfl;go_wp2;clear x10;have HBW:Hid (zc w wr):=BW;clear BW XW MW
 go_loopg [31] spn (fun gg s31 wr=>∃i:Nat,i<=spn/\spn - i<=gg/\s31= .int .i64 i/\Hid (zc w wr)/\Hid (Zk enK wr (w.heap.size+1) (qi m i [] zcU)))
 case atStart=>exact⟨0,nZ _,by omega,rfl,HBW.out,MA1.out⟩
 obtain⟨i,hi,hg2,rfl,BW,MW⟩:=hrel;clear HBW MA1
 by_cases hlt2:i<spn
 ·have hltz2:(i:Int)< (spn:Int):=by omega
  obtain⟨s,HS⟩:∃s,Hid (m.sp[i]? =some s):=⟨_,gE (by rw[HNS.out];exact hlt2)⟩
  obtain⟨x,HX⟩:∃x,Hid (xs[i]? =some x):=⟨_,gE (by rw[HXL.out,HNS.out];exact hlt2)⟩
  have HAT:Hid (qL w x s):=HSP.out i x s HX.out HS.out;obtain⟨ad,rfl,hl⟩:=HRS.out i x HX.out;obtain⟨d0,d1,d2,d3,d4,d5,d6,d7,d8,d9⟩:=hl wr BW.out;clear hl;go_upto_region 10 with fail;obtain⟨W1,hW1⟩:∃W1,wr.alloc (.cells #[.bool x.live,.slice x.ar.a x.ar.n x.ar.c,.slice x.t0.a x.t0.n x.t0.c,.slice x.t1.a x.t1.n x.t1.c,.slice x.t2.a x.t2.n x.t2.c,.slice x.t3.a x.t3.n x.t3.c,.slice x.t4.a x.t4.n x.t4.c,.slice x.t5.a x.t5.n x.t5.c,.slice x.t6.a x.t6.n x.t6.c,.slice x.t7.a x.t7.n x.t7.c] 55)=W1:=⟨_,rfl⟩;have HG1:=gT hW1 BW
  have M1:Hid (Zk enK W1 (w.heap.size+1) (qi m i [] s)):=show Zk _ _ _ _ by rw[<-hW1];exact(MW.out.grew (za _ _)).congr fun k=>by unfold qi;simp
  have S1:=xA hW1
  rw[hW1];clear hW1 d0 d1 d2 d3 d4 d5 d6 d7 d8 d9;obtain⟨pb,HPB⟩:∃pb,Hid (wr.heap.size=pb):=⟨_,rfl⟩;rw[HPB.out]at S1⊢;have hcall:Calls Tryz.prog 90 #[.agg #[.slice x.t0.a x.t0.n x.t0.c,.slice x.t1.a x.t1.n x.t1.c,.slice x.t2.a x.t2.n x.t2.c,.slice x.t3.a x.t3.n x.t3.c,.slice x.t4.a x.t4.n x.t4.c,.slice x.t5.a x.t5.n x.t5.c,.slice x.t6.a x.t6.n x.t6.c,.slice x.t7.a x.t7.n x.t7.c]] W1 fun e w'=>∃v,e= .returned v/\zb blE W1.heap.size w' v (jd s.tb Jo 64)/\zc W1 w':=JU x.tab s.tb W1 (HAT.out.grew HG1.out).tb
  have s2:=S1.out.c 2 rfl;have s3:=S1.out.c 3 rfl;have s4:=S1.out.c 4 rfl;have s5:=S1.out.c 5 rfl;have s6:=S1.out.c 6 rfl;have s7:=S1.out.c 7 rfl;have s8:=S1.out.c 8 rfl;have s9:=S1.out.c 9 rfl;go_wp2_with fail;refine hcall.mono ?_;clear hcall s2 s3 s4 s5 s6 s7 s8 s9;rintro e' W2 ⟨pv,rfl,ow2,hg2'⟩;have HG2:=dD (HG1.out.trans hg2');have M2:=dD (M1.out.grew hg2');have S2:=dD (S1.out.grew hg2');have HW1L:Hid (w.heap.size<=W1.heap.size):=show _<=_ from bS HG1.out
  clear hg2';obtain⟨pa,pc,rfl⟩:=ow2.form;have hq0:=ow2.at.short;rw[Qy]at ow2 hq0⊢;rw[List.length_map]at ow2 hq0⊢;obtain⟨q,HQ⟩:∃q,Hid ((qh s).length=q):=⟨_,rfl⟩;rw[HQ.out]at ow2 hq0⊢;have OW2:Hid (zb blE W1.heap.size W2 (.slice pa q pc) ((qh s).map fun(n:Nat)=>(n:Int))):=ow2
  have hq64:q<=64:=by rw[<-HQ.out];exact zcl s
  clear ow2;go_wp2;clear BW MW
  go_loopg [39] q (fun gg s39 wr=>∃j:Nat,j<=q/\q - j<=gg/\s39= .int .i64 j/\Hid (zc w wr)/\Hid (zb blE W1.heap.size wr (.slice pa q pc) ((qh s).map fun(n:Nat)=>(n:Int)))/\Hid (Box wr pb [.bool x.live,.slice x.ar.a x.ar.n x.ar.c,.slice x.t0.a x.t0.n x.t0.c,.slice x.t1.a x.t1.n x.t1.c,.slice x.t2.a x.t2.n x.t2.c,.slice x.t3.a x.t3.n x.t3.c,.slice x.t4.a x.t4.n x.t4.c,.slice x.t5.a x.t5.n x.t5.c,.slice x.t6.a x.t6.n x.t6.c,.slice x.t7.a x.t7.n x.t7.c])/\Hid (Zk enK wr (w.heap.size+1) (qi m i ((qh s).take j) s)))
  case atStart=>exact⟨0,nZ _,by omega,rfl,HG2.out,OW2.out,S2.out,by rw[List.take_zero];exact M2.out⟩
  obtain⟨j,hj,hg3,rfl,BW,OW,SW,MW⟩:=hrel;clear S2 M2 OW2 HG2
  by_cases hlt3:j<q
  ·have hltz3:(j:Int)< (q:Int):=by omega
   obtain⟨n,HNI⟩:∃n,Hid ((qh s)[j]? =some n):=⟨_,gE (by rw[HQ.out];exact hlt3)⟩
   have hn64:n<64:=zdO HNI.out;have HTS:Hid ((qh s).take (j+1)=(qh s).take j++ [n]):=qa HNI.out;obtain⟨_,_,heq,hnr⟩:=OW.out.at.nums;simp only[vJ]at heq;obtain⟨ad2,had2,hl2⟩:=hnr j (n:Int) (by rw[List.getElem?_map,HNI.out];rfl)
   have e0:=hl2 wr (zc.refl _);rw[<-heq.1]at had2;subst had2;clear hl2 heq hnr;have hcg:Calls Tryz.prog 104 #[.agg #[.slice x.t0.a x.t0.n x.t0.c,.slice x.t1.a x.t1.n x.t1.c,.slice x.t2.a x.t2.n x.t2.c,.slice x.t3.a x.t3.n x.t3.c,.slice x.t4.a x.t4.n x.t4.c,.slice x.t5.a x.t5.n x.t5.c,.slice x.t6.a x.t6.n x.t6.c,.slice x.t7.a x.t7.n x.t7.c],.int .i64 (n:Int)] wr fun e w'=>e= .returned (enV (zJ s n))/\zc wr w':=by
    have:=zbG x.tab s.tb (n:Int) wr (HAT.out.grew BW.out).tb;rw[zfX hn64]at this;exact this
   obtain⟨en,HEN⟩:∃en,Hid (zJ s n=en):=⟨_,rfl⟩;rw[HEN.out]at hcg;have s2:=SW.out.c 2 rfl;have s3:=SW.out.c 3 rfl;have s4:=SW.out.c 4 rfl;have s5:=SW.out.c 5 rfl;have s6:=SW.out.c 6 rfl;have s7:=SW.out.c 7 rfl;have s8:=SW.out.c 8 rfl;have s9:=SW.out.c 9 rfl;go_wp2_with fail;refine hcg.mono ?_;clear hcg e0 s2 s3 s4 s5 s6 s7 s8 s9;rintro e' W4 ⟨rfl,hg4⟩;have HG4:=dD (BW.out.trans hg4);have OW4:=dD (OW.out.grew hg4)
   have S4:=dD (SW.out.grew hg4);have M4:=dD (MW.out.grew hg4);clear hg4;unfold enV;go_upto_region 14 with fail;obtain⟨W5,hW5⟩:∃W5,W4.alloc (.cells #[.int .i64 en.kind,.int .i64 en.n,.bool en.wr] 74)=W5:=⟨_,rfl⟩;have HG5:=gT hW5 HG4
   have OW5:Hid (zb blE W1.heap.size W5 (.slice (some ad2) q pc) ((qh s).map fun(n:Nat)=>(n:Int))):=show zb _ _ _ _ _ by rw[<-hW5];exact OW4.out.grew (za _ _)
   have S5:=yA hW5 S4
   have M5:Hid (Zk enK W5 (w.heap.size+1) (qi m i ((qh s).take j) s)):=show Zk _ _ _ _ by rw[<-hW5];exact M4.out.grew (za _ _)
   have E5:=xA hW5
   rw[hW5];clear hW5;obtain⟨pe,HPE⟩:∃pe,Hid (W4.heap.size=pe):=⟨_,rfl⟩;rw[HPE.out]at E5⊢;obtain⟨H,HH⟩:∃H,Hid (qi m i ((qh s).take j) s=H):=⟨_,rfl⟩;rw[HH.out]at M5;obtain⟨hb0,hb1⟩:0<=H (en.kind,en.n)/\H (en.kind,en.n)<=140737488360000:=by rw[<-HH.out];exact HH0.out i _ s (en.kind,en.n) (by simp;omega)
   obtain⟨I,hI⟩:∃I:World->Prop,I=fun u=>Zk enK u (w.heap.size+1) H/\Box u pe [.int .i64 en.kind,.int .i64 en.n,.bool en.wr]/\Box u pb [.bool x.live,.slice x.ar.a x.ar.n x.ar.c,.slice x.t0.a x.t0.n x.t0.c,.slice x.t1.a x.t1.n x.t1.c,.slice x.t2.a x.t2.n x.t2.c,.slice x.t3.a x.t3.n x.t3.c,.slice x.t4.a x.t4.n x.t4.c,.slice x.t5.a x.t5.n x.t5.c,.slice x.t6.a x.t6.n x.t6.c,.slice x.t7.a x.t7.n x.t7.c]/\zb blE W1.heap.size u (.slice (some ad2) q pc) ((qh s).map fun(n:Nat)=>(n:Int))/\zc w u:=⟨_,rfl⟩
   have HI:Hid (∀u,I u↔Zk enK u (w.heap.size+1) H/\Box u pe [.int .i64 en.kind,.int .i64 en.n,.bool en.wr]/\Box u pb [.bool x.live,.slice x.ar.a x.ar.n x.ar.c,.slice x.t0.a x.t0.n x.t0.c,.slice x.t1.a x.t1.n x.t1.c,.slice x.t2.a x.t2.n x.t2.c,.slice x.t3.a x.t3.n x.t3.c,.slice x.t4.a x.t4.n x.t4.c,.slice x.t5.a x.t5.n x.t5.c,.slice x.t6.a x.t6.n x.t6.c,.slice x.t7.a x.t7.n x.t7.c]/\zb blE W1.heap.size u (.slice (some ad2) q pc) ((qh s).map fun(n:Nat)=>(n:Int))/\zc w u):=show∀u,_ from fun u=>by rw[hI]
   clear hI;have hx0:∀y:zr I,y.world.cell? ⟨pe,0,none⟩=some (.int .i64 en.kind):=fun y=>((HI.out _).1 y.holds).2.1.c 0 rfl
   have hx1:∀y:zr I,y.world.cell? ⟨pe,1,none⟩=some (.int .i64 en.n):=fun y=>((HI.out _).1 y.holds).2.1.c 1 rfl
   have hlk:∀y:zr I,(Instr.lookup 229 (.map (some (w.heap.size+1))) (.agg #[.int .i64 en.kind,.int .i64 en.n,.bool false]) false).run Tryz.prog y.world= .ok (.int .i64 (H (en.kind,en.n))) y.world:=fun y=>((HI.out _).1 y.holds).1.look (K:=enK) Tryz.underlying229 (zlw _) (en.kind,en.n)
   have hI0:I W5.drew:=(HI.out _).2 ⟨M5.out.grew (gW _),E5.out.grew (gW _),S5.out.grew (gW _),OW5.out.grew (gW _),HG5.out.trans (gW _)⟩
   have hne:Nonempty (zr I):=⟨⟨_,hI0⟩⟩;refine qP (I:=I) 10 [(8,⟨fun v=>∃st,v= .tuple #[.int .i64 (H (en.kind,en.n)),.int .i64 st],fun v w'=>∃st,v= .tuple #[.int .i64 (H (en.kind,en.n)),.int .i64 st]/\za4 enK w' (w.heap.size+1) H (en.kind,en.n) st,fun _ _=>True,fun _=>True⟩)] hI0 qy (by kernel_rfl) rfl rfl (by decide) ?hS ?hp ?hpre ?hpr0 ?_
   case hS=>
    intro y hy;simp only[mC,nM,or_false]at hy;subst hy;exact⟨_,0,rfl⟩
   case hp=>
    intro k s j t' hk hj hjk _ v p q hst hpo;obtain⟨rfl,rfl⟩:=zd4 hk;obtain⟨rfl,rfl⟩:=zd4 hj;exact absurd rfl hjk
   case hpre=>
    intro j t' k s hj hk hjk p q hst hpr;obtain⟨rfl,rfl⟩:=zd4 hj;trivial
   case hpr0=>
    intro k t' hk;obtain⟨rfl,rfl⟩:=zd4 hk;trivial
   simp only[List.take,List.drop];iterate 8 (refine zk rfl rfl rfl (fun K hK=>?_);go_big_quiet_op;refine hK _ ?_;clear hK K)
   refine zF rfl rfl (fun w' hI' hpr hF=>?_) (fun v1 hv=>?_)
   ·obtain⟨i1,i2,i3,i4,i5⟩:=(HI.out _).1 hI';obtain⟨w2,st,hrun,r1,r2,r3⟩:=i1.entry (K:=enK) Tryz.underlying229 (zlw w') (en.kind,en.n);have hrun':(Instr.mapEntry 229 (.map (some (w.heap.size+1))) (.agg #[.int .i64 en.kind,.int .i64 en.n,.bool false])).run Tryz.prog w'= .ok (.tuple #[.int .i64 (H (en.kind,en.n)),.int .i64 st]) w2:=hrun;clear hx0 hx1 hlk hne;refine zL.step (v:= .tuple #[.int .i64 (H (en.kind,en.n)),.int .i64 st]) (w':=w2) (by simp only[execOp];go_simp) ⟨(HI.out _).2 ⟨r1.h,i2.grown r2 (i1.ne_box i2),i3.grown r2 (i1.ne_box i3),i4.grown r2 (i1.ne_own i4),zg i5 r2 (by omega)⟩,trivial,⟨_,rfl⟩,_,rfl,r1⟩
   obtain⟨st,rfl⟩:=hv;simp only[Act.put,sB,sS,sZ];iterate 1 (refine zk rfl rfl rfl (fun K hK=>?_);go_big_quiet_op;refine hK _ ?_;clear hK K)
   refine jI fun W6 hI6 hF=>?_
   obtain⟨i1,i2,i3,i4,i5⟩:=(HI.out _).1 hI6;obtain⟨st',hst,hE⟩:∃st',(Value.tuple #[.int .i64 (H (en.kind,en.n)),.int .i64 st])= .tuple #[.int .i64 (H (en.kind,en.n)),.int .i64 st']/\za4 enK W6 (w.heap.size+1) H (en.kind,en.n) st':=hF 8;have hE':za4 enK W6 (w.heap.size+1) H (en.kind,en.n) st:=by
    simp at hst
    rw[hst];exact hE
   have S6:Hid (Box W6 pb [.bool x.live,.slice x.ar.a x.ar.n x.ar.c,.slice x.t0.a x.t0.n x.t0.c,.slice x.t1.a x.t1.n x.t1.c,.slice x.t2.a x.t2.n x.t2.c,.slice x.t3.a x.t3.n x.t3.c,.slice x.t4.a x.t4.n x.t4.c,.slice x.t5.a x.t5.n x.t5.c,.slice x.t6.a x.t6.n x.t6.c,.slice x.t7.a x.t7.n x.t7.c]):=i3;have OW6:Hid (zb blE W1.heap.size W6 (.slice (some ad2) q pc) ((qh s).map fun(n:Nat)=>(n:Int))):=i4
   have HG6:Hid (zc w W6):=i5;have M6:Hid (Zk enK W6 (w.heap.size+1) H):=i1;have HE6:Hid (za4 enK W6 (w.heap.size+1) H (en.kind,en.n) st):=hE';clear hx0 hx1 hlk hne hF hI6 i1 i2 i3 i4 i5 hE hst hE' hI0;refine J8 (K:=enK) rfl 229 (.tmp 47) (.tmp 56) (.tmp 54) rfl (w.heap.size+1) H (en.kind,en.n) st HE6.out rfl rfl (by go_num) ?_
   intro W7 m7 hg7 _;have S7:Hid (Box W7 pb [.bool x.live,.slice x.ar.a x.ar.n x.ar.c,.slice x.t0.a x.t0.n x.t0.c,.slice x.t1.a x.t1.n x.t1.c,.slice x.t2.a x.t2.n x.t2.c,.slice x.t3.a x.t3.n x.t3.c,.slice x.t4.a x.t4.n x.t4.c,.slice x.t5.a x.t5.n x.t5.c,.slice x.t6.a x.t6.n x.t6.c,.slice x.t7.a x.t7.n x.t7.c]):=S6.out.grown hg7 (M6.out.ne_box S6.out);have OW7:Hid (zb blE W1.heap.size W7 (.slice (some ad2) q pc) ((qh s).map fun(n:Nat)=>(n:Int))):=OW6.out.grown hg7 (M6.out.ne_own OW6.out)
   have HG7:Hid (zc w W7):=show zc _ _ from zg HG6.out hg7 (by omega)
   have M7:Hid (Zk enK W7 (w.heap.size+1) (qi m i ((qh s).take (j+1)) s)):=show Zk _ _ _ _ from m7.congr fun k=>by rw[HTS.out,zhB,HEN.out,HH.out];rfl
   clear m7 hg7 hb0 hb1;go_wp2
   go_roundg (q -(j+1))
   case measure=>omega
   exact⟨j+1,by omega,by omega,by go_num,HG7.out,OW7.out,S7.out,M7.out⟩
  have hltz3:¬(j:Int)< (q:Int):=by omega
  have:j=q:=by omega
  subst this;have M8:Hid (Zk enK wr (w.heap.size+1) (qi m (i+1) [] zcU)):=show Zk _ _ _ _ from MW.out.congr fun k=>by
   rw[List.take_of_length_le (by rw[HQ.out];exact nR _)]
   exact zhC m i s zcU HS.out k
  go_wp2
  go_roundg (spn -(i+1))
  case measure=>omega
  exact⟨i+1,by omega,by omega,by go_num,BW.out,M8.out⟩
 have hltz2:¬(i:Int)< (spn:Int):=by omega
 have:i=spn:=by omega
 subst this;have M9:Hid (Zk enK wr (w.heap.size+1) (qi m m.sp.length [] zcU)):=show Zk _ _ _ _ by rw[HNS.out];exact MW.out
 go_wp2;go_ret;exact⟨_,rfl,M9.out,BW.out⟩
def qC (fl:List Fl) (i:Nat) (bl:List Int):List Int:=(J3 (fl.take i))++bl
theorem JX {n:Nat} {g h:List Int} (e:∀i:Nat,i<n->g.contains (i:Int)=h.contains (i:Int)):qp n g=qp n h:=by
 unfold qp
 apply List.map_congr_left
 intro i hi;rw[e i (List.mem_range.1 hi)]
theorem zgH (fl:List Fl) (i:Nat) (bl:List Int) {b:Int} (hb:b<0) (n:Nat):qp n (qC fl i (bl++ [b]))=qp n (qC fl i bl):=JX fun j _=>by
 unfold qC;have:¬(j:Int)=b:=by omega
 simp[this]
theorem zhR (fl:List Fl) (i:Nat) (bl:List Int) (b:Nat) (n:Nat):qp n ((b:Int) :: qC fl i bl)=qp n (qC fl i (bl++ [(b:Int)])):=JX fun j _=>by
 unfold qC;rw[Bool.eq_iff_iff];simp only[List.contains_eq_mem,mC,List.mem_append,nM,or_false,decide_eq_true_eq];constructor
 ·rintro(h | h | h)
  ·exact .inr (.inr h)
  ·exact .inl h
  exact .inr (.inl h)
 rintro(h | h | h)
 ·exact .inr (.inl h)
 ·exact .inr (.inr h)
 exact .inl h
theorem zgI {fl:List Fl} {i:Nat} {f:Fl} (hf:fl[i]? =some f):qC fl i f.bl=qC fl (i+1) []:=by
 unfold qC J3;rw[List.take_add_one,hf];simp
theorem zhS (fl:List Fl) (b:Int):(qC fl fl.length []).contains b=qG fl b:=by
 unfold qC J3 qG;rw[List.take_length,List.append_nil,Bool.eq_iff_iff];simp
theorem zlx:(Tryz.prog.info? 223).map (·.size)=some 80:=by kernel_rfl
theorem zd1 (n:Nat) (g:List Int):∀v∈qp n g,v.oneCell'=true:=fun v hv=>by
 unfold qp at hv;obtain⟨i,_,rfl⟩:=List.mem_map.1 hv;rfl
theorem zai (n:Nat) (g:List Int):(qp n g).length=n:=by simp[qp]
theorem zbN (v:Value) (fl:List Fl) (cnt:Int) (w:World) (hv:qN w v fl) (hst:stW fl cnt=0):
  Calls Tryz.prog 160 #[.agg #[v,.int .i64 cnt]] w fun e w'=>e= .returned (.agg (qp 80 (qC fl fl.length [])).toArray)/\zc w w':=by
 have hz:=zaz;obtain⟨a,c,rfl,hbig,hrow⟩:=hv.rows;have HR:Hid (Zb w a fl):=hrow;clear hrow hv;have HB:Hid (∀f∈fl,∀b∈f.bl,b=-1\/(0<=b/\b<80)):=show∀f∈fl,_ from fun f hf b hb=>by
  obtain⟨⟨_,_,h80⟩,h2,_⟩:=(jp fl cnt).1 hst
  rcases(h2 f hf).2.2 b hb with h | h
  ·exact .inl h
  exact .inr (by omega)
 clear hst;obtain⟨n,HN⟩:∃n,Hid (fl.length=n):=⟨_,rfl⟩;rw[HN.out]at hbig⊢;obtain⟨W0,hW0⟩:∃W0,((w.alloc (.cells #[.slice a n c,.int .i64 cnt] 37)).alloc (.cells zdu 223)).alloc (.cells zdu 223)=W0:=⟨_,rfl⟩;have HG0:Hid (zc w W0):=show zc _ _ by rw[<-hW0];exact((za _ _).trans (za _ _)).trans (za _ _)
 have X0:Hid (Box W0 w.heap.size [.slice a n c,.int .i64 cnt]):=show Box _ _ _ by rw[<-hW0];exact((Box.top _ _ _ rfl).alloc _).alloc _
 have Y0:Hid (Box W0 (w.heap.size+1) (qp 80 [])):=show Box _ _ _ by rw[<-hW0,zby];exact(Box.top _ (List.replicate 80 (.bool false)) _ (by simp)).alloc _
 have Z0:Hid (Box W0 (w.heap.size+1+1) (qp 80 (qC fl 0 []))):=show Box _ _ _ by
  have:qp 80 (qC fl 0 [])=qp 80 []:=JX fun i _=>by simp[qC,J3]
  rw[<-hW0,this,zby];exact Box.top _ (List.replicate 80 (.bool false)) _ (by simp)
 have HW0:Hid (_=W0):=hW0;clear hW0
 go_enter Tryz.func160,Tryz.ntmps160
 go_upto_region 2 with fail;rw[HW0.out];clear hz;have x0:=X0.out.c 0 rfl;go_wp2;clear x0
 go_loopg [5,11] n (fun gg _ s11 wr=>∃i:Nat,i<=n/\n - i<=gg/\s11= .int .i64 i/\Hid (zc w wr)/\Hid (Box wr (w.heap.size+1) (qp 80 []))/\Hid (Box wr (w.heap.size+1+1) (qp 80 (qC fl i []))))
 case atStart=>exact⟨0,nZ _,by omega,rfl,HG0.out,Y0.out,Z0.out⟩
 obtain⟨i,hi,hgg,rfl,BW,YW,ZW⟩:=hrel;clear X0 Y0 Z0
 by_cases hlt:i<n
 ·have hltz:(i:Int)< (n:Int):=by omega
  obtain⟨f,HF⟩:∃f,Hid (fl[i]? =some f):=⟨_,gE (by rw[HN.out];exact hlt)⟩
  obtain⟨ad,rfl,xa,xc,hr2,hl⟩:=HR.out i f HF.out;obtain⟨d0,d1⟩:=hl wr BW.out;obtain⟨_,_,heq,hnr⟩:=hr2.nums;have hq:=hr2.short;have HNR:Hid (zaM w xa f.bl):=show zaM _ _ _ by
   simp only[vJ]at heq;rw[heq.1];exact hnr
  clear heq hnr hr2 hl;obtain⟨q,HQ⟩:∃q,Hid (f.bl.length=q):=⟨_,rfl⟩;rw[HQ.out]at d1 hq;go_upto_region 5 with fail;obtain⟨W1,hW1⟩:∃W1,wr.alloc (.cells #[.int .i64 f.size,.slice xa q xc] 88)=W1:=⟨_,rfl⟩;have HG1:=gT hW1 BW
  have F1:=xA hW1
  have Y1:=yA hW1 YW
  have Z1:=yA hW1 ZW
  rw[hW1];clear hW1 d0 d1;have f1:=F1.out.c 1 rfl;go_wp2;clear f1;have HBW:Hid (zc w wr):=BW;clear BW YW ZW
  go_loopg [7,18] q (fun gg _ s18 wr=>∃j:Nat,j<=q/\q - j<=gg/\s18= .int .i64 j/\Hid (zc w wr)/\Hid (Box wr (w.heap.size+1) (qp 80 []))/\Hid (Box wr (w.heap.size+1+1) (qp 80 (qC fl i (f.bl.take j)))))
  case atStart=>exact⟨0,nZ _,by omega,rfl,HG1.out,Y1.out,by rw[List.take_zero];exact Z1.out⟩
  obtain⟨j,hj,hg2,rfl,BW,YW,ZW⟩:=hrel;clear F1 Y1 Z1
  by_cases hlt2:j<q
  ·have hltz2:(j:Int)< (q:Int):=by omega
   obtain⟨b,HBJ⟩:∃b,Hid (f.bl[j]? =some b):=⟨_,gE (by rw[HQ.out];exact hlt2)⟩
   obtain⟨ad2,rfl,hl2⟩:=HNR.out j b HBJ.out;have e0:=hl2 wr BW.out;have HRB:Hid (b=-1\/(0<=b/\b<80)):=HB.out f (mG HF.out) b (mG HBJ.out);have HTS:Hid (f.bl.take (j+1)=f.bl.take j++ [b]):=qa HBJ.out;clear hl2
   by_cases hb:0<=b
   ·obtain⟨k,rfl⟩:∃k:Nat,b=(k:Int):=⟨b.toNat,by omega⟩
    have hk80:k<80:=by have:=HRB.out;omega
    have z0:=ZW.out.c k (QB _ hk80);have zf:=ZW.out.f;have Z2:Hid (Box (wr.setCell ⟨w.heap.size+1+1,k,none⟩ (.bool true)) (w.heap.size+1+1) (qp 80 (qC fl i (f.bl.take (j+1))))):=show Box _ _ _ by
     rw[HTS.out,<-zhR,<-zd0 _ hk80];exact ZW.out.set k _
    have Y2:Hid (Box (wr.setCell ⟨w.heap.size+1+1,k,none⟩ (.bool true)) (w.heap.size+1) (qp 80 [])):=show Box _ _ _ from YW.out.other (by simp) _
    have G2:Hid (zc w (wr.setCell ⟨w.heap.size+1+1,k,none⟩ (.bool true))):=show zc _ _ from zD BW.out (by simp;omega) _
    go_wp2
    go_roundg (q -(j+1))
    case measure=>omega
    exact⟨j+1,by omega,by omega,by go_num,G2.out,Y2.out,Z2.out⟩
   have Z2:Hid (Box wr (w.heap.size+1+1) (qp 80 (qC fl i (f.bl.take (j+1))))):=show Box _ _ _ by
    rw[HTS.out,zgH _ _ _ (by omega)]
    exact ZW.out
   go_wp2
   go_roundg (q -(j+1))
   case measure=>omega
   exact⟨j+1,by omega,by omega,by go_num,BW.out,YW.out,Z2.out⟩
  have hltz2:¬(j:Int)< (q:Int):=by omega
  have:j=q:=by omega
  subst this;have Z2:Hid (Box wr (w.heap.size+1+1) (qp 80 (qC fl (i+1) []))):=show Box _ _ _ by
   have h1:=ZW.out;rw[List.take_of_length_le (by rw[HQ.out];exact nR _),zgI HF.out]at h1
   exact h1
  go_wp2
  go_roundg (n -(i+1))
  case measure=>omega
  exact⟨i+1,by omega,by omega,by go_num,BW.out,YW.out,Z2.out⟩
 have hltz:¬(i:Int)< (n:Int):=by omega
 have:i=n:=by omega
 subst this;obtain⟨ms,HMS⟩:∃ms,Hid (qp 80 (qC fl i [])=ms):=⟨_,rfl⟩;have HML:Hid (ms.length=80):=show _=_ by rw[<-HMS.out];exact zai _ _
 have HMO:Hid (∀v∈ms,v.oneCell'=true):=show∀v∈ms,_ by rw[<-HMS.out];exact zd1 _ _
 rw[HMS.out]at ZW;go_upto_region 12 with fail
 go_wp2_with (first | (refine zG rfl 223 (.tmp 3) rfl (w.heap.size+1+1) rfl ZW.out Tryz.underlying223 rfl (by rw[HML.out];exact zlx) ?_) | (refine zQ rfl 223 (.tmp 2) (.tmp 28) rfl (w.heap.size+1) rfl ms rfl YW.out (by rw[HML.out,zai]) (by rw[zai];exact zlx) HMO.out ?_))
 intro W5 hb5 hg5 _;have G5:Hid (zc w W5):=show zc _ _ from zg BW.out hg5 (by omega)
 go_wp2;refine bodyPost_ret (zW rfl _ rfl hb5 Tryz.underlying223 rfl (by rw[HML.out];exact zlx)) rfl ⟨by rw[<-HMS.out],G5.out⟩
theorem zdt (b0 b1 b2 b3 b4 b5 b6 b7:Int):zbu ⟨b0,b1,b2,b3,b4,b5,b6,b7⟩ ⟨0,0,0,0,0,0,0,0⟩=([b0,b1,b2,b3,b4,b5,b6,b7] == zz):=by
 rw[Bool.eq_iff_iff,zbt]
 simp[zz]
def js (m:Ma) (b:Nat):Bool:=!qG m.fl (b:Int) && !(m.db.getD b [] == zz)
theorem zbS {m:Ma} (h:∀b,b<m.db.length->js m b=false):jP m=0:=by
 unfold jP;rw[if_neg];rw[List.any_eq_true];rintro⟨b,hb,hx⟩;have:=h b (List.mem_range.1 hb);unfold js at this;rw[this]at hx;cases hx
theorem zcB {m:Ma} {b:Nat} (hb:b<m.db.length) (h:js m b=true):jP m=7:=by
 unfold jP;rw[if_pos];rw[List.any_eq_true];exact⟨b,List.mem_range.2 hb,h⟩
theorem zdK {m:Ma} (h:∀(j:Nat) q,m.dq[j]? =some q->qG m.fl q.1=true):jH m=0:=by
 unfold jH;rw[if_neg];rw[List.any_eq_true];rintro⟨q,hq,hx⟩;obtain⟨j,hj⟩:=List.getElem?_of_mem hq;rw[h j q hj]at hx;cases hx
theorem zck {m:Ma} {j:Nat} {q:Int × List Int} (hq:m.dq[j]? =some q) (h:qG m.fl q.1=false):jH m=7:=by
 unfold jH;rw[if_pos];rw[List.any_eq_true];exact⟨q,mG hq,by rw[h];rfl⟩
theorem zeH {n:Nat} {qs:List (Int × List Int)} (h:zy n qs=0):n<=80/\∀(j:Nat) q,qs[j]? =some q->0<=q.1/\q.1<n:=by
 unfold zy at h
 split at h
 ·cases h
 split at h
 ·cases h
 split at h
 ·cases h
 rename_i h1 h2 h3
 refine⟨by omega,fun j q hq=>?_⟩
 have:(!jx q.1 n)=false:=by
  cases e:(!jx q.1 n)with
  | false=>rfl
  | true=>exact absurd (List.any_eq_true.2 ⟨q,mG hq,e⟩) h3
 simp[jx]at this
 exact this
theorem zjj {m:Ma} {b:Nat} (hb:b<80):(qp 80 (qC m.fl m.fl.length []))[b]? =some (.bool (qG m.fl (b:Int))):=by
 rw[QB _ hb,zhS]
theorem zb2 (V:MaV) (m:Ma) (w:World) (hm:zC w V m) (h1:zew m):
  Calls Tryz.prog 116 #[.agg #[.slice V.f.a V.f.n V.f.c,.int .i64 m.hand,.slice V.s.a V.s.n V.s.c,.slice V.sb.a V.sb.n V.sb.c,.slice V.sq.a V.sq.n V.sq.c,.slice V.db.a V.db.n V.db.c,.slice V.dq.a V.dq.n V.dq.c,.slice V.fl.a V.fl.n V.fl.c,.int .i64 m.cnt,.slice V.ca.a V.ca.n V.ca.c,.slice V.sp.a V.sp.n V.sp.c]] w fun e w'=>e= .returned (.int .i64 (ze (Q2 m)))/\zc w w':=by
 obtain⟨vf,vs,vsb,vsq,⟨dba,dbn,dbc⟩,⟨dqa,dqn,dqc⟩,vfl,vca,vsp⟩:=V;dsimp only;have hz:=zaz;obtain⟨-,n2,n3,-,n5,n6,-⟩:=hm.ns;dsimp only at n2 n3 n5 n6;have HFB:Hid (∀W,zc w W->Calls Tryz.prog 160 #[.agg #[.slice vfl.a vfl.n vfl.c,.int .i64 m.cnt]] W fun e w'=>e= .returned (.agg (qp 80 (qC m.fl m.fl.length [])).toArray)/\zc W w'):=show∀W,_ from fun W hW=>zbN _ m.fl m.cnt W (hm.grew hW).fl h1.st
 have HPG:Hid (JA w dba m.db):=hm.pgs;have HPU:Hid (ZA w dqa m.dq):=hm.puts;obtain⟨h80,hqs⟩:=zeH h1.dq;have HQS:Hid (∀(j:Nat) q,m.dq[j]? =some q->0<=q.1/\q.1<m.db.length):=hqs;have HN5:Hid (m.db.length=dbn):=n5.symm;have HN6:Hid (m.dq.length=dqn):=n6.symm;have hb6:dqn<=9223372036854775807:=by have:=hm.dq.2.2;omega
 rw[HN5.out]at h80;obtain⟨Z,HZ⟩:∃Z,Hid (ze (Q2 m)=Z):=⟨_,rfl⟩;rw[HZ.out];have HZ2:Hid (ze [zcc m,jP m,jH m]=Z):=HZ.out;have hfit:zcc m=if vs.n≠vsb.n\/m.cnt≠(dbn:Int)then 7 else 0:=by unfold zcc;rw[n2,n3,n5]
 clear hm h1 hqs n2 n3 n5 n6;obtain⟨W0,hW0⟩:∃W0,w.alloc (.cells #[.slice vf.a vf.n vf.c,.int .i64 m.hand,.slice vs.a vs.n vs.c,.slice vsb.a vsb.n vsb.c,.slice vsq.a vsq.n vsq.c,.slice dba dbn dbc,.slice dqa dqn dqc,.slice vfl.a vfl.n vfl.c,.int .i64 m.cnt,.slice vca.a vca.n vca.c,.slice vsp.a vsp.n vsp.c] 41)=W0:=⟨_,rfl⟩;have HG0:=gA hW0
 have X0:=xA hW0
 have HS0:Hid (w.heap.size<W0.heap.size):=show _<_ by rw[<-hW0];simp
 have HW0:Hid (_=W0):=hW0;clear hW0
 by_cases c1:vsb.n=vs.n
 ·by_cases c2:m.cnt=(dbn:Int)
  ·have HF:Hid (zcc m=0):=show _=_ by rw[hfit,if_neg (by omega)]
   have c1e:((vsb.n:Int) !=(vs.n:Int))=false:=by simp[c1]
   have c2e:((dbn:Int) != m.cnt)=false:=by simp[c2]
   have c1f:(vsb.n != vs.n)=false:=by simp[c1]
   have HB0:Hid (∀b,b<m.db.length->js m b=true->Z=7):=show∀b,_ from fun b hb h=>by rw[<-HZ2.out,zE,if_pos HF.out,zE,zcB hb h];rfl
   have HB1:Hid ((∀b,b<m.db.length->js m b=false)->∀(j:Nat) q,m.dq[j]? =some q->qG m.fl q.1=false->Z=7):=show _->_ from fun h j q hq hu=>by rw[<-HZ2.out,zE,if_pos HF.out,zE,if_pos (zbS h),zE,zck hq hu];rfl
   have HB2:Hid ((∀b,b<m.db.length->js m b=false)->(∀(j:Nat) q,m.dq[j]? =some q->qG m.fl q.1=true)->Z=0):=show _->_ from fun h h'=>by rw[<-HZ2.out,zE,if_pos HF.out,zE,if_pos (zbS h),zE,zdK h'];rfl
   have hFB:=HFB.out W0 HG0.out;clear hfit HFB HF HZ HZ2;have HC1:Hid (vsb.n=vs.n):=c1;have HC2:Hid (m.cnt=(dbn:Int)):=c2;clear c1 c2
   go_enter Tryz.func116,Tryz.ntmps116
   go_upto_region 1 with fail;rw[HW0.out];have x2:=X0.out.c 2 rfl;have x3:=X0.out.c 3 rfl;have x5:=X0.out.c 5 rfl;have x6:=X0.out.c 6 rfl;have x7:=X0.out.c 7 rfl;have x8:=X0.out.c 8 rfl;go_upto_region 3 with fail;go_wp2_with fail;refine hFB.mono ?_;clear hFB x2 x3 x5 x6 x7 x8;rintro e W1 ⟨rfl,hg1⟩;have HG1:=dD (HG0.out.trans hg1);have X1:=dD (X0.out.grew hg1);clear hg1;obtain⟨ms,HMS⟩:∃ms,Hid (qp 80 (qC m.fl m.fl.length [])=ms):=⟨_,rfl⟩;have HML:Hid (ms.length=80):=show _=_ by rw[<-HMS.out];exact zai _ _
   have HMO:Hid (∀v∈ms,v.oneCell'=true):=show∀v∈ms,_ by rw[<-HMS.out];exact zd1 _ _
   have HMA:Hid (∀b:Nat,b<80->ms[b]? =some (.bool (qG m.fl (b:Int)))):=show∀b:Nat,_ from fun b hb=>by rw[<-HMS.out];exact zjj hb
   rw[HMS.out];obtain⟨W2,hW2⟩:∃W2,W1.alloc (.cells zdu 223)=W2:=⟨_,rfl⟩;have HG2:=gT hW2 HG1
   have X2:=yA hW2 X1
   have Z2:Hid (Box W2 W1.heap.size (List.replicate 80 (.bool false))):=show Box _ _ _ by rw[<-hW2];exact Box.top _ (List.replicate 80 (.bool false)) _ rfl
   have HW2:Hid (_=W2):=hW2;clear hW2;have HLT:Hid (w.heap.size<=W1.heap.size):=show _<=_ from bS HG1.out
   have HXL:Hid (w.heap.size<W1.heap.size):=show _<_ from X1.out.lt
   go_wp2_with (first | (rw[HW2.out];refine zQ rfl 223 (.tmp 3) (.tmp 28) rfl W1.heap.size rfl ms rfl Z2.out (by rw[HML.out];simp) (by simpa using zlx) HMO.out ?_))
   intro W3 hb3 hg3 _;have HG3:Hid (zc w W3):=show zc _ _ from zg HG2.out hg3 HLT.out
   have X3:Hid (Box W3 w.heap.size [.slice vf.a vf.n vf.c,.int .i64 m.hand,.slice vs.a vs.n vs.c,.slice vsb.a vsb.n vsb.c,.slice vsq.a vsq.n vsq.c,.slice dba dbn dbc,.slice dqa dqn dqc,.slice vfl.a vfl.n vfl.c,.int .i64 m.cnt,.slice vca.a vca.n vca.c,.slice vsp.a vsp.n vsp.c]):=X2.out.grown hg3 (by have:=HXL.out;omega)
   have Z3:Hid (Box W3 W1.heap.size ms):=hb3;obtain⟨p3,HP3⟩:∃p3,Hid (W1.heap.size=p3):=⟨_,rfl⟩;rw[HP3.out]at Z3⊢;clear hb3 hg3 Z2 X2 HG2 HW2 HXL HLT hz;have x5:=X3.out.c 5 rfl;go_wp2;clear x5;obtain⟨n,HN⟩:∃n,Hid (dbn=n):=⟨_,rfl⟩;rw[HN.out]at h80⊢
   go_loopg [33] n (fun gg s33 wr=>∃kk:Nat,kk<=n/\n - kk<=gg/\s33= .int .i64 kk/\Hid (zc w wr)/\Hid (Box wr w.heap.size [.slice vf.a vf.n vf.c,.int .i64 m.hand,.slice vs.a vs.n vs.c,.slice vsb.a vsb.n vsb.c,.slice vsq.a vsq.n vsq.c,.slice dba dbn dbc,.slice dqa dqn dqc,.slice vfl.a vfl.n vfl.c,.int .i64 m.cnt,.slice vca.a vca.n vca.c,.slice vsp.a vsp.n vsp.c])/\Hid (Box wr p3 ms)/\Hid (∀b,b<kk->js m b=false))
   case atStart=>exact⟨0,nZ _,by omega,rfl,HG3.out,X3.out,Z3.out,fun b hb=>absurd hb (nL _)⟩
   obtain⟨kk,hkk,hgg,rfl,BW,XW,ZW,OW⟩:=hrel;clear X3 Z3 HG3
   by_cases hlt:kk<n
   ·have hltz:(kk:Int)< (n:Int):=by omega
    have hk80:kk<80:=by omega
    have HKL:Hid (kk<m.db.length):=show _<_ by rw[HN5.out,HN.out];exact hlt
    obtain⟨p,HP⟩:∃p,Hid (m.db[kk]? =some p):=⟨_,gE HKL.out⟩;obtain⟨ad,b0,b1,b2,b3,b4,b5,b6,b7,rfl,rfl,hl⟩:=HPG.out kk p HP.out;have HBD:Hid (js m kk=(!qG m.fl (kk:Int) && !([b0,b1,b2,b3,b4,b5,b6,b7] == zz))):=show _=_ by unfold js;rw[gD,HP.out];rfl
    obtain⟨d0,d1,d2,d3,d4,d5,d6,d7⟩:=hl wr BW.out;have hqp:=fun W=>Qi 9998 b0 b1 b2 b3 b4 b5 b6 b7 0 0 0 0 0 0 0 0 W
    simp only[zdt]at hqp;obtain⟨U,HU⟩:∃U,Hid (qG m.fl (kk:Int)=U):=⟨_,rfl⟩;have hmu:=HMA.out kk hk80;rw[HU.out]at hmu;rw[HU.out]at HBD;obtain⟨PZ,HPZ⟩:∃PZ,Hid (([b0,b1,b2,b3,b4,b5,b6,b7] == zz)=PZ):=⟨_,rfl⟩;rw[HPZ.out]at hqp HBD;clear hl;go_upto_region 7 with fail;obtain⟨W4,hW4⟩:∃W4,wr.alloc (.cells #[.int .u8 b0,.int .u8 b1,.int .u8 b2,.int .u8 b3,.int .u8 b4,.int .u8 b5,.int .u8 b6,.int .u8 b7] 67)=W4:=⟨_,rfl⟩;have HG4:=gT hW4 BW
    have X4:=yA hW4 XW
    have Z4:=yA hW4 ZW
    have P4:=xA hW4
    rw[hW4];clear hW4 d0 d1 d2 d3 d4 d5 d6 d7;have z0:=Z4.out.c kk hmu;obtain⟨p0,p1,p2,p3,p4,p5,p6,p7⟩:=P4.out.c8;clear hmu
    cases U with
    | true=>
     have HB:Hid (js m kk=false):=show _=_ by rw[HBD.out];rfl
     have OW':Hid (∀b,b<kk+1->js m b=false):=show∀b,_ from fun b hb=>by
      by_cases e:b=kk
      ·rw[e];exact HB.out
      exact OW.out b (by omega)
     clear p0 p1 p2 p3 p4 p5 p6 p7 hqp;go_wp2
     go_roundg (n -(kk+1))
     case measure=>omega
     exact⟨kk+1,by omega,by omega,by go_num,HG4.out,X4.out,Z4.out,OW'.out⟩
    | false=>
     cases PZ with
     | true=>
      have HB:Hid (js m kk=false):=show _=_ by rw[HBD.out];rfl
      have OW':Hid (∀b,b<kk+1->js m b=false):=show∀b,_ from fun b hb=>by
       by_cases e:b=kk
       ·rw[e];exact HB.out
       exact OW.out b (by omega)
      go_wp2
      go_roundg (n -(kk+1))
      case measure=>omega
      exact⟨kk+1,by omega,by omega,by go_num,HG4.out,X4.out,Z4.out,OW'.out⟩
     | false=>
      have HE:Hid (Z=7):=HB0.out kk HKL.out (by rw[HBD.out];rfl)
      go_wp2;go_ret;exact⟨by rw[HE.out];rfl,HG4.out⟩
   have hltz:¬(kk:Int)< (n:Int):=by omega
   have:kk=n:=by omega
   subst this;have OA:Hid (∀b,b<m.db.length->js m b=false):=show∀b,_ from fun b hb=>OW.out b (by rw[<-HN.out,<-HN5.out];exact hb)
   have x6:=XW.out.c 6 rfl;go_wp2;clear x6;obtain⟨n2,HN2⟩:∃n2,Hid (dqn=n2):=⟨_,rfl⟩;rw[HN2.out]at hb6⊢;have HBW:Hid (zc w wr):=BW;have HZW:Hid (Box wr p3 ms):=ZW;clear BW XW ZW OW
   go_loopg [52] n2 (fun gg s52 wr=>∃j:Nat,j<=n2/\n2 - j<=gg/\s52= .int .i64 j/\Hid (zc w wr)/\Hid (Box wr p3 ms)/\Hid (∀(i:Nat) q,i<j->m.dq[i]? =some q->qG m.fl q.1=true))
   case atStart=>exact⟨0,nZ _,by omega,rfl,HBW.out,HZW.out,fun i q hi=>absurd hi (nL _)⟩
   obtain⟨j,hj,hg2,rfl,BW,ZW,OW⟩:=hrel;clear HBW HZW
   by_cases hlt2:j<n2
   ·have hltz2:(j:Int)< (n2:Int):=by omega
    obtain⟨q,HQ⟩:∃q,Hid (m.dq[j]? =some q):=⟨_,gE (by rw[HN6.out,HN2.out];exact hlt2)⟩
    obtain⟨ad,mm,b0,b1,b2,b3,b4,b5,b6,b7,rfl,rfl,hl⟩:=HPU.out j q HQ.out;obtain⟨r0,r1⟩:=HQS.out j _ HQ.out;simp only at r0 r1;obtain⟨b,rfl⟩:∃b:Nat,mm=(b:Int):=⟨mm.toNat,by omega⟩
    have hk80:b<80:=by rw[HN5.out,HN.out]at r1;omega
    obtain⟨d0,d1,d2,d3,d4,d5,d6,d7,d8⟩:=hl wr BW.out;obtain⟨U,HU⟩:∃U,Hid (qG m.fl (b:Int)=U):=⟨_,rfl⟩;have hmu:=HMA.out b hk80;rw[HU.out]at hmu;clear hl r0 r1;go_upto_region 13 with fail;obtain⟨W4,hW4⟩:∃W4,wr.alloc (.cells #[.int .i64 (b:Int),.int .u8 b0,.int .u8 b1,.int .u8 b2,.int .u8 b3,.int .u8 b4,.int .u8 b5,.int .u8 b6,.int .u8 b7] 103)=W4:=⟨_,rfl⟩;have HG4:=gT hW4 BW
    have Z4:=yA hW4 ZW
    have P4:=xA hW4
    rw[hW4];clear hW4 d0 d1 d2 d3 d4 d5 d6 d7 d8;have z0:=Z4.out.c b hmu;have p0:=P4.out.c 0 rfl;clear hmu
    cases U with
    | true=>
     have OW':Hid (∀(i:Nat) q,i<j+1->m.dq[i]? =some q->qG m.fl q.1=true):=show∀(i:Nat) q,_ from fun i q hi hq=>by
      by_cases e:i=j
      ·subst e;rw[HQ.out]at hq;cases hq;exact HU.out
      exact OW.out i q (by omega) hq
     go_wp2
     go_roundg (n2 -(j+1))
     case measure=>omega
     exact⟨j+1,by omega,by omega,by go_num,HG4.out,Z4.out,OW'.out⟩
    | false=>
     have HE:Hid (Z=7):=HB1.out OA.out j _ HQ.out HU.out;go_wp2;go_ret;exact⟨by rw[HE.out];rfl,HG4.out⟩
   have hltz2:¬(j:Int)< (n2:Int):=by omega
   have:j=n2:=by omega
   subst this;have HE:Hid (Z=0):=HB2.out OA.out fun i q hq=>OW.out i q (by rw[<-HN2.out,<-HN6.out];exact(gS.1 hq).1) hq
   go_wp2;go_ret;exact⟨by rw[HE.out];rfl,BW.out⟩
  have HE:Hid (Z=7):=show _=_ by
   have hf7:zcc m=7:=by rw[hfit,if_pos (.inr c2)]
   rw[<-HZ2.out,zE,hf7];rfl
  have c1e:((vsb.n:Int) !=(vs.n:Int))=false:=by simp[c1]
  have c1f:(vsb.n != vs.n)=false:=by simp[c1]
  have c2e:((dbn:Int) != m.cnt)=true:=by simp;omega
  clear c1 c2 hfit
  go_enter Tryz.func116,Tryz.ntmps116
  go_upto_region 1 with fail;rw[HW0.out];have x2:=X0.out.c 2 rfl;have x3:=X0.out.c 3 rfl;have x5:=X0.out.c 5 rfl;have x8:=X0.out.c 8 rfl;go_wp2;go_ret;exact⟨by rw[HE.out];rfl,HG0.out⟩
 have HE:Hid (Z=7):=show _=_ by
  have hf7:zcc m=7:=by rw[hfit,if_pos (.inl (fun e=>c1 e.symm))]
  rw[<-HZ2.out,zE,hf7];rfl
 have c1e:((vsb.n:Int) !=(vs.n:Int))=true:=by simp;omega
 have c1f:(vsb.n != vs.n)=true:=by simp[c1]
 clear c1 hfit
 go_enter Tryz.func116,Tryz.ntmps116
 go_upto_region 1 with fail;rw[HW0.out];have x2:=X0.out.c 2 rfl;have x3:=X0.out.c 3 rfl;go_wp2;go_ret;exact⟨by rw[HE.out];rfl,HG0.out⟩
theorem zjc {m:Ma} (hca:J1 m none m.ca=0) (k:Nat):frE m k=if(z8 m k).r≠qi m m.sp.length [] zcU (1,(k:Int))\/(0<=(z8 m k).f/\¬Jf m.ca ((z8 m k).f,(z8 m k).x)=some (k:Int))then 7 else 0:=by
 unfold frE;rw[zfU m zcU (k:Int) (by decide:(1:Int)≠0),if_pos rfl]
 have:=zgA hca k
 by_cases h:zK m.ca k=0
 ·have h2:¬Jf m.ca ((z8 m k).f,(z8 m k).x)=some (k:Int):=fun e=>(this.1 e) h
  simp only[h,h2,not_false_iff,and_true]
 have h2:Jf m.ca ((z8 m k).f,(z8 m k).x)=some (k:Int):=this.2 h;simp only[h,h2,not_true,and_false]
theorem zha (m:Ma) (k:Nat):Qh m k=if m.sl.getD k 0≠qi m m.sp.length [] zcU (2,(k:Int))then 7 else 0:=by
 unfold Qh;have h:=zfU m zcU (k:Int) (by decide:(2:Int)≠0)
 have h2:¬(2:Int)=1:=by decide
 rw[if_neg h2,Nat.add_zero]at h;rw[h]
theorem zbj (V:MaV) (m:Ma) (w:World) (hm:zC w V m) (hca:J1 m none m.ca=0) (hsp4:m.sp.length<=4) (htb:∀s∈m.sp,tbW s.tb=0):
  Calls Tryz.prog 120 #[.agg #[.slice V.f.a V.f.n V.f.c,.int .i64 m.hand,.slice V.s.a V.s.n V.s.c,.slice V.sb.a V.sb.n V.sb.c,.slice V.sq.a V.sq.n V.sq.c,.slice V.db.a V.db.n V.db.c,.slice V.dq.a V.dq.n V.dq.c,.slice V.fl.a V.fl.n V.fl.c,.int .i64 m.cnt,.slice V.ca.a V.ca.n V.ca.c,.slice V.sp.a V.sp.n V.sp.c]] w fun e w'=>e= .returned (.int .i64 (Q3 m))/\zc w w':=by
 have HWI:Hid (∀W,zc w W->Calls Tryz.prog 102 #[.agg #[.slice V.f.a V.f.n V.f.c,.int .i64 m.hand,.slice V.s.a V.s.n V.s.c,.slice V.sb.a V.sb.n V.sb.c,.slice V.sq.a V.sq.n V.sq.c,.slice V.db.a V.db.n V.db.c,.slice V.dq.a V.dq.n V.dq.c,.slice V.fl.a V.fl.n V.fl.c,.int .i64 m.cnt,.slice V.ca.a V.ca.n V.ca.c,.slice V.sp.a V.sp.n V.sp.c]] W fun e w'=>∃B,e= .returned (.agg #[.slice V.f.a V.f.n V.f.c,.int .i64 m.hand,.slice V.s.a V.s.n V.s.c,.slice V.sb.a V.sb.n V.sb.c,.slice V.sq.a V.sq.n V.sq.c,.slice V.db.a V.db.n V.db.c,.slice V.dq.a V.dq.n V.dq.c,.slice V.fl.a V.fl.n V.fl.c,.int .i64 m.cnt,.slice V.ca.a V.ca.n V.ca.c,.slice V.sp.a V.sp.n V.sp.c,.map (some B)])/\Zo plK w' B (Jf m.ca)/\zc W w'):=show∀W,_ from fun W hW=>zcR V m W (hm.grew hW)
 have HHO:Hid (∀W,zc w W->Calls Tryz.prog 165 #[.agg #[.slice V.f.a V.f.n V.f.c,.int .i64 m.hand,.slice V.s.a V.s.n V.s.c,.slice V.sb.a V.sb.n V.sb.c,.slice V.sq.a V.sq.n V.sq.c,.slice V.db.a V.db.n V.db.c,.slice V.dq.a V.dq.n V.dq.c,.slice V.fl.a V.fl.n V.fl.c,.int .i64 m.cnt,.slice V.ca.a V.ca.n V.ca.c,.slice V.sp.a V.sp.n V.sp.c]] W fun e w'=>∃B,e= .returned (.map (some B))/\Zk enK w' B (qi m m.sp.length [] zcU)/\zc W w'):=show∀W,_ from fun W hW=>ze8 V m W (hm.grew hW) hsp4 htb
 have HHC:Hid (∀(B k:Nat) W,zc w W->k<m.fs.length->Zo plK W B (Jf m.ca)->Calls Tryz.prog 166 #[.agg #[.slice V.f.a V.f.n V.f.c,.int .i64 m.hand,.slice V.s.a V.s.n V.s.c,.slice V.sb.a V.sb.n V.sb.c,.slice V.sq.a V.sq.n V.sq.c,.slice V.db.a V.db.n V.db.c,.slice V.dq.a V.dq.n V.dq.c,.slice V.fl.a V.fl.n V.fl.c,.int .i64 m.cnt,.slice V.ca.a V.ca.n V.ca.c,.slice V.sp.a V.sp.n V.sp.c,.map (some B)],.int .i64 (k:Int)] W fun e w'=>e= .returned (.bool (decide (Jf m.ca ((z8 m k).f,(z8 m k).x)=some (k:Int))))/\zc W w'):=show∀(B k:Nat) W,_ from fun B k W hW hk hM=>zdg V m B k (Jf m.ca) W (hm.grew hW) hk hM
 obtain⟨⟨fa,fn,fc⟩,⟨sa,sn,sc⟩,vsb,vsq,vdb,vdq,vfl,vca,vsp⟩:=V;dsimp only at HWI HHO HHC⊢;obtain⟨n1,n2,-⟩:=hm.ns;dsimp only at n1 n2;have HFR:Hid (Qs w fa m.fs):=hm.frs;have HSL:Hid (zaU w sa m.sl):=hm.sls;have HN1:Hid (m.fs.length=fn):=n1.symm;have HN2:Hid (m.sl.length=sn):=n2.symm;have hb1:fn<=9223372036854775807:=by have:=hm.fs.short;omega
 have hb2:sn<=9223372036854775807:=by have:=hm.sl.short;omega
 have HFE:Hid (∀k:Nat,frE m k=if(z8 m k).r≠(qi m m.sp.length [] zcU) (1,(k:Int))\/(0<=(z8 m k).f/\¬Jf m.ca ((z8 m k).f,(z8 m k).x)=some (k:Int))then 7 else 0):=show∀k:Nat,_ from fun k=>zjc hca k
 clear hm hca hsp4 htb n1 n2;obtain⟨Z,HZ⟩:∃Z,Hid (Q3 m=Z):=⟨_,rfl⟩;rw[HZ.out];have HZ1:Hid (∀k:Nat,k<m.fs.length->(∀j:Nat,j<k->frE m j=0)->frE m k=7->Z=7):=show∀k:Nat,_ from fun k hk h1 h2=>by
  have h3:=zaS hk h1 (by rw[h2];decide)
  rw[<-HZ.out];unfold Q3;rw[h3,h2,if_neg (by decide)]
 have HZ2:Hid ((∀j:Nat,j<m.fs.length->frE m j=0)->∀k:Nat,k<m.sl.length->(∀j:Nat,j<k->Qh m j=0)->Qh m k=7->Z=7):=show _->_ from fun h0 k hk h1 h2=>by
  have h3:=zaS hk h1 (by rw[h2];decide)
  rw[<-HZ.out];unfold Q3;rw[j8 h0,if_pos rfl,h3,h2]
 have HZ3:Hid ((∀j:Nat,j<m.fs.length->frE m j=0)->(∀j:Nat,j<m.sl.length->Qh m j=0)->Z=0):=show _->_ from fun h0 h1=>by
  rw[<-HZ.out];unfold Q3;rw[j8 h0,if_pos rfl,j8 h1]
 clear HZ;obtain⟨W0,hW0⟩:∃W0,w.alloc (.cells #[.slice fa fn fc,.int .i64 m.hand,.slice sa sn sc,.slice vsb.a vsb.n vsb.c,.slice vsq.a vsq.n vsq.c,.slice vdb.a vdb.n vdb.c,.slice vdq.a vdq.n vdq.c,.slice vfl.a vfl.n vfl.c,.int .i64 m.cnt,.slice vca.a vca.n vca.c,.slice vsp.a vsp.n vsp.c] 41)=W0:=⟨_,rfl⟩;have HG0:=gA hW0
 have X0:=xA hW0
 have HW0:Hid (_=W0):=hW0;clear hW0
 go_enter Tryz.func120,Tryz.ntmps120
 go_upto_region 1 with fail;rw[HW0.out];have hx0:=X0.out.gw 0 rfl
 have hx1:=X0.out.gw 1 rfl
 have hx2:=X0.out.gw 2 rfl
 have hx3:=X0.out.gw 3 rfl
 have hx4:=X0.out.gw 4 rfl
 have hx5:=X0.out.gw 5 rfl
 have hx6:=X0.out.gw 6 rfl
 have hx7:=X0.out.gw 7 rfl
 have hx8:=X0.out.gw 8 rfl
 have hx9:=X0.out.gw 9 rfl
 have hx10:=X0.out.gw 10 rfl
 have hne:Nonempty (zx W0):=⟨⟨_,zc.refl _⟩⟩;refine Qv 5 [(1,⟨fun v=>∃B,v= .agg #[.slice fa fn fc,.int .i64 m.hand,.slice sa sn sc,.slice vsb.a vsb.n vsb.c,.slice vsq.a vsq.n vsq.c,.slice vdb.a vdb.n vdb.c,.slice vdq.a vdq.n vdq.c,.slice vfl.a vfl.n vfl.c,.int .i64 m.cnt,.slice vca.a vca.n vca.c,.slice vsp.a vsp.n vsp.c,.map (some B)],fun v w'=>∃B,v= .agg #[.slice fa fn fc,.int .i64 m.hand,.slice sa sn sc,.slice vsb.a vsb.n vsb.c,.slice vsq.a vsq.n vsq.c,.slice vdb.a vdb.n vdb.c,.slice vdq.a vdq.n vdq.c,.slice vfl.a vfl.n vfl.c,.int .i64 m.cnt,.slice vca.a vca.n vca.c,.slice vsp.a vsp.n vsp.c,.map (some B)]/\Zo plK w' B (Jf m.ca)⟩),(3,⟨fun v=>∃B,v= .map (some B),fun v w'=>∃B,v= .map (some B)/\Zk enK w' B (qi m m.sp.length [] zcU)⟩),(4,⟨fun v=>∃p,v= .pointer (some ⟨p,0,none⟩),fun v w'=>∃p,v= .pointer (some ⟨p,0,none⟩)/\Box w' p [.slice none 0 0,.int .i64 0,.slice none 0 0,.slice none 0 0,.slice none 0 0,.slice none 0 0,.slice none 0 0,.slice none 0 0,.int .i64 0,.slice none 0 0,.slice none 0 0,.map none]/\w.heap.size<=p⟩)] qy (by kernel_rfl) rfl rfl (by decide) ?hS ?hp ?_
 case hS=>
  intro x hx;simp only[mC,nM,or_false]at hx
  rcases hx with rfl | rfl | rfl
  ·exact⟨_,0,rfl⟩
  ·exact⟨_,0,rfl⟩
  exact⟨_,0,rfl⟩
 case hp=>
  intro x hx;simp only[mC,nM,or_false]at hx
  rcases hx with rfl | rfl | rfl
  ·exact fun _ _ _ hg h=>by obtain⟨B,h1,h2⟩:=h;exact⟨B,h1,h2.grew hg⟩
  ·exact fun _ _ _ hg h=>by obtain⟨B,h1,h2⟩:=h;exact⟨B,h1,h2.grew hg⟩
  exact fun _ _ _ hg h=>by obtain⟨p,h1,h2,h3⟩:=h;exact⟨p,h1,h2.grew hg,h3⟩
 simp only[List.take,List.drop];iterate 1 (refine zm rfl rfl rfl (fun K hK=>?_);go_big_quiet_op;refine hK _ ?_;clear hK K)
 refine zM rfl rfl (fun w' hg hF=>?_) (fun v1 hv=>?_)
 ·refine zL.call [.agg #[.slice fa fn fc,.int .i64 m.hand,.slice sa sn sc,.slice vsb.a vsb.n vsb.c,.slice vsq.a vsq.n vsq.c,.slice vdb.a vdb.n vdb.c,.slice vdq.a vdq.n vdq.c,.slice vfl.a vfl.n vfl.c,.int .i64 m.cnt,.slice vca.a vca.n vca.c,.slice vsp.a vsp.n vsp.c]] rfl Tryz.func102 rfl rfl rfl ?_;refine(HWI.out w' (HG0.out.trans hg)).mono ?_;rintro e w'' ⟨B,rfl,hM,hg2⟩;exact⟨_,rfl,hg2,⟨B,rfl⟩,B,rfl,hM⟩
 obtain⟨B1,rfl⟩:=hv;simp only[Act.put,sB,sS,sZ];iterate 1 (refine zm rfl rfl rfl (fun K hK=>?_);go_big_quiet_op;refine hK _ ?_;clear hK K)
 refine zM rfl rfl (fun w' hg hF=>?_) (fun v1 hv=>?_)
 ·refine zL.call [.agg #[.slice fa fn fc,.int .i64 m.hand,.slice sa sn sc,.slice vsb.a vsb.n vsb.c,.slice vsq.a vsq.n vsq.c,.slice vdb.a vdb.n vdb.c,.slice vdq.a vdq.n vdq.c,.slice vfl.a vfl.n vfl.c,.int .i64 m.cnt,.slice vca.a vca.n vca.c,.slice vsp.a vsp.n vsp.c]] rfl Tryz.func165 rfl rfl rfl ?_;refine(HHO.out w' (HG0.out.trans hg)).mono ?_;rintro e w'' ⟨B,rfl,hM,hg2⟩;exact⟨_,rfl,hg2,⟨B,rfl⟩,B,rfl,hM⟩
 obtain⟨B2,rfl⟩:=hv;simp only[Act.put,sB,sS,sZ];refine zM rfl rfl (fun w' hg hF=>?_) (fun v1 hv=>?_)
 ·have hnew:Box (w'.alloc (.cells #[.slice none 0 0,.int .i64 0,.slice none 0 0,.slice none 0 0,.slice none 0 0,.slice none 0 0,.slice none 0 0,.slice none 0 0,.int .i64 0,.slice none 0 0,.slice none 0 0,.map none] 172)) w'.heap.size [.slice none 0 0,.int .i64 0,.slice none 0 0,.slice none 0 0,.slice none 0 0,.slice none 0 0,.slice none 0 0,.slice none 0 0,.int .i64 0,.slice none 0 0,.slice none 0 0,.map none]:=Box.top _ _ _ rfl;have hle:w.heap.size<=w'.heap.size:=bS (HG0.out.trans hg);clear hx0 hx1 hx2 hx3 hx4 hx5 hx6 hx7 hx8 hx9 hx10 hne;refine zL.step (v:= .pointer (some ⟨w'.heap.size,0,none⟩)) (w':=w'.alloc (.cells #[.slice none 0 0,.int .i64 0,.slice none 0 0,.slice none 0 0,.slice none 0 0,.slice none 0 0,.slice none 0 0,.slice none 0 0,.int .i64 0,.slice none 0 0,.slice none 0 0,.map none] 172)) (by simp only[execOp];go_simp) ⟨za _ _,⟨_,rfl⟩,_,rfl,hnew,hle⟩
 obtain⟨p3,rfl⟩:=hv;simp only[Act.put,sB,sS,sZ];refine qU fun W3 hg3 hF=>?_
 obtain⟨B1',he1,hM1⟩:∃B,(Value.agg #[.slice fa fn fc,.int .i64 m.hand,.slice sa sn sc,.slice vsb.a vsb.n vsb.c,.slice vsq.a vsq.n vsq.c,.slice vdb.a vdb.n vdb.c,.slice vdq.a vdq.n vdq.c,.slice vfl.a vfl.n vfl.c,.int .i64 m.cnt,.slice vca.a vca.n vca.c,.slice vsp.a vsp.n vsp.c,.map (some B1)])= .agg #[.slice fa fn fc,.int .i64 m.hand,.slice sa sn sc,.slice vsb.a vsb.n vsb.c,.slice vsq.a vsq.n vsq.c,.slice vdb.a vdb.n vdb.c,.slice vdq.a vdq.n vdq.c,.slice vfl.a vfl.n vfl.c,.int .i64 m.cnt,.slice vca.a vca.n vca.c,.slice vsp.a vsp.n vsp.c,.map (some B)]/\Zo plK W3 B (Jf m.ca):=hF 1;obtain⟨B2',he2,hM2⟩:∃B,(Value.map (some B2))= .map (some B)/\Zk enK W3 B (qi m m.sp.length [] zcU):=hF 3;obtain⟨p3',he3,hB3,hle3⟩:∃p,(Value.pointer (some ⟨p3,0,none⟩))= .pointer (some ⟨p,0,none⟩)/\Box W3 p [.slice none 0 0,.int .i64 0,.slice none 0 0,.slice none 0 0,.slice none 0 0,.slice none 0 0,.slice none 0 0,.slice none 0 0,.int .i64 0,.slice none 0 0,.slice none 0 0,.map none]/\w.heap.size<=p:=hF 4;have e1:B1'=B1:=by simp at he1;exact he1.symm
 have e2:B2'=B2:=by simp at he2;exact he2.symm
 have e3:p3'=p3:=by simp at he3;exact he3.symm
 subst e1 e2 e3;have M1:Hid (Zo plK W3 B1' (Jf m.ca)):=hM1;have M2:Hid (Zk enK W3 B2' (qi m m.sp.length [] zcU)):=hM2;have Y3:Hid (Box W3 p3' [.slice none 0 0,.int .i64 0,.slice none 0 0,.slice none 0 0,.slice none 0 0,.slice none 0 0,.slice none 0 0,.slice none 0 0,.int .i64 0,.slice none 0 0,.slice none 0 0,.map none]):=hB3;have HL3:Hid (w.heap.size<=p3'):=hle3;have HG3:=dD (HG0.out.trans hg3);have X3:=dD (X0.out.grew hg3);clear he1 he2 he3 hM1 hM2 hB3 hle3 hg3 hF hx0 hx1 hx2 hx3 hx4 hx5 hx6 hx7 hx8 hx9 hx10 hne;have HXP:Hid (w.heap.size≠p3'):=show _≠_ from fun e=>by
  obtain⟨t1,h1⟩:=X3.out;obtain⟨t2,h2⟩:=Y3.out;rw[<-e,h1]at h2
  simp at h2
 go_wp2_with (refine zQ rfl 172 (.tmp 3) (.tmp 10) rfl p3' rfl [.slice fa fn fc,.int .i64 m.hand,.slice sa sn sc,.slice vsb.a vsb.n vsb.c,.slice vsq.a vsq.n vsq.c,.slice vdb.a vdb.n vdb.c,.slice vdq.a vdq.n vdq.c,.slice vfl.a vfl.n vfl.c,.int .i64 m.cnt,.slice vca.a vca.n vca.c,.slice vsp.a vsp.n vsp.c,.map (some B1')] rfl Y3.out rfl (by kernel_rfl) (fun v hv=>by
    simp only[mC,nM,or_false]at hv
    rcases hv with rfl | rfl | rfl | rfl | rfl | rfl | rfl | rfl | rfl | rfl | rfl | rfl <;> rfl) ?_)
 intro W4 hb4 hg4 _;have Y4:Hid (Box W4 p3' [.slice fa fn fc,.int .i64 m.hand,.slice sa sn sc,.slice vsb.a vsb.n vsb.c,.slice vsq.a vsq.n vsq.c,.slice vdb.a vdb.n vdb.c,.slice vdq.a vdq.n vdq.c,.slice vfl.a vfl.n vfl.c,.int .i64 m.cnt,.slice vca.a vca.n vca.c,.slice vsp.a vsp.n vsp.c,.map (some B1')]):=hb4;have X4:Hid (Box W4 w.heap.size [.slice fa fn fc,.int .i64 m.hand,.slice sa sn sc,.slice vsb.a vsb.n vsb.c,.slice vsq.a vsq.n vsq.c,.slice vdb.a vdb.n vdb.c,.slice vdq.a vdq.n vdq.c,.slice vfl.a vfl.n vfl.c,.int .i64 m.cnt,.slice vca.a vca.n vca.c,.slice vsp.a vsp.n vsp.c]):=X3.out.grown hg4 HXP.out;have N1:Hid (Zo plK W4 B1' (Jf m.ca)):=M1.out.kept hg4 (fun e=>by cases e;exact Y3.out.ne_map M1.out rfl)
 have N2:Hid (Zk enK W4 B2' (qi m m.sp.length [] zcU)):=show Zk _ _ _ _ by
  obtain⟨g,k1,k2⟩:=M2.out;exact⟨g,k1.kept hg4 (fun e=>by cases e;exact Y3.out.ne_map k1 rfl),k2⟩
 have HG4:Hid (zc w W4):=show zc _ _ from zg HG3.out hg4 HL3.out
 clear hb4 hg4 M1 M2 Y3 X3;have x0:=X4.out.c 0 rfl;go_wp2;clear x0
 go_loopg [17] fn (fun gg s17 wr=>∃kk:Nat,kk<=fn/\fn - kk<=gg/\s17= .int .i64 kk/\Hid (zc W4 wr)/\Hid (∀j:Nat,j<kk->frE m j=0))
 case atStart=>exact⟨0,nZ _,by omega,rfl,zc.refl _,fun j hj=>absurd hj (nL _)⟩
 obtain⟨kk,hkk,hgg,rfl,BW,OW⟩:=hrel
 by_cases hlt:kk<fn
 ·have hltz:(kk:Int)< (fn:Int):=by omega
  have HKL:Hid (kk<m.fs.length):=show _<_ by rw[HN1.out];exact hlt
  obtain⟨q,HQ⟩:∃q,Hid (m.fs[kk]? =some q):=⟨_,gE HKL.out⟩;have HFQ:Hid (z8 m (kk:Int)=q):=show _=_ by unfold z8;rw[tN,gD,HQ.out];rfl
  obtain⟨ad,rfl,hl⟩:=HFR.out kk q HQ.out;obtain⟨d0,d1,d2,d3,d4,d5,d6,d7,d8,d9,d10,d11,d12⟩:=hl wr (HG4.out.trans BW.out);clear hl;go_upto_region 5 with fail;obtain⟨W5,hW5⟩:∃W5,wr.alloc (.cells #[.int .u8 q.p.b0,.int .u8 q.p.b1,.int .u8 q.p.b2,.int .u8 q.p.b3,.int .u8 q.p.b4,.int .u8 q.p.b5,.int .u8 q.p.b6,.int .u8 q.p.b7,.int .i64 q.r,.bool q.u,.bool q.d,.int .i64 q.f,.int .i64 q.x] 69)=W5:=⟨_,rfl⟩;have HG5:=gT hW5 BW
  have HGw5:=dD (HG4.out.trans HG5.out);have F5:=xA hW5
  have Y5:=dD (Y4.out.grew HG5.out);rw[hW5];clear hW5 d0 d1 d2 d3 d4 d5 d6 d7 d8 d9 d10 d11 d12;obtain⟨pf,HPF⟩:∃pf,Hid (wr.heap.size=pf):=⟨_,rfl⟩;rw[HPF.out]at F5⊢;obtain⟨h,HHK⟩:∃h,Hid ((qi m m.sp.length [] zcU) (1,(kk:Int))=h):=⟨_,rfl⟩;have hlk:∀y:zx W5,(Instr.lookup 229 (.map (some B2')) (.agg #[.int .i64 1,.int .i64 (kk:Int),.bool false]) false).run Tryz.prog y.world= .ok (.int .i64 h) y.world:=fun y=>by
   have:=(N2.out.grew (HG5.out.trans y.grew)).look (K:=enK) Tryz.underlying229 (zlw _) (1,(kk:Int));rw[HHK.out]at this;exact this
  have hf8:=F5.out.gw 8 rfl
  have hf11:=F5.out.gw 11 rfl
  have hy0:=Y5.out.gw 0 rfl
  have hy1:=Y5.out.gw 1 rfl
  have hy2:=Y5.out.gw 2 rfl
  have hy3:=Y5.out.gw 3 rfl
  have hy4:=Y5.out.gw 4 rfl
  have hy5:=Y5.out.gw 5 rfl
  have hy6:=Y5.out.gw 6 rfl
  have hy7:=Y5.out.gw 7 rfl
  have hy8:=Y5.out.gw 8 rfl
  have hy9:=Y5.out.gw 9 rfl
  have hy10:=Y5.out.gw 10 rfl
  have hy11:=Y5.out.gw 11 rfl
  have hne:Nonempty (zx W5):=⟨⟨_,zc.refl _⟩⟩;have HFK:=HFE.out kk;rw[HFQ.out,HHK.out]at HFK
  by_cases hr:q.r=h
  ·have hre:(q.r != h)=false:=by simp[hr]
   by_cases hf0:0<=q.f
   ·have hf0d:decide (0<=q.f)=true:=by simpa using hf0
    obtain⟨U,HU⟩:∃U,Hid (decide (Jf m.ca ((z8 m (kk:Int)).f,(z8 m (kk:Int)).x)=some (kk:Int))=U):=⟨_,rfl⟩;have HUF:Hid (frE m kk=if U=true then 0 else 7):=show _=_ by
     have h1:=HU.out;rw[HFQ.out]at h1;rw[HFK,<-h1]
     by_cases hc:Jf m.ca (q.f,q.x)=some (kk:Int)
     ·rw[if_neg (by simp[hr,hc]),if_pos (by simpa using hc)]
     rw[if_pos (.inr ⟨hf0,hc⟩),if_neg (by simpa using hc)]
    have HCC:Hid (∀W,zc W4 W->Calls Tryz.prog 166 #[.agg #[.slice (some ad) fn fc,.int .i64 m.hand,.slice sa sn sc,.slice vsb.a vsb.n vsb.c,.slice vsq.a vsq.n vsq.c,.slice vdb.a vdb.n vdb.c,.slice vdq.a vdq.n vdq.c,.slice vfl.a vfl.n vfl.c,.int .i64 m.cnt,.slice vca.a vca.n vca.c,.slice vsp.a vsp.n vsp.c,.map (some B1')],.int .i64 (kk:Int)] W fun e w'=>e= .returned (.bool U)/\zc W w'):=show∀W,_ from fun W hW=>by
     have h1:=HHC.out B1' kk W (HG4.out.trans hW) HKL.out (N1.out.grew hW);rw[HU.out]at h1;exact h1
    clear hr hf0 HFK;refine jX [(14,⟨fun v=>v= .bool U,fun v w'=>True⟩)] qy (by kernel_rfl) ?hS ?hp ?_
    case hS=>
     intro x hx;simp only[mC,nM,or_false]at hx;subst hx;exact⟨_,rfl⟩
    case hp=>
     intro x hx;simp only[mC,nM,or_false]at hx;subst hx;exact fun _ _ _ _ h=>h
    iterate 14 (refine zm rfl rfl rfl (fun K hK=>?_);go_big_quiet_op;refine hK _ ?_;clear hK K)
    refine zM rfl rfl (fun w' hg hF=>?_) (fun v1 hv=>?_)
    ·refine zL.call [.agg #[.slice (some ad) fn fc,.int .i64 m.hand,.slice sa sn sc,.slice vsb.a vsb.n vsb.c,.slice vsq.a vsq.n vsq.c,.slice vdb.a vdb.n vdb.c,.slice vdq.a vdq.n vdq.c,.slice vfl.a vfl.n vfl.c,.int .i64 m.cnt,.slice vca.a vca.n vca.c,.slice vsp.a vsp.n vsp.c,.map (some B1')],.int .i64 (kk:Int)] rfl Tryz.func166 rfl rfl rfl ?_;refine(HCC.out w' (HG5.out.trans hg)).mono ?_;rintro e w'' ⟨rfl,hg3⟩;exact⟨_,rfl,hg3,rfl,trivial⟩
    subst hv;simp only[Act.put,sB,sS,sZ];iterate 3 (refine zm rfl rfl rfl (fun K hK=>?_);go_big_quiet_op;refine hK _ ?_;clear hK K)
    refine qU fun W6 hg6 hF=>?_
    have HG6:=dD (HG5.out.trans hg6);clear hg6 hF hlk hf8 hf11 hy0 hy1 hy2 hy3 hy4 hy5 hy6 hy7 hy8 hy9 hy10 hy11 hne
    cases U with
    | true=>
     have OW':Hid (∀j:Nat,j<kk+1->frE m j=0):=show∀j:Nat,_ from fun j hj=>by
      by_cases e:j=kk
      ·rw[e,HUF.out,if_pos rfl]
      exact OW.out j (by omega)
     go_wp2
     go_roundg (fn -(kk+1))
     case measure=>omega
     exact⟨kk+1,by omega,by omega,by go_num,HG6.out,OW'.out⟩
    | false=>
     have HZE:Hid (Z=7):=HZ1.out kk HKL.out OW.out (by rw[HUF.out,if_neg (by decide)])
     have HGW:=dD (HG4.out.trans HG6.out);go_wp2;go_ret;exact⟨by rw[HZE.out];rfl,HGW.out⟩
   have hf0d:decide (0<=q.f)=false:=by simpa using hf0
   have HFZ:Hid (frE m kk=0):=show _=_ by rw[HFK,if_neg (by simp[hr,hf0])]
   have OW':Hid (∀j:Nat,j<kk+1->frE m j=0):=show∀j:Nat,_ from fun j hj=>by
    by_cases e:j=kk
    ·rw[e];exact HFZ.out
    exact OW.out j (by omega)
   clear hr hf0 HFK;refine jX [] qy (by kernel_rfl) (by simp) (by simp) ?_
   iterate 12 (refine zm rfl rfl rfl (fun K hK=>?_);go_big_quiet_op;refine hK _ ?_;clear hK K)
   refine qB ?_ ?_
   ·kernel_rfl
   simp only[Act.put,sB,sS,sZ];refine qB ?_ ?_
   ·kernel_rfl
   simp only[Act.put,sB,sS,sZ];refine qB ?_ ?_
   ·kernel_rfl
   simp only[Act.put,sB,sS,sZ];refine qB ?_ ?_
   ·kernel_rfl
   simp only[Act.put,sB,sS,sZ];iterate 2 (refine zm rfl rfl rfl (fun K hK=>?_);go_big_quiet_op;refine hK _ ?_;clear hK K)
   refine qU fun W6 hg6 hF=>?_
   have HG6:=dD (HG5.out.trans hg6);clear hg6 hF hlk hf8 hf11 hy0 hy1 hy2 hy3 hy4 hy5 hy6 hy7 hy8 hy9 hy10 hy11 hne;go_wp2
   go_roundg (fn -(kk+1))
   case measure=>omega
   exact⟨kk+1,by omega,by omega,by go_num,HG6.out,OW'.out⟩
  have hre:(q.r != h)=true:=by simp[hr]
  have HZE:Hid (Z=7):=HZ1.out kk HKL.out OW.out (by rw[HFK,if_pos (.inl hr)])
  clear hr HFK;refine jX [] qy (by kernel_rfl) (by simp) (by simp) ?_
  iterate 8 (refine zm rfl rfl rfl (fun K hK=>?_);go_big_quiet_op;refine hK _ ?_;clear hK K)
  refine qB ?_ ?_
  ·kernel_rfl
  simp only[Act.put,sB,sS,sZ];refine qB ?_ ?_
  ·kernel_rfl
  simp only[Act.put,sB,sS,sZ];refine qB ?_ ?_
  ·kernel_rfl
  simp only[Act.put,sB,sS,sZ];refine qB ?_ ?_
  ·kernel_rfl
  simp only[Act.put,sB,sS,sZ];refine qB ?_ ?_
  ·kernel_rfl
  simp only[Act.put,sB,sS,sZ];refine qB ?_ ?_
  ·kernel_rfl
  simp only[Act.put,sB,sS,sZ];refine qB ?_ ?_
  ·kernel_rfl
  simp only[Act.put,sB,sS,sZ];refine qB ?_ ?_
  ·kernel_rfl
  simp only[Act.put,sB,sS,sZ];refine qB ?_ ?_
  ·kernel_rfl
  simp only[Act.put,sB,sS,sZ];iterate 1 (refine zm rfl rfl rfl (fun K hK=>?_);go_big_quiet_op;refine hK _ ?_;clear hK K)
  refine qU fun W6 hg6 hF=>?_
  have HG6:=dD (HGw5.out.trans hg6);clear hg6 hF hlk hf8 hf11 hy0 hy1 hy2 hy3 hy4 hy5 hy6 hy7 hy8 hy9 hy10 hy11 hne;go_wp2;go_ret;exact⟨by rw[HZE.out];rfl,HG6.out⟩
 have hltz:¬(kk:Int)< (fn:Int):=by omega
 have:kk=fn:=by omega
 subst this;have OA:Hid (∀j:Nat,j<m.fs.length->frE m j=0):=show∀j:Nat,_ from fun j hj=>OW.out j (by rw[<-HN1.out];exact hj)
 have x2:=(X4.out.grew BW.out).c 2 rfl;go_wp2;clear x2;have HBW:Hid (zc W4 wr):=BW;clear BW OW
 go_loopg [44] sn (fun gg s44 wr=>∃i:Nat,i<=sn/\sn - i<=gg/\s44= .int .i64 i/\Hid (zc W4 wr)/\Hid (∀j:Nat,j<i->Qh m j=0))
 case atStart=>exact⟨0,nZ _,by omega,rfl,HBW.out,fun j hj=>absurd hj (nL _)⟩
 obtain⟨i,hi,hg2,rfl,BW,OW⟩:=hrel;clear HBW
 by_cases hlt2:i<sn
 ·have hltz2:(i:Int)< (sn:Int):=by omega
  have HKL:Hid (i<m.sl.length):=show _<_ by rw[HN2.out];exact hlt2
  obtain⟨z,HZI⟩:∃z,Hid (m.sl[i]? =some z):=⟨_,gE HKL.out⟩;obtain⟨ad,rfl,hl⟩:=HSL.out i z HZI.out;have d0:=hl wr (HG4.out.trans BW.out);clear hl;obtain⟨h,HHK⟩:∃h,Hid ((qi m m.sp.length [] zcU) (2,(i:Int))=h):=⟨_,rfl⟩;have hlk:(Instr.lookup 229 (.map (some B2')) (.agg #[.int .i64 2,.int .i64 (i:Int),.bool false]) false).run Tryz.prog wr= .ok (.int .i64 h) wr:=by
   have:=(N2.out.grew BW.out).look (K:=enK) Tryz.underlying229 (zlw _) (2,(i:Int));rw[HHK.out]at this;exact this
  have HSE:Hid (Qh m i=if z≠h then 7 else 0):=show _=_ by rw[zha,gD,HZI.out,HHK.out];rfl
  by_cases hr:z=h
  ·have hre:(z != h)=false:=by simp[hr]
   have OW':Hid (∀j:Nat,j<i+1->Qh m j=0):=show∀j:Nat,_ from fun j hj=>by
    by_cases e:j=i
    ·rw[e,HSE.out,if_neg (by simp[hr])]
    exact OW.out j (by omega)
   clear hr;go_wp2
   go_roundg (sn -(i+1))
   case measure=>omega
   exact⟨i+1,by omega,by omega,by go_num,BW.out,OW'.out⟩
  have hre:(z != h)=true:=by simp[hr]
  have HZE:Hid (Z=7):=HZ2.out OA.out i HKL.out OW.out (by rw[HSE.out,if_pos hr])
  have HGW:=dD (HG4.out.trans BW.out);clear hr;go_wp2;go_ret;exact⟨by rw[HZE.out];rfl,HGW.out⟩
 have hltz2:¬(i:Int)< (sn:Int):=by omega
 have:i=sn:=by omega
 subst this;have HZE:Hid (Z=0):=HZ3.out OA.out fun j hj=>OW.out j (by rw[<-HN2.out];exact hj)
 have HGW:=dD (HG4.out.trans BW.out);go_wp2;go_ret;exact⟨by rw[HZE.out];rfl,HGW.out⟩
def chk:List Nat:=[115,116,117,118,119,120]
def zij (m:Ma):List Int:=[ze (ZZ m),ze (Q2 m),Zp m,zdA m,zbp m,Q3 m]
theorem zdz {m:Ma} (h:Zp m=0):m.sp.length<=4:=by
 unfold Zp at h
 split at h
 ·cases h
 omega
theorem zkc (V:MaV) (m:Ma) (w:World) (hm:zC w V m) (k:Nat) (hb:∀j,j<k->(zij m)[j]?.getD 0=0) (f:Nat) (hf:chk[k]? =some f) (e:Int) (he:(zij m)[k]? =some e):
  Calls Tryz.prog f #[.agg #[.slice V.f.a V.f.n V.f.c,.int .i64 m.hand,.slice V.s.a V.s.n V.s.c,.slice V.sb.a V.sb.n V.sb.c,.slice V.sq.a V.sq.n V.sq.c,.slice V.db.a V.db.n V.db.c,.slice V.dq.a V.dq.n V.dq.c,.slice V.fl.a V.fl.n V.fl.c,.int .i64 m.cnt,.slice V.ca.a V.ca.n V.ca.c,.slice V.sp.a V.sp.n V.sp.c]] w fun r w'=>r= .returned (.int .i64 e)/\zc w w':=by
 have h1:1<=k->zew m:=fun h=>zku.1 (hb 0 (by omega))
 have h3:3<=k->zds m/\m.sp.length<=4:=fun h=>⟨zjO (hb 2 (by omega)),zdz (hb 2 (by omega))⟩
 have h4:4<=k->J1 m none m.ca=0:=fun h=>hb 3 (by omega)
 match k,hf,he with
 | 0,hf,he=>cases hf;cases he;exact zbZ V m w hm
 | 1,hf,he=>cases hf;cases he;exact zb2 V m w hm (h1 (by omega))
 | 2,hf,he=>cases hf;cases he;exact zbf V m w hm
 | 3,hf,he=>cases hf;cases he;exact zb3 V m w hm (h1 (by omega))
 | 4,hf,he=>cases hf;cases he;exact zbg V m w hm (h1 (by omega)) (h3 (by omega)).1
 | 5,hf,he=>cases hf;cases he;exact zbj V m w hm (h4 (by omega)) (h3 (by omega)).2 (fun s hs=>((h3 (by omega)).1 s hs).2)
 | k+6,hf,he=>simp[chk]at hf
theorem zgR (k f:Nat) (hf:chk[k]? =some f):∀args w,(callFunc f args).run Tryz.prog w= .ok (.enter f args) w:=by
 match k,hf with
 | 0,hf=>cases hf;exact enters_of Tryz.func115 (by kernel_rfl) rfl
 | 1,hf=>cases hf;exact enters_of Tryz.func116 (by kernel_rfl) rfl
 | 2,hf=>cases hf;exact enters_of Tryz.func117 (by kernel_rfl) rfl
 | 3,hf=>cases hf;exact enters_of Tryz.func118 (by kernel_rfl) rfl
 | 4,hf=>cases hf;exact enters_of Tryz.func119 (by kernel_rfl) rfl
 | 5,hf=>cases hf;exact enters_of Tryz.func120 (by kernel_rfl) rfl
 | k+6,hf=>simp[chk]at hf
def fnV (f:Nat):Value:= .func (.func f) #[] #[]
theorem Jr (V:MaV) (m:Ma) (w:World) (hm:zC w V m):
  Calls Tryz.prog 77 #[.agg #[.slice V.f.a V.f.n V.f.c,.int .i64 m.hand,.slice V.s.a V.s.n V.s.c,.slice V.sb.a V.sb.n V.sb.c,.slice V.sq.a V.sq.n V.sq.c,.slice V.db.a V.db.n V.db.c,.slice V.dq.a V.dq.n V.dq.c,.slice V.fl.a V.fl.n V.fl.c,.int .i64 m.cnt,.slice V.ca.a V.ca.n V.ca.c,.slice V.sp.a V.sp.n V.sp.c]] w fun e w'=>e= .returned (.int .i64 (maW m))/\zc w w':=by
 have HCK:Hid (∀W,zc w W->∀(k:Nat),(∀j,j<k->(zij m)[j]?.getD 0=0)->∀f,chk[k]? =some f->∀e,(zij m)[k]? =some e->Calls Tryz.prog f #[.agg #[.slice V.f.a V.f.n V.f.c,.int .i64 m.hand,.slice V.s.a V.s.n V.s.c,.slice V.sb.a V.sb.n V.sb.c,.slice V.sq.a V.sq.n V.sq.c,.slice V.db.a V.db.n V.db.c,.slice V.dq.a V.dq.n V.dq.c,.slice V.fl.a V.fl.n V.fl.c,.int .i64 m.cnt,.slice V.ca.a V.ca.n V.ca.c,.slice V.sp.a V.sp.n V.sp.c]] W fun r w'=>r= .returned (.int .i64 e)/\zc W w'):=show∀W,_ from fun W hW k hb f hf e he=>zkc V m W (hm.grew hW) k hb f hf e he
 clear hm;obtain⟨Z,HZ⟩:∃Z,Hid (maW m=Z):=⟨_,rfl⟩;rw[HZ.out];have HZ2:Hid (ze (zij m)=Z):=show _=_ by rw[<-HZ.out,zjV];rfl
 clear HZ;obtain⟨W0,hW0⟩:∃W0,(w.alloc (.cells #[.slice V.f.a V.f.n V.f.c,.int .i64 m.hand,.slice V.s.a V.s.n V.s.c,.slice V.sb.a V.sb.n V.sb.c,.slice V.sq.a V.sq.n V.sq.c,.slice V.db.a V.db.n V.db.c,.slice V.dq.a V.dq.n V.dq.c,.slice V.fl.a V.fl.n V.fl.c,.int .i64 m.cnt,.slice V.ca.a V.ca.n V.ca.c,.slice V.sp.a V.sp.n V.sp.c] 41)).alloc (.cells #[.func (.func 115) #[] #[],.func (.func 116) #[] #[],.func (.func 117) #[] #[],.func (.func 118) #[] #[],.func (.func 119) #[] #[],.func (.func 120) #[] #[]] 48)=W0:=⟨_,rfl⟩;have HG0:=gD2 hW0
 have X0:=x2a hW0
 have Y0:Hid (Box W0 (w.heap.size+1) (chk.map fnV)):=show Box _ _ _ by rw[<-hW0];exact Box.top _ (chk.map fnV) _ (by simp)
 have HW0:Hid (_=W0):=hW0;clear hW0
 go_enter Tryz.func77,Tryz.ntmps77
 go_upto_region 2 with fail;rw[HW0.out];go_wp2
 go_loopg [10] 6 (fun gg s10 wr=>∃kk:Nat,kk<=6/\6 - kk<=gg/\s10= .int .i64 kk/\Hid (zc w wr)/\Hid (Box wr w.heap.size [.slice V.f.a V.f.n V.f.c,.int .i64 m.hand,.slice V.s.a V.s.n V.s.c,.slice V.sb.a V.sb.n V.sb.c,.slice V.sq.a V.sq.n V.sq.c,.slice V.db.a V.db.n V.db.c,.slice V.dq.a V.dq.n V.dq.c,.slice V.fl.a V.fl.n V.fl.c,.int .i64 m.cnt,.slice V.ca.a V.ca.n V.ca.c,.slice V.sp.a V.sp.n V.sp.c])/\Hid (Box wr (w.heap.size+1) (chk.map fnV))/\Hid (∀j,j<kk->(zij m)[j]?.getD 0=0))
 case atStart=>exact⟨0,nZ _,by omega,rfl,HG0.out,X0.out,Y0.out,fun j hj=>absurd hj (nL _)⟩
 obtain⟨kk,hkk,hgg,rfl,BW,XW,YW,OW⟩:=hrel;clear X0 Y0 HG0
 by_cases hlt:kk<6
 ·have hltz:(kk:Int)<6:=by omega
  obtain⟨f,HF⟩:∃f,Hid (chk[kk]? =some f):=⟨_,gE (by simp[chk];exact hlt)⟩
  obtain⟨e,HE⟩:∃e,Hid ((zij m)[kk]? =some e):=⟨_,gE (by simp[zij];exact hlt)⟩
  have y0:wr.cell? ⟨w.heap.size+1,kk,none⟩=some (.func (.func f) #[] #[]):=YW.out.c kk (by rw[List.getElem?_map,HF.out];rfl)
  have eg:=zgR kk f HF.out;have hcall:=HCK.out wr BW.out kk OW.out f HF.out e HE.out;obtain⟨x0,x1,x2,x3,x4,x5,x6,x7,x8,x9,x10⟩:=XW.out.c11;go_wp2_with fail;refine hcall.mono ?_;clear hcall x0 x1 x2 x3 x4 x5 x6 x7 x8 x9 x10 y0;rintro e' W2 ⟨rfl,hg2⟩;have HG2:=dD (BW.out.trans hg2);have X2:=dD (XW.out.grew hg2);have Y2:=dD (YW.out.grew hg2);clear hg2 eg
  by_cases h0:e=0
  ·have h0e:(e != 0)=false:=by simp[h0]
   have OW':Hid (∀j,j<kk+1->(zij m)[j]?.getD 0=0):=show∀j,_ from fun j hj=>by
    by_cases ej:j=kk
    ·rw[ej,HE.out,h0];rfl
    exact OW.out j (by omega)
   clear h0;go_wp2
   go_roundg (6 -(kk+1))
   case measure=>omega
   exact⟨kk+1,by omega,by omega,by go_num,HG2.out,X2.out,Y2.out,OW'.out⟩
  have h0e:(e != 0)=true:=by simp[h0]
  have HZE:Hid (Z=e):=show _=_ by
   rw[<-HZ2.out];exact zbJ (fun j x hj hx=>by have:=OW.out j hj;rw[hx]at this;exact this) HE.out h0
  clear h0;go_wp2;go_ret;exact⟨by rw[HZE.out];rfl,HG2.out⟩
 have hltz:¬(kk:Int)<6:=by omega
 have:kk=6:=by omega
 subst this;have HZE:Hid (Z=0):=show _=_ by
  rw[<-HZ2.out];refine zbK fun j x hx=>?_
  have hj:=(gS.1 hx).1;have:=OW.out j (by simpa [zij]using hj)
  rw[hx]at this;exact this
 go_wp2;go_ret;exact⟨by rw[HZE.out];rfl,BW.out⟩
theorem zeZ {b size n g:Nat} {w:World} {e:TypeId} {v:Value} {xs:List Value} (h:w.ownsRow b e size v n xs) (hv:v.ownBlock=some g):b<=g/\g<w.heap.size/\∃cs,w.heap[g]? =some (.cells cs e (0,0)):=by
 rcases h.2 with⟨rfl,_⟩ | ⟨k,cap,cur,rfl,h2,h3,h4⟩
 ·cases hv
 simp only[Value.ownBlock,Option.some.injEq]at hv;subst hv;exact⟨h2,(aS.1 h3).1,cur,h3⟩
theorem zdS {D:Nat->Prop} {b size n:Nat} {w W:World} {e:TypeId} {v:Value} {xs:List Value} (h:w.ownsRow b e size v n xs) (k:QX D w W) (hn:∀g,v.ownBlock=some g->¬D g):W.ownsRow b e size v n xs:=by
 refine⟨h.1,?_⟩
 rcases h.2 with h1 | ⟨g,cap,cur,rfl,h2,h3,h4⟩
 ·exact .inl h1
 exact .inr ⟨g,cap,cur,rfl,h2,by rw[k.block g (aS.1 h3).1 (hn g rfl)];exact h3,h4⟩
def oB (s:Sli) (b:Nat):Prop:=(Value.slice s.a s.n s.c).ownBlock=some b
def Dw (p:Nat) (V:MaV):Nat->Prop:=fun b=>b=p\/oB V.f b\/oB V.ca b\/oB V.sp b
def Dr (B p:Nat) (V:MaV):Nat->Prop:=fun b=>b<B\/Dw p V b
structure zkM (w:World) (V:MaV) (m:Ma):Prop where
 sl:zo slE w (.slice V.s.a V.s.n V.s.c) m.sl
 sb:qt w (.slice V.sb.a V.sb.n V.sb.c) m.sb
 sq:qK w (.slice V.sq.a V.sq.n V.sq.c) m.sq
 db:qt w (.slice V.db.a V.db.n V.db.c) m.db
 dq:qK w (.slice V.dq.a V.dq.n V.dq.c) m.dq
 fl:qN w (.slice V.fl.a V.fl.n V.fl.c) m.fl
structure ChW (w0:World) (p:Nat) (w:World) (V:MaV) (m:Ma):Prop where
 gr:zc w0 w
 lo:w0.heap.size<=p
 box:zp w p 111 (chL V m)
 fs:zb Jx w0.heap.size w (.slice V.f.a V.f.n V.f.c) m.fs
 ca:zb qY w0.heap.size w (.slice V.ca.a V.ca.n V.ca.c) m.ca
 sp:∃xs:List SpV,zb Zl w0.heap.size w (.slice V.sp.a V.sp.n V.sp.c) xs/\xs.length=m.sp.length/\∀(i:Nat) x s,xs[i]? =some x->m.sp[i]? =some s->∀W,QX (Dr w0.heap.size p V) w W->qL W x s
 rest:∀W,QX (Dr w0.heap.size p V) w W->zkM W V m
def Chg (w0:World) (p:Nat) (w:World) (V:MaV) (m':Ma) (w':World):Prop:=∃V':MaV,ChW w0 p w' V' m'/\QX (Dw p V) w w'/\∀k,Dw p V' k->Dw p V k\/w.heap.size<=k
section
variable{w0 w w1 w2:World} {p:Nat} {V V':MaV} {m m':Ma}
theorem ChW.dlt (h:ChW w0 p w V m):∀k,Dw p V k->k<w.heap.size:=by
 rintro k (rfl | hk | hk | hk)
 ·exact h.box.box.lt
 ·exact(h.fs.lt k hk).2
 ·exact(h.ca.lt k hk).2
 obtain⟨xs,s1,_⟩:=h.sp;exact(s1.lt k hk).2
theorem ChW.dlo (h:ChW w0 p w V m):∀k,Dw p V k->w0.heap.size<=k:=by
 rintro k (rfl | hk | hk | hk)
 ·exact h.lo
 ·exact(h.fs.lt k hk).1
 ·exact(h.ca.lt k hk).1
 obtain⟨xs,s1,_⟩:=h.sp;exact(s1.lt k hk).1
theorem ChW.at (h:ChW w0 p w V m):zC w V m:=by
 have r:=h.rest w (QX.refl _ _);obtain⟨xs,s1,s2,s3⟩:=h.sp;exact⟨h.fs.at,r.sl,r.sb,r.sq,r.db,r.dq,r.fl,h.ca.at,⟨xs,s1.at,s2,fun i x s hx hs=>s3 i x s hx hs w (QX.refl _ _)⟩⟩
theorem ChW.nc (h:ChW w0 p w V m):∀g,oB V.ca g->p≠g:=h.ca.ne h.box (by decide)
theorem ChW.ns (h:ChW w0 p w V m):∀g,oB V.sp g->p≠g:=by
 obtain⟨xs,s1,_⟩:=h.sp;exact s1.ne h.box (by decide)
theorem ChW.key (k:QX (Dw p V) w w1) (hd:∀k,Dw p V' k->Dw p V k\/w.heap.size<=k) {W:World} (hW:QX (Dr w0.heap.size p V') w1 W):QX (Dr w0.heap.size p V) w W:=
 ⟨hW.os.trans k.os,hW.tape.trans k.tape,hW.output.trans k.output,nT k.size hW.size,fun b hb hn=>(hW.block b (Nat.lt_of_lt_of_le hb k.size) (fun e=>by
  rcases e with e | e
  ·exact hn (.inl e)
  rcases hd b e with e | e
  ·exact hn (.inr e)
  omega)).trans (k.block b hb (fun e=>hn (.inr e)))⟩
theorem ChW.grOut (h:ChW w0 p w V m) (k:QX (Dw p V) w w1):zc w0 w1:=
 ⟨k.os.trans (Below.os h.gr),k.tape.trans (Below.tape h.gr),k.output.trans (Below.output h.gr),nT (bS h.gr) k.size,fun b hb=>(k.block b (Nat.lt_of_lt_of_le hb (bS h.gr)) (fun e=>by have:=h.dlo b e;omega)).trans (Below.block h.gr b hb)⟩
theorem ChW.setF (h:ChW w0 p w V m) {b:Sli} {fs:List Fr} {hd:Int} (g1:zc w w1) (nr:zb Jx w.heap.size w1 (.slice b.a b.n b.c) fs) (g2:w1.grownBy w2 (some p)) (bx:zp w2 p 111 (chL { V with f:=b } { m with fs:=fs,hand:=hd })):Chg w0 p w V { m with fs:=fs,hand:=hd } w2:=by
 have o:QX (Dw p V) w w2:=(QX.grew g1).trans (QX.grown g2 (.inl rfl));have hpl:=h.dlt p (.inl rfl);have hd:∀k,Dw p { V with f:=b } k->Dw p V k\/w.heap.size<=k:=by
  rintro k (e | e | e | e)
  ·exact .inl (.inl e)
  ·exact .inr (nr.lt k e).1
  ·exact .inl (.inr (.inr (.inl e)))
  exact .inl (.inr (.inr (.inr e)))
 obtain⟨xs,s1,s2,s3⟩:=h.sp;refine⟨{ V with f:=b },⟨h.grOut o,h.lo,bx,(nr.base (bS h.gr)).grown g2 (fun g hg e=>?_),(h.ca.grew g1).grown g2 (fun g hg e=>h.nc g hg (by cases e;rfl)),⟨xs,(s1.grew g1).grown g2 (fun g hg e=>h.ns g hg (by cases e;rfl)),s2,fun i x s hx hs W hW=>s3 i x s hx hs W (ChW.key o hd hW)⟩,fun W hW=>?_⟩,o,hd⟩
 ·cases e;have:=(nr.lt _ hg).1;omega
 have r:=h.rest W (ChW.key o hd hW);exact⟨r.sl,r.sb,r.sq,r.db,r.dq,r.fl⟩
end
theorem zic.changeW {base B p:Nat} {w W:World} {V:MaV} {m:Ma} (h:zic base w V m) (hB:B<=base) (hp:w.heap.size<=p) (k:QX (Dr B p V) w W):zkM W V m/\∀(xs:List SpV) (Bs:Nat->Nat),base<=Bs 0->(∀i,Bs i<=Bs (i+1))->(∀(i:Nat) x s,xs[i]? =some x->m.sp[i]? =some s->QM (Bs i) (Bs (i+1)) w x s)->∀(i:Nat) x s,xs[i]? =some x->m.sp[i]? =some s->qL W x s:=by
 obtain⟨ys,_,s1,_⟩:=h.sp;have key:∀{b size n:Nat} {e:TypeId} {v:Value} {xs:List Value},w.ownsRow b e size v n xs->base<=b->Zl.ty≠e/\Jx.ty≠e/\qY.ty≠e->W.ownsRow b e size v n xs:=fun hr hb he=>zdS hr k fun g hg hd=>by
  obtain⟨h1,h2,cs,h3⟩:=zeZ hr hg
  rcases hd with hd | hd | hd | hd | hd
  ·omega
  ·omega
  ·obtain⟨ds,h4⟩:=h.fs.obj hd;rw[h4]at h3;cases h3;exact he.2.1 rfl
  ·obtain⟨ds,h4⟩:=h.ca.obj hd;rw[h4]at h3;cases h3;exact he.2.2 rfl
  obtain⟨ds,h4⟩:=s1.obj hd;rw[h4]at h3;cases h3;exact he.1 rfl
 have keyR:∀{α:Type} {E:Elt α} {b:Nat} {v:Value} {l:List α},zb E b w v l->base<=b->Zl.ty≠E.ty/\Jx.ty≠E.ty/\qY.ty≠E.ty->zb E b W v l:=fun hr hb he=>⟨key hr.1 hb he,hr.2⟩
 obtain⟨lo,⟨zs,f1,f2,f3,f4⟩,l1,l2⟩:=h.fl;have hf':qT lo W (.slice V.fl.a V.fl.n V.fl.c) m.fl:=⟨zs,keyR f1 l1 (by decide),f2,fun i x f hx hf=>⟨(f3 i x f hx hf).1,keyR (f3 i x f hx hf).2 l1 (by decide)⟩,f4⟩
 have hb:=nR base;refine⟨⟨(keyR h.sl hb (by decide)).at,zj.at ⟨key h.sb.1 hb (by decide),h.sb.2⟩,zT.at ⟨key h.sq.1 hb (by decide),h.sq.2⟩,zj.at ⟨key h.db.1 hb (by decide),h.db.2⟩,zT.at ⟨key h.dq.1 hb (by decide),h.dq.2⟩,hf'.new.now0⟩,fun xs Bs b0 bm h5 i x s hx hs=>?_⟩
 have o:=h5 i x s hx hs;have hbi:base<=Bs i:=nT b0 (zc4 bm (nZ i));have o':QM (Bs i) (Bs (i+1)) W x s:=⟨o.live,keyR o.ar hbi (by decide),⟨o.tb.len,o.tb.tlen,fun j v y hv hy=>keyR (o.tb.row j v y hv hy) hbi (by decide),o.tb.two⟩,o.arh,o.tbh⟩
 exact o'.at
theorem zf1 (V:MaV) (m:Ma) (w:World) (hm:zC w V m):
  Calls Tryz.prog 52 #[.agg #[.slice V.f.a V.f.n V.f.c,.int .i64 m.hand,.slice V.s.a V.s.n V.s.c,.slice V.sb.a V.sb.n V.sb.c,.slice V.sq.a V.sq.n V.sq.c,.slice V.db.a V.db.n V.db.c,.slice V.dq.a V.dq.n V.dq.c,.slice V.fl.a V.fl.n V.fl.c,.int .i64 m.cnt,.slice V.ca.a V.ca.n V.ca.c,.slice V.sp.a V.sp.n V.sp.c]] w fun e w'=>∃(p:Nat) (V':MaV),e= .returned (.pointer (some ⟨p,0,none⟩))/\ChW w p w' V' m:=by
 obtain⟨W1,hW1⟩:∃W1,w.alloc (.cells #[.slice V.f.a V.f.n V.f.c,.int .i64 m.hand,.slice V.s.a V.s.n V.s.c,.slice V.sb.a V.sb.n V.sb.c,.slice V.sq.a V.sq.n V.sq.c,.slice V.db.a V.db.n V.db.c,.slice V.dq.a V.dq.n V.dq.c,.slice V.fl.a V.fl.n V.fl.c,.int .i64 m.cnt,.slice V.ca.a V.ca.n V.ca.c,.slice V.sp.a V.sp.n V.sp.c] 41)=W1:=⟨_,rfl⟩;have G1:=gA hW1
 have X1:=xA hW1
 have HW1:Hid (_=W1):=hW1;clear hW1;have how:=ziF V m W1 (hm.grew G1.out);clear hm
 go_enter Tryz.func52,Tryz.ntmps52
 go_upto_region 1 with fail;rw[HW1.out];obtain⟨x0,x1,x2,x3,x4,x5,x6,x7,x8,x9,x10⟩:=X1.out.c11;go_wp2_with fail;refine how.mono ?_;clear how x0 x1 x2 x3 x4 x5 x6 x7 x8 x9 x10;rintro e W2 ⟨V',rfl,ow,g2⟩;have G2:=dD (G1.out.trans g2);have O2:Hid (zic W1.heap.size W2 V' m):=ow;have HS:Hid (w.heap.size<=W1.heap.size):=show _<=_ from bS G1.out
 clear ow g2;have HF:Hid (ChW w W2.heap.size (W2.alloc (.cells (chL V' m).toArray 111)) V' m):=show ChW _ _ _ _ _ by
  have ga:zc W2 (W2.alloc (.cells (chL V' m).toArray 111)):=za _ _;obtain⟨xs,B,s1,s2,s3,s4,s5⟩:=O2.out.sp;refine⟨G2.out.trans ga,bS G2.out,zp.top _ _ _ rfl,(O2.out.fs.grew ga).base HS.out,(O2.out.ca.grew ga).base HS.out,⟨xs,(s1.grew ga).base HS.out,s2,fun i x s hx hs W hW=>(O2.out.changeW HS.out (nR _) ((QX.grew ga).trans hW)).2 xs B s3 s4 s5 i x s hx hs⟩,fun W hW=>(O2.out.changeW HS.out (nR _) ((QX.grew ga).trans hW)).1⟩
 go_wp2;go_ret;exact⟨_,V',rfl,HF.out⟩
theorem zfh (n:Nat) (hn:n<=40) (w:World):
  Calls Tryz.prog 232 #[.int .u64 1,.int .u64 (n:Int)] w fun e w'=>e= .returned (.tuple #[.int .u64 0,.int .u64 (n:Int)])/\w'=w:=by
 have m1:bits .and .u64 1 4294967295=1:=Mul64.maskN 1 (by omega)
 have m2:bits .and .u64 (n:Int) 4294967295=(n:Int):=by rw[Mul64.maskN n (by omega)];omega
 have m0:bits .and .u64 0 4294967295=0:=Mul64.maskN 0 (by omega)
 have d1:(n:Int) / 4294967296=0:=by omega
 have HM1:Hid (bits .and .u64 1 4294967295=1):=m1;have HM2:Hid (bits .and .u64 (n:Int) 4294967295=(n:Int)):=m2;have HM0:Hid (bits .and .u64 0 4294967295=0):=m0;have HD1:Hid ((n:Int) / 4294967296=0):=d1;clear m1 m2 m0 d1
 go_enter Tryz.func232,Tryz.ntmps232
 go_wp2;have w0:IntKind.u64.wrap 0=0:=Mul64.wrapN 0 (by omega)
 have wn:IntKind.u64.wrap (n:Int)=(n:Int):=Mul64.wrapN n (by omega)
 simp only[HM1.out,HM2.out,Int.one_mul,wn,HD1.out,w0,HM0.out,Int.mul_zero,Int.add_zero,Int.zero_ediv]
 go_ret2
 exact⟨rfl,rfl⟩
theorem zee (n:Nat) (hn:n<=40) (w:World):
  Calls Tryz.prog 205 #[.int .u64 1,.int .u64 (n:Int)] w fun e w'=>e= .returned (.tuple #[.int .u64 0,.int .u64 (n:Int)])/\w'=w:=by
 have c64:=zfh n hn w
 go_enter Tryz.func205,Tryz.ntmps205
 go_wp2_with (go_at_call 232;refine c64.mono ?_;rintro e w' ⟨rfl,hw⟩;rw[hw])
 go_ret2
 exact⟨rfl,rfl⟩
theorem zec (m:List Fr):∀(l:List Fr) (off:Nat),off+m.length<=l.length->splice (l.flatMap frv) (off*13) (m.flatMap frv)=(l.take off++(m++l.drop (off+m.length))).flatMap frv:=fun l off h=>by
 have h1:∀(l:List Fr) (j:Nat),j<=l.length->(l.flatMap frv).take (j*13)=(l.take j).flatMap frv/\(l.flatMap frv).drop (j*13)=(l.drop j).flatMap frv:=fun l j hj=>by
  have he:l.flatMap frv=(l.take j).flatMap frv++(l.drop j).flatMap frv:=by rw[<-List.flatMap_append,List.take_append_drop]
  have hl:((l.take j).flatMap frv).length=j*13:=by rw[Zy,List.length_take,Nat.min_eq_left hj]
  constructor
  ·rw[he,<-hl,List.take_left]
  rw[he,<-hl,List.drop_left]
 unfold splice;rw[Zy m,<-Nat.add_mul,(h1 l off (by omega)).1,(h1 l (off+m.length) h).2,List.flatMap_append,List.flatMap_append]
theorem Ji {w:World} (ty:TypeId) (base:Nat) (v:Value) (l:List Fr) (hown:zh base w v l) (g:Nat) (hg:v.ownBlock=some g) (off dLen dCap:Nat) (ad:Addr) (sLen sCap:Nat)
  (m:List Fr) (hm:m.length=Nat.min sLen dLen) (hsrc:jr w ad (m.flatMap frv)) (hfit:off+m.length<=l.length):
  ∃w',(Builtin.copy_ #[26,26] ty #[.slice (some ⟨g,off*13,none⟩) dLen dCap,.slice (some ad) sLen sCap]).run Tryz.prog w= .ok (goInt m.length) w'/\zh base w' v (l.take off++(m++l.drop (off+m.length)))/\w.grownBy w' (some g)/\w'.heap.size=w.heap.size:=by
 obtain⟨i0,hi,_,hz1,_⟩:=info_parts zk9;have hcl:(m.flatMap frv).length=m.length*13:=Zy m;have hfit':off*13+(m.flatMap frv).length<=l.length*13:=by
  rw[hcl,<-Nat.add_mul];exact Nat.mul_le_mul_right _ hfit
 obtain⟨w',hr,h2,h3,h4⟩:=qQ (P:=Tryz.prog) hown.1 hg (off*13) (m.flatMap frv) hfit' (qX zfe m);have hl:=run_loadCells_list (P:=Tryz.prog) w ad (m.flatMap frv) hsrc;rw[hcl]at hl;rw[zec m l off hfit]at h2;have hlen:(l.take off++(m++l.drop (off+m.length))).length=l.length:=by simp;omega
 refine⟨w',?_,⟨by rw[hlen];exact h2,by rw[hlen];exact hown.2⟩,h3,h4⟩
 simp[Builtin.copy_,run_underlying Tryz.underlying26,Builtin.lenOf,Builtin.firstCells,sizeOf,typeInfo,hi,hz1,<-hm,hl,hr]
theorem ZV {w:World} {ops:Array Oper} {rest:List Oper} {o:Oper} {a:Act} {Q:Exit->Act->World->Prop} (hgd:o.guard=none) (d s:Operand) (ho:o.op= .call { callee:= .builtin .copy,args:=#[d,s],argTypes:=#[26,26] })
  (base:Nat) (v:Value) (l:List Fr) (hown:zh base w v l) (g:Nat) (hg:v.ownBlock=some g) (off dLen dCap:Nat) (dp:Addr) (hd:a.eval d= .slice (some dp) dLen dCap) (hdp:dp=⟨g,off*13,none⟩) (ad:Addr) (sLen sCap:Nat) (hs:a.eval s= .slice (some ad) sLen sCap)
  (m:List Fr) (hm:m.length=Nat.min sLen dLen) (hsrc:jr w ad (m.flatMap frv)) (hfit:off+m.length<=l.length)
  (h:∀w',zh base w' v (l.take off++(m++l.drop (off+m.length)))->w.grownBy w' (some g)->w'.heap.size=w.heap.size->wpList Tryz.prog ops Q rest (a.put o.dst (goInt m.length)) w'):wpList Tryz.prog ops Q (o :: rest) a w:=by
 subst hdp;refine wpList_plain hgd fun K hK=>?_
 obtain⟨w',hrun,h2,h3,h4⟩:=Ji o.type base v l hown g hg off dLen dCap ad sLen sCap m hm hsrc hfit;unfold Oper.wp
 simp[execOp,ho,resolve,invoke,builtin,hd,hs,hrun,Result.andThen]
 exact hK _ _ (h w' h2 h3 h4)
theorem zgD (q:Fr) (n m z:Nat) (_h:m<=n) (hz:z=Nat.min m (n - m)):(List.replicate m q++List.replicate (n - m) fr0).take m++(List.replicate z q++(List.replicate m q++List.replicate (n - m) fr0).drop (m+z))=List.replicate (m+z) q++List.replicate (n -(m+z)) fr0:=by
 have hzz:z<=n - m:=by rw[hz];exact Nat.min_le_right _ _
 rw[List.take_append_of_le_length (by simp),List.take_of_length_le (by simp),List.drop_append,List.drop_of_length_le (by simp),List.nil_append,lR,List.drop_replicate,<-List.append_assoc,List.replicate_append_replicate]
 congr 2
 omega
theorem zed (q:Fr) (x:Nat) (c n:Nat) (hn:n<=40) (hn1:1<=n) (w:World) (hv:zY w (.slice (some ⟨x,0,none⟩) 1 c) [q]):
  Calls Tryz.prog 172 #[.slice (some ⟨x,0,none⟩) 1 c,.int .i64 (n:Int)] w fun e w'=>∃b,e= .returned b/\qR w.heap.size w' b (List.replicate n q)/\zc w w':=by
 have HC:Hid (jr w ⟨x,0,none⟩ ([q].flatMap frv)):=by
  obtain⟨⟨a,c',h1,_,h3⟩,_⟩:=hv;cases h1;exact h3 _ rfl
 clear hv;have hm:=zee n hn w;have hnz:¬(n:Int)<0:=by omega
 have hn2:¬(9223372036854775807:Int)< (n:Int):=by omega
 go_enter Tryz.func172,Tryz.ntmps172
 go_wp2_with (first
  | (go_at_call 205;refine hm.mono ?_;rintro e w' ⟨rfl,hw⟩;rw[hw])
  | (refine Qm rfl (.tmp 29) rfl n rfl (by show n*40<=_;omega) ?_;intro C ow;have OW:Hid (zh w.heap.size (w.alloc (.cells C 69)) (.slice (some ⟨w.heap.size,0,none⟩) n n) (List.replicate n fr0)):=ow;clear ow)
  | (refine ZV rfl (.tmp 31) (.tmp 32) rfl w.heap.size (.slice (some ⟨w.heap.size,0,none⟩) n n) (List.replicate n fr0) OW.out w.heap.size rfl 0 n n _ rfl ?a1 _ 1 c rfl [q] ?a2 ?a3 ?a4 ?_))
 case a1=>simp
 case a2=>show 1=Nat.min 1 n;exact(Nat.min_eq_left hn1).symm
 case a3=>exact HC.out.grew (za _ _)
 case a4=>simp;omega
 intro W1 ow1 gr1 _;have OW1:Hid (zh w.heap.size W1 (.slice (some ⟨w.heap.size,0,none⟩) n n) (List.replicate 1 q++List.replicate (n - 1) fr0)):=show zh _ _ _ (List.replicate 1 q++List.replicate (n - 1) fr0) by simpa [List.drop_replicate]using ow1
 have G1:Hid (zc w W1):=zg (za _ _) gr1 (nR _);clear ow1 gr1;go_wp2
 go_loopg [8] n (fun gg s8 wr=>∃m:Nat,1<=m/\m<=n/\n - m<=gg/\s8= .int .i64 m/\Hid (zh w.heap.size wr (.slice (some ⟨w.heap.size,0,none⟩) n n) (List.replicate m q++List.replicate (n - m) fr0))/\Hid (zc w wr))
 case atStart=>exact⟨1,nR _,hn1,by omega,rfl,OW1.out,G1.out⟩
 obtain⟨m,hm1,hmn,hg,rfl,OF,GW⟩:=hrel
 by_cases hlt:m<n
 ·have hltz:(m:Int)< (n:Int):=by omega
  have hmnz:(m:Int)<=(n:Int):=by omega
  have OFd:Hid (zh w.heap.size wr.drew (.slice (some ⟨w.heap.size,0,none⟩) n n) (List.replicate m q++List.replicate (n - m) fr0)):=show zh _ _ _ _ from OF.out.grew (gW _)
  obtain⟨z,HZ⟩:∃z,Hid (z=Nat.min m (n - m)):=⟨_,rfl⟩;have hz0:z=min m (n - m):=HZ.out;have hz1:1<=z:=by omega
  have hz2:z<=m:=by omega
  have hz3:z<=n - m:=by omega
  clear hz0;have hsrc:jr wr.drew ⟨w.heap.size,0,none⟩ ((List.replicate z q).flatMap frv):=fun j u hj=>by
   have h1:=OFd.out.1.cells rfl;refine h1 j u ?_;rw[List.flatMap_append,List.getElem?_append_left]
   ·rw[show m=z+(m - z) by omega,<-List.replicate_append_replicate,List.flatMap_append,List.getElem?_append_left (gS.1 hj).1]
    exact hj
   have h3:=(gS.1 hj).1;rw[Zy]at h3⊢;simp only[lR]at h3⊢;exact Nat.lt_of_lt_of_le h3 (Nat.mul_le_mul_right _ hz2)
  obtain⟨W2,hrun,ow2,gr2,_⟩:=Ji 3 w.heap.size _ _ OFd.out w.heap.size rfl m (n - m) (n - m) ⟨w.heap.size,0,none⟩ m n (List.replicate z q) (by rw[lR];exact HZ.out) hsrc (by simp;omega)
  have hcopy:(Builtin.copy_ #[26,26] 3 #[.slice (some ⟨w.heap.size,m*13,none⟩) (n - m) (n - m),.slice (some ⟨w.heap.size,0,none⟩) m n]).run Tryz.prog wr.drew= .ok (.int .i64 (z:Int)) W2:=by
   have h1:=hrun;rw[lR]at h1;exact h1
  have OW2:Hid (zh w.heap.size W2 (.slice (some ⟨w.heap.size,0,none⟩) n n) (List.replicate (m+z) q++List.replicate (n -(m+z)) fr0)):=show zh _ _ _ _ by
   rw[<-zgD q n m z (by omega) HZ.out]
   rw[lR]at ow2;exact ow2
  have GW2:Hid (zc w W2):=zg (GW.out.trans (gW _)) gr2 (nR _)
  clear hsrc hrun ow2 gr2;go_wp2
  go_region
  go_wp2
  go_roundg (n -(m+z))
  case measure=>omega
  exact⟨m+z,by omega,by omega,nR _,by go_num,OW2.out,GW2.out⟩
 have hltz:¬(m:Int)< (n:Int):=by omega
 have:m=n:=by omega
 subst this;have HO:Hid (zh w.heap.size wr (.slice (some ⟨w.heap.size,0,none⟩) m m) (List.replicate m q)):=show zh _ _ _ (List.replicate m q) by have:=OF.out;simpa using this
 go_wp2;go_ret;exact⟨_,rfl,HO.out.new,GW.out⟩
def zgt (n:Int):Int:=if 0<=n/\n<=40 then 0 else 4
def zhq (n:Int):List Fr:=if 0<=n/\n<=40 then List.replicate n.toNat frF else []
theorem zeS (q:Fr) (x:Nat) (c:Nat) (w:World):
  Calls Tryz.prog 172 #[.slice (some ⟨x,0,none⟩) 1 c,.int .i64 0] w fun e w'=>∃b,e= .returned b/\qR w.heap.size w' b (List.replicate 0 q)/\zc w w':=by
 have hm:=zee 0 (by omega) w
 go_enter Tryz.func172,Tryz.ntmps172
 go_wp2_with (first
  | (go_at_call 205;refine hm.mono ?_;rintro e w' ⟨rfl,hw⟩;rw[hw])
  | (refine Qm rfl (.tmp 29) rfl 0 rfl (by show 0*40<=_;omega) ?_;intro C ow;have OW:Hid (zh w.heap.size (w.alloc (.cells C 69)) (.slice (some ⟨w.heap.size,0,none⟩) 0 0) (List.replicate 0 fr0)):=ow;clear ow)
  | (refine ZV rfl (.tmp 31) (.tmp 32) rfl w.heap.size (.slice (some ⟨w.heap.size,0,none⟩) 0 0) (List.replicate 0 fr0) OW.out w.heap.size rfl 0 0 0 _ rfl ?a1 _ 1 c rfl [] ?a2 ?a3 ?a4 ?_))
 case a1=>simp
 case a2=>rfl
 case a3=>intro j u hj;simp at hj
 case a4=>simp
 intro W1 ow1 gr1 _;have OW1:Hid (zh w.heap.size W1 (.slice (some ⟨w.heap.size,0,none⟩) 0 0) (List.replicate 0 q)):=show zh _ _ _ ([]:List Fr) by simpa using ow1
 have G1:Hid (zc w W1):=zg (za _ _) gr1 (nR _);clear ow1 gr1;go_wp2
 go_loopg [8] 0 (fun _ s8 wr=>s8= .int .i64 0/\wr=W1)
 case atStart=>exact⟨rfl,rfl⟩
 obtain⟨rfl,rfl⟩:=hrel;go_wp2;go_ret;exact⟨_,rfl,OW1.out.new,G1.out⟩
theorem zgq (n:Nat) (hn:n<=40) (w:World):
  Calls Tryz.prog 126 #[.int .i64 (n:Int)] w fun e w'=>∃b,e= .returned (.tuple #[.agg #[b,.int .i64 0],.int .i64 0])/\qR w.heap.size w' b (List.replicate n frF)/\zc w w':=by
 have hnz:¬(n:Int)<0:=by omega
 have hn4:¬(40:Int)< (n:Int):=by omega
 have hrep:∀W x,Box W x (frv frF)->Calls Tryz.prog 172 #[.slice (some ⟨x,0,none⟩) 1 1,.int .i64 (n:Int)] W fun e w'=>∃b,e= .returned b/\qR W.heap.size w' b (List.replicate n frF)/\zc W w':=fun W x hx=>by
  by_cases h1:1<=n
  ·refine zed frF x 1 n hn h1 W ⟨⟨_,1,rfl,fun h=>(by cases h),fun y hy=>?_⟩,by show 1*40<=_;omega⟩
   cases hy;intro j u hj;rw[Addr.add_lit,zA];exact hx.c j (by have h:=hj;simp only[List.flatMap_cons,List.flatMap_nil,List.append_nil]at h;exact h)
  have:n=0:=by omega
  subst this;exact zeS frF x 1 W
 go_enter Tryz.func126,Tryz.ntmps126
 go_wp2_with fail;refine(Zi _).mono ?_;rintro e W1 ⟨rfl,g1⟩;have X2:Hid (Box W1 w.heap.size [.slice none 0 0,.int .i64 0]):=(Box.top w [.slice none 0 0,.int .i64 0] _ rfl).grew g1;have G1:Hid (zc w W1):=(za _ _).trans g1;clear g1;simp only[frv,frF,pg0];go_wp2_with fail;refine(hrep _ _ (Box.top W1 _ _ rfl)).mono ?_;rintro e W2 ⟨b,rfl,hb,g2⟩;obtain⟨a2,c2,rfl,_⟩:=hb.1.rows;rw[lR]at hb⊢;have NB:Hid (qR W1.heap.size W2 (.slice a2 n c2) (List.replicate n frF)):=hb.base (by simp)
 have X22:=(X2.out.alloc (.cells #[.int .u8 0,.int .u8 0,.int .u8 0,.int .u8 0,.int .u8 0,.int .u8 0,.int .u8 0,.int .u8 0,.int .i64 0,.bool false,.bool false,.int .i64 (-1),.int .i64 0] 69)).grew g2;have G2:=dD ((G1.out.trans (za _ _)).trans g2);have r0:=X22.c 0 rfl;have r1:=X22.c 1 rfl;have rf:=X22.f;have HX:Hid (w.heap.size<W1.heap.size):=X2.out.lt;clear hb g2 X22;go_wp2;refine bodyPost_ret (v:= .tuple #[.agg #[.slice a2 n c2,.int .i64 0],.int .i64 0]) (by simp[results,Tryz.results126,go_sem, *]) rfl ⟨_,rfl,?_,?_⟩
 ·exact((NB.out.setCell (a:=⟨w.heap.size,0,none⟩) HX.out _).setCell (a:=⟨w.heap.size,1,none⟩) HX.out _).base (bS G1.out)
 exact zD (zD G2.out (by simp) _) (by simp) _
theorem zgr (n:Int) (hn:¬(0<=n/\n<=40)) (w:World):
  Calls Tryz.prog 126 #[.int .i64 n] w fun e w'=>∃b,e= .returned (.tuple #[.agg #[b,.int .i64 0],.int .i64 4])/\qR w.heap.size w' b ([]:List Fr)/\zc w w':=by
 by_cases h0:n<0
 ·go_enter Tryz.func126,Tryz.ntmps126
  go_wp2;refine bodyPost_ret (v:= .tuple #[.agg #[.slice none 0 0,.int .i64 0],.int .i64 4]) (by simp[results,Tryz.results126,go_sem, *]) rfl ⟨_,rfl,qR.nil _ _,?_⟩
  exact za _ _
 have h1:40<n:=by omega
 go_enter Tryz.func126,Tryz.ntmps126
 go_wp2;refine bodyPost_ret (v:= .tuple #[.agg #[.slice none 0 0,.int .i64 0],.int .i64 4]) (by simp[results,Tryz.results126,go_sem, *]) rfl ⟨_,rfl,qR.nil _ _,?_⟩
 exact za _ _
theorem ziM (n:Nat) (hn:n<=60) (w:World):
  Calls Tryz.prog 127 #[.int .i64 (n:Int)] w fun e w'=>∃a' c',e= .returned (.tuple #[.slice a' n c',.int .i64 0])/\zaV slE w.heap.size w' (.slice a' n c') (List.replicate n 0)/\zc w w':=by
 have hnz:¬(n:Int)<0:=by omega
 have hn4:¬(60:Int)< (n:Int):=by omega
 go_enter Tryz.func127,Tryz.ntmps127
 go_wp2_with (refine QZ slE rfl (.tmp 10) rfl n rfl (by show n*8<=_;omega) ?_)
 intro C ow;have OW:Hid (zb slE w.heap.size (w.alloc (.cells C 3)) (.slice (some ⟨w.heap.size,0,none⟩) n n) (List.replicate n 0)):=ow;clear ow
 show wpList _ _ _ _ _ (w.alloc (.cells C 3))
 obtain⟨W1,hW1⟩:∃W1,w.alloc (.cells C 3)=W1:=⟨_,rfl⟩;have G1:=gA hW1
 rw[hW1]at OW⊢;clear hW1;go_wp2;refine bodyPost_ret (v:= .tuple #[.slice (some ⟨w.heap.size,0,none⟩) n n,.int .i64 0]) (by simp[results,Tryz.results127,go_sem, *]) rfl ⟨_,_,rfl,OW.out.new,G1.out⟩
theorem ziN (n:Int) (hn:¬(0<=n/\n<=60)) (w:World):
  Calls Tryz.prog 127 #[.int .i64 n] w fun e w'=>e= .returned (.tuple #[.slice none 0 0,.int .i64 4])/\zc w w':=by
 by_cases h0:n<0
 ·clear hn
  go_enter Tryz.func127,Tryz.ntmps127
  go_wp2;refine bodyPost_ret (v:= .tuple #[.slice none 0 0,.int .i64 4]) (by simp[results,Tryz.results127,go_sem, *]) rfl ⟨rfl,zc.refl _⟩
 have h1:60<n:=by omega
 clear hn
 go_enter Tryz.func127,Tryz.ntmps127
 go_wp2;refine bodyPost_ret (v:= .tuple #[.slice none 0 0,.int .i64 4]) (by simp[results,Tryz.results127,go_sem, *]) rfl ⟨rfl,zc.refl _⟩
theorem zho (n:Int) (w:World):
  Calls Tryz.prog 129 #[.int .i64 n] w fun e w'=>e= .returned (.tuple #[.agg #[.slice none 0 0,.int .i64 (if 0<=n/\n<=80 then n else 0)],.int .i64 (if 0<=n/\n<=80 then 0 else 4)])/\zc w w':=by
 by_cases h:0<=n/\n<=80
 ·rw[if_pos h,if_pos h];have hb:=fun W=>Jn (m:=n) (n:=81) h.1 (by omega) W
  clear h
  go_enter Tryz.func129,Tryz.ntmps129
  go_wp2_with (go_at_call 174;refine(hb _).mono ?_;rintro e w' ⟨rfl,rfl⟩)
  refine bodyPost_ret (v:= .tuple #[.agg #[.slice none 0 0,.int .i64 n],.int .i64 0]) (by simp[results,Tryz.results129,go_sem, *]) rfl ⟨rfl,?_⟩
  first | exact za _ _ | exact Below.setCell (Below.setCell (za _ _) (p:=⟨w.heap.size,0,none⟩) (by simp) _) (p:=⟨w.heap.size,1,none⟩) (by simp) _
 rw[if_neg h,if_neg h];have hb:=fun W=>zbd (m:=n) (n:=81) (by omega) W
 clear h
 go_enter Tryz.func129,Tryz.ntmps129
 go_wp2_with (go_at_call 174;refine(hb _).mono ?_;rintro e w' ⟨rfl,rfl⟩)
 refine bodyPost_ret (v:= .tuple #[.agg #[.slice none 0 0,.int .i64 0],.int .i64 4]) (by simp[results,Tryz.results129,go_sem, *]) rfl ⟨rfl,?_⟩
 first | exact za _ _ | exact Below.setCell (Below.setCell (za _ _) (p:=⟨w.heap.size,0,none⟩) (by simp) _) (p:=⟨w.heap.size,1,none⟩) (by simp) _
def zgp (n:Int):Int:=if 0<=n/\n<=60 then 0 else 4
def zhp (n:Int):List Int:=if 0<=n/\n<=60 then List.replicate n.toNat 0 else []
theorem zgs (n:Int) (w:World):Calls Tryz.prog 126 #[.int .i64 n] w fun e w'=>∃s:Sli,e= .returned (.tuple #[.agg #[.slice s.a s.n s.c,.int .i64 0],.int .i64 (zgt n)])/\(zo Jx w' (.slice s.a s.n s.c) (zhq n)/\jh w.heap.size (.slice s.a s.n s.c))/\zc w w':=by
 by_cases h:0<=n/\n<=40
 ·obtain⟨k,rfl⟩:∃k:Nat,n=(k:Int):=⟨n.toNat,by omega⟩
  refine(zgq k (by omega) w).mono ?_
  rintro e w' ⟨b,rfl,h1,h2⟩;obtain⟨a,c,rfl,_⟩:=h1.1.rows;refine⟨⟨a,(List.replicate k frF).length,c⟩,?_,⟨?_,h1.2⟩,h2⟩
  ·unfold zgt;rw[if_pos h]
  unfold zhq;rw[if_pos h];exact h1.1
 refine(zgr n h w).mono ?_;rintro e w' ⟨b,rfl,h1,h2⟩;obtain⟨a,c,rfl,_⟩:=h1.1.rows;refine⟨⟨a,([]:List Fr).length,c⟩,?_,⟨?_,h1.2⟩,h2⟩
 ·unfold zgt;rw[if_neg h]
 unfold zhq;rw[if_neg h];exact h1.1
theorem ziO (n:Int) (w:World):Calls Tryz.prog 127 #[.int .i64 n] w fun e w'=>∃s:Sli,e= .returned (.tuple #[.slice s.a s.n s.c,.int .i64 (zgp n)])/\(zo slE w' (.slice s.a s.n s.c) (zhp n)/\jh w.heap.size (.slice s.a s.n s.c))/\zc w w':=by
 by_cases h:0<=n/\n<=60
 ·obtain⟨k,rfl⟩:∃k:Nat,n=(k:Int):=⟨n.toNat,by omega⟩
  refine(ziM k (by omega) w).mono ?_
  rintro e w' ⟨a,c,rfl,h1,h2⟩;refine⟨⟨a,k,c⟩,?_,⟨?_,h1.2⟩,h2⟩
  ·unfold zgp;rw[if_pos h]
  unfold zhp;rw[if_pos h];exact h1.1
 refine(ziN n h w).mono ?_;rintro e w' ⟨rfl,h2⟩;refine⟨⟨none,0,0⟩,?_,⟨?_,jJ _⟩,h2⟩
 ·unfold zgp;rw[if_neg h]
 unfold zhp;rw[if_neg h];exact zo.nil slE w'
theorem zdX (n:Int) (w:World):Calls Tryz.prog 128 #[.int .i64 n] w fun e w'=>∃b q:Sli,e= .returned (.tuple #[.agg #[.slice b.a b.n b.c,.slice q.a q.n q.c],.int .i64 (ZT n)])/\(qt w' (.slice b.a b.n b.c) (zex n)/\qK w' (.slice q.a q.n q.c) []/\jh w.heap.size (.slice b.a b.n b.c)/\jh w.heap.size (.slice q.a q.n q.c))/\zc w w':=by
 refine(zjT n w).mono ?_;rintro e w' ⟨d,rfl,⟨b,q,rfl,h1,h2,f1,f2⟩,h3⟩;obtain⟨a,c,rfl,_⟩:=h1.rows;obtain⟨a',c',rfl,_⟩:=h2.rows;exact⟨⟨a,(zex n).length,c⟩,⟨a',([]:List (Int × List Int)).length,c'⟩,rfl,⟨h1,h2,f1,f2⟩,h3⟩
theorem ji.beside {α:Type} {enc:α->List Value} {w w':World} {row:Option Nat} {v:Value} {l:List α} (h:ji enc w v l) (hg:w.grownBy w' row) (hn:∀x n c,v= .slice (some x) n c->some x.block≠row):ji enc w' v l:=by
 obtain⟨a,c,h1,h2,h3⟩:=h;refine⟨a,c,h1,h2,fun x hx j u hj=>?_⟩
 subst hx;have hc:=h3 x rfl j u hj;rw[World.cell?_of_block (w:=w) (hg.block _ (World.block_lt_of_cell? _ _ hc) (by rw[Jp];exact hn x _ _ h1))]
 exact hc
def zjA (f s b:Int):Prop:=(0<=f/\f<=40)/\(0<=s/\s<=60)/\(0<=b/\b<=80)
def zaC (f s b:Int):Ma:=⟨List.replicate f.toNat frF,0,List.replicate s.toNat 0,List.replicate s.toNat zz,[],List.replicate b.toNat zz,[],[],b,[],[⟨true,[],qx⟩]⟩
def ziQ (f s b:Int):List Int:=[zgt f,zgp s,ZT s,ZT b,if 0<=b/\b<=80 then 0 else 4]
theorem zhr {f s b:Int} (h:zjA f s b):ze (ziQ f s b)=0:=by
 obtain⟨h1,h2,h3⟩:=h;unfold ziQ zgt zgp ZT;rw[if_pos h1,if_pos h2,if_pos (by omega),if_pos h3]
 rfl
theorem zad {fn:Func} {p u t:Tmp} {ty:TypeId} (h:fn.results=#[.cell p ty,.tmp u,.tmp t]) (tmps:Array Value) {w:World} {b:Nat} (hp:tmps.getD p undef= .pointer (some ⟨b,0,none⟩)) {vs:List Value} (hb:Box w b vs) {d:TypeDesc} (hu:Tryz.prog.underlying ty=some d) (hd:d.isRow=true) (hi:(Tryz.prog.info? ty).map (·.size)=some vs.length):
  (results fn tmps).run Tryz.prog w= .ok (.tuple #[.agg vs.toArray,tmps.getD u undef,tmps.getD t undef]) w:=by
 have hp':tmps[p]?.getD undef= .pointer (some ⟨b,0,none⟩):=by simpa using hp
 have hld:=run_loadVar_mid (P:=Tryz.prog) w b 0 ty vs d hb.range hu hd hi
 simp[results,h,hp',asAddr,hld]
structure zk6 where
 arg:Operand
 pv:Value->Prop
 post:Value->Value->World->Prop
 step:World->World->Prop
 pre:World->Prop:=fun _=>True
def Qu:List Value:=[.slice none 0 0,.int .i64 0,.slice none 0 0,.slice none 0 0,.slice none 0 0,.slice none 0 0,.slice none 0 0,.slice none 0 0,.int .i64 0,.slice none 0 0,.slice none 0 0]
theorem ChW.done {w0 w W:World} {p g:Nat} {V:MaV} {m:Ma} (h:ChW w0 p w V m) (g2:w.grownBy W (some g)) (hg:g<w0.heap.size):zC W V m:=by
 have o:QX (Dr w0.heap.size p V) w W:=QX.grown g2 (.inl hg);have r:=h.rest W o;obtain⟨xs,s1,s2,s3⟩:=h.sp;have far:∀{α:Type} {E:Elt α} {v:Value} {l:List α},zb E w0.heap.size w v l->zo E W v l:=fun hr=>(hr.grown g2 (fun k hk e=>by cases e;have:=(hr.lt _ hk).1;omega)).at
 exact⟨far h.fs,r.sl,r.sb,r.sq,r.db,r.dq,r.fl,far h.ca,⟨xs,far s1,s2,fun i x s hx hs=>s3 i x s hx hs W o⟩⟩
theorem zgJ (V:MaV) (m:Ma) (w:World) (hm:zC w V m) (h0:maW m=0) (R:Bool->Ma->Prop) (hR:∀w0 W p V1,ChW w0 p W V1 m->Calls Tryz.prog 78 #[.pointer (some ⟨p,0,none⟩),.slice none 0 0] W fun e w'=>∃bo m',e= .returned (.bool bo)/\R bo m'/\Chg w0 p W V1 m' w'):
  Calls Tryz.prog 33 #[.agg #[.slice V.f.a V.f.n V.f.c,.int .i64 m.hand,.slice V.s.a V.s.n V.s.c,.slice V.sb.a V.sb.n V.sb.c,.slice V.sq.a V.sq.n V.sq.c,.slice V.db.a V.db.n V.db.c,.slice V.dq.a V.dq.n V.dq.c,.slice V.fl.a V.fl.n V.fl.c,.int .i64 m.cnt,.slice V.ca.a V.ca.n V.ca.c,.slice V.sp.a V.sp.n V.sp.c]] w fun e w'=>(∃(bo:Bool) (m':Ma) (V':MaV),R bo m'/\e= .returned (.tuple #[.agg #[.slice V'.f.a V'.f.n V'.f.c,.int .i64 m'.hand,.slice V'.s.a V'.s.n V'.s.c,.slice V'.sb.a V'.sb.n V'.sb.c,.slice V'.sq.a V'.sq.n V'.sq.c,.slice V'.db.a V'.db.n V'.db.c,.slice V'.dq.a V'.dq.n V'.dq.c,.slice V'.fl.a V'.fl.n V'.fl.c,.int .i64 m'.cnt,.slice V'.ca.a V'.ca.n V'.ca.c,.slice V'.sp.a V'.sp.n V'.sp.c],.bool bo,.int .i64 0])/\zC w' V' m')/\zc w w':=by
 obtain⟨W1,hW1⟩:∃W1,(w.alloc (.cells #[.slice V.f.a V.f.n V.f.c,.int .i64 m.hand,.slice V.s.a V.s.n V.s.c,.slice V.sb.a V.sb.n V.sb.c,.slice V.sq.a V.sq.n V.sq.c,.slice V.db.a V.db.n V.db.c,.slice V.dq.a V.dq.n V.dq.c,.slice V.fl.a V.fl.n V.fl.c,.int .i64 m.cnt,.slice V.ca.a V.ca.n V.ca.c,.slice V.sp.a V.sp.n V.sp.c] 41)).alloc (.cells #[.slice none 0 0,.int .i64 0,.slice none 0 0,.slice none 0 0,.slice none 0 0,.slice none 0 0,.slice none 0 0,.slice none 0 0,.int .i64 0,.slice none 0 0,.slice none 0 0] 41)=W1:=⟨_,rfl⟩;have G1:=gD2 hW1
 obtain⟨b,HB⟩:∃b,Hid (w.heap.size=b):=⟨_,rfl⟩;have X1:Hid (zp W1 b 41 [.slice V.f.a V.f.n V.f.c,.int .i64 m.hand,.slice V.s.a V.s.n V.s.c,.slice V.sb.a V.sb.n V.sb.c,.slice V.sq.a V.sq.n V.sq.c,.slice V.db.a V.db.n V.db.c,.slice V.dq.a V.dq.n V.dq.c,.slice V.fl.a V.fl.n V.fl.c,.int .i64 m.cnt,.slice V.ca.a V.ca.n V.ca.c,.slice V.sp.a V.sp.n V.sp.c]):=show zp _ _ _ _ by rw[<-hW1];exact(zp.top w [.slice V.f.a V.f.n V.f.c,.int .i64 m.hand,.slice V.s.a V.s.n V.s.c,.slice V.sb.a V.sb.n V.sb.c,.slice V.sq.a V.sq.n V.sq.c,.slice V.db.a V.db.n V.db.c,.slice V.dq.a V.dq.n V.dq.c,.slice V.fl.a V.fl.n V.fl.c,.int .i64 m.cnt,.slice V.ca.a V.ca.n V.ca.c,.slice V.sp.a V.sp.n V.sp.c] _ HB.out.symm).grew (za _ _)
 have Z1:Hid (zp W1 (b+1) 41 Qu):=show zp _ _ _ _ by rw[<-hW1];exact zp.top _ Qu _ (by have:=HB.out;simp;omega)
 have A1:Hid (zC W1 V m):=hm.grew G1.out;have HW1:Hid (_=W1):=hW1;have hwr:=Jr V m W1 A1.out;rw[h0]at hwr;clear hW1 hm h0;have HR:Hid (∀w0 W p V1,ChW w0 p W V1 m->Calls Tryz.prog 78 #[.pointer (some ⟨p,0,none⟩),.slice none 0 0] W fun e w'=>∃bo m',e= .returned (.bool bo)/\R bo m'/\Chg w0 p W V1 m' w'):=show∀w0,_ from hR
 clear hR
 go_enter Tryz.func33,Tryz.ntmps33
 go_upto_region 1 with fail;rw[HW1.out,HB.out];obtain⟨x0,x1,x2,x3,x4,x5,x6,x7,x8,x9,x10⟩:=X1.out.box.c11;go_wp2_with fail;refine hwr.mono ?_;clear hwr x0 x1 x2 x3 x4 x5 x6 x7 x8 x9 x10;rintro e W2 ⟨rfl,g2⟩;have X2:=dD (X1.out.grew g2);have Z2:=dD (Z1.out.grew g2);have A2:=dD (A1.out.grew g2);have G2:=dD (G1.out.trans g2);clear g2 X1 Z1 A1 G1;have hof:=zf1 V m W2 A2.out;obtain⟨x0,x1,x2,x3,x4,x5,x6,x7,x8,x9,x10⟩:=X2.out.box.c11;go_wp2_with fail;refine hof.mono ?_;clear hof x0 x1 x2 x3 x4 x5 x6 x7 x8 x9 x10;rintro e W3 ⟨p,V1,rfl,hc⟩;have C3:Hid (ChW W2 p W3 V1 m):=hc;have HBL:Hid (b+1<W2.heap.size):=Z2.out.box.lt;have Z3:Hid (zp W3 (b+1) 41 Qu):=Z2.out.grew hc.gr;clear hc Z2 X2 A2;have hff:=HR.out W2 W3 p V1 C3.out;go_wp2_with fail;refine hff.mono ?_;clear hff;rintro e W5 ⟨bo,m5,rfl,hr5,V5,c5,o5,d5⟩;have C5:Hid (ChW W2 p W5 V5 m5):=c5;have HR5:Hid (R bo m5):=hr5;have Z5:Hid (zp W5 (b+1) 41 Qu):=Z3.out.outD o5 (fun e=>by have:=C3.out.dlo _ e;have:=HBL.out;omega)
 clear c5 o5 d5 hr5 Z3 HR;obtain⟨r0,r1,r2,r3,r4,r5,r6,r7,r8,r9,r10⟩:=C5.out.box.box.c11;have HZL:Hid (∀v∈chL V5 m5,v.oneCell'=true):=show∀v∈chL V5 m5,_ by simp[chL,Value.oneCell']
 go_wp2_with (refine qD rfl 41 (.tmp 2) (.tmp 21) rfl (b+1) rfl (chL V5 m5) rfl Z5.out rfl (by kernel_rfl) HZL.out ?_)
 clear r0 r1 r2 r3 r4 r5 r6 r7 r8 r9 r10;intro W6 bx gr6 _;have G6:Hid (zc w W6):=show zc _ _ from zg (G2.out.trans C5.out.gr) gr6 (by have:=HB.out;omega)
 have B6:Hid (zp W6 (b+1) 41 (chL V5 m5)):=bx;have HF:Hid (zC W6 V5 m5):=C5.out.done gr6 HBL.out;clear bx gr6;go_wp2;refine bodyPost_ret (zad rfl _ rfl B6.out.box Tryz.underlying41 rfl (by kernel_rfl)) rfl ⟨⟨bo,m5,V5,HR5.out,rfl,HF.out⟩,G6.out⟩
theorem zgP (V:MaV) (m:Ma) (w:World) (hm:zC w V m) (h0:maW m=0) (hc:m.ca=[]):
  Calls Tryz.prog 35 #[.agg #[.slice V.f.a V.f.n V.f.c,.int .i64 m.hand,.slice V.s.a V.s.n V.s.c,.slice V.sb.a V.sb.n V.sb.c,.slice V.sq.a V.sq.n V.sq.c,.slice V.db.a V.db.n V.db.c,.slice V.dq.a V.dq.n V.dq.c,.slice V.fl.a V.fl.n V.fl.c,.int .i64 m.cnt,.slice V.ca.a V.ca.n V.ca.c,.slice V.sp.a V.sp.n V.sp.c]] w fun e w'=>(∃V':MaV,e= .returned (.tuple #[.agg #[.slice V'.f.a V'.f.n V'.f.c,.int .i64 m.hand,.slice V'.s.a V'.s.n V'.s.c,.slice V'.sb.a V'.sb.n V'.sb.c,.slice V'.sq.a V'.sq.n V'.sq.c,.slice V'.db.a V'.db.n V'.db.c,.slice V'.dq.a V'.dq.n V'.dq.c,.slice V'.fl.a V'.fl.n V'.fl.c,.int .i64 m.cnt,.slice V'.ca.a V'.ca.n V'.ca.c,.slice V'.sp.a V'.sp.n V'.sp.c],.bool false,.int .i64 0])/\zC w' V' m)/\zc w w':=by
 obtain⟨W1,hW1⟩:∃W1,(w.alloc (.cells #[.slice V.f.a V.f.n V.f.c,.int .i64 m.hand,.slice V.s.a V.s.n V.s.c,.slice V.sb.a V.sb.n V.sb.c,.slice V.sq.a V.sq.n V.sq.c,.slice V.db.a V.db.n V.db.c,.slice V.dq.a V.dq.n V.dq.c,.slice V.fl.a V.fl.n V.fl.c,.int .i64 m.cnt,.slice V.ca.a V.ca.n V.ca.c,.slice V.sp.a V.sp.n V.sp.c] 41)).alloc (.cells #[.slice none 0 0,.int .i64 0,.slice none 0 0,.slice none 0 0,.slice none 0 0,.slice none 0 0,.slice none 0 0,.slice none 0 0,.int .i64 0,.slice none 0 0,.slice none 0 0] 41)=W1:=⟨_,rfl⟩;have G1:=gD2 hW1
 obtain⟨b,HB⟩:∃b,Hid (w.heap.size=b):=⟨_,rfl⟩;have X1:Hid (zp W1 b 41 [.slice V.f.a V.f.n V.f.c,.int .i64 m.hand,.slice V.s.a V.s.n V.s.c,.slice V.sb.a V.sb.n V.sb.c,.slice V.sq.a V.sq.n V.sq.c,.slice V.db.a V.db.n V.db.c,.slice V.dq.a V.dq.n V.dq.c,.slice V.fl.a V.fl.n V.fl.c,.int .i64 m.cnt,.slice V.ca.a V.ca.n V.ca.c,.slice V.sp.a V.sp.n V.sp.c]):=show zp _ _ _ _ by rw[<-hW1];exact(zp.top w [.slice V.f.a V.f.n V.f.c,.int .i64 m.hand,.slice V.s.a V.s.n V.s.c,.slice V.sb.a V.sb.n V.sb.c,.slice V.sq.a V.sq.n V.sq.c,.slice V.db.a V.db.n V.db.c,.slice V.dq.a V.dq.n V.dq.c,.slice V.fl.a V.fl.n V.fl.c,.int .i64 m.cnt,.slice V.ca.a V.ca.n V.ca.c,.slice V.sp.a V.sp.n V.sp.c] _ HB.out.symm).grew (za _ _)
 have Z1:Hid (zp W1 (b+1) 41 Qu):=show zp _ _ _ _ by rw[<-hW1];exact zp.top _ Qu _ (by have:=HB.out;simp;omega)
 have A1:Hid (zC W1 V m):=hm.grew G1.out;have HW1:Hid (_=W1):=hW1;have hwr:=Jr V m W1 A1.out;rw[h0]at hwr;clear hW1 hm h0;have HCA:Hid (m.ca.length=0):=show _=_ by rw[hc];rfl
 clear hc
 go_enter Tryz.func35,Tryz.ntmps35
 go_upto_region 1 with fail;rw[HW1.out,HB.out];obtain⟨x0,x1,x2,x3,x4,x5,x6,x7,x8,x9,x10⟩:=X1.out.box.c11;go_wp2_with fail;refine hwr.mono ?_;clear hwr x0 x1 x2 x3 x4 x5 x6 x7 x8 x9 x10;rintro e W2 ⟨rfl,g2⟩;have X2:=dD (X1.out.grew g2);have Z2:=dD (Z1.out.grew g2);have A2:=dD (A1.out.grew g2);have G2:=dD (G1.out.trans g2);clear g2 X1 Z1 A1 G1;have hof:=zf1 V m W2 A2.out;obtain⟨x0,x1,x2,x3,x4,x5,x6,x7,x8,x9,x10⟩:=X2.out.box.c11;go_wp2_with fail;refine hof.mono ?_;clear hof x0 x1 x2 x3 x4 x5 x6 x7 x8 x9 x10;rintro e W3 ⟨p,V1,rfl,hc⟩;have C3:Hid (ChW W2 p W3 V1 m):=hc;have HBL:Hid (b+1<W2.heap.size):=Z2.out.box.lt;have Z3:Hid (zp W3 (b+1) 41 Qu):=Z2.out.grew hc.gr;clear hc Z2 X2 A2;obtain⟨-,-,-,-,-,-,-,n8,-⟩:=C3.out.at.ns;have x9:=C3.out.box.box.c 9 rfl;rw[n8,HCA.out]at x9;clear n8;go_wp2;clear x9
 go_loopg [23] 1 (fun gg s23 wr=>s23= .int .i64 0/\0<gg/\wr=W3)
 case atStart=>exact⟨rfl,by omega,rfl⟩
 obtain⟨rfl,hgg,rfl⟩:=hrel;have Z5:Hid (zp wr (b+1) 41 Qu):=Z3;obtain⟨r0,r1,r2,r3,r4,r5,r6,r7,r8,r9,r10⟩:=C3.out.box.box.c11;have HZL:Hid (∀v∈chL V1 m,v.oneCell'=true):=show∀v∈chL V1 m,_ by simp[chL,Value.oneCell']
 go_wp2_with (refine qD rfl 41 (.tmp 2) (.tmp 52) rfl (b+1) rfl (chL V1 m) rfl Z5.out rfl (by kernel_rfl) HZL.out ?_)
 clear r0 r1 r2 r3 r4 r5 r6 r7 r8 r9 r10;intro W6 bx gr6 _;have G6:Hid (zc w W6):=show zc _ _ from zg (G2.out.trans C3.out.gr) gr6 (by have:=HB.out;omega)
 have B6:Hid (zp W6 (b+1) 41 (chL V1 m)):=bx;have HF:Hid (zC W6 V1 m):=C3.out.done gr6 HBL.out;clear bx gr6;go_wp2;refine bodyPost_ret (zad rfl _ rfl B6.out.box Tryz.underlying41 rfl (by kernel_rfl)) rfl ⟨⟨V1,rfl,HF.out⟩,G6.out⟩
theorem zg9 (V:MaV) (m:Ma) (file:Int) (w:World) (hm:zC w V m) (h0:maW m=0) (hf:file<0\/(m.fl.length:Int)<=file):
  Calls Tryz.prog 36 #[.agg #[.slice V.f.a V.f.n V.f.c,.int .i64 m.hand,.slice V.s.a V.s.n V.s.c,.slice V.sb.a V.sb.n V.sb.c,.slice V.sq.a V.sq.n V.sq.c,.slice V.db.a V.db.n V.db.c,.slice V.dq.a V.dq.n V.dq.c,.slice V.fl.a V.fl.n V.fl.c,.int .i64 m.cnt,.slice V.ca.a V.ca.n V.ca.c,.slice V.sp.a V.sp.n V.sp.c],.int .i64 file] w fun e w'=>e= .returned (.tuple #[.agg Qu.toArray,.int .i64 5])/\zc w w':=by
 obtain⟨W1,hW1⟩:∃W1,(w.alloc (.cells #[.slice V.f.a V.f.n V.f.c,.int .i64 m.hand,.slice V.s.a V.s.n V.s.c,.slice V.sb.a V.sb.n V.sb.c,.slice V.sq.a V.sq.n V.sq.c,.slice V.db.a V.db.n V.db.c,.slice V.dq.a V.dq.n V.dq.c,.slice V.fl.a V.fl.n V.fl.c,.int .i64 m.cnt,.slice V.ca.a V.ca.n V.ca.c,.slice V.sp.a V.sp.n V.sp.c] 41)).alloc (.cells #[.slice none 0 0,.int .i64 0,.slice none 0 0,.slice none 0 0,.slice none 0 0,.slice none 0 0,.slice none 0 0,.slice none 0 0,.int .i64 0,.slice none 0 0,.slice none 0 0] 41)=W1:=⟨_,rfl⟩;have G1:=gD2 hW1
 obtain⟨b,HB⟩:∃b,Hid (w.heap.size=b):=⟨_,rfl⟩;have X1:Hid (zp W1 b 41 [.slice V.f.a V.f.n V.f.c,.int .i64 m.hand,.slice V.s.a V.s.n V.s.c,.slice V.sb.a V.sb.n V.sb.c,.slice V.sq.a V.sq.n V.sq.c,.slice V.db.a V.db.n V.db.c,.slice V.dq.a V.dq.n V.dq.c,.slice V.fl.a V.fl.n V.fl.c,.int .i64 m.cnt,.slice V.ca.a V.ca.n V.ca.c,.slice V.sp.a V.sp.n V.sp.c]):=show zp _ _ _ _ by rw[<-hW1];exact(zp.top w [.slice V.f.a V.f.n V.f.c,.int .i64 m.hand,.slice V.s.a V.s.n V.s.c,.slice V.sb.a V.sb.n V.sb.c,.slice V.sq.a V.sq.n V.sq.c,.slice V.db.a V.db.n V.db.c,.slice V.dq.a V.dq.n V.dq.c,.slice V.fl.a V.fl.n V.fl.c,.int .i64 m.cnt,.slice V.ca.a V.ca.n V.ca.c,.slice V.sp.a V.sp.n V.sp.c] _ HB.out.symm).grew (za _ _)
 have Z1:Hid (zp W1 (b+1) 41 Qu):=show zp _ _ _ _ by rw[<-hW1];exact zp.top _ Qu _ (by have:=HB.out;simp;omega)
 have A1:Hid (zC W1 V m):=hm.grew G1.out;have HW1:Hid (_=W1):=hW1;have hwr:=Jr V m W1 A1.out;rw[h0]at hwr;clear hW1 hm h0;have HFI:Hid (file<0\/(m.fl.length:Int)<=file):=show _\/_ from hf
 clear hf
 go_enter Tryz.func36,Tryz.ntmps36
 go_upto_region 1 with fail;rw[HW1.out,HB.out];obtain⟨x0,x1,x2,x3,x4,x5,x6,x7,x8,x9,x10⟩:=X1.out.box.c11;go_wp2_with fail;refine hwr.mono ?_;clear hwr x0 x1 x2 x3 x4 x5 x6 x7 x8 x9 x10;rintro e W2 ⟨rfl,g2⟩;have X2:=dD (X1.out.grew g2);have Z2:=dD (Z1.out.grew g2);have A2:=dD (A1.out.grew g2);have G2:=dD (G1.out.trans g2);clear g2 X1 Z1 A1 G1;obtain⟨-,-,-,-,-,-,n7,-⟩:=A2.out.ns;have x7:=X2.out.box.c 7 rfl;rw[n7]at x7;clear n7;obtain⟨fn,HFN⟩:∃fn,Hid (m.fl.length=fn):=⟨_,rfl⟩;rw[HFN.out]at x7 HFI
 by_cases h1:file<0
 ·have h1d:decide (file<0)=true:=by simpa using h1
  go_wp2_with (refine qD rfl 41 (.tmp 4) (.tmp 26) rfl (b+1) rfl Qu rfl Z2.out rfl (by kernel_rfl) (by simp[Qu,Value.oneCell']) ?_)
  intro W6 bx gr6 _;have G6:Hid (zc w W6):=show zc _ _ from zg G2.out gr6 (by have:=HB.out;omega)
  have B6:Hid (zp W6 (b+1) 41 Qu):=bx;clear bx gr6 x7;go_wp2;refine bodyPost_ret (ZO rfl _ rfl B6.out.box Tryz.underlying41 rfl (by kernel_rfl)) rfl ⟨rfl,G6.out⟩
 have h1d:decide (file<0)=false:=by simpa using h1
 have h2:(fn:Int)<=file:=by have:=HFI.out;omega
 have h2d:decide ((fn:Int)<=file)=true:=by simpa using h2
 go_wp2_with (refine qD rfl 41 (.tmp 4) (.tmp 26) rfl (b+1) rfl Qu rfl Z2.out rfl (by kernel_rfl) (by simp[Qu,Value.oneCell']) ?_)
 intro W6 bx gr6 _;have G6:Hid (zc w W6):=show zc _ _ from zg G2.out gr6 (by have:=HB.out;omega)
 have B6:Hid (zp W6 (b+1) 41 Qu):=bx;clear bx gr6 x7;go_wp2;refine bodyPost_ret (ZO rfl _ rfl B6.out.box Tryz.underlying41 rfl (by kernel_rfl)) rfl ⟨rfl,G6.out⟩
def frU (q:Fr):Fr:={ q with u:=false }
def zjx (q:Fr):Bool:=decide (0<q.r) && !q.u
theorem zh9 {b:Nat} {w W:World} (h:Below b w W) {a:Addr} (ha:b<=a.block) (u:Value):Below b w (W.setCell a u):=Below.setCell h ha u
theorem ziC (B g n cv i base b0:Nat) (fs:List Fr) (q:Fr) (W:World) (hn:fs.length=n) (h40:n<=40) (hq:fs[i]? =some q) (hB:Box W B [.slice (some ⟨g,0,none⟩) n cv,.int .i64 (i:Int)]) (ow:zh base W (.slice (some ⟨g,0,none⟩) n cv) fs) (hBg:B≠g) (h1:b0<=B) (h2:b0<=g):
  Calls Tryz.prog 167 #[.pointer (some ⟨B,0,none⟩)] W fun e W'=>e= .returned (.tuple #[.int .i64 (i:Int),.bool (zjx q)])/\Box W' B [.slice (some ⟨g,0,none⟩) n cv,.int .i64 (((i+1) % n:Nat):Int)]/\zh base W' (.slice (some ⟨g,0,none⟩) n cv) (fs.set i (frU q))/\Below b0 W W':=by
 have OW:Hid (zh base W (.slice (some ⟨g,0,none⟩) n cv) fs):=ow;have HB:Hid (Box W B [.slice (some ⟨g,0,none⟩) n cv,.int .i64 (i:Int)]):=hB;have HQ:Hid (fs[i]? =some q):=hq;have hil:i<n:=by rw[<-hn];exact(gS.1 hq).1
 have HN:Hid (fs.length=n):=hn;clear ow hB hq hn;have hiz:(i:Int)< (n:Int):=by omega
 have hn0:(0:Int)< (n:Int):=by omega
 have hnn:¬(n:Int)=0:=by omega
 have hmod:(((i:Int)+1) %(n:Int))=(((i+1) % n:Nat):Int):=by simp
 have HMOD:Hid (((i:Int)+1) %(n:Int)=(((i+1) % n:Nat):Int)):=hmod;clear hmod;have hgB:g≠B:=Ne.symm hBg;have e0:=HB.out.c 0 rfl;have e1:=HB.out.c 1 rfl;have ef:=HB.out.f;have eB:=HB.out.lt;have hgl:=(OW.out.lt g rfl).2;have u8:=OW.out.frc HQ.out 8 rfl;have u9:=OW.out.frc HQ.out 9 rfl
 go_enter Tryz.func167,Tryz.ntmps167
 go_upto_region 3 with fail;obtain⟨W1,hW1⟩:∃W1,W.setCell ⟨B,1,none⟩ (.int .i64 (((i:Int)+1) %(n:Int)))=W1:=⟨_,rfl⟩;rw[hW1];have HB1:Hid (Box W1 B [.slice (some ⟨g,0,none⟩) n cv,.int .i64 (((i:Int)+1) %(n:Int))]):=show Box _ _ _ by rw[<-hW1];exact HB.out.set 1 _
 have OW1:Hid (zh base W1 (.slice (some ⟨g,0,none⟩) n cv) fs):=show zh _ _ _ _ by rw[<-hW1];exact OW.out.setOther (fun g' hg'=>by cases hg';exact hBg) _
 have BL1:Hid (Below b0 W W1):=show Below _ _ _ by rw[<-hW1];exact zh9 (bR _ _) h1 _
 clear hW1 e0 e1 ef eB u8 u9;have e0:=HB1.out.c 0 rfl;have u8:=OW1.out.frc HQ.out 8 rfl;have u9:=OW1.out.frc HQ.out 9 rfl;have HI:Hid (zjx q=(decide (0<q.r) && !q.u)):=rfl;obtain⟨r,HRR⟩:∃r,Hid (q.r=r):=⟨_,rfl⟩;obtain⟨u,HUU⟩:∃u,Hid (q.u=u):=⟨_,rfl⟩;rw[HRR.out]at u8 HI;rw[HUU.out]at u9 HI
 by_cases hr:0<r
 ·cases u with
  | true=>
   have HF:Hid (zjx q=false):=show _=_ by rw[HI.out];simp[hr]
   clear HI
   go_wp2_with (refine jw rfl (.tmp 32) (.const (.bool false)) 4 rfl base (.slice (some ⟨g,0,none⟩) n cv) fs OW1.out g i 9 rfl q (frU q) HQ.out [.bool false] (by kernel_rfl) rfl (Nat.le_of_ble_eq_true rfl) (by intro u hu;simp at hu;subst hu;rfl) _ rfl (by simp) _ rfl rfl ?_)
   intro W2 ow2 gr2 _;have OW2:Hid (zh base W2 (.slice (some ⟨g,0,none⟩) n cv) (fs.set i (frU q))):=ow2;have HB2:Hid (Box W2 B [.slice (some ⟨g,0,none⟩) n cv,.int .i64 (((i:Int)+1) %(n:Int))]):=HB1.out.beside gr2 (fun g' hg'=>by cases hg';exact hBg)
   have BL2:Hid (Below b0 W W2):=Below.grown BL1.out gr2 (by have:=bS BL1.out;omega) (fun g' hg'=>by cases hg';exact h2)
   clear ow2 gr2 u8 u9 e0;go_wp2
   go_ret2
   exact⟨by rw[HF.out];rfl,by rw[<-HMOD.out];exact HB2.out,OW2.out,BL2.out⟩
  | false=>
   have HF:Hid (zjx q=true):=show _=_ by rw[HI.out];simp[hr]
   clear HI
   go_wp2_with (refine jw rfl (.tmp 32) (.const (.bool false)) 4 rfl base (.slice (some ⟨g,0,none⟩) n cv) fs OW1.out g i 9 rfl q (frU q) HQ.out [.bool false] (by kernel_rfl) rfl (Nat.le_of_ble_eq_true rfl) (by intro u hu;simp at hu;subst hu;rfl) _ rfl (by simp) _ rfl rfl ?_)
   intro W2 ow2 gr2 _;have OW2:Hid (zh base W2 (.slice (some ⟨g,0,none⟩) n cv) (fs.set i (frU q))):=ow2;have HB2:Hid (Box W2 B [.slice (some ⟨g,0,none⟩) n cv,.int .i64 (((i:Int)+1) %(n:Int))]):=HB1.out.beside gr2 (fun g' hg'=>by cases hg';exact hBg)
   have BL2:Hid (Below b0 W W2):=Below.grown BL1.out gr2 (by have:=bS BL1.out;omega) (fun g' hg'=>by cases hg';exact h2)
   clear ow2 gr2 u8 u9 e0;go_wp2
   go_ret2
   exact⟨by rw[HF.out];rfl,by rw[<-HMOD.out];exact HB2.out,OW2.out,BL2.out⟩
 
 have HF:Hid (zjx q=false):=show _=_ by rw[HI.out];simp[hr]
 clear HI
 go_wp2_with (refine jw rfl (.tmp 32) (.const (.bool false)) 4 rfl base (.slice (some ⟨g,0,none⟩) n cv) fs OW1.out g i 9 rfl q (frU q) HQ.out [.bool false] (by kernel_rfl) rfl (Nat.le_of_ble_eq_true rfl) (by intro u hu;simp at hu;subst hu;rfl) _ rfl (by simp) _ rfl rfl ?_)
 intro W2 ow2 gr2 _;have OW2:Hid (zh base W2 (.slice (some ⟨g,0,none⟩) n cv) (fs.set i (frU q))):=ow2;have HB2:Hid (Box W2 B [.slice (some ⟨g,0,none⟩) n cv,.int .i64 (((i:Int)+1) %(n:Int))]):=HB1.out.beside gr2 (fun g' hg'=>by cases hg';exact hBg)
 have BL2:Hid (Below b0 W W2):=Below.grown BL1.out gr2 (by have:=bS BL1.out;omega) (fun g' hg'=>by cases hg';exact h2)
 clear ow2 gr2 u8 u9 e0;go_wp2
 go_ret2
 exact⟨by rw[HF.out];rfl,by rw[<-HMOD.out];exact HB2.out,OW2.out,BL2.out⟩
def Jc:Nat->List Fr->Nat->List Fr × Nat × Int
 | 0,fs,h=>(fs,h,-1)
 | m+1,fs,h=>if zjx (fs.getD h fr0)then(fs.set h (frU (fs.getD h fr0)),(h+1) % fs.length,(h:Int))else Jc m (fs.set h (frU (fs.getD h fr0))) ((h+1) % fs.length)
def ziK (fs:List Fr) (h:Int):List Fr × Nat × Int:=Jc (2*fs.length) fs h.toNat
def zgo (fs:List Fr) (h:Int):List Fr:=if Ze fs h=0 then(ziK fs h).1 else []
def zgn (fs:List Fr) (h:Int):Int:=if Ze fs h=0 then((ziK fs h).2.1:Int)else 0
def zhn (fs:List Fr) (h:Int):Int:=if Ze fs h=0 then(ziK fs h).2.2 else 0
theorem zkB (a:Option Addr) (c:Nat) (fs:List Fr) (h:Int) (w:World) (hv:zY w (.slice a fs.length c) fs) (z:Int) (hz:Ze fs h=z) (hzb:(z != 0)=true):
  Calls Tryz.prog 121 #[.agg #[.slice a fs.length c,.int .i64 h]] w fun e w'=>∃b,e= .returned (.tuple #[.agg #[b,.int .i64 0],.int .i64 0,.int .i64 z])/\zh w.heap.size w' b ([]:List Fr)/\zc w w':=by
 have HV:Hid (zY w (.slice a fs.length c) fs):=hv;have hw:∀W,zc w W->Calls Tryz.prog 156 #[.agg #[.slice a fs.length c,.int .i64 h]] W fun e w'=>e= .returned (.int .i64 (Ze fs h))/\zc W w':=fun W hW=>QY a c fs h W (HV.out.grew hW)
 clear hv;obtain⟨n,HN⟩:∃n,Hid (fs.length=n):=⟨_,rfl⟩;simp only[HN.out,hz]at hw HV⊢;clear hz;obtain⟨W0,hW0⟩:∃W0,(w.alloc (.cells #[.slice a n c,.int .i64 h] 28)).alloc (.cells #[.slice none 0 0,.int .i64 0] 28)=W0:=⟨_,rfl⟩;have HG0:=gD2 hW0
 have X0:=x2a hW0
 have X2:=x2b hW0
 have HW0:Hid (_=W0):=hW0;clear hW0
 go_enter Tryz.func121,Tryz.ntmps121
 go_upto_region 1 with fail;rw[HW0.out];have e0:=X0.out.c 0 rfl;have e1:=X0.out.c 1 rfl;go_wp2_with fail;refine(hw _ HG0.out).mono ?_;rintro e W1 ⟨rfl,g1⟩;have G1:Hid (zc W0 W1):=g1;clear g1 e0 e1 hw;have r0:=(X2.out.grew G1.out).c 0 rfl;have r1:=(X2.out.grew G1.out).c 1 rfl;have rf:=(X2.out.grew G1.out).f;go_wp2;refine bodyPost_ret (v:= .tuple #[.agg #[.slice none 0 0,.int .i64 0],.int .i64 0,.int .i64 z]) (by simp[results,Tryz.results121,go_sem, *]) rfl ⟨_,rfl,zh.nil _ _,?_⟩
 exact zD (zD (HG0.out.trans G1.out) (by simp) _) (by simp) _
theorem zkA (a:Option Addr) (c:Nat) (fs:List Fr) (i0:Nat) (w:World) (hv:zY w (.slice a fs.length c) fs) (hz:Ze fs (i0:Int)=0):
  Calls Tryz.prog 121 #[.agg #[.slice a fs.length c,.int .i64 (i0:Int)]] w fun e w'=>∃b,e= .returned (.tuple #[.agg #[b,.int .i64 ((Jc (2*fs.length) fs i0).2.1:Int)],.int .i64 (Jc (2*fs.length) fs i0).2.2,.int .i64 0])/\zh w.heap.size w' b (Jc (2*fs.length) fs i0).1/\zc w w':=by
 have HV:Hid (zY w (.slice a fs.length c) fs):=hv;have hw:∀W,zc w W->Calls Tryz.prog 156 #[.agg #[.slice a fs.length c,.int .i64 (i0:Int)]] W fun e w'=>e= .returned (.int .i64 (Ze fs (i0:Int)))/\zc W w':=fun W hW=>QY a c fs _ W (HV.out.grew hW)
 have ho:∀W,zc w W->Calls Tryz.prog 70 #[.agg #[.slice a fs.length c,.int .i64 (i0:Int)]] W fun e w'=>∃b,e= .returned (.agg #[b,.int .i64 (i0:Int)])/\zh W.heap.size w' b fs/\zc W w':=fun W hW=>zcn a c fs _ W (HV.out.grew hW)
 obtain⟨h40,_,_,hhand⟩:=zdY hz;have eg:=enters_of Tryz.func167 (by kernel_rfl) rfl
 clear hv;obtain⟨n,HN⟩:∃n,Hid (fs.length=n):=⟨_,rfl⟩;simp only[HN.out,hz]at hw HV ho h40 hhand⊢;clear hz;obtain⟨R,HRR⟩:∃R,Hid (Jc (2*n) fs i0=R):=⟨_,rfl⟩;rw[HRR.out];obtain⟨W0,hW0⟩:∃W0,(w.alloc (.cells #[.slice a n c,.int .i64 (i0:Int)] 28)).alloc (.cells #[.slice none 0 0,.int .i64 0] 28)=W0:=⟨_,rfl⟩;have HG0:=gD2 hW0
 have X0:=x2a hW0
 have X2:=x2b hW0
 have HW0:Hid (_=W0):=hW0;clear hW0
 go_enter Tryz.func121,Tryz.ntmps121
 go_upto_region 1 with fail;rw[HW0.out];have e0:=X0.out.c 0 rfl;have e1:=X0.out.c 1 rfl;go_wp2_with fail;refine(hw _ HG0.out).mono ?_;rintro e W1 ⟨rfl,g1⟩;have G1:Hid (zc W0 W1):=g1;clear g1 e0 e1 hw;have e0:=(X0.out.grew G1.out).c 0 rfl;have e1:=(X0.out.grew G1.out).c 1 rfl;go_wp2_with fail;refine(ho _ (HG0.out.trans G1.out)).mono ?_;rintro e W4 ⟨b,rfl,hown,g4⟩;obtain⟨av,cv,rfl⟩:=hown.form;rw[HN.out]at hown⊢;have OW:Hid (zh W1.heap.size W4 (.slice av n cv) fs):=hown;have G4:=dD (G1.out.trans g4);have g34:Hid (W1.heap.size<=W4.heap.size):=bS g4;have HX2:Hid (w.heap.size+1<W1.heap.size):=(X2.out.grew G1.out).lt;have HWW:Hid (w.heap.size<=W1.heap.size):=bS (HG0.out.trans G1.out);clear hown g4 e0 e1 ho;obtain⟨W5,hW5⟩:∃W5,W4.alloc (.cells #[.slice av n cv,.int .i64 (i0:Int)] 28)=W5:=⟨_,rfl⟩;have XO:=xT hW5
 have OW5:Hid (zh W1.heap.size W5 (.slice av n cv) fs):=show zh _ _ _ _ by rw[<-hW5];exact OW.out.grew (za _ _)
 have X25:Hid (Box W5 (w.heap.size+1) [.slice none 0 0,.int .i64 0]):=show Box _ _ _ by rw[<-hW5];exact(X2.out.grew G4.out).alloc _
 have G5:Hid (zc w W5):=show zc _ _ by rw[<-hW5];exact(HG0.out.trans G4.out).trans (za _ _)
 have HW5:Hid (_=W5):=hW5;clear hW5;go_wp2;rw[HW5.out]
 go_loopg [8,9,23] (2*n) (fun gg _ _ s23 wr=>∃(kk hk:Nat) (fk:List Fr),kk<=2*n/\2*n - kk<=gg/\s23= .int .i64 kk/\hk<max n 1/\Hid (fk.length=n)/\Hid (Box wr W4.heap.size [.slice av n cv,.int .i64 (hk:Int)])/\Hid (zh W1.heap.size wr (.slice av n cv) fk)/\Hid (Below W1.heap.size W5 wr)/\Hid (Jc (2*n - kk) fk hk=R))
 case atStart=>exact⟨0,i0,fs,nZ _,by omega,rfl,by omega,HN.out,XO.out.box,OW5.out,bR _ _,HRR.out⟩
 obtain⟨kk,hk,fk,hkk,hg,rfl,hhk,HL,BO,OF,BL,A⟩:=hrel;have hx2:=HX2.out;have hww:=HWW.out;have X2r:Hid (Box wr (w.heap.size+1) [.slice none 0 0,.int .i64 0]):=X25.out.below BL.out hx2;have GW:Hid (zc w wr):=show zc w wr from Below.trans G5.out (BL.out.mono hww)
 by_cases hlt:kk<2*n
 ·have hltz:(kk:Int)<2*(n:Int):=by omega
  obtain⟨g,cg,hs⟩:=OF.out.formS (by rw[HL.out];omega)
  rw[HL.out]at hs;cases hs;obtain⟨q,HQ⟩:∃q,Hid (fk[hk]? =some q):=⟨_,gE (by rw[HL.out];omega)⟩
  have hgl:=OF.out.lt g rfl;have HNE:Hid (W4.heap.size≠g):=(OW5.out.ne XO.out (by decide) g rfl)
  have hpass:=ziC W4.heap.size g n cv hk W1.heap.size W1.heap.size fk q wr HL.out h40 HQ.out BO.out OF.out HNE.out g34.out hgl.1;have hgd:fk.getD hk fr0=q:=by rw[gD,HQ.out];rfl
  have HST:Hid (Jc (2*n - kk) fk hk=if zjx q then(fk.set hk (frU q),(hk+1) % n,(hk:Int))else Jc (2*n -(kk+1)) (fk.set hk (frU q)) ((hk+1) % n)):=show _=_ by
   rw[show 2*n - kk=(2*n -(kk+1))+1 by omega,Jc,hgd,HL.out]
  clear hgd
  cases hi:zjx q with
  | true=>
   rw[hi]at hpass;have HF:Hid (R=(fk.set hk (frU q),(hk+1) % n,(hk:Int))):=show _=_ by rw[<-A.out,HST.out,hi,if_pos rfl]
   clear hi HST A
   go_wp2_with (go_at_call 167;refine hpass.mono ?_;rintro e W6 ⟨rfl,b6,o6,l6⟩;have r0:=(X2r.out.below l6 hx2).c 0 rfl;have r1:=(X2r.out.below l6 hx2).c 1 rfl;have rf:=(X2r.out.below l6 hx2).f;have o0:=b6.c 0 rfl;have o1:=b6.c 1 rfl;have O6:Hid (zh W1.heap.size W6 (.slice (some ⟨g,0,none⟩) n cv) (fk.set hk (frU q))):=o6;have GW6:Hid (zc w W6):=show zc w W6 from Below.trans GW.out (l6.mono hww);clear o6 l6)
   refine bodyPost_ret (v:= .tuple #[.agg #[.slice (some ⟨g,0,none⟩) n cv,.int .i64 (((hk+1) % n:Nat):Int)],.int .i64 (hk:Int),.int .i64 0]) (by simp[results,Tryz.results121,go_sem, *]) rfl ⟨.slice (some ⟨g,0,none⟩) n cv,?_,?_,?_⟩
   ·rw[HF.out]
   ·rw[HF.out];exact((O6.out.setCell (a:=⟨w.heap.size+1,0,none⟩) (by show w.heap.size+1<_;omega) _).setCell (a:=⟨w.heap.size+1,1,none⟩) (by show w.heap.size+1<_;omega) _).base hww
   exact zD (zD GW6.out (by simp) _) (by simp) _
  | false=>
   rw[hi]at hpass;have HA:Hid (Jc (2*n -(kk+1)) (fk.set hk (frU q)) ((hk+1) % n)=R):=show _=_ by rw[<-A.out,HST.out,hi];rfl
   clear hi HST A
   go_wp2_with (go_at_call 167;refine hpass.mono ?_;rintro e W6 ⟨rfl,b6,o6,l6⟩;have B6:Hid (Box W6 W4.heap.size [.slice (some ⟨g,0,none⟩) n cv,.int .i64 (((hk+1) % n:Nat):Int)]):=b6;have O6:Hid (zh W1.heap.size W6 (.slice (some ⟨g,0,none⟩) n cv) (fk.set hk (frU q))):=o6;have L6:Hid (Below W1.heap.size W5 W6):=Below.trans BL.out l6;clear b6 o6 l6)
   go_roundg (2*n -(kk+1))
   case measure=>omega
   exact⟨kk+1,(hk+1) % n,fk.set hk (frU q),by omega,by omega,by go_num,(by have:=Nat.mod_lt (hk+1) (show 0<n by omega);omega),(show(fk.set hk (frU q)).length=n by rw[List.length_set];exact HL.out),B6.out,O6.out,L6.out,HA.out⟩
 have hltz:¬(kk:Int)<2*(n:Int):=by omega
 have:kk=2*n:=by omega
 subst this;have HF:Hid (R=(fk,hk,-1)):=show _=_ by rw[<-A.out,Nat.sub_self];rfl
 have r0:=X2r.out.c 0 rfl;have r1:=X2r.out.c 1 rfl;have rf:=X2r.out.f;have o0:=BO.out.c 0 rfl;have o1:=BO.out.c 1 rfl;clear A;go_wp2;refine bodyPost_ret (v:= .tuple #[.agg #[.slice av n cv,.int .i64 (hk:Int)],.int .i64 (-1),.int .i64 0]) (by simp[results,Tryz.results121,go_sem, *]) rfl ⟨.slice av n cv,?_,?_,?_⟩
 ·rw[HF.out]
 ·rw[HF.out];exact((OF.out.setCell (a:=⟨w.heap.size+1,0,none⟩) (by show w.heap.size+1<_;omega) _).setCell (a:=⟨w.heap.size+1,1,none⟩) (by show w.heap.size+1<_;omega) _).base hww
 exact zD (zD GW.out (by simp) _) (by simp) _
theorem zhm (a:Option Addr) (c:Nat) (fs:List Fr) (h:Int) (w:World) (hv:zY w (.slice a fs.length c) fs):
  Calls Tryz.prog 121 #[.agg #[.slice a fs.length c,.int .i64 h]] w fun e w'=>∃b,e= .returned (.tuple #[.agg #[b,.int .i64 (zgn fs h)],.int .i64 (zhn fs h),.int .i64 (Ze fs h)])/\zh w.heap.size w' b (zgo fs h)/\zc w w':=by
 unfold zgn zhn zgo ziK
 by_cases hz:Ze fs h=0
 ·rw[if_pos hz,if_pos hz,if_pos hz];obtain⟨i0,rfl⟩:=Int.eq_ofNat_of_zero_le (zdY hz).2.2.1;rw[tN,hz];exact zkA a c fs i0 w hv hz
 rw[if_neg hz,if_neg hz,if_neg hz];exact zkB a c fs h w hv _ rfl (by simpa using hz)
def ziL (m:Ma):Ma:={ m with fs:=zgo m.fs m.hand,hand:=zgn m.fs m.hand }
theorem zkI {w0 w:World} {p:Nat} {V:MaV} {m:Ma} (h:ChW w0 p w V m) (hz:Ze m.fs m.hand=0):
  Calls Tryz.prog 121 #[.agg #[.slice V.f.a V.f.n V.f.c,.int .i64 m.hand]] w fun e w'=>∃b:Sli,e= .returned (.tuple #[.agg #[.slice b.a b.n b.c,.int .i64 (zgn m.fs m.hand)],.int .i64 (zhn m.fs m.hand),.int .i64 0])/\zb Jx w.heap.size w' (.slice b.a b.n b.c) (zgo m.fs m.hand)/\zc w w':=by
 obtain⟨n1,-⟩:=h.at.ns;have k:=h.at.fs;rw[n1]at k⊢;refine(zhm V.f.a V.f.c m.fs m.hand w k).mono ?_;rintro e w' ⟨b,rfl,nr,g⟩;have nr':zb Jx w.heap.size w' b (zgo m.fs m.hand):=nr;obtain⟨a,c,rfl⟩:=nr'.form;rw[hz];exact⟨⟨a,_,c⟩,rfl,nr,g⟩
theorem zfk {w0 w:World} {p:Nat} {V:MaV} {m:Ma} (h:ChW w0 p w V m) (hz:Ze m.fs m.hand=0) (hi:zhn m.fs m.hand=-1) (hl:0<m.fs.length) (hl2:m.fs.length<=40) (mv:Value):
  Calls Tryz.prog 78 #[.pointer (some ⟨p,0,none⟩),mv] w fun e w'=>e= .returned (.bool false)/\Chg w0 p w V (ziL m) w':=by
 have HM:Hid (ChW w0 p w V m):=h;obtain⟨n1,-⟩:=h.at.ns;have hn:0<V.f.n:=by omega
 have hn2:V.f.n<=40:=by omega
 have x0:=h.box.box.c 0 rfl;have x1:=h.box.box.c 1 rfl;have hnx:=zkI h hz;rw[hi]at hnx;clear h hz hi hl hl2 n1;obtain⟨fn,HFN⟩:∃fn,Hid (V.f.n=fn):=⟨_,rfl⟩;rw[HFN.out]at x0 hn hn2 hnx;have hnz:(0:Int)<2*(fn:Int):=by omega
 go_enter Tryz.func78,Tryz.ntmps78
 go_wp2
 go_loopg [14] 1 (fun gg s14 wr=>s14= .int .i64 0/\0<gg/\wr=w)
 case atStart=>exact⟨rfl,by omega,rfl⟩
 obtain⟨rfl,hgg,rfl⟩:=hrel;go_wp2_with fail;refine hnx.mono ?_;clear hnx x0 x1;rintro e W1 ⟨b,rfl,nr,g1⟩;have B1:=dD (HM.out.box.grew g1);have HNR:Hid (zb Jx wr.heap.size W1 (.slice b.a b.n b.c) (zgo m.fs m.hand)):=nr;have G1:Hid (zc wr W1):=g1;clear nr g1
 go_upto_region 5 with(refine zbm rfl 28 (.tmp 29) (.tmp 24) rfl p 0 rfl (.agg #[.slice b.a b.n b.c,.int .i64 (zgn m.fs m.hand)]) rfl [.slice b.a b.n b.c,.int .i64 (zgn m.fs m.hand)] rfl B1.out (by simp[chL]) (by kernel_rfl) (by simp[Value.oneCell']) ?_)
 intro W2 bx gr2 _;have M2:Hid (Chg w0 p wr V (ziL m) W2):=show Chg _ _ _ _ _ _ from HM.out.setF G1.out HNR.out gr2 bx
 clear bx gr2;try simp only[Act.put]
 go_wp2;go_ret;exact⟨rfl,M2.out⟩
def zkP (B:Nat) (V:MaV):Prop:=(jh B V.f.v/\jh B V.s.v/\jh B V.sb.v/\jh B V.sq.v)/\(jh B V.db.v/\jh B V.dq.v/\jh B V.fl.v/\jh B V.ca.v/\jh B V.sp.v)
theorem jh.less {a b:Nat} {v:Value} (h:jh b v) (k:a<=b):jh a v:=fun x n c e=>nT k (h x n c e)
theorem ziP (cf cs cb:Int) (hfew:zjA cf cs cb) (w:World):
  Calls Tryz.prog 81 #[.agg #[.int .i64 cf,.int .i64 cs,.int .i64 cb]] w fun e w'=>(∃V:MaV,e= .returned (.tuple #[.agg #[.slice V.f.a V.f.n V.f.c,.int .i64 0,.slice V.s.a V.s.n V.s.c,.slice V.sb.a V.sb.n V.sb.c,.slice V.sq.a V.sq.n V.sq.c,.slice V.db.a V.db.n V.db.c,.slice V.dq.a V.dq.n V.dq.c,.slice V.fl.a V.fl.n V.fl.c,.int .i64 cb,.slice V.ca.a V.ca.n V.ca.c,.slice V.sp.a V.sp.n V.sp.c],.int .i64 0])/\zC w' V (zaC cf cs cb)/\zkP w.heap.size V/\∃ps,V.sp=⟨some ⟨ps,0,none⟩,1,1⟩)/\zc w w':=by
 obtain⟨W0,hW0⟩:∃W0,(w.alloc (.cells #[.int .i64 cf,.int .i64 cs,.int .i64 cb] 23)).alloc (.cells #[.slice none 0 0,.int .i64 0,.slice none 0 0,.slice none 0 0,.slice none 0 0,.slice none 0 0,.slice none 0 0,.slice none 0 0,.int .i64 0,.slice none 0 0,.slice none 0 0] 41)=W0:=⟨_,rfl⟩;have HG0:=gD2 hW0
 have X0:=x2a hW0
 have Y0:=x2b hW0
 have HW0:Hid (_=W0):=hW0;clear hW0;obtain⟨e1,HE1⟩:∃e,Hid (zgt cf=e):=⟨_,rfl⟩;obtain⟨e2,HE2⟩:∃e,Hid (zgp cs=e):=⟨_,rfl⟩;obtain⟨e3,HE3⟩:∃e,Hid (ZT cs=e):=⟨_,rfl⟩;obtain⟨e4,HE4⟩:∃e,Hid (ZT cb=e):=⟨_,rfl⟩;obtain⟨e5,HE5⟩:∃e:Int,Hid ((if 0<=cb/\cb<=80 then(0:Int)else 4)=e):=⟨_,rfl⟩;obtain⟨z5,HZ5⟩:∃e:Int,Hid ((if 0<=cb/\cb<=80 then cb else 0)=e):=⟨_,rfl⟩;have h1:=fun W=>zgs cf W
 have h2:=fun W=>ziO cs W
 have h3:=fun W=>zdX cs W
 have h4:=fun W=>zdX cb W
 have h5:=fun W=>zho cb W
 rw[HE1.out]at h1;rw[HE2.out]at h2;rw[HE3.out]at h3;rw[HE4.out]at h4;rw[HE5.out,HZ5.out]at h5;have HES:Hid (ziQ cf cs cb=[e1,e2,e3,e4,e5]):=show _=_ by unfold ziQ;rw[HE1.out,HE2.out,HE3.out,HE4.out,HE5.out]
 have H1:Hid (∀W,_):=h1;have H2:Hid (∀W,_):=h2;have H3:Hid (∀W,_):=h3;have H4:Hid (∀W,_):=h4;have H5:Hid (∀W,_):=h5;clear h1 h2 h3 h4 h5
 go_enter Tryz.func81,Tryz.ntmps81
 go_upto_region 1 with fail;rw[HW0.out];have x0:=X0.out.c 0 rfl;go_wp2_with fail;refine(H1.out _).mono ?_;rintro e W1 ⟨mf,rfl,⟨r1,f1⟩,g1⟩;clear x0;have R1:Hid (zo Jx W1 (.slice mf.a mf.n mf.c) (zhq cf)):=r1;have HG1:Hid (zc W0 W1):=g1;have FR1:Hid (jh W0.heap.size (.slice mf.a mf.n mf.c)):=f1;clear r1 g1 f1;go_upto_region 2 with fail;obtain⟨W2,hW2⟩:∃W2,W1.alloc (.cells #[.slice mf.a mf.n mf.c,.int .i64 0] 28)=W2:=⟨_,rfl⟩;have HG2:=gA hW2
 have B2:=xA hW2
 rw[hW2];clear hW2;obtain⟨p2,HP2⟩:∃p,Hid (W1.heap.size=p):=⟨_,rfl⟩;rw[HP2.out]at B2⊢;have x1:=(X0.out.grew (HG1.out.trans HG2.out)).c 1 rfl;go_wp2_with fail;refine(H2.out _).mono ?_;rintro e W3 ⟨ms,rfl,⟨r3,f3⟩,g3⟩;clear x1;have R3:Hid (zo slE W3 (.slice ms.a ms.n ms.c) (zhp cs)):=r3;have HG3:Hid (zc W2 W3):=g3;have HG03:=dD ((HG1.out.trans HG2.out).trans g3);have FR3:Hid (jh W2.heap.size (.slice ms.a ms.n ms.c)):=f3;clear r3 g3 f3;have x1:=(X0.out.grew HG03.out).c 1 rfl;go_upto_region 3 with fail;go_wp2_with fail;refine(H3.out _).mono ?_;rintro e W4 ⟨mb,mq,rfl,⟨r4,r5,f4,f5⟩,g4⟩;clear x1;have R4:Hid (qt W4 (.slice mb.a mb.n mb.c) (zex cs)):=r4;have R5:Hid (qK W4 (.slice mq.a mq.n mq.c) []):=r5;have HG4:Hid (zc W3 W4):=g4;have FR4:Hid (jh W3.heap.size (.slice mb.a mb.n mb.c)):=f4;have FR5:Hid (jh W3.heap.size (.slice mq.a mq.n mq.c)):=f5;clear r4 r5 g4 f4 f5;go_upto_region 4 with fail;obtain⟨W5,hW5⟩:∃W5,W4.alloc (.cells #[.slice mb.a mb.n mb.c,.slice mq.a mq.n mq.c] 34)=W5:=⟨_,rfl⟩;have HG5:=gA hW5
 have B5:=xA hW5
 rw[hW5];clear hW5;obtain⟨p5,HP5⟩:∃p,Hid (W4.heap.size=p):=⟨_,rfl⟩;rw[HP5.out]at B5⊢;have HG05:=dD ((HG03.out.trans HG4.out).trans HG5.out);have x2:=(X0.out.grew HG05.out).c 2 rfl;go_wp2_with fail;refine(H4.out _).mono ?_;rintro e W6 ⟨md,me,rfl,⟨r6,r7,f6,f7⟩,g6⟩;clear x2;have R6:Hid (qt W6 (.slice md.a md.n md.c) (zex cb)):=r6;have R7:Hid (qK W6 (.slice me.a me.n me.c) []):=r7;have HG6:Hid (zc W5 W6):=g6;have FR6:Hid (jh W5.heap.size (.slice md.a md.n md.c)):=f6;have FR7:Hid (jh W5.heap.size (.slice me.a me.n me.c)):=f7;clear r6 r7 g6 f6 f7;go_upto_region 5 with fail;obtain⟨W7,hW7⟩:∃W7,W6.alloc (.cells #[.slice md.a md.n md.c,.slice me.a me.n me.c] 34)=W7:=⟨_,rfl⟩;have HG7:=gA hW7
 have B7:=xA hW7
 rw[hW7];clear hW7;obtain⟨p7,HP7⟩:∃p,Hid (W6.heap.size=p):=⟨_,rfl⟩;rw[HP7.out]at B7⊢;have HG07:=dD ((HG05.out.trans HG6.out).trans HG7.out);have x2:=(X0.out.grew HG07.out).c 2 rfl;go_wp2_with fail;refine(H5.out _).mono ?_;rintro e W8 ⟨rfl,g8⟩;clear x2;have HG8:Hid (zc W7 W8):=g8;clear g8;go_upto_region 6 with fail;obtain⟨W9,hW9⟩:∃W9,W8.alloc (.cells #[.slice none 0 0,.int .i64 z5] 37)=W9:=⟨_,rfl⟩;have HG9:=gA hW9
 have B9:=xA hW9
 rw[hW9];clear hW9;obtain⟨p9,HP9⟩:∃p,Hid (W8.heap.size=p):=⟨_,rfl⟩;rw[HP9.out]at B9⊢;obtain⟨E,HE⟩:∃E,Hid (ze [e1,e2,e3,e4,e5]=E):=⟨_,rfl⟩;have hor:=zbw (.slice (some ⟨W9.heap.size,0,none⟩) 5 5) [e1,e2,e3,e4,e5] _ (zeR zg1 W9 [e1,e2,e3,e4,e5] #[.int .i64 e1,.int .i64 e2,.int .i64 e3,.int .i64 e4,.int .i64 e5] rfl (show 5*8<=140737488355328 by decide))
 rw[HE.out]at hor;go_wp2_with fail;refine hor.mono ?_;rintro e W10 ⟨rfl,hw10⟩;clear hor;have HG10:Hid (zc W9 W10):=show zc _ _ by rw[hw10];exact za _ _
 clear hw10;have HGW:=dD (((HG07.out.trans HG8.out).trans HG9.out).trans HG10.out);have Y10:=dD (Y0.out.grew HGW.out);have hE0:E=0:=by rw[<-HE.out,<-HES.out];exact zhr hfew
 subst hE0;have b20:=(B2.out.grew ((((((HG3.out.trans HG4.out).trans HG5.out).trans HG6.out).trans HG7.out).trans HG8.out).trans (HG9.out.trans HG10.out))).c 0 rfl;have b21:=(B2.out.grew ((((((HG3.out.trans HG4.out).trans HG5.out).trans HG6.out).trans HG7.out).trans HG8.out).trans (HG9.out.trans HG10.out))).c 1 rfl;have b50:=(B5.out.grew (((HG6.out.trans HG7.out).trans HG8.out).trans (HG9.out.trans HG10.out))).c 0 rfl;have b51:=(B5.out.grew (((HG6.out.trans HG7.out).trans HG8.out).trans (HG9.out.trans HG10.out))).c 1 rfl;have b70:=(B7.out.grew ((HG8.out).trans (HG9.out.trans HG10.out))).c 0 rfl;have b71:=(B7.out.grew ((HG8.out).trans (HG9.out.trans HG10.out))).c 1 rfl;have b90:=(B9.out.grew HG10.out).c 0 rfl;have b91:=(B9.out.grew HG10.out).c 1 rfl;have HFEW:Hid (zjA cf cs cb):=hfew;clear hfew;go_upto_region 9 with fail;obtain⟨W11,hW11⟩:∃W11,W10.alloc (.cells #[.bool true,.slice none 0 0,.slice none 0 0,.slice none 0 0,.slice none 0 0,.slice none 0 0,.slice none 0 0,.slice none 0 0,.slice none 0 0,.slice none 0 0] 55)=W11:=⟨_,rfl⟩;have HG11:=gA hW11
 have S11:Hid (zo Zl W11 (.slice (some ⟨W10.heap.size,0,none⟩) 1 1) [⟨true,zw,zw,zw,zw,zw,zw,zw,zw,zw⟩]):=show zo _ _ _ _ by rw[<-hW11];exact jT Zl W10 ⟨true,zw,zw,zw,zw,zw,zw,zw,zw,zw⟩ _ _ rfl (by decide)
 have Y11:=dD (Y10.out.grew HG11.out);have HW11:Hid (_=W11):=hW11;clear hW11;obtain⟨ps,HPS⟩:∃p,Hid (W10.heap.size=p):=⟨_,rfl⟩
 go_wp2_with (first | (rw[HW11.out];rw[HPS.out];refine zQ rfl 41 (.tmp 2) (.tmp 63) rfl (w.heap.size+1) rfl [.slice mf.a mf.n mf.c,.int .i64 0,.slice ms.a ms.n ms.c,.slice mb.a mb.n mb.c,.slice mq.a mq.n mq.c,.slice md.a md.n md.c,.slice me.a me.n me.c,.slice none 0 0,.int .i64 z5,.slice none 0 0,.slice (some ⟨ps,0,none⟩) 1 1] rfl Y11.out rfl (by kernel_rfl) (fun v hv=>by
   simp only[mC,nM,or_false]at hv
   rcases hv with rfl | rfl | rfl | rfl | rfl | rfl | rfl | rfl | rfl | rfl | rfl <;> rfl) ?_))
 intro W12 hb12 hg12 _;clear b20 b21 b50 b51 b70 b71 b90 b91;have HG12:Hid (zc w W12):=show zc _ _ from zg ((HG0.out.trans HGW.out).trans HG11.out) hg12 (by omega)
 have HS0:w.heap.size+1<W0.heap.size:=Y0.out.lt;have k1:=bS HG1.out;have k2:=bS HG2.out;have k3:=bS HG3.out;have k4:=bS HG4.out;have k5:=bS HG5.out;have kw:=bS HGW.out;have far:∀{b:Nat} {v:Value},W0.heap.size<=b->jh b v->∀x n c,v= .slice (some x) n c->some x.block≠some (w.heap.size+1):=fun hb hf x n c hv e=>by
  have:=hf x n c hv;simp only[Option.some.injEq]at e;omega
 have t1:zc W1 W11:=((((((HG2.out.trans HG3.out).trans HG4.out).trans HG5.out).trans HG6.out).trans HG7.out).trans HG8.out).trans ((HG9.out.trans HG10.out).trans HG11.out);have t3:zc W3 W11:=((((HG4.out.trans HG5.out).trans HG6.out).trans HG7.out).trans HG8.out).trans ((HG9.out.trans HG10.out).trans HG11.out);have t4:zc W4 W11:=(((HG5.out.trans HG6.out).trans HG7.out).trans HG8.out).trans ((HG9.out.trans HG10.out).trans HG11.out);have t6:zc W6 W11:=(HG7.out.trans HG8.out).trans ((HG9.out.trans HG10.out).trans HG11.out);have HMA:Hid (zC W12 ⟨mf,ms,mb,mq,md,me,zw,zw,⟨some ⟨ps,0,none⟩,1,1⟩⟩ (zaC cf cs cb)):=show zC _ _ _ by
  obtain⟨hf1,hf2,hf3⟩:=HFEW.out;refine⟨?_,?_,?_,?_,?_,?_,?_,zo.nil qY W12,?_⟩
  ·have h:=(R1.out.grew t1).beside hg12 (far (nR _) FR1.out);unfold zhq at h;rw[if_pos hf1]at h;exact h
  ·have h:=(R3.out.grew t3).beside hg12 (far (by omega) FR3.out)
   unfold zhp at h;rw[if_pos hf2]at h;exact h
  ·have h:qt W12 (.slice mb.a mb.n mb.c) (zex cs):=⟨(R4.out.grew t4).1.beside hg12 (far (by omega) FR4.out),R4.out.2⟩
   unfold zex at h;rw[if_pos (by omega)]at h
   exact h
  ·exact⟨(R5.out.grew t4).1.beside hg12 (far (by omega) FR5.out),R5.out.2⟩
  ·have h:qt W12 (.slice md.a md.n md.c) (zex cb):=⟨(R6.out.grew t6).1.beside hg12 (far (by omega) FR6.out),R6.out.2⟩
   unfold zex at h;rw[if_pos hf3]at h;exact h
  ·exact⟨(R7.out.grew t6).1.beside hg12 (far (by omega) FR7.out),R7.out.2⟩
  ·exact⟨nR _,[],fun w' _=>zo.nil fvE w',rfl,fun i x f hx=>by simp at hx⟩
  have hs:=S11.out;rw[HPS.out]at hs;refine⟨_,hs.beside hg12 (fun x n c hx e=>?_),rfl,fun i x s hx hs=>?_⟩
  ·cases hx;simp only[Option.some.injEq]at e;have:=HPS.out;omega
  cases i with
  | zero=>
   cases hx;cases hs;exact⟨rfl,zo.nil arE W12,nR _,Jq.nil 0 0 W12⟩
  | succ i=>simp at hx
 have HNV:Hid (zkP w.heap.size ⟨mf,ms,mb,mq,md,me,zw,zw,⟨some ⟨ps,0,none⟩,1,1⟩⟩):=show zkP _ _ from by
  refine⟨⟨FR1.out.less (by omega),FR3.out.less (by omega),FR4.out.less (by omega),FR5.out.less (by omega)⟩,FR6.out.less (by omega),FR7.out.less (by omega),jJ _,jJ _,fun x n c e=>?_⟩
  cases e;have:=HPS.out
  show w.heap.size<=ps
  omega
 have hz5:z5=cb:=by rw[<-HZ5.out,if_pos HFEW.out.2.2]
 subst hz5;clear t1 t3 t4 t6 far k1 k2 k3 k4 k5 kw HS0;go_wp2;refine bodyPost_ret (ZO rfl _ rfl hb12 Tryz.underlying41 rfl (by kernel_rfl)) rfl ⟨⟨⟨mf,ms,mb,mq,md,me,zw,zw,⟨some ⟨ps,0,none⟩,1,1⟩⟩,rfl,HMA.out,HNV.out,ps,rfl⟩,HG12.out⟩
end
section
structure Rt (m:Ma):Prop where
 w:maW m=0
 t8:∀s∈m.sp,s.tb.length=8
theorem Rt.inv {m:Ma} (h:Rt m):qO m (zdl m):=(zhe h.w).1
theorem Rt.of {m:Ma} (hb:qO m (zdl m)) (ht:∀s∈m.sp,zkg s.tb) (h0:0<=m.hand) (h1:m.hand<max (m.fs.length:Int) 1):Rt m:=by
 refine⟨?_,fun s hs=>(ht s hs).1⟩
 have:=hb.right h0 h1;rw[zjh ht]at this;exact this
def zfg (fs:List Fr):Nat:=fs.countP fun f=>decide (f.r=0)
theorem ze1:zkg qx:=⟨rfl,fun h hh=>by
 have:=List.eq_of_mem_replicate (show h∈List.replicate 8 []from hh)
 subst this;exact .inl rfl⟩
theorem zkw {n:Nat} {qs:List (Int × List Int)} (h:zy n qs=0) {q:Int × List Int} (hq:q∈qs):0<=q.1/\q.1< (n:Int):=by
 unfold zy at h
 split at h
 ·cases h
 split at h
 ·cases h
 split at h
 ·cases h
 rename_i a
 refine Classical.byContradiction fun hne=>a (List.any_eq_true.2 ⟨q,hq,?_⟩)
 simp only[jx,Bool.not_eq_true',Bool.and_eq_false_iff,decide_eq_false_iff_not];omega
def Qq (m:Ma) (db':List (List Int)):Ma:=⟨List.replicate m.fs.length frF,0,List.replicate m.sl.length 0,List.replicate m.sl.length zz,[],db',[],m.fl,m.cnt,[],[⟨true,[],qx⟩]⟩
theorem zfl {m:Ma} (h:Rt m) {db':List (List Int)} (hl:db'.length=m.db.length) (hd:∀i:Nat,db'[i]? =m.db[i]?\/∃q∈m.dq,q.1.toNat=i):Rt (Qq m db'):=by
 have hb:=h.inv;have hf:zcD m.fl m.cnt db' [] []:=by
  obtain⟨a1,a2,a3⟩:=(jp _ _).1 hb.st;refine⟨hb.st,by rw[hl];exact hb.cnt,nZ _,fun b hb=>(by cases hb),by rw[List.append_nil];exact a3,fun b h1 h2 _=>?_,fun q hq=>(by cases hq)⟩
  rcases hd b with e | ⟨q,q1,q2⟩
  ·rw[e];exact hb.blk b (by omega) h2
  have h3:=zkw hb.dok q1;have h4:=hb.que q q1;rw[show q.1=(b:Int) by omega,h2]at h4
  cases h4
 have hs:=hf.start hb.fs40 hb.sl60 0;have hm:=hs.more (s':=⟨true,[],qx⟩) (by simp) (by rfl) (fun e=>by cases e)
 have hT:zdl (Qq m db')=[fun _=>en0]:=by
  unfold zdl Qq;simp only[mP,List.map_nil,List.cons.injEq,and_true]
  funext n
  unfold zJ za0;simp only;have h8:qx[n / 8]?.getD []=([]:List En):=by
   cases e:qx[n / 8]? with
   | none=>rfl
   | some x=>
    exact(List.mem_replicate.1 (show x∈List.replicate 8 []from mG e)).2
  rw[h8];rfl
 refine Rt.of ?_ (fun s hs=>?_) (Int.le_refl 0) (by show(0:Int)<max _ 1;omega)
 ·rw[hT];exact hm
 rw[List.mem_singleton.1 hs];exact ze1
theorem zgL (m:Ma) (db':List (List Int)):zfg (Qq m db').fs=m.fs.length:=by
 show zfg (List.replicate m.fs.length frF)=_
 unfold zfg;rw[List.countP_replicate];rfl
end
section
open Go.RowKit
theorem ji.staysD {α:Type} {enc:α->List Value} {base:Nat} {w W:World} {v:Value} {l:List α} (h:ji enc w v l) (hf:jh base v) {D:Nat->Prop} (hd:∀k,D k->k<base) (k:QX D w W):ji enc W v l:=by
 obtain⟨a,c,h1,h2,h3⟩:=h;refine⟨a,c,h1,h2,fun x hx j u hj=>?_⟩
 subst hx;have hc:=h3 x rfl j u hj;have hl:=World.block_lt_of_cell? _ _ hc;have hf:=hf x _ _ h1;rw[World.cell?_of_block (w:=w) (k.block _ hl (fun e=>by have:=hd _ e;rw[Jp]at this;omega))]
 exact hc
theorem qM.staysD {base:Nat} {w W:World} {v:Value} {ps:List (List Int)} {qs:List (Int × List Int)} (h:qM base w v ps qs) {D:Nat->Prop} (hd:∀k,D k->k<base) (k:QX D w W):qM base W v ps qs:=by
 obtain⟨b,q,h1,h2,h3,h4,h5⟩:=h;exact⟨b,q,h1,⟨h2.1.staysD h4 hd k,h2.2⟩,⟨h3.1.staysD h5 hd k,h3.2⟩,h4,h5⟩
theorem qM.form {base:Nat} {w:World} {v:Value} {ps:List (List Int)} {qs:List (Int × List Int)} (h:qM base w v ps qs):∃d q:Sli,v= .agg #[.slice d.a d.n d.c,.slice q.a q.n q.c]/\jh base d.v/\jh base q.v:=by
 obtain⟨b,q,rfl,⟨⟨a,c,rfl,_⟩,_⟩,⟨⟨a',c',rfl,_⟩,_⟩,h4,h5⟩:=h;exact⟨⟨a,_,c⟩,⟨a',_,c'⟩,rfl,h4,h5⟩
theorem qM.rows {base:Nat} {w:World} {d q:Sli} {ps:List (List Int)} {qs:List (Int × List Int)} (h:qM base w (.agg #[.slice d.a d.n d.c,.slice q.a q.n q.c]) ps qs):qt w (.slice d.a d.n d.c) ps/\qK w (.slice q.a q.n q.c) qs:=by
 obtain⟨b,q,e,h2,h3,_⟩:=h;simp only[Value.agg.injEq,Array.mk.injEq,List.cons.injEq,and_true]at e;obtain⟨rfl,rfl⟩:=e;exact⟨h2,h3⟩
theorem zfK {α:Type} {E:Elt α} {w W:World} {v:Value} (h:zo E w v []):zo E W v []:=by
 obtain⟨⟨a,c,h1,h2,h3⟩,h4⟩:=h;exact⟨⟨a,c,h1,h2,fun x hx j u hj=>by simp at hj⟩,h4⟩
theorem zci (keep:Nat->Bool):∀(qs:List (Int × List Int)) (j:Nat) (ps:List (List Int)),(qn keep qs j ps).length=ps.length
 | [],_,_=>rfl
 | q :: qs,j,ps=>by
  unfold qn;rw[zci keep qs]
  split <;> simp
theorem zdE (keep:Nat->Bool):∀(qs:List (Int × List Int)) (j:Nat) (ps:List (List Int)) (i:Nat),(qn keep qs j ps)[i]? =ps[i]?\/∃q∈qs,q.1.toNat=i
 | [],_,_,_=> .inl rfl
 | q :: qs,j,ps,i=>by
  unfold qn
  rcases zdE keep qs (j+1) (if keep j then ps.set q.1.toNat q.2 else ps) i with h | ⟨x,h1,h2⟩
  ·by_cases e:q.1.toNat=i
   ·exact .inr ⟨q,by simp,e⟩
   left;rw[h]
   split
   ·exact sN e
   rfl
  exact .inr ⟨x,by simp[h1],h2⟩
theorem zgx {m:Ma} (h:Rt m) (keep:Nat->Bool):Rt (Qq m (Qd keep m.db m.dq)):=by
 have e:Qd keep m.db m.dq=qn keep m.dq 0 m.db:=if_pos h.inv.dok;rw[e];exact zfl h (zci _ _ _ _) (zdE _ _ _ _)
theorem zcv (V:MaV) (m:Ma) (bs:Int) (w:World) (hm:zC w V m) (h:Rt m):
  Calls Tryz.prog 39 #[.agg #[.slice V.f.a V.f.n V.f.c,.int .i64 m.hand,.slice V.s.a V.s.n V.s.c,.slice V.sb.a V.sb.n V.sb.c,.slice V.sq.a V.sq.n V.sq.c,.slice V.db.a V.db.n V.db.c,.slice V.dq.a V.dq.n V.dq.c,.slice V.fl.a V.fl.n V.fl.c,.int .i64 m.cnt,.slice V.ca.a V.ca.n V.ca.c,.slice V.sp.a V.sp.n V.sp.c],.int .i64 bs] w fun e w'=>(∃V':MaV,e= .returned (.tuple #[.agg #[.slice V'.f.a V'.f.n V'.f.c,.int .i64 0,.slice V'.s.a V'.s.n V'.s.c,.slice V'.sb.a V'.sb.n V'.sb.c,.slice V'.sq.a V'.sq.n V'.sq.c,.slice V'.db.a V'.db.n V'.db.c,.slice V'.dq.a V'.dq.n V'.dq.c,.slice V'.fl.a V'.fl.n V'.fl.c,.int .i64 m.cnt,.slice V'.ca.a V'.ca.n V'.ca.c,.slice V'.sp.a V'.sp.n V'.sp.c],.int .i64 0])/\zC w' V' (Qq m (Qd (jD bs) m.db m.dq))/\∃ps,V'.sp=⟨some ⟨ps,0,none⟩,1,1⟩)/\zc w w':=by
 obtain⟨W1,hW1⟩:∃W1,(w.alloc (.cells #[.slice V.f.a V.f.n V.f.c,.int .i64 m.hand,.slice V.s.a V.s.n V.s.c,.slice V.sb.a V.sb.n V.sb.c,.slice V.sq.a V.sq.n V.sq.c,.slice V.db.a V.db.n V.db.c,.slice V.dq.a V.dq.n V.dq.c,.slice V.fl.a V.fl.n V.fl.c,.int .i64 m.cnt,.slice V.ca.a V.ca.n V.ca.c,.slice V.sp.a V.sp.n V.sp.c] 41)).alloc (.cells #[.slice none 0 0,.int .i64 0,.slice none 0 0,.slice none 0 0,.slice none 0 0,.slice none 0 0,.slice none 0 0,.slice none 0 0,.int .i64 0,.slice none 0 0,.slice none 0 0] 41)=W1:=⟨_,rfl⟩;have G1:=gD2 hW1
 obtain⟨b,HB⟩:∃b,Hid (w.heap.size=b):=⟨_,rfl⟩;have X1:Hid (zp W1 b 41 [.slice V.f.a V.f.n V.f.c,.int .i64 m.hand,.slice V.s.a V.s.n V.s.c,.slice V.sb.a V.sb.n V.sb.c,.slice V.sq.a V.sq.n V.sq.c,.slice V.db.a V.db.n V.db.c,.slice V.dq.a V.dq.n V.dq.c,.slice V.fl.a V.fl.n V.fl.c,.int .i64 m.cnt,.slice V.ca.a V.ca.n V.ca.c,.slice V.sp.a V.sp.n V.sp.c]):=show zp _ _ _ _ by rw[<-hW1];exact(zp.top w [.slice V.f.a V.f.n V.f.c,.int .i64 m.hand,.slice V.s.a V.s.n V.s.c,.slice V.sb.a V.sb.n V.sb.c,.slice V.sq.a V.sq.n V.sq.c,.slice V.db.a V.db.n V.db.c,.slice V.dq.a V.dq.n V.dq.c,.slice V.fl.a V.fl.n V.fl.c,.int .i64 m.cnt,.slice V.ca.a V.ca.n V.ca.c,.slice V.sp.a V.sp.n V.sp.c] _ HB.out.symm).grew (za _ _)
 have Z1:Hid (zp W1 (b+1) 41 [.slice none 0 0,.int .i64 0,.slice none 0 0,.slice none 0 0,.slice none 0 0,.slice none 0 0,.slice none 0 0,.slice none 0 0,.int .i64 0,.slice none 0 0,.slice none 0 0]):=show zp _ _ _ _ by rw[<-hW1];exact zp.top _ [.slice none 0 0,.int .i64 0,.slice none 0 0,.slice none 0 0,.slice none 0 0,.slice none 0 0,.slice none 0 0,.slice none 0 0,.int .i64 0,.slice none 0 0,.slice none 0 0] _ (by have:=HB.out;simp;omega)
 have A1:Hid (zC W1 V m):=hm.grew G1.out;have HR:Hid (Rt m):=h;have HW1:Hid (_=W1):=hW1;obtain⟨n1,n2,-⟩:=hm.ns;have HFW:Hid (zjA (V.f.n:Int) (V.s.n:Int) m.cnt):=show zjA _ _ _ by
  have i:=h.inv;have h1:=i.fs40;have h2:=i.sl60;have h3:=((jp _ _).1 i.st).1;rw[n1,n2];exact⟨⟨by omega,by omega⟩,⟨by omega,by omega⟩,by omega⟩
 have HN1:Hid (V.f.n=m.fs.length):=n1;have HN2:Hid (V.s.n=m.sl.length):=n2;clear hW1 hm h n1 n2
 go_enter Tryz.func39,Tryz.ntmps39
 go_upto_region 1 with fail;rw[HW1.out,HB.out];have hwr:=Jr V m W1 A1.out;rw[HR.out.w]at hwr;obtain⟨x0,x1,x2,x3,x4,x5,x6,x7,x8,x9,x10⟩:=X1.out.box.c11;go_wp2_with fail;refine hwr.mono ?_;clear hwr x0 x1 x2 x3 x4 x5 x6 x7 x8 x9 x10;rintro e W2 ⟨rfl,g2⟩;have X2:=dD (X1.out.grew g2);have Z2:=dD (Z1.out.grew g2);have A2:=dD (A1.out.grew g2);have G2:=dD (G1.out.trans g2);clear g2 X1 Z1 A1 G1;have hnw:=ziP (V.f.n:Int) (V.s.n:Int) m.cnt HFW.out W2;have x0:=X2.out.box.c 0 rfl;have x2:=X2.out.box.c 2 rfl;have x8:=X2.out.box.c 8 rfl;go_wp2_with fail;refine hnw.mono ?_;clear hnw x0 x2 x8;rintro e W3 ⟨⟨U,rfl,hu,hnv,hps⟩,g3⟩;have HPS:Hid (∃ps,U.sp=⟨some ⟨ps,0,none⟩,1,1⟩):=hps;have HU3:Hid (zC W3 U (zaC (V.f.n:Int) (V.s.n:Int) m.cnt)):=hu;have HNV:Hid (zkP W2.heap.size U):=hnv;have G3:Hid (zc W2 W3):=g3;clear hu hnv g3 hps;go_upto_region 5 with fail;obtain⟨c,HC⟩:∃c,Hid (W3.heap.size=c):=⟨_,rfl⟩;obtain⟨W4,hW4⟩:∃W4,W3.alloc (.cells #[.slice U.f.a U.f.n U.f.c,.int .i64 0,.slice U.s.a U.s.n U.s.c,.slice U.sb.a U.sb.n U.sb.c,.slice U.sq.a U.sq.n U.sq.c,.slice U.db.a U.db.n U.db.c,.slice U.dq.a U.dq.n U.dq.c,.slice U.fl.a U.fl.n U.fl.c,.int .i64 m.cnt,.slice U.ca.a U.ca.n U.ca.c,.slice U.sp.a U.sp.n U.sp.c] 41)=W4:=⟨_,rfl⟩;have G4:=gA hW4
 have Y4:=xPT hW4 HC
 have X4:=dD (X2.out.grew (G3.out.trans G4.out));rw[hW4,HC.out];clear hW4 X2;have A4:=dD (A2.out.grew (G3.out.trans G4.out));have hcr:=zh1 (.agg #[.slice V.db.a V.db.n V.db.c,.slice V.dq.a V.dq.n V.dq.c]) m.db m.dq bs W4 ⟨_,_,rfl,A4.out.db,A4.out.dq⟩;have x5:=X4.out.box.c 5 rfl;have x6:=X4.out.box.c 6 rfl;go_wp2_with fail;refine hcr.mono ?_;clear hcr x5 x6;rintro e W5 ⟨dd,rfl,nd,g5⟩;obtain⟨d,q,rfl,fd,fq⟩:=nd.form;have D5:Hid (qM W4.heap.size W5 (.agg #[.slice d.a d.n d.c,.slice q.a q.n q.c]) (Qd (jD bs) m.db m.dq) []):=nd;have G5:Hid (zc W4 W5):=g5;have Y5:=dD (Y4.out.grew g5);clear nd g5 fd fq
 go_upto_region 6 with(refine zbm rfl 34 (.tmp 37) (.tmp 35) rfl c 5 rfl (.agg #[.slice d.a d.n d.c,.slice q.a q.n q.c]) rfl [.slice d.a d.n d.c,.slice q.a q.n q.c] rfl Y5.out (by simp) (by kernel_rfl) (by simp[Value.oneCell']) ?_)
 intro W6 bx6 gr6 _;have Y6:Hid (zp W6 c 41 [.slice U.f.a U.f.n U.f.c,.int .i64 0,.slice U.s.a U.s.n U.s.c,.slice U.sb.a U.sb.n U.sb.c,.slice U.sq.a U.sq.n U.sq.c,.slice d.a d.n d.c,.slice q.a q.n q.c,.slice U.fl.a U.fl.n U.fl.c,.int .i64 m.cnt,.slice U.ca.a U.ca.n U.ca.c,.slice U.sp.a U.sp.n U.sp.c]):=bx6;have HR6:Hid (W5.grownBy W6 (some c)):=gr6;have G36:Hid (zc W3 W6):=show zc _ _ from zg (G4.out.trans G5.out) gr6 (by have:=HC.out;omega)
 have X6:Hid (zp W6 b 41 [.slice V.f.a V.f.n V.f.c,.int .i64 m.hand,.slice V.s.a V.s.n V.s.c,.slice V.sb.a V.sb.n V.sb.c,.slice V.sq.a V.sq.n V.sq.c,.slice V.db.a V.db.n V.db.c,.slice V.dq.a V.dq.n V.dq.c,.slice V.fl.a V.fl.n V.fl.c,.int .i64 m.cnt,.slice V.ca.a V.ca.n V.ca.c,.slice V.sp.a V.sp.n V.sp.c]):=show zp _ _ _ _ from(X4.out.grew G5.out).beside gr6 (fun k e=>by cases e;have h1:=Z2.out.box.lt;have:=HC.out;have:=bS G3.out;omega)
 have A6:=dD ((A2.out.grew G3.out).grew G36.out);clear bx6 gr6 X4 Y5;try simp only[Act.put]
 have how:=zdT (.slice V.fl.a V.fl.n V.fl.c) m.fl m.cnt W6 A6.out.fl;have x7:=X6.out.box.c 7 rfl;have x8:=X6.out.box.c 8 rfl;go_wp2_with fail;refine how.mono ?_;clear how x7 x8;rintro e W7 ⟨fb,rfl,of,g7,_⟩;obtain⟨fa,fc,rfl,_⟩:=qN.rows of.new.now0;obtain⟨f,HF⟩:∃f:Sli,Hid (f=⟨fa,m.fl.length,fc⟩):=⟨_,rfl⟩;have hfe:Value.slice fa m.fl.length fc= .slice f.a f.n f.c:=by rw[HF.out]
 rw[hfe]at of⊢;have F7:Hid (QT 0 (W6.heap.size+2) W7 (.slice f.a f.n f.c) m.fl):=of.new;have G7:Hid (zc W6 W7):=g7;have Y7:=dD (Y6.out.grew g7);clear of g7 hfe Y6
 go_upto_region 7 with(refine zbm rfl 37 (.tmp 41) (.tmp 40) rfl c 7 rfl (.agg #[.slice f.a f.n f.c,.int .i64 m.cnt]) rfl [.slice f.a f.n f.c,.int .i64 m.cnt] rfl Y7.out (by simp) (by kernel_rfl) (by simp[Value.oneCell']) ?_)
 intro W8 bx8 gr8 _;have Y8:Hid (zp W8 c 41 [.slice U.f.a U.f.n U.f.c,.int .i64 0,.slice U.s.a U.s.n U.s.c,.slice U.sb.a U.sb.n U.sb.c,.slice U.sq.a U.sq.n U.sq.c,.slice d.a d.n d.c,.slice q.a q.n q.c,.slice f.a f.n f.c,.int .i64 m.cnt,.slice U.ca.a U.ca.n U.ca.c,.slice U.sp.a U.sp.n U.sp.c]):=bx8;have HR8:Hid (W7.grownBy W8 (some c)):=gr8;have G38:Hid (zc W3 W8):=show zc _ _ from zg (G36.out.trans G7.out) gr8 (by have:=HC.out;omega)
 have Z8:=dD ((Z2.out.grew G3.out).grew G38.out);clear bx8 gr8 Y7 X6;try simp only[Act.put]
 obtain⟨x0,x1,x2,x3,x4,x5,x6,x7,x8,x9,x10⟩:=Y8.out.box.c11
 go_wp2_with (refine qD rfl 41 (.tmp 4) (.tmp 42) rfl (b+1) rfl [.slice U.f.a U.f.n U.f.c,.int .i64 0,.slice U.s.a U.s.n U.s.c,.slice U.sb.a U.sb.n U.sb.c,.slice U.sq.a U.sq.n U.sq.c,.slice d.a d.n d.c,.slice q.a q.n q.c,.slice f.a f.n f.c,.int .i64 m.cnt,.slice U.ca.a U.ca.n U.ca.c,.slice U.sp.a U.sp.n U.sp.c] rfl Z8.out rfl (by kernel_rfl) (by simp[Value.oneCell']) ?_)
 clear x0 x1 x2 x3 x4 x5 x6 x7 x8 x9 x10;intro W9 bx9 gr9 _;have G9:Hid (zc w W9):=show zc _ _ from zg ((G2.out.trans G3.out).trans G38.out) gr9 (by have:=HB.out;omega)
 have B9:Hid (zp W9 (b+1) 41 [.slice U.f.a U.f.n U.f.c,.int .i64 0,.slice U.s.a U.s.n U.s.c,.slice U.sb.a U.sb.n U.sb.c,.slice U.sq.a U.sq.n U.sq.c,.slice d.a d.n d.c,.slice q.a q.n q.c,.slice f.a f.n f.c,.int .i64 m.cnt,.slice U.ca.a U.ca.n U.ca.c,.slice U.sp.a U.sp.n U.sp.c]):=bx9;have HMA:Hid (zC W9 ⟨U.f,U.s,U.sb,U.sq,d,q,f,U.ca,U.sp⟩ (Qq m (Qd (jD bs) m.db m.dq))):=show zC _ _ _ by
  have hb:b+1<W2.heap.size:=Z2.out.box.lt;have hs3:=bS G3.out;have hs4:=bS G4.out;have hs5:=bS G5.out;have hs6:=HR6.out.size;have hc:=HC.out;have hcl:c<W4.heap.size:=Y4.out.box.lt;have u8:=HU3.out.grew G38.out;have far:∀{v:Value},jh W2.heap.size v->∀x n c,v= .slice (some x) n c->some x.block≠some (b+1):=fun hf x n c hv e=>by
   have:=hf x n c hv;simp only[Option.some.injEq]at e;omega
  obtain⟨⟨a1,a2,a3,a4⟩,a5,a6,a7,a8,a9⟩:=HNV.out;have o59:QX (fun k=>k=c\/k=b+1) W5 W9:=(((QX.grown HR6.out (.inl rfl)).trans (QX.grew G7.out)).trans (QX.grown HR8.out (.inl rfl))).trans (QX.grown gr9 (.inr rfl))
  have dr:=(D5.out.staysD (fun k hk=>by rcases hk with rfl | rfl <;> omega) o59).rows
  have o79:Out 0 (W6.heap.size+2) W7 W9:=(Out.grown HR8.out (fun g e=>by cases e;omega)).trans (Out.grown gr9 (fun g e=>by cases e;omega))
  have hn1:=HN1.out;have hn2:=HN2.out;obtain⟨xs,r1,r2,r3⟩:=u8.sp;have e0:(zaC (V.f.n:Int) (V.s.n:Int) m.cnt).sp=[⟨true,[],qx⟩]:=rfl;refine⟨?_,?_,?_,?_,dr.1,dr.2,(F7.out.out o79).now0,u8.ca.beside gr9 (far a8),⟨xs,r1.beside gr9 (far a9),r2,fun i x s hx hs=>?_⟩⟩
  ·have:=u8.fs.beside gr9 (far a1);rw[show(zaC (V.f.n:Int) (V.s.n:Int) m.cnt).fs=List.replicate m.fs.length frF from by unfold zaC;simp only;rw[hn1,tN]]at this
   exact this
  ·have:=u8.sl.beside gr9 (far a2);rw[show(zaC (V.f.n:Int) (V.s.n:Int) m.cnt).sl=List.replicate m.sl.length 0 from by unfold zaC;simp only;rw[hn2,tN]]at this
   exact this
  ·have:qt W9 _ _:=⟨u8.sb.1.beside gr9 (far a3),u8.sb.2⟩;rw[show(zaC (V.f.n:Int) (V.s.n:Int) m.cnt).sb=List.replicate m.sl.length zz from by unfold zaC;simp only;rw[hn2,tN]]at this
   exact this
  ·exact⟨u8.sq.1.beside gr9 (far a4),u8.sq.2⟩
  have hs': [(⟨true,[],qx⟩:Sp)][i]? =some s:=hs
  cases i with
  | succ i=>simp at hs'
  | zero=>
   cases hs';have k:=r3 0 x _ hx rfl;refine⟨k.live,zfK k.ar,k.cap,⟨k.tb.len,k.tb.tlen,fun j v y hv hy=>?_⟩⟩
   have e:y=[]:=(List.mem_replicate.1 (show y∈List.replicate 8 []from mG hy)).2
   subst e;exact fun w' _=>zfK (k.tb.row j v [] hv hy).now
 go_wp2;refine bodyPost_ret (ZO rfl _ rfl B9.out.box Tryz.underlying41 rfl (by kernel_rfl)) rfl ⟨⟨_,rfl,HMA.out,HPS.out⟩,G9.out⟩
theorem zgN {α:Type} (p:α->Bool) {l:List α} {k:Nat} {x:α} (h:l[k]? =some x):(l.take (k+1)).countP p=(l.take k).countP p+(if p x=true then 1 else 0):=by
 rw[qa h,List.countP_append]
 simp[List.countP_cons]
end
end Go.Proofs.YtdgccecjbpgmfaaGreat
