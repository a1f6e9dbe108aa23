import Derived.Test.YtdgccecjbpgmfaaGreatPC0
import Derived.BigQuiet
import Derived.WalkSmall
import Derived.Deep.Cut
import Derived.ChangeKeysEq
import Derived.Deep.MidRow
import Derived.Laws.ResultCell
import Derived.OrdersHeld
import Derived.Deep.QuietTactic
namespace Go.Proofs.YtdgccecjbpgmfaaGreat
set_option maxRecDepth 100000
set_option maxHeartbeats 4000000
section
open Go.RowKit
def zfy (base:Nat) (w:World) (d:Value) (ps:List (List Int)) (qs:List (Int × List Int)):Prop:=∃b q,d= .agg #[b,q]/\zj base w b ps/\zT base w q qs
theorem zj.grew {base:Nat} {w w':World} {v:Value} {ps:List (List Int)} (h:zj base w v ps) (hg:zc w w'):zj base w' v ps:=⟨ZQ h.1 hg,h.2⟩
theorem zT.grew {base:Nat} {w w':World} {v:Value} {qs:List (Int × List Int)} (h:zT base w v qs) (hg:zc w w'):zT base w' v qs:=⟨ZQ h.1 hg,h.2⟩
theorem zj.base {base base':Nat} {w:World} {v:Value} {ps:List (List Int)} (h:zj base w v ps) (hb:base'<=base):zj base' w v ps:=⟨qE h.1 hb,h.2⟩
theorem zT.base {base base':Nat} {w:World} {v:Value} {qs:List (Int × List Int)} (h:zT base w v qs) (hb:base'<=base):zT base' w v qs:=⟨qE h.1 hb,h.2⟩
theorem zj.slice {base:Nat} {w:World} {v:Value} {ps:List (List Int)} (h:zj base w v ps):∃a n c,v= .slice a n c:=by
 rcases h.1.2 with⟨rfl,_⟩ | ⟨g,cap,cur,rfl,_⟩
 ·exact⟨_,_,_,rfl⟩
 exact⟨_,_,_,rfl⟩
theorem zT.slice {base:Nat} {w:World} {v:Value} {qs:List (Int × List Int)} (h:zT base w v qs):∃a n c,v= .slice a n c:=by
 rcases h.1.2 with⟨rfl,_⟩ | ⟨g,cap,cur,rfl,_⟩
 ·exact⟨_,_,_,rfl⟩
 exact⟨_,_,_,rfl⟩
theorem zj.setCell {base:Nat} {w:World} {v:Value} {ps:List (List Int)} (h:zj base w v ps) {a:Addr} (ha:a.block<base) (u:Value):zj base (w.setCell a u) v ps:=⟨ownsRow_setCell_below h.1 ha u,h.2⟩
theorem zT.setCell {base:Nat} {w:World} {v:Value} {qs:List (Int × List Int)} (h:zT base w v qs) {a:Addr} (ha:a.block<base) (u:Value):zT base (w.setCell a u) v qs:=⟨ownsRow_setCell_below h.1 ha u,h.2⟩
def qM (base:Nat) (w:World) (d:Value) (ps:List (List Int)) (qs:List (Int × List Int)):Prop:=∃b q,d= .agg #[b,q]/\qt w b ps/\qK w q qs/\jh base b/\jh base q
theorem qM.at {base:Nat} {w:World} {d:Value} {ps:List (List Int)} {qs:List (Int × List Int)} (h:qM base w d ps qs):ZD w d ps qs:=by
 obtain⟨b,q,h1,h2,h3,_⟩:=h;exact⟨b,q,h1,h2,h3⟩
theorem qM.base {base base':Nat} {w:World} {d:Value} {ps:List (List Int)} {qs:List (Int × List Int)} (h:qM base w d ps qs) (hb:base'<=base):qM base' w d ps qs:=by
 obtain⟨b,q,h1,h2,h3,h4,h5⟩:=h;exact⟨b,q,h1,h2,h3,fun x n c e=>nT hb (h4 x n c e),fun x n c e=>nT hb (h5 x n c e)⟩
theorem qM.setCell {base:Nat} {w:World} {d:Value} {ps:List (List Int)} {qs:List (Int × List Int)} (h:qM base w d ps qs) {a:Addr} (ha:a.block<base) (u:Value):qM base (w.setCell a u) d ps qs:=by
 obtain⟨b,q,h1,h2,h3,h4,h5⟩:=h;exact⟨b,q,h1,⟨h2.1.setCell h4 ha u,h2.2⟩,⟨h3.1.setCell h5 ha u,h3.2⟩,h4,h5⟩
theorem zj.fresh {base:Nat} {w:World} {v:Value} {ps:List (List Int)} (h:zj base w v ps):jh base v:=fun x n c e=>by
 rcases h.1.2 with⟨h0,_⟩ | ⟨g,cap,cur,h0,h1,_⟩
 ·rw[h0]at e;cases e
 rw[h0]at e;cases e;exact h1
theorem zhi (d:Value) (ps:List (List Int)) (qs:List (Int × List Int)) (w:World) (hd:ZD w d ps qs):
  Calls Tryz.prog 72 #[d] w fun e w'=>∃d',e= .returned d'/\zfy w.heap.size w' d' ps qs/\zc w w':=by
 obtain⟨b,q,rfl,hb,hq⟩:=hd;have HB:Hid (qt w b ps):=hb;have HQ:Hid (qK w q qs):=hq;obtain⟨ab,cb,rfl,_⟩:=hb.rows;obtain⟨aq,cq,rfl,_⟩:=hq.rows;clear hb hq
 go_enter Tryz.func72,Tryz.ntmps72
 go_wp2;obtain⟨W1,hW⟩:∃W1,(w.alloc (.cells #[.slice ab ps.length cb,.slice aq qs.length cq] 34)).alloc (.cells #[.slice none 0 0,.slice none 0 0] 34)=W1:=⟨_,rfl⟩;have hg1:=gD2 hW
 have hsz:Hid (W1.heap.size=w.heap.size+2):=show W1.heap.size=_ by rw[<-hW];simp
 have k0:W1.cell? ⟨w.heap.size,0,none⟩=some (.slice ab ps.length cb):=by rw[<-hW];simp
 have k1:W1.cell? ⟨w.heap.size,1,none⟩=some (.slice aq qs.length cq):=by rw[<-hW];simp
 have k2:W1.cell? ⟨w.heap.size+1,0,none⟩=some (.slice none 0 0):=by rw[<-hW];simp
 have k3:W1.cell? ⟨w.heap.size+1,1,none⟩=some (.slice none 0 0):=by rw[<-hW];simp
 have f2:W1.frozen? ⟨w.heap.size+1,0,none⟩=false:=by rw[<-hW];simp
 have f3:W1.frozen? ⟨w.heap.size+1,1,none⟩=false:=by rw[<-hW];simp
 rw[hW];have hx0:∀x:zx W1,x.world.cell? ⟨w.heap.size,0,none⟩=some (.slice ab ps.length cb):=fun x=>(Below.cell x.grew (World.block_lt_of_cell? _ _ k0)).trans k0
 have hx1:∀x:zx W1,x.world.cell? ⟨w.heap.size,1,none⟩=some (.slice aq qs.length cq):=fun x=>(Below.cell x.grew (World.block_lt_of_cell? _ _ k1)).trans k1
 have hne:Nonempty (zx W1):=⟨⟨_,zc.refl _⟩⟩;refine Qv 7 [(2,⟨fun v=>∃a n c,v= .slice a n c,fun v w'=>zj (w.heap.size+2) w' v ps⟩),(5,⟨fun v=>∃a n c,v= .slice a n c,fun v w'=>zT (w.heap.size+2) w' v qs⟩)] qy (by kernel_rfl) rfl rfl (by decide) ?_ ?_ ?_
 ·intro x hx
  simp at hx
  rcases hx with rfl | rfl
  ·exact⟨_,none,0,0,rfl⟩
  exact⟨_,none,0,0,rfl⟩
 ·intro x hx
  simp at hx
  rcases hx with rfl | rfl
  ·intro v w1 w2 hg h;exact h.grew hg
  intro v w1 w2 hg h;exact h.grew hg
 simp only[List.take,List.drop];iterate 2 (refine zm rfl rfl rfl (fun K hK=>?_);go_big_quiet_op;refine hK _ ?_;clear hK K)
 refine zM rfl rfl (fun w' hg hF=>?_) (fun v1 hv=>?_)
 ·refine zL.call [.slice ab ps.length cb] rfl Tryz.func109 rfl rfl rfl ?_;refine(JM _ ps w' (HB.out.grew (hg1.out.trans hg))).mono ?_;rintro e w'' ⟨v2,rfl,hb,hg2⟩;exact⟨_,rfl,hg2,hb.slice,hb.base (by have:=bS hg;rw[hsz.out]at this;exact this)⟩
 obtain⟨a1,n1,c1,rfl⟩:=hv;simp only[Act.put,sB,sS,sZ];iterate 2 (refine zm rfl rfl rfl (fun K hK=>?_);go_big_quiet_op;refine hK _ ?_;clear hK K)
 refine zM rfl rfl (fun w' hg hF=>?_) (fun v1 hv=>?_)
 ·refine zL.call [.slice aq qs.length cq] rfl Tryz.func110 rfl rfl rfl ?_;refine(zdo _ qs w' (HQ.out.grew (hg1.out.trans hg))).mono ?_;rintro e w'' ⟨v2,rfl,hb,hg2⟩;exact⟨_,rfl,hg2,hb.slice,hb.base (by have:=bS hg;rw[hsz.out]at this;exact this)⟩
 obtain⟨a2,n2,c2,rfl⟩:=hv;simp only[Act.put,sB,sS,sZ];iterate 1 (refine zm rfl rfl rfl (fun K hK=>?_);go_big_quiet_op;refine hK _ ?_;clear hK K)
 refine qU fun w' hg hF=>?_
 have ow1:Hid (zj (w.heap.size+2) w' (.slice a1 n1 c1) ps):=hF 2;have ow2:Hid (zT (w.heap.size+2) w' (.slice a2 n2 c2) qs):=hF 5;have m2:w'.cell? ⟨w.heap.size+1,0,none⟩=some (.slice none 0 0):=(Below.cell hg (World.block_lt_of_cell? _ _ k2)).trans k2;have m3:w'.cell? ⟨w.heap.size+1,1,none⟩=some (.slice none 0 0):=(Below.cell hg (World.block_lt_of_cell? _ _ k3)).trans k3;have g2:w'.frozen? ⟨w.heap.size+1,0,none⟩=false:=(Below.frozen hg (World.block_lt_of_cell? _ _ k2)).trans f2;have g3:w'.frozen? ⟨w.heap.size+1,1,none⟩=false:=(Below.frozen hg (World.block_lt_of_cell? _ _ k3)).trans f3;have HG:=dD (hg1.out.trans hg);clear hF k0 k1 k2 k3 f2 f3 hx0 hx1 hW hg hne;go_wp2;refine bodyPost_ret (v:= .agg #[.slice a1 n1 c1,.slice a2 n2 c2]) (by simp[results,Tryz.results72,go_sem, *]) rfl ⟨_,rfl,⟨_,_,rfl,((ow1.out.setCell (by simp) _).setCell (by simp) _).base (by omega),((ow2.out.setCell (by simp) _).setCell (by simp) _).base (by omega)⟩,?_⟩
 exact Below.setCell (Below.setCell HG.out (p:=⟨w.heap.size+1,0,none⟩) (by simp) _) (p:=⟨w.heap.size+1,1,none⟩) (by simp) _
def siv (z:Int):List Value:=[.int .i64 z]
theorem zld:(Tryz.prog.info? 3).map (fun i=>(i.zero,i.size,i.bytes))=some (some (.int .i64 0),1,8):=by kernel_rfl
def slE:Elt Int where
 enc:=siv
 k:=1
 ty:=3
 st:=30
 bytes:=8
 zv:= .int .i64 0
 zero:=0
 len:=fun _=>rfl
 one:=fun a u hu=>by
  simp only[siv,mC,nM,or_false]at hu;subst hu;rfl
 und:=Tryz.underlying30
 info:=zld
 zok:=rfl
 few:=by decide
 pos:=by decide
def zaU (w:World) (a:Option Addr) (l:List Int):Prop:=∀(j:Nat) x,l[j]? =some x->∃ad,a=some ad/\∀W,zc w W->W.cell? (ad.add j)=some (.int .i64 x)
theorem zo.sls {w:World} {v:Value} {l:List Int} (h:zo slE w v l):∃a c,v= .slice a l.length c/\zaU w a l:=by
 obtain⟨a,c,h1,h2⟩:=h.rows;refine⟨a,c,h1,fun j x hj=>?_⟩
 obtain⟨ad,h3,h4⟩:=h2 j x hj;refine⟨ad,h3,fun W hW=>?_⟩
 have:=h4 W hW 0 _ rfl;rw[zP,show j*slE.k+0=j from by show j*1+0=j;omega]at this
 exact this
def niv (z:Int):List Value:=[.int .i64 z]
theorem zle:(Tryz.prog.info? 3).map (fun i=>(i.zero,i.size,i.bytes))=some (some (.int .i64 0),1,8):=by kernel_rfl
def blE:Elt Int where
 enc:=niv
 k:=1
 ty:=3
 st:=29
 bytes:=8
 zv:= .int .i64 0
 zero:=0
 len:=fun _=>rfl
 one:=fun a u hu=>by
  simp only[niv,mC,nM,or_false]at hu;subst hu;rfl
 und:=Tryz.underlying29
 info:=zle
 zok:=rfl
 few:=by decide
 pos:=by decide
def zaM (w:World) (a:Option Addr) (l:List Int):Prop:=∀(j:Nat) x,l[j]? =some x->∃ad,a=some ad/\∀W,zc w W->W.cell? (ad.add j)=some (.int .i64 x)
theorem zo.nums {w:World} {v:Value} {l:List Int} (h:zo blE w v l):∃a c,v= .slice a l.length c/\zaM w a l:=by
 obtain⟨a,c,h1,h2⟩:=h.rows;refine⟨a,c,h1,fun j x hj=>?_⟩
 obtain⟨ad,h3,h4⟩:=h2 j x hj;refine⟨ad,h3,fun W hW=>?_⟩
 have:=h4 W hW 0 _ rfl;rw[zP,show j*blE.k+0=j from by show j*1+0=j;omega]at this
 exact this
structure FlV where
 size:Int
 a:Option Addr
 n:Nat
 c:Nat
def FlV.v (x:FlV):Value:= .slice x.a x.n x.c
def flv (x:FlV):List Value:=[.int .i64 x.size,.slice x.a x.n x.c]
theorem zlf:(Tryz.prog.info? 88).map (fun i=>(i.zero,i.size,i.bytes))=some (some (.agg #[.int .i64 0,.slice none 0 0]),2,32):=by kernel_rfl
def fvE:Elt FlV where
 enc:=flv
 k:=2
 ty:=88
 st:=35
 bytes:=32
 zv:= .agg #[.int .i64 0,.slice none 0 0]
 zero:=⟨0,none,0,0⟩
 len:=fun _=>rfl
 one:=fun a u hu=>by
  simp only[flv,mC,nM,or_false]at hu
  rcases hu with rfl | rfl <;> rfl
 und:=Tryz.underlying35
 info:=zlf
 zok:=rfl
 few:=by decide
 pos:=by decide
def QT (B0 B1:Nat) (w:World) (v:Value) (fs:List Fl):Prop:=
 Cap v/\∃xs:List FlV,zeB fvE B0 B1 w v xs/\xs.length=fs.length/\∀(i:Nat) x f,xs[i]? =some x->fs[i]? =some f->x.size=f.size/\zeB blE B0 B1 w (.slice x.a x.n x.c) f.bl
def qN (w:World) (v:Value) (fs:List Fl):Prop:=QT 0 0 w v fs
theorem QT.out {B0 B1:Nat} {w w':World} {v:Value} {fs:List Fl} (h:QT B0 B1 w v fs) (k:Out B0 B1 w w'):QT B0 B1 w' v fs:=by
 obtain⟨hc,xs,h1,h2,h3⟩:=h;exact⟨hc,xs,h1.out k,h2,fun i x f hx hf=>⟨(h3 i x f hx hf).1,(h3 i x f hx hf).2.out k⟩⟩
theorem QT.grew {B0 B1:Nat} {w w':World} {v:Value} {fs:List Fl} (h:QT B0 B1 w v fs) (k:zc w w'):QT B0 B1 w' v fs:=h.out (Out.grew k)
def zig (W:World) (y:Addr) (s:Int) (b:Value):Prop:=W.cell? y=some (.int .i64 s)/\W.cell? { block:=y.block,off:=y.off+1 }=some b
def Zb (w:World) (a:Option Addr) (fs:List Fl):Prop:=∀(j:Nat) f,fs[j]? =some f->∃ad,a=some ad/\∃xa xc,zo blE w (.slice xa f.bl.length xc) f.bl/\∀W,zc w W->zig W (ad.add (j*2)) f.size (.slice xa f.bl.length xc)
theorem qN.rows {w:World} {v:Value} {fs:List Fl} (h:qN w v fs):∃a c,v= .slice a fs.length c/\fs.length<=9223372036854775807/\Zb w a fs:=by
 obtain⟨_,xs,k1,k2,k3⟩:=h;obtain⟨a,c,h1,h2⟩:=k1.now.rows;refine⟨a,c,by rw[<-k2];exact h1,by rw[<-k2];exact k1.now.short,fun j f hf=>?_⟩
 obtain⟨x,hx⟩:∃x,xs[j]? =some x:=⟨_,gE (by rw[k2];exact(gS.1 hf).1)⟩
 obtain⟨ad,e1,e2⟩:=h2 j x hx;obtain⟨q1,q2⟩:=k3 j x f hx hf;have q3:=q2.now;obtain⟨⟨a',c',q4,_⟩,_⟩:=id q3;cases x;simp only at q1 q3 q4;cases q4;subst q1;refine⟨ad,e1,_,_,q3,fun W hW=>⟨?_,?_⟩⟩
 ·exact e2 W hW 0 _ rfl
 exact e2 W hW 1 _ rfl
theorem zet (m n:Int) (w:World):
  Calls Tryz.prog 174 #[.int .i64 m,.int .i64 n] w fun e w'=>e= .returned (.bool (bel m n))/\w'=w:=by
 have H:Hid (bel m n=(decide (0<=m) && decide (m<n))):=rfl
 by_cases h0:0<=m
 ·by_cases h1:m<n
  ·go_enter Tryz.func174,Tryz.ntmps174
   go_wp2;go_ret;exact⟨by rw[H.out];simp[*],rfl⟩
  go_enter Tryz.func174,Tryz.ntmps174
  go_wp2;go_ret;exact⟨by rw[H.out];simp[*],rfl⟩
 go_enter Tryz.func174,Tryz.ntmps174
 go_wp2;go_ret;exact⟨by rw[H.out];simp;omega,rfl⟩
theorem Jn {m n:Int} (h0:0<=m) (h1:m<n) (w:World):Calls Tryz.prog 174 #[.int .i64 m,.int .i64 n] w fun e w'=>e= .returned (.bool true)/\w'=w:=by
 have:=zet m n w;rw[zaK.2 ⟨h0,h1⟩]at this;exact this
theorem zbd {m n:Int} (h:¬(0<=m/\m<n)) (w:World):Calls Tryz.prog 174 #[.int .i64 m,.int .i64 n] w fun e w'=>e= .returned (.bool false)/\w'=w:=by
 have:=zet m n w;rw[zia h]at this;exact this
theorem zbr {a b:Int} (h:a=b):Ending.returned (.int .i64 a)= .returned (.int .i64 b):=by rw[h]
theorem zh2 (n:Int) (w:World) (h1:0<=n) (h2:n<=96):
  Calls Tryz.prog 221 #[.int .i64 n] w fun e w'=>e= .returned (.int .i64 (JG n))/\w'=w:=by
 by_cases h:n<1
 ·have H:Hid (JG n=0):=show _=_ by unfold JG;rw[if_pos h]
  go_enter Tryz.func221,Tryz.ntmps221
  go_wp2;go_ret;exact⟨zbr H.out.symm,rfl⟩
 have H:Hid (JG n=(n - 1) / 8+1):=show _=_ by unfold JG;rw[if_neg h]
 go_enter Tryz.func221,Tryz.ntmps221
 go_wp2;go_ret;exact⟨zbr H.out.symm,rfl⟩
theorem zaO (n:Int) (w:World) (h1:0<=n) (h2:n<=96):
  Calls Tryz.prog 44 #[.int .i64 n] w fun e w'=>e= .returned (.int .i64 (JG n))/\w'=w:=by
 by_cases h:n<1
 ·have H:Hid (JG n=0):=show _=_ by unfold JG;rw[if_pos h]
  have h':n<=0:=by omega
  go_enter Tryz.func44,Tryz.ntmps44
  go_wp2;go_ret;exact⟨zbr H.out.symm,rfl⟩
 have H:Hid (JG n=(n - 1) / 8+1):=show _=_ by unfold JG;rw[if_neg h]
 have h':¬n<=0:=by omega
 by_cases hr:0<n % 8
 ·have H':Hid (JG n=n / 8+1):=show _=_ by rw[H.out];omega
  go_enter Tryz.func44,Tryz.ntmps44
  go_wp2;go_ret;exact⟨zbr H'.out.symm,rfl⟩
 have H':Hid (JG n=n / 8):=show _=_ by rw[H.out];omega
 go_enter Tryz.func44,Tryz.ntmps44
 go_wp2;go_ret;exact⟨zbr H'.out.symm,rfl⟩
theorem zeo (v:Value) (fs:List Int) (w:World) (hv:zo blE w v fs):
  Calls Tryz.prog 112 #[v] w fun e w'=>∃v',e= .returned v'/\zb blE w.heap.size w' v' fs/\zc w w':=by
 have HV:Hid (zo blE w v fs):=hv;obtain⟨⟨a,c,rfl,hnone,hcells⟩,hbytes⟩:=hv;have q22:∀(w:World) (a:Option Addr) (n c n' c':Nat),(binOp .eql 29 (.slice a n c) (.slice none n' c')).run Tryz.prog w= .ok (.bool a.isNone) w:=fun w a n c n' c'=>Lib.run_eql_slice_nil w _ _ a n c n' c' Tryz.underlying29
 cases a with
 | none=>
  have hps:=hnone rfl;subst hps;clear hcells hnone hbytes HV
  go_enter Tryz.func112,Tryz.ntmps112
  go_wp2;go_ret;exact⟨_,rfl,zb.nil _ _ _,zc.refl w⟩
 | some x=>
  have HB:Hid (fs.length*8<=140737488355328):=hbytes;clear hcells hnone hbytes
  go_enter Tryz.func112,Tryz.ntmps112
  go_wp2_with (at_builtin;refine zB (E:=blE) rfl (.tmp 5) (.tmp 6) rfl w.heap.size _ [] rfl (zb.made blE w) _ fs rfl (HV.out.grew (za _ _)) ?qb (by simp) ?_)
  case qb=>rw[List.length_nil,zA];exact HB.out
  intro v' w1 hown hgrow;go_wp2;go_ret;exact⟨v',rfl,by simpa using hown,((bR _ w).alloc (nR _) _).grown hgrow (by simp) (by intro k hk;simp[Value.ownBlock]at hk;omega)⟩
theorem zdp (v:Value) (fs:List FlV) (w:World) (hv:zo fvE w v fs):
  Calls Tryz.prog 111 #[v] w fun e w'=>∃v',e= .returned v'/\zb fvE w.heap.size w' v' fs/\zc w w':=by
 have HV:Hid (zo fvE w v fs):=hv;obtain⟨⟨a,c,rfl,hnone,hcells⟩,hbytes⟩:=hv;have q22:∀(w:World) (a:Option Addr) (n c n' c':Nat),(binOp .eql 35 (.slice a n c) (.slice none n' c')).run Tryz.prog w= .ok (.bool a.isNone) w:=fun w a n c n' c'=>Lib.run_eql_slice_nil w _ _ a n c n' c' Tryz.underlying35
 cases a with
 | none=>
  have hps:=hnone rfl;subst hps;clear hcells hnone hbytes HV
  go_enter Tryz.func111,Tryz.ntmps111
  go_wp2;go_ret;exact⟨_,rfl,zb.nil _ _ _,zc.refl w⟩
 | some x=>
  have HB:Hid (fs.length*32<=140737488355328):=hbytes;clear hcells hnone hbytes
  go_enter Tryz.func111,Tryz.ntmps111
  go_wp2_with (at_builtin;refine zB (E:=fvE) rfl (.tmp 5) (.tmp 6) rfl w.heap.size _ [] rfl (zb.made fvE w) _ fs rfl (HV.out.grew (za _ _)) ?qb (by simp) ?_)
  case qb=>rw[List.length_nil,zA];exact HB.out
  intro v' w1 hown hgrow;go_wp2;go_ret;exact⟨v',rfl,by simpa using hown,((bR _ w).alloc (nR _) _).grown hgrow (by simp) (by intro k hk;simp[Value.ownBlock]at hk;omega)⟩
def qT (base:Nat) (w:World) (v:Value) (fs:List Fl):Prop:=
 ∃xs:List FlV,zb fvE base w v xs/\xs.length=fs.length/\(∀(i:Nat) x f,xs[i]? =some x->fs[i]? =some f->x.size=f.size/\zb blE base w x.v f.bl)/\
  ∀(i j:Nat) x y,i≠j->xs[i]? =some x->xs[j]? =some y->∀g,x.v.ownBlock=some g->y.v.ownBlock≠some g
theorem qT.new {base:Nat} {w:World} {v:Value} {fs:List Fl} (h:qT base w v fs):QT 0 base w v fs:=by
 obtain⟨xs,h1,h2,h3,_⟩:=h;exact⟨h1.cap,xs,h1.new.stays,h2,fun i x f hx hf=>⟨(h3 i x f hx hf).1,(h3 i x f hx hf).2.new.stays⟩⟩
theorem qT.grew {base:Nat} {w w':World} {v:Value} {fs:List Fl} (h:qT base w v fs) (k:zc w w'):qT base w' v fs:=by
 obtain⟨xs,h1,h2,h3,h4⟩:=h;exact⟨xs,h1.grew k,h2,fun i x f hx hf=>⟨(h3 i x f hx hf).1,(h3 i x f hx hf).2.grew k⟩,h4⟩
theorem qT.setCell {base:Nat} {w:World} {v:Value} {fs:List Fl} (h:qT base w v fs) {a:Addr} (ha:a.block<base) (u:Value):qT base (w.setCell a u) v fs:=by
 obtain⟨xs,h1,h2,h3,h4⟩:=h;exact⟨xs,h1.setCell ha u,h2,fun i x f hx hf=>⟨(h3 i x f hx hf).1,(h3 i x f hx hf).2.setCell ha u⟩,h4⟩
theorem zg7:blE.ty≠fvE.ty:=by decide
structure zkj (base:Nat) (w:World) (kk:Nat) (xs ys:List FlV) (fs:List Fl):Prop where
 len:ys.length=xs.length
 own:∀(i:Nat) y f,i<kk->ys[i]? =some y->fs[i]? =some f->y.size=f.size/\zb blE base w y.v f.bl
 rest:∀(i:Nat),kk<=i->ys[i]? =xs[i]?
 two:∀(i j:Nat) x y,i<kk->j<kk->i≠j->ys[i]? =some x->ys[j]? =some y->∀g,x.v.ownBlock=some g->y.v.ownBlock≠some g
theorem zkj.step {base:Nat} {w w1 w2:World} {kk:Nat} {xs ys:List FlV} {fs:List Fl} (h:zkj base w kk xs ys fs) (hg:zc w w1) {g:Nat} (hg2:w1.grownBy w2 (some g)) {f:Fl} {x:FlV} (hf:fs[kk]? =some f) (hx:xs[kk]? =some x)
  (hs:x.size=f.size) {a:Option Addr} {n c:Nat} (hown:zb blE w.heap.size w1 (.slice a n c) f.bl) (hb:base<=w.heap.size) {v:Value} (hv:zb fvE base w1 v ys) (hvg:v.ownBlock=some g):zkj base w2 (kk+1) xs (ys.set kk ⟨x.size,a,n,c⟩) fs:=by
 have hk:kk<ys.length:=by rw[h.len];exact(gS.1 hx).1
 have keep:∀(y:FlV) (l:List Int),zb blE base w1 y.v l->zb blE base w2 y.v l:=fun y l o=>o.grown hg2 (fun g' h1 e=>by
  cases e;exact hv.apart o (Ne.symm zg7) g hvg h1)
 refine⟨by rw[List.length_set];exact h.len,fun i y f' hi hy hf'=>?_,fun i hi=>?_,fun i j p q hi hj hij hp hq g' hp'=>?_⟩
 ·by_cases e:i=kk
  ·subst e;rw[sF hk]at hy;cases hy;rw[hf]at hf';cases hf';exact⟨hs,keep ⟨x.size,a,n,c⟩ _ (hown.base hb)⟩
  rw[sN (fun h=>e h.symm)]at hy
  obtain⟨q1,q2⟩:=h.own i y f' (by omega) hy hf'
  exact⟨q1,keep y _ (q2.grew hg)⟩
 ·rw[sN (by omega)]
  exact h.rest i (by omega)
 have newer:∀(i:Nat) y f',i<kk->ys[i]? =some y->fs[i]? =some f'->∀b,y.v.ownBlock=some b->b<w.heap.size:=fun i y f' hi hy hf' b hb'=>((h.own i y f' hi hy hf').2.lt b hb').2
 have hfl:∀i,i<kk->∃f',fs[i]? =some f':=fun i hi=>⟨_,gE (by have:=(gS.1 hf).1;omega)⟩
 by_cases e1:i=kk
 ·subst e1;rw[sF hk]at hp;cases hp;rw[sN (by omega)]at hq
  obtain⟨f',hf'⟩:=hfl j (by omega)
  intro hq';have h1:=newer j q f' (by omega) hq hf' g' hq'
  have h2:=(hown.lt g' hp').1;omega
 rw[sN (by omega)]at hp
 by_cases e2:j=kk
 ·subst e2;rw[sF hk]at hq;cases hq;obtain⟨f',hf'⟩:=hfl i (by omega)
  intro hq';have h1:=newer i p f' (by omega) hp hf' g' hp'
  have h2:=(hown.lt g' hq').1;omega
 rw[sN (by omega)]at hq
 exact h.two i j p q (by omega) (by omega) hij hp hq g' hp'
theorem zkj.all {base:Nat} {w:World} {xs ys:List FlV} {fs:List Fl} {v:Value} (h:zkj base w xs.length xs ys fs) (hl:xs.length=fs.length) (hv:zb fvE base w v ys):qT base w v fs:=by
 refine⟨ys,hv,h.len.trans hl,fun i y f hy hf=>h.own i y f (by rw[<-h.len];exact(gS.1 hy).1) hy hf,fun i j p q hij hp hq=>h.two i j p q ?_ ?_ hij hp hq⟩
 ·rw[<-h.len];exact(gS.1 hp).1
 rw[<-h.len];exact(gS.1 hq).1
theorem zdT (v:Value) (fs:List Fl) (cnt:Int) (w:World) (hv:qN w v fs):
  Calls Tryz.prog 73 #[.agg #[v,.int .i64 cnt]] w fun e w'=>∃b,e= .returned (.agg #[b,.int .i64 cnt])/\qT (w.heap.size+2) w' b fs/\zc w w'/\w.heap.size+2<=w'.heap.size:=by
 obtain⟨_,xs,k1,k2,k3⟩:=hv;have HX:Hid (zo fvE w v xs):=k1.now;have HK:Hid (∀(i:Nat) x f,xs[i]? =some x->fs[i]? =some f->x.size=f.size/\zo blE w (.slice x.a x.n x.c) f.bl):=show∀(i:Nat) x f,_ from fun i x f hx hf=>⟨(k3 i x f hx hf).1,(k3 i x f hx hf).2.now⟩
 have HL:Hid (xs.length=fs.length):=k2;have hbig:=k1.now.short;obtain⟨a,c,rfl,_⟩:=k1.now.rows;clear k1 k2 k3;obtain⟨n,HN⟩:∃n,Hid (xs.length=n):=⟨_,rfl⟩;rw[HN.out]at hbig HX⊢;obtain⟨W0,hW0⟩:∃W0,(w.alloc (.cells #[.slice a n c,.int .i64 cnt] 37)).alloc (.cells #[.slice none 0 0,.int .i64 0] 37)=W0:=⟨_,rfl⟩;have HG0:=gD2 hW0
 have X0:=x2a hW0
 have Y0:=x2b hW0
 have HS0:Hid (W0.heap.size=w.heap.size+2):=show _=_ by rw[<-hW0];simp
 have HW0:Hid (_=W0):=hW0;clear hW0
 go_enter Tryz.func73,Tryz.ntmps73
 go_wp2_with fail;rw[HW0.out];refine(zdp _ xs W0 (HX.out.grew HG0.out)).mono ?_;rintro e W1 ⟨v1,rfl,ow1,g1⟩;obtain⟨xa,xc,rfl⟩:=ow1.form;rw[HS0.out]at ow1;rw[HN.out]at ow1⊢;have O1:Hid (zb fvE (w.heap.size+2) W1 (.slice xa n xc) xs):=ow1;have G1:Hid (zc W0 W1):=g1;clear ow1 g1;go_wp2
 go_loopg [4,10] n (fun gg _ s10 wr=>∃(kk:Nat) (ys:List FlV),kk<=n/\n - kk<=gg/\s10= .int .i64 kk/\Hid (zc W0 wr)/\Hid (zb fvE (w.heap.size+2) wr (.slice xa n xc) ys)/\Hid (zkj (w.heap.size+2) wr kk xs ys fs))
 case atStart=>exact⟨0,xs,nZ _,by omega,rfl,G1.out,O1.out,⟨rfl,fun i y f hi=>absurd hi (nL _),fun i _=>rfl,fun i j x y hi=>absurd hi (nL _)⟩⟩
 obtain⟨kk,ys,hkk,hgg,rfl,BW,OW,HH⟩:=hrel;clear O1 G1
 by_cases hlt:kk<n
 ·have hltz:(kk:Int)< (n:Int):=by omega
  obtain⟨q,HQ⟩:∃q,Hid (xs[kk]? =some q):=⟨_,gE (by rw[HN.out];exact hlt)⟩
  obtain⟨f,HF⟩:∃f,Hid (fs[kk]? =some f):=⟨_,gE (by rw[<-HL.out,HN.out];exact hlt)⟩
  have HY:Hid (ys[kk]? =some q):=show _=_ by rw[HH.out.rest kk (nR _)];exact HQ.out
  obtain⟨g,xc',heq⟩:=OW.out.formS (by rw[HH.out.len,HN.out];omega)
  rw[HH.out.len,HN.out]at heq;cases heq;obtain⟨q1,q2⟩:=HK.out kk q f HQ.out HF.out;have Q1:Hid (q.size=f.size):=q1;have hcl:=zeo _ f.bl wr (q2.grew (HG0.out.trans BW.out));obtain⟨a0,c0,hsl,hrows⟩:=OW.out.at.rows;obtain⟨ad,had,hce⟩:=hrows kk q HY.out;rw[HH.out.len,HN.out]at hsl;cases hsl;cases had;have d1:wr.cell? ⟨g,kk*2+1,none⟩=some (.slice q.a q.n q.c):=by
   have:=hce wr (zc.refl _) 1 _ rfl;rw[zP,Addr.add_lit,zA]at this;exact this
  clear q1 q2 hrows hce;go_wp2_with fail;refine hcl.mono ?_;rintro e W2 ⟨v2,rfl,ow2,g2⟩;obtain⟨a2,c2,rfl⟩:=ow2.form;have O2:Hid (zb blE wr.heap.size W2 (.slice a2 f.bl.length c2) f.bl):=ow2;have G2:Hid (zc wr W2):=g2;have OF2:=dD (OW.out.grew g2);have HB:Hid (w.heap.size+2<=wr.heap.size):=show _<=_ by
   have:=bS BW.out;rw[HS0.out]at this;exact this
  clear ow2 g2 hcl d1
  generalize f.bl.length=nb at O2⊢
  go_wp2_with (refine zu (E:=fvE) rfl (.tmp 22) (.tmp 20) 29 rfl (w.heap.size+2) _ ys OF2.out g kk 1 rfl q ⟨q.size,a2,nb,c2⟩ HY.out [.slice a2 nb c2] ?s1 rfl ?s2 ?s3 ⟨g,kk*2+1,none⟩ rfl rfl (.slice a2 nb c2) rfl rfl ?_)
  case s1=>kernel_rfl
  case s2=>exact nR 2
  case s3=>simp;rfl
  intro W3 ow3 gr3 _;have O3:Hid (zb fvE (w.heap.size+2) W3 (.slice (some ⟨g,0,none⟩) n xc) (ys.set kk ⟨q.size,a2,nb,c2⟩)):=ow3;have H3:Hid (zkj (w.heap.size+2) W3 (kk+1) xs (ys.set kk ⟨q.size,a2,nb,c2⟩) fs):=HH.out.step G2.out gr3 HF.out HQ.out Q1.out O2.out HB.out OF2.out rfl;have G3:Hid (zc W0 W3):=show zc _ _ from zg (BW.out.trans G2.out) gr3 (by
   rw[HS0.out];exact(OF2.out.lt g rfl).1)
  clear ow3 gr3;go_wp2
  go_roundg (n -(kk+1))
  case measure=>omega
  exact⟨kk+1,_,by omega,by omega,by go_num,G3.out,O3.out,H3.out⟩
 have hltz:¬(kk:Int)< (n:Int):=by omega
 have:kk=n:=by omega
 subst this;have OA:Hid (qT (w.heap.size+2) wr (.slice xa kk xc) fs):=show qT _ _ _ _ by
  have h1:=HH.out;rw[<-HN.out]at h1;exact h1.all HL.out OW.out
 have x1:=(X0.out.grew BW.out).c 1 rfl;have Y1:=Y0.out.grew BW.out;have y0:=Y1.c 0 rfl;have y1:=Y1.c 1 rfl;have yf:=Y1.f;have HG:=dD (HG0.out.trans BW.out);clear Y1;go_wp2;refine bodyPost_ret (v:= .agg #[.slice xa kk xc,.int .i64 cnt]) (by simp[results,Tryz.results73,go_sem, *]) rfl ⟨_,rfl,(OA.out.setCell (by simp) _).setCell (by simp) _,?_,?_⟩
 ·exact Below.setCell (Below.setCell HG.out (p:=⟨w.heap.size+1,0,none⟩) (by simp) _) (p:=⟨w.heap.size+1,1,none⟩) (by simp) _
 have:=bS BW.out;rw[HS0.out]at this
 simp[World.setCell]
 exact this
def env (e:En):List Value:=[.int .i64 e.kind,.int .i64 e.n,.bool e.wr]
theorem zlg:(Tryz.prog.info? 74).map (fun i=>(i.zero,i.size,i.bytes))=some (some (.agg #[.int .i64 0,.int .i64 0,.bool false]),3,24):=by kernel_rfl
def enE:Elt En where
 enc:=env
 k:=3
 ty:=74
 st:=51
 bytes:=24
 zv:= .agg #[.int .i64 0,.int .i64 0,.bool false]
 zero:=en0
 len:=fun _=>rfl
 one:=fun a u hu=>by
  simp only[env,mC,nM,or_false]at hu
  rcases hu with rfl | rfl | rfl <;> rfl
 und:=Tryz.underlying51
 info:=zlg
 zok:=rfl
 few:=by decide
 pos:=by decide
def zkk (W:World) (y:Addr) (e:En):Prop:=W.cell? y=some (.int .i64 e.kind)/\W.cell? { block:=y.block,off:=y.off+1 }=some (.int .i64 e.n)/\W.cell? { block:=y.block,off:=y.off+2 }=some (.bool e.wr)
def zcE (w:World) (a:Option Addr) (l:List En):Prop:=∀(j:Nat) e,l[j]? =some e->∃ad,a=some ad/\∀W,zc w W->zkk W (ad.add (j*3)) e
theorem zo.ens {w:World} {v:Value} {l:List En} (h:zo enE w v l):∃a c,v= .slice a l.length c/\zcE w a l:=by
 obtain⟨a,c,h1,h2⟩:=h.rows;refine⟨a,c,h1,fun j x hj=>?_⟩
 obtain⟨ad,h3,h4⟩:=h2 j x hj;exact⟨ad,h3,fun W hW=>⟨h4 W hW 0 _ rfl,h4 W hW 1 _ rfl,h4 W hW 2 _ rfl⟩⟩
structure Jq (B0 B1:Nat) (w:World) (vs:List Value) (t:List (List En)):Prop where
 len:vs.length=8
 tlen:t.length=8
 row:∀(i:Nat) v h,vs[i]? =some v->t[i]? =some h->zeB enE B0 B1 w v h
def ZH (w:World) (vs:List Value) (t:List (List En)):Prop:=Jq 0 0 w vs t
theorem Jq.out {B0 B1:Nat} {w w':World} {vs:List Value} {t:List (List En)} (h:Jq B0 B1 w vs t) (k:Out B0 B1 w w'):Jq B0 B1 w' vs t:=⟨h.len,h.tlen,fun i v x hv hx=>(h.row i v x hv hx).out k⟩
theorem Jq.grew {B0 B1:Nat} {w w':World} {vs:List Value} {t:List (List En)} (h:Jq B0 B1 w vs t) (k:zc w w'):Jq B0 B1 w' vs t:=h.out (Out.grew k)
theorem Jq.less {A0 A1 B0 B1:Nat} {w:World} {vs:List Value} {t:List (List En)} (h:Jq B0 B1 w vs t) (h0:B0<=A0) (h1:A1<=B1):Jq A0 A1 w vs t:=⟨h.len,h.tlen,fun i v x hv hx=>(h.row i v x hv hx).less h0 h1⟩
theorem Jq.now {B0 B1:Nat} {w:World} {vs:List Value} {t:List (List En)} (h:Jq B0 B1 w vs t):ZH w vs t:=⟨h.len,h.tlen,fun i v x hv hx=>(h.row i v x hv hx).now.s0⟩
theorem ZH.grew {w w':World} {vs:List Value} {t:List (List En)} (h:ZH w vs t) (k:zc w w'):ZH w' vs t:=Jq.grew h k
def zah:List Value:=List.replicate 8 (.slice none 0 0)
theorem Jq.nil (B0 B1:Nat) (w:World):Jq B0 B1 w zah qx:=⟨rfl,rfl,fun i v h hv hh=>by
 have h1:=mG hv;have h2:=mG hh;rw[zah,List.mem_replicate]at h1;rw[qx,List.mem_replicate]at h2;rw[h1.2,h2.2];exact fun w' _=>zo.nil enE w'⟩
theorem ZH.half {w:World} {vs:List Value} {t:List (List En)} (h:ZH w vs t) {i:Nat} (hi:i<8):∃a c x,t[i]? =some x/\vs[i]? =some (.slice a x.length c)/\zo enE w (.slice a x.length c) x:=by
 obtain⟨v,hv⟩:∃v,vs[i]? =some v:=⟨_,gE (by rw[h.len];exact hi)⟩
 obtain⟨x,hx⟩:∃x,t[i]? =some x:=⟨_,gE (by rw[h.tlen];exact hi)⟩
 have hr:=(h.row i v x hv hx).now;obtain⟨a,c,rfl,_⟩:=hr.rows;exact⟨a,c,x,hx,hv,hr⟩
theorem zj9 {α:Type}:∀{l:List α},l.length=8->∃a b c d e f g h,l=[a,b,c,d,e,f,g,h]
 | [a,b,c,d,e,f,g,h],_=>⟨a,b,c,d,e,f,g,h,rfl⟩
theorem zcC (m n:Int) (w:World):
  Calls Tryz.prog 149 #[.int .i64 m,.int .i64 n] w fun e w'=>e= .returned (.bool (bel m n))/\w'=w:=by
 have H:Hid (bel m n=(decide (0<=m) && decide (m<n))):=rfl
 by_cases h0:0<=m
 ·by_cases h1:m<n
  ·go_enter Tryz.func149,Tryz.ntmps149
   go_wp2;go_ret;exact⟨by rw[H.out];simp[*],rfl⟩
  go_enter Tryz.func149,Tryz.ntmps149
  go_wp2;go_ret;exact⟨by rw[H.out];simp[*],rfl⟩
 go_enter Tryz.func149,Tryz.ntmps149
 go_wp2;go_ret;exact⟨by rw[H.out];simp;omega,rfl⟩
theorem zaI {m n:Int} (h0:0<=m) (h1:m<n) (w:World):Calls Tryz.prog 149 #[.int .i64 m,.int .i64 n] w fun e w'=>e= .returned (.bool true)/\w'=w:=by
 have:=zcC m n w;rw[zaK.2 ⟨h0,h1⟩]at this;exact this
theorem zbT {m n:Int} (h:¬(0<=m/\m<n)) (w:World):Calls Tryz.prog 149 #[.int .i64 m,.int .i64 n] w fun e w'=>e= .returned (.bool false)/\w'=w:=by
 have:=zcC m n w;rw[zia h]at this;exact this
theorem zcp (k n:Int) (b:Bool) (w:World):
  Calls Tryz.prog 175 #[.agg #[.int .i64 k,.int .i64 n,.bool b]] w fun e w'=>e= .returned (.bool (enS ⟨k,n,b⟩))/\zc w w':=by
 have H:Hid (enS ⟨k,n,b⟩=(k != 0)):=rfl
 go_enter Tryz.func175,Tryz.ntmps175
 go_wp2;go_ret;exact⟨by rw[H.out];rfl,za _ _⟩
theorem zas {e:En} (h:¬(0<=e.kind/\e.kind<=2)):enW e=1:=by unfold enW;rw[if_neg h]
theorem j2 {e:En} (h:0<=e.kind/\e.kind<=2) (h2:¬(0<=e.n/\e.n<=59/\(e.kind=1->e.n<=39))):enW e=3:=by unfold enW;rw[if_pos h,if_neg h2]
theorem Jj {e:En} (h:0<=e.kind/\e.kind<=2) (h2:0<=e.n/\e.n<=59/\(e.kind=1->e.n<=39)) (h3:(e.kind=0/\(e.n≠0\/e.wr=true))\/(e.kind=2/\e.wr=true)):enW e=7:=by unfold enW;rw[if_pos h,if_pos h2,if_pos h3]
def zhW (a b:En):Bool:=(a.kind == b.kind) &&((a.n == b.n) &&(a.wr == b.wr))
theorem zkV (k n k' n':Int) (b b':Bool) (w:World):(Op.equalIn 10000 74 (.agg #[.int .i64 k,.int .i64 n,.bool b]) (.agg #[.int .i64 k',.int .i64 n',.bool b'])).run Tryz.prog w= .ok (zhW ⟨k,n,b⟩ ⟨k',n',b'⟩) w:=by
 have hf : (Tryz.prog.fieldsOf 74).toList.map (fun f => (f.name, f.type, f.offset)) = [("Kind", 3, 0), ("N", 3, 1), ("Write", 4, 2)] := by kernel_rfl
 rw[run_equalIn_struct w 9999 74 _ _ (by kernel_rfl) (by kernel_rfl)]
 obtain⟨f0,f1,f2,hfs⟩:∃f0 f1 f2,(Tryz.prog.fieldsOf 74).toList=[f0,f1,f2]:=by
  match hq:(Tryz.prog.fieldsOf 74).toList with
  | [f0,f1,f2]=>exact⟨f0,f1,f2,rfl⟩
  | []=>rw[hq]at hf;simp at hf
  | [_]=>rw[hq]at hf;simp at hf
  | [_,_]=>rw[hq]at hf;simp at hf
  | _ :: _ :: _ :: _ :: _=>rw[hq]at hf;simp at hf
 rw[hfs]at hf⊢
 simp at hf
 obtain⟨⟨h1,h2,h3⟩,⟨h4,h5,h6⟩,h7,h8,h9⟩:=hf;have pI:∀(zs:Array Value) (o:Nat) v,zs[o]? =some (.int .i64 v)->(part 3 zs o).run Tryz.prog w= .ok (.int .i64 v) w:=fun zs o v hz=>run_part_plain w (by simp[Program.plainKey,Tryz.underlying3]) hz
 have pB:∀(zs:Array Value) (o:Nat) v,zs[o]? =some (.bool v)->(part 4 zs o).run Tryz.prog w= .ok (.bool v) w:=fun zs o v hz=>run_part_plain w (by simp[Program.plainKey,Tryz.underlying4]) hz
 simp only[Op.eqFields,h1,h2,h3,h4,h5,h6,h7,h8,h9]
 simp[pI,pB,run_equalIn_int w _ _ _ _ _ _ Tryz.underlying3,run_equalIn_bool' w _ _ _ _ Tryz.underlying4]
 unfold zhW
 by_cases e1:k=k' <;> by_cases e2:n=n' <;> cases b <;> cases b' <;> simp[e1,e2]
theorem zb1 (k n:Int) (b:Bool) (w:World):
  Calls Tryz.prog 178 #[.agg #[.int .i64 k,.int .i64 n,.bool b]] w fun e w'=>e= .returned (.int .i64 (enW ⟨k,n,b⟩))/\zc w w':=by
 obtain⟨Z,HZ⟩:∃Z,Hid (enW ⟨k,n,b⟩=Z):=⟨_,rfl⟩;rw[HZ.out]
 by_cases h1:0<=k/\k<=2
 ·have hb1:=fun W=>zaI (m:=k) (n:=3) h1.1 (by omega) W
  by_cases h2:0<=n/\n<=59
  ·have hb2:=fun W=>zaI (m:=n) (n:=60) h2.1 (by omega) W
   by_cases h3:k=1/\39<n
   ·have HF:Hid (Z=3):=show _=_ by rw[<-HZ.out];exact j2 h1 (fun h=>by have:=h.2.2 h3.1;simp at this;omega)
    obtain⟨rfl,h3⟩:=h3;have h4:40<=n:=by omega
    clear h1 h2 h3
    go_enter Tryz.func178,Tryz.ntmps178
    go_wp2_with fail;refine(hb1 _).mono ?_;rintro e w' ⟨rfl,rfl⟩;go_wp2_with fail;refine(hb2 _).mono ?_;rintro e w' ⟨rfl,rfl⟩;go_wp2;go_ret;exact⟨by rw[HF.out];rfl,za _ _⟩
   have hr:0<=n/\n<=59/\(k=1->n<=39):=⟨h2.1,h2.2,fun h=>by omega⟩
   obtain rfl | rfl | rfl:k=0\/k=1\/k=2:=by omega
   ·have hq:=fun W=>zkV 0 n 0 0 b false W
    by_cases hn:n=0/\b=false
    ·have HF:Hid (Z=0):=show _=_ by rw[<-HZ.out];exact Qp h1 hr (fun h=>by simp[hn.1,hn.2]at h)
     obtain⟨rfl,rfl⟩:=hn;rw[show zhW ⟨0,0,false⟩ ⟨0,0,false⟩=true from rfl]at hq
     clear h1 h2 h3 hr
     go_enter Tryz.func178,Tryz.ntmps178
     go_wp2_with fail;refine(hb1 _).mono ?_;rintro e w' ⟨rfl,rfl⟩;go_wp2_with fail;refine(hb2 _).mono ?_;rintro e w' ⟨rfl,rfl⟩;go_wp2;go_ret;exact⟨by rw[HF.out];rfl,za _ _⟩
    have HF:Hid (Z=7):=show _=_ by
     rw[<-HZ.out];refine Jj h1 hr (.inl ⟨rfl,?_⟩)
     cases b with
     | false=>exact .inl (fun h=>hn ⟨h,rfl⟩)
     | true=>exact .inr rfl
    have he:zhW ⟨0,n,b⟩ ⟨0,0,false⟩=false:=by
     unfold zhW
     cases b with
     | false=>simp;exact fun h=>hn ⟨h,rfl⟩
     | true=>simp
    rw[he]at hq;clear h1 h2 h3 hr hn he
    go_enter Tryz.func178,Tryz.ntmps178
    go_wp2_with fail;refine(hb1 _).mono ?_;rintro e w' ⟨rfl,rfl⟩;go_wp2_with fail;refine(hb2 _).mono ?_;rintro e w' ⟨rfl,rfl⟩;go_wp2;go_ret;exact⟨by rw[HF.out];rfl,za _ _⟩
   ·have HF:Hid (Z=0):=show _=_ by rw[<-HZ.out];exact Qp h1 hr (fun h=>by simp at h)
    have h4:¬40<=n:=by omega
    clear h1 h2 h3 hr
    go_enter Tryz.func178,Tryz.ntmps178
    go_wp2_with fail;refine(hb1 _).mono ?_;rintro e w' ⟨rfl,rfl⟩;go_wp2_with fail;refine(hb2 _).mono ?_;rintro e w' ⟨rfl,rfl⟩;go_wp2;go_ret;exact⟨by rw[HF.out];rfl,za _ _⟩
   cases b with
   | false=>
    have HF:Hid (Z=0):=show _=_ by rw[<-HZ.out];exact Qp h1 hr (fun h=>by simp at h)
    clear h1 h2 h3 hr
    go_enter Tryz.func178,Tryz.ntmps178
    go_wp2_with fail;refine(hb1 _).mono ?_;rintro e w' ⟨rfl,rfl⟩;go_wp2_with fail;refine(hb2 _).mono ?_;rintro e w' ⟨rfl,rfl⟩;go_wp2;go_ret;exact⟨by rw[HF.out];rfl,za _ _⟩
   | true=>
    have HF:Hid (Z=7):=show _=_ by rw[<-HZ.out];exact Jj h1 hr (.inr ⟨rfl,rfl⟩)
    clear h1 h2 h3 hr
    go_enter Tryz.func178,Tryz.ntmps178
    go_wp2_with fail;refine(hb1 _).mono ?_;rintro e w' ⟨rfl,rfl⟩;go_wp2_with fail;refine(hb2 _).mono ?_;rintro e w' ⟨rfl,rfl⟩;go_wp2;go_ret;exact⟨by rw[HF.out];rfl,za _ _⟩
  have HF:Hid (Z=3):=show _=_ by rw[<-HZ.out];exact j2 h1 (fun h=>h2 ⟨h.1,h.2.1⟩)
  have hb2:=fun W=>zbT (m:=n) (n:=60) (by omega) W
  clear h1 h2
  go_enter Tryz.func178,Tryz.ntmps178
  go_wp2_with fail;refine(hb1 _).mono ?_;rintro e w' ⟨rfl,rfl⟩;go_wp2_with fail;refine(hb2 _).mono ?_;rintro e w' ⟨rfl,rfl⟩;go_wp2;go_ret;exact⟨by rw[HF.out];rfl,za _ _⟩
 have HF:Hid (Z=1):=show _=_ by rw[<-HZ.out];exact zas h1
 have hb1:=fun W=>zbT (m:=k) (n:=3) (by omega) W
 clear h1
 go_enter Tryz.func178,Tryz.ntmps178
 go_wp2_with fail;refine(hb1 _).mono ?_;rintro e w' ⟨rfl,rfl⟩;go_wp2;go_ret;exact⟨by rw[HF.out];rfl,za _ _⟩
theorem zdb (v:Value) (fs:List En) (w:World) (hv:zo enE w v fs):
  Calls Tryz.prog 233 #[v,.func (.func 175) #[] #[]] w fun e w'=>(∃z:Int,e= .returned (.int .i64 z)/\decide (0<=z)=Za fs)/\zc w w':=by
 have hbig:=hv.short;obtain⟨a,c,rfl,hrow⟩:=hv.ens;have HR:Hid (zcE w a fs):=hrow;clear hrow hv;obtain⟨n,HN⟩:∃n,Hid (fs.length=n):=⟨_,rfl⟩;rw[HN.out]at hbig⊢;obtain⟨ANS,HANS⟩:∃ANS,Hid (Za fs=ANS):=⟨_,rfl⟩;rw[HANS.out];have eg:=enters_of Tryz.func175 (by kernel_rfl) rfl
 go_enter Tryz.func233,Tryz.ntmps233
 go_wp2
 go_loopg [8] n (fun gg s8 wr=>∃kk:Nat,kk<=n/\n - kk<=gg/\s8= .int .i64 kk/\Hid (zc w wr)/\Hid (∀(j:Nat) q,j<kk->fs[j]? =some q->enS q=false))
 case atStart=>exact⟨0,nZ _,by omega,rfl,zc.refl w,fun j q hj=>absurd hj (nL _)⟩
 obtain⟨kk,hkk,hg,rfl,BW,A⟩:=hrel
 by_cases hlt:kk<n
 ·have hltz:(kk:Int)< (n:Int):=by omega
  obtain⟨q,HQ⟩:∃q,Hid (fs[kk]? =some q):=⟨_,gE (by rw[HN.out];exact hlt)⟩
  obtain⟨ad,rfl,hl⟩:=HR.out kk q HQ.out;obtain⟨d0,d1,d2⟩:=hl wr BW.out;clear hl;have hcall:=zcp q.kind q.n q.wr wr
  cases hq:enS q with
  | true=>
   have HF:Hid (decide (0<=(kk:Int))=ANS):=show _=_ by
    rw[<-HANS.out,show Za fs=true from zkL HQ.out hq]
    simp
   rw[show enS ⟨q.kind,q.n,q.wr⟩=true from hq]at hcall
   clear hq;go_wp2_with fail;refine hcall.mono ?_;rintro e W2 ⟨rfl,k1⟩;have G2:=dD (BW.out.trans k1);clear k1 hcall d0 d1 d2;go_wp2;go_ret;exact⟨⟨_,rfl,HF.out⟩,G2.out⟩
  | false=>
   have HA:Hid (∀(j:Nat) q,j<kk+1->fs[j]? =some q->enS q=false):=show∀(j:Nat) q,_ from fun j q' hj hq'=>by
    by_cases e:j=kk
    ·subst e;rw[HQ.out]at hq';cases hq';exact hq
    exact A.out j q' (by omega) hq'
   rw[show enS ⟨q.kind,q.n,q.wr⟩=false from hq]at hcall
   clear hq;go_wp2_with fail;refine hcall.mono ?_;rintro e W2 ⟨rfl,k1⟩;have G2:=dD (BW.out.trans k1);clear k1 hcall d0 d1 d2;go_wp2
   go_roundg (n -(kk+1))
   case measure=>omega
   exact⟨kk+1,by omega,by omega,by go_num,G2.out,HA.out⟩
 have hltz:¬(kk:Int)< (n:Int):=by omega
 have:kk=n:=by omega
 subst this;have HF:Hid (decide (0<=(-1:Int))=ANS):=show _=_ by
  rw[<-HANS.out]
  symm
  exact zkK (fun j x hx=>A.out j x (by rw[<-HN.out];exact(gS.1 hx).1) hx)
 go_wp2;go_ret;exact⟨⟨_,rfl,HF.out⟩,BW.out⟩
theorem za1 (v:Value) (fs:List En) (w:World) (hv:zo enE w v fs):
  Calls Tryz.prog 207 #[v,.func (.func 175) #[] #[]] w fun e w'=>e= .returned (.bool (Za fs))/\zc w w':=by
 have hcall:=zdb v fs w hv;obtain⟨a,c,rfl,_⟩:=hv.rows;clear hv
 generalize fs.length=n at*
 generalize Za fs=A at*
 go_enter Tryz.func207,Tryz.ntmps207
 go_wp2_with fail;refine hcall.mono ?_;rintro e W2 ⟨⟨z,rfl,hz⟩,k1⟩;have HZ:Hid (decide (0<=z)=A):=hz;have G2:Hid (zc w W2):=k1;clear hz k1 hcall;go_wp2;go_ret;exact⟨by rw[<-HZ.out];rfl,G2.out⟩
theorem zcd (v:Value) (fs:List En) (w:World) (hv:zo enE w v fs):
  Calls Tryz.prog 155 #[v] w fun e w'=>∃v',e= .returned v'/\zb enE w.heap.size w' v' fs/\zc w w':=by
 have HV:Hid (zo enE w v fs):=hv;obtain⟨⟨a,c,rfl,hnone,hcells⟩,hbytes⟩:=hv;have q22:∀(w:World) (a:Option Addr) (n c n' c':Nat),(binOp .eql 51 (.slice a n c) (.slice none n' c')).run Tryz.prog w= .ok (.bool a.isNone) w:=fun w a n c n' c'=>Lib.run_eql_slice_nil w _ _ a n c n' c' Tryz.underlying51
 cases a with
 | none=>
  have hps:=hnone rfl;subst hps;clear hcells hnone hbytes HV
  go_enter Tryz.func155,Tryz.ntmps155
  go_wp2;go_ret;exact⟨_,rfl,zb.nil _ _ _,zc.refl w⟩
 | some x=>
  have HB:Hid (fs.length*24<=140737488355328):=hbytes;clear hcells hnone hbytes
  go_enter Tryz.func155,Tryz.ntmps155
  go_wp2_with (at_builtin;refine zB (E:=enE) rfl (.tmp 5) (.tmp 6) rfl w.heap.size _ [] rfl (zb.made enE w) _ fs rfl (HV.out.grew (za _ _)) ?qb (by simp) ?_)
  case qb=>rw[List.length_nil,zA];exact HB.out
  intro v' w1 hown hgrow;go_wp2;go_ret;exact⟨v',rfl,by simpa using hown,((bR _ w).alloc (nR _) _).grown hgrow (by simp) (by intro k hk;simp[Value.ownBlock]at hk;omega)⟩
theorem Box.range {w:World} {b:Nat} {cs:List Value} (h:Box w b cs):w.rangeAt b 0 cs:=fun j v hj=>by
 rw[zA];exact h.c j hj
theorem Box.there {w:World} {b:Nat} {cs:List Value} (h:Box w b cs):w.there b 0 cs.length:=fun j hj=>by
 rw[zA];exact⟨by rw[h.c j (gE hj)];rfl,h.f j⟩
theorem Box.part {w:World} {b:Nat}:∀{ds cs:List Value} {o:Nat},Box w b cs->o+ds.length<=cs.length->Box (w.setCells b o ds) b (splice cs o ds):=by
 have key:∀(ds cs:List Value) (o:Nat) (w:World),Box w b cs->o+ds.length<=cs.length->Box (w.setCells b o ds) b (splice cs o ds):=fun ds=>by
  induction ds with
  | nil=>
   intro cs o w h hl;have:splice cs o []=cs:=by simp[splice]
   rw[this];exact h
  | cons d ds ih=>
   intro cs o w h hl;simp only[List.length_cons]at hl;have h1:=h.set o d;have h2:=ih (cs.set o d) (o+1) (w.setCell ⟨b,o,none⟩ d) h1 (by simp;omega)
   have h3:splice (cs.set o d) (o+1) ds=splice cs o (d :: ds):=by
    unfold splice;rw[List.take_set,List.drop_set,if_pos (by omega),List.take_add_one,gE (by omega)]
    simp only[List.length_cons,Option.toList_some];rw[List.set_append_right _ _ (by simp;omega),show o+1+ds.length=o+(ds.length+1) by omega]
    simp[List.length_take,Nat.min_eq_left (show o<=cs.length by omega)]
   rw[h3]at h2;exact h2
 exact fun{ds cs o} h hl=>key ds cs o w h hl
theorem zO (b:Nat):∀(ds:List Value) (o:Nat) (w:World),w.grownBy (w.setCells b o ds) (some b)/\(w.setCells b o ds).heap.size=w.heap.size
 | [],_,w=>⟨World.grownBy.rfl' _ _,rfl⟩
 | d :: ds,o,w=>by
  obtain⟨h1,h2⟩:=zO b ds (o+1) (w.setCell ⟨b,o,none⟩ d);have h3:w.grownBy (w.setCell ⟨b,o,none⟩ d) (some b):=⟨rfl,rfl,rfl,by simp[World.setCell],fun k _ hk=>Below.heap_setCell _ _ _ _ (fun e=>hk (by rw[e]))⟩
  exact⟨JY h3 h1,h2.trans (by simp[World.setCell])⟩
theorem zG {ops:Array Oper} {rest:List Oper} {o:Oper} {a:Act} {w:World} {Q:Exit->Act->World->Prop} (hgd:o.guard=none) (ty:TypeId) (x:Operand) (ho:o.op= .load ty x) (b:Nat) (hx:a.eval x= .pointer (some ⟨b,0,none⟩)) {vs:List Value} (hb:Box w b vs) {d:TypeDesc} (hu:Tryz.prog.underlying ty=some d) (hd:d.isRow=true) (hi:(Tryz.prog.info? ty).map (·.size)=some vs.length)
  (h:wpList Tryz.prog ops Q rest (a.put o.dst (.agg vs.toArray)) w):wpList Tryz.prog ops Q (o :: rest) a w:=
 wpList_load_mid hgd ty x ho b 0 hx vs _ hb.range hu hd hi h
theorem zay {cs vs:List Value} (h:vs.length=cs.length):splice cs 0 vs=vs:=by
 unfold splice;rw[List.take_zero,List.nil_append,zA,List.drop_of_length_le (by omega),List.append_nil]
theorem zQ {ops:Array Oper} {rest:List Oper} {o:Oper} {a:Act} {w:World} {Q:Exit->Act->World->Prop} (hgd:o.guard=none) (ty:TypeId) (p x:Operand) (ho:o.op= .store ty p x) (b:Nat) (hp:a.eval p= .pointer (some ⟨b,0,none⟩)) (vs:List Value) (hx:a.eval x= .agg vs.toArray)
  {cs:List Value} (hb:Box w b cs) (hl:vs.length=cs.length) (hi:(Tryz.prog.info? ty).map (·.size)=some cs.length) (h1:∀v∈vs,v.oneCell'=true)
  (h:∀w',Box w' b vs->w.grownBy w' (some b)->w'.heap.size=w.heap.size->wpList Tryz.prog ops Q rest (a.put o.dst undef) w'):wpList Tryz.prog ops Q (o :: rest) a w:=by
 refine wpList_store_mid hgd ty p x ho b 0 vs.toArray hp hx ?_ ?_ (all_oneCell_toArray h1) ?_
 ·simpa [hl]using hb.there
 ·simpa [hl]using hi
 have:=hb.part (ds:=vs) (o:=0) (by omega)
 rw[zay hl]at this;exact h _ this (zO b vs 0 w).1 (zO b vs 0 w).2
theorem zeJ {ops:Array Oper} {rest:List Oper} {op:Oper} {a:Act} {w:World} {Q:Exit->Act->World->Prop} (hgd:op.guard=none) (ty:TypeId) (p x:Operand) (ho:op.op= .store ty p x) (b o:Nat) (hp:a.eval p= .pointer (some ⟨b,o,none⟩)) (vs:List Value) (hx:a.eval x= .agg vs.toArray)
  {cs:List Value} (hb:Box w b cs) (hl:o+vs.length<=cs.length) (hi:(Tryz.prog.info? ty).map (·.size)=some vs.length) (h1:∀v∈vs,v.oneCell'=true)
  (h:∀w',Box w' b (splice cs o vs)->w.grownBy w' (some b)->w'.heap.size=w.heap.size->wpList Tryz.prog ops Q rest (a.put op.dst undef) w'):wpList Tryz.prog ops Q (op :: rest) a w:=by
 refine wpList_store_mid hgd ty p x ho b o vs.toArray hp hx ?_ ?_ (all_oneCell_toArray h1) ?_
 ·intro j hj;have:=hb.there (o+j) (by simp at hj;omega)
  rw[zA]at this;exact this
 ·simpa using hi
 exact h _ (hb.part hl) (zO b vs o w).1 (zO b vs o w).2
theorem Box.mid {w:World} {b:Nat} {cs vs:List Value} (h:Box w b cs) (o:Nat) (hv:∀(j:Nat) v,vs[j]? =some v->cs[o+j]? =some v):w.rangeAt b o vs:=fun j v hj=>h.c _ (hv j v hj)
theorem zW {fn:Func} {p:Tmp} {ty:TypeId} (h:fn.results=#[.cell p ty]) (tmps:Array Value) {w:World} {b:Nat} (hp:tmps.getD p undef= .pointer (some ⟨b,0,none⟩)) {vs:List Value} (hb:Box w b vs) {d:TypeDesc} (hu:Tryz.prog.underlying ty=some d) (hd:d.isRow=true) (hi:(Tryz.prog.info? ty).map (·.size)=some vs.length):
  (results fn tmps).run Tryz.prog w= .ok (.agg vs.toArray) w:=by
 have hp':tmps[p]?.getD undef= .pointer (some ⟨b,0,none⟩):=by simpa using hp
 have hld:=run_loadVar_mid (P:=Tryz.prog) w b 0 ty vs d hb.range hu hd hi
 simp[results,h,hp',asAddr,hld]
theorem jF {P:Program} {ops:Array Oper} {Q:Exit->Act->World->Prop} {i:Nat} {o:Oper} {a:Act} {w:World} {next:Act->World->Prop} (d:Option Tmp) (K:Value->World->Prop) (hi:ops[i]? =some o) (hd:o.dst=d) (hw:Region.wanted o (yielded ops a.tmps)=true) (h:zL P o a w K) (hn:∀v w',K v w'->next (a.put d v) w'):wpOp P ops Q i next a w:=by
 subst hd;unfold wpOp;simp only[hi,hw,if_true];exact .inl (h.wp hn)
theorem zL.storeAll {o:Oper} {a:Act} {w:World} {K:Value->World->Prop} (ty:TypeId) (p x:Operand) (ho:o.op= .store ty p x) (b:Nat) (hp:a.eval p= .pointer (some ⟨b,0,none⟩)) (vs:List Value) (hx:a.eval x= .agg vs.toArray)
  {cs:List Value} (hb:Box w b cs) (hl:vs.length=cs.length) (hi:(Tryz.prog.info? ty).map (·.size)=some cs.length) (h1:∀v∈vs,v.oneCell'=true)
  (h:∀w',Box w' b vs->w.grownBy w' (some b)->w'.heap.size=w.heap.size->K undef w'):zL Tryz.prog o a w K:=by
 unfold zL;have hr:(execOp a.eval o).run Tryz.prog w= .ok .skip (w.setCells b 0 vs):=by
  have:=run_storeAt_mid (P:=Tryz.prog) w b 0 ty vs.toArray (by simpa [hl]using hb.there) (by simpa [hl]using hi) (all_oneCell_toArray h1)
  simp only[execOp,ho,hp,hx,Sem.run_bind,this,rA,Sem.run_pure]
 rw[hr];have hp:=hb.part (ds:=vs) (o:=0) (by omega)
 rw[zay hl]at hp;exact h _ hp (zO b vs 0 w).1 (zO b vs 0 w).2
theorem zlh:(Tryz.prog.info? 53).map (·.size)=some 8:=by kernel_rfl
theorem jA {ops:Array Oper} {rest:List Oper} {o:Oper} {a:Act} {w:World} {Q:Exit->Act->World->Prop} (hgd:o.guard=none) (x:Operand) (ho:o.op= .load 53 x) (b:Nat) (hx:a.eval x= .pointer (some ⟨b,0,none⟩)) {vs:List Value} (hb:Box w b vs) (hl:vs.length=8)
  (h:wpList Tryz.prog ops Q rest (a.put o.dst (.agg vs.toArray)) w):wpList Tryz.prog ops Q (o :: rest) a w:=
 wpList_load_mid hgd 53 x ho b 0 hx vs _ hb.range Tryz.underlying53 rfl (by rw[hl];exact zlh) h
theorem ziw {w:World} {vs:List Value} (i:Nat) (hi:i<8) {v:Value} (hv:vs[i]? =some v):(Instr.index 53 (.agg vs.toArray) (.int .i64 (i:Int))).run Tryz.prog w= .ok v w:=by
 have ha:(isAgg 51).run Tryz.prog w= .ok false w:=by
  unfold isAgg;rw[Sem.run_bind,run_underlying Tryz.underlying51 w];rfl
 have hs:(Go.sizeOf 51).run Tryz.prog w= .ok 1 w:=by
  obtain⟨i0,h1,h2⟩:∃i0,Tryz.prog.info? 51=some i0/\i0.size=1:=by
   have:(Tryz.prog.info? 51).map (·.size)=some 1:=by kernel_rfl
   cases hq:Tryz.prog.info? 51 with
   | none=>rw[hq]at this;cases this
   | some i0=>rw[hq]at this;exact⟨i0,rfl,by simpa using this⟩
  simp[Go.sizeOf,typeInfo,h1,h2]
 have hlt:(0:Int)<=(i:Int)/\(i:Int)< ((8:Nat):Int):=by omega
 simp only[Instr.index,asIntOf,Sem.run_bind,Sem.run_pure,rA,run_underlying Tryz.underlying53];rw[if_pos hlt];simp only[Sem.run_bind,hs,rA,part,ha,Nat.mul_one,tN]
 simp[hv]
theorem zbn {ops:Array Oper} {rest:List Oper} {o:Oper} {a:Act} {w:World} {Q:Exit->Act->World->Prop} (hgd:o.guard=none) (x ix:Operand) (ho:o.op= .index 53 x ix) (vs:List Value) (hx:a.eval x= .agg vs.toArray) (i:Nat) (hix:a.eval ix= .int .i64 (i:Int)) (hi:i<8) {v:Value} (hv:vs[i]? =some v)
  (h:wpList Tryz.prog ops Q rest (a.put o.dst v) w):wpList Tryz.prog ops Q (o :: rest) a w:=by
 refine wpList_plain hgd fun K hK=>?_
 unfold Oper.wp execOp;simp only[ho,hx,hix,Sem.run_bind,Sem.run_pure,rA,ziw i hi hv];exact hK _ _ h
theorem ZO {fn:Func} {p u:Tmp} {ty:TypeId} (h:fn.results=#[.cell p ty,.tmp u]) (tmps:Array Value) {w:World} {b:Nat} (hp:tmps.getD p undef= .pointer (some ⟨b,0,none⟩)) {vs:List Value} (hb:Box w b vs) {d:TypeDesc} (hu:Tryz.prog.underlying ty=some d) (hd:d.isRow=true) (hi:(Tryz.prog.info? ty).map (·.size)=some vs.length):
  (results fn tmps).run Tryz.prog w= .ok (.tuple #[.agg vs.toArray,tmps.getD u undef]) w:=by
 have hld:=run_loadVar_mid (P:=Tryz.prog) w b 0 ty vs d hb.range hu hd hi;rw[results_cell_tmp h,hp]
 simp[asAddr,Result.andThen,hld]
theorem Jq.one {B0 B1:Nat} {w:World} {vs:List Value} {t:List (List En)} (h:Jq B0 B1 w vs t):∀v∈vs,v.oneCell'=true:=fun v hv=>by
 obtain⟨i,hi⟩:=List.getElem?_of_mem hv;have hlt:i<8:=by rw[<-h.len];exact(gS.1 hi).1
 obtain⟨a,c,x,_,h2,_⟩:=h.now.half hlt;rw[h2]at hi;cases hi;rfl
structure jE (base:Nat) (w:World) (vs:List Value) (t:List (List En)):Prop where
 len:vs.length=8
 tlen:t.length=8
 row:∀(i:Nat) v h,vs[i]? =some v->t[i]? =some h->zb enE base w v h
 two:∀(i j:Nat) u v,i≠j->vs[i]? =some u->vs[j]? =some v->∀g,u.ownBlock=some g->v.ownBlock≠some g
theorem jE.new {base:Nat} {w:World} {vs:List Value} {t:List (List En)} (h:jE base w vs t):Jq 0 base w vs t:=⟨h.len,h.tlen,fun i v x hv hx=>(h.row i v x hv hx).new.stays⟩
theorem jE.grew {base:Nat} {w w':World} {vs:List Value} {t:List (List En)} (h:jE base w vs t) (k:zc w w'):jE base w' vs t:=⟨h.len,h.tlen,fun i v x hv hx=>(h.row i v x hv hx).grew k,h.two⟩
theorem jE.base {base base':Nat} {w:World} {vs:List Value} {t:List (List En)} (h:jE base w vs t) (hb:base'<=base):jE base' w vs t:=⟨h.len,h.tlen,fun i v x hv hx=>(h.row i v x hv hx).base hb,h.two⟩
structure zie (base:Nat) (w:World) (kk:Nat) (vs us:List Value) (t:List (List En)):Prop where
 len:us.length=8
 own:∀(i:Nat) v h,i<kk->us[i]? =some v->t[i]? =some h->zb enE base w v h
 two:∀(i j:Nat) u v,i<kk->j<kk->i≠j->us[i]? =some u->us[j]? =some v->∀g,u.ownBlock=some g->v.ownBlock≠some g
 one:∀v∈us,v.oneCell'=true
theorem zie.step {base:Nat} {w w1:World} {kk:Nat} {vs us:List Value} {t:List (List En)} (h:zie base w kk vs us t) (ht:t.length=8) (hg:zc w w1) {x:List En} {v:Value} (hk:kk<8) (hx:t[kk]? =some x) (hown:zb enE w.heap.size w1 v x) (hb:base<=w.heap.size) {p:Addr} (hp:p.block<base) (u:Value):zie base (w1.setCell p u) (kk+1) vs (us.set kk v) t:=by
 have hlt:∀(j:Nat) u,j<kk->us[j]? =some u->∀g,u.ownBlock=some g->g<w.heap.size:=fun j u hj hu g hg=>by
  obtain⟨y,hy⟩:∃y,t[j]? =some y:=⟨_,gE (by rw[ht,<-h.len];exact(gS.1 hu).1)⟩
  exact((h.own j u y hj hu hy).lt g hg).2
 refine⟨by simp[h.len],fun i y f hi hy hf=>?_,fun i j p' q hi hj hij hp' hq g h1 h2=>?_,fun y hy=>?_⟩
 ·by_cases e:i=kk
  ·subst e;rw[sF (by rw[h.len];exact hk)]at hy
   cases hy;rw[hx]at hf;cases hf;exact(hown.base hb).setCell hp u
  rw[sN (fun h=>e h.symm)]at hy
  exact((h.own i y f (by omega) hy hf).grew hg).setCell hp u
 ·by_cases e1:i=kk
  ·subst e1;rw[sF (by rw[h.len];exact hk)]at hp'
   cases hp';rw[sN hij]at hq;have:=hlt j q (by omega) hq g h2
   have:=(hown.lt g h1).1;omega
  rw[sN (fun h=>e1 h.symm)]at hp'
  by_cases e2:j=kk
  ·subst e2;rw[sF (by rw[h.len];exact hk)]at hq
   cases hq;have:=hlt i p' (by omega) hp' g h1
   have:=(hown.lt g h2).1;omega
  rw[sN (fun h=>e2 h.symm)]at hq
  exact h.two i j p' q (by omega) (by omega) hij hp' hq g h1 h2
 rcases List.mem_or_eq_of_mem_set hy with h1 | h1
 ·exact h.one y h1
 subst h1;obtain⟨a,c,rfl⟩:=hown.form;rfl
theorem zhj (vs:List Value) (t:List (List En)) (w:World) (hv:ZH w vs t):
  Calls Tryz.prog 114 #[.agg vs.toArray] w fun e w'=>∃us,e= .returned (.agg us.toArray)/\jE (w.heap.size+2) w' us t/\zc w w'/\w.heap.size+2<=w'.heap.size:=by
 have HV:Hid (ZH w vs t):=hv;have HL:Hid (vs.length=8):=hv.len;clear hv;obtain⟨W0,hW0⟩:∃W0,(w.alloc (.cells vs.toArray 53)).alloc (.cells #[.slice none 0 0,.slice none 0 0,.slice none 0 0,.slice none 0 0,.slice none 0 0,.slice none 0 0,.slice none 0 0,.slice none 0 0] 53)=W0:=⟨_,rfl⟩;have HG0:=gD2 hW0
 have X0:=x2a hW0
 have Y0:Hid (Box W0 (w.heap.size+1) zah):=show Box _ _ _ by rw[<-hW0];exact Box.top _ zah _ (by simp)
 have HS0:Hid (W0.heap.size=w.heap.size+2):=show _=_ by rw[<-hW0];simp
 have HW0:Hid (_=W0):=hW0;clear hW0
 go_enter Tryz.func114,Tryz.ntmps114
 go_upto_region 1 with fail;rw[HW0.out]
 go_wp2_with (refine jA rfl (.tmp 1) rfl w.heap.size rfl X0.out HL.out ?_)
 go_loopg [6] 8 (fun gg s6 wr=>∃(kk:Nat) (us:List Value),kk<=8/\8 - kk<=gg/\s6= .int .i64 kk/\Hid (zc w wr)/\Hid (w.heap.size+2<=wr.heap.size)/\Hid (Box wr w.heap.size us)/\Hid (Box wr (w.heap.size+1) zah)/\Hid (zie (w.heap.size+2) wr kk vs us t))
 case atStart=>exact⟨0,vs,nZ _,by omega,rfl,HG0.out,by rw[HS0.out];exact nR _,X0.out,Y0.out,⟨HL.out,fun i v h hi=>absurd hi (nL _),fun i j u v hi=>absurd hi (nL _),HV.out.one⟩⟩
 obtain⟨kk,us,hkk,hg,rfl,BW,SW,XW,YW,HH⟩:=hrel
 by_cases hlt:kk<8
 ·have hltz:(kk:Int)<8:=by omega
  obtain⟨xa,xc,q,hq,hvk,hr⟩:=HV.out.half hlt;have HQ:Hid (t[kk]? =some q):=hq;have HVK:Hid (vs[kk]? =some (.slice xa q.length xc)):=hvk;have hcall:=zcd (.slice xa q.length xc) q wr (hr.grew BW.out);clear hq hvk hr
  generalize q.length=nq at hcall HVK
  go_wp2_with (refine zbn rfl (.tmp 5) (.tmp 6) rfl vs rfl kk rfl hlt HVK.out ?_)
  refine hcall.mono ?_;rintro e W2 ⟨v2,rfl,ow2,g2⟩;obtain⟨a2,c2,rfl⟩:=ow2.form;have O2:Hid (zb enE wr.heap.size W2 (.slice a2 q.length c2) q):=ow2;have G2:Hid (zc wr W2):=g2;have X2:=dD (XW.out.grew g2);clear ow2 g2 hcall
  generalize q.length=nb at O2⊢
  obtain⟨uk,huk⟩:∃uk,us[kk]? =some uk:=⟨_,gE (by rw[HH.out.len];exact hlt)⟩
  have x0:=X2.out.c kk huk;have xf:=X2.out.f;clear huk;go_wp2;have HH3:Hid (zie (w.heap.size+2) (W2.setCell ⟨w.heap.size,kk,none⟩ (.slice a2 nb c2)) (kk+1) vs (us.set kk (.slice a2 nb c2)) t):=HH.out.step HV.out.tlen G2.out hlt HQ.out O2.out SW.out (by simp) _
  have X3:Hid (Box (W2.setCell ⟨w.heap.size,kk,none⟩ (.slice a2 nb c2)) w.heap.size (us.set kk (.slice a2 nb c2))):=X2.out.set kk _;have Y3:Hid (Box (W2.setCell ⟨w.heap.size,kk,none⟩ (.slice a2 nb c2)) (w.heap.size+1) zah):=(YW.out.grew G2.out).other (by simp) _
  have G3:Hid (zc w (W2.setCell ⟨w.heap.size,kk,none⟩ (.slice a2 nb c2))):=show zc _ _ from Below.setCell (BW.out.trans G2.out) (p:=⟨w.heap.size,kk,none⟩) (by simp) _
  have S3:Hid (w.heap.size+2<=(W2.setCell ⟨w.heap.size,kk,none⟩ (.slice a2 nb c2)).heap.size):=show _<=_ by
   have:=bS G2.out;have:=SW.out
   simp[World.setCell]
   omega
  go_roundg (8 -(kk+1))
  case measure=>omega
  exact⟨kk+1,_,by omega,by omega,by go_num,G3.out,S3.out,X3.out,Y3.out,HH3.out⟩
 have hltz:¬(kk:Int)<8:=by omega
 have:kk=8:=by omega
 subst this;have OA:Hid (jE (w.heap.size+2) wr us t):=show jE _ _ _ _ from⟨HH.out.len,HV.out.tlen,fun i v h hv' hh=>HH.out.own i v h (by rw[<-HH.out.len];exact(gS.1 hv').1) hv' hh,fun i j u v hij hu hv'=>HH.out.two i j u v (by rw[<-HH.out.len];exact(gS.1 hu).1) (by rw[<-HH.out.len];exact(gS.1 hv').1) hij hu hv'⟩
 go_wp2_with (first | refine jA rfl (.tmp 1) rfl w.heap.size rfl XW.out HH.out.len ?_ | refine zQ rfl 53 (.tmp 2) (.tmp 15) rfl (w.heap.size+1) rfl us rfl YW.out HH.out.len zlh HH.out.one ?_)
 intro W3 b3 g3 s3;have OB:Hid (jE (w.heap.size+2) W3 us t):=show jE _ _ _ _ from⟨OA.out.len,OA.out.tlen,fun i v h hv' hh=>(OA.out.row i v h hv' hh).grown g3 (fun g hg e=>by
  cases e;have:=((OA.out.row i v h hv' hh).lt _ hg).1
  omega),OA.out.two⟩
 have G3:Hid (zc w W3):=show zc _ _ from zg BW.out g3 (by simp)
 have S3:Hid (w.heap.size+2<=W3.heap.size):=show _<=_ by rw[s3];exact SW.out
 have B3:Hid (Box W3 (w.heap.size+1) us):=b3;clear b3 g3 s3;go_wp2;refine bodyPost_ret (zW rfl _ rfl B3.out Tryz.underlying53 rfl (by rw[HH.out.len];exact zlh)) rfl ⟨us,rfl,OB.out,G3.out,S3.out⟩
def arv (a:Ar):List Value:=[.int .i64 a.fr,.int .i64 a.tz,.bool a.rd,.bool a.wr,.bool a.sh,.int .i64 a.file,.int .i64 a.base]
def arA (a:Ar):Value:= .agg #[.int .i64 a.fr,.int .i64 a.tz,.bool a.rd,.bool a.wr,.bool a.sh,.int .i64 a.file,.int .i64 a.base]
theorem zli:(Tryz.prog.info? 114).map (fun i=>(i.zero,i.size,i.bytes))=some (some (.agg #[.int .i64 0,.int .i64 0,.bool false,.bool false,.bool false,.int .i64 0,.int .i64 0]),7,40):=by kernel_rfl
theorem zlj:(Tryz.prog.info? 114).map (·.size)=some 7:=by kernel_rfl
theorem zlk:(Tryz.prog.info? 163).map (·.size)=some 2:=by kernel_rfl
theorem zll:(Tryz.prog.info? 61).map (·.size)=some 6:=by kernel_rfl
theorem zlm:(Tryz.prog.info? 62).map (·.size)=some 384:=by kernel_rfl
def arE:Elt Ar where
 enc:=arv
 k:=7
 ty:=114
 st:=50
 bytes:=40
 zv:= .agg #[.int .i64 0,.int .i64 0,.bool false,.bool false,.bool false,.int .i64 0,.int .i64 0]
 zero:=ar0
 len:=fun _=>rfl
 one:=fun a u hu=>by
  simp only[arv,mC,nM,or_false]at hu
  rcases hu with rfl | rfl | rfl | rfl | rfl | rfl | rfl <;> rfl
 und:=Tryz.underlying50
 info:=zli
 zok:=rfl
 few:=by decide
 pos:=by decide
def zkl (W:World) (y:Addr) (e:Ar):Prop:=W.cell? y=some (.int .i64 e.fr)/\W.cell? { block:=y.block,off:=y.off+1 }=some (.int .i64 e.tz)/\W.cell? { block:=y.block,off:=y.off+2 }=some (.bool e.rd)/\W.cell? { block:=y.block,off:=y.off+3 }=some (.bool e.wr)/\W.cell? { block:=y.block,off:=y.off+4 }=some (.bool e.sh)/\W.cell? { block:=y.block,off:=y.off+5 }=some (.int .i64 e.file)/\W.cell? { block:=y.block,off:=y.off+6 }=some (.int .i64 e.base)
def zbX (w:World) (a:Option Addr) (l:List Ar):Prop:=∀(j:Nat) e,l[j]? =some e->∃ad,a=some ad/\∀W,zc w W->zkl W (ad.add (j*7)) e
theorem zo.ars {w:World} {v:Value} {l:List Ar} (h:zo arE w v l):∃a c,v= .slice a l.length c/\zbX w a l:=by
 obtain⟨a,c,h1,h2⟩:=h.rows;refine⟨a,c,h1,fun j x hj=>?_⟩
 obtain⟨ad,h3,h4⟩:=h2 j x hj;exact⟨ad,h3,fun W hW=>⟨h4 W hW 0 _ rfl,h4 W hW 1 _ rfl,h4 W hW 2 _ rfl,h4 W hW 3 _ rfl,h4 W hW 4 _ rfl,h4 W hW 5 _ rfl,h4 W hW 6 _ rfl⟩⟩
def onv (x:On):List Value:=[.bool x.is,.bool x.rd,.bool x.wr,.bool x.sh,.int .i64 x.file,.int .i64 x.page]
def tab {α:Type} (f:Nat->α):List α:=(List.range 64).map f
theorem Qa {α:Type} (f:Nat->α):(tab f).length=64:=by simp[tab]
theorem QO {α:Type} {f:Nat->α} {k:Nat} (h:k<64):(tab f)[k]? =some (f k):=by
 unfold tab;rw[List.getElem?_map,List.getElem?_range h];rfl
theorem zjK {α:Type} {f g:Nat->α} (h:∀k,k<64->f k=g k):tab f=tab g:=by
 unfold tab;exact List.map_congr_left fun k hk=>h k (List.mem_range.1 hk)
def upd {α:Type} (f:Nat->α) (k:Nat) (x:α):Nat->α:=fun j=>if j=k then x else f j
theorem zeM {α:Type} (f:Nat->α) (k:Nat) (x:α):(tab f).set k x=tab (upd f k x):=by
 apply List.ext_getElem?
 intro j
 by_cases hj:j<64
 ·rw[QO hj];unfold upd
  by_cases e:j=k
  ·subst e;rw[sF (by rw[Qa];exact hj),if_pos rfl]
  rw[sN (fun h=>e h.symm),QO hj,if_neg e]
 rw[gN (by simp[tab];omega),gN (by simp[tab];omega)]
def zt (l:List On):List Value:=l.flatMap onv
theorem zgS (l:List On):(zt l).length=l.length*6:=qI l (fun _ _=>rfl)
theorem zhk (x:On):∀u∈onv x,u.oneCell'=true:=fun u hu=>by
 simp only[onv,mC,nM,or_false]at hu
 rcases hu with rfl | rfl | rfl | rfl | rfl | rfl <;> rfl
theorem Qr (l:List On):∀v∈zt l,v.oneCell'=true:=qX zhk l
def Jx:Elt Fr where
 enc:=frv
 k:=13
 ty:=69
 st:=26
 bytes:=40
 zv:=frz
 zero:=fr0
 len:=QH
 one:=zfe
 und:=Tryz.underlying26
 info:=zk9
 zok:=zhL
 few:=by decide
 pos:=by decide
theorem zkF {w:World} {v:Value} {l:List Fr}:zo Jx w v l↔zY w v l:=Iff.rfl
def cav (c:Ca):List Value:=[.int .i64 c.file,.int .i64 c.idx,.int .i64 c.fr]
theorem zln:(Tryz.prog.info? 124).map (fun i=>(i.zero,i.size,i.bytes))=some (some (.agg #[.int .i64 0,.int .i64 0,.int .i64 0]),3,24):=by kernel_rfl
def qY:Elt Ca where
 enc:=cav
 k:=3
 ty:=124
 st:=38
 bytes:=24
 zv:= .agg #[.int .i64 0,.int .i64 0,.int .i64 0]
 zero:=⟨0,0,0⟩
 len:=fun _=>rfl
 one:=fun a u hu=>by
  simp only[cav,mC,nM,or_false]at hu
  rcases hu with rfl | rfl | rfl <;> rfl
 und:=Tryz.underlying38
 info:=zln
 zok:=rfl
 few:=by decide
 pos:=by decide
def zih (W:World) (y:Addr) (c:Ca):Prop:=W.cell? y=some (.int .i64 c.file)/\W.cell? { block:=y.block,off:=y.off+1 }=some (.int .i64 c.idx)/\W.cell? { block:=y.block,off:=y.off+2 }=some (.int .i64 c.fr)
def zaX (w:World) (a:Option Addr) (l:List Ca):Prop:=∀(j:Nat) c,l[j]? =some c->∃ad,a=some ad/\∀W,zc w W->zih W (ad.add (j*3)) c
theorem zo.cas {w:World} {v:Value} {l:List Ca} (h:zo qY w v l):∃a c,v= .slice a l.length c/\zaX w a l:=by
 obtain⟨a,c,h1,h2⟩:=h.rows;refine⟨a,c,h1,fun j x hj=>?_⟩
 obtain⟨ad,h3,h4⟩:=h2 j x hj;exact⟨ad,h3,fun W hW=>⟨h4 W hW 0 _ rfl,h4 W hW 1 _ rfl,h4 W hW 2 _ rfl⟩⟩
structure Sli where
 a:Option Addr
 n:Nat
 c:Nat
def Sli.v (s:Sli):Value:= .slice s.a s.n s.c
def zw:Sli:=⟨none,0,0⟩
theorem zo.n {α:Type} {E:Elt α} {w:World} {a:Option Addr} {n c:Nat} {l:List α} (h:zo E w (.slice a n c) l):n=l.length:=by
 obtain⟨_,_,h1,_⟩:=h.rows;cases h1;rfl
theorem zb.n {α:Type} {E:Elt α} {b:Nat} {w:World} {a:Option Addr} {n c:Nat} {l:List α} (h:zb E b w (.slice a n c) l):n=l.length:=h.at.n
structure SpV where
 live:Bool
 ar:Sli
 (t0 t1 t2 t3 t4 t5 t6 t7:Sli)
def SpV.tab (x:SpV):List Value:=[x.t0.v,x.t1.v,x.t2.v,x.t3.v,x.t4.v,x.t5.v,x.t6.v,x.t7.v]
def spv (x:SpV):List Value:=[.bool x.live,x.ar.v,x.t0.v,x.t1.v,x.t2.v,x.t3.v,x.t4.v,x.t5.v,x.t6.v,x.t7.v]
def spz:Value:= .agg #[.bool false,.slice none 0 0,.slice none 0 0,.slice none 0 0,.slice none 0 0,.slice none 0 0,.slice none 0 0,.slice none 0 0,.slice none 0 0,.slice none 0 0]
theorem zlo:(Tryz.prog.info? 55).map (fun i=>(i.zero,i.size,i.bytes))=some (some spz,10,224):=by kernel_rfl
def Zl:Elt SpV where
 enc:=spv
 k:=10
 ty:=55
 st:=39
 bytes:=224
 zv:=spz
 zero:=⟨false,zw,zw,zw,zw,zw,zw,zw,zw,zw⟩
 len:=fun _=>rfl
 one:=fun a u hu=>by
  simp only[spv,mC,nM,or_false]at hu
  rcases hu with rfl | rfl | rfl | rfl | rfl | rfl | rfl | rfl | rfl | rfl <;> rfl
 und:=Tryz.underlying39
 info:=zlo
 zok:=rfl
 few:=by decide
 pos:=by decide
structure qL (w:World) (x:SpV) (s:Sp):Prop where
 live:x.live=s.live
 ar:zo arE w (.slice x.ar.a x.ar.n x.ar.c) s.ars
 cap:x.ar.n<=x.ar.c
 tb:ZH w x.tab s.tb
theorem qL.grew {w w':World} {x:SpV} {s:Sp} (h:qL w x s) (k:zc w w'):qL w' x s:=⟨h.live,h.ar.grew k,h.cap,h.tb.grew k⟩
def QK (w:World) (v:Value) (ss:List Sp):Prop:=∃xs:List SpV,zo Zl w v xs/\xs.length=ss.length/\∀(i:Nat) x s,xs[i]? =some x->ss[i]? =some s->qL w x s
theorem QK.grew {w w':World} {v:Value} {ss:List Sp} (h:QK w v ss) (k:zc w w'):QK w' v ss:=by
 obtain⟨xs,h1,h2,h3⟩:=h;exact⟨xs,h1.grew k,h2,fun i x s hx hs=>(h3 i x s hx hs).grew k⟩
structure MaV where
 (f s sb sq db dq fl ca sp:Sli)
structure zC (w:World) (V:MaV) (m:Ma):Prop where
 fs:zo Jx w (.slice V.f.a V.f.n V.f.c) m.fs
 sl:zo slE w (.slice V.s.a V.s.n V.s.c) m.sl
 sb:qt w (.slice V.sb.a V.sb.n V.sb.c) m.sb
 sq:qK w (.slice V.sq.a V.sq.n V.sq.c) m.sq
 db:qt w (.slice V.db.a V.db.n V.db.c) m.db
 dq:qK w (.slice V.dq.a V.dq.n V.dq.c) m.dq
 fl:qN w (.slice V.fl.a V.fl.n V.fl.c) m.fl
 ca:zo qY w (.slice V.ca.a V.ca.n V.ca.c) m.ca
 sp:QK w (.slice V.sp.a V.sp.n V.sp.c) m.sp
theorem zC.grew {w w':World} {V:MaV} {m:Ma} (h:zC w V m) (k:zc w w'):zC w' V m:=⟨h.fs.grew k,h.sl.grew k,h.sb.grew k,h.sq.grew k,h.db.grew k,h.dq.grew k,QT.grew h.fl k,h.ca.grew k,h.sp.grew k⟩
theorem qt.n {w:World} {a:Option Addr} {n c:Nat} {l:List (List Int)} (h:qt w (.slice a n c) l):n=l.length:=by
 obtain⟨⟨_,_,h1,_⟩,_⟩:=h;cases h1;rfl
theorem qK.n {w:World} {a:Option Addr} {n c:Nat} {l:List (Int × List Int)} (h:qK w (.slice a n c) l):n=l.length:=by
 obtain⟨⟨_,_,h1,_⟩,_⟩:=h;cases h1;rfl
theorem qN.n {w:World} {a:Option Addr} {n c:Nat} {l:List Fl} (h:qN w (.slice a n c) l):n=l.length:=by
 obtain⟨_,xs,k1,k2,_⟩:=h;rw[k1.now.n,k2]
theorem QK.n {w:World} {a:Option Addr} {n c:Nat} {l:List Sp} (h:QK w (.slice a n c) l):n=l.length:=by
 obtain⟨xs,k1,k2,_⟩:=h;rw[k1.n,k2]
theorem zC.ns {w:World} {V:MaV} {m:Ma} (h:zC w V m):V.f.n=m.fs.length/\V.s.n=m.sl.length/\V.sb.n=m.sb.length/\V.sq.n=m.sq.length/\V.db.n=m.db.length/\V.dq.n=m.dq.length/\V.fl.n=m.fl.length/\V.ca.n=m.ca.length/\V.sp.n=m.sp.length:=
 ⟨h.fs.n,h.sl.n,h.sb.n,h.sq.n,h.db.n,h.dq.n,qN.n h.fl,h.ca.n,h.sp.n⟩
theorem zo.rowsAt {α:Type} {E:Elt α} {w:World} {a:Option Addr} {n c:Nat} {l:List α} (h:zo E w (.slice a n c) l):zjF E w a l:=by
 obtain⟨_,_,h1,h2⟩:=h.rows;cases h1;exact h2
theorem zC.frs {w:World} {V:MaV} {m:Ma} (h:zC w V m):Qs w V.f.a m.fs:=fun j x hj=>by
 obtain⟨ad,h3,h4⟩:=h.fs.rowsAt j x hj;exact⟨ad,h3,fun W hW=>(h4 W hW).fr⟩
theorem zC.cas {w:World} {V:MaV} {m:Ma} (h:zC w V m):zaX w V.ca.a m.ca:=by
 obtain⟨_,_,h1,h2⟩:=h.ca.cas;simp only[vJ]at h1;rw[h1.1];exact h2
theorem zC.sls {w:World} {V:MaV} {m:Ma} (h:zC w V m):zaU w V.s.a m.sl:=by
 obtain⟨_,_,h1,h2⟩:=h.sl.sls;simp only[vJ]at h1;rw[h1.1];exact h2
theorem zC.pgs {w:World} {V:MaV} {m:Ma} (h:zC w V m):JA w V.db.a m.db:=by
 obtain⟨_,_,h1,h2⟩:=h.db.rows;simp only[vJ]at h1;rw[h1.1];exact h2
theorem zC.puts {w:World} {V:MaV} {m:Ma} (h:zC w V m):ZA w V.dq.a m.dq:=by
 obtain⟨_,_,h1,h2⟩:=h.dq.rows;simp only[vJ]at h1;rw[h1.1];exact h2
theorem zfo (v:Value) (fs:List Ca) (w:World) (hv:zo qY w v fs):
  Calls Tryz.prog 74 #[v] w fun e w'=>∃v',e= .returned v'/\zb qY w.heap.size w' v' fs/\zc w w':=by
 have HV:Hid (zo qY w v fs):=hv;obtain⟨⟨a,c,rfl,hnone,hcells⟩,hbytes⟩:=hv;have q22:∀(w:World) (a:Option Addr) (n c n' c':Nat),(binOp .eql 38 (.slice a n c) (.slice none n' c')).run Tryz.prog w= .ok (.bool a.isNone) w:=fun w a n c n' c'=>Lib.run_eql_slice_nil w _ _ a n c n' c' Tryz.underlying38
 cases a with
 | none=>
  have hps:=hnone rfl;subst hps;clear hcells hnone hbytes HV
  go_enter Tryz.func74,Tryz.ntmps74
  go_wp2;go_ret;exact⟨_,rfl,zb.nil _ _ _,zc.refl w⟩
 | some x=>
  have HB:Hid (fs.length*24<=140737488355328):=hbytes;clear hcells hnone hbytes
  go_enter Tryz.func74,Tryz.ntmps74
  go_wp2_with (at_builtin;refine zB (E:=qY) rfl (.tmp 5) (.tmp 6) rfl w.heap.size _ [] rfl (zb.made qY w) _ fs rfl (HV.out.grew (za _ _)) ?qb (by simp) ?_)
  case qb=>rw[List.length_nil,zA];exact HB.out
  intro v' w1 hown hgrow;go_wp2;go_ret;exact⟨v',rfl,by simpa using hown,((bR _ w).alloc (nR _) _).grown hgrow (by simp) (by intro k hk;simp[Value.ownBlock]at hk;omega)⟩
theorem zfn (v:Value) (fs:List SpV) (w:World) (hv:zo Zl w v fs):
  Calls Tryz.prog 113 #[v] w fun e w'=>∃v',e= .returned v'/\zb Zl w.heap.size w' v' fs/\zc w w':=by
 have HV:Hid (zo Zl w v fs):=hv;obtain⟨⟨a,c,rfl,hnone,hcells⟩,hbytes⟩:=hv;have q22:∀(w:World) (a:Option Addr) (n c n' c':Nat),(binOp .eql 39 (.slice a n c) (.slice none n' c')).run Tryz.prog w= .ok (.bool a.isNone) w:=fun w a n c n' c'=>Lib.run_eql_slice_nil w _ _ a n c n' c' Tryz.underlying39
 cases a with
 | none=>
  have hps:=hnone rfl;subst hps;clear hcells hnone hbytes HV
  go_enter Tryz.func113,Tryz.ntmps113
  go_wp2;go_ret;exact⟨_,rfl,zb.nil _ _ _,zc.refl w⟩
 | some x=>
  have HB:Hid (fs.length*224<=140737488355328):=hbytes;clear hcells hnone hbytes
  go_enter Tryz.func113,Tryz.ntmps113
  go_wp2_with (at_builtin;refine zB (E:=Zl) rfl (.tmp 5) (.tmp 6) rfl w.heap.size _ [] rfl (zb.made Zl w) _ fs rfl (HV.out.grew (za _ _)) ?qb (by simp) ?_)
  case qb=>rw[List.length_nil,zA];exact HB.out
  intro v' w1 hown hgrow;go_wp2;go_ret;exact⟨v',rfl,by simpa using hown,((bR _ w).alloc (nR _) _).grown hgrow (by simp) (by intro k hk;simp[Value.ownBlock]at hk;omega)⟩
theorem zfp (v:Value) (fs:List Ar) (w:World) (hv:zo arE w v fs):
  Calls Tryz.prog 54 #[v] w fun e w'=>∃v',e= .returned v'/\zb arE w.heap.size w' v' fs/\zc w w':=by
 have HV:Hid (zo arE w v fs):=hv;obtain⟨⟨a,c,rfl,hnone,hcells⟩,hbytes⟩:=hv;have q22:∀(w:World) (a:Option Addr) (n c n' c':Nat),(binOp .eql 50 (.slice a n c) (.slice none n' c')).run Tryz.prog w= .ok (.bool a.isNone) w:=fun w a n c n' c'=>Lib.run_eql_slice_nil w _ _ a n c n' c' Tryz.underlying50
 cases a with
 | none=>
  have hps:=hnone rfl;subst hps;clear hcells hnone hbytes HV
  go_enter Tryz.func54,Tryz.ntmps54
  go_wp2;go_ret;exact⟨_,rfl,zb.nil _ _ _,zc.refl w⟩
 | some x=>
  have HB:Hid (fs.length*40<=140737488355328):=hbytes;clear hcells hnone hbytes
  go_enter Tryz.func54,Tryz.ntmps54
  go_wp2_with (at_builtin;refine zB (E:=arE) rfl (.tmp 5) (.tmp 6) rfl w.heap.size _ [] rfl (zb.made arE w) _ fs rfl (HV.out.grew (za _ _)) ?qb (by simp) ?_)
  case qb=>rw[List.length_nil,zA];exact HB.out
  intro v' w1 hown hgrow;go_wp2;go_ret;exact⟨v',rfl,by simpa using hown,((bR _ w).alloc (nR _) _).grown hgrow (by simp) (by intro k hk;simp[Value.ownBlock]at hk;omega)⟩
end
section
def zif (f:Fr):Prop:=0<=f.r/\(0<=f.x/\f.x<12)/\(f.f=-1\/(0<=f.f/\f.f<5))/\(f.r=0->f=frF)/\(f.f=-1->f.x=0)
theorem zhM {f:Fr} (h:zif f) (hr:f.r<=1000):frW f=0:=by
 obtain⟨h1,h2,h3,h4,h5⟩:=h;unfold frW;have e1:inB f.r 1001=true:=by simp[inB];omega
 have e2:inB f.x 12=true:=by simp[inB];omega
 rw[e1,e2,if_neg (by decide)]
 have e3:(!(f.f == -1) && !inB f.f 5)=false:=by
  rcases h3 with h | h
  ·simp[h]
  have:inB f.f 5=true:=by simp[inB];omega
  simp[this]
 rw[e3,if_neg (by decide)]
 have e4:(f.r == 0 && !Zz f frF)=false:=by
  by_cases h0:f.r=0
  ·rw[(zbI f frF).2 (h4 h0)];simp
  simp[h0]
 have e5:(f.f == -1 && !(f.x == 0))=false:=by
  by_cases h0:f.f=-1
  ·simp[h5 h0]
  simp[h0]
 rw[e4,e5];rfl
theorem Jh:∀{l:List Fr},J5 l=0↔∀f∈l,frW f=0
 | []=>by simp[J5]
 | f :: l=>by
  unfold J5
  by_cases h:frW f=0
  ·rw[if_pos h,Jh]
   simp[h]
  rw[if_neg h]
  simp[h]
def za5 (m:Ma) (x:On) (e:En):Prop:=enW e=0/\e.kind≠0/\JF m x e=0
structure qO (m:Ma) (T:List (Nat->En)):Prop where
 fs40:m.fs.length<=40
 fok:∀f∈m.fs,zif f
 sl60:m.sl.length<=60
 sbl:m.sb.length=m.sl.length
 sq:zy m.sb.length m.sq=0
 dok:zy m.db.length m.dq=0
 st:stW m.fl m.cnt=0
 cnt:m.cnt=(m.db.length:Int)
 blk:∀b:Nat,b<m.db.length->qG m.fl (b:Int)=false->m.db[b]? =some zz
 que:∀q∈m.dq,qG m.fl q.1=true
 spl:m.sp.length<=4
 spok:∀s∈m.sp,(wrL s.ars).1=0/\(s.live=false->s.ars=[])
 tl:T.length=m.sp.length
 ca:J1 m none m.ca=0
 ent:∀(p:Nat) s f,m.sp[p]? =some s->T[p]? =some f->∀n:Nat,n<64->f n=en0\/za5 m (zH s.ars n) (f n)
 cf:∀(k:Nat) f,m.fs[k]? =some f->f.r=((je T 1 k+zK m.ca k:Nat):Int)/\(0<=f.f->zK m.ca k≠0)
 cs:∀(k:Nat) z,m.sl[k]? =some z->z=(je T 2 k:Int)
theorem zU {m:Ma}:∀{l:List Ca} {p:Option Ca},J1 m p l=0↔(∀c∈l,caE m none c=0)/\(∀q c,p=some q->c∈l->jM q<jM c)/\l.Pairwise (fun a b=>jM a<jM b)
 | [],p=>by simp[J1]
 | c :: l,p=>by
  unfold J1;have hc:caE m p c=0↔caE m none c=0/\∀q,p=some q->jM q<jM c:=by
   unfold caE
   by_cases h1:c.file<0\/(m.fl.length:Int)<=c.file\/c.idx<0\/bkN m c.file<=c.idx\/c.fr<0\/(m.fs.length:Int)<=c.fr
   ·rw[if_pos h1,if_pos h1];simp
   rw[if_neg h1,if_neg h1]
   by_cases h2:(z8 m c.fr).r=0\/(z8 m c.fr).f≠c.file\/(z8 m c.fr).x≠c.idx
   ·rw[if_pos h2,if_pos h2];simp
   rw[if_neg h2,if_neg h2]
   cases p with
   | none=>simp
   | some q=>
    simp only[Option.some.injEq,forall_eq',true_and]
    by_cases h3:jM c<=jM q
    ·rw[if_pos h3];constructor
     ·intro h;cases h
     intro h;omega
    rw[if_neg h3];simp;omega
  by_cases h:caE m p c=0
  ·rw[if_pos h,zU];obtain⟨g1,g2⟩:=hc.1 h;constructor
   ·rintro⟨a1,a2,a3⟩;refine⟨?_,?_,?_⟩
    ·intro x hx
     rcases mC.1 hx with rfl | hx
     ·exact g1
     exact a1 x hx
    ·intro q x hq hx
     rcases mC.1 hx with rfl | hx
     ·exact g2 q hq
     have:=g2 q hq;have:=a2 c x rfl hx;omega
    exact List.pairwise_cons.2 ⟨fun x hx=>a2 c x rfl hx,a3⟩
   rintro⟨a1,a2,a3⟩;obtain⟨b1,b2⟩:=List.pairwise_cons.1 a3;exact⟨fun x hx=>a1 x (by simp[hx]),fun q x hq hx=>by cases hq;exact b1 x hx,b2⟩
  rw[if_neg h];constructor
  ·intro h';exact absurd h' h
  rintro⟨a1,a2,a3⟩;exact absurd (hc.2 ⟨a1 c (by simp),fun q hq=>a2 q c hq (by simp)⟩) h
theorem zbR {m:Ma} {c:Ca} (h:caE m none c=0):(0<=c.file/\c.file<m.fl.length/\0<=c.idx/\c.idx<bkN m c.file/\0<=c.fr/\c.fr<m.fs.length)/\(z8 m c.fr).r≠0/\(z8 m c.fr).f=c.file/\(z8 m c.fr).x=c.idx:=by
 unfold caE at h
 split at h
 ·cases h
 split at h
 ·cases h
 rename_i h1 h2
 refine⟨by omega,fun h=>h2 (.inl h),?_,?_⟩
 ·exact Classical.byContradiction fun h=>h2 (.inr (.inl h))
 exact Classical.byContradiction fun h=>h2 (.inr (.inr h))
theorem zcA {m:Ma} {c:Ca} (h1:0<=c.file/\c.file<m.fl.length/\0<=c.idx/\c.idx<bkN m c.file/\0<=c.fr/\c.fr<m.fs.length) (h2:(z8 m c.fr).r≠0) (h3:(z8 m c.fr).f=c.file) (h4:(z8 m c.fr).x=c.idx):caE m none c=0:=by
 unfold caE;rw[if_neg (by omega),if_neg (by rintro(h | h | h);exact h2 h;exact h h3;exact h h4)]
theorem zgU {m:Ma} (h:J1 m none m.ca=0) (k:Int):zK m.ca k<=1:=by
 obtain⟨h1,_,h3⟩:=zU.1 h;have key:∀(l:List Ca),(∀c∈l,caE m none c=0)->l.Pairwise (fun a b=>jM a<jM b)->zK l k<=1:=by
  intro l
  induction l with
  | nil=>intro _ _;simp[zK]
  | cons c l ih=>
   intro a1 a2;obtain⟨b1,b2⟩:=List.pairwise_cons.1 a2;have ih':=ih (fun x hx=>a1 x (by simp[hx])) b2
   unfold zK at ih'⊢;rw[List.countP_cons]
   by_cases hc:c.fr=k
   ·have:l.countP (fun c=>decide (c.fr=k))=0:=by
     rw[List.countP_eq_zero];intro x hx hxk;have hxk':x.fr=k:=by simpa using hxk
     have e1:=zbR (a1 c (by simp))
     have e2:=zbR (a1 x (by simp[hx]))
     have hl:=b1 x hx;rw[hc]at e1;rw[hxk']at e2;unfold jM at hl;have:=e1.2.2.1;have:=e1.2.2.2;have:=e2.2.2.1;have:=e2.2.2.2;omega
    rw[this]
    simp[hc]
   simp[hc]
   exact ih'
 exact key m.ca h1 h3
theorem zcz {ca:List Ca} {c:Ca} (h:c∈ca):zK ca c.fr≠0:=by
 unfold zK;intro h0;rw[List.countP_eq_zero]at h0;exact h0 c h (by simp)
def j5 (f:Nat->En):List (List En):=j4 ((List.range 64).map f)
def jC (m:Ma) (T:List (Nat->En)) (h:Int):Ma:={ m with hand:=h,sp:=List.zipWith (fun s f=>{ s with tb:=j5 f }) m.sp T }
theorem zfG {f:Nat->En} (h:∀n,n<64->enW (f n)=0) {n:Nat} (hn:n<64):za0 (j5 f) (n / 8) (n % 8)=f n:=by
 unfold j5 za0 j4;rw[List.getElem?_map,List.getElem?_range (by omega)]
 simp only[Option.map_some,Option.getD_some];have hc:∀e∈ZF ((List.range 64).map f) (n / 8),enW e=0:=by
  intro e he;unfold ZF at he;obtain⟨k,hk,rfl⟩:=List.mem_map.1 he;rw[List.mem_range]at hk;rw[List.getElem?_map,List.getElem?_range (by omega)]
  exact h _ (by omega)
 rw[zkC _ hc];unfold ZF;rw[List.getElem?_map,List.getElem?_range (by omega)]
 simp only[Option.map_some,Option.getD_some];rw[List.getElem?_map,List.getElem?_range (by omega)]
 simp only[Option.map_some,Option.getD_some]
 congr 1
 omega
theorem zir {f:Nat->En} (h:∀n,n<64->enW (f n)=0):tbW (j5 f)=0:=by
 rw[Jt];intro x hx;unfold j5 j4 at hx;obtain⟨i,hi,rfl⟩:=List.mem_map.1 hx;rw[List.mem_range]at hi;refine zkU (by simp[ZF]) ?_
 intro e he;unfold ZF at he;obtain⟨k,hk,rfl⟩:=List.mem_map.1 he;rw[List.mem_range]at hk;rw[List.getElem?_map,List.getElem?_range (by omega)]
 exact h _ (by omega)
theorem zeN {f:Nat->En} (h:∀n,n<64->f n=en0):(j5 f).all (·.isEmpty)=true:=by
 rw[List.all_eq_true];intro x hx;unfold j5 j4 at hx;obtain⟨i,hi,rfl⟩:=List.mem_map.1 hx;rw[List.mem_range]at hi;have:Za (ZF ((List.range 64).map f) i)=false:=by
  unfold Za;rw[List.any_eq_false];intro e he;unfold ZF at he;obtain⟨k,hk,rfl⟩:=List.mem_map.1 he;rw[List.mem_range]at hk;rw[List.getElem?_map,List.getElem?_range (by omega)]
  simp only[Option.map_some,Option.getD_some];rw[h _ (by omega)]
  decide
 unfold mk;rw[if_neg (by rw[this];decide)]
 rfl
theorem zen {f g:Nat->En} (kind k:Int):∀{m:Nat},(∀n,n<m->f n=g n)->jO f kind k m=jO g kind k m
 | 0,_=>rfl
 | m+1,h=>by
  unfold jO;rw[zen kind k (fun n hn=>h n (by omega)),h m (by omega)]
section
variable{m:Ma} {T:List (Nat->En)}
theorem qO.en (h:qO m T) {p:Nat} {f:Nat->En} (hT:T[p]? =some f) {n:Nat} (hn:n<64):enW (f n)=0:=by
 have hp:p<m.sp.length:=by rw[<-h.tl];exact(gS.1 hT).1
 rcases h.ent p _ f (gE hp) hT n hn with h1 | h1
 ·rw[h1];exact zj7
 exact h1.1
theorem zjz (h:qO m T) (hd:Int) {p:Nat} {s:Sp} (hs:(jC m T hd).sp[p]? =some s):∃s0 f,m.sp[p]? =some s0/\T[p]? =some f/\s={ s0 with tb:=j5 f }:=by
 unfold jC at hs;simp only[List.getElem?_zipWith]at hs;have hp:p<m.sp.length:=by
  rcases Nat.lt_or_ge p m.sp.length with h1 | h1
  ·exact h1
  rw[gN h1]at hs;cases hs
 have hq:p<T.length:=by rw[h.tl];exact hp
 rw[gE hp,gE hq]at hs;simp only[Option.some.injEq]at hs;exact⟨_,_,gE hp,gE hq,hs.symm⟩
theorem zfZ (h:qO m T) (hd:Int) (kind k:Int):j7 (jC m T hd) kind k=je T kind k:=by
 have key:∀(S:List Sp) (T:List (Nat->En)),T.length=S.length->(∀(p:Nat) f,T[p]? =some f->∀n,n<64->enW (f n)=0)->je ((List.zipWith (fun s f=>({ s with tb:=j5 f }:Sp)) S T).map zJ) kind k=je T kind k:=by
  intro S
  induction S with
  | nil=>intro T hl _;rw[List.length_eq_zero_iff.1 hl];rfl
  | cons s S ih=>
   intro T hl he
   cases T with
   | nil=>simp at hl
   | cons f T=>
    have h1:=ih T (by simpa using hl) (fun p g hg=>he (p+1) g (by simpa using hg))
    have h2:jO (zJ { s with tb:=j5 f }) kind k 64=jO f kind k 64:=zen kind k fun n hn=>by
     unfold zJ;exact zfG (he 0 f rfl) hn
    simp only[List.zipWith_cons_cons,mP,je,List.sum_cons]at h1⊢;rw[h1,h2]
 exact key m.sp T h.tl fun p f hf n hn=>h.en hf hn
theorem qO.right (h:qO m T) {hd:Int} (h0:0<=hd) (h1:hd<max (m.fs.length:Int) 1):maW (jC m T hd)=0:=by
 have hT4:T.length<=4:=by rw[h.tl];exact h.spl
 unfold maW;rw[zI];intro e he;simp only[mC,nM,or_false]at he
 rcases he with rfl | rfl | rfl | rfl | rfl
 ·unfold zaB;rw[zI];intro e he;simp only[mC,nM,or_false]at he
  rcases he with rfl | rfl | rfl | rfl | rfl | rfl | rfl | rfl | rfl | rfl
  ·show Ze m.fs hd=0
   unfold Ze;have hfs:J5 m.fs=0:=Jh.2 fun f hf=>by
    obtain⟨k,hk⟩:=List.getElem?_of_mem hf;refine zhM (h.fok f hf) ?_;rw[(h.cf k f hk).1];have:=zaE T 1 k;have:=zgU h.ca k;omega
   rw[if_neg (by have:=h.fs40;omega),if_pos hfs,if_pos]
   simp[inB]
   omega
  ·show slW m.sl=0
   unfold slW;rw[if_neg (by have:=h.sl60;omega),if_neg]
   rw[List.any_eq_true];rintro⟨z,hz,hb⟩;obtain⟨k,hk⟩:=List.getElem?_of_mem hz;have h2:=h.cs k z hk;have:=zaE T 2 k;unfold zav at hb
   simp at hb
   omega
  ·exact h.sq
  ·exact h.dok
  ·exact h.st
  ·show zcc m=0
   unfold zcc;rw[if_neg];have:=h.sbl;have:=h.cnt;omega
  ·show jP m=0
   unfold jP;rw[if_neg];rw[List.any_eq_true];rintro⟨b,hb,hx⟩;rw[List.mem_range]at hb;simp only[Bool.and_eq_true,Bool.not_eq_true']at hx;have:=h.blk b hb hx.1;rw[gD,this]at hx
   simp at hx
  ·show jH m=0
   unfold jH;rw[if_neg];rw[List.any_eq_true];rintro⟨q,hq,hx⟩;rw[h.que q hq]at hx;cases hx
  ·have:(jC m T hd).sp.length<=4:=by
    unfold jC;simp;have:=h.spl;omega
   rw[if_neg (by omega)]
  rw[zI];intro e he;obtain⟨s,hs,rfl⟩:=List.mem_map.1 he;obtain⟨p,hp⟩:=List.getElem?_of_mem hs;obtain⟨s0,f,a1,a2,rfl⟩:=zjz h hd hp;have hok:=h.spok s0 (mG a1);unfold spE;simp only;rw[if_neg (fun h=>h hok.1),if_neg (fun h'=>h' (zir fun n hn=>h.en a2 hn)),if_neg]
  intro hx;rw[Bool.and_eq_true]at hx;have hlive:s0.live=false:=by simpa using hx.1
  have hars:=hok.2 hlive;have hemp:(j5 f).all (·.isEmpty)=true:=zeN fun n hn=>by
   rcases h.ent p s0 f a1 a2 n hn with e | e
   ·exact e
   have:=e.2.2;unfold JF at this;rw[hars,if_pos (show(zH [] n).is=false from rfl)]at this
   cases this
  rw[hars,hemp]at hx
  simp at hx
 ·obtain⟨a1,a2,a3⟩:=zU.1 h.ca;exact zU.2 ⟨fun c hc=>a1 c hc,fun q c hq=>(by cases hq),a3⟩
 ·rw[zI];intro e he;obtain⟨s,hs,rfl⟩:=List.mem_map.1 he;obtain⟨p,hp⟩:=List.getElem?_of_mem hs;obtain⟨s0,f,a1,a2,rfl⟩:=zjz h hd hp;unfold Zd;rw[zI];intro e he;obtain⟨n,hn,rfl⟩:=List.mem_map.1 he;rw[List.mem_range]at hn;have hf:zJ { s0 with tb:=j5 f } n=f n:=by
   unfold zJ;exact zfG (fun n hn=>h.en a2 hn) hn
  rw[hf]
  rcases h.ent p s0 f a1 a2 n hn with h2 | h2
  ·rw[h2,if_pos (show en0.kind=0 from rfl)]
  rw[if_neg h2.2.1];exact h2.2.2
 ·rw[zI];intro e he;obtain⟨k,hk,rfl⟩:=List.mem_map.1 he;rw[List.mem_range]at hk;have hk':k<m.fs.length:=hk;have hf:=h.cf k _ (gE hk');unfold frE;rw[zfZ h hd];have e1:z8 (jC m T hd) k=m.fs[k]:=by
   show m.fs.getD (k:Int).toNat frF=_
   rw[tN,gD,gE hk'];rfl
  rw[e1,if_neg];rintro(h2 | ⟨h2,h3⟩)
  ·exact h2 hf.1
  exact hf.2 h2 h3
 rw[zI];intro e he;obtain⟨k,hk,rfl⟩:=List.mem_map.1 he;rw[List.mem_range]at hk;have hk':k<m.sl.length:=hk;have hs:=h.cs k _ (gE hk');unfold Qh;rw[zfZ h hd];have e1:(jC m T hd).sl.getD k 0=m.sl[k]:=by
  show m.sl.getD k 0=_
  rw[gD,gE hk'];rfl
 rw[e1,if_neg (fun h2=>h2 hs)]
def zdl (m:Ma):List (Nat->En):=m.sp.map zJ
theorem zhe {m:Ma} (h:maW m=0):qO m (zdl m)/\0<=m.hand/\m.hand<max (m.fs.length:Int) 1:=by
 unfold maW at h;rw[zI]at h;have h1:zaB m=0:=h _ (by simp)
 have h2:J1 m none m.ca=0:=h _ (by simp)
 have h3:=zI.1 (h (ze (m.sp.map (Zd m))) (by simp))
 have h4:=zI.1 (h (ze ((List.range m.fs.length).map (frE m))) (by simp))
 have h5:=zI.1 (h (ze ((List.range m.sl.length).map (Qh m))) (by simp))
 unfold zaB at h1;rw[zI]at h1;have p1:Ze m.fs m.hand=0:=h1 _ (by simp)
 have p2:slW m.sl=0:=h1 _ (by simp)
 have p3:zy m.sb.length m.sq=0:=h1 _ (by simp)
 have p4:zy m.db.length m.dq=0:=h1 _ (by simp)
 have p5:stW m.fl m.cnt=0:=h1 _ (by simp)
 have p6:zcc m=0:=h1 _ (by simp)
 have p7:jP m=0:=h1 _ (by simp)
 have p8:jH m=0:=h1 _ (by simp)
 have p9:(if 4<m.sp.length then(4:Int)else 0)=0:=h1 _ (by simp)
 have p10:=zI.1 (h1 (ze (m.sp.map spE)) (by simp))
 have m1:m.fs.length<=40/\J5 m.fs=0/\0<=m.hand/\m.hand<max (m.fs.length:Int) 1:=by
  unfold Ze at p1
  split at p1
  ·cases p1
  split at p1
  ·rename_i a b
   split at p1
   ·rename_i c
    unfold inB at c
    simp at c
    exact⟨by omega,b,by omega,by omega⟩
   cases p1
  rename_i a b
  exact absurd p1 b
 have s1:m.sl.length<=60:=by
  unfold slW at p2
  split at p2
  ·cases p2
  omega
 have f1:m.sl.length=m.sb.length/\m.cnt=(m.db.length:Int):=by
  unfold zcc at p6
  split at p6
  ·cases p6
  rename_i a
  constructor
  ·exact Classical.byContradiction fun h=>a (.inl h)
  exact Classical.byContradiction fun h=>a (.inr h)
 refine⟨⟨m1.1,fun f hf=>?_,s1,f1.1.symm,p3,p4,p5,f1.2,fun b hb hu=>?_,fun q hq=>?_,?_,fun s hs=>?_,by simp[zdl],h2,fun p s f hs hT n hn=>?_,fun k f hk=>?_,fun k z hk=>?_⟩,m1.2.2.1,m1.2.2.2⟩
 ·have hw:=Jh.1 m1.2.1 f hf;unfold frW at hw
  split at hw
  ·cases hw
  rename_i a1
  split at hw
  ·cases hw
  rename_i a2
  split at hw
  ·cases hw
  rename_i a3
  have b1:inB f.r 1001=true/\inB f.x 12=true:=by
   cases e1:inB f.r 1001 <;> cases e2:inB f.x 12 <;> simp[e1,e2]at a1⊢
  have b2:f.f=-1\/inB f.f 5=true:=by
   by_cases e:f.f=-1
   ·exact .inl e
   right
   cases e2:inB f.f 5 with
   | true=>rfl
   | false=>simp[e,e2]at a2
  have b3:(f.r=0->f=frF)/\(f.f=-1->f.x=0):=by
   constructor
   ·intro e
    cases e2:Zz f frF with
    | true=>exact(zbI f frF).1 e2
    | false=>simp[e,e2]at a3
   intro e
   by_cases e2:f.x=0
   ·exact e2
   simp[e,e2]at a3
  unfold inB at b1 b2
  simp at b1 b2
  exact⟨by omega,by omega,by omega,b3.1,b3.2⟩
 ·unfold jP at p7
  split at p7
  ·cases p7
  rename_i a
  have:¬(!qG m.fl (b:Int) && !(m.db.getD b [] == zz))=true:=fun h=>a (List.any_eq_true.2 ⟨b,List.mem_range.2 hb,h⟩)
  rw[hu,gD,gE hb]at this;rw[gE hb]
  simp at this
  rw[this]
 ·unfold jH at p8
  split at p8
  ·cases p8
  rename_i a
  cases e:qG m.fl q.1 with
  | true=>rfl
  | false=>exact absurd (List.any_eq_true.2 ⟨q,hq,by simp[e]⟩) a
 ·split at p9
  ·cases p9
  omega
 ·have hs0:=p10 (spE s) (List.mem_map.2 ⟨s,hs,rfl⟩);unfold spE at hs0
  split at hs0
  ·rename_i a;exact absurd hs0 a
  rename_i a
  split at hs0
  ·rename_i b;exact absurd hs0 b
  split at hs0
  ·cases hs0
  rename_i c
  refine⟨by simpa using a,fun hl=>?_⟩
  rw[hl]at c
  cases e:s.ars with
  | nil=>rfl
  | cons x y=>rw[e]at c;simp at c
 ·unfold zdl at hT;rw[List.getElem?_map,hs]at hT;cases hT;have hmem:=mG hs;have hs0:=p10 (spE s) (List.mem_map.2 ⟨s,hmem,rfl⟩);have htb:tbW s.tb=0:=by
   unfold spE at hs0
   split at hs0
   ·rename_i a;exact absurd hs0 a
   split at hs0
   ·rename_i b;exact absurd hs0 b
   rename_i b;simpa using b
  have hen:enW (zJ s n)=0:=by
   unfold zJ za0;have hall:=Jt.1 htb;have:zfz (s.tb[n / 8]?.getD []):=by
    cases e:s.tb[n / 8]? with
    | none=>exact .inl rfl
    | some x=>exact hall x (mG e)
   exact this.get (n % 8)
  have h6:=zI.1 (h3 (Zd m s) (List.mem_map.2 ⟨s,hmem,rfl⟩)) _ (List.mem_map.2 ⟨n,List.mem_range.2 hn,rfl⟩)
  by_cases hk:(zJ s n).kind=0
  ·left;exact zhU hen (by simp[enS,hk])
  right;rw[if_neg hk]at h6;exact⟨hen,hk,h6⟩
 ·have hkl:=(gS.1 hk).1;have:=h4 (frE m k) (List.mem_map.2 ⟨k,List.mem_range.2 hkl,rfl⟩);unfold frE at this;have e1:z8 m k=f:=by unfold z8;rw[tN,gD,hk];rfl
  rw[e1]at this
  split at this
  ·cases this
  rename_i a
  refine⟨Classical.byContradiction fun h=>a (.inl h),fun h1 h2=>a (.inr ⟨h1,h2⟩)⟩
 have hkl:=(gS.1 hk).1;have:=h5 (Qh m k) (List.mem_map.2 ⟨k,List.mem_range.2 hkl,rfl⟩);unfold Qh at this;rw[gD,hk]at this
 split at this
 ·cases this
 rename_i a
 exact Classical.byContradiction fun h=>a h
end
section
variable{m:Ma} {T:List (Nat->En)}
theorem Qe {m:Ma} {k:Nat} {f:Fr} (h:m.fs[k]? =some f):z8 m (k:Int)=f:=by
 unfold z8;rw[tN,gD,h];rfl
theorem jK {m:Ma} {k:Nat} {f:Fr} (hk:k<m.fs.length) (z:Int) (hz:0<=z):z8 { m with fs:=m.fs.set k f } z=if z=(k:Int)then f else z8 m z:=by
 unfold z8;simp only[gD]
 by_cases e:z=(k:Int)
 ·subst e;rw[if_pos rfl,tN,sF hk];rfl
 rw[if_neg e,sN (by omega)]
theorem Qo {m m':Ma} {x:On} {e:En} (h:JF m x e=0) (hs:m'.sl.length=m.sl.length) (hf:m'.fs.length=m.fs.length) (h1:e.kind≠2->(z8 m' e.n).f=(z8 m e.n).f/\(z8 m' e.n).x=(z8 m e.n).x/\(e.wr=true->(z8 m e.n).f=-1->(z8 m' e.n).r<=1)):JF m' x e=0:=by
 unfold JF at h⊢;rw[hs,hf]
 by_cases h0:x.is=false
 ·rw[if_pos h0]at h;cases h
 rw[if_neg h0]at h⊢
 by_cases h2:e.kind=2
 ·rw[if_pos h2]at h⊢;exact h
 rw[if_neg h2]at h⊢;obtain⟨g1,g2,g3⟩:=h1 h2
 by_cases h3:(m.fs.length:Int)<=e.n
 ·rw[if_pos h3]at h;cases h
 rw[if_neg h3]at h⊢;rw[g1,g2]
 split at h
 ·cases h
 rename_i hn
 rw[if_neg];rintro(h4 | h4 | h4 | h4 | h4)
 ·exact hn (.inl h4)
 ·exact hn (.inr (.inl h4))
 ·exact hn (.inr (.inr (.inl h4)))
 ·exact hn (.inr (.inr (.inr (.inl h4))))
 have:=g3 h4.1 h4.2.1;omega
theorem qS {m:Ma} {x:On} {e:En} (h:za5 m x e) (hk:e.kind≠2):e.kind=1/\0<=e.n/\e.n<m.fs.length/\(e.wr=true->(z8 m e.n).f=-1->(z8 m e.n).r<=1):=by
 obtain⟨h1,h2,h3⟩:=h;obtain⟨a1,a2,_⟩:=zar h1;unfold JF at h3
 by_cases h0:x.is=false
 ·rw[if_pos h0]at h3;cases h3
 rw[if_neg h0,if_neg hk]at h3
 by_cases h4:(m.fs.length:Int)<=e.n
 ·rw[if_pos h4]at h3;cases h3
 rw[if_neg h4]at h3
 split at h3
 ·cases h3
 rename_i hn
 refine⟨by omega,by omega,by omega,fun g1 g2=>?_⟩
 have:¬1< (z8 m e.n).r:=fun h=>hn (.inr (.inr (.inr (.inr ⟨g1,g2,h⟩))))
 omega
theorem zfa {T:List (Nat->En)} {p:Nat} {f:Nat->En} (hT:T[p]? =some f) {n:Nat} (hn:n<64) (hk:(f n).kind=1):1<=je T 1 (f n).n:=zdf hT hn (by simp[isE,hk]) (by decide)
theorem qO.free (h:qO m T) {j:Nat} {f:Fr} (hf:m.fs[j]? =some f) (h0:f.r=0):je T 1 j=0/\zK m.ca j=0:=by
 have:=(h.cf j f hf).1;rw[h0]at this;omega
def j6 (ca:List Ca) (c:Ca):List Ca:=ca.takeWhile (fun d=>decide (jM d<jM c))++c :: ca.dropWhile (fun d=>decide (jM d<jM c))
theorem zgy (ca:List Ca) (c:Ca) (k:Int):zK (j6 ca c) k=zK ca k+(if c.fr=k then 1 else 0):=by
 unfold j6 zK;have h:=List.takeWhile_append_dropWhile (p:=fun d=>decide (jM d<jM c)) (l:=ca)
 rw[List.countP_append,List.countP_cons]
 conv=>rhs;rw[<-h,List.countP_append]
 by_cases e:c.fr=k
 ·simp[e];omega
 simp[e]
theorem zhz {ca:List Ca} {c d:Ca} (h:d∈j6 ca c):d=c\/d∈ca:=by
 unfold j6 at h;rw[List.mem_append,mC]at h
 rcases h with h | h | h
 ·exact .inr ((List.takeWhile_sublist _).subset h)
 ·exact .inl h
 exact .inr ((List.dropWhile_sublist _).subset h)
theorem zcq {c:Ca}:∀{ca:List Ca},ca.Pairwise (fun a b=>jM a<jM b)->(∀d∈ca,jM d≠jM c)->(j6 ca c).Pairwise (fun a b=>jM a<jM b)
 | [],_,_=>by simp[j6]
 | d :: ca,h,hne=>by
  obtain⟨h1,h2⟩:=List.pairwise_cons.1 h
  by_cases hd:jM d<jM c
  ·have e:j6 (d :: ca) c=d :: j6 ca c:=by
    unfold j6;rw[List.takeWhile_cons,List.dropWhile_cons,if_pos (by simpa using hd),if_pos (by simpa using hd)]
    rfl
   rw[e];refine List.pairwise_cons.2 ⟨fun x hx=>?_,zcq h2 fun x hx=>hne x (by simp[hx])⟩
   rcases zhz hx with rfl | hx
   ·exact hd
   exact h1 x hx
  have e:j6 (d :: ca) c=c :: d :: ca:=by
   unfold j6;rw[List.takeWhile_cons,List.dropWhile_cons,if_neg (by simpa using hd),if_neg (by simpa using hd)]
   rfl
  rw[e];have:=hne d (by simp)
  refine List.pairwise_cons.2 ⟨fun x hx=>?_,h⟩
  rcases mC.1 hx with rfl | hx
  ·omega
  have:=h1 x hx;omega
theorem qO.pages (h:qO m T) {file:Int} (h0:0<=file) (h1:file<m.fl.length):bkN m file<=12/\file<5:=by
 obtain⟨⟨a1,a2,a3⟩,a4,a5⟩:=(jp m.fl m.cnt).1 h.st;have hlt:file.toNat<m.fl.length:=by omega
 have hok:=a4 _ (List.getElem_mem hlt);unfold bkN;rw[gD,gE hlt];simp only[Option.getD_some];obtain⟨b1,b2,b3⟩:=hok;unfold JG at b2
 split at b2 <;> omega
theorem qO.cache (h:qO m T) {j:Nat} {f0:Fr} {p:Pg} {u d:Bool} {file idx:Int} (hj:m.fs[j]? =some f0) (h0:f0.r=0) (hf:0<=file/\file<m.fl.length) (hi:0<=idx/\idx<bkN m file) (hn:∀c∈m.ca,¬(c.file=file/\c.idx=idx)):
  qO { m with fs:=m.fs.set j ⟨p,1,u,d,file,idx⟩,ca:=j6 m.ca ⟨file,idx,j⟩ } T:=by
 have hjl:=(gS.1 hj).1;obtain⟨z1,z2⟩:=h.free hj h0;obtain⟨g1,g2⟩:=h.pages hf.1 hf.2;obtain⟨a1,a2,a3⟩:=zU.1 h.ca;have hcj:∀c∈m.ca,c.fr≠(j:Int):=fun c hc e=>by
  have:=zcz hc;rw[e]at this;exact this z2
 have hkey:∀c∈m.ca,jM c≠jM ⟨file,idx,j⟩:=fun c hc e=>by
  have h1:=(zbR (a1 c hc)).1;have h2:=h.pages h1.1 h1.2.1;have:=hn c hc;unfold jM at e;simp only at e;omega
 refine⟨by simpa using h.fs40,fun f hf'=>?_,h.sl60,h.sbl,h.sq,h.dok,h.st,h.cnt,h.blk,h.que,h.spl,h.spok,h.tl,?_,fun q s f hs hT n hn'=>?_,fun k f hk=>?_,h.cs⟩
 ·rcases List.mem_or_eq_of_mem_set hf' with hf' | rfl
  ·exact h.fok f hf'
  refine⟨by simp,by simp only;omega,.inr (by simp only;omega),fun h=>by simp at h,fun h=>by simp only at h;omega⟩
 ·refine zU.2 ⟨fun c hc=>?_,fun q c hq=>(by cases hq),zcq a3 hkey⟩
  rcases zhz hc with rfl | hc
  ·refine zcA ⟨hf.1,hf.2,hi.1,hi.2,by simp,by simpa using hjl⟩ ?_ ?_ ?_ <;> rw[show z8 { m with fs:=m.fs.set j ⟨p,1,u,d,file,idx⟩,ca:=j6 m.ca ⟨file,idx,j⟩ } (⟨file,idx,(j:Int)⟩:Ca).fr=⟨p,1,u,d,file,idx⟩from by rw[show z8 { m with fs:=m.fs.set j ⟨p,1,u,d,file,idx⟩,ca:=j6 m.ca ⟨file,idx,j⟩ } (⟨file,idx,(j:Int)⟩:Ca).fr=z8 { m with fs:=m.fs.set j ⟨p,1,u,d,file,idx⟩ } (j:Int)from rfl,jK hjl _ (by omega),if_pos rfl]]
   simp
  obtain⟨b1,b2,b3,b4⟩:=zbR (a1 c hc);have he:z8 { m with fs:=m.fs.set j ⟨p,1,u,d,file,idx⟩,ca:=j6 m.ca ⟨file,idx,j⟩ } c.fr=z8 m c.fr:=by
   rw[show z8 { m with fs:=m.fs.set j ⟨p,1,u,d,file,idx⟩,ca:=j6 m.ca ⟨file,idx,j⟩ } c.fr=z8 { m with fs:=m.fs.set j ⟨p,1,u,d,file,idx⟩ } c.fr from rfl,jK hjl _ b1.2.2.2.2.1,if_neg (hcj c hc)]
  exact zcA (by simpa [bkN]using b1) (by rw[he];exact b2) (by rw[he];exact b3) (by rw[he];exact b4)
 ·rcases h.ent q s f hs hT n hn' with e | e
  ·exact .inl e
  refine .inr ⟨e.1,e.2.1,Qo e.2.2 rfl (by simp) fun hk=>?_⟩
  obtain⟨c1,c2,c3,c4⟩:=qS e hk;have hne:(f n).n≠(j:Int):=fun e2=>by
   have:=zfa hT hn' c1;rw[e2]at this;omega
  have he:z8 { m with fs:=m.fs.set j ⟨p,1,u,d,file,idx⟩,ca:=j6 m.ca ⟨file,idx,j⟩ } (f n).n=z8 m (f n).n:=by
   rw[show z8 { m with fs:=m.fs.set j ⟨p,1,u,d,file,idx⟩,ca:=j6 m.ca ⟨file,idx,j⟩ } (f n).n=z8 { m with fs:=m.fs.set j ⟨p,1,u,d,file,idx⟩ } (f n).n from rfl,jK hjl _ c2,if_neg hne]
  rw[he];exact⟨rfl,rfl,c4⟩
 simp only at hk⊢;rw[zgy]
 by_cases e:k=j
 ·subst e;rw[sF hjl]at hk;cases hk;refine⟨?_,fun _=>by simp⟩
  simp only[if_true];omega
 rw[sN (fun h=>e h.symm)]at hk
 have:=h.cf k f hk;rw[if_neg (by simp only;omega)]
 exact this
theorem zaH {m':Ma} {T:List (Nat->En)} {p n:Nat} {f:Nat->En} {e:En} (hp:p<T.length) (hsp:m'.sp=m.sp) (hTp:T[p]? =some f)
  (hold:∀(q:Nat) s g,m.sp[q]? =some s->T[q]? =some g->∀j:Nat,j<64->(q≠p\/j≠n)->g j=en0\/za5 m' (zH s.ars j) (g j)) (hnew:∀s,m.sp[p]? =some s->za5 m' (zH s.ars n) e):
  ∀(q:Nat) s g,m'.sp[q]? =some s->(T.set p (qm f n e))[q]? =some g->∀j:Nat,j<64->g j=en0\/za5 m' (zH s.ars j) (g j):=by
 intro q s g hs hg j hj;rw[hsp]at hs
 by_cases eq:q=p
 ·subst eq;rw[sF hp]at hg;cases hg;unfold qm
  by_cases ej:j=n
  ·subst ej;rw[if_pos rfl];exact .inr (hnew s hs)
  rw[if_neg ej];exact hold q s f hs hTp j hj (.inr ej)
 rw[sN (fun h=>eq h.symm)]at hg
 exact hold q s g hs hg j hj (.inl eq)
theorem zda (k:Int) (kind:Int) (w:Bool):isE ⟨kind,k,w⟩ kind k=true:=by simp[isE]
theorem zan {kind k:Int} {e:En} (h:e.kind≠kind):isE e kind k=false:=by simp[isE,h]
theorem Je {kind k:Int} {e:En} (h:e.n≠k):isE e kind k=false:=by simp[isE,h]
theorem qO.hold (h:qO m T) {k p n:Nat} {fr:Fr} {f:Nat->En} {s:Sp} {w:Bool} (hk:m.fs[k]? =some fr) (hff:0<=fr.f) (hs:m.sp[p]? =some s) (hT:T[p]? =some f) (hn:n<64) (h0:f n=en0)
  (hx:(zH s.ars n).is=true) (hxf:(zH s.ars n).file=fr.f) (hxp:(zH s.ars n).page=fr.x) (hw:w=true->(zH s.ars n).sh=true/\(zH s.ars n).wr=true):
  qO { m with fs:=m.fs.set k { fr with r:=fr.r+1 } } (T.set p (qm f n ⟨1,k,w⟩)):=by
 have hkl:=(gS.1 hk).1;have hpl:=(gS.1 hT).1;have hsh:=h.fok fr (mG hk);have hfa:∀z:Int,0<=z->(z8 { m with fs:=m.fs.set k { fr with r:=fr.r+1 } } z).f=(z8 m z).f/\(z8 { m with fs:=m.fs.set k { fr with r:=fr.r+1 } } z).x=(z8 m z).x/\((z8 m z).f=-1->(z8 { m with fs:=m.fs.set k { fr with r:=fr.r+1 } } z).r=(z8 m z).r):=fun z hz=>by
  rw[jK hkl z hz]
  by_cases e:z=(k:Int)
  ·subst e;rw[if_pos rfl,Qe hk];exact⟨rfl,rfl,fun h=>by omega⟩
  rw[if_neg e];exact⟨rfl,rfl,fun _=>rfl⟩
 have hup:∀kind j:Int,je (T.set p (qm f n ⟨1,k,w⟩)) kind j+(isE en0 kind j).toNat=je T kind j+(isE ⟨1,k,w⟩ kind j).toNat:=fun kind j=>by
  have:=Zg ⟨1,k,w⟩ kind j hT hn;rw[h0]at this;exact this
 refine⟨by simpa using h.fs40,fun g hg=>?_,h.sl60,h.sbl,h.sq,h.dok,h.st,h.cnt,h.blk,h.que,h.spl,h.spok,by simpa using h.tl,?_,?_,fun j g hj=>?_,fun j z hj=>?_⟩
 ·rcases List.mem_or_eq_of_mem_set hg with hg | rfl
  ·exact h.fok g hg
  obtain⟨c1,c2,c3,c4,c5⟩:=hsh;exact⟨by simp only;omega,c2,c3,fun h=>by simp only at h;omega,c5⟩
 ·obtain⟨a1,a2,a3⟩:=zU.1 h.ca;refine zU.2 ⟨fun c hc=>?_,fun q c hq=>(by cases hq),a3⟩
  obtain⟨b1,b2,b3,b4⟩:=zbR (a1 c hc);obtain⟨e1,e2,e3⟩:=hfa c.fr b1.2.2.2.2.1;refine zcA (by simpa [bkN]using b1) ?_ (by rw[e1];exact b3) (by rw[e2];exact b4)
  rw[jK hkl _ b1.2.2.2.2.1]
  by_cases e:c.fr=(k:Int)
  ·rw[if_pos e];have:=hsh.1;simp only;omega
  rw[if_neg e];exact b2
 ·refine zaH hpl rfl hT (fun q s g hs hg j hj hne=>?_) (fun s' hs'=>?_)
  ·rcases h.ent q s g hs hg j hj with e | e
   ·exact .inl e
   refine .inr ⟨e.1,e.2.1,Qo e.2.2 rfl (by simp) fun hk2=>?_⟩
   obtain⟨c1,c2,c3,c4⟩:=qS e hk2;obtain⟨e1,e2,e3⟩:=hfa (g j).n c2;exact⟨e1,e2,fun g1 g2=>by rw[e3 g2];exact c4 g1 g2⟩
  rw[hs]at hs';cases hs';refine⟨Qp (by simp) ⟨by simp,by simp only;have:=h.fs40;omega,fun _=>by simp only;have:=h.fs40;omega⟩ (by simp),by simp,?_⟩
  have ef:z8 { m with fs:=m.fs.set k { fr with r:=fr.r+1 } } ((k:Nat):Int)={ fr with r:=fr.r+1 }:=by rw[jK hkl _ (by omega),if_pos rfl]
  unfold JF;simp only;rw[if_neg (by rw[hx];decide),if_neg (by decide),if_neg (by simp;omega),ef,if_neg]
  simp only;rintro(h4 | h4 | h4 | h4 | h4)
  ·exact h4.2 ⟨by omega,hxf.symm,hxp.symm⟩
  ·exact h4.2 ⟨by omega,hxf.symm,hxp.symm⟩
  ·rw[(hw h4.1).2]at h4;cases h4.2
  ·rw[(hw h4.1).1]at h4;cases h4.2.2
  omega
 ·simp only at hj⊢;have hu:=hup 1 j;rw[jq 1 j (by decide)]at hu
  by_cases e:j=k
  ·subst e;rw[sF hkl]at hj;cases hj;rw[zda]at hu;have:=h.cf j fr hk;refine⟨?_,this.2⟩
   simp at hu
   simp only;omega
  rw[sN (fun h=>e h.symm)]at hj
  rw[Je (e:=⟨1,(k:Int),w⟩) (by simp only;omega)]at hu
  have:=h.cf j g hj;refine⟨?_,this.2⟩
  simp at hu
  omega
 simp only at hj⊢;have hu:=hup 2 j;rw[jq 2 j (by decide),zan (e:=⟨1,(k:Int),w⟩) (by simp)]at hu
 have:=h.cs j z hj
 simp at hu
 omega
theorem qO.mine (h:qO m T) {j p n:Nat} {f0:Fr} {pg:Pg} {u w:Bool} {f:Nat->En} {s:Sp} (hj:m.fs[j]? =some f0) (hr:f0.r=0) (hs:m.sp[p]? =some s) (hT:T[p]? =some f) (hn:n<64) (h0:f n=en0)
  (hx:(zH s.ars n).is=true) (hsh:(zH s.ars n).sh=false) (hw:w=true->(zH s.ars n).wr=true):
  qO { m with fs:=m.fs.set j ⟨pg,1,u,false,-1,0⟩ } (T.set p (qm f n ⟨1,j,w⟩)):=by
 have hjl:=(gS.1 hj).1;have hpl:=(gS.1 hT).1;obtain⟨z1,z2⟩:=h.free hj hr;have hup:∀kind k:Int,je (T.set p (qm f n ⟨1,j,w⟩)) kind k+(isE en0 kind k).toNat=je T kind k+(isE ⟨1,j,w⟩ kind k).toNat:=fun kind k=>by
  have:=Zg ⟨1,j,w⟩ kind k hT hn;rw[h0]at this;exact this
 refine⟨by simpa using h.fs40,fun g hg=>?_,h.sl60,h.sbl,h.sq,h.dok,h.st,h.cnt,h.blk,h.que,h.spl,h.spok,by simpa using h.tl,?_,?_,fun k g hk=>?_,fun k z hk=>?_⟩
 ·rcases List.mem_or_eq_of_mem_set hg with hg | rfl
  ·exact h.fok g hg
  exact⟨by simp,by simp,.inl rfl,fun h=>by simp at h,fun _=>rfl⟩
 ·obtain⟨a1,a2,a3⟩:=zU.1 h.ca;refine zU.2 ⟨fun c hc=>?_,fun q c hq=>(by cases hq),a3⟩
  obtain⟨b1,b2,b3,b4⟩:=zbR (a1 c hc);have hne:c.fr≠(j:Int):=fun e=>by
   have:=zcz hc;rw[e]at this;exact this z2
  have he:z8 { m with fs:=m.fs.set j ⟨pg,1,u,false,-1,0⟩ } c.fr=z8 m c.fr:=by rw[jK hjl _ b1.2.2.2.2.1,if_neg hne]
  exact zcA (by simpa [bkN]using b1) (by rw[he];exact b2) (by rw[he];exact b3) (by rw[he];exact b4)
 ·refine zaH hpl rfl hT (fun q s g hs hg i hi hne=>?_) (fun s' hs'=>?_)
  ·rcases h.ent q s g hs hg i hi with e | e
   ·exact .inl e
   refine .inr ⟨e.1,e.2.1,Qo e.2.2 rfl (by simp) fun hk2=>?_⟩
   obtain⟨c1,c2,c3,c4⟩:=qS e hk2;have hne:(g i).n≠(j:Int):=fun e2=>by
    have:=zfa hg hi c1;rw[e2]at this;omega
   rw[jK hjl _ c2,if_neg hne];exact⟨rfl,rfl,c4⟩
  rw[hs]at hs';cases hs';refine⟨Qp (by simp) ⟨by simp,by simp only;have:=h.fs40;omega,fun _=>by simp only;have:=h.fs40;omega⟩ (by simp),by simp,?_⟩
  have ef:z8 { m with fs:=m.fs.set j ⟨pg,1,u,false,-1,0⟩ } ((j:Nat):Int)=⟨pg,1,u,false,-1,0⟩:=by rw[jK hjl _ (by omega),if_pos rfl]
  unfold JF;simp only;rw[if_neg (by rw[hx];decide),if_neg (by decide),if_neg (by simp;omega),ef,if_neg]
  simp only;rintro(h4 | h4 | h4 | h4 | h4)
  ·exact h4.1 trivial
  ·rw[hsh]at h4;cases h4.1
  ·rw[hw h4.1]at h4;cases h4.2
  ·omega
  omega
 ·simp only at hk⊢;have hu:=hup 1 k;rw[jq 1 k (by decide)]at hu
  by_cases e:k=j
  ·subst e;rw[sF hjl]at hk;cases hk;rw[zda]at hu;refine⟨?_,fun h=>by simp at h⟩
   simp at hu
   simp only;omega
  rw[sN (fun h=>e h.symm)]at hk
  rw[Je (e:=⟨1,(j:Int),w⟩) (by simp only;omega)]at hu
  have:=h.cf k g hk;refine⟨?_,this.2⟩
  simp at hu
  omega
 simp only at hk⊢;have hu:=hup 2 k;rw[jq 2 k (by decide),zan (e:=⟨1,(j:Int),w⟩) (by simp)]at hu
 have:=h.cs k z hk
 simp at hu
 omega
theorem qO.swap (h:qO m T) {j p n:Nat} {b:List Int} {f:Nat->En} {s:Sp} (hj:m.sl[j]? =some 0) (hs:m.sp[p]? =some s) (hT:T[p]? =some f) (hn:n<64) (h0:f n=en0)
  (hx:(zH s.ars n).is=true) (hsh:(zH s.ars n).sh=false):
  qO { m with sl:=m.sl.set j 1,sb:=m.sb.set j b } (T.set p (qm f n ⟨2,j,false⟩)):=by
 have hjl:=(gS.1 hj).1;have hpl:=(gS.1 hT).1;have hup:∀kind k:Int,je (T.set p (qm f n ⟨2,j,false⟩)) kind k+(isE en0 kind k).toNat=je T kind k+(isE ⟨2,j,false⟩ kind k).toNat:=fun kind k=>by
  have:=Zg ⟨2,j,false⟩ kind k hT hn;rw[h0]at this;exact this
 refine⟨h.fs40,h.fok,by simpa using h.sl60,by simpa using h.sbl,by simpa using h.sq,h.dok,h.st,h.cnt,h.blk,h.que,h.spl,h.spok,by simpa using h.tl,?_,?_,fun k g hk=>?_,fun k z hk=>?_⟩
 ·obtain⟨a1,a2,a3⟩:=zU.1 h.ca;exact zU.2 ⟨fun c hc=>a1 c hc,fun q c hq=>(by cases hq),a3⟩
 ·refine zaH hpl rfl hT (fun q s g hs hg i hi hne=>?_) (fun s' hs'=>?_)
  ·rcases h.ent q s g hs hg i hi with e | e
   ·exact .inl e
   refine .inr ⟨e.1,e.2.1,Qo e.2.2 (by simp) rfl fun hk2=>?_⟩
   obtain⟨c1,c2,c3,c4⟩:=qS e hk2;exact⟨rfl,rfl,c4⟩
  rw[hs]at hs';cases hs';refine⟨Qp (by simp) ⟨by simp,by simp only;have:=h.sl60;omega,fun h=>by simp at h⟩ (by simp),by simp,?_⟩
  unfold JF;simp only;rw[if_neg (by rw[hx];decide),if_pos trivial,if_neg]
  rintro(h4 | h4)
  ·simp at h4;omega
  rw[hsh]at h4;cases h4
 ·have hu:=hup 1 k;rw[jq 1 k (by decide),zan (e:=⟨2,(j:Int),false⟩) (by simp)]at hu
  have:=h.cf k g hk;refine⟨?_,this.2⟩;simp only at this⊢
  simp at hu
  omega
 simp only at hk⊢;have hu:=hup 2 k;rw[jq 2 k (by decide)]at hu
 by_cases e:k=j
 ·subst e;rw[sF hjl]at hk;cases hk;rw[zda]at hu;have:=h.cs k 0 hj
  simp at hu
  omega
 rw[sN (fun h=>e h.symm)]at hk
 rw[Je (e:=⟨2,(j:Int),false⟩) (by simp only;omega)]at hu
 have:=h.cs k z hk
 simp at hu
 omega
theorem qO.space (h:qO m T) {l:List Ar} (hl:(wrL l).1=0) (h4:m.sp.length<4):qO { m with sp:=m.sp++ [⟨true,l,qx⟩] } (T++ [fun _=>en0]):=by
 refine⟨h.fs40,h.fok,h.sl60,h.sbl,h.sq,h.dok,h.st,h.cnt,h.blk,h.que,by simp;omega,fun s hs=>?_,by simpa using h.tl,?_,fun p s f hs hT n hn=>?_,fun k f hk=>?_,fun k z hk=>?_⟩
 ·rcases List.mem_append.1 hs with hs | hs
  ·exact h.spok s hs
  rw[List.mem_singleton]at hs;subst hs;exact⟨hl,fun h=>by cases h⟩
 ·obtain⟨a1,a2,a3⟩:=zU.1 h.ca;exact zU.2 ⟨fun c hc=>a1 c hc,fun q c hq=>(by cases hq),a3⟩
 ·have hp:p<m.sp.length+1:=by
   have:=(gS.1 hs).1
   simpa using this
  by_cases e:p<m.sp.length
  ·rw[List.getElem?_append_left e]at hs;rw[List.getElem?_append_left (by rw[h.tl];exact e)]at hT
   exact h.ent p s f hs hT n hn
  have:p=T.length:=by rw[h.tl];omega
  subst this;rw[aR (nR _),Nat.sub_self]at hT;cases hT;exact .inl rfl
 ·rw[zao _ _ _ (by decide)]
  exact h.cf k f hk
 rw[zao _ _ _ (by decide)]
 exact h.cs k z hk
end
section
variable{m:Ma} {T:List (Nat->En)}
theorem zi1 {e e':En} (h1:e'.kind=e.kind) (h2:e'.n=e.n) (kind k:Int):isE e' kind k=isE e kind k:=by unfold isE;rw[h1,h2]
theorem zhA {p n:Nat} {f:Nat->En} {e':En} (hT:T[p]? =some f) (hn:n<64) (h1:e'.kind=(f n).kind) (h2:e'.n=(f n).n) (kind k:Int):je (T.set p (qm f n e')) kind k=je T kind k:=by
 have:=Zg e' kind k hT hn;rw[zi1 h1 h2]at this;omega
theorem qO.guard (h:qO m T) {p n:Nat} {f:Nat->En} (hT:T[p]? =some f) (hn:n<64) (h0:f n≠en0):qO m (T.set p (qm f n { f n with wr:=false })):=by
 have hpl:=(gS.1 hT).1;have hh:=zhA (e':={ f n with wr:=false }) hT hn rfl rfl;refine⟨h.fs40,h.fok,h.sl60,h.sbl,h.sq,h.dok,h.st,h.cnt,h.blk,h.que,h.spl,h.spok,by simpa using h.tl,h.ca,?_,fun k g hk=>?_,fun k z hk=>?_⟩
 ·refine zaH hpl rfl hT (fun q s g hs hg j hj _=>h.ent q s g hs hg j hj) (fun s hs=>?_)
  rcases h.ent p s f hs hT n hn with e | e
  ·exact absurd e h0
  obtain⟨e1,e2,e3⟩:=e;obtain⟨a1,a2,a3⟩:=zar e1;refine⟨Qp a1 a2 ?_,e2,?_⟩
  ·rintro(⟨g1,g2⟩ | ⟨g1,g2⟩)
   ·exact e2 g1
   simp at g2
  unfold JF at e3⊢;simp only at e3⊢
  by_cases c0:(zH s.ars n).is=false
  ·rw[if_pos c0]at e3;cases e3
  rw[if_neg c0]at e3⊢
  by_cases c1:(f n).kind=2
  ·rw[if_pos c1]at e3⊢;exact e3
  rw[if_neg c1]at e3⊢
  by_cases c2:(m.fs.length:Int)<=(f n).n
  ·rw[if_pos c2]at e3;cases e3
  rw[if_neg c2]at e3⊢
  split at e3
  ·cases e3
  rename_i hx
  rw[if_neg];rintro(h4 | h4 | h4 | h4 | h4)
  ·exact hx (.inl h4)
  ·exact hx (.inr (.inl h4))
  ·simp at h4
  ·simp at h4
  simp at h4
 ·rw[hh];exact h.cf k g hk
 rw[hh];exact h.cs k z hk
theorem qO.share (h:qO m T) {p q n k:Nat} {fr:Fr} {f g:Nat->En} {s:Sp} {e:En} (hk:m.fs[k]? =some fr) (hp:T[p]? =some f) (hpn:f n=e) (hq:T[q]? =some g) (hpq:p≠q) (hn:n<64) (h0:g n=en0) (hs:m.sp[q]? =some s)
  (he:za5 m (zH s.ars n) e) (hek:e.kind=1) (hen:e.n=(k:Int)) (hnm:e.wr=true->fr.f≠-1):
  qO { m with fs:=m.fs.set k { fr with r:=fr.r+1 } } (T.set q (qm g n e)):=by
 have hkl:=(gS.1 hk).1;have hql:=(gS.1 hq).1;have hsh:=h.fok fr (mG hk);have hpos:1<=je T 1 k:=by
  have:=zfa hp hn (by rw[hpn];exact hek)
  rw[hpn,hen]at this;exact this
 have hfr:=h.cf k fr hk;have hup:∀kind j:Int,je (T.set q (qm g n e)) kind j+(isE en0 kind j).toNat=je T kind j+(isE e kind j).toNat:=fun kind j=>by
  have:=Zg e kind j hq hn;rw[h0]at this;exact this
 refine⟨by simpa using h.fs40,fun x hx=>?_,h.sl60,h.sbl,h.sq,h.dok,h.st,h.cnt,h.blk,h.que,h.spl,h.spok,by simpa using h.tl,?_,?_,fun j x hj=>?_,fun j z hj=>?_⟩
 ·rcases List.mem_or_eq_of_mem_set hx with hx | rfl
  ·exact h.fok x hx
  obtain⟨c1,c2,c3,c4,c5⟩:=hsh;exact⟨by simp only;omega,c2,c3,fun h=>by simp only at h;omega,c5⟩
 ·obtain⟨a1,a2,a3⟩:=zU.1 h.ca;refine zU.2 ⟨fun c hc=>?_,fun q c hq=>(by cases hq),a3⟩
  obtain⟨b1,b2,b3,b4⟩:=zbR (a1 c hc);have hf:=jK (f:={ fr with r:=fr.r+1 }) hkl c.fr b1.2.2.2.2.1
  by_cases ec:c.fr=(k:Int)
  ·rw[if_pos ec]at hf;rw[ec,Qe hk]at b2 b3 b4;refine zcA (by simpa [bkN]using b1) ?_ ?_ ?_ <;> rw[hf]
   ·have:=hsh.1;simp only;omega
   ·exact b3
   exact b4
  rw[if_neg ec]at hf;exact zcA (by simpa [bkN]using b1) (by rw[hf];exact b2) (by rw[hf];exact b3) (by rw[hf];exact b4)
 ·have keep:∀(x:On) (e2:En),za5 m x e2->(e2.kind≠2->e2.n=(k:Int)->e2.wr=true->fr.f≠-1)->za5 { m with fs:=m.fs.set k { fr with r:=fr.r+1 } } x e2:=fun x e2 h2 hm=>by
   refine⟨h2.1,h2.2.1,Qo h2.2.2 rfl (by simp) fun hk2=>?_⟩
   obtain⟨c1,c2,c3,c4⟩:=qS h2 hk2;rw[jK hkl _ c2]
   by_cases ec:e2.n=(k:Int)
   ·rw[if_pos ec,ec,Qe hk];exact⟨rfl,rfl,fun g1 g2=>absurd g2 (hm hk2 ec g1)⟩
   rw[if_neg ec];exact⟨rfl,rfl,c4⟩
  refine zaH hql rfl hq (fun q2 s2 g2 hs2 hg2 j hj hne=>?_) (fun s' hs'=>?_)
  ·rcases h.ent q2 s2 g2 hs2 hg2 j hj with e2 | e2
   ·exact .inl e2
   refine .inr (keep _ _ e2 fun hk2 hz hw=>?_)
   obtain⟨c1,c2,c3,c4⟩:=qS e2 hk2
   by_cases same:q2=p/\j=n
   ·obtain⟨rfl,rfl⟩:=same;rw[hp]at hg2;cases hg2;rw[hpn]at hw;exact hnm hw
   intro hf1;have h2:=zi2 hp hn (kind:=1) (k:=(k:Int)) (by rw[hpn];simp[isE,hek,hen]) hg2 hj (by simp[isE,c1,hz]) (by
    by_cases e3:p=q2
    ·right;intro e4;exact same ⟨e3.symm,e4.symm⟩
    exact .inl e3) (by decide)
   have h3:=c4 hw (by rw[hz,Qe hk];exact hf1)
   rw[hz,Qe hk]at h3;omega
  rw[hs]at hs';cases hs';exact keep _ _ he fun _ _ hw=>hnm hw
 ·simp only at hj⊢;have hu:=hup 1 j;rw[jq 1 j (by decide)]at hu
  by_cases ej:j=k
  ·subst ej;rw[sF hkl]at hj;cases hj;have:isE e 1 (j:Int)=true:=by simp[isE,hek,hen]
   rw[this]at hu;refine⟨?_,hfr.2⟩
   simp at hu
   simp only;omega
  rw[sN (fun h=>ej h.symm)]at hj
  rw[Je (by rw[hen];omega)]at hu
  have:=h.cf j x hj;refine⟨?_,this.2⟩
  simp at hu
  omega
 simp only at hj⊢;have hu:=hup 2 j;rw[jq 2 j (by decide),zan (by rw[hek];decide)]at hu
 have:=h.cs j z hj
 simp at hu
 omega
theorem qO.shareS (h:qO m T) {q n k:Nat} {z:Int} {g:Nat->En} {s:Sp} {e:En} (hk:m.sl[k]? =some z) (hq:T[q]? =some g) (hn:n<64) (h0:g n=en0) (hs:m.sp[q]? =some s)
  (he:za5 m (zH s.ars n) e) (hek:e.kind=2) (hen:e.n=(k:Int)):
  qO { m with sl:=m.sl.set k (z+1) } (T.set q (qm g n e)):=by
 have hkl:=(gS.1 hk).1;have hql:=(gS.1 hq).1;have hup:∀kind j:Int,je (T.set q (qm g n e)) kind j+(isE en0 kind j).toNat=je T kind j+(isE e kind j).toNat:=fun kind j=>by
  have:=Zg e kind j hq hn;rw[h0]at this;exact this
 refine⟨h.fs40,h.fok,by simpa using h.sl60,by simpa using h.sbl,h.sq,h.dok,h.st,h.cnt,h.blk,h.que,h.spl,h.spok,by simpa using h.tl,?_,?_,fun j x hj=>?_,fun j x hj=>?_⟩
 ·obtain⟨a1,a2,a3⟩:=zU.1 h.ca;exact zU.2 ⟨fun c hc=>a1 c hc,fun q c hq=>(by cases hq),a3⟩
 ·have keep:∀(x:On) (e2:En),za5 m x e2->za5 { m with sl:=m.sl.set k (z+1) } x e2:=fun x e2 h2=>by
   refine⟨h2.1,h2.2.1,Qo h2.2.2 (by simp) rfl fun hk2=>?_⟩
   obtain⟨c1,c2,c3,c4⟩:=qS h2 hk2;exact⟨rfl,rfl,c4⟩
  refine zaH hql rfl hq (fun q2 s2 g2 hs2 hg2 j hj hne=>(h.ent q2 s2 g2 hs2 hg2 j hj).imp id (keep _ _)) (fun s' hs'=>?_)
  rw[hs]at hs';cases hs';exact keep _ _ he
 ·have hu:=hup 1 j;rw[jq 1 j (by decide),zan (by rw[hek];decide)]at hu
  have:=h.cf j x hj;refine⟨?_,this.2⟩;simp only at this⊢
  simp at hu
  omega
 simp only at hj⊢;have hu:=hup 2 j;rw[jq 2 j (by decide)]at hu
 by_cases ej:j=k
 ·subst ej;rw[sF hkl]at hj;cases hj;have:isE e 2 (j:Int)=true:=by simp[isE,hek,hen]
  rw[this]at hu;have:=h.cs j z hk
  simp at hu
  omega
 rw[sN (fun h=>ej h.symm)]at hj
 rw[Je (by rw[hen];omega)]at hu
 have:=h.cs j x hj
 simp at hu
 omega
end
structure zcD (fl:List Fl) (cnt:Int) (db:List (List Int)) (dq:List (Int × List Int)) (bl:List Int):Prop where
 st:stW fl cnt=0
 cn:cnt=(db.length:Int)
 ql:dq.length<=(J3 fl).length+bl.length
 blok:∀b∈bl,b=-1\/(0<=b/\b<cnt)
 nod:(zca (J3 fl++bl)).Nodup
 blk:∀b:Nat,b<db.length->qG fl (b:Int)=false->(b:Int)∉bl->db[b]? =some zz
 que:∀q∈dq,(0<=q.1/\q.1<cnt)/\(qG fl q.1=true\/q.1∈bl)
theorem zcD.none {fl:List Fl} {cnt:Int} {db:List (List Int)} {dq:List (Int × List Int)} {bl:List Int} (h:zcD fl cnt db dq bl):zcD fl cnt db dq (bl++ [-1]):=by
 refine⟨h.st,h.cn,by have:=h.ql;simp;omega,fun b hb=>?_,?_,fun b hb hu hn=>h.blk b hb hu (fun h2=>hn (by simp[h2])),fun q hq=>⟨(h.que q hq).1,(h.que q hq).2.imp id (fun h=>by simp[h])⟩⟩
 ·rcases List.mem_append.1 hb with hb | hb
  ·exact h.blok b hb
  left;simpa using hb
 have:zca (J3 fl++(bl++ [-1]))=zca (J3 fl++bl):=by simp[zca]
 rw[this];exact h.nod
theorem zcD.block {fl:List Fl} {cnt:Int} {db:List (List Int)} {dq:List (Int × List Int)} {bl:List Int} (h:zcD fl cnt db dq bl) {b:Nat} {p:List Int} {more:Bool} (hb:b<db.length) (hu:qG fl (b:Int)=false) (hn:(b:Int)∉bl):
  zcD fl cnt (db.set b p) (if more then dq++ [((b:Int),p)]else dq) (bl++ [(b:Int)]):=by
 refine⟨h.st,by simpa using h.cn,?_,fun x hx=>?_,?_,fun x hx hux hnx=>?_,fun q hq=>?_⟩
 ·have:=h.ql
  cases more <;> simp <;> omega
 ·rcases List.mem_append.1 hx with hx | hx
  ·exact h.blok x hx
  right;have:x=(b:Int):=by simpa using hx
  have:=h.cn;omega
 ·have e:zca (J3 fl++(bl++ [(b:Int)]))=zca (J3 fl++bl)++ [(b:Int)]:=by
   unfold zca;rw[<-List.append_assoc,List.filter_append]
   congr 1
  rw[e,List.nodup_append];refine⟨h.nod,by simp,fun x hx y hy=>?_⟩
  have hy':y=(b:Int):=by simpa using hy
  subst hy';intro exy;subst exy;unfold zca at hx;rw[List.mem_filter,List.mem_append]at hx
  rcases hx.1 with h1 | h1
  ·rw[(zaa fl (b:Int)).2 h1]at hu;cases hu
  exact hn h1
 ·have hne:b≠x:=fun e=>hnx (by simp[e])
  rw[sN hne];exact h.blk x (by simpa using hx) hux (fun h2=>hnx (by simp[h2]))
 have old:q∈dq->(0<=q.1/\q.1<cnt)/\(qG fl q.1=true\/q.1∈bl++ [(b:Int)]):=fun hq=>⟨(h.que q hq).1,(h.que q hq).2.imp id (fun h=>by simp[h])⟩
 cases more with
 | false=>exact old (by simpa using hq)
 | true=>
  rw[if_pos rfl]at hq
  rcases List.mem_append.1 hq with hq | hq
  ·exact old hq
  have:q=((b:Int),p):=by simpa using hq
  subst this;have:=h.cn;exact⟨by simp only;omega,.inr (by simp)⟩
theorem zcD.file {fl:List Fl} {cnt:Int} {db:List (List Int)} {dq:List (Int × List Int)} {bl:List Int} (h:zcD fl cnt db dq bl) {size:Int} (h5:fl.length<5) (hs:0<=size/\size<=96) (hl:(bl.length:Int)=JG size):zcD (fl++ [⟨size,bl⟩]) cnt db dq []:=by
 have ha:J3 (fl++ [⟨size,bl⟩])=J3 fl++bl:=by simp[J3]
 have hu:∀b,qG (fl++ [⟨size,bl⟩]) b=true↔qG fl b=true\/b∈bl:=fun b=>by rw[zaa,ha,List.mem_append,<-zaa]
 obtain⟨⟨a1,a2,a3⟩,a4,a5⟩:=(jp fl cnt).1 h.st;refine⟨(jp _ _).2 ⟨⟨by simp;omega,a2,a3⟩,fun f hf=>?_,by rw[ha];exact h.nod⟩,h.cn,by rw[ha];simpa using h.ql,by simp,by rw[ha];simpa using h.nod,fun b hb hub _=>?_,fun q hq=>⟨(h.que q hq).1,.inl ((hu _).2 (h.que q hq).2)⟩⟩
 ·rcases List.mem_append.1 hf with hf | hf
  ·exact a4 f hf
  rw[List.mem_singleton]at hf;subst hf;exact⟨hs,hl,h.blok⟩
 refine h.blk b hb ?_ ?_
 ·cases e:qG fl (b:Int)with
  | false=>rfl
  | true=>rw[(hu _).2 (.inl e)]at hub;cases hub
 intro e;rw[(hu _).2 (.inr e)]at hub;cases hub
theorem zcD.zero {n:Nat} (h:n<=80):zcD [] (n:Int) (List.replicate n zz) [] []:=by
 refine⟨(jp _ _).2 ⟨⟨by simp,by omega,by omega⟩,by simp,by simp[J3,zca]⟩,by simp,by simp,by simp,by simp[J3,zca],fun b hb _ _=>?_,by simp⟩
 rw[List.getElem?_replicate,if_pos (by simpa using hb)]
theorem zdr {cnt:Int}:∀{fl:List Fl},(∀f∈fl,zkq cnt f)->(J3 fl).length<=12*fl.length
 | [],_=>by simp[J3]
 | f :: fl,h=>by
  have h1:=zdr (fl:=fl) fun g hg=>h g (by simp[hg])
  obtain⟨b1,b2,b3⟩:=h f (by simp)
  unfold JG at b2;simp only[J3,List.flatMap_cons,lA,List.length_cons]at h1⊢
  split at b2 <;> omega
theorem zcD.start {fl:List Fl} {cnt:Int} {db:List (List Int)} {dq:List (Int × List Int)} (h:zcD fl cnt db dq []) {n k:Nat} (hn:n<=40) (hk:k<=60) (hd:Int):qO ⟨List.replicate n frF,hd,List.replicate k 0,List.replicate k zz,[],db,dq,fl,cnt,[],[]⟩ []:=by
 obtain⟨⟨a1,a2,a3⟩,a4,a5⟩:=(jp fl cnt).1 h.st;refine⟨by simpa using hn,fun f hf=>?_,by simpa using hk,by simp,?_,?_,h.st,h.cn,fun b hb hu=>h.blk b hb hu (by simp),fun q hq=>?_,by simp,by simp,rfl,rfl,fun p s f hs=>by simp at hs,fun j f hj=>?_,fun j z hj=>?_⟩
 ·have:=(List.mem_replicate.1 hf).2;subst this;exact⟨by decide,by decide,.inl rfl,fun _=>rfl,fun _=>rfl⟩
 ·show zy (List.replicate k zz).length []=0
  unfold zy;rw[if_neg (by simp;omega),if_neg (by simp)]
  rfl
 ·show zy db.length dq=0
  have h1:=zdr a4;have h2:=h.ql;have h3:=h.cn;unfold zy;rw[if_neg (by omega),if_neg (by simp at h2;omega),if_neg]
  rw[List.any_eq_true];rintro⟨q,hq,hb⟩;have:=(h.que q hq).1;unfold jx at hb
  simp at hb
  omega
 ·exact(h.que q hq).2.resolve_right (by simp)
 ·simp only at hj;rw[List.getElem?_replicate]at hj
  split at hj
  ·cases hj;exact⟨rfl,fun h=>by simp[frF]at h⟩
  cases hj
 simp only at hj;rw[List.getElem?_replicate]at hj
 split at hj
 ·cases hj;rfl
 cases hj
def pgL (p:Pg):List Int:=[p.b0,p.b1,p.b2,p.b3,p.b4,p.b5,p.b6,p.b7]
def zko (p:List Int) (idx size:Int):List Int:=p.mapIdx fun i z=>if size<=8*idx+(i:Int)then 0 else z
def zkO (m:Ma) (file idx:Int):Int:=(m.fl.getD file.toNat ⟨0,[]⟩).bl.getD idx.toNat 0
def zkS (m:Ma) (file:Int):Int:=(m.fl.getD file.toNat ⟨0,[]⟩).size
def zez (file idx:Int) (c:Ca):Bool:=decide (c.file=file) && decide (c.idx=idx)
def zel (m:Ma) (file idx:Int):List Int:=
 match m.ca.find? (zez file idx)with
 | some c=>pgL (z8 m c.fr).p
 | none=>if zkO m file idx<0 then zz else zko (JS m.db m.dq (zkO m file idx)) idx (zkS m file)
def jn (nf:Nat) (l:List Ar):Prop:=∀k:Nat,k<64->(zH l k).is=true->(zH l k).file< (nf:Int)
theorem zfi (nf:Nat):jn nf []:=fun k _ h=>by cases h
theorem zbM {nf:Nat} {l:List Ar} {a:Ar} (hl:jn nf l) (ha:a.file< (nf:Int)) (h:(J4 l a).2=0):jn nf (J4 l a).1:=by
 obtain⟨h1,h2,h3,h4,h5⟩:=ze5 h;have hg:=zal (jV.1 h1).2 (Zj.1 h2);intro k hk his;rw[h5,zc9 hg hk]at his⊢;unfold zey at his⊢
 by_cases e:ZG a k=true
 ·rw[if_pos e];exact ha
 rw[if_neg e]at his⊢;exact hl k hk his
theorem zjw {l:List Ar} {a:Ar} (h:(J4 l a).2=0):(wrL (J4 l a).1).1=0:=by
 obtain⟨h1,h2,h3,h4,h5⟩:=ze5 h;rw[h5];exact zkR (zal (jV.1 h1).2 (Zj.1 h2)) h4
theorem zjh {m:Ma} (h:∀s∈m.sp,zkg s.tb):jC m (zdl m) m.hand=m:=by
 have:List.zipWith (fun s f=>({ s with tb:=j5 f }:Sp)) m.sp (zdl m)=m.sp:=by
  have key:∀l:List Sp,(∀s∈l,zkg s.tb)->List.zipWith (fun s f=>({ s with tb:=j5 f }:Sp)) l (l.map zJ)=l:=by
   intro l
   induction l with
   | nil=>intro _;rfl
   | cons s l ih=>
    intro hl;have h1:=hl s (by simp)
    have h2:j5 (zJ s)=s.tb:=by
     unfold j5;refine zgd h1 fun j hj=>?_
     rw[List.getElem?_map,List.getElem?_range hj];rfl
    rw[mP,List.zipWith_cons_cons,ih (fun x hx=>hl x (by simp[hx])),h2]
  exact key m.sp h
 unfold jC;rw[this]
theorem j0 {α:Type} {f:α->Int}:∀{l:List α} {k:Nat} {q:α},l[k]? =some q->(∀(j:Nat) x,j<k->l[j]? =some x->f x=0)->f q≠0->ze (l.map f)=f q
 | [],k,q,h,_,_=>by simp at h
 | a :: l,0,q,h,_,hn=>by
  simp at h
  subst h;simp only[mP,ze];rw[if_neg hn]
 | a :: l,k+1,q,h,hb,hn=>by
  simp only[mP,ze];rw[if_pos (hb 0 a (by omega) rfl)]
  exact j0 (by simpa using h) (fun j x hj hx=>hb (j+1) x (by omega) (by simpa using hx)) hn
theorem Qn {α:Type} {f:α->Int} {l:List α} (hb:∀(j:Nat) x,l[j]? =some x->f x=0):ze (l.map f)=0:=by
 rw[zI];intro e he;obtain⟨x,hx,rfl⟩:=List.mem_map.1 he;obtain⟨j,hj⟩:=List.getElem?_of_mem hx;exact hb j x hj
theorem zaS {f:Nat->Int} {n k:Nat} (hk:k<n) (hb:∀j,j<k->f j=0) (hn:f k≠0):ze ((List.range n).map f)=f k:=
 j0 (List.getElem?_range hk) (fun j x hj hx=>by
  rw[List.getElem?_range (by omega)]at hx
  cases hx;exact hb j hj) hn
theorem j8 {f:Nat->Int} {n:Nat} (hb:∀j,j<n->f j=0):ze ((List.range n).map f)=0:=
 Qn fun j x hx=>by
  have hj:=(gS.1 hx).1;rw[List.getElem?_range (by simpa using hj)]at hx
  cases hx;exact hb j (by simpa using hj)
theorem QI {α:Type} {p:α->Bool} {g:α->Int}:∀(l:List α),ze (l.map fun x=>if p x=true then g x else 0)=ze ((l.filter p).map g)
 | []=>rfl
 | a :: l=>by
  simp only[mP,ze]
  by_cases h:p a=true
  ·rw[if_pos h,List.filter_cons_of_pos h];simp only[mP,ze];rw[QI l]
  rw[if_neg h,if_pos rfl,List.filter_cons_of_neg h,QI l]
theorem zE (a:Int) (l:List Int):ze (a :: l)=if a=0 then ze l else a:=rfl
theorem zaG:ze []=0:=rfl
def ZZ (m:Ma):List Int:=[Ze m.fs m.hand,slW m.sl,zy m.sb.length m.sq,zy m.db.length m.dq,stW m.fl m.cnt]
def Q2 (m:Ma):List Int:=[zcc m,jP m,jH m]
def Zp (m:Ma):Int:=if 4<m.sp.length then 4 else ze (m.sp.map spE)
def Q3 (m:Ma):Int:=if ze ((List.range m.fs.length).map (frE m))=0 then ze ((List.range m.sl.length).map (Qh m))else ze ((List.range m.fs.length).map (frE m))
def zbp (m:Ma):Int:=ze (m.sp.map (Zd m))
def zdA (m:Ma):Int:=J1 m none m.ca
theorem zct (l k:List Int):ze (l++k)=if ze l=0 then ze k else ze l:=by
 induction l with
 | nil=>simp[ze]
 | cons a l ih=>
  by_cases h:a=0
  ·have h1:ze (a :: l)=ze l:=by rw[zE,if_pos h]
   have h2:ze (a :: l++k)=ze (l++k):=by rw[List.cons_append,zE,if_pos h]
   rw[h1,h2,ih]
  have h1:ze (a :: l)=a:=by rw[zE,if_neg h]
  have h2:ze (a :: l++k)=a:=by rw[List.cons_append,zE,if_neg h]
  rw[h1,h2,if_neg h]
theorem zjV (m:Ma):maW m=ze [ze (ZZ m),ze (Q2 m),Zp m,zdA m,zbp m,Q3 m]:=by
 have hp:zaB m=if ze (ZZ m)=0 then(if ze (Q2 m)=0 then Zp m else ze (Q2 m))else ze (ZZ m):=by
  have:zaB m=ze (ZZ m++(Q2 m++ [if 4<m.sp.length then 4 else 0,ze (m.sp.map spE)])):=rfl;rw[this,zct,zct]
  congr 1
  congr 1
  unfold Zp;rw[zE,zE,zaG]
  split <;> simp_all
 unfold maW;simp only[zE,zaG,hp];unfold Q3 zbp zdA
 by_cases h1:ze (ZZ m)=0 <;> by_cases h2:ze (Q2 m)=0 <;> by_cases h3:Zp m=0 <;> simp only[h1,h2,h3,if_true,if_false] <;>(by_cases h4:ze ((List.range m.fs.length).map (frE m))=0 <;> by_cases h5:ze ((List.range m.sl.length).map (Qh m))=0 <;> simp[h4,h5])
structure zew (m:Ma):Prop where
 mem:Ze m.fs m.hand=0
 sl:slW m.sl=0
 sq:zy m.sb.length m.sq=0
 dq:zy m.db.length m.dq=0
 st:stW m.fl m.cnt=0
theorem zku {m:Ma}:ze (ZZ m)=0↔zew m:=by
 rw[zI];unfold ZZ;constructor
 ·intro h;exact⟨h _ (by simp),h _ (by simp),h _ (by simp),h _ (by simp),h _ (by simp)⟩
 intro h e he;simp only[mC,nM,or_false]at he
 rcases he with rfl | rfl | rfl | rfl | rfl
 ·exact h.mem
 ·exact h.sl
 ·exact h.sq
 ·exact h.dq
 exact h.st
theorem zdV {n:Nat}:∀{l:List Ar} {p:Option Ar} {k:Nat} {a:Ar},ZL p l->l[k]? =some a->ZG a n=true->zH l n=qF a n
 | [],_,_,_,_,h,_=>by simp at h
 | b :: l,p,0,a,_,h,hin=>by
  simp at h
  subst h;rw[zX]at hin;exact Qz hin.1 hin.2
 | b :: l,p,k+1,a,hc,h,hin=>by
  have h':l[k]? =some a:=by simpa using h
  have ih:=zdV hc.2.2 h' hin
  by_cases hb:(n:Int)<b.tz
  ·have:=hc.2.2.low rfl hb;rw[this]at ih;exact(zdU ih.symm).elim
  rw[zaf (.inr (by omega))]
  exact ih
def qh (s:Sp):List Nat:=(List.range 64).filter fun n=>enS (zJ s n)
theorem JQ (m:Ma) (s:Sp):Zd m s=ze ((qh s).map fun n=>JF m (zH s.ars n) (zJ s n)):=by
 unfold Zd qh;rw[<-QI]
 congr 1
 apply List.map_congr_left
 intro n _
 by_cases h:(zJ s n).kind=0
 ·simp[enS,h]
 simp[enS,h]
theorem zdP {s:Sp} (ht:tbW s.tb=0) (hl:s.tb.length=8):qh s=[]↔s.tb.all (·.isEmpty)=true:=by
 unfold qh;rw[List.filter_eq_nil_iff,List.all_eq_true];constructor
 ·intro h x hx;obtain⟨i,hi⟩:=List.getElem?_of_mem hx;have hi8:i<8:=by rw[<-hl];exact(gS.1 hi).1
  rcases Jt.1 ht x hx with h0 | ⟨h1,h2,h3⟩
  ·rw[h0];rfl
  exfalso;unfold Za at h3;rw[List.any_eq_true]at h3;obtain⟨e,he,hs⟩:=h3;obtain⟨j,hj⟩:=List.getElem?_of_mem he;have hj8:j<8:=by rw[<-h1];exact(gS.1 hj).1
  refine h (8*i+j) (List.mem_range.2 (by omega)) ?_
  unfold zJ za0;rw[show(8*i+j) / 8=i by omega,show(8*i+j) % 8=j by omega,hi]
  simp only[Option.getD_some];rw[hj];exact hs
 intro h n hn;rw[List.mem_range]at hn;unfold zJ za0
 cases e:s.tb[n / 8]? with
 | none=>simp[enS,en0]
 | some x=>
  have:=h x (mG e);have:x=[]:=by simpa using this
  subst this
  simp[enS,en0]
def Zf (f:Fr) (a:Ar) (n:Nat):Bool:=if f.f<0 then !a.sh else f.f == a.file && f.x == a.base+(n:Int) - a.fr
def Zs (f:Fr) (a:Ar):Bool:=a.wr &&(if f.f<0 then decide (f.r<=1)else a.sh)
def JI (m:Ma) (a:Ar) (n:Nat) (e:En):Int:=
 if e.kind=2 then(if(m.sl.length:Int)<=e.n\/a.sh=true then 7 else 0)
 else if(m.fs.length:Int)<=e.n then 3
 else if Zf (z8 m e.n) a n=false\/(e.wr=true/\Zs (z8 m e.n) a=false)then 7 else 0
theorem zj4 {m:Ma} (hm:Ze m.fs m.hand=0) (k:Int):(z8 m k).f=-1\/(0<=(z8 m k).f/\(z8 m k).f<5):=by
 unfold z8;rw[gD]
 cases h:m.fs[k.toNat]? with
 | none=>left;rfl
 | some f=>
  have hfs:J5 m.fs=0:=by
   unfold Ze at hm
   split at hm
   ·cases hm
   split at hm
   ·rename_i h;exact h
   rename_i h;exact absurd hm h
  have hf:=Jh.1 hfs f (mG h);simp only[Option.getD_some];unfold frW at hf
  split at hf
  ·cases hf
  split at hf
  ·cases hf
  rename_i a
  by_cases e:f.f=-1
  ·exact .inl e
  right
  cases e2:inB f.f 5 with
  | false=>simp[e,e2]at a
  | true=>simpa [inB]using e2
theorem zg6 {m:Ma} {a:Ar} {n:Nat} {e:En} (hm:Ze m.fs m.hand=0) (ha:jo a):JF m (qF a n) e=JI m a n e:=by
 unfold JF JI;rw[if_neg (by simp[qF])]
 by_cases hk:e.kind=2
 ·rw[if_pos hk,if_pos hk];rfl
 rw[if_neg hk,if_neg hk]
 by_cases hr:(m.fs.length:Int)<=e.n
 ·rw[if_pos hr,if_pos hr]
 rw[if_neg hr,if_neg hr];have hf:=zj4 hm e.n;obtain⟨f,hfe⟩:∃f,z8 m e.n=f:=⟨_,rfl⟩;rw[hfe]at hf⊢;unfold Zf Zs qF;simp only;obtain⟨h1,h2,h3,h4,h5,h6,h7,h8⟩:=ha
 rcases hf with hf | hf
 ·rw[hf];have hno:¬(0<=a.file/\(-1:Int)=a.file/\f.x=if 0<=a.file then a.base+((n:Int) - a.fr)else 0):=by omega
  simp only[hno]
  cases hw:e.wr <;> cases hs:a.sh <;> cases ht:a.wr <;> simp
 have hn1:¬f.f=-1:=by omega
 have hn2:¬f.f<0:=by omega
 rw[if_neg hn2,if_neg hn2]
 by_cases hi:f.f=a.file/\f.x=a.base+(n:Int) - a.fr
 ·have hits:0<=a.file/\f.f=a.file/\f.x=(if 0<=a.file then a.base+((n:Int) - a.fr)else 0):=by
   rw[if_pos (by omega)]
   omega
  have hb:(f.f == a.file && f.x == a.base+(n:Int) - a.fr)=true:=by simp[hi.1,hi.2]
  rw[hb];simp only[hits]
  cases hw:e.wr <;> cases hs:a.sh <;> cases ht:a.wr <;> simp <;>(intro;omega)
 have hits:¬(0<=a.file/\f.f=a.file/\f.x=(if 0<=a.file then a.base+((n:Int) - a.fr)else 0)):=by
  rintro⟨g1,g2,g3⟩;rw[if_pos g1]at g3;exact hi ⟨g2,by omega⟩
 have hb:(f.f == a.file && f.x == a.base+(n:Int) - a.fr)=false:=by
  cases h:(f.f == a.file && f.x == a.base+(n:Int) - a.fr)with
  | false=>rfl
  | true=>simp at h;exact absurd h hi
 rw[hb,if_pos (.inl ⟨hn1,hits⟩),if_pos (.inl rfl)]
def ZY (c d:Ca):Bool:=decide (c.file<d.file) || (c.file == d.file && decide (c.idx<d.idx))
theorem zib {c d:Ca} (h1:0<=c.idx/\c.idx<100) (h2:0<=d.idx/\d.idx<100):ZY c d=decide (¬jM d<=jM c):=by
 unfold ZY jM;rw[Bool.eq_iff_iff];simp;omega
theorem zke {m:Ma} {p:Option Ca} {c:Ca} (hst:stW m.fl m.cnt=0) (h:caE m p c=0):0<=c.idx/\c.idx<100:=by
 unfold caE at h
 split at h
 ·cases h
 rename_i a
 have hb:bkN m c.file<=12:=by
  unfold bkN;rw[gD]
  cases e:m.fl[c.file.toNat]? with
  | none=>simp
  | some f=>
   have:=((jp _ _).1 hst).2.1 f (mG e);simp only[Option.getD_some];have h12:=zf2 this.1.1 this.1.2;rw[this.2.1];exact h12.2
 omega
theorem zem (f:Nat->En) (kind k:Int):∀m:Nat,jO f kind k m=(List.range m).countP fun n=>isE (f n) kind k
 | 0=>rfl
 | m+1=>by
  unfold jO;rw[zem f kind k m,List.range_succ,List.countP_append]
  cases h:isE (f m) kind k <;> simp[h]
theorem zh4 (s:Sp) {kind k:Int} (hk:kind≠0):jO (zJ s) kind k 64=(qh s).countP fun n=>isE (zJ s n) kind k:=by
 rw[zem];unfold qh;rw[List.countP_filter]
 apply List.countP_congr
 intro n _;constructor
 ·intro h;rw[Bool.and_eq_true];refine⟨h,?_⟩;unfold isE at h;rw[Bool.and_eq_true]at h;have:(zJ s n).kind=kind:=by simpa using h.1
  simp[enS,this,hk]
 intro h;rw[Bool.and_eq_true]at h;exact h.1
def qi (m:Ma) (i:Nat) (l:List Nat) (s:Sp) (key:Int × Int):Int:=
 ((if key.1=1 then(zK m.ca key.2:Nat)else 0:Nat):Int)+((((m.sp.take i).map fun s=>(qh s).countP fun n=>isE (zJ s n) key.1 key.2).sum:Nat):Int)+((l.countP fun n=>isE (zJ s n) key.1 key.2:Nat):Int)
theorem zhB (m:Ma) (i:Nat) (l:List Nat) (s:Sp) (n:Nat) (key:Int × Int):qi m i (l++ [n]) s key=qi m i l s key+(if key=((zJ s n).kind,(zJ s n).n)then 1 else 0):=by
 unfold qi;rw[List.countP_append]
 by_cases h:key=((zJ s n).kind,(zJ s n).n)
 ·subst h;have:isE (zJ s n) (zJ s n).kind (zJ s n).n=true:=by simp[isE]
  simp[this]
  omega
 rw[if_neg h];have:isE (zJ s n) key.1 key.2=false:=by
  cases h':isE (zJ s n) key.1 key.2 with
  | false=>rfl
  | true=>
   unfold isE at h'
   simp at h'
   exact absurd (Prod.ext h'.1.symm h'.2.symm) h
 simp[this]
theorem zhC (m:Ma) (i:Nat) (s s':Sp) (hs:m.sp[i]? =some s) (key:Int × Int):qi m i (qh s) s key=qi m (i+1) [] s' key:=by
 unfold qi;rw[List.take_add_one,hs];simp;omega
theorem zfU (m:Ma) (s:Sp) {kind:Int} (k:Int) (hk:kind≠0):qi m m.sp.length [] s (kind,k)=((j7 m kind k+(if kind=1 then zK m.ca k else 0):Nat):Int):=by
 unfold qi j7 je;rw[List.take_length];have:(m.sp.map zJ).map (fun f=>jO f kind k 64)=m.sp.map fun s=>(qh s).countP fun n=>isE (zJ s n) kind k:=by
  rw[List.map_map]
  apply List.map_congr_left
  intro s _;exact zh4 s hk
 rw[this];simp;omega
def Jg (l:List Ca) (key:Int × Int):Int:=if key.1=1 then(zK l key.2:Int)else 0
theorem zgz (l:List Ca) (c:Ca) (key:Int × Int):Jg (l++ [c]) key=Jg l key+(if key=(1,c.fr)then 1 else 0):=by
 unfold Jg zK;obtain⟨a,b⟩:=key;simp only[List.countP_append,pJ]
 by_cases h1:a=1
 ·rw[if_pos h1,if_pos h1]
  by_cases h2:b=c.fr
  ·simp[h1,h2]
  have:¬c.fr=b:=fun e=>h2 e.symm
  simp[h1,h2,this]
 rw[if_neg h1,if_neg h1]
 simp[h1]
theorem zhE (m:Ma) (s:Sp) (key:Int × Int):Jg m.ca key=qi m 0 [] s key:=by
 unfold Jg qi;simp
 split <;> rfl
theorem zhD (key:Int × Int):Jg [] key=0:=by
 unfold Jg zK;simp
def Jf:List Ca->Int × Int->Option Int
 | [],_=>none
 | c :: l,key=>match Jf l key with | some z=>some z | none=>if key=(c.file,c.idx)then some c.fr else none
theorem zd7 (c:Ca) (key:Int × Int):∀(l:List Ca),Jf (l++ [c]) key=if key=(c.file,c.idx)then some c.fr else Jf l key
 | []=>by simp[Jf]
 | d :: l=>by
  simp only[List.cons_append,Jf];rw[zd7 c key l]
  by_cases h:key=(c.file,c.idx)
  ·rw[if_pos h,if_pos h]
  rw[if_neg h,if_neg h]
theorem zde {key:Int × Int} {z:Int}:∀{l:List Ca},Jf l key=some z->∃c∈l,key=(c.file,c.idx)/\c.fr=z
 | [],h=>by cases h
 | d :: l,h=>by
  unfold Jf at h
  cases e:Jf l key with
  | some y=>
   rw[e]at h;cases h;obtain⟨c,h1,h2⟩:=zde e;exact⟨c,List.mem_cons_of_mem _ h1,h2⟩
  | none=>
   rw[e]at h;simp only at h
   split at h
   ·rename_i h'
    cases h;exact⟨d,List.mem_cons_self,h',rfl⟩
   cases h
theorem zbE {key:Int × Int}:∀{l:List Ca},Jf l key=none↔∀c∈l,key≠(c.file,c.idx)
 | []=>by simp[Jf]
 | d :: l=>by
  unfold Jf;constructor
  ·intro h c hc
   cases e:Jf l key with
   | some y=>rw[e]at h;cases h
   | none=>
    rw[e]at h;simp only at h
    rcases mC.1 hc with rfl | hc
    ·intro h';rw[if_pos h']at h;cases h
    exact zbE.1 e c hc
  intro h;rw[zbE.2 fun c hc=>h c (List.mem_cons_of_mem _ hc)]
  simp only;rw[if_neg (h d List.mem_cons_self)]
theorem zfs {l:List Ca} (h:l.Pairwise fun a b=>jM a<jM b) {c d:Ca} (hc:c∈l) (hd:d∈l) (hk:jM c=jM d):c=d:=by
 induction l with
 | nil=>cases hc
 | cons a l ih=>
  rw[List.pairwise_cons]at h
  rcases mC.1 hc with rfl | hc'
  ·rcases mC.1 hd with rfl | hd'
   ·rfl
   have:=h.1 d hd';omega
  rcases mC.1 hd with rfl | hd'
  ·have:=h.1 c hc';omega
  exact ih h.2 hc' hd'
theorem zgA {m:Ma} (hca:J1 m none m.ca=0) (k:Nat):(Jf m.ca ((z8 m k).f,(z8 m k).x)=some (k:Int))↔zK m.ca k≠0:=by
 obtain⟨a1,_,a3⟩:=zU.1 hca;have hca':∀c∈m.ca,(z8 m c.fr).f=c.file/\(z8 m c.fr).x=c.idx:=by
  intro c hc;have:=a1 c hc;unfold caE at this
  split at this
  ·cases this
  split at this
  ·cases this
  rename_i h
  exact⟨Classical.byContradiction fun e=>h (.inr (.inl e)),Classical.byContradiction fun e=>h (.inr (.inr e))⟩
 have hcount:zK m.ca k≠0↔∃c∈m.ca,c.fr=(k:Int):=by
  unfold zK;rw[Nat.ne_zero_iff_zero_lt,List.countP_pos_iff];simp
 rw[hcount];constructor
 ·intro h;obtain⟨c,h1,_,h3⟩:=zde h;exact⟨c,h1,h3⟩
 rintro⟨c,h1,h2⟩;obtain⟨b1,b2⟩:=hca' c h1;rw[h2]at b1 b2
 cases e:Jf m.ca ((z8 m k).f,(z8 m k).x)with
 | none=>
  have:=zbE.1 e c h1;rw[b1,b2]at this;exact absurd rfl this
 | some z=>
  obtain⟨d,d1,d2,d3⟩:=zde e;rw[b1,b2]at d2;simp only[pJ]at d2;have:c=d:=zfs a3 h1 d1 (by unfold jM;rw[d2.1,d2.2])
  rw[<-d3,<-this,h2]
end
section
open Go.RowKit
theorem zaJ (m n:Int) (w:World):
  Calls Tryz.prog 101 #[.int .i64 m,.int .i64 n] w fun e w'=>e= .returned (.bool (bel m n))/\w'=w:=by
 have H:Hid (bel m n=(decide (0<=m) && decide (m<n))):=rfl
 by_cases h0:0<=m
 ·by_cases h1:m<n
  ·go_enter Tryz.func101,Tryz.ntmps101
   go_wp2;go_ret;exact⟨by rw[H.out];simp[*],rfl⟩
  go_enter Tryz.func101,Tryz.ntmps101
  go_wp2;go_ret;exact⟨by rw[H.out];simp[*],rfl⟩
 go_enter Tryz.func101,Tryz.ntmps101
 go_wp2;go_ret;exact⟨by rw[H.out];simp;omega,rfl⟩
theorem zlp:(Tryz.prog.info? 43).map (fun i=>(i.zero,i.size,i.bytes))=some (some (.int .i64 0),1,8):=by kernel_rfl
def zg1:Elt Int where
 enc:=fun z=>[.int .i64 z]
 k:=1
 ty:=43
 st:=236
 bytes:=8
 zv:= .int .i64 0
 zero:=0
 len:=fun _=>rfl
 one:=fun a u hu=>by
  simp only[mC,nM,or_false]at hu;rw[hu];rfl
 und:=Tryz.underlying236
 info:=zlp
 zok:=rfl
 few:=by decide
 pos:=by decide
theorem zo.errs {w:World} {v:Value} {l:List Int} (h:zo zg1 w v l):∃a c,v= .slice a l.length c/\zaU w a l:=by
 obtain⟨a,c,h1,h2⟩:=h.rows;refine⟨a,c,h1,fun j x hj=>?_⟩
 obtain⟨ad,h3,h4⟩:=h2 j x hj;refine⟨ad,h3,fun W hW=>?_⟩
 have:=h4 W hW 0 _ rfl;rw[zP]at this
 simpa [zg1]using this
theorem zeR {α:Type} (E:Elt α) (w:World) (l:List α) (cs:Array Value) (hcs:cs=(l.flatMap E.enc).toArray) (hb:l.length*E.bytes<=140737488355328):zo E (w.alloc (.cells cs E.ty)) (.slice (some ⟨w.heap.size,0,none⟩) l.length l.length) l:=by
 subst hcs;refine⟨⟨_,l.length,rfl,fun h=>(by cases h),fun y hy=>?_⟩,hb⟩
 cases hy;exact jr.top w (l.flatMap E.enc) E.ty rfl
theorem zbJ {l:List Int} {k:Nat} (hb:∀(j:Nat) x,j<k->l[j]? =some x->x=0) {q:Int} (hq:l[k]? =some q) (hn:q≠0):ze l=q:=by
 have:=j0 (f:=fun x=>x) hq hb hn
 simpa using this
theorem zbK {l:List Int} (hb:∀(j:Nat) x,l[j]? =some x->x=0):ze l=0:=by
 have:=Qn (f:=fun x=>x) hb
 simpa using this
theorem zbw (v:Value) (l:List Int) (w:World) (hv:zo zg1 w v l):
  Calls Tryz.prog 130 #[v] w fun e w'=>e= .returned (.int .i64 (ze l))/\w'=w:=by
 have hbig:=hv.short;obtain⟨a,c,rfl,hrow⟩:=hv.errs;have HR:Hid (zaU w a l):=hrow;clear hrow hv;obtain⟨n,HN⟩:∃n,Hid (l.length=n):=⟨_,rfl⟩;rw[HN.out]at hbig⊢;obtain⟨F,HF⟩:∃F,Hid (ze l=F):=⟨_,rfl⟩;rw[HF.out]
 go_enter Tryz.func130,Tryz.ntmps130
 go_wp2
 go_loopg [5,8] n (fun gg _ s8 wr=>∃kk:Nat,kk<=n/\n - kk<=gg/\s8= .int .i64 kk/\wr=w/\Hid (∀(j:Nat) x,j<kk->l[j]? =some x->x=0))
 case atStart=>exact⟨0,nZ _,by omega,rfl,rfl,fun j x hj=>absurd hj (nL _)⟩
 obtain⟨kk,hkk,hgg,rfl,rfl,A⟩:=hrel
 by_cases hlt:kk<n
 ·have hltz:(kk:Int)< (n:Int):=by omega
  obtain⟨q,HQ⟩:∃q,Hid (l[kk]? =some q):=⟨_,gE (by rw[HN.out];exact hlt)⟩
  obtain⟨x,rfl,hl⟩:=HR.out kk q HQ.out;have d0:=hl wr (zc.refl _);clear hl
  by_cases h0:q=0
  ·have h0e:(q != 0)=false:=by simp[h0]
   have HA:Hid (∀(j:Nat) x,j<kk+1->l[j]? =some x->x=0):=show∀(j:Nat) x,_ from fun j x hj hx=>by
    by_cases e:j=kk
    ·subst e;rw[HQ.out]at hx;cases hx;exact h0
    exact A.out j x (by omega) hx
   clear h0;go_wp2
   go_roundg (n -(kk+1))
   case measure=>omega
   exact⟨kk+1,by omega,by omega,by go_num,rfl,HA.out⟩
  have h0e:(q != 0)=true:=by simp[h0]
  have HE:Hid (F=q):=show _=_ by rw[<-HF.out];exact zbJ A.out HQ.out h0
  clear h0;go_wp2;go_ret;exact⟨by rw[HE.out];rfl,rfl⟩
 have hltz:¬(kk:Int)< (n:Int):=by omega
 have:kk=n:=by omega
 subst this;have HE:Hid (F=0):=show _=_ by
  rw[<-HF.out];exact zbK fun j x hx=>A.out j x (by rw[<-HN.out];exact(gS.1 hx).1) hx
 go_wp2;go_ret;exact⟨by rw[HE.out];rfl,rfl⟩
theorem ze7 (a:Ar) (n:Int) (w:World) (h1:0<=a.base/\a.base<=100) (h2:0<=a.fr/\a.fr<=100) (h3:0<=n/\n<=100):
  Calls Tryz.prog 146 #[.agg #[.int .i64 a.fr,.int .i64 a.tz,.bool a.rd,.bool a.wr,.bool a.sh,.int .i64 a.file,.int .i64 a.base],.int .i64 n] w fun e w'=>e= .returned (.int .i64 (a.base+n - a.fr))/\zc w w':=by
 obtain⟨fr,tz,rd,wr,sh,file,base⟩:=a;simp only at h1 h2
 go_enter Tryz.func146,Tryz.ntmps146
 go_wp2;go_ret;exact⟨rfl,za _ _⟩
theorem ze6 (c d:Ca) (w:World):
  Calls Tryz.prog 163 #[.agg #[.int .i64 c.file,.int .i64 c.idx,.int .i64 c.fr],.agg #[.int .i64 d.file,.int .i64 d.idx,.int .i64 d.fr]] w fun e w'=>e= .returned (.bool (ZY c d))/\zc w w':=by
 obtain⟨cf,ci,cr⟩:=c;obtain⟨df,di,dr⟩:=d
 by_cases h1:cf<df
 ·have hz:ZY ⟨cf,ci,cr⟩ ⟨df,di,dr⟩=true:=by simp[ZY,h1]
  rw[hz];clear hz
  go_enter Tryz.func163,Tryz.ntmps163
  go_wp2;go_ret;exact⟨rfl,(za _ _).trans (za _ _)⟩
 by_cases h2:cf=df
 ·subst h2
  by_cases h3:ci<di
  ·have hz:ZY ⟨cf,ci,cr⟩ ⟨cf,di,dr⟩=true:=by simp[ZY,h3]
   rw[hz];clear hz
   go_enter Tryz.func163,Tryz.ntmps163
   go_wp2;go_ret;exact⟨rfl,(za _ _).trans (za _ _)⟩
  have hz:ZY ⟨cf,ci,cr⟩ ⟨cf,di,dr⟩=false:=by simp[ZY,h3]
  rw[hz];clear hz
  go_enter Tryz.func163,Tryz.ntmps163
  go_wp2;go_ret;exact⟨rfl,(za _ _).trans (za _ _)⟩
 have hz:ZY ⟨cf,ci,cr⟩ ⟨df,di,dr⟩=false:=by simp[ZY,h1,h2]
 rw[hz];clear hz;have h2e:(cf == df)=false:=by simp[h2]
 clear h2
 go_enter Tryz.func163,Tryz.ntmps163
 go_wp2;go_ret;exact⟨rfl,(za _ _).trans (za _ _)⟩
theorem zdZ (f:Fr) (a:Ar) (w:World):
  Calls Tryz.prog 197 #[.agg (frv f).toArray,.agg #[.int .i64 a.fr,.int .i64 a.tz,.bool a.rd,.bool a.wr,.bool a.sh,.int .i64 a.file,.int .i64 a.base]] w fun e w'=>e= .returned (.bool (Zs f a))/\zc w w':=by
 obtain⟨⟨b0,b1,b2,b3,b4,b5,b6,b7⟩,r,u,d,ff,x⟩:=f;obtain⟨fr,tz,rd,wr,sh,file,base⟩:=a;unfold frv Zs;simp only;cases wr
 ·simp only[Bool.false_and]
  go_enter Tryz.func197,Tryz.ntmps197
  go_wp2;go_ret;exact⟨rfl,(za _ _).trans (za _ _)⟩
 simp only[Bool.true_and]
 by_cases h:ff<0
 ·rw[if_pos h];obtain⟨D,HD⟩:∃D,Hid (decide (r<=1)=D):=⟨_,rfl⟩;rw[HD.out]
  go_enter Tryz.func197,Tryz.ntmps197
  go_wp2;go_ret;exact⟨by rw[<-HD.out];rfl,(za _ _).trans (za _ _)⟩
 rw[if_neg h]
 go_enter Tryz.func197,Tryz.ntmps197
 go_wp2;go_ret;exact⟨rfl,(za _ _).trans (za _ _)⟩
theorem qW (m n:Int) (w:World):
  Calls Tryz.prog 176 #[.int .i64 m,.int .i64 n] w fun e w'=>e= .returned (.bool (inB m n))/\w'=w:=by
 have H:Hid (inB m n=(decide (0<=m) && decide (m<n))):=rfl
 by_cases h0:0<=m
 ·by_cases h1:m<n
  ·go_enter Tryz.func176,Tryz.ntmps176
   go_wp2;go_ret;exact⟨by rw[H.out];simp[*],rfl⟩
  go_enter Tryz.func176,Tryz.ntmps176
  go_wp2;go_ret;exact⟨by rw[H.out];simp[*],rfl⟩
 go_enter Tryz.func176,Tryz.ntmps176
 go_wp2;go_ret;exact⟨by rw[H.out];simp;omega,rfl⟩
theorem Zi (w:World):
  Calls Tryz.prog 173 #[] w fun e w'=>e= .returned (.agg (frv frF).toArray)/\zc w w':=by
 go_enter Tryz.func173,Tryz.ntmps173
 go_wp2;refine bodyPost_ret (v:= .agg (frv frF).toArray) (by simp[results,Tryz.results173,go_sem,frv,frF,pg0]) rfl ⟨rfl,?_⟩
 exact(bR _ _).alloc (nR _) _
theorem wf1 (b0 b1 b2 b3 b4 b5 b6 b7 r:Int) (u d:Bool) (f x:Int) (w:World) (hb1:inB r 1001=false):
  Calls Tryz.prog 187 #[.agg #[.int .u8 b0,.int .u8 b1,.int .u8 b2,.int .u8 b3,.int .u8 b4,.int .u8 b5,.int .u8 b6,.int .u8 b7,.int .i64 r,.bool u,.bool d,.int .i64 f,.int .i64 x]] w fun e w'=>e= .returned (.int .i64 3)/\zc w w':=by
 go_enter Tryz.func187,Tryz.ntmps187
 go_wp2_with (go_at_call 176;refine(qW _ _ _).mono ?_;rintro e w' ⟨rfl,rfl⟩)
 go_ret;exact⟨rfl,(bR _ _).alloc (nR _) _⟩
theorem wf2 (b0 b1 b2 b3 b4 b5 b6 b7 r:Int) (u d:Bool) (f x:Int) (w:World) (hb1:inB r 1001=true) (hb2:inB x 12=false):
  Calls Tryz.prog 187 #[.agg #[.int .u8 b0,.int .u8 b1,.int .u8 b2,.int .u8 b3,.int .u8 b4,.int .u8 b5,.int .u8 b6,.int .u8 b7,.int .i64 r,.bool u,.bool d,.int .i64 f,.int .i64 x]] w fun e w'=>e= .returned (.int .i64 3)/\zc w w':=by
 go_enter Tryz.func187,Tryz.ntmps187
 go_wp2_with (go_at_call 176;refine(qW _ _ _).mono ?_;rintro e w' ⟨rfl,rfl⟩)
 go_ret;exact⟨rfl,(bR _ _).alloc (nR _) _⟩
theorem wf3 (b0 b1 b2 b3 b4 b5 b6 b7 r:Int) (u d:Bool) (f x:Int) (w:World) (hb1:inB r 1001=true) (hb2:inB x 12=true) (hf:(f != -1)=true) (hb3:inB f 5=false):
  Calls Tryz.prog 187 #[.agg #[.int .u8 b0,.int .u8 b1,.int .u8 b2,.int .u8 b3,.int .u8 b4,.int .u8 b5,.int .u8 b6,.int .u8 b7,.int .i64 r,.bool u,.bool d,.int .i64 f,.int .i64 x]] w fun e w'=>e= .returned (.int .i64 3)/\zc w w':=by
 go_enter Tryz.func187,Tryz.ntmps187
 go_wp2_with (go_at_call 176;refine(qW _ _ _).mono ?_;rintro e w' ⟨rfl,rfl⟩)
 go_ret;exact⟨rfl,(bR _ _).alloc (nR _) _⟩
theorem wf4 (b0 b1 b2 b3 b4 b5 b6 b7 r:Int) (u d:Bool) (f x:Int) (w:World) (hb1:inB r 1001=true) (hb2:inB x 12=true) (hf:(f != -1)=true) (_hfe:(f == -1)=false) (hb3:inB f 5=true) (hr:(r == 0)=true) (hfr:Zz (⟨⟨b0,b1,b2,b3,b4,b5,b6,b7⟩,r,u,d,f,x⟩:Fr) frF=false):
  Calls Tryz.prog 187 #[.agg #[.int .u8 b0,.int .u8 b1,.int .u8 b2,.int .u8 b3,.int .u8 b4,.int .u8 b5,.int .u8 b6,.int .u8 b7,.int .i64 r,.bool u,.bool d,.int .i64 f,.int .i64 x]] w fun e w'=>e= .returned (.int .i64 7)/\zc w w':=by
 have HFR:Hid _:=hfr;clear hfr
 go_enter Tryz.func187,Tryz.ntmps187
 go_wp2_with (go_at_call 176;refine(qW _ _ _).mono ?_;rintro e w' ⟨rfl,rfl⟩)
 obtain⟨W0,hW0⟩:∃W0,w.alloc (.cells #[.int .u8 b0,.int .u8 b1,.int .u8 b2,.int .u8 b3,.int .u8 b4,.int .u8 b5,.int .u8 b6,.int .u8 b7,.int .i64 r,.bool u,.bool d,.int .i64 f,.int .i64 x] 69)=W0:=⟨_,rfl⟩;have HG0:=gA hW0
 have X0:=xA hW0
 rw[hW0];clear hW0;have hx0:=X0.out.gw 0 rfl
 have hx1:=X0.out.gw 1 rfl
 have hx2:=X0.out.gw 2 rfl
 have hx3:=X0.out.gw 3 rfl
 have hx4:=X0.out.gw 4 rfl
 have hx5:=X0.out.gw 5 rfl
 have hx6:=X0.out.gw 6 rfl
 have hx7:=X0.out.gw 7 rfl
 have hx8:=X0.out.gw 8 rfl
 have hx9:=X0.out.gw 9 rfl
 have hx10:=X0.out.gw 10 rfl
 have hx11:=X0.out.gw 11 rfl
 have hx12:=X0.out.gw 12 rfl
 have hne:Nonempty (zx W0):=⟨⟨_,zc.refl _⟩⟩;refine jX [(5,⟨fun v=>v= .agg (frv frF).toArray,fun _ _=>True⟩)] qy (by kernel_rfl) ?_ ?_ ?_
 ·intro x hx
  simp at hx
  subst hx;exact⟨_,rfl⟩
 ·intro x hx
  simp at hx
  subst hx;exact fun _ _ _ _ h=>h
 iterate 5 (refine zm rfl rfl rfl (fun K hK=>?_);go_big_quiet_op;refine hK _ ?_;clear hK K)
 refine zM rfl rfl (fun w' hg hF=>?_) (fun v1 hv=>?_)
 ·refine zL.call [] rfl Tryz.func173 rfl rfl rfl ?_;refine(Zi w').mono ?_;rintro e w'' ⟨rfl,hg2⟩;exact⟨_,rfl,hg2,rfl,trivial⟩
 subst hv;have hq:=fun W=>zcb b0 b1 b2 b3 b4 b5 b6 b7 r u d f x 0 0 0 0 0 0 0 0 0 false false (-1) 0 W
 simp only[show(⟨⟨0,0,0,0,0,0,0,0⟩,0,false,false,-1,0⟩:Fr)=frF from rfl,HFR.out]at hq
 simp only[Act.put,sB,sS,sZ,frv,frF,pg0];iterate 3 (refine zm rfl rfl rfl (fun K hK=>?_);go_big_quiet_op;refine hK _ ?_;clear hK K)
 iterate 8 (refine qB ?_ ?_;kernel_rfl;simp only[Act.put,sB,sS,sZ])
 iterate 1 (refine zm rfl rfl rfl (fun K hK=>?_);go_big_quiet_op;refine hK _ ?_;clear hK K)
 refine qU fun w1 hg1 hF=>?_
 have HG1:=dD (HG0.out.trans hg1);go_wp2;go_ret;exact⟨rfl,HG1.out⟩
theorem wf5 (b0 b1 b2 b3 b4 b5 b6 b7 r:Int) (u d:Bool) (f x:Int) (w:World) (hb1:inB r 1001=true) (hb2:inB x 12=true) (hf:(f != -1)=true) (_hfe:(f == -1)=false) (hb3:inB f 5=true) (hr:(r == 0)=false):
  Calls Tryz.prog 187 #[.agg #[.int .u8 b0,.int .u8 b1,.int .u8 b2,.int .u8 b3,.int .u8 b4,.int .u8 b5,.int .u8 b6,.int .u8 b7,.int .i64 r,.bool u,.bool d,.int .i64 f,.int .i64 x]] w fun e w'=>e= .returned (.int .i64 0)/\zc w w':=by
 go_enter Tryz.func187,Tryz.ntmps187
 go_wp2_with (go_at_call 176;refine(qW _ _ _).mono ?_;rintro e w' ⟨rfl,rfl⟩)
 obtain⟨W0,hW0⟩:∃W0,w.alloc (.cells #[.int .u8 b0,.int .u8 b1,.int .u8 b2,.int .u8 b3,.int .u8 b4,.int .u8 b5,.int .u8 b6,.int .u8 b7,.int .i64 r,.bool u,.bool d,.int .i64 f,.int .i64 x] 69)=W0:=⟨_,rfl⟩;have HG0:=gA hW0
 have X0:=xA hW0
 rw[hW0];clear hW0;have hx0:=X0.out.gw 0 rfl
 have hx1:=X0.out.gw 1 rfl
 have hx2:=X0.out.gw 2 rfl
 have hx3:=X0.out.gw 3 rfl
 have hx4:=X0.out.gw 4 rfl
 have hx5:=X0.out.gw 5 rfl
 have hx6:=X0.out.gw 6 rfl
 have hx7:=X0.out.gw 7 rfl
 have hx8:=X0.out.gw 8 rfl
 have hx9:=X0.out.gw 9 rfl
 have hx10:=X0.out.gw 10 rfl
 have hx11:=X0.out.gw 11 rfl
 have hx12:=X0.out.gw 12 rfl
 have hne:Nonempty (zx W0):=⟨⟨_,zc.refl _⟩⟩;refine jX [(5,⟨fun v=>v= .agg (frv frF).toArray,fun _ _=>True⟩)] qy (by kernel_rfl) ?_ ?_ ?_
 ·intro x hx
  simp at hx
  subst hx;exact⟨_,rfl⟩
 ·intro x hx
  simp at hx
  subst hx;exact fun _ _ _ _ h=>h
 iterate 4 (refine zm rfl rfl rfl (fun K hK=>?_);go_big_quiet_op;refine hK _ ?_;clear hK K)
 iterate 3 (refine qB ?_ ?_;kernel_rfl;simp only[Act.put,sB,sS,sZ])
 iterate 6 (refine zm rfl rfl rfl (fun K hK=>?_);go_big_quiet_op;refine hK _ ?_;clear hK K)
 iterate 3 (refine qB ?_ ?_;kernel_rfl;simp only[Act.put,sB,sS,sZ])
 iterate 2 (refine zm rfl rfl rfl (fun K hK=>?_);go_big_quiet_op;refine hK _ ?_;clear hK K)
 refine qU fun w1 hg1 hF=>?_
 have HG1:=dD (HG0.out.trans hg1);go_wp2;go_ret;exact⟨rfl,HG1.out⟩
theorem wf6 (b0 b1 b2 b3 b4 b5 b6 b7 r:Int) (u d:Bool) (f x:Int) (w:World) (hb1:inB r 1001=true) (hb2:inB x 12=true) (hf:(f != -1)=false) (_hfe:(f == -1)=true) (hr:(r == 0)=true) (hfr:Zz (⟨⟨b0,b1,b2,b3,b4,b5,b6,b7⟩,r,u,d,f,x⟩:Fr) frF=false):
  Calls Tryz.prog 187 #[.agg #[.int .u8 b0,.int .u8 b1,.int .u8 b2,.int .u8 b3,.int .u8 b4,.int .u8 b5,.int .u8 b6,.int .u8 b7,.int .i64 r,.bool u,.bool d,.int .i64 f,.int .i64 x]] w fun e w'=>e= .returned (.int .i64 7)/\zc w w':=by
 have HFR:Hid _:=hfr;clear hfr
 go_enter Tryz.func187,Tryz.ntmps187
 go_wp2_with (go_at_call 176;refine(qW _ _ _).mono ?_;rintro e w' ⟨rfl,rfl⟩)
 obtain⟨W0,hW0⟩:∃W0,w.alloc (.cells #[.int .u8 b0,.int .u8 b1,.int .u8 b2,.int .u8 b3,.int .u8 b4,.int .u8 b5,.int .u8 b6,.int .u8 b7,.int .i64 r,.bool u,.bool d,.int .i64 f,.int .i64 x] 69)=W0:=⟨_,rfl⟩;have HG0:=gA hW0
 have X0:=xA hW0
 rw[hW0];clear hW0;have hx0:=X0.out.gw 0 rfl
 have hx1:=X0.out.gw 1 rfl
 have hx2:=X0.out.gw 2 rfl
 have hx3:=X0.out.gw 3 rfl
 have hx4:=X0.out.gw 4 rfl
 have hx5:=X0.out.gw 5 rfl
 have hx6:=X0.out.gw 6 rfl
 have hx7:=X0.out.gw 7 rfl
 have hx8:=X0.out.gw 8 rfl
 have hx9:=X0.out.gw 9 rfl
 have hx10:=X0.out.gw 10 rfl
 have hx11:=X0.out.gw 11 rfl
 have hx12:=X0.out.gw 12 rfl
 have hne:Nonempty (zx W0):=⟨⟨_,zc.refl _⟩⟩;refine jX [(5,⟨fun v=>v= .agg (frv frF).toArray,fun _ _=>True⟩)] qy (by kernel_rfl) ?_ ?_ ?_
 ·intro x hx
  simp at hx
  subst hx;exact⟨_,rfl⟩
 ·intro x hx
  simp at hx
  subst hx;exact fun _ _ _ _ h=>h
 iterate 5 (refine zm rfl rfl rfl (fun K hK=>?_);go_big_quiet_op;refine hK _ ?_;clear hK K)
 refine zM rfl rfl (fun w' hg hF=>?_) (fun v1 hv=>?_)
 ·refine zL.call [] rfl Tryz.func173 rfl rfl rfl ?_;refine(Zi w').mono ?_;rintro e w'' ⟨rfl,hg2⟩;exact⟨_,rfl,hg2,rfl,trivial⟩
 subst hv;have hq:=fun W=>zcb b0 b1 b2 b3 b4 b5 b6 b7 r u d f x 0 0 0 0 0 0 0 0 0 false false (-1) 0 W
 simp only[show(⟨⟨0,0,0,0,0,0,0,0⟩,0,false,false,-1,0⟩:Fr)=frF from rfl,HFR.out]at hq
 simp only[Act.put,sB,sS,sZ,frv,frF,pg0];iterate 3 (refine zm rfl rfl rfl (fun K hK=>?_);go_big_quiet_op;refine hK _ ?_;clear hK K)
 iterate 8 (refine qB ?_ ?_;kernel_rfl;simp only[Act.put,sB,sS,sZ])
 iterate 1 (refine zm rfl rfl rfl (fun K hK=>?_);go_big_quiet_op;refine hK _ ?_;clear hK K)
 refine qU fun w1 hg1 hF=>?_
 have HG1:=dD (HG0.out.trans hg1);go_wp2;go_ret;exact⟨rfl,HG1.out⟩
theorem wf7 (b0 b1 b2 b3 b4 b5 b6 b7 r:Int) (u d:Bool) (f x:Int) (w:World) (hb1:inB r 1001=true) (hb2:inB x 12=true) (hf:(f != -1)=false) (_hfe:(f == -1)=true) (hr:(r == 0)=true) (hfr:Zz (⟨⟨b0,b1,b2,b3,b4,b5,b6,b7⟩,r,u,d,f,x⟩:Fr) frF=true) (hx:(x != 0)=false):
  Calls Tryz.prog 187 #[.agg #[.int .u8 b0,.int .u8 b1,.int .u8 b2,.int .u8 b3,.int .u8 b4,.int .u8 b5,.int .u8 b6,.int .u8 b7,.int .i64 r,.bool u,.bool d,.int .i64 f,.int .i64 x]] w fun e w'=>e= .returned (.int .i64 0)/\zc w w':=by
 have HFR:Hid _:=hfr;clear hfr
 go_enter Tryz.func187,Tryz.ntmps187
 go_wp2_with (go_at_call 176;refine(qW _ _ _).mono ?_;rintro e w' ⟨rfl,rfl⟩)
 obtain⟨W0,hW0⟩:∃W0,w.alloc (.cells #[.int .u8 b0,.int .u8 b1,.int .u8 b2,.int .u8 b3,.int .u8 b4,.int .u8 b5,.int .u8 b6,.int .u8 b7,.int .i64 r,.bool u,.bool d,.int .i64 f,.int .i64 x] 69)=W0:=⟨_,rfl⟩;have HG0:=gA hW0
 have X0:=xA hW0
 rw[hW0];clear hW0;have hx0:=X0.out.gw 0 rfl
 have hx1:=X0.out.gw 1 rfl
 have hx2:=X0.out.gw 2 rfl
 have hx3:=X0.out.gw 3 rfl
 have hx4:=X0.out.gw 4 rfl
 have hx5:=X0.out.gw 5 rfl
 have hx6:=X0.out.gw 6 rfl
 have hx7:=X0.out.gw 7 rfl
 have hx8:=X0.out.gw 8 rfl
 have hx9:=X0.out.gw 9 rfl
 have hx10:=X0.out.gw 10 rfl
 have hx11:=X0.out.gw 11 rfl
 have hx12:=X0.out.gw 12 rfl
 have hne:Nonempty (zx W0):=⟨⟨_,zc.refl _⟩⟩;refine jX [(5,⟨fun v=>v= .agg (frv frF).toArray,fun _ _=>True⟩)] qy (by kernel_rfl) ?_ ?_ ?_
 ·intro x hx
  simp at hx
  subst hx;exact⟨_,rfl⟩
 ·intro x hx
  simp at hx
  subst hx;exact fun _ _ _ _ h=>h
 iterate 5 (refine zm rfl rfl rfl (fun K hK=>?_);go_big_quiet_op;refine hK _ ?_;clear hK K)
 refine zM rfl rfl (fun w' hg hF=>?_) (fun v1 hv=>?_)
 ·refine zL.call [] rfl Tryz.func173 rfl rfl rfl ?_;refine(Zi w').mono ?_;rintro e w'' ⟨rfl,hg2⟩;exact⟨_,rfl,hg2,rfl,trivial⟩
 subst hv;have hq:=fun W=>zcb b0 b1 b2 b3 b4 b5 b6 b7 r u d f x 0 0 0 0 0 0 0 0 0 false false (-1) 0 W
 simp only[show(⟨⟨0,0,0,0,0,0,0,0⟩,0,false,false,-1,0⟩:Fr)=frF from rfl,HFR.out]at hq
 simp only[Act.put,sB,sS,sZ,frv,frF,pg0];iterate 12 (refine zm rfl rfl rfl (fun K hK=>?_);go_big_quiet_op;refine hK _ ?_;clear hK K)
 refine qU fun w1 hg1 hF=>?_
 have HG1:=dD (HG0.out.trans hg1);go_wp2;go_ret;exact⟨rfl,HG1.out⟩
theorem wf8 (b0 b1 b2 b3 b4 b5 b6 b7 r:Int) (u d:Bool) (f x:Int) (w:World) (hb1:inB r 1001=true) (hb2:inB x 12=true) (hf:(f != -1)=false) (_hfe:(f == -1)=true) (hr:(r == 0)=false) (hx:(x != 0)=true):
  Calls Tryz.prog 187 #[.agg #[.int .u8 b0,.int .u8 b1,.int .u8 b2,.int .u8 b3,.int .u8 b4,.int .u8 b5,.int .u8 b6,.int .u8 b7,.int .i64 r,.bool u,.bool d,.int .i64 f,.int .i64 x]] w fun e w'=>e= .returned (.int .i64 7)/\zc w w':=by
 go_enter Tryz.func187,Tryz.ntmps187
 go_wp2_with (go_at_call 176;refine(qW _ _ _).mono ?_;rintro e w' ⟨rfl,rfl⟩)
 obtain⟨W0,hW0⟩:∃W0,w.alloc (.cells #[.int .u8 b0,.int .u8 b1,.int .u8 b2,.int .u8 b3,.int .u8 b4,.int .u8 b5,.int .u8 b6,.int .u8 b7,.int .i64 r,.bool u,.bool d,.int .i64 f,.int .i64 x] 69)=W0:=⟨_,rfl⟩;have HG0:=gA hW0
 have X0:=xA hW0
 rw[hW0];clear hW0;have hx0:=X0.out.gw 0 rfl
 have hx1:=X0.out.gw 1 rfl
 have hx2:=X0.out.gw 2 rfl
 have hx3:=X0.out.gw 3 rfl
 have hx4:=X0.out.gw 4 rfl
 have hx5:=X0.out.gw 5 rfl
 have hx6:=X0.out.gw 6 rfl
 have hx7:=X0.out.gw 7 rfl
 have hx8:=X0.out.gw 8 rfl
 have hx9:=X0.out.gw 9 rfl
 have hx10:=X0.out.gw 10 rfl
 have hx11:=X0.out.gw 11 rfl
 have hx12:=X0.out.gw 12 rfl
 have hne:Nonempty (zx W0):=⟨⟨_,zc.refl _⟩⟩;refine jX [(5,⟨fun v=>v= .agg (frv frF).toArray,fun _ _=>True⟩)] qy (by kernel_rfl) ?_ ?_ ?_
 ·intro x hx
  simp at hx
  subst hx;exact⟨_,rfl⟩
 ·intro x hx
  simp at hx
  subst hx;exact fun _ _ _ _ h=>h
 iterate 4 (refine zm rfl rfl rfl (fun K hK=>?_);go_big_quiet_op;refine hK _ ?_;clear hK K)
 iterate 3 (refine qB ?_ ?_;kernel_rfl;simp only[Act.put,sB,sS,sZ])
 iterate 11 (refine zm rfl rfl rfl (fun K hK=>?_);go_big_quiet_op;refine hK _ ?_;clear hK K)
 refine qU fun w1 hg1 hF=>?_
 have HG1:=dD (HG0.out.trans hg1);go_wp2;go_ret;exact⟨rfl,HG1.out⟩
theorem wf9 (b0 b1 b2 b3 b4 b5 b6 b7 r:Int) (u d:Bool) (f x:Int) (w:World) (hb1:inB r 1001=true) (hb2:inB x 12=true) (hf:(f != -1)=false) (_hfe:(f == -1)=true) (hr:(r == 0)=false) (hx:(x != 0)=false):
  Calls Tryz.prog 187 #[.agg #[.int .u8 b0,.int .u8 b1,.int .u8 b2,.int .u8 b3,.int .u8 b4,.int .u8 b5,.int .u8 b6,.int .u8 b7,.int .i64 r,.bool u,.bool d,.int .i64 f,.int .i64 x]] w fun e w'=>e= .returned (.int .i64 0)/\zc w w':=by
 go_enter Tryz.func187,Tryz.ntmps187
 go_wp2_with (go_at_call 176;refine(qW _ _ _).mono ?_;rintro e w' ⟨rfl,rfl⟩)
 obtain⟨W0,hW0⟩:∃W0,w.alloc (.cells #[.int .u8 b0,.int .u8 b1,.int .u8 b2,.int .u8 b3,.int .u8 b4,.int .u8 b5,.int .u8 b6,.int .u8 b7,.int .i64 r,.bool u,.bool d,.int .i64 f,.int .i64 x] 69)=W0:=⟨_,rfl⟩;have HG0:=gA hW0
 have X0:=xA hW0
 rw[hW0];clear hW0;have hx0:=X0.out.gw 0 rfl
 have hx1:=X0.out.gw 1 rfl
 have hx2:=X0.out.gw 2 rfl
 have hx3:=X0.out.gw 3 rfl
 have hx4:=X0.out.gw 4 rfl
 have hx5:=X0.out.gw 5 rfl
 have hx6:=X0.out.gw 6 rfl
 have hx7:=X0.out.gw 7 rfl
 have hx8:=X0.out.gw 8 rfl
 have hx9:=X0.out.gw 9 rfl
 have hx10:=X0.out.gw 10 rfl
 have hx11:=X0.out.gw 11 rfl
 have hx12:=X0.out.gw 12 rfl
 have hne:Nonempty (zx W0):=⟨⟨_,zc.refl _⟩⟩;refine jX [(5,⟨fun v=>v= .agg (frv frF).toArray,fun _ _=>True⟩)] qy (by kernel_rfl) ?_ ?_ ?_
 ·intro x hx
  simp at hx
  subst hx;exact⟨_,rfl⟩
 ·intro x hx
  simp at hx
  subst hx;exact fun _ _ _ _ h=>h
 iterate 4 (refine zm rfl rfl rfl (fun K hK=>?_);go_big_quiet_op;refine hK _ ?_;clear hK K)
 iterate 3 (refine qB ?_ ?_;kernel_rfl;simp only[Act.put,sB,sS,sZ])
 iterate 11 (refine zm rfl rfl rfl (fun K hK=>?_);go_big_quiet_op;refine hK _ ?_;clear hK K)
 refine qU fun w1 hg1 hF=>?_
 have HG1:=dD (HG0.out.trans hg1);go_wp2;go_ret;exact⟨rfl,HG1.out⟩
theorem zb0 (a:Fr) (w:World):Calls Tryz.prog 187 #[.agg (frv a).toArray] w fun e w'=>e= .returned (.int .i64 (frW a))/\zc w w':=by
 obtain⟨⟨b0,b1,b2,b3,b4,b5,b6,b7⟩,r,u,d,f,x⟩:=a
 show Calls Tryz.prog 187 #[.agg #[.int .u8 b0,.int .u8 b1,.int .u8 b2,.int .u8 b3,.int .u8 b4,.int .u8 b5,.int .u8 b6,.int .u8 b7,.int .i64 r,.bool u,.bool d,.int .i64 f,.int .i64 x]] w _
 cases hb1:inB r 1001 with
 | false=>rw[show frW (⟨⟨b0,b1,b2,b3,b4,b5,b6,b7⟩,r,u,d,f,x⟩:Fr)=3 from by simp[frW,hb1]];exact wf1 _ _ _ _ _ _ _ _ _ _ _ _ _ w hb1
 | true=>
 cases hb2:inB x 12 with
 | false=>rw[show frW (⟨⟨b0,b1,b2,b3,b4,b5,b6,b7⟩,r,u,d,f,x⟩:Fr)=3 from by simp[frW,hb1,hb2]];exact wf2 _ _ _ _ _ _ _ _ _ _ _ _ _ w hb1 hb2
 | true=>
 by_cases hf:f=-1
 ·have hfe:(f == -1)=true:=by simp[hf]
  have hfn:(f != -1)=false:=by simp[hf]
  by_cases hr:r=0
  ·have hre:(r == 0)=true:=by simp[hr]
   cases hfr:Zz (⟨⟨b0,b1,b2,b3,b4,b5,b6,b7⟩,r,u,d,f,x⟩:Fr) frF with
   | false=>rw[show frW (⟨⟨b0,b1,b2,b3,b4,b5,b6,b7⟩,r,u,d,f,x⟩:Fr)=7 from by simp only[frW,hb1,hb2,hfe,hre,hfr];rfl];exact wf6 _ _ _ _ _ _ _ _ _ _ _ _ _ w hb1 hb2 hfn hfe hre hfr
   | true=>
    have hx:x=0:=by have:=zdk hfr;simp only[frF,Fr.mk.injEq]at this;exact this.2.2.2.2.2
    rw[show frW (⟨⟨b0,b1,b2,b3,b4,b5,b6,b7⟩,r,u,d,f,x⟩:Fr)=0 from by subst hx;simp only[frW,hb1,hb2,hfe,hre,hfr];rfl]
    exact wf7 _ _ _ _ _ _ _ _ _ _ _ _ _ w hb1 hb2 hfn hfe hre hfr (by simp[hx])
  have hre:(r == 0)=false:=by simp[hr]
  by_cases hx:x=0
  ·rw[show frW (⟨⟨b0,b1,b2,b3,b4,b5,b6,b7⟩,r,u,d,f,x⟩:Fr)=0 from by subst hx;simp only[frW,hb1,hb2,hfe,hre];rfl]
   exact wf9 _ _ _ _ _ _ _ _ _ _ _ _ _ w hb1 hb2 hfn hfe hre (by simp[hx])
  have hxe:(x == 0)=false:=by simp[hx]
  rw[show frW (⟨⟨b0,b1,b2,b3,b4,b5,b6,b7⟩,r,u,d,f,x⟩:Fr)=7 from by simp only[frW,hb1,hb2,hfe,hre,hxe];rfl]
  exact wf8 _ _ _ _ _ _ _ _ _ _ _ _ _ w hb1 hb2 hfn hfe hre (by simp[hx])
 have hfe:(f == -1)=false:=by simp[hf]
 have hfn:(f != -1)=true:=by simp[hf]
 cases hb3:inB f 5 with
 | false=>rw[show frW (⟨⟨b0,b1,b2,b3,b4,b5,b6,b7⟩,r,u,d,f,x⟩:Fr)=3 from by simp only[frW,hb1,hb2,hfe,hb3];rfl];exact wf3 _ _ _ _ _ _ _ _ _ _ _ _ _ w hb1 hb2 hfn hb3
 | true=>
  by_cases hr:r=0
  ·have hre:(r == 0)=true:=by simp[hr]
   have hfr:Zz (⟨⟨b0,b1,b2,b3,b4,b5,b6,b7⟩,r,u,d,f,x⟩:Fr) frF=false:=by
    refine zjb fun h=>?_
    simp only[frF,Fr.mk.injEq]at h;exact hf h.2.2.2.2.1
   rw[show frW (⟨⟨b0,b1,b2,b3,b4,b5,b6,b7⟩,r,u,d,f,x⟩:Fr)=7 from by simp only[frW,hb1,hb2,hfe,hb3,hre,hfr];rfl]
   exact wf4 _ _ _ _ _ _ _ _ _ _ _ _ _ w hb1 hb2 hfn hfe hb3 hre hfr
  have hre:(r == 0)=false:=by simp[hr]
  rw[show frW (⟨⟨b0,b1,b2,b3,b4,b5,b6,b7⟩,r,u,d,f,x⟩:Fr)=0 from by simp only[frW,hb1,hb2,hfe,hb3,hre];rfl]
  exact wf5 _ _ _ _ _ _ _ _ _ _ _ _ _ w hb1 hb2 hfn hfe hb3 hre
end
end Go.Proofs.YtdgccecjbpgmfaaGreat
