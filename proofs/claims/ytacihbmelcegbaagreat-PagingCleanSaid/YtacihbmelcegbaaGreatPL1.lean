import Derived.Test.YtacihbmelcegbaaGreatPL0
import Derived.Lib.Walk
import Derived.Lib.SliceRun
import Derived.BigQuiet
import Derived.WalkSmall
import Derived.Deep.Cut
import Derived.ChangeKeysEq
import Derived.Deep.MidRow
import Derived.Laws.ResultCell
import Derived.OrdersHeld
import Derived.Deep.QuietTactic
namespace Go.Proofs.YtacihbmelcegbaaGreat
set_option maxRecDepth 100000
set_option maxHeartbeats 4000000
variable{A0 A1 B0 B1 b base' i j kk q:Nat} {Q:Exit->Act->World->Prop} {l:List Ar} {m m':Ma} {o:Oper} {ops:Array Oper} {vs:List Value} {w':World} {z:Int}
open Go.Proofs.Tryz
section
open Go.RowKit
theorem zlK:(Tryz.prog.info? 44).map (fun i=>(i.zero,i.size,i.bytes))=some (some (.agg #[.int .u8 0,.int .u8 0,.int .u8 0,.int .u8 0,.int .u8 0,.int .u8 0,.int .u8 0,.int .u8 0]),8,8):=by kernel_rfl
theorem zlL:(Tryz.prog.info? 100).map (fun i=>(i.zero,i.size,i.bytes))=some (some (.agg #[.int .i64 0,.int .u8 0,.int .u8 0,.int .u8 0,.int .u8 0,.int .u8 0,.int .u8 0,.int .u8 0,.int .u8 0]),9,16):=by kernel_rfl
theorem Jx (v:Value) (ps:List (List Int)) (w:World) (hv:qK w v ps):
  Calls prog 97 #[v] w fun e w'=>∃v',e= .returned v'/\zh w.heap.size w' v' ps/\zc w w':=by
 obtain⟨⟨a,c,rfl,hnone,hcells⟩,h8,hbytes⟩:=hv;have q22:∀(w:World) (a:Option Addr) (n c n' c':Nat),(binOp .eql 31 (.slice a n c) (.slice none n' c')).run prog w= .ok (.bool a.isNone) w:=fun w a n c n' c'=>Lib.run_eql_slice_nil w _ _ a n c n' c' underlying31
 cases a with
 | none=>
  have hps:=hnone rfl;subst hps;clear hcells hnone h8 hbytes
  go_enter func97,ntmps97
  go_wp2;go_ret;exact⟨_,rfl,⟨World.ownsRow_nil _ _ _ _,by simp,by simp⟩,zc.refl w⟩
 | some x=>
  have A:=hcells x rfl;have HA:Hid (jl w x (ps.flatMap pgc)):=A;have HB:Hid (ps.length*8<=140737488355328):=hbytes;have H8:Hid (∀p∈ps,p.length=8):=h8;clear hcells hnone hbytes h8;obtain⟨i0,hi,hz0,hz1,hz2⟩:=info_parts zlK
  go_enter func97,ntmps97
  go_wp2_with (at_builtin;refine wpList_append_own _ rfl _ _ 31 rfl w.heap.size 44 i0 _ 8 8 underlying31 hi hz0 hz1 hz2 rfl (by decide) _ _ _ rfl (World.ownsRow_made w #[] 0 (nR _) (nZ _) (by simp)) x ps.length c (ps.flatMap pgc) rfl ?qc1 ?qc2 ?qc3 ?qc4 ?qc5 ?qc6 ?_)
  case qc1=>exact qD ps fun p hp=>by rw[Qd,H8.out p hp]
  case qc2=>exact HA.out.grew (za _ _)
  case qc3=>exact qV Qq ps
  case qc4=>rw[zA];exact qx (by have:=HB.out;omega)
  case qc5=>rw[zA];exact HB.out
  case qc6=>simp
  intro v' w1 hown hgrow hnil;go_wp2;go_ret;exact⟨v',rfl,⟨by simpa using hown,H8.out,HB.out⟩,((bR _ w).alloc (nR _) _).grown hgrow (by simp) (by intro k hk;simp[Value.ownBlock]at hk;omega)⟩
theorem zdk (v:Value) (qs:List (Int × List Int)) (w:World) (hv:qE w v qs):
  Calls prog 98 #[v] w fun e w'=>∃v',e= .returned v'/\zm w.heap.size w' v' qs/\zc w w':=by
 obtain⟨⟨a,c,rfl,hnone,hcells⟩,h8,hbytes⟩:=hv;have q22:∀(w:World) (a:Option Addr) (n c n' c':Nat),(binOp .eql 32 (.slice a n c) (.slice none n' c')).run prog w= .ok (.bool a.isNone) w:=fun w a n c n' c'=>Lib.run_eql_slice_nil w _ _ a n c n' c' underlying32
 cases a with
 | none=>
  have hps:=hnone rfl;subst hps;clear hcells hnone h8 hbytes
  go_enter func98,ntmps98
  go_wp2;go_ret;exact⟨_,rfl,⟨World.ownsRow_nil _ _ _ _,by simp,by simp⟩,zc.refl w⟩
 | some x=>
  have A:=hcells x rfl;have HA:Hid (jl w x (qs.flatMap ptc)):=A;have HB:Hid (qs.length*16<=140737488355328):=hbytes;have H8:Hid (∀q∈qs,q.2.length=8):=h8;clear hcells hnone hbytes h8;obtain⟨i0,hi,hz0,hz1,hz2⟩:=info_parts zlL
  go_enter func98,ntmps98
  go_wp2_with (at_builtin;refine wpList_append_own _ rfl _ _ 32 rfl w.heap.size 100 i0 _ 9 16 underlying32 hi hz0 hz1 hz2 rfl (by decide) _ _ _ rfl (World.ownsRow_made w #[] 0 (nR _) (nZ _) (by simp)) x qs.length c (qs.flatMap ptc) rfl ?qc1 ?qc2 ?qc3 ?qc4 ?qc5 ?qc6 ?_)
  case qc1=>exact qD qs fun p hp=>by rw[zan,H8.out p hp]
  case qc2=>exact HA.out.grew (za _ _)
  case qc3=>exact qV zbk qs
  case qc4=>rw[zA];exact qx (by have:=HB.out;omega)
  case qc5=>rw[zA];exact HB.out
  case qc6=>simp
  intro v' w1 hown hgrow hnil;go_wp2;go_ret;exact⟨v',rfl,⟨by simpa using hown,H8.out,HB.out⟩,((bR _ w).alloc (nR _) _).grown hgrow (by simp) (by intro k hk;simp[Value.ownBlock]at hk;omega)⟩
def QF (base:Nat) (w:World) (d:Value) (ps:List (List Int)) (qs:List (Int × List Int)):Prop:=∃b q,d= .agg #[b,q]/\zh base w b ps/\zm base w q qs
theorem zh.grew {base:Nat} {w:World} {v:Value} {ps:List (List Int)} (h:zh base w v ps) (hg:zc w w'):zh base w' v ps:=⟨ZT h.1 hg,h.2⟩
theorem zm.grew {base:Nat} {w:World} {v:Value} {qs:List (Int × List Int)} (h:zm base w v qs) (hg:zc w w'):zm base w' v qs:=⟨ZT h.1 hg,h.2⟩
theorem zh.base {base:Nat} {w:World} {v:Value} {ps:List (List Int)} (h:zh base w v ps) (hb:base'<=base):zh base' w v ps:=⟨qL h.1 hb,h.2⟩
theorem zm.base {base:Nat} {w:World} {v:Value} {qs:List (Int × List Int)} (h:zm base w v qs) (hb:base'<=base):zm base' w v qs:=⟨qL h.1 hb,h.2⟩
theorem zh.slice {base:Nat} {w:World} {v:Value} {ps:List (List Int)} (h:zh base w v ps):∃a n c,v= .slice a n c:=by
 rcases h.1.2 with⟨rfl,_⟩|⟨g,cap,cur,rfl,_⟩
 ·exact⟨_,_,_,rfl⟩
 exact⟨_,_,_,rfl⟩
theorem zm.slice {base:Nat} {w:World} {v:Value} {qs:List (Int × List Int)} (h:zm base w v qs):∃a n c,v= .slice a n c:=by
 rcases h.1.2 with⟨rfl,_⟩|⟨g,cap,cur,rfl,_⟩
 ·exact⟨_,_,_,rfl⟩
 exact⟨_,_,_,rfl⟩
theorem zh.setCell {base:Nat} {w:World} {v:Value} {ps:List (List Int)} (h:zh base w v ps) {a:Addr} (ha:a.block<base) (u:Value):zh base (w.setCell a u) v ps:=⟨ownsRow_setCell_below h.1 ha u,h.2⟩
theorem zm.setCell {base:Nat} {w:World} {v:Value} {qs:List (Int × List Int)} (h:zm base w v qs) {a:Addr} (ha:a.block<base) (u:Value):zm base (w.setCell a u) v qs:=⟨ownsRow_setCell_below h.1 ha u,h.2⟩
def qi (base:Nat) (w:World) (d:Value) (ps:List (List Int)) (qs:List (Int × List Int)):Prop:=∃b q,d= .agg #[b,q]/\qK w b ps/\qE w q qs/\jb base b/\jb base q
theorem qi.base {base:Nat} {w:World} {d:Value} {ps:List (List Int)} {qs:List (Int × List Int)} (h:qi base w d ps qs) (hb:base'<=base):qi base' w d ps qs:=by
 obtain⟨b,q,h1,h2,h3,h4,h5⟩:=h;exact⟨b,q,h1,h2,h3,fun x n c e=>nT hb (h4 x n c e),fun x n c e=>nT hb (h5 x n c e)⟩
theorem qi.setCell {base:Nat} {w:World} {d:Value} {ps:List (List Int)} {qs:List (Int × List Int)} (h:qi base w d ps qs) {a:Addr} (ha:a.block<base) (u:Value):qi base (w.setCell a u) d ps qs:=by
 obtain⟨b,q,h1,h2,h3,h4,h5⟩:=h;exact⟨b,q,h1,⟨h2.1.setCell h4 ha u,h2.2⟩,⟨h3.1.setCell h5 ha u,h3.2⟩,h4,h5⟩
theorem zh.fresh {base:Nat} {w:World} {v:Value} {ps:List (List Int)} (h:zh base w v ps):jb base v:=fun x n c e=>by
 rcases h.1.2 with⟨h0,_⟩|⟨g,cap,cur,h0,h1,_⟩
 ·rw[h0]at e;cases e
 rw[h0]at e;cases e;exact h1
theorem zm.fresh {base:Nat} {w:World} {v:Value} {qs:List (Int × List Int)} (h:zm base w v qs):jb base v:=fun x n c e=>by
 rcases h.1.2 with⟨h0,_⟩|⟨g,cap,cur,h0,h1,_⟩
 ·rw[h0]at e;cases e
 rw[h0]at e;cases e;exact h1
theorem QF.new {base:Nat} {w:World} {d:Value} {ps:List (List Int)} {qs:List (Int × List Int)} (h:QF base w d ps qs):qi base w d ps qs:=by
 obtain⟨b,q,h1,h2,h3⟩:=h;exact⟨b,q,h1,h2.at,h3.at,h2.fresh,h3.fresh⟩
theorem zbo (d:Value) (ps:List (List Int)) (qs:List (Int × List Int)) (w:World) (hd:Zb w d ps qs):
  Calls prog 60 #[d] w fun e w'=>∃d',e= .returned d'/\QF w.heap.size w' d' ps qs/\zc w w':=by
 obtain⟨b,q,rfl,hb,hq⟩:=hd;have HB:Hid (qK w b ps):=hb;have HQ:Hid (qE w q qs):=hq;obtain⟨ab,cb,rfl,_⟩:=hb.rows;obtain⟨aq,cq,rfl,_⟩:=hq.rows;clear hb hq
 go_enter func60,ntmps60
 go_wp2;obtain⟨W1,hW⟩:∃W1,(w.alloc (.cells #[.slice ab ps.length cb,.slice aq qs.length cq] 34)).alloc (.cells #[.slice none 0 0,.slice none 0 0] 34)=W1:=⟨_,rfl⟩;have hg1:=gD2 hW
 have hsz:Hid (W1.heap.size=w.heap.size+2):=dD<|by rw[<-hW];simp
 have k0:W1.cell? ⟨w.heap.size,0,none⟩=some (.slice ab ps.length cb):=by rw[<-hW];simp
 have k1:W1.cell? ⟨w.heap.size,1,none⟩=some (.slice aq qs.length cq):=by rw[<-hW];simp
 have k2:W1.cell? ⟨w.heap.size+1,0,none⟩=some (.slice none 0 0):=by rw[<-hW];simp
 have k3:W1.cell? ⟨w.heap.size+1,1,none⟩=some (.slice none 0 0):=by rw[<-hW];simp
 have f2:W1.frozen? ⟨w.heap.size+1,0,none⟩=false:=by rw[<-hW];simp
 have f3:W1.frozen? ⟨w.heap.size+1,1,none⟩=false:=by rw[<-hW];simp
 rw[hW];have hx0:∀x:zE W1,x.world.cell? ⟨w.heap.size,0,none⟩=some (.slice ab ps.length cb):=fun x=>(Below.cell x.grew (World.block_lt_of_cell? _ _ k0)).trans k0
 have hx1:∀x:zE W1,x.world.cell? ⟨w.heap.size,1,none⟩=some (.slice aq qs.length cq):=fun x=>(Below.cell x.grew (World.block_lt_of_cell? _ _ k1)).trans k1
 have hne:Nonempty (zE W1):=⟨⟨_,zc.refl _⟩⟩;refine Zy 7 [(2,⟨fun v=>∃a n c,v= .slice a n c,fun v w'=>zh (w.heap.size+2) w' v ps⟩),(5,⟨fun v=>∃a n c,v= .slice a n c,fun v w'=>zm (w.heap.size+2) w' v qs⟩)] qn (by kernel_rfl) rfl rfl (by decide) ?_ ?_ ?_
 ·intro x hx
  simp at hx
  rcases hx with rfl|rfl
  ·exact⟨_,none,0,0,rfl⟩
  exact⟨_,none,0,0,rfl⟩
 ·intro x hx
  simp at hx
  rcases hx with rfl|rfl
  ·intro v w1 w2 hg h;exact h.grew hg
  intro v w1 w2 hg h;exact h.grew hg
 simp only[List.take,List.drop];iterate 2 (refine zn rfl rfl rfl (fun K hK=>?_);go_big_quiet_op;refine hK _ ?_;clear hK)
 refine zQ rfl rfl (fun w' hg hF=>?_) (fun v1 hv=>?_)
 ·refine zK.call [.slice ab ps.length cb] rfl func97 rfl rfl rfl ?_;refine(Jx _ ps w' (HB.out.grew (hg1.out.trans hg))).mono ?_;rintro e w'' ⟨v2,rfl,hb,hg2⟩;exact⟨_,rfl,hg2,hb.slice,hb.base (by have:=bS hg;rw[hsz.out]at this;exact this)⟩
 obtain⟨a1,n1,c1,rfl⟩:=hv;simp only[Act.put,sB,sS,sZ];iterate 2 (refine zn rfl rfl rfl (fun K hK=>?_);go_big_quiet_op;refine hK _ ?_;clear hK)
 refine zQ rfl rfl (fun w' hg hF=>?_) (fun v1 hv=>?_)
 ·refine zK.call [.slice aq qs.length cq] rfl func98 rfl rfl rfl ?_;refine(zdk _ qs w' (HQ.out.grew (hg1.out.trans hg))).mono ?_;rintro e w'' ⟨v2,rfl,hb,hg2⟩;exact⟨_,rfl,hg2,hb.slice,hb.base (by have:=bS hg;rw[hsz.out]at this;exact this)⟩
 obtain⟨a2,n2,c2,rfl⟩:=hv;simp only[Act.put,sB,sS,sZ];iterate 1 (refine zn rfl rfl rfl (fun K hK=>?_);go_big_quiet_op;refine hK _ ?_;clear hK)
 refine qT fun w' hg hF=>?_
 have ow1:Hid (zh (w.heap.size+2) w' (.slice a1 n1 c1) ps):=hF 2;have ow2:Hid (zm (w.heap.size+2) w' (.slice a2 n2 c2) qs):=hF 5;have m2:w'.cell? ⟨w.heap.size+1,0,none⟩=some (.slice none 0 0):=(Below.cell hg (World.block_lt_of_cell? _ _ k2)).trans k2;have m3:w'.cell? ⟨w.heap.size+1,1,none⟩=some (.slice none 0 0):=(Below.cell hg (World.block_lt_of_cell? _ _ k3)).trans k3;have g2:w'.frozen? ⟨w.heap.size+1,0,none⟩=false:=(Below.frozen hg (World.block_lt_of_cell? _ _ k2)).trans f2;have g3:w'.frozen? ⟨w.heap.size+1,1,none⟩=false:=(Below.frozen hg (World.block_lt_of_cell? _ _ k3)).trans f3;have HG:=dD (hg1.out.trans hg);clear hF k0 k1 k2 k3 f2 f3 hx0 hx1 hW hg hne;go_wp2;refine bodyPost_ret (v:= .agg #[.slice a1 n1 c1,.slice a2 n2 c2]) (by simp[results,Tryz.results60,go_sem, *]) rfl ⟨_,rfl,⟨_,_,rfl,((ow1.out.setCell (by simp) _).setCell (by simp) _).base (by omega),((ow2.out.setCell (by simp) _).setCell (by simp) _).base (by omega)⟩,?_⟩
 exact Below.setCell (Below.setCell HG.out (p:=⟨w.heap.size+1,0,none⟩) (by simp) _) (p:=⟨w.heap.size+1,1,none⟩) (by simp) _
def siv (z:Int):List Value:=[.int .i64 z]
theorem zlM:(Tryz.prog.info? 3).map (fun i=>(i.zero,i.size,i.bytes))=some (some (.int .i64 0),1,8):=by kernel_rfl
def slE:Elt Int where
 enc:=siv
 k:=1
 ty:=3
 st:=30
 bytes:=8
 zv:= .int .i64 0
 zero:=0
 len:=fun _=>rfl
 one:=fun a u hu=>by
  simp only[siv,mC,nM,or_false]at hu;subst hu;rfl
 und:=underlying30
 info:=zlM
 zok:=rfl
 few:=by decide
 pos:=by decide
def zcD (w:World) (a:Option Addr) (l:List Int):Prop:=∀(j:Nat) x,l[j]? =some x->∃ad,a=some ad/\∀W,zc w W->W.cell? (ad.add j)=some (.int .i64 x)
theorem zr.sls {w:World} {v:Value} {l:List Int} (h:zr slE w v l):∃a c,v= .slice a l.length c/\zcD w a l:=by
 obtain⟨a,c,h1,h2⟩:=h.rows;refine⟨a,c,h1,fun j x hj=>?_⟩
 obtain⟨ad,h3,h4⟩:=h2 j x hj;refine⟨ad,h3,fun W hW=>?_⟩
 have:=h4 W hW 0 _ rfl;rw[zR,show j*slE.k+0=j from by show j*1+0=j;omega]at this
 exact this
def niv (z:Int):List Value:=[.int .i64 z]
theorem zlN:(Tryz.prog.info? 3).map (fun i=>(i.zero,i.size,i.bytes))=some (some (.int .i64 0),1,8):=by kernel_rfl
def blE:Elt Int where
 enc:=niv
 k:=1
 ty:=3
 st:=29
 bytes:=8
 zv:= .int .i64 0
 zero:=0
 len:=fun _=>rfl
 one:=fun a u hu=>by
  simp only[niv,mC,nM,or_false]at hu;subst hu;rfl
 und:=underlying29
 info:=zlN
 zok:=rfl
 few:=by decide
 pos:=by decide
def zaA (w:World) (a:Option Addr) (l:List Int):Prop:=∀(j:Nat) x,l[j]? =some x->∃ad,a=some ad/\∀W,zc w W->W.cell? (ad.add j)=some (.int .i64 x)
theorem zr.nums {w:World} {v:Value} {l:List Int} (h:zr blE w v l):∃a c,v= .slice a l.length c/\zaA w a l:=by
 obtain⟨a,c,h1,h2⟩:=h.rows;refine⟨a,c,h1,fun j x hj=>?_⟩
 obtain⟨ad,h3,h4⟩:=h2 j x hj;refine⟨ad,h3,fun W hW=>?_⟩
 have:=h4 W hW 0 _ rfl;rw[zR,show j*blE.k+0=j from by show j*1+0=j;omega]at this
 exact this
end
section
def inL (n:Nat) (k:Int):Bool:=decide (0<=k) && decide (k< (n:Int))
def zg9 (fs:List Fl) (k:Int):List Int:=match fs[k.toNat]? with | some f=>f.bl | none=>[]
def zlb (fs:List Fl) (k:Int):Int:=match fs[k.toNat]? with | some f=>f.size | none=>0
def zeC (fs:List Fl) (cnt k n:Int):Int:=if stW fs cnt=0 then(if inL fs.length k=true then(if 0<=n/\n<=96 then 0 else 3)else 5)else stW fs cnt
def zk4 (fs:List Fl) (cnt k n:Int):List Fl:=if zeC fs cnt k n=0 then fs.set k.toNat ⟨n,zlc (zg9 fs k) (Jr n).toNat⟩else []
def zle (fs:List Fl) (cnt k n:Int):Int:=if zeC fs cnt k n=0 then cnt else 0
def ZM (fs:List Fl) (cnt k x:Int):Int:=if stW fs cnt=0 then(if inL fs.length k=true then(if inL (zg9 fs k).length x=true then(if(zg9 fs k).getD x.toNat 0=-1 then(if jW fs cnt=[]then 10 else 0)else 0)else 9)else 5)else stW fs cnt
def zkg (fs:List Fl) (cnt k x:Int):Int:=if(zg9 fs k).getD x.toNat 0=-1 then(((jW fs cnt).headD 0:Nat):Int)else(zg9 fs k).getD x.toNat 0
def zft (fs:List Fl) (cnt k x:Int):Int:=if ZM fs cnt k x=0 then zkg fs cnt k x else 0
def zdm (fs:List Fl) (cnt k x:Int):List Fl:=if ZM fs cnt k x=0 then fs.set k.toNat ⟨zlb fs k,(zg9 fs k).set x.toNat (zkg fs cnt k x)⟩else []
def zhi (fs:List Fl) (cnt k x:Int):Int:=if ZM fs cnt k x=0 then cnt else 0
theorem Zh {n:Nat} {k:Int}:inL n k=true↔0<=k/\k< (n:Int):=by simp[inL]
theorem zld (fs:List Fl) (cnt k n:Int):
  (stW fs cnt≠0/\zeC fs cnt k n=stW fs cnt/\zk4 fs cnt k n=[]/\zle fs cnt k n=0)\/
  (stW fs cnt=0/\¬(0<=k/\k< (fs.length:Int))/\zeC fs cnt k n=5/\zk4 fs cnt k n=[]/\zle fs cnt k n=0)\/
  (stW fs cnt=0/\∃(i:Nat) (f:Fl),k=(i:Int)/\fs[i]? =some f/\¬(0<=n/\n<=96)/\zeC fs cnt k n=3/\zk4 fs cnt k n=[]/\zle fs cnt k n=0)\/
  (stW fs cnt=0/\∃(i:Nat) (f:Fl),k=(i:Int)/\fs[i]? =some f/\(0<=n/\n<=96)/\zeC fs cnt k n=0/\zk4 fs cnt k n=fs.set i ⟨n,zlc f.bl (Jr n).toNat⟩/\zle fs cnt k n=cnt):=by
 have no:∀z,zeC fs cnt k n=z->z≠0->zk4 fs cnt k n=[]/\zle fs cnt k n=0:=fun z h hz=>by
  have:¬zeC fs cnt k n=0:=by omega
  exact⟨if_neg this,if_neg this⟩
 by_cases h1:stW fs cnt=0
 ·by_cases h2:0<=k/\k< (fs.length:Int)
  ·obtain⟨i,rfl⟩:∃i:Nat,k=(i:Int):=⟨k.toNat,by omega⟩
   obtain⟨f,hf⟩:∃f,fs[i]? =some f:=⟨_,gE (by omega)⟩
   have hl:inL fs.length (i:Int)=true:=Zh.2 h2
   by_cases h3:0<=n/\n<=96
   ·have h:zeC fs cnt i n=0:=by unfold zeC;rw[if_pos h1,if_pos hl,if_pos h3]
    refine .inr (.inr (.inr ⟨h1,i,f,rfl,hf,h3,h,?_,if_pos h⟩));unfold zk4 zg9;rw[if_pos h,tN,hf]
   have h:zeC fs cnt i n=3:=by unfold zeC;rw[if_pos h1,if_pos hl,if_neg h3]
   exact .inr (.inr (.inl ⟨h1,i,f,rfl,hf,h3,h,no _ h (by decide)⟩))
  have h:zeC fs cnt k n=5:=by unfold zeC;rw[if_pos h1,if_neg (by rw[Zh];exact h2)]
  exact .inr (.inl ⟨h1,h2,h,no _ h (by decide)⟩)
 have h:zeC fs cnt k n=stW fs cnt:=by unfold zeC;rw[if_neg h1]
 exact .inl ⟨h1,h,no _ h h1⟩
theorem ziF (fs:List Fl) (cnt k x:Int):
  (stW fs cnt≠0/\ZM fs cnt k x=stW fs cnt/\zdm fs cnt k x=[]/\zhi fs cnt k x=0/\zft fs cnt k x=0)\/
  (stW fs cnt=0/\¬(0<=k/\k< (fs.length:Int))/\ZM fs cnt k x=5/\zdm fs cnt k x=[]/\zhi fs cnt k x=0/\zft fs cnt k x=0)\/
  (stW fs cnt=0/\∃(i:Nat) (f:Fl),k=(i:Int)/\fs[i]? =some f/\¬(0<=x/\x< (f.bl.length:Int))/\ZM fs cnt k x=9/\zdm fs cnt k x=[]/\zhi fs cnt k x=0/\zft fs cnt k x=0)\/
  (stW fs cnt=0/\∃(i:Nat) (f:Fl) (j:Nat) (b:Int),k=(i:Int)/\fs[i]? =some f/\x=(j:Int)/\f.bl[j]? =some b/\0<=b/\b<cnt/\ZM fs cnt k x=0/\zdm fs cnt k x=fs/\zhi fs cnt k x=cnt/\zft fs cnt k x=b)\/
  (stW fs cnt=0/\∃(i:Nat) (f:Fl) (j:Nat),k=(i:Int)/\fs[i]? =some f/\x=(j:Int)/\f.bl[j]? =some (-1)/\jW fs cnt=[]/\ZM fs cnt k x=10/\zdm fs cnt k x=[]/\zhi fs cnt k x=0/\zft fs cnt k x=0)\/
  (stW fs cnt=0/\∃(i:Nat) (f:Fl) (j:Nat) (b:Nat) (l:List Nat),k=(i:Int)/\fs[i]? =some f/\x=(j:Int)/\f.bl[j]? =some (-1)/\jW fs cnt=b :: l/\ZM fs cnt k x=0/\zdm fs cnt k x=fs.set i ⟨f.size,f.bl.set j (b:Int)⟩/\zhi fs cnt k x=cnt/\zft fs cnt k x=(b:Int)):=by
 have no:∀z,ZM fs cnt k x=z->z≠0->zdm fs cnt k x=[]/\zhi fs cnt k x=0/\zft fs cnt k x=0:=fun z h hz=>by
  have:¬ZM fs cnt k x=0:=by omega
  exact⟨if_neg this,if_neg this,if_neg this⟩
 by_cases h1:stW fs cnt=0
 ·by_cases h2:0<=k/\k< (fs.length:Int)
  ·obtain⟨i,rfl⟩:∃i:Nat,k=(i:Int):=⟨k.toNat,by omega⟩
   obtain⟨f,hf⟩:∃f,fs[i]? =some f:=⟨_,gE (by omega)⟩
   have hl:inL fs.length (i:Int)=true:=Zh.2 h2;have hb:zg9 fs (i:Int)=f.bl:=by unfold zg9;rw[tN,hf]
   have hs:zlb fs (i:Int)=f.size:=by unfold zlb;rw[tN,hf]
   by_cases h3:0<=x/\x< (f.bl.length:Int)
   ·obtain⟨j,rfl⟩:∃j:Nat,x=(j:Int):=⟨x.toNat,by omega⟩
    obtain⟨b,hj⟩:∃b,f.bl[j]? =some b:=⟨_,gE (by omega)⟩
    have hl2:inL f.bl.length (j:Int)=true:=Zh.2 h3;have hd:f.bl.getD (j:Int).toNat 0=b:=by rw[tN,gD,hj];rfl
    by_cases h4:b=-1
    ·subst h4
     cases h5:jW fs cnt with
     | nil=>
      have h:ZM fs cnt i j=10:=by unfold ZM;rw[if_pos h1,if_pos hl,hb,if_pos hl2,hd,if_pos rfl,if_pos h5]
      exact .inr (.inr (.inr (.inr (.inl ⟨h1,i,f,j,rfl,hf,rfl,hj,rfl,h,no _ h (by decide)⟩))))
     | cons b l=>
      have h:ZM fs cnt i j=0:=by unfold ZM;rw[if_pos h1,if_pos hl,hb,if_pos hl2,hd,if_pos rfl,if_neg (by rw[h5];simp)]
      have hB:zkg fs cnt i j=(b:Int):=by unfold zkg;rw[hb,hd,if_pos rfl,h5];rfl
      refine .inr (.inr (.inr (.inr (.inr ⟨h1,i,f,j,b,l,rfl,hf,rfl,hj,rfl,h,?_,if_pos h,?_⟩))))
      ·unfold zdm;rw[if_pos h,hB,hb,hs,tN,tN]
      unfold zft;rw[if_pos h,hB]
    have h:ZM fs cnt i j=0:=by unfold ZM;rw[if_pos h1,if_pos hl,hb,if_pos hl2,hd,if_neg h4]
    have hB:zkg fs cnt i j=b:=by unfold zkg;rw[hb,hd,if_neg h4]
    have hr:=(((qg fs cnt).1 h1).2.1 f (mG hf)).2.2 b (mG hj);refine .inr (.inr (.inr (.inl ⟨h1,i,f,j,b,rfl,hf,rfl,hj,by omega,by omega,h,?_,if_pos h,?_⟩)))
    ·unfold zdm;rw[if_pos h,hB,hb,hs,tN,tN];have e1:f.bl.set j b=f.bl:=by
      obtain⟨hh,rfl⟩:=gS.1 hj;exact List.set_getElem_self hh
     rw[e1];obtain⟨hh,rfl⟩:=gS.1 hf;exact List.set_getElem_self hh
    unfold zft;rw[if_pos h,hB]
   have h:ZM fs cnt i x=9:=by unfold ZM;rw[if_pos h1,if_pos hl,hb,if_neg (by rw[Zh];exact h3)]
   exact .inr (.inr (.inl ⟨h1,i,f,rfl,hf,h3,h,no _ h (by decide)⟩))
  have h:ZM fs cnt k x=5:=by unfold ZM;rw[if_pos h1,if_neg (by rw[Zh];exact h2)]
  exact .inr (.inl ⟨h1,h2,h,no _ h (by decide)⟩)
 have h:ZM fs cnt k x=stW fs cnt:=by unfold ZM;rw[if_neg h1]
 exact .inl ⟨h1,h,no _ h h1⟩
theorem zf6 (f:Fl):∀(fs:List Fl) (i:Nat) (f0:Fl),fs[i]? =some f0->Za (fs.set i f)=Za (fs.take i)++(f.bl++Za (fs.drop (i+1)))/\Za fs=Za (fs.take i)++(f0.bl++Za (fs.drop (i+1)))
 | [],i,f0,h=>by simp at h
 | a :: l,0,f0,h=>by
  simp at h
  subst h
  simp[Za]
 | a :: l,i+1,f0,h=>by
  obtain⟨h1,h2⟩:=zf6 f l i f0 (by simpa using h)
  unfold Za at h1 h2⊢;simp only[sS,List.flatMap_cons,List.take_succ_cons,List.drop_succ_cons,List.append_assoc];rw[h1,<-h2];exact⟨rfl,rfl⟩
theorem zjw {fs:List Fl} {cnt:Int} (h:b∈jW fs cnt):(b:Int)<cnt/\(b:Int)∉Za fs:=by
 unfold jW at h;obtain⟨h1,h2⟩:=List.mem_filter.1 h;have:=List.mem_range.1 h1;refine⟨by omega,fun h=>?_⟩
 rw[(ZR fs _).2 h]at h2;cases h2
theorem zkt {A C l:List Int} {b:Int} (hj:l[j]? =some (-1)):∀x,x≠-1->(x∈A++(l.set j b++C)↔(x∈A++(l++C)\/x=b)):=fun x hx=>by
 have hlt:=(gS.1 hj).1;have:x∈l.set j b↔x∈l\/x=b:=by
  constructor
  ·intro h;exact(List.mem_or_eq_of_mem_set h)
  rintro(h|rfl)
  ·obtain⟨i,hi⟩:=List.getElem?_of_mem h
   by_cases e:i=j
   ·subst e;rw[hj]at hi;cases hi;exact absurd rfl hx
   exact mG (i:=i) (by rw[sN (fun h=>e h.symm)];exact hi)
  exact mG (i:=j) (by rw[sF hlt])
 simp only[List.mem_append,this];constructor
 ·rintro(h | (h|h) | h) <;> simp[h]
 rintro((h|h|h) | h) <;> simp[h]
theorem zgr {l:List Int} (b:Int) (hb:b≠-1) (hj:l[j]? =some (-1)):jV (l.set j b)=jV (l.take j)++(b :: jV (l.drop (j+1)))/\jV l=jV (l.take j)++jV (l.drop (j+1)):=by
 obtain⟨hlt,he⟩:=gS.1 hj;have e1:l.set j b=l.take j++b :: l.drop (j+1):=List.set_eq_take_append_cons_drop.trans (if_pos hlt);have e2:l=l.take j++(-1) :: l.drop (j+1):=by
  rw[<-he,List.getElem_cons_drop,List.take_append_drop]
 unfold jV;constructor
 ·rw[e1,List.filter_append,List.filter_cons_of_pos (by simpa using hb)]
 conv=>lhs;rw[e2]
 rw[List.filter_append,List.filter_cons_of_neg (by simp)]
theorem zhL {A B C:List Int} {b:Int} (h:(A++(B++C)).Nodup) (h1:b∉A) (h2:b∉B++C):(A++((B++(b :: C)))).Nodup:=by
 rw[List.nodup_append]at h⊢;obtain⟨k1,k2,k3⟩:=h;have k2':=k2;rw[List.nodup_append]at k2;obtain⟨m1,m2,m3⟩:=k2;have hB:b∉B:=fun h=>h2 (List.mem_append.2 (.inl h))
 have hC:b∉C:=fun h=>h2 (List.mem_append.2 (.inr h))
 refine⟨k1,?_,fun x hx y hy=>?_⟩
 ·rw[List.nodup_append];refine⟨m1,List.nodup_cons.2 ⟨hC,m2⟩,fun x hx y hy=>?_⟩
  rcases mC.1 hy with rfl|hy
  ·exact fun e=>hB (e ▸ hx)
  exact m3 x hx y hy
 rcases List.mem_append.1 hy with hy|hy
 ·exact k3 x hx y (List.mem_append.2 (.inl hy))
 rcases mC.1 hy with rfl|hy
 ·exact fun e=>h1 (e ▸ hx)
 exact k3 x hx y (List.mem_append.2 (.inr hy))
theorem zgM {fs:List Fl} {cnt:Int} {f:Fl} (h:stW fs cnt=0) (hf:fs[i]? =some f) (hj:f.bl[j]? =some (-1)) (hb:b∈jW fs cnt):
  stW (fs.set i ⟨f.size,f.bl.set j (b:Int)⟩) cnt=0/\(jW (fs.set i ⟨f.size,f.bl.set j (b:Int)⟩) cnt).length+1=(jW fs cnt).length:=by
 obtain⟨hb1,hb2⟩:=zjw hb;obtain⟨⟨h1,h2,h3⟩,h4,h5⟩:=(qg fs cnt).1 h;obtain⟨e1,e2⟩:=zf6 ⟨f.size,f.bl.set j (b:Int)⟩ fs i f hf;have hbn:(b:Int)≠-1:=by omega
 constructor
 ·refine(qg _ _).2 ⟨⟨by rw[List.length_set];exact h1,h2,h3⟩,fun f' hf'=>?_,?_⟩
  ·rcases List.mem_or_eq_of_mem_set hf' with hf' | rfl
   ·exact h4 f' hf'
   obtain⟨k1,k2,k3⟩:=h4 f (mG hf);refine⟨k1,by simp only[List.length_set];exact k2,fun c hc=>?_⟩
   rcases List.mem_or_eq_of_mem_set hc with hc|rfl
   ·exact k3 c hc
   exact .inr ⟨by omega,hb1⟩
  obtain⟨r1,r2⟩:=zgr (b:Int) hbn hj;have hr:∀A B:List Int,jV (A++B)=jV A++jV B:=fun A B=>List.filter_append ..
  rw[e1,hr,hr,r1,List.append_assoc];rw[e2,hr,hr,r2,List.append_assoc]at h5;rw[e2]at hb2;have hm:∀L:List Int,(b:Int)∉L->(b:Int)∉jV L:=fun L h h'=>h (List.mem_filter.1 h').1
  have hb3:(b:Int)∉jV (f.bl.take j)++(jV (f.bl.drop (j+1))++jV (Za (fs.drop (i+1)))):=by
   intro h;refine hm _ (fun h=>hb2 (List.mem_append.2 (.inr h))) (?_:(b:Int)∈jV (f.bl++Za (fs.drop (i+1))))
   rw[hr,r2,List.append_assoc];exact h
  exact zhL h5 (hm _ (fun h=>hb2 (List.mem_append.2 (.inl h)))) hb3
 have hu:∀c:Nat,zT (fs.set i ⟨f.size,f.bl.set j (b:Int)⟩) (c:Int)=(zT fs (c:Int) || decide (c=b)):=fun c=>by
  rw[Bool.eq_iff_iff,Bool.or_eq_true,ZR,ZR,e1,e2,zkt hj _ (by omega),decide_eq_true_eq,Int.ofNat_inj]
 have hl:jW (fs.set i ⟨f.size,f.bl.set j (b:Int)⟩) cnt=(jW fs cnt).erase b:=by
  have nd:(jW fs cnt).Nodup:=List.Nodup.sublist List.filter_sublist List.nodup_range;rw[List.Nodup.erase_eq_filter nd];unfold jW;rw[List.filter_filter]
  congr 1
  funext c
  rw[hu c]
  by_cases hc:c=b <;> simp[hc]
 rw[hl,List.length_erase_of_mem hb];have:=List.length_pos_of_mem hb;omega
end
section
open Go.RowKit
structure FlV where
 size:Int
 a:Option Addr
 n:Nat
 c:Nat
def FlV.v (x:FlV):Value:= .slice x.a x.n x.c
def flv (x:FlV):List Value:=[.int .i64 x.size,.slice x.a x.n x.c]
theorem zlO:(Tryz.prog.info? 84).map (fun i=>(i.zero,i.size,i.bytes))=some (some (.agg #[.int .i64 0,.slice none 0 0]),2,32):=by kernel_rfl
def fvE:Elt FlV where
 enc:=flv
 k:=2
 ty:=84
 st:=35
 bytes:=32
 zv:= .agg #[.int .i64 0,.slice none 0 0]
 zero:=⟨0,none,0,0⟩
 len:=fun _=>rfl
 one:=fun a u hu=>by
  simp only[flv,mC,nM,or_false]at hu
  rcases hu with rfl|rfl <;> rfl
 und:=underlying35
 info:=zlO
 zok:=rfl
 few:=by decide
 pos:=by decide
def qW (B0 B1:Nat) (w:World) (v:Value) (fs:List Fl):Prop:=
 Cap v/\∃xs:List FlV,zeH fvE B0 B1 w v xs/\xs.length=fs.length/\∀(i:Nat) x f,xs[i]? =some x->fs[i]? =some f->x.size=f.size/\zeH blE B0 B1 w (.slice x.a x.n x.c) f.bl
def qd (w:World) (v:Value) (fs:List Fl):Prop:=qW 0 0 w v fs
theorem qW.out {w:World} {v:Value} {fs:List Fl} (h:qW B0 B1 w v fs) (k:Out B0 B1 w w'):qW B0 B1 w' v fs:=by
 obtain⟨hc,xs,h1,h2,h3⟩:=h;exact⟨hc,xs,h1.out k,h2,fun i x f hx hf=>⟨(h3 i x f hx hf).1,(h3 i x f hx hf).2.out k⟩⟩
theorem qW.grew {w:World} {v:Value} {fs:List Fl} (h:qW B0 B1 w v fs) (k:zc w w'):qW B0 B1 w' v fs:=h.out (Out.grew k)
theorem qW.less {w:World} {v:Value} {fs:List Fl} (h:qW B0 B1 w v fs) (h0:B0<=A0) (h1:A1<=B1):qW A0 A1 w v fs:=by
 obtain⟨hc,xs,k1,k2,k3⟩:=h;exact⟨hc,xs,k1.less h0 h1,k2,fun i x f hx hf=>⟨(k3 i x f hx hf).1,(k3 i x f hx hf).2.less h0 h1⟩⟩
theorem qd.grew {w:World} {v:Value} {fs:List Fl} (h:qd w v fs) (k:zc w w'):qd w' v fs:=qW.grew h k
theorem qW.nil (B0 B1:Nat) (w:World):qW B0 B1 w (.slice none 0 0) []:=⟨nR _,[],fun w' _=>zr.nil fvE w',rfl,fun i x f hx=>by simp at hx⟩
def zaC (W:World) (y:Addr) (s:Int) (b:Value):Prop:=W.cell? y=some (.int .i64 s)/\W.cell? { block:=y.block,off:=y.off+1 }=some b
def Jh (w:World) (a:Option Addr) (fs:List Fl):Prop:=∀(j:Nat) f,fs[j]? =some f->∃ad,a=some ad/\∃xa xc,zr blE w (.slice xa f.bl.length xc) f.bl/\∀W,zc w W->zaC W (ad.add (j*2)) f.size (.slice xa f.bl.length xc)
theorem qd.rows {w:World} {v:Value} {fs:List Fl} (h:qd w v fs):∃a c,v= .slice a fs.length c/\fs.length<=9223372036854775807/\Jh w a fs:=by
 obtain⟨_,xs,k1,k2,k3⟩:=h;obtain⟨a,c,h1,h2⟩:=k1.now.rows;refine⟨a,c,by rw[<-k2];exact h1,by rw[<-k2];exact k1.now.short,fun j f hf=>?_⟩
 obtain⟨x,hx⟩:∃x,xs[j]? =some x:=⟨_,gE (by rw[k2];exact(gS.1 hf).1)⟩
 obtain⟨ad,e1,e2⟩:=h2 j x hx;obtain⟨q1,q2⟩:=k3 j x f hx hf;have q3:=q2.now;obtain⟨⟨a',c',q4,_⟩,_⟩:=id q3;cases x;simp only at q1 q3 q4;cases q4;subst q1;refine⟨ad,e1,_,_,q3,fun W hW=>⟨?_,?_⟩⟩
 ·exact e2 W hW 0 _ rfl
 exact e2 W hW 1 _ rfl
theorem zbP (m n:Int) (w:World):
  Calls prog 170 #[.int .i64 m,.int .i64 n] w fun e w'=>e= .returned (.bool (bel m n))/\w'=w:=by
 have H:Hid (bel m n=(decide (0<=m) && decide (m<n))):=rfl
 by_cases h0:0<=m
 ·by_cases h1:m<n
  ·go_enter func170,ntmps170
   go_wp2;go_ret;exact⟨by rw[H.out];simp[*],rfl⟩
  go_enter func170,ntmps170
  go_wp2;go_ret;exact⟨by rw[H.out];simp[*],rfl⟩
 go_enter func170,ntmps170
 go_wp2;go_ret;exact⟨by rw[H.out];simp;omega,rfl⟩
theorem j9 {m n:Int} (h0:0<=m) (h1:m<n) (w:World):Calls prog 170 #[.int .i64 m,.int .i64 n] w fun e w'=>e= .returned (.bool true)/\w'=w:=by
 have:=zbP m n w;rw[zaz.2 ⟨h0,h1⟩]at this;exact this
theorem zad {m n:Int} (h:¬(0<=m/\m<n)) (w:World):Calls prog 170 #[.int .i64 m,.int .i64 n] w fun e w'=>e= .returned (.bool false)/\w'=w:=by
 have:=zbP m n w;rw[ziH h]at this;exact this
theorem zbi {a b:Int} (h:a=b):Ending.returned (.int .i64 a)= .returned (.int .i64 b):=by rw[h]
theorem ziv (n:Int) (w:World) (h1:0<=n) (h2:n<=96):
  Calls prog 217 #[.int .i64 n] w fun e w'=>e= .returned (.int .i64 (Jr n))/\w'=w:=by
 by_cases h:n<1
 ·have H:Hid (Jr n=0):=dD<|by unfold Jr;rw[if_pos h]
  go_enter func217,ntmps217
  go_wp2;go_ret;exact⟨zbi H.out.symm,rfl⟩
 have H:Hid (Jr n=(n - 1) / 8+1):=dD<|by unfold Jr;rw[if_neg h]
 go_enter func217,ntmps217
 go_wp2;go_ret;exact⟨zbi H.out.symm,rfl⟩
theorem zdI (n:Int) (w:World) (h1:0<=n) (h2:n<=96):
  Calls prog 37 #[.int .i64 n] w fun e w'=>e= .returned (.int .i64 (Jr n))/\w'=w:=by
 by_cases h:n<1
 ·have H:Hid (Jr n=0):=dD<|by unfold Jr;rw[if_pos h]
  have h':n<=0:=by omega
  go_enter func37,ntmps37
  go_wp2;go_ret;exact⟨zbi H.out.symm,rfl⟩
 have H:Hid (Jr n=(n - 1) / 8+1):=dD<|by unfold Jr;rw[if_neg h]
 have h':¬n<=0:=by omega
 by_cases hr:0<n % 8
 ·have H':Hid (Jr n=n / 8+1):=dD<|by rw[H.out];omega
  go_enter func37,ntmps37
  go_wp2;go_ret;exact⟨zbi H'.out.symm,rfl⟩
 have H':Hid (Jr n=n / 8):=dD<|by rw[H.out];omega
 go_enter func37,ntmps37
 go_wp2;go_ret;exact⟨zbi H'.out.symm,rfl⟩
theorem zer (v:Value) (fs:List Int) (w:World) (hv:zr blE w v fs):
  Calls prog 100 #[v] w fun e w'=>∃v',e= .returned v'/\zb blE w.heap.size w' v' fs/\zc w w':=by
 have HV:Hid (zr blE w v fs):=hv;obtain⟨⟨a,c,rfl,hnone,hcells⟩,hbytes⟩:=hv;have q22:∀(w:World) (a:Option Addr) (n c n' c':Nat),(binOp .eql 29 (.slice a n c) (.slice none n' c')).run prog w= .ok (.bool a.isNone) w:=fun w a n c n' c'=>Lib.run_eql_slice_nil w _ _ a n c n' c' underlying29
 cases a with
 | none=>
  have hps:=hnone rfl;subst hps;clear hcells hnone hbytes
  go_enter func100,ntmps100
  go_wp2;go_ret;exact⟨_,rfl,zb.nil _ _ _,zc.refl w⟩
 | some x=>
  have HB:Hid (fs.length*8<=140737488355328):=hbytes;clear hcells hnone hbytes
  go_enter func100,ntmps100
  go_wp2_with (at_builtin;refine zB (E:=blE) rfl (.tmp 5) (.tmp 6) rfl w.heap.size _ [] rfl (zb.made blE w) _ fs rfl (HV.out.grew (za _ _)) ?qb (by simp) ?_)
  case qb=>rw[List.length_nil,zA];exact HB.out
  intro v' w1 hown hgrow;go_wp2;go_ret;exact⟨v',rfl,by simpa using hown,((bR _ w).alloc (nR _) _).grown hgrow (by simp) (by intro k hk;simp[Value.ownBlock]at hk;omega)⟩
theorem zdl (v:Value) (fs:List FlV) (w:World) (hv:zr fvE w v fs):
  Calls prog 99 #[v] w fun e w'=>∃v',e= .returned v'/\zb fvE w.heap.size w' v' fs/\zc w w':=by
 have HV:Hid (zr fvE w v fs):=hv;obtain⟨⟨a,c,rfl,hnone,hcells⟩,hbytes⟩:=hv;have q22:∀(w:World) (a:Option Addr) (n c n' c':Nat),(binOp .eql 35 (.slice a n c) (.slice none n' c')).run prog w= .ok (.bool a.isNone) w:=fun w a n c n' c'=>Lib.run_eql_slice_nil w _ _ a n c n' c' underlying35
 cases a with
 | none=>
  have hps:=hnone rfl;subst hps;clear hcells hnone hbytes
  go_enter func99,ntmps99
  go_wp2;go_ret;exact⟨_,rfl,zb.nil _ _ _,zc.refl w⟩
 | some x=>
  have HB:Hid (fs.length*32<=140737488355328):=hbytes;clear hcells hnone hbytes
  go_enter func99,ntmps99
  go_wp2_with (at_builtin;refine zB (E:=fvE) rfl (.tmp 5) (.tmp 6) rfl w.heap.size _ [] rfl (zb.made fvE w) _ fs rfl (HV.out.grew (za _ _)) ?qb (by simp) ?_)
  case qb=>rw[List.length_nil,zA];exact HB.out
  intro v' w1 hown hgrow;go_wp2;go_ret;exact⟨v',rfl,by simpa using hown,((bR _ w).alloc (nR _) _).grown hgrow (by simp) (by intro k hk;simp[Value.ownBlock]at hk;omega)⟩
def qM (base:Nat) (w:World) (v:Value) (fs:List Fl):Prop:=
 ∃xs:List FlV,zb fvE base w v xs/\xs.length=fs.length/\(∀(i:Nat) x f,xs[i]? =some x->fs[i]? =some f->x.size=f.size/\zb blE base w x.v f.bl)/\
  ∀(i j:Nat) x y,i≠j->xs[i]? =some x->xs[j]? =some y->∀g,x.v.ownBlock=some g->y.v.ownBlock≠some g
theorem qM.new {base:Nat} {w:World} {v:Value} {fs:List Fl} (h:qM base w v fs):qW 0 base w v fs:=by
 obtain⟨xs,h1,h2,h3,_⟩:=h;exact⟨h1.cap,xs,h1.new.stays,h2,fun i x f hx hf=>⟨(h3 i x f hx hf).1,(h3 i x f hx hf).2.new.stays⟩⟩
theorem qM.grew {base:Nat} {w:World} {v:Value} {fs:List Fl} (h:qM base w v fs) (k:zc w w'):qM base w' v fs:=by
 obtain⟨xs,h1,h2,h3,h4⟩:=h;exact⟨xs,h1.grew k,h2,fun i x f hx hf=>⟨(h3 i x f hx hf).1,(h3 i x f hx hf).2.grew k⟩,h4⟩
theorem qM.setCell {base:Nat} {w:World} {v:Value} {fs:List Fl} (h:qM base w v fs) {a:Addr} (ha:a.block<base) (u:Value):qM base (w.setCell a u) v fs:=by
 obtain⟨xs,h1,h2,h3,h4⟩:=h;exact⟨xs,h1.setCell ha u,h2,fun i x f hx hf=>⟨(h3 i x f hx hf).1,(h3 i x f hx hf).2.setCell ha u⟩,h4⟩
theorem zdD:blE.ty≠fvE.ty:=by decide
structure zk0 (base:Nat) (w:World) (kk:Nat) (xs ys:List FlV) (fs:List Fl):Prop where
 len:ys.length=xs.length
 own:∀(i:Nat) y f,i<kk->ys[i]? =some y->fs[i]? =some f->y.size=f.size/\zb blE base w y.v f.bl
 rest:∀(i:Nat),kk<=i->ys[i]? =xs[i]?
 two:∀(i j:Nat) x y,i<kk->j<kk->i≠j->ys[i]? =some x->ys[j]? =some y->∀g,x.v.ownBlock=some g->y.v.ownBlock≠some g
theorem zk0.step {base:Nat} {w w1 w2:World} {xs ys:List FlV} {fs:List Fl} (h:zk0 base w kk xs ys fs) (hg:zc w w1) {g:Nat} (hg2:w1.grownBy w2 (some g)) {f:Fl} {x:FlV} (hf:fs[kk]? =some f) (hx:xs[kk]? =some x)
  (hs:x.size=f.size) {a:Option Addr} {n c:Nat} (hown:zb blE w.heap.size w1 (.slice a n c) f.bl) (hb:base<=w.heap.size) {v:Value} (hv:zb fvE base w1 v ys) (hvg:v.ownBlock=some g):zk0 base w2 (kk+1) xs (ys.set kk ⟨x.size,a,n,c⟩) fs:=by
 have hk:kk<ys.length:=by rw[h.len];exact(gS.1 hx).1
 have keep:∀(y:FlV) (l:List Int),zb blE base w1 y.v l->zb blE base w2 y.v l:=fun y l o=>o.grown hg2 (fun g' h1 e=>by
  cases e;exact hv.apart o (Ne.symm zdD) g hvg h1)
 refine⟨by rw[List.length_set];exact h.len,fun i y f' hi hy hf'=>?_,fun i hi=>?_,fun i j p q hi hj hij hp hq g' hp'=>?_⟩
 ·by_cases e:i=kk
  ·subst e;rw[sF hk]at hy;cases hy;rw[hf]at hf';cases hf';exact⟨hs,keep ⟨x.size,a,n,c⟩ _ (hown.base hb)⟩
  rw[sN (fun h=>e h.symm)]at hy
  obtain⟨q1,q2⟩:=h.own i y f' (by omega) hy hf'
  exact⟨q1,keep y _ (q2.grew hg)⟩
 ·rw[sN (by omega)]
  exact h.rest i (by omega)
 have newer:∀(i:Nat) y f',i<kk->ys[i]? =some y->fs[i]? =some f'->∀b,y.v.ownBlock=some b->b<w.heap.size:=fun i y f' hi hy hf' b hb'=>((h.own i y f' hi hy hf').2.lt b hb').2
 have hfl:∀i,i<kk->∃f',fs[i]? =some f':=fun i hi=>⟨_,gE (by have:=(gS.1 hf).1;omega)⟩
 by_cases e1:i=kk
 ·subst e1;rw[sF hk]at hp;cases hp;rw[sN (by omega)]at hq
  obtain⟨f',hf'⟩:=hfl j (by omega)
  intro hq';have h1:=newer j q f' (by omega) hq hf' g' hq'
  have h2:=(hown.lt g' hp').1;omega
 rw[sN (by omega)]at hp
 by_cases e2:j=kk
 ·subst e2;rw[sF hk]at hq;cases hq;obtain⟨f',hf'⟩:=hfl i (by omega)
  intro hq';have h1:=newer i p f' (by omega) hp hf' g' hp'
  have h2:=(hown.lt g' hq').1;omega
 rw[sN (by omega)]at hq
 exact h.two i j p q (by omega) (by omega) hij hp hq g' hp'
theorem zk0.all {base:Nat} {w:World} {xs ys:List FlV} {fs:List Fl} {v:Value} (h:zk0 base w xs.length xs ys fs) (hl:xs.length=fs.length) (hv:zb fvE base w v ys):qM base w v fs:=by
 refine⟨ys,hv,h.len.trans hl,fun i y f hy hf=>h.own i y f (by rw[<-h.len];exact(gS.1 hy).1) hy hf,fun i j p q hij hp hq=>h.two i j p q ?_ ?_ hij hp hq⟩
 ·rw[<-h.len];exact(gS.1 hp).1
 rw[<-h.len];exact(gS.1 hq).1
theorem zbp (v:Value) (fs:List Fl) (cnt:Int) (w:World) (hv:qd w v fs):
  Calls prog 61 #[.agg #[v,.int .i64 cnt]] w fun e w'=>∃b,e= .returned (.agg #[b,.int .i64 cnt])/\qM (w.heap.size+2) w' b fs/\zc w w'/\w.heap.size+2<=w'.heap.size:=by
 obtain⟨_,xs,k1,k2,k3⟩:=hv;have HX:Hid (zr fvE w v xs):=k1.now;have HK:Hid (∀(i:Nat) x f,xs[i]? =some x->fs[i]? =some f->x.size=f.size/\zr blE w (.slice x.a x.n x.c) f.bl):=show∀(i:Nat) x f,_ from fun i x f hx hf=>⟨(k3 i x f hx hf).1,(k3 i x f hx hf).2.now⟩
 have HL:Hid (xs.length=fs.length):=k2;have hbig:=k1.now.short;obtain⟨a,c,rfl,_⟩:=k1.now.rows;clear k1 k2 k3;obtain⟨n,HN⟩:∃n,Hid (xs.length=n):=⟨_,rfl⟩;rw[HN.out]at hbig HX⊢;obtain⟨W0,hW0⟩:∃W0,(w.alloc (.cells #[.slice a n c,.int .i64 cnt] 37)).alloc (.cells #[.slice none 0 0,.int .i64 0] 37)=W0:=⟨_,rfl⟩;have HG0:=gD2 hW0
 have X0:=x2a hW0
 have Y0:=x2b hW0
 have HS0:Hid (W0.heap.size=w.heap.size+2):=dD<|by rw[<-hW0];simp
 have HW0:Hid (_=W0):=hW0;clear hW0
 go_enter func61,ntmps61
 go_wp2_with fail;rw[HW0.out];refine(zdl _ xs W0 (HX.out.grew HG0.out)).mono ?_;rintro e W1 ⟨v1,rfl,ow1,g1⟩;obtain⟨xa,xc,rfl⟩:=ow1.form;rw[HS0.out]at ow1;rw[HN.out]at ow1⊢;have O1:Hid (zb fvE (w.heap.size+2) W1 (.slice xa n xc) xs):=ow1;have G1:Hid (zc W0 W1):=g1;clear ow1 g1;go_wp2
 go_loopg [4,10] n (fun gg _ s10 wr=>∃(kk:Nat) (ys:List FlV),kk<=n/\n - kk<=gg/\s10= .int .i64 kk/\Hid (zc W0 wr)/\Hid (zb fvE (w.heap.size+2) wr (.slice xa n xc) ys)/\Hid (zk0 (w.heap.size+2) wr kk xs ys fs))
 case atStart=>exact⟨0,xs,nZ _,by omega,rfl,G1.out,O1.out,⟨rfl,fun i y f hi=>absurd hi (nL _),fun i _=>rfl,fun i j x y hi=>absurd hi (nL _)⟩⟩
 obtain⟨kk,ys,hkk,hgg,rfl,BW,OW,HH⟩:=hrel
 by_cases hlt:kk<n
 ·have hltz:(kk:Int)< (n:Int):=by omega
  obtain⟨q,HQ⟩:∃q,Hid (xs[kk]? =some q):=⟨_,gE (by rw[HN.out];exact hlt)⟩
  obtain⟨f,HF⟩:∃f,Hid (fs[kk]? =some f):=⟨_,gE (by rw[<-HL.out,HN.out];exact hlt)⟩
  have HY:Hid (ys[kk]? =some q):=dD<|by rw[HH.out.rest kk (nR _)];exact HQ.out
  obtain⟨g,xc',heq⟩:=OW.out.formS (by rw[HH.out.len,HN.out];omega)
  rw[HH.out.len,HN.out]at heq;cases heq;obtain⟨q1,q2⟩:=HK.out kk q f HQ.out HF.out;have Q1:Hid (q.size=f.size):=q1;have hcl:=zer _ f.bl wr (q2.grew (HG0.out.trans BW.out));obtain⟨a0,c0,hsl,hrows⟩:=OW.out.at.rows;obtain⟨ad,had,hce⟩:=hrows kk q HY.out;rw[HH.out.len,HN.out]at hsl;cases hsl;cases had;have d1:wr.cell? ⟨g,kk*2+1,none⟩=some (.slice q.a q.n q.c):=by
   have:=hce wr (zc.refl _) 1 _ rfl;rw[zR,Addr.add_lit,zA]at this;exact this
  clear q1 q2 hrows hce;go_wp2_with fail;refine hcl.mono ?_;rintro e W2 ⟨v2,rfl,ow2,g2⟩;obtain⟨a2,c2,rfl⟩:=ow2.form;have O2:Hid (zb blE wr.heap.size W2 (.slice a2 f.bl.length c2) f.bl):=ow2;have G2:Hid (zc wr W2):=g2;have OF2:=dD (OW.out.grew g2);have HB:Hid (w.heap.size+2<=wr.heap.size):=show _<=_ by
   have:=bS BW.out;rw[HS0.out]at this;exact this
  clear ow2 g2 hcl d1
  generalize f.bl.length=nb at O2⊢
  go_wp2_with (refine zt (E:=fvE) rfl (.tmp 22) (.tmp 20) 29 rfl (w.heap.size+2) _ ys OF2.out g kk 1 rfl q ⟨q.size,a2,nb,c2⟩ HY.out [.slice a2 nb c2] ?s1 rfl ?s2 ?s3 ⟨g,kk*2+1,none⟩ rfl rfl (.slice a2 nb c2) rfl rfl ?_)
  case s1=>kernel_rfl
  case s2=>exact nR 2
  case s3=>simp;rfl
  intro W3 ow3 gr3 _;have O3:Hid (zb fvE (w.heap.size+2) W3 (.slice (some ⟨g,0,none⟩) n xc) (ys.set kk ⟨q.size,a2,nb,c2⟩)):=ow3;have H3:Hid (zk0 (w.heap.size+2) W3 (kk+1) xs (ys.set kk ⟨q.size,a2,nb,c2⟩) fs):=HH.out.step G2.out gr3 HF.out HQ.out Q1.out O2.out HB.out OF2.out rfl;have G3:Hid (zc W0 W3):=show zc _ _ from ze (BW.out.trans G2.out) gr3 (by
   rw[HS0.out];exact(OF2.out.lt g rfl).1)
  clear ow3 gr3;go_wp2
  go_roundg (n -(kk+1))
  case measure=>omega
  exact⟨kk+1,_,by omega,by omega,by go_num,G3.out,O3.out,H3.out⟩
 have hltz:¬(kk:Int)< (n:Int):=by omega
 have:kk=n:=by omega
 subst this;have OA:Hid (qM (w.heap.size+2) wr (.slice xa kk xc) fs):=dD<|by
  have h1:=HH.out;rw[<-HN.out]at h1;exact h1.all HL.out OW.out
 have x1:=(X0.out.grew BW.out).c 1 rfl;have Y1:=Y0.out.grew BW.out;have y0:=Y1.c 0 rfl;have y1:=Y1.c 1 rfl;have yf:=Y1.f;have HG:=dD (HG0.out.trans BW.out);go_wp2;refine bodyPost_ret (v:= .agg #[.slice xa kk xc,.int .i64 cnt]) (by simp[results,Tryz.results61,go_sem, *]) rfl ⟨_,rfl,(OA.out.setCell (by simp) _).setCell (by simp) _,?_,?_⟩
 ·exact Below.setCell (Below.setCell HG.out (p:=⟨w.heap.size+1,0,none⟩) (by simp) _) (p:=⟨w.heap.size+1,1,none⟩) (by simp) _
 have:=bS BW.out;rw[HS0.out]at this
 simp[World.setCell]
 exact this
def env (e:En):List Value:=[.int .i64 e.kind,.int .i64 e.n,.bool e.wr]
theorem zlP:(Tryz.prog.info? 55).map (fun i=>(i.zero,i.size,i.bytes))=some (some (.agg #[.int .i64 0,.int .i64 0,.bool false]),3,24):=by kernel_rfl
def enE:Elt En where
 enc:=env
 k:=3
 ty:=55
 st:=59
 bytes:=24
 zv:= .agg #[.int .i64 0,.int .i64 0,.bool false]
 zero:=en0
 len:=fun _=>rfl
 one:=fun a u hu=>by
  simp only[env,mC,nM,or_false]at hu
  rcases hu with rfl|rfl|rfl <;> rfl
 und:=underlying59
 info:=zlP
 zok:=rfl
 few:=by decide
 pos:=by decide
def zk1 (W:World) (y:Addr) (e:En):Prop:=W.cell? y=some (.int .i64 e.kind)/\W.cell? { block:=y.block,off:=y.off+1 }=some (.int .i64 e.n)/\W.cell? { block:=y.block,off:=y.off+2 }=some (.bool e.wr)
def zgc (w:World) (a:Option Addr) (l:List En):Prop:=∀(j:Nat) e,l[j]? =some e->∃ad,a=some ad/\∀W,zc w W->zk1 W (ad.add (j*3)) e
theorem zr.ens {w:World} {v:Value} {l:List En} (h:zr enE w v l):∃a c,v= .slice a l.length c/\zgc w a l:=by
 obtain⟨a,c,h1,h2⟩:=h.rows;refine⟨a,c,h1,fun j x hj=>?_⟩
 obtain⟨ad,h3,h4⟩:=h2 j x hj;exact⟨ad,h3,fun W hW=>⟨h4 W hW 0 _ rfl,h4 W hW 1 _ rfl,h4 W hW 2 _ rfl⟩⟩
structure Js (B0 B1:Nat) (w:World) (vs:List Value) (t:List (List En)):Prop where
 len:vs.length=8
 tlen:t.length=8
 row:∀(i:Nat) v h,vs[i]? =some v->t[i]? =some h->zeH enE B0 B1 w v h
def Jt (w:World) (vs:List Value) (t:List (List En)):Prop:=Js 0 0 w vs t
theorem Js.out {w:World} {t:List (List En)} (h:Js B0 B1 w vs t) (k:Out B0 B1 w w'):Js B0 B1 w' vs t:=⟨h.len,h.tlen,fun i v x hv hx=>(h.row i v x hv hx).out k⟩
theorem Js.grew {w:World} {t:List (List En)} (h:Js B0 B1 w vs t) (k:zc w w'):Js B0 B1 w' vs t:=h.out (Out.grew k)
theorem Js.less {w:World} {t:List (List En)} (h:Js B0 B1 w vs t) (h0:B0<=A0) (h1:A1<=B1):Js A0 A1 w vs t:=⟨h.len,h.tlen,fun i v x hv hx=>(h.row i v x hv hx).less h0 h1⟩
theorem Js.now {w:World} {t:List (List En)} (h:Js B0 B1 w vs t):Jt w vs t:=⟨h.len,h.tlen,fun i v x hv hx=>(h.row i v x hv hx).now.s0⟩
theorem Jt.grew {w:World} {t:List (List En)} (h:Jt w vs t) (k:zc w w'):Jt w' vs t:=Js.grew h k
def zao:List Value:=List.replicate 8 (.slice none 0 0)
theorem Js.nil (B0 B1:Nat) (w:World):Js B0 B1 w zao qN:=⟨rfl,rfl,fun i v h hv hh=>by
 have h1:=mG hv;have h2:=mG hh;rw[zao,List.mem_replicate]at h1;rw[qN,List.mem_replicate]at h2;rw[h1.2,h2.2];exact fun w' _=>zr.nil enE w'⟩
theorem Jt.half {w:World} {t:List (List En)} (h:Jt w vs t) (hi:i<8):∃a c x,t[i]? =some x/\vs[i]? =some (.slice a x.length c)/\zr enE w (.slice a x.length c) x:=by
 obtain⟨v,hv⟩:∃v,vs[i]? =some v:=⟨_,gE (by rw[h.len];exact hi)⟩
 obtain⟨x,hx⟩:∃x,t[i]? =some x:=⟨_,gE (by rw[h.tlen];exact hi)⟩
 have hr:=(h.row i v x hv hx).now;obtain⟨a,c,rfl,_⟩:=hr.rows;exact⟨a,c,x,hx,hv,hr⟩
theorem zkN {α:Type}:∀{l:List α},l.length=8->∃a b c d e f g h,l=[a,b,c,d,e,f,g,h]
 | [a,b,c,d,e,f,g,h],_=>⟨a,b,c,d,e,f,g,h,rfl⟩
theorem zcB (m n:Int) (w:World):
  Calls prog 138 #[.int .i64 m,.int .i64 n] w fun e w'=>e= .returned (.bool (bel m n))/\w'=w:=by
 have H:Hid (bel m n=(decide (0<=m) && decide (m<n))):=rfl
 by_cases h0:0<=m
 ·by_cases h1:m<n
  ·go_enter func138,ntmps138
   go_wp2;go_ret;exact⟨by rw[H.out];simp[*],rfl⟩
  go_enter func138,ntmps138
  go_wp2;go_ret;exact⟨by rw[H.out];simp[*],rfl⟩
 go_enter func138,ntmps138
 go_wp2;go_ret;exact⟨by rw[H.out];simp;omega,rfl⟩
theorem zax {m n:Int} (h0:0<=m) (h1:m<n) (w:World):Calls prog 138 #[.int .i64 m,.int .i64 n] w fun e w'=>e= .returned (.bool true)/\w'=w:=by
 have:=zcB m n w;rw[zaz.2 ⟨h0,h1⟩]at this;exact this
theorem zbQ {m n:Int} (h:¬(0<=m/\m<n)) (w:World):Calls prog 138 #[.int .i64 m,.int .i64 n] w fun e w'=>e= .returned (.bool false)/\w'=w:=by
 have:=zcB m n w;rw[ziH h]at this;exact this
theorem zcr (k n:Int) (b:Bool) (w:World):
  Calls prog 178 #[.agg #[.int .i64 k,.int .i64 n,.bool b]] w fun e w'=>e= .returned (.bool (enS ⟨k,n,b⟩))/\zc w w':=by
 have H:Hid (enS ⟨k,n,b⟩=(k != 0)):=rfl
 go_enter func178,ntmps178
 go_wp2;go_ret;exact⟨by rw[H.out];rfl,za _ _⟩
theorem zjT {e:En} (h:¬(0<=e.kind/\e.kind<=2)):enW e=1:=by unfold enW;rw[if_neg h]
theorem zeh {e:En} (h:0<=e.kind/\e.kind<=2) (h2:¬(0<=e.n/\e.n<=59/\(e.kind=1->e.n<=39))):enW e=3:=by unfold enW;rw[if_pos h,if_neg h2]
theorem zin {e:En} (h:0<=e.kind/\e.kind<=2) (h2:0<=e.n/\e.n<=59/\(e.kind=1->e.n<=39)) (h3:(e.kind=0/\(e.n≠0\/e.wr=true))\/(e.kind=2/\e.wr=true)):enW e=7:=by unfold enW;rw[if_pos h,if_pos h2,if_pos h3]
def zip (a b:En):Bool:=(a.kind == b.kind) &&((a.n == b.n) &&(a.wr == b.wr))
theorem zlA (k n k' n':Int) (b b':Bool) (w:World):(Op.equalIn 10000 55 (.agg #[.int .i64 k,.int .i64 n,.bool b]) (.agg #[.int .i64 k',.int .i64 n',.bool b'])).run prog w= .ok (zip ⟨k,n,b⟩ ⟨k',n',b'⟩) w:=by
 have hf : (Tryz.prog.fieldsOf 55).toList.map (fun f => (f.name, f.type, f.offset)) = [("Kind", 3, 0), ("N", 3, 1), ("Write", 4, 2)] := by kernel_rfl
 rw[run_equalIn_struct w 9999 55 _ _ (by kernel_rfl) (by kernel_rfl)]
 obtain⟨f0,f1,f2,hfs⟩:∃f0 f1 f2,(Tryz.prog.fieldsOf 55).toList=[f0,f1,f2]:=by
  match hq:(Tryz.prog.fieldsOf 55).toList with
  | [f0,f1,f2]=>exact⟨f0,f1,f2,rfl⟩
  | []=>rw[hq]at hf;simp at hf
  | [_]=>rw[hq]at hf;simp at hf
  | [_,_]=>rw[hq]at hf;simp at hf
  | _ :: _ :: _ :: _ :: _=>rw[hq]at hf;simp at hf
 rw[hfs]at hf⊢
 simp at hf
 obtain⟨⟨h1,h2,h3⟩,⟨h4,h5,h6⟩,h7,h8,h9⟩:=hf;have pI:∀(zs:Array Value) (o:Nat) v,zs[o]? =some (.int .i64 v)->(part 3 zs o).run prog w= .ok (.int .i64 v) w:=fun zs o v hz=>run_part_plain w (by simp[Program.plainKey,underlying3]) hz
 have pB:∀(zs:Array Value) (o:Nat) v,zs[o]? =some (.bool v)->(part 4 zs o).run prog w= .ok (.bool v) w:=fun zs o v hz=>run_part_plain w (by simp[Program.plainKey,underlying4]) hz
 simp only[Op.eqFields,h1,h2,h3,h4,h5,h6,h7,h8,h9]
 simp[pI,pB,run_equalIn_int w _ _ _ _ _ _ underlying3,run_equalIn_bool' w _ _ _ _ underlying4]
 unfold zip
 by_cases e1:k=k' <;> by_cases e2:n=n' <;> cases b <;> cases b' <;> simp[e1,e2]
theorem zb1 (k n:Int) (b:Bool) (w:World):
  Calls prog 181 #[.agg #[.int .i64 k,.int .i64 n,.bool b]] w fun e w'=>e= .returned (.int .i64 (enW ⟨k,n,b⟩))/\zc w w':=by
 obtain⟨Z,HZ⟩:∃Z,Hid (enW ⟨k,n,b⟩=Z):=⟨_,rfl⟩;rw[HZ.out]
 by_cases h1:0<=k/\k<=2
 ·have hb1:=fun W=>zax (m:=k) (n:=3) h1.1 (by omega) W
  by_cases h2:0<=n/\n<=59
  ·have hb2:=fun W=>zax (m:=n) (n:=60) h2.1 (by omega) W
   by_cases h3:k=1/\39<n
   ·have HF:Hid (Z=3):=dD<|by rw[<-HZ.out];exact zeh h1 (fun h=>by have:=h.2.2 h3.1;simp at this;omega)
    obtain⟨rfl,h3⟩:=h3;have h4:40<=n:=by omega
    clear h1 h2 h3
    go_enter func181,ntmps181
    go_wp2_with fail;refine(hb1 _).mono ?_;rintro e w' ⟨rfl,rfl⟩;go_wp2_with fail;refine(hb2 _).mono ?_;rintro e w' ⟨rfl,rfl⟩;go_wp2;go_ret;exact⟨by rw[HF.out];rfl,za _ _⟩
   have hr:0<=n/\n<=59/\(k=1->n<=39):=⟨h2.1,h2.2,fun h=>by omega⟩
   obtain rfl|rfl|rfl:k=0\/k=1\/k=2:=by omega
   ·have hq:=fun W=>zlA 0 n 0 0 b false W
    by_cases hn:n=0/\b=false
    ·have HF:Hid (Z=0):=dD<|by rw[<-HZ.out];exact zbK h1 hr (fun h=>by simp[hn.1,hn.2]at h)
     obtain⟨rfl,rfl⟩:=hn;rw[show zip ⟨0,0,false⟩ ⟨0,0,false⟩=true from rfl]at hq
     clear h1 h2 h3 hr
     go_enter func181,ntmps181
     go_wp2_with fail;refine(hb1 _).mono ?_;rintro e w' ⟨rfl,rfl⟩;go_wp2_with fail;refine(hb2 _).mono ?_;rintro e w' ⟨rfl,rfl⟩;go_wp2;go_ret;exact⟨by rw[HF.out];rfl,za _ _⟩
    have HF:Hid (Z=7):=dD<|by
     rw[<-HZ.out];refine zin h1 hr (.inl ⟨rfl,?_⟩)
     cases b with
     | false=>exact .inl (fun h=>hn ⟨h,rfl⟩)
     | true=>exact .inr rfl
    have he:zip ⟨0,n,b⟩ ⟨0,0,false⟩=false:=by
     unfold zip
     cases b with
     | false=>simp;exact fun h=>hn ⟨h,rfl⟩
     | true=>simp
    rw[he]at hq;clear h1 h2 h3 hr hn he
    go_enter func181,ntmps181
    go_wp2_with fail;refine(hb1 _).mono ?_;rintro e w' ⟨rfl,rfl⟩;go_wp2_with fail;refine(hb2 _).mono ?_;rintro e w' ⟨rfl,rfl⟩;go_wp2;go_ret;exact⟨by rw[HF.out];rfl,za _ _⟩
   ·have HF:Hid (Z=0):=dD<|by rw[<-HZ.out];exact zbK h1 hr (fun h=>by simp at h)
    have h4:¬40<=n:=by omega
    clear h1 h2 h3 hr
    go_enter func181,ntmps181
    go_wp2_with fail;refine(hb1 _).mono ?_;rintro e w' ⟨rfl,rfl⟩;go_wp2_with fail;refine(hb2 _).mono ?_;rintro e w' ⟨rfl,rfl⟩;go_wp2;go_ret;exact⟨by rw[HF.out];rfl,za _ _⟩
   cases b with
   | false=>
    have HF:Hid (Z=0):=dD<|by rw[<-HZ.out];exact zbK h1 hr (fun h=>by simp at h)
    clear h1 h2 h3 hr
    go_enter func181,ntmps181
    go_wp2_with fail;refine(hb1 _).mono ?_;rintro e w' ⟨rfl,rfl⟩;go_wp2_with fail;refine(hb2 _).mono ?_;rintro e w' ⟨rfl,rfl⟩;go_wp2;go_ret;exact⟨by rw[HF.out];rfl,za _ _⟩
   | true=>
    have HF:Hid (Z=7):=dD<|by rw[<-HZ.out];exact zin h1 hr (.inr ⟨rfl,rfl⟩)
    clear h1 h2 h3 hr
    go_enter func181,ntmps181
    go_wp2_with fail;refine(hb1 _).mono ?_;rintro e w' ⟨rfl,rfl⟩;go_wp2_with fail;refine(hb2 _).mono ?_;rintro e w' ⟨rfl,rfl⟩;go_wp2;go_ret;exact⟨by rw[HF.out];rfl,za _ _⟩
  have HF:Hid (Z=3):=dD<|by rw[<-HZ.out];exact zeh h1 (fun h=>h2 ⟨h.1,h.2.1⟩)
  have hb2:=fun W=>zbQ (m:=n) (n:=60) (by omega) W
  clear h1 h2
  go_enter func181,ntmps181
  go_wp2_with fail;refine(hb1 _).mono ?_;rintro e w' ⟨rfl,rfl⟩;go_wp2_with fail;refine(hb2 _).mono ?_;rintro e w' ⟨rfl,rfl⟩;go_wp2;go_ret;exact⟨by rw[HF.out];rfl,za _ _⟩
 have HF:Hid (Z=1):=dD<|by rw[<-HZ.out];exact zjT h1
 have hb1:=fun W=>zbQ (m:=k) (n:=3) (by omega) W
 clear h1
 go_enter func181,ntmps181
 go_wp2_with fail;refine(hb1 _).mono ?_;rintro e w' ⟨rfl,rfl⟩;go_wp2;go_ret;exact⟨by rw[HF.out];rfl,za _ _⟩
theorem zc9 (v:Value) (fs:List En) (w:World) (hv:zr enE w v fs):
  Calls prog 233 #[v,.func (.func 178) #[] #[]] w fun e w'=>(∃z:Int,e= .returned (.int .i64 z)/\decide (0<=z)=zbS fs)/\zc w w':=by
 have hbig:=hv.short;obtain⟨a,c,rfl,hrow⟩:=hv.ens;have HR:Hid (zgc w a fs):=hrow;clear hrow hv;obtain⟨n,HN⟩:∃n,Hid (fs.length=n):=⟨_,rfl⟩;rw[HN.out]at hbig⊢;obtain⟨ANS,HANS⟩:∃ANS,Hid (zbS fs=ANS):=⟨_,rfl⟩;rw[HANS.out];have eg:=enters_of func178 (by kernel_rfl) rfl
 go_enter func233,ntmps233
 go_wp2
 go_loopg [8] n (fun gg s8 wr=>∃kk:Nat,kk<=n/\n - kk<=gg/\s8= .int .i64 kk/\Hid (zc w wr)/\Hid (∀(j:Nat) q,j<kk->fs[j]? =some q->enS q=false))
 case atStart=>exact⟨0,nZ _,by omega,rfl,zc.refl w,fun j q hj=>absurd hj (nL _)⟩
 obtain⟨kk,hkk,hg,rfl,BW,A⟩:=hrel
 by_cases hlt:kk<n
 ·have hltz:(kk:Int)< (n:Int):=by omega
  obtain⟨q,HQ⟩:∃q,Hid (fs[kk]? =some q):=⟨_,gE (by rw[HN.out];exact hlt)⟩
  obtain⟨ad,rfl,hl⟩:=HR.out kk q HQ.out;obtain⟨d0,d1,d2⟩:=hl wr BW.out;clear hl;have hcall:=zcr q.kind q.n q.wr wr
  cases hq:enS q with
  | true=>
   have HF:Hid (decide (0<=(kk:Int))=ANS):=dD<|by
    rw[<-HANS.out,show zbS fs=true from zkV HQ.out hq]
    simp
   rw[show enS ⟨q.kind,q.n,q.wr⟩=true from hq]at hcall
   clear hq;go_wp2_with fail;refine hcall.mono ?_;rintro e W2 ⟨rfl,k1⟩;have G2:=dD (BW.out.trans k1);clear k1 hcall d0 d1 d2;go_wp2;go_ret;exact⟨⟨_,rfl,HF.out⟩,G2.out⟩
  | false=>
   have HA:Hid (∀(j:Nat) q,j<kk+1->fs[j]? =some q->enS q=false):=dD<|fun j q' hj hq'=>by
    by_cases e:j=kk
    ·subst e;rw[HQ.out]at hq';cases hq';exact hq
    exact A.out j q' (by omega) hq'
   rw[show enS ⟨q.kind,q.n,q.wr⟩=false from hq]at hcall
   clear hq;go_wp2_with fail;refine hcall.mono ?_;rintro e W2 ⟨rfl,k1⟩;have G2:=dD (BW.out.trans k1);clear k1 hcall d0 d1 d2;go_wp2
   go_roundg (n -(kk+1))
   case measure=>omega
   exact⟨kk+1,by omega,by omega,by go_num,G2.out,HA.out⟩
 have hltz:¬(kk:Int)< (n:Int):=by omega
 have:kk=n:=by omega
 subst this;have HF:Hid (decide (0<=(-1:Int))=ANS):=dD<|by
  rw[<-HANS.out]
  symm
  exact zkU (fun j x hx=>A.out j x (by rw[<-HN.out];exact(gS.1 hx).1) hx)
 go_wp2;go_ret;exact⟨⟨_,rfl,HF.out⟩,BW.out⟩
theorem zaQ (v:Value) (fs:List En) (w:World) (hv:zr enE w v fs):
  Calls prog 213 #[v,.func (.func 178) #[] #[]] w fun e w'=>e= .returned (.bool (zbS fs))/\zc w w':=by
 have hcall:=zc9 v fs w hv;obtain⟨a,c,rfl,_⟩:=hv.rows;clear hv
 generalize fs.length=n at*
 generalize zbS fs=A at*
 go_enter func213,ntmps213
 go_wp2_with fail;refine hcall.mono ?_;rintro e W2 ⟨⟨z,rfl,hz⟩,k1⟩;have HZ:Hid (decide (0<=z)=A):=hz;have G2:Hid (zc w W2):=k1;clear hz k1 hcall;go_wp2;go_ret;exact⟨by rw[<-HZ.out];rfl,G2.out⟩
theorem zce (v:Value) (fs:List En) (w:World) (hv:zr enE w v fs):
  Calls prog 146 #[v] w fun e w'=>∃v',e= .returned v'/\zb enE w.heap.size w' v' fs/\zc w w':=by
 have HV:Hid (zr enE w v fs):=hv;obtain⟨⟨a,c,rfl,hnone,hcells⟩,hbytes⟩:=hv;have q22:∀(w:World) (a:Option Addr) (n c n' c':Nat),(binOp .eql 59 (.slice a n c) (.slice none n' c')).run prog w= .ok (.bool a.isNone) w:=fun w a n c n' c'=>Lib.run_eql_slice_nil w _ _ a n c n' c' underlying59
 cases a with
 | none=>
  have hps:=hnone rfl;subst hps;clear hcells hnone hbytes
  go_enter func146,ntmps146
  go_wp2;go_ret;exact⟨_,rfl,zb.nil _ _ _,zc.refl w⟩
 | some x=>
  have HB:Hid (fs.length*24<=140737488355328):=hbytes;clear hcells hnone hbytes
  go_enter func146,ntmps146
  go_wp2_with (at_builtin;refine zB (E:=enE) rfl (.tmp 5) (.tmp 6) rfl w.heap.size _ [] rfl (zb.made enE w) _ fs rfl (HV.out.grew (za _ _)) ?qb (by simp) ?_)
  case qb=>rw[List.length_nil,zA];exact HB.out
  intro v' w1 hown hgrow;go_wp2;go_ret;exact⟨v',rfl,by simpa using hown,((bR _ w).alloc (nR _) _).grown hgrow (by simp) (by intro k hk;simp[Value.ownBlock]at hk;omega)⟩
theorem Box.range {w:World} {cs:List Value} (h:Box w b cs):w.rangeAt b 0 cs:=fun j v hj=>by
 rw[zA];exact h.c j hj
theorem Box.there {w:World} {cs:List Value} (h:Box w b cs):w.there b 0 cs.length:=fun j hj=>by
 rw[zA];exact⟨by rw[h.c j (gE hj)];rfl,h.f j⟩
theorem Box.part {w:World}:∀{ds cs:List Value} {o:Nat},Box w b cs->o+ds.length<=cs.length->Box (w.setCells b o ds) b (splice cs o ds):=by
 have key:∀(ds cs:List Value) (o:Nat) (w:World),Box w b cs->o+ds.length<=cs.length->Box (w.setCells b o ds) b (splice cs o ds):=fun ds=>by
  induction ds with
  | nil=>
   intro cs o w h hl;have:splice cs o []=cs:=by simp[splice]
   rw[this];exact h
  | cons d ds ih=>
   intro cs o w h hl;simp only[List.length_cons]at hl;have h1:=h.set o d;have h2:=ih (cs.set o d) (o+1) (w.setCell ⟨b,o,none⟩ d) h1 (by simp;omega)
   have h3:splice (cs.set o d) (o+1) ds=splice cs o (d :: ds):=by
    unfold splice;rw[List.take_set,List.drop_set,if_pos (by omega),List.take_add_one,gE (by omega)]
    simp only[List.length_cons,Option.toList_some];rw[List.set_append_right _ _ (by simp;omega),show o+1+ds.length=o+(ds.length+1) by omega]
    simp[List.length_take,Nat.min_eq_left (show o<=cs.length by omega)]
   rw[h3]at h2;exact h2
 exact fun{ds cs o} h hl=>key ds cs o w h hl
theorem zS (b:Nat):∀(ds:List Value) (o:Nat) (w:World),w.grownBy (w.setCells b o ds) (some b)/\(w.setCells b o ds).heap.size=w.heap.size
 | [],_,w=>⟨World.grownBy.rfl' _ _,rfl⟩
 | d :: ds,o,w=>by
  obtain⟨h1,h2⟩:=zS b ds (o+1) (w.setCell ⟨b,o,none⟩ d);have h3:w.grownBy (w.setCell ⟨b,o,none⟩ d) (some b):=⟨rfl,rfl,rfl,by simp[World.setCell],fun k _ hk=>Below.heap_setCell _ _ _ _ (fun e=>hk (by rw[e]))⟩
  exact⟨Qz h3 h1,h2.trans (by simp[World.setCell])⟩
theorem zJ {rest:List Oper} {a:Act} {w:World} (hgd:o.guard=none) (ty:TypeId) (x:Operand) (ho:o.op= .load ty x) (b:Nat) (hx:a.eval x= .pointer (some ⟨b,0,none⟩)) (hb:Box w b vs) {d:TypeDesc} (hu:Tryz.prog.underlying ty=some d) (hd:d.isRow=true) (hi:(Tryz.prog.info? ty).map (·.size)=some vs.length)
  (h:wpList prog ops Q rest (a.put o.dst (.agg vs.toArray)) w):wpList prog ops Q (o :: rest) a w:=
 wpList_load_mid hgd ty x ho b 0 hx vs _ hb.range hu hd hi h
theorem zak {cs:List Value} (h:vs.length=cs.length):splice cs 0 vs=vs:=by
 unfold splice;rw[List.take_zero,List.nil_append,zA,List.drop_of_length_le (by omega),List.append_nil]
theorem zX {rest:List Oper} {a:Act} {w:World} (hgd:o.guard=none) (ty:TypeId) (p x:Operand) (ho:o.op= .store ty p x) (b:Nat) (hp:a.eval p= .pointer (some ⟨b,0,none⟩)) (vs:List Value) (hx:a.eval x= .agg vs.toArray)
  {cs:List Value} (hb:Box w b cs) (hl:vs.length=cs.length) (hi:(Tryz.prog.info? ty).map (·.size)=some cs.length) (h1:∀v∈vs,v.oneCell'=true)
  (h:∀w',Box w' b vs->w.grownBy w' (some b)->w'.heap.size=w.heap.size->wpList prog ops Q rest (a.put o.dst undef) w'):wpList prog ops Q (o :: rest) a w:=by
 refine wpList_store_mid hgd ty p x ho b 0 vs.toArray hp hx ?_ ?_ (all_oneCell_toArray h1) ?_
 ·simpa [hl]using hb.there
 ·simpa [hl]using hi
 have:=hb.part (ds:=vs) (o:=0) (by omega)
 rw[zak hl]at this;exact h _ this (zS b vs 0 w).1 (zS b vs 0 w).2
theorem zeO {rest:List Oper} {op:Oper} {a:Act} {w:World} (hgd:op.guard=none) (ty:TypeId) (p x:Operand) (ho:op.op= .store ty p x) (b o:Nat) (hp:a.eval p= .pointer (some ⟨b,o,none⟩)) (vs:List Value) (hx:a.eval x= .agg vs.toArray)
  {cs:List Value} (hb:Box w b cs) (hl:o+vs.length<=cs.length) (hi:(Tryz.prog.info? ty).map (·.size)=some vs.length) (h1:∀v∈vs,v.oneCell'=true)
  (h:∀w',Box w' b (splice cs o vs)->w.grownBy w' (some b)->w'.heap.size=w.heap.size->wpList prog ops Q rest (a.put op.dst undef) w'):wpList prog ops Q (op :: rest) a w:=by
 refine wpList_store_mid hgd ty p x ho b o vs.toArray hp hx ?_ ?_ (all_oneCell_toArray h1) ?_
 ·intro j hj;have:=hb.there (o+j) (by simp at hj;omega)
  rw[zA]at this;exact this
 ·simpa using hi
 exact h _ (hb.part hl) (zS b vs o w).1 (zS b vs o w).2
theorem Box.mid {w:World} {cs:List Value} (h:Box w b cs) (o:Nat) (hv:∀(j:Nat) v,vs[j]? =some v->cs[o+j]? =some v):w.rangeAt b o vs:=fun j v hj=>h.c _ (hv j v hj)
theorem zY {fn:Func} {p:Tmp} {ty:TypeId} (h:fn.results=#[.cell p ty]) (tmps:Array Value) {w:World} (hp:tmps.getD p undef= .pointer (some ⟨b,0,none⟩)) (hb:Box w b vs) {d:TypeDesc} (hu:Tryz.prog.underlying ty=some d) (hd:d.isRow=true) (hi:(Tryz.prog.info? ty).map (·.size)=some vs.length):
  (results fn tmps).run prog w= .ok (.agg vs.toArray) w:=by
 have hp':tmps[p]?.getD undef= .pointer (some ⟨b,0,none⟩):=by simpa using hp
 have hld:=run_loadVar_mid (P:=prog) w b 0 ty vs d hb.range hu hd hi
 simp[results,h,hp',asAddr,hld]
theorem jL {P:Program} {a:Act} {w:World} {next:Act->World->Prop} (d:Option Tmp) (K:Value->World->Prop) (hi:ops[i]? =some o) (hd:o.dst=d) (hw:Region.wanted o (yielded ops a.tmps)=true) (h:zK P o a w K) (hn:∀v w',K v w'->next (a.put d v) w'):wpOp P ops Q i next a w:=by
 subst hd;unfold wpOp;simp only[hi,hw,if_true];exact .inl (h.wp hn)
theorem zK.storeAll {a:Act} {w:World} {K:Value->World->Prop} (ty:TypeId) (p x:Operand) (ho:o.op= .store ty p x) (b:Nat) (hp:a.eval p= .pointer (some ⟨b,0,none⟩)) (vs:List Value) (hx:a.eval x= .agg vs.toArray)
  {cs:List Value} (hb:Box w b cs) (hl:vs.length=cs.length) (hi:(Tryz.prog.info? ty).map (·.size)=some cs.length) (h1:∀v∈vs,v.oneCell'=true)
  (h:∀w',Box w' b vs->w.grownBy w' (some b)->w'.heap.size=w.heap.size->K undef w'):zK prog o a w K:=by
 unfold zK;have hr:(execOp a.eval o).run prog w= .ok .skip (w.setCells b 0 vs):=by
  have:=run_storeAt_mid (P:=prog) w b 0 ty vs.toArray (by simpa [hl]using hb.there) (by simpa [hl]using hi) (all_oneCell_toArray h1)
  simp only[execOp,ho,hp,hx,Sem.run_bind,this,rA,Sem.run_pure]
 rw[hr];have hp:=hb.part (ds:=vs) (o:=0) (by omega)
 rw[zak hl]at hp;exact h _ hp (zS b vs 0 w).1 (zS b vs 0 w).2
theorem zlQ:(Tryz.prog.info? 61).map (·.size)=some 8:=by kernel_rfl
theorem Zv {rest:List Oper} {a:Act} {w:World} (hgd:o.guard=none) (x:Operand) (ho:o.op= .load 61 x) (b:Nat) (hx:a.eval x= .pointer (some ⟨b,0,none⟩)) (hb:Box w b vs) (hl:vs.length=8)
  (h:wpList prog ops Q rest (a.put o.dst (.agg vs.toArray)) w):wpList prog ops Q (o :: rest) a w:=
 wpList_load_mid hgd 61 x ho b 0 hx vs _ hb.range underlying61 rfl (by rw[hl];exact zlQ) h
theorem zi4 {w:World} (i:Nat) (hi:i<8) {v:Value} (hv:vs[i]? =some v):(Instr.index 61 (.agg vs.toArray) (.int .i64 (i:Int))).run prog w= .ok v w:=by
 have ha:(isAgg 59).run prog w= .ok false w:=by
  unfold isAgg;rw[Sem.run_bind,run_underlying underlying59 w];rfl
 have hs:(Go.sizeOf 59).run prog w= .ok 1 w:=by
  obtain⟨i0,h1,h2⟩:∃i0,Tryz.prog.info? 59=some i0/\i0.size=1:=by
   have:(Tryz.prog.info? 59).map (·.size)=some 1:=by kernel_rfl
   cases hq:Tryz.prog.info? 59 with
   | none=>rw[hq]at this;cases this
   | some i0=>rw[hq]at this;exact⟨i0,rfl,by simpa using this⟩
  simp[Go.sizeOf,typeInfo,h1,h2]
 have hlt:(0:Int)<=(i:Int)/\(i:Int)< ((8:Nat):Int):=by omega
 simp only[Instr.index,asIntOf,Sem.run_bind,Sem.run_pure,rA,run_underlying underlying61];rw[if_pos hlt];simp only[Sem.run_bind,hs,rA,part,ha,Nat.mul_one,tN]
 simp[hv]
theorem zeP {rest:List Oper} {a:Act} {w:World} (hgd:o.guard=none) (x ix:Operand) (ho:o.op= .index 61 x ix) (vs:List Value) (hx:a.eval x= .agg vs.toArray) (i:Nat) (hix:a.eval ix= .int .i64 (i:Int)) (hi:i<8) {v:Value} (hv:vs[i]? =some v)
  (h:wpList prog ops Q rest (a.put o.dst v) w):wpList prog ops Q (o :: rest) a w:=by
 refine wpList_plain hgd fun K hK=>?_
 unfold Oper.wp execOp;simp only[ho,hx,hix,Sem.run_bind,Sem.run_pure,rA,zi4 i hi hv];exact hK _ _ h
theorem ZS {fn:Func} {p u:Tmp} {ty:TypeId} (h:fn.results=#[.cell p ty,.tmp u]) (tmps:Array Value) {w:World} (hp:tmps.getD p undef= .pointer (some ⟨b,0,none⟩)) (hb:Box w b vs) {d:TypeDesc} (hu:Tryz.prog.underlying ty=some d) (hd:d.isRow=true) (hi:(Tryz.prog.info? ty).map (·.size)=some vs.length):
  (results fn tmps).run prog w= .ok (.tuple #[.agg vs.toArray,tmps.getD u undef]) w:=by
 have hld:=run_loadVar_mid (P:=prog) w b 0 ty vs d hb.range hu hd hi;rw[results_cell_tmp h,hp]
 simp[asAddr,Result.andThen,hld]
theorem Js.one {w:World} {t:List (List En)} (h:Js B0 B1 w vs t):∀v∈vs,v.oneCell'=true:=fun v hv=>by
 obtain⟨i,hi⟩:=List.getElem?_of_mem hv;have hlt:i<8:=by rw[<-h.len];exact(gS.1 hi).1
 obtain⟨a,c,x,_,h2,_⟩:=h.now.half hlt;rw[h2]at hi;cases hi;rfl
structure jS (base:Nat) (w:World) (vs:List Value) (t:List (List En)):Prop where
 len:vs.length=8
 tlen:t.length=8
 row:∀(i:Nat) v h,vs[i]? =some v->t[i]? =some h->zb enE base w v h
 two:∀(i j:Nat) u v,i≠j->vs[i]? =some u->vs[j]? =some v->∀g,u.ownBlock=some g->v.ownBlock≠some g
theorem jS.new {base:Nat} {w:World} {t:List (List En)} (h:jS base w vs t):Js 0 base w vs t:=⟨h.len,h.tlen,fun i v x hv hx=>(h.row i v x hv hx).new.stays⟩
theorem jS.grew {base:Nat} {w:World} {t:List (List En)} (h:jS base w vs t) (k:zc w w'):jS base w' vs t:=⟨h.len,h.tlen,fun i v x hv hx=>(h.row i v x hv hx).grew k,h.two⟩
theorem jS.base {base:Nat} {w:World} {t:List (List En)} (h:jS base w vs t) (hb:base'<=base):jS base' w vs t:=⟨h.len,h.tlen,fun i v x hv hx=>(h.row i v x hv hx).base hb,h.two⟩
structure ziJ (base:Nat) (w:World) (kk:Nat) (vs us:List Value) (t:List (List En)):Prop where
 len:us.length=8
 own:∀(i:Nat) v h,i<kk->us[i]? =some v->t[i]? =some h->zb enE base w v h
 two:∀(i j:Nat) u v,i<kk->j<kk->i≠j->us[i]? =some u->us[j]? =some v->∀g,u.ownBlock=some g->v.ownBlock≠some g
 one:∀v∈us,v.oneCell'=true
theorem ziJ.step {base:Nat} {w w1:World} {us:List Value} {t:List (List En)} (h:ziJ base w kk vs us t) (ht:t.length=8) (hg:zc w w1) {x:List En} {v:Value} (hk:kk<8) (hx:t[kk]? =some x) (hown:zb enE w.heap.size w1 v x) (hb:base<=w.heap.size) {p:Addr} (hp:p.block<base) (u:Value):ziJ base (w1.setCell p u) (kk+1) vs (us.set kk v) t:=by
 have hlt:∀(j:Nat) u,j<kk->us[j]? =some u->∀g,u.ownBlock=some g->g<w.heap.size:=fun j u hj hu g hg=>by
  obtain⟨y,hy⟩:∃y,t[j]? =some y:=⟨_,gE (by rw[ht,<-h.len];exact(gS.1 hu).1)⟩
  exact((h.own j u y hj hu hy).lt g hg).2
 refine⟨by simp[h.len],fun i y f hi hy hf=>?_,fun i j p' q hi hj hij hp' hq g h1 h2=>?_,fun y hy=>?_⟩
 ·by_cases e:i=kk
  ·subst e;rw[sF (by rw[h.len];exact hk)]at hy
   cases hy;rw[hx]at hf;cases hf;exact(hown.base hb).setCell hp u
  rw[sN (fun h=>e h.symm)]at hy
  exact((h.own i y f (by omega) hy hf).grew hg).setCell hp u
 ·by_cases e1:i=kk
  ·subst e1;rw[sF (by rw[h.len];exact hk)]at hp'
   cases hp';rw[sN hij]at hq;have:=hlt j q (by omega) hq g h2
   have:=(hown.lt g h1).1;omega
  rw[sN (fun h=>e1 h.symm)]at hp'
  by_cases e2:j=kk
  ·subst e2;rw[sF (by rw[h.len];exact hk)]at hq
   cases hq;have:=hlt i p' (by omega) hp' g h1
   have:=(hown.lt g h2).1;omega
  rw[sN (fun h=>e2 h.symm)]at hq
  exact h.two i j p' q (by omega) (by omega) hij hp' hq g h1 h2
 rcases List.mem_or_eq_of_mem_set hy with h1|h1
 ·exact h.one y h1
 subst h1;obtain⟨a,c,rfl⟩:=hown.form;rfl
theorem zhG (vs:List Value) (t:List (List En)) (w:World) (hv:Jt w vs t):
  Calls prog 102 #[.agg vs.toArray] w fun e w'=>∃us,e= .returned (.agg us.toArray)/\jS (w.heap.size+2) w' us t/\zc w w'/\w.heap.size+2<=w'.heap.size:=by
 have HV:Hid (Jt w vs t):=hv;have HL:Hid (vs.length=8):=hv.len;clear hv;obtain⟨W0,hW0⟩:∃W0,(w.alloc (.cells vs.toArray 61)).alloc (.cells #[.slice none 0 0,.slice none 0 0,.slice none 0 0,.slice none 0 0,.slice none 0 0,.slice none 0 0,.slice none 0 0,.slice none 0 0] 61)=W0:=⟨_,rfl⟩;have HG0:=gD2 hW0
 have X0:=x2a hW0
 have Y0:Hid (Box W0 (w.heap.size+1) zao):=dD<|by rw[<-hW0];exact Box.top _ zao _ (by simp)
 have HS0:Hid (W0.heap.size=w.heap.size+2):=dD<|by rw[<-hW0];simp
 have HW0:Hid (_=W0):=hW0;clear hW0
 go_enter func102,ntmps102
 go_upto_region 1 with fail;rw[HW0.out]
 go_wp2_with (refine Zv rfl (.tmp 1) rfl w.heap.size rfl X0.out HL.out ?_)
 go_loopg [6] 8 (fun gg s6 wr=>∃(kk:Nat) (us:List Value),kk<=8/\8 - kk<=gg/\s6= .int .i64 kk/\Hid (zc w wr)/\Hid (w.heap.size+2<=wr.heap.size)/\Hid (Box wr w.heap.size us)/\Hid (Box wr (w.heap.size+1) zao)/\Hid (ziJ (w.heap.size+2) wr kk vs us t))
 case atStart=>exact⟨0,vs,nZ _,by omega,rfl,HG0.out,by rw[HS0.out];exact nR _,X0.out,Y0.out,⟨HL.out,fun i v h hi=>absurd hi (nL _),fun i j u v hi=>absurd hi (nL _),HV.out.one⟩⟩
 obtain⟨kk,us,hkk,hg,rfl,BW,SW,XW,YW,HH⟩:=hrel
 by_cases hlt:kk<8
 ·have hltz:(kk:Int)<8:=by omega
  obtain⟨xa,xc,q,hq,hvk,hr⟩:=HV.out.half hlt;have HQ:Hid (t[kk]? =some q):=hq;have HVK:Hid (vs[kk]? =some (.slice xa q.length xc)):=hvk;have hcall:=zce (.slice xa q.length xc) q wr (hr.grew BW.out);clear hq hvk hr
  generalize q.length=nq at hcall HVK
  go_wp2_with (refine zeP rfl (.tmp 5) (.tmp 6) rfl vs rfl kk rfl hlt HVK.out ?_)
  refine hcall.mono ?_;rintro e W2 ⟨v2,rfl,ow2,g2⟩;obtain⟨a2,c2,rfl⟩:=ow2.form;have O2:Hid (zb enE wr.heap.size W2 (.slice a2 q.length c2) q):=ow2;have G2:Hid (zc wr W2):=g2;have X2:=dD (XW.out.grew g2);clear ow2 g2 hcall
  generalize q.length=nb at O2⊢
  obtain⟨uk,huk⟩:∃uk,us[kk]? =some uk:=⟨_,gE (by rw[HH.out.len];exact hlt)⟩
  have x0:=X2.out.c kk huk;have xf:=X2.out.f;clear huk;go_wp2;have HH3:Hid (ziJ (w.heap.size+2) (W2.setCell ⟨w.heap.size,kk,none⟩ (.slice a2 nb c2)) (kk+1) vs (us.set kk (.slice a2 nb c2)) t):=HH.out.step HV.out.tlen G2.out hlt HQ.out O2.out SW.out (by simp) _
  have X3:Hid (Box (W2.setCell ⟨w.heap.size,kk,none⟩ (.slice a2 nb c2)) w.heap.size (us.set kk (.slice a2 nb c2))):=X2.out.set kk _;have Y3:Hid (Box (W2.setCell ⟨w.heap.size,kk,none⟩ (.slice a2 nb c2)) (w.heap.size+1) zao):=(YW.out.grew G2.out).other (by simp) _
  have G3:Hid (zc w (W2.setCell ⟨w.heap.size,kk,none⟩ (.slice a2 nb c2))):=dD<|Below.setCell (BW.out.trans G2.out) (p:=⟨w.heap.size,kk,none⟩) (by simp) _
  have S3:Hid (w.heap.size+2<=(W2.setCell ⟨w.heap.size,kk,none⟩ (.slice a2 nb c2)).heap.size):=dD<|by
   have:=bS G2.out;have:=SW.out
   simp[World.setCell]
   omega
  go_roundg (8 -(kk+1))
  case measure=>omega
  exact⟨kk+1,_,by omega,by omega,by go_num,G3.out,S3.out,X3.out,Y3.out,HH3.out⟩
 have hltz:¬(kk:Int)<8:=by omega
 have:kk=8:=by omega
 subst this;have OA:Hid (jS (w.heap.size+2) wr us t):=dD<|⟨HH.out.len,HV.out.tlen,fun i v h hv' hh=>HH.out.own i v h (by rw[<-HH.out.len];exact(gS.1 hv').1) hv' hh,fun i j u v hij hu hv'=>HH.out.two i j u v (by rw[<-HH.out.len];exact(gS.1 hu).1) (by rw[<-HH.out.len];exact(gS.1 hv').1) hij hu hv'⟩
 go_wp2_with (first | refine Zv rfl (.tmp 1) rfl w.heap.size rfl XW.out HH.out.len ?_ | refine zX rfl 61 (.tmp 2) (.tmp 15) rfl (w.heap.size+1) rfl us rfl YW.out HH.out.len zlQ HH.out.one ?_)
 intro W3 b3 g3 s3;have OB:Hid (jS (w.heap.size+2) W3 us t):=dD<|⟨OA.out.len,OA.out.tlen,fun i v h hv' hh=>(OA.out.row i v h hv' hh).grown g3 (fun g hg e=>by
  cases e;have:=((OA.out.row i v h hv' hh).lt _ hg).1
  omega),OA.out.two⟩
 have G3:Hid (zc w W3):=dD<|ze BW.out g3 (by simp)
 have S3:Hid (w.heap.size+2<=W3.heap.size):=dD<|by rw[s3];exact SW.out
 have B3:Hid (Box W3 (w.heap.size+1) us):=b3;clear b3 g3 s3;go_wp2;refine bodyPost_ret (zY rfl _ rfl B3.out underlying61 rfl (by rw[HH.out.len];exact zlQ)) rfl ⟨us,rfl,OB.out,G3.out,S3.out⟩
def arv (a:Ar):List Value:=[.int .i64 a.fr,.int .i64 a.tz,.bool a.rd,.bool a.wr,.bool a.sh,.int .i64 a.file,.int .i64 a.base]
def arA (a:Ar):Value:= .agg #[.int .i64 a.fr,.int .i64 a.tz,.bool a.rd,.bool a.wr,.bool a.sh,.int .i64 a.file,.int .i64 a.base]
theorem zlR:(Tryz.prog.info? 91).map (fun i=>(i.zero,i.size,i.bytes))=some (some (.agg #[.int .i64 0,.int .i64 0,.bool false,.bool false,.bool false,.int .i64 0,.int .i64 0]),7,40):=by kernel_rfl
theorem zlS:(Tryz.prog.info? 91).map (·.size)=some 7:=by kernel_rfl
theorem zlT:(Tryz.prog.info? 164).map (·.size)=some 2:=by kernel_rfl
theorem zlU:(Tryz.prog.info? 67).map (·.size)=some 6:=by kernel_rfl
theorem zlV:(Tryz.prog.info? 68).map (·.size)=some 384:=by kernel_rfl
def arE:Elt Ar where
 enc:=arv
 k:=7
 ty:=91
 st:=58
 bytes:=40
 zv:= .agg #[.int .i64 0,.int .i64 0,.bool false,.bool false,.bool false,.int .i64 0,.int .i64 0]
 zero:=ar0
 len:=fun _=>rfl
 one:=fun a u hu=>by
  simp only[arv,mC,nM,or_false]at hu
  rcases hu with rfl|rfl|rfl|rfl|rfl|rfl|rfl <;> rfl
 und:=underlying58
 info:=zlR
 zok:=rfl
 few:=by decide
 pos:=by decide
def zk3 (W:World) (y:Addr) (e:Ar):Prop:=W.cell? y=some (.int .i64 e.fr)/\W.cell? { block:=y.block,off:=y.off+1 }=some (.int .i64 e.tz)/\W.cell? { block:=y.block,off:=y.off+2 }=some (.bool e.rd)/\W.cell? { block:=y.block,off:=y.off+3 }=some (.bool e.wr)/\W.cell? { block:=y.block,off:=y.off+4 }=some (.bool e.sh)/\W.cell? { block:=y.block,off:=y.off+5 }=some (.int .i64 e.file)/\W.cell? { block:=y.block,off:=y.off+6 }=some (.int .i64 e.base)
def zbX (w:World) (a:Option Addr) (l:List Ar):Prop:=∀(j:Nat) e,l[j]? =some e->∃ad,a=some ad/\∀W,zc w W->zk3 W (ad.add (j*7)) e
theorem zr.ars {w:World} {v:Value} (h:zr arE w v l):∃a c,v= .slice a l.length c/\zbX w a l:=by
 obtain⟨a,c,h1,h2⟩:=h.rows;refine⟨a,c,h1,fun j x hj=>?_⟩
 obtain⟨ad,h3,h4⟩:=h2 j x hj;exact⟨ad,h3,fun W hW=>⟨h4 W hW 0 _ rfl,h4 W hW 1 _ rfl,h4 W hW 2 _ rfl,h4 W hW 3 _ rfl,h4 W hW 4 _ rfl,h4 W hW 5 _ rfl,h4 W hW 6 _ rfl⟩⟩
def onv (x:On):List Value:=[.bool x.is,.bool x.rd,.bool x.wr,.bool x.sh,.int .i64 x.file,.int .i64 x.page]
def tab {α:Type} (f:Nat->α):List α:=(List.range 64).map f
theorem Qb {α:Type} (f:Nat->α):(tab f).length=64:=by simp[tab]
theorem QU {α:Type} {f:Nat->α} {k:Nat} (h:k<64):(tab f)[k]? =some (f k):=by
 unfold tab;rw[List.getElem?_map,List.getElem?_range h];rfl
theorem zkm {α:Type} {f g:Nat->α} (h:∀k,k<64->f k=g k):tab f=tab g:=by
 unfold tab;exact List.map_congr_left fun k hk=>h k (List.mem_range.1 hk)
def upd {α:Type} (f:Nat->α) (k:Nat) (x:α):Nat->α:=fun j=>if j=k then x else f j
theorem zeR {α:Type} (f:Nat->α) (k:Nat) (x:α):(tab f).set k x=tab (upd f k x):=by
 apply List.ext_getElem?
 intro j
 by_cases hj:j<64
 ·rw[QU hj];unfold upd
  by_cases e:j=k
  ·subst e;rw[sF (by rw[Qb];exact hj),if_pos rfl]
  rw[sN (fun h=>e h.symm),QU hj,if_neg e]
 rw[gN (by simp[tab];omega),gN (by simp[tab];omega)]
def zy (l:List On):List Value:=l.flatMap onv
theorem zg3 (l:List On):(zy l).length=l.length*6:=qD l (fun _ _=>rfl)
theorem zhH (x:On):∀u∈onv x,u.oneCell'=true:=fun u hu=>by
 simp only[onv,mC,nM,or_false]at hu
 rcases hu with rfl|rfl|rfl|rfl|rfl|rfl <;> rfl
theorem Jn (l:List On):∀v∈zy l,v.oneCell'=true:=qV zhH l
def QO:Elt Fr where
 enc:=frv
 k:=13
 ty:=53
 st:=26
 bytes:=40
 zv:=frz
 zero:=fr0
 len:=QA
 one:=zff
 und:=underlying26
 info:=zlI
 zok:=zid
 few:=by decide
 pos:=by decide
def cav (c:Ca):List Value:=[.int .i64 c.file,.int .i64 c.idx,.int .i64 c.fr]
theorem zlW:(Tryz.prog.info? 120).map (fun i=>(i.zero,i.size,i.bytes))=some (some (.agg #[.int .i64 0,.int .i64 0,.int .i64 0]),3,24):=by kernel_rfl
def qX:Elt Ca where
 enc:=cav
 k:=3
 ty:=120
 st:=38
 bytes:=24
 zv:= .agg #[.int .i64 0,.int .i64 0,.int .i64 0]
 zero:=⟨0,0,0⟩
 len:=fun _=>rfl
 one:=fun a u hu=>by
  simp only[cav,mC,nM,or_false]at hu
  rcases hu with rfl|rfl|rfl <;> rfl
 und:=underlying38
 info:=zlW
 zok:=rfl
 few:=by decide
 pos:=by decide
def zk2 (W:World) (y:Addr) (c:Ca):Prop:=W.cell? y=some (.int .i64 c.file)/\W.cell? { block:=y.block,off:=y.off+1 }=some (.int .i64 c.idx)/\W.cell? { block:=y.block,off:=y.off+2 }=some (.int .i64 c.fr)
def zbW (w:World) (a:Option Addr) (l:List Ca):Prop:=∀(j:Nat) c,l[j]? =some c->∃ad,a=some ad/\∀W,zc w W->zk2 W (ad.add (j*3)) c
theorem zr.cas {w:World} {v:Value} {l:List Ca} (h:zr qX w v l):∃a c,v= .slice a l.length c/\zbW w a l:=by
 obtain⟨a,c,h1,h2⟩:=h.rows;refine⟨a,c,h1,fun j x hj=>?_⟩
 obtain⟨ad,h3,h4⟩:=h2 j x hj;exact⟨ad,h3,fun W hW=>⟨h4 W hW 0 _ rfl,h4 W hW 1 _ rfl,h4 W hW 2 _ rfl⟩⟩
structure Sli where
 a:Option Addr
 n:Nat
 c:Nat
def Sli.v (s:Sli):Value:= .slice s.a s.n s.c
def zu:Sli:=⟨none,0,0⟩
theorem zr.n {α:Type} {E:Elt α} {w:World} {a:Option Addr} {n c:Nat} {l:List α} (h:zr E w (.slice a n c) l):n=l.length:=by
 obtain⟨_,_,h1,_⟩:=h.rows;cases h1;rfl
theorem zb.n {α:Type} {E:Elt α} {w:World} {a:Option Addr} {n c:Nat} {l:List α} (h:zb E b w (.slice a n c) l):n=l.length:=h.at.n
structure SpV where
 live:Bool
 ar:Sli
 (t0 t1 t2 t3 t4 t5 t6 t7:Sli)
def SpV.tab (x:SpV):List Value:=[x.t0.v,x.t1.v,x.t2.v,x.t3.v,x.t4.v,x.t5.v,x.t6.v,x.t7.v]
def spv (x:SpV):List Value:=[.bool x.live,x.ar.v,x.t0.v,x.t1.v,x.t2.v,x.t3.v,x.t4.v,x.t5.v,x.t6.v,x.t7.v]
def spz:Value:= .agg #[.bool false,.slice none 0 0,.slice none 0 0,.slice none 0 0,.slice none 0 0,.slice none 0 0,.slice none 0 0,.slice none 0 0,.slice none 0 0,.slice none 0 0]
theorem zlX:(Tryz.prog.info? 63).map (fun i=>(i.zero,i.size,i.bytes))=some (some spz,10,224):=by kernel_rfl
def Zx:Elt SpV where
 enc:=spv
 k:=10
 ty:=63
 st:=39
 bytes:=224
 zv:=spz
 zero:=⟨false,zu,zu,zu,zu,zu,zu,zu,zu,zu⟩
 len:=fun _=>rfl
 one:=fun a u hu=>by
  simp only[spv,mC,nM,or_false]at hu
  rcases hu with rfl|rfl|rfl|rfl|rfl|rfl|rfl|rfl|rfl|rfl <;> rfl
 und:=underlying39
 info:=zlX
 zok:=rfl
 few:=by decide
 pos:=by decide
structure jw (w:World) (x:SpV) (s:Sp):Prop where
 live:x.live=s.live
 ar:zr arE w (.slice x.ar.a x.ar.n x.ar.c) s.ars
 cap:x.ar.n<=x.ar.c
 tb:Jt w x.tab s.tb
theorem jw.grew {w:World} {x:SpV} {s:Sp} (h:jw w x s) (k:zc w w'):jw w' x s:=⟨h.live,h.ar.grew k,h.cap,h.tb.grew k⟩
def QD (w:World) (v:Value) (ss:List Sp):Prop:=∃xs:List SpV,zr Zx w v xs/\xs.length=ss.length/\∀(i:Nat) x s,xs[i]? =some x->ss[i]? =some s->jw w x s
theorem QD.grew {w:World} {v:Value} {ss:List Sp} (h:QD w v ss) (k:zc w w'):QD w' v ss:=by
 obtain⟨xs,h1,h2,h3⟩:=h;exact⟨xs,h1.grew k,h2,fun i x s hx hs=>(h3 i x s hx hs).grew k⟩
structure MaV where
 (f s sb sq db dq fl ca sp:Sli)
structure zD (w:World) (V:MaV) (m:Ma):Prop where
 fs:zr QO w (.slice V.f.a V.f.n V.f.c) m.fs
 sl:zr slE w (.slice V.s.a V.s.n V.s.c) m.sl
 sb:qK w (.slice V.sb.a V.sb.n V.sb.c) m.sb
 sq:qE w (.slice V.sq.a V.sq.n V.sq.c) m.sq
 db:qK w (.slice V.db.a V.db.n V.db.c) m.db
 dq:qE w (.slice V.dq.a V.dq.n V.dq.c) m.dq
 fl:qd w (.slice V.fl.a V.fl.n V.fl.c) m.fl
 ca:zr qX w (.slice V.ca.a V.ca.n V.ca.c) m.ca
 sp:QD w (.slice V.sp.a V.sp.n V.sp.c) m.sp
theorem zD.grew {w:World} {V:MaV} (h:zD w V m) (k:zc w w'):zD w' V m:=⟨h.fs.grew k,h.sl.grew k,h.sb.grew k,h.sq.grew k,h.db.grew k,h.dq.grew k,qW.grew h.fl k,h.ca.grew k,h.sp.grew k⟩
theorem qK.n {w:World} {a:Option Addr} {n c:Nat} {l:List (List Int)} (h:qK w (.slice a n c) l):n=l.length:=by
 obtain⟨⟨_,_,h1,_⟩,_⟩:=h;cases h1;rfl
theorem qE.n {w:World} {a:Option Addr} {n c:Nat} {l:List (Int × List Int)} (h:qE w (.slice a n c) l):n=l.length:=by
 obtain⟨⟨_,_,h1,_⟩,_⟩:=h;cases h1;rfl
theorem qd.n {w:World} {a:Option Addr} {n c:Nat} {l:List Fl} (h:qd w (.slice a n c) l):n=l.length:=by
 obtain⟨_,xs,k1,k2,_⟩:=h;rw[k1.now.n,k2]
theorem QD.n {w:World} {a:Option Addr} {n c:Nat} {l:List Sp} (h:QD w (.slice a n c) l):n=l.length:=by
 obtain⟨xs,k1,k2,_⟩:=h;rw[k1.n,k2]
theorem zD.ns {w:World} {V:MaV} (h:zD w V m):V.f.n=m.fs.length/\V.s.n=m.sl.length/\V.sb.n=m.sb.length/\V.sq.n=m.sq.length/\V.db.n=m.db.length/\V.dq.n=m.dq.length/\V.fl.n=m.fl.length/\V.ca.n=m.ca.length/\V.sp.n=m.sp.length:=
 ⟨h.fs.n,h.sl.n,h.sb.n,h.sq.n,h.db.n,h.dq.n,qd.n h.fl,h.ca.n,h.sp.n⟩
theorem zr.rowsAt {α:Type} {E:Elt α} {w:World} {a:Option Addr} {n c:Nat} {l:List α} (h:zr E w (.slice a n c) l):zki E w a l:=by
 obtain⟨_,_,h1,h2⟩:=h.rows;cases h1;exact h2
theorem zD.frs {w:World} {V:MaV} (h:zD w V m):zae w V.f.a m.fs:=fun j x hj=>by
 obtain⟨ad,h3,h4⟩:=h.fs.rowsAt j x hj;exact⟨ad,h3,fun W hW=>(h4 W hW).fr⟩
theorem zD.cas {w:World} {V:MaV} (h:zD w V m):zbW w V.ca.a m.ca:=by
 obtain⟨_,_,h1,h2⟩:=h.ca.cas;simp only[vJ]at h1;rw[h1.1];exact h2
theorem zD.sls {w:World} {V:MaV} (h:zD w V m):zcD w V.s.a m.sl:=by
 obtain⟨_,_,h1,h2⟩:=h.sl.sls;simp only[vJ]at h1;rw[h1.1];exact h2
theorem zD.pgs {w:World} {V:MaV} (h:zD w V m):zdp w V.db.a m.db:=by
 obtain⟨_,_,h1,h2⟩:=h.db.rows;simp only[vJ]at h1;rw[h1.1];exact h2
theorem zD.puts {w:World} {V:MaV} (h:zD w V m):JQ w V.dq.a m.dq:=by
 obtain⟨_,_,h1,h2⟩:=h.dq.rows;simp only[vJ]at h1;rw[h1.1];exact h2
theorem zfo (v:Value) (fs:List Ca) (w:World) (hv:zr qX w v fs):
  Calls prog 62 #[v] w fun e w'=>∃v',e= .returned v'/\zb qX w.heap.size w' v' fs/\zc w w':=by
 have HV:Hid (zr qX w v fs):=hv;obtain⟨⟨a,c,rfl,hnone,hcells⟩,hbytes⟩:=hv;have q22:∀(w:World) (a:Option Addr) (n c n' c':Nat),(binOp .eql 38 (.slice a n c) (.slice none n' c')).run prog w= .ok (.bool a.isNone) w:=fun w a n c n' c'=>Lib.run_eql_slice_nil w _ _ a n c n' c' underlying38
 cases a with
 | none=>
  have hps:=hnone rfl;subst hps;clear hcells hnone hbytes
  go_enter func62,ntmps62
  go_wp2;go_ret;exact⟨_,rfl,zb.nil _ _ _,zc.refl w⟩
 | some x=>
  have HB:Hid (fs.length*24<=140737488355328):=hbytes;clear hcells hnone hbytes
  go_enter func62,ntmps62
  go_wp2_with (at_builtin;refine zB (E:=qX) rfl (.tmp 5) (.tmp 6) rfl w.heap.size _ [] rfl (zb.made qX w) _ fs rfl (HV.out.grew (za _ _)) ?qb (by simp) ?_)
  case qb=>rw[List.length_nil,zA];exact HB.out
  intro v' w1 hown hgrow;go_wp2;go_ret;exact⟨v',rfl,by simpa using hown,((bR _ w).alloc (nR _) _).grown hgrow (by simp) (by intro k hk;simp[Value.ownBlock]at hk;omega)⟩
theorem zfn (v:Value) (fs:List SpV) (w:World) (hv:zr Zx w v fs):
  Calls prog 101 #[v] w fun e w'=>∃v',e= .returned v'/\zb Zx w.heap.size w' v' fs/\zc w w':=by
 have HV:Hid (zr Zx w v fs):=hv;obtain⟨⟨a,c,rfl,hnone,hcells⟩,hbytes⟩:=hv;have q22:∀(w:World) (a:Option Addr) (n c n' c':Nat),(binOp .eql 39 (.slice a n c) (.slice none n' c')).run prog w= .ok (.bool a.isNone) w:=fun w a n c n' c'=>Lib.run_eql_slice_nil w _ _ a n c n' c' underlying39
 cases a with
 | none=>
  have hps:=hnone rfl;subst hps;clear hcells hnone hbytes
  go_enter func101,ntmps101
  go_wp2;go_ret;exact⟨_,rfl,zb.nil _ _ _,zc.refl w⟩
 | some x=>
  have HB:Hid (fs.length*224<=140737488355328):=hbytes;clear hcells hnone hbytes
  go_enter func101,ntmps101
  go_wp2_with (at_builtin;refine zB (E:=Zx) rfl (.tmp 5) (.tmp 6) rfl w.heap.size _ [] rfl (zb.made Zx w) _ fs rfl (HV.out.grew (za _ _)) ?qb (by simp) ?_)
  case qb=>rw[List.length_nil,zA];exact HB.out
  intro v' w1 hown hgrow;go_wp2;go_ret;exact⟨v',rfl,by simpa using hown,((bR _ w).alloc (nR _) _).grown hgrow (by simp) (by intro k hk;simp[Value.ownBlock]at hk;omega)⟩
theorem zfp (v:Value) (fs:List Ar) (w:World) (hv:zr arE w v fs):
  Calls prog 68 #[v] w fun e w'=>∃v',e= .returned v'/\zb arE w.heap.size w' v' fs/\zc w w':=by
 have HV:Hid (zr arE w v fs):=hv;obtain⟨⟨a,c,rfl,hnone,hcells⟩,hbytes⟩:=hv;have q22:∀(w:World) (a:Option Addr) (n c n' c':Nat),(binOp .eql 58 (.slice a n c) (.slice none n' c')).run prog w= .ok (.bool a.isNone) w:=fun w a n c n' c'=>Lib.run_eql_slice_nil w _ _ a n c n' c' underlying58
 cases a with
 | none=>
  have hps:=hnone rfl;subst hps;clear hcells hnone hbytes
  go_enter func68,ntmps68
  go_wp2;go_ret;exact⟨_,rfl,zb.nil _ _ _,zc.refl w⟩
 | some x=>
  have HB:Hid (fs.length*40<=140737488355328):=hbytes;clear hcells hnone hbytes
  go_enter func68,ntmps68
  go_wp2_with (at_builtin;refine zB (E:=arE) rfl (.tmp 5) (.tmp 6) rfl w.heap.size _ [] rfl (zb.made arE w) _ fs rfl (HV.out.grew (za _ _)) ?qb (by simp) ?_)
  case qb=>rw[List.length_nil,zA];exact HB.out
  intro v' w1 hown hgrow;go_wp2;go_ret;exact⟨v',rfl,by simpa using hown,((bR _ w).alloc (nR _) _).grown hgrow (by simp) (by intro k hk;simp[Value.ownBlock]at hk;omega)⟩
end
section
def ziK (f:Fr):Prop:=0<=f.r/\(0<=f.x/\f.x<12)/\(f.f=-1\/(0<=f.f/\f.f<5))/\(f.r=0->f=frF)/\(f.f=-1->f.x=0)
theorem zie {f:Fr} (h:ziK f) (hr:f.r<=1000):frW f=0:=by
 obtain⟨h1,h2,h3,h4,h5⟩:=h;unfold frW;have e1:inB f.r 1001=true:=by simp[inB];omega
 have e2:inB f.x 12=true:=by simp[inB];omega
 rw[e1,e2,if_neg (by decide)]
 have e3:(!(f.f == -1) && !inB f.f 5)=false:=by
  rcases h3 with h|h
  ·simp[h]
  have:inB f.f 5=true:=by simp[inB];omega
  simp[this]
 rw[e3,if_neg (by decide)]
 have e4:(f.r == 0 && !JN f frF)=false:=by
  by_cases h0:f.r=0
  ·rw[(zbE f frF).2 (h4 h0)];simp
  simp[h0]
 have e5:(f.f == -1 && !(f.x == 0))=false:=by
  by_cases h0:f.f=-1
  ·simp[h5 h0]
  simp[h0]
 rw[e4,e5];rfl
theorem J9:∀{l:List Fr},zcc l=0↔∀f∈l,frW f=0
 | []=>by simp[zcc]
 | f :: l=>by
  unfold zcc
  by_cases h:frW f=0
  ·rw[if_pos h,J9]
   simp[h]
  rw[if_neg h]
  simp[h]
def zaD (m:Ma) (x:On) (e:En):Prop:=enW e=0/\e.kind≠0/\zcd m x e=0
structure qO (m:Ma) (T:List (Nat->En)):Prop where
 fs40:m.fs.length<=40
 fok:∀f∈m.fs,ziK f
 sl60:m.sl.length<=60
 sbl:m.sb.length=m.sl.length
 sq:zF m.sb.length m.sq=0
 dok:zF m.db.length m.dq=0
 st:stW m.fl m.cnt=0
 cnt:m.cnt=(m.db.length:Int)
 blk:∀b:Nat,b<m.db.length->zT m.fl (b:Int)=false->m.db[b]? =some zz
 que:∀q∈m.dq,zT m.fl q.1=true
 spl:m.sp.length<=4
 spok:∀s∈m.sp,(wrL s.ars).1=0/\(s.live=false->s.ars=[])
 tl:T.length=m.sp.length
 ca:zaT m none m.ca=0
 ent:∀(p:Nat) s f,m.sp[p]? =some s->T[p]? =some f->∀n:Nat,n<64->f n=en0\/zaD m (zG s.ars n) (f n)
 cf:∀(k:Nat) f,m.fs[k]? =some f->f.r=((jf T 1 k+qm m.ca k:Nat):Int)/\(0<=f.f->qm m.ca k≠0)
 cs:∀(k:Nat) z,m.sl[k]? =some z->z=(jf T 2 k:Int)
theorem zO {m:Ma}:∀{l:List Ca} {p:Option Ca},zaT m p l=0↔(∀c∈l,caE m none c=0)/\(∀q c,p=some q->c∈l->jJ q<jJ c)/\l.Pairwise (fun a b=>jJ a<jJ b)
 | [],p=>by simp[zaT]
 | c :: l,p=>by
  unfold zaT;have hc:caE m p c=0↔caE m none c=0/\∀q,p=some q->jJ q<jJ c:=by
   unfold caE
   by_cases h1:c.file<0\/(m.fl.length:Int)<=c.file\/c.idx<0\/bkN m c.file<=c.idx\/c.fr<0\/(m.fs.length:Int)<=c.fr
   ·rw[if_pos h1,if_pos h1];simp
   rw[if_neg h1,if_neg h1]
   by_cases h2:(zV m c.fr).r=0\/(zV m c.fr).f≠c.file\/(zV m c.fr).x≠c.idx
   ·rw[if_pos h2,if_pos h2];simp
   rw[if_neg h2,if_neg h2]
   cases p with
   | none=>simp
   | some q=>
    simp only[Option.some.injEq,forall_eq',true_and]
    by_cases h3:jJ c<=jJ q
    ·rw[if_pos h3];constructor
     ·intro h;cases h
     intro h;omega
    rw[if_neg h3];simp;omega
  by_cases h:caE m p c=0
  ·rw[if_pos h,zO];obtain⟨g1,g2⟩:=hc.1 h;constructor
   ·rintro⟨a1,a2,a3⟩;refine⟨?_,?_,?_⟩
    ·intro x hx
     rcases mC.1 hx with rfl|hx
     ·exact g1
     exact a1 x hx
    ·intro q x hq hx
     rcases mC.1 hx with rfl|hx
     ·exact g2 q hq
     have:=g2 q hq;have:=a2 c x rfl hx;omega
    exact List.pairwise_cons.2 ⟨fun x hx=>a2 c x rfl hx,a3⟩
   rintro⟨a1,a2,a3⟩;obtain⟨b1,b2⟩:=List.pairwise_cons.1 a3;exact⟨fun x hx=>a1 x (by simp[hx]),fun q x hq hx=>by cases hq;exact b1 x hx,b2⟩
  rw[if_neg h];constructor
  ·intro h';exact absurd h' h
  rintro⟨a1,a2,a3⟩;exact absurd (hc.2 ⟨a1 c (by simp),fun q hq=>a2 q c hq (by simp)⟩) h
theorem Jy {c:Ca} (h:caE m none c=0):(0<=c.file/\c.file<m.fl.length/\0<=c.idx/\c.idx<bkN m c.file/\0<=c.fr/\c.fr<m.fs.length)/\(zV m c.fr).r≠0/\(zV m c.fr).f=c.file/\(zV m c.fr).x=c.idx:=by
 unfold caE at h
 split at h
 ·cases h
 split at h
 ·cases h
 rename_i h1 h2
 refine⟨by omega,fun h=>h2 (.inl h),?_,?_⟩
 ·exact Classical.byContradiction fun h=>h2 (.inr (.inl h))
 exact Classical.byContradiction fun h=>h2 (.inr (.inr h))
theorem zaJ {c:Ca} (h1:0<=c.file/\c.file<m.fl.length/\0<=c.idx/\c.idx<bkN m c.file/\0<=c.fr/\c.fr<m.fs.length) (h2:(zV m c.fr).r≠0) (h3:(zV m c.fr).f=c.file) (h4:(zV m c.fr).x=c.idx):caE m none c=0:=by
 unfold caE;rw[if_neg (by omega),if_neg (by rintro(h | h | h);exact h2 h;exact h h3;exact h h4)]
theorem zg5 (h:zaT m none m.ca=0) (k:Int):qm m.ca k<=1:=by
 obtain⟨h1,_,h3⟩:=zO.1 h;have key:∀(l:List Ca),(∀c∈l,caE m none c=0)->l.Pairwise (fun a b=>jJ a<jJ b)->qm l k<=1:=by
  intro l
  induction l with
  | nil=>intro _ _;simp[qm]
  | cons c l ih=>
   intro a1 a2;obtain⟨b1,b2⟩:=List.pairwise_cons.1 a2;have ih':=ih (fun x hx=>a1 x (by simp[hx])) b2
   unfold qm at ih'⊢;rw[List.countP_cons]
   by_cases hc:c.fr=k
   ·have:l.countP (fun c=>decide (c.fr=k))=0:=by
     rw[List.countP_eq_zero];intro x hx hxk;have hxk':x.fr=k:=by simpa using hxk
     have e1:=Jy (a1 c (by simp))
     have e2:=Jy (a1 x (by simp[hx]))
     have hl:=b1 x hx;rw[hc]at e1;rw[hxk']at e2;unfold jJ at hl;have:=e1.2.2.1;have:=e1.2.2.2;have:=e2.2.2.1;have:=e2.2.2.2;omega
    rw[this]
    simp[hc]
   simp[hc]
   exact ih'
 exact key m.ca h1 h3
theorem zaw {ca:List Ca} {c:Ca} (h:c∈ca):qm ca c.fr≠0:=by
 unfold qm;intro h0;rw[List.countP_eq_zero]at h0;exact h0 c h (by simp)
def Ze (f:Nat->En):List (List En):=Zd ((List.range 64).map f)
def jI (m:Ma) (T:List (Nat->En)) (h:Int):Ma:={ m with hand:=h,sp:=List.zipWith (fun s f=>{ s with tb:=Ze f }) m.sp T }
theorem zfA {f:Nat->En} (h:∀n,n<64->enW (f n)=0) {n:Nat} (hn:n<64):zeF (Ze f) (n / 8) (n % 8)=f n:=by
 unfold Ze zeF Zd;rw[List.getElem?_map,List.getElem?_range (by omega)]
 simp only[Option.map_some,Option.getD_some];have hc:∀e∈ZP ((List.range 64).map f) (n / 8),enW e=0:=by
  intro e he;unfold ZP at he;obtain⟨k,hk,rfl⟩:=List.mem_map.1 he;rw[List.mem_range]at hk;rw[List.getElem?_map,List.getElem?_range (by omega)]
  exact h _ (by omega)
 rw[zll _ hc];unfold ZP;rw[List.getElem?_map,List.getElem?_range (by omega)]
 simp only[Option.map_some,Option.getD_some];rw[List.getElem?_map,List.getElem?_range (by omega)]
 simp only[Option.map_some,Option.getD_some]
 congr 1
 omega
theorem zi0 {f:Nat->En} (h:∀n,n<64->enW (f n)=0):tbW (Ze f)=0:=by
 rw[J0];intro x hx;unfold Ze Zd at hx;obtain⟨i,hi,rfl⟩:=List.mem_map.1 hx;rw[List.mem_range]at hi;refine zly (by simp[ZP]) ?_
 intro e he;unfold ZP at he;obtain⟨k,hk,rfl⟩:=List.mem_map.1 he;rw[List.mem_range]at hk;rw[List.getElem?_map,List.getElem?_range (by omega)]
 exact h _ (by omega)
theorem zeS {f:Nat->En} (h:∀n,n<64->f n=en0):(Ze f).all (·.isEmpty)=true:=by
 rw[List.all_eq_true];intro x hx;unfold Ze Zd at hx;obtain⟨i,hi,rfl⟩:=List.mem_map.1 hx;rw[List.mem_range]at hi;have:zbS (ZP ((List.range 64).map f) i)=false:=by
  unfold zbS;rw[List.any_eq_false];intro e he;unfold ZP at he;obtain⟨k,hk,rfl⟩:=List.mem_map.1 he;rw[List.mem_range]at hk;rw[List.getElem?_map,List.getElem?_range (by omega)]
  simp only[Option.map_some,Option.getD_some];rw[h _ (by omega)]
  decide
 unfold mk;rw[if_neg (by rw[this];decide)]
 rfl
theorem zeq {f g:Nat->En} (kind k:Int):∀{m:Nat},(∀n,n<m->f n=g n)->QC f kind k m=QC g kind k m
 | 0,_=>rfl
 | m+1,h=>by
  unfold QC;rw[zeq kind k (fun n hn=>h n (by omega)),h m (by omega)]
section
variable{m:Ma} {T:List (Nat->En)}
theorem qO.en (h:qO m T) {p:Nat} {f:Nat->En} (hT:T[p]? =some f) {n:Nat} (hn:n<64):enW (f n)=0:=by
 have hp:p<m.sp.length:=by rw[<-h.tl];exact(gS.1 hT).1
 rcases h.ent p _ f (gE hp) hT n hn with h1|h1
 ·rw[h1];exact zkL
 exact h1.1
theorem zkc (h:qO m T) (hd:Int) {p:Nat} {s:Sp} (hs:(jI m T hd).sp[p]? =some s):∃s0 f,m.sp[p]? =some s0/\T[p]? =some f/\s={ s0 with tb:=Ze f }:=by
 unfold jI at hs;simp only[List.getElem?_zipWith]at hs;have hp:p<m.sp.length:=by
  rcases Nat.lt_or_ge p m.sp.length with h1|h1
  ·exact h1
  rw[gN h1]at hs;cases hs
 have hq:p<T.length:=by rw[h.tl];exact hp
 rw[gE hp,gE hq]at hs;simp only[Option.some.injEq]at hs;exact⟨_,_,gE hp,gE hq,hs.symm⟩
theorem zfX (h:qO m T) (hd:Int) (kind k:Int):zbz (jI m T hd) kind k=jf T kind k:=by
 have key:∀(S:List Sp) (T:List (Nat->En)),T.length=S.length->(∀(p:Nat) f,T[p]? =some f->∀n,n<64->enW (f n)=0)->jf ((List.zipWith (fun s f=>({ s with tb:=Ze f }:Sp)) S T).map zN) kind k=jf T kind k:=by
  intro S
  induction S with
  | nil=>intro T hl _;rw[List.length_eq_zero_iff.1 hl];rfl
  | cons s S ih=>
   intro T hl he
   cases T with
   | nil=>simp at hl
   | cons f T=>
    have h1:=ih T (by simpa using hl) (fun p g hg=>he (p+1) g (by simpa using hg))
    have h2:QC (zN { s with tb:=Ze f }) kind k 64=QC f kind k 64:=zeq kind k fun n hn=>by
     unfold zN;exact zfA (he 0 f rfl) hn
    simp only[List.zipWith_cons_cons,mP,jf,List.sum_cons]at h1⊢;rw[h1,h2]
 exact key m.sp T h.tl fun p f hf n hn=>h.en hf hn
theorem qO.right (h:qO m T) {hd:Int} (h0:0<=hd) (h1:hd<max (m.fs.length:Int) 1):maW (jI m T hd)=0:=by
 have hT4:T.length<=4:=by rw[h.tl];exact h.spl
 unfold maW;rw[zH];intro e he;simp only[mC,nM,or_false]at he
 rcases he with rfl|rfl|rfl|rfl|rfl
 ·unfold zca;rw[zH];intro e he;simp only[mC,nM,or_false]at he
  rcases he with rfl|rfl|rfl|rfl|rfl|rfl|rfl|rfl|rfl|rfl
  ·show Qn m.fs hd=0
   unfold Qn;have hfs:zcc m.fs=0:=J9.2 fun f hf=>by
    obtain⟨k,hk⟩:=List.getElem?_of_mem hf;refine zie (h.fok f hf) ?_;rw[(h.cf k f hk).1];have:=zbA T 1 k;have:=zg5 h.ca k;omega
   rw[if_neg (by have:=h.fs40;omega),if_pos hfs,if_pos]
   simp[inB]
   omega
  ·show slW m.sl=0
   unfold slW;rw[if_neg (by have:=h.sl60;omega),if_neg]
   rw[List.any_eq_true];rintro⟨z,hz,hb⟩;obtain⟨k,hk⟩:=List.getElem?_of_mem hz;have h2:=h.cs k z hk;have:=zbA T 2 k;unfold zcC at hb
   simp at hb
   omega
  ·exact h.sq
  ·exact h.dok
  ·exact h.st
  ·show zhg m=0
   unfold zhg;rw[if_neg];have:=h.sbl;have:=h.cnt;omega
  ·show Je m=0
   unfold Je;rw[if_neg];rw[List.any_eq_true];rintro⟨b,hb,hx⟩;rw[List.mem_range]at hb;simp only[Bool.and_eq_true,Bool.not_eq_true']at hx;have:=h.blk b hb hx.1;rw[gD,this]at hx
   simp at hx
  ·show QY m=0
   unfold QY;rw[if_neg];rw[List.any_eq_true];rintro⟨q,hq,hx⟩;rw[h.que q hq]at hx;cases hx
  ·have:(jI m T hd).sp.length<=4:=by
    unfold jI;simp;have:=h.spl;omega
   rw[if_neg (by omega)]
  rw[zH];intro e he;obtain⟨s,hs,rfl⟩:=List.mem_map.1 he;obtain⟨p,hp⟩:=List.getElem?_of_mem hs;obtain⟨s0,f,a1,a2,rfl⟩:=zkc h hd hp;have hok:=h.spok s0 (mG a1);unfold spE;simp only;rw[if_neg (fun h=>h hok.1),if_neg (fun h'=>h' (zi0 fun n hn=>h.en a2 hn)),if_neg]
  intro hx;rw[Bool.and_eq_true]at hx;have hlive:s0.live=false:=by simpa using hx.1
  have hars:=hok.2 hlive;have hemp:(Ze f).all (·.isEmpty)=true:=zeS fun n hn=>by
   rcases h.ent p s0 f a1 a2 n hn with e|e
   ·exact e
   have:=e.2.2;unfold zcd at this;rw[hars,if_pos (show(zG [] n).is=false from rfl)]at this
   cases this
  rw[hars,hemp]at hx
  simp at hx
 ·obtain⟨a1,a2,a3⟩:=zO.1 h.ca;exact zO.2 ⟨fun c hc=>a1 c hc,fun q c hq=>(by cases hq),a3⟩
 ·rw[zH];intro e he;obtain⟨s,hs,rfl⟩:=List.mem_map.1 he;obtain⟨p,hp⟩:=List.getElem?_of_mem hs;obtain⟨s0,f,a1,a2,rfl⟩:=zkc h hd hp;unfold zal;rw[zH];intro e he;obtain⟨n,hn,rfl⟩:=List.mem_map.1 he;rw[List.mem_range]at hn;have hf:zN { s0 with tb:=Ze f } n=f n:=by
   unfold zN;exact zfA (fun n hn=>h.en a2 hn) hn
  rw[hf]
  rcases h.ent p s0 f a1 a2 n hn with h2|h2
  ·rw[h2,if_pos (show en0.kind=0 from rfl)]
  rw[if_neg h2.2.1];exact h2.2.2
 ·rw[zH];intro e he;obtain⟨k,hk,rfl⟩:=List.mem_map.1 he;rw[List.mem_range]at hk;have hk':k<m.fs.length:=hk;have hf:=h.cf k _ (gE hk');unfold frE;rw[zfX h hd];have e1:zV (jI m T hd) k=m.fs[k]:=by
   show m.fs.getD (k:Int).toNat frF=_
   rw[tN,gD,gE hk'];rfl
  rw[e1,if_neg];rintro(h2|⟨h2,h3⟩)
  ·exact h2 hf.1
  exact hf.2 h2 h3
 rw[zH];intro e he;obtain⟨k,hk,rfl⟩:=List.mem_map.1 he;rw[List.mem_range]at hk;have hk':k<m.sl.length:=hk;have hs:=h.cs k _ (gE hk');unfold zeU;rw[zfX h hd];have e1:(jI m T hd).sl.getD k 0=m.sl[k]:=by
  show m.sl.getD k 0=_
  rw[gD,gE hk'];rfl
 rw[e1,if_neg (fun h2=>h2 hs)]
def zas (m:Ma):List (Nat->En):=m.sp.map zN
theorem zbh {m:Ma} (h:maW m=0):qO m (zas m)/\0<=m.hand/\m.hand<max (m.fs.length:Int) 1:=by
 unfold maW at h;rw[zH]at h;have h1:zca m=0:=h _ (by simp)
 have h2:zaT m none m.ca=0:=h _ (by simp)
 have h3:=zH.1 (h (zx (m.sp.map (zal m))) (by simp))
 have h4:=zH.1 (h (zx ((List.range m.fs.length).map (frE m))) (by simp))
 have h5:=zH.1 (h (zx ((List.range m.sl.length).map (zeU m))) (by simp))
 unfold zca at h1;rw[zH]at h1;have p1:Qn m.fs m.hand=0:=h1 _ (by simp)
 have p2:slW m.sl=0:=h1 _ (by simp)
 have p3:zF m.sb.length m.sq=0:=h1 _ (by simp)
 have p4:zF m.db.length m.dq=0:=h1 _ (by simp)
 have p5:stW m.fl m.cnt=0:=h1 _ (by simp)
 have p6:zhg m=0:=h1 _ (by simp)
 have p7:Je m=0:=h1 _ (by simp)
 have p8:QY m=0:=h1 _ (by simp)
 have p9:(if 4<m.sp.length then(4:Int)else 0)=0:=h1 _ (by simp)
 have p10:=zH.1 (h1 (zx (m.sp.map spE)) (by simp))
 have m1:m.fs.length<=40/\zcc m.fs=0/\0<=m.hand/\m.hand<max (m.fs.length:Int) 1:=by
  unfold Qn at p1
  split at p1
  ·cases p1
  split at p1
  ·rename_i a b
   split at p1
   ·rename_i c
    unfold inB at c
    simp at c
    exact⟨by omega,b,by omega,by omega⟩
   cases p1
  rename_i a b
  exact absurd p1 b
 have s1:m.sl.length<=60:=by
  unfold slW at p2
  split at p2
  ·cases p2
  omega
 have f1:m.sl.length=m.sb.length/\m.cnt=(m.db.length:Int):=by
  unfold zhg at p6
  split at p6
  ·cases p6
  rename_i a
  constructor
  ·exact Classical.byContradiction fun h=>a (.inl h)
  exact Classical.byContradiction fun h=>a (.inr h)
 refine⟨⟨m1.1,fun f hf=>?_,s1,f1.1.symm,p3,p4,p5,f1.2,fun b hb hu=>?_,fun q hq=>?_,?_,fun s hs=>?_,by simp[zas],h2,fun p s f hs hT n hn=>?_,fun k f hk=>?_,fun k z hk=>?_⟩,m1.2.2.1,m1.2.2.2⟩
 ·have hw:=J9.1 m1.2.1 f hf;unfold frW at hw
  split at hw
  ·cases hw
  rename_i a1
  split at hw
  ·cases hw
  rename_i a2
  split at hw
  ·cases hw
  rename_i a3
  have b1:inB f.r 1001=true/\inB f.x 12=true:=by
   cases e1:inB f.r 1001 <;> cases e2:inB f.x 12 <;> simp[e1,e2]at a1⊢
  have b2:f.f=-1\/inB f.f 5=true:=by
   by_cases e:f.f=-1
   ·exact .inl e
   right
   cases e2:inB f.f 5 with
   | true=>rfl
   | false=>simp[e,e2]at a2
  have b3:(f.r=0->f=frF)/\(f.f=-1->f.x=0):=by
   constructor
   ·intro e
    cases e2:JN f frF with
    | true=>exact(zbE f frF).1 e2
    | false=>simp[e,e2]at a3
   intro e
   by_cases e2:f.x=0
   ·exact e2
   simp[e,e2]at a3
  unfold inB at b1 b2
  simp at b1 b2
  exact⟨by omega,by omega,by omega,b3.1,b3.2⟩
 ·unfold Je at p7
  split at p7
  ·cases p7
  rename_i a
  have:¬(!zT m.fl (b:Int) && !(m.db.getD b [] == zz))=true:=fun h=>a (List.any_eq_true.2 ⟨b,List.mem_range.2 hb,h⟩)
  rw[hu,gD,gE hb]at this;rw[gE hb]
  simp at this
  rw[this]
 ·unfold QY at p8
  split at p8
  ·cases p8
  rename_i a
  cases e:zT m.fl q.1 with
  | true=>rfl
  | false=>exact absurd (List.any_eq_true.2 ⟨q,hq,by simp[e]⟩) a
 ·split at p9
  ·cases p9
  omega
 ·have hs0:=p10 (spE s) (List.mem_map.2 ⟨s,hs,rfl⟩);unfold spE at hs0
  split at hs0
  ·rename_i a;exact absurd hs0 a
  rename_i a
  split at hs0
  ·rename_i b;exact absurd hs0 b
  split at hs0
  ·cases hs0
  rename_i c
  refine⟨by simpa using a,fun hl=>?_⟩
  rw[hl]at c
  cases e:s.ars with
  | nil=>rfl
  | cons x y=>rw[e]at c;simp at c
 ·unfold zas at hT;rw[List.getElem?_map,hs]at hT;cases hT;have hmem:=mG hs;have hs0:=p10 (spE s) (List.mem_map.2 ⟨s,hmem,rfl⟩);have htb:tbW s.tb=0:=by
   unfold spE at hs0
   split at hs0
   ·rename_i a;exact absurd hs0 a
   split at hs0
   ·rename_i b;exact absurd hs0 b
   rename_i b;simpa using b
  have hen:enW (zN s n)=0:=by
   unfold zN zeF;have hall:=J0.1 htb;have:zgb (s.tb[n / 8]?.getD []):=by
    cases e:s.tb[n / 8]? with
    | none=>exact .inl rfl
    | some x=>exact hall x (mG e)
   exact this.get (n % 8)
  have h6:=zH.1 (h3 (zal m s) (List.mem_map.2 ⟨s,hmem,rfl⟩)) _ (List.mem_map.2 ⟨n,List.mem_range.2 hn,rfl⟩)
  by_cases hk:(zN s n).kind=0
  ·left;exact zim hen (by simp[enS,hk])
  right;rw[if_neg hk]at h6;exact⟨hen,hk,h6⟩
 ·have hkl:=(gS.1 hk).1;have:=h4 (frE m k) (List.mem_map.2 ⟨k,List.mem_range.2 hkl,rfl⟩);unfold frE at this;have e1:zV m k=f:=by unfold zV;rw[tN,gD,hk];rfl
  rw[e1]at this
  split at this
  ·cases this
  rename_i a
  refine⟨Classical.byContradiction fun h=>a (.inl h),fun h1 h2=>a (.inr ⟨h1,h2⟩)⟩
 have hkl:=(gS.1 hk).1;have:=h5 (zeU m k) (List.mem_map.2 ⟨k,List.mem_range.2 hkl,rfl⟩);unfold zeU at this;rw[gD,hk]at this
 split at this
 ·cases this
 rename_i a
 exact Classical.byContradiction fun h=>a h
end
section
variable{m:Ma} {T:List (Nat->En)}
theorem ZI {m:Ma} {k:Nat} {f:Fr} (h:m.fs[k]? =some f):zV m (k:Int)=f:=by
 unfold zV;rw[tN,gD,h];rfl
theorem ji {m:Ma} {k:Nat} {f:Fr} (hk:k<m.fs.length) (z:Int) (hz:0<=z):zV { m with fs:=m.fs.set k f } z=if z=(k:Int)then f else zV m z:=by
 unfold zV;simp only[gD]
 by_cases e:z=(k:Int)
 ·subst e;rw[if_pos rfl,tN,sF hk];rfl
 rw[if_neg e,sN (by omega)]
theorem j8 {m:Ma} {x:On} {e:En} (h:zcd m x e=0) (hs:m'.sl.length=m.sl.length) (hf:m'.fs.length=m.fs.length) (h1:e.kind≠2->(zV m' e.n).f=(zV m e.n).f/\(zV m' e.n).x=(zV m e.n).x/\(e.wr=true->(zV m e.n).f=-1->(zV m' e.n).r<=1)):zcd m' x e=0:=by
 unfold zcd at h⊢;rw[hs,hf]
 by_cases h0:x.is=false
 ·rw[if_pos h0]at h;cases h
 rw[if_neg h0]at h⊢
 by_cases h2:e.kind=2
 ·rw[if_pos h2]at h⊢;exact h
 rw[if_neg h2]at h⊢;obtain⟨g1,g2,g3⟩:=h1 h2
 by_cases h3:(m.fs.length:Int)<=e.n
 ·rw[if_pos h3]at h;cases h
 rw[if_neg h3]at h⊢;rw[g1,g2]
 split at h
 ·cases h
 rename_i hn
 rw[if_neg];rintro(h4|h4|h4|h4|h4)
 ·exact hn (.inl h4)
 ·exact hn (.inr (.inl h4))
 ·exact hn (.inr (.inr (.inl h4)))
 ·exact hn (.inr (.inr (.inr (.inl h4))))
 have:=g3 h4.1 h4.2.1;omega
theorem qk {m:Ma} {x:On} {e:En} (h:zaD m x e) (hk:e.kind≠2):e.kind=1/\0<=e.n/\e.n<m.fs.length/\(e.wr=true->(zV m e.n).f=-1->(zV m e.n).r<=1):=by
 obtain⟨h1,h2,h3⟩:=h;obtain⟨a1,a2,_⟩:=zab h1;unfold zcd at h3
 by_cases h0:x.is=false
 ·rw[if_pos h0]at h3;cases h3
 rw[if_neg h0,if_neg hk]at h3
 by_cases h4:(m.fs.length:Int)<=e.n
 ·rw[if_pos h4]at h3;cases h3
 rw[if_neg h4]at h3
 split at h3
 ·cases h3
 rename_i hn
 refine⟨by omega,by omega,by omega,fun g1 g2=>?_⟩
 have:¬1< (zV m e.n).r:=fun h=>hn (.inr (.inr (.inr (.inr ⟨g1,g2,h⟩))))
 omega
theorem zdg {T:List (Nat->En)} {p:Nat} {f:Nat->En} (hT:T[p]? =some f) {n:Nat} (hn:n<64) (hk:(f n).kind=1):1<=jf T 1 (f n).n:=zde hT hn (by simp[isE,hk]) (by decide)
theorem qO.free (h:qO m T) {f:Fr} (hf:m.fs[j]? =some f) (h0:f.r=0):jf T 1 j=0/\qm m.ca j=0:=by
 have:=(h.cf j f hf).1;rw[h0]at this;omega
def Zg (ca:List Ca) (c:Ca):List Ca:=ca.takeWhile (fun d=>decide (jJ d<jJ c))++c :: ca.dropWhile (fun d=>decide (jJ d<jJ c))
theorem zgI (ca:List Ca) (c:Ca) (k:Int):qm (Zg ca c) k=qm ca k+(if c.fr=k then 1 else 0):=by
 unfold Zg qm;have h:=List.takeWhile_append_dropWhile (p:=fun d=>decide (jJ d<jJ c)) (l:=ca)
 rw[List.countP_append,List.countP_cons]
 conv=>rhs;rw[<-h,List.countP_append]
 by_cases e:c.fr=k
 ·simp[e];omega
 simp[e]
theorem zh2 {ca:List Ca} {c d:Ca} (h:d∈Zg ca c):d=c\/d∈ca:=by
 unfold Zg at h;rw[List.mem_append,mC]at h
 rcases h with h|h|h
 ·exact .inr ((List.takeWhile_sublist _).subset h)
 ·exact .inl h
 exact .inr ((List.dropWhile_sublist _).subset h)
theorem zcs {c:Ca}:∀{ca:List Ca},ca.Pairwise (fun a b=>jJ a<jJ b)->(∀d∈ca,jJ d≠jJ c)->(Zg ca c).Pairwise (fun a b=>jJ a<jJ b)
 | [],_,_=>by simp[Zg]
 | d :: ca,h,hne=>by
  obtain⟨h1,h2⟩:=List.pairwise_cons.1 h
  by_cases hd:jJ d<jJ c
  ·have e:Zg (d :: ca) c=d :: Zg ca c:=by
    unfold Zg;rw[List.takeWhile_cons,List.dropWhile_cons,if_pos (by simpa using hd),if_pos (by simpa using hd)]
    rfl
   rw[e];refine List.pairwise_cons.2 ⟨fun x hx=>?_,zcs h2 fun x hx=>hne x (by simp[hx])⟩
   rcases zh2 hx with rfl|hx
   ·exact hd
   exact h1 x hx
  have e:Zg (d :: ca) c=c :: d :: ca:=by
   unfold Zg;rw[List.takeWhile_cons,List.dropWhile_cons,if_neg (by simpa using hd),if_neg (by simpa using hd)]
   rfl
  rw[e];have:=hne d (by simp)
  refine List.pairwise_cons.2 ⟨fun x hx=>?_,h⟩
  rcases mC.1 hx with rfl|hx
  ·omega
  have:=h1 x hx;omega
theorem qO.pages (h:qO m T) {file:Int} (h0:0<=file) (h1:file<m.fl.length):bkN m file<=12/\file<5:=by
 obtain⟨⟨a1,a2,a3⟩,a4,a5⟩:=(qg m.fl m.cnt).1 h.st;have hlt:file.toNat<m.fl.length:=by omega
 have hok:=a4 _ (List.getElem_mem hlt);unfold bkN;rw[gD,gE hlt];simp only[Option.getD_some];obtain⟨b1,b2,b3⟩:=hok;unfold Jr at b2
 split at b2 <;> omega
theorem qO.cache (h:qO m T) {f0:Fr} {p:Pg} {u d:Bool} {file idx:Int} (hj:m.fs[j]? =some f0) (h0:f0.r=0) (hf:0<=file/\file<m.fl.length) (hi:0<=idx/\idx<bkN m file) (hn:∀c∈m.ca,¬(c.file=file/\c.idx=idx)):
  qO { m with fs:=m.fs.set j ⟨p,1,u,d,file,idx⟩,ca:=Zg m.ca ⟨file,idx,j⟩ } T:=by
 have hjl:=(gS.1 hj).1;obtain⟨z1,z2⟩:=h.free hj h0;obtain⟨g1,g2⟩:=h.pages hf.1 hf.2;obtain⟨a1,a2,a3⟩:=zO.1 h.ca;have hcj:∀c∈m.ca,c.fr≠(j:Int):=fun c hc e=>by
  have:=zaw hc;rw[e]at this;exact this z2
 have hkey:∀c∈m.ca,jJ c≠jJ ⟨file,idx,j⟩:=fun c hc e=>by
  have h1:=(Jy (a1 c hc)).1;have h2:=h.pages h1.1 h1.2.1;have:=hn c hc;unfold jJ at e;simp only at e;omega
 refine⟨by simpa using h.fs40,fun f hf'=>?_,h.sl60,h.sbl,h.sq,h.dok,h.st,h.cnt,h.blk,h.que,h.spl,h.spok,h.tl,?_,fun q s f hs hT n hn'=>?_,fun k f hk=>?_,h.cs⟩
 ·rcases List.mem_or_eq_of_mem_set hf' with hf' | rfl
  ·exact h.fok f hf'
  refine⟨by simp,by simp only;omega,.inr (by simp only;omega),fun h=>by simp at h,fun h=>by simp only at h;omega⟩
 ·refine zO.2 ⟨fun c hc=>?_,fun q c hq=>(by cases hq),zcs a3 hkey⟩
  rcases zh2 hc with rfl|hc
  ·refine zaJ ⟨hf.1,hf.2,hi.1,hi.2,by simp,by simpa using hjl⟩ ?_ ?_ ?_ <;> rw[show zV { m with fs:=m.fs.set j ⟨p,1,u,d,file,idx⟩,ca:=Zg m.ca ⟨file,idx,j⟩ } (⟨file,idx,(j:Int)⟩:Ca).fr=⟨p,1,u,d,file,idx⟩from by rw[show zV { m with fs:=m.fs.set j ⟨p,1,u,d,file,idx⟩,ca:=Zg m.ca ⟨file,idx,j⟩ } (⟨file,idx,(j:Int)⟩:Ca).fr=zV { m with fs:=m.fs.set j ⟨p,1,u,d,file,idx⟩ } (j:Int)from rfl,ji hjl _ (by omega),if_pos rfl]]
   simp
  obtain⟨b1,b2,b3,b4⟩:=Jy (a1 c hc);have he:zV { m with fs:=m.fs.set j ⟨p,1,u,d,file,idx⟩,ca:=Zg m.ca ⟨file,idx,j⟩ } c.fr=zV m c.fr:=by
   rw[show zV { m with fs:=m.fs.set j ⟨p,1,u,d,file,idx⟩,ca:=Zg m.ca ⟨file,idx,j⟩ } c.fr=zV { m with fs:=m.fs.set j ⟨p,1,u,d,file,idx⟩ } c.fr from rfl,ji hjl _ b1.2.2.2.2.1,if_neg (hcj c hc)]
  exact zaJ (by simpa [bkN]using b1) (by rw[he];exact b2) (by rw[he];exact b3) (by rw[he];exact b4)
 ·rcases h.ent q s f hs hT n hn' with e|e
  ·exact .inl e
  refine .inr ⟨e.1,e.2.1,j8 e.2.2 rfl (by simp) fun hk=>?_⟩
  obtain⟨c1,c2,c3,c4⟩:=qk e hk;have hne:(f n).n≠(j:Int):=fun e2=>by
   have:=zdg hT hn' c1;rw[e2]at this;omega
  have he:zV { m with fs:=m.fs.set j ⟨p,1,u,d,file,idx⟩,ca:=Zg m.ca ⟨file,idx,j⟩ } (f n).n=zV m (f n).n:=by
   rw[show zV { m with fs:=m.fs.set j ⟨p,1,u,d,file,idx⟩,ca:=Zg m.ca ⟨file,idx,j⟩ } (f n).n=zV { m with fs:=m.fs.set j ⟨p,1,u,d,file,idx⟩ } (f n).n from rfl,ji hjl _ c2,if_neg hne]
  rw[he];exact⟨rfl,rfl,c4⟩
 simp only at hk⊢;rw[zgI]
 by_cases e:k=j
 ·subst e;rw[sF hjl]at hk;cases hk;refine⟨?_,fun _=>by simp⟩
  simp only[if_true];omega
 rw[sN (fun h=>e h.symm)]at hk
 have:=h.cf k f hk;rw[if_neg (by simp only;omega)]
 exact this
theorem zau {T:List (Nat->En)} {p n:Nat} {f:Nat->En} {e:En} (hp:p<T.length) (hsp:m'.sp=m.sp) (hTp:T[p]? =some f)
  (hold:∀(q:Nat) s g,m.sp[q]? =some s->T[q]? =some g->∀j:Nat,j<64->(q≠p\/j≠n)->g j=en0\/zaD m' (zG s.ars j) (g j)) (hnew:∀s,m.sp[p]? =some s->zaD m' (zG s.ars n) e):
  ∀(q:Nat) s g,m'.sp[q]? =some s->(T.set p (qu f n e))[q]? =some g->∀j:Nat,j<64->g j=en0\/zaD m' (zG s.ars j) (g j):=by
 intro q s g hs hg j hj;rw[hsp]at hs
 by_cases eq:q=p
 ·subst eq;rw[sF hp]at hg;cases hg;unfold qu
  by_cases ej:j=n
  ·subst ej;rw[if_pos rfl];exact .inr (hnew s hs)
  rw[if_neg ej];exact hold q s f hs hTp j hj (.inr ej)
 rw[sN (fun h=>eq h.symm)]at hg
 exact hold q s g hs hg j hj (.inl eq)
theorem zc8 (k:Int) (kind:Int) (w:Bool):isE ⟨kind,k,w⟩ kind k=true:=by simp[isE]
theorem J8 {kind k:Int} {e:En} (h:e.kind≠kind):isE e kind k=false:=by simp[isE,h]
theorem Q3 {kind k:Int} {e:En} (h:e.n≠k):isE e kind k=false:=by simp[isE,h]
theorem qO.hold (h:qO m T) {k p n:Nat} {fr:Fr} {f:Nat->En} {s:Sp} {w:Bool} (hk:m.fs[k]? =some fr) (hff:0<=fr.f) (hs:m.sp[p]? =some s) (hT:T[p]? =some f) (hn:n<64) (h0:f n=en0)
  (hx:(zG s.ars n).is=true) (hxf:(zG s.ars n).file=fr.f) (hxp:(zG s.ars n).page=fr.x) (hw:w=true->(zG s.ars n).sh=true/\(zG s.ars n).wr=true):
  qO { m with fs:=m.fs.set k { fr with r:=fr.r+1 } } (T.set p (qu f n ⟨1,k,w⟩)):=by
 have hkl:=(gS.1 hk).1;have hpl:=(gS.1 hT).1;have hsh:=h.fok fr (mG hk);have hfa:∀z:Int,0<=z->(zV { m with fs:=m.fs.set k { fr with r:=fr.r+1 } } z).f=(zV m z).f/\(zV { m with fs:=m.fs.set k { fr with r:=fr.r+1 } } z).x=(zV m z).x/\((zV m z).f=-1->(zV { m with fs:=m.fs.set k { fr with r:=fr.r+1 } } z).r=(zV m z).r):=fun z hz=>by
  rw[ji hkl z hz]
  by_cases e:z=(k:Int)
  ·subst e;rw[if_pos rfl,ZI hk];exact⟨rfl,rfl,fun h=>by omega⟩
  rw[if_neg e];exact⟨rfl,rfl,fun _=>rfl⟩
 have hup:∀kind j:Int,jf (T.set p (qu f n ⟨1,k,w⟩)) kind j+(isE en0 kind j).toNat=jf T kind j+(isE ⟨1,k,w⟩ kind j).toNat:=fun kind j=>by
  have:=Zq ⟨1,k,w⟩ kind j hT hn;rw[h0]at this;exact this
 refine⟨by simpa using h.fs40,fun g hg=>?_,h.sl60,h.sbl,h.sq,h.dok,h.st,h.cnt,h.blk,h.que,h.spl,h.spok,by simpa using h.tl,?_,?_,fun j g hj=>?_,fun j z hj=>?_⟩
 ·rcases List.mem_or_eq_of_mem_set hg with hg|rfl
  ·exact h.fok g hg
  obtain⟨c1,c2,c3,c4,c5⟩:=hsh;exact⟨by simp only;omega,c2,c3,fun h=>by simp only at h;omega,c5⟩
 ·obtain⟨a1,a2,a3⟩:=zO.1 h.ca;refine zO.2 ⟨fun c hc=>?_,fun q c hq=>(by cases hq),a3⟩
  obtain⟨b1,b2,b3,b4⟩:=Jy (a1 c hc);obtain⟨e1,e2,e3⟩:=hfa c.fr b1.2.2.2.2.1;refine zaJ (by simpa [bkN]using b1) ?_ (by rw[e1];exact b3) (by rw[e2];exact b4)
  rw[ji hkl _ b1.2.2.2.2.1]
  by_cases e:c.fr=(k:Int)
  ·rw[if_pos e];have:=hsh.1;simp only;omega
  rw[if_neg e];exact b2
 ·refine zau hpl rfl hT (fun q s g hs hg j hj hne=>?_) (fun s' hs'=>?_)
  ·rcases h.ent q s g hs hg j hj with e|e
   ·exact .inl e
   refine .inr ⟨e.1,e.2.1,j8 e.2.2 rfl (by simp) fun hk2=>?_⟩
   obtain⟨c1,c2,c3,c4⟩:=qk e hk2;obtain⟨e1,e2,e3⟩:=hfa (g j).n c2;exact⟨e1,e2,fun g1 g2=>by rw[e3 g2];exact c4 g1 g2⟩
  rw[hs]at hs';cases hs';refine⟨zbK (by simp) ⟨by simp,by simp only;have:=h.fs40;omega,fun _=>by simp only;have:=h.fs40;omega⟩ (by simp),by simp,?_⟩
  have ef:zV { m with fs:=m.fs.set k { fr with r:=fr.r+1 } } ((k:Nat):Int)={ fr with r:=fr.r+1 }:=by rw[ji hkl _ (by omega),if_pos rfl]
  unfold zcd;simp only;rw[if_neg (by rw[hx];decide),if_neg (by decide),if_neg (by simp;omega),ef,if_neg]
  simp only;rintro(h4|h4|h4|h4|h4)
  ·exact h4.2 ⟨by omega,hxf.symm,hxp.symm⟩
  ·exact h4.2 ⟨by omega,hxf.symm,hxp.symm⟩
  ·rw[(hw h4.1).2]at h4;cases h4.2
  ·rw[(hw h4.1).1]at h4;cases h4.2.2
  omega
 ·simp only at hj⊢;have hu:=hup 1 j;rw[jt 1 j (by decide)]at hu
  by_cases e:j=k
  ·subst e;rw[sF hkl]at hj;cases hj;rw[zc8]at hu;have:=h.cf j fr hk;refine⟨?_,this.2⟩
   simp at hu
   simp only;omega
  rw[sN (fun h=>e h.symm)]at hj
  rw[Q3 (e:=⟨1,(k:Int),w⟩) (by simp only;omega)]at hu
  have:=h.cf j g hj;refine⟨?_,this.2⟩
  simp at hu
  omega
 simp only at hj⊢;have hu:=hup 2 j;rw[jt 2 j (by decide),J8 (e:=⟨1,(k:Int),w⟩) (by simp)]at hu
 have:=h.cs j z hj
 simp at hu
 omega
theorem qO.mine (h:qO m T) {p n:Nat} {f0:Fr} {pg:Pg} {u w:Bool} {f:Nat->En} {s:Sp} (hj:m.fs[j]? =some f0) (hr:f0.r=0) (hs:m.sp[p]? =some s) (hT:T[p]? =some f) (hn:n<64) (h0:f n=en0)
  (hx:(zG s.ars n).is=true) (hsh:(zG s.ars n).sh=false) (hw:w=true->(zG s.ars n).wr=true):
  qO { m with fs:=m.fs.set j ⟨pg,1,u,false,-1,0⟩ } (T.set p (qu f n ⟨1,j,w⟩)):=by
 have hjl:=(gS.1 hj).1;have hpl:=(gS.1 hT).1;obtain⟨z1,z2⟩:=h.free hj hr;have hup:∀kind k:Int,jf (T.set p (qu f n ⟨1,j,w⟩)) kind k+(isE en0 kind k).toNat=jf T kind k+(isE ⟨1,j,w⟩ kind k).toNat:=fun kind k=>by
  have:=Zq ⟨1,j,w⟩ kind k hT hn;rw[h0]at this;exact this
 refine⟨by simpa using h.fs40,fun g hg=>?_,h.sl60,h.sbl,h.sq,h.dok,h.st,h.cnt,h.blk,h.que,h.spl,h.spok,by simpa using h.tl,?_,?_,fun k g hk=>?_,fun k z hk=>?_⟩
 ·rcases List.mem_or_eq_of_mem_set hg with hg|rfl
  ·exact h.fok g hg
  exact⟨by simp,by simp,.inl rfl,fun h=>by simp at h,fun _=>rfl⟩
 ·obtain⟨a1,a2,a3⟩:=zO.1 h.ca;refine zO.2 ⟨fun c hc=>?_,fun q c hq=>(by cases hq),a3⟩
  obtain⟨b1,b2,b3,b4⟩:=Jy (a1 c hc);have hne:c.fr≠(j:Int):=fun e=>by
   have:=zaw hc;rw[e]at this;exact this z2
  have he:zV { m with fs:=m.fs.set j ⟨pg,1,u,false,-1,0⟩ } c.fr=zV m c.fr:=by rw[ji hjl _ b1.2.2.2.2.1,if_neg hne]
  exact zaJ (by simpa [bkN]using b1) (by rw[he];exact b2) (by rw[he];exact b3) (by rw[he];exact b4)
 ·refine zau hpl rfl hT (fun q s g hs hg i hi hne=>?_) (fun s' hs'=>?_)
  ·rcases h.ent q s g hs hg i hi with e|e
   ·exact .inl e
   refine .inr ⟨e.1,e.2.1,j8 e.2.2 rfl (by simp) fun hk2=>?_⟩
   obtain⟨c1,c2,c3,c4⟩:=qk e hk2;have hne:(g i).n≠(j:Int):=fun e2=>by
    have:=zdg hg hi c1;rw[e2]at this;omega
   rw[ji hjl _ c2,if_neg hne];exact⟨rfl,rfl,c4⟩
  rw[hs]at hs';cases hs';refine⟨zbK (by simp) ⟨by simp,by simp only;have:=h.fs40;omega,fun _=>by simp only;have:=h.fs40;omega⟩ (by simp),by simp,?_⟩
  have ef:zV { m with fs:=m.fs.set j ⟨pg,1,u,false,-1,0⟩ } ((j:Nat):Int)=⟨pg,1,u,false,-1,0⟩:=by rw[ji hjl _ (by omega),if_pos rfl]
  unfold zcd;simp only;rw[if_neg (by rw[hx];decide),if_neg (by decide),if_neg (by simp;omega),ef,if_neg]
  simp only;rintro(h4|h4|h4|h4|h4)
  ·exact h4.1 trivial
  ·rw[hsh]at h4;cases h4.1
  ·rw[hw h4.1]at h4;cases h4.2
  ·omega
  omega
 ·simp only at hk⊢;have hu:=hup 1 k;rw[jt 1 k (by decide)]at hu
  by_cases e:k=j
  ·subst e;rw[sF hjl]at hk;cases hk;rw[zc8]at hu;refine⟨?_,fun h=>by simp at h⟩
   simp at hu
   simp only;omega
  rw[sN (fun h=>e h.symm)]at hk
  rw[Q3 (e:=⟨1,(j:Int),w⟩) (by simp only;omega)]at hu
  have:=h.cf k g hk;refine⟨?_,this.2⟩
  simp at hu
  omega
 simp only at hk⊢;have hu:=hup 2 k;rw[jt 2 k (by decide),J8 (e:=⟨1,(j:Int),w⟩) (by simp)]at hu
 have:=h.cs k z hk
 simp at hu
 omega
theorem qO.swap (h:qO m T) {p n:Nat} {b:List Int} {f:Nat->En} {s:Sp} (hj:m.sl[j]? =some 0) (hs:m.sp[p]? =some s) (hT:T[p]? =some f) (hn:n<64) (h0:f n=en0)
  (hx:(zG s.ars n).is=true) (hsh:(zG s.ars n).sh=false):
  qO { m with sl:=m.sl.set j 1,sb:=m.sb.set j b } (T.set p (qu f n ⟨2,j,false⟩)):=by
 have hjl:=(gS.1 hj).1;have hpl:=(gS.1 hT).1;have hup:∀kind k:Int,jf (T.set p (qu f n ⟨2,j,false⟩)) kind k+(isE en0 kind k).toNat=jf T kind k+(isE ⟨2,j,false⟩ kind k).toNat:=fun kind k=>by
  have:=Zq ⟨2,j,false⟩ kind k hT hn;rw[h0]at this;exact this
 refine⟨h.fs40,h.fok,by simpa using h.sl60,by simpa using h.sbl,by simpa using h.sq,h.dok,h.st,h.cnt,h.blk,h.que,h.spl,h.spok,by simpa using h.tl,?_,?_,fun k g hk=>?_,fun k z hk=>?_⟩
 ·obtain⟨a1,a2,a3⟩:=zO.1 h.ca;exact zO.2 ⟨fun c hc=>a1 c hc,fun q c hq=>(by cases hq),a3⟩
 ·refine zau hpl rfl hT (fun q s g hs hg i hi hne=>?_) (fun s' hs'=>?_)
  ·rcases h.ent q s g hs hg i hi with e|e
   ·exact .inl e
   refine .inr ⟨e.1,e.2.1,j8 e.2.2 (by simp) rfl fun hk2=>?_⟩
   obtain⟨c1,c2,c3,c4⟩:=qk e hk2;exact⟨rfl,rfl,c4⟩
  rw[hs]at hs';cases hs';refine⟨zbK (by simp) ⟨by simp,by simp only;have:=h.sl60;omega,fun h=>by simp at h⟩ (by simp),by simp,?_⟩
  unfold zcd;simp only;rw[if_neg (by rw[hx];decide),if_pos trivial,if_neg]
  rintro(h4|h4)
  ·simp at h4;omega
  rw[hsh]at h4;cases h4
 ·have hu:=hup 1 k;rw[jt 1 k (by decide),J8 (e:=⟨2,(j:Int),false⟩) (by simp)]at hu
  have:=h.cf k g hk;refine⟨?_,this.2⟩;simp only at this⊢
  simp at hu
  omega
 simp only at hk⊢;have hu:=hup 2 k;rw[jt 2 k (by decide)]at hu
 by_cases e:k=j
 ·subst e;rw[sF hjl]at hk;cases hk;rw[zc8]at hu;have:=h.cs k 0 hj
  simp at hu
  omega
 rw[sN (fun h=>e h.symm)]at hk
 rw[Q3 (e:=⟨2,(j:Int),false⟩) (by simp only;omega)]at hu
 have:=h.cs k z hk
 simp at hu
 omega
theorem qO.space (h:qO m T) (hl:(wrL l).1=0) (h4:m.sp.length<4):qO { m with sp:=m.sp++ [⟨true,l,qN⟩] } (T++ [fun _=>en0]):=by
 refine⟨h.fs40,h.fok,h.sl60,h.sbl,h.sq,h.dok,h.st,h.cnt,h.blk,h.que,by simp;omega,fun s hs=>?_,by simpa using h.tl,?_,fun p s f hs hT n hn=>?_,fun k f hk=>?_,fun k z hk=>?_⟩
 ·rcases List.mem_append.1 hs with hs|hs
  ·exact h.spok s hs
  rw[List.mem_singleton]at hs;subst hs;exact⟨hl,fun h=>by cases h⟩
 ·obtain⟨a1,a2,a3⟩:=zO.1 h.ca;exact zO.2 ⟨fun c hc=>a1 c hc,fun q c hq=>(by cases hq),a3⟩
 ·have hp:p<m.sp.length+1:=by
   have:=(gS.1 hs).1
   simpa using this
  by_cases e:p<m.sp.length
  ·rw[List.getElem?_append_left e]at hs;rw[List.getElem?_append_left (by rw[h.tl];exact e)]at hT
   exact h.ent p s f hs hT n hn
  have:p=T.length:=by rw[h.tl];omega
  subst this;rw[aR (nR _),Nat.sub_self]at hT;cases hT;exact .inl rfl
 ·rw[zd7 _ _ _ (by decide)]
  exact h.cf k f hk
 rw[zd7 _ _ _ (by decide)]
 exact h.cs k z hk
end
section
variable{m:Ma} {T:List (Nat->En)}
theorem zjy {e e':En} (h1:e'.kind=e.kind) (h2:e'.n=e.n) (kind k:Int):isE e' kind k=isE e kind k:=by unfold isE;rw[h1,h2]
theorem zh3 {p n:Nat} {f:Nat->En} {e':En} (hT:T[p]? =some f) (hn:n<64) (h1:e'.kind=(f n).kind) (h2:e'.n=(f n).n) (kind k:Int):jf (T.set p (qu f n e')) kind k=jf T kind k:=by
 have:=Zq e' kind k hT hn;rw[zjy h1 h2]at this;omega
theorem qO.guard (h:qO m T) {p n:Nat} {f:Nat->En} (hT:T[p]? =some f) (hn:n<64) (h0:f n≠en0):qO m (T.set p (qu f n { f n with wr:=false })):=by
 have hpl:=(gS.1 hT).1;have hh:=zh3 (e':={ f n with wr:=false }) hT hn rfl rfl;refine⟨h.fs40,h.fok,h.sl60,h.sbl,h.sq,h.dok,h.st,h.cnt,h.blk,h.que,h.spl,h.spok,by simpa using h.tl,h.ca,?_,fun k g hk=>?_,fun k z hk=>?_⟩
 ·refine zau hpl rfl hT (fun q s g hs hg j hj _=>h.ent q s g hs hg j hj) (fun s hs=>?_)
  rcases h.ent p s f hs hT n hn with e|e
  ·exact absurd e h0
  obtain⟨e1,e2,e3⟩:=e;obtain⟨a1,a2,a3⟩:=zab e1;refine⟨zbK a1 a2 ?_,e2,?_⟩
  ·rintro(⟨g1,g2⟩|⟨g1,g2⟩)
   ·exact e2 g1
   simp at g2
  unfold zcd at e3⊢;simp only at e3⊢
  by_cases c0:(zG s.ars n).is=false
  ·rw[if_pos c0]at e3;cases e3
  rw[if_neg c0]at e3⊢
  by_cases c1:(f n).kind=2
  ·rw[if_pos c1]at e3⊢;exact e3
  rw[if_neg c1]at e3⊢
  by_cases c2:(m.fs.length:Int)<=(f n).n
  ·rw[if_pos c2]at e3;cases e3
  rw[if_neg c2]at e3⊢
  split at e3
  ·cases e3
  rename_i hx
  rw[if_neg];rintro(h4|h4|h4|h4|h4)
  ·exact hx (.inl h4)
  ·exact hx (.inr (.inl h4))
  ·simp at h4
  ·simp at h4
  simp at h4
 ·rw[hh];exact h.cf k g hk
 rw[hh];exact h.cs k z hk
theorem qO.share (h:qO m T) {p n k:Nat} {fr:Fr} {f g:Nat->En} {s:Sp} {e:En} (hk:m.fs[k]? =some fr) (hp:T[p]? =some f) (hpn:f n=e) (hq:T[q]? =some g) (hpq:p≠q) (hn:n<64) (h0:g n=en0) (hs:m.sp[q]? =some s)
  (he:zaD m (zG s.ars n) e) (hek:e.kind=1) (hen:e.n=(k:Int)) (hnm:e.wr=true->fr.f≠-1):
  qO { m with fs:=m.fs.set k { fr with r:=fr.r+1 } } (T.set q (qu g n e)):=by
 have hkl:=(gS.1 hk).1;have hql:=(gS.1 hq).1;have hsh:=h.fok fr (mG hk);have hpos:1<=jf T 1 k:=by
  have:=zdg hp hn (by rw[hpn];exact hek)
  rw[hpn,hen]at this;exact this
 have hfr:=h.cf k fr hk;have hup:∀kind j:Int,jf (T.set q (qu g n e)) kind j+(isE en0 kind j).toNat=jf T kind j+(isE e kind j).toNat:=fun kind j=>by
  have:=Zq e kind j hq hn;rw[h0]at this;exact this
 refine⟨by simpa using h.fs40,fun x hx=>?_,h.sl60,h.sbl,h.sq,h.dok,h.st,h.cnt,h.blk,h.que,h.spl,h.spok,by simpa using h.tl,?_,?_,fun j x hj=>?_,fun j z hj=>?_⟩
 ·rcases List.mem_or_eq_of_mem_set hx with hx|rfl
  ·exact h.fok x hx
  obtain⟨c1,c2,c3,c4,c5⟩:=hsh;exact⟨by simp only;omega,c2,c3,fun h=>by simp only at h;omega,c5⟩
 ·obtain⟨a1,a2,a3⟩:=zO.1 h.ca;refine zO.2 ⟨fun c hc=>?_,fun q c hq=>(by cases hq),a3⟩
  obtain⟨b1,b2,b3,b4⟩:=Jy (a1 c hc);have hf:=ji (f:={ fr with r:=fr.r+1 }) hkl c.fr b1.2.2.2.2.1
  by_cases ec:c.fr=(k:Int)
  ·rw[if_pos ec]at hf;rw[ec,ZI hk]at b2 b3 b4;refine zaJ (by simpa [bkN]using b1) ?_ ?_ ?_ <;> rw[hf]
   ·have:=hsh.1;simp only;omega
   ·exact b3
   exact b4
  rw[if_neg ec]at hf;exact zaJ (by simpa [bkN]using b1) (by rw[hf];exact b2) (by rw[hf];exact b3) (by rw[hf];exact b4)
 ·have keep:∀(x:On) (e2:En),zaD m x e2->(e2.kind≠2->e2.n=(k:Int)->e2.wr=true->fr.f≠-1)->zaD { m with fs:=m.fs.set k { fr with r:=fr.r+1 } } x e2:=fun x e2 h2 hm=>by
   refine⟨h2.1,h2.2.1,j8 h2.2.2 rfl (by simp) fun hk2=>?_⟩
   obtain⟨c1,c2,c3,c4⟩:=qk h2 hk2;rw[ji hkl _ c2]
   by_cases ec:e2.n=(k:Int)
   ·rw[if_pos ec,ec,ZI hk];exact⟨rfl,rfl,fun g1 g2=>absurd g2 (hm hk2 ec g1)⟩
   rw[if_neg ec];exact⟨rfl,rfl,c4⟩
  refine zau hql rfl hq (fun q2 s2 g2 hs2 hg2 j hj hne=>?_) (fun s' hs'=>?_)
  ·rcases h.ent q2 s2 g2 hs2 hg2 j hj with e2|e2
   ·exact .inl e2
   refine .inr (keep _ _ e2 fun hk2 hz hw=>?_)
   obtain⟨c1,c2,c3,c4⟩:=qk e2 hk2
   by_cases same:q2=p/\j=n
   ·obtain⟨rfl,rfl⟩:=same;rw[hp]at hg2;cases hg2;rw[hpn]at hw;exact hnm hw
   intro hf1;have h2:=zjz hp hn (kind:=1) (k:=(k:Int)) (by rw[hpn];simp[isE,hek,hen]) hg2 hj (by simp[isE,c1,hz]) (by
    by_cases e3:p=q2
    ·right;intro e4;exact same ⟨e3.symm,e4.symm⟩
    exact .inl e3) (by decide)
   have h3:=c4 hw (by rw[hz,ZI hk];exact hf1)
   rw[hz,ZI hk]at h3;omega
  rw[hs]at hs';cases hs';exact keep _ _ he fun _ _ hw=>hnm hw
 ·simp only at hj⊢;have hu:=hup 1 j;rw[jt 1 j (by decide)]at hu
  by_cases ej:j=k
  ·subst ej;rw[sF hkl]at hj;cases hj;have:isE e 1 (j:Int)=true:=by simp[isE,hek,hen]
   rw[this]at hu;refine⟨?_,hfr.2⟩
   simp at hu
   simp only;omega
  rw[sN (fun h=>ej h.symm)]at hj
  rw[Q3 (by rw[hen];omega)]at hu
  have:=h.cf j x hj;refine⟨?_,this.2⟩
  simp at hu
  omega
 simp only at hj⊢;have hu:=hup 2 j;rw[jt 2 j (by decide),J8 (by rw[hek];decide)]at hu
 have:=h.cs j z hj
 simp at hu
 omega
theorem qO.shareS (h:qO m T) {n k:Nat} {g:Nat->En} {s:Sp} {e:En} (hk:m.sl[k]? =some z) (hq:T[q]? =some g) (hn:n<64) (h0:g n=en0) (hs:m.sp[q]? =some s)
  (he:zaD m (zG s.ars n) e) (hek:e.kind=2) (hen:e.n=(k:Int)):
  qO { m with sl:=m.sl.set k (z+1) } (T.set q (qu g n e)):=by
 have hkl:=(gS.1 hk).1;have hql:=(gS.1 hq).1;have hup:∀kind j:Int,jf (T.set q (qu g n e)) kind j+(isE en0 kind j).toNat=jf T kind j+(isE e kind j).toNat:=fun kind j=>by
  have:=Zq e kind j hq hn;rw[h0]at this;exact this
 refine⟨h.fs40,h.fok,by simpa using h.sl60,by simpa using h.sbl,h.sq,h.dok,h.st,h.cnt,h.blk,h.que,h.spl,h.spok,by simpa using h.tl,?_,?_,fun j x hj=>?_,fun j x hj=>?_⟩
 ·obtain⟨a1,a2,a3⟩:=zO.1 h.ca;exact zO.2 ⟨fun c hc=>a1 c hc,fun q c hq=>(by cases hq),a3⟩
 ·have keep:∀(x:On) (e2:En),zaD m x e2->zaD { m with sl:=m.sl.set k (z+1) } x e2:=fun x e2 h2=>by
   refine⟨h2.1,h2.2.1,j8 h2.2.2 (by simp) rfl fun hk2=>?_⟩
   obtain⟨c1,c2,c3,c4⟩:=qk h2 hk2;exact⟨rfl,rfl,c4⟩
  refine zau hql rfl hq (fun q2 s2 g2 hs2 hg2 j hj hne=>(h.ent q2 s2 g2 hs2 hg2 j hj).imp id (keep _ _)) (fun s' hs'=>?_)
  rw[hs]at hs';cases hs';exact keep _ _ he
 ·have hu:=hup 1 j;rw[jt 1 j (by decide),J8 (by rw[hek];decide)]at hu
  have:=h.cf j x hj;refine⟨?_,this.2⟩;simp only at this⊢
  simp at hu
  omega
 simp only at hj⊢;have hu:=hup 2 j;rw[jt 2 j (by decide)]at hu
 by_cases ej:j=k
 ·subst ej;rw[sF hkl]at hj;cases hj;have:isE e 2 (j:Int)=true:=by simp[isE,hek,hen]
  rw[this]at hu;have:=h.cs j z hk
  simp at hu
  omega
 rw[sN (fun h=>ej h.symm)]at hj
 rw[Q3 (by rw[hen];omega)]at hu
 have:=h.cs j x hj
 simp at hu
 omega
end
structure zdr (fl:List Fl) (cnt:Int) (db:List (List Int)) (dq:List (Int × List Int)) (bl:List Int):Prop where
 st:stW fl cnt=0
 cn:cnt=(db.length:Int)
 ql:dq.length<=(Za fl).length+bl.length
 blok:∀b∈bl,b=-1\/(0<=b/\b<cnt)
 nod:(jV (Za fl++bl)).Nodup
 blk:∀b:Nat,b<db.length->zT fl (b:Int)=false->(b:Int)∉bl->db[b]? =some zz
 que:∀q∈dq,(0<=q.1/\q.1<cnt)/\(zT fl q.1=true\/q.1∈bl)
theorem zdr.none {fl:List Fl} {cnt:Int} {db:List (List Int)} {dq:List (Int × List Int)} {bl:List Int} (h:zdr fl cnt db dq bl):zdr fl cnt db dq (bl++ [-1]):=by
 refine⟨h.st,h.cn,by have:=h.ql;simp;omega,fun b hb=>?_,?_,fun b hb hu hn=>h.blk b hb hu (fun h2=>hn (by simp[h2])),fun q hq=>⟨(h.que q hq).1,(h.que q hq).2.imp id (fun h=>by simp[h])⟩⟩
 ·rcases List.mem_append.1 hb with hb|hb
  ·exact h.blok b hb
  left;simpa using hb
 have:jV (Za fl++(bl++ [-1]))=jV (Za fl++bl):=by simp[jV]
 rw[this];exact h.nod
theorem zdr.block {fl:List Fl} {cnt:Int} {db:List (List Int)} {dq:List (Int × List Int)} {bl:List Int} (h:zdr fl cnt db dq bl) {p:List Int} {more:Bool} (hb:b<db.length) (hu:zT fl (b:Int)=false) (hn:(b:Int)∉bl):
  zdr fl cnt (db.set b p) (if more then dq++ [((b:Int),p)]else dq) (bl++ [(b:Int)]):=by
 refine⟨h.st,by simpa using h.cn,?_,fun x hx=>?_,?_,fun x hx hux hnx=>?_,fun q hq=>?_⟩
 ·have:=h.ql
  cases more <;> simp <;> omega
 ·rcases List.mem_append.1 hx with hx|hx
  ·exact h.blok x hx
  right;have:x=(b:Int):=by simpa using hx
  have:=h.cn;omega
 ·have e:jV (Za fl++(bl++ [(b:Int)]))=jV (Za fl++bl)++ [(b:Int)]:=by
   unfold jV;rw[<-List.append_assoc,List.filter_append]
   congr 1
  rw[e,List.nodup_append];refine⟨h.nod,by simp,fun x hx y hy=>?_⟩
  have hy':y=(b:Int):=by simpa using hy
  subst hy';intro exy;subst exy;unfold jV at hx;rw[List.mem_filter,List.mem_append]at hx
  rcases hx.1 with h1|h1
  ·rw[(ZR fl (b:Int)).2 h1]at hu;cases hu
  exact hn h1
 ·have hne:b≠x:=fun e=>hnx (by simp[e])
  rw[sN hne];exact h.blk x (by simpa using hx) hux (fun h2=>hnx (by simp[h2]))
 have old:q∈dq->(0<=q.1/\q.1<cnt)/\(zT fl q.1=true\/q.1∈bl++ [(b:Int)]):=fun hq=>⟨(h.que q hq).1,(h.que q hq).2.imp id (fun h=>by simp[h])⟩
 cases more with
 | false=>exact old (by simpa using hq)
 | true=>
  rw[if_pos rfl]at hq
  rcases List.mem_append.1 hq with hq|hq
  ·exact old hq
  have:q=((b:Int),p):=by simpa using hq
  subst this;have:=h.cn;exact⟨by simp only;omega,.inr (by simp)⟩
theorem zdr.file {fl:List Fl} {cnt:Int} {db:List (List Int)} {dq:List (Int × List Int)} {bl:List Int} (h:zdr fl cnt db dq bl) {size:Int} (h5:fl.length<5) (hs:0<=size/\size<=96) (hl:(bl.length:Int)=Jr size):zdr (fl++ [⟨size,bl⟩]) cnt db dq []:=by
 have ha:Za (fl++ [⟨size,bl⟩])=Za fl++bl:=by simp[Za]
 have hu:∀b,zT (fl++ [⟨size,bl⟩]) b=true↔zT fl b=true\/b∈bl:=fun b=>by rw[ZR,ha,List.mem_append,<-ZR]
 obtain⟨⟨a1,a2,a3⟩,a4,a5⟩:=(qg fl cnt).1 h.st;refine⟨(qg _ _).2 ⟨⟨by simp;omega,a2,a3⟩,fun f hf=>?_,by rw[ha];exact h.nod⟩,h.cn,by rw[ha];simpa using h.ql,by simp,by rw[ha];simpa using h.nod,fun b hb hub _=>?_,fun q hq=>⟨(h.que q hq).1,.inl ((hu _).2 (h.que q hq).2)⟩⟩
 ·rcases List.mem_append.1 hf with hf|hf
  ·exact a4 f hf
  rw[List.mem_singleton]at hf;subst hf;exact⟨hs,hl,h.blok⟩
 refine h.blk b hb ?_ ?_
 ·cases e:zT fl (b:Int)with
  | false=>rfl
  | true=>rw[(hu _).2 (.inl e)]at hub;cases hub
 intro e;rw[(hu _).2 (.inr e)]at hub;cases hub
theorem zdr.zero {n:Nat} (h:n<=80):zdr [] (n:Int) (List.replicate n zz) [] []:=by
 refine⟨(qg _ _).2 ⟨⟨by simp,by omega,by omega⟩,by simp,by simp[Za,jV]⟩,by simp,by simp,by simp,by simp[Za,jV],fun b hb _ _=>?_,by simp⟩
 rw[List.getElem?_replicate,if_pos (by simpa using hb)]
theorem zdn {cnt:Int}:∀{fl:List Fl},(∀f∈fl,zk8 cnt f)->(Za fl).length<=12*fl.length
 | [],_=>by simp[Za]
 | f :: fl,h=>by
  have h1:=zdn (fl:=fl) fun g hg=>h g (by simp[hg])
  obtain⟨b1,b2,b3⟩:=h f (by simp)
  unfold Jr at b2;simp only[Za,List.flatMap_cons,lA,List.length_cons]at h1⊢
  split at b2 <;> omega
theorem zdr.start {fl:List Fl} {cnt:Int} {db:List (List Int)} {dq:List (Int × List Int)} (h:zdr fl cnt db dq []) {n k:Nat} (hn:n<=40) (hk:k<=60) (hd:Int):qO ⟨List.replicate n frF,hd,List.replicate k 0,List.replicate k zz,[],db,dq,fl,cnt,[],[]⟩ []:=by
 obtain⟨⟨a1,a2,a3⟩,a4,a5⟩:=(qg fl cnt).1 h.st;refine⟨by simpa using hn,fun f hf=>?_,by simpa using hk,by simp,?_,?_,h.st,h.cn,fun b hb hu=>h.blk b hb hu (by simp),fun q hq=>?_,by simp,by simp,rfl,rfl,fun p s f hs=>by simp at hs,fun j f hj=>?_,fun j z hj=>?_⟩
 ·have:=(List.mem_replicate.1 hf).2;subst this;exact⟨by decide,by decide,.inl rfl,fun _=>rfl,fun _=>rfl⟩
 ·show zF (List.replicate k zz).length []=0
  unfold zF;rw[if_neg (by simp;omega),if_neg (by simp)]
  rfl
 ·show zF db.length dq=0
  have h1:=zdn a4;have h2:=h.ql;have h3:=h.cn;unfold zF;rw[if_neg (by omega),if_neg (by simp at h2;omega),if_neg]
  rw[List.any_eq_true];rintro⟨q,hq,hb⟩;have:=(h.que q hq).1;unfold jk at hb
  simp at hb
  omega
 ·exact(h.que q hq).2.resolve_right (by simp)
 ·simp only at hj;rw[List.getElem?_replicate]at hj
  split at hj
  ·cases hj;exact⟨rfl,fun h=>by simp[frF]at h⟩
  cases hj
 simp only at hj;rw[List.getElem?_replicate]at hj
 split at hj
 ·cases hj;rfl
 cases hj
def pgL (p:Pg):List Int:=[p.b0,p.b1,p.b2,p.b3,p.b4,p.b5,p.b6,p.b7]
def zag (p:List Int) (idx size:Int):List Int:=p.mapIdx fun i z=>if size<=8*idx+(i:Int)then 0 else z
def zha (m:Ma) (file idx:Int):Int:=(m.fl.getD file.toNat ⟨0,[]⟩).bl.getD idx.toNat 0
def zhe (m:Ma) (file:Int):Int:=(m.fl.getD file.toNat ⟨0,[]⟩).size
def zdf (file idx:Int) (c:Ca):Bool:=decide (c.file=file) && decide (c.idx=idx)
def Zj (m:Ma) (file idx:Int):List Int:=
 match m.ca.find? (zdf file idx)with
 | some c=>pgL (zV m c.fr).p
 | none=>if zha m file idx<0 then zz else zag (Zf m.db m.dq (zha m file idx)) idx (zhe m file)
def jp (nf:Nat) (l:List Ar):Prop:=∀k:Nat,k<64->(zG l k).is=true->(zG l k).file< (nf:Int)
theorem zfi (nf:Nat):jp nf []:=fun k _ h=>by cases h
theorem zbI {nf:Nat} {a:Ar} (hl:jp nf l) (ha:a.file< (nf:Int)) (h:(JR l a).2=0):jp nf (JR l a).1:=by
 obtain⟨h1,h2,h3,h4,h5⟩:=ze7 h;have hg:=J6 (j2.1 h1).2 (Zu.1 h2);intro k hk his;rw[h5,zc7 hg hk]at his⊢;unfold zeD at his⊢
 by_cases e:ZN a k=true
 ·rw[if_pos e];exact ha
 rw[if_neg e]at his⊢;exact hl k hk his
theorem zj9 {a:Ar} (h:(JR l a).2=0):(wrL (JR l a).1).1=0:=by
 obtain⟨h1,h2,h3,h4,h5⟩:=ze7 h;rw[h5];exact zlw (J6 (j2.1 h1).2 (Zu.1 h2)) h4
theorem zjP (h:∀s∈m.sp,zkW s.tb):jI m (zas m) m.hand=m:=by
 have:List.zipWith (fun s f=>({ s with tb:=Ze f }:Sp)) m.sp (zas m)=m.sp:=by
  have key:∀l:List Sp,(∀s∈l,zkW s.tb)->List.zipWith (fun s f=>({ s with tb:=Ze f }:Sp)) l (l.map zN)=l:=by
   intro l
   induction l with
   | nil=>intro _;rfl
   | cons s l ih=>
    intro hl;have h1:=hl s (by simp)
    have h2:Ze (zN s)=s.tb:=by
     unfold Ze;refine zgi h1 fun j hj=>?_
     rw[List.getElem?_map,List.getElem?_range hj];rfl
    rw[mP,List.zipWith_cons_cons,ih (fun x hx=>hl x (by simp[hx])),h2]
  exact key m.sp h
 unfold jI;rw[this]
theorem j7 {α:Type} {f:α->Int}:∀{l:List α} {k:Nat} {q:α},l[k]? =some q->(∀(j:Nat) x,j<k->l[j]? =some x->f x=0)->f q≠0->zx (l.map f)=f q
 | [],k,q,h,_,_=>by simp at h
 | a :: l,0,q,h,_,hn=>by
  simp at h
  subst h;simp only[mP,zx];rw[if_neg hn]
 | a :: l,k+1,q,h,hb,hn=>by
  simp only[mP,zx];rw[if_pos (hb 0 a (by omega) rfl)]
  exact j7 (by simpa using h) (fun j x hj hx=>hb (j+1) x (by omega) (by simpa using hx)) hn
theorem Qm {α:Type} {f:α->Int} {l:List α} (hb:∀(j:Nat) x,l[j]? =some x->f x=0):zx (l.map f)=0:=by
 rw[zH];intro e he;obtain⟨x,hx,rfl⟩:=List.mem_map.1 he;obtain⟨j,hj⟩:=List.getElem?_of_mem hx;exact hb j x hj
theorem zaI {f:Nat->Int} {n k:Nat} (hk:k<n) (hb:∀j,j<k->f j=0) (hn:f k≠0):zx ((List.range n).map f)=f k:=
 j7 (List.getElem?_range hk) (fun j x hj hx=>by
  rw[List.getElem?_range (by omega)]at hx
  cases hx;exact hb j hj) hn
theorem Zi {f:Nat->Int} {n:Nat} (hb:∀j,j<n->f j=0):zx ((List.range n).map f)=0:=
 Qm fun j x hx=>by
  have hj:=(gS.1 hx).1;rw[List.getElem?_range (by simpa using hj)]at hx
  cases hx;exact hb j (by simpa using hj)
theorem QB {α:Type} {p:α->Bool} {g:α->Int}:∀(l:List α),zx (l.map fun x=>if p x=true then g x else 0)=zx ((l.filter p).map g)
 | []=>rfl
 | a :: l=>by
  simp only[mP,zx]
  by_cases h:p a=true
  ·rw[if_pos h,List.filter_cons_of_pos h];simp only[mP,zx];rw[QB l]
  rw[if_neg h,if_pos rfl,List.filter_cons_of_neg h,QB l]
theorem zU (a:Int) (l:List Int):zx (a :: l)=if a=0 then zx l else a:=rfl
theorem zat:zx []=0:=rfl
def Qa (m:Ma):List Int:=[Qn m.fs m.hand,slW m.sl,zF m.sb.length m.sq,zF m.db.length m.dq,stW m.fl m.cnt]
def QS (m:Ma):List Int:=[zhg m,Je m,QY m]
def Zz (m:Ma):Int:=if 4<m.sp.length then 4 else zx (m.sp.map spE)
def QT (m:Ma):Int:=if zx ((List.range m.fs.length).map (frE m))=0 then zx ((List.range m.sl.length).map (zeU m))else zx ((List.range m.fs.length).map (frE m))
def zbe (m:Ma):Int:=zx (m.sp.map (zal m))
def zdA (m:Ma):Int:=zaT m none m.ca
theorem zct (l k:List Int):zx (l++k)=if zx l=0 then zx k else zx l:=by
 induction l with
 | nil=>simp[zx]
 | cons a l ih=>
  by_cases h:a=0
  ·have h1:zx (a :: l)=zx l:=by rw[zU,if_pos h]
   have h2:zx (a :: l++k)=zx (l++k):=by rw[List.cons_append,zU,if_pos h]
   rw[h1,h2,ih]
  have h1:zx (a :: l)=a:=by rw[zU,if_neg h]
  have h2:zx (a :: l++k)=a:=by rw[List.cons_append,zU,if_neg h]
  rw[h1,h2,if_neg h]
theorem zku (m:Ma):maW m=zx [zx (Qa m),zx (QS m),Zz m,zdA m,zbe m,QT m]:=by
 have hp:zca m=if zx (Qa m)=0 then(if zx (QS m)=0 then Zz m else zx (QS m))else zx (Qa m):=by
  have:zca m=zx (Qa m++(QS m++ [if 4<m.sp.length then 4 else 0,zx (m.sp.map spE)])):=rfl;rw[this,zct,zct]
  congr 1
  congr 1
  unfold Zz;rw[zU,zU,zat]
  split <;> simp_all
 unfold maW;simp only[zU,zat,hp];unfold QT zbe zdA
 by_cases h1:zx (Qa m)=0 <;> by_cases h2:zx (QS m)=0 <;> by_cases h3:Zz m=0 <;> simp only[h1,h2,h3,if_true,if_false] <;>(by_cases h4:zx ((List.range m.fs.length).map (frE m))=0 <;> by_cases h5:zx ((List.range m.sl.length).map (zeU m))=0 <;> simp[h4,h5])
structure zeB (m:Ma):Prop where
 mem:Qn m.fs m.hand=0
 sl:slW m.sl=0
 sq:zF m.sb.length m.sq=0
 dq:zF m.db.length m.dq=0
 st:stW m.fl m.cnt=0
theorem zlf:zx (Qa m)=0↔zeB m:=by
 rw[zH];unfold Qa;constructor
 ·intro h;exact⟨h _ (by simp),h _ (by simp),h _ (by simp),h _ (by simp),h _ (by simp)⟩
 intro h e he;simp only[mC,nM,or_false]at he
 rcases he with rfl|rfl|rfl|rfl|rfl
 ·exact h.mem
 ·exact h.sl
 ·exact h.sq
 ·exact h.dq
 exact h.st
theorem zdS {n:Nat}:∀{l:List Ar} {p:Option Ar} {k:Nat} {a:Ar},ZO p l->l[k]? =some a->ZN a n=true->zG l n=qG a n
 | [],_,_,_,_,h,_=>by simp at h
 | b :: l,p,0,a,_,h,hin=>by
  simp at h
  subst h;rw[zZ]at hin;exact Qs hin.1 hin.2
 | b :: l,p,k+1,a,hc,h,hin=>by
  have h':l[k]? =some a:=by simpa using h
  have ih:=zdS hc.2.2 h' hin
  by_cases hb:(n:Int)<b.tz
  ·have:=hc.2.2.low rfl hb;rw[this]at ih;exact(zdR ih.symm).elim
  rw[J3 (.inr (by omega))]
  exact ih
def qp (s:Sp):List Nat:=(List.range 64).filter fun n=>enS (zN s n)
theorem JE (m:Ma) (s:Sp):zal m s=zx ((qp s).map fun n=>zcd m (zG s.ars n) (zN s n)):=by
 unfold zal qp;rw[<-QB]
 congr 1
 apply List.map_congr_left
 intro n _
 by_cases h:(zN s n).kind=0
 ·simp[enS,h]
 simp[enS,h]
theorem zdO {s:Sp} (ht:tbW s.tb=0) (hl:s.tb.length=8):qp s=[]↔s.tb.all (·.isEmpty)=true:=by
 unfold qp;rw[List.filter_eq_nil_iff,List.all_eq_true];constructor
 ·intro h x hx;obtain⟨i,hi⟩:=List.getElem?_of_mem hx;have hi8:i<8:=by rw[<-hl];exact(gS.1 hi).1
  rcases J0.1 ht x hx with h0|⟨h1,h2,h3⟩
  ·rw[h0];rfl
  exfalso;unfold zbS at h3;rw[List.any_eq_true]at h3;obtain⟨e,he,hs⟩:=h3;obtain⟨j,hj⟩:=List.getElem?_of_mem he;have hj8:j<8:=by rw[<-h1];exact(gS.1 hj).1
  refine h (8*i+j) (List.mem_range.2 (by omega)) ?_
  unfold zN zeF;rw[show(8*i+j) / 8=i by omega,show(8*i+j) % 8=j by omega,hi]
  simp only[Option.getD_some];rw[hj];exact hs
 intro h n hn;rw[List.mem_range]at hn;unfold zN zeF
 cases e:s.tb[n / 8]? with
 | none=>simp[enS,en0]
 | some x=>
  have:=h x (mG e);have:x=[]:=by simpa using this
  subst this
  simp[enS,en0]
def Zp (f:Fr) (a:Ar) (n:Nat):Bool:=if f.f<0 then !a.sh else f.f == a.file && f.x == a.base+(n:Int) - a.fr
def ZD (f:Fr) (a:Ar):Bool:=a.wr &&(if f.f<0 then decide (f.r<=1)else a.sh)
def Jv (m:Ma) (a:Ar) (n:Nat) (e:En):Int:=
 if e.kind=2 then(if(m.sl.length:Int)<=e.n\/a.sh=true then 7 else 0)
 else if(m.fs.length:Int)<=e.n then 3
 else if Zp (zV m e.n) a n=false\/(e.wr=true/\ZD (zV m e.n) a=false)then 7 else 0
theorem zkI (hm:Qn m.fs m.hand=0) (k:Int):(zV m k).f=-1\/(0<=(zV m k).f/\(zV m k).f<5):=by
 unfold zV;rw[gD]
 cases h:m.fs[k.toNat]? with
 | none=>left;rfl
 | some f=>
  have hfs:zcc m.fs=0:=by
   unfold Qn at hm
   split at hm
   ·cases hm
   split at hm
   ·rename_i h;exact h
   rename_i h;exact absurd hm h
  have hf:=J9.1 hfs f (mG h);simp only[Option.getD_some];unfold frW at hf
  split at hf
  ·cases hf
  split at hf
  ·cases hf
  rename_i a
  by_cases e:f.f=-1
  ·exact .inl e
  right
  cases e2:inB f.f 5 with
  | false=>simp[e,e2]at a
  | true=>simpa [inB]using e2
theorem zhv {a:Ar} {n:Nat} {e:En} (hm:Qn m.fs m.hand=0) (ha:jq a):zcd m (qG a n) e=Jv m a n e:=by
 unfold zcd Jv;rw[if_neg (by simp[qG])]
 by_cases hk:e.kind=2
 ·rw[if_pos hk,if_pos hk];rfl
 rw[if_neg hk,if_neg hk]
 by_cases hr:(m.fs.length:Int)<=e.n
 ·rw[if_pos hr,if_pos hr]
 rw[if_neg hr,if_neg hr];have hf:=zkI hm e.n;obtain⟨f,hfe⟩:∃f,zV m e.n=f:=⟨_,rfl⟩;rw[hfe]at hf⊢;unfold Zp ZD qG;simp only;obtain⟨h1,h2,h3,h4,h5,h6,h7,h8⟩:=ha
 rcases hf with hf|hf
 ·rw[hf];have hno:¬(0<=a.file/\(-1:Int)=a.file/\f.x=if 0<=a.file then a.base+((n:Int) - a.fr)else 0):=by omega
  simp only[hno]
  cases hw:e.wr <;> cases hs:a.sh <;> cases ht:a.wr <;> simp
 have hn1:¬f.f=-1:=by omega
 have hn2:¬f.f<0:=by omega
 rw[if_neg hn2,if_neg hn2]
 by_cases hi:f.f=a.file/\f.x=a.base+(n:Int) - a.fr
 ·have hits:0<=a.file/\f.f=a.file/\f.x=(if 0<=a.file then a.base+((n:Int) - a.fr)else 0):=by
   rw[if_pos (by omega)]
   omega
  have hb:(f.f == a.file && f.x == a.base+(n:Int) - a.fr)=true:=by simp[hi.1,hi.2]
  rw[hb];simp only[hits]
  cases hw:e.wr <;> cases hs:a.sh <;> cases ht:a.wr <;> simp <;>(intro;omega)
 have hits:¬(0<=a.file/\f.f=a.file/\f.x=(if 0<=a.file then a.base+((n:Int) - a.fr)else 0)):=by
  rintro⟨g1,g2,g3⟩;rw[if_pos g1]at g3;exact hi ⟨g2,by omega⟩
 have hb:(f.f == a.file && f.x == a.base+(n:Int) - a.fr)=false:=by
  cases h:(f.f == a.file && f.x == a.base+(n:Int) - a.fr)with
  | false=>rfl
  | true=>simp at h;exact absurd h hi
 rw[hb,if_pos (.inl ⟨hn1,hits⟩),if_pos (.inl rfl)]
def ZZ (c d:Ca):Bool:=decide (c.file<d.file) || (c.file == d.file && decide (c.idx<d.idx))
theorem ziI {c d:Ca} (h1:0<=c.idx/\c.idx<100) (h2:0<=d.idx/\d.idx<100):ZZ c d=decide (¬jJ d<=jJ c):=by
 unfold ZZ jJ;rw[Bool.eq_iff_iff];simp;omega
theorem zkS {p:Option Ca} {c:Ca} (hst:stW m.fl m.cnt=0) (h:caE m p c=0):0<=c.idx/\c.idx<100:=by
 unfold caE at h
 split at h
 ·cases h
 rename_i a
 have hb:bkN m c.file<=12:=by
  unfold bkN;rw[gD]
  cases e:m.fl[c.file.toNat]? with
  | none=>simp
  | some f=>
   have:=((qg _ _).1 hst).2.1 f (mG e);simp only[Option.getD_some];have h12:=zdj this.1.1 this.1.2;rw[this.2.1];exact h12.2
 omega
theorem zep (f:Nat->En) (kind k:Int):∀m:Nat,QC f kind k m=(List.range m).countP fun n=>isE (f n) kind k
 | 0=>rfl
 | m+1=>by
  unfold QC;rw[zep f kind k m,List.range_succ,List.countP_append]
  cases h:isE (f m) kind k <;> simp[h]
theorem ziy (s:Sp) {kind k:Int} (hk:kind≠0):QC (zN s) kind k 64=(qp s).countP fun n=>isE (zN s n) kind k:=by
 rw[zep];unfold qp;rw[List.countP_filter]
 apply List.countP_congr
 intro n _;constructor
 ·intro h;rw[Bool.and_eq_true];refine⟨h,?_⟩;unfold isE at h;rw[Bool.and_eq_true]at h;have:(zN s n).kind=kind:=by simpa using h.1
  simp[enS,this,hk]
 intro h;rw[Bool.and_eq_true]at h;exact h.1
def qr (m:Ma) (i:Nat) (l:List Nat) (s:Sp) (key:Int × Int):Int:=
 ((if key.1=1 then(qm m.ca key.2:Nat)else 0:Nat):Int)+((((m.sp.take i).map fun s=>(qp s).countP fun n=>isE (zN s n) key.1 key.2).sum:Nat):Int)+((l.countP fun n=>isE (zN s n) key.1 key.2:Nat):Int)
theorem zh4 (m:Ma) (i:Nat) (l:List Nat) (s:Sp) (n:Nat) (key:Int × Int):qr m i (l++ [n]) s key=qr m i l s key+(if key=((zN s n).kind,(zN s n).n)then 1 else 0):=by
 unfold qr;rw[List.countP_append]
 by_cases h:key=((zN s n).kind,(zN s n).n)
 ·subst h;have:isE (zN s n) (zN s n).kind (zN s n).n=true:=by simp[isE]
  simp[this]
  omega
 rw[if_neg h];have:isE (zN s n) key.1 key.2=false:=by
  cases h':isE (zN s n) key.1 key.2 with
  | false=>rfl
  | true=>
   unfold isE at h'
   simp at h'
   exact absurd (Prod.ext h'.1.symm h'.2.symm) h
 simp[this]
theorem zh5 (m:Ma) (i:Nat) (s s':Sp) (hs:m.sp[i]? =some s) (key:Int × Int):qr m i (qp s) s key=qr m (i+1) [] s' key:=by
 unfold qr;rw[List.take_add_one,hs];simp;omega
theorem zfQ (m:Ma) (s:Sp) {kind:Int} (k:Int) (hk:kind≠0):qr m m.sp.length [] s (kind,k)=((zbz m kind k+(if kind=1 then qm m.ca k else 0):Nat):Int):=by
 unfold qr zbz jf;rw[List.take_length];have:(m.sp.map zN).map (fun f=>QC f kind k 64)=m.sp.map fun s=>(qp s).countP fun n=>isE (zN s n) kind k:=by
  rw[List.map_map]
  apply List.map_congr_left
  intro s _;exact ziy s hk
 rw[this];simp;omega
def Q8 (l:List Ca) (key:Int × Int):Int:=if key.1=1 then(qm l key.2:Int)else 0
theorem zgJ (l:List Ca) (c:Ca) (key:Int × Int):Q8 (l++ [c]) key=Q8 l key+(if key=(1,c.fr)then 1 else 0):=by
 unfold Q8 qm;obtain⟨a,b⟩:=key;simp only[List.countP_append,pJ]
 by_cases h1:a=1
 ·rw[if_pos h1,if_pos h1]
  by_cases h2:b=c.fr
  ·simp[h1,h2]
  have:¬c.fr=b:=fun e=>h2 e.symm
  simp[h1,h2,this]
 rw[if_neg h1,if_neg h1]
 simp[h1]
theorem zh7 (m:Ma) (s:Sp) (key:Int × Int):Q8 m.ca key=qr m 0 [] s key:=by
 unfold Q8 qr;simp
 split <;> rfl
theorem zh6 (key:Int × Int):Q8 [] key=0:=by
 unfold Q8 qm;simp
def Q4:List Ca->Int × Int->Option Int
 | [],_=>none
 | c :: l,key=>match Q4 l key with | some z=>some z | none=>if key=(c.file,c.idx)then some c.fr else none
theorem zd6 (c:Ca) (key:Int × Int):∀(l:List Ca),Q4 (l++ [c]) key=if key=(c.file,c.idx)then some c.fr else Q4 l key
 | []=>by simp[Q4]
 | d :: l=>by
  simp only[List.cons_append,Q4];rw[zd6 c key l]
  by_cases h:key=(c.file,c.idx)
  ·rw[if_pos h,if_pos h]
  rw[if_neg h,if_neg h]
theorem zdd {key:Int × Int} {z:Int}:∀{l:List Ca},Q4 l key=some z->∃c∈l,key=(c.file,c.idx)/\c.fr=z
 | [],h=>by cases h
 | d :: l,h=>by
  unfold Q4 at h
  cases e:Q4 l key with
  | some y=>
   rw[e]at h;cases h;obtain⟨c,h1,h2⟩:=zdd e;exact⟨c,List.mem_cons_of_mem _ h1,h2⟩
  | none=>
   rw[e]at h;simp only at h
   split at h
   ·rename_i h'
    cases h;exact⟨d,List.mem_cons_self,h',rfl⟩
   cases h
theorem zby {key:Int × Int}:∀{l:List Ca},Q4 l key=none↔∀c∈l,key≠(c.file,c.idx)
 | []=>by simp[Q4]
 | d :: l=>by
  unfold Q4;constructor
  ·intro h c hc
   cases e:Q4 l key with
   | some y=>rw[e]at h;cases h
   | none=>
    rw[e]at h;simp only at h
    rcases mC.1 hc with rfl|hc
    ·intro h';rw[if_pos h']at h;cases h
    exact zby.1 e c hc
  intro h;rw[zby.2 fun c hc=>h c (List.mem_cons_of_mem _ hc)]
  simp only;rw[if_neg (h d List.mem_cons_self)]
theorem zfr {l:List Ca} (h:l.Pairwise fun a b=>jJ a<jJ b) {c d:Ca} (hc:c∈l) (hd:d∈l) (hk:jJ c=jJ d):c=d:=by
 induction l with
 | nil=>cases hc
 | cons a l ih=>
  rw[List.pairwise_cons]at h
  rcases mC.1 hc with rfl|hc'
  ·rcases mC.1 hd with rfl|hd'
   ·rfl
   have:=h.1 d hd';omega
  rcases mC.1 hd with rfl|hd'
  ·have:=h.1 c hc';omega
  exact ih h.2 hc' hd'
theorem zgK (hca:zaT m none m.ca=0) (k:Nat):(Q4 m.ca ((zV m k).f,(zV m k).x)=some (k:Int))↔qm m.ca k≠0:=by
 obtain⟨a1,_,a3⟩:=zO.1 hca;have hca':∀c∈m.ca,(zV m c.fr).f=c.file/\(zV m c.fr).x=c.idx:=by
  intro c hc;have:=a1 c hc;unfold caE at this
  split at this
  ·cases this
  split at this
  ·cases this
  rename_i h
  exact⟨Classical.byContradiction fun e=>h (.inr (.inl e)),Classical.byContradiction fun e=>h (.inr (.inr e))⟩
 have hcount:qm m.ca k≠0↔∃c∈m.ca,c.fr=(k:Int):=by
  unfold qm;rw[Nat.ne_zero_iff_zero_lt,List.countP_pos_iff];simp
 rw[hcount];constructor
 ·intro h;obtain⟨c,h1,_,h3⟩:=zdd h;exact⟨c,h1,h3⟩
 rintro⟨c,h1,h2⟩;obtain⟨b1,b2⟩:=hca' c h1;rw[h2]at b1 b2
 cases e:Q4 m.ca ((zV m k).f,(zV m k).x)with
 | none=>
  have:=zby.1 e c h1;rw[b1,b2]at this;exact absurd rfl this
 | some z=>
  obtain⟨d,d1,d2,d3⟩:=zdd e;rw[b1,b2]at d2;simp only[pJ]at d2;have:c=d:=zfr a3 h1 d1 (by unfold jJ;rw[d2.1,d2.2])
  rw[<-d3,<-this,h2]
end
section
open Go.RowKit
theorem zay (m n:Int) (w:World):
  Calls prog 83 #[.int .i64 m,.int .i64 n] w fun e w'=>e= .returned (.bool (bel m n))/\w'=w:=by
 have H:Hid (bel m n=(decide (0<=m) && decide (m<n))):=rfl
 by_cases h0:0<=m
 ·by_cases h1:m<n
  ·go_enter func83,ntmps83
   go_wp2;go_ret;exact⟨by rw[H.out];simp[*],rfl⟩
  go_enter func83,ntmps83
  go_wp2;go_ret;exact⟨by rw[H.out];simp[*],rfl⟩
 go_enter func83,ntmps83
 go_wp2;go_ret;exact⟨by rw[H.out];simp;omega,rfl⟩
theorem zlY:(Tryz.prog.info? 45).map (fun i=>(i.zero,i.size,i.bytes))=some (some (.int .i64 0),1,8):=by kernel_rfl
def zhh:Elt Int where
 enc:=fun z=>[.int .i64 z]
 k:=1
 ty:=45
 st:=233
 bytes:=8
 zv:= .int .i64 0
 zero:=0
 len:=fun _=>rfl
 one:=fun a u hu=>by
  simp only[mC,nM,or_false]at hu;rw[hu];rfl
 und:=underlying233
 info:=zlY
 zok:=rfl
 few:=by decide
 pos:=by decide
theorem zr.errs {w:World} {v:Value} {l:List Int} (h:zr zhh w v l):∃a c,v= .slice a l.length c/\zcD w a l:=by
 obtain⟨a,c,h1,h2⟩:=h.rows;refine⟨a,c,h1,fun j x hj=>?_⟩
 obtain⟨ad,h3,h4⟩:=h2 j x hj;refine⟨ad,h3,fun W hW=>?_⟩
 have:=h4 W hW 0 _ rfl;rw[zR]at this
 simpa [zhh]using this
theorem zeW {α:Type} (E:Elt α) (w:World) (l:List α) (cs:Array Value) (hcs:cs=(l.flatMap E.enc).toArray) (hb:l.length*E.bytes<=140737488355328):zr E (w.alloc (.cells cs E.ty)) (.slice (some ⟨w.heap.size,0,none⟩) l.length l.length) l:=by
 subst hcs;refine⟨⟨_,l.length,rfl,fun h=>(by cases h),fun y hy=>?_⟩,hb⟩
 cases hy;exact jl.top w (l.flatMap E.enc) E.ty rfl
theorem zbF {l:List Int} {k:Nat} (hb:∀(j:Nat) x,j<k->l[j]? =some x->x=0) {q:Int} (hq:l[k]? =some q) (hn:q≠0):zx l=q:=by
 have:=j7 (f:=fun x=>x) hq hb hn
 simpa using this
theorem zbG {l:List Int} (hb:∀(j:Nat) x,l[j]? =some x->x=0):zx l=0:=by
 have:=Qm (f:=fun x=>x) hb
 simpa using this
theorem zbq (v:Value) (l:List Int) (w:World) (hv:zr zhh w v l):
  Calls prog 126 #[v] w fun e w'=>e= .returned (.int .i64 (zx l))/\w'=w:=by
 have hbig:=hv.short;obtain⟨a,c,rfl,hrow⟩:=hv.errs;have HR:Hid (zcD w a l):=hrow;clear hrow hv;obtain⟨n,HN⟩:∃n,Hid (l.length=n):=⟨_,rfl⟩;rw[HN.out]at hbig⊢;obtain⟨F,HF⟩:∃F,Hid (zx l=F):=⟨_,rfl⟩;rw[HF.out]
 go_enter func126,ntmps126
 go_wp2
 go_loopg [5,8] n (fun gg _ s8 wr=>∃kk:Nat,kk<=n/\n - kk<=gg/\s8= .int .i64 kk/\wr=w/\Hid (∀(j:Nat) x,j<kk->l[j]? =some x->x=0))
 case atStart=>exact⟨0,nZ _,by omega,rfl,rfl,fun j x hj=>absurd hj (nL _)⟩
 obtain⟨kk,hkk,hgg,rfl,rfl,A⟩:=hrel
 by_cases hlt:kk<n
 ·have hltz:(kk:Int)< (n:Int):=by omega
  obtain⟨q,HQ⟩:∃q,Hid (l[kk]? =some q):=⟨_,gE (by rw[HN.out];exact hlt)⟩
  obtain⟨x,rfl,hl⟩:=HR.out kk q HQ.out;have d0:=hl wr (zc.refl _);clear hl
  by_cases h0:q=0
  ·have h0e:(q != 0)=false:=by simp[h0]
   have HA:Hid (∀(j:Nat) x,j<kk+1->l[j]? =some x->x=0):=dD<|fun j x hj hx=>by
    by_cases e:j=kk
    ·subst e;rw[HQ.out]at hx;cases hx;exact h0
    exact A.out j x (by omega) hx
   clear h0;go_wp2
   go_roundg (n -(kk+1))
   case measure=>omega
   exact⟨kk+1,by omega,by omega,by go_num,rfl,HA.out⟩
  have h0e:(q != 0)=true:=by simp[h0]
  have HE:Hid (F=q):=dD<|by rw[<-HF.out];exact zbF A.out HQ.out h0
  clear h0;go_wp2;go_ret;exact⟨by rw[HE.out];rfl,rfl⟩
 have hltz:¬(kk:Int)< (n:Int):=by omega
 have:kk=n:=by omega
 subst this;have HE:Hid (F=0):=dD<|by
  rw[<-HF.out];exact zbG fun j x hx=>A.out j x (by rw[<-HN.out];exact(gS.1 hx).1) hx
 go_wp2;go_ret;exact⟨by rw[HE.out];rfl,rfl⟩
theorem zfa (a:Ar) (n:Int) (w:World) (h1:0<=a.base/\a.base<=100) (h2:0<=a.fr/\a.fr<=100) (h3:0<=n/\n<=100):
  Calls prog 135 #[.agg #[.int .i64 a.fr,.int .i64 a.tz,.bool a.rd,.bool a.wr,.bool a.sh,.int .i64 a.file,.int .i64 a.base],.int .i64 n] w fun e w'=>e= .returned (.int .i64 (a.base+n - a.fr))/\zc w w':=by
 obtain⟨fr,tz,rd,wr,sh,file,base⟩:=a;simp only at h1 h2
 go_enter func135,ntmps135
 go_wp2;go_ret;exact⟨rfl,za _ _⟩
theorem ze9 (c d:Ca) (w:World):
  Calls prog 159 #[.agg #[.int .i64 c.file,.int .i64 c.idx,.int .i64 c.fr],.agg #[.int .i64 d.file,.int .i64 d.idx,.int .i64 d.fr]] w fun e w'=>e= .returned (.bool (ZZ c d))/\zc w w':=by
 obtain⟨cf,ci,cr⟩:=c;obtain⟨df,di,dr⟩:=d
 by_cases h1:cf<df
 ·have hz:ZZ ⟨cf,ci,cr⟩ ⟨df,di,dr⟩=true:=by simp[ZZ,h1]
  rw[hz];clear hz
  go_enter func159,ntmps159
  go_wp2;go_ret;exact⟨rfl,(za _ _).trans (za _ _)⟩
 by_cases h2:cf=df
 ·subst h2
  by_cases h3:ci<di
  ·have hz:ZZ ⟨cf,ci,cr⟩ ⟨cf,di,dr⟩=true:=by simp[ZZ,h3]
   rw[hz];clear hz
   go_enter func159,ntmps159
   go_wp2;go_ret;exact⟨rfl,(za _ _).trans (za _ _)⟩
  have hz:ZZ ⟨cf,ci,cr⟩ ⟨cf,di,dr⟩=false:=by simp[ZZ,h3]
  rw[hz];clear hz
  go_enter func159,ntmps159
  go_wp2;go_ret;exact⟨rfl,(za _ _).trans (za _ _)⟩
 have hz:ZZ ⟨cf,ci,cr⟩ ⟨df,di,dr⟩=false:=by simp[ZZ,h1,h2]
 rw[hz];clear hz;have h2e:(cf == df)=false:=by simp[h2]
 clear h2
 go_enter func159,ntmps159
 go_wp2;go_ret;exact⟨rfl,(za _ _).trans (za _ _)⟩
theorem zdW (f:Fr) (a:Ar) (w:World):
  Calls prog 193 #[.agg (frv f).toArray,.agg #[.int .i64 a.fr,.int .i64 a.tz,.bool a.rd,.bool a.wr,.bool a.sh,.int .i64 a.file,.int .i64 a.base]] w fun e w'=>e= .returned (.bool (ZD f a))/\zc w w':=by
 obtain⟨⟨b0,b1,b2,b3,b4,b5,b6,b7⟩,r,u,d,ff,x⟩:=f;obtain⟨fr,tz,rd,wr,sh,file,base⟩:=a;unfold frv ZD;simp only;cases wr
 ·simp only[Bool.false_and]
  go_enter func193,ntmps193
  go_wp2;go_ret;exact⟨rfl,(za _ _).trans (za _ _)⟩
 simp only[Bool.true_and]
 by_cases h:ff<0
 ·rw[if_pos h];obtain⟨D,HD⟩:∃D,Hid (decide (r<=1)=D):=⟨_,rfl⟩;rw[HD.out]
  go_enter func193,ntmps193
  go_wp2;go_ret;exact⟨by rw[<-HD.out];rfl,(za _ _).trans (za _ _)⟩
 rw[if_neg h]
 go_enter func193,ntmps193
 go_wp2;go_ret;exact⟨rfl,(za _ _).trans (za _ _)⟩
theorem qU (m n:Int) (w:World):
  Calls prog 179 #[.int .i64 m,.int .i64 n] w fun e w'=>e= .returned (.bool (inB m n))/\w'=w:=by
 have H:Hid (inB m n=(decide (0<=m) && decide (m<n))):=rfl
 by_cases h0:0<=m
 ·by_cases h1:m<n
  ·go_enter func179,ntmps179
   go_wp2;go_ret;exact⟨by rw[H.out];simp[*],rfl⟩
  go_enter func179,ntmps179
  go_wp2;go_ret;exact⟨by rw[H.out];simp[*],rfl⟩
 go_enter func179,ntmps179
 go_wp2;go_ret;exact⟨by rw[H.out];simp;omega,rfl⟩
theorem Zs (w:World):
  Calls prog 169 #[] w fun e w'=>e= .returned (.agg (frv frF).toArray)/\zc w w':=by
 go_enter func169,ntmps169
 go_wp2;refine bodyPost_ret (v:= .agg (frv frF).toArray) (by simp[results,Tryz.results169,go_sem,frv,frF,pg0]) rfl ⟨rfl,?_⟩
 exact(bR _ _).alloc (nR _) _
end
end Go.Proofs.YtacihbmelcegbaaGreat
