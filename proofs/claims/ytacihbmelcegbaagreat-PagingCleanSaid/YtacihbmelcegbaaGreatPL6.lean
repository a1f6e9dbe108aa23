import Derived.Test.YtacihbmelcegbaaGreatPL5
import Derived.OrdersHeld
namespace Go.Proofs.YtacihbmelcegbaaGreat
set_option maxRecDepth 100000
set_option maxHeartbeats 4000000
variable{Q:Exit->Act->World->Prop} {V:MaV} {W w0:World} {b i id j:Nat} {l:List Ar} {m:Ma} {o:Oper} {ops:Array Oper} {vs:List Value}
open Go.Proofs.Tryz
section
open Go.RowKit
theorem ChW.done {w:World} {p g:Nat} (h:ChW w0 p w V m) (g2:w.grownBy W (some g)) (hg:g<w0.heap.size):zD W V m:=by
 have o:jv (Dr w0.heap.size p V) w W:=jv.grown g2 (.inl hg);have r:=h.rest W o;obtain⟨xs,s1,s2,s3⟩:=h.sp;have far:∀{α:Type} {E:Elt α} {v:Value} {l:List α},zb E w0.heap.size w v l->zr E W v l:=fun hr=>(hr.grown g2 (fun k hk e=>by cases e;have:=(hr.lt _ hk).1;omega)).at
 exact⟨far h.fs,r.sl,r.sb,r.sq,r.db,r.dq,r.fl,far h.ca,⟨xs,far s1,s2,fun i x s hx hs=>s3 i x s hx hs W o⟩⟩
theorem zgU (V:MaV) (m:Ma) (w:World) (hm:zD w V m) (h0:maW m=0) (R:Bool->Ma->Prop) (hR:∀w0 W p V1,ChW w0 p W V1 m->Calls prog 73 #[.pointer (some ⟨p,0,none⟩),.slice none 0 0] W fun e w'=>∃bo m',e= .returned (.bool bo)/\R bo m'/\Chg w0 p W V1 m' w'):
  Calls prog 28 #[.agg #[.slice V.f.a V.f.n V.f.c,.int .i64 m.hand,.slice V.s.a V.s.n V.s.c,.slice V.sb.a V.sb.n V.sb.c,.slice V.sq.a V.sq.n V.sq.c,.slice V.db.a V.db.n V.db.c,.slice V.dq.a V.dq.n V.dq.c,.slice V.fl.a V.fl.n V.fl.c,.int .i64 m.cnt,.slice V.ca.a V.ca.n V.ca.c,.slice V.sp.a V.sp.n V.sp.c]] w fun e w'=>(∃(bo:Bool) (m':Ma) (V':MaV),R bo m'/\e= .returned (.tuple #[.agg #[.slice V'.f.a V'.f.n V'.f.c,.int .i64 m'.hand,.slice V'.s.a V'.s.n V'.s.c,.slice V'.sb.a V'.sb.n V'.sb.c,.slice V'.sq.a V'.sq.n V'.sq.c,.slice V'.db.a V'.db.n V'.db.c,.slice V'.dq.a V'.dq.n V'.dq.c,.slice V'.fl.a V'.fl.n V'.fl.c,.int .i64 m'.cnt,.slice V'.ca.a V'.ca.n V'.ca.c,.slice V'.sp.a V'.sp.n V'.sp.c],.bool bo,.int .i64 0])/\zD w' V' m')/\zc w w':=by
 obtain⟨W1,hW1⟩:∃W1,(w.alloc (.cells #[.slice V.f.a V.f.n V.f.c,.int .i64 m.hand,.slice V.s.a V.s.n V.s.c,.slice V.sb.a V.sb.n V.sb.c,.slice V.sq.a V.sq.n V.sq.c,.slice V.db.a V.db.n V.db.c,.slice V.dq.a V.dq.n V.dq.c,.slice V.fl.a V.fl.n V.fl.c,.int .i64 m.cnt,.slice V.ca.a V.ca.n V.ca.c,.slice V.sp.a V.sp.n V.sp.c] 41)).alloc (.cells #[.slice none 0 0,.int .i64 0,.slice none 0 0,.slice none 0 0,.slice none 0 0,.slice none 0 0,.slice none 0 0,.slice none 0 0,.int .i64 0,.slice none 0 0,.slice none 0 0] 41)=W1:=⟨_,rfl⟩;have G1:=gD2 hW1
 obtain⟨b,HB⟩:∃b,Hid (w.heap.size=b):=⟨_,rfl⟩;have X1:Hid (zp W1 b 41 [.slice V.f.a V.f.n V.f.c,.int .i64 m.hand,.slice V.s.a V.s.n V.s.c,.slice V.sb.a V.sb.n V.sb.c,.slice V.sq.a V.sq.n V.sq.c,.slice V.db.a V.db.n V.db.c,.slice V.dq.a V.dq.n V.dq.c,.slice V.fl.a V.fl.n V.fl.c,.int .i64 m.cnt,.slice V.ca.a V.ca.n V.ca.c,.slice V.sp.a V.sp.n V.sp.c]):=dD<|by rw[<-hW1];exact(zp.top w [.slice V.f.a V.f.n V.f.c,.int .i64 m.hand,.slice V.s.a V.s.n V.s.c,.slice V.sb.a V.sb.n V.sb.c,.slice V.sq.a V.sq.n V.sq.c,.slice V.db.a V.db.n V.db.c,.slice V.dq.a V.dq.n V.dq.c,.slice V.fl.a V.fl.n V.fl.c,.int .i64 m.cnt,.slice V.ca.a V.ca.n V.ca.c,.slice V.sp.a V.sp.n V.sp.c] _ HB.out.symm).grew (za _ _)
 have Z1:Hid (zp W1 (b+1) 41 Zc):=dD<|by rw[<-hW1];exact zp.top _ Zc _ (by have:=HB.out;simp;omega)
 have A1:Hid (zD W1 V m):=hm.grew G1.out;have HW1:Hid (_=W1):=hW1;have hwr:=Qf V m W1 A1.out;rw[h0]at hwr;clear hW1 hm h0;have HR:Hid (∀w0 W p V1,ChW w0 p W V1 m->Calls prog 73 #[.pointer (some ⟨p,0,none⟩),.slice none 0 0] W fun e w'=>∃bo m',e= .returned (.bool bo)/\R bo m'/\Chg w0 p W V1 m' w'):=show∀w0,_ from hR
 clear hR
 go_enter func28,ntmps28
 go_upto_region 1 with fail;rw[HW1.out,HB.out];obtain⟨x0,x1,x2,x3,x4,x5,x6,x7,x8,x9,x10⟩:=X1.out.box.c11;go_wp2_with fail;refine hwr.mono ?_;clear hwr x0 x1 x2 x3 x4 x5 x6 x7 x8 x9 x10;rintro e W2 ⟨rfl,g2⟩;have X2:=dD (X1.out.grew g2);have Z2:=dD (Z1.out.grew g2);have A2:=dD (A1.out.grew g2);have G2:=dD (G1.out.trans g2);clear g2;have hof:=zdi V m W2 A2.out;obtain⟨x0,x1,x2,x3,x4,x5,x6,x7,x8,x9,x10⟩:=X2.out.box.c11;go_wp2_with fail;refine hof.mono ?_;clear hof x0 x1 x2 x3 x4 x5 x6 x7 x8 x9 x10;rintro e W3 ⟨p,V1,rfl,hc⟩;have C3:Hid (ChW W2 p W3 V1 m):=hc;have HBL:Hid (b+1<W2.heap.size):=Z2.out.box.lt;have Z3:Hid (zp W3 (b+1) 41 Zc):=Z2.out.grew hc.gr;clear hc;have hff:=HR.out W2 W3 p V1 C3.out;go_wp2_with fail;refine hff.mono ?_;clear hff;rintro e W5 ⟨bo,m5,rfl,hr5,V5,c5,o5,d5⟩;have C5:Hid (ChW W2 p W5 V5 m5):=c5;have HR5:Hid (R bo m5):=hr5;have Z5:Hid (zp W5 (b+1) 41 Zc):=Z3.out.outD o5 (fun e=>by have:=C3.out.dlo _ e;have:=HBL.out;omega)
 clear c5 o5 d5 hr5;obtain⟨r0,r1,r2,r3,r4,r5,r6,r7,r8,r9,r10⟩:=C5.out.box.box.c11;have HZL:Hid (∀v∈chL V5 m5,v.oneCell'=true):=dD<|by simp[chL,Value.oneCell']
 go_wp2_with (refine qe rfl 41 (.tmp 2) (.tmp 21) rfl (b+1) rfl (chL V5 m5) rfl Z5.out rfl (by kernel_rfl) HZL.out ?_)
 clear r0 r1 r2 r3 r4 r5 r6 r7 r8 r9 r10;intro W6 bx gr6 _;have G6:Hid (zc w W6):=dD<|ze (G2.out.trans C5.out.gr) gr6 (by have:=HB.out;omega)
 have B6:Hid (zp W6 (b+1) 41 (chL V5 m5)):=bx;have HF:Hid (zD W6 V5 m5):=C5.out.done gr6 HBL.out;clear bx gr6;go_wp2;refine bodyPost_ret (Zo rfl _ rfl B6.out.box underlying41 rfl (by kernel_rfl)) rfl ⟨⟨bo,m5,V5,HR5.out,rfl,HF.out⟩,G6.out⟩
theorem zg0 (V:MaV) (m:Ma) (w:World) (hm:zD w V m) (h0:maW m=0) (hc:m.ca=[]):
  Calls prog 30 #[.agg #[.slice V.f.a V.f.n V.f.c,.int .i64 m.hand,.slice V.s.a V.s.n V.s.c,.slice V.sb.a V.sb.n V.sb.c,.slice V.sq.a V.sq.n V.sq.c,.slice V.db.a V.db.n V.db.c,.slice V.dq.a V.dq.n V.dq.c,.slice V.fl.a V.fl.n V.fl.c,.int .i64 m.cnt,.slice V.ca.a V.ca.n V.ca.c,.slice V.sp.a V.sp.n V.sp.c]] w fun e w'=>(∃V':MaV,e= .returned (.tuple #[.agg #[.slice V'.f.a V'.f.n V'.f.c,.int .i64 m.hand,.slice V'.s.a V'.s.n V'.s.c,.slice V'.sb.a V'.sb.n V'.sb.c,.slice V'.sq.a V'.sq.n V'.sq.c,.slice V'.db.a V'.db.n V'.db.c,.slice V'.dq.a V'.dq.n V'.dq.c,.slice V'.fl.a V'.fl.n V'.fl.c,.int .i64 m.cnt,.slice V'.ca.a V'.ca.n V'.ca.c,.slice V'.sp.a V'.sp.n V'.sp.c],.bool false,.int .i64 0])/\zD w' V' m)/\zc w w':=by
 obtain⟨W1,hW1⟩:∃W1,(w.alloc (.cells #[.slice V.f.a V.f.n V.f.c,.int .i64 m.hand,.slice V.s.a V.s.n V.s.c,.slice V.sb.a V.sb.n V.sb.c,.slice V.sq.a V.sq.n V.sq.c,.slice V.db.a V.db.n V.db.c,.slice V.dq.a V.dq.n V.dq.c,.slice V.fl.a V.fl.n V.fl.c,.int .i64 m.cnt,.slice V.ca.a V.ca.n V.ca.c,.slice V.sp.a V.sp.n V.sp.c] 41)).alloc (.cells #[.slice none 0 0,.int .i64 0,.slice none 0 0,.slice none 0 0,.slice none 0 0,.slice none 0 0,.slice none 0 0,.slice none 0 0,.int .i64 0,.slice none 0 0,.slice none 0 0] 41)=W1:=⟨_,rfl⟩;have G1:=gD2 hW1
 obtain⟨b,HB⟩:∃b,Hid (w.heap.size=b):=⟨_,rfl⟩;have X1:Hid (zp W1 b 41 [.slice V.f.a V.f.n V.f.c,.int .i64 m.hand,.slice V.s.a V.s.n V.s.c,.slice V.sb.a V.sb.n V.sb.c,.slice V.sq.a V.sq.n V.sq.c,.slice V.db.a V.db.n V.db.c,.slice V.dq.a V.dq.n V.dq.c,.slice V.fl.a V.fl.n V.fl.c,.int .i64 m.cnt,.slice V.ca.a V.ca.n V.ca.c,.slice V.sp.a V.sp.n V.sp.c]):=dD<|by rw[<-hW1];exact(zp.top w [.slice V.f.a V.f.n V.f.c,.int .i64 m.hand,.slice V.s.a V.s.n V.s.c,.slice V.sb.a V.sb.n V.sb.c,.slice V.sq.a V.sq.n V.sq.c,.slice V.db.a V.db.n V.db.c,.slice V.dq.a V.dq.n V.dq.c,.slice V.fl.a V.fl.n V.fl.c,.int .i64 m.cnt,.slice V.ca.a V.ca.n V.ca.c,.slice V.sp.a V.sp.n V.sp.c] _ HB.out.symm).grew (za _ _)
 have Z1:Hid (zp W1 (b+1) 41 Zc):=dD<|by rw[<-hW1];exact zp.top _ Zc _ (by have:=HB.out;simp;omega)
 have A1:Hid (zD W1 V m):=hm.grew G1.out;have HW1:Hid (_=W1):=hW1;have hwr:=Qf V m W1 A1.out;rw[h0]at hwr;clear hW1 hm h0;have HCA:Hid (m.ca.length=0):=show _=_ by rw[hc];rfl
 clear hc
 go_enter func30,ntmps30
 go_upto_region 1 with fail;rw[HW1.out,HB.out];obtain⟨x0,x1,x2,x3,x4,x5,x6,x7,x8,x9,x10⟩:=X1.out.box.c11;go_wp2_with fail;refine hwr.mono ?_;clear hwr x0 x1 x2 x3 x4 x5 x6 x7 x8 x9 x10;rintro e W2 ⟨rfl,g2⟩;have X2:=dD (X1.out.grew g2);have Z2:=dD (Z1.out.grew g2);have A2:=dD (A1.out.grew g2);have G2:=dD (G1.out.trans g2);clear g2;have hof:=zdi V m W2 A2.out;obtain⟨x0,x1,x2,x3,x4,x5,x6,x7,x8,x9,x10⟩:=X2.out.box.c11;go_wp2_with fail;refine hof.mono ?_;clear hof x0 x1 x2 x3 x4 x5 x6 x7 x8 x9 x10;rintro e W3 ⟨p,V1,rfl,hc⟩;have C3:Hid (ChW W2 p W3 V1 m):=hc;have HBL:Hid (b+1<W2.heap.size):=Z2.out.box.lt;have Z3:Hid (zp W3 (b+1) 41 Zc):=Z2.out.grew hc.gr;clear hc;obtain⟨-,-,-,-,-,-,-,n8,-⟩:=C3.out.at.ns;have x9:=C3.out.box.box.c 9 rfl;rw[n8,HCA.out]at x9;clear n8;go_wp2;clear x9
 go_loopg [23] 1 (fun gg s23 wr=>s23= .int .i64 0/\0<gg/\wr=W3)
 case atStart=>exact⟨rfl,by omega,rfl⟩
 obtain⟨rfl,hgg,rfl⟩:=hrel;have Z5:Hid (zp wr (b+1) 41 Zc):=Z3;obtain⟨r0,r1,r2,r3,r4,r5,r6,r7,r8,r9,r10⟩:=C3.out.box.box.c11;have HZL:Hid (∀v∈chL V1 m,v.oneCell'=true):=show∀v∈chL V1 m,_ by simp[chL,Value.oneCell']
 go_wp2_with (refine qe rfl 41 (.tmp 2) (.tmp 52) rfl (b+1) rfl (chL V1 m) rfl Z5.out rfl (by kernel_rfl) HZL.out ?_)
 clear r0 r1 r2 r3 r4 r5 r6 r7 r8 r9 r10;intro W6 bx gr6 _;have G6:Hid (zc w W6):=dD<|ze (G2.out.trans C3.out.gr) gr6 (by have:=HB.out;omega)
 have B6:Hid (zp W6 (b+1) 41 (chL V1 m)):=bx;have HF:Hid (zD W6 V1 m):=C3.out.done gr6 HBL.out;clear bx gr6;go_wp2;refine bodyPost_ret (Zo rfl _ rfl B6.out.box underlying41 rfl (by kernel_rfl)) rfl ⟨⟨V1,rfl,HF.out⟩,G6.out⟩
theorem zhy (V:MaV) (m:Ma) (file:Int) (w:World) (hm:zD w V m) (h0:maW m=0) (hf:file<0\/(m.fl.length:Int)<=file):
  Calls prog 31 #[.agg #[.slice V.f.a V.f.n V.f.c,.int .i64 m.hand,.slice V.s.a V.s.n V.s.c,.slice V.sb.a V.sb.n V.sb.c,.slice V.sq.a V.sq.n V.sq.c,.slice V.db.a V.db.n V.db.c,.slice V.dq.a V.dq.n V.dq.c,.slice V.fl.a V.fl.n V.fl.c,.int .i64 m.cnt,.slice V.ca.a V.ca.n V.ca.c,.slice V.sp.a V.sp.n V.sp.c],.int .i64 file] w fun e w'=>e= .returned (.tuple #[.agg Zc.toArray,.int .i64 5])/\zc w w':=by
 obtain⟨W1,hW1⟩:∃W1,(w.alloc (.cells #[.slice V.f.a V.f.n V.f.c,.int .i64 m.hand,.slice V.s.a V.s.n V.s.c,.slice V.sb.a V.sb.n V.sb.c,.slice V.sq.a V.sq.n V.sq.c,.slice V.db.a V.db.n V.db.c,.slice V.dq.a V.dq.n V.dq.c,.slice V.fl.a V.fl.n V.fl.c,.int .i64 m.cnt,.slice V.ca.a V.ca.n V.ca.c,.slice V.sp.a V.sp.n V.sp.c] 41)).alloc (.cells #[.slice none 0 0,.int .i64 0,.slice none 0 0,.slice none 0 0,.slice none 0 0,.slice none 0 0,.slice none 0 0,.slice none 0 0,.int .i64 0,.slice none 0 0,.slice none 0 0] 41)=W1:=⟨_,rfl⟩;have G1:=gD2 hW1
 obtain⟨b,HB⟩:∃b,Hid (w.heap.size=b):=⟨_,rfl⟩;have X1:Hid (zp W1 b 41 [.slice V.f.a V.f.n V.f.c,.int .i64 m.hand,.slice V.s.a V.s.n V.s.c,.slice V.sb.a V.sb.n V.sb.c,.slice V.sq.a V.sq.n V.sq.c,.slice V.db.a V.db.n V.db.c,.slice V.dq.a V.dq.n V.dq.c,.slice V.fl.a V.fl.n V.fl.c,.int .i64 m.cnt,.slice V.ca.a V.ca.n V.ca.c,.slice V.sp.a V.sp.n V.sp.c]):=dD<|by rw[<-hW1];exact(zp.top w [.slice V.f.a V.f.n V.f.c,.int .i64 m.hand,.slice V.s.a V.s.n V.s.c,.slice V.sb.a V.sb.n V.sb.c,.slice V.sq.a V.sq.n V.sq.c,.slice V.db.a V.db.n V.db.c,.slice V.dq.a V.dq.n V.dq.c,.slice V.fl.a V.fl.n V.fl.c,.int .i64 m.cnt,.slice V.ca.a V.ca.n V.ca.c,.slice V.sp.a V.sp.n V.sp.c] _ HB.out.symm).grew (za _ _)
 have Z1:Hid (zp W1 (b+1) 41 Zc):=dD<|by rw[<-hW1];exact zp.top _ Zc _ (by have:=HB.out;simp;omega)
 have A1:Hid (zD W1 V m):=hm.grew G1.out;have HW1:Hid (_=W1):=hW1;have hwr:=Qf V m W1 A1.out;rw[h0]at hwr;clear hW1 hm h0;have HFI:Hid (file<0\/(m.fl.length:Int)<=file):=show _\/_ from hf
 clear hf
 go_enter func31,ntmps31
 go_upto_region 1 with fail;rw[HW1.out,HB.out];obtain⟨x0,x1,x2,x3,x4,x5,x6,x7,x8,x9,x10⟩:=X1.out.box.c11;go_wp2_with fail;refine hwr.mono ?_;clear hwr x0 x1 x2 x3 x4 x5 x6 x7 x8 x9 x10;rintro e W2 ⟨rfl,g2⟩;have X2:=dD (X1.out.grew g2);have Z2:=dD (Z1.out.grew g2);have A2:=dD (A1.out.grew g2);have G2:=dD (G1.out.trans g2);clear g2;obtain⟨-,-,-,-,-,-,n7,-⟩:=A2.out.ns;have x7:=X2.out.box.c 7 rfl;rw[n7]at x7;clear n7;obtain⟨fn,HFN⟩:∃fn,Hid (m.fl.length=fn):=⟨_,rfl⟩;rw[HFN.out]at x7 HFI
 by_cases h1:file<0
 ·have h1d:decide (file<0)=true:=by simpa using h1
  go_wp2_with (refine qe rfl 41 (.tmp 4) (.tmp 26) rfl (b+1) rfl Zc rfl Z2.out rfl (by kernel_rfl) (by simp[Zc,Value.oneCell']) ?_)
  intro W6 bx gr6 _;have G6:Hid (zc w W6):=dD<|ze G2.out gr6 (by have:=HB.out;omega)
  have B6:Hid (zp W6 (b+1) 41 Zc):=bx;clear bx gr6 x7;go_wp2;refine bodyPost_ret (ZS rfl _ rfl B6.out.box underlying41 rfl (by kernel_rfl)) rfl ⟨rfl,G6.out⟩
 have h1d:decide (file<0)=false:=by simpa using h1
 have h2:(fn:Int)<=file:=by have:=HFI.out;omega
 have h2d:decide ((fn:Int)<=file)=true:=by simpa using h2
 go_wp2_with (refine qe rfl 41 (.tmp 4) (.tmp 26) rfl (b+1) rfl Zc rfl Z2.out rfl (by kernel_rfl) (by simp[Zc,Value.oneCell']) ?_)
 intro W6 bx gr6 _;have G6:Hid (zc w W6):=dD<|ze G2.out gr6 (by have:=HB.out;omega)
 have B6:Hid (zp W6 (b+1) 41 Zc):=bx;clear bx gr6 x7;go_wp2;refine bodyPost_ret (ZS rfl _ rfl B6.out.box underlying41 rfl (by kernel_rfl)) rfl ⟨rfl,G6.out⟩
def frU (q:Fr):Fr:={ q with u:=false }
def zka (q:Fr):Bool:=decide (0<q.r) && !q.u
theorem ziG {w:World} (h:Below b w W) {a:Addr} (ha:b<=a.block) (u:Value):Below b w (W.setCell a u):=Below.setCell h ha u
theorem zi7 (B g n cv i base b0:Nat) (fs:List Fr) (q:Fr) (W:World) (hn:fs.length=n) (h40:n<=40) (hq:fs[i]? =some q) (hB:Box W B [.slice (some ⟨g,0,none⟩) n cv,.int .i64 (i:Int)]) (ow:zi base W (.slice (some ⟨g,0,none⟩) n cv) fs) (hBg:B≠g) (h1:b0<=B) (h2:b0<=g):
  Calls prog 163 #[.pointer (some ⟨B,0,none⟩)] W fun e W'=>e= .returned (.tuple #[.int .i64 (i:Int),.bool (zka q)])/\Box W' B [.slice (some ⟨g,0,none⟩) n cv,.int .i64 (((i+1) % n:Nat):Int)]/\zi base W' (.slice (some ⟨g,0,none⟩) n cv) (fs.set i (frU q))/\Below b0 W W':=by
 have OW:Hid (zi base W (.slice (some ⟨g,0,none⟩) n cv) fs):=ow;have HB:Hid (Box W B [.slice (some ⟨g,0,none⟩) n cv,.int .i64 (i:Int)]):=hB;have HQ:Hid (fs[i]? =some q):=hq;have hil:i<n:=by rw[<-hn];exact(gS.1 hq).1
 have HN:Hid (fs.length=n):=hn;clear ow hB hq hn;have hiz:(i:Int)< (n:Int):=by omega
 have hn0:(0:Int)< (n:Int):=by omega
 have hnn:¬(n:Int)=0:=by omega
 have hmod:(((i:Int)+1) %(n:Int))=(((i+1) % n:Nat):Int):=by simp
 have HMOD:Hid (((i:Int)+1) %(n:Int)=(((i+1) % n:Nat):Int)):=hmod;clear hmod;have hgB:g≠B:=Ne.symm hBg;have e0:=HB.out.c 0 rfl;have e1:=HB.out.c 1 rfl;have ef:=HB.out.f;have eB:=HB.out.lt;have hgl:=(OW.out.lt g rfl).2;have u8:=OW.out.frc HQ.out 8 rfl;have u9:=OW.out.frc HQ.out 9 rfl
 go_enter func163,ntmps163
 go_upto_region 3 with fail;obtain⟨W1,hW1⟩:∃W1,W.setCell ⟨B,1,none⟩ (.int .i64 (((i:Int)+1) %(n:Int)))=W1:=⟨_,rfl⟩;rw[hW1];have HB1:Hid (Box W1 B [.slice (some ⟨g,0,none⟩) n cv,.int .i64 (((i:Int)+1) %(n:Int))]):=dD<|by rw[<-hW1];exact HB.out.set 1 _
 have OW1:Hid (zi base W1 (.slice (some ⟨g,0,none⟩) n cv) fs):=dD<|by rw[<-hW1];exact OW.out.setOther (fun g' hg'=>by cases hg';exact hBg) _
 have BL1:Hid (Below b0 W W1):=dD<|by rw[<-hW1];exact ziG (bR _ _) h1 _
 clear hW1 e0 e1 ef eB u8 u9;have e0:=HB1.out.c 0 rfl;have u8:=OW1.out.frc HQ.out 8 rfl;have u9:=OW1.out.frc HQ.out 9 rfl;have HI:Hid (zka q=(decide (0<q.r) && !q.u)):=rfl;obtain⟨r,HRR⟩:∃r,Hid (q.r=r):=⟨_,rfl⟩;obtain⟨u,HUU⟩:∃u,Hid (q.u=u):=⟨_,rfl⟩;rw[HRR.out]at u8 HI;rw[HUU.out]at u9 HI
 by_cases hr:0<r
 ·cases u with
  | true=>
   have HF:Hid (zka q=false):=dD<|by rw[HI.out];simp[hr]
   skip
   go_wp2_with (refine jE rfl (.tmp 32) (.const (.bool false)) 4 rfl base (.slice (some ⟨g,0,none⟩) n cv) fs OW1.out g i 9 rfl q (frU q) HQ.out [.bool false] (by kernel_rfl) rfl (Nat.le_of_ble_eq_true rfl) (by intro u hu;simp at hu;subst hu;rfl) _ rfl (by simp) _ rfl rfl ?_)
   intro W2 ow2 gr2 _;have OW2:Hid (zi base W2 (.slice (some ⟨g,0,none⟩) n cv) (fs.set i (frU q))):=ow2;have HB2:Hid (Box W2 B [.slice (some ⟨g,0,none⟩) n cv,.int .i64 (((i:Int)+1) %(n:Int))]):=HB1.out.beside gr2 (fun g' hg'=>by cases hg';exact hBg)
   have BL2:Hid (Below b0 W W2):=Below.grown BL1.out gr2 (by have:=bS BL1.out;omega) (fun g' hg'=>by cases hg';exact h2)
   clear ow2 gr2 u8 u9 e0;go_wp2
   go_ret2
   exact⟨by rw[HF.out];rfl,by rw[<-HMOD.out];exact HB2.out,OW2.out,BL2.out⟩
  | false=>
   have HF:Hid (zka q=true):=dD<|by rw[HI.out];simp[hr]
   skip
   go_wp2_with (refine jE rfl (.tmp 32) (.const (.bool false)) 4 rfl base (.slice (some ⟨g,0,none⟩) n cv) fs OW1.out g i 9 rfl q (frU q) HQ.out [.bool false] (by kernel_rfl) rfl (Nat.le_of_ble_eq_true rfl) (by intro u hu;simp at hu;subst hu;rfl) _ rfl (by simp) _ rfl rfl ?_)
   intro W2 ow2 gr2 _;have OW2:Hid (zi base W2 (.slice (some ⟨g,0,none⟩) n cv) (fs.set i (frU q))):=ow2;have HB2:Hid (Box W2 B [.slice (some ⟨g,0,none⟩) n cv,.int .i64 (((i:Int)+1) %(n:Int))]):=HB1.out.beside gr2 (fun g' hg'=>by cases hg';exact hBg)
   have BL2:Hid (Below b0 W W2):=Below.grown BL1.out gr2 (by have:=bS BL1.out;omega) (fun g' hg'=>by cases hg';exact h2)
   clear ow2 gr2 u8 u9 e0;go_wp2
   go_ret2
   exact⟨by rw[HF.out];rfl,by rw[<-HMOD.out];exact HB2.out,OW2.out,BL2.out⟩
 
 have HF:Hid (zka q=false):=dD<|by rw[HI.out];simp[hr]
 skip
 go_wp2_with (refine jE rfl (.tmp 32) (.const (.bool false)) 4 rfl base (.slice (some ⟨g,0,none⟩) n cv) fs OW1.out g i 9 rfl q (frU q) HQ.out [.bool false] (by kernel_rfl) rfl (Nat.le_of_ble_eq_true rfl) (by intro u hu;simp at hu;subst hu;rfl) _ rfl (by simp) _ rfl rfl ?_)
 intro W2 ow2 gr2 _;have OW2:Hid (zi base W2 (.slice (some ⟨g,0,none⟩) n cv) (fs.set i (frU q))):=ow2;have HB2:Hid (Box W2 B [.slice (some ⟨g,0,none⟩) n cv,.int .i64 (((i:Int)+1) %(n:Int))]):=HB1.out.beside gr2 (fun g' hg'=>by cases hg';exact hBg)
 have BL2:Hid (Below b0 W W2):=Below.grown BL1.out gr2 (by have:=bS BL1.out;omega) (fun g' hg'=>by cases hg';exact h2)
 clear ow2 gr2 u8 u9 e0;go_wp2
 go_ret2
 exact⟨by rw[HF.out];rfl,by rw[<-HMOD.out];exact HB2.out,OW2.out,BL2.out⟩
def Q0:Nat->List Fr->Nat->List Fr × Nat × Int
 | 0,fs,h=>(fs,h,-1)
 | m+1,fs,h=>if zka (fs.getD h fr0)then(fs.set h (frU (fs.getD h fr0)),(h+1) % fs.length,(h:Int))else Q0 m (fs.set h (frU (fs.getD h fr0))) ((h+1) % fs.length)
def zjg (fs:List Fr) (h:Int):List Fr × Nat × Int:=Q0 (2*fs.length) fs h.toNat
def zgx (fs:List Fr) (h:Int):List Fr:=if Qn fs h=0 then(zjg fs h).1 else []
def zgw (fs:List Fr) (h:Int):Int:=if Qn fs h=0 then((zjg fs h).2.1:Int)else 0
def zhO (fs:List Fr) (h:Int):Int:=if Qn fs h=0 then(zjg fs h).2.2 else 0
theorem zlk (a:Option Addr) (c:Nat) (fs:List Fr) (h:Int) (w:World) (hv:qh w (.slice a fs.length c) fs) (z:Int) (hz:Qn fs h=z) (hzb:(z != 0)=true):
  Calls prog 117 #[.agg #[.slice a fs.length c,.int .i64 h]] w fun e w'=>∃b,e= .returned (.tuple #[.agg #[b,.int .i64 0],.int .i64 0,.int .i64 z])/\zi w.heap.size w' b ([]:List Fr)/\zc w w':=by
 have HV:Hid (qh w (.slice a fs.length c) fs):=hv;have hw:∀W,zc w W->Calls prog 152 #[.agg #[.slice a fs.length c,.int .i64 h]] W fun e w'=>e= .returned (.int .i64 (Qn fs h))/\zc W w':=fun W hW=>QP a c fs h W (HV.out.grew hW)
 clear hv;obtain⟨n,HN⟩:∃n,Hid (fs.length=n):=⟨_,rfl⟩;simp only[HN.out,hz]at hw HV⊢;clear hz;obtain⟨W0,hW0⟩:∃W0,(w.alloc (.cells #[.slice a n c,.int .i64 h] 28)).alloc (.cells #[.slice none 0 0,.int .i64 0] 28)=W0:=⟨_,rfl⟩;have HG0:=gD2 hW0
 have X0:=x2a hW0
 have X2:=x2b hW0
 have HW0:Hid (_=W0):=hW0;clear hW0
 go_enter func117,ntmps117
 go_upto_region 1 with fail;rw[HW0.out];have e0:=X0.out.c 0 rfl;have e1:=X0.out.c 1 rfl;go_wp2_with fail;refine(hw _ HG0.out).mono ?_;rintro e W1 ⟨rfl,g1⟩;have G1:Hid (zc W0 W1):=g1;clear g1 e0 e1 hw;have r0:=(X2.out.grew G1.out).c 0 rfl;have r1:=(X2.out.grew G1.out).c 1 rfl;have rf:=(X2.out.grew G1.out).f;go_wp2;refine bodyPost_ret (v:= .tuple #[.agg #[.slice none 0 0,.int .i64 0],.int .i64 0,.int .i64 z]) (by simp[results,Tryz.results117,go_sem, *]) rfl ⟨_,rfl,zi.nil _ _,?_⟩
 exact zC (zC (HG0.out.trans G1.out) (by simp) _) (by simp) _
theorem zlj (a:Option Addr) (c:Nat) (fs:List Fr) (i0:Nat) (w:World) (hv:qh w (.slice a fs.length c) fs) (hz:Qn fs (i0:Int)=0):
  Calls prog 117 #[.agg #[.slice a fs.length c,.int .i64 (i0:Int)]] w fun e w'=>∃b,e= .returned (.tuple #[.agg #[b,.int .i64 ((Q0 (2*fs.length) fs i0).2.1:Int)],.int .i64 (Q0 (2*fs.length) fs i0).2.2,.int .i64 0])/\zi w.heap.size w' b (Q0 (2*fs.length) fs i0).1/\zc w w':=by
 have HV:Hid (qh w (.slice a fs.length c) fs):=hv;have hw:∀W,zc w W->Calls prog 152 #[.agg #[.slice a fs.length c,.int .i64 (i0:Int)]] W fun e w'=>e= .returned (.int .i64 (Qn fs (i0:Int)))/\zc W w':=fun W hW=>QP a c fs _ W (HV.out.grew hW)
 have ho:∀W,zc w W->Calls prog 58 #[.agg #[.slice a fs.length c,.int .i64 (i0:Int)]] W fun e w'=>∃b,e= .returned (.agg #[b,.int .i64 (i0:Int)])/\zi W.heap.size w' b fs/\zc W w':=fun W hW=>zco a c fs _ W (HV.out.grew hW)
 obtain⟨h40,_,_,hhand⟩:=zdV hz;have eg:=enters_of func163 (by kernel_rfl) rfl
 clear hv;obtain⟨n,HN⟩:∃n,Hid (fs.length=n):=⟨_,rfl⟩;simp only[HN.out,hz]at hw HV ho h40 hhand⊢;clear hz;obtain⟨R,HRR⟩:∃R,Hid (Q0 (2*n) fs i0=R):=⟨_,rfl⟩;rw[HRR.out];obtain⟨W0,hW0⟩:∃W0,(w.alloc (.cells #[.slice a n c,.int .i64 (i0:Int)] 28)).alloc (.cells #[.slice none 0 0,.int .i64 0] 28)=W0:=⟨_,rfl⟩;have HG0:=gD2 hW0
 have X0:=x2a hW0
 have X2:=x2b hW0
 have HW0:Hid (_=W0):=hW0;clear hW0
 go_enter func117,ntmps117
 go_upto_region 1 with fail;rw[HW0.out];have e0:=X0.out.c 0 rfl;have e1:=X0.out.c 1 rfl;go_wp2_with fail;refine(hw _ HG0.out).mono ?_;rintro e W1 ⟨rfl,g1⟩;have G1:Hid (zc W0 W1):=g1;clear g1 e0 e1 hw;have e0:=(X0.out.grew G1.out).c 0 rfl;have e1:=(X0.out.grew G1.out).c 1 rfl;go_wp2_with fail;refine(ho _ (HG0.out.trans G1.out)).mono ?_;rintro e W4 ⟨b,rfl,hown,g4⟩;obtain⟨av,cv,rfl⟩:=hown.form;rw[HN.out]at hown⊢;have OW:Hid (zi W1.heap.size W4 (.slice av n cv) fs):=hown;have G4:=dD (G1.out.trans g4);have g34:Hid (W1.heap.size<=W4.heap.size):=bS g4;have HX2:Hid (w.heap.size+1<W1.heap.size):=(X2.out.grew G1.out).lt;have HWW:Hid (w.heap.size<=W1.heap.size):=bS (HG0.out.trans G1.out);clear hown g4 e0 e1 ho;obtain⟨W5,hW5⟩:∃W5,W4.alloc (.cells #[.slice av n cv,.int .i64 (i0:Int)] 28)=W5:=⟨_,rfl⟩;have XO:=xT hW5
 have OW5:Hid (zi W1.heap.size W5 (.slice av n cv) fs):=dD<|by rw[<-hW5];exact OW.out.grew (za _ _)
 have X25:Hid (Box W5 (w.heap.size+1) [.slice none 0 0,.int .i64 0]):=dD<|by rw[<-hW5];exact(X2.out.grew G4.out).alloc _
 have G5:Hid (zc w W5):=dD<|by rw[<-hW5];exact(HG0.out.trans G4.out).trans (za _ _)
 have HW5:Hid (_=W5):=hW5;clear hW5;go_wp2;rw[HW5.out]
 go_loopg [8,9,23] (2*n) (fun gg _ _ s23 wr=>∃(kk hk:Nat) (fk:List Fr),kk<=2*n/\2*n - kk<=gg/\s23= .int .i64 kk/\hk<max n 1/\Hid (fk.length=n)/\Hid (Box wr W4.heap.size [.slice av n cv,.int .i64 (hk:Int)])/\Hid (zi W1.heap.size wr (.slice av n cv) fk)/\Hid (Below W1.heap.size W5 wr)/\Hid (Q0 (2*n - kk) fk hk=R))
 case atStart=>exact⟨0,i0,fs,nZ _,by omega,rfl,by omega,HN.out,XO.out.box,OW5.out,bR _ _,HRR.out⟩
 obtain⟨kk,hk,fk,hkk,hg,rfl,hhk,HL,BO,OF,BL,A⟩:=hrel;have hx2:=HX2.out;have hww:=HWW.out;have X2r:Hid (Box wr (w.heap.size+1) [.slice none 0 0,.int .i64 0]):=X25.out.below BL.out hx2;have GW:Hid (zc w wr):=show zc w wr from Below.trans G5.out (BL.out.mono hww)
 by_cases hlt:kk<2*n
 ·have hltz:(kk:Int)<2*(n:Int):=by omega
  obtain⟨g,cg,hs⟩:=OF.out.formS (by rw[HL.out];omega)
  rw[HL.out]at hs;cases hs;obtain⟨q,HQ⟩:∃q,Hid (fk[hk]? =some q):=⟨_,gE (by rw[HL.out];omega)⟩
  have hgl:=OF.out.lt g rfl;have HNE:Hid (W4.heap.size≠g):=(OW5.out.ne XO.out (by decide) g rfl)
  have hpass:=zi7 W4.heap.size g n cv hk W1.heap.size W1.heap.size fk q wr HL.out h40 HQ.out BO.out OF.out HNE.out g34.out hgl.1;have hgd:fk.getD hk fr0=q:=by rw[gD,HQ.out];rfl
  have HST:Hid (Q0 (2*n - kk) fk hk=if zka q then(fk.set hk (frU q),(hk+1) % n,(hk:Int))else Q0 (2*n -(kk+1)) (fk.set hk (frU q)) ((hk+1) % n)):=dD<|by
   rw[show 2*n - kk=(2*n -(kk+1))+1 by omega,Q0,hgd,HL.out]
  clear hgd
  cases hi:zka q with
  | true=>
   rw[hi]at hpass;have HF:Hid (R=(fk.set hk (frU q),(hk+1) % n,(hk:Int))):=dD<|by rw[<-A.out,HST.out,hi,if_pos rfl]
   clear hi
   go_wp2_with (go_at_call 163;refine hpass.mono ?_;rintro e W6 ⟨rfl,b6,o6,l6⟩;have r0:=(X2r.out.below l6 hx2).c 0 rfl;have r1:=(X2r.out.below l6 hx2).c 1 rfl;have rf:=(X2r.out.below l6 hx2).f;have o0:=b6.c 0 rfl;have o1:=b6.c 1 rfl;have O6:Hid (zi W1.heap.size W6 (.slice (some ⟨g,0,none⟩) n cv) (fk.set hk (frU q))):=o6;have GW6:Hid (zc w W6):=show zc w W6 from Below.trans GW.out (l6.mono hww);clear o6 l6)
   refine bodyPost_ret (v:= .tuple #[.agg #[.slice (some ⟨g,0,none⟩) n cv,.int .i64 (((hk+1) % n:Nat):Int)],.int .i64 (hk:Int),.int .i64 0]) (by simp[results,Tryz.results117,go_sem, *]) rfl ⟨.slice (some ⟨g,0,none⟩) n cv,?_,?_,?_⟩
   ·rw[HF.out]
   ·rw[HF.out];exact((O6.out.setCell (a:=⟨w.heap.size+1,0,none⟩) (by show w.heap.size+1<_;omega) _).setCell (a:=⟨w.heap.size+1,1,none⟩) (by show w.heap.size+1<_;omega) _).base hww
   exact zC (zC GW6.out (by simp) _) (by simp) _
  | false=>
   rw[hi]at hpass;have HA:Hid (Q0 (2*n -(kk+1)) (fk.set hk (frU q)) ((hk+1) % n)=R):=dD<|by rw[<-A.out,HST.out,hi];rfl
   clear hi
   go_wp2_with (go_at_call 163;refine hpass.mono ?_;rintro e W6 ⟨rfl,b6,o6,l6⟩;have B6:Hid (Box W6 W4.heap.size [.slice (some ⟨g,0,none⟩) n cv,.int .i64 (((hk+1) % n:Nat):Int)]):=b6;have O6:Hid (zi W1.heap.size W6 (.slice (some ⟨g,0,none⟩) n cv) (fk.set hk (frU q))):=o6;have L6:Hid (Below W1.heap.size W5 W6):=Below.trans BL.out l6;clear b6 o6 l6)
   go_roundg (2*n -(kk+1))
   case measure=>omega
   exact⟨kk+1,(hk+1) % n,fk.set hk (frU q),by omega,by omega,by go_num,(by have:=Nat.mod_lt (hk+1) (show 0<n by omega);omega),(show(fk.set hk (frU q)).length=n by rw[List.length_set];exact HL.out),B6.out,O6.out,L6.out,HA.out⟩
 have hltz:¬(kk:Int)<2*(n:Int):=by omega
 have:kk=2*n:=by omega
 subst this;have HF:Hid (R=(fk,hk,-1)):=dD<|by rw[<-A.out,Nat.sub_self];rfl
 have r0:=X2r.out.c 0 rfl;have r1:=X2r.out.c 1 rfl;have rf:=X2r.out.f;have o0:=BO.out.c 0 rfl;have o1:=BO.out.c 1 rfl;go_wp2;refine bodyPost_ret (v:= .tuple #[.agg #[.slice av n cv,.int .i64 (hk:Int)],.int .i64 (-1),.int .i64 0]) (by simp[results,Tryz.results117,go_sem, *]) rfl ⟨.slice av n cv,?_,?_,?_⟩
 ·rw[HF.out]
 ·rw[HF.out];exact((OF.out.setCell (a:=⟨w.heap.size+1,0,none⟩) (by show w.heap.size+1<_;omega) _).setCell (a:=⟨w.heap.size+1,1,none⟩) (by show w.heap.size+1<_;omega) _).base hww
 exact zC (zC GW.out (by simp) _) (by simp) _
theorem zhN (a:Option Addr) (c:Nat) (fs:List Fr) (h:Int) (w:World) (hv:qh w (.slice a fs.length c) fs):
  Calls prog 117 #[.agg #[.slice a fs.length c,.int .i64 h]] w fun e w'=>∃b,e= .returned (.tuple #[.agg #[b,.int .i64 (zgw fs h)],.int .i64 (zhO fs h),.int .i64 (Qn fs h)])/\zi w.heap.size w' b (zgx fs h)/\zc w w':=by
 unfold zgw zhO zgx zjg
 by_cases hz:Qn fs h=0
 ·rw[if_pos hz,if_pos hz,if_pos hz];obtain⟨i0,rfl⟩:=Int.eq_ofNat_of_zero_le (zdV hz).2.2.1;rw[tN,hz];exact zlj a c fs i0 w hv hz
 rw[if_neg hz,if_neg hz,if_neg hz];exact zlk a c fs h w hv _ rfl (by simpa using hz)
def zjh (m:Ma):Ma:={ m with fs:=zgx m.fs m.hand,hand:=zgw m.fs m.hand }
theorem zlp {w:World} {p:Nat} (h:ChW w0 p w V m) (hz:Qn m.fs m.hand=0):
  Calls prog 117 #[.agg #[.slice V.f.a V.f.n V.f.c,.int .i64 m.hand]] w fun e w'=>∃b:Sli,e= .returned (.tuple #[.agg #[.slice b.a b.n b.c,.int .i64 (zgw m.fs m.hand)],.int .i64 (zhO m.fs m.hand),.int .i64 0])/\zb QO w.heap.size w' (.slice b.a b.n b.c) (zgx m.fs m.hand)/\zc w w':=by
 obtain⟨n1,-⟩:=h.at.ns;have k:=h.at.fs;rw[n1]at k⊢;refine(zhN V.f.a V.f.c m.fs m.hand w k).mono ?_;rintro e w' ⟨b,rfl,nr,g⟩;have nr':zb QO w.heap.size w' b (zgx m.fs m.hand):=nr;obtain⟨a,c,rfl⟩:=nr'.form;rw[hz];exact⟨⟨a,_,c⟩,rfl,nr,g⟩
theorem zfk {w:World} {p:Nat} (h:ChW w0 p w V m) (hz:Qn m.fs m.hand=0) (hi:zhO m.fs m.hand=-1) (hl:0<m.fs.length) (hl2:m.fs.length<=40) (mv:Value):
  Calls prog 73 #[.pointer (some ⟨p,0,none⟩),mv] w fun e w'=>e= .returned (.bool false)/\Chg w0 p w V (zjh m) w':=by
 have HM:Hid (ChW w0 p w V m):=h;obtain⟨n1,-⟩:=h.at.ns;have hn:0<V.f.n:=by omega
 have hn2:V.f.n<=40:=by omega
 have x0:=h.box.box.c 0 rfl;have x1:=h.box.box.c 1 rfl;have hnx:=zlp h hz;rw[hi]at hnx;clear h hz hi hl hl2 n1;obtain⟨fn,HFN⟩:∃fn,Hid (V.f.n=fn):=⟨_,rfl⟩;rw[HFN.out]at x0 hn hn2 hnx;have hnz:(0:Int)<2*(fn:Int):=by omega
 go_enter func73,ntmps73
 go_wp2
 go_loopg [14] 1 (fun gg s14 wr=>s14= .int .i64 0/\0<gg/\wr=w)
 case atStart=>exact⟨rfl,by omega,rfl⟩
 obtain⟨rfl,hgg,rfl⟩:=hrel;go_wp2_with fail;refine hnx.mono ?_;clear hnx x0 x1;rintro e W1 ⟨b,rfl,nr,g1⟩;have B1:=dD (HM.out.box.grew g1);have HNR:Hid (zb QO wr.heap.size W1 (.slice b.a b.n b.c) (zgx m.fs m.hand)):=nr;have G1:Hid (zc wr W1):=g1;clear nr g1
 go_upto_region 5 with(refine JV rfl 28 (.tmp 29) (.tmp 24) rfl p 0 rfl (.agg #[.slice b.a b.n b.c,.int .i64 (zgw m.fs m.hand)]) rfl [.slice b.a b.n b.c,.int .i64 (zgw m.fs m.hand)] rfl B1.out (by simp[chL]) (by kernel_rfl) (by simp[Value.oneCell']) ?_)
 intro W2 bx gr2 _;have M2:Hid (Chg w0 p wr V (zjh m) W2):=dD<|HM.out.setF G1.out HNR.out gr2 bx
 clear bx gr2;try simp only[Act.put]
 go_wp2;go_ret;exact⟨rfl,M2.out⟩
def zlC (B:Nat) (V:MaV):Prop:=(jb B V.f.v/\jb B V.s.v/\jb B V.sb.v/\jb B V.sq.v)/\(jb B V.db.v/\jb B V.dq.v/\jb B V.fl.v/\jb B V.ca.v/\jb B V.sp.v)
theorem jb.less {a:Nat} {v:Value} (h:jb b v) (k:a<=b):jb a v:=fun x n c e=>nT k (h x n c e)
theorem zjl (cf cs cb:Int) (hfew:zkd cf cs cb) (w:World):
  Calls prog 77 #[.agg #[.int .i64 cf,.int .i64 cs,.int .i64 cb]] w fun e w'=>(∃V:MaV,e= .returned (.tuple #[.agg #[.slice V.f.a V.f.n V.f.c,.int .i64 0,.slice V.s.a V.s.n V.s.c,.slice V.sb.a V.sb.n V.sb.c,.slice V.sq.a V.sq.n V.sq.c,.slice V.db.a V.db.n V.db.c,.slice V.dq.a V.dq.n V.dq.c,.slice V.fl.a V.fl.n V.fl.c,.int .i64 cb,.slice V.ca.a V.ca.n V.ca.c,.slice V.sp.a V.sp.n V.sp.c],.int .i64 0])/\zD w' V (zap cf cs cb)/\zlC w.heap.size V/\∃ps,V.sp=⟨some ⟨ps,0,none⟩,1,1⟩)/\zc w w':=by
 obtain⟨W0,hW0⟩:∃W0,(w.alloc (.cells #[.int .i64 cf,.int .i64 cs,.int .i64 cb] 23)).alloc (.cells #[.slice none 0 0,.int .i64 0,.slice none 0 0,.slice none 0 0,.slice none 0 0,.slice none 0 0,.slice none 0 0,.slice none 0 0,.int .i64 0,.slice none 0 0,.slice none 0 0] 41)=W0:=⟨_,rfl⟩;have HG0:=gD2 hW0
 have X0:=x2a hW0
 have Y0:=x2b hW0
 have HW0:Hid (_=W0):=hW0;clear hW0;obtain⟨e1,HE1⟩:∃e,Hid (zgC cf=e):=⟨_,rfl⟩;obtain⟨e2,HE2⟩:∃e,Hid (zgy cs=e):=⟨_,rfl⟩;obtain⟨e3,HE3⟩:∃e,Hid (QK cs=e):=⟨_,rfl⟩;obtain⟨e4,HE4⟩:∃e,Hid (QK cb=e):=⟨_,rfl⟩;obtain⟨e5,HE5⟩:∃e:Int,Hid ((if 0<=cb/\cb<=80 then(0:Int)else 4)=e):=⟨_,rfl⟩;obtain⟨z5,HZ5⟩:∃e:Int,Hid ((if 0<=cb/\cb<=80 then cb else 0)=e):=⟨_,rfl⟩;have h1:=fun W=>zgB cf W
 have h2:=fun W=>zjk cs W
 have h3:=fun W=>zdU cs W
 have h4:=fun W=>zdU cb W
 have h5:=fun W=>zhP cb W
 rw[HE1.out]at h1;rw[HE2.out]at h2;rw[HE3.out]at h3;rw[HE4.out]at h4;rw[HE5.out,HZ5.out]at h5;have HES:Hid (zjm cf cs cb=[e1,e2,e3,e4,e5]):=dD<|by unfold zjm;rw[HE1.out,HE2.out,HE3.out,HE4.out,HE5.out]
 have H1:Hid (∀W,_):=h1;have H2:Hid (∀W,_):=h2;have H3:Hid (∀W,_):=h3;have H4:Hid (∀W,_):=h4;have H5:Hid (∀W,_):=h5;clear h1 h2 h3 h4 h5
 go_enter func77,ntmps77
 go_upto_region 1 with fail;rw[HW0.out];have x0:=X0.out.c 0 rfl;go_wp2_with fail;refine(H1.out _).mono ?_;rintro e W1 ⟨mf,rfl,⟨r1,f1⟩,g1⟩;clear x0;have R1:Hid (zr QO W1 (.slice mf.a mf.n mf.c) (zhR cf)):=r1;have HG1:Hid (zc W0 W1):=g1;have FR1:Hid (jb W0.heap.size (.slice mf.a mf.n mf.c)):=f1;clear r1 g1 f1;go_upto_region 2 with fail;obtain⟨W2,hW2⟩:∃W2,W1.alloc (.cells #[.slice mf.a mf.n mf.c,.int .i64 0] 28)=W2:=⟨_,rfl⟩;have HG2:=gA hW2
 have B2:=xA hW2
 rw[hW2];clear hW2;obtain⟨p2,HP2⟩:∃p,Hid (W1.heap.size=p):=⟨_,rfl⟩;rw[HP2.out]at B2⊢;have x1:=(X0.out.grew (HG1.out.trans HG2.out)).c 1 rfl;go_wp2_with fail;refine(H2.out _).mono ?_;rintro e W3 ⟨ms,rfl,⟨r3,f3⟩,g3⟩;clear x1;have R3:Hid (zr slE W3 (.slice ms.a ms.n ms.c) (zhQ cs)):=r3;have HG3:Hid (zc W2 W3):=g3;have HG03:=dD ((HG1.out.trans HG2.out).trans g3);have FR3:Hid (jb W2.heap.size (.slice ms.a ms.n ms.c)):=f3;clear r3 g3 f3;have x1:=(X0.out.grew HG03.out).c 1 rfl;go_upto_region 3 with fail;go_wp2_with fail;refine(H3.out _).mono ?_;rintro e W4 ⟨mb,mq,rfl,⟨r4,r5,f4,f5⟩,g4⟩;clear x1;have R4:Hid (qK W4 (.slice mb.a mb.n mb.c) (zfJ cs)):=r4;have R5:Hid (qE W4 (.slice mq.a mq.n mq.c) []):=r5;have HG4:Hid (zc W3 W4):=g4;have FR4:Hid (jb W3.heap.size (.slice mb.a mb.n mb.c)):=f4;have FR5:Hid (jb W3.heap.size (.slice mq.a mq.n mq.c)):=f5;clear r4 r5 g4 f4 f5;go_upto_region 4 with fail;obtain⟨W5,hW5⟩:∃W5,W4.alloc (.cells #[.slice mb.a mb.n mb.c,.slice mq.a mq.n mq.c] 34)=W5:=⟨_,rfl⟩;have HG5:=gA hW5
 have B5:=xA hW5
 rw[hW5];clear hW5;obtain⟨p5,HP5⟩:∃p,Hid (W4.heap.size=p):=⟨_,rfl⟩;rw[HP5.out]at B5⊢;have HG05:=dD ((HG03.out.trans HG4.out).trans HG5.out);have x2:=(X0.out.grew HG05.out).c 2 rfl;go_wp2_with fail;refine(H4.out _).mono ?_;rintro e W6 ⟨md,me,rfl,⟨r6,r7,f6,f7⟩,g6⟩;clear x2;have R6:Hid (qK W6 (.slice md.a md.n md.c) (zfJ cb)):=r6;have R7:Hid (qE W6 (.slice me.a me.n me.c) []):=r7;have HG6:Hid (zc W5 W6):=g6;have FR6:Hid (jb W5.heap.size (.slice md.a md.n md.c)):=f6;have FR7:Hid (jb W5.heap.size (.slice me.a me.n me.c)):=f7;clear r6 r7 g6 f6 f7;go_upto_region 5 with fail;obtain⟨W7,hW7⟩:∃W7,W6.alloc (.cells #[.slice md.a md.n md.c,.slice me.a me.n me.c] 34)=W7:=⟨_,rfl⟩;have HG7:=gA hW7
 have B7:=xA hW7
 rw[hW7];clear hW7;obtain⟨p7,HP7⟩:∃p,Hid (W6.heap.size=p):=⟨_,rfl⟩;rw[HP7.out]at B7⊢;have HG07:=dD ((HG05.out.trans HG6.out).trans HG7.out);have x2:=(X0.out.grew HG07.out).c 2 rfl;go_wp2_with fail;refine(H5.out _).mono ?_;rintro e W8 ⟨rfl,g8⟩;clear x2;have HG8:Hid (zc W7 W8):=g8;clear g8;go_upto_region 6 with fail;obtain⟨W9,hW9⟩:∃W9,W8.alloc (.cells #[.slice none 0 0,.int .i64 z5] 37)=W9:=⟨_,rfl⟩;have HG9:=gA hW9
 have B9:=xA hW9
 rw[hW9];clear hW9;obtain⟨p9,HP9⟩:∃p,Hid (W8.heap.size=p):=⟨_,rfl⟩;rw[HP9.out]at B9⊢;obtain⟨E,HE⟩:∃E,Hid (zx [e1,e2,e3,e4,e5]=E):=⟨_,rfl⟩;have hor:=zbq (.slice (some ⟨W9.heap.size,0,none⟩) 5 5) [e1,e2,e3,e4,e5] _ (zeW zhh W9 [e1,e2,e3,e4,e5] #[.int .i64 e1,.int .i64 e2,.int .i64 e3,.int .i64 e4,.int .i64 e5] rfl (show 5*8<=140737488355328 by decide))
 rw[HE.out]at hor;go_wp2_with fail;refine hor.mono ?_;rintro e W10 ⟨rfl,hw10⟩;clear hor;have HG10:Hid (zc W9 W10):=dD<|by rw[hw10];exact za _ _
 clear hw10;have HGW:=dD (((HG07.out.trans HG8.out).trans HG9.out).trans HG10.out);have Y10:=dD (Y0.out.grew HGW.out);have hE0:E=0:=by rw[<-HE.out,<-HES.out];exact zhS hfew
 subst hE0;have b20:=(B2.out.grew ((((((HG3.out.trans HG4.out).trans HG5.out).trans HG6.out).trans HG7.out).trans HG8.out).trans (HG9.out.trans HG10.out))).c 0 rfl;have b21:=(B2.out.grew ((((((HG3.out.trans HG4.out).trans HG5.out).trans HG6.out).trans HG7.out).trans HG8.out).trans (HG9.out.trans HG10.out))).c 1 rfl;have b50:=(B5.out.grew (((HG6.out.trans HG7.out).trans HG8.out).trans (HG9.out.trans HG10.out))).c 0 rfl;have b51:=(B5.out.grew (((HG6.out.trans HG7.out).trans HG8.out).trans (HG9.out.trans HG10.out))).c 1 rfl;have b70:=(B7.out.grew ((HG8.out).trans (HG9.out.trans HG10.out))).c 0 rfl;have b71:=(B7.out.grew ((HG8.out).trans (HG9.out.trans HG10.out))).c 1 rfl;have b90:=(B9.out.grew HG10.out).c 0 rfl;have b91:=(B9.out.grew HG10.out).c 1 rfl;have HFEW:Hid (zkd cf cs cb):=hfew;clear hfew;go_upto_region 9 with fail;obtain⟨W11,hW11⟩:∃W11,W10.alloc (.cells #[.bool true,.slice none 0 0,.slice none 0 0,.slice none 0 0,.slice none 0 0,.slice none 0 0,.slice none 0 0,.slice none 0 0,.slice none 0 0,.slice none 0 0] 63)=W11:=⟨_,rfl⟩;have HG11:=gA hW11
 have S11:Hid (zr Zx W11 (.slice (some ⟨W10.heap.size,0,none⟩) 1 1) [⟨true,zu,zu,zu,zu,zu,zu,zu,zu,zu⟩]):=dD<|by rw[<-hW11];exact jN Zx W10 ⟨true,zu,zu,zu,zu,zu,zu,zu,zu,zu⟩ _ _ rfl (by decide)
 have Y11:=dD (Y10.out.grew HG11.out);have HW11:Hid (_=W11):=hW11;clear hW11;obtain⟨ps,HPS⟩:∃p,Hid (W10.heap.size=p):=⟨_,rfl⟩
 go_wp2_with (first | (rw[HW11.out];rw[HPS.out];refine zX rfl 41 (.tmp 2) (.tmp 63) rfl (w.heap.size+1) rfl [.slice mf.a mf.n mf.c,.int .i64 0,.slice ms.a ms.n ms.c,.slice mb.a mb.n mb.c,.slice mq.a mq.n mq.c,.slice md.a md.n md.c,.slice me.a me.n me.c,.slice none 0 0,.int .i64 z5,.slice none 0 0,.slice (some ⟨ps,0,none⟩) 1 1] rfl Y11.out rfl (by kernel_rfl) (fun v hv=>by
   simp only[mC,nM,or_false]at hv
   rcases hv with rfl|rfl|rfl|rfl|rfl|rfl|rfl|rfl|rfl|rfl|rfl <;> rfl) ?_))
 intro W12 hb12 hg12 _;clear b20 b21 b50 b51 b70 b71 b90 b91;have HG12:Hid (zc w W12):=dD<|ze ((HG0.out.trans HGW.out).trans HG11.out) hg12 (by omega)
 have HS0:w.heap.size+1<W0.heap.size:=Y0.out.lt;have k1:=bS HG1.out;have k2:=bS HG2.out;have k3:=bS HG3.out;have k4:=bS HG4.out;have k5:=bS HG5.out;have kw:=bS HGW.out;have far:∀{b:Nat} {v:Value},W0.heap.size<=b->jb b v->∀x n c,v= .slice (some x) n c->some x.block≠some (w.heap.size+1):=fun hb hf x n c hv e=>by
  have:=hf x n c hv;simp only[Option.some.injEq]at e;omega
 have t1:zc W1 W11:=((((((HG2.out.trans HG3.out).trans HG4.out).trans HG5.out).trans HG6.out).trans HG7.out).trans HG8.out).trans ((HG9.out.trans HG10.out).trans HG11.out);have t3:zc W3 W11:=((((HG4.out.trans HG5.out).trans HG6.out).trans HG7.out).trans HG8.out).trans ((HG9.out.trans HG10.out).trans HG11.out);have t4:zc W4 W11:=(((HG5.out.trans HG6.out).trans HG7.out).trans HG8.out).trans ((HG9.out.trans HG10.out).trans HG11.out);have t6:zc W6 W11:=(HG7.out.trans HG8.out).trans ((HG9.out.trans HG10.out).trans HG11.out);have HMA:Hid (zD W12 ⟨mf,ms,mb,mq,md,me,zu,zu,⟨some ⟨ps,0,none⟩,1,1⟩⟩ (zap cf cs cb)):=dD<|by
  obtain⟨hf1,hf2,hf3⟩:=HFEW.out;refine⟨?_,?_,?_,?_,?_,?_,?_,zr.nil qX W12,?_⟩
  ·have h:=(R1.out.grew t1).beside hg12 (far (nR _) FR1.out);unfold zhR at h;rw[if_pos hf1]at h;exact h
  ·have h:=(R3.out.grew t3).beside hg12 (far (by omega) FR3.out)
   unfold zhQ at h;rw[if_pos hf2]at h;exact h
  ·have h:qK W12 (.slice mb.a mb.n mb.c) (zfJ cs):=⟨(R4.out.grew t4).1.beside hg12 (far (by omega) FR4.out),R4.out.2⟩
   unfold zfJ at h;rw[if_pos (by omega)]at h
   exact h
  ·exact⟨(R5.out.grew t4).1.beside hg12 (far (by omega) FR5.out),R5.out.2⟩
  ·have h:qK W12 (.slice md.a md.n md.c) (zfJ cb):=⟨(R6.out.grew t6).1.beside hg12 (far (by omega) FR6.out),R6.out.2⟩
   unfold zfJ at h;rw[if_pos hf3]at h;exact h
  ·exact⟨(R7.out.grew t6).1.beside hg12 (far (by omega) FR7.out),R7.out.2⟩
  ·exact⟨nR _,[],fun w' _=>zr.nil fvE w',rfl,fun i x f hx=>by simp at hx⟩
  have hs:=S11.out;rw[HPS.out]at hs;refine⟨_,hs.beside hg12 (fun x n c hx e=>?_),rfl,fun i x s hx hs=>?_⟩
  ·cases hx;simp only[Option.some.injEq]at e;have:=HPS.out;omega
  cases i with
  | zero=>
   cases hx;cases hs;exact⟨rfl,zr.nil arE W12,nR _,Js.nil 0 0 W12⟩
  | succ i=>simp at hx
 have HNV:Hid (zlC w.heap.size ⟨mf,ms,mb,mq,md,me,zu,zu,⟨some ⟨ps,0,none⟩,1,1⟩⟩):=dD<|by
  refine⟨⟨FR1.out.less (by omega),FR3.out.less (by omega),FR4.out.less (by omega),FR5.out.less (by omega)⟩,FR6.out.less (by omega),FR7.out.less (by omega),j6 _,j6 _,fun x n c e=>?_⟩
  cases e;have:=HPS.out
  show w.heap.size<=ps
  omega
 have hz5:z5=cb:=by rw[<-HZ5.out,if_pos HFEW.out.2.2]
 subst hz5;clear t1 t3 t4 t6 far k1 k2 k3 k4 k5 kw;go_wp2;refine bodyPost_ret (ZS rfl _ rfl hb12 underlying41 rfl (by kernel_rfl)) rfl ⟨⟨⟨mf,ms,mb,mq,md,me,zu,zu,⟨some ⟨ps,0,none⟩,1,1⟩⟩,rfl,HMA.out,HNV.out,ps,rfl⟩,HG12.out⟩
end
section
theorem zcw {k:Nat} {fr:Fr} (hk:k<m.fs.length) (hca:zaT m none m.ca=0) (hc:qm m.ca k≠0->fr.p=(zV m k).p) (file idx:Int):Zj { m with fs:=m.fs.set k fr } file idx=Zj m file idx:=by
 obtain⟨a1,_,_⟩:=zO.1 hca;refine ziw (m:=m) (m':={ m with fs:=m.fs.set k fr }) rfl rfl rfl rfl (fun c hcm=>?_) file idx
 rw[ji hk c.fr (Jy (a1 c hcm)).1.2.2.2.2.1]
 by_cases e:c.fr=(k:Int)
 ·rw[if_pos e,e];exact hc (by have:=zaw hcm;rw[e]at this;exact this)
 rw[if_neg e]
theorem zhA {k:Nat} {fr:Fr} {x:On} {e:En} (hk:k<m.fs.length) (hca:zaT m none m.ca=0) (hc:qm m.ca k≠0->fr.p=(zV m k).p) (h0:e.kind=1->0<=e.n) (he:e.kind=1->e.n=(k:Int)->fr.p=(zV m k).p/\(fr.f<0↔(zV m k).f<0)):zj7 { m with fs:=m.fs.set k fr } x e=zj7 m x e:=by
 refine zi2 rfl rfl (fun h1=>?_) (fun _=>rfl) (fun _=>rfl) (zcw hk hca hc)
 rw[ji hk e.n (h0 h1)]
 by_cases ek:e.n=(k:Int)
 ·rw[if_pos ek,ek];exact he h1 ek
 rw[if_neg ek];exact⟨rfl,Iff.rfl⟩
structure Rt (m:Ma):Prop where
 w:maW m=0
 t8:∀s∈m.sp,s.tb.length=8
theorem Rt.inv (h:Rt m):qO m (zas m):=(zbh h.w).1
theorem Rt.hand (h:Rt m):0<=m.hand/\m.hand<max (m.fs.length:Int) 1:=(zbh h.w).2
theorem Rt.tb (h:Rt m) {s:Sp} (hs:s∈m.sp):zkW s.tb:=by
 refine⟨h.t8 s hs,J0.1 ?_⟩;have h0:=h.w;unfold maW at h0;rw[zH]at h0;have h1:zca m=0:=h0 _ (by simp)
 unfold zca at h1;rw[zH]at h1;have p10:=zH.1 (h1 (zx (m.sp.map spE)) (by simp)) (spE s) (List.mem_map.2 ⟨s,hs,rfl⟩)
 unfold spE at p10
 split at p10
 ·rename_i a
  exact absurd p10 a
 split at p10
 ·rename_i a
  exact absurd p10 a
 rename_i a
 exact Classical.byContradiction a
theorem Rt.of (hb:qO m (zas m)) (ht:∀s∈m.sp,zkW s.tb) (h0:0<=m.hand) (h1:m.hand<max (m.fs.length:Int) 1):Rt m:=by
 refine⟨?_,fun s hs=>(ht s hs).1⟩
 have:=hb.right h0 h1;rw[zjP ht]at this;exact this
theorem zfW {p:Nat} {s:Sp} (h:m.sp[p]? =some s):(zas m)[p]? =some (zN s):=by
 unfold zas;rw[List.getElem?_map,h];rfl
structure Sam (S:Nat->Nat->Prop) (m m':Ma):Prop where
 spl:m'.sp.length=m.sp.length
 sp:∀(q:Nat) s s',m.sp[q]? =some s->m'.sp[q]? =some s'->s'.live=s.live/\s'.ars=s.ars
 see:∀(q n:Nat) s s',m.sp[q]? =some s->m'.sp[q]? =some s'->n<64->¬S q n->zj7 m' (zG s.ars n) (zN s' n)=zj7 m (zG s.ars n) (zN s n)
 fll:m'.fl.length=m.fl.length
 sz:∀f,zhe m' f=zhe m f
 bk:∀f,bkN m' f=bkN m f
 byt:∀(file k:Nat),(k:Int)<zhe m (file:Int)->(Zj m' (file:Int) ((k / 8:Nat):Int)).getD (k % 8) 0=(Zj m (file:Int) ((k / 8:Nat):Int)).getD (k % 8) 0
section
variable{m:Ma} {p n:Nat} {s:Sp}
theorem Rt.ent (h:Rt m) (hs:m.sp[p]? =some s) (hn:n<64):zN s n=en0\/zaD m (zG s.ars n) (zN s n):=h.inv.ent p s _ hs (zfW hs) n hn
theorem Rt.present (h:Rt m) (hs:m.sp[p]? =some s) (hn:n<64) (hk:(zN s n).kind=1):∃(k:Nat) (fr:Fr),(zN s n).n=(k:Int)/\m.fs[k]? =some fr/\zV m (zN s n).n=fr/\fr.r≠0:=by
 rcases h.ent hs hn with e|e
 ·rw[e]at hk;cases hk
 obtain⟨c1,c2,c3,_⟩:=qk e (by omega)
 refine⟨(zN s n).n.toNat,m.fs[(zN s n).n.toNat]'(by omega),by omega,gE _,?_,fun h0=>?_⟩
 ·have:=ZI (m:=m) (k:=(zN s n).n.toNat) (gE (by omega))
  rw[show(((zN s n).n.toNat:Nat):Int)=(zN s n).n by omega]at this
  exact this
 have h1:=(h.inv.free (gE (show(zN s n).n.toNat<m.fs.length by omega)) h0).1
 have h2:=zdg (zfW hs) hn hk;rw[show(((zN s n).n.toNat:Nat):Int)=(zN s n).n by omega]at h1
 omega
end
section
variable{m:Ma} {k p n:Nat} {fr:Fr} {s:Sp}
theorem Rt.kind0 (h:Rt m) (hs:m.sp[p]? =some s) (hn:n<64) (hk:(zN s n).kind=1):0<=(zN s n).n:=by
 obtain⟨k,_,e,_⟩:=h.present hs hn hk;omega
end
section
variable{m:Ma} {k p n:Nat} {fr:Fr} {s:Sp}
theorem zjp (h:Rt m) (hk:m.fs[k]? =some fr) (hr:fr.r≠0) (u d:Bool):Rt { m with fs:=m.fs.set k { fr with u:=u,d:=d } }/\Sam (fun _ _=>False) m { m with fs:=m.fs.set k { fr with u:=u,d:=d } }:=by
 have hkl:=(gS.1 hk).1;have hc:∀file idx,Zj { m with fs:=m.fs.set k { fr with u:=u,d:=d } } file idx=Zj m file idx:=fun file idx=>zcw hkl h.inv.ca (fun _=>by rw[ZI hk]) file idx
 refine⟨Rt.of (h.inv.marks (p:=fr.p) (u:=u) (d:=d) hk hr) (fun s hs=>h.tb hs) h.hand.1 (by simpa using h.hand.2),rfl,fun q s s' h1 h2=>?_,fun q j s s' h1 h2 hj _=>?_,rfl,fun _=>rfl,fun _=>rfl,fun file i _=>by rw[hc]⟩
 ·have:m.sp[q]? =some s':=h2;rw[h1]at this;cases this;exact⟨rfl,rfl⟩
 have:m.sp[q]? =some s':=h2;rw[h1]at this;cases this;refine zhA hkl h.inv.ca (fun _=>by rw[ZI hk]) (h.kind0 h1 hj) (fun _ _=>by rw[ZI hk];exact⟨rfl,Iff.rfl⟩)
end
theorem zhI:∀{l:List Ar} {p:Option Ar} {n:Nat},ZO p l->(zG l n).is=true->0<=(zG l n).page/\((zG l n).page<=11\/(zG l n).file<0)
 | [],_,_,_,h=>by cases h
 | a :: l,p,n,hc,h=>by
  unfold zG at h⊢
  by_cases e:ZN a n=true
  ·rw[if_pos e]at h⊢;have ha:=hc.1;have e':=zZ.1 e;unfold jq at ha;unfold qG;simp only
   split
   ·exact⟨by omega,.inl (by omega)⟩
   exact⟨by omega,.inr (by omega)⟩
  rw[if_neg e]at h⊢;exact zhI hc.2.2 h
theorem Rt.page (h:Rt m) {p n:Nat} {s:Sp} (hs:m.sp[p]? =some s) (hx:(zG s.ars n).is=true):0<=(zG s.ars n).page:=
 (zhI (j2.1 (h.inv.spok s (mG hs)).1).2 hx).1
section
variable{m:Ma}
def zhf (m:Ma) (file idx:Nat) (f:Fl) (b:Int) (db':List (List Int)) (dq':List (Int × List Int)):Ma:={ m with fl:=m.fl.set file ⟨f.size,f.bl.set idx b⟩,db:=db',dq:=dq' }
theorem ziE (h:Rt m) {file idx:Nat} {f:Fl} {db':List (List Int)} {dq':List (Int × List Int)} (hf:m.fl[file]? =some f) (hst:stW (m.fl.set file ⟨f.size,f.bl.set idx (b:Int)⟩) m.cnt=0)
  (hub:∀x,zT (m.fl.set file ⟨f.size,f.bl.set idx (b:Int)⟩) x=true↔(zT m.fl x=true/\x≠-1)\/x=(b:Int)\/(x=-1/\zT (m.fl.set file ⟨f.size,f.bl.set idx (b:Int)⟩) x=true))
  (hdb:db'.length=m.db.length) (hdok:zF db'.length dq'=0) (hblk:∀i:Nat,db'[i]? =m.db[i]?\/∃q∈m.dq,q.1=(i:Int)) (hq:∀q∈dq',q.1=(b:Int)\/∃q'∈m.dq,q'.1=q.1) (hrd:∀i:Int,i≠(b:Int)->Zf db' dq' i=Zf m.db m.dq i)
  (_hb0:f.bl[idx]? =some (b:Int)\/(zT m.fl (b:Int)=false)) (hc:∃c∈m.ca,c.file=(file:Int)/\c.idx=(idx:Int)) (hown:∀(i j:Nat) g,m.fl[i]? =some g->g.bl[j]? =some (b:Int)->i=file/\j=idx):
  (Rt (zhf m file idx f (b:Int) db' dq')/\Sam (fun _ _=>False) m (zhf m file idx f (b:Int) db' dq'))/\∀(i j:Nat),(j:Int)<bkN m (i:Int)->Zj (zhf m file idx f (b:Int) db' dq') (i:Int) (j:Int)=Zj m (i:Int) (j:Int):=by
 have hfl:=(gS.1 hf).1;obtain⟨m',hm'⟩:∃m',zhf m file idx f (b:Int) db' dq'=m':=⟨_,rfl⟩;have hsz:∀z,zhe m' z=zhe m z:=fun z=>by
  rw[<-hm'];unfold zhe zhf;simp only[gD]
  by_cases e:z.toNat=file
  ·rw[e,sF hfl,hf];rfl
  rw[sN (fun h=>e h.symm)]
 have hbk:∀z,bkN m' z=bkN m z:=fun z=>by
  rw[<-hm'];unfold bkN zhf;simp only[gD]
  by_cases e:z.toNat=file
  ·rw[e,sF hfl,hf];simp
  rw[sN (fun h=>e h.symm)]
 have hfr:∀z,zV m' z=zV m z:=fun z=>by rw[<-hm'];rfl
 have hfll:m'.fl.length=m.fl.length:=by rw[<-hm'];simp[zhf]
 have hsp:m'.sp=m.sp:=by rw[<-hm'];rfl
 have hca:m'.ca=m.ca:=by rw[<-hm'];rfl
 have hbI:qO m' (zas m'):=by
  have hT:zas m'=zas m:=by unfold zas;rw[hsp]
  rw[hT];have hi:=h.inv;refine⟨by rw[<-hm'];exact hi.fs40,by rw[<-hm'];exact hi.fok,by rw[<-hm'];exact hi.sl60,by rw[<-hm'];exact hi.sbl,by rw[<-hm'];exact hi.sq,by rw[<-hm'];exact hdok,by rw[<-hm'];exact hst,by rw[<-hm'];show m.cnt=(db'.length:Int);rw[hdb];exact hi.cnt,fun i hil hu=>?_,fun q hqm=>?_,by rw[hsp];exact hi.spl,by rw[hsp];exact hi.spok,by rw[hsp];exact hi.tl,?_,?_,by rw[<-hm'];exact hi.cf,by rw[<-hm'];exact hi.cs⟩
  ·rw[<-hm']at hil hu⊢;have hu':zT m.fl (i:Int)=false:=by
    cases e:zT m.fl (i:Int)with
    | false=>rfl
    | true=>
     have:=(hub (i:Int)).2 (.inl ⟨e,by omega⟩)
     have hu2:zT (m.fl.set file ⟨f.size,f.bl.set idx (b:Int)⟩) (i:Int)=false:=hu;rw[hu2]at this;cases this
   show db'[i]? =_
   rcases hblk i with e|⟨q,q1,q2⟩
   ·rw[e];exact hi.blk i (by rw[<-hdb];exact hil) hu'
   have:=hi.que q q1;rw[q2,hu']at this;cases this
  ·rw[<-hm']at hqm⊢
   show zT (m.fl.set file ⟨f.size,f.bl.set idx (b:Int)⟩) q.1=true
   rcases hq q hqm with e|⟨q',q1,q2⟩
   ·exact(hub _).2 (.inr (.inl e))
   refine(hub _).2 (.inl ⟨?_,?_⟩)
   ·rw[<-q2];exact hi.que q' q1
   have hd:=hi.dok;unfold zF at hd
   split at hd
   ·cases hd
   split at hd
   ·cases hd
   split at hd
   ·cases hd
   rename_i a
   intro e;refine a (List.any_eq_true.2 ⟨q',q1,?_⟩);rw[q2,e]
   simp[jk]
  ·obtain⟨a1,a2,a3⟩:=zO.1 hi.ca;rw[hca];refine zO.2 ⟨fun c hc=>?_,fun q c hq=>(by cases hq),a3⟩
   obtain⟨b1,b2,b3,b4⟩:=Jy (a1 c hc);refine zaJ ?_ (by rw[hfr];exact b2) (by rw[hfr];exact b3) (by rw[hfr];exact b4)
   rw[hfll,hbk];rw[<-hm'];exact b1
  intro p s g hs hg n hn;rw[hsp]at hs
  rcases hi.ent p s g hs hg n hn with e|e
  ·exact .inl e
  refine .inr ⟨e.1,e.2.1,j8 e.2.2 (by rw[<-hm'];rfl) (by rw[<-hm'];rfl) fun hk2=>?_⟩
  rw[hfr];exact⟨rfl,rfl,(qk e hk2).2.2.2⟩
 have hcont:∀(i j:Nat),(j:Int)<bkN m (i:Int)->Zj m' (i:Int) (j:Int)=Zj m (i:Int) (j:Int):=fun i j hij=>by
  unfold Zj;rw[hca]
  cases hq:m.ca.find? (zdf (i:Int) (j:Int))with
  | some c=>simp only;rw[hfr]
  | none=>
   simp only;have hne:¬(i=file/\j=idx):=fun e=>by
    obtain⟨c,c1,c2,c3⟩:=hc;rw[List.find?_eq_none]at hq;refine hq c c1 ?_
    simp[zdf,c2,c3,e.1,e.2]
   have hbl:zha m' (i:Int) (j:Int)=zha m (i:Int) (j:Int):=by
    rw[<-hm'];unfold zha zhf;simp only[gD,tN]
    by_cases e:i=file
    ·subst e;rw[sF hfl,hf];simp only[Option.getD_some];rw[sN (fun h=>hne ⟨rfl,h.symm⟩)]
    rw[sN (fun h=>e h.symm)]
   rw[hbl,hsz]
   by_cases hlt:zha m (i:Int) (j:Int)<0
   ·rw[if_pos hlt,if_pos hlt]
   rw[if_neg hlt,if_neg hlt];have hil:i<m.fl.length:=Classical.byContradiction fun h1=>by
    unfold bkN at hij;simp only[gD,tN]at hij;rw[gN (by omega)]at hij
    simp only[Option.getD_none,List.length_nil]at hij;omega
   have hg:=gE hil;have hj:j< (m.fl[i]).bl.length:=by
    unfold bkN at hij;simp only[gD,tN,hg,Option.getD_some]at hij;omega
   have:zha m (i:Int) (j:Int)≠(b:Int):=fun e=>by
    unfold zha at e;simp only[gD,tN,hg,Option.getD_some,gE hj]at e;exact hne (hown i j _ hg (by rw[gE hj,e]))
   rw[show Zf m'.db m'.dq (zha m (i:Int) (j:Int))=Zf db' dq' (zha m (i:Int) (j:Int)) by rw[<-hm'];rfl,hrd _ this]
 rw[hm'];refine⟨?_,hcont⟩;refine⟨Rt.of hbI (by rw[hsp];exact fun s hs=>h.tb hs) (by rw[<-hm'];exact h.hand.1) (by rw[<-hm'];exact h.hand.2),⟨by rw[hsp],fun q s s' h1 h2=>?_,fun q n s s' h1 h2 hn _=>?_,hfll,hsz,hbk,fun fi k hk=>?_⟩⟩
 ·rw[hsp,h1]at h2;cases h2;exact⟨rfl,rfl⟩
 ·rw[hsp,h1]at h2;cases h2;unfold zj7;rw[hfr,hbk]
  by_cases hx:(zG s.ars n).is=false
  ·rw[if_pos hx,if_pos hx]
  rw[if_neg hx,if_neg hx]
  by_cases k1:(zN s n).kind=1
  ·rw[if_pos k1,if_pos k1]
  rw[if_neg k1,if_neg k1]
  by_cases k2:(zN s n).kind=2
  ·rw[if_pos k2,if_pos k2];rw[<-hm'];rfl
  rw[if_neg k2,if_neg k2]
  by_cases k3:(zG s.ars n).file<0
  ·rw[if_pos k3,if_pos k3]
  rw[if_neg k3,if_neg k3]
  by_cases k4:bkN m (zG s.ars n).file<=(zG s.ars n).page
  ·rw[if_pos k4,if_pos k4]
  rw[if_neg k4,if_neg k4];have his:(zG s.ars n).is=true:=by
   cases hx':(zG s.ars n).is with
   | true=>rfl
   | false=>exact absurd hx' hx
  have hp:=h.page h1 his;have:=hcont (zG s.ars n).file.toNat (zG s.ars n).page.toNat (by
   rw[show(((zG s.ars n).file.toNat:Nat):Int)=(zG s.ars n).file by omega,show(((zG s.ars n).page.toNat:Nat):Int)=(zG s.ars n).page by omega]
   omega)
  rw[show(((zG s.ars n).file.toNat:Nat):Int)=(zG s.ars n).file by omega,show(((zG s.ars n).page.toNat:Nat):Int)=(zG s.ars n).page by omega]at this
  rw[this]
 rw[hcont fi (k / 8) ?_]
 by_cases h1:fi<m.fl.length
 ·have hg:=gE h1;obtain⟨k1,k2,k3⟩:=((qg _ _).1 h.inv.st).2.1 _ (mG hg);unfold zhe at hk;simp only[gD,tN,hg,Option.getD_some]at hk;unfold bkN;simp only[gD,tN,hg,Option.getD_some];unfold Jr at k2
  split at k2 <;> omega
 unfold zhe at hk;simp only[gD,tN]at hk;rw[gN (by omega)]at hk
 simp only[Option.getD_none]at hk;omega
end
def ziu (m:Ma) (db':List (List Int)):Ma:=⟨List.replicate m.fs.length frF,0,List.replicate m.sl.length 0,List.replicate m.sl.length zz,[],db',[],m.fl,m.cnt,[],[⟨true,[],qN⟩]⟩
end
section
open Go.RowKit
theorem jh.staysD {α:Type} {enc:α->List Value} {base:Nat} {w:World} {v:Value} {l:List α} (h:jh enc w v l) (hf:jb base v) {D:Nat->Prop} (hd:∀k,D k->k<base) (k:jv D w W):jh enc W v l:=by
 obtain⟨a,c,h1,h2,h3⟩:=h;refine⟨a,c,h1,h2,fun x hx j u hj=>?_⟩
 subst hx;have hc:=h3 x rfl j u hj;have hl:=World.block_lt_of_cell? _ _ hc;have hf:=hf x _ _ h1;rw[World.cell?_of_block (w:=w) (k.block _ hl (fun e=>by have:=hd _ e;rw[Jg]at this;omega))]
 exact hc
theorem qi.staysD {base:Nat} {w:World} {v:Value} {ps:List (List Int)} {qs:List (Int × List Int)} (h:qi base w v ps qs) {D:Nat->Prop} (hd:∀k,D k->k<base) (k:jv D w W):qi base W v ps qs:=by
 obtain⟨b,q,h1,h2,h3,h4,h5⟩:=h;exact⟨b,q,h1,⟨h2.1.staysD h4 hd k,h2.2⟩,⟨h3.1.staysD h5 hd k,h3.2⟩,h4,h5⟩
theorem qi.form {base:Nat} {w:World} {v:Value} {ps:List (List Int)} {qs:List (Int × List Int)} (h:qi base w v ps qs):∃d q:Sli,v= .agg #[.slice d.a d.n d.c,.slice q.a q.n q.c]/\jb base d.v/\jb base q.v:=by
 obtain⟨b,q,rfl,⟨⟨a,c,rfl,_⟩,_⟩,⟨⟨a',c',rfl,_⟩,_⟩,h4,h5⟩:=h;exact⟨⟨a,_,c⟩,⟨a',_,c'⟩,rfl,h4,h5⟩
theorem qi.rows {base:Nat} {w:World} {d q:Sli} {ps:List (List Int)} {qs:List (Int × List Int)} (h:qi base w (.agg #[.slice d.a d.n d.c,.slice q.a q.n q.c]) ps qs):qK w (.slice d.a d.n d.c) ps/\qE w (.slice q.a q.n q.c) qs:=by
 obtain⟨b,q,e,h2,h3,_⟩:=h;simp only[Value.agg.injEq,Array.mk.injEq,List.cons.injEq,and_true]at e;obtain⟨rfl,rfl⟩:=e;exact⟨h2,h3⟩
theorem zfE {α:Type} {E:Elt α} {w:World} {v:Value} (h:zr E w v []):zr E W v []:=by
 obtain⟨⟨a,c,h1,h2,h3⟩,h4⟩:=h;exact⟨⟨a,c,h1,h2,fun x hx j u hj=>by simp at hj⟩,h4⟩
theorem zgW (V:MaV) (m:Ma) (bs:Int) (w:World) (hm:zD w V m) (h:Rt m):
  Calls prog 35 #[.agg #[.slice V.f.a V.f.n V.f.c,.int .i64 m.hand,.slice V.s.a V.s.n V.s.c,.slice V.sb.a V.sb.n V.sb.c,.slice V.sq.a V.sq.n V.sq.c,.slice V.db.a V.db.n V.db.c,.slice V.dq.a V.dq.n V.dq.c,.slice V.fl.a V.fl.n V.fl.c,.int .i64 m.cnt,.slice V.ca.a V.ca.n V.ca.c,.slice V.sp.a V.sp.n V.sp.c],.int .i64 bs] w fun e w'=>(∃V':MaV,e= .returned (.tuple #[.agg #[.slice V'.f.a V'.f.n V'.f.c,.int .i64 0,.slice V'.s.a V'.s.n V'.s.c,.slice V'.sb.a V'.sb.n V'.sb.c,.slice V'.sq.a V'.sq.n V'.sq.c,.slice V'.db.a V'.db.n V'.db.c,.slice V'.dq.a V'.dq.n V'.dq.c,.slice V'.fl.a V'.fl.n V'.fl.c,.int .i64 m.cnt,.slice V'.ca.a V'.ca.n V'.ca.c,.slice V'.sp.a V'.sp.n V'.sp.c],.int .i64 0])/\zD w' V' (ziu m (zcb (QM bs) m.db m.dq))/\∃ps,V'.sp=⟨some ⟨ps,0,none⟩,1,1⟩)/\zc w w':=by
 obtain⟨W1,hW1⟩:∃W1,(w.alloc (.cells #[.slice V.f.a V.f.n V.f.c,.int .i64 m.hand,.slice V.s.a V.s.n V.s.c,.slice V.sb.a V.sb.n V.sb.c,.slice V.sq.a V.sq.n V.sq.c,.slice V.db.a V.db.n V.db.c,.slice V.dq.a V.dq.n V.dq.c,.slice V.fl.a V.fl.n V.fl.c,.int .i64 m.cnt,.slice V.ca.a V.ca.n V.ca.c,.slice V.sp.a V.sp.n V.sp.c] 41)).alloc (.cells #[.slice none 0 0,.int .i64 0,.slice none 0 0,.slice none 0 0,.slice none 0 0,.slice none 0 0,.slice none 0 0,.slice none 0 0,.int .i64 0,.slice none 0 0,.slice none 0 0] 41)=W1:=⟨_,rfl⟩;have G1:=gD2 hW1
 obtain⟨b,HB⟩:∃b,Hid (w.heap.size=b):=⟨_,rfl⟩;have X1:Hid (zp W1 b 41 [.slice V.f.a V.f.n V.f.c,.int .i64 m.hand,.slice V.s.a V.s.n V.s.c,.slice V.sb.a V.sb.n V.sb.c,.slice V.sq.a V.sq.n V.sq.c,.slice V.db.a V.db.n V.db.c,.slice V.dq.a V.dq.n V.dq.c,.slice V.fl.a V.fl.n V.fl.c,.int .i64 m.cnt,.slice V.ca.a V.ca.n V.ca.c,.slice V.sp.a V.sp.n V.sp.c]):=dD<|by rw[<-hW1];exact(zp.top w [.slice V.f.a V.f.n V.f.c,.int .i64 m.hand,.slice V.s.a V.s.n V.s.c,.slice V.sb.a V.sb.n V.sb.c,.slice V.sq.a V.sq.n V.sq.c,.slice V.db.a V.db.n V.db.c,.slice V.dq.a V.dq.n V.dq.c,.slice V.fl.a V.fl.n V.fl.c,.int .i64 m.cnt,.slice V.ca.a V.ca.n V.ca.c,.slice V.sp.a V.sp.n V.sp.c] _ HB.out.symm).grew (za _ _)
 have Z1:Hid (zp W1 (b+1) 41 [.slice none 0 0,.int .i64 0,.slice none 0 0,.slice none 0 0,.slice none 0 0,.slice none 0 0,.slice none 0 0,.slice none 0 0,.int .i64 0,.slice none 0 0,.slice none 0 0]):=dD<|by rw[<-hW1];exact zp.top _ [.slice none 0 0,.int .i64 0,.slice none 0 0,.slice none 0 0,.slice none 0 0,.slice none 0 0,.slice none 0 0,.slice none 0 0,.int .i64 0,.slice none 0 0,.slice none 0 0] _ (by have:=HB.out;simp;omega)
 have A1:Hid (zD W1 V m):=hm.grew G1.out;have HR:Hid (Rt m):=h;have HW1:Hid (_=W1):=hW1;obtain⟨n1,n2,-⟩:=hm.ns;have HFW:Hid (zkd (V.f.n:Int) (V.s.n:Int) m.cnt):=show zkd _ _ _ by
  have i:=h.inv;have h1:=i.fs40;have h2:=i.sl60;have h3:=((qg _ _).1 i.st).1;rw[n1,n2];exact⟨⟨by omega,by omega⟩,⟨by omega,by omega⟩,by omega⟩
 have HN1:Hid (V.f.n=m.fs.length):=n1;have HN2:Hid (V.s.n=m.sl.length):=n2;clear hW1 hm h n1 n2
 go_enter func35,ntmps35
 go_upto_region 1 with fail;rw[HW1.out,HB.out];have hwr:=Qf V m W1 A1.out;rw[HR.out.w]at hwr;obtain⟨x0,x1,x2,x3,x4,x5,x6,x7,x8,x9,x10⟩:=X1.out.box.c11;go_wp2_with fail;refine hwr.mono ?_;clear hwr x0 x1 x2 x3 x4 x5 x6 x7 x8 x9 x10;rintro e W2 ⟨rfl,g2⟩;have X2:=dD (X1.out.grew g2);have Z2:=dD (Z1.out.grew g2);have A2:=dD (A1.out.grew g2);have G2:=dD (G1.out.trans g2);clear g2;have hnw:=zjl (V.f.n:Int) (V.s.n:Int) m.cnt HFW.out W2;have x0:=X2.out.box.c 0 rfl;have x2:=X2.out.box.c 2 rfl;have x8:=X2.out.box.c 8 rfl;go_wp2_with fail;refine hnw.mono ?_;clear hnw x0 x2 x8;rintro e W3 ⟨⟨U,rfl,hu,hnv,hps⟩,g3⟩;have HPS:Hid (∃ps,U.sp=⟨some ⟨ps,0,none⟩,1,1⟩):=hps;have HU3:Hid (zD W3 U (zap (V.f.n:Int) (V.s.n:Int) m.cnt)):=hu;have HNV:Hid (zlC W2.heap.size U):=hnv;have G3:Hid (zc W2 W3):=g3;clear hu hnv g3 hps;go_upto_region 5 with fail;obtain⟨c,HC⟩:∃c,Hid (W3.heap.size=c):=⟨_,rfl⟩;obtain⟨W4,hW4⟩:∃W4,W3.alloc (.cells #[.slice U.f.a U.f.n U.f.c,.int .i64 0,.slice U.s.a U.s.n U.s.c,.slice U.sb.a U.sb.n U.sb.c,.slice U.sq.a U.sq.n U.sq.c,.slice U.db.a U.db.n U.db.c,.slice U.dq.a U.dq.n U.dq.c,.slice U.fl.a U.fl.n U.fl.c,.int .i64 m.cnt,.slice U.ca.a U.ca.n U.ca.c,.slice U.sp.a U.sp.n U.sp.c] 41)=W4:=⟨_,rfl⟩;have G4:=gA hW4
 have Y4:=xPT hW4 HC
 have X4:=dD (X2.out.grew (G3.out.trans G4.out));rw[hW4,HC.out];clear hW4;have A4:=dD (A2.out.grew (G3.out.trans G4.out));have hcr:=zit (.agg #[.slice V.db.a V.db.n V.db.c,.slice V.dq.a V.dq.n V.dq.c]) m.db m.dq bs W4 ⟨_,_,rfl,A4.out.db,A4.out.dq⟩;have x5:=X4.out.box.c 5 rfl;have x6:=X4.out.box.c 6 rfl;go_wp2_with fail;refine hcr.mono ?_;clear hcr x5 x6;rintro e W5 ⟨dd,rfl,nd,g5⟩;obtain⟨d,q,rfl,fd,fq⟩:=nd.form;have D5:Hid (qi W4.heap.size W5 (.agg #[.slice d.a d.n d.c,.slice q.a q.n q.c]) (zcb (QM bs) m.db m.dq) []):=nd;have G5:Hid (zc W4 W5):=g5;have Y5:=dD (Y4.out.grew g5);clear nd g5 fd fq
 go_upto_region 6 with(refine JV rfl 34 (.tmp 37) (.tmp 35) rfl c 5 rfl (.agg #[.slice d.a d.n d.c,.slice q.a q.n q.c]) rfl [.slice d.a d.n d.c,.slice q.a q.n q.c] rfl Y5.out (by simp) (by kernel_rfl) (by simp[Value.oneCell']) ?_)
 intro W6 bx6 gr6 _;have Y6:Hid (zp W6 c 41 [.slice U.f.a U.f.n U.f.c,.int .i64 0,.slice U.s.a U.s.n U.s.c,.slice U.sb.a U.sb.n U.sb.c,.slice U.sq.a U.sq.n U.sq.c,.slice d.a d.n d.c,.slice q.a q.n q.c,.slice U.fl.a U.fl.n U.fl.c,.int .i64 m.cnt,.slice U.ca.a U.ca.n U.ca.c,.slice U.sp.a U.sp.n U.sp.c]):=bx6;have HR6:Hid (W5.grownBy W6 (some c)):=gr6;have G36:Hid (zc W3 W6):=show zc _ _ from ze (G4.out.trans G5.out) gr6 (by have:=HC.out;omega)
 have X6:Hid (zp W6 b 41 [.slice V.f.a V.f.n V.f.c,.int .i64 m.hand,.slice V.s.a V.s.n V.s.c,.slice V.sb.a V.sb.n V.sb.c,.slice V.sq.a V.sq.n V.sq.c,.slice V.db.a V.db.n V.db.c,.slice V.dq.a V.dq.n V.dq.c,.slice V.fl.a V.fl.n V.fl.c,.int .i64 m.cnt,.slice V.ca.a V.ca.n V.ca.c,.slice V.sp.a V.sp.n V.sp.c]):=dD<|(X4.out.grew G5.out).beside gr6 (fun k e=>by cases e;have h1:=Z2.out.box.lt;have:=HC.out;have:=bS G3.out;omega)
 have A6:=dD ((A2.out.grew G3.out).grew G36.out);clear bx6 gr6;try simp only[Act.put]
 have how:=zbp (.slice V.fl.a V.fl.n V.fl.c) m.fl m.cnt W6 A6.out.fl;have x7:=X6.out.box.c 7 rfl;have x8:=X6.out.box.c 8 rfl;go_wp2_with fail;refine how.mono ?_;clear how x7 x8;rintro e W7 ⟨fb,rfl,of,g7,_⟩;obtain⟨fa,fc,rfl,_⟩:=qd.rows of.new.now0;obtain⟨f,HF⟩:∃f:Sli,Hid (f=⟨fa,m.fl.length,fc⟩):=⟨_,rfl⟩;have hfe:Value.slice fa m.fl.length fc= .slice f.a f.n f.c:=by rw[HF.out]
 rw[hfe]at of⊢;have F7:Hid (qW 0 (W6.heap.size+2) W7 (.slice f.a f.n f.c) m.fl):=of.new;have G7:Hid (zc W6 W7):=g7;have Y7:=dD (Y6.out.grew g7);clear of g7 hfe
 go_upto_region 7 with(refine JV rfl 37 (.tmp 41) (.tmp 40) rfl c 7 rfl (.agg #[.slice f.a f.n f.c,.int .i64 m.cnt]) rfl [.slice f.a f.n f.c,.int .i64 m.cnt] rfl Y7.out (by simp) (by kernel_rfl) (by simp[Value.oneCell']) ?_)
 intro W8 bx8 gr8 _;have Y8:Hid (zp W8 c 41 [.slice U.f.a U.f.n U.f.c,.int .i64 0,.slice U.s.a U.s.n U.s.c,.slice U.sb.a U.sb.n U.sb.c,.slice U.sq.a U.sq.n U.sq.c,.slice d.a d.n d.c,.slice q.a q.n q.c,.slice f.a f.n f.c,.int .i64 m.cnt,.slice U.ca.a U.ca.n U.ca.c,.slice U.sp.a U.sp.n U.sp.c]):=bx8;have HR8:Hid (W7.grownBy W8 (some c)):=gr8;have G38:Hid (zc W3 W8):=show zc _ _ from ze (G36.out.trans G7.out) gr8 (by have:=HC.out;omega)
 have Z8:=dD ((Z2.out.grew G3.out).grew G38.out);clear bx8 gr8;try simp only[Act.put]
 obtain⟨x0,x1,x2,x3,x4,x5,x6,x7,x8,x9,x10⟩:=Y8.out.box.c11
 go_wp2_with (refine qe rfl 41 (.tmp 4) (.tmp 42) rfl (b+1) rfl [.slice U.f.a U.f.n U.f.c,.int .i64 0,.slice U.s.a U.s.n U.s.c,.slice U.sb.a U.sb.n U.sb.c,.slice U.sq.a U.sq.n U.sq.c,.slice d.a d.n d.c,.slice q.a q.n q.c,.slice f.a f.n f.c,.int .i64 m.cnt,.slice U.ca.a U.ca.n U.ca.c,.slice U.sp.a U.sp.n U.sp.c] rfl Z8.out rfl (by kernel_rfl) (by simp[Value.oneCell']) ?_)
 clear x0 x1 x2 x3 x4 x5 x6 x7 x8 x9 x10;intro W9 bx9 gr9 _;have G9:Hid (zc w W9):=dD<|ze ((G2.out.trans G3.out).trans G38.out) gr9 (by have:=HB.out;omega)
 have B9:Hid (zp W9 (b+1) 41 [.slice U.f.a U.f.n U.f.c,.int .i64 0,.slice U.s.a U.s.n U.s.c,.slice U.sb.a U.sb.n U.sb.c,.slice U.sq.a U.sq.n U.sq.c,.slice d.a d.n d.c,.slice q.a q.n q.c,.slice f.a f.n f.c,.int .i64 m.cnt,.slice U.ca.a U.ca.n U.ca.c,.slice U.sp.a U.sp.n U.sp.c]):=bx9;have HMA:Hid (zD W9 ⟨U.f,U.s,U.sb,U.sq,d,q,f,U.ca,U.sp⟩ (ziu m (zcb (QM bs) m.db m.dq))):=show zD _ _ _ by
  have hb:b+1<W2.heap.size:=Z2.out.box.lt;have hs3:=bS G3.out;have hs4:=bS G4.out;have hs5:=bS G5.out;have hs6:=HR6.out.size;have hc:=HC.out;have hcl:c<W4.heap.size:=Y4.out.box.lt;have u8:=HU3.out.grew G38.out;have far:∀{v:Value},jb W2.heap.size v->∀x n c,v= .slice (some x) n c->some x.block≠some (b+1):=fun hf x n c hv e=>by
   have:=hf x n c hv;simp only[Option.some.injEq]at e;omega
  obtain⟨⟨a1,a2,a3,a4⟩,a5,a6,a7,a8,a9⟩:=HNV.out;have o59:jv (fun k=>k=c\/k=b+1) W5 W9:=(((jv.grown HR6.out (.inl rfl)).trans (jv.grew G7.out)).trans (jv.grown HR8.out (.inl rfl))).trans (jv.grown gr9 (.inr rfl))
  have dr:=(D5.out.staysD (fun k hk=>by rcases hk with rfl | rfl <;> omega) o59).rows
  have o79:Out 0 (W6.heap.size+2) W7 W9:=(Out.grown HR8.out (fun g e=>by cases e;omega)).trans (Out.grown gr9 (fun g e=>by cases e;omega))
  have hn1:=HN1.out;have hn2:=HN2.out;obtain⟨xs,r1,r2,r3⟩:=u8.sp;have e0:(zap (V.f.n:Int) (V.s.n:Int) m.cnt).sp=[⟨true,[],qN⟩]:=rfl;refine⟨?_,?_,?_,?_,dr.1,dr.2,(F7.out.out o79).now0,u8.ca.beside gr9 (far a8),⟨xs,r1.beside gr9 (far a9),r2,fun i x s hx hs=>?_⟩⟩
  ·have:=u8.fs.beside gr9 (far a1);rw[show(zap (V.f.n:Int) (V.s.n:Int) m.cnt).fs=List.replicate m.fs.length frF from by unfold zap;simp only;rw[hn1,tN]]at this
   exact this
  ·have:=u8.sl.beside gr9 (far a2);rw[show(zap (V.f.n:Int) (V.s.n:Int) m.cnt).sl=List.replicate m.sl.length 0 from by unfold zap;simp only;rw[hn2,tN]]at this
   exact this
  ·have:qK W9 _ _:=⟨u8.sb.1.beside gr9 (far a3),u8.sb.2⟩;rw[show(zap (V.f.n:Int) (V.s.n:Int) m.cnt).sb=List.replicate m.sl.length zz from by unfold zap;simp only;rw[hn2,tN]]at this
   exact this
  ·exact⟨u8.sq.1.beside gr9 (far a4),u8.sq.2⟩
  have hs': [(⟨true,[],qN⟩:Sp)][i]? =some s:=hs
  cases i with
  | succ i=>simp at hs'
  | zero=>
   cases hs';have k:=r3 0 x _ hx rfl;refine⟨k.live,zfE k.ar,k.cap,⟨k.tb.len,k.tb.tlen,fun j v y hv hy=>?_⟩⟩
   have e:y=[]:=(List.mem_replicate.1 (show y∈List.replicate 8 []from mG hy)).2
   subst e;exact fun w' _=>zfE (k.tb.row j v [] hv hy).now
 go_wp2;refine bodyPost_ret (ZS rfl _ rfl B9.out.box underlying41 rfl (by kernel_rfl)) rfl ⟨⟨_,rfl,HMA.out,HPS.out⟩,G9.out⟩
theorem zcv {α:Type} (p:α->Bool) {l:List α} {k:Nat} {x:α} (h:l[k]? =some x):(l.take (k+1)).countP p=(l.take k).countP p+(if p x=true then 1 else 0):=by
 rw[jm h,List.countP_append]
 simp[List.countP_cons]
theorem zcz {l:List On} (y:On) (h:j<l.length):splice (zy l) (j*6) (onv y)=zy (l.set j y):=Jj (enc:=onv) (k:=6) y rfl l j (fun _ _=>rfl) h
theorem ZK {l:List On} {e:On} (h:l[j]? =some e) (i:Nat) (u:Value) (hu:(onv e)[i]? =some u):(zy l)[j*6+i]? =some u:=qA (enc:=onv) (k:=6) l j e (fun _ _=>rfl) h i u hu
theorem jB (f:Nat->On):(zy (tab f)).length=384:=by rw[zg3,Qb]
theorem zcg {rest:List Oper} {op:Oper} {a:Act} {w:World} (hgd:op.guard=none) (p x:Operand) (ho:op.op= .store 67 p x) (b k:Nat) (hk:k<64) (hp:a.eval p= .pointer (some ⟨b,k*6,none⟩)) (y:On) (hx:a.eval x= .agg (onv y).toArray)
  {f:Nat->On} (hb:Box w b (zy (tab f)))
  (h:∀w',Box w' b (zy (tab (upd f k y)))->w.grownBy w' (some b)->w'.heap.size=w.heap.size->wpList prog ops Q rest (a.put op.dst undef) w'):wpList prog ops Q (op :: rest) a w:=by
 refine zeO hgd 67 p x ho b (k*6) hp (onv y) hx hb (by rw[jB];show _+6<=_;omega) zlU (zhH y) fun w' h1 h2 h3=>h w' ?_ h2 h3
 rw[zcz y (by rw[Qb];exact hk),zeR]at h1
 exact h1
theorem Box.onCell {w:World} {k:Nat} {f:Nat->On} (h:Box w b (zy (tab f))) (hk:k<64) (i:Nat) (u:Value) (y:On) (hy:(onv (f k)).set i u=onv y) (hi:i<6):Box (w.setCell ⟨b,k*6+i,none⟩ u) b (zy (tab (upd f k y))):=by
 have h1:=h.set (k*6+i) u;have:(zy (tab f)).set (k*6+i) u=zy (tab (upd f k y)):=by
  rw[<-zeR,<-zcz y (by rw[Qb];exact hk),<-hy]
  have hl:(zy (tab f)).length=384:=jB f
  apply List.ext_getElem?
  intro j;unfold splice;have e6:((onv (f k)).set i u).length=6:=by simp[onv]
  rw[e6]
  by_cases h1:j<k*6
  ·rw[sN (by omega),List.getElem?_append_left (by simp;omega),List.getElem?_take_of_lt h1]
  have hl2:((zy (tab f)).take (k*6)).length=k*6:=by simp;omega
  rw[aR (by omega),hl2]
  by_cases h2:j<k*6+6
  ·rw[List.getElem?_append_left (by rw[e6];omega)]
   have hc:∀i',i'<6->(zy (tab f))[k*6+i']? =(onv (f k))[i']?:=fun i' hi'=>by
    obtain⟨v,hv⟩:∃v,(onv (f k))[i']? =some v:=⟨_,gE (by simpa [onv]using hi')⟩
    rw[hv];exact ZK (QU hk) i' v hv
   by_cases e:j=k*6+i
   ·subst e;rw[sF (by omega),show k*6+i - k*6=i by omega,sF (by simpa [onv]using hi)]
   rw[sN (fun h=>e h.symm),sN (by omega),<-hc _ (by omega),show k*6+(j - k*6)=j by omega]
  rw[sN (by omega),aR (by rw[e6];omega),e6,List.getElem?_drop]
  congr 1
  omega
 rw[this]at h1;exact h1
theorem zeg {cs:List Value} {o k:Nat} (hl:vs.length=k) (h:∀(i:Nat) u,vs[i]? =some u->cs[o+i]? =some u):cs.toArray.extract o (o+k)=vs.toArray:=by
 apply Array.ext_getElem?
 intro j;rw[Array.getElem?_extract]
 by_cases hj:j<k
 ·obtain⟨u,hu⟩:∃u,vs[j]? =some u:=⟨_,gE (by omega)⟩
  have h1:=h j u hu;have h2:=(gS.1 h1).1;rw[if_pos (by simp;omega)]
  simp[h1,hu]
 rw[if_neg (by omega)]
 simp;omega
theorem zi3 {w:World} {f:Nat->On} (i:Nat) (hi:i<64):(Instr.index 68 (.agg (zy (tab f)).toArray) (.int .i64 (i:Int))).run prog w= .ok (.agg (onv (f i)).toArray) w:=by
 have ha:(isAgg 67).run prog w= .ok true w:=by
  unfold isAgg;rw[Sem.run_bind,run_underlying underlying67 w];rfl
 have hs:(Go.sizeOf 67).run prog w= .ok 6 w:=by
  obtain⟨i0,h1,h2⟩:∃i0,Tryz.prog.info? 67=some i0/\i0.size=6:=by
   have:=zlU
   cases hq:Tryz.prog.info? 67 with
   | none=>rw[hq]at this;cases this
   | some i0=>rw[hq]at this;exact⟨i0,rfl,by simpa using this⟩
  simp[Go.sizeOf,typeInfo,h1,h2]
 have hlt:(0:Int)<=(i:Int)/\(i:Int)< ((64:Nat):Int):=by omega
 have hx:(zy (tab f)).toArray.extract (i*6) (i*6+6)=(onv (f i)).toArray:=zeg rfl fun j u hu=>ZK (QU hi) j u hu
 simp only[Instr.index,asIntOf,Sem.run_bind,Sem.run_pure,rA,run_underlying underlying68];rw[if_pos hlt];simp only[Sem.run_bind,hs,rA,part,ha,if_true,tN,Sem.run_pure,hx]
theorem zkj {rest:List Oper} {a:Act} {w:World} (hgd:o.guard=none) (x ix:Operand) (ho:o.op= .index 68 x ix) (f:Nat->On) (hx:a.eval x= .agg (zy (tab f)).toArray) (i:Nat) (hix:a.eval ix= .int .i64 (i:Int)) (hi:i<64)
  (h:wpList prog ops Q rest (a.put o.dst (.agg (onv (f i)).toArray)) w):wpList prog ops Q (o :: rest) a w:=by
 refine wpList_plain hgd fun K hK=>?_
 unfold Oper.wp execOp;simp only[ho,hx,hix,Sem.run_bind,Sem.run_pure,rA,zi3 i hi];exact hK _ _ h
theorem zcJ {rest:List Oper} {a:Act} {w:World} (hgd:o.guard=none) (x ix:Operand) (ho:o.op= .index 68 x ix) (f:Nat->On) (hx:a.eval x= .agg (zy (tab f)).toArray) (i:Nat) (hix:a.eval ix= .int .i64 (i:Int)) (hi:i<64) {v:Value} (hv: .agg (onv (f i)).toArray=v)
  (h:wpList prog ops Q rest (a.put o.dst v) w):wpList prog ops Q (o :: rest) a w:=zkj hgd x ix ho f hx i hix hi (by rw[hv];exact h)
theorem zht {rest:List Oper} {a:Act} {w:World} (hgd:o.guard=none) (x:Operand) (ho:o.op= .load 67 x) (b k:Nat) (hk:k<64) (hx:a.eval x= .pointer (some ⟨b,k*6,none⟩)) {f:Nat->On} (hb:Box w b (zy (tab f)))
  (h:wpList prog ops Q rest (a.put o.dst (.agg (onv (f k)).toArray)) w):wpList prog ops Q (o :: rest) a w:=
 wpList_load_mid hgd 67 x ho b (k*6) hx (onv (f k)) _ (hb.mid _ fun j u hu=>ZK (QU hk) j u hu) underlying67 rfl zlU h
theorem zch {rest:List Oper} {a:Act} {w:World} (hgd:o.guard=none) (x:Operand) (ho:o.op= .load 67 x) (b k:Nat) (hk:k<64) (hx:a.eval x= .pointer (some ⟨b,k*6,none⟩)) {f:Nat->On} (hb:Box w b (zy (tab f))) {v:Value} (hv: .agg (onv (f k)).toArray=v)
  (h:wpList prog ops Q rest (a.put o.dst v) w):wpList prog ops Q (o :: rest) a w:=zht hgd x ho b k hk hx hb (by rw[hv];exact h)
theorem zlv:(Tryz.prog.info? 68).map (·.zero)=some (some (.agg (zy (tab fun _=>on0)).toArray)):=by kernel_rfl
theorem zbg (w:World):(zeroValue 68).run prog w= .ok (.agg (zy (tab fun _=>on0)).toArray) w:=by
 have h:=zlv
 cases hq:Tryz.prog.info? 68 with
 | none=>simp[hq]at h
 | some i=>
  simp[hq]at h
  simp[zeroValue,typeInfo,hq,h]
def zlh (f:Nat->On):Nat->Ar:=fun n=>Jz n (f n)
def zfK (l:List Ar) (i:Nat) (a:Ar) (n:Nat):Nat->On:=fun j=>if a.fr<=(j:Int)/\(j:Int)< (n:Int)then qG a j else zG (l.take i) j
theorem ZO.take:∀{l:List Ar} {p:Option Ar},ZO p l->∀i,ZO p (l.take i)
 | [],_,_,i=>by simp[ZO]
 | a :: l,p,h,0=>by simp[ZO]
 | a :: l,p,h,i+1=>⟨h.1,h.2.1,h.2.2.take i⟩
theorem ZO.free (h:ZO none l) {a:Ar} (ha:l[i]? =some a) (hj:a.fr<=(j:Int)):zG (l.take i) j=on0:=by
 refine J4 fun x hx=>zbR ?_
 have h1:=h.take (i+1);rw[jm ha]at h1;obtain⟨c1,c2,c3⟩:=Jd.1 h1
 cases hl:Q2 none (l.take i)with
 | none=>
  unfold Q2 at hl
  cases hq:l.take i with
  | nil=>rw[hq]at hx;cases hx
  | cons y ys=>rw[hq]at hl;simp[List.getLast?_cons]at hl
 | some y=>
  have q:=(c3 y hl).1;have hy:jq y:=c1.all y (by
   unfold Q2 at hl
   split at hl
   ·rename_i b hb
    cases hl;exact List.mem_of_getLast? hb
   cases hl)
  unfold jq at hy
  rcases zc5 _ none c1 x hx y hl with e|e
  ·rw[e];omega
  omega
theorem zhT {a:Ar} {n:Nat} (hn:(n:Int)=a.fr):zfK l i a n=zG (l.take i):=by
 funext j
 unfold zfK;rw[if_neg (by omega)]
def zkZ (l:List Ar):Prop:=(∀a∈l,jq a)/\∀(i:Nat) a,l[i]? =some a->∀j:Nat,a.fr<=(j:Int)->zG (l.take i) j=on0
theorem ZO.lies (h:ZO none l):zkZ l:=⟨h.all,fun _ _ ha _ hj=>h.free ha hj⟩
theorem zju {b a:Ar} (hb:jq b) (ha:jq a) (hf:b.tz<=a.fr):zkZ [b,a]:=by
 refine⟨fun x hx=>?_,fun i x hx j hj=>?_⟩
 ·simp at hx
  rcases hx with rfl|rfl
  ·exact hb
  exact ha
 match i with
 | 0=>rfl
 | 1=>
  simp at hx
  subst hx
  show zG [b] j=on0
  rw[J3 (.inr (by omega))]
  rfl
 | k+2=>simp at hx
theorem zjv {a:Ar} (ha:jq a):zkZ [a]:=by
 refine⟨fun x hx=>?_,fun i x hx j hj=>?_⟩
 ·simp at hx
  subst hx;exact ha
 match i with
 | 0=>rfl
 | k+1=>simp at hx
theorem zhU {a:Ar} {n:Nat} (hn:a.fr<=(n:Int)):upd (zfK l i a n) n (qG a n)=zfK l i a (n+1):=by
 funext j
 unfold upd zfK
 by_cases e:j=n
 ·subst e;rw[if_pos rfl,if_pos (by omega)]
 rw[if_neg e]
 by_cases h:a.fr<=(j:Int)/\(j:Int)< (n:Int)
 ·rw[if_pos h,if_pos (by omega)]
 rw[if_neg h,if_neg (by omega)]
theorem zjo {a:Ar} {n:Nat} (h:zkZ l) (ha:l[i]? =some a) (hn:(n:Int)=a.tz):zfK l i a n=zG (l.take (i+1)):=by
 funext j
 unfold zfK;rw[jm ha,QZ]
 ·by_cases h1:a.fr<=(j:Int)/\(j:Int)< (n:Int)
  ·rw[if_pos h1,if_pos (zZ.2 (by omega))]
  rw[if_neg h1,if_neg (fun h2=>h1 (by have:=zZ.1 h2;omega))]
 by_cases h1:a.fr<=(j:Int)
 ·exact .inl (h.2 i a ha j h1)
 exact .inr (zbR (by omega))
theorem zkk {α:Type} (f:Nat->α) (k:Nat) (x y:α):upd (upd f k x) k y=upd f k y:=by
 funext j
 unfold upd
 by_cases e:j=k
 ·rw[if_pos e,if_pos e]
 rw[if_neg e,if_neg e,if_neg e]
theorem ZB (v:Value) (l:List Ar) (w:World) (hv:zr arE w v l) (hok:zkZ l):
  Calls prog 20 #[v] w fun e w'=>e= .returned (.agg (zy (tab (zG l))).toArray)/\zc w w':=by
 have hbig:=hv.short;obtain⟨a,c,rfl,hrow⟩:=hv.ars;have HR:Hid (zbX w a l):=hrow;have HOK:Hid (zkZ l):=hok;clear hrow hv hok;have hz:=zbg;obtain⟨Z0,HZ0⟩:∃Z0,Hid (zy (tab fun _=>on0)=Z0):=⟨_,rfl⟩
 rw[HZ0.out]at hz;have HZL:Hid (Z0.length=384):=dD<|by rw[<-HZ0.out,jB]
 obtain⟨C,HC⟩:∃C,Hid (zy (tab (zG l))=C):=⟨_,rfl⟩;rw[HC.out];obtain⟨n,HN⟩:∃n,Hid (l.length=n):=⟨_,rfl⟩;rw[HN.out]at hbig⊢;obtain⟨W0,hW0⟩:∃W0,(w.alloc (.cells Z0.toArray 68)).alloc (.cells Z0.toArray 68)=W0:=⟨_,rfl⟩;have HG0:=gD2 hW0
 have Y0:Hid (Box W0 w.heap.size Z0):=dD<|by rw[<-hW0];exact(Box.top _ _ _ (by simp)).alloc _
 have L0:Hid (Box W0 (w.heap.size+1) (zy (tab (zG (l.take 0))))):=dD<|by rw[<-hW0,List.take_zero,show zG ([]:List Ar)=fun _=>on0 from rfl,HZ0.out];exact Box.top _ _ _ (by simp)
 have HW0:Hid (_=W0):=hW0;clear hW0
 go_enter func20,ntmps20
 go_upto_region 2 with fail;rw[HW0.out];clear hz;go_wp2
 go_loopg [9] n (fun gg s9 wr=>∃kk:Nat,kk<=n/\n - kk<=gg/\s9= .int .i64 kk/\Hid (zc w wr)/\Hid (Box wr w.heap.size Z0)/\Hid (Box wr (w.heap.size+1) (zy (tab (zG (l.take kk))))))
 case atStart=>exact⟨0,nZ _,by omega,rfl,HG0.out,Y0.out,L0.out⟩
 obtain⟨kk,hkk,hg,rfl,BW,YW,LW⟩:=hrel
 by_cases hlt:kk<n
 ·have hltz:(kk:Int)< (n:Int):=by omega
  obtain⟨q,HQ⟩:∃q,Hid (l[kk]? =some q):=⟨_,gE (by rw[HN.out];exact hlt)⟩
  obtain⟨ad,rfl,hl⟩:=HR.out kk q HQ.out;obtain⟨d0,d1,d2,d3,d4,d5,d6⟩:=hl wr BW.out;have HQK:Hid (jq q):=HOK.out.1 q (mG HQ.out);have hqb:0<=q.fr/\q.fr<q.tz/\q.tz<=64/\0<=q.base/\q.base<=12:=by
   have:=HQK.out;unfold jq at this
   rcases Int.lt_or_le q.file 0 with h|h
   ·omega
   omega
  obtain⟨hq1,hq2,hq3,hq4,hq5⟩:=hqb;obtain⟨p,HP⟩:∃p,Hid (wr.heap.size=p):=⟨_,rfl⟩;have HLP:Hid (w.heap.size+1<p):=dD<|by rw[<-HP.out];exact LW.out.lt
  clear hl;go_upto_region 5 with fail;obtain⟨W1,hW1⟩:∃W1,wr.alloc (.cells #[.int .i64 q.fr,.int .i64 q.tz,.bool q.rd,.bool q.wr,.bool q.sh,.int .i64 q.file,.int .i64 q.base] 91)=W1:=⟨_,rfl⟩;have G1:=gT hW1 BW
  have Y1:=yA hW1 YW
  obtain⟨f0,hf0⟩:∃f0:Nat,(f0:Int)=q.fr:=⟨q.fr.toNat,by omega⟩
  have L1:Hid (Box W1 (w.heap.size+1) (zy (tab (zfK l kk q f0)))):=dD<|by rw[<-hW1,zhT hf0];exact LW.out.alloc _
  have P1:=xP hW1 HP
  rw[hW1,HP.out];clear hW1 d0 d1 d2 d3 d4 d5 d6;have p0:=P1.out.c 0 rfl;go_wp2
  go_loopg [6] (q.tz.toNat - f0) (fun g2 s6 wr2=>∃k2:Nat,f0<=k2/\(k2:Int)<=q.tz/\q.tz.toNat - k2<=g2/\s6= .int .i64 k2/\Hid (zc w wr2)/\Hid (Box wr2 w.heap.size Z0)/\Hid (Box wr2 (w.heap.size+1) (zy (tab (zfK l kk q k2))))/\Hid (Box wr2 p [.int .i64 q.fr,.int .i64 q.tz,.bool q.rd,.bool q.wr,.bool q.sh,.int .i64 q.file,.int .i64 q.base]))
  case atStart=>exact⟨f0,nR _,by omega,by omega,by rw[hf0],G1.out,Y1.out,L1.out,P1.out⟩
  obtain⟨k2,hk2,hk2',hg2,rfl,BW2,YW2,LW2,PW2⟩:=hrel;clear p0;have p1:=PW2.out.c 1 rfl
  by_cases hlt2:(k2:Int)<q.tz
  ·have hi64:k2<64:=by omega
   have hi64z:(k2:Int)<64:=by omega
   have HST:Hid (upd (zfK l kk q k2) k2 (qG q k2)=zfK l kk q (k2+1)):=zhU (l:=l) (i:=kk) (a:=q) (n:=k2) (by omega)
   have p2:=PW2.out.c 2 rfl;have p3:=PW2.out.c 3 rfl;have p4:=PW2.out.c 4 rfl;have p5:=PW2.out.c 5 rfl
   go_wp2_with (refine zcg rfl (.tmp 31) (.tmp 30) rfl (w.heap.size+1) k2 hi64 rfl ⟨true,q.rd,q.wr,q.sh,q.file,0⟩ rfl LW2.out ?_)
   intro W3 b3 g3 s3;have L3:Hid (Box W3 (w.heap.size+1) (zy (tab (upd (zfK l kk q k2) k2 ⟨true,q.rd,q.wr,q.sh,q.file,0⟩)))):=b3;have G3:Hid (zc w W3):=ze BW2.out g3 (by simp)
   have Y3:Hid (Box W3 w.heap.size Z0):=YW2.out.beside g3 (by intro g hg;cases hg;simp)
   have P3:Hid (Box W3 p [.int .i64 q.fr,.int .i64 q.tz,.bool q.rd,.bool q.wr,.bool q.sh,.int .i64 q.file,.int .i64 q.base]):=PW2.out.beside g3 (by intro g hg;cases hg;have:=HLP.out;omega)
   clear b3 g3 s3 p1 p2 p3 p4 p5;have p5:=P3.out.c 5 rfl
   by_cases hfile:0<=q.file
   ·have HONE:Hid (qG q k2=⟨true,q.rd,q.wr,q.sh,q.file,q.base+(k2:Int) - q.fr⟩):=dD<|by
     unfold qG;rw[if_pos hfile]
     congr 1
     omega
    have p0:=P3.out.c 0 rfl;have p6:=P3.out.c 6 rfl;have l5:=L3.out.c (k2*6+5) (ZK (QU hi64) 5 (.int .i64 0) (by unfold upd;rw[if_pos rfl];rfl))
    have lf:=L3.out.f;go_upto_region 7 with fail;obtain⟨W4,hW4⟩:∃W4,W3.setCell ⟨w.heap.size+1,k2*6+5,none⟩ (.int .i64 (q.base+(k2:Int) - q.fr))=W4:=⟨_,rfl⟩;have L4:Hid (Box W4 (w.heap.size+1) (zy (tab (zfK l kk q (k2+1))))):=dD<|by
     rw[<-hW4];have:=L3.out.onCell hi64 5 (.int .i64 (q.base+(k2:Int) - q.fr)) (qG q k2) (by rw[HONE.out];unfold upd;rw[if_pos rfl];rfl) (by omega)
     rw[zkk,HST.out]at this;exact this
    have G4:Hid (zc w W4):=dD<|by rw[<-hW4];exact zC G3.out (by simp) _
    have Y4:Hid (Box W4 w.heap.size Z0):=dD<|by rw[<-hW4];exact Y3.out.other (by simp) _
    have P4:Hid (Box W4 p [.int .i64 q.fr,.int .i64 q.tz,.bool q.rd,.bool q.wr,.bool q.sh,.int .i64 q.file,.int .i64 q.base]):=dD<|by rw[<-hW4];exact P3.out.other (by have:=HLP.out;simp;omega) _
    rw[hW4];clear hW4 l5 lf p0 p5 p6;go_wp2
    go_roundg (q.tz.toNat -(k2+1))
    case measure=>omega
    exact⟨k2+1,by omega,by omega,by omega,by go_num,G4.out,Y4.out,L4.out,P4.out⟩
   have HONE:Hid (qG q k2=⟨true,q.rd,q.wr,q.sh,q.file,0⟩):=dD<|by
    unfold qG;rw[if_neg hfile]
   have L4:Hid (Box W3 (w.heap.size+1) (zy (tab (zfK l kk q (k2+1))))):=dD<|by rw[<-HST.out,HONE.out];exact L3.out
   go_wp2
   go_roundg (q.tz.toNat -(k2+1))
   case measure=>omega
   exact⟨k2+1,by omega,by omega,by omega,by go_num,G3.out,Y3.out,L4.out,P3.out⟩
  have hke:(k2:Int)=q.tz:=by omega
  have LE:Hid (Box wr (w.heap.size+1) (zy (tab (zG (l.take (kk+1)))))):=dD<|by rw[<-zjo HOK.out HQ.out hke];exact LW2.out
  go_wp2
  go_roundg (n -(kk+1))
  case measure=>omega
  exact⟨kk+1,by omega,by omega,by go_num,BW2.out,YW2.out,LE.out⟩
 have hltz:¬(kk:Int)< (n:Int):=by omega
 have:kk=n:=by omega
 subst this;have LE:Hid (Box wr (w.heap.size+1) C):=dD<|by rw[<-HC.out];have:=LW.out;rw[<-HN.out,List.take_length]at this;exact this
 have HFL:Hid (C.length=384):=dD<|by rw[<-HC.out,jB]
 have HFO:Hid (∀v∈C,v.oneCell'=true):=dD<|by rw[<-HC.out];exact Jn _
 go_wp2_with (first | refine zJ rfl 68 (.tmp 3) rfl (w.heap.size+1) rfl LE.out underlying68 rfl (by rw[HFL.out];exact zlV) ?_ | refine zX rfl 68 (.tmp 2) (.tmp 46) rfl w.heap.size rfl C rfl YW.out (by rw[HFL.out,HZL.out]) (by rw[HZL.out];exact zlV) HFO.out ?_)
 intro W3 b3 g3 s3;have G3:Hid (zc w W3):=dD<|ze BW.out g3 (by simp)
 have B3:Hid (Box W3 w.heap.size C):=b3;clear b3 g3 s3;go_wp2;refine bodyPost_ret (zY rfl _ rfl B3.out underlying68 rfl (by rw[HFL.out];exact zlV)) rfl ⟨rfl,G3.out⟩
theorem zi8 {f:Nat->On} {k:Nat} (h:(f k).is=true):zlh f k=⟨k,(k:Int)+1,(f k).rd,(f k).wr,(f k).sh,(f k).file,(f k).page⟩:=by
 unfold zlh Jz;rw[if_pos h]
theorem zlo (x y:On):zjc ⟨y.is,y.rd,y.wr,y.sh,y.file,if 0<=x.file then y.page+1 else y.page⟩ x=goJ x y:=by
 unfold zjc goJ;have hd:∀x y:Int,(x == y)=decide (x=y):=fun x y=>rfl
 simp only[hd]
theorem zaG (f:Nat->On) (w:World) (hg:zeI f):
  Calls prog 145 #[.agg (zy (tab f)).toArray] w fun e w'=>(∃v,e= .returned v/\zb arE (w.heap.size+1) w' v (j5 f))/\zc w w':=by
 have HGD:Hid (zeI f):=hg;clear hg;have HCL:Hid ((zy (tab f)).length=384):=jB _;obtain⟨W0,hW0⟩:∃W0,w.alloc (.cells (zy (tab f)).toArray 68)=W0:=⟨_,rfl⟩;have HG0:=gA hW0
 have X0:=xA hW0
 have HS0:=sA hW0
 have HW0:Hid (_=W0):=hW0;clear hW0
 go_enter func145,ntmps145
 go_upto_region 1 with fail;rw[HW0.out]
 go_wp2_with (refine zJ rfl 68 (.tmp 1) rfl w.heap.size rfl X0.out underlying68 rfl (by rw[HCL.out];exact zlV) ?_)
 go_loopg [3,9] 64 (fun gg s3 s9 wr=>∃(kk:Nat) (acc:List Ar) (xa:Option Addr) (xc:Nat),kk<=64/\64 - kk<=gg/\s9= .int .i64 kk/\s3= .slice xa acc.length xc/\Hid (zc W0 wr)/\Hid (zb arE (w.heap.size+1) wr (.slice xa acc.length xc) acc)/\Hid (J f kk acc))
 case atStart=>exact⟨0,[],none,0,nZ _,by omega,rfl,rfl,zc.refl _,zb.nil _ _ _,J.zero f⟩
 obtain⟨kk,acc,xa,xc,hkk,hgg,rfl,rfl,BW,OW,JW⟩:=hrel
 by_cases hlt:kk<64
 ·have hltz:(kk:Int)<64:=by omega
  have HLEN:Hid (acc.length<=kk):=JW.out.len;have XW:=dD (X0.out.grew BW.out);obtain⟨p,HP⟩:∃p,Hid (wr.heap.size=p):=⟨_,rfl⟩;have HPW:Hid (wr.heap.size<=p):=show _<=_ by rw[HP.out];exact nR _
  cases hs:(f kk).is with
  | false=>
   have HIV:Hid (Value.agg (onv (f kk)).toArray= .agg #[.bool false,.bool (f kk).rd,.bool (f kk).wr,.bool (f kk).sh,.int .i64 (f kk).file,.int .i64 (f kk).page]):=dD<|by rw[<-hs];rfl
   have J2:Hid (J f (kk+1) acc):=JW.out.skip ((HGD.out kk hlt).1 hs);clear hs
   go_wp2_with (refine zcJ rfl (.tmp 8) (.tmp 9) rfl f rfl kk rfl hlt HIV.out ?_)
   go_roundg (64 -(kk+1))
   case measure=>omega
   exact⟨kk+1,acc,xa,xc,by omega,by omega,by go_num,rfl,BW.out.trans (za _ _),OW.out.grew (za _ _),J2.out⟩
  | true=>
   have HS:Hid ((f kk).is=true):=hs;have HPF:Hid (Jz kk (f kk)=⟨kk,(kk:Int)+1,(f kk).rd,(f kk).wr,(f kk).sh,(f kk).file,(f kk).page⟩):=zi8 hs;have HNEW:Hid ((∀b,acc.getLast? =some b->goB (Jz kk (f kk)) b=false)->J f (kk+1) (acc++ [Jz kk (f kk)])):=fun h=>JW.out.new HGD.out hlt HS.out h
   have HEXT:Hid (∀i b,acc=i++ [b]->goB (Jz kk (f kk)) b=true->J f (kk+1) (i++ [{ b with tz:=(kk:Int)+1 }])):=fun i b h1 h2=>by
    have:=JW.out;rw[h1]at this;exact this.ext HGD.out hlt HS.out h2
   have HIV:Hid (Value.agg (onv (f kk)).toArray= .agg #[.bool true,.bool (f kk).rd,.bool (f kk).wr,.bool (f kk).sh,.int .i64 (f kk).file,.int .i64 (f kk).page]):=dD<|by rw[<-hs];rfl
   clear hs;obtain⟨x,HX⟩:∃x,Hid (f kk=x):=⟨_,rfl⟩;rw[HX.out]at HIV;have HIV2:Hid (Value.agg (onv (f kk)).toArray= .agg #[.bool true,.bool x.rd,.bool x.wr,.bool x.sh,.int .i64 x.file,.int .i64 x.page]):=dD<|by rw[HX.out];exact HIV.out
   go_upto_region 5 with(refine zcJ rfl (.tmp 8) (.tmp 9) rfl f rfl kk rfl hlt HIV2.out ?_)
   obtain⟨W1,hW1⟩:∃W1,wr.alloc (.cells #[.bool true,.bool x.rd,.bool x.wr,.bool x.sh,.int .i64 x.file,.int .i64 x.page] 67)=W1:=⟨_,rfl⟩;have G1:=gT hW1 BW
   have O1:Hid (zb arE (w.heap.size+1) W1 (.slice xa acc.length xc) acc):=dD<|by rw[<-hW1];exact OW.out.grew (za _ _)
   have P1:=xP hW1 HP
   have X1:=yA hW1 XW
   rw[hW1,HP.out];clear hW1;have p0:=P1.out.c 0 rfl
   cases kk with
   | zero=>
    have HNIL:Hid (acc=[]):=JW.out.first;have J2:Hid (J f (0+1) (acc++ [⟨((0:Nat):Int),((0:Nat):Int)+1,x.rd,x.wr,x.sh,x.file,x.page⟩])):=show J _ _ _ by
     have:=HNEW.out (fun b hb=>by rw[HNIL.out]at hb;cases hb)
     rw[HPF.out,HX.out]at this;exact this
    go_upto_region 14 with fail;clear p0;have HSZ:Hid (w.heap.size+1<=W1.heap.size):=dD<|by rw[<-HS0.out];exact bS G1.out
    have p1:=P1.out.c 1 rfl;have p2:=P1.out.c 2 rfl;have p3:=P1.out.c 3 rfl;have p4:=P1.out.c 4 rfl;have p5:=P1.out.c 5 rfl
    go_wp2_with (at_builtin;refine zB (E:=arE) rfl (.tmp 41) (.tmp 56) rfl (w.heap.size+1) _ acc rfl (O1.out.grew (za _ _)) _ [⟨((0:Nat):Int),((0:Nat):Int)+1,x.rd,x.wr,x.sh,x.file,x.page⟩] rfl (jN arE W1 ⟨((0:Nat):Int),((0:Nat):Int)+1,x.rd,x.wr,x.sh,x.file,x.page⟩ _ _ rfl (by show 40<=_;omega)) ?qb ?qc ?_)
    case qb=>
     show(acc.length+1)*40<=_
     have:=HLEN.out;omega
    case qc=>first | exact HSZ.out | exact nT HSZ.out (Nat.le_succ _) | (have:=HSZ.out;omega) | (simp;have:=HSZ.out;omega)
    intro vn Wn own grn;obtain⟨xan,xcn,rfl⟩:=own.form;have On':Hid (zb arE (w.heap.size+1) Wn (.slice xan (acc++ [(⟨((0:Nat):Int),((0:Nat):Int)+1,x.rd,x.wr,x.sh,x.file,x.page⟩:Ar)]).length xcn) (acc++ [⟨((0:Nat):Int),((0:Nat):Int)+1,x.rd,x.wr,x.sh,x.file,x.page⟩])):=own;have Gn:Hid (zc W0 Wn):=show zc _ _ from qa (G1.out.trans (za _ _)) grn (fun g hg=>by
     have h1:=(O1.out.lt g hg).1;rw[HS0.out];exact h1)
    have Xn:=dD (X0.out.grew Gn.out);clear own grn p1 p2 p3 p4 p5;go_wp2
    go_roundg (64 -(0+1))
    case measure=>omega
    exact⟨0+1,acc++ [(⟨((0:Nat):Int),((0:Nat):Int)+1,x.rd,x.wr,x.sh,x.file,x.page⟩:Ar)],xan,xcn,by omega,by omega,by go_num,rfl,Gn.out,On'.out,J2.out⟩
   | succ j=>
    have hj64:j<64:=by omega
    have hj64z:(j:Int)<64:=by omega
    have hjz:(0:Int)< ((j+1:Nat):Int):=by omega
    have hj1:((j+1:Nat):Int) - 1=(j:Int):=by omega
    have HGO:=JW.out.go HS.out;obtain⟨y,HY⟩:∃y,Hid (f j=y):=⟨_,rfl⟩;have hyp:0<=y.page/\y.page<=12:=by
     rw[<-HY.out];have h1:=HGD.out j hj64
     cases hq:(f j).is with
     | false=>rw[h1.1 hq];exact⟨by decide,by decide⟩
     | true=>
      have h2:=h1.2 hq;unfold jq Jz at h2;rw[if_pos hq]at h2;simp only at h2
      rcases Int.lt_or_le (f j).file 0 with h|h
      ·omega
      omega
    obtain⟨hy0,hy1⟩:=hyp;have HYV:Hid (Value.agg (onv (f j)).toArray= .agg #[.bool y.is,.bool y.rd,.bool y.wr,.bool y.sh,.int .i64 y.file,.int .i64 y.page]):=dD<|by rw[HY.out];rfl
    have HGJ:=zlo x y;rw[HX.out,HY.out]at HGO;have HGO':Hid _:=HGO;obtain⟨p7,HP7⟩:∃p7,Hid (W1.heap.size=p7):=⟨_,rfl⟩;have HPP:Hid (p<p7):=dD<|by rw[<-HP7.out];exact P1.out.lt
    go_upto_region 9 with(refine zch rfl (.tmp 20) rfl w.heap.size j hj64 rfl X1.out HYV.out ?_)
    clear p0;obtain⟨W2,hW2⟩:∃W2,W1.alloc (.cells #[.bool y.is,.bool y.rd,.bool y.wr,.bool y.sh,.int .i64 y.file,.int .i64 y.page] 67)=W2:=⟨_,rfl⟩;have G2:=gT hW2 G1
    have O2:Hid (zb arE (w.heap.size+1) W2 (.slice xa acc.length xc) acc):=dD<|by rw[<-hW2];exact O1.out.grew (za _ _)
    have P2:=yA hW2 P1
    have Y2:=xPT hW2 HP7
    rw[hW2,HP7.out];clear hW2;have p4:=P2.out.c 4 rfl
    by_cases hfile:0<=x.file
    ·rw[if_pos hfile]at HGJ;have HQ:=fun W=>zli y.is true y.rd x.rd y.wr x.wr y.sh x.sh y.file x.file (y.page+1) x.page W
     have HXT:Hid ((⟨true,x.rd,x.wr,x.sh,x.file,x.page⟩:On)=x):=dD<|by
      have h:=HS.out;rw[HX.out]at h;rw[<-h]
     rw[HXT.out,HGJ]at HQ;obtain⟨R,HR⟩:∃R,Hid (goJ x y=R):=⟨_,rfl⟩;rw[HR.out]at HQ HGO';have y5:=Y2.out.box.c 5 rfl;have yf:=Y2.out.box.f;go_upto_region 11 with fail;obtain⟨W3,hW3⟩:∃W3,W2.setCell ⟨p7,5,none⟩ (.int .i64 (y.page+1))=W3:=⟨_,rfl⟩;have HW0P:Hid (W0.heap.size<=p7):=dD<|by have h1:=HPP.out;have h2:=bS BW.out;have h3:=HPW.out;omega
     have G3:Hid (zc W0 W3):=dD<|by rw[<-hW3];exact zC G2.out HW0P.out _
     have O3:Hid (zb arE (w.heap.size+1) W3 (.slice xa acc.length xc) acc):=dD<|by rw[<-hW3];exact O2.out.setOther (fun g hg=>O2.out.ne Y2.out (by decide) g hg) _
     have P3:Hid (Box W3 p [.bool true,.bool x.rd,.bool x.wr,.bool x.sh,.int .i64 x.file,.int .i64 x.page]):=dD<|by rw[<-hW3];exact P2.out.other (by have:=HPP.out;simp;omega) _
     have Y3:Hid (Box W3 p7 [.bool y.is,.bool y.rd,.bool y.wr,.bool y.sh,.int .i64 y.file,.int .i64 (y.page+1)]):=dD<|by rw[<-hW3];exact Y2.out.box.set 5 _
     rw[hW3];clear hW3 y5 yf p4
     cases R with
     | true=>
      obtain⟨b,hlast,hgb⟩:=HGO'.out.1 rfl;have hacc:=zeT hlast;obtain⟨ini,hini⟩:∃ini,acc.dropLast=ini:=⟨_,rfl⟩;rw[hini]at hacc;have HACC:Hid (acc=ini++ [b]):=hacc;have J2:Hid (J f (j+1+1) (ini++ [{ b with tz:=((j+1:Nat):Int)+1 }])):=HEXT.out ini b hacc (by rw[HX.out];exact hgb)
      obtain⟨m,HM⟩:∃m,Hid (ini.length=m):=⟨_,rfl⟩;have HAL:Hid (acc.length=m+1):=dD<|by rw[HACC.out,<-HM.out];simp
      have HBI:Hid (acc[m]? =some b):=dD<|by rw[HACC.out,<-HM.out];simp
      obtain⟨g,xc',hxe⟩:=O3.out.formS (by rw[HAL.out];omega)
      cases hxe;have hmm:((m+1:Nat):Int) - 1=(m:Int):=by omega
      have hm0:(0:Int)<=(m:Int):=by omega
      have hmlt:(m:Int)< ((m+1:Nat):Int):=by omega
      have hmk:m+1<=64:=by have:=HLEN.out;rw[HAL.out]at this;omega
      clear hlast hgb hacc hini;rw[HAL.out]at O3⊢;have HSET:Hid (acc.set m { b with tz:=((j+1:Nat):Int)+1 }=ini++ [{ b with tz:=((j+1:Nat):Int)+1 }]):=dD<|by rw[HACC.out,List.set_append_right _ _ (by rw[HM.out];exact nR _),HM.out,Nat.sub_self];rfl
      go_wp2_with (first | refine zJ rfl 67 (.tmp 7) rfl p7 rfl Y3.out underlying67 rfl zlU ?_ | refine zJ rfl 67 (.tmp 5) rfl p rfl P3.out underlying67 rfl zlU ?_ | refine zt (E:=arE) rfl (.tmp 40) (.tmp 38) 3 rfl (w.heap.size+1) (.slice (some ⟨g,0,none⟩) (m+1) xc) acc O3.out g m 1 rfl b { b with tz:=((j+1:Nat):Int)+1 } HBI.out [.int .i64 (((j+1:Nat):Int)+1)] (by kernel_rfl) rfl (Nat.le_of_ble_eq_true rfl) (by intro u hu;simp at hu;subst hu;rfl) _ rfl (by simp;rfl) _ rfl rfl ?_)
      intro W4 ow4 gr4 sz4;have HBG:=O3.out.lt g rfl;have G4:Hid (zc W0 W4):=dD<|ze G3.out gr4 (by rw[HS0.out];exact HBG.1)
      have HL4:Hid ((ini++ [({ b with tz:=((j+1:Nat):Int)+1 }:Ar)]).length=m+1):=dD<|by simp[HM.out]
      have O4:Hid (zb arE (w.heap.size+1) W4 (.slice (some ⟨g,0,none⟩) (ini++ [({ b with tz:=((j+1:Nat):Int)+1 }:Ar)]).length xc) (ini++ [{ b with tz:=((j+1:Nat):Int)+1 }])):=dD<|by rw[HL4.out,<-HSET.out];exact ow4
      clear ow4 gr4 sz4;rw[<-HL4.out];go_wp2
      go_roundg (64 -(j+1+1))
      case measure=>omega
      exact⟨j+1+1,ini++ [({ b with tz:=((j+1:Nat):Int)+1 }:Ar)],some ⟨g,0,none⟩,xc,by omega,by omega,by go_num,rfl,G4.out,O4.out,J2.out⟩
     | false=>
      have J2:Hid (J f (j+1+1) (acc++ [⟨((j+1:Nat)),(((j+1:Nat)):Int)+1,x.rd,x.wr,x.sh,x.file,x.page⟩])):=dD<|by
       have:=HNEW.out (fun b hb=>by rw[HX.out];exact HGO'.out.2 rfl b hb)
       rw[HPF.out,HX.out]at this;exact this
      go_upto_region 14 with(first | refine zJ rfl 67 (.tmp 7) rfl p7 rfl Y3.out underlying67 rfl zlU ?_ | refine zJ rfl 67 (.tmp 5) rfl p rfl P3.out underlying67 rfl zlU ?_)
      have HSZ:Hid (w.heap.size+1<=W3.heap.size):=dD<|by rw[<-HS0.out];exact bS G3.out
      have p1:=P3.out.c 1 rfl;have p2:=P3.out.c 2 rfl;have p3:=P3.out.c 3 rfl;have p4:=P3.out.c 4 rfl;have p5:=P3.out.c 5 rfl
      go_wp2_with (at_builtin;refine zB (E:=arE) rfl (.tmp 41) (.tmp 56) rfl (w.heap.size+1) _ acc rfl (O3.out.grew (za _ _)) _ [⟨((j+1:Nat):Int),((j+1:Nat):Int)+1,x.rd,x.wr,x.sh,x.file,x.page⟩] rfl (jN arE W3 ⟨((j+1:Nat):Int),((j+1:Nat):Int)+1,x.rd,x.wr,x.sh,x.file,x.page⟩ _ _ rfl (by show 40<=_;omega)) ?qb ?qc ?_)
      case qb=>
       show(acc.length+1)*40<=_
       have:=HLEN.out;omega
      case qc=>first | exact HSZ.out | exact nT HSZ.out (Nat.le_succ _) | (have:=HSZ.out;omega) | (simp;have:=HSZ.out;omega)
      intro vn Wn own grn;obtain⟨xan,xcn,rfl⟩:=own.form;have On':Hid (zb arE (w.heap.size+1) Wn (.slice xan (acc++ [(⟨((j+1:Nat):Int),((j+1:Nat):Int)+1,x.rd,x.wr,x.sh,x.file,x.page⟩:Ar)]).length xcn) (acc++ [⟨((j+1:Nat):Int),((j+1:Nat):Int)+1,x.rd,x.wr,x.sh,x.file,x.page⟩])):=own;have Gn:Hid (zc W0 Wn):=show zc _ _ from qa (G3.out.trans (za _ _)) grn (fun g hg=>by
       have h1:=(O3.out.lt g hg).1;rw[HS0.out];exact h1)
      have Xn:=dD (X0.out.grew Gn.out);clear own grn p1 p2 p3 p4 p5;go_wp2
      go_roundg (64 -((j+1)+1))
      case measure=>omega
      exact⟨(j+1)+1,acc++ [(⟨((j+1:Nat):Int),((j+1:Nat):Int)+1,x.rd,x.wr,x.sh,x.file,x.page⟩:Ar)],xan,xcn,by omega,by omega,by go_num,rfl,Gn.out,On'.out,J2.out⟩
    rw[if_neg hfile]at HGJ;have HQ:=fun W=>zli y.is true y.rd x.rd y.wr x.wr y.sh x.sh y.file x.file y.page x.page W
    have HXT:Hid ((⟨true,x.rd,x.wr,x.sh,x.file,x.page⟩:On)=x):=dD<|by
     have h:=HS.out;rw[HX.out]at h;rw[<-h]
    rw[HXT.out,HGJ]at HQ;obtain⟨R,HR⟩:∃R,Hid (goJ x y=R):=⟨_,rfl⟩;rw[HR.out]at HQ HGO';go_upto_region 11 with fail;clear p4;have G3:Hid (zc W0 W2):=G2;have O3:Hid (zb arE (w.heap.size+1) W2 (.slice xa acc.length xc) acc):=O2;have P3:Hid (Box W2 p [.bool true,.bool x.rd,.bool x.wr,.bool x.sh,.int .i64 x.file,.int .i64 x.page]):=P2;have Y3:Hid (Box W2 p7 [.bool y.is,.bool y.rd,.bool y.wr,.bool y.sh,.int .i64 y.file,.int .i64 y.page]):=Y2.out.box;obtain⟨W3,hW3⟩:∃W3,W2=W3:=⟨_,rfl⟩;rw[hW3]at G3 O3 P3 Y3⊢;clear hW3
    cases R with
    | true=>
     obtain⟨b,hlast,hgb⟩:=HGO'.out.1 rfl;have hacc:=zeT hlast;obtain⟨ini,hini⟩:∃ini,acc.dropLast=ini:=⟨_,rfl⟩;rw[hini]at hacc;have HACC:Hid (acc=ini++ [b]):=hacc;have J2:Hid (J f (j+1+1) (ini++ [{ b with tz:=((j+1:Nat):Int)+1 }])):=HEXT.out ini b hacc (by rw[HX.out];exact hgb)
     obtain⟨m,HM⟩:∃m,Hid (ini.length=m):=⟨_,rfl⟩;have HAL:Hid (acc.length=m+1):=dD<|by rw[HACC.out,<-HM.out];simp
     have HBI:Hid (acc[m]? =some b):=dD<|by rw[HACC.out,<-HM.out];simp
     obtain⟨g,xc',hxe⟩:=O3.out.formS (by rw[HAL.out];omega)
     cases hxe;have hmm:((m+1:Nat):Int) - 1=(m:Int):=by omega
     have hm0:(0:Int)<=(m:Int):=by omega
     have hmlt:(m:Int)< ((m+1:Nat):Int):=by omega
     have hmk:m+1<=64:=by have:=HLEN.out;rw[HAL.out]at this;omega
     clear hlast hgb hacc hini;rw[HAL.out]at O3⊢;have HSET:Hid (acc.set m { b with tz:=((j+1:Nat):Int)+1 }=ini++ [{ b with tz:=((j+1:Nat):Int)+1 }]):=dD<|by rw[HACC.out,List.set_append_right _ _ (by rw[HM.out];exact nR _),HM.out,Nat.sub_self];rfl
     go_wp2_with (first | refine zJ rfl 67 (.tmp 7) rfl p7 rfl Y3.out underlying67 rfl zlU ?_ | refine zJ rfl 67 (.tmp 5) rfl p rfl P3.out underlying67 rfl zlU ?_ | refine zt (E:=arE) rfl (.tmp 40) (.tmp 38) 3 rfl (w.heap.size+1) (.slice (some ⟨g,0,none⟩) (m+1) xc) acc O3.out g m 1 rfl b { b with tz:=((j+1:Nat):Int)+1 } HBI.out [.int .i64 (((j+1:Nat):Int)+1)] (by kernel_rfl) rfl (Nat.le_of_ble_eq_true rfl) (by intro u hu;simp at hu;subst hu;rfl) _ rfl (by simp;rfl) _ rfl rfl ?_)
     intro W4 ow4 gr4 sz4;have HBG:=O3.out.lt g rfl;have G4:Hid (zc W0 W4):=dD<|ze G3.out gr4 (by rw[HS0.out];exact HBG.1)
     have HL4:Hid ((ini++ [({ b with tz:=((j+1:Nat):Int)+1 }:Ar)]).length=m+1):=dD<|by simp[HM.out]
     have O4:Hid (zb arE (w.heap.size+1) W4 (.slice (some ⟨g,0,none⟩) (ini++ [({ b with tz:=((j+1:Nat):Int)+1 }:Ar)]).length xc) (ini++ [{ b with tz:=((j+1:Nat):Int)+1 }])):=dD<|by rw[HL4.out,<-HSET.out];exact ow4
     clear ow4 gr4 sz4;rw[<-HL4.out];go_wp2
     go_roundg (64 -(j+1+1))
     case measure=>omega
     exact⟨j+1+1,ini++ [({ b with tz:=((j+1:Nat):Int)+1 }:Ar)],some ⟨g,0,none⟩,xc,by omega,by omega,by go_num,rfl,G4.out,O4.out,J2.out⟩
    | false=>
     have J2:Hid (J f (j+1+1) (acc++ [⟨((j+1:Nat)),(((j+1:Nat)):Int)+1,x.rd,x.wr,x.sh,x.file,x.page⟩])):=dD<|by
      have:=HNEW.out (fun b hb=>by rw[HX.out];exact HGO'.out.2 rfl b hb)
      rw[HPF.out,HX.out]at this;exact this
     go_upto_region 14 with(first | refine zJ rfl 67 (.tmp 7) rfl p7 rfl Y3.out underlying67 rfl zlU ?_ | refine zJ rfl 67 (.tmp 5) rfl p rfl P3.out underlying67 rfl zlU ?_)
     have HSZ:Hid (w.heap.size+1<=W3.heap.size):=dD<|by rw[<-HS0.out];exact bS G3.out
     have p1:=P3.out.c 1 rfl;have p2:=P3.out.c 2 rfl;have p3:=P3.out.c 3 rfl;have p4:=P3.out.c 4 rfl;have p5:=P3.out.c 5 rfl
     go_wp2_with (at_builtin;refine zB (E:=arE) rfl (.tmp 41) (.tmp 56) rfl (w.heap.size+1) _ acc rfl (O3.out.grew (za _ _)) _ [⟨((j+1:Nat):Int),((j+1:Nat):Int)+1,x.rd,x.wr,x.sh,x.file,x.page⟩] rfl (jN arE W3 ⟨((j+1:Nat):Int),((j+1:Nat):Int)+1,x.rd,x.wr,x.sh,x.file,x.page⟩ _ _ rfl (by show 40<=_;omega)) ?qb ?qc ?_)
     case qb=>
      show(acc.length+1)*40<=_
      have:=HLEN.out;omega
     case qc=>first | exact HSZ.out | exact nT HSZ.out (Nat.le_succ _) | (have:=HSZ.out;omega) | (simp;have:=HSZ.out;omega)
     intro vn Wn own grn;obtain⟨xan,xcn,rfl⟩:=own.form;have On':Hid (zb arE (w.heap.size+1) Wn (.slice xan (acc++ [(⟨((j+1:Nat):Int),((j+1:Nat):Int)+1,x.rd,x.wr,x.sh,x.file,x.page⟩:Ar)]).length xcn) (acc++ [⟨((j+1:Nat):Int),((j+1:Nat):Int)+1,x.rd,x.wr,x.sh,x.file,x.page⟩])):=own;have Gn:Hid (zc W0 Wn):=show zc _ _ from qa (G3.out.trans (za _ _)) grn (fun g hg=>by
      have h1:=(O3.out.lt g hg).1;rw[HS0.out];exact h1)
     have Xn:=dD (X0.out.grew Gn.out);clear own grn p1 p2 p3 p4 p5;go_wp2
     go_roundg (64 -((j+1)+1))
     case measure=>omega
     exact⟨(j+1)+1,acc++ [(⟨((j+1:Nat):Int),((j+1:Nat):Int)+1,x.rd,x.wr,x.sh,x.file,x.page⟩:Ar)],xan,xcn,by omega,by omega,by go_num,rfl,Gn.out,On'.out,J2.out⟩
 have hltz:¬(kk:Int)<64:=by omega
 have:kk=64:=by omega
 subst this;have HE:Hid (acc=j5 f):=JW.out.all HGD.out;have OE:Hid (zb arE (w.heap.size+1) wr (.slice xa acc.length xc) (j5 f)):=show zb _ _ _ _ _ by rw[<-HE.out];exact OW.out
 have GE:=dD (HG0.out.trans BW.out);go_wp2;go_ret;exact⟨⟨_,rfl,OE.out⟩,GE.out⟩
theorem zgq (f:Nat->On) (w:World) (hg:zeI f):
  Calls prog 129 #[.agg (zy (tab f)).toArray] w fun e w'=>(∃u,e= .returned (.tuple #[u,.int .i64 (zeG f).2])/\zb arE w.heap.size w' u (zeG f).1)/\zc w w':=by
 have HA:Hid (∀W,Calls prog 145 #[.agg (zy (tab f)).toArray] W fun e w'=>(∃v,e= .returned v/\zb arE (W.heap.size+1) w' v (j5 f))/\zc W w'):=fun W=>zaG f W hg
 have HFW:Hid (¬16< (j5 f).length->zeG f=(j5 f,0)):=fun h=>by unfold zeG;rw[if_neg h]
 have HFM:Hid (16< (j5 f).length->zeG f=([],4)):=fun h=>by unfold zeG;rw[if_pos h]
 have HJS:Hid ((j5 f).length<=64):=(zbx hg).len;clear hg;obtain⟨FW,HFE⟩:∃FW,Hid (zeG f=FW):=⟨_,rfl⟩;simp only[HFE.out]at HFW HFM⊢;obtain⟨JL,HJL⟩:∃JL,Hid (j5 f=JL):=⟨_,rfl⟩;simp only[HJL.out]at HFW HFM HJS HA;have HCL:Hid ((zy (tab f)).length=384):=jB _
 generalize zy (tab f)=C at HA HCL⊢
 obtain⟨W0,hW0⟩:∃W0,w.alloc (.cells C.toArray 68)=W0:=⟨_,rfl⟩;have HG0:=gA hW0
 have X0:=xA hW0
 have HW0:Hid (_=W0):=hW0;clear hW0
 go_enter func129,ntmps129
 go_upto_region 1 with fail;rw[HW0.out]
 go_wp2_with (refine zJ rfl 68 (.tmp 1) rfl w.heap.size rfl X0.out underlying68 rfl (by rw[HCL.out];exact zlV) ?_)
 refine(HA.out W0).mono ?_;rintro e W5 ⟨⟨u,rfl,ow5⟩,g5⟩;obtain⟨xa,xc,rfl⟩:=ow5.form;have G5:=dD (HG0.out.trans g5);have O5:Hid (zb arE w.heap.size W5 (.slice xa JL.length xc) JL):=ow5.base (nT (bS HG0.out) (Nat.le_succ _));clear g5 ow5;obtain⟨m,HM⟩:∃m,Hid (JL.length=m):=⟨_,rfl⟩;rw[HM.out]at HFW HFM HJS O5⊢;have hm64:m<=64:=HJS.out
 by_cases hmany:16<m
 ·have hmz:(16:Int)< (m:Int):=by omega
  have HR:Hid (FW=([],4)):=HFM.out hmany;go_wp2;refine bodyPost_ret (results_tmp2 rfl _ _ _) rfl ?_;rw[HR.out];exact⟨⟨_,rfl,zb.nil _ _ _⟩,G5.out⟩
 have hmz:¬(16:Int)< (m:Int):=by omega
 have HR:Hid (FW=(JL,0)):=HFW.out hmany;go_wp2;refine bodyPost_ret (results_tmp2 rfl _ _ _) rfl ?_;rw[HR.out];exact⟨⟨_,rfl,O5.out⟩,G5.out⟩
theorem ziW {b a:Ar} (hb:jq b) (ha:jq a):zeI (zG [b,a]):=fun k _=>⟨zcZ,fun h1=>by
 obtain⟨i,c,h2,h3,h4⟩:=Qj h1;rw[h4];have:c=b\/c=a:=by simpa using mG h2
 rcases this with e|e <;> subst e
 ·exact Jk hb h3
 exact Jk ha h3⟩
theorem zkn {w:World} {ad:Addr} {n c:Nat} {b q:Ar} (h:zr arE w (.slice (some ad) n c) l) (hb:l[j]? =some b) (hq:l[j+1]? =some q):zr arE w (.slice (some (ad.add (j*7))) 2 (c - j)) [b,q]:=by
 obtain⟨⟨a',c',h1,h2,h3⟩,h4⟩:=h;cases h1;refine⟨⟨some (ad.add (j*7)),c - j,rfl,fun h=>(by cases h),fun x hx k u hu=>?_⟩,by show 2*40<=_;omega⟩
 cases hx;rw[zR];refine h3 ad rfl (j*7+k) u ?_;have hu':(arv b++arv q)[k]? =some u:=by simpa [arE]using hu
 by_cases hk:k<7
 ·rw[List.getElem?_append_left (by simpa [arv]using hk)]at hu'
  exact qA (enc:=arv) (k:=7) l j b (fun _ _=>rfl) hb k u hu'
 rw[aR (by simp[arv];omega)]at hu'
 have:=qA (enc:=arv) (k:=7) l (j+1) q (fun _ _=>rfl) hq (k - 7) u (by simpa [arv]using hu')
 rw[show(j+1)*7+(k - 7)=j*7+k by omega]at this
 exact this
theorem zgn {w:World} {ad:Addr} {n c:Nat} (hj:j+2<=c):(Instr.sliceAt 58 (.slice (some ad) n c) (some (.int .i64 (j:Int))) (some (.int .i64 ((j:Int)+1+1))) none).run prog w= .ok (.slice (some (ad.add (j*7))) 2 (c - j)) w:=by
 have hs:(Go.sizeOf 91).run prog w= .ok 7 w:=by
  obtain⟨i0,h1,h2⟩:∃i0,Tryz.prog.info? 91=some i0/\i0.size=7:=by
   have:=zlS
   cases hq:Tryz.prog.info? 91 with
   | none=>rw[hq]at this;cases this
   | some i0=>rw[hq]at this;exact⟨i0,rfl,by simpa using this⟩
  simp[Go.sizeOf,typeInfo,h1,h2]
 have h1:(0:Int)<=(j:Int)+1+1/\(j:Int)+1+1<=(c:Int):=by omega
 have h2:((j:Int)+1+1).toNat=j+2:=by omega
 have h3:(0:Int)<=(j:Int)/\(j:Int)<=((j+2:Nat):Int):=by omega
 have h4:¬c=j:=by omega
 simp only[Instr.sliceAt,Instr.slice,Instr.sliceBounds,Instr.sliceBound,asIntOf,Sem.run_bind,Sem.run_pure,rA,run_underlying underlying58];rw[if_pos h1];simp only[Sem.run_pure,rA,h2];rw[if_pos h3];simp only[Sem.run_pure,rA,hs,tN,if_neg h4,Option.map_some]
 congr 2
 omega
theorem zb8 (v:Value) (l:List Ar) (w:World) (hv:zr arE w v l) (hcap:Cap v):
  Calls prog 94 #[v] w fun e w'=>e= .returned (.agg #[.int .i64 (wrL l).1,.int .i64 (wrL l).2])/\zc w w':=by
 have hbig:=hv.short;obtain⟨a,c,rfl,hrow⟩:=hv.ars;have HR':Hid (zbX w a l):=hrow;have hwa:Hid (∀(q:Ar) W,Calls prog 128 #[.agg #[.int .i64 q.fr,.int .i64 q.tz,.bool q.rd,.bool q.wr,.bool q.sh,.int .i64 q.file,.int .i64 q.base]] W fun e w'=>e= .returned (.int .i64 (arW q))/\zc W w'):=fun q W=>QJ q W
 have HV:Hid (zr arE w (.slice a l.length c) l):=hv;have hcp:l.length<=c:=hcap;have h1:Hid (∀(b q:Ar) v W,zr arE W v [b,q]->jq b->jq q->b.tz<=q.fr->Calls prog 20 #[v] W fun e w'=>e= .returned (.agg (zy (tab (zG [b,q]))).toArray)/\zc W w'):=fun b q v W hv hb hq hf=>ZB v [b,q] W hv (zju hb hq hf)
 have h2:Hid (∀(b q:Ar) W,jq b->jq q->b.tz<=q.fr->Calls prog 145 #[.agg (zy (tab (zG [b,q]))).toArray] W fun e w'=>(∃xa xc,e= .returned (.slice xa (j5 (zG [b,q])).length xc))/\zc W w'):=fun b q W hb hq hf=>(zaG (zG [b,q]) W (ziW hb hq)).mono (by
  rintro e w' ⟨⟨v,rfl,ow⟩,g⟩;obtain⟨xa,xc,rfl⟩:=ow.form;exact⟨⟨xa,xc,rfl⟩,g⟩)
 clear hrow hv hcap;have HST:Hid (¬16<l.length->Ji (jQ l 0) (l.drop 0) 0=wrL l):=zdv;have HMA:Hid (16<l.length->wrL l=(4,0)):=fun h=>by unfold wrL;rw[if_pos h]
 have HEND:Hid (∀r,Ji (jQ l l.length) (l.drop l.length) l.length=r->r=(0,0)):=fun r=>zhm
 obtain⟨n,HN⟩:∃n,Hid (l.length=n):=⟨_,rfl⟩;rw[HN.out]at hbig hcp HV⊢;have HST':Hid (¬16<n->Ji (jQ l 0) (l.drop 0) 0=wrL l):=dD<|by rw[<-HN.out];exact HST.out
 have HMA':Hid (16<n->wrL l=(4,0)):=dD<|by rw[<-HN.out];exact HMA.out
 have HEND':Hid (∀r,Ji (jQ l n) (l.drop n) n=r->r=(0,0)):=dD<|by rw[<-HN.out];exact HEND.out
 skip
 generalize hA:wrL l=ANS at HST' HMA'⊢
 clear hA;obtain⟨W0,hW0⟩:∃W0,w.alloc (.cells #[.int .i64 0,.int .i64 0] 164)=W0:=⟨_,rfl⟩;have HG0:=gA hW0
 have X0:=xA hW0
 have HW0:Hid (_=W0):=hW0;clear hW0
 by_cases hmany:16<n
 ·have HR:Hid (ANS=(4,0)):=HMA'.out hmany;have hmz:(16:Int)< (n:Int):=by omega
  go_enter func94,ntmps94
  go_upto_region 1 with fail;rw[HW0.out];have f0:=X0.out.c 0 rfl;have f1:=X0.out.c 1 rfl;have ff:=X0.out.f;have RB:Hid (Box ((W0.setCell ⟨w.heap.size,0,none⟩ (.int .i64 4)).setCell ⟨w.heap.size,1,none⟩ (.int .i64 0)) w.heap.size [.int .i64 4,.int .i64 0]):=dD<|(X0.out.set 0 _).set 1 _
  have RG:Hid (zc w ((W0.setCell ⟨w.heap.size,0,none⟩ (.int .i64 4)).setCell ⟨w.heap.size,1,none⟩ (.int .i64 0))):=dD<|zC (zC HG0.out (by simp) _) (by simp) _
  go_wp2;refine bodyPost_ret (zY (vs:=[.int .i64 4,.int .i64 0]) rfl _ rfl RB.out underlying164 rfl zlT) rfl ⟨?_,RG.out⟩;rw[HR.out]
 have hmz:¬(16:Int)< (n:Int):=by omega
 have HI:Hid (Ji (jQ l 0) (l.drop 0) 0=ANS):=HST'.out hmany
 go_enter func94,ntmps94
 go_upto_region 1 with fail;rw[HW0.out];go_wp2
 go_loopg [12] n (fun gg s12 wr=>∃kk:Nat,kk<=n/\n - kk<=gg/\s12= .int .i64 kk/\Hid (zc w wr)/\Hid (Box wr w.heap.size [.int .i64 0,.int .i64 0])/\Hid (Ji (jQ l kk) (l.drop kk) kk=ANS)/\Hid (∀(j:Nat) q,j<kk->l[j]? =some q->jq q))
 case atStart=>exact⟨0,nZ _,by omega,rfl,HG0.out,X0.out,HI.out,fun j q hj=>absurd hj (nL _)⟩
 obtain⟨kk,hkk,hg,rfl,BW,FW,IW,OW⟩:=hrel
 by_cases hlt:kk<n
 ·have hltz:(kk:Int)< (n:Int):=by omega
  obtain⟨q,HQ⟩:∃q,Hid (l[kk]? =some q):=⟨_,gE (by rw[HN.out];exact hlt)⟩
  obtain⟨ad,rfl,hl⟩:=HR'.out kk q HQ.out;obtain⟨d0,d1,d2,d3,d4,d5,d6⟩:=hl wr BW.out;have HL:Hid (w.heap.size<wr.heap.size):=FW.out.lt;obtain⟨p,HP⟩:∃p,Hid (wr.heap.size=p):=⟨_,rfl⟩;have HLP:Hid (w.heap.size<p):=show _<_ by rw[<-HP.out];exact HL.out
  clear hl;go_upto_region 6 with fail;obtain⟨W1,hW1⟩:∃W1,wr.alloc (.cells #[.int .i64 q.fr,.int .i64 q.tz,.bool q.rd,.bool q.wr,.bool q.sh,.int .i64 q.file,.int .i64 q.base] 91)=W1:=⟨_,rfl⟩;have G1:=gT hW1 BW
  have F1:=yA hW1 FW
  have P1:=xP hW1 HP
  rw[hW1,HP.out];clear hW1 d0 d1 d2 d3 d4 d5 d6
  go_wp2_with (refine zJ rfl 91 (.tmp 4) rfl p rfl P1.out underlying91 rfl zlS ?_)
  refine(hwa.out q _).mono ?_;rintro e W2 ⟨rfl,g2⟩;have G2:=dD (G1.out.trans g2);have F2:=dD (F1.out.grew g2);have P2:=dD (P1.out.grew g2);clear g2;have hpne:p≠w.heap.size:=by have:=HLP.out;omega
  have hpne':w.heap.size≠p:=by have:=HLP.out;omega
  by_cases hz:arW q=0
  ·have HZ:Hid (arW q=0):=hz;have hzb:(arW q != 0)=false:=by simp[hz]
   have HOK:Hid (jq q):=Zu.1 hz;have OW':Hid (∀(j:Nat) x,j<kk+1->l[j]? =some x->jq x):=show∀(j:Nat) x,_ from fun j x hj hx=>by
    by_cases e:j=kk
    ·subst e;rw[HQ.out]at hx;cases hx;exact HOK.out
    exact OW.out j x (by omega) hx
   clear hz;go_upto_region 9 with fail
   generalize arW q=zq
   cases kk with
   | zero=>
    have HNX:Hid (Ji (jQ l 1) (l.drop 1) 1=ANS):=zdu IW.out HQ.out HZ.out;have hz0:¬(0:Int)< ((0:Nat):Int):=by decide
    have hz1:decide ((0:Int)< ((0:Nat):Int))=false:=by decide
    go_quiet (fail);go_wp2
    go_roundg (n - 1)
    case measure=>omega
    exact⟨1,by omega,by omega,by go_num,G2.out.trans (show Below _ _ _ from bD (bR _ _) _),F2.out.grew (show Below _ _ _ from bD (bR _ _) _),HNX.out,OW'.out⟩
   | succ j=>
    obtain⟨b,HB⟩:∃b,Hid (l[j]? =some b):=⟨_,gE (by rw[HN.out];omega)⟩
    have HBK:Hid (jq b):=OW.out j b (by omega) HB.out
    have hz0:(0:Int)< ((j+1:Nat):Int):=by omega
    have hz1:decide ((0:Int)< ((j+1:Nat):Int))=true:=by simp
    have hj1:((j+1:Nat):Int) - 1=(j:Int):=by omega
    have hjn:(j:Int)< (n:Int):=by omega
    obtain⟨ad',had,hl⟩:=HR'.out j b HB.out;obtain rfl:ad=ad':=by cases had;rfl
    by_cases hc:q.fr<b.tz
    ·have HR:Hid (ANS=(2,((j+1:Nat):Int))):=zaX IW.out HB.out HQ.out HZ.out (.inl hc);have hcd:decide (q.fr<b.tz)=true:=by simpa using hc
     obtain⟨e0,e1,e2,e3,e4,e5,e6⟩:=hl W2 G2.out;have p0:=P2.out.c 0 rfl;clear hl;go_quiet (fail);obtain⟨W3,hW3⟩:∃W3,W2.drewN nq=W3:=⟨_,rfl⟩;have G3:Hid (zc w W3):=dD<|by rw[<-hW3];exact G2.out.trans (show Below _ _ _ from bD (bR _ _) _)
     have F3:Hid (Box W3 w.heap.size [.int .i64 0,.int .i64 0]):=dD<|by rw[<-hW3];exact F2.out.grew (show Below _ _ _ from bD (bR _ _) _)
     rw[hW3];clear hW3 e0 e1 e2 e3 e4 e5 e6 p0;have f0:=F3.out.c 0 rfl;have f1:=F3.out.c 1 rfl;have ff:=F3.out.f;have RB:Hid (Box ((W3.setCell ⟨w.heap.size,0,none⟩ (.int .i64 2)).setCell ⟨w.heap.size,1,none⟩ (.int .i64 ((j+1:Nat):Int))) w.heap.size [.int .i64 2,.int .i64 ((j+1:Nat):Int)]):=dD<|(F3.out.set 0 _).set 1 _
     have RG:Hid (zc w ((W3.setCell ⟨w.heap.size,0,none⟩ (.int .i64 2)).setCell ⟨w.heap.size,1,none⟩ (.int .i64 ((j+1:Nat):Int)))):=dD<|zC (zC G3.out (by simp) _) (by simp) _
     go_wp2;refine bodyPost_ret (zY (vs:=[.int .i64 2,.int .i64 ((j+1:Nat):Int)]) rfl _ rfl RB.out underlying164 rfl zlT) rfl ⟨?_,RG.out⟩;rw[HR.out]
    have hcd:decide (q.fr<b.tz)=false:=by simpa using hc
    have HC:Hid (¬q.fr<b.tz):=hc;have hx0:=P2.out.gw 0 rfl
    have hx1:=P2.out.gw 1 rfl
    have hx2:=P2.out.gw 2 rfl
    have hx3:=P2.out.gw 3 rfl
    have hx4:=P2.out.gw 4 rfl
    have hx5:=P2.out.gw 5 rfl
    have hx6:=P2.out.gw 6 rfl
    have hy0:∀y:zE W2,y.world.cell? (ad.add (j*7))=some (.int .i64 b.fr):=fun y=>(hl _ (G2.out.trans y.grew)).1
    have hy1:∀y:zE W2,y.world.cell? { block:=(ad.add (j*7)).block,off:=(ad.add (j*7)).off+1 }=some (.int .i64 b.tz):=fun y=>(hl _ (G2.out.trans y.grew)).2.1
    have hy2:∀y:zE W2,y.world.cell? { block:=(ad.add (j*7)).block,off:=(ad.add (j*7)).off+2 }=some (.bool b.rd):=fun y=>(hl _ (G2.out.trans y.grew)).2.2.1
    have hy3:∀y:zE W2,y.world.cell? { block:=(ad.add (j*7)).block,off:=(ad.add (j*7)).off+3 }=some (.bool b.wr):=fun y=>(hl _ (G2.out.trans y.grew)).2.2.2.1
    have hy4:∀y:zE W2,y.world.cell? { block:=(ad.add (j*7)).block,off:=(ad.add (j*7)).off+4 }=some (.bool b.sh):=fun y=>(hl _ (G2.out.trans y.grew)).2.2.2.2.1
    have hy5:∀y:zE W2,y.world.cell? { block:=(ad.add (j*7)).block,off:=(ad.add (j*7)).off+5 }=some (.int .i64 b.file):=fun y=>(hl _ (G2.out.trans y.grew)).2.2.2.2.2.1
    have hy6:∀y:zE W2,y.world.cell? { block:=(ad.add (j*7)).block,off:=(ad.add (j*7)).off+6 }=some (.int .i64 b.base):=fun y=>(hl _ (G2.out.trans y.grew)).2.2.2.2.2.2
    have hne:Nonempty (zE W2):=⟨⟨_,zc.refl _⟩⟩;have HSL:Hid (∀W,zc w W->zr arE W (.slice (some (ad.add (j*7))) 2 (c - j)) [b,q]):=fun W hW=>zkn (HV.out.grew hW) HB.out HQ.out
    have hsl:=fun W=>zgn (w:=W) (ad:=ad) (n:=n) (c:=c) (j:=j) (by omega)
    obtain⟨M,HM⟩:∃M,Hid ((j5 (zG [b,q])).length=M):=⟨_,rfl⟩;have HTG:Hid (decide (M<2)=goB q b):=dD<|by rw[<-HM.out];exact zla HBK.out HOK.out (by have:=HC.out;omega)
    have HF2:Hid (b.tz<=q.fr):=dD<|by have:=HC.out;omega
    clear hl;obtain⟨O2,HO2⟩:∃O2,Hid (zy (tab (zG [b,q]))=O2):=⟨_,rfl⟩;refine Zl [(19,⟨fun v=>v= .agg O2.toArray,fun _ _=>True⟩),(20,⟨fun v=>∃xa xc,v= .slice xa M xc,fun _ _=>True⟩)] qn (by kernel_rfl) ?_ ?_ ?_
    ·intro x hx
     simp at hx
     rcases hx with rfl|rfl
     ·exact⟨_,rfl⟩
     exact⟨.slice none M 0,none,0,rfl⟩
    ·intro x hx
     simp at hx
     rcases hx with rfl|rfl
     ·exact fun _ _ _ _ h=>h
     exact fun _ _ _ _ h=>h
    iterate 19 (refine zn rfl rfl rfl (fun K hK=>?_);go_big_quiet_op;refine hK _ ?_;clear hK)
    refine zQ rfl rfl (fun w' hg hF=>?_) (fun v1 hv=>?_)
    ·refine zK.call [.slice (some (ad.add (j*7))) 2 (c - j)] rfl func20 rfl rfl rfl ?_;refine(h1.out b q _ w' (HSL.out w' (G2.out.trans hg)) HBK.out HOK.out HF2.out).mono ?_;rintro e w'' ⟨rfl,hg2⟩;exact⟨_,rfl,hg2,by rw[HO2.out],trivial⟩
    subst hv;simp only[Act.put,sB,sS,sZ];refine zQ rfl rfl (fun w' hg hF=>?_) (fun v1 hv=>?_)
    ·refine zK.call [.agg O2.toArray] rfl func145 rfl rfl rfl ?_;rw[<-HO2.out];refine(h2.out b q w' HBK.out HOK.out HF2.out).mono ?_;rintro e w'' ⟨⟨xa,xc,rfl⟩,hg2⟩;exact⟨_,rfl,hg2,⟨xa,xc,by rw[HM.out]⟩,trivial⟩
    obtain⟨xa2,xc2,rfl⟩:=hv;simp only[Act.put,sB,sS,sZ];have hmz:decide ((M:Int)<2)=goB q b:=by rw[<-HTG.out];exact decide_eq_decide.2 (by omega)
    iterate 4 (refine zn rfl rfl rfl (fun K hK=>?_);go_big_quiet_op;refine hK _ ?_;clear hK)
    refine qT fun W3 hg1 hF=>?_
    have G3:=dD (G2.out.trans hg1);have F3:=dD (F2.out.grew hg1);clear hmz hsl hg1 hF hx0 hx1 hx2 hx3 hx4 hx5 hx6 hy0 hy1 hy2 hy3 hy4 hy5 hy6 hne
    cases hgb:goB q b with
    | true=>
     have HR:Hid (ANS=(2,((j+1:Nat):Int))):=zaX IW.out HB.out HQ.out HZ.out (.inr hgb);clear hgb;have f0:=F3.out.c 0 rfl;have f1:=F3.out.c 1 rfl;have ff:=F3.out.f;have RB:Hid (Box ((W3.setCell ⟨w.heap.size,0,none⟩ (.int .i64 2)).setCell ⟨w.heap.size,1,none⟩ (.int .i64 ((j+1:Nat):Int))) w.heap.size [.int .i64 2,.int .i64 ((j+1:Nat):Int)]):=show Box _ _ _ from(F3.out.set 0 _).set 1 _
     have RG:Hid (zc w ((W3.setCell ⟨w.heap.size,0,none⟩ (.int .i64 2)).setCell ⟨w.heap.size,1,none⟩ (.int .i64 ((j+1:Nat):Int)))):=dD<|zC (zC G3.out (by simp) _) (by simp) _
     go_wp2;refine bodyPost_ret (zY (vs:=[.int .i64 2,.int .i64 ((j+1:Nat):Int)]) rfl _ rfl RB.out underlying164 rfl zlT) rfl ⟨?_,RG.out⟩;rw[HR.out]
    | false=>
     have HNX:Hid (Ji (jQ l (j+1+1)) (l.drop (j+1+1)) (j+1+1)=ANS):=zfy IW.out HB.out HQ.out HZ.out HC.out hgb;clear hgb;go_wp2
     go_roundg (n -(j+1+1))
     case measure=>omega
     exact⟨j+1+1,by omega,by omega,by go_num,G3.out,F3.out,HNX.out,OW'.out⟩
  have HR:Hid (ANS=(arW q,(kk:Int))):=zhn IW.out HQ.out hz;have hzb:(arW q != 0)=true:=by simp[hz]
  clear hz;have f0:=F2.out.c 0 rfl;have f1:=F2.out.c 1 rfl;have ff:=F2.out.f;have RB:Hid (Box ((W2.setCell ⟨w.heap.size,0,none⟩ (.int .i64 (arW q))).setCell ⟨w.heap.size,1,none⟩ (.int .i64 (kk:Int))) w.heap.size [.int .i64 (arW q),.int .i64 (kk:Int)]):=dD<|(F2.out.set 0 _).set 1 _
  have RG:Hid (zc w ((W2.setCell ⟨w.heap.size,0,none⟩ (.int .i64 (arW q))).setCell ⟨w.heap.size,1,none⟩ (.int .i64 (kk:Int)))):=dD<|zC (zC G2.out (by simp) _) (by simp) _
  go_wp2;refine bodyPost_ret (zY (vs:=[.int .i64 (arW q),.int .i64 (kk:Int)]) rfl _ rfl RB.out underlying164 rfl zlT) rfl ⟨?_,RG.out⟩;rw[HR.out]
 have hltz:¬(kk:Int)< (n:Int):=by omega
 have:kk=n:=by omega
 subst this;have HR:Hid (ANS=(0,0)):=HEND'.out _ IW.out;have f0:=FW.out.c 0 rfl;have f1:=FW.out.c 1 rfl;have ff:=FW.out.f;have RB:Hid (Box ((wr.setCell ⟨w.heap.size,0,none⟩ (.int .i64 0)).setCell ⟨w.heap.size,1,none⟩ (.int .i64 0)) w.heap.size [.int .i64 0,.int .i64 0]):=show Box _ _ _ from(FW.out.set 0 _).set 1 _
 have RG:Hid (zc w ((wr.setCell ⟨w.heap.size,0,none⟩ (.int .i64 0)).setCell ⟨w.heap.size,1,none⟩ (.int .i64 0))):=dD<|zC (zC BW.out (by simp) _) (by simp) _
 go_wp2;refine bodyPost_ret (zY (vs:=[.int .i64 0,.int .i64 0]) rfl _ rfl RB.out underlying164 rfl zlT) rfl ⟨?_,RG.out⟩;rw[HR.out]
theorem zK.allocOnes {a:Act} {w:World} {K:Value->World->Prop} (ho:o.op= .alloc 68) (h:K (.pointer (some ⟨w.heap.size,0,none⟩)) (w.alloc (.cells (zy (tab fun _=>on0)).toArray 68))):zK prog o a w K:=by
 have hz:=zbg w
 generalize zy (tab fun _=>on0)=Z at hz h
 unfold zK;have:(execOp a.eval o).run prog w= .ok (.value (.pointer (some ⟨w.heap.size,0,none⟩))) (w.alloc (.cells Z.toArray 68)):=by
  simp[execOp,ho,go_sem,hz]
 rw[this];exact h
theorem zK.oneArea {a:Act} {w:World} {K:Value->World->Prop} (x:Operand) (ho:o.op= .buildSlice 58 1 #[(0,x)]) (q:Ar) (hx:a.eval x=arA q) (h:K (.slice (some ⟨w.heap.size,0,none⟩) 1 1) (w.alloc (.cells (arv q).toArray 91))):zK prog o a w K:=by
 unfold zK;have:(execOp a.eval o).run prog w= .ok (.value (.slice (some ⟨w.heap.size,0,none⟩) 1 1)) (w.alloc (.cells (arv q).toArray 91)):=by
  simp only[execOp,ho,List.map_toArray,mP,List.map_nil,hx]
  simp[go_sem,arA,arv]
 rw[this];exact h
theorem zK.val {a:Act} {w:World} {K:Value->World->Prop} {v:Value} (hr:(execOp a.eval o).run prog w= .ok (.value v) w) (h:K v w):zK prog o a w K:=by
 unfold zK;rw[hr];exact h
theorem zhB {a:Act} (x:Operand) (ho:o.op= .load 91 x) (b:Nat) (hx:a.eval x= .pointer (some ⟨b,0,none⟩)) {q:Ar} {w:World} (hb:Box w b (arv q)):(execOp a.eval o).run prog w= .ok (.value (arA q)) w:=by
 have:=run_loadAt_mid (P:=prog) w b 0 91 (arv q) _ hb.range underlying91 rfl zlS;simp only[execOp,ho,hx,Sem.run_bind,this,rA,Sem.run_pure];rfl
def zdZ:List Oper:=[
 { dst := some 23, op := .move (.tmp 0), type := 58, pos := "ref.go:325", after := #[], guard := none },
 { dst := some 24, op := .call { callee := .value (.func 20), args := #[.tmp 23], argTypes := #[58] }, type := 68, pos := "ref.go:325", after := #[{ on := 0, ground := .data }], guard := none },
 { dst := some 25, op := .load 91 (.tmp 3), type := 91, pos := "ref.go:325", after := #[], guard := none },
 { dst := some 26, op := .buildSlice 58 1 #[(0, .tmp 25)], type := 58, pos := "ref.go:325", after := #[{ on := 2, ground := .data }], guard := none },
 { dst := some 27, op := .call { callee := .value (.func 20), args := #[.tmp 26], argTypes := #[58] }, type := 68, pos := "ref.go:325", after := #[{ on := 3, ground := .data }, { on := 1, ground := .chain }], guard := none },
 { dst := some 8, op := .alloc 68, type := 0, pos := "ref.go:325", after := #[], guard := none },
 { dst := some 9, op := .alloc 68, type := 0, pos := "ref.go:325", after := #[], guard := none },
 { dst := none, op := .store 68 (.tmp 8) (.tmp 24), type := 0, pos := "ref.go:325", after := #[{ on := 5, ground := .data }, { on := 1, ground := .data }, { on := 4, ground := .chain }, { on := 0, ground := .phase }, { on := 1, ground := .phase }, { on := 2, ground := .textOnly .lateStores }, { on := 3, ground := .textOnly .lateStores }, { on := 4, ground := .textOnly .lateStoresUnsure }, { on := 5, ground := .phase }, { on := 6, ground := .phase }], guard := none },
 { dst := none, op := .store 68 (.tmp 9) (.tmp 27), type := 0, pos := "ref.go:325", after := #[{ on := 6, ground := .data }, { on := 4, ground := .data }, { on := 7, ground := .chain }, { on := 0, ground := .phase }, { on := 1, ground := .phase }, { on := 2, ground := .phase }, { on := 3, ground := .phase }, { on := 4, ground := .phase }, { on := 5, ground := .phase }, { on := 6, ground := .phase }, { on := 7, ground := .phase }], guard := none }]
theorem zjq:∀l0 l1 l2 l3 l4 l5 l6:Bool,(Region.ready .any zdZ.toArray #[l0,l1,l2,l3,l4,l5,l6,false,false]).isEmpty=false\/(l4=true/\(l1=false\/l3=false))\/(l1=true/\l0=false)\/(l3=true/\l2=false):=by decide+kernel
theorem zhV:∀l0 l1 l2 l3 l4 l5 l6:Bool,(!((!l1 || l0) &&(!l3 || l2) &&(!l4 || (l1 && l3))) || (Region.ready .any zdZ.toArray #[l0,l1,l2,l3,l4,l5,l6,false,false]).all fun i=>(i == 0 && !l0) || (i == 1 && !l1 && l0) || (i == 2 && !l2) || (i == 3 && !l3 && l2) || (i == 4 && !l4 && l1 && l3) || (i == 5 && !l5) || (i == 6 && !l6) || (i == 7 && l0 && l1 && l2 && l3 && l4 && l5 && l6))=true:=by decide+kernel
theorem zjr (l0 l1 l2 l3 l4 l5 l6:Bool) (i:Nat) (c1:l1=true->l0=true) (c3:l3=true->l2=true) (c4:l4=true->l1=true/\l3=true) (hi:i∈Region.ready .any zdZ.toArray #[l0,l1,l2,l3,l4,l5,l6,false,false]):(i=0/\l0=false)\/(i=1/\l1=false/\l0=true)\/(i=2/\l2=false)\/(i=3/\l3=false/\l2=true)\/(i=4/\l4=false/\l1=true/\l3=true)\/(i=5/\l5=false)\/(i=6/\l6=false)\/(i=7/\l0=true/\l1=true/\l2=true/\l3=true/\l4=true/\l5=true/\l6=true):=by
 have hc:((!l1 || l0) &&(!l3 || l2) &&(!l4 || (l1 && l3)))=true:=by
  cases l0 <;> cases l1 <;> cases l2 <;> cases l3 <;> cases l4 <;> simp at c1 c3 c4⊢
 have hb:=zhV l0 l1 l2 l3 l4 l5 l6;rw[hc,Bool.not_true,Bool.false_or]at hb;have h:=List.all_eq_true.1 hb i hi
 simpa [and_assoc,or_assoc]using h
structure zf9 (W0:World) (v:Value) (q:Ar) (O1 O2 Z0:List Value) (l0 l1 l2 l3 l4 l5 l6:Bool) (t23 t24 t25 t26 t27 t8 t9:Value) (W:World):Prop where
 g:zc W0 W
 h0:l0=true->t23=v
 h1:l1=true->t24= .agg O1.toArray
 h2:l2=true->t25=arA q
 h3:l3=true->zr arE W t26 [q]
 h4:l4=true->t27= .agg O2.toArray
 h5:l5=true->∃b,t8= .pointer (some ⟨b,0,none⟩)/\Box W b Z0/\W0.heap.size<=b
 h6:l6=true->∃b,t9= .pointer (some ⟨b,0,none⟩)/\Box W b Z0/\W0.heap.size<=b
 ne:l5=true->l6=true->t8≠t9
 c1:l1=true->l0=true
 c3:l3=true->l2=true
 c4:l4=true->l1=true/\l3=true
section
variable{W0:World} {v:Value} {q:Ar} {O1 O2 Z0:List Value} {l0 l1 l2 l3 l4 l5 l6:Bool} {t23 t24 t25 t26 t27 t8 t9:Value} {W W':World}
theorem zf9.grew (h:zf9 W0 v q O1 O2 Z0 l0 l1 l2 l3 l4 l5 l6 t23 t24 t25 t26 t27 t8 t9 W) (k:zc W W'):zf9 W0 v q O1 O2 Z0 l0 l1 l2 l3 l4 l5 l6 t23 t24 t25 t26 t27 t8 t9 W':=
 ⟨h.g.trans k,h.h0,h.h1,h.h2,fun e=>(h.h3 e).grew k,h.h4,fun e=>by obtain⟨b,x,y,z⟩:=h.h5 e;exact⟨b,x,y.grew k,z⟩,fun e=>by obtain⟨b,x,y,z⟩:=h.h6 e;exact⟨b,x,y.grew k,z⟩,h.ne,h.c1,h.c3,h.c4⟩
def Qe (l0 l1 l2 l3 l4 l5 l6:Bool):Nat:=(!l0).toNat+(!l1).toNat+(!l2).toNat+(!l3).toNat+(!l4).toNat+(!l5).toNat+(!l6).toNat
theorem zgD {pa:Nat} (A:Value->Value->Value->Value->Value->Value->Value->Act)
  (e0:∀x23 x24 x25 x26 x27 x8 x9,(A x23 x24 x25 x26 x27 x8 x9).eval (.tmp 0)=v) (e3:∀x23 x24 x25 x26 x27 x8 x9,(A x23 x24 x25 x26 x27 x8 x9).eval (.tmp 3)= .pointer (some ⟨pa,0,none⟩))
  (e23:∀x23 x24 x25 x26 x27 x8 x9,(A x23 x24 x25 x26 x27 x8 x9).eval (.tmp 23)=x23) (e24:∀x23 x24 x25 x26 x27 x8 x9,(A x23 x24 x25 x26 x27 x8 x9).eval (.tmp 24)=x24) (e25:∀x23 x24 x25 x26 x27 x8 x9,(A x23 x24 x25 x26 x27 x8 x9).eval (.tmp 25)=x25) (e26:∀x23 x24 x25 x26 x27 x8 x9,(A x23 x24 x25 x26 x27 x8 x9).eval (.tmp 26)=x26) (e27:∀x23 x24 x25 x26 x27 x8 x9,(A x23 x24 x25 x26 x27 x8 x9).eval (.tmp 27)=x27) (e8:∀x23 x24 x25 x26 x27 x8 x9,(A x23 x24 x25 x26 x27 x8 x9).eval (.tmp 8)=x8) (e9:∀x23 x24 x25 x26 x27 x8 x9,(A x23 x24 x25 x26 x27 x8 x9).eval (.tmp 9)=x9)
  (p23:∀x23 x24 x25 x26 x27 x8 x9 y,(A x23 x24 x25 x26 x27 x8 x9).put (some 23) y=A y x24 x25 x26 x27 x8 x9) (p24:∀x23 x24 x25 x26 x27 x8 x9 y,(A x23 x24 x25 x26 x27 x8 x9).put (some 24) y=A x23 y x25 x26 x27 x8 x9) (p25:∀x23 x24 x25 x26 x27 x8 x9 y,(A x23 x24 x25 x26 x27 x8 x9).put (some 25) y=A x23 x24 y x26 x27 x8 x9) (p26:∀x23 x24 x25 x26 x27 x8 x9 y,(A x23 x24 x25 x26 x27 x8 x9).put (some 26) y=A x23 x24 x25 y x27 x8 x9) (p27:∀x23 x24 x25 x26 x27 x8 x9 y,(A x23 x24 x25 x26 x27 x8 x9).put (some 27) y=A x23 x24 x25 x26 y x8 x9) (p8:∀x23 x24 x25 x26 x27 x8 x9 y,(A x23 x24 x25 x26 x27 x8 x9).put (some 8) y=A x23 x24 x25 x26 x27 y x9) (p9:∀x23 x24 x25 x26 x27 x8 x9 y,(A x23 x24 x25 x26 x27 x8 x9).put (some 9) y=A x23 x24 x25 x26 x27 x8 y)
  (pn:∀x23 x24 x25 x26 x27 x8 x9 y,(A x23 x24 x25 x26 x27 x8 x9).put none y=A x23 x24 x25 x26 x27 x8 x9)
  (hv:zr arE W0 v l) (hl:zkZ l) (ha:jq q) (hb:Box W0 pa (arv q))
  (hQ:∀W b8 b9 x26,b8≠b9->zc W0 W->Box W b8 (zy (tab (zG l)))->Box W b9 (zy (tab (zG [q])))->W0.heap.size<=b8->W0.heap.size<=b9->Q .normal (A v (.agg (zy (tab (zG l))).toArray) (arA q) x26 (.agg (zy (tab (zG [q]))).toArray) (.pointer (some ⟨b8,0,none⟩)) (.pointer (some ⟨b9,0,none⟩))) W)
  (x23 x24 x25 x26 x27 x8 x9:Value):(Code.region id zdZ.toArray true).wp prog Q (A x23 x24 x25 x26 x27 x8 x9) W0:=by
 have hO1:(zy (tab (zG l))).length=384:=jB _;have hO2:(zy (tab (zG [q]))).length=384:=jB _;have hZ:(zy (tab fun _=>on0)).length=384:=jB _
 have hc1:∀W,zc W0 W->Calls prog 20 #[v] W fun e w'=>e= .returned (.agg (zy (tab (zG l))).toArray)/\zc W w':=fun W hW=>ZB v l W (hv.grew hW) hl
 have hc2:∀W u,zr arE W u [q]->Calls prog 20 #[u] W fun e w'=>e= .returned (.agg (zy (tab (zG [q]))).toArray)/\zc W w':=fun W u hu=>ZB u [q] W hu (zjv ha)
 have hn1:=Jn (tab (zG l));have hn2:=Jn (tab (zG [q]));have hal:∀W:World,Box (W.alloc (.cells (zy (tab fun _=>on0)).toArray 68)) W.heap.size (zy (tab fun _=>on0)):=fun W=>Box.top _ _ _ rfl
 generalize zy (tab (zG l))=O1 at*
 generalize zy (tab (zG [q]))=O2 at*
 have main:∀(n:Nat) (l0 l1 l2 l3 l4 l5 l6:Bool) (x23 x24 x25 x26 x27 x8 x9:Value) (W:World),Qe l0 l1 l2 l3 l4 l5 l6=n->zf9 W0 v q O1 O2 (zy (tab fun _=>on0)) l0 l1 l2 l3 l4 l5 l6 x23 x24 x25 x26 x27 x8 x9 W->wpAnyH prog .any zdZ.toArray Q (fun _=>True) (n+2) #[l0,l1,l2,l3,l4,l5,l6,false,false] (A x23 x24 x25 x26 x27 x8 x9) W:=by
  intro n
  induction n with
  | zero=>
   intro l0 l1 l2 l3 l4 l5 l6 x23 x24 x25 x26 x27 x8 x9 W hcnt inv;obtain⟨rfl,rfl,rfl,rfl,rfl,rfl,rfl⟩:l0=true/\l1=true/\l2=true/\l3=true/\l4=true/\l5=true/\l6=true:=by
    revert hcnt
    unfold Qe
    cases l0 <;> cases l1 <;> cases l2 <;> cases l3 <;> cases l4 <;> cases l5 <;> cases l6 <;> simp
   obtain⟨b8,rfl,hb8,hs8⟩:=inv.h5 rfl;obtain⟨b9,rfl,hb9,hs9⟩:=inv.h6 rfl;have hne:b8≠b9:=fun e=>inv.ne rfl rfl (by rw[e])
   obtain rfl:=inv.h0 rfl;obtain rfl:=inv.h1 rfl;obtain rfl:=inv.h2 rfl;obtain rfl:=inv.h4 rfl;refine wpAnyH_all (rs:=[7]) (by kernel_rfl) (by simp) ?_
   intro j hj;rw[List.mem_singleton]at hj;subst hj;refine jL none (fun _ w'=>Box w' b8 O1/\Box w' b9 (zy (tab fun _=>on0))/\zc W0 w') rfl rfl rfl (zK.storeAll 68 (.tmp 8) (.tmp 24) rfl b8 (e8 ..) O1 (e24 ..) hb8 (by rw[hO1,hZ]) (by rw[hZ];exact zlV) hn1 (fun w' b' g' s'=>⟨b',hb9.grown g' (fun e=>hne e.symm),ze inv.g g' hs8⟩)) ?_
   rintro y W1 ⟨h1,h2,h3⟩;rw[pn];refine⟨trivial,?_⟩;refine wpAnyH_all (rs:=[8]) (by kernel_rfl) (by simp) ?_
   intro j hj;rw[List.mem_singleton]at hj;subst hj;refine jL none (fun _ w'=>Box w' b8 O1/\Box w' b9 O2/\zc W0 w') rfl rfl rfl (zK.storeAll 68 (.tmp 9) (.tmp 27) rfl b9 (e9 ..) O2 (e27 ..) h2 (by rw[hO2,hZ]) (by rw[hZ];exact zlV) hn2 (fun w' b' g' s'=>⟨h1.grown g' hne,b',ze h3 g' hs9⟩)) ?_
   rintro y W2 ⟨h4,h5,h6⟩;rw[pn];refine⟨trivial,?_⟩;exact wpAnyH_done (by kernel_rfl) (hQ W2 b8 b9 _ hne h6 h4 h5 hs8 hs9) _
  | succ n ih=>
   intro l0 l1 l2 l3 l4 l5 l6 x23 x24 x25 x26 x27 x8 x9 W hcnt inv;refine⟨fun h0=>?_,fun i hi=>?_⟩
   ·rcases zjq l0 l1 l2 l3 l4 l5 l6 with h|⟨h,h'⟩|⟨h,h'⟩|⟨h,h'⟩
    ·rw[h0]at h;cases h
    ·have:=inv.c4 h
     rcases h' with h' | h'
     ·rw[this.1]at h';cases h'
     rw[this.2]at h';cases h'
    ·rw[inv.c1 h]at h';cases h'
    rw[inv.c3 h]at h';cases h'
   rcases zjr l0 l1 l2 l3 l4 l5 l6 i inv.c1 inv.c3 inv.c4 hi with⟨rfl,rfl⟩|⟨rfl,rfl,rfl⟩|⟨rfl,rfl⟩|⟨rfl,rfl,rfl⟩|⟨rfl,rfl,rfl,rfl⟩|⟨rfl,rfl⟩|⟨rfl,rfl⟩|⟨rfl,rfl,rfl,rfl,rfl,rfl,rfl,rfl⟩
   ·refine jL (some 23) (fun y w'=>y=v/\w'=W) rfl rfl rfl (zK.val (v:=v) (by rw[<-e0 x23 x24 x25 x26 x27 x8 x9];rfl) ⟨rfl,rfl⟩) ?_
    rintro y w' ⟨rfl,rfl⟩;rw[p23];refine⟨trivial,ih true l1 l2 l3 l4 l5 l6 _ _ _ _ _ _ _ _ (by unfold Qe at hcnt⊢;simp at hcnt⊢;omega) ⟨inv.g,fun _=>rfl,inv.h1,inv.h2,inv.h3,inv.h4,inv.h5,inv.h6,inv.ne,fun _=>rfl,inv.c3,inv.c4⟩⟩
   ·refine jL (some 24) (fun y w'=>y= .agg O1.toArray/\zc W w') rfl rfl rfl (zK.call [v] rfl func20 rfl rfl (by rw[mP,List.map_nil,e23,inv.h0 rfl]) ((hc1 W inv.g).mono (fun e w' h=>⟨_,h.1,rfl,h.2⟩))) ?_
    rintro y w' ⟨rfl,hg⟩;rw[p24];have inv':=inv.grew hg;refine⟨trivial,ih true true l2 l3 l4 l5 l6 _ _ _ _ _ _ _ _ (by unfold Qe at hcnt⊢;simp at hcnt⊢;omega) ⟨inv'.g,inv'.h0,fun _=>rfl,inv'.h2,inv'.h3,inv'.h4,inv'.h5,inv'.h6,inv'.ne,fun _=>rfl,inv'.c3,fun h=>⟨rfl,(inv'.c4 h).2⟩⟩⟩
   ·refine jL (some 25) (fun y w'=>y=arA q/\w'=W) rfl rfl rfl (zK.val (v:=arA q) (zhB (.tmp 3) rfl pa (e3 ..) (hb.grew inv.g)) ⟨rfl,rfl⟩) ?_
    rintro y w' ⟨rfl,rfl⟩;rw[p25];refine⟨trivial,ih l0 l1 true l3 l4 l5 l6 _ _ _ _ _ _ _ _ (by unfold Qe at hcnt⊢;simp at hcnt⊢;omega) ⟨inv.g,inv.h0,inv.h1,fun _=>rfl,inv.h3,inv.h4,inv.h5,inv.h6,inv.ne,inv.c1,fun _=>rfl,inv.c4⟩⟩
   ·refine jL (some 26) (fun y w'=>zr arE w' y [q]/\zc W w') rfl rfl rfl (zK.oneArea (.tmp 25) rfl q (by rw[e25,inv.h2 rfl]) ⟨jN arE W q _ _ rfl (by show 40<=_;omega),za _ _⟩) ?_
    rintro y w' ⟨hr,hg⟩;rw[p26];have inv':=inv.grew hg;refine⟨trivial,ih l0 l1 true true l4 l5 l6 _ _ _ _ _ _ _ _ (by unfold Qe at hcnt⊢;simp at hcnt⊢;omega) ⟨inv'.g,inv'.h0,inv'.h1,inv'.h2,fun _=>hr,inv'.h4,inv'.h5,inv'.h6,inv'.ne,inv'.c1,fun _=>rfl,fun h=>⟨(inv'.c4 h).1,rfl⟩⟩⟩
   ·refine jL (some 27) (fun y w'=>y= .agg O2.toArray/\zc W w') rfl rfl rfl (zK.call [x26] rfl func20 rfl rfl (by rw[mP,List.map_nil,e26]) ((hc2 W x26 (inv.h3 rfl)).mono (fun e w' h=>⟨_,h.1,rfl,h.2⟩))) ?_
    rintro y w' ⟨rfl,hg⟩;rw[p27];have inv':=inv.grew hg;refine⟨trivial,ih l0 true l2 true true l5 l6 _ _ _ _ _ _ _ _ (by unfold Qe at hcnt⊢;simp at hcnt⊢;omega) ⟨inv'.g,inv'.h0,inv'.h1,inv'.h2,inv'.h3,fun _=>rfl,inv'.h5,inv'.h6,inv'.ne,inv'.c1,inv'.c3,fun _=>⟨rfl,rfl⟩⟩⟩
   ·refine jL (some 8) (fun y w'=>y= .pointer (some ⟨W.heap.size,0,none⟩)/\Box w' W.heap.size (zy (tab fun _=>on0))/\zc W w') rfl rfl rfl (zK.allocOnes rfl ⟨rfl,hal W,za _ _⟩) ?_
    rintro y w' ⟨rfl,hbx,hg⟩;rw[p8];have inv':=inv.grew hg;refine⟨trivial,ih l0 l1 l2 l3 l4 true l6 _ _ _ _ _ _ _ _ (by unfold Qe at hcnt⊢;simp at hcnt⊢;omega) ⟨inv'.g,inv'.h0,inv'.h1,inv'.h2,inv'.h3,inv'.h4,fun _=>⟨_,rfl,hbx,bS inv.g⟩,inv'.h6,fun _ h6=>?_,inv'.c1,inv'.c3,inv'.c4⟩⟩
    obtain⟨b,rfl,h2,_⟩:=inv.h6 h6;intro e;cases e;exact absurd h2.lt (Nat.lt_irrefl _)
   ·refine jL (some 9) (fun y w'=>y= .pointer (some ⟨W.heap.size,0,none⟩)/\Box w' W.heap.size (zy (tab fun _=>on0))/\zc W w') rfl rfl rfl (zK.allocOnes rfl ⟨rfl,hal W,za _ _⟩) ?_
    rintro y w' ⟨rfl,hbx,hg⟩;rw[p9];have inv':=inv.grew hg;refine⟨trivial,ih l0 l1 l2 l3 l4 l5 true _ _ _ _ _ _ _ _ (by unfold Qe at hcnt⊢;simp at hcnt⊢;omega) ⟨inv'.g,inv'.h0,inv'.h1,inv'.h2,inv'.h3,inv'.h4,inv'.h5,fun _=>⟨_,rfl,hbx,bS inv.g⟩,fun h5 _=>?_,inv'.c1,inv'.c3,inv'.c4⟩⟩
    obtain⟨b,rfl,h2,_⟩:=inv.h5 h5;intro e;cases e;exact absurd h2.lt (Nat.lt_irrefl _)
   unfold Qe at hcnt
   simp at hcnt
 refine wp_region_held (S:=fun _=>True) qn ?_
 have hd:zc W0 { W0 with drawn:=W0.drawn+1 }:=show Below _ _ _ from Below.drew (bR _ _)
 exact main 7 false false false false false false false x23 x24 x25 x26 x27 x8 x9 _ rfl ⟨hd,fun h=>(by cases h),fun h=>(by cases h),fun h=>(by cases h),fun h=>(by cases h),fun h=>(by cases h),fun h=>(by cases h),fun h=>(by cases h),fun h=>(by cases h),fun h=>(by cases h),fun h=>(by cases h),fun h=>(by cases h)⟩
end
def zlD (R:List Ar × Int) (w:World) (e:Ending) (w':World):Prop:=(∃u,e= .returned (.tuple #[u,.int .i64 R.2])/\zb arE w.heap.size w' u R.1)/\zc w w'
def zcu (l:List Ar) (a:Ar) (k:Nat):Nat->On:=fun j=>if j<k/\ZN a j=true then qG a j else zG l j
theorem zjW (l:List Ar) (a:Ar):zcu l a 0=zG l:=by
 funext j
 unfold zcu;rw[if_neg (by omega)]
theorem zlq (l:List Ar) (a:Ar) (k:Nat):zcu l a k k=zG l k:=by
 unfold zcu;rw[if_neg (by omega)]
theorem zkP {a:Ar} {k:Nat} (h:ZN a k=true):upd (zcu l a k) k (qG a k)=zcu l a (k+1):=by
 funext j
 unfold upd zcu
 by_cases e:j=k
 ·subst e;rw[if_pos rfl,if_pos ⟨by omega,h⟩]
 rw[if_neg e]
 by_cases h1:j<k/\ZN a j=true
 ·rw[if_pos h1,if_pos ⟨by omega,h1.2⟩]
 rw[if_neg h1,if_neg (fun h2=>h1 ⟨by omega,h2.2⟩)]
theorem zjX {a:Ar} {k:Nat} (h:ZN a k=false):zcu l a k=zcu l a (k+1):=by
 funext j
 unfold zcu
 by_cases h1:j<k/\ZN a j=true
 ·rw[if_pos h1,if_pos ⟨by omega,h1.2⟩]
 rw[if_neg h1]
 by_cases h2:j<k+1/\ZN a j=true
 ·have:j=k:=by
   rcases Nat.lt_or_ge j k with h3|h3
   ·exact absurd ⟨h3,h2.2⟩ h1
   omega
  rw[this,h]at h2
  cases h2.2
 rw[if_neg h2]
theorem zkQ (l:List Ar) (a:Ar):tab (zcu l a 64)=tab (zeD l a):=zkm fun k hk=>by
 unfold zcu zeD
 by_cases h:ZN a k=true
 ·rw[if_pos ⟨hk,h⟩,if_pos h]
 rw[if_neg (fun h1=>h h1.2),if_neg h]
theorem zj8 (a:Ar) (k:Nat):zG [a] k=if ZN a k=true then qG a k else on0:=rfl
theorem zhJ (a:Ar) (k:Nat):(zG [a] k).is=ZN a k:=by
 rw[zj8]
 cases h:ZN a k with
 | true=>rfl
 | false=>rfl
theorem zlm {a:Ar} {k:Nat} (hk:k<64) (h:ZN a k=true) (h':(zG l k).is=true):ziN l a.fr (a.tz - a.fr)=true:=zjB.2 ⟨k,hk,by have:=zZ.1 h;omega,h'⟩
theorem zjA {a:Ar} (h:∀k,k<64->ZN a k=true->(zG l k).is=false):ziN l a.fr (a.tz - a.fr)=false:=zky.2 fun k hk hw=>h k hk (zZ.2 (by omega))
theorem zck (v:Value) (l:List Ar) (a:Ar) (w:World) (hv:zr arE w v l) (hcap:Cap v):
  Calls prog 79 #[v,.agg #[.int .i64 a.fr,.int .i64 a.tz,.bool a.rd,.bool a.wr,.bool a.sh,.int .i64 a.file,.int .i64 a.base]] w (zlD (JR l a) w):=by
 have HV:Hid (zr arE w v l):=hv;have HW:Hid (∀W,zc w W->Calls prog 94 #[v] W fun e w'=>e= .returned (.agg #[.int .i64 (wrL l).1,.int .i64 (wrL l).2])/\zc W w'):=fun W hW=>zb8 v l W (HV.out.grew hW) hcap
 have HWA:Hid (∀W,Calls prog 128 #[.agg #[.int .i64 a.fr,.int .i64 a.tz,.bool a.rd,.bool a.wr,.bool a.sh,.int .i64 a.file,.int .i64 a.base]] W fun e w'=>e= .returned (.int .i64 (arW a))/\zc W w'):=fun W=>QJ a W
 clear hv hcap;obtain⟨W0,hW0⟩:∃W0,w.alloc (.cells #[.int .i64 a.fr,.int .i64 a.tz,.bool a.rd,.bool a.wr,.bool a.sh,.int .i64 a.file,.int .i64 a.base] 91)=W0:=⟨_,rfl⟩;have G0:=gA hW0
 have X0:=xA hW0
 have HW0:Hid (_=W0):=hW0;clear hW0
 by_cases hz:(wrL l).1=0
 ·rw[hz]at HW
  generalize(wrL l).2=I at HW
  by_cases hza:arW a=0
  ·rw[hza]at HWA;have HL:Hid (l.length<=16/\ZO none l):=j2.1 hz;have HA:Hid (jq a):=Zu.1 hza;have HR0:Hid (JR l a=if ziN l a.fr (a.tz - a.fr)=true then([],6)else zeG (zeD l a)):=show _=_ by unfold JR;rw[if_neg (fun h=>h hz),if_neg (fun h=>h hza)]
   have HFEW:Hid (∀W,Calls prog 129 #[.agg (zy (tab (zcu l a 64))).toArray] W fun e w'=>(∃u,e= .returned (.tuple #[u,.int .i64 (zeG (zeD l a)).2])/\zb arE W.heap.size w' u (zeG (zeD l a)).1)/\zc W w'):=fun W=>by
    rw[zkQ];exact zgq (zeD l a) W (J6 HL.out.2 HA.out)
   clear hz hza
   go_enter func79,ntmps79
   go_upto_region 1 with fail;rw[HW0.out];go_wp2_with fail;refine(HW.out W0 G0.out).mono ?_;rintro e W1 ⟨rfl,g⟩;have G1:=dD (G0.out.trans g);have X1:=dD (X0.out.grew g);clear g;obtain⟨pf,HPF⟩:∃pf,Hid (W1.heap.size=pf):=⟨_,rfl⟩;go_upto_region 2 with fail;obtain⟨W2,hWf⟩:∃W2,W1.alloc (.cells #[.int .i64 0,.int .i64 I] 164)=W2:=⟨_,rfl⟩;have G2:=gT hWf G1
   have F2:=xP hWf HPF
   have X2:=yA hWf X1
   rw[hWf,HPF.out];clear hWf;have f0:=F2.out.c 0 rfl
   go_wp2_with (refine zJ rfl 91 (.tmp 3) rfl w.heap.size rfl X2.out underlying91 rfl zlS ?_)
   refine(HWA.out W2).mono ?_;rintro e W3 ⟨rfl,g⟩;have G3:=dD (G2.out.trans g);have X3:=dD (X2.out.grew g);clear g f0;go_upto_region 7 with fail;refine zgD (v:=v) (q:=a) (pa:=w.heap.size) (l:=l) (fun x23 x24 x25 x26 x27 x8 x9=>⟨#[_,_,_,_,_,_,_,_,x8,x9,_,_,_,_,_,_,_,_,_,_,_,_,_,x23,x24,x25,x26,x27,_,_,_,_,_,_,_,_,_,_,_,_,_,_,_,_,_,_,_,_,_,_,_,_,_,_,_],[]⟩) (fun _ _ _ _ _ _ _=>rfl) (fun _ _ _ _ _ _ _=>rfl) (fun _ _ _ _ _ _ _=>rfl) (fun _ _ _ _ _ _ _=>rfl) (fun _ _ _ _ _ _ _=>rfl) (fun _ _ _ _ _ _ _=>rfl) (fun _ _ _ _ _ _ _=>rfl) (fun _ _ _ _ _ _ _=>rfl) (fun _ _ _ _ _ _ _=>rfl) (fun _ _ _ _ _ _ _ _=>rfl) (fun _ _ _ _ _ _ _ _=>rfl) (fun _ _ _ _ _ _ _ _=>rfl) (fun _ _ _ _ _ _ _ _=>rfl) (fun _ _ _ _ _ _ _ _=>rfl) (fun _ _ _ _ _ _ _ _=>rfl) (fun _ _ _ _ _ _ _ _=>rfl) (fun _ _ _ _ _ _ _ _=>rfl) (HV.out.grew G3.out) HL.out.2.lies HA.out X3.out ?_ _ _ _ _ _ _ _
   intro W4 b8 b9 x26 hbne g4 hb8 hb9 hs8 hs9;have G4:=dD (G3.out.trans g4);have B8:Hid (Box W4 b8 (zy (tab (zcu l a 0)))):=show Box _ _ _ by rw[zjW];exact hb8
   have B9:Hid (Box W4 b9 (zy (tab (zG [a])))):=hb9;have HS8:Hid (w.heap.size<=b8):=nT (bS G3.out) hs8;have hbne':b9≠b8:=fun e=>hbne e.symm
   have HNE:Hid (b9≠b8):=hbne';clear g4 hb8 hb9 hs8 hs9;go_wp2
   go_loopg [28] 64 (fun gg s28 wr=>∃kk:Nat,kk<=64/\64 - kk<=gg/\s28= .int .i64 kk/\Hid (zc w wr)/\Hid (Box wr b8 (zy (tab (zcu l a kk))))/\Hid (Box wr b9 (zy (tab (zG [a]))))/\Hid (∀j:Nat,j<kk->ZN a j=true->(zG l j).is=false))
   case atStart=>exact⟨0,nZ _,by omega,rfl,G4.out,B8.out,B9.out,fun j hj=>absurd hj (nL _)⟩
   obtain⟨kk,hkk,hg,rfl,BW,LW,RW,HH⟩:=hrel
   by_cases hlt:kk<64
   ·have hltz:(kk:Int)<64:=by omega
    have d8:=LW.out.c (kk*6) (ZK (QU hlt) 0 (.bool (zG l kk).is) (by rw[zlq];rfl))
    have d9:=RW.out.c (kk*6) (ZK (QU hlt) 0 (.bool (ZN a kk)) (by rw[<-zhJ];rfl))
    cases hin:ZN a kk with
    | true=>
     cases his:(zG l kk).is with
     | true=>
      have HR:Hid (JR l a=([],6)):=dD<|by rw[HR0.out,zlm hlt hin his,if_pos rfl]
      rw[his]at d8;rw[hin]at d9;clear hin his;go_wp2;refine bodyPost_ret (results_tmp2 rfl _ _ _) rfl ?_;rw[HR.out];exact⟨⟨_,rfl,zb.nil _ _ _⟩,BW.out⟩
     | false=>
      have HST:Hid (upd (zcu l a kk) kk (qG a kk)=zcu l a (kk+1)):=zkP hin;have HON:Hid (zG [a] kk=qG a kk):=show _=_ by rw[zj8,if_pos hin]
      have HH2:Hid (∀j:Nat,j<kk+1->ZN a j=true->(zG l j).is=false):=dD<|fun j hj h=>by
       by_cases e:j=kk
       ·rw[e];exact his
       exact HH.out j (by omega) h
      rw[his]at d8;rw[hin]at d9;clear hin his;have HLV:Hid (Value.agg (onv (zG [a] kk)).toArray= .agg (onv (qG a kk)).toArray):=dD<|by rw[HON.out]
      go_wp2_with (first | refine zch rfl (.tmp 47) rfl b9 kk hlt rfl RW.out HLV.out ?_ | refine zcg rfl (.tmp 49) (.tmp 48) rfl b8 kk hlt rfl (qG a kk) rfl LW.out ?_)
      intro W5 b5 g5 s5;have L5:Hid (Box W5 b8 (zy (tab (zcu l a (kk+1))))):=dD<|by rw[<-HST.out];exact b5
      have R5:Hid (Box W5 b9 (zy (tab (zG [a])))):=RW.out.grown g5 HNE.out;have G5:Hid (zc w W5):=ze BW.out g5 HS8.out;clear b5 g5 s5 d8 d9;go_wp2
      go_roundg (64 -(kk+1))
      case measure=>omega
      exact⟨kk+1,by omega,by omega,by go_num,G5.out,L5.out,R5.out,HH2.out⟩
    | false=>
     have L5:Hid (Box wr b8 (zy (tab (zcu l a (kk+1))))):=dD<|by rw[<-zjX hin];exact LW.out
     have HH2:Hid (∀j:Nat,j<kk+1->ZN a j=true->(zG l j).is=false):=dD<|fun j hj h=>by
      by_cases e:j=kk
      ·rw[e,hin]at h;cases h
      exact HH.out j (by omega) h
     rw[hin]at d9;clear hin
     cases his:(zG l kk).is with
     | true=>
      rw[his]at d8;clear his;go_wp2
      go_roundg (64 -(kk+1))
      case measure=>omega
      exact⟨kk+1,by omega,by omega,by go_num,BW.out,L5.out,RW.out,HH2.out⟩
     | false=>
      rw[his]at d8;clear his;go_wp2
      go_roundg (64 -(kk+1))
      case measure=>omega
      exact⟨kk+1,by omega,by omega,by go_num,BW.out,L5.out,RW.out,HH2.out⟩
   have hltz:¬(kk:Int)<64:=by omega
   have:kk=64:=by omega
   subst this;have HR:Hid (JR l a=zeG (zeD l a)):=dD<|by rw[HR0.out,zjA HH.out,if_neg (by decide)]
   have HCL:Hid ((zy (tab (zcu l a 64))).length=384):=jB _
   go_wp2_with (refine zJ rfl 68 (.tmp 8) rfl b8 rfl LW.out underlying68 rfl (by rw[HCL.out];exact zlV) ?_)
   refine(HFEW.out wr).mono ?_;rintro e W6 ⟨⟨u,rfl,ow⟩,g6⟩;have G6:=dD (BW.out.trans g6);have O6:Hid (zb arE w.heap.size W6 u (zeG (zeD l a)).1):=ow.base (bS BW.out);clear g6 ow;go_wp2;refine bodyPost_ret (results_tmp2 rfl _ _ _) rfl ?_;rw[HR.out];exact⟨⟨_,rfl,O6.out⟩,G6.out⟩
  have hzb:(arW a != 0)=true:=by simp[hza]
  have HR:Hid (JR l a=([],arW a)):=dD<|by unfold JR;rw[if_neg (fun h=>h hz),if_pos hza]
  clear hz hza
  generalize arW a=E at*
  go_enter func79,ntmps79
  go_upto_region 1 with fail;rw[HW0.out];go_wp2_with fail;refine(HW.out W0 G0.out).mono ?_;rintro e W1 ⟨rfl,g⟩;have G1:=dD (G0.out.trans g);have X1:=dD (X0.out.grew g);clear g;obtain⟨pf,HPF⟩:∃pf,Hid (W1.heap.size=pf):=⟨_,rfl⟩;go_upto_region 2 with fail;obtain⟨W2,hWf⟩:∃W2,W1.alloc (.cells #[.int .i64 0,.int .i64 I] 164)=W2:=⟨_,rfl⟩;have G2:=gT hWf G1
  have F2:=xP hWf HPF
  have X2:=yA hWf X1
  rw[hWf,HPF.out];clear hWf;have f0:=F2.out.c 0 rfl
  go_wp2_with (refine zJ rfl 91 (.tmp 3) rfl w.heap.size rfl X2.out underlying91 rfl zlS ?_)
  refine(HWA.out W2).mono ?_;rintro e W3 ⟨rfl,g⟩;have G3:=dD (G2.out.trans g);clear g f0;go_wp2;refine bodyPost_ret (results_tmp2 rfl _ _ _) rfl ?_;rw[HR.out];exact⟨⟨_,rfl,zb.nil _ _ _⟩,G3.out⟩
 have hzb:((wrL l).1 != 0)=true:=by simp[hz]
 have HR:Hid (JR l a=([],(wrL l).1)):=dD<|by unfold JR;rw[if_pos hz]
 clear hz
 generalize(wrL l).2=I at HW
 generalize(wrL l).1=E at*
 go_enter func79,ntmps79
 go_upto_region 1 with fail;rw[HW0.out];go_wp2_with fail;refine(HW.out W0 G0.out).mono ?_;rintro e W1 ⟨rfl,g⟩;have G1:=dD (G0.out.trans g);clear g;obtain⟨pf,HPF⟩:∃pf,Hid (W1.heap.size=pf):=⟨_,rfl⟩;go_upto_region 2 with fail;obtain⟨W2,hWf⟩:∃W2,W1.alloc (.cells #[.int .i64 E,.int .i64 I] 164)=W2:=⟨_,rfl⟩;have G2:=gT hWf G1
 have F2:=xP hWf HPF
 rw[hWf,HPF.out];clear hWf;have f0:=F2.out.c 0 rfl;go_upto_region 3 with fail;go_quiet (fail);obtain⟨Wq,hWq⟩:∃Wq,W2.drewN nq=Wq:=⟨_,rfl⟩;have Gq:Hid (zc w Wq):=dD<|by rw[<-hWq];exact G2.out.trans (show Below _ _ _ from bD (bR _ _) _)
 rw[hWq];clear hWq f0;go_wp2;refine bodyPost_ret (results_tmp2 rfl _ _ _) rfl ?_;rw[HR.out];exact⟨⟨_,rfl,zb.nil _ _ _⟩,Gq.out⟩
end
end Go.Proofs.YtacihbmelcegbaaGreat
