import Derived.Test.YtacihbmelcegbaaGreatPL2
import Derived.Deep.Cut
import Derived.BigQuiet
import Derived.Laws.CopyRow
import Derived.Laws.CopyOwn
import Derived.Laws.MakeOwn
import Derived.RangeFuncNested
import Derived.RangeFuncBound
import Derived.RangeFuncCalls
import Derived.RangeFuncLeaves
import Derived.Shelf.Abstract
import Derived.Shelf.RegionOpen
import Derived.WalkKit
import Derived.OwnWalkIn
import Derived.TacticsInMore
import Derived.LoopNIn
import Derived.LoopIn
namespace Go.Proofs.YtacihbmelcegbaaGreat
set_option maxRecDepth 100000
set_option maxHeartbeats 4000000
variable{B0 B1 b base' hi i id j kk:Nat} {L:List Int} {Q Q':Exit->Act->World->Prop} {T:List (Nat->En)} {V:MaV} {e t:TypeId} {m:Ma} {o oi oj:Oper} {ops:Array Oper} {vl vt:Sli} {vs xs:List Value} {w' w0:World} {z:Int}
open Go.Proofs.Tryz
section
open Go.RowKit
structure QE (lo hi:Nat) (w:World) (x:SpV) (s:Sp):Prop where
 live:x.live=s.live
 ar:zb arE lo w x.ar.v s.ars
 tb:jS lo w x.tab s.tb
 arh:∀g,x.ar.v.ownBlock=some g->g<hi
 tbh:∀(i:Nat) v,x.tab[i]? =some v->∀g,v.ownBlock=some g->g<hi
theorem QE.grew {lo:Nat} {w:World} {x:SpV} {s:Sp} (h:QE lo hi w x s) (k:zc w w'):QE lo hi w' x s:=⟨h.live,h.ar.grew k,h.tb.grew k,h.arh,h.tbh⟩
theorem QE.at {lo:Nat} {w:World} {x:SpV} {s:Sp} (h:QE lo hi w x s):jw w x s:=⟨h.live,h.ar.at,h.ar.cap,h.tb.new.now⟩
theorem jS.grown {base:Nat} {w:World} {t:List (List En)} {g:Nat} (h:jS base w vs t) (hg:w.grownBy w' (some g)) (hn:∀(i:Nat) v,vs[i]? =some v->v.ownBlock≠some g):jS base w' vs t:=
 ⟨h.len,h.tlen,fun i v x hv hx=>(h.row i v x hv hx).grown hg (fun b hb e=>by cases e;exact hn i v hv hb),h.two⟩
theorem QE.beside {lo:Nat} {w:World} {x:SpV} {s:Sp} {g:Nat} {cs:Array Value} (h:QE lo hi w x s) (hg:w.grownBy w' (some g)) (ho:w.heap[g]? =some (.cells cs t (0,0))) (h1:t≠arE.ty) (h2:t≠enE.ty):QE lo hi w' x s:=by
 have key:∀{α:Type} {E:Elt α} {b:Nat} {v:Value} {l:List α},zb E b w v l->t≠E.ty->∀k,v.ownBlock=some k->some g≠some k:=fun hr hne k hk e=>by
  cases e;obtain⟨ds,h3⟩:=hr.obj hk;rw[ho]at h3;cases h3;exact hne rfl
 refine⟨h.live,h.ar.grown hg (key h.ar h1),h.tb.grown hg (fun i v hv e=>?_),h.arh,h.tbh⟩
 obtain⟨y,hy⟩:∃y,s.tb[i]? =some y:=⟨_,gE (by rw[h.tb.tlen,<-h.tb.len];exact(gS.1 hv).1)⟩
 exact key (h.tb.row i v y hv hy) h2 g e rfl
def Z6 (base:Nat) (w:World) (v:Value) (ss:List Sp):Prop:=
 ∃(xs:List SpV) (B:Nat->Nat),zb Zx base w v xs/\xs.length=ss.length/\base<=B 0/\(∀i,B i<=B (i+1))/\∀(i:Nat) x s,xs[i]? =some x->ss[i]? =some s->QE (B i) (B (i+1)) w x s
theorem Z6.grew {base:Nat} {w:World} {v:Value} {ss:List Sp} (h:Z6 base w v ss) (k:zc w w'):Z6 base w' v ss:=by
 obtain⟨xs,B,h1,h2,h3,h4,h5⟩:=h;exact⟨xs,B,h1.grew k,h2,h3,h4,fun i x s hx hs=>(h5 i x s hx hs).grew k⟩
theorem Z6.base {base:Nat} {w:World} {v:Value} {ss:List Sp} (h:Z6 base w v ss) (hb:base'<=base):Z6 base' w v ss:=by
 obtain⟨xs,B,h1,h2,h3,h4,h5⟩:=h;exact⟨xs,B,h1.base hb,h2,by omega,h4,h5⟩
structure zaB (base:Nat) (w:World) (kk:Nat) (xs ys:List SpV) (ss:List Sp) (B:Nat->Nat):Prop where
 len:ys.length=xs.length
 own:∀(i:Nat) y s,i<kk->ys[i]? =some y->ss[i]? =some s->QE (B i) (B (i+1)) w y s
 rest:∀(i:Nat),kk<=i->ys[i]? =xs[i]?
 b0:base<=B 0
 mono:∀i,B i<=B (i+1)
 top:B kk<=w.heap.size
theorem zaB.grew {base:Nat} {w:World} {xs ys:List SpV} {ss:List Sp} {B:Nat->Nat} (h:zaB base w kk xs ys ss B) (k:zc w w'):zaB base w' kk xs ys ss B:=⟨h.len,fun i y s hi hy hs=>(h.own i y s hi hy hs).grew k,h.rest,h.b0,h.mono,nT h.top (bS k)⟩
theorem zc2 {B:Nat->Nat} (h:∀i,B i<=B (i+1)):∀{i j:Nat},i<=j->B i<=B j
 | i,0,hij=>by rw[show i=0 from by omega];exact nR _
 | i,j+1,hij=>by
  by_cases e:i=j+1
  ·subst e;exact nR _
  exact nT (zc2 h (by omega)) (h j)
theorem ZA:Zx.ty≠arE.ty/\Zx.ty≠enE.ty:=by decide
theorem zaB.step {base:Nat} {w:World} {xs ys:List SpV} {ss:List Sp} {B:Nat->Nat} {g:Nat} {cs:Array Value} (h:zaB base w kk xs ys ss B) (hg:w.grownBy w' (some g)) (ho:w.heap[g]? =some (.cells cs Zx.ty (0,0))) (hsz:w'.heap.size=w.heap.size) {x:SpV} {s:Sp} (hx:xs[kk]? =some x) (hs:ss[kk]? =some s)
  {y:SpV} (hown:QE (B kk) w.heap.size w' y s):zaB base w' (kk+1) xs (ys.set kk y) ss (fun i=>if i<=kk then B i else w.heap.size):=by
 have hk:kk<ys.length:=by rw[h.len];exact(gS.1 hx).1
 refine⟨by simp[h.len],fun i z s' hi hz hs'=>?_,fun i hi=>?_,by simpa using h.b0,fun i=>?_,by rw[if_neg (by omega),hsz];exact nR _⟩
 ·by_cases e:i=kk
  ·subst e;rw[sF hk]at hz;cases hz;rw[hs]at hs';cases hs';rw[if_pos (nR _),if_neg (by omega)]
   exact hown
  rw[sN (fun h=>e h.symm)]at hz
  have h1:=(h.own i z s' (by omega) hz hs').beside hg ho ZA.1 ZA.2
  have e1:i<=kk:=by omega
  have e2:i+1<=kk:=by omega
  simpa [e1,e2]using h1
 ·rw[sN (by omega)]
  exact h.rest i (by omega)
 by_cases e1:i+1<=kk
 ·rw[if_pos (by omega),if_pos e1]
  exact h.mono i
 rw[if_neg e1]
 by_cases e2:i<=kk
 ·rw[if_pos e2];exact nT (zc2 h.mono e2) h.top
 rw[if_neg e2];exact nR _
theorem zaB.all {base:Nat} {w:World} {xs ys:List SpV} {ss:List Sp} {B:Nat->Nat} {v:Value} (h:zaB base w xs.length xs ys ss B) (hl:xs.length=ss.length) (hv:zb Zx base w v ys):Z6 base w v ss:=
 ⟨ys,B,hv,h.len.trans hl,h.b0,h.mono,fun i y s hy hs=>h.own i y s (by rw[<-h.len];exact(gS.1 hy).1) hy hs⟩
theorem ziZ {base:Nat} {w:World} {us:List Value} {t:List (List En)} (h:jS base w us t):∃t0 t1 t2 t3 t4 t5 t6 t7:Sli,us=[t0.v,t1.v,t2.v,t3.v,t4.v,t5.v,t6.v,t7.v]:=by
 obtain⟨u0,u1,u2,u3,u4,u5,u6,u7,rfl⟩:=zkN h.len;obtain⟨y0,y1,y2,y3,y4,y5,y6,y7,rfl⟩:=zkN h.tlen;obtain⟨a0,c0,rfl⟩:=(h.row 0 _ _ rfl rfl).form;obtain⟨a1,c1,rfl⟩:=(h.row 1 _ _ rfl rfl).form;obtain⟨a2,c2,rfl⟩:=(h.row 2 _ _ rfl rfl).form;obtain⟨a3,c3,rfl⟩:=(h.row 3 _ _ rfl rfl).form;obtain⟨a4,c4,rfl⟩:=(h.row 4 _ _ rfl rfl).form;obtain⟨a5,c5,rfl⟩:=(h.row 5 _ _ rfl rfl).form;obtain⟨a6,c6,rfl⟩:=(h.row 6 _ _ rfl rfl).form;obtain⟨a7,c7,rfl⟩:=(h.row 7 _ _ rfl rfl).form;exact⟨⟨a0,_,c0⟩,⟨a1,_,c1⟩,⟨a2,_,c2⟩,⟨a3,_,c3⟩,⟨a4,_,c4⟩,⟨a5,_,c5⟩,⟨a6,_,c6⟩,⟨a7,_,c7⟩,rfl⟩
theorem zcY (v:Value) (ss:List Sp) (w:World) (hv:QD w v ss):
  Calls prog 63 #[v] w fun e w'=>∃v',e= .returned v'/\Z6 w.heap.size w' v' ss/\zc w w':=by
 obtain⟨xs,k1,k2,k3⟩:=hv;have HX:Hid (zr Zx w v xs):=k1;have HL:Hid (xs.length=ss.length):=k2;have HSP:Hid (∀(i:Nat) x s,xs[i]? =some x->ss[i]? =some s->jw w x s):=k3;have hbig:=k1.short;obtain⟨a,c,rfl,_⟩:=k1.rows;clear k1 k2 k3;obtain⟨n,HN⟩:∃n,Hid (xs.length=n):=⟨_,rfl⟩;rw[HN.out]at hbig HX⊢;have hcl:=zfn _ xs w HX.out
 go_enter func63,ntmps63
 go_wp2_with fail;refine hcl.mono ?_;clear hcl;rintro e W1 ⟨v1,rfl,ow1,g1⟩;obtain⟨xa,xc,rfl⟩:=ow1.form;rw[HN.out]at ow1⊢;have O1:Hid (zb Zx w.heap.size W1 (.slice xa n xc) xs):=ow1;have G1:Hid (zc w W1):=g1;clear ow1 g1;go_wp2
 go_loopg [10] n (fun gg s10 wr=>∃(kk:Nat) (ys:List SpV) (B:Nat->Nat),kk<=n/\n - kk<=gg/\s10= .int .i64 kk/\Hid (zc w wr)/\Hid (zb Zx w.heap.size wr (.slice xa n xc) ys)/\Hid (zaB w.heap.size wr kk xs ys ss B))
 case atStart=>exact⟨0,xs,fun _=>W1.heap.size,nZ _,by omega,rfl,G1.out,O1.out,⟨rfl,fun i y f hi=>absurd hi (nL _),fun i _=>rfl,bS G1.out,fun i=>nR _,nR _⟩⟩
 obtain⟨kk,ys,B,hkk,hgg,rfl,BW,OW,HH⟩:=hrel
 by_cases hlt:kk<n
 ·have hltz:(kk:Int)< (n:Int):=by omega
  obtain⟨x,HXK⟩:∃x,Hid (xs[kk]? =some x):=⟨_,gE (by rw[HN.out];exact hlt)⟩
  obtain⟨s,HSK⟩:∃s,Hid (ss[kk]? =some s):=⟨_,gE (by rw[<-HL.out,HN.out];exact hlt)⟩
  have HAT:Hid (jw w x s):=HSP.out kk x s HXK.out HSK.out;have HY:Hid (ys[kk]? =some x):=show _=_ by rw[HH.out.rest kk (nR _)];exact HXK.out
  have HYL:Hid (ys.length=n):=dD<|by rw[HH.out.len,HN.out]
  obtain⟨g,xc',heq⟩:=OW.out.formS (by rw[HYL.out];omega)
  rw[HYL.out]at heq;cases heq;have hce:zk6 wr ((Addr.mk g 0 none).add (kk*10)) x:=(OW.out.one HY.out).sp10;rw[Addr.add_lit,zA]at hce;obtain⟨d0,d1,d2,d3,d4,d5,d6,d7,d8,d9⟩:=hce;have HGB:Hid (w.heap.size<=g):=dD<|(OW.out.lt g rfl).1
  go_upto_region 5 with fail;clear d0 d1 d2 d3 d4 d5 d6 d7 d8 d9;obtain⟨W2,hW2⟩:∃W2,wr.alloc (.cells #[.bool x.live,.slice x.ar.a x.ar.n x.ar.c,.slice x.t0.a x.t0.n x.t0.c,.slice x.t1.a x.t1.n x.t1.c,.slice x.t2.a x.t2.n x.t2.c,.slice x.t3.a x.t3.n x.t3.c,.slice x.t4.a x.t4.n x.t4.c,.slice x.t5.a x.t5.n x.t5.c,.slice x.t6.a x.t6.n x.t6.c,.slice x.t7.a x.t7.n x.t7.c] 63)=W2:=⟨_,rfl⟩;have HG2:=gT hW2 BW
  have S2:=xA hW2
  have OW2:Hid (zb Zx w.heap.size W2 (.slice (some ⟨g,0,none⟩) n xc) ys):=dD<|by rw[<-hW2];exact OW.out.grew (za _ _)
  have H2:Hid (zaB w.heap.size W2 kk xs ys ss B):=dD<|by rw[<-hW2];exact HH.out.grew (za _ _)
  have HGL:Hid (g<wr.heap.size):=dD<|(OW.out.lt g rfl).2
  rw[hW2];clear hW2;obtain⟨pb,HPB⟩:∃pb,Hid (wr.heap.size=pb):=⟨_,rfl⟩;rw[HPB.out]at S2 HGL⊢;have s1:=S2.out.c 1 rfl;have hca:=zfp (.slice x.ar.a x.ar.n x.ar.c) s.ars W2 (HAT.out.ar.grew HG2.out);go_wp2_with fail;refine hca.mono ?_;clear hca s1;rintro e W3 ⟨v3,rfl,ow3,g3⟩;have HCP:Hid (Cap v3):=ow3.cap;obtain⟨ra,rc,rfl⟩:=ow3.form;obtain⟨rn,HRN⟩:∃rn,Hid (s.ars.length=rn):=⟨_,rfl⟩;rw[HRN.out]at ow3⊢;have A3:Hid (zb arE W2.heap.size W3 (.slice ra rn rc) s.ars):=ow3;have HG3:=dD (HG2.out.trans g3);have S3:=dD (S2.out.grew g3);have OW3:=dD (OW2.out.grew g3);have H3:=dD (H2.out.grew g3);have HB2:Hid (B kk<=W2.heap.size):=H2.out.top;have HS2:Hid (W2.heap.size<=W3.heap.size):=show _<=_ from bS g3
  clear ow3 g3
  go_wp2_with (refine zt (E:=Zx) rfl (.tmp 21) (.tmp 19) 58 rfl w.heap.size _ ys OW3.out g kk 1 rfl x { x with ar:=⟨ra,rn,rc⟩ } HY.out [.slice ra rn rc] ?s1 rfl ?s2 ?s3 ⟨g,kk*10+1,none⟩ rfl rfl (.slice ra rn rc) rfl rfl ?_)
  case s1=>kernel_rfl
  case s2=>show 1+1<=10;omega
  case s3=>simp;rfl
  intro W4 ow4 gr4 sz4;have HK4:Hid (∃cs,W3.heap[g]? =some (.cells cs Zx.ty (0,0))):=OW3.out.obj rfl;have HG4:Hid (zc w W4):=show zc _ _ from ze HG3.out gr4 HGB.out
  have S4:Hid (Box W4 pb [.bool x.live,.slice x.ar.a x.ar.n x.ar.c,.slice x.t0.a x.t0.n x.t0.c,.slice x.t1.a x.t1.n x.t1.c,.slice x.t2.a x.t2.n x.t2.c,.slice x.t3.a x.t3.n x.t3.c,.slice x.t4.a x.t4.n x.t4.c,.slice x.t5.a x.t5.n x.t5.c,.slice x.t6.a x.t6.n x.t6.c,.slice x.t7.a x.t7.n x.t7.c]):=S3.out.grown gr4 (by have:=HGL.out;omega)
  have OW4:Hid (zb Zx w.heap.size W4 (.slice (some ⟨g,0,none⟩) n xc) (ys.set kk { x with ar:=⟨ra,rn,rc⟩ })):=ow4;have A4:Hid (zb arE W2.heap.size W4 (.slice ra rn rc) s.ars):=A3.out.grown gr4 (fun b hb e=>by
   cases e;exact OW3.out.apart A3.out ZA.1 g rfl hb)
  have H4:Hid (∀(i:Nat) y s',i<kk->ys[i]? =some y->ss[i]? =some s'->QE (B i) (B (i+1)) W4 y s'):=dD<|fun i y s' hi hy hs=>by
   obtain⟨cs,hcs⟩:=HK4.out;exact(H3.out.own i y s' hi hy hs).beside gr4 hcs ZA.1 ZA.2
  have HS4:Hid (W4.heap.size=W3.heap.size):=sz4;clear ow4 gr4 sz4;have hct:=zhG x.tab s.tb W4 (HAT.out.grew HG4.out).tb;have hct':Calls prog 102 #[.agg #[.slice x.t0.a x.t0.n x.t0.c,.slice x.t1.a x.t1.n x.t1.c,.slice x.t2.a x.t2.n x.t2.c,.slice x.t3.a x.t3.n x.t3.c,.slice x.t4.a x.t4.n x.t4.c,.slice x.t5.a x.t5.n x.t5.c,.slice x.t6.a x.t6.n x.t6.c,.slice x.t7.a x.t7.n x.t7.c]] W4 fun e w'=>∃us,e= .returned (.agg us.toArray)/\jS (W4.heap.size+2) w' us s.tb/\zc W4 w'/\W4.heap.size+2<=w'.heap.size:=hct
  clear hct;have s2:=S4.out.c 2 rfl;have s3:=S4.out.c 3 rfl;have s4:=S4.out.c 4 rfl;have s5:=S4.out.c 5 rfl;have s6:=S4.out.c 6 rfl;have s7:=S4.out.c 7 rfl;have s8:=S4.out.c 8 rfl;have s9:=S4.out.c 9 rfl;go_wp2_with fail;refine hct'.mono ?_;clear hct' s2 s3 s4 s5 s6 s7 s8 s9;rintro e W5 ⟨us,rfl,ot5,g5,_⟩;obtain⟨t0,t1,t2,t3,t4,t5,t6,t7,rfl⟩:=ziZ ot5;have T5:Hid (jS (W4.heap.size+2) W5 [t0.v,t1.v,t2.v,t3.v,t4.v,t5.v,t6.v,t7.v] s.tb):=ot5;have HG5:=dD (HG4.out.trans g5);have OW5:=dD (OW4.out.grew g5);have A5:=dD (A4.out.grew g5);have H5:Hid (∀(i:Nat) y s',i<kk->ys[i]? =some y->ss[i]? =some s'->QE (B i) (B (i+1)) W5 y s'):=show∀(i:Nat) y s',_ from fun i y s' hi hy hs=>(H4.out i y s' hi hy hs).grew g5
  have HS5:Hid (W4.heap.size<=W5.heap.size):=dD<|bS g5
  clear ot5 g5;have HYS:Hid ((ys.set kk { x with ar:=⟨ra,rn,rc⟩ })[kk]? =some { x with ar:=⟨ra,rn,rc⟩ }):=dD<|sF (by rw[HYL.out];exact hlt)
  go_wp2_with (refine zt (E:=Zx) rfl (.tmp 28) (.tmp 26) 61 rfl w.heap.size _ _ OW5.out g kk 2 rfl { x with ar:=⟨ra,rn,rc⟩ } ⟨x.live,⟨ra,rn,rc⟩,t0,t1,t2,t3,t4,t5,t6,t7⟩ HYS.out [t0.v,t1.v,t2.v,t3.v,t4.v,t5.v,t6.v,t7.v] ?s1 rfl ?s2 ?s3 ⟨g,kk*10+2,none⟩ rfl rfl _ rfl rfl ?_)
  case s1=>kernel_rfl
  case s2=>show 2+8<=10;omega
  case s3=>
   intro u hu;simp only[mC,nM,or_false]at hu
   rcases hu with rfl|rfl|rfl|rfl|rfl|rfl|rfl|rfl <;> rfl
  intro W6 ow6 gr6 sz6;have HK6:Hid (∃cs,W5.heap[g]? =some (.cells cs Zx.ty (0,0))):=OW5.out.obj rfl;have HG6:Hid (zc w W6):=show zc _ _ from ze HG5.out gr6 HGB.out
  have OW6:Hid (zb Zx w.heap.size W6 (.slice (some ⟨g,0,none⟩) n xc) (ys.set kk ⟨x.live,⟨ra,rn,rc⟩,t0,t1,t2,t3,t4,t5,t6,t7⟩)):=ow6;have HF6:Hid (zaB w.heap.size W6 (kk+1) xs (ys.set kk ⟨x.live,⟨ra,rn,rc⟩,t0,t1,t2,t3,t4,t5,t6,t7⟩) ss (fun i=>if i<=kk then B i else W5.heap.size)):=show zaB _ _ _ _ _ _ _ by
   obtain⟨cs,hcs⟩:=HK6.out;have h5:zaB w.heap.size W5 kk xs ys ss B:=⟨HH.out.len,H5.out,HH.out.rest,HH.out.b0,HH.out.mono,by have:=HB2.out;have:=HS2.out;have:=HS4.out;have:=HS5.out;omega⟩
   refine h5.step gr6 hcs sz6 HXK.out HSK.out ?_;have own5:QE (B kk) W5.heap.size W5 ⟨x.live,⟨ra,rn,rc⟩,t0,t1,t2,t3,t4,t5,t6,t7⟩ s:=⟨HAT.out.live,A5.out.base HB2.out,T5.out.base (by have:=HB2.out;have:=HS2.out;have:=HS4.out;omega),fun b hb=>(A5.out.lt b hb).2,fun i u hu b hb=>by
    obtain⟨y,hy⟩:∃y,s.tb[i]? =some y:=⟨_,gE (by rw[T5.out.tlen,<-T5.out.len];exact(gS.1 hu).1)⟩
    exact((T5.out.row i u y hu hy).lt b hb).2⟩
   exact own5.beside gr6 hcs ZA.1 ZA.2
  clear ow6 gr6 sz6;go_wp2
  go_roundg (n -(kk+1))
  case measure=>omega
  exact⟨kk+1,_,_,by omega,by omega,by go_num,HG6.out,OW6.out,HF6.out⟩
 have hltz:¬(kk:Int)< (n:Int):=by omega
 have:kk=n:=by omega
 subst this;have HA:Hid (Z6 w.heap.size wr (.slice xa kk xc) ss):=dD<|by
  have h1:=HH.out;rw[<-HN.out]at h1;exact h1.all HL.out OW.out
 go_wp2;go_ret;exact⟨_,rfl,HA.out,BW.out⟩
theorem zbO (v:Value) (fs:List Fr) (w:World) (hv:qh w v fs):
  Calls prog 96 #[v] w fun e w'=>∃v',e= .returned v'/\zi w.heap.size w' v' fs/\zc w w':=by
 have HV:Hid (qh w v fs):=hv;obtain⟨⟨a,c,rfl,hnone,hcells⟩,hbytes⟩:=hv;have q22:∀(w:World) (a:Option Addr) (n c n' c':Nat),(binOp .eql 26 (.slice a n c) (.slice none n' c')).run prog w= .ok (.bool a.isNone) w:=fun w a n c n' c'=>Lib.run_eql_slice_nil w _ _ a n c n' c' underlying26
 cases a with
 | none=>
  have hps:=hnone rfl;subst hps;clear hcells hnone hbytes
  go_enter func96,ntmps96
  go_wp2;go_ret;exact⟨_,rfl,zi.nil _ _,zc.refl w⟩
 | some x=>
  have HB:Hid (fs.length*40<=140737488355328):=hbytes;clear hcells hnone hbytes
  go_enter func96,ntmps96
  go_wp2_with (at_builtin;refine JM rfl (.tmp 5) (.tmp 6) rfl w.heap.size _ [] rfl (zi.made w) _ fs rfl (HV.out.grew (za _ _)) ?qb (by simp) ?_)
  case qb=>rw[List.length_nil,zA];exact HB.out
  intro v' w1 hown hgrow;go_wp2;go_ret;exact⟨v',rfl,by simpa using hown,((bR _ w).alloc (nR _) _).grown hgrow (by simp) (by intro k hk;simp[Value.ownBlock]at hk;omega)⟩
theorem zco (a:Option Addr) (c:Nat) (fs:List Fr) (h:Int) (w:World) (hv:qh w (.slice a fs.length c) fs):
  Calls prog 58 #[.agg #[.slice a fs.length c,.int .i64 h]] w fun e w'=>∃b,e= .returned (.agg #[b,.int .i64 h])/\zi w.heap.size w' b fs/\zc w w':=by
 have HV:Hid (qh w (.slice a fs.length c) fs):=hv;clear hv;obtain⟨n,HN⟩:∃n,Hid (fs.length=n):=⟨_,rfl⟩;rw[HN.out]at HV⊢
 go_enter func58,ntmps58
 go_wp2;obtain⟨W1,hW⟩:∃W1,(w.alloc (.cells #[.slice a n c,.int .i64 h] 28)).alloc (.cells #[.slice none 0 0,.int .i64 0] 28)=W1:=⟨_,rfl⟩;have hg1:=gD2 hW
 have hsz:Hid (W1.heap.size=w.heap.size+2):=dD<|by rw[<-hW];simp
 have X0:=x2a hW
 have X1:=x2b hW
 rw[hW];clear hW;have hx0:∀x:zE W1,x.world.cell? ⟨w.heap.size,0,none⟩=some (.slice a n c):=fun x=>(X0.out.grew x.grew).c 0 rfl
 have hx1:∀x:zE W1,x.world.cell? ⟨w.heap.size,1,none⟩=some (.int .i64 h):=fun x=>(X0.out.grew x.grew).c 1 rfl
 have hne:Nonempty (zE W1):=⟨⟨_,zc.refl _⟩⟩;refine Zy 6 [(2,⟨fun v=>∃a n c,v= .slice a n c,fun v w'=>zi (w.heap.size+2) w' v fs⟩)] qn (by kernel_rfl) rfl rfl (by decide) ?_ ?_ ?_
 ·intro x hx
  simp at hx
  subst hx;exact⟨_,none,0,0,rfl⟩
 ·intro x hx
  simp at hx
  subst hx;intro v w1 w2 hg h;exact h.grew hg
 simp only[List.take,List.drop];iterate 2 (refine zn rfl rfl rfl (fun K hK=>?_);go_big_quiet_op;refine hK _ ?_;clear hK)
 refine zQ rfl rfl (fun w' hg hF=>?_) (fun v1 hv=>?_)
 ·refine zK.call [.slice a n c] rfl func96 rfl rfl rfl ?_;refine(zbO _ fs w' (HV.out.grew (hg1.out.trans hg))).mono ?_;rintro e w'' ⟨v2,rfl,hb,hg2⟩;obtain⟨a2,c2,rfl⟩:=hb.form;exact⟨_,rfl,hg2,⟨_,_,_,rfl⟩,hb.base (by have:=bS hg;rw[hsz.out]at this;exact this)⟩
 obtain⟨a1,n1,c1,rfl⟩:=hv;simp only[Act.put,sB,sS,sZ];iterate 3 (refine zn rfl rfl rfl (fun K hK=>?_);go_big_quiet_op;refine hK _ ?_;clear hK)
 refine qT fun w' hg hF=>?_
 have ow1:Hid (zi (w.heap.size+2) w' (.slice a1 n1 c1) fs):=hF 2;have X2:=X1.out.grew hg;have m2:=X2.c 0 rfl;have m3:=X2.c 1 rfl;have g2:=X2.f;have HG:=dD (hg1.out.trans hg);clear hF hx0 hx1 hg hne;go_wp2;refine bodyPost_ret (v:= .agg #[.slice a1 n1 c1,.int .i64 h]) (by simp[results,Tryz.results58,go_sem, *]) rfl ⟨_,rfl,((ow1.out.setCell (by simp) _).setCell (by simp) _).base (by omega),?_⟩
 exact Below.setCell (Below.setCell HG.out (p:=⟨w.heap.size+1,0,none⟩) (by simp) _) (p:=⟨w.heap.size+1,1,none⟩) (by simp) _
theorem zgY (v:Value) (fs:List Int) (w:World) (hv:zr slE w v fs):
  Calls prog 59 #[v] w fun e w'=>∃v',e= .returned v'/\zb slE w.heap.size w' v' fs/\zc w w':=by
 have HV:Hid (zr slE w v fs):=hv;obtain⟨⟨a,c,rfl,hnone,hcells⟩,hbytes⟩:=hv;have q22:∀(w:World) (a:Option Addr) (n c n' c':Nat),(binOp .eql 30 (.slice a n c) (.slice none n' c')).run prog w= .ok (.bool a.isNone) w:=fun w a n c n' c'=>Lib.run_eql_slice_nil w _ _ a n c n' c' underlying30
 cases a with
 | none=>
  have hps:=hnone rfl;subst hps;clear hcells hnone hbytes
  go_enter func59,ntmps59
  go_wp2;go_ret;exact⟨_,rfl,zb.nil _ _ _,zc.refl w⟩
 | some x=>
  have HB:Hid (fs.length*8<=140737488355328):=hbytes;clear hcells hnone hbytes
  go_enter func59,ntmps59
  go_wp2_with (at_builtin;refine zB (E:=slE) rfl (.tmp 5) (.tmp 6) rfl w.heap.size _ [] rfl (zb.made slE w) _ fs rfl (HV.out.grew (za _ _)) ?qb (by simp) ?_)
  case qb=>rw[List.length_nil,zA];exact HB.out
  intro v' w1 hown hgrow;go_wp2;go_ret;exact⟨v',rfl,by simpa using hown,((bR _ w).alloc (nR _) _).grown hgrow (by simp) (by intro k hk;simp[Value.ownBlock]at hk;omega)⟩
section
variable(I:World->Prop) (P:Program) (ops:Array Oper) (S:Nat->Option (Value->Prop))
def jH (i:Nat) (F:Nat->World->Prop) (a:Act) (K:(Nat->World->Prop)->Act->Prop):Prop:=
 match ops[i]? with
 | none=>False
 | some o=>
  if Region.wanted o (yielded ops a.tmps)then
   match S i with
   | none=>∃v,(∀w,I w->(∀m,anc ops 9 m i=true->F m w)->(execOp a.eval o).run P w= .ok (.value v) w)/\K F (a.put o.dst v)
   | some s=>∃p:Value->World->Prop,(∀v w w',zc w w'->p v w->p v w')/\(∀w,I w->(∀m,anc ops 9 m i=true->F m w)->zK P o a w fun v w'=>I w'/\zc w w'/\s v/\p v w')/\∀v,s v->K (ZV F i (p v)) (a.put o.dst v)
  else K F (a.put o.dst undef)
def ziT (Q:Act->World->Prop):List Nat->(Nat->World->Prop)->Act->Prop
 | [],F,a=>∀w,I w->(∀i,F i w)->Q a w
 | i :: l,F,a=>jH I P ops S i F a (ziT Q l)
end
section
variable{I:World->Prop} {P:Program} {ops:Array Oper} {S:Nat->Option (Value->Prop)} {T:Nat}
theorem jH.mono {F:Nat->World->Prop} {a:Act} {K K':(Nat->World->Prop)->Act->Prop}
  (h:∀F' a',(∀m,m≠i->F' m=F m)->K F' a'->K' F' a') (hc:jH I P ops S i F a K):jH I P ops S i F a K':=by
 unfold jH at*
 split
 ·rename_i ho;simp only[ho]at hc
 rename_i o ho
 simp only[ho]at hc
 split
 ·rename_i hw
  simp only[hw,if_true]at hc
  split
  ·rename_i hs
   simp only[hs]at hc;obtain⟨v,h1,h2⟩:=hc;exact⟨v,h1,h _ _ (fun _ _=>rfl) h2⟩
  rename_i s hs
  simp only[hs]at hc;obtain⟨p,hp,hd,hc⟩:=hc;exact⟨p,hp,hd,fun v hv=>h _ _ (fun m hm=>z6 hm) (hc v hv)⟩
 rename_i hw
 simp only[hw]at hc;exact h _ _ (fun _ _=>rfl) hc
theorem jH.swap {F:Nat->World->Prop} {a:Act} {K:(Nat->World->Prop)->Act->Prop} {w:World}
  (hi:ops[i]? =some oi) (hj:ops[j]? =some oj) (hne:i≠j) (hap:oi.apart ops oj=true)
  (hsi:∀cs b,oi.op≠.select cs b) (hsj:∀cs b,oj.op≠.select cs b)
  (hij:anc ops 9 i j=false) (hji:anc ops 9 j i=false) (hS:∀s,S i=some s->∃v,s v) (hch:S i≠none->S j≠none->anc ops 9 i j=true\/anc ops 9 j i=true)
  (hw0:I w) (hF:∀m,anc ops 9 m j=true->F m w)
  (h:jH I P ops S i F a fun F' a'=>jH I P ops S j F' a' K):jH I P ops S j F a fun F' a'=>jH I P ops S i F' a' K:=by
 obtain⟨h1,h2,h3⟩:=Oper.apart_spec hap;have ei:∀v,execOp (a.put oj.dst v).eval oi=execOp a.eval oi:=fun v=>execOp_put oi hsi a oj.dst v h3
 have ej:∀v,execOp (a.put oi.dst v).eval oj=execOp a.eval oj:=fun v=>execOp_put oj hsj a oi.dst v h1
 have wi:∀v,Region.wanted oi (yielded ops (a.put oj.dst v).tmps)=Region.wanted oi (yielded ops a.tmps):=fun v=>wanted_put oi a oj.dst v h3
 have wj:∀v,Region.wanted oj (yielded ops (a.put oi.dst v).tmps)=Region.wanted oj (yielded ops a.tmps):=fun v=>wanted_put oj a oi.dst v h1
 have di:∀v w K,zK P oi (a.put oj.dst v) w K=zK P oi a w K:=fun v w K=>by unfold zK;rw[ei]
 have dj:∀v w K,zK P oj (a.put oi.dst v) w K=zK P oj a w K:=fun v w K=>by unfold zK;rw[ej]
 have pc:∀v u,(a.put oi.dst v).put oj.dst u=(a.put oj.dst u).put oi.dst v:=fun v u=>Act.put_comm a v u h2
 have fi:∀p,(fun m=>anc ops 9 m i=true->ZV F j p m w=F m w)=fun _=>True:=fun p=>by
  funext m
  simp only[eq_iff_iff,iff_true];intro hm;rw[z6 (fun e=>by subst e;rw[hji]at hm;cases hm)]
 have faci:∀p w',(∀m,anc ops 9 m i=true->ZV F j p m w')↔(∀m,anc ops 9 m i=true->F m w'):=fun p w'=>by
  constructor <;> intro hh m hm <;> have:=hh m hm
  ·rwa [z6 (fun e=>by subst e;rw[hji]at hm;cases hm)]at this
  rwa [z6 (fun e=>by subst e;rw[hji]at hm;cases hm)]
 have facj:∀p w',(∀m,anc ops 9 m j=true->ZV F i p m w')↔(∀m,anc ops 9 m j=true->F m w'):=fun p w'=>by
  constructor <;> intro hh m hm <;> have:=hh m hm
  ·rwa [z6 (fun e=>by subst e;rw[hij]at hm;cases hm)]at this
  rwa [z6 (fun e=>by subst e;rw[hij]at hm;cases hm)]
 clear fi;unfold jH at h⊢;simp only[hi,hj,ei,ej,wi,wj,di,dj,pc]at h⊢
 cases hwi:Region.wanted oi (yielded ops a.tmps) <;> cases hwj:Region.wanted oj (yielded ops a.tmps) <;>
  simp only[hwi,hwj,if_true,if_false,Bool.false_eq_true]at h⊢
 ·exact h
 ·cases hsj':S j with
  | none=>simp only[hsj']at h⊢;exact h
  | some s=>simp only[hsj']at h⊢;exact h
 ·cases hsi':S i with
  | none=>simp only[hsi']at h⊢;exact h
  | some s=>simp only[hsi']at h⊢;exact h
 cases hsi':S i with
 | none=>
  simp only[hsi']at h;obtain⟨vi,hri,h⟩:=h
  cases hsj':S j with
  | none=>
   simp only[hsj']at h⊢;obtain⟨vj,hrj,h⟩:=h;exact⟨vj,hrj,vi,hri,h⟩
  | some s=>
   simp only[hsj']at h⊢;obtain⟨p,hp,hd,hk⟩:=h;exact⟨p,hp,hd,fun vj hvj=>⟨vi,fun w' hw' hf=>hri w' hw' ((faci _ _).1 hf),hk vj hvj⟩⟩
 | some si=>
  simp only[hsi']at h;obtain⟨p,hp,hdi,h⟩:=h;obtain⟨v1,hv1⟩:=hS si hsi'
  cases hsj':S j with
  | none=>
   simp only[hsj']at h⊢;obtain⟨vj,hrj,_⟩:=h v1 hv1;refine⟨vj,fun w' hw' hf=>hrj w' hw' ((facj _ _).2 hf),p,hp,hdi,fun vi hvi=>?_⟩
   obtain⟨vj',hrj',hl⟩:=h vi hvi;have e1:=hrj w hw0 ((facj _ _).2 hF);have e2:=hrj' w hw0 ((facj _ _).2 hF);rw[e1]at e2;simp only[Result.ok.injEq,Next.value.injEq,and_true]at e2;subst e2;exact hl
  | some sj=>
   exfalso
   rcases hch (by rw[hsi'];simp) (by rw[hsj'];simp)with h1|h1
   ·rw[hij]at h1;cases h1
   rw[hji]at h1;cases h1
theorem ziT.commute {Q:Act->World->Prop} {j:Nat} {oj:Oper} {w:World} (hj:ops[j]? =some oj) (hw0:I w)
  (hsel:∀(k:Nat) (o:Oper) cs b,ops[k]? =some o->o.op≠.select cs b) (hS:∀k s,S k=some s->∃v,s v) (hch:∀i k,i<k->S i≠none->S k≠none->anc ops 9 i k=true):
  ∀(l:List Nat) (F:Nat->World->Prop) (a:Act),l.Nodup->j∈l->
   (∀i∈l,i≠j->∃oi,ops[i]? =some oi/\(i<j->oi.apart ops oj=true)/\anc ops 9 i j=false/\(i<j->anc ops 9 j i=false))->
   (l.Pairwise (·< ·))->(∀m,anc ops 9 m j=true->F m w)->ziT I P ops S Q l F a->ziT I P ops S Q (j :: l.filter (· != j)) F a
 | [],_,_,_,hm,_,_,_,_=>by cases hm
 | i :: l,F,a,hnd,hm,hall,hsorted,hF,h=>by
  by_cases hij:i=j
  ·subst hij;have:(i :: l).filter (· != i)=l:=by
    rw[List.filter_cons];simp only[bne_self_eq_false,Bool.false_eq_true,if_false];refine List.filter_eq_self.2 fun x hx=>?_
    have:x≠i:=fun e=>(List.nodup_cons.1 hnd).1 (e ▸ hx)
    simpa using this
   rw[this];exact h
  have hjl:j∈l:=by
   rcases mC.1 hm with e|e
   ·exact absurd e.symm hij
   exact e
  have hlt:i<j:=(List.pairwise_cons.1 hsorted).1 j hjl;obtain⟨oi,hoi,hap,haij,haji⟩:=hall i (by simp) hij
  have hf:(i :: l).filter (· != j)=i :: l.filter (· != j):=by
   rw[List.filter_cons];have:(i != j)=true:=by simpa using hij
   simp[this]
  rw[hf];refine jH.swap hoi hj hij (hap hlt) (fun cs b=>hsel i oi cs b hoi) (fun cs b=>hsel j oj cs b hj) haij (haji hlt) (hS i) (fun q1 q2=> .inl (hch i j hlt q1 q2)) hw0 hF ?_
  refine jH.mono (fun F' a' hF' hl=>?_) h
  refine ziT.commute hj hw0 hsel hS hch l F' a' (List.nodup_cons.1 hnd).2 hjl (fun k hk=>hall k (by simp[hk])) (List.pairwise_cons.1 hsorted).2 (fun m hma=>?_) hl
  rw[hF' m (fun e=>by subst e;rw[haij]at hma;cases hma)]
  exact hF m hma
theorem zcR {Q:Act->World->Prop} {l:List Oper} {m:Nat} (hB:j4 ops T=true) (hTl:T+m=ops.size) (hll:l.length=m) (hops:∀j,l[j]? =ops[T+j]?) (hS:∀k s,S k=some s->∃v,s v)
  (hch:∀i k,i<k->S i≠none->S k≠none->anc ops 9 i k=true) (hQ:∀a w,Q a w->wpList P ops Q' l a w):
  ∀(fuel:Nat) (listed:Array Bool) (F:Nat->World->Prop) (a:Act) (w:World),listed.size=ops.size->(∀i,T<=i->i<ops.size->listed.getD i true=false)->(zd listed T).length=fuel->Zm ops listed->I w->
   (∀i,F i w)->(∀i w w',zc w w'->F i w->F i w')->ziT I P ops S Q (zd listed T) F a->wpAny P .any ops Q' (fuel+m) listed a w:=by
 have hsel:=Region.noSelect_spec (ops:=ops) (by simp only[j4,Bool.and_eq_true]at hB;exact hB.1.1)
 intro fuel
 induction fuel with
 | zero=>
  intro listed F a w hsz hout hl hc hw hF hFp h;have hnil:zd listed T=[]:=eN hl;rw[hnil]at h;rw[zA];refine Zw hB m l T listed a w (nR _) hsz hTl hll hops (fun i hi=>?_) hout (hQ _ _ (h w hw hF))
  cases hg:listed.getD i true with
  | true=>rfl
  | false=>
   have:i∈zd listed T:=List.mem_filter.2 ⟨List.mem_range.2 hi,by simp only[hg,beq_self_eq_true]⟩
   rw[hnil]at this;cases this
 | succ fuel ih=>
  intro listed F a w hsz hout hl hc hw hF hFp h;rw[Nat.add_right_comm];refine⟨fun hr=>?_,fun j hj=>?_⟩
  ·exfalso
   cases hu:zd listed T with
   | nil=>simp[hu]at hl
   | cons x xs=>
    have hx:x∈zd listed T:=by rw[hu];simp
    have hx':=List.mem_filter.1 hx;have hxT:x<T:=List.mem_range.1 hx'.1;have hxs:x<ops.size:=by omega
    have ho:ops[x]? =some ops[x]:=Array.getElem?_eq_getElem hxs;have hsorted:(zd listed T).Pairwise (·< ·):=List.Pairwise.filter _ List.pairwise_lt_range;have:x∈Region.ready .any ops listed:=by
     refine mem_ready.2 ⟨by simpa using hx'.2,ops[x],ho,fun e he hb=>?_⟩
     have hed:zaf ops e.on x=true:=(jg ho).2 ⟨e,he,hb,rfl⟩;have hlt:=js hB ho _ hed
     cases hg:listed.getD e.on true with
     | true=>exact Ja (by omega) hg
     | false=>
      have hmem:e.on∈zd listed T:=List.mem_filter.2 ⟨List.mem_range.2 (by omega),by simp only[hg,beq_self_eq_true]⟩
      rw[hu]at hmem hsorted
      rcases mC.1 hmem with e1|e1
      ·omega
      have:=(List.pairwise_cons.1 hsorted).1 _ e1;omega
    rw[hr]at this;cases this
  obtain⟨h0,oj,hoj,hall⟩:=mem_ready.1 hj;have hjs:j<ops.size:=(aS.1 hoj).1;have hdir:∀k,zaf ops k j=true->listed.getD k false=true:=fun k hk=>by
   obtain⟨e,he,hb,rfl⟩:=(jg hoj).1 hk;exact hall e he hb
  have hjT:j<T:=by
   rcases Nat.lt_or_ge j T with h1|h1
   ·exact h1
   exfalso
   cases hu:zd listed T with
   | nil=>simp[hu]at hl
   | cons x xs=>
    have hx:x∈zd listed T:=by rw[hu];simp
    have hx':=List.mem_filter.1 hx;have hxT:x<T:=List.mem_range.1 hx'.1;have:=qf hc j x j hdir (jX hB hoj h1 x (by omega))
    rw[qz (by simpa using hx'.2)]at this
    cases this
  have hju:j∈zd listed T:=List.mem_filter.2 ⟨List.mem_range.2 hjT,by simp only[h0,beq_self_eq_true]⟩
  have hnd:(zd listed T).Nodup:=List.Pairwise.filter _ List.nodup_range;have hsorted:(zd listed T).Pairwise (·< ·):=List.Pairwise.filter _ List.pairwise_lt_range;have hcm:=ziT.commute hoj hw hsel hS hch (zd listed T) F a hnd hju (fun i hi hij=>by
   have hi':=List.mem_filter.1 hi;have hun:listed.getD i false=false:=qz (by simpa using hi'.2)
   have his:i<ops.size:=by have:=List.mem_range.1 hi'.1;omega
   have hoi:ops[i]? =some ops[i]:=Array.getElem?_eq_getElem his;refine⟨ops[i],hoi,fun hlt=>?_,?_,fun hlt=>?_⟩
   ·rcases jY hB hoj hjT i hlt with he|⟨oi,hoi',hap⟩
    ·have:=hdir i he;rw[hun]at this;cases this
    rw[hoi]at hoi';cases hoi';exact hap
   ·cases ha:anc ops 9 i j with
    | false=>rfl
    | true=>
     have:=qf hc 9 i j hdir ha;rw[hun]at this;cases this
   cases ha:anc ops 9 j i with
   | false=>rfl
   | true=>
    have:=JP hB 9 j i ha
    omega) hsorted (fun m _=>hF m) h
  have hsz':(listed.setIfInBounds j true).size=ops.size:=by simp[hsz]
  have hout':∀i,T<=i->i<ops.size->(listed.setIfInBounds j true).getD i true=false:=fun i hi hi'=>by rw[getD_set_ne true (by omega)];exact hout i hi hi'
  have hlen':(zd (listed.setIfInBounds j true) T).length=fuel:=by
   rw[z8 (by omega)]
   have he:(zd listed T).filter (· != j)=(zd listed T).erase j:=by
    rw[List.Nodup.erase_eq_filter hnd]
   rw[he,List.length_erase_of_mem hju];omega
  have hc':Zm ops (listed.setIfInBounds j true):=fun i k hk hik=>by
   by_cases hkj:j=k
   ·subst hkj;exact getD_set_true (hdir i hik)
   rw[getD_set_ne false hkj]at hk;exact getD_set_true (hc i k hk hik)
  unfold wpOp;simp only[hoj];simp only[ziT,jH,hoj]at hcm;rw[<-z8 (by omega)]at hcm
  split
  ·rename_i hwant
   simp only[hwant,if_true]at hcm;refine .inl ?_
   cases hs:S j with
   | none=>
    simp only[hs]at hcm;obtain⟨v,hrun,hk⟩:=hcm;have hr:=hrun w hw (fun m _=>hF m)
    unfold Oper.wp;rw[hr];exact ih _ F _ w hsz' hout' hlen' hc' hw hF hFp hk
   | some s=>
    simp only[hs]at hcm;obtain⟨p,hp,hd,hk⟩:=hcm;refine(hd w hw (fun m _=>hF m)).wp fun v w' ⟨hi',hstep,hpv,hpost⟩=>?_
    refine ih _ (ZV F j (p v)) _ w' hsz' hout' hlen' hc' hi' (fun i=>?_) (fun i u u' hu h1=>?_) (hk v hpv)
    ·unfold ZV
     split
     ·exact hpost
     exact hFp i w w' hstep (hF i)
    unfold ZV at h1⊢
    split at h1
    ·rename_i e
     rw[if_pos e];exact hp v u u' hu h1
    rename_i e
    rw[if_neg e];exact hFp i u u' hu h1
  rename_i hwant
  simp only[hwant]at hcm;exact ih _ F _ w hsz' hout' hlen' hc' hw hF hFp hcm
end
section
variable{I:World->Prop} {P:Program} {ops:Array Oper} {S:Nat->Option (Value->Prop)} {Q:Act->World->Prop}
variable(I P ops S Q)in
def JY:List Oper->Nat->(Nat->World->Prop)->Act->Prop
 | [],_,F,a=>∀w,I w->(∀i,F i w)->Q a w
 | o :: rest,k,F,a=>
  if Region.wanted o (yielded ops a.tmps)then
   match S k with
   | none=>∃v,(∀w,I w->(∀m,anc ops 9 m k=true->F m w)->(execOp a.eval o).run P w= .ok (.value v) w)/\JY rest (k+1) F (a.put o.dst v)
   | some s=>∃p:Value->World->Prop,(∀v w w',zc w w'->p v w->p v w')/\(∀w,I w->(∀m,anc ops 9 m k=true->F m w)->zK P o a w fun v w'=>I w'/\zc w w'/\s v/\p v w')/\∀v,s v->JY rest (k+1) (ZV F k (p v)) (a.put o.dst v)
  else JY rest (k+1) F (a.put o.dst undef)
theorem Qy:∀(l:List Oper) (k:Nat) (F:Nat->World->Prop) (a:Act),(∀j,l[j]? =ops[k+j]?\/l.length<=j)->JY I P ops S Q l k F a->ziT I P ops S Q (List.range' k l.length) F a
 | [],_,_,_,_,h=>h
 | o :: l,k,F,a,hl,h=>by
  have h0:ops[k]? =some o:=by
   rcases hl 0 with e|e
   ·simpa using e.symm
   simp at e
  have hnext:∀j,l[j]? =ops[k+1+j]?\/l.length<=j:=fun j=>by
   rcases hl (j+1)with e|e
   ·left;rw[List.getElem?_cons_succ]at e;rw[e];congr 1;omega
   right;simpa using e
  simp only[List.length_cons,List.range'_succ,ziT,jH,h0];unfold JY at h
  split
  ·rename_i hw
   simp only[hw,if_true]at h
   cases hs:S k with
   | none=>
    simp only[hs]at h;obtain⟨v,h1,h2⟩:=h;exact⟨v,h1,Qy l (k+1) _ _ hnext h2⟩
   | some s=>
    simp only[hs]at h;obtain⟨p,hp,hd,hk⟩:=h;exact⟨p,hp,hd,fun v hv=>Qy l (k+1) _ _ hnext (hk v hv)⟩
  rename_i hw
  simp only[hw]at h;exact Qy l (k+1) _ _ hnext h
variable(I P ops S Q)in
structure zeA (l:List Oper) (k:Nat) (F:Nat->World->Prop) (a:Act):Prop where
 out:JY I P ops S Q l k F a
theorem ZQ {Q:Exit->Act->World->Prop} {a:Act} {w:World} {L l r:List Oper} (T:Nat) (S:List (Nat ×(Value->Prop))) (hI:I w.drew) (hm:P.follows .mixedOrders=true) (hB:j4 L.toArray T=true) (hl:L.take T=l) (hr:L.drop T=r) (hT:T<=L.length)
  (hS:∀x∈S,∃v,x.2 v) (hch:((S.map (·.1)).all fun i=>(S.map (·.1)).all fun k=>!decide (i<k) || anc L.toArray 9 i k)=true)
  (h:zeA I P L.toArray (fun k=>S.lookup k) (fun a w=>wpList P L.toArray Q r a w) l 0 (fun _ _=>True) a):(Code.region id L.toArray true).wp P Q a w:=by
 have hlook:∀(S:List (Nat ×(Value->Prop))) k s,S.lookup k=some s->∃x∈S,x.2=s/\x.1=k:=by
  intro S
  induction S with
  | nil=>intro k s h;simp at h
  | cons x S ih=>
   intro k s h;rw[List.lookup_cons]at h
   split at h
   ·rename_i he
    exact⟨x,by simp,by simpa using h,by simpa using(by simpa using he:k=x.1).symm⟩
   obtain⟨y,hy,he⟩:=ih k s h;exact⟨y,by simp[hy],he⟩
 have hlT:l.length=T:=by rw[<-hl,List.length_take];omega
 have hrT:r.length=L.length - T:=by rw[<-hr,List.length_drop]
 refine wp_region_any hm ?_;have hu:zd (Array.replicate L.toArray.size false) T=List.range T:=by
  unfold zd;refine List.filter_eq_self.2 fun i hi=>?_
  have:i<T:=by simpa using hi
  simp[show i<L.length by omega]
 have h':=Qy (ops:=L.toArray) l 0 _ a (fun j=>by
  rcases Nat.lt_or_ge j T with hj|hj
  ·left;rw[<-hl,List.getElem?_take_of_lt hj];simp
  right;omega) h.out
 rw[hlT,<-List.range_eq_range']at h';have hfin:=zcR (I:=I) (P:=P) (S:=fun k=>S.lookup k) (F:=fun _ _=>True) (ops:=L.toArray) (T:=T) (l:=r) (m:=L.length - T) (Q:=fun a w=>wpList P L.toArray Q r a w) (Q':=Q) hB (by simp;omega) hrT (fun j=>by rw[<-hr,List.getElem?_drop];simp) (fun k s hs=>by obtain⟨x,hx,rfl,_⟩:=hlook S k s hs;exact hS x hx) (fun i k hik hi hk=>by
   obtain⟨si,hsi⟩:=Option.ne_none_iff_exists'.1 hi;obtain⟨sk,hsk⟩:=Option.ne_none_iff_exists'.1 hk;obtain⟨x,hx,_,rfl⟩:=hlook S i si hsi;obtain⟨y,hy,_,rfl⟩:=hlook S k sk hsk;have h1:=List.all_eq_true.1 (List.all_eq_true.1 hch x.1 (List.mem_map.2 ⟨x,hx,rfl⟩)) y.1 (List.mem_map.2 ⟨y,hy,rfl⟩)
   simpa [hik]using h1) (fun _ _ h=>h)
  T (Array.replicate L.toArray.size false) a w.drew (by simp) (fun i hi hi'=>by simp at hi';simp[hi']) (by rw[hu];simp) (fun i j hj _=>by
   exfalso;rw[Array.getD_eq_getD_getElem?,Array.getElem?_replicate]at hj
   split at hj <;> simp at hj)
  hI (fun _=>trivial) (fun _ _ _ _ _=>trivial) (by rw[hu];exact h')
 have hsz:T+(L.length - T)=L.toArray.size:=by simp;omega
 rw[hsz]at hfin;exact hfin
variable{o:Oper} {rest:List Oper} {k:Nat} {F:Nat->World->Prop} {a:Act}
theorem qC (ht:zkl o=true) (hw:Region.wanted o (yielded ops a.tmps)=true) (hS:S k=none)
  (h:∀K:Act->Prop,(∀a,zeA I P ops S Q rest (k+1) F a->K a)->o.quiet P a (fun w'=>∃x:zj I,w'=x.world) K):zeA I P ops S Q (o :: rest) k F a:=by
 obtain⟨v,h1,h2⟩:=h _ fun _ h=>h
 constructor;unfold JY;rw[if_pos hw];simp only[hS];refine⟨v,fun w hg _=>?_,h2.out⟩
 have h3:=h1 w ⟨⟨w,hg⟩,rfl⟩;unfold Oper.quietAt at h3;have hne:=fun n w'=>@Qg P o ht a.eval w w' n
 generalize(execOp a.eval o).run P w=r at*
 cases r with
 | ok n w'=>
  cases n <;> simp only[Oper.quietUpon]at h3
  case value u=>rw[h3.1,h3.2]
  case skip=>obtain⟨_,he⟩:=hne _ _ rfl;cases he
  case enter f args=>obtain⟨_,he⟩:=hne _ _ rfl;cases he
 | halt x w'=>simp only[Oper.quietUpon]at h3
theorem ZG {s:Value->Prop} (hw:Region.wanted o (yielded ops a.tmps)=true) (hS:S k=some s) (p:Value->World->Prop) (hp:∀v w w',zc w w'->p v w->p v w')
  (h:∀w,I w->(∀m,anc ops 9 m k=true->F m w)->zK P o a w fun v w'=>I w'/\zc w w'/\s v/\p v w')
  (hn:∀v,s v->zeA I P ops S Q rest (k+1) (ZV F k (p v)) (a.put o.dst v)):zeA I P ops S Q (o :: rest) k F a:=by
 constructor;unfold JY;rw[if_pos hw];simp only[hS];exact⟨p,hp,h,fun v hv=>(hn v hv).out⟩
theorem za1 (h:∀w,I w->(∀i,F i w)->Q a w):zeA I P ops S Q [] k F a:=⟨h⟩
end
structure zj6 (base:Nat) (w:World) (V:MaV) (m:Ma):Prop where
 fs:zb QO base w (.slice V.f.a V.f.n V.f.c) m.fs
 sl:zb slE base w (.slice V.s.a V.s.n V.s.c) m.sl
 sb:zh base w (.slice V.sb.a V.sb.n V.sb.c) m.sb
 sq:zm base w (.slice V.sq.a V.sq.n V.sq.c) m.sq
 db:zh base w (.slice V.db.a V.db.n V.db.c) m.db
 dq:zm base w (.slice V.dq.a V.dq.n V.dq.c) m.dq
 fl:∃lo,qM lo w (.slice V.fl.a V.fl.n V.fl.c) m.fl/\base<=lo/\∀g,(Value.slice V.s.a V.s.n V.s.c).ownBlock=some g->g<lo
 ca:zb qX base w (.slice V.ca.a V.ca.n V.ca.c) m.ca
 sp:Z6 base w (.slice V.sp.a V.sp.n V.sp.c) m.sp
 ap:∀g,(Value.slice V.sb.a V.sb.n V.sb.c).ownBlock=some g->(Value.slice V.db.a V.db.n V.db.c).ownBlock≠some g
theorem qW.now0 {w:World} {v:Value} {fs:List Fl} (h:qW B0 B1 w v fs):qd w v fs:=by
 obtain⟨hc,xs,k1,k2,k3⟩:=h;exact⟨hc,xs,k1.now.s0,k2,fun i x f hx hf=>⟨(k3 i x f hx hf).1,(k3 i x f hx hf).2.now.s0⟩⟩
theorem zfG {base:Nat} {w:World} {v:Value} {l:List (List Int)} (h:zh base w v l):∀g,v.ownBlock=some g->base<=g/\g<w.heap.size:=h.1.lt
theorem ZC {w:World} {base size n g:Nat} {v:Value} (h:w.ownsRow base e size v n xs) (hg:w.grownBy w' (some g)) (hlt:g<base):w'.ownsRow base e size v n xs:=by
 refine⟨h.1,?_⟩
 rcases h.2 with h1|⟨b,cap,cur,rfl,h2,h3,h4⟩
 ·exact .inl h1
 exact .inr ⟨b,cap,cur,rfl,h2,by rw[hg.block b (aS.1 h3).1 (fun e=>by cases e;omega)];exact h3,h4⟩
theorem zb.low {α:Type} {E:Elt α} {base g:Nat} {w:World} {v:Value} {l:List α} (h:zb E base w v l) (hg:w.grownBy w' (some g)) (hlt:g<base):zb E base w' v l:=⟨ZC h.1 hg hlt,h.2⟩
theorem QE.low {lo g:Nat} {w:World} {x:SpV} {s:Sp} (h:QE lo hi w x s) (hg:w.grownBy w' (some g)) (hlt:g<lo):QE lo hi w' x s:=
 ⟨h.live,h.ar.low hg hlt,⟨h.tb.len,h.tb.tlen,fun i v y hv hy=>(h.tb.row i v y hv hy).low hg hlt,h.tb.two⟩,h.arh,h.tbh⟩
theorem zj6.below {base g:Nat} {w:World} (h:zj6 base w V m) (hg:w.grownBy w' (some g)) (hlt:g<base) (hb:base'<=base):zj6 base' w' V m:=by
 obtain⟨lo,⟨ys,f1,f2,f3,f4⟩,l1,l2⟩:=h.fl;obtain⟨xs,B,s1,s2,s3,s4,s5⟩:=h.sp;refine⟨(h.fs.low hg hlt).base hb,(h.sl.low hg hlt).base hb,⟨qL (ZC h.sb.1 hg hlt) hb,h.sb.2⟩,⟨qL (ZC h.sq.1 hg hlt) hb,h.sq.2⟩,⟨qL (ZC h.db.1 hg hlt) hb,h.db.2⟩,⟨qL (ZC h.dq.1 hg hlt) hb,h.dq.2⟩,⟨lo,⟨ys,f1.low hg (by omega),f2,fun i x f hx hf=>⟨(f3 i x f hx hf).1,(f3 i x f hx hf).2.low hg (by omega)⟩,f4⟩,by omega,l2⟩,(h.ca.low hg hlt).base hb,⟨xs,B,(s1.low hg hlt).base hb,s2,by omega,s4,fun i x s hx hs=>(s5 i x s hx hs).low hg ?_⟩,h.ap⟩
 have:=zc2 s4 (nZ i);omega
theorem zja (V:MaV) (m:Ma) (w:World) (hm:zD w V m):
  Calls prog 21 #[.agg #[.slice V.f.a V.f.n V.f.c,.int .i64 m.hand,.slice V.s.a V.s.n V.s.c,.slice V.sb.a V.sb.n V.sb.c,.slice V.sq.a V.sq.n V.sq.c,.slice V.db.a V.db.n V.db.c,.slice V.dq.a V.dq.n V.dq.c,.slice V.fl.a V.fl.n V.fl.c,.int .i64 m.cnt,.slice V.ca.a V.ca.n V.ca.c,.slice V.sp.a V.sp.n V.sp.c]] w fun e w'=>∃V':MaV,e= .returned (.agg #[.slice V'.f.a V'.f.n V'.f.c,.int .i64 m.hand,.slice V'.s.a V'.s.n V'.s.c,.slice V'.sb.a V'.sb.n V'.sb.c,.slice V'.sq.a V'.sq.n V'.sq.c,.slice V'.db.a V'.db.n V'.db.c,.slice V'.dq.a V'.dq.n V'.dq.c,.slice V'.fl.a V'.fl.n V'.fl.c,.int .i64 m.cnt,.slice V'.ca.a V'.ca.n V'.ca.c,.slice V'.sp.a V'.sp.n V'.sp.c])/\zj6 w.heap.size w' V' m/\zc w w':=by
 obtain⟨n1,n2,-⟩:=hm.ns;have HM:Hid (zD w V m):=hm;have HC1:Hid (∀W,zc w W->Calls prog 58 #[.agg #[.slice V.f.a V.f.n V.f.c,.int .i64 m.hand]] W fun e w'=>∃b,e= .returned (.agg #[b,.int .i64 m.hand])/\zb QO W.heap.size w' b m.fs/\zc W w'):=show∀W,_ from fun W hW=>by
  have h:=(hm.grew hW).fs;rw[n1]at h⊢;exact zco _ _ m.fs m.hand W h
 have HC2:Hid (∀W,zc w W->Calls prog 59 #[.slice V.s.a V.s.n V.s.c] W fun e w'=>∃v',e= .returned v'/\zb slE W.heap.size w' v' m.sl/\zc W w'):=dD<|fun W hW=>zgY _ m.sl W (hm.grew hW).sl
 have HC3:Hid (∀W,zc w W->Calls prog 60 #[.agg #[.slice V.sb.a V.sb.n V.sb.c,.slice V.sq.a V.sq.n V.sq.c]] W fun e w'=>∃d',e= .returned d'/\QF W.heap.size w' d' m.sb m.sq/\zc W w'):=dD<|fun W hW=>zbo _ m.sb m.sq W ⟨_,_,rfl,(hm.grew hW).sb,(hm.grew hW).sq⟩
 have HC4:Hid (∀W,zc w W->Calls prog 60 #[.agg #[.slice V.db.a V.db.n V.db.c,.slice V.dq.a V.dq.n V.dq.c]] W fun e w'=>∃d',e= .returned d'/\QF W.heap.size w' d' m.db m.dq/\zc W w'):=dD<|fun W hW=>zbo _ m.db m.dq W ⟨_,_,rfl,(hm.grew hW).db,(hm.grew hW).dq⟩
 have HC5:Hid (∀W,zc w W->Calls prog 61 #[.agg #[.slice V.fl.a V.fl.n V.fl.c,.int .i64 m.cnt]] W fun e w'=>∃b,e= .returned (.agg #[b,.int .i64 m.cnt])/\qM (W.heap.size+2) w' b m.fl/\zc W w'/\W.heap.size+2<=w'.heap.size):=dD<|fun W hW=>zbp _ m.fl m.cnt W (hm.grew hW).fl
 have HC6:Hid (∀W,zc w W->Calls prog 62 #[.slice V.ca.a V.ca.n V.ca.c] W fun e w'=>∃v',e= .returned v'/\zb qX W.heap.size w' v' m.ca/\zc W w'):=dD<|fun W hW=>zfo _ m.ca W (hm.grew hW).ca
 have HC7:Hid (∀W,zc w W->Calls prog 63 #[.slice V.sp.a V.sp.n V.sp.c] W fun e w'=>∃v',e= .returned v'/\Z6 W.heap.size w' v' m.sp/\zc W w'):=dD<|fun W hW=>zcY _ m.sp W (hm.grew hW).sp
 clear hm n1 n2;obtain⟨W0,hW0⟩:∃W0,(w.alloc (.cells #[.slice V.f.a V.f.n V.f.c,.int .i64 m.hand,.slice V.s.a V.s.n V.s.c,.slice V.sb.a V.sb.n V.sb.c,.slice V.sq.a V.sq.n V.sq.c,.slice V.db.a V.db.n V.db.c,.slice V.dq.a V.dq.n V.dq.c,.slice V.fl.a V.fl.n V.fl.c,.int .i64 m.cnt,.slice V.ca.a V.ca.n V.ca.c,.slice V.sp.a V.sp.n V.sp.c] 41)).alloc (.cells #[.slice none 0 0,.int .i64 0,.slice none 0 0,.slice none 0 0,.slice none 0 0,.slice none 0 0,.slice none 0 0,.slice none 0 0,.int .i64 0,.slice none 0 0,.slice none 0 0] 41)=W0:=⟨_,rfl⟩;have HG0:=gD2 hW0
 have X0:=x2a hW0
 have Y0:=x2b hW0
 have HS0:Hid (W0.heap.size=(w.heap.size+1+1)):=dD<|by rw[<-hW0];simp
 have HW0:Hid (_=W0):=hW0;clear hW0
 go_enter func21,ntmps21
 go_upto_region 1 with fail;rw[HW0.out];obtain⟨I,hI⟩:∃I:World->Prop,I=fun u=>zc W0 u:=⟨_,rfl⟩
 have HI:Hid (∀u,I u↔zc W0 u):=dD<|fun u=>by rw[hI]
 clear hI;have hI0:I W0.drew:=(HI.out _).2 (gW _)
 have hx0:=X0.out.h HI.out 0 rfl
 have hx1:=X0.out.h HI.out 1 rfl
 have hx2:=X0.out.h HI.out 2 rfl
 have hx3:=X0.out.h HI.out 3 rfl
 have hx4:=X0.out.h HI.out 4 rfl
 have hx5:=X0.out.h HI.out 5 rfl
 have hx6:=X0.out.h HI.out 6 rfl
 have hx7:=X0.out.h HI.out 7 rfl
 have hx8:=X0.out.h HI.out 8 rfl
 have hx9:=X0.out.h HI.out 9 rfl
 have hx10:=X0.out.h HI.out 10 rfl
 have hne:Nonempty (zj I):=⟨⟨_,hI0⟩⟩;have HSZ:Hid (∀u,I u->(w.heap.size+1+1)<=u.heap.size):=dD<|fun u hu=>by rw[<-HS0.out];exact bS ((HI.out _).1 hu)
 refine ZQ (I:=I) 22 [(2,fun v=>∃s:Sli,v= .agg #[.slice s.a s.n s.c,.int .i64 m.hand]),(5,fun v=>∃s:Sli,v= .slice s.a s.n s.c),(8,fun v=>∃b q:Sli,v= .agg #[.slice b.a b.n b.c,.slice q.a q.n q.c]),(11,fun v=>∃b q:Sli,v= .agg #[.slice b.a b.n b.c,.slice q.a q.n q.c]),(14,fun v=>∃s:Sli,v= .agg #[.slice s.a s.n s.c,.int .i64 m.cnt]),(17,fun v=>∃s:Sli,v= .slice s.a s.n s.c),(20,fun v=>∃s:Sli,v= .slice s.a s.n s.c)] hI0 qn (by kernel_rfl) rfl rfl (by decide) ?hS (by kernel_rfl) ?_
 case hS=>
  intro x hx;simp only[mC,nM,or_false]at hx
  rcases hx with rfl|rfl|rfl|rfl|rfl|rfl|rfl
  ·exact⟨_,zu,rfl⟩
  ·exact⟨_,zu,rfl⟩
  ·exact⟨_,zu,zu,rfl⟩
  ·exact⟨_,zu,zu,rfl⟩
  ·exact⟨_,zu,rfl⟩
  ·exact⟨_,zu,rfl⟩
  exact⟨_,zu,rfl⟩
 simp only[List.take,List.drop];iterate 2 (refine qC rfl rfl rfl (fun K hK=>?_);go_big_quiet_op;refine hK _ ?_;clear hK)
 refine ZG rfl rfl (fun v w'=>∃s:Sli,v= .agg #[.slice s.a s.n s.c,.int .i64 m.hand]/\zb QO (w.heap.size+1+1) w' (.slice s.a s.n s.c) m.fs) (fun v u u' hu h=>by obtain⟨s,h1,h2⟩:=h;exact⟨s,h1,h2.grew hu⟩) (fun w' hI' hF=>?_) (fun v1 hv=>?_)
 ·have hg':zc w w':=HG0.out.trans ((HI.out _).1 hI');have hsz:=HSZ.out w' hI';refine zK.call [.agg #[.slice V.f.a V.f.n V.f.c,.int .i64 m.hand]] rfl func58 rfl rfl rfl ?_;refine(HC1.out w' hg').mono ?_;rintro e w'' ⟨b,rfl,ow,hg2⟩;obtain⟨a2,c2,rfl⟩:=ow.form;exact⟨_,rfl,(HI.out _).2 (((HI.out _).1 hI').trans hg2),hg2,⟨⟨a2,_,c2⟩,rfl⟩,⟨a2,_,c2⟩,rfl,ow.base hsz⟩
 obtain⟨sf,rfl⟩:=hv;simp only[Act.put,sB,sS,sZ];iterate 2 (refine qC rfl rfl rfl (fun K hK=>?_);go_big_quiet_op;refine hK _ ?_;clear hK)
 refine ZG rfl rfl (fun v w'=>zb slE (w.heap.size+1+1) w' v m.sl) (fun v u u' hu h=>zb.grew h hu) (fun w' hI' hF=>?_) (fun v1 hv=>?_)
 ·have hg':zc w w':=HG0.out.trans ((HI.out _).1 hI');have hsz:=HSZ.out w' hI';refine zK.call [.slice V.s.a V.s.n V.s.c] rfl func59 rfl rfl rfl ?_;refine(HC2.out w' hg').mono ?_;rintro e w'' ⟨b,rfl,ow,hg2⟩;obtain⟨a2,c2,rfl⟩:=ow.form;exact⟨_,rfl,(HI.out _).2 (((HI.out _).1 hI').trans hg2),hg2,⟨⟨a2,_,c2⟩,rfl⟩,ow.base hsz⟩
 obtain⟨ss,rfl⟩:=hv;simp only[Act.put,sB,sS,sZ];iterate 2 (refine qC rfl rfl rfl (fun K hK=>?_);go_big_quiet_op;refine hK _ ?_;clear hK)
 refine ZG rfl rfl (fun v w'=>∃b q:Sli,v= .agg #[.slice b.a b.n b.c,.slice q.a q.n q.c]/\zh (w.heap.size+1+1) w' (.slice b.a b.n b.c) m.sb/\zm (w.heap.size+1+1) w' (.slice q.a q.n q.c) m.sq) (fun v u u' hu h=>by obtain⟨b,q,h1,h2,h3⟩:=h;exact⟨b,q,h1,h2.grew hu,h3.grew hu⟩) (fun w' hI' hF=>?_) (fun v1 hv=>?_)
 ·have hg':zc w w':=HG0.out.trans ((HI.out _).1 hI');have hsz:=HSZ.out w' hI';refine zK.call [.agg #[.slice V.sb.a V.sb.n V.sb.c,.slice V.sq.a V.sq.n V.sq.c]] rfl func60 rfl rfl rfl ?_;refine(HC3.out w' hg').mono ?_;rintro e w'' ⟨d,rfl,⟨b,q,rfl,ob,oq⟩,hg2⟩;obtain⟨a2,n2,c2,rfl⟩:=ob.slice;obtain⟨a3,n3,c3,rfl⟩:=oq.slice;exact⟨_,rfl,(HI.out _).2 (((HI.out _).1 hI').trans hg2),hg2,⟨⟨a2,n2,c2⟩,⟨a3,n3,c3⟩,rfl⟩,⟨a2,n2,c2⟩,⟨a3,n3,c3⟩,rfl,ob.base hsz,oq.base hsz⟩
 obtain⟨sb,sq,rfl⟩:=hv;simp only[Act.put,sB,sS,sZ];iterate 2 (refine qC rfl rfl rfl (fun K hK=>?_);go_big_quiet_op;refine hK _ ?_;clear hK)
 refine ZG rfl rfl (fun v w'=>∃b q:Sli,v= .agg #[.slice b.a b.n b.c,.slice q.a q.n q.c]/\zh (w.heap.size+1+1) w' (.slice b.a b.n b.c) m.db/\zm (w.heap.size+1+1) w' (.slice q.a q.n q.c) m.dq/\∀g,(Value.slice sb.a sb.n sb.c).ownBlock=some g->(Value.slice b.a b.n b.c).ownBlock≠some g) (fun v u u' hu h=>by obtain⟨b,q,h1,h2,h3,h4⟩:=h;exact⟨b,q,h1,h2.grew hu,h3.grew hu,h4⟩) (fun w' hI' hF=>?_) (fun v1 hv=>?_)
 ·have hg':zc w w':=HG0.out.trans ((HI.out _).1 hI');have hsz:=HSZ.out w' hI';refine zK.call [.agg #[.slice V.db.a V.db.n V.db.c,.slice V.dq.a V.dq.n V.dq.c]] rfl func60 rfl rfl rfl ?_;refine(HC4.out w' hg').mono ?_;rintro e w'' ⟨d,rfl,⟨b,q,rfl,ob,oq⟩,hg2⟩;obtain⟨a2,n2,c2,rfl⟩:=ob.slice;obtain⟨a3,n3,c3,rfl⟩:=oq.slice;obtain⟨b8,q8,e8,o8,_⟩:∃b q:Sli,(Value.agg #[.slice sb.a sb.n sb.c,.slice sq.a sq.n sq.c])= .agg #[.slice b.a b.n b.c,.slice q.a q.n q.c]/\zh (w.heap.size+1+1) w' (.slice b.a b.n b.c) m.sb/\zm (w.heap.size+1+1) w' (.slice q.a q.n q.c) m.sq:=hF 8 (by kernel_rfl)
  refine⟨_,rfl,(HI.out _).2 (((HI.out _).1 hI').trans hg2),hg2,⟨⟨a2,n2,c2⟩,⟨a3,n3,c3⟩,rfl⟩,⟨a2,n2,c2⟩,⟨a3,n3,c3⟩,rfl,ob.base hsz,oq.base hsz,fun g h1 h2=>?_⟩
  simp only[Value.agg.injEq,Array.mk.injEq,List.cons.injEq]at e8;rw[e8.1]at h1;have q1:=(zfG o8 g h1).2;have q2:=(zfG ob g h2).1;omega
 obtain⟨db,dq,rfl⟩:=hv;simp only[Act.put,sB,sS,sZ];iterate 2 (refine qC rfl rfl rfl (fun K hK=>?_);go_big_quiet_op;refine hK _ ?_;clear hK)
 refine ZG rfl rfl (fun v w'=>∃s:Sli,v= .agg #[.slice s.a s.n s.c,.int .i64 m.cnt]/\∃lo,qM lo w' (.slice s.a s.n s.c) m.fl/\(w.heap.size+1+1)<=lo/\∀g,(Value.slice ss.a ss.n ss.c).ownBlock=some g->g<lo) (fun v u u' hu h=>by obtain⟨s,h1,lo,h2,h3,h4⟩:=h;exact⟨s,h1,lo,h2.grew hu,h3,h4⟩) (fun w' hI' hF=>?_) (fun v1 hv=>?_)
 ·have hg':zc w w':=HG0.out.trans ((HI.out _).1 hI');have hsz:=HSZ.out w' hI';refine zK.call [.agg #[.slice V.fl.a V.fl.n V.fl.c,.int .i64 m.cnt]] rfl func61 rfl rfl rfl ?_;refine(HC5.out w' hg').mono ?_;rintro e w'' ⟨b,rfl,of,hg2,_⟩;have hof:=of;obtain⟨ys,oy,_⟩:=of;obtain⟨a2,c2,rfl⟩:=oy.form;have o5:zb slE (w.heap.size+1+1) w' (.slice ss.a ss.n ss.c) m.sl:=hF 5 (by kernel_rfl)
  exact⟨_,rfl,(HI.out _).2 (((HI.out _).1 hI').trans hg2),hg2,⟨⟨a2,_,c2⟩,rfl⟩,⟨a2,_,c2⟩,rfl,w'.heap.size+2,hof,by omega,fun g h1=>by have:=(o5.lt g h1).2;omega⟩
 obtain⟨sl,rfl⟩:=hv;simp only[Act.put,sB,sS,sZ];iterate 2 (refine qC rfl rfl rfl (fun K hK=>?_);go_big_quiet_op;refine hK _ ?_;clear hK)
 refine ZG rfl rfl (fun v w'=>zb qX (w.heap.size+1+1) w' v m.ca) (fun v u u' hu h=>zb.grew h hu) (fun w' hI' hF=>?_) (fun v1 hv=>?_)
 ·have hg':zc w w':=HG0.out.trans ((HI.out _).1 hI');have hsz:=HSZ.out w' hI';refine zK.call [.slice V.ca.a V.ca.n V.ca.c] rfl func62 rfl rfl rfl ?_;refine(HC6.out w' hg').mono ?_;rintro e w'' ⟨b,rfl,ow,hg2⟩;obtain⟨a2,c2,rfl⟩:=ow.form;exact⟨_,rfl,(HI.out _).2 (((HI.out _).1 hI').trans hg2),hg2,⟨⟨a2,_,c2⟩,rfl⟩,ow.base hsz⟩
 obtain⟨sc,rfl⟩:=hv;simp only[Act.put,sB,sS,sZ];iterate 2 (refine qC rfl rfl rfl (fun K hK=>?_);go_big_quiet_op;refine hK _ ?_;clear hK)
 refine ZG rfl rfl (fun v w'=>Z6 (w.heap.size+1+1) w' v m.sp) (fun v u u' hu h=>Z6.grew h hu) (fun w' hI' hF=>?_) (fun v1 hv=>?_)
 ·have hg':zc w w':=HG0.out.trans ((HI.out _).1 hI');have hsz:=HSZ.out w' hI';refine zK.call [.slice V.sp.a V.sp.n V.sp.c] rfl func63 rfl rfl rfl ?_;refine(HC7.out w' hg').mono ?_;rintro e w'' ⟨b,rfl,os,hg2⟩;have hos:=os;obtain⟨ys,B,oy,_⟩:=os;obtain⟨a2,c2,rfl⟩:=oy.form;exact⟨_,rfl,(HI.out _).2 (((HI.out _).1 hI').trans hg2),hg2,⟨⟨a2,_,c2⟩,rfl⟩,hos.base hsz⟩
 obtain⟨sp,rfl⟩:=hv;simp only[Act.put,sB,sS,sZ];iterate 1 (refine qC rfl rfl rfl (fun K hK=>?_);go_big_quiet_op;refine hK _ ?_;clear hK)
 refine za1 fun W3 hI3 hF=>?_
 have hg3:=(HI.out _).1 hI3;have F2:∃s:Sli,(Value.agg #[.slice sf.a sf.n sf.c,.int .i64 m.hand])= .agg #[.slice s.a s.n s.c,.int .i64 m.hand]/\zb QO (w.heap.size+1+1) W3 (.slice s.a s.n s.c) m.fs:=hF 2;have F5:zb slE (w.heap.size+1+1) W3 (.slice ss.a ss.n ss.c) m.sl:=hF 5;have F8:∃b q:Sli,(Value.agg #[.slice sb.a sb.n sb.c,.slice sq.a sq.n sq.c])= .agg #[.slice b.a b.n b.c,.slice q.a q.n q.c]/\zh (w.heap.size+1+1) W3 (.slice b.a b.n b.c) m.sb/\zm (w.heap.size+1+1) W3 (.slice q.a q.n q.c) m.sq:=hF 8;have F11:∃b q:Sli,(Value.agg #[.slice db.a db.n db.c,.slice dq.a dq.n dq.c])= .agg #[.slice b.a b.n b.c,.slice q.a q.n q.c]/\zh (w.heap.size+1+1) W3 (.slice b.a b.n b.c) m.db/\zm (w.heap.size+1+1) W3 (.slice q.a q.n q.c) m.dq/\∀g,(Value.slice sb.a sb.n sb.c).ownBlock=some g->(Value.slice b.a b.n b.c).ownBlock≠some g:=hF 11;have F14:∃s:Sli,(Value.agg #[.slice sl.a sl.n sl.c,.int .i64 m.cnt])= .agg #[.slice s.a s.n s.c,.int .i64 m.cnt]/\∃lo,qM lo W3 (.slice s.a s.n s.c) m.fl/\(w.heap.size+1+1)<=lo/\∀g,(Value.slice ss.a ss.n ss.c).ownBlock=some g->g<lo:=hF 14;have F17:zb qX (w.heap.size+1+1) W3 (.slice sc.a sc.n sc.c) m.ca:=hF 17;have F20:Z6 (w.heap.size+1+1) W3 (.slice sp.a sp.n sp.c) m.sp:=hF 20;have HOM:Hid (zj6 (w.heap.size+1+1) W3 ⟨sf,ss,sb,sq,db,dq,sl,sc,sp⟩ m):=dD<|by
  obtain⟨s2,e2,o2⟩:=F2;obtain⟨b8,q8,e8,o8,p8⟩:=F8;obtain⟨b11,q11,e11,o11,p11,a11⟩:=F11;obtain⟨s14,e14,lo,o14,l14,a14⟩:=F14;simp only[Value.agg.injEq,Array.mk.injEq,List.cons.injEq]at e2 e8 e11 e14;rw[<-e2.1]at o2;rw[<-e8.1]at o8;rw[<-e8.2.1]at p8;rw[<-e11.1]at o11 a11;rw[<-e11.2.1]at p11;rw[<-e14.1]at o14;exact⟨o2,F5,o8,p8,o11,p11,⟨lo,o14,l14,a14⟩,F17,F20,a11⟩
 have Y3:=dD (Y0.out.grew hg3);have HG3:=dD (HG0.out.trans hg3);clear hF hI3 hg3 hx0 hx1 hx2 hx3 hx4 hx5 hx6 hx7 hx8 hx9 hx10 hne hI0
 go_wp2_with (refine zX rfl 41 (.tmp 2) (.tmp 24) rfl (w.heap.size+1) rfl [.slice sf.a sf.n sf.c,.int .i64 m.hand,.slice ss.a ss.n ss.c,.slice sb.a sb.n sb.c,.slice sq.a sq.n sq.c,.slice db.a db.n db.c,.slice dq.a dq.n dq.c,.slice sl.a sl.n sl.c,.int .i64 m.cnt,.slice sc.a sc.n sc.c,.slice sp.a sp.n sp.c] rfl Y3.out rfl (by kernel_rfl) (fun v hv=>by
    simp only[mC,nM,or_false]at hv
    rcases hv with rfl|rfl|rfl|rfl|rfl|rfl|rfl|rfl|rfl|rfl|rfl <;> rfl) ?_)
 intro W4 hb4 hg4 sz4;have HG4:Hid (zc w W4):=dD<|ze HG3.out hg4 (by omega)
 have HO4:Hid (zj6 w.heap.size W4 ⟨sf,ss,sb,sq,db,dq,sl,sc,sp⟩ m):=dD<|HOM.out.below hg4 (by omega) (by omega)
 go_wp2;refine bodyPost_ret (zY rfl _ rfl hb4 underlying41 rfl (by kernel_rfl)) rfl ⟨⟨sf,ss,sb,sq,db,dq,sl,sc,sp⟩,rfl,HO4.out,HG4.out⟩
theorem zlZ:(Tryz.prog.info? 56).map (·.size)=some 192:=by kernel_rfl
def jc (l:List En):List Value:=l.flatMap env
theorem zav (l:List En):(jc l).length=l.length*3:=qD l (fun _ _=>rfl)
theorem zg4 (l:List En):∀v∈jc l,v.oneCell'=true:=qV enE.one l
theorem zet {l:List En} {e:En} (h:l[j]? =some e):(jc l)[j*3]? =some (.int .i64 e.kind)/\(jc l)[j*3+1]? =some (.int .i64 e.n)/\(jc l)[j*3+2]? =some (.bool e.wr):=
 ⟨qA (enc:=env) (k:=3) l j e (fun _ _=>rfl) h 0 _ rfl,qA (enc:=env) (k:=3) l j e (fun _ _=>rfl) h 1 _ rfl,qA (enc:=env) (k:=3) l j e (fun _ _=>rfl) h 2 _ rfl⟩
theorem zgo {w:World} {l:List En} (i:Nat) (hi:i<64) {e:En} (he:l[i]? =some e):(Instr.index 56 (.agg (jc l).toArray) (.int .i64 (i:Int))).run prog w= .ok (.agg #[.int .i64 e.kind,.int .i64 e.n,.bool e.wr]) w:=by
 have ha:(isAgg 55).run prog w= .ok true w:=by
  unfold isAgg;rw[Sem.run_bind,run_underlying underlying55 w];rfl
 have hs:(Go.sizeOf 55).run prog w= .ok 3 w:=by
  obtain⟨i0,h1,h2⟩:∃i0,Tryz.prog.info? 55=some i0/\i0.size=3:=by
   have:(Tryz.prog.info? 55).map (·.size)=some 3:=by kernel_rfl
   cases hq:Tryz.prog.info? 55 with
   | none=>rw[hq]at this;cases this
   | some i0=>rw[hq]at this;exact⟨i0,rfl,by simpa using this⟩
  simp[Go.sizeOf,typeInfo,h1,h2]
 have hlt:(0:Int)<=(i:Int)/\(i:Int)< ((64:Nat):Int):=by omega
 obtain⟨c0,c1,c2⟩:=zet he;have hx:(jc l).toArray.extract (i*3) (i*3+3)=#[.int .i64 e.kind,.int .i64 e.n,.bool e.wr]:=by
  apply Array.ext_getElem?
  intro j;rw[Array.getElem?_extract];have hlen:i*3+3<=(jc l).toArray.size:=by
   have:=(gS.1 c2).1;simp;omega
  by_cases hj:j<3
  ·rw[if_pos (by omega)]
   obtain rfl|rfl|rfl:j=0\/j=1\/j=2:=by omega
   ·simpa using c0
   ·simpa using c1
   simpa using c2
  rw[if_neg (by omega)]
  simp;omega
 simp only[Instr.index,asIntOf,Sem.run_bind,Sem.run_pure,rA,run_underlying underlying56];rw[if_pos hlt];simp only[Sem.run_bind,hs,rA,part,ha,if_true,tN,Sem.run_pure,hx]
theorem zhu {rest:List Oper} {a:Act} {w:World} (hgd:o.guard=none) (x ix:Operand) (ho:o.op= .index 56 x ix) (l:List En) (hx:a.eval x= .agg (jc l).toArray) (i:Nat) (hix:a.eval ix= .int .i64 (i:Int)) (hi:i<64) {e:En} (he:l[i]? =some e)
  (h:wpList prog ops Q rest (a.put o.dst (.agg #[.int .i64 e.kind,.int .i64 e.n,.bool e.wr])) w):wpList prog ops Q (o :: rest) a w:=by
 refine wpList_plain hgd fun K hK=>?_
 unfold Oper.wp execOp;simp only[ho,hx,hix,Sem.run_bind,Sem.run_pure,rA,zgo i hi he];exact hK _ _ h
theorem zl0:(Tryz.prog.info? 5).map (fun i=>(i.zero,i.size,i.bytes))=some (some (.int .u8 0),1,1):=by kernel_rfl
def byE:Elt Int where
 enc:=fun z=>[.int .u8 z]
 k:=1
 ty:=5
 st:=24
 bytes:=1
 zv:= .int .u8 0
 zero:=0
 len:=fun _=>rfl
 one:=fun a u hu=>by
  simp only[mC,nM,or_false]at hu;rw[hu];rfl
 und:=underlying24
 info:=zl0
 zok:=rfl
 few:=by decide
 pos:=by decide
theorem zl1:(Tryz.prog.info? 56).map (fun i=>(i.zero,i.size,i.bytes))=some (some (.agg (jc (tab fun _=>en0)).toArray),192,1536):=by kernel_rfl
def Qo:Elt (Nat->En) where
 enc:=fun f=>jc (tab f)
 k:=192
 ty:=56
 st:=93
 bytes:=1536
 zv:= .agg (jc (tab fun _=>en0)).toArray
 zero:=fun _=>en0
 len:=fun f=>by rw[zav,Qb]
 one:=fun f=>zg4 _
 und:=underlying93
 info:=zl1
 zok:=rfl
 few:=by decide
 pos:=by decide
def qF (fs:List Fr):Prop:=∀f∈fs,f.f=-1->f.d=false
theorem qF.set {fs:List Fr} (h:qF fs) {x:Fr} (hx:x.f=-1->x.d=false) (k:Nat):qF (fs.set k x):=fun f hf=>by
 rcases List.mem_or_eq_of_mem_set hf with e|e
 ·exact h f e
 rw[e];exact hx
structure MkR (base hi:Nat) (w:World) (V:MaV) (m:Ma) (vt:Sli) (T:List (Nat->En)):Prop where
 hw:hi<=w.heap.size
 bh:base<=hi
 fs:zb QO base w (.slice V.f.a V.f.n V.f.c) m.fs
 sl:zb slE base w (.slice V.s.a V.s.n V.s.c) m.sl
 slh:∀g,(Value.slice V.s.a V.s.n V.s.c).ownBlock=some g->g<hi
 sb:zh base w (.slice V.sb.a V.sb.n V.sb.c) m.sb
 sbh:∀g,(Value.slice V.sb.a V.sb.n V.sb.c).ownBlock=some g->g<hi
 sq:V.sq=zu/\m.sq=[]
 db:zh base w (.slice V.db.a V.db.n V.db.c) m.db
 dbh:∀g,(Value.slice V.db.a V.db.n V.db.c).ownBlock=some g->g<hi
 dq:zm base w (.slice V.dq.a V.dq.n V.dq.c) m.dq
 fl:∃xs:List FlV,zb fvE base w (.slice V.fl.a V.fl.n V.fl.c) xs/\xs.length=m.fl.length/\∀(i:Nat) x f,xs[i]? =some x->m.fl[i]? =some f->x.size=f.size/\zb blE hi w x.v f.bl
 ca:zb qX base w (.slice V.ca.a V.ca.n V.ca.c) m.ca
 sp:∃xs:List SpV,zb Zx base w (.slice V.sp.a V.sp.n V.sp.c) xs/\xs.length=m.sp.length/\∀(i:Nat) x s,xs[i]? =some x->m.sp[i]? =some s->x.live=s.live/\zb arE base w x.ar.v s.ars/\x.tab=zao/\s.tb=qN
 tt:zb Qo base w (.slice vt.a vt.n vt.c) T
 ap:(∀g,(Value.slice V.sb.a V.sb.n V.sb.c).ownBlock=some g->(Value.slice V.db.a V.db.n V.db.c).ownBlock≠some g)/\qF m.fs
section
variable{base hi:Nat} {w w':World} {V:MaV} {m:Ma} {vt:Sli} {T:List (Nat->En)}
theorem MkR.grew (h:MkR base hi w V m vt T) (k:zc w w'):MkR base hi w' V m vt T:=by
 obtain⟨xs,f1,f2,f3⟩:=h.fl;obtain⟨ys,s1,s2,s3⟩:=h.sp;exact⟨nT h.hw (bS k),h.bh,h.fs.grew k,h.sl.grew k,h.slh,h.sb.grew k,h.sbh,h.sq,h.db.grew k,h.dbh,h.dq.grew k,⟨xs,f1.grew k,f2,fun i x f hx hf=>⟨(f3 i x f hx hf).1,(f3 i x f hx hf).2.grew k⟩⟩,h.ca.grew k,⟨ys,s1.grew k,s2,fun i x s hx hs=>⟨(s3 i x s hx hs).1,(s3 i x s hx hs).2.1.grew k,(s3 i x s hx hs).2.2⟩⟩,h.tt.grew k,h.ap⟩
theorem zb.kind {α:Type} {E:Elt α} {g:Nat} {v:Value} {l:List α} {cs:Array Value} (h:zb E b w v l) (hg:w.grownBy w' (some g)) (ho:w.heap[g]? =some (.cells cs t (0,0))) (ht:t≠E.ty):zb E b w' v l:=h.grown hg fun k hk e=>by
 cases e;obtain⟨ds,h3⟩:=h.obj hk;rw[ho]at h3;cases h3;exact ht rfl
theorem Qi {size n g:Nat} {v:Value} (h:w.ownsRow b e size v n xs) (hg:w.grownBy w' (some g)) (hne:v.ownBlock≠some g):w'.ownsRow b e size v n xs:=by
 refine⟨h.1,?_⟩
 rcases h.2 with h1|⟨k,cap,cur,rfl,h2,h3,h4⟩
 ·exact .inl h1
 exact .inr ⟨k,cap,cur,rfl,h2,by rw[hg.block k (aS.1 h3).1 (fun e=>by cases e;exact hne rfl)];exact h3,h4⟩
theorem qw {size n g:Nat} {cs:Array Value} {v:Value} (h:w.ownsRow b e size v n xs) (hg:w.grownBy w' (some g)) (ho:w.heap[g]? =some (.cells cs t (0,0))) (ht:t≠e):w'.ownsRow b e size v n xs:=by
 refine Qi h hg fun hv=>?_
 rcases h.2 with⟨rfl,_⟩|⟨k,cap,cur,rfl,h2,h3,h4⟩
 ·cases hv
 simp only[Value.ownBlock,Option.some.injEq]at hv;subst hv;rw[ho]at h3;cases h3;exact ht rfl
theorem MkR.kept (h:MkR base hi w V m vt T) {g:Nat} {cs:Array Value} (hg:w.grownBy w' (some g)) (ho:w.heap[g]? =some (.cells cs t (0,0))):
  (t≠53->zb QO base w' (.slice V.f.a V.f.n V.f.c) m.fs)/\(t≠3\/hi<=g->zb slE base w' (.slice V.s.a V.s.n V.s.c) m.sl)/\
  (t≠44\/hi<=g\/(Value.slice V.sb.a V.sb.n V.sb.c).ownBlock≠some g->zh base w' (.slice V.sb.a V.sb.n V.sb.c) m.sb)/\(t≠44\/hi<=g\/(Value.slice V.db.a V.db.n V.db.c).ownBlock≠some g->zh base w' (.slice V.db.a V.db.n V.db.c) m.db)/\
  (t≠100->zm base w' (.slice V.dq.a V.dq.n V.dq.c) m.dq)/\
  (t≠84->(t≠3\/g<hi)->∃xs:List FlV,zb fvE base w' (.slice V.fl.a V.fl.n V.fl.c) xs/\xs.length=m.fl.length/\∀(i:Nat) x f,xs[i]? =some x->m.fl[i]? =some f->x.size=f.size/\zb blE hi w' x.v f.bl)/\
  (t≠120->zb qX base w' (.slice V.ca.a V.ca.n V.ca.c) m.ca)/\
  (t≠63->t≠91->∃xs:List SpV,zb Zx base w' (.slice V.sp.a V.sp.n V.sp.c) xs/\xs.length=m.sp.length/\∀(i:Nat) x s,xs[i]? =some x->m.sp[i]? =some s->x.live=s.live/\zb arE base w' x.ar.v s.ars/\x.tab=zao/\s.tb=qN)/\
  (t≠56->zb Qo base w' (.slice vt.a vt.n vt.c) T):=by
 obtain⟨xs,f1,f2,f3⟩:=h.fl;obtain⟨ys,s1,s2,s3⟩:=h.sp;refine⟨fun ht=>h.fs.kind hg ho ht,fun ht=>?_,fun ht=>?_,fun ht=>?_,fun ht=>⟨qw h.dq.1 hg ho ht,h.dq.2⟩,fun ht ht2=>⟨xs,f1.kind hg ho ht,f2,fun i x f hx hf=>⟨(f3 i x f hx hf).1,?_⟩⟩,fun ht=>h.ca.kind hg ho ht,fun ht ht2=>⟨ys,s1.kind hg ho ht,s2,fun i x s hx hs=>⟨(s3 i x s hx hs).1,(s3 i x s hx hs).2.1.kind hg ho ht2,(s3 i x s hx hs).2.2⟩⟩,fun ht=>h.tt.kind hg ho ht⟩
 ·rcases ht with ht|ht
  ·exact h.sl.kind hg ho ht
  exact h.sl.grown hg fun k hk e=>by cases e;have:=h.slh _ hk;omega
 ·rcases ht with ht|ht|ht
  ·exact⟨qw h.sb.1 hg ho ht,h.sb.2⟩
  ·exact⟨Qi h.sb.1 hg fun e=>by have:=h.sbh _ e;omega,h.sb.2⟩
  exact⟨Qi h.sb.1 hg ht,h.sb.2⟩
 ·rcases ht with ht|ht|ht
  ·exact⟨qw h.db.1 hg ho ht,h.db.2⟩
  ·exact⟨Qi h.db.1 hg fun e=>by have:=h.dbh _ e;omega,h.db.2⟩
  exact⟨Qi h.db.1 hg ht,h.db.2⟩
 rcases ht2 with ht2|ht2
 ·exact(f3 i x f hx hf).2.kind hg ho ht2
 exact(f3 i x f hx hf).2.grown hg fun k hk e=>by cases e;have:=((f3 i x f hx hf).2.lt _ hk).1;omega
theorem MkR.var (h:MkR base hi w V m vt T) {g:Nat} {cs:Array Value} (hg:w.grownBy w' (some g)) (ho:w.heap[g]? =some (.cells cs t (0,0))) (hs:w.heap.size<=w'.heap.size) (h1:t=95\/(t=44/\hi<=g)):MkR base hi w' V m vt T:=by
 obtain⟨k1,k2,k3,k4,k5,k6,k7,k8,k9⟩:=h.kept hg ho
 rcases h1 with rfl|⟨rfl,h1⟩
 ·exact⟨nT h.hw hs,h.bh,k1 (by decide),k2 (.inl (by decide)),h.slh,k3 (.inl (by decide)),h.sbh,h.sq,k4 (.inl (by decide)),h.dbh,k5 (by decide),k6 (by decide) (.inl (by decide)),k7 (by decide),k8 (by decide) (by decide),k9 (by decide),h.ap⟩
 exact⟨nT h.hw hs,h.bh,k1 (by decide),k2 (.inl (by decide)),h.slh,k3 (.inr (.inl h1)),h.sbh,h.sq,k4 (.inr (.inl h1)),h.dbh,k5 (by decide),k6 (by decide) (.inl (by decide)),k7 (by decide),k8 (by decide) (by decide),k9 (by decide),h.ap⟩
theorem MkR.setF (h:MkR base hi w V m vt T) {g:Nat} (hv:(Value.slice V.f.a V.f.n V.f.c).ownBlock=some g) (hg:w.grownBy w' (some g)) (hs:w'.heap.size=w.heap.size) {fs:List Fr} (ho:zb QO base w' (.slice V.f.a V.f.n V.f.c) fs) (hcl:qF fs):MkR base hi w' V { m with fs:=fs } vt T:=by
 obtain⟨cs,hc⟩:=h.fs.obj hv;obtain⟨k1,k2,k3,k4,k5,k6,k7,k8,k9⟩:=h.kept hg hc;exact⟨by rw[hs];exact h.hw,h.bh,ho,k2 (.inl (by decide)),h.slh,k3 (.inl (by decide)),h.sbh,h.sq,k4 (.inl (by decide)),h.dbh,k5 (by decide),k6 (by decide) (.inl (by decide)),k7 (by decide),k8 (by decide) (by decide),k9 (by decide),⟨h.ap.1,hcl⟩⟩
theorem MkR.setS (h:MkR base hi w V m vt T) {g:Nat} (hv:(Value.slice V.s.a V.s.n V.s.c).ownBlock=some g) (hg:w.grownBy w' (some g)) (hs:w'.heap.size=w.heap.size) {ls:List Int} (ho:zb slE base w' (.slice V.s.a V.s.n V.s.c) ls):MkR base hi w' V { m with sl:=ls } vt T:=by
 obtain⟨cs,hc⟩:=h.sl.obj hv;obtain⟨k1,k2,k3,k4,k5,k6,k7,k8,k9⟩:=h.kept hg hc;exact⟨by rw[hs];exact h.hw,h.bh,k1 (by decide),ho,h.slh,k3 (.inl (by decide)),h.sbh,h.sq,k4 (.inl (by decide)),h.dbh,k5 (by decide),k6 (by decide) (.inr (h.slh g hv)),k7 (by decide),k8 (by decide) (by decide),k9 (by decide),h.ap⟩
theorem MkR.setSb (h:MkR base hi w V m vt T) {g:Nat} {cs:Array Value} (hc:w.heap[g]? =some (.cells cs 44 (0,0))) (hv:(Value.slice V.sb.a V.sb.n V.sb.c).ownBlock=some g) (hg:w.grownBy w' (some g)) (hs:w'.heap.size=w.heap.size) {ls:List (List Int)} (ho:zh base w' (.slice V.sb.a V.sb.n V.sb.c) ls):MkR base hi w' V { m with sb:=ls } vt T:=by
 obtain⟨k1,k2,k3,k4,k5,k6,k7,k8,k9⟩:=h.kept hg hc;exact⟨by rw[hs];exact h.hw,h.bh,k1 (by decide),k2 (.inl (by decide)),h.slh,ho,h.sbh,h.sq,k4 (.inr (.inr (h.ap.1 g hv))),h.dbh,k5 (by decide),k6 (by decide) (.inl (by decide)),k7 (by decide),k8 (by decide) (by decide),k9 (by decide),h.ap⟩
theorem MkR.setDb (h:MkR base hi w V m vt T) {g:Nat} {cs:Array Value} (hc:w.heap[g]? =some (.cells cs 44 (0,0))) (hv:(Value.slice V.db.a V.db.n V.db.c).ownBlock=some g) (hg:w.grownBy w' (some g)) (hs:w'.heap.size=w.heap.size) {ls:List (List Int)} (ho:zh base w' (.slice V.db.a V.db.n V.db.c) ls):MkR base hi w' V { m with db:=ls } vt T:=by
 obtain⟨k1,k2,k3,k4,k5,k6,k7,k8,k9⟩:=h.kept hg hc;exact⟨by rw[hs];exact h.hw,h.bh,k1 (by decide),k2 (.inl (by decide)),h.slh,k3 (.inr (.inr (fun e=>h.ap.1 g e hv))),h.sbh,h.sq,ho,h.dbh,k5 (by decide),k6 (by decide) (.inl (by decide)),k7 (by decide),k8 (by decide) (by decide),k9 (by decide),h.ap⟩
theorem MkR.setT (h:MkR base hi w V m vt T) {g:Nat} (hv:(Value.slice vt.a vt.n vt.c).ownBlock=some g) (hg:w.grownBy w' (some g)) (hs:w'.heap.size=w.heap.size) {T':List (Nat->En)} (ho:zb Qo base w' (.slice vt.a vt.n vt.c) T'):MkR base hi w' V m vt T':=by
 obtain⟨cs,hc⟩:=h.tt.obj hv;obtain⟨k1,k2,k3,k4,k5,k6,k7,k8,k9⟩:=h.kept hg hc;exact⟨by rw[hs];exact h.hw,h.bh,k1 (by decide),k2 (.inl (by decide)),h.slh,k3 (.inl (by decide)),h.sbh,h.sq,k4 (.inl (by decide)),h.dbh,k5 (by decide),k6 (by decide) (.inl (by decide)),k7 (by decide),k8 (by decide) (by decide),ho,h.ap⟩
end
structure Mk (w0:World) (hi:Nat) (w:World) (b:Nat) (vl:Sli) (L:List Int) (V:MaV) (m:Ma) (vt:Sli) (T:List (Nat->En)):Prop where
 gr:zc w0 w
 hb:w0.heap.size<=b
 box:zp w b 95 [.slice vl.a vl.n vl.c,.slice V.f.a V.f.n V.f.c,.int .i64 m.hand,.slice V.s.a V.s.n V.s.c,.slice V.sb.a V.sb.n V.sb.c,.slice V.sq.a V.sq.n V.sq.c,.slice V.db.a V.db.n V.db.c,.slice V.dq.a V.dq.n V.dq.c,.slice V.fl.a V.fl.n V.fl.c,.int .i64 m.cnt,.slice V.ca.a V.ca.n V.ca.c,.slice V.sp.a V.sp.n V.sp.c,.slice vt.a vt.n vt.c]
 lr:zr byE w0 (.slice vl.a vl.n vl.c) L
 lc:vl.n<=vl.c
 lb:∀z∈L,0<=z/\z<256
 rows:MkR w0.heap.size hi w V m vt T
theorem Mk.grew {w:World} (h:Mk w0 hi w b vl L V m vt T) (k:zc w w'):Mk w0 hi w' b vl L V m vt T:=⟨h.gr.trans k,h.hb,h.box.grew k,h.lr,h.lc,h.lb,h.rows.grew k⟩
theorem MkR.at {base:Nat} {w:World} (h:MkR base hi w V m vt T):zD w V m:=by
 obtain⟨xs,f1,f2,f3⟩:=h.fl;obtain⟨ys,s1,s2,s3⟩:=h.sp;obtain⟨q1,q2⟩:=h.sq;refine⟨h.fs.at,h.sl.at,h.sb.at,?_,h.db.at,h.dq.at,⟨f1.cap,xs,f1.at.s0,f2,fun i x f hx hf=>⟨(f3 i x f hx hf).1,(f3 i x f hx hf).2.at.s0⟩⟩,h.ca.at,⟨ys,s1.at,s2,fun i x s hx hs=>?_⟩⟩
 ·rw[q1,q2];exact⟨⟨none,0,rfl,fun _=>rfl,fun x hx=>by cases hx⟩,by simp,by simp⟩
 obtain⟨a1,a2,a3,a4⟩:=s3 i x s hx hs;exact⟨a1,a2.at,a2.cap,by rw[a3,a4];exact Js.nil 0 0 w⟩
theorem zfU:∀{fs:List Fr},zcc fs=0->∀q∈fs,frW q=0
 | [],_,_,hq=>by cases hq
 | a :: l,h,q,hq=>by
  unfold zcc at h
  by_cases h0:frW a=0
  ·rw[if_pos h0]at h
   rcases mC.1 hq with rfl|h1
   ·exact h0
   exact zfU h q h1
  rw[if_neg h0]at h;exact absurd h h0
theorem zdV {fs:List Fr} {h:Int} (hz:Qn fs h=0):fs.length<=40/\(∀q∈fs,frW q=0)/\0<=h/\h<max (fs.length:Int) 1:=by
 unfold Qn at hz
 by_cases h1:40<fs.length
 ·rw[if_pos h1]at hz;omega
 rw[if_neg h1]at hz
 by_cases h2:zcc fs=0
 ·rw[if_pos h2]at hz
  cases hb:inB h (max fs.length 1)with
  | false=>rw[hb]at hz;simp at hz
  | true=>
   unfold inB at hb
   simp at hb
   exact⟨by omega,zfU h2,by omega,by omega⟩
 rw[if_neg h2]at hz;exact absurd hz h2
theorem zi.frc {base:Nat} {w:World} {g n c:Nat} {fs:List Fr} (h:zi base w (.slice (some ⟨g,0,none⟩) n c) fs) {q:Fr} (hq:fs[i]? =some q) (j:Nat) {u:Value} (hu:(frv q)[j]? =some u):w.cell? ⟨g,i*13+j,none⟩=some u:=by
 obtain⟨a',c',he,hr⟩:=h.at.rows;obtain⟨ad,he2,hc⟩:=hr i q hq;cases he;cases he2;have:=hc w (zc.refl _) j u hu;rw[zR,Addr.add_lit,zA]at this;exact this
def chL (V:MaV) (m:Ma):List Value:=[.slice V.f.a V.f.n V.f.c,.int .i64 m.hand,.slice V.s.a V.s.n V.s.c,.slice V.sb.a V.sb.n V.sb.c,.slice V.sq.a V.sq.n V.sq.c,.slice V.db.a V.db.n V.db.c,.slice V.dq.a V.dq.n V.dq.c,.slice V.fl.a V.fl.n V.fl.c,.int .i64 m.cnt,.slice V.ca.a V.ca.n V.ca.c,.slice V.sp.a V.sp.n V.sp.c]
theorem jv.grown {D:Nat->Prop} {w:World} (hg:w.grownBy w' (some b)) (h:D b):jv D w w':=
 ⟨hg.os,hg.tape,hg.output,hg.size,fun k hk hb=>hg.block k hk (fun e=>by cases e;exact hb h)⟩
theorem zp.outD {D:Nat->Prop} {w:World} {cs:List Value} (h:zp w b t cs) (k:jv D w w') (hn:¬D b):zp w' b t cs:=(k.block b h.box.lt hn).trans h
theorem zaZ {P:Program} {a:Act} {w:World} (x:Operand) (p:Addr) (ho:o.op= .nilCheck x) (hx:a.eval x= .pointer (some p)):(execOp a.eval o).run P w= .ok (.value (.pointer (some p))) w:=by
 simp[execOp,ho,hx]
section
variable{I:World->Prop} {P:Program} {ops:Array Oper} {o:Oper} {rest:List Oper} {k:Nat} {F:Nat->World->Prop} {a:Act} {Q:Act->World->Prop}
theorem zbv {S:Nat->Option (Value->Prop)} (x:Operand) (p:Addr) (ho:o.op= .nilCheck x) (hx:a.eval x= .pointer (some p)) (hw:Region.wanted o (yielded ops a.tmps)=true) (hS:S k=none) (h:zeA I P ops S Q rest (k+1) F (a.put o.dst (.pointer (some p)))):zeA I P ops S Q (o :: rest) k F a:=by
 constructor;unfold JY;rw[if_pos hw];simp only[hS];exact⟨_,fun w _ _=>zaZ x p ho hx,h.out⟩
theorem jz {S:Nat->Option zcf} (x:Operand) (p:Addr) (ho:o.op= .nilCheck x) (hx:a.eval x= .pointer (some p)) (hw:Region.wanted o (yielded ops a.tmps)=true) (hS:S k=none) (h:zbU I P ops S Q rest (k+1) F (a.put o.dst (.pointer (some p)))):zbU I P ops S Q (o :: rest) k F a:=by
 constructor;unfold Ju;rw[if_pos hw];simp only[hS];exact⟨_,fun w _ _=>zaZ x p ho hx,h.out⟩
end
section
variable(I:World->Prop) (P:Program) (ops:Array Oper) (S:Nat->Option (Value->Prop))
def jG (i:Nat) (F:World->Prop) (a:Act) (K:(World->Prop)->Act->Prop):Prop:=
 match ops[i]? with
 | none=>False
 | some o=>
  if Region.wanted o (yielded ops a.tmps)then
   match S i with
   | none=>∃v,(∀w,I w->(execOp a.eval o).run P w= .ok (.value v) w)/\K F (a.put o.dst v)
   | some s=>∃p:Value->World->Prop,(∀w,I w->F w->zK P o a w fun v w'=>I w'/\s v/\p v w')/\∀v,s v->K (p v) (a.put o.dst v)
  else K F (a.put o.dst undef)
def ziS (Q:Act->World->Prop):List Nat->(World->Prop)->Act->Prop
 | [],F,a=>∀w,I w->F w->Q a w
 | i :: l,F,a=>jG I P ops S i F a (ziS Q l)
end
section
variable{I:World->Prop} {P:Program} {ops:Array Oper} {S:Nat->Option (Value->Prop)} {T:Nat}
theorem jG.mono {F:World->Prop} {a:Act} {K K':(World->Prop)->Act->Prop}
  (h:∀F' a',K F' a'->K' F' a') (hc:jG I P ops S i F a K):jG I P ops S i F a K':=by
 unfold jG at*
 split
 ·rename_i ho;simp only[ho]at hc
 rename_i o ho
 simp only[ho]at hc
 split
 ·rename_i hw
  simp only[hw,if_true]at hc
  split
  ·rename_i hs
   simp only[hs]at hc;obtain⟨v,h1,h2⟩:=hc;exact⟨v,h1,h _ _ h2⟩
  rename_i s hs
  simp only[hs]at hc;obtain⟨p,hd,hc⟩:=hc;exact⟨p,hd,fun v hv=>h _ _ (hc v hv)⟩
 rename_i hw
 simp only[hw]at hc;exact h _ _ hc
theorem jG.swap {F:World->Prop} {a:Act} {K:(World->Prop)->Act->Prop} {w:World}
  (hi:ops[i]? =some oi) (hj:ops[j]? =some oj) (hap:oi.apart ops oj=true)
  (hsi:∀cs b,oi.op≠.select cs b) (hsj:∀cs b,oj.op≠.select cs b)
  (hij:anc ops 9 i j=false) (hji:anc ops 9 j i=false) (hS:∀s,S i=some s->∃v,s v) (hch:S i≠none->S j≠none->anc ops 9 i j=true\/anc ops 9 j i=true)
  (hw0:I w)
  (h:jG I P ops S i F a fun F' a'=>jG I P ops S j F' a' K):jG I P ops S j F a fun F' a'=>jG I P ops S i F' a' K:=by
 obtain⟨h1,h2,h3⟩:=Oper.apart_spec hap;have ei:∀v,execOp (a.put oj.dst v).eval oi=execOp a.eval oi:=fun v=>execOp_put oi hsi a oj.dst v h3
 have ej:∀v,execOp (a.put oi.dst v).eval oj=execOp a.eval oj:=fun v=>execOp_put oj hsj a oi.dst v h1
 have wi:∀v,Region.wanted oi (yielded ops (a.put oj.dst v).tmps)=Region.wanted oi (yielded ops a.tmps):=fun v=>wanted_put oi a oj.dst v h3
 have wj:∀v,Region.wanted oj (yielded ops (a.put oi.dst v).tmps)=Region.wanted oj (yielded ops a.tmps):=fun v=>wanted_put oj a oi.dst v h1
 have di:∀v w K,zK P oi (a.put oj.dst v) w K=zK P oi a w K:=fun v w K=>by unfold zK;rw[ei]
 have dj:∀v w K,zK P oj (a.put oi.dst v) w K=zK P oj a w K:=fun v w K=>by unfold zK;rw[ej]
 have pc:∀v u,(a.put oi.dst v).put oj.dst u=(a.put oj.dst u).put oi.dst v:=fun v u=>Act.put_comm a v u h2
 unfold jG at h⊢;simp only[hi,hj,ei,ej,wi,wj,di,dj,pc]at h⊢
 cases hwi:Region.wanted oi (yielded ops a.tmps) <;> cases hwj:Region.wanted oj (yielded ops a.tmps) <;>
  simp only[hwi,hwj,if_true,if_false,Bool.false_eq_true]at h⊢
 ·exact h
 ·cases hsj':S j with
  | none=>simp only[hsj']at h⊢;exact h
  | some s=>simp only[hsj']at h⊢;exact h
 ·cases hsi':S i with
  | none=>simp only[hsi']at h⊢;exact h
  | some s=>simp only[hsi']at h⊢;exact h
 cases hsi':S i with
 | none=>
  simp only[hsi']at h;obtain⟨vi,hri,h⟩:=h
  cases hsj':S j with
  | none=>
   simp only[hsj']at h⊢;obtain⟨vj,hrj,h⟩:=h;exact⟨vj,hrj,vi,hri,h⟩
  | some s=>
   simp only[hsj']at h⊢;obtain⟨p,hd,hk⟩:=h;exact⟨p,hd,fun vj hvj=>⟨vi,hri,hk vj hvj⟩⟩
 | some si=>
  simp only[hsi']at h;obtain⟨p,hdi,h⟩:=h;obtain⟨v1,hv1⟩:=hS si hsi'
  cases hsj':S j with
  | none=>
   simp only[hsj']at h⊢;obtain⟨vj,hrj,_⟩:=h v1 hv1;refine⟨vj,hrj,p,hdi,fun vi hvi=>?_⟩
   obtain⟨vj',hrj',hl⟩:=h vi hvi;have e1:=hrj w hw0;have e2:=hrj' w hw0;rw[e1]at e2;simp only[Result.ok.injEq,Next.value.injEq,and_true]at e2;subst e2;exact hl
  | some sj=>
   exfalso
   rcases hch (by rw[hsi'];simp) (by rw[hsj'];simp)with h1|h1
   ·rw[hij]at h1;cases h1
   rw[hji]at h1;cases h1
theorem ziS.commute {Q:Act->World->Prop} {j:Nat} {oj:Oper} {w:World} (hj:ops[j]? =some oj) (hw0:I w)
  (hsel:∀(k:Nat) (o:Oper) cs b,ops[k]? =some o->o.op≠.select cs b) (hS:∀k s,S k=some s->∃v,s v) (hch:∀i k,i<k->S i≠none->S k≠none->anc ops 9 i k=true):
  ∀(l:List Nat) (F:World->Prop) (a:Act),l.Nodup->j∈l->
   (∀i∈l,i≠j->∃oi,ops[i]? =some oi/\(i<j->oi.apart ops oj=true)/\anc ops 9 i j=false/\(i<j->anc ops 9 j i=false))->
   (l.Pairwise (·< ·))->ziS I P ops S Q l F a->ziS I P ops S Q (j :: l.filter (· != j)) F a
 | [],_,_,_,hm,_,_,_=>by cases hm
 | i :: l,F,a,hnd,hm,hall,hsorted,h=>by
  by_cases hij:i=j
  ·subst hij;have:(i :: l).filter (· != i)=l:=by
    rw[List.filter_cons];simp only[bne_self_eq_false,Bool.false_eq_true,if_false];refine List.filter_eq_self.2 fun x hx=>?_
    have:x≠i:=fun e=>(List.nodup_cons.1 hnd).1 (e ▸ hx)
    simpa using this
   rw[this];exact h
  have hjl:j∈l:=by
   rcases mC.1 hm with e|e
   ·exact absurd e.symm hij
   exact e
  have hlt:i<j:=(List.pairwise_cons.1 hsorted).1 j hjl;obtain⟨oi,hoi,hap,haij,haji⟩:=hall i (by simp) hij
  have hf:(i :: l).filter (· != j)=i :: l.filter (· != j):=by
   rw[List.filter_cons];have:(i != j)=true:=by simpa using hij
   simp[this]
  rw[hf];refine jG.swap hoi hj (hap hlt) (fun cs b=>hsel i oi cs b hoi) (fun cs b=>hsel j oj cs b hj) haij (haji hlt) (hS i) (fun q1 q2=> .inl (hch i j hlt q1 q2)) hw0 ?_
  refine jG.mono (fun F' a' hl=>?_) h
  exact ziS.commute hj hw0 hsel hS hch l F' a' (List.nodup_cons.1 hnd).2 hjl (fun k hk=>hall k (by simp[hk])) (List.pairwise_cons.1 hsorted).2 hl
theorem zcQ {Q:Act->World->Prop} {l:List Oper} {m:Nat} (hB:j4 ops T=true) (hTl:T+m=ops.size) (hll:l.length=m) (hops:∀j,l[j]? =ops[T+j]?) (hS:∀k s,S k=some s->∃v,s v)
  (hch:∀i k,i<k->S i≠none->S k≠none->anc ops 9 i k=true) (hQ:∀a w,Q a w->wpList P ops Q' l a w):
  ∀(fuel:Nat) (listed:Array Bool) (F:World->Prop) (a:Act) (w:World),listed.size=ops.size->(∀i,T<=i->i<ops.size->listed.getD i true=false)->(zd listed T).length=fuel->Zm ops listed->I w->
   F w->ziS I P ops S Q (zd listed T) F a->wpAny P .any ops Q' (fuel+m) listed a w:=by
 have hsel:=Region.noSelect_spec (ops:=ops) (by simp only[j4,Bool.and_eq_true]at hB;exact hB.1.1)
 intro fuel
 induction fuel with
 | zero=>
  intro listed F a w hsz hout hl hc hw hF h;have hnil:zd listed T=[]:=eN hl;rw[hnil]at h;rw[zA];refine Zw hB m l T listed a w (nR _) hsz hTl hll hops (fun i hi=>?_) hout (hQ _ _ (h w hw hF))
  cases hg:listed.getD i true with
  | true=>rfl
  | false=>
   have:i∈zd listed T:=List.mem_filter.2 ⟨List.mem_range.2 hi,by simp only[hg,beq_self_eq_true]⟩
   rw[hnil]at this;cases this
 | succ fuel ih=>
  intro listed F a w hsz hout hl hc hw hF h;rw[Nat.add_right_comm];refine⟨fun hr=>?_,fun j hj=>?_⟩
  ·exfalso
   cases hu:zd listed T with
   | nil=>simp[hu]at hl
   | cons x xs=>
    have hx:x∈zd listed T:=by rw[hu];simp
    have hx':=List.mem_filter.1 hx;have hxT:x<T:=List.mem_range.1 hx'.1;have hxs:x<ops.size:=by omega
    have ho:ops[x]? =some ops[x]:=Array.getElem?_eq_getElem hxs;have hsorted:(zd listed T).Pairwise (·< ·):=List.Pairwise.filter _ List.pairwise_lt_range;have:x∈Region.ready .any ops listed:=by
     refine mem_ready.2 ⟨by simpa using hx'.2,ops[x],ho,fun e he hb=>?_⟩
     have hed:zaf ops e.on x=true:=(jg ho).2 ⟨e,he,hb,rfl⟩;have hlt:=js hB ho _ hed
     cases hg:listed.getD e.on true with
     | true=>exact Ja (by omega) hg
     | false=>
      have hmem:e.on∈zd listed T:=List.mem_filter.2 ⟨List.mem_range.2 (by omega),by simp only[hg,beq_self_eq_true]⟩
      rw[hu]at hmem hsorted
      rcases mC.1 hmem with e1|e1
      ·omega
      have:=(List.pairwise_cons.1 hsorted).1 _ e1;omega
    rw[hr]at this;cases this
  obtain⟨h0,oj,hoj,hall⟩:=mem_ready.1 hj;have hjs:j<ops.size:=(aS.1 hoj).1;have hdir:∀k,zaf ops k j=true->listed.getD k false=true:=fun k hk=>by
   obtain⟨e,he,hb,rfl⟩:=(jg hoj).1 hk;exact hall e he hb
  have hjT:j<T:=by
   rcases Nat.lt_or_ge j T with h1|h1
   ·exact h1
   exfalso
   cases hu:zd listed T with
   | nil=>simp[hu]at hl
   | cons x xs=>
    have hx:x∈zd listed T:=by rw[hu];simp
    have hx':=List.mem_filter.1 hx;have hxT:x<T:=List.mem_range.1 hx'.1;have:=qf hc j x j hdir (jX hB hoj h1 x (by omega))
    rw[qz (by simpa using hx'.2)]at this
    cases this
  have hju:j∈zd listed T:=List.mem_filter.2 ⟨List.mem_range.2 hjT,by simp only[h0,beq_self_eq_true]⟩
  have hnd:(zd listed T).Nodup:=List.Pairwise.filter _ List.nodup_range;have hsorted:(zd listed T).Pairwise (·< ·):=List.Pairwise.filter _ List.pairwise_lt_range;have hcm:=ziS.commute hoj hw hsel hS hch (zd listed T) F a hnd hju (fun i hi hij=>by
   have hi':=List.mem_filter.1 hi;have hun:listed.getD i false=false:=qz (by simpa using hi'.2)
   have his:i<ops.size:=by have:=List.mem_range.1 hi'.1;omega
   have hoi:ops[i]? =some ops[i]:=Array.getElem?_eq_getElem his;refine⟨ops[i],hoi,fun hlt=>?_,?_,fun hlt=>?_⟩
   ·rcases jY hB hoj hjT i hlt with he|⟨oi,hoi',hap⟩
    ·have:=hdir i he;rw[hun]at this;cases this
    rw[hoi]at hoi';cases hoi';exact hap
   ·cases ha:anc ops 9 i j with
    | false=>rfl
    | true=>
     have:=qf hc 9 i j hdir ha;rw[hun]at this;cases this
   cases ha:anc ops 9 j i with
   | false=>rfl
   | true=>
    have:=JP hB 9 j i ha
    omega) hsorted h
  have hsz':(listed.setIfInBounds j true).size=ops.size:=by simp[hsz]
  have hout':∀i,T<=i->i<ops.size->(listed.setIfInBounds j true).getD i true=false:=fun i hi hi'=>by rw[getD_set_ne true (by omega)];exact hout i hi hi'
  have hlen':(zd (listed.setIfInBounds j true) T).length=fuel:=by
   rw[z8 (by omega)]
   have he:(zd listed T).filter (· != j)=(zd listed T).erase j:=by
    rw[List.Nodup.erase_eq_filter hnd]
   rw[he,List.length_erase_of_mem hju];omega
  have hc':Zm ops (listed.setIfInBounds j true):=fun i k hk hik=>by
   by_cases hkj:j=k
   ·subst hkj;exact getD_set_true (hdir i hik)
   rw[getD_set_ne false hkj]at hk;exact getD_set_true (hc i k hk hik)
  unfold wpOp;simp only[hoj];simp only[ziS,jG,hoj]at hcm;rw[<-z8 (by omega)]at hcm
  split
  ·rename_i hwant
   simp only[hwant,if_true]at hcm;refine .inl ?_
   cases hs:S j with
   | none=>
    simp only[hs]at hcm;obtain⟨v,hrun,hk⟩:=hcm;have hr:=hrun w hw;unfold Oper.wp;rw[hr];exact ih _ F _ w hsz' hout' hlen' hc' hw hF hk
   | some s=>
    simp only[hs]at hcm;obtain⟨p,hd,hk⟩:=hcm;refine(hd w hw hF).wp fun v w' ⟨hi',hpv,hpost⟩=>?_
    exact ih _ (p v) _ w' hsz' hout' hlen' hc' hi' hpost (hk v hpv)
  rename_i hwant
  simp only[hwant]at hcm;exact ih _ F _ w hsz' hout' hlen' hc' hw hF hcm
end
section
variable{I:World->Prop} {P:Program} {ops:Array Oper} {S:Nat->Option (Value->Prop)} {Q:Act->World->Prop}
variable(I P ops S Q)in
def QR:List Oper->Nat->(World->Prop)->Act->Prop
 | [],_,F,a=>∀w,I w->F w->Q a w
 | o :: rest,k,F,a=>
  if Region.wanted o (yielded ops a.tmps)then
   match S k with
   | none=>∃v,(∀w,I w->(execOp a.eval o).run P w= .ok (.value v) w)/\QR rest (k+1) F (a.put o.dst v)
   | some s=>∃p:Value->World->Prop,(∀w,I w->F w->zK P o a w fun v w'=>I w'/\s v/\p v w')/\∀v,s v->QR rest (k+1) (p v) (a.put o.dst v)
  else QR rest (k+1) F (a.put o.dst undef)
theorem Qx:∀(l:List Oper) (k:Nat) (F:World->Prop) (a:Act),(∀j,l[j]? =ops[k+j]?\/l.length<=j)->QR I P ops S Q l k F a->ziS I P ops S Q (List.range' k l.length) F a
 | [],_,_,_,_,h=>h
 | o :: l,k,F,a,hl,h=>by
  have h0:ops[k]? =some o:=by
   rcases hl 0 with e|e
   ·simpa using e.symm
   simp at e
  have hnext:∀j,l[j]? =ops[k+1+j]?\/l.length<=j:=fun j=>by
   rcases hl (j+1)with e|e
   ·left;rw[List.getElem?_cons_succ]at e;rw[e];congr 1;omega
   right;simpa using e
  simp only[List.length_cons,List.range'_succ,ziS,jG,h0];unfold QR at h
  split
  ·rename_i hw
   simp only[hw,if_true]at h
   cases hs:S k with
   | none=>
    simp only[hs]at h;obtain⟨v,h1,h2⟩:=h;exact⟨v,h1,Qx l (k+1) _ _ hnext h2⟩
   | some s=>
    simp only[hs]at h;obtain⟨p,hd,hk⟩:=h;exact⟨p,hd,fun v hv=>Qx l (k+1) _ _ hnext (hk v hv)⟩
  rename_i hw
  simp only[hw]at h;exact Qx l (k+1) _ _ hnext h
variable(I P ops S Q)in
structure zaV (l:List Oper) (k:Nat) (F:World->Prop) (a:Act):Prop where
 out:QR I P ops S Q l k F a
theorem zL {Q:Exit->Act->World->Prop} {a:Act} {w:World} {L l r:List Oper} (T:Nat) (S:List (Nat ×(Value->Prop))) (F:World->Prop) (hI:I w.drew) (hF:F w.drew) (hm:P.follows .mixedOrders=true) (hB:j4 L.toArray T=true) (hl:L.take T=l) (hr:L.drop T=r) (hT:T<=L.length)
  (hS:∀x∈S,∃v,x.2 v) (hch:((S.map (·.1)).all fun i=>(S.map (·.1)).all fun k=>!decide (i<k) || anc L.toArray 9 i k)=true)
  (h:zaV I P L.toArray (fun k=>S.lookup k) (fun a w=>wpList P L.toArray Q r a w) l 0 F a):(Code.region id L.toArray true).wp P Q a w:=by
 have hlook:∀(S:List (Nat ×(Value->Prop))) k s,S.lookup k=some s->∃x∈S,x.2=s/\x.1=k:=by
  intro S
  induction S with
  | nil=>intro k s h;simp at h
  | cons x S ih=>
   intro k s h;rw[List.lookup_cons]at h
   split at h
   ·rename_i he
    exact⟨x,by simp,by simpa using h,by simpa using(by simpa using he:k=x.1).symm⟩
   obtain⟨y,hy,he⟩:=ih k s h;exact⟨y,by simp[hy],he⟩
 have hlT:l.length=T:=by rw[<-hl,List.length_take];omega
 have hrT:r.length=L.length - T:=by rw[<-hr,List.length_drop]
 refine wp_region_any hm ?_;have hu:zd (Array.replicate L.toArray.size false) T=List.range T:=by
  unfold zd;refine List.filter_eq_self.2 fun i hi=>?_
  have:i<T:=by simpa using hi
  simp[show i<L.length by omega]
 have h':=Qx (ops:=L.toArray) l 0 _ a (fun j=>by
  rcases Nat.lt_or_ge j T with hj|hj
  ·left;rw[<-hl,List.getElem?_take_of_lt hj];simp
  right;omega) h.out
 rw[hlT,<-List.range_eq_range']at h';have hfin:=zcQ (I:=I) (P:=P) (S:=fun k=>S.lookup k) (F:=F) (ops:=L.toArray) (T:=T) (l:=r) (m:=L.length - T) (Q:=fun a w=>wpList P L.toArray Q r a w) (Q':=Q) hB (by simp;omega) hrT (fun j=>by rw[<-hr,List.getElem?_drop];simp) (fun k s hs=>by obtain⟨x,hx,rfl,_⟩:=hlook S k s hs;exact hS x hx) (fun i k hik hi hk=>by
   obtain⟨si,hsi⟩:=Option.ne_none_iff_exists'.1 hi;obtain⟨sk,hsk⟩:=Option.ne_none_iff_exists'.1 hk;obtain⟨x,hx,_,rfl⟩:=hlook S i si hsi;obtain⟨y,hy,_,rfl⟩:=hlook S k sk hsk;have h1:=List.all_eq_true.1 (List.all_eq_true.1 hch x.1 (List.mem_map.2 ⟨x,hx,rfl⟩)) y.1 (List.mem_map.2 ⟨y,hy,rfl⟩)
   simpa [hik]using h1) (fun _ _ h=>h)
  T (Array.replicate L.toArray.size false) a w.drew (by simp) (fun i hi hi'=>by simp at hi';simp[hi']) (by rw[hu];simp) (fun i j hj _=>by
   exfalso;rw[Array.getD_eq_getD_getElem?,Array.getElem?_replicate]at hj
   split at hj <;> simp at hj)
  hI hF (by rw[hu];exact h')
 have hsz:T+(L.length - T)=L.toArray.size:=by simp;omega
 rw[hsz]at hfin;exact hfin
variable{o:Oper} {rest:List Oper} {k:Nat} {F:World->Prop} {a:Act}
theorem zg (ht:zkl o=true) (hw:Region.wanted o (yielded ops a.tmps)=true) (hS:S k=none)
  (h:∀K:Act->Prop,(∀a,zaV I P ops S Q rest (k+1) F a->K a)->o.quiet P a (fun w'=>∃x:zj I,w'=x.world) K):zaV I P ops S Q (o :: rest) k F a:=by
 obtain⟨v,h1,h2⟩:=h _ fun _ h=>h
 constructor;unfold QR;rw[if_pos hw];simp only[hS];refine⟨v,fun w hg=>?_,h2.out⟩
 have h3:=h1 w ⟨⟨w,hg⟩,rfl⟩;unfold Oper.quietAt at h3;have hne:=fun n w'=>@Qg P o ht a.eval w w' n
 generalize(execOp a.eval o).run P w=r at*
 cases r with
 | ok n w'=>
  cases n <;> simp only[Oper.quietUpon]at h3
  case value u=>rw[h3.1,h3.2]
  case skip=>obtain⟨_,he⟩:=hne _ _ rfl;cases he
  case enter f args=>obtain⟨_,he⟩:=hne _ _ rfl;cases he
 | halt x w'=>simp only[Oper.quietUpon]at h3
theorem jn (hw:Region.wanted o (yielded ops a.tmps)=false) (h:zaV I P ops S Q rest (k+1) F (a.put o.dst undef)):zaV I P ops S Q (o :: rest) k F a:=by
 constructor;unfold QR;rw[if_neg (by rw[hw];exact Bool.false_ne_true)]
 exact h.out
theorem zW {s:Value->Prop} (hw:Region.wanted o (yielded ops a.tmps)=true) (hS:S k=some s) (p:Value->World->Prop)
  (h:∀w,I w->F w->zK P o a w fun v w'=>I w'/\s v/\p v w')
  (hn:∀v,s v->zaV I P ops S Q rest (k+1) (p v) (a.put o.dst v)):zaV I P ops S Q (o :: rest) k F a:=by
 constructor;unfold QR;rw[if_pos hw];simp only[hS];exact⟨p,h,fun v hv=>(hn v hv).out⟩
theorem zM (x:Operand) (p:Addr) (ho:o.op= .nilCheck x) (hx:a.eval x= .pointer (some p)) (hw:Region.wanted o (yielded ops a.tmps)=true) (hS:S k=none) (h:zaV I P ops S Q rest (k+1) F (a.put o.dst (.pointer (some p)))):zaV I P ops S Q (o :: rest) k F a:=by
 constructor;unfold QR;rw[if_pos hw];simp only[hS];exact⟨_,fun w _=>zaZ x p ho hx,h.out⟩
theorem qI (h:∀w,I w->F w->Q a w):zaV I P ops S Q [] k F a:=⟨h⟩
end
def ZL (L L':List Int):Prop:=L=[]->L'=[]
theorem ZL.refl (L:List Int):ZL L L:=fun h=>h
theorem ZL.trans {A B C:List Int} (h:ZL A B) (k:ZL B C):ZL A C:=fun e=>k (h e)
theorem zl2:(Tryz.prog.info? 5).map (·.size)=some 1:=by kernel_rfl
theorem zfC {w:World} {ad:Addr} {n c:Nat}:(Instr.sliceAt 24 (.slice (some ad) (n+1) c) (some (.int .i64 1)) none none).run prog w= .ok (.slice (some (if c=1 then ad else ad.add 1)) n (c - 1)) w:=by
 have hs:(Go.sizeOf 5).run prog w= .ok 1 w:=by
  obtain⟨i0,h1,h2⟩:∃i0,Tryz.prog.info? 5=some i0/\i0.size=1:=by
   have:=zl2
   cases hq:Tryz.prog.info? 5 with
   | none=>rw[hq]at this;cases this
   | some i0=>rw[hq]at this;exact⟨i0,rfl,by simpa using this⟩
  simp[Go.sizeOf,typeInfo,h1,h2]
 have h1:(0:Int)<=1/\(1:Int)<=((n+1:Nat):Int):=by omega
 simp only[Instr.sliceAt,Instr.slice,Instr.sliceBounds,Instr.sliceBound,asIntOf,Sem.run_bind,Sem.run_pure,rA,run_underlying underlying24];rw[if_pos h1];simp only[Sem.run_pure,rA,hs]
 by_cases hc:c=1
 ·simp[hc]
 simp[hc]
theorem qt {w:World} (n:Int) (h:Mk w0 hi w b vl L V m vt T):
  Calls prog 36 #[.pointer (some ⟨b,0,none⟩),.int .i64 n] w fun e w'=>∃vl' L' x,e= .returned (.int .i64 x)/\Mk w0 hi w' b vl' L' V m vt T/\w.grownBy w' (some b)/\w'.heap.size=w.heap.size/\0<=x/\(x=0\/x<n)/\(L=[]->x=0)/\ZL L L':=by
 have HM:Hid (Mk w0 hi w b vl L V m vt T):=h;have hbx:=h.box.box;have x0:=hbx.c 0 rfl;have xf:=hbx.f;have hln:=h.lr.n;clear hbx;obtain⟨⟨la,ln,lc⟩,hvl⟩:∃s:Sli,vl=s:=⟨_,rfl⟩;subst hvl;dsimp only at x0 hln HM;clear h
 by_cases h0:ln=0
 ·subst h0;clear hln
  go_enter func36,ntmps36
  go_wp2;go_ret;exact⟨_,L,0,rfl,HM.out,World.grownBy.rfl' _ _,rfl,Int.le_refl _,.inl rfl,fun _=>rfl,ZL.refl L⟩
 have h0e:((ln:Int) == 0)=false:=by simp;omega
 have h0f:(ln == 0)=false:=by simp[h0]
 by_cases h1:n<1
 ·clear h0 hln
  go_enter func36,ntmps36
  go_wp2;go_ret;exact⟨_,L,0,rfl,HM.out,World.grownBy.rfl' _ _,rfl,Int.le_refl _,.inl rfl,fun _=>rfl,ZL.refl L⟩
 obtain⟨z,L',rfl⟩:∃z L',L=z :: L':=by
  cases L with
  | nil=>simp at hln;omega
  | cons z L'=>exact⟨z,L',rfl⟩
 have hz:=HM.out.lb z (by simp)
 obtain⟨hz0,hz1⟩:=hz;obtain⟨ad,rfl,hl⟩:=HM.out.lr.rowsAt 0 z rfl;have d0:w.cell? ad=some (.int .u8 z):=by
  have:=hl w HM.out.gr 0 _ rfl;rw[zR]at this
  simpa [byE,Addr.add]using this
 obtain⟨k,rfl⟩:∃k,ln=k+1:=⟨ln - 1,by omega⟩
 have hcap:k+1<=lc:=HM.out.lc;have hrun:=zfC (w:=w) (ad:=ad) (n:=k) (c:=lc);clear h0 hl;have hlt:(0:Int)< ((k+1:Nat):Int):=by omega
 obtain⟨ad',had⟩:∃ad',(if lc=1 then ad else ad.add 1)=ad':=⟨_,rfl⟩;rw[had]at hrun;have HL':Hid (zr byE w0 (.slice (some ad') k (lc - 1)) L'):=dD<|by
  obtain⟨⟨xa,xc,q1,q2,q3⟩,q4⟩:=HM.out.lr;dsimp only at q1;cases q1;have q5:=q3 ad rfl;refine⟨⟨some ad',lc - 1,rfl,fun h=>(by cases h),fun y hy=>?_⟩,?_⟩
  ·cases hy
   by_cases hc:lc=1
   ·have:L'=[]:=by
     have:L'.length=0:=by omega
     exact eN this
    subst this;intro j u hj
    simp at hj
   rw[if_neg hc]at had;subst had;intro j u hj;rw[zR,Nat.add_comm 1 j];exact q5 (j+1) u (by simpa [byE]using hj)
  have:byE.bytes=1:=rfl;rw[this]at q4⊢
  simp at q4⊢
  omega
 have HBX:Hid (zp (w.setCell ⟨b,0,none⟩ (.slice (some ad') k (lc - 1))) b 95 [.slice (some ad') k (lc - 1),.slice V.f.a V.f.n V.f.c,.int .i64 m.hand,.slice V.s.a V.s.n V.s.c,.slice V.sb.a V.sb.n V.sb.c,.slice V.sq.a V.sq.n V.sq.c,.slice V.db.a V.db.n V.db.c,.slice V.dq.a V.dq.n V.dq.c,.slice V.fl.a V.fl.n V.fl.c,.int .i64 m.cnt,.slice V.ca.a V.ca.n V.ca.c,.slice V.sp.a V.sp.n V.sp.c,.slice vt.a vt.n vt.c]):=HM.out.box.set 0 _;have HGR:Hid (w.grownBy (w.setCell ⟨b,0,none⟩ (.slice (some ad') k (lc - 1))) (some b)):=⟨rfl,rfl,rfl,by simp[World.setCell],fun j _ hj=>Below.heap_setCell _ _ _ _ (fun e=>hj (by rw[e]))⟩
 have HSZ:Hid ((w.setCell ⟨b,0,none⟩ (.slice (some ad') k (lc - 1))).heap.size=w.heap.size):=dD<|by simp[World.setCell]
 have HMK:Hid (Mk w0 hi (w.setCell ⟨b,0,none⟩ (.slice (some ad') k (lc - 1))) b ⟨some ad',k,lc - 1⟩ L' V m vt T):=show Mk _ _ _ _ _ _ _ _ _ _ from
  ⟨ze HM.out.gr HGR.out HM.out.hb,HM.out.hb,HBX.out,HL'.out,(show k<=lc - 1 by omega),fun y hy=>HM.out.lb y (by simp[hy]),HM.out.rows.var HGR.out HM.out.box (Nat.le_of_eq HSZ.out.symm) (.inl rfl)⟩
 have HX:Hid (0<=z % n/\z % n<n):=dD<|⟨Int.emod_nonneg _ (by omega),Int.emod_lt_of_pos _ (by omega)⟩
 clear hln hcap had
 go_enter func36,ntmps36
 go_wp2;go_ret;exact⟨_,L',z % n,rfl,HMK.out,HGR.out,HSZ.out,HX.out.1,.inr HX.out.2,fun h=>(by cases h)⟩
theorem zbl (q:List Int) (i:Nat) (z:Int):pgc (q.set i z)=(pgc q).set i (.int .u8 z):=by
 unfold pgc;rw[List.map_set]
theorem zdL {q:List Int} (h:q[i]? =some z):(pgc q)[i]? =some (.int .u8 z):=by
 unfold pgc;rw[List.getElem?_map,h];rfl
theorem zl3:(Tryz.prog.info? 44).map (·.size)=some 8:=by kernel_rfl
theorem za0 {w:World} (h:Mk w0 hi w b vl L V m vt T):
  Calls prog 39 #[.pointer (some ⟨b,0,none⟩)] w fun e w'=>∃vl' L' q,e= .returned (.agg (pgc q).toArray)/\q.length=8/\Mk w0 hi w' b vl' L' V m vt T/\w.grownBy w' (some b)/\ZL L L':=by
 have HM:Hid (Mk w0 hi w b vl L V m vt T):=h;obtain⟨W0,hW0⟩:∃W0,(w.alloc (.cells #[.int .u8 0,.int .u8 0,.int .u8 0,.int .u8 0,.int .u8 0,.int .u8 0,.int .u8 0,.int .u8 0] 44)).alloc (.cells #[.int .u8 0,.int .u8 0,.int .u8 0,.int .u8 0,.int .u8 0,.int .u8 0,.int .u8 0,.int .u8 0] 44)=W0:=⟨_,rfl⟩;have HG0:=gD2 hW0
 have X0:Hid (zp W0 w.heap.size 44 (pgc zz)):=dD<|by rw[<-hW0];exact(zp.top _ (pgc zz) _ rfl).grew (za _ _)
 have Y0:Hid (zp W0 (w.heap.size+1) 44 (pgc zz)):=dD<|by rw[<-hW0];exact zp.top _ (pgc zz) _ (by simp)
 have HB:Hid (b<w.heap.size):=dD<|h.box.box.lt
 have HH:Hid (hi<=w.heap.size):=dD<|h.rows.hw
 have HW0:Hid (_=W0):=hW0;clear hW0 h
 go_enter func39,ntmps39
 go_upto_region 2 with fail;rw[HW0.out];go_wp2
 go_loopg [5] 8 (fun gg s5 wr=>∃(kk:Nat) (vl':Sli) (L' q:List Int),kk<=8/\8 - kk<=gg/\s5= .int .i64 kk/\Hid (w.grownBy wr (some b))/\Hid (Mk w0 hi wr b vl' L' V m vt T)/\Hid (zp wr w.heap.size 44 (pgc zz))/\Hid (zp wr (w.heap.size+1) 44 (pgc q))/\Hid (q.length=8)/\Hid (ZL L L'))
 case atStart=>exact⟨0,vl,L,zz,nZ _,by omega,rfl,zkB HG0.out _,HM.out.grew HG0.out,X0.out,Y0.out,(show zz.length=8 from rfl),ZL.refl L⟩
 obtain⟨kk,vl',L',q,hkk,hgg,rfl,BW,MW,XW,YW,QL,LL⟩:=hrel
 by_cases hlt:kk<8
 ·have hltz:(kk:Int)<8:=by omega
  have hpk:=qt 4 MW.out;go_wp2_with fail;refine hpk.mono ?_;clear hpk;rintro e W1 ⟨vl2,L2,x,rfl,mk1,gr1,sz1,x0,x1,xn,ll⟩;have hx4:x<4:=by rcases x1 with h|h <;> omega
  have M1:Hid (Mk w0 hi W1 b vl2 L2 V m vt T):=mk1;have B1:Hid (w.grownBy W1 (some b)):=Qz BW.out gr1;have X1:Hid (zp W1 w.heap.size 44 (pgc zz)):=XW.out.beside gr1 (fun g e=>by cases e;have:=HB.out;omega)
  have Y1:Hid (zp W1 (w.heap.size+1) 44 (pgc q)):=YW.out.beside gr1 (fun g e=>by cases e;have:=HB.out;omega)
  have LL1:=dD (LL.out.trans ll);clear mk1 gr1 sz1 x1 xn ll;obtain⟨z,hz⟩:∃z,q[kk]? =some z:=⟨_,gE (by rw[QL.out];exact hlt)⟩
  have y0:=Y1.out.box.c kk (zdL hz);have yf:=Y1.out.box.f;have GS:Hid (W1.grownBy (W1.setCell ⟨w.heap.size+1,kk,none⟩ (.int .u8 x)) (some (w.heap.size+1))):=⟨rfl,rfl,rfl,by simp[World.setCell],fun j _ hj=>Below.heap_setCell _ _ _ _ (fun e=>hj (by rw[e]))⟩
  have Y2:Hid (zp (W1.setCell ⟨w.heap.size+1,kk,none⟩ (.int .u8 x)) (w.heap.size+1) 44 (pgc (q.set kk x))):=dD<|by rw[zbl];exact Y1.out.set kk _
  have X2:Hid (zp (W1.setCell ⟨w.heap.size+1,kk,none⟩ (.int .u8 x)) w.heap.size 44 (pgc zz)):=X1.out.beside GS.out (fun g e=>by cases e;omega)
  have M2:Hid (Mk w0 hi (W1.setCell ⟨w.heap.size+1,kk,none⟩ (.int .u8 x)) b vl2 L2 V m vt T):=show Mk _ _ _ _ _ _ _ _ _ _ from
   ⟨ze M1.out.gr GS.out (by have:=bS HM.out.gr;omega),M1.out.hb,M1.out.box.beside GS.out (fun g e=>by cases e;have:=HB.out;omega),M1.out.lr,M1.out.lc,M1.out.lb,M1.out.rows.var GS.out Y1.out (by simp[World.setCell]) (.inr ⟨rfl,by have:=HH.out;omega⟩)⟩
  have B2:Hid (w.grownBy (W1.setCell ⟨w.heap.size+1,kk,none⟩ (.int .u8 x)) (some b)):=dD<|⟨B1.out.os,B1.out.tape,B1.out.output,by simp[World.setCell];exact B1.out.size,fun j hj hn=>by
   rw[Below.heap_setCell _ _ _ _ (by simp;omega)]
   exact B1.out.block j hj hn⟩
  clear hz;go_wp2
  go_roundg (8 -(kk+1))
  case measure=>omega
  exact⟨kk+1,vl2,L2,q.set kk x,by omega,by omega,by go_num,B2.out,M2.out,X2.out,Y2.out,(show _=_ by rw[List.length_set];exact QL.out),LL1.out⟩
 have hltz:¬(kk:Int)<8:=by omega
 have:kk=8:=by omega
 subst this;have HP:Hid ((pgc q).length=8):=dD<|by rw[Qd];exact QL.out
 go_wp2_with (first | (refine zJ rfl 44 (.tmp 3) rfl (w.heap.size+1) rfl YW.out.box underlying44 rfl (by rw[HP.out];exact zl3) ?_) | (refine zX rfl 44 (.tmp 2) (.tmp 14) rfl w.heap.size rfl (pgc q) rfl XW.out.box (by rw[HP.out];rfl) zl3 (Qq q) ?_))
 intro W5 hb5 hg5 sz5;have M5:Hid (Mk w0 hi W5 b vl' L' V m vt T):=show Mk _ _ _ _ _ _ _ _ _ _ from
  ⟨ze MW.out.gr hg5 (bS HM.out.gr),MW.out.hb,MW.out.box.beside hg5 (fun g e=>by cases e;have:=HB.out;omega),MW.out.lr,MW.out.lc,MW.out.lb,MW.out.rows.var hg5 XW.out (Nat.le_of_eq sz5.symm) (.inr ⟨rfl,HH.out⟩)⟩
 have B5:Hid (w.grownBy W5 (some b)):=dD<|⟨hg5.os.trans BW.out.os,hg5.tape.trans BW.out.tape,hg5.output.trans BW.out.output,nT BW.out.size hg5.size,fun j hj hn=>by
  rw[hg5.block j (Nat.lt_of_lt_of_le hj BW.out.size) (fun e=>by cases e;omega)]
  exact BW.out.block j hj hn⟩
 go_wp2;refine bodyPost_ret (zY rfl _ rfl hb5 underlying44 rfl (by rw[HP.out];exact zl3)) rfl ⟨vl',L',q,rfl,QL.out,M5.out,B5.out,LL.out⟩
def Loc (hi p:Nat) (t:TypeId):Prop:=t≠95/\t≠53/\t≠3/\t≠100/\t≠84/\t≠120/\t≠63/\t≠56/\(t=44->hi<=p)
def zo (hi:Nat) (w w':World):Prop:=(∀p t cs,zp w p t cs->Loc hi p t->zp w' p t cs)/\w.heap.size<=w'.heap.size
theorem zo.trans {a b c:World} (h:zo hi a b) (k:zo hi b c):zo hi a c:=⟨fun p t cs h1 h2=>k.1 p t cs (h.1 p t cs h1 h2) h2,nT h.2 k.2⟩
theorem zo.grew {a b:World} (h:zc a b):zo hi a b:=⟨fun _ _ _ h1 _=>h1.grew h,bS h⟩
theorem zo.kind {g:Nat} {w:World} {cs:Array Value} (hg:w.grownBy w' (some g)) (ho:w.heap[g]? =some (.cells cs t (0,0))) (hn:∀p,Loc hi p t->p≠g):zo hi w w':=⟨fun p u ds h1 h2=>h1.beside hg (fun k e=>by
 cases e;intro he;subst he;have h3:w.heap[p]? =some (.cells ds.toArray u (0,0)):=h1;rw[ho]at h3;simp only[Option.some.injEq,Obj.cells.injEq]at h3;obtain⟨_,rfl,_⟩:=h3;exact hn p h2 rfl),hg.size⟩
theorem Mk.keeps {w:World} (h:Mk w0 hi w b vl L V m vt T) (hg:w.grownBy w' (some b)):zo hi w w':=zo.kind hg h.box (fun _ hl=>absurd rfl hl.1)
def MkE (w0:World) (hi b:Nat) (w:World) (L:List Int) (V:MaV) (m:Ma) (vt:Sli) (T:List (Nat->En)) (w':World):Prop:=∃vl' L',Mk w0 hi w' b vl' L' V m vt T/\ZL L L'/\zo hi w w'
theorem zkM {a n:Nat} (h:0<n):((a:Int) %(n:Int))=((a % n:Nat):Int)/\a % n<n:=⟨by omega,Nat.mod_lt _ h⟩
theorem zd9 {w:World} (f:Fr) (h:Mk w0 hi w b vl L V m vt T) (hfd:f.f=-1->f.d=false):
  Calls prog 131 #[.pointer (some ⟨b,0,none⟩),.agg (frv f).toArray] w fun e w'=>(e= .returned (.int .i64 (-1))/\MkE w0 hi b w L V m vt T w')\/∃(j:Nat) (q:Fr),e= .returned (.int .i64 (j:Int))/\m.fs[j]? =some q/\q.r=0/\MkE w0 hi b w L V { m with fs:=m.fs.set j f } vt T w':=by
 have HM:Hid (Mk w0 hi w b vl L V m vt T):=h;have HFD:Hid (f.f=-1->f.d=false):=show _->_ from hfd
 clear hfd;obtain⟨W0,hW0⟩:∃W0,w.alloc (.cells #[.int .u8 f.p.b0,.int .u8 f.p.b1,.int .u8 f.p.b2,.int .u8 f.p.b3,.int .u8 f.p.b4,.int .u8 f.p.b5,.int .u8 f.p.b6,.int .u8 f.p.b7,.int .i64 f.r,.bool f.u,.bool f.d,.int .i64 f.f,.int .i64 f.x] 53)=W0:=⟨_,rfl⟩;have HG0:=gA hW0
 have X0:Hid (zp W0 w.heap.size 53 (frv f)):=dD<|by rw[<-hW0];exact zp.top _ (frv f) _ rfl
 have M0:Hid (Mk w0 hi W0 b vl L V m vt T):=h.grew HG0.out;have HNF:Hid (V.f.n=m.fs.length):=h.rows.fs.n;have hbig:V.f.n<=140737488355328:=by
  have h1:=h.rows.fs.2;have h40:QO.bytes=40:=rfl;rw[h40]at h1;have:=h.rows.fs.n;omega
 have HB:Hid (b<w.heap.size):=dD<|h.box.box.lt
 have HFG:Hid (∀g,(Value.slice V.f.a V.f.n V.f.c).ownBlock=some g->g<w.heap.size):=dD<|fun g hg=>(h.rows.fs.lt g hg).2
 have HW0:Hid (_=W0):=hW0;clear hW0 h
 go_enter func131,ntmps131
 go_upto_region 1 with fail;have hw:w.alloc (.cells (frv f).toArray 53)=W0:=HW0.out;try rw[hw]
 try rw[HW0.out]
 clear hw;have x1:=M0.out.box.box.c 1 rfl;go_upto_region 2 with fail;clear x1;obtain⟨n,HN⟩:∃n,Hid (V.f.n=n):=⟨_,rfl⟩;rw[HN.out]at hbig⊢;have hpk:=qt (n:Int) M0.out;go_wp2_with fail;refine hpk.mono ?_;clear hpk;rintro e W1 ⟨vl1,L1,x,rfl,mk1,gr1,sz1,x0,x1,xn,ll⟩;obtain⟨fr,rfl⟩:∃fr:Nat,x=(fr:Int):=⟨x.toNat,by omega⟩
 have hfr:fr<=n:=by rcases x1 with h | h <;> omega
 have M1:Hid (Mk w0 hi W1 b vl1 L1 V m vt T):=mk1;have K1:Hid (zo hi w W1):=(zo.grew HG0.out).trans (M0.out.keeps gr1);have X1:Hid (zp W1 w.heap.size 53 (frv f)):=X0.out.beside gr1 (fun g e=>by cases e;have:=HB.out;omega)
 have LL1:Hid (ZL L L1):=ll;clear mk1 gr1 sz1 x1 xn ll x0;go_wp2
 go_loopg [20] n (fun gg s20 wr=>∃i:Nat,i<=n/\n - i<=gg/\s20= .int .i64 i/\wr=W1)
 case atStart=>exact⟨0,nZ _,by omega,rfl,rfl⟩
 obtain⟨i,hi',hgg,rfl,rfl⟩:=hrel
 by_cases hlt:i<n
 ·have hltz:(i:Int)< (n:Int):=by omega
  have hn0:¬(n:Int)=0:=by omega
  have hn1:((n:Int) == 0)=false:=by simp;omega
  obtain⟨j,hj⟩:∃j:Nat,(fr+i) % n=j:=⟨_,rfl⟩;have hjm:((fr:Int)+(i:Int)) %(n:Int)=(j:Int):=by
   rw[<-hj];have:=(zkM (a:=fr+i) (n:=n) (by omega)).1
   rw[<-this];rfl
  have hjn:j<n:=by rw[<-hj];exact Nat.mod_lt _ (by omega)
  have hjz:(j:Int)< (n:Int):=by omega
  clear hj;obtain⟨q,HQ⟩:∃q,Hid (m.fs[j]? =some q):=⟨_,gE (by rw[<-HNF.out,HN.out];exact hjn)⟩
  obtain⟨g,c',heq⟩:=M1.out.rows.fs.formS (by rw[<-HNF.out,HN.out];omega)
  have hfl:m.fs.length=n:=by rw[<-HNF.out,HN.out]
  rw[hfl]at heq;have HEQ:Hid (Value.slice V.f.a V.f.n V.f.c= .slice (some ⟨g,0,none⟩) n c'):=heq;have x1:=M1.out.box.box.c 1 rfl;rw[HEQ.out]at x1;have hrw:=M1.out.rows.fs;rw[HEQ.out]at hrw;have HRW:Hid (zb QO w0.heap.size wr (.slice (some ⟨g,0,none⟩) n c') m.fs):=hrw;have HGL:Hid (g<w.heap.size):=HFG.out g (by rw[HEQ.out];rfl)
  have hce:=hrw.one HQ.out;have d8:wr.cell? ⟨g,j*13+8,none⟩=some (.int .i64 q.r):=by
   have:=hce 8 _ rfl;rw[zR,Addr.add_lit,zA]at this;exact this
  clear hce hrw heq hfl
  by_cases hr:q.r=0
  ·have hre:(q.r == 0)=true:=by simp[hr]
   have HR0:Hid (q.r=0):=hr;clear hr;go_upto_region 8 with fail;clear d8;obtain⟨I,hI⟩:∃I:World->Prop,I=fun u=>zc wr u:=⟨_,rfl⟩
   have HI:Hid (∀u,I u↔zc wr u):=dD<|fun u=>by rw[hI]
   clear hI;have hI0:I wr.drew:=(HI.out _).2 (gW _)
   have hx1:∀y:zj I,y.world.cell? ⟨b,1,none⟩=some (.slice (some ⟨g,0,none⟩) n c'):=fun y=>by rw[<-HEQ.out];exact(M1.out.box.box.grew ((HI.out _).1 y.holds)).c 1 rfl
   have hf0:∀y:zj I,y.world.cell? ⟨w.heap.size,0,none⟩=some (.int .u8 f.p.b0):=fun y=>(X1.out.box.grew ((HI.out _).1 y.holds)).c 0 rfl
   have hf1:∀y:zj I,y.world.cell? ⟨w.heap.size,1,none⟩=some (.int .u8 f.p.b1):=fun y=>(X1.out.box.grew ((HI.out _).1 y.holds)).c 1 rfl
   have hf2:∀y:zj I,y.world.cell? ⟨w.heap.size,2,none⟩=some (.int .u8 f.p.b2):=fun y=>(X1.out.box.grew ((HI.out _).1 y.holds)).c 2 rfl
   have hf3:∀y:zj I,y.world.cell? ⟨w.heap.size,3,none⟩=some (.int .u8 f.p.b3):=fun y=>(X1.out.box.grew ((HI.out _).1 y.holds)).c 3 rfl
   have hf4:∀y:zj I,y.world.cell? ⟨w.heap.size,4,none⟩=some (.int .u8 f.p.b4):=fun y=>(X1.out.box.grew ((HI.out _).1 y.holds)).c 4 rfl
   have hf5:∀y:zj I,y.world.cell? ⟨w.heap.size,5,none⟩=some (.int .u8 f.p.b5):=fun y=>(X1.out.box.grew ((HI.out _).1 y.holds)).c 5 rfl
   have hf6:∀y:zj I,y.world.cell? ⟨w.heap.size,6,none⟩=some (.int .u8 f.p.b6):=fun y=>(X1.out.box.grew ((HI.out _).1 y.holds)).c 6 rfl
   have hf7:∀y:zj I,y.world.cell? ⟨w.heap.size,7,none⟩=some (.int .u8 f.p.b7):=fun y=>(X1.out.box.grew ((HI.out _).1 y.holds)).c 7 rfl
   have hf8:∀y:zj I,y.world.cell? ⟨w.heap.size,8,none⟩=some (.int .i64 f.r):=fun y=>(X1.out.box.grew ((HI.out _).1 y.holds)).c 8 rfl
   have hf9:∀y:zj I,y.world.cell? ⟨w.heap.size,9,none⟩=some (.bool f.u):=fun y=>(X1.out.box.grew ((HI.out _).1 y.holds)).c 9 rfl
   have hf10:∀y:zj I,y.world.cell? ⟨w.heap.size,10,none⟩=some (.bool f.d):=fun y=>(X1.out.box.grew ((HI.out _).1 y.holds)).c 10 rfl
   have hf11:∀y:zj I,y.world.cell? ⟨w.heap.size,11,none⟩=some (.int .i64 f.f):=fun y=>(X1.out.box.grew ((HI.out _).1 y.holds)).c 11 rfl
   have hf12:∀y:zj I,y.world.cell? ⟨w.heap.size,12,none⟩=some (.int .i64 f.x):=fun y=>(X1.out.box.grew ((HI.out _).1 y.holds)).c 12 rfl
   have hne:Nonempty (zj I):=⟨⟨_,hI0⟩⟩;refine ZQ (I:=I) 9 [] hI0 qn (by kernel_rfl) rfl rfl (by decide) (by simp) (by kernel_rfl) ?_
   simp only[List.take,List.drop];iterate 1 (refine qC rfl rfl rfl (fun K hK=>?_);go_big_quiet_op;refine hK _ ?_;clear hK)
   refine zbv (.tmp 39) ⟨b,0,none⟩ rfl rfl rfl rfl ?_;simp only[Act.put,sB,sS,sZ];iterate 7 (refine qC rfl rfl rfl (fun K hK=>?_);go_big_quiet_op;refine hK _ ?_;clear hK)
   refine za1 fun W2 hI2 hF=>?_
   have hg2:=(HI.out _).1 hI2;have M2:=dD (M1.out.grew hg2);have R2:=dD (HRW.out.grew hg2);have K2:=dD (K1.out.trans (zo.grew hg2));clear hg2 hI2 hF hx1 hf0 hf1 hf2 hf3 hf4 hf5 hf6 hf7 hf8 hf9 hf10 hf11 hf12 hne hI0;refine QH (E:=QO) rfl (.tmp 47) (.tmp 46) rfl w0.heap.size _ m.fs R2.out g j rfl f (by rw[<-HNF.out,HN.out];exact hjn) ⟨g,j*13,none⟩ rfl rfl (.agg (frv f).toArray) rfl rfl ?_
   intro W3 ow3 gr3 sz3;have M3:Hid (Mk w0 hi W3 b vl1 L1 V { m with fs:=m.fs.set j f } vt T):=dD<|by
    have hob:(Value.slice V.f.a V.f.n V.f.c).ownBlock=some g:=by rw[HEQ.out];rfl
    have h2:=M2.out;refine⟨ze h2.gr gr3 (R2.out.lt g rfl).1,h2.hb,h2.box.beside gr3 (fun k e=>?_),h2.lr,h2.lc,h2.lb,h2.rows.setF hob gr3 sz3 (by rw[HEQ.out];exact ow3) (h2.rows.ap.2.set HFD.out j)⟩
    cases e;exact R2.out.ne h2.box (by decide) g rfl
   have K3:Hid (zo hi w W3):=dD<|by
    obtain⟨cs,hcs⟩:=R2.out.obj (g:=g) rfl;exact K2.out.trans (zo.kind gr3 hcs (fun _ hl=>absurd rfl hl.2.1))
   clear ow3 gr3 sz3;go_wp2;go_ret;exact .inr ⟨j,q,rfl,HQ.out,HR0.out,vl1,L1,M3.out,LL1.out,K3.out⟩
  have hre:(q.r == 0)=false:=by simp[hr]
  clear hr;go_wp2
  go_roundg (n -(i+1))
  case measure=>omega
  exact⟨i+1,by omega,by omega,by go_num,rfl⟩
 have hltz:¬(i:Int)< (n:Int):=by omega
 go_wp2;go_ret;exact .inl ⟨rfl,vl1,L1,M1.out,LL1.out,K1.out⟩
theorem ze5 {ps:List (List Int)} {l:List Int} (h:∀p∈ps,p.length=8) (hl:l.length=8):∀p∈ps.set i l,p.length=8:=fun p hp=>by
 rcases List.mem_or_eq_of_mem_set hp with h1|h1
 ·exact h p h1
 rw[h1];exact hl
theorem jr {w:World} {rest:List Oper} {a:Act} (hgd:o.guard=none) (p x:Operand) (ho:o.op= .store 44 p x)
  (base:Nat) (v:Value) (ps:List (List Int)) (hown:zh base w v ps) (g i:Nat) (hg:v.ownBlock=some g) (hi:i<ps.length) (l:List Int) (hl:l.length=8)
  (ad:Addr) (hp:a.eval p= .pointer (some ad)) (had:ad=⟨g,i*8,none⟩) (hx:a.eval x= .agg (pgc l).toArray)
  (h:∀w',zh base w' v (ps.set i l)->w.grownBy w' (some g)->w'.heap.size=w.heap.size->wpList prog ops Q rest (a.put o.dst undef) w'):wpList prog ops Q (o :: rest) a w:=by
 refine zaM hgd p x 44 ho 8 (by kernel_rfl) base v ps.length _ hown.1 g i hg hi (pgc l) (by rw[Qd,hl]) (Qq l) ad hp had hx fun w' h1 h2 h3=>?_
 rw[Jj l (by rw[Qd,hl]) ps i (fun b hb=>by rw[Qd,hown.2.1 b hb]) hi]at h1
 refine h w' ⟨by rw[List.length_set];exact h1,ze5 hown.2.1 hl,by rw[List.length_set];exact hown.2.2⟩ h2 h3
def Qc (keep : Nat -> Bool) : List (Int × List Int) -> Nat -> List (List Int) -> List (List Int)
  | [], _, ps => ps
  | q :: r, j, ps => Qc keep r (j + 1) (if keep j then ps.set q.1.toNat q.2 else ps)
def zcb (keep : Nat -> Bool) (ps : List (List Int)) (qs : List (Int × List Int)) : List (List Int) := if zF ps.length qs = 0 then Qc keep qs 0 ps else []
def zfx (g : Nat) (lb : Array Value) (keep : Nat -> Bool) (w : World) : Prop :=
  ∀ W (j : Nat), zc w W -> j <= 400 -> Calls Tryz.prog g (#[.int .i64 (j : Int)] ++ lb) W fun e W' => e = .returned (.bool (keep j)) /\ zc W W'
theorem jT {n : Nat} {qs : List (Int × List Int)} (h : zF n qs = 0) : n <= 80 /\ qs.length <= 400 /\ ∀ q ∈ qs, ∃ i : Nat, q.1 = (i : Int) /\ i < n := by
  unfold zF at h
  by_cases h1 : 80 < n
  · rw [if_pos h1] at h; omega
  · rw [if_neg h1] at h
    by_cases h2 : 400 < qs.length
    · rw [if_pos h2] at h; omega
    · rw [if_neg h2] at h
      by_cases h3 : (qs.any fun q => !jk q.1 n) = true
      · rw [if_pos h3] at h; omega
      · refine ⟨by omega, by omega, fun q hq => ?_⟩
        have h4 : jk q.1 n = true := by
          cases hb : jk q.1 n with
          | true => rfl
          | false => exact absurd (List.any_eq_true.2 ⟨q, hq, by simp [hb]⟩) h3
        unfold jk at h4
        simp at h4
        obtain ⟨i, hi⟩ := Int.eq_ofNat_of_zero_le h4.1
        exact ⟨i, hi, by omega⟩
theorem zc1 (base : Nat) (w : World) : qi base w (.agg #[.slice none 0 0, .slice none 0 0]) [] [] :=
  ⟨_, _, rfl, ⟨⟨none, 0, rfl, fun _ => rfl, fun x hx => by cases hx⟩, by simp, by simp⟩, ⟨⟨none, 0, rfl, fun _ => rfl, fun x hx => by cases hx⟩, by simp, by simp⟩, j6 _, j6 _⟩
theorem zhM (w : World) : qE w (.slice none 0 0) [] := ⟨⟨none, 0, rfl, fun _ => rfl, fun x hx => by cases hx⟩, by simp, by simp⟩
theorem zgk (keep : Nat -> Bool) (g : Nat) (lb : Array Value) (eg : ∀ args w, (callFunc g args).run Tryz.prog w = .ok (.enter g args) w) (d : Value) (ps : List (List Int)) (qs : List (Int × List Int)) (w : World) (hd : Zb w d ps qs) (hs : zfx g lb keep w) :
    Calls Tryz.prog 120 #[d, .func (.func g) #[] lb] w fun e w' => ∃ d', e = .returned (.tuple #[d', .int .i64 (zF ps.length qs)]) /\ qi w.heap.size w' d' (zcb keep ps qs) [] /\ zc w w' := by
  obtain ⟨b, q, rfl, hb, hq⟩ := hd
  have HB : Hid (qK w b ps) := hb
  have HQ : Hid (qE w q qs) := hq
  have HS : Hid (zfx g lb keep w) := hs
  obtain ⟨ab, cb, rfl, _⟩ := hb.rows
  obtain ⟨aq, cq, rfl, hrow⟩ := hq.rows
  have HR : Hid (JQ w aq qs) := hrow
  clear hb hq hs hrow
  have HK : Hid (zcb keep ps qs = if zF ps.length qs = 0 then Qc keep qs 0 ps else []) := rfl
  obtain ⟨nb, HNB⟩ : ∃ nb, Hid (ps.length = nb) := ⟨_, rfl⟩
  obtain ⟨nq, HNQ⟩ : ∃ nq, Hid (qs.length = nq) := ⟨_, rfl⟩
  have hcon : ∀ W, zc w W -> Calls Tryz.prog 154 #[.agg #[.slice ab nb cb, .slice aq nq cq]] W fun e w' => e = .returned (.int .i64 (zF ps.length qs)) /\ zc W w' := fun W hW => by
    rw [<- HNB.out, <- HNQ.out]
    exact JT ab ps.length cb _ qs W (HQ.out.grew hW)
  have hclone : ∀ W, zc w W -> Calls Tryz.prog 97 #[.slice ab nb cb] W fun e w' => ∃ v', e = .returned v' /\ zh W.heap.size w' v' ps /\ zc W w' := fun W hW => by
    rw [<- HNB.out]
    exact Jx _ ps W (HB.out.grew hW)
  rw [HNB.out, HNQ.out]
  obtain ⟨r, HW⟩ : ∃ r, Hid (zF ps.length qs = r) := ⟨_, rfl⟩
  rw [HW.out] at HK
  simp only [HW.out] at hcon
  have HW' : Hid (zF nb qs = r) := show zF nb qs = r by rw [<- HNB.out]; exact HW.out
  rw [HW'.out]
  have HG0 : Hid (zc w ((w.alloc (.cells #[.slice ab nb cb, .slice aq nq cq] 34)).alloc (.cells #[.slice none 0 0, .slice none 0 0] 34))) := show zc _ _ from (za _ _).trans (za _ _)
  by_cases hr : r = 0
  · subst hr
    rw [if_pos rfl] at HK
    obtain ⟨hn80, hq400, hin⟩ := jT HW.out
    have HIN : Hid (∀ q ∈ qs, ∃ i : Nat, q.1 = (i : Int) /\ i < ps.length) := hin
    have hnq : nq <= 400 := by rw [<- HNQ.out]; exact hq400
    clear hin hq400 hn80
    go_enter Tryz.func120, Tryz.ntmps120
    go_wp2_with (first
      | (go_at_call 154; refine (hcon _ HG0.out).mono ?_; rintro e W1 ⟨rfl, hg1⟩; have e0 : W1.cell? ⟨w.heap.size, 0, none⟩ = some (.slice ab nb cb) := (Below.cell hg1 (by simp; omega)).trans (by simp); have e1 : W1.cell? ⟨w.heap.size, 1, none⟩ = some (.slice aq nq cq) := (Below.cell hg1 (by simp; omega)).trans (by simp); have HG1 : Hid (zc w W1) := HG0.out.trans hg1)
      | (go_at_call 97; refine (hclone _ HG1.out).mono ?_; rintro e W2 ⟨v, rfl, ow, hg2⟩; have j1 : W2.cell? ⟨w.heap.size, 1, none⟩ = some (.slice aq nq cq) := (Below.cell hg2 (World.block_lt_of_cell? _ _ e1)).trans e1; have OW : Hid (zh W1.heap.size W2 v ps) := ow; have HG2 : Hid (zc w W2) := HG1.out.trans hg2))
    have HS1 : Hid (w.heap.size + 2 <= W1.heap.size) := show _ <= _ by have := Below.size hg1; simpa using this
    have HS2 : Hid (W1.heap.size <= W2.heap.size) := Below.size hg2
    have c2 : W2.cell? ⟨w.heap.size + 1, 0, none⟩ = some (.slice none 0 0) := (Below.cell (hg1.trans hg2) (by simp)).trans (by simp)
    have c3 : W2.cell? ⟨w.heap.size + 1, 1, none⟩ = some (.slice none 0 0) := (Below.cell (hg1.trans hg2) (by simp)).trans (by simp)
    have f2 : W2.frozen? ⟨w.heap.size + 1, 0, none⟩ = false := (Below.frozen (hg1.trans hg2) (by simp)).trans (by simp)
    have f3 : W2.frozen? ⟨w.heap.size + 1, 1, none⟩ = false := (Below.frozen (hg1.trans hg2) (by simp)).trans (by simp)
    have C2 : Hid (W2.cell? ⟨w.heap.size + 1, 0, none⟩ = some (.slice none 0 0)) := c2
    have C3 : Hid (W2.cell? ⟨w.heap.size + 1, 1, none⟩ = some (.slice none 0 0)) := c3
    have F2 : Hid (W2.frozen? ⟨w.heap.size + 1, 0, none⟩ = false) := f2
    have F3 : Hid (W2.frozen? ⟨w.heap.size + 1, 1, none⟩ = false) := f3
    have HL : Hid (∀ (j : Nat) q, qs[j]? = some q -> qs.drop j = q :: qs.drop (j + 1)) := show ∀ (j : Nat) q, _ from fun j q h => by
      obtain ⟨hlt, rfl⟩ := List.getElem?_eq_some_iff.1 h
      exact List.drop_eq_getElem_cons hlt
    clear e0 e1 j1 hg1 hg2 c2 c3 f2 f3 hcon hclone ow
    go_loopg [8, 9, 22] nq (fun gg _ _ s22 wr => ∃ (kk : Nat) (pk : List (List Int)), kk <= nq /\ nq - kk <= gg /\ s22 = .int .i64 kk /\ Hid (Below W1.heap.size W2 wr) /\ Hid (zh W1.heap.size wr v pk) /\ Hid (pk.length = nb) /\ Hid (Qc keep (qs.drop kk) kk pk = Qc keep qs 0 ps))
    case atStart => exact ⟨0, ps, Nat.zero_le _, by omega, rfl, Below.refl _ _, OW.out, HNB.out, rfl⟩
    case round =>
      obtain ⟨kk, pk, hkk, hgg, rfl, BW, OP, HP, HST⟩ := hrel
      have GW : Hid (zc w wr) := show zc w wr from Below.trans HG2.out (BW.out.mono (by have := HS1.out; omega))
      by_cases hlt : kk < nq
      · have hltz : (kk : Int) < (nq : Int) := by omega
        obtain ⟨q, HQK⟩ : ∃ q, Hid (qs[kk]? = some q) := ⟨_, List.getElem?_eq_getElem (by rw [HNQ.out]; exact hlt)⟩
        obtain ⟨x, m, b0, b1, b2, b3, b4, b5, b6, b7, rfl, rfl, hl⟩ := HR.out kk q HQK.out
        obtain ⟨d0, d1, d2, d3, d4, d5, d6, d7, d8⟩ := hl wr GW.out
        obtain ⟨i, hmi, hi⟩ := HIN.out _ (List.mem_of_getElem? HQK.out)
        simp only at hmi
        subst hmi
        have hinb : i < nb := by rw [<- HNB.out]; exact hi
        have hib : (i : Int) < (nb : Int) := by omega
        have hi0 : (0 : Int) <= (i : Int) := by omega
        have hcall := HS.out (wr.alloc (.cells #[.int .i64 (i : Int), .int .u8 b0, .int .u8 b1, .int .u8 b2, .int .u8 b3, .int .u8 b4, .int .u8 b5, .int .u8 b6, .int .u8 b7] 100)) kk (GW.out.trans (za _ _)) (by omega)
        have hnext := HL.out kk _ HQK.out
        have HN : Hid (qs.drop kk = ((i : Int), [b0, b1, b2, b3, b4, b5, b6, b7]) :: qs.drop (kk + 1)) := hnext
        clear hl hnext hi
        obtain ⟨gv, cap, rfl, hgv⟩ : ∃ gv cap, v = .slice (some ⟨gv, 0, none⟩) nb cap /\ W1.heap.size <= gv := by
          rcases OP.out.1.2 with ⟨_, h0⟩ | ⟨gv, cap, cur, h0, h1, _⟩
          · have := HP.out; omega
          · exact ⟨gv, cap, by rw [h0, HP.out], h1⟩
        have HGV : Hid (W1.heap.size <= gv) := hgv
        clear hgv
        cases hk : keep kk with
        | true =>
          rw [hk] at hcall
          go_wp2_with (first
            | (go_at_fn g; refine hcall.mono ?_; rintro e W3 ⟨rfl, hg3⟩
               have a0 : W3.cell? ⟨wr.heap.size, 0, none⟩ = some (.int .i64 (i : Int)) := (Below.cell hg3 (by simp)).trans (by simp)
               have a1 : W3.cell? ⟨wr.heap.size, 1, none⟩ = some (.int .u8 b0) := (Below.cell hg3 (by simp)).trans (by simp)
               have a2 : W3.cell? ⟨wr.heap.size, 2, none⟩ = some (.int .u8 b1) := (Below.cell hg3 (by simp)).trans (by simp)
               have a3 : W3.cell? ⟨wr.heap.size, 3, none⟩ = some (.int .u8 b2) := (Below.cell hg3 (by simp)).trans (by simp)
               have a4 : W3.cell? ⟨wr.heap.size, 4, none⟩ = some (.int .u8 b3) := (Below.cell hg3 (by simp)).trans (by simp)
               have a5 : W3.cell? ⟨wr.heap.size, 5, none⟩ = some (.int .u8 b4) := (Below.cell hg3 (by simp)).trans (by simp)
               have a6 : W3.cell? ⟨wr.heap.size, 6, none⟩ = some (.int .u8 b5) := (Below.cell hg3 (by simp)).trans (by simp)
               have a7 : W3.cell? ⟨wr.heap.size, 7, none⟩ = some (.int .u8 b6) := (Below.cell hg3 (by simp)).trans (by simp)
               have a8 : W3.cell? ⟨wr.heap.size, 8, none⟩ = some (.int .u8 b7) := (Below.cell hg3 (by simp)).trans (by simp)
               have OP3 : Hid (zh W1.heap.size W3 (.slice (some ⟨gv, 0, none⟩) nb cap) pk) := OP.out.grew ((za _ _).trans hg3))
            | (refine jr rfl (.tmp 35) (.tmp 34) rfl W1.heap.size _ pk OP3.out gv i rfl (by rw [HP.out]; exact hinb) [b0, b1, b2, b3, b4, b5, b6, b7] rfl _ rfl (by simp) rfl ?_; intro W4 ow4 gr4 sz4))
          go_roundg (nq - (kk + 1))
          case measure => omega
          case rel =>
            refine ⟨kk + 1, pk.set i [b0, b1, b2, b3, b4, b5, b6, b7], by omega, by omega, by go_num, ?_, ow4, (show Hid _ from by rw [List.length_set]; exact HP.out), ?_⟩
            · exact Below.grown (zf4 BW.out (by have := BW.out.size; have := HS2.out; omega) ((za _ _).trans hg3)) gr4 (by have := BW.out.size; have := HS2.out; have := Below.size ((za wr _).trans hg3); omega) (fun k hk => by cases hk; exact HGV.out)
            · show Qc keep (qs.drop (kk + 1)) (kk + 1) (pk.set i _) = _
              rw [<- HST.out, HN.out]
              simp [Qc, hk]
        | false =>
          rw [hk] at hcall
          go_wp2_with (go_at_fn g; refine hcall.mono ?_; rintro e W3 ⟨rfl, hg3⟩)
          go_roundg (nq - (kk + 1))
          case measure => omega
          case rel =>
            refine ⟨kk + 1, pk, by omega, by omega, by go_num, ?_, OP.out.grew ((za _ _).trans hg3), HP.out, ?_⟩
            · exact zf4 BW.out (by have := BW.out.size; have := HS2.out; omega) ((za _ _).trans hg3)
            · show Qc keep (qs.drop (kk + 1)) (kk + 1) pk = _
              rw [<- HST.out, HN.out]
              simp [Qc, hk]
      · have hltz : ¬ (kk : Int) < (nq : Int) := by omega
        have : kk = nq := by omega
        subst this
        have c2 : wr.cell? ⟨w.heap.size + 1, 0, none⟩ = some (.slice none 0 0) := (Below.cell BW.out (p := ⟨w.heap.size + 1, 0, none⟩) (by have := HS1.out; show w.heap.size + 1 < _; omega)).trans C2.out
        have c3 : wr.cell? ⟨w.heap.size + 1, 1, none⟩ = some (.slice none 0 0) := (Below.cell BW.out (p := ⟨w.heap.size + 1, 1, none⟩) (by have := HS1.out; show w.heap.size + 1 < _; omega)).trans C3.out
        have f2 : wr.frozen? ⟨w.heap.size + 1, 0, none⟩ = false := (Below.frozen BW.out (p := ⟨w.heap.size + 1, 0, none⟩) (by have := HS1.out; show w.heap.size + 1 < _; omega)).trans F2.out
        have f3 : wr.frozen? ⟨w.heap.size + 1, 1, none⟩ = false := (Below.frozen BW.out (p := ⟨w.heap.size + 1, 1, none⟩) (by have := HS1.out; show w.heap.size + 1 < _; omega)).trans F3.out
        obtain ⟨av, nv, cv, rfl⟩ := OP.out.slice
        go_wp2
        refine bodyPost_ret (v := .tuple #[.agg #[.slice av nv cv, .slice none 0 0], .int .i64 0]) (by simp [results, Tryz.results120, go_sem, *]) rfl ⟨_, rfl, ⟨_, _, rfl, ?_, zhM _, fun x n c e => Nat.le_trans (by have := HS1.out; omega) (OP.out.fresh x n c e), j6 _⟩, ?_⟩
        · rw [HK.out]
          have e : Qc keep qs 0 ps = pk := by
            rw [<- HST.out, List.drop_of_length_le (by rw [HNQ.out]; exact Nat.le_refl _)]
            rfl
          rw [e]
          exact ((OP.out.setCell (by have := HS1.out; show w.heap.size + 1 < _; omega) _).setCell (by have := HS1.out; show w.heap.size + 1 < _; omega) _).at
        · exact Below.setCell (Below.setCell GW.out (p := ⟨w.heap.size + 1, 0, none⟩) (by simp) _) (p := ⟨w.heap.size + 1, 1, none⟩) (by simp) _
  · have hne : (r != 0) = true := by simpa using hr
    rw [if_neg hr] at HK
    go_enter Tryz.func120, Tryz.ntmps120
    go_wp2_with (go_at_call 154; refine (hcon _ HG0.out).mono ?_; rintro e W1 ⟨rfl, hg1⟩
                 have c2 : W1.cell? ⟨w.heap.size + 1, 0, none⟩ = some (.slice none 0 0) := (Below.cell hg1 (by simp)).trans (by simp)
                 have c3 : W1.cell? ⟨w.heap.size + 1, 1, none⟩ = some (.slice none 0 0) := (Below.cell hg1 (by simp)).trans (by simp)
                 have f2 : W1.frozen? ⟨w.heap.size + 1, 0, none⟩ = false := (Below.frozen hg1 (by simp)).trans (by simp)
                 have f3 : W1.frozen? ⟨w.heap.size + 1, 1, none⟩ = false := (Below.frozen hg1 (by simp)).trans (by simp)
                 have HG1 : Hid (zc w W1) := HG0.out.trans hg1)
    refine bodyPost_ret (v := .tuple #[.agg #[.slice none 0 0, .slice none 0 0], .int .i64 r]) (by simp [results, Tryz.results120, go_sem, *]) rfl ⟨_, rfl, ?_, ?_⟩
    · rw [HK.out]
      exact zc1 _ _
    · exact Below.setCell (Below.setCell HG1.out (p := ⟨w.heap.size + 1, 0, none⟩) (by simp) _) (p := ⟨w.heap.size + 1, 1, none⟩) (by simp) _
def QK (n:Int):Int:=if 0<=n/\n<=80 then 0 else 4
def zfJ (n:Int):List (List Int):=if 0<=n/\n<=80 then List.replicate n.toNat zz else []
theorem zcp (n:Nat):(madeCells #[.int .u8 0,.int .u8 0,.int .u8 0,.int .u8 0,.int .u8 0,.int .u8 0,.int .u8 0,.int .u8 0] (n*8)).toList=(List.replicate n zz).flatMap pgc:=by
 have hl:((List.replicate n zz).flatMap pgc).length=n*8:=by rw[qD (k:=8) _ (fun a ha=>by rw[List.eq_of_mem_replicate ha];rfl)];simp
 apply List.ext_getElem?
 intro j
 rcases Nat.lt_or_ge j (n*8)with h|h
 ·have hj:j=j / 8*8+j % 8:=by omega
  have h8:j % 8<8:=Nat.mod_lt _ (by decide)
  have hq:j / 8<n:=by omega
  have hz:(pgc zz)[j % 8]? =some (.int .u8 0):=by
   generalize j % 8=k at h8
   match k,h8 with
   | 0,_=>rfl
   | 1,_=>rfl
   | 2,_=>rfl
   | 3,_=>rfl
   | 4,_=>rfl
   | 5,_=>rfl
   | 6,_=>rfl
   | 7,_=>rfl
  have h1:=qA (enc:=pgc) (k:=8) (List.replicate n zz) (j / 8) zz (fun a ha=>by rw[List.eq_of_mem_replicate ha];rfl) (by simp[hq]) (j % 8) _ hz
  rw[<-hj]at h1;rw[h1];have:(#[Value.int .u8 0,.int .u8 0,.int .u8 0,.int .u8 0,.int .u8 0,.int .u8 0,.int .u8 0,.int .u8 0]:Array Value)[j % 8]! = .int .u8 0:=by
   generalize j % 8=k at h8
   match k,h8 with
   | 0,_=>rfl
   | 1,_=>rfl
   | 2,_=>rfl
   | 3,_=>rfl
   | 4,_=>rfl
   | 5,_=>rfl
   | 6,_=>rfl
   | 7,_=>rfl
  simp[madeCells,h]
  simpa using this
 rw[gN (by simp[madeCells];exact h),gN (by rw[hl];exact h)]
theorem zai {w:World} {rest:List Oper} {a:Act} (hgd:o.guard=none) (l:Operand) (ho:o.op= .makeSlice 31 l l) (n:Nat) (hl:a.eval l= .int .i64 n) (hn:n<=80)
  (h:∀C,zh w.heap.size (w.alloc (.cells C 44)) (.slice (some ⟨w.heap.size,0,none⟩) n n) (List.replicate n zz)->wpList prog ops Q rest (a.put o.dst (.slice (some ⟨w.heap.size,0,none⟩) n n)) (w.alloc (.cells C 44))):wpList prog ops Q (o :: rest) a w:=by
 refine wpList_plain hgd fun K hK=>?_
 obtain⟨i0,hi,hz0,hz1,hz2⟩:=info_parts zlK;have hrun:=run_make (P:=prog) w 31 44 i0 _ underlying31 hi hz0 .i64 .i64 n n (by omega) (Int.le_refl _) (by rw[hz2];omega) (by omega)
 rw[hz1,tN]at hrun;unfold Oper.wp;simp only[execOp,ho,hl,Sem.run_bind,hrun,Result.andThen,Sem.run_pure,Oper.upon];refine hK _ _ (h _ ⟨⟨?_,.inr ⟨w.heap.size,n,madeCells #[.int .u8 0,.int .u8 0,.int .u8 0,.int .u8 0,.int .u8 0,.int .u8 0,.int .u8 0,.int .u8 0] (n*8),by rw[lR],nR _,?_,?_,?_,?_,?_⟩⟩,fun p hp=>by rw[List.eq_of_mem_replicate hp];rfl,by rw[lR];omega⟩)
 ·rw[qD (k:=8) _ (fun a ha=>by rw[List.eq_of_mem_replicate ha];rfl)]
 ·show(w.heap.push _)[w.heap.size]? =_
  simp[Value.cells]
 ·rw[lR];exact nR _
 ·exact qx (by omega)
 ·rw[size_madeCells]
 rw[lR]
 show(madeCells #[.int .u8 0,.int .u8 0,.int .u8 0,.int .u8 0,.int .u8 0,.int .u8 0,.int .u8 0,.int .u8 0] (n*8)).toList.take (n*8)=_
 rw[List.take_of_length_le (by simp[madeCells]),zcp]
theorem zkr (n:Int) (w:World):
  Calls prog 124 #[.int .i64 n] w fun e w'=>∃d',e= .returned (.tuple #[d',.int .i64 (QK n)])/\qi w.heap.size w' d' (zfJ n) []/\zc w w':=by
 by_cases h:0<=n/\n<=80
 ·have HE:Hid (QK n=0):=dD<|by unfold QK;rw[if_pos h]
  have HD:Hid (zfJ n=List.replicate n.toNat zz):=dD<|by unfold zfJ;rw[if_pos h]
  obtain⟨k,rfl⟩:=Int.eq_ofNat_of_zero_le h.1;have h0:¬(k:Int)<0:=by omega
  have h1:¬(80:Int)< (k:Int):=by omega
  have hk:k<=80:=by omega
  have HG0:Hid (zc w (w.alloc (.cells #[.slice none 0 0,.slice none 0 0] 34))):=za _ _;rw[HE.out]
  go_enter func124,ntmps124
  go_wp2_with (refine zai rfl (.tmp 11) rfl k rfl hk ?_;intro C ow;have OW:Hid (zh (w.alloc (.cells #[.slice none 0 0,.slice none 0 0] 34)).heap.size ((w.alloc (.cells #[.slice none 0 0,.slice none 0 0] 34)).alloc (.cells C 44)) (.slice (some ⟨(w.alloc (.cells #[.slice none 0 0,.slice none 0 0] 34)).heap.size,0,none⟩) k k) (List.replicate k zz)):=ow;clear ow)
  refine bodyPost_ret (v:= .tuple #[.agg #[.slice (some ⟨w.heap.size+1,0,none⟩) k k,.slice none 0 0],.int .i64 0]) (by simp[results,Tryz.results124,go_sem, *]) rfl ⟨_,rfl,?_,?_⟩
  ·rw[HD.out];have ho:=OW.out;rw[World.size_alloc]at ho;exact⟨_,_,rfl,zh.at (base:=w.heap.size+1) ⟨zdP ho.1 (fun k hk=>zfv w _ _ _ k hk),ho.2⟩,zhM _,fun x n c e=>by cases e;simp,j6 _⟩
  exact(za _ _).trans (za _ _)
 have HE:Hid (QK n=4):=dD<|by unfold QK;rw[if_neg h]
 have HD:Hid (zfJ n=[]):=dD<|by unfold zfJ;rw[if_neg h]
 rw[HE.out,HD.out]
 by_cases h0:n<0
 ·clear h
  go_enter func124,ntmps124
  go_wp2;refine bodyPost_ret (v:= .tuple #[.agg #[.slice none 0 0,.slice none 0 0],.int .i64 4]) (by simp[results,Tryz.results124,go_sem]) rfl ⟨_,rfl,zc1 _ _,?_⟩
  exact za _ _
 have h1:(80:Int)<n:=by omega
 clear h
 go_enter func124,ntmps124
 go_wp2;refine bodyPost_ret (v:= .tuple #[.agg #[.slice none 0 0,.slice none 0 0],.int .i64 4]) (by simp[results,Tryz.results124,go_sem]) rfl ⟨_,rfl,zc1 _ _,?_⟩
 exact za _ _
end
section
open Go.RowKit Go.Shelf
section
attribute [local go_sem] Oper.semAt_some
structure P9 where
  (i m b0 b1 b2 b3 b4 b5 b6 b7 : Int)
end
section
attribute [local go_sem] Oper.semAt_some
theorem qP {n : Nat} {qs : List (Int × List Int)} {m : Int} (h : zw n qs m = 0) : zF n qs = 0 /\ ∃ i : Nat, m = (i : Int) /\ i < n := by
  unfold zw at h
  by_cases h1 : zF n qs = 0
  · rw [if_pos h1] at h
    refine ⟨h1, ?_⟩
    cases hb : jk m n with
    | false => rw [hb] at h; simp at h
    | true =>
      unfold jk at hb
      simp at hb
      obtain ⟨i, hi⟩ := Int.eq_ofNat_of_zero_le hb.1
      exact ⟨i, hi, by omega⟩
  · rw [if_neg h1] at h; exact absurd h h1
end
end
section
open Go.RowKit
theorem zm.block {base:Nat} {w:World} {g n cap:Nat} {qs:List (Int × List Int)} (h:zm base w (.slice (some ⟨g,0,none⟩) n cap) qs):
  n=qs.length/\base<=g/\qs.length<=cap/\cap<=maxLen/\∃cur,w.heap[g]? =some (.cells cur 100 (0,0))/\cur.size=cap*9/\cur.toList.take (qs.length*9)=qs.flatMap ptc:=by
 rcases h.1.2 with⟨h0,_⟩|⟨g',cap',cur,h0,h1,h2,h3,h4,h5,h6⟩
 ·cases h0
 cases h0;exact⟨rfl,h1,h3,h4,cur,h2,h5,h6⟩
theorem zm.mk {base:Nat} {w:World} {g cap:Nat} {qs:List (Int × List Int)} {cur:Array Value} (hb:base<=g) (hh:w.heap[g]? =some (.cells cur 100 (0,0))) (hn:qs.length<=cap) (hm:cap<=maxLen) (hs:cur.size=cap*9) (ht:cur.toList.take (qs.length*9)=qs.flatMap ptc)
  (h8:∀q∈qs,q.2.length=8) (hbytes:qs.length*16<=140737488355328):zm base w (.slice (some ⟨g,0,none⟩) qs.length cap) qs:=
 ⟨⟨qD qs fun q hq=>by rw[zan,h8 q hq],.inr ⟨g,cap,cur,rfl,hb,hh,hn,hm,hs,ht⟩⟩,h8,hbytes⟩
theorem JD {w:World} {rest:List Oper} {a:Act} (hgd:o.guard=none) (s x:Operand) (ho:o.op= .call { callee:= .builtin .append,args:=#[s,x],argTypes:=#[32,32] })
  (base g cap n:Nat) (q0:Int × List Int) (r:List (Int × List Int)) (hown:zm base w (.slice (some ⟨g,0,none⟩) n cap) (q0 :: r)) (hs:a.eval s= .slice (some ⟨g,0,none⟩) 0 cap) (c':Nat) (hx:a.eval x= .slice (some ⟨g,9,none⟩) r.length c')
  (h:∀w',zm base w' (.slice (some ⟨g,0,none⟩) r.length cap) r->w.grownBy w' (some g)->w'.heap.size=w.heap.size->wpList prog ops Q rest (a.put o.dst (.slice (some ⟨g,0,none⟩) r.length cap)) w'):wpList prog ops Q (o :: rest) a w:=by
 refine wpList_plain hgd fun K hK=>?_
 obtain⟨hn,hb,hnc,hm,cur,hh,hsz,ht⟩:=hown.block;obtain⟨i0,hi,hz0,hz1,hz2⟩:=info_parts zlL;have h8:=hown.2.1;have hl:(r.flatMap ptc).length=r.length*9:=qD r fun q hq=>by rw[zan,h8 q (by simp[hq])]
 have hl0:(ptc q0).length=9:=by rw[zan,h8 q0 (by simp)]
 simp only[List.length_cons]at hnc ht;have hcells:∀j u,(r.flatMap ptc)[j]? =some u->w.cell? ((⟨g,9,none⟩:Addr).add j)=some u:=fun j u hj=>by
  have hjl:j<r.length*9:=by rw[<-hl];exact(gS.1 hj).1
  rw[Addr.add_lit];have h1:(cur.toList.take ((r.length+1)*9))[9+j]? =some u:=by
   rw[ht,List.flatMap_cons,aR (by omega),hl0]
   simpa using hj
  rw[List.getElem?_take_of_lt (by omega)]at h1
  simp only[World.cell?,hh]
  simpa using h1
 have hrun:=run_append_room (P:=prog) w 32 o.type 100 i0 underlying32 hi g 0 cap cur hh ⟨g,9,none⟩ r.length c' (r.flatMap ptc) (by rw[hz1];exact hl) hcells (qV zbk r) (by omega) (by rw[hl];simp;omega)
 simp only[Nat.zero_mul,List.take_zero,List.nil_append,zA]at hrun;unfold Oper.wp execOp;simp only[ho,resolve,invoke,builtin,Sem.run_bind,Sem.run_pure,rA,List.map_toArray,mP,List.map_nil,hs,hx,hrun];refine hK _ _ (h _ (zm.mk hb (setRow_heap w g cur _ 100 _ hh) (by omega) hm ?_ ?_ (fun q hq=>h8 q (by simp[hq])) (by have:=hown.2.2;simp at this;omega)) (QV _ _ _) (by simp[World.setRow]))
 ·simp[hl];omega
 rw[<-hl];simp
theorem zcE (n:Nat):∀u∈(Builtin.zeroCells #[.int .i64 0,.int .u8 0,.int .u8 0,.int .u8 0,.int .u8 0,.int .u8 0,.int .u8 0,.int .u8 0,.int .u8 0] n).toList,u.oneCell'=true:=fun u hu=>by
 simp only[Builtin.zeroCells,Array.toList_map,List.mem_map,Array.toList_range,List.mem_range]at hu;obtain⟨i,_,rfl⟩:=hu;have h9:i % 9<9:=Nat.mod_lt _ (by decide)
 show(#[Value.int .i64 0,.int .u8 0,.int .u8 0,.int .u8 0,.int .u8 0,.int .u8 0,.int .u8 0,.int .u8 0,.int .u8 0]:Array Value)[i % 9]!.oneCell'=true
 generalize i % 9=k at h9
 match k,h9 with
 | 0,_=>rfl
 | 1,_=>rfl
 | 2,_=>rfl
 | 3,_=>rfl
 | 4,_=>rfl
 | 5,_=>rfl
 | 6,_=>rfl
 | 7,_=>rfl
 | 8,_=>rfl
theorem zaN {w:World} {rest:List Oper} {a:Act} (hgd:o.guard=none) (x:Operand) (ho:o.op= .call { callee:= .builtin .clear,args:=#[x],argTypes:=#[32] })
  (base g cap n:Nat) (qs:List (Int × List Int)) (hown:zm base w (.slice (some ⟨g,0,none⟩) n cap) qs) (ad:Addr) (k c':Nat) (hx:a.eval x= .slice (some ad) k c') (hk:qs.length+k<=cap) (had:0<k->ad=⟨g,qs.length*9,none⟩)
  (h:∀w',zm base w' (.slice (some ⟨g,0,none⟩) n cap) qs->w.grownBy w' (some g)->w'.heap.size=w.heap.size->wpList prog ops Q rest (a.put o.dst (.tuple #[])) w'):wpList prog ops Q (o :: rest) a w:=by
 refine wpList_plain hgd fun K hK=>?_
 cases k with
 | zero=>
  have hrun:(Builtin.clear_ #[32] o.type #[.slice (some ad) 0 c']).run prog w= .ok (.tuple #[]) w:=by
   simp[Builtin.clear_,run_underlying underlying32]
  unfold Oper.wp execOp;simp only[ho,resolve,invoke,builtin,Sem.run_bind,Sem.run_pure,rA,List.map_toArray,mP,List.map_nil,hx,hrun];exact hK _ _ (h w hown (World.grownBy.rfl' _ _) rfl)
 | succ k=>
  have had':=had (by omega)
  subst had';obtain⟨hn,hb,hnc,hm,cur,hh,hsz,ht⟩:=hown.block;obtain⟨Z,hZ⟩:∃Z,(Builtin.zeroCells #[.int .i64 0,.int .u8 0,.int .u8 0,.int .u8 0,.int .u8 0,.int .u8 0,.int .u8 0,.int .u8 0,.int .u8 0] (k+1)).toList=Z:=⟨_,rfl⟩;have hzl:Z.length=(k+1)*9:=by
   rw[<-hZ,Array.length_toList,size_zeroCells];rfl
  have hone:∀u∈Z,u.oneCell'=true:=by rw[<-hZ];exact zcE _
  have hst:=run_storeCells_at prog g (qs.length*9) 100 Z 0 cur w hh (by rw[hzl,hsz];omega) hone
  simp only[Nat.add_zero]at hst;have hrun:(Builtin.clear_ #[32] o.type #[.slice (some ⟨g,qs.length*9,none⟩) (k+1) c']).run prog w= .ok (.tuple #[]) (w.setRow g (cur.toList.take (qs.length*9)++Z++cur.toList.drop (qs.length*9+Z.length)).toArray):=by
   simp only[Builtin.clear_]
   simp[run_underlying underlying32,Tryz.zeroValue100,Value.cells,hZ,hst]
  unfold Oper.wp execOp;simp only[ho,resolve,invoke,builtin,Sem.run_bind,Sem.run_pure,rA,List.map_toArray,mP,List.map_nil,hx,hrun];subst hn;have hcl:cur.toList.length=cap*9:=by simpa using hsz
  refine hK _ _ (h _ (zm.mk hb (setRow_heap w g cur _ 100 _ hh) hnc hm ?_ ?_ hown.2.1 hown.2.2) (QV _ _ _) (by simp[World.setRow]))
  ·simp only[List.size_toArray,lA,List.length_take,List.length_drop,hzl,hcl];omega
  rw[List.append_assoc,List.take_left' (by rw[List.length_take,hcl];omega)]
  exact ht
theorem zfd {a b c:World} {g:Nat} (h:zc a b) (k:b.grownBy c (some g)):a.grownBy c (some g):=
 ⟨k.os.trans h.os,k.tape.trans h.tape,k.output.trans h.output,nT h.size k.size,fun i hi hne=>(k.block i (Nat.lt_of_lt_of_le hi h.size) hne).trans (h.block i hi)⟩
theorem zej (base g cap:Nat) (q0:Int × List Int) (r:List (Int × List Int)) (w:World) (hown:zm base w (.slice (some ⟨g,0,none⟩) (r.length+1) cap) (q0 :: r)) (hr:1<=r.length) (h400:r.length<=400):
  Calls prog 221 #[.slice (some ⟨g,0,none⟩) (r.length+1) cap,.int .i64 0,.int .i64 1] w fun e w'=>e= .returned (.slice (some ⟨g,0,none⟩) r.length cap)/\zm base w' (.slice (some ⟨g,0,none⟩) r.length cap) r/\w.grownBy w' (some g):=by
 obtain⟨_,_,hcap,hmax,_⟩:=hown.block;have HO:Hid (zm base w (.slice (some ⟨g,0,none⟩) (r.length+1) cap) (q0 :: r)):=hown;simp only[List.length_cons]at hcap;obtain⟨k,HK⟩:∃k,Hid (r.length=k):=⟨_,rfl⟩;have hmax':cap<=9223372036854775807:=by simpa [maxLen]using hmax
 rw[HK.out]at hcap hr h400 HO⊢;clear hown hmax;have h1:¬cap=1:=by omega
 have h2:((k+1:Nat):Int)=(k:Int)+1:=by omega
 have h3:(k:Int)+1<=(cap:Int):=by omega
 have h4:(1:Int)<=(k:Int):=by omega
 go_enter func221,ntmps221
 go_wp2;have hne:Nonempty (zE w):=⟨⟨_,zc.refl _⟩⟩;refine Zy 6 [] qn (by kernel_rfl) rfl rfl (by decide) (by simp) (by simp) ?_
 simp only[List.take,List.drop];iterate 6 (refine zn rfl rfl rfl (fun K hK=>?_);go_big_quiet_op;refine hK _ ?_;clear hK)
 refine qT fun w' hg _=>?_
 have HO':=dD (HO.out.grew hg);have HG:Hid (zc w w'):=hg;clear hg hne
 go_wp2_with (first
  | (refine JD rfl (.tmp 22) (.tmp 25) rfl base g cap (k+1) q0 r HO'.out rfl (cap - 1) (by rw[HK.out];rfl) ?_;intro w2 ow2 gr2 sz2;have O2:Hid (zm base w2 (.slice (some ⟨g,0,none⟩) r.length cap) r):=ow2;have G2:Hid (w'.grownBy w2 (some g)):=gr2;clear ow2 gr2 sz2;rw[HK.out])
  | (refine zaN rfl (.tmp 31) rfl base g cap _ r O2.out _ 1 _ rfl (by rw[HK.out];exact hcap) (fun _=>by rw[HK.out]) ?_;intro w3 ow3 gr3 sz3;have O3:Hid (zm base w3 (.slice (some ⟨g,0,none⟩) r.length cap) r):=ow3;have G3:Hid (w2.grownBy w3 (some g)):=gr3;clear ow3 gr3 sz3))
 go_ret;exact⟨rfl,by rw[<-HK.out];exact O3.out,zfd HG.out (Qz G2.out G3.out)⟩
theorem zh.beside {base:Nat} {w:World} {bv qv:Value} {ps:List (List Int)} {qs:List (Int × List Int)} (h:zh base w bv ps) (k:zm base' w qv qs) (hg:w.grownBy w' qv.ownBlock):zh base w' bv ps:=by
 refine⟨⟨h.1.1,?_⟩,h.2⟩
 rcases h.1.2 with h1|⟨g,cap,cur,rfl,h2,h3,h4⟩
 ·exact .inl h1
 refine .inr ⟨g,cap,cur,rfl,h2,?_,h4⟩;rw[hg.block g (aS.1 h3).1 (fun e=>?_)]
 ·exact h3
 rcases k.1.2 with⟨rfl,_⟩|⟨g',cap',cur',rfl,_,k3,_⟩
 ·cases e
 simp only[Value.ownBlock,Option.some.injEq]at e;subst e;rw[h3]at k3;cases k3
theorem zm.beside {base:Nat} {w:World} {bv qv:Value} {ps:List (List Int)} {qs:List (Int × List Int)} (k:zm base' w qv qs) (h:zh base w bv ps) (hg:w.grownBy w' bv.ownBlock):zm base' w' qv qs:=by
 refine⟨⟨k.1.1,?_⟩,k.2⟩
 rcases k.1.2 with h1|⟨g,cap,cur,rfl,h2,h3,h4⟩
 ·exact .inl h1
 refine .inr ⟨g,cap,cur,rfl,h2,?_,h4⟩;rw[hg.block g (aS.1 h3).1 (fun e=>?_)]
 ·exact h3
 rcases h.1.2 with⟨rfl,_⟩|⟨g',cap',cur',rfl,_,k3,_⟩
 ·cases e
 simp only[Value.ownBlock,Option.some.injEq]at e;subst e;rw[h3]at k3;cases k3
theorem zm.lt {base:Nat} {w:World} {v:Value} {qs:List (Int × List Int)} (h:zm base w v qs):∀g,v.ownBlock=some g->base<=g/\g<w.heap.size:=h.1.lt
theorem zh.lt {base:Nat} {w:World} {v:Value} {ps:List (List Int)} (h:zh base w v ps):∀g,v.ownBlock=some g->base<=g/\g<w.heap.size:=h.1.lt
theorem zm.ne {base:Nat} {w:World} {v:Value} {qs:List (Int × List Int)} (h:zm base w v qs) {cs:List Value} (hb:zp w b 34 cs):∀g,v.ownBlock=some g->b≠g:=fun g hg e=>by
 subst e
 rcases h.1.2 with⟨rfl,_⟩|⟨g',cap,cur,rfl,_,h3,_⟩
 ·cases hg
 simp only[Value.ownBlock,Option.some.injEq]at hg;subst hg;rw[hb]at h3;cases h3
theorem zh.ne {base:Nat} {w:World} {v:Value} {ps:List (List Int)} (h:zh base w v ps) {cs:List Value} (hb:zp w b 34 cs):∀g,v.ownBlock=some g->b≠g:=fun g hg e=>by
 subst e
 rcases h.1.2 with⟨rfl,_⟩|⟨g',cap,cur,rfl,_,h3,_⟩
 ·cases hg
 simp only[Value.ownBlock,Option.some.injEq]at hg;subst hg;rw[hb]at h3;cases h3
theorem zh.setOther {base:Nat} {w:World} {v:Value} {ps:List (List Int)} (h:zh base w v ps) {a:Addr} (ha:∀g,v.ownBlock=some g->a.block≠g) (u:Value):zh base (w.setCell a u) v ps:=⟨jC h.1 ha u,h.2⟩
theorem zm.setOther {base:Nat} {w:World} {v:Value} {qs:List (Int × List Int)} (h:zm base w v qs) {a:Addr} (ha:∀g,v.ownBlock=some g->a.block≠g) (u:Value):zm base (w.setCell a u) v qs:=⟨jC h.1 ha u,h.2⟩
theorem zh.form {base:Nat} {w:World} {v:Value} {ps:List (List Int)} (h:zh base w v ps):∃a c,v= .slice a ps.length c:=by
 obtain⟨a,c,h1,_⟩:=h.at.rows;exact⟨a,c,h1⟩
theorem zm.form {base:Nat} {w:World} {v:Value} {qs:List (Int × List Int)} (h:zm base w v qs):∃a c,v= .slice a qs.length c:=by
 obtain⟨a,c,h1,_⟩:=h.at.rows;exact⟨a,c,h1⟩
theorem zm.snoc {base:Nat} {w:World} {v:Value} {qs:List (Int × List Int)} {q:Int × List Int} (h:w.ownsRow base 100 9 v (qs.length+1) (qs.flatMap ptc++ptc q)) (h8:∀x∈qs,x.2.length=8) (hq:q.2.length=8) (hb:(qs.length+1)*16<=140737488355328):zm base w v (qs++ [q]):=by
 refine⟨by simpa using h,fun x hx=>?_,by simpa using hb⟩
 rcases List.mem_append.1 hx with h1|h1
 ·exact h8 x h1
 simp at h1;subst h1;exact hq
theorem zii {base Bo R:Nat} {w:World} {bv qv:Value} {ps:List (List Int)} {qs:List (Int × List Int)} {cs:List Value} (hp:zh base w bv ps) (hq:zm base w qv qs) (hB:zp w Bo 34 cs) (hR:R<base) (hb:base'<=base):
  qi base' (((w.setCell ⟨Bo,1,none⟩ qv).setCell ⟨R,0,none⟩ bv).setCell ⟨R,1,none⟩ qv) (.agg #[bv,qv]) ps qs:=by
 have hp1:=((hp.setOther (a:=⟨Bo,1,none⟩) (hp.ne hB) qv).setCell (a:=⟨R,0,none⟩) hR bv).setCell (a:=⟨R,1,none⟩) hR qv;have hq1:=((hq.setOther (a:=⟨Bo,1,none⟩) (hq.ne hB) qv).setCell (a:=⟨R,0,none⟩) hR bv).setCell (a:=⟨R,1,none⟩) hR qv;exact qi.base (QF.new ⟨_,_,rfl,hp1,hq1⟩) hb
theorem zm.head {base:Nat} {w:World} {g n cap:Nat} {m c0 c1 c2 c3 c4 c5 c6 c7:Int} {r:List (Int × List Int)} (h:zm base w (.slice (some ⟨g,0,none⟩) n cap) ((m,[c0,c1,c2,c3,c4,c5,c6,c7]) :: r)):
  w.cell? ⟨g,0,none⟩=some (.int .i64 m)/\w.cell? ⟨g,1,none⟩=some (.int .u8 c0)/\w.cell? ⟨g,2,none⟩=some (.int .u8 c1)/\w.cell? ⟨g,3,none⟩=some (.int .u8 c2)/\w.cell? ⟨g,4,none⟩=some (.int .u8 c3)/\w.cell? ⟨g,5,none⟩=some (.int .u8 c4)/\w.cell? ⟨g,6,none⟩=some (.int .u8 c5)/\w.cell? ⟨g,7,none⟩=some (.int .u8 c6)/\w.cell? ⟨g,8,none⟩=some (.int .u8 c7):=by
 have hc:∀(j:Nat) u,(((m,[c0,c1,c2,c3,c4,c5,c6,c7]) :: r).flatMap ptc)[j]? =some u->w.cell? ⟨g,j,none⟩=some u:=fun j u hj=>by
  have:=h.1.cells rfl j u hj;rwa [Addr.add_lit,zA]at this
 exact⟨hc 0 _ rfl,hc 1 _ rfl,hc 2 _ rfl,hc 3 _ rfl,hc 4 _ rfl,hc 5 _ rfl,hc 6 _ rfl,hc 7 _ rfl,hc 8 _ rfl⟩
def ju (ps : List (List Int)) (qs : List (Int × List Int)) : List (List Int) := if qs.length = 400 then ps.set (qs.headD (0, [])).1.toNat (qs.headD (0, [])).2 else ps
def jy (qs : List (Int × List Int)) (m : Int) (p : List Int) : List (Int × List Int) := (if qs.length = 400 then qs.tail else qs) ++ [(m, p)]
def jD (ps : List (List Int)) (qs : List (Int × List Int)) (m : Int) : List (List Int) := if zw ps.length qs m = 0 then ju ps qs else []
def jK (ps : List (List Int)) (qs : List (Int × List Int)) (m : Int) (p : List Int) : List (Int × List Int) := if zw ps.length qs m = 0 then jy qs m p else []
theorem zhp (d : Value) (ps : List (List Int)) (qs : List (Int × List Int)) (m : Int) (p : List Int) (hp : p.length = 8) (w : World) (hd : Zb w d ps qs) (hr0 : ¬ zw ps.length qs m = 0) :
    Calls Tryz.prog 195 #[d, .int .i64 m, .agg (pgc p).toArray] w fun e w' => ∃ d', e = .returned (.tuple #[d', .int .i64 (zw ps.length qs m)]) /\ qi w.heap.size w' d' (jD ps qs m) (jK ps qs m p) /\ zc w w' := by
  obtain ⟨p0, p1, p2, p3, p4, p5, p6, p7, rfl⟩ := zeE p hp
  have HD : Hid (Zb w d ps qs) := hd
  obtain ⟨b, q, rfl, hb, hq⟩ := hd
  have HQ : Hid (qE w q qs) := hq
  obtain ⟨ab, cb, rfl, _⟩ := hb.rows
  obtain ⟨aq, cq, rfl, _⟩ := hq.rows
  clear hb hq hp
  show Calls Tryz.prog 195 #[.agg #[.slice ab ps.length cb, .slice aq qs.length cq], .int .i64 m, .agg #[.int .u8 p0, .int .u8 p1, .int .u8 p2, .int .u8 p3, .int .u8 p4, .int .u8 p5, .int .u8 p6, .int .u8 p7]] w _
  have HP : Hid (jD ps qs m = if zw ps.length qs m = 0 then ju ps qs else []) := rfl
  have HQ' : Hid (jK ps qs m [p0, p1, p2, p3, p4, p5, p6, p7] = if zw ps.length qs m = 0 then jy qs m [p0, p1, p2, p3, p4, p5, p6, p7] else []) := rfl
  obtain ⟨W0, hW0⟩ : ∃ W0, ((w.alloc (.cells #[.slice ab ps.length cb, .slice aq qs.length cq] 34)).alloc (.cells #[.int .u8 p0, .int .u8 p1, .int .u8 p2, .int .u8 p3, .int .u8 p4, .int .u8 p5, .int .u8 p6, .int .u8 p7] 44)).alloc (.cells #[.slice none 0 0, .slice none 0 0] 34) = W0 := ⟨_, rfl⟩
  have HG0 : Hid (zc w W0) := show zc w W0 by rw [<- hW0]; exact ((za _ _).trans (za _ _)).trans (za _ _)
  have X0 : Hid (Box W0 w.heap.size [.slice ab ps.length cb, .slice aq qs.length cq]) := show Box _ _ _ by rw [<- hW0]; exact ((Box.top w [.slice ab ps.length cb, .slice aq qs.length cq] _ rfl).alloc _).alloc _
  have X1 : Hid (Box W0 (w.heap.size + 1) [.int .u8 p0, .int .u8 p1, .int .u8 p2, .int .u8 p3, .int .u8 p4, .int .u8 p5, .int .u8 p6, .int .u8 p7]) := show Box _ _ _ by rw [<- hW0]; exact (Box.top _ [.int .u8 p0, .int .u8 p1, .int .u8 p2, .int .u8 p3, .int .u8 p4, .int .u8 p5, .int .u8 p6, .int .u8 p7] _ (by simp)).alloc _
  have X2 : Hid (Box W0 (w.heap.size + 1 + 1) [.slice none 0 0, .slice none 0 0]) := show Box _ _ _ by rw [<- hW0]; exact Box.top _ [.slice none 0 0, .slice none 0 0] _ (by simp)
  have hcon := JC ab ps.length cb (.slice aq qs.length cq) qs m W0 (HQ.out.grew HG0.out)
  have hown : ∀ W, zc W0 W -> Calls Tryz.prog 60 #[.agg #[.slice ab ps.length cb, .slice aq qs.length cq]] W fun e w' => ∃ d', e = .returned d' /\ QF W.heap.size w' d' ps qs /\ zc W w' := fun W hW => zbo _ ps qs W (HD.out.grew (HG0.out.trans hW))
  obtain ⟨r, HW⟩ : ∃ r, Hid (zw ps.length qs m = r) := ⟨_, rfl⟩
  rw [HW.out] at hcon HP HQ' ⊢
  obtain ⟨nb, HNB⟩ : ∃ nb, Hid (ps.length = nb) := ⟨_, rfl⟩
  obtain ⟨nq, HNQ⟩ : ∃ nq, Hid (qs.length = nq) := ⟨_, rfl⟩
  rw [HNB.out, HNQ.out] at hcon hW0 X0 ⊢
  simp only [HNB.out, HNQ.out] at hown
  have HW0 : Hid (_ = W0) := hW0
  clear hW0
  have hr : ¬ r = 0 := fun e => hr0 (HW.out.trans e)
  have hne : (r != 0) = true := by simpa using hr
  rw [if_neg hr] at HP HQ'
  rw [HP.out, HQ'.out]
  go_enter Tryz.func195, Tryz.ntmps195
  go_wp2_with (go_at_call 171; rw [HW0.out]; refine hcon.mono ?_; rintro e W1 ⟨rfl, hg1⟩
               have Y2 := X2.out.grew hg1
               have c0 := Y2.c 0 rfl
               have c1 := Y2.c 1 rfl
               have f0 := Y2.f
               clear Y2)
  refine bodyPost_ret (v := .tuple #[.agg #[.slice none 0 0, .slice none 0 0], .int .i64 r]) (by simp [results, Tryz.results195, go_sem, *]) rfl ⟨_, rfl, zc1 _ _, ?_⟩
  have HG1 : zc w W1 := HG0.out.trans hg1
  iterate 2 (refine zC ?_ (by simp; omega) _)
  exact HG1
theorem zho (d : Value) (ps : List (List Int)) (qs : List (Int × List Int)) (m : Int) (p : List Int) (hp : p.length = 8) (w : World) (hd : Zb w d ps qs) (hr0 : zw ps.length qs m = 0) (h4 : ¬ qs.length = 400) :
    Calls Tryz.prog 195 #[d, .int .i64 m, .agg (pgc p).toArray] w fun e w' => ∃ d', e = .returned (.tuple #[d', .int .i64 (zw ps.length qs m)]) /\ qi w.heap.size w' d' (jD ps qs m) (jK ps qs m p) /\ zc w w' := by
  obtain ⟨p0, p1, p2, p3, p4, p5, p6, p7, rfl⟩ := zeE p hp
  have HD : Hid (Zb w d ps qs) := hd
  obtain ⟨b, q, rfl, hb, hq⟩ := hd
  have HQ : Hid (qE w q qs) := hq
  obtain ⟨ab, cb, rfl, _⟩ := hb.rows
  obtain ⟨aq, cq, rfl, _⟩ := hq.rows
  clear hb hq hp
  show Calls Tryz.prog 195 #[.agg #[.slice ab ps.length cb, .slice aq qs.length cq], .int .i64 m, .agg #[.int .u8 p0, .int .u8 p1, .int .u8 p2, .int .u8 p3, .int .u8 p4, .int .u8 p5, .int .u8 p6, .int .u8 p7]] w _
  have HP : Hid (jD ps qs m = if zw ps.length qs m = 0 then ju ps qs else []) := rfl
  have HQ' : Hid (jK ps qs m [p0, p1, p2, p3, p4, p5, p6, p7] = if zw ps.length qs m = 0 then jy qs m [p0, p1, p2, p3, p4, p5, p6, p7] else []) := rfl
  obtain ⟨W0, hW0⟩ : ∃ W0, ((w.alloc (.cells #[.slice ab ps.length cb, .slice aq qs.length cq] 34)).alloc (.cells #[.int .u8 p0, .int .u8 p1, .int .u8 p2, .int .u8 p3, .int .u8 p4, .int .u8 p5, .int .u8 p6, .int .u8 p7] 44)).alloc (.cells #[.slice none 0 0, .slice none 0 0] 34) = W0 := ⟨_, rfl⟩
  have HG0 : Hid (zc w W0) := show zc w W0 by rw [<- hW0]; exact ((za _ _).trans (za _ _)).trans (za _ _)
  have X0 : Hid (Box W0 w.heap.size [.slice ab ps.length cb, .slice aq qs.length cq]) := show Box _ _ _ by rw [<- hW0]; exact ((Box.top w [.slice ab ps.length cb, .slice aq qs.length cq] _ rfl).alloc _).alloc _
  have X1 : Hid (Box W0 (w.heap.size + 1) [.int .u8 p0, .int .u8 p1, .int .u8 p2, .int .u8 p3, .int .u8 p4, .int .u8 p5, .int .u8 p6, .int .u8 p7]) := show Box _ _ _ by rw [<- hW0]; exact (Box.top _ [.int .u8 p0, .int .u8 p1, .int .u8 p2, .int .u8 p3, .int .u8 p4, .int .u8 p5, .int .u8 p6, .int .u8 p7] _ (by simp)).alloc _
  have X2 : Hid (Box W0 (w.heap.size + 1 + 1) [.slice none 0 0, .slice none 0 0]) := show Box _ _ _ by rw [<- hW0]; exact Box.top _ [.slice none 0 0, .slice none 0 0] _ (by simp)
  have hcon := JC ab ps.length cb (.slice aq qs.length cq) qs m W0 (HQ.out.grew HG0.out)
  have hown : ∀ W, zc W0 W -> Calls Tryz.prog 60 #[.agg #[.slice ab ps.length cb, .slice aq qs.length cq]] W fun e w' => ∃ d', e = .returned d' /\ QF W.heap.size w' d' ps qs /\ zc W w' := fun W hW => zbo _ ps qs W (HD.out.grew (HG0.out.trans hW))
  obtain ⟨r, HW⟩ : ∃ r, Hid (zw ps.length qs m = r) := ⟨_, rfl⟩
  rw [HW.out] at hcon HP HQ' ⊢
  obtain ⟨nb, HNB⟩ : ∃ nb, Hid (ps.length = nb) := ⟨_, rfl⟩
  obtain ⟨nq, HNQ⟩ : ∃ nq, Hid (qs.length = nq) := ⟨_, rfl⟩
  rw [HNB.out, HNQ.out] at hcon hW0 X0 ⊢
  simp only [HNB.out, HNQ.out] at hown
  have HW0 : Hid (_ = W0) := hW0
  clear hW0
  have hr := HW.out.symm.trans hr0
  subst hr
  rw [if_pos rfl] at HP HQ'
  obtain ⟨hw0, i, hmi, hib⟩ := qP HW.out
  obtain ⟨hn80, hq400, hin⟩ := jT hw0
  obtain ⟨i0, hi, hz0, hz1, hz2⟩ := info_parts zlL
  rw [HP.out, HQ'.out]
  clear hmi hib
  have h400 : ¬ nq = 400 := fun e => h4 (HNQ.out.trans e)
  have hb4 : ((nq : Int) == 400) = false := by simp; omega
  have HB' : Hid (ju ps qs = ps) := show ju ps qs = ps by unfold ju; rw [if_neg (by rw [HNQ.out]; exact h400)]
  have HQ2 : Hid (jy qs m [p0, p1, p2, p3, p4, p5, p6, p7] = qs ++ [(m, [p0, p1, p2, p3, p4, p5, p6, p7])]) := show jy _ _ _ = _ by unfold jy; rw [if_neg (by rw [HNQ.out]; exact h400)]
  have H400 : Hid (qs.length <= 400) := hq400
  clear hq400 hin hn80 hw0
  go_enter Tryz.func195, Tryz.ntmps195
  go_wp2_with (first
    | (go_at_call 171; rw [HW0.out]; refine hcon.mono ?_; rintro e W1 ⟨rfl, hg1⟩
       have G1 : Hid (zc W0 W1) := hg1
       have e0 := (X0.out.grew hg1).c 0 rfl
       have e1 := (X0.out.grew hg1).c 1 rfl)
    | (go_at_call 60; refine (hown W1 G1.out).mono ?_; rintro e W2 ⟨d', rfl, hd', hg2⟩
       obtain ⟨bv, qv, rfl, ob, oq⟩ := hd'
       obtain ⟨ab', cb', rfl⟩ := ob.form
       obtain ⟨aq', cq', rfl⟩ := oq.form
       have OB : Hid (zh W1.heap.size W2 (.slice ab' ps.length cb') ps) := ob
       have OQ : Hid (zm W1.heap.size W2 (.slice aq' qs.length cq') qs) := oq
       have G2 : Hid (zc W1 W2) := hg2
       rw [HNB.out] at OB
       rw [HNQ.out] at OQ
       rw [HNB.out, HNQ.out]
       clear ob oq hg1 hg2 e0 e1
       have P1 := (X1.out.grew G1.out).grew G2.out
       have lt1 : w.heap.size + 1 < W2.heap.size := P1.lt
       have u0 := P1.c 0 rfl
       have u1 := P1.c 1 rfl
       have u2 := P1.c 2 rfl
       have u3 := P1.c 3 rfl
       have u4 := P1.c 4 rfl
       have u5 := P1.c 5 rfl
       have u6 := P1.c 6 rfl
       have u7 := P1.c 7 rfl
       clear P1)
    | (at_builtin
       have O4 := OQ.out.grew ((za W2 (.cells #[.slice ab' nb cb', .slice aq' nq cq'] 34)).trans (za _ (.cells #[.int .i64 m, .int .u8 p0, .int .u8 p1, .int .u8 p2, .int .u8 p3, .int .u8 p4, .int .u8 p5, .int .u8 p6, .int .u8 p7] 100)))
       have P4 := OB.out.grew ((za W2 (.cells #[.slice ab' nb cb', .slice aq' nq cq'] 34)).trans (za _ (.cells #[.int .i64 m, .int .u8 p0, .int .u8 p1, .int .u8 p2, .int .u8 p3, .int .u8 p4, .int .u8 p5, .int .u8 p6, .int .u8 p7] 100)))
       have B4 := (zp.top W2 [.slice ab' nb cb', .slice aq' nq cq'] 34 rfl).grew (za _ (.cells #[.int .i64 m, .int .u8 p0, .int .u8 p1, .int .u8 p2, .int .u8 p3, .int .u8 p4, .int .u8 p5, .int .u8 p6, .int .u8 p7] 100))
       have R4 := ((((X2.out.grew G1.out).grew G2.out).grew (za W2 (.cells #[.slice ab' nb cb', .slice aq' nq cq'] 34))).grew (za _ (.cells #[.int .i64 m, .int .u8 p0, .int .u8 p1, .int .u8 p2, .int .u8 p3, .int .u8 p4, .int .u8 p5, .int .u8 p6, .int .u8 p7] 100)))
       refine wpList_append_own _ rfl (.tmp 40) (.tmp 44) 32 rfl W1.heap.size 100 i0 _ 9 16 Tryz.underlying32 hi hz0 hz1 hz2 rfl (by decide) _ _ _ rfl O4.1 ⟨W2.heap.size + 1, 0, none⟩ 1 1 (ptc (m, [p0, p1, p2, p3, p4, p5, p6, p7])) rfl rfl (jl.top _ (ptc (m, [p0, p1, p2, p3, p4, p5, p6, p7])) _ (by simp)) (zbk _) (qx (by have := H400.out; omega)) (by have := H400.out; omega) (by have := Below.size G2.out; simp; omega) ?_
       intro v' W5 hown' hgrow _
       have N5 : Hid (zm W1.heap.size W5 v' (qs ++ [(m, [p0, p1, p2, p3, p4, p5, p6, p7])])) := zm.snoc hown' OQ.out.2.1 rfl (by have := H400.out; omega)
       have P5 : Hid (zh W1.heap.size W5 (.slice ab' nb cb') ps) := P4.beside O4 hgrow
       have B5 : Hid (zp W5 W2.heap.size 34 [.slice ab' nb cb', .slice aq' nq cq']) := B4.beside hgrow (O4.ne B4)
       have R5 : Hid (Box W5 (w.heap.size + 1 + 1) [.slice none 0 0, .slice none 0 0]) := R4.beside hgrow (fun g hg => by have h1 := (O4.lt g hg).1; have h2 := (X2.out.grew G1.out).lt; omega)
       have G5 : Hid (zc w W5) := qa (((HG0.out.trans G1.out).trans G2.out).trans ((za _ _).trans (za _ _))) hgrow (fun g hg => by have h1 := (O4.lt g hg).1; have h2 := Below.size (HG0.out.trans G1.out); omega)
       obtain ⟨av, cv, hv'⟩ := N5.out.form
       rw [List.length_append, HNQ.out, List.length_singleton] at hv'
       subst hv'
       have v0 := B5.out.box.c 0 rfl
       have v1 := B5.out.box.c 1 rfl
       have vf := B5.out.box.f
       have y0 := R5.out.c 0 rfl
       have y1 := R5.out.c 1 rfl
       have yf := R5.out.f
       have hneb : w.heap.size + 1 + 1 ≠ W2.heap.size := by have := ((X2.out.grew G1.out).grew G2.out).lt; omega
       clear O4 P4 B4 R4 hown' hgrow u0 u1 u2 u3 u4 u5 u6 u7 lt1))
  refine bodyPost_ret (v := .tuple #[.agg #[.slice ab' nb cb', .slice av (nq + 1) cv], .int .i64 0]) (by simp [results, Tryz.results195, go_sem, *]) rfl ⟨_, rfl, ?_, ?_⟩
  · rw [HB'.out, HQ2.out]
    exact zii P5.out N5.out B5.out (X2.out.grew G1.out).lt (Below.size (HG0.out.trans G1.out))
  · have h1 := Below.size (HG0.out.trans G1.out)
    have h2 := Below.size G2.out
    iterate 3 (refine zC ?_ (by simp; omega) _)
    exact G5.out
theorem zgg (d : Value) (ps : List (List Int)) (qs : List (Int × List Int)) (m : Int) (p : List Int) (hp : p.length = 8) (w : World) (hd : Zb w d ps qs) (hr0 : zw ps.length qs m = 0) (h4 : qs.length = 400) :
    Calls Tryz.prog 195 #[d, .int .i64 m, .agg (pgc p).toArray] w fun e w' => ∃ d', e = .returned (.tuple #[d', .int .i64 (zw ps.length qs m)]) /\ qi w.heap.size w' d' (jD ps qs m) (jK ps qs m p) /\ zc w w' := by
  obtain ⟨p0, p1, p2, p3, p4, p5, p6, p7, rfl⟩ := zeE p hp
  have HD : Hid (Zb w d ps qs) := hd
  obtain ⟨b, q, rfl, hb, hq⟩ := hd
  have HQ : Hid (qE w q qs) := hq
  obtain ⟨ab, cb, rfl, _⟩ := hb.rows
  obtain ⟨aq, cq, rfl, _⟩ := hq.rows
  clear hb hq hp
  show Calls Tryz.prog 195 #[.agg #[.slice ab ps.length cb, .slice aq qs.length cq], .int .i64 m, .agg #[.int .u8 p0, .int .u8 p1, .int .u8 p2, .int .u8 p3, .int .u8 p4, .int .u8 p5, .int .u8 p6, .int .u8 p7]] w _
  have HP : Hid (jD ps qs m = if zw ps.length qs m = 0 then ju ps qs else []) := rfl
  have HQ' : Hid (jK ps qs m [p0, p1, p2, p3, p4, p5, p6, p7] = if zw ps.length qs m = 0 then jy qs m [p0, p1, p2, p3, p4, p5, p6, p7] else []) := rfl
  obtain ⟨W0, hW0⟩ : ∃ W0, ((w.alloc (.cells #[.slice ab ps.length cb, .slice aq qs.length cq] 34)).alloc (.cells #[.int .u8 p0, .int .u8 p1, .int .u8 p2, .int .u8 p3, .int .u8 p4, .int .u8 p5, .int .u8 p6, .int .u8 p7] 44)).alloc (.cells #[.slice none 0 0, .slice none 0 0] 34) = W0 := ⟨_, rfl⟩
  have HG0 : Hid (zc w W0) := show zc w W0 by rw [<- hW0]; exact ((za _ _).trans (za _ _)).trans (za _ _)
  have X0 : Hid (Box W0 w.heap.size [.slice ab ps.length cb, .slice aq qs.length cq]) := show Box _ _ _ by rw [<- hW0]; exact ((Box.top w [.slice ab ps.length cb, .slice aq qs.length cq] _ rfl).alloc _).alloc _
  have X1 : Hid (Box W0 (w.heap.size + 1) [.int .u8 p0, .int .u8 p1, .int .u8 p2, .int .u8 p3, .int .u8 p4, .int .u8 p5, .int .u8 p6, .int .u8 p7]) := show Box _ _ _ by rw [<- hW0]; exact (Box.top _ [.int .u8 p0, .int .u8 p1, .int .u8 p2, .int .u8 p3, .int .u8 p4, .int .u8 p5, .int .u8 p6, .int .u8 p7] _ (by simp)).alloc _
  have X2 : Hid (Box W0 (w.heap.size + 1 + 1) [.slice none 0 0, .slice none 0 0]) := show Box _ _ _ by rw [<- hW0]; exact Box.top _ [.slice none 0 0, .slice none 0 0] _ (by simp)
  have hcon := JC ab ps.length cb (.slice aq qs.length cq) qs m W0 (HQ.out.grew HG0.out)
  have hown : ∀ W, zc W0 W -> Calls Tryz.prog 60 #[.agg #[.slice ab ps.length cb, .slice aq qs.length cq]] W fun e w' => ∃ d', e = .returned d' /\ QF W.heap.size w' d' ps qs /\ zc W w' := fun W hW => zbo _ ps qs W (HD.out.grew (HG0.out.trans hW))
  obtain ⟨r, HW⟩ : ∃ r, Hid (zw ps.length qs m = r) := ⟨_, rfl⟩
  rw [HW.out] at hcon HP HQ' ⊢
  obtain ⟨nb, HNB⟩ : ∃ nb, Hid (ps.length = nb) := ⟨_, rfl⟩
  obtain ⟨nq, HNQ⟩ : ∃ nq, Hid (qs.length = nq) := ⟨_, rfl⟩
  rw [HNB.out, HNQ.out] at hcon hW0 X0 ⊢
  simp only [HNB.out, HNQ.out] at hown
  have HW0 : Hid (_ = W0) := hW0
  clear hW0
  have hr := HW.out.symm.trans hr0
  subst hr
  rw [if_pos rfl] at HP HQ'
  obtain ⟨hw0, i, hmi, hib⟩ := qP HW.out
  obtain ⟨hn80, hq400, hin⟩ := jT hw0
  obtain ⟨i0, hi, hz0, hz1, hz2⟩ := info_parts zlL
  rw [HP.out, HQ'.out]
  clear hmi hib
  have h400 := HNQ.out.symm.trans h4
  subst h400
  obtain ⟨q0, r, rfl⟩ : ∃ q0 r, qs = q0 :: r := by
    cases qs with
    | nil => exact absurd HNQ.out (by simp)
    | cons q0 r => exact ⟨q0, r, rfl⟩
  have HR : Hid (r.length = 399) := show r.length = 399 by have := HNQ.out; simpa using this
  obtain ⟨mi, l⟩ := q0
  obtain ⟨c0, c1, c2, c3, c4, c5, c6, c7, rfl⟩ := zeE l (HQ.out.2.1 (mi, l) (by simp))
  obtain ⟨i1, hmi1, hib1⟩ := hin _ (List.mem_cons_self)
  simp only at hmi1
  subst hmi1
  have hi1n : i1 < nb := by rw [<- HNB.out]; exact hib1
  have hi1z : (i1 : Int) < (nb : Int) := by omega
  have HB' : Hid (ju ps (((i1 : Int), [c0, c1, c2, c3, c4, c5, c6, c7]) :: r) = ps.set i1 [c0, c1, c2, c3, c4, c5, c6, c7]) := show ju _ _ = _ by unfold ju; rw [if_pos HNQ.out]; rfl
  have HQ2 : Hid (jy (((i1 : Int), [c0, c1, c2, c3, c4, c5, c6, c7]) :: r) m [p0, p1, p2, p3, p4, p5, p6, p7] = r ++ [(m, [p0, p1, p2, p3, p4, p5, p6, p7])]) := show jy _ _ _ = _ by unfold jy; rw [if_pos HNQ.out]; rfl
  clear hq400 hin hn80 hw0 hib1
  go_enter Tryz.func195, Tryz.ntmps195
  go_wp2_with (first
    | (go_at_call 171; rw [HW0.out]; refine hcon.mono ?_; rintro e W1 ⟨rfl, hg1⟩
       have G1 : Hid (zc W0 W1) := hg1
       have e0 := (X0.out.grew hg1).c 0 rfl
       have e1 := (X0.out.grew hg1).c 1 rfl)
    | (go_at_call 60; refine (hown W1 G1.out).mono ?_; rintro e W2 ⟨d', rfl, hd', hg2⟩
       obtain ⟨bv, qv, rfl, ob, oq⟩ := hd'
       obtain ⟨gb, capb, hbv⟩ : ∃ gb capb, bv = .slice (some ⟨gb, 0, none⟩) nb capb := by
         rcases ob.1.2 with ⟨_, h0⟩ | ⟨gv, cap, cur, h0, _⟩
         · have := HNB.out; omega
         · exact ⟨gv, cap, by rw [h0, HNB.out]⟩
       subst hbv
       obtain ⟨gq, capq, hqv⟩ : ∃ gq capq, qv = .slice (some ⟨gq, 0, none⟩) 400 capq := by
         rcases oq.1.2 with ⟨_, h0⟩ | ⟨gv, cap, cur, h0, _⟩
         · simp at h0
         · exact ⟨gv, cap, by rw [h0, HNQ.out]⟩
       subst hqv
       have OB : Hid (zh W1.heap.size W2 (.slice (some ⟨gb, 0, none⟩) nb capb) ps) := ob
       have OQ : Hid (zm W1.heap.size W2 (.slice (some ⟨gq, 0, none⟩) 400 capq) (((i1 : Int), [c0, c1, c2, c3, c4, c5, c6, c7]) :: r)) := oq
       have G2 : Hid (zc W1 W2) := hg2
       obtain ⟨k0, k1, k2, k3, k4, k5, k6, k7, k8⟩ := oq.head
       have lq : gq < W2.heap.size := (oq.lt gq rfl).2
       clear ob oq hg1 hg2 e0 e1)
    | (refine jr rfl (.tmp 34) (.tmp 33) rfl W1.heap.size _ ps (OB.out.grew ((za W2 (.cells #[.slice (some ⟨gb, 0, none⟩) nb capb, .slice (some ⟨gq, 0, none⟩) 400 capq] 34)).trans (za _ (.cells #[.int .i64 (i1 : Int), .int .u8 c0, .int .u8 c1, .int .u8 c2, .int .u8 c3, .int .u8 c4, .int .u8 c5, .int .u8 c6, .int .u8 c7] 100)))) gb i1 rfl (by rw [HNB.out]; exact hi1n) [c0, c1, c2, c3, c4, c5, c6, c7] rfl _ rfl (by simp) rfl ?_
       intro W5 ow5 gr5 _
       have O4 := OQ.out.grew ((za W2 (.cells #[.slice (some ⟨gb, 0, none⟩) nb capb, .slice (some ⟨gq, 0, none⟩) 400 capq] 34)).trans (za _ (.cells #[.int .i64 (i1 : Int), .int .u8 c0, .int .u8 c1, .int .u8 c2, .int .u8 c3, .int .u8 c4, .int .u8 c5, .int .u8 c6, .int .u8 c7] 100)))
       have P4 := OB.out.grew ((za W2 (.cells #[.slice (some ⟨gb, 0, none⟩) nb capb, .slice (some ⟨gq, 0, none⟩) 400 capq] 34)).trans (za _ (.cells #[.int .i64 (i1 : Int), .int .u8 c0, .int .u8 c1, .int .u8 c2, .int .u8 c3, .int .u8 c4, .int .u8 c5, .int .u8 c6, .int .u8 c7] 100)))
       have B4 := (zp.top W2 [.slice (some ⟨gb, 0, none⟩) nb capb, .slice (some ⟨gq, 0, none⟩) 400 capq] 34 rfl).grew (za _ (.cells #[.int .i64 (i1 : Int), .int .u8 c0, .int .u8 c1, .int .u8 c2, .int .u8 c3, .int .u8 c4, .int .u8 c5, .int .u8 c6, .int .u8 c7] 100))
       have hgb := P4.lt gb rfl
       have O5 : Hid (zm W1.heap.size W5 (.slice (some ⟨gq, 0, none⟩) 400 capq) (((i1 : Int), [c0, c1, c2, c3, c4, c5, c6, c7]) :: r)) := O4.beside P4 gr5
       have P5 : Hid (zh W1.heap.size W5 (.slice (some ⟨gb, 0, none⟩) nb capb) (ps.set i1 [c0, c1, c2, c3, c4, c5, c6, c7])) := ow5
       have B5 : Hid (zp W5 W2.heap.size 34 [.slice (some ⟨gb, 0, none⟩) nb capb, .slice (some ⟨gq, 0, none⟩) 400 capq]) := B4.beside gr5 (P4.ne B4)
       have R5 : Hid (Box W5 (w.heap.size + 1 + 1) [.slice none 0 0, .slice none 0 0]) := ((((X2.out.grew G1.out).grew G2.out).grew (za W2 _)).grew (za _ _)).beside gr5 (fun g hg => by cases hg; have h2 := (X2.out.grew G1.out).lt; omega)
       have A5 : Hid (Box W5 (w.heap.size + 1) [.int .u8 p0, .int .u8 p1, .int .u8 p2, .int .u8 p3, .int .u8 p4, .int .u8 p5, .int .u8 p6, .int .u8 p7]) := ((((X1.out.grew G1.out).grew G2.out).grew (za W2 _)).grew (za _ _)).beside gr5 (fun g hg => by cases hg; have h2 := (X1.out.grew G1.out).lt; omega)
       have G5 : Hid (zc w W5) := qa (((HG0.out.trans G1.out).trans G2.out).trans ((za _ _).trans (za _ _))) gr5 (fun g hg => by cases hg; have h2 := Below.size (HG0.out.trans G1.out); omega)
       have v0 := B5.out.box.c 0 rfl
       have v1 := B5.out.box.c 1 rfl
       clear O4 P4 B4 ow5 gr5 k0 k1 k2 k3 k4 k5 k6 k7 k8 lq hgb)
    | (go_at_call 221
       have hdel := zej W1.heap.size gq capq ((i1 : Int), [c0, c1, c2, c3, c4, c5, c6, c7]) r W5 (by rw [HR.out]; exact O5.out) (by rw [HR.out]; decide) (by rw [HR.out]; decide)
       rw [HR.out] at hdel
       refine hdel.mono ?_
       rintro e W6 ⟨rfl, ow6, gr6⟩
       have hgq := O5.out.lt gq rfl
       have O6 : Hid (zm W1.heap.size W6 (.slice (some ⟨gq, 0, none⟩) 399 capq) r) := ow6
       have P6 : Hid (zh W1.heap.size W6 (.slice (some ⟨gb, 0, none⟩) nb capb) (ps.set i1 [c0, c1, c2, c3, c4, c5, c6, c7])) := P5.out.beside O5.out gr6
       have B6 : Hid (zp W6 W2.heap.size 34 [.slice (some ⟨gb, 0, none⟩) nb capb, .slice (some ⟨gq, 0, none⟩) 400 capq]) := B5.out.beside gr6 (O5.out.ne B5.out)
       have R6 : Hid (Box W6 (w.heap.size + 1 + 1) [.slice none 0 0, .slice none 0 0]) := R5.out.beside gr6 (fun g hg => by cases hg; have h2 := (X2.out.grew G1.out).lt; omega)
       have A6 : Hid (Box W6 (w.heap.size + 1) [.int .u8 p0, .int .u8 p1, .int .u8 p2, .int .u8 p3, .int .u8 p4, .int .u8 p5, .int .u8 p6, .int .u8 p7]) := A5.out.beside gr6 (fun g hg => by cases hg; have h2 := (X1.out.grew G1.out).lt; omega)
       have G6 : Hid (zc w W6) := qa G5.out gr6 (fun g hg => by cases hg; have h2 := Below.size (HG0.out.trans G1.out); omega)
       clear hdel ow6 gr6 v0 v1 hgq
       have v0 := B6.out.box.c 0 rfl
       have v1 := B6.out.box.c 1 rfl
       have vf := B6.out.box.f
       have hneb1 : w.heap.size + 1 ≠ W2.heap.size := by have := ((X1.out.grew G1.out).grew G2.out).lt; omega
       have lt1 : w.heap.size + 1 < W6.heap.size := A6.out.lt
       have lt2 : W2.heap.size < W6.heap.size := B6.out.box.lt
       have u0 := A6.out.c 0 rfl
       have u1 := A6.out.c 1 rfl
       have u2 := A6.out.c 2 rfl
       have u3 := A6.out.c 3 rfl
       have u4 := A6.out.c 4 rfl
       have u5 := A6.out.c 5 rfl
       have u6 := A6.out.c 6 rfl
       have u7 := A6.out.c 7 rfl)
    | (at_builtin
       have g7 := za (W6.setCell ⟨W2.heap.size, 1, none⟩ (.slice (some ⟨gq, 0, none⟩) 399 capq)) (.cells #[.int .i64 m, .int .u8 p0, .int .u8 p1, .int .u8 p2, .int .u8 p3, .int .u8 p4, .int .u8 p5, .int .u8 p6, .int .u8 p7] 100)
       have O7 := (O6.out.setOther (a := ⟨W2.heap.size, 1, none⟩) (O6.out.ne B6.out) (.slice (some ⟨gq, 0, none⟩) 399 capq)).grew g7
       have P7 := (P6.out.setOther (a := ⟨W2.heap.size, 1, none⟩) (P6.out.ne B6.out) (.slice (some ⟨gq, 0, none⟩) 399 capq)).grew g7
       have B7 := (B6.out.set 1 (.slice (some ⟨gq, 0, none⟩) 399 capq)).grew g7
       have R7 := (R6.out.other (a := ⟨W2.heap.size, 1, none⟩) (by have := ((X2.out.grew G1.out).grew G2.out).lt; show w.heap.size + 1 + 1 ≠ W2.heap.size; omega) (.slice (some ⟨gq, 0, none⟩) 399 capq)).grew g7
       have G7 := (show zc w (W6.setCell ⟨W2.heap.size, 1, none⟩ (.slice (some ⟨gq, 0, none⟩) 399 capq)) from zC G6.out (by have := Below.size ((HG0.out.trans G1.out).trans G2.out); exact this) _).trans g7
       refine wpList_append_own _ rfl (.tmp 40) (.tmp 44) 32 rfl W1.heap.size 100 i0 _ 9 16 Tryz.underlying32 hi hz0 hz1 hz2 rfl (by decide) _ _ _ rfl O7.1 ⟨W6.heap.size, 0, none⟩ 1 1 (ptc (m, [p0, p1, p2, p3, p4, p5, p6, p7])) rfl rfl (jl.top _ (ptc (m, [p0, p1, p2, p3, p4, p5, p6, p7])) _ (by simp)) (zbk _) (qx (by rw [HR.out]; decide)) (by rw [HR.out]; decide) (by have h1 := Below.size G2.out; have h2 := Below.size g7; have h3 := B6.out.box.lt; simp at h2 ⊢; omega) ?_
       intro v' W8 hown' hgrow _
       have N5 : Hid (zm W1.heap.size W8 v' (r ++ [(m, [p0, p1, p2, p3, p4, p5, p6, p7])])) := zm.snoc hown' O6.out.2.1 rfl (by rw [HR.out]; decide)
       have P8 : Hid (zh W1.heap.size W8 (.slice (some ⟨gb, 0, none⟩) nb capb) (ps.set i1 [c0, c1, c2, c3, c4, c5, c6, c7])) := P7.beside O7 hgrow
       have B8 : Hid (zp W8 W2.heap.size 34 [.slice (some ⟨gb, 0, none⟩) nb capb, .slice (some ⟨gq, 0, none⟩) 399 capq]) := B7.beside hgrow (O7.ne B7)
       have R8 : Hid (Box W8 (w.heap.size + 1 + 1) [.slice none 0 0, .slice none 0 0]) := R7.beside hgrow (fun g hg => by have h1 := (O7.lt g hg).1; have h2 := (X2.out.grew G1.out).lt; omega)
       have G8 : Hid (zc w W8) := qa G7 hgrow (fun g hg => by have h1 := (O7.lt g hg).1; have h2 := Below.size (HG0.out.trans G1.out); omega)
       obtain ⟨av, cv, hv'⟩ := N5.out.form
       rw [List.length_append, HR.out, List.length_singleton] at hv'
       subst hv'
       clear v0 v1 vf
       have v0 := B8.out.box.c 0 rfl
       have v1 := B8.out.box.c 1 rfl
       have vf := B8.out.box.f
       have y0 := R8.out.c 0 rfl
       have y1 := R8.out.c 1 rfl
       have yf := R8.out.f
       have hneb : w.heap.size + 1 + 1 ≠ W2.heap.size := by have := ((X2.out.grew G1.out).grew G2.out).lt; omega
       clear O7 P7 B7 R7 G7 g7 hown' hgrow u0 u1 u2 u3 u4 u5 u6 u7 lt1 lt2 hneb1))
  refine bodyPost_ret (v := .tuple #[.agg #[.slice (some ⟨gb, 0, none⟩) nb capb, .slice av 400 cv], .int .i64 0]) (by simp [results, Tryz.results195, go_sem, *]) rfl ⟨_, rfl, ?_, ?_⟩
  · rw [HB'.out, HQ2.out]
    exact zii P8.out N5.out B8.out (X2.out.grew G1.out).lt (Below.size (HG0.out.trans G1.out))
  · have h1 := Below.size (HG0.out.trans G1.out)
    have h2 := Below.size G2.out
    iterate 3 (refine zC ?_ (by simp; omega) _)
    exact G8.out
theorem zhq (d : Value) (ps : List (List Int)) (qs : List (Int × List Int)) (m : Int) (p : List Int) (hp : p.length = 8) (w : World) (hd : Zb w d ps qs) :
    Calls Tryz.prog 195 #[d, .int .i64 m, .agg (pgc p).toArray] w fun e w' => ∃ d', e = .returned (.tuple #[d', .int .i64 (zw ps.length qs m)]) /\ qi w.heap.size w' d' (jD ps qs m) (jK ps qs m p) /\ zc w w' := by
  by_cases hr0 : zw ps.length qs m = 0
  · by_cases h4 : qs.length = 400
    · exact zgg d ps qs m p hp w hd hr0 h4
    · exact zho d ps qs m p hp w hd hr0 h4
  · exact zhp d ps qs m p hp w hd hr0
def QM (m : Int) (j : Nat) : Bool := bits BinOp.and IntKind.i64 (m / 2 ^ (j % 60)) 1 == 1
theorem zgX (m : Int) (B : Nat) (j : Nat) (hj : j <= 400) (w : World) (hc : w.cell? ⟨B, 0, none⟩ = some (.int .i64 m)) :
    Calls Tryz.prog 127 #[.int .i64 (j : Int), .pointer (some ⟨B, 0, none⟩)] w fun e w' => e = .returned (.bool (QM m j)) /\ zc w w' := by
  have H : Hid (QM m j = (bits BinOp.and IntKind.i64 (m / 2 ^ (j % 60)) 1 == 1)) := rfl
  go_enter Tryz.func127, Tryz.ntmps127
  go_wp2
  go_ret
  rw [H.out]
  exact ⟨rfl, zc.refl _⟩
theorem zdE (m : Int) (B : Nat) (w : World) (hc : w.cell? ⟨B, 0, none⟩ = some (.int .i64 m)) : zfx 127 #[.pointer (some ⟨B, 0, none⟩)] (QM m) w := fun W j hW hj =>
  zgX m B j hj W ((Below.cell hW (World.block_lt_of_cell? _ _ hc)).trans hc)
theorem zit (d : Value) (ps : List (List Int)) (qs : List (Int × List Int)) (m : Int) (w : World) (hd : Zb w d ps qs) :
    Calls Tryz.prog 78 #[d, .int .i64 m] w fun e w' => ∃ d', e = .returned (.tuple #[d', .int .i64 (zF ps.length qs)]) /\ qi w.heap.size w' d' (zcb (QM m) ps qs) [] /\ zc w w' := by
  have HD : Hid (Zb w d ps qs) := hd
  obtain ⟨b, q, rfl, hb, hq⟩ := hd
  obtain ⟨ab, cb, rfl, _⟩ := hb.rows
  obtain ⟨aq, cq, rfl, _⟩ := hq.rows
  clear hb hq
  obtain ⟨W0, hW0⟩ : ∃ W0, ((w.alloc (.cells #[.slice ab ps.length cb, .slice aq qs.length cq] 34)).alloc (.cells #[.int .i64 m] 3)).alloc (.cells #[.slice none 0 0, .slice none 0 0] 34) = W0 := ⟨_, rfl⟩
  have HG0 : Hid (zc w W0) := show zc w W0 by rw [<- hW0]; exact ((za _ _).trans (za _ _)).trans (za _ _)
  have B1 : Box W0 (w.heap.size + 1) [.int .i64 m] := by rw [<- hW0]; exact (Box.top _ [.int .i64 m] _ (by simp)).alloc _
  have B2 : Box W0 (w.heap.size + 1 + 1) [.slice none 0 0, .slice none 0 0] := by rw [<- hW0]; exact Box.top _ [.slice none 0 0, .slice none 0 0] _ (by simp)
  have hcon := zgk (QM m) 127 #[.pointer (some ⟨w.heap.size + 1, 0, none⟩)] (enters_of Tryz.func127 (by kernel_rfl) rfl) _ ps qs W0 (HD.out.grew HG0.out) (zdE m (w.heap.size + 1) W0 (B1.c 0 rfl))
  have HB2 : Hid (Box W0 (w.heap.size + 1 + 1) [.slice none 0 0, .slice none 0 0]) := B2
  obtain ⟨nb, HNB⟩ : ∃ nb, Hid (ps.length = nb) := ⟨_, rfl⟩
  obtain ⟨nq, HNQ⟩ : ∃ nq, Hid (qs.length = nq) := ⟨_, rfl⟩
  obtain ⟨r, HW⟩ : ∃ r, Hid (zF nb qs = r) := ⟨_, rfl⟩
  rw [HNB.out, HNQ.out, HW.out] at hcon
  rw [HNB.out, HNQ.out] at hW0
  have HW0 : Hid (_ = W0) := hW0
  clear hW0
  rw [HNB.out, HNQ.out, HW.out]
  clear B1 B2
  go_enter Tryz.func78, Tryz.ntmps78
  go_wp2_with (go_at_call 120; rw [HW0.out]
               refine hcon.mono ?_
               rintro e W1 ⟨d1, rfl, hd1, hg1⟩
               have b3 : Box W1 (w.heap.size + 1 + 1) [.slice none 0 0, .slice none 0 0] := HB2.out.grew hg1
               have c2 := b3.c 0 rfl
               have c3 := b3.c 1 rfl
               have f2 := b3.f 0
               have f3 := b3.f 1
               have HD1 : Hid (qi W0.heap.size W1 d1 (zcb (QM m) ps qs) []) := hd1
               have HG1 : Hid (zc w W1) := HG0.out.trans hg1
               obtain ⟨v1, v2, rfl, hv1, hv2, _⟩ := hd1
               obtain ⟨x1, y1, rfl, _⟩ := hv1.rows
               obtain ⟨x2, y2, rfl, _⟩ := hv2.rows
               clear hv1 hv2 b3)
  refine bodyPost_ret (v := .tuple #[.agg #[.slice x1 (zcb (QM m) ps qs).length y1, .slice x2 0 y2], .int .i64 r]) (by simp [results, Tryz.results78, go_sem, *]) rfl ⟨_, rfl, ?_, ?_⟩
  · have := HB2.out.lt
    exact ((HD1.out.setCell (by simpa using this) _).setCell (by simpa using this) _).base (Below.size HG0.out)
  · exact Below.setCell (Below.setCell HG1.out (p := ⟨w.heap.size + 1 + 1, 0, none⟩) (by simp; omega) _) (p := ⟨w.heap.size + 1 + 1, 1, none⟩) (by simp; omega) _
theorem al1:QK 3=0:=by decide
theorem al2:zfJ 3=[zz,zz,zz]:=by decide
theorem al3:zw [zz,zz,zz].length [] 1=0:=by decide
theorem al4:jD [zz,zz,zz] [] 1=[zz,zz,zz]:=by decide
theorem zhl {n:Nat} {qs:List (Int × List Int)} (hn:n<=80) (hq:qs.length<=400) (hin:∀q∈qs,∃i:Nat,q.1=(i:Int)/\i<n):zF n qs=0:=by
 unfold zF;rw[if_neg (by omega),if_neg (by omega),if_neg]
 intro h;obtain⟨q,hq,hb⟩:=List.any_eq_true.1 h;obtain⟨i,hi,hlt⟩:=hin q hq
 simp[jk,hi,hlt]at hb
theorem za9 {n:Nat} {qs:List (Int × List Int)} (h:zF n qs=0) (m:Int):zw n qs m=if jk m n then 0 else 3:=by
 unfold zw;rw[if_pos h]
theorem zah (ps:List (List Int)) (qs:List (Int × List Int)):(ju ps qs).length=ps.length:=by
 unfold ju
 split <;> simp
theorem zba {ps:List (List Int)} {qs:List (Int × List Int)} {m:Int} {p:List Int} (h:zw ps.length qs m=0):zF (ju ps qs).length (jy qs m p)=0:=by
 obtain⟨h0,i,hmi,hib⟩:=qP h;obtain⟨h1,h2,h3⟩:=jT h0;rw[zah];refine zhl h1 ?_ fun q hq=>?_
 ·unfold jy
  split
  ·simp;omega
  simp;omega
 unfold jy at hq
 rcases List.mem_append.1 hq with h4|h4
 ·split at h4
  ·exact h3 q (List.mem_of_mem_tail h4)
  exact h3 q h4
 simp at h4
 subst h4;exact⟨i,hmi,hib⟩
def zb9:Option (Int × List Int)->List Int->List Int
 | some q,_=>q.2
 | none,d=>d
theorem zcX {ps:List (List Int)} {qs:List (Int × List Int)} {m:Int} (h:zw ps.length qs m=0):Zf ps qs m=zb9 (qs.reverse.find? (fun q=>q.1 == m)) (ps.getD m.toNat zz):=by
 unfold Zf;rw[if_pos h]
 cases qs.reverse.find? (fun q=>q.1 == m) <;> rfl
theorem zbb {ps:List (List Int)} {qs:List (Int × List Int)} {m:Int} {p:List Int} (h:zw ps.length qs m=0) (o:Int):zw (ju ps qs).length (jy qs m p) o=zw ps.length qs o:=by
 rw[za9 (zba h),za9 (qP h).1,zah]
theorem zeN {ps:List (List Int)} {qs:List (Int × List Int)} {m:Int} {p:List Int} (h:zw ps.length qs m=0) {o:Int} (ho:¬o=m):Zf (ju ps qs) (jy qs m p) o=Zf ps qs o:=by
 have he:=zbb (p:=p) h o
 by_cases hz:zw ps.length qs o=0
 ·rw[zcX hz,zcX (he.trans hz)];have hmo:(m == o)=false:=by simpa using fun e=>ho (Eq.symm e)
  unfold jy ju
  by_cases h4:qs.length=400
  ·rw[if_pos h4,if_pos h4]
   cases qs with
   | nil=>simp at h4
   | cons q0 r=>
    obtain⟨_,i,hoi,hio⟩:=qP hz;obtain⟨i0,hq0,hi0⟩:=(jT (qP h).1).2.2 q0 (by simp)
    simp only[List.tail_cons,List.headD_cons,List.reverse_append,List.reverse_cons,List.reverse_nil,List.nil_append,List.cons_append,List.find?_cons,hmo,List.find?_append]
    cases hf:r.reverse.find? (fun q=>q.1 == o)with
    | some q=>rfl
    | none=>
     simp only[Option.none_or]
     cases hq:(q0.1 == o)with
     | true=>
      have:q0.1=o:=by simpa using hq
      subst this;simp only[hq0,tN,zb9]
      simp[hi0]
     | false=>
      have:q0.1≠o:=by simpa using hq
      simp only[List.find?_nil,zb9];rw[gD,gD,sN];rw[hq0,hoi]at this;rw[hq0,hoi];simp only[tN];omega
  rw[if_neg h4,if_neg h4]
  simp[hmo]
 have hz':¬zw (ju ps qs).length (jy qs m p) o=0:=by rw[he];exact hz
 unfold Zf;rw[if_neg hz,if_neg hz']
theorem zaF (a:Option Addr) (n c:Nat) (qv:Value) (qs:List (Int × List Int)) (w:World) (hq:qE w qv qs):
  Calls prog 92 #[.agg #[.slice a n c,qv]] w fun e w'=>e= .returned (.int .i64 (zF n qs))/\zc w w':=by
 have HL:Hid (zF n qs=if 80<n then 4 else if 400<qs.length then 4 else if qs.any (fun q=>!jk q.1 n)then 3 else 0):=rfl
 have hbig:qs.length<=9223372036854775807:=by have:=hq.2.2;omega
 obtain⟨a2,c2,rfl,hrow⟩:=hq.rows;have HRQ:Hid (JQ w a2 qs):=hrow;clear hq hrow;obtain⟨kq,HN⟩:∃kq,Hid (qs.length=kq):=⟨_,rfl⟩;rw[HN.out]at HL hbig⊢
 by_cases h1:80<n
 ·have h1':(80:Int)< (n:Int):=by omega
  rw[if_pos h1]at HL
  go_enter func92,ntmps92
  go_wp2;go_ret;exact⟨by rw[HL.out];rfl,za _ _⟩
 have h1':¬(80:Int)< (n:Int):=by omega
 rw[if_neg h1]at HL
 by_cases h2:400<kq
 ·have h2':(400:Int)< (kq:Int):=by omega
  rw[if_pos h2]at HL
  go_enter func92,ntmps92
  go_wp2;go_ret;exact⟨by rw[HL.out];rfl,za _ _⟩
 have h2':¬(400:Int)< (kq:Int):=by omega
 rw[if_neg h2]at HL;obtain⟨W0,hW0⟩:∃W0,w.alloc (.cells #[.slice a n c,.slice a2 kq c2] 34)=W0:=⟨_,rfl⟩;have HG0:=gA hW0
 have X0:=xA hW0
 have HW0:Hid (_=W0):=hW0;clear hW0
 go_enter func92,ntmps92
 go_wp2;rw[HW0.out]
 go_loopg [4,18] kq (fun gg _ s18 wr=>∃kk:Nat,kk<=kq/\kq - kk<=gg/\s18= .int .i64 kk/\Hid (zc W0 wr)/\Hid (∀(j:Nat) q,j<kk->qs[j]? =some q->jk q.1 n=true))
 case atStart=>exact⟨0,nZ _,by omega,rfl,zc.refl _,fun j q hj=>absurd hj (nL _)⟩
 obtain⟨kk,hkk,hg,rfl,BW,A⟩:=hrel
 by_cases hlt:kk<kq
 ·have hltz:(kk:Int)< (kq:Int):=by omega
  obtain⟨q,HQ⟩:∃q,Hid (qs[kk]? =some q):=⟨_,gE (by rw[HN.out];exact hlt)⟩
  obtain⟨x,m,b0,b1,b2,b3,b4,b5,b6,b7,rfl,rfl,hl⟩:=HRQ.out kk q HQ.out;obtain⟨d0,d1,d2,d3,d4,d5,d6,d7,d8⟩:=hl wr (HG0.out.trans BW.out);have X:=X0.out.grew BW.out;have z0:=X.c 0 rfl;have zl:=X.lt;clear hl
  by_cases hb:jk m n=true
  ·have hb':=hb;unfold jk at hb'
   simp at hb'
   have hm0:¬m<0:=by omega
   have hmn:¬(n:Int)<=m:=by omega
   have HB:Hid (jk m n=true):=hb;clear hb hb';go_wp2
   go_roundg (kq -(kk+1))
   case measure=>omega
   refine⟨kk+1,by omega,by omega,by go_num,BW.out.trans (za _ _),(show Hid _ from fun j q' hj hq'=>?_)⟩
   by_cases e:j=kk
   ·subst e;rw[HQ.out]at hq';cases hq';exact HB.out
   exact A.out j q' (by omega) hq'
  have hany:(qs.any fun q=>!jk q.1 n)=true:=List.any_eq_true.2 ⟨_,mG HQ.out,by simpa using hb⟩
  rw[if_pos hany]at HL;unfold jk at hb
  simp at hb
  clear hany
  by_cases hm0:m<0
  ·clear hb;go_wp2;go_ret;exact⟨by rw[HL.out];rfl,(HG0.out.trans BW.out).trans (za _ _)⟩
  have hmn:(n:Int)<=m:=hb (by omega)
  clear hb;go_wp2;go_ret;exact⟨by rw[HL.out];rfl,(HG0.out.trans BW.out).trans (za _ _)⟩
 have hltz:¬(kk:Int)< (kq:Int):=by omega
 have:kk=kq:=by omega
 subst this;have hany:¬(qs.any fun q=>!jk q.1 n)=true:=fun h=>by
  obtain⟨q,hq,hb⟩:=List.any_eq_true.1 h;obtain⟨j,hj⟩:=List.getElem?_of_mem hq;have:=A.out j q (by rw[<-HN.out];exact(gS.1 hj).1) hj
  rw[this]at hb
  simp at hb
 rw[if_neg hany]at HL;clear hany;go_wp2;go_ret;exact⟨by rw[HL.out];rfl,HG0.out.trans BW.out⟩
end
end Go.Proofs.YtacihbmelcegbaaGreat
