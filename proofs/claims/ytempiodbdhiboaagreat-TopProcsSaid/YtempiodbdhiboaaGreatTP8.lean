import Derived.Test.YtempiodbdhiboaaGreatTP7
import Derived.Deep.DeepCutAuto
import Derived.ChangeKeysEq
namespace Go.Proofs.YtempiodbdhiboaaGreat
open Go.Value renaming slice→O,int→Xe,bool→Xh,agg→Xi,pointer→Xj,tuple→Xm
open Go.IntKind renaming i64→Xf,u8→Xg
open Go.Obj renaming cells→Xk
open Go.Ending renaming returned→Xl
open Go renaming World→Xn,Calls→Xp,Value→Xq
open Go.RowKit renaming Hid→Xo
open Option renaming some→Xa,none→Xb
open Bool renaming true→Xc,false→Xd
open List renaming replicate→Xr
open Go.Act renaming put→Xs
open _root_.Nat renaming lt_of_lt_of_le→Xt
open _root_.List renaming getElem?_replicate→Xu,getElem?_append_left→Xx,mem_cons_of_mem→Xy,mem_cons_self→Xz
open _root_.Array renaming replicate→Xv
open Go.Sem renaming run_bind→Xw
set_option maxRecDepth 100000
set_option maxHeartbeats 4000000
section
open Go.RowKit
def UseA (w0:Xn) (m:Ma) (BF:Nat->Nat->Ar->Pg->Bool->Bool × Nat × Ma) (c:Cl) (wr:Bool) (cs:List Xq) (k er:Int) (w:Xn):Prop:=
 (er≠0/\NotUsed m BF c.proc (c.pt / 8) wr er)\/(er=0/\∃(V':MaV) (kk pc:Nat) (m':Ma),cs=chL V' m'/\k=(kk:Int)/\Used m BF c.proc (c.pt / 8) wr kk m'/\ChW w0 pc w V' m')
theorem UseA.lower {w0 w1 w w':Xn} {m:Ma} {BF:Nat->Nat->Ar->Pg->Bool->Bool × Nat × Ma} {c:Cl} {wr:Bool} {cs:List Xq} {k er:Int} {g:Nat} (h:UseA w1 m BF c wr cs k er w) (g2:w.grownBy w' (Xa g)) (hg:g<w1.heap.size) (gr:Grew w0 w') (hs:w0.heap.size<=w1.heap.size):UseA w0 m BF c wr cs k er w':=by
 rcases h with h | ⟨h1,V',kk,pc,m',h2,h3,h4,h5⟩
 ·exact .inl h
 exact .inr ⟨h1,V',kk,pc,m',h2,h3,h4,h5.lower g2 hg gr hs⟩
theorem UseA.newer {w0 w1 w w':Xn} {m:Ma} {BF:Nat->Nat->Ar->Pg->Bool->Bool × Nat × Ma} {c:Cl} {wr:Bool} {cs:List Xq} {k er:Int} (h:UseA w1 m BF c wr cs k er w) (g2:Grew w w') (gr:Grew w0 w') (hs:w0.heap.size<=w1.heap.size):UseA w0 m BF c wr cs k er w':=by
 rcases h with h | ⟨h1,V',kk,pc,m',h2,h3,h4,h5⟩
 ·exact .inl h
 exact .inr ⟨h1,V',kk,pc,m',h2,h3,h4,(h5.grew g2).rebase gr hs⟩
theorem OwnRow.range1 {α:Type} {E:Elt α} {base g n c:Nat} {w:Xn} {l:List α} (h:OwnRow E base w (O (Xa ⟨g,0,Xb⟩) n c) l) {i:Nat} {x:α} (hx:l[i]? =Xa x):w.rangeAt g (i*E.k) (E.enc x):=fun j v hj=>by
 have:=h.one hx j v hj;rw[add_add',Addr.add_lit,zA]at this;exact this
theorem run_quo8 {z:Int} (h:0<=z) (o:Oper) (a:Act) (x:Operand) (w:Xn) (ho:o.op= .binOp .quo 3 x (.const (Xe Xf 8)) 3) (hx:a.eval x= Xe Xf z) (h2:z<=9223372036854775807):(execOp a.eval o).run Tryz.prog w= .ok (.value (Xe Xf (z / 8))) w:=by
 have hc:a.eval (.const (Xe Xf 8))= Xe Xf 8:=rfl;simp only[execOp,ho,hx,hc]
 go_simp
 rw[Int.tdiv_eq_ediv_of_nonneg h];rw[IntKind.wrap_i64];omega
structure OwnB (B:Nat) (w:Xn) (V:MaV) (m:Ma):Prop where
 fs:OwnRow frmE B w (O V.f.a V.f.n V.f.c) m.fs
 ca:OwnRow cchE B w (O V.ca.a V.ca.n V.ca.c) m.ca
 sp:∃xs:List SpV,OwnRow spcE B w (O V.sp.a V.sp.n V.sp.c) xs/\xs.length=m.sp.length/\∀(i:Nat) x s,xs[i]? =Xa x->m.sp[i]? =Xa s->∀W,OutD (fun k=>k<B\/oB V.f k\/oB V.ca k\/oB V.sp k) w W->SpaceAt W x s
 rest:∀W,OutD (fun k=>k<B\/oB V.f k\/oB V.ca k\/oB V.sp k) w W->RestW W V m
theorem ChW.ownB {w1 u:Xn} {p:Nat} {V:MaV} {m:Ma} (h:ChW w1 p u V m):OwnB w1.heap.size u V m:=by
 obtain⟨xs,s1,s2,s3⟩:=h.sp;have key:∀{W:Xn},OutD (fun k=>k<w1.heap.size\/oB V.f k\/oB V.ca k\/oB V.sp k) u W->OutD (Dr w1.heap.size p V) u W:=fun hW=>hW.wide fun k hk=>hk.elim .inl fun e=> .inr (.inr e)
 exact⟨h.fs,h.ca,⟨xs,s1,s2,fun i x s hx hs W hW=>s3 i x s hx hs W (key hW)⟩,fun W hW=>h.rest W (key hW)⟩
theorem OwnB.out {B:Nat} {u u1:Xn} {V:MaV} {m:Ma} (h:OwnB B u V m) (o:OutD (fun k=>k<B) u u1):OwnB B u1 V m:=by
 obtain⟨xs,s1,s2,s3⟩:=h.sp;have key:∀{W:Xn},OutD (fun k=>k<B\/oB V.f k\/oB V.ca k\/oB V.sp k) u1 W->OutD (fun k=>k<B\/oB V.f k\/oB V.ca k\/oB V.sp k) u W:=fun hW=>(o.wide fun k hk=> .inl hk).trans hW
 have far:∀{α:Type} {E:Elt α} {v:Xq} {l:List α},OwnRow E B u v l->OwnRow E B u1 v l:=fun hr=>⟨owns_outD hr.1 o (fun g hg e=>by have:=(hr.lt g hg).1;have e:g<B:=e;omega),hr.2⟩
 exact⟨far h.fs,far h.ca,⟨xs,far s1,s2,fun i x s hx hs W hW=>s3 i x s hx hs W (key hW)⟩,fun W hW=>h.rest W (key hW)⟩
theorem OwnB.grew {B:Nat} {u u1:Xn} {V:MaV} {m:Ma} (h:OwnB B u V m) (g:Grew u u1):OwnB B u1 V m:=h.out (OutD.grew g)
theorem OwnB.at {B:Nat} {u:Xn} {V:MaV} {m:Ma} (h:OwnB B u V m):MachAt u V m:=by
 have r:=h.rest u (OutD.refl _ _);obtain⟨xs,s1,s2,s3⟩:=h.sp;exact⟨h.fs.at,r.sl,r.sb,r.sq,r.db,r.dq,r.fl,h.ca.at,⟨xs,s1.at,s2,fun i x s hx hs=>s3 i x s hx hs u (OutD.refl _ _)⟩⟩
theorem OwnB.frame {B:Nat} {u u1:Xn} {V:MaV} {m:Ma} (h:OwnB B u V m) {fs:List Fr} {g:Nat} (hg:oB V.f g) (g2:u.grownBy u1 (Xa g)) (nr:OwnRow frmE B u1 (O V.f.a V.f.n V.f.c) fs):OwnB B u1 V { m with fs:=fs }:=by
 obtain⟨xs,s1,s2,s3⟩:=h.sp;have o:OutD (fun k=>k<B\/oB V.f k\/oB V.ca k\/oB V.sp k) u u1:=OutD.grown g2 (.inr (.inl hg))
 refine⟨nr,h.ca.grown g2 (fun k hk e=>?_),⟨xs,s1.grown g2 (fun k hk e=>?_),s2,fun i x s hx hs W hW=>s3 i x s hx hs W (o.trans hW)⟩,fun W hW=>?_⟩
 ·cases e;exact h.fs.apart h.ca (by decide) g hg hk
 ·cases e;exact h.fs.apart s1 (by decide) g hg hk
 have r:=h.rest W (o.trans hW);exact⟨r.sl,r.sb,r.sq,r.db,r.dq,r.fl⟩
def KErr (m:Ma) (BF:Nat->Nat->Ar->Pg->Bool->Bool × Nat × Ma) (c:Cl) (n:Int) (wr:Bool) (er:Int):Prop:=
 (pgWithin c.pt n=Xd/\er=2)\/(pgWithin c.pt n=Xc/\NotUsed m BF c.proc (c.pt / 8) wr er)\/
 (pgWithin c.pt n=Xc/\er=9/\∃(kk:Nat) (m':Ma) (fr:Fr) (j:Nat) (fl:Fl),Used m BF c.proc (c.pt / 8) wr kk m'/\m'.fs[kk]? =Xa fr/\fr.f=(j:Int)/\m'.fl[j]? =Xa fl/\fl.size<fr.x*8+c.pt % 8+n)
def KFine (m:Ma) (BF:Nat->Nat->Ar->Pg->Bool->Bool × Nat × Ma) (c:Cl) (n:Int) (wr:Bool) (kk:Nat) (m':Ma) (fr:Fr):Prop:=
 pgWithin c.pt n=Xc/\Used m BF c.proc (c.pt / 8) wr kk m'/\m'.fs[kk]? =Xa fr/\(fr.f=-1\/∃(j:Nat) (fl:Fl),fr.f=(j:Int)/\m'.fl[j]? =Xa fl/\fr.x*8+c.pt % 8+n<=fl.size)
theorem KErr.ne {m:Ma} {BF:Nat->Nat->Ar->Pg->Bool->Bool × Nat × Ma} {c:Cl} {n:Int} {wr:Bool} {er:Int} (h:KErr m BF c n wr er):er≠0:=by
 rcases h with⟨_,rfl⟩ | ⟨_,h,_⟩ | ⟨_,rfl,_⟩
 ·decide
 ·exact h
 decide
def KUse (m:Ma) (BF:Nat->Nat->Ar->Pg->Bool->Bool × Nat × Ma) (c:Cl) (n:Int) (wr:Bool) (w0:Xn) (p:Nat) (w:Xn) (k er:Int) (w':Xn):Prop:=
 OutD (fun k=>k=p) w w'/\Grew w0 w'/\(KErr m BF c n wr er\/(er=0/\∃(kk:Nat) (m':Ma) (fr:Fr) (V':MaV) (B:Nat),k=(kk:Int)/\KFine m BF c n wr kk m' fr/\BoxT w' p 88 (chL V' m')/\w.heap.size<=B/\OwnB B w' V' m'))
theorem kuse_any {w0 w:Xn} {p:Nat} {V:MaV} {m:Ma} (h:ChW w0 p w V m) (c:Cl) (n:Int) (wr:Bool) (BF:Nat->Nat->Ar->Pg->Bool->Bool × Nat × Ma) (hb1:-9223372036854775808<=c.pt) (hb2:c.pt<=9223372036854775807) (hb3:-9223372036854775808<=n) (hb4:n<=9223372036854775807)
  (hU:∀W,Grew w W->Xp Tryz.prog 140 #[Xi #[O V.f.a V.f.n V.f.c,Xe Xf m.hand,O V.s.a V.s.n V.s.c,O V.sb.a V.sb.n V.sb.c,O V.sq.a V.sq.n V.sq.c,O V.db.a V.db.n V.db.c,O V.dq.a V.dq.n V.dq.c,O V.fl.a V.fl.n V.fl.c,Xe Xf m.cnt,O V.ca.a V.ca.n V.ca.c,O V.sp.a V.sp.n V.sp.c],Xe Xf c.proc,Xe Xf (c.pt / 8),Xh wr] W fun e w'=>((∃er:Int,e= Xl (Xm #[Xi zeroM.toArray,Xe Xf 0,Xe Xf er])/\NotUsed m BF c.proc (c.pt / 8) wr er)\/(∃(V':MaV) (k pc:Nat) (m':Ma),e= Xl (Xm #[Xi #[O V'.f.a V'.f.n V'.f.c,Xe Xf m'.hand,O V'.s.a V'.s.n V'.s.c,O V'.sb.a V'.sb.n V'.sb.c,O V'.sq.a V'.sq.n V'.sq.c,O V'.db.a V'.db.n V'.db.c,O V'.dq.a V'.dq.n V'.dq.c,O V'.fl.a V'.fl.n V'.fl.c,Xe Xf m'.cnt,O V'.ca.a V'.ca.n V'.ca.c,O V'.sp.a V'.sp.n V'.sp.c],Xe Xf (k:Int),Xe Xf 0])/\Used m BF c.proc (c.pt / 8) wr k m'/\ChW W pc w' V' m'))/\Grew W w')
  (hI:∀(kk:Nat) (m':Ma),Used m BF c.proc (c.pt / 8) wr kk m'->∃fr:Fr,m'.fs[kk]? =Xa fr/\(fr.f=-1\/∃(j:Nat) (fl:Fl),fr.f=(j:Int)/\m'.fl[j]? =Xa fl)/\0<=fr.x/\fr.x<1000):
  Xp Tryz.prog 81 #[Xj (Xa ⟨p,0,Xb⟩),Xi #[Xe Xf c.kind,Xe Xf c.proc,Xe Xf c.pt,Xe Xf c.n,Xe Xf c.file,Xe Xf c.base,Xh c.rd,Xh c.wr,Xh c.sh,O c.dv.a c.dv.n c.dv.c],Xe Xf n,Xh wr] w fun e w'=>∃k er:Int,e= Xl (Xm #[Xe Xf k,Xe Xf er])/\KUse m BF c n wr w0 p w k er w':=by
 have HM:Xo (ChW w0 p w V m):=h;have HUS0:=show Xo _ from hU
 have HPW:Xo (p<w.heap.size):=h.dlt p (.inl rfl);have hwi:=fun W=>pgWithin_any c.pt n W hb1 hb2 hb3 hb4
 have HBD:Xo (c.pt<=9223372036854775807/\n<=9223372036854775807):=show _/\_ from⟨hb2,hb4⟩
 have HII:=show Xo _ from hI
 clear h hU hI hb1 hb2 hb3 hb4;obtain⟨b,HB⟩:∃b,Xo (w.heap.size=b):=⟨_,rfl⟩;obtain⟨W1,hW1⟩:∃W1,w.alloc (Xk #[Xe Xf c.kind,Xe Xf c.proc,Xe Xf c.pt,Xe Xf c.n,Xe Xf c.file,Xe Xf c.base,Xh c.rd,Xh c.wr,Xh c.sh,O c.dv.a c.dv.n c.dv.c] 26)=W1:=⟨_,rfl⟩;have G1:=gA hW1
 have X1:=xPT hW1 HB
 have HW1:Xo (_=W1):=hW1;clear hW1;have M1:=dD (HM.out.grew G1.out);have HUS:Xo (∀W,Grew W1 W->_):=show∀W,_ from fun W hW=>HUS0.out W (G1.out.trans hW)
 go_enter Tryz.func81,Tryz.ntmps81
 go_upto_region 1 with fail;rw[HW1.out,HB.out];clear HW1 HUS0;have x2:=X1.out.box.c 2 rfl;have hw1:=hwi W1;clear hwi;obtain⟨WI,HWI⟩:∃WI,Xo (pgWithin c.pt n=WI):=⟨_,rfl⟩;rw[HWI.out]at hw1;go_wp2_with fail;refine hw1.mono ?_;rintro r w' ⟨rfl,hw'⟩;rw[hw'];clear hw' w' hw1 x2
 cases WI with
 | false=>
  go_wp2
  go_ret2
  exact⟨0,2,rfl,OutD.grew G1.out,HM.out.gr.trans G1.out,.inl (.inl ⟨HWI.out,rfl⟩)⟩
 | true=>
  have HW3:Xo (0<=c.pt/\0<=n/\n<=8 - c.pt % 8):=show _/\_ from of_decide_eq_true HWI.out
  have HQ8:Xo (∀(o:Oper) (a:Act) (x:Operand) (w:Xn),o.op= .binOp .quo 3 x (.const (Xe Xf 8)) 3->a.eval x= Xe Xf c.pt->(execOp a.eval o).run Tryz.prog w= .ok (.value (Xe Xf (c.pt / 8))) w):=show∀(o:Oper) (a:Act) (x:Operand) (w:Xn),_ from fun o a x w h1 h2=>run_quo8 HW3.out.1 o a x w h1 h2 HBD.out.1
  go_upto_region 3 with fail
  go_cut [10,11,12] (fun s10 s11 s12 wx=>∃(g:Nat) (k er:Int) (cs:List Xq),s10= Xj (Xa ⟨g,0,Xb⟩)/\s11= Xe Xf k/\s12= Xe Xf er/\Xo (BoxT wx g 42 cs)/\Xo (Grew W1 wx)/\Xo (W1.heap.size<=g)/\Xo (UseA W1 m BF c wr cs k er wx)/\Xo (cs.length=11/\∀x∈cs,x.oneCell'=Xc))
  case first=>
   refine wp_region_held (S:=fun W=>Grew W1 W) mixed ?_
   show wpAnyH _ _ _ _ _ 19 (Xv 19 Xd) _ W1.drew
   have GD:Grew W1 W1.drew:=(gW _)
   refine takeH 0 (Xa 22) (Xj (Xa ⟨p,0,Xb⟩)) rfl rfl (by kernel_rfl) (by kernel_rfl) (by kernel_rfl) (fun _ _ _ h=>h) (.inl ⟨rfl,fun _ _=>rfl⟩) GD ?_
   simp only[Xs,sB,sS,sZ];refine takeH 1 (Xa 23) (Xj (Xa ⟨p,0,Xb⟩)) rfl rfl (by kernel_rfl) (by kernel_rfl) (by kernel_rfl) (fun _ _ _ h=>h) (.inl ⟨rfl,fun _ _=>rfl⟩) GD ?_
   simp only[Xs,sB,sS,sZ];refine takeH 2 (Xa 24) (Xj (Xa ⟨p,0,Xb⟩)) rfl rfl (by kernel_rfl) (by kernel_rfl) (by kernel_rfl) (fun _ _ _ h=>h) (.inl ⟨rfl,fun _ _=>rfl⟩) GD ?_
   simp only[Xs,sB,sS,sZ];refine takeH 3 (Xa 25) (Xi (chL V m).toArray) rfl rfl (by kernel_rfl) (by kernel_rfl) (by kernel_rfl) (fun _ _ _ h=>h) (yieldsIf_load_mid rfl 42 (.tmp 24) rfl p 0 rfl (chL V m) _ (fun W hW=>(M1.out.box.box.grew hW).range) Tryz.underlying42 rfl (by kernel_rfl)) GD ?_
   simp only[Xs,sB,sS,sZ];refine takeH 4 (Xa 26) (Xj (Xa ⟨b,1,Xb⟩)) rfl rfl (by kernel_rfl) (by kernel_rfl) (by kernel_rfl) (fun _ _ _ h=>h) (.inl ⟨rfl,fun _ _=>rfl⟩) GD ?_
   simp only[Xs,sB,sS,sZ];refine takeH 5 (Xa 27) (Xe Xf c.proc) rfl rfl (by kernel_rfl) (by kernel_rfl) (by kernel_rfl) (fun _ _ _ h=>h) (.inl ⟨rfl,fun W hW=>run_load1 _ (.tmp 26) rfl ⟨b,1,Xb⟩ rfl (Xe Xf c.proc) ((X1.out.box.grew hW).c 1 rfl) Tryz.underlying3 rfl⟩) GD ?_
   simp only[Xs,sB,sS,sZ];refine takeH 6 (Xa 28) (Xj (Xa ⟨b,2,Xb⟩)) rfl rfl (by kernel_rfl) (by kernel_rfl) (by kernel_rfl) (fun _ _ _ h=>h) (.inl ⟨rfl,fun _ _=>rfl⟩) GD ?_
   simp only[Xs,sB,sS,sZ];refine takeH 7 (Xa 29) (Xe Xf c.pt) rfl rfl (by kernel_rfl) (by kernel_rfl) (by kernel_rfl) (fun _ _ _ h=>h) (.inl ⟨rfl,fun W hW=>run_load1 _ (.tmp 28) rfl ⟨b,2,Xb⟩ rfl (Xe Xf c.pt) ((X1.out.box.grew hW).c 2 rfl) Tryz.underlying3 rfl⟩) GD ?_
   simp only[Xs,sB,sS,sZ];refine takeH 8 (Xa 30) (Xe Xf (c.pt / 8)) rfl rfl (by kernel_rfl) (by kernel_rfl) (by kernel_rfl) (fun _ _ _ h=>h) (.inl ⟨rfl,fun W _=>HQ8.out _ _ _ W rfl rfl⟩) GD ?_
   simp only[Xs,sB,sS,sZ];refine takeH 9 (Xa 31) (Xh wr) rfl rfl (by kernel_rfl) (by kernel_rfl) (by kernel_rfl) (fun _ _ _ h=>h) (.inl ⟨rfl,fun _ _=>rfl⟩) GD ?_
   simp only[Xs,sB,sS,sZ];refine wpAnyH_all (rs:=[10,15]) (by kernel_rfl) (by simp) ?_
   intro j hj;simp only[mC,nM,or_false]at hj
   rcases hj with rfl | rfl
   ·skip
    refine wpOp_does (Xa 32) (fun v w'=>(∃(cs:List Xq) (k er:Int),v= Xm #[Xi cs.toArray,Xe Xf k,Xe Xf er]/\cs.length=11/\(∀x∈cs,x.oneCell'=Xc)/\UseA W1.drew m BF c wr cs k er w')/\Grew W1.drew w') rfl rfl rfl (Does.call [Xi #[O V.f.a V.f.n V.f.c,Xe Xf m.hand,O V.s.a V.s.n V.s.c,O V.sb.a V.sb.n V.sb.c,O V.sq.a V.sq.n V.sq.c,O V.db.a V.db.n V.db.c,O V.dq.a V.dq.n V.dq.c,O V.fl.a V.fl.n V.fl.c,Xe Xf m.cnt,O V.ca.a V.ca.n V.ca.c,O V.sp.a V.sp.n V.sp.c],Xe Xf c.proc,Xe Xf (c.pt / 8),Xh wr] rfl Tryz.func140 rfl rfl rfl ((HUS.out _ GD).mono ?_)) ?_
    ·rintro e w' ⟨h,hg2⟩
     rcases h with⟨er,rfl,hn⟩ | ⟨V',k,pc,m',rfl,hu,hc⟩
     ·exact⟨_,rfl,⟨zeroM,0,er,rfl,rfl,by unfold zeroM;simp[Value.oneCell'],.inl ⟨hn.1,hn⟩⟩,hg2⟩
     exact⟨_,rfl,⟨chL V' m',(k:Int),0,rfl,rfl,by simp[chL,Value.oneCell'],.inr ⟨rfl,V',k,pc,m',rfl,rfl,hu,hc⟩⟩,hg2⟩
    rintro v WT ⟨⟨cs,k,er,rfl,hlen,hone,hua⟩,gc⟩;have gt:Grew W1 WT:=GD.trans gc;refine⟨gt,?_⟩;simp only[Xs,sB,sS,sZ];refine takeH 11 (Xa 21) (Xm #[Xi cs.toArray,Xe Xf k,Xe Xf er]) rfl rfl (by kernel_rfl) (by kernel_rfl) (by kernel_rfl) (fun _ _ _ h=>h) (.inl ⟨rfl,fun _ _=>rfl⟩) gt ?_
    simp only[Xs,sB,sS,sZ];refine takeH 12 (Xa 33) (Xi cs.toArray) rfl rfl (by kernel_rfl) (by kernel_rfl) (by kernel_rfl) (fun _ _ _ h=>h) (.inl ⟨rfl,fun _ _=>rfl⟩) gt ?_
    simp only[Xs,sB,sS,sZ];refine takeH 13 (Xa 34) (Xe Xf k) rfl rfl (by kernel_rfl) (by kernel_rfl) (by kernel_rfl) (fun _ _ _ h=>h) (.inl ⟨rfl,fun _ _=>rfl⟩) gt ?_
    simp only[Xs,sB,sS,sZ];refine takeH 14 (Xa 35) (Xe Xf er) rfl rfl (by kernel_rfl) (by kernel_rfl) (by kernel_rfl) (fun _ _ _ h=>h) (.inl ⟨rfl,fun _ _=>rfl⟩) gt ?_
    simp only[Xs,sB,sS,sZ];refine wpAnyH_all (rs:=[15]) (by kernel_rfl) (by simp) ?_
    intro j hj;simp only[mC,nM,or_false]at hj;subst hj;refine wpOp_does (Xa 10) (fun v w'=>v= Xj (Xa ⟨(WT).heap.size,0,Xb⟩)/\w'=(WT).alloc (Xk zeroM.toArray 42)) rfl rfl rfl (Does.step (run_allocMach rfl) ⟨rfl,rfl⟩) ?_
    rintro v WA ⟨rfl,hwa⟩;have ga:Grew W1 WA:=by rw[hwa];exact gt.trans (grew_alloc _ _)
    have gl:Grew WT WA:=by rw[hwa];exact grew_alloc _ _
    obtain⟨g,HG⟩:∃g,Xo ((WT).heap.size=g):=⟨_,rfl⟩;have bp:BoxT WA g 42 zeroM:=by rw[hwa];exact BoxT.top _ zeroM _ HG.out.symm
    have hg1:W1.heap.size<=g:=by rw[<-HG.out];exact bS gt
    rw[HG.out];clear hwa;refine⟨ga,?_⟩;simp only[Xs,sB,sS,sZ];refine wpAnyH_all (rs:=[16]) (by kernel_rfl) (by simp) ?_
    intro j hj;simp only[mC,nM,or_false]at hj;subst hj;refine wpOp_does Xb (fun v w'=>Grew W1 w'/\BoxT w' g 42 cs/\UseA W1 m BF c wr cs k er w') rfl rfl rfl (Does.storeAllT 42 (.tmp 10) (.tmp 33) rfl g rfl cs rfl bp (by rw[hlen];rfl) (by kernel_rfl) hone (fun w' b' g' s'=>⟨grew_grown ga g' hg1,b',hua.newer (grew_grown gl g' (by rw[HG.out];exact nR _)) (grew_grown ga g' hg1) (bS GD)⟩)) ?_
    rintro v WS ⟨gs,bs,us⟩;refine⟨gs,?_⟩;simp only[Xs];refine takeH 17 (Xa 11) (Xe Xf k) rfl rfl (by kernel_rfl) (by kernel_rfl) (by kernel_rfl) (fun _ _ _ h=>h) (.inl ⟨rfl,fun _ _=>rfl⟩) gs ?_
    simp only[Xs,sB,sS,sZ];refine takeH 18 (Xa 12) (Xe Xf er) rfl rfl (by kernel_rfl) (by kernel_rfl) (by kernel_rfl) (fun _ _ _ h=>h) (.inl ⟨rfl,fun _ _=>rfl⟩) gs ?_
    simp only[Xs,sB,sS,sZ];refine wpAnyH_done (by kernel_rfl) ?_ _
    have BS:Xo (BoxT WS g 42 cs):=bs;have GS:Xo (Grew W1 WS):=gs;have HG1:Xo (W1.heap.size<=g):=hg1;have US:Xo (UseA W1 m BF c wr cs k er WS):=us;have HLN:Xo (cs.length=11/\∀x∈cs,x.oneCell'=Xc):=show _/\_ from⟨hlen,hone⟩
    clear gs bs us;go_wp2
    go_meet
    exact⟨g,k,er,cs,rfl,rfl,rfl,BS,GS,HG1,US,HLN⟩
   skip
   refine wpOp_does (Xa 10) (fun v w'=>v= Xj (Xa ⟨(W1.drew).heap.size,0,Xb⟩)/\w'=(W1.drew).alloc (Xk zeroM.toArray 42)) rfl rfl rfl (Does.step (run_allocMach rfl) ⟨rfl,rfl⟩) ?_
   rintro v WA ⟨rfl,hwa⟩;have ga:Grew W1 WA:=by rw[hwa];exact GD.trans (grew_alloc _ _)
   have gl:Grew W1.drew WA:=by rw[hwa];exact grew_alloc _ _
   obtain⟨g,HG⟩:∃g,Xo ((W1.drew).heap.size=g):=⟨_,rfl⟩;have bp:BoxT WA g 42 zeroM:=by rw[hwa];exact BoxT.top _ zeroM _ HG.out.symm
   have hg1:W1.heap.size<=g:=by rw[<-HG.out];exact bS GD
   rw[HG.out];clear hwa;refine⟨ga,?_⟩;simp only[Xs,sB,sS,sZ];refine wpAnyH_all (rs:=[10]) (by kernel_rfl) (by simp) ?_
   intro j hj;simp only[mC,nM,or_false]at hj;subst hj;refine wpOp_does (Xa 32) (fun v w'=>(∃(cs:List Xq) (k er:Int),v= Xm #[Xi cs.toArray,Xe Xf k,Xe Xf er]/\cs.length=11/\(∀x∈cs,x.oneCell'=Xc)/\UseA WA m BF c wr cs k er w')/\Grew WA w') rfl rfl rfl (Does.call [Xi #[O V.f.a V.f.n V.f.c,Xe Xf m.hand,O V.s.a V.s.n V.s.c,O V.sb.a V.sb.n V.sb.c,O V.sq.a V.sq.n V.sq.c,O V.db.a V.db.n V.db.c,O V.dq.a V.dq.n V.dq.c,O V.fl.a V.fl.n V.fl.c,Xe Xf m.cnt,O V.ca.a V.ca.n V.ca.c,O V.sp.a V.sp.n V.sp.c],Xe Xf c.proc,Xe Xf (c.pt / 8),Xh wr] rfl Tryz.func140 rfl rfl rfl ((HUS.out _ ga).mono ?_)) ?_
   ·rintro e w' ⟨h,hg2⟩
    rcases h with⟨er,rfl,hn⟩ | ⟨V',k,pc,m',rfl,hu,hc⟩
    ·exact⟨_,rfl,⟨zeroM,0,er,rfl,rfl,by unfold zeroM;simp[Value.oneCell'],.inl ⟨hn.1,hn⟩⟩,hg2⟩
    exact⟨_,rfl,⟨chL V' m',(k:Int),0,rfl,rfl,by simp[chL,Value.oneCell'],.inr ⟨rfl,V',k,pc,m',rfl,rfl,hu,hc⟩⟩,hg2⟩
   rintro v WT ⟨⟨cs,k,er,rfl,hlen,hone,hua⟩,gc⟩;have gt:Grew W1 WT:=ga.trans gc;refine⟨gt,?_⟩;simp only[Xs,sB,sS,sZ];have hlt:=bp.box.lt;have bp:=bp.grew gc;refine takeH 11 (Xa 21) (Xm #[Xi cs.toArray,Xe Xf k,Xe Xf er]) rfl rfl (by kernel_rfl) (by kernel_rfl) (by kernel_rfl) (fun _ _ _ h=>h) (.inl ⟨rfl,fun _ _=>rfl⟩) gt ?_
   simp only[Xs,sB,sS,sZ];refine takeH 12 (Xa 33) (Xi cs.toArray) rfl rfl (by kernel_rfl) (by kernel_rfl) (by kernel_rfl) (fun _ _ _ h=>h) (.inl ⟨rfl,fun _ _=>rfl⟩) gt ?_
   simp only[Xs,sB,sS,sZ];refine takeH 13 (Xa 34) (Xe Xf k) rfl rfl (by kernel_rfl) (by kernel_rfl) (by kernel_rfl) (fun _ _ _ h=>h) (.inl ⟨rfl,fun _ _=>rfl⟩) gt ?_
   simp only[Xs,sB,sS,sZ];refine takeH 14 (Xa 35) (Xe Xf er) rfl rfl (by kernel_rfl) (by kernel_rfl) (by kernel_rfl) (fun _ _ _ h=>h) (.inl ⟨rfl,fun _ _=>rfl⟩) gt ?_
   simp only[Xs,sB,sS,sZ];refine wpAnyH_all (rs:=[16]) (by kernel_rfl) (by simp) ?_
   intro j hj;simp only[mC,nM,or_false]at hj;subst hj;refine wpOp_does Xb (fun v w'=>Grew W1 w'/\BoxT w' g 42 cs/\UseA W1 m BF c wr cs k er w') rfl rfl rfl (Does.storeAllT 42 (.tmp 10) (.tmp 33) rfl g rfl cs rfl bp (by rw[hlen];rfl) (by kernel_rfl) hone (fun w' b' g' s'=>⟨grew_grown gt g' hg1,b',hua.lower g' hlt (grew_grown gt g' hg1) (bS ga)⟩)) ?_
   rintro v WS ⟨gs,bs,us⟩;refine⟨gs,?_⟩;simp only[Xs];refine takeH 17 (Xa 11) (Xe Xf k) rfl rfl (by kernel_rfl) (by kernel_rfl) (by kernel_rfl) (fun _ _ _ h=>h) (.inl ⟨rfl,fun _ _=>rfl⟩) gs ?_
   simp only[Xs,sB,sS,sZ];refine takeH 18 (Xa 12) (Xe Xf er) rfl rfl (by kernel_rfl) (by kernel_rfl) (by kernel_rfl) (fun _ _ _ h=>h) (.inl ⟨rfl,fun _ _=>rfl⟩) gs ?_
   simp only[Xs,sB,sS,sZ];refine wpAnyH_done (by kernel_rfl) ?_ _
   have BS:Xo (BoxT WS g 42 cs):=bs;have GS:Xo (Grew W1 WS):=gs;have HG1:Xo (W1.heap.size<=g):=hg1;have US:Xo (UseA W1 m BF c wr cs k er WS):=us;have HLN:Xo (cs.length=11/\∀x∈cs,x.oneCell'=Xc):=show _/\_ from⟨hlen,hone⟩
   clear gs bs us;go_wp2
   go_meet
   exact⟨g,k,er,cs,rfl,rfl,rfl,BS,GS,HG1,US,HLN⟩
  obtain⟨g,k,er,cs,rfl,rfl,rfl,BS,GS,HG1,US,HLN⟩:=hcut;clear HQ8 HUS
  rcases US.out with⟨hne,hn⟩ | ⟨rfl,V',kk,pc,m',rfl,rfl,hu,hcw⟩
  ·have hz:(er != 0)=Xc:=by simp[hne]
   have HN:Xo (NotUsed m BF c.proc (c.pt / 8) wr er):=hn;have HR:Xo (Grew w wc):=show Grew _ _ from G1.out.trans GS.out
   clear hn hne US;go_wp2
   go_ret2
   exact⟨0,er,rfl,OutD.grew HR.out,HM.out.gr.trans HR.out,.inl (.inr (.inl ⟨HWI.out,HN.out⟩))⟩
  obtain⟨fr,hfr,hff,hx0,hx1⟩:=HII.out kk m' hu;have HFR:Xo (m'.fs[kk]? =Xa fr):=hfr;have HU:Xo (Used m BF c.proc (c.pt / 8) wr kk m'):=hu;have HCW:Xo (ChW W1 pc wc V' m'):=hcw;have HFF:Xo (fr.f=-1\/∃(j:Nat) (fl:Fl),fr.f=(j:Int)/\m'.fl[j]? =Xa fl):=hff;have HX:Xo (0<=fr.x/\fr.x<1000):=show _/\_ from⟨hx0,hx1⟩
  clear hfr hff hx0 hx1 hu hcw HII US HLN;have HP:=dD (M1.out.box.grew GS.out);have HZL:Xo (∀v∈chL V' m',v.oneCell'=Xc):=show∀v∈chL V' m',_ by simp[chL,Value.oneCell']
  have HLL:Xo ((chL V' m').length=(chL V m).length):=show _=_ from rfl
  have HSI:Xo ((Tryz.prog.info? 42).map (·.size)=Xa (chL V m).length):=show _=_ by kernel_rfl
  go_wp2_with (first | refine wp_loadAll rfl 42 (.tmp 10) rfl g rfl BS.out.box Tryz.underlying42 rfl (by kernel_rfl) ?_ | refine wp_storeAllT rfl 42 (.tmp 42) (.tmp 40) rfl p rfl (chL V' m') rfl HP.out HLL.out HSI.out HZL.out ?_)
  intro W5 b5 g5 s5;clear s5;have O5:Xo (OutD (fun k=>k=p) w W5):=show OutD _ _ _ from(OutD.grew (G1.out.trans GS.out)).trans (OutD.grown g5 rfl)
  have G5:Xo (Grew w0 W5):=show Grew _ _ from HM.out.grOut (O5.out.wide fun k hk=> .inl hk)
  have P5:Xo (BoxT W5 p 88 (chL V' m')):=b5;have N5:Xo (OwnB W1.heap.size W5 V' m'):=show OwnB _ _ _ _ from HCW.out.ownB.out (OutD.grown g5 (Xt HPW.out (bS G1.out)))
  have X5:Xo (BoxT W5 b 26 [Xe Xf c.kind,Xe Xf c.proc,Xe Xf c.pt,Xe Xf c.n,Xe Xf c.file,Xe Xf c.base,Xh c.rd,Xh c.wr,Xh c.sh,O c.dv.a c.dv.n c.dv.c]):=show BoxT _ _ _ _ from(X1.out.grew GS.out).outD (OutD.grown (D:=fun k=>k=p) g5 rfl) (by have:=HB.out;have:=HPW.out;omega)
  clear b5 g5 BS GS HG1 X1 M1 HCW;have hkl:=(gS.1 HFR.out).1;obtain⟨g7,c7,heq⟩:=N5.out.fs.formS (by omega)
  have f0:=P5.out.box.c 0 rfl;rw[heq]at f0;have HFO:Xo (OwnRow frmE W1.heap.size W5 (O (Xa ⟨g7,0,Xb⟩) m'.fs.length c7) m'.fs):=show OwnRow _ _ _ _ _ by rw[<-heq];exact N5.out.fs
  have hlt:(kk:Int)< (m'.fs.length:Int):=by omega
  obtain⟨fn,HFN⟩:∃fn,Xo (m'.fs.length=fn):=⟨_,rfl⟩;rw[HFN.out]at HFO f0 hlt;clear heq hkl;obtain⟨⟨b0,b1,b2,b3,b4,b5,b6,b7⟩,r,u,d,f,x⟩:=fr;have HRG:Xo (W5.rangeAt g7 (kk*13) [Xe Xg b0,Xe Xg b1,Xe Xg b2,Xe Xg b3,Xe Xg b4,Xe Xg b5,Xe Xg b6,Xe Xg b7,Xe Xf r,Xh u,Xh d,Xe Xf f,Xe Xf x]):=show W5.rangeAt _ _ _ from HFO.out.range1 HFR.out
  have HSF:Xo ((Tryz.prog.info? 93).map (·.size)=Xa 13):=show _=_ by kernel_rfl
  go_upto_region 8 with(refine wpList_load_mid rfl 93 (.tmp 50) rfl g7 (kk*13) rfl [Xe Xg b0,Xe Xg b1,Xe Xg b2,Xe Xg b3,Xe Xg b4,Xe Xg b5,Xe Xg b6,Xe Xg b7,Xe Xf r,Xh u,Xh d,Xe Xf f,Xe Xf x] _ HRG.out Tryz.underlying93 rfl HSF.out ?_)
  clear HRG HSF;obtain⟨q,HQ⟩:∃q,Xo (W5.heap.size=q):=⟨_,rfl⟩;obtain⟨W6,hW6⟩:∃W6,W5.alloc (Xk #[Xe Xg b0,Xe Xg b1,Xe Xg b2,Xe Xg b3,Xe Xg b4,Xe Xg b5,Xe Xg b6,Xe Xg b7,Xe Xf r,Xh u,Xh d,Xe Xf f,Xe Xf x] 93)=W6:=⟨_,rfl⟩;have g6:=gP hW6
  have Y6:=xPT hW6 HQ
  have P6:=dD (P5.out.grew g6);have N6:=dD (N5.out.grew g6);have O6:Xo (OutD (fun k=>k=p) w W6):=show OutD _ _ _ from O5.out.trans (OutD.grew g6)
  have G6:=dD (G5.out.trans g6);have X6:=dD (X5.out.grew g6);rw[hW6,HQ.out];clear hW6 g6 X5 P5 N5 O5 G5 HFO HQ;have y4:=Y6.out.box.c 11 rfl;have y5:=Y6.out.box.c 12 rfl;have x2:=X6.out.box.c 2 rfl;obtain⟨h81,h82,h83⟩:=HW3.out;have hx0:0<=x:=HX.out.1;have hx1:x<1000:=HX.out.2;have hb2:=HBD.out.1;have hfin:∀{W:Xn} {k er:Int},Grew W6 W->((er=9/\∃(j:Nat) (fl:Fl),f=(j:Int)/\m'.fl[j]? =Xa fl/\fl.size<x*8+c.pt % 8+n)\/(er=0/\k=(kk:Int)/\(f=-1\/∃(j:Nat) (fl:Fl),f=(j:Int)/\m'.fl[j]? =Xa fl/\x*8+c.pt % 8+n<=fl.size)))->KUse m BF c n wr w0 p w k er W:=fun hW hk=>by
   refine⟨O6.out.trans (OutD.grew hW),G6.out.trans hW,?_⟩
   rcases hk with⟨rfl,j,fl,k1,k2,k3⟩ | ⟨rfl,rfl,k3⟩
   ·exact .inl (.inr (.inr ⟨HWI.out,rfl,kk,m',_,j,fl,HU.out,HFR.out,k1,k2,k3⟩))
   exact .inr ⟨rfl,kk,m',_,V',W1.heap.size,rfl,⟨HWI.out,HU.out,HFR.out,k3⟩,P6.out.grew hW,bS G1.out,N6.out.grew hW⟩
  have HFIN:=show Xo _ from@hfin
  clear hfin
  rcases HFF.out with hf | ⟨j,fl,hf,hfl⟩
  ·have hf:f=-1:=hf;subst hf;go_upto_region 10 with fail;go_quiet (fail);go_wp2
   go_ret2
   exact⟨_,_,rfl,HFIN.out (show Below _ _ _ from bD (bR _ _) _) (.inr ⟨rfl,rfl,.inl (by first | trivial | rfl)⟩)⟩
  have hf:f=(j:Int):=hf;subst hf;have HFL:Xo (m'.fl[j]? =Xa fl):=hfl;have hj1:decide ((j:Int)=-1)=Xd:=decide_eq_false (by omega)
  have hj2:((j:Int) == -1)=Xd:=beq_eq_false_iff_ne.2 (by omega)
  have f7:=P6.out.box.c 7 rfl;obtain⟨fa,fc,heq,hbig,hrow⟩:=N6.out.at.fl.rows;rw[heq]at f7;obtain⟨ad,rfl,xa,xc,_,hl⟩:=hrow j fl hfl;obtain⟨d0,d1⟩:=hl W6 (bR _ _);have hjl:(j:Int)< (m'.fl.length:Int):=by have:=(gS.1 hfl).1;omega
  obtain⟨ln,HLN⟩:∃ln,Xo (m'.fl.length=ln):=⟨_,rfl⟩;rw[HLN.out]at f7 hjl hbig;clear hl hrow heq hfl d1;go_upto_region 10 with fail
  by_cases hs:fl.size<x*8+c.pt % 8+n
  ·have hd:decide (fl.size<x*8+c.pt % 8+n)=Xc:=decide_eq_true hs;have HS:Xo (fl.size<x*8+c.pt % 8+n):=hs;clear hs;go_quiet (fail);go_wp2
   go_ret2
   exact⟨_,_,rfl,HFIN.out (show Below _ _ _ from bD (bR _ _) _) (.inl ⟨rfl,j,fl,rfl,HFL.out,HS.out⟩)⟩
  have hd:decide (fl.size<x*8+c.pt % 8+n)=Xd:=decide_eq_false hs;have HS:Xo (x*8+c.pt % 8+n<=fl.size):=show _<=_ by omega
  clear hs;go_quiet (fail);go_wp2
  go_ret2
  exact⟨_,_,rfl,HFIN.out (show Below _ _ _ from bD (bR _ _) _) (.inr ⟨rfl,rfl,.inr ⟨j,fl,rfl,HFL.out,HS.out⟩⟩)⟩
def Fore (w0 u:Xn) (k:Nat):Prop:=w0.heap.size<=k/\k<u.heap.size
def Aft (w0 u w:Xn) (k:Nat):Prop:=k<w0.heap.size\/(u.heap.size<=k/\k<w.heap.size)
def WorkM (K:Int->Int->List Int->Ma->Prop) (w0:Xn) (p:Nat) (u w:Xn) (e:Ending) (w':Xn):Prop:=
 ∃(er n:Int) (s:Sli) (l:List Int) (V':MaV) (m':Ma),e= Xl (ansV er n s)/\K er n l m'/\OutD (Fore w0 u) w w'/\Grew w0 w'/\(∀W,OutD (Aft w0 u w) w' W->RowAt byE W (O s.a s.n s.c) l)/\(er=0->BoxT w' p 88 (chL V' m')/\∀W,OutD (Aft w0 u w) w' W->MachAt W V' m')
theorem WorkA.more {K:Int->Int->List Int->Ma->Prop} {w0 u w w':Xn} {p:Nat} {e:Ending} (h:WorkA K w0 p w e w') (lo:w0.heap.size<=p) (hp:p<u.heap.size) (hs:w0.heap.size<=w.heap.size):WorkM K w0 p u w e w':=by
 obtain⟨er,n,s,l,V',m',h1,h2,h3,h4,h5,h6⟩:=h;have key:∀W,OutD (Aft w0 u w) w' W->OutD (fun k=>k<w.heap.size) w' W:=fun W hW=>hW.wide fun k hk=>hk.elim (fun h=>Xt h hs) fun h=>h.2
 exact⟨er,n,s,l,V',m',h1,h2,h3.wide fun k hk=>by cases hk;exact⟨lo,hp⟩,h4,fun W hW=>h5 W (key W hW),fun h0=>⟨(h6 h0).1,fun W hW=>(h6 h0).2 W (key W hW)⟩⟩
def KProc (m:Ma) (pr:Int) (K:Int->Int->List Int->Ma->Prop) (er n:Int) (l:List Int) (m':Ma):Prop:=
 (er=5/\n=0/\l=[]/\∀q s,¬LiveP m pr q s)\/((∃q s,LiveP m pr q s)/\K er n l m')
theorem ofProc_any {w0 w:Xn} {p:Nat} {V:MaV} {m:Ma} (h:ChW w0 p w V m) (c:Cl) (g F:Nat) (K:Int->Int->List Int->Ma->Prop) (eg:Enters Tryz.prog F) (hg:BoxT w g 80 [.func (.func F) #[] #[]])
  (hF:∀W,Grew w W->(∃q s,LiveP m c.proc q s)->Xp Tryz.prog F #[Xj (Xa ⟨p,0,Xb⟩),Xi #[Xe Xf c.kind,Xe Xf c.proc,Xe Xf c.pt,Xe Xf c.n,Xe Xf c.file,Xe Xf c.base,Xh c.rd,Xh c.wr,Xh c.sh,O c.dv.a c.dv.n c.dv.c]] W fun e w'=>WorkM K w0 p w W e w'):
  Xp Tryz.prog 73 #[Xj (Xa ⟨p,0,Xb⟩),Xi #[Xe Xf c.kind,Xe Xf c.proc,Xe Xf c.pt,Xe Xf c.n,Xe Xf c.file,Xe Xf c.base,Xh c.rd,Xh c.wr,Xh c.sh,O c.dv.a c.dv.n c.dv.c],Xj (Xa ⟨g,0,Xb⟩)] w fun e w'=>WorkM (KProc m c.proc K) w0 p w w e w':=by
 have HM:Xo (ChW w0 p w V m):=h;have HPW:Xo (p<w.heap.size):=h.dlt p (.inl rfl);have HGF:Xo (BoxT w g 80 [.func (.func F) #[] #[]]):=hg;have HFF:=show Xo _ from hF
 have EG:Xo (∀(args:Array Xq) (w:Xn),(callFunc F args).run Tryz.prog w= .ok (.enter F args) w):=eg;obtain⟨b,HB⟩:∃b,Xo (w.heap.size=b):=⟨_,rfl⟩;obtain⟨W1,hW1⟩:∃W1,(w.alloc (Xk #[Xe Xf c.kind,Xe Xf c.proc,Xe Xf c.pt,Xe Xf c.n,Xe Xf c.file,Xe Xf c.base,Xh c.rd,Xh c.wr,Xh c.sh,O c.dv.a c.dv.n c.dv.c] 26)).alloc (Xk #[Xe Xf 0,Xe Xf 0,O Xb 0 0] 50)=W1:=⟨_,rfl⟩;have G1:=gD2 hW1
 have X1:Xo (BoxT W1 b 26 [Xe Xf c.kind,Xe Xf c.proc,Xe Xf c.pt,Xe Xf c.n,Xe Xf c.file,Xe Xf c.base,Xh c.rd,Xh c.wr,Xh c.sh,O c.dv.a c.dv.n c.dv.c]):=show BoxT _ _ _ _ by rw[<-hW1];exact(BoxT.top w [Xe Xf c.kind,Xe Xf c.proc,Xe Xf c.pt,Xe Xf c.n,Xe Xf c.file,Xe Xf c.base,Xh c.rd,Xh c.wr,Xh c.sh,O c.dv.a c.dv.n c.dv.c] _ HB.out.symm).grew (grew_alloc _ _)
 have A1:Xo (BoxT W1 (b+1) 50 [Xe Xf 0,Xe Xf 0,O Xb 0 0]):=show BoxT _ _ _ _ by rw[<-hW1];exact BoxT.top _ [Xe Xf 0,Xe Xf 0,O Xb 0 0] _ (by have:=HB.out;simp;omega)
 have HBL:Xo (b+1<W1.heap.size):=A1.out.box.lt;have HPB:Xo (p<b):=show _<_ by have:=HPW.out;have:=HB.out;omega
 have HL:Xo (w0.heap.size<=b):=show _<=_ by have:=HM.out.lo;have:=HPB.out;omega
 have M1:Xo (ChW w0 p W1 V m):=h.grew G1.out;have HW1:Xo (_=W1):=hW1;obtain⟨-,-,-,-,-,-,-,-,n9⟩:=h.at.ns;have HN9:Xo (V.sp.n=m.sp.length):=n9;obtain⟨sn,HSN⟩:∃sn,Xo (V.sp.n=sn):=⟨_,rfl⟩;clear hW1 h hF hg n9 eg
 go_enter Tryz.func73,Tryz.ntmps73
 go_upto_region 1 with fail;rw[HW1.out,HB.out];clear HW1;have hx1:∀y:GrownW W1,y.world.cell? ⟨b,1,Xb⟩=Xa (Xe Xf c.proc):=fun y=>(X1.out.box.grew y.grew).c 1 rfl
 have hx10:∀y:GrownW W1,y.world.cell? ⟨p,10,Xb⟩=Xa (O V.sp.a sn V.sp.c):=fun y=>by rw[<-HSN.out];exact(M1.out.box.box.grew y.grew).c 10 rfl
 have hne:Nonempty (GrownW W1):=⟨⟨_,Grew.refl _⟩⟩
 by_cases hin:0<=c.proc/\c.proc< (sn:Int)
 rotate_left
 ·have HBE:Xo ((Value.bool (decide (0<=c.proc) && decide (c.proc< (sn:Int))))= Xh Xd):=show _=_ by
   congr 1
   rw[Bool.and_eq_false_iff]
   by_cases h0:0<=c.proc
   ·exact .inr (decide_eq_false fun h1=>hin ⟨h0,h1⟩)
   exact .inl (decide_eq_false h0)
  have HNL:Xo (∀q s,¬LiveP m c.proc q s):=show∀q s,_ from fun q s hh=>hin (by
   have:=hh.1;have:=(gS.1 hh.2.1).1;have:=HSN.out;have:=HN9.out
   omega)
  clear hin;refine wp_lax [(8,⟨fun v=>v= Xh Xd,fun _ _=>True⟩)] mixed (by kernel_rfl) ?_ ?_ ?_
  ·intro x hx
   simp at hx
   subst hx;exact⟨_,rfl⟩
  ·intro x hx
   simp at hx
   subst hx;exact fun _ _ _ _ h=>h
  iterate 3 (refine lax_quiet rfl rfl rfl (fun K hK=>?_);go_big_quiet_op;refine hK _ ?_;clear hK K)
  refine lax_nilc (.tmp 8) ⟨p,0,Xb⟩ rfl rfl rfl rfl ?_;simp only[Xs,sB,sS,sZ];iterate 4 (refine lax_quiet rfl rfl rfl (fun K hK=>?_);go_big_quiet_op;refine hK _ ?_;clear hK K)
  refine lax_spec rfl rfl (fun w' hg hF=>?_) (fun v1 hv=>?_)
  ·refine Does.call [Xe Xf c.proc,Xe Xf (sn:Int)] rfl Tryz.func74 rfl rfl rfl ?_;refine(belowK_any c.proc (sn:Int) w').mono ?_;rintro e w'' ⟨rfl,rfl⟩;exact⟨_,rfl,Grew.refl _,HBE.out,trivial⟩
  subst hv;simp only[Xs,sB,sS,sZ];iterate 2 (refine lax_quiet rfl rfl rfl (fun K hK=>?_);go_big_quiet_op;refine hK _ ?_;clear hK K)
  iterate 11 (refine lax_skip rfl ?_;simp only[Xs,sB,sS,sZ])
  iterate 1 (refine lax_quiet rfl rfl rfl (fun K hK=>?_);go_big_quiet_op;refine hK _ ?_;clear hK K)
  refine lax_nil fun W2 g2 _=>?_
  have A2:=dD (A1.out.grew g2);have Q2:=dD (G1.out.trans g2);clear g2 hx1 hx10 hne;have hrf:=refused_any 5 W2;go_wp2_with fail;refine hrf.mono ?_;rintro e W3 ⟨rfl,g3⟩;have A3:=dD (A2.out.grew g3);have Q3:=dD (Q2.out.trans g3);clear hrf g3;unfold ansV noS
  go_wp2_with (refine wp_storeAllT rfl 50 (.tmp 5) (.tmp 29) rfl (b+1) rfl [Xe Xf 5,Xe Xf 0,O Xb 0 0] rfl A3.out rfl (by kernel_rfl) (by simp[Value.oneCell']) ?_)
  intro W4 b4 g4 _;have G4:Xo (Grew w0 W4):=show Grew _ _ from grew_grown (HM.out.gr.trans Q3.out) g4 (by have:=HL.out;omega)
  have A4:Xo (BoxT W4 (b+1) 50 [Xe Xf 5,Xe Xf 0,O Xb 0 0]):=b4;have O4:Xo (OutD (fun k=>k=p) w W4):=show OutD _ _ _ from OutD.beyond (OutD.grew Q3.out) g4 (by have:=HB.out;omega)
  clear b4 g4;go_wp2;refine bodyPost_ret (ret_cell rfl _ rfl A4.out.box Tryz.underlying50 rfl (by kernel_rfl)) rfl (WorkA.more (WorkA.err (V:=V) (m:=m) (by decide) (.inl ⟨rfl,rfl,rfl,HNL.out⟩) O4.out G4.out) HM.out.lo HPW.out (bS HM.out.gr))
 have HBE:Xo ((Value.bool (decide (0<=c.proc) && decide (c.proc< (sn:Int))))= Xh Xc):=show _=_ by
  rw[decide_eq_true hin.1,decide_eq_true hin.2];rfl
 obtain⟨q,HQ⟩:∃q:Nat,Xo (c.proc=(q:Int)):=⟨c.proc.toNat,show _=_ by omega⟩
 have hqz:(q:Int)< (sn:Int):=by have:=HQ.out;omega
 obtain⟨xs,s1,s2,s3⟩:=M1.out.sp;obtain⟨x,hx⟩:∃x,xs[q]? =Xa x:=⟨_,gE (by rw[s2,<-HN9.out,HSN.out];omega)⟩
 obtain⟨s,hs⟩:∃s,m.sp[q]? =Xa s:=⟨_,gE (by rw[<-HN9.out,HSN.out];omega)⟩
 have hlv:=(s3 q x s hx hs W1 (OutD.refl _ _)).live;obtain⟨gs,cc,heq⟩:=s1.formS (by have:=(gS.1 hx).1;omega)
 have HS:Xo (m.sp[q]? =Xa s):=hs;have HLX:Xo (x.live=s.live):=hlv;have HS1:Xo (OwnRow spcE w0.heap.size W1 (O (Xa ⟨gs,0,Xb⟩) xs.length cc) xs):=show OwnRow _ _ _ _ _ by rw[<-heq];exact s1
 have HXX:Xo (xs[q]? =Xa x):=hx;have hsa:V.sp.a=Xa ⟨gs,0,Xb⟩:=by simp only[vJ]at heq;exact heq.1
 rw[hsa]at hx10;rw[HQ.out]at hx1 HBE;have hlc:∀y:GrownW W1,y.world.cell? ⟨gs,q*10,Xb⟩=Xa (Xh s.live):=fun y=>by
  rw[<-HLX.out];exact(HS1.out.grew y.grew).range1 HXX.out 0 _ rfl
 clear hin s1 s2 s3 hx hs hlv heq hsa;have hdq:decide ((0:Int)<=(q:Int))=Xc:=by simp
 have HPR:Xo (c.proc=(q:Int)):=HQ
 cases hv:s.live with
 | false=>
  rw[hv]at hlc;have HNL:Xo (∀q' s',¬LiveP m c.proc q' s'):=show∀q' s',_ from fun q' s' hh=>by
   have e:q'=q:=by have:=hh.1;have:=HQ.out;omega
   rw[e]at hh;have h2:=hh.2.1;rw[HS.out]at h2;cases h2;have h3:=hh.2.2;rw[hv]at h3;cases h3
  clear hv;refine wp_lax [(8,⟨fun v=>v= Xh Xc,fun _ _=>True⟩)] mixed (by kernel_rfl) ?_ ?_ ?_
  ·intro x hx
   simp at hx
   subst hx;exact⟨_,rfl⟩
  ·intro x hx
   simp at hx
   subst hx;exact fun _ _ _ _ h=>h
  iterate 3 (refine lax_quiet rfl rfl rfl (fun K hK=>?_);go_big_quiet_op;refine hK _ ?_;clear hK K)
  refine lax_nilc (.tmp 8) ⟨p,0,Xb⟩ rfl rfl rfl rfl ?_;simp only[Xs,sB,sS,sZ];iterate 4 (refine lax_quiet rfl rfl rfl (fun K hK=>?_);go_big_quiet_op;refine hK _ ?_;clear hK K)
  refine lax_spec rfl rfl (fun w' hg hF=>?_) (fun v1 hv=>?_)
  ·refine Does.call [Xe Xf (q:Int),Xe Xf (sn:Int)] rfl Tryz.func74 rfl rfl rfl ?_;refine(belowK_any (q:Int) (sn:Int) w').mono ?_;rintro e w'' ⟨rfl,rfl⟩;exact⟨_,rfl,Grew.refl _,HBE.out,trivial⟩
  subst hv;simp only[Xs,sB,sS,sZ];iterate 2 (refine lax_quiet rfl rfl rfl (fun K hK=>?_);go_big_quiet_op;refine hK _ ?_;clear hK K)
  refine lax_quiet rfl rfl rfl (fun K hK=>?_);go_big_quiet_op;refine hK _ ?_;clear hK K
  refine lax_nilc (.tmp 17) ⟨p,0,Xb⟩ rfl rfl rfl rfl ?_;simp only[Xs,sB,sS,sZ];iterate 10 (refine lax_quiet rfl rfl rfl (fun K hK=>?_);go_big_quiet_op;refine hK _ ?_;clear hK K)
  clear hlc;refine lax_nil fun W2 g2 _=>?_
  have A2:=dD (A1.out.grew g2);have Q2:=dD (G1.out.trans g2);clear g2 hx1 hx10 hne;have hrf:=refused_any 5 W2;go_wp2_with fail;refine hrf.mono ?_;rintro e W3 ⟨rfl,g3⟩;have A3:=dD (A2.out.grew g3);have Q3:=dD (Q2.out.trans g3);clear hrf g3;unfold ansV noS
  go_wp2_with (refine wp_storeAllT rfl 50 (.tmp 5) (.tmp 29) rfl (b+1) rfl [Xe Xf 5,Xe Xf 0,O Xb 0 0] rfl A3.out rfl (by kernel_rfl) (by simp[Value.oneCell']) ?_)
  intro W4 b4 g4 _;have G4:Xo (Grew w0 W4):=show Grew _ _ from grew_grown (HM.out.gr.trans Q3.out) g4 (by have:=HL.out;omega)
  have A4:Xo (BoxT W4 (b+1) 50 [Xe Xf 5,Xe Xf 0,O Xb 0 0]):=b4;have O4:Xo (OutD (fun k=>k=p) w W4):=show OutD _ _ _ from OutD.beyond (OutD.grew Q3.out) g4 (by have:=HB.out;omega)
  clear b4 g4;go_wp2;refine bodyPost_ret (ret_cell rfl _ rfl A4.out.box Tryz.underlying50 rfl (by kernel_rfl)) rfl (WorkA.more (WorkA.err (V:=V) (m:=m) (by decide) (.inl ⟨rfl,rfl,rfl,HNL.out⟩) O4.out G4.out) HM.out.lo HPW.out (bS HM.out.gr))
 | true=>
  rw[hv]at hlc;have HLV:Xo (∃q s,LiveP m c.proc q s):=show∃q s,_ from⟨q,s,HQ.out,HS.out,hv⟩
  clear hv;refine wp_lax [(8,⟨fun v=>v= Xh Xc,fun _ _=>True⟩)] mixed (by kernel_rfl) ?_ ?_ ?_
  ·intro x hx
   simp at hx
   subst hx;exact⟨_,rfl⟩
  ·intro x hx
   simp at hx
   subst hx;exact fun _ _ _ _ h=>h
  iterate 3 (refine lax_quiet rfl rfl rfl (fun K hK=>?_);go_big_quiet_op;refine hK _ ?_;clear hK K)
  refine lax_nilc (.tmp 8) ⟨p,0,Xb⟩ rfl rfl rfl rfl ?_;simp only[Xs,sB,sS,sZ];iterate 4 (refine lax_quiet rfl rfl rfl (fun K hK=>?_);go_big_quiet_op;refine hK _ ?_;clear hK K)
  refine lax_spec rfl rfl (fun w' hg hF=>?_) (fun v1 hv=>?_)
  ·refine Does.call [Xe Xf (q:Int),Xe Xf (sn:Int)] rfl Tryz.func74 rfl rfl rfl ?_;refine(belowK_any (q:Int) (sn:Int) w').mono ?_;rintro e w'' ⟨rfl,rfl⟩;exact⟨_,rfl,Grew.refl _,HBE.out,trivial⟩
  subst hv;simp only[Xs,sB,sS,sZ];iterate 2 (refine lax_quiet rfl rfl rfl (fun K hK=>?_);go_big_quiet_op;refine hK _ ?_;clear hK K)
  refine lax_quiet rfl rfl rfl (fun K hK=>?_);go_big_quiet_op;refine hK _ ?_;clear hK K
  refine lax_nilc (.tmp 17) ⟨p,0,Xb⟩ rfl rfl rfl rfl ?_;simp only[Xs,sB,sS,sZ];iterate 10 (refine lax_quiet rfl rfl rfl (fun K hK=>?_);go_big_quiet_op;refine hK _ ?_;clear hK K)
  clear hlc;refine lax_nil fun W2 g2 _=>?_
  have A2:=dD (A1.out.grew g2);have X2:=dD (X1.out.grew g2);have Q2:=dD (G1.out.trans g2);have HW2:Xo (b+1<W2.heap.size):=show _<_ from Xt HBL.out (bS g2)
  clear g2 hx1 hx10 hne;have hfn:=HFF.out W2 Q2.out HLV.out;have f0:=(HGF.out.grew Q2.out).box.c 0 rfl
  go_wp2_with (first | refine wp_loadAll rfl 26 (.tmp 4) rfl b rfl X2.out.box Tryz.underlying26 rfl (by kernel_rfl) ?_ | fail)
  rw[EG.out];refine hfn.mono ?_;clear hfn f0;rintro e W3 ⟨er,n,sd,l,V',m',rfl,hk,o3,g3,hr,hd⟩;have A3:Xo (BoxT W3 (b+1) 50 [Xe Xf 0,Xe Xf 0,O Xb 0 0]):=show BoxT _ _ _ _ from A2.out.outD o3 (fun hk=>by have:=HB.out;have:=hk.2;omega)
  have HK:Xo (K er n l m'):=hk;have O3:Xo (OutD (Fore w0 w) w W3):=show OutD _ _ _ from(OutD.grew Q2.out).trans o3
  have G3:Xo (Grew w0 W3):=g3;have HR3:=show Xo _ from hr
  have HD3:=show Xo _ from hd
  clear hk o3 g3 hr hd;unfold ansV
  go_wp2_with (refine wp_storeAllT rfl 50 (.tmp 5) (.tmp 33) rfl (b+1) rfl [Xe Xf er,Xe Xf n,O sd.a sd.n sd.c] rfl A3.out rfl (by kernel_rfl) (by simp[Value.oneCell']) ?_)
  intro W4 b4 g4 _;have A4:Xo (BoxT W4 (b+1) 50 [Xe Xf er,Xe Xf n,O sd.a sd.n sd.c]):=b4;have HFIN:Xo (WorkM (KProc m c.proc K) w0 p w w (Xl (ansV er n sd)) W4):=show WorkM _ _ _ _ _ _ _ from by
   have key:∀W,OutD (Aft w0 w w) W4 W->OutD (Aft w0 w W2) W3 W:=fun W hW=>(OutD.grown (D:=Aft w0 w W2) g4 (.inr ⟨by have:=HB.out;omega,HW2.out⟩)).trans (hW.wide fun k hk=>hk.imp id fun h=>⟨h.1,Xt h.2 (bS Q2.out)⟩)
   exact⟨er,n,sd,l,V',m',rfl,.inr ⟨HLV.out,HK.out⟩,O3.out.beyond g4 (by have:=HB.out;omega),grew_grown G3.out g4 (by have:=HL.out;omega),fun W hW=>HR3.out W (key W hW),fun h0=>⟨(HD3.out h0).1.beside g4 (fun k e=>by cases e;have:=HPB.out;omega),fun W hW=>(HD3.out h0).2 W (key W hW)⟩⟩
  clear b4 g4;go_wp2;refine bodyPost_ret (ret_cell rfl _ rfl A4.out.box Tryz.underlying50 rfl (by kernel_rfl)) rfl HFIN.out
def lookN:List (Int × Xq)->Int->Option Xq
 | [],_=>Xb
 | p :: l,k=>if k=p.1 then Xa p.2 else lookN l k
def findN:List (Int × Xq)->Int->Nat->Option (Nat × Xq)
 | [],_,_=>Xb
 | p :: l,k,i=>if k=p.1 then Xa (i,p.2)else findN l k (i+1)
theorem findN_look:∀(l:List (Int × Xq)) (k:Int) (i:Nat),(findN l k i).map (·.2)=lookN l k
 | [],_,_=>rfl
 | p :: l,k,i=>by
  unfold findN lookN
  by_cases e:k=p.1
  ·rw[if_pos e,if_pos e];rfl
  rw[if_neg e,if_neg e,findN_look l k (i+1)]
def MapV (w:Xn) (b:Nat) (l:List (Int × Xq)):Prop:=∃es clock,w.heap[b]? =Xa (.map es clock)/\es.toList.map (fun e=>(e.key,e.val))=l.map (fun p:Int × Xq=>(Value.int .i64 p.1,p.2))
theorem MapV.lt {w:Xn} {b:Nat} {l:List (Int × Xq)} (h:MapV w b l):b<w.heap.size:=by
 obtain⟨es,c,h1,_⟩:=h;exact(aS.1 h1).1
theorem MapV.made (w:Xn):MapV (w.alloc (.map #[] 0)) w.heap.size []:=⟨#[],0,by
 show(w.heap.push _)[w.heap.size]? =_
 simp,rfl⟩
theorem MapV.grew {w w':Xn} {b:Nat} {l:List (Int × Xq)} (h:MapV w b l) (hg:Grew w w'):MapV w' b l:=by
 have hlt:=h.lt;obtain⟨es,c,h1,h2⟩:=h;exact⟨es,c,(Below.block hg b hlt).trans h1,h2⟩
theorem find_now {k:Int} {kd:IntKind}:∀(l:List (Int × Xq)) (es:List MapEntry) (i:Nat),es.map (fun e=>(e.key,e.val))=l.map (fun p:Int × Xq=>(Value.int .i64 p.1,p.2))->Instr.findNow (.int kd) (Xe Xf k) es i=Xa (findN l k i)
 | [],[],i,_=>rfl
 | [],e :: es,i,h=>by simp at h
 | p :: l,[],i,h=>by simp at h
 | p :: l,e :: es,i,h=>by
  simp only[mP,List.cons.injEq,pJ]at h;obtain⟨⟨h1,h2⟩,h3⟩:=h;unfold Instr.findNow findN;rw[h1]
  by_cases e':k=p.1
  ·rw[if_pos e'];have:Instr.sameNow (.int kd) (Xe Xf k) (Xe Xf p.1)=Xa Xc:=by simp[Instr.sameNow,e']
   rw[this,h2]
  rw[if_neg e'];have:Instr.sameNow (.int kd) (Xe Xf k) (Xe Xf p.1)=Xa Xd:=by simp[Instr.sameNow,e']
  rw[this];exact find_now l es (i+1) h3
theorem run_findNum {kd:IntKind} {ty:TypeId} (hu:Tryz.prog.underlying ty=Xa (.int kd)) (k:Int) (w:Xn) (l:List (Int × Xq)) (es:List MapEntry) (h:es.map (fun e=>(e.key,e.val))=l.map (fun p:Int × Xq=>(Value.int .i64 p.1,p.2))):(Instr.findKey ty (Xe Xf k) es).run Tryz.prog w= .ok (findN l k 0) w:=by
 unfold Instr.findKey;simp only[Xw,run_underlying hu,rA,find_now l es 0 h];rfl
theorem run_checkNum {kd:IntKind} {ty:TypeId} (hu:Tryz.prog.underlying ty=Xa (.int kd)) (em:Bool) (k:Int) (w:Xn):(Instr.checkKey em 10000 ty (Xe Xf k)).run Tryz.prog w= .ok () w:=by
 unfold Instr.checkKey;simp only[Xw,run_underlying hu,rA];rfl
theorem MapV.look {w:Xn} {b:Nat} {l:List (Int × Xq)} (h:MapV w b l) {kd:IntKind} {t ty e:TypeId} {z:Xq} (hu:Tryz.prog.underlying ty=Xa (.int kd)) (ht:Tryz.prog.underlying t=Xa (.map ty e)) (hz:(zeroValue e).run Tryz.prog w= .ok z w) (k:Int):
  (Instr.lookup t (.map (Xa b)) (Xe Xf k) Xc).run Tryz.prog w= .ok (Xm #[(lookN l k).getD z,Xh (lookN l k).isSome]) w:=by
 obtain⟨es,cl,h1,h2⟩:=h;have hf:=run_findNum hu k w l es.toList h2;have hl:=findN_look l k 0;unfold Instr.lookup
 cases hp:findN l k 0 with
 | none=>
  rw[hp]at hf hl;rw[<-hl]
  simp[run_underlying ht,MapKept.run_getObj_map h1,run_checkNum hu,hf,hz]
 | some q=>
  rw[hp]at hf hl;rw[<-hl]
  simp[run_underlying ht,MapKept.run_getObj_map h1,run_checkNum hu,hf]
theorem MapV.put {w:Xn} {b:Nat} {l:List (Int × Xq)} (h:MapV w b l) {kd:IntKind} {t ty e:TypeId} (hu:Tryz.prog.underlying ty=Xa (.int kd)) (ht:Tryz.prog.underlying t=Xa (.map ty e)) (k:Int) (v:Xq) (hn:lookN l k=Xb):
  ∃w',(Instr.mapUpdate t (.map (Xa b)) (Xe Xf k) v).run Tryz.prog w= .ok () w'/\MapV w' b (l++ [(k,v)])/\w.grownBy w' (Xa b)/\w'.heap.size=w.heap.size:=by
 obtain⟨es,cl,h1,h2⟩:=h;have hf:=run_findNum hu k w l es.toList h2;have hp:findN l k 0=Xb:=by
  have:=findN_look l k 0;rw[hn]at this
  cases hq:findN l k 0 with
  | none=>rfl
  | some q=>rw[hq]at this;cases this
 rw[hp]at hf;refine⟨ChangeMaps.setBlock w b (.map (es.push ⟨Xe Xf k,v,cl⟩) (cl+1)),?_,⟨_,_,ChangeMaps.heap_setBlock_same h1 _,?_⟩,⟨rfl,rfl,rfl,by simp[ChangeMaps.setBlock],fun i _ hi=>ChangeMaps.heap_setBlock_other h1 _ (fun e=>hi (by rw[e]))⟩,by simp[ChangeMaps.setBlock]⟩
 ·simp[Instr.mapUpdate,run_underlying ht,MapKept.run_getObj_map h1,run_checkNum hu,hf,MapKept.run_setObj_map _ h1,ChangeMaps.setBlock]
 simp[h2]
theorem wpList_insert_num {w:Xn} {ops:Array Oper} {rest:List Oper} {o:Oper} {a:Act} {Q:Exit->Act->Xn->Prop} (hg:o.guard=Xb) {kd:IntKind} {t ty e:TypeId} (hu:Tryz.prog.underlying ty=Xa (.int kd)) (ht:Tryz.prog.underlying t=Xa (.map ty e)) (m x v:Operand) (hop:o.op= .insert t m x v) (b:Nat) (l:List (Int × Xq)) (h:MapV w b l) (k:Int) (u:Xq)
  (hm:a.eval m= .map (Xa b)) (hx:a.eval x= Xe Xf k) (hv:a.eval v=u) (hn:lookN l k=Xb)
  (hK:∀w',MapV w' b (l++ [(k,u)])->w.grownBy w' (Xa b)->wpList Tryz.prog ops Q rest (a.put o.dst undef) w'):wpList Tryz.prog ops Q (o :: rest) a w:=by
 refine wpList_plain hg fun K' hK'=>?_
 obtain⟨w',hrun,r1,r2,_⟩:=h.put hu ht k u hn;unfold Oper.wp
 simp[execOp,hop,hm,hx,hv,hrun,Result.andThen]
 exact hK' _ _ (hK w' r1 r2)
def WorkV (w:Xn) (k:Int) (v:Xq):Prop:=
 (k=1->∃g,v= .func (.func 73) #[] #[Xj (Xa ⟨g,0,Xb⟩)]/\BoxT w g 80 [.func (.func 35) #[] #[]])/\
 (k=2->∃g,v= .func (.func 73) #[] #[Xj (Xa ⟨g,0,Xb⟩)]/\BoxT w g 80 [.func (.func 36) #[] #[]])/\
 (k=3->∃g,v= .func (.func 73) #[] #[Xj (Xa ⟨g,0,Xb⟩)]/\BoxT w g 80 [.func (.func 37) #[] #[]])/\
 (k=4->∃g,v= .func (.func 73) #[] #[Xj (Xa ⟨g,0,Xb⟩)]/\BoxT w g 80 [.func (.func 38) #[] #[]])/\
 (k=5->∃g,v= .func (.func 73) #[] #[Xj (Xa ⟨g,0,Xb⟩)]/\BoxT w g 80 [.func (.func 39) #[] #[]])/\
 (k=6->∃g,v= .func (.func 73) #[] #[Xj (Xa ⟨g,0,Xb⟩)]/\BoxT w g 80 [.func (.func 40) #[] #[]])/\
 (k=7->∃g,v= .func (.func 73) #[] #[Xj (Xa ⟨g,0,Xb⟩)]/\BoxT w g 80 [.func (.func 41) #[] #[]])/\
 (k=8->v= .func (.func 42) #[] #[])/\
 (k=9->∃g,v= .func (.func 88) #[] #[Xj (Xa ⟨g,0,Xb⟩)]/\BoxT w g 80 [.func (.func 44) #[] #[]])/\
 (k=10->∃g,v= .func (.func 88) #[] #[Xj (Xa ⟨g,0,Xb⟩)]/\BoxT w g 80 [.func (.func 45) #[] #[]])/\
 (k=11->∃g,v= .func (.func 88) #[] #[Xj (Xa ⟨g,0,Xb⟩)]/\BoxT w g 80 [.func (.func 46) #[] #[]])/\
 (k=12->∃g,v= .func (.func 88) #[] #[Xj (Xa ⟨g,0,Xb⟩)]/\BoxT w g 80 [.func (.func 47) #[] #[]])/\
 (k=13->v= .func (.func 48) #[] #[])/\
 (k=14->v= .func (.func 49) #[] #[])/\
 (k=15->v= .func (.func 50) #[] #[])
theorem WorkV.grew {w w':Xn} {k:Int} {v:Xq} (h:WorkV w k v) (g:Grew w w'):WorkV w' k v:=by
 obtain⟨h1,h2,h3,h4,h5,h6,h7,h8,h9,h10,h11,h12,h13,h14,h15⟩:=h;exact⟨fun e=>(h1 e).imp fun _ x=>⟨x.1,x.2.grew g⟩,fun e=>(h2 e).imp fun _ x=>⟨x.1,x.2.grew g⟩,fun e=>(h3 e).imp fun _ x=>⟨x.1,x.2.grew g⟩,fun e=>(h4 e).imp fun _ x=>⟨x.1,x.2.grew g⟩,fun e=>(h5 e).imp fun _ x=>⟨x.1,x.2.grew g⟩,fun e=>(h6 e).imp fun _ x=>⟨x.1,x.2.grew g⟩,fun e=>(h7 e).imp fun _ x=>⟨x.1,x.2.grew g⟩,h8,fun e=>(h9 e).imp fun _ x=>⟨x.1,x.2.grew g⟩,fun e=>(h10 e).imp fun _ x=>⟨x.1,x.2.grew g⟩,fun e=>(h11 e).imp fun _ x=>⟨x.1,x.2.grew g⟩,fun e=>(h12 e).imp fun _ x=>⟨x.1,x.2.grew g⟩,h13,h14,h15⟩
theorem ofProcess_any (n:Nat) (w:Xn):Xp Tryz.prog 34 #[.func (.func n) #[] #[]] w fun e w'=>e= Xl (.func (.func 73) #[] #[Xj (Xa ⟨w.heap.size,0,Xb⟩)])/\w'=w.alloc (Xk #[.func (.func n) #[] #[]] 80):=by
 go_enter Tryz.func34,Tryz.ntmps34
 go_wp2;go_ret;exact⟨rfl,rfl⟩
theorem ofFile_any (n:Nat) (w:Xn):Xp Tryz.prog 43 #[.func (.func n) #[] #[]] w fun e w'=>e= Xl (.func (.func 88) #[] #[Xj (Xa ⟨w.heap.size,0,Xb⟩)])/\w'=w.alloc (Xk #[.func (.func n) #[] #[]] 80):=by
 go_enter Tryz.func43,Tryz.ntmps43
 go_wp2;go_ret;exact⟨rfl,rfl⟩
theorem lookN_mem {k:Int} {v:Xq}:∀{l:List (Int × Xq)},lookN l k=Xa v->(k,v)∈l
 | [],h=>by cases h
 | p :: l,h=>by
  unfold lookN at h
  by_cases e:k=p.1
  ·rw[if_pos e]at h;cases h;rw[e];exact Xz ..
  rw[if_neg e]at h;exact Xy _ (lookN_mem h)
theorem boxmap {w:Xn} {g b:Nat} {t:TypeId} {cs:List Xq} {l:List (Int × Xq)} (h:BoxT w g t cs) (k:MapV w b l):g≠b:=fun e=>by
 subst e;obtain⟨es,cl,h1,_⟩:=k;have h2:w.heap[g]? =Xa (Xk cs.toArray t (0,0)):=h;rw[h1]at h2;cases h2
theorem works_any (w:Xn):Xp Tryz.prog 22 #[] w fun e w'=>(∃(B:Nat) (l:List (Int × Xq)),e= Xl (.map (Xa B))/\MapV w' B l/\(∀k v,lookN l k=Xa v->WorkV w' k v)/\∀k,(lookN l k).isSome=decide (1<=k/\k<=15))/\Grew w w':=by
 obtain⟨b,HB⟩:∃b,Xo (w.heap.size=b):=⟨_,rfl⟩;obtain⟨W0,hW0⟩:∃W0,w.alloc (.map #[] 0)=W0:=⟨_,rfl⟩;have G0:Xo (Grew w W0):=show Grew _ _ by rw[<-hW0];exact grew_alloc _ _
 have M0:Xo (MapV W0 b []):=show MapV _ _ _ by rw[<-hW0,<-HB.out];exact MapV.made w
 have hmm:=@run_makeMap Tryz.prog
 go_enter Tryz.func22,Tryz.ntmps22
 go_wp2_with fail;rw[HB.out];clear hW0 hmm;refine(ofProcess_any _ _).mono ?_;rintro r w' ⟨rfl,hw'⟩;rw[hw'];clear hw' w';obtain⟨W0a,hWa⟩:∃W0a,W0.alloc (Xk #[.func (.func 35) #[] #[]] 80)=W0a:=⟨_,rfl⟩;obtain⟨g1,HG1⟩:∃g1,Xo (W0.heap.size=g1):=⟨_,rfl⟩;have ga:=gP hWa
 have X1:=xPT hWa HG1
 have G0a:=dD (G0.out.trans ga);have M0a:=dD (M0.out.grew ga);rw[hWa,HG1.out];clear hWa ga G0 M0
 go_wp2_with (refine wpList_insert_num rfl Tryz.underlying3 Tryz.underlying82 (.tmp 1) (.const (Xe Xf 1)) (.tmp 2) rfl b [] M0a.out 1 (.func (.func 73) #[] #[Xj (Xa ⟨g1,0,Xb⟩)]) rfl rfl rfl (by simp[lookN]) ?_)
 intro W1 mp gr;have M1:Xo (MapV W1 b [(1,.func (.func 73) #[] #[Xj (Xa ⟨g1,0,Xb⟩)])]):=mp;have G1:Xo (Grew w W1):=show Grew _ _ from grew_grown G0a.out gr (by have:=HB.out;omega)
 have X1:Xo (BoxT W1 g1 80 [.func (.func 35) #[] #[]]):=X1.out.beside gr (b:=g1) (fun x hx=>by cases hx;exact boxmap X1.out M0a.out)
 clear mp gr M0a G0a;go_wp2_with fail;refine(ofProcess_any _ _).mono ?_;rintro r w' ⟨rfl,hw'⟩;rw[hw'];clear hw' w';obtain⟨W1a,hWa⟩:∃W1a,W1.alloc (Xk #[.func (.func 36) #[] #[]] 80)=W1a:=⟨_,rfl⟩;obtain⟨g2,HG2⟩:∃g2,Xo (W1.heap.size=g2):=⟨_,rfl⟩;have ga:=gP hWa
 have X2:=xPT hWa HG2
 have G1a:=dD (G1.out.trans ga);have M1a:=dD (M1.out.grew ga);have X1:=dD (X1.out.grew ga);rw[hWa,HG2.out];clear hWa ga G1 M1
 go_wp2_with (refine wpList_insert_num rfl Tryz.underlying3 Tryz.underlying82 (.tmp 1) (.const (Xe Xf 2)) (.tmp 3) rfl b [(1,.func (.func 73) #[] #[Xj (Xa ⟨g1,0,Xb⟩)])] M1a.out 2 (.func (.func 73) #[] #[Xj (Xa ⟨g2,0,Xb⟩)]) rfl rfl rfl (by simp[lookN]) ?_)
 intro W2 mp gr;have M2:Xo (MapV W2 b [(1,.func (.func 73) #[] #[Xj (Xa ⟨g1,0,Xb⟩)]),(2,.func (.func 73) #[] #[Xj (Xa ⟨g2,0,Xb⟩)])]):=mp;have G2:Xo (Grew w W2):=show Grew _ _ from grew_grown G1a.out gr (by have:=HB.out;omega)
 have X1:Xo (BoxT W2 g1 80 [.func (.func 35) #[] #[]]):=X1.out.beside gr (b:=g1) (fun x hx=>by cases hx;exact boxmap X1.out M1a.out)
 have X2:Xo (BoxT W2 g2 80 [.func (.func 36) #[] #[]]):=X2.out.beside gr (b:=g2) (fun x hx=>by cases hx;exact boxmap X2.out M1a.out)
 clear mp gr M1a G1a;go_wp2_with fail;refine(ofProcess_any _ _).mono ?_;rintro r w' ⟨rfl,hw'⟩;rw[hw'];clear hw' w';obtain⟨W2a,hWa⟩:∃W2a,W2.alloc (Xk #[.func (.func 37) #[] #[]] 80)=W2a:=⟨_,rfl⟩;obtain⟨g3,HG3⟩:∃g3,Xo (W2.heap.size=g3):=⟨_,rfl⟩;have ga:=gP hWa
 have X3:=xPT hWa HG3
 have G2a:=dD (G2.out.trans ga);have M2a:=dD (M2.out.grew ga);have X1:=dD (X1.out.grew ga);have X2:=dD (X2.out.grew ga);rw[hWa,HG3.out];clear hWa ga G2 M2
 go_wp2_with (refine wpList_insert_num rfl Tryz.underlying3 Tryz.underlying82 (.tmp 1) (.const (Xe Xf 3)) (.tmp 4) rfl b [(1,.func (.func 73) #[] #[Xj (Xa ⟨g1,0,Xb⟩)]),(2,.func (.func 73) #[] #[Xj (Xa ⟨g2,0,Xb⟩)])] M2a.out 3 (.func (.func 73) #[] #[Xj (Xa ⟨g3,0,Xb⟩)]) rfl rfl rfl (by simp[lookN]) ?_)
 intro W3 mp gr;have M3:Xo (MapV W3 b [(1,.func (.func 73) #[] #[Xj (Xa ⟨g1,0,Xb⟩)]),(2,.func (.func 73) #[] #[Xj (Xa ⟨g2,0,Xb⟩)]),(3,.func (.func 73) #[] #[Xj (Xa ⟨g3,0,Xb⟩)])]):=mp;have G3:Xo (Grew w W3):=show Grew _ _ from grew_grown G2a.out gr (by have:=HB.out;omega)
 have X1:Xo (BoxT W3 g1 80 [.func (.func 35) #[] #[]]):=X1.out.beside gr (b:=g1) (fun x hx=>by cases hx;exact boxmap X1.out M2a.out)
 have X2:Xo (BoxT W3 g2 80 [.func (.func 36) #[] #[]]):=X2.out.beside gr (b:=g2) (fun x hx=>by cases hx;exact boxmap X2.out M2a.out)
 have X3:Xo (BoxT W3 g3 80 [.func (.func 37) #[] #[]]):=X3.out.beside gr (b:=g3) (fun x hx=>by cases hx;exact boxmap X3.out M2a.out)
 clear mp gr M2a G2a;go_wp2_with fail;refine(ofProcess_any _ _).mono ?_;rintro r w' ⟨rfl,hw'⟩;rw[hw'];clear hw' w';obtain⟨W3a,hWa⟩:∃W3a,W3.alloc (Xk #[.func (.func 38) #[] #[]] 80)=W3a:=⟨_,rfl⟩;obtain⟨g4,HG4⟩:∃g4,Xo (W3.heap.size=g4):=⟨_,rfl⟩;have ga:=gP hWa
 have X4:=xPT hWa HG4
 have G3a:=dD (G3.out.trans ga);have M3a:=dD (M3.out.grew ga);have X1:=dD (X1.out.grew ga);have X2:=dD (X2.out.grew ga);have X3:=dD (X3.out.grew ga);rw[hWa,HG4.out];clear hWa ga G3 M3
 go_wp2_with (refine wpList_insert_num rfl Tryz.underlying3 Tryz.underlying82 (.tmp 1) (.const (Xe Xf 4)) (.tmp 5) rfl b [(1,.func (.func 73) #[] #[Xj (Xa ⟨g1,0,Xb⟩)]),(2,.func (.func 73) #[] #[Xj (Xa ⟨g2,0,Xb⟩)]),(3,.func (.func 73) #[] #[Xj (Xa ⟨g3,0,Xb⟩)])] M3a.out 4 (.func (.func 73) #[] #[Xj (Xa ⟨g4,0,Xb⟩)]) rfl rfl rfl (by simp[lookN]) ?_)
 intro W4 mp gr;have M4:Xo (MapV W4 b [(1,.func (.func 73) #[] #[Xj (Xa ⟨g1,0,Xb⟩)]),(2,.func (.func 73) #[] #[Xj (Xa ⟨g2,0,Xb⟩)]),(3,.func (.func 73) #[] #[Xj (Xa ⟨g3,0,Xb⟩)]),(4,.func (.func 73) #[] #[Xj (Xa ⟨g4,0,Xb⟩)])]):=mp;have G4:Xo (Grew w W4):=show Grew _ _ from grew_grown G3a.out gr (by have:=HB.out;omega)
 have X1:Xo (BoxT W4 g1 80 [.func (.func 35) #[] #[]]):=X1.out.beside gr (b:=g1) (fun x hx=>by cases hx;exact boxmap X1.out M3a.out)
 have X2:Xo (BoxT W4 g2 80 [.func (.func 36) #[] #[]]):=X2.out.beside gr (b:=g2) (fun x hx=>by cases hx;exact boxmap X2.out M3a.out)
 have X3:Xo (BoxT W4 g3 80 [.func (.func 37) #[] #[]]):=X3.out.beside gr (b:=g3) (fun x hx=>by cases hx;exact boxmap X3.out M3a.out)
 have X4:Xo (BoxT W4 g4 80 [.func (.func 38) #[] #[]]):=X4.out.beside gr (b:=g4) (fun x hx=>by cases hx;exact boxmap X4.out M3a.out)
 clear mp gr M3a G3a;go_wp2_with fail;refine(ofProcess_any _ _).mono ?_;rintro r w' ⟨rfl,hw'⟩;rw[hw'];clear hw' w';obtain⟨W4a,hWa⟩:∃W4a,W4.alloc (Xk #[.func (.func 39) #[] #[]] 80)=W4a:=⟨_,rfl⟩;obtain⟨g5,HG5⟩:∃g5,Xo (W4.heap.size=g5):=⟨_,rfl⟩;have ga:=gP hWa
 have X5:=xPT hWa HG5
 have G4a:=dD (G4.out.trans ga);have M4a:=dD (M4.out.grew ga);have X1:=dD (X1.out.grew ga);have X2:=dD (X2.out.grew ga);have X3:=dD (X3.out.grew ga);have X4:=dD (X4.out.grew ga);rw[hWa,HG5.out];clear hWa ga G4 M4
 go_wp2_with (refine wpList_insert_num rfl Tryz.underlying3 Tryz.underlying82 (.tmp 1) (.const (Xe Xf 5)) (.tmp 6) rfl b [(1,.func (.func 73) #[] #[Xj (Xa ⟨g1,0,Xb⟩)]),(2,.func (.func 73) #[] #[Xj (Xa ⟨g2,0,Xb⟩)]),(3,.func (.func 73) #[] #[Xj (Xa ⟨g3,0,Xb⟩)]),(4,.func (.func 73) #[] #[Xj (Xa ⟨g4,0,Xb⟩)])] M4a.out 5 (.func (.func 73) #[] #[Xj (Xa ⟨g5,0,Xb⟩)]) rfl rfl rfl (by simp[lookN]) ?_)
 intro W5 mp gr;have M5:Xo (MapV W5 b [(1,.func (.func 73) #[] #[Xj (Xa ⟨g1,0,Xb⟩)]),(2,.func (.func 73) #[] #[Xj (Xa ⟨g2,0,Xb⟩)]),(3,.func (.func 73) #[] #[Xj (Xa ⟨g3,0,Xb⟩)]),(4,.func (.func 73) #[] #[Xj (Xa ⟨g4,0,Xb⟩)]),(5,.func (.func 73) #[] #[Xj (Xa ⟨g5,0,Xb⟩)])]):=mp;have G5:Xo (Grew w W5):=show Grew _ _ from grew_grown G4a.out gr (by have:=HB.out;omega)
 have X1:Xo (BoxT W5 g1 80 [.func (.func 35) #[] #[]]):=X1.out.beside gr (b:=g1) (fun x hx=>by cases hx;exact boxmap X1.out M4a.out)
 have X2:Xo (BoxT W5 g2 80 [.func (.func 36) #[] #[]]):=X2.out.beside gr (b:=g2) (fun x hx=>by cases hx;exact boxmap X2.out M4a.out)
 have X3:Xo (BoxT W5 g3 80 [.func (.func 37) #[] #[]]):=X3.out.beside gr (b:=g3) (fun x hx=>by cases hx;exact boxmap X3.out M4a.out)
 have X4:Xo (BoxT W5 g4 80 [.func (.func 38) #[] #[]]):=X4.out.beside gr (b:=g4) (fun x hx=>by cases hx;exact boxmap X4.out M4a.out)
 have X5:Xo (BoxT W5 g5 80 [.func (.func 39) #[] #[]]):=X5.out.beside gr (b:=g5) (fun x hx=>by cases hx;exact boxmap X5.out M4a.out)
 clear mp gr M4a G4a;go_wp2_with fail;refine(ofProcess_any _ _).mono ?_;rintro r w' ⟨rfl,hw'⟩;rw[hw'];clear hw' w';obtain⟨W5a,hWa⟩:∃W5a,W5.alloc (Xk #[.func (.func 40) #[] #[]] 80)=W5a:=⟨_,rfl⟩;obtain⟨g6,HG6⟩:∃g6,Xo (W5.heap.size=g6):=⟨_,rfl⟩;have ga:=gP hWa
 have X6:=xPT hWa HG6
 have G5a:=dD (G5.out.trans ga);have M5a:=dD (M5.out.grew ga);have X1:=dD (X1.out.grew ga);have X2:=dD (X2.out.grew ga);have X3:=dD (X3.out.grew ga);have X4:=dD (X4.out.grew ga);have X5:=dD (X5.out.grew ga);rw[hWa,HG6.out];clear hWa ga G5 M5
 go_wp2_with (refine wpList_insert_num rfl Tryz.underlying3 Tryz.underlying82 (.tmp 1) (.const (Xe Xf 6)) (.tmp 7) rfl b [(1,.func (.func 73) #[] #[Xj (Xa ⟨g1,0,Xb⟩)]),(2,.func (.func 73) #[] #[Xj (Xa ⟨g2,0,Xb⟩)]),(3,.func (.func 73) #[] #[Xj (Xa ⟨g3,0,Xb⟩)]),(4,.func (.func 73) #[] #[Xj (Xa ⟨g4,0,Xb⟩)]),(5,.func (.func 73) #[] #[Xj (Xa ⟨g5,0,Xb⟩)])] M5a.out 6 (.func (.func 73) #[] #[Xj (Xa ⟨g6,0,Xb⟩)]) rfl rfl rfl (by simp[lookN]) ?_)
 intro W6 mp gr;have M6:Xo (MapV W6 b [(1,.func (.func 73) #[] #[Xj (Xa ⟨g1,0,Xb⟩)]),(2,.func (.func 73) #[] #[Xj (Xa ⟨g2,0,Xb⟩)]),(3,.func (.func 73) #[] #[Xj (Xa ⟨g3,0,Xb⟩)]),(4,.func (.func 73) #[] #[Xj (Xa ⟨g4,0,Xb⟩)]),(5,.func (.func 73) #[] #[Xj (Xa ⟨g5,0,Xb⟩)]),(6,.func (.func 73) #[] #[Xj (Xa ⟨g6,0,Xb⟩)])]):=mp;have G6:Xo (Grew w W6):=show Grew _ _ from grew_grown G5a.out gr (by have:=HB.out;omega)
 have X1:Xo (BoxT W6 g1 80 [.func (.func 35) #[] #[]]):=X1.out.beside gr (b:=g1) (fun x hx=>by cases hx;exact boxmap X1.out M5a.out)
 have X2:Xo (BoxT W6 g2 80 [.func (.func 36) #[] #[]]):=X2.out.beside gr (b:=g2) (fun x hx=>by cases hx;exact boxmap X2.out M5a.out)
 have X3:Xo (BoxT W6 g3 80 [.func (.func 37) #[] #[]]):=X3.out.beside gr (b:=g3) (fun x hx=>by cases hx;exact boxmap X3.out M5a.out)
 have X4:Xo (BoxT W6 g4 80 [.func (.func 38) #[] #[]]):=X4.out.beside gr (b:=g4) (fun x hx=>by cases hx;exact boxmap X4.out M5a.out)
 have X5:Xo (BoxT W6 g5 80 [.func (.func 39) #[] #[]]):=X5.out.beside gr (b:=g5) (fun x hx=>by cases hx;exact boxmap X5.out M5a.out)
 have X6:Xo (BoxT W6 g6 80 [.func (.func 40) #[] #[]]):=X6.out.beside gr (b:=g6) (fun x hx=>by cases hx;exact boxmap X6.out M5a.out)
 clear mp gr M5a G5a;go_wp2_with fail;refine(ofProcess_any _ _).mono ?_;rintro r w' ⟨rfl,hw'⟩;rw[hw'];clear hw' w';obtain⟨W6a,hWa⟩:∃W6a,W6.alloc (Xk #[.func (.func 41) #[] #[]] 80)=W6a:=⟨_,rfl⟩;obtain⟨g7,HG7⟩:∃g7,Xo (W6.heap.size=g7):=⟨_,rfl⟩;have ga:=gP hWa
 have X7:=xPT hWa HG7
 have G6a:=dD (G6.out.trans ga);have M6a:=dD (M6.out.grew ga);have X1:=dD (X1.out.grew ga);have X2:=dD (X2.out.grew ga);have X3:=dD (X3.out.grew ga);have X4:=dD (X4.out.grew ga);have X5:=dD (X5.out.grew ga);have X6:=dD (X6.out.grew ga);rw[hWa,HG7.out];clear hWa ga G6 M6
 go_wp2_with (refine wpList_insert_num rfl Tryz.underlying3 Tryz.underlying82 (.tmp 1) (.const (Xe Xf 7)) (.tmp 8) rfl b [(1,.func (.func 73) #[] #[Xj (Xa ⟨g1,0,Xb⟩)]),(2,.func (.func 73) #[] #[Xj (Xa ⟨g2,0,Xb⟩)]),(3,.func (.func 73) #[] #[Xj (Xa ⟨g3,0,Xb⟩)]),(4,.func (.func 73) #[] #[Xj (Xa ⟨g4,0,Xb⟩)]),(5,.func (.func 73) #[] #[Xj (Xa ⟨g5,0,Xb⟩)]),(6,.func (.func 73) #[] #[Xj (Xa ⟨g6,0,Xb⟩)])] M6a.out 7 (.func (.func 73) #[] #[Xj (Xa ⟨g7,0,Xb⟩)]) rfl rfl rfl (by simp[lookN]) ?_)
 intro W7 mp gr;have M7:Xo (MapV W7 b [(1,.func (.func 73) #[] #[Xj (Xa ⟨g1,0,Xb⟩)]),(2,.func (.func 73) #[] #[Xj (Xa ⟨g2,0,Xb⟩)]),(3,.func (.func 73) #[] #[Xj (Xa ⟨g3,0,Xb⟩)]),(4,.func (.func 73) #[] #[Xj (Xa ⟨g4,0,Xb⟩)]),(5,.func (.func 73) #[] #[Xj (Xa ⟨g5,0,Xb⟩)]),(6,.func (.func 73) #[] #[Xj (Xa ⟨g6,0,Xb⟩)]),(7,.func (.func 73) #[] #[Xj (Xa ⟨g7,0,Xb⟩)])]):=mp;have G7:Xo (Grew w W7):=show Grew _ _ from grew_grown G6a.out gr (by have:=HB.out;omega)
 have X1:Xo (BoxT W7 g1 80 [.func (.func 35) #[] #[]]):=X1.out.beside gr (b:=g1) (fun x hx=>by cases hx;exact boxmap X1.out M6a.out)
 have X2:Xo (BoxT W7 g2 80 [.func (.func 36) #[] #[]]):=X2.out.beside gr (b:=g2) (fun x hx=>by cases hx;exact boxmap X2.out M6a.out)
 have X3:Xo (BoxT W7 g3 80 [.func (.func 37) #[] #[]]):=X3.out.beside gr (b:=g3) (fun x hx=>by cases hx;exact boxmap X3.out M6a.out)
 have X4:Xo (BoxT W7 g4 80 [.func (.func 38) #[] #[]]):=X4.out.beside gr (b:=g4) (fun x hx=>by cases hx;exact boxmap X4.out M6a.out)
 have X5:Xo (BoxT W7 g5 80 [.func (.func 39) #[] #[]]):=X5.out.beside gr (b:=g5) (fun x hx=>by cases hx;exact boxmap X5.out M6a.out)
 have X6:Xo (BoxT W7 g6 80 [.func (.func 40) #[] #[]]):=X6.out.beside gr (b:=g6) (fun x hx=>by cases hx;exact boxmap X6.out M6a.out)
 have X7:Xo (BoxT W7 g7 80 [.func (.func 41) #[] #[]]):=X7.out.beside gr (b:=g7) (fun x hx=>by cases hx;exact boxmap X7.out M6a.out)
 clear mp gr M6a G6a
 go_wp2_with (refine wpList_insert_num rfl Tryz.underlying3 Tryz.underlying82 (.tmp 1) (.const (Xe Xf 8)) (.func 42) rfl b [(1,.func (.func 73) #[] #[Xj (Xa ⟨g1,0,Xb⟩)]),(2,.func (.func 73) #[] #[Xj (Xa ⟨g2,0,Xb⟩)]),(3,.func (.func 73) #[] #[Xj (Xa ⟨g3,0,Xb⟩)]),(4,.func (.func 73) #[] #[Xj (Xa ⟨g4,0,Xb⟩)]),(5,.func (.func 73) #[] #[Xj (Xa ⟨g5,0,Xb⟩)]),(6,.func (.func 73) #[] #[Xj (Xa ⟨g6,0,Xb⟩)]),(7,.func (.func 73) #[] #[Xj (Xa ⟨g7,0,Xb⟩)])] M7.out 8 (.func (.func 42) #[] #[]) rfl rfl rfl (by simp[lookN]) ?_)
 intro W8 mp gr;have M8:Xo (MapV W8 b [(1,.func (.func 73) #[] #[Xj (Xa ⟨g1,0,Xb⟩)]),(2,.func (.func 73) #[] #[Xj (Xa ⟨g2,0,Xb⟩)]),(3,.func (.func 73) #[] #[Xj (Xa ⟨g3,0,Xb⟩)]),(4,.func (.func 73) #[] #[Xj (Xa ⟨g4,0,Xb⟩)]),(5,.func (.func 73) #[] #[Xj (Xa ⟨g5,0,Xb⟩)]),(6,.func (.func 73) #[] #[Xj (Xa ⟨g6,0,Xb⟩)]),(7,.func (.func 73) #[] #[Xj (Xa ⟨g7,0,Xb⟩)]),(8,.func (.func 42) #[] #[])]):=mp;have G8:Xo (Grew w W8):=show Grew _ _ from grew_grown G7.out gr (by have:=HB.out;omega)
 have X1:Xo (BoxT W8 g1 80 [.func (.func 35) #[] #[]]):=X1.out.beside gr (b:=g1) (fun x hx=>by cases hx;exact boxmap X1.out M7.out)
 have X2:Xo (BoxT W8 g2 80 [.func (.func 36) #[] #[]]):=X2.out.beside gr (b:=g2) (fun x hx=>by cases hx;exact boxmap X2.out M7.out)
 have X3:Xo (BoxT W8 g3 80 [.func (.func 37) #[] #[]]):=X3.out.beside gr (b:=g3) (fun x hx=>by cases hx;exact boxmap X3.out M7.out)
 have X4:Xo (BoxT W8 g4 80 [.func (.func 38) #[] #[]]):=X4.out.beside gr (b:=g4) (fun x hx=>by cases hx;exact boxmap X4.out M7.out)
 have X5:Xo (BoxT W8 g5 80 [.func (.func 39) #[] #[]]):=X5.out.beside gr (b:=g5) (fun x hx=>by cases hx;exact boxmap X5.out M7.out)
 have X6:Xo (BoxT W8 g6 80 [.func (.func 40) #[] #[]]):=X6.out.beside gr (b:=g6) (fun x hx=>by cases hx;exact boxmap X6.out M7.out)
 have X7:Xo (BoxT W8 g7 80 [.func (.func 41) #[] #[]]):=X7.out.beside gr (b:=g7) (fun x hx=>by cases hx;exact boxmap X7.out M7.out)
 clear mp gr M7 G7;go_wp2_with fail;refine(ofFile_any _ _).mono ?_;rintro r w' ⟨rfl,hw'⟩;rw[hw'];clear hw' w';obtain⟨W8a,hWa⟩:∃W8a,W8.alloc (Xk #[.func (.func 44) #[] #[]] 80)=W8a:=⟨_,rfl⟩;obtain⟨g9,HG9⟩:∃g9,Xo (W8.heap.size=g9):=⟨_,rfl⟩;have ga:=gP hWa
 have X9:=xPT hWa HG9
 have G8a:=dD (G8.out.trans ga);have M8a:=dD (M8.out.grew ga);have X1:=dD (X1.out.grew ga);have X2:=dD (X2.out.grew ga);have X3:=dD (X3.out.grew ga);have X4:=dD (X4.out.grew ga);have X5:=dD (X5.out.grew ga);have X6:=dD (X6.out.grew ga);have X7:=dD (X7.out.grew ga);rw[hWa,HG9.out];clear hWa ga G8 M8
 go_wp2_with (refine wpList_insert_num rfl Tryz.underlying3 Tryz.underlying82 (.tmp 1) (.const (Xe Xf 9)) (.tmp 9) rfl b [(1,.func (.func 73) #[] #[Xj (Xa ⟨g1,0,Xb⟩)]),(2,.func (.func 73) #[] #[Xj (Xa ⟨g2,0,Xb⟩)]),(3,.func (.func 73) #[] #[Xj (Xa ⟨g3,0,Xb⟩)]),(4,.func (.func 73) #[] #[Xj (Xa ⟨g4,0,Xb⟩)]),(5,.func (.func 73) #[] #[Xj (Xa ⟨g5,0,Xb⟩)]),(6,.func (.func 73) #[] #[Xj (Xa ⟨g6,0,Xb⟩)]),(7,.func (.func 73) #[] #[Xj (Xa ⟨g7,0,Xb⟩)]),(8,.func (.func 42) #[] #[])] M8a.out 9 (.func (.func 88) #[] #[Xj (Xa ⟨g9,0,Xb⟩)]) rfl rfl rfl (by simp[lookN]) ?_)
 intro W9 mp gr;have M9:Xo (MapV W9 b [(1,.func (.func 73) #[] #[Xj (Xa ⟨g1,0,Xb⟩)]),(2,.func (.func 73) #[] #[Xj (Xa ⟨g2,0,Xb⟩)]),(3,.func (.func 73) #[] #[Xj (Xa ⟨g3,0,Xb⟩)]),(4,.func (.func 73) #[] #[Xj (Xa ⟨g4,0,Xb⟩)]),(5,.func (.func 73) #[] #[Xj (Xa ⟨g5,0,Xb⟩)]),(6,.func (.func 73) #[] #[Xj (Xa ⟨g6,0,Xb⟩)]),(7,.func (.func 73) #[] #[Xj (Xa ⟨g7,0,Xb⟩)]),(8,.func (.func 42) #[] #[]),(9,.func (.func 88) #[] #[Xj (Xa ⟨g9,0,Xb⟩)])]):=mp;have G9:Xo (Grew w W9):=show Grew _ _ from grew_grown G8a.out gr (by have:=HB.out;omega)
 have X1:Xo (BoxT W9 g1 80 [.func (.func 35) #[] #[]]):=X1.out.beside gr (b:=g1) (fun x hx=>by cases hx;exact boxmap X1.out M8a.out)
 have X2:Xo (BoxT W9 g2 80 [.func (.func 36) #[] #[]]):=X2.out.beside gr (b:=g2) (fun x hx=>by cases hx;exact boxmap X2.out M8a.out)
 have X3:Xo (BoxT W9 g3 80 [.func (.func 37) #[] #[]]):=X3.out.beside gr (b:=g3) (fun x hx=>by cases hx;exact boxmap X3.out M8a.out)
 have X4:Xo (BoxT W9 g4 80 [.func (.func 38) #[] #[]]):=X4.out.beside gr (b:=g4) (fun x hx=>by cases hx;exact boxmap X4.out M8a.out)
 have X5:Xo (BoxT W9 g5 80 [.func (.func 39) #[] #[]]):=X5.out.beside gr (b:=g5) (fun x hx=>by cases hx;exact boxmap X5.out M8a.out)
 have X6:Xo (BoxT W9 g6 80 [.func (.func 40) #[] #[]]):=X6.out.beside gr (b:=g6) (fun x hx=>by cases hx;exact boxmap X6.out M8a.out)
 have X7:Xo (BoxT W9 g7 80 [.func (.func 41) #[] #[]]):=X7.out.beside gr (b:=g7) (fun x hx=>by cases hx;exact boxmap X7.out M8a.out)
 have X9:Xo (BoxT W9 g9 80 [.func (.func 44) #[] #[]]):=X9.out.beside gr (b:=g9) (fun x hx=>by cases hx;exact boxmap X9.out M8a.out)
 clear mp gr M8a G8a;go_wp2_with fail;refine(ofFile_any _ _).mono ?_;rintro r w' ⟨rfl,hw'⟩;rw[hw'];clear hw' w';obtain⟨W9a,hWa⟩:∃W9a,W9.alloc (Xk #[.func (.func 45) #[] #[]] 80)=W9a:=⟨_,rfl⟩;obtain⟨g10,HG10⟩:∃g10,Xo (W9.heap.size=g10):=⟨_,rfl⟩;have ga:=gP hWa
 have X10:=xPT hWa HG10
 have G9a:=dD (G9.out.trans ga);have M9a:=dD (M9.out.grew ga);have X1:=dD (X1.out.grew ga);have X2:=dD (X2.out.grew ga);have X3:=dD (X3.out.grew ga);have X4:=dD (X4.out.grew ga);have X5:=dD (X5.out.grew ga);have X6:=dD (X6.out.grew ga);have X7:=dD (X7.out.grew ga);have X9:=dD (X9.out.grew ga);rw[hWa,HG10.out];clear hWa ga G9 M9
 go_wp2_with (refine wpList_insert_num rfl Tryz.underlying3 Tryz.underlying82 (.tmp 1) (.const (Xe Xf 10)) (.tmp 10) rfl b [(1,.func (.func 73) #[] #[Xj (Xa ⟨g1,0,Xb⟩)]),(2,.func (.func 73) #[] #[Xj (Xa ⟨g2,0,Xb⟩)]),(3,.func (.func 73) #[] #[Xj (Xa ⟨g3,0,Xb⟩)]),(4,.func (.func 73) #[] #[Xj (Xa ⟨g4,0,Xb⟩)]),(5,.func (.func 73) #[] #[Xj (Xa ⟨g5,0,Xb⟩)]),(6,.func (.func 73) #[] #[Xj (Xa ⟨g6,0,Xb⟩)]),(7,.func (.func 73) #[] #[Xj (Xa ⟨g7,0,Xb⟩)]),(8,.func (.func 42) #[] #[]),(9,.func (.func 88) #[] #[Xj (Xa ⟨g9,0,Xb⟩)])] M9a.out 10 (.func (.func 88) #[] #[Xj (Xa ⟨g10,0,Xb⟩)]) rfl rfl rfl (by simp[lookN]) ?_)
 intro W10 mp gr;have M10:Xo (MapV W10 b [(1,.func (.func 73) #[] #[Xj (Xa ⟨g1,0,Xb⟩)]),(2,.func (.func 73) #[] #[Xj (Xa ⟨g2,0,Xb⟩)]),(3,.func (.func 73) #[] #[Xj (Xa ⟨g3,0,Xb⟩)]),(4,.func (.func 73) #[] #[Xj (Xa ⟨g4,0,Xb⟩)]),(5,.func (.func 73) #[] #[Xj (Xa ⟨g5,0,Xb⟩)]),(6,.func (.func 73) #[] #[Xj (Xa ⟨g6,0,Xb⟩)]),(7,.func (.func 73) #[] #[Xj (Xa ⟨g7,0,Xb⟩)]),(8,.func (.func 42) #[] #[]),(9,.func (.func 88) #[] #[Xj (Xa ⟨g9,0,Xb⟩)]),(10,.func (.func 88) #[] #[Xj (Xa ⟨g10,0,Xb⟩)])]):=mp;have G10:Xo (Grew w W10):=show Grew _ _ from grew_grown G9a.out gr (by have:=HB.out;omega)
 have X1:Xo (BoxT W10 g1 80 [.func (.func 35) #[] #[]]):=X1.out.beside gr (b:=g1) (fun x hx=>by cases hx;exact boxmap X1.out M9a.out)
 have X2:Xo (BoxT W10 g2 80 [.func (.func 36) #[] #[]]):=X2.out.beside gr (b:=g2) (fun x hx=>by cases hx;exact boxmap X2.out M9a.out)
 have X3:Xo (BoxT W10 g3 80 [.func (.func 37) #[] #[]]):=X3.out.beside gr (b:=g3) (fun x hx=>by cases hx;exact boxmap X3.out M9a.out)
 have X4:Xo (BoxT W10 g4 80 [.func (.func 38) #[] #[]]):=X4.out.beside gr (b:=g4) (fun x hx=>by cases hx;exact boxmap X4.out M9a.out)
 have X5:Xo (BoxT W10 g5 80 [.func (.func 39) #[] #[]]):=X5.out.beside gr (b:=g5) (fun x hx=>by cases hx;exact boxmap X5.out M9a.out)
 have X6:Xo (BoxT W10 g6 80 [.func (.func 40) #[] #[]]):=X6.out.beside gr (b:=g6) (fun x hx=>by cases hx;exact boxmap X6.out M9a.out)
 have X7:Xo (BoxT W10 g7 80 [.func (.func 41) #[] #[]]):=X7.out.beside gr (b:=g7) (fun x hx=>by cases hx;exact boxmap X7.out M9a.out)
 have X9:Xo (BoxT W10 g9 80 [.func (.func 44) #[] #[]]):=X9.out.beside gr (b:=g9) (fun x hx=>by cases hx;exact boxmap X9.out M9a.out)
 have X10:Xo (BoxT W10 g10 80 [.func (.func 45) #[] #[]]):=X10.out.beside gr (b:=g10) (fun x hx=>by cases hx;exact boxmap X10.out M9a.out)
 clear mp gr M9a G9a;go_wp2_with fail;refine(ofFile_any _ _).mono ?_;rintro r w' ⟨rfl,hw'⟩;rw[hw'];clear hw' w';obtain⟨W10a,hWa⟩:∃W10a,W10.alloc (Xk #[.func (.func 46) #[] #[]] 80)=W10a:=⟨_,rfl⟩;obtain⟨g11,HG11⟩:∃g11,Xo (W10.heap.size=g11):=⟨_,rfl⟩;have ga:=gP hWa
 have X11:=xPT hWa HG11
 have G10a:=dD (G10.out.trans ga);have M10a:=dD (M10.out.grew ga);have X1:=dD (X1.out.grew ga);have X2:=dD (X2.out.grew ga);have X3:=dD (X3.out.grew ga);have X4:=dD (X4.out.grew ga);have X5:=dD (X5.out.grew ga);have X6:=dD (X6.out.grew ga);have X7:=dD (X7.out.grew ga);have X9:=dD (X9.out.grew ga);have X10:=dD (X10.out.grew ga);rw[hWa,HG11.out];clear hWa ga G10 M10
 go_wp2_with (refine wpList_insert_num rfl Tryz.underlying3 Tryz.underlying82 (.tmp 1) (.const (Xe Xf 11)) (.tmp 11) rfl b [(1,.func (.func 73) #[] #[Xj (Xa ⟨g1,0,Xb⟩)]),(2,.func (.func 73) #[] #[Xj (Xa ⟨g2,0,Xb⟩)]),(3,.func (.func 73) #[] #[Xj (Xa ⟨g3,0,Xb⟩)]),(4,.func (.func 73) #[] #[Xj (Xa ⟨g4,0,Xb⟩)]),(5,.func (.func 73) #[] #[Xj (Xa ⟨g5,0,Xb⟩)]),(6,.func (.func 73) #[] #[Xj (Xa ⟨g6,0,Xb⟩)]),(7,.func (.func 73) #[] #[Xj (Xa ⟨g7,0,Xb⟩)]),(8,.func (.func 42) #[] #[]),(9,.func (.func 88) #[] #[Xj (Xa ⟨g9,0,Xb⟩)]),(10,.func (.func 88) #[] #[Xj (Xa ⟨g10,0,Xb⟩)])] M10a.out 11 (.func (.func 88) #[] #[Xj (Xa ⟨g11,0,Xb⟩)]) rfl rfl rfl (by simp[lookN]) ?_)
 intro W11 mp gr;have M11:Xo (MapV W11 b [(1,.func (.func 73) #[] #[Xj (Xa ⟨g1,0,Xb⟩)]),(2,.func (.func 73) #[] #[Xj (Xa ⟨g2,0,Xb⟩)]),(3,.func (.func 73) #[] #[Xj (Xa ⟨g3,0,Xb⟩)]),(4,.func (.func 73) #[] #[Xj (Xa ⟨g4,0,Xb⟩)]),(5,.func (.func 73) #[] #[Xj (Xa ⟨g5,0,Xb⟩)]),(6,.func (.func 73) #[] #[Xj (Xa ⟨g6,0,Xb⟩)]),(7,.func (.func 73) #[] #[Xj (Xa ⟨g7,0,Xb⟩)]),(8,.func (.func 42) #[] #[]),(9,.func (.func 88) #[] #[Xj (Xa ⟨g9,0,Xb⟩)]),(10,.func (.func 88) #[] #[Xj (Xa ⟨g10,0,Xb⟩)]),(11,.func (.func 88) #[] #[Xj (Xa ⟨g11,0,Xb⟩)])]):=mp;have G11:Xo (Grew w W11):=show Grew _ _ from grew_grown G10a.out gr (by have:=HB.out;omega)
 have X1:Xo (BoxT W11 g1 80 [.func (.func 35) #[] #[]]):=X1.out.beside gr (b:=g1) (fun x hx=>by cases hx;exact boxmap X1.out M10a.out)
 have X2:Xo (BoxT W11 g2 80 [.func (.func 36) #[] #[]]):=X2.out.beside gr (b:=g2) (fun x hx=>by cases hx;exact boxmap X2.out M10a.out)
 have X3:Xo (BoxT W11 g3 80 [.func (.func 37) #[] #[]]):=X3.out.beside gr (b:=g3) (fun x hx=>by cases hx;exact boxmap X3.out M10a.out)
 have X4:Xo (BoxT W11 g4 80 [.func (.func 38) #[] #[]]):=X4.out.beside gr (b:=g4) (fun x hx=>by cases hx;exact boxmap X4.out M10a.out)
 have X5:Xo (BoxT W11 g5 80 [.func (.func 39) #[] #[]]):=X5.out.beside gr (b:=g5) (fun x hx=>by cases hx;exact boxmap X5.out M10a.out)
 have X6:Xo (BoxT W11 g6 80 [.func (.func 40) #[] #[]]):=X6.out.beside gr (b:=g6) (fun x hx=>by cases hx;exact boxmap X6.out M10a.out)
 have X7:Xo (BoxT W11 g7 80 [.func (.func 41) #[] #[]]):=X7.out.beside gr (b:=g7) (fun x hx=>by cases hx;exact boxmap X7.out M10a.out)
 have X9:Xo (BoxT W11 g9 80 [.func (.func 44) #[] #[]]):=X9.out.beside gr (b:=g9) (fun x hx=>by cases hx;exact boxmap X9.out M10a.out)
 have X10:Xo (BoxT W11 g10 80 [.func (.func 45) #[] #[]]):=X10.out.beside gr (b:=g10) (fun x hx=>by cases hx;exact boxmap X10.out M10a.out)
 have X11:Xo (BoxT W11 g11 80 [.func (.func 46) #[] #[]]):=X11.out.beside gr (b:=g11) (fun x hx=>by cases hx;exact boxmap X11.out M10a.out)
 clear mp gr M10a G10a;go_wp2_with fail;refine(ofFile_any _ _).mono ?_;rintro r w' ⟨rfl,hw'⟩;rw[hw'];clear hw' w';obtain⟨W11a,hWa⟩:∃W11a,W11.alloc (Xk #[.func (.func 47) #[] #[]] 80)=W11a:=⟨_,rfl⟩;obtain⟨g12,HG12⟩:∃g12,Xo (W11.heap.size=g12):=⟨_,rfl⟩;have ga:=gP hWa
 have X12:=xPT hWa HG12
 have G11a:=dD (G11.out.trans ga);have M11a:=dD (M11.out.grew ga);have X1:=dD (X1.out.grew ga);have X2:=dD (X2.out.grew ga);have X3:=dD (X3.out.grew ga);have X4:=dD (X4.out.grew ga);have X5:=dD (X5.out.grew ga);have X6:=dD (X6.out.grew ga);have X7:=dD (X7.out.grew ga);have X9:=dD (X9.out.grew ga);have X10:=dD (X10.out.grew ga);have X11:=dD (X11.out.grew ga);rw[hWa,HG12.out];clear hWa ga G11 M11
 go_wp2_with (refine wpList_insert_num rfl Tryz.underlying3 Tryz.underlying82 (.tmp 1) (.const (Xe Xf 12)) (.tmp 12) rfl b [(1,.func (.func 73) #[] #[Xj (Xa ⟨g1,0,Xb⟩)]),(2,.func (.func 73) #[] #[Xj (Xa ⟨g2,0,Xb⟩)]),(3,.func (.func 73) #[] #[Xj (Xa ⟨g3,0,Xb⟩)]),(4,.func (.func 73) #[] #[Xj (Xa ⟨g4,0,Xb⟩)]),(5,.func (.func 73) #[] #[Xj (Xa ⟨g5,0,Xb⟩)]),(6,.func (.func 73) #[] #[Xj (Xa ⟨g6,0,Xb⟩)]),(7,.func (.func 73) #[] #[Xj (Xa ⟨g7,0,Xb⟩)]),(8,.func (.func 42) #[] #[]),(9,.func (.func 88) #[] #[Xj (Xa ⟨g9,0,Xb⟩)]),(10,.func (.func 88) #[] #[Xj (Xa ⟨g10,0,Xb⟩)]),(11,.func (.func 88) #[] #[Xj (Xa ⟨g11,0,Xb⟩)])] M11a.out 12 (.func (.func 88) #[] #[Xj (Xa ⟨g12,0,Xb⟩)]) rfl rfl rfl (by simp[lookN]) ?_)
 intro W12 mp gr;have M12:Xo (MapV W12 b [(1,.func (.func 73) #[] #[Xj (Xa ⟨g1,0,Xb⟩)]),(2,.func (.func 73) #[] #[Xj (Xa ⟨g2,0,Xb⟩)]),(3,.func (.func 73) #[] #[Xj (Xa ⟨g3,0,Xb⟩)]),(4,.func (.func 73) #[] #[Xj (Xa ⟨g4,0,Xb⟩)]),(5,.func (.func 73) #[] #[Xj (Xa ⟨g5,0,Xb⟩)]),(6,.func (.func 73) #[] #[Xj (Xa ⟨g6,0,Xb⟩)]),(7,.func (.func 73) #[] #[Xj (Xa ⟨g7,0,Xb⟩)]),(8,.func (.func 42) #[] #[]),(9,.func (.func 88) #[] #[Xj (Xa ⟨g9,0,Xb⟩)]),(10,.func (.func 88) #[] #[Xj (Xa ⟨g10,0,Xb⟩)]),(11,.func (.func 88) #[] #[Xj (Xa ⟨g11,0,Xb⟩)]),(12,.func (.func 88) #[] #[Xj (Xa ⟨g12,0,Xb⟩)])]):=mp;have G12:Xo (Grew w W12):=show Grew _ _ from grew_grown G11a.out gr (by have:=HB.out;omega)
 have X1:Xo (BoxT W12 g1 80 [.func (.func 35) #[] #[]]):=X1.out.beside gr (b:=g1) (fun x hx=>by cases hx;exact boxmap X1.out M11a.out)
 have X2:Xo (BoxT W12 g2 80 [.func (.func 36) #[] #[]]):=X2.out.beside gr (b:=g2) (fun x hx=>by cases hx;exact boxmap X2.out M11a.out)
 have X3:Xo (BoxT W12 g3 80 [.func (.func 37) #[] #[]]):=X3.out.beside gr (b:=g3) (fun x hx=>by cases hx;exact boxmap X3.out M11a.out)
 have X4:Xo (BoxT W12 g4 80 [.func (.func 38) #[] #[]]):=X4.out.beside gr (b:=g4) (fun x hx=>by cases hx;exact boxmap X4.out M11a.out)
 have X5:Xo (BoxT W12 g5 80 [.func (.func 39) #[] #[]]):=X5.out.beside gr (b:=g5) (fun x hx=>by cases hx;exact boxmap X5.out M11a.out)
 have X6:Xo (BoxT W12 g6 80 [.func (.func 40) #[] #[]]):=X6.out.beside gr (b:=g6) (fun x hx=>by cases hx;exact boxmap X6.out M11a.out)
 have X7:Xo (BoxT W12 g7 80 [.func (.func 41) #[] #[]]):=X7.out.beside gr (b:=g7) (fun x hx=>by cases hx;exact boxmap X7.out M11a.out)
 have X9:Xo (BoxT W12 g9 80 [.func (.func 44) #[] #[]]):=X9.out.beside gr (b:=g9) (fun x hx=>by cases hx;exact boxmap X9.out M11a.out)
 have X10:Xo (BoxT W12 g10 80 [.func (.func 45) #[] #[]]):=X10.out.beside gr (b:=g10) (fun x hx=>by cases hx;exact boxmap X10.out M11a.out)
 have X11:Xo (BoxT W12 g11 80 [.func (.func 46) #[] #[]]):=X11.out.beside gr (b:=g11) (fun x hx=>by cases hx;exact boxmap X11.out M11a.out)
 have X12:Xo (BoxT W12 g12 80 [.func (.func 47) #[] #[]]):=X12.out.beside gr (b:=g12) (fun x hx=>by cases hx;exact boxmap X12.out M11a.out)
 clear mp gr M11a G11a
 go_wp2_with (refine wpList_insert_num rfl Tryz.underlying3 Tryz.underlying82 (.tmp 1) (.const (Xe Xf 13)) (.func 48) rfl b [(1,.func (.func 73) #[] #[Xj (Xa ⟨g1,0,Xb⟩)]),(2,.func (.func 73) #[] #[Xj (Xa ⟨g2,0,Xb⟩)]),(3,.func (.func 73) #[] #[Xj (Xa ⟨g3,0,Xb⟩)]),(4,.func (.func 73) #[] #[Xj (Xa ⟨g4,0,Xb⟩)]),(5,.func (.func 73) #[] #[Xj (Xa ⟨g5,0,Xb⟩)]),(6,.func (.func 73) #[] #[Xj (Xa ⟨g6,0,Xb⟩)]),(7,.func (.func 73) #[] #[Xj (Xa ⟨g7,0,Xb⟩)]),(8,.func (.func 42) #[] #[]),(9,.func (.func 88) #[] #[Xj (Xa ⟨g9,0,Xb⟩)]),(10,.func (.func 88) #[] #[Xj (Xa ⟨g10,0,Xb⟩)]),(11,.func (.func 88) #[] #[Xj (Xa ⟨g11,0,Xb⟩)]),(12,.func (.func 88) #[] #[Xj (Xa ⟨g12,0,Xb⟩)])] M12.out 13 (.func (.func 48) #[] #[]) rfl rfl rfl (by simp[lookN]) ?_)
 intro W13 mp gr;have M13:Xo (MapV W13 b [(1,.func (.func 73) #[] #[Xj (Xa ⟨g1,0,Xb⟩)]),(2,.func (.func 73) #[] #[Xj (Xa ⟨g2,0,Xb⟩)]),(3,.func (.func 73) #[] #[Xj (Xa ⟨g3,0,Xb⟩)]),(4,.func (.func 73) #[] #[Xj (Xa ⟨g4,0,Xb⟩)]),(5,.func (.func 73) #[] #[Xj (Xa ⟨g5,0,Xb⟩)]),(6,.func (.func 73) #[] #[Xj (Xa ⟨g6,0,Xb⟩)]),(7,.func (.func 73) #[] #[Xj (Xa ⟨g7,0,Xb⟩)]),(8,.func (.func 42) #[] #[]),(9,.func (.func 88) #[] #[Xj (Xa ⟨g9,0,Xb⟩)]),(10,.func (.func 88) #[] #[Xj (Xa ⟨g10,0,Xb⟩)]),(11,.func (.func 88) #[] #[Xj (Xa ⟨g11,0,Xb⟩)]),(12,.func (.func 88) #[] #[Xj (Xa ⟨g12,0,Xb⟩)]),(13,.func (.func 48) #[] #[])]):=mp;have G13:Xo (Grew w W13):=show Grew _ _ from grew_grown G12.out gr (by have:=HB.out;omega)
 have X1:Xo (BoxT W13 g1 80 [.func (.func 35) #[] #[]]):=X1.out.beside gr (b:=g1) (fun x hx=>by cases hx;exact boxmap X1.out M12.out)
 have X2:Xo (BoxT W13 g2 80 [.func (.func 36) #[] #[]]):=X2.out.beside gr (b:=g2) (fun x hx=>by cases hx;exact boxmap X2.out M12.out)
 have X3:Xo (BoxT W13 g3 80 [.func (.func 37) #[] #[]]):=X3.out.beside gr (b:=g3) (fun x hx=>by cases hx;exact boxmap X3.out M12.out)
 have X4:Xo (BoxT W13 g4 80 [.func (.func 38) #[] #[]]):=X4.out.beside gr (b:=g4) (fun x hx=>by cases hx;exact boxmap X4.out M12.out)
 have X5:Xo (BoxT W13 g5 80 [.func (.func 39) #[] #[]]):=X5.out.beside gr (b:=g5) (fun x hx=>by cases hx;exact boxmap X5.out M12.out)
 have X6:Xo (BoxT W13 g6 80 [.func (.func 40) #[] #[]]):=X6.out.beside gr (b:=g6) (fun x hx=>by cases hx;exact boxmap X6.out M12.out)
 have X7:Xo (BoxT W13 g7 80 [.func (.func 41) #[] #[]]):=X7.out.beside gr (b:=g7) (fun x hx=>by cases hx;exact boxmap X7.out M12.out)
 have X9:Xo (BoxT W13 g9 80 [.func (.func 44) #[] #[]]):=X9.out.beside gr (b:=g9) (fun x hx=>by cases hx;exact boxmap X9.out M12.out)
 have X10:Xo (BoxT W13 g10 80 [.func (.func 45) #[] #[]]):=X10.out.beside gr (b:=g10) (fun x hx=>by cases hx;exact boxmap X10.out M12.out)
 have X11:Xo (BoxT W13 g11 80 [.func (.func 46) #[] #[]]):=X11.out.beside gr (b:=g11) (fun x hx=>by cases hx;exact boxmap X11.out M12.out)
 have X12:Xo (BoxT W13 g12 80 [.func (.func 47) #[] #[]]):=X12.out.beside gr (b:=g12) (fun x hx=>by cases hx;exact boxmap X12.out M12.out)
 clear mp gr M12 G12
 go_wp2_with (refine wpList_insert_num rfl Tryz.underlying3 Tryz.underlying82 (.tmp 1) (.const (Xe Xf 14)) (.func 49) rfl b [(1,.func (.func 73) #[] #[Xj (Xa ⟨g1,0,Xb⟩)]),(2,.func (.func 73) #[] #[Xj (Xa ⟨g2,0,Xb⟩)]),(3,.func (.func 73) #[] #[Xj (Xa ⟨g3,0,Xb⟩)]),(4,.func (.func 73) #[] #[Xj (Xa ⟨g4,0,Xb⟩)]),(5,.func (.func 73) #[] #[Xj (Xa ⟨g5,0,Xb⟩)]),(6,.func (.func 73) #[] #[Xj (Xa ⟨g6,0,Xb⟩)]),(7,.func (.func 73) #[] #[Xj (Xa ⟨g7,0,Xb⟩)]),(8,.func (.func 42) #[] #[]),(9,.func (.func 88) #[] #[Xj (Xa ⟨g9,0,Xb⟩)]),(10,.func (.func 88) #[] #[Xj (Xa ⟨g10,0,Xb⟩)]),(11,.func (.func 88) #[] #[Xj (Xa ⟨g11,0,Xb⟩)]),(12,.func (.func 88) #[] #[Xj (Xa ⟨g12,0,Xb⟩)]),(13,.func (.func 48) #[] #[])] M13.out 14 (.func (.func 49) #[] #[]) rfl rfl rfl (by simp[lookN]) ?_)
 intro W14 mp gr;have M14:Xo (MapV W14 b [(1,.func (.func 73) #[] #[Xj (Xa ⟨g1,0,Xb⟩)]),(2,.func (.func 73) #[] #[Xj (Xa ⟨g2,0,Xb⟩)]),(3,.func (.func 73) #[] #[Xj (Xa ⟨g3,0,Xb⟩)]),(4,.func (.func 73) #[] #[Xj (Xa ⟨g4,0,Xb⟩)]),(5,.func (.func 73) #[] #[Xj (Xa ⟨g5,0,Xb⟩)]),(6,.func (.func 73) #[] #[Xj (Xa ⟨g6,0,Xb⟩)]),(7,.func (.func 73) #[] #[Xj (Xa ⟨g7,0,Xb⟩)]),(8,.func (.func 42) #[] #[]),(9,.func (.func 88) #[] #[Xj (Xa ⟨g9,0,Xb⟩)]),(10,.func (.func 88) #[] #[Xj (Xa ⟨g10,0,Xb⟩)]),(11,.func (.func 88) #[] #[Xj (Xa ⟨g11,0,Xb⟩)]),(12,.func (.func 88) #[] #[Xj (Xa ⟨g12,0,Xb⟩)]),(13,.func (.func 48) #[] #[]),(14,.func (.func 49) #[] #[])]):=mp;have G14:Xo (Grew w W14):=show Grew _ _ from grew_grown G13.out gr (by have:=HB.out;omega)
 have X1:Xo (BoxT W14 g1 80 [.func (.func 35) #[] #[]]):=X1.out.beside gr (b:=g1) (fun x hx=>by cases hx;exact boxmap X1.out M13.out)
 have X2:Xo (BoxT W14 g2 80 [.func (.func 36) #[] #[]]):=X2.out.beside gr (b:=g2) (fun x hx=>by cases hx;exact boxmap X2.out M13.out)
 have X3:Xo (BoxT W14 g3 80 [.func (.func 37) #[] #[]]):=X3.out.beside gr (b:=g3) (fun x hx=>by cases hx;exact boxmap X3.out M13.out)
 have X4:Xo (BoxT W14 g4 80 [.func (.func 38) #[] #[]]):=X4.out.beside gr (b:=g4) (fun x hx=>by cases hx;exact boxmap X4.out M13.out)
 have X5:Xo (BoxT W14 g5 80 [.func (.func 39) #[] #[]]):=X5.out.beside gr (b:=g5) (fun x hx=>by cases hx;exact boxmap X5.out M13.out)
 have X6:Xo (BoxT W14 g6 80 [.func (.func 40) #[] #[]]):=X6.out.beside gr (b:=g6) (fun x hx=>by cases hx;exact boxmap X6.out M13.out)
 have X7:Xo (BoxT W14 g7 80 [.func (.func 41) #[] #[]]):=X7.out.beside gr (b:=g7) (fun x hx=>by cases hx;exact boxmap X7.out M13.out)
 have X9:Xo (BoxT W14 g9 80 [.func (.func 44) #[] #[]]):=X9.out.beside gr (b:=g9) (fun x hx=>by cases hx;exact boxmap X9.out M13.out)
 have X10:Xo (BoxT W14 g10 80 [.func (.func 45) #[] #[]]):=X10.out.beside gr (b:=g10) (fun x hx=>by cases hx;exact boxmap X10.out M13.out)
 have X11:Xo (BoxT W14 g11 80 [.func (.func 46) #[] #[]]):=X11.out.beside gr (b:=g11) (fun x hx=>by cases hx;exact boxmap X11.out M13.out)
 have X12:Xo (BoxT W14 g12 80 [.func (.func 47) #[] #[]]):=X12.out.beside gr (b:=g12) (fun x hx=>by cases hx;exact boxmap X12.out M13.out)
 clear mp gr M13 G13
 go_wp2_with (refine wpList_insert_num rfl Tryz.underlying3 Tryz.underlying82 (.tmp 1) (.const (Xe Xf 15)) (.func 50) rfl b [(1,.func (.func 73) #[] #[Xj (Xa ⟨g1,0,Xb⟩)]),(2,.func (.func 73) #[] #[Xj (Xa ⟨g2,0,Xb⟩)]),(3,.func (.func 73) #[] #[Xj (Xa ⟨g3,0,Xb⟩)]),(4,.func (.func 73) #[] #[Xj (Xa ⟨g4,0,Xb⟩)]),(5,.func (.func 73) #[] #[Xj (Xa ⟨g5,0,Xb⟩)]),(6,.func (.func 73) #[] #[Xj (Xa ⟨g6,0,Xb⟩)]),(7,.func (.func 73) #[] #[Xj (Xa ⟨g7,0,Xb⟩)]),(8,.func (.func 42) #[] #[]),(9,.func (.func 88) #[] #[Xj (Xa ⟨g9,0,Xb⟩)]),(10,.func (.func 88) #[] #[Xj (Xa ⟨g10,0,Xb⟩)]),(11,.func (.func 88) #[] #[Xj (Xa ⟨g11,0,Xb⟩)]),(12,.func (.func 88) #[] #[Xj (Xa ⟨g12,0,Xb⟩)]),(13,.func (.func 48) #[] #[]),(14,.func (.func 49) #[] #[])] M14.out 15 (.func (.func 50) #[] #[]) rfl rfl rfl (by simp[lookN]) ?_)
 intro W15 mp gr;have M15:Xo (MapV W15 b [(1,.func (.func 73) #[] #[Xj (Xa ⟨g1,0,Xb⟩)]),(2,.func (.func 73) #[] #[Xj (Xa ⟨g2,0,Xb⟩)]),(3,.func (.func 73) #[] #[Xj (Xa ⟨g3,0,Xb⟩)]),(4,.func (.func 73) #[] #[Xj (Xa ⟨g4,0,Xb⟩)]),(5,.func (.func 73) #[] #[Xj (Xa ⟨g5,0,Xb⟩)]),(6,.func (.func 73) #[] #[Xj (Xa ⟨g6,0,Xb⟩)]),(7,.func (.func 73) #[] #[Xj (Xa ⟨g7,0,Xb⟩)]),(8,.func (.func 42) #[] #[]),(9,.func (.func 88) #[] #[Xj (Xa ⟨g9,0,Xb⟩)]),(10,.func (.func 88) #[] #[Xj (Xa ⟨g10,0,Xb⟩)]),(11,.func (.func 88) #[] #[Xj (Xa ⟨g11,0,Xb⟩)]),(12,.func (.func 88) #[] #[Xj (Xa ⟨g12,0,Xb⟩)]),(13,.func (.func 48) #[] #[]),(14,.func (.func 49) #[] #[]),(15,.func (.func 50) #[] #[])]):=mp;have G15:Xo (Grew w W15):=show Grew _ _ from grew_grown G14.out gr (by have:=HB.out;omega)
 have X1:Xo (BoxT W15 g1 80 [.func (.func 35) #[] #[]]):=X1.out.beside gr (b:=g1) (fun x hx=>by cases hx;exact boxmap X1.out M14.out)
 have X2:Xo (BoxT W15 g2 80 [.func (.func 36) #[] #[]]):=X2.out.beside gr (b:=g2) (fun x hx=>by cases hx;exact boxmap X2.out M14.out)
 have X3:Xo (BoxT W15 g3 80 [.func (.func 37) #[] #[]]):=X3.out.beside gr (b:=g3) (fun x hx=>by cases hx;exact boxmap X3.out M14.out)
 have X4:Xo (BoxT W15 g4 80 [.func (.func 38) #[] #[]]):=X4.out.beside gr (b:=g4) (fun x hx=>by cases hx;exact boxmap X4.out M14.out)
 have X5:Xo (BoxT W15 g5 80 [.func (.func 39) #[] #[]]):=X5.out.beside gr (b:=g5) (fun x hx=>by cases hx;exact boxmap X5.out M14.out)
 have X6:Xo (BoxT W15 g6 80 [.func (.func 40) #[] #[]]):=X6.out.beside gr (b:=g6) (fun x hx=>by cases hx;exact boxmap X6.out M14.out)
 have X7:Xo (BoxT W15 g7 80 [.func (.func 41) #[] #[]]):=X7.out.beside gr (b:=g7) (fun x hx=>by cases hx;exact boxmap X7.out M14.out)
 have X9:Xo (BoxT W15 g9 80 [.func (.func 44) #[] #[]]):=X9.out.beside gr (b:=g9) (fun x hx=>by cases hx;exact boxmap X9.out M14.out)
 have X10:Xo (BoxT W15 g10 80 [.func (.func 45) #[] #[]]):=X10.out.beside gr (b:=g10) (fun x hx=>by cases hx;exact boxmap X10.out M14.out)
 have X11:Xo (BoxT W15 g11 80 [.func (.func 46) #[] #[]]):=X11.out.beside gr (b:=g11) (fun x hx=>by cases hx;exact boxmap X11.out M14.out)
 have X12:Xo (BoxT W15 g12 80 [.func (.func 47) #[] #[]]):=X12.out.beside gr (b:=g12) (fun x hx=>by cases hx;exact boxmap X12.out M14.out)
 clear mp gr M14 G14;obtain⟨l,HL⟩:∃l:List (Int × Xq),Xo ([(1,.func (.func 73) #[] #[Xj (Xa ⟨g1,0,Xb⟩)]),(2,.func (.func 73) #[] #[Xj (Xa ⟨g2,0,Xb⟩)]),(3,.func (.func 73) #[] #[Xj (Xa ⟨g3,0,Xb⟩)]),(4,.func (.func 73) #[] #[Xj (Xa ⟨g4,0,Xb⟩)]),(5,.func (.func 73) #[] #[Xj (Xa ⟨g5,0,Xb⟩)]),(6,.func (.func 73) #[] #[Xj (Xa ⟨g6,0,Xb⟩)]),(7,.func (.func 73) #[] #[Xj (Xa ⟨g7,0,Xb⟩)]),(8,.func (.func 42) #[] #[]),(9,.func (.func 88) #[] #[Xj (Xa ⟨g9,0,Xb⟩)]),(10,.func (.func 88) #[] #[Xj (Xa ⟨g10,0,Xb⟩)]),(11,.func (.func 88) #[] #[Xj (Xa ⟨g11,0,Xb⟩)]),(12,.func (.func 88) #[] #[Xj (Xa ⟨g12,0,Xb⟩)]),(13,.func (.func 48) #[] #[]),(14,.func (.func 49) #[] #[]),(15,.func (.func 50) #[] #[])]=l):=⟨_,rfl⟩;have HK:Xo (∀k v,lookN l k=Xa v->WorkV W15 k v):=show∀k v,_ from fun k v h=>by
  have hm:=lookN_mem h;rw[<-HL.out]at hm;simp only[mC,pJ,nM,or_false]at hm
  rcases hm with⟨rfl,rfl⟩ | ⟨rfl,rfl⟩ | ⟨rfl,rfl⟩ | ⟨rfl,rfl⟩ | ⟨rfl,rfl⟩ | ⟨rfl,rfl⟩ | ⟨rfl,rfl⟩ | ⟨rfl,rfl⟩ | ⟨rfl,rfl⟩ | ⟨rfl,rfl⟩ | ⟨rfl,rfl⟩ | ⟨rfl,rfl⟩ | ⟨rfl,rfl⟩ | ⟨rfl,rfl⟩ | ⟨rfl,rfl⟩
  all_goals (refine⟨?_,?_,?_,?_,?_,?_,?_,?_,?_,?_,?_,?_,?_,?_,?_⟩ <;> intro e <;> first | exact absurd e (by decide) | rfl | exact⟨_,rfl,X1.out⟩ | exact⟨_,rfl,X2.out⟩ | exact⟨_,rfl,X3.out⟩ | exact⟨_,rfl,X4.out⟩ | exact⟨_,rfl,X5.out⟩ | exact⟨_,rfl,X6.out⟩ | exact⟨_,rfl,X7.out⟩ | exact⟨_,rfl,X9.out⟩ | exact⟨_,rfl,X10.out⟩ | exact⟨_,rfl,X11.out⟩ | exact⟨_,rfl,X12.out⟩)
 have HS:Xo (∀k,(lookN l k).isSome=decide (1<=k/\k<=15)):=show∀k,_ from fun k=>by
  rw[<-HL.out]
  by_cases h:1<=k/\k<=15
  ·rw[decide_eq_true h];have:k=1\/k=2\/k=3\/k=4\/k=5\/k=6\/k=7\/k=8\/k=9\/k=10\/k=11\/k=12\/k=13\/k=14\/k=15:=by omega
   rcases this with rfl | rfl | rfl | rfl | rfl | rfl | rfl | rfl | rfl | rfl | rfl | rfl | rfl | rfl | rfl <;> rfl
  rw[decide_eq_false h];simp only[lookN];iterate 15 rw[if_neg (by omega)]
  rfl
 rw[HL.out]at M15;go_wp2;go_ret;exact⟨⟨b,l,rfl,M15.out,HK.out,HS.out⟩,G15.out⟩
theorem run_rem8 {z:Int} (h:0<=z) (o:Oper) (a:Act) (x:Operand) (w:Xn) (ho:o.op= .binOp .rem 3 x (.const (Xe Xf 8)) 3) (hx:a.eval x= Xe Xf z):(execOp a.eval o).run Tryz.prog w= .ok (.value (Xe Xf (z % 8))) w:=by
 have hc:a.eval (.const (Xe Xf 8))= Xe Xf 8:=rfl;simp only[execOp,ho,hx,hc]
 go_simp
 exact Int.tmod_eq_emod_of_nonneg h
theorem run_idxF {g n c k:Nat} (o:Oper) (a:Act) (x y:Operand) (w:Xn) (ho:o.op= .indexAddr 27 x y) (hx:a.eval x= O (Xa ⟨g,0,Xb⟩) n c) (hy:a.eval y= Xe Xf (k:Int)) (hk:k<n):(execOp a.eval o).run Tryz.prog w= .ok (.value (Xj (Xa ⟨g,k*13,Xb⟩))) w:=by
 have hlt:(k:Int)< (n:Int):=by omega
 simp only[execOp,ho,hx,hy]
 go_simp
def KLoad (m:Ma) (BF:Nat->Nat->Ar->Pg->Bool->Bool × Nat × Ma) (c:Cl) (er n:Int) (l:List Int) (m':Ma):Prop:=
 (n=0/\l=[]/\KErr m BF c c.n Xd er)\/(er=0/\n=c.n/\∃(kk:Nat) (fr:Fr),KFine m BF c c.n Xd kk m' fr/\l=((pgL fr.p).drop (c.pt % 8).toNat).take c.n.toNat)
theorem run_buildA {n:Int} {sa:Option Addr} {sn sc:Nat} (o:Oper) (a:Act) (x y:Operand) (w:Xn) (ho:o.op= .build 50 #[(1,x),(2,y)]) (hx:a.eval x= Xe Xf n) (hy:a.eval y= O sa sn sc):(execOp a.eval o).run Tryz.prog w= .ok (.value (Xi #[Xe Xf 0,Xe Xf n,O sa sn sc])) w:=by
 simp only[execOp,ho,List.map_toArray,mP,List.map_nil,hx,hy]
 go_simp
theorem kload_any {w0 w:Xn} {p:Nat} {V:MaV} {m:Ma} (h:ChW w0 p w V m) (c:Cl) (BF:Nat->Nat->Ar->Pg->Bool->Bool × Nat × Ma) (hb1:-9223372036854775808<=c.pt) (hb2:c.pt<=9223372036854775807) (hb3:-9223372036854775808<=c.n) (hb4:c.n<=9223372036854775807)
  (hU:∀W,Grew w W->Xp Tryz.prog 140 #[Xi #[O V.f.a V.f.n V.f.c,Xe Xf m.hand,O V.s.a V.s.n V.s.c,O V.sb.a V.sb.n V.sb.c,O V.sq.a V.sq.n V.sq.c,O V.db.a V.db.n V.db.c,O V.dq.a V.dq.n V.dq.c,O V.fl.a V.fl.n V.fl.c,Xe Xf m.cnt,O V.ca.a V.ca.n V.ca.c,O V.sp.a V.sp.n V.sp.c],Xe Xf c.proc,Xe Xf (c.pt / 8),Xh Xd] W fun e w'=>((∃er:Int,e= Xl (Xm #[Xi zeroM.toArray,Xe Xf 0,Xe Xf er])/\NotUsed m BF c.proc (c.pt / 8) Xd er)\/(∃(V':MaV) (k pc:Nat) (m':Ma),e= Xl (Xm #[Xi #[O V'.f.a V'.f.n V'.f.c,Xe Xf m'.hand,O V'.s.a V'.s.n V'.s.c,O V'.sb.a V'.sb.n V'.sb.c,O V'.sq.a V'.sq.n V'.sq.c,O V'.db.a V'.db.n V'.db.c,O V'.dq.a V'.dq.n V'.dq.c,O V'.fl.a V'.fl.n V'.fl.c,Xe Xf m'.cnt,O V'.ca.a V'.ca.n V'.ca.c,O V'.sp.a V'.sp.n V'.sp.c],Xe Xf (k:Int),Xe Xf 0])/\Used m BF c.proc (c.pt / 8) Xd k m'/\ChW W pc w' V' m'))/\Grew W w')
  (hI:∀(kk:Nat) (m':Ma),Used m BF c.proc (c.pt / 8) Xd kk m'->∃fr:Fr,m'.fs[kk]? =Xa fr/\(fr.f=-1\/∃(j:Nat) (fl:Fl),fr.f=(j:Int)/\m'.fl[j]? =Xa fl)/\0<=fr.x/\fr.x<1000):
  Xp Tryz.prog 38 #[Xj (Xa ⟨p,0,Xb⟩),Xi #[Xe Xf c.kind,Xe Xf c.proc,Xe Xf c.pt,Xe Xf c.n,Xe Xf c.file,Xe Xf c.base,Xh c.rd,Xh c.wr,Xh c.sh,O c.dv.a c.dv.n c.dv.c]] w fun e w'=>WorkA (KLoad m BF c) w0 p w e w':=by
 have HM:Xo (ChW w0 p w V m):=h;have HPW:Xo (p<w.heap.size):=h.dlt p (.inl rfl);obtain⟨b,HB⟩:∃b,Xo (w.heap.size=b):=⟨_,rfl⟩;obtain⟨W1,hW1⟩:∃W1,(w.alloc (Xk #[Xe Xf c.kind,Xe Xf c.proc,Xe Xf c.pt,Xe Xf c.n,Xe Xf c.file,Xe Xf c.base,Xh c.rd,Xh c.wr,Xh c.sh,O c.dv.a c.dv.n c.dv.c] 26)).alloc (Xk #[Xe Xf 0,Xe Xf 0,O Xb 0 0] 50)=W1:=⟨_,rfl⟩;have G1:=gD2 hW1
 have X1:Xo (BoxT W1 b 26 [Xe Xf c.kind,Xe Xf c.proc,Xe Xf c.pt,Xe Xf c.n,Xe Xf c.file,Xe Xf c.base,Xh c.rd,Xh c.wr,Xh c.sh,O c.dv.a c.dv.n c.dv.c]):=show BoxT _ _ _ _ by rw[<-hW1];exact(BoxT.top w [Xe Xf c.kind,Xe Xf c.proc,Xe Xf c.pt,Xe Xf c.n,Xe Xf c.file,Xe Xf c.base,Xh c.rd,Xh c.wr,Xh c.sh,O c.dv.a c.dv.n c.dv.c] _ HB.out.symm).grew (grew_alloc _ _)
 have A1:Xo (BoxT W1 (b+1) 50 [Xe Xf 0,Xe Xf 0,O Xb 0 0]):=show BoxT _ _ _ _ by rw[<-hW1];exact BoxT.top _ [Xe Xf 0,Xe Xf 0,O Xb 0 0] _ (by have:=HB.out;simp;omega)
 have HBL:Xo (b+1<W1.heap.size):=A1.out.box.lt;have HPB:Xo (p<b):=show _<_ by have:=HPW.out;have:=HB.out;omega
 have HL:Xo (w0.heap.size<=b):=show _<=_ by have:=HM.out.lo;have:=HPB.out;omega
 have HW1:Xo (_=W1):=hW1;have hku:=kuse_any (h.grew G1.out) c c.n Xd BF hb1 hb2 hb3 hb4 (fun W hW=>hU W (G1.out.trans hW)) hI
 have HBD:Xo (c.pt<=9223372036854775807):=hb2;clear hW1 h hU hI hb1 hb2;clear hb3 hb4;have x3:=X1.out.box.c 3 rfl
 go_enter Tryz.func38,Tryz.ntmps38
 go_upto_region 1 with fail;rw[HW1.out,HB.out];clear HW1
 go_wp2_with (first | refine wp_loadAll rfl 26 (.tmp 3) rfl b rfl X1.out.box Tryz.underlying26 rfl (by kernel_rfl) ?_ | (go_at_call 81;refine hku.mono ?_))
 clear hku x3;rintro e W2 ⟨k,er,rfl,o2,g2,hk⟩;have A2:Xo (BoxT W2 (b+1) 50 [Xe Xf 0,Xe Xf 0,O Xb 0 0]):=show BoxT _ _ _ _ from A1.out.outD o2 (by have:=HPB.out;omega)
 have X2:Xo (BoxT W2 b 26 [Xe Xf c.kind,Xe Xf c.proc,Xe Xf c.pt,Xe Xf c.n,Xe Xf c.file,Xe Xf c.base,Xh c.rd,Xh c.wr,Xh c.sh,O c.dv.a c.dv.n c.dv.c]):=show BoxT _ _ _ _ from X1.out.outD o2 (by have:=HPB.out;omega)
 have G2:Xo (Grew w0 W2):=g2;have O2:Xo (OutD (fun k=>k=p) w W2):=show OutD _ _ _ from(OutD.grew G1.out).trans o2
 clear o2 g2 X1 A1
 rcases hk with hke | ⟨rfl,kk,m',fr,V',B,rfl,hf,hbx,hB,hown⟩
 ·skip
  have hne:=hke.ne;have hz:(er != 0)=Xc:=by simp[hne]
  have hrf:=refused_any er W2;have HKE:Xo _:=show KErr _ _ _ _ _ _ from hke
  have HNE:Xo (er≠0):=hne;clear hke hne;go_wp2_with fail;refine hrf.mono ?_;rintro e W3 ⟨rfl,g3⟩;have A3:=dD (A2.out.grew g3);have G3:=dD (G2.out.trans g3);have Q3:Xo (Grew W2 W3):=g3;clear hrf g3;unfold ansV noS
  go_wp2_with (refine wp_storeAllT rfl 50 (.tmp 4) (.tmp 18) rfl (b+1) rfl [Xe Xf er,Xe Xf 0,O Xb 0 0] rfl A3.out rfl (by kernel_rfl) (by simp[Value.oneCell']) ?_)
  intro W4 b4 g4 _;have G4:Xo (Grew w0 W4):=show Grew _ _ from grew_grown G3.out g4 (by have:=HL.out;omega)
  have A4:Xo (BoxT W4 (b+1) 50 [Xe Xf er,Xe Xf 0,O Xb 0 0]):=b4;have O4:Xo (OutD (fun k=>k=p) w W4):=show OutD _ _ _ from(O2.out.trans (OutD.grew Q3.out)).beyond g4 (by have:=HB.out;omega)
  clear b4 g4;go_wp2;refine bodyPost_ret (ret_cell rfl _ rfl A4.out.box Tryz.underlying50 rfl (by kernel_rfl)) rfl (WorkA.err (V:=V) (m:=m) HNE.out (.inl ⟨rfl,rfl,HKE.out⟩) O4.out G4.out)
 have HF:Xo (KFine m BF c c.n Xd kk m' fr):=hf;have P2:Xo (BoxT W2 p 88 (chL V' m')):=hbx;have N2:Xo (OwnB B W2 V' m'):=hown;have HBB:Xo (b+1<B):=show _<_ by have:=HBL.out;omega
 have HWB:Xo (w.heap.size<=B):=show _<=_ from nT (bS G1.out) hB
 have HFR:Xo (m'.fs[kk]? =Xa fr):=hf.2.2.1;have HW3:Xo (0<=c.pt/\0<=c.n/\c.n<=8 - c.pt % 8):=show _/\_ from of_decide_eq_true hf.1
 clear hf hbx hB hown HBL;obtain⟨i,HI⟩:∃i:Nat,Xo (c.pt % 8=(i:Int)):=⟨(c.pt % 8).toNat,show _=_ by omega⟩
 obtain⟨nn,HN⟩:∃nn:Nat,Xo (c.n=(nn:Int)):=⟨c.n.toNat,show _=_ by have:=HW3.out.2.1;omega⟩
 have HIN:Xo (i<8/\i+nn<=8):=show _/\_ by have h1:=HW3.out;have h2:=HI.out;have h3:=HN.out;rw[h2,h3]at h1;omega
 have HR8:Xo (∀(o:Oper) (a:Act) (x:Operand) (w:Xn),o.op= .binOp .rem 3 x (.const (Xe Xf 8)) 3->a.eval x= Xe Xf c.pt->(execOp a.eval o).run Tryz.prog w= .ok (.value (Xe Xf (i:Int))) w):=show∀(o:Oper) (a:Act) (x:Operand) (w:Xn),_ from fun o a x w h1 h2=>by rw[<-HI.out];exact run_rem8 HW3.out.1 o a x w h1 h2
 have hkl:=(gS.1 HFR.out).1;obtain⟨g7,c7,heq⟩:=N2.out.fs.formS (by omega)
 have HF0:Xo (∀W,OutD (fun k=>k=b+1) W2 W->W.cell? ⟨p,0,Xb⟩=Xa (O (Xa ⟨g7,0,Xb⟩) m'.fs.length c7)):=show∀W,_ from fun W hW=>by rw[<-heq];exact(P2.out.outD hW (by have:=HPB.out;omega)).box.c 0 rfl
 have HFO:Xo (∀W,OutD (fun k=>k=b+1) W2 W->OwnRow frmE B W (O (Xa ⟨g7,0,Xb⟩) m'.fs.length c7) m'.fs):=show∀W,_ from fun W hW=>by rw[<-heq];exact(N2.out.out (hW.wide fun k hk=>by have hk:k=b+1:=hk;have:=HBB.out;omega)).fs
 have HXX:Xo (∀W,OutD (fun k=>k=b+1) W2 W->Box W b [Xe Xf c.kind,Xe Xf c.proc,Xe Xf c.pt,Xe Xf c.n,Xe Xf c.file,Xe Xf c.base,Xh c.rd,Xh c.wr,Xh c.sh,O c.dv.a c.dv.n c.dv.c]):=show∀W,_ from fun W hW=>(X2.out.outD hW (by omega)).box
 have HKL:Xo (kk<m'.fs.length):=hkl;obtain⟨fn,HFN⟩:∃fn,Xo (m'.fs.length=fn):=⟨_,rfl⟩;rw[HFN.out]at HFO HF0 HKL;clear heq hkl;obtain⟨⟨b0,b1,b2,b3,b4,b5,b6,b7⟩,r,u,d,f,x⟩:=fr;have HRG:Xo (∀W,OutD (fun k=>k=b+1) W2 W->W.rangeAt g7 (kk*13) [Xe Xg b0,Xe Xg b1,Xe Xg b2,Xe Xg b3,Xe Xg b4,Xe Xg b5,Xe Xg b6,Xe Xg b7]):=show∀W,_ from fun W hW j v hj=>(HFO.out W hW).range1 HFR.out j v (by
  have hlt:=(gS.1 hj).1
  show([Xe Xg b0,Xe Xg b1,Xe Xg b2,Xe Xg b3,Xe Xg b4,Xe Xg b5,Xe Xg b6,Xe Xg b7]++ [Xe Xf r,Xh u,Xh d,Xe Xf f,Xe Xf x])[j]? =Xa v
  rw[Xx hlt];exact hj)
 go_upto_region 4 with fail;refine wp_region_held (S:=fun W=>OutD (fun k=>k=b+1) W2 W) mixed ?_
 show wpAnyH _ _ _ _ _ 20 (Xv 20 Xd) _ W2.drew
 have GD0:Grew W2 W2.drew:=(gW _)
 have GD:OutD (fun k=>k=b+1) W2 W2.drew:=OutD.grew GD0
 refine takeH 0 (Xa 19) (Xj (Xa ⟨b,3,Xb⟩)) rfl rfl (by kernel_rfl) (by kernel_rfl) (by kernel_rfl) (fun _ _ _ h=>h) (.inl ⟨rfl,fun _ _=>rfl⟩) GD ?_
 simp only[Xs,sB,sS,sZ];refine takeH 1 (Xa 20) (Xe Xf c.n) rfl rfl (by kernel_rfl) (by kernel_rfl) (by kernel_rfl) (fun _ _ _ h=>h) (.inl ⟨rfl,fun W hW=>run_load1 _ (.tmp 19) rfl ⟨b,3,Xb⟩ rfl (Xe Xf c.n) ((HXX.out W hW).c 3 rfl) Tryz.underlying3 rfl⟩) GD ?_
 simp only[Xs,sB,sS,sZ];refine takeH 2 (Xa 21) (Xj (Xa ⟨p,0,Xb⟩)) rfl rfl (by kernel_rfl) (by kernel_rfl) (by kernel_rfl) (fun _ _ _ h=>h) (.inl ⟨rfl,fun _ _=>rfl⟩) GD ?_
 simp only[Xs,sB,sS,sZ];refine takeH 3 (Xa 22) (Xj (Xa ⟨p,0,Xb⟩)) rfl rfl (by kernel_rfl) (by kernel_rfl) (by kernel_rfl) (fun _ _ _ h=>h) (.inl ⟨rfl,fun _ _=>rfl⟩) GD ?_
 simp only[Xs,sB,sS,sZ];refine takeH 4 (Xa 23) (Xj (Xa ⟨p,0,Xb⟩)) rfl rfl (by kernel_rfl) (by kernel_rfl) (by kernel_rfl) (fun _ _ _ h=>h) (.inl ⟨rfl,fun _ _=>rfl⟩) GD ?_
 simp only[Xs,sB,sS,sZ];refine takeH 5 (Xa 24) (Xj (Xa ⟨p,0,Xb⟩)) rfl rfl (by kernel_rfl) (by kernel_rfl) (by kernel_rfl) (fun _ _ _ h=>h) (.inl ⟨rfl,fun _ _=>rfl⟩) GD ?_
 simp only[Xs,sB,sS,sZ];refine takeH 6 (Xa 25) (Xj (Xa ⟨p,0,Xb⟩)) rfl rfl (by kernel_rfl) (by kernel_rfl) (by kernel_rfl) (fun _ _ _ h=>h) (.inl ⟨rfl,fun _ _=>rfl⟩) GD ?_
 simp only[Xs,sB,sS,sZ];refine takeH 7 (Xa 26) (O (Xa ⟨g7,0,Xb⟩) fn c7) rfl rfl (by kernel_rfl) (by kernel_rfl) (by kernel_rfl) (fun _ _ _ h=>h) (.inl ⟨rfl,fun W hW=>run_load1 _ (.tmp 25) rfl ⟨p,0,Xb⟩ rfl (O (Xa ⟨g7,0,Xb⟩) fn c7) (HF0.out W hW) Tryz.underlying27 rfl⟩) GD ?_
 simp only[Xs,sB,sS,sZ];refine takeH 8 (Xa 27) (Xe Xf (kk:Int)) rfl rfl (by kernel_rfl) (by kernel_rfl) (by kernel_rfl) (fun _ _ _ h=>h) (.inl ⟨rfl,fun _ _=>rfl⟩) GD ?_
 simp only[Xs,sB,sS,sZ];refine takeH 9 (Xa 28) (Xj (Xa ⟨g7,kk*13,Xb⟩)) rfl rfl (by kernel_rfl) (by kernel_rfl) (by kernel_rfl) (fun _ _ _ h=>h) (.inl ⟨rfl,fun W _=>run_idxF _ _ _ _ W rfl rfl rfl HKL.out⟩) GD ?_
 simp only[Xs,sB,sS,sZ];refine takeH 10 (Xa 29) (Xj (Xa ⟨g7,kk*13,Xb⟩)) rfl rfl (by kernel_rfl) (by kernel_rfl) (by kernel_rfl) (fun _ _ _ h=>h) (.inl ⟨rfl,fun _ _=>rfl⟩) GD ?_
 simp only[Xs,sB,sS,sZ];refine takeH 11 (Xa 30) (Xi #[Xe Xg b0,Xe Xg b1,Xe Xg b2,Xe Xg b3,Xe Xg b4,Xe Xg b5,Xe Xg b6,Xe Xg b7]) rfl rfl (by kernel_rfl) (by kernel_rfl) (by kernel_rfl) (fun _ _ _ h=>h) (yieldsIf_load_mid rfl 91 (.tmp 29) rfl g7 (kk*13) rfl [Xe Xg b0,Xe Xg b1,Xe Xg b2,Xe Xg b3,Xe Xg b4,Xe Xg b5,Xe Xg b6,Xe Xg b7] _ (fun W hW=>HRG.out W hW) Tryz.underlying91 rfl (by kernel_rfl)) GD ?_
 simp only[Xs,sB,sS,sZ];refine takeH 12 (Xa 31) (Xj (Xa ⟨b,2,Xb⟩)) rfl rfl (by kernel_rfl) (by kernel_rfl) (by kernel_rfl) (fun _ _ _ h=>h) (.inl ⟨rfl,fun _ _=>rfl⟩) GD ?_
 simp only[Xs,sB,sS,sZ];refine takeH 13 (Xa 32) (Xe Xf c.pt) rfl rfl (by kernel_rfl) (by kernel_rfl) (by kernel_rfl) (fun _ _ _ h=>h) (.inl ⟨rfl,fun W hW=>run_load1 _ (.tmp 31) rfl ⟨b,2,Xb⟩ rfl (Xe Xf c.pt) ((HXX.out W hW).c 2 rfl) Tryz.underlying3 rfl⟩) GD ?_
 simp only[Xs,sB,sS,sZ];refine takeH 14 (Xa 33) (Xe Xf (i:Int)) rfl rfl (by kernel_rfl) (by kernel_rfl) (by kernel_rfl) (fun _ _ _ h=>h) (.inl ⟨rfl,fun W _=>HR8.out _ _ _ W rfl rfl⟩) GD ?_
 simp only[Xs,sB,sS,sZ];refine takeH 15 (Xa 34) (Xj (Xa ⟨b,3,Xb⟩)) rfl rfl (by kernel_rfl) (by kernel_rfl) (by kernel_rfl) (fun _ _ _ h=>h) (.inl ⟨rfl,fun _ _=>rfl⟩) GD ?_
 simp only[Xs,sB,sS,sZ];refine takeH 16 (Xa 35) (Xe Xf (nn:Int)) rfl rfl (by kernel_rfl) (by kernel_rfl) (by kernel_rfl) (fun _ _ _ h=>h) (.inl ⟨rfl,fun W hW=>run_load1 _ (.tmp 34) rfl ⟨b,3,Xb⟩ rfl (Xe Xf (nn:Int)) (by rw[<-HN.out];exact(HXX.out W hW).c 3 rfl) Tryz.underlying3 rfl⟩) GD ?_
 simp only[Xs,sB,sS,sZ];refine wpAnyH_all (rs:=[17]) (by kernel_rfl) (by simp) ?_
 intro j hj;simp only[mC,nM,or_false]at hj;subst hj;refine wpOp_does (Xa 36) (fun v w'=>∃s:Sli,v= O s.a s.n s.c/\RowAt byE w' v (([b0,b1,b2,b3,b4,b5,b6,b7].drop i).take nn)/\(OwnRow byE W2.heap.size w' v (([b0,b1,b2,b3,b4,b5,b6,b7].drop i).take nn))/\Grew W2 w') rfl rfl rfl (Does.call [Xi #[Xe Xg b0,Xe Xg b1,Xe Xg b2,Xe Xg b3,Xe Xg b4,Xe Xg b5,Xe Xg b6,Xe Xg b7],Xe Xf (i:Int),Xe Xf (nn:Int)] rfl Tryz.func82 rfl rfl rfl ((pageGetAt_any [b0,b1,b2,b3,b4,b5,b6,b7] i nn W2.drew rfl HIN.out.1 HIN.out.2).mono ?_)) ?_
 ·rintro e w' ⟨v,rfl,ho,hg⟩;obtain⟨a9,c9,rfl⟩:=ho.form;exact⟨_,rfl,⟨a9,_,c9⟩,rfl,ho.at,ho.base (bS GD0),GD0.trans hg⟩
 rintro v WT ⟨s,rfl,hrow,hown,gt⟩;have got:OutD (fun k=>k=b+1) W2 WT:=OutD.grew gt
 refine⟨got,?_⟩;simp only[Xs,sB,sS,sZ];refine takeH 18 (Xa 37) (Xi #[Xe Xf 0,Xe Xf c.n,O s.a s.n s.c]) rfl rfl (by kernel_rfl) (by kernel_rfl) (by kernel_rfl) (fun _ _ _ h=>h) (.inl ⟨rfl,fun W _=>run_buildA _ _ _ _ W rfl rfl rfl⟩) got ?_
 simp only[Xs,sB,sS,sZ];refine wpAnyH_all (rs:=[19]) (by kernel_rfl) (by simp) ?_
 intro j hj;simp only[mC,nM,or_false]at hj;subst hj;refine wpOp_does Xb (fun v w'=>BoxT w' (b+1) 50 [Xe Xf 0,Xe Xf c.n,O s.a s.n s.c]/\WT.grownBy w' (Xa (b+1))) rfl rfl rfl (Does.storeAllT 50 (.tmp 4) (.tmp 37) rfl (b+1) rfl [Xe Xf 0,Xe Xf c.n,O s.a s.n s.c] rfl (A2.out.grew gt) rfl (by kernel_rfl) (by simp[Value.oneCell']) (fun w' b' g' s'=>⟨b',g'⟩)) ?_
 rintro v WS ⟨bs,gs⟩;have HFIN:Xo (WorkA (KLoad m BF c) w0 p w (Xl (ansV 0 c.n s)) WS):=show WorkA _ _ _ _ _ _ from by
  have e1:(c.pt % 8).toNat=i:=by rw[HI.out];rfl
  have e2:c.n.toNat=nn:=by rw[HN.out];rfl
  have k1:=hown.grown gs (fun k hk e=>by cases e;have h1:=(hown.lt _ hk).1;have h2:=A2.out.box.lt;omega)
  have k2:=(N2.out.grew gt).out (OutD.grown gs HBB.out);refine⟨0,c.n,s,_,V',m',rfl,.inr ⟨rfl,rfl,kk,_,HF.out,rfl⟩,(O2.out.trans (OutD.grew gt)).beyond gs (by have:=HB.out;omega),grew_grown (G2.out.trans gt) gs (by have:=HL.out;omega),fun W hW=>?_,fun _=>⟨(P2.out.grew gt).beside gs (fun k e=>by cases e;have:=HPB.out;omega),fun W hW=>(k2.out (hW.wide fun k hk=>Xt hk HWB.out)).at⟩⟩
  rw[e1,e2];exact OwnRow.at (base:=W2.heap.size) ⟨owns_outD k1.1 hW (fun g hg e=>by have h1:=(k1.lt g hg).1;have e:g<w.heap.size:=e;have h2:=O2.out.size;omega),k1.2⟩
 have BS:Xo (BoxT WS (b+1) 50 [Xe Xf 0,Xe Xf c.n,O s.a s.n s.c]):=bs;refine⟨got.trans (OutD.grown gs rfl),?_⟩;simp only[Xs];refine wpAnyH_done (by kernel_rfl) ?_ _
 clear bs gs hrow hown gt got;go_wp2;refine bodyPost_ret (ret_cell rfl _ rfl BS.out.box Tryz.underlying50 rfl (by kernel_rfl)) rfl HFIN.out
theorem spliceI_len {cs vs:List Int} {o:Nat} (h:o+vs.length<=cs.length):(splice cs o vs).length=cs.length:=by
 unfold splice;simp only[lA,List.length_take,List.length_drop];omega
theorem run_loadR {o:Oper} {a:Act} (w:Xn) (ty:TypeId) (x:Operand) (ho:o.op= .load ty x) (b off:Nat) (hx:a.eval x= Xj (Xa ⟨b,off,Xb⟩)) (vs:List Xq) (hc:w.rangeAt b off vs) {d:TypeDesc} (hu:Tryz.prog.underlying ty=Xa d) (hd:d.isRow=Xc) (hi:(Tryz.prog.info? ty).map (·.size)=Xa vs.length):(execOp a.eval o).run Tryz.prog w= .ok (.value (Xi vs.toArray)) w:=by
 have:=run_loadAt_mid (P:=Tryz.prog) w b off ty vs d hc hu hd hi;simp only[execOp,ho,hx,Xw,this,rA,Sem.run_pure]
def KStore (m:Ma) (BF:Nat->Nat->Ar->Pg->Bool->Bool × Nat × Ma) (c:Cl) (ns:List Int) (er n:Int) (l:List Int) (m'':Ma):Prop:=
 l=[]/\((n=0/\KErr m BF c (c.dv.n:Int) Xc er)\/(er=0/\n=(c.dv.n:Int)/\∃(kk:Nat) (m':Ma) (fr:Fr) (pg:Pg),KFine m BF c (c.dv.n:Int) Xc kk m' fr/\splice (pgL fr.p) (c.pt % 8).toNat ns=pgL pg/\m''={ m' with fs:=m'.fs.set kk { fr with p:=pg } }))
theorem kstore_any {w0 w:Xn} {p:Nat} {V:MaV} {m:Ma} (h:ChW w0 p w V m) (c:Cl) (ns:List Int) (BF:Nat->Nat->Ar->Pg->Bool->Bool × Nat × Ma) (hb1:-9223372036854775808<=c.pt) (hb2:c.pt<=9223372036854775807) (hD:RowAt byE w0 (O c.dv.a c.dv.n c.dv.c) ns) (hb4:(c.dv.n:Int)<=9223372036854775807)
  (hU:∀W,Grew w W->Xp Tryz.prog 140 #[Xi #[O V.f.a V.f.n V.f.c,Xe Xf m.hand,O V.s.a V.s.n V.s.c,O V.sb.a V.sb.n V.sb.c,O V.sq.a V.sq.n V.sq.c,O V.db.a V.db.n V.db.c,O V.dq.a V.dq.n V.dq.c,O V.fl.a V.fl.n V.fl.c,Xe Xf m.cnt,O V.ca.a V.ca.n V.ca.c,O V.sp.a V.sp.n V.sp.c],Xe Xf c.proc,Xe Xf (c.pt / 8),Xh Xc] W fun e w'=>((∃er:Int,e= Xl (Xm #[Xi zeroM.toArray,Xe Xf 0,Xe Xf er])/\NotUsed m BF c.proc (c.pt / 8) Xc er)\/(∃(V':MaV) (k pc:Nat) (m':Ma),e= Xl (Xm #[Xi #[O V'.f.a V'.f.n V'.f.c,Xe Xf m'.hand,O V'.s.a V'.s.n V'.s.c,O V'.sb.a V'.sb.n V'.sb.c,O V'.sq.a V'.sq.n V'.sq.c,O V'.db.a V'.db.n V'.db.c,O V'.dq.a V'.dq.n V'.dq.c,O V'.fl.a V'.fl.n V'.fl.c,Xe Xf m'.cnt,O V'.ca.a V'.ca.n V'.ca.c,O V'.sp.a V'.sp.n V'.sp.c],Xe Xf (k:Int),Xe Xf 0])/\Used m BF c.proc (c.pt / 8) Xc k m'/\ChW W pc w' V' m'))/\Grew W w')
  (hI:∀(kk:Nat) (m':Ma),Used m BF c.proc (c.pt / 8) Xc kk m'->∃fr:Fr,m'.fs[kk]? =Xa fr/\(fr.f=-1\/∃(j:Nat) (fl:Fl),fr.f=(j:Int)/\m'.fl[j]? =Xa fl)/\0<=fr.x/\fr.x<1000):
  Xp Tryz.prog 39 #[Xj (Xa ⟨p,0,Xb⟩),Xi #[Xe Xf c.kind,Xe Xf c.proc,Xe Xf c.pt,Xe Xf c.n,Xe Xf c.file,Xe Xf c.base,Xh c.rd,Xh c.wr,Xh c.sh,O c.dv.a c.dv.n c.dv.c]] w fun e w'=>WorkA (KStore m BF c ns) w0 p w e w':=by
 have HM:Xo (ChW w0 p w V m):=h;have HPW:Xo (p<w.heap.size):=h.dlt p (.inl rfl);obtain⟨b,HB⟩:∃b,Xo (w.heap.size=b):=⟨_,rfl⟩;obtain⟨W1,hW1⟩:∃W1,(w.alloc (Xk #[Xe Xf c.kind,Xe Xf c.proc,Xe Xf c.pt,Xe Xf c.n,Xe Xf c.file,Xe Xf c.base,Xh c.rd,Xh c.wr,Xh c.sh,O c.dv.a c.dv.n c.dv.c] 26)).alloc (Xk #[Xe Xf 0,Xe Xf 0,O Xb 0 0] 50)=W1:=⟨_,rfl⟩;have G1:=gD2 hW1
 have X1:Xo (BoxT W1 b 26 [Xe Xf c.kind,Xe Xf c.proc,Xe Xf c.pt,Xe Xf c.n,Xe Xf c.file,Xe Xf c.base,Xh c.rd,Xh c.wr,Xh c.sh,O c.dv.a c.dv.n c.dv.c]):=show BoxT _ _ _ _ by rw[<-hW1];exact(BoxT.top w [Xe Xf c.kind,Xe Xf c.proc,Xe Xf c.pt,Xe Xf c.n,Xe Xf c.file,Xe Xf c.base,Xh c.rd,Xh c.wr,Xh c.sh,O c.dv.a c.dv.n c.dv.c] _ HB.out.symm).grew (grew_alloc _ _)
 have A1:Xo (BoxT W1 (b+1) 50 [Xe Xf 0,Xe Xf 0,O Xb 0 0]):=show BoxT _ _ _ _ by rw[<-hW1];exact BoxT.top _ [Xe Xf 0,Xe Xf 0,O Xb 0 0] _ (by have:=HB.out;simp;omega)
 have HBL:Xo (b+1<W1.heap.size):=A1.out.box.lt;have HPB:Xo (p<b):=show _<_ by have:=HPW.out;have:=HB.out;omega
 have HL:Xo (w0.heap.size<=b):=show _<=_ by have:=HM.out.lo;have:=HPB.out;omega
 have HW1:Xo (_=W1):=hW1;have hku:=kuse_any (h.grew G1.out) c (c.dv.n:Int) Xc BF hb1 hb2 (by omega) hb4 (fun W hW=>hU W (G1.out.trans hW)) hI
 have HBD:Xo (c.pt<=9223372036854775807):=hb2;clear hW1 h hU hI hb1 hb2;clear hb4;have HD:Xo (RowAt byE w0 (O c.dv.a c.dv.n c.dv.c) ns):=hD;have HDN:Xo (c.dv.n=ns.length):=hD.n;clear hD;have x9:=X1.out.box.c 9 rfl
 go_enter Tryz.func39,Tryz.ntmps39
 go_upto_region 1 with fail;rw[HW1.out,HB.out];clear HW1
 go_wp2_with (first | refine wp_loadAll rfl 26 (.tmp 3) rfl b rfl X1.out.box Tryz.underlying26 rfl (by kernel_rfl) ?_ | (go_at_call 81;refine hku.mono ?_))
 clear hku x9;rintro e W2 ⟨k,er,rfl,o2,g2,hk⟩;have A2:Xo (BoxT W2 (b+1) 50 [Xe Xf 0,Xe Xf 0,O Xb 0 0]):=show BoxT _ _ _ _ from A1.out.outD o2 (by have:=HPB.out;omega)
 have X2:Xo (BoxT W2 b 26 [Xe Xf c.kind,Xe Xf c.proc,Xe Xf c.pt,Xe Xf c.n,Xe Xf c.file,Xe Xf c.base,Xh c.rd,Xh c.wr,Xh c.sh,O c.dv.a c.dv.n c.dv.c]):=show BoxT _ _ _ _ from X1.out.outD o2 (by have:=HPB.out;omega)
 have G2:Xo (Grew w0 W2):=g2;have O2:Xo (OutD (fun k=>k=p) w W2):=show OutD _ _ _ from(OutD.grew G1.out).trans o2
 clear o2 g2 X1 A1
 rcases hk with hke | ⟨rfl,kk,m',fr,V',B,rfl,hf,hbx,hB,hown⟩
 ·skip
  have hne:=hke.ne;have hz:(er != 0)=Xc:=by simp[hne]
  have hrf:=refused_any er W2;have HKE:Xo _:=show KErr _ _ _ _ _ _ from hke
  have HNE:Xo (er≠0):=hne;clear hke hne;go_wp2_with fail;refine hrf.mono ?_;rintro e W3 ⟨rfl,g3⟩;have A3:=dD (A2.out.grew g3);have G3:=dD (G2.out.trans g3);have Q3:Xo (Grew W2 W3):=g3;clear hrf g3;unfold ansV noS
  go_wp2_with (refine wp_storeAllT rfl 50 (.tmp 4) (.tmp 20) rfl (b+1) rfl [Xe Xf er,Xe Xf 0,O Xb 0 0] rfl A3.out rfl (by kernel_rfl) (by simp[Value.oneCell']) ?_)
  intro W4 b4 g4 _;have G4:Xo (Grew w0 W4):=show Grew _ _ from grew_grown G3.out g4 (by have:=HL.out;omega)
  have A4:Xo (BoxT W4 (b+1) 50 [Xe Xf er,Xe Xf 0,O Xb 0 0]):=b4;have O4:Xo (OutD (fun k=>k=p) w W4):=show OutD _ _ _ from(O2.out.trans (OutD.grew Q3.out)).beyond g4 (by have:=HB.out;omega)
  clear b4 g4;go_wp2;refine bodyPost_ret (ret_cell rfl _ rfl A4.out.box Tryz.underlying50 rfl (by kernel_rfl)) rfl (WorkA.err (V:=V) (m:=m) HNE.out ⟨rfl,.inl ⟨rfl,HKE.out⟩⟩ O4.out G4.out)
 have HF:Xo (KFine m BF c (c.dv.n:Int) Xc kk m' fr):=hf;have P2:Xo (BoxT W2 p 88 (chL V' m')):=hbx;have N2:Xo (OwnB B W2 V' m'):=hown;have HBB:Xo (b+1<B):=show _<_ by have:=HBL.out;omega
 have HWB:Xo (w.heap.size<=B):=show _<=_ from nT (bS G1.out) hB
 have HFR:Xo (m'.fs[kk]? =Xa fr):=hf.2.2.1;have HW3:Xo (0<=c.pt/\0<=(c.dv.n:Int)/\(c.dv.n:Int)<=8 - c.pt % 8):=show _/\_ from of_decide_eq_true hf.1
 clear hf hbx hB hown HBL;obtain⟨i,HI⟩:∃i:Nat,Xo (c.pt % 8=(i:Int)):=⟨(c.pt % 8).toNat,show _=_ by omega⟩
 have HIN:Xo (i<8/\i+ns.length<=8):=show _/\_ by have h1:=HW3.out;have h2:=HI.out;have h3:=HDN.out;rw[h2]at h1;omega
 have HR8:Xo (∀(o:Oper) (a:Act) (x:Operand) (w:Xn),o.op= .binOp .rem 3 x (.const (Xe Xf 8)) 3->a.eval x= Xe Xf c.pt->(execOp a.eval o).run Tryz.prog w= .ok (.value (Xe Xf (i:Int))) w):=show∀(o:Oper) (a:Act) (x:Operand) (w:Xn),_ from fun o a x w h1 h2=>by rw[<-HI.out];exact run_rem8 HW3.out.1 o a x w h1 h2
 have hkl:=(gS.1 HFR.out).1;obtain⟨g7,c7,heq⟩:=N2.out.fs.formS (by omega)
 have f0:W2.cell? ⟨p,0,Xb⟩=Xa (O (Xa ⟨g7,0,Xb⟩) m'.fs.length c7):=by rw[<-heq];exact P2.out.box.c 0 rfl
 have HFO:Xo (OwnRow frmE B W2 (O (Xa ⟨g7,0,Xb⟩) m'.fs.length c7) m'.fs):=show OwnRow _ _ _ _ _ by rw[<-heq];exact N2.out.fs
 have HEQ:Xo (O V'.f.a V'.f.n V'.f.c= O (Xa ⟨g7,0,Xb⟩) m'.fs.length c7):=heq;have HG7:Xo (oB V'.f g7):=show oB _ _ by unfold oB;rw[heq];rfl
 have HGB:Xo (B<=g7):=show _<=_ from(HFO.out.lt g7 rfl).1
 have hlt:(kk:Int)< (m'.fs.length:Int):=by omega
 obtain⟨fn,HFN⟩:∃fn,Xo (m'.fs.length=fn):=⟨_,rfl⟩;rw[HFN.out]at HFO f0 hlt HEQ;clear heq hkl;obtain⟨⟨b0,b1,b2,b3,b4,b5,b6,b7⟩,r,u,d,f,x⟩:=fr;obtain⟨q0,q1,q2,q3,q4,q5,q6,q7,hq⟩:=len8 (splice [b0,b1,b2,b3,b4,b5,b6,b7] i ns) (by have:=HIN.out;rw[spliceI_len (by simp;omega)];rfl)
 have HQ:Xo (splice [b0,b1,b2,b3,b4,b5,b6,b7] i ns=[q0,q1,q2,q3,q4,q5,q6,q7]):=hq;clear hq;have HRG:Xo (∀W,Grew W2 W->W.rangeAt g7 (kk*13) [Xe Xg b0,Xe Xg b1,Xe Xg b2,Xe Xg b3,Xe Xg b4,Xe Xg b5,Xe Xg b6,Xe Xg b7]):=show∀W,_ from fun W hW j v hj=>(HFO.out.grew hW).range1 HFR.out j v (by
  have hlt:=(gS.1 hj).1
  show([Xe Xg b0,Xe Xg b1,Xe Xg b2,Xe Xg b3,Xe Xg b4,Xe Xg b5,Xe Xg b6,Xe Xg b7]++ [Xe Xf r,Xh u,Xh d,Xe Xf f,Xe Xf x])[j]? =Xa v
  rw[Xx hlt];exact hj)
 have HST:Xo (∀W,Grew W2 W->Xp Tryz.prog 83 #[Xi #[Xe Xg b0,Xe Xg b1,Xe Xg b2,Xe Xg b3,Xe Xg b4,Xe Xg b5,Xe Xg b6,Xe Xg b7],Xe Xf (i:Int),O c.dv.a c.dv.n c.dv.c] W fun e w'=>e= Xl (Xi #[Xe Xg q0,Xe Xg q1,Xe Xg q2,Xe Xg q3,Xe Xg q4,Xe Xg q5,Xe Xg q6,Xe Xg q7])/\Grew W w'):=show∀W,_ from fun W hW=>by
  have h1:=HD.out.grew (G2.out.trans hW);rw[HDN.out]at h1⊢;exact pageSetAt_any b0 b1 b2 b3 b4 b5 b6 b7 q0 q1 q2 q3 q4 q5 q6 q7 i ns c.dv.a c.dv.c W HIN.out.1 HIN.out.2 h1 HQ.out
 go_upto_region 5 with fail;clear f0 hlt;refine wp_lax_tailD (I:=fun W=>Grew W2 W) 13 [(10,fun v=>v= Xi #[Xe Xg q0,Xe Xg q1,Xe Xg q2,Xe Xg q3,Xe Xg q4,Xe Xg q5,Xe Xg q6,Xe Xg q7])] (fun _=>True) (gW _) trivial mixed (by kernel_rfl) rfl rfl (by decide) ?hS (by kernel_rfl) ?_
 case hS=>
  intro x hx;simp only[mC,nM,or_false]at hx;subst hx;exact⟨_,rfl⟩
 simp only[List.take,List.drop];refine laxD_val (Xj (Xa ⟨g7,kk*13,Xb⟩)) rfl rfl (fun W hW=>rfl) ?_
 simp only[Xs,sB,sS,sZ];refine laxD_val (Xj (Xa ⟨g7,kk*13,Xb⟩)) rfl rfl (fun W hW=>rfl) ?_
 simp only[Xs,sB,sS,sZ];refine laxD_nilc (.tmp 30) ⟨g7,kk*13,Xb⟩ rfl rfl rfl rfl ?_;simp only[Xs,sB,sS,sZ];refine laxD_val (Xj (Xa ⟨g7,kk*13,Xb⟩)) rfl rfl (fun W hW=>rfl) ?_
 simp only[Xs,sB,sS,sZ];refine laxD_val (Xi #[Xe Xg b0,Xe Xg b1,Xe Xg b2,Xe Xg b3,Xe Xg b4,Xe Xg b5,Xe Xg b6,Xe Xg b7]) rfl rfl (fun W hW=>run_loadR W 91 (.tmp 32) rfl g7 (kk*13) rfl [Xe Xg b0,Xe Xg b1,Xe Xg b2,Xe Xg b3,Xe Xg b4,Xe Xg b5,Xe Xg b6,Xe Xg b7] (HRG.out W hW) Tryz.underlying91 rfl (by kernel_rfl)) ?_
 simp only[Xs,sB,sS,sZ];refine laxD_val (Xj (Xa ⟨b,2,Xb⟩)) rfl rfl (fun W hW=>rfl) ?_
 simp only[Xs,sB,sS,sZ];refine laxD_val (Xe Xf c.pt) rfl rfl (fun W hW=>run_load1 _ (.tmp 34) rfl ⟨b,2,Xb⟩ rfl (Xe Xf c.pt) ((X2.out.box.grew hW).c 2 rfl) Tryz.underlying3 rfl) ?_
 simp only[Xs,sB,sS,sZ];refine laxD_val (Xe Xf (i:Int)) rfl rfl (fun W hW=>HR8.out _ _ _ W rfl rfl) ?_
 simp only[Xs,sB,sS,sZ];refine laxD_val (Xj (Xa ⟨b,9,Xb⟩)) rfl rfl (fun W hW=>rfl) ?_
 simp only[Xs,sB,sS,sZ];refine laxD_val (O c.dv.a c.dv.n c.dv.c) rfl rfl (fun W hW=>run_load1 _ (.tmp 37) rfl ⟨b,9,Xb⟩ rfl (O c.dv.a c.dv.n c.dv.c) ((X2.out.box.grew hW).c 9 rfl) Tryz.underlying24 rfl) ?_
 simp only[Xs,sB,sS,sZ];refine laxD_spec rfl rfl (fun _ _=>True) (fun W hW _=>?_) (fun v hv=>?_)
 ·refine Does.call [Xi #[Xe Xg b0,Xe Xg b1,Xe Xg b2,Xe Xg b3,Xe Xg b4,Xe Xg b5,Xe Xg b6,Xe Xg b7],Xe Xf (i:Int),O c.dv.a c.dv.n c.dv.c] rfl Tryz.func83 rfl rfl rfl ?_;refine(HST.out W hW).mono ?_;rintro e w'' ⟨rfl,gg⟩;exact⟨_,rfl,hW.trans gg,rfl,trivial⟩
 subst hv;simp only[Xs,sB,sS,sZ];refine laxD_nilc (.tmp 29) ⟨g7,kk*13,Xb⟩ rfl rfl rfl rfl ?_;simp only[Xs,sB,sS,sZ];refine laxD_val (Xj (Xa ⟨g7,kk*13,Xb⟩)) rfl rfl (fun W hW=>rfl) ?_
 simp only[Xs,sB,sS,sZ];refine laxD_nil fun W3 g3 _=>?_
 refine wpList_store_part (E:=frmE) rfl (.tmp 41) (.tmp 39) 91 rfl B _ m'.fs (HFO.out.grew g3) g7 kk 0 rfl ⟨⟨b0,b1,b2,b3,b4,b5,b6,b7⟩,r,u,d,f,x⟩ ⟨⟨q0,q1,q2,q3,q4,q5,q6,q7⟩,r,u,d,f,x⟩ HFR.out [Xe Xg q0,Xe Xg q1,Xe Xg q2,Xe Xg q3,Xe Xg q4,Xe Xg q5,Xe Xg q6,Xe Xg q7] (by kernel_rfl) rfl (Nat.le_of_ble_eq_true rfl) (by intro u hu;simp at hu;rcases hu with rfl | rfl | rfl | rfl | rfl | rfl | rfl | rfl <;> rfl) ⟨g7,kk*13,Xb⟩ rfl rfl _ rfl rfl ?_
 intro W4 ow4 gr4 _;have N4:Xo (OwnB B W4 V' { m' with fs:=m'.fs.set kk ⟨⟨q0,q1,q2,q3,q4,q5,q6,q7⟩,r,u,d,f,x⟩ }):=show OwnB _ _ _ _ from(N2.out.grew g3).frame HG7.out gr4 (by rw[HEQ.out];exact ow4)
 have P4:Xo (BoxT W4 p 88 (chL V' { m' with fs:=m'.fs.set kk ⟨⟨q0,q1,q2,q3,q4,q5,q6,q7⟩,r,u,d,f,x⟩ })):=show BoxT _ _ _ _ from(P2.out.grew g3).beside gr4 (fun k e=>by cases e;have:=HPB.out;have:=HBB.out;have:=HGB.out;omega)
 have A4:Xo (BoxT W4 (b+1) 50 [Xe Xf 0,Xe Xf 0,O Xb 0 0]):=show BoxT _ _ _ _ from(A2.out.grew g3).beside gr4 (fun k e=>by cases e;have:=HBB.out;have:=HGB.out;omega)
 have X4:Xo (BoxT W4 b 26 [Xe Xf c.kind,Xe Xf c.proc,Xe Xf c.pt,Xe Xf c.n,Xe Xf c.file,Xe Xf c.base,Xh c.rd,Xh c.wr,Xh c.sh,O c.dv.a c.dv.n c.dv.c]):=show BoxT _ _ _ _ from(X2.out.grew g3).beside gr4 (fun k e=>by cases e;have:=HBB.out;have:=HGB.out;omega)
 have G4:Xo (Grew w0 W4):=show Grew _ _ from grew_grown (G2.out.trans g3) gr4 (by have:=HL.out;have:=HBB.out;have:=HGB.out;omega)
 have O4:Xo (OutD (fun k=>k=p) w W4):=show OutD _ _ _ from(O2.out.trans (OutD.grew g3)).beyond gr4 (by have:=HWB.out;have:=HGB.out;omega)
 clear ow4 gr4 g3;try simp only[Xs]
 have x9:=X4.out.box.c 9 rfl
 go_wp2_with (refine wp_storeAllT rfl 50 (.tmp 4) (.tmp 45) rfl (b+1) rfl [Xe Xf 0,Xe Xf (c.dv.n:Int),O Xb 0 0] rfl A4.out rfl (by kernel_rfl) (by simp[Value.oneCell']) ?_)
 intro W5 b5 g5 _;clear x9;have A5:Xo (BoxT W5 (b+1) 50 [Xe Xf 0,Xe Xf (c.dv.n:Int),O Xb 0 0]):=b5;have HFIN:Xo (WorkA (KStore m BF c ns) w0 p w (Xl (ansV 0 (c.dv.n:Int) noS)) W5):=show WorkA _ _ _ _ _ _ from by
  have e1:(c.pt % 8).toNat=i:=by rw[HI.out];rfl
  refine WorkA.ok (V':=V') ⟨rfl,.inr ⟨rfl,rfl,kk,m',_,⟨q0,q1,q2,q3,q4,q5,q6,q7⟩,HF.out,by rw[e1];exact HQ.out,rfl⟩⟩ (O4.out.beyond g5 (by have:=HB.out;omega)) (grew_grown G4.out g5 (by have:=HL.out;omega)) (P4.out.beside g5 (fun k e=>by cases e;have:=HPB.out;omega)) fun W hW=>?_
  exact((N4.out.out (OutD.grown g5 HBB.out)).out (hW.wide fun k hk=>Xt hk HWB.out)).at
 clear b5 g5;go_wp2;refine bodyPost_ret (ret_cell rfl _ rfl A5.out.box Tryz.underlying50 rfl (by kernel_rfl)) rfl HFIN.out
theorem ret_cells2 {fn:Func} {p q:Tmp} {ty ty2:TypeId} (h:fn.results=#[.cell p ty,.cell q ty2]) (tmps:Array Xq) {w:Xn} {b b2:Nat} (hp:tmps.getD p undef= Xj (Xa ⟨b,0,Xb⟩)) (hq:tmps.getD q undef= Xj (Xa ⟨b2,0,Xb⟩)) {vs us:List Xq} (hb:Box w b vs) (hb2:Box w b2 us) {d d2:TypeDesc} (hu:Tryz.prog.underlying ty=Xa d) (hd:d.isRow=Xc) (hi:(Tryz.prog.info? ty).map (·.size)=Xa vs.length) (hu2:Tryz.prog.underlying ty2=Xa d2) (hd2:d2.isRow=Xc) (hi2:(Tryz.prog.info? ty2).map (·.size)=Xa us.length):
  (results fn tmps).run Tryz.prog w= .ok (Xm #[Xi vs.toArray,Xi us.toArray]) w:=by
 have hp':tmps[p]?.getD undef= Xj (Xa ⟨b,0,Xb⟩):=by simpa using hp
 have hq':tmps[q]?.getD undef= Xj (Xa ⟨b2,0,Xb⟩):=by simpa using hq
 have hld:=run_loadVar_mid (P:=Tryz.prog) w b 0 ty vs d hb.range hu hd hi;have hld2:=run_loadVar_mid (P:=Tryz.prog) w b2 0 ty2 us d2 hb2.range hu2 hd2 hi2
 simp[results,h,hp',hq',asAddr,hld,hld2]
theorem run_lookW {l:List (Int × Xq)} {x:Xq} {k:Int} {B:Nat} (o:Oper) (a:Act) (y z:Operand) (w:Xn) (ho:o.op= .lookup 82 y z Xc) (hy:a.eval y= .map (Xa B)) (hz:a.eval z= Xe Xf k) (hm:MapV w B l) (hx:lookN l k=Xa x):(execOp a.eval o).run Tryz.prog w= .ok (.value (Xm #[x,Xh Xc])) w:=by
 obtain⟨zv,hzv⟩:∃zv,(zeroValue 80).run Tryz.prog w= .ok zv w:=⟨.nilFunc,by go_simp⟩
 have h:=hm.look (t:=82) (e:=80) Tryz.underlying3 Tryz.underlying82 hzv k;rw[hx]at h;simp only[execOp,ho,hy,hz,Xw,h,rA,Sem.run_pure];rfl
theorem OwnM.doneD {B0 B:Nat} {w W:Xn} {V:MaV} {m:Ma} (h:OwnM B w V m) (hB:B0<=B) (o:OutD (fun k=>k<B0) w W):MachAt W V m:=by
 obtain⟨r,hsp⟩:=h.changeW (p:=w.heap.size) hB (nR _) (o.wide fun k hk=> .inl hk)
 obtain⟨xs,Bs,s1,s2,s3,s4,s5⟩:=h.sp;have far:∀{α:Type} {E:Elt α} {v:Xq} {l:List α},OwnRow E B w v l->RowAt E W v l:=fun hr=>OwnRow.at (base:=B) ⟨owns_outD hr.1 o (fun g hg e=>by have:=(hr.lt g hg).1;have e:g<B0:=e;omega),hr.2⟩
 exact⟨far h.fs,r.sl,r.sb,r.sq,r.db,r.dq,r.fl,far h.ca,⟨xs,far s1,s2,fun i x s hx hs=>hsp xs Bs s3 s4 s5 i x s hx hs⟩⟩
def Did (m:Ma) (K:Int->Int->List Int->Ma->Prop) (w:Xn) (e:Ending) (w':Xn):Prop:=
 ∃(er n:Int) (s:Sli) (l:List Int) (m' m2:Ma) (V':MaV),e= Xl (Xm #[Xi #[O V'.f.a V'.f.n V'.f.c,Xe Xf m2.hand,O V'.s.a V'.s.n V'.s.c,O V'.sb.a V'.sb.n V'.sb.c,O V'.sq.a V'.sq.n V'.sq.c,O V'.db.a V'.db.n V'.db.c,O V'.dq.a V'.dq.n V'.dq.c,O V'.fl.a V'.fl.n V'.fl.c,Xe Xf m2.cnt,O V'.ca.a V'.ca.n V'.ca.c,O V'.sp.a V'.sp.n V'.sp.c],ansV er n s])/\K er n l m'/\((er=0/\m2=m')\/(er≠0/\m2=m))/\∀W,OutD (fun k=>k<w.heap.size) w' W->MachAt W V' m2/\RowAt byE W (O s.a s.n s.c) l
def Works (w:Xn) (m:Ma) (c:Cl) (K:Int->Int->List Int->Ma->Prop):Prop:=
 ∀(w0 W:Xn) (p:Nat) (V1:MaV) (v:Xq),Grew w w0->ChW w0 p W V1 m->WorkV W c.kind v->∃(F:Nat) (caps:Array Xq),v= .func (.func F) #[] caps/\Enters Tryz.prog F/\Xp Tryz.prog F (#[Xj (Xa ⟨p,0,Xb⟩),Xi #[Xe Xf c.kind,Xe Xf c.proc,Xe Xf c.pt,Xe Xf c.n,Xe Xf c.file,Xe Xf c.base,Xh c.rd,Xh c.wr,Xh c.sh,O c.dv.a c.dv.n c.dv.c]]++caps) W fun e w'=>WorkM K w0 p W W e w'
theorem do_any (V:MaV) (m:Ma) (w:Xn) (hm:MachAt w V m) (h0:maW m=0) (c:Cl) (K:Int->Int->List Int->Ma->Prop) (hk:1<=c.kind/\c.kind<=15) (hF:Works w m c K):
  Xp Tryz.prog 14 #[Xi #[O V.f.a V.f.n V.f.c,Xe Xf m.hand,O V.s.a V.s.n V.s.c,O V.sb.a V.sb.n V.sb.c,O V.sq.a V.sq.n V.sq.c,O V.db.a V.db.n V.db.c,O V.dq.a V.dq.n V.dq.c,O V.fl.a V.fl.n V.fl.c,Xe Xf m.cnt,O V.ca.a V.ca.n V.ca.c,O V.sp.a V.sp.n V.sp.c],Xi #[Xe Xf c.kind,Xe Xf c.proc,Xe Xf c.pt,Xe Xf c.n,Xe Xf c.file,Xe Xf c.base,Xh c.rd,Xh c.wr,Xh c.sh,O c.dv.a c.dv.n c.dv.c]] w fun e w'=>Did m K w e w'/\Grew w w':=by
 have HM:Xo (MachAt w V m):=hm;have H0:Xo (maW m=0):=h0;have HKD:Xo (1<=c.kind/\c.kind<=15):=hk;have HFF:Xo (Works w m c K):=hF;obtain⟨b,HB⟩:∃b,Xo (w.heap.size=b):=⟨_,rfl⟩;obtain⟨W1,hW1⟩:∃W1,(((w.alloc (Xk #[O V.f.a V.f.n V.f.c,Xe Xf m.hand,O V.s.a V.s.n V.s.c,O V.sb.a V.sb.n V.sb.c,O V.sq.a V.sq.n V.sq.c,O V.db.a V.db.n V.db.c,O V.dq.a V.dq.n V.dq.c,O V.fl.a V.fl.n V.fl.c,Xe Xf m.cnt,O V.ca.a V.ca.n V.ca.c,O V.sp.a V.sp.n V.sp.c] 42)).alloc (Xk #[Xe Xf c.kind,Xe Xf c.proc,Xe Xf c.pt,Xe Xf c.n,Xe Xf c.file,Xe Xf c.base,Xh c.rd,Xh c.wr,Xh c.sh,O c.dv.a c.dv.n c.dv.c] 26)).alloc (Xk #[O Xb 0 0,Xe Xf 0,O Xb 0 0,O Xb 0 0,O Xb 0 0,O Xb 0 0,O Xb 0 0,O Xb 0 0,Xe Xf 0,O Xb 0 0,O Xb 0 0] 42)).alloc (Xk #[Xe Xf 0,Xe Xf 0,O Xb 0 0] 50)=W1:=⟨_,rfl⟩;have G1:Xo (Grew w W1):=show Grew _ _ by rw[<-hW1];exact(((grew_alloc _ _).trans (grew_alloc _ _)).trans (grew_alloc _ _)).trans (grew_alloc _ _)
 have X1:Xo (BoxT W1 b 42 (chL V m)):=show BoxT _ _ _ _ by rw[<-hW1];exact(BoxT.top w (chL V m) _ HB.out.symm).grew (((grew_alloc _ _).trans (grew_alloc _ _)).trans (grew_alloc _ _))
 have Y1:Xo (BoxT W1 (b+1) 26 [Xe Xf c.kind,Xe Xf c.proc,Xe Xf c.pt,Xe Xf c.n,Xe Xf c.file,Xe Xf c.base,Xh c.rd,Xh c.wr,Xh c.sh,O c.dv.a c.dv.n c.dv.c]):=show BoxT _ _ _ _ by rw[<-hW1];exact(BoxT.top _ [Xe Xf c.kind,Xe Xf c.proc,Xe Xf c.pt,Xe Xf c.n,Xe Xf c.file,Xe Xf c.base,Xh c.rd,Xh c.wr,Xh c.sh,O c.dv.a c.dv.n c.dv.c] _ (by have:=HB.out;simp;omega)).grew ((grew_alloc _ _).trans (grew_alloc _ _))
 have Z1:Xo (BoxT W1 (b+2) 42 zeroM):=show BoxT _ _ _ _ by rw[<-hW1];exact(BoxT.top _ zeroM _ (by have:=HB.out;simp;omega)).grew (grew_alloc _ _)
 have A1:Xo (BoxT W1 (b+3) 50 [Xe Xf 0,Xe Xf 0,O Xb 0 0]):=show BoxT _ _ _ _ by rw[<-hW1];exact BoxT.top _ [Xe Xf 0,Xe Xf 0,O Xb 0 0] _ (by have:=HB.out;simp;omega)
 have HW1:Xo (_=W1):=hW1;have hwr:=wrongM_ok V m W1 (hm.grew G1.out) h0;have HSJ:Xo ((Tryz.prog.info? 42).map (·.size)=Xa (chL V m).length):=show _=_ by kernel_rfl
 clear hW1 hm h0 hk hF
 go_enter Tryz.func14,Tryz.ntmps14
 go_upto_region 1 with fail;rw[HW1.out,HB.out];clear HW1
 go_wp2_with (first | refine wp_loadAll rfl 42 (.tmp 2) rfl b rfl X1.out.box Tryz.underlying42 rfl HSJ.out ?_ | (go_at_call 20;refine hwr.mono ?_))
 clear hwr;rintro e W2 ⟨rfl,g2⟩;have G2:=dD (G1.out.trans g2);have X2:=dD (X1.out.grew g2);have Y2:=dD (Y1.out.grew g2);have Z2:=dD (Z1.out.grew g2);have A2:=dD (A1.out.grew g2);clear g2 X1 Y1 Z1 A1 G1;go_upto_region 4 with fail;have hy0:∀y:GrownW W2,y.world.cell? ⟨b+1,0,Xb⟩=Xa (Xe Xf c.kind):=fun y=>(Y2.out.box.grew y.grew).c 0 rfl
 have hne:Nonempty (GrownW W2):=⟨⟨_,Grew.refl _⟩⟩;refine wp_lax [(0,⟨fun v=>∃B,v= .map (Xa B),fun v w=>∃(B:Nat) (l:List (Int × Xq)),v= .map (Xa B)/\MapV w B l/\(∀k v,lookN l k=Xa v->WorkV w k v)/\∀k,(lookN l k).isSome=decide (1<=k/\k<=15)⟩),(3,⟨fun v=>∃x,v= Xm #[x,Xh Xc],fun v w=>∃x,v= Xm #[x,Xh Xc]/\WorkV w c.kind x⟩)] mixed (by kernel_rfl) ?_ ?_ ?_
 ·intro x hx;simp only[mC,nM,or_false]at hx
  rcases hx with rfl | rfl
  ·exact⟨_,0,rfl⟩
  exact⟨_,Xe Xf 0,rfl⟩
 ·intro x hx;simp only[mC,nM,or_false]at hx
  rcases hx with rfl | rfl
  ·rintro v u u' hg ⟨B,l,h1,h2,h3,h4⟩;exact⟨B,l,h1,h2.grew hg,fun k v hv=>(h3 k v hv).grew hg,h4⟩
  rintro v u u' hg ⟨x,h1,h2⟩;exact⟨x,h1,h2.grew hg⟩
 refine lax_spec rfl rfl (fun w' hg hF=>?_) (fun v1 hv=>?_)
 ·refine Does.call [] rfl Tryz.func22 rfl rfl rfl ?_;refine(works_any w').mono ?_;rintro e w'' ⟨⟨B,l,rfl,h1,h2,h3⟩,hg2⟩;exact⟨_,rfl,hg2,⟨B,rfl⟩,B,l,rfl,h1,h2,h3⟩
 obtain⟨B,rfl⟩:=hv;simp only[Xs,sB,sS,sZ];iterate 2 (refine lax_quiet rfl rfl rfl (fun K hK=>?_);go_big_quiet_op;refine hK _ ?_;clear hK K)
 refine lax_spec rfl rfl (fun w' hg hF=>?_) (fun v1 hv=>?_)
 ·obtain⟨B',l,hb,h1,h2,h3⟩:=hF 0 (by kernel_rfl)
  cases hb;obtain⟨x,hx⟩:∃x,lookN l c.kind=Xa x:=by
   have h4:=h3 c.kind;rw[decide_eq_true HKD.out]at h4;exact Option.isSome_iff_exists.1 h4
  refine Does.step (v:= Xm #[x,Xh Xc]) (w':=w') (run_lookW _ _ _ _ w' rfl rfl rfl h1 hx) ⟨Grew.refl _,⟨x,rfl⟩,x,rfl,h2 _ _ hx⟩
 obtain⟨x,rfl⟩:=hv;simp only[Xs,sB,sS,sZ];iterate 5 (refine lax_quiet rfl rfl rfl (fun K hK=>?_);go_big_quiet_op;refine hK _ ?_;clear hK K)
 refine lax_nil fun W3 g3 hF=>?_
 obtain⟨x',hx',hwv⟩:=hF 3;have hxx:x'=x:=by
  have h1:(Value.tuple #[x,Xh Xc])= Xm #[x',Xh Xc]:=hx';simp only[Value.tuple.injEq,Array.mk.injEq,List.cons.injEq,and_true]at h1;exact h1.symm
 subst hxx;have HWV:Xo (WorkV W3 c.kind x'):=hwv;have G3:=dD (G2.out.trans g3);have X3:=dD (X2.out.grew g3);have Y3:=dD (Y2.out.grew g3);have Z3:=dD (Z2.out.grew g3);have A3:=dD (A2.out.grew g3);clear g3 hF hx' hwv hy0 hne X2 Y2 Z2 A2 G2;have hof:=ofOwn_any V m W3 (HM.out.grew G3.out)
 go_wp2_with (first | refine wp_loadAll rfl 42 (.tmp 2) rfl b rfl X3.out.box Tryz.underlying42 rfl HSJ.out ?_ | (go_at_call 24;refine hof.mono ?_))
 clear hof;rintro e W4 ⟨p,BB,V1,rfl,hown,hBB,hpp,bx,g4⟩;have M4:Xo (ChW W3 p W4 V1 m):=show ChW _ _ _ _ _ from ChW.of hown hBB g4 hpp bx
 have Y4:=dD (Y3.out.grew g4);have HBW:Xo (b+3<W3.heap.size):=A3.out.box.lt;obtain⟨F,caps,hxf,eg,hcall⟩:=HFF.out W3 W4 p V1 x' G3.out M4.out (HWV.out.grew g4);subst hxf;have EG:Xo (∀(args:Array Xq) (w:Xn),(callFunc F args).run Tryz.prog w= .ok (.enter F args) w):=eg;have hfn:=hcall;clear hown hBB hpp bx g4 eg hcall
 go_wp2_with (first | refine wp_loadAll rfl 26 (.tmp 3) rfl (b+1) rfl Y4.out.box Tryz.underlying26 rfl (by kernel_rfl) ?_ | fail)
 rw[EG.out];refine hfn.mono ?_;clear hfn;rintro e W5 ⟨er,n,sd,l,V',m',rfl,hk,o5,g5,hr,hd⟩;have HR6:Xo (∀W,OutD (Aft W3 W4 W4) W5 W->RowAt byE W (O sd.a sd.n sd.c) l):=hr;have HD6:Xo (er=0->BoxT W5 p 88 (chL V' m')/\∀W,OutD (Aft W3 W4 W4) W5 W->MachAt W V' m'):=hd;have HK:Xo (K er n l m'):=hk;have HG5:Xo (Grew W3 W5):=g5;have HZL:Xo (∀v∈chL V' m',v.oneCell'=Xc):=show∀v∈chL V' m',_ by simp[chL,Value.oneCell']
 clear hr hd hk o5 g5;unfold ansV;go_upto_region 9 with fail;obtain⟨q,HQ⟩:∃q,Xo (W5.heap.size=q):=⟨_,rfl⟩;obtain⟨W6,hW6⟩:∃W6,W5.alloc (Xk #[Xe Xf er,Xe Xf n,O sd.a sd.n sd.c] 50)=W6:=⟨_,rfl⟩;have g6:=gP hW6
 have Q6:=xPT hW6 HQ
 have G56:Xo (Grew W5 W6):=g6;have G36:=dD (HG5.out.trans g6);have HPL:Xo (W3.heap.size<=p):=M4.out.lo;have HQL:Xo (W3.heap.size<=q):=show _<=_ by rw[<-HQ.out];exact bS HG5.out
 rw[hW6,HQ.out];clear hW6 g6 HQ;have X6:=dD (X3.out.grew G36.out);have Z6:=dD (Z3.out.grew G36.out);have A6:=dD (A3.out.grew G36.out);have HBW6:Xo (b+3<W6.heap.size):=A6.out.box.lt;have q0:=Q6.out.box.c 0 rfl
 by_cases he:er=0
 ·have HE:Xo (er=0):=he;obtain⟨p5,m5⟩:=HD6.out he;have P6:Xo (BoxT W6 p 88 (chL V' m')):=p5.grew G56.out;have HSK:Xo ((Tryz.prog.info? 42).map (·.size)=Xa (chL V' m').length):=show _=_ by kernel_rfl
  subst he;clear p5;go_upto_region 11 with fail;clear q0;refine wp_region_held (S:=fun W=>OutD (fun k=>k=b+2\/k=b+3) W6 W/\Grew w W) mixed ?_
  show wpAnyH _ _ _ _ _ 7 (Xv 7 Xd) _ W6.drew
  have gd:Grew W6 W6.drew:=(gW _)
  have sd0:OutD (fun k=>k=b+2\/k=b+3) W6 W6.drew/\Grew w W6.drew:=⟨OutD.grew gd,(G3.out.trans G36.out).trans gd⟩
  have z0:=Z6.out.grew gd;have a0:=A6.out.grew gd;refine takeH 0 (Xa 42) (Xj (Xa ⟨p,0,Xb⟩)) rfl rfl (by kernel_rfl) (by kernel_rfl) (by kernel_rfl) (fun _ _ _ h=>h) (.inl ⟨rfl,fun _ _=>rfl⟩) sd0 ?_
  simp only[Xs,sB,sS,sZ];refine takeH 1 (Xa 43) (Xj (Xa ⟨p,0,Xb⟩)) rfl rfl (by kernel_rfl) (by kernel_rfl) (by kernel_rfl) (fun _ _ _ h=>h) (.inl ⟨rfl,fun _ _=>rfl⟩) sd0 ?_
  simp only[Xs,sB,sS,sZ];refine takeH 2 (Xa 44) (Xj (Xa ⟨p,0,Xb⟩)) rfl rfl (by kernel_rfl) (by kernel_rfl) (by kernel_rfl) (fun _ _ _ h=>h) (.inl ⟨rfl,fun _ _=>rfl⟩) sd0 ?_
  simp only[Xs,sB,sS,sZ];refine takeH 3 (Xa 45) (Xi (chL V' m').toArray) rfl rfl (by kernel_rfl) (by kernel_rfl) (by kernel_rfl) (fun _ _ _ h=>h) (yieldsIf_load_mid rfl 42 (.tmp 44) rfl p 0 rfl (chL V' m') _ (fun W hW=>(P6.out.outD hW.1 (by have:=HPL.out;have:=HBW.out;omega)).box.range) Tryz.underlying42 rfl HSK.out) sd0 ?_
  simp only[Xs,sB,sS,sZ];refine takeH 4 (Xa 46) (Xi #[Xe Xf 0,Xe Xf n,O sd.a sd.n sd.c]) rfl rfl (by kernel_rfl) (by kernel_rfl) (by kernel_rfl) (fun _ _ _ h=>h) (yieldsIf_load_mid rfl 50 (.tmp 10) rfl q 0 rfl ([Xe Xf 0,Xe Xf n,O sd.a sd.n sd.c]) _ (fun W hW=>(Q6.out.outD hW.1 (by have:=HQL.out;have:=HBW.out;omega)).box.range) Tryz.underlying50 rfl (by kernel_rfl)) sd0 ?_
  simp only[Xs,sB,sS,sZ];refine wpAnyH_all (rs:=[5]) (by kernel_rfl) (by simp) ?_
  intro j hj;simp only[mC,nM,or_false]at hj;subst hj;refine wpOp_does Xb (fun v w'=>BoxT w' (b+2) 42 (chL V' m')/\(W6.drew).grownBy w' (Xa (b+2))) rfl rfl rfl (Does.storeAllT 42 (.tmp 4) (.tmp 45) rfl (b+2) rfl (chL V' m') rfl z0 rfl (by kernel_rfl) HZL.out (fun w' b' g' s'=>⟨b',g'⟩)) ?_
  rintro v WN1 ⟨bN1,gN1⟩;have sN1:OutD (fun k=>k=b+2\/k=b+3) W6 WN1/\Grew w WN1:=⟨sd0.1.trans (OutD.grown gN1 (.inl rfl)),grew_grown sd0.2 gN1 (by have:=HB.out;omega)⟩
  have oN1:=a0.beside gN1 (fun k e=>by cases e;omega)
  refine⟨sN1,?_⟩;simp only[Xs];refine wpAnyH_all (rs:=[6]) (by kernel_rfl) (by simp) ?_
  intro j hj;simp only[mC,nM,or_false]at hj;subst hj;refine wpOp_does Xb (fun v w'=>BoxT w' (b+3) 50 ([Xe Xf 0,Xe Xf n,O sd.a sd.n sd.c])/\(WN1).grownBy w' (Xa (b+3))) rfl rfl rfl (Does.storeAllT 50 (.tmp 5) (.tmp 46) rfl (b+3) rfl ([Xe Xf 0,Xe Xf n,O sd.a sd.n sd.c]) rfl oN1 rfl (by kernel_rfl) (by simp[Value.oneCell']) (fun w' b' g' s'=>⟨b',g'⟩)) ?_
  rintro v WN2 ⟨bN2,gN2⟩;have sN2:OutD (fun k=>k=b+2\/k=b+3) W6 WN2/\Grew w WN2:=⟨sN1.1.trans (OutD.grown gN2 (.inr rfl)),grew_grown sN1.2 gN2 (by have:=HB.out;omega)⟩
  have oN2:=bN1.beside gN2 (fun k e=>by cases e;omega)
  refine⟨sN2,?_⟩;simp only[Xs];refine wpAnyH_done (by kernel_rfl) ?_ _
  have B9:Xo (BoxT WN2 (b+2) 42 (chL V' m')):=oN2;have A9:Xo (BoxT WN2 (b+3) 50 [Xe Xf 0,Xe Xf n,O sd.a sd.n sd.c]):=bN2;have O9:OutD (Aft W3 W4 W4) W5 WN2:=(OutD.grew G56.out).trans (sN2.1.wide fun k hk=> .inl (by have:=HBW.out;rcases hk with hk | hk <;> omega))
  have HFIN:Xo (Did m K w (Xl (Xm #[Xi #[O V'.f.a V'.f.n V'.f.c,Xe Xf m'.hand,O V'.s.a V'.s.n V'.s.c,O V'.sb.a V'.sb.n V'.sb.c,O V'.sq.a V'.sq.n V'.sq.c,O V'.db.a V'.db.n V'.db.c,O V'.dq.a V'.dq.n V'.dq.c,O V'.fl.a V'.fl.n V'.fl.c,Xe Xf m'.cnt,O V'.ca.a V'.ca.n V'.ca.c,O V'.sp.a V'.sp.n V'.sp.c],ansV 0 n sd])) WN2/\Grew w WN2):=show _/\_ from⟨⟨0,n,sd,l,m',m',V',rfl,HK.out,.inl ⟨rfl,rfl⟩,fun W hW=>⟨m5 W (O9.trans (hW.wide fun k hk=> .inl (Xt hk (bS G3.out)))),HR6.out W (O9.trans (hW.wide fun k hk=> .inl (Xt hk (bS G3.out))))⟩⟩,sN2.2⟩
  go_wp2;refine bodyPost_ret (ret_cells2 rfl _ rfl rfl B9.out.box A9.out.box Tryz.underlying42 rfl (by kernel_rfl) Tryz.underlying50 rfl (by kernel_rfl)) rfl HFIN.out
 have HE:Xo (er≠0):=he;have hz:(er != 0)=Xc:=by simp[he]
 clear he;go_upto_region 10 with fail;clear q0 hz;refine wp_region_held (S:=fun W=>OutD (fun k=>k=b+2\/k=b+3) W6 W/\Grew w W) mixed ?_
 show wpAnyH _ _ _ _ _ 5 (Xv 5 Xd) _ W6.drew
 have gd:Grew W6 W6.drew:=(gW _)
 have sd0:OutD (fun k=>k=b+2\/k=b+3) W6 W6.drew/\Grew w W6.drew:=⟨OutD.grew gd,(G3.out.trans G36.out).trans gd⟩
 have z0:=Z6.out.grew gd;have a0:=A6.out.grew gd;refine takeH 0 (Xa 39) (Xi (chL V m).toArray) rfl rfl (by kernel_rfl) (by kernel_rfl) (by kernel_rfl) (fun _ _ _ h=>h) (yieldsIf_load_mid rfl 42 (.tmp 2) rfl b 0 rfl (chL V m) _ (fun W hW=>(X6.out.outD hW.1 (by omega)).box.range) Tryz.underlying42 rfl HSJ.out) sd0 ?_
 simp only[Xs,sB,sS,sZ];refine takeH 2 (Xa 41) (Xi #[Xe Xf er,Xe Xf n,O sd.a sd.n sd.c]) rfl rfl (by kernel_rfl) (by kernel_rfl) (by kernel_rfl) (fun _ _ _ h=>h) (yieldsIf_load_mid rfl 50 (.tmp 10) rfl q 0 rfl ([Xe Xf er,Xe Xf n,O sd.a sd.n sd.c]) _ (fun W hW=>(Q6.out.outD hW.1 (by have:=HQL.out;have:=HBW.out;omega)).box.range) Tryz.underlying50 rfl (by kernel_rfl)) sd0 ?_
 simp only[Xs,sB,sS,sZ];refine wpAnyH_all (rs:=[1]) (by kernel_rfl) (by simp) ?_
 intro j hj;simp only[mC,nM,or_false]at hj;subst hj;refine wpOp_does (Xa 40) (fun v w'=>∃V2:MaV,v= Xi #[O V2.f.a V2.f.n V2.f.c,Xe Xf m.hand,O V2.s.a V2.s.n V2.s.c,O V2.sb.a V2.sb.n V2.sb.c,O V2.sq.a V2.sq.n V2.sq.c,O V2.db.a V2.db.n V2.db.c,O V2.dq.a V2.dq.n V2.dq.c,O V2.fl.a V2.fl.n V2.fl.c,Xe Xf m.cnt,O V2.ca.a V2.ca.n V2.ca.c,O V2.sp.a V2.sp.n V2.sp.c]/\OwnM (W6.drew).heap.size w' V2 m/\Grew (W6.drew) w') rfl rfl rfl (Does.call [Xi #[O V.f.a V.f.n V.f.c,Xe Xf m.hand,O V.s.a V.s.n V.s.c,O V.sb.a V.sb.n V.sb.c,O V.sq.a V.sq.n V.sq.c,O V.db.a V.db.n V.db.c,O V.dq.a V.dq.n V.dq.c,O V.fl.a V.fl.n V.fl.c,Xe Xf m.cnt,O V.ca.a V.ca.n V.ca.c,O V.sp.a V.sp.n V.sp.c]] rfl Tryz.func23 rfl rfl rfl ((ownM_any V m (W6.drew) (HM.out.grew sd0.2)).mono ?_)) ?_
 ·rintro e w'' ⟨V2,rfl,h1,h2⟩;exact⟨_,rfl,V2,rfl,h1,h2⟩
 rintro v WN3 ⟨V2,rfl,wN3,gN3⟩;have hbs:b+3< (W6.drew).heap.size:=Xt HBW6.out sd0.1.size;have sN3:OutD (fun k=>k=b+2\/k=b+3) W6 WN3/\Grew w WN3:=⟨sd0.1.trans (OutD.grew gN3),sd0.2.trans gN3⟩
 have zN3:=z0.grew gN3;have aN3:=a0.grew gN3;have HZN3:∀v∈chL V2 m,v.oneCell'=Xc:=by simp[chL,Value.oneCell']
 refine⟨sN3,?_⟩;simp only[Xs,sB,sS,sZ];refine wpAnyH_all (rs:=[3]) (by kernel_rfl) (by simp) ?_
 intro j hj;simp only[mC,nM,or_false]at hj;subst hj;refine wpOp_does Xb (fun v w'=>BoxT w' (b+2) 42 (chL V2 m)/\(WN3).grownBy w' (Xa (b+2))) rfl rfl rfl (Does.storeAllT 42 (.tmp 4) (.tmp 40) rfl (b+2) rfl (chL V2 m) rfl zN3 rfl (by kernel_rfl) HZN3 (fun w' b' g' s'=>⟨b',g'⟩)) ?_
 rintro v WN4 ⟨bN4,gN4⟩;have sN4:OutD (fun k=>k=b+2\/k=b+3) W6 WN4/\Grew w WN4:=⟨sN3.1.trans (OutD.grown gN4 (.inl rfl)),grew_grown sN3.2 gN4 (by have:=HB.out;omega)⟩
 have oN4:=aN3.beside gN4 (fun k e=>by cases e;omega)
 have wN4:=wN3.below gN4 (by have:=hbs;omega) (nR _)
 refine⟨sN4,?_⟩;simp only[Xs];refine wpAnyH_all (rs:=[4]) (by kernel_rfl) (by simp) ?_
 intro j hj;simp only[mC,nM,or_false]at hj;subst hj;refine wpOp_does Xb (fun v w'=>BoxT w' (b+3) 50 ([Xe Xf er,Xe Xf n,O sd.a sd.n sd.c])/\(WN4).grownBy w' (Xa (b+3))) rfl rfl rfl (Does.storeAllT 50 (.tmp 5) (.tmp 41) rfl (b+3) rfl ([Xe Xf er,Xe Xf n,O sd.a sd.n sd.c]) rfl oN4 rfl (by kernel_rfl) (by simp[Value.oneCell']) (fun w' b' g' s'=>⟨b',g'⟩)) ?_
 rintro v WN5 ⟨bN5,gN5⟩;have sN5:OutD (fun k=>k=b+2\/k=b+3) W6 WN5/\Grew w WN5:=⟨sN4.1.trans (OutD.grown gN5 (.inr rfl)),grew_grown sN4.2 gN5 (by have:=HB.out;omega)⟩
 have oN5:=bN4.beside gN5 (fun k e=>by cases e;omega)
 have wN5:=wN4.below gN5 (by have:=hbs;omega) (nR _)
 refine⟨sN5,?_⟩;simp only[Xs];refine wpAnyH_done (by kernel_rfl) ?_ _
 have B9:Xo (BoxT WN5 (b+2) 42 (chL V2 m)):=oN5;have A9:Xo (BoxT WN5 (b+3) 50 [Xe Xf er,Xe Xf n,O sd.a sd.n sd.c]):=bN5;have O9:OutD (Aft W3 W4 W4) W5 WN5:=(OutD.grew G56.out).trans (sN5.1.wide fun k hk=> .inl (by have:=HBW.out;rcases hk with hk | hk <;> omega))
 have HFIN:Xo (Did m K w (Xl (Xm #[Xi #[O V2.f.a V2.f.n V2.f.c,Xe Xf m.hand,O V2.s.a V2.s.n V2.s.c,O V2.sb.a V2.sb.n V2.sb.c,O V2.sq.a V2.sq.n V2.sq.c,O V2.db.a V2.db.n V2.db.c,O V2.dq.a V2.dq.n V2.dq.c,O V2.fl.a V2.fl.n V2.fl.c,Xe Xf m.cnt,O V2.ca.a V2.ca.n V2.ca.c,O V2.sp.a V2.sp.n V2.sp.c],ansV er n sd])) WN5/\Grew w WN5):=show _/\_ from⟨⟨er,n,sd,l,m',m,V2,rfl,HK.out,.inr ⟨HE.out,rfl⟩,fun W hW=>⟨(wN5).doneD (nR _) (hW.wide fun k hk=>Xt hk (bS sd0.2)),HR6.out W (O9.trans (hW.wide fun k hk=> .inl (Xt hk (bS G3.out))))⟩⟩,sN5.2⟩
 go_wp2;refine bodyPost_ret (ret_cells2 rfl _ rfl rfl B9.out.box A9.out.box Tryz.underlying42 rfl (by kernel_rfl) Tryz.underlying50 rfl (by kernel_rfl)) rfl HFIN.out
theorem entersOf:Enters Tryz.prog 73:=enters_of Tryz.func73 (by kernel_rfl) rfl
theorem works_fork (w:Xn) (m:Ma) (c:Cl) (hk:c.kind=6) (h0:maW m=0) (h4:m.sp.length<=4):Works w m c (KProc m c.proc (KFork m c.proc)):=by
 intro w0 W p V1 v hg h hv;obtain⟨g,rfl,hb⟩:=hv.2.2.2.2.2.1 hk;exact⟨73,#[Xj (Xa ⟨g,0,Xb⟩)],rfl,entersOf,ofProc_any h c g 40 _ (enters_of Tryz.func40 (by kernel_rfl) rfl) hb fun W' hW _=>(kfork_any (h.grew hW) h0 h4 c).mono fun e w' k=>k.more h.lo (h.dlt p (.inl rfl)) (bS (h.gr.trans hW))⟩
theorem works_exit (w:Xn) (m:Ma) (c:Cl) (hk:c.kind=7) (h0:maW m=0):Works w m c (KProc m c.proc (KExit m c.proc)):=by
 intro w0 W p V1 v hg h hv;obtain⟨g,rfl,hb⟩:=hv.2.2.2.2.2.2.1 hk;exact⟨73,#[Xj (Xa ⟨g,0,Xb⟩)],rfl,entersOf,ofProc_any h c g 41 _ (enters_of Tryz.func41 (by kernel_rfl) rfl) hb fun W' hW _=>(kexit_any (h.grew hW) h0 c).mono fun e w' k=>k.more h.lo (h.dlt p (.inl rfl)) (bS (h.gr.trans hW))⟩
theorem works_load (w:Xn) (m:Ma) (c:Cl) (BF:Nat->Nat->Ar->Pg->Bool->Bool × Nat × Ma) (hk:c.kind=4) (hb1:-9223372036854775808<=c.pt) (hb2:c.pt<=9223372036854775807) (hb3:-9223372036854775808<=c.n) (hb4:c.n<=9223372036854775807)
  (hU:∀(V1:MaV) (W:Xn),MachAt W V1 m->Xp Tryz.prog 140 #[Xi #[O V1.f.a V1.f.n V1.f.c,Xe Xf m.hand,O V1.s.a V1.s.n V1.s.c,O V1.sb.a V1.sb.n V1.sb.c,O V1.sq.a V1.sq.n V1.sq.c,O V1.db.a V1.db.n V1.db.c,O V1.dq.a V1.dq.n V1.dq.c,O V1.fl.a V1.fl.n V1.fl.c,Xe Xf m.cnt,O V1.ca.a V1.ca.n V1.ca.c,O V1.sp.a V1.sp.n V1.sp.c],Xe Xf c.proc,Xe Xf (c.pt / 8),Xh Xd] W fun e w'=>((∃er:Int,e= Xl (Xm #[Xi zeroM.toArray,Xe Xf 0,Xe Xf er])/\NotUsed m BF c.proc (c.pt / 8) Xd er)\/(∃(V':MaV) (k pc:Nat) (m':Ma),e= Xl (Xm #[Xi #[O V'.f.a V'.f.n V'.f.c,Xe Xf m'.hand,O V'.s.a V'.s.n V'.s.c,O V'.sb.a V'.sb.n V'.sb.c,O V'.sq.a V'.sq.n V'.sq.c,O V'.db.a V'.db.n V'.db.c,O V'.dq.a V'.dq.n V'.dq.c,O V'.fl.a V'.fl.n V'.fl.c,Xe Xf m'.cnt,O V'.ca.a V'.ca.n V'.ca.c,O V'.sp.a V'.sp.n V'.sp.c],Xe Xf (k:Int),Xe Xf 0])/\Used m BF c.proc (c.pt / 8) Xd k m'/\ChW W pc w' V' m'))/\Grew W w')
  (hI:∀(kk:Nat) (m':Ma),Used m BF c.proc (c.pt / 8) Xd kk m'->∃fr:Fr,m'.fs[kk]? =Xa fr/\(fr.f=-1\/∃(j:Nat) (fl:Fl),fr.f=(j:Int)/\m'.fl[j]? =Xa fl)/\0<=fr.x/\fr.x<1000):Works w m c (KProc m c.proc (KLoad m BF c)):=by
 intro w0 W p V1 v hg h hv;obtain⟨g,rfl,hb⟩:=hv.2.2.2.1 hk;exact⟨73,#[Xj (Xa ⟨g,0,Xb⟩)],rfl,entersOf,ofProc_any h c g 38 _ (enters_of Tryz.func38 (by kernel_rfl) rfl) hb fun W' hW _=>(kload_any (h.grew hW) c BF hb1 hb2 hb3 hb4 (fun W2 hW2=>hU V1 W2 ((h.grew hW).at.grew hW2)) hI).mono fun e w' k=>k.more h.lo (h.dlt p (.inl rfl)) (bS (h.gr.trans hW))⟩
theorem works_store (w:Xn) (m:Ma) (c:Cl) (ns:List Int) (BF:Nat->Nat->Ar->Pg->Bool->Bool × Nat × Ma) (hk:c.kind=5) (hb1:-9223372036854775808<=c.pt) (hb2:c.pt<=9223372036854775807) (hD:RowAt byE w (O c.dv.a c.dv.n c.dv.c) ns) (hb4:(c.dv.n:Int)<=9223372036854775807)
  (hU:∀(V1:MaV) (W:Xn),MachAt W V1 m->Xp Tryz.prog 140 #[Xi #[O V1.f.a V1.f.n V1.f.c,Xe Xf m.hand,O V1.s.a V1.s.n V1.s.c,O V1.sb.a V1.sb.n V1.sb.c,O V1.sq.a V1.sq.n V1.sq.c,O V1.db.a V1.db.n V1.db.c,O V1.dq.a V1.dq.n V1.dq.c,O V1.fl.a V1.fl.n V1.fl.c,Xe Xf m.cnt,O V1.ca.a V1.ca.n V1.ca.c,O V1.sp.a V1.sp.n V1.sp.c],Xe Xf c.proc,Xe Xf (c.pt / 8),Xh Xc] W fun e w'=>((∃er:Int,e= Xl (Xm #[Xi zeroM.toArray,Xe Xf 0,Xe Xf er])/\NotUsed m BF c.proc (c.pt / 8) Xc er)\/(∃(V':MaV) (k pc:Nat) (m':Ma),e= Xl (Xm #[Xi #[O V'.f.a V'.f.n V'.f.c,Xe Xf m'.hand,O V'.s.a V'.s.n V'.s.c,O V'.sb.a V'.sb.n V'.sb.c,O V'.sq.a V'.sq.n V'.sq.c,O V'.db.a V'.db.n V'.db.c,O V'.dq.a V'.dq.n V'.dq.c,O V'.fl.a V'.fl.n V'.fl.c,Xe Xf m'.cnt,O V'.ca.a V'.ca.n V'.ca.c,O V'.sp.a V'.sp.n V'.sp.c],Xe Xf (k:Int),Xe Xf 0])/\Used m BF c.proc (c.pt / 8) Xc k m'/\ChW W pc w' V' m'))/\Grew W w')
  (hI:∀(kk:Nat) (m':Ma),Used m BF c.proc (c.pt / 8) Xc kk m'->∃fr:Fr,m'.fs[kk]? =Xa fr/\(fr.f=-1\/∃(j:Nat) (fl:Fl),fr.f=(j:Int)/\m'.fl[j]? =Xa fl)/\0<=fr.x/\fr.x<1000):Works w m c (KProc m c.proc (KStore m BF c ns)):=by
 intro w0 W p V1 v hg h hv;obtain⟨g,rfl,hb⟩:=hv.2.2.2.2.1 hk;exact⟨73,#[Xj (Xa ⟨g,0,Xb⟩)],rfl,entersOf,ofProc_any h c g 39 _ (enters_of Tryz.func39 (by kernel_rfl) rfl) hb fun W' hW _=>(kstore_any (h.grew hW) c ns BF hb1 hb2 (hD.grew hg) hb4 (fun W2 hW2=>hU V1 W2 ((h.grew hW).at.grew hW2)) hI).mono fun e w' k=>k.more h.lo (h.dlt p (.inl rfl)) (bS (h.gr.trans hW))⟩
def spL:Sp:=⟨Xc,[],none8⟩
def spD:Sp:=⟨Xd,[],none8⟩
def emptyP (sp:List Sp):Ma:={ newMa 0 0 0 with sp:=sp }
theorem pages_none:pagesTo none8 anyEn 64=[]:=by decide
theorem fork_empty (sp:List Sp) (k q:Nat):forkP (emptyP sp) k q spL=emptyP (setK sp k spL):=by
 show shareL (bornM (emptyP sp) k spL) k q (pagesTo none8 anyEn 64)=_
 rw[pages_none];rfl
theorem exit_empty (sp:List Sp) (q:Nat):exitP (emptyP sp) q spL=emptyP (sp.set q spD):=by
 show goneM (dropL (emptyP sp) q (pagesTo none8 anyEn 64)) q=_
 rw[pages_none];rfl
theorem rep_at {n k:Nat} {s:Sp} (h:(Xr n spL)[k]? =Xa s):k<n/\s=spL:=by
 rw[Xu]at h
 split at h
 ·cases h;exact⟨by assumption,rfl⟩
 cases h
theorem rep_live (n:Nat):LiveP (emptyP (Xr (n+1) spL)) 0 0 spL:=⟨rfl,rfl,rfl⟩
theorem vac_rep {n k:Nat} (h:Vac (Xr n spL) k):k=n:=by
 obtain⟨h1,h2,_⟩:=h;rw[lR]at h1
 by_cases e:k<n
 ·have:=h2 spL (by rw[Xu,if_pos e])
  cases this
 omega
theorem proc_fork {i:Nat} (hi:i<3) {er n:Int} {l:List Int} {m':Ma} (h:KProc (emptyP (Xr (i+1) spL)) 0 (KFork (emptyP (Xr (i+1) spL)) 0) er n l m'):er=0/\n=(i:Int)+1/\l=[]/\m'=emptyP (Xr (i+2) spL):=by
 rcases h with⟨_,_,_,hno⟩ | ⟨_,hl,⟨_,_,hno⟩ | ⟨_,_,q,s,_,hv⟩ | ⟨he,q,s,k,hq,hv,hk,hn,hm⟩⟩
 ·exact absurd (rep_live i) (hno 0 spL)
 ·exact absurd (rep_live i) (hno 0 spL)
 ·have:=vac_rep hv;omega
 have e:=vac_rep hv;subst e;obtain⟨_,e⟩:=rep_at hq.2.1;subst e;refine⟨he,by omega,hl,?_⟩
 rw[hm,fork_empty]
 congr 1
 unfold setK;rw[if_pos (by simp),<-List.replicate_succ']
theorem proc_full {er n:Int} {l:List Int} {m':Ma} (h:KProc (emptyP (Xr 4 spL)) 0 (KFork (emptyP (Xr 4 spL)) 0) er n l m'):er=4:=by
 rcases h with⟨_,_,_,hno⟩ | ⟨_,hl,⟨_,_,hno⟩ | ⟨he,_⟩ | ⟨he,q,s,k,hq,hv,hk,hn,hm⟩⟩
 ·exact absurd (rep_live 3) (hno 0 spL)
 ·exact absurd (rep_live 3) (hno 0 spL)
 ·exact he
 have:=vac_rep hv;omega
theorem proc_exit {g:Nat} (hg:g<4) {er n:Int} {l:List Int} {m':Ma} (h:KProc (emptyP (Xr 4 spL)) (g:Int) (KExit (emptyP (Xr 4 spL)) (g:Int)) er n l m'):er=0/\m'=emptyP ((Xr 4 spL).set g spD):=by
 have hlv:LiveP (emptyP (Xr 4 spL)) (g:Int) g spL:=⟨rfl,show(Xr 4 spL)[g]? =_ by rw[Xu,if_pos hg],rfl⟩
 rcases h with⟨_,_,_,hno⟩ | ⟨_,hl,hn,⟨_,hno⟩ | ⟨he,q,s,hq,hm⟩⟩
 ·exact absurd hlv (hno g spL)
 ·exact absurd hlv (hno g spL)
 obtain⟨e1,e2,e3⟩:=hq;have e:q=g:=by omega
 subst e;obtain⟨_,e⟩:=rep_at e2;subst e;exact⟨he,by rw[hm,exit_empty]⟩
theorem proc_back {g:Nat} (h1:1<=g) (hg:g<4) {er n:Int} {l:List Int} {m':Ma} (h:KProc (emptyP ((Xr 4 spL).set g spD)) 0 (KFork (emptyP ((Xr 4 spL).set g spD)) 0) er n l m'):er=0/\n=(g:Int):=by
 have hat:∀k,k<4->k≠g->((Xr 4 spL).set g spD)[k]? =Xa spL:=fun k hk e=>by
  rw[sN (fun h=>e h.symm),Xu,if_pos hk]
 have hlv:LiveP (emptyP ((Xr 4 spL).set g spD)) 0 0 spL:=⟨rfl,hat 0 (by omega) (by omega),rfl⟩
 have vac:∀k,Vac ((Xr 4 spL).set g spD) k->k=g:=fun k hv=>by
  obtain⟨v1,v2,v3⟩:=hv
  rcases Nat.lt_trichotomy k g with e | e | e
  ·have:=v2 spL (hat k (by omega) (by omega))
   cases this
  ·exact e
  have:=v3 g spD e (sF (by simpa using hg))
  cases this
 rcases h with⟨_,_,_,hno⟩ | ⟨_,hl,⟨_,_,hno⟩ | ⟨_,_,q,s,_,hv⟩ | ⟨he,q,s,k,hq,hv,hk,hn,hm⟩⟩
 ·exact absurd hlv (hno 0 spL)
 ·exact absurd hlv (hno 0 spL)
 ·have:=vac 4 hv;omega
 have:=vac k hv;exact⟨he,by omega⟩
theorem right_rep {n:Nat} (h:n<4):maW (emptyP (Xr (n+1) spL))=0:=by
 rcases(show n=0\/n=1\/n=2\/n=3 by omega)with rfl | rfl | rfl | rfl <;> decide
theorem right_gone {g:Nat} (h:g<4):maW (emptyP ((Xr 4 spL).set g spD))=0:=by
 rcases(show g=0\/g=1\/g=2\/g=3 by omega)with rfl | rfl | rfl | rfl <;> decide
theorem drop_stay {m:Ma} {p n k:Nat} {s:Sp} {fr:Fr} (h:Rt m) (hs:m.sp[p]? =Xa s) (hn:n<64) (hk:m.fs[k]? =Xa fr) (hr:fr.r=0):(dropM m p n).fs[k]? =Xa fr:=by
 have hd:m.sp.getD p ⟨Xd,[],[]⟩=s:=by rw[gD,hs];rfl
 unfold dropM;simp only[hd]
 by_cases h1:(flatN s n).kind=1
 ·rw[if_pos h1];obtain⟨j,fj,e1,e2,e3,e4⟩:=h.present hs hn h1
  show(m.fs.set _ _)[k]? =_
  rw[e1,tN,sN,hk];intro e;subst e;rw[hk]at e2;cases e2;exact e4 hr
 rw[if_neg h1]
 by_cases h2:(flatN s n).kind=2
 ·rw[if_pos h2];exact hk
 rw[if_neg h2];exact hk
theorem dropAll_stay:∀(l:List (Nat × Nat)) {m:Ma} {k:Nat} {fr:Fr},Rt m->(∀x∈l,x.2<64/\∃s,m.sp[x.1]? =Xa s)->m.fs[k]? =Xa fr->fr.r=0->(dropAll m l).fs[k]? =Xa fr
 | [],_,_,_,_,_,hk,_=>hk
 | x :: l,m,k,fr,h,hl,hk,hr=>by
  obtain⟨hn,s,hs⟩:=hl x (Xz ..);obtain⟨g1,_⟩:=drop_goes h hs hn;refine dropAll_stay l g1.rt (fun y hy=>?_) (drop_stay h hs hn hk hr) hr
  obtain⟨a1,t,a2⟩:=hl y (Xy _ hy);exact⟨a1,_,gE (by rw[g1.sam.spl];exact(gS.1 a2).1)⟩
theorem dropAll_room {m:Ma} {k:Nat} {fr:Fr} (l:List (Nat × Nat)) (h:Rt m) (hl:∀x∈l,x.2<64/\∃s,m.sp[x.1]? =Xa s) (hk:m.fs[k]? =Xa fr) (hr:fr.r=0):freeN (dropAll m l).fs≠0:=by
 have h1:=mG (dropAll_stay l h hl hk hr);have h2:0<freeN (dropAll m l).fs:=List.countP_pos_iff.2 ⟨fr,h1,by simpa using hr⟩
 omega
def chF (f g:Nat->On) (s e:Nat):Nat->On:=fun j=>if s<=j/\j<e then g j else f j
theorem chF_zero (f g:Nat->On) (s:Nat):chF f g s s=f:=by
 funext j
 unfold chF;rw[if_neg (by omega)]
theorem chF_at (f g:Nat->On) (s k:Nat):partF (chF f g s k) k=partF f k:=by
 unfold partF chF;rw[if_neg (by omega)]
theorem chF_step (f g:Nat->On) {s k:Nat} (h:s<=k):upd (partF (chF f g s k)) k (arOf k (g k))=partF (chF f g s (k+1)):=by
 funext j
 unfold upd partF chF
 by_cases e:j=k
 ·subst e;rw[if_pos rfl,if_pos (by omega)]
 rw[if_neg e]
 congr 1
 by_cases h:s<=j/\j<k
 ·rw[if_pos h,if_pos (by omega)]
 rw[if_neg h,if_neg (by omega)]
theorem changed_any (v:Xq) (l:List Ar) (s n:Nat) (F:Nat) (caps:Array Xq) (g:Nat->On) (w:Xn) (hv:RowAt arE w v l) (hok:CanP Xb l) (hsn:s<=n) (hn:n<=64) (hgd:Good (chF (onAt l) g s n)) (eg:Enters Tryz.prog F)
  (hcall:∀W (k:Nat),Grew w W->s<=k->k<n->Xp Tryz.prog F (#[Xe Xf (k:Int),arA (partF (onAt l) k)]++caps) W fun e w'=>e= Xl (arA (arOf k (g k)))/\Grew W w'):
  Xp Tryz.prog 130 #[v,Xe Xf (s:Int),Xe Xf (n:Int),.func (.func F) #[] caps] w fun e w'=>(∃u,e= Xl (Xm #[u,Xe Xf (fewL (chF (onAt l) g s n)).2])/\OwnRow arE w.heap.size w' u (fewL (chF (onAt l) g s n)).1)/\Grew w w':=by
 have HPA:=parted_any v l w hv hok;have HJO:Xo (∀W,Xp Tryz.prog 171 #[Xi (cellsA (tab (partF (chF (onAt l) g s n)))).toArray] W fun e w'=>(∃v,e= Xl v/\OwnRow arE (W.heap.size+1) w' v (joinL (chF (onAt l) g s n)))/\Grew W w'):=fun W=>joined_any _ W hgd
 have HCA:Xo _:=hcall;have EG:Xo (∀(args:Array Xq) (w:Xn),(callFunc F args).run Tryz.prog w= .ok (.enter F args) w):=eg;have HFW:Xo (¬16< (joinL (chF (onAt l) g s n)).length->fewL (chF (onAt l) g s n)=(joinL (chF (onAt l) g s n),0)):=fun h=>by unfold fewL;rw[if_neg h]
 have HFM:Xo (16< (joinL (chF (onAt l) g s n)).length->fewL (chF (onAt l) g s n)=([],4)):=fun h=>by unfold fewL;rw[if_pos h]
 have HJS:Xo ((joinL (chF (onAt l) g s n)).length<=64):=(joinL_J hgd).len;have HZF:Xo (partF (onAt l)=partF (chF (onAt l) g s s)):=show _=_ by rw[chF_zero]
 clear hv hok hgd hcall eg;obtain⟨FW,HFE⟩:∃FW,Xo (fewL (chF (onAt l) g s n)=FW):=⟨_,rfl⟩;simp only[HFE.out]at HFW HFM⊢;obtain⟨JL,HJL⟩:∃JL,Xo (joinL (chF (onAt l) g s n)=JL):=⟨_,rfl⟩;simp only[HJL.out]at HFW HFM HJS HJO;clear HFE HJL;have hz:=run_zeroA;obtain⟨Z0,HZ0⟩:∃Z0,Xo (cellsA (tab fun _=>ar0)=Z0):=⟨_,rfl⟩
 rw[HZ0.out]at hz;have HZL:Xo (Z0.length=448):=show _=_ by rw[<-HZ0.out,tabA_len]
 have HPL:Xo ((cellsA (tab (partF (onAt l)))).length=448):=tabA_len _;have HPO:Xo (∀v∈cellsA (tab (partF (onAt l))),v.oneCell'=Xc):=cellsA_one _
 go_enter Tryz.func130,Tryz.ntmps130
 go_wp2_with fail;refine HPA.mono ?_;rintro e W1 ⟨rfl,g1⟩;have G1:Xo (Grew w W1):=g1;clear g1 HPA;obtain⟨p,HP⟩:∃p,Xo (W1.heap.size=p):=⟨_,rfl⟩;have HLP:Xo (w.heap.size<=p):=show _<=_ by rw[<-HP.out];exact bS G1.out
 go_upto_region 2 with(refine wp_storeAll rfl 232 (.tmp 10) (.tmp 14) rfl W1.heap.size rfl (cellsA (tab (partF (onAt l)))) rfl (Box.top W1 Z0 232 rfl) (by rw[HPL.out,HZL.out]) (by rw[HZL.out];exact Tryz.sizePgs) HPO.out ?_)
 intro W2 b2 g2 s2;rw[HP.out]at b2 g2⊢;have G2:Xo (Grew w W2):=grew_grown (G1.out.trans (grew_alloc _ _)) g2 HLP.out;have L2:Xo (Box W2 p (cellsA (tab (partF (chF (onAt l) g s s))))):=show Box _ _ _ by rw[<-HZF.out];exact b2
 clear b2 g2 s2 hz;go_wp2
 go_loopg [11] (n - s) (fun gg s11 wr=>∃kk:Nat,s<=kk/\kk<=n/\n - kk<=gg/\s11= Xe Xf kk/\Xo (Grew w wr)/\Xo (Box wr p (cellsA (tab (partF (chF (onAt l) g s kk))))))
 case atStart=>exact⟨s,nR _,hsn,by omega,rfl,G2.out,L2.out⟩
 obtain⟨kk,hk0,hkk,hg,rfl,BW,LW⟩:=hrel
 by_cases hlt:kk<n
 ·have hltz:(kk:Int)< (n:Int):=by omega
  have h64:kk<64:=by omega
  have h64z:(kk:Int)<64:=by omega
  have HV:Xo (arA (partF (chF (onAt l) g s kk) kk)=arA (partF (onAt l) kk)):=show _=_ by rw[chF_at]
  have HST:Xo (upd (partF (chF (onAt l) g s kk)) kk (arOf kk (g kk))=partF (chF (onAt l) g s (kk+1))):=chF_step _ _ hk0
  go_wp2_with (refine wp_loadArv rfl (.tmp 25) rfl p kk h64 rfl LW.out HV.out ?_)
  rw[EG.out];refine(HCA.out wr kk BW.out hk0 hlt).mono ?_;rintro e W3 ⟨rfl,g3⟩;have G3:=dD (BW.out.trans g3);have L3:=dD (LW.out.grew g3);clear g3
  go_wp2_with (refine wp_storeAr rfl (.tmp 28) (.tmp 27) rfl p kk h64 rfl (arOf kk (g kk)) rfl L3.out ?_)
  intro W4 b4 g4 s4;have L4:Xo (Box W4 p (cellsA (tab (partF (chF (onAt l) g s (kk+1)))))):=show Box _ _ _ by rw[<-HST.out];exact b4
  have G4:Xo (Grew w W4):=grew_grown G3.out g4 HLP.out;clear b4 g4 s4;go_wp2
  go_roundg (n -(kk+1))
  case measure=>omega
  exact⟨kk+1,by omega,by omega,by omega,by go_num,G4.out,L4.out⟩
 have hltz:¬(kk:Int)< (n:Int):=by omega
 have:kk=n:=by omega
 subst this;have HCL:Xo ((cellsA (tab (partF (chF (onAt l) g s kk)))).length=448):=tabA_len _
 go_wp2_with (refine wp_loadAll rfl 232 (.tmp 10) rfl p rfl LW.out Tryz.underlying232 rfl (by rw[HCL.out];exact Tryz.sizePgs) ?_)
 refine(HJO.out wr).mono ?_;rintro e W5 ⟨⟨u,rfl,ow5⟩,g5⟩;obtain⟨xa,xc,rfl⟩:=ow5.form;have G5:=dD (BW.out.trans g5);have O5:Xo (OwnRow arE w.heap.size W5 (O xa JL.length xc) JL):=ow5.base (nT (bS BW.out) (Nat.le_succ _));clear g5 ow5;obtain⟨m,HM⟩:∃m,Xo (JL.length=m):=⟨_,rfl⟩;rw[HM.out]at HFW HFM HJS O5⊢;have hm64:m<=64:=HJS.out
 by_cases hmany:16<m
 ·have hmz:(16:Int)< (m:Int):=by omega
  have HR:Xo (FW=([],4)):=HFM.out hmany;go_wp2;refine bodyPost_ret (v:= Xm #[O Xb 0 0,Xe Xf 4]) (by simp[results,Tryz.results130]) rfl ?_
  rw[HR.out];exact⟨⟨_,rfl,OwnRow.nil _ _ _⟩,G5.out⟩
 have hmz:¬(16:Int)< (m:Int):=by omega
 have HR:Xo (FW=(JL,0)):=HFW.out hmany;go_wp2;refine bodyPost_ret (v:= Xm #[O xa m xc,Xe Xf 0]) (by simp[results,Tryz.results130]) rfl ?_
 rw[HR.out];exact⟨⟨_,rfl,O5.out⟩,G5.out⟩
theorem mapC_any (a q:Ar) (k pa:Nat) (w:Xn) (hb:Box w pa [Xe Xf a.fr,Xe Xf a.tz,Xh a.rd,Xh a.wr,Xh a.sh,Xe Xf a.file,Xe Xf a.base]) (ha:ArOk a) (hk:k<64):
  Xp Tryz.prog 131 #[Xe Xf (k:Int),Xi #[Xe Xf q.fr,Xe Xf q.tz,Xh q.rd,Xh q.wr,Xh q.sh,Xe Xf q.file,Xe Xf q.base],Xj (Xa ⟨pa,0,Xb⟩)] w fun e w'=>e= Xl (arA (arOf k (oneOf a k)))/\Grew w w':=by
 have HO:∀W,Xp Tryz.prog 132 #[Xi #[Xe Xf a.fr,Xe Xf a.tz,Xh a.rd,Xh a.wr,Xh a.sh,Xe Xf a.file,Xe Xf a.base],Xe Xf (k:Int)] W fun e w'=>e= Xl (arA (arOf k (oneOf a k)))/\Grew W w':=fun W=>only_any a k W ha hk
 obtain⟨x,hx⟩:∃x,arOf k (oneOf a k)=x:=⟨_,rfl⟩;simp only[hx]at HO⊢;clear hx ha hk;obtain⟨W0,hW0⟩:∃W0,(w.alloc (Xk #[Xe Xf q.fr,Xe Xf q.tz,Xh q.rd,Xh q.wr,Xh q.sh,Xe Xf q.file,Xe Xf q.base] 125)).alloc (Xk #[Xe Xf 0,Xe Xf 0,Xh Xd,Xh Xd,Xh Xd,Xe Xf 0,Xe Xf 0] 125)=W0:=⟨_,rfl⟩;have HG0:=gD2 hW0
 have X0:Xo (Box W0 pa [Xe Xf a.fr,Xe Xf a.tz,Xh a.rd,Xh a.wr,Xh a.sh,Xe Xf a.file,Xe Xf a.base]):=show Box _ _ _ by rw[<-hW0];exact(hb.alloc _).alloc _
 have Y0:=x2b hW0
 have HW0:Xo (_=W0):=hW0;clear hW0 hb
 go_enter Tryz.func131,Tryz.ntmps131
 go_upto_region 1 with fail;rw[HW0.out]
 go_wp2_with (refine wp_loadAll rfl 125 (.tmp 2) rfl pa rfl X0.out Tryz.underlying125 rfl Tryz.sizeArea ?_)
 refine(HO _).mono ?_;rintro e W1 ⟨rfl,g1⟩;have G1:=dD (HG0.out.trans g1);have Y1:=dD (Y0.out.grew g1);clear g1 HO
 go_wp2_with (refine wp_storeAll rfl 125 (.tmp 5) (.tmp 8) rfl (w.heap.size+1) rfl (arv x) rfl Y1.out rfl Tryz.sizeArea (arE.one x) ?_)
 intro W2 b2 g2 s2;have G2:Xo (Grew w W2):=grew_grown G1.out g2 (by simp)
 have B2:Xo (Box W2 (w.heap.size+1) (arv x)):=b2;clear b2 g2 s2;go_wp2;refine bodyPost_ret (ret_cell rfl _ rfl B2.out Tryz.underlying125 rfl Tryz.sizeArea) rfl ⟨rfl,G2.out⟩
theorem field_err (x y:Int) (w:Xn):(Instr.field 186 (Xi #[Xe Xf x,Xe Xf y]) 0).run Tryz.prog w= .ok (Xe Xf x) w:=by
 simp only[Instr.field,Xw,run_underlying Tryz.underlying186,rA,asAgg];exact run_part_plain w (by simp[Program.plainKey,Tryz.underlying44]) rfl
theorem ch_map (l:List Ar) {a:Ar} (ha:ArOk a):chF (onAt l) (oneOf a) a.fr.toNat a.tz.toNat=mapF l a:=by
 unfold ArOk at ha
 funext j
 unfold chF mapF
 by_cases h:arIn a j=Xc
 ·have:=arIn_iff.1 h;rw[if_pos h,if_pos (by omega)]
 have h1:¬(a.fr<=(j:Int)/\(j:Int)<a.tz):=fun h2=>h (arIn_iff.2 h2)
 rw[if_neg h,if_neg (by omega)]
def Gives (R:List Ar × Int) (w:Xn) (e:Ending) (w':Xn):Prop:=(∃u,e= Xl (Xm #[u,Xe Xf R.2])/\OwnRow arE w.heap.size w' u R.1)/\Grew w w'
theorem mapCh {l:List Ar} {a:Ar} {v:Xq} {w W:Xn} {pa:Nat} (hv:RowAt arE w v l) (hl:CanP Xb l) (ha:ArOk a) (hW:Grew w W) (hb:Box W pa [Xe Xf a.fr,Xe Xf a.tz,Xh a.rd,Xh a.wr,Xh a.sh,Xe Xf a.file,Xe Xf a.base]):
  Xp Tryz.prog 130 #[v,Xe Xf a.fr,Xe Xf a.tz,.func (.func 131) #[] #[Xj (Xa ⟨pa,0,Xb⟩)]] W fun e w'=>(∃u,e= Xl (Xm #[u,Xe Xf (fewL (mapF l a)).2])/\OwnRow arE W.heap.size w' u (fewL (mapF l a)).1)/\Grew W w':=by
 have ha':=ha;unfold ArOk at ha';have h:=changed_any v l a.fr.toNat a.tz.toNat 131 #[Xj (Xa ⟨pa,0,Xb⟩)] (oneOf a) W (hv.grew hW) hl (by omega) (by omega) (by rw[ch_map l ha];exact mapF_good hl ha) (enters_of Tryz.func131 (by kernel_rfl) rfl) (fun W' k h1 h2 h3=>mapC_any a (partF (onAt l) k) k pa W' (hb.grew h1) ha (by omega))
 rw[ch_map l ha,show((a.fr.toNat:Nat):Int)=a.fr by omega,show((a.tz.toNat:Nat):Int)=a.tz by omega]at h
 exact h
theorem map_any (v:Xq) (l:List Ar) (a:Ar) (w:Xn) (hv:RowAt arE w v l):
  Xp Tryz.prog 76 #[v,Xi #[Xe Xf a.fr,Xe Xf a.tz,Xh a.rd,Xh a.wr,Xh a.sh,Xe Xf a.file,Xe Xf a.base]] w (Gives (mapA l a) w):=by
 have HV:Xo (RowAt arE w v l):=hv;have hfe:=field_err;have hmf:∀(fn:Fn) (first cap:Array Xq) (w:Xn),(Instr.makeFunc fn first cap).run Tryz.prog w= .ok (.func fn first cap) w:=fun _ _ _ _=>rfl
 have HW:Xo (∀W,Grew w W->Xp Tryz.prog 117 #[v] W fun e w'=>e= Xl (Xi #[Xe Xf (wrL l).1,Xe Xf (wrL l).2])/\Grew W w'):=fun W hW=>wrongAr_any v l W (HV.out.grew hW)
 have HWA:Xo (∀W,Xp Tryz.prog 129 #[Xi #[Xe Xf a.fr,Xe Xf a.tz,Xh a.rd,Xh a.wr,Xh a.sh,Xe Xf a.file,Xe Xf a.base]] W fun e w'=>e= Xl (Xe Xf (arW a))/\Grew W w'):=fun W=>wrongArea_any a W
 clear hv;obtain⟨W0,hW0⟩:∃W0,w.alloc (Xk #[Xe Xf a.fr,Xe Xf a.tz,Xh a.rd,Xh a.wr,Xh a.sh,Xe Xf a.file,Xe Xf a.base] 125)=W0:=⟨_,rfl⟩;have HG0:=gA hW0
 have X0:=xA hW0
 have HW0:Xo (_=W0):=hW0;clear hW0
 by_cases hz:(wrL l).1=0
 ·rw[hz]at HW
  generalize(wrL l).2=I at HW
  by_cases hza:arW a=0
  ·rw[hza]at HWA;have HL:Xo (l.length<=16/\CanP Xb l):=wrL_zero.1 hz;have HA:Xo (ArOk a):=arW_zero.1 hza;obtain⟨s,n,hs,he,hsn,hn1⟩:∃s n:Nat,(s:Int)=a.fr/\(s:Int)+(n:Int)=a.tz/\s+n<=64/\1<=n:=⟨a.fr.toNat,a.tz.toNat - a.fr.toNat,by have:=HA.out;unfold ArOk at this;omega⟩
   have HT:Xo (∀W,Grew w W->Xp Tryz.prog 128 #[v,Xe Xf a.fr,Xe Xf a.tz] W fun e w'=>e= Xl (Xe Xf (countA l s n:Int))/\Grew W w'):=fun W hW=>by
    have:=taken_any v l s n W (HV.out.grew hW) hsn;rw[he,hs]at this;exact this
   have hch:=count_hit (l:=l) hsn;rw[hs,show(n:Int)=a.tz - a.fr by omega]at hch
   have hc64:=countA_le l s n;have HC:Xo (∀W,Grew w W->Box W w.heap.size [Xe Xf a.fr,Xe Xf a.tz,Xh a.rd,Xh a.wr,Xh a.sh,Xe Xf a.file,Xe Xf a.base]->Xp Tryz.prog 130 #[v,Xe Xf a.fr,Xe Xf a.tz,.func (.func 131) #[] #[Xj (Xa ⟨w.heap.size,0,Xb⟩)]] W fun e w'=>(∃u,e= Xl (Xm #[u,Xe Xf (fewL (mapF l a)).2])/\OwnRow arE W.heap.size w' u (fewL (mapF l a)).1)/\Grew W w'):=fun W hW hb=>mapCh HV.out HL.out.2 HA.out hW hb
   have HR:Xo (mapA l a=if hitB l a.fr (a.tz - a.fr)=Xc then([],6)else fewL (mapF l a)):=show _=_ by unfold mapA;rw[if_neg (fun h=>h hz),if_neg (fun h=>h hza)]
   clear hz hza hs he hsn hn1
   go_enter Tryz.func76,Tryz.ntmps76
   go_upto_region 1 with fail;rw[HW0.out];go_wp2_with fail;refine(HW.out W0 HG0.out).mono ?_;rintro e W1 ⟨rfl,g1⟩;have G1:=dD (HG0.out.trans g1);have X1:=dD (X0.out.grew g1);clear g1
   go_wp2_with (refine wp_loadAll rfl 125 (.tmp 3) rfl w.heap.size rfl X1.out Tryz.underlying125 rfl Tryz.sizeArea ?_)
   refine(HWA.out W1).mono ?_;rintro e W2 ⟨rfl,g2⟩;have G2:=dD (G1.out.trans g2);have X2:=dD (X1.out.grew g2);clear g2;have x0:=X2.out.c 0 rfl;have x1:=X2.out.c 1 rfl;go_wp2_with fail;refine(HT.out W2 G2.out).mono ?_;rintro e W3 ⟨rfl,g3⟩;have G3:=dD (G2.out.trans g3);have X3:=dD (X2.out.grew g3);clear g3 x0 x1
   cases hh:hitB l a.fr (a.tz - a.fr)with
   | true=>
    have hcp:(0:Int)< (countA l s n:Int):=by
     have:countA l s n≠0:=fun h=>by rw[hch.1 h]at hh;cases hh
     omega
    have HE:Xo (mapA l a=([],6)):=show _=_ by rw[HR.out,hh,if_pos rfl]
    clear hh hch hc64
    generalize countA l s n=C at hcp
    go_wp2;refine bodyPost_ret (results_tmp2 rfl _ _ _) rfl ?_;rw[HE.out];exact⟨⟨_,rfl,OwnRow.nil _ _ _⟩,G3.out⟩
   | false=>
    have hc0:countA l s n=0:=hch.2 hh;have hcp:¬(0:Int)< (countA l s n:Int):=by omega
    have HE:Xo (mapA l a=fewL (mapF l a)):=show _=_ by rw[HR.out,hh,if_neg (by decide)]
    clear hh hch hc64 hc0
    generalize countA l s n=C at hcp
    have x0:=X3.out.c 0 rfl;have x1:=X3.out.c 1 rfl;go_wp2_with fail;refine(HC.out W3 G3.out X3.out).mono ?_;rintro e W4 ⟨⟨u,rfl,ow⟩,g4⟩;have G4:=dD (G3.out.trans g4);have O4:Xo (OwnRow arE w.heap.size W4 u (fewL (mapF l a)).1):=ow.base (bS G3.out);clear g4 ow x0 x1;go_wp2;refine bodyPost_ret (results_tmp2 rfl _ _ _) rfl ?_;rw[HE.out];exact⟨⟨_,rfl,O4.out⟩,G4.out⟩
  have hzb:(arW a != 0)=Xc:=by simp[hza]
  have HR:Xo (mapA l a=([],arW a)):=show _=_ by unfold mapA;rw[if_neg (fun h=>h hz),if_pos hza]
  clear hz hza
  generalize arW a=E at*
  go_enter Tryz.func76,Tryz.ntmps76
  go_upto_region 1 with fail;rw[HW0.out];go_wp2_with fail;refine(HW.out W0 HG0.out).mono ?_;rintro e W1 ⟨rfl,g1⟩;have G1:=dD (HG0.out.trans g1);have X1:=dD (X0.out.grew g1);clear g1
  go_wp2_with (refine wp_loadAll rfl 125 (.tmp 3) rfl w.heap.size rfl X1.out Tryz.underlying125 rfl Tryz.sizeArea ?_)
  refine(HWA.out W1).mono ?_;rintro e W2 ⟨rfl,g2⟩;have G2:=dD (G1.out.trans g2);clear g2;go_wp2;refine bodyPost_ret (results_tmp2 rfl _ _ _) rfl ?_;rw[HR.out];exact⟨⟨_,rfl,OwnRow.nil _ _ _⟩,G2.out⟩
 have hzb:((wrL l).1 != 0)=Xc:=by simp[hz]
 have HR:Xo (mapA l a=([],(wrL l).1)):=show _=_ by unfold mapA;rw[if_pos hz]
 clear hz
 generalize(wrL l).2=I at HW
 generalize(wrL l).1=E at*
 go_enter Tryz.func76,Tryz.ntmps76
 go_upto_region 1 with fail;rw[HW0.out];go_wp2_with fail;refine(HW.out W0 HG0.out).mono ?_;rintro e W1 ⟨rfl,g1⟩;have G1:=dD (HG0.out.trans g1);clear g1;go_wp2;refine bodyPost_ret (results_tmp2 rfl _ _ _) rfl ?_;rw[HR.out];exact⟨⟨_,rfl,OwnRow.nil _ _ _⟩,G1.out⟩
def A0:Ar:=⟨2,8,Xc,Xd,Xd,-1,0⟩
def A1:List Ar:=[⟨2,4,Xc,Xd,Xd,-1,0⟩,⟨5,8,Xc,Xd,Xd,-1,0⟩]
def A2:List Ar:=[⟨2,4,Xc,Xc,Xd,-1,0⟩,⟨4,8,Xc,Xd,Xd,-1,0⟩]
def arC (c:Cl):Ar:=⟨c.pt,c.pt+c.n,c.rd,c.wr,c.sh,c.file,c.base⟩
def areaM (m:Ma) (q:Nat) (s:Sp) (l:List Ar):Ma:={ m with sp:=m.sp.set q { s with ars:=l } }
def KMap (m:Ma) (c:Cl) (er n:Int) (l:List Int) (m':Ma):Prop:=
 l=[]/\∃(q:Nat) (s:Sp),LiveP m c.proc q s/\er=(mapA s.ars (arC c)).2/\(er=0->n=c.pt/\m'=areaM m q s (mapA s.ars (arC c)).1)
theorem map_done {w0 u w w1 w2 W:Xn} {p q g:Nat} {V:MaV} {m:Ma} {x y:SpV} {s:Sp} {xs:List SpV} {b:Sli} {l:List Ar} (h:ChW w0 p u V m) (s1:OwnRow spcE w0.heap.size u (O V.sp.a V.sp.n V.sp.c) xs) (s2:xs.length=m.sp.length) (s3:∀(i:Nat) x s,xs[i]? =Xa x->m.sp[i]? =Xa s->∀W,OutD (Dr w0.heap.size p V) u W->SpaceAt W x s) (hx:xs[q]? =Xa x) (hs:m.sp[q]? =Xa s) (hg:oB V.sp g)
  (gu:Grew u w) (g1:Grew w w1) (nr:OwnRow arE w.heap.size w1 (O b.a b.n b.c) l) (g2:w1.grownBy w2 (Xa g)) (ow:OwnRow spcE w0.heap.size w2 (O V.sp.a V.sp.n V.sp.c) (xs.set q y)) (hy:y.live=x.live/\y.ar=b/\y.tab=x.tab) (hW:OutD (Aft w0 u w) w2 W):MachAt W V (areaM m q s l):=by
 have hgu:=(s1.lt g hg).2;have hgl:=(s1.lt g hg).1;have hsz:=bS gu;have o:OutD (fun k=>k<w0.heap.size\/k=g) u W:=by
  have o1:OutD (fun k=>k<w0.heap.size\/k=g) u w2:=(OutD.grew (gu.trans g1)).trans (OutD.grown g2 (.inr rfl))
  refine⟨hW.os.trans o1.os,hW.tape.trans o1.tape,hW.output.trans o1.output,nT o1.size hW.size,fun i hi hn=>?_⟩
  rw[hW.block i (Xt hi o1.size) (fun e=>by rcases e with e | e;exact hn (.inl e);omega)]
  exact o1.block i hi hn
 have oD:OutD (Dr w0.heap.size p V) u W:=o.wide fun k hk=>hk.elim .inl fun e=>by cases e;exact .inr (.inr (.inr (.inr hg)))
 have r:=h.rest W oD;have own:∀{α:Type} {E:Elt α} {a:Sli} {l:List α},OwnRow E w0.heap.size u (O a.a a.n a.c) l->(∀k,oB a k->¬oB V.sp k)->RowAt E W (O a.a a.n a.c) l:=fun hr hn=>OwnRow.at ⟨owns_outD hr.1 o (fun k hk e=>by
  rcases e with e | e
  ·have:=(hr.lt k hk).1;omega
  cases e;exact hn _ hk hg),hr.2⟩
 have nr2:OwnRow arE w.heap.size W (O b.a b.n b.c) l:=by
  refine⟨owns_outD (D:=fun k=>k<w.heap.size) nr.1 ((OutD.grown g2 (by omega)).trans (hW.wide fun k hk=>?_)) (fun k hk e=>?_),nr.2⟩
  ·rcases hk with e | e
   ·have:=bS h.gr;omega
   exact e.2
  have:=(nr.lt k hk).1;omega
 refine⟨own h.fs h.fS,r.sl,r.sb,r.sq,r.db,r.dq,r.fl,own h.ca h.cS,xs.set q y,OwnRow.at ⟨owns_outD ow.1 hW (fun k hk e=>?_),ow.2⟩,by simp[areaM,s2],fun i x' s' hx' hs'=>?_⟩
 ·have e1:k=g:=by
   have h1:oB V.sp k:=hk;unfold oB at h1 hg;rw[h1]at hg;cases hg;rfl
  subst e1
  rcases e with e | e <;> omega
 by_cases e:i=q
 ·subst e;rw[sF (gS.1 hx).1]at hx';have hs':(m.sp.set i { s with ars:=l })[i]? =Xa s':=hs';rw[sF (gS.1 hs).1]at hs';cases hx';cases hs';have k:=s3 i x s hx hs W oD;obtain⟨y1,y2,y3⟩:=hy;refine⟨y1.trans k.live,by rw[y2];exact nr2.at,?_,by rw[y3];exact k.tb⟩
  rw[y2];exact nr2.cap
 rw[sN (fun h=>e h.symm)]at hx'
 have hs':(m.sp.set q { s with ars:=l })[i]? =Xa s':=hs';rw[sN (fun h=>e h.symm)]at hs'
 exact s3 i x' s' hx' hs' W oD
end
end Go.Proofs.YtempiodbdhiboaaGreat
