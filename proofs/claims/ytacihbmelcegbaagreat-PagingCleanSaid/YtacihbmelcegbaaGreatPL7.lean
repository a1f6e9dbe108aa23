import Derived.Test.YtacihbmelcegbaaGreatPL6
namespace Go.Proofs.YtacihbmelcegbaaGreat
set_option maxRecDepth 100000
set_option maxHeartbeats 4000000
variable{B0 B1 b hi i id j kk:Nat} {L:List Int} {Q Q':Exit->Act->World->Prop} {T:List (Nat->En)} {V:MaV} {W w' w0:World} {e t:TypeId} {m:Ma} {o:Oper} {ops:Array Oper} {vl vt:Sli} {vs:List Value}
open Go.Proofs.Tryz
section
open Go.RowKit
def Frk (w0:World) (hi b:Nat) (w:World) (vl:Sli) (L:List Int) (m:Ma) (l:List Ar) (w':World):Prop:=∃V' m' vt' T',Mk w0 hi w' b vl L V' m' vt' T'/\zo hi w w'/\qO m' T'/\(m'.sp=m.sp++ [⟨true,l,qN⟩]/\m'.fl=m.fl/\m'.hand=m.hand/\m'.fs.length=m.fs.length)
theorem jP {α:Type} {E:Elt α} {w:World} {a:Act} {K:Value->World->Prop} (p x:Operand) (t:TypeId) (ho:o.op= .store t p x) (base:Nat) (v:Value) (l:List α) (hown:zb E base w v l)
  (g i j:Nat) (hg:v.ownBlock=some g) (e y:α) (hi:l[i]? =some e) (cs:List Value) (hk:(Tryz.prog.info? t).map (·.size)=some cs.length) (hy:E.enc y=splice (E.enc e) j cs) (hj:j+cs.length<=E.k) (h1:∀u∈cs,u.oneCell'=true)
  (ad:Addr) (hp:a.eval p= .pointer (some ad)) (had:ad=⟨g,i*E.k+j,none⟩) (vx:Value) (hx:a.eval x=vx) (hvx:vx.cells=cs.toArray)
  (h:∀w',zb E base w' v (l.set i y)->w.grownBy w' (some g)->w'.heap.size=w.heap.size->K undef w'):zK prog o a w K:=by
 obtain⟨w',h2,h3,h4,h5⟩:=zb4 p x t ho base v l hown g i j hg e y hi cs hk hy hj h1 ad hp had vx hx hvx;exact zei h2 (h w' h3 h4 h5)
theorem Mk.entry {w:World} {pe:Nat} {cs:List Value} (h:Mk w0 hi w b vl L V m vt T) (hp:zp w pe 55 cs) (hh:hi<=pe) (hg:w.grownBy w' (some pe)):Mk w0 hi w' b vl L V m vt T:=by
 have hne:b≠pe:=fun e=>by
  subst e;have h1:w.heap[b]? =_:=h.box;rw[show w.heap[b]? =_ from hp]at h1
  cases h1
 have r:=h.rows;obtain⟨k1,k2,k3,k4,k5,k6,k7,k8,k9⟩:=r.kept hg hp;exact⟨ze h.gr hg (nT r.bh hh),h.hb,h.box.beside hg (fun k e=>by cases e;exact hne),h.lr,h.lc,h.lb,⟨nT r.hw hg.size,r.bh,k1 (by decide),k2 (.inl (by decide)),r.slh,k3 (.inl (by decide)),r.sbh,r.sq,k4 (.inl (by decide)),r.dbh,k5 (by decide),k6 (by decide) (.inl (by decide)),k7 (by decide),k8 (by decide) (by decide),k9 (by decide),r.ap⟩⟩
theorem zjL {w:World} (s0:Sp) (h:Mk w0 hi w b vl L V m vt T) (hB:qO m T) (hs:m.sp=[s0]):
  Calls prog 40 #[.pointer (some ⟨b,0,none⟩)] w fun e w'=>(∃v,e= .returned v)/\Frk w0 hi b w vl L m s0.ars w':=by
 have HM:Hid (Mk w0 hi w b vl L V m vt T):=h;have HB:Hid (qO m T):=hB;have HS:Hid (m.sp=[s0]):=hs;obtain⟨f0,rfl⟩:∃f0,T=[f0]:=List.length_eq_one_iff.1 (by rw[hB.tl,hs];rfl)
 obtain⟨ys,s1,s2,s3⟩:=h.rows.sp;obtain⟨y0,rfl⟩:∃y0,ys=[y0]:=List.length_eq_one_iff.1 (by rw[s2,hs];rfl)
 obtain⟨gs,cs,hse⟩:=s1.formS (by simp)
 have hse:Value.slice V.sp.a V.sp.n V.sp.c=(.slice (some ⟨gs,0,none⟩) 1 cs):=hse;have HSE:Hid (Value.slice V.sp.a V.sp.n V.sp.c=(.slice (some ⟨gs,0,none⟩) 1 cs)):=hse;have S1:Hid (zb Zx w0.heap.size w (.slice V.sp.a V.sp.n V.sp.c) [y0]):=s1;have S2:Hid ([y0].length=m.sp.length):=s2;have S3:Hid (∀(i:Nat) x s,[y0][i]? =some x->m.sp[i]? =some s->x.live=s.live/\zb arE w0.heap.size w x.ar.v s.ars/\x.tab=zao/\s.tb=qN):=show∀i,_ from s3
 have A1:Hid (zb arE w0.heap.size w y0.ar.v s0.ars):=(s3 0 y0 s0 rfl (by rw[hs];rfl)).2.1
 have HWR:Hid ((wrL s0.ars).1=0):=(hB.spok s0 (by rw[hs];simp)).1
 have HON:Hid (∀W,zb arE w0.heap.size W y0.ar.v s0.ars->Calls prog 20 #[.slice y0.ar.a y0.ar.n y0.ar.c] W fun e w'=>e= .returned (.agg (zy (tab (zG s0.ars))).toArray)/\zc W w'):=dD<|fun W hW=>ZB y0.ar.v s0.ars W hW.at (j2.1 HWR.out).2.lies
 have hz:=zbg;obtain⟨Z0,HZ0⟩:∃Z0,Hid (zy (tab fun _=>on0)=Z0):=⟨_,rfl⟩
 rw[HZ0.out]at hz;have HZL:Hid (Z0.length=384):=dD<|by rw[<-HZ0.out,jB]
 have HPL:Hid ((zy (tab (zG s0.ars))).length=384):=jB _;have HPO:Hid (∀v∈zy (tab (zG s0.ars)),v.oneCell'=true):=Jn _;have HCA:Hid (∀k,k<64->(zy (tab (zG s0.ars)))[k*6+3]? =some (.bool (zG s0.ars k).sh)):=show∀k,_ from fun k hk=>ZK (QU hk) 3 _ rfl
 generalize zy (tab (zG s0.ars))=CO at HON HPL HPO HCA
 clear h hB hs s1 s2 s3 hse
 go_enter func40,ntmps40
 try go_upto_region 0 with fail
 obtain⟨I,HI⟩:∃I:World->Prop,Hid (∀u,I u↔(zp u b 95 [.slice vl.a vl.n vl.c,.slice V.f.a V.f.n V.f.c,.int .i64 m.hand,.slice V.s.a V.s.n V.s.c,.slice V.sb.a V.sb.n V.sb.c,.slice V.sq.a V.sq.n V.sq.c,.slice V.db.a V.db.n V.db.c,.slice V.dq.a V.dq.n V.dq.c,.slice V.fl.a V.fl.n V.fl.c,.int .i64 m.cnt,.slice V.ca.a V.ca.n V.ca.c,.slice V.sp.a V.sp.n V.sp.c,.slice vt.a vt.n vt.c]/\zb Zx w0.heap.size u (.slice (some ⟨gs,0,none⟩) 1 cs) [y0])):=⟨fun u=>(zp u b 95 [.slice vl.a vl.n vl.c,.slice V.f.a V.f.n V.f.c,.int .i64 m.hand,.slice V.s.a V.s.n V.s.c,.slice V.sb.a V.sb.n V.sb.c,.slice V.sq.a V.sq.n V.sq.c,.slice V.db.a V.db.n V.db.c,.slice V.dq.a V.dq.n V.dq.c,.slice V.fl.a V.fl.n V.fl.c,.int .i64 m.cnt,.slice V.ca.a V.ca.n V.ca.c,.slice V.sp.a V.sp.n V.sp.c,.slice vt.a vt.n vt.c]/\zb Zx w0.heap.size u (.slice (some ⟨gs,0,none⟩) 1 cs) [y0]),fun _=>Iff.rfl⟩
 have hI0:I w.drew:=(HI.out _).2 ⟨HM.out.box.grew (gW _),by rw[<-HSE.out];exact S1.out.grew (gW _)⟩
 have hx11:∀y:zj I,y.world.cell? ⟨b,11,none⟩=some (.slice (some ⟨gs,0,none⟩) 1 cs):=fun y=>by
  have:=((HI.out _).1 y.holds).1.box.c 11 rfl;rw[HSE.out]at this;exact this
 have hy1:∀y:zj I,y.world.cell? ⟨gs,1,none⟩=some (.slice y0.ar.a y0.ar.n y0.ar.c):=fun y=>by
  have:=((HI.out _).1 y.holds).2.one (i:=0) (x:=y0) rfl 1 _ rfl;rw[zR,Addr.add_lit]at this;exact this
 have hne:Nonempty (zj I):=⟨⟨_,hI0⟩⟩;refine zL (I:=I) 20 [(15,fun v=>∃g,v= .slice (some ⟨g,0,none⟩) 1 1),(16,fun v=>∃g c,v= .slice (some ⟨g,0,none⟩) 2 c)] (fun u=>zc w u) hI0 (gW _) qn (by kernel_rfl) rfl rfl (by decide) ?hS (by kernel_rfl) ?_
 case hS=>
  intro x hx;simp only[mC,nM,or_false]at hx
  rcases hx with rfl|rfl
  ·exact⟨_,0,rfl⟩
  exact⟨_,0,0,rfl⟩
 simp only[List.take,List.drop];iterate 2 (refine zg rfl rfl rfl (fun K hK=>?_);go_big_quiet_op;refine hK _ ?_;clear hK)
 refine zM (.tmp 6) ⟨b,0,none⟩ rfl rfl rfl rfl ?_;simp only[Act.put,sB,sS,sZ];iterate 4 (refine zg rfl rfl rfl (fun K hK=>?_);go_big_quiet_op;refine hK _ ?_;clear hK)
 refine zM (.tmp 11) ⟨b,0,none⟩ rfl rfl rfl rfl ?_;simp only[Act.put,sB,sS,sZ];iterate 7 (refine zg rfl rfl rfl (fun K hK=>?_);go_big_quiet_op;refine hK _ ?_;clear hK)
 refine zW rfl rfl (fun v u=>zc w u/\zr Zx u v [⟨true,y0.ar,zu,zu,zu,zu,zu,zu,zu,zu⟩]) (fun w' hI' hF'=>?_) (fun v1 hv=>?_)
 ·obtain⟨i1,i2⟩:=(HI.out _).1 hI';refine zK.step (v:= .slice (some ⟨w'.heap.size,0,none⟩) 1 1) (w':=w'.alloc (.cells #[.bool true,.slice y0.ar.a y0.ar.n y0.ar.c,.slice none 0 0,.slice none 0 0,.slice none 0 0,.slice none 0 0,.slice none 0 0,.slice none 0 0,.slice none 0 0,.slice none 0 0] 63)) (by clear hx11 hy1;simp only[execOp];go_simp) ⟨(HI.out _).2 ⟨i1.grew (za _ _),i2.grew (za _ _)⟩,⟨_,rfl⟩,hF'.trans (za _ _),jN Zx w' ⟨true,y0.ar,zu,zu,zu,zu,zu,zu,zu,zu⟩ _ _ rfl (by decide)⟩
 obtain⟨g15,rfl⟩:=hv;simp only[Act.put,sB,sS,sZ];refine zW rfl rfl (fun v u=>∃w1,zc w w1/\w1.grownBy u (some gs)/\zb Zx w0.heap.size u v [y0,⟨true,y0.ar,zu,zu,zu,zu,zu,zu,zu,zu⟩]) (fun w' hI' hF'=>?_) (fun v1 hv=>?_)
 ·obtain⟨i1,i2⟩:=(HI.out _).1 hI';obtain⟨k1,k2⟩:=hF';obtain⟨v',w2,hrun,ho,hgr,hk⟩:=qj (E:=Zx) (w:=w') 39 i2 (.slice (some ⟨g15,0,none⟩) 1 1) [⟨true,y0.ar,zu,zu,zu,zu,zu,zu,zu,zu⟩] k2 (by show(1+1)*224<=_;omega) (nT (bS HM.out.gr) (bS k1))
  obtain⟨g',c',rfl⟩:=ho.formS (by simp)
  refine zK.step (v:= .slice (some ⟨g',0,none⟩) 2 c') (w':=w2) ?_ ⟨(HI.out _).2 ⟨zp.row i2 hgr i1 (by decide),hk _ [y0] (nR _) i2⟩,⟨_,_,rfl⟩,w',k1,hgr,ho⟩
  clear hx11 hy1;simp only[execOp,resolve,invoke,builtin,pure_bind,Sem.run_bind,Sem.run_pure,List.map_toArray,mP,List.map_nil];exact Eq.trans (congrArg (fun r=>Result.andThen r (fun a w'=>Result.ok (Next.value a) w')) hrun) rfl
 obtain⟨g4,c4,rfl⟩:=hv;simp only[Act.put,sB,sS,sZ];refine zM (.tmp 5) ⟨b,0,none⟩ rfl rfl rfl rfl ?_;simp only[Act.put,sB,sS,sZ];iterate 2 (refine zg rfl rfl rfl (fun K hK=>?_);go_big_quiet_op;refine hK _ ?_;clear hK)
 refine qI fun W4 hI4 hF4=>?_
 obtain⟨w1,gw,gr4,ow4⟩:=hF4;have B4:Hid (zp W4 b 95 [.slice vl.a vl.n vl.c,.slice V.f.a V.f.n V.f.c,.int .i64 m.hand,.slice V.s.a V.s.n V.s.c,.slice V.sb.a V.sb.n V.sb.c,.slice V.sq.a V.sq.n V.sq.c,.slice V.db.a V.db.n V.db.c,.slice V.dq.a V.dq.n V.dq.c,.slice V.fl.a V.fl.n V.fl.c,.int .i64 m.cnt,.slice V.ca.a V.ca.n V.ca.c,.slice V.sp.a V.sp.n V.sp.c,.slice vt.a vt.n vt.c]):=((HI.out _).1 hI4).1;have gr4':w1.grownBy W4 (Value.slice V.sp.a V.sp.n V.sp.c).ownBlock:=by rw[HSE.out];exact gr4
 have R4:Hid (MkR w0.heap.size hi W4 { V with sp:=⟨some ⟨g4,0,none⟩,2,c4⟩ } { m with sp:=m.sp++ [⟨true,s0.ars,qN⟩] } vt [f0]):=(HM.out.rows.grew gw).addSp (S1.out.grew gw) S2.out (fun i x s hx hs=>by
  obtain⟨a1,a2,a3⟩:=S3.out i x s hx hs;exact⟨a1,a2.grew gw,a3⟩) gr4' ⟨some ⟨g4,0,none⟩,2,c4⟩ y0.ar (A1.out.grew gw) ow4
 have G4:Hid (zc w0 W4):=zc.row (S1.out.grew gw) gr4' (HM.out.gr.trans gw);have K4:Hid (zo hi w W4):=(zo.grew gw).trans (zo.row (S1.out.grew gw) gr4' (fun p hl=>hl.2.2.2.2.2.2.1 rfl))
 have A4:Hid (zb arE w0.heap.size W4 y0.ar.v s0.ars):=dD<|by
  obtain⟨ds,hc⟩:=(S1.out.grew gw).obj (g:=gs) (by rw[HSE.out];rfl)
  exact(A1.out.grew gw).kind gr4 hc (by decide)
 have O4:Hid (zb Zx w0.heap.size W4 (.slice (some ⟨g4,0,none⟩) 2 c4) [y0,⟨true,y0.ar,zu,zu,zu,zu,zu,zu,zu,zu⟩]):=ow4;clear gw gr4 gr4' ow4 hI4 hI0 hx11 hy1 hne;have x11:=B4.out.box.c 11 rfl;rw[HSE.out]at x11;have xf:=B4.out.box.f;go_upto_region 1 with fail;clear x11 xf;obtain⟨W5,hW5⟩:∃W5,W4.setCell ⟨b,11,none⟩ (.slice (some ⟨g4,0,none⟩) 2 c4)=W5:=⟨_,rfl⟩;have hg5:W4.grownBy W5 (some b):=by rw[<-hW5];exact qY _ _ _ _
 have M5:Hid (Mk w0 hi W5 b vl L { V with sp:=⟨some ⟨g4,0,none⟩,2,c4⟩ } { m with sp:=m.sp++ [⟨true,s0.ars,qN⟩] } vt [f0]):=dD<|⟨ze G4.out hg5 HM.out.hb,HM.out.hb,by rw[<-hW5];exact B4.out.set 11 _,HM.out.lr,HM.out.lc,HM.out.lb,R4.out.var hg5 B4.out hg5.size (.inl rfl)⟩
 have K5:Hid (zo hi w W5):=K4.out.trans (zo.kind hg5 B4.out (fun _ hl=>absurd rfl hl.1))
 have A5:Hid (zb arE w0.heap.size W5 y0.ar.v s0.ars):=A4.out.kind hg5 B4.out (by decide)
 have O5:Hid (zb Zx w0.heap.size W5 (.slice (some ⟨g4,0,none⟩) 2 c4) [y0,⟨true,y0.ar,zu,zu,zu,zu,zu,zu,zu,zu⟩]):=O4.out.kind hg5 B4.out (by decide)
 rw[hW5];clear hW5 hg5;have HML:Hid (w0.heap.size<=b/\zr byE w0 (.slice vl.a vl.n vl.c) L/\vl.n<=vl.c/\∀z∈L,0<=z/\z<256):=dD<|⟨HM.out.hb,HM.out.lr,HM.out.lc,HM.out.lb⟩
 have x11:W5.cell? ⟨b,11,none⟩=some (.slice (some ⟨g4,0,none⟩) 2 c4):=M5.out.box.box.c 11 rfl;have y1:W5.cell? ⟨g4,1,none⟩=some (.slice y0.ar.a y0.ar.n y0.ar.c):=by
  have:=O5.out.one (i:=0) (x:=y0) rfl 1 _ rfl;rw[zR,Addr.add_lit]at this;exact this
 have hon:=HON.out W5 A5.out;go_wp2_with fail;refine hon.mono ?_;clear hon x11 y1;rintro e W6 ⟨rfl,g6⟩;obtain⟨po,HPO2⟩:∃po,Hid (W6.heap.size=po):=⟨_,rfl⟩;have M6:=dD (M5.out.grew g6);have K6:=dD (K5.out.trans (zo.grew g6));clear g6
 go_upto_region 2 with(refine qe rfl 68 (.tmp 2) (.tmp 33) rfl W6.heap.size rfl CO rfl (zp.top W6 Z0 68 rfl) (by rw[HPL.out,HZL.out]) (by rw[HZL.out];exact zlV) HPO.out ?_)
 intro W7 b7 g7 s7;have g67:zc W6 W7:=ze (za _ _) g7 (nR _);have M7:=dD (M6.out.grew g67);have K7:=dD (K6.out.trans (zo.grew g67));rw[HPO2.out]at b7⊢;have P7:Hid (zp W7 po 68 CO):=b7;clear b7 g7 s7 g67 hz;try simp only[Act.put]
 have x12:=M7.out.box.box.c 12 rfl;have HSZ5:Hid (w0.heap.size<=W7.heap.size):=dD<|bS M7.out.gr
 go_wp2_with (at_builtin;refine zB (E:=Qo) rfl (.tmp 38) (.tmp 40) rfl w0.heap.size _ [f0] rfl (M7.out.rows.tt.grew (za _ _)) _ [fun _=>en0] rfl (jN Qo W7 (fun _=>en0) _ _ rfl (by decide)) ?qb ?qc ?_)
 case qb=>
  show(1+1)*1536<=_
  omega
 case qc=>exact nT HSZ5.out (bS (za _ _))
 intro v8 W8 ow8 gr8;obtain⟨gt,ct,rfl⟩:=ow8.formS (by simp)
 have ow8':zb Qo w0.heap.size W8 (.slice (some ⟨gt,0,none⟩) 2 ct) ([f0]++ [fun _=>en0]):=ow8
 obtain⟨WX,hWX⟩:∃WX,W7.alloc (.cells (Qo.enc (fun _=>en0)).toArray 56)=WX:=⟨_,rfl⟩
 have gX:=gP hWX
 have gr8':WX.grownBy W8 (Value.slice vt.a vt.n vt.c).ownBlock:=by rw[<-hWX];exact gr8
 clear gr8 hWX ow8;have M7X:=M7.out.grew gX;have B8:Hid (zp W8 b 95 [.slice vl.a vl.n vl.c,.slice V.f.a V.f.n V.f.c,.int .i64 m.hand,.slice V.s.a V.s.n V.s.c,.slice V.sb.a V.sb.n V.sb.c,.slice V.sq.a V.sq.n V.sq.c,.slice V.db.a V.db.n V.db.c,.slice V.dq.a V.dq.n V.dq.c,.slice V.fl.a V.fl.n V.fl.c,.int .i64 m.cnt,.slice V.ca.a V.ca.n V.ca.c,.slice (some ⟨g4,0,none⟩) 2 c4,.slice vt.a vt.n vt.c]):=zp.row M7X.rows.tt gr8' M7X.box (by decide)
 have R8:Hid (MkR w0.heap.size hi W8 { V with sp:=⟨some ⟨g4,0,none⟩,2,c4⟩ } { m with sp:=m.sp++ [⟨true,s0.ars,qN⟩] } ⟨some ⟨gt,0,none⟩,2,ct⟩ ([f0]++ [fun _=>en0])):=M7X.rows.addT gr8' ⟨some ⟨gt,0,none⟩,2,ct⟩ ow8'
 have G8:Hid (zc w0 W8):=zc.row M7X.rows.tt gr8' M7X.gr;have K8:Hid (zo hi w W8):=(K7.out.trans (zo.grew gX)).trans (zo.row M7X.rows.tt gr8' (fun p hl=>hl.2.2.2.2.2.2.2.1 rfl))
 have P8:Hid (zp W8 po 68 CO):=zp.row M7X.rows.tt gr8' (P7.out.grew gX) (by decide)
 clear gr8' ow8' gX x12;have x12:=B8.out.box.c 12 rfl;have xf:=B8.out.box.f;go_upto_region 3 with fail;clear x12 xf;obtain⟨W9,hW9⟩:∃W9,W8.setCell ⟨b,12,none⟩ (.slice (some ⟨gt,0,none⟩) 2 ct)=W9:=⟨_,rfl⟩;have hg9:W8.grownBy W9 (some b):=by rw[<-hW9];exact qY _ _ _ _
 obtain⟨vt9,HVT⟩:∃vt9:Sli,Hid (vt9=⟨some ⟨gt,0,none⟩,2,ct⟩):=⟨_,rfl⟩;obtain⟨V9,HV9⟩:∃V9:MaV,Hid (V9={ V with sp:=⟨some ⟨g4,0,none⟩,2,c4⟩ }):=⟨_,rfl⟩;obtain⟨m9,HM9⟩:∃m9:Ma,Hid (m9={ m with sp:=m.sp++ [⟨true,s0.ars,qN⟩] }):=⟨_,rfl⟩;have M9:Hid (Mk w0 hi W9 b vl L V9 m9 vt9 [f0,fun _=>en0]):=dD<|by
  rw[HVT.out,HV9.out,HM9.out];exact⟨ze G8.out hg9 HML.out.1,HML.out.1,by rw[<-hW9];exact B8.out.set 12 _,HML.out.2.1,HML.out.2.2.1,HML.out.2.2.2,R8.out.var hg9 B8.out hg9.size (.inl rfl)⟩
 have K9:Hid (zo hi w W9):=K8.out.trans (zo.kind hg9 B8.out (fun _ hl=>absurd rfl hl.1))
 have P9:Hid (zp W9 po 68 CO):=P8.out.beside hg9 (fun g e=>by
  cases e;intro e;have h1:W8.heap[po]? =_:=P8.out;rw[e,show W8.heap[b]? =_ from B8.out]at h1
  cases h1)
 have HB9:Hid (qO m9 [f0,fun _=>en0]):=dD<|by
  rw[HM9.out];exact HB.out.space HWR.out (by rw[HS.out];simp)
 have HS9:Hid (m9.sp=[s0,⟨true,s0.ars,qN⟩]/\m9.fl=m.fl/\m9.hand=m.hand/\m9.fs.length=m.fs.length):=dD<|by
  rw[HM9.out];exact⟨by show m.sp++_=_;rw[HS.out];rfl,rfl,rfl,rfl⟩
 have HTV:Hid (Value.slice vt9.a vt9.n vt9.c= .slice (some ⟨gt,0,none⟩) 2 ct):=dD<|by rw[HVT.out]
 rw[hW9];clear hW9 hg9;have x12:W9.cell? ⟨b,12,none⟩=some (.slice (some ⟨gt,0,none⟩) 2 ct):=by rw[<-HTV.out];exact M9.out.box.box.c 12 rfl
 have hrg:W9.rangeAt gt 0 (jc (tab f0)):=fun j v hj=>by
  have hr:=M9.out.rows.tt;rw[HTV.out]at hr;have:=hr.one (i:=0) (x:=f0) rfl j v hj;rw[zR,Addr.add_lit]at this
  simpa using this
 go_wp2_with (refine wpList_load_mid rfl 56 (.tmp 48) rfl gt 0 rfl (jc (tab f0)) _ hrg underlying56 rfl (by rw[zav,Qb];exact zlZ) ?_)
 clear hrg x12;have HIX:Hid (∀{ops:Array Oper} {rest:List Oper} {o:Oper} {a:Act} {w:World} {Q:Exit->Act->World->Prop} (_:o.guard=none) (x ix:Operand) (_:o.op= .index 56 x ix) (_:a.eval x= .agg (jc (tab f0)).toArray) (i:Nat) (_:a.eval ix= .int .i64 (i:Int)) (_:i<64) {e:En} (_:f0 i=e)
  (_:wpList prog ops Q rest (a.put o.dst (.agg #[.int .i64 e.kind,.int .i64 e.n,.bool e.wr])) w),wpList prog ops Q (o :: rest) a w):=fun h1 x ix h2 h3 i h4 h5 _ h6 h7=>zhu h1 x ix h2 (tab f0) h3 i h4 h5 (by rw[QU h5,h6]) h7
 generalize jc (tab f0)=CF at HIX⊢
 go_wp2
 go_loopg [50] 64 (fun gg s50 wr=>∃(kk:Nat) (m':Ma) (T':List (Nat->En)) (fA fB:Nat->En),kk<=64/\64 - kk<=gg/\s50= .int .i64 kk/\Hid (Mk w0 hi wr b vl L V9 m' vt9 T')/\Hid (zo hi w wr)/\Hid (qO m' T')/\Hid (m'.sp=[s0,⟨true,s0.ars,qN⟩]/\m'.fl=m.fl/\m'.hand=m.hand/\m'.fs.length=m.fs.length)/\Hid (T'[0]? =some fA/\T'[1]? =some fB/\(∀j,kk<=j->fA j=f0 j/\fB j=en0))/\Hid (zp wr po 68 CO))
 case atStart=>exact⟨0,m9,_,f0,fun _=>en0,nZ _,by omega,rfl,M9.out,K9.out,HB9.out,HS9.out,(show _/\_ from⟨rfl,rfl,fun _ _=>⟨rfl,rfl⟩⟩),P9.out⟩
 obtain⟨kk,m',T',fA,fB,hkk,hgg,rfl,MW,KW,BW,SW,TW,PW⟩:=hrel
 by_cases hlt:kk<64
 ·have hltz:(kk:Int)<64:=by omega
  obtain⟨ek,en,ew,HE⟩:∃ek en ew,Hid (f0 kk=⟨ek,en,ew⟩):=⟨_,_,_,rfl⟩;have HAK:Hid (fA kk=⟨ek,en,ew⟩):=dD<|by rw[(TW.out.2.2 kk (nR _)).1];exact HE.out
  have HBK:Hid (fB kk=en0):=(TW.out.2.2 kk (nR _)).2;have HNX:Hid (∀e',(((T'.set 0 (qu fA kk e')).set 1 (qu fB kk e'))[0]? =some (qu fA kk e')/\((T'.set 0 (qu fA kk e')).set 1 (qu fB kk e'))[1]? =some (qu fB kk e')/\(∀j,kk+1<=j->qu fA kk e' j=f0 j/\qu fB kk e' j=en0))):=show∀e',_ from fun e'=>by
   have hA:=(gS.1 TW.out.1).1;have hB:=(gS.1 TW.out.2.1).1;refine⟨?_,?_,fun j hj=>?_⟩
   ·rw[sN (by decide)]
    exact sF hA
   ·exact sF (by simpa using hB)
   unfold qu;rw[if_neg (by omega),if_neg (by omega)]
   exact TW.out.2.2 j (by omega)
  have hent:=BW.out.entry0 (s0:=s0) (by rw[SW.out.1];rfl) TW.out.1 hlt
  rw[HAK.out]at hent
  go_upto_region 6 with(refine HIX.out rfl (.tmp 49) (.tmp 50) rfl rfl kk rfl hlt HE.out ?_)
  obtain⟨pe,HPE⟩:∃pe,Hid (wr.heap.size=pe):=⟨_,rfl⟩;obtain⟨W1,hW1⟩:∃W1,wr.alloc (.cells #[.int .i64 ek,.int .i64 en,.bool ew] 55)=W1:=⟨_,rfl⟩;have g1:=gP hW1
  have E1:=xPT hW1 HPE
  have M1:=dD (MW.out.grew g1);have K1:=dD (KW.out.trans (zo.grew g1));have P1:=dD (PW.out.grew g1);have HEL:Hid (hi<=pe/\w.heap.size<=pe):=show _/\_ by rw[<-HPE.out];exact⟨MW.out.rows.hw,KW.out.2⟩
  rw[hW1,HPE.out];clear hW1 g1;have e0:=E1.out.box.c 0 rfl
  rcases hent with hE|⟨k,fr,h1,h2,h3⟩|⟨k,z,h1,h2,h3,h4,h5⟩
  ·cases hE;have hk1:((0:Int) == 1)=false:=by decide
   have hk2:((0:Int) == 2)=false:=by decide
   go_upto_region 12 with fail;obtain⟨I,HI⟩:∃I:World->Prop,Hid (∀u,I u↔(u.cell? ⟨b,12,none⟩=some (.slice (some ⟨gt,0,none⟩) 2 ct)/\zp u pe 55 [.int .i64 0,.int .i64 0,.bool false]/\zp u po 68 CO)):=⟨fun u=>(u.cell? ⟨b,12,none⟩=some (.slice (some ⟨gt,0,none⟩) 2 ct)/\zp u pe 55 [.int .i64 0,.int .i64 0,.bool false]/\zp u po 68 CO),fun _=>Iff.rfl⟩
   have HIM:Hid (∀u m' T',Mk w0 hi u b vl L V9 m' vt9 T'->u.cell? ⟨b,12,none⟩=some (.slice (some ⟨gt,0,none⟩) 2 ct)):=dD<|fun u m' T' hm=>by
    have:=hm.box.box.c 12 rfl;rw[HTV.out]at this;exact this
   have hI0:I W1.drew:=(HI.out _).2 ⟨HIM.out _ _ _ (M1.out.grew (gW _)),E1.out.grew (gW _),P1.out.grew (gW _)⟩
   have hF0:Mk w0 hi W1.drew b vl L V9 m' vt9 T'/\zo hi w W1.drew:=⟨M1.out.grew (gW _),K1.out.trans (zo.grew (gW _))⟩
   have ht:∀y:zj I,y.world.cell? ⟨b,12,none⟩=some (.slice (some ⟨gt,0,none⟩) 2 ct):=fun y=>((HI.out _).1 y.holds).1
   have he0:∀y:zj I,y.world.cell? ⟨pe,0,none⟩=some (.int .i64 0):=fun y=>((HI.out _).1 y.holds).2.1.box.c 0 rfl
   have he1:∀y:zj I,y.world.cell? ⟨pe,1,none⟩=some (.int .i64 0):=fun y=>((HI.out _).1 y.holds).2.1.box.c 1 rfl
   have he2:∀y:zj I,y.world.cell? ⟨pe,2,none⟩=some (.bool false):=fun y=>((HI.out _).1 y.holds).2.1.box.c 2 rfl
   have hne:Nonempty (zj I):=⟨⟨_,hI0⟩⟩;refine zL (I:=I) 17 [(14,fun _=>True)] (fun u=>Mk w0 hi u b vl L V9 m' vt9 T'/\zo hi w u) hI0 hF0 qn (by kernel_rfl) rfl rfl (by decide) ?hS (by kernel_rfl) ?_
   case hS=>
    intro x hx;simp only[mC,nM,or_false]at hx;subst hx;exact⟨undef,trivial⟩
   simp only[List.take,List.drop];iterate 1 (refine zg rfl rfl rfl (fun K hK=>?_);go_big_quiet_op;refine hK _ ?_;clear hK)
   refine zM (.tmp 91) ⟨b,0,none⟩ rfl rfl rfl rfl ?_;simp only[Act.put,sB,sS,sZ];iterate 4 (refine zg rfl rfl rfl (fun K hK=>?_);go_big_quiet_op;refine hK _ ?_;clear hK)
   refine zM (.tmp 96) ⟨b,0,none⟩ rfl rfl rfl rfl ?_;simp only[Act.put,sB,sS,sZ];iterate 7 (refine zg rfl rfl rfl (fun K hK=>?_);go_big_quiet_op;refine hK _ ?_;clear hK)
   refine zW rfl rfl (fun _ u=>Mk w0 hi u b vl L V9 m' vt9 (T'.set 0 (qu fA kk ⟨0,0,false⟩))/\zo hi w u) (fun w' hI' hF'=>?_) (fun v1 hv=>?_)
   ·obtain⟨i1,i2,i3⟩:=(HI.out _).1 hI';obtain⟨k1,k2⟩:=hF';have hr:=k1.rows.tt;rw[HTV.out]at hr;refine jP (E:=Qo) (.tmp 104) (.tmp 101) 55 rfl w0.heap.size (.slice (some ⟨gt,0,none⟩) 2 ct) T' hr gt 0 (kk*3) rfl fA (qu fA kk ⟨0,0,false⟩) TW.out.1 (env ⟨0,0,false⟩) (by kernel_rfl) (jj fA hlt _) (by show kk*3+3<=192;omega) (enE.one _) _ rfl (by first | rfl | simp) (.agg (env ⟨0,0,false⟩).toArray) rfl rfl (fun w2 ow gr sz=>?_)
    rw[<-HTV.out]at ow;have hM:=k1.setT (by rw[HTV.out];rfl) gr sz ow
    exact⟨(HI.out _).2 ⟨HIM.out _ _ _ hM.1,hM.2.1 _ _ _ i2 Qk,hM.2.1 _ _ _ i3 j3⟩,trivial,hM.1,k2.trans hM.2⟩
   try simp only[Act.put]
   iterate 2 (refine zg rfl rfl rfl (fun K hK=>?_);go_big_quiet_op;refine hK _ ?_;clear hK)
   refine qI fun W8 hI8 hF8=>?_
   have M8:Hid (Mk w0 hi W8 b vl L V9 m' vt9 (T'.set 0 (qu fA kk ⟨0,0,false⟩))):=hF8.1;have K8:Hid (zo hi w W8):=hF8.2;have P8:Hid (zp W8 po 68 CO):=((HI.out _).1 hI8).2.2;clear hF8 hI8 hI0 hF0 ht he0 he1 he2 hne;have R8:Hid (zb Qo w0.heap.size W8 (.slice (some ⟨gt,0,none⟩) 2 ct) (T'.set 0 (qu fA kk ⟨0,0,false⟩))):=show zb _ _ _ _ _ by rw[<-HTV.out];exact M8.out.rows.tt
   refine zt (E:=Qo) rfl (.tmp 106) (.tmp 102) 55 rfl w0.heap.size _ _ R8.out gt 1 (kk*3) rfl fB (qu fB kk ⟨0,0,false⟩) (by rw[sN (by decide)];exact TW.out.2.1) (env ⟨0,0,false⟩) (by kernel_rfl) (jj fB hlt _) (by show kk*3+3<=192;omega) (enE.one _) _ rfl (by first | rfl | simp) (.agg (env ⟨0,0,false⟩).toArray) rfl rfl ?_
   intro W9 ow9 gr9 sz9;rw[<-HTV.out]at ow9;have hM9:=M8.out.setT (by rw[HTV.out];rfl) gr9 sz9 ow9
   have M9:Hid (Mk w0 hi W9 b vl L V9 m' vt9 ((T'.set 0 (qu fA kk ⟨0,0,false⟩)).set 1 (qu fB kk ⟨0,0,false⟩))):=hM9.1;have K9:Hid (zo hi w W9):=K8.out.trans hM9.2;have P9:Hid (zp W9 po 68 CO):=hM9.2.1 _ _ _ P8.out j3;have B9:Hid (qO m' ((T'.set 0 (qu fA kk ⟨0,0,false⟩)).set 1 (qu fB kk ⟨0,0,false⟩))):=(show qO _ _ by
    have:=zif TW.out.1 TW.out.2.1 HAK.out HBK.out;rw[show(⟨0,0,false⟩:En)=en0 from rfl,this]
    exact BW.out)
   clear hM9 ow9 gr9 sz9;go_wp2
   go_roundg (64 -(kk+1))
   case measure=>omega
   exact⟨kk+1,m',_,_,_,by omega,by omega,by go_num,M9.out,K9.out,B9.out,(show _/\_ from SW.out),HNX.out _,P9.out⟩
  ·dsimp only at h1 h2;subst h1;subst h2;have HK:Hid (m'.fs[k]? =some fr):=h3;obtain⟨hr0,hr1⟩:=BW.out.refs h3;obtain⟨nf,HNF⟩:∃nf,Hid (m'.fs.length=nf):=⟨_,rfl⟩;have hkn:k<nf:=by rw[<-HNF.out];exact(gS.1 h3).1
   have hkz:(k:Int)< (nf:Int):=by omega
   clear h3;have hk1:((1:Int) == 1)=true:=by decide
   have hk2:((1:Int) == 2)=false:=by decide
   obtain⟨g,cf,heq⟩:=M1.out.rows.fs.formS (by rw[HNF.out];omega)
   rw[HNF.out]at heq;have HEQ:Hid (Value.slice V9.f.a V9.f.n V9.f.c= .slice (some ⟨g,0,none⟩) nf cf):=heq;have hrw:=M1.out.rows.fs;rw[HEQ.out]at hrw;have HRW:Hid (zb QO w0.heap.size W1 (.slice (some ⟨g,0,none⟩) nf cf) m'.fs):=hrw;clear hrw heq;go_upto_region 7 with fail;clear e0;obtain⟨I,HI⟩:∃I:World->Prop,Hid (∀u,I u↔zc W1 u):=⟨fun u=>zc W1 u,fun _=>Iff.rfl⟩
   have hI0:I W1.drew:=(HI.out _).2 (gW _)
   have hx1:∀y:zj I,y.world.cell? ⟨b,1,none⟩=some (.slice (some ⟨g,0,none⟩) nf cf):=fun y=>by rw[<-HEQ.out];exact(M1.out.box.box.grew ((HI.out _).1 y.holds)).c 1 rfl
   have he1:∀y:zj I,y.world.cell? ⟨pe,1,none⟩=some (.int .i64 (k:Int)):=fun y=>(E1.out.box.grew ((HI.out _).1 y.holds)).c 1 rfl
   have hd8:∀y:zj I,y.world.cell? ⟨g,k*13+8,none⟩=some (.int .i64 fr.r):=fun y=>by
    have:=(HRW.out.grew ((HI.out _).1 y.holds)).one HK.out 8 _ rfl;rw[zR,Addr.add_lit,zA]at this;exact this
   have hne:Nonempty (zj I):=⟨⟨_,hI0⟩⟩;refine ZQ (I:=I) 14 [] hI0 qn (by kernel_rfl) rfl rfl (by decide) (by simp) (by kernel_rfl) ?_
   simp only[List.take,List.drop];iterate 1 (refine qC rfl rfl rfl (fun K hK=>?_);go_big_quiet_op;refine hK _ ?_;clear hK)
   refine zbv (.tmp 57) ⟨b,0,none⟩ rfl rfl rfl rfl ?_;simp only[Act.put,sB,sS,sZ];iterate 12 (refine qC rfl rfl rfl (fun K hK=>?_);go_big_quiet_op;refine hK _ ?_;clear hK)
   refine za1 fun W2 hI2 hF=>?_
   have g2:=(HI.out _).1 hI2;have M2:=dD (M1.out.grew g2);have K2:=dD (K1.out.trans (zo.grew g2));have E2:=dD (E1.out.grew g2);have P2:=dD (P1.out.grew g2);have R2:=dD (HRW.out.grew g2);clear g2 hI2 hF hx1 he1 hd8 hne hI0;have xf:=R2.out.unfrozen rfl;have d8:W2.cell? ⟨g,k*13+8,none⟩=some (.int .i64 fr.r):=by
    have:=R2.out.one HK.out 8 _ rfl;rw[zR,Addr.add_lit,zA]at this;exact this
   go_upto_region 8 with fail;clear d8 xf;obtain⟨ow3,gr3,sz3⟩:=R2.out.cell (k:=k) (o:=8) rfl HK.out (y:={ fr with r:=fr.r+1 }) (u:= .int .i64 (fr.r+1)) rfl (by decide)
   obtain⟨W3,hW3⟩:∃W3,W2.setCell ⟨g,k*13+8,none⟩ (.int .i64 (fr.r+1))=W3:=⟨_,rfl⟩;have e3:W2.setCell ⟨g,k*QO.k+8,none⟩ (.int .i64 (fr.r+1))=W3:=hW3;rw[e3]at ow3 gr3 sz3;rw[hW3];rw[<-HEQ.out]at ow3;have hM3:=M2.out.setF (by rw[HEQ.out];rfl) gr3 sz3 ow3 (M2.out.rows.ap.2.set (x:={ fr with r:=fr.r+1 }) (M2.out.rows.ap.2 fr (mG HK.out)) k)
   have M3:Hid (Mk w0 hi W3 b vl L V9 { m' with fs:=m'.fs.set k { fr with r:=fr.r+1 } } vt9 T'):=hM3.1;have K3:Hid (zo hi w W3):=K2.out.trans hM3.2;have E3:Hid (zp W3 pe 55 [.int .i64 1,.int .i64 (k:Int),.bool ew]):=hM3.2.1 _ _ _ E2.out Qk;have P3:Hid (zp W3 po 68 CO):=hM3.2.1 _ _ _ P2.out j3;clear e3 hW3 ow3 gr3 sz3 hM3;have HBF:Hid (∀e',e'=(if(zG s0.ars kk).sh=true then(⟨1,(k:Int),ew⟩:En)else⟨1,(k:Int),false⟩)->qO { m' with fs:=m'.fs.set k { fr with r:=fr.r+1 } } ((T'.set 0 (qu fA kk e')).set 1 (qu fB kk e'))):=show∀e',_ from fun e' he=>BW.out.forkP (s0:=s0) (s1:=⟨true,s0.ars,qN⟩) (by rw[SW.out.1];rfl) (by rw[SW.out.1];rfl) rfl TW.out.1 TW.out.2.1 hlt HBK.out HK.out (by rw[HAK.out]) (by rw[HAK.out]) (by rw[HAK.out];exact he)
   have o3:=P3.out.box.c _ (HCA.out kk hlt);have e0:=E3.out.box.c 0 rfl
   cases hsh:(zG s0.ars kk).sh with
   | true=>
    rw[hsh]at o3 HBF;clear hsh;go_upto_region 10 with fail;clear o3;go_upto_region 12 with fail;obtain⟨I,HI⟩:∃I:World->Prop,Hid (∀u,I u↔(u.cell? ⟨b,12,none⟩=some (.slice (some ⟨gt,0,none⟩) 2 ct)/\zp u pe 55 [.int .i64 1,.int .i64 (k:Int),.bool ew]/\zp u po 68 CO)):=⟨fun u=>(u.cell? ⟨b,12,none⟩=some (.slice (some ⟨gt,0,none⟩) 2 ct)/\zp u pe 55 [.int .i64 1,.int .i64 (k:Int),.bool ew]/\zp u po 68 CO),fun _=>Iff.rfl⟩
    have HIM:Hid (∀u m' T',Mk w0 hi u b vl L V9 m' vt9 T'->u.cell? ⟨b,12,none⟩=some (.slice (some ⟨gt,0,none⟩) 2 ct)):=dD<|fun u m' T' hm=>by
     have:=hm.box.box.c 12 rfl;rw[HTV.out]at this;exact this
    have hI0:I W3.drew:=(HI.out _).2 ⟨HIM.out _ _ _ (M3.out.grew (gW _)),E3.out.grew (gW _),P3.out.grew (gW _)⟩
    have hF0:Mk w0 hi W3.drew b vl L V9 { m' with fs:=m'.fs.set k { fr with r:=fr.r+1 } } vt9 T'/\zo hi w W3.drew:=⟨M3.out.grew (gW _),K3.out.trans (zo.grew (gW _))⟩
    have ht:∀y:zj I,y.world.cell? ⟨b,12,none⟩=some (.slice (some ⟨gt,0,none⟩) 2 ct):=fun y=>((HI.out _).1 y.holds).1
    have he0:∀y:zj I,y.world.cell? ⟨pe,0,none⟩=some (.int .i64 1):=fun y=>((HI.out _).1 y.holds).2.1.box.c 0 rfl
    have he1:∀y:zj I,y.world.cell? ⟨pe,1,none⟩=some (.int .i64 (k:Int)):=fun y=>((HI.out _).1 y.holds).2.1.box.c 1 rfl
    have he2:∀y:zj I,y.world.cell? ⟨pe,2,none⟩=some (.bool ew):=fun y=>((HI.out _).1 y.holds).2.1.box.c 2 rfl
    have hne:Nonempty (zj I):=⟨⟨_,hI0⟩⟩;refine zL (I:=I) 17 [(14,fun _=>True)] (fun u=>Mk w0 hi u b vl L V9 { m' with fs:=m'.fs.set k { fr with r:=fr.r+1 } } vt9 T'/\zo hi w u) hI0 hF0 qn (by kernel_rfl) rfl rfl (by decide) ?hS (by kernel_rfl) ?_
    case hS=>
     intro x hx;simp only[mC,nM,or_false]at hx;subst hx;exact⟨undef,trivial⟩
    simp only[List.take,List.drop];iterate 1 (refine zg rfl rfl rfl (fun K hK=>?_);go_big_quiet_op;refine hK _ ?_;clear hK)
    refine zM (.tmp 91) ⟨b,0,none⟩ rfl rfl rfl rfl ?_;simp only[Act.put,sB,sS,sZ];iterate 4 (refine zg rfl rfl rfl (fun K hK=>?_);go_big_quiet_op;refine hK _ ?_;clear hK)
    refine zM (.tmp 96) ⟨b,0,none⟩ rfl rfl rfl rfl ?_;simp only[Act.put,sB,sS,sZ];iterate 7 (refine zg rfl rfl rfl (fun K hK=>?_);go_big_quiet_op;refine hK _ ?_;clear hK)
    refine zW rfl rfl (fun _ u=>Mk w0 hi u b vl L V9 { m' with fs:=m'.fs.set k { fr with r:=fr.r+1 } } vt9 (T'.set 0 (qu fA kk ⟨1,(k:Int),ew⟩))/\zo hi w u) (fun w' hI' hF'=>?_) (fun v1 hv=>?_)
    ·obtain⟨i1,i2,i3⟩:=(HI.out _).1 hI';obtain⟨k1,k2⟩:=hF';have hr:=k1.rows.tt;rw[HTV.out]at hr;refine jP (E:=Qo) (.tmp 104) (.tmp 101) 55 rfl w0.heap.size (.slice (some ⟨gt,0,none⟩) 2 ct) T' hr gt 0 (kk*3) rfl fA (qu fA kk ⟨1,(k:Int),ew⟩) TW.out.1 (env ⟨1,(k:Int),ew⟩) (by kernel_rfl) (jj fA hlt _) (by show kk*3+3<=192;omega) (enE.one _) _ rfl (by first | rfl | simp) (.agg (env ⟨1,(k:Int),ew⟩).toArray) rfl rfl (fun w2 ow gr sz=>?_)
     rw[<-HTV.out]at ow;have hM:=k1.setT (by rw[HTV.out];rfl) gr sz ow
     exact⟨(HI.out _).2 ⟨HIM.out _ _ _ hM.1,hM.2.1 _ _ _ i2 Qk,hM.2.1 _ _ _ i3 j3⟩,trivial,hM.1,k2.trans hM.2⟩
    try simp only[Act.put]
    iterate 2 (refine zg rfl rfl rfl (fun K hK=>?_);go_big_quiet_op;refine hK _ ?_;clear hK)
    refine qI fun W8 hI8 hF8=>?_
    have M8:Hid (Mk w0 hi W8 b vl L V9 { m' with fs:=m'.fs.set k { fr with r:=fr.r+1 } } vt9 (T'.set 0 (qu fA kk ⟨1,(k:Int),ew⟩))):=hF8.1;have K8:Hid (zo hi w W8):=hF8.2;have P8:Hid (zp W8 po 68 CO):=((HI.out _).1 hI8).2.2;clear hF8 hI8 hI0 hF0 ht he0 he1 he2 hne;have R8:Hid (zb Qo w0.heap.size W8 (.slice (some ⟨gt,0,none⟩) 2 ct) (T'.set 0 (qu fA kk ⟨1,(k:Int),ew⟩))):=show zb _ _ _ _ _ by rw[<-HTV.out];exact M8.out.rows.tt
    refine zt (E:=Qo) rfl (.tmp 106) (.tmp 102) 55 rfl w0.heap.size _ _ R8.out gt 1 (kk*3) rfl fB (qu fB kk ⟨1,(k:Int),ew⟩) (by rw[sN (by decide)];exact TW.out.2.1) (env ⟨1,(k:Int),ew⟩) (by kernel_rfl) (jj fB hlt _) (by show kk*3+3<=192;omega) (enE.one _) _ rfl (by first | rfl | simp) (.agg (env ⟨1,(k:Int),ew⟩).toArray) rfl rfl ?_
    intro W9 ow9 gr9 sz9;rw[<-HTV.out]at ow9;have hM9:=M8.out.setT (by rw[HTV.out];rfl) gr9 sz9 ow9
    have M9:Hid (Mk w0 hi W9 b vl L V9 { m' with fs:=m'.fs.set k { fr with r:=fr.r+1 } } vt9 ((T'.set 0 (qu fA kk ⟨1,(k:Int),ew⟩)).set 1 (qu fB kk ⟨1,(k:Int),ew⟩))):=hM9.1;have K9:Hid (zo hi w W9):=K8.out.trans hM9.2;have P9:Hid (zp W9 po 68 CO):=hM9.2.1 _ _ _ P8.out j3;have B9:Hid (qO { m' with fs:=m'.fs.set k { fr with r:=fr.r+1 } } ((T'.set 0 (qu fA kk ⟨1,(k:Int),ew⟩)).set 1 (qu fB kk ⟨1,(k:Int),ew⟩))):=(show qO _ _ from HBF.out _ (if_pos rfl).symm)
    clear hM9 ow9 gr9 sz9;go_wp2
    go_roundg (64 -(kk+1))
    case measure=>omega
    exact⟨kk+1,{ m' with fs:=m'.fs.set k { fr with r:=fr.r+1 } },_,_,_,by omega,by omega,by go_num,M9.out,K9.out,B9.out,(show _/\_ from⟨SW.out.1,SW.out.2.1,SW.out.2.2.1,List.length_set.trans SW.out.2.2.2⟩),HNX.out _,P9.out⟩
   | false=>
    rw[hsh]at o3 HBF;clear hsh;have e2:=E3.out.box.c 2 rfl;have xf:=E3.out.box.f;go_upto_region 10 with fail;clear o3 e0 e2 xf;obtain⟨W4,hW4⟩:∃W4,W3.setCell ⟨pe,2,none⟩ (.bool false)=W4:=⟨_,rfl⟩;have hg4:W3.grownBy W4 (some pe):=by rw[<-hW4];exact qY _ _ _ _
    have E4:Hid (zp W4 pe 55 [.int .i64 1,.int .i64 (k:Int),.bool false]):=dD<|by rw[<-hW4];exact E3.out.set 2 _
    have M4:Hid (Mk w0 hi W4 b vl L V9 { m' with fs:=m'.fs.set k { fr with r:=fr.r+1 } } vt9 T'):=M3.out.entry E3.out HEL.out.1 hg4;have K4:Hid (zo hi w W4):=K3.out.own hg4 HEL.out.2;have P4:Hid (zp W4 po 68 CO):=P3.out.beside hg4 (fun g e=>by
     cases e;intro e;have h1:W3.heap[po]? =_:=P3.out;rw[e,show W3.heap[pe]? =_ from E3.out]at h1
     cases h1)
    rw[hW4];clear hW4 hg4;have e0:=E4.out.box.c 0 rfl;go_upto_region 12 with fail;obtain⟨I,HI⟩:∃I:World->Prop,Hid (∀u,I u↔(u.cell? ⟨b,12,none⟩=some (.slice (some ⟨gt,0,none⟩) 2 ct)/\zp u pe 55 [.int .i64 1,.int .i64 (k:Int),.bool false]/\zp u po 68 CO)):=⟨fun u=>(u.cell? ⟨b,12,none⟩=some (.slice (some ⟨gt,0,none⟩) 2 ct)/\zp u pe 55 [.int .i64 1,.int .i64 (k:Int),.bool false]/\zp u po 68 CO),fun _=>Iff.rfl⟩
    have HIM:Hid (∀u m' T',Mk w0 hi u b vl L V9 m' vt9 T'->u.cell? ⟨b,12,none⟩=some (.slice (some ⟨gt,0,none⟩) 2 ct)):=dD<|fun u m' T' hm=>by
     have:=hm.box.box.c 12 rfl;rw[HTV.out]at this;exact this
    have hI0:I W4.drew:=(HI.out _).2 ⟨HIM.out _ _ _ (M4.out.grew (gW _)),E4.out.grew (gW _),P4.out.grew (gW _)⟩
    have hF0:Mk w0 hi W4.drew b vl L V9 { m' with fs:=m'.fs.set k { fr with r:=fr.r+1 } } vt9 T'/\zo hi w W4.drew:=⟨M4.out.grew (gW _),K4.out.trans (zo.grew (gW _))⟩
    have ht:∀y:zj I,y.world.cell? ⟨b,12,none⟩=some (.slice (some ⟨gt,0,none⟩) 2 ct):=fun y=>((HI.out _).1 y.holds).1
    have he0:∀y:zj I,y.world.cell? ⟨pe,0,none⟩=some (.int .i64 1):=fun y=>((HI.out _).1 y.holds).2.1.box.c 0 rfl
    have he1:∀y:zj I,y.world.cell? ⟨pe,1,none⟩=some (.int .i64 (k:Int)):=fun y=>((HI.out _).1 y.holds).2.1.box.c 1 rfl
    have he2:∀y:zj I,y.world.cell? ⟨pe,2,none⟩=some (.bool false):=fun y=>((HI.out _).1 y.holds).2.1.box.c 2 rfl
    have hne:Nonempty (zj I):=⟨⟨_,hI0⟩⟩;refine zL (I:=I) 17 [(14,fun _=>True)] (fun u=>Mk w0 hi u b vl L V9 { m' with fs:=m'.fs.set k { fr with r:=fr.r+1 } } vt9 T'/\zo hi w u) hI0 hF0 qn (by kernel_rfl) rfl rfl (by decide) ?hS (by kernel_rfl) ?_
    case hS=>
     intro x hx;simp only[mC,nM,or_false]at hx;subst hx;exact⟨undef,trivial⟩
    simp only[List.take,List.drop];iterate 1 (refine zg rfl rfl rfl (fun K hK=>?_);go_big_quiet_op;refine hK _ ?_;clear hK)
    refine zM (.tmp 91) ⟨b,0,none⟩ rfl rfl rfl rfl ?_;simp only[Act.put,sB,sS,sZ];iterate 4 (refine zg rfl rfl rfl (fun K hK=>?_);go_big_quiet_op;refine hK _ ?_;clear hK)
    refine zM (.tmp 96) ⟨b,0,none⟩ rfl rfl rfl rfl ?_;simp only[Act.put,sB,sS,sZ];iterate 7 (refine zg rfl rfl rfl (fun K hK=>?_);go_big_quiet_op;refine hK _ ?_;clear hK)
    refine zW rfl rfl (fun _ u=>Mk w0 hi u b vl L V9 { m' with fs:=m'.fs.set k { fr with r:=fr.r+1 } } vt9 (T'.set 0 (qu fA kk ⟨1,(k:Int),false⟩))/\zo hi w u) (fun w' hI' hF'=>?_) (fun v1 hv=>?_)
    ·obtain⟨i1,i2,i3⟩:=(HI.out _).1 hI';obtain⟨k1,k2⟩:=hF';have hr:=k1.rows.tt;rw[HTV.out]at hr;refine jP (E:=Qo) (.tmp 104) (.tmp 101) 55 rfl w0.heap.size (.slice (some ⟨gt,0,none⟩) 2 ct) T' hr gt 0 (kk*3) rfl fA (qu fA kk ⟨1,(k:Int),false⟩) TW.out.1 (env ⟨1,(k:Int),false⟩) (by kernel_rfl) (jj fA hlt _) (by show kk*3+3<=192;omega) (enE.one _) _ rfl (by first | rfl | simp) (.agg (env ⟨1,(k:Int),false⟩).toArray) rfl rfl (fun w2 ow gr sz=>?_)
     rw[<-HTV.out]at ow;have hM:=k1.setT (by rw[HTV.out];rfl) gr sz ow
     exact⟨(HI.out _).2 ⟨HIM.out _ _ _ hM.1,hM.2.1 _ _ _ i2 Qk,hM.2.1 _ _ _ i3 j3⟩,trivial,hM.1,k2.trans hM.2⟩
    try simp only[Act.put]
    iterate 2 (refine zg rfl rfl rfl (fun K hK=>?_);go_big_quiet_op;refine hK _ ?_;clear hK)
    refine qI fun W8 hI8 hF8=>?_
    have M8:Hid (Mk w0 hi W8 b vl L V9 { m' with fs:=m'.fs.set k { fr with r:=fr.r+1 } } vt9 (T'.set 0 (qu fA kk ⟨1,(k:Int),false⟩))):=hF8.1;have K8:Hid (zo hi w W8):=hF8.2;have P8:Hid (zp W8 po 68 CO):=((HI.out _).1 hI8).2.2;clear hF8 hI8 hI0 hF0 ht he0 he1 he2 hne;have R8:Hid (zb Qo w0.heap.size W8 (.slice (some ⟨gt,0,none⟩) 2 ct) (T'.set 0 (qu fA kk ⟨1,(k:Int),false⟩))):=show zb _ _ _ _ _ by rw[<-HTV.out];exact M8.out.rows.tt
    refine zt (E:=Qo) rfl (.tmp 106) (.tmp 102) 55 rfl w0.heap.size _ _ R8.out gt 1 (kk*3) rfl fB (qu fB kk ⟨1,(k:Int),false⟩) (by rw[sN (by decide)];exact TW.out.2.1) (env ⟨1,(k:Int),false⟩) (by kernel_rfl) (jj fB hlt _) (by show kk*3+3<=192;omega) (enE.one _) _ rfl (by first | rfl | simp) (.agg (env ⟨1,(k:Int),false⟩).toArray) rfl rfl ?_
    intro W9 ow9 gr9 sz9;rw[<-HTV.out]at ow9;have hM9:=M8.out.setT (by rw[HTV.out];rfl) gr9 sz9 ow9
    have M9:Hid (Mk w0 hi W9 b vl L V9 { m' with fs:=m'.fs.set k { fr with r:=fr.r+1 } } vt9 ((T'.set 0 (qu fA kk ⟨1,(k:Int),false⟩)).set 1 (qu fB kk ⟨1,(k:Int),false⟩))):=hM9.1;have K9:Hid (zo hi w W9):=K8.out.trans hM9.2;have P9:Hid (zp W9 po 68 CO):=hM9.2.1 _ _ _ P8.out j3;have B9:Hid (qO { m' with fs:=m'.fs.set k { fr with r:=fr.r+1 } } ((T'.set 0 (qu fA kk ⟨1,(k:Int),false⟩)).set 1 (qu fB kk ⟨1,(k:Int),false⟩))):=(show qO _ _ from HBF.out _ (if_neg (by decide)).symm)
    clear hM9 ow9 gr9 sz9;go_wp2
    go_roundg (64 -(kk+1))
    case measure=>omega
    exact⟨kk+1,{ m' with fs:=m'.fs.set k { fr with r:=fr.r+1 } },_,_,_,by omega,by omega,by go_num,M9.out,K9.out,B9.out,(show _/\_ from⟨SW.out.1,SW.out.2.1,SW.out.2.2.1,List.length_set.trans SW.out.2.2.2⟩),HNX.out _,P9.out⟩
  dsimp only at h1 h2;subst h1;subst h2;have HK:Hid (m'.sl[k]? =some z):=h3;obtain⟨nf,HNF⟩:∃nf,Hid (m'.sl.length=nf):=⟨_,rfl⟩;have hkn:k<nf:=by rw[<-HNF.out];exact(gS.1 h3).1
  have hkz:(k:Int)< (nf:Int):=by omega
  clear h3;have hk1:((2:Int) == 1)=false:=by decide
  have hk2:((2:Int) == 2)=true:=by decide
  obtain⟨g,cf,heq⟩:=M1.out.rows.sl.formS (by rw[HNF.out];omega)
  rw[HNF.out]at heq;have HEQ:Hid (Value.slice V9.s.a V9.s.n V9.s.c= .slice (some ⟨g,0,none⟩) nf cf):=heq;have hrw:=M1.out.rows.sl;rw[HEQ.out]at hrw;have HRW:Hid (zb slE w0.heap.size W1 (.slice (some ⟨g,0,none⟩) nf cf) m'.sl):=hrw;clear hrw heq;go_upto_region 11 with fail;clear e0;obtain⟨I,HI⟩:∃I:World->Prop,Hid (∀u,I u↔zc W1 u):=⟨fun u=>zc W1 u,fun _=>Iff.rfl⟩
  have hI0:I W1.drew:=(HI.out _).2 (gW _)
  have hx1:∀y:zj I,y.world.cell? ⟨b,3,none⟩=some (.slice (some ⟨g,0,none⟩) nf cf):=fun y=>by rw[<-HEQ.out];exact(M1.out.box.box.grew ((HI.out _).1 y.holds)).c 3 rfl
  have he1:∀y:zj I,y.world.cell? ⟨pe,1,none⟩=some (.int .i64 (k:Int)):=fun y=>(E1.out.box.grew ((HI.out _).1 y.holds)).c 1 rfl
  have hd8:∀y:zj I,y.world.cell? ⟨g,k,none⟩=some (.int .i64 z):=fun y=>by
   have:=(HRW.out.grew ((HI.out _).1 y.holds)).one HK.out 0 _ rfl;rw[zR,Addr.add_lit,zA]at this
   simpa [slE,Nat.mul_one]using this
  have hne:Nonempty (zj I):=⟨⟨_,hI0⟩⟩;refine ZQ (I:=I) 11 [] hI0 qn (by kernel_rfl) rfl rfl (by decide) (by simp) (by kernel_rfl) ?_
  simp only[List.take,List.drop];iterate 1 (refine qC rfl rfl rfl (fun K hK=>?_);go_big_quiet_op;refine hK _ ?_;clear hK)
  refine zbv (.tmp 80) ⟨b,0,none⟩ rfl rfl rfl rfl ?_;simp only[Act.put,sB,sS,sZ];iterate 9 (refine qC rfl rfl rfl (fun K hK=>?_);go_big_quiet_op;refine hK _ ?_;clear hK)
  refine za1 fun W2 hI2 hF=>?_
  have g2:=(HI.out _).1 hI2;have M2:=dD (M1.out.grew g2);have K2:=dD (K1.out.trans (zo.grew g2));have E2:=dD (E1.out.grew g2);have P2:=dD (P1.out.grew g2);have R2:=dD (HRW.out.grew g2);clear g2 hI2 hF hx1 he1 hd8 hne hI0;have xf:=R2.out.unfrozen rfl;have d8:W2.cell? ⟨g,k,none⟩=some (.int .i64 z):=by
   have:=R2.out.one HK.out 0 _ rfl;rw[zR,Addr.add_lit,zA]at this
   simpa [slE,Nat.mul_one]using this
  go_upto_region 12 with fail;clear d8 xf;obtain⟨ow3,gr3,sz3⟩:=R2.out.cell (k:=k) (o:=0) rfl HK.out (y:=z+1) (u:= .int .i64 (z+1)) rfl (by decide)
  obtain⟨W3,hW3⟩:∃W3,W2.setCell ⟨g,k,none⟩ (.int .i64 (z+1))=W3:=⟨_,rfl⟩;have e3:W2.setCell ⟨g,k*slE.k+0,none⟩ (.int .i64 (z+1))=W3:=by rw[<-hW3];simp[slE]
  rw[e3]at ow3 gr3 sz3;rw[hW3];rw[<-HEQ.out]at ow3;have hM3:=M2.out.setS (by rw[HEQ.out];rfl) gr3 sz3 ow3
  have M3:Hid (Mk w0 hi W3 b vl L V9 { m' with sl:=m'.sl.set k (z+1) } vt9 T'):=hM3.1;have K3:Hid (zo hi w W3):=K2.out.trans hM3.2;have E3:Hid (zp W3 pe 55 [.int .i64 2,.int .i64 (k:Int),.bool ew]):=hM3.2.1 _ _ _ E2.out Qk;have P3:Hid (zp W3 po 68 CO):=hM3.2.1 _ _ _ P2.out j3;clear e3 hW3 ow3 gr3 sz3 hM3;obtain⟨I,HI⟩:∃I:World->Prop,Hid (∀u,I u↔(u.cell? ⟨b,12,none⟩=some (.slice (some ⟨gt,0,none⟩) 2 ct)/\zp u pe 55 [.int .i64 2,.int .i64 (k:Int),.bool ew]/\zp u po 68 CO)):=⟨fun u=>(u.cell? ⟨b,12,none⟩=some (.slice (some ⟨gt,0,none⟩) 2 ct)/\zp u pe 55 [.int .i64 2,.int .i64 (k:Int),.bool ew]/\zp u po 68 CO),fun _=>Iff.rfl⟩
  have HIM:Hid (∀u m' T',Mk w0 hi u b vl L V9 m' vt9 T'->u.cell? ⟨b,12,none⟩=some (.slice (some ⟨gt,0,none⟩) 2 ct)):=dD<|fun u m' T' hm=>by
   have:=hm.box.box.c 12 rfl;rw[HTV.out]at this;exact this
  have hI0:I W3.drew:=(HI.out _).2 ⟨HIM.out _ _ _ (M3.out.grew (gW _)),E3.out.grew (gW _),P3.out.grew (gW _)⟩
  have hF0:Mk w0 hi W3.drew b vl L V9 { m' with sl:=m'.sl.set k (z+1) } vt9 T'/\zo hi w W3.drew:=⟨M3.out.grew (gW _),K3.out.trans (zo.grew (gW _))⟩
  have ht:∀y:zj I,y.world.cell? ⟨b,12,none⟩=some (.slice (some ⟨gt,0,none⟩) 2 ct):=fun y=>((HI.out _).1 y.holds).1
  have he0:∀y:zj I,y.world.cell? ⟨pe,0,none⟩=some (.int .i64 2):=fun y=>((HI.out _).1 y.holds).2.1.box.c 0 rfl
  have he1:∀y:zj I,y.world.cell? ⟨pe,1,none⟩=some (.int .i64 (k:Int)):=fun y=>((HI.out _).1 y.holds).2.1.box.c 1 rfl
  have he2:∀y:zj I,y.world.cell? ⟨pe,2,none⟩=some (.bool ew):=fun y=>((HI.out _).1 y.holds).2.1.box.c 2 rfl
  have hne:Nonempty (zj I):=⟨⟨_,hI0⟩⟩;refine zL (I:=I) 17 [(14,fun _=>True)] (fun u=>Mk w0 hi u b vl L V9 { m' with sl:=m'.sl.set k (z+1) } vt9 T'/\zo hi w u) hI0 hF0 qn (by kernel_rfl) rfl rfl (by decide) ?hS (by kernel_rfl) ?_
  case hS=>
   intro x hx;simp only[mC,nM,or_false]at hx;subst hx;exact⟨undef,trivial⟩
  simp only[List.take,List.drop];iterate 1 (refine zg rfl rfl rfl (fun K hK=>?_);go_big_quiet_op;refine hK _ ?_;clear hK)
  refine zM (.tmp 91) ⟨b,0,none⟩ rfl rfl rfl rfl ?_;simp only[Act.put,sB,sS,sZ];iterate 4 (refine zg rfl rfl rfl (fun K hK=>?_);go_big_quiet_op;refine hK _ ?_;clear hK)
  refine zM (.tmp 96) ⟨b,0,none⟩ rfl rfl rfl rfl ?_;simp only[Act.put,sB,sS,sZ];iterate 7 (refine zg rfl rfl rfl (fun K hK=>?_);go_big_quiet_op;refine hK _ ?_;clear hK)
  refine zW rfl rfl (fun _ u=>Mk w0 hi u b vl L V9 { m' with sl:=m'.sl.set k (z+1) } vt9 (T'.set 0 (qu fA kk ⟨2,(k:Int),ew⟩))/\zo hi w u) (fun w' hI' hF'=>?_) (fun v1 hv=>?_)
  ·obtain⟨i1,i2,i3⟩:=(HI.out _).1 hI';obtain⟨k1,k2⟩:=hF';have hr:=k1.rows.tt;rw[HTV.out]at hr;refine jP (E:=Qo) (.tmp 104) (.tmp 101) 55 rfl w0.heap.size (.slice (some ⟨gt,0,none⟩) 2 ct) T' hr gt 0 (kk*3) rfl fA (qu fA kk ⟨2,(k:Int),ew⟩) TW.out.1 (env ⟨2,(k:Int),ew⟩) (by kernel_rfl) (jj fA hlt _) (by show kk*3+3<=192;omega) (enE.one _) _ rfl (by first | rfl | simp) (.agg (env ⟨2,(k:Int),ew⟩).toArray) rfl rfl (fun w2 ow gr sz=>?_)
   rw[<-HTV.out]at ow;have hM:=k1.setT (by rw[HTV.out];rfl) gr sz ow
   exact⟨(HI.out _).2 ⟨HIM.out _ _ _ hM.1,hM.2.1 _ _ _ i2 Qk,hM.2.1 _ _ _ i3 j3⟩,trivial,hM.1,k2.trans hM.2⟩
  try simp only[Act.put]
  iterate 2 (refine zg rfl rfl rfl (fun K hK=>?_);go_big_quiet_op;refine hK _ ?_;clear hK)
  refine qI fun W8 hI8 hF8=>?_
  have M8:Hid (Mk w0 hi W8 b vl L V9 { m' with sl:=m'.sl.set k (z+1) } vt9 (T'.set 0 (qu fA kk ⟨2,(k:Int),ew⟩))):=hF8.1;have K8:Hid (zo hi w W8):=hF8.2;have P8:Hid (zp W8 po 68 CO):=((HI.out _).1 hI8).2.2;clear hF8 hI8 hI0 hF0 ht he0 he1 he2 hne;have R8:Hid (zb Qo w0.heap.size W8 (.slice (some ⟨gt,0,none⟩) 2 ct) (T'.set 0 (qu fA kk ⟨2,(k:Int),ew⟩))):=show zb _ _ _ _ _ by rw[<-HTV.out];exact M8.out.rows.tt
  refine zt (E:=Qo) rfl (.tmp 106) (.tmp 102) 55 rfl w0.heap.size _ _ R8.out gt 1 (kk*3) rfl fB (qu fB kk ⟨2,(k:Int),ew⟩) (by rw[sN (by decide)];exact TW.out.2.1) (env ⟨2,(k:Int),ew⟩) (by kernel_rfl) (jj fB hlt _) (by show kk*3+3<=192;omega) (enE.one _) _ rfl (by first | rfl | simp) (.agg (env ⟨2,(k:Int),ew⟩).toArray) rfl rfl ?_
  intro W9 ow9 gr9 sz9;rw[<-HTV.out]at ow9;have hM9:=M8.out.setT (by rw[HTV.out];rfl) gr9 sz9 ow9
  have M9:Hid (Mk w0 hi W9 b vl L V9 { m' with sl:=m'.sl.set k (z+1) } vt9 ((T'.set 0 (qu fA kk ⟨2,(k:Int),ew⟩)).set 1 (qu fB kk ⟨2,(k:Int),ew⟩))):=hM9.1;have K9:Hid (zo hi w W9):=K8.out.trans hM9.2;have P9:Hid (zp W9 po 68 CO):=hM9.2.1 _ _ _ P8.out j3;have B9:Hid (qO { m' with sl:=m'.sl.set k (z+1) } ((T'.set 0 (qu fA kk ⟨2,(k:Int),ew⟩)).set 1 (qu fB kk ⟨2,(k:Int),ew⟩))):=(show qO _ _ by
   have:=BW.out.forkS (s0:=s0) (s1:=⟨true,s0.ars,qN⟩) (by rw[SW.out.1];rfl) (by rw[SW.out.1];rfl) rfl TW.out.1 TW.out.2.1 hlt HBK.out HK.out (by rw[HAK.out]) (by rw[HAK.out])
   rw[HAK.out]at this;exact this)
  clear hM9 ow9 gr9 sz9;go_wp2
  go_roundg (64 -(kk+1))
  case measure=>omega
  exact⟨kk+1,{ m' with sl:=m'.sl.set k (z+1) },_,_,_,by omega,by omega,by go_num,M9.out,K9.out,B9.out,(show _/\_ from⟨SW.out.1,SW.out.2.1,SW.out.2.2.1,SW.out.2.2.2⟩),HNX.out _,P9.out⟩
 have hltz:¬(kk:Int)<64:=by omega
 have HE:Hid (Frk w0 hi b w vl L m s0.ars wr):=dD<|⟨V9,m',vt9,T',MW.out,KW.out,BW.out,by rw[SW.out.1,HS.out];rfl,SW.out.2⟩
 go_wp2
 (first | go_end0 | ((try simp only[Exit.inBlock,Exit.then]);refine bodyPost_ret (results_none rfl _ _ _) rfl ?_))
 first | exact HE.out | exact⟨⟨_,rfl⟩,HE.out⟩
section
variable{I:World->Prop} {P:Program} {ops:Array Oper} {S:Nat->Option zcf} {T:Nat}
theorem zcN {J:Act->World->Prop} (hJq:∀(j:Nat) o,ops[j]? =some o->S j=none->∀a v w,(execOp a.eval o).run P w= .ok (.value v) w->J a w->J (a.put o.dst v) w) (hJs:∀(j:Nat) o s,ops[j]? =some o->S j=some s->∀a w K,J a w->I w->zK P o a w K->zK P o a w fun v w'=>K v w'/\J (a.put o.dst v) w') (hJu:∀(j:Nat) o,ops[j]? =some o->∀a w,J a w->J (a.put o.dst undef) w) {Q:Act->World->Prop} {l:List Oper} {m:Nat} (hB:j4 ops T=true) (hTl:T+m=ops.size) (hll:l.length=m) (hops:∀j,l[j]? =ops[T+j]?) (hS:∀k s,S k=some s->∃v,s.pv v)
  (hp:∀k s j t,S k=some s->S j=some t->j≠k->anc ops 3 j k=false->∀v w w',t.step w w'->s.post v w->s.post v w') (hpre:∀j t k s,S j=some t->S k=some s->j≠k->∀w w',s.step w w'->t.pre w->t.pre w') (hQ:∀a w,J a w->Q a w->wpList P ops Q' l a w):
  ∀(fuel:Nat) (listed:Array Bool) (F:Nat->World->Prop) (a:Act) (w:World),listed.size=ops.size->(∀i,T<=i->i<ops.size->listed.getD i true=false)->(zd listed T).length=fuel->Zm ops listed->I w->J a w->
   (∀i,F i w)->(∀i,(∀w,F i w)\/∃s v,S i=some s/\F i=s.post v/\listed.getD i false=true)->(∀k t,S k=some t->listed.getD k true=false->t.pre w)->zhd I P ops S Q (zd listed T) F a->wpAny P .any ops Q' (fuel+m) listed a w:=by
 have hsel:=Region.noSelect_spec (ops:=ops) (by simp only[j4,Bool.and_eq_true]at hB;exact hB.1.1)
 intro fuel
 induction fuel with
 | zero=>
  intro listed F a w hsz hout hl hc hw hJ hF hFp hPre h;have hnil:zd listed T=[]:=eN hl;rw[hnil]at h;rw[zA];refine Zw hB m l T listed a w (nR _) hsz hTl hll hops (fun i hi=>?_) hout (hQ _ _ hJ (h w hw hF))
  cases hg:listed.getD i true with
  | true=>rfl
  | false=>
   have:i∈zd listed T:=List.mem_filter.2 ⟨List.mem_range.2 hi,by simp only[hg,beq_self_eq_true]⟩
   rw[hnil]at this;cases this
 | succ fuel ih=>
  intro listed F a w hsz hout hl hc hw hJ hF hFp hPre h;rw[Nat.add_right_comm];refine⟨fun hr=>?_,fun j hj=>?_⟩
  ·exfalso
   cases hu:zd listed T with
   | nil=>simp[hu]at hl
   | cons x xs=>
    have hx:x∈zd listed T:=by rw[hu];simp
    have hx':=List.mem_filter.1 hx;have hxT:x<T:=List.mem_range.1 hx'.1;have hxs:x<ops.size:=by omega
    have ho:ops[x]? =some ops[x]:=Array.getElem?_eq_getElem hxs;have hsorted:(zd listed T).Pairwise (·< ·):=List.Pairwise.filter _ List.pairwise_lt_range;have:x∈Region.ready .any ops listed:=by
     refine mem_ready.2 ⟨by simpa using hx'.2,ops[x],ho,fun e he hb=>?_⟩
     have hed:zaf ops e.on x=true:=(jg ho).2 ⟨e,he,hb,rfl⟩;have hlt:=js hB ho _ hed
     cases hg:listed.getD e.on true with
     | true=>exact Ja (by omega) hg
     | false=>
      have hmem:e.on∈zd listed T:=List.mem_filter.2 ⟨List.mem_range.2 (by omega),by simp only[hg,beq_self_eq_true]⟩
      rw[hu]at hmem hsorted
      rcases mC.1 hmem with e1|e1
      ·omega
      have:=(List.pairwise_cons.1 hsorted).1 _ e1;omega
    rw[hr]at this;cases this
  obtain⟨h0,oj,hoj,hall⟩:=mem_ready.1 hj;have hjs:j<ops.size:=(aS.1 hoj).1;have hdir:∀k,zaf ops k j=true->listed.getD k false=true:=fun k hk=>by
   obtain⟨e,he,hb,rfl⟩:=(jg hoj).1 hk;exact hall e he hb
  have hjT:j<T:=by
   rcases Nat.lt_or_ge j T with h1|h1
   ·exact h1
   exfalso
   cases hu:zd listed T with
   | nil=>simp[hu]at hl
   | cons x xs=>
    have hx:x∈zd listed T:=by rw[hu];simp
    have hx':=List.mem_filter.1 hx;have hxT:x<T:=List.mem_range.1 hx'.1;have:=qf hc j x j hdir (jX hB hoj h1 x (by omega))
    rw[qz (by simpa using hx'.2)]at this
    cases this
  have hju:j∈zd listed T:=List.mem_filter.2 ⟨List.mem_range.2 hjT,by simp only[h0,beq_self_eq_true]⟩
  have hnd:(zd listed T).Nodup:=List.Pairwise.filter _ List.nodup_range;have hsorted:(zd listed T).Pairwise (·< ·):=List.Pairwise.filter _ List.pairwise_lt_range;have hcm:=zhd.commute hoj hw hsel hS (zd listed T) F a hnd hju (fun i hi hij=>by
   have hi':=List.mem_filter.1 hi;have hun:listed.getD i false=false:=qz (by simpa using hi'.2)
   have his:i<ops.size:=by have:=List.mem_range.1 hi'.1;omega
   have hoi:ops[i]? =some ops[i]:=Array.getElem?_eq_getElem his;refine⟨ops[i],hoi,fun hlt=>?_,?_,fun hlt=>?_⟩
   ·rcases jY hB hoj hjT i hlt with he|⟨oi,hoi',hap⟩
    ·have:=hdir i he;rw[hun]at this;cases this
    rw[hoi]at hoi';cases hoi';exact hap
   ·cases ha:anc ops 3 i j with
    | false=>rfl
    | true=>
     have:=qf hc 3 i j hdir ha;rw[hun]at this;cases this
   cases ha:anc ops 3 j i with
   | false=>rfl
   | true=>
    have:=JP hB 3 j i ha
    omega) hsorted (fun m _=>hF m) h
  have hsz':(listed.setIfInBounds j true).size=ops.size:=by simp[hsz]
  have hout':∀i,T<=i->i<ops.size->(listed.setIfInBounds j true).getD i true=false:=fun i hi hi'=>by rw[getD_set_ne true (by omega)];exact hout i hi hi'
  have hlen':(zd (listed.setIfInBounds j true) T).length=fuel:=by
   rw[z8 (by omega)]
   have he:(zd listed T).filter (· != j)=(zd listed T).erase j:=by
    rw[List.Nodup.erase_eq_filter hnd]
   rw[he,List.length_erase_of_mem hju];omega
  have hc':Zm ops (listed.setIfInBounds j true):=fun i k hk hik=>by
   by_cases hkj:j=k
   ·subst hkj;exact getD_set_true (hdir i hik)
   rw[getD_set_ne false hkj]at hk;exact getD_set_true (hc i k hk hik)
  have hFs:(∀i,(∀w,F i w)\/∃s v,S i=some s/\F i=s.post v/\listed.getD i false=true)->∀i,(∀w,F i w)\/∃s v,S i=some s/\F i=s.post v/\(listed.setIfInBounds j true).getD i false=true:=fun h i=>by
   rcases h i with h1|⟨s1,v1,e1,e2,e3⟩
   ·exact .inl h1
   refine .inr ⟨s1,v1,e1,e2,?_⟩
   by_cases hij:j=i
   ·subst hij
    simp[show j<listed.size by omega]
   rw[getD_set_ne false hij];exact e3
  have hPs:∀k,(listed.setIfInBounds j true).getD k true=false->k≠j/\listed.getD k true=false:=fun k hl'=>by
   by_cases hkj:j=k
   ·subst hkj
    simp[show j<listed.size by omega]at hl'
   rw[getD_set_ne true hkj]at hl';exact⟨fun e=>hkj e.symm,hl'⟩
  unfold wpOp;simp only[hoj];simp only[zhd,jx,hoj]at hcm;rw[<-z8 (by omega)]at hcm
  split
  ·rename_i hwant
   simp only[hwant,if_true]at hcm;refine .inl ?_
   cases hs:S j with
   | none=>
    simp only[hs]at hcm;obtain⟨v,hrun,hk⟩:=hcm;have hr:=hrun w hw (fun m _=>hF m)
    unfold Oper.wp;rw[hr];exact ih _ F _ w hsz' hout' hlen' hc' hw (hJq j oj hoj hs a v w hr hJ) hF (hFs hFp) (fun k t hk' hl'=>(hPs k hl').elim fun _ q=>hPre k t hk' q) hk
   | some s=>
    simp only[hs]at hcm;refine(hJs j oj s hoj hs a w _ hJ hw (hcm.1 w hw (hPre j s hs h0) (fun m _=>hF m))).wp fun v w' ⟨⟨hi',hstep,hpv,hpost⟩,hJ'⟩=>?_
    refine ih _ (ZV F j (s.post v)) _ w' hsz' hout' hlen' hc' hi' hJ' (fun i=>?_) (fun i=>?_) (fun k t hk' hl'=>(hPs k hl').elim fun q1 q2=>hpre k t j s hk' hs q1 w w' hstep (hPre k t hk' q2)) (hcm.2 v hpv)
    ·unfold ZV
     split
     ·exact hpost
     rename_i hij
     rcases hFp i with h1|⟨s1,v1,e1,e2,e3⟩
     ·exact h1 w'
     rw[e2];refine hp i s1 j s e1 hs (fun e=>hij e.symm) ?_ v1 w w' hstep ?_
     ·cases ha:anc ops 3 j i with
      | false=>rfl
      | true=>
       have h1:=qf hc 3 j i (fun k hk=>hc k i e3 hk) ha
       rw[qz h0]at h1;cases h1
     have:=hF i;rw[e2]at this;exact this
    by_cases hij:i=j
    ·subst hij;refine .inr ⟨s,v,hs,?_,?_⟩
     ·unfold ZV;rw[if_pos rfl]
     simp[show i<listed.size by omega]
    rcases hFp i with h1|⟨s1,v1,e1,e2,e3⟩
    ·refine .inl fun w=>?_
     unfold ZV;rw[if_neg hij];exact h1 w
    refine .inr ⟨s1,v1,e1,?_,?_⟩
    ·unfold ZV;rw[if_neg hij];exact e2
    rw[getD_set_ne false (fun e=>hij e.symm)]
    exact e3
  rename_i hwant
  simp only[hwant]at hcm;exact ih _ F _ w hsz' hout' hlen' hc' hw (hJu j oj hoj a w hJ) hF (hFs hFp) (fun k t hk' hl'=>(hPs k hl').elim fun _ q=>hPre k t hk' q) hcm
end
section
variable{I:World->Prop} {P:Program}
theorem zdx {J:Act->World->Prop} {a:Act} {w:World} {L l r:List Oper} (T:Nat) (S:List (Nat × zcf)) (hI:I w.drew) (hJ0:J a w.drew) (hJq:∀(j:Nat) o,L.toArray[j]? =some o->S.lookup j=none->∀a v w,(execOp a.eval o).run P w= .ok (.value v) w->J a w->J (a.put o.dst v) w) (hJs:∀(j:Nat) o s,L.toArray[j]? =some o->S.lookup j=some s->∀a w K,J a w->I w->zK P o a w K->zK P o a w fun v w'=>K v w'/\J (a.put o.dst v) w') (hJu:∀(j:Nat) o,L.toArray[j]? =some o->∀a w,J a w->J (a.put o.dst undef) w) (hm:P.follows .mixedOrders=true) (hB:j4 L.toArray T=true) (hl:L.take T=l) (hr:L.drop T=r) (hT:T<=L.length)
  (hS:∀x∈S,∃v,x.2.pv v) (hp:∀k s j t,S.lookup k=some s->S.lookup j=some t->j≠k->anc L.toArray 3 j k=false->∀v w w',t.step w w'->s.post v w->s.post v w') (hpre:∀j t k s,S.lookup j=some t->S.lookup k=some s->j≠k->∀w w',s.step w w'->t.pre w->t.pre w') (hpr0:∀k t,S.lookup k=some t->t.pre w.drew)
  (h:zbU I P L.toArray (fun k=>S.lookup k) (fun a w=>J a w->wpList P L.toArray Q r a w) l 0 (fun _ _=>True) a):(Code.region id L.toArray true).wp P Q a w:=by
 have hlook:∀(S:List (Nat × zcf)) k s,S.lookup k=some s->∃x∈S,x.2=s:=by
  intro S
  induction S with
  | nil=>intro k s h;simp at h
  | cons x S ih=>
   intro k s h;rw[List.lookup_cons]at h
   split at h
   ·exact⟨x,by simp,by simpa using h⟩
   obtain⟨y,hy,he⟩:=ih k s h;exact⟨y,by simp[hy],he⟩
 have hlT:l.length=T:=by rw[<-hl,List.length_take];omega
 have hrT:r.length=L.length - T:=by rw[<-hr,List.length_drop]
 refine wp_region_any hm ?_;have hu:zd (Array.replicate L.toArray.size false) T=List.range T:=by
  unfold zd;refine List.filter_eq_self.2 fun i hi=>?_
  have:i<T:=by simpa using hi
  simp[show i<L.length by omega]
 have h':=ZF (ops:=L.toArray) l 0 _ a (fun j=>by
  rcases Nat.lt_or_ge j T with hj|hj
  ·left;rw[<-hl,List.getElem?_take_of_lt hj];simp
  right;omega) h.out
 rw[hlT,<-List.range_eq_range']at h';have hfin:=zcN (J:=J) hJq hJs hJu (I:=I) (P:=P) (S:=fun k=>S.lookup k) (F:=fun _ _=>True) (ops:=L.toArray) (T:=T) (l:=r) (m:=L.length - T) (Q:=fun a w=>J a w->wpList P L.toArray Q r a w) (Q':=Q) hB (by simp;omega) hrT (fun j=>by rw[<-hr,List.getElem?_drop];simp) (fun k s hs=>by obtain⟨x,hx,rfl⟩:=hlook S k s hs;exact hS x hx) hp hpre (fun _ _ hj h=>h hj)
  T (Array.replicate L.toArray.size false) a w.drew (by simp) (fun i hi hi'=>by simp at hi';simp[hi']) (by rw[hu];simp) (fun i j hj _=>by
   exfalso;rw[Array.getD_eq_getD_getElem?,Array.getElem?_replicate]at hj
   split at hj <;> simp at hj)
  hI hJ0 (fun _=>trivial) (fun _=> .inl fun _=>trivial) (fun k t hk _=>hpr0 k t hk) (by rw[hu];exact h')
 have hsz:T+(L.length - T)=L.toArray.size:=by simp;omega
 rw[hsz]at hfin;exact hfin
end
theorem zK.know {P:Program} {a:Act} {w:World} {K:Value->World->Prop} {J:Act->World->Prop} (h:zK P o a w K) (hk:∀n w',(execOp a.eval o).run P w= .ok n w'->(∃v,n= .value v/\J (a.put o.dst v) w')\/(n= .skip/\J (a.put o.dst undef) w')):zK P o a w fun v w'=>K v w'/\J (a.put o.dst v) w':=by
 unfold zK at h⊢
 generalize(execOp a.eval o).run P w=r at h hk⊢
 cases r with
 | ok n w'=>
  rcases hk n w' rfl with⟨v,rfl,hv⟩|⟨rfl,hv⟩
  ·exact⟨h,hv⟩
  exact⟨h,hv⟩
 | halt x w'=>exact h
def JA (ss:List Nat) (a:Act) (w:World):Prop:=(∀s∈ss,∀x n c,a.tmps.getD s undef= .slice (some x) n c->x.block<w.heap.size)/\∀s∈ss,∀t∈ss,s≠t->∀x n c y n' c',a.tmps.getD s undef= .slice (some x) n c->a.tmps.getD t undef= .slice (some y) n' c'->x.block≠y.block
theorem Zr {a:Act} {d:Option Nat} {v:Value} {s:Nat}:(a.put d v).tmps.getD s undef=a.tmps.getD s undef\/(d=some s/\(a.put d v).tmps.getD s undef=v):=by
 cases d with
 | none=>exact .inl rfl
 | some k=>
  by_cases e:k=s
  ·subst e
   by_cases hk:k<a.tmps.size
   ·refine .inr ⟨rfl,?_⟩
    show(a.tmps.setIfInBounds k v).getD k undef=v
    rw[Array.getD_eq_getD_getElem?,Array.getElem?_setIfInBounds_self_of_lt hk];rfl
   refine .inl ?_
   show(a.tmps.setIfInBounds k v).getD k undef=_
   rw[Array.setIfInBounds_eq_of_size_le (by omega)]
  refine .inl ?_
  show(a.tmps.setIfInBounds k v).getD s undef=_
  rw[Array.getD_eq_getD_getElem?,Array.getElem?_setIfInBounds_ne e,<-Array.getD_eq_getD_getElem?]
theorem JA.other {ss:List Nat} {a:Act} {w:World} {d:Option Nat} {v:Value} (h:JA ss a w) (hd:∀s∈ss,d≠some s) (hw:w.heap.size<=w'.heap.size):JA ss (a.put d v) w':=by
 have key:∀s∈ss,(a.put d v).tmps.getD s undef=a.tmps.getD s undef:=fun s hs=>(Zr (a:=a) (d:=d) (v:=v) (s:=s)).resolve_right fun e=>hd s hs e.1
 refine⟨fun s hs x n c he=>?_,fun s hs t ht hst x n c y n' c' he1 he2=>?_⟩
 ·rw[key s hs]at he;exact Nat.lt_of_lt_of_le (h.1 s hs x n c he) hw
 rw[key s hs]at he1;rw[key t ht]at he2;exact h.2 s hs t ht hst x n c y n' c' he1 he2
theorem JA.new {ss:List Nat} {a:Act} {w:World} {d:Option Nat} {n0 c0:Nat} (h:JA ss a w) (hw:w.heap.size<w'.heap.size):JA ss (a.put d (.slice (some ⟨w.heap.size,0,none⟩) n0 c0)) w':=by
 have key:∀s∈ss,∀x n c,(a.put d (.slice (some ⟨w.heap.size,0,none⟩) n0 c0)).tmps.getD s undef= .slice (some x) n c->(a.tmps.getD s undef= .slice (some x) n c/\x.block<w.heap.size)\/(d=some s/\x.block=w.heap.size):=fun s hs x n c he=>by
  rcases Zr (a:=a) (d:=d) (v:= .slice (some ⟨w.heap.size,0,none⟩) n0 c0) (s:=s)with e|⟨e1,e2⟩
  ·rw[e]at he;exact .inl ⟨he,h.1 s hs x n c he⟩
  rw[e2]at he;cases he;exact .inr ⟨e1,rfl⟩
 refine⟨fun s hs x n c he=>?_,fun s hs t ht hst x n c y n' c' he1 he2=>?_⟩
 ·rcases key s hs x n c he with h1|h1 <;> omega
 rcases key s hs x n c he1 with⟨h1,h1'⟩|⟨h1,h1'⟩ <;> rcases key t ht y n' c' he2 with⟨h2,h2'⟩|⟨h2,h2'⟩
 ·exact h.2 s hs t ht hst x n c y n' c' h1 h2
 ·omega
 ·omega
 rw[h1]at h2;cases h2;exact absurd rfl hst
theorem JA.undef {ss:List Nat} {a:Act} {w:World} {d:Option Nat} (h:JA ss a w):JA ss (a.put d Go.undef) w:=by
 have key:∀s∈ss,∀x n c,(a.put d Go.undef).tmps.getD s Go.undef= .slice (some x) n c->a.tmps.getD s Go.undef= .slice (some x) n c:=fun s hs x n c he=>by
  rcases Zr (a:=a) (d:=d) (v:=Go.undef) (s:=s)with e|⟨e1,e2⟩
  ·rw[e]at he;exact he
  rw[e2]at he;cases he
 exact⟨fun s hs x n c he=>h.1 s hs x n c (key s hs x n c he),fun s hs t ht hst x n c y n' c' he1 he2=>h.2 s hs t ht hst x n c y n' c' (key s hs _ _ _ he1) (key t ht _ _ _ he2)⟩
theorem zjs {P:Program} {w:World} {i:TypeInfo} {z:Value} (hu:P.underlying t=some (.slice e)) (hi:P.info? e=some i) (hz:i.zero=some z) (x:Value) (hx:x=undef\/∃n:Nat,x= .int .i64 n/\n*i.bytes<=140737488355328/\n<=1000) {v:Value} (h:(Instr.makeSlice t x x).run P w= .ok v w'):∃l c,v= .slice (some ⟨w.heap.size,0,none⟩) l c/\w.heap.size<w'.heap.size:=by
 rcases hx with rfl|⟨n,rfl,hn,hn2⟩
 ·exfalso
  simp[Instr.makeSlice,run_underlying hu,asInt,asIntOf,undef]at h
 have hb:((i.bytes:Int)*(n:Int))<=281474976710656:=by
  rw[<-Int.natCast_mul,Nat.mul_comm];omega
 have hrun:=run_make (P:=P) w t e i z hu hi hz .i64 .i64 n n (by omega) (Int.le_refl _) hb (by omega)
 rw[hrun]at h;cases h;exact⟨_,_,rfl,by simp⟩
def JB (nf ns nb:Nat) (a:Act) (w:World):Prop:=(a.tmps.getD 0 undef= .int .i64 nf/\a.tmps.getD 1 undef= .int .i64 ns/\a.tmps.getD 2 undef= .int .i64 nb)/\(∀s∈[32,35,37,40],a.tmps.getD s undef=undef\/∃n:Nat,a.tmps.getD s undef= .int .i64 n/\n<=80)/\JA [38,41] a w
section
variable{nf ns nb:Nat} {a:Act} {w w':World}
theorem JB.other {d:Option Nat} {v:Value} (h:JB nf ns nb a w) (hd:∀s∈[0,1,2,32,35,37,40,38,41],d≠some s) (hw:w.heap.size<=w'.heap.size):JB nf ns nb (a.put d v) w':=by
 have key:∀s∈[0,1,2,32,35,37,40,38,41],(a.put d v).tmps.getD s undef=a.tmps.getD s undef:=fun s hs=>(Zr (a:=a) (d:=d) (v:=v) (s:=s)).resolve_right fun e=>hd s hs e.1
 refine⟨⟨by rw[key 0 (by simp)];exact h.1.1,by rw[key 1 (by simp)];exact h.1.2.1,by rw[key 2 (by simp)];exact h.1.2.2⟩,fun s hs=>?_,h.2.2.other (fun s hs=>hd s (by simp at hs⊢;omega)) hw⟩
 rw[key s (by simp at hs⊢;omega)]
 exact h.2.1 s hs
theorem JB.num {s:Nat} {n:Nat} (h:JB nf ns nb a w) (hs:s∈[32,35,37,40]) (hn:n<=80):JB nf ns nb (a.put (some s) (.int .i64 n)) w:=by
 have key:∀t,t≠s->(a.put (some s) (.int .i64 n)).tmps.getD t undef=a.tmps.getD t undef:=fun t ht=>(Zr (a:=a) (d:=some s) (v:= .int .i64 n) (s:=t)).resolve_right fun e=>ht (by simpa using e.1.symm)
 have hs0:s≠0/\s≠1/\s≠2/\s≠38/\s≠41:=by simp at hs;omega
 refine⟨⟨by rw[key 0 (by omega)];exact h.1.1,by rw[key 1 (by omega)];exact h.1.2.1,by rw[key 2 (by omega)];exact h.1.2.2⟩,fun t ht=>?_,h.2.2.other (fun t ht e=>by simp only[Option.some.injEq]at e;subst e;simp only[mC,nM,or_false]at ht;omega) (nR _)⟩
 rcases Zr (a:=a) (d:=some s) (v:= .int .i64 n) (s:=t)with e|⟨_,e⟩
 ·rw[e];exact h.2.1 t ht
 exact .inr ⟨n,e,hn⟩
theorem JB.new {d:Option Nat} {n0 c0:Nat} (h:JB nf ns nb a w) (hd:∀s∈[0,1,2,32,35,37,40],d≠some s) (hw:w.heap.size<w'.heap.size):JB nf ns nb (a.put d (.slice (some ⟨w.heap.size,0,none⟩) n0 c0)) w':=by
 have key:∀s∈[0,1,2,32,35,37,40],(a.put d (.slice (some ⟨w.heap.size,0,none⟩) n0 c0)).tmps.getD s undef=a.tmps.getD s undef:=fun s hs=>(Zr (a:=a) (d:=d) (s:=s)).resolve_right fun e=>hd s hs e.1
 refine⟨⟨by rw[key 0 (by simp)];exact h.1.1,by rw[key 1 (by simp)];exact h.1.2.1,by rw[key 2 (by simp)];exact h.1.2.2⟩,fun s hs=>?_,h.2.2.new hw⟩
 rw[key s (by simp at hs⊢;omega)]
 exact h.2.1 s hs
def okQ (o:Oper):Bool:=
 match o.dst with
 | none=>true
 | some d=>!([0,1,2,32,35,37,40,38,41].contains d) || (match o.op with | .move (.tmp x)=>[(32,0),(35,1),(37,1),(40,2)].contains (d,x) | _=>false)
theorem JB.quiet {v:Value} (h:JB nf ns nb a w) (ho:okQ o=true) (hf:nf<=80) (hs:ns<=80) (hb:nb<=80) (hr:(execOp a.eval o).run prog w= .ok (.value v) w):JB nf ns nb (a.put o.dst v) w:=by
 unfold okQ at ho
 cases hd:o.dst with
 | none=>exact h.other (fun s _ e=>by cases e) (nR _)
 | some d=>
  rw[hd]at ho;simp only[Bool.or_eq_true]at ho
  rcases ho with ho|ho
  ·refine h.other (fun s hs e=>?_) (nR _)
   cases e;simp only[Bool.not_eq_true',List.contains_eq_mem,decide_eq_false_iff_not]at ho;exact ho hs
  cases hop:o.op with
  | move x=>
   rw[hop]at ho
   cases x with
   | tmp x=>
    simp only[List.contains_eq_mem,decide_eq_true_eq]at ho;have hv:v=a.tmps.getD x undef:=by
     simp only[execOp,hop,Sem.run_pure,Result.ok.injEq,Next.value.injEq,and_true]at hr;exact hr.symm
    simp only[mC,pJ,nM,or_false]at ho
    rcases ho with⟨rfl,rfl⟩|⟨rfl,rfl⟩|⟨rfl,rfl⟩|⟨rfl,rfl⟩
    ·rw[hv,h.1.1];exact h.num (by simp) hf
    ·rw[hv,h.1.2.1];exact h.num (by simp) hs
    ·rw[hv,h.1.2.1];exact h.num (by simp) hs
    rw[hv,h.1.2.2];exact h.num (by simp) hb
   | _=>simp at ho
  | _=>rw[hop]at ho;simp at ho
theorem JB.undef {d:Option Nat} (h:JB nf ns nb a w) (hd:∀s∈[0,1,2],d≠some s):JB nf ns nb (a.put d Go.undef) w:=by
 have key:∀s∈[0,1,2],(a.put d Go.undef).tmps.getD s Go.undef=a.tmps.getD s Go.undef:=fun s hs=>(Zr (a:=a) (d:=d) (s:=s)).resolve_right fun e=>hd s hs e.1
 refine⟨⟨by rw[key 0 (by simp)];exact h.1.1,by rw[key 1 (by simp)];exact h.1.2.1,by rw[key 2 (by simp)];exact h.1.2.2⟩,fun s hs=>?_,h.2.2.undef⟩
 rcases Zr (a:=a) (d:=d) (v:=Go.undef) (s:=s)with e|⟨_,e⟩
 ·rw[e];exact h.2.1 s hs
 exact .inl e
theorem JB.make {K:Value->World->Prop} (h:JB nf ns nb a w) (t e:TypeId) (i:TypeInfo) (z:Value) (s:Nat) (hop:o.op= .makeSlice t (.tmp s) (.tmp s)) (hs:s∈[32,35,37,40]) (hu:Tryz.prog.underlying t=some (.slice e)) (hi:Tryz.prog.info? e=some i) (hz:i.zero=some z) (hb:i.bytes<=1000) (hd:∀s∈[0,1,2,32,35,37,40],o.dst≠some s) (hk:zK prog o a w K):zK prog o a w fun v w'=>K v w'/\JB nf ns nb (a.put o.dst v) w':=by
 refine hk.know fun n w' hr=>?_
 left;simp only[execOp,hop,Sem.run_bind]at hr
 cases hm:(Instr.makeSlice t (a.eval (.tmp s)) (a.eval (.tmp s))).run prog w with
 | halt x w1=>rw[hm]at hr;cases hr
 | ok v w1=>
  rw[hm]at hr;simp only[rA,Sem.run_pure,Result.ok.injEq]at hr;obtain⟨rfl,rfl⟩:=hr;obtain⟨l,c,rfl,hlt⟩:=zjs hu hi hz _ (by
   rcases h.2.1 s hs with e|⟨n,e,hn⟩
   ·exact .inl e
   refine .inr ⟨n,e,?_,by omega⟩
   have:n*i.bytes<=80*1000:=Nat.mul_le_mul hn hb
   omega) hm
  exact⟨_,rfl,h.new hd hlt⟩
end
def okL (L:List Oper) (Sx:List Nat):Bool:=L.zipIdx.all fun p=>Sx.contains p.2 || okQ p.1
theorem zjd {L:List Oper} {Sx:List Nat} (h:okL L Sx=true) (hj:L.toArray[j]? =some o) (hn:j∉Sx):okQ o=true:=by
 unfold okL at h;have hm:(o,j)∈L.zipIdx:=by
  rw[List.mem_iff_getElem?];exact⟨j,by rw[List.getElem?_zipIdx];simp at hj;simp[hj]⟩
 have:=List.all_eq_true.1 h _ hm;simp only[Bool.or_eq_true,List.contains_eq_mem,decide_eq_true_eq]at this;exact this.resolve_left hn
def okD (L:List Oper):Bool:=L.all fun o=>match o.dst with | none=>true | some d=>!([0,1,2].contains d)
theorem zje {L:List Oper} (h:okD L=true) (hj:L.toArray[j]? =some o):∀s∈[0,1,2],o.dst≠some s:=fun s hs e=>by
 unfold okD at h;have:=List.all_eq_true.1 h o (by simp at hj;exact mG hj)
 rw[e]at this;simp only[Bool.not_eq_true',List.contains_eq_mem,decide_eq_false_iff_not]at this;exact this hs
theorem zgE {α:Type} {A B C D:α} (h:List.lookup j [(2,A),(5,B),(7,C),(10,D)]=none):j∉ [2,5,7,10]:=fun hm=>by
 simp only[mC,nM,or_false]at hm
 rcases hm with rfl|rfl|rfl|rfl <;> simp[List.lookup_cons]at h
theorem zdH {α:Type} (E:Elt α) {a:Act} (w:World) (n:Nat) (hn:n*E.bytes<=140737488355328) {l:Operand} (ho:o.op= .makeSlice E.st l l:=by rfl) (hl:a.eval l= .int .i64 n:=by rfl):
  ∃C,(execOp a.eval o).run prog w= .ok (.value (.slice (some ⟨w.heap.size,0,none⟩) n n)) (w.alloc (.cells C E.ty))/\zb E w.heap.size (w.alloc (.cells C E.ty)) (.slice (some ⟨w.heap.size,0,none⟩) n n) (List.replicate n E.zero):=by
 obtain⟨i0,hi,hz0,hz1,hz2⟩:=info_parts E.info;have h2:n*1<=n*E.bytes:=Nat.mul_le_mul_left _ (nT E.pos E.few);have hb:((E.bytes:Int)*(n:Int))<=140737488355328:=by
  obtain⟨B,hB⟩:∃B,n*E.bytes=B:=⟨_,rfl⟩;rw[hB]at hn;rw[<-Int.natCast_mul,Nat.mul_comm,hB];omega
 have hrun:=run_make (P:=prog) w E.st E.ty i0 _ E.und hi hz0 .i64 .i64 n n (by omega) (Int.le_refl _) (by rw[hz2];exact Int.le_trans hb (by omega)) (by omega)
 rw[hz1,tN]at hrun;refine⟨madeCells E.zv.cells (n*E.k),by simp only[execOp,ho,hl,Sem.run_bind,hrun,Result.andThen,Sem.run_pure],⟨⟨?_,.inr ⟨w.heap.size,n,madeCells E.zv.cells (n*E.k),by rw[lR],nR _,?_,?_,?_,?_,?_⟩⟩,by rw[lR];exact hn⟩⟩
 ·rw[jU E]
 ·show(w.heap.push _)[w.heap.size]? =_
  simp
 ·rw[lR];exact nR _
 ·exact qx (by omega)
 ·rw[size_madeCells]
 rw[lR,List.take_of_length_le (by simp[madeCells]),zfL E]
theorem zb5 {a:Act} (w:World) (n:Nat) (hn:n<=80) {l:Operand} (ho:o.op= .makeSlice 31 l l:=by rfl) (hl:a.eval l= .int .i64 n:=by rfl):
  ∃C,(execOp a.eval o).run prog w= .ok (.value (.slice (some ⟨w.heap.size,0,none⟩) n n)) (w.alloc (.cells C 44))/\zh w.heap.size (w.alloc (.cells C 44)) (.slice (some ⟨w.heap.size,0,none⟩) n n) (List.replicate n zz):=by
 obtain⟨i0,hi,hz0,hz1,hz2⟩:=info_parts zlK;have hrun:=run_make (P:=prog) w 31 44 i0 _ underlying31 hi hz0 .i64 .i64 n n (by omega) (Int.le_refl _) (by rw[hz2];omega) (by omega)
 rw[hz1,tN]at hrun;refine⟨madeCells #[.int .u8 0,.int .u8 0,.int .u8 0,.int .u8 0,.int .u8 0,.int .u8 0,.int .u8 0,.int .u8 0] (n*8),by simp only[execOp,ho,hl,Sem.run_bind,hrun,Result.andThen,Sem.run_pure,Value.cells],⟨⟨?_,.inr ⟨w.heap.size,n,madeCells #[.int .u8 0,.int .u8 0,.int .u8 0,.int .u8 0,.int .u8 0,.int .u8 0,.int .u8 0,.int .u8 0] (n*8),by rw[lR],nR _,?_,?_,?_,?_,?_⟩⟩,fun p hp=>by rw[List.eq_of_mem_replicate hp];rfl,by rw[lR];omega⟩⟩
 ·rw[qD (k:=8) _ (fun a ha=>by rw[List.eq_of_mem_replicate ha];rfl)]
 ·show(w.heap.push _)[w.heap.size]? =_
  simp
 ·rw[lR];exact nR _
 ·exact qx (by omega)
 ·rw[size_madeCells]
 rw[lR]
 show(madeCells #[.int .u8 0,.int .u8 0,.int .u8 0,.int .u8 0,.int .u8 0,.int .u8 0,.int .u8 0,.int .u8 0] (n*8)).toList.take (n*8)=_
 rw[List.take_of_length_le (by simp[madeCells]),zcp]
theorem zac {α:Type} (E:Elt α) {a:Act} {K:Value->World->Prop} (w:World) (n:Nat) (hn:n*E.bytes<=140737488355328) (l:Operand) (ho:o.op= .makeSlice E.st l l) (hl:a.eval l= .int .i64 n) (h:∀C,zb E w.heap.size (w.alloc (.cells C E.ty)) (.slice (some ⟨w.heap.size,0,none⟩) n n) (List.replicate n E.zero)->K (.slice (some ⟨w.heap.size,0,none⟩) n n) (w.alloc (.cells C E.ty))):zK prog o a w K:=by
 obtain⟨C,hr,h1⟩:=zdH E w n hn ho hl;exact zK.step hr (h C h1)
theorem Jc {a:Act} {K:Value->World->Prop} (w:World) (n:Nat) (hn:n<=80) (l:Operand) (ho:o.op= .makeSlice 31 l l) (hl:a.eval l= .int .i64 n) (h:∀C,zh w.heap.size (w.alloc (.cells C 44)) (.slice (some ⟨w.heap.size,0,none⟩) n n) (List.replicate n zz)->K (.slice (some ⟨w.heap.size,0,none⟩) n n) (w.alloc (.cells C 44))):zK prog o a w K:=by
 obtain⟨C,hr,h1⟩:=zb5 w n hn ho hl;exact zK.step hr (h C h1)
theorem zdw {rest:List Oper} {op:Oper} {a:Act} {w:World} (hgd:op.guard=none) (ty:TypeId) (p x:Operand) (ho:op.op= .store ty p x) (b o:Nat) (hp:a.eval p= .pointer (some ⟨b,o,none⟩)) (vs:List Value) (hx:a.eval x= .agg vs.toArray)
  {cs:List Value} {t:TypeId} (hb:zp w b t cs) (hl:o+vs.length<=cs.length) (hi:(Tryz.prog.info? ty).map (·.size)=some vs.length) (h1:∀v∈vs,v.oneCell'=true)
  (h:∀w',zp w' b t (splice cs o vs)->w.grownBy w' (some b)->w'.heap.size=w.heap.size->wpList prog ops Q rest (a.put op.dst undef) w'):wpList prog ops Q (op :: rest) a w:=by
 refine wpList_store_mid hgd ty p x ho b o vs.toArray hp hx ?_ ?_ (all_oneCell_toArray h1) ?_
 ·intro j hj;have:=hb.box.there (o+j) (by simp at hj;omega)
  rw[zA]at this;exact this
 ·simpa using hi
 exact h _ (hb.part hl) (zS b vs o w).1 (zS b vs o w).2
theorem zjn {w:World} {gf gl gsb gdb nf ns nb:Nat} (gr:zc w W) (hb:w.heap.size<=b) (box:zp W b 95 [.slice vl.a vl.n vl.c,.slice (some ⟨gf,0,none⟩) nf nf,.int .i64 0,.slice (some ⟨gl,0,none⟩) ns ns,.slice (some ⟨gsb,0,none⟩) ns ns,.slice none 0 0,.slice (some ⟨gdb,0,none⟩) nb nb,.slice none 0 0,.slice none 0 0,.int .i64 (nb:Int),.slice none 0 0,.slice none 0 0,.slice none 0 0]) (lr:zr byE w (.slice vl.a vl.n vl.c) L) (lc:vl.n<=vl.c) (lb:∀z∈L,0<=z/\z<256)
  (o1:zb QO w.heap.size W (.slice (some ⟨gf,0,none⟩) nf nf) (List.replicate nf fr0)) (o2:zb slE w.heap.size W (.slice (some ⟨gl,0,none⟩) ns ns) (List.replicate ns 0)) (o3:zh w.heap.size W (.slice (some ⟨gsb,0,none⟩) ns ns) (List.replicate ns zz)) (o4:zh w.heap.size W (.slice (some ⟨gdb,0,none⟩) nb nb) (List.replicate nb zz)) (hap:gsb≠gdb):
  Mk w W.heap.size W b vl L ⟨⟨some ⟨gf,0,none⟩,nf,nf⟩,⟨some ⟨gl,0,none⟩,ns,ns⟩,⟨some ⟨gsb,0,none⟩,ns,ns⟩,zu,⟨some ⟨gdb,0,none⟩,nb,nb⟩,zu,zu,zu,zu⟩ ⟨List.replicate nf fr0,0,List.replicate ns 0,List.replicate ns zz,[],List.replicate nb zz,[],[],nb,[],[]⟩ zu []:=by
 have hp:∀{v:Value} {ps:List (List Int)},zh w.heap.size W v ps->∀g,v.ownBlock=some g->g<W.heap.size:=fun h g hg=>by
  obtain⟨_,cs,h2⟩:=ZU h hg;exact(aS.1 h2).1
 refine⟨gr,hb,box,lr,lc,lb,⟨nR _,bS gr,o1,o2,fun g hg=>(o2.lt g hg).2,o3,hp o3,⟨rfl,rfl⟩,o4,hp o4,⟨World.ownsRow_nil _ _ _ _,by simp,by simp⟩,⟨[],zb.nil _ _ _,rfl,fun i x f hx=>by cases hx⟩,zb.nil _ _ _,⟨[],zb.nil _ _ _,rfl,fun i x s hx=>by cases hx⟩,zb.nil _ _ _,⟨fun g hg e=>?_,fun f hf _=>by rw[List.eq_of_mem_replicate hf];rfl⟩⟩⟩
 simp only[Value.ownBlock,Option.some.injEq]at hg e;exact hap (hg.trans e.symm)
def zfT (n k:Nat):List Fr:=List.replicate k frF++List.replicate (n - k) fr0
theorem zib (n:Nat):zfT n 0=List.replicate n fr0:=by simp[zfT]
theorem zjH (n:Nat):zfT n n=List.replicate n frF:=by simp[zfT]
theorem zkF (n k:Nat):qF (zfT n k):=fun f hf _=>by
 unfold zfT at hf
 rcases List.mem_append.1 hf with e|e
 ·rw[List.eq_of_mem_replicate e];rfl
 rw[List.eq_of_mem_replicate e];rfl
theorem zic {n k:Nat} (h:k<n):(zfT n k)[k]? =some fr0:=by
 unfold zfT;rw[aR (by simp),lR,Nat.sub_self,List.getElem?_replicate,if_pos (by omega)]
theorem zjG {n k:Nat} (h:k<n):(zfT n k).set k frF=zfT n (k+1):=by
 unfold zfT;rw[List.set_append_right _ _ (by simp),lR,Nat.sub_self]
 obtain⟨j,hj⟩:∃j,n - k=j+1:=⟨n - k - 1,by omega⟩
 rw[hj,show n -(k+1)=j by omega,List.replicate_succ,sZ,List.replicate_succ',List.append_assoc]
 rfl
theorem zb7 {w:World} {base:Nat} {v:Value} {qs:List (Int × List Int)} (ty:TypeId) (h:zm base w v qs) (g:Nat) (q:Int × List Int) (h8:q.2.length=8) (hv:jl w ⟨g,0,none⟩ (ptc q)) (hl:qs.length<=1000) (hbase:base<=w.heap.size):
  ∃v' w',(Builtin.append_ #[32,32] ty #[v,.slice (some ⟨g,0,none⟩) 1 1]).run prog w= .ok v' w'/\zm base w' v' (qs++ [q])/\w.grownBy w' v.ownBlock:=by
 obtain⟨i0,hi,hz0,hz1,hz2⟩:=info_parts zlL;obtain⟨v',w',hr,ho,hg,_⟩:=run_append_own (P:=prog) w base 32 ty 100 i0 _ 9 16 underlying32 hi hz0 hz1 hz2 rfl (by decide) v qs.length _ h.1 ⟨g,0,none⟩ 1 1 (ptc q) (by rw[zan,h8]) hv (zbk _) (qx (by omega)) (by omega) hbase
 refine⟨v',w',hr,⟨?_,fun x hx=>?_,by simp;omega⟩,hg⟩
 ·rw[lA,List.flatMap_append]
  simpa using ho
 rcases List.mem_append.1 hx with hx|hx
 ·exact h.2.1 x hx
 simp only[mC,nM,or_false]at hx;rw[hx];exact h8
section
variable{base hi:Nat} {w w':World} {V:MaV} {m:Ma} {vt:Sli} {T:List (Nat->En)}
theorem JI {v:Value} {qs:List (Int × List Int)} (h:zm base w v qs) {g:Nat} (hg:v.ownBlock=some g):base<=g/\∃cs,w.heap[g]? =some (.cells cs 100 (0,0)):=by
 rcases h.1.2 with⟨rfl,_⟩|⟨k,cap,cur,rfl,h2,h3,_⟩
 ·cases hg
 simp only[Value.ownBlock,Option.some.injEq]at hg;subst hg;exact⟨h2,cur,h3⟩
theorem MkR.addDq (h:MkR base hi w V m vt T) (hg:w.grownBy w' (Value.slice V.dq.a V.dq.n V.dq.c).ownBlock) (s:Sli) {qs:List (Int × List Int)} (ho:zm base w' (.slice s.a s.n s.c) qs):MkR base hi w' { V with dq:=s } { m with dq:=qs } vt T:=by
 cases hob:(Value.slice V.dq.a V.dq.n V.dq.c).ownBlock with
 | none=>
  rw[hob]at hg;have h':=h.grew (qo hg);exact⟨h'.hw,h'.bh,h'.fs,h'.sl,h'.slh,h'.sb,h'.sbh,h'.sq,h'.db,h'.dbh,ho,h'.fl,h'.ca,h'.sp,h'.tt,h'.ap⟩
 | some g=>
  rw[hob]at hg;obtain⟨_,cs,hc⟩:=JI h.dq hob;obtain⟨k1,k2,k3,k4,k5,k6,k7,k8,k9⟩:=h.kept hg hc;exact⟨nT h.hw hg.size,h.bh,k1 (by decide),k2 (.inl (by decide)),h.slh,k3 (.inl (by decide)),h.sbh,h.sq,k4 (.inl (by decide)),h.dbh,ho,k6 (by decide) (.inl (by decide)),k7 (by decide),k8 (by decide) (by decide),k9 (by decide),h.ap⟩
theorem MkR.addFl {xs:List FlV} (h:MkR base hi w V m vt T) (f1:zb fvE base w (.slice V.fl.a V.fl.n V.fl.c) xs) (f2:xs.length=m.fl.length) (f3:∀(i:Nat) x f,xs[i]? =some x->m.fl[i]? =some f->x.size=f.size/\zb blE hi w x.v f.bl)
  (hg:w.grownBy w' (Value.slice V.fl.a V.fl.n V.fl.c).ownBlock) (s:Sli) {x:FlV} {f:Fl} (hx:x.size=f.size) (hb:zb blE hi w x.v f.bl) (ho:zb fvE base w' (.slice s.a s.n s.c) (xs++ [x])):MkR base hi w' { V with fl:=s } { m with fl:=m.fl++ [f] } vt T:=by
 have fin:(∀{y:FlV} {q:Fl},zb blE hi w y.v q.bl->zb blE hi w' y.v q.bl)->∃ys:List FlV,zb fvE base w' (.slice s.a s.n s.c) ys/\ys.length=(m.fl++ [f]).length/\∀(i:Nat) y q,ys[i]? =some y->(m.fl++ [f])[i]? =some q->y.size=q.size/\zb blE hi w' y.v q.bl:=fun k=>by
  refine⟨_,ho,by simp[f2],fun i y q hy hq=>?_⟩
  rcases Nat.lt_or_ge i xs.length with hi|hi
  ·rw[List.getElem?_append_left hi]at hy;rw[List.getElem?_append_left (by omega)]at hq
   obtain⟨a1,a2⟩:=f3 i y q hy hq;exact⟨a1,k a2⟩
  rw[aR hi]at hy;rw[aR (by omega),<-f2]at hq
  have hi0:i - xs.length=0:=by
   have:=(gS.1 hy).1
   simp at this
   omega
  rw[hi0]at hy hq;cases hy;cases hq;exact⟨hx,k hb⟩
 cases hob:(Value.slice V.fl.a V.fl.n V.fl.c).ownBlock with
 | none=>
  rw[hob]at hg;have k:=qo hg;have h':=h.grew k;exact⟨h'.hw,h'.bh,h'.fs,h'.sl,h'.slh,h'.sb,h'.sbh,h'.sq,h'.db,h'.dbh,h'.dq,fin (fun h=>h.grew k),h'.ca,h'.sp,h'.tt,h'.ap⟩
 | some g=>
  rw[hob]at hg;obtain⟨cs,hc⟩:=f1.obj hob;obtain⟨k1,k2,k3,k4,k5,k6,k7,k8,k9⟩:=h.kept hg hc;exact⟨nT h.hw hg.size,h.bh,k1 (by decide),k2 (.inl (by decide)),h.slh,k3 (.inl (by decide)),h.sbh,h.sq,k4 (.inl (by decide)),h.dbh,k5 (by decide),fin (fun h=>h.kind hg hc (by decide)),k7 (by decide),k8 (by decide) (by decide),k9 (by decide),h.ap⟩
end
section
variable{base hi S0:Nat} {w w':World} {V:MaV} {m:Ma} {vt:Sli} {T:List (Nat->En)}
def FlB (base hi S0:Nat) (w:World) (V:MaV) (m:Ma):Prop:=∃xs:List FlV,zb fvE base w (.slice V.fl.a V.fl.n V.fl.c) xs/\xs.length=m.fl.length/\∀(i:Nat) x f,xs[i]? =some x->m.fl[i]? =some f->(x.size=f.size/\zb blE hi w x.v f.bl)/\∀g,x.v.ownBlock=some g->g<S0
theorem MkR.flB (h:MkR base hi w V m vt T):FlB base hi w.heap.size w V m:=by
 obtain⟨xs,h1,h2,h3⟩:=h.fl;exact⟨xs,h1,h2,fun i x f hx hf=>⟨h3 i x f hx hf,fun g hg=>((h3 i x f hx hf).2.lt g hg).2⟩⟩
theorem FlB.grew (h:FlB base hi S0 w V m) (k:zc w w'):FlB base hi S0 w' V m:=by
 obtain⟨xs,h1,h2,h3⟩:=h;refine⟨xs,h1.grew k,h2,fun i x f hx hf=>?_⟩
 obtain⟨⟨a1,a2⟩,a3⟩:=h3 i x f hx hf;exact⟨⟨a1,a2.grew k⟩,a3⟩
theorem FlB.kind (h:FlB base hi S0 w V m) {g:Nat} {cs:Array Value} (hg:w.grownBy w' (some g)) (ho:w.heap[g]? =some (.cells cs t (0,0))) (h1:t≠84\/(Value.slice V.fl.a V.fl.n V.fl.c).ownBlock≠some g) (h2:t≠3\/S0<=g):FlB base hi S0 w' V m:=by
 obtain⟨xs,k1,k2,k3⟩:=h;refine⟨xs,?_,k2,fun i x f hx hf=>?_⟩
 ·rcases h1 with h1|h1
  ·exact k1.kind hg ho h1
  exact k1.grown hg fun k hk e=>by cases e;exact h1 hk
 obtain⟨⟨a1,a2⟩,a3⟩:=k3 i x f hx hf;refine⟨⟨a1,?_⟩,a3⟩
 rcases h2 with h2|h2
 ·exact a2.kind hg ho h2
 exact a2.grown hg fun k hk e=>by cases e;have:=a3 _ hk;omega
theorem MkR.fileVar (h:MkR base hi w V m vt T) {g:Nat} {cs:Array Value} (hg:w.grownBy w' (some g)) (ho:w.heap[g]? =some (.cells cs 84 (0,0))) (hn:(Value.slice V.fl.a V.fl.n V.fl.c).ownBlock≠some g):MkR base hi w' V m vt T:=by
 obtain⟨k1,k2,k3,k4,k5,k6,k7,k8,k9⟩:=h.kept hg ho;obtain⟨xs,q1,q2,q3⟩:=h.flB.kind hg ho (.inr hn) (.inl (by decide))
 exact⟨nT h.hw hg.size,h.bh,k1 (by decide),k2 (.inl (by decide)),h.slh,k3 (.inl (by decide)),h.sbh,h.sq,k4 (.inl (by decide)),h.dbh,k5 (by decide),⟨xs,q1,q2,fun i x f hx hf=>(q3 i x f hx hf).1⟩,k7 (by decide),k8 (by decide) (by decide),k9 (by decide),h.ap⟩
theorem MkR.ints (h:MkR base hi w V m vt T) (hs:FlB base hi S0 w V m) {g:Nat} {cs:Array Value} (hg:w.grownBy w' (some g)) (ho:w.heap[g]? =some (.cells cs 3 (0,0))) (hb:S0<=g) (hh:hi<=g):MkR base hi w' V m vt T:=by
 obtain⟨k1,k2,k3,k4,k5,k6,k7,k8,k9⟩:=h.kept hg ho;obtain⟨xs,q1,q2,q3⟩:=hs.kind hg ho (.inl (by decide)) (.inr hb)
 exact⟨nT h.hw hg.size,h.bh,k1 (by decide),k2 (.inr hh),h.slh,k3 (.inl (by decide)),h.sbh,h.sq,k4 (.inl (by decide)),h.dbh,k5 (by decide),⟨xs,q1,q2,fun i x f hx hf=>(q3 i x f hx hf).1⟩,k7 (by decide),k8 (by decide) (by decide),k9 (by decide),h.ap⟩
end
section
variable{w0 w w':World} {hi b:Nat} {vl:Sli} {L:List Int} {V:MaV} {m:Ma} {vt:Sli} {T:List (Nat->En)}
theorem Mk.setDb (h:Mk w0 hi w b vl L V m vt T) {g:Nat} (hv:(Value.slice V.db.a V.db.n V.db.c).ownBlock=some g) (hg:w.grownBy w' (some g)) (hs:w'.heap.size=w.heap.size) {ls:List (List Int)} (ho:zh w0.heap.size w' (.slice V.db.a V.db.n V.db.c) ls):Mk w0 hi w' b vl L V { m with db:=ls } vt T/\zo hi w w':=by
 obtain⟨h1,cs,h2⟩:=ZU h.rows.db hv;refine⟨⟨ze h.gr hg h1,h.hb,h.box.beside hg (fun k e=>?_),h.lr,h.lc,h.lb,h.rows.setDb h2 hv hg hs ho⟩,zo.kind hg h2 (fun p hl=>?_)⟩
 ·cases e;intro e;subst e;have h3:w.heap[b]? =_:=h.box;rw[h2]at h3;cases h3
 have:=hl.2.2.2.2.2.2.2.2 rfl;have:=h.rows.dbh g hv;omega
end
theorem zdF {w:World} (h:Mk w0 hi w b vl L V m vt T) (hB:qO m T) (h4:m.sp.length<4):
  Calls prog 41 #[.pointer (some ⟨b,0,none⟩)] w fun e w'=>(∃v,e= .returned v)/\Spc w0 hi b w L m T w':=by
 have HM:Hid (Mk w0 hi w b vl L V m vt T):=h;have HB:Hid (qO m T):=hB;have H4:Hid (m.sp.length<4):=h4;have hpk:=qt 4 h;obtain⟨fln,HFN⟩:∃fln,Hid (V.fl.n=fln):=⟨_,rfl⟩;have HFM:Hid (m.fl.length=fln):=show _=_ by rw[<-HFN.out];exact h.rows.at.ns.2.2.2.2.2.2.1.symm
 have hfl5:fln<=5:=by
  rw[<-HFM.out];obtain⟨⟨a1,a2,a3⟩,a4,a5⟩:=(qg m.fl m.cnt).1 hB.st;omega
 have HWB:Hid (w0.heap.size<=w.heap.size):=dD<|bS h.gr
 clear h hB h4
 go_enter func41,ntmps41
 go_wp2_with fail;refine hpk.mono ?_;clear hpk;rintro e W1 ⟨vl1,L1,y,rfl,mk1,gr1,sz1,y0,y1,yn,ll⟩;obtain⟨c,rfl⟩:∃c:Nat,y=(c:Int):=⟨y.toNat,by omega⟩
 have hc4:c<4:=by rcases y1 with h | h <;> omega
 have HC0:Hid (L=[]->c=0):=dD<|fun e=>by have:=yn e;omega
 have M1:Hid (Mk w0 hi W1 b vl1 L1 V m vt T):=mk1;have K1:Hid (zo hi w W1):=HM.out.keeps gr1;have SB1:Hid (SpB w0.heap.size w.heap.size W1 V m):=HM.out.rows.spB.pick HM.out gr1;have LL1:Hid (ZL L L1):=ll;clear mk1 gr1 sz1 y0 y1 yn ll;go_wp2
 go_loopg [2,11] c (fun gg s2 s11 wr=>∃(kk ln:Nat) (l:List Ar) (xa:Option Addr) (xc:Nat) (vl':Sli) (L':List Int),kk<=c/\c - kk<=gg/\s11= .int .i64 kk/\s2=(.slice xa ln xc)/\Hid (Mk w0 hi wr b vl' L' V m vt T)/\Hid (ZL L L')/\Hid (zo hi w wr)/\Hid (SpB w0.heap.size w.heap.size wr V m)/\Hid (zb arE w0.heap.size wr (.slice xa ln xc) l)/\Hid (jp m.fl.length l/\(wrL l).1=0/\jR l 64<=4*kk)/\Hid (kk=0->l=[]))
 case atStart=>exact⟨0,0,[],none,0,vl1,L1,nZ _,by omega,rfl,rfl,M1.out,LL1.out,K1.out,SB1.out,zb.nil _ _ _,(show _/\_ from⟨zfi _,rfl,by decide⟩),(fun _=>rfl)⟩
 obtain⟨kk,ln,l,xa,xc,vl2,L2,hkk,hgg,rfl,rfl,M2,LL2,K2,SB2,O2,FI2,Z2⟩:=hrel
 by_cases hlt:kk<c
 ·have hltz:(kk:Int)< (c:Int):=by omega
  have HLC:Hid (L≠[]):=dD<|fun e=>by have:=HC0.out e;omega
  go_upto_region 3 with fail;obtain⟨I,HI⟩:∃I:World->Prop,Hid (∀u,I u↔(MkE w0 hi b w L V m vt T u/\SpB w0.heap.size w.heap.size u V m/\zb arE w0.heap.size u (.slice xa ln xc) l)):=⟨fun u=>(MkE w0 hi b w L V m vt T u/\SpB w0.heap.size w.heap.size u V m/\zb arE w0.heap.size u (.slice xa ln xc) l),fun _=>Iff.rfl⟩
  have hI0:I wr.drew:=(HI.out _).2 ⟨⟨vl2,L2,M2.out.grew (gW _),LL2.out,K2.out.trans (zo.grew (gW _))⟩,SB2.out.grew (gW _),O2.out.grew (gW _)⟩
  have hx8:∀y:zj I,y.world.cell? ⟨b,8,none⟩=some (.slice V.fl.a fln V.fl.c):=fun y=>by
   obtain⟨⟨_,_,mk,_,_⟩,_⟩:=(HI.out _).1 y.holds;have:=mk.box.box.c 8 rfl;rw[HFN.out]at this;exact this
  have hne:Nonempty (zj I):=⟨⟨_,hI0⟩⟩;have HPK:Hid (∀(N:Int) w',0<N->I w'->Calls prog 36 #[.pointer (some ⟨b,0,none⟩),.int .i64 N] w' fun e w''=>∃x:Int,e= .returned (.int .i64 x)/\0<=x/\x<N/\I w''/\zo hi w' w''):=dD<|fun N w' hN hI'=>by
   obtain⟨⟨vl',L',mk',ll',kp'⟩,sb',ow'⟩:=(HI.out _).1 hI';refine(qt N mk').mono ?_;rintro e w'' ⟨vl3,L3,x,rfl,mk3,gr3,_,q0,q1,_,ll3⟩;exact⟨x,rfl,q0,by omega,(HI.out _).2 ⟨⟨vl3,L3,mk3,ll'.trans ll3,kp'.trans (mk'.keeps gr3)⟩,sb'.pick mk' gr3,ow'.pick mk' gr3⟩,mk'.keeps gr3⟩
  refine qQ (I:=I) 21 [(1,⟨fun v=>∃x:Int,v= .int .i64 x/\0<=x/\x<12,fun _ _=>True,fun p q=>zo hi p q,fun _=>True⟩),(3,⟨fun v=>∃x:Int,v= .int .i64 x/\0<=x/\x<4,fun _ _=>True,fun p q=>zo hi p q,fun _=>True⟩),(6,⟨fun v=>∃x:Int,v= .int .i64 x/\0<=x/\x<3,fun _ _=>True,fun p q=>zo hi p q,fun _=>True⟩),(17,⟨fun v=>∃x:Int,v= .int .i64 x/\0<=x/\x< (fln:Int)+1,fun _ _=>True,fun p q=>zo hi p q,fun _=>True⟩),(20,⟨fun v=>∃g,v= .pointer (some ⟨g,0,none⟩),fun v u=>∃g,v= .pointer (some ⟨g,0,none⟩)/\zp u g 91 [.int .i64 0,.int .i64 0,.bool false,.bool false,.bool false,.int .i64 0,.int .i64 0]/\w.heap.size<=g/\∀k,(Value.slice xa ln xc).ownBlock=some k->k<g,fun p q=>zc p q,fun _=>True⟩)] hI0 qn (by kernel_rfl) rfl rfl (by decide) ?hS ?hp ?hpre ?hpr0 ?_
  case hS=>
   intro x hx;simp only[mC,nM,or_false]at hx
   rcases hx with rfl|rfl|rfl|rfl|rfl
   ·exact⟨_,0,rfl,by omega,by omega⟩
   ·exact⟨_,0,rfl,by omega,by omega⟩
   ·exact⟨_,0,rfl,by omega,by omega⟩
   ·exact⟨_,0,rfl,by omega,by omega⟩
   exact⟨_,0,rfl⟩
  case hp=>
   intro k s j t hk hj hjk hanc v p q hst hpo;have hk':=zP hk;have hj':=zP hj;clear hk hj;simp only[mC,pJ,nM,or_false]at hk' hj'
   rcases hk' with⟨rfl,rfl⟩|⟨rfl,rfl⟩|⟨rfl,rfl⟩|⟨rfl,rfl⟩|⟨rfl,rfl⟩
   ·trivial
   ·trivial
   ·trivial
   ·trivial
   obtain⟨g,hg1,hg2,hg3⟩:=hpo
   rcases hj' with⟨rfl,rfl⟩|⟨rfl,rfl⟩|⟨rfl,rfl⟩|⟨rfl,rfl⟩|⟨rfl,rfl⟩
   ·exact⟨g,hg1,hst.1 _ _ _ hg2 Qv,hg3⟩
   ·exact⟨g,hg1,hst.1 _ _ _ hg2 Qv,hg3⟩
   ·exact⟨g,hg1,hst.1 _ _ _ hg2 Qv,hg3⟩
   ·exact⟨g,hg1,hst.1 _ _ _ hg2 Qv,hg3⟩
   exact absurd rfl hjk
  case hpre=>
   intro j t k s hj hk hjk p q hst hpr;have hj':=zP hj;clear hk hj;simp only[mC,pJ,nM,or_false]at hj'
   rcases hj' with⟨rfl,rfl⟩|⟨rfl,rfl⟩|⟨rfl,rfl⟩|⟨rfl,rfl⟩|⟨rfl,rfl⟩ <;> trivial
  case hpr0=>
   intro k t hk;have hk':=zP hk;clear hk;simp only[mC,pJ,nM,or_false]at hk'
   rcases hk' with⟨rfl,rfl⟩|⟨rfl,rfl⟩|⟨rfl,rfl⟩|⟨rfl,rfl⟩|⟨rfl,rfl⟩ <;> trivial
  simp only[List.take,List.drop];iterate 1 (refine zk rfl rfl rfl (fun K hK=>?_);go_big_quiet_op;refine hK _ ?_;clear hK)
  refine zI rfl rfl (fun w' hI' hpr hF=>?_) (fun v1 hv=>?_)
  ·refine zK.call [.pointer (some ⟨b,0,none⟩),.int .i64 12] rfl func36 rfl rfl rfl ?_;refine(HPK.out 12 w' (by omega) hI').mono ?_
   rintro e w'' ⟨x,rfl,q0,q1,q2,q3⟩;exact⟨_,rfl,q2,q3,⟨x,rfl,q0,q1⟩,trivial⟩
  obtain⟨f1,rfl,f1a,f1b⟩:=hv;simp only[Act.put,sB,sS,sZ];iterate 1 (refine zk rfl rfl rfl (fun K hK=>?_);go_big_quiet_op;refine hK _ ?_;clear hK)
  refine zI rfl rfl (fun w' hI' hpr hF=>?_) (fun v1 hv=>?_)
  ·refine zK.call [.pointer (some ⟨b,0,none⟩),.int .i64 4] rfl func36 rfl rfl rfl ?_;refine(HPK.out 4 w' (by omega) hI').mono ?_
   rintro e w'' ⟨x,rfl,q0,q1,q2,q3⟩;exact⟨_,rfl,q2,q3,⟨x,rfl,q0,q1⟩,trivial⟩
  obtain⟨f3,rfl,f3a,f3b⟩:=hv;simp only[Act.put,sB,sS,sZ];iterate 2 (refine zk rfl rfl rfl (fun K hK=>?_);go_big_quiet_op;refine hK _ ?_;clear hK)
  refine zI rfl rfl (fun w' hI' hpr hF=>?_) (fun v1 hv=>?_)
  ·refine zK.call [.pointer (some ⟨b,0,none⟩),.int .i64 3] rfl func36 rfl rfl rfl ?_;refine(HPK.out 3 w' (by omega) hI').mono ?_
   rintro e w'' ⟨x,rfl,q0,q1,q2,q3⟩;exact⟨_,rfl,q2,q3,⟨x,rfl,q0,q1⟩,trivial⟩
  obtain⟨f6,rfl,f6a,f6b⟩:=hv;simp only[Act.put,sB,sS,sZ];iterate 3 (refine zk rfl rfl rfl (fun K hK=>?_);go_big_quiet_op;refine hK _ ?_;clear hK)
  refine jz (.tmp 22) ⟨b,0,none⟩ rfl rfl rfl rfl ?_;simp only[Act.put,sB,sS,sZ];iterate 6 (refine zk rfl rfl rfl (fun K hK=>?_);go_big_quiet_op;refine hK _ ?_;clear hK)
  refine zI rfl rfl (fun w' hI' hpr hF=>?_) (fun v1 hv=>?_)
  ·refine zK.call [.pointer (some ⟨b,0,none⟩),.int .i64 ((fln:Int)+1)] rfl func36 rfl rfl rfl ?_;refine(HPK.out ((fln:Int)+1) w' (by omega) hI').mono ?_
   rintro e w'' ⟨x,rfl,q0,q1,q2,q3⟩;exact⟨_,rfl,q2,q3,⟨x,rfl,q0,q1⟩,trivial⟩
  obtain⟨f17,rfl,f17a,f17b⟩:=hv;simp only[Act.put,sB,sS,sZ];iterate 2 (refine zk rfl rfl rfl (fun K hK=>?_);go_big_quiet_op;refine hK _ ?_;clear hK)
  refine zI rfl rfl (fun w' hI' hpr hF=>?_) (fun v1 hv=>?_)
  ·obtain⟨⟨vl',L',mk',ll',kp'⟩,sb',ow'⟩:=(HI.out _).1 hI';refine zK.step (v:= .pointer (some ⟨w'.heap.size,0,none⟩)) (w':=w'.alloc (.cells #[.int .i64 0,.int .i64 0,.bool false,.bool false,.bool false,.int .i64 0,.int .i64 0] 91)) (by clear hx8;simp only[execOp];go_simp) ⟨(HI.out _).2 ⟨⟨vl',L',mk'.grew (za _ _),ll',kp'.trans (zo.grew (za _ _))⟩,sb'.grew (za _ _),ow'.grew (za _ _)⟩,za _ _,⟨_,rfl⟩,_,rfl,zp.top _ [.int .i64 0,.int .i64 0,.bool false,.bool false,.bool false,.int .i64 0,.int .i64 0] _ rfl,kp'.2,fun k hk=>(ow'.lt k hk).2⟩
  obtain⟨pa,rfl⟩:=hv;simp only[Act.put,sB,sS,sZ];refine jO fun W3 hI3 hF=>?_
  obtain⟨g',hg1,hg2,hg3,hg4⟩:=hF 20;simp only[Value.pointer.injEq,Option.some.injEq,Addr.mk.injEq,and_true]at hg1;subst hg1;obtain⟨⟨vl3,L3,mk3,ll3,kp3⟩,sb3,ow3⟩:=(HI.out _).1 hI3;have M3:Hid (Mk w0 hi W3 b vl3 L3 V m vt T):=mk3;have LL3:Hid (ZL L L3):=ll3;have K3:Hid (zo hi w W3):=kp3;have SB3:Hid (SpB w0.heap.size w.heap.size W3 V m):=sb3;have O3:Hid (zb arE w0.heap.size W3 (.slice xa ln xc) l):=ow3;have P3:Hid (zp W3 pa 91 [.int .i64 0,.int .i64 0,.bool false,.bool false,.bool false,.int .i64 0,.int .i64 0]):=hg2;have HPA:Hid (w.heap.size<=pa):=hg3;have HPO:Hid (∀k,(Value.slice xa ln xc).ownBlock=some k->k<pa):=hg4;have HPB:Hid (w0.heap.size<=pa):=show _<=_ from nT HWB.out hg3
  clear hg2 hg3 hg4 mk3 ll3 kp3 sb3 ow3 hF hI3 hx8 hne hI0;obtain⟨rd,HRD⟩:∃rd,Hid (decide ((0:Int)<f3)=rd):=⟨_,rfl⟩;obtain⟨wr',HWR⟩:∃wr',Hid (decide ((0:Int)<f6)=wr'):=⟨_,rfl⟩;rw[HRD.out,HWR.out];obtain⟨file,hfile⟩:∃file,f17 - 1=file:=⟨_,rfl⟩;have hfn:file< (fln:Int):=by omega
  have hf0:-1<=file:=by omega
  rw[hfile];refine qe rfl 91 (.tmp 3) (.tmp 32) rfl pa rfl [.int .i64 f1,.int .i64 0,.bool rd,.bool wr',.bool false,.int .i64 file,.int .i64 0] rfl P3.out rfl zlS (arE.one ⟨f1,0,rd,wr',false,file,0⟩) ?_;intro W4 hb4 hg4 _;have hM4:=M3.out.area SB3.out hg4 P3.out HPA.out HPB.out;have M4:Hid (Mk w0 hi W4 b vl3 L3 V m vt T):=hM4.1;have SB4:Hid (SpB w0.heap.size w.heap.size W4 V m):=hM4.2;have K4:Hid (zo hi w W4):=K3.out.own hg4 HPA.out;have O4:Hid (zb arE w0.heap.size W4 (.slice xa ln xc) l):=O3.out.grown hg4 (fun g hg e=>by cases e;have:=HPO.out _ hg;omega)
  have P4:Hid (zp W4 pa 91 [.int .i64 f1,.int .i64 0,.bool rd,.bool wr',.bool false,.int .i64 file,.int .i64 0]):=hb4;clear hM4 hb4 hg4 f17a f17b hfile;go_upto_region 4 with fail;simp only[Act.put];obtain⟨I,HI⟩:∃I:World->Prop,Hid (∀u,I u↔(MkE w0 hi b w L V m vt T u/\SpB w0.heap.size w.heap.size u V m/\zb arE w0.heap.size u (.slice xa ln xc) l/\zp u pa 91 [.int .i64 f1,.int .i64 0,.bool rd,.bool wr',.bool false,.int .i64 file,.int .i64 0])):=⟨fun u=>(MkE w0 hi b w L V m vt T u/\SpB w0.heap.size w.heap.size u V m/\zb arE w0.heap.size u (.slice xa ln xc) l/\zp u pa 91 [.int .i64 f1,.int .i64 0,.bool rd,.bool wr',.bool false,.int .i64 file,.int .i64 0]),fun _=>Iff.rfl⟩
  have hI0:I W4.drew:=(HI.out _).2 ⟨⟨vl3,L3,M4.out.grew (gW _),LL3.out,K4.out.trans (zo.grew (gW _))⟩,SB4.out.grew (gW _),O4.out.grew (gW _),P4.out.grew (gW _)⟩
  have hp0:∀y:zj I,y.world.cell? ⟨pa,0,none⟩=some (.int .i64 f1):=fun y=>((HI.out _).1 y.holds).2.2.2.box.c 0 rfl
  have hne:Nonempty (zj I):=⟨⟨_,hI0⟩⟩;refine qQ (I:=I) 7 [(4,⟨fun v=>∃x:Int,v= .int .i64 x/\0<=x/\x<4,fun _ _=>True,fun _ _=>True,fun _=>True⟩)] hI0 qn (by kernel_rfl) rfl rfl (by decide) ?hS ?hp ?hpre ?hpr0 ?_
  case hS=>
   intro x hx;simp only[mC,nM,or_false]at hx;subst hx;exact⟨_,0,rfl,by omega,by omega⟩
  case hp=>
   intro k s j t hk hj hjk hanc v p q hst hpo;have hk':=zP hk;simp only[mC,pJ,nM,or_false]at hk';obtain⟨rfl,rfl⟩:=hk';trivial
  case hpre=>
   intro j t k s hj hk hjk p q hst hpr;have hj':=zP hj;simp only[mC,pJ,nM,or_false]at hj';obtain⟨rfl,rfl⟩:=hj';trivial
  case hpr0=>
   intro k t hk;have hk':=zP hk;simp only[mC,pJ,nM,or_false]at hk';obtain⟨rfl,rfl⟩:=hk';trivial
  simp only[List.take,List.drop];iterate 4 (refine zk rfl rfl rfl (fun K hK=>?_);go_big_quiet_op;refine hK _ ?_;clear hK)
  refine zI rfl rfl (fun w' hI' hpr hF=>?_) (fun v1 hv=>?_)
  ·obtain⟨⟨vl',L',mk',ll',kp'⟩,sb',ow',pb'⟩:=(HI.out _).1 hI';refine zK.call [.pointer (some ⟨b,0,none⟩),.int .i64 4] rfl func36 rfl rfl rfl ?_;refine(qt 4 mk').mono ?_;rintro e w'' ⟨vl5,L5,x,rfl,mk5,gr5,_,q0,q1,_,ll5⟩;exact⟨_,rfl,(HI.out _).2 ⟨⟨vl5,L5,mk5,ll'.trans ll5,kp'.trans (mk'.keeps gr5)⟩,sb'.pick mk' gr5,ow'.pick mk' gr5,(mk'.keeps gr5).1 _ _ _ pb' Qv⟩,trivial,⟨x,rfl,q0,by omega⟩,trivial⟩
  obtain⟨f4,rfl,f4a,f4b⟩:=hv;simp only[Act.put,sB,sS,sZ];iterate 2 (refine zk rfl rfl rfl (fun K hK=>?_);go_big_quiet_op;refine hK _ ?_;clear hK)
  refine jO fun W5 hI5 hF=>?_
  obtain⟨⟨vl5,L5,mk5,ll5,kp5⟩,sb5,ow5,pb5⟩:=(HI.out _).1 hI5;have M5:Hid (Mk w0 hi W5 b vl5 L5 V m vt T):=mk5;have LL5:Hid (ZL L L5):=ll5;have K5:Hid (zo hi w W5):=kp5;have SB5:Hid (SpB w0.heap.size w.heap.size W5 V m):=sb5;have O5:Hid (zb arE w0.heap.size W5 (.slice xa ln xc) l):=ow5;have P5:Hid (zp W5 pa 91 [.int .i64 f1,.int .i64 0,.bool rd,.bool wr',.bool false,.int .i64 file,.int .i64 0]):=pb5;clear mk5 ll5 kp5 sb5 ow5 pb5 hF hI5 hp0 hne hI0;obtain⟨tz,HTO⟩:∃tz,Hid (f1+1+f4=tz):=⟨_,rfl⟩;have HT4:Hid ((tz - f1).toNat<=4):=show _<=_ by rw[<-HTO.out];omega
  have xp:=P5.out.box.c 1 rfl;have xf:=P5.out.box.f;rw[HTO.out];go_upto_region 5 with fail;clear xp xf;obtain⟨W6,hW6⟩:∃W6,W5.setCell ⟨pa,1,none⟩ (.int .i64 tz)=W6:=⟨_,rfl⟩;have hg6:W5.grownBy W6 (some pa):=by rw[<-hW6];exact qY _ _ _ _
  have P6:Hid (zp W6 pa 91 [.int .i64 f1,.int .i64 tz,.bool rd,.bool wr',.bool false,.int .i64 file,.int .i64 0]):=dD<|by rw[<-hW6];exact P5.out.set 1 _
  have hM6:=M5.out.area SB5.out hg6 P5.out HPA.out HPB.out;have M6:Hid (Mk w0 hi W6 b vl5 L5 V m vt T):=hM6.1;have SB6:Hid (SpB w0.heap.size w.heap.size W6 V m):=hM6.2;have K6:Hid (zo hi w W6):=K5.out.own hg6 HPA.out;have O6:Hid (zb arE w0.heap.size W6 (.slice xa ln xc) l):=O5.out.grown hg6 (fun g hg e=>by cases e;have:=HPO.out _ hg;omega)
  rw[hW6];clear hW6 hg6 hM6;have p5:=P6.out.box.c 5 rfl
  by_cases hfz:0<=file
  ·have hfd:decide ((0:Int)<=file)=true:=by simpa using hfz
   have hpk1:=qt 2 M6.out;go_wp2_with fail;refine hpk1.mono ?_;clear hpk1 p5;rintro e W7 ⟨vl7,L7,z7,rfl,mk7,gr7,_,_,_,_,ll7⟩;have M7:Hid (Mk w0 hi W7 b vl7 L7 V m vt T):=mk7;have SB7:Hid (SpB w0.heap.size w.heap.size W7 V m):=SB6.out.pick M6.out gr7;have K7:=dD (K6.out.trans (M6.out.keeps gr7));have O7:Hid (zb arE w0.heap.size W7 (.slice xa ln xc) l):=O6.out.pick M6.out gr7;have P7:Hid (zp W7 pa 91 [.int .i64 f1,.int .i64 tz,.bool rd,.bool wr',.bool false,.int .i64 file,.int .i64 0]):=(M6.out.keeps gr7).1 _ _ _ P6.out Qv;have LL7:=dD (LL5.out.trans ll7);clear mk7 gr7 ll7;have hpk2:=qt 4 M7.out;go_wp2_with fail;refine hpk2.mono ?_;clear hpk2;rintro e W9 ⟨vl9,L9,z9,rfl,mk9,gr9,_,z9a,z9b,_,ll9⟩;have M9:Hid (Mk w0 hi W9 b vl9 L9 V m vt T):=mk9;have SB9:Hid (SpB w0.heap.size w.heap.size W9 V m):=SB7.out.pick M7.out gr9;have K9:=dD (K7.out.trans (M7.out.keeps gr9));have OA:Hid (zb arE w0.heap.size W9 (.slice xa ln xc) l):=O7.out.pick M7.out gr9;have P9:Hid (zp W9 pa 91 [.int .i64 f1,.int .i64 tz,.bool rd,.bool wr',.bool false,.int .i64 file,.int .i64 0]):=(M7.out.keeps gr9).1 _ _ _ P7.out Qv;have LL9:=dD (LL7.out.trans ll9);clear mk9 gr9 ll9;obtain⟨sh,HSH⟩:∃sh,Hid ((z7 == 1)=sh):=⟨_,rfl⟩;try rw[HSH.out]
   have xp:=P9.out.box.c 4 rfl;have xq:=P9.out.box.c 6 rfl;have xf:=P9.out.box.f;go_upto_region 7 with fail;try rw[HSH.out]
   clear xp xq xf;obtain⟨WA,hWA⟩:∃WA,(W9.setCell ⟨pa,4,none⟩ (.bool sh)).setCell ⟨pa,6,none⟩ (.int .i64 z9)=WA:=⟨_,rfl⟩;have hgA:W9.grownBy WA (some pa):=by rw[<-hWA];exact Qz (qY _ _ _ _) (qY _ _ _ _)
   have PA:Hid (zp WA pa 91 [.int .i64 f1,.int .i64 tz,.bool rd,.bool wr',.bool sh,.int .i64 file,.int .i64 z9]):=dD<|by rw[<-hWA];exact(P9.out.set 4 _).set 6 _
   have hMA:=M9.out.area SB9.out hgA P9.out HPA.out HPB.out;have MA:Hid (Mk w0 hi WA b vl9 L9 V m vt T):=hMA.1;have SBA:Hid (SpB w0.heap.size w.heap.size WA V m):=hMA.2;have KA:Hid (zo hi w WA):=K9.out.own hgA HPA.out;have OB:Hid (zb arE w0.heap.size WA (.slice xa ln xc) l):=OA.out.grown hgA (fun g hg e=>by cases e;have:=HPO.out _ hg;omega)
   rw[hWA];clear hWA hgA hMA;obtain⟨p0,p1,p2,p3,p4,p5,p6⟩:=PA.out.box.c7;have hmp:=zck (.slice xa ln xc) l ⟨f1,tz,rd,wr',sh,file,z9⟩ WA OB.out.at OB.out.cap;have HR:Hid ((JR l ⟨f1,tz,rd,wr',sh,file,z9⟩).2=0->jp m.fl.length (JR l ⟨f1,tz,rd,wr',sh,file,z9⟩).1/\(wrL (JR l ⟨f1,tz,rd,wr',sh,file,z9⟩).1).1=0/\jR (JR l ⟨f1,tz,rd,wr',sh,file,z9⟩).1 64<=4*(kk+1)):=dD<|fun he=>⟨zbI FI2.out.1 (by show file<_;rw[HFM.out];exact hfn) he,zj9 he,by have h1:=zf5 he;have h2:=HT4.out;have h3:=FI2.out.2.2;dsimp only at h1;omega⟩
   go_wp2_with fail;refine hmp.mono ?_;clear hmp p0 p1 p2 p3 p4 p5 p6;rintro e W8 ⟨⟨u,rfl,ow8⟩,g8⟩;obtain⟨ua,uc,rfl⟩:=ow8.form
   generalize JR l ⟨f1,tz,rd,wr',sh,file,z9⟩=R at HR ow8⊢
   obtain⟨R1,R2⟩:=R;dsimp only at HR ow8⊢;have M8:=dD (MA.out.grew g8);have SB8:=dD (SBA.out.grew g8);have K8:=dD (KA.out.trans (zo.grew g8));have O8:=dD (OB.out.grew g8);have O9:Hid (zb arE w0.heap.size W8 (.slice ua R1.length uc) R1):=ow8.base (nT HWB.out KA.out.2);clear g8 ow8;obtain⟨n9,HN9⟩:∃n9,Hid (R1.length=n9):=⟨_,rfl⟩;rw[HN9.out]at O9⊢
   by_cases he:R2=0
   ·have hee:(R2 == 0)=true:=by simp[he]
    have HR2:Hid (jp m.fl.length R1/\(wrL R1).1=0/\jR R1 64<=4*(kk+1)):=dD<|HR.out he
    clear he;go_wp2
    go_roundg (c -(kk+1))
    case measure=>omega
    exact⟨kk+1,n9,R1,ua,uc,vl9,L9,by omega,by omega,by go_num,rfl,M8.out,LL9.out,K8.out,SB8.out,O9.out,HR2.out,(fun h=>by omega)⟩
   have hee:(R2 == 0)=false:=by simp[he]
   clear he;go_wp2
   go_roundg (c -(kk+1))
   case measure=>omega
   exact⟨kk+1,ln,l,xa,xc,vl9,L9,by omega,by omega,by go_num,rfl,M8.out,LL9.out,K8.out,SB8.out,O8.out,(show _/\_ from⟨FI2.out.1,FI2.out.2.1,by have:=FI2.out.2.2;omega⟩),(fun h=>by omega)⟩
  have hfd:decide ((0:Int)<=file)=false:=by simpa using hfz
  go_upto_region 7 with fail;clear p5;obtain⟨p0,p1,p2,p3,p4,p5,p6⟩:=P6.out.box.c7;have hmp:=zck (.slice xa ln xc) l ⟨f1,tz,rd,wr',false,file,0⟩ W6 O6.out.at O6.out.cap;have HR:Hid ((JR l ⟨f1,tz,rd,wr',false,file,0⟩).2=0->jp m.fl.length (JR l ⟨f1,tz,rd,wr',false,file,0⟩).1/\(wrL (JR l ⟨f1,tz,rd,wr',false,file,0⟩).1).1=0/\jR (JR l ⟨f1,tz,rd,wr',false,file,0⟩).1 64<=4*(kk+1)):=dD<|fun he=>⟨zbI FI2.out.1 (by show file<_;rw[HFM.out];exact hfn) he,zj9 he,by have h1:=zf5 he;have h2:=HT4.out;have h3:=FI2.out.2.2;dsimp only at h1;omega⟩
  go_wp2_with fail;refine hmp.mono ?_;clear hmp p0 p1 p2 p3 p4 p5 p6;rintro e W8 ⟨⟨u,rfl,ow8⟩,g8⟩;obtain⟨ua,uc,rfl⟩:=ow8.form
  generalize JR l ⟨f1,tz,rd,wr',false,file,0⟩=R at HR ow8⊢
  obtain⟨R1,R2⟩:=R;dsimp only at HR ow8⊢;have M8:=dD (M6.out.grew g8);have SB8:=dD (SB6.out.grew g8);have K8:=dD (K6.out.trans (zo.grew g8));have O8:=dD (O6.out.grew g8);have O9:Hid (zb arE w0.heap.size W8 (.slice ua R1.length uc) R1):=ow8.base (nT HWB.out K6.out.2);clear g8 ow8;obtain⟨n9,HN9⟩:∃n9,Hid (R1.length=n9):=⟨_,rfl⟩;rw[HN9.out]at O9⊢
  by_cases he:R2=0
  ·have hee:(R2 == 0)=true:=by simp[he]
   have HR2:Hid (jp m.fl.length R1/\(wrL R1).1=0/\jR R1 64<=4*(kk+1)):=dD<|HR.out he
   clear he;go_wp2
   go_roundg (c -(kk+1))
   case measure=>omega
   exact⟨kk+1,n9,R1,ua,uc,vl5,L5,by omega,by omega,by go_num,rfl,M8.out,LL5.out,K8.out,SB8.out,O9.out,HR2.out,(fun h=>by omega)⟩
  have hee:(R2 == 0)=false:=by simp[he]
  clear he;go_wp2
  go_roundg (c -(kk+1))
  case measure=>omega
  exact⟨kk+1,ln,l,xa,xc,vl5,L5,by omega,by omega,by go_num,rfl,M8.out,LL5.out,K8.out,SB8.out,O8.out,(show _/\_ from⟨FI2.out.1,FI2.out.2.1,by have:=FI2.out.2.2;omega⟩),(fun h=>by omega)⟩
 have hltz:¬(kk:Int)< (c:Int):=by omega
 have HL0:Hid (L=[]->l=[]):=dD<|fun e=>Z2.out (by have:=HC0.out e;omega)
 obtain⟨ys,s1,s2,s3⟩:=M2.out.rows.sp;have S1:Hid (zb Zx w0.heap.size wr (.slice V.sp.a V.sp.n V.sp.c) ys):=s1;have S2:Hid (ys.length=m.sp.length):=s2;have S3:Hid (∀(i:Nat) x s,ys[i]? =some x->m.sp[i]? =some s->x.live=s.live/\zb arE w0.heap.size wr x.ar.v s.ars/\x.tab=zao/\s.tb=qN):=show∀i,_ from s3
 clear s1 s2 s3;obtain⟨ps,HPS⟩:∃ps,Hid (m.sp.length=ps):=⟨_,rfl⟩;have hps4:ps<4:=by rw[<-HPS.out];exact H4.out
 have x11:=M2.out.box.box.c 11 rfl;have HSZ:Hid (w0.heap.size<=wr.heap.size):=dD<|bS M2.out.gr
 go_wp2_with (at_builtin;refine zB (E:=Zx) rfl (.tmp 65) (.tmp 68) rfl w0.heap.size _ ys rfl (S1.out.grew (za _ _)) _ [⟨true,⟨xa,ln,xc⟩,zu,zu,zu,zu,zu,zu,zu,zu⟩] rfl (jN Zx wr ⟨true,⟨xa,ln,xc⟩,zu,zu,zu,zu,zu,zu,zu,zu⟩ _ _ rfl (by decide)) ?qb ?qc ?_)
 case qb=>
  rw[S2.out,HPS.out]
  show(ps+1)*224<=_
  omega
 case qc=>have:=HSZ.out;omega
 intro v4 W4 ow4 gr4;obtain⟨a4,c4,rfl⟩:=ow4.form;obtain⟨N,hN⟩:∃N,(ys++ [(⟨true,⟨xa,ln,xc⟩,zu,zu,zu,zu,zu,zu,zu,zu⟩:SpV)]).length=N:=⟨_,rfl⟩;have hNp:(N:Int) - 1=(ps:Int):=by
  have:N=ps+1:=by rw[<-hN,lA,S2.out,HPS.out];rfl
  omega
 rw[hN]at ow4⊢;clear hN;obtain⟨WX,hWX⟩:∃WX,wr.alloc (.cells #[.bool true,.slice xa ln xc,.slice none 0 0,.slice none 0 0,.slice none 0 0,.slice none 0 0,.slice none 0 0,.slice none 0 0,.slice none 0 0,.slice none 0 0] 63)=WX:=⟨_,rfl⟩;have gX:=gP hWX
 rw[hWX]at gr4;clear hWX;have hbx:zp W4 b 95 [.slice vl2.a vl2.n vl2.c,.slice V.f.a V.f.n V.f.c,.int .i64 m.hand,.slice V.s.a V.s.n V.s.c,.slice V.sb.a V.sb.n V.sb.c,.slice V.sq.a V.sq.n V.sq.c,.slice V.db.a V.db.n V.db.c,.slice V.dq.a V.dq.n V.dq.c,.slice V.fl.a V.fl.n V.fl.c,.int .i64 m.cnt,.slice V.ca.a V.ca.n V.ca.c,.slice V.sp.a V.sp.n V.sp.c,.slice vt.a vt.n vt.c]:=zp.row (S1.out.grew gX) gr4 (M2.out.box.grew gX) (by decide)
 have R4:Hid (MkR w0.heap.size hi W4 { V with sp:=⟨a4,N,c4⟩ } { m with sp:=m.sp++ [⟨true,l,qN⟩] } vt T):=(M2.out.rows.grew gX).addSp (S1.out.grew gX) S2.out (fun i x s hx hs=>by
  obtain⟨a1,a2,a3⟩:=S3.out i x s hx hs;exact⟨a1,a2.grew gX,a3⟩) gr4 ⟨a4,N,c4⟩ ⟨xa,ln,xc⟩ (O2.out.grew gX) ow4
 have G4:Hid (zc w0 W4):=zc.row (S1.out.grew gX) gr4 (M2.out.gr.trans gX);have K4:Hid (zo hi w W4):=(K2.out.trans (zo.grew gX)).trans (zo.row (S1.out.grew gX) gr4 (fun p hl=>hl.2.2.2.2.2.2.1 rfl))
 have OL4:Hid (zb arE w0.heap.size W4 (.slice xa ln xc) l):=dD<|by
  cases hob:(Value.slice V.sp.a V.sp.n V.sp.c).ownBlock with
  | none=>
   rw[hob]at gr4;exact(O2.out.grew gX).grew (qo gr4)
  | some g=>
   obtain⟨cs,hc⟩:=(S1.out.grew gX).obj hob;rw[hob]at gr4;exact(O2.out.grew gX).kind gr4 hc (by decide)
 have BX4:Hid (zp W4 b 95 [.slice vl2.a vl2.n vl2.c,.slice V.f.a V.f.n V.f.c,.int .i64 m.hand,.slice V.s.a V.s.n V.s.c,.slice V.sb.a V.sb.n V.sb.c,.slice V.sq.a V.sq.n V.sq.c,.slice V.db.a V.db.n V.db.c,.slice V.dq.a V.dq.n V.dq.c,.slice V.fl.a V.fl.n V.fl.c,.int .i64 m.cnt,.slice V.ca.a V.ca.n V.ca.c,.slice V.sp.a V.sp.n V.sp.c,.slice vt.a vt.n vt.c]):=hbx;have ML:Hid (w0.heap.size<=b/\zr byE w0 (.slice vl2.a vl2.n vl2.c) L2/\vl2.n<=vl2.c/\∀z∈L2,0<=z/\z<256):=show _/\_ from⟨M2.out.hb,M2.out.lr,M2.out.lc,M2.out.lb⟩
 clear hbx ow4 gr4 gX x11;have x11:=BX4.out.box.c 11 rfl;have xf:=BX4.out.box.f;go_upto_region 12 with fail;clear x11 xf;obtain⟨W5,hW5⟩:∃W5,W4.setCell ⟨b,11,none⟩ (.slice a4 N c4)=W5:=⟨_,rfl⟩;have hg5:W4.grownBy W5 (some b):=by rw[<-hW5];exact qY _ _ _ _
 have M5:Hid (Mk w0 hi W5 b vl2 L2 { V with sp:=⟨a4,N,c4⟩ } { m with sp:=m.sp++ [⟨true,l,qN⟩] } vt T):=dD<|⟨ze G4.out hg5 ML.out.1,ML.out.1,by rw[<-hW5];exact BX4.out.set 11 _,ML.out.2.1,ML.out.2.2.1,ML.out.2.2.2,R4.out.var hg5 BX4.out hg5.size (.inl rfl)⟩
 have K5:Hid (zo hi w W5):=K4.out.trans (zo.kind hg5 BX4.out (fun _ hl=>absurd rfl hl.1))
 have OL5:Hid (zb arE w0.heap.size W5 (.slice xa ln xc) l):=OL4.out.kind hg5 BX4.out (by decide)
 rw[hW5];clear hW5 hg5;obtain⟨tn,HTN⟩:∃tn,Hid (T.length=tn):=⟨_,rfl⟩;have HTQ:Hid (tn=ps):=dD<|by rw[<-HTN.out,HB.out.tl,HPS.out]
 have x12:=M5.out.box.box.c 12 rfl;have HSZ5:Hid (w0.heap.size<=W5.heap.size):=dD<|bS M5.out.gr
 go_wp2_with (at_builtin;refine zB (E:=Qo) rfl (.tmp 77) (.tmp 79) rfl w0.heap.size _ T rfl (M5.out.rows.tt.grew (za _ _)) _ [fun _=>en0] rfl (jN Qo W5 (fun _=>en0) _ _ rfl (by decide)) ?qb ?qc ?_)
 case qb=>
  rw[HTN.out]
  show(tn+1)*1536<=_
  have:=HTQ.out;omega
 case qc=>exact nT HSZ5.out (bS (za _ _))
 intro v6 W6 ow6 gr6;obtain⟨a6,c6,rfl⟩:=ow6.form;obtain⟨N6,hN6⟩:∃N6,(T++ [fun _=>en0]).length=N6:=⟨_,rfl⟩
 rw[hN6]at ow6⊢;obtain⟨WX,hWX⟩:∃WX,W5.alloc (.cells (Qo.enc (fun _=>en0)).toArray 56)=WX:=⟨_,rfl⟩
 have gX:=gP hWX
 have gr6':WX.grownBy W6 (Value.slice vt.a vt.n vt.c).ownBlock:=by rw[<-hWX];exact gr6
 clear gr6 hWX hN6;have M5X:=M5.out.grew gX;have B6:Hid (zp W6 b 95 [.slice vl2.a vl2.n vl2.c,.slice V.f.a V.f.n V.f.c,.int .i64 m.hand,.slice V.s.a V.s.n V.s.c,.slice V.sb.a V.sb.n V.sb.c,.slice V.sq.a V.sq.n V.sq.c,.slice V.db.a V.db.n V.db.c,.slice V.dq.a V.dq.n V.dq.c,.slice V.fl.a V.fl.n V.fl.c,.int .i64 m.cnt,.slice V.ca.a V.ca.n V.ca.c,.slice a4 N c4,.slice vt.a vt.n vt.c]):=zp.row M5X.rows.tt gr6' M5X.box (by decide)
 have R6:Hid (MkR w0.heap.size hi W6 { V with sp:=⟨a4,N,c4⟩ } { m with sp:=m.sp++ [⟨true,l,qN⟩] } ⟨a6,N6,c6⟩ (T++ [fun _=>en0])):=M5X.rows.addT gr6' ⟨a6,N6,c6⟩ ow6
 have G6:Hid (zc w0 W6):=zc.row M5X.rows.tt gr6' M5X.gr;have K6:Hid (zo hi w W6):=(K5.out.trans (zo.grew gX)).trans (zo.row M5X.rows.tt gr6' (fun p hl=>hl.2.2.2.2.2.2.2.1 rfl))
 have OL6:Hid (zb arE w0.heap.size W6 (.slice xa ln xc) l):=dD<|by
  cases hob:(Value.slice vt.a vt.n vt.c).ownBlock with
  | none=>
   rw[hob]at gr6';exact(OL5.out.grew gX).grew (qo gr6')
  | some g=>
   obtain⟨cs,hc⟩:=M5X.rows.tt.obj hob;rw[hob]at gr6';exact(OL5.out.grew gX).kind gr6' hc (by decide)
 clear gr6' ow6 gX x12;have x12:=B6.out.box.c 12 rfl;have xf:=B6.out.box.f;go_upto_region 13 with fail;clear x12 xf;obtain⟨W7,hW7⟩:∃W7,W6.setCell ⟨b,12,none⟩ (.slice a6 N6 c6)=W7:=⟨_,rfl⟩;have hg7:W6.grownBy W7 (some b):=by rw[<-hW7];exact qY _ _ _ _
 have M7:Hid (Mk w0 hi W7 b vl2 L2 { V with sp:=⟨a4,N,c4⟩ } { m with sp:=m.sp++ [⟨true,l,qN⟩] } ⟨a6,N6,c6⟩ (T++ [fun _=>en0])):=dD<|⟨ze G6.out hg7 ML.out.1,ML.out.1,by rw[<-hW7];exact B6.out.set 12 _,ML.out.2.1,ML.out.2.2.1,ML.out.2.2.2,R6.out.var hg7 B6.out hg7.size (.inl rfl)⟩
 have K7:Hid (zo hi w W7):=K6.out.trans (zo.kind hg7 B6.out (fun _ hl=>absurd rfl hl.1))
 have OL7:Hid (zb arE w0.heap.size W7 (.slice xa ln xc) l):=OL6.out.kind hg7 B6.out (by decide)
 rw[hW7];clear hW7 hg7;obtain⟨vt7,HVT⟩:∃vt7:Sli,Hid (vt7=⟨a6,N6,c6⟩):=⟨_,rfl⟩;rw[<-HVT.out]at M7;have HB7:Hid (qO { m with sp:=m.sp++ [⟨true,l,qN⟩] } (T++ [fun _=>en0])):=HB.out.space FI2.out.2.1 H4.out
 have x11:=M7.out.box.box.c 11 rfl;have hon:=ZB (.slice xa ln xc) l W7 OL7.out.at (j2.1 FI2.out.2.1).2.lies;go_wp2_with fail;refine hon.mono ?_;clear hon x11;rintro e W8 ⟨rfl,g8⟩;have M8:=dD (M7.out.grew g8)
 have K8:=dD (K7.out.trans (zo.grew g8));clear g8;have HIX:Hid (∀{ops:Array Oper} {rest:List Oper} {o:Oper} {a:Act} {w:World} {Q:Exit->Act->World->Prop} (_:o.guard=none) (x ix:Operand) (_:o.op= .index 68 x ix) (_:a.eval x= .agg (zy (tab (zG l))).toArray) (i:Nat) (_:a.eval ix= .int .i64 (i:Int)) (_:i<64) {v:Value} (_: .agg (onv (zG l i)).toArray=v)
  (_:wpList prog ops Q rest (a.put o.dst v) w),wpList prog ops Q (o :: rest) a w):=fun h1 x ix h2 h3 i h4 h5 _ h6 h7=>zcJ h1 x ix h2 (zG l) h3 i h4 h5 h6 h7
 generalize zy (tab (zG l))=C at HIX⊢
 have HSP:Hid (({ m with sp:=m.sp++ [⟨true,l,qN⟩] }:Ma).sp[ps]? =some ⟨true,l,qN⟩):=dD<|by
  show(m.sp++ [(⟨true,l,qN⟩:Sp)])[ps]? =_
  rw[aR (by rw[HPS.out];exact nR _),HPS.out,Nat.sub_self]
  rfl
 have HTP:Hid ((T++ [fun _=>en0])[ps]? =some (fun _=>en0)):=dD<|by
  rw[aR (by rw[HTN.out,HTQ.out];exact nR _),HTN.out,HTQ.out,Nat.sub_self]
  rfl
 go_wp2
 go_loopg [92] 64 (fun gg s92 wr=>∃(kk:Nat) (vl':Sli) (L':List Int) (V':MaV) (m':Ma) (T':List (Nat->En)) (fT:Nat->En),kk<=64/\64 - kk<=gg/\s92= .int .i64 kk/\Hid (Mk w0 hi wr b vl' L' V' m' vt7 T')/\Hid (ZL L L')/\Hid (zo hi w wr)/\Hid (qO m' T')/\Hid (m'.sp=m.sp++ [⟨true,l,qN⟩]/\m'.fl=m.fl/\m'.hand=m.hand/\m'.fs.length=m.fs.length)/\Hid (T'[ps]? =some fT/\∀j,kk<=j->fT j=en0)/\Hid (L=[]->m'={ m with sp:=m.sp++ [⟨true,l,qN⟩] }/\T'=(T++ [fun _=>en0])))
 case atStart=>exact⟨0,vl2,L2,_,_,_,fun _=>en0,nZ _,by omega,rfl,M8.out,LL2.out,K8.out,HB7.out,(show _/\_ from⟨rfl,rfl,rfl,rfl⟩),(show _/\_ from⟨HTP.out,fun _ _=>rfl⟩),(fun _=>⟨rfl,rfl⟩)⟩
 obtain⟨k2,vlA,LA,VA,mA,TA,fT,hk2,hg2,rfl,MA,LLA,KA,BA,SA,TAt,EA⟩:=hrel
 by_cases hlt2:k2<64
 ·have hltz2:(k2:Int)<64:=by omega
  obtain⟨xx,HXX⟩:∃xx,Hid (zG l k2=xx):=⟨_,rfl⟩;obtain⟨xis,xrd,xwr,xsh,xfi,xpg⟩:=xx;have HIV:Hid (Value.agg (onv (zG l k2)).toArray= .agg #[.bool xis,.bool xrd,.bool xwr,.bool xsh,.int .i64 xfi,.int .i64 xpg]):=dD<|by rw[HXX.out];rfl
  cases xis with
  | false=>
   go_wp2_with (refine HIX.out rfl (.tmp 91) (.tmp 92) rfl rfl k2 rfl hlt2 HIV.out ?_)
   go_roundg (64 -(k2+1))
   case measure=>omega
   exact⟨k2+1,vlA,LA,VA,mA,TA,fT,by omega,by omega,by go_num,MA.out.grew (za _ _),LLA.out,KA.out.trans (zo.grew (za _ _)),BA.out,SA.out,(show _/\_ from⟨TAt.out.1,fun j hj=>TAt.out.2 j (by omega)⟩),EA.out⟩
  | true=>
   have HLX:Hid (L≠[]):=dD<|fun e=>by
    have h1:=HXX.out;rw[HL0.out e]at h1;cases h1
   go_upto_region 17 with(refine HIX.out rfl (.tmp 91) (.tmp 92) rfl rfl k2 rfl hlt2 HIV.out ?_)
   obtain⟨px,HPX⟩:∃px,Hid (wr.heap.size=px):=⟨_,rfl⟩;obtain⟨W9,hW9⟩:∃W9,wr.alloc (.cells #[.bool true,.bool xrd,.bool xwr,.bool xsh,.int .i64 xfi,.int .i64 xpg] 67)=W9:=⟨_,rfl⟩;have g9:=gP hW9
   have X9:=xP hW9 HPX
   rw[hW9,HPX.out];have M9:=dD (MA.out.grew g9);have K9:=dD (KA.out.trans (zo.grew g9));clear hW9 g9;have c0:=X9.out.c 0 rfl;have c1:=X9.out.c 1 rfl;have c2:=X9.out.c 2 rfl;have c3:=X9.out.c 3 rfl;have c4:=X9.out.c 4 rfl;have c5:=X9.out.c 5 rfl;have hen:=zil ps k2 ⟨true,l,qN⟩ fT ⟨true,xrd,xwr,xsh,xfi,xpg⟩ M9.out BA.out (by rw[SA.out.1];exact HSP.out) TAt.out.1 hlt2 (TAt.out.2 k2 (nR _)) HXX.out rfl (by rw[SA.out.2.1];exact FI2.out.1)
   go_wp2_with fail;refine hen.mono ?_;clear hen c0 c1 c2 c3 c4 c5;rintro e WB ⟨⟨v,rfl⟩,vlB,LB,VB,mB,TB,kB1,kB2,kB3,kB4,⟨kB5,kB6,kB7,kB8⟩,kB9,_⟩;obtain⟨fB,hfB⟩:∃fB,TB[ps]? =some fB/\∀j,k2+1<=j->fB j=en0:=by
    rcases kB9 with rfl|⟨e,rfl⟩
    ·exact⟨fT,TAt.out.1,fun j hj=>TAt.out.2 j (by omega)⟩
    refine⟨qu fT k2 e,sF (gS.1 TAt.out.1).1,fun j hj=>?_⟩
    unfold qu;rw[if_neg (by omega)]
    exact TAt.out.2 j (by omega)
   have MB:Hid (Mk w0 hi WB b vlB LB VB mB vt7 TB):=kB1;have LLB:=dD (LLA.out.trans kB2);have KB:=dD (K9.out.trans kB3);have BB:Hid (qO mB TB):=kB4;have SB:Hid (mB.sp=m.sp++ [⟨true,l,qN⟩]/\mB.fl=m.fl/\mB.hand=m.hand/\mB.fs.length=m.fs.length):=show _/\_ from⟨kB5.trans SA.out.1,kB6.trans SA.out.2.1,kB7.trans SA.out.2.2.1,kB8.trans SA.out.2.2.2⟩
   have FB:Hid (TB[ps]? =some fB/\∀j,k2+1<=j->fB j=en0):=hfB;clear kB1 kB2 kB3 kB4 kB5 kB6 kB7 kB8 kB9 hfB;go_wp2
   go_roundg (64 -(k2+1))
   case measure=>omega
   exact⟨k2+1,vlB,LB,VB,mB,TB,fB,by omega,by omega,by go_num,MB.out,LLB.out,KB.out,BB.out,SB.out,FB.out,(fun h=>absurd h HLX.out)⟩
 have hltz2:¬(k2:Int)<64:=by omega
 have HE:Hid (Spc w0 hi b w L m T wr):=dD<|⟨vlA,LA,VA,mA,vt7,TA,l,MA.out,LLA.out,KA.out,BA.out,SA.out,⟨FI2.out.1,by have:=FI2.out.2.2;omega⟩,fun e=>by
  obtain⟨e1,e2⟩:=EA.out e;rw[HL0.out e]at e1;exact⟨e1,e2⟩⟩
 go_wp2
 (first | go_end0 | ((try simp only[Exit.inBlock,Exit.then]);refine bodyPost_ret (results_none rfl _ _ _) rfl ?_))
 first | exact HE.out | exact⟨⟨_,rfl⟩,HE.out⟩
section
variable{I:World->Prop} {P:Program} {ops:Array Oper} {S:Nat->Option (Value->Prop)} {Q:Act->World->Prop} {o:Oper} {rest:List Oper} {k:Nat} {F:World->Prop} {a:Act}
theorem zjx (v:Value) (hw:Region.wanted o (yielded ops a.tmps)=true) (hS:S k=none) (h:∀w,I w->(execOp a.eval o).run P w= .ok (.value v) w) (hn:zaV I P ops S Q rest (k+1) F (a.put o.dst v)):zaV I P ops S Q (o :: rest) k F a:=by
 constructor;unfold QR;rw[if_pos hw];simp only[hS];exact⟨v,h,hn.out⟩
end
theorem zeV {a:Act} (x:Operand) (ho:o.op= .load 56 x) (b off:Nat) (hx:a.eval x= .pointer (some ⟨b,off,none⟩)) {w:World} (hb:w.rangeAt b off vs) (hl:vs.length=192):(execOp a.eval o).run prog w= .ok (.value (.agg vs.toArray)) w:=by
 have:=run_loadAt_mid (P:=prog) w b off 56 vs _ hb underlying56 rfl (by rw[hl];exact zlZ)
 simp only[execOp,ho,hx,Sem.run_bind,this,rA,Sem.run_pure]
theorem zb.range {α:Type} {E:Elt α} {base g n c:Nat} {w:World} {l:List α} (h:zb E base w (.slice (some ⟨g,0,none⟩) n c) l) {x:α} (hx:l[i]? =some x):w.rangeAt g (i*E.k) (E.enc x):=fun j v hj=>by
 have:=h.one hx j v hj;rw[zR,Addr.add_lit,zA]at this;exact this
structure MkT (base hi ht k:Nat) (w:World) (V:MaV) (m:Ma) (vt:Sli) (T:List (Nat->En)):Prop where
 fs:zb QO base w (.slice V.f.a V.f.n V.f.c) m.fs
 sl:zb slE base w (.slice V.s.a V.s.n V.s.c) m.sl
 slh:∀g,(Value.slice V.s.a V.s.n V.s.c).ownBlock=some g->g<hi
 sb:zh base w (.slice V.sb.a V.sb.n V.sb.c) m.sb
 sq:V.sq=zu/\m.sq=[]
 db:zh base w (.slice V.db.a V.db.n V.db.c) m.db
 dq:zm base w (.slice V.dq.a V.dq.n V.dq.c) m.dq
 fl:∃xs:List FlV,zb fvE base w (.slice V.fl.a V.fl.n V.fl.c) xs/\xs.length=m.fl.length/\∀(i:Nat) x f,xs[i]? =some x->m.fl[i]? =some f->x.size=f.size/\zb blE hi w x.v f.bl
 ca:zb qX base w (.slice V.ca.a V.ca.n V.ca.c) m.ca
 sp:∃xs:List SpV,zb Zx base w (.slice V.sp.a V.sp.n V.sp.c) xs/\xs.length=m.sp.length/\∀(i:Nat) x s f,xs[i]? =some x->m.sp[i]? =some s->T[i]? =some f->x.live=s.live/\zb arE base w x.ar.v s.ars/\(i<k->Js 0 ht w x.tab (Ze f))/\(k<=i->x.tab=zao)
 tt:zb Qo base w (.slice vt.a vt.n vt.c) T
 ap:(∀g,(Value.slice V.sb.a V.sb.n V.sb.c).ownBlock=some g->(Value.slice V.db.a V.db.n V.db.c).ownBlock≠some g)/\qF m.fs
 lo:∀g,(Value.slice V.f.a V.f.n V.f.c).ownBlock=some g\/(Value.slice V.s.a V.s.n V.s.c).ownBlock=some g\/(Value.slice V.fl.a V.fl.n V.fl.c).ownBlock=some g\/(Value.slice V.ca.a V.ca.n V.ca.c).ownBlock=some g\/(Value.slice V.sp.a V.sp.n V.sp.c).ownBlock=some g->g<ht
 hts:ht<=w.heap.size
section
variable{base hi ht k:Nat} {w w':World} {V:MaV} {m:Ma} {vt:Sli} {T:List (Nat->En)}
theorem MkR.start (h:MkR base hi w V m vt T) (ht:Nat) (hht:w.heap.size=ht):MkT base hi ht 0 w V m vt T:=by
 have hlo:∀g,(Value.slice V.f.a V.f.n V.f.c).ownBlock=some g\/(Value.slice V.s.a V.s.n V.s.c).ownBlock=some g\/(Value.slice V.fl.a V.fl.n V.fl.c).ownBlock=some g\/(Value.slice V.ca.a V.ca.n V.ca.c).ownBlock=some g\/(Value.slice V.sp.a V.sp.n V.sp.c).ownBlock=some g->g<ht:=fun g hg=>by
  obtain⟨_,f1,_⟩:=h.fl;obtain⟨_,s1,_⟩:=h.sp
  rcases hg with hg|hg|hg|hg|hg
  ·have:=(h.fs.lt g hg).2;omega
  ·have:=(h.sl.lt g hg).2;omega
  ·have:=(f1.lt g hg).2;omega
  ·have:=(h.ca.lt g hg).2;omega
  have:=(s1.lt g hg).2;omega
 obtain⟨xs,s1,s2,s3⟩:=h.sp;exact⟨h.fs,h.sl,h.slh,h.sb,h.sq,h.db,h.dq,h.fl,h.ca,⟨xs,s1,s2,fun i x s f hx hs _=>⟨(s3 i x s hx hs).1,(s3 i x s hx hs).2.1,fun e=>absurd e (nL _),fun _=>(s3 i x s hx hs).2.2.1⟩⟩,h.tt,h.ap,hlo,Nat.le_of_eq hht.symm⟩
theorem MkT.grew (h:MkT base hi ht k w V m vt T) (g:zc w w'):MkT base hi ht k w' V m vt T:=by
 obtain⟨xs,f1,f2,f3⟩:=h.fl;obtain⟨ys,s1,s2,s3⟩:=h.sp;exact⟨h.fs.grew g,h.sl.grew g,h.slh,h.sb.grew g,h.sq,h.db.grew g,h.dq.grew g,⟨xs,f1.grew g,f2,fun i x f hx hf=>⟨(f3 i x f hx hf).1,(f3 i x f hx hf).2.grew g⟩⟩,h.ca.grew g,⟨ys,s1.grew g,s2,fun i x s f hx hs hT=>⟨(s3 i x s f hx hs hT).1,(s3 i x s f hx hs hT).2.1.grew g,fun e=>((s3 i x s f hx hs hT).2.2.1 e).grew g,(s3 i x s f hx hs hT).2.2.2⟩⟩,h.tt.grew g,h.ap,h.lo,nT h.hts (bS g)⟩
theorem MkT.table (h:MkT base hi ht k w V m vt T) {ys:List SpV} (s2:ys.length=m.sp.length) (s3:∀(i:Nat) x s f,ys[i]? =some x->m.sp[i]? =some s->T[i]? =some f->x.live=s.live/\zb arE base w x.ar.v s.ars/\(i<k->Js 0 ht w x.tab (Ze f))/\(k<=i->x.tab=zao)) {g:Nat} {cs:Array Value} (ho:w.heap[g]? =some (.cells cs 63 (0,0))) (hlt:g<ht) (hg:w.grownBy w' (some g)) {x y:SpV} {f:Nat->En} (hx:ys[k]? =some x) (hf:T[k]? =some f) (hy:y.live=x.live/\y.ar=x.ar) (hT:Js 0 ht w' y.tab (Ze f)) (hr:zb Zx base w' (.slice V.sp.a V.sp.n V.sp.c) (ys.set k y)):MkT base hi ht (k+1) w' V m vt T:=by
 obtain⟨xs,f1,f2,f3⟩:=h.fl;have hout:Out 0 ht w w':=Out.grown hg (fun g' e=>by cases e;exact⟨nZ _,hlt⟩)
 refine⟨h.fs.kind hg ho (by decide),h.sl.kind hg ho (by decide),h.slh,⟨qw h.sb.1 hg ho (by decide),h.sb.2⟩,h.sq,⟨qw h.db.1 hg ho (by decide),h.db.2⟩,⟨qw h.dq.1 hg ho (by decide),h.dq.2⟩,⟨xs,f1.kind hg ho (by decide),f2,fun i x f hx hf=>⟨(f3 i x f hx hf).1,(f3 i x f hx hf).2.kind hg ho (by decide)⟩⟩,h.ca.kind hg ho (by decide),⟨ys.set k y,hr,by rw[List.length_set];exact s2,fun i z s f' hz hs hf'=>?_⟩,h.tt.kind hg ho (by decide),h.ap,h.lo,nT h.hts hg.size⟩
 by_cases e:i=k
 ·subst e;rw[sF (gS.1 hx).1]at hz;cases hz;rw[hf]at hf';cases hf';obtain⟨a1,a2,_⟩:=s3 i x s f hx hs hf;exact⟨hy.1.trans a1,by rw[hy.2];exact a2.kind hg ho (by decide),fun _=>hT,fun e=>by omega⟩
 rw[sN (fun h=>e h.symm)]at hz
 obtain⟨a1,a2,a3,a4⟩:=s3 i z s f' hz hs hf';exact⟨a1,a2.kind hg ho (by decide),fun e'=>(a3 (by omega)).out hout,fun e'=>a4 (by omega)⟩
theorem MkT.mach (h:MkT base hi ht m.sp.length w V m vt T) (hl:T.length=m.sp.length) (hd:Int):zD w V (jI m T hd):=by
 obtain⟨xs,f1,f2,f3⟩:=h.fl;obtain⟨ys,s1,s2,s3⟩:=h.sp;obtain⟨q1,q2⟩:=h.sq;refine⟨h.fs.at,h.sl.at,h.sb.at,?_,h.db.at,h.dq.at,⟨f1.cap,xs,f1.at.s0,f2,fun i x f hx hf=>⟨(f3 i x f hx hf).1,(f3 i x f hx hf).2.at.s0⟩⟩,h.ca.at,⟨ys,s1.at,by simp[jI,hl,s2],fun i x s hx hs=>?_⟩⟩
 ·show qE w (.slice V.sq.a V.sq.n V.sq.c) m.sq
  rw[q1,q2];exact⟨⟨none,0,rfl,fun _=>rfl,fun x hx=>by cases hx⟩,by simp,by simp⟩
 have hs':(List.zipWith (fun s f=>({ s with tb:=Ze f }:Sp)) m.sp T)[i]? =some s:=hs
 rw[List.getElem?_zipWith]at hs';have hi:i<m.sp.length:=by rw[<-s2];exact(gS.1 hx).1
 rw[gE hi,gE (show i<T.length by omega)]at hs'
 simp only[Option.some.injEq]at hs';obtain⟨a1,a2,a3,_⟩:=s3 i x _ _ hx (gE hi) (gE (show i<T.length by omega))
 subst hs';exact⟨a1,a2.at,a2.cap,(a3 hi).now⟩
end
structure ziQ (w0 w:World) (b:Nat) (vl:Sli) (L:List Int) (cs:List Value):Prop where
 gr:zc w0 w
 hb:w0.heap.size<=b
 box:zp w b 95 (.slice vl.a vl.n vl.c :: cs)
 lr:zr byE w0 (.slice vl.a vl.n vl.c) L
 lc:vl.n<=vl.c
 lb:∀z∈L,0<=z/\z<256
theorem Mk.nums {w:World} (h:Mk w0 hi w b vl L V m vt T):ziQ w0 w b vl L [.slice V.f.a V.f.n V.f.c,.int .i64 m.hand,.slice V.s.a V.s.n V.s.c,.slice V.sb.a V.sb.n V.sb.c,.slice V.sq.a V.sq.n V.sq.c,.slice V.db.a V.db.n V.db.c,.slice V.dq.a V.dq.n V.dq.c,.slice V.fl.a V.fl.n V.fl.c,.int .i64 m.cnt,.slice V.ca.a V.ca.n V.ca.c,.slice V.sp.a V.sp.n V.sp.c,.slice vt.a vt.n vt.c]:=⟨h.gr,h.hb,h.box,h.lr,h.lc,h.lb⟩
theorem zi6 {w:World} {cs:List Value} (n:Int) (h:ziQ w0 w b vl L cs):
  Calls prog 36 #[.pointer (some ⟨b,0,none⟩),.int .i64 n] w fun e w'=>∃vl' L' x,e= .returned (.int .i64 x)/\ziQ w0 w' b vl' L' cs/\w.grownBy w' (some b)/\w'.heap.size=w.heap.size/\0<=x/\(x=0\/x<n)/\(L=[]->x=0)/\ZL L L':=by
 have HM:Hid (ziQ w0 w b vl L cs):=h;have hbx:=h.box.box;have x0:=hbx.c 0 rfl;have xf:=hbx.f;have hln:=h.lr.n;clear hbx;obtain⟨⟨la,ln,lc⟩,hvl⟩:∃s:Sli,vl=s:=⟨_,rfl⟩;subst hvl;dsimp only at x0 hln HM;clear h
 by_cases h0:ln=0
 ·subst h0;clear hln
  go_enter func36,ntmps36
  go_wp2;go_ret;exact⟨_,L,0,rfl,HM.out,World.grownBy.rfl' _ _,rfl,Int.le_refl _,.inl rfl,fun _=>rfl,ZL.refl L⟩
 have h0e:((ln:Int) == 0)=false:=by simp;omega
 have h0f:(ln == 0)=false:=by simp[h0]
 by_cases h1:n<1
 ·clear h0 hln
  go_enter func36,ntmps36
  go_wp2;go_ret;exact⟨_,L,0,rfl,HM.out,World.grownBy.rfl' _ _,rfl,Int.le_refl _,.inl rfl,fun _=>rfl,ZL.refl L⟩
 obtain⟨z,L',rfl⟩:∃z L',L=z :: L':=by
  cases L with
  | nil=>simp at hln;omega
  | cons z L'=>exact⟨z,L',rfl⟩
 have hz:=HM.out.lb z (by simp)
 obtain⟨hz0,hz1⟩:=hz;obtain⟨ad,rfl,hl⟩:=HM.out.lr.rowsAt 0 z rfl;have d0:w.cell? ad=some (.int .u8 z):=by
  have:=hl w HM.out.gr 0 _ rfl;rw[zR]at this
  simpa [byE,Addr.add]using this
 obtain⟨k,rfl⟩:∃k,ln=k+1:=⟨ln - 1,by omega⟩
 have hcap:k+1<=lc:=HM.out.lc;have hrun:=zfC (w:=w) (ad:=ad) (n:=k) (c:=lc);clear h0 hl;have hlt:(0:Int)< ((k+1:Nat):Int):=by omega
 obtain⟨ad',had⟩:∃ad',(if lc=1 then ad else ad.add 1)=ad':=⟨_,rfl⟩;rw[had]at hrun;have HL':Hid (zr byE w0 (.slice (some ad') k (lc - 1)) L'):=dD<|by
  obtain⟨⟨xa,xc,q1,q2,q3⟩,q4⟩:=HM.out.lr;dsimp only at q1;cases q1;have q5:=q3 ad rfl;refine⟨⟨some ad',lc - 1,rfl,fun h=>(by cases h),fun y hy=>?_⟩,?_⟩
  ·cases hy
   by_cases hc:lc=1
   ·have:L'=[]:=by
     have:L'.length=0:=by omega
     exact eN this
    subst this;intro j u hj
    simp at hj
   rw[if_neg hc]at had;subst had;intro j u hj;rw[zR,Nat.add_comm 1 j];exact q5 (j+1) u (by simpa [byE]using hj)
  have:byE.bytes=1:=rfl;rw[this]at q4⊢
  simp at q4⊢
  omega
 have HBX:Hid (zp (w.setCell ⟨b,0,none⟩ (.slice (some ad') k (lc - 1))) b 95 (.slice (some ad') k (lc - 1) :: cs)):=HM.out.box.set 0 _;have HGR:Hid (w.grownBy (w.setCell ⟨b,0,none⟩ (.slice (some ad') k (lc - 1))) (some b)):=⟨rfl,rfl,rfl,by simp[World.setCell],fun j _ hj=>Below.heap_setCell _ _ _ _ (fun e=>hj (by rw[e]))⟩
 have HSZ:Hid ((w.setCell ⟨b,0,none⟩ (.slice (some ad') k (lc - 1))).heap.size=w.heap.size):=dD<|by simp[World.setCell]
 have HMK:Hid (ziQ w0 (w.setCell ⟨b,0,none⟩ (.slice (some ad') k (lc - 1))) b ⟨some ad',k,lc - 1⟩ L' cs):=show ziQ _ _ _ _ _ _ from
  ⟨ze HM.out.gr HGR.out HM.out.hb,HM.out.hb,HBX.out,HL'.out,(show k<=lc - 1 by omega),fun y hy=>HM.out.lb y (by simp[hy])⟩
 have HX:Hid (0<=z % n/\z % n<n):=dD<|⟨Int.emod_nonneg _ (by omega),Int.emod_lt_of_pos _ (by omega)⟩
 clear hln hcap had
 go_enter func36,ntmps36
 go_wp2;go_ret;exact⟨_,L',z % n,rfl,HMK.out,HGR.out,HSZ.out,HX.out.1,.inr HX.out.2,fun h=>(by cases h)⟩
theorem zhx {w:World} {us:List Value} {t:List (List En)} (h:Js B0 B1 w us t):∃t0 t1 t2 t3 t4 t5 t6 t7:Sli,us=[t0.v,t1.v,t2.v,t3.v,t4.v,t5.v,t6.v,t7.v]:=by
 have key:∀i v,us[i]? =some v->∃s:Sli,v=s.v:=fun i v hv=>by
  obtain⟨y,hy⟩:∃y,t[i]? =some y:=⟨_,gE (by rw[h.tlen,<-h.len];exact(gS.1 hv).1)⟩
  obtain⟨⟨a,c,e,_⟩,_⟩:=(h.row i v y hv hy).now;exact⟨⟨a,y.length,c⟩,e⟩
 obtain⟨v0,v1,v2,v3,v4,v5,v6,v7,rfl⟩:=zkN h.len;obtain⟨s0,rfl⟩:=key 0 v0 rfl;obtain⟨s1,rfl⟩:=key 1 v1 rfl;obtain⟨s2,rfl⟩:=key 2 v2 rfl;obtain⟨s3,rfl⟩:=key 3 v3 rfl;obtain⟨s4,rfl⟩:=key 4 v4 rfl;obtain⟨s5,rfl⟩:=key 5 v5 rfl;obtain⟨s6,rfl⟩:=key 6 v6 rfl;obtain⟨s7,rfl⟩:=key 7 v7 rfl;exact⟨s0,s1,s2,s3,s4,s5,s6,s7,rfl⟩
theorem zb.outb {α:Type} {E:Elt α} {base:Nat} {w:World} {v:Value} {l:List α} (h:zb E base w v l) (k:Out b (b+1) w w') (hne:∀g,v.ownBlock=some g->g≠b):zb E base w' v l:=by
 refine⟨⟨h.1.1,?_⟩,h.2⟩
 rcases h.1.2 with h1|⟨g,cap,cur,rfl,h2,h3,h4⟩
 ·exact .inl h1
 exact .inr ⟨g,cap,cur,rfl,h2,by rw[k.block g (aS.1 h3).1 (by have:=hne g rfl;omega)];exact h3,h4⟩
theorem zp.outb {p:Nat} {w:World} {cs:List Value} (h:zp w p t cs) (k:Out b (b+1) w w') (hne:p≠b):zp w' p t cs:=by
 have hl:=h.box.lt;have h0:w.heap[p]? =_:=h
 show w'.heap[p]? =_
 rw[k.block p hl (by omega)]
 exact h0
structure FC (w:World) (hi b:Nat) (u:World) (vl:Sli) (L:List Int) (V:MaV) (m:Ma) (pf:Nat) (sz:Int) (bs:Sli) (bl:List Int):Prop where
 mm:Mk w hi u b vl L V m zu []
 hp:hi<=pf
 fb:FlB w.heap.size hi pf u V m
 fn:∀g,(Value.slice V.fl.a V.fl.n V.fl.c).ownBlock=some g->g<pf
 box:zp u pf 84 [.int .i64 sz,.slice bs.a bs.n bs.c]
 row:zb blE (pf+1) u (.slice bs.a bs.n bs.c) bl
section
variable{w u u':World} {hi b pf:Nat} {vl vl' bs:Sli} {L L':List Int} {V V':MaV} {m m':Ma} {sz:Int} {bl:List Int}
theorem FC.grew (h:FC w hi b u vl L V m pf sz bs bl) (k:zc u u'):FC w hi b u' vl L V m pf sz bs bl:=⟨h.mm.grew k,h.hp,h.fb.grew k,h.fn,h.box.grew k,h.row.grew k⟩
theorem FlB.as (h:FlB w.heap.size hi pf u V m) (hV:V'.fl=V.fl) (hm:m'.fl=m.fl):FlB w.heap.size hi pf u V' m':=by
 unfold FlB at h⊢;rw[hV,hm];exact h
theorem zp.kind {g p:Nat} {t':TypeId} {cs:List Value} {ds:Array Value} (h:zp u p t cs) (hg:u.grownBy u' (some g)) (ho:u.heap[g]? =some (.cells ds t' (0,0))) (ht:t'≠t):zp u' p t cs:=h.beside hg (fun k e=>by
 cases e;intro e;subst e;have h3:u.heap[p]? =_:=h;rw[ho]at h3;cases h3;exact ht rfl)
theorem FC.kind (h:FC w hi b u vl L V m pf sz bs bl) {g:Nat} {cs:Array Value} (hg:u.grownBy u' (some g)) (ho:u.heap[g]? =some (.cells cs t (0,0))) (ht:t≠84) (ht2:t≠3) (mk':Mk w hi u' b vl' L' V' m' zu []) (hV:V'.fl=V.fl) (hm:m'.fl=m.fl):FC w hi b u' vl' L' V' m' pf sz bs bl:=
 ⟨mk',h.hp,(h.fb.kind hg ho (.inl ht) (.inl ht2)).as hV hm,by rw[hV];exact h.fn,h.box.kind hg ho ht,h.row.kind hg ho ht2⟩
theorem FC.pick (h:FC w hi b u vl L V m pf sz bs bl) (hg:u.grownBy u' (some b)) (mk':Mk w hi u' b vl' L' V m zu []):FC w hi b u' vl' L' V m pf sz bs bl:=h.kind hg h.mm.box (by decide) (by decide) mk' rfl rfl
theorem FC.fresh (h:FC w hi b u vl L V m pf sz bs bl) {g:Nat} {cs:Array Value} (hg:u.grownBy u' (some g)) (ho:u.heap[g]? =some (.cells cs 84 (0,0))) (hl:pf<g):FC w hi b u' vl L V m pf sz bs bl:=by
 have hn:(Value.slice V.fl.a V.fl.n V.fl.c).ownBlock≠some g:=fun e=>by have:=h.fn g e;omega
 have hw:w.heap.size<=g:=by have:=h.mm.rows.bh;have:=h.hp;omega
 exact⟨⟨ze h.mm.gr hg hw,h.mm.hb,h.mm.box.kind hg ho (by decide),h.mm.lr,h.mm.lc,h.mm.lb,h.mm.rows.fileVar hg ho hn⟩,h.hp,h.fb.kind hg ho (.inr hn) (.inl (by decide)),h.fn,h.box.beside hg (fun k e=>by cases e;omega),h.row.kind hg ho (by decide)⟩
theorem zi9 (w:World) (x:FlV):zb fvE w.heap.size (w.alloc (.cells (fvE.enc x).toArray 84)) (.slice (some ⟨w.heap.size,0,none⟩) 1 1) [x]:=by
 refine⟨⟨rfl,.inr ⟨w.heap.size,1,(fvE.enc x).toArray,rfl,nR _,?_,nR _,qx (by omega),rfl,?_⟩⟩,by show 1*32<=_;omega⟩
 ·show(w.heap.push _)[w.heap.size]? =_
  simp;rfl
 simp[fvE,flv]
theorem FC.addB (h:FC w hi b u vl L V m pf sz bs bl) (hg:u.grownBy u' (Value.slice bs.a bs.n bs.c).ownBlock) (s:Sli) {bl':List Int} (ho:zb blE (pf+1) u' (.slice s.a s.n s.c) bl'):
  zp u' pf 84 [.int .i64 sz,.slice bs.a bs.n bs.c]/\(∀p t cs,t≠3->t≠84->zp u p t cs->zp (u'.setCell ⟨pf,1,none⟩ (.slice s.a s.n s.c)) p t cs)/\FC w hi b (u'.setCell ⟨pf,1,none⟩ (.slice s.a s.n s.c)) vl L V m pf sz s bl':=by
 have key:Mk w hi u' b vl L V m zu []/\FlB w.heap.size hi pf u' V m/\zp u' pf 84 [.int .i64 sz,.slice bs.a bs.n bs.c]/\(∀p t cs,t≠3->zp u p t cs->zp u' p t cs):=by
  cases hob:(Value.slice bs.a bs.n bs.c).ownBlock with
  | none=>
   rw[hob]at hg;have k:=qo hg;exact⟨h.mm.grew k,h.fb.grew k,h.box.grew k,fun p t cs _ hb=>hb.grew k⟩
  | some g=>
   rw[hob]at hg;obtain⟨cs,hc⟩:=h.row.obj hob;have hl:=(h.row.lt g hob).1;have hw:w.heap.size<=g:=by have:=h.mm.rows.bh;have:=h.hp;omega
   exact⟨⟨ze h.mm.gr hg hw,h.mm.hb,h.mm.box.kind hg hc (by decide),h.mm.lr,h.mm.lc,h.mm.lb,h.mm.rows.ints h.fb hg hc (by omega) (by have:=h.hp;omega)⟩,h.fb.kind hg hc (.inl (by decide)) (.inr (by omega)),h.box.kind hg hc (by decide),fun p t ds ht hb=>hb.kind hg hc (fun e=>ht e.symm)⟩
 obtain⟨k1,k2,k3,k4⟩:=key;have hg2:=qY u' pf 1 (.slice s.a s.n s.c);have hn:(Value.slice V.fl.a V.fl.n V.fl.c).ownBlock≠some pf:=fun e=>by have:=h.fn pf e;omega
 have hw:w.heap.size<=pf:=by have:=h.mm.rows.bh;have:=h.hp;omega
 refine⟨k3,fun p t cs h1 h2 h3=>(k4 p t cs h1 h3).kind hg2 k3 (fun e=>h2 e.symm),⟨⟨ze k1.gr hg2 hw,k1.hb,k1.box.kind hg2 k3 (by decide),k1.lr,k1.lc,k1.lb,k1.rows.fileVar hg2 k3 hn⟩,h.hp,k2.kind hg2 k3 (.inr hn) (.inl (by decide)),h.fn,k3.set 1 _,ho.kind hg2 k3 (by decide)⟩⟩
def FCE (w:World) (hi b:Nat) (L0:List Int) (V:MaV) (m:Ma) (pf:Nat) (sz:Int) (bs:Sli) (bl:List Int) (u:World):Prop:=∃vl L,FC w hi b u vl L V m pf sz bs bl/\ZL L0 L
end
theorem MkT.other {base ht k:Nat} {w:World} (h:MkT base hi ht k w V m vt T) {g:Nat} {cs:Array Value} (hg:w.grownBy w' (some g)) (ho:w.heap[g]? =some (.cells cs t (0,0))) (hlt:g<ht) (h1:t=95\/t=41):MkT base hi ht k w' V m vt T:=by
 have hne:t≠53/\t≠3/\t≠44/\t≠100/\t≠84/\t≠120/\t≠63/\t≠91/\t≠56:=by rcases h1 with rfl | rfl <;> decide
 obtain⟨a1,a2,a3,a4,a5,a6,a7,a8,a9⟩:=hne;obtain⟨xs,f1,f2,f3⟩:=h.fl;obtain⟨ys,s1,s2,s3⟩:=h.sp;have hout:Out 0 ht w w':=Out.grown hg (fun g' e=>by cases e;exact⟨nZ _,hlt⟩)
 exact⟨h.fs.kind hg ho a1,h.sl.kind hg ho a2,h.slh,⟨qw h.sb.1 hg ho a3,h.sb.2⟩,h.sq,⟨qw h.db.1 hg ho a3,h.db.2⟩,⟨qw h.dq.1 hg ho a4,h.dq.2⟩,⟨xs,f1.kind hg ho a5,f2,fun i x f hx hf=>⟨(f3 i x f hx hf).1,(f3 i x f hx hf).2.kind hg ho a2⟩⟩,h.ca.kind hg ho a6,⟨ys,s1.kind hg ho a7,s2,fun i x s f hx hs hT=>⟨(s3 i x s f hx hs hT).1,(s3 i x s f hx hs hT).2.1.kind hg ho a8,fun e=>((s3 i x s f hx hs hT).2.2.1 e).out hout,(s3 i x s f hx hs hT).2.2.2⟩⟩,h.tt.kind hg ho a9,h.ap,h.lo,nT h.hts hg.size⟩
theorem zc4 {p:Nat}:Loc hi p 41:=⟨by decide,by decide,by decide,by decide,by decide,by decide,by decide,by decide,fun h=>absurd h (by decide)⟩
theorem zl7:(Tryz.prog.info? 41).map (·.size)=some 11:=by kernel_rfl
def zdT (nf ns nb k:Nat):Ma:=⟨List.replicate nf frF,0,List.replicate ns 0,List.replicate ns zz,[],List.replicate nb zz,[],[],nb,[],List.replicate k ⟨true,[],qN⟩⟩
structure ziL (w:World) (nf ns nb:Nat) (L:List Int) (w':World) (V:MaV) (m:Ma) (T:List (Nat->En)) (hd:Int) (hi ht:Nat) (vt:Sli):Prop where
 gr:zc w w'
 rows:MkT w.heap.size hi ht m.sp.length w' V m vt T
 inv:qO m T
 hand:0<=hd/\hd<max (m.fs.length:Int) 1
 fin:∀s∈m.sp,jp m.fl.length s.ars/\jR s.ars 64<=12
 fl2:m.fl.length<=2/\∀f∈m.fl,f.size<40
 sp:1<=m.sp.length/\m.sp.length<=2
 fsl:m.fs.length=nf
 new:L=[]->m=zdT nf ns nb 1/\T=[fun _=>en0]/\hd=0
theorem ziV (v:Value) (fs:List Fl) (cnt b:Int) (w:World) (hv:qd w v fs):
  Calls prog 38 #[.agg #[v,.int .i64 cnt],.int .i64 b] w fun e w'=>e= .returned (.bool (zT fs b))/\zc w w':=by
 obtain⟨a,c,rfl,hbig,hrow⟩:=hv.rows;have HR:Hid (Jh w a fs):=hrow;clear hrow hv;obtain⟨n,HN⟩:∃n,Hid (fs.length=n):=⟨_,rfl⟩;rw[HN.out]at hbig⊢;obtain⟨ANS,HANS⟩:∃ANS,Hid (zT fs b=ANS):=⟨_,rfl⟩;rw[HANS.out];obtain⟨W0,hW0⟩:∃W0,w.alloc (.cells #[.slice a n c,.int .i64 cnt] 37)=W0:=⟨_,rfl⟩;have HG0:=gA hW0
 have HW0:Hid (_=W0):=hW0;clear hW0
 go_enter func38,ntmps38
 go_wp2;rw[HW0.out]
 go_loopg [12] n (fun gg s12 wr=>∃kk:Nat,kk<=n/\n - kk<=gg/\s12= .int .i64 kk/\Hid (zc w wr)/\Hid (∀(j:Nat) (q:Fl),j<kk->fs[j]? =some q->q.bl.contains b=false))
 case atStart=>exact⟨0,nZ _,by omega,rfl,HG0.out,fun j q hj=>absurd hj (nL _)⟩
 obtain⟨kk,hkk,hg,rfl,BW,A⟩:=hrel
 by_cases hlt:kk<n
 ·have hltz:(kk:Int)< (n:Int):=by omega
  obtain⟨q,HQ⟩:∃q,Hid (fs[kk]? =some q):=⟨_,gE (by rw[HN.out];exact hlt)⟩
  obtain⟨ad,rfl,xa,xc,hra,hl⟩:=HR.out kk q HQ.out;obtain⟨d0,d1⟩:=hl wr BW.out;have hqbig:=hra.short;obtain⟨a',c',heq,hnum⟩:=hra.nums;cases heq;have HRA:Hid (zaA w xa q.bl):=hnum;clear hl hra hnum;obtain⟨nb,HNB⟩:∃nb,Hid (q.bl.length=nb):=⟨_,rfl⟩;rw[HNB.out]at d1 hqbig;obtain⟨W2,hW2⟩:∃W2,wr.alloc (.cells #[.int .i64 q.size,.slice xa nb xc] 84)=W2:=⟨_,rfl⟩;have G2:=gT hW2 BW
  have HW2:Hid (_=W2):=hW2;clear hW2;go_wp2;rw[HW2.out]
  go_loopg [19] nb (fun g2 s19 wr2=>∃k2:Nat,k2<=nb/\nb - k2<=g2/\s19= .int .i64 k2/\Hid (zc w wr2)/\Hid (∀(j:Nat) z,j<k2->q.bl[j]? =some z->¬z=b))
  case atStart=>exact⟨0,nZ _,by omega,rfl,G2.out,fun j z hj=>absurd hj (nL _)⟩
  obtain⟨k2,hk2,hg2,rfl,BW2,A2⟩:=hrel;clear d0 d1
  by_cases hlt2:k2<nb
  ·have hltz2:(k2:Int)< (nb:Int):=by omega
   obtain⟨z,HZ⟩:∃z,Hid (q.bl[k2]? =some z):=⟨_,gE (by rw[HNB.out];exact hlt2)⟩
   obtain⟨ad2,rfl,hl2⟩:=HRA.out k2 z HZ.out;have d2:=hl2 _ BW2.out;clear hl2
   by_cases hz:z=b
   ·have hzb:(z == b)=true:=by simpa using hz
    have HF:Hid (ANS=true):=dD<|by
     rw[<-HANS.out];unfold zT;exact zkV HQ.out (List.contains_iff_mem.2 (hz ▸ mG HZ.out))
    clear hz;go_wp2;go_ret;exact⟨by rw[HF.out];rfl,BW2.out⟩
   have hzb:(z == b)=false:=by simpa using hz
   have HA2:Hid (∀(j:Nat) z,j<k2+1->q.bl[j]? =some z->¬z=b):=dD<|fun j z' hj hz'=>by
    by_cases e:j=k2
    ·subst e;rw[HZ.out]at hz';cases hz';exact hz
    exact A2.out j z' (by omega) hz'
   clear hz;go_wp2
   go_roundg (nb -(k2+1))
   case measure=>omega
   exact⟨k2+1,by omega,by omega,by go_num,BW2.out,HA2.out⟩
  have hltz2:¬(k2:Int)< (nb:Int):=by omega
  have:k2=nb:=by omega
  subst this;have HA:Hid (∀(j:Nat) (q:Fl),j<kk+1->fs[j]? =some q->q.bl.contains b=false):=dD<|fun j q' hj hq'=>by
   by_cases e:j=kk
   ·subst e;rw[HQ.out]at hq';cases hq'
    cases hb:q.bl.contains b with
    | false=>rfl
    | true=>
     obtain⟨p,hp⟩:=List.getElem?_of_mem (List.contains_iff_mem.1 hb);exact absurd rfl (A2.out p b (by rw[<-HNB.out];exact(gS.1 hp).1) hp)
   exact A.out j q' (by omega) hq'
  go_wp2
  go_roundg (n -(kk+1))
  case measure=>omega
  exact⟨kk+1,by omega,by omega,by go_num,BW2.out,HA.out⟩
 have hltz:¬(kk:Int)< (n:Int):=by omega
 have:kk=n:=by omega
 subst this;have HF:Hid (ANS=false):=dD<|by
  rw[<-HANS.out];unfold zT;rw[zkU (fun j q hj=>A.out j q (by rw[<-HN.out];exact(gS.1 hj).1) hj)]
 go_wp2;go_ret;exact⟨by rw[HF.out];rfl,BW.out⟩
theorem ziz (l:List En) (i:Nat):(ZP l i).length=8:=by simp[ZP]
theorem zjZ (l:List En) {k:Nat} (hk:k<8):(ZP l i)[k]? =some (l[8*i+k]?.getD en0):=by
 unfold ZP;rw[List.getElem?_map,List.getElem?_range hk];rfl
structure zkX (l:List En) (kk:Nat) (t:List (List En)):Prop where
 len:t.length=8
 at':∀j,j<8->t[j]? =some (if j<kk then mk (ZP l j)else [])
theorem zhW (l:List En):zkX l 0 qN:=⟨rfl,fun j hj=>by rw[if_neg (nL _),qN,List.getElem?_replicate,if_pos hj]⟩
theorem zd0 {l:List En} {t:List (List En)} (h:zkX l kk t) (hk:kk<8):zkX l (kk+1) (t.set kk (mk (ZP l kk))):=by
 refine⟨by simp[h.len],fun j hj=>?_⟩
 by_cases e:j=kk
 ·subst e;rw[sF (by rw[h.len];exact hj),if_pos (Nat.lt_succ_self _)]
 rw[sN (fun h=>e h.symm),h.at' j hj]
 by_cases h1:j<kk
 ·rw[if_pos h1,if_pos (by omega)]
 rw[if_neg h1,if_neg (by omega)]
theorem zjt {l:List En} {t:List (List En)} (h:zkX l 8 t):t=Zd l:=by
 apply List.ext_getElem?
 intro j
 by_cases hj:j<8
 ·rw[h.at' j hj,if_pos hj];unfold Zd;rw[List.getElem?_map,List.getElem?_range hj];rfl
 rw[gN (by rw[h.len];omega),gN (by simp[Zd];omega)]
theorem zeQ (l:List En) (w:World) (hl:l.length=64) (hk:∀e∈l,0<=e.kind):
  Calls prog 42 #[.agg (jc l).toArray] w fun e w'=>∃us,e= .returned (.agg us.toArray)/\Js 0 w.heap.size w' us (Zd l)/\zc w w':=by
 have HLL:Hid (l.length=64):=hl;have HK:Hid (∀e∈l,0<=e.kind):=hk;have HC:Hid (∀(j:Nat) e,l[j]? =some e->(jc l)[j*3]? =some (.int .i64 e.kind)/\(jc l)[j*3+1]? =some (.int .i64 e.n)/\(jc l)[j*3+2]? =some (.bool e.wr)):=show∀(j:Nat) e,_ from fun j e h=>zet h
 clear hl hk;obtain⟨TT,HTT⟩:∃TT,Hid (Zd l=TT):=⟨_,rfl⟩;rw[HTT.out]
 generalize jc l=C at HC⊢
 obtain⟨W0,hW0⟩:∃W0,((w.alloc (.cells C.toArray 56)).alloc (.cells #[.slice none 0 0,.slice none 0 0,.slice none 0 0,.slice none 0 0,.slice none 0 0,.slice none 0 0,.slice none 0 0,.slice none 0 0] 61)).alloc (.cells #[.slice none 0 0,.slice none 0 0,.slice none 0 0,.slice none 0 0,.slice none 0 0,.slice none 0 0,.slice none 0 0,.slice none 0 0] 61)=W0:=⟨_,rfl⟩;have HG0:Hid (zc w W0):=dD<|by rw[<-hW0];exact((za _ _).trans (za _ _)).trans (za _ _)
 have X0:Hid (Box W0 w.heap.size C):=dD<|by rw[<-hW0];exact((Box.top w _ _ rfl).alloc _).alloc _
 have Y0:Hid (Box W0 (w.heap.size+1) zao):=dD<|by rw[<-hW0];exact(Box.top _ zao _ (by simp)).alloc _
 have T0:Hid (Box W0 (w.heap.size+2) zao):=dD<|by rw[<-hW0];exact Box.top _ zao _ (by simp)
 have HW0:Hid (_=W0):=hW0;clear hW0;obtain⟨b2,HB2⟩:∃b2,Hid (w.heap.size+2=b2):=⟨_,rfl⟩
 go_enter func42,ntmps42
 go_upto_region 2 with fail;rw[HW0.out];go_wp2
 go_loopg [8] 8 (fun gg s8 wr=>∃(kk:Nat) (us:List Value) (t:List (List En)),kk<=8/\8 - kk<=gg/\s8= .int .i64 kk/\Hid (zc w wr)/\Hid (Box wr w.heap.size C)/\Hid (Box wr (w.heap.size+1) zao)/\Hid (Box wr (w.heap.size+2) us)/\Hid (Js 0 (w.heap.size+3) wr us t)/\Hid (zkX l kk t)/\Hid (∀j,kk<=j->j<8->us[j]? =some (.slice none 0 0)))
 case atStart=>exact⟨0,zao,qN,nZ _,by omega,rfl,HG0.out,X0.out,Y0.out,T0.out,Js.nil _ _ _,zhW l,show∀j,_ from fun j _ hj=>by rw[zao,List.getElem?_replicate,if_pos hj]⟩
 obtain⟨kk,us,t,hkk,hg,rfl,BW,XW,YW,TW,SW,MW,NW⟩:=hrel
 by_cases hlt:kk<8
 ·have hltz:(kk:Int)<8:=by omega
  obtain⟨Ch,HCH⟩:∃Ch,Hid (ZP l kk=Ch):=⟨_,rfl⟩;have HCL:Hid (Ch.length=8):=dD<|by rw[<-HCH.out];exact ziz _ _
  have HCA:Hid (∀k,k<8->∃e,Ch[k]? =some e/\l[8*kk+k]? =some e/\0<=e.kind):=dD<|fun k hk=>by
   obtain⟨e,he⟩:∃e,l[8*kk+k]? =some e:=⟨_,gE (by rw[HLL.out];omega)⟩
   exact⟨e,by rw[<-HCH.out,zjZ l hk,he];rfl,he,HK.out e (mG he)⟩
  obtain⟨WB,rfl⟩:∃WB,WB=wr:=⟨_,rfl⟩;go_wp2
  go_loopg [5,6] 8 (fun g2 s5 s6 wr2=>∃(k2:Nat) (sm:Bool),k2<=8/\8 - k2<=g2/\s6= .int .i64 k2/\s5= .bool sm/\Hid (sm=zbS (Ch.take k2))/\Hid (wr2=WB))
  case atStart=>exact⟨0,false,nZ _,by omega,rfl,rfl,rfl,rfl⟩
  obtain⟨k2,sm,hk2,hg2,rfl,rfl,AW2,EW⟩:=hrel;rw[EW.out]
  by_cases hlt2:k2<8
  ·have hltz2:(k2:Int)<8:=by omega
   obtain⟨e,he1,he2,he3⟩:=HCA.out k2 hlt2;have HT:Hid (zbS (Ch.take (k2+1))=(sm || enS e)):=dD<|by
    rw[jm he1,AW2.out];unfold zbS;rw[List.any_append];simp
   cases sm with
   | true=>
    have HS:Hid (true=zbS (Ch.take (k2+1))):=dD<|by rw[HT.out];rfl
    clear he1 he2 he3;go_wp2
    go_roundg (8 -(k2+1))
    case measure=>omega
    exact⟨k2+1,true,by omega,by omega,by go_num,rfl,HS.out,rfl⟩
   | false=>
    have hidx:(8:Int)*(kk:Int)+(k2:Int)=((8*kk+k2:Nat):Int):=by omega
    have hi64:8*kk+k2<64:=by omega
    obtain⟨c0,_,_⟩:=HC.out _ e he2;obtain⟨ix,HIX⟩:∃ix,Hid (8*kk+k2=ix):=⟨_,rfl⟩;rw[HIX.out]at hidx hi64 c0;have hi64z:(ix:Int)<64:=by omega
    have x0:=XW.out.c _ c0;clear c0 he1 he2;obtain⟨B,HBB⟩:∃B,Hid (enS e=B):=⟨_,rfl⟩;have hB:decide (0<e.kind)=B:=by
     rw[<-HBB.out];unfold enS
     by_cases h:e.kind=0
     ·rw[h];rfl
     have:0<e.kind:=by omega
     rw[decide_eq_true this]
     simpa using h
    have HS:Hid (B=zbS (Ch.take (k2+1))):=dD<|by rw[HT.out,HBB.out];rfl
    clear he3;go_wp2
    go_roundg (8 -(k2+1))
    case measure=>omega
    exact⟨k2+1,B,by omega,by omega,by go_num,by first | rfl | rw[hB],HS.out,rfl⟩
  have hltz2:¬(k2:Int)<8:=by omega
  have:k2=8:=by omega
  subst this;have HSM:Hid (sm=zbS Ch):=dD<|by rw[AW2.out,List.take_of_length_le (by rw[HCL.out];exact nR _)]
  cases sm with
  | false=>
   have HMK:Hid (mk (ZP l kk)=[]):=dD<|by rw[HCH.out];unfold mk;rw[<-HSM.out,if_neg (by decide)]
   have HTK:Hid (t.set kk (mk (ZP l kk))=t):=dD<|by
    rw[HMK.out];refine zcW ?_;rw[MW.out.at' kk hlt,if_neg (Nat.lt_irrefl _)]
   have M2:Hid (zkX l (kk+1) t):=dD<|by rw[<-HTK.out];exact zd0 MW.out hlt
   go_wp2
   go_loopg [7] 1 (fun g3 s7 wr3=>1<=g3/\s7= .int .i64 0/\Hid (wr3=WB))
   case atStart=>exact⟨nR _,rfl,rfl⟩
   obtain⟨hg3,rfl,EW3⟩:=hrel;rw[EW3.out];go_wp2
   go_roundg (8 -(kk+1))
   case measure=>omega
   exact⟨kk+1,us,t,by omega,by omega,by go_num,BW.out,XW.out,YW.out,TW.out,SW.out,M2.out,show∀j,_ from fun j h1 h2=>NW.out j (by omega) h2⟩
  | true=>
   have HMK:Hid (mk (ZP l kk)=Ch):=dD<|by rw[HCH.out];unfold mk;rw[<-HSM.out,if_pos rfl]
   have HU8:Hid (us.length=8):=SW.out.len;go_wp2
   go_loopg [7] 8 (fun g3 s7 wr3=>∃(k3 c:Nat) (a:Option Addr),k3<=8/\8 - k3<=g3/\s7= .int .i64 k3/\Hid (Out (w.heap.size+2) (w.heap.size+3) WB wr3)/\Hid (Box wr3 (w.heap.size+2) (us.set kk (.slice a k3 c)))/\Hid (zb enE WB.heap.size wr3 (.slice a k3 c) (Ch.take k3)))
   case atStart=>exact⟨0,0,none,nZ _,by omega,rfl,Out.refl _ _ _,by rw[zcW (NW.out kk (nR _) hlt)];exact TW.out,zb.nil _ _ _⟩
   obtain⟨k3,c,a,hk3,hg3,rfl,OW3,TW3,RW3⟩:=hrel;have HLB:Hid (w.heap.size+3<=WB.heap.size):=TW.out.lt
   by_cases hlt3:k3<8
   ·have hltz3:(k3:Int)<8:=by omega
    obtain⟨e,he1,he2,_⟩:=HCA.out k3 hlt3;have hidx:(8:Int)*(kk:Int)+(k3:Int)=((8*kk+k3:Nat):Int):=by omega
    have hi64:8*kk+k3<64:=by omega
    obtain⟨c0,c1,c2⟩:=HC.out _ e he2;obtain⟨ix,HIX⟩:∃ix,Hid (8*kk+k3=ix):=⟨_,rfl⟩;rw[HIX.out]at hidx hi64 c0 c1 c2;have hi64z:(ix:Int)<64:=by omega
    have HTK:Hid (Ch.take (k3+1)=Ch.take k3++ [e]):=jm he1;have HTL:Hid ((Ch.take k3).length=k3):=show _=_ by rw[List.length_take,HCL.out];omega
    have HXB:Hid (Box wr w.heap.size C):=XW.out.out OW3.out (by omega)
    have HYB:Hid (Box wr (w.heap.size+1) zao):=YW.out.out OW3.out (by omega)
    have hgo:∀g,(Value.slice a k3 c).ownBlock=some g->WB.heap.size<=g/\g<wr.heap.size:=RW3.out.lt;have HGO:Hid (∀g,(Value.slice a k3 c).ownBlock=some g->WB.heap.size<=g/\g<wr.heap.size):=hgo;clear hgo he1 he2;obtain⟨w3,rfl⟩:∃w3,w3=wr:=⟨_,rfl⟩;obtain⟨I,HI⟩:∃I:World->Prop,Hid (∀u,I u↔(Box u w.heap.size C/\Box u (w.heap.size+1) zao/\Box u (w.heap.size+2) (us.set kk (.slice a k3 c))/\Out (w.heap.size+2) (w.heap.size+3) WB u/\w3.heap.size<=u.heap.size)):=⟨fun u=>(Box u w.heap.size C/\Box u (w.heap.size+1) zao/\Box u (w.heap.size+2) (us.set kk (.slice a k3 c))/\Out (w.heap.size+2) (w.heap.size+3) WB u/\w3.heap.size<=u.heap.size),fun _=>Iff.rfl⟩
    go_upto_region 13 with fail;have hxt:∀y:zj I,y.world.cell? ⟨w.heap.size+2,kk,none⟩=some (.slice a k3 c):=fun y=>((HI.out _).1 y.holds).2.2.1.c kk (sF (by rw[HU8.out];exact hlt))
    have hx0:∀y:zj I,y.world.cell? ⟨w.heap.size,ix*3,none⟩=some (.int .i64 e.kind):=fun y=>((HI.out _).1 y.holds).1.c _ c0
    have hx1:∀y:zj I,y.world.cell? ⟨w.heap.size,ix*3+1,none⟩=some (.int .i64 e.n):=fun y=>((HI.out _).1 y.holds).1.c _ c1
    have hx2:∀y:zj I,y.world.cell? ⟨w.heap.size,ix*3+2,none⟩=some (.bool e.wr):=fun y=>((HI.out _).1 y.holds).1.c _ c2
    have hI0:I w3.drew:=(HI.out _).2 ⟨HXB.out.grew (gW _),HYB.out.grew (gW _),TW3.out.grew (gW _),OW3.out.trans (Out.drew _),nR _⟩
    have hne:Nonempty (zj I):=⟨⟨_,hI0⟩⟩;clear c0 c1 c2;refine qQ (I:=I) 13 [(10,⟨fun v=>∃g,v= .slice (some ⟨g,0,none⟩) 1 1,fun v w'=>zaK enE w3.heap.size w' v [e],fun p q=>zc p q,fun _=>True⟩),(11,⟨fun v=>∃a' c',v= .slice a' (k3+1) c',fun v w'=>zb enE WB.heap.size w' v (Ch.take k3++ [e]),fun p q=>p.grownBy q (Value.slice a k3 c).ownBlock,fun u=>zb enE WB.heap.size u (.slice a k3 c) (Ch.take k3)⟩)] hI0 qn (by kernel_rfl) rfl rfl (by decide) ?hS ?hp ?hpre ?hpr0 ?_
    case hS=>
     intro y hy
     simp at hy
     rcases hy with rfl|rfl
     ·exact⟨_,0,rfl⟩
     exact⟨_,none,0,rfl⟩
    case hp=>
     intro k s j t' hk hj hjk _ v p q hst hpo
     rcases zgF hk with⟨rfl,rfl⟩|⟨rfl,rfl⟩
     ·rcases zgF hj with⟨rfl,rfl⟩|⟨rfl,rfl⟩
      ·exact absurd rfl hjk
      have h1:zaK enE w3.heap.size p v [e]:=hpo;exact⟨h1.1.beside hst (fun x n c' hx h=>by
       have h2:=h1.2 x n c' hx;have h3:=(HGO.out x.block h.symm).2
       omega),h1.2⟩
     rcases zgF hj with⟨rfl,rfl⟩|⟨rfl,rfl⟩
     ·exact zb.grew hpo hst
     exact absurd rfl hjk
    case hpre=>
     intro j t' k s hj hk hjk p q hst hpr
     rcases zgF hj with⟨rfl,rfl⟩|⟨rfl,rfl⟩
     ·trivial
     rcases zgF hk with⟨rfl,rfl⟩|⟨rfl,rfl⟩
     ·exact zb.grew hpr hst
     exact absurd rfl hjk
    case hpr0=>
     intro k t' hk
     rcases zgF hk with⟨rfl,rfl⟩|⟨rfl,rfl⟩
     ·trivial
     exact RW3.out.grew (gW _)
    simp only[List.take,List.drop];iterate 10 (refine zk rfl rfl rfl (fun K hK=>?_);go_big_quiet_op;refine hK _ ?_;clear hK)
    refine zI rfl rfl (fun w' hI' hpr hF=>?_) (fun v1 hv=>?_)
    ·obtain⟨i1,i2,i3,i4,i5⟩:=(HI.out _).1 hI';have hnew:zaK enE w3.heap.size (w'.alloc (.cells #[.int .i64 e.kind,.int .i64 e.n,.bool e.wr] 55)) (.slice (some ⟨w'.heap.size,0,none⟩) 1 1) [e]:=⟨jN enE w' e _ _ rfl (by decide),fun x n c' hx=>by cases hx;exact i5⟩
     clear hxt hx0 hx1 hx2 hne;refine zK.step (v:= .slice (some ⟨w'.heap.size,0,none⟩) 1 1) (w':=w'.alloc (.cells #[.int .i64 e.kind,.int .i64 e.n,.bool e.wr] 55)) (by simp only[execOp];go_simp) ⟨(HI.out _).2 ⟨i1.alloc _,i2.alloc _,i3.alloc _,i4.trans (Out.grew (za _ _)),nT i5 (bS (za _ _))⟩,za _ _,⟨_,rfl⟩,hnew⟩
    obtain⟨g10,rfl⟩:=hv;simp only[Act.put,sB,sS,sZ];refine zI rfl rfl (fun w' hI' hpr hF=>?_) (fun v1 hv=>?_)
    ·obtain⟨i1,i2,i3,i4,i5⟩:=(HI.out _).1 hI';have h10:zaK enE w3.heap.size w' (.slice (some ⟨g10,0,none⟩) 1 1) [e]:=hF 10 (by kernel_rfl)
     have hpr':zb enE WB.heap.size w' (.slice a k3 c) (Ch.take k3):=hpr;obtain⟨v',w2,hrun,ho,hgr,_⟩:=qj (E:=enE) (w:=w') 59 hpr' (.slice (some ⟨g10,0,none⟩) 1 1) [e] h10.1 (by rw[HTL.out];show(k3+1)*24<=_;omega) i4.size
     obtain⟨a',c',rfl⟩:=ho.form;have hln:(Ch.take k3++ [e]).length=k3+1:=by rw[lA,HTL.out];rfl
     rw[hln]at ho hrun;have hne':∀b,b<w.heap.size+3->∀g,(Value.slice a k3 c).ownBlock=some g->b≠g:=fun b hb g hg=>by
      have:=(HGO.out g hg).1;have:=HLB.out;omega
     refine zK.step (v:= .slice a' (k3+1) c') (w':=w2) ?_ ⟨(HI.out _).2 ⟨i1.beside hgr (hne' _ (by omega)),i2.beside hgr (hne' _ (by omega)),i3.beside hgr (hne' _ (by omega)),⟨hgr.os.trans i4.os,hgr.tape.trans i4.tape,hgr.output.trans i4.output,nT i4.size hgr.size,fun k hk hb=>(hgr.block k (Nat.lt_of_lt_of_le hk i4.size) (fun h=>by have:=(HGO.out k h.symm).1;omega)).trans (i4.block k hk hb)⟩,nT i5 hgr.size⟩,hgr,⟨a',c',rfl⟩,ho⟩
     simp only[execOp,resolve,invoke,builtin,pure_bind,Sem.run_bind,Sem.run_pure,List.map_toArray,mP,List.map_nil];exact Eq.trans (congrArg (fun r=>Result.andThen r (fun a w'=>Result.ok (Next.value a) w')) hrun) rfl
    obtain⟨a11,c11,rfl⟩:=hv;simp only[Act.put,sB,sS,sZ];iterate 1 (refine zk rfl rfl rfl (fun K hK=>?_);go_big_quiet_op;refine hK _ ?_;clear hK)
    refine jO fun W4 hI4 hF=>?_
    have o11:zb enE WB.heap.size W4 (.slice a11 (k3+1) c11) (Ch.take k3++ [e]):=hF 11;obtain⟨i1,i2,i3,i4,i5⟩:=(HI.out _).1 hI4;have O4:Hid (zb enE WB.heap.size W4 (.slice a11 (k3+1) c11) (Ch.take (k3+1))):=dD<|by rw[HTK.out];exact o11
    have T4:Hid (Box W4 (w.heap.size+2) (us.set kk (.slice a k3 c))):=i3;have Out4:Hid (Out (w.heap.size+2) (w.heap.size+3) WB W4):=i4;clear hF hxt hx0 hx1 hx2 hI4 hne hI0 o11 i1 i2 i3 i4 i5;have t0:=T4.out.c kk (sF (by rw[HU8.out];exact hlt))
    have tf:=T4.out.f;go_upto_region 12 with fail;have T5:Hid (Box (W4.setCell ⟨w.heap.size+2,kk,none⟩ (.slice a11 (k3+1) c11)) (w.heap.size+2) (us.set kk (.slice a11 (k3+1) c11))):=dD<|by
     have:=T4.out.set kk (.slice a11 (k3+1) c11);rw[List.set_set]at this;exact this
    have O5:Hid (zb enE WB.heap.size (W4.setCell ⟨w.heap.size+2,kk,none⟩ (.slice a11 (k3+1) c11)) (.slice a11 (k3+1) c11) (Ch.take (k3+1))):=O4.out.setCell (by have:=HLB.out;simp;omega) _
    have Out5:Hid (Out (w.heap.size+2) (w.heap.size+3) WB (W4.setCell ⟨w.heap.size+2,kk,none⟩ (.slice a11 (k3+1) c11))):=Out4.out.trans (Out.setCell _ _ _ (p:=⟨w.heap.size+2,kk,none⟩) (nR _) (Nat.lt_succ_self _) _);clear t0 tf;go_wp2
    go_roundg (8 -(k3+1))
    case measure=>omega
    exact⟨k3+1,c11,a11,by omega,by omega,by go_num,Out5.out,T5.out,O5.out⟩
   have hltz3:¬(k3:Int)<8:=by omega
   have:k3=8:=by omega
   subst this;have R8:Hid (zb enE WB.heap.size wr (.slice a 8 c) Ch):=dD<|by
    have:=RW3.out;rw[List.take_of_length_le (by rw[HCL.out];exact nR _)]at this
    exact this
   have S9:Hid (Js 0 (w.heap.size+3) wr (us.set kk (.slice a 8 c)) (t.set kk Ch)):=dD<|⟨by simp[HU8.out],by simp[MW.out.len],fun j v h hv hh=>by
    by_cases e:j=kk
    ·subst e;rw[sF (by rw[HU8.out];exact hlt)]at hv
     rw[sF (by rw[MW.out.len];exact hlt)]at hh
     cases hv;cases hh;exact R8.out.new.stays.less (nZ _) HLB.out
    rw[sN (fun h=>e h.symm)]at hv hh
    exact(SW.out.row j v h hv hh).out (OW3.out.wide (by omega) (by omega))⟩
   have M9:Hid (zkX l (kk+1) (t.set kk Ch)):=dD<|by rw[<-HMK.out];exact zd0 MW.out hlt
   have X9:Hid (Box wr w.heap.size C):=XW.out.out OW3.out (by omega)
   have Y9:Hid (Box wr (w.heap.size+1) zao):=YW.out.out OW3.out (by omega)
   have G9:Hid (zc w wr):=dD<|Out.grew_of BW.out (by omega) OW3.out
   have N9:Hid (∀j,kk+1<=j->j<8->(us.set kk (.slice a 8 c))[j]? =some (.slice none 0 0)):=dD<|fun j h1 h2=>by rw[sN (by omega)];exact NW.out j (by omega) h2
   go_wp2
   go_roundg (8 -(kk+1))
   case measure=>omega
   exact⟨kk+1,_,_,by omega,by omega,by go_num,G9.out,X9.out,Y9.out,TW3.out,S9.out,M9.out,N9.out⟩
 have hltz:¬(kk:Int)<8:=by omega
 have:kk=8:=by omega
 subst this;have SE:Hid (Js 0 (w.heap.size+3) wr us TT):=dD<|by rw[<-HTT.out,<-zjt MW.out];exact SW.out
 have HU8:Hid (us.length=8):=SW.out.len
 go_wp2_with (first | refine Zv rfl (.tmp 3) rfl (w.heap.size+2) rfl TW.out HU8.out ?_ | refine zX rfl 61 (.tmp 2) (.tmp 47) rfl (w.heap.size+1) rfl us rfl YW.out HU8.out zlQ SE.out.one ?_)
 intro W3 b3 g3 s3;have G3:Hid (zc w W3):=dD<|ze BW.out g3 (by simp)
 have B3:Hid (Box W3 (w.heap.size+1) us):=b3;have T3:Hid (Js 0 w.heap.size W3 us TT):=(SE.out.out (Out.grown g3 (fun g h=>by cases h;omega))).less (nR _) (by omega)
 clear b3 g3 s3;go_wp2;refine bodyPost_ret (zY rfl _ rfl B3.out underlying61 rfl (by rw[HU8.out];exact zlQ)) rfl ⟨us,rfl,T3.out,G3.out⟩
end
end Go.Proofs.YtacihbmelcegbaaGreat
