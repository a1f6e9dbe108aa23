import Derived.Test.YtdgccecjbpgmfaaGreatPS5
import Derived.OrdersHeld
namespace Go.Proofs.YtdgccecjbpgmfaaGreat
set_option maxRecDepth 100000
set_option maxHeartbeats 4000000
variable{Q:Exit->Act->World->Prop} {T:List (Nat->En)} {V:MaV} {b i id j q:Nat} {l:List Ar} {m:Ma} {o:Oper} {ops:Array Oper} {vs:List Value} {w0 w2:World} {z:Int}
open Go.Proofs.Tryz
section
open Go.RowKit
theorem zN.storeAllT {a:Act} {w:World} {K:Value->World->Prop} (ty:TypeId) (p x:Operand) (ho:o.op= .store ty p x) (b:Nat) (hp:a.eval p= .pointer (some ⟨b,0,none⟩)) (vs:List Value) (hx:a.eval x= .agg vs.toArray)
  {t:TypeId} {cs:List Value} (hb:zp w b t cs) (hl:vs.length=cs.length) (hi:(Tryz.prog.info? ty).map (·.size)=some cs.length) (h1:∀v∈vs,v.oneCell'=true)
  (h:∀w',zp w' b t vs->w.grownBy w' (some b)->w'.heap.size=w.heap.size->K undef w'):zN prog o a w K:=by
 unfold zN;have hr:(execOp a.eval o).run prog w= .ok .skip (w.setCells b 0 vs):=by
  have:=run_storeAt_mid (P:=prog) w b 0 ty vs.toArray (by simpa [hl]using hb.box.there) (by simpa [hl]using hi) (all_oneCell_toArray h1)
  simp only[execOp,ho,hp,hx,Sem.run_bind,this,rA,Sem.run_pure]
 rw[hr];have hp:=hb.part (ds:=vs) (o:=0) (by omega)
 rw[JI hl]at hp;exact h _ hp (zP b vs 0 w).1 (zP b vs 0 w).2
def ZL (m:Ma) (k:Nat) (s:Sp):Ma:={ m with sp:=J1 m.sp k ⟨true,s.ars,z8⟩ }
def Jh (m:Ma) (k q:Nat) (l:List Int):Ma:=l.foldl (fun m n=>Qq m k q n) m
theorem zfB (m:Ma) (k q:Nat) (l:List Int) (n:Int):Jh m k q (l++ [n])=Qq (Jh m k q l) k q n:=by simp[Jh]
theorem zg1 (m:Ma) (k q:Nat) (n:Int):(Qq m k q n).sp.length=m.sp.length:=by unfold Qq;rw[JN,JN,zaH]
theorem zcR (m:Ma) (k q:Nat):∀(l:List Int),(Jh m k q l).sp.length=m.sp.length:=by
 intro l;unfold Jh
 induction l generalizing m with
 | nil=>rfl
 | cons n l ih=>rw[List.foldl_cons,ih,zg1]
def zae (m:Ma) (k q:Nat) (s:Sp):Ma:=Jh (ZL m k s) k q (qo s.tb Ze 64)
def je:List Value:=zM
def zku (m:Ma) (p:Int) (e:Ending) (w':World):Prop:=
 ((∀q s,¬ZT m p q s)/\e= .returned (.tuple #[.agg je.toArray,I6 0,I6 5]))\/
 ∃q s k,ZT m p q s/\Vac m.sp k/\((k=4/\e= .returned (.tuple #[.agg je.toArray,I6 0,I6 4]))\/(k<4/\∃V':MaV,e= .returned (.tuple #[.agg #[V'.f.x,I6 (zae m k q s).hand,V'.s.x,V'.sb.x,V'.sq.x,V'.db.x,V'.dq.x,V'.fl.x,I6 (zae m k q s).cnt,V'.ca.x,V'.sp.x],I6 (k:Int),I6 0])/\zF w' V' (zae m k q s)))
theorem zeZ (V:MaV) (m:Ma) (p:Int) (w:World) (hm:zF w V m) (h0:maW m=0) (h4:m.sp.length<=4):
  Calls prog 16 #[.agg (mL V m).toArray,I6 p] w fun e w'=>zku m p e w'/\zc w w':=by
 obtain⟨W1,hW1⟩:∃W1,((w.alloc (.cells (mL V m).toArray 41)).alloc (.cells #[I6 p] 3)).alloc (.cells zM.toArray 41)=W1:=⟨_,rfl⟩;have G1:Hid (zc w W1):=dD<|by rw[<-hW1];exact((za _ _).trans (za _ _)).trans (za _ _)
 obtain⟨b,HB⟩:∃b,Hid (w.heap.size=b):=⟨_,rfl⟩;have X1:Hid (zp W1 b 41 (mL V m)):=dD<|by rw[<-hW1];exact((zp.top w (mL V m) _ HB.symm).grew (za _ _)).grew (za _ _)
 have Y1:Hid (zp W1 (b+1) 3 [I6 p]):=dD<|by rw[<-hW1];exact(zp.top _ [I6 p] _ (by have:=HB.out;simp;omega)).grew (za _ _)
 have Z1:Hid (zp W1 (b+1+1) 41 je):=dD<|by rw[<-hW1];exact zp.top _ je _ (by have:=HB.out;simp;omega)
 have HM:Hid (zF w V m):=hm;have HW1:Hid (_=W1):=hW1;clear hW1;have hwp:=QV V m p W1 (hm.grew G1) h0;clear hm h0
 go_enter func16,ntmps16
 go_upto_region 1 with fail;rw[HW1.out,HB.out];obtain⟨x0,x1,x2,x3,x4,x5,x6,x7,x8,x9,x10⟩:=X1.box.c11;have y0:=Y1.box.c 0 rfl;go_wp2_with fail;refine hwp.mono ?_;clear hwp x0 x1 x2 x3 x4 x5 x6 x7 x8 x9 x10 y0;rintro e W2 ⟨hE,g2⟩;have G2:=dD (G1.trans g2);have X2:=dD (X1.grew g2);have Y2:=dD (Y1.grew g2);have Z2:=dD (Z1.grew g2);clear g2
 rcases hE with⟨rfl,hL⟩|⟨rfl,hL⟩
 case inr=>
  have HF:Hid (∀q s,¬ZT m p q s):=hL;clear hL;have hzl:∀v∈je,v.oneCell'=true:=by simp[je,Value.oneCell']
  go_wp2_with (refine qI rfl 41 (.tmp 4) (.tmp 15) rfl (b+1+1) rfl je rfl Z2 rfl (by kernel_rfl) hzl ?_)
  intro W3 bx3 gr3 _;have G3:Hid (zc w W3):=dD<|zd G2 gr3 (by have:=HB.out;omega)
  have B3:Hid (zp W3 (b+1+1) 41 je):=bx3;clear bx3 gr3;go_wp2;refine bodyPost_ret (zW rfl _ rfl B3.box underlying41 rfl (by kernel_rfl)) rfl ⟨.inl ⟨HF,rfl⟩,G3⟩
 obtain⟨q,s,hp,hs,hl⟩:=hL;subst hp;have HS:Hid (m.sp[q]? =some s):=hs;have HLV:Hid (s.live=true):=hl;clear hs hl;have hva:=zgY (V.sp.x) m.sp W2 (HM.grew G2).sp;have x10:=X2.box.c 10 rfl;go_wp2_with fail;refine hva.mono ?_;clear hva x10;rintro e W3 ⟨⟨k,rfl,hk⟩,g3⟩;have HK:Hid (Vac m.sp k):=hk;have hk4:k<=4:=nT hk.1 h4;have hg3:zc W2 W3:=g3;clear hk;have G3:Hid (zc w W3):=show zc _ _ from G2.trans g3
 have X3:=dD (X2.grew g3);have Y3:=dD (Y2.grew g3);have Z3:=dD (Z2.grew g3);clear g3 hg3;go_upto_region 5 with fail;obtain⟨c,HC⟩:∃c,Hid (W3.heap.size=c):=⟨_,rfl⟩;obtain⟨W4,hW4⟩:∃W4,W3.alloc (.cells #[I6 (k:Int)] 3)=W4:=⟨_,rfl⟩;have g4:=gP hW4
 have G4:Hid (zc w W4):=dD<|G3.trans g4
 have X4:=dD (X3.grew g4);have Y4:=dD (Y3.grew g4);have Z4:=dD (Z3.grew g4);have C4:=xPT hW4 HC
 have HCL:Hid (b+1+1<c):=dD<|by have:=Z3.box.lt;have:=HC.out;omega
 rw[hW4,HC.out];clear hW4 g4;have c0:=C4.box.c 0 rfl
 by_cases h4k:k=4
 ·have h4z:((k:Int) == 4)=true:=by rw[h4k];rfl
  have HK4:Hid (k=4):=h4k;clear h4k;have hzl:∀v∈je,v.oneCell'=true:=by simp[je,Value.oneCell']
  go_wp2_with (refine qI rfl 41 (.tmp 4) (.tmp 22) rfl (b+1+1) rfl je rfl Z4 rfl (by kernel_rfl) hzl ?_)
  intro W5 bx5 gr5 _;have G5:Hid (zc w W5):=dD<|zd G4 gr5 (by have:=HB.out;omega)
  have B5:Hid (zp W5 (b+1+1) 41 je):=bx5;clear bx5 gr5 c0;go_wp2;refine bodyPost_ret (zW rfl _ rfl B5.box underlying41 rfl (by kernel_rfl)) rfl ⟨.inr ⟨q,s,k,⟨rfl,HS,HLV⟩,HK,.inl ⟨HK4,rfl⟩⟩,G5⟩
 have h4z:((k:Int) == 4)=false:=by
  have:(k:Int)≠4:=by omega
  simpa using this
 have HKL:Hid (k<4):=dD<|by omega
 clear h4k;have hof:=zkf V m W4 (HM.grew G4);obtain⟨x0,x1,x2,x3,x4,x5,x6,x7,x8,x9,x10⟩:=X4.box.c11;go_wp2_with fail;refine hof.mono ?_;clear hof x0 x1 x2 x3 x4 x5 x6 x7 x8 x9 x10 c0;rintro e W5 ⟨r,V5,rfl,m5⟩;go_upto_region 8 with fail;obtain⟨d,HD⟩:∃d,Hid (W5.heap.size=d):=⟨_,rfl⟩;obtain⟨W6,hW6⟩:∃W6,W5.alloc (.cells #[.pointer (some ⟨r,0,none⟩)] 107)=W6:=⟨_,rfl⟩;have g6:=gP hW6
 have g46:zc W4 W6:=m5.gr.trans g6;have M6:Hid (ChM W4 r W6 V5 m):=m5.grew g6;have D6:=xPT hW6 HD
 have C6:=dD (C4.grew g46);have Y6:=dD (Y4.grew g46);have Z6:=dD (Z4.grew g46);have HND:Hid (c<W4.heap.size/\r<d/\(∀k,Dp r V5.sp k->W4.heap.size<=k/\k<d)):=show _/\_ by
  have:=HD.out;exact⟨C4.box.lt,by have:=m5.dlt r (.inl rfl);omega,fun k hk=>⟨m5.dlo k hk,by have:=m5.dlt k hk;omega⟩⟩
 rw[hW6,HD.out];clear hW6 g6 g46 m5;obtain⟨xs,s1,s2,s3⟩:=M6.sp;have hql:q<m.sp.length:=(gS.1 HS).1;obtain⟨x,hx⟩:∃x,xs[q]? =some x:=⟨_,gE (by rw[s2];exact hql)⟩
 have HAT:Hid (zZ W6 x s):=s3 q x s hx HS W6 (qR.refl _ _);obtain⟨xn,HXN⟩:∃xn,Hid (xs.length=xn):=⟨_,rfl⟩;obtain⟨g,gc,heq⟩:=s1.formS (by omega)
 rw[HXN.out]at heq;have hqz:(q:Int)< (xn:Int):=by have:=HXN.out;omega
 have HVS:Hid (V5.sp.x= .slice (some ⟨g,0,none⟩) xn gc):=heq;rw[heq]at s1;have HS1:Hid (zb jx W4.heap.size W6 (.slice (some ⟨g,0,none⟩) xn gc) xs):=s1;have HS2:Hid (xs.length=m.sp.length):=s2;have HS3:Hid (∀(i:Nat) x s,xs[i]? =some x->m.sp[i]? =some s->∀W,qR (Dq W4.heap.size r V5.sp) W6 W->zZ W x s):=s3;have HX:Hid (xs[q]? =some x):=hx;have HXL:Hid (xn<=4/\k<=xn):=show _/\_ by have:=HXN.out;have:=HK.1;omega
 have HRG:Hid (r≠g/\W4.heap.size<=g):=dD<|by
  exact⟨M6.ne g (by (first|rw[HVS.out]|rw[show Value.slice _ _ _=_ from HVS.out]);rfl),(HS1.lt g rfl).1⟩
 have HCE:Hid (∀W,zc W6 W->zcs W ⟨g,q*10,none⟩ x):=dD<|fun W hW=>by
  have:=((s1.grew hW).one hx).sp10;rw[Addr.add_lit,zA]at this;exact this
 clear s1 s2 s3 hx heq hql;obtain⟨I,HI⟩:∃I:World->Prop,Hid (∀u,I u↔(zp u r 111 (chL V5 m)/\zp u d 107 [.pointer (some ⟨r,0,none⟩)]/\zp u c 3 [I6 (k:Int)]/\zp u (b+1) 3 [I6 (q:Int)])):=⟨_,fun _=>Iff.rfl⟩
 have hI0:I W6.drew:=(HI _).2 ⟨M6.box.grew (gW _),D6.grew (gW _),C6.grew (gW _),Y6.grew (gW _)⟩
 have hF0:zc W6 W6.drew:=show Below _ _ _ from(bR _ _).drew
 have hr10:∀y:zj I,y.world.cell? ⟨r,10,none⟩=some (.slice (some ⟨g,0,none⟩) xn gc):=fun y=>by rw[<-HVS.out];exact((HI _).1 y.holds).1.box.c 10 rfl
 have hd0:∀y:zj I,y.world.cell? ⟨d,0,none⟩=some (.pointer (some ⟨r,0,none⟩)):=fun y=>((HI _).1 y.holds).2.1.box.c 0 rfl
 have hc0:∀y:zj I,y.world.cell? ⟨c,0,none⟩=some (I6 (k:Int)):=fun y=>((HI _).1 y.holds).2.2.1.box.c 0 rfl
 have hy0:∀y:zj I,y.world.cell? ⟨b+1,0,none⟩=some (I6 (q:Int)):=fun y=>((HI _).1 y.holds).2.2.2.box.c 0 rfl
 have hne:Nonempty (zj I):=⟨⟨_,hI0⟩⟩;refine zG (I:=I) 22 [(15,fun v=>v=x.ar.x),(16,fun v=>∃t:Sli,v=t.x),(18,fun v=>∃t:Sli,v=t.x)] (fun u=>zc W6 u) hI0 hF0 qh (by kernel_rfl) rfl rfl (by decide) ?hS (by kernel_rfl) ?_
 case hS=>
  intro x hx;simp only[mC,nM,or_false]at hx
  rcases hx with rfl|rfl|rfl
  ·exact⟨_,rfl⟩
  ·exact⟨_,zx,rfl⟩
  exact⟨_,zx,rfl⟩
 simp only[List.take,List.drop];iterate 2 (refine ze rfl rfl rfl (fun K hK=>?_);go_big_quiet_op;refine hK _ ?_;clear hK)
 refine zH (.tmp 26) ⟨r,0,none⟩ rfl rfl rfl rfl ?_;simp only[Act.put,sB,sS,sZ];iterate 5 (refine ze rfl rfl rfl (fun K hK=>?_);go_big_quiet_op;refine hK _ ?_;clear hK)
 refine zH (.tmp 32) ⟨r,0,none⟩ rfl rfl rfl rfl ?_;simp only[Act.put,sB,sS,sZ];iterate 6 (refine ze rfl rfl rfl (fun K hK=>?_);go_big_quiet_op;refine hK _ ?_;clear hK)
 refine zI rfl rfl (fun _ u=>zc W6 u) (fun w' hI' hF'=>?_) (fun v1 hv=>?_)
 ·exact zc3 50 (.tmp 39) rfl g (q*10+1) rfl (x.ar.x) (HCE _ hF').2.1 underlying50 rfl ⟨hI',rfl,hF'⟩
 cases hv;simp only[Act.put,sB,sS,sZ];refine zI rfl rfl (fun v u=>zc W6 u/\zb arE W6.heap.size u v s.ars) (fun w' hI' hF'=>?_) (fun v1 hv=>?_)
 ·refine zN.call [x.ar.x] rfl func54 rfl rfl rfl ?_;refine(zcj _ s.ars w' (HAT.grew hF').ar).mono ?_;rintro e w'' ⟨v',rfl,ow,g2⟩;obtain⟨a',c',rfl⟩:=ow.form;obtain⟨i1,i2,i3,i4⟩:=(HI _).1 hI';exact⟨_,rfl,(HI _).2 ⟨i1.grew g2,i2.grew g2,i3.grew g2,i4.grew g2⟩,⟨⟨a',_,c'⟩,rfl⟩,hF'.trans g2,ow.base (bS hF')⟩
 obtain⟨ya,rfl⟩:=hv;simp only[Act.put,sB,sS,sZ];iterate 1 (refine ze rfl rfl rfl (fun K hK=>?_);go_big_quiet_op;refine hK _ ?_;clear hK)
 refine zI rfl rfl (fun v u=>∃w1,zc W6 w1/\zb arE W6.heap.size w1 (ya.x) s.ars/\zb jx W4.heap.size u v (J1 xs k ⟨true,ya,zx,zx,zx,zx,zx,zx,zx,zx⟩)/\w1.grownBy u (some g)/\∀g',v.ownBlock=some g'->g=g'\/w1.heap.size<=g') (fun w' hI' hF'=>?_) (fun v1 hv=>?_)
 ·refine zN.call [.slice (some ⟨g,0,none⟩) xn gc,I6 (k:Int),.agg #[.bool true,ya.x,eS,eS,eS,eS,eS,eS,eS,eS]] rfl func53 rfl rfl rfl ?_;refine(zfC W4.heap.size _ xs k ⟨true,ya,zx,zx,zx,zx,zx,zx,zx,zx⟩ w' (HS1.grew hF'.1) (nT (bS M6.gr) (bS hF'.1)) (by rw[HXN.out];exact HXL.2) (by rw[HXN.out];exact HXL.1)).mono ?_
  rintro e w'' ⟨v',rfl,ow,gr,ap⟩;obtain⟨i1,i2,i3,i4⟩:=(HI _).1 hI';obtain⟨a',c',rfl⟩:=ow.form;obtain⟨hn1,hn2,hn3⟩:=HND.out;have hcl:=HCL.out;have hrg:=HRG.1;obtain⟨hg1,hg2⟩:=hn3 g (.inr (by (first|rw[HVS.out]|rw[show Value.slice _ _ _=_ from HVS.out]);rfl))
  have e1:d≠g:=by omega
  have e2:c≠g:=by omega
  have e3:b+1≠g:=by omega
  exact⟨_,rfl,(HI _).2 ⟨i1.beside gr (fun k e=>by cases e;exact hrg),i2.beside gr (fun k e=>by cases e;exact e1),i3.beside gr (fun k e=>by cases e;exact e2),i4.beside gr (fun k e=>by cases e;exact e3)⟩,⟨⟨a',_,c'⟩,rfl⟩,w',hF'.1,hF'.2,ow,gr,fun g' hg'=>(ap g' hg').imp (fun e=>by cases e;rfl) id⟩
 obtain⟨sv,rfl⟩:=hv;simp only[Act.put,sB,sS,sZ];refine zH (.tmp 25) ⟨r,0,none⟩ rfl rfl rfl rfl ?_;simp only[Act.put,sB,sS,sZ];iterate 2 (refine ze rfl rfl rfl (fun K hK=>?_);go_big_quiet_op;refine hK _ ?_;clear hK)
 refine qj fun W7 hI7 hF7=>?_
 obtain⟨b7,d7,c7,y7⟩:=(HI _).1 hI7;obtain⟨w1,g61,ar1,ow7,gr7,ap7⟩:=hF7;have HZ7:Hid (zp W7 (b+1+1) 41 je):=dD<|(Z6.grew g61).beside gr7 (fun k e=>by
  cases e;have:=HCL.out;have:=HND.1;have:=HRG.2
  omega)
 have HND8:Hid (∀x,Dp r sv x->W4.heap.size<=x/\x≠d):=dD<|fun x hx=>by
  obtain⟨hn1,hn2,hn3⟩:=HND.out
  rcases hx with rfl|hx
  ·exact⟨M6.lo,by omega⟩
  rcases ap7 x hx with e|e
  ·subst e;have:=hn3 g (.inr (by (first|rw[HVS.out]|rw[show Value.slice _ _ _=_ from HVS.out]);rfl))
   exact⟨this.1,by omega⟩
  have h1:=bS g61;have h2:=bS M6.gr;have h3:=D6.box.lt;exact⟨by omega,by omega⟩
 refine zhG rfl 39 (.tmp 46) (.tmp 43) rfl r 10 rfl (sv.x) rfl [sv.x] rfl b7 (by simp[chL]) (by kernel_rfl) (by simp[Value.oneCell']) ?_
 intro W8 bx8 gr8 _;have M8:Hid (ChM W4 r W8 { V5 with sp:=sv } (ZL m k s)):=dD<|M6.space HK.1 HS2 HS3 g61 ar1 ow7 (by rw[HVS.out];exact gr7) (by rw[HVS.out];exact fun g' hg'=>(ap7 g' hg').imp (fun e=>by rw[e];rfl) id) gr8 bx8
 have D8:Hid (zp W8 d 107 [.pointer (some ⟨r,0,none⟩)]):=dD<|d7.beside gr8 (fun k e=>by cases e;have:=HND.2.1;omega)
 have C8:Hid (zp W8 c 3 [I6 (k:Int)]):=dD<|c7.beside gr8 (fun k e=>by cases e;have:=HND.1;have:=M6.lo;omega)
 have Y8:Hid (zp W8 (b+1) 3 [I6 (q:Int)]):=dD<|y7.beside gr8 (fun k e=>by cases e;have:=HND.1;have:=HCL.out;have:=M6.lo;omega)
 have Z8:Hid (zp W8 (b+1+1) 41 je):=dD<|HZ7.beside gr8 (fun k e=>by cases e;have:=HND.1;have:=HCL.out;have:=M6.lo;omega)
 clear hI7 d7 c7 y7 g61 ar1 ow7 gr7 ap7 hI0 hF0 hr10 hd0 hc0 hy0 hne b7 bx8 gr8;go_upto_region 9 with fail;obtain⟨V8,HV8⟩:∃V8:MaV,Hid (V8.sp=sv/\ChM W4 r W8 V8 (ZL m k s)):=⟨{ V5 with sp:=sv },(show _/\_ from⟨rfl,M8⟩)⟩
 have hkq:q≠k:=fun e=>by
  have h1:=HK.2.1 s (by rw[<-e];exact HS)
  rw[HLV.out]at h1;cases h1
 have HSB:Hid ((ZL m k s).sp[q]? =some s):=dD<|by show (J1 m.sp k _)[q]? =_;rw[QI HK.1,if_neg hkq];exact HS.out
 have HBL:Hid (k< (ZL m k s).sp.length/\q< (ZL m k s).sp.length):=dD<|by
  refine⟨?_,(gS.1 HSB).1⟩
  show k< (J1 m.sp k _).length
  rw[zby HK.1];omega
 clear hkq;have hep:=zbk HV8.2 q s HSB 56 #[.pointer (some ⟨d,0,none⟩),.pointer (some ⟨c,0,none⟩),.pointer (some ⟨b+1,0,none⟩)]
  (fun j W=>∃V':MaV,V'.sp=sv/\ChM W4 r W V' (Jh (ZL m k s) k q ((qo s.tb Ze 64).take j))/\zp W d 107 [.pointer (some ⟨r,0,none⟩)]/\zp W c 3 [I6 (k:Int)]/\zp W (b+1) 3 [I6 (q:Int)]/\zp W (b+1+1) 41 je)
  (enters_of func56 (by kernel_rfl) rfl)
  (fun W hW=>⟨V8,HV8.1,by rw[List.take_zero];exact HV8.2.grew hW,D8.grew hW,C8.grew hW,Y8.grew hW,Z8.grew hW⟩)
  (fun j n W hj hJ=>by
   obtain⟨V',e1,e2,e3,e4,e5,e6⟩:=hJ;refine(ziu e2 k q (by rw[zcR];exact HBL.1) (by rw[zcR];exact HBL.2) n d c (b+1) e3.box e4.box e5.box).mono ?_
   rintro e w' ⟨hv,V'',f1,f2,f3⟩;rw[e1]at f1 f3;have hn1:=HND.1;have hcl:=HCL.out;refine⟨hv,⟨V'',f1,?_,e3.outD f3 (fun h=>(HND8 _ h).2 rfl),e4.outD f3 (fun h=>by have:=(HND8 _ h).1;omega),e5.outD f3 (fun h=>by have:=(HND8 _ h).1;omega),e6.outD f3 (fun h=>by have:=(HND8 _ h).1;omega)⟩,by rw[HV8.1];exact f3⟩
   rw[qi hj,zfB];exact f2)
 rw[List.take_length]at hep;have hmf:∀(fn:Fn) (first cap:Array Value) (w:World),(Instr.makeFunc fn first cap).run prog w= .ok (.func fn first cap) w:=fun _ _ _ _=>rfl
 have d0:=D8.box.c 0 rfl;have y0:=Y8.box.c 0 rfl;go_wp2_with fail;refine hep.mono ?_;clear hep d0 y0;rintro e W9 ⟨⟨v9,rfl⟩,⟨V9,e1,e2,e3,e4,e5,e6⟩,_⟩;have M9:Hid (ChM W4 r W9 V9 (zae m k q s)):=e2;have D9:Hid (zp W9 d 107 [.pointer (some ⟨r,0,none⟩)]):=e3;have C9:Hid (zp W9 c 3 [I6 (k:Int)]):=e4;have Z9:Hid (zp W9 (b+1+1) 41 je):=e6;clear e1 e2 e3 e4 e5 e6;obtain⟨FM,HFM⟩:∃FM,Hid (zae m k q s=FM):=⟨_,rfl⟩;rw[HFM.out]at M9;go_upto_region 10 with fail;obtain⟨I,HI⟩:∃I:World->Prop,Hid (∀u,I u↔(zp u r 111 (chL V9 FM)/\zp u d 107 [.pointer (some ⟨r,0,none⟩)]/\zp u c 3 [I6 (k:Int)])):=⟨_,fun _=>Iff.rfl⟩
 have hI0:I W9.drew:=(HI _).2 ⟨M9.box.grew (gW _),D9.grew (gW _),C9.grew (gW _)⟩
 have hF0:zc W9 W9.drew:=show Below _ _ _ from(bR _ _).drew
 have hr0:∀y:zj I,y.world.cell? ⟨r,0,none⟩=_:=fun y=>((HI _).1 y.holds).1.box.c 0 rfl
 have hr1:∀y:zj I,y.world.cell? ⟨r,1,none⟩=_:=fun y=>((HI _).1 y.holds).1.box.c 1 rfl
 have hr2:∀y:zj I,y.world.cell? ⟨r,2,none⟩=_:=fun y=>((HI _).1 y.holds).1.box.c 2 rfl
 have hr3:∀y:zj I,y.world.cell? ⟨r,3,none⟩=_:=fun y=>((HI _).1 y.holds).1.box.c 3 rfl
 have hr4:∀y:zj I,y.world.cell? ⟨r,4,none⟩=_:=fun y=>((HI _).1 y.holds).1.box.c 4 rfl
 have hr5:∀y:zj I,y.world.cell? ⟨r,5,none⟩=_:=fun y=>((HI _).1 y.holds).1.box.c 5 rfl
 have hr6:∀y:zj I,y.world.cell? ⟨r,6,none⟩=_:=fun y=>((HI _).1 y.holds).1.box.c 6 rfl
 have hr7:∀y:zj I,y.world.cell? ⟨r,7,none⟩=_:=fun y=>((HI _).1 y.holds).1.box.c 7 rfl
 have hr8:∀y:zj I,y.world.cell? ⟨r,8,none⟩=_:=fun y=>((HI _).1 y.holds).1.box.c 8 rfl
 have hr9:∀y:zj I,y.world.cell? ⟨r,9,none⟩=_:=fun y=>((HI _).1 y.holds).1.box.c 9 rfl
 have hr10:∀y:zj I,y.world.cell? ⟨r,10,none⟩=_:=fun y=>((HI _).1 y.holds).1.box.c 10 rfl
 have hd0:∀y:zj I,y.world.cell? ⟨d,0,none⟩=some (.pointer (some ⟨r,0,none⟩)):=fun y=>((HI _).1 y.holds).2.1.box.c 0 rfl
 have hc0:∀y:zj I,y.world.cell? ⟨c,0,none⟩=some (I6 (k:Int)):=fun y=>((HI _).1 y.holds).2.2.box.c 0 rfl
 have hne:Nonempty (zj I):=⟨⟨_,hI0⟩⟩;have HZL:Hid (∀v∈chL V9 FM,v.oneCell'=true):=dD<|by simp[chL,Value.oneCell']
 refine zG (I:=I) 8 [(5,fun _=>True)] (fun u=>zc W9 u) hI0 hF0 qh (by kernel_rfl) rfl rfl (by decide) ?hS (by kernel_rfl) ?_
 case hS=>
  intro x hx;simp only[mC,nM,or_false]at hx;subst hx;exact⟨undef,trivial⟩
 simp only[List.take,List.drop];iterate 1 (refine ze rfl rfl rfl (fun K hK=>?_);go_big_quiet_op;refine hK _ ?_;clear hK)
 refine zH (.tmp 51) ⟨r,0,none⟩ rfl rfl rfl rfl ?_;simp only[Act.put,sB,sS,sZ];iterate 3 (refine ze rfl rfl rfl (fun K hK=>?_);go_big_quiet_op;refine hK _ ?_;clear hK)
 refine zI rfl rfl (fun _ u=>zc w u/\zp u (b+1+1) 41 (chL V9 FM)/\zF u V9 FM) (fun w' hI' hF'=>?_) (fun v1 hv=>?_)
 ·refine zN.storeAllT 41 (.tmp 4) (.tmp 54) rfl (b+1+1) rfl (chL V9 FM) rfl (Z9.grew hF') rfl (by kernel_rfl) HZL.out ?_
  intro W11 bx gr11 sz11;have hcl:=HCL.out;have hn1:=HND.1;have hrl:=M9.lo;obtain⟨i1,i2,i3⟩:=(HI _).1 hI';have k9:=M9.grew hF';have hd:=M9.dlt;refine⟨(HI _).2 ⟨i1.beside gr11 (fun k e=>by cases e;omega),i2.beside gr11 (fun k e=>by cases e;have:=HND.2.1;omega),i3.beside gr11 (fun k e=>by cases e;omega)⟩,trivial,zd (G4.trans k9.gr) gr11 (by have:=HB.out;omega),bx,?_⟩
  have o:qR (Dq W4.heap.size r V9.sp) w' W11:=qR.grown gr11 (.inl (by omega))
  have rs:=k9.rest W11 o;obtain⟨ys,t1,t2,t3⟩:=k9.sp;exact⟨rs.fs,rs.sl,rs.sb,rs.sq,rs.db,rs.dq,rs.fl,rs.ca,⟨ys,(t1.grown gr11 (fun g' hg' e=>by cases e;have:=(t1.lt _ hg').1;omega)).at,t2,fun i x s hx hs=>t3 i x s hx hs W11 o⟩⟩
 clear hv;try simp only[Act.put]
 iterate 2 (refine ze rfl rfl rfl (fun K hK=>?_);go_big_quiet_op;refine hK _ ?_;clear hK)
 refine qj fun W11 hI11 hF11=>?_
 have G11:Hid (zc w W11):=hF11.1;have B11:Hid (zp W11 (b+1+1) 41 (chL V9 FM)):=hF11.2.1;have HF:Hid (zF W11 V9 FM):=hF11.2.2;clear hI11 hF11 hI0 hF0 hne hr0 hr1 hr2 hr3 hr4 hr5 hr6 hr7 hr8 hr9 hr10 hd0 hc0;go_wp2;refine bodyPost_ret (zW rfl _ rfl B11.box underlying41 rfl (by kernel_rfl)) rfl ⟨.inr ⟨q,s,k,⟨rfl,HS,HLV⟩,HK,.inr ⟨HKL,V9,?_,?_⟩⟩,G11⟩
 ·rw[HFM.out];rfl
 rw[HFM.out];exact HF.out
def ze7 (m:Ma) (q:Nat) (l:List Int):Ma:=l.foldl (fun m n=>zd2 m q n) m
theorem zhn (m:Ma) (q:Nat) (l:List Int) (n:Int):ze7 m q (l++ [n])=zd2 (ze7 m q l) q n:=by simp[ze7]
theorem ziJ (m:Ma) (q:Nat) (n:Int):(zd2 m q n).sp.length=m.sp.length:=by unfold zd2;rw[JN,zaH]
theorem ze6 (m:Ma) (q:Nat):∀(l:List Int),(ze7 m q l).sp.length=m.sp.length:=by
 intro l;unfold ze7
 induction l generalizing m with
 | nil=>rfl
 | cons n l ih=>rw[List.foldl_cons,ih,ziJ]
def zkQ (m:Ma) (q:Nat):Ma:={ m with sp:=m.sp.set q ⟨false,[],z8⟩ }
def zhl (m:Ma) (q:Nat) (s:Sp):Ma:=zkQ (ze7 m q (qo s.tb Ze 64)) q
def zkv (m:Ma) (p:Int) (e:Ending) (w':World):Prop:=
 ((∀q s,¬ZT m p q s)/\e= .returned (.tuple #[.agg je.toArray,I6 5]))\/
 ∃q s,ZT m p q s/\∃V':MaV,e= .returned (.tuple #[.agg #[V'.f.x,I6 (zhl m q s).hand,V'.s.x,V'.sb.x,V'.sq.x,V'.db.x,V'.dq.x,V'.fl.x,I6 (zhl m q s).cnt,V'.ca.x,V'.sp.x],I6 0])/\zF w' V' (zhl m q s)
theorem ChM.setP {w:World} {p g:Nat} (h:ChM w0 p w V m) {xs:List SpV} {y:SpV} {s':Sp} (s2:xs.length=m.sp.length) (s3:∀(i:Nat) x s,xs[i]? =some x->m.sp[i]? =some s->∀W,qR (Dq w0.heap.size p V.sp) w W->zZ W x s) (hg:(V.sp.x).ownBlock=some g)
  (g2:w.grownBy w2 (some g)) (ow:zb jx w0.heap.size w2 (V.sp.x) (xs.set q y)) (hy:∀W,zZ W y s'):ChM w0 p w2 V { m with sp:=m.sp.set q s' }:=by
 have o2:qR (Dq w0.heap.size p V.sp) w w2:=qR.grown g2 (.inr (.inr hg));refine⟨zd h.gr g2 (h.dlo g (.inr hg)),h.lo,h.box.beside g2 (fun k e=>by cases e;exact h.ne g hg),fun W hW=>?_,⟨xs.set q y,ow,by simp[s2],fun i x' s' hx' hs' W hW=>?_⟩⟩
 ·have r:=h.rest W (o2.trans hW);exact⟨r.fs,r.sl,r.sb,r.sq,r.db,r.dq,r.fl,r.ca⟩
 rename_i s0
 have hs':(m.sp.set q s0)[i]? =some s':=hs'
 by_cases e:i=q
 ·subst e;have hl:=(gS.1 hx').1;rw[List.length_set]at hl;rw[sF hl]at hx';rw[sF (by omega)]at hs'
  cases hx';cases hs';exact hy W
 rw[sN (fun h=>e h.symm)]at hx' hs'
 exact s3 i x' s' hx' hs' W (o2.trans hW)
theorem ziA (V:MaV) (m:Ma) (p:Int) (w:World) (hm:zF w V m) (h0:maW m=0):
  Calls prog 42 #[.agg (mL V m).toArray,I6 p] w fun e w'=>zkv m p e w'/\zc w w':=by
 obtain⟨W1,hW1⟩:∃W1,((w.alloc (.cells (mL V m).toArray 41)).alloc (.cells #[I6 p] 3)).alloc (.cells zM.toArray 41)=W1:=⟨_,rfl⟩;have G1:Hid (zc w W1):=dD<|by rw[<-hW1];exact((za _ _).trans (za _ _)).trans (za _ _)
 obtain⟨b,HB⟩:∃b,Hid (w.heap.size=b):=⟨_,rfl⟩;have X1:Hid (zp W1 b 41 (mL V m)):=dD<|by rw[<-hW1];exact((zp.top w (mL V m) _ HB.symm).grew (za _ _)).grew (za _ _)
 have Y1:Hid (zp W1 (b+1) 3 [I6 p]):=dD<|by rw[<-hW1];exact(zp.top _ [I6 p] _ (by have:=HB.out;simp;omega)).grew (za _ _)
 have Z1:Hid (zp W1 (b+1+1) 41 je):=dD<|by rw[<-hW1];exact zp.top _ je _ (by have:=HB.out;simp;omega)
 have HM:Hid (zF w V m):=hm;have HW1:Hid (_=W1):=hW1;clear hW1;have hwp:=QV V m p W1 (hm.grew G1) h0;clear hm h0
 go_enter func42,ntmps42
 go_upto_region 1 with fail;rw[HW1.out,HB.out];obtain⟨x0,x1,x2,x3,x4,x5,x6,x7,x8,x9,x10⟩:=X1.box.c11;have y0:=Y1.box.c 0 rfl;go_wp2_with fail;refine hwp.mono ?_;clear hwp x0 x1 x2 x3 x4 x5 x6 x7 x8 x9 x10 y0;rintro e W2 ⟨hE,g2⟩;have G2:=dD (G1.trans g2);have X2:=dD (X1.grew g2);have Y2:=dD (Y1.grew g2);have Z2:=dD (Z1.grew g2);clear g2
 rcases hE with⟨rfl,hL⟩|⟨rfl,hL⟩
 case inr=>
  have HF:Hid (∀q s,¬ZT m p q s):=hL;clear hL;have hzl:∀v∈je,v.oneCell'=true:=by simp[je,Value.oneCell']
  go_wp2_with (refine qI rfl 41 (.tmp 4) (.tmp 13) rfl (b+1+1) rfl je rfl Z2 rfl (by kernel_rfl) hzl ?_)
  intro W3 bx3 gr3 _;have G3:Hid (zc w W3):=dD<|zd G2 gr3 (by have:=HB.out;omega)
  have B3:Hid (zp W3 (b+1+1) 41 je):=bx3;clear bx3 gr3;go_wp2;refine bodyPost_ret (jL rfl _ rfl B3.box underlying41 rfl (by kernel_rfl)) rfl ⟨.inl ⟨HF,rfl⟩,G3⟩
 obtain⟨q,s,hp,hs,hl⟩:=hL;subst hp;have HS:Hid (m.sp[q]? =some s):=hs;have HLV:Hid (s.live=true):=hl;clear hs hl;have hof:=zkf V m W2 (HM.grew G2);obtain⟨x0,x1,x2,x3,x4,x5,x6,x7,x8,x9,x10⟩:=X2.box.c11;go_wp2_with fail;refine hof.mono ?_;clear hof x0 x1 x2 x3 x4 x5 x6 x7 x8 x9 x10;rintro e W5 ⟨r,V5,rfl,m5⟩;go_upto_region 5 with fail;obtain⟨d,HD⟩:∃d,Hid (W5.heap.size=d):=⟨_,rfl⟩;obtain⟨W6,hW6⟩:∃W6,W5.alloc (.cells #[.pointer (some ⟨r,0,none⟩)] 107)=W6:=⟨_,rfl⟩;have g6:=gP hW6
 have g46:zc W2 W6:=m5.gr.trans g6;have M6:Hid (ChM W2 r W6 V5 m):=m5.grew g6;have D6:=xPT hW6 HD
 have Y6:=dD (Y2.grew g46);have Z6:=dD (Z2.grew g46);have HND:Hid (b+1+1<W2.heap.size/\r<d/\(∀k,Dp r V5.sp k->W2.heap.size<=k/\k<d)):=show _/\_ by
  have:=HD.out;exact⟨Z2.box.lt,by have:=m5.dlt r (.inl rfl);omega,fun k hk=>⟨m5.dlo k hk,by have:=m5.dlt k hk;omega⟩⟩
 rw[hW6,HD.out];clear hW6 g6 g46 m5;have hep:=zbk M6 q s HS 84 #[.pointer (some ⟨d,0,none⟩),.pointer (some ⟨b+1,0,none⟩)]
  (fun j W=>∃V':MaV,V'.sp=V5.sp/\ChM W2 r W V' (ze7 m q ((qo s.tb Ze 64).take j))/\zp W d 107 [.pointer (some ⟨r,0,none⟩)]/\zp W (b+1) 3 [I6 (q:Int)]/\zp W (b+1+1) 41 je)
  (enters_of func84 (by kernel_rfl) rfl)
  (fun W hW=>⟨V5,rfl,by rw[List.take_zero];exact M6.grew hW,D6.grew hW,Y6.grew hW,Z6.grew hW⟩)
  (fun j n W hj hJ=>by
   obtain⟨V',e1,e2,e3,e5,e6⟩:=hJ;refine(ziB e2 q (by rw[ze6];exact(gS.1 HS).1) n d (b+1) e3.box e5.box).mono ?_
   rintro e w' ⟨hv,V'',f1,f2,f3⟩;rw[e1]at f1 f3;obtain⟨hn1,hn2,hn3⟩:=HND.out;refine⟨hv,⟨V'',f1,?_,e3.outD f3 (fun h=>by have:=(hn3 _ h).2;omega),e5.outD f3 (fun h=>by have:=(hn3 _ h).1;omega),e6.outD f3 (fun h=>by have:=(hn3 _ h).1;omega)⟩,f3⟩
   rw[qi hj,zhn];exact f2)
 rw[List.take_length]at hep;have hmf:∀(fn:Fn) (first cap:Array Value) (w:World),(Instr.makeFunc fn first cap).run prog w= .ok (.func fn first cap) w:=fun _ _ _ _=>rfl
 have d0:=D6.box.c 0 rfl;have y0:=Y6.box.c 0 rfl;go_wp2_with fail;refine hep.mono ?_;clear hep d0 y0;rintro e W7 ⟨⟨v7,rfl⟩,⟨V7,e1,e2,e3,e5,e6⟩,_⟩;obtain⟨DM,HDM⟩:∃DM,Hid (ze7 m q (qo s.tb Ze 64)=DM):=⟨_,rfl⟩;rw[HDM.out]at e2;have HQL:Hid (q<DM.sp.length):=dD<|by rw[<-HDM.out,ze6];exact(gS.1 HS).1
 have M7:Hid (ChM W2 r W7 V7 DM):=e2;have D7:Hid (zp W7 d 107 [.pointer (some ⟨r,0,none⟩)]):=e3;have Y7:Hid (zp W7 (b+1) 3 [I6 (q:Int)]):=e5;have Z7:Hid (zp W7 (b+1+1) 41 je):=e6;have HSP:Hid (V7.sp=V5.sp):=e1;clear e1 e2 e3 e5 e6;go_upto_region 6 with fail;obtain⟨xs,s1,s2,s3⟩:=M7.sp;obtain⟨xn,HXN⟩:∃xn,Hid (xs.length=xn):=⟨_,rfl⟩;obtain⟨g,gc,heq⟩:=s1.formS (by have:=HQL.out;omega)
 rw[HXN.out]at heq;have hqz:(q:Int)< (xn:Int):=by have:=HXN.out;have:=HQL.out;omega
 have HVS:Hid (V7.sp.x= .slice (some ⟨g,0,none⟩) xn gc):=heq;rw[heq]at s1;have HS1:Hid (zb jx W2.heap.size W7 (.slice (some ⟨g,0,none⟩) xn gc) xs):=s1;have HS2:Hid (xs.length=DM.sp.length):=s2;have HS3:Hid (∀(i:Nat) x s,xs[i]? =some x->DM.sp[i]? =some s->∀W,qR (Dq W2.heap.size r V7.sp) W7 W->zZ W x s):=s3;clear s1 s2 s3 heq;obtain⟨I,HI⟩:∃I:World->Prop,Hid (∀u,I u↔zc W7 u):=⟨fun u=>zc W7 u,fun _=>Iff.rfl⟩
 have hI0:I W7.drew:=(HI _).2 (gW _)
 have hr10:∀y:zj I,y.world.cell? ⟨r,10,none⟩=some (.slice (some ⟨g,0,none⟩) xn gc):=fun y=>by rw[<-HVS.out];exact(M7.box.box.grew ((HI _).1 y.holds)).c 10 rfl
 have hd0:∀y:zj I,y.world.cell? ⟨d,0,none⟩=some (.pointer (some ⟨r,0,none⟩)):=fun y=>(D7.box.grew ((HI _).1 y.holds)).c 0 rfl
 have hy0:∀y:zj I,y.world.cell? ⟨b+1,0,none⟩=some (I6 (q:Int)):=fun y=>(Y7.box.grew ((HI _).1 y.holds)).c 0 rfl
 have hne:Nonempty (zj I):=⟨⟨_,hI0⟩⟩;refine zG (I:=I) 8 [] (fun _=>True) hI0 trivial qh (by kernel_rfl) rfl rfl (by decide) (by simp) (by kernel_rfl) ?_
 simp only[List.take,List.drop];iterate 1 (refine ze rfl rfl rfl (fun K hK=>?_);go_big_quiet_op;refine hK _ ?_;clear hK)
 refine zH (.tmp 21) ⟨r,0,none⟩ rfl rfl rfl rfl ?_;simp only[Act.put,sB,sS,sZ];iterate 6 (refine ze rfl rfl rfl (fun K hK=>?_);go_big_quiet_op;refine hK _ ?_;clear hK)
 refine qj fun W8 hI8 _=>?_
 have g8:zc W7 W8:=(HI _).1 hI8;refine qE (E:=jx) rfl (.tmp 28) (.tmp 27) rfl W2.heap.size _ xs (HS1.grew g8) g q rfl ⟨false,zx,zx,zx,zx,zx,zx,zx,zx,zx⟩ (by rw[HXN.out];omega) ⟨g,q*10,none⟩ rfl rfl spz rfl rfl ?_
 intro W9 ow9 gr9 _;rw[<-HVS.out]at ow9;have hgo:(V7.sp.x).ownBlock=some g:=by (first|rw[HVS.out]|rw[show Value.slice _ _ _=_ from HVS.out]);rfl
 have M9:Hid (ChM W2 r W9 V7 (zkQ DM q)):=dD<|(M7.grew g8).setP HS2 (fun i x s hx hs W hW=>HS3.out i x s hx hs W ((qR.grew g8).trans hW)) hgo gr9 ow9 (fun W=>⟨rfl,zr.nil _ _,nR _,ZM.nil _ _ _⟩)
 obtain⟨hn1,hn2,hn3⟩:=HND.out;have hgd:=hn3 g (by rw[<-HSP.out];exact .inr hgo)
 have D9:Hid (zp W9 d 107 [.pointer (some ⟨r,0,none⟩)]):=dD<|(D7.grew g8).beside gr9 (fun k e=>by cases e;omega)
 have Z9:Hid (zp W9 (b+1+1) 41 je):=dD<|(Z7.grew g8).beside gr9 (fun k e=>by cases e;omega)
 clear ow9 gr9 hI8 g8 hI0 hne hr10 hd0 hy0 hgo hn1 hn2 hn3 hgd;obtain⟨FM,HFM⟩:∃FM,Hid (zkQ DM q=FM):=⟨_,rfl⟩;rw[HFM.out]at M9;have HZL:Hid (∀v∈chL V7 FM,v.oneCell'=true):=dD<|by simp[chL,Value.oneCell']
 have d0:=D9.box.c 0 rfl;obtain⟨r0,r1,r2,r3,r4,r5,r6,r7,r8,r9,r10⟩:=M9.box.box.c11
 go_wp2_with (refine qI rfl 41 (.tmp 4) (.tmp 32) rfl (b+1+1) rfl (chL V7 FM) rfl Z9 rfl (by kernel_rfl) HZL.out ?_)
 clear d0 r0 r1 r2 r3 r4 r5 r6 r7 r8 r9 r10;intro W11 bx gr11 _;have G11:Hid (zc w W11):=dD<|zd (G2.trans M9.gr) gr11 (by have:=HB.out;omega)
 have B11:Hid (zp W11 (b+1+1) 41 (chL V7 FM)):=bx;have HF:Hid (zF W11 V7 FM):=show zF _ _ _ by
  have hn1:=HND.1;have o:qR (Dq W2.heap.size r V7.sp) W9 W11:=qR.grown gr11 (.inl (by omega))
  have rs:=M9.rest W11 o;obtain⟨ys,t1,t2,t3⟩:=M9.sp;exact⟨rs.fs,rs.sl,rs.sb,rs.sq,rs.db,rs.dq,rs.fl,rs.ca,⟨ys,(t1.grown gr11 (fun g' hg' e=>by cases e;have:=(t1.lt _ hg').1;omega)).at,t2,fun i x s hx hs=>t3 i x s hx hs W11 o⟩⟩
 have HEX:Hid (zhl m q s=FM):=dD<|by unfold zhl;rw[HDM.out,HFM.out]
 clear bx gr11;go_wp2;refine bodyPost_ret (jL rfl _ rfl B11.box underlying41 rfl (by kernel_rfl)) rfl ⟨.inr ⟨q,s,⟨rfl,HS,HLV⟩,V7,?_,?_⟩,G11⟩
 ·rw[HEX.out];rfl
 rw[HEX.out];exact HF.out
end
section
theorem zc5 {k:Nat} {fr:Fr} (hk:k<m.fs.length) (hca:zai m none m.ca=0) (hc:zQ m.ca k≠0->fr.p=(zY m k).p) (file idx:Int):ja { m with fs:=m.fs.set k fr } file idx=ja m file idx:=by
 obtain⟨a1,_,_⟩:=zS.1 hca;refine ziP (m:=m) (m':={ m with fs:=m.fs.set k fr }) rfl rfl rfl rfl (fun c hcm=>?_) file idx
 rw[jw hk c.fr (zbl (a1 c hcm)).1.2.2.2.2.1]
 by_cases e:c.fr=(k:Int)
 ·rw[if_pos e,e];exact hc (by have:=za6 hcm;rw[e]at this;exact this)
 rw[if_neg e]
theorem zhR {k:Nat} {fr:Fr} {x:On} {e:En} (hk:k<m.fs.length) (hca:zai m none m.ca=0) (hc:zQ m.ca k≠0->fr.p=(zY m k).p) (h0:e.kind=1->0<=e.n) (he:e.kind=1->e.n=(k:Int)->fr.p=(zY m k).p/\(fr.f<0↔(zY m k).f<0)):zdz { m with fs:=m.fs.set k fr } x e=zdz m x e:=by
 refine zjh rfl rfl (fun h1=>?_) (fun _=>rfl) (fun _=>rfl) (zc5 hk hca hc)
 rw[jw hk e.n (h0 h1)]
 by_cases ek:e.n=(k:Int)
 ·rw[if_pos ek,ek];exact he h1 ek
 rw[if_neg ek];exact⟨rfl,Iff.rfl⟩
section
variable{m:Ma} {T:List (Nat->En)}
theorem zji {k:Nat} {fr:Fr} {r:Int} {x:On} {e:En} (h:qQ m T) (hk:m.fs[k]? =some fr) (h0:e.kind=1->0<=e.n):zdz { m with fs:=m.fs.set k { fr with r:=r } } x e=zdz m x e:=by
 refine zhR (gS.1 hk).1 h.ca (fun _=>by rw[jR hk]) h0 (fun _ _=>by rw[jR hk];exact⟨rfl,Iff.rfl⟩)
end
structure Rt (m:Ma):Prop where
 w:maW m=0
 t8:∀s∈m.sp,s.tb.length=8
theorem Rt.inv (h:Rt m):qQ m (Qm m):=(zeu h.w).1
theorem Rt.hand (h:Rt m):0<=m.hand/\m.hand<max (m.fs.length:Int) 1:=(zeu h.w).2
theorem Rt.tb (h:Rt m) {s:Sp} (hs:s∈m.sp):zcr s.tb:=by
 refine⟨h.t8 s hs,Zr.1 ?_⟩;have h0:=h.w;unfold maW at h0;rw[zn]at h0;have h1:Jk m=0:=h0 _ (by simp)
 unfold Jk at h1;rw[zn]at h1;have p10:=zn.1 (h1 (zB (m.sp.map spE)) (by simp)) (spE s) (List.mem_map.2 ⟨s,hs,rfl⟩)
 unfold spE at p10
 split at p10
 ·rename_i a
  exact absurd p10 a
 split at p10
 ·rename_i a
  exact absurd p10 a
 rename_i a
 exact Classical.byContradiction a
theorem Rt.of (hb:qQ m (Qm m)) (ht:∀s∈m.sp,zcr s.tb) (h0:0<=m.hand) (h1:m.hand<max (m.fs.length:Int) 1):Rt m:=by
 refine⟨?_,fun s hs=>(ht s hs).1⟩
 have:=hb.right h0 h1;rw[zj0 ht]at this;exact this
theorem Qb {p:Nat} {s:Sp} (h:m.sp[p]? =some s):(Qm m)[p]? =some (zk s):=by
 unfold Qm;rw[List.getElem?_map,h];rfl
theorem qQ.tabs (h:qQ m T) {sp':List Sp} (hl:sp'.length=m.sp.length) (hs:∀(p:Nat) s s',m.sp[p]? =some s->sp'[p]? =some s'->s'.live=s.live/\s'.ars=s.ars):qQ { m with sp:=sp' } T:=by
 have back:∀(p:Nat) s',sp'[p]? =some s'->∃s,m.sp[p]? =some s/\s'.live=s.live/\s'.ars=s.ars:=fun p s' h'=>by
  have hp:p<m.sp.length:=by rw[<-hl];exact(gS.1 h').1
  exact⟨_,gE hp,hs p _ s' (gE hp) h'⟩
 refine⟨h.fs40,h.fok,h.sl60,h.sbl,h.sq,h.dok,h.st,h.cnt,h.blk,h.que,by show sp'.length<=4;rw[hl];exact h.spl,fun s' hs'=>?_,h.tl.trans hl.symm,?_,fun p s' f hs' hT n hn=>?_,h.cf,h.cs⟩
 ·obtain⟨p,hp⟩:=List.getElem?_of_mem hs';obtain⟨s,h1,h2,h3⟩:=back p s' hp;rw[h2,h3];exact h.spok s (mG h1)
 ·obtain⟨a1,a2,a3⟩:=zS.1 h.ca;exact zS.2 ⟨fun c hc=>a1 c hc,fun q c hq=>(by cases hq),a3⟩
 obtain⟨s,h1,h2,h3⟩:=back p s' hs';rw[h3];exact h.ent p s f h1 hT n hn
def zcF (m:Ma) (p n:Nat) (e:En):Ma:={ m with sp:=m.sp.modify p fun s=>{ s with tb:=zgo s.tb n e } }
theorem Jj {p n:Nat} {e:En}:(zcF m p n e).sp[q]? =(m.sp[q]?).map fun s=>if p=q then{ s with tb:=zgo s.tb n e }else s:=by
 unfold zcF;simp only[List.getElem?_modify]
 by_cases h:p=q
 ·simp[h]
 simp[h]
theorem zdE {s:Sp} (ht:zcr s.tb) {n:Nat} (hn:n<64) {e:En} (he:enW e=0):zk { s with tb:=zgo s.tb n e }=qn (zk s) n e:=by
 funext j
 unfold zk qn;simp only;rw[zjP ht hn he _ _ (Nat.mod_lt _ (by decide))]
 by_cases h:j=n
 ·rw[if_pos h,if_pos (by subst h;exact⟨rfl,rfl⟩)]
 rw[if_neg h,if_neg (fun k=>h (by omega))]
theorem ziv {p n:Nat} {e:En} {s:Sp} (hs:m.sp[p]? =some s) (ht:zcr s.tb) (hn:n<64) (he:enW e=0):Qm (zcF m p n e)=(Qm m).set p (qn (zk s) n e):=by
 apply List.ext_getElem?
 intro q;have hpl:=(gS.1 hs).1;unfold Qm;rw[List.getElem?_map,Jj,List.getElem?_set,List.length_map]
 by_cases h:p=q
 ·subst h;rw[hs,if_pos rfl,if_pos hpl];simp only[Option.map_some,if_pos,zdE ht hn he]
 rw[if_neg h,List.getElem?_map]
 cases m.sp[q]? with
 | none=>rfl
 | some x=>simp[h]
theorem zdD {p n:Nat} {e:En}:(zcF m p n e).sp.length=m.sp.length:=by simp[zcF]
theorem zhY {p n:Nat} {e:En} {s s':Sp} (hs:m.sp[q]? =some s) (hs':(zcF m p n e).sp[q]? =some s'):s'.live=s.live/\s'.ars=s.ars:=by
 rw[Jj,hs]at hs';simp only[Option.map_some,Option.some.injEq]at hs';subst hs'
 split <;> exact⟨rfl,rfl⟩
theorem zdC (ht:∀s∈m.sp,zcr s.tb) {p n:Nat} {e:En} (he:enW e=0):∀s∈(zcF m p n e).sp,zcr s.tb:=fun s hs=>by
 obtain⟨q,hq⟩:=List.getElem?_of_mem hs;rw[Jj]at hq
 cases h:m.sp[q]? with
 | none=>rw[h]at hq;cases hq
 | some x=>
  rw[h]at hq;simp only[Option.map_some,Option.some.injEq]at hq;have hx:=ht x (mG h);subst hq
  split
  ·exact zkC hx he
  exact hx
theorem zhX {p n:Nat} {e:En} {s:Sp} (hs:m.sp[p]? =some s) (ht:∀s∈m.sp,zcr s.tb) (hn:n<64) (he:enW e=0) (hb:qQ m ((Qm m).set p (qn (zk s) n e))) (h0:0<=m.hand/\m.hand<max (m.fs.length:Int) 1):Rt (zcF m p n e):=by
 refine Rt.of ?_ (zdC ht he) h0.1 h0.2;rw[ziv hs (ht s (mG hs)) hn he];exact hb.tabs zdD fun q s s' h1 h2=>zhY h1 h2
section
variable{m:Ma} {p n:Nat} {s:Sp}
theorem Rt.ent (h:Rt m) (hs:m.sp[p]? =some s) (hn:n<64):zk s n=en0\/zam m (zJ s.ars n) (zk s n):=h.inv.ent p s _ hs (Qb hs) n hn
theorem Rt.present (h:Rt m) (hs:m.sp[p]? =some s) (hn:n<64) (hk:(zk s n).kind=1):∃(k:Nat) (fr:Fr),(zk s n).n=(k:Int)/\m.fs[k]? =some fr/\zY m (zk s n).n=fr/\fr.r≠0:=by
 rcases h.ent hs hn with e|e
 ·rw[e]at hk;cases hk
 obtain⟨c1,c2,c3,_⟩:=qM e (by omega)
 refine⟨(zk s n).n.toNat,m.fs[(zk s n).n.toNat]'(by omega),by omega,gE _,?_,fun h0=>?_⟩
 ·have:=jR (m:=m) (k:=(zk s n).n.toNat) (gE (by omega))
  rw[show(((zk s n).n.toNat:Nat):Int)=(zk s n).n by omega]at this
  exact this
 have h1:=(h.inv.free (gE (show(zk s n).n.toNat<m.fs.length by omega)) h0).1
 have h2:=zdW (Qb hs) hn hk;rw[show(((zk s n).n.toNat:Nat):Int)=(zk s n).n by omega]at h1
 omega
theorem Rt.swapped (h:Rt m) (hs:m.sp[p]? =some s) (hn:n<64) (hk:(zk s n).kind=2):∃(k:Nat) (z:Int),(zk s n).n=(k:Int)/\m.sl[k]? =some z/\m.sl.getD (zk s n).n.toNat 0=z/\0<z/\(zJ s.ars n).is=true/\(zJ s.ars n).sh=false/\k<m.sb.length:=by
 rcases h.ent hs hn with e|e
 ·rw[e]at hk;cases hk
 obtain⟨e1,e2,e3⟩:=e;unfold QA at e3
 split at e3
 ·cases e3
 rename_i his
 split at e3
 ·cases e3
 rename_i hb
 have hn0:=(jS e1).2.1.1;have hlt:(zk s n).n< (m.sl.length:Int):=by
  rcases Int.lt_or_le (zk s n).n m.sl.length with h1|h1
  ·exact h1
  exact absurd (.inl h1) hb
 have hl:(zk s n).n.toNat<m.sl.length:=by omega
 refine⟨(zk s n).n.toNat,m.sl[(zk s n).n.toNat],by omega,gE hl,?_,?_,?_,?_,?_⟩
 ·rw[gD,gE hl];rfl
 ·rw[h.inv.cs _ _ (gE hl)];have:=zbC (Qb hs) hn (kind:=2) (k:=(((zk s n).n.toNat:Nat):Int)) (by simp[isE,hk];omega) (by decide)
  omega
 ·cases hx:(zJ s.ars n).is with
  | true=>rfl
  | false=>exact absurd hx his
 ·cases hx:(zJ s.ars n).sh with
  | false=>rfl
  | true=>exact absurd (.inr hx) hb
 have:=h.inv.sbl;omega
end
def zdh (m:Ma):Nat:=m.fs.countP fun f=>f.r == 0
def zdg (m:Ma):Nat:=m.sl.countP fun z=>z == 0
theorem Rt.parts (h:Rt m):j1 m.fs m.hand=0/\slW m.sl=0:=by
 have h0:=h.w;unfold maW at h0;rw[zn]at h0;have h1:Jk m=0:=h0 _ (by simp)
 unfold Jk at h1;rw[zn]at h1;exact⟨h1 _ (by simp),h1 _ (by simp)⟩
theorem Rt.refs (h:Rt m) {k:Nat} {f:Fr} (hk:m.fs[k]? =some f):0<=f.r/\f.r<=300:=by
 have h1:=(h.inv.cf k f hk).1;have h2:=Jq (Qm m) 1 k;have h3:=zdb h.inv.ca (k:Int);have h4:=h.inv.tl;have h5:=h.inv.spl;omega
theorem Rt.slots (h:Rt m) {k:Nat} (hk:m.sl[k]? =some z):0<=z/\z<=300:=by
 have h1:=h.inv.cs k z hk;have h2:=Jq (Qm m) 2 k;have h4:=h.inv.tl;have h5:=h.inv.spl;omega
theorem zfQ:zcr z8:=⟨rfl,fun h hh=>by
 have:=List.eq_of_mem_replicate (show h∈List.replicate 8 []from hh)
 subst this;exact .inl rfl⟩
theorem Jt (l:List Ar) (b:Bool):zk ⟨b,l,z8⟩=fun _=>en0:=by
 funext n
 unfold zk zaJ;simp only;have:(z8[n / 8]?.getD [])=[]:=by
  unfold z8;rw[List.getElem?_replicate]
  split <;> rfl
 rw[this];rfl
theorem qQ.rebirth (h:qQ m T) {k:Nat} {f:Nat->En} (hT:T[k]? =some f) (hf:∀n,n<64->f n=en0) (hl:(wrL l).1=0):qQ { m with sp:=m.sp.set k ⟨true,l,z8⟩ } T:=by
 have back:∀(p:Nat) s',(m.sp.set k ⟨true,l,z8⟩)[p]? =some s'->(p=k/\s'=⟨true,l,z8⟩)\/(p≠k/\m.sp[p]? =some s'):=fun p s' h'=>by
  rw[List.getElem?_set]at h'
  by_cases e:k=p
  ·rw[if_pos e]at h'
   split at h'
   ·exact .inl ⟨e.symm,by simpa using h'.symm⟩
   cases h'
  rw[if_neg e]at h';exact .inr ⟨fun h=>e h.symm,h'⟩
 refine⟨h.fs40,h.fok,h.sl60,h.sbl,h.sq,h.dok,h.st,h.cnt,h.blk,h.que,by show(m.sp.set k _).length<=4;rw[List.length_set];exact h.spl,fun s' hs'=>?_,by show T.length=(m.sp.set k _).length;rw[List.length_set];exact h.tl,?_,fun p s' g hs' hT' n hn=>?_,h.cf,h.cs⟩
 ·obtain⟨p,hp⟩:=List.getElem?_of_mem hs'
  rcases back p s' hp with⟨_,rfl⟩|⟨_,h2⟩
  ·exact⟨hl,fun e=>by cases e⟩
  exact h.spok s' (mG h2)
 ·obtain⟨a1,a2,a3⟩:=zS.1 h.ca;exact zS.2 ⟨fun c hc=>a1 c hc,fun q c hq=>(by cases hq),a3⟩
 rcases back p s' hs' with⟨rfl,rfl⟩|⟨_,h2⟩
 ·rw[hT]at hT';cases hT';exact .inl (hf n hn)
 exact h.ent p s' g h2 hT' n hn
theorem Rt.dead (h:Rt m) {k:Nat} {s:Sp} (hs:m.sp[k]? =some s) (hd:s.live=false):∀n,n<64->zk s n=en0:=fun n hn=>by
 rcases h.ent hs hn with e|e
 ·exact e
 have ha:=(h.inv.spok s (mG hs)).2 hd;rw[ha]at e;have h2:=e.2.2;have h3:(zJ ([]:List Ar) n).is=false:=by first | rfl | simp[zJ]
 unfold QA at h2;rw[if_pos h3]at h2;cases h2
theorem zgM (h:Rt m) {k:Nat} {s:Sp} (hs:m.sp[q]? =some s) (hk:Vac m.sp k) (h4:k<4):Rt (ZL m k s):=by
 have hw:=(h.inv.spok s (mG hs)).1;have ht:∀x∈(ZL m k s).sp,zcr x.tb:=fun x hx=>by
  obtain⟨i,hi⟩:=List.getElem?_of_mem hx;have hi:(J1 m.sp k ⟨true,s.ars,z8⟩)[i]? =some x:=hi;rw[QI hk.1]at hi
  split at hi
  ·cases hi;exact zfQ
  exact h.tb (mG hi)
 refine Rt.of ?_ ht h.hand.1 h.hand.2
 by_cases e:k=m.sp.length
 ·have e1:(ZL m k s).sp=m.sp++ [⟨true,s.ars,z8⟩]:=by unfold ZL J1;rw[if_pos e]
  have e2:Qm (ZL m k s)=Qm m++ [fun _=>en0]:=by unfold Qm;rw[e1,List.map_append,mP,List.map_nil,Jt]
  rw[e2];have:=h.inv.space hw (by omega)
  have e3:ZL m k s={ m with sp:=m.sp++ [⟨true,s.ars,z8⟩] }:=by unfold ZL J1;rw[if_pos e]
  rw[e3];exact this
 have e1:(ZL m k s).sp=m.sp.set k ⟨true,s.ars,z8⟩:=by unfold ZL J1;rw[if_neg e]
 have hkl:k<m.sp.length:=by have:=hk.1;omega
 obtain⟨d,hd⟩:∃d,m.sp[k]? =some d:=⟨_,gE hkl⟩;have hdead:=h.dead hd (hk.2.1 d hd);have hT8:=(h.tb (mG hd)).1;have hdf:zk d=fun _=>en0:=by
  funext n
  by_cases hn:n<64
  ·exact hdead n hn
  have h9:d.tb[n / 8]? =none:=gN (by rw[hT8];omega)
  unfold zk zaJ;rw[h9];rfl
 have e2:Qm (ZL m k s)=Qm m:=by
  unfold Qm;rw[e1]
  apply List.ext_getElem?
  intro i;rw[List.getElem?_map,List.getElem?_map,List.getElem?_set]
  by_cases ei:k=i
  ·subst ei;rw[if_pos rfl,if_pos hkl,hd];simp only[Option.map_some,Jt,hdf]
  rw[if_neg ei]
 rw[e2];have e3:ZL m k s={ m with sp:=m.sp.set k ⟨true,s.ars,z8⟩ }:=by unfold ZL J1;rw[if_neg e]
 rw[e3];exact h.inv.rebirth (Qb hd) hdead hw
theorem zim {s:Sp} {n:Nat} (hn:n<64):zf1 s.tb (n:Int)=zk s n:=by
 unfold zf1 zk;rw[if_pos (by omega),tN]
theorem zkD {t:List (List En)} (h:zcr t) {n:Nat} (hn:n<64) {e:En} (he:enW e=0):zep t (n:Int) e=zgo t n e:=by
 have h0:tbW t=0:=Zr.2 h.2;have:zeq t (n:Int) e=0:=by unfold zeq;rw[if_pos h0,if_pos (by omega)];exact he
 unfold zep;rw[if_pos this,tN]
theorem ze5 (ht:∀s∈m.sp,zcr s.tb) {p n:Nat} (hp:p<m.sp.length) (hn:n<64) {e:En} (he:enW e=0):Zp m p (n:Int) e=zcF m p n e:=by
 obtain⟨s,hs⟩:∃s,m.sp[p]? =some s:=⟨_,gE hp⟩;unfold Zp zcF;rw[Sp.getD_of hs,zkD (ht s (mG hs)) hn he]
 congr 1
 apply List.ext_getElem?
 intro i;rw[List.getElem?_set,List.getElem?_modify]
 by_cases e:p=i
 ·subst e;rw[if_pos rfl,if_pos hp,hs];simp
 rw[if_neg e]
 simp[e]
theorem ziG {e:En} (h:enW e=0) (hk:e.kind≠0):enW ⟨e.kind,e.n,false⟩=0:=by
 obtain⟨h1,h2,h3⟩:=jS h;unfold enW;rw[if_pos h1,if_pos h2,if_neg];rintro(⟨a,_⟩|⟨_,a⟩)
 ·exact hk a
 cases a
theorem ze9 {α:Type} (p:α->Bool) {l:List α} {x y:α} (hx:l[i]? =some x) (h1:p x=false) (h2:p y=false):(l.set i y).countP p=l.countP p:=by
 induction l generalizing i with
 | nil=>cases hx
 | cons a l ih=>
  cases i with
  | zero=>
   simp only[List.getElem?_cons_zero,Option.some.injEq]at hx;subst hx
   simp[h1,h2]
  | succ i=>
   simp only[List.getElem?_cons_succ]at hx;simp only[sS,List.countP_cons,ih hx]
structure Shd (m m':Ma) (k q n:Nat) (sk sq sk' sq':Sp):Prop where
 rt:Rt m'
 f:zdh m'=zdh m
 s:zdg m'=zdg m
 pk:m'.sp[k]? =some sk'
 pq:m'.sp[q]? =some sq'
 ak:sk'.ars=sk.ars
 aq:sq'.ars=sq.ars
 fk:∀j,j≠n->zk sk' j=zk sk j
 fq:∀j,j≠n->zk sq' j=zk sq j
 len:m'.sp.length=m.sp.length
 oth:∀r,r≠k->r≠q->m'.sp[r]? =m.sp[r]?
 lv:sk'.live=sk.live/\sq'.live=sq.live
 kq:(zk sq' n).kind=(zk sq n).kind/\(zk sq' n).n=(zk sq n).n
 kk:(zk sk' n).kind=(zk sq n).kind/\(zk sk' n).n=(zk sq n).n
 see:∀x e,(e.kind=1->0<=e.n)->zdz m' x e=zdz m x e
 con:∀file idx,ja m' file idx=ja m file idx
 rest:m'.fs.length=m.fs.length/\m'.sl.length=m.sl.length/\m'.fl=m.fl/\m'.ca=m.ca
theorem zgn (h:Rt m) {k n:Nat} {sk sq:Sp} (hk:m.sp[k]? =some sk) (hq:m.sp[q]? =some sq) (hkq:q≠k) (ha:sk.ars=sq.ars) (hn:n<64) (h0:zk sk n=en0) (h1:zk sq n≠en0):∃sk' sq',Shd m (Qq m k q (n:Int)) k q n sk sq sk' sq':=by
 have ht:∀s∈m.sp,zcr s.tb:=fun s hs=>h.tb hs
 have hkl:=(gS.1 hk).1;have hql:=(gS.1 hq).1;have heo:zam m (zJ sq.ars n) (zk sq n):=(h.ent hq hn).resolve_left h1;obtain⟨e,he⟩:∃e,zk sq n=e:=⟨_,rfl⟩;rw[he]at heo h1;have hew:enW ⟨e.kind,e.n,false⟩=0:=ziG heo.1 heo.2.1;have hent:ziE m q (n:Int)=e:=by unfold ziE;rw[Sp.getD_of hq,zim hn,he]
 have hA:Rt (zcF m q n ⟨e.kind,e.n,false⟩):=zhX hq ht hn hew (by
  have:=h.inv.guard (Qb hq) hn (by rw[he];exact h1)
  rw[he]at this;exact this) h.hand
 have hAk:(zcF m q n ⟨e.kind,e.n,false⟩).sp[k]? =some sk:=by rw[Jj,hk];simp[hkq]
 obtain⟨sq',hsq'⟩:∃sq',sq'={ sq with tb:=zgo sq.tb n ⟨e.kind,e.n,false⟩ }:=⟨_,rfl⟩;have hAq:(zcF m q n ⟨e.kind,e.n,false⟩).sp[q]? =some sq':=by rw[Jj,hq,hsq'];simp
 have hqf:zk sq'=qn (zk sq) n ⟨e.kind,e.n,false⟩:=by rw[hsq'];exact zdE (ht sq (mG hq)) hn hew
 have hqa:sq'.ars=sq.ars:=by rw[hsq']
 have hqn:zk sq' n=⟨e.kind,e.n,false⟩:=by rw[hqf];simp[qn]
 have hAo:zam (zcF m q n ⟨e.kind,e.n,false⟩) (zJ sk.ars n) ⟨e.kind,e.n,false⟩:=by
  rcases hA.ent hAq hn with e1|e1
  ·rw[hqn]at e1;exact absurd (congrArg En.kind e1) heo.2.1
  rw[hqn,hqa,<-ha]at e1;exact e1
 have htA:∀s∈(zcF m q n ⟨e.kind,e.n,false⟩).sp,zcr s.tb:=zdC ht hew;obtain⟨sk',hsk'⟩:∃sk',sk'={ sk with tb:=zgo sk.tb n ⟨e.kind,e.n,false⟩ }:=⟨_,rfl⟩;have hkf:zk sk'=qn (zk sk) n ⟨e.kind,e.n,false⟩:=by rw[hsk'];exact zdE (ht sk (mG hk)) hn hew
 have fin:∀M:Ma,M.sp=m.sp->Zj m ⟨e.kind,e.n,false⟩ 1=M->zdh M=zdh m->zdg M=zdg m->(∀x e,(e.kind=1->0<=e.n)->zdz M x e=zdz m x e)->(∀file idx,ja M file idx=ja m file idx)->(M.fs.length=m.fs.length/\M.sl.length=m.sl.length/\M.fl=m.fl/\M.ca=m.ca)->Rt (zcF (zcF M q n ⟨e.kind,e.n,false⟩) k n ⟨e.kind,e.n,false⟩)->∃sk' sq',Shd m (Qq m k q (n:Int)) k q n sk sq sk' sq':=fun M hM hh c1 c2 hsee hcon hrest hR=>by
  have e1:Qq m k q (n:Int)=zcF (zcF M q n ⟨e.kind,e.n,false⟩) k n ⟨e.kind,e.n,false⟩:=by
   unfold Qq;rw[hent]
   show Zp (Zp (Zj m ⟨e.kind,e.n,false⟩ 1) q n ⟨e.kind,e.n,false⟩) k n ⟨e.kind,e.n,false⟩=_
   have hMt:∀s∈M.sp,zcr s.tb:=by rw[hM];exact ht
   rw[hh,ze5 (m:=M) (p:=q) hMt (by rw[hM];exact hql) hn hew,ze5 (p:=k) (zdC hMt hew) (by rw[zdD,hM];exact hkl) hn hew]
  rw[e1];refine⟨sk',sq',hR,c1,c2,?_,?_,by rw[hsk'],hqa,fun j hj=>by rw[hkf];simp[qn,hj],fun j hj=>by rw[hqf];simp[qn,hj],by rw[zdD,zdD,hM],fun r h1 h2=>?_,⟨by rw[hsk'],by rw[hsq']⟩,by rw[hqn,he];exact⟨rfl,rfl⟩,by rw[hkf,he];simp[qn],fun x e' h=>hsee x e' h,fun file idx=>hcon file idx,hrest⟩
  ·rw[Jj,Jj,hM,hk,hsk']
   simp[hkq]
  ·rw[Jj,Jj,hM,hq,hsq'];have:¬k=q:=fun h=>hkq h.symm
   simp[this]
  rw[Jj,Jj,hM];have e3:¬k=r:=fun h=>h1 h.symm
  have e4:¬q=r:=fun h=>h2 h.symm
  cases m.sp[r]? with
  | none=>rfl
  | some x=>simp[e3,e4]
 by_cases hk1:e.kind=1
 ·obtain⟨i,fr,f1,f2,f3,f4⟩:=h.present hq hn (by rw[he];exact hk1)
  rw[he]at f1 f3;obtain⟨r0,r1⟩:=h.refs f2;have hil:=(gS.1 f2).1;have hgd:m.fs.getD i fr0=fr:=by rw[gD,f2];rfl
  have hho:Zj m ⟨e.kind,e.n,false⟩ 1={ m with fs:=m.fs.set i { fr with r:=fr.r+1 } }:=by
   have e0:Qx m.fs m.hand e.n 1=0:=by
    unfold Qx;rw[if_pos h.parts.1,f1,tN,hgd];have hb:(inB (i:Int) m.fs.length && !(fr.r == 0))=true:=by
     simp[inB,f4]
     omega
    rw[hb,if_pos rfl,if_pos (by omega)]
   unfold Zj;rw[if_pos hk1];simp only;unfold zdV zb7;rw[if_pos e0,if_pos e0,f1,tN,hgd];unfold frH;rw[if_neg (by omega)]
  refine fin { m with fs:=m.fs.set i { fr with r:=fr.r+1 } } rfl hho (by
   unfold zdh;refine ze9 (fun f:Fr=>f.r == 0) f2 (by simpa using f4) ?_
   have:¬fr.r+1=0:=by omega
   simpa using this) rfl (fun x e' h'=>zji h.inv f2 h') (fun file idx=>zc5 hil h.inv.ca (fun _=>by rw[jR f2]) file idx) ⟨by show(m.fs.set i _).length=_;rw[List.length_set],rfl,rfl,rfl⟩ ?_
  have hb:=hA.inv.share (p:=q) (q:=k) (n:=n) (k:=i) (fr:=fr) (e:=⟨e.kind,e.n,false⟩) f2 (Qb hAq) hqn (Qb hAk) hkq hn h0 hAk hAo hk1 f1 (fun h=>by cases h)
  exact zhX (m:={ zcF m q n ⟨e.kind,e.n,false⟩with fs:=m.fs.set i { fr with r:=fr.r+1 } }) hAk htA hn hew hb (by show 0<=m.hand/\m.hand<max ((m.fs.set i _).length:Int) 1;rw[List.length_set];exact h.hand)
 have hk2:e.kind=2:=by have:=(jS heo.1).1;have:=heo.2.1;omega
 obtain⟨i,z,f1,f2,f3,f4,_⟩:=h.swapped hq hn (by rw[he];exact hk2)
 rw[he]at f1 f3;obtain⟨r0,r1⟩:=h.slots f2;have hgd:m.sl.getD i 0=z:=by rw[gD,f2];rfl
 have hho:Zj m ⟨e.kind,e.n,false⟩ 1={ m with sl:=m.sl.set i (z+1) }:=by
  have ea:atS m.sl e.n=z:=by unfold atS;rw[f1,if_pos (by omega),tN,hgd]
  have e0:jt m.sl e.n 1=0:=by
   unfold jt;rw[if_pos h.parts.2,ea,if_neg (by omega),if_pos (by omega)]
  unfold Zj;rw[if_neg hk1,if_pos hk2];simp only;unfold Zo;rw[if_pos e0,ea,f1,tN]
 refine fin { m with sl:=m.sl.set i (z+1) } rfl hho rfl (by
  unfold zdg;refine ze9 (fun z:Int=>z == 0) f2 ?_ ?_
  ·have:¬z=0:=by omega
   simpa using this
  have:¬z+1=0:=by omega
  simpa using this) (fun x e' h'=>rfl) (fun file idx=>rfl) ⟨rfl,by show(m.sl.set i _).length=_;rw[List.length_set],rfl,rfl⟩ ?_
 have hb:=hA.inv.shareS (q:=k) (n:=n) (k:=i) (z:=z) (e:=⟨e.kind,e.n,false⟩) f2 (Qb hAk) hn h0 hAk hAo hk2 f1;exact zhX (m:={ zcF m q n ⟨e.kind,e.n,false⟩with sl:=m.sl.set i (z+1) }) hAk htA hn hew hb h.hand
theorem zem {k q:Nat} (hkq:q≠k):∀(l:List Nat) {m:Ma} {sk sq:Sp},Rt m->m.sp[k]? =some sk->m.sp[q]? =some sq->sk.ars=sq.ars->l.Nodup->(∀n∈l,n<64/\zk sk n=en0/\zk sq n≠en0)->
  Rt (Jh m k q (l.map fun(n:Nat)=>(n:Int)))/\zdh (Jh m k q (l.map fun(n:Nat)=>(n:Int)))=zdh m/\zdg (Jh m k q (l.map fun(n:Nat)=>(n:Int)))=zdg m
 | [],m,sk,sq,h,_,_,_,_,_=>⟨h,rfl,rfl⟩
 | n :: l,m,sk,sq,h,hk,hq,ha,hd,hl=>by
  obtain⟨h1,h2,h3⟩:=hl n (by simp)
  obtain⟨sk',sq',hS⟩:=zgn h hk hq hkq ha h1 h2 h3;rw[List.nodup_cons]at hd;have ih:=zem hkq l hS.rt hS.pk hS.pq (by rw[hS.ak,hS.aq,ha]) hd.2 (fun j hj=>by
   obtain⟨a1,a2,a3⟩:=hl j (by simp[hj])
   have hne:j≠n:=fun e=>hd.1 (e ▸ hj)
   rw[hS.fk j hne,hS.fq j hne];exact⟨a1,a2,a3⟩)
  rw[hS.f,hS.s]at ih;exact ih
theorem Qs {s:Sp}:(qg s).Nodup/\∀n∈qg s,n<64/\zk s n≠en0:=by
 unfold qg;refine⟨List.Pairwise.filter _ List.nodup_range,fun n hn=>?_⟩
 rw[List.mem_filter,List.mem_range]at hn;refine⟨hn.1,fun e=>?_⟩
 rw[e]at hn;exact absurd hn.2 (by decide)
theorem zgF (h:Rt m) {k:Nat} {s:Sp} (hs:m.sp[q]? =some s) (hl:s.live=true) (hk:Vac m.sp k) (h4:k<4):Rt (zae m k q s)/\zdh (zae m k q s)=zdh m/\zdg (zae m k q s)=zdg m:=by
 have hkq:q≠k:=fun e=>by
  have h1:=hk.2.1 s (by rw[<-e];exact hs)
  rw[hl]at h1;cases h1
 unfold zae;rw[jX];have e1:(ZL m k s).sp[k]? =some ⟨true,s.ars,z8⟩:=by show(J1 m.sp k _)[k]? =_;rw[QI hk.1,if_pos rfl]
 have e2:(ZL m k s).sp[q]? =some s:=by show(J1 m.sp k _)[q]? =_;rw[QI hk.1,if_neg hkq];exact hs
 exact zem hkq (qg s) (zgM h hs hk h4) e1 e2 rfl Qs.1 (fun n hn=>⟨(Qs.2 n hn).1,by rw[Jt],(Qs.2 n hn).2⟩)
end
section
open Go.RowKit
theorem zc9 {l:List On} (y:On) (h:j<l.length):splice (zz l) (j*6) (onv y)=zz (l.set j y):=Qp (enc:=onv) (k:=6) y rfl l j (fun _ _=>rfl) h
theorem Za {l:List On} {e:On} (h:l[j]? =some e) (i:Nat) (u:Value) (hu:(onv e)[i]? =some u):(zz l)[j*6+i]? =some u:=qL (enc:=onv) (k:=6) l j e (fun _ _=>rfl) h i u hu
theorem jl (f:Nat->On):(zz (tab f)).length=384:=by rw[zhs,Qj]
theorem zcN {rest:List Oper} {op:Oper} {a:Act} {w:World} (hgd:op.guard=none) (p x:Operand) (ho:op.op= .store 61 p x) (b k:Nat) (hk:k<64) (hp:a.eval p= .pointer (some ⟨b,k*6,none⟩)) (y:On) (hx:a.eval x= .agg (onv y).toArray)
  {f:Nat->On} (hb:Box w b (zz (tab f)))
  (h:∀w',Box w' b (zz (tab (upd f k y)))->w.grownBy w' (some b)->w'.heap.size=w.heap.size->wpList prog ops Q rest (a.put op.dst undef) w'):wpList prog ops Q (op :: rest) a w:=by
 refine zfv hgd 61 p x ho b (k*6) hp (onv y) hx hb (by rw[jl];show _+6<=_;omega) zmc (zh3 y) fun w' h1 h2 h3=>h w' ?_ h2 h3
 rw[zc9 y (by rw[Qj];exact hk),zfy]at h1
 exact h1
theorem Box.onCell {w:World} {k:Nat} {f:Nat->On} (h:Box w b (zz (tab f))) (hk:k<64) (i:Nat) (u:Value) (y:On) (hy:(onv (f k)).set i u=onv y) (hi:i<6):Box (w.setCell ⟨b,k*6+i,none⟩ u) b (zz (tab (upd f k y))):=by
 have h1:=h.set (k*6+i) u;have:(zz (tab f)).set (k*6+i) u=zz (tab (upd f k y)):=by
  rw[<-zfy,<-zc9 y (by rw[Qj];exact hk),<-hy]
  have hl:(zz (tab f)).length=384:=jl f
  apply List.ext_getElem?
  intro j;unfold splice;have e6:((onv (f k)).set i u).length=6:=by simp[onv]
  rw[e6]
  by_cases h1:j<k*6
  ·rw[sN (by omega),List.getElem?_append_left (by simp;omega),List.getElem?_take_of_lt h1]
  have hl2:((zz (tab f)).take (k*6)).length=k*6:=by simp;omega
  rw[aR (by omega),hl2]
  by_cases h2:j<k*6+6
  ·rw[List.getElem?_append_left (by rw[e6];omega)]
   have hc:∀i',i'<6->(zz (tab f))[k*6+i']? =(onv (f k))[i']?:=fun i' hi'=>by
    obtain⟨v,hv⟩:∃v,(onv (f k))[i']? =some v:=⟨_,gE (by simpa [onv]using hi')⟩
    rw[hv];exact Za (QX hk) i' v hv
   by_cases e:j=k*6+i
   ·subst e;rw[sF (by omega),show k*6+i - k*6=i by omega,sF (by simpa [onv]using hi)]
   rw[sN (fun h=>e h.symm),sN (by omega),<-hc _ (by omega),show k*6+(j - k*6)=j by omega]
  rw[sN (by omega),aR (by rw[e6];omega),e6,List.getElem?_drop]
  congr 1
  omega
 rw[this]at h1;exact h1
theorem ze4 {cs:List Value} {o k:Nat} (hl:vs.length=k) (h:∀(i:Nat) u,vs[i]? =some u->cs[o+i]? =some u):cs.toArray.extract o (o+k)=vs.toArray:=by
 apply Array.ext_getElem?
 intro j;rw[Array.getElem?_extract]
 by_cases hj:j<k
 ·obtain⟨u,hu⟩:∃u,vs[j]? =some u:=⟨_,gE (by omega)⟩
  have h1:=h j u hu;have h2:=(gS.1 h1).1;rw[if_pos (by simp;omega)]
  simp[h1,hu]
 rw[if_neg (by omega)]
 simp;omega
theorem zjl {w:World} {f:Nat->On} (i:Nat) (hi:i<64):(Instr.index 62 (.agg (zz (tab f)).toArray) (I6 (i:Int))).run prog w= .ok (.agg (onv (f i)).toArray) w:=by
 have ha:(isAgg 61).run prog w= .ok true w:=by
  unfold isAgg;rw[Sem.run_bind,run_underlying underlying61 w];rfl
 have hs:(Go.sizeOf 61).run prog w= .ok 6 w:=by
  obtain⟨i0,h1,h2⟩:∃i0,Tryz.prog.info? 61=some i0/\i0.size=6:=by
   have:=zmc
   cases hq:Tryz.prog.info? 61 with
   | none=>rw[hq]at this;cases this
   | some i0=>rw[hq]at this;exact⟨i0,rfl,by simpa using this⟩
  simp[Go.sizeOf,typeInfo,h1,h2]
 have hlt:(0:Int)<=(i:Int)/\(i:Int)< ((64:Nat):Int):=by omega
 have hx:(zz (tab f)).toArray.extract (i*6) (i*6+6)=(onv (f i)).toArray:=ze4 rfl fun j u hu=>Za (QX hi) j u hu
 simp only[Instr.index,asIntOf,Sem.run_bind,Sem.run_pure,rA,run_underlying underlying62];rw[if_pos hlt];simp only[Sem.run_bind,hs,rA,part,ha,if_true,tN,Sem.run_pure,hx]
theorem zky {rest:List Oper} {a:Act} {w:World} (hgd:o.guard=none) (x ix:Operand) (ho:o.op= .index 62 x ix) (f:Nat->On) (hx:a.eval x= .agg (zz (tab f)).toArray) (i:Nat) (hix:a.eval ix=I6 (i:Int)) (hi:i<64)
  (h:wpList prog ops Q rest (a.put o.dst (.agg (onv (f i)).toArray)) w):wpList prog ops Q (o :: rest) a w:=by
 refine wpList_plain hgd fun K hK=>?_
 unfold Oper.wp execOp;simp only[ho,hx,hix,Sem.run_bind,Sem.run_pure,rA,zjl i hi];exact hK _ _ h
theorem zbw {rest:List Oper} {a:Act} {w:World} (hgd:o.guard=none) (x ix:Operand) (ho:o.op= .index 62 x ix) (f:Nat->On) (hx:a.eval x= .agg (zz (tab f)).toArray) (i:Nat) (hix:a.eval ix=I6 (i:Int)) (hi:i<64) {v:Value} (hv: .agg (onv (f i)).toArray=v)
  (h:wpList prog ops Q rest (a.put o.dst v) w):wpList prog ops Q (o :: rest) a w:=zky hgd x ix ho f hx i hix hi (by rw[hv];exact h)
theorem zhI {rest:List Oper} {a:Act} {w:World} (hgd:o.guard=none) (x:Operand) (ho:o.op= .load 61 x) (b k:Nat) (hk:k<64) (hx:a.eval x= .pointer (some ⟨b,k*6,none⟩)) {f:Nat->On} (hb:Box w b (zz (tab f)))
  (h:wpList prog ops Q rest (a.put o.dst (.agg (onv (f k)).toArray)) w):wpList prog ops Q (o :: rest) a w:=
 wpList_load_mid hgd 61 x ho b (k*6) hx (onv (f k)) _ (hb.mid _ fun j u hu=>Za (QX hk) j u hu) underlying61 rfl zmc h
theorem zcO {rest:List Oper} {a:Act} {w:World} (hgd:o.guard=none) (x:Operand) (ho:o.op= .load 61 x) (b k:Nat) (hk:k<64) (hx:a.eval x= .pointer (some ⟨b,k*6,none⟩)) {f:Nat->On} (hb:Box w b (zz (tab f))) {v:Value} (hv: .agg (onv (f k)).toArray=v)
  (h:wpList prog ops Q rest (a.put o.dst v) w):wpList prog ops Q (o :: rest) a w:=zhI hgd x ho b k hk hx hb (by rw[hv];exact h)
theorem zlC:(Tryz.prog.info? 62).map (·.zero)=some (some (.agg (zz (tab fun _=>on0)).toArray)):=by kernel_rfl
theorem zay (w:World):(zeroValue 62).run prog w= .ok (.agg (zz (tab fun _=>on0)).toArray) w:=by
 have h:=zlC
 cases hq:Tryz.prog.info? 62 with
 | none=>simp[hq]at h
 | some i=>
  simp[hq]at h
  simp[zeroValue,typeInfo,hq,h]
def zln (f:Nat->On):Nat->Ar:=fun n=>JX n (f n)
def zgx (l:List Ar) (i:Nat) (a:Ar) (n:Nat):Nat->On:=fun j=>if a.fr<=(j:Int)/\(j:Int)< (n:Int)then qG a j else zJ (l.take i) j
theorem ZP.take:∀{l:List Ar} {p:Option Ar},ZP p l->∀i,ZP p (l.take i)
 | [],_,_,i=>by simp[ZP]
 | a :: l,p,h,0=>by simp[ZP]
 | a :: l,p,h,i+1=>⟨h.1,h.2.1,h.2.2.take i⟩
theorem ZP.free (h:ZP none l) {a:Ar} (ha:l[i]? =some a) (hj:a.fr<=(j:Int)):zJ (l.take i) j=on0:=by
 refine zaA fun x hx=>zcn ?_
 have h1:=h.take (i+1);rw[qi ha]at h1;obtain⟨c1,c2,c3⟩:=Jy.1 h1
 cases hl:Jn none (l.take i)with
 | none=>
  unfold Jn at hl
  cases hq:l.take i with
  | nil=>rw[hq]at hx;cases hx
  | cons y ys=>rw[hq]at hl;simp[List.getLast?_cons]at hl
 | some y=>
  have q:=(c3 y hl).1;have hy:ju y:=c1.all y (by
   unfold Jn at hl
   split at hl
   ·rename_i b hb
    cases hl;exact List.mem_of_getLast? hb
   cases hl)
  unfold ju at hy
  rcases zdN _ none c1 x hx y hl with e|e
  ·rw[e];omega
  omega
theorem zh5 {a:Ar} {n:Nat} (hn:(n:Int)=a.fr):zgx l i a n=zJ (l.take i):=by
 funext j
 unfold zgx;rw[if_neg (by omega)]
def zk8 (l:List Ar):Prop:=(∀a∈l,ju a)/\∀(i:Nat) a,l[i]? =some a->∀j:Nat,a.fr<=(j:Int)->zJ (l.take i) j=on0
theorem ZP.lies (h:ZP none l):zk8 l:=⟨h.all,fun _ _ ha _ hj=>h.free ha hj⟩
theorem zjF {b a:Ar} (hb:ju b) (ha:ju a) (hf:b.tz<=a.fr):zk8 [b,a]:=by
 refine⟨fun x hx=>?_,fun i x hx j hj=>?_⟩
 ·simp at hx
  rcases hx with rfl|rfl
  ·exact hb
  exact ha
 match i with
 | 0=>rfl
 | 1=>
  simp at hx
  subst hx
  show zJ [b] j=on0
  rw[zaz (.inr (by omega))]
  rfl
 | k+2=>simp at hx
theorem zjG {a:Ar} (ha:ju a):zk8 [a]:=by
 refine⟨fun x hx=>?_,fun i x hx j hj=>?_⟩
 ·simp at hx
  subst hx;exact ha
 match i with
 | 0=>rfl
 | k+1=>simp at hx
theorem zh6 {a:Ar} {n:Nat} (hn:a.fr<=(n:Int)):upd (zgx l i a n) n (qG a n)=zgx l i a (n+1):=by
 funext j
 unfold upd zgx
 by_cases e:j=n
 ·subst e;rw[if_pos rfl,if_pos (by omega)]
 rw[if_neg e]
 by_cases h:a.fr<=(j:Int)/\(j:Int)< (n:Int)
 ·rw[if_pos h,if_pos (by omega)]
 rw[if_neg h,if_neg (by omega)]
theorem zjA {a:Ar} {n:Nat} (h:zk8 l) (ha:l[i]? =some a) (hn:(n:Int)=a.tz):zgx l i a n=zJ (l.take (i+1)):=by
 funext j
 unfold zgx;rw[qi ha,Jl]
 ·by_cases h1:a.fr<=(j:Int)/\(j:Int)< (n:Int)
  ·rw[if_pos h1,if_pos (qe.2 (by omega))]
  rw[if_neg h1,if_neg (fun h2=>h1 (by have:=qe.1 h2;omega))]
 by_cases h1:a.fr<=(j:Int)
 ·exact .inl (h.2 i a ha j h1)
 exact .inr (zcn (by omega))
theorem zkz {α:Type} (f:Nat->α) (k:Nat) (x y:α):upd (upd f k x) k y=upd f k y:=by
 funext j
 unfold upd
 by_cases e:j=k
 ·rw[if_pos e,if_pos e]
 rw[if_neg e,if_neg e,if_neg e]
theorem jG (v:Value) (l:List Ar) (w:World) (hv:zr arE w v l) (hok:zk8 l):
  Calls prog 23 #[v] w fun e w'=>e= .returned (.agg (zz (tab (zJ l))).toArray)/\zc w w':=by
 have hbig:=hv.short;obtain⟨a,c,rfl,hrow⟩:=hv.ars;have HR:Hid (zaU w a l):=hrow;have HOK:Hid (zk8 l):=hok;clear hrow hv hok;have hz:=zay;obtain⟨Z0,HZ0⟩:∃Z0,Hid (zz (tab fun _=>on0)=Z0):=⟨_,rfl⟩
 rw[HZ0.out]at hz;have HZL:Hid (Z0.length=384):=dD<|by rw[<-HZ0.out,jl]
 obtain⟨C,HC⟩:∃C,Hid (zz (tab (zJ l))=C):=⟨_,rfl⟩;rw[HC.out];obtain⟨n,HN⟩:∃n,Hid (l.length=n):=⟨_,rfl⟩;rw[HN.out]at hbig⊢;obtain⟨W0,hW0⟩:∃W0,(w.alloc (.cells Z0.toArray 62)).alloc (.cells Z0.toArray 62)=W0:=⟨_,rfl⟩;have HG0:=gD2 hW0
 have Y0:Hid (Box W0 w.heap.size Z0):=dD<|by rw[<-hW0];exact(Box.top _ _ _ (by simp)).alloc _
 have L0:Hid (Box W0 (w.heap.size+1) (zz (tab (zJ (l.take 0))))):=dD<|by rw[<-hW0,List.take_zero,show zJ ([]:List Ar)=fun _=>on0 from rfl,HZ0.out];exact Box.top _ _ _ (by simp)
 have HW0:Hid (_=W0):=hW0;clear hW0
 go_enter func23,ntmps23
 go_upto_region 2 with fail;rw[HW0.out];clear hz;go_wp2
 go_loopg [9] n (fun gg s9 wr=>∃kk:Nat,kk<=n/\n - kk<=gg/\s9=I6 kk/\Hid (zc w wr)/\Hid (Box wr w.heap.size Z0)/\Hid (Box wr (w.heap.size+1) (zz (tab (zJ (l.take kk))))))
 case atStart=>exact⟨0,nZ _,by omega,rfl,HG0,Y0,L0⟩
 obtain⟨kk,hkk,hg,rfl,BW,YW,LW⟩:=hrel
 by_cases hlt:kk<n
 ·have hltz:(kk:Int)< (n:Int):=by omega
  obtain⟨q,HQ⟩:∃q,Hid (l[kk]? =some q):=⟨_,gE (by rw[HN.out];exact hlt)⟩
  obtain⟨ad,rfl,hl⟩:=HR.out kk q HQ.out;obtain⟨d0,d1,d2,d3,d4,d5,d6⟩:=hl wr BW.out;have HQK:Hid (ju q):=HOK.1 q (mG HQ);have hqb:0<=q.fr/\q.fr<q.tz/\q.tz<=64/\0<=q.base/\q.base<=12:=by
   have:=HQK.out;unfold ju at this
   rcases Int.lt_or_le q.file 0 with h|h
   ·omega
   omega
  obtain⟨hq1,hq2,hq3,hq4,hq5⟩:=hqb;obtain⟨p,HP⟩:∃p,Hid (wr.heap.size=p):=⟨_,rfl⟩;have HLP:Hid (w.heap.size+1<p):=dD<|by rw[<-HP.out];exact LW.lt
  clear hl;go_upto_region 5 with fail;obtain⟨W1,hW1⟩:∃W1,wr.alloc (.cells #[I6 q.fr,I6 q.tz,.bool q.rd,.bool q.wr,.bool q.sh,I6 q.file,I6 q.base] 114)=W1:=⟨_,rfl⟩;have G1:=gT hW1 BW
  have Y1:=yA hW1 YW
  obtain⟨f0,hf0⟩:∃f0:Nat,(f0:Int)=q.fr:=⟨q.fr.toNat,by omega⟩
  have L1:Hid (Box W1 (w.heap.size+1) (zz (tab (zgx l kk q f0)))):=dD<|by rw[<-hW1,zh5 hf0];exact LW.alloc _
  have P1:=xP hW1 HP
  rw[hW1,HP.out];clear hW1 d0 d1 d2 d3 d4 d5 d6;have p0:=P1.c 0 rfl;go_wp2
  go_loopg [6] (q.tz.toNat - f0) (fun g2 s6 wr2=>∃k2:Nat,f0<=k2/\(k2:Int)<=q.tz/\q.tz.toNat - k2<=g2/\s6=I6 k2/\Hid (zc w wr2)/\Hid (Box wr2 w.heap.size Z0)/\Hid (Box wr2 (w.heap.size+1) (zz (tab (zgx l kk q k2))))/\Hid (Box wr2 p [I6 q.fr,I6 q.tz,.bool q.rd,.bool q.wr,.bool q.sh,I6 q.file,I6 q.base]))
  case atStart=>exact⟨f0,nR _,by omega,by omega,by rw[hf0],G1,Y1,L1,P1⟩
  obtain⟨k2,hk2,hk2',hg2,rfl,BW2,YW2,LW2,PW2⟩:=hrel;clear p0;have p1:=PW2.c 1 rfl
  by_cases hlt2:(k2:Int)<q.tz
  ·have hi64:k2<64:=by omega
   have hi64z:(k2:Int)<64:=by omega
   have HST:Hid (upd (zgx l kk q k2) k2 (qG q k2)=zgx l kk q (k2+1)):=zh6 (l:=l) (i:=kk) (a:=q) (n:=k2) (by omega)
   have p2:=PW2.c 2 rfl;have p3:=PW2.c 3 rfl;have p4:=PW2.c 4 rfl;have p5:=PW2.c 5 rfl
   go_wp2_with (refine zcN rfl (.tmp 31) (.tmp 30) rfl (w.heap.size+1) k2 hi64 rfl ⟨true,q.rd,q.wr,q.sh,q.file,0⟩ rfl LW2.out ?_)
   intro W3 b3 g3 s3;have L3:Hid (Box W3 (w.heap.size+1) (zz (tab (upd (zgx l kk q k2) k2 ⟨true,q.rd,q.wr,q.sh,q.file,0⟩)))):=b3;have G3:Hid (zc w W3):=zd BW2 g3 (by simp)
   have Y3:Hid (Box W3 w.heap.size Z0):=YW2.beside g3 (by intro g hg;cases hg;simp)
   have P3:Hid (Box W3 p [I6 q.fr,I6 q.tz,.bool q.rd,.bool q.wr,.bool q.sh,I6 q.file,I6 q.base]):=PW2.beside g3 (by intro g hg;cases hg;have:=HLP.out;omega)
   clear b3 g3 s3 p1 p2 p3 p4 p5;have p5:=P3.c 5 rfl
   by_cases hfile:0<=q.file
   ·have HONE:Hid (qG q k2=⟨true,q.rd,q.wr,q.sh,q.file,q.base+(k2:Int) - q.fr⟩):=dD<|by
     unfold qG;rw[if_pos hfile]
     congr 1
     omega
    have p0:=P3.c 0 rfl;have p6:=P3.c 6 rfl;have l5:=L3.c (k2*6+5) (Za (QX hi64) 5 (I6 0) (by unfold upd;rw[if_pos rfl];rfl))
    have lf:=L3.f;go_upto_region 7 with fail;obtain⟨W4,hW4⟩:∃W4,W3.setCell ⟨w.heap.size+1,k2*6+5,none⟩ (I6 (q.base+(k2:Int) - q.fr))=W4:=⟨_,rfl⟩;have L4:Hid (Box W4 (w.heap.size+1) (zz (tab (zgx l kk q (k2+1))))):=dD<|by
     rw[<-hW4];have:=L3.onCell hi64 5 (I6 (q.base+(k2:Int) - q.fr)) (qG q k2) (by rw[HONE.out];unfold upd;rw[if_pos rfl];rfl) (by omega)
     rw[zkz,HST.out]at this;exact this
    have G4:Hid (zc w W4):=dD<|by rw[<-hW4];exact zu G3 (by simp) _
    have Y4:Hid (Box W4 w.heap.size Z0):=dD<|by rw[<-hW4];exact Y3.other (by simp) _
    have P4:Hid (Box W4 p [I6 q.fr,I6 q.tz,.bool q.rd,.bool q.wr,.bool q.sh,I6 q.file,I6 q.base]):=dD<|by rw[<-hW4];exact P3.other (by have:=HLP.out;simp;omega) _
    rw[hW4];clear hW4 l5 lf p0 p5 p6;go_wp2
    go_roundg (q.tz.toNat -(k2+1))
    case measure=>omega
    exact⟨k2+1,by omega,by omega,by omega,by go_num,G4,Y4,L4,P4⟩
   have HONE:Hid (qG q k2=⟨true,q.rd,q.wr,q.sh,q.file,0⟩):=dD<|by
    unfold qG;rw[if_neg hfile]
   have L4:Hid (Box W3 (w.heap.size+1) (zz (tab (zgx l kk q (k2+1))))):=dD<|by rw[<-HST.out,HONE.out];exact L3.out
   go_wp2
   go_roundg (q.tz.toNat -(k2+1))
   case measure=>omega
   exact⟨k2+1,by omega,by omega,by omega,by go_num,G3,Y3,L4,P3⟩
  have hke:(k2:Int)=q.tz:=by omega
  have LE:Hid (Box wr (w.heap.size+1) (zz (tab (zJ (l.take (kk+1)))))):=dD<|by rw[<-zjA HOK.out HQ.out hke];exact LW2.out
  go_wp2
  go_roundg (n -(kk+1))
  case measure=>omega
  exact⟨kk+1,by omega,by omega,by go_num,BW2,YW2,LE⟩
 have hltz:¬(kk:Int)< (n:Int):=by omega
 have:kk=n:=by omega
 subst this;have LE:Hid (Box wr (w.heap.size+1) C):=dD<|by rw[<-HC.out];have:=LW.out;rw[<-HN.out,List.take_length]at this;exact this
 have HFL:Hid (C.length=384):=dD<|by rw[<-HC.out,jl]
 have HFO:Hid (∀v∈C,v.oneCell'=true):=dD<|by rw[<-HC.out];exact QC _
 go_wp2_with (first | refine zO rfl 62 (.tmp 3) rfl (w.heap.size+1) rfl LE underlying62 rfl (by rw[HFL.out];exact zmd) ?_ | refine zy rfl 62 (.tmp 2) (.tmp 46) rfl w.heap.size rfl C rfl YW (by rw[HFL.out,HZL.out]) (by rw[HZL.out];exact zmd) HFO.out ?_)
 intro W3 b3 g3 s3;have G3:Hid (zc w W3):=dD<|zd BW g3 (by simp)
 have B3:Hid (Box W3 w.heap.size C):=b3;clear b3 g3 s3;go_wp2;refine bodyPost_ret (qd rfl _ rfl B3 underlying62 rfl (by rw[HFL.out];exact zmd)) rfl ⟨rfl,G3⟩
theorem zjs {f:Nat->On} {k:Nat} (h:(f k).is=true):zln f k=⟨k,(k:Int)+1,(f k).rd,(f k).wr,(f k).sh,(f k).file,(f k).page⟩:=by
 unfold zln JX;rw[if_pos h]
theorem zls (x y:On):zjw ⟨y.is,y.rd,y.wr,y.sh,y.file,if 0<=x.file then y.page+1 else y.page⟩ x=goJ x y:=by
 unfold zjw goJ;have hd:∀x y:Int,(x == y)=decide (x=y):=fun x y=>rfl
 simp only[hd]
theorem zbf (f:Nat->On) (w:World) (hg:zfq f):
  Calls prog 142 #[.agg (zz (tab f)).toArray] w fun e w'=>(∃v,e= .returned v/\zb arE (w.heap.size+1) w' v (j6 f))/\zc w w':=by
 have HGD:Hid (zfq f):=hg;clear hg;have HCL:Hid ((zz (tab f)).length=384):=jl _;obtain⟨W0,hW0⟩:∃W0,w.alloc (.cells (zz (tab f)).toArray 62)=W0:=⟨_,rfl⟩;have HG0:=gA hW0
 have X0:=xA hW0
 have HS0:=sA hW0
 have HW0:Hid (_=W0):=hW0;clear hW0
 go_enter func142,ntmps142
 go_upto_region 1 with fail;rw[HW0.out]
 go_wp2_with (refine zO rfl 62 (.tmp 1) rfl w.heap.size rfl X0 underlying62 rfl (by rw[HCL.out];exact zmd) ?_)
 go_loopg [3,9] 64 (fun gg s3 s9 wr=>∃(kk:Nat) (acc:List Ar) (xa:Option Addr) (xc:Nat),kk<=64/\64 - kk<=gg/\s9=I6 kk/\s3= .slice xa acc.length xc/\Hid (zc W0 wr)/\Hid (zb arE (w.heap.size+1) wr (.slice xa acc.length xc) acc)/\Hid (J f kk acc))
 case atStart=>exact⟨0,[],none,0,nZ _,by omega,rfl,rfl,zc.refl _,zb.nil _ _ _,J.zero f⟩
 obtain⟨kk,acc,xa,xc,hkk,hgg,rfl,rfl,BW,OW,JW⟩:=hrel
 by_cases hlt:kk<64
 ·have hltz:(kk:Int)<64:=by omega
  have HLEN:Hid (acc.length<=kk):=JW.len;have XW:=dD (X0.grew BW);obtain⟨p,HP⟩:∃p,Hid (wr.heap.size=p):=⟨_,rfl⟩;have HPW:Hid (wr.heap.size<=p):=show _<=_ by rw[HP.out];exact nR _
  cases hs:(f kk).is with
  | false=>
   have HIV:Hid (Value.agg (onv (f kk)).toArray= .agg #[.bool false,.bool (f kk).rd,.bool (f kk).wr,.bool (f kk).sh,I6 (f kk).file,I6 (f kk).page]):=dD<|by rw[<-hs];rfl
   have J2:Hid (J f (kk+1) acc):=JW.skip ((HGD kk hlt).1 hs);clear hs
   go_wp2_with (refine zbw rfl (.tmp 8) (.tmp 9) rfl f rfl kk rfl hlt HIV.out ?_)
   go_roundg (64 -(kk+1))
   case measure=>omega
   exact⟨kk+1,acc,xa,xc,by omega,by omega,by go_num,rfl,BW.trans (za _ _),OW.grew (za _ _),J2⟩
  | true=>
   have HS:Hid ((f kk).is=true):=hs;have HPF:Hid (JX kk (f kk)=⟨kk,(kk:Int)+1,(f kk).rd,(f kk).wr,(f kk).sh,(f kk).file,(f kk).page⟩):=zjs hs;have HNEW:Hid ((∀b,acc.getLast? =some b->goB (JX kk (f kk)) b=false)->J f (kk+1) (acc++ [JX kk (f kk)])):=fun h=>JW.new HGD hlt HS h
   have HEXT:Hid (∀i b,acc=i++ [b]->goB (JX kk (f kk)) b=true->J f (kk+1) (i++ [{ b with tz:=(kk:Int)+1 }])):=fun i b h1 h2=>by
    have:=JW.out;rw[h1]at this;exact this.ext HGD hlt HS h2
   have HIV:Hid (Value.agg (onv (f kk)).toArray= .agg #[.bool true,.bool (f kk).rd,.bool (f kk).wr,.bool (f kk).sh,I6 (f kk).file,I6 (f kk).page]):=dD<|by rw[<-hs];rfl
   clear hs;obtain⟨x,HX⟩:∃x,Hid (f kk=x):=⟨_,rfl⟩;rw[HX.out]at HIV;have HIV2:Hid (Value.agg (onv (f kk)).toArray= .agg #[.bool true,.bool x.rd,.bool x.wr,.bool x.sh,I6 x.file,I6 x.page]):=dD<|by rw[HX.out];exact HIV.out
   go_upto_region 5 with(refine zbw rfl (.tmp 8) (.tmp 9) rfl f rfl kk rfl hlt HIV2.out ?_)
   obtain⟨W1,hW1⟩:∃W1,wr.alloc (.cells #[.bool true,.bool x.rd,.bool x.wr,.bool x.sh,I6 x.file,I6 x.page] 61)=W1:=⟨_,rfl⟩;have G1:=gT hW1 BW
   have O1:Hid (zb arE (w.heap.size+1) W1 (.slice xa acc.length xc) acc):=dD<|by rw[<-hW1];exact OW.grew (za _ _)
   have P1:=xP hW1 HP
   have X1:=yA hW1 XW
   rw[hW1,HP.out];clear hW1;have p0:=P1.c 0 rfl
   cases kk with
   | zero=>
    have HNIL:Hid (acc=[]):=JW.first;have J2:Hid (J f (0+1) (acc++ [⟨((0:Nat):Int),((0:Nat):Int)+1,x.rd,x.wr,x.sh,x.file,x.page⟩])):=show J _ _ _ by
     have:=HNEW.out (fun b hb=>by rw[HNIL.out]at hb;cases hb)
     rw[HPF.out,HX.out]at this;exact this
    go_upto_region 14 with fail;clear p0;have HSZ:Hid (w.heap.size+1<=W1.heap.size):=dD<|by rw[<-HS0.out];exact bS G1.out
    have p1:=P1.c 1 rfl;have p2:=P1.c 2 rfl;have p3:=P1.c 3 rfl;have p4:=P1.c 4 rfl;have p5:=P1.c 5 rfl
    go_wp2_with (at_builtin;refine zD (E:=arE) rfl (.tmp 41) (.tmp 56) rfl (w.heap.size+1) _ acc rfl (O1.grew (za _ _)) _ [⟨((0:Nat):Int),((0:Nat):Int)+1,x.rd,x.wr,x.sh,x.file,x.page⟩] rfl (jY arE W1 ⟨((0:Nat):Int),((0:Nat):Int)+1,x.rd,x.wr,x.sh,x.file,x.page⟩ _ _ rfl (by show 40<=_;omega)) ?qb ?qc ?_)
    case qb=>
     show(acc.length+1)*40<=_
     have:=HLEN.out;omega
    case qc=>first | exact HSZ.out | exact nT HSZ (Nat.le_succ _) | (have:=HSZ.out;omega) | (simp;have:=HSZ.out;omega)
    intro vn Wn own grn;obtain⟨xan,xcn,rfl⟩:=own.form;have On':Hid (zb arE (w.heap.size+1) Wn (.slice xan (acc++ [(⟨((0:Nat):Int),((0:Nat):Int)+1,x.rd,x.wr,x.sh,x.file,x.page⟩:Ar)]).length xcn) (acc++ [⟨((0:Nat):Int),((0:Nat):Int)+1,x.rd,x.wr,x.sh,x.file,x.page⟩])):=own;have Gn:Hid (zc W0 Wn):=show zc _ _ from qm (G1.trans (za _ _)) grn (fun g hg=>by
     have h1:=(O1.lt g hg).1;rw[HS0.out];exact h1)
    have Xn:=dD (X0.grew Gn);clear own grn p1 p2 p3 p4 p5;go_wp2
    go_roundg (64 -(0+1))
    case measure=>omega
    exact⟨0+1,acc++ [(⟨((0:Nat):Int),((0:Nat):Int)+1,x.rd,x.wr,x.sh,x.file,x.page⟩:Ar)],xan,xcn,by omega,by omega,by go_num,rfl,Gn,On',J2⟩
   | succ j=>
    have hj64:j<64:=by omega
    have hj64z:(j:Int)<64:=by omega
    have hjz:(0:Int)< ((j+1:Nat):Int):=by omega
    have hj1:((j+1:Nat):Int) - 1=(j:Int):=by omega
    have HGO:=JW.go HS.out;obtain⟨y,HY⟩:∃y,Hid (f j=y):=⟨_,rfl⟩;have hyp:0<=y.page/\y.page<=12:=by
     rw[<-HY.out];have h1:=HGD.out j hj64
     cases hq:(f j).is with
     | false=>rw[h1.1 hq];exact⟨by decide,by decide⟩
     | true=>
      have h2:=h1.2 hq;unfold ju JX at h2;rw[if_pos hq]at h2;simp only at h2
      rcases Int.lt_or_le (f j).file 0 with h|h
      ·omega
      omega
    obtain⟨hy0,hy1⟩:=hyp;have HYV:Hid (Value.agg (onv (f j)).toArray= .agg #[.bool y.is,.bool y.rd,.bool y.wr,.bool y.sh,I6 y.file,I6 y.page]):=dD<|by rw[HY.out];rfl
    have HGJ:=zls x y;rw[HX.out,HY.out]at HGO;have HGO':Hid _:=HGO;obtain⟨p7,HP7⟩:∃p7,Hid (W1.heap.size=p7):=⟨_,rfl⟩;have HPP:Hid (p<p7):=dD<|by rw[<-HP7.out];exact P1.lt
    go_upto_region 9 with(refine zcO rfl (.tmp 20) rfl w.heap.size j hj64 rfl X1 HYV.out ?_)
    clear p0;obtain⟨W2,hW2⟩:∃W2,W1.alloc (.cells #[.bool y.is,.bool y.rd,.bool y.wr,.bool y.sh,I6 y.file,I6 y.page] 61)=W2:=⟨_,rfl⟩;have G2:=gT hW2 G1
    have O2:Hid (zb arE (w.heap.size+1) W2 (.slice xa acc.length xc) acc):=dD<|by rw[<-hW2];exact O1.grew (za _ _)
    have P2:=yA hW2 P1
    have Y2:=xPT hW2 HP7
    rw[hW2,HP7.out];clear hW2;have p4:=P2.c 4 rfl
    by_cases hfile:0<=x.file
    ·rw[if_pos hfile]at HGJ;have HQ:=fun W=>zlo y.is true y.rd x.rd y.wr x.wr y.sh x.sh y.file x.file (y.page+1) x.page W
     have HXT:Hid ((⟨true,x.rd,x.wr,x.sh,x.file,x.page⟩:On)=x):=dD<|by
      have h:=HS.out;rw[HX.out]at h;rw[<-h]
     rw[HXT.out,HGJ]at HQ;obtain⟨R,HR⟩:∃R,Hid (goJ x y=R):=⟨_,rfl⟩;rw[HR.out]at HQ HGO';have y5:=Y2.box.c 5 rfl;have yf:=Y2.box.f;go_upto_region 11 with fail;obtain⟨W3,hW3⟩:∃W3,W2.setCell ⟨p7,5,none⟩ (I6 (y.page+1))=W3:=⟨_,rfl⟩;have HW0P:Hid (W0.heap.size<=p7):=dD<|by have h1:=HPP.out;have h2:=bS BW.out;have h3:=HPW.out;omega
     have G3:Hid (zc W0 W3):=dD<|by rw[<-hW3];exact zu G2 HW0P.out _
     have O3:Hid (zb arE (w.heap.size+1) W3 (.slice xa acc.length xc) acc):=dD<|by rw[<-hW3];exact O2.setOther (fun g hg=>O2.ne Y2 (by decide) g hg) _
     have P3:Hid (Box W3 p [.bool true,.bool x.rd,.bool x.wr,.bool x.sh,I6 x.file,I6 x.page]):=dD<|by rw[<-hW3];exact P2.other (by have:=HPP.out;simp;omega) _
     have Y3:Hid (Box W3 p7 [.bool y.is,.bool y.rd,.bool y.wr,.bool y.sh,I6 y.file,I6 (y.page+1)]):=dD<|by rw[<-hW3];exact Y2.box.set 5 _
     rw[hW3];clear hW3 y5 yf p4
     cases R with
     | true=>
      obtain⟨b,hlast,hgb⟩:=HGO'.1 rfl;have hacc:=zfA hlast;obtain⟨ini,hini⟩:∃ini,acc.dropLast=ini:=⟨_,rfl⟩;rw[hini]at hacc;have HACC:Hid (acc=ini++ [b]):=hacc;have J2:Hid (J f (j+1+1) (ini++ [{ b with tz:=((j+1:Nat):Int)+1 }])):=HEXT.out ini b hacc (by rw[HX.out];exact hgb)
      obtain⟨m,HM⟩:∃m,Hid (ini.length=m):=⟨_,rfl⟩;have HAL:Hid (acc.length=m+1):=dD<|by rw[HACC.out,<-HM.out];simp
      have HBI:Hid (acc[m]? =some b):=dD<|by rw[HACC.out,<-HM.out];simp
      obtain⟨g,xc',hxe⟩:=O3.formS (by rw[HAL.out];omega)
      cases hxe;have hmm:((m+1:Nat):Int) - 1=(m:Int):=by omega
      have hm0:(0:Int)<=(m:Int):=by omega
      have hmlt:(m:Int)< ((m+1:Nat):Int):=by omega
      have hmk:m+1<=64:=by have:=HLEN.out;rw[HAL.out]at this;omega
      clear hlast hgb hacc hini;rw[HAL.out]at O3⊢;have HSET:Hid (acc.set m { b with tz:=((j+1:Nat):Int)+1 }=ini++ [{ b with tz:=((j+1:Nat):Int)+1 }]):=dD<|by rw[HACC.out,List.set_append_right _ _ (by rw[HM.out];exact nR _),HM,Nat.sub_self];rfl
      go_wp2_with (first | refine zO rfl 61 (.tmp 7) rfl p7 rfl Y3 underlying61 rfl zmc ?_ | refine zO rfl 61 (.tmp 5) rfl p rfl P3 underlying61 rfl zmc ?_ | refine zC (E:=arE) rfl (.tmp 40) (.tmp 38) 3 rfl (w.heap.size+1) (.slice (some ⟨g,0,none⟩) (m+1) xc) acc O3 g m 1 rfl b { b with tz:=((j+1:Nat):Int)+1 } HBI.out [I6 (((j+1:Nat):Int)+1)] (by kernel_rfl) rfl (Nat.le_of_ble_eq_true rfl) (by intro u hu;simp at hu;subst hu;rfl) _ rfl (by simp;rfl) _ rfl rfl ?_)
      intro W4 ow4 gr4 sz4;have HBG:=O3.lt g rfl;have G4:Hid (zc W0 W4):=dD<|zd G3 gr4 (by rw[HS0.out];exact HBG.1)
      have HL4:Hid ((ini++ [({ b with tz:=((j+1:Nat):Int)+1 }:Ar)]).length=m+1):=dD<|by simp[HM.out]
      have O4:Hid (zb arE (w.heap.size+1) W4 (.slice (some ⟨g,0,none⟩) (ini++ [({ b with tz:=((j+1:Nat):Int)+1 }:Ar)]).length xc) (ini++ [{ b with tz:=((j+1:Nat):Int)+1 }])):=dD<|by rw[HL4.out,<-HSET.out];exact ow4
      clear ow4 gr4 sz4;rw[<-HL4.out];go_wp2
      go_roundg (64 -(j+1+1))
      case measure=>omega
      exact⟨j+1+1,ini++ [({ b with tz:=((j+1:Nat):Int)+1 }:Ar)],some ⟨g,0,none⟩,xc,by omega,by omega,by go_num,rfl,G4,O4,J2⟩
     | false=>
      have J2:Hid (J f (j+1+1) (acc++ [⟨((j+1:Nat)),(((j+1:Nat)):Int)+1,x.rd,x.wr,x.sh,x.file,x.page⟩])):=dD<|by
       have:=HNEW.out (fun b hb=>by rw[HX.out];exact HGO'.2 rfl b hb)
       rw[HPF.out,HX.out]at this;exact this
      go_upto_region 14 with(first | refine zO rfl 61 (.tmp 7) rfl p7 rfl Y3 underlying61 rfl zmc ?_ | refine zO rfl 61 (.tmp 5) rfl p rfl P3 underlying61 rfl zmc ?_)
      have HSZ:Hid (w.heap.size+1<=W3.heap.size):=dD<|by rw[<-HS0.out];exact bS G3.out
      have p1:=P3.c 1 rfl;have p2:=P3.c 2 rfl;have p3:=P3.c 3 rfl;have p4:=P3.c 4 rfl;have p5:=P3.c 5 rfl
      go_wp2_with (at_builtin;refine zD (E:=arE) rfl (.tmp 41) (.tmp 56) rfl (w.heap.size+1) _ acc rfl (O3.grew (za _ _)) _ [⟨((j+1:Nat):Int),((j+1:Nat):Int)+1,x.rd,x.wr,x.sh,x.file,x.page⟩] rfl (jY arE W3 ⟨((j+1:Nat):Int),((j+1:Nat):Int)+1,x.rd,x.wr,x.sh,x.file,x.page⟩ _ _ rfl (by show 40<=_;omega)) ?qb ?qc ?_)
      case qb=>
       show(acc.length+1)*40<=_
       have:=HLEN.out;omega
      case qc=>first | exact HSZ.out | exact nT HSZ (Nat.le_succ _) | (have:=HSZ.out;omega) | (simp;have:=HSZ.out;omega)
      intro vn Wn own grn;obtain⟨xan,xcn,rfl⟩:=own.form;have On':Hid (zb arE (w.heap.size+1) Wn (.slice xan (acc++ [(⟨((j+1:Nat):Int),((j+1:Nat):Int)+1,x.rd,x.wr,x.sh,x.file,x.page⟩:Ar)]).length xcn) (acc++ [⟨((j+1:Nat):Int),((j+1:Nat):Int)+1,x.rd,x.wr,x.sh,x.file,x.page⟩])):=own;have Gn:Hid (zc W0 Wn):=show zc _ _ from qm (G3.trans (za _ _)) grn (fun g hg=>by
       have h1:=(O3.lt g hg).1;rw[HS0.out];exact h1)
      have Xn:=dD (X0.grew Gn);clear own grn p1 p2 p3 p4 p5;go_wp2
      go_roundg (64 -((j+1)+1))
      case measure=>omega
      exact⟨(j+1)+1,acc++ [(⟨((j+1:Nat):Int),((j+1:Nat):Int)+1,x.rd,x.wr,x.sh,x.file,x.page⟩:Ar)],xan,xcn,by omega,by omega,by go_num,rfl,Gn,On',J2⟩
    rw[if_neg hfile]at HGJ;have HQ:=fun W=>zlo y.is true y.rd x.rd y.wr x.wr y.sh x.sh y.file x.file y.page x.page W
    have HXT:Hid ((⟨true,x.rd,x.wr,x.sh,x.file,x.page⟩:On)=x):=dD<|by
     have h:=HS.out;rw[HX.out]at h;rw[<-h]
    rw[HXT.out,HGJ]at HQ;obtain⟨R,HR⟩:∃R,Hid (goJ x y=R):=⟨_,rfl⟩;rw[HR.out]at HQ HGO';go_upto_region 11 with fail;clear p4;have G3:Hid (zc W0 W2):=G2;have O3:Hid (zb arE (w.heap.size+1) W2 (.slice xa acc.length xc) acc):=O2;have P3:Hid (Box W2 p [.bool true,.bool x.rd,.bool x.wr,.bool x.sh,I6 x.file,I6 x.page]):=P2;have Y3:Hid (Box W2 p7 [.bool y.is,.bool y.rd,.bool y.wr,.bool y.sh,I6 y.file,I6 y.page]):=Y2.box;obtain⟨W3,hW3⟩:∃W3,W2=W3:=⟨_,rfl⟩;rw[hW3]at G3 O3 P3 Y3⊢;clear hW3
    cases R with
    | true=>
     obtain⟨b,hlast,hgb⟩:=HGO'.1 rfl;have hacc:=zfA hlast;obtain⟨ini,hini⟩:∃ini,acc.dropLast=ini:=⟨_,rfl⟩;rw[hini]at hacc;have HACC:Hid (acc=ini++ [b]):=hacc;have J2:Hid (J f (j+1+1) (ini++ [{ b with tz:=((j+1:Nat):Int)+1 }])):=HEXT.out ini b hacc (by rw[HX.out];exact hgb)
     obtain⟨m,HM⟩:∃m,Hid (ini.length=m):=⟨_,rfl⟩;have HAL:Hid (acc.length=m+1):=dD<|by rw[HACC.out,<-HM.out];simp
     have HBI:Hid (acc[m]? =some b):=dD<|by rw[HACC.out,<-HM.out];simp
     obtain⟨g,xc',hxe⟩:=O3.formS (by rw[HAL.out];omega)
     cases hxe;have hmm:((m+1:Nat):Int) - 1=(m:Int):=by omega
     have hm0:(0:Int)<=(m:Int):=by omega
     have hmlt:(m:Int)< ((m+1:Nat):Int):=by omega
     have hmk:m+1<=64:=by have:=HLEN.out;rw[HAL.out]at this;omega
     clear hlast hgb hacc hini;rw[HAL.out]at O3⊢;have HSET:Hid (acc.set m { b with tz:=((j+1:Nat):Int)+1 }=ini++ [{ b with tz:=((j+1:Nat):Int)+1 }]):=dD<|by rw[HACC.out,List.set_append_right _ _ (by rw[HM.out];exact nR _),HM,Nat.sub_self];rfl
     go_wp2_with (first | refine zO rfl 61 (.tmp 7) rfl p7 rfl Y3 underlying61 rfl zmc ?_ | refine zO rfl 61 (.tmp 5) rfl p rfl P3 underlying61 rfl zmc ?_ | refine zC (E:=arE) rfl (.tmp 40) (.tmp 38) 3 rfl (w.heap.size+1) (.slice (some ⟨g,0,none⟩) (m+1) xc) acc O3 g m 1 rfl b { b with tz:=((j+1:Nat):Int)+1 } HBI.out [I6 (((j+1:Nat):Int)+1)] (by kernel_rfl) rfl (Nat.le_of_ble_eq_true rfl) (by intro u hu;simp at hu;subst hu;rfl) _ rfl (by simp;rfl) _ rfl rfl ?_)
     intro W4 ow4 gr4 sz4;have HBG:=O3.lt g rfl;have G4:Hid (zc W0 W4):=dD<|zd G3 gr4 (by rw[HS0.out];exact HBG.1)
     have HL4:Hid ((ini++ [({ b with tz:=((j+1:Nat):Int)+1 }:Ar)]).length=m+1):=dD<|by simp[HM.out]
     have O4:Hid (zb arE (w.heap.size+1) W4 (.slice (some ⟨g,0,none⟩) (ini++ [({ b with tz:=((j+1:Nat):Int)+1 }:Ar)]).length xc) (ini++ [{ b with tz:=((j+1:Nat):Int)+1 }])):=dD<|by rw[HL4.out,<-HSET.out];exact ow4
     clear ow4 gr4 sz4;rw[<-HL4.out];go_wp2
     go_roundg (64 -(j+1+1))
     case measure=>omega
     exact⟨j+1+1,ini++ [({ b with tz:=((j+1:Nat):Int)+1 }:Ar)],some ⟨g,0,none⟩,xc,by omega,by omega,by go_num,rfl,G4,O4,J2⟩
    | false=>
     have J2:Hid (J f (j+1+1) (acc++ [⟨((j+1:Nat)),(((j+1:Nat)):Int)+1,x.rd,x.wr,x.sh,x.file,x.page⟩])):=dD<|by
      have:=HNEW.out (fun b hb=>by rw[HX.out];exact HGO'.2 rfl b hb)
      rw[HPF.out,HX.out]at this;exact this
     go_upto_region 14 with(first | refine zO rfl 61 (.tmp 7) rfl p7 rfl Y3 underlying61 rfl zmc ?_ | refine zO rfl 61 (.tmp 5) rfl p rfl P3 underlying61 rfl zmc ?_)
     have HSZ:Hid (w.heap.size+1<=W3.heap.size):=dD<|by rw[<-HS0.out];exact bS G3.out
     have p1:=P3.c 1 rfl;have p2:=P3.c 2 rfl;have p3:=P3.c 3 rfl;have p4:=P3.c 4 rfl;have p5:=P3.c 5 rfl
     go_wp2_with (at_builtin;refine zD (E:=arE) rfl (.tmp 41) (.tmp 56) rfl (w.heap.size+1) _ acc rfl (O3.grew (za _ _)) _ [⟨((j+1:Nat):Int),((j+1:Nat):Int)+1,x.rd,x.wr,x.sh,x.file,x.page⟩] rfl (jY arE W3 ⟨((j+1:Nat):Int),((j+1:Nat):Int)+1,x.rd,x.wr,x.sh,x.file,x.page⟩ _ _ rfl (by show 40<=_;omega)) ?qb ?qc ?_)
     case qb=>
      show(acc.length+1)*40<=_
      have:=HLEN.out;omega
     case qc=>first | exact HSZ.out | exact nT HSZ (Nat.le_succ _) | (have:=HSZ.out;omega) | (simp;have:=HSZ.out;omega)
     intro vn Wn own grn;obtain⟨xan,xcn,rfl⟩:=own.form;have On':Hid (zb arE (w.heap.size+1) Wn (.slice xan (acc++ [(⟨((j+1:Nat):Int),((j+1:Nat):Int)+1,x.rd,x.wr,x.sh,x.file,x.page⟩:Ar)]).length xcn) (acc++ [⟨((j+1:Nat):Int),((j+1:Nat):Int)+1,x.rd,x.wr,x.sh,x.file,x.page⟩])):=own;have Gn:Hid (zc W0 Wn):=show zc _ _ from qm (G3.trans (za _ _)) grn (fun g hg=>by
      have h1:=(O3.lt g hg).1;rw[HS0.out];exact h1)
     have Xn:=dD (X0.grew Gn);clear own grn p1 p2 p3 p4 p5;go_wp2
     go_roundg (64 -((j+1)+1))
     case measure=>omega
     exact⟨(j+1)+1,acc++ [(⟨((j+1:Nat):Int),((j+1:Nat):Int)+1,x.rd,x.wr,x.sh,x.file,x.page⟩:Ar)],xan,xcn,by omega,by omega,by go_num,rfl,Gn,On',J2⟩
 have hltz:¬(kk:Int)<64:=by omega
 have:kk=64:=by omega
 subst this;have HE:Hid (acc=j6 f):=JW.all HGD.out;have OE:Hid (zb arE (w.heap.size+1) wr (.slice xa acc.length xc) (j6 f)):=show zb _ _ _ _ _ by rw[<-HE.out];exact OW.out
 have GE:=dD (HG0.trans BW);go_wp2;go_ret;exact⟨⟨_,rfl,OE⟩,GE⟩
theorem zg6 (f:Nat->On) (w:World) (hg:zfq f):
  Calls prog 133 #[.agg (zz (tab f)).toArray] w fun e w'=>(∃u,e= .returned (.tuple #[u,I6 (zfn f).2])/\zb arE w.heap.size w' u (zfn f).1)/\zc w w':=by
 have HA:Hid (∀W,Calls prog 142 #[.agg (zz (tab f)).toArray] W fun e w'=>(∃v,e= .returned v/\zb arE (W.heap.size+1) w' v (j6 f))/\zc W w'):=fun W=>zbf f W hg
 have HFW:Hid (¬16< (j6 f).length->zfn f=(j6 f,0)):=fun h=>by unfold zfn;rw[if_neg h]
 have HFM:Hid (16< (j6 f).length->zfn f=([],4)):=fun h=>by unfold zfn;rw[if_pos h]
 have HJS:Hid ((j6 f).length<=64):=(zb5 hg).len;clear hg;obtain⟨FW,HFE⟩:∃FW,Hid (zfn f=FW):=⟨_,rfl⟩;simp only[HFE.out]at HFW HFM⊢;obtain⟨JL,HJL⟩:∃JL,Hid (j6 f=JL):=⟨_,rfl⟩;simp only[HJL.out]at HFW HFM HJS HA;have HCL:Hid ((zz (tab f)).length=384):=jl _
 generalize zz (tab f)=C at HA HCL⊢
 obtain⟨W0,hW0⟩:∃W0,w.alloc (.cells C.toArray 62)=W0:=⟨_,rfl⟩;have HG0:=gA hW0
 have X0:=xA hW0
 have HW0:Hid (_=W0):=hW0;clear hW0
 go_enter func133,ntmps133
 go_upto_region 1 with fail;rw[HW0.out]
 go_wp2_with (refine zO rfl 62 (.tmp 1) rfl w.heap.size rfl X0 underlying62 rfl (by rw[HCL.out];exact zmd) ?_)
 refine(HA W0).mono ?_;rintro e W5 ⟨⟨u,rfl,ow5⟩,g5⟩;obtain⟨xa,xc,rfl⟩:=ow5.form;have G5:=dD (HG0.trans g5);have O5:Hid (zb arE w.heap.size W5 (.slice xa JL.length xc) JL):=ow5.base (nT (bS HG0) (Nat.le_succ _));clear g5 ow5;obtain⟨m,HM⟩:∃m,Hid (JL.length=m):=⟨_,rfl⟩;rw[HM.out]at HFW HFM HJS O5⊢;have hm64:m<=64:=HJS.out
 by_cases hmany:16<m
 ·have hmz:(16:Int)< (m:Int):=by omega
  have HR:Hid (FW=([],4)):=HFM.out hmany;go_wp2;refine bodyPost_ret (results_tmp2 rfl _ _ _) rfl ?_;rw[HR.out];exact⟨⟨_,rfl,zb.nil _ _ _⟩,G5⟩
 have hmz:¬(16:Int)< (m:Int):=by omega
 have HR:Hid (FW=(JL,0)):=HFW.out hmany;go_wp2;refine bodyPost_ret (results_tmp2 rfl _ _ _) rfl ?_;rw[HR.out];exact⟨⟨_,rfl,O5⟩,G5⟩
theorem zjc {b a:Ar} (hb:ju b) (ha:ju a):zfq (zJ [b,a]):=fun k _=>⟨zdH,fun h1=>by
 obtain⟨i,c,h2,h3,h4⟩:=Qv h1;rw[h4];have:c=b\/c=a:=by simpa using mG h2
 rcases this with e|e <;> subst e
 ·exact JJ hb h3
 exact JJ ha h3⟩
theorem zkB {w:World} {ad:Addr} {n c:Nat} {b q:Ar} (h:zr arE w (.slice (some ad) n c) l) (hb:l[j]? =some b) (hq:l[j+1]? =some q):zr arE w (.slice (some (ad.add (j*7))) 2 (c - j)) [b,q]:=by
 obtain⟨⟨a',c',h1,h2,h3⟩,h4⟩:=h;cases h1;refine⟨⟨some (ad.add (j*7)),c - j,rfl,fun h=>(by cases h),fun x hx k u hu=>?_⟩,by show 2*40<=_;omega⟩
 cases hx;rw[zU];refine h3 ad rfl (j*7+k) u ?_;have hu':(arv b++arv q)[k]? =some u:=by simpa [arE]using hu
 by_cases hk:k<7
 ·rw[List.getElem?_append_left (by simpa [arv]using hk)]at hu'
  exact qL (enc:=arv) (k:=7) l j b (fun _ _=>rfl) hb k u hu'
 rw[aR (by simp[arv];omega)]at hu'
 have:=qL (enc:=arv) (k:=7) l (j+1) q (fun _ _=>rfl) hq (k - 7) u (by simpa [arv]using hu')
 rw[show(j+1)*7+(k - 7)=j*7+k by omega]at this
 exact this
theorem zg3 {w:World} {ad:Addr} {n c:Nat} (hj:j+2<=c):(Instr.sliceAt 50 (.slice (some ad) n c) (some (I6 (j:Int))) (some (I6 ((j:Int)+1+1))) none).run prog w= .ok (.slice (some (ad.add (j*7))) 2 (c - j)) w:=by
 have hs:(Go.sizeOf 114).run prog w= .ok 7 w:=by
  obtain⟨i0,h1,h2⟩:∃i0,Tryz.prog.info? 114=some i0/\i0.size=7:=by
   have:=zma
   cases hq:Tryz.prog.info? 114 with
   | none=>rw[hq]at this;cases this
   | some i0=>rw[hq]at this;exact⟨i0,rfl,by simpa using this⟩
  simp[Go.sizeOf,typeInfo,h1,h2]
 have h1:(0:Int)<=(j:Int)+1+1/\(j:Int)+1+1<=(c:Int):=by omega
 have h2:((j:Int)+1+1).toNat=j+2:=by omega
 have h3:(0:Int)<=(j:Int)/\(j:Int)<=((j+2:Nat):Int):=by omega
 have h4:¬c=j:=by omega
 simp only[Instr.sliceAt,Instr.slice,Instr.sliceBounds,Instr.sliceBound,asIntOf,Sem.run_bind,Sem.run_pure,rA,run_underlying underlying50];rw[if_pos h1];simp only[Sem.run_pure,rA,h2];rw[if_pos h3];simp only[Sem.run_pure,rA,hs,tN,if_neg h4,Option.map_some]
 congr 2
 omega
theorem JV (v:Value) (l:List Ar) (w:World) (hv:zr arE w v l) (hcap:Cap v):
  Calls prog 97 #[v] w fun e w'=>e= .returned (.agg #[I6 (wrL l).1,I6 (wrL l).2])/\zc w w':=by
 have hbig:=hv.short;obtain⟨a,c,rfl,hrow⟩:=hv.ars;have HR':Hid (zaU w a l):=hrow;have hwa:Hid (∀(q:Ar) W,Calls prog 132 #[.agg #[I6 q.fr,I6 q.tz,.bool q.rd,.bool q.wr,.bool q.sh,I6 q.file,I6 q.base]] W fun e w'=>e= .returned (I6 (arW q))/\zc W w'):=fun q W=>QZ q W
 have HV:Hid (zr arE w (.slice a l.length c) l):=hv;have hcp:l.length<=c:=hcap;have h1:Hid (∀(b q:Ar) v W,zr arE W v [b,q]->ju b->ju q->b.tz<=q.fr->Calls prog 23 #[v] W fun e w'=>e= .returned (.agg (zz (tab (zJ [b,q]))).toArray)/\zc W w'):=fun b q v W hv hb hq hf=>jG v [b,q] W hv (zjF hb hq hf)
 have h2:Hid (∀(b q:Ar) W,ju b->ju q->b.tz<=q.fr->Calls prog 142 #[.agg (zz (tab (zJ [b,q]))).toArray] W fun e w'=>(∃xa xc,e= .returned (.slice xa (j6 (zJ [b,q])).length xc))/\zc W w'):=fun b q W hb hq hf=>(zbf (zJ [b,q]) W (zjc hb hq)).mono (by
  rintro e w' ⟨⟨v,rfl,ow⟩,g⟩;obtain⟨xa,xc,rfl⟩:=ow.form;exact⟨⟨xa,xc,rfl⟩,g⟩)
 clear hrow hv hcap;have HST:Hid (¬16<l.length->JE (jU l 0) (l.drop 0) 0=wrL l):=zee;have HMA:Hid (16<l.length->wrL l=(4,0)):=fun h=>by unfold wrL;rw[if_pos h]
 have HEND:Hid (∀r,JE (jU l l.length) (l.drop l.length) l.length=r->r=(0,0)):=fun r=>zhE
 obtain⟨n,HN⟩:∃n,Hid (l.length=n):=⟨_,rfl⟩;rw[HN.out]at hbig hcp HV⊢;have HST':Hid (¬16<n->JE (jU l 0) (l.drop 0) 0=wrL l):=dD<|by rw[<-HN.out];exact HST.out
 have HMA':Hid (16<n->wrL l=(4,0)):=dD<|by rw[<-HN.out];exact HMA.out
 have HEND':Hid (∀r,JE (jU l n) (l.drop n) n=r->r=(0,0)):=dD<|by rw[<-HN.out];exact HEND.out
 skip
 generalize hA:wrL l=ANS at HST' HMA'⊢
 clear hA;obtain⟨W0,hW0⟩:∃W0,w.alloc (.cells #[I6 0,I6 0] 163)=W0:=⟨_,rfl⟩;have HG0:=gA hW0
 have X0:=xA hW0
 have HW0:Hid (_=W0):=hW0;clear hW0
 by_cases hmany:16<n
 ·have HR:Hid (ANS=(4,0)):=HMA'.out hmany;have hmz:(16:Int)< (n:Int):=by omega
  go_enter func97,ntmps97
  go_upto_region 1 with fail;rw[HW0.out];have f0:=X0.c 0 rfl;have f1:=X0.c 1 rfl;have ff:=X0.f;have RB:Hid (Box ((W0.setCell ⟨w.heap.size,0,none⟩ (I6 4)).setCell ⟨w.heap.size,1,none⟩ (I6 0)) w.heap.size [I6 4,I6 0]):=dD<|(X0.set 0 _).set 1 _
  have RG:Hid (zc w ((W0.setCell ⟨w.heap.size,0,none⟩ (I6 4)).setCell ⟨w.heap.size,1,none⟩ (I6 0))):=dD<|zu (zu HG0 (by simp) _) (by simp) _
  go_wp2;refine bodyPost_ret (qd (vs:=[I6 4,I6 0]) rfl _ rfl RB underlying163 rfl zmb) rfl ⟨?_,RG⟩;rw[HR.out]
 have hmz:¬(16:Int)< (n:Int):=by omega
 have HI:Hid (JE (jU l 0) (l.drop 0) 0=ANS):=HST'.out hmany
 go_enter func97,ntmps97
 go_upto_region 1 with fail;rw[HW0.out];go_wp2
 go_loopg [12] n (fun gg s12 wr=>∃kk:Nat,kk<=n/\n - kk<=gg/\s12=I6 kk/\Hid (zc w wr)/\Hid (Box wr w.heap.size [I6 0,I6 0])/\Hid (JE (jU l kk) (l.drop kk) kk=ANS)/\Hid (∀(j:Nat) q,j<kk->l[j]? =some q->ju q))
 case atStart=>exact⟨0,nZ _,by omega,rfl,HG0,X0,HI,fun j q hj=>absurd hj (nL _)⟩
 obtain⟨kk,hkk,hg,rfl,BW,FW,IW,OW⟩:=hrel
 by_cases hlt:kk<n
 ·have hltz:(kk:Int)< (n:Int):=by omega
  obtain⟨q,HQ⟩:∃q,Hid (l[kk]? =some q):=⟨_,gE (by rw[HN.out];exact hlt)⟩
  obtain⟨ad,rfl,hl⟩:=HR'.out kk q HQ.out;obtain⟨d0,d1,d2,d3,d4,d5,d6⟩:=hl wr BW.out;have HL:Hid (w.heap.size<wr.heap.size):=FW.lt;obtain⟨p,HP⟩:∃p,Hid (wr.heap.size=p):=⟨_,rfl⟩;have HLP:Hid (w.heap.size<p):=show _<_ by rw[<-HP.out];exact HL.out
  clear hl;go_upto_region 6 with fail;obtain⟨W1,hW1⟩:∃W1,wr.alloc (.cells #[I6 q.fr,I6 q.tz,.bool q.rd,.bool q.wr,.bool q.sh,I6 q.file,I6 q.base] 114)=W1:=⟨_,rfl⟩;have G1:=gT hW1 BW
  have F1:=yA hW1 FW
  have P1:=xP hW1 HP
  rw[hW1,HP.out];clear hW1 d0 d1 d2 d3 d4 d5 d6
  go_wp2_with (refine zO rfl 114 (.tmp 4) rfl p rfl P1 underlying114 rfl zma ?_)
  refine(hwa.out q _).mono ?_;rintro e W2 ⟨rfl,g2⟩;have G2:=dD (G1.trans g2);have F2:=dD (F1.grew g2);have P2:=dD (P1.grew g2);clear g2;have hpne:p≠w.heap.size:=by have:=HLP.out;omega
  have hpne':w.heap.size≠p:=by have:=HLP.out;omega
  by_cases hz:arW q=0
  ·have HZ:Hid (arW q=0):=hz;have hzb:(arW q != 0)=false:=by simp[hz]
   have HOK:Hid (ju q):=Zw.1 hz;have OW':Hid (∀(j:Nat) x,j<kk+1->l[j]? =some x->ju x):=show∀(j:Nat) x,_ from fun j x hj hx=>by
    by_cases e:j=kk
    ·subst e;rw[HQ.out]at hx;cases hx;exact HOK.out
    exact OW j x (by omega) hx
   clear hz;go_upto_region 9 with fail
   generalize arW q=zq
   cases kk with
   | zero=>
    have HNX:Hid (JE (jU l 1) (l.drop 1) 1=ANS):=zed IW HQ HZ.out;have hz0:¬(0:Int)< ((0:Nat):Int):=by decide
    have hz1:decide ((0:Int)< ((0:Nat):Int))=false:=by decide
    go_quiet (fail);go_wp2
    go_roundg (n - 1)
    case measure=>omega
    exact⟨1,by omega,by omega,by go_num,G2.trans (show Below _ _ _ from bD (bR _ _) _),F2.grew (show Below _ _ _ from bD (bR _ _) _),HNX,OW'⟩
   | succ j=>
    obtain⟨b,HB⟩:∃b,Hid (l[j]? =some b):=⟨_,gE (by rw[HN.out];omega)⟩
    have HBK:Hid (ju b):=OW.out j b (by omega) HB.out
    have hz0:(0:Int)< ((j+1:Nat):Int):=by omega
    have hz1:decide ((0:Int)< ((j+1:Nat):Int))=true:=by simp
    have hj1:((j+1:Nat):Int) - 1=(j:Int):=by omega
    have hjn:(j:Int)< (n:Int):=by omega
    obtain⟨ad',had,hl⟩:=HR'.out j b HB.out;obtain rfl:ad=ad':=by cases had;rfl
    by_cases hc:q.fr<b.tz
    ·have HR:Hid (ANS=(2,((j+1:Nat):Int))):=zbv IW HB HQ HZ (.inl hc);have hcd:decide (q.fr<b.tz)=true:=by simpa using hc
     obtain⟨e0,e1,e2,e3,e4,e5,e6⟩:=hl W2 G2.out;have p0:=P2.c 0 rfl;clear hl;go_quiet (fail);obtain⟨W3,hW3⟩:∃W3,W2.drewN nq=W3:=⟨_,rfl⟩;have G3:Hid (zc w W3):=dD<|by rw[<-hW3];exact G2.trans (show Below _ _ _ from bD (bR _ _) _)
     have F3:Hid (Box W3 w.heap.size [I6 0,I6 0]):=dD<|by rw[<-hW3];exact F2.grew (show Below _ _ _ from bD (bR _ _) _)
     rw[hW3];clear hW3 e0 e1 e2 e3 e4 e5 e6 p0;have f0:=F3.c 0 rfl;have f1:=F3.c 1 rfl;have ff:=F3.f;have RB:Hid (Box ((W3.setCell ⟨w.heap.size,0,none⟩ (I6 2)).setCell ⟨w.heap.size,1,none⟩ (I6 ((j+1:Nat):Int))) w.heap.size [I6 2,I6 ((j+1:Nat):Int)]):=dD<|(F3.set 0 _).set 1 _
     have RG:Hid (zc w ((W3.setCell ⟨w.heap.size,0,none⟩ (I6 2)).setCell ⟨w.heap.size,1,none⟩ (I6 ((j+1:Nat):Int)))):=dD<|zu (zu G3 (by simp) _) (by simp) _
     go_wp2;refine bodyPost_ret (qd (vs:=[I6 2,I6 ((j+1:Nat):Int)]) rfl _ rfl RB underlying163 rfl zmb) rfl ⟨?_,RG⟩;rw[HR.out]
    have hcd:decide (q.fr<b.tz)=false:=by simpa using hc
    have HC:Hid (¬q.fr<b.tz):=hc;have hx0:=P2.gw 0 rfl
    have hx1:=P2.gw 1 rfl
    have hx2:=P2.gw 2 rfl
    have hx3:=P2.gw 3 rfl
    have hx4:=P2.gw 4 rfl
    have hx5:=P2.gw 5 rfl
    have hx6:=P2.gw 6 rfl
    have hy0:∀y:zh W2,y.world.cell? (ad.add (j*7))=some (I6 b.fr):=fun y=>(hl _ (G2.trans y.grew)).1
    have hy1:∀y:zh W2,y.world.cell? { block:=(ad.add (j*7)).block,off:=(ad.add (j*7)).off+1 }=some (I6 b.tz):=fun y=>(hl _ (G2.trans y.grew)).2.1
    have hy2:∀y:zh W2,y.world.cell? { block:=(ad.add (j*7)).block,off:=(ad.add (j*7)).off+2 }=some (.bool b.rd):=fun y=>(hl _ (G2.trans y.grew)).2.2.1
    have hy3:∀y:zh W2,y.world.cell? { block:=(ad.add (j*7)).block,off:=(ad.add (j*7)).off+3 }=some (.bool b.wr):=fun y=>(hl _ (G2.trans y.grew)).2.2.2.1
    have hy4:∀y:zh W2,y.world.cell? { block:=(ad.add (j*7)).block,off:=(ad.add (j*7)).off+4 }=some (.bool b.sh):=fun y=>(hl _ (G2.trans y.grew)).2.2.2.2.1
    have hy5:∀y:zh W2,y.world.cell? { block:=(ad.add (j*7)).block,off:=(ad.add (j*7)).off+5 }=some (I6 b.file):=fun y=>(hl _ (G2.trans y.grew)).2.2.2.2.2.1
    have hy6:∀y:zh W2,y.world.cell? { block:=(ad.add (j*7)).block,off:=(ad.add (j*7)).off+6 }=some (I6 b.base):=fun y=>(hl _ (G2.trans y.grew)).2.2.2.2.2.2
    have hne:Nonempty (zh W2):=⟨⟨_,zc.refl _⟩⟩;have HSL:Hid (∀W,zc w W->zr arE W (.slice (some (ad.add (j*7))) 2 (c - j)) [b,q]):=fun W hW=>zkB (HV.grew hW) HB HQ.out
    have hsl:=fun W=>zg3 (w:=W) (ad:=ad) (n:=n) (c:=c) (j:=j) (by omega)
    obtain⟨M,HM⟩:∃M,Hid ((j6 (zJ [b,q])).length=M):=⟨_,rfl⟩;have HTG:Hid (decide (M<2)=goB q b):=dD<|by rw[<-HM.out];exact zlj HBK HOK (by have:=HC.out;omega)
    have HF2:Hid (b.tz<=q.fr):=dD<|by have:=HC.out;omega
    clear hl;obtain⟨O2,HO2⟩:∃O2,Hid (zz (tab (zJ [b,q]))=O2):=⟨_,rfl⟩;refine j4 [(19,⟨fun v=>v= .agg O2.toArray,fun _ _=>True⟩),(20,⟨fun v=>∃xa xc,v= .slice xa M xc,fun _ _=>True⟩)] qh (by kernel_rfl) ?_ ?_ ?_
    ·intro x hx
     simp at hx
     rcases hx with rfl|rfl
     ·exact⟨_,rfl⟩
     exact⟨.slice none M 0,none,0,rfl⟩
    ·intro x hx
     simp at hx
     rcases hx with rfl|rfl
     ·exact fun _ _ _ _ h=>h
     exact fun _ _ _ _ h=>h
    iterate 19 (refine zi rfl rfl rfl (fun K hK=>?_);go_big_quiet_op;refine hK _ ?_;clear hK)
    refine zK rfl rfl (fun w' hg hF=>?_) (fun v1 hv=>?_)
    ·refine zN.call [.slice (some (ad.add (j*7))) 2 (c - j)] rfl func23 rfl rfl rfl ?_;refine(h1.out b q _ w' (HSL w' (G2.trans hg)) HBK HOK HF2).mono ?_;rintro e w'' ⟨rfl,hg2⟩;exact⟨_,rfl,hg2,by rw[HO2.out],trivial⟩
    subst hv;simp only[Act.put,sB,sS,sZ];refine zK rfl rfl (fun w' hg hF=>?_) (fun v1 hv=>?_)
    ·refine zN.call [.agg O2.toArray] rfl func142 rfl rfl rfl ?_;rw[<-HO2.out];refine(h2.out b q w' HBK HOK HF2).mono ?_;rintro e w'' ⟨⟨xa,xc,rfl⟩,hg2⟩;exact⟨_,rfl,hg2,⟨xa,xc,by rw[HM.out]⟩,trivial⟩
    obtain⟨xa2,xc2,rfl⟩:=hv;simp only[Act.put,sB,sS,sZ];have hmz:decide ((M:Int)<2)=goB q b:=by rw[<-HTG.out];exact decide_eq_decide.2 (by omega)
    iterate 4 (refine zi rfl rfl rfl (fun K hK=>?_);go_big_quiet_op;refine hK _ ?_;clear hK)
    refine qF fun W3 hg1 hF=>?_
    have G3:=dD (G2.trans hg1);have F3:=dD (F2.grew hg1);clear hmz hsl hg1 hF hx0 hx1 hx2 hx3 hx4 hx5 hx6 hy0 hy1 hy2 hy3 hy4 hy5 hy6 hne
    cases hgb:goB q b with
    | true=>
     have HR:Hid (ANS=(2,((j+1:Nat):Int))):=zbv IW HB HQ HZ (.inr hgb);clear hgb;have f0:=F3.c 0 rfl;have f1:=F3.c 1 rfl;have ff:=F3.f;have RB:Hid (Box ((W3.setCell ⟨w.heap.size,0,none⟩ (I6 2)).setCell ⟨w.heap.size,1,none⟩ (I6 ((j+1:Nat):Int))) w.heap.size [I6 2,I6 ((j+1:Nat):Int)]):=show Box _ _ _ from(F3.set 0 _).set 1 _
     have RG:Hid (zc w ((W3.setCell ⟨w.heap.size,0,none⟩ (I6 2)).setCell ⟨w.heap.size,1,none⟩ (I6 ((j+1:Nat):Int)))):=dD<|zu (zu G3 (by simp) _) (by simp) _
     go_wp2;refine bodyPost_ret (qd (vs:=[I6 2,I6 ((j+1:Nat):Int)]) rfl _ rfl RB underlying163 rfl zmb) rfl ⟨?_,RG⟩;rw[HR.out]
    | false=>
     have HNX:Hid (JE (jU l (j+1+1)) (l.drop (j+1+1)) (j+1+1)=ANS):=zgi IW HB HQ HZ HC hgb;clear hgb;go_wp2
     go_roundg (n -(j+1+1))
     case measure=>omega
     exact⟨j+1+1,by omega,by omega,by go_num,G3,F3,HNX,OW'⟩
  have HR:Hid (ANS=(arW q,(kk:Int))):=zhF IW HQ hz;have hzb:(arW q != 0)=true:=by simp[hz]
  clear hz;have f0:=F2.c 0 rfl;have f1:=F2.c 1 rfl;have ff:=F2.f;have RB:Hid (Box ((W2.setCell ⟨w.heap.size,0,none⟩ (I6 (arW q))).setCell ⟨w.heap.size,1,none⟩ (I6 (kk:Int))) w.heap.size [I6 (arW q),I6 (kk:Int)]):=dD<|(F2.set 0 _).set 1 _
  have RG:Hid (zc w ((W2.setCell ⟨w.heap.size,0,none⟩ (I6 (arW q))).setCell ⟨w.heap.size,1,none⟩ (I6 (kk:Int)))):=dD<|zu (zu G2 (by simp) _) (by simp) _
  go_wp2;refine bodyPost_ret (qd (vs:=[I6 (arW q),I6 (kk:Int)]) rfl _ rfl RB underlying163 rfl zmb) rfl ⟨?_,RG⟩;rw[HR.out]
 have hltz:¬(kk:Int)< (n:Int):=by omega
 have:kk=n:=by omega
 subst this;have HR:Hid (ANS=(0,0)):=HEND'.out _ IW.out;have f0:=FW.c 0 rfl;have f1:=FW.c 1 rfl;have ff:=FW.f;have RB:Hid (Box ((wr.setCell ⟨w.heap.size,0,none⟩ (I6 0)).setCell ⟨w.heap.size,1,none⟩ (I6 0)) w.heap.size [I6 0,I6 0]):=show Box _ _ _ from(FW.set 0 _).set 1 _
 have RG:Hid (zc w ((wr.setCell ⟨w.heap.size,0,none⟩ (I6 0)).setCell ⟨w.heap.size,1,none⟩ (I6 0))):=dD<|zu (zu BW (by simp) _) (by simp) _
 go_wp2;refine bodyPost_ret (qd (vs:=[I6 0,I6 0]) rfl _ rfl RB underlying163 rfl zmb) rfl ⟨?_,RG⟩;rw[HR.out]
theorem zN.allocOnes {a:Act} {w:World} {K:Value->World->Prop} (ho:o.op= .alloc 62) (h:K (.pointer (some ⟨w.heap.size,0,none⟩)) (w.alloc (.cells (zz (tab fun _=>on0)).toArray 62))):zN prog o a w K:=by
 have hz:=zay w
 generalize zz (tab fun _=>on0)=Z at hz h
 unfold zN;have:(execOp a.eval o).run prog w= .ok (.value (.pointer (some ⟨w.heap.size,0,none⟩))) (w.alloc (.cells Z.toArray 62)):=by
  simp[execOp,ho,go_sem,hz]
 rw[this];exact h
theorem zN.oneArea {a:Act} {w:World} {K:Value->World->Prop} (x:Operand) (ho:o.op= .buildSlice 50 1 #[(0,x)]) (q:Ar) (hx:a.eval x=arA q) (h:K (.slice (some ⟨w.heap.size,0,none⟩) 1 1) (w.alloc (.cells (arv q).toArray 114))):zN prog o a w K:=by
 unfold zN;have:(execOp a.eval o).run prog w= .ok (.value (.slice (some ⟨w.heap.size,0,none⟩) 1 1)) (w.alloc (.cells (arv q).toArray 114)):=by
  simp only[execOp,ho,List.map_toArray,mP,List.map_nil,hx]
  simp[go_sem,arA,arv]
 rw[this];exact h
theorem zN.val {a:Act} {w:World} {K:Value->World->Prop} {v:Value} (hr:(execOp a.eval o).run prog w= .ok (.value v) w) (h:K v w):zN prog o a w K:=by
 unfold zN;rw[hr];exact h
theorem zhU {a:Act} (x:Operand) (ho:o.op= .load 114 x) (b:Nat) (hx:a.eval x= .pointer (some ⟨b,0,none⟩)) {q:Ar} {w:World} (hb:Box w b (arv q)):(execOp a.eval o).run prog w= .ok (.value (arA q)) w:=by
 have:=run_loadAt_mid (P:=prog) w b 0 114 (arv q) _ hb.range underlying114 rfl zma;simp only[execOp,ho,hx,Sem.run_bind,this,rA,Sem.run_pure];rfl
def zeM:List Oper:=[
 { dst := some 23, op := .move (.tmp 0), type := 50, pos := "ref.go:325", after := #[], guard := none },
 { dst := some 24, op := .call { callee := .value (.func 23), args := #[.tmp 23], argTypes := #[50] }, type := 62, pos := "ref.go:325", after := #[{ on := 0, ground := .data }], guard := none },
 { dst := some 25, op := .load 114 (.tmp 3), type := 114, pos := "ref.go:325", after := #[], guard := none },
 { dst := some 26, op := .buildSlice 50 1 #[(0, .tmp 25)], type := 50, pos := "ref.go:325", after := #[{ on := 2, ground := .data }], guard := none },
 { dst := some 27, op := .call { callee := .value (.func 23), args := #[.tmp 26], argTypes := #[50] }, type := 62, pos := "ref.go:325", after := #[{ on := 3, ground := .data }, { on := 1, ground := .chain }], guard := none },
 { dst := some 8, op := .alloc 62, type := 0, pos := "ref.go:325", after := #[], guard := none },
 { dst := some 9, op := .alloc 62, type := 0, pos := "ref.go:325", after := #[], guard := none },
 { dst := none, op := .store 62 (.tmp 8) (.tmp 24), type := 0, pos := "ref.go:325", after := #[{ on := 5, ground := .data }, { on := 1, ground := .data }, { on := 4, ground := .chain }, { on := 0, ground := .phase }, { on := 1, ground := .phase }, { on := 2, ground := .textOnly .lateStores }, { on := 3, ground := .textOnly .lateStores }, { on := 4, ground := .textOnly .lateStoresUnsure }, { on := 5, ground := .phase }, { on := 6, ground := .phase }], guard := none },
 { dst := none, op := .store 62 (.tmp 9) (.tmp 27), type := 0, pos := "ref.go:325", after := #[{ on := 6, ground := .data }, { on := 4, ground := .data }, { on := 7, ground := .chain }, { on := 0, ground := .phase }, { on := 1, ground := .phase }, { on := 2, ground := .phase }, { on := 3, ground := .phase }, { on := 4, ground := .phase }, { on := 5, ground := .phase }, { on := 6, ground := .phase }, { on := 7, ground := .phase }], guard := none }]
theorem zjB:∀l0 l1 l2 l3 l4 l5 l6:Bool,(Region.ready .any zeM.toArray #[l0,l1,l2,l3,l4,l5,l6,false,false]).isEmpty=false\/(l4=true/\(l1=false\/l3=false))\/(l1=true/\l0=false)\/(l3=true/\l2=false):=by decide+kernel
theorem zh9:∀l0 l1 l2 l3 l4 l5 l6:Bool,(!((!l1 || l0) &&(!l3 || l2) &&(!l4 || (l1 && l3))) || (Region.ready .any zeM.toArray #[l0,l1,l2,l3,l4,l5,l6,false,false]).all fun i=>(i == 0 && !l0) || (i == 1 && !l1 && l0) || (i == 2 && !l2) || (i == 3 && !l3 && l2) || (i == 4 && !l4 && l1 && l3) || (i == 5 && !l5) || (i == 6 && !l6) || (i == 7 && l0 && l1 && l2 && l3 && l4 && l5 && l6))=true:=by decide+kernel
theorem zjC (l0 l1 l2 l3 l4 l5 l6:Bool) (i:Nat) (c1:l1=true->l0=true) (c3:l3=true->l2=true) (c4:l4=true->l1=true/\l3=true) (hi:i∈Region.ready .any zeM.toArray #[l0,l1,l2,l3,l4,l5,l6,false,false]):(i=0/\l0=false)\/(i=1/\l1=false/\l0=true)\/(i=2/\l2=false)\/(i=3/\l3=false/\l2=true)\/(i=4/\l4=false/\l1=true/\l3=true)\/(i=5/\l5=false)\/(i=6/\l6=false)\/(i=7/\l0=true/\l1=true/\l2=true/\l3=true/\l4=true/\l5=true/\l6=true):=by
 have hc:((!l1 || l0) &&(!l3 || l2) &&(!l4 || (l1 && l3)))=true:=by
  cases l0 <;> cases l1 <;> cases l2 <;> cases l3 <;> cases l4 <;> simp at c1 c3 c4⊢
 have hb:=zh9 l0 l1 l2 l3 l4 l5 l6;rw[hc,Bool.not_true,Bool.false_or]at hb;have h:=List.all_eq_true.1 hb i hi
 simpa [and_assoc,or_assoc]using h
structure zgQ (W0:World) (v:Value) (q:Ar) (O1 O2 Z0:List Value) (l0 l1 l2 l3 l4 l5 l6:Bool) (t23 t24 t25 t26 t27 t8 t9:Value) (W:World):Prop where
 g:zc W0 W
 h0:l0=true->t23=v
 h1:l1=true->t24= .agg O1.toArray
 h2:l2=true->t25=arA q
 h3:l3=true->zr arE W t26 [q]
 h4:l4=true->t27= .agg O2.toArray
 h5:l5=true->∃b,t8= .pointer (some ⟨b,0,none⟩)/\Box W b Z0/\W0.heap.size<=b
 h6:l6=true->∃b,t9= .pointer (some ⟨b,0,none⟩)/\Box W b Z0/\W0.heap.size<=b
 ne:l5=true->l6=true->t8≠t9
 c1:l1=true->l0=true
 c3:l3=true->l2=true
 c4:l4=true->l1=true/\l3=true
section
variable{W0:World} {v:Value} {q:Ar} {O1 O2 Z0:List Value} {l0 l1 l2 l3 l4 l5 l6:Bool} {t23 t24 t25 t26 t27 t8 t9:Value} {W W':World}
theorem zgQ.grew (h:zgQ W0 v q O1 O2 Z0 l0 l1 l2 l3 l4 l5 l6 t23 t24 t25 t26 t27 t8 t9 W) (k:zc W W'):zgQ W0 v q O1 O2 Z0 l0 l1 l2 l3 l4 l5 l6 t23 t24 t25 t26 t27 t8 t9 W':=
 ⟨h.g.trans k,h.h0,h.h1,h.h2,fun e=>(h.h3 e).grew k,h.h4,fun e=>by obtain⟨b,x,y,z⟩:=h.h5 e;exact⟨b,x,y.grew k,z⟩,fun e=>by obtain⟨b,x,y,z⟩:=h.h6 e;exact⟨b,x,y.grew k,z⟩,h.ne,h.c1,h.c3,h.c4⟩
def Qk (l0 l1 l2 l3 l4 l5 l6:Bool):Nat:=(!l0).toNat+(!l1).toNat+(!l2).toNat+(!l3).toNat+(!l4).toNat+(!l5).toNat+(!l6).toNat
theorem zg9 {pa:Nat} (A:Value->Value->Value->Value->Value->Value->Value->Act)
  (e0:∀x23 x24 x25 x26 x27 x8 x9,(A x23 x24 x25 x26 x27 x8 x9).eval (.tmp 0)=v) (e3:∀x23 x24 x25 x26 x27 x8 x9,(A x23 x24 x25 x26 x27 x8 x9).eval (.tmp 3)= .pointer (some ⟨pa,0,none⟩))
  (e23:∀x23 x24 x25 x26 x27 x8 x9,(A x23 x24 x25 x26 x27 x8 x9).eval (.tmp 23)=x23) (e24:∀x23 x24 x25 x26 x27 x8 x9,(A x23 x24 x25 x26 x27 x8 x9).eval (.tmp 24)=x24) (e25:∀x23 x24 x25 x26 x27 x8 x9,(A x23 x24 x25 x26 x27 x8 x9).eval (.tmp 25)=x25) (e26:∀x23 x24 x25 x26 x27 x8 x9,(A x23 x24 x25 x26 x27 x8 x9).eval (.tmp 26)=x26) (e27:∀x23 x24 x25 x26 x27 x8 x9,(A x23 x24 x25 x26 x27 x8 x9).eval (.tmp 27)=x27) (e8:∀x23 x24 x25 x26 x27 x8 x9,(A x23 x24 x25 x26 x27 x8 x9).eval (.tmp 8)=x8) (e9:∀x23 x24 x25 x26 x27 x8 x9,(A x23 x24 x25 x26 x27 x8 x9).eval (.tmp 9)=x9)
  (p23:∀x23 x24 x25 x26 x27 x8 x9 y,(A x23 x24 x25 x26 x27 x8 x9).put (some 23) y=A y x24 x25 x26 x27 x8 x9) (p24:∀x23 x24 x25 x26 x27 x8 x9 y,(A x23 x24 x25 x26 x27 x8 x9).put (some 24) y=A x23 y x25 x26 x27 x8 x9) (p25:∀x23 x24 x25 x26 x27 x8 x9 y,(A x23 x24 x25 x26 x27 x8 x9).put (some 25) y=A x23 x24 y x26 x27 x8 x9) (p26:∀x23 x24 x25 x26 x27 x8 x9 y,(A x23 x24 x25 x26 x27 x8 x9).put (some 26) y=A x23 x24 x25 y x27 x8 x9) (p27:∀x23 x24 x25 x26 x27 x8 x9 y,(A x23 x24 x25 x26 x27 x8 x9).put (some 27) y=A x23 x24 x25 x26 y x8 x9) (p8:∀x23 x24 x25 x26 x27 x8 x9 y,(A x23 x24 x25 x26 x27 x8 x9).put (some 8) y=A x23 x24 x25 x26 x27 y x9) (p9:∀x23 x24 x25 x26 x27 x8 x9 y,(A x23 x24 x25 x26 x27 x8 x9).put (some 9) y=A x23 x24 x25 x26 x27 x8 y)
  (pn:∀x23 x24 x25 x26 x27 x8 x9 y,(A x23 x24 x25 x26 x27 x8 x9).put none y=A x23 x24 x25 x26 x27 x8 x9)
  (hv:zr arE W0 v l) (hl:zk8 l) (ha:ju q) (hb:Box W0 pa (arv q))
  (hQ:∀W b8 b9 x26,b8≠b9->zc W0 W->Box W b8 (zz (tab (zJ l)))->Box W b9 (zz (tab (zJ [q])))->W0.heap.size<=b8->W0.heap.size<=b9->Q .normal (A v (.agg (zz (tab (zJ l))).toArray) (arA q) x26 (.agg (zz (tab (zJ [q]))).toArray) (.pointer (some ⟨b8,0,none⟩)) (.pointer (some ⟨b9,0,none⟩))) W)
  (x23 x24 x25 x26 x27 x8 x9:Value):(Code.region id zeM.toArray true).wp prog Q (A x23 x24 x25 x26 x27 x8 x9) W0:=by
 have hO1:(zz (tab (zJ l))).length=384:=jl _;have hO2:(zz (tab (zJ [q]))).length=384:=jl _;have hZ:(zz (tab fun _=>on0)).length=384:=jl _
 have hc1:∀W,zc W0 W->Calls prog 23 #[v] W fun e w'=>e= .returned (.agg (zz (tab (zJ l))).toArray)/\zc W w':=fun W hW=>jG v l W (hv.grew hW) hl
 have hc2:∀W u,zr arE W u [q]->Calls prog 23 #[u] W fun e w'=>e= .returned (.agg (zz (tab (zJ [q]))).toArray)/\zc W w':=fun W u hu=>jG u [q] W hu (zjG ha)
 have hn1:=QC (tab (zJ l));have hn2:=QC (tab (zJ [q]));have hal:∀W:World,Box (W.alloc (.cells (zz (tab fun _=>on0)).toArray 62)) W.heap.size (zz (tab fun _=>on0)):=fun W=>Box.top _ _ _ rfl
 generalize zz (tab (zJ l))=O1 at*
 generalize zz (tab (zJ [q]))=O2 at*
 have main:∀(n:Nat) (l0 l1 l2 l3 l4 l5 l6:Bool) (x23 x24 x25 x26 x27 x8 x9:Value) (W:World),Qk l0 l1 l2 l3 l4 l5 l6=n->zgQ W0 v q O1 O2 (zz (tab fun _=>on0)) l0 l1 l2 l3 l4 l5 l6 x23 x24 x25 x26 x27 x8 x9 W->wpAnyH prog .any zeM.toArray Q (fun _=>True) (n+2) #[l0,l1,l2,l3,l4,l5,l6,false,false] (A x23 x24 x25 x26 x27 x8 x9) W:=by
  intro n
  induction n with
  | zero=>
   intro l0 l1 l2 l3 l4 l5 l6 x23 x24 x25 x26 x27 x8 x9 W hcnt inv;obtain⟨rfl,rfl,rfl,rfl,rfl,rfl,rfl⟩:l0=true/\l1=true/\l2=true/\l3=true/\l4=true/\l5=true/\l6=true:=by
    revert hcnt
    unfold Qk
    cases l0 <;> cases l1 <;> cases l2 <;> cases l3 <;> cases l4 <;> cases l5 <;> cases l6 <;> simp
   obtain⟨b8,rfl,hb8,hs8⟩:=inv.h5 rfl;obtain⟨b9,rfl,hb9,hs9⟩:=inv.h6 rfl;have hne:b8≠b9:=fun e=>inv.ne rfl rfl (by rw[e])
   obtain rfl:=inv.h0 rfl;obtain rfl:=inv.h1 rfl;obtain rfl:=inv.h2 rfl;obtain rfl:=inv.h4 rfl;refine wpAnyH_all (rs:=[7]) (by kernel_rfl) (by simp) ?_
   intro j hj;rw[List.mem_singleton]at hj;subst hj;refine jP none (fun _ w'=>Box w' b8 O1/\Box w' b9 (zz (tab fun _=>on0))/\zc W0 w') rfl rfl rfl (zN.storeAll 62 (.tmp 8) (.tmp 24) rfl b8 (e8 ..) O1 (e24 ..) hb8 (by rw[hO1,hZ]) (by rw[hZ];exact zmd) hn1 (fun w' b' g' s'=>⟨b',hb9.grown g' (fun e=>hne e.symm),zd inv.g g' hs8⟩)) ?_
   rintro y W1 ⟨h1,h2,h3⟩;rw[pn];refine⟨trivial,?_⟩;refine wpAnyH_all (rs:=[8]) (by kernel_rfl) (by simp) ?_
   intro j hj;rw[List.mem_singleton]at hj;subst hj;refine jP none (fun _ w'=>Box w' b8 O1/\Box w' b9 O2/\zc W0 w') rfl rfl rfl (zN.storeAll 62 (.tmp 9) (.tmp 27) rfl b9 (e9 ..) O2 (e27 ..) h2 (by rw[hO2,hZ]) (by rw[hZ];exact zmd) hn2 (fun w' b' g' s'=>⟨h1.grown g' hne,b',zd h3 g' hs9⟩)) ?_
   rintro y W2 ⟨h4,h5,h6⟩;rw[pn];refine⟨trivial,?_⟩;exact wpAnyH_done (by kernel_rfl) (hQ W2 b8 b9 _ hne h6 h4 h5 hs8 hs9) _
  | succ n ih=>
   intro l0 l1 l2 l3 l4 l5 l6 x23 x24 x25 x26 x27 x8 x9 W hcnt inv;refine⟨fun h0=>?_,fun i hi=>?_⟩
   ·rcases zjB l0 l1 l2 l3 l4 l5 l6 with h|⟨h,h'⟩|⟨h,h'⟩|⟨h,h'⟩
    ·rw[h0]at h;cases h
    ·have:=inv.c4 h
     rcases h' with h' | h'
     ·rw[this.1]at h';cases h'
     rw[this.2]at h';cases h'
    ·rw[inv.c1 h]at h';cases h'
    rw[inv.c3 h]at h';cases h'
   rcases zjC l0 l1 l2 l3 l4 l5 l6 i inv.c1 inv.c3 inv.c4 hi with⟨rfl,rfl⟩|⟨rfl,rfl,rfl⟩|⟨rfl,rfl⟩|⟨rfl,rfl,rfl⟩|⟨rfl,rfl,rfl,rfl⟩|⟨rfl,rfl⟩|⟨rfl,rfl⟩|⟨rfl,rfl,rfl,rfl,rfl,rfl,rfl,rfl⟩
   ·refine jP (some 23) (fun y w'=>y=v/\w'=W) rfl rfl rfl (zN.val (v:=v) (by rw[<-e0 x23 x24 x25 x26 x27 x8 x9];rfl) ⟨rfl,rfl⟩) ?_
    rintro y w' ⟨rfl,rfl⟩;rw[p23];refine⟨trivial,ih true l1 l2 l3 l4 l5 l6 _ _ _ _ _ _ _ _ (by unfold Qk at hcnt⊢;simp at hcnt⊢;omega) ⟨inv.g,fun _=>rfl,inv.h1,inv.h2,inv.h3,inv.h4,inv.h5,inv.h6,inv.ne,fun _=>rfl,inv.c3,inv.c4⟩⟩
   ·refine jP (some 24) (fun y w'=>y= .agg O1.toArray/\zc W w') rfl rfl rfl (zN.call [v] rfl func23 rfl rfl (by rw[mP,List.map_nil,e23,inv.h0 rfl]) ((hc1 W inv.g).mono (fun e w' h=>⟨_,h.1,rfl,h.2⟩))) ?_
    rintro y w' ⟨rfl,hg⟩;rw[p24];have inv':=inv.grew hg;refine⟨trivial,ih true true l2 l3 l4 l5 l6 _ _ _ _ _ _ _ _ (by unfold Qk at hcnt⊢;simp at hcnt⊢;omega) ⟨inv'.g,inv'.h0,fun _=>rfl,inv'.h2,inv'.h3,inv'.h4,inv'.h5,inv'.h6,inv'.ne,fun _=>rfl,inv'.c3,fun h=>⟨rfl,(inv'.c4 h).2⟩⟩⟩
   ·refine jP (some 25) (fun y w'=>y=arA q/\w'=W) rfl rfl rfl (zN.val (v:=arA q) (zhU (.tmp 3) rfl pa (e3 ..) (hb.grew inv.g)) ⟨rfl,rfl⟩) ?_
    rintro y w' ⟨rfl,rfl⟩;rw[p25];refine⟨trivial,ih l0 l1 true l3 l4 l5 l6 _ _ _ _ _ _ _ _ (by unfold Qk at hcnt⊢;simp at hcnt⊢;omega) ⟨inv.g,inv.h0,inv.h1,fun _=>rfl,inv.h3,inv.h4,inv.h5,inv.h6,inv.ne,inv.c1,fun _=>rfl,inv.c4⟩⟩
   ·refine jP (some 26) (fun y w'=>zr arE w' y [q]/\zc W w') rfl rfl rfl (zN.oneArea (.tmp 25) rfl q (by rw[e25,inv.h2 rfl]) ⟨jY arE W q _ _ rfl (by show 40<=_;omega),za _ _⟩) ?_
    rintro y w' ⟨hr,hg⟩;rw[p26];have inv':=inv.grew hg;refine⟨trivial,ih l0 l1 true true l4 l5 l6 _ _ _ _ _ _ _ _ (by unfold Qk at hcnt⊢;simp at hcnt⊢;omega) ⟨inv'.g,inv'.h0,inv'.h1,inv'.h2,fun _=>hr,inv'.h4,inv'.h5,inv'.h6,inv'.ne,inv'.c1,fun _=>rfl,fun h=>⟨(inv'.c4 h).1,rfl⟩⟩⟩
   ·refine jP (some 27) (fun y w'=>y= .agg O2.toArray/\zc W w') rfl rfl rfl (zN.call [x26] rfl func23 rfl rfl (by rw[mP,List.map_nil,e26]) ((hc2 W x26 (inv.h3 rfl)).mono (fun e w' h=>⟨_,h.1,rfl,h.2⟩))) ?_
    rintro y w' ⟨rfl,hg⟩;rw[p27];have inv':=inv.grew hg;refine⟨trivial,ih l0 true l2 true true l5 l6 _ _ _ _ _ _ _ _ (by unfold Qk at hcnt⊢;simp at hcnt⊢;omega) ⟨inv'.g,inv'.h0,inv'.h1,inv'.h2,inv'.h3,fun _=>rfl,inv'.h5,inv'.h6,inv'.ne,inv'.c1,inv'.c3,fun _=>⟨rfl,rfl⟩⟩⟩
   ·refine jP (some 8) (fun y w'=>y= .pointer (some ⟨W.heap.size,0,none⟩)/\Box w' W.heap.size (zz (tab fun _=>on0))/\zc W w') rfl rfl rfl (zN.allocOnes rfl ⟨rfl,hal W,za _ _⟩) ?_
    rintro y w' ⟨rfl,hbx,hg⟩;rw[p8];have inv':=inv.grew hg;refine⟨trivial,ih l0 l1 l2 l3 l4 true l6 _ _ _ _ _ _ _ _ (by unfold Qk at hcnt⊢;simp at hcnt⊢;omega) ⟨inv'.g,inv'.h0,inv'.h1,inv'.h2,inv'.h3,inv'.h4,fun _=>⟨_,rfl,hbx,bS inv.g⟩,inv'.h6,fun _ h6=>?_,inv'.c1,inv'.c3,inv'.c4⟩⟩
    obtain⟨b,rfl,h2,_⟩:=inv.h6 h6;intro e;cases e;exact absurd h2.lt (Nat.lt_irrefl _)
   ·refine jP (some 9) (fun y w'=>y= .pointer (some ⟨W.heap.size,0,none⟩)/\Box w' W.heap.size (zz (tab fun _=>on0))/\zc W w') rfl rfl rfl (zN.allocOnes rfl ⟨rfl,hal W,za _ _⟩) ?_
    rintro y w' ⟨rfl,hbx,hg⟩;rw[p9];have inv':=inv.grew hg;refine⟨trivial,ih l0 l1 l2 l3 l4 l5 true _ _ _ _ _ _ _ _ (by unfold Qk at hcnt⊢;simp at hcnt⊢;omega) ⟨inv'.g,inv'.h0,inv'.h1,inv'.h2,inv'.h3,inv'.h4,inv'.h5,fun _=>⟨_,rfl,hbx,bS inv.g⟩,fun h5 _=>?_,inv'.c1,inv'.c3,inv'.c4⟩⟩
    obtain⟨b,rfl,h2,_⟩:=inv.h5 h5;intro e;cases e;exact absurd h2.lt (Nat.lt_irrefl _)
   unfold Qk at hcnt
   simp at hcnt
 refine wp_region_held (S:=fun _=>True) qh ?_
 have hd:zc W0 { W0 with drawn:=W0.drawn+1 }:=show Below _ _ _ from Below.drew (bR _ _)
 exact main 7 false false false false false false false x23 x24 x25 x26 x27 x8 x9 _ rfl ⟨hd,fun h=>(by cases h),fun h=>(by cases h),fun h=>(by cases h),fun h=>(by cases h),fun h=>(by cases h),fun h=>(by cases h),fun h=>(by cases h),fun h=>(by cases h),fun h=>(by cases h),fun h=>(by cases h),fun h=>(by cases h)⟩
end
def zlM (R:List Ar × Int) (w:World) (e:Ending) (w':World):Prop:=(∃u,e= .returned (.tuple #[u,I6 R.2])/\zb arE w.heap.size w' u R.1)/\zc w w'
def zc4 (l:List Ar) (a:Ar) (k:Nat):Nat->On:=fun j=>if j<k/\ZO a j=true then qG a j else zJ l j
theorem zj5 (l:List Ar) (a:Ar):zc4 l a 0=zJ l:=by
 funext j
 unfold zc4;rw[if_neg (by omega)]
theorem zlv (l:List Ar) (a:Ar) (k:Nat):zc4 l a k k=zJ l k:=by
 unfold zc4;rw[if_neg (by omega)]
theorem zkZ {a:Ar} {k:Nat} (h:ZO a k=true):upd (zc4 l a k) k (qG a k)=zc4 l a (k+1):=by
 funext j
 unfold upd zc4
 by_cases e:j=k
 ·subst e;rw[if_pos rfl,if_pos ⟨by omega,h⟩]
 rw[if_neg e]
 by_cases h1:j<k/\ZO a j=true
 ·rw[if_pos h1,if_pos ⟨by omega,h1.2⟩]
 rw[if_neg h1,if_neg (fun h2=>h1 ⟨by omega,h2.2⟩)]
theorem zj6 {a:Ar} {k:Nat} (h:ZO a k=false):zc4 l a k=zc4 l a (k+1):=by
 funext j
 unfold zc4
 by_cases h1:j<k/\ZO a j=true
 ·rw[if_pos h1,if_pos ⟨by omega,h1.2⟩]
 rw[if_neg h1]
 by_cases h2:j<k+1/\ZO a j=true
 ·have:j=k:=by
   rcases Nat.lt_or_ge j k with h3|h3
   ·exact absurd ⟨h3,h2.2⟩ h1
   omega
  rw[this,h]at h2
  cases h2.2
 rw[if_neg h2]
theorem zk0 (l:List Ar) (a:Ar):tab (zc4 l a 64)=tab (zfm l a):=zkA fun k hk=>by
 unfold zc4 zfm
 by_cases h:ZO a k=true
 ·rw[if_pos ⟨hk,h⟩,if_pos h]
 rw[if_neg (fun h1=>h h1.2),if_neg h]
theorem zke (a:Ar) (k:Nat):zJ [a] k=if ZO a k=true then qG a k else on0:=rfl
theorem zh4 (a:Ar) (k:Nat):(zJ [a] k).is=ZO a k:=by
 rw[zke]
 cases h:ZO a k with
 | true=>rfl
 | false=>rfl
theorem zlr {a:Ar} {k:Nat} (hk:k<64) (h:ZO a k=true) (h':(zJ l k).is=true):zi4 l a.fr (a.tz - a.fr)=true:=zjM.2 ⟨k,hk,by have:=qe.1 h;omega,h'⟩
theorem zjL {a:Ar} (h:∀k,k<64->ZO a k=true->(zJ l k).is=false):zi4 l a.fr (a.tz - a.fr)=false:=zkO.2 fun k hk hw=>h k hk (qe.2 (by omega))
theorem zcS (v:Value) (l:List Ar) (a:Ar) (w:World) (hv:zr arE w v l) (hcap:Cap v):
  Calls prog 86 #[v,.agg #[I6 a.fr,I6 a.tz,.bool a.rd,.bool a.wr,.bool a.sh,I6 a.file,I6 a.base]] w (zlM (zan l a) w):=by
 have HV:Hid (zr arE w v l):=hv;have HW:Hid (∀W,zc w W->Calls prog 97 #[v] W fun e w'=>e= .returned (.agg #[I6 (wrL l).1,I6 (wrL l).2])/\zc W w'):=fun W hW=>JV v l W (HV.grew hW) hcap
 have HWA:Hid (∀W,Calls prog 132 #[.agg #[I6 a.fr,I6 a.tz,.bool a.rd,.bool a.wr,.bool a.sh,I6 a.file,I6 a.base]] W fun e w'=>e= .returned (I6 (arW a))/\zc W w'):=fun W=>QZ a W
 clear hv hcap;obtain⟨W0,hW0⟩:∃W0,w.alloc (.cells #[I6 a.fr,I6 a.tz,.bool a.rd,.bool a.wr,.bool a.sh,I6 a.file,I6 a.base] 114)=W0:=⟨_,rfl⟩;have G0:=gA hW0
 have X0:=xA hW0
 have HW0:Hid (_=W0):=hW0;clear hW0
 by_cases hz:(wrL l).1=0
 ·rw[hz]at HW
  generalize(wrL l).2=I at HW
  by_cases hza:arW a=0
  ·rw[hza]at HWA;have HL:Hid (l.length<=16/\ZP none l):=jD.1 hz;have HA:Hid (ju a):=Zw.1 hza;have HR0:Hid (zan l a=if zi4 l a.fr (a.tz - a.fr)=true then([],6)else zfn (zfm l a)):=show _=_ by unfold zan;rw[if_neg (fun h=>h hz),if_neg (fun h=>h hza)]
   have HFEW:Hid (∀W,Calls prog 133 #[.agg (zz (tab (zc4 l a 64))).toArray] W fun e w'=>(∃u,e= .returned (.tuple #[u,I6 (zfn (zfm l a)).2])/\zb arE W.heap.size w' u (zfn (zfm l a)).1)/\zc W w'):=fun W=>by
    rw[zk0];exact zg6 (zfm l a) W (zaE HL.2 HA)
   clear hz hza
   go_enter func86,ntmps86
   go_upto_region 1 with fail;rw[HW0.out];go_wp2_with fail;refine(HW W0 G0).mono ?_;rintro e W1 ⟨rfl,g⟩;have G1:=dD (G0.trans g);have X1:=dD (X0.grew g);clear g;obtain⟨pf,HPF⟩:∃pf,Hid (W1.heap.size=pf):=⟨_,rfl⟩;go_upto_region 2 with fail;obtain⟨W2,hWf⟩:∃W2,W1.alloc (.cells #[I6 0,I6 I] 163)=W2:=⟨_,rfl⟩;have G2:=gT hWf G1
   have F2:=xP hWf HPF
   have X2:=yA hWf X1
   rw[hWf,HPF.out];clear hWf;have f0:=F2.c 0 rfl
   go_wp2_with (refine zO rfl 114 (.tmp 3) rfl w.heap.size rfl X2 underlying114 rfl zma ?_)
   refine(HWA W2).mono ?_;rintro e W3 ⟨rfl,g⟩;have G3:=dD (G2.trans g);have X3:=dD (X2.grew g);clear g f0;go_upto_region 7 with fail;refine zg9 (v:=v) (q:=a) (pa:=w.heap.size) (l:=l) (fun x23 x24 x25 x26 x27 x8 x9=>⟨#[_,_,_,_,_,_,_,_,x8,x9,_,_,_,_,_,_,_,_,_,_,_,_,_,x23,x24,x25,x26,x27,_,_,_,_,_,_,_,_,_,_,_,_,_,_,_,_,_,_,_,_,_,_,_,_,_,_,_],[]⟩) (fun _ _ _ _ _ _ _=>rfl) (fun _ _ _ _ _ _ _=>rfl) (fun _ _ _ _ _ _ _=>rfl) (fun _ _ _ _ _ _ _=>rfl) (fun _ _ _ _ _ _ _=>rfl) (fun _ _ _ _ _ _ _=>rfl) (fun _ _ _ _ _ _ _=>rfl) (fun _ _ _ _ _ _ _=>rfl) (fun _ _ _ _ _ _ _=>rfl) (fun _ _ _ _ _ _ _ _=>rfl) (fun _ _ _ _ _ _ _ _=>rfl) (fun _ _ _ _ _ _ _ _=>rfl) (fun _ _ _ _ _ _ _ _=>rfl) (fun _ _ _ _ _ _ _ _=>rfl) (fun _ _ _ _ _ _ _ _=>rfl) (fun _ _ _ _ _ _ _ _=>rfl) (fun _ _ _ _ _ _ _ _=>rfl) (HV.grew G3) HL.2.lies HA X3.out ?_ _ _ _ _ _ _ _
   intro W4 b8 b9 x26 hbne g4 hb8 hb9 hs8 hs9;have G4:=dD (G3.trans g4);have B8:Hid (Box W4 b8 (zz (tab (zc4 l a 0)))):=show Box _ _ _ by rw[zj5];exact hb8
   have B9:Hid (Box W4 b9 (zz (tab (zJ [a])))):=hb9;have HS8:Hid (w.heap.size<=b8):=nT (bS G3) hs8;have hbne':b9≠b8:=fun e=>hbne e.symm
   have HNE:Hid (b9≠b8):=hbne';clear g4 hb8 hb9 hs8 hs9;go_wp2
   go_loopg [28] 64 (fun gg s28 wr=>∃kk:Nat,kk<=64/\64 - kk<=gg/\s28=I6 kk/\Hid (zc w wr)/\Hid (Box wr b8 (zz (tab (zc4 l a kk))))/\Hid (Box wr b9 (zz (tab (zJ [a]))))/\Hid (∀j:Nat,j<kk->ZO a j=true->(zJ l j).is=false))
   case atStart=>exact⟨0,nZ _,by omega,rfl,G4,B8,B9,fun j hj=>absurd hj (nL _)⟩
   obtain⟨kk,hkk,hg,rfl,BW,LW,RW,HH⟩:=hrel
   by_cases hlt:kk<64
   ·have hltz:(kk:Int)<64:=by omega
    have d8:=LW.c (kk*6) (Za (QX hlt) 0 (.bool (zJ l kk).is) (by rw[zlv];rfl))
    have d9:=RW.c (kk*6) (Za (QX hlt) 0 (.bool (ZO a kk)) (by rw[<-zh4];rfl))
    cases hin:ZO a kk with
    | true=>
     cases his:(zJ l kk).is with
     | true=>
      have HR:Hid (zan l a=([],6)):=dD<|by rw[HR0.out,zlr hlt hin his,if_pos rfl]
      rw[his]at d8;rw[hin]at d9;clear hin his;go_wp2;refine bodyPost_ret (results_tmp2 rfl _ _ _) rfl ?_;rw[HR.out];exact⟨⟨_,rfl,zb.nil _ _ _⟩,BW⟩
     | false=>
      have HST:Hid (upd (zc4 l a kk) kk (qG a kk)=zc4 l a (kk+1)):=zkZ hin;have HON:Hid (zJ [a] kk=qG a kk):=show _=_ by rw[zke,if_pos hin]
      have HH2:Hid (∀j:Nat,j<kk+1->ZO a j=true->(zJ l j).is=false):=dD<|fun j hj h=>by
       by_cases e:j=kk
       ·rw[e];exact his
       exact HH j (by omega) h
      rw[his]at d8;rw[hin]at d9;clear hin his;have HLV:Hid (Value.agg (onv (zJ [a] kk)).toArray= .agg (onv (qG a kk)).toArray):=dD<|by rw[HON.out]
      go_wp2_with (first | refine zcO rfl (.tmp 47) rfl b9 kk hlt rfl RW HLV.out ?_ | refine zcN rfl (.tmp 49) (.tmp 48) rfl b8 kk hlt rfl (qG a kk) rfl LW.out ?_)
      intro W5 b5 g5 s5;have L5:Hid (Box W5 b8 (zz (tab (zc4 l a (kk+1))))):=dD<|by rw[<-HST.out];exact b5
      have R5:Hid (Box W5 b9 (zz (tab (zJ [a])))):=RW.grown g5 HNE.out;have G5:Hid (zc w W5):=zd BW g5 HS8.out;clear b5 g5 s5 d8 d9;go_wp2
      go_roundg (64 -(kk+1))
      case measure=>omega
      exact⟨kk+1,by omega,by omega,by go_num,G5,L5,R5,HH2⟩
    | false=>
     have L5:Hid (Box wr b8 (zz (tab (zc4 l a (kk+1))))):=dD<|by rw[<-zj6 hin];exact LW.out
     have HH2:Hid (∀j:Nat,j<kk+1->ZO a j=true->(zJ l j).is=false):=dD<|fun j hj h=>by
      by_cases e:j=kk
      ·rw[e,hin]at h;cases h
      exact HH j (by omega) h
     rw[hin]at d9;clear hin
     cases his:(zJ l kk).is with
     | true=>
      rw[his]at d8;clear his;go_wp2
      go_roundg (64 -(kk+1))
      case measure=>omega
      exact⟨kk+1,by omega,by omega,by go_num,BW,L5,RW,HH2⟩
     | false=>
      rw[his]at d8;clear his;go_wp2
      go_roundg (64 -(kk+1))
      case measure=>omega
      exact⟨kk+1,by omega,by omega,by go_num,BW,L5,RW,HH2⟩
   have hltz:¬(kk:Int)<64:=by omega
   have:kk=64:=by omega
   subst this;have HR:Hid (zan l a=zfn (zfm l a)):=dD<|by rw[HR0.out,zjL HH.out,if_neg (by decide)]
   have HCL:Hid ((zz (tab (zc4 l a 64))).length=384):=jl _
   go_wp2_with (refine zO rfl 62 (.tmp 8) rfl b8 rfl LW underlying62 rfl (by rw[HCL.out];exact zmd) ?_)
   refine(HFEW wr).mono ?_;rintro e W6 ⟨⟨u,rfl,ow⟩,g6⟩;have G6:=dD (BW.trans g6);have O6:Hid (zb arE w.heap.size W6 u (zfn (zfm l a)).1):=ow.base (bS BW);clear g6 ow;go_wp2;refine bodyPost_ret (results_tmp2 rfl _ _ _) rfl ?_;rw[HR.out];exact⟨⟨_,rfl,O6⟩,G6⟩
  have hzb:(arW a != 0)=true:=by simp[hza]
  have HR:Hid (zan l a=([],arW a)):=dD<|by unfold zan;rw[if_neg (fun h=>h hz),if_pos hza]
  clear hz hza
  generalize arW a=E at*
  go_enter func86,ntmps86
  go_upto_region 1 with fail;rw[HW0.out];go_wp2_with fail;refine(HW W0 G0).mono ?_;rintro e W1 ⟨rfl,g⟩;have G1:=dD (G0.trans g);have X1:=dD (X0.grew g);clear g;obtain⟨pf,HPF⟩:∃pf,Hid (W1.heap.size=pf):=⟨_,rfl⟩;go_upto_region 2 with fail;obtain⟨W2,hWf⟩:∃W2,W1.alloc (.cells #[I6 0,I6 I] 163)=W2:=⟨_,rfl⟩;have G2:=gT hWf G1
  have F2:=xP hWf HPF
  have X2:=yA hWf X1
  rw[hWf,HPF.out];clear hWf;have f0:=F2.c 0 rfl
  go_wp2_with (refine zO rfl 114 (.tmp 3) rfl w.heap.size rfl X2 underlying114 rfl zma ?_)
  refine(HWA W2).mono ?_;rintro e W3 ⟨rfl,g⟩;have G3:=dD (G2.trans g);clear g f0;go_wp2;refine bodyPost_ret (results_tmp2 rfl _ _ _) rfl ?_;rw[HR.out];exact⟨⟨_,rfl,zb.nil _ _ _⟩,G3⟩
 have hzb:((wrL l).1 != 0)=true:=by simp[hz]
 have HR:Hid (zan l a=([],(wrL l).1)):=dD<|by unfold zan;rw[if_pos hz]
 clear hz
 generalize(wrL l).2=I at HW
 generalize(wrL l).1=E at*
 go_enter func86,ntmps86
 go_upto_region 1 with fail;rw[HW0.out];go_wp2_with fail;refine(HW W0 G0).mono ?_;rintro e W1 ⟨rfl,g⟩;have G1:=dD (G0.trans g);clear g;obtain⟨pf,HPF⟩:∃pf,Hid (W1.heap.size=pf):=⟨_,rfl⟩;go_upto_region 2 with fail;obtain⟨W2,hWf⟩:∃W2,W1.alloc (.cells #[I6 E,I6 I] 163)=W2:=⟨_,rfl⟩;have G2:=gT hWf G1
 have F2:=xP hWf HPF
 rw[hWf,HPF.out];clear hWf;have f0:=F2.c 0 rfl;go_upto_region 3 with fail;go_quiet (fail);obtain⟨Wq,hWq⟩:∃Wq,W2.drewN nq=Wq:=⟨_,rfl⟩;have Gq:Hid (zc w Wq):=dD<|by rw[<-hWq];exact G2.trans (show Below _ _ _ from bD (bR _ _) _)
 rw[hWq];clear hWq f0;go_wp2;refine bodyPost_ret (results_tmp2 rfl _ _ _) rfl ?_;rw[HR.out];exact⟨⟨_,rfl,zb.nil _ _ _⟩,Gq⟩
end
end Go.Proofs.YtdgccecjbpgmfaaGreat
