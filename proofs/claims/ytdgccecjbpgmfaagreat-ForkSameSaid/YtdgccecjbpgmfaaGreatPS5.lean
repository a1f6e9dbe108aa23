import Derived.Test.YtdgccecjbpgmfaaGreatPS4
import Derived.RangeFuncCalls
import Derived.ChangeKeysEq
namespace Go.Proofs.YtdgccecjbpgmfaaGreat
set_option maxRecDepth 100000
set_option maxHeartbeats 4000000
variable{B b cl i j:Nat} {Q:Exit->Act->World->Prop} {V:MaV} {W w' w0 w1 w2:World} {e t:TypeId} {l:List Ar} {m:Ma} {o:Oper} {ops:Array Oper} {vs xs:List Value} {z:Int}
open Go.Proofs.Tryz
section
open Go.RowKit
theorem Chd.trans {w:World} {p:Nat} {V1:MaV} {m2:Ma} (hs:V1.sp=V.sp) (h1:qR (Dp p V.sp) w w1) (h2:Chd w0 p w1 V1 m2 w2):Chd w0 p w V m2 w2:=by
 obtain⟨V2,k1,k2,k3⟩:=h2;rw[hs]at k1 k3;exact⟨V2,k1,k2,h1.trans k3⟩
theorem zaH (m:Ma) (e:En) (n:Int):(Zj m e n).sp=m.sp:=by
 unfold Zj
 split
 ·rfl
 split <;> rfl
theorem JN (m:Ma) (q:Nat) (n:Int) (e:En):(Zp m q n e).sp.length=m.sp.length:=by simp[Zp]
theorem zf8 {w:World} {p:Nat} (h:ChM w0 p w V m) (q r:Nat) (hq:q<m.sp.length) (hr:r<m.sp.length) (n:Int):
  Calls prog 57 #[.pointer (some ⟨p,0,none⟩),.agg #[I6 (q:Int),I6 n],.agg #[I6 (r:Int),I6 n]] w fun e w'=>(∃v,e= .returned v)/\Chd w0 p w V (Qq m q r n) w':=by
 obtain⟨E,HE⟩:∃E,Hid (ziE m r n=E):=⟨_,rfl⟩;have HSH:Hid (Qq m q r n=Zp (Zp (Zj m ⟨E.kind,E.n,false⟩ 1) r n ⟨E.kind,E.n,false⟩) q n ⟨E.kind,E.n,false⟩):=dD<|by rw[<-HE.out];rfl
 have HM:Hid (ChM w0 p w V m):=h;have HQ:Hid (q<m.sp.length/\r<m.sp.length):=⟨hq,hr⟩;have HD:Hid (∀k,Dp p V.sp k->k<w.heap.size):=h.dlt;clear h hq hr;obtain⟨W1,hW1⟩:∃W1,(w.alloc (.cells #[I6 (q:Int),I6 n] 118)).alloc (.cells #[I6 (r:Int),I6 n] 118)=W1:=⟨_,rfl⟩;have G1:=gD2 hW1
 obtain⟨b,HB⟩:∃b,Hid (w.heap.size=b):=⟨_,rfl⟩;have X1:Hid (zp W1 b 118 [I6 (q:Int),I6 n]):=dD<|by rw[<-hW1];exact(zp.top w [I6 (q:Int),I6 n] _ HB.symm).grew (za _ _)
 have Y1:Hid (zp W1 (b+1) 118 [I6 (r:Int),I6 n]):=dD<|by rw[<-hW1];exact zp.top _ [I6 (r:Int),I6 n] _ (by have:=HB.out;simp;omega)
 have HW1:Hid (_=W1):=hW1;clear hW1;have hen:=zck (HM.grew G1) r HQ.2 n;rw[HE.out]at hen
 go_enter func57,ntmps57
 go_upto_region 1 with fail;rw[HW1.out,HB.out];have y0:=Y1.box.c 0 rfl;have y1:=Y1.box.c 1 rfl;go_wp2_with fail;refine hen.mono ?_;clear hen y0 y1;rintro e W2 ⟨rfl,g2⟩;have G2:=dD (G1.trans g2);have X2:=dD (X1.grew g2);have Y2:=dD (Y1.grew g2);clear g2;unfold enV;go_upto_region 3 with fail;obtain⟨c,HC⟩:∃c,Hid (W2.heap.size=c):=⟨_,rfl⟩;obtain⟨W3,hW3⟩:∃W3,W2.alloc (.cells #[I6 E.kind,I6 E.n,.bool false] 74)=W3:=⟨_,rfl⟩;have g3:=gP hW3
 have G3:=dD (G2.trans g3);have X3:=dD (X2.grew g3);have Y3:=dD (Y2.grew g3);have Z3:=xPT hW3 HC
 have HND:Hid (¬Dp p V.sp b/\¬Dp p V.sp (b+1)/\¬Dp p V.sp c):=dD<|by
  have hs:=bS G2.out;have:=HB.out;have:=HC.out;exact⟨fun e=>by have:=HD.out _ e;omega,fun e=>by have:=HD.out _ e;omega,fun e=>by have:=HD.out _ e;omega⟩
 have M3:=dD (HM.grew G3);have O3:Hid (qR (Dp p V.sp) w W3):=show qR _ _ _ from qR.grew G3.out
 rw[hW3,HC.out];clear hW3 g3;obtain⟨z0,z1,z2⟩:=Z3.box.c3;have hho:=zc7 M3 ⟨E.kind,E.n,false⟩ 1;go_wp2_with fail;refine hho.mono ?_;clear hho z0 z1 z2;rintro e W4 ⟨⟨v4,rfl⟩,V4,hs4,m4,o4⟩;have M4:Hid (ChM w0 p W4 V4 (Zj m ⟨E.kind,E.n,false⟩ 1)):=m4;have HS4:Hid (V4.sp=V.sp):=hs4;have O4:Hid (qR (Dp p V.sp) w W4):=show qR _ _ _ from O3.trans o4
 have X4:Hid (zp W4 b 118 [I6 (q:Int),I6 n]):=X3.outD o4 HND.1;have Y4:Hid (zp W4 (b+1) 118 [I6 (r:Int),I6 n]):=Y3.outD o4 HND.2.1;have Z4:Hid (zp W4 c 74 [I6 E.kind,I6 E.n,.bool false]):=Z3.outD o4 HND.2.2;clear m4 hs4 o4;have y0:=Y4.box.c 0 rfl;have y1:=Y4.box.c 1 rfl;obtain⟨z0,z1,z2⟩:=Z4.box.c3;have hen:=zah M4 r (by rw[zaH];exact HQ.2) n ⟨E.kind,E.n,false⟩
 go_wp2_with fail;refine hen.mono ?_;clear hen y0 y1 z0 z1 z2;rintro e W5 ⟨⟨v5,rfl⟩,V5,hs5,m5,o5⟩;rw[HS4.out]at o5 hs5;have M5:Hid (ChM w0 p W5 V5 (Zp (Zj m ⟨E.kind,E.n,false⟩ 1) r n ⟨E.kind,E.n,false⟩)):=m5;have HS5:Hid (V5.sp=V.sp):=hs5;have O5:Hid (qR (Dp p V.sp) w W5):=show qR _ _ _ from O4.trans o5
 have X5:Hid (zp W5 b 118 [I6 (q:Int),I6 n]):=X4.outD o5 HND.1;have Z5:Hid (zp W5 c 74 [I6 E.kind,I6 E.n,.bool false]):=Z4.outD o5 HND.2.2;clear m5 hs5 o5;have x0:=X5.box.c 0 rfl;have x1:=X5.box.c 1 rfl;obtain⟨z0,z1,z2⟩:=Z5.box.c3;have hen:=zah M5 q (by rw[JN,zaH];exact HQ.1) n ⟨E.kind,E.n,false⟩
 go_wp2_with fail;refine hen.mono ?_;clear hen x0 x1 z0 z1 z2;rintro e W6 ⟨⟨v6,rfl⟩,h6⟩;have M6:Hid (Chd w0 p w V (Qq m q r n) W6):=dD<|by rw[HSH.out];exact Chd.trans HS5 O5 h6
 clear h6;go_wp2
 (first | go_end0 | ((try simp only[Exit.inBlock,Exit.then]);refine bodyPost_ret (results_none rfl _ _ _) rfl ?_))
 first | exact M6.out | exact⟨⟨_,rfl⟩,M6⟩
theorem zhr {w:World} {p:Nat} (h:ChM w0 p w V m) (q:Nat) (hq:q<m.sp.length) (n:Int):
  Calls prog 85 #[.pointer (some ⟨p,0,none⟩),.agg #[I6 (q:Int),I6 n]] w fun e w'=>(∃v,e= .returned v)/\Chd w0 p w V (zd2 m q n) w':=by
 obtain⟨E,HE⟩:∃E,Hid (ziE m q n=E):=⟨_,rfl⟩;have HSH:Hid (zd2 m q n=Zp (Zj m E (-1)) q n ⟨0,0,false⟩):=dD<|by rw[<-HE.out];rfl
 have HM:Hid (ChM w0 p w V m):=h;have HQ:Hid (q<m.sp.length):=hq;have HD:Hid (∀k,Dp p V.sp k->k<w.heap.size):=h.dlt;clear h hq;obtain⟨W1,hW1⟩:∃W1,w.alloc (.cells #[I6 (q:Int),I6 n] 118)=W1:=⟨_,rfl⟩;have G1:=gA hW1
 obtain⟨b,HB⟩:∃b,Hid (w.heap.size=b):=⟨_,rfl⟩;have X1:=xPT hW1 HB
 have HND:Hid (¬Dp p V.sp b):=dD<|fun e=>by have:=HD.out _ e;have:=HB.out;omega
 have HW1:Hid (_=W1):=hW1;clear hW1;have hen:=zck (HM.grew G1) q HQ n;rw[HE.out]at hen
 go_enter func85,ntmps85
 go_upto_region 1 with fail;rw[HW1.out,HB.out];have x0:=X1.box.c 0 rfl;have x1:=X1.box.c 1 rfl;go_wp2_with fail;refine hen.mono ?_;clear hen x0 x1;rintro e W2 ⟨rfl,g2⟩;have G2:=dD (G1.trans g2);have X2:=dD (X1.grew g2);clear g2;unfold enV;have hho:=zc7 (HM.grew G2) E (-1);go_wp2_with fail;refine hho.mono ?_;clear hho;rintro e W4 ⟨⟨v4,rfl⟩,V4,hs4,m4,o4⟩;have M4:Hid (ChM w0 p W4 V4 (Zj m E (-1))):=m4;have HS4:Hid (V4.sp=V.sp):=hs4;have O4:Hid (qR (Dp p V.sp) w W4):=show qR _ _ _ from(qR.grew G2).trans o4
 have X4:Hid (zp W4 b 118 [I6 (q:Int),I6 n]):=X2.outD o4 HND.out;clear m4 hs4 o4;have x0:=X4.box.c 0 rfl;have x1:=X4.box.c 1 rfl;have hen:=zah M4 q (by rw[zaH];exact HQ) n ⟨0,0,false⟩
 go_wp2_with fail;refine hen.mono ?_;clear hen x0 x1;rintro e W6 ⟨⟨v6,rfl⟩,h6⟩;have M6:Hid (Chd w0 p w V (zd2 m q n) W6):=dD<|by rw[HSH.out];exact Chd.trans HS4 O4 h6
 clear h6;go_wp2
 (first | go_end0 | ((try simp only[Exit.inBlock,Exit.then]);refine bodyPost_ret (results_none rfl _ _ _) rfl ?_))
 first | exact M6.out | exact⟨⟨_,rfl⟩,M6⟩
theorem zbk {w:World} {p:Nat} (h:ChM w0 p w V m) (q:Nat) (s:Sp) (hs:m.sp[q]? =some s) (F:Nat) (caps:Array Value) (J:Nat->World->Prop) (eg:Enters prog F) (hJ0:∀W,zc w W->J 0 W)
  (hstep:∀(k:Nat) (n:Int) W,(qo s.tb Ze 64)[k]? =some n->J k W->Calls prog F (#[I6 n]++caps) W fun e w'=>(∃v,e= .returned v)/\J (k+1) w'/\qR (Dp p V.sp) W w'):
  Calls prog 55 #[.pointer (some ⟨p,0,none⟩),I6 (q:Int),.func (.func F) #[] caps] w fun e w'=>(∃v,e= .returned v)/\J (qo s.tb Ze 64).length w'/\qR (Dp p V.sp) w w':=by
 obtain⟨xs,s1,s2,s3⟩:=h.sp;obtain⟨x,hx⟩:∃x,xs[q]? =some x:=⟨_,gE (by rw[s2];exact(gS.1 hs).1)⟩
 have HAT:Hid (zZ w x s):=s3 q x s hx hs w (qR.refl _ _);have hql:=(gS.1 hx).1;obtain⟨xn,HXN⟩:∃xn,Hid (xs.length=xn):=⟨_,rfl⟩;obtain⟨g,c,heq⟩:=s1.formS (by omega)
 rw[HXN.out]at heq hql;have hqz:(q:Int)< (xn:Int):=by omega
 have c10:=h.box.box.c 10 rfl;rw[heq]at c10 s1;have hce:zcs w ((Addr.mk g 0 none).add (q*10)) x:=(s1.one hx).sp10;rw[Addr.add_lit,zA]at hce;obtain⟨d0,d1,d2,d3,d4,d5,d6,d7,d8,d9⟩:=hce;have hpg:Calls prog 90 #[.agg #[x.t0.x,x.t1.x,x.t2.x,x.t3.x,x.t4.x,x.t5.x,x.t6.x,x.t7.x]] w fun e w'=>∃v,e= .returned v/\zb blE w.heap.size w' v (qo s.tb Ze 64)/\zc w w':=QJ x.tab s.tb w HAT.tb
 have HD:Hid (∀k,Dp p V.sp k->k<w.heap.size):=h.dlt;have EG:Hid (∀(args:Array Value) (w:World),(callFunc F args).run prog w= .ok (.enter F args) w):=eg;have HJ0:Hid (∀W,zc w W->J 0 W):=hJ0
 generalize hPG:qo s.tb Ze 64=L at hstep hpg⊢
 have HST:Hid (∀(k:Nat) (n:Int) W,L[k]? =some n->J k W->Calls prog F (#[I6 n]++caps) W fun e w'=>(∃v,e= .returned v)/\J (k+1) w'/\qR (Dp p V.sp) W w'):=hstep
 clear h hs s1 s2 s3 hx heq eg hJ0 hstep hPG d0 d1
 go_enter func55,ntmps55
 go_wp2_with fail;refine hpg.mono ?_;clear hpg d2 d3 d4 d5 d6 d7 d8 d9 c10;rintro e W1 ⟨v1,rfl,ow1,g1⟩;have G1:Hid (zc w W1):=g1;obtain⟨ra,rc,rfl⟩:=ow1.form;have R1:Hid (zlL blE (Dp p V.sp) W1 (.slice ra L.length rc) L):=show zlL _ _ _ _ _ from ow1.new.staysD HD.out
 have hbig:=ow1.at.short;clear ow1 g1;obtain⟨N,HN⟩:∃N,Hid (L.length=N):=⟨_,rfl⟩;rw[HN.out]at R1 hbig⊢;go_wp2
 go_loopg [19] N (fun gg s19 wr=>∃kk:Nat,kk<=N/\N - kk<=gg/\s19=I6 kk/\Hid (qR (Dp p V.sp) W1 wr)/\Hid (J kk wr))
 case atStart=>exact⟨0,nZ _,by omega,rfl,qR.refl _ _,HJ0 W1 G1⟩
 obtain⟨kk,hkk,hgg,rfl,OW,JW⟩:=hrel
 by_cases hlt:kk<N
 ·have hltz:(kk:Int)< (N:Int):=by omega
  obtain⟨n,HK⟩:∃n,Hid (L[kk]? =some n):=⟨_,gE (by rw[HN.out];exact hlt)⟩
  obtain⟨_,_,heq,hnr⟩:=(R1 wr OW).nums;simp only[vJ]at heq;obtain⟨ad2,had2,hl2⟩:=hnr kk n HK.out;have e0:=hl2 wr (zc.refl _);rw[<-heq.1]at had2;subst had2;clear heq hnr hl2;go_wp2_with fail;rw[EG.out];refine(HST kk n wr HK JW).mono ?_;clear e0;rintro e W3 ⟨⟨v3,rfl⟩,j3,o3⟩;have J3:Hid (J (kk+1) W3):=j3;have O3:Hid (qR (Dp p V.sp) W1 W3):=show qR _ _ _ from OW.trans o3
  clear j3 o3;go_wp2
  go_roundg (N -(kk+1))
  case measure=>omega
  exact⟨kk+1,by omega,by omega,by go_num,O3,J3⟩
 have hltz:¬(kk:Int)< (N:Int):=by omega
 have:kk=N:=by omega
 subst this;have HF:Hid (J L.length wr/\qR (Dp p V.sp) w wr):=dD<|⟨by rw[HN.out];exact JW,(qR.grew G1).trans OW⟩
 go_wp2
 (first | go_end0 | ((try simp only[Exit.inBlock,Exit.then]);refine bodyPost_ret (results_none rfl _ _ _) rfl ?_))
 first | exact HF.out | exact⟨⟨_,rfl⟩,HF⟩
def zd7 (m:Ma):Prop:=∀s∈m.sp,(wrL s.ars).1=0/\tbW s.tb=0
theorem zkH (h:ZA m=0):zd7 m:=fun s hs=>by
 unfold ZA at h
 split at h
 ·cases h
 have:=zn.1 h (spE s) (List.mem_map.2 ⟨s,hs,rfl⟩);unfold spE at this
 split at this
 ·rename_i a;exact absurd this a
 rename_i a
 split at this
 ·rename_i b;exact absurd this b
 rename_i b;exact⟨by simpa using a,by simpa using b⟩
theorem zkV {s:Sp} (h:tbW s.tb=0) (n:Nat):enW (zk s n)=0:=by
 unfold zk zaJ;have hall:=Zr.1 h;have:zfp (s.tb[n / 8]?.getD []):=by
  cases e:s.tb[n / 8]? with
  | none=>exact .inl rfl
  | some x=>exact hall x (mG e)
 exact this.get (n % 8)
theorem zgD {s:Sp} {n:Nat} (h:n<64):zf1 s.tb (n:Int)=zk s n:=by
 unfold zf1 zk;rw[if_pos (by omega),tN]
theorem zeA {s:Sp} {n:Nat} (h:(qg s)[j]? =some n):n<64:=by
 have:=mG h;unfold qg at this;rw[List.mem_filter,List.mem_range]at this;exact this.1
theorem ziU:∀{l:List Ar} {p:Option Ar} {k:Nat} {a:Ar},ZP p l->l[k]? =some a->ju a
 | [],_,_,_,_,h=>by simp at h
 | b :: l,p,0,a,hc,h=>by
  simp at h
  subst h;exact hc.1
 | b :: l,p,k+1,a,hc,h=>ziU hc.2.2 (by simpa using h)
theorem zbK (V:MaV) (m:Ma) (w:World) (hm:zF w V m) (h1:zfl m) (h2:zd7 m):
  Calls prog 119 #[.agg (mL V m).toArray] w fun e w'=>e= .returned (I6 (zbQ m))/\zc w w':=by
 have HWE:Hid (∀(a:Ar) (n:Nat) (e:En) W,zc w W->ju a->n<=64->0<=e.n->Calls prog 164 #[.agg (mL V m).toArray,.agg #[I6 a.fr,I6 a.tz,.bool a.rd,.bool a.wr,.bool a.sh,I6 a.file,I6 a.base],I6 (n:Int),.agg #[I6 e.kind,I6 e.n,.bool e.wr]] W fun e' w'=>e'= .returned (I6 (JS m a n e))/\zc W w'):=dD<|fun a n e W hW ha hn he=>zbL V m a n e W (hm.grew hW) ha hn he
 have HM1:Hid (j1 m.fs m.hand=0):=h1.mem;have HRS:Hid (zd7 m):=h2;obtain⟨vf,vs,vsb,vsq,vdb,vdq,vfl,vca,⟨spa,spn,spc⟩⟩:=V;dsimp only[mL]at HWE⊢;obtain⟨-,-,-,-,-,-,-,-,n9⟩:=hm.ns;dsimp only at n9;obtain⟨xs,hxl,hrow,hsp⟩:=hm.spaces;have HXL:Hid (xs.length=m.sp.length):=hxl;have HR:Hid (∀(j:Nat) x,xs[j]? =some x->∃ad,spa=some ad/\∀W,zc w W->zcs W (ad.add (j*10)) x):=hrow;have HSP:Hid (∀(i:Nat) x s,xs[i]? =some x->m.sp[i]? =some s->zZ w x s):=hsp;have HN:Hid (m.sp.length=spn):=n9.symm;have hbig:spn<=9223372036854775807:=by
  obtain⟨ys,k1,k2,_⟩:=hm.sp;have:=k1.short;omega
 obtain⟨Z,HZ⟩:∃Z,Hid (zbQ m=Z):=⟨_,rfl⟩;rw[HZ.out];clear hm hxl hrow hsp n9 h1 h2;obtain⟨W0,hW0⟩:∃W0,w.alloc (.cells #[vf.x,I6 m.hand,vs.x,vsb.x,vsq.x,vdb.x,vdq.x,vfl.x,I6 m.cnt,vca.x,.slice spa spn spc] 41)=W0:=⟨_,rfl⟩;have HG0:=gA hW0
 have X0:=xA hW0
 have HW0:Hid (_=W0):=hW0;clear hW0
 go_enter func119,ntmps119
 go_upto_region 1 with fail;rw[HW0.out];have x10:=X0.c 10 rfl;go_wp2;clear x10
 go_loopg [12] spn (fun gg s12 wr=>∃kk:Nat,kk<=spn/\spn - kk<=gg/\s12=I6 kk/\Hid (zc w wr)/\Hid (Box wr w.heap.size [vf.x,I6 m.hand,vs.x,vsb.x,vsq.x,vdb.x,vdq.x,vfl.x,I6 m.cnt,vca.x,.slice spa spn spc])/\Hid (∀(j:Nat) s,j<kk->m.sp[j]? =some s->Jg m s=0))
 case atStart=>exact⟨0,nZ _,by omega,rfl,HG0,X0,fun j s hj=>absurd hj (nL _)⟩
 obtain⟨kk,hkk,hgg,rfl,BW,XW,OW⟩:=hrel
 by_cases hlt:kk<spn
 ·have hltz:(kk:Int)< (spn:Int):=by omega
  obtain⟨s,HS⟩:∃s,Hid (m.sp[kk]? =some s):=⟨_,gE (by rw[HN.out];exact hlt)⟩
  obtain⟨x,HX⟩:∃x,Hid (xs[kk]? =some x):=⟨_,gE (by rw[HXL.out,HN.out];exact hlt)⟩
  have HAT:Hid (zZ w x s):=HSP.out kk x s HX HS.out;obtain⟨hok1,hok2⟩:=HRS.out s (mG HS);have HCN:Hid (ZP none s.ars):=(jD.1 hok1).2;have HTB:Hid (tbW s.tb=0):=hok2;have HAL:Hid (s.ars.length=x.ar.n):=HAT.ar.n.symm;have HAR:Hid (zaU w x.ar.a s.ars):=show zaU _ _ _ by
   obtain⟨_,_,q1,q2⟩:=HAT.ar.ars;simp only[vJ]at q1;rw[q1.1];exact q2
  clear hok1 hok2;obtain⟨ad,rfl,hl⟩:=HR.out kk x HX.out;obtain⟨d0,d1,d2,d3,d4,d5,d6,d7,d8,d9⟩:=hl wr BW.out;clear hl;go_upto_region 4 with fail;obtain⟨W1,hW1⟩:∃W1,wr.alloc (.cells #[.bool x.live,x.ar.x,x.t0.x,x.t1.x,x.t2.x,x.t3.x,x.t4.x,x.t5.x,x.t6.x,x.t7.x] 55)=W1:=⟨_,rfl⟩;have HG1:=gT hW1 BW
  have X1:=yA hW1 XW
  have S1:=xA hW1
  rw[hW1];clear hW1 d0 d1 d2 d3 d4 d5 d6 d7 d8 d9;obtain⟨pb,HPB⟩:∃pb,Hid (wr.heap.size=pb):=⟨_,rfl⟩;rw[HPB.out]at S1⊢;have hcall:Calls prog 90 #[.agg #[x.t0.x,x.t1.x,x.t2.x,x.t3.x,x.t4.x,x.t5.x,x.t6.x,x.t7.x]] W1 fun e w'=>∃v,e= .returned v/\zb blE W1.heap.size w' v (qo s.tb Ze 64)/\zc W1 w':=QJ x.tab s.tb W1 (HAT.grew HG1).tb
  have s2:=S1.c 2 rfl;have s3:=S1.c 3 rfl;have s4:=S1.c 4 rfl;have s5:=S1.c 5 rfl;have s6:=S1.c 6 rfl;have s7:=S1.c 7 rfl;have s8:=S1.c 8 rfl;have s9:=S1.c 9 rfl;go_wp2_with fail;refine hcall.mono ?_;clear hcall s2 s3 s4 s5 s6 s7 s8 s9;rintro e' W2 ⟨pv,rfl,ow2,hg2⟩;have HG2:=dD (HG1.trans hg2);have X2:=dD (X1.grew hg2);have S2:=dD (S1.grew hg2);clear hg2;obtain⟨pa,pc,rfl,hnr⟩:=ow2.at.nums;have hq0:=ow2.at.short;have HNR:Hid (zcq W2 pa (qo s.tb Ze 64)):=hnr;rw[jX,List.length_map]at hq0⊢;rw[jX]at HNR;clear ow2 hnr;obtain⟨q,HQ⟩:∃q,Hid ((qg s).length=q):=⟨_,rfl⟩;rw[HQ.out]at hq0⊢;go_wp2;have HBW:Hid (zc w wr):=BW;have HOW:Hid (∀(j:Nat) s,j<kk->m.sp[j]? =some s->Jg m s=0):=OW
  go_loopg [20] q (fun gg s20 wr=>∃i:Nat,i<=q/\q - i<=gg/\s20=I6 i/\Hid (zc W2 wr)/\Hid (∀(j:Nat) n,j<i->(qg s)[j]? =some n->QA m (zJ s.ars n) (zk s n)=0))
  case atStart=>exact⟨0,nZ _,by omega,rfl,zc.refl _,fun j s hj=>absurd hj (nL _)⟩
  obtain⟨i,hi,hg2,rfl,BW,OW⟩:=hrel
  by_cases hlt2:i<q
  ·have hltz2:(i:Int)< (q:Int):=by omega
   obtain⟨n,HNI⟩:∃n,Hid ((qg s)[i]? =some n):=⟨_,gE (by rw[HQ.out];exact hlt2)⟩
   have hn64:n<64:=zeA HNI.out;obtain⟨ad2,rfl,hl2⟩:=HNR.out i (n:Int) (by rw[List.getElem?_map,HNI.out];rfl)
   have e0:=hl2 wr BW.out;clear hl2;have HGW:=dD (HG2.trans BW);have hcf:=zjZ (x.ar.x) s.ars (n:Int) wr (HAT.ar.grew HGW);have s1:=(S2.grew BW).c 1 rfl;go_wp2_with fail;refine hcf.mono ?_;clear hcf e0 s1;rintro e' W4 ⟨⟨z,rfl,hz⟩,hg4⟩;have HFZ:Hid (zbm s.ars (n:Int) z):=hz;have HG4:=dD (BW.trans hg4);have HGw4:=dD (HG2.trans HG4);clear hg4 hz
   by_cases hz0:z<0
   ·have HZE:Hid (Z=5):=dD<|by
     have h5:QA m (zJ s.ars n) (zk s n)=5:=by
      have:=zjY HFZ.out;rw[decide_eq_false (by omega)]at this
      unfold QA;rw[if_pos this.symm]
     have h6:Jg m s=5:=by rw[J0,j7 HNI OW (by rw[h5];decide),h5]
     rw[<-HZ.out];unfold zbQ;rw[j7 HS HOW (by rw[h6];decide),h6]
    go_wp2;go_ret;exact⟨by rw[HZE.out];rfl,HGw4⟩
   obtain⟨k,a,rfl,HKA,HIN⟩:∃(k:Nat) (a:Ar),z=(k:Int)/\Hid (s.ars[k]? =some a)/\Hid (inZ a (n:Int)=true):=by
    rcases HFZ with⟨k,a,q1,q2,q3⟩|⟨q1,_⟩
    ·exact⟨k,a,q1,q2,q3⟩
    omega
   have HAO:Hid (ju a):=ziU HCN HKA.out;have hkl:k<x.ar.n:=by rw[<-HAL.out];exact(gS.1 HKA).1
   have HEN:Hid (QA m (zJ s.ars n) (zk s n)=JS m a n (zk s n)):=dD<|by rw[zeG HCN.out HKA.out HIN.out,zhJ HM1.out HAO.out]
   have hen0:0<=(zk s n).n:=(jS (zkV HTB n)).2.1.1;have HWE':Hid (∀W,zc w W->Calls prog 164 #[.agg #[vf.x,I6 m.hand,vs.x,vsb.x,vsq.x,vdb.x,vdq.x,vfl.x,I6 m.cnt,vca.x,.slice (some ad) spn spc],.agg #[I6 a.fr,I6 a.tz,.bool a.rd,.bool a.wr,.bool a.sh,I6 a.file,I6 a.base],I6 (n:Int),enV (zk s n)] W fun e' w'=>e'= .returned (I6 (JS m a n (zk s n)))/\zc W w'):=dD<|fun W hW=>HWE.out a n (zk s n) W hW HAO (by omega) hen0
   have HGT:Hid (∀W,zc w W->Calls prog 104 #[.agg #[x.t0.x,x.t1.x,x.t2.x,x.t3.x,x.t4.x,x.t5.x,x.t6.x,x.t7.x],I6 (n:Int)] W fun e w'=>e= .returned (enV (zk s n))/\zc W w'):=dD<|fun W hW=>by
    have:=zaI x.tab s.tb (n:Int) W (HAT.grew hW).tb;rw[zgD hn64]at this;exact this
   clear hen0;go_upto_region 10 with fail;obtain⟨ada,hva,hl⟩:=HAR.out k a HKA.out;have X4:=dD (X2.grew HG4);have S4:=dD (S2.grew HG4);have hx0:=X4.gw 0 rfl
   have hx1:=X4.gw 1 rfl
   have hx2:=X4.gw 2 rfl
   have hx3:=X4.gw 3 rfl
   have hx4:=X4.gw 4 rfl
   have hx5:=X4.gw 5 rfl
   have hx6:=X4.gw 6 rfl
   have hx7:=X4.gw 7 rfl
   have hx8:=X4.gw 8 rfl
   have hx9:=X4.gw 9 rfl
   have hx10:=X4.gw 10 rfl
   have hs1:=S4.gw 1 rfl
   have hs2:=S4.gw 2 rfl
   have hs3:=S4.gw 3 rfl
   have hs4:=S4.gw 4 rfl
   have hs5:=S4.gw 5 rfl
   have hs6:=S4.gw 6 rfl
   have hs7:=S4.gw 7 rfl
   have hs8:=S4.gw 8 rfl
   have hs9:=S4.gw 9 rfl
   (try simp only[Sli.x]at hs1);rw[hva]at hs1;have hy0:∀y:zh W4,y.world.cell? (ada.add (k*7))=some (I6 a.fr):=fun y=>(hl _ (HGw4.trans y.grew)).1
   have hy1:∀y:zh W4,y.world.cell? { block:=(ada.add (k*7)).block,off:=(ada.add (k*7)).off+1 }=some (I6 a.tz):=fun y=>(hl _ (HGw4.trans y.grew)).2.1
   have hy2:∀y:zh W4,y.world.cell? { block:=(ada.add (k*7)).block,off:=(ada.add (k*7)).off+2 }=some (.bool a.rd):=fun y=>(hl _ (HGw4.trans y.grew)).2.2.1
   have hy3:∀y:zh W4,y.world.cell? { block:=(ada.add (k*7)).block,off:=(ada.add (k*7)).off+3 }=some (.bool a.wr):=fun y=>(hl _ (HGw4.trans y.grew)).2.2.2.1
   have hy4:∀y:zh W4,y.world.cell? { block:=(ada.add (k*7)).block,off:=(ada.add (k*7)).off+4 }=some (.bool a.sh):=fun y=>(hl _ (HGw4.trans y.grew)).2.2.2.2.1
   have hy5:∀y:zh W4,y.world.cell? { block:=(ada.add (k*7)).block,off:=(ada.add (k*7)).off+5 }=some (I6 a.file):=fun y=>(hl _ (HGw4.trans y.grew)).2.2.2.2.2.1
   have hy6:∀y:zh W4,y.world.cell? { block:=(ada.add (k*7)).block,off:=(ada.add (k*7)).off+6 }=some (I6 a.base):=fun y=>(hl _ (HGw4.trans y.grew)).2.2.2.2.2.2
   have hne:Nonempty (zh W4):=⟨⟨_,zc.refl _⟩⟩;clear hl hva;refine j4 [(10,⟨fun v=>v=enV (zk s n),fun v w'=>True⟩),(11,⟨fun v=>v=I6 (JS m a n (zk s n)),fun v w'=>True⟩)] qh (by kernel_rfl) ?hS ?hp ?_
   case hS=>
    intro x hx;simp only[mC,nM,or_false]at hx
    rcases hx with rfl|rfl
    ·exact⟨_,rfl⟩
    exact⟨_,rfl⟩
   case hp=>
    intro x hx;simp only[mC,nM,or_false]at hx
    rcases hx with rfl|rfl
    ·exact fun _ _ _ _ h=>h
    exact fun _ _ _ _ h=>h
   iterate 10 (refine zi rfl rfl rfl (fun K hK=>?_);go_big_quiet_op;refine hK _ ?_;clear hK)
   refine zK rfl rfl (fun w' hg hF=>?_) (fun v1 hv=>?_)
   ·refine zN.call [.agg #[x.t0.x,x.t1.x,x.t2.x,x.t3.x,x.t4.x,x.t5.x,x.t6.x,x.t7.x],I6 (n:Int)] rfl func104 rfl rfl rfl ?_;refine(HGT w' (HGw4.trans hg)).mono ?_;rintro e w'' ⟨rfl,hg3⟩;exact⟨_,rfl,hg3,rfl,trivial⟩
   subst hv;simp only[Act.put,sB,sS,sZ];refine zK rfl rfl (fun w' hg hF=>?_) (fun v1 hv=>?_)
   ·refine zN.call [.agg #[vf.x,I6 m.hand,vs.x,vsb.x,vsq.x,vdb.x,vdq.x,vfl.x,I6 m.cnt,vca.x,.slice (some ad) spn spc],.agg #[I6 a.fr,I6 a.tz,.bool a.rd,.bool a.wr,.bool a.sh,I6 a.file,I6 a.base],I6 (n:Int),enV (zk s n)] rfl func164 rfl rfl rfl ?_;refine(HWE' w' (HGw4.trans hg)).mono ?_;rintro e w'' ⟨rfl,hg3⟩;exact⟨_,rfl,hg3,rfl,trivial⟩
   subst hv;simp only[Act.put,sB,sS,sZ];iterate 1 (refine zi rfl rfl rfl (fun K hK=>?_);go_big_quiet_op;refine hK _ ?_;clear hK)
   refine qF fun W5 hg5 hF=>?_
   have HG5:=dD (HG4.trans hg5);have HGw5:=dD (HG2.trans HG5);clear hg5 hF hx0 hx1 hx2 hx3 hx4 hx5 hx6 hx7 hx8 hx9 hx10 hs1 hs2 hs3 hs4 hs5 hs6 hs7 hs8 hs9 hy0 hy1 hy2 hy3 hy4 hy5 hy6 hne;obtain⟨e,HEE⟩:∃e,Hid (JS m a n (zk s n)=e):=⟨_,rfl⟩;rw[HEE.out];rw[HEE.out]at HEN
   by_cases h0:e=0
   ·have h0e:(e != 0)=false:=by simp[h0]
    have OW':Hid (∀(j:Nat) n,j<i+1->(qg s)[j]? =some n->QA m (zJ s.ars n) (zk s n)=0):=dD<|fun j n' hj hn'=>by
     by_cases ej:j=i
     ·subst ej;rw[HNI.out]at hn';cases hn';rw[HEN.out];exact h0
     exact OW j n' (by omega) hn'
    clear h0;go_wp2
    go_roundg (q -(i+1))
    case measure=>omega
    exact⟨i+1,by omega,by omega,by go_num,HG5,OW'⟩
   have h0e:(e != 0)=true:=by simp[h0]
   have HZE:Hid (Z=e):=dD<|by
    have h6:Jg m s=e:=by rw[J0,j7 HNI OW (by rw[HEN.out];exact h0),HEN.out]
    rw[<-HZ.out];unfold zbQ;rw[j7 HS HOW (by rw[h6];exact h0),h6]
   clear h0;go_wp2;go_ret;exact⟨by rw[HZE.out];rfl,HGw5⟩
  have hltz2:¬(i:Int)< (q:Int):=by omega
  have:i=q:=by omega
  subst this;have HSE:Hid (Jg m s=0):=dD<|by
   rw[J0];exact Qy fun j n hn=>OW.out j n (by rw[<-HQ.out];exact(gS.1 hn).1) hn
  have OW':Hid (∀(j:Nat) s,j<kk+1->m.sp[j]? =some s->Jg m s=0):=dD<|fun j s' hj hs=>by
   by_cases ej:j=kk
   ·subst ej;rw[HS.out]at hs;cases hs;exact HSE.out
   exact HOW j s' (by omega) hs
  have XX:=dD (X2.grew BW);have GG:=dD (HG2.trans BW);go_wp2
  go_roundg (spn -(kk+1))
  case measure=>omega
  exact⟨kk+1,by omega,by omega,by go_num,GG,XX,OW'⟩
 have hltz:¬(kk:Int)< (spn:Int):=by omega
 have:kk=spn:=by omega
 subst this;have HZE:Hid (Z=0):=dD<|by
  rw[<-HZ.out];exact Qy fun j s hs=>OW.out j s (by rw[<-HN.out];exact(gS.1 hs).1) hs
 go_wp2;go_ret;exact⟨by rw[HZE.out];rfl,BW⟩
structure JO where
 ty:TypeId
 enc:Int × Int->Value
 und:∃fs,Tryz.prog.underlying ty=some (.struct fs)
 check:∀(em:Bool) (a:Int × Int) (w:World),(Instr.checkKey em 10000 ty (enc a)).run prog w= .ok () w
 same:∀(a b:Int × Int) (w:World),(Op.equal ty (enc a) (enc b)).run prog w= .ok (decide (a=b)) w
 bits:∀a:Int × Int,Instr.sameBits 10000 (enc a) (enc a)=true
def JP:List ((Int × Int) × Int)->Int × Int->Option Int
 | [],_=>none
 | p :: l,k=>if k=p.1 then some p.2 else JP l k
def zcd:List ((Int × Int) × Int)->Int × Int->Nat->Option (Nat × Value)
 | [],_,_=>none
 | p :: l,k,i=>if k=p.1 then some (i,I6 p.2)else zcd l k (i+1)
def zfL:List ((Int × Int) × Int)->Int × Int->Int->List ((Int × Int) × Int)
 | [],k,v=>[(k,v)]
 | p :: l,k,v=>if k=p.1 then(k,v) :: l else p :: zfL l k v
theorem zaF:∀(l:List ((Int × Int) × Int)) (k x:Int × Int) (v:Int),JP (zfL l k v) x=if x=k then some v else JP l x
 | [],k,x,v=>by simp[zfL,JP]
 | p :: l,k,x,v=>by
  unfold zfL
  by_cases h:k=p.1
  ·rw[if_pos h];unfold JP
   by_cases hx:x=k
   ·simp[hx]
   have hx':¬x=p.1:=fun e=>hx (e.trans h.symm)
   simp[hx,hx']
  rw[if_neg h];unfold JP;rw[zaF l]
  by_cases hp:x=p.1
  ·rw[if_pos hp,if_pos hp,if_neg (fun e=>h (e.symm.trans hp))]
  rw[if_neg hp,if_neg hp]
theorem JM:∀{l:List ((Int × Int) × Int)} {k:Int × Int} {i:Nat},zcd l k i=none->JP l k=none/\∀v,zfL l k v=l++ [(k,v)]
 | [],k,i,_=>⟨rfl,fun v=>rfl⟩
 | p :: l,k,i,h=>by
  unfold zcd at h
  by_cases e:k=p.1
  ·rw[if_pos e]at h;cases h
  rw[if_neg e]at h;obtain⟨h1,h2⟩:=JM h;refine⟨by unfold JP;rw[if_neg e,h1],fun v=>?_⟩
  unfold zfL;rw[if_neg e,h2];rfl
theorem JK:∀{l:List ((Int × Int) × Int)} {k:Int × Int} {i j:Nat} {u:Value},zcd l k i=some (j,u)->∃n z,u=I6 z/\j=i+n/\l[n]? =some (k,z)/\JP l k=some z/\∀v,zfL l k v=l.set n (k,v)
 | [],k,i,j,u,h=>by cases h
 | p :: l,k,i,j,u,h=>by
  unfold zcd at h
  by_cases e:k=p.1
  ·rw[if_pos e]at h;cases h;refine⟨0,p.2,rfl,rfl,by rw[e];rfl,by unfold JP;rw[if_pos e],fun v=>?_⟩
   unfold zfL;rw[if_pos e];rfl
  rw[if_neg e]at h;obtain⟨n,z,h1,h2,h3,h4,h5⟩:=JK h;refine⟨n+1,z,h1,by omega,by simpa using h3,by unfold JP;rw[if_neg e,h4],fun v=>?_⟩
  unfold zfL;rw[if_neg e,h5];rfl
def Qg (K:JO) (w:World) (b:Nat) (g:Int × Int->Option Int):Prop:=
 ∃es clock l,w.heap[b]? =some (.map es clock)/\(es.toList.map (fun e=>(e.key,e.val))=l.map (fun p:(Int × Int) × Int=>(K.enc p.1,I6 p.2))/\(es.toList.map (·.born)).Pairwise (·< ·)/\∀e∈es.toList,e.born<clock)/\∀k,JP l k=g k
theorem Qg.lt {K:JO} {w:World} {g:Int × Int->Option Int} (h:Qg K w b g):b<w.heap.size:=by
 obtain⟨es,c,l,h1,_⟩:=h;exact(aS.1 h1).1
theorem Qg.made (K:JO) (w:World):Qg K (w.alloc (.map #[] 0)) w.heap.size (fun _=>none):=⟨#[],0,[],by
 show(w.heap.push _)[w.heap.size]? =_
 simp,⟨rfl,List.Pairwise.nil,fun e he=>by cases he⟩,fun k=>rfl⟩
theorem Qg.grew {K:JO} {w:World} {g:Int × Int->Option Int} (h:Qg K w b g) (hg:zc w w'):Qg K w' b g:=by
 have hlt:=h.lt;obtain⟨es,c,l,h1,h2⟩:=h;exact⟨es,c,l,(Below.block hg b hlt).trans h1,h2⟩
theorem Qg.kept {K:JO} {w:World} {g:Int × Int->Option Int} {row:Option Nat} (h:Qg K w b g) (hg:w.grownBy w' row) (hne:some b≠row):Qg K w' b g:=by
 have hlt:=h.lt;obtain⟨es,c,l,h1,h2⟩:=h;exact⟨es,c,l,(hg.block b hlt hne).trans h1,h2⟩
theorem Qg.congr {K:JO} {w:World} {g g':Int × Int->Option Int} (h:Qg K w b g) (e:∀k,g k=g' k):Qg K w b g':=by
 obtain⟨es,c,l,h1,h2,h3⟩:=h;exact⟨es,c,l,h1,h2,fun k=>(h3 k).trans (e k)⟩
theorem JU (K:JO) (k:Int × Int) (w:World):∀(l:List ((Int × Int) × Int)) (es:List MapEntry) (i:Nat),es.map (fun e=>(e.key,e.val))=l.map (fun p=>(K.enc p.1,I6 p.2))->(Instr.findAsking K.ty (K.enc k) es i).run prog w= .ok (zcd l k i) w
 | [],[],i,_=>rfl
 | [],e :: es,i,h=>by simp at h
 | p :: l,[],i,h=>by simp at h
 | p :: l,e :: es,i,h=>by
  simp only[mP,List.cons.injEq,pJ]at h;obtain⟨⟨h1,h2⟩,h3⟩:=h;unfold Instr.findAsking zcd;simp only[Sem.run_bind,h1,K.same,rA]
  by_cases e':k=p.1
  ·simp[e',h2]
  simp[e',JU K k w l es (i+1) h3]
theorem J4 (K:JO) (k:Int × Int) (w:World) (l:List ((Int × Int) × Int)) (es:List MapEntry) (h:es.map (fun e=>(e.key,e.val))=l.map (fun p=>(K.enc p.1,I6 p.2))):(Instr.findKey K.ty (K.enc k) es).run prog w= .ok (zcd l k 0) w:=by
 obtain⟨fs,hu⟩:=K.und;unfold Instr.findKey;simp only[Sem.run_bind,run_underlying hu,rA]
 cases es with
 | nil=>
  cases l with
  | nil=>rfl
  | cons p l=>simp at h
 | cons e es=>
  have:Instr.findNow (.struct fs) (K.enc k) (e :: es) 0=none:=by simp[Instr.findNow,Instr.sameNow]
  rw[this];exact JU K k w l (e :: es) 0 h
theorem Qg.look {K:JO} {w:World} {g:Int × Int->Option Int} (h:Qg K w b g) (ht:Tryz.prog.underlying t=some (.map K.ty e)) (hz:(zeroValue e).run prog w= .ok (I6 0) w) (k:Int × Int) (c:Bool):
  (Instr.lookup t (.map (some b)) (K.enc k) c).run prog w= .ok (if c then .tuple #[I6 ((g k).getD 0),.bool (g k).isSome]else I6 ((g k).getD 0)) w:=by
 obtain⟨es,cl,l,h1,⟨h2,_⟩,h3⟩:=h;have hf:=J4 K k w l es.toList h2;unfold Instr.lookup
 cases hp:zcd l k 0 with
 | none=>
  rw[hp]at hf;have:=(JM hp).1;rw[h3 k]at this
  cases c <;> simp[run_underlying ht,MapKept.run_getObj_map h1,K.check,hf,hz,this]
 | some q=>
  obtain⟨j,u⟩:=q;rw[hp]at hf;obtain⟨n,z,rfl,_,_,h4,_⟩:=JK hp;rw[h3 k]at h4
  cases c <;> simp[run_underlying ht,MapKept.run_getObj_map h1,K.check,hf,h4]
theorem zbZ (f:MapEntry->MapEntry) (hf:∀e,(f e).born=e.born):∀(es:List MapEntry) (n:Nat),(es.modify n f).map (·.born)=es.map (·.born)
 | [],n=>by simp
 | e :: es,0=>by simp[hf]
 | e :: es,n+1=>by simp[zbZ f hf es n]
structure j0 (K:JO) (es:Array MapEntry) (cl:Nat) (l:List ((Int × Int) × Int)):Prop where
 pairs:es.toList.map (fun e=>(e.key,e.val))=l.map (fun p=>(K.enc p.1,I6 p.2))
 rise:(es.toList.map (·.born)).Pairwise (·< ·)
 low:∀e∈es.toList,e.born<cl
theorem j0.push {K:JO} {es:Array MapEntry} {l:List ((Int × Int) × Int)} (h:j0 K es cl l) (k:Int × Int) (v:Int):j0 K (es.push ⟨K.enc k,I6 v,cl⟩) (cl+1) (l++ [(k,v)]):=by
 refine⟨by simp[h.pairs],?_,fun e he=>?_⟩
 ·simp only[Array.toList_push,List.map_append,mP,List.map_nil];rw[List.pairwise_append];refine⟨h.rise,by simp,fun a ha b hb=>?_⟩
  obtain⟨e,he,rfl⟩:=List.mem_map.1 ha
  simp at hb
  rw[hb];exact h.low e he
 simp only[Array.toList_push,List.mem_append,List.mem_singleton]at he
 rcases he with he|rfl
 ·have:=h.low e he;omega
 simp
theorem j0.modify {K:JO} {es:Array MapEntry} {l:List ((Int × Int) × Int)} (h:j0 K es cl l) {n:Nat} {k:Int × Int} (hn:l[n]? =some (k,z)) (f:MapEntry->MapEntry) (v:Int) (hf:∀e,(f e).born=e.born) (hg:∀e,e.key=K.enc k->e.val=I6 z->(f e).key=K.enc k/\(f e).val=I6 v):j0 K (es.modify n f) cl (l.set n (k,v)):=by
 have hb:(es.modify n f).toList.map (·.born)=es.toList.map (·.born):=by rw[Array.toList_modify];exact zbZ f hf es.toList n
 refine⟨?_,by rw[hb];exact h.rise,fun e he=>?_⟩
 ·have hp:=h.pairs;rw[Array.toList_modify]
  apply List.ext_getElem?
  intro j;have hj:=congrArg (fun(x:List (Value × Value))=>x[j]?) hp
  simp only[List.getElem?_map,List.getElem?_modify,List.getElem?_set]at hj⊢
  by_cases e:n=j
  ·subst e;rw[hn]at hj;have hnl:=(gS.1 hn).1
   cases hq:es.toList[n]? with
   | none=>rw[hq]at hj;simp at hj
   | some e0=>
    rw[hq]at hj
    simp at hj
    obtain⟨g1,g2⟩:=hg e0 hj.1 hj.2
    simp[hnl,g1,g2]
  simp only[e,if_false]at hj⊢
  cases hq:es.toList[j]? <;> rw[hq]at hj <;> simpa using hj
 have:e.born∈es.toList.map (·.born):=by rw[<-hb];exact List.mem_map.2 ⟨e,he,rfl⟩
 obtain⟨e',he',h'⟩:=List.mem_map.1 this;rw[<-h'];exact h.low e' he'
theorem j0.at {K:JO} {es:Array MapEntry} {l:List ((Int × Int) × Int)} (h:j0 K es cl l) {n:Nat} {k:Int × Int} (hn:l[n]? =some (k,z)):∃e0,es[n]? =some e0/\e0.key=K.enc k/\e0.val=I6 z:=by
 have:=congrArg (fun(x:List (Value × Value))=>x[n]?) h.pairs
 simp only[List.getElem?_map,hn,Option.map_some]at this
 cases hq:es[n]? with
 | none=>simp[hq]at this
 | some e0=>simp[hq]at this;exact⟨e0,rfl,this.1,this.2⟩
theorem zgL:∀{l:List Nat},l.Pairwise (·< ·)->∀{i j:Nat} {x:Nat},l[i]? =some x->l[j]? =some x->i=j
 | [],_,i,j,x,h,_=>by simp at h
 | a :: l,hp,i,j,x,h,h'=>by
  rw[List.pairwise_cons]at hp
  cases i with
  | zero=>
   cases j with
   | zero=>rfl
   | succ j=>
    simp at h h'
    subst h;have:=hp.1 a (mG h');omega
  | succ i=>
   cases j with
   | zero=>
    simp at h h'
    subst h';have:=hp.1 a (mG h);omega
   | succ j=>
    simp at h h'
    rw[zgL hp.2 h h']
theorem zb1 {K:JO} {w:World} {es es':Array MapEntry} {cl':Nat} {l:List ((Int × Int) × Int)} {g:Int × Int->Option Int} {k:Int × Int} {v:Int} (h1:w.heap[b]? =some (.map es cl)) (h3:∀k,JP l k=g k) (hs:j0 K es' cl' (zfL l k v)):
  Qg K (ChangeMaps.setBlock w b (.map es' cl')) b (fun x=>if x=k then some v else g x)/\w.grownBy (ChangeMaps.setBlock w b (.map es' cl')) (some b)/\(ChangeMaps.setBlock w b (.map es' cl')).heap.size=w.heap.size:=by
 refine⟨⟨es',cl',zfL l k v,ChangeMaps.heap_setBlock_same h1 _,⟨hs.pairs,hs.rise,hs.low⟩,fun x=>?_⟩,⟨rfl,rfl,rfl,by simp[ChangeMaps.setBlock],fun i _ hi=>ChangeMaps.heap_setBlock_other h1 _ (fun e=>hi (by rw[e]))⟩,by simp[ChangeMaps.setBlock]⟩
 rw[zaF,h3]
theorem Qg.put {K:JO} {w:World} {g:Int × Int->Option Int} (h:Qg K w b g) (ht:Tryz.prog.underlying t=some (.map K.ty e)) (k:Int × Int) (v:Int):
  ∃w',(Instr.mapUpdate t (.map (some b)) (K.enc k) (I6 v)).run prog w= .ok () w'/\Qg K w' b (fun x=>if x=k then some v else g x)/\w.grownBy w' (some b)/\w'.heap.size=w.heap.size:=by
 obtain⟨es,cl,l,h1,⟨h2,h4,h5⟩,h3⟩:=h;have hst:j0 K es cl l:=⟨h2,h4,h5⟩;have hf:=J4 K k w l es.toList h2
 cases hp:zcd l k 0 with
 | none=>
  rw[hp]at hf;have hput:=(JM hp).2 v;refine⟨ChangeMaps.setBlock w b (.map (es.push ⟨K.enc k,I6 v,cl⟩) (cl+1)),?_,zb1 h1 h3 (by rw[hput];exact hst.push k v)⟩
  simp[Instr.mapUpdate,run_underlying ht,MapKept.run_getObj_map h1,K.check,hf,MapKept.run_setObj_map _ h1,ChangeMaps.setBlock]
 | some q=>
  obtain⟨j,u⟩:=q;rw[hp]at hf;obtain⟨n,z,rfl,rfl,h6,_,h7⟩:=JK hp;rw[zA]at hf;obtain⟨e0,he0,hk0,_⟩:=hst.at h6;refine⟨ChangeMaps.setBlock w b (.map (es.modify n fun e=>{ e with key:=K.enc k,val:=I6 v }) cl),?_,zb1 h1 h3 (by rw[h7];exact hst.modify h6 _ v (fun _=>rfl) (fun _ _ _=>⟨rfl,rfl⟩))⟩
  simp[Instr.mapUpdate,run_underlying ht,MapKept.run_getObj_map h1,K.check,hf,he0,hk0,Instr.keyThatStays,K.bits,MapKept.run_setObj_map _ h1,ChangeMaps.setBlock]
def zlg (K:JO) (w:World) (b:Nat) (g:Int × Int->Option Int) (k:Int × Int) (st:Int):Prop:=
 ∃es cl l,w.heap[b]? =some (.map es cl)/\j0 K es cl l/\(∀k,JP l k=g k)/\∃(n:Nat) (z:Int) (e:MapEntry),l[n]? =some (k,z)/\(∀v,zfL l k v=l.set n (k,v))/\es[n]? =some e/\(e.born:Int)=st
theorem zlg.f {K:JO} {w:World} {g:Int × Int->Option Int} {k:Int × Int} {st:Int} (h:zlg K w b g k st):Qg K w b g:=by
 obtain⟨es,cl,l,h1,h2,h3,_⟩:=h;exact⟨es,cl,l,h1,⟨h2.pairs,h2.rise,h2.low⟩,h3⟩
theorem zew:∀{l:List ((Int × Int) × Int)} {k:Int × Int} (z v:Int),JP l k=none->zfL (l++ [(k,z)]) k v=(l++ [(k,z)]).set l.length (k,v)
 | [],k,z,v,_=>by simp[zfL]
 | p :: l,k,z,v,h=>by
  unfold JP at h
  by_cases e:k=p.1
  ·rw[if_pos e]at h;cases h
  rw[if_neg e]at h;simp only[List.cons_append,zfL,e,if_false,List.length_cons,sS];rw[zew z v h]
theorem Qg.entry {K:JO} {w:World} {g:Int × Int->Option Int} (h:Qg K w b g) (ht:Tryz.prog.underlying t=some (.map K.ty e)) (hz:(zeroValue e).run prog w= .ok (I6 0) w) (k:Int × Int):
  ∃w' st,(Instr.mapEntry t (.map (some b)) (K.enc k)).run prog w= .ok (.tuple #[I6 ((g k).getD 0),I6 st]) w'/\zlg K w' b (fun x=>if x=k then some ((g k).getD 0)else g x) k st/\w.grownBy w' (some b)/\w'.heap.size=w.heap.size:=by
 obtain⟨es,cl,l,h1,⟨h2,h4,h5⟩,h3⟩:=h;have hst:j0 K es cl l:=⟨h2,h4,h5⟩;have hf:=J4 K k w l es.toList h2
 cases hp:zcd l k 0 with
 | none=>
  rw[hp]at hf;obtain⟨hno,hput⟩:=JM hp;have hg:g k=none:=by rw[<-h3];exact hno
  have hs':=hst.push k 0;have hm:=zb1 h1 h3 (k:=k) (v:=0) (by rw[hput];exact hs')
  refine⟨ChangeMaps.setBlock w b (.map (es.push ⟨K.enc k,I6 0,cl⟩) (cl+1)),cl,?_,⟨_,_,_,ChangeMaps.heap_setBlock_same h1 _,hs',fun x=>?_,l.length,0,⟨K.enc k,I6 0,cl⟩,by simp,fun v=>zew 0 v hno,?_,rfl⟩,hm.2⟩
  ·rw[hg]
   simp[Instr.mapEntry,run_underlying ht,MapKept.run_getObj_map h1,K.check,hf,hz,MapKept.run_setObj_map _ h1,ChangeMaps.setBlock,goInt]
  ·rw[hg,<-hput,zaF,h3];rfl
  have:es.size=l.length:=by have:=congrArg List.length h2;simpa using this
  simp[<-this]
 | some q=>
  obtain⟨j,u⟩:=q;rw[hp]at hf;obtain⟨n,z,rfl,rfl,h6,h8,h7⟩:=JK hp;rw[zA]at hf;obtain⟨e0,he0,hk0,hv0⟩:=hst.at h6;have hg:g k=some z:=by rw[<-h3];exact h8
  have hs':j0 K (es.modify n fun e=>{ e with key:=K.enc k }) cl (l.set n (k,z)):=hst.modify h6 (fun e=>{ e with key:=K.enc k }) z (fun _=>rfl) (fun _ _ hv=>⟨rfl,hv⟩)
  have hm:=zb1 h1 h3 (k:=k) (v:=z) (by rw[h7];exact hs')
  have hnl:=(gS.1 h6).1;refine⟨ChangeMaps.setBlock w b (.map (es.modify n fun e=>{ e with key:=K.enc k }) cl),e0.born,?_,⟨_,_,_,ChangeMaps.heap_setBlock_same h1 _,hs',fun x=>?_,n,z,{ e0 with key:=K.enc k },sF hnl,fun v=>?_,?_,rfl⟩,hm.2⟩
  ·rw[hg]
   simp[Instr.mapEntry,run_underlying ht,MapKept.run_getObj_map h1,K.check,hf,he0,hk0,Instr.keyThatStays,K.bits,MapKept.run_setObj_map _ h1,ChangeMaps.setBlock,goInt]
  ·rw[hg,<-h7,zaF,h3];rfl
  ·rw[zdy h6,h7]
  rw[Array.getElem?_modify,if_pos rfl,he0];rfl
theorem zlg.store {K:JO} {w:World} {g:Int × Int->Option Int} {k:Int × Int} {st:Int} (h:zlg K w b g k st) (t:TypeId) (v:Int):
  ∃w',(Instr.entryStore t (.map (some b)) (I6 st) (I6 v)).run prog w= .ok () w'/\Qg K w' b (fun x=>if x=k then some v else g x)/\w.grownBy w' (some b)/\w'.heap.size=w.heap.size:=by
 obtain⟨es,cl,l,h1,hst,h3,n,z,e0,h6,h7,he0,rfl⟩:=h;have hnl:n<es.size:=(aS.1 he0).1;have hfind:es.findIdx? (fun e=>(e.born:Int) ==(e0.born:Int))=some n:=by
  rw[Array.findIdx?_eq_some_iff_getElem];refine⟨hnl,?_,fun j hj=>?_⟩
  ·have:es[n]=e0:=(aS.1 he0).2
   simp[this]
  intro hc;have hjl:j<es.size:=by omega
  have hc':es[j].born=e0.born:=by
   have:(es[j].born:Int)=(e0.born:Int):=by simpa using hc
   omega
  have q1:(es.toList.map (·.born))[n]? =some e0.born:=by simp[he0]
  have q2:(es.toList.map (·.born))[j]? =some e0.born:=by simp[hjl,hc']
  have:=zgL hst.rise q1 q2;omega
 refine⟨ChangeMaps.setBlock w b (.map (es.modify n fun e=>{ e with val:=I6 v }) cl),?_,zb1 h1 h3 (by rw[h7];exact hst.modify h6 _ v (fun _=>rfl) (fun _ hk _=>⟨hk,rfl⟩))⟩
 simp[Instr.entryStore,MapKept.run_getObj_map h1,asInt,asIntOf,hfind,MapKept.run_setObj_map _ h1,ChangeMaps.setBlock]
theorem zhH {K:JO} {w:World} {rest:List Oper} {a:Act} (hgd:o.guard=none) (t e:TypeId) (m x v:Operand) (hop:o.op= .mapUpdate t m x v) (ht:Tryz.prog.underlying t=some (.map K.ty e)) (b:Nat) (g:Int × Int->Option Int) (h:Qg K w b g) (k:Int × Int) (z:Int)
  (hm:a.eval m= .map (some b)) (hx:a.eval x=K.enc k) (hv:a.eval v=I6 z)
  (hK:∀w',Qg K w' b (fun x=>if x=k then some z else g x)->w.grownBy w' (some b)->w'.heap.size=w.heap.size->wpList prog ops Q rest (a.put o.dst undef) w'):wpList prog ops Q (o :: rest) a w:=by
 refine wpList_plain hgd fun K' hK'=>?_
 obtain⟨w',hrun,r1,r2,r3⟩:=h.put ht k z;unfold Oper.wp
 simp[execOp,hop,hm,hx,hv,hrun,Result.andThen]
 exact hK' _ _ (hK w' r1 r2 r3)
theorem zh0 (em:Bool) (a:Int × Int) (w:World):(Instr.checkKey em 10000 212 (.agg #[I6 a.1,I6 a.2])).run prog w= .ok () w:=by
 have hf : (Tryz.prog.fieldsOf 212).toList.map (fun f => (f.name, f.type, f.offset)) = [("file", 3, 0), ("index", 3, 1)] := by kernel_rfl
 have hu:∃fs,Tryz.prog.underlying 212=some (.struct fs)/\Tryz.prog.fieldsOf 212=fs:=⟨_,underlying212,by kernel_rfl⟩
 obtain⟨fs,hu,hfe⟩:=hu;rw[hfe]at hf;obtain⟨f0,f1,hfs⟩:∃f0 f1,fs.toList=[f0,f1]:=by
  have hl:fs.toList.length=2:=by have:=congrArg List.length hf;simpa using this
  match hq:fs.toList,hl with
  | [f0,f1],_=>exact⟨f0,f1,rfl⟩
 rw[hfs]at hf
 simp at hf
 obtain⟨⟨n0,t0,o0⟩,⟨n1,t1,o1⟩⟩:=hf;have pI:∀(zs:Array Value) (o:Nat) v,zs[o]? =some (I6 v)->(part 3 zs o).run prog w= .ok (I6 v) w:=fun zs o v hz=>run_part_plain w (by simp[Program.plainKey,underlying3]) hz
 have pB:∀(zs:Array Value) (o:Nat) v,zs[o]? =some (.bool v)->(part 4 zs o).run prog w= .ok (.bool v) w:=fun zs o v hz=>run_part_plain w (by simp[Program.plainKey,underlying4]) hz
 have cI:∀(v:Int) (n:Nat),(Instr.checkKey em (n+1) 3 (I6 v)).run prog w= .ok () w:=fun v n=>by
  unfold Instr.checkKey
  simp[run_underlying underlying3]
 have cB:∀(v:Bool) (n:Nat),(Instr.checkKey em (n+1) 4 (.bool v)).run prog w= .ok () w:=fun v n=>by
  unfold Instr.checkKey
  simp[run_underlying underlying4]
 rw[show(10000:Nat)=9999+1 from rfl,Instr.checkKey]
 simp only[Sem.run_bind,run_underlying hu,rA];rw[<-Array.forIn_toList,hfs];have k1:=cI a.1 9998;have k2:=cI a.2 9998;have k3:=cB false 9998;have q0:=pI (#[I6 a.1,I6 a.2]) 0 a.1 rfl;have q1:=pI (#[I6 a.1,I6 a.2]) 1 a.2 rfl
 simp[List.forIn_cons,n0,t0,o0,n1,t1,o1,q0,q1,k1,k2]
theorem zjq (a b:Int × Int) (w:World):(Op.equal 212 (.agg #[I6 a.1,I6 a.2]) (.agg #[I6 b.1,I6 b.2])).run prog w= .ok (decide (a=b)) w:=by
 have hf : (Tryz.prog.fieldsOf 212).toList.map (fun f => (f.name, f.type, f.offset)) = [("file", 3, 0), ("index", 3, 1)] := by kernel_rfl
 unfold Op.equal Op.maxDepth;rw[run_equalIn_struct w 9999 212 _ _ (by kernel_rfl) (by kernel_rfl)]
 obtain⟨f0,f1,hfs⟩:∃f0 f1,(Tryz.prog.fieldsOf 212).toList=[f0,f1]:=by
  have hl:(Tryz.prog.fieldsOf 212).toList.length=2:=by have:=congrArg List.length hf;simpa using this
  match hq:(Tryz.prog.fieldsOf 212).toList,hl with
  | [f0,f1],_=>exact⟨f0,f1,rfl⟩
 rw[hfs]at hf⊢
 simp at hf
 obtain⟨⟨n0,t0,o0⟩,⟨n1,t1,o1⟩⟩:=hf;have pI:∀(zs:Array Value) (o:Nat) v,zs[o]? =some (I6 v)->(part 3 zs o).run prog w= .ok (I6 v) w:=fun zs o v hz=>run_part_plain w (by simp[Program.plainKey,underlying3]) hz
 have pB:∀(zs:Array Value) (o:Nat) v,zs[o]? =some (.bool v)->(part 4 zs o).run prog w= .ok (.bool v) w:=fun zs o v hz=>run_part_plain w (by simp[Program.plainKey,underlying4]) hz
 simp only[Op.eqFields,n0,t0,o0,n1,t1,o1];obtain⟨a1,a2⟩:=a;obtain⟨b1,b2⟩:=b
 simp[pI,run_equalIn_int w _ _ _ _ _ _ underlying3]
 by_cases e1:a1=b1 <;> by_cases e2:a2=b2 <;> simp[e1,e2]
def plK:JO where
 ty:=212
 enc:=fun a=> .agg #[I6 a.1,I6 a.2]
 und:=⟨_,underlying212⟩
 check:=zh0
 same:=zjq
 bits:=fun a=>by simp[Instr.sameBits]
theorem ziH (em:Bool) (a:Int × Int) (w:World):(Instr.checkKey em 10000 74 (.agg #[I6 a.1,I6 a.2,.bool false])).run prog w= .ok () w:=by
 have hf : (Tryz.prog.fieldsOf 74).toList.map (fun f => (f.name, f.type, f.offset)) = [("Kind", 3, 0), ("N", 3, 1), ("Write", 4, 2)] := by kernel_rfl
 have hu:∃fs,Tryz.prog.underlying 74=some (.struct fs)/\Tryz.prog.fieldsOf 74=fs:=⟨_,underlying74,by kernel_rfl⟩
 obtain⟨fs,hu,hfe⟩:=hu;rw[hfe]at hf;obtain⟨f0,f1,f2,hfs⟩:∃f0 f1 f2,fs.toList=[f0,f1,f2]:=by
  have hl:fs.toList.length=3:=by have:=congrArg List.length hf;simpa using this
  match hq:fs.toList,hl with
  | [f0,f1,f2],_=>exact⟨f0,f1,f2,rfl⟩
 rw[hfs]at hf
 simp at hf
 obtain⟨⟨n0,t0,o0⟩,⟨n1,t1,o1⟩,⟨n2,t2,o2⟩⟩:=hf;have pI:∀(zs:Array Value) (o:Nat) v,zs[o]? =some (I6 v)->(part 3 zs o).run prog w= .ok (I6 v) w:=fun zs o v hz=>run_part_plain w (by simp[Program.plainKey,underlying3]) hz
 have pB:∀(zs:Array Value) (o:Nat) v,zs[o]? =some (.bool v)->(part 4 zs o).run prog w= .ok (.bool v) w:=fun zs o v hz=>run_part_plain w (by simp[Program.plainKey,underlying4]) hz
 have cI:∀(v:Int) (n:Nat),(Instr.checkKey em (n+1) 3 (I6 v)).run prog w= .ok () w:=fun v n=>by
  unfold Instr.checkKey
  simp[run_underlying underlying3]
 have cB:∀(v:Bool) (n:Nat),(Instr.checkKey em (n+1) 4 (.bool v)).run prog w= .ok () w:=fun v n=>by
  unfold Instr.checkKey
  simp[run_underlying underlying4]
 rw[show(10000:Nat)=9999+1 from rfl,Instr.checkKey]
 simp only[Sem.run_bind,run_underlying hu,rA];rw[<-Array.forIn_toList,hfs];have k1:=cI a.1 9998;have k2:=cI a.2 9998;have k3:=cB false 9998;have q0:=pI (#[I6 a.1,I6 a.2,.bool false]) 0 a.1 rfl;have q1:=pI (#[I6 a.1,I6 a.2,.bool false]) 1 a.2 rfl;have q2:=pB (#[I6 a.1,I6 a.2,.bool false]) 2 false rfl
 simp[List.forIn_cons,n0,t0,o0,n1,t1,o1,n2,t2,o2,q0,q1,q2,k1,k2,k3]
theorem zj4 (a b:Int × Int) (w:World):(Op.equal 74 (.agg #[I6 a.1,I6 a.2,.bool false]) (.agg #[I6 b.1,I6 b.2,.bool false])).run prog w= .ok (decide (a=b)) w:=by
 have hf : (Tryz.prog.fieldsOf 74).toList.map (fun f => (f.name, f.type, f.offset)) = [("Kind", 3, 0), ("N", 3, 1), ("Write", 4, 2)] := by kernel_rfl
 unfold Op.equal Op.maxDepth;rw[run_equalIn_struct w 9999 74 _ _ (by kernel_rfl) (by kernel_rfl)]
 obtain⟨f0,f1,f2,hfs⟩:∃f0 f1 f2,(Tryz.prog.fieldsOf 74).toList=[f0,f1,f2]:=by
  have hl:(Tryz.prog.fieldsOf 74).toList.length=3:=by have:=congrArg List.length hf;simpa using this
  match hq:(Tryz.prog.fieldsOf 74).toList,hl with
  | [f0,f1,f2],_=>exact⟨f0,f1,f2,rfl⟩
 rw[hfs]at hf⊢
 simp at hf
 obtain⟨⟨n0,t0,o0⟩,⟨n1,t1,o1⟩,⟨n2,t2,o2⟩⟩:=hf;have pI:∀(zs:Array Value) (o:Nat) v,zs[o]? =some (I6 v)->(part 3 zs o).run prog w= .ok (I6 v) w:=fun zs o v hz=>run_part_plain w (by simp[Program.plainKey,underlying3]) hz
 have pB:∀(zs:Array Value) (o:Nat) v,zs[o]? =some (.bool v)->(part 4 zs o).run prog w= .ok (.bool v) w:=fun zs o v hz=>run_part_plain w (by simp[Program.plainKey,underlying4]) hz
 simp only[Op.eqFields,n0,t0,o0,n1,t1,o1,n2,t2,o2];obtain⟨a1,a2⟩:=a;obtain⟨b1,b2⟩:=b
 simp[pI,pB,run_equalIn_bool' w _ _ _ _ underlying4,run_equalIn_int w _ _ _ _ _ _ underlying3]
 by_cases e1:a1=b1 <;> by_cases e2:a2=b2 <;> simp[e1,e2]
def enK:JO where
 ty:=74
 enc:=fun a=> .agg #[I6 a.1,I6 a.2,.bool false]
 und:=⟨_,underlying74⟩
 check:=ziH
 same:=zj4
 bits:=fun a=>by simp[Instr.sameBits]
theorem Box.ne_map {K:JO} {w:World} {cs:List Value} {g:Int × Int->Option Int} (h:Box w b cs) (k:Qg K w B g):b≠B:=fun e=>by
 subst e;obtain⟨t,h⟩:=h;obtain⟨es,cl,l,k1,_⟩:=k;rw[h]at k1;cases k1
theorem zb.ne_map {α:Type} {E:Elt α} {K:JO} {w:World} {base:Nat} {v:Value} {l:List α} {g:Int × Int->Option Int} (h:zb E base w v l) (k:Qg K w B g):∀x,v.ownBlock=some x->some B≠some x:=fun x hx e=>by
 cases e;obtain⟨cs,h1⟩:=h.obj hx;obtain⟨es,cl,l,k1,_⟩:=k;rw[h1]at k1;cases k1
theorem zmn (w:World):(zeroValue 3).run prog w= .ok (I6 0) w:=by kernel_rfl
theorem zdt (V:MaV) (m:Ma) (w:World) (hm:zF w V m):
  Calls prog 102 #[.agg (mL V m).toArray] w fun e w'=>∃B,e= .returned (.agg #[V.f.x,I6 m.hand,V.s.x,V.sb.x,V.sq.x,V.db.x,V.dq.x,V.fl.x,I6 m.cnt,V.ca.x,V.sp.x,.map (some B)])/\Qg plK w' B (Jp m.ca)/\zc w w':=by
 obtain⟨vf,vs,vsb,vsq,vdb,vdq,vfl,⟨caa,can,cac⟩,vsp⟩:=V;dsimp only[mL];obtain⟨-,-,-,-,-,-,-,n8,-⟩:=hm.ns;dsimp only at n8;have HR:Hid (zbn w caa m.ca):=hm.cas;have HN:Hid (m.ca.length=can):=n8.symm;have hbig:can<=9223372036854775807:=by have:=hm.ca.short;omega
 clear hm n8;have hmm:=@run_makeMap prog;obtain⟨W0,hW0⟩:∃W0,((w.alloc (.cells #[vf.x,I6 m.hand,vs.x,vsb.x,vsq.x,vdb.x,vdq.x,vfl.x,I6 m.cnt,.slice caa can cac,vsp.x] 41)).alloc (.cells #[eS,I6 0,eS,eS,eS,eS,eS,eS,I6 0,eS,eS,.map none] 172)).alloc (.map #[] 0)=W0:=⟨_,rfl⟩;have HG0:Hid (zc w W0):=dD<|by rw[<-hW0];exact((za _ _).trans (za _ _)).trans (za _ _)
 have X0:Hid (Box W0 w.heap.size [vf.x,I6 m.hand,vs.x,vsb.x,vsq.x,vdb.x,vdq.x,vfl.x,I6 m.cnt,.slice caa can cac,vsp.x]):=dD<|by rw[<-hW0];exact((Box.top _ _ _ rfl).alloc _).alloc _
 have Y0:Hid (Box W0 (w.heap.size+1) [eS,I6 0,eS,eS,eS,eS,eS,eS,I6 0,eS,eS,.map none]):=dD<|by rw[<-hW0];exact(Box.top _ _ _ (by simp)).alloc _
 have M0:Hid (Qg plK W0 (w.heap.size+1+1) (Jp (m.ca.take 0))):=dD<|by
  rw[<-hW0];have:=Qg.made plK ((w.alloc (.cells #[vf.x,I6 m.hand,vs.x,vsb.x,vsq.x,vdb.x,vdq.x,vfl.x,I6 m.cnt,.slice caa can cac,vsp.x] 41)).alloc (.cells #[eS,I6 0,eS,eS,eS,eS,eS,eS,I6 0,eS,eS,.map none] 172));have hs:((w.alloc (.cells #[vf.x,I6 m.hand,vs.x,vsb.x,vsq.x,vdb.x,vdq.x,vfl.x,I6 m.cnt,.slice caa can cac,vsp.x] 41)).alloc (.cells #[eS,I6 0,eS,eS,eS,eS,eS,eS,I6 0,eS,eS,.map none] 172)).heap.size=w.heap.size+1+1:=by simp
  rw[hs]at this;exact this.congr fun k=>by rw[List.take_zero];rfl
 have HW0:Hid (_=W0):=hW0;clear hW0
 go_enter func102,ntmps102
 go_upto_region 2 with fail;rw[HW0.out];clear hmm;have x9:=X0.c 9 rfl;go_wp2;clear x9
 go_loopg [10] can (fun gg s10 wr=>∃kk:Nat,kk<=can/\can - kk<=gg/\s10=I6 kk/\Hid (zc w wr)/\Hid (Box wr w.heap.size [vf.x,I6 m.hand,vs.x,vsb.x,vsq.x,vdb.x,vdq.x,vfl.x,I6 m.cnt,.slice caa can cac,vsp.x])/\Hid (Box wr (w.heap.size+1) [eS,I6 0,eS,eS,eS,eS,eS,eS,I6 0,eS,eS,.map none])/\Hid (Qg plK wr (w.heap.size+1+1) (Jp (m.ca.take kk))))
 case atStart=>exact⟨0,nZ _,by omega,rfl,HG0,X0,Y0,M0⟩
 obtain⟨kk,hkk,hgg,rfl,BW,XW,YW,MW⟩:=hrel
 by_cases hlt:kk<can
 ·have hltz:(kk:Int)< (can:Int):=by omega
  obtain⟨c,HC⟩:∃c,Hid (m.ca[kk]? =some c):=⟨_,gE (by rw[HN.out];exact hlt)⟩
  obtain⟨ad,rfl,hl⟩:=HR.out kk c HC.out;obtain⟨d0,d1,d2⟩:=hl wr BW.out;clear hl;go_upto_region 5 with fail;obtain⟨W1,hW1⟩:∃W1,wr.alloc (.cells #[I6 c.file,I6 c.idx,I6 c.fr] 124)=W1:=⟨_,rfl⟩;have HG1:=gT hW1 BW
  have X1:=yA hW1 XW
  have Y1:=yA hW1 YW
  have M1:Hid (Qg plK W1 (w.heap.size+1+1) (Jp (m.ca.take kk))):=dD<|by rw[<-hW1];exact MW.grew (za _ _)
  have C1:=xA hW1
  rw[hW1];clear hW1 d0 d1 d2;obtain⟨c0,c1,c2⟩:=C1.c3
  go_wp2_with (refine zhH (K:=plK) rfl 170 3 (.tmp 14) (.tmp 19) (.tmp 21) rfl underlying170 (w.heap.size+1+1) _ M1 (c.file,c.idx) c.fr rfl rfl rfl ?_)
  clear c0 c1 c2;intro W2 m2 hg2 _;have M2:Hid (Qg plK W2 (w.heap.size+1+1) (Jp (m.ca.take (kk+1)))):=dD<|m2.congr fun k=>by rw[qi HC.out,zeR]
  have HG2:Hid (zc w W2):=dD<|zd HG1 hg2 (by omega)
  have X2:Hid (Box W2 w.heap.size [vf.x,I6 m.hand,vs.x,vsb.x,vsq.x,vdb.x,vdq.x,vfl.x,I6 m.cnt,.slice (some ad) can cac,vsp.x]):=X1.grown hg2 (by omega)
  have Y2:Hid (Box W2 (w.heap.size+1) [eS,I6 0,eS,eS,eS,eS,eS,eS,I6 0,eS,eS,.map none]):=Y1.grown hg2 (by omega)
  clear m2 hg2;go_wp2
  go_roundg (can -(kk+1))
  case measure=>omega
  exact⟨kk+1,by omega,by omega,by go_num,HG2,X2,Y2,M2⟩
 have hltz:¬(kk:Int)< (can:Int):=by omega
 have:kk=can:=by omega
 subst this;have MA1:Hid (Qg plK wr (w.heap.size+1+1) (Jp m.ca)):=dD<|by
  have:=MW.out;rw[List.take_of_length_le (by rw[HN.out];exact nR _)]at this
  exact this
 obtain⟨x0,x1,x2,x3,x4,x5,x6,x7,x8,x9,x10⟩:=XW.c11
 go_wp2_with (refine zy rfl 172 (.tmp 2) (.tmp 25) rfl (w.heap.size+1) rfl [vf.x,I6 m.hand,vs.x,vsb.x,vsq.x,vdb.x,vdq.x,vfl.x,I6 m.cnt,.slice caa kk cac,vsp.x,.map (some (w.heap.size+1+1))] rfl YW rfl (by kernel_rfl) (fun v hv=>by
  simp only[mC,nM,or_false]at hv
  rcases hv with rfl|rfl|rfl|rfl|rfl|rfl|rfl|rfl|rfl|rfl|rfl|rfl <;> rfl) ?_)
 clear x0 x1 x2 x3 x4 x5 x6 x7 x8 x9 x10;intro W5 hb5 hg5 _;have G5:Hid (zc w W5):=dD<|zd BW hg5 (by omega)
 have M5:Hid (Qg plK W5 (w.heap.size+1+1) (Jp m.ca)):=MA1.kept hg5 (by simp)
 go_wp2;refine bodyPost_ret (qd rfl _ rfl hb5 underlying172 rfl (by kernel_rfl)) rfl ⟨_,rfl,M5,G5⟩
theorem zdX (V:MaV) (m:Ma) (B k:Nat) (g:Int × Int->Option Int) (w:World) (hm:zF w V m) (hk:k<m.fs.length) (hmap:Qg plK w B g):
  Calls prog 166 #[.agg #[V.f.x,I6 m.hand,V.s.x,V.sb.x,V.sq.x,V.db.x,V.dq.x,V.fl.x,I6 m.cnt,V.ca.x,V.sp.x,.map (some B)],I6 (k:Int)] w fun e w'=>e= .returned (.bool (decide (g ((zY m k).f,(zY m k).x)=some (k:Int))))/\zc w w':=by
 obtain⟨⟨fa,fn,fc⟩,vs,vsb,vsq,vdb,vdq,vfl,vca,vsp⟩:=V;dsimp only[mL];obtain⟨n1,-⟩:=hm.ns;dsimp only at n1;have hkn:k<fn:=by omega
 obtain⟨q,HQ⟩:∃q,Hid (m.fs[k]? =some q):=⟨_,gE hk⟩;have hfr:zY m (k:Int)=q:=by unfold zY;rw[tN,gD,HQ.out];rfl
 rw[hfr];obtain⟨ad,rfl,hl⟩:=(show Q3 w fa m.fs from hm.frs) k q HQ.out
 clear hfr hm n1 hk;obtain⟨W1,hW1⟩:∃W1,w.alloc (.cells #[.slice (some ad) fn fc,I6 m.hand,vs.x,vsb.x,vsq.x,vdb.x,vdq.x,vfl.x,I6 m.cnt,vca.x,vsp.x,.map (some B)] 172)=W1:=⟨_,rfl⟩;have HG1:=gA hW1
 have X1:=xA hW1
 have HS1:=sA hW1
 obtain⟨d0,d1,d2,d3,d4,d5,d6,d7,d8,d9,d10,d11,d12⟩:=hl W1 HG1.out;obtain⟨W2,hW2⟩:∃W2,W1.alloc (.cells #[U8 q.p.b0,U8 q.p.b1,U8 q.p.b2,U8 q.p.b3,U8 q.p.b4,U8 q.p.b5,U8 q.p.b6,U8 q.p.b7,I6 q.r,.bool q.u,.bool q.d,I6 q.f,I6 q.x] 69)=W2:=⟨_,rfl⟩;have HG2:=gT hW2 HG1
 have X2:=yA hW2 X1
 have F2:=xP hW2 HS1
 have hlook:(Instr.lookup 170 (.map (some B)) (.agg #[I6 q.f,I6 q.x]) true).run prog W2= .ok (.tuple #[I6 ((g (q.f,q.x)).getD 0),.bool (g (q.f,q.x)).isSome]) W2:=(hmap.grew HG2).look (K:=plK) underlying170 (zmn W2) (q.f,q.x) true;have HW1:Hid (_=W1):=hW1;have HW2:Hid (_=W2):=hW2;clear hW1 hW2 hl hmap;obtain⟨R,HRR⟩:∃R,Hid (decide (g (q.f,q.x)=some (k:Int))=R):=⟨_,rfl⟩;rw[HRR.out];obtain⟨gv,HGV⟩:∃gv,Hid (g (q.f,q.x)=gv):=⟨_,rfl⟩;rw[HGV.out]at hlook HRR
 go_enter func166,ntmps166
 go_upto_region 1 with fail;rw[HW1.out];have x0:=X1.c 0 rfl;go_upto_region 2 with fail;rw[HW2.out];rw[HS1.out];clear d0 d1 d2 d3 d4 d5 d6 d7 d8 d9 d10 d11 d12 x0;have x11:=X2.c 11 rfl;have f11:=F2.c 11 rfl;have f12:=F2.c 12 rfl
 cases gv with
 | none=>
  simp only[Option.getD_none,Option.isSome_none]at hlook;go_wp2;go_ret;exact⟨by rw[<-HRR.out];rfl,HG2⟩
 | some z=>
  simp only[Option.getD_some,Option.isSome_some]at hlook;have HE:Hid ((z ==(k:Int))=R):=dD<|by rw[<-HRR.out,Bool.eq_iff_iff];simp
  go_wp2;go_ret;exact⟨by rw[<-HE.out];rfl,HG2⟩
def QU (K:JO) (w:World) (b:Nat) (H:Int × Int->Int):Prop:=∃g,Qg K w b g/\∀k,(g k).getD 0=H k
theorem QU.grew {K:JO} {w:World} {H:Int × Int->Int} (h:QU K w b H) (k:zc w w'):QU K w' b H:=by
 obtain⟨g,h1,h2⟩:=h;exact⟨g,h1.grew k,h2⟩
theorem QU.congr {K:JO} {w:World} {H H':Int × Int->Int} (h:QU K w b H) (e:∀k,H k=H' k):QU K w b H':=by
 obtain⟨g,h1,h2⟩:=h;exact⟨g,h1,fun k=>(h2 k).trans (e k)⟩
theorem QU.ne_box {K:JO} {w:World} {cs:List Value} {H:Int × Int->Int} (k:QU K w B H) (h:Box w b cs):b≠B:=by
 obtain⟨g,h1,_⟩:=k;exact h.ne_map h1
theorem QU.ne_own {α:Type} {E:Elt α} {K:JO} {w:World} {base:Nat} {v:Value} {l:List α} {H:Int × Int->Int} (k:QU K w B H) (h:zb E base w v l):∀x,v.ownBlock=some x->some B≠some x:=by
 obtain⟨g,h1,_⟩:=k;exact h.ne_map h1
def zbu (K:JO) (w:World) (b:Nat) (H:Int × Int->Int) (k:Int × Int) (st:Int):Prop:=∃g,zlg K w b g k st/\∀x,(g x).getD 0=H x
theorem QU.entry {K:JO} {w:World} {H:Int × Int->Int} (h:QU K w b H) (ht:Tryz.prog.underlying t=some (.map K.ty e)) (hz:(zeroValue e).run prog w= .ok (I6 0) w) (k:Int × Int):
  ∃w' st,(Instr.mapEntry t (.map (some b)) (K.enc k)).run prog w= .ok (.tuple #[I6 (H k),I6 st]) w'/\zbu K w' b H k st/\w.grownBy w' (some b)/\w'.heap.size=w.heap.size:=by
 obtain⟨g,h1,h2⟩:=h;obtain⟨w',st,r1,r2,r3,r4⟩:=h1.entry ht hz k;rw[h2 k]at r1;refine⟨w',st,r1,⟨_,r2,fun x=>?_⟩,r3,r4⟩
 by_cases e:x=k
 ·subst e;rw[if_pos rfl];exact h2 x
 rw[if_neg e];exact h2 x
theorem zbu.h {K:JO} {w:World} {H:Int × Int->Int} {k:Int × Int} {st:Int} (h:zbu K w b H k st):QU K w b H:=by
 obtain⟨g,h1,h2⟩:=h;exact⟨g,h1.f,h2⟩
theorem QU.look {K:JO} {w:World} {H:Int × Int->Int} (h:QU K w b H) (ht:Tryz.prog.underlying t=some (.map K.ty e)) (hz:(zeroValue e).run prog w= .ok (I6 0) w) (k:Int × Int):
  (Instr.lookup t (.map (some b)) (K.enc k) false).run prog w= .ok (I6 (H k)) w:=by
 obtain⟨g,h1,h2⟩:=h;have:=h1.look ht hz k false;rw[h2 k]at this;exact this
def zlN (H:Int × Int->Int) (k:Int × Int):Int × Int->Int:=fun x=>H x+(if x=k then 1 else 0)
theorem zat {K:JO} {w:World} {rest:List Oper} {a:Act} (hgd:o.guard=none) (t:TypeId) (m s x:Operand) (hop:o.op= .entryStore t m s x) (b:Nat) (H:Int × Int->Int) (k:Int × Int) (st:Int) (h:zbu K w b H k st)
  (hm:a.eval m= .map (some b)) (hs:a.eval s=I6 st) (hv:a.eval x=I6 (H k+1))
  (hK:∀w',QU K w' b (zlN H k)->w.grownBy w' (some b)->w'.heap.size=w.heap.size->wpList prog ops Q rest (a.put o.dst undef) w'):wpList prog ops Q (o :: rest) a w:=by
 refine wpList_plain hgd fun K' hK'=>?_
 obtain⟨g,h1,h2⟩:=h;obtain⟨w',hrun,r1,r2,r3⟩:=h1.store t (H k+1);unfold Oper.wp
 simp[execOp,hop,hm,hs,hv,hrun,Result.andThen]
 refine hK' _ _ (hK w' ⟨_,r1,fun y=>?_⟩ r2 r3)
 unfold zlN
 by_cases e:y=k
 ·subst e;rw[if_pos rfl,if_pos rfl];rfl
 rw[if_neg e,if_neg e,h2 y];omega
theorem zjN (l:List Ca) (key:Int × Int):0<=Jr l key/\Jr l key<=l.length:=by
 unfold Jr zQ
 split
 ·have:=List.countP_le_length (p:=fun c:Ca=>decide (c.fr=key.2)) (l:=l)
  omega
 omega
theorem zcU (s:Sp):(qg s).length<=64:=by
 unfold qg;have:=List.length_filter_le (fun n=>enS (zk s n)) (List.range 64)
 simpa using this
theorem zkP (m:Ma) (i:Nat) (l:List Nat) (s:Sp) (key:Int × Int):0<=qu m i l s key/\qu m i l s key<=m.ca.length+64*m.sp.length+l.length:=by
 unfold qu;have h1:(if key.1=1 then zQ m.ca key.2 else 0)<=m.ca.length:=by
  split
  ·exact List.countP_le_length
  omega
 have h2:∀(L:List Sp),(L.map fun s=>(qg s).countP fun n=>isE (zk s n) key.1 key.2).sum<=64*L.length:=by
  intro L
  induction L with
  | nil=>simp
  | cons a L ih=>
   have h3:=List.countP_le_length (p:=fun n=>isE (zk a n) key.1 key.2) (l:=qg a)
   have h4:=zcU a;simp only[mP,List.sum_cons,List.length_cons];omega
 have h5:=h2 (m.sp.take i);have h6:(m.sp.take i).length<=m.sp.length:=by simp;omega
 have h7:=List.countP_le_length (p:=fun n=>isE (zk s n) key.1 key.2) (l:=l)
 omega
def zdx:Sp:=⟨true,[],[]⟩
theorem zfW (V:MaV) (m:Ma) (w:World) (hm:zF w V m) (hsp4:m.sp.length<=4) (htb:∀s∈m.sp,tbW s.tb=0):
  Calls prog 165 #[.agg (mL V m).toArray] w fun e w'=>∃B,e= .returned (.map (some B))/\QU enK w' B (qu m m.sp.length [] zdx)/\zc w w':=by
 obtain⟨vf,vs,vsb,vsq,vdb,vdq,vfl,⟨caa,can,cac⟩,⟨spa,spn,spc⟩⟩:=V;dsimp only[mL];obtain⟨-,-,-,-,-,-,-,n8,n9⟩:=hm.ns;dsimp only at n8 n9;have HR:Hid (zbn w caa m.ca):=hm.cas;have HN:Hid (m.ca.length=can):=n8.symm;have hbig:can<=140737488355328:=by have:=hm.ca.2;have h24:jc.bytes=24:=rfl;rw[h24]at this;omega
 obtain⟨xs,hxl,hrow,hsp⟩:=hm.spaces;have HXL:Hid (xs.length=m.sp.length):=hxl;have HRS:Hid (∀(j:Nat) x,xs[j]? =some x->∃ad,spa=some ad/\∀W,zc w W->zcs W (ad.add (j*10)) x):=hrow;have HSP:Hid (∀(i:Nat) x s,xs[i]? =some x->m.sp[i]? =some s->zZ w x s):=hsp;have HNS:Hid (m.sp.length=spn):=n9.symm;have HTBS:Hid (∀s∈m.sp,tbW s.tb=0):=htb;have HC0:Hid (∀j key,0<=Jr (m.ca.take j) key/\Jr (m.ca.take j) key<=140737488355328):=show∀j key,_ from fun j key=>by
  have h1:=zjN (m.ca.take j) key;have h2:(m.ca.take j).length<=m.ca.length:=by simp;omega
  omega
 have HH0:Hid (∀i l s key,l.length<=64->0<=qu m i l s key/\qu m i l s key<=140737488360000):=dD<|fun i l s key hl=>by
  have h1:=zkP m i l s key;omega
 have hsn4:spn<=4:=by omega
 clear hm n8 n9 hxl hrow hsp hsp4 htb;have hmm:=@run_makeMap prog;obtain⟨W0,hW0⟩:∃W0,(w.alloc (.cells #[vf.x,I6 m.hand,vs.x,vsb.x,vsq.x,vdb.x,vdq.x,vfl.x,I6 m.cnt,.slice caa can cac,.slice spa spn spc] 41)).alloc (.map #[] 0)=W0:=⟨_,rfl⟩;have HG0:Hid (zc w W0):=dD<|by rw[<-hW0];exact(za _ _).trans (za _ _)
 have X0:Hid (Box W0 w.heap.size [vf.x,I6 m.hand,vs.x,vsb.x,vsq.x,vdb.x,vdq.x,vfl.x,I6 m.cnt,.slice caa can cac,.slice spa spn spc]):=dD<|by rw[<-hW0];exact(Box.top _ _ _ rfl).alloc _
 have M0:Hid (QU enK W0 (w.heap.size+1) (Jr (m.ca.take 0))):=dD<|by
  rw[<-hW0];have:=Qg.made enK (w.alloc (.cells #[vf.x,I6 m.hand,vs.x,vsb.x,vsq.x,vdb.x,vdq.x,vfl.x,I6 m.cnt,.slice caa can cac,.slice spa spn spc] 41));have hs:(w.alloc (.cells #[vf.x,I6 m.hand,vs.x,vsb.x,vsq.x,vdb.x,vdq.x,vfl.x,I6 m.cnt,.slice caa can cac,.slice spa spn spc] 41)).heap.size=w.heap.size+1:=by simp
  rw[hs]at this;exact⟨_,this,fun k=>by rw[List.take_zero,zih];rfl⟩
 have HW0:Hid (_=W0):=hW0;clear hW0
 go_enter func165,ntmps165
 go_upto_region 2 with fail;rw[HW0.out];clear hmm;have x9:=X0.c 9 rfl;go_wp2;clear x9
 go_loopg [15] can (fun gg s15 wr=>∃kk:Nat,kk<=can/\can - kk<=gg/\s15=I6 kk/\Hid (zc w wr)/\Hid (Box wr w.heap.size [vf.x,I6 m.hand,vs.x,vsb.x,vsq.x,vdb.x,vdq.x,vfl.x,I6 m.cnt,.slice caa can cac,.slice spa spn spc])/\Hid (QU enK wr (w.heap.size+1) (Jr (m.ca.take kk))))
 case atStart=>exact⟨0,nZ _,by omega,rfl,HG0,X0,M0⟩
 obtain⟨kk,hkk,hgg,rfl,BW,XW,MW⟩:=hrel
 by_cases hlt:kk<can
 ·have hltz:(kk:Int)< (can:Int):=by omega
  obtain⟨c,HC⟩:∃c,Hid (m.ca[kk]? =some c):=⟨_,gE (by rw[HN.out];exact hlt)⟩
  obtain⟨ad,rfl,hl⟩:=HR.out kk c HC.out;obtain⟨d0,d1,d2⟩:=hl wr BW.out;clear hl;go_upto_region 5 with fail;obtain⟨W1,hW1⟩:∃W1,wr.alloc (.cells #[I6 c.file,I6 c.idx,I6 c.fr] 124)=W1:=⟨_,rfl⟩;have HG1:=gT hW1 BW
  have X1:=yA hW1 XW
  have M1:Hid (QU enK W1 (w.heap.size+1) (Jr (m.ca.take kk))):=dD<|by rw[<-hW1];exact MW.grew (za _ _)
  have C1:=xA hW1
  rw[hW1];clear hW1 d0 d1 d2;obtain⟨pb,HPB⟩:∃pb,Hid (wr.heap.size=pb):=⟨_,rfl⟩;rw[HPB.out]at C1⊢;obtain⟨H,HH⟩:∃H,Hid (Jr (m.ca.take kk)=H):=⟨_,rfl⟩;rw[HH.out]at M1;obtain⟨hb0,hb1⟩:0<=H (1,c.fr)/\H (1,c.fr)<=140737488355328:=by rw[<-HH.out];exact HC0 kk (1,c.fr)
  obtain⟨I,hI⟩:∃I:World->Prop,I=fun u=>QU enK u (w.heap.size+1) H/\Box u pb [I6 c.file,I6 c.idx,I6 c.fr]/\Box u w.heap.size [vf.x,I6 m.hand,vs.x,vsb.x,vsq.x,vdb.x,vdq.x,vfl.x,I6 m.cnt,.slice (some ad) can cac,.slice spa spn spc]/\zc w u:=⟨_,rfl⟩
  have HI:Hid (∀u,I u↔QU enK u (w.heap.size+1) H/\Box u pb [I6 c.file,I6 c.idx,I6 c.fr]/\Box u w.heap.size [vf.x,I6 m.hand,vs.x,vsb.x,vsq.x,vdb.x,vdq.x,vfl.x,I6 m.cnt,.slice (some ad) can cac,.slice spa spn spc]/\zc w u):=dD<|fun u=>by rw[hI]
  clear hI;have hx2:∀y:zj I,y.world.cell? ⟨pb,2,none⟩=some (I6 c.fr):=fun y=>((HI _).1 y.holds).2.1.c 2 rfl
  have hlk:∀y:zj I,(Instr.lookup 229 (.map (some (w.heap.size+1))) (.agg #[I6 1,I6 c.fr,.bool false]) false).run prog y.world= .ok (I6 (H (1,c.fr))) y.world:=fun y=>((HI _).1 y.holds).1.look (K:=enK) underlying229 (zmn _) (1,c.fr)
  have hI0:I W1.drew:=(HI _).2 ⟨M1.grew (gW _),C1.grew (gW _),X1.grew (gW _),HG1.trans (gW _)⟩
  have hne:Nonempty (zj I):=⟨⟨_,hI0⟩⟩;refine qJ (I:=I) 8 [(6,⟨fun v=>∃st,v= .tuple #[I6 (H (1,c.fr)),I6 st],fun v w'=>∃st,v= .tuple #[I6 (H (1,c.fr)),I6 st]/\zbu enK w' (w.heap.size+1) H (1,c.fr) st,fun _ _=>True,fun _=>True⟩)] hI0 qh (by kernel_rfl) rfl rfl (by decide) ?hS ?hp ?hpre ?hpr0 ?_
  case hS=>
   intro y hy;simp only[mC,nM,or_false]at hy;subst hy;exact⟨_,0,rfl⟩
  case hp=>
   intro k s j t' hk hj hjk _ v p q hst hpo;obtain⟨rfl,rfl⟩:=zaZ hk;obtain⟨rfl,rfl⟩:=zaZ hj;exact absurd rfl hjk
  case hpre=>
   intro j t' k s hj hk hjk p q hst hpr;obtain⟨rfl,rfl⟩:=zaZ hj;trivial
  case hpr0=>
   intro k t' hk;obtain⟨rfl,rfl⟩:=zaZ hk;trivial
  simp only[List.take,List.drop];iterate 6 (refine zm rfl rfl rfl (fun K hK=>?_);go_big_quiet_op;refine hK _ ?_;clear hK)
  refine zL rfl rfl (fun w' hI' hpr hF=>?_) (fun v1 hv=>?_)
  ·obtain⟨i1,i2,i3,i4⟩:=(HI _).1 hI';obtain⟨w2,st,hrun,r1,r2,r3⟩:=i1.entry (K:=enK) underlying229 (zmn w') (1,c.fr);have hrun':(Instr.mapEntry 229 (.map (some (w.heap.size+1))) (.agg #[I6 1,I6 c.fr,.bool false])).run prog w'= .ok (.tuple #[I6 (H (1,c.fr)),I6 st]) w2:=hrun;clear hx2 hlk hne;refine zN.step (v:= .tuple #[I6 (H (1,c.fr)),I6 st]) (w':=w2) (by simp only[execOp];go_simp) ⟨(HI _).2 ⟨r1.h,i2.grown r2 (i1.ne_box i2),i3.grown r2 (i1.ne_box i3),zd i4 r2 (by omega)⟩,trivial,⟨_,rfl⟩,_,rfl,r1⟩
  obtain⟨st,rfl⟩:=hv;simp only[Act.put,sB,sS,sZ];iterate 1 (refine zm rfl rfl rfl (fun K hK=>?_);go_big_quiet_op;refine hK _ ?_;clear hK)
  refine jF fun W3 hI3 hF=>?_
  obtain⟨i1,i2,i3,i4⟩:=(HI _).1 hI3;obtain⟨st',hst,hE⟩:∃st',(Value.tuple #[I6 (H (1,c.fr)),I6 st])= .tuple #[I6 (H (1,c.fr)),I6 st']/\zbu enK W3 (w.heap.size+1) H (1,c.fr) st':=hF 6;have hE':zbu enK W3 (w.heap.size+1) H (1,c.fr) st:=by
   simp at hst
   rw[hst];exact hE
  have X3:Hid (Box W3 w.heap.size [vf.x,I6 m.hand,vs.x,vsb.x,vsq.x,vdb.x,vdq.x,vfl.x,I6 m.cnt,.slice (some ad) can cac,.slice spa spn spc]):=i3;have HG3:Hid (zc w W3):=i4;have HE3:Hid (zbu enK W3 (w.heap.size+1) H (1,c.fr) st):=hE';clear hx2 hlk hne hF hI3 i1 i2 i3 i4 hE hst hE' hI0;refine zat (K:=enK) rfl 229 (.tmp 19) (.tmp 26) (.tmp 24) rfl (w.heap.size+1) H (1,c.fr) st HE3 rfl rfl (by go_num) ?_
  intro W4 m4 hg4 _;have X4:Hid (Box W4 w.heap.size [vf.x,I6 m.hand,vs.x,vsb.x,vsq.x,vdb.x,vdq.x,vfl.x,I6 m.cnt,.slice (some ad) can cac,.slice spa spn spc]):=X3.grown hg4 (by omega)
  have HG4:Hid (zc w W4):=dD<|zd HG3 hg4 (by omega)
  have M4:Hid (QU enK W4 (w.heap.size+1) (Jr (m.ca.take (kk+1)))):=dD<|m4.congr fun k=>by rw[qi HC.out,zhe,<-HH.out];rfl
  clear m4 hg4 hb0 hb1;go_wp2
  go_roundg (can -(kk+1))
  case measure=>omega
  exact⟨kk+1,by omega,by omega,by go_num,HG4,X4,M4⟩
 have hltz:¬(kk:Int)< (can:Int):=by omega
 have:kk=can:=by omega
 subst this;have MA1:Hid (QU enK wr (w.heap.size+1) (qu m 0 [] zdx)):=dD<|MW.congr fun k=>by
  rw[List.take_of_length_le (by rw[HN.out];exact nR _)]
  exact zii m zdx k
 have x10:=XW.c 10 rfl;go_wp2;clear x10;have HBW:Hid (zc w wr):=BW
 go_loopg [31] spn (fun gg s31 wr=>∃i:Nat,i<=spn/\spn - i<=gg/\s31=I6 i/\Hid (zc w wr)/\Hid (QU enK wr (w.heap.size+1) (qu m i [] zdx)))
 case atStart=>exact⟨0,nZ _,by omega,rfl,HBW,MA1⟩
 obtain⟨i,hi,hg2,rfl,BW,MW⟩:=hrel
 by_cases hlt2:i<spn
 ·have hltz2:(i:Int)< (spn:Int):=by omega
  obtain⟨s,HS⟩:∃s,Hid (m.sp[i]? =some s):=⟨_,gE (by rw[HNS.out];exact hlt2)⟩
  obtain⟨x,HX⟩:∃x,Hid (xs[i]? =some x):=⟨_,gE (by rw[HXL.out,HNS.out];exact hlt2)⟩
  have HAT:Hid (zZ w x s):=HSP.out i x s HX HS.out;obtain⟨ad,rfl,hl⟩:=HRS.out i x HX.out;obtain⟨d0,d1,d2,d3,d4,d5,d6,d7,d8,d9⟩:=hl wr BW.out;clear hl;go_upto_region 10 with fail;obtain⟨W1,hW1⟩:∃W1,wr.alloc (.cells #[.bool x.live,x.ar.x,x.t0.x,x.t1.x,x.t2.x,x.t3.x,x.t4.x,x.t5.x,x.t6.x,x.t7.x] 55)=W1:=⟨_,rfl⟩;have HG1:=gT hW1 BW
  have M1:Hid (QU enK W1 (w.heap.size+1) (qu m i [] s)):=dD<|by rw[<-hW1];exact(MW.grew (za _ _)).congr fun k=>by unfold qu;simp
  have S1:=xA hW1
  rw[hW1];clear hW1 d0 d1 d2 d3 d4 d5 d6 d7 d8 d9;obtain⟨pb,HPB⟩:∃pb,Hid (wr.heap.size=pb):=⟨_,rfl⟩;rw[HPB.out]at S1⊢;have hcall:Calls prog 90 #[.agg #[x.t0.x,x.t1.x,x.t2.x,x.t3.x,x.t4.x,x.t5.x,x.t6.x,x.t7.x]] W1 fun e w'=>∃v,e= .returned v/\zb blE W1.heap.size w' v (qo s.tb Ze 64)/\zc W1 w':=QJ x.tab s.tb W1 (HAT.grew HG1).tb
  have s2:=S1.c 2 rfl;have s3:=S1.c 3 rfl;have s4:=S1.c 4 rfl;have s5:=S1.c 5 rfl;have s6:=S1.c 6 rfl;have s7:=S1.c 7 rfl;have s8:=S1.c 8 rfl;have s9:=S1.c 9 rfl;go_wp2_with fail;refine hcall.mono ?_;clear hcall s2 s3 s4 s5 s6 s7 s8 s9;rintro e' W2 ⟨pv,rfl,ow2,hg2'⟩;have HG2:=dD (HG1.trans hg2');have M2:=dD (M1.grew hg2');have S2:=dD (S1.grew hg2');have HW1L:Hid (w.heap.size<=W1.heap.size):=show _<=_ from bS HG1.out
  clear hg2';obtain⟨pa,pc,rfl⟩:=ow2.form;have hq0:=ow2.at.short;rw[jX]at ow2 hq0⊢;rw[List.length_map]at ow2 hq0⊢;obtain⟨q,HQ⟩:∃q,Hid ((qg s).length=q):=⟨_,rfl⟩;rw[HQ.out]at ow2 hq0⊢;have OW2:Hid (zb blE W1.heap.size W2 (.slice pa q pc) ((qg s).map fun(n:Nat)=>(n:Int))):=ow2
  have hq64:q<=64:=by rw[<-HQ.out];exact zcU s
  clear ow2;go_wp2
  go_loopg [39] q (fun gg s39 wr=>∃j:Nat,j<=q/\q - j<=gg/\s39=I6 j/\Hid (zc w wr)/\Hid (zb blE W1.heap.size wr (.slice pa q pc) ((qg s).map fun(n:Nat)=>(n:Int)))/\Hid (Box wr pb [.bool x.live,x.ar.x,x.t0.x,x.t1.x,x.t2.x,x.t3.x,x.t4.x,x.t5.x,x.t6.x,x.t7.x])/\Hid (QU enK wr (w.heap.size+1) (qu m i ((qg s).take j) s)))
  case atStart=>exact⟨0,nZ _,by omega,rfl,HG2,OW2,S2,by rw[List.take_zero];exact M2⟩
  obtain⟨j,hj,hg3,rfl,BW,OW,SW,MW⟩:=hrel
  by_cases hlt3:j<q
  ·have hltz3:(j:Int)< (q:Int):=by omega
   obtain⟨n,HNI⟩:∃n,Hid ((qg s)[j]? =some n):=⟨_,gE (by rw[HQ.out];exact hlt3)⟩
   have hn64:n<64:=zeA HNI.out;have HTS:Hid ((qg s).take (j+1)=(qg s).take j++ [n]):=qi HNI.out;obtain⟨_,_,heq,hnr⟩:=OW.at.nums;simp only[vJ]at heq;obtain⟨ad2,had2,hl2⟩:=hnr j (n:Int) (by rw[List.getElem?_map,HNI.out];rfl)
   have e0:=hl2 wr (zc.refl _);rw[<-heq.1]at had2;subst had2;clear hl2 heq hnr;have hcg:Calls prog 104 #[.agg #[x.t0.x,x.t1.x,x.t2.x,x.t3.x,x.t4.x,x.t5.x,x.t6.x,x.t7.x],I6 (n:Int)] wr fun e w'=>e= .returned (enV (zk s n))/\zc wr w':=by
    have:=zaI x.tab s.tb (n:Int) wr (HAT.grew BW).tb;rw[zgD hn64]at this;exact this
   obtain⟨en,HEN⟩:∃en,Hid (zk s n=en):=⟨_,rfl⟩;rw[HEN.out]at hcg;have s2:=SW.c 2 rfl;have s3:=SW.c 3 rfl;have s4:=SW.c 4 rfl;have s5:=SW.c 5 rfl;have s6:=SW.c 6 rfl;have s7:=SW.c 7 rfl;have s8:=SW.c 8 rfl;have s9:=SW.c 9 rfl;go_wp2_with fail;refine hcg.mono ?_;clear hcg e0 s2 s3 s4 s5 s6 s7 s8 s9;rintro e' W4 ⟨rfl,hg4⟩;have HG4:=dD (BW.trans hg4);have OW4:=dD (OW.grew hg4)
   have S4:=dD (SW.grew hg4);have M4:=dD (MW.grew hg4);clear hg4;unfold enV;go_upto_region 14 with fail;obtain⟨W5,hW5⟩:∃W5,W4.alloc (.cells #[I6 en.kind,I6 en.n,.bool en.wr] 74)=W5:=⟨_,rfl⟩;have HG5:=gT hW5 HG4
   have OW5:Hid (zb blE W1.heap.size W5 (.slice (some ad2) q pc) ((qg s).map fun(n:Nat)=>(n:Int))):=dD<|by rw[<-hW5];exact OW4.grew (za _ _)
   have S5:=yA hW5 S4
   have M5:Hid (QU enK W5 (w.heap.size+1) (qu m i ((qg s).take j) s)):=dD<|by rw[<-hW5];exact M4.grew (za _ _)
   have E5:=xA hW5
   rw[hW5];clear hW5;obtain⟨pe,HPE⟩:∃pe,Hid (W4.heap.size=pe):=⟨_,rfl⟩;rw[HPE.out]at E5⊢;obtain⟨H,HH⟩:∃H,Hid (qu m i ((qg s).take j) s=H):=⟨_,rfl⟩;rw[HH.out]at M5;obtain⟨hb0,hb1⟩:0<=H (en.kind,en.n)/\H (en.kind,en.n)<=140737488360000:=by rw[<-HH.out];exact HH0 i _ s (en.kind,en.n) (by simp;omega)
   obtain⟨I,hI⟩:∃I:World->Prop,I=fun u=>QU enK u (w.heap.size+1) H/\Box u pe [I6 en.kind,I6 en.n,.bool en.wr]/\Box u pb [.bool x.live,x.ar.x,x.t0.x,x.t1.x,x.t2.x,x.t3.x,x.t4.x,x.t5.x,x.t6.x,x.t7.x]/\zb blE W1.heap.size u (.slice (some ad2) q pc) ((qg s).map fun(n:Nat)=>(n:Int))/\zc w u:=⟨_,rfl⟩
   have HI:Hid (∀u,I u↔QU enK u (w.heap.size+1) H/\Box u pe [I6 en.kind,I6 en.n,.bool en.wr]/\Box u pb [.bool x.live,x.ar.x,x.t0.x,x.t1.x,x.t2.x,x.t3.x,x.t4.x,x.t5.x,x.t6.x,x.t7.x]/\zb blE W1.heap.size u (.slice (some ad2) q pc) ((qg s).map fun(n:Nat)=>(n:Int))/\zc w u):=dD<|fun u=>by rw[hI]
   clear hI;have hx0:∀y:zj I,y.world.cell? ⟨pe,0,none⟩=some (I6 en.kind):=fun y=>((HI _).1 y.holds).2.1.c 0 rfl
   have hx1:∀y:zj I,y.world.cell? ⟨pe,1,none⟩=some (I6 en.n):=fun y=>((HI _).1 y.holds).2.1.c 1 rfl
   have hlk:∀y:zj I,(Instr.lookup 229 (.map (some (w.heap.size+1))) (.agg #[I6 en.kind,I6 en.n,.bool false]) false).run prog y.world= .ok (I6 (H (en.kind,en.n))) y.world:=fun y=>((HI _).1 y.holds).1.look (K:=enK) underlying229 (zmn _) (en.kind,en.n)
   have hI0:I W5.drew:=(HI _).2 ⟨M5.grew (gW _),E5.grew (gW _),S5.grew (gW _),OW5.grew (gW _),HG5.trans (gW _)⟩
   have hne:Nonempty (zj I):=⟨⟨_,hI0⟩⟩;refine qJ (I:=I) 10 [(8,⟨fun v=>∃st,v= .tuple #[I6 (H (en.kind,en.n)),I6 st],fun v w'=>∃st,v= .tuple #[I6 (H (en.kind,en.n)),I6 st]/\zbu enK w' (w.heap.size+1) H (en.kind,en.n) st,fun _ _=>True,fun _=>True⟩)] hI0 qh (by kernel_rfl) rfl rfl (by decide) ?hS ?hp ?hpre ?hpr0 ?_
   case hS=>
    intro y hy;simp only[mC,nM,or_false]at hy;subst hy;exact⟨_,0,rfl⟩
   case hp=>
    intro k s j t' hk hj hjk _ v p q hst hpo;obtain⟨rfl,rfl⟩:=zaZ hk;obtain⟨rfl,rfl⟩:=zaZ hj;exact absurd rfl hjk
   case hpre=>
    intro j t' k s hj hk hjk p q hst hpr;obtain⟨rfl,rfl⟩:=zaZ hj;trivial
   case hpr0=>
    intro k t' hk;obtain⟨rfl,rfl⟩:=zaZ hk;trivial
   simp only[List.take,List.drop];iterate 8 (refine zm rfl rfl rfl (fun K hK=>?_);go_big_quiet_op;refine hK _ ?_;clear hK)
   refine zL rfl rfl (fun w' hI' hpr hF=>?_) (fun v1 hv=>?_)
   ·obtain⟨i1,i2,i3,i4,i5⟩:=(HI _).1 hI';obtain⟨w2,st,hrun,r1,r2,r3⟩:=i1.entry (K:=enK) underlying229 (zmn w') (en.kind,en.n);have hrun':(Instr.mapEntry 229 (.map (some (w.heap.size+1))) (.agg #[I6 en.kind,I6 en.n,.bool false])).run prog w'= .ok (.tuple #[I6 (H (en.kind,en.n)),I6 st]) w2:=hrun;clear hx0 hx1 hlk hne;refine zN.step (v:= .tuple #[I6 (H (en.kind,en.n)),I6 st]) (w':=w2) (by simp only[execOp];go_simp) ⟨(HI _).2 ⟨r1.h,i2.grown r2 (i1.ne_box i2),i3.grown r2 (i1.ne_box i3),i4.grown r2 (i1.ne_own i4),zd i5 r2 (by omega)⟩,trivial,⟨_,rfl⟩,_,rfl,r1⟩
   obtain⟨st,rfl⟩:=hv;simp only[Act.put,sB,sS,sZ];iterate 1 (refine zm rfl rfl rfl (fun K hK=>?_);go_big_quiet_op;refine hK _ ?_;clear hK)
   refine jF fun W6 hI6 hF=>?_
   obtain⟨i1,i2,i3,i4,i5⟩:=(HI _).1 hI6;obtain⟨st',hst,hE⟩:∃st',(Value.tuple #[I6 (H (en.kind,en.n)),I6 st])= .tuple #[I6 (H (en.kind,en.n)),I6 st']/\zbu enK W6 (w.heap.size+1) H (en.kind,en.n) st':=hF 8;have hE':zbu enK W6 (w.heap.size+1) H (en.kind,en.n) st:=by
    simp at hst
    rw[hst];exact hE
   have S6:Hid (Box W6 pb [.bool x.live,x.ar.x,x.t0.x,x.t1.x,x.t2.x,x.t3.x,x.t4.x,x.t5.x,x.t6.x,x.t7.x]):=i3;have OW6:Hid (zb blE W1.heap.size W6 (.slice (some ad2) q pc) ((qg s).map fun(n:Nat)=>(n:Int))):=i4
   have HG6:Hid (zc w W6):=i5;have M6:Hid (QU enK W6 (w.heap.size+1) H):=i1;have HE6:Hid (zbu enK W6 (w.heap.size+1) H (en.kind,en.n) st):=hE';clear hx0 hx1 hlk hne hF hI6 i1 i2 i3 i4 i5 hE hst hE' hI0;refine zat (K:=enK) rfl 229 (.tmp 47) (.tmp 56) (.tmp 54) rfl (w.heap.size+1) H (en.kind,en.n) st HE6 rfl rfl (by go_num) ?_
   intro W7 m7 hg7 _;have S7:Hid (Box W7 pb [.bool x.live,x.ar.x,x.t0.x,x.t1.x,x.t2.x,x.t3.x,x.t4.x,x.t5.x,x.t6.x,x.t7.x]):=S6.grown hg7 (M6.ne_box S6);have OW7:Hid (zb blE W1.heap.size W7 (.slice (some ad2) q pc) ((qg s).map fun(n:Nat)=>(n:Int))):=OW6.grown hg7 (M6.ne_own OW6)
   have HG7:Hid (zc w W7):=dD<|zd HG6 hg7 (by omega)
   have M7:Hid (QU enK W7 (w.heap.size+1) (qu m i ((qg s).take (j+1)) s)):=dD<|m7.congr fun k=>by rw[HTS.out,zif,HEN.out,HH.out];rfl
   clear m7 hg7 hb0 hb1;go_wp2
   go_roundg (q -(j+1))
   case measure=>omega
   exact⟨j+1,by omega,by omega,by go_num,HG7,OW7,S7,M7⟩
  have hltz3:¬(j:Int)< (q:Int):=by omega
  have:j=q:=by omega
  subst this;have M8:Hid (QU enK wr (w.heap.size+1) (qu m (i+1) [] zdx)):=dD<|MW.congr fun k=>by
   rw[List.take_of_length_le (by rw[HQ.out];exact nR _)]
   exact zig m i s zdx HS k
  go_wp2
  go_roundg (spn -(i+1))
  case measure=>omega
  exact⟨i+1,by omega,by omega,by go_num,BW,M8⟩
 have hltz2:¬(i:Int)< (spn:Int):=by omega
 have:i=spn:=by omega
 subst this;have M9:Hid (QU enK wr (w.heap.size+1) (qu m m.sp.length [] zdx)):=dD<|by rw[HNS.out];exact MW.out
 go_wp2;go_ret;exact⟨_,rfl,M9,BW⟩
def qH (fl:List Fl) (i:Nat) (bl:List Int):List Int:=(zak (fl.take i))++bl
theorem zab {n:Nat} {g h:List Int} (e:∀i:Nat,i<n->g.contains (i:Int)=h.contains (i:Int)):qz n g=qz n h:=by
 unfold qz
 apply List.map_congr_left
 intro i hi;rw[e i (List.mem_range.1 hi)]
theorem zhj (fl:List Fl) (i:Nat) (bl:List Int) {b:Int} (hb:b<0) (n:Nat):qz n (qH fl i (bl++ [b]))=qz n (qH fl i bl):=zab fun j _=>by
 unfold qH;have:¬(j:Int)=b:=by omega
 simp[this]
theorem ziy (fl:List Fl) (i:Nat) (bl:List Int) (b:Nat) (n:Nat):qz n ((b:Int) :: qH fl i bl)=qz n (qH fl i (bl++ [(b:Int)])):=zab fun j _=>by
 unfold qH;rw[Bool.eq_iff_iff];simp only[List.contains_eq_mem,mC,List.mem_append,nM,or_false,decide_eq_true_eq];constructor
 ·rintro(h|h|h)
  ·exact .inr (.inr h)
  ·exact .inl h
  exact .inr (.inl h)
 rintro(h|h|h)
 ·exact .inr (.inl h)
 ·exact .inr (.inr h)
 exact .inl h
theorem zhk {fl:List Fl} {f:Fl} (hf:fl[i]? =some f):qH fl i f.bl=qH fl (i+1) []:=by
 unfold qH zak;rw[List.take_add_one,hf];simp
theorem ziz (fl:List Fl) (b:Int):(qH fl fl.length []).contains b=qU fl b:=by
 unfold qH zak qU;rw[List.take_length,List.append_nil,Bool.eq_iff_iff];simp
theorem zmo:(Tryz.prog.info? 223).map (·.size)=some 80:=by kernel_rfl
theorem zeL (n:Nat) (g:List Int):∀v∈qz n g,v.oneCell'=true:=fun v hv=>by
 unfold qz at hv;obtain⟨i,_,rfl⟩:=List.mem_map.1 hv;rfl
theorem zaB (n:Nat) (g:List Int):(qz n g).length=n:=by simp[qz]
theorem zcf (v:Value) (fl:List Fl) (cnt:Int) (w:World) (hv:qW w v fl) (hst:stW fl cnt=0):
  Calls prog 160 #[.agg #[v,I6 cnt]] w fun e w'=>e= .returned (.agg (qz 80 (qH fl fl.length [])).toArray)/\zc w w':=by
 have hz:=zaW;obtain⟨a,c,rfl,hbig,hrow⟩:=hv.rows;have HR:Hid (Qh w a fl):=hrow;clear hrow hv;have HB:Hid (∀f∈fl,∀b∈f.bl,b=-1\/(0<=b/\b<80)):=show∀f∈fl,_ from fun f hf b hb=>by
  obtain⟨⟨_,_,h80⟩,h2,_⟩:=(jE fl cnt).1 hst
  rcases(h2 f hf).2.2 b hb with h|h
  ·exact .inl h
  exact .inr (by omega)
 clear hst;obtain⟨n,HN⟩:∃n,Hid (fl.length=n):=⟨_,rfl⟩;rw[HN.out]at hbig⊢;obtain⟨W0,hW0⟩:∃W0,((w.alloc (.cells #[.slice a n c,I6 cnt] 37)).alloc (.cells zeb 223)).alloc (.cells zeb 223)=W0:=⟨_,rfl⟩;have HG0:Hid (zc w W0):=dD<|by rw[<-hW0];exact((za _ _).trans (za _ _)).trans (za _ _)
 have X0:Hid (Box W0 w.heap.size [.slice a n c,I6 cnt]):=dD<|by rw[<-hW0];exact((Box.top _ _ _ rfl).alloc _).alloc _
 have Y0:Hid (Box W0 (w.heap.size+1) (qz 80 [])):=dD<|by rw[<-hW0,zb0];exact(Box.top _ (List.replicate 80 (.bool false)) _ (by simp)).alloc _
 have Z0:Hid (Box W0 (w.heap.size+1+1) (qz 80 (qH fl 0 []))):=dD<|by
  have:qz 80 (qH fl 0 [])=qz 80 []:=zab fun i _=>by simp[qH,zak]
  rw[<-hW0,this,zb0];exact Box.top _ (List.replicate 80 (.bool false)) _ (by simp)
 have HW0:Hid (_=W0):=hW0;clear hW0
 go_enter func160,ntmps160
 go_upto_region 2 with fail;rw[HW0.out];clear hz;have x0:=X0.c 0 rfl;go_wp2;clear x0
 go_loopg [5,11] n (fun gg _ s11 wr=>∃i:Nat,i<=n/\n - i<=gg/\s11=I6 i/\Hid (zc w wr)/\Hid (Box wr (w.heap.size+1) (qz 80 []))/\Hid (Box wr (w.heap.size+1+1) (qz 80 (qH fl i []))))
 case atStart=>exact⟨0,nZ _,by omega,rfl,HG0,Y0,Z0⟩
 obtain⟨i,hi,hgg,rfl,BW,YW,ZW⟩:=hrel
 by_cases hlt:i<n
 ·have hltz:(i:Int)< (n:Int):=by omega
  obtain⟨f,HF⟩:∃f,Hid (fl[i]? =some f):=⟨_,gE (by rw[HN.out];exact hlt)⟩
  obtain⟨ad,rfl,xa,xc,hr2,hl⟩:=HR.out i f HF.out;obtain⟨d0,d1⟩:=hl wr BW.out;obtain⟨_,_,heq,hnr⟩:=hr2.nums;have hq:=hr2.short;have HNR:Hid (zcq w xa f.bl):=dD<|by
   simp only[vJ]at heq;rw[heq.1];exact hnr
  clear heq hnr hr2 hl;obtain⟨q,HQ⟩:∃q,Hid (f.bl.length=q):=⟨_,rfl⟩;rw[HQ.out]at d1 hq;go_upto_region 5 with fail;obtain⟨W1,hW1⟩:∃W1,wr.alloc (.cells #[I6 f.size,.slice xa q xc] 88)=W1:=⟨_,rfl⟩;have HG1:=gT hW1 BW
  have F1:=xA hW1
  have Y1:=yA hW1 YW
  have Z1:=yA hW1 ZW
  rw[hW1];clear hW1 d0 d1;have f1:=F1.c 1 rfl;go_wp2;clear f1;have HBW:Hid (zc w wr):=BW
  go_loopg [7,18] q (fun gg _ s18 wr=>∃j:Nat,j<=q/\q - j<=gg/\s18=I6 j/\Hid (zc w wr)/\Hid (Box wr (w.heap.size+1) (qz 80 []))/\Hid (Box wr (w.heap.size+1+1) (qz 80 (qH fl i (f.bl.take j)))))
  case atStart=>exact⟨0,nZ _,by omega,rfl,HG1,Y1,by rw[List.take_zero];exact Z1⟩
  obtain⟨j,hj,hg2,rfl,BW,YW,ZW⟩:=hrel
  by_cases hlt2:j<q
  ·have hltz2:(j:Int)< (q:Int):=by omega
   obtain⟨b,HBJ⟩:∃b,Hid (f.bl[j]? =some b):=⟨_,gE (by rw[HQ.out];exact hlt2)⟩
   obtain⟨ad2,rfl,hl2⟩:=HNR.out j b HBJ.out;have e0:=hl2 wr BW.out;have HRB:Hid (b=-1\/(0<=b/\b<80)):=HB.out f (mG HF) b (mG HBJ);have HTS:Hid (f.bl.take (j+1)=f.bl.take j++ [b]):=qi HBJ.out;clear hl2
   by_cases hb:0<=b
   ·obtain⟨k,rfl⟩:∃k:Nat,b=(k:Int):=⟨b.toNat,by omega⟩
    have hk80:k<80:=by have:=HRB.out;omega
    have z0:=ZW.c k (QM _ hk80);have zf:=ZW.f;have Z2:Hid (Box (wr.setCell ⟨w.heap.size+1+1,k,none⟩ (.bool true)) (w.heap.size+1+1) (qz 80 (qH fl i (f.bl.take (j+1))))):=dD<|by
     rw[HTS.out,<-ziy,<-zeK _ hk80];exact ZW.set k _
    have Y2:Hid (Box (wr.setCell ⟨w.heap.size+1+1,k,none⟩ (.bool true)) (w.heap.size+1) (qz 80 [])):=dD<|YW.other (by simp) _
    have G2:Hid (zc w (wr.setCell ⟨w.heap.size+1+1,k,none⟩ (.bool true))):=dD<|zu BW (by simp;omega) _
    go_wp2
    go_roundg (q -(j+1))
    case measure=>omega
    exact⟨j+1,by omega,by omega,by go_num,G2,Y2,Z2⟩
   have Z2:Hid (Box wr (w.heap.size+1+1) (qz 80 (qH fl i (f.bl.take (j+1))))):=dD<|by
    rw[HTS.out,zhj _ _ _ (by omega)]
    exact ZW.out
   go_wp2
   go_roundg (q -(j+1))
   case measure=>omega
   exact⟨j+1,by omega,by omega,by go_num,BW,YW,Z2⟩
  have hltz2:¬(j:Int)< (q:Int):=by omega
  have:j=q:=by omega
  subst this;have Z2:Hid (Box wr (w.heap.size+1+1) (qz 80 (qH fl (i+1) []))):=dD<|by
   have h1:=ZW.out;rw[List.take_of_length_le (by rw[HQ.out];exact nR _),zhk HF.out]at h1
   exact h1
  go_wp2
  go_roundg (n -(i+1))
  case measure=>omega
  exact⟨i+1,by omega,by omega,by go_num,BW,YW,Z2⟩
 have hltz:¬(i:Int)< (n:Int):=by omega
 have:i=n:=by omega
 subst this;obtain⟨ms,HMS⟩:∃ms,Hid (qz 80 (qH fl i [])=ms):=⟨_,rfl⟩;have HML:Hid (ms.length=80):=dD<|by rw[<-HMS.out];exact zaB _ _
 have HMO:Hid (∀v∈ms,v.oneCell'=true):=dD<|by rw[<-HMS.out];exact zeL _ _
 rw[HMS.out]at ZW;go_upto_region 12 with fail
 go_wp2_with (first | (refine zO rfl 223 (.tmp 3) rfl (w.heap.size+1+1) rfl ZW underlying223 rfl (by rw[HML.out];exact zmo) ?_) | (refine zy rfl 223 (.tmp 2) (.tmp 28) rfl (w.heap.size+1) rfl ms rfl YW (by rw[HML.out,zaB]) (by rw[zaB];exact zmo) HMO.out ?_))
 intro W5 hb5 hg5 _;have G5:Hid (zc w W5):=dD<|zd BW hg5 (by omega)
 go_wp2;refine bodyPost_ret (qd rfl _ rfl hb5 underlying223 rfl (by rw[HML.out];exact zmo)) rfl ⟨by rw[<-HMS.out],G5⟩
theorem zea (b0 b1 b2 b3 b4 b5 b6 b7:Int):zbX ⟨b0,b1,b2,b3,b4,b5,b6,b7⟩ ⟨0,0,0,0,0,0,0,0⟩=([b0,b1,b2,b3,b4,b5,b6,b7] == zt):=by
 rw[Bool.eq_iff_iff,zbW]
 simp[zt]
def Zc (m:Ma) (b:Nat):Bool:=!qU m.fl (b:Int) && !(m.db.getD b [] == zt)
theorem zfg (h:∀b,b<m.db.length->Zc m b=false):QE m=0:=by
 unfold QE;rw[if_neg];rw[List.any_eq_true];rintro⟨b,hb,hx⟩;have:=h b (List.mem_range.1 hb);unfold Zc at this;rw[this]at hx;cases hx
theorem zdd (hb:b<m.db.length) (h:Zc m b=true):QE m=7:=by
 unfold QE;rw[if_pos];rw[List.any_eq_true];exact⟨b,List.mem_range.2 hb,h⟩
theorem zhW (h:∀(j:Nat) q,m.dq[j]? =some q->qU m.fl q.1=true):Qr m=0:=by
 unfold Qr;rw[if_neg];rw[List.any_eq_true];rintro⟨q,hq,hx⟩;obtain⟨j,hj⟩:=List.getElem?_of_mem hq;rw[h j q hj]at hx;cases hx
theorem zcT {q:Int × List Int} (hq:m.dq[j]? =some q) (h:qU m.fl q.1=false):Qr m=7:=by
 unfold Qr;rw[if_pos];rw[List.any_eq_true];exact⟨q,mG hq,by rw[h];rfl⟩
theorem zft {n:Nat} {qs:List (Int × List Int)} (h:zX n qs=0):n<=80/\∀(j:Nat) q,qs[j]? =some q->0<=q.1/\q.1<n:=by
 unfold zX at h
 split at h
 ·cases h
 split at h
 ·cases h
 split at h
 ·cases h
 rename_i h1 h2 h3
 refine⟨by omega,fun j q hq=>?_⟩
 have:(!j9 q.1 n)=false:=by
  cases e:(!j9 q.1 n)with
  | false=>rfl
  | true=>exact absurd (List.any_eq_true.2 ⟨q,mG hq,e⟩) h3
 simp[j9]at this
 exact this
theorem zj2 (hb:b<80):(qz 80 (qH m.fl m.fl.length []))[b]? =some (.bool (qU m.fl (b:Int))):=by
 rw[QM _ hb,ziz]
theorem zcw (V:MaV) (m:Ma) (w:World) (hm:zF w V m) (h1:zfl m):
  Calls prog 116 #[.agg (mL V m).toArray] w fun e w'=>e= .returned (I6 (zB (Je m)))/\zc w w':=by
 obtain⟨vf,vs,vsb,vsq,⟨dba,dbn,dbc⟩,⟨dqa,dqn,dqc⟩,vfl,vca,vsp⟩:=V;dsimp only[mL];have hz:=zaW;obtain⟨-,n2,n3,-,n5,n6,-⟩:=hm.ns;dsimp only at n2 n3 n5 n6;have HFB:Hid (∀W,zc w W->Calls prog 160 #[.agg #[vfl.x,I6 m.cnt]] W fun e w'=>e= .returned (.agg (qz 80 (qH m.fl m.fl.length [])).toArray)/\zc W w'):=dD<|fun W hW=>zcf _ m.fl m.cnt W (hm.grew hW).fl h1.st
 have HPG:Hid (zbH w dba m.db):=hm.pgs;have HPU:Hid (zal w dqa m.dq):=hm.puts;obtain⟨h80,hqs⟩:=zft h1.dq;have HQS:Hid (∀(j:Nat) q,m.dq[j]? =some q->0<=q.1/\q.1<m.db.length):=hqs;have HN5:Hid (m.db.length=dbn):=n5.symm;have HN6:Hid (m.dq.length=dqn):=n6.symm;have hb6:dqn<=9223372036854775807:=by have:=hm.dq.2.2;omega
 rw[HN5.out]at h80;obtain⟨Z,HZ⟩:∃Z,Hid (zB (Je m)=Z):=⟨_,rfl⟩;rw[HZ.out];have HZ2:Hid (zB [zgG m,QE m,Qr m]=Z):=HZ.out;have hfit:zgG m=if vs.n≠vsb.n\/m.cnt≠(dbn:Int)then 7 else 0:=by unfold zgG;rw[n2,n3,n5]
 clear hm h1 hqs n2 n3 n5 n6;obtain⟨W0,hW0⟩:∃W0,w.alloc (.cells #[vf.x,I6 m.hand,vs.x,vsb.x,vsq.x,.slice dba dbn dbc,.slice dqa dqn dqc,vfl.x,I6 m.cnt,vca.x,vsp.x] 41)=W0:=⟨_,rfl⟩;have HG0:=gA hW0
 have X0:=xA hW0
 have HS0:Hid (w.heap.size<W0.heap.size):=dD<|by rw[<-hW0];simp
 have HW0:Hid (_=W0):=hW0;clear hW0
 by_cases c1:vsb.n=vs.n
 ·by_cases c2:m.cnt=(dbn:Int)
  ·have HF:Hid (zgG m=0):=dD<|by rw[hfit,if_neg (by omega)]
   have c1e:((vsb.n:Int) !=(vs.n:Int))=false:=by simp[c1]
   have c2e:((dbn:Int) != m.cnt)=false:=by simp[c2]
   have c1f:(vsb.n != vs.n)=false:=by simp[c1]
   have HB0:Hid (∀b,b<m.db.length->Zc m b=true->Z=7):=dD<|fun b hb h=>by rw[<-HZ2.out,zV,if_pos HF.out,zV,zdd hb h];rfl
   have HB1:Hid ((∀b,b<m.db.length->Zc m b=false)->∀(j:Nat) q,m.dq[j]? =some q->qU m.fl q.1=false->Z=7):=dD<|fun h j q hq hu=>by rw[<-HZ2.out,zV,if_pos HF.out,zV,if_pos (zfg h),zV,zcT hq hu];rfl
   have HB2:Hid ((∀b,b<m.db.length->Zc m b=false)->(∀(j:Nat) q,m.dq[j]? =some q->qU m.fl q.1=true)->Z=0):=dD<|fun h h'=>by rw[<-HZ2.out,zV,if_pos HF.out,zV,if_pos (zfg h),zV,zhW h'];rfl
   have hFB:=HFB.out W0 HG0.out;clear hfit;have HC1:Hid (vsb.n=vs.n):=c1;have HC2:Hid (m.cnt=(dbn:Int)):=c2;clear c1 c2
   go_enter func116,ntmps116
   go_upto_region 1 with fail;rw[HW0.out];have x2:=X0.c 2 rfl;have x3:=X0.c 3 rfl;have x5:=X0.c 5 rfl;have x6:=X0.c 6 rfl;have x7:=X0.c 7 rfl;have x8:=X0.c 8 rfl;go_upto_region 3 with fail;go_wp2_with fail;refine hFB.mono ?_;clear hFB x2 x3 x5 x6 x7 x8;rintro e W1 ⟨rfl,hg1⟩;have HG1:=dD (HG0.trans hg1);have X1:=dD (X0.grew hg1);clear hg1;obtain⟨ms,HMS⟩:∃ms,Hid (qz 80 (qH m.fl m.fl.length [])=ms):=⟨_,rfl⟩;have HML:Hid (ms.length=80):=show _=_ by rw[<-HMS.out];exact zaB _ _
   have HMO:Hid (∀v∈ms,v.oneCell'=true):=dD<|by rw[<-HMS.out];exact zeL _ _
   have HMA:Hid (∀b:Nat,b<80->ms[b]? =some (.bool (qU m.fl (b:Int)))):=dD<|fun b hb=>by rw[<-HMS.out];exact zj2 hb
   rw[HMS.out];obtain⟨W2,hW2⟩:∃W2,W1.alloc (.cells zeb 223)=W2:=⟨_,rfl⟩;have HG2:=gT hW2 HG1
   have X2:=yA hW2 X1
   have Z2:Hid (Box W2 W1.heap.size (List.replicate 80 (.bool false))):=dD<|by rw[<-hW2];exact Box.top _ (List.replicate 80 (.bool false)) _ rfl
   have HW2:Hid (_=W2):=hW2;clear hW2;have HLT:Hid (w.heap.size<=W1.heap.size):=show _<=_ from bS HG1.out
   have HXL:Hid (w.heap.size<W1.heap.size):=dD<|X1.lt
   go_wp2_with (first | (rw[HW2.out];refine zy rfl 223 (.tmp 3) (.tmp 28) rfl W1.heap.size rfl ms rfl Z2 (by rw[HML.out];simp) (by simpa using zmo) HMO.out ?_))
   intro W3 hb3 hg3 _;have HG3:Hid (zc w W3):=dD<|zd HG2 hg3 HLT.out
   have X3:Hid (Box W3 w.heap.size [vf.x,I6 m.hand,vs.x,vsb.x,vsq.x,.slice dba dbn dbc,.slice dqa dqn dqc,vfl.x,I6 m.cnt,vca.x,vsp.x]):=X2.grown hg3 (by have:=HXL.out;omega)
   have Z3:Hid (Box W3 W1.heap.size ms):=hb3;obtain⟨p3,HP3⟩:∃p3,Hid (W1.heap.size=p3):=⟨_,rfl⟩;rw[HP3.out]at Z3⊢;clear hb3 hg3 hz;have x5:=X3.c 5 rfl;go_wp2;clear x5;obtain⟨n,HN⟩:∃n,Hid (dbn=n):=⟨_,rfl⟩;rw[HN.out]at h80⊢
   go_loopg [33] n (fun gg s33 wr=>∃kk:Nat,kk<=n/\n - kk<=gg/\s33=I6 kk/\Hid (zc w wr)/\Hid (Box wr w.heap.size [vf.x,I6 m.hand,vs.x,vsb.x,vsq.x,.slice dba dbn dbc,.slice dqa dqn dqc,vfl.x,I6 m.cnt,vca.x,vsp.x])/\Hid (Box wr p3 ms)/\Hid (∀b,b<kk->Zc m b=false))
   case atStart=>exact⟨0,nZ _,by omega,rfl,HG3,X3,Z3,fun b hb=>absurd hb (nL _)⟩
   obtain⟨kk,hkk,hgg,rfl,BW,XW,ZW,OW⟩:=hrel
   by_cases hlt:kk<n
   ·have hltz:(kk:Int)< (n:Int):=by omega
    have hk80:kk<80:=by omega
    have HKL:Hid (kk<m.db.length):=dD<|by rw[HN5.out,HN.out];exact hlt
    obtain⟨p,HP⟩:∃p,Hid (m.db[kk]? =some p):=⟨_,gE HKL⟩;obtain⟨ad,b0,b1,b2,b3,b4,b5,b6,b7,rfl,rfl,hl⟩:=HPG.out kk p HP.out;have HBD:Hid (Zc m kk=(!qU m.fl (kk:Int) && !([b0,b1,b2,b3,b4,b5,b6,b7] == zt))):=dD<|by unfold Zc;rw[gD,HP.out];rfl
    obtain⟨d0,d1,d2,d3,d4,d5,d6,d7⟩:=hl wr BW.out;have hqp:=fun W=>Qt 9998 b0 b1 b2 b3 b4 b5 b6 b7 0 0 0 0 0 0 0 0 W
    simp only[zea]at hqp;obtain⟨U,HU⟩:∃U,Hid (qU m.fl (kk:Int)=U):=⟨_,rfl⟩;have hmu:=HMA.out kk hk80;rw[HU.out]at hmu;rw[HU.out]at HBD;obtain⟨PZ,HPZ⟩:∃PZ,Hid (([b0,b1,b2,b3,b4,b5,b6,b7] == zt)=PZ):=⟨_,rfl⟩;rw[HPZ.out]at hqp HBD;clear hl;go_upto_region 7 with fail;obtain⟨W4,hW4⟩:∃W4,wr.alloc (.cells #[U8 b0,U8 b1,U8 b2,U8 b3,U8 b4,U8 b5,U8 b6,U8 b7] 67)=W4:=⟨_,rfl⟩;have HG4:=gT hW4 BW
    have X4:=yA hW4 XW
    have Z4:=yA hW4 ZW
    have P4:=xA hW4
    rw[hW4];clear hW4 d0 d1 d2 d3 d4 d5 d6 d7;have z0:=Z4.c kk hmu;obtain⟨p0,p1,p2,p3,p4,p5,p6,p7⟩:=P4.c8;clear hmu
    cases U with
    | true=>
     have HB:Hid (Zc m kk=false):=dD<|by rw[HBD.out];rfl
     have OW':Hid (∀b,b<kk+1->Zc m b=false):=dD<|fun b hb=>by
      by_cases e:b=kk
      ·rw[e];exact HB.out
      exact OW b (by omega)
     clear p0 p1 p2 p3 p4 p5 p6 p7 hqp;go_wp2
     go_roundg (n -(kk+1))
     case measure=>omega
     exact⟨kk+1,by omega,by omega,by go_num,HG4,X4,Z4,OW'⟩
    | false=>
     cases PZ with
     | true=>
      have HB:Hid (Zc m kk=false):=dD<|by rw[HBD.out];rfl
      have OW':Hid (∀b,b<kk+1->Zc m b=false):=dD<|fun b hb=>by
       by_cases e:b=kk
       ·rw[e];exact HB.out
       exact OW b (by omega)
      go_wp2
      go_roundg (n -(kk+1))
      case measure=>omega
      exact⟨kk+1,by omega,by omega,by go_num,HG4,X4,Z4,OW'⟩
     | false=>
      have HE:Hid (Z=7):=HB0.out kk HKL (by rw[HBD.out];rfl)
      go_wp2;go_ret;exact⟨by rw[HE.out];rfl,HG4⟩
   have hltz:¬(kk:Int)< (n:Int):=by omega
   have:kk=n:=by omega
   subst this;have OA:Hid (∀b,b<m.db.length->Zc m b=false):=dD<|fun b hb=>OW.out b (by rw[<-HN.out,<-HN5.out];exact hb)
   have x6:=XW.c 6 rfl;go_wp2;clear x6;obtain⟨n2,HN2⟩:∃n2,Hid (dqn=n2):=⟨_,rfl⟩;rw[HN2.out]at hb6⊢;have HBW:Hid (zc w wr):=BW;have HZW:Hid (Box wr p3 ms):=ZW
   go_loopg [52] n2 (fun gg s52 wr=>∃j:Nat,j<=n2/\n2 - j<=gg/\s52=I6 j/\Hid (zc w wr)/\Hid (Box wr p3 ms)/\Hid (∀(i:Nat) q,i<j->m.dq[i]? =some q->qU m.fl q.1=true))
   case atStart=>exact⟨0,nZ _,by omega,rfl,HBW,HZW,fun i q hi=>absurd hi (nL _)⟩
   obtain⟨j,hj,hg2,rfl,BW,ZW,OW⟩:=hrel
   by_cases hlt2:j<n2
   ·have hltz2:(j:Int)< (n2:Int):=by omega
    obtain⟨q,HQ⟩:∃q,Hid (m.dq[j]? =some q):=⟨_,gE (by rw[HN6.out,HN2.out];exact hlt2)⟩
    obtain⟨ad,mm,b0,b1,b2,b3,b4,b5,b6,b7,rfl,rfl,hl⟩:=HPU.out j q HQ.out;obtain⟨r0,r1⟩:=HQS.out j _ HQ.out;simp only at r0 r1;obtain⟨b,rfl⟩:∃b:Nat,mm=(b:Int):=⟨mm.toNat,by omega⟩
    have hk80:b<80:=by rw[HN5.out,HN.out]at r1;omega
    obtain⟨d0,d1,d2,d3,d4,d5,d6,d7,d8⟩:=hl wr BW.out;obtain⟨U,HU⟩:∃U,Hid (qU m.fl (b:Int)=U):=⟨_,rfl⟩;have hmu:=HMA.out b hk80;rw[HU.out]at hmu;clear hl r0 r1;go_upto_region 13 with fail;obtain⟨W4,hW4⟩:∃W4,wr.alloc (.cells #[I6 (b:Int),U8 b0,U8 b1,U8 b2,U8 b3,U8 b4,U8 b5,U8 b6,U8 b7] 103)=W4:=⟨_,rfl⟩;have HG4:=gT hW4 BW
    have Z4:=yA hW4 ZW
    have P4:=xA hW4
    rw[hW4];clear hW4 d0 d1 d2 d3 d4 d5 d6 d7 d8;have z0:=Z4.c b hmu;have p0:=P4.c 0 rfl;clear hmu
    cases U with
    | true=>
     have OW':Hid (∀(i:Nat) q,i<j+1->m.dq[i]? =some q->qU m.fl q.1=true):=dD<|fun i q hi hq=>by
      by_cases e:i=j
      ·subst e;rw[HQ.out]at hq;cases hq;exact HU.out
      exact OW i q (by omega) hq
     go_wp2
     go_roundg (n2 -(j+1))
     case measure=>omega
     exact⟨j+1,by omega,by omega,by go_num,HG4,Z4,OW'⟩
    | false=>
     have HE:Hid (Z=7):=HB1.out OA j _ HQ HU.out;go_wp2;go_ret;exact⟨by rw[HE.out];rfl,HG4⟩
   have hltz2:¬(j:Int)< (n2:Int):=by omega
   have:j=n2:=by omega
   subst this;have HE:Hid (Z=0):=HB2.out OA fun i q hq=>OW.out i q (by rw[<-HN2.out,<-HN6.out];exact(gS.1 hq).1) hq
   go_wp2;go_ret;exact⟨by rw[HE.out];rfl,BW⟩
  have HE:Hid (Z=7):=dD<|by
   have hf7:zgG m=7:=by rw[hfit,if_pos (.inr c2)]
   rw[<-HZ2.out,zV,hf7];rfl
  have c1e:((vsb.n:Int) !=(vs.n:Int))=false:=by simp[c1]
  have c1f:(vsb.n != vs.n)=false:=by simp[c1]
  have c2e:((dbn:Int) != m.cnt)=true:=by simp;omega
  clear c1 c2 hfit
  go_enter func116,ntmps116
  go_upto_region 1 with fail;rw[HW0.out];have x2:=X0.c 2 rfl;have x3:=X0.c 3 rfl;have x5:=X0.c 5 rfl;have x8:=X0.c 8 rfl;go_wp2;go_ret;exact⟨by rw[HE.out];rfl,HG0⟩
 have HE:Hid (Z=7):=dD<|by
  have hf7:zgG m=7:=by rw[hfit,if_pos (.inl (fun e=>c1 e.symm))]
  rw[<-HZ2.out,zV,hf7];rfl
 have c1e:((vsb.n:Int) !=(vs.n:Int))=true:=by simp;omega
 have c1f:(vsb.n != vs.n)=true:=by simp[c1]
 clear c1 hfit
 go_enter func116,ntmps116
 go_upto_region 1 with fail;rw[HW0.out];have x2:=X0.c 2 rfl;have x3:=X0.c 3 rfl;go_wp2;go_ret;exact⟨by rw[HE.out];rfl,HG0⟩
theorem zjV (hca:zai m none m.ca=0) (k:Nat):frE m k=if(zY m k).r≠qu m m.sp.length [] zdx (1,(k:Int))\/(0<=(zY m k).f/\¬Jp m.ca ((zY m k).f,(zY m k).x)=some (k:Int))then 7 else 0:=by
 unfold frE;rw[zgB m zdx (k:Int) (by decide:(1:Int)≠0),if_pos rfl]
 have:=zhf hca k
 by_cases h:zQ m.ca k=0
 ·have h2:¬Jp m.ca ((zY m k).f,(zY m k).x)=some (k:Int):=fun e=>(this.1 e) h
  simp only[h,h2,not_false_iff,and_true]
 have h2:Jp m.ca ((zY m k).f,(zY m k).x)=some (k:Int):=this.2 h;simp only[h,h2,not_true,and_false]
theorem zhM (m:Ma) (k:Nat):zd9 m k=if m.sl.getD k 0≠qu m m.sp.length [] zdx (2,(k:Int))then 7 else 0:=by
 unfold zd9;have h:=zgB m zdx (k:Int) (by decide:(2:Int)≠0)
 have h2:¬(2:Int)=1:=by decide
 rw[if_neg h2,Nat.add_zero]at h;rw[h]
theorem zbM (V:MaV) (m:Ma) (w:World) (hm:zF w V m) (hca:zai m none m.ca=0) (hsp4:m.sp.length<=4) (htb:∀s∈m.sp,tbW s.tb=0):
  Calls prog 120 #[.agg (mL V m).toArray] w fun e w'=>e= .returned (I6 (Jf m))/\zc w w':=by
 have HWI:Hid (∀W,zc w W->Calls prog 102 #[.agg (mL V m).toArray] W fun e w'=>∃B,e= .returned (.agg #[V.f.x,I6 m.hand,V.s.x,V.sb.x,V.sq.x,V.db.x,V.dq.x,V.fl.x,I6 m.cnt,V.ca.x,V.sp.x,.map (some B)])/\Qg plK w' B (Jp m.ca)/\zc W w'):=dD<|fun W hW=>zdt V m W (hm.grew hW)
 have HHO:Hid (∀W,zc w W->Calls prog 165 #[.agg (mL V m).toArray] W fun e w'=>∃B,e= .returned (.map (some B))/\QU enK w' B (qu m m.sp.length [] zdx)/\zc W w'):=dD<|fun W hW=>zfW V m W (hm.grew hW) hsp4 htb
 have HHC:Hid (∀(B k:Nat) W,zc w W->k<m.fs.length->Qg plK W B (Jp m.ca)->Calls prog 166 #[.agg #[V.f.x,I6 m.hand,V.s.x,V.sb.x,V.sq.x,V.db.x,V.dq.x,V.fl.x,I6 m.cnt,V.ca.x,V.sp.x,.map (some B)],I6 (k:Int)] W fun e w'=>e= .returned (.bool (decide (Jp m.ca ((zY m k).f,(zY m k).x)=some (k:Int))))/\zc W w'):=dD<|fun B k W hW hk hM=>zdX V m B k (Jp m.ca) W (hm.grew hW) hk hM
 obtain⟨⟨fa,fn,fc⟩,⟨sa,sn,sc⟩,vsb,vsq,vdb,vdq,vfl,vca,vsp⟩:=V;dsimp only[mL]at HWI HHO HHC⊢;obtain⟨n1,n2,-⟩:=hm.ns;dsimp only at n1 n2;have HFR:Hid (Q3 w fa m.fs):=hm.frs;have HSL:Hid (zaT w sa m.sl):=hm.sls;have HN1:Hid (m.fs.length=fn):=n1.symm;have HN2:Hid (m.sl.length=sn):=n2.symm;have hb1:fn<=9223372036854775807:=by have:=hm.fs.short;omega
 have hb2:sn<=9223372036854775807:=by have:=hm.sl.short;omega
 have HFE:Hid (∀k:Nat,frE m k=if(zY m k).r≠(qu m m.sp.length [] zdx) (1,(k:Int))\/(0<=(zY m k).f/\¬Jp m.ca ((zY m k).f,(zY m k).x)=some (k:Int))then 7 else 0):=dD<|fun k=>zjV hca k
 clear hm hca hsp4 htb n1 n2;obtain⟨Z,HZ⟩:∃Z,Hid (Jf m=Z):=⟨_,rfl⟩;rw[HZ.out];have HZ1:Hid (∀k:Nat,k<m.fs.length->(∀j:Nat,j<k->frE m j=0)->frE m k=7->Z=7):=dD<|fun k hk h1 h2=>by
  have h3:=zbi hk h1 (by rw[h2];decide)
  rw[<-HZ.out];unfold Jf;rw[h3,h2,if_neg (by decide)]
 have HZ2:Hid ((∀j:Nat,j<m.fs.length->frE m j=0)->∀k:Nat,k<m.sl.length->(∀j:Nat,j<k->zd9 m j=0)->zd9 m k=7->Z=7):=dD<|fun h0 k hk h1 h2=>by
  have h3:=zbi hk h1 (by rw[h2];decide)
  rw[<-HZ.out];unfold Jf;rw[Zk h0,if_pos rfl,h3,h2]
 have HZ3:Hid ((∀j:Nat,j<m.fs.length->frE m j=0)->(∀j:Nat,j<m.sl.length->zd9 m j=0)->Z=0):=dD<|fun h0 h1=>by
  rw[<-HZ.out];unfold Jf;rw[Zk h0,if_pos rfl,Zk h1]
 obtain⟨W0,hW0⟩:∃W0,w.alloc (.cells #[.slice fa fn fc,I6 m.hand,.slice sa sn sc,vsb.x,vsq.x,vdb.x,vdq.x,vfl.x,I6 m.cnt,vca.x,vsp.x] 41)=W0:=⟨_,rfl⟩;have HG0:=gA hW0
 have X0:=xA hW0
 have HW0:Hid (_=W0):=hW0;clear hW0
 go_enter func120,ntmps120
 go_upto_region 1 with fail;rw[HW0.out];have hx0:=X0.gw 0 rfl
 have hx1:=X0.gw 1 rfl
 have hx2:=X0.gw 2 rfl
 have hx3:=X0.gw 3 rfl
 have hx4:=X0.gw 4 rfl
 have hx5:=X0.gw 5 rfl
 have hx6:=X0.gw 6 rfl
 have hx7:=X0.gw 7 rfl
 have hx8:=X0.gw 8 rfl
 have hx9:=X0.gw 9 rfl
 have hx10:=X0.gw 10 rfl
 have hne:Nonempty (zh W0):=⟨⟨_,zc.refl _⟩⟩;refine jq 5 [(1,⟨fun v=>∃B,v= .agg #[.slice fa fn fc,I6 m.hand,.slice sa sn sc,vsb.x,vsq.x,vdb.x,vdq.x,vfl.x,I6 m.cnt,vca.x,vsp.x,.map (some B)],fun v w'=>∃B,v= .agg #[.slice fa fn fc,I6 m.hand,.slice sa sn sc,vsb.x,vsq.x,vdb.x,vdq.x,vfl.x,I6 m.cnt,vca.x,vsp.x,.map (some B)]/\Qg plK w' B (Jp m.ca)⟩),(3,⟨fun v=>∃B,v= .map (some B),fun v w'=>∃B,v= .map (some B)/\QU enK w' B (qu m m.sp.length [] zdx)⟩),(4,⟨fun v=>∃p,v= .pointer (some ⟨p,0,none⟩),fun v w'=>∃p,v= .pointer (some ⟨p,0,none⟩)/\Box w' p [eS,I6 0,eS,eS,eS,eS,eS,eS,I6 0,eS,eS,.map none]/\w.heap.size<=p⟩)] qh (by kernel_rfl) rfl rfl (by decide) ?hS ?hp ?_
 case hS=>
  intro x hx;simp only[mC,nM,or_false]at hx
  rcases hx with rfl|rfl|rfl
  ·exact⟨_,0,rfl⟩
  ·exact⟨_,0,rfl⟩
  exact⟨_,0,rfl⟩
 case hp=>
  intro x hx;simp only[mC,nM,or_false]at hx
  rcases hx with rfl|rfl|rfl
  ·exact fun _ _ _ hg h=>by obtain⟨B,h1,h2⟩:=h;exact⟨B,h1,h2.grew hg⟩
  ·exact fun _ _ _ hg h=>by obtain⟨B,h1,h2⟩:=h;exact⟨B,h1,h2.grew hg⟩
  exact fun _ _ _ hg h=>by obtain⟨p,h1,h2,h3⟩:=h;exact⟨p,h1,h2.grew hg,h3⟩
 simp only[List.take,List.drop];iterate 1 (refine zi rfl rfl rfl (fun K hK=>?_);go_big_quiet_op;refine hK _ ?_;clear hK)
 refine zK rfl rfl (fun w' hg hF=>?_) (fun v1 hv=>?_)
 ·refine zN.call [.agg #[.slice fa fn fc,I6 m.hand,.slice sa sn sc,vsb.x,vsq.x,vdb.x,vdq.x,vfl.x,I6 m.cnt,vca.x,vsp.x]] rfl func102 rfl rfl rfl ?_;refine(HWI w' (HG0.trans hg)).mono ?_;rintro e w'' ⟨B,rfl,hM,hg2⟩;exact⟨_,rfl,hg2,⟨B,rfl⟩,B,rfl,hM⟩
 obtain⟨B1,rfl⟩:=hv;simp only[Act.put,sB,sS,sZ];iterate 1 (refine zi rfl rfl rfl (fun K hK=>?_);go_big_quiet_op;refine hK _ ?_;clear hK)
 refine zK rfl rfl (fun w' hg hF=>?_) (fun v1 hv=>?_)
 ·refine zN.call [.agg #[.slice fa fn fc,I6 m.hand,.slice sa sn sc,vsb.x,vsq.x,vdb.x,vdq.x,vfl.x,I6 m.cnt,vca.x,vsp.x]] rfl func165 rfl rfl rfl ?_;refine(HHO w' (HG0.trans hg)).mono ?_;rintro e w'' ⟨B,rfl,hM,hg2⟩;exact⟨_,rfl,hg2,⟨B,rfl⟩,B,rfl,hM⟩
 obtain⟨B2,rfl⟩:=hv;simp only[Act.put,sB,sS,sZ];refine zK rfl rfl (fun w' hg hF=>?_) (fun v1 hv=>?_)
 ·have hnew:Box (w'.alloc (.cells #[eS,I6 0,eS,eS,eS,eS,eS,eS,I6 0,eS,eS,.map none] 172)) w'.heap.size [eS,I6 0,eS,eS,eS,eS,eS,eS,I6 0,eS,eS,.map none]:=Box.top _ _ _ rfl;have hle:w.heap.size<=w'.heap.size:=bS (HG0.trans hg);clear hx0 hx1 hx2 hx3 hx4 hx5 hx6 hx7 hx8 hx9 hx10 hne;refine zN.step (v:= .pointer (some ⟨w'.heap.size,0,none⟩)) (w':=w'.alloc (.cells #[eS,I6 0,eS,eS,eS,eS,eS,eS,I6 0,eS,eS,.map none] 172)) (by simp only[execOp];go_simp) ⟨za _ _,⟨_,rfl⟩,_,rfl,hnew,hle⟩
 obtain⟨p3,rfl⟩:=hv;simp only[Act.put,sB,sS,sZ];refine qF fun W3 hg3 hF=>?_
 obtain⟨B1',he1,hM1⟩:∃B,(Value.agg #[.slice fa fn fc,I6 m.hand,.slice sa sn sc,vsb.x,vsq.x,vdb.x,vdq.x,vfl.x,I6 m.cnt,vca.x,vsp.x,.map (some B1)])= .agg #[.slice fa fn fc,I6 m.hand,.slice sa sn sc,vsb.x,vsq.x,vdb.x,vdq.x,vfl.x,I6 m.cnt,vca.x,vsp.x,.map (some B)]/\Qg plK W3 B (Jp m.ca):=hF 1;obtain⟨B2',he2,hM2⟩:∃B,(Value.map (some B2))= .map (some B)/\QU enK W3 B (qu m m.sp.length [] zdx):=hF 3;obtain⟨p3',he3,hB3,hle3⟩:∃p,(Value.pointer (some ⟨p3,0,none⟩))= .pointer (some ⟨p,0,none⟩)/\Box W3 p [eS,I6 0,eS,eS,eS,eS,eS,eS,I6 0,eS,eS,.map none]/\w.heap.size<=p:=hF 4;have e1:B1'=B1:=by simp at he1;exact he1.symm
 have e2:B2'=B2:=by simp at he2;exact he2.symm
 have e3:p3'=p3:=by simp at he3;exact he3.symm
 subst e1 e2 e3;have M1:Hid (Qg plK W3 B1' (Jp m.ca)):=hM1;have M2:Hid (QU enK W3 B2' (qu m m.sp.length [] zdx)):=hM2;have Y3:Hid (Box W3 p3' [eS,I6 0,eS,eS,eS,eS,eS,eS,I6 0,eS,eS,.map none]):=hB3;have HL3:Hid (w.heap.size<=p3'):=hle3;have HG3:=dD (HG0.trans hg3);have X3:=dD (X0.grew hg3);clear he1 he2 he3 hM1 hM2 hB3 hle3 hg3 hF hx0 hx1 hx2 hx3 hx4 hx5 hx6 hx7 hx8 hx9 hx10 hne;have HXP:Hid (w.heap.size≠p3'):=show _≠_ from fun e=>by
  obtain⟨t1,h1⟩:=X3.out;obtain⟨t2,h2⟩:=Y3.out;rw[<-e,h1]at h2
  simp at h2
 go_wp2_with (refine zy rfl 172 (.tmp 3) (.tmp 10) rfl p3' rfl [.slice fa fn fc,I6 m.hand,.slice sa sn sc,vsb.x,vsq.x,vdb.x,vdq.x,vfl.x,I6 m.cnt,vca.x,vsp.x,.map (some B1')] rfl Y3 rfl (by kernel_rfl) (fun v hv=>by
    simp only[mC,nM,or_false]at hv
    rcases hv with rfl|rfl|rfl|rfl|rfl|rfl|rfl|rfl|rfl|rfl|rfl|rfl <;> rfl) ?_)
 intro W4 hb4 hg4 _;have Y4:Hid (Box W4 p3' [.slice fa fn fc,I6 m.hand,.slice sa sn sc,vsb.x,vsq.x,vdb.x,vdq.x,vfl.x,I6 m.cnt,vca.x,vsp.x,.map (some B1')]):=hb4;have X4:Hid (Box W4 w.heap.size [.slice fa fn fc,I6 m.hand,.slice sa sn sc,vsb.x,vsq.x,vdb.x,vdq.x,vfl.x,I6 m.cnt,vca.x,vsp.x]):=X3.grown hg4 HXP.out;have N1:Hid (Qg plK W4 B1' (Jp m.ca)):=M1.kept hg4 (fun e=>by cases e;exact Y3.ne_map M1 rfl)
 have N2:Hid (QU enK W4 B2' (qu m m.sp.length [] zdx)):=dD<|by
  obtain⟨g,k1,k2⟩:=M2.out;exact⟨g,k1.kept hg4 (fun e=>by cases e;exact Y3.ne_map k1 rfl),k2⟩
 have HG4:Hid (zc w W4):=dD<|zd HG3 hg4 HL3.out
 clear hb4 hg4;have x0:=X4.c 0 rfl;go_wp2;clear x0
 go_loopg [17] fn (fun gg s17 wr=>∃kk:Nat,kk<=fn/\fn - kk<=gg/\s17=I6 kk/\Hid (zc W4 wr)/\Hid (∀j:Nat,j<kk->frE m j=0))
 case atStart=>exact⟨0,nZ _,by omega,rfl,zc.refl _,fun j hj=>absurd hj (nL _)⟩
 obtain⟨kk,hkk,hgg,rfl,BW,OW⟩:=hrel
 by_cases hlt:kk<fn
 ·have hltz:(kk:Int)< (fn:Int):=by omega
  have HKL:Hid (kk<m.fs.length):=dD<|by rw[HN1.out];exact hlt
  obtain⟨q,HQ⟩:∃q,Hid (m.fs[kk]? =some q):=⟨_,gE HKL⟩;have HFQ:Hid (zY m (kk:Int)=q):=dD<|by unfold zY;rw[tN,gD,HQ.out];rfl
  obtain⟨ad,rfl,hl⟩:=HFR.out kk q HQ.out;obtain⟨d0,d1,d2,d3,d4,d5,d6,d7,d8,d9,d10,d11,d12⟩:=hl wr (HG4.trans BW);clear hl;go_upto_region 5 with fail;obtain⟨W5,hW5⟩:∃W5,wr.alloc (.cells #[U8 q.p.b0,U8 q.p.b1,U8 q.p.b2,U8 q.p.b3,U8 q.p.b4,U8 q.p.b5,U8 q.p.b6,U8 q.p.b7,I6 q.r,.bool q.u,.bool q.d,I6 q.f,I6 q.x] 69)=W5:=⟨_,rfl⟩;have HG5:=gT hW5 BW
  have HGw5:=dD (HG4.trans HG5);have F5:=xA hW5
  have Y5:=dD (Y4.grew HG5);rw[hW5];clear hW5 d0 d1 d2 d3 d4 d5 d6 d7 d8 d9 d10 d11 d12;obtain⟨pf,HPF⟩:∃pf,Hid (wr.heap.size=pf):=⟨_,rfl⟩;rw[HPF.out]at F5⊢;obtain⟨h,HHK⟩:∃h,Hid ((qu m m.sp.length [] zdx) (1,(kk:Int))=h):=⟨_,rfl⟩;have hlk:∀y:zh W5,(Instr.lookup 229 (.map (some B2')) (.agg #[I6 1,I6 (kk:Int),.bool false]) false).run prog y.world= .ok (I6 h) y.world:=fun y=>by
   have:=(N2.grew (HG5.trans y.grew)).look (K:=enK) underlying229 (zmn _) (1,(kk:Int));rw[HHK.out]at this;exact this
  have hf8:=F5.gw 8 rfl
  have hf11:=F5.gw 11 rfl
  have hy0:=Y5.gw 0 rfl
  have hy1:=Y5.gw 1 rfl
  have hy2:=Y5.gw 2 rfl
  have hy3:=Y5.gw 3 rfl
  have hy4:=Y5.gw 4 rfl
  have hy5:=Y5.gw 5 rfl
  have hy6:=Y5.gw 6 rfl
  have hy7:=Y5.gw 7 rfl
  have hy8:=Y5.gw 8 rfl
  have hy9:=Y5.gw 9 rfl
  have hy10:=Y5.gw 10 rfl
  have hy11:=Y5.gw 11 rfl
  have hne:Nonempty (zh W5):=⟨⟨_,zc.refl _⟩⟩;have HFK:=HFE.out kk;rw[HFQ.out,HHK.out]at HFK
  by_cases hr:q.r=h
  ·have hre:(q.r != h)=false:=by simp[hr]
   by_cases hf0:0<=q.f
   ·have hf0d:decide (0<=q.f)=true:=by simpa using hf0
    obtain⟨U,HU⟩:∃U,Hid (decide (Jp m.ca ((zY m (kk:Int)).f,(zY m (kk:Int)).x)=some (kk:Int))=U):=⟨_,rfl⟩;have HUF:Hid (frE m kk=if U=true then 0 else 7):=dD<|by
     have h1:=HU.out;rw[HFQ.out]at h1;rw[HFK,<-h1]
     by_cases hc:Jp m.ca (q.f,q.x)=some (kk:Int)
     ·rw[if_neg (by simp[hr,hc]),if_pos (by simpa using hc)]
     rw[if_pos (.inr ⟨hf0,hc⟩),if_neg (by simpa using hc)]
    have HCC:Hid (∀W,zc W4 W->Calls prog 166 #[.agg #[.slice (some ad) fn fc,I6 m.hand,.slice sa sn sc,vsb.x,vsq.x,vdb.x,vdq.x,vfl.x,I6 m.cnt,vca.x,vsp.x,.map (some B1')],I6 (kk:Int)] W fun e w'=>e= .returned (.bool U)/\zc W w'):=dD<|fun W hW=>by
     have h1:=HHC.out B1' kk W (HG4.trans hW) HKL (N1.grew hW);rw[HU.out]at h1;exact h1
    clear hr hf0;refine j4 [(14,⟨fun v=>v= .bool U,fun v w'=>True⟩)] qh (by kernel_rfl) ?hS ?hp ?_
    case hS=>
     intro x hx;simp only[mC,nM,or_false]at hx;subst hx;exact⟨_,rfl⟩
    case hp=>
     intro x hx;simp only[mC,nM,or_false]at hx;subst hx;exact fun _ _ _ _ h=>h
    iterate 14 (refine zi rfl rfl rfl (fun K hK=>?_);go_big_quiet_op;refine hK _ ?_;clear hK)
    refine zK rfl rfl (fun w' hg hF=>?_) (fun v1 hv=>?_)
    ·refine zN.call [.agg #[.slice (some ad) fn fc,I6 m.hand,.slice sa sn sc,vsb.x,vsq.x,vdb.x,vdq.x,vfl.x,I6 m.cnt,vca.x,vsp.x,.map (some B1')],I6 (kk:Int)] rfl func166 rfl rfl rfl ?_;refine(HCC w' (HG5.trans hg)).mono ?_;rintro e w'' ⟨rfl,hg3⟩;exact⟨_,rfl,hg3,rfl,trivial⟩
    subst hv;simp only[Act.put,sB,sS,sZ];iterate 3 (refine zi rfl rfl rfl (fun K hK=>?_);go_big_quiet_op;refine hK _ ?_;clear hK)
    refine qF fun W6 hg6 hF=>?_
    have HG6:=dD (HG5.trans hg6);clear hg6 hF hlk hf8 hf11 hy0 hy1 hy2 hy3 hy4 hy5 hy6 hy7 hy8 hy9 hy10 hy11 hne
    cases U with
    | true=>
     have OW':Hid (∀j:Nat,j<kk+1->frE m j=0):=dD<|fun j hj=>by
      by_cases e:j=kk
      ·rw[e,HUF.out,if_pos rfl]
      exact OW j (by omega)
     go_wp2
     go_roundg (fn -(kk+1))
     case measure=>omega
     exact⟨kk+1,by omega,by omega,by go_num,HG6,OW'⟩
    | false=>
     have HZE:Hid (Z=7):=HZ1.out kk HKL OW (by rw[HUF.out,if_neg (by decide)])
     have HGW:=dD (HG4.trans HG6);go_wp2;go_ret;exact⟨by rw[HZE.out];rfl,HGW⟩
   have hf0d:decide (0<=q.f)=false:=by simpa using hf0
   have HFZ:Hid (frE m kk=0):=dD<|by rw[HFK,if_neg (by simp[hr,hf0])]
   have OW':Hid (∀j:Nat,j<kk+1->frE m j=0):=dD<|fun j hj=>by
    by_cases e:j=kk
    ·rw[e];exact HFZ.out
    exact OW j (by omega)
   clear hr hf0;refine j4 [] qh (by kernel_rfl) (by simp) (by simp) ?_
   iterate 12 (refine zi rfl rfl rfl (fun K hK=>?_);go_big_quiet_op;refine hK _ ?_;clear hK)
   refine qC ?_ ?_
   ·kernel_rfl
   simp only[Act.put,sB,sS,sZ];refine qC ?_ ?_
   ·kernel_rfl
   simp only[Act.put,sB,sS,sZ];refine qC ?_ ?_
   ·kernel_rfl
   simp only[Act.put,sB,sS,sZ];refine qC ?_ ?_
   ·kernel_rfl
   simp only[Act.put,sB,sS,sZ];iterate 2 (refine zi rfl rfl rfl (fun K hK=>?_);go_big_quiet_op;refine hK _ ?_;clear hK)
   refine qF fun W6 hg6 hF=>?_
   have HG6:=dD (HG5.trans hg6);clear hg6 hF hlk hf8 hf11 hy0 hy1 hy2 hy3 hy4 hy5 hy6 hy7 hy8 hy9 hy10 hy11 hne;go_wp2
   go_roundg (fn -(kk+1))
   case measure=>omega
   exact⟨kk+1,by omega,by omega,by go_num,HG6,OW'⟩
  have hre:(q.r != h)=true:=by simp[hr]
  have HZE:Hid (Z=7):=HZ1.out kk HKL OW (by rw[HFK,if_pos (.inl hr)])
  clear hr;refine j4 [] qh (by kernel_rfl) (by simp) (by simp) ?_
  iterate 8 (refine zi rfl rfl rfl (fun K hK=>?_);go_big_quiet_op;refine hK _ ?_;clear hK)
  refine qC ?_ ?_
  ·kernel_rfl
  simp only[Act.put,sB,sS,sZ];refine qC ?_ ?_
  ·kernel_rfl
  simp only[Act.put,sB,sS,sZ];refine qC ?_ ?_
  ·kernel_rfl
  simp only[Act.put,sB,sS,sZ];refine qC ?_ ?_
  ·kernel_rfl
  simp only[Act.put,sB,sS,sZ];refine qC ?_ ?_
  ·kernel_rfl
  simp only[Act.put,sB,sS,sZ];refine qC ?_ ?_
  ·kernel_rfl
  simp only[Act.put,sB,sS,sZ];refine qC ?_ ?_
  ·kernel_rfl
  simp only[Act.put,sB,sS,sZ];refine qC ?_ ?_
  ·kernel_rfl
  simp only[Act.put,sB,sS,sZ];refine qC ?_ ?_
  ·kernel_rfl
  simp only[Act.put,sB,sS,sZ];iterate 1 (refine zi rfl rfl rfl (fun K hK=>?_);go_big_quiet_op;refine hK _ ?_;clear hK)
  refine qF fun W6 hg6 hF=>?_
  have HG6:=dD (HGw5.trans hg6);clear hg6 hF hlk hf8 hf11 hy0 hy1 hy2 hy3 hy4 hy5 hy6 hy7 hy8 hy9 hy10 hy11 hne;go_wp2;go_ret;exact⟨by rw[HZE.out];rfl,HG6⟩
 have hltz:¬(kk:Int)< (fn:Int):=by omega
 have:kk=fn:=by omega
 subst this;have OA:Hid (∀j:Nat,j<m.fs.length->frE m j=0):=dD<|fun j hj=>OW.out j (by rw[<-HN1.out];exact hj)
 have x2:=(X4.grew BW).c 2 rfl;go_wp2;clear x2;have HBW:Hid (zc W4 wr):=BW
 go_loopg [44] sn (fun gg s44 wr=>∃i:Nat,i<=sn/\sn - i<=gg/\s44=I6 i/\Hid (zc W4 wr)/\Hid (∀j:Nat,j<i->zd9 m j=0))
 case atStart=>exact⟨0,nZ _,by omega,rfl,HBW,fun j hj=>absurd hj (nL _)⟩
 obtain⟨i,hi,hg2,rfl,BW,OW⟩:=hrel
 by_cases hlt2:i<sn
 ·have hltz2:(i:Int)< (sn:Int):=by omega
  have HKL:Hid (i<m.sl.length):=dD<|by rw[HN2.out];exact hlt2
  obtain⟨z,HZI⟩:∃z,Hid (m.sl[i]? =some z):=⟨_,gE HKL⟩;obtain⟨ad,rfl,hl⟩:=HSL.out i z HZI.out;have d0:=hl wr (HG4.trans BW);clear hl;obtain⟨h,HHK⟩:∃h,Hid ((qu m m.sp.length [] zdx) (2,(i:Int))=h):=⟨_,rfl⟩;have hlk:(Instr.lookup 229 (.map (some B2')) (.agg #[I6 2,I6 (i:Int),.bool false]) false).run prog wr= .ok (I6 h) wr:=by
   have:=(N2.grew BW).look (K:=enK) underlying229 (zmn _) (2,(i:Int));rw[HHK.out]at this;exact this
  have HSE:Hid (zd9 m i=if z≠h then 7 else 0):=dD<|by rw[zhM,gD,HZI.out,HHK.out];rfl
  by_cases hr:z=h
  ·have hre:(z != h)=false:=by simp[hr]
   have OW':Hid (∀j:Nat,j<i+1->zd9 m j=0):=dD<|fun j hj=>by
    by_cases e:j=i
    ·rw[e,HSE,if_neg (by simp[hr])]
    exact OW j (by omega)
   clear hr;go_wp2
   go_roundg (sn -(i+1))
   case measure=>omega
   exact⟨i+1,by omega,by omega,by go_num,BW,OW'⟩
  have hre:(z != h)=true:=by simp[hr]
  have HZE:Hid (Z=7):=HZ2.out OA i HKL OW (by rw[HSE.out,if_pos hr])
  have HGW:=dD (HG4.trans BW);clear hr;go_wp2;go_ret;exact⟨by rw[HZE.out];rfl,HGW⟩
 have hltz2:¬(i:Int)< (sn:Int):=by omega
 have:i=sn:=by omega
 subst this;have HZE:Hid (Z=0):=HZ3.out OA fun j hj=>OW.out j (by rw[<-HN2.out];exact hj)
 have HGW:=dD (HG4.trans BW);go_wp2;go_ret;exact⟨by rw[HZE.out];rfl,HGW⟩
def chk:List Nat:=[115,116,117,118,119,120]
def zi5 (m:Ma):List Int:=[zB (Qi m),zB (Je m),ZA m,zei m,zbQ m,Jf m]
theorem zeh (h:ZA m=0):m.sp.length<=4:=by
 unfold ZA at h
 split at h
 ·cases h
 omega
theorem zk1 (V:MaV) (m:Ma) (w:World) (hm:zF w V m) (k:Nat) (hb:∀j,j<k->(zi5 m)[j]?.getD 0=0) (f:Nat) (hf:chk[k]? =some f) (e:Int) (he:(zi5 m)[k]? =some e):
  Calls prog f #[.agg (mL V m).toArray] w fun r w'=>r= .returned (I6 e)/\zc w w':=by
 have h1:1<=k->zfl m:=fun h=>zlm.1 (hb 0 (by omega))
 have h3:3<=k->zd7 m/\m.sp.length<=4:=fun h=>⟨zkH (hb 2 (by omega)),zeh (hb 2 (by omega))⟩
 have h4:4<=k->zai m none m.ca=0:=fun h=>hb 3 (by omega)
 match k,hf,he with
 | 0,hf,he=>cases hf;cases he;exact zcu V m w hm
 | 1,hf,he=>cases hf;cases he;exact zcw V m w hm (h1 (by omega))
 | 2,hf,he=>cases hf;cases he;exact zbJ V m w hm
 | 3,hf,he=>cases hf;cases he;exact zcx V m w hm (h1 (by omega))
 | 4,hf,he=>cases hf;cases he;exact zbK V m w hm (h1 (by omega)) (h3 (by omega)).1
 | 5,hf,he=>cases hf;cases he;exact zbM V m w hm (h4 (by omega)) (h3 (by omega)).2 (fun s hs=>((h3 (by omega)).1 s hs).2)
 | k+6,hf,he=>simp[chk]at hf
theorem zhq (k f:Nat) (hf:chk[k]? =some f):∀args w,(callFunc f args).run prog w= .ok (.enter f args) w:=by
 match k,hf with
 | 0,hf=>cases hf;exact enters_of func115 (by kernel_rfl) rfl
 | 1,hf=>cases hf;exact enters_of func116 (by kernel_rfl) rfl
 | 2,hf=>cases hf;exact enters_of func117 (by kernel_rfl) rfl
 | 3,hf=>cases hf;exact enters_of func118 (by kernel_rfl) rfl
 | 4,hf=>cases hf;exact enters_of func119 (by kernel_rfl) rfl
 | 5,hf=>cases hf;exact enters_of func120 (by kernel_rfl) rfl
 | k+6,hf=>simp[chk]at hf
def fnV (f:Nat):Value:= .func (.func f) #[] #[]
theorem zgU (V:MaV) (m:Ma) (w:World) (hm:zF w V m):
  Calls prog 77 #[.agg (mL V m).toArray] w fun e w'=>e= .returned (I6 (maW m))/\zc w w':=by
 have HCK:Hid (∀W,zc w W->∀(k:Nat),(∀j,j<k->(zi5 m)[j]?.getD 0=0)->∀f,chk[k]? =some f->∀e,(zi5 m)[k]? =some e->Calls prog f #[.agg (mL V m).toArray] W fun r w'=>r= .returned (I6 e)/\zc W w'):=dD<|fun W hW k hb f hf e he=>zk1 V m W (hm.grew hW) k hb f hf e he
 clear hm;obtain⟨Z,HZ⟩:∃Z,Hid (maW m=Z):=⟨_,rfl⟩;rw[HZ.out];have HZ2:Hid (zB (zi5 m)=Z):=dD<|by rw[<-HZ.out,zkL];rfl
 obtain⟨W0,hW0⟩:∃W0,(w.alloc (.cells (mL V m).toArray 41)).alloc (.cells #[.func (.func 115) #[] #[],.func (.func 116) #[] #[],.func (.func 117) #[] #[],.func (.func 118) #[] #[],.func (.func 119) #[] #[],.func (.func 120) #[] #[]] 48)=W0:=⟨_,rfl⟩;have HG0:=gD2 hW0
 have X0:=x2a hW0
 have Y0:Hid (Box W0 (w.heap.size+1) (chk.map fnV)):=dD<|by rw[<-hW0];exact Box.top _ (chk.map fnV) _ (by simp)
 have HW0:Hid (_=W0):=hW0;clear hW0
 go_enter func77,ntmps77
 go_upto_region 2 with fail;rw[HW0.out];go_wp2
 go_loopg [10] 6 (fun gg s10 wr=>∃kk:Nat,kk<=6/\6 - kk<=gg/\s10=I6 kk/\Hid (zc w wr)/\Hid (Box wr w.heap.size (mL V m))/\Hid (Box wr (w.heap.size+1) (chk.map fnV))/\Hid (∀j,j<kk->(zi5 m)[j]?.getD 0=0))
 case atStart=>exact⟨0,nZ _,by omega,rfl,HG0,X0,Y0,fun j hj=>absurd hj (nL _)⟩
 obtain⟨kk,hkk,hgg,rfl,BW,XW,YW,OW⟩:=hrel
 by_cases hlt:kk<6
 ·have hltz:(kk:Int)<6:=by omega
  obtain⟨f,HF⟩:∃f,Hid (chk[kk]? =some f):=⟨_,gE (by simp[chk];exact hlt)⟩
  obtain⟨e,HE⟩:∃e,Hid ((zi5 m)[kk]? =some e):=⟨_,gE (by simp[zi5];exact hlt)⟩
  have y0:wr.cell? ⟨w.heap.size+1,kk,none⟩=some (.func (.func f) #[] #[]):=YW.c kk (by rw[List.getElem?_map,HF.out];rfl)
  have eg:=zhq kk f HF.out;have hcall:=HCK.out wr BW kk OW f HF e HE.out;obtain⟨x0,x1,x2,x3,x4,x5,x6,x7,x8,x9,x10⟩:=XW.c11;go_wp2_with fail;refine hcall.mono ?_;clear hcall x0 x1 x2 x3 x4 x5 x6 x7 x8 x9 x10 y0;rintro e' W2 ⟨rfl,hg2⟩;have HG2:=dD (BW.trans hg2);have X2:=dD (XW.grew hg2);have Y2:=dD (YW.grew hg2);clear hg2 eg
  by_cases h0:e=0
  ·have h0e:(e != 0)=false:=by simp[h0]
   have OW':Hid (∀j,j<kk+1->(zi5 m)[j]?.getD 0=0):=dD<|fun j hj=>by
    by_cases ej:j=kk
    ·rw[ej,HE.out,h0];rfl
    exact OW j (by omega)
   clear h0;go_wp2
   go_roundg (6 -(kk+1))
   case measure=>omega
   exact⟨kk+1,by omega,by omega,by go_num,HG2,X2,Y2,OW'⟩
  have h0e:(e != 0)=true:=by simp[h0]
  have HZE:Hid (Z=e):=dD<|by
   rw[<-HZ2.out];exact zcb (fun j x hj hx=>by have:=OW.out j hj;rw[hx]at this;exact this) HE h0
  clear h0;go_wp2;go_ret;exact⟨by rw[HZE.out];rfl,HG2⟩
 have hltz:¬(kk:Int)<6:=by omega
 have:kk=6:=by omega
 subst this;have HZE:Hid (Z=0):=dD<|by
  rw[<-HZ2.out];refine zcc fun j x hx=>?_
  have hj:=(gS.1 hx).1;have:=OW.out j (by simpa [zi5]using hj)
  rw[hx]at this;exact this
 go_wp2;go_ret;exact⟨by rw[HZE.out];rfl,BW⟩
theorem ziu {w:World} {p:Nat} (h:ChM w0 p w V m) (q r:Nat) (hq:q<m.sp.length) (hr:r<m.sp.length) (n:Int) (x y z:Nat) (hx:Box w x [.pointer (some ⟨p,0,none⟩)]) (hy:Box w y [I6 (q:Int)]) (hz:Box w z [I6 (r:Int)]):
  Calls prog 56 #[I6 n,.pointer (some ⟨x,0,none⟩),.pointer (some ⟨y,0,none⟩),.pointer (some ⟨z,0,none⟩)] w fun e w'=>(∃v,e= .returned v)/\Chd w0 p w V (Qq m q r n) w':=by
 have x0:=hx.c 0 rfl;have y0:=hy.c 0 rfl;have z0:=hz.c 0 rfl;have hsh:=zf8 h q r hq hr n;clear h hq hr hx hy hz
 go_enter func56,ntmps56
 go_wp2_with fail;refine hsh.mono ?_;rintro e W1 ⟨⟨v1,rfl⟩,h1⟩;have M1:Hid (Chd w0 p w V (Qq m q r n) W1):=h1;clear h1 hsh;go_wp2
 (first | go_end0 | ((try simp only[Exit.inBlock,Exit.then]);refine bodyPost_ret (results_none rfl _ _ _) rfl ?_))
 first | exact M1.out | exact⟨⟨_,rfl⟩,M1⟩
theorem ziB {w:World} {p:Nat} (h:ChM w0 p w V m) (q:Nat) (hq:q<m.sp.length) (n:Int) (x y:Nat) (hx:Box w x [.pointer (some ⟨p,0,none⟩)]) (hy:Box w y [I6 (q:Int)]):
  Calls prog 84 #[I6 n,.pointer (some ⟨x,0,none⟩),.pointer (some ⟨y,0,none⟩)] w fun e w'=>(∃v,e= .returned v)/\Chd w0 p w V (zd2 m q n) w':=by
 have x0:=hx.c 0 rfl;have y0:=hy.c 0 rfl;have hsh:=zhr h q hq n;clear h hq hx hy
 go_enter func84,ntmps84
 go_wp2_with fail;refine hsh.mono ?_;rintro e W1 ⟨⟨v1,rfl⟩,h1⟩;have M1:Hid (Chd w0 p w V (zd2 m q n) W1):=h1;clear h1 hsh;go_wp2
 (first | go_end0 | ((try simp only[Exit.inBlock,Exit.then]);refine bodyPost_ret (results_none rfl _ _ _) rfl ?_))
 first | exact M1.out | exact⟨⟨_,rfl⟩,M1⟩
theorem zfO {size n g:Nat} {w:World} {v:Value} (h:w.ownsRow b e size v n xs) (hv:v.ownBlock=some g):b<=g/\g<w.heap.size/\∃cs,w.heap[g]? =some (.cells cs e (0,0)):=by
 rcases h.2 with⟨rfl,_⟩|⟨k,cap,cur,rfl,h2,h3,h4⟩
 ·cases hv
 simp only[Value.ownBlock,Option.some.injEq]at hv;subst hv;exact⟨h2,(aS.1 h3).1,cur,h3⟩
theorem zeC {D:Nat->Prop} {size n:Nat} {w:World} {v:Value} (h:w.ownsRow b e size v n xs) (k:qR D w W) (hn:∀g,v.ownBlock=some g->¬D g):W.ownsRow b e size v n xs:=by
 refine⟨h.1,?_⟩
 rcases h.2 with h1|⟨g,cap,cur,rfl,h2,h3,h4⟩
 ·exact .inl h1
 exact .inr ⟨g,cap,cur,rfl,h2,by rw[k.block g (aS.1 h3).1 (hn g rfl)];exact h3,h4⟩
theorem zkb.changed {base p:Nat} {w:World} (h:zkb base w V m) (hB:B<=base) (hp:w.heap.size<=p) (k:qR (Dq B p V.sp) w W):zkt W V m/\∀(xs:List SpV) (Bs:Nat->Nat),base<=Bs 0->(∀i,Bs i<=Bs (i+1))->(∀(i:Nat) x s,xs[i]? =some x->m.sp[i]? =some s->QT (Bs i) (Bs (i+1)) w x s)->∀(i:Nat) x s,xs[i]? =some x->m.sp[i]? =some s->zZ W x s:=by
 obtain⟨ys,_,s1,_⟩:=h.sp;have key:∀{b size n:Nat} {e:TypeId} {v:Value} {xs:List Value},w.ownsRow b e size v n xs->base<=b->jx.ty≠e->W.ownsRow b e size v n xs:=fun hr hb he=>zeC hr k fun g hg hd=>by
  obtain⟨h1,h2,cs,h3⟩:=zfO hr hg
  rcases hd with hd|hd|hd
  ·omega
  ·omega
  obtain⟨ds,h4⟩:=s1.obj hd;rw[h4]at h3;cases h3;exact he rfl
 have keyR:∀{α:Type} {E:Elt α} {b:Nat} {v:Value} {l:List α},zb E b w v l->base<=b->jx.ty≠E.ty->zb E b W v l:=fun hr hb he=>⟨key hr.1 hb he,hr.2⟩
 obtain⟨lo,⟨zs,f1,f2,f3,f4⟩,l1,l2⟩:=h.fl;have hf':qY lo W (V.fl.x) m.fl:=⟨zs,keyR f1 l1 (by decide),f2,fun i x f hx hf=>⟨(f3 i x f hx hf).1,keyR (f3 i x f hx hf).2 l1 (by decide)⟩,f4⟩
 have hb:=nR base;refine⟨⟨(keyR h.fs hb (by decide)).at,(keyR h.sl hb (by decide)).at,zw.at ⟨key h.sb.1 hb (by decide),h.sb.2⟩,z5.at ⟨key h.sq.1 hb (by decide),h.sq.2⟩,zw.at ⟨key h.db.1 hb (by decide),h.db.2⟩,z5.at ⟨key h.dq.1 hb (by decide),h.dq.2⟩,hf'.new.now0,(keyR h.ca hb (by decide)).at⟩,fun xs Bs b0 bm h5 i x s hx hs=>?_⟩
 have o:=h5 i x s hx hs;have hbi:base<=Bs i:=nT b0 (zdJ bm (nZ i));have o':QT (Bs i) (Bs (i+1)) W x s:=⟨o.live,keyR o.ar hbi (by decide),⟨o.tb.len,o.tb.tlen,fun j v y hv hy=>keyR (o.tb.row j v y hv hy) hbi (by decide),o.tb.two⟩,o.arh,o.tbh⟩
 exact o'.at
theorem zkf (V:MaV) (m:Ma) (w:World) (hm:zF w V m):
  Calls prog 52 #[.agg (mL V m).toArray] w fun e w'=>∃(p:Nat) (V':MaV),e= .returned (.pointer (some ⟨p,0,none⟩))/\ChM w p w' V' m:=by
 obtain⟨W1,hW1⟩:∃W1,w.alloc (.cells (mL V m).toArray 41)=W1:=⟨_,rfl⟩;have G1:=gA hW1
 have X1:=xA hW1
 have HW1:Hid (_=W1):=hW1;clear hW1;have how:=zju V m W1 (hm.grew G1);clear hm
 go_enter func52,ntmps52
 go_upto_region 1 with fail;rw[HW1.out];obtain⟨x0,x1,x2,x3,x4,x5,x6,x7,x8,x9,x10⟩:=X1.c11;go_wp2_with fail;refine how.mono ?_;clear how x0 x1 x2 x3 x4 x5 x6 x7 x8 x9 x10;rintro e W2 ⟨V',rfl,ow,g2⟩;have G2:=dD (G1.trans g2);have O2:Hid (zkb W1.heap.size W2 V' m):=ow;have HS:Hid (w.heap.size<=W1.heap.size):=show _<=_ from bS G1.out
 clear ow g2;have HF:Hid (ChM w W2.heap.size (W2.alloc (.cells (chL V' m).toArray 111)) V' m):=dD<|by
  have ga:zc W2 (W2.alloc (.cells (chL V' m).toArray 111)):=za _ _;obtain⟨xs,B,s1,s2,s3,s4,s5⟩:=O2.sp;refine⟨G2.trans ga,bS G2,zp.top _ _ _ rfl,fun W hW=>(O2.changed HS (nR _) ((qR.grew ga).trans hW)).1,⟨xs,(s1.grew ga).base HS,s2,fun i x s hx hs W hW=>(O2.changed HS (nR _) ((qR.grew ga).trans hW)).2 xs B s3 s4 s5 i x s hx hs⟩⟩
 go_wp2;go_ret;exact⟨_,V',rfl,HF⟩
section
variable{α:Type} {E:Elt α}
theorem zbp {w:World} {base:Nat} {v:Value} {l0:List α} (ty:TypeId) (h0:zb E base w v l0) (vx:Value) (l:List α) (hv:zr E w vx l) (hb:(l0.length+l.length)*E.bytes<=140737488355328) (hbase:base<=w.heap.size):
  ∃v' w',(Builtin.append_ #[E.st,E.st] ty #[v,vx]).run prog w= .ok v' w'/\zb E base w' v' (l0++l)/\w.grownBy w' v.ownBlock/\∀g,v'.ownBlock=some g->v.ownBlock=some g\/w.heap.size<=g:=by
 obtain⟨i0,hi,hz0,hz1,hz2⟩:=info_parts E.info;obtain⟨⟨ax,c,rfl,hnone,hcells⟩,hby⟩:=hv;have h2:(l0.length+l.length)*1<=(l0.length+l.length)*E.bytes:=Nat.mul_le_mul_left _ (nT E.pos E.few)
 cases ax with
 | none=>
  have hps:=hnone rfl;subst hps;exact⟨v,w,ZC ty h0 c,by simpa using h0,World.grownBy.rfl' _ _,fun g h=> .inl h⟩
 | some ad=>
  rcases h0.1.2 with⟨rfl,hn0⟩|⟨g,cap,cur,rfl,hgb,hgc,hnc,hcm,hcs,hct⟩
  ·have hl0:l0=[]:=eN hn0;subst hl0;obtain⟨v',w',hr,ho,hg,_⟩:=run_append_own (P:=prog) w w.heap.size E.st ty E.ty i0 _ E.k E.bytes E.und hi hz0 hz1 hz2 (zgT E) E.pos _ 0 [] (World.ownsRow_nil _ _ _ _) ad l.length c (l.flatMap E.enc) (jr E l) (hcells ad rfl) (qV E.one l) (qN (by simp at h2 hb⊢;omega)) (by simpa using hb) (nR _)
   have ho':zb E w.heap.size w' v' ([]++l):=⟨by simpa using ho,by simpa using hb⟩
   exact⟨v',w',hr,ho'.base hbase,hg,fun g h=> .inr (ho'.lt g h).1⟩
  by_cases hroom:l0.length+l.length<=cap
  ·obtain⟨w',hr,ho,hg⟩:=run_append_fits (P:=prog) w base E.st ty E.ty i0 E.k E.und hi hz1 g l0.length cap _ h0.1 ad l.length c (l.flatMap E.enc) (jr E l) (hcells ad rfl) (qV E.one l) hroom;exact⟨_,w',hr,⟨by rw[lA,List.flatMap_append];exact ho,by rw[lA];exact hb⟩,hg,fun g' h=> .inl h⟩
  obtain⟨v',w',hr,ho,hg⟩:=run_append_arg_grows (P:=prog) w E.st ty E.ty i0 _ E.k E.bytes E.und hi hz0 hz1 hz2 (zgT E) E.pos ⟨g,0,none⟩ l0.length cap (l0.flatMap E.enc) (jr E l0) (h0.1.cells rfl) ad l.length c (l.flatMap E.enc) (jr E l) (hcells ad rfl) (by omega) (qN (by omega)) hb
  have ho':zb E w.heap.size w' v' (l0++l):=⟨by rw[lA,List.flatMap_append];exact ho,by rw[lA];exact hb⟩
  exact⟨v',w',hr,ho'.base hbase,⟨hg.os,hg.tape,hg.output,hg.size,fun k hk _=>hg.block k hk (by simp)⟩,fun g' h=> .inr (ho'.lt g' h).1⟩
theorem JZ {w:World} {rest:List Oper} {a:Act} (hgd:o.guard=none) (s x:Operand) (ho:o.op= .call { callee:= .builtin .append,args:=#[s,x],argTypes:=#[E.st,E.st] })
  (base:Nat) (vs:Value) (l0:List α) (hs:a.eval s=vs) (hown:zb E base w vs l0) (vx:Value) (l:List α) (hx:a.eval x=vx) (hv:zr E w vx l) (hb:(l0.length+l.length)*E.bytes<=140737488355328) (hbase:base<=w.heap.size)
  (h:∀v' w',zb E base w' v' (l0++l)->w.grownBy w' vs.ownBlock->(∀g,v'.ownBlock=some g->vs.ownBlock=some g\/w.heap.size<=g)->wpList prog ops Q rest (a.put o.dst v') w'):wpList prog ops Q (o :: rest) a w:=by
 refine wpList_plain hgd fun K hK=>?_
 obtain⟨v',w',hrun,h1,h2,h3⟩:=zbp o.type hown vx l hv hb hbase;unfold Oper.wp execOp;simp only[ho,resolve,invoke,builtin,Sem.run_bind,Sem.run_pure,rA,List.map_toArray,mP,List.map_nil,hs,hx,hrun];exact hK _ _ (h v' w' h1 h2 h3)
end
theorem zfw (x:SpV) (w:World):
  Calls prog 89 #[.agg #[.bool x.live,x.ar.x,x.t0.x,x.t1.x,x.t2.x,x.t3.x,x.t4.x,x.t5.x,x.t6.x,x.t7.x]] w fun e w'=>e= .returned (.bool (!x.live))/\zc w w':=by
 obtain⟨W0,hW0⟩:∃W0,w.alloc (.cells #[.bool x.live,x.ar.x,x.t0.x,x.t1.x,x.t2.x,x.t3.x,x.t4.x,x.t5.x,x.t6.x,x.t7.x] 55)=W0:=⟨_,rfl⟩;have HG0:=gA hW0
 have X0:=xA hW0
 have HW0:Hid (_=W0):=hW0;clear hW0
 go_enter func89,ntmps89
 go_upto_region 1 with fail;rw[HW0.out];have x0:=X0.c 0 rfl;go_wp2;go_ret;exact⟨rfl,HG0⟩
def zlB (l:List SpV) (z:Int):Prop:=(∃(k:Nat) (x:SpV),z=k/\l[k]? =some x/\x.live=false/\∀(j:Nat) (q:SpV),j<k->l[j]? =some q->q.live=true)\/(z=-1/\∀(j:Nat) (q:SpV),l[j]? =some q->q.live=true)
theorem zcG (v:Value) (l:List SpV) (w:World) (hv:zr jx w v l):
  Calls prog 88 #[v,.func (.func 89) #[] #[]] w fun e w'=>(∃z:Int,e= .returned (I6 z)/\zlB l z)/\zc w w':=by
 have hbig:=hv.short;obtain⟨a,c,rfl,hrow⟩:=hv.sps;have HR:Hid (zkr w a l):=hrow;have eg:=enters_of func89 (by kernel_rfl) rfl
 clear hrow hv;obtain⟨n,HN⟩:∃n,Hid (l.length=n):=⟨_,rfl⟩;rw[HN.out]at hbig⊢;obtain⟨ANS,HANS⟩:∃ANS:Int->Prop,Hid (∀z,zlB l z=ANS z):=⟨zlB l,fun _=>rfl⟩
 simp only[HANS.out]
 go_enter func88,ntmps88
 go_wp2
 go_loopg [5,8] n (fun gg _ s8 wr=>∃kk:Nat,kk<=n/\n - kk<=gg/\s8=I6 kk/\Hid (zc w wr)/\Hid (∀(j:Nat) (q:SpV),j<kk->l[j]? =some q->q.live=true))
 case atStart=>exact⟨0,nZ _,by omega,rfl,zc.refl w,fun j q hj=>absurd hj (nL _)⟩
 obtain⟨kk,hkk,hg,rfl,BW,A⟩:=hrel
 by_cases hlt:kk<n
 ·have hltz:(kk:Int)< (n:Int):=by omega
  obtain⟨x,HQ⟩:∃q,Hid (l[kk]? =some q):=⟨_,gE (by rw[HN.out];exact hlt)⟩
  obtain⟨ad,rfl,hl⟩:=HR.out kk x HQ.out;obtain⟨d0,d1,d2,d3,d4,d5,d6,d7,d8,d9⟩:=jp.sp10 (hl wr BW);have hcall:=zfw x wr;clear hl
  cases hq:x.live with
  | false=>
   have HF:Hid (ANS (kk:Int)):=dD<|by
    rw[<-HANS.out];exact .inl ⟨kk,x,rfl,HQ,hq,A⟩
   rw[hq]at hcall d0;clear hq;go_wp2_with fail;refine hcall.mono ?_;rintro e W2 ⟨rfl,g2⟩;have G2:=dD (BW.trans g2);clear g2 hcall d0 d1 d2 d3 d4 d5 d6 d7 d8 d9;go_wp2;go_ret;exact⟨⟨_,rfl,HF⟩,G2⟩
  | true=>
   have A2:Hid (∀(j:Nat) (q:SpV),j<kk+1->l[j]? =some q->q.live=true):=dD<|fun j q hj hjq=>by
    by_cases e:j=kk
    ·subst e;rw[HQ.out]at hjq;cases hjq;exact hq
    exact A j q (by omega) hjq
   rw[hq]at hcall d0;clear hq;go_wp2_with fail;refine hcall.mono ?_;rintro e W2 ⟨rfl,g2⟩;have G2:=dD (BW.trans g2);clear g2 hcall d0 d1 d2 d3 d4 d5 d6 d7 d8 d9;go_wp2
   go_roundg (n -(kk+1))
   case measure=>omega
   exact⟨kk+1,by omega,by omega,by go_num,G2,A2⟩
 have hltz:¬(kk:Int)< (n:Int):=by omega
 have HF:Hid (ANS (-1)):=dD<|by
  rw[<-HANS.out];refine .inr ⟨rfl,fun j q hjq=>A.out j q ?_ hjq⟩
  have:=(gS.1 hjq).1;have:=HN.out;omega
 go_wp2;go_ret;exact⟨⟨_,rfl,HF⟩,BW⟩
def Vac (l:List Sp) (k:Nat):Prop:=k<=l.length/\(∀s,l[k]? =some s->s.live=false)/\∀(j:Nat) (s:Sp),j<k->l[j]? =some s->s.live=true
theorem zgY (v:Value) (ss:List Sp) (w:World) (hv:Qe w v ss):
  Calls prog 51 #[v] w fun e w'=>(∃k:Nat,e= .returned (I6 (k:Int))/\Vac ss k)/\zc w w':=by
 obtain⟨xs,k1,k2,k3⟩:=hv;have hix:=zcG v xs w k1;have HV:Hid (∀z,zlB xs z->(∃k:Nat,z=(k:Int)/\Vac ss k)\/(z=-1/\Vac ss xs.length)):=dD<|fun z hz=>by
  have key:∀(j:Nat) s,ss[j]? =some s->∃x,xs[j]? =some x/\x.live=s.live:=fun j s hs=>by
   have hj:j<xs.length:=by rw[k2];exact(gS.1 hs).1
   exact⟨_,gE hj,(k3 j _ s (gE hj) hs).live⟩
  rcases hz with⟨k,x,rfl,h1,h2,h3⟩|⟨rfl,h1⟩
  ·refine .inl ⟨k,rfl,?_,fun s hs=>?_,fun j s hj hs=>?_⟩
   ·rw[<-k2];exact Nat.le_of_lt (gS.1 h1).1
   ·obtain⟨y,e1,e2⟩:=key k s hs;rw[h1]at e1;cases e1;rw[<-e2,h2]
   obtain⟨y,e1,e2⟩:=key j s hs;rw[<-e2];exact h3 j y hj e1
  refine .inr ⟨rfl,by rw[k2];exact nR _,fun s hs=>?_,fun j s hj hs=>?_⟩
  ·rw[k2,gN (nR _)]at hs;cases hs
  obtain⟨y,e1,e2⟩:=key j s hs;rw[<-e2];exact h1 j y e1
 obtain⟨a,c,rfl,_⟩:=k1.rows;clear k1 k2 k3;obtain⟨n,HN⟩:∃n,Hid (xs.length=n):=⟨_,rfl⟩;rw[HN.out]at hix HV⊢
 go_enter func51,ntmps51
 go_wp2_with fail;refine hix.mono ?_;clear hix;rintro e W1 ⟨⟨z,rfl,hz⟩,g1⟩;have G1:Hid (zc w W1):=g1;clear g1
 rcases HV z hz with⟨k,rfl,hk⟩|⟨rfl,hk⟩
 ·have HK:Hid (Vac ss k):=hk;have hneg:¬(k:Int)<0:=by omega
  clear hk hz;go_wp2;go_ret;exact⟨⟨k,rfl,HK⟩,G1⟩
 have HK:Hid (Vac ss n):=hk;clear hk hz;go_wp2;go_ret;exact⟨⟨n,rfl,HK⟩,G1⟩
def J1 {α:Type} (l:List α) (k:Nat) (y:α):List α:=if k=l.length then l++ [y]else l.set k y
theorem QI {α:Type} {l:List α} {k:Nat} (hk:k<=l.length) (y:α) (i:Nat):(J1 l k y)[i]? =if i=k then some y else l[i]?:=by
 unfold J1
 by_cases h:k=l.length
 ·rw[if_pos h];subst h
  by_cases e:i=l.length
  ·subst e;simp
  rw[if_neg e]
  rcases Nat.lt_or_gt_of_ne e with h1|h1
  ·rw[List.getElem?_append_left h1]
  rw[gN (by simp;omega),gN (by omega)]
 rw[if_neg h,List.getElem?_set]
 by_cases e:k=i
 ·subst e;rw[if_pos rfl,if_pos rfl,if_pos (by omega)]
 rw[if_neg e,if_neg (fun h=>e h.symm)]
theorem zby {α:Type} {l:List α} {k:Nat} (hk:k<=l.length) (y:α):(J1 l k y).length=max l.length (k+1):=by
 unfold J1
 by_cases h:k=l.length
 ·rw[if_pos h];simp;omega
 rw[if_neg h];simp;omega
theorem zfC (base:Nat) (v:Value) (xs:List SpV) (k:Nat) (y:SpV) (w:World) (hv:zb jx base w v xs) (hb:base<=w.heap.size) (hk:k<=xs.length) (h4:xs.length<=4):
  Calls prog 53 #[v,I6 (k:Int),.agg #[.bool y.live,y.ar.x,y.t0.x,y.t1.x,y.t2.x,y.t3.x,y.t4.x,y.t5.x,y.t6.x,y.t7.x]] w fun e w'=>∃v',e= .returned v'/\zb jx base w' v' (J1 xs k y)/\w.grownBy w' v.ownBlock/\∀g,v'.ownBlock=some g->v.ownBlock=some g\/w.heap.size<=g:=by
 have HV:Hid (zb jx base w v xs):=hv;have HB:Hid (base<=w.heap.size):=hb;obtain⟨a,c,rfl⟩:=hv.form;obtain⟨n,HN⟩:∃n,Hid (xs.length=n):=⟨_,rfl⟩;rw[HN.out]at HV hk h4⊢;clear hv hb;obtain⟨W0,hW0⟩:∃W0,w.alloc (.cells #[.bool y.live,y.ar.x,y.t0.x,y.t1.x,y.t2.x,y.t3.x,y.t4.x,y.t5.x,y.t6.x,y.t7.x] 55)=W0:=⟨_,rfl⟩;have G0:=gA hW0
 have X0:=xA hW0
 have HW0:Hid (_=W0):=hW0;clear hW0
 go_enter func53,ntmps53
 go_upto_region 1 with fail;rw[HW0.out];obtain⟨b,HBB⟩:∃b,Hid (w.heap.size=b):=⟨_,rfl⟩;rw[HBB.out]at X0⊢;obtain⟨x0,x1,x2,x3,x4,x5,x6,x7,x8,x9⟩:=X0.c10
 by_cases he:k=n
 ·have hez:((k:Int) ==(n:Int))=true:=by rw[he];simp
  have HSS:Hid (J1 xs k y=xs++ [y]):=dD<|by unfold J1;rw[if_pos (by rw[HN.out];exact he)]
  clear he;obtain⟨W1,hW1⟩:∃W1,W0.alloc (.cells #[.bool y.live,y.ar.x,y.t0.x,y.t1.x,y.t2.x,y.t3.x,y.t4.x,y.t5.x,y.t6.x,y.t7.x] 55)=W1:=⟨_,rfl⟩;have G1:=gT hW1 G0
  have R1:Hid (zr jx W1 (.slice (some ⟨W0.heap.size,0,none⟩) 1 1) [y]):=dD<|by rw[<-hW1];exact zbS jx W0 [y] _ rfl (show 1*224<=140737488355328 by decide)
  have HW1:Hid (_=W1):=hW1;clear hW1
  go_wp2_with (at_builtin;rw[HW1.out];refine JZ (E:=jx) rfl (.tmp 11) (.tmp 13) rfl base _ xs rfl (HV.grew G1) _ [y] rfl R1.out ?hb (nT HB (bS G1)) ?_)
  case hb=>
   show(xs.length+1)*224<=_
   rw[HN.out];omega
  intro v' W2 ow2 gr2 ap2;have HF:Hid (zb jx base W2 v' (J1 xs k y)/\w.grownBy W2 (Value.slice a n c).ownBlock/\∀g,v'.ownBlock=some g->(Value.slice a n c).ownBlock=some g\/w.heap.size<=g):=dD<|⟨by rw[HSS.out];exact ow2,⟨gr2.os.trans (Below.os G1),gr2.tape.trans (Below.tape G1),gr2.output.trans (Below.output G1),nT (bS G1) gr2.size,fun i hi hne=>(gr2.block i (Nat.lt_of_lt_of_le hi (bS G1)) hne).trans (Below.block G1 i hi)⟩,fun g hg=>(ap2 g hg).imp id (fun h=>nT (bS G1) h)⟩
  clear ow2 gr2 ap2;go_wp2;go_ret;exact⟨_,rfl,HF⟩
 have hez:((k:Int) ==(n:Int))=false:=by
  have:(k:Int)≠(n:Int):=by omega
  simpa using this
 have HSS:Hid (J1 xs k y=xs.set k y):=dD<|by unfold J1;rw[if_neg (by rw[HN.out];exact he)]
 have hkn:k<n:=by omega
 have hkz:(k:Int)< (n:Int):=by omega
 clear he;obtain⟨g,c',heq⟩:=HV.formS (by rw[HN.out];omega)
 rw[HN.out]at heq;cases heq
 go_wp2_with (refine qE (E:=jx) rfl (.tmp 18) (.tmp 17) rfl base _ xs (HV.grew G0) g k rfl y (by rw[HN.out];exact hkn) _ rfl (by simp[jx]) _ rfl rfl ?_)
 intro W2 ow2 gr2 sz2;have HF:Hid (zb jx base W2 (.slice (some ⟨g,0,none⟩) n c) (J1 xs k y)/\w.grownBy W2 (Value.slice (some ⟨g,0,none⟩) n c).ownBlock/\∀g',(Value.slice (some ⟨g,0,none⟩) n c).ownBlock=some g'->(Value.slice (some ⟨g,0,none⟩) n c).ownBlock=some g'\/w.heap.size<=g'):=dD<|⟨by rw[HSS.out];exact ow2,⟨gr2.os.trans (Below.os G0),gr2.tape.trans (Below.tape G0),gr2.output.trans (Below.output G0),nT (bS G0) gr2.size,fun i hi hne=>(gr2.block i (Nat.lt_of_lt_of_le hi (bS G0)) hne).trans (Below.block G0 i hi)⟩,fun g' hg=> .inl hg⟩
 clear ow2 gr2 sz2 x0 x1 x2 x3 x4 x5 x6 x7 x8 x9;go_wp2;go_ret;exact⟨_,rfl,HF⟩
theorem ChM.space {w w3:World} {p k:Nat} (h:ChM w0 p w V m) {xs:List SpV} {ya sv:Sli} (hk:k<=m.sp.length) (s2:xs.length=m.sp.length) (s3:∀(i:Nat) x s,xs[i]? =some x->m.sp[i]? =some s->∀W,qR (Dq w0.heap.size p V.sp) w W->zZ W x s)
  (g1:zc w w1) (ar:zb arE w.heap.size w1 (ya.x) l) (ow:zb jx w0.heap.size w2 (sv.x) (J1 xs k ⟨true,ya,zx,zx,zx,zx,zx,zx,zx,zx⟩)) (g2:w1.grownBy w2 (V.sp.x).ownBlock)
  (ap:∀g,(sv.x).ownBlock=some g->(V.sp.x).ownBlock=some g\/w1.heap.size<=g) (g3:w2.grownBy w3 (some p)) (bx:zp w3 p 111 (chL { V with sp:=sv } m)):
  ChM w0 p w3 { V with sp:=sv } { m with sp:=J1 m.sp k ⟨true,l,z8⟩ }:=by
 have o12:qR (Dp p V.sp) w1 w2:=⟨g2.os,g2.tape,g2.output,g2.size,fun i hi hb=>g2.block i hi (fun e=>hb (.inr e.symm))⟩
 have o23:qR (Dp p V.sp) w2 w3:=qR.grown g3 (.inl rfl);have o13:=o12.trans o23;have key:∀W,qR (Dq w0.heap.size p sv) w3 W->qR (Dq w0.heap.size p V.sp) w1 W:=fun W hW=>have o13:=o13.big w0.heap.size;⟨hW.os.trans o13.os,hW.tape.trans o13.tape,hW.output.trans o13.output,nT o13.size hW.size,fun i hi hb=>(hW.block i (Nat.lt_of_lt_of_le hi o13.size) (fun e=>by
  rcases e with e|e|e
  ·exact hb (.inl e)
  ·exact hb (.inr (.inl e))
  rcases ap i e with e|e
  ·exact hb (.inr (.inr e))
  omega)).trans (o13.block i hi hb)⟩
 have key0:∀W,qR (Dq w0.heap.size p sv) w3 W->qR (Dq w0.heap.size p V.sp) w W:=fun W hW=>(qR.grew g1).trans (key W hW)
 have gr3:zc w0 w3:=by
  have a1:=h.gr.trans g1;have hd:=h.dlo;exact⟨o13.os.trans (Below.os a1),o13.tape.trans (Below.tape a1),o13.output.trans (Below.output a1),nT (bS a1) o13.size,fun i hi=>(o13.block i (Nat.lt_of_lt_of_le hi (bS a1)) (fun e=>by have:=hd i e;omega)).trans (Below.block a1 i hi)⟩
 have hpt:(111:TypeId)≠jx.ty:=by decide
 refine⟨gr3,h.lo,bx,fun W hW=>?_,⟨_,ow.grown g3 (fun g hg e=>?_),?_,fun i x s hx hs W hW=>?_⟩⟩
 ·have r:=h.rest W (key0 W hW);exact⟨r.fs,r.sl,r.sb,r.sq,r.db,r.dq,r.fl,r.ca⟩
 ·have hb1:zp w2 p 111 (chL V m):=(h.box.grew g1).beside g2 (fun g' e=>h.ne g' e)
  cases e;exact ow.ne hb1 hpt _ hg rfl
 ·show(J1 xs k _).length=(J1 m.sp k _).length
  rw[zby (by omega),zby hk,s2]
 have hs:(J1 m.sp k ⟨true,l,z8⟩)[i]? =some s:=hs;rw[QI (by omega)]at hx
 rw[QI hk]at hs
 by_cases e:i=k
 ·rw[if_pos e]at hx hs;cases hx;cases hs;exact⟨rfl,ar.new.staysD h.dqt W (key W hW),ar.cap,ZM.nil _ _ _⟩
 rw[if_neg e]at hx hs;exact s3 i x s hx hs W (key0 W hW)
def ZT (m:Ma) (p:Int) (q:Nat) (s:Sp):Prop:=p=(q:Int)/\m.sp[q]? =some s/\s.live=true
theorem QV (V:MaV) (m:Ma) (p:Int) (w:World) (hm:zF w V m) (h0:maW m=0):
  Calls prog 50 #[.agg (mL V m).toArray,I6 p] w fun e w'=>((e= .returned (I6 0)/\∃q s,ZT m p q s)\/(e= .returned (I6 5)/\∀q s,¬ZT m p q s))/\zc w w':=by
 obtain⟨W1,hW1⟩:∃W1,w.alloc (.cells (mL V m).toArray 41)=W1:=⟨_,rfl⟩;have G1:=gA hW1
 have X1:=xA hW1
 have HM:Hid (zF w V m):=hm;have HW1:Hid (_=W1):=hW1;clear hW1;have hwr:=zgU V m W1 (hm.grew G1);rw[h0]at hwr;obtain⟨-,-,-,-,-,-,-,-,n9⟩:=hm.ns;have HN9:Hid (V.sp.n=m.sp.length):=n9;clear hm h0 n9
 go_enter func50,ntmps50
 go_upto_region 1 with fail;rw[HW1.out];obtain⟨b,HB⟩:∃b,Hid (w.heap.size=b):=⟨_,rfl⟩;rw[HB.out]at X1⊢;obtain⟨x0,x1,x2,x3,x4,x5,x6,x7,x8,x9,x10⟩:=X1.c11;go_wp2_with fail;refine hwr.mono ?_;clear hwr x0 x1 x2 x3 x4 x5 x6 x7 x8 x9 x10;rintro e W2 ⟨rfl,g2⟩;have G2:=dD (G1.trans g2);have X2:=dD (X1.grew g2);clear g2;have x10:=X2.c 10 rfl;obtain⟨sn,HSN⟩:∃sn,Hid (V.sp.n=sn):=⟨_,rfl⟩;(try simp only[Sli.x]at x10);rw[HSN.out]at x10
 by_cases hneg:p<0
 ·have HF:Hid (∀q s,¬ZT m p q s):=dD<|fun q s h=>by have:=h.1;omega
  go_wp2;go_ret;exact⟨.inr ⟨rfl,HF⟩,G2⟩
 by_cases hge:(sn:Int)<=p
 ·have HF:Hid (∀q s,¬ZT m p q s):=dD<|fun q s h=>by
   have:=h.1;have:=(gS.1 h.2.1).1;have:=HSN.out;have:=HN9.out;omega
  go_wp2;go_ret;exact⟨.inr ⟨rfl,HF⟩,G2⟩
 obtain⟨q,rfl⟩:∃q:Nat,p=(q:Int):=⟨p.toNat,by omega⟩
 have hqz:(q:Int)< (sn:Int):=by omega
 obtain⟨xs,s1,s2,s3⟩:=(HM.grew G2).sp;obtain⟨x,hx⟩:∃x,xs[q]? =some x:=⟨_,gE (by rw[s2,<-HN9.out,HSN.out];omega)⟩
 obtain⟨s,hs⟩:∃s,m.sp[q]? =some s:=⟨_,gE (by rw[<-HN9.out,HSN.out];omega)⟩
 have hlv:=(s3 q x s hx hs).live;obtain⟨a,c,heq,hrow⟩:=s1.sps;have ha:V.sp.a=a:=by
  simp only[vJ]at heq;exact heq.1
 obtain⟨ad,had,hl⟩:=hrow q x hx;have HS:Hid (m.sp[q]? =some s):=hs;obtain⟨d0,-⟩:=jp.sp10 (hl W2 (zc.refl _));(try simp only[Sli.x]at x10);rw[ha,had]at x10;clear hl hrow heq ha had s1 s2 s3 hx hs
 cases hv:s.live with
 | true=>
  rw[hlv,hv]at d0;have HF:Hid (∃q' s,ZT m (q:Int) q' s):=dD<|⟨q,s,rfl,HS,hv⟩
  clear hv hlv;go_wp2;go_ret;exact⟨.inl ⟨rfl,HF⟩,G2⟩
 | false=>
  rw[hlv,hv]at d0;have HF:Hid (∀q' s,¬ZT m (q:Int) q' s):=dD<|fun q' s' h=>by
   have e:q'=q:=by have:=h.1;omega
   rw[e]at h;have h2:=h.2.1;rw[HS.out]at h2;cases h2;have h3:=h.2.2;rw[hv]at h3;cases h3
  clear hv hlv;go_wp2;go_ret;exact⟨.inr ⟨rfl,HF⟩,G2⟩
def zlI (f s b:Int):Prop:=(0<=f/\f<=40)/\(0<=s/\s<=60)/\(0<=b/\b<=80)
def zkJ (f s b:Int):Ma:=⟨List.replicate f.toNat frF,0,List.replicate s.toNat 0,List.replicate s.toNat zt,[],List.replicate b.toNat zt,[],[],b,[],[⟨true,[],z8⟩]⟩
theorem zW {fn:Func} {p u t:Tmp} {ty:TypeId} (h:fn.results=#[.cell p ty,.tmp u,.tmp t]) (tmps:Array Value) {w:World} (hp:tmps.getD p undef= .pointer (some ⟨b,0,none⟩)) (hb:Box w b vs) {d:TypeDesc} (hu:Tryz.prog.underlying ty=some d) (hd:d.isRow=true) (hi:(Tryz.prog.info? ty).map (·.size)=some vs.length):
  (results fn tmps).run prog w= .ok (.tuple #[.agg vs.toArray,tmps.getD u undef,tmps.getD t undef]) w:=by
 have hp':tmps[p]?.getD undef= .pointer (some ⟨b,0,none⟩):=by simpa using hp
 have hld:=run_loadVar_mid (P:=prog) w b 0 ty vs d hb.range hu hd hi
 simp[results,h,hp',asAddr,hld]
structure zlX where
 arg:Operand
 pv:Value->Prop
 post:Value->Value->World->Prop
 step:World->World->Prop
 pre:World->Prop:=fun _=>True
end
end Go.Proofs.YtdgccecjbpgmfaaGreat
