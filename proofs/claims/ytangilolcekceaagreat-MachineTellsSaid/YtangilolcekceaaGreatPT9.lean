import Derived.Test.YtangilolcekceaaGreatPT8
import Derived.Deep.CutBlock
import Derived.Deep.DeepCutAuto
import Derived.Laws.StructEq
import Derived.BigQuiet
import Derived.WalkSmall
namespace Go.Proofs.YtangilolcekceaaGreat
set_option maxRecDepth 100000
set_option maxHeartbeats 4000000
variable{L:List Int} {Q:Exit->Act->World->Prop} {T:List (Nat->En)} {V:MaV} {fi hi ht i nb nf:Nat} {hd z:Int} {l:List Ar} {m:Ma} {o:Oper} {ops:Array Oper} {t:TypeId} {vs:List Value} {vt:Sli} {w w' wb:World}
open Go.Proofs.Tryz
section
open Go.RowKit
theorem zd6 (V:MaV) (m:Ma) (p n:Int) (w:World) (hm:zH w V m) (hfs:maW m=0->∀s∈m.sp,qW m.fl.length s.ars):
  Calls prog 16 #[.agg (mL V m).toArray,I6 p,I6 n] w fun e w'=>e= .returned (zbj (Jk m p n))/\(Jk m p n).1.length=8/\zc w w':=by
 have HM:Hid (zH w V m):=hm;have HWR:Hid (∀W,zc w W->Calls prog 10 #[.agg (mL V m).toArray] W fun e w'=>e= .returned (I6 (maW m))/\zc W w'):=show∀W,_ from fun W hW=>QH V m W (HM.grew hW)
 have HVW:Hid (maW m=0->∀W,zc w W->Calls prog 66 #[.agg (mL V m).toArray,I6 p,I6 n] W fun e w'=>e= .returned (zbj (jB m p n))/\(jB m p n).1.length=8/\zc W w'):=dD<|fun h0 W hW=>zfl V m p n W (HM.grew hW) h0 (hfs h0)
 obtain⟨⟨fa,fn,fc⟩,⟨sa,sn,sc⟩,⟨sba,sbn,sbc⟩,⟨sqa,sqn,sqc⟩,vdb,vdq,⟨fla,fln,flc⟩,⟨caa,can,cac⟩,⟨spa,spn,spc⟩⟩:=V;dsimp only[mL]at HWR HVW⊢;obtain⟨E,HE⟩:∃E,Hid (maW m=E):=⟨_,rfl⟩;rw[HE.out]at HWR HVW;clear hm hfs;obtain⟨W0,hW0⟩:∃W0,(w.alloc (.cells #[.slice fa fn fc,I6 m.hand,.slice sa sn sc,.slice sba sbn sbc,.slice sqa sqn sqc,vdb.x,vdq.x,.slice fla fln flc,I6 m.cnt,.slice caa can cac,.slice spa spn spc] 40)).alloc (.cells #[U8 0,U8 0,U8 0,U8 0,U8 0,U8 0,U8 0,U8 0] 50)=W0:=⟨_,rfl⟩;have G0:=gD2 hW0
 have X0:=x2a hW0
 have Y0:Hid (Box W0 (w.heap.size+1) (pgc zm)):=dD<|by rw[<-hW0];exact Box.top _ (pgc zm) _ (by simp)
 have HW0:Hid (_=W0):=hW0;clear hW0
 go_enter func16,ntmps16
 go_upto_region 1 with fail;rw[HW0.out];obtain⟨x0,x1,x2,x3,x4,x5,x6,x7,x8,x9,x10⟩:=X0.c11;have hc:=HWR.out W0 G0.out;go_wp2_with fail;refine hc.mono ?_;clear hc x0 x1 x2 x3 x4 x5 x6 x7 x8 x9 x10;rintro r W1 ⟨rfl,g1⟩;have G1:=dD (G0.trans g1);have X1:=dD (X0.grew g1);have Y1:=dD (Y0.grew g1);clear g1
 by_cases hz:E=0
 rotate_left
 ·have hze:(E != 0)=true:=by simp[hz]
  have HR:Hid (Jk m p n=(zm,false,E)):=dD<|by unfold Jk;rw[HE.out,if_pos hz]
  clear hz
  go_wp2_with (refine zn rfl 50 (.tmp 6) (.tmp 14) rfl (w.heap.size+1) rfl (pgc zm) rfl Y1 rfl zl3 (z6 _) ?_)
  intro WL hbL hgL _;have HGL:Hid (zc w WL):=dD<|ze G1 hgL (by omega)
  go_wp2;refine bodyPost_ret (zG rfl _ rfl hbL underlying50 rfl zl3) rfl ⟨by rw[HR.out];rfl,by rw[HR.out];rfl,HGL⟩
 have hze:(E != 0)=false:=by simp[hz]
 have HR0:Hid (Jk m p n=jB m p n):=dD<|by unfold Jk;rw[HE.out,if_neg (fun h=>h hz)]
 obtain⟨x0,x1,x2,x3,x4,x5,x6,x7,x8,x9,x10⟩:=X1.c11;have hc:=HVW.out hz W1 G1.out;clear hz;go_wp2_with fail;refine hc.mono ?_;clear hc x0 x1 x2 x3 x4 x5 x6 x7 x8 x9 x10;rintro r W2 ⟨rfl,hl8,g2⟩;have G2:=dD (G1.trans g2);have Y2:=dD (Y1.grew g2);obtain⟨⟨rl,rb,re⟩,HRR⟩:∃rr,Hid (jB m p n=rr):=⟨_,rfl⟩;rw[HRR.out]at hl8⊢;obtain⟨p0,p1,p2,p3,p4,p5,p6,p7,hrl⟩:=zdP rl hl8;subst hrl;have HR:Hid (Jk m p n=([p0,p1,p2,p3,p4,p5,p6,p7],rb,re)):=show _=_ by rw[HR0.out,HRR.out]
 clear hl8 g2;simp only[zbj,pgc,mP,List.map_nil]
 go_wp2_with (refine zn rfl 50 (.tmp 6) (.tmp 20) rfl (w.heap.size+1) rfl (pgc [p0,p1,p2,p3,p4,p5,p6,p7]) rfl Y2 rfl zl3 (z6 _) ?_)
 intro WL hbL hgL _;have HGL:Hid (zc w WL):=dD<|ze G2 hgL (by omega)
 go_wp2;refine bodyPost_ret (zG rfl _ rfl hbL underlying50 rfl zl3) rfl ⟨by rw[HR.out];rfl,by rw[HR.out];rfl,HGL⟩
theorem zj8 (hw:maW m=0) {p:Nat} {s:Sp} (hs:m.sp[p]? =some s) {n:Nat} (hn:n<64):((zO s n).kind=1->0<=(zO s n).n/\(zO s n).n< (m.fs.length:Int))/\((zO s n).kind=2->0<=(zO s n).n/\(zO s n).n< (m.sb.length:Int)):=by
 have hb:=(zhM hw).1;have h1:=zix hw s (mG hs) n hn;have hT:(zio m)[p]? =some (zO s):=by unfold zio;rw[List.getElem?_map,hs];rfl
 have h2:=(JP (hb.en hT hn)).2.1.1;have h3:=hb.sbl;unfold Q7 at h1;refine⟨fun hk=>⟨h2,?_⟩,fun hk=>⟨h2,?_⟩⟩
 ·rw[if_neg (by omega)]at h1
  split at h1
  ·cases h1
  split at h1
  ·omega
  split at h1
  ·cases h1
  omega
 rw[if_neg (by omega)]at h1
 split at h1
 ·cases h1
 split at h1
 ·cases h1
 omega
theorem zjU (h1:∀p∈m.db,p.length=8) (h2:∀q∈m.dq,q.2.length=8) (file idx:Int):(qZ m file idx).length=8:=by
 unfold qZ
 split
 ·rfl
 exact zeG h1 h2 file idx
theorem zkr (a1:∀p∈m.sb,p.length=8) (a2:∀q∈m.sq,q.2.length=8) (h1:∀p∈m.db,p.length=8) (h2:∀q∈m.dq,q.2.length=8) (x:On) (e:En):(zeZ m x e).1.length=8:=by
 unfold zeZ
 split
 ·rfl
 split
 ·rfl
 split
 ·exact zcJ a1 a2
 split
 ·rfl
 split
 ·rfl
 exact zjU h1 h2 _ _
theorem zhC {p:Nat} {s:Sp} (hs:m.sp[p]? =some s) {n:Int} (hf:J0 s.ars n z) (hz:z<0):jB m (p:Int) n=(zm,false,5):=by
 by_cases h:0<=n/\n<=63
 ·obtain⟨k,rfl⟩:∃k:Nat,n=(k:Int):=⟨n.toNat,by omega⟩
  have h1:=zgq hf;rw[decide_eq_false (by omega)]at h1
  rw[zf3 hs (by omega)]
  unfold zeZ;rw[if_pos h1.symm]
 exact zf4 (by omega)
theorem zhD (V:MaV) (m:Ma) (p n:Int) (w:World) (hm:zH w V m):
  Calls prog 15 #[.agg (mL V m).toArray,I6 p,I6 n] w fun e w'=>e= .returned (zbj (Jk m p n))/\(Jk m p n).1.length=8/\zc w w':=by
 have HM:Hid (zH w V m):=hm;have HSL:Hid (∀x e,(zeZ m x e).1.length=8):=show∀x,_ from fun x e=>zkr hm.sb.2.1 hm.sq.2.1 hm.db.2.1 hm.dq.2.1 x e
 have HWR:Hid (∀W,zc w W->Calls prog 9 #[.agg (mL V m).toArray] W fun e w'=>e= .returned (I6 (maW m))/\zc W w'):=dD<|fun W hW=>zaN V m W (HM.grew hW)
 have HWI:Hid (∀W,zc w W->Calls prog 58 #[.agg (mL V m).toArray] W fun e w'=>∃B,e= .returned (.agg #[V.f.x,I6 m.hand,V.s.x,V.sb.x,V.sq.x,V.db.x,V.dq.x,V.fl.x,I6 m.cnt,V.ca.x,V.sp.x,.map (some B)])/\j5 plK w' B (j9 m.ca)/\zc W w'):=dD<|fun W hW=>QE V m W (HM.grew hW)
 have HVW:Hid (maW m=0->∀W B (a:Ar) (n:Nat) (e:En),zc w W->jl a->(a.fr<=(n:Int)/\(n:Int)<a.tz)->(e.kind=1->0<=e.n/\e.n< (m.fs.length:Int))->(e.kind=2->0<=e.n/\e.n< (m.sb.length:Int))->j5 plK W B (j9 m.ca)->Calls prog 64 #[.agg #[V.f.x,I6 m.hand,V.s.x,V.sb.x,V.sq.x,V.db.x,V.dq.x,V.fl.x,I6 m.cnt,V.ca.x,V.sp.x,.map (some B)],.agg #[I6 a.fr,I6 a.tz,.bool a.rd,.bool a.wr,.bool a.sh,I6 a.file,I6 a.base],I6 (n:Int),.agg #[I6 e.kind,I6 e.n,.bool e.wr]] W fun r w'=>r= .returned (zbj (zeZ m (qn a n) e))/\(zeZ m (qn a n) e).1.length=8/\zc W w'):=dD<|fun h0 W B a n e hW ha hin h1 h2 hmp=>zdv V m B a n e W (HM.grew hW) h0 ha hin h1 h2 hmp
 obtain⟨-,-,-,-,-,-,-,-,n9⟩:=hm.ns;obtain⟨xs,hxl,hrow,hsp⟩:=hm.spaces;obtain⟨vf,vs,vsb,vsq,vdb,vdq,vfl,vca,⟨spa,spn,spc⟩⟩:=V;dsimp only[mL]at n9 hrow HWR HWI HVW⊢;have HN9:Hid (m.sp.length=spn):=n9.symm;have HXL:Hid (xs.length=spn):=show _=_ by rw[hxl];exact HN9.out
 have HRW:Hid (∀(j:Nat) x,xs[j]? =some x->∃ad,spa=some ad/\∀W,zc w W->zc1 W (ad.add (j*10)) x):=dD<|hrow
 have HSP:Hid (∀(i:Nat) x s,xs[i]? =some x->m.sp[i]? =some s->qr w x s):=dD<|hsp
 obtain⟨E,HE⟩:∃E,Hid (maW m=E):=⟨_,rfl⟩;rw[HE.out]at HWR HVW;clear hm n9 hxl hrow hsp;obtain⟨W0,hW0⟩:∃W0,(w.alloc (.cells #[vf.x,I6 m.hand,vs.x,vsb.x,vsq.x,vdb.x,vdq.x,vfl.x,I6 m.cnt,vca.x,.slice spa spn spc] 40)).alloc (.cells #[U8 0,U8 0,U8 0,U8 0,U8 0,U8 0,U8 0,U8 0] 50)=W0:=⟨_,rfl⟩;have G0:=gD2 hW0
 have X0:=x2a hW0
 have Y0:Hid (Box W0 (w.heap.size+1) (pgc zm)):=dD<|by rw[<-hW0];exact Box.top _ (pgc zm) _ (by simp)
 have HW0:Hid (_=W0):=hW0;clear hW0
 go_enter func15,ntmps15
 go_upto_region 1 with fail;rw[HW0.out];obtain⟨x0,x1,x2,x3,x4,x5,x6,x7,x8,x9,x10⟩:=X0.c11;have hc:=HWR.out W0 G0.out;go_wp2_with fail;refine hc.mono ?_;clear hc x0 x1 x2 x3 x4 x5 x6 x7 x8 x9 x10;rintro r W1 ⟨rfl,g1⟩;have G1:=dD (G0.trans g1);have X1:=dD (X0.grew g1);have Y1:=dD (Y0.grew g1);clear g1
 by_cases hz:E=0
 rotate_left
 ·have hze:(E != 0)=true:=by simp[hz]
  have HR:Hid (Jk m p n=(zm,false,E)):=dD<|by unfold Jk;rw[HE.out,if_pos hz]
  clear hz
  go_wp2_with (refine zn rfl 50 (.tmp 6) (.tmp 16) rfl (w.heap.size+1) rfl (pgc zm) rfl Y1 rfl zl3 (z6 _) ?_)
  intro WL hbL hgL _;have HGL:Hid (zc w WL):=dD<|ze G1 hgL (by omega)
  go_wp2;refine bodyPost_ret (zG rfl _ rfl hbL underlying50 rfl zl3) rfl ⟨by rw[HR.out];rfl,by rw[HR.out];rfl,HGL⟩
 have hze:(E != 0)=false:=by simp[hz]
 have HM0:Hid (maW m=0):=dD<|by rw[HE.out];exact hz
 have HV0:Hid (Jk m p n=jB m p n):=dD<|by unfold Jk;rw[HE.out,if_neg (fun h=>h hz)]
 have HVX:=show Hid _ from HVW.out hz
 clear hz;have x10:=X1.c 10 rfl;have hbel:=QB p (spn:Int) W1;go_wp2_with fail;refine hbel.mono ?_;rintro r w' ⟨rfl,hw'⟩;rw[hw'];clear hw' w' hbel hze
 cases hb:bel p (spn:Int)with
 | false=>
  have HR:Hid (Jk m p n=(zm,false,5)):=dD<|by
   rw[HV0.out];refine zf4 ?_;have h1:¬(0<=p/\p< (spn:Int)):=fun h=>by rw[jY.2 h]at hb;cases hb
   rw[HN9.out];omega
  clear hb
  go_wp2_with (refine zn rfl 50 (.tmp 6) (.tmp 24) rfl (w.heap.size+1) rfl (pgc zm) rfl Y1 rfl zl3 (z6 _) ?_)
  intro WL hbL hgL _;have HGL:Hid (zc w WL):=dD<|ze G1 hgL (by omega)
  go_wp2;refine bodyPost_ret (zG rfl _ rfl hbL underlying50 rfl zl3) rfl ⟨by rw[HR.out];rfl,by rw[HR.out];rfl,HGL⟩
 | true=>
 obtain⟨b0,b1⟩:=jY.1 hb;obtain⟨pp,rfl⟩:∃pp:Nat,p=(pp:Int):=⟨p.toNat,by omega⟩
 obtain⟨x,hx⟩:∃x,xs[pp]? =some x:=⟨_,gE (by rw[HXL.out];omega)⟩
 obtain⟨s,HS⟩:∃s,Hid (m.sp[pp]? =some s):=⟨_,gE (by rw[HN9.out];omega)⟩
 have HAT:Hid (qr w x s):=HSP.out pp x s hx HS.out;obtain⟨ad,HSA,hl⟩:∃ad,Hid (spa=some ad)/\∀W,zc w W->zc1 W (ad.add (pp*10)) x:=HRW.out pp x hx;obtain⟨d0,d1,d2,d3,d4,d5,d6,d7,d8,d9⟩:=hl W1 G1.out;rw[HSA.out]at x10;clear hl hx hb b0;go_upto_region 7 with fail;clear d0 d1 d2 d3 d4 d5 d6 d7 d8 d9 x10;obtain⟨pb,HPB⟩:∃pb,Hid (W1.heap.size=pb):=⟨_,rfl⟩;obtain⟨W2,hW2⟩:∃W2,W1.alloc (.cells #[.bool x.live,x.ar.x,x.t0.x,x.t1.x,x.t2.x,x.t3.x,x.t4.x,x.t5.x,x.t6.x,x.t7.x] 65)=W2:=⟨_,rfl⟩;have g2:=gP hW2
 have S2:=xP hW2 HPB
 have G2:=dD (G1.trans g2);have X2:=dD (X1.grew g2);have Y2:=dD (Y1.grew g2);rw[hW2,HPB.out];clear hW2 g2;have s1:=S2.c 1 rfl;have hc:=zgr (x.ar.x) s.ars n W2 (HAT.ar.grew G2);go_wp2_with fail;refine hc.mono ?_;clear hc s1;rintro r W3 ⟨⟨z,rfl,hz⟩,g3⟩;have HFZ:Hid (J0 s.ars n z):=hz;have G3:=dD (G2.trans g3);have X3:=dD (X2.grew g3);have Y3:=dD (Y2.grew g3);have S3:=dD (S2.grew g3);clear g3 hz
 by_cases hz0:z<0
 ·have HR:Hid (Jk m (pp:Int) n=(zm,false,5)):=dD<|by rw[HV0.out];exact zhC HS HFZ hz0
  go_wp2_with (refine zn rfl 50 (.tmp 6) (.tmp 36) rfl (w.heap.size+1) rfl (pgc zm) rfl Y3 rfl zl3 (z6 _) ?_)
  intro WL hbL hgL _;have HGL:Hid (zc w WL):=dD<|ze G3 hgL (by omega)
  go_wp2;refine bodyPost_ret (zG rfl _ rfl hbL underlying50 rfl zl3) rfl ⟨by rw[HR.out];rfl,by rw[HR.out];rfl,HGL⟩
 obtain⟨k,a,rfl,HKA,HIN⟩:∃(k:Nat) (a:Ar),z=(k:Int)/\Hid (s.ars[k]? =some a)/\Hid (inZ a n=true):=by
  rcases HFZ with⟨k,a,q1,q2,q3⟩|⟨q1,_⟩
  ·exact⟨k,a,q1,q2,q3⟩
  omega
 have HCN:Hid (ZY none s.ars):=(jw.1 ((zgd (Qt HM0)).ar s (mG HS)).1).2;have HAO:Hid (jl a):=zfS HCN HKA.out;obtain⟨nn,rfl⟩:∃nn:Nat,n=(nn:Int):=⟨n.toNat,by have h1:=zfC.1 HIN.out;have h2:=HAO.out;unfold jl at h2;omega⟩
 have hn64:nn<64:=by have h1:=zfC.1 HIN.out;have h2:=HAO.out;unfold jl at h2;omega
 obtain⟨e,HEN⟩:∃e,Hid (zO s nn=e):=⟨_,rfl⟩;have HSE:Hid (Jk m (pp:Int) (nn:Int)=zeZ m (qn a nn) e):=dD<|by rw[HV0.out,zf3 HS hn64,zbS HCN HKA (by rw[<-zh8];exact HIN),HEN.out]
 have HCV:Hid (∀W B,zc w W->j5 plK W B (j9 m.ca)->Calls prog 64 #[.agg #[vf.x,I6 m.hand,vs.x,vsb.x,vsq.x,vdb.x,vdq.x,vfl.x,I6 m.cnt,vca.x,.slice spa spn spc,.map (some B)],.agg #[I6 a.fr,I6 a.tz,.bool a.rd,.bool a.wr,.bool a.sh,I6 a.file,I6 a.base],I6 (nn:Int),.agg #[I6 e.kind,I6 e.n,.bool e.wr]] W fun r w'=>r= .returned (zbj (zeZ m (qn a nn) e))/\(zeZ m (qn a nn) e).1.length=8/\zc W w'):=dD<|fun W B hW hmp=>HVX.out W B a nn e hW HAO (zfC.1 HIN) (by rw[<-HEN.out];exact(zj8 HM0 HS hn64).1) (by rw[<-HEN.out];exact(zj8 HM0 HS hn64).2) hmp
 have HGT:Hid (∀W,zc w W->Calls prog 65 #[.agg #[x.t0.x,x.t1.x,x.t2.x,x.t3.x,x.t4.x,x.t5.x,x.t6.x,x.t7.x],I6 (nn:Int)] W fun r w'=>r= .returned (.agg #[I6 e.kind,I6 e.n,.bool e.wr])/\zc W w'):=dD<|fun W hW=>by
  have:=zaE x.tab s.tb (nn:Int) W (HAT.grew hW).tb;rw[zdE hn64,HEN.out]at this;exact this
 have hkl:k<x.ar.n:=by rw[HAT.ar.n];exact(gS.1 HKA).1
 have hkz:(k:Int)< (x.ar.n:Int):=by omega
 obtain⟨ada,HVA,HLA⟩:∃ada,Hid (x.ar.a=some ada)/\Hid (∀W,zc w W->ziR W (ada.add (k*7)) a):=by
  obtain⟨_,_,q1,q2⟩:=HAT.ar.ars;simp only[vJ]at q1;obtain⟨ada,q3,q4⟩:=q2 k a HKA.out;exact⟨ada,by rw[q1.1];exact q3,q4⟩
 obtain⟨R,HRR⟩:∃R,Hid (zeZ m (qn a nn) e=R):=⟨_,rfl⟩;have HL8:Hid (R.1.length=8):=dD<|by rw[<-HRR.out];exact HSL _ _
 rw[HRR.out]at HSE HCV;clear hz0;go_upto_region 10 with fail;obtain⟨I,HI⟩:∃I:World->Prop,Hid (∀u,I u↔zc W3 u):=⟨fun u=>zc W3 u,fun _=>Iff.rfl⟩
 have hI0:I W3.drew:=(HI _).2 (gW _)
 have hx0:=X3.h HI 0 rfl
 have hx1:=X3.h HI 1 rfl
 have hx2:=X3.h HI 2 rfl
 have hx3:=X3.h HI 3 rfl
 have hx4:=X3.h HI 4 rfl
 have hx5:=X3.h HI 5 rfl
 have hx6:=X3.h HI 6 rfl
 have hx7:=X3.h HI 7 rfl
 have hx8:=X3.h HI 8 rfl
 have hx9:=X3.h HI 9 rfl
 have hx10:=X3.h HI 10 rfl
 have hs2:=S3.h HI 2 rfl
 have hs3:=S3.h HI 3 rfl
 have hs4:=S3.h HI 4 rfl
 have hs5:=S3.h HI 5 rfl
 have hs6:=S3.h HI 6 rfl
 have hs7:=S3.h HI 7 rfl
 have hs8:=S3.h HI 8 rfl
 have hs9:=S3.h HI 9 rfl
 have hs1:∀y:zk I,y.world.cell? ⟨pb,1,none⟩=some (.slice (some ada) x.ar.n x.ar.c):=fun y=>by rw[<-HVA.out];exact(S3.grew ((HI _).1 y.holds)).c 1 rfl
 have ha0:∀y:zk I,y.world.cell? (ada.add (k*7))=some (I6 a.fr):=fun y=>(HLA _ (G3.trans ((HI _).1 y.holds))).1
 have ha1:∀y:zk I,y.world.cell? { block:=(ada.add (k*7)).block,off:=(ada.add (k*7)).off+1 }=some (I6 a.tz):=fun y=>(HLA _ (G3.trans ((HI _).1 y.holds))).2.1
 have ha2:∀y:zk I,y.world.cell? { block:=(ada.add (k*7)).block,off:=(ada.add (k*7)).off+2 }=some (.bool a.rd):=fun y=>(HLA _ (G3.trans ((HI _).1 y.holds))).2.2.1
 have ha3:∀y:zk I,y.world.cell? { block:=(ada.add (k*7)).block,off:=(ada.add (k*7)).off+3 }=some (.bool a.wr):=fun y=>(HLA _ (G3.trans ((HI _).1 y.holds))).2.2.2.1
 have ha4:∀y:zk I,y.world.cell? { block:=(ada.add (k*7)).block,off:=(ada.add (k*7)).off+4 }=some (.bool a.sh):=fun y=>(HLA _ (G3.trans ((HI _).1 y.holds))).2.2.2.2.1
 have ha5:∀y:zk I,y.world.cell? { block:=(ada.add (k*7)).block,off:=(ada.add (k*7)).off+5 }=some (I6 a.file):=fun y=>(HLA _ (G3.trans ((HI _).1 y.holds))).2.2.2.2.2.1
 have ha6:∀y:zk I,y.world.cell? { block:=(ada.add (k*7)).block,off:=(ada.add (k*7)).off+6 }=some (I6 a.base):=fun y=>(HLA _ (G3.trans ((HI _).1 y.holds))).2.2.2.2.2.2
 have hne:Nonempty (zk I):=⟨⟨_,hI0⟩⟩;refine qa (I:=I) 16 [(1,⟨fun v=>∃B,v= .agg #[vf.x,I6 m.hand,vs.x,vsb.x,vsq.x,vdb.x,vdq.x,vfl.x,I6 m.cnt,vca.x,.slice spa spn spc,.map (some B)],fun v u=>∃B,v= .agg #[vf.x,I6 m.hand,vs.x,vsb.x,vsq.x,vdb.x,vdq.x,vfl.x,I6 m.cnt,vca.x,.slice spa spn spc,.map (some B)]/\j5 plK u B (j9 m.ca),fun p q=>zc p q,fun _=>True⟩),(11,⟨fun v=>v= .agg #[I6 e.kind,I6 e.n,.bool e.wr],fun _ _=>True,fun p q=>zc p q,fun _=>True⟩),(12,⟨fun v=>v=zbj R,fun _ _=>True,fun p q=>zc p q,fun _=>True⟩)] hI0 qu (by kernel_rfl) rfl rfl (by decide) ?hS ?hp ?hpre ?hpr0 ?_
 case hS=>
  intro x hx;simp only[mC,nM,or_false]at hx
  rcases hx with rfl|rfl|rfl
  ·exact⟨_,0,rfl⟩
  ·exact⟨_,rfl⟩
  exact⟨_,rfl⟩
 case hp=>
  intro k s j t hk hj hjk hanc v p q hst hpo;have hk':=zt hk;have hj':=zt hj;clear hk hj;simp only[mC,pJ,nM,or_false]at hk' hj'
  rcases hk' with⟨rfl,rfl⟩|⟨rfl,rfl⟩|⟨rfl,rfl⟩
  ·obtain⟨B,h1,h2⟩:=hpo
   rcases hj' with⟨rfl,rfl⟩|⟨rfl,rfl⟩|⟨rfl,rfl⟩
   ·exact absurd rfl hjk
   ·exact⟨B,h1,h2.grew hst⟩
   exact⟨B,h1,h2.grew hst⟩
  ·trivial
  trivial
 case hpre=>
  intro j t k s hj hk hjk p q hst hpr;have hj':=zt hj;simp only[mC,pJ,nM,or_false]at hj'
  rcases hj' with⟨rfl,rfl⟩|⟨rfl,rfl⟩|⟨rfl,rfl⟩ <;> trivial
 case hpr0=>
  intro k t hk;have hk':=zt hk;simp only[mC,pJ,nM,or_false]at hk'
  rcases hk' with⟨rfl,rfl⟩|⟨rfl,rfl⟩|⟨rfl,rfl⟩ <;> trivial
 simp only[List.take,List.drop];iterate 1 (refine zh rfl rfl rfl (fun K hK=>?_);go_big_quiet_op;refine hK _ ?_;clear hK)
 refine zz rfl rfl (fun w' hI' hpr hF=>?_) (fun v1 hv=>?_)
 ·refine zP.call [.agg #[vf.x,I6 m.hand,vs.x,vsb.x,vsq.x,vdb.x,vdq.x,vfl.x,I6 m.cnt,vca.x,.slice spa spn spc]] rfl func58 rfl rfl rfl ?_;refine(HWI w' (G3.trans ((HI _).1 hI'))).mono ?_;rintro e w'' ⟨B,rfl,hmp,gg⟩;exact⟨_,rfl,(HI _).2 (((HI _).1 hI').trans gg),gg,⟨B,rfl⟩,B,rfl,hmp⟩
 obtain⟨B,rfl⟩:=hv;simp only[Act.put,sB,sS,sZ];iterate 9 (refine zh rfl rfl rfl (fun K hK=>?_);go_big_quiet_op;refine hK _ ?_;clear hK)
 refine zz rfl rfl (fun w' hI' hpr hF=>?_) (fun v1 hv=>?_)
 ·refine zP.call [.agg #[x.t0.x,x.t1.x,x.t2.x,x.t3.x,x.t4.x,x.t5.x,x.t6.x,x.t7.x],I6 (nn:Int)] rfl func65 rfl rfl rfl ?_;refine(HGT w' (G3.trans ((HI _).1 hI'))).mono ?_;rintro e w'' ⟨rfl,gg⟩;exact⟨_,rfl,(HI _).2 (((HI _).1 hI').trans gg),gg,rfl,trivial⟩
 subst hv;simp only[Act.put,sB,sS,sZ];refine zz rfl rfl (fun w' hI' hpr hF=>?_) (fun v1 hv=>?_)
 ·obtain⟨B',hb1,hb2⟩:=hF 1 (by kernel_rfl)
  simp only[Value.agg.injEq,Array.mk.injEq,List.cons.injEq,Value.map.injEq,Option.some.injEq,and_true,true_and]at hb1;subst hb1;refine zP.call [.agg #[vf.x,I6 m.hand,vs.x,vsb.x,vsq.x,vdb.x,vdq.x,vfl.x,I6 m.cnt,vca.x,.slice spa spn spc,.map (some B)],.agg #[I6 a.fr,I6 a.tz,.bool a.rd,.bool a.wr,.bool a.sh,I6 a.file,I6 a.base],I6 (nn:Int),.agg #[I6 e.kind,I6 e.n,.bool e.wr]] rfl func64 rfl rfl rfl ?_;refine(HCV w' B (G3.trans ((HI _).1 hI')) hb2).mono ?_;rintro e w'' ⟨rfl,h8,gg⟩;exact⟨_,rfl,(HI _).2 (((HI _).1 hI').trans gg),gg,rfl,trivial⟩
 obtain⟨rl,rb,re⟩:=R;have hl8:=HL8.out;obtain⟨p0,p1,p2,p3,p4,p5,p6,p7,hrl⟩:=zdP rl hl8;subst hrl;subst hv;simp only[zbj,pgc,mP,List.map_nil];simp only[Act.put,sB,sS,sZ];iterate 3 (refine zh rfl rfl rfl (fun K hK=>?_);go_big_quiet_op;refine hK _ ?_;clear hK)
 refine jc fun W4 hI4 hF=>?_
 have g4:=(HI _).1 hI4;have G4:=dD (G3.trans g4);have Y4:=dD (Y3.grew g4);have HR:=HSE;clear hF hI4 hI0 hne g4 hx0 hx1 hx2 hx3 hx4 hx5 hx6 hx7 hx8 hx9 hx10 hs1 hs2 hs3 hs4 hs5 hs6 hs7 hs8 hs9 ha0 ha1 ha2 ha3 ha4 ha5 ha6;refine zn rfl 50 (.tmp 6) (.tmp 50) rfl (w.heap.size+1) rfl (pgc [p0,p1,p2,p3,p4,p5,p6,p7]) rfl Y4 rfl zl3 (z6 _) ?_;intro WL hbL hgL _;have HGL:Hid (zc w WL):=show zc _ _ from ze G4 hgL (by omega)
 go_wp2;refine bodyPost_ret (zG rfl _ rfl hbL underlying50 rfl zl3) rfl ⟨by rw[HR.out];rfl,by rw[HR.out];rfl,HGL⟩
def zdL (wb:World) (ht:Nat) (w:World) (vs:List Value) (t:List (List En)):Prop:=vs.length=8/\t.length=8/\∀(j:Nat) v h,vs[j]? =some v->t[j]? =some h->zeX enE 0 ht wb v h\/zb enE ht w v h
structure BdM (wb:World) (base hi ht:Nat) (w:World) (V:MaV) (m:Ma):Prop where
 fs:zb zaf base w (V.f.x) m.fs
 sl:zb slE base w (V.s.x) m.sl
 slh:∀g,(V.s.x).ownBlock=some g->g<hi
 sb:zu base w (V.sb.x) m.sb
 sq:V.sq=zj/\m.sq=[]
 db:zu base w (V.db.x) m.db
 dq:z8 base w (V.dq.x) m.dq
 fl:∃xs:List FlV,zb fvE base w (V.fl.x) xs/\xs.length=m.fl.length/\∀(i:Nat) x f,xs[i]? =some x->m.fl[i]? =some f->x.size=f.size/\zb blE hi w x.v f.bl
 ca:zb qX base w (V.ca.x) m.ca
 sp:∃xs:List SpV,zb jQ base w (V.sp.x) xs/\xs.length=m.sp.length/\∀(i:Nat) x s,xs[i]? =some x->m.sp[i]? =some s->x.live=s.live/\zb arE base w x.ar.v s.ars/\zdL wb ht w x.tab s.tb
 lo:∀g,(V.f.x).ownBlock=some g\/(V.s.x).ownBlock=some g\/(V.fl.x).ownBlock=some g\/(V.ca.x).ownBlock=some g\/(V.sp.x).ownBlock=some g->g<ht
 hts:ht<=wb.heap.size
 out:Out 0 ht wb w
section
variable{wb:World} {base hi ht:Nat} {w w':World} {V:MaV} {m:Ma}
theorem zdL.at {t:List (List En)} (h:zdL wb ht w vs t) (ho:Out 0 ht wb w):Zc w vs t:=⟨h.1,h.2.1,fun i v x hv hx=>by
 rcases h.2.2 i v x hv hx with k|k
 ·exact(k.out ho).now.s0
 exact k.at.s0⟩
theorem zdL.grew {t:List (List En)} (h:zdL wb ht w vs t) (g:zc w w'):zdL wb ht w' vs t:=⟨h.1,h.2.1,fun i v x hv hx=>(h.2.2 i v x hv hx).imp id (fun k=>k.grew g)⟩
theorem zdL.kind {t:List (List En)} (h:zdL wb ht w vs t) {g:Nat} {ty:TypeId} {cs:Array Value} (hg:w.grownBy w' (some g)) (ho:w.heap[g]? =some (.cells cs ty (0,0))) (hty:ty≠67):zdL wb ht w' vs t:=⟨h.1,h.2.1,fun i v x hv hx=>(h.2.2 i v x hv hx).imp id (fun k=>k.kind hg ho hty)⟩
theorem BdM.at (h:BdM wb base hi ht w V m):zH w V m:=by
 obtain⟨xs,f1,f2,f3⟩:=h.fl;obtain⟨ys,s1,s2,s3⟩:=h.sp;obtain⟨q1,q2⟩:=h.sq;refine⟨h.fs.at,h.sl.at,h.sb.at,?_,h.db.at,h.dq.at,⟨f1.cap,xs,f1.at.s0,f2,fun i x f hx hf=>⟨(f3 i x f hx hf).1,(f3 i x f hx hf).2.at.s0⟩⟩,h.ca.at,⟨ys,s1.at,s2,fun i x s hx hs=>?_⟩⟩
 ·rw[q1,q2];exact⟨⟨none,0,rfl,fun _=>rfl,fun x hx=>by cases hx⟩,by simp,by simp⟩
 obtain⟨a1,a2,a3⟩:=s3 i x s hx hs;exact⟨a1,a2.at,a2.cap,a3.at h.out⟩
theorem zdO.bd {w w':World} {ns hi ht:Nat} {V:MaV} {m:Ma} (h:zdO w nf ns nb L w' V m T hd hi ht vt):BdM w' w.heap.size hi ht w' V (jg m T hd):=by
 obtain⟨ys,s1,s2,s3⟩:=h.rows.sp;have hl:=h.inv.tl;refine⟨h.rows.fs,h.rows.sl,h.rows.slh,h.rows.sb,h.rows.sq,h.rows.db,h.rows.dq,h.rows.fl,h.rows.ca,⟨ys,s1,by simp[jg,hl,s2],fun i x s hx hs=>?_⟩,h.rows.lo,h.rows.hts,Out.refl _ _ _⟩
 have hs':(List.zipWith (fun s f=>({ s with tb:=ZH f }:Sp)) m.sp T)[i]? =some s:=hs
 rw[List.getElem?_zipWith]at hs';have hi:i<m.sp.length:=by rw[<-s2];exact(gS.1 hx).1
 rw[gE hi,gE (show i<T.length by omega)]at hs'
 simp only[Option.some.injEq]at hs';obtain⟨a1,a2,a3,_⟩:=s3 i x _ _ hx (gE hi) (gE (show i<T.length by omega))
 subst hs';exact⟨a1,a2,(a3 hi).len,(a3 hi).tlen,fun j v h hv hh=> .inl ((a3 hi).row j v h hv hh)⟩
theorem BdM.grew (h:BdM wb base hi ht w V m) (g:zc w w'):BdM wb base hi ht w' V m:=by
 obtain⟨xs,f1,f2,f3⟩:=h.fl;obtain⟨ys,s1,s2,s3⟩:=h.sp;exact⟨h.fs.grew g,h.sl.grew g,h.slh,h.sb.grew g,h.sq,h.db.grew g,h.dq.grew g,⟨xs,f1.grew g,f2,fun i x f hx hf=>⟨(f3 i x f hx hf).1,(f3 i x f hx hf).2.grew g⟩⟩,h.ca.grew g,⟨ys,s1.grew g,s2,fun i x s hx hs=>⟨(s3 i x s hx hs).1,(s3 i x s hx hs).2.1.grew g,(s3 i x s hx hs).2.2.grew g⟩⟩,h.lo,h.hts,h.out.trans (Out.grew g)⟩
theorem zit {fs:List Fl} {xs:List FlV} {k:Nat} {x:FlV} {f:Fl} {n:Int} {P:FlV->Fl->Prop} (hx:xs[k]? =some x) (hf:fs[k]? =some f) (h:∀(i:Nat) x f,xs[i]? =some x->fs[i]? =some f->P x f) (hP:P { x with size:=n } { f with size:=n }):∀(i:Nat) x' f',(xs.set k { x with size:=n })[i]? =some x'->(fs.set k { f with size:=n })[i]? =some f'->P x' f':=fun i x' f' h1 h2=>by
 have hkx:=(gS.1 hx).1;have hkf:=(gS.1 hf).1
 by_cases e:k=i
 ·subst e;rw[sF hkx]at h1;rw[sF hkf]at h2;cases h1;cases h2;exact hP
 rw[sN e]at h1 h2;exact h i x' f' h1 h2
theorem BdM.setF (h:BdM wb base hi ht w V m) {g:Nat} (hv:(V.f.x).ownBlock=some g) (hg:w.grownBy w' (some g)) {fs:List Fr} (hr:zb zaf base w' (V.f.x) fs):BdM wb base hi ht w' V { m with fs:=fs }:=by
 obtain⟨xs,f1,f2,f3⟩:=h.fl;obtain⟨ys,s1,s2,s3⟩:=h.sp;obtain⟨cs,ho⟩:=h.fs.obj hv;have hlt:=h.lo g (.inl hv);have hout:Out 0 ht w w':=Out.grown hg (fun g' e=>by cases e;exact⟨nZ _,hlt⟩)
 exact⟨hr,h.sl.kind hg ho (by decide),h.slh,⟨zx h.sb.1 hg ho (by decide),h.sb.2⟩,h.sq,⟨zx h.db.1 hg ho (by decide),h.db.2⟩,⟨zx h.dq.1 hg ho (by decide),h.dq.2⟩,⟨xs,f1.kind hg ho (by decide),f2,fun i x f hx hf=>⟨(f3 i x f hx hf).1,(f3 i x f hx hf).2.kind hg ho (by decide)⟩⟩,h.ca.kind hg ho (by decide),⟨ys,s1.kind hg ho (by decide),s2,fun i x s hx hs=>⟨(s3 i x s hx hs).1,(s3 i x s hx hs).2.1.kind hg ho (by decide),(s3 i x s hx hs).2.2.kind hg ho (by decide)⟩⟩,h.lo,h.hts,h.out.trans hout⟩
theorem BdM.setS (h:BdM wb base hi ht w V m) {g:Nat} (hv:(V.s.x).ownBlock=some g) (hg:w.grownBy w' (some g)) {sl:List Int} (hr:zb slE base w' (V.s.x) sl):BdM wb base hi ht w' V { m with sl:=sl }:=by
 obtain⟨xs,f1,f2,f3⟩:=h.fl;obtain⟨ys,s1,s2,s3⟩:=h.sp;obtain⟨cs,ho⟩:=h.sl.obj hv;have hlt:=h.lo g (.inr (.inl hv));have hout:Out 0 ht w w':=Out.grown hg (fun g' e=>by cases e;exact⟨nZ _,hlt⟩)
 exact⟨h.fs.kind hg ho (by decide),hr,h.slh,⟨zx h.sb.1 hg ho (by decide),h.sb.2⟩,h.sq,⟨zx h.db.1 hg ho (by decide),h.db.2⟩,⟨zx h.dq.1 hg ho (by decide),h.dq.2⟩,⟨xs,f1.kind hg ho (by decide),f2,fun i x f hx hf=>⟨(f3 i x f hx hf).1,(f3 i x f hx hf).2.low hg (h.slh g hv)⟩⟩,h.ca.kind hg ho (by decide),⟨ys,s1.kind hg ho (by decide),s2,fun i x s hx hs=>⟨(s3 i x s hx hs).1,(s3 i x s hx hs).2.1.kind hg ho (by decide),(s3 i x s hx hs).2.2.kind hg ho (by decide)⟩⟩,h.lo,h.hts,h.out.trans hout⟩
theorem BdM.setCa (h:BdM wb base hi ht w V m) {g:Nat} (hv:(V.ca.x).ownBlock=some g) (hg:w.grownBy w' (some g)) {ca:List Ca} (hr:zb qX base w' (V.ca.x) ca):BdM wb base hi ht w' V { m with ca:=ca }:=by
 obtain⟨xs,f1,f2,f3⟩:=h.fl;obtain⟨ys,s1,s2,s3⟩:=h.sp;obtain⟨cs,ho⟩:=h.ca.obj hv;have hlt:=h.lo g (.inr (.inr (.inr (.inl hv))));have hout:Out 0 ht w w':=Out.grown hg (fun g' e=>by cases e;exact⟨nZ _,hlt⟩)
 exact⟨h.fs.kind hg ho (by decide),h.sl.kind hg ho (by decide),h.slh,⟨zx h.sb.1 hg ho (by decide),h.sb.2⟩,h.sq,⟨zx h.db.1 hg ho (by decide),h.db.2⟩,⟨zx h.dq.1 hg ho (by decide),h.dq.2⟩,⟨xs,f1.kind hg ho (by decide),f2,fun i x f hx hf=>⟨(f3 i x f hx hf).1,(f3 i x f hx hf).2.kind hg ho (by decide)⟩⟩,hr,⟨ys,s1.kind hg ho (by decide),s2,fun i x s hx hs=>⟨(s3 i x s hx hs).1,(s3 i x s hx hs).2.1.kind hg ho (by decide),(s3 i x s hx hs).2.2.kind hg ho (by decide)⟩⟩,h.lo,h.hts,h.out.trans hout⟩
theorem BdM.setFl (h:BdM wb base hi ht w V m) {g:Nat} (hv:(V.fl.x).ownBlock=some g) (hg:w.grownBy w' (some g)) {fl:List Fl} (hr:∃xs:List FlV,zb fvE base w' (V.fl.x) xs/\xs.length=fl.length/\∀(i:Nat) x f,xs[i]? =some x->fl[i]? =some f->x.size=f.size/\zb blE hi w' x.v f.bl):BdM wb base hi ht w' V { m with fl:=fl }:=by
 obtain⟨xs,f1,f2,f3⟩:=h.fl;obtain⟨ys,s1,s2,s3⟩:=h.sp;obtain⟨cs,ho⟩:=f1.obj hv;have hlt:=h.lo g (.inr (.inr (.inl hv)));have hout:Out 0 ht w w':=Out.grown hg (fun g' e=>by cases e;exact⟨nZ _,hlt⟩)
 exact⟨h.fs.kind hg ho (by decide),h.sl.kind hg ho (by decide),h.slh,⟨zx h.sb.1 hg ho (by decide),h.sb.2⟩,h.sq,⟨zx h.db.1 hg ho (by decide),h.db.2⟩,⟨zx h.dq.1 hg ho (by decide),h.dq.2⟩,hr,h.ca.kind hg ho (by decide),⟨ys,s1.kind hg ho (by decide),s2,fun i x s hx hs=>⟨(s3 i x s hx hs).1,(s3 i x s hx hs).2.1.kind hg ho (by decide),(s3 i x s hx hs).2.2.kind hg ho (by decide)⟩⟩,h.lo,h.hts,h.out.trans hout⟩
theorem BdM.setSp (h:BdM wb base hi ht w V m) {g:Nat} (hv:(V.sp.x).ownBlock=some g) (hg:w.grownBy w' (some g)) {sp:List Sp} (hr:∃xs:List SpV,zb jQ base w' (V.sp.x) xs/\xs.length=sp.length/\∀(i:Nat) x s,xs[i]? =some x->sp[i]? =some s->x.live=s.live/\zb arE base w' x.ar.v s.ars/\zdL wb ht w' x.tab s.tb):BdM wb base hi ht w' V { m with sp:=sp }:=by
 obtain⟨xs,f1,f2,f3⟩:=h.fl;obtain⟨ys,s1,s2,s3⟩:=h.sp;obtain⟨cs,ho⟩:=s1.obj hv;have hlt:=h.lo g (.inr (.inr (.inr (.inr hv))));have hout:Out 0 ht w w':=Out.grown hg (fun g' e=>by cases e;exact⟨nZ _,hlt⟩)
 exact⟨h.fs.kind hg ho (by decide),h.sl.kind hg ho (by decide),h.slh,⟨zx h.sb.1 hg ho (by decide),h.sb.2⟩,h.sq,⟨zx h.db.1 hg ho (by decide),h.db.2⟩,⟨zx h.dq.1 hg ho (by decide),h.dq.2⟩,⟨xs,f1.kind hg ho (by decide),f2,fun i x f hx hf=>⟨(f3 i x f hx hf).1,(f3 i x f hx hf).2.kind hg ho (by decide)⟩⟩,h.ca.kind hg ho (by decide),hr,h.lo,h.hts,h.out.trans hout⟩
theorem BdM.setSp1 (h:BdM wb base hi ht w V m) {g k:Nat} (hv:(V.sp.x).ownBlock=some g) (hg:w.grownBy w' (some g)) {xs:List SpV} {x y:SpV} {s t:Sp} (hxl:xs.length=m.sp.length) (hall:∀(i:Nat) x s,xs[i]? =some x->m.sp[i]? =some s->x.live=s.live/\zb arE base w x.ar.v s.ars/\zdL wb ht w x.tab s.tb) (hx:xs[k]? =some x) (hs:m.sp[k]? =some s) (hr:zb jQ base w' (V.sp.x) (xs.set k y)) (hy:y.live=t.live/\zb arE base w' y.ar.v t.ars/\zdL wb ht w' y.tab t.tb):BdM wb base hi ht w' V { m with sp:=m.sp.set k t }:=by
 obtain⟨_,r1,_⟩:=h.sp;obtain⟨cs',ho'⟩:=r1.obj hv;refine h.setSp hv hg ⟨xs.set k y,hr,by simp[hxl],fun i x' s' h1 h2=>?_⟩
 by_cases e:k=i
 ·subst e;rw[sF (gS.1 hx).1]at h1;rw[sF (gS.1 hs).1]at h2;cases h1;cases h2;exact hy
 rw[sN e]at h1 h2;obtain⟨a1,a2,a3⟩:=hall i x' s' h1 h2;exact⟨a1,a2.kind hg ho' (by decide),a3.kind hg ho' (by decide)⟩
theorem BdM.var (h:BdM wb base hi ht w V m) {g:Nat} {cs:Array Value} (hg:w.grownBy w' (some g)) (ho:w.heap[g]? =some (.cells cs t (0,0))) (hl:wb.heap.size<=g) (hn:t≠59/\t≠3/\t≠50/\t≠91/\t≠71/\t≠83/\t≠65/\t≠69/\t≠67):BdM wb base hi ht w' V m:=by
 obtain⟨a1,a2,a3,a4,a5,a6,a7,a8,a9⟩:=hn;obtain⟨xs,f1,f2,f3⟩:=h.fl;obtain⟨ys,s1,s2,s3⟩:=h.sp;exact⟨h.fs.kind hg ho a1,h.sl.kind hg ho a2,h.slh,⟨zx h.sb.1 hg ho a3,h.sb.2⟩,h.sq,⟨zx h.db.1 hg ho a3,h.db.2⟩,⟨zx h.dq.1 hg ho a4,h.dq.2⟩,⟨xs,f1.kind hg ho a5,f2,fun i x f hx hf=>⟨(f3 i x f hx hf).1,(f3 i x f hx hf).2.kind hg ho a2⟩⟩,h.ca.kind hg ho a6,⟨ys,s1.kind hg ho a7,s2,fun i x s hx hs=>⟨(s3 i x s hx hs).1,(s3 i x s hx hs).2.1.kind hg ho a8,(s3 i x s hx hs).2.2.kind hg ho a9⟩⟩,h.lo,h.hts,⟨hg.os.trans h.out.os,hg.tape.trans h.out.tape,hg.output.trans h.out.output,nT h.out.size hg.size,fun k hk hb=>(hg.block k (Nat.lt_of_lt_of_le hk h.out.size) (fun e=>by cases e;omega)).trans (h.out.block k hk hb)⟩⟩
end
def zly (base:Nat) (m:Ma) (w:World) (e:Ending) (w':World):Prop:=∃(V':MaV) (m':Ma),e= .returned (.agg (mL V' m').toArray)/\zH w' V' m'/\m'.fl.length=m.fl.length/\(∀s∈m'.sp,s.ars=[]\/∃s0∈m.sp,s.ars=s0.ars)/\∀w0,zc w0 w->w0.heap.size<=base->zc w0 w'
theorem zeE {n:Nat} (h:l=[]):qW n l:=by rw[h];exact zb9 n
theorem jb {sp:List Sp} (h:sp=m.sp):∀s∈sp,s.ars=[]\/∃s0∈m.sp,s.ars=s0.ars:=fun s hs=> .inr ⟨s,by rw[<-h];exact hs,rfl⟩
theorem zdi {l:List Sp} {k:Nat} {t s:Sp} (hs:l[k]? =some s) (h:t.ars=[]\/t.ars=s.ars):∀u∈l.set k t,u.ars=[]\/∃s0∈l,u.ars=s0.ars:=fun u hu=>by
 rcases List.mem_or_eq_of_mem_set hu with hu|rfl
 ·exact .inr ⟨u,hu,rfl⟩
 rcases h with h|h
 ·exact .inl h
 exact .inr ⟨s,mG hs,h⟩
theorem jT (l:Nat) (at1:Int) (pb:Nat) (w:World) (hb:Box w pb [I6 at1]) (hl:l<=1000):
  Calls prog 26 #[I6 (l:Int),.pointer (some ⟨pb,0,none⟩)] w fun e w'=>(∃z:Int,e= .returned (I6 z)/\((l=0/\z=-1)\/∃k:Nat,z=(k:Int)/\k<l))/\w'=w:=by
 have HB:Hid (Box w pb [I6 at1]):=hb;clear hb
 by_cases h0:l=0
 ·subst h0
  go_enter func26,ntmps26
  go_wp2;go_ret;exact⟨⟨-1,rfl,.inl ⟨trivial,rfl⟩⟩,rfl⟩
 obtain⟨k,hk,hr1,hr2,hr3⟩:=zi9 at1 (show 0<l by omega)
 have hr4:(at1.tmod (l:Int)+(l:Int)) %(l:Int)=(k:Int):=by rw[<-hr1];exact(Int.tmod_eq_emod_of_nonneg (by omega)).symm
 have hz:((l:Int) == 0)=false:=by simp;omega
 have HK:Hid (k<l):=hk;have x0:=HB.c 0 rfl
 go_enter func26,ntmps26
 go_wp2;go_ret;exact⟨⟨_,rfl,.inr ⟨k,by first | exact hr1 | exact hr4 | rfl,HK⟩⟩,rfl⟩
theorem BdM.nums {base:Nat} {a b:Int} (h:BdM wb base hi ht w V m):BdM wb base hi ht w V { m with hand:=a,cnt:=b }:=⟨h.fs,h.sl,h.slh,h.sb,h.sq,h.db,h.dq,h.fl,h.ca,h.sp,h.lo,h.hts,h.out⟩
def SpV.setT (x:SpV) (i:Nat) (s:Sli):SpV:=match i with
 | 0=>{ x with t0:=s } | 1=>{ x with t1:=s } | 2=>{ x with t2:=s } | 3=>{ x with t3:=s }
 | 4=>{ x with t4:=s } | 5=>{ x with t5:=s } | 6=>{ x with t6:=s } | 7=>{ x with t7:=s }
 | _=>x
theorem zaQ (h:i<8):i=0\/i=1\/i=2\/i=3\/i=4\/i=5\/i=6\/i=7:=by omega
theorem SpV.setT_enc (x:SpV) (h:i<8) (s:Sli):spv (x.setT i s)=(spv x).set (2+i) s.v:=by
 rcases zaQ h with rfl|rfl|rfl|rfl|rfl|rfl|rfl|rfl <;> rfl
theorem SpV.setT_tab (x:SpV) (h:i<8) (s:Sli):(x.setT i s).tab=x.tab.set i s.v/\(x.setT i s).live=x.live/\(x.setT i s).ar=x.ar:=by
 rcases zaQ h with rfl|rfl|rfl|rfl|rfl|rfl|rfl|rfl <;> exact⟨rfl,rfl,rfl⟩
theorem SpV.tab_at (x:SpV) (h:i<8):∃s:Sli,x.tab[i]? =some (s.x)/\(spv x)[2+i]? =some (s.x):=by
 rcases zaQ h with rfl|rfl|rfl|rfl|rfl|rfl|rfl|rfl <;> exact⟨_,rfl,rfl⟩
theorem zdL.set {t:List (List En)} (h:zdL wb ht w vs t) {v:Value} {l:List En} (hv:zb enE ht w v l):zdL wb ht w (vs.set i v) (t.set i l):=⟨by simp[h.1],by simp[h.2.1],fun j u x hu hx=>by
 by_cases e:i=j
 ·subst e;have h1:i<vs.length:=by have:=(gS.1 hu).1;simpa using this
  have h2:i<t.length:=by have:=(gS.1 hx).1;simpa using this
  rw[sF h1]at hu;rw[sF h2]at hx;cases hu;cases hx;exact .inr hv
 rw[sN e]at hu hx;exact h.2.2 j u x hu hx⟩
def Sp0 (wb:World) (base ht:Nat) (w:World) (V:MaV) (m:Ma):Prop:=∃xs:List SpV,zb jQ base w (V.sp.x) xs/\xs.length=m.sp.length/\∀(i:Nat) x s,xs[i]? =some x->m.sp[i]? =some s->x.live=s.live/\zb arE base w x.ar.v s.ars/\Jg 0 ht wb x.tab s.tb
theorem zdO.sp0 {ns:Nat} (h:zdO w nf ns nb L w' V m T hd hi ht vt):Sp0 w' w.heap.size ht w' V (jg m T hd):=by
 obtain⟨ys,s1,s2,s3⟩:=h.rows.sp;have hl:=h.inv.tl;refine⟨ys,s1,by simp[jg,hl,s2],fun i x s hx hs=>?_⟩
 have hs':(List.zipWith (fun s f=>({ s with tb:=ZH f }:Sp)) m.sp T)[i]? =some s:=hs
 rw[List.getElem?_zipWith]at hs';have hi:i<m.sp.length:=by rw[<-s2];exact(gS.1 hx).1
 rw[gE hi,gE (show i<T.length by omega)]at hs'
 simp only[Option.some.injEq]at hs';obtain⟨a1,a2,a3,_⟩:=s3 i x _ _ hx (gE hi) (gE (show i<T.length by omega))
 subst hs';exact⟨a1,a2,a3 hi⟩
theorem Sp0.grew {base:Nat} (h:Sp0 wb base ht w V m) (g:zc w w'):Sp0 wb base ht w' V m:=by
 obtain⟨ys,s1,s2,s3⟩:=h;exact⟨ys,s1.grew g,s2,fun i x s hx hs=>⟨(s3 i x s hx hs).1,(s3 i x s hx hs).2.1.grew g,(s3 i x s hx hs).2.2⟩⟩
def BS (wb:World) (base hi ht:Nat) (m:Ma) (w wx:World):Prop:=∃(V1:MaV) (m1:Ma),zD wx w.heap.size 40 [V1.f.x,I6 m1.hand,V1.s.x,V1.sb.x,V1.sq.x,V1.db.x,V1.dq.x,V1.fl.x,I6 m1.cnt,V1.ca.x,V1.sp.x]/\zD wx (w.heap.size+1+1) 40 [eS,I6 0,eS,eS,eS,eS,eS,eS,I6 0,eS,eS]/\BdM wb base hi ht wx V1 m1/\m1.fl.length=m.fl.length/\(∀s∈m1.sp,s.ars=[]\/∃s0∈m.sp,s.ars=s0.ars)/\∀w0,zc w0 w->w0.heap.size<=base->zc w0 wx
theorem BS.row {W0 W':World} {base g:Nat} {m1:Ma} {cs:Array Value} (X0:zD W0 w.heap.size 40 [.slice V.f.a V.f.n V.f.c,.int .i64 m.hand,.slice V.s.a V.s.n V.s.c,.slice V.sb.a V.sb.n V.sb.c,.slice V.sq.a V.sq.n V.sq.c,.slice V.db.a V.db.n V.db.c,.slice V.dq.a V.dq.n V.dq.c,.slice V.fl.a V.fl.n V.fl.c,.int .i64 m.cnt,.slice V.ca.a V.ca.n V.ca.c,.slice V.sp.a V.sp.n V.sp.c]) (R0:zD W0 (w.heap.size+1+1) 40 [.slice none 0 0,.int .i64 0,.slice none 0 0,.slice none 0 0,.slice none 0 0,.slice none 0 0,.slice none 0 0,.slice none 0 0,.int .i64 0,.slice none 0 0,.slice none 0 0]) (HG0:∀w0,zc w0 w->w0.heap.size<=base->zc w0 W0) (gr:W0.grownBy W' (some g)) (hc:W0.heap[g]? =some (.cells cs t (0,0))) (ht':t≠40) (hgl:base<=g) (e1:m1.hand=m.hand) (e2:m1.cnt=m.cnt) (B1:BdM wb base hi ht W' V m1) (ln:m1.fl.length=m.fl.length) (ars:∀s∈m1.sp,s.ars=[]\/∃s0∈m.sp,s.ars=s0.ars):BS wb base hi ht m w W':=
 ⟨V,m1,by rw[e1,e2];exact X0.kind gr hc ht',R0.kind gr hc ht',B1,ln,ars,fun w0 q1 q2=>ze (HG0 w0 q1 q2) gr (nT q2 hgl)⟩
theorem zjY (wb:World) (base hi ht:Nat) (V:MaV) (m:Ma) (wh at1 n:Int) (w:World) (hb:BdM wb base hi ht w V m) (hsp0:Sp0 wb base ht w V m) (hl:m.fs.length<=1000/\m.sl.length<=1000/\m.fl.length<=1000/\m.ca.length<=1000/\(1<=m.sp.length/\m.sp.length<=1000)) (h8:∀s∈m.sp,∀h∈s.tb,h.length<=8):
  Calls prog 7 #[.agg (mL V m).toArray,I6 wh,I6 at1,I6 n] w fun e w'=>zly base m w e w':=by
 have hmf:∀(fn:Fn) (first cap:Array Value) (w:World),(Instr.makeFunc fn first cap).run prog w= .ok (.func fn first cap) w:=fun _ _ _ _=>rfl
 have eg:=enters_of func26 (by kernel_rfl) rfl
 have HL:Hid (m.fs.length<=1000/\m.sl.length<=1000/\m.fl.length<=1000/\m.ca.length<=1000/\(1<=m.sp.length/\m.sp.length<=1000)):=dD<|hl
 have H8:Hid (∀s∈m.sp,∀h∈s.tb,h.length<=8):=dD<|h8
 have HB:Hid (BdM wb base hi ht w V m):=hb;have HSB:Hid (Sp0 wb base ht w V m):=hsp0;have HBW:Hid (wb.heap.size<=w.heap.size):=show _<=_ from hb.out.size
 obtain⟨n1,n2,-,-,-,-,n7,n8,n9⟩:=hb.at.ns;obtain⟨⟨fa,fn,fc⟩,⟨sa,sn,sc⟩,⟨sba,sbn,sbc⟩,⟨sqa,sqn,sqc⟩,⟨dba,dbn,dbc⟩,⟨dqa,dqn,dqc⟩,⟨fla,fln,flc⟩,⟨caa,can,cac⟩,⟨spa,spn,spc⟩⟩:=V;dsimp only[mL]at n1 n2 n7 n8 n9⊢;have HNf:Hid (fn=m.fs.length):=n1;have HNs:Hid (sn=m.sl.length):=n2;have HNfl:Hid (fln=m.fl.length):=n7;have HNca:Hid (can=m.ca.length):=n8;have HNsp:Hid (spn=m.sp.length):=n9;clear n1 n2 n7 n8 n9 hb hl h8 hsp0;obtain⟨W0,hW0⟩:∃W0,((w.alloc (.cells #[.slice fa fn fc,I6 m.hand,.slice sa sn sc,.slice sba sbn sbc,.slice sqa sqn sqc,.slice dba dbn dbc,.slice dqa dqn dqc,.slice fla fln flc,I6 m.cnt,.slice caa can cac,.slice spa spn spc] 40)).alloc (.cells #[I6 at1] 3)).alloc (.cells zM.toArray 40)=W0:=⟨_,rfl⟩;have g0:zc w W0:=by rw[<-hW0];exact((za _ _).trans (za _ _)).trans (za _ _)
 have X0:Hid (zD W0 w.heap.size 40 [.slice fa fn fc,I6 m.hand,.slice sa sn sc,.slice sba sbn sbc,.slice sqa sqn sqc,.slice dba dbn dbc,.slice dqa dqn dqc,.slice fla fln flc,I6 m.cnt,.slice caa can cac,.slice spa spn spc]):=dD<|by rw[<-hW0];exact((zD.top _ [.slice fa fn fc,I6 m.hand,.slice sa sn sc,.slice sba sbn sbc,.slice sqa sqn sqc,.slice dba dbn dbc,.slice dqa dqn dqc,.slice fla fln flc,I6 m.cnt,.slice caa can cac,.slice spa spn spc] _ rfl).grew (za _ _)).grew (za _ _)
 have A0:Hid (Box W0 (w.heap.size+1) [I6 at1]):=dD<|by rw[<-hW0];exact(Box.top _ [I6 at1] _ (by simp)).alloc _
 have R0:Hid (zD W0 (w.heap.size+1+1) 40 zM):=dD<|by rw[<-hW0];exact zD.top _ zM _ (by simp)
 have B0:=dD (HB.grew g0);have HSP0:=dD (HSB.grew g0);have HG0:Hid (∀w0,zc w0 w->w0.heap.size<=base->zc w0 W0):=show∀w0,_ from fun w0 h1 _=>h1.trans g0
 have HW0:Hid (_=W0):=hW0;clear hW0 g0
 go_enter func7,ntmps7
 go_upto_region 2 with fail;rw[HW0.out];clear hmf
 go_upto_block 0 with fail
 go_cut [4,8] (fun s4 s8 wx=>s4= .pointer (some ⟨w.heap.size,0,none⟩)/\s8= .pointer (some ⟨w.heap.size+1+1,0,none⟩)/\BS wb base hi ht m w wx)
 case rest=>
  obtain⟨rfl,rfl,V1,m1,X1,R1,B1,ln,ar,hG⟩:=hcut;obtain⟨c0,c1,c2,c3,c4,c5,c6,c7,c8,c9,c10⟩:=X1.box.c11;have HX:Hid (BdM wb base hi ht wc V1 m1/\zD wc (w.heap.size+1+1) 40 zM/\m1.fl.length=m.fl.length/\(∀s∈m1.sp,s.ars=[]\/∃s0∈m.sp,s.ars=s0.ars)/\∀w0,zc w0 w->w0.heap.size<=base->zc w0 wc):=⟨B1,R1,ln,ar,hG⟩;clear ln ar hG
  go_wp2_with (refine jM rfl 40 (.tmp 8) (.tmp 223) rfl (w.heap.size+1+1) rfl (mL V1 m1) rfl HX.2.1 rfl zl5 (zlb (V:=V1)) ?_)
  intro WL hbL hgL _;have HR:Hid (zly base m w (.returned (.agg (mL V1 m1).toArray)) WL):=⟨V1,m1,rfl,(HX.1.var hgL HX.2.1 (by have:=HBW.out;omega) (by decide)).at,HX.2.2.1,HX.2.2.2.1,fun w0 h1 h2=>ze (HX.2.2.2.2 w0 h1 h2) hgL (by have:=bS h1;omega)⟩
  go_wp2;refine bodyPost_ret (zT rfl _ rfl hbL.box underlying40 rfl zl5) rfl HR.out
 case first=>
 by_cases h1:wh=1
 ·have e1:(wh == 1)=true:=by simp[h1]
  clear h1;have x0:=X0.box.c 0 rfl;have hp:=jT fn at1 (w.heap.size+1) W0 A0 (by have:=HL.out;have:=HNf.out;omega)
  go_wp2_with fail;refine hp.mono ?_;rintro r w' ⟨⟨z,rfl,hz⟩,hw'⟩;rw[hw'];clear hw' w' hp
  rcases hz with⟨hz0,rfl⟩|⟨k,rfl,hk⟩
  ·clear hz0 x0;go_wp2
   go_meet
   exact⟨rfl,rfl,⟨⟨fa,fn,fc⟩,⟨sa,sn,sc⟩,⟨sba,sbn,sbc⟩,⟨sqa,sqn,sqc⟩,⟨dba,dbn,dbc⟩,⟨dqa,dqn,dqc⟩,⟨fla,fln,flc⟩,⟨caa,can,cac⟩,⟨spa,spn,spc⟩⟩,m,X0,R0,B0,rfl,jb rfl,HG0⟩
  have OWN:=B0.fs;obtain⟨q,HQ⟩:∃q,Hid (m.fs[k]? =some q):=⟨_,gE (by have:=HNf.out;omega)⟩
  have hkz:(k:Int)< (fn:Int):=by omega
  obtain⟨g,cc,hfe⟩:=OWN.formS (by have:=HNf.out;omega)
  simp only[vJ]at hfe;obtain⟨rfl,-,-⟩:=hfe;have RW:Hid (zb zaf base W0 (.slice (some ⟨g,0,none⟩) fn fc) m.fs):=OWN;have d:W0.cell? ⟨g,k*13+8,none⟩=some (I6 q.r):=by
   have:=RW.one HQ 8 _ rfl;rw[zI,Addr.add_lit,zA]at this;exact this
  have xf:=RW.unfrozen rfl;obtain⟨ow,gr,sz⟩:=RW.cell (k:=k) (o:=8) rfl HQ (y:={ q with r:=n }) (u:=I6 n) rfl (by decide)
  obtain⟨cs,hc⟩:=RW.obj (g:=g) rfl;have hgl:=(RW.lt g rfl).1;have S1:Hid (BS wb base hi ht m w (W0.setCell ⟨g,k*13+8,none⟩ (I6 n))):=BS.row (m1:={ m with fs:=m.fs.set k { q with r:=n } }) X0.out R0.out HG0.out gr hc (by decide) hgl rfl rfl (B0.setF rfl gr ow) rfl (jb rfl)
  clear ow gr sz cs hc hgl;go_wp2
  go_meet
  exact⟨rfl,rfl,S1⟩
 by_cases h2:wh=2
 ·have e2:(wh == 2)=true:=by simp[h2]
  have e1:(wh == 1)=false:=by simp[h1]
  clear h1;clear h2;have x0:=X0.box.c 2 rfl;have hp:=jT sn at1 (w.heap.size+1) W0 A0 (by have:=HL.out;have:=HNs.out;omega)
  go_wp2_with fail;refine hp.mono ?_;rintro r w' ⟨⟨z,rfl,hz⟩,hw'⟩;rw[hw'];clear hw' w' hp
  rcases hz with⟨hz0,rfl⟩|⟨k,rfl,hk⟩
  ·clear hz0 x0;go_wp2
   go_meet
   exact⟨rfl,rfl,⟨⟨fa,fn,fc⟩,⟨sa,sn,sc⟩,⟨sba,sbn,sbc⟩,⟨sqa,sqn,sqc⟩,⟨dba,dbn,dbc⟩,⟨dqa,dqn,dqc⟩,⟨fla,fln,flc⟩,⟨caa,can,cac⟩,⟨spa,spn,spc⟩⟩,m,X0,R0,B0,rfl,jb rfl,HG0⟩
  have OWN:=B0.sl;obtain⟨q,HQ⟩:∃q,Hid (m.sl[k]? =some q):=⟨_,gE (by have:=HNs.out;omega)⟩
  have hkz:(k:Int)< (sn:Int):=by omega
  obtain⟨g,cc,hfe⟩:=OWN.formS (by have:=HNs.out;omega)
  simp only[vJ]at hfe;obtain⟨rfl,-,-⟩:=hfe;have RW:Hid (zb slE base W0 (.slice (some ⟨g,0,none⟩) sn sc) m.sl):=OWN;have d:W0.cell? ⟨g,k*1+0,none⟩=some (I6 q):=by
   have:=RW.one HQ 0 _ rfl;rw[zI,Addr.add_lit,zA]at this;exact this
  have xf:=RW.unfrozen rfl;obtain⟨ow,gr,sz⟩:=RW.cell (k:=k) (o:=0) rfl HQ (y:=n) (u:=I6 n) rfl (by decide)
  obtain⟨cs,hc⟩:=RW.obj (g:=g) rfl;have hgl:=(RW.lt g rfl).1;have S1:Hid (BS wb base hi ht m w (W0.setCell ⟨g,k*1+0,none⟩ (I6 n))):=BS.row (m1:={ m with sl:=m.sl.set k n }) X0.out R0.out HG0.out gr hc (by decide) hgl rfl rfl (B0.setS rfl gr ow) rfl (jb rfl)
  clear ow gr sz cs hc hgl;have hoff:k*1+0=k:=by omega
  rw[hoff]at d S1;go_wp2
  go_meet
  exact⟨rfl,rfl,S1⟩
 by_cases h3:wh=3
 ·have e3:(wh == 3)=true:=by simp[h3]
  have e1:(wh == 1)=false:=by simp[h1]
  have e2:(wh == 2)=false:=by simp[h2]
  clear h1;clear h2;clear h3;have x0:=X0.box.c 9 rfl;have hp:=jT can at1 (w.heap.size+1) W0 A0 (by have:=HL.out;have:=HNca.out;omega)
  go_wp2_with fail;refine hp.mono ?_;rintro r w' ⟨⟨z,rfl,hz⟩,hw'⟩;rw[hw'];clear hw' w' hp
  rcases hz with⟨hz0,rfl⟩|⟨k,rfl,hk⟩
  ·clear hz0 x0;go_wp2
   go_meet
   exact⟨rfl,rfl,⟨⟨fa,fn,fc⟩,⟨sa,sn,sc⟩,⟨sba,sbn,sbc⟩,⟨sqa,sqn,sqc⟩,⟨dba,dbn,dbc⟩,⟨dqa,dqn,dqc⟩,⟨fla,fln,flc⟩,⟨caa,can,cac⟩,⟨spa,spn,spc⟩⟩,m,X0,R0,B0,rfl,jb rfl,HG0⟩
  have OWN:=B0.ca;obtain⟨q,HQ⟩:∃q,Hid (m.ca[k]? =some q):=⟨_,gE (by have:=HNca.out;omega)⟩
  have hkz:(k:Int)< (can:Int):=by omega
  obtain⟨g,cc,hfe⟩:=OWN.formS (by have:=HNca.out;omega)
  simp only[vJ]at hfe;obtain⟨rfl,-,-⟩:=hfe;have RW:Hid (zb qX base W0 (.slice (some ⟨g,0,none⟩) can cac) m.ca):=OWN;have d:W0.cell? ⟨g,k*3+2,none⟩=some (I6 q.fr):=by
   have:=RW.one HQ 2 _ rfl;rw[zI,Addr.add_lit,zA]at this;exact this
  have xf:=RW.unfrozen rfl;obtain⟨ow,gr,sz⟩:=RW.cell (k:=k) (o:=2) rfl HQ (y:={ q with fr:=n }) (u:=I6 n) rfl (by decide)
  obtain⟨cs,hc⟩:=RW.obj (g:=g) rfl;have hgl:=(RW.lt g rfl).1;have S1:Hid (BS wb base hi ht m w (W0.setCell ⟨g,k*3+2,none⟩ (I6 n))):=BS.row (m1:={ m with ca:=m.ca.set k { q with fr:=n } }) X0.out R0.out HG0.out gr hc (by decide) hgl rfl rfl (B0.setCa rfl gr ow) rfl (jb rfl)
  clear ow gr sz cs hc hgl;go_wp2
  go_meet
  exact⟨rfl,rfl,S1⟩
 by_cases h4:wh=4
 ·have e4:(wh == 4)=true:=by simp[h4]
  have e1:(wh == 1)=false:=by simp[h1]
  have e2:(wh == 2)=false:=by simp[h2]
  have e3:(wh == 3)=false:=by simp[h3]
  clear h1;clear h2;clear h3;clear h4;have x0:=X0.box.c 9 rfl;have hp:=jT can at1 (w.heap.size+1) W0 A0 (by have:=HL.out;have:=HNca.out;omega)
  go_wp2_with fail;refine hp.mono ?_;rintro r w' ⟨⟨z,rfl,hz⟩,hw'⟩;rw[hw'];clear hw' w' hp
  rcases hz with⟨hz0,rfl⟩|⟨k,rfl,hk⟩
  ·clear hz0 x0;go_wp2
   go_meet
   exact⟨rfl,rfl,⟨⟨fa,fn,fc⟩,⟨sa,sn,sc⟩,⟨sba,sbn,sbc⟩,⟨sqa,sqn,sqc⟩,⟨dba,dbn,dbc⟩,⟨dqa,dqn,dqc⟩,⟨fla,fln,flc⟩,⟨caa,can,cac⟩,⟨spa,spn,spc⟩⟩,m,X0,R0,B0,rfl,jb rfl,HG0⟩
  have OWN:=B0.ca;obtain⟨q,HQ⟩:∃q,Hid (m.ca[k]? =some q):=⟨_,gE (by have:=HNca.out;omega)⟩
  have hkz:(k:Int)< (can:Int):=by omega
  obtain⟨g,cc,hfe⟩:=OWN.formS (by have:=HNca.out;omega)
  simp only[vJ]at hfe;obtain⟨rfl,-,-⟩:=hfe;have RW:Hid (zb qX base W0 (.slice (some ⟨g,0,none⟩) can cac) m.ca):=OWN;have d:W0.cell? ⟨g,k*3+1,none⟩=some (I6 q.idx):=by
   have:=RW.one HQ 1 _ rfl;rw[zI,Addr.add_lit,zA]at this;exact this
  have xf:=RW.unfrozen rfl;obtain⟨ow,gr,sz⟩:=RW.cell (k:=k) (o:=1) rfl HQ (y:={ q with idx:=n }) (u:=I6 n) rfl (by decide)
  obtain⟨cs,hc⟩:=RW.obj (g:=g) rfl;have hgl:=(RW.lt g rfl).1;have S1:Hid (BS wb base hi ht m w (W0.setCell ⟨g,k*3+1,none⟩ (I6 n))):=BS.row (m1:={ m with ca:=m.ca.set k { q with idx:=n } }) X0.out R0.out HG0.out gr hc (by decide) hgl rfl rfl (B0.setCa rfl gr ow) rfl (jb rfl)
  clear ow gr sz cs hc hgl;go_wp2
  go_meet
  exact⟨rfl,rfl,S1⟩
 by_cases h5:wh=5
 ·have e5:(wh == 5)=true:=by simp[h5]
  have e1:(wh == 1)=false:=by simp[h1]
  have e2:(wh == 2)=false:=by simp[h2]
  have e3:(wh == 3)=false:=by simp[h3]
  have e4:(wh == 4)=false:=by simp[h4]
  clear h1;clear h2;clear h3;clear h4;clear h5;have x0:=X0.box.c 1 rfl;have xf:=X0.box.f;have gr:=qO W0 w.heap.size 1 (I6 n);have S1:Hid (BS wb base hi ht m w (W0.setCell ⟨w.heap.size,1,none⟩ (I6 n))):=⟨⟨⟨fa,fn,fc⟩,⟨sa,sn,sc⟩,⟨sba,sbn,sbc⟩,⟨sqa,sqn,sqc⟩,⟨dba,dbn,dbc⟩,⟨dqa,dqn,dqc⟩,⟨fla,fln,flc⟩,⟨caa,can,cac⟩,⟨spa,spn,spc⟩⟩,{ m with hand:=n,cnt:=m.cnt },X0.set 1 _,R0.beside gr (fun k e=>by cases e;omega),BdM.nums (B0.var gr X0 (by have:=HBW.out;omega) (by decide)),rfl,jb rfl,fun w0 q1 q2=>ze (HG0 w0 q1 q2) gr (bS q1)⟩
  clear gr;go_wp2
  go_meet
  exact⟨rfl,rfl,S1⟩
 by_cases h6:wh=6
 ·have e6:(wh == 6)=true:=by simp[h6]
  have e1:(wh == 1)=false:=by simp[h1]
  have e2:(wh == 2)=false:=by simp[h2]
  have e3:(wh == 3)=false:=by simp[h3]
  have e4:(wh == 4)=false:=by simp[h4]
  have e5:(wh == 5)=false:=by simp[h5]
  clear h1;clear h2;clear h3;clear h4;clear h5;clear h6;have x0:=X0.box.c 8 rfl;have xf:=X0.box.f;have gr:=qO W0 w.heap.size 8 (I6 n);have S1:Hid (BS wb base hi ht m w (W0.setCell ⟨w.heap.size,8,none⟩ (I6 n))):=⟨⟨⟨fa,fn,fc⟩,⟨sa,sn,sc⟩,⟨sba,sbn,sbc⟩,⟨sqa,sqn,sqc⟩,⟨dba,dbn,dbc⟩,⟨dqa,dqn,dqc⟩,⟨fla,fln,flc⟩,⟨caa,can,cac⟩,⟨spa,spn,spc⟩⟩,{ m with hand:=m.hand,cnt:=n },X0.set 8 _,R0.beside gr (fun k e=>by cases e;omega),BdM.nums (B0.var gr X0 (by have:=HBW.out;omega) (by decide)),rfl,jb rfl,fun w0 q1 q2=>ze (HG0 w0 q1 q2) gr (bS q1)⟩
  clear gr;go_wp2
  go_meet
  exact⟨rfl,rfl,S1⟩
 by_cases h7:wh=7
 ·have e7:(wh == 7)=true:=by simp[h7]
  have e1:(wh == 1)=false:=by simp[h1]
  have e2:(wh == 2)=false:=by simp[h2]
  have e3:(wh == 3)=false:=by simp[h3]
  have e4:(wh == 4)=false:=by simp[h4]
  have e5:(wh == 5)=false:=by simp[h5]
  have e6:(wh == 6)=false:=by simp[h6]
  clear h1;clear h2;clear h3;clear h4;clear h5;clear h6;clear h7;have x0:=X0.box.c 10 rfl;have hp:=jT spn at1 (w.heap.size+1) W0 A0 (by have:=HL.out;have:=HNsp.out;omega)
  go_wp2_with fail;refine hp.mono ?_;rintro r w' ⟨⟨z,rfl,hz⟩,hw'⟩;rw[hw'];clear hw' w' hp
  rcases hz with⟨hz0,rfl⟩|⟨k,rfl,hk⟩
  ·clear hz0 x0;go_wp2
   go_meet
   exact⟨rfl,rfl,⟨⟨fa,fn,fc⟩,⟨sa,sn,sc⟩,⟨sba,sbn,sbc⟩,⟨sqa,sqn,sqc⟩,⟨dba,dbn,dbc⟩,⟨dqa,dqn,dqc⟩,⟨fla,fln,flc⟩,⟨caa,can,cac⟩,⟨spa,spn,spc⟩⟩,m,X0,R0,B0,rfl,jb rfl,HG0⟩
  obtain⟨xs,OWN,xl,xall⟩:=B0.sp;have XLL:Hid (xs.length=m.sp.length):=xl;have XALL:Hid (∀(i:Nat) x s,xs[i]? =some x->m.sp[i]? =some s->x.live=s.live/\zb arE base W0 x.ar.v s.ars/\zdL wb ht W0 x.tab s.tb):=show∀i,_ from xall
  clear xl xall;obtain⟨q,HQ⟩:∃q,Hid (xs[k]? =some q):=⟨_,gE (by have:=HNsp.out;have:=XLL.out;omega)⟩
  have hkz:(k:Int)< (spn:Int):=by omega
  obtain⟨g,cc,hfe⟩:=OWN.formS (by have:=HNsp.out;have:=XLL.out;omega)
  simp only[vJ]at hfe;obtain⟨rfl,-,-⟩:=hfe;have RW:Hid (zb jQ base W0 (.slice (some ⟨g,0,none⟩) spn spc) xs):=OWN;have d:W0.cell? ⟨g,k*10+0,none⟩=some (.bool q.live):=by
   have:=RW.one HQ 0 _ rfl;rw[zI,Addr.add_lit,zA]at this;exact this
  have xf:=RW.unfrozen rfl;obtain⟨ow,gr,sz⟩:=RW.cell (k:=k) (o:=0) rfl HQ (y:={ q with live:=false }) (u:= .bool false) rfl (by decide)
  obtain⟨cs,hc⟩:=RW.obj (g:=g) rfl;have hgl:=(RW.lt g rfl).1;obtain⟨s,HS⟩:∃s,Hid (m.sp[k]? =some s):=⟨_,gE (by have:=HNsp.out;omega)⟩
  obtain⟨a1,a2,a3⟩:=XALL.out k q s HQ HS.out;have S1:Hid (BS wb base hi ht m w (W0.setCell ⟨g,k*10+0,none⟩ (.bool false))):=BS.row (m1:={ m with sp:=m.sp.set k { s with live:=false } }) X0.out R0.out HG0.out gr hc (by decide) hgl rfl rfl (B0.setSp1 rfl gr XLL XALL HQ HS ow ⟨rfl,a2.kind gr hc (by decide),a3.kind gr hc (by decide)⟩) rfl (zdi HS (.inr rfl))
  clear ow gr sz cs hc hgl;have hoff:k*10+0=k*10:=by omega
  rw[hoff]at d S1;go_wp2
  go_meet
  exact⟨rfl,rfl,S1⟩
 by_cases h8:wh=8
 ·have e8:(wh == 8)=true:=by simp[h8]
  have e1:(wh == 1)=false:=by simp[h1]
  have e2:(wh == 2)=false:=by simp[h2]
  have e3:(wh == 3)=false:=by simp[h3]
  have e4:(wh == 4)=false:=by simp[h4]
  have e5:(wh == 5)=false:=by simp[h5]
  have e6:(wh == 6)=false:=by simp[h6]
  have e7:(wh == 7)=false:=by simp[h7]
  clear h1;clear h2;clear h3;clear h4;clear h5;clear h6;clear h7;clear h8;obtain⟨xs,OWN,xl,xall⟩:=HSP0.out;have hx0:0<xs.length:=by have:=HL.out;omega
  have hm0:0<m.sp.length:=by have:=HL.out;omega
  obtain⟨q,HQ⟩:∃q,Hid (xs[0]? =some q):=⟨xs[0],show _=_ from gE hx0⟩
  obtain⟨s,HS⟩:∃s,Hid (m.sp[0]? =some s):=⟨m.sp[0],show _=_ from gE hm0⟩
  obtain⟨g,cc,hfe⟩:=OWN.formS (by have:=HL.out;omega)
  simp only[vJ]at hfe;obtain⟨rfl,-,-⟩:=hfe;have HT:Hid (Jg 0 ht wb q.tab s.tb):=(xall 0 q s HQ HS).2.2;have hd:=(OWN.one HQ);have hspz:(0:Int)< (spn:Int):=by have:=HNsp.out;have:=HL.out;omega
  obtain⟨d0,d1,d2,d3,d4,d5,d6,d7,d8,d9⟩:=jp.sp10 hd;have x10:=X0.box.c 10 rfl;have HH8:Hid (∀h∈s.tb,h.length<=8):=H8.out s (mG HS);have HTL:Hid (q.tab.length=8):=HT.len;have HM0:Hid ({ m with sp:=m.sp.set 0 { s with tb:=s.tb } }=m):=show _=_ by
   have:m.sp.set 0 ({ s with tb:=s.tb }:Sp)=m.sp:=by
    apply List.ext_getElem?
    intro i
    by_cases e:i=0
    ·subst e;rw[sF (gS.1 HS.out).1,HS.out]
    rw[sN (fun h=>e h.symm)]
   rw[this]
  have B9:Hid (BdM wb base hi ht W0 ⟨⟨fa,fn,fc⟩,⟨sa,sn,sc⟩,⟨sba,sbn,sbc⟩,⟨sqa,sqn,sqc⟩,⟨dba,dbn,dbc⟩,⟨dqa,dqn,dqc⟩,⟨fla,fln,flc⟩,⟨caa,can,cac⟩,⟨some ⟨g,0,none⟩,spn,spc⟩⟩ { m with sp:=m.sp.set 0 { s with tb:=s.tb } }):=dD<|by rw[HM0.out];exact B0.out
  simp only[Addr.add_lit,Nat.zero_mul,zA]at d0 d1 d2 d3 d4 d5 d6 d7 d8 d9;clear xl xall hd hx0 hm0;go_upto_region 29 with fail;clear x10 d0 d1 d2 d3 d4 d5 d6 d7 d8 d9
  go_loopg [119] 8 (fun gg sctr wr=>∃(i:Nat) (t':List (List En)),i<=8/\8 - i<=gg/\sctr=I6 i/\Hid (BdM wb base hi ht wr ⟨⟨fa,fn,fc⟩,⟨sa,sn,sc⟩,⟨sba,sbn,sbc⟩,⟨sqa,sqn,sqc⟩,⟨dba,dbn,dbc⟩,⟨dqa,dqn,dqc⟩,⟨fla,fln,flc⟩,⟨caa,can,cac⟩,⟨some ⟨g,0,none⟩,spn,spc⟩⟩ { m with sp:=m.sp.set 0 { s with tb:=t' } })/\Hid (zD wr w.heap.size 40 [.slice fa fn fc,I6 m.hand,.slice sa sn sc,.slice sba sbn sbc,.slice sqa sqn sqc,.slice dba dbn dbc,.slice dqa dqn dqc,.slice fla fln flc,I6 m.cnt,.slice caa can cac,.slice (some ⟨g,0,none⟩) spn spc])/\Hid (Box wr (w.heap.size+1) [I6 at1])/\Hid (zD wr (w.heap.size+1+1) 40 zM)/\Hid (∀w0,zc w0 w->w0.heap.size<=base->zc w0 wr))
  case atStart=>exact⟨0,s.tb,nZ _,by omega,rfl,B9,X0,A0,R0,HG0⟩
  obtain⟨i,t',hi8,hgi,rfl,BW,XW,AW,RW,GW⟩:=hrel
  by_cases hlt:i<8
  ·have hltz:(i:Int)<8:=by omega
   obtain⟨hs,hv1,-⟩:=q.tab_at hlt;have HVK:Hid (q.tab[i]? =some (hs.x)):=hv1;obtain⟨h,HH⟩:∃h,Hid (s.tb[i]? =some h):=⟨_,gE (by rw[HT.tlen];exact hlt)⟩
   have HRH:Hid (zr enE wr (hs.x) h):=((HT.row i _ h HVK HH).out BW.out.out).now;have HHN:Hid (hs.n=h.length):=HRH.n;have hn8:hs.n<=8:=by rw[HHN.out];exact HH8 h (mG HH)
   have hp:=jT hs.n at1 (w.heap.size+1) wr AW (by omega)
   clear hv1
   go_wp2_with (refine J4 rfl (.tmp 118) (.tmp 119) rfl q.tab rfl i rfl hlt HVK.out ?_)
   refine hp.mono ?_;rintro r w' ⟨⟨z,rfl,hz⟩,hw'⟩;rw[hw'];clear hw' w' hp
   rcases hz with⟨hz0,rfl⟩|⟨k,rfl,hk⟩
   ·clear hz0;go_wp2
    go_roundg (8 -(i+1))
    case measure=>omega
    exact⟨i+1,t',by omega,by omega,by go_num,BW,XW,AW,RW,GW⟩
   obtain⟨e,HE⟩:∃e,Hid (h[k]? =some e):=⟨_,gE (by rw[<-HHN.out];exact hk)⟩
   have hkz:(k:Int)< (hs.n:Int):=by omega
   go_wp2_with (at_builtin;refine zw (E:=enE) rfl (.tmp 129) (.tmp 130) rfl wr.heap.size _ [] rfl (zb.made enE wr) _ h rfl (HRH.grew (za _ _)) ?qb ?qc ?_)
   case qb=>
    show(0+h.length)*24<=_
    have:=HHN.out;omega
   case qc=>exact bS (za _ _)
   intro vn Wn own grn;have gn:zc wr Wn:=qo (za _ _) grn (fun g' hg'=>by cases hg';exact nR _)
   obtain⟨ge,cn,hvn⟩:=own.formS (by rw[<-HHN.out];omega)
   rw[<-HHN.out]at hvn;subst hvn;have ON:Hid (zb enE wr.heap.size Wn (.slice (some ⟨ge,0,none⟩) hs.n cn) h):=own;have GN:Hid (zc wr Wn):=gn;have HGE:Hid (wr.heap.size<=ge):=show _<=_ from(own.lt ge rfl).1
   clear own grn gn;have d:Wn.cell? ⟨ge,k*3+1,none⟩=some (I6 e.n):=by
    have:=ON.one HE 1 _ rfl;rw[zI,Addr.add_lit,zA]at this;exact this
   have xf:=ON.unfrozen rfl;obtain⟨ow,gr,sz⟩:=ON.cell (k:=k) (o:=1) rfl HE (y:={ e with n:=n }) (u:=I6 n) rfl (by decide)
   have O2:Hid (zb enE wr.heap.size (Wn.setCell ⟨ge,k*3+1,none⟩ (I6 n)) (.slice (some ⟨ge,0,none⟩) hs.n cn) (h.set k { e with n:=n })):=ow;have G2:Hid (zc wr (Wn.setCell ⟨ge,k*3+1,none⟩ (I6 n))):=show zc _ _ from ze GN gr HGE.out
   clear ow gr sz;go_upto_region 35 with fail;obtain⟨W2,HW2⟩:∃W2,Hid (Wn.setCell ⟨ge,k*3+1,none⟩ (I6 n)=W2):=⟨_,rfl⟩;rw[HW2.out]at O2 G2⊢;clear d xf;have B2:=dD (BW.grew G2);obtain⟨ys,YO,yl,yall⟩:=B2.sp;have YL:Hid (ys.length=(m.sp.set 0 { s with tb:=t' }).length):=yl;have YALL:Hid (∀(i:Nat) x s1,ys[i]? =some x->(m.sp.set 0 { s with tb:=t' })[i]? =some s1->x.live=s1.live/\zb arE base W2 x.ar.v s1.ars/\zdL wb ht W2 x.tab s1.tb):=show∀i,_ from yall
   have YOW:Hid (zb jQ base W2 (.slice (some ⟨g,0,none⟩) spn spc) ys):=YO;clear yl yall;have HS1:Hid ((m.sp.set 0 { s with tb:=t' })[0]? =some { s with tb:=t' }):=show _=_ from sF (gS.1 HS).1
   have hy0:0<ys.length:=by rw[YL.out];exact(gS.1 HS1).1
   obtain⟨yq,HYQ⟩:∃yq,Hid (ys[0]? =some yq):=⟨ys[0],show _=_ from gE hy0⟩
   clear hy0;obtain⟨os,-,hos⟩:=yq.tab_at hlt;have d:W2.cell? ⟨g,2+i,none⟩=some (os.x):=by
    have:=YOW.one HYQ (2+i) _ hos;rw[zI,Addr.add_lit]at this
    simpa using this
   have xf:=YOW.unfrozen rfl;obtain⟨ow,gr,sz⟩:=YOW.cell (k:=0) (o:=2+i) rfl HYQ (y:=yq.setT i ⟨some ⟨ge,0,none⟩,hs.n,cn⟩) (u:= .slice (some ⟨ge,0,none⟩) hs.n cn) (yq.setT_enc hlt _) (by show 2+i<10;omega)
   obtain⟨cs,hc⟩:=YOW.obj (g:=g) rfl;have hgl:=(YOW.lt g rfl).1;have B3:Hid (BdM wb base hi ht (W2.setCell ⟨g,2+i,none⟩ (.slice (some ⟨ge,0,none⟩) hs.n cn)) ⟨⟨fa,fn,fc⟩,⟨sa,sn,sc⟩,⟨sba,sbn,sbc⟩,⟨sqa,sqn,sqc⟩,⟨dba,dbn,dbc⟩,⟨dqa,dqn,dqc⟩,⟨fla,fln,flc⟩,⟨caa,can,cac⟩,⟨some ⟨g,0,none⟩,spn,spc⟩⟩ { m with sp:=m.sp.set 0 { s with tb:=t'.set i (h.set k { e with n:=n }) } }):=dD<|by
    have hoff:0*jQ.k+(2+i)=2+i:=by omega
    rw[hoff]at ow gr;have:=B2.setSp1 (k:=0) (t:={ s with tb:=t'.set i (h.set k { e with n:=n }) }) rfl gr YL YALL HYQ HS1 ow (by
     obtain⟨a1,a2,a3⟩:=YALL.out 0 yq _ HYQ HS1.out;obtain⟨b1,b2,b3⟩:=yq.setT_tab hlt ⟨some ⟨ge,0,none⟩,hs.n,cn⟩;refine⟨by rw[b2];exact a1,by rw[b3];exact a2.kind gr hc (by decide),?_⟩
     rw[b1];exact(a3.kind gr hc (by decide)).set ((O2.kind gr hc (by decide)).base (nT BW.hts BW.out.out.size)))
    have hss:({ m with sp:=(m.sp.set 0 { s with tb:=t' }).set 0 { s with tb:=t'.set i (h.set k { e with n:=n }) } }:Ma)={ m with sp:=m.sp.set 0 { s with tb:=t'.set i (h.set k { e with n:=n }) } }:=by rw[List.set_set]
    rw[<-hss];exact this
   have X3:Hid (zD (W2.setCell ⟨g,2+i,none⟩ (.slice (some ⟨ge,0,none⟩) hs.n cn)) w.heap.size 40 [.slice fa fn fc,I6 m.hand,.slice sa sn sc,.slice sba sbn sbc,.slice sqa sqn sqc,.slice dba dbn dbc,.slice dqa dqn dqc,.slice fla fln flc,I6 m.cnt,.slice caa can cac,.slice (some ⟨g,0,none⟩) spn spc]):=dD<|by
    have hoff:0*jQ.k+(2+i)=2+i:=by omega
    rw[hoff]at gr;exact(XW.grew G2).kind gr hc (by decide)
   have R3:Hid (zD (W2.setCell ⟨g,2+i,none⟩ (.slice (some ⟨ge,0,none⟩) hs.n cn)) (w.heap.size+1+1) 40 zM):=dD<|by
    have hoff:0*jQ.k+(2+i)=2+i:=by omega
    rw[hoff]at gr;exact(RW.grew G2).kind gr hc (by decide)
   have hga:g<ht:=B2.lo g (.inr (.inr (.inr (.inr rfl))));have hht:=B2.hts;have A3:Hid (Box (W2.setCell ⟨g,2+i,none⟩ (.slice (some ⟨ge,0,none⟩) hs.n cn)) (w.heap.size+1) [I6 at1]):=dD<|(AW.grew G2).other (by have:=HBW.out;simp;omega) _
   have GW3:Hid (∀w0,zc w0 w->w0.heap.size<=base->zc w0 (W2.setCell ⟨g,2+i,none⟩ (.slice (some ⟨ge,0,none⟩) hs.n cn))):=dD<|fun w0 q1 q2=>zC ((GW w0 q1 q2).trans G2) (nT q2 hgl) _
   clear ow gr sz cs hc hgl hga hht;have x10:=(XW.grew G2).box.c 10 rfl;go_upto_region 36 with fail;obtain⟨W3,HW3⟩:∃W3,Hid (W2.setCell ⟨g,2+i,none⟩ (.slice (some ⟨ge,0,none⟩) hs.n cn)=W3):=⟨_,rfl⟩;rw[HW3.out]at B3 X3 A3 R3 GW3⊢;clear d xf x10;go_wp2
   go_roundg (8 -(i+1))
   case measure=>omega
   exact⟨i+1,_,by omega,by omega,by go_num,B3,X3,A3,R3,GW3⟩
  have hltz:¬(i:Int)<8:=by omega
  go_wp2
  go_meet
  exact⟨rfl,rfl,⟨⟨fa,fn,fc⟩,⟨sa,sn,sc⟩,⟨sba,sbn,sbc⟩,⟨sqa,sqn,sqc⟩,⟨dba,dbn,dbc⟩,⟨dqa,dqn,dqc⟩,⟨fla,fln,flc⟩,⟨caa,can,cac⟩,⟨some ⟨g,0,none⟩,spn,spc⟩⟩,{ m with sp:=m.sp.set 0 { s with tb:=t' } },XW,RW,BW,rfl,zdi HS (.inr rfl),GW⟩
 by_cases h9:wh=9
 ·have e9:(wh == 9)=true:=by simp[h9]
  have e1:(wh == 1)=false:=by simp[h1]
  have e2:(wh == 2)=false:=by simp[h2]
  have e3:(wh == 3)=false:=by simp[h3]
  have e4:(wh == 4)=false:=by simp[h4]
  have e5:(wh == 5)=false:=by simp[h5]
  have e6:(wh == 6)=false:=by simp[h6]
  have e7:(wh == 7)=false:=by simp[h7]
  have e8:(wh == 8)=false:=by simp[h8]
  clear h1;clear h2;clear h3;clear h4;clear h5;clear h6;clear h7;clear h8;clear h9;obtain⟨xs,OWN,xl,xall⟩:=HSP0.out;have hx0:0<xs.length:=by have:=HL.out;omega
  have hm0:0<m.sp.length:=by have:=HL.out;omega
  obtain⟨q,HQ⟩:∃q,Hid (xs[0]? =some q):=⟨xs[0],show _=_ from gE hx0⟩
  obtain⟨s,HS⟩:∃s,Hid (m.sp[0]? =some s):=⟨m.sp[0],show _=_ from gE hm0⟩
  obtain⟨g,cc,hfe⟩:=OWN.formS (by have:=HL.out;omega)
  simp only[vJ]at hfe;obtain⟨rfl,-,-⟩:=hfe;have HT:Hid (Jg 0 ht wb q.tab s.tb):=(xall 0 q s HQ HS).2.2;have hd:=(OWN.one HQ);have hspz:(0:Int)< (spn:Int):=by have:=HNsp.out;have:=HL.out;omega
  obtain⟨d0,d1,d2,d3,d4,d5,d6,d7,d8,d9⟩:=jp.sp10 hd;have x10:=X0.box.c 10 rfl;have HH8:Hid (∀h∈s.tb,h.length<=8):=H8.out s (mG HS);have HTL:Hid (q.tab.length=8):=HT.len;have HM0:Hid ({ m with sp:=m.sp.set 0 { s with tb:=s.tb } }=m):=show _=_ by
   have:m.sp.set 0 ({ s with tb:=s.tb }:Sp)=m.sp:=by
    apply List.ext_getElem?
    intro i
    by_cases e:i=0
    ·subst e;rw[sF (gS.1 HS.out).1,HS.out]
    rw[sN (fun h=>e h.symm)]
   rw[this]
  have B9:Hid (BdM wb base hi ht W0 ⟨⟨fa,fn,fc⟩,⟨sa,sn,sc⟩,⟨sba,sbn,sbc⟩,⟨sqa,sqn,sqc⟩,⟨dba,dbn,dbc⟩,⟨dqa,dqn,dqc⟩,⟨fla,fln,flc⟩,⟨caa,can,cac⟩,⟨some ⟨g,0,none⟩,spn,spc⟩⟩ { m with sp:=m.sp.set 0 { s with tb:=s.tb } }):=dD<|by rw[HM0.out];exact B0.out
  simp only[Addr.add_lit,Nat.zero_mul,zA]at d0 d1 d2 d3 d4 d5 d6 d7 d8 d9;clear xl xall hd hx0 hm0;go_upto_region 39 with fail;clear x10 d0 d1 d2 d3 d4 d5 d6 d7 d8 d9
  go_loopg [152] 8 (fun gg sctr wr=>∃(i:Nat) (t':List (List En)),i<=8/\8 - i<=gg/\sctr=I6 i/\Hid (BdM wb base hi ht wr ⟨⟨fa,fn,fc⟩,⟨sa,sn,sc⟩,⟨sba,sbn,sbc⟩,⟨sqa,sqn,sqc⟩,⟨dba,dbn,dbc⟩,⟨dqa,dqn,dqc⟩,⟨fla,fln,flc⟩,⟨caa,can,cac⟩,⟨some ⟨g,0,none⟩,spn,spc⟩⟩ { m with sp:=m.sp.set 0 { s with tb:=t' } })/\Hid (zD wr w.heap.size 40 [.slice fa fn fc,I6 m.hand,.slice sa sn sc,.slice sba sbn sbc,.slice sqa sqn sqc,.slice dba dbn dbc,.slice dqa dqn dqc,.slice fla fln flc,I6 m.cnt,.slice caa can cac,.slice (some ⟨g,0,none⟩) spn spc])/\Hid (Box wr (w.heap.size+1) [I6 at1])/\Hid (zD wr (w.heap.size+1+1) 40 zM)/\Hid (∀w0,zc w0 w->w0.heap.size<=base->zc w0 wr))
  case atStart=>exact⟨0,s.tb,nZ _,by omega,rfl,B9,X0,A0,R0,HG0⟩
  obtain⟨i,t',hi8,hgi,rfl,BW,XW,AW,RW,GW⟩:=hrel
  by_cases hlt:i<8
  ·have hltz:(i:Int)<8:=by omega
   obtain⟨hs,hv1,-⟩:=q.tab_at hlt;have HVK:Hid (q.tab[i]? =some (hs.x)):=hv1;obtain⟨h,HH⟩:∃h,Hid (s.tb[i]? =some h):=⟨_,gE (by rw[HT.tlen];exact hlt)⟩
   have HRH:Hid (zr enE wr (hs.x) h):=((HT.row i _ h HVK HH).out BW.out.out).now;have HHN:Hid (hs.n=h.length):=HRH.n;have hn8:hs.n<=8:=by rw[HHN.out];exact HH8 h (mG HH)
   have hp:=jT hs.n at1 (w.heap.size+1) wr AW (by omega)
   clear hv1
   go_wp2_with (refine J4 rfl (.tmp 151) (.tmp 152) rfl q.tab rfl i rfl hlt HVK.out ?_)
   refine hp.mono ?_;rintro r w' ⟨⟨z,rfl,hz⟩,hw'⟩;rw[hw'];clear hw' w' hp
   rcases hz with⟨hz0,rfl⟩|⟨k,rfl,hk⟩
   ·clear hz0;go_wp2
    go_roundg (8 -(i+1))
    case measure=>omega
    exact⟨i+1,t',by omega,by omega,by go_num,BW,XW,AW,RW,GW⟩
   obtain⟨e,HE⟩:∃e,Hid (h[k]? =some e):=⟨_,gE (by rw[<-HHN.out];exact hk)⟩
   have hkz:(k:Int)< (hs.n:Int):=by omega
   go_wp2_with (at_builtin;refine zw (E:=enE) rfl (.tmp 162) (.tmp 163) rfl wr.heap.size _ [] rfl (zb.made enE wr) _ h rfl (HRH.grew (za _ _)) ?qb ?qc ?_)
   case qb=>
    show(0+h.length)*24<=_
    have:=HHN.out;omega
   case qc=>exact bS (za _ _)
   intro vn Wn own grn;have gn:zc wr Wn:=qo (za _ _) grn (fun g' hg'=>by cases hg';exact nR _)
   obtain⟨ge,cn,hvn⟩:=own.formS (by rw[<-HHN.out];omega)
   rw[<-HHN.out]at hvn;subst hvn;have ON:Hid (zb enE wr.heap.size Wn (.slice (some ⟨ge,0,none⟩) hs.n cn) h):=own;have GN:Hid (zc wr Wn):=gn;have HGE:Hid (wr.heap.size<=ge):=show _<=_ from(own.lt ge rfl).1
   clear own grn gn;have d:Wn.cell? ⟨ge,k*3+2,none⟩=some (.bool e.wr):=by
    have:=ON.one HE 2 _ rfl;rw[zI,Addr.add_lit,zA]at this;exact this
   have xf:=ON.unfrozen rfl;obtain⟨ow,gr,sz⟩:=ON.cell (k:=k) (o:=2) rfl HE (y:={ e with wr:=!e.wr }) (u:= .bool (!e.wr)) rfl (by decide)
   have O2:Hid (zb enE wr.heap.size (Wn.setCell ⟨ge,k*3+2,none⟩ (.bool (!e.wr))) (.slice (some ⟨ge,0,none⟩) hs.n cn) (h.set k { e with wr:=!e.wr })):=ow;have G2:Hid (zc wr (Wn.setCell ⟨ge,k*3+2,none⟩ (.bool (!e.wr)))):=show zc _ _ from ze GN gr HGE.out
   clear ow gr sz;go_upto_region 45 with fail;obtain⟨W2,HW2⟩:∃W2,Hid (Wn.setCell ⟨ge,k*3+2,none⟩ (.bool (!e.wr))=W2):=⟨_,rfl⟩;rw[HW2.out]at O2 G2⊢;clear d xf;have B2:=dD (BW.grew G2);obtain⟨ys,YO,yl,yall⟩:=B2.sp;have YL:Hid (ys.length=(m.sp.set 0 { s with tb:=t' }).length):=yl;have YALL:Hid (∀(i:Nat) x s1,ys[i]? =some x->(m.sp.set 0 { s with tb:=t' })[i]? =some s1->x.live=s1.live/\zb arE base W2 x.ar.v s1.ars/\zdL wb ht W2 x.tab s1.tb):=show∀i,_ from yall
   have YOW:Hid (zb jQ base W2 (.slice (some ⟨g,0,none⟩) spn spc) ys):=YO;clear yl yall;have HS1:Hid ((m.sp.set 0 { s with tb:=t' })[0]? =some { s with tb:=t' }):=show _=_ from sF (gS.1 HS).1
   have hy0:0<ys.length:=by rw[YL.out];exact(gS.1 HS1).1
   obtain⟨yq,HYQ⟩:∃yq,Hid (ys[0]? =some yq):=⟨ys[0],show _=_ from gE hy0⟩
   clear hy0;obtain⟨os,-,hos⟩:=yq.tab_at hlt;have d:W2.cell? ⟨g,2+i,none⟩=some (os.x):=by
    have:=YOW.one HYQ (2+i) _ hos;rw[zI,Addr.add_lit]at this
    simpa using this
   have xf:=YOW.unfrozen rfl;obtain⟨ow,gr,sz⟩:=YOW.cell (k:=0) (o:=2+i) rfl HYQ (y:=yq.setT i ⟨some ⟨ge,0,none⟩,hs.n,cn⟩) (u:= .slice (some ⟨ge,0,none⟩) hs.n cn) (yq.setT_enc hlt _) (by show 2+i<10;omega)
   obtain⟨cs,hc⟩:=YOW.obj (g:=g) rfl;have hgl:=(YOW.lt g rfl).1;have B3:Hid (BdM wb base hi ht (W2.setCell ⟨g,2+i,none⟩ (.slice (some ⟨ge,0,none⟩) hs.n cn)) ⟨⟨fa,fn,fc⟩,⟨sa,sn,sc⟩,⟨sba,sbn,sbc⟩,⟨sqa,sqn,sqc⟩,⟨dba,dbn,dbc⟩,⟨dqa,dqn,dqc⟩,⟨fla,fln,flc⟩,⟨caa,can,cac⟩,⟨some ⟨g,0,none⟩,spn,spc⟩⟩ { m with sp:=m.sp.set 0 { s with tb:=t'.set i (h.set k { e with wr:=!e.wr }) } }):=dD<|by
    have hoff:0*jQ.k+(2+i)=2+i:=by omega
    rw[hoff]at ow gr;have:=B2.setSp1 (k:=0) (t:={ s with tb:=t'.set i (h.set k { e with wr:=!e.wr }) }) rfl gr YL YALL HYQ HS1 ow (by
     obtain⟨a1,a2,a3⟩:=YALL.out 0 yq _ HYQ HS1.out;obtain⟨b1,b2,b3⟩:=yq.setT_tab hlt ⟨some ⟨ge,0,none⟩,hs.n,cn⟩;refine⟨by rw[b2];exact a1,by rw[b3];exact a2.kind gr hc (by decide),?_⟩
     rw[b1];exact(a3.kind gr hc (by decide)).set ((O2.kind gr hc (by decide)).base (nT BW.hts BW.out.out.size)))
    have hss:({ m with sp:=(m.sp.set 0 { s with tb:=t' }).set 0 { s with tb:=t'.set i (h.set k { e with wr:=!e.wr }) } }:Ma)={ m with sp:=m.sp.set 0 { s with tb:=t'.set i (h.set k { e with wr:=!e.wr }) } }:=by rw[List.set_set]
    rw[<-hss];exact this
   have X3:Hid (zD (W2.setCell ⟨g,2+i,none⟩ (.slice (some ⟨ge,0,none⟩) hs.n cn)) w.heap.size 40 [.slice fa fn fc,I6 m.hand,.slice sa sn sc,.slice sba sbn sbc,.slice sqa sqn sqc,.slice dba dbn dbc,.slice dqa dqn dqc,.slice fla fln flc,I6 m.cnt,.slice caa can cac,.slice (some ⟨g,0,none⟩) spn spc]):=dD<|by
    have hoff:0*jQ.k+(2+i)=2+i:=by omega
    rw[hoff]at gr;exact(XW.grew G2).kind gr hc (by decide)
   have R3:Hid (zD (W2.setCell ⟨g,2+i,none⟩ (.slice (some ⟨ge,0,none⟩) hs.n cn)) (w.heap.size+1+1) 40 zM):=dD<|by
    have hoff:0*jQ.k+(2+i)=2+i:=by omega
    rw[hoff]at gr;exact(RW.grew G2).kind gr hc (by decide)
   have hga:g<ht:=B2.lo g (.inr (.inr (.inr (.inr rfl))));have hht:=B2.hts;have A3:Hid (Box (W2.setCell ⟨g,2+i,none⟩ (.slice (some ⟨ge,0,none⟩) hs.n cn)) (w.heap.size+1) [I6 at1]):=dD<|(AW.grew G2).other (by have:=HBW.out;simp;omega) _
   have GW3:Hid (∀w0,zc w0 w->w0.heap.size<=base->zc w0 (W2.setCell ⟨g,2+i,none⟩ (.slice (some ⟨ge,0,none⟩) hs.n cn))):=dD<|fun w0 q1 q2=>zC ((GW w0 q1 q2).trans G2) (nT q2 hgl) _
   clear ow gr sz cs hc hgl hga hht;have x10:=(XW.grew G2).box.c 10 rfl;go_upto_region 46 with fail;obtain⟨W3,HW3⟩:∃W3,Hid (W2.setCell ⟨g,2+i,none⟩ (.slice (some ⟨ge,0,none⟩) hs.n cn)=W3):=⟨_,rfl⟩;rw[HW3.out]at B3 X3 A3 R3 GW3⊢;clear d xf x10;go_wp2
   go_roundg (8 -(i+1))
   case measure=>omega
   exact⟨i+1,_,by omega,by omega,by go_num,B3,X3,A3,R3,GW3⟩
  have hltz:¬(i:Int)<8:=by omega
  go_wp2
  go_meet
  exact⟨rfl,rfl,⟨⟨fa,fn,fc⟩,⟨sa,sn,sc⟩,⟨sba,sbn,sbc⟩,⟨sqa,sqn,sqc⟩,⟨dba,dbn,dbc⟩,⟨dqa,dqn,dqc⟩,⟨fla,fln,flc⟩,⟨caa,can,cac⟩,⟨some ⟨g,0,none⟩,spn,spc⟩⟩,{ m with sp:=m.sp.set 0 { s with tb:=t' } },XW,RW,BW,rfl,zdi HS (.inr rfl),GW⟩
 by_cases h10:wh=10
 ·have e10:(wh == 10)=true:=by simp[h10]
  have e1:(wh == 1)=false:=by simp[h1]
  have e2:(wh == 2)=false:=by simp[h2]
  have e3:(wh == 3)=false:=by simp[h3]
  have e4:(wh == 4)=false:=by simp[h4]
  have e5:(wh == 5)=false:=by simp[h5]
  have e6:(wh == 6)=false:=by simp[h6]
  have e7:(wh == 7)=false:=by simp[h7]
  have e8:(wh == 8)=false:=by simp[h8]
  have e9:(wh == 9)=false:=by simp[h9]
  clear h1;clear h2;clear h3;clear h4;clear h5;clear h6;clear h7;clear h8;clear h9;clear h10;have x0:=X0.box.c 10 rfl;obtain⟨k,hk0⟩:∃k:Nat,k=0:=⟨0,rfl⟩;have hk:k<spn:=by have:=HL.out;have:=HNsp.out;omega
  obtain⟨xs,OWN,xl,xall⟩:=B0.sp;have XLL:Hid (xs.length=m.sp.length):=xl;have XALL:Hid (∀(i:Nat) x s,xs[i]? =some x->m.sp[i]? =some s->x.live=s.live/\zb arE base W0 x.ar.v s.ars/\zdL wb ht W0 x.tab s.tb):=show∀i,_ from xall
  clear xl xall;obtain⟨q,HQ⟩:∃q,Hid (xs[k]? =some q):=⟨_,gE (by have:=HNsp.out;have:=XLL.out;omega)⟩
  have hkz:(k:Int)< (spn:Int):=by omega
  obtain⟨g,cc,hfe⟩:=OWN.formS (by have:=HNsp.out;have:=XLL.out;omega)
  simp only[vJ]at hfe;obtain⟨rfl,-,-⟩:=hfe;have RW:Hid (zb jQ base W0 (.slice (some ⟨g,0,none⟩) spn spc) xs):=OWN;have d:W0.cell? ⟨g,k*10+1,none⟩=some (q.ar.x):=by
   have:=RW.one HQ 1 _ rfl;rw[zI,Addr.add_lit,zA]at this;exact this
  have xf:=RW.unfrozen rfl;obtain⟨ow,gr,sz⟩:=RW.cell (k:=k) (o:=1) rfl HQ (y:={ q with ar:=zj }) (u:=eS) rfl (by decide)
  obtain⟨cs,hc⟩:=RW.obj (g:=g) rfl;have hgl:=(RW.lt g rfl).1;obtain⟨s,HS⟩:∃s,Hid (m.sp[k]? =some s):=⟨_,gE (by have:=HNsp.out;omega)⟩
  obtain⟨a1,a2,a3⟩:=XALL.out k q s HQ HS.out;have S1:Hid (BS wb base hi ht m w (W0.setCell ⟨g,k*10+1,none⟩ (eS))):=BS.row (m1:={ m with sp:=m.sp.set k { s with ars:=[] } }) X0.out R0.out HG0.out gr hc (by decide) hgl rfl rfl (B0.setSp1 rfl gr XLL XALL HQ HS ow ⟨a1,zb.nil _ _ _,a3.kind gr hc (by decide)⟩) rfl (zdi HS (.inl rfl))
  clear ow gr sz cs hc hgl;subst hk0;have hoff:0*10+1=1:=by omega
  rw[hoff]at d S1;go_wp2
  go_meet
  exact⟨rfl,rfl,S1⟩
 by_cases h11:wh=11
 ·have e11:(wh == 11)=true:=by simp[h11]
  have e1:(wh == 1)=false:=by simp[h1]
  have e2:(wh == 2)=false:=by simp[h2]
  have e3:(wh == 3)=false:=by simp[h3]
  have e4:(wh == 4)=false:=by simp[h4]
  have e5:(wh == 5)=false:=by simp[h5]
  have e6:(wh == 6)=false:=by simp[h6]
  have e7:(wh == 7)=false:=by simp[h7]
  have e8:(wh == 8)=false:=by simp[h8]
  have e9:(wh == 9)=false:=by simp[h9]
  have e10:(wh == 10)=false:=by simp[h10]
  clear h1;clear h2;clear h3;clear h4;clear h5;clear h6;clear h7;clear h8;clear h9;clear h10;clear h11;have x0:=X0.box.c 0 rfl;have hp:=jT fn at1 (w.heap.size+1) W0 A0 (by have:=HL.out;have:=HNf.out;omega)
  go_wp2_with fail;refine hp.mono ?_;rintro r w' ⟨⟨z,rfl,hz⟩,hw'⟩;rw[hw'];clear hw' w' hp
  rcases hz with⟨hz0,rfl⟩|⟨k,rfl,hk⟩
  ·clear hz0 x0;go_wp2
   go_meet
   exact⟨rfl,rfl,⟨⟨fa,fn,fc⟩,⟨sa,sn,sc⟩,⟨sba,sbn,sbc⟩,⟨sqa,sqn,sqc⟩,⟨dba,dbn,dbc⟩,⟨dqa,dqn,dqc⟩,⟨fla,fln,flc⟩,⟨caa,can,cac⟩,⟨spa,spn,spc⟩⟩,m,X0,R0,B0,rfl,jb rfl,HG0⟩
  have OWN:=B0.fs;obtain⟨q,HQ⟩:∃q,Hid (m.fs[k]? =some q):=⟨_,gE (by have:=HNf.out;omega)⟩
  have hkz:(k:Int)< (fn:Int):=by omega
  obtain⟨g,cc,hfe⟩:=OWN.formS (by have:=HNf.out;omega)
  simp only[vJ]at hfe;obtain⟨rfl,-,-⟩:=hfe;have RW:Hid (zb zaf base W0 (.slice (some ⟨g,0,none⟩) fn fc) m.fs):=OWN;have d:W0.cell? ⟨g,k*13+11,none⟩=some (I6 q.f):=by
   have:=RW.one HQ 11 _ rfl;rw[zI,Addr.add_lit,zA]at this;exact this
  have xf:=RW.unfrozen rfl;obtain⟨ow,gr,sz⟩:=RW.cell (k:=k) (o:=11) rfl HQ (y:={ q with f:=n }) (u:=I6 n) rfl (by decide)
  obtain⟨cs,hc⟩:=RW.obj (g:=g) rfl;have hgl:=(RW.lt g rfl).1;have S1:Hid (BS wb base hi ht m w (W0.setCell ⟨g,k*13+11,none⟩ (I6 n))):=BS.row (m1:={ m with fs:=m.fs.set k { q with f:=n } }) X0.out R0.out HG0.out gr hc (by decide) hgl rfl rfl (B0.setF rfl gr ow) rfl (jb rfl)
  clear ow gr sz cs hc hgl;go_wp2
  go_meet
  exact⟨rfl,rfl,S1⟩
 by_cases h12:wh=12
 ·have e12:(wh == 12)=true:=by simp[h12]
  have e1:(wh == 1)=false:=by simp[h1]
  have e2:(wh == 2)=false:=by simp[h2]
  have e3:(wh == 3)=false:=by simp[h3]
  have e4:(wh == 4)=false:=by simp[h4]
  have e5:(wh == 5)=false:=by simp[h5]
  have e6:(wh == 6)=false:=by simp[h6]
  have e7:(wh == 7)=false:=by simp[h7]
  have e8:(wh == 8)=false:=by simp[h8]
  have e9:(wh == 9)=false:=by simp[h9]
  have e10:(wh == 10)=false:=by simp[h10]
  have e11:(wh == 11)=false:=by simp[h11]
  clear h1;clear h2;clear h3;clear h4;clear h5;clear h6;clear h7;clear h8;clear h9;clear h10;clear h11;clear h12;have x0:=X0.box.c 7 rfl;have hp:=jT fln at1 (w.heap.size+1) W0 A0 (by have:=HL.out;have:=HNfl.out;omega)
  go_wp2_with fail;refine hp.mono ?_;rintro r w' ⟨⟨z,rfl,hz⟩,hw'⟩;rw[hw'];clear hw' w' hp
  rcases hz with⟨hz0,rfl⟩|⟨k,rfl,hk⟩
  ·clear hz0 x0;go_wp2
   go_meet
   exact⟨rfl,rfl,⟨⟨fa,fn,fc⟩,⟨sa,sn,sc⟩,⟨sba,sbn,sbc⟩,⟨sqa,sqn,sqc⟩,⟨dba,dbn,dbc⟩,⟨dqa,dqn,dqc⟩,⟨fla,fln,flc⟩,⟨caa,can,cac⟩,⟨spa,spn,spc⟩⟩,m,X0,R0,B0,rfl,jb rfl,HG0⟩
  obtain⟨xs,OWN,xl,xall⟩:=B0.fl;have XLL:Hid (xs.length=m.fl.length):=xl;have XALL:Hid (∀(i:Nat) x f,xs[i]? =some x->m.fl[i]? =some f->x.size=f.size/\zb blE hi W0 x.v f.bl):=show∀i,_ from xall
  clear xl xall;obtain⟨q,HQ⟩:∃q,Hid (xs[k]? =some q):=⟨_,gE (by have:=HNfl.out;have:=XLL.out;omega)⟩
  have hkz:(k:Int)< (fln:Int):=by omega
  obtain⟨g,cc,hfe⟩:=OWN.formS (by have:=HNfl.out;have:=XLL.out;omega)
  simp only[vJ]at hfe;obtain⟨rfl,-,-⟩:=hfe;have RW:Hid (zb fvE base W0 (.slice (some ⟨g,0,none⟩) fln flc) xs):=OWN;have d:W0.cell? ⟨g,k*2+0,none⟩=some (I6 q.size):=by
   have:=RW.one HQ 0 _ rfl;rw[zI,Addr.add_lit,zA]at this;exact this
  have xf:=RW.unfrozen rfl;obtain⟨ow,gr,sz⟩:=RW.cell (k:=k) (o:=0) rfl HQ (y:={ q with size:=n }) (u:=I6 n) rfl (by decide)
  obtain⟨cs,hc⟩:=RW.obj (g:=g) rfl;have hgl:=(RW.lt g rfl).1;obtain⟨s,HS⟩:∃s,Hid (m.fl[k]? =some s):=⟨_,gE (by have:=HNfl.out;omega)⟩
  have S1:Hid (BS wb base hi ht m w (W0.setCell ⟨g,k*2+0,none⟩ (I6 n))):=BS.row (m1:={ m with fl:=m.fl.set k { s with size:=n } }) X0.out R0.out HG0.out gr hc (by decide) hgl rfl rfl (B0.setFl rfl gr ⟨_,ow,by simp[XLL.out],zit (P:=fun x f=>x.size=f.size/\zb blE hi (W0.setCell ⟨g,k*2+0,none⟩ (I6 n)) x.v f.bl) HQ HS (fun i x f hx hf=>⟨(XALL i x f hx hf).1,(XALL i x f hx hf).2.kind gr hc (by decide)⟩) ⟨rfl,(XALL k q s HQ HS).2.kind gr hc (by decide)⟩⟩) (by simp) (jb rfl)
  clear ow gr sz cs hc hgl;have hoff:k*2+0=k*2:=by omega
  rw[hoff]at d S1;go_wp2
  go_meet
  exact⟨rfl,rfl,S1⟩
 have e1:(wh == 1)=false:=by simp[h1]
 have e2:(wh == 2)=false:=by simp[h2]
 have e3:(wh == 3)=false:=by simp[h3]
 have e4:(wh == 4)=false:=by simp[h4]
 have e5:(wh == 5)=false:=by simp[h5]
 have e6:(wh == 6)=false:=by simp[h6]
 have e7:(wh == 7)=false:=by simp[h7]
 have e8:(wh == 8)=false:=by simp[h8]
 have e9:(wh == 9)=false:=by simp[h9]
 have e10:(wh == 10)=false:=by simp[h10]
 have e11:(wh == 11)=false:=by simp[h11]
 have e12:(wh == 12)=false:=by simp[h12]
 go_wp2
 go_meet
 exact⟨rfl,rfl,⟨⟨fa,fn,fc⟩,⟨sa,sn,sc⟩,⟨sba,sbn,sbc⟩,⟨sqa,sqn,sqc⟩,⟨dba,dbn,dbc⟩,⟨dqa,dqn,dqc⟩,⟨fla,fln,flc⟩,⟨caa,can,cac⟩,⟨spa,spn,spc⟩⟩,m,X0,R0,B0,rfl,jb rfl,HG0⟩
section
variable{α:Type} {E:Elt α}
theorem zgJ (m:List α):∀(l:List α) (off:Nat),off+m.length<=l.length->splice (l.flatMap E.enc) (off*E.k) (m.flatMap E.enc)=(l.take off++(m++l.drop (off+m.length))).flatMap E.enc:=fun l off h=>by
 have h1:∀(l:List α) (j:Nat),j<=l.length->(l.flatMap E.enc).take (j*E.k)=(l.take j).flatMap E.enc/\(l.flatMap E.enc).drop (j*E.k)=(l.drop j).flatMap E.enc:=fun l j hj=>by
  have he:l.flatMap E.enc=(l.take j).flatMap E.enc++(l.drop j).flatMap E.enc:=by rw[<-List.flatMap_append,List.take_append_drop]
  have hl:((l.take j).flatMap E.enc).length=j*E.k:=by rw[jC E,List.length_take,Nat.min_eq_left hj]
  constructor
  ·rw[he,<-hl,List.take_left]
  rw[he,<-hl,List.drop_left]
 unfold splice;rw[jC E m,<-Nat.add_mul,(h1 l off (by omega)).1,(h1 l (off+m.length) h).2,List.flatMap_append,List.flatMap_append]
theorem zdk (ty:TypeId) (base:Nat) (v:Value) (l:List α) (hown:zb E base w v l) (g:Nat) (hg:v.ownBlock=some g) (off dLen dCap:Nat) (ad:Addr) (sLen sCap:Nat)
  (m:List α) (hm:m.length=Nat.min sLen dLen) (hsrc:jp w ad (m.flatMap E.enc)) (hfit:off+m.length<=l.length):
  ∃w',(Builtin.copy_ #[E.st,E.st] ty #[.slice (some ⟨g,off*E.k,none⟩) dLen dCap,.slice (some ad) sLen sCap]).run prog w= .ok (goInt m.length) w'/\zb E base w' v (l.take off++(m++l.drop (off+m.length)))/\w.grownBy w' (some g)/\w'.heap.size=w.heap.size:=by
 obtain⟨i0,hi,_,hz1,_⟩:=info_parts E.info;have hcl:(m.flatMap E.enc).length=m.length*E.k:=jC E m;have hfit':off*E.k+(m.flatMap E.enc).length<=l.length*E.k:=by
  rw[hcl,<-Nat.add_mul];exact Nat.mul_le_mul_right _ hfit
 obtain⟨w',hr,h2,h3,h4⟩:=qQ (P:=prog) hown.1 hg (off*E.k) (m.flatMap E.enc) hfit' (qU E.one m);have hl:=run_loadCells_list (P:=prog) w ad (m.flatMap E.enc) hsrc;rw[hcl]at hl;rw[zgJ m l off hfit]at h2;have hlen:(l.take off++(m++l.drop (off+m.length))).length=l.length:=by simp;omega
 refine⟨w',?_,⟨by rw[hlen];exact h2,by rw[hlen];exact hown.2⟩,h3,h4⟩
 simp[Builtin.copy_,run_underlying E.und,Builtin.lenOf,Builtin.firstCells,sizeOf,typeInfo,hi,hz1,<-hm,hl,hr]
theorem zbi {rest:List Oper} {a:Act} (hgd:o.guard=none) (d s:Operand) (ho:o.op= .call { callee:= .builtin .copy,args:=#[d,s],argTypes:=#[E.st,E.st] })
  (base:Nat) (v:Value) (l:List α) (hown:zb E base w v l) (g:Nat) (hg:v.ownBlock=some g) (off dLen dCap:Nat) (dp:Addr) (hd:a.eval d= .slice (some dp) dLen dCap) (hdp:dp=⟨g,off*E.k,none⟩) (ad:Addr) (sLen sCap:Nat) (hs:a.eval s= .slice (some ad) sLen sCap)
  (m:List α) (hm:m.length=Nat.min sLen dLen) (hsrc:jp w ad (m.flatMap E.enc)) (hfit:off+m.length<=l.length)
  (h:∀w',zb E base w' v (l.take off++(m++l.drop (off+m.length)))->w.grownBy w' (some g)->w'.heap.size=w.heap.size->wpList prog ops Q rest (a.put o.dst (goInt m.length)) w'):wpList prog ops Q (o :: rest) a w:=by
 subst hdp;refine wpList_plain hgd fun K hK=>?_
 obtain⟨w',hrun,h2,h3,h4⟩:=zdk o.type base v l hown g hg off dLen dCap ad sLen sCap m hm hsrc hfit;unfold Oper.wp
 simp[execOp,ho,resolve,invoke,builtin,hd,hs,hrun,Result.andThen]
 exact hK _ _ (h w' h2 h3 h4)
end
theorem zl9:Tryz.prog.underlying 50=some (.array (Tryz.prog.arrayLen 50) (Tryz.prog.elem 50)):=by kernel_rfl
theorem zma:Tryz.prog.arrayLen 50=8:=by kernel_rfl
theorem zmb:Tryz.prog.elem 50=5:=by kernel_rfl
theorem zi5 (B:Nat) (w:World):(Instr.sliceAt 50 (.pointer (some ⟨B,0,none⟩)) (some (I6 0)) none none).run prog w= .ok (.slice (some ⟨B,0,none⟩) 8 8) w:=by
 obtain⟨i5,hi5,hz0,hz1,hz2⟩:=info_parts zlJ;rw[run_sliceAt_array_l w 50 ⟨B,0,none⟩ zl9 .i64 0 (by omega) (by rw[zma];omega),zma,zmb]
 simp[sizeOf,typeInfo,hi5,hz1,slicedAt,Result.andThen,Addr.add_lit]
theorem zfq (l:List Int) (n:Nat) (w:World) (hl:l.length=8) (hn:n<=8):
  Calls prog 61 #[.agg (pgc l).toArray,I6 0,I6 (n:Int)] w fun e w'=>∃v,e= .returned v/\zb byE w.heap.size w' v (l.take n)/\zc w w':=by
 have HL:Hid (l.length=8):=hl;obtain⟨W0,hW0⟩:∃W0,w.alloc (.cells (pgc l).toArray 50)=W0:=⟨_,rfl⟩;have G0:=gA hW0
 have X0:=xA hW0
 have HS0:=sA hW0
 have HW0:Hid (_=W0):=hW0;have hd:decide ((n:Int)<0)=false:=decide_eq_false (by omega)
 have hd2:decide ((8:Int)< (n:Int))=false:=decide_eq_false (by omega)
 clear hW0 hl
 go_enter func61,ntmps61
 go_upto_region 3 with fail;rw[HW0.out];clear hd hd2
 go_wp2_with (refine ZF byE rfl (.tmp 20) rfl n rfl (by show n*1<=_;omega) ?_)
 intro C own;obtain⟨W1,hW1⟩:∃W1,W0.alloc (.cells C byE.ty)=W1:=⟨_,rfl⟩;have g1:zc W0 W1:=by rw[<-hW1];exact za _ _
 have O1:Hid (zb byE (w.heap.size+1) W1 (.slice (some ⟨w.heap.size+1,0,none⟩) n n) (List.replicate n 0)):=dD<|by
  rw[hW1,HS0.out]at own;exact own
 have X1:=dD (X0.grew g1);have G1:=dD (G0.trans g1);rw[hW1,HS0.out];clear hW1 own g1;have hsl:=zi5 w.heap.size W1;have HMT:Hid ((l.take n).length=n):=show _=_ by rw[List.length_take,HL.out];omega
 have HSC:Hid (jp W1 ⟨w.heap.size,0,none⟩ ((l.take n).flatMap byE.enc)):=dD<|fun j u hu=>by
  have he:(l.take n).flatMap byE.enc=pgc (l.take n):=by
   unfold pgc;rw[List.flatMap_def]
   induction(l.take n)with
   | nil=>rfl
   | cons x xs ih=>simp only[mP,List.flatten_cons,ih];rfl
  rw[he]at hu;have h2:(pgc l)[j]? =some u:=by
   unfold pgc at hu⊢;rw[List.getElem?_map]at hu⊢;rw[List.getElem?_take]at hu
   split at hu
   ·exact hu
   cases hu
  have:=X1.c j h2;rw[Addr.add_lit,zA];exact this
 go_wp2_with (refine zbi (E:=byE) rfl (.tmp 22) (.tmp 24) rfl (w.heap.size+1) _ (List.replicate n 0) O1 (w.heap.size+1) rfl 0 n n ⟨w.heap.size+1,0,none⟩ rfl rfl ⟨w.heap.size,0,none⟩ 8 8 rfl (l.take n) ?qm HSC.out ?qf ?_)
 trace_state
 case qm=>
  rw[HMT.out]
  show n=min 8 n
  omega
 case qf=>
  rw[HMT.out,lR];omega
 intro W2 own2 g2 _;have HRW:Hid (zb byE w.heap.size W2 (.slice (some ⟨w.heap.size+1,0,none⟩) n n) (l.take n)):=dD<|by
  rw[HL.out,show n - min n 8=0 by omega,List.replicate_zero,List.append_nil]at own2
  exact own2.base (Nat.le_succ _)
 have HG2:Hid (zc w W2):=dD<|ze G1 g2 (by omega)
 clear own2 g2;go_wp2;refine bodyPost_ret (results_tmp rfl _ _ _) rfl ⟨.slice (some ⟨w.heap.size+1,0,none⟩) n n,rfl,HRW,HG2⟩
theorem zi6 (i:Nat) (hi:i<8) {v:Value} (hv:vs[i]? =some v):(Instr.index 50 (.agg vs.toArray) (I6 (i:Int))).run prog w= .ok v w:=by
 have ha:(isAgg 5).run prog w= .ok false w:=by
  unfold isAgg;rw[Sem.run_bind,run_underlying underlying5 w];rfl
 have hs:(Go.sizeOf 5).run prog w= .ok 1 w:=by
  obtain⟨i0,h1,h2⟩:∃i0,Tryz.prog.info? 5=some i0/\i0.size=1:=by
   have:(Tryz.prog.info? 5).map (·.size)=some 1:=by kernel_rfl
   cases hq:Tryz.prog.info? 5 with
   | none=>rw[hq]at this;cases this
   | some i0=>rw[hq]at this;exact⟨i0,rfl,by simpa using this⟩
  simp[Go.sizeOf,typeInfo,h1,h2]
 have hlt:(0:Int)<=(i:Int)/\(i:Int)< ((8:Nat):Int):=by omega
 simp only[Instr.index,asIntOf,Sem.run_bind,Sem.run_pure,rA,run_underlying underlying50];rw[if_pos hlt];simp only[Sem.run_bind,hs,rA,part,ha,Nat.mul_one,tN]
 simp[hv]
theorem zki {rest:List Oper} {a:Act} (hgd:o.guard=none) (x ix:Operand) (ho:o.op= .index 50 x ix) (vs:List Value) (hx:a.eval x= .agg vs.toArray) (i:Nat) (hix:a.eval ix=I6 (i:Int)) (hi:i<8) {v:Value} (hv:vs[i]? =some v)
  (h:wpList prog ops Q rest (a.put o.dst v) w):wpList prog ops Q (o :: rest) a w:=by
 refine wpList_plain hgd fun K hK=>?_
 unfold Oper.wp execOp;simp only[ho,hx,hix,Sem.run_bind,Sem.run_pure,rA,zi6 i hi hv];exact hK _ _ h
def byD (m:Ma) (fi k:Nat):Int:=(qZ m (fi:Int) ((k / 8:Nat):Int)).getD (k % 8) 0
def Byt (m:Ma) (file:Int) (w:World) (e:Ending) (w':World):Prop:=∃u,e= .returned (.tuple #[u,I6 (ZV m file)])/\zb byE w.heap.size w' u (Jb m file)
theorem zlh (h:maW m=0) {f:Fl} (hf:m.fl[fi]? =some f):(0<=f.size/\f.size<=96)/\(f.bl.length:Int)=Ja f.size:=by
 have h1:=Qt h;unfold Jm at h1;rw[zE]at h1;have h2:=((jx _ _).1 (h1 (stW m.fl m.cnt) (by simp))).2.1 f (mG hf)
 exact⟨h2.1,h2.2.1⟩
theorem zdm (V:MaV) (m:Ma) (file:Int) (w:World) (hm:zH w V m):
  Calls prog 14 #[.agg (mL V m).toArray,I6 file] w fun e w'=>Byt m file w e w'/\zc w w':=by
 have HM:Hid (zH w V m):=hm;have HWR:Hid (∀W,zc w W->Calls prog 10 #[.agg (mL V m).toArray] W fun e w'=>e= .returned (I6 (maW m))/\zc W w'):=show∀W,_ from fun W hW=>QH V m W (HM.grew hW)
 have HCO:Hid (maW m=0->∀W (fi ix:Nat) f bk,zc w W->m.fl[fi]? =some f->f.bl[ix]? =some bk->ix<=1000->Calls prog 62 #[.agg (mL V m).toArray,I6 (fi:Int),I6 (ix:Int)] W fun e w'=>e= .returned (.agg (pgc (qZ m fi ix)).toArray)/\(qZ m fi ix).length=8/\zc W w'):=dD<|fun h0 W fi ix f bk hW hf hb hi=>zah V m fi ix f bk W (HM.grew hW) (fun c hc _=>zka h0 c hc) hf hb hi
 obtain⟨-,-,-,-,-,-,n7,-,-⟩:=hm.ns;obtain⟨_,_,hfe,_,hfr⟩:=qL.rows hm.fl;have HFL:Hid (jZ w V.fl.a m.fl):=dD<|by
  simp only[vJ]at hfe;rw[hfe.1];exact hfr
 obtain⟨⟨fa,fn,fc⟩,⟨sa,sn,sc⟩,⟨sba,sbn,sbc⟩,⟨sqa,sqn,sqc⟩,vdb,vdq,⟨fla,fln,flc⟩,⟨caa,can,cac⟩,⟨spa,spn,spc⟩⟩:=V;dsimp only[mL]at HWR HCO HFL n7⊢;have HN7:Hid (m.fl.length=fln):=n7.symm;obtain⟨E,HE⟩:∃E,Hid (maW m=E):=⟨_,rfl⟩;rw[HE.out]at HWR HCO;clear hm n7 hfe hfr;obtain⟨W0,hW0⟩:∃W0,w.alloc (.cells #[.slice fa fn fc,I6 m.hand,.slice sa sn sc,.slice sba sbn sbc,.slice sqa sqn sqc,vdb.x,vdq.x,.slice fla fln flc,I6 m.cnt,.slice caa can cac,.slice spa spn spc] 40)=W0:=⟨_,rfl⟩;have G0:=gA hW0
 have X0:=xA hW0
 have HS0:=sA hW0
 have HW0:Hid (_=W0):=hW0;clear hW0
 go_enter func14,ntmps14
 go_upto_region 1 with fail;rw[HW0.out];obtain⟨x0,x1,x2,x3,x4,x5,x6,x7,x8,x9,x10⟩:=X0.c11;have hc:=HWR.out W0 G0.out;go_wp2_with fail;refine hc.mono ?_;clear hc x0 x1 x2 x3 x4 x5 x6 x7 x8 x9 x10;rintro r W1 ⟨rfl,g1⟩;have K1:Hid (zc W0 W1):=g1;clear g1
 by_cases hz:E=0
 rotate_left
 ·have hze:(E != 0)=true:=by simp[hz]
  have HBE:Hid (ZV m file=E):=dD<|by unfold ZV;rw[HE.out,if_pos hz]
  have HR:Hid (Byt m file w (.returned (.tuple #[eS,I6 E])) W1):=⟨_,by rw[HBE.out],by
   unfold Jb;rw[if_neg (by rw[HBE.out];exact hz)]
   exact zb.nil _ _ _⟩
  clear hz;go_wp2
  go_ret2
  exact⟨HR,G0.trans K1⟩
 have hze:(E != 0)=false:=by simp[hz]
 have HM0:Hid (maW m=0):=dD<|by rw[HE.out];exact hz
 have HB5:Hid (file<0\/(fln:Int)<=file->∀W,Byt m file w (.returned (.tuple #[eS,I6 5])) W):=dD<|fun h W=>by
  have hb:ZV m file=5:=by unfold ZV;rw[if_neg (fun h=>h HM0),if_pos (by rw[HN7.out];exact h)]
  refine⟨_,by rw[hb],?_⟩
  unfold Jb;rw[if_neg (by rw[hb];decide)]
  exact zb.nil _ _ _
 have HCN:=show Hid _ from HCO.out hz
 clear hz;have x7:=(X0.grew K1).c 7 rfl
 by_cases a1:file<0
 ·have a1d:decide (file<0)=true:=decide_eq_true a1;have HR:Hid (Byt m file w (.returned (.tuple #[eS,I6 5])) W1):=HB5.out (.inl a1) W1;clear a1;go_wp2
  go_ret2
  exact⟨HR,G0.trans K1⟩
 have a1d:decide (file<0)=false:=decide_eq_false a1
 by_cases a2:(fln:Int)<=file
 ·have a2d:decide ((fln:Int)<=file)=true:=decide_eq_true a2;have HR:Hid (Byt m file w (.returned (.tuple #[eS,I6 5])) W1):=HB5.out (.inr a2) W1;clear a1 a2;go_wp2
  go_ret2
  exact⟨HR,G0.trans K1⟩
 have a2d:decide ((fln:Int)<=file)=false:=decide_eq_false a2;go_upto_region 6 with fail;clear a1d a2d x7 hze;obtain⟨fi,rfl⟩:∃fi:Nat,file=(fi:Int):=⟨file.toNat,by omega⟩
 obtain⟨f,HF⟩:∃f,Hid (m.fl[fi]? =some f):=⟨_,gE (by rw[HN7.out];omega)⟩
 obtain⟨⟨s0,s1⟩,s2⟩:=zlh HM0 HF.out;obtain⟨z,HZ⟩:∃z:Nat,Hid (f.size=(z:Int)):=⟨f.size.toNat,show _=_ by omega⟩
 have hz96:z<=96:=by have:=HZ.out;omega
 have HBL:Hid (∀k,k<z->k / 8<f.bl.length):=dD<|fun k hk=>by
  have h1:=HZ.out;rw[h1]at s2;unfold Ja at s2
  split at s2 <;> omega
 have HBE:Hid (ZV m (fi:Int)=0):=dD<|by unfold ZV;rw[if_neg (fun h=>h HM0),if_neg (by rw[HN7.out];omega)]
 have HBY:Hid (Jb m (fi:Int)=(List.range z).map (byD m fi)):=dD<|by
  unfold Jb;rw[if_pos HBE.out];unfold ziJ;rw[show(zhG m (fi:Int)).toNat=z from by unfold zhG;rw[tN,gD,HF.out];show f.size.toNat=z;rw[HZ.out];rfl]
  rfl
 obtain⟨ad7,rfl,ba,bc,_,hlf⟩:=HFL.out fi f HF.out;have HLF:Hid (∀W,zc w W->zck W (ad7.add (fi*2)) (z:Int) (.slice ba f.bl.length bc)):=dD<|by rw[<-HZ.out];exact hlf
 have hfz:(fi:Int)< (fln:Int):=by omega
 clear a1 a2 s0 s1 s2 hlf;go_wp2
 go_loopg [7,8] 96 (fun gg s7 s8 wr=>∃(k:Nat) (xa:Option Addr) (xc:Nat),k<=z/\z - k<=gg/\s8=I6 k/\s7= .slice xa k xc/\Hid (zc W0 wr)/\Hid (zb byE (w.heap.size+1) wr (.slice xa k xc) ((List.range k).map (byD m fi))))
 case atStart=>exact⟨0,none,0,nZ _,by omega,rfl,rfl,K1,zb.nil _ _ _⟩
 obtain⟨k,xa,xc,hk,hgk,rfl,rfl,KW,OW⟩:=hrel;have x7:=(X0.grew KW).c 7 rfl;obtain⟨d0,-⟩:=HLF.out wr (G0.trans KW)
 by_cases hlt:k<z
 ·have hltz:(k:Int)< (z:Int):=by omega
  obtain⟨kd,HKD⟩:∃kd,Hid (k / 8=kd):=⟨_,rfl⟩;obtain⟨km,HKM⟩:∃km,Hid (k % 8=km):=⟨_,rfl⟩;have hkm:km<8:=by have:=HKM.out;omega
  have hq1:(k:Int).tdiv 8=(kd:Int):=by rw[Int.tdiv_eq_ediv_of_nonneg (by omega)];have:=HKD.out;omega
  have hq2:(k:Int) / 8=(kd:Int):=by have:=HKD.out;omega
  have hr1:(k:Int).tmod 8=(km:Int):=by rw[Int.tmod_eq_emod_of_nonneg (by omega)];have:=HKM.out;omega
  have hr2:(k:Int) % 8=(km:Int):=by have:=HKM.out;omega
  obtain⟨bk,HBK⟩:∃bk,Hid (f.bl[kd]? =some bk):=⟨_,gE (by rw[<-HKD.out];exact HBL k hlt)⟩
  have hc:=HCN.out wr fi kd f bk (G0.trans KW) HF HBK (by have:=HKD.out;omega)
  have x0:=(X0.grew KW).c 0 rfl;have x1:=(X0.grew KW).c 1 rfl;have x2:=(X0.grew KW).c 2 rfl;have x3:=(X0.grew KW).c 3 rfl;have x4:=(X0.grew KW).c 4 rfl;have x5:=(X0.grew KW).c 5 rfl;have x6:=(X0.grew KW).c 6 rfl;have x8:=(X0.grew KW).c 8 rfl;have x9:=(X0.grew KW).c 9 rfl;have x10:=(X0.grew KW).c 10 rfl;go_wp2_with fail;refine hc.mono ?_;clear hc x0 x1 x2 x3 x4 x5 x6 x7 x8 x9 x10 d0;rintro r W2 ⟨rfl,hl8,g2⟩;have K2:=dD (KW.trans g2);have O2:=dD (OW.grew g2);obtain⟨b,HB⟩:∃b,Hid (byD m fi k=b):=⟨_,rfl⟩;have hv:(pgc (qZ m (fi:Int) (kd:Int)))[km]? =some (U8 b):=by
   rw[<-HB.out];unfold byD;rw[HKD.out,HKM.out];exact zcL (by rw[gD,gE (by rw[hl8];exact hkm)];rfl)
  generalize qZ m (fi:Int) (kd:Int)=CL at hv hl8⊢
  have HACC:Hid ((List.range (k+1)).map (byD m fi)=(List.range k).map (byD m fi)++ [b]):=dD<|by rw[List.range_succ,List.map_append,List.map_singleton,HB.out]
  have HAL:Hid (((List.range k).map (byD m fi)).length=k):=dD<|by simp
  generalize(List.range k).map (byD m fi)=acc at O2 HACC HAL
  clear g2 hl8;have HSZ:Hid (w.heap.size+1<=W2.heap.size):=dD<|by rw[<-HS0.out];exact bS K2.out
  go_wp2_with (first | refine zki rfl (.tmp 40) (.tmp 42) rfl (pgc CL) rfl km rfl hkm hv ?_ | (at_builtin;refine zw (E:=byE) rfl (.tmp 35) (.tmp 44) rfl (w.heap.size+1) _ acc rfl (O2.grew (za _ _)) _ [b] rfl (jV byE W2 b _ _ rfl (by decide)) ?qb ?qc ?_))
  case qb=>
   show(acc.length+1)*1<=_
   have:=HAL.out;omega
  case qc=>exact nT HSZ (bS (za _ _))
  intro vn Wn own grn;obtain⟨xan,xcn,hvn⟩:=own.form;rw[show(acc++ [b]).length=k+1 from by rw[lA,HAL.out];rfl]at hvn
  subst hvn;have On:Hid (zb byE (w.heap.size+1) Wn (.slice xan (k+1) xcn) ((List.range (k+1)).map (byD m fi))):=dD<|by rw[HACC.out];exact own
  have Kn:Hid (zc W0 Wn):=dD<|qo (K2.trans (za _ _)) grn (fun g hg=>by
   have h1:=(O2.lt g hg).1;rw[HS0.out];exact h1)
  clear own grn hv;go_wp2
  go_roundg (z -(k+1))
  case measure=>omega
  exact⟨k+1,xan,xcn,by omega,by omega,by go_num,rfl,Kn,On⟩
 have hltz:¬(k:Int)< (z:Int):=by omega
 obtain rfl:z=k:=by omega
 have HR:Hid (Byt m (fi:Int) w (.returned (.tuple #[.slice xa z xc,I6 0])) wr):=⟨_,by rw[HBE.out],by rw[HBY.out];exact OW.base (Nat.le_succ _)⟩
 go_wp2
 go_ret2
 exact⟨HR,G0.trans KW⟩
theorem zbH {α:Type} (E:Elt α) {rest:List Oper} {a:Act} (hgd:o.guard=none) (l c:Operand) (ho:o.op= .makeSlice E.st l c) (n:Nat) (hl:a.eval l=I6 0) (hc:a.eval c=I6 n) (hn:n*E.bytes<=140737488355328)
  (h:∀C,zb E w.heap.size (w.alloc (.cells C E.ty)) (.slice (some ⟨w.heap.size,0,none⟩) 0 n) ([]:List α)->wpList prog ops Q rest (a.put o.dst (.slice (some ⟨w.heap.size,0,none⟩) 0 n)) (w.alloc (.cells C E.ty))):wpList prog ops Q (o :: rest) a w:=by
 refine wpList_plain hgd fun K hK=>?_
 obtain⟨i0,hi,hz0,hz1,hz2⟩:=info_parts E.info;have h2:n*1<=n*E.bytes:=Nat.mul_le_mul_left _ (nT E.pos E.few);have hb:((E.bytes:Int)*(n:Int))<=140737488355328:=by
  obtain⟨B,hB⟩:∃B,n*E.bytes=B:=⟨_,rfl⟩;rw[hB]at hn;rw[<-Int.natCast_mul,Nat.mul_comm,hB];omega
 have hrun:=run_make (P:=prog) w E.st E.ty i0 _ E.und hi hz0 .i64 .i64 0 n (by omega) (by omega) (by rw[hz2];exact Int.le_trans hb (by omega)) (by omega)
 rw[hz1,tN]at hrun;unfold Oper.wp;simp only[execOp,ho,hl,hc,Sem.run_bind,hrun,Result.andThen,Sem.run_pure,Oper.upon];refine hK _ _ (h _ ⟨World.ownsRow_made w _ n (nR _) (qH (by omega)) (by rw[size_madeCells]),by simp⟩)
theorem zkX {k c:Nat} (hl:(qZ m (fi:Int) (k:Int)).length=8) (hc:c<=8):(List.range (8*k)).map (byD m fi)++(qZ m (fi:Int) (k:Int)).take c=(List.range (8*k+c)).map (byD m fi):=by
 apply List.ext_getElem?
 intro i
 by_cases h1:i<8*k
 ·rw[List.getElem?_append_left (by simpa using h1),List.getElem?_map,List.getElem?_map,List.getElem?_range h1,List.getElem?_range (by omega)]
 rw[aR (by simp;omega),List.length_map,List.length_range,List.getElem?_map]
 by_cases h2:i<8*k+c
 ·rw[List.getElem?_range h2,List.getElem?_take_of_lt (by omega)]
  simp only[Option.map_some];unfold byD;rw[show i / 8=k by omega,show i % 8=i - 8*k by omega,gD,gE (by omega)]
  rfl
 rw[gN (by simp;omega),gN (by simp;omega)]
 rfl
theorem zhn (V:MaV) (m:Ma) (file:Int) (w:World) (hm:zH w V m):
  Calls prog 13 #[.agg (mL V m).toArray,I6 file] w fun e w'=>Byt m file w e w'/\zc w w':=by
 have HM:Hid (zH w V m):=hm;have HWR:Hid (∀W,zc w W->Calls prog 9 #[.agg (mL V m).toArray] W fun e w'=>e= .returned (I6 (maW m))/\zc W w'):=show∀W,_ from fun W hW=>zaN V m W (HM.grew hW)
 have HWI:Hid (∀W,zc w W->Calls prog 58 #[.agg (mL V m).toArray] W fun e w'=>∃B,e= .returned (.agg #[V.f.x,I6 m.hand,V.s.x,V.sb.x,V.sq.x,V.db.x,V.dq.x,V.fl.x,I6 m.cnt,V.ca.x,V.sp.x,.map (some B)])/\j5 plK w' B (j9 m.ca)/\zc W w'):=dD<|fun W hW=>QE V m W (HM.grew hW)
 have HFP:Hid (maW m=0->∀W B (fi ix:Nat) f bk,zc w W->m.fl[fi]? =some f->f.bl[ix]? =some bk->ix<=1000->j5 plK W B (j9 m.ca)->Calls prog 60 #[.agg #[V.f.x,I6 m.hand,V.s.x,V.sb.x,V.sq.x,V.db.x,V.dq.x,V.fl.x,I6 m.cnt,V.ca.x,V.sp.x,.map (some B)],I6 (fi:Int),I6 (ix:Int)] W fun e w'=>e= .returned (.agg (pgc (qZ m fi ix)).toArray)/\(qZ m fi ix).length=8/\zc W w'):=dD<|fun h0 W B fi ix f bk hW hf hb hi hmp=>zbd V m B fi ix f bk W (HM.grew hW) (ziI h0) hf hb hi (zfL h0 hf).1 hmp
 obtain⟨-,-,-,-,-,-,n7,-,-⟩:=hm.ns;obtain⟨_,_,hfe,_,hfr⟩:=qL.rows hm.fl;have HFL:Hid (jZ w V.fl.a m.fl):=dD<|by
  simp only[vJ]at hfe;rw[hfe.1];exact hfr
 obtain⟨vf,vs,vsb,vsq,vdb,vdq,⟨fla,fln,flc⟩,vca,vsp⟩:=V;dsimp only[mL]at HWR HWI HFP HFL n7⊢;have HN7:Hid (m.fl.length=fln):=n7.symm;obtain⟨E,HE⟩:∃E,Hid (maW m=E):=⟨_,rfl⟩;rw[HE.out]at HWR HFP;clear hm n7 hfe hfr;obtain⟨W0,hW0⟩:∃W0,w.alloc (.cells #[vf.x,I6 m.hand,vs.x,vsb.x,vsq.x,vdb.x,vdq.x,.slice fla fln flc,I6 m.cnt,vca.x,vsp.x] 40)=W0:=⟨_,rfl⟩;have G0:=gA hW0
 have X0:=xA hW0
 have HS0:=sA hW0
 have HW0:Hid (_=W0):=hW0;clear hW0
 go_enter func13,ntmps13
 go_upto_region 1 with fail;rw[HW0.out];obtain⟨x0,x1,x2,x3,x4,x5,x6,x7,x8,x9,x10⟩:=X0.c11;have hc:=HWR.out W0 G0.out;go_wp2_with fail;refine hc.mono ?_;clear hc x0 x1 x2 x3 x4 x5 x6 x7 x8 x9 x10;rintro r W1 ⟨rfl,g1⟩;have K1:Hid (zc W0 W1):=g1;clear g1
 by_cases hz:E=0
 rotate_left
 ·have hze:(E != 0)=true:=by simp[hz]
  have HBE:Hid (ZV m file=E):=dD<|by unfold ZV;rw[HE.out,if_pos hz]
  have HR:Hid (Byt m file w (.returned (.tuple #[eS,I6 E])) W1):=⟨_,by rw[HBE.out],by
   unfold Jb;rw[if_neg (by rw[HBE.out];exact hz)]
   exact zb.nil _ _ _⟩
  clear hz;go_wp2
  go_ret2
  exact⟨HR,G0.trans K1⟩
 have hze:(E != 0)=false:=by simp[hz]
 have HM0:Hid (maW m=0):=dD<|by rw[HE.out];exact hz
 have HFX:=show Hid _ from HFP.out hz
 clear hz;have x7:=(X0.grew K1).c 7 rfl;have hbel:=QB file (fln:Int) W1;go_wp2_with fail;refine hbel.mono ?_;rintro r w' ⟨rfl,hw'⟩;rw[hw'];clear hw' w' hbel hze x7
 cases hb:bel file (fln:Int)with
 | false=>
  have HR:Hid (Byt m file w (.returned (.tuple #[eS,I6 5])) W1):=dD<|by
   have h1:¬(0<=file/\file< (fln:Int)):=fun h=>by rw[jY.2 h]at hb;cases hb
   have hb5:ZV m file=5:=by unfold ZV;rw[if_neg (fun h=>h HM0),if_pos (by rw[HN7.out];omega)]
   refine⟨_,by rw[hb5],?_⟩
   unfold Jb;rw[if_neg (by rw[hb5];decide)]
   exact zb.nil _ _ _
  clear hb;go_wp2
  go_ret2
  exact⟨HR,G0.trans K1⟩
 | true=>
 obtain⟨b0,b1⟩:=jY.1 hb;clear hb;obtain⟨fi,rfl⟩:∃fi:Nat,file=(fi:Int):=⟨file.toNat,by omega⟩
 obtain⟨f,HF⟩:∃f,Hid (m.fl[fi]? =some f):=⟨_,gE (by rw[HN7.out];omega)⟩
 obtain⟨⟨s0,s1⟩,s2⟩:=zlh HM0 HF.out;obtain⟨z,HZ⟩:∃z:Nat,Hid (f.size=(z:Int)):=⟨f.size.toNat,show _=_ by omega⟩
 have hz96:z<=96:=by have:=HZ.out;omega
 obtain⟨K,HK⟩:∃K,Hid (f.bl.length=K):=⟨_,rfl⟩;have HCP:Hid (Ja (z:Int)=(K:Int)):=dD<|by rw[<-HZ.out,<-HK.out];exact s2.symm
 have hK8:8*K<z+8/\z<=8*K:=by
  have:=HCP.out;unfold Ja at this
  split at this <;> omega
 have HBE:Hid (ZV m (fi:Int)=0):=dD<|by unfold ZV;rw[if_neg (fun h=>h HM0),if_neg (by rw[HN7.out];omega)]
 have HBY:Hid (Jb m (fi:Int)=(List.range z).map (byD m fi)):=dD<|by
  unfold Jb;rw[if_pos HBE.out];unfold ziJ;rw[show(zhG m (fi:Int)).toNat=z from by unfold zhG;rw[tN,gD,HF.out];show f.size.toNat=z;rw[HZ.out];rfl]
  rfl
 obtain⟨ad7,h7,ba,bc,_,hlf⟩:=HFL.out fi f HF.out;have HLF:Hid (∀W,zc w W->zck W (ad7.add (fi*2)) (z:Int) (.slice ba f.bl.length bc)):=dD<|by rw[<-HZ.out];exact hlf
 subst h7;clear b0 s0 s1 s2 hlf;have hc:=HWI.out W1 (G0.trans K1);have x0:=(X0.grew K1).c 0 rfl;have x1:=(X0.grew K1).c 1 rfl;have x2:=(X0.grew K1).c 2 rfl;have x3:=(X0.grew K1).c 3 rfl;have x4:=(X0.grew K1).c 4 rfl;have x5:=(X0.grew K1).c 5 rfl;have x6:=(X0.grew K1).c 6 rfl;have x7:=(X0.grew K1).c 7 rfl;have x8:=(X0.grew K1).c 8 rfl;have x9:=(X0.grew K1).c 9 rfl;have x10:=(X0.grew K1).c 10 rfl;go_wp2_with fail;refine hc.mono ?_;clear hc x0 x1 x2 x3 x4 x5 x6 x7 x8 x9 x10;rintro r W2 ⟨B,rfl,hmp,g2⟩;go_upto_region 7 with fail;obtain⟨pb,HPB⟩:∃pb,Hid (W2.heap.size=pb):=⟨_,rfl⟩;obtain⟨W3,hW3⟩:∃W3,W2.alloc (.cells #[vf.x,I6 m.hand,vs.x,vsb.x,vsq.x,vdb.x,vdq.x,.slice (some ad7) fln flc,I6 m.cnt,vca.x,vsp.x,.map (some B)] 117)=W3:=⟨_,rfl⟩;have g3:=gP hW3
 have M3:Hid (j5 plK W3 B (j9 m.ca)):=hmp.grew g3;have N3:=xPT hW3 HPB
 have K3:=dD ((K1.trans g2).trans g3);have HPL:Hid (w.heap.size+1<=pb):=show _<=_ by rw[<-HPB.out,<-HS0.out];exact bS (K1.trans g2)
 rw[hW3,HPB.out];clear hW3 g2 g3 hmp;have x7:=(X0.grew K3).c 7 rfl;obtain⟨d0,-⟩:=HLF.out W3 (G0.trans K3)
 go_wp2_with (refine zbH byE rfl (.const (I6 0)) (.tmp 33) rfl z rfl rfl (by show z*1<=_;omega) ?_)
 intro C own;obtain⟨W4,hW4⟩:∃W4,W3.alloc (.cells C byE.ty)=W4:=⟨_,rfl⟩;have g4:zc W3 W4:=by rw[<-hW4];exact za _ _
 have O4:Hid (zb byE (w.heap.size+1) W4 (.slice (some ⟨W3.heap.size,0,none⟩) 0 z) ((List.range 0).map (byD m fi))):=dD<|by
  rw[hW4]at own;exact own.base (by rw[<-HS0.out];exact bS K3)
 have M4:=dD (M3.grew g4);have N4:=dD (N3.grew g4);have K4:=dD (K3.trans g4);have hcn:=zeK (z:Int) W4 (by omega) (by omega)
 rw[HCP.out]at hcn;rw[hW4];clear hW4 g4 own x7 d0;go_wp2_with fail;refine hcn.mono ?_;rintro r w' ⟨rfl,hw'⟩;rw[hw'];clear hw' w' hcn;go_wp2
 go_loopg [9,37] K (fun gg s9 s37 wr=>∃(k n:Nat) (xa:Option Addr) (xc:Nat),k<=K/\K - k<=gg/\n=min (8*k) z/\s37=I6 k/\s9= .slice xa n xc/\Hid (zc W0 wr)/\Hid (zb byE (w.heap.size+1) wr (.slice xa n xc) ((List.range n).map (byD m fi)))/\Hid (j5 plK wr B (j9 m.ca))/\Hid (zD wr pb 117 [vf.x,I6 m.hand,vs.x,vsb.x,vsq.x,vdb.x,vdq.x,.slice (some ad7) fln flc,I6 m.cnt,vca.x,vsp.x,.map (some B)]))
 case atStart=>exact⟨0,0,_,_,nZ _,by omega,by omega,rfl,rfl,K4,O4,M4,N4⟩
 obtain⟨k,n,xa,xc,hk,hgk,hn,rfl,rfl,KW,OW,MW,NW⟩:=hrel;have HN:Hid (n=min (8*k) z):=hn;clear hn
 by_cases hlt:k<K
 ·have hltz:(k:Int)< (K:Int):=by omega
  have HN8:Hid (n=8*k):=dD<|by have:=HN.out;omega
  obtain⟨bk,HBK⟩:∃bk,Hid (f.bl[k]? =some bk):=⟨_,gE (by rw[HK.out];exact hlt)⟩
  have hc:=HFX.out wr B fi k f bk (G0.trans KW) HF HBK (by omega) MW.out
  obtain⟨x0,x1,x2,x3,x4,x5,x6,x7,x8,x9,x10,x11⟩:=NW.box.c12;go_wp2_with fail;refine hc.mono ?_;clear hc x0 x1 x2 x3 x4 x5 x6 x7 x8 x9 x10 x11;rintro r W5 ⟨rfl,hl8,g5⟩;obtain⟨p,HP⟩:∃p,Hid (qZ m (fi:Int) (k:Int)=p):=⟨_,rfl⟩;obtain⟨c,HC⟩:∃c:Nat,Hid (c=min (z - 8*k) 8):=⟨_,rfl⟩;have hc8:c<=8:=by have:=HC.out;omega
  have HMO:Hid ((List.range n).map (byD m fi)++p.take c=(List.range (n+c)).map (byD m fi)):=dD<|by
   rw[HN8.out,<-HP.out];exact zkX hl8 hc8
  rw[HP.out]at hl8⊢;have HL8:Hid (p.length=8):=hl8;obtain⟨p0,p1,p2,p3,p4,p5,p6,p7,rfl⟩:=zdP p hl8;simp only[pgc,mP,List.map_nil];go_upto_region 13 with fail;obtain⟨pp,HPP⟩:∃pp,Hid (W5.heap.size=pp):=⟨_,rfl⟩;obtain⟨W6,hW6⟩:∃W6,W5.alloc (.cells #[U8 p0,U8 p1,U8 p2,U8 p3,U8 p4,U8 p5,U8 p6,U8 p7] 50)=W6:=⟨_,rfl⟩;have g6:=gP hW6
  have P6:=xP hW6 HPP
  have K6:=dD ((KW.trans g5).trans g6);have O6:=dD ((OW.grew g5).grew g6);have M6:=dD ((MW.grew g5).grew g6);have N6:=dD ((NW.grew g5).grew g6);rw[hW6,HPP.out];clear hW6 g5 g6 hl8;have hget:=zfq [p0,p1,p2,p3,p4,p5,p6,p7] c W6 rfl hc8;have hmin:min ((z:Int) -(n:Int)) 8=(c:Int):=by have:=HN8.out;have:=HC.out;omega
  obtain⟨c0,c1,c2,c3,c4,c5,c6,c7⟩:=P6.c8;go_wp2_with fail;try rw[hmin]
  refine hget.mono ?_;clear hget hmin c0 c1 c2 c3 c4 c5 c6 c7;rintro r W7 ⟨gv,rfl,gown,g7⟩;have K7:=dD (K6.trans g7);have O7:=dD (O6.grew g7);have M7:=dD (M6.grew g7);have N7:=dD (N6.grew g7);have HGR:Hid (zr byE W7 gv ([p0,p1,p2,p3,p4,p5,p6,p7].take c)):=gown.at;have HAL:Hid (((List.range n).map (byD m fi)).length=n):=show _=_ by simp
  have HTL:Hid (([p0,p1,p2,p3,p4,p5,p6,p7].take c).length=c):=dD<|by rw[List.length_take];show min c 8=c;omega
  have HSZ:Hid (w.heap.size+1<=W7.heap.size):=dD<|by rw[<-HS0.out];exact bS K7.out
  generalize(List.range n).map (byD m fi)=acc at O7 HMO HAL
  generalize [p0,p1,p2,p3,p4,p5,p6,p7].take c=add at HGR HMO HTL
  clear gown g7
  go_wp2_with (at_builtin;refine zw (E:=byE) rfl (.tmp 44) (.tmp 51) rfl (w.heap.size+1) _ acc rfl O7 _ add rfl HGR.out ?qb ?qc ?_)
  case qb=>
   show(acc.length+add.length)*1<=_
   have:=HAL.out;have:=HTL.out;have:=HN8.out;omega
  case qc=>exact HSZ.out
  intro vn Wn own grn;obtain⟨xan,xcn,hvn⟩:=own.form;rw[show(acc++add).length=n+c from by rw[lA,HAL.out,HTL.out]]at hvn
  subst hvn;have On:Hid (zb byE (w.heap.size+1) Wn (.slice xan (n+c) xcn) ((List.range (n+c)).map (byD m fi))):=dD<|by rw[<-HMO.out];exact own
  have Kn:Hid (zc W0 Wn):=dD<|qo K7 grn (fun g hg=>by
   have h1:=(O7.lt g hg).1;rw[HS0.out];exact h1)
  have Mn:Hid (j5 plK Wn B (j9 m.ca)):=M7.kept grn (fun e=>by
   exact O7.ne_map M7 _ e.symm rfl)
  have Nn:Hid (zD Wn pb 117 [vf.x,I6 m.hand,vs.x,vsb.x,vsq.x,vdb.x,vdq.x,.slice (some ad7) fln flc,I6 m.cnt,vca.x,vsp.x,.map (some B)]):=N7.beside grn (fun g hg=>O7.ne N7 (by decide) g hg)
  clear own grn;go_wp2
  go_roundg (K -(k+1))
  case measure=>omega
  exact⟨k+1,n+c,xan,xcn,by omega,by omega,by have:=HN8.out;have:=HC.out;omega,by go_num,rfl,Kn,On,Mn,Nn⟩
 have hltz:¬(k:Int)< (K:Int):=by omega
 obtain rfl:n=z:=by have:=HN.out;omega
 have HR:Hid (Byt m (fi:Int) w (.returned (.tuple #[.slice xa n xc,I6 0])) wr):=⟨_,by rw[HBE.out],by rw[HBY.out];exact OW.base (Nat.le_succ _)⟩
 go_wp2
 go_ret2
 exact⟨HR,G0.trans KW⟩
theorem zkH (q:Fr) (W:World):(Op.equalIn 10000 59 (.agg #[U8 q.p.b0,U8 q.p.b1,U8 q.p.b2,U8 q.p.b3,U8 q.p.b4,U8 q.p.b5,U8 q.p.b6,U8 q.p.b7,I6 q.r,.bool q.u,.bool q.d,I6 q.f,I6 q.x]) (.agg #[U8 q.p.b0,U8 q.p.b1,U8 q.p.b2,U8 q.p.b3,U8 q.p.b4,U8 q.p.b5,U8 q.p.b6,U8 q.p.b7,I6 q.r,.bool q.u,.bool q.d,I6 q.f,I6 q.x])).run prog W= .ok true W:=by
 rw[zb5,zg9]
theorem zfh (m m':Value) (fs:List Fr) (h:Int) (w:World) (hm:zlo w m fs h) (hm':zlo w m' fs h):
  Calls prog 45 #[m,m'] w fun e w'=>e= .returned (.bool true)/\zc w w':=by
 obtain⟨b,rfl,hb⟩:=hm;obtain⟨b',rfl,hb'⟩:=hm';have hbig:=hb.short;obtain⟨a,c,rfl,hr⟩:=hb.frs;obtain⟨a',c',rfl,hr'⟩:=hb'.frs;have HR:Hid (Zu w a fs):=hr;have HR':Hid (Zu w a' fs):=hr';clear hb hb' hr hr';obtain⟨n,HN⟩:∃n,Hid (fs.length=n):=⟨_,rfl⟩;rw[HN.out]at hbig⊢;obtain⟨W0,hW0⟩:∃W0,(w.alloc (.cells #[.slice a n c,I6 h] 27)).alloc (.cells #[.slice a' n c',I6 h] 27)=W0:=⟨_,rfl⟩;have HG0:=gD2 hW0
 have X0:=x2a hW0
 have X1:=x2b hW0
 have HW0:Hid (_=W0):=hW0;clear hW0;have hnn:((n:Int) !=(n:Int))=false:=by simp
 have hhh:(h != h)=false:=by simp
 go_enter func45,ntmps45
 go_wp2;rw[HW0.out]
 go_loopg [5,23] n (fun gg _ s23 wr=>∃kk:Nat,kk<=n/\n - kk<=gg/\s23=I6 kk/\Hid (zc W0 wr))
 case atStart=>exact⟨0,nZ _,by omega,rfl,zc.refl _⟩
 obtain⟨kk,hkk,hg,rfl,BW⟩:=hrel
 by_cases hlt:kk<n
 ·have hltz:(kk:Int)< (n:Int):=by omega
  obtain⟨q,HQ⟩:∃q,Hid (fs[kk]? =some q):=⟨_,gE (by rw[HN.out];exact hlt)⟩
  obtain⟨ad,rfl,hl⟩:=HR.out kk q HQ.out;obtain⟨ad',rfl,hl'⟩:=HR'.out kk q HQ.out;obtain⟨d0,d1,d2,d3,d4,d5,d6,d7,d8,d9,d10,d11,d12⟩:=hl wr (HG0.trans BW);obtain⟨f0,f1,f2,f3,f4,f5,f6,f7,f8,f9,f10,f11,f12⟩:=hl' wr (HG0.trans BW);have z0:=(X0.grew BW).c 0 rfl;have z1:=(X1.grew BW).c 0 rfl;have pe:=zkH q;clear hl hl';go_wp2;go_quiet (fail);go_wp2
  go_roundg (n -(kk+1))
  case measure=>omega
  exact⟨kk+1,by omega,by omega,by go_num,BW.trans (show Below _ _ _ from bD (bR _ _) _)⟩
 have hltz:¬(kk:Int)< (n:Int):=by omega
 have:kk=n:=by omega
 subst this;go_wp2;go_ret;exact⟨rfl,HG0.trans BW⟩
theorem zhJ (v v':Value) (fs:List Int) (w:World) (hb:zr slE w v fs) (hb':zr slE w v' fs):
  Calls prog 46 #[v,v'] w fun e w'=>e= .returned (.bool true)/\zc w w':=by
 have hbig:=hb.short;obtain⟨a,c,rfl,hr⟩:=hb.sls;obtain⟨a',c',rfl,hr'⟩:=hb'.sls;have HR:Hid (JY w a fs):=hr;have HR':Hid (JY w a' fs):=hr';clear hb hb' hr hr';obtain⟨n,HN⟩:∃n,Hid (fs.length=n):=⟨_,rfl⟩;rw[HN.out]at hbig⊢;have hnn:((n:Int) !=(n:Int))=false:=by simp
 go_enter func46,ntmps46
 go_wp2
 go_loopg [5,13] n (fun gg _ s23 wr=>∃kk:Nat,kk<=n/\n - kk<=gg/\s23=I6 kk/\Hid (zc w wr))
 case atStart=>exact⟨0,nZ _,by omega,rfl,zc.refl _⟩
 obtain⟨kk,hkk,hg,rfl,BW⟩:=hrel
 by_cases hlt:kk<n
 ·have hltz:(kk:Int)< (n:Int):=by omega
  obtain⟨q,HQ⟩:∃q,Hid (fs[kk]? =some q):=⟨_,gE (by rw[HN.out];exact hlt)⟩
  obtain⟨ad,rfl,hl⟩:=HR.out kk q HQ.out;obtain⟨ad',rfl,hl'⟩:=HR'.out kk q HQ.out;have d0:=hl wr BW.out;have f0:=hl' wr BW.out;have hqq:(q != q)=false:=by simp
  clear hl hl';go_wp2;go_quiet (fail);go_wp2
  go_roundg (n -(kk+1))
  case measure=>omega
  exact⟨kk+1,by omega,by omega,by go_num,BW.trans (show Below _ _ _ from bD (bR _ _) _)⟩
 have hltz:¬(kk:Int)< (n:Int):=by omega
 have:kk=n:=by omega
 subst this;go_wp2;go_ret;exact⟨rfl,BW⟩
theorem zmc:(Tryz.prog.info? 5).map (fun i=>(i.zero,i.size,i.bytes))=some (some (U8 0),1,1):=by kernel_rfl
theorem zkv (a b:List Int) (ha:a.length=8) (hb:b.length=8) (x:World):(Op.equalIn 10000 50 (.agg (pgc a).toArray) (.agg (pgc b).toArray)).run prog x= .ok (decide (a=b)) x:=by
 obtain⟨i5,hi5,_,hz1,_⟩:=info_parts zmc;exact Zf (P:=prog) x 50 5 .u8 9998 8 a b i5 underlying50 underlying5 hi5 hz1 ha hb
theorem zhP (b0 b1 b2 b3 b4 b5 b6 b7:Int) (x:World):(Op.equalIn 10000 50 (.agg #[U8 b0,U8 b1,U8 b2,U8 b3,U8 b4,U8 b5,U8 b6,U8 b7]) (.agg #[U8 b0,U8 b1,U8 b2,U8 b3,U8 b4,U8 b5,U8 b6,U8 b7])).run prog x= .ok true x:=by
 have:=zkv [b0,b1,b2,b3,b4,b5,b6,b7] [b0,b1,b2,b3,b4,b5,b6,b7] rfl rfl x;rw[decide_eq_true rfl]at this;exact this
theorem zef (d:Nat) (b0 b1 b2 b3 b4 b5 b6 b7:Int) (x:World):(Op.equalIn (d+2) 50 (.agg #[U8 b0,U8 b1,U8 b2,U8 b3,U8 b4,U8 b5,U8 b6,U8 b7]) (.agg #[U8 b0,U8 b1,U8 b2,U8 b3,U8 b4,U8 b5,U8 b6,U8 b7])).run prog x= .ok true x:=by
 obtain⟨i5,hi5,_,hz1,_⟩:=info_parts zmc;have:=Zf (P:=prog) x 50 5 .u8 d 8 [b0,b1,b2,b3,b4,b5,b6,b7] [b0,b1,b2,b3,b4,b5,b6,b7] i5 underlying50 underlying5 hi5 hz1 rfl rfl;rw[decide_eq_true rfl]at this;exact this
theorem zjc (m b0 b1 b2 b3 b4 b5 b6 b7:Int) (x:World):(Op.equalIn 10000 91 (.agg #[I6 m,U8 b0,U8 b1,U8 b2,U8 b3,U8 b4,U8 b5,U8 b6,U8 b7]) (.agg #[I6 m,U8 b0,U8 b1,U8 b2,U8 b3,U8 b4,U8 b5,U8 b6,U8 b7])).run prog x= .ok true x:=by
 have hS:Tryz.prog.underlying 91=some (.struct (Tryz.prog.fieldsOf 91)):=by kernel_rfl
 have hp:Tryz.prog.stoodInHeld 91=false:=by kernel_rfl
 have hpg:=zef 9997 b0 b1 b2 b3 b4 b5 b6 b7;have u3:=underlying3;have a3:=Tryz.isAgg3;have z3:=Tryz.sizeOf3;have a23:=Tryz.isAgg50;have z23:=Tryz.sizeOf50;rw[show(10000:Nat)=9999+1 from rfl,run_equalIn_agg x 9999 91 _ _ hS hp]
 simp only[Program.fieldsOf,underlying91]
 go_simp
theorem zf8 (d d':Value) (ps:List (List Int)) (qs:List (Int × List Int)) (w:World) (hd:zcl w d ps qs) (hd':zcl w d' ps qs):
  Calls prog 47 #[d,d'] w fun e w'=>e= .returned (.bool true)/\zc w w':=by
 obtain⟨b,q,rfl,hb,hq⟩:=hd;obtain⟨b',q',rfl,hb',hq'⟩:=hd';have hbig:ps.length<=9223372036854775807:=by have:=hb.2.2;omega
 have hbigq:qs.length<=9223372036854775807:=by have:=hq.2.2;omega
 obtain⟨ab,cb,rfl,hrb⟩:=hb.rows;obtain⟨aq,cq,rfl,hrq⟩:=hq.rows;obtain⟨ab',cb',rfl,hrb'⟩:=hb'.rows;obtain⟨aq',cq',rfl,hrq'⟩:=hq'.rows;have HRB:Hid (QV w ab ps):=hrb;have HRB':Hid (QV w ab' ps):=hrb';have HRQ:Hid (Ze w aq qs):=hrq;have HRQ':Hid (Ze w aq' qs):=hrq';clear hb hq hb' hq' hrb hrb' hrq hrq';obtain⟨nb,HNB⟩:∃nb,Hid (ps.length=nb):=⟨_,rfl⟩;obtain⟨kq,HNQ⟩:∃kq,Hid (qs.length=kq):=⟨_,rfl⟩;rw[HNB.out]at hbig;rw[HNQ.out]at hbigq;rw[HNB.out,HNQ.out];obtain⟨W0,hW0⟩:∃W0,(w.alloc (.cells #[.slice ab nb cb,.slice aq kq cq] 33)).alloc (.cells #[.slice ab' nb cb',.slice aq' kq cq'] 33)=W0:=⟨_,rfl⟩;have HG0:=gD2 hW0
 have X0:=x2a hW0
 have X1:=x2b hW0
 have HW0:Hid (_=W0):=hW0;clear hW0;have hnn:((nb:Int) !=(nb:Int))=false:=by simp
 have hqq:((kq:Int) !=(kq:Int))=false:=by simp
 go_enter func47,ntmps47
 go_wp2;rw[HW0.out]
 go_loopg [5,26] nb (fun gg _ s26 wr=>∃kk:Nat,kk<=nb/\nb - kk<=gg/\s26=I6 kk/\Hid (zc W0 wr))
 case atStart=>exact⟨0,nZ _,by omega,rfl,zc.refl _⟩
 obtain⟨kk,hkk,hg,rfl,BW⟩:=hrel
 by_cases hlt:kk<nb
 ·have hltz:(kk:Int)< (nb:Int):=by omega
  obtain⟨p,HPK⟩:∃p,Hid (ps[kk]? =some p):=⟨_,gE (by rw[HNB.out];exact hlt)⟩
  obtain⟨x,b0,b1,b2,b3,b4,b5,b6,b7,rfl,rfl,hl⟩:=HRB.out kk p HPK.out;obtain⟨x',c0,c1,c2,c3,c4,c5,c6,c7,rfl,hpp,hl'⟩:=HRB'.out kk _ HPK.out;simp only[List.cons.injEq,and_true]at hpp;obtain⟨rfl,rfl,rfl,rfl,rfl,rfl,rfl,rfl⟩:=hpp;obtain⟨d0,d1,d2,d3,d4,d5,d6,d7⟩:=hl wr (HG0.trans BW);obtain⟨f0,f1,f2,f3,f4,f5,f6,f7⟩:=hl' wr (HG0.trans BW);have z0:=(X0.grew BW).c 0 rfl;have z1:=(X1.grew BW).c 0 rfl;have pe:=zhP b0 b1 b2 b3 b4 b5 b6 b7;clear hl hl';go_wp2;go_quiet (fail);go_wp2
  go_roundg (nb -(kk+1))
  case measure=>omega
  exact⟨kk+1,by omega,by omega,by go_num,BW.trans (show Below _ _ _ from bD (bR _ _) _)⟩
 have hltz:¬(kk:Int)< (nb:Int):=by omega
 have:kk=nb:=by omega
 subst this;have z1:=(X0.grew BW).c 1 rfl;go_wp2;clear z1
 go_loopg [6,44] kq (fun gg _ s44 wr'=>∃jj:Nat,jj<=kq/\kq - jj<=gg/\s44=I6 jj/\Hid (zc W0 wr'))
 case atStart=>exact⟨0,nZ _,by omega,rfl,BW⟩
 obtain⟨jj,hjj,hg,rfl,BW'⟩:=hrel
 by_cases hlt:jj<kq
 ·have hltz:(jj:Int)< (kq:Int):=by omega
  obtain⟨p,HPK⟩:∃p,Hid (qs[jj]? =some p):=⟨_,gE (by rw[HNQ.out];exact hlt)⟩
  obtain⟨x,m,b0,b1,b2,b3,b4,b5,b6,b7,rfl,rfl,hl⟩:=HRQ.out jj p HPK.out;obtain⟨x',m',c0,c1,c2,c3,c4,c5,c6,c7,rfl,hpp,hl'⟩:=HRQ'.out jj _ HPK.out;simp only[pJ,List.cons.injEq,and_true]at hpp;obtain⟨rfl,rfl,rfl,rfl,rfl,rfl,rfl,rfl,rfl⟩:=hpp;obtain⟨d0,d1,d2,d3,d4,d5,d6,d7,d8⟩:=hl wr (HG0.trans BW');obtain⟨f0,f1,f2,f3,f4,f5,f6,f7,f8⟩:=hl' wr (HG0.trans BW');have z0:=(X0.grew BW').c 1 rfl;have z1:=(X1.grew BW').c 1 rfl;have pe:=zjc m b0 b1 b2 b3 b4 b5 b6 b7;clear hl hl';go_wp2;go_quiet (fail);go_wp2
  go_roundg (kq -(jj+1))
  case measure=>omega
  exact⟨jj+1,by omega,by omega,by go_num,BW'.trans (show Below _ _ _ from bD (bR _ _) _)⟩
 have hltz:¬(jj:Int)< (kq:Int):=by omega
 have:jj=kq:=by omega
 subst this;go_wp2;go_ret;exact⟨rfl,HG0.trans BW'⟩
theorem zgL (v v':Value) (fs:List Fl) (cnt:Int) (w:World) (hv:qL w v fs) (hv':qL w v' fs):
  Calls prog 48 #[.agg #[v,I6 cnt],.agg #[v',I6 cnt]] w fun e w'=>e= .returned (.bool true)/\zc w w':=by
 obtain⟨a,c,rfl,hbig,hrow⟩:=hv.rows;obtain⟨a',c',rfl,_,hrow'⟩:=hv'.rows;have HR:Hid (jZ w a fs):=hrow;have HR':Hid (jZ w a' fs):=hrow';clear hrow hv hrow' hv';obtain⟨n,HN⟩:∃n,Hid (fs.length=n):=⟨_,rfl⟩;rw[HN.out]at hbig⊢;have hcc:(cnt != cnt)=false:=by simp
 have hnn:((n:Int) !=(n:Int))=false:=by simp
 obtain⟨W0,hW0⟩:∃W0,(w.alloc (.cells #[.slice a n c,I6 cnt] 36)).alloc (.cells #[.slice a' n c',I6 cnt] 36)=W0:=⟨_,rfl⟩;have HG0:=gD2 hW0
 have X0:=x2a hW0
 have Y0:=x2b hW0
 have HW0:Hid (_=W0):=hW0;clear hW0
 go_enter func48,ntmps48
 go_wp2;rw[HW0.out]
 go_loopg [26] n (fun gg s26 wr=>∃kk:Nat,kk<=n/\n - kk<=gg/\s26=I6 kk/\Hid (zc W0 wr))
 case atStart=>exact⟨0,nZ _,by omega,rfl,zc.refl _⟩
 obtain⟨kk,hkk,hg,rfl,BW⟩:=hrel
 by_cases hlt:kk<n
 ·have hltz:(kk:Int)< (n:Int):=by omega
  obtain⟨q,HQ⟩:∃q,Hid (fs[kk]? =some q):=⟨_,gE (by rw[HN.out];exact hlt)⟩
  obtain⟨ad,rfl,xa,xc,hra,hl⟩:=HR.out kk q HQ.out;obtain⟨ad',rfl,xa',xc',hra',hl'⟩:=HR'.out kk q HQ.out;obtain⟨d0,d1⟩:=hl wr (HG0.trans BW);obtain⟨e0,e1⟩:=hl' wr (HG0.trans BW);have hqbig:=hra.short;obtain⟨_,_,heq,hnum⟩:=hra.nums;cases heq;obtain⟨_,_,heq,hnum'⟩:=hra'.nums;cases heq;have HRA:Hid (zak w xa q.bl):=hnum;have HRA':Hid (zak w xa' q.bl):=hnum';clear hl hra hnum hl' hra' hnum';obtain⟨nb,HNB⟩:∃nb,Hid (q.bl.length=nb):=⟨_,rfl⟩;rw[HNB.out]at d1 e1 hqbig;have hss:(q.size != q.size)=false:=by simp
  have hbb:((nb:Int) !=(nb:Int))=false:=by simp
  have x0:=(X0.grew BW).c 0 rfl;have y0:=(Y0.grew BW).c 0 rfl;have up:∀{p:Addr} {u:Value},wr.cell? p=some u->∀o:Obj,(wr.alloc o).cell? p=some u:=fun h o=>by
   rw[Below.cell (za wr o) (World.block_lt_of_cell? _ _ h)];exact h
  have up2:∀{p:Addr} {u:Value},wr.cell? p=some u->∀o o':Obj,((wr.alloc o).alloc o').cell? p=some u:=fun h o o'=>by
   rw[Below.cell (za (wr.alloc o) o') (World.block_lt_of_cell? _ _ (up h o))];exact up h o
  have x0a:=up x0;have y0a:=up y0;have d0a:=up d0;have d1a:=up d1;have e0a:=up e0;have e1a:=up e1;have x0b:=up2 x0;have y0b:=up2 y0;have d0b:=up2 d0;have d1b:=up2 d1;have e0b:=up2 e0;have e1b:=up2 e1;clear up up2;go_wp2
  go_region
  all_goals clear x0a y0a d0a d1a e0a e1a x0b y0b d0b d1b e0b e1b x0 y0 d0 d1 e0 e1
  ·show Exit.then _ _ _ _ _
   obtain⟨W2,hW2⟩:∃W2,((wr.alloc (.cells #[I6 q.size,.slice xa nb xc] 71)).alloc (.cells #[I6 q.size,.slice xa' nb xc'] 71)).drew=W2:=⟨_,rfl⟩;have BX:Hid (Box W2 (wr.heap.size) [I6 q.size,.slice xa nb xc]):=dD<|by rw[<-hW2];exact((Box.top wr _ _ rfl).alloc _).grew (gW _)
   have BY:Hid (Box W2 (wr.heap.size+1) [I6 q.size,.slice xa' nb xc']):=dD<|by rw[<-hW2];exact(Box.top _ _ _ (by simp)).grew (gW _)
   have G2:Hid (zc W0 W2):=dD<|by rw[<-hW2];exact((BW.trans (za _ _)).trans (za _ _)).trans (gW _)
   rw[hW2];clear hW2;have b0:=BX.c 0 rfl;have b1:=BX.c 1 rfl;have c0:=BY.c 0 rfl;have c1:=BY.c 1 rfl;go_wp2
   go_loopg [56] nb (fun g2 s56 wr2=>∃k2:Nat,k2<=nb/\nb - k2<=g2/\s56=I6 k2/\Hid (zc W2 wr2))
   case atStart=>exact⟨0,nZ _,by omega,rfl,zc.refl _⟩
   obtain⟨k2,hk2,hg2,rfl,BW2⟩:=hrel;clear b0 b1 c0 c1;have b1:=(BX.grew BW2).c 1 rfl;have c1:=(BY.grew BW2).c 1 rfl;have GW2:=dD ((HG0.trans G2).trans BW2)
   by_cases hlt2:k2<nb
   ·have hltz2:(k2:Int)< (nb:Int):=by omega
    obtain⟨z,HZ⟩:∃z,Hid (q.bl[k2]? =some z):=⟨_,gE (by rw[HNB.out];exact hlt2)⟩
    obtain⟨ad2,rfl,hl2⟩:=HRA.out k2 z HZ.out;obtain⟨ad3,rfl,hl3⟩:=HRA'.out k2 z HZ.out;have d2:=hl2 _ GW2.out;have d3:=hl3 _ GW2.out;have hzz:(z != z)=false:=by simp
    clear hl2 hl3;go_wp2;go_quiet (fail);go_wp2
    go_roundg (nb -(k2+1))
    case measure=>omega
    exact⟨k2+1,by omega,by omega,by go_num,BW2.trans (show Below _ _ _ from bD (bR _ _) _)⟩
   have hltz2:¬(k2:Int)< (nb:Int):=by omega
   have:k2=nb:=by omega
   subst this;go_wp2
   go_roundg (n -(kk+1))
   case measure=>omega
   exact⟨kk+1,by omega,by omega,by go_num,G2.trans BW2⟩
  show Exit.then _ _ _ _ _
  obtain⟨W2,hW2⟩:∃W2,((wr.alloc (.cells #[I6 q.size,.slice xa' nb xc'] 71)).alloc (.cells #[I6 q.size,.slice xa nb xc] 71)).drew=W2:=⟨_,rfl⟩;have BX:Hid (Box W2 (wr.heap.size+1) [I6 q.size,.slice xa nb xc]):=dD<|by rw[<-hW2];exact(Box.top _ _ _ (by simp)).grew (gW _)
  have BY:Hid (Box W2 (wr.heap.size) [I6 q.size,.slice xa' nb xc']):=dD<|by rw[<-hW2];exact((Box.top wr _ _ rfl).alloc _).grew (gW _)
  have G2:Hid (zc W0 W2):=dD<|by rw[<-hW2];exact((BW.trans (za _ _)).trans (za _ _)).trans (gW _)
  rw[hW2];clear hW2;have b0:=BX.c 0 rfl;have b1:=BX.c 1 rfl;have c0:=BY.c 0 rfl;have c1:=BY.c 1 rfl;go_wp2
  go_loopg [56] nb (fun g2 s56 wr2=>∃k2:Nat,k2<=nb/\nb - k2<=g2/\s56=I6 k2/\Hid (zc W2 wr2))
  case atStart=>exact⟨0,nZ _,by omega,rfl,zc.refl _⟩
  obtain⟨k2,hk2,hg2,rfl,BW2⟩:=hrel;clear b0 b1 c0 c1;have b1:=(BX.grew BW2).c 1 rfl;have c1:=(BY.grew BW2).c 1 rfl;have GW2:=dD ((HG0.trans G2).trans BW2)
  by_cases hlt2:k2<nb
  ·have hltz2:(k2:Int)< (nb:Int):=by omega
   obtain⟨z,HZ⟩:∃z,Hid (q.bl[k2]? =some z):=⟨_,gE (by rw[HNB.out];exact hlt2)⟩
   obtain⟨ad2,rfl,hl2⟩:=HRA.out k2 z HZ.out;obtain⟨ad3,rfl,hl3⟩:=HRA'.out k2 z HZ.out;have d2:=hl2 _ GW2.out;have d3:=hl3 _ GW2.out;have hzz:(z != z)=false:=by simp
   clear hl2 hl3;go_wp2;go_quiet (fail);go_wp2
   go_roundg (nb -(k2+1))
   case measure=>omega
   exact⟨k2+1,by omega,by omega,by go_num,BW2.trans (show Below _ _ _ from bD (bR _ _) _)⟩
  have hltz2:¬(k2:Int)< (nb:Int):=by omega
  have:k2=nb:=by omega
  subst this;go_wp2
  go_roundg (n -(kk+1))
  case measure=>omega
  exact⟨kk+1,by omega,by omega,by go_num,G2.trans BW2⟩
 have hltz:¬(kk:Int)< (n:Int):=by omega
 have:kk=n:=by omega
 subst this;have GE:=dD (HG0.trans BW);go_wp2;go_ret;exact⟨rfl,GE⟩
theorem zgM (v u:Value) (l:List Ar) (w:World) (hv:zr arE w v l) (hu:zr arE w u l):
  Calls prog 49 #[v,u] w fun e w'=>e= .returned (.bool true)/\zc w w':=by
 have hbig:=hv.short;obtain⟨a,c,rfl,hrow⟩:=hv.ars;obtain⟨a',c',rfl,hrow'⟩:=hu.ars;have HR:Hid (zaK w a l):=hrow;have HR':Hid (zaK w a' l):=hrow';clear hrow hrow' hv hu;obtain⟨n,HN⟩:∃n,Hid (l.length=n):=⟨_,rfl⟩;rw[HN.out]at hbig⊢;have hnn:((n:Int) !=(n:Int))=false:=by simp
 go_enter func49,ntmps49
 go_wp2
 go_loopg [13] n (fun gg s13 wr=>∃kk:Nat,kk<=n/\n - kk<=gg/\s13=I6 kk/\Hid (zc w wr))
 case atStart=>exact⟨0,nZ _,by omega,rfl,zc.refl _⟩
 obtain⟨kk,hkk,hg,rfl,BW⟩:=hrel
 by_cases hlt:kk<n
 ·have hltz:(kk:Int)< (n:Int):=by omega
  obtain⟨z,HZ⟩:∃z,Hid (l[kk]? =some z):=⟨_,gE (by rw[HN.out];exact hlt)⟩
  obtain⟨ad,rfl,hl⟩:=HR.out kk z HZ.out;obtain⟨ad',rfl,hl'⟩:=HR'.out kk z HZ.out;obtain⟨d0,d1,d2,d3,d4,d5,d6⟩:=hl wr BW.out;obtain⟨e0,e1,e2,e3,e4,e5,e6⟩:=hl' wr BW.out;have hee:=fun W=>zll z.fr z.fr z.tz z.tz z.rd z.rd z.wr z.wr z.sh z.sh z.file z.file z.base z.base W
  rw[zhq]at hee;clear hl hl';go_wp2;go_quiet (fail);go_wp2
  go_roundg (n -(kk+1))
  case measure=>omega
  exact⟨kk+1,by omega,by omega,by go_num,BW.trans (show Below _ _ _ from bD (bR _ _) _)⟩
 have hltz:¬(kk:Int)< (n:Int):=by omega
 have:kk=n:=by omega
 subst this;go_wp2;go_ret;exact⟨rfl,BW⟩
theorem zlv (a b c:Int) (w:World):(Op.equalIn 10000 83 (.agg #[I6 a,I6 b,I6 c]) (.agg #[I6 a,I6 b,I6 c])).run prog w= .ok true w:=by
 have hf : (Tryz.prog.fieldsOf 83).toList.map (fun f => (f.name, f.type, f.offset)) = [("File", 3, 0), ("Index", 3, 1), ("Frame", 3, 2)] := by kernel_rfl
 rw[run_equalIn_struct w 9999 83 _ _ (by kernel_rfl) (by kernel_rfl)]
 obtain⟨f0,f1,f2,hfs⟩:∃f0 f1 f2,(Tryz.prog.fieldsOf 83).toList=[f0,f1,f2]:=by
  have hl:(Tryz.prog.fieldsOf 83).toList.length=3:=by have:=congrArg List.length hf;simpa using this
  match hq:(Tryz.prog.fieldsOf 83).toList,hl with
  | [f0,f1,f2],_=>exact⟨f0,f1,f2,rfl⟩
 rw[hfs]at hf⊢
 simp at hf
 obtain⟨⟨n0,t0,o0⟩,⟨n1,t1,o1⟩,⟨n2,t2,o2⟩⟩:=hf;have pI:∀(zs:Array Value) (o:Nat) v,zs[o]? =some (I6 v)->(part 3 zs o).run prog w= .ok (I6 v) w:=fun zs o v hz=>run_part_plain w (by simp[Program.plainKey,underlying3]) hz
 simp only[Op.eqFields,n0,t0,o0,n1,t1,o1,n2,t2,o2]
 simp[pI,run_equalIn_int w _ _ _ _ _ _ underlying3]
theorem jk (V U:MaV) (m:Ma) (w:World) (hm:zH w V m) (hu:zH w U m):
  Calls prog 11 #[.agg (mL V m).toArray,.agg (mL U m).toArray] w fun e w'=>e= .returned (.bool true)/\zc w w':=by
 have HM:Hid (zH w V m):=hm;have HU:Hid (zH w U m):=hu;obtain⟨-,-,-,-,-,-,-,n8,n9⟩:=hm.ns;obtain⟨-,-,-,-,-,-,-,o8,o9⟩:=hu.ns;have HC:Hid (J1 w V.ca.a m.ca):=hm.cas;have HC':Hid (J1 w U.ca.a m.ca):=hu.cas;obtain⟨xs,hxl,hrow,hsp⟩:=hm.spaces;obtain⟨ys,hyl,hrow',hsp'⟩:=hu.spaces;have HXL:Hid (xs.length=m.sp.length):=hxl;have HYL:Hid (ys.length=m.sp.length):=hyl;have HRW:Hid (∀(j:Nat) x,xs[j]? =some x->∃ad,V.sp.a=some ad/\∀W,zc w W->zc1 W (ad.add (j*10)) x):=show∀j,_ from hrow
 have HRW':Hid (∀(j:Nat) x,ys[j]? =some x->∃ad,U.sp.a=some ad/\∀W,zc w W->zc1 W (ad.add (j*10)) x):=dD<|hrow'
 have HSP:Hid (∀(i:Nat) x s,xs[i]? =some x->m.sp[i]? =some s->qr w x s):=dD<|hsp
 have HSP':Hid (∀(i:Nat) x s,ys[i]? =some x->m.sp[i]? =some s->qr w x s):=dD<|hsp'
 obtain⟨nc,HNC⟩:∃nc,Hid (m.ca.length=nc):=⟨_,rfl⟩;obtain⟨np,HNP⟩:∃np,Hid (m.sp.length=np):=⟨_,rfl⟩;have hbc:nc<=9223372036854775807:=by have:=hm.ca.short;have:=HNC.out;omega
 have hbp:np<=9223372036854775807:=by
  obtain⟨zs,k1,k2,_⟩:=hm.sp;have:=k1.short;have:=HNP.out;omega
 rw[HNC.out]at n8 o8;rw[HNP.out]at n9 o9;have e1:((V.ca.n:Int) !=(U.ca.n:Int))=false:=by rw[n8,o8];simp
 have e2:((V.sp.n:Int) !=(U.sp.n:Int))=false:=by rw[n9,o9];simp
 have HN8:Hid (V.ca.n=nc):=n8;have HO8:Hid (U.ca.n=nc):=o8;have HN9:Hid (V.sp.n=np):=n9;have HO9:Hid (U.sp.n=np):=o9;clear hm hu hxl hyl hrow hrow' hsp hsp' n8 o8 n9 o9;obtain⟨W0,hW0⟩:∃W0,(w.alloc (.cells (mL V m).toArray 40)).alloc (.cells (mL U m).toArray 40)=W0:=⟨_,rfl⟩;have G0:=gD2 hW0
 have X0:=x2a hW0
 have Y0:=x2b hW0
 have HW0:Hid (_=W0):=hW0;clear hW0
 go_enter func11,ntmps11
 go_upto_region 1 with fail;rw[HW0.out];have x0:=X0.c 0 rfl;have y0:=Y0.c 0 rfl;have x1:=X0.c 1 rfl;have y1:=Y0.c 1 rfl;have hc:=zfh (.agg #[V.f.x,I6 m.hand]) (.agg #[U.f.x,I6 m.hand]) m.fs m.hand W0 ⟨_,rfl,(HM.grew G0).fs⟩ ⟨_,rfl,(HU.grew G0).fs⟩;go_wp2_with fail;refine hc.mono ?_;clear hc x0 y0 x1 y1;rintro r W1 ⟨rfl,g1⟩;have K1:Hid (zc W0 W1):=g1;clear g1;have x2:=(X0.grew K1).c 2 rfl;have y2:=(Y0.grew K1).c 2 rfl;have hc:=zhJ _ _ m.sl W1 (HM.grew (G0.trans K1)).sl (HU.grew (G0.trans K1)).sl;go_wp2_with fail;refine hc.mono ?_;clear hc x2 y2;rintro r W2 ⟨rfl,g2⟩;have K2:=dD (K1.trans g2);clear g2;have x3:=(X0.grew K2).c 3 rfl;have y3:=(Y0.grew K2).c 3 rfl;have x4:=(X0.grew K2).c 4 rfl;have y4:=(Y0.grew K2).c 4 rfl;have hc:=zf8 (.agg #[V.sb.x,V.sq.x]) (.agg #[U.sb.x,U.sq.x]) m.sb m.sq W2 ⟨_,_,rfl,(HM.grew (G0.trans K2)).sb,(HM.grew (G0.trans K2)).sq⟩ ⟨_,_,rfl,(HU.grew (G0.trans K2)).sb,(HU.grew (G0.trans K2)).sq⟩;go_wp2_with fail;refine hc.mono ?_;clear hc x3 y3 x4 y4;rintro r W3 ⟨rfl,g3⟩;have K3:=dD (K2.trans g3);clear g3;have x5:=(X0.grew K3).c 5 rfl;have y5:=(Y0.grew K3).c 5 rfl;have x6:=(X0.grew K3).c 6 rfl;have y6:=(Y0.grew K3).c 6 rfl;have hc:=zf8 (.agg #[V.db.x,V.dq.x]) (.agg #[U.db.x,U.dq.x]) m.db m.dq W3 ⟨_,_,rfl,(HM.grew (G0.trans K3)).db,(HM.grew (G0.trans K3)).dq⟩ ⟨_,_,rfl,(HU.grew (G0.trans K3)).db,(HU.grew (G0.trans K3)).dq⟩;go_wp2_with fail;refine hc.mono ?_;clear hc x5 y5 x6 y6;rintro r W4 ⟨rfl,g4⟩;have K4:=dD (K3.trans g4);clear g4;have x7:=(X0.grew K4).c 7 rfl;have y7:=(Y0.grew K4).c 7 rfl;have x8:=(X0.grew K4).c 8 rfl;have y8:=(Y0.grew K4).c 8 rfl;have hc:=zgL (V.fl.x) (U.fl.x) m.fl m.cnt W4 (HM.grew (G0.trans K4)).fl (HU.grew (G0.trans K4)).fl;go_wp2_with fail;refine hc.mono ?_;clear hc x7 y7 x8 y8;rintro r W5 ⟨rfl,g5⟩;have K5:=dD (K4.trans g5);clear g5;have x9:=(X0.grew K5).c 9 rfl;have y9:=(Y0.grew K5).c 9 rfl;have x10:=(X0.grew K5).c 10 rfl;have y10:=(Y0.grew K5).c 10 rfl;go_upto_region 4 with fail;rw[HN8.out];clear x9 y9 x10 y10 e1 e2
 go_loopg [66] nc (fun gg s66 wr=>∃k:Nat,k<=nc/\nc - k<=gg/\s66=I6 k/\Hid (zc W0 wr))
 case atStart=>exact⟨0,nZ _,by omega,rfl,K5⟩
 obtain⟨k,hk,hgk,rfl,KW⟩:=hrel
 by_cases hlt:k<nc
 ·have hltz:(k:Int)< (nc:Int):=by omega
  obtain⟨c,HCC⟩:∃c,Hid (m.ca[k]? =some c):=⟨_,gE (by rw[HNC.out];exact hlt)⟩
  obtain⟨ad,hva,hl⟩:=HC.out k c HCC.out;obtain⟨ad',hva',hl'⟩:=HC'.out k c HCC.out;obtain⟨d0,d1,d2⟩:=hl wr (G0.trans KW);obtain⟨f0,f1,f2⟩:=hl' wr (G0.trans KW);have x9:=(X0.grew KW).c 9 rfl;have y9:=(Y0.grew KW).c 9 rfl;(try simp only[Sli.x]at x9);rw[hva,HN8.out]at x9;(try simp only[Sli.x]at y9);rw[hva',HO8.out]at y9;have hee:=fun W=>zlv c.file c.idx c.fr W
  clear hl hl' hva hva';go_wp2;go_quiet (fail);go_wp2
  go_roundg (nc -(k+1))
  case measure=>omega
  exact⟨k+1,by omega,by omega,by go_num,KW.trans (show Below _ _ _ from bD (bR _ _) _)⟩
 have hltz:¬(k:Int)< (nc:Int):=by omega
 have x10:=(X0.grew KW).c 10 rfl;go_upto_region 10 with fail;rw[HN9.out];clear x10
 go_loopg [84] np (fun gg s84 wr=>∃k:Nat,k<=np/\np - k<=gg/\s84=I6 k/\Hid (zc W0 wr))
 case atStart=>exact⟨0,nZ _,by omega,rfl,KW⟩
 obtain⟨j,hj,hgj,rfl,JW⟩:=hrel
 by_cases hlt2:j<np
 ·have hltz2:(j:Int)< (np:Int):=by omega
  obtain⟨s,HS⟩:∃s,Hid (m.sp[j]? =some s):=⟨_,gE (by rw[HNP.out];exact hlt2)⟩
  obtain⟨x,hx⟩:∃x,xs[j]? =some x:=⟨_,gE (by rw[HXL.out,HNP.out];exact hlt2)⟩
  obtain⟨y,hy⟩:∃y,ys[j]? =some y:=⟨_,gE (by rw[HYL.out,HNP.out];exact hlt2)⟩
  have HAT:Hid (qr w x s):=HSP.out j x s hx HS.out;have HAT':Hid (qr w y s):=HSP'.out j y s hy HS.out;obtain⟨ad,HVA,hl⟩:∃ad,Hid (V.sp.a=some ad)/\∀W,zc w W->zc1 W (ad.add (j*10)) x:=HRW.out j x hx;obtain⟨ad',HVA',hl'⟩:∃ad,Hid (U.sp.a=some ad)/\∀W,zc w W->zc1 W (ad.add (j*10)) y:=HRW'.out j y hy;have HL:Hid (∀W,zc w W->zc1 W (ad.add (j*10)) x):=show∀W,_ from hl
  have HL':Hid (∀W,zc w W->zc1 W (ad'.add (j*10)) y):=dD<|hl'
  have hlive:(s.live != s.live)=false:=by simp
  clear hl hl' hx hy;go_upto_region 12 with fail;obtain⟨I,HI⟩:∃I:World->Prop,Hid (∀u,I u↔zc wr u):=⟨fun u=>zc wr u,fun _=>Iff.rfl⟩
  have hI0:I wr.drew:=(HI _).2 (gW _)
  have hx10:∀y:zk I,y.world.cell? ⟨w.heap.size,10,none⟩=some (.slice (some ad) np V.sp.c):=fun y=>by rw[<-HVA.out,<-HN9.out];exact(X0.grew (JW.trans ((HI _).1 y.holds))).c 10 rfl
  have hy10:∀y:zk I,y.world.cell? ⟨w.heap.size+1,10,none⟩=some (.slice (some ad') np U.sp.c):=fun y=>by rw[<-HVA'.out,<-HO9.out];exact(Y0.grew (JW.trans ((HI _).1 y.holds))).c 10 rfl
  have hd0:∀q:zk I,q.world.cell? (ad.add (j*10))=some (.bool s.live):=fun q=>by rw[<-HAT.live];exact(HL _ (G0.trans (JW.trans ((HI _).1 q.holds)))).1
  have hd1:∀q:zk I,q.world.cell? { block:=(ad.add (j*10)).block,off:=(ad.add (j*10)).off+1 }=some (x.ar.x):=fun q=>(HL _ (G0.trans (JW.trans ((HI _).1 q.holds)))).2.1
  have hd2:∀q:zk I,q.world.cell? { block:=(ad.add (j*10)).block,off:=(ad.add (j*10)).off+2 }=some (x.t0.x):=fun q=>(HL _ (G0.trans (JW.trans ((HI _).1 q.holds)))).2.2.1
  have hd3:∀q:zk I,q.world.cell? { block:=(ad.add (j*10)).block,off:=(ad.add (j*10)).off+3 }=some (x.t1.x):=fun q=>(HL _ (G0.trans (JW.trans ((HI _).1 q.holds)))).2.2.2.1
  have hd4:∀q:zk I,q.world.cell? { block:=(ad.add (j*10)).block,off:=(ad.add (j*10)).off+4 }=some (x.t2.x):=fun q=>(HL _ (G0.trans (JW.trans ((HI _).1 q.holds)))).2.2.2.2.1
  have hd5:∀q:zk I,q.world.cell? { block:=(ad.add (j*10)).block,off:=(ad.add (j*10)).off+5 }=some (x.t3.x):=fun q=>(HL _ (G0.trans (JW.trans ((HI _).1 q.holds)))).2.2.2.2.2.1
  have hd6:∀q:zk I,q.world.cell? { block:=(ad.add (j*10)).block,off:=(ad.add (j*10)).off+6 }=some (x.t4.x):=fun q=>(HL _ (G0.trans (JW.trans ((HI _).1 q.holds)))).2.2.2.2.2.2.1
  have hd7:∀q:zk I,q.world.cell? { block:=(ad.add (j*10)).block,off:=(ad.add (j*10)).off+7 }=some (x.t5.x):=fun q=>(HL _ (G0.trans (JW.trans ((HI _).1 q.holds)))).2.2.2.2.2.2.2.1
  have hd8:∀q:zk I,q.world.cell? { block:=(ad.add (j*10)).block,off:=(ad.add (j*10)).off+8 }=some (x.t6.x):=fun q=>(HL _ (G0.trans (JW.trans ((HI _).1 q.holds)))).2.2.2.2.2.2.2.2.1
  have hd9:∀q:zk I,q.world.cell? { block:=(ad.add (j*10)).block,off:=(ad.add (j*10)).off+9 }=some (x.t7.x):=fun q=>(HL _ (G0.trans (JW.trans ((HI _).1 q.holds)))).2.2.2.2.2.2.2.2.2
  have hf0:∀q:zk I,q.world.cell? (ad'.add (j*10))=some (.bool s.live):=fun q=>by rw[<-HAT'.live];exact(HL' _ (G0.trans (JW.trans ((HI _).1 q.holds)))).1
  have hf1:∀q:zk I,q.world.cell? { block:=(ad'.add (j*10)).block,off:=(ad'.add (j*10)).off+1 }=some (y.ar.x):=fun q=>(HL' _ (G0.trans (JW.trans ((HI _).1 q.holds)))).2.1
  have hf2:∀q:zk I,q.world.cell? { block:=(ad'.add (j*10)).block,off:=(ad'.add (j*10)).off+2 }=some (y.t0.x):=fun q=>(HL' _ (G0.trans (JW.trans ((HI _).1 q.holds)))).2.2.1
  have hf3:∀q:zk I,q.world.cell? { block:=(ad'.add (j*10)).block,off:=(ad'.add (j*10)).off+3 }=some (y.t1.x):=fun q=>(HL' _ (G0.trans (JW.trans ((HI _).1 q.holds)))).2.2.2.1
  have hf4:∀q:zk I,q.world.cell? { block:=(ad'.add (j*10)).block,off:=(ad'.add (j*10)).off+4 }=some (y.t2.x):=fun q=>(HL' _ (G0.trans (JW.trans ((HI _).1 q.holds)))).2.2.2.2.1
  have hf5:∀q:zk I,q.world.cell? { block:=(ad'.add (j*10)).block,off:=(ad'.add (j*10)).off+5 }=some (y.t3.x):=fun q=>(HL' _ (G0.trans (JW.trans ((HI _).1 q.holds)))).2.2.2.2.2.1
  have hf6:∀q:zk I,q.world.cell? { block:=(ad'.add (j*10)).block,off:=(ad'.add (j*10)).off+6 }=some (y.t4.x):=fun q=>(HL' _ (G0.trans (JW.trans ((HI _).1 q.holds)))).2.2.2.2.2.2.1
  have hf7:∀q:zk I,q.world.cell? { block:=(ad'.add (j*10)).block,off:=(ad'.add (j*10)).off+7 }=some (y.t5.x):=fun q=>(HL' _ (G0.trans (JW.trans ((HI _).1 q.holds)))).2.2.2.2.2.2.2.1
  have hf8:∀q:zk I,q.world.cell? { block:=(ad'.add (j*10)).block,off:=(ad'.add (j*10)).off+8 }=some (y.t6.x):=fun q=>(HL' _ (G0.trans (JW.trans ((HI _).1 q.holds)))).2.2.2.2.2.2.2.2.1
  have hf9:∀q:zk I,q.world.cell? { block:=(ad'.add (j*10)).block,off:=(ad'.add (j*10)).off+9 }=some (y.t7.x):=fun q=>(HL' _ (G0.trans (JW.trans ((HI _).1 q.holds)))).2.2.2.2.2.2.2.2.2
  have hne:Nonempty (zk I):=⟨⟨_,hI0⟩⟩;refine qa (I:=I) 45 [(26,⟨fun v=>v= .bool true,fun _ _=>True,fun p q=>zc p q,fun _=>True⟩),(42,⟨fun v=>v= .bool true,fun _ _=>True,fun p q=>zc p q,fun _=>True⟩)] hI0 qu (by kernel_rfl) rfl rfl (by decide) ?hS ?hp ?hpre ?hpr0 ?_
  case hS=>
   intro x hx;simp only[mC,nM,or_false]at hx
   rcases hx with rfl|rfl <;> exact⟨_,rfl⟩
  case hp=>
   intro k s j t hk hj hjk hanc v p q hst hpo;have hk':=zt hk;simp only[mC,pJ,nM,or_false]at hk'
   rcases hk' with⟨rfl,rfl⟩|⟨rfl,rfl⟩ <;> trivial
  case hpre=>
   intro j t k s hj hk hjk p q hst hpr;have hj':=zt hj;simp only[mC,pJ,nM,or_false]at hj'
   rcases hj' with⟨rfl,rfl⟩|⟨rfl,rfl⟩ <;> trivial
  case hpr0=>
   intro k t hk;have hk':=zt hk;simp only[mC,pJ,nM,or_false]at hk'
   rcases hk' with⟨rfl,rfl⟩|⟨rfl,rfl⟩ <;> trivial
  simp only[List.take,List.drop];iterate 26 (refine zh rfl rfl rfl (fun K hK=>?_);go_big_quiet_op;refine hK _ ?_;clear hK)
  refine zz rfl rfl (fun w' hI' hpr hF=>?_) (fun v1 hv=>?_)
  ·refine zP.call [x.ar.x,y.ar.x] rfl func49 rfl rfl rfl ?_;refine(zgM _ _ s.ars w' (HAT.ar.grew (G0.trans (JW.trans ((HI _).1 hI')))) (HAT'.ar.grew (G0.trans (JW.trans ((HI _).1 hI'))))).mono ?_;rintro e w'' ⟨rfl,gg⟩;exact⟨_,rfl,(HI _).2 (((HI _).1 hI').trans gg),gg,rfl,trivial⟩
  subst hv;simp only[Act.put,sB,sS,sZ];iterate 15 (refine zh rfl rfl rfl (fun K hK=>?_);go_big_quiet_op;refine hK _ ?_;clear hK)
  refine zz rfl rfl (fun w' hI' hpr hF=>?_) (fun v1 hv=>?_)
  ·refine zP.call [.agg #[x.t0.x,x.t1.x,x.t2.x,x.t3.x,x.t4.x,x.t5.x,x.t6.x,x.t7.x],.agg #[y.t0.x,y.t1.x,y.t2.x,y.t3.x,y.t4.x,y.t5.x,y.t6.x,y.t7.x]] rfl func50 rfl rfl rfl ?_;refine(zgK x.tab y.tab s.tb w' (HAT.tb.grew (G0.trans (JW.trans ((HI _).1 hI')))) (HAT'.tb.grew (G0.trans (JW.trans ((HI _).1 hI'))))).mono ?_;rintro e w'' ⟨rfl,gg⟩;exact⟨_,rfl,(HI _).2 (((HI _).1 hI').trans gg),gg,rfl,trivial⟩
  subst hv;simp only[Act.put,sB,sS,sZ];iterate 2 (refine zh rfl rfl rfl (fun K hK=>?_);go_big_quiet_op;refine hK _ ?_;clear hK)
  refine jc fun W4 hI4 hF=>?_
  have K4:Hid (zc W0 W4):=JW.trans ((HI _).1 hI4);clear hF hI4 hI0 hne hx10 hy10 hlive hd0 hf0 hd1 hf1 hd2 hf2 hd3 hf3 hd4 hf4 hd5 hf5 hd6 hf6 hd7 hf7 hd8 hf8 hd9 hf9;go_wp2
  go_roundg (np -(j+1))
  case measure=>omega
  exact⟨j+1,by omega,by omega,by go_num,K4⟩
 have hltz2:¬(j:Int)< (np:Int):=by omega
 go_wp2;go_ret;exact⟨rfl,G0.trans JW⟩
end
end Go.Proofs.YtangilolcekceaaGreat
