import Derived.Test.YtangilolcekceaaGreatPE8
import Derived.Laws.BytesArg
namespace Go.Proofs.YtangilolcekceaaGreat
set_option maxRecDepth 100000
set_option maxHeartbeats 4000000
variable{Q:Exit->Act->World->Prop} {R:List Int} {T:List (Nat->En)} {Z:Int} {b i j q:Nat} {m m':Ma} {o:Oper} {ops:Array Oper} {vs:List Value}
open Go.Proofs.Tryz
section
open Go.RowKit
def goL (f:Nat->Int) (n k:Nat):Int:=zh ((List.range' k (n - k)).map f)
def thr (a b:Int):Int:=if a=0 then b else a
theorem zek (f:Nat->Int) (n:Nat):goL f n 0=zh ((List.range n).map f):=by unfold goL;rw[List.range_eq_range'];simp
theorem zej (f:Nat->Int) (n:Nat):goL f n n=0:=by unfold goL;simp[zh]
theorem zei (f:Nat->Int) {n k:Nat} (h:k<n):goL f n k=thr (f k) (goL f n (k+1)):=by
 unfold goL thr;obtain⟨j,hj⟩:∃j,n - k=j+1:=⟨n - k - 1,by omega⟩
 rw[hj,show n -(k+1)=j by omega,List.range'_succ,mP,zK]
theorem zgu {f:Nat->Int} {n k:Nat} (h:k<n) (hz:zh (goL f n k :: R)=Z) (hf:f k≠0):Z=f k:=by
 rw[zei f h]at hz;unfold thr at hz;rw[if_neg hf]at hz;exact qk hz hf
theorem zg8 {f:Nat->Int} {n k:Nat} (h:k<n) (hz:zh (goL f n k :: R)=Z) (hf:f k=0):zh (goL f n (k+1) :: R)=Z:=by
 rw[zei f h]at hz;unfold thr at hz;rw[if_pos hf]at hz;exact hz
theorem zf4 {a b:Int} (hz:zh (thr a b :: R)=Z) (ha:a≠0):Z=a:=by
 unfold thr at hz;rw[if_neg ha]at hz;exact qk hz ha
theorem zky {a b:Int} (hz:zh (thr a b :: R)=Z) (ha:a=0):zh (b :: R)=Z:=by
 unfold thr at hz;rw[if_pos ha]at hz;exact hz
def spF (m:Ma) (i:Nat):Int:=match m.sp[i]? with | some s=>j9 m s | none=>0
theorem zk0 (m:Ma):zh (m.sp.map (j9 m))=goL (spF m) m.sp.length 0:=by
 rw[zek]
 congr 1
 apply List.ext_getElem?
 intro i;rw[List.getElem?_map,List.getElem?_map]
 rcases Nat.lt_or_ge i m.sp.length with h|h
 ·rw[gE h,List.getElem?_range h];simp only[Option.map_some,spF,gE h]
 rw[gN h,gN (by simpa using h)]
 rfl
theorem zlK {s:Sp} (h:m.sp[i]? =some s):spF m i=j9 m s:=by unfold spF;rw[h]
theorem zkX (a b:Int) (R:List Int):zh (thr a b :: R)=zh (a :: b :: R):=by
 unfold thr
 by_cases h:a=0
 ·rw[if_pos h,zK a,if_pos h]
 rw[if_neg h,zK,if_neg h,zK,if_neg h]
theorem zfB {s:Sp} (h:tbW s.tb=0) (n:Nat):enW (zi s n)=0:=by
 unfold zi zaG;have hall:=ZB.1 h;have:zfW (s.tb[n / 8]?.getD []):=by
  cases e:s.tb[n / 8]? with
  | none=>exact .inl rfl
  | some x=>exact hall x (mG e)
 exact this.get (n % 8)
theorem zkI {e:En} (h:enW e=0):0<=e.n:=by
 unfold enW at h
 split at h
 ·split at h
  ·omega
  cases h
 cases h
def pgF (m:Ma) (s:Sp) (n:Nat):Int:=if(zi s n).kind=0 then 0 else Jn m (zI s.ars n) (zi s n)
theorem zk5 (m:Ma) (s:Sp):j9 m s=goL (pgF m s) 64 0:=by rw[zek];rfl
def pvC (m:Ma) (i:Nat):Option Ca:=if i=0 then none else m.ca[i - 1]?
theorem zjL (m:Ma):pvC m 0=none:=rfl
theorem zls {c:Ca} (h:m.ca[i]? =some c):J8 m (pvC m i) (m.ca.drop i)=thr (caE m (pvC m i) c) (J8 m (pvC m (i+1)) (m.ca.drop (i+1))):=by
 have hl:=(gS.1 h).1;have hc:m.ca[i]=c:=by rw[gE hl]at h;cases h;rfl
 have hp:pvC m (i+1)=some c:=by unfold pvC;rw[if_neg (by omega)];exact h
 rw[List.drop_eq_getElem_cons hl,hc,hp];rfl
structure Pts (m:Ma):Prop where
 s4:m.sp.length<=4
 f40:m.fs.length<=40
 fr:∀(k:Nat) f,m.fs[k]? =some f->0<=f.r/\f.r<=1000
 fl:m.fl.length<=5/\∀f∈m.fl,f.bl.length<=12
 ar:∀s∈m.sp,(wrL s.ars).1=0/\tbW s.tb=0
theorem zkA (h:Jc m=0):Pts m:=by
 unfold Jc at h;rw[zB]at h;have p1:j5 m.fs m.hand=0:=h _ (by simp)
 have p5:stW m.fl m.cnt=0:=h _ (by simp)
 have p9:(if 4<m.sp.length then(4:Int)else 0)=0:=h _ (by simp)
 have p10:=zB.1 (h (zh (m.sp.map spE)) (by simp))
 obtain⟨⟨a1,a2,a3⟩,a4,a5⟩:=(jI _ _).1 p5;unfold j5 at p1
 split at p1
 ·cases p1
 rename_i b1
 split at p1
 ·rename_i b2
  refine⟨?_,by omega,fun k f hf=>?_,⟨a1,fun f hf=>?_⟩,fun s hs=>?_⟩
  ·split at p9
   ·cases p9
   omega
  ·have hw:=JK.1 b2 f (mG hf);unfold frW at hw
   split at hw
   ·cases hw
   rename_i c1
   simp[inB]at c1
   omega
  ·obtain⟨k1,k2,k3⟩:=a4 f hf;have:=zhg k1.1 k1.2;omega
  have h3:=p10 (spE s) (List.mem_map.2 ⟨s,hs,rfl⟩);unfold spE at h3
  split at h3
  ·rename_i c
   exact absurd h3 c
  rename_i c
  split at h3
  ·rename_i d
   exact absurd h3 d
  rename_i d
  exact⟨Classical.byContradiction c,Classical.byContradiction d⟩
 rename_i b2
 exact absurd p1 b2
theorem tb8 {t:List (List En)} (h:tbW t=0):∀x∈t,x.length<=8:=fun x hx=>by
 rcases ZB.1 h x hx with e|e
 ·rw[e];simp
 rw[e.1];omega
theorem zgF {l:List Ca} {c:Ca} {k:Int} (h:l[j]? =some c):zS (l.take (j+1)) k=zS (l.take j) k+(decide (c.fr=k)).toNat:=by
 unfold zS;rw[List.take_add_one,h]
 simp[List.countP_append,List.countP_cons,Bool.toNat]
theorem zjk {l:List Ca} (j:Nat) {k:Int}:zS (l.take j) k<=j:=nT List.countP_le_length (by simp;omega)
theorem Jb (V:MaV) (m:Ma) (w:World) (hm:zF w V m):
  Calls prog 10 #[.agg (mL V m).toArray] w fun e w'=>e= .returned (I6 (maW m))/\zc w w':=by
 have HM:Hid (zF w V m):=hm;obtain⟨n1,n2,-,-,-,-,n7,n8,n9⟩:=hm.ns;obtain⟨xs,hxl,hrow,hsp⟩:=hm.spaces;have HFR:Hid (QZ w V.f.a m.fs):=hm.frs;have HCA:Hid (zbG w V.ca.a m.ca):=hm.cas;have HSL:Hid (zaj w V.s.a m.sl):=hm.sls;have hcab:=hm.ca.2;have hslb:=hm.sl.2;obtain⟨_,_,hfe,_,hfr⟩:=jb.rows hm.fl;have HFL:Hid (QA w V.fl.a m.fl):=show QA _ _ _ by
  simp only[vJ]at hfe;rw[hfe.1];exact hfr
 have HPT:Hid (∀W,zc w W->Calls prog 40 #[.agg (mL V m).toArray] W fun e w'=>e= .returned (I6 (Jc m))/\zc W w'):=dD<|fun W hW=>zeZ V m W (HM.grew hW)
 have HEN:Hid (∀W x e,zc w W->0<=e.n->Calls prog 43 #[.agg (mL V m).toArray,.agg (onv x).toArray,.agg #[I6 e.kind,I6 e.n,.bool e.wr]] W fun r w'=>r= .returned (I6 (Jn m x e))/\zc W w'):=dD<|fun W x e hW h0=>ze0 V m x e W (HM.grew hW) h0
 have HHO:Hid (∀W kind k,zc w W->Pts m->Calls prog 44 #[.agg (mL V m).toArray,I6 kind,I6 k] W fun e w'=>e= .returned (I6 (Zt m kind k:Int))/\zc W w'):=dD<|fun W kind k hW hp=>zc2 V m kind k W (HM.grew hW) hp.s4 (fun s hs=>tb8 (hp.ar s hs).2)
 obtain⟨Z,HZ⟩:∃Z,Hid (maW m=Z):=⟨_,rfl⟩;rw[HZ.out];have Z1:Hid (zh [Jc m,J8 m none m.ca,zh (m.sp.map (j9 m)),zh ((List.range m.fs.length).map (frE m)),zh ((List.range m.sl.length).map (QN m))]=Z):=HZ.out;obtain⟨⟨fa,fn,fc⟩,⟨sa,sn,sc⟩,vsb,vsq,vdb,vdq,⟨fla,fln,flc⟩,⟨caa,can,cac⟩,⟨spa,spn,spc⟩⟩:=V;dsimp only[mL]at n1 n2 n7 n8 n9 hrow HFR HCA HSL HFL HPT HEN HHO⊢;have HN1:Hid (m.fs.length=fn):=n1.symm;have HN2:Hid (m.sl.length=sn):=n2.symm;have HN7:Hid (m.fl.length=fln):=n7.symm;have HN8:Hid (m.ca.length=can):=n8.symm;have HN9:Hid (m.sp.length=spn):=n9.symm;have hb8:can<=5864062014805:=by rw[n8];have h:m.ca.length*24<=140737488355328:=hcab;omega
 have hb2:sn<=9223372036854775807:=by rw[n2];have h:m.sl.length*8<=140737488355328:=hslb;omega
 have HXL:Hid (xs.length=spn):=dD<|by rw[hxl];exact HN9.out
 have HRW:Hid (∀(j:Nat) x,xs[j]? =some x->∃ad,spa=some ad/\∀W,zc w W->zeB W (ad.add (j*10)) x):=dD<|hrow
 have HSP:Hid (∀(i:Nat) x s,xs[i]? =some x->m.sp[i]? =some s->z5 w x s):=dD<|hsp
 clear hm n1 n2 n7 n8 n9 hxl hrow hsp hfe hfr hcab hslb;obtain⟨W0,hW0⟩:∃W0,w.alloc (.cells #[.slice fa fn fc,I6 m.hand,.slice sa sn sc,vsb.x,vsq.x,vdb.x,vdq.x,.slice fla fln flc,I6 m.cnt,.slice caa can cac,.slice spa spn spc] 40)=W0:=⟨_,rfl⟩;have G0:=gA hW0
 have X0:=xA hW0
 have HW0:Hid (_=W0):=hW0;clear hW0
 go_enter func10,ntmps10
 go_upto_region 1 with fail;rw[HW0.out];obtain⟨x0,x1,x2,x3,x4,x5,x6,x7,x8,x9,x10⟩:=X0.c11;have hc:=HPT.out W0 G0.out;obtain⟨E1,HE1⟩:∃E1,Hid (Jc m=E1):=⟨_,rfl⟩;rw[HE1.out]at hc Z1;go_wp2_with fail;refine hc.mono ?_;clear hc;clear x0 x1 x2 x3 x4 x5 x6 x7 x8 x9 x10;rintro e W1 ⟨rfl,g⟩;have G1:=dD (G0.trans g);have X1:=dD (X0.grew g);clear g
 by_cases hz:E1=0
 rotate_left
 ·have hze:(E1 != 0)=true:=by simp[hz]
  have HF:Hid (Z=E1):=qk Z1 hz;clear hz;go_wp2;go_ret;exact⟨by rw[HF.out];first | rfl | skip,G1⟩
 have hze:(E1 != 0)=false:=by simp[hz]
 have Z2:Hid (zh [J8 m none m.ca,zh (m.sp.map (j9 m)),zh ((List.range m.fs.length).map (frE m)),zh ((List.range m.sl.length).map (QN m))]=Z):=qm Z1 hz;have HP:Hid (Pts m):=zkA (by rw[HE1.out];exact hz)
 have hsp4:spn<=4:=by rw[<-HN9.out];exact HP.s4
 have hfn40:fn<=40:=by rw[<-HN1.out];exact HP.f40
 clear hz;have x9:=X1.c 9 rfl;go_wp2;clear x9 hze
 go_loopg [29] can (fun gg s29 wr=>∃i:Nat,i<=can/\can - i<=gg/\s29=I6 i/\Hid (zc w wr)/\Hid (Box wr w.heap.size [.slice fa fn fc,I6 m.hand,.slice sa sn sc,vsb.x,vsq.x,vdb.x,vdq.x,.slice fla fln flc,I6 m.cnt,.slice caa can cac,.slice spa spn spc])/\Hid (zh [J8 m (pvC m i) (m.ca.drop i),zh (m.sp.map (j9 m)),zh ((List.range m.fs.length).map (frE m)),zh ((List.range m.sl.length).map (QN m))]=Z)/\Hid (∀(j:Nat) c,j<i->m.ca[j]? =some c->0<=c.file/\c.file<5/\0<=c.idx/\c.idx<12))
 case atStart=>exact⟨0,nZ _,by omega,rfl,G1,X1,Z2,fun j c hj=>absurd hj (nL _)⟩
 obtain⟨i,hi,hgg,rfl,GW,XW,ZW,OW⟩:=hrel
 by_cases hlt:i<can
 ·have hltz:(i:Int)< (can:Int):=by omega
  obtain⟨c,HC⟩:∃c,Hid (m.ca[i]? =some c):=⟨_,gE (by rw[HN8.out];exact hlt)⟩
  obtain⟨adc,hca,hl⟩:=HCA.out i c HC.out;have HL:Hid (∀W,zc w W->zjq W (adc.add (i*3)) c):=dD<|hl
  subst hca;obtain⟨d0,d1,d2⟩:=hl wr GW.out;have ZI:Hid (zh (thr (caE m (pvC m i) c) (J8 m (pvC m (i+1)) (m.ca.drop (i+1))) :: [zh (m.sp.map (j9 m)),zh ((List.range m.fs.length).map (frE m)),zh ((List.range m.sl.length).map (QN m))])=Z):=dD<|by have:=ZW.out;rw[zls HC.out]at this;exact this
  clear hl;go_upto_region 7 with fail;obtain⟨pc,HPC⟩:∃pc,Hid (wr.heap.size=pc):=⟨_,rfl⟩;obtain⟨W2,hW2⟩:∃W2,wr.alloc (.cells #[I6 c.file,I6 c.idx,I6 c.fr] 83)=W2:=⟨_,rfl⟩;have g2:=gP hW2
  have C2:=xP hW2 HPC
  have G2:=dD (GW.trans g2);have X2:=dD (XW.grew g2);rw[hW2,HPC.out];clear hW2 g2 d0 d1 d2;obtain⟨B1,HB1⟩:∃B1:Bool,Hid (B1=true↔(c.file<0\/(m.fl.length:Int)<=c.file\/c.idx<0\/bkN m c.file<=c.idx\/c.fr<0\/(m.fs.length:Int)<=c.fr)):=⟨decide (c.file<0\/(m.fl.length:Int)<=c.file\/c.idx<0\/bkN m c.file<=c.idx\/c.fr<0\/(m.fs.length:Int)<=c.fr),show _↔_ from decide_eq_true_iff⟩
  go_cut [29,78]from 29 to 130 (fun s29 s78 wx=>s29=I6 i/\s78= .bool B1/\Hid (zc w wx)/\Hid (Box wx w.heap.size [.slice fa fn fc,I6 m.hand,.slice sa sn sc,vsb.x,vsq.x,vdb.x,vdq.x,.slice fla fln flc,I6 m.cnt,.slice (some adc) can cac,.slice spa spn spc])/\Hid (Box wx pc [I6 c.file,I6 c.idx,I6 c.fr]))
  case first=>
   have x0:=X2.c 0 rfl;have x7:=X2.c 7 rfl;obtain⟨c0,c1,c2⟩:=C2.c3
   by_cases a1:c.file<0
   ·have a1d:decide (c.file<0)=true:=by simpa using a1
    have HV:Hid (B1=true):=HB1.2 (.inl a1);go_quiet (fail);go_wp2
    go_meet
    exact⟨rfl,by rw[HV.out],G2.trans (show Below _ _ _ from bD (bR _ _) _),X2.grew (show Below _ _ _ from bD (bR _ _) _),C2.grew (show Below _ _ _ from bD (bR _ _) _)⟩
   have a1d:decide (c.file<0)=false:=by simpa using a1
   by_cases a2:(fln:Int)<=c.file
   ·have a2d:decide ((fln:Int)<=c.file)=true:=by simpa using a2
    have HV:Hid (B1=true):=HB1.2 (.inr (.inl (by rw[HN7.out];exact a2)))
    go_quiet (fail);go_wp2
    go_meet
    exact⟨rfl,by rw[HV.out],G2.trans (show Below _ _ _ from bD (bR _ _) _),X2.grew (show Below _ _ _ from bD (bR _ _) _),C2.grew (show Below _ _ _ from bD (bR _ _) _)⟩
   have a2d:decide ((fln:Int)<=c.file)=false:=by simpa using a2
   obtain⟨jf,hjf⟩:∃jf:Nat,c.file=(jf:Int):=⟨c.file.toNat,by omega⟩
   obtain⟨ff,hff⟩:∃ff,m.fl[jf]? =some ff:=⟨_,gE (by rw[HN7.out];omega)⟩
   obtain⟨adl,hfl,ba,bc,_,hlf⟩:=HFL.out jf ff hff;obtain⟨-,e1⟩:=hlf W2 G2.out;obtain⟨bn,HBN⟩:∃bn,Hid (ff.bl.length=bn):=⟨_,rfl⟩;rw[HBN.out]at e1;have HBK:Hid (bkN m c.file=(bn:Int)):=dD<|by unfold bkN;rw[hjf,tN,gD,hff];simp only[Option.getD_some];rw[HBN.out]
   have hjz:(jf:Int)< (fln:Int):=by omega
   rw[hfl]at x7;rw[hjf]at c0;have a2n:decide (fln<=jf)=false:=decide_eq_false (by omega)
   have a1n:decide ((jf:Int)<0)=false:=decide_eq_false (by omega)
   have HJF:Hid (c.file=(jf:Int)):=hjf;have HA12:Hid (¬c.file<0/\¬(fln:Int)<=c.file):=show _/\_ from⟨a1,a2⟩
   clear hjf hff hlf hfl a1 a2
   by_cases a3:c.idx<0
   ·have a3d:decide (c.idx<0)=true:=by simpa using a3
    have HV:Hid (B1=true):=HB1.2 (.inr (.inr (.inl a3)));go_quiet (fail);go_wp2
    go_meet
    exact⟨rfl,by rw[HV.out],G2.trans (show Below _ _ _ from bD (bR _ _) _),X2.grew (show Below _ _ _ from bD (bR _ _) _),C2.grew (show Below _ _ _ from bD (bR _ _) _)⟩
   have a3d:decide (c.idx<0)=false:=by simpa using a3
   by_cases a4:(bn:Int)<=c.idx
   ·have a4d:decide ((bn:Int)<=c.idx)=true:=by simpa using a4
    have HV:Hid (B1=true):=HB1.2 (.inr (.inr (.inr (.inl (by rw[HBK.out];exact a4)))))
    go_quiet (fail);go_wp2
    go_meet
    exact⟨rfl,by rw[HV.out],G2.trans (show Below _ _ _ from bD (bR _ _) _),X2.grew (show Below _ _ _ from bD (bR _ _) _),C2.grew (show Below _ _ _ from bD (bR _ _) _)⟩
   have a4d:decide ((bn:Int)<=c.idx)=false:=by simpa using a4
   by_cases a5:c.fr<0
   ·have a5d:decide (c.fr<0)=true:=by simpa using a5
    have HV:Hid (B1=true):=HB1.2 (.inr (.inr (.inr (.inr (.inl a5)))));go_quiet (fail);go_wp2
    go_meet
    exact⟨rfl,by rw[HV.out],G2.trans (show Below _ _ _ from bD (bR _ _) _),X2.grew (show Below _ _ _ from bD (bR _ _) _),C2.grew (show Below _ _ _ from bD (bR _ _) _)⟩
   have a5d:decide (c.fr<0)=false:=by simpa using a5
   by_cases a6:(fn:Int)<=c.fr
   ·have a6d:decide ((fn:Int)<=c.fr)=true:=by simpa using a6
    have HV:Hid (B1=true):=HB1.2 (.inr (.inr (.inr (.inr (.inr (by rw[HN1.out];exact a6))))))
    go_quiet (fail);go_wp2
    go_meet
    exact⟨rfl,by rw[HV.out],G2.trans (show Below _ _ _ from bD (bR _ _) _),X2.grew (show Below _ _ _ from bD (bR _ _) _),C2.grew (show Below _ _ _ from bD (bR _ _) _)⟩
   have a6d:decide ((fn:Int)<=c.fr)=false:=by simpa using a6
   have HV:Hid (B1=false):=dD<|by
    cases hb:B1 with
    | false=>rfl
    | true=>
     have h1:=HB1.1 hb;have h2:=HA12.out;have h3:=HBK.out;have h4:=HN7.out;have h5:=HN1.out;omega
   go_quiet (fail);go_wp2
   go_meet
   exact⟨rfl,by rw[HV.out],G2.trans (show Below _ _ _ from bD (bR _ _) _),X2.grew (show Below _ _ _ from bD (bR _ _) _),C2.grew (show Below _ _ _ from bD (bR _ _) _)⟩
  obtain⟨rfl,rfl,G3,X3,C3⟩:=hcut
  cases hB:B1 with
  | true=>
   have HF:Hid (Z=3):=dD<|by
    have hb:caE m (pvC m i) c=3:=by unfold caE;rw[if_pos (HB1.1 hB)]
    rw[zf4 ZI (by rw[hb];decide),hb]
   go_wp2;go_ret;exact⟨by rw[HF.out];rfl,G3⟩
  | false=>
   have HOK:Hid (¬(c.file<0\/(m.fl.length:Int)<=c.file\/c.idx<0\/bkN m c.file<=c.idx\/c.fr<0\/(m.fs.length:Int)<=c.fr)):=dD<|fun h=>by have:=HB1.2 h;rw[hB]at this;cases this
   clear hB;have HRG:Hid (0<=c.file/\c.file<5/\0<=c.idx/\c.idx<12):=dD<|by
    have h1:=HOK.out;have h2:=HP.fl.1;have h3:bkN m c.file<=12:=by
     unfold bkN;rw[gD]
     cases e:m.fl[c.file.toNat]? with
     | none=>simp
     | some f=>have:=HP.fl.2 f (mG e);simp;omega
    omega
   obtain⟨j,hj⟩:∃j:Nat,c.fr=(j:Int):=⟨c.fr.toNat,by have:=HOK.out;omega⟩
   obtain⟨q,hq⟩:∃q,m.fs[j]? =some q:=⟨_,gE (by have:=HOK.out;omega)⟩
   have HQ:Hid (qa m c.fr=q):=dD<|by rw[hj];exact qZ hq
   obtain⟨adf,hfa,hl⟩:=HFR.out j q hq;have hjz:(j:Int)< (fn:Int):=by have:=HOK.out;have:=HN1.out;omega
   have XW3:Hid (Box wc w.heap.size [.slice (some adf) fn fc,I6 m.hand,.slice sa sn sc,vsb.x,vsq.x,vdb.x,vdq.x,.slice fla fln flc,I6 m.cnt,.slice (some adc) can cac,.slice spa spn spc]):=dD<|by rw[<-hfa];exact X3.out
   obtain⟨d0,d1,d2,d3,d4,d5,d6,d7,d8,d9,d10,d11,d12⟩:=hl wc G3.out;have c2:=C3.c 2 rfl;rw[hj]at c2;have HJ:Hid (c.fr=(j:Int)):=hj;have x0:=XW3.c 0 rfl;clear hj hq hl hfa;go_upto_region 10 with fail;obtain⟨pq,HPQ⟩:∃pq,Hid (wc.heap.size=pq):=⟨_,rfl⟩;obtain⟨W4,hW4⟩:∃W4,wc.alloc (.cells #[U8 q.p.b0,U8 q.p.b1,U8 q.p.b2,U8 q.p.b3,U8 q.p.b4,U8 q.p.b5,U8 q.p.b6,U8 q.p.b7,I6 q.r,.bool q.u,.bool q.d,I6 q.f,I6 q.x] 59)=W4:=⟨_,rfl⟩;have g4:=gP hW4
   have Q4:=xP hW4 HPQ
   have G4:=dD (G3.trans g4);have X4:=dD (X3.grew g4);have C4:=dD (C3.grew g4);rw[hW4,HPQ.out];clear hW4 g4 x0 c2 d0 d1 d2 d3 d4 d5 d6 d7 d8 d9 d10 d11 d12;have HBAD:Hid (q.r=0\/q.f≠c.file\/q.x≠c.idx->Z=7):=show _->_ from fun h=>by
    have hb:caE m (pvC m i) c=7:=by unfold caE;rw[if_neg HOK.out,HQ.out,if_pos h]
    rw[zf4 ZI (by rw[hb];decide),hb]
   have q8:=Q4.c 8 rfl;have q11:=Q4.c 11 rfl;have q12:=Q4.c 12 rfl;have c0:=C4.c 0 rfl;have c1:=C4.c 1 rfl
   by_cases k1:q.r=0
   ·have k1e:(q.r == 0)=true:=by simp[k1]
    have HF:Hid (Z=7):=HBAD.out (.inl k1);clear k1;go_wp2;go_ret;exact⟨by rw[HF.out];rfl,G4⟩
   have k1e:(q.r == 0)=false:=by simp[k1]
   by_cases k2:q.f=c.file
   rotate_left
   ·have k2e:(q.f != c.file)=true:=by simp[k2]
    have HF:Hid (Z=7):=HBAD.out (.inr (.inl k2));clear k1 k2;go_wp2;go_ret;exact⟨by rw[HF.out];rfl,G4⟩
   have k2e:(q.f != c.file)=false:=by simp[k2]
   by_cases k3:q.x=c.idx
   rotate_left
   ·have k3e:(q.x != c.idx)=true:=by simp[k3]
    have HF:Hid (Z=7):=HBAD.out (.inr (.inr k3));clear k1 k2 k3;go_wp2;go_ret;exact⟨by rw[HF.out];rfl,G4⟩
   have k3e:(q.x != c.idx)=false:=by simp[k3]
   have HGD:Hid (caE m (pvC m i) c=match pvC m i with | some q=>(if j2 c<=j2 q then 2 else 0) | none=>0):=dD<|by
    unfold caE;rw[if_neg HOK.out,HQ.out,if_neg (by rintro(h | h | h) <;> contradiction)]
    cases pvC m i <;> rfl
   have OW':Hid (∀(j:Nat) c,j<i+1->m.ca[j]? =some c->0<=c.file/\c.file<5/\0<=c.idx/\c.idx<12):=dD<|fun j c' hj' hc'=>by
    by_cases e:j=i
    ·subst e;rw[HC.out]at hc';cases hc';exact HRG.out
    exact OW j c' (by omega) hc'
   clear k1 k2 k3;go_upto_region 12 with fail;clear k1e k2e k3e q8 q11 q12;obtain⟨r0,r1,r2,r3⟩:=HRG.out;have x9:=X4.c 9 rfl
   by_cases h0:i=0
   ·subst h0;have ZN:Hid (zh [J8 m (pvC m (0+1)) (m.ca.drop (0+1)),zh (m.sp.map (j9 m)),zh ((List.range m.fs.length).map (frE m)),zh ((List.range m.sl.length).map (QN m))]=Z):=zky ZI (HGD.trans (by rw[zjL]))
    go_quiet (fail);go_wp2
    go_roundg (can -(0+1))
    case measure=>omega
    exact⟨0+1,by omega,by omega,by go_num,G4.trans (show Below _ _ _ from bD (bR _ _) _),X4.grew (show Below _ _ _ from bD (bR _ _) _),ZN,OW'⟩
   obtain⟨i',rfl⟩:∃i',i=i'+1:=⟨i - 1,by omega⟩
   obtain⟨c',HC'⟩:∃c',Hid (m.ca[i']? =some c'):=⟨_,gE (by rw[HN8.out];omega)⟩
   obtain⟨_,he,hl⟩:=HCA.out i' c' HC'.out;cases he;obtain⟨e0,e1,-⟩:=hl W4 G4.out;obtain⟨s0,s1,s2,s3⟩:=OW.out i' c' (by omega) HC'.out
   have HPV:Hid (pvC m (i'+1)=some c'):=dD<|by unfold pvC;rw[if_neg (by omega)];exact HC'.out
   have hiz:(((i'+1:Nat):Int) - 1)=(i':Int):=by omega
   have hil:(i':Int)< (can:Int):=by omega
   have hpz:(0:Int)< ((i'+1:Nat):Int):=by omega
   clear hl h0
   by_cases hk:100*c.file+c.idx<=100*c'.file+c'.idx
   ·have hkd:decide (100*c.file+c.idx<=100*c'.file+c'.idx)=true:=by simpa using hk
    have HF:Hid (Z=2):=dD<|by
     have hb:caE m (pvC m (i'+1)) c=2:=by rw[HGD.out,HPV.out];exact if_pos hk
     rw[zf4 ZI (by rw[hb];decide),hb]
    clear hk;go_quiet (fail);go_wp2;go_ret;exact⟨by rw[HF.out];rfl,G4.trans (show Below _ _ _ from bD (bR _ _) _)⟩
   have hkd:decide (100*c.file+c.idx<=100*c'.file+c'.idx)=false:=by simpa using hk
   have ZN:Hid (zh [J8 m (pvC m (i'+1+1)) (m.ca.drop (i'+1+1)),zh (m.sp.map (j9 m)),zh ((List.range m.fs.length).map (frE m)),zh ((List.range m.sl.length).map (QN m))]=Z):=zky ZI (by rw[HGD.out,HPV.out];exact if_neg hk)
   clear hk;go_quiet (fail);go_wp2
   go_roundg (can -(i'+1+1))
   case measure=>omega
   exact⟨i'+1+1,by omega,by omega,by go_num,G4.trans (show Below _ _ _ from bD (bR _ _) _),X4.grew (show Below _ _ _ from bD (bR _ _) _),ZN,OW'⟩
 have hltz:¬(i:Int)< (can:Int):=by omega
 obtain rfl:can=i:=by omega
 have Z3:Hid (zh [zh (m.sp.map (j9 m)),zh ((List.range m.fs.length).map (frE m)),zh ((List.range m.sl.length).map (QN m))]=Z):=qm ZW (by rw[List.drop_of_length_le (by rw[HN8.out];exact nR _)];rfl)
 have Z4:Hid (zh [goL (spF m) m.sp.length 0,zh ((List.range m.fs.length).map (frE m)),zh ((List.range m.sl.length).map (QN m))]=Z):=dD<|by have:=Z3.out;rw[zk0]at this;exact this
 have x10:=XW.c 10 rfl;go_wp2;clear x10
 go_loopg [134] spn (fun gg s134 wr=>∃p:Nat,p<=spn/\spn - p<=gg/\s134=I6 p/\Hid (zc w wr)/\Hid (Box wr w.heap.size [.slice fa fn fc,I6 m.hand,.slice sa sn sc,vsb.x,vsq.x,vdb.x,vdq.x,.slice fla fln flc,I6 m.cnt,.slice caa can cac,.slice spa spn spc])/\Hid (zh [goL (spF m) m.sp.length p,zh ((List.range m.fs.length).map (frE m)),zh ((List.range m.sl.length).map (QN m))]=Z))
 case atStart=>exact⟨0,nZ _,by omega,rfl,GW,XW,Z4⟩
 obtain⟨p,hp,hgp,rfl,GP,XP,ZP⟩:=hrel
 by_cases hlp:p<spn
 ·have hlpz:(p:Int)< (spn:Int):=by omega
  obtain⟨x,hx⟩:∃x,xs[p]? =some x:=⟨_,gE (by rw[HXL.out];exact hlp)⟩
  obtain⟨s,HS⟩:∃s,Hid (m.sp[p]? =some s):=⟨_,gE (by rw[HN9.out];exact hlp)⟩
  have HAT:Hid (z5 w x s):=HSP.out p x s hx HS.out;obtain⟨ad,rfl,hl⟩:=HRW.out p x hx;obtain⟨d0,d1,d2,d3,d4,d5,d6,d7,d8,d9⟩:=hl wr GP.out;have HRT:Hid ((wrL s.ars).1=0/\tbW s.tb=0):=HP.ar s (mG HS);have ZS:Hid (zh (goL (pgF m s) 64 0 :: [goL (spF m) m.sp.length (p+1),zh ((List.range m.fs.length).map (frE m)),zh ((List.range m.sl.length).map (QN m))])=Z):=show _=_ by
   have h1:=ZP.out;rw[zei (spF m) (by rw[HN9.out];exact hlp),zkX,zlK HS,zk5]at h1
   exact h1
  have HON:Hid (∀W,zc w W->Calls prog 41 #[x.ar.x] W fun e w'=>e= .returned (.agg (zz (tab (zI s.ars))).toArray)/\zc W w'):=dD<|fun W hW=>jL _ s.ars W (HAT.ar.grew hW) (jH.1 HRT.1).2.lies
  have HFT:Hid (∀W,zc w W->Calls prog 42 #[.agg #[x.t0.x,x.t1.x,x.t2.x,x.t3.x,x.t4.x,x.t5.x,x.t6.x,x.t7.x]] W fun e w'=>e= .returned (.agg (qo (Jl s.tb)).toArray)/\zc W w'):=dD<|fun W hW=>zbo x.tab s.tb W ((HAT.grew hW).tb) (tb8 HRT.2)
  have HF64:Hid (∀j,j<64->(Jl s.tb)[j]? =some (zi s j)):=dD<|fun j hj=>zb1 s.tb hj
  have hz:=zaR;obtain⟨Z0,HZ0⟩:∃Z0,Hid (zz (tab fun _=>on0)=Z0):=⟨_,rfl⟩
  rw[HZ0.out]at hz;have HZL:Hid (Z0.length=384):=dD<|by rw[<-HZ0.out,js]
  have HPL:Hid ((zz (tab (zI s.ars))).length=384):=js _;have HPO:Hid (∀v∈zz (tab (zI s.ars)),v.oneCell'=true):=QX _;have HCO:Hid (∀k,k<64->∀(i:Nat) u,(onv (zI s.ars k))[i]? =some u->(zz (tab (zI s.ars)))[k*6+i]? =some u):=show∀k,_ from fun k hk i u hu=>Zn (Jr hk) i _ hu
  generalize zz (tab (zI s.ars))=CO at HON HPL HPO HCO
  clear hl hx;go_upto_region 18 with fail;obtain⟨px,HPX⟩:∃px,Hid (wr.heap.size=px):=⟨_,rfl⟩;obtain⟨W5,hW5⟩:∃W5,wr.alloc (.cells #[.bool x.live,x.ar.x,x.t0.x,x.t1.x,x.t2.x,x.t3.x,x.t4.x,x.t5.x,x.t6.x,x.t7.x] 65)=W5:=⟨_,rfl⟩;have g5:=gP hW5
  have S5:=xP hW5 HPX
  have G5:=dD (GP.trans g5);have X5:=dD (XP.grew g5);rw[hW5,HPX.out];clear hW5 g5 d0 d1 d2 d3 d4 d5 d6 d7 d8 d9;have s1:=S5.c 1 rfl;have hc:=HON.out W5 G5.out;go_wp2_with fail;refine hc.mono ?_;clear s1 hc;rintro e W6 ⟨rfl,g6⟩;obtain⟨po,HPQ⟩:∃po,Hid (W6.heap.size=po):=⟨_,rfl⟩;have G6:=dD (G5.trans g6);have X6:=dD (X5.grew g6);have S6:=dD (S5.grew g6);clear g6
  go_upto_region 19 with(refine zw rfl 97 (.tmp 9) (.tmp 140) rfl W6.heap.size rfl CO rfl (Box.top W6 Z0 97 rfl) (by rw[HPL.out,HZL.out]) (by rw[HZL.out];exact zmD) HPO.out ?_)
  intro W7 b7 g7 s7;have g67:zc W6 W7:=zd (za _ _) g7 (nR _);have G7:=dD (G6.trans g67);have X7:=dD (X6.grew g67);have S7:=dD (S6.grew g67);rw[HPQ.out]at b7⊢;have P7:Hid (Box W7 po CO):=b7;clear b7 g7 s7 g67 hz;try simp only[Act.put]
  have s2:=S7.c 2 rfl;have s3:=S7.c 3 rfl;have s4:=S7.c 4 rfl;have s5:=S7.c 5 rfl;have s6:=S7.c 6 rfl;have s7:=S7.c 7 rfl;have s8:=S7.c 8 rfl;have s9:=S7.c 9 rfl;have hc:=HFT.out W7 G7.out;go_wp2_with fail;refine hc.mono ?_;clear hc s2 s3 s4 s5 s6 s7 s8 s9;rintro e W8 ⟨rfl,g8⟩;have G8:=dD (G7.trans g8);have X8:=dD (X7.grew g8);have P8:=dD (P7.grew g8);clear g8;go_wp2
  go_loopg [144] 64 (fun gg s144 wr=>∃n:Nat,n<=64/\64 - n<=gg/\s144=I6 n/\Hid (zc w wr)/\Hid (Box wr w.heap.size [.slice fa fn fc,I6 m.hand,.slice sa sn sc,vsb.x,vsq.x,vdb.x,vdq.x,.slice fla fln flc,I6 m.cnt,.slice caa can cac,.slice (some ad) spn spc])/\Hid (Box wr po CO)/\Hid (zh (goL (pgF m s) 64 n :: [goL (spF m) m.sp.length (p+1),zh ((List.range m.fs.length).map (frE m)),zh ((List.range m.sl.length).map (QN m))])=Z))
  case atStart=>exact⟨0,nZ _,by omega,rfl,G8,X8,P8,ZS⟩
  obtain⟨n,hn,hgn,rfl,G9,X9,P9,Z9⟩:=hrel
  by_cases hln:n<64
  ·have hlnz:(n:Int)<64:=by omega
   obtain⟨e,HE⟩:∃e,Hid (zi s n=e):=⟨_,rfl⟩;obtain⟨o,HO⟩:∃o,Hid (zI s.ars n=o):=⟨_,rfl⟩;have HZF:Hid ((Jl s.tb)[n]? =some e):=dD<|by rw[HF64.out n hln,HE.out]
   have HON:Hid (∀(i:Nat) u,(onv o)[i]? =some u->CO[n*6+i]? =some u):=dD<|by rw[<-HO.out];exact HCO n hln
   have h0:0<=e.n:=by rw[<-HE.out];exact zkI (zfB HRT.2 n)
   have HPG:Hid (pgF m s n=if e.kind=0 then 0 else Jn m o e):=dD<|by unfold pgF;rw[HE.out,HO.out]
   go_upto_region 22 with(refine zaN rfl (.tmp 143) (.tmp 144) rfl (Jl s.tb) rfl n rfl hln HZF.out ?_)
   obtain⟨pe,HPE⟩:∃pe,Hid (wr.heap.size=pe):=⟨_,rfl⟩;obtain⟨W10,hW10⟩:∃W10,wr.alloc (.cells #[I6 e.kind,I6 e.n,.bool e.wr] 67)=W10:=⟨_,rfl⟩;have g10:=gP hW10
   have E10:=xP hW10 HPE
   have G10:=dD (G9.trans g10);have X10:=dD (X9.grew g10);have P10:=dD (P9.grew g10);rw[hW10,HPE.out];clear hW10 g10;have e0:=E10.c 0 rfl
   by_cases hk:e.kind=0
   ·have hke:(e.kind == 0)=true:=by simp[hk]
    have ZN:Hid (zh (goL (pgF m s) 64 (n+1) :: [goL (spF m) m.sp.length (p+1),zh ((List.range m.fs.length).map (frE m)),zh ((List.range m.sl.length).map (QN m))])=Z):=zg8 hln Z9 (by rw[HPG.out,if_pos hk])
    clear hk;go_wp2
    go_roundg (64 -(n+1))
    case measure=>omega
    exact⟨n+1,by omega,by omega,by go_num,G10,X10,P10,ZN⟩
   have hke:(e.kind == 0)=false:=by simp[hk]
   obtain⟨EE,HEE⟩:∃EE,Hid (Jn m o e=EE):=⟨_,rfl⟩;have HPE2:Hid (pgF m s n=EE):=dD<|by rw[HPG.out,if_neg hk,HEE.out]
   clear hk;go_upto_region 23 with fail;clear hke e0;have hx0:=X10.gw 0 rfl
   have hx1:=X10.gw 1 rfl
   have hx2:=X10.gw 2 rfl
   have hx3:=X10.gw 3 rfl
   have hx4:=X10.gw 4 rfl
   have hx5:=X10.gw 5 rfl
   have hx6:=X10.gw 6 rfl
   have hx7:=X10.gw 7 rfl
   have hx8:=X10.gw 8 rfl
   have hx9:=X10.gw 9 rfl
   have hx10:=X10.gw 10 rfl
   have he0:=E10.gw 0 rfl
   have he1:=E10.gw 1 rfl
   have he2:=E10.gw 2 rfl
   have ho0:∀y:zo W10,y.world.cell? ⟨po,n*6,none⟩=some (.bool o.is):=fun y=>(P10.grew y.grew).c _ (HON 0 _ rfl)
   have ho1:∀y:zo W10,y.world.cell? ⟨po,n*6+1,none⟩=some (.bool o.rd):=fun y=>(P10.grew y.grew).c _ (HON 1 _ rfl)
   have ho2:∀y:zo W10,y.world.cell? ⟨po,n*6+2,none⟩=some (.bool o.wr):=fun y=>(P10.grew y.grew).c _ (HON 2 _ rfl)
   have ho3:∀y:zo W10,y.world.cell? ⟨po,n*6+3,none⟩=some (.bool o.sh):=fun y=>(P10.grew y.grew).c _ (HON 3 _ rfl)
   have ho4:∀y:zo W10,y.world.cell? ⟨po,n*6+4,none⟩=some (I6 o.file):=fun y=>(P10.grew y.grew).c _ (HON 4 _ rfl)
   have ho5:∀y:zo W10,y.world.cell? ⟨po,n*6+5,none⟩=some (I6 o.page):=fun y=>(P10.grew y.grew).c _ (HON 5 _ rfl)
   have hne:Nonempty (zo W10):=⟨⟨_,zc.refl _⟩⟩;refine Zf [(5,⟨fun v=>v=I6 EE,fun v w'=>True⟩)] qj (by kernel_rfl) ?hS ?hp ?_
   case hS=>
    intro x hx;simp only[mC,nM,or_false]at hx;subst hx;exact⟨_,rfl⟩
   case hp=>
    intro x hx;simp only[mC,nM,or_false]at hx;subst hx;exact fun _ _ _ _ h=>h
   iterate 5 (refine zj rfl rfl rfl (fun K hK=>?_);go_big_quiet_op;refine hK _ ?_;clear hK)
   refine zQ rfl rfl (fun w' hg hF=>?_) (fun v1 hv=>?_)
   ·refine zP.call [.agg #[.slice fa fn fc,I6 m.hand,.slice sa sn sc,vsb.x,vsq.x,vdb.x,vdq.x,.slice fla fln flc,I6 m.cnt,.slice caa can cac,.slice (some ad) spn spc],.agg #[.bool o.is,.bool o.rd,.bool o.wr,.bool o.sh,I6 o.file,I6 o.page],.agg #[I6 e.kind,I6 e.n,.bool e.wr]] rfl func43 rfl rfl rfl ?_;refine(HEN w' o e (G10.trans hg) h0).mono ?_;rintro e w'' ⟨rfl,hg2⟩;exact⟨_,rfl,hg2,by rw[HEE.out],trivial⟩
   subst hv;simp only[Act.put,sB,sS,sZ];iterate 1 (refine zj rfl rfl rfl (fun K hK=>?_);go_big_quiet_op;refine hK _ ?_;clear hK)
   refine qM fun W11 hg1 hF=>?_
   have G11:=dD (G10.trans hg1);have X11:=dD (X10.grew hg1);have P11:=dD (P10.grew hg1);clear hg1 hF hne hx0 hx1 hx2 hx3 hx4 hx5 hx6 hx7 hx8 hx9 hx10 he0 he1 he2 ho0 ho1 ho2 ho3 ho4 ho5
   by_cases hz:EE=0
   ·have hze:(EE != 0)=false:=by simp[hz]
    have ZN:Hid (zh (goL (pgF m s) 64 (n+1) :: [goL (spF m) m.sp.length (p+1),zh ((List.range m.fs.length).map (frE m)),zh ((List.range m.sl.length).map (QN m))])=Z):=zg8 hln Z9 (by rw[HPE2.out];exact hz)
    clear hz;go_wp2
    go_roundg (64 -(n+1))
    case measure=>omega
    exact⟨n+1,by omega,by omega,by go_num,G11,X11,P11,ZN⟩
   have hze:(EE != 0)=true:=by simp[hz]
   have HF:Hid (Z=EE):=dD<|by rw[zgu hln Z9 (by rw[HPE2.out];exact hz),HPE2.out]
   clear hz;go_wp2;go_ret;exact⟨by rw[HF.out];first | rfl | skip,G11⟩
  have hlnz:¬(n:Int)<64:=by omega
  obtain rfl:n=64:=by omega
  have ZN:Hid (zh [goL (spF m) m.sp.length (p+1),zh ((List.range m.fs.length).map (frE m)),zh ((List.range m.sl.length).map (QN m))]=Z):=qm Z9 (zej _ _);go_wp2
  go_roundg (spn -(p+1))
  case measure=>omega
  exact⟨p+1,by omega,by omega,by go_num,G9,X9,ZN⟩
 have hlpz:¬(p:Int)< (spn:Int):=by omega
 obtain rfl:spn=p:=by omega
 have Z5:Hid (zh [zh ((List.range m.fs.length).map (frE m)),zh ((List.range m.sl.length).map (QN m))]=Z):=qm ZP (by rw[HN9.out];exact zej _ _)
 have Z6:Hid (zh [goL (frE m) m.fs.length 0,zh ((List.range m.sl.length).map (QN m))]=Z):=dD<|by have h1:=Z5.out;rw[<-zek]at h1;exact h1
 have x0:=XP.c 0 rfl;go_wp2;clear x0
 go_loopg [166] fn (fun gg s166 wr=>∃k:Nat,k<=fn/\fn - k<=gg/\s166=I6 k/\Hid (zc w wr)/\Hid (Box wr w.heap.size [.slice fa fn fc,I6 m.hand,.slice sa sn sc,vsb.x,vsq.x,vdb.x,vdq.x,.slice fla fln flc,I6 m.cnt,.slice caa can cac,.slice spa spn spc])/\Hid (zh [goL (frE m) m.fs.length k,zh ((List.range m.sl.length).map (QN m))]=Z))
 case atStart=>exact⟨0,nZ _,by omega,rfl,GP,XP,Z6⟩
 obtain⟨k,hk,hgk,rfl,GK,XK,ZK⟩:=hrel
 by_cases hlk:k<fn
 ·have hlkz:(k:Int)< (fn:Int):=by omega
  obtain⟨q,HQ⟩:∃q,Hid (m.fs[k]? =some q):=⟨_,gE (by rw[HN1.out];exact hlk)⟩
  obtain⟨adf,rfl,hl⟩:=HFR.out k q HQ.out;obtain⟨d0,d1,d2,d3,d4,d5,d6,d7,d8,d9,d10,d11,d12⟩:=hl wr GK.out;obtain⟨Hz,HHZ⟩:∃Hz:Int,Hid ((Zt m 1 (k:Int):Int)=Hz):=⟨_,rfl⟩;obtain⟨Cz,HCZ⟩:∃Cz:Int,Hid ((zS m.ca (k:Int):Int)=Cz):=⟨_,rfl⟩;have hHz:0<=Hz/\Hz<=256:=by
   have h1:=zfq (m:=m) (kind:=1) (k:=(k:Int)) m.sp.length;rw[zdq]at h1;have h2:=HHZ.out;have h3:=HP.s4;omega
  have hCz:0<=Cz/\Cz<=5864062014805:=by
   have h1:zS m.ca (k:Int)<=m.ca.length:=List.countP_le_length;have h2:=HCZ.out;have h3:=HN8.out;omega
  obtain⟨hHz0,hHz1⟩:=hHz;obtain⟨hCz0,hCz1⟩:=hCz;have HBAD:Hid (q.r≠Hz+Cz\/(0<=q.f/\Cz=0)->Z=7):=dD<|fun h=>by
   have h1:=HHZ.out;have h2:=HCZ.out;have hb:frE m k=7:=by unfold frE;rw[qZ HQ.out,if_pos (by omega)]
   rw[zgu (by rw[HN1.out];exact hlk) ZK (by rw[hb];decide),hb]
  have HGOOD:Hid (¬(q.r≠Hz+Cz\/(0<=q.f/\Cz=0))->zh [goL (frE m) m.fs.length (k+1),zh ((List.range m.sl.length).map (QN m))]=Z):=dD<|fun h=>by
   have h1:=HHZ.out;have h2:=HCZ.out;exact zg8 (by rw[HN1.out];exact hlk) ZK (by unfold frE;rw[qZ HQ.out,if_neg (by omega)])
  clear hl;go_upto_region 31 with fail;obtain⟨pq,HPQ⟩:∃pq,Hid (wr.heap.size=pq):=⟨_,rfl⟩;obtain⟨W12,hW12⟩:∃W12,wr.alloc (.cells #[U8 q.p.b0,U8 q.p.b1,U8 q.p.b2,U8 q.p.b3,U8 q.p.b4,U8 q.p.b5,U8 q.p.b6,U8 q.p.b7,I6 q.r,.bool q.u,.bool q.d,I6 q.f,I6 q.x] 59)=W12:=⟨_,rfl⟩;have g12:=gP hW12
  have Q12:=xP hW12 HPQ
  have G12:=dD (GK.trans g12);have X12:=dD (XK.grew g12);rw[hW12,HPQ.out];clear hW12 g12 d0 d1 d2 d3 d4 d5 d6 d7 d8 d9 d10 d11 d12;obtain⟨x0,x1,x2,x3,x4,x5,x6,x7,x8,x9,x10⟩:=X12.c11;have hc:=HHO.out W12 1 (k:Int) G12 HP.out;rw[HHZ.out]at hc;go_wp2_with fail;refine hc.mono ?_;clear hc x0 x1 x2 x3 x4 x5 x6 x7 x8 x9 x10;rintro e W13 ⟨rfl,g13⟩;have G13:=dD (G12.trans g13);have X13:=dD (X12.grew g13);have Q13:=dD (Q12.grew g13);clear g13;have x9:=X13.c 9 rfl;go_wp2;clear x9
  go_loopg [16,177] can (fun gg s16 s177 wr=>∃j:Nat,j<=can/\can - j<=gg/\s177=I6 j/\s16=I6 (zS (m.ca.take j) (k:Int):Int)/\Hid (zc w wr)/\Hid (Box wr w.heap.size [.slice (some adf) fn fc,I6 m.hand,.slice sa sn sc,vsb.x,vsq.x,vdb.x,vdq.x,.slice fla fln flc,I6 m.cnt,.slice caa can cac,.slice spa spn spc])/\Hid (Box wr pq [U8 q.p.b0,U8 q.p.b1,U8 q.p.b2,U8 q.p.b3,U8 q.p.b4,U8 q.p.b5,U8 q.p.b6,U8 q.p.b7,I6 q.r,.bool q.u,.bool q.d,I6 q.f,I6 q.x]))
  case atStart=>exact⟨0,nZ _,by omega,rfl,rfl,G13,X13,Q13⟩
  obtain⟨j,hj,hgj,rfl,rfl,GJ,XJ,QJ⟩:=hrel
  by_cases hlj:j<can
  ·have hljz:(j:Int)< (can:Int):=by omega
   obtain⟨c,HC⟩:∃c,Hid (m.ca[j]? =some c):=⟨_,gE (by rw[HN8.out];exact hlj)⟩
   obtain⟨adc,rfl,hl⟩:=HCA.out j c HC.out;obtain⟨d0,d1,d2⟩:=hl wr GJ.out;have hcl:zS (m.ca.take j) (k:Int)<=j:=zjk j;have HCS:Hid (zS (m.ca.take (j+1)) (k:Int)=zS (m.ca.take j) (k:Int)+(decide (c.fr=(k:Int))).toNat):=zgF HC.out;obtain⟨c0,hc0⟩:∃c0,zS (m.ca.take j) (k:Int)=c0:=⟨_,rfl⟩;rw[hc0]at hcl HCS⊢;clear hc0 hl;go_upto_region 35 with fail;obtain⟨pc,HPC⟩:∃pc,Hid (wr.heap.size=pc):=⟨_,rfl⟩;obtain⟨W14,hW14⟩:∃W14,wr.alloc (.cells #[I6 c.file,I6 c.idx,I6 c.fr] 83)=W14:=⟨_,rfl⟩;have g14:=gP hW14
   have C14:=xP hW14 HPC
   have G14:=dD (GJ.trans g14);have X14:=dD (XJ.grew g14);have Q14:=dD (QJ.grew g14);rw[hW14,HPC.out];clear hW14 g14 d0 d1 d2;have c2:=C14.c 2 rfl
   by_cases hkk:c.fr=(k:Int)
   ·have hke:(c.fr ==(k:Int))=true:=by simp[hkk]
    have HV:Hid (zS (m.ca.take (j+1)) (k:Int)=c0+1):=dD<|by rw[HCS.out,decide_eq_true hkk];rfl
    clear hkk;go_wp2
    go_roundg (can -(j+1))
    case measure=>omega
    exact⟨j+1,by omega,by omega,by go_num,by rw[HV.out];go_num,G14,X14,Q14⟩
   have hke:(c.fr ==(k:Int))=false:=by simp[hkk]
   have HV:Hid (zS (m.ca.take (j+1)) (k:Int)=c0):=dD<|by rw[HCS.out,decide_eq_false hkk];rfl
   clear hkk;go_wp2
   go_roundg (can -(j+1))
   case measure=>omega
   exact⟨j+1,by omega,by omega,by go_num,by rw[HV.out],G14,X14,Q14⟩
  have hljz:¬(j:Int)< (can:Int):=by omega
  obtain rfl:can=j:=by omega
  have hce:(zS (m.ca.take can) (k:Int):Int)=Cz:=by rw[List.take_of_length_le (by rw[HN8.out];exact nR _)];exact HCZ.out
  rw[hce];clear hce;have q8:=QJ.c 8 rfl;have q11:=QJ.c 11 rfl
  by_cases k1:q.r=Hz+Cz
  rotate_left
  ·have k1e:(q.r != Hz+Cz)=true:=by simp[k1]
   have HF:Hid (Z=7):=HBAD.out (.inl k1);clear k1;go_wp2;go_ret;exact⟨by rw[HF.out];rfl,GJ⟩
  have k1e:(q.r != Hz+Cz)=false:=by simp[k1]
  by_cases k2:0<=q.f
  ·have k2d:decide (0<=q.f)=true:=decide_eq_true k2
   by_cases k3:Cz=0
   ·have k3e:(Cz == 0)=true:=by simp[k3]
    have HF:Hid (Z=7):=HBAD.out (.inr ⟨k2,k3⟩);clear k1 k2 k3;go_wp2;go_ret;exact⟨by rw[HF.out];rfl,GJ⟩
   have k3e:(Cz == 0)=false:=by simp[k3]
   have ZN:Hid (zh [goL (frE m) m.fs.length (k+1),zh ((List.range m.sl.length).map (QN m))]=Z):=HGOOD.out (by omega)
   clear k1 k2 k3;go_wp2
   go_roundg (fn -(k+1))
   case measure=>omega
   exact⟨k+1,by omega,by omega,by go_num,GJ,XJ,ZN⟩
  have k2d:decide (0<=q.f)=false:=decide_eq_false k2;have ZN:Hid (zh [goL (frE m) m.fs.length (k+1),zh ((List.range m.sl.length).map (QN m))]=Z):=HGOOD.out (by omega)
  clear k1 k2;go_wp2
  go_roundg (fn -(k+1))
  case measure=>omega
  exact⟨k+1,by omega,by omega,by go_num,GJ,XJ,ZN⟩
 have hlkz:¬(k:Int)< (fn:Int):=by omega
 obtain rfl:fn=k:=by omega
 have Z7:Hid (zh [goL (QN m) m.sl.length 0]=Z):=dD<|by
  have h1:=qm ZK (by rw[HN1.out];exact zej _ _)
  rw[<-zek]at h1;exact h1
 have x2:=XK.c 2 rfl;go_wp2;clear x2
 go_loopg [207] sn (fun gg s207 wr=>∃j:Nat,j<=sn/\sn - j<=gg/\s207=I6 j/\Hid (zc w wr)/\Hid (Box wr w.heap.size [.slice fa fn fc,I6 m.hand,.slice sa sn sc,vsb.x,vsq.x,vdb.x,vdq.x,.slice fla fln flc,I6 m.cnt,.slice caa can cac,.slice spa spn spc])/\Hid (zh [goL (QN m) m.sl.length j]=Z))
 case atStart=>exact⟨0,nZ _,by omega,rfl,GK,XK,Z7⟩
 obtain⟨j,hj,hgj,rfl,GJ,X12,ZJ⟩:=hrel
 by_cases hlj:j<sn
 ·have hljz:(j:Int)< (sn:Int):=by omega
  obtain⟨z,HQ⟩:∃z,Hid (m.sl[j]? =some z):=⟨_,gE (by rw[HN2.out];exact hlj)⟩
  obtain⟨ads,rfl,hl⟩:=HSL.out j z HQ.out;have d0:=hl wr GJ.out;obtain⟨Hz,HHZ⟩:∃Hz:Int,Hid ((Zt m 2 (j:Int):Int)=Hz):=⟨_,rfl⟩;have HSV:Hid (QN m j=if z≠Hz then 7 else 0):=dD<|by unfold QN;rw[gD,HQ.out,HHZ.out];rfl
  clear hl;have hc:=HHO.out wr 2 (j:Int) GJ HP.out;rw[HHZ.out]at hc;obtain⟨x0,x1,x2,x3,x4,x5,x6,x7,x8,x9,x10⟩:=X12.c11;go_wp2_with fail;refine hc.mono ?_;clear hc d0 x0 x1 x2 x3 x4 x5 x6 x7 x8 x9 x10;rintro e W13 ⟨rfl,g13⟩;have G13:=dD (GJ.trans g13);have X13:=dD (X12.grew g13);clear g13
  by_cases k1:z=Hz
  ·have k1e:(z != Hz)=false:=by simp[k1]
   have ZN:Hid (zh [goL (QN m) m.sl.length (j+1)]=Z):=zg8 (by rw[HN2.out];exact hlj) ZJ (by rw[HSV.out,if_neg (fun h=>h k1)])
   clear k1;go_wp2
   go_roundg (sn -(j+1))
   case measure=>omega
   exact⟨j+1,by omega,by omega,by go_num,G13,X13,ZN⟩
  have k1e:(z != Hz)=true:=by simp[k1]
  have HF:Hid (Z=7):=dD<|by
   have hb:QN m j=7:=by rw[HSV.out,if_pos k1]
   rw[zgu (by rw[HN2.out];exact hlj) ZJ (by rw[hb];decide),hb]
  clear k1;go_wp2;go_ret;exact⟨by rw[HF.out];rfl,G13⟩
 have hljz:¬(j:Int)< (sn:Int):=by omega
 obtain rfl:sn=j:=by omega
 have HF:Hid (Z=0):=dD<|by
  have h1:=qm ZJ (by rw[HN2.out];exact zej _ _)
  rw[<-h1];rfl
 go_wp2;go_ret;exact⟨by rw[HF.out];rfl,GJ⟩
theorem zfe:∀{l:List Ar} {p:Option Ar} {n:Nat},Qj p l->(zI l n).is=true->0<=(zI l n).page/\((zI l n).page<=11\/(zI l n).file<0)
 | [],_,_,_,h=>by cases h
 | a :: l,p,n,hc,h=>by
  unfold zI at h⊢
  by_cases e:Qi a n=true
  ·rw[if_pos e]at h⊢;have ha:=hc.1;have e':=qf.1 e;unfold jz at ha;unfold qL;simp only
   split
   ·exact⟨by omega,.inl (by omega)⟩
   exact⟨by omega,.inr (by omega)⟩
  rw[if_neg e]at h⊢;exact zfe hc.2.2 h
def zhu (r:List Int × Bool × Int):Value:= .tuple #[.agg (pgc r.1).toArray,.bool r.2.1,I6 r.2.2]
theorem zll (h:maW m=0):∀s∈m.sp,∀n,n<64->(if(zi s n).kind=0 then 0 else Jn m (zI s.ars n) (zi s n))=0:=fun s hs n hn=>by
 unfold maW at h;rw[zB]at h;have h1:=zB.1 (h (zh (m.sp.map (j9 m))) (by simp)) (j9 m s) (List.mem_map.2 ⟨s,hs,rfl⟩)
 unfold j9 at h1;exact zB.1 h1 _ (List.mem_map.2 ⟨n,List.mem_range.2 hn,rfl⟩)
theorem zkJ (h:maW m=0):∀c∈m.ca,0<=c.fr/\c.fr< (m.fs.length:Int):=fun c hc=>by
 unfold maW at h;rw[zB]at h;have h1:=(zN.1 (h (J8 m none m.ca) (by simp))).1 c hc
 unfold caE at h1
 split at h1
 ·cases h1
 omega
theorem zfl (h:maW m=0):Jc m=0:=by
 unfold maW at h;rw[zB]at h;exact h _ (by simp)
theorem zgd (V:MaV) (m:Ma) (p n:Int) (w:World) (hm:zF w V m) (hw:maW m=0) (hfs:∀s∈m.sp,qV m.fl.length s.ars):
  Calls prog 66 #[.agg (mL V m).toArray,I6 p,I6 n] w fun e w'=>e= .returned (zhu (jA m p n))/\(jA m p n).1.length=8/\zc w w':=by
 have HM:Hid (zF w V m):=hm;obtain⟨n1,n2,-,-,-,-,n7,n8,n9⟩:=hm.ns;obtain⟨xs,hxl,hrow,hsp⟩:=hm.spaces;have HFR:Hid (QZ w V.f.a m.fs):=hm.frs;obtain⟨_,_,hfe,_,hfr⟩:=jb.rows hm.fl;have HFL:Hid (QA w V.fl.a m.fl):=show QA _ _ _ by
  simp only[vJ]at hfe;rw[hfe.1];exact hfr
 have HP:Hid (Pts m):=zkA (zfl hw);have HENT:Hid (∀s∈m.sp,∀n,n<64->(if(zi s n).kind=0 then 0 else Jn m (zI s.ars n) (zi s n))=0):=show∀s,_ from zll hw
 have HFS:Hid (∀s∈m.sp,qV m.fl.length s.ars):=dD<|hfs
 have HCO:Hid (∀W (fi ix:Nat) f bk,zc w W->m.fl[fi]? =some f->f.bl[ix]? =some bk->ix<=1000->Calls prog 62 #[.agg (mL V m).toArray,I6 (fi:Int),I6 (ix:Int)] W fun e w'=>e= .returned (.agg (pgc (jd m fi ix)).toArray)/\(jd m fi ix).length=8/\zc W w'):=dD<|fun W fi ix f bk hW hf hb hi=>zax V m fi ix f bk W (HM.grew hW) (fun c hc _=>zkJ hw c hc) hf hb hi
 have HRD:Hid (∀W k,zc w W->Calls prog 110 #[.agg #[V.sb.x,V.sq.x],I6 k] W fun e w'=>e= .returned (.tuple #[.agg (pgc (Zg m.sb m.sq k)).toArray,I6 (qX m.sb.length m.sq k)])/\zc W w'):=dD<|fun W k hW=>zci _ m.sb m.sq k W ⟨_,_,rfl,(HM.grew hW).sb,(HM.grew hW).sq⟩
 have HRL:Hid (∀k,(Zg m.sb m.sq k).length=8):=dD<|fun k=>zkz hm.sb.2.1 hm.sq.2.1
 obtain⟨⟨fa,fn,fc⟩,⟨sa,sn,sc⟩,⟨sba,sbn,sbc⟩,⟨sqa,sqn,sqc⟩,vdb,vdq,⟨fla,fln,flc⟩,⟨caa,can,cac⟩,⟨spa,spn,spc⟩⟩:=V;dsimp only[mL]at n1 n2 n7 n8 n9 hrow HFR HFL HCO HRD⊢;have HN1:Hid (m.fs.length=fn):=n1.symm;have HN7:Hid (m.fl.length=fln):=n7.symm;have HN9:Hid (m.sp.length=spn):=n9.symm;have HXL:Hid (xs.length=spn):=show _=_ by rw[hxl];exact HN9.out
 have HRW:Hid (∀(j:Nat) x,xs[j]? =some x->∃ad,spa=some ad/\∀W,zc w W->zeB W (ad.add (j*10)) x):=dD<|hrow
 have HSP:Hid (∀(i:Nat) x s,xs[i]? =some x->m.sp[i]? =some s->z5 w x s):=dD<|hsp
 clear hm n1 n2 n7 n8 n9 hxl hrow hsp hfe hfr hw hfs;obtain⟨W0,hW0⟩:∃W0,(w.alloc (.cells #[.slice fa fn fc,I6 m.hand,.slice sa sn sc,.slice sba sbn sbc,.slice sqa sqn sqc,vdb.x,vdq.x,.slice fla fln flc,I6 m.cnt,.slice caa can cac,.slice spa spn spc] 40)).alloc (.cells #[U8 0,U8 0,U8 0,U8 0,U8 0,U8 0,U8 0,U8 0] 50)=W0:=⟨_,rfl⟩;have G0:=gD2 hW0
 have X0:=x2a hW0
 have Y0:Hid (Box W0 (w.heap.size+1) (pgc zt)):=dD<|by rw[<-hW0];exact Box.top _ (pgc zt) _ (by simp)
 have HW0:Hid (_=W0):=hW0;clear hW0
 by_cases a1:p<0
 ·have HR:Hid (jA m p n=(zt,false,5)):=dD<|by unfold jA;exact if_pos (by rw[HN9.out];omega)
  have k1:decide (p<0)=true:=decide_eq_true a1;clear a1
  go_enter func66,ntmps66
  go_upto_region 1 with fail;rw[HW0.out];have x10:=X0.c 10 rfl
  go_wp2_with (refine zw rfl 50 (.tmp 6) (.tmp 31) rfl (w.heap.size+1) rfl (pgc zt) rfl Y0 rfl zmL (jn _) ?_)
  intro WL hbL hgL _;have HGL:Hid (zc w WL):=dD<|zd G0 hgL (by omega)
  go_wp2;refine bodyPost_ret (zV rfl _ rfl hbL underlying50 rfl zmL) rfl ⟨by rw[HR.out];rfl,by rw[HR.out];rfl,HGL⟩
 by_cases a2:(spn:Int)<=p
 ·have HR:Hid (jA m p n=(zt,false,5)):=dD<|by unfold jA;exact if_pos (by rw[HN9.out];omega)
  have k1:decide (p<0)=false:=decide_eq_false a1;have k2:decide ((spn:Int)<=p)=true:=decide_eq_true a2;clear a1 a2
  go_enter func66,ntmps66
  go_upto_region 1 with fail;rw[HW0.out];have x10:=X0.c 10 rfl
  go_wp2_with (refine zw rfl 50 (.tmp 6) (.tmp 31) rfl (w.heap.size+1) rfl (pgc zt) rfl Y0 rfl zmL (jn _) ?_)
  intro WL hbL hgL _;have HGL:Hid (zc w WL):=dD<|zd G0 hgL (by omega)
  go_wp2;refine bodyPost_ret (zV rfl _ rfl hbL underlying50 rfl zmL) rfl ⟨by rw[HR.out];rfl,by rw[HR.out];rfl,HGL⟩
 by_cases a3:n<0
 ·have HR:Hid (jA m p n=(zt,false,5)):=dD<|by unfold jA;exact if_pos (by rw[HN9.out];omega)
  have k1:decide (p<0)=false:=decide_eq_false a1;have k2:decide ((spn:Int)<=p)=false:=decide_eq_false a2;have k3:decide (n<0)=true:=decide_eq_true a3;clear a1 a2 a3
  go_enter func66,ntmps66
  go_upto_region 1 with fail;rw[HW0.out];have x10:=X0.c 10 rfl
  go_wp2_with (refine zw rfl 50 (.tmp 6) (.tmp 31) rfl (w.heap.size+1) rfl (pgc zt) rfl Y0 rfl zmL (jn _) ?_)
  intro WL hbL hgL _;have HGL:Hid (zc w WL):=dD<|zd G0 hgL (by omega)
  go_wp2;refine bodyPost_ret (zV rfl _ rfl hbL underlying50 rfl zmL) rfl ⟨by rw[HR.out];rfl,by rw[HR.out];rfl,HGL⟩
 by_cases a4:63<n
 ·have HR:Hid (jA m p n=(zt,false,5)):=dD<|by unfold jA;exact if_pos (by rw[HN9.out];omega)
  have k1:decide (p<0)=false:=decide_eq_false a1;have k2:decide ((spn:Int)<=p)=false:=decide_eq_false a2;have k3:decide (n<0)=false:=decide_eq_false a3;have k4:decide (63<n)=true:=decide_eq_true a4;clear a1 a2 a3 a4
  go_enter func66,ntmps66
  go_upto_region 1 with fail;rw[HW0.out];have x10:=X0.c 10 rfl
  go_wp2_with (refine zw rfl 50 (.tmp 6) (.tmp 31) rfl (w.heap.size+1) rfl (pgc zt) rfl Y0 rfl zmL (jn _) ?_)
  intro WL hbL hgL _;have HGL:Hid (zc w WL):=dD<|zd G0 hgL (by omega)
  go_wp2;refine bodyPost_ret (zV rfl _ rfl hbL underlying50 rfl zmL) rfl ⟨by rw[HR.out];rfl,by rw[HR.out];rfl,HGL⟩
 obtain⟨pp,rfl⟩:∃pp:Nat,p=(pp:Int):=⟨p.toNat,by omega⟩
 obtain⟨nn,rfl⟩:∃nn:Nat,n=(nn:Int):=⟨n.toNat,by omega⟩
 have hpn:pp<spn:=by omega
 have hn64:nn<64:=by omega
 obtain⟨x,hx⟩:∃x,xs[pp]? =some x:=⟨_,gE (by rw[HXL.out];exact hpn)⟩
 obtain⟨s,HS⟩:∃s,Hid (m.sp[pp]? =some s):=⟨_,gE (by rw[HN9.out];exact hpn)⟩
 have HAT:Hid (z5 w x s):=HSP.out pp x s hx HS.out;obtain⟨ad,HSA,hl⟩:∃ad,Hid (spa=some ad)/\∀W,zc w W->zeB W (ad.add (pp*10)) x:=HRW.out pp x hx;have HRT:Hid ((wrL s.ars).1=0/\tbW s.tb=0):=HP.ar s (mG HS);obtain⟨o,HO⟩:∃o,Hid (zI s.ars nn=o):=⟨_,rfl⟩;obtain⟨e,HE⟩:∃e,Hid (zi s nn=e):=⟨_,rfl⟩;have HVR:Hid (jA m (pp:Int) (nn:Int)=if o.is=false then(zt,false,5)else if e.kind=1 then(pgL (qa m e.n).p,decide ((qa m e.n).f<0),0)else if e.kind=2 then(Zg m.sb m.sq e.n,true,0)else if o.file<0 then(zt,false,0)else if bkN m o.file<=o.page then(zt,false,9)else(jd m o.file o.page,false,0)):=show _=_ by
  unfold jA;rw[if_neg (by rw[HN9.out];omega)]
  have hsd:m.sp.getD pp ⟨false,[],[]⟩=s:=by rw[gD,HS.out];rfl
  simp only[tN,hsd,HO.out,HE.out]
 have HON:Hid (∀W,zc w W->Calls prog 41 #[x.ar.x] W fun e w'=>e= .returned (.agg (zz (tab (zI s.ars))).toArray)/\zc W w'):=dD<|fun W hW=>jL _ s.ars W (HAT.ar.grew hW) (jH.1 HRT.1).2.lies
 have HFT:Hid (∀W,zc w W->Calls prog 42 #[.agg #[x.t0.x,x.t1.x,x.t2.x,x.t3.x,x.t4.x,x.t5.x,x.t6.x,x.t7.x]] W fun e w'=>e= .returned (.agg (qo (Jl s.tb)).toArray)/\zc W w'):=dD<|fun W hW=>zbo x.tab s.tb W ((HAT.grew hW).tb) (tb8 HRT.2)
 have HZF:Hid ((Jl s.tb)[nn]? =some e):=(zb1 s.tb hn64).trans (congrArg some HE);have h0:0<=e.n:=by rw[<-HE.out];exact zkI (zfB HRT.2 nn)
 have HE1:Hid (o.is=true->e.kind=1->e.n< (fn:Int)):=dD<|fun h1 h2=>by
  have h3:Jn m o e=0:=by
   have:=HENT.out s (mG HS) nn hn64;rw[HE.out,HO.out,if_neg (by omega)]at this
   exact this
  unfold Jn at h3;rw[if_neg (by rw[h1];decide),if_neg (by omega)]at h3
  have h4:=HN1.out
  split at h3
  ·cases h3
  omega
 have HPG:Hid (o.is=true->0<=o.page/\(o.page<=11\/o.file<0)):=dD<|fun h1=>by rw[<-HO.out]at h1⊢;exact zfe (jH.1 HRT.1).2 h1
 have HFI:Hid (o.is=true->o.file< (fln:Int)):=dD<|fun h1=>by
  have h2:=HFS.out s (mG HS) nn hn64 (by rw[HO.out];exact h1)
  rw[HO.out,HN7.out]at h2;exact h2
 have hov:Value.agg (onv (zI s.ars nn)).toArray= .agg #[.bool o.is,.bool o.rd,.bool o.wr,.bool o.sh,I6 o.file,I6 o.page]:=by rw[HO.out];rfl
 have k1:decide ((pp:Int)<0)=false:=decide_eq_false a1;have k2:decide (spn<=pp)=false:=decide_eq_false (by omega)
 have k3:decide ((nn:Int)<0)=false:=decide_eq_false a3;have k4:decide ((63:Int)< (nn:Int))=false:=decide_eq_false a4;have hpz:(pp:Int)< (spn:Int):=by omega
 clear a1 a2 a3 a4 hx
 go_enter func66,ntmps66
 go_upto_region 1 with fail;rw[HW0.out];have x10:=X0.c 10 rfl;rw[HSA.out]at x10;obtain⟨d0,d1,d2,d3,d4,d5,d6,d7,d8,d9⟩:=hl W0 G0.out;have HL:Hid (∀W,zc w W->zeB W (ad.add (pp*10)) x):=dD<|hl
 clear hl d0 d2 d3 d4 d5 d6 d7 d8 d9;have hc:=HON.out W0 G0.out;go_wp2_with fail;refine hc.mono ?_;clear hc d1 x10 k1 k2 k3 k4;rintro r W1 ⟨rfl,g1⟩;have G1:=dD (G0.trans g1);have X1:=dD (X0.grew g1);have Y1:=dD (Y0.grew g1);clear g1
 go_upto_region 4 with(refine zbT rfl (.tmp 38) (.tmp 39) rfl (zI s.ars) rfl nn rfl hn64 hov ?_)
 obtain⟨po,HPO⟩:∃po,Hid (W1.heap.size=po):=⟨_,rfl⟩;obtain⟨W2,hW2⟩:∃W2,W1.alloc (.cells #[.bool o.is,.bool o.rd,.bool o.wr,.bool o.sh,I6 o.file,I6 o.page] 96)=W2:=⟨_,rfl⟩;have g2:=gP hW2
 have O2:=xP hW2 HPO
 have G2:=dD (G1.trans g2);have X2:=dD (X1.grew g2);have Y2:=dD (Y1.grew g2);rw[hW2,HPO.out];clear hW2 g2 hov;have o0:=O2.c 0 rfl
 cases his:o.is with
 | false=>
  rw[his]at o0;have HR:Hid (jA m (pp:Int) (nn:Int)=(zt,false,5)):=dD<|by rw[HVR.out,if_pos his]
  clear his
  go_wp2_with (refine zw rfl 50 (.tmp 6) (.tmp 44) rfl (w.heap.size+1) rfl (pgc zt) rfl Y2 rfl zmL (jn _) ?_)
  intro WL hbL hgL _;have HGL:Hid (zc w WL):=dD<|zd G2 hgL (by omega)
  go_wp2;refine bodyPost_ret (zV rfl _ rfl hbL underlying50 rfl zmL) rfl ⟨by rw[HR.out];rfl,by rw[HR.out];rfl,HGL⟩
 | true=>
 rw[his]at o0;have HVR2:Hid (jA m (pp:Int) (nn:Int)=if e.kind=1 then(pgL (qa m e.n).p,decide ((qa m e.n).f<0),0)else if e.kind=2 then(Zg m.sb m.sq e.n,true,0)else if o.file<0 then(zt,false,0)else if bkN m o.file<=o.page then(zt,false,9)else(jd m o.file o.page,false,0)):=dD<|by rw[HVR.out,if_neg (by rw[his];decide)]
 obtain⟨hpg0,hpg1⟩:=HPG.out his;have hfl0:=HFI.out his;have HE2:Hid (e.kind=1->e.n< (fn:Int)):=dD<|HE1.out his
 clear his;obtain⟨d0,d1,d2,d3,d4,d5,d6,d7,d8,d9⟩:=HL.out W2 G2.out;have x10:=X2.c 10 rfl;rw[HSA.out]at x10;have hc:=HFT.out W2 G2.out;go_wp2_with fail;refine hc.mono ?_;clear hc d0 d1 d2 d3 d4 d5 d6 d7 d8 d9 x10 o0;rintro r W3 ⟨rfl,g3⟩;have G3:=dD (G2.trans g3);have X3:=dD (X2.grew g3);have Y3:=dD (Y2.grew g3);have O3:=dD (O2.grew g3);clear g3
 go_upto_region 7 with(refine zaN rfl (.tmp 51) (.tmp 52) rfl (Jl s.tb) rfl nn rfl hn64 HZF.out ?_)
 obtain⟨pe,HPE⟩:∃pe,Hid (W3.heap.size=pe):=⟨_,rfl⟩;obtain⟨W4,hW4⟩:∃W4,W3.alloc (.cells #[I6 e.kind,I6 e.n,.bool e.wr] 67)=W4:=⟨_,rfl⟩;have g4:=gP hW4
 have E4:=xP hW4 HPE
 have G4:=dD (G3.trans g4);have X4:=dD (X3.grew g4);have Y4:=dD (Y3.grew g4);have O4:=dD (O3.grew g4);rw[hW4,HPE.out];clear hW4 g4;have e0:=E4.c 0 rfl;have e1:=E4.c 1 rfl
 by_cases h1:e.kind=1
 ·have h1e:(e.kind == 1)=true:=by simp[h1]
  obtain⟨k,hk⟩:∃k:Nat,e.n=(k:Int):=⟨e.n.toNat,by omega⟩
  have hkf:=HE2.out h1;rw[hk]at hkf;obtain⟨q,HQ⟩:∃q,Hid (m.fs[k]? =some q):=⟨_,gE (by rw[HN1.out];omega)⟩
  have HR:Hid (jA m (pp:Int) (nn:Int)=(pgL q.p,decide (q.f<0),0)):=dD<|by rw[HVR2.out,if_pos h1,hk,qZ HQ.out]
  obtain⟨adf,hva,hlf⟩:=HFR.out k q HQ.out;obtain⟨d0,d1,d2,d3,d4,d5,d6,d7,d8,d9,d10,d11,d12⟩:=hlf W4 G4.out;have x0:=X4.c 0 rfl;rw[hva]at x0;rw[hk]at e1;clear hlf hva h1 hk;go_upto_region 9 with fail;obtain⟨pq,HPQ⟩:∃pq,Hid (W4.heap.size=pq):=⟨_,rfl⟩;obtain⟨W5,hW5⟩:∃W5,W4.alloc (.cells #[U8 q.p.b0,U8 q.p.b1,U8 q.p.b2,U8 q.p.b3,U8 q.p.b4,U8 q.p.b5,U8 q.p.b6,U8 q.p.b7,I6 q.r,.bool q.u,.bool q.d,I6 q.f,I6 q.x] 59)=W5:=⟨_,rfl⟩;have g5:=gP hW5
  have Q5:=xP hW5 HPQ
  have G5:=dD (G4.trans g5);have Y5:=dD (Y4.grew g5);have hne:w.heap.size+1≠pq:=by have:=Y4.lt;have h2:=HPQ.out;omega
  have hne2:pq≠w.heap.size+1:=fun h=>hne h.symm
  rw[hW5,HPQ.out];clear hW5 g5 x0 e0 e1 d0 d1 d2 d3 d4 d5 d6 d7 d8 d9 d10 d11 d12;obtain⟨q0,q1,q2,q3,q4,q5,q6,q7⟩:=Q5.c8;have q11:=Q5.c 11 rfl;obtain⟨y0,y1,y2,y3,y4,y5,y6,y7⟩:=Y5.c8;have yf:=Y5.f
  go_region
  all_goals
   obtain⟨W6,hW6⟩:∃W6,(((((((((W5).setCell ⟨w.heap.size+1,0,none⟩ (U8 q.p.b0)).setCell ⟨w.heap.size+1,1,none⟩ (U8 q.p.b1)).setCell ⟨w.heap.size+1,2,none⟩ (U8 q.p.b2)).setCell ⟨w.heap.size+1,3,none⟩ (U8 q.p.b3)).setCell ⟨w.heap.size+1,4,none⟩ (U8 q.p.b4)).setCell ⟨w.heap.size+1,5,none⟩ (U8 q.p.b5)).setCell ⟨w.heap.size+1,6,none⟩ (U8 q.p.b6)).setCell ⟨w.heap.size+1,7,none⟩ (U8 q.p.b7)).drew=W6:=⟨_,rfl⟩;have Y6:Hid (Box W6 (w.heap.size+1) (pgc (pgL q.p))):=dD<|by rw[<-hW6];exact(((((((((Y5).set 0 _).set 1 _).set 2 _).set 3 _).set 4 _).set 5 _).set 6 _).set 7 _).grew (show Below _ _ _ from Below.drew (bR _ _))
   have G6:Hid (zc w W6):=dD<|by rw[<-hW6];exact(zu (zu (zu (zu (zu (zu (zu (zu (G5) (by simp) _) (by simp) _) (by simp) _) (by simp) _) (by simp) _) (by simp) _) (by simp) _) (by simp) _).trans (show Below _ _ _ from Below.drew (bR _ _))
   rw[hW6];clear hW6 yf q0 q1 q2 q3 q4 q5 q6 q7 q11 y0 y1 y2 y3 y4 y5 y6 y7;go_wp2;refine bodyPost_ret (zV rfl _ rfl Y6 underlying50 rfl zmL) rfl ⟨by rw[HR.out];rfl,by rw[HR.out];rfl,G6⟩
 have h1e:(e.kind == 1)=false:=by simp[h1]
 by_cases h2:e.kind=2
 ·have h2e:(e.kind == 2)=true:=by simp[h2]
  have HR:Hid (jA m (pp:Int) (nn:Int)=(Zg m.sb m.sq e.n,true,0)):=dD<|by rw[HVR2.out,if_neg h1,if_pos h2]
  have HRN:Hid ((Zg m.sb m.sq e.n).length=8):=HRL.out e.n;have x3:=X4.c 3 rfl;have x4:=X4.c 4 rfl;have hc:=HRD.out W4 e.n G4.out;clear h1 h2;go_wp2_with fail;refine hc.mono ?_;clear hc x3 x4 e0 e1;rintro r W5 ⟨rfl,g5⟩;have G5:=dD (G4.trans g5);have Y5:=dD (Y4.grew g5);obtain⟨rl,HRLL⟩:∃rl,Hid (Zg m.sb m.sq e.n=rl):=⟨_,rfl⟩;rw[HRLL.out]at HR HRN⊢;obtain⟨p0,p1,p2,p3,p4,p5,p6,p7,rfl⟩:=zh6 rl HRN.out;simp only[pgc,mP,List.map_nil];go_upto_region 12 with fail;obtain⟨pl,HPL⟩:∃pl,Hid (W5.heap.size=pl):=⟨_,rfl⟩;obtain⟨W6,hW6⟩:∃W6,W5.alloc (.cells #[U8 p0,U8 p1,U8 p2,U8 p3,U8 p4,U8 p5,U8 p6,U8 p7] 50)=W6:=⟨_,rfl⟩;have g6:=gP hW6
  have P6:=xP hW6 HPL
  have G6:=dD (G5.trans g6);have Y6:=dD (Y5.grew g6);rw[hW6,HPL.out];clear hW6 g6 g5;obtain⟨c0,c1,c2,c3,c4,c5,c6,c7⟩:=P6.c8
  go_wp2_with (refine zw rfl 50 (.tmp 6) (.tmp 80) rfl (w.heap.size+1) rfl (pgc [p0,p1,p2,p3,p4,p5,p6,p7]) rfl Y6 rfl zmL (jn _) ?_)
  intro WL hbL hgL _;have HGL:Hid (zc w WL):=dD<|zd G6 hgL (by omega)
  go_wp2;refine bodyPost_ret (zV rfl _ rfl hbL underlying50 rfl zmL) rfl ⟨by rw[HR.out];rfl,by rw[HR.out];rfl,HGL⟩
 have h2e:(e.kind == 2)=false:=by simp[h2]
 have HVR3:Hid (jA m (pp:Int) (nn:Int)=if o.file<0 then(zt,false,0)else if bkN m o.file<=o.page then(zt,false,9)else(jd m o.file o.page,false,0)):=dD<|by rw[HVR2.out,if_neg h1,if_neg h2]
 clear h1 h2;have o4:=O4.c 4 rfl;have o5:=O4.c 5 rfl
 by_cases h3:o.file<0
 ·have h3d:decide (o.file<0)=true:=decide_eq_true h3;have HR:Hid (jA m (pp:Int) (nn:Int)=(zt,false,0)):=dD<|by rw[HVR3.out,if_pos h3]
  clear h3
  go_wp2_with (refine zw rfl 50 (.tmp 6) (.tmp 84) rfl (w.heap.size+1) rfl (pgc zt) rfl Y4 rfl zmL (jn _) ?_)
  intro WL hbL hgL _;have HGL:Hid (zc w WL):=dD<|zd G4 hgL (by omega)
  go_wp2;refine bodyPost_ret (zV rfl _ rfl hbL underlying50 rfl zmL) rfl ⟨by rw[HR.out];rfl,by rw[HR.out];rfl,HGL⟩
 have HVR4:Hid (jA m (pp:Int) (nn:Int)=if bkN m o.file<=o.page then(zt,false,9)else(jd m o.file o.page,false,0)):=dD<|by rw[HVR3.out,if_neg h3]
 obtain⟨fi,hfi⟩:∃fi:Nat,o.file=(fi:Int):=⟨o.file.toNat,by omega⟩
 obtain⟨pg,hpg⟩:∃pg:Nat,o.page=(pg:Int):=⟨o.page.toNat,by omega⟩
 obtain⟨f,HF⟩:∃f,Hid (m.fl[fi]? =some f):=⟨_,gE (by rw[HN7.out];omega)⟩
 obtain⟨ad7,h7,ba,bc,_,hlf⟩:=HFL.out fi f HF.out;obtain⟨-,f1⟩:=hlf W4 G4.out;obtain⟨bn,HBN⟩:∃bn,Hid (f.bl.length=bn):=⟨_,rfl⟩;rw[HBN.out]at f1;have HBK:Hid (bkN m o.file=(bn:Int)):=dD<|by unfold bkN;rw[hfi,tN,gD,HF.out];simp only[Option.getD_some];rw[HBN.out]
 have x7:=X4.c 7 rfl;rw[h7]at x7;rw[hfi]at o4;rw[hpg]at o5;have h3d:decide ((fi:Int)<0)=false:=decide_eq_false (by omega)
 have hfz:(fi:Int)< (fln:Int):=by omega
 have hpg3:pg<=1000:=by omega
 rw[HBK.out,hfi,hpg]at HVR4;clear h3 hfi hpg hlf h7 hpg0 hpg1 hfl0;go_upto_region 15 with fail
 by_cases h4:bn<=pg
 ·have h4d:decide (bn<=pg)=true:=decide_eq_true h4;have HR:Hid (jA m (pp:Int) (nn:Int)=(zt,false,9)):=dD<|by rw[HVR4.out,if_pos (by omega)]
  clear h4;go_quiet (fail);obtain⟨W5,hW5⟩:∃W5,W4.drewN nq=W5:=⟨_,rfl⟩;have g5:zc W4 W5:=by rw[<-hW5];exact(show Below _ _ _ from bD (bR _ _) _)
  have G5:=dD (G4.trans g5);have Y5:=dD (Y4.grew g5);rw[hW5];clear hW5 g5 x7 f1 o4 o5
  go_wp2_with (refine zw rfl 50 (.tmp 6) (.tmp 97) rfl (w.heap.size+1) rfl (pgc zt) rfl Y5 rfl zmL (jn _) ?_)
  intro WL hbL hgL _;have HGL:Hid (zc w WL):=dD<|zd G5 hgL (by omega)
  go_wp2;refine bodyPost_ret (zV rfl _ rfl hbL underlying50 rfl zmL) rfl ⟨by rw[HR.out];rfl,by rw[HR.out];rfl,HGL⟩
 have h4d:decide (bn<=pg)=false:=decide_eq_false h4;obtain⟨bk,HBL⟩:∃bk,Hid (f.bl[pg]? =some bk):=⟨_,gE (by rw[HBN.out];omega)⟩
 have HR0:Hid (jA m (pp:Int) (nn:Int)=(jd m (fi:Int) (pg:Int),false,0)):=dD<|by rw[HVR4.out,if_neg (by omega)]
 clear h4;go_quiet (fail);obtain⟨W5,hW5⟩:∃W5,W4.drewN nq=W5:=⟨_,rfl⟩;have g5:zc W4 W5:=by rw[<-hW5];exact(show Below _ _ _ from bD (bR _ _) _)
 have G5:=dD (G4.trans g5);have X5:=dD (X4.grew g5);have Y5:=dD (Y4.grew g5);have O5:=dD (O4.grew g5);have o4':W5.cell? ⟨po,4,none⟩=some (I6 (fi:Int)):=by rw[<-hW5];exact o4
 have o5':W5.cell? ⟨po,5,none⟩=some (I6 (pg:Int)):=by rw[<-hW5];exact o5
 rw[hW5];clear hW5 g5 x7 f1 o4 o5;obtain⟨x0,x1,x2,x3,x4,x5,x6,x7,x8,x9,x10⟩:=X5.c11;have hc:=HCO.out W5 fi pg f bk G5 HF HBL hpg3;go_wp2_with fail;refine hc.mono ?_;clear hc;rintro r W6 ⟨rfl,hl8,g6⟩;have G6:=dD (G5.trans g6);have Y6:=dD (Y5.grew g6);obtain⟨rl,HRLL⟩:∃rl,Hid (jd m (fi:Int) (pg:Int)=rl):=⟨_,rfl⟩;have HR:Hid (jA m (pp:Int) (nn:Int)=(rl,false,0)):=show _=_ by rw[HR0.out,HRLL.out]
 rw[HRLL.out]at hl8⊢;have HL8:Hid (rl.length=8):=hl8;clear g6 hl8 x0 x1 x2 x3 x4 x5 x6 x7 x8 x9 x10 o4' o5';obtain⟨p0,p1,p2,p3,p4,p5,p6,p7,rfl⟩:=zh6 rl HL8.out
 go_wp2_with (refine zw rfl 50 (.tmp 6) (.tmp 103) rfl (w.heap.size+1) rfl (pgc [p0,p1,p2,p3,p4,p5,p6,p7]) rfl Y6 rfl zmL (jn _) ?_)
 intro WL hbL hgL _;have HGL:Hid (zc w WL):=dD<|zd G6 hgL (by omega)
 go_wp2;refine bodyPost_ret (zV rfl _ rfl hbL underlying50 rfl zmL) rfl ⟨by rw[HR.out];rfl,by rw[HR.out];rfl,HGL⟩
theorem zeY (V:MaV) (m:Ma) (p n:Int) (w:World) (hm:zF w V m) (hfs:maW m=0->∀s∈m.sp,qV m.fl.length s.ars):
  Calls prog 16 #[.agg (mL V m).toArray,I6 p,I6 n] w fun e w'=>e= .returned (zhu (jv m p n))/\(jv m p n).1.length=8/\zc w w':=by
 have HM:Hid (zF w V m):=hm;have HWR:Hid (∀W,zc w W->Calls prog 10 #[.agg (mL V m).toArray] W fun e w'=>e= .returned (I6 (maW m))/\zc W w'):=show∀W,_ from fun W hW=>Jb V m W (HM.grew hW)
 have HVW:Hid (maW m=0->∀W,zc w W->Calls prog 66 #[.agg (mL V m).toArray,I6 p,I6 n] W fun e w'=>e= .returned (zhu (jA m p n))/\(jA m p n).1.length=8/\zc W w'):=dD<|fun h0 W hW=>zgd V m p n W (HM.grew hW) h0 (hfs h0)
 obtain⟨⟨fa,fn,fc⟩,⟨sa,sn,sc⟩,⟨sba,sbn,sbc⟩,⟨sqa,sqn,sqc⟩,vdb,vdq,⟨fla,fln,flc⟩,⟨caa,can,cac⟩,⟨spa,spn,spc⟩⟩:=V;dsimp only[mL]at HWR HVW⊢;obtain⟨E,HE⟩:∃E,Hid (maW m=E):=⟨_,rfl⟩;rw[HE.out]at HWR HVW;clear hm hfs;obtain⟨W0,hW0⟩:∃W0,(w.alloc (.cells #[.slice fa fn fc,I6 m.hand,.slice sa sn sc,.slice sba sbn sbc,.slice sqa sqn sqc,vdb.x,vdq.x,.slice fla fln flc,I6 m.cnt,.slice caa can cac,.slice spa spn spc] 40)).alloc (.cells #[U8 0,U8 0,U8 0,U8 0,U8 0,U8 0,U8 0,U8 0] 50)=W0:=⟨_,rfl⟩;have G0:=gD2 hW0
 have X0:=x2a hW0
 have Y0:Hid (Box W0 (w.heap.size+1) (pgc zt)):=dD<|by rw[<-hW0];exact Box.top _ (pgc zt) _ (by simp)
 have HW0:Hid (_=W0):=hW0;clear hW0
 go_enter func16,ntmps16
 go_upto_region 1 with fail;rw[HW0.out];obtain⟨x0,x1,x2,x3,x4,x5,x6,x7,x8,x9,x10⟩:=X0.c11;have hc:=HWR.out W0 G0.out;go_wp2_with fail;refine hc.mono ?_;clear hc x0 x1 x2 x3 x4 x5 x6 x7 x8 x9 x10;rintro r W1 ⟨rfl,g1⟩;have G1:=dD (G0.trans g1);have X1:=dD (X0.grew g1);have Y1:=dD (Y0.grew g1);clear g1
 by_cases hz:E=0
 rotate_left
 ·have hze:(E != 0)=true:=by simp[hz]
  have HR:Hid (jv m p n=(zt,false,E)):=dD<|by unfold jv;rw[HE.out,if_pos hz]
  clear hz
  go_wp2_with (refine zw rfl 50 (.tmp 6) (.tmp 14) rfl (w.heap.size+1) rfl (pgc zt) rfl Y1 rfl zmL (jn _) ?_)
  intro WL hbL hgL _;have HGL:Hid (zc w WL):=dD<|zd G1 hgL (by omega)
  go_wp2;refine bodyPost_ret (zV rfl _ rfl hbL underlying50 rfl zmL) rfl ⟨by rw[HR.out];rfl,by rw[HR.out];rfl,HGL⟩
 have hze:(E != 0)=false:=by simp[hz]
 have HR0:Hid (jv m p n=jA m p n):=dD<|by unfold jv;rw[HE.out,if_neg (fun h=>h hz)]
 obtain⟨x0,x1,x2,x3,x4,x5,x6,x7,x8,x9,x10⟩:=X1.c11;have hc:=HVW.out hz W1 G1.out;clear hz;go_wp2_with fail;refine hc.mono ?_;clear hc x0 x1 x2 x3 x4 x5 x6 x7 x8 x9 x10;rintro r W2 ⟨rfl,hl8,g2⟩;have G2:=dD (G1.trans g2);have Y2:=dD (Y1.grew g2);obtain⟨⟨rl,rb,re⟩,HRR⟩:∃rr,Hid (jA m p n=rr):=⟨_,rfl⟩;rw[HRR.out]at hl8⊢;obtain⟨p0,p1,p2,p3,p4,p5,p6,p7,hrl⟩:=zh6 rl hl8;subst hrl;have HR:Hid (jv m p n=([p0,p1,p2,p3,p4,p5,p6,p7],rb,re)):=show _=_ by rw[HR0.out,HRR.out]
 clear hl8 g2;simp only[zhu,pgc,mP,List.map_nil]
 go_wp2_with (refine zw rfl 50 (.tmp 6) (.tmp 20) rfl (w.heap.size+1) rfl (pgc [p0,p1,p2,p3,p4,p5,p6,p7]) rfl Y2 rfl zmL (jn _) ?_)
 intro WL hbL hgL _;have HGL:Hid (zc w WL):=dD<|zd G2 hgL (by omega)
 go_wp2;refine bodyPost_ret (zV rfl _ rfl hbL underlying50 rfl zmL) rfl ⟨by rw[HR.out];rfl,by rw[HR.out];rfl,HGL⟩
theorem zjH {w:World} (i:Nat) (hi:i<8) {v:Value} (hv:vs[i]? =some v):(Instr.index 50 (.agg vs.toArray) (I6 (i:Int))).run prog w= .ok v w:=by
 have ha:(isAgg 5).run prog w= .ok false w:=by
  unfold isAgg;rw[Sem.run_bind,run_underlying underlying5 w];rfl
 have hs:(Go.sizeOf 5).run prog w= .ok 1 w:=by
  obtain⟨i0,h1,h2⟩:∃i0,Tryz.prog.info? 5=some i0/\i0.size=1:=by
   have:(Tryz.prog.info? 5).map (·.size)=some 1:=by kernel_rfl
   cases hq:Tryz.prog.info? 5 with
   | none=>rw[hq]at this;cases this
   | some i0=>rw[hq]at this;exact⟨i0,rfl,by simpa using this⟩
  simp[Go.sizeOf,typeInfo,h1,h2]
 have hlt:(0:Int)<=(i:Int)/\(i:Int)< ((8:Nat):Int):=by omega
 simp only[Instr.index,asIntOf,Sem.run_bind,Sem.run_pure,rA,run_underlying underlying50];rw[if_pos hlt];simp only[Sem.run_bind,hs,rA,part,ha,Nat.mul_one,tN]
 simp[hv]
theorem zkU {rest:List Oper} {a:Act} {w:World} (hgd:o.guard=none) (x ix:Operand) (ho:o.op= .index 50 x ix) (vs:List Value) (hx:a.eval x= .agg vs.toArray) (i:Nat) (hix:a.eval ix=I6 (i:Int)) (hi:i<8) {v:Value} (hv:vs[i]? =some v)
  (h:wpList prog ops Q rest (a.put o.dst v) w):wpList prog ops Q (o :: rest) a w:=by
 refine wpList_plain hgd fun K hK=>?_
 unfold Oper.wp execOp;simp only[ho,hx,hix,Sem.run_bind,Sem.run_pure,rA,zjH i hi hv];exact hK _ _ h
def byD (m:Ma) (fi k:Nat):Int:=(jd m (fi:Int) ((k / 8:Nat):Int)).getD (k % 8) 0
def Byt (m:Ma) (file:Int) (w:World) (e:Ending) (w':World):Prop:=∃u,e= .returned (.tuple #[u,I6 (JS m file)])/\zb byE w.heap.size w' u (Zz m file)
theorem zl6 (h:maW m=0) {fi:Nat} {f:Fl} (hf:m.fl[fi]? =some f):(0<=f.size/\f.size<=96)/\(f.bl.length:Int)=JQ f.size:=by
 have h1:=zfl h;unfold Jc at h1;rw[zB]at h1;have h2:=((jI _ _).1 (h1 (stW m.fl m.cnt) (by simp))).2.1 f (mG hf)
 exact⟨h2.1,h2.2.1⟩
theorem zaS (V:MaV) (m:Ma) (file:Int) (w:World) (hm:zF w V m):
  Calls prog 14 #[.agg (mL V m).toArray,I6 file] w fun e w'=>Byt m file w e w'/\zc w w':=by
 have HM:Hid (zF w V m):=hm;have HWR:Hid (∀W,zc w W->Calls prog 10 #[.agg (mL V m).toArray] W fun e w'=>e= .returned (I6 (maW m))/\zc W w'):=show∀W,_ from fun W hW=>Jb V m W (HM.grew hW)
 have HCO:Hid (maW m=0->∀W (fi ix:Nat) f bk,zc w W->m.fl[fi]? =some f->f.bl[ix]? =some bk->ix<=1000->Calls prog 62 #[.agg (mL V m).toArray,I6 (fi:Int),I6 (ix:Int)] W fun e w'=>e= .returned (.agg (pgc (jd m fi ix)).toArray)/\(jd m fi ix).length=8/\zc W w'):=dD<|fun h0 W fi ix f bk hW hf hb hi=>zax V m fi ix f bk W (HM.grew hW) (fun c hc _=>zkJ h0 c hc) hf hb hi
 obtain⟨-,-,-,-,-,-,n7,-,-⟩:=hm.ns;obtain⟨_,_,hfe,_,hfr⟩:=jb.rows hm.fl;have HFL:Hid (QA w V.fl.a m.fl):=dD<|by
  simp only[vJ]at hfe;rw[hfe.1];exact hfr
 obtain⟨⟨fa,fn,fc⟩,⟨sa,sn,sc⟩,⟨sba,sbn,sbc⟩,⟨sqa,sqn,sqc⟩,vdb,vdq,⟨fla,fln,flc⟩,⟨caa,can,cac⟩,⟨spa,spn,spc⟩⟩:=V;dsimp only[mL]at HWR HCO HFL n7⊢;have HN7:Hid (m.fl.length=fln):=n7.symm;obtain⟨E,HE⟩:∃E,Hid (maW m=E):=⟨_,rfl⟩;rw[HE.out]at HWR HCO;clear hm n7 hfe hfr;obtain⟨W0,hW0⟩:∃W0,w.alloc (.cells #[.slice fa fn fc,I6 m.hand,.slice sa sn sc,.slice sba sbn sbc,.slice sqa sqn sqc,vdb.x,vdq.x,.slice fla fln flc,I6 m.cnt,.slice caa can cac,.slice spa spn spc] 40)=W0:=⟨_,rfl⟩;have G0:=gA hW0
 have X0:=xA hW0
 have HS0:=sA hW0
 have HW0:Hid (_=W0):=hW0;clear hW0
 go_enter func14,ntmps14
 go_upto_region 1 with fail;rw[HW0.out];obtain⟨x0,x1,x2,x3,x4,x5,x6,x7,x8,x9,x10⟩:=X0.c11;have hc:=HWR.out W0 G0.out;go_wp2_with fail;refine hc.mono ?_;clear hc x0 x1 x2 x3 x4 x5 x6 x7 x8 x9 x10;rintro r W1 ⟨rfl,g1⟩;have K1:Hid (zc W0 W1):=g1;clear g1
 by_cases hz:E=0
 rotate_left
 ·have hze:(E != 0)=true:=by simp[hz]
  have HBE:Hid (JS m file=E):=dD<|by unfold JS;rw[HE.out,if_pos hz]
  have HR:Hid (Byt m file w (.returned (.tuple #[eS,I6 E])) W1):=⟨_,by rw[HBE.out],by
   unfold Zz;rw[if_neg (by rw[HBE.out];exact hz)]
   exact zb.nil _ _ _⟩
  clear hz;go_wp2
  go_ret2
  exact⟨HR,G0.trans K1⟩
 have hze:(E != 0)=false:=by simp[hz]
 have HM0:Hid (maW m=0):=dD<|by rw[HE.out];exact hz
 have HB5:Hid (file<0\/(fln:Int)<=file->∀W,Byt m file w (.returned (.tuple #[eS,I6 5])) W):=dD<|fun h W=>by
  have hb:JS m file=5:=by unfold JS;rw[if_neg (fun h=>h HM0),if_pos (by rw[HN7.out];exact h)]
  refine⟨_,by rw[hb],?_⟩
  unfold Zz;rw[if_neg (by rw[hb];decide)]
  exact zb.nil _ _ _
 have HCN:=show Hid _ from HCO.out hz
 clear hz;have x7:=(X0.grew K1).c 7 rfl
 by_cases a1:file<0
 ·have a1d:decide (file<0)=true:=decide_eq_true a1;have HR:Hid (Byt m file w (.returned (.tuple #[eS,I6 5])) W1):=HB5.out (.inl a1) W1;clear a1;go_wp2
  go_ret2
  exact⟨HR,G0.trans K1⟩
 have a1d:decide (file<0)=false:=decide_eq_false a1
 by_cases a2:(fln:Int)<=file
 ·have a2d:decide ((fln:Int)<=file)=true:=decide_eq_true a2;have HR:Hid (Byt m file w (.returned (.tuple #[eS,I6 5])) W1):=HB5.out (.inr a2) W1;clear a1 a2;go_wp2
  go_ret2
  exact⟨HR,G0.trans K1⟩
 have a2d:decide ((fln:Int)<=file)=false:=decide_eq_false a2;go_upto_region 6 with fail;clear a1d a2d x7 hze;obtain⟨fi,rfl⟩:∃fi:Nat,file=(fi:Int):=⟨file.toNat,by omega⟩
 obtain⟨f,HF⟩:∃f,Hid (m.fl[fi]? =some f):=⟨_,gE (by rw[HN7.out];omega)⟩
 obtain⟨⟨s0,s1⟩,s2⟩:=zl6 HM0 HF.out;obtain⟨z,HZ⟩:∃z:Nat,Hid (f.size=(z:Int)):=⟨f.size.toNat,show _=_ by omega⟩
 have hz96:z<=96:=by have:=HZ.out;omega
 have HBL:Hid (∀k,k<z->k / 8<f.bl.length):=dD<|fun k hk=>by
  have h1:=HZ.out;rw[h1]at s2;unfold JQ at s2
  split at s2 <;> omega
 have HBE:Hid (JS m (fi:Int)=0):=dD<|by unfold JS;rw[if_neg (fun h=>h HM0),if_neg (by rw[HN7.out];omega)]
 have HBY:Hid (Zz m (fi:Int)=(List.range z).map (byD m fi)):=dD<|by
  unfold Zz;rw[if_pos HBE.out];unfold zjl;rw[show(zez m (fi:Int)).toNat=z from by unfold zez;rw[tN,gD,HF.out];show f.size.toNat=z;rw[HZ.out];rfl]
  rfl
 obtain⟨ad7,rfl,ba,bc,_,hlf⟩:=HFL.out fi f HF.out;have HLF:Hid (∀W,zc w W->zgM W (ad7.add (fi*2)) (z:Int) (.slice ba f.bl.length bc)):=dD<|by rw[<-HZ.out];exact hlf
 have hfz:(fi:Int)< (fln:Int):=by omega
 clear a1 a2 s0 s1 s2 hlf;go_wp2
 go_loopg [7,8] 96 (fun gg s7 s8 wr=>∃(k:Nat) (xa:Option Addr) (xc:Nat),k<=z/\z - k<=gg/\s8=I6 k/\s7= .slice xa k xc/\Hid (zc W0 wr)/\Hid (zb byE (w.heap.size+1) wr (.slice xa k xc) ((List.range k).map (byD m fi))))
 case atStart=>exact⟨0,none,0,nZ _,by omega,rfl,rfl,K1,zb.nil _ _ _⟩
 obtain⟨k,xa,xc,hk,hgk,rfl,rfl,KW,OW⟩:=hrel;have x7:=(X0.grew KW).c 7 rfl;obtain⟨d0,-⟩:=HLF.out wr (G0.trans KW)
 by_cases hlt:k<z
 ·have hltz:(k:Int)< (z:Int):=by omega
  obtain⟨kd,HKD⟩:∃kd,Hid (k / 8=kd):=⟨_,rfl⟩;obtain⟨km,HKM⟩:∃km,Hid (k % 8=km):=⟨_,rfl⟩;have hkm:km<8:=by have:=HKM.out;omega
  have hq1:(k:Int).tdiv 8=(kd:Int):=by rw[Int.tdiv_eq_ediv_of_nonneg (by omega)];have:=HKD.out;omega
  have hq2:(k:Int) / 8=(kd:Int):=by have:=HKD.out;omega
  have hr1:(k:Int).tmod 8=(km:Int):=by rw[Int.tmod_eq_emod_of_nonneg (by omega)];have:=HKM.out;omega
  have hr2:(k:Int) % 8=(km:Int):=by have:=HKM.out;omega
  obtain⟨bk,HBK⟩:∃bk,Hid (f.bl[kd]? =some bk):=⟨_,gE (by rw[<-HKD.out];exact HBL k hlt)⟩
  have hc:=HCN.out wr fi kd f bk (G0.trans KW) HF HBK (by have:=HKD.out;omega)
  have x0:=(X0.grew KW).c 0 rfl;have x1:=(X0.grew KW).c 1 rfl;have x2:=(X0.grew KW).c 2 rfl;have x3:=(X0.grew KW).c 3 rfl;have x4:=(X0.grew KW).c 4 rfl;have x5:=(X0.grew KW).c 5 rfl;have x6:=(X0.grew KW).c 6 rfl;have x8:=(X0.grew KW).c 8 rfl;have x9:=(X0.grew KW).c 9 rfl;have x10:=(X0.grew KW).c 10 rfl;go_wp2_with fail;refine hc.mono ?_;clear hc x0 x1 x2 x3 x4 x5 x6 x7 x8 x9 x10 d0;rintro r W2 ⟨rfl,hl8,g2⟩;have K2:=dD (KW.trans g2);have O2:=dD (OW.grew g2);obtain⟨b,HB⟩:∃b,Hid (byD m fi k=b):=⟨_,rfl⟩;have hv:(pgc (jd m (fi:Int) (kd:Int)))[km]? =some (U8 b):=by
   rw[<-HB.out];unfold byD;rw[HKD.out,HKM.out];exact ze6 (by rw[gD,gE (by rw[hl8];exact hkm)];rfl)
  generalize jd m (fi:Int) (kd:Int)=CL at hv hl8⊢
  have HACC:Hid ((List.range (k+1)).map (byD m fi)=(List.range k).map (byD m fi)++ [b]):=dD<|by rw[List.range_succ,List.map_append,List.map_singleton,HB.out]
  have HAL:Hid (((List.range k).map (byD m fi)).length=k):=dD<|by simp
  generalize(List.range k).map (byD m fi)=acc at O2 HACC HAL
  clear g2 hl8;have HSZ:Hid (w.heap.size+1<=W2.heap.size):=dD<|by rw[<-HS0.out];exact bS K2.out
  go_wp2_with (first | refine zkU rfl (.tmp 40) (.tmp 42) rfl (pgc CL) rfl km rfl hkm hv ?_ | (at_builtin;refine zD (E:=byE) rfl (.tmp 35) (.tmp 44) rfl (w.heap.size+1) _ acc rfl (O2.grew (za _ _)) _ [b] rfl (Za byE W2 b _ _ rfl (by decide)) ?qb ?qc ?_))
  case qb=>
   show(acc.length+1)*1<=_
   have:=HAL.out;omega
  case qc=>exact nT HSZ (bS (za _ _))
  intro vn Wn own grn;obtain⟨xan,xcn,hvn⟩:=own.form;rw[show(acc++ [b]).length=k+1 from by rw[lA,HAL.out];rfl]at hvn
  subst hvn;have On:Hid (zb byE (w.heap.size+1) Wn (.slice xan (k+1) xcn) ((List.range (k+1)).map (byD m fi))):=dD<|by rw[HACC.out];exact own
  have Kn:Hid (zc W0 Wn):=dD<|qp (K2.trans (za _ _)) grn (fun g hg=>by
   have h1:=(O2.lt g hg).1;rw[HS0.out];exact h1)
  clear own grn hv;go_wp2
  go_roundg (z -(k+1))
  case measure=>omega
  exact⟨k+1,xan,xcn,by omega,by omega,by go_num,rfl,Kn,On⟩
 have hltz:¬(k:Int)< (z:Int):=by omega
 obtain rfl:z=k:=by omega
 have HR:Hid (Byt m (fi:Int) w (.returned (.tuple #[.slice xa z xc,I6 0])) wr):=⟨_,by rw[HBE.out],by rw[HBY.out];exact OW.base (Nat.le_succ _)⟩
 go_wp2
 go_ret2
 exact⟨HR,G0.trans KW⟩
theorem zcM {w:World} {v:Value} {l:List Int} (h:zr byE w v l):(convert 24 9 v).run prog w= .ok (.string (strOfNums l)) w:=by
 have hs:=byE.und;have he:Tryz.prog.underlying 5=some (.int .u8):=underlying5;have hd:Tryz.prog.underlying 9=some .string:=underlying9;obtain⟨a,c,h1,h2⟩:=h.rows;subst h1
 cases a with
 | none=>
  have:l=[]:=by
   cases l with
   | nil=>rfl
   | cons x l=>
    obtain⟨ad,h3,_⟩:=h2 0 x rfl;cases h3
  subst this;exact run_convert_bytes_nil w 24 5 hs he _ _ 9 hd
 | some x=>
  have hc:∀(j:Nat) u,(l.map (Value.int .u8))[j]? =some u->w.cell? (x.add j)=some u:=fun j u hj=>by
   rw[List.getElem?_map]at hj
   cases hz:l[j]? with
   | none=>rw[hz]at hj;cases hj
   | some z=>
    rw[hz]at hj;simp only[Option.map_some,Option.some.injEq]at hj;obtain⟨ad,h3,h4⟩:=h2 j z hz;cases h3;have:=h4 w (zc.refl _) 0 u (by rw[<-hj];rfl)
    simp only[byE,Nat.mul_one,zX,Nat.add_zero]at this;exact this
  have hl:=run_loadCells_list (P:=prog) w x (l.map (Value.int .u8)) hc;rw[List.length_map]at hl;rw[run_convert_bytes_string w 24 9 5 _ _ c hs he hd,run_bytesToString w x l.length c l hl,foldl_push_bytes]
  simp[strOfNums,ByteArray.empty,ByteArray.emptyWithCapacity]
  rfl
theorem zk3 {α:Type} (E:Elt α) (w:World):zr E w (eS) ([]:List α):=(zb.nil E 0 w).at
theorem zhx:Zr (fun _=>en0)=zY:=by kernel_rfl
theorem zkl {F S B:Int} (h:zl7 F S B):jV (zff F.toNat S.toNat B.toNat 1) [fun _=>en0] 0=zk7 F S B:=by
 unfold jV zff zk7;simp only[List.replicate_one,List.zipWith_cons_cons,List.zipWith_nil_left,zhx]
 congr 1
 unfold zl7 at h;omega
def nm2:Ma:=zk7 2 2 2
def sp2:Sp:=⟨true,[],zY⟩
theorem zh2 (w:World):Calls prog 8 #[I6 2,I6 2,I6 2,eS] w fun e w'=>(∃V:MaV,e= .returned (.agg #[V.f.x,I6 0,V.s.x,V.sb.x,V.sq.x,V.db.x,V.dq.x,V.fl.x,I6 2,V.ca.x,V.sp.x])/\zF w' V nm2)/\Rt nm2/\zc w w':=by
 refine(zfN 2 2 2 2 2 2 (by decide) (by decide) (by decide) zy [] w (zk3 _ _) (nR _) (by simp)).mono ?_
 rintro e w' ⟨V2,m2,T2,hd2,hi2,ht2,vt2,rfl,hbt⟩;obtain⟨e1,e2,e3⟩:=hbt.new rfl;have hat:=hbt.at;have hf:jV (zff 2 2 2 1) [fun _=>en0] 0=nm2:=zkl (F:=2) (S:=2) (B:=2) (by unfold zl7;omega)
 rw[e1,e2,e3,hf]at hat;have hc:m2.cnt=2:=by rw[e1];rfl
 refine⟨⟨V2,by rw[hc,e3],hat.1⟩,⟨hat.2,fun s hs=>?_⟩,hbt.gr⟩
 have:s=sp2:=by
  have hs:s∈[sp2]:=hs
  simpa using hs
 rw[this];rfl
theorem zl4 {s:Sp} (h:Qo nm2 0 q s):q=0/\s=sp2:=by
 have h1:q=0:=by have:=h.1;omega
 subst h1;have h2:nm2.sp[0]? =some s:=h.2.1;have h3:nm2.sp[0]? =some sp2:=rfl;rw[h3]at h2;cases h2;exact⟨rfl,rfl⟩
theorem zme {k:Nat} (h:Vac nm2.sp k):k=1:=by
 have h1:k<=1:=h.1
 by_cases e:k=0
 ·subst e;have:=h.2.1 sp2 rfl;cases this
 omega
theorem zl5:Zc nm2 1 0 sp2={ nm2 with sp:=[sp2,sp2] }:=rfl
theorem zl8:QH { nm2 with sp:=[sp2,sp2] } 0 sp2={ nm2 with sp:=[⟨false,[],zY⟩,sp2] }:=rfl
theorem zgI (w:World):Calls prog 20 #[] w fun e w'=>e= .returned (.bool true)/\zc w w':=by
 have hbu:=zh2 w
 go_enter func20,ntmps20
 go_wp2_with fail;refine hbu.mono ?_;clear hbu;rintro e W1 ⟨⟨V,rfl,hm⟩,hrt,g1⟩;have G1:Hid (zc w W1):=g1;have M1:Hid (zF W1 V nm2):=hm;have HR:Hid (Rt nm2):=hrt;clear g1 hm hrt;go_upto_region 2 with fail;obtain⟨W2,hW2⟩:∃W2,W1.alloc (.cells #[V.f.x,I6 0,V.s.x,V.sb.x,V.sq.x,V.db.x,V.dq.x,V.fl.x,I6 2,V.ca.x,V.sp.x] 40)=W2:=⟨_,rfl⟩;have g2:=gP hW2
 have X2:=xA hW2
 have G2:=dD (G1.trans g2);have M2:=dD (M1.grew g2);rw[hW2];clear hW2 g2;have hfk:Calls prog 21 #[.agg #[V.f.x,I6 0,V.s.x,V.sb.x,V.sq.x,V.db.x,V.dq.x,V.fl.x,I6 2,V.ca.x,V.sp.x],I6 0] W2 fun e w'=>zkR nm2 0 e w'/\zc W2 w':=zfy V nm2 0 W2 M2 HR.w (by decide)
 obtain⟨x0,x1,x2,x3,x4,x5,x6,x7,x8,x9,x10⟩:=X2.c11;go_wp2_with fail;refine hfk.mono ?_;clear hfk x0 x1 x2 x3 x4 x5 x6 x7 x8 x9 x10;rintro e W3 ⟨hF,g3⟩;have G3:=dD (G2.trans g3);clear g3
 rcases hF with⟨hno,_⟩|⟨q,s,k,hl,hv,hF⟩
 ·exact absurd (show Qo nm2 0 0 sp2 from⟨rfl,rfl,rfl⟩) (hno 0 sp2)
 obtain⟨rfl,rfl⟩:=zl4 hl;have hk:=zme hv;subst hk
 rcases hF with⟨h4,_⟩|⟨_,V3,rfl,hm3⟩
 ·cases h4
 have HR3:Hid (Rt (Zc nm2 1 0 sp2)):=dD<|(zhc HR hl.2.1 rfl hv (by decide)).1
 rw[zl5]at hm3 HR3⊢;have M3:Hid (zF W3 V3 { nm2 with sp:=[sp2,sp2] }):=hm3;have hn3:V3.sp.n=2:=hm3.ns.2.2.2.2.2.2.2.2;have HN3:Hid (V3.sp.n=2):=hn3;clear hm3 hl hv hn3;go_upto_region 3 with fail;obtain⟨W4,hW4⟩:∃W4,W3.alloc (.cells (mL V3 nm2).toArray 40)=W4:=⟨_,rfl⟩;have g4:=gP hW4
 have X4:=xA hW4
 have G4:=dD (G3.trans g4);have M4:=dD (M3.grew g4);rw[hW4];clear hW4 g4;have hex:Calls prog 23 #[.agg (mL V3 nm2).toArray,I6 0] W4 fun e w'=>zkS { nm2 with sp:=[sp2,sp2] } 0 e w'/\zc W4 w':=zcF V3 { nm2 with sp:=[sp2,sp2] } 0 W4 M4 HR3.w
 (try simp only[mL,Sli.x]at hex);rw[HN3.out]at hex;obtain⟨x0,x1,x2,x3,x4,x5,x6,x7,x8,x9,x10⟩:=X4.c11;(try simp only[Sli.x]at x10);rw[HN3.out]at x10;go_wp2_with fail;refine hex.mono ?_;clear hex x0 x1 x2 x3 x4 x5 x6 x7 x8 x9 x10;rintro e W5 ⟨hF,g5⟩;have G5:=dD (G4.trans g5);clear g5
 rcases hF with⟨hno,_⟩|⟨q,s,hl,V5,rfl,hm5⟩
 ·exact absurd (show Qo { nm2 with sp:=[sp2,sp2] } 0 0 sp2 from⟨rfl,rfl,rfl⟩) (hno 0 sp2)
 have hq0:q=0:=by have:=hl.1;omega
 subst hq0;have hs2:s=sp2:=by
  have h2:=hl.2.1;have h3:({ nm2 with sp:=[sp2,sp2] }:Ma).sp[0]? =some sp2:=rfl;rw[h3]at h2;cases h2;rfl
 subst hs2;rw[zl8]at hm5⊢;have M5:Hid (zF W5 V5 { nm2 with sp:=[⟨false,[],zY⟩,sp2] }):=hm5;have HN5:Hid (V5.sp.n=2):=show _=_ from hm5.ns.2.2.2.2.2.2.2.2
 clear hm5 hl;go_upto_region 6 with fail;obtain⟨W6,hW6⟩:∃W6,W5.alloc (.cells (mL V5 nm2).toArray 40)=W6:=⟨_,rfl⟩;have g6:=gP hW6
 have X6:=xA hW6
 have G6:=dD (G5.trans g6);obtain⟨xs,s1,s2,s3⟩:=(M5.grew g6).sp;rw[hW6];clear hW6 g6;obtain⟨y0,hy0⟩:∃y,xs[0]? =some y:=⟨_,gE (by rw[s2];decide)⟩
 obtain⟨y1,hy1⟩:∃y,xs[1]? =some y:=⟨_,gE (by rw[s2];decide)⟩
 have l0:y0.live=false:=(s3 0 y0 _ hy0 rfl).live;have l1:y1.live=true:=(s3 1 y1 _ hy1 rfl).live;obtain⟨a,c,heq,hrow⟩:=s1.sps;have ha:V5.sp.a=a:=by
  simp only[vJ]at heq;exact heq.1
 obtain⟨ad,had,hc0⟩:=hrow 0 y0 hy0;obtain⟨ad',had',hc1⟩:=hrow 1 y1 hy1;rw[had]at had';cases had';obtain⟨d0,-⟩:=jw.sp10 (hc0 W6 (zc.refl _));obtain⟨d1,-⟩:=jw.sp10 (hc1 W6 (zc.refl _));rw[l0]at d0;rw[l1]at d1;have x10:=X6.c 10 rfl;(try simp only[Sli.x]at x10);rw[HN5.out,ha,had]at x10;clear hc0 hc1 hrow heq ha had s1 s2 s3 hy0 hy1 l0 l1;have e0:ad.add (0*10)=ad:=by
  cases ad
  simp[Addr.add]
 rw[e0]at d0;have d1:W6.cell? { block:=ad.block,off:=ad.off+10 }=some (Value.bool true):=d1;go_wp2;go_ret;exact⟨rfl,G6⟩
theorem zlv {α:Type} (E:Elt α) {w:World} {cs:List Value} (h:Box w b cs) (l:List α) (hcs:cs=l.flatMap E.enc) (hb:l.length*E.bytes<=140737488355328):zr E w (.slice (some ⟨b,0,none⟩) l.length l.length) l:=by
 refine⟨⟨_,l.length,rfl,fun h=>(by cases h),fun y hy=>?_⟩,hb⟩
 cases hy;intro j u hj;rw[Addr.add_lit,zA];exact h.c j (by rw[hcs];exact hj)
def zlL (m:Ma) (p:Int) (n:Nat):List Int:=([(n:Int),(jv m p n).2.2]++(jv m p n).1)++(if(jv m p n).2.1=true then [121]else [])
def zbw (m:Ma) (p:Int) (k:Nat):List Int:=(List.range k).flatMap (zlL m p)
theorem zim (m:Ma) (p:Int) (k:Nat):zbw m p (k+1)=zbw m p k++zlL m p k:=by
 unfold zbw;rw[List.range_succ,List.flatMap_append];simp
theorem zjy (h:maW m=0) (p n:Int):(jv m p n).2.2=0\/(jv m p n).2.2=5\/(jv m p n).2.2=9:=by
 unfold jv;rw[if_neg (by simp[h])]
 unfold jA
 split
 ·exact .inr (.inl rfl)
 dsimp only
 split
 ·exact .inr (.inl rfl)
 split
 ·exact .inl rfl
 split
 ·exact .inl rfl
 split
 ·exact .inl rfl
 split
 ·exact .inr (.inr rfl)
 exact .inl rfl
theorem zbX (V:MaV) (m:Ma) (p:Int) (w:World) (hm:zF w V m) (h0:maW m=0) (hfs:∀s∈m.sp,qV m.fl.length s.ars):
  Calls prog 25 #[.agg (mL V m).toArray,I6 p] w fun e w'=>e= .returned (.string (strOfNums (zbw m p 64)))/\zc w w':=by
 have HM:Hid (zF w V m):=hm;have HV:Hid (∀(n:Nat) W,zc w W->Calls prog 16 #[.agg (mL V m).toArray,I6 p,I6 (n:Int)] W fun e w'=>e= .returned (zhu (jv m p n))/\(jv m p n).1.length=8/\zc W w'):=show∀(n:Nat) W,_ from fun n W hW=>zeY V m p n W (hm.grew hW) (fun _=>hfs)
 have HER:Hid (∀n:Nat,(jv m p n).2.2=0\/(jv m p n).2.2=5\/(jv m p n).2.2=9):=dD<|fun n=>zjy h0 p n
 obtain⟨W0,hW0⟩:∃W0,w.alloc (.cells (mL V m).toArray 40)=W0:=⟨_,rfl⟩;have G0:=gA hW0
 obtain⟨b,HB⟩:∃b,Hid (w.heap.size=b):=⟨_,rfl⟩;have X0:=xPT hW0 HB
 have HW0:Hid (_=W0):=hW0;clear hW0 hm h0 hfs
 go_enter func25,ntmps25
 go_upto_region 2 with fail;rw[HW0.out,HB.out];go_wp2
 go_loopg [5,10] 64 (fun gg s5 s10 wr=>∃(kk:Nat) (t:Sli),kk<=64/\64 - kk<=gg/\s10=I6 kk/\s5=t.x/\Hid (zc w wr)/\Hid (zn wr b 40 (mL V m))/\Hid (zb byE w.heap.size wr (t.x) (zbw m p kk))/\Hid ((zbw m p kk).length<=11*kk))
 case atStart=>exact⟨0,zy,by omega,by omega,rfl,rfl,G0,X0,zb.nil _ _ _,nR _⟩
 obtain⟨kk,t,hkk,hgg,rfl,rfl,GW,XW,RW,HL⟩:=hrel
 by_cases hlt:kk<64
 ·have hltz:(kk:Int)<64:=by omega
  have hvw:=HV.out kk wr GW.out;obtain⟨x0,x1,x2,x3,x4,x5,x6,x7,x8,x9,x10⟩:=XW.box.c11;go_wp2_with fail;refine hvw.mono ?_;clear hvw x0 x1 x2 x3 x4 x5 x6 x7 x8 x9 x10;rintro e W1 ⟨rfl,h8,g1⟩;have G1:=dD (GW.trans g1);have X1:=dD (XW.grew g1);have R1:=dD (RW.grew g1);have HN:Hid (zbw m p (kk+1)=zbw m p kk++zlL m p kk):=zim m p kk;have her:=HER.out kk;unfold zhu;have HSB:Hid (zlL m p kk=([(kk:Int),(jv m p kk).2.2]++(jv m p kk).1)++(if(jv m p kk).2.1=true then [121]else [])):=rfl;obtain⟨⟨lp,lo,le⟩,hvl⟩:∃x,jv m p kk=x:=⟨_,rfl⟩;rw[hvl]at h8 her HSB⊢;dsimp only at h8 her HSB⊢;clear hvl g1;obtain⟨p0,p1,p2,p3,p4,p5,p6,p7,rfl⟩:=zhS h8;have hle:0<=le/\le<256:=by omega
  clear her h8;have hpone:∀v∈([U8 p0,U8 p1,U8 p2,U8 p3,U8 p4,U8 p5,U8 p6,U8 p7]:List Value),v.oneCell'=true:=by simp[Value.oneCell']
  go_upto_region 6 with(refine qC rfl 50 (.tmp 7) (.tmp 18) rfl W1.heap.size rfl [U8 p0,U8 p1,U8 p2,U8 p3,U8 p4,U8 p5,U8 p6,U8 p7] rfl (zn.top W1 [U8 0,U8 0,U8 0,U8 0,U8 0,U8 0,U8 0,U8 0] 50 rfl) rfl (by kernel_rfl) hpone ?_;intro W2 bx2 gr2 _)
  obtain⟨pp,HPP⟩:∃pp,Hid (W1.heap.size=pp):=⟨_,rfl⟩;have ga:zc W1 (W1.alloc (.cells #[U8 0,U8 0,U8 0,U8 0,U8 0,U8 0,U8 0,U8 0] 50)):=za _ _;have Q2:Hid (zn W2 pp 50 [U8 p0,U8 p1,U8 p2,U8 p3,U8 p4,U8 p5,U8 p6,U8 p7]):=dD<|by rw[<-HPP.out];exact bx2
  have G2:Hid (zc w W2):=dD<|zd (G1.trans ga) gr2 (bS G1)
  have X2:Hid (zn W2 b 40 (mL V m)):=dD<|(X1.grew ga).beside gr2 (fun k e=>by cases e;have:=X1.box.lt;omega)
  have R2:Hid (zb byE w.heap.size W2 (t.x) (zbw m p kk)):=dD<|(R1.grew ga).grown gr2 (fun g hg e=>by cases e;have:=(R1.lt _ hg).2;omega)
  rw[HPP.out];clear bx2 gr2 ga hpone
  generalize hacc:zbw m p kk=acc at R2 HL HN
  clear hacc;have hal:acc.length<=704:=by have:=HL.out;omega
  obtain⟨I,HI⟩:∃I:World->Prop,Hid (∀u,I u↔(zn u pp 50 [U8 p0,U8 p1,U8 p2,U8 p3,U8 p4,U8 p5,U8 p6,U8 p7]/\zn u b 40 (mL V m))):=⟨_,fun _=>Iff.rfl⟩
  have hI0:I W2.drew:=(HI _).2 ⟨Q2.grew (gW _),X2.grew (gW _)⟩
  have hF0:zc W2 W2.drew:=show Below _ _ _ from(bR _ _).drew
  have hne:Nonempty (zk I):=⟨⟨_,hI0⟩⟩;have hk0:0<=(kk:Int)/\(kk:Int)<256:=by omega
  refine zG (I:=I) 9 [(5,fun v=>∃g,v= .slice (some ⟨g,0,none⟩) 2 2),(6,fun v=>∃s:Sli,v=s.x),(8,fun v=>∃s:Sli,v=s.x)] (fun u=>zc W2 u) hI0 hF0 qj (by kernel_rfl) rfl rfl (by decide) ?hS (by kernel_rfl) ?_
  case hS=>
   intro x hx;simp only[mC,nM,or_false]at hx
   rcases hx with rfl|rfl|rfl
   ·exact⟨_,0,rfl⟩
   ·exact⟨_,zy,rfl⟩
   exact⟨_,zy,rfl⟩
  simp only[List.take,List.drop];iterate 5 (refine ze rfl rfl rfl (fun K hK=>?_);go_big_quiet_op;refine hK _ ?_;clear hK)
  refine zJ rfl rfl (fun v u=>zc W2 u/\zr byE u v [(kk:Int),le]) (fun w' hI' hF'=>?_) (fun v1 hv=>?_)
  ·obtain⟨i1,i2⟩:=(HI _).1 hI';refine zP.step (v:= .slice (some ⟨w'.heap.size,0,none⟩) 2 2) (w':=w'.alloc (.cells #[U8 (kk:Int),U8 le] 5)) (by simp only[execOp];go_simp) ⟨(HI _).2 ⟨i1.grew (za _ _),i2.grew (za _ _)⟩,⟨_,rfl⟩,hF'.trans (za _ _),zcf byE w' [(kk:Int),le] _ rfl (show 2*1<=_ by decide)⟩
  obtain⟨g5,rfl⟩:=hv;simp only[Act.put,sB,sS,sZ];refine zJ rfl rfl (fun v u=>zc w u/\zb byE w.heap.size u v (acc++ [(kk:Int),le])) (fun w' hI' hF'=>?_) (fun v1 hv=>?_)
  ·obtain⟨i1,i2⟩:=(HI _).1 hI';obtain⟨k1,k2⟩:=hF';obtain⟨v',w2,hrun,ho,hgr,hk⟩:=z8 (E:=byE) (w:=w') 24 (R2.grew k1) (.slice (some ⟨g5,0,none⟩) 2 2) [(kk:Int),le] k2 (by show(acc.length+2)*1<=_;omega) (nT (bS G2) (bS k1))
   obtain⟨a',c',rfl⟩:=ho.form;refine zP.step (w':=w2) (v:= .slice a' (acc++ [(kk:Int),le]).length c') ?_ ⟨(HI _).2 ⟨zn.row (R2.grew k1) hgr i1 (by decide),zn.row (R2.grew k1) hgr i2 (by decide)⟩,⟨⟨a',_,c'⟩,rfl⟩,zc.row (R2.grew k1) hgr (G2.trans k1),ho⟩
   simp only[execOp,resolve,invoke,builtin,pure_bind,Sem.run_bind,Sem.run_pure,List.map_toArray,mP,List.map_nil];exact Eq.trans (congrArg (fun r=>Result.andThen r (fun a w'=>Result.ok (Next.value a) w')) hrun) rfl
  obtain⟨s6,rfl⟩:=hv;simp only[Act.put,sB,sS,sZ];iterate 1 (refine ze rfl rfl rfl (fun K hK=>?_);go_big_quiet_op;refine hK _ ?_;clear hK)
  refine zJ rfl rfl (fun v u=>zc w u/\zb byE w.heap.size u v ((acc++ [(kk:Int),le])++ [p0,p1,p2,p3,p4,p5,p6,p7])) (fun w' hI' hF'=>?_) (fun v1 hv=>?_)
  ·obtain⟨i1,i2⟩:=(HI _).1 hI';obtain⟨k1,k2⟩:=hF';obtain⟨v',w2,hrun,ho,hgr,hk⟩:=z8 (E:=byE) (w:=w') 24 k2 (.slice (some ⟨pp,0,none⟩) 8 8) [p0,p1,p2,p3,p4,p5,p6,p7] (zlv byE i1.box [p0,p1,p2,p3,p4,p5,p6,p7] rfl (show 8*1<=_ by decide)) (by simp only[lA];show(acc.length+2+8)*1<=_;omega) (bS k1)
   obtain⟨a',c',rfl⟩:=ho.form;refine zP.step (w':=w2) (v:= .slice a' ((acc++ [(kk:Int),le])++ [p0,p1,p2,p3,p4,p5,p6,p7]).length c') ?_ ⟨(HI _).2 ⟨zn.row k2 hgr i1 (by decide),zn.row k2 hgr i2 (by decide)⟩,⟨⟨a',_,c'⟩,rfl⟩,zc.row k2 hgr k1,ho⟩
   simp only[execOp,resolve,invoke,builtin,pure_bind,Sem.run_bind,Sem.run_pure,List.map_toArray,mP,List.map_nil];exact Eq.trans (congrArg (fun r=>Result.andThen r (fun a w'=>Result.ok (Next.value a) w')) hrun) rfl
  obtain⟨s8,rfl⟩:=hv;simp only[Act.put,sB,sS,sZ];refine qn fun W3 hI3 hF3=>?_
  have G3:Hid (zc w W3):=hF3.1;have R3:Hid (zb byE w.heap.size W3 (s8.x) ((acc++ [(kk:Int),le])++ [p0,p1,p2,p3,p4,p5,p6,p7])):=hF3.2;have X3:Hid (zn W3 b 40 (mL V m)):=((HI _).1 hI3).2;clear hI3 hF3 hI0 hF0 hne
  cases lo with
  | false=>
   have R4:Hid (zb byE w.heap.size W3 (s8.x) (zbw m p (kk+1))):=dD<|by
    rw[HN.out,HSB.out,if_neg (by simp),List.append_nil,<-List.append_assoc]
    exact R3.out
   have HL4:Hid ((zbw m p (kk+1)).length<=11*(kk+1)):=dD<|by
    rw[HN.out,HSB.out,if_neg (by simp)]
    have:=HL.out;simp only[lA,List.length_cons,List.length_nil];omega
   go_wp2
   go_roundg (64 -(kk+1))
   case measure=>omega
   exact⟨kk+1,s8,by omega,by omega,by go_num,rfl,G3,X3,R4,HL4⟩
  | true=>
   obtain⟨W4,hW4⟩:∃W4,W3.alloc (.cells #[U8 121] 5)=W4:=⟨_,rfl⟩;have g4:=gP hW4
   have Y4:Hid (zr byE W4 (.slice (some ⟨W3.heap.size,0,none⟩) 1 1) [121]):=dD<|by rw[<-hW4];exact zcf byE W3 [121] _ rfl (show 1*1<=_ by decide)
   have G4:=dD (G3.trans g4);have R4:=dD (R3.grew g4);have X4:=dD (X3.grew g4);have HW4:Hid (_=W4):=hW4;clear hW4 g4
   go_wp2_with (at_builtin;rw[HW4.out];refine zD (E:=byE) rfl (.tmp 31) (.tmp 32) rfl w.heap.size _ _ rfl R4 _ [121] rfl Y4.out ?hb (bS G4) ?_)
   case hb=>
    show(_+_)*1<=_
    simp;omega
   intro v5 W5 ow5 gr5;obtain⟨a5,c5,rfl⟩:=ow5.form;have G5:Hid (zc w W5):=dD<|zc.row R4 gr5 G4.out
   have X5:Hid (zn W5 b 40 (mL V m)):=dD<|zn.row R4 gr5 X4 (by decide)
   have HEQ:Hid (zbw m p (kk+1)=acc++ [(kk:Int),le,p0,p1,p2,p3,p4,p5,p6,p7,121]):=dD<|by
    rw[HN.out,HSB.out];simp
   have HL4:Hid ((zbw m p (kk+1)).length<=11*(kk+1)):=dD<|by
    rw[HEQ.out];have:=HL.out;simp only[lA,List.length_cons,List.length_nil];omega
   rw[<-HEQ.out]at ow5⊢;have R5:Hid (zb byE w.heap.size W5 (.slice a5 (zbw m p (kk+1)).length c5) (zbw m p (kk+1))):=ow5;clear ow5 gr5;obtain⟨n5,HN5⟩:∃n5,Hid ((zbw m p (kk+1)).length=n5):=⟨_,rfl⟩;rw[HN5.out]at R5⊢;go_wp2
   go_roundg (64 -(kk+1))
   case measure=>omega
   exact⟨kk+1,⟨a5,n5,c5⟩,by omega,by omega,by go_num,rfl,G5,X5,R5,HL4⟩
 have hltz:¬(kk:Int)<64:=by omega
 have:kk=64:=by omega
 subst this;have hst:=zcM RW.at;go_wp2;go_ret;exact⟨rfl,GW⟩
theorem zg3 (V:MaV) (m:Ma) (p:Int) (w:World) (hm:zF w V m):
  Calls prog 24 #[.agg (mL V m).toArray,I6 p] w fun e w'=>((e= .returned (.bool true)/\∃q s,Qo m p q s)\/(e= .returned (.bool false)/\∀q s,¬Qo m p q s))/\zc w w':=by
 obtain⟨W1,hW1⟩:∃W1,w.alloc (.cells (mL V m).toArray 40)=W1:=⟨_,rfl⟩;have G1:=gA hW1
 have X1:=xA hW1
 have HM:Hid (zF w V m):=hm;have HW1:Hid (_=W1):=hW1;clear hW1;obtain⟨-,-,-,-,-,-,-,-,n9⟩:=hm.ns;have HN9:Hid (V.sp.n=m.sp.length):=n9;clear hm n9
 go_enter func24,ntmps24
 go_upto_region 1 with fail;rw[HW1.out];obtain⟨b,HB⟩:∃b,Hid (w.heap.size=b):=⟨_,rfl⟩;rw[HB.out]at X1⊢;have x10:=X1.c 10 rfl;obtain⟨sn,HSN⟩:∃sn,Hid (V.sp.n=sn):=⟨_,rfl⟩;(try simp only[Sli.x]at x10);rw[HSN.out]at x10
 by_cases hneg:0<=p
 rotate_left
 ·have HF:Hid (∀q s,¬Qo m p q s):=dD<|fun q s h=>by have:=h.1;omega
  go_wp2;go_ret;exact⟨.inr ⟨rfl,HF⟩,G1⟩
 by_cases hge:p< (sn:Int)
 rotate_left
 ·have HF:Hid (∀q s,¬Qo m p q s):=dD<|fun q s h=>by
   have:=h.1;have:=(gS.1 h.2.1).1;have:=HSN.out;have:=HN9.out;omega
  go_wp2;go_ret;exact⟨.inr ⟨rfl,HF⟩,G1⟩
 obtain⟨q,rfl⟩:∃q:Nat,p=(q:Int):=⟨p.toNat,by omega⟩
 have hqz:(q:Int)< (sn:Int):=by omega
 obtain⟨xs,s1,s2,s3⟩:=(HM.grew G1).sp;obtain⟨x,hx⟩:∃x,xs[q]? =some x:=⟨_,gE (by rw[s2,<-HN9.out,HSN.out];omega)⟩
 obtain⟨s,hs⟩:∃s,m.sp[q]? =some s:=⟨_,gE (by rw[<-HN9.out,HSN.out];omega)⟩
 have hlv:=(s3 q x s hx hs).live;obtain⟨a,c,heq,hrow⟩:=s1.sps;have ha:V.sp.a=a:=by
  simp only[vJ]at heq;exact heq.1
 obtain⟨ad,had,hl⟩:=hrow q x hx;have HS:Hid (m.sp[q]? =some s):=hs;obtain⟨d0,-⟩:=jw.sp10 (hl W1 (zc.refl _));(try simp only[Sli.x]at x10);rw[ha,had]at x10;clear hl hrow heq ha had s1 s2 s3 hx hs
 cases hv:s.live with
 | true=>
  rw[hlv,hv]at d0;have HF:Hid (∃q' s,Qo m (q:Int) q' s):=dD<|⟨q,s,rfl,HS,hv⟩
  clear hv hlv;go_wp2;go_ret;exact⟨.inl ⟨rfl,HF⟩,G1⟩
 | false=>
  rw[hlv,hv]at d0;have HF:Hid (∀q' s,¬Qo m (q:Int) q' s):=dD<|fun q' s' h=>by
   have e:q'=q:=by have:=h.1;omega
   rw[e]at h;have h2:=h.2.1;rw[HS.out]at h2;cases h2;have h3:=h.2.2;rw[hv]at h3;cases h3
  clear hv hlv;go_wp2;go_ret;exact⟨.inr ⟨rfl,HF⟩,G1⟩
end
section
theorem zlo (h:Rt m) {n:Nat} {s:Sp} (hs:m.sp[q]? =some s) (hn:n<64):zbM m q (n:Int)=zba m q n:=by
 have ht:∀s∈m.sp,zbQ s.tb:=fun s hs=>h.tb hs
 have hql:=(gS.1 hs).1;obtain⟨e,he⟩:∃e,zi s n=e:=⟨_,rfl⟩;have hent:zhR m q (n:Int)=e:=by unfold zhR;rw[Sp.getD_of hs,zft hn,he]
 have hd:m.sp.getD q ⟨false,[],[]⟩=s:=Sp.getD_of hs;unfold zbM zba;rw[hent];simp only[hd,he]
 by_cases hk1:e.kind=1
 ·obtain⟨i,fr,f1,f2,f3,f4⟩:=h.present hs hn (by rw[he];exact hk1)
  rw[he]at f1 f3;obtain⟨r0,r1⟩:=h.refs f2;have hil:=(gS.1 f2).1;have hgd:m.fs.getD i fr0=fr:=by rw[gD,f2];rfl
  have hho:jN m e (-1)={ m with fs:=m.fs.set i (QT fr) }:=by
   have e0:Ql m.fs m.hand e.n (-1)=0:=by
    unfold Ql;rw[if_pos h.parts.1,f1,tN,hgd];have hb:(inB (i:Int) m.fs.length && !(fr.r == 0))=true:=by
     simp[inB,f4]
     omega
    rw[hb,if_pos rfl,if_pos (by omega)]
   unfold jN;rw[if_pos hk1];unfold zc5 zbL;rw[if_pos e0,if_pos e0,f1,tN,hgd];have:frH fr (-1)=QT fr:=by
    unfold frH QT
    by_cases h1:fr.r=1
    ·rw[if_pos h1,if_pos (by omega)]
    rw[if_neg h1,if_neg (by omega)]
    rfl
   rw[this]
  rw[hho,if_pos hk1,f3,f1,tN];exact JM (m:={ m with fs:=m.fs.set i (QT fr) }) ht hql hn za9
 rw[if_neg hk1]
 by_cases hk2:e.kind=2
 ·rw[if_pos hk2];obtain⟨i,z,f1,f2,f3,f4,_⟩:=h.swapped hs hn (by rw[he];exact hk2)
  rw[he]at f1 f3;obtain⟨r0,r1⟩:=h.slots f2;have hgd:m.sl.getD i 0=z:=by rw[gD,f2];rfl
  have hho:jN m e (-1)={ m with sl:=m.sl.set i (z - 1) }:=by
   have ea:atS m.sl e.n=z:=by unfold atS;rw[f1,if_pos (by omega),tN,hgd]
   have e0:jq m.sl e.n (-1)=0:=by
    unfold jq;rw[if_pos h.parts.2,ea,if_neg (by omega),if_pos (by omega)]
   unfold jN;rw[if_neg hk1,if_pos hk2];unfold Zi;rw[if_pos e0,ea,f1,tN];rfl
  rw[hho,f3,f1,tN];exact JM (m:={ m with sl:=m.sl.set i (z - 1) }) ht hql hn za9
 rw[if_neg hk2];have hho:jN m e (-1)=m:=by unfold jN;rw[if_neg hk1,if_neg hk2]
 rw[hho];exact JM ht hql hn za9
structure Gon (m m':Ma) (q:Nat) (s s':Sp):Prop where
 rt:Rt m'
 pq:m'.sp[q]? =some s'
 len:m'.sp.length=m.sp.length
 oth:∀r,r≠q->m'.sp[r]? =m.sp[r]?
 av:s'.ars=s.ars/\s'.live=s.live
 see:∀(r n:Nat) x,m.sp[r]? =some x->r≠q->n<64->zaE m' (zI x.ars n) (zi x n)=zaE m (zI x.ars n) (zi x n)
 rest:m'.fs.length=m.fs.length/\m'.sl.length=m.sl.length/\m'.fl=m.fl/\m'.ca=m.ca
 byt:∀(file k:Nat),(k:Int)<zez m (file:Int)->(jd m' (file:Int) ((k / 8:Nat):Int)).getD (k % 8) 0=(jd m (file:Int) ((k / 8:Nat):Int)).getD (k % 8) 0
theorem zi6 {n:Nat}:(zba m q n).sp=m.sp.modify q (fun s=>{ s with tb:=zeA s.tb n en0 }):=by
 unfold zba;simp only
 split
 ·rfl
 split <;> rfl
theorem zi7 {n:Nat}:(zba m q n).fs.length=m.fs.length/\(zba m q n).sl.length=m.sl.length/\(zba m q n).fl=m.fl/\(zba m q n).ca=m.ca:=by
 unfold zba;simp only
 split
 ·exact⟨by show(m.fs.set _ _).length=_;rw[List.length_set],rfl,rfl,rfl⟩
 split
 ·exact⟨rfl,by show(m.sl.set _ _).length=_;rw[List.length_set],rfl,rfl⟩
 exact⟨rfl,rfl,rfl,rfl⟩
theorem zko (h:Rt m) {n:Nat} {s:Sp} (hs:m.sp[q]? =some s) (hn:n<64):Gon m (zbM m q (n:Int)) q s { s with tb:=zeA s.tb n en0 }/\zi { s with tb:=zeA s.tb n en0 }=qi (zi s) n en0:=by
 rw[zlo h hs hn];obtain⟨h1,h2⟩:=zln h hs hn;have e1:(zba m q n).sp[q]? =some { s with tb:=zeA s.tb n en0 }:=by rw[zi6,List.getElem?_modify,hs];simp
 have e2:∀r,r≠q->(zba m q n).sp[r]? =m.sp[r]?:=fun r hr=>by
  rw[zi6,List.getElem?_modify];have:¬q=r:=fun h=>hr h.symm
  simp[this]
 refine⟨⟨h1,e1,h2.spl,e2,⟨rfl,rfl⟩,fun r j x hx hr hj=>?_,zi7,h2.byt⟩,zaT (h.tb (mG hs)) hn za9⟩
 exact h2.see r j x x hx (by rw[e2 r hr];exact hx) hj (fun hh=>hr hh.1)
theorem Gon.trans {a b c:Ma} {s t u:Sp} (h:Gon a b q s t) (k:Gon b c q t u):Gon a c q s u:=by
 refine⟨k.rt,k.pq,k.len.trans h.len,fun r hr=>(k.oth r hr).trans (h.oth r hr),⟨k.av.1.trans h.av.1,k.av.2.trans h.av.2⟩,fun r n x hx hr hn=>?_,?_,fun file i hi=>?_⟩
 ·rw[k.see r n x (by rw[h.oth r hr];exact hx) hr hn,h.see r n x hx hr hn]
 ·obtain⟨a1,a2,a3,a4⟩:=h.rest;obtain⟨b1,b2,b3,b4⟩:=k.rest;exact⟨b1.trans a1,b2.trans a2,b3.trans a3,b4.trans a4⟩
 rw[k.byt file i (by unfold zez at hi⊢;rw[h.rest.2.2.1];exact hi),h.byt file i hi]
theorem Gon.refl (h:Rt m) {s:Sp} (hs:m.sp[q]? =some s):Gon m m q s s:=⟨h,hs,rfl,fun _ _=>rfl,⟨rfl,rfl⟩,fun _ _ _ _ _ _=>rfl,⟨rfl,rfl,rfl,rfl⟩,fun _ _ _=>rfl⟩
theorem zhf {q:Nat}:∀(l:List Nat) {m:Ma} {s:Sp},Rt m->m.sp[q]? =some s->(∀n∈l,n<64)->∃s',Gon m (zc8 m q (l.map fun(n:Nat)=>(n:Int))) q s s'/\∀n,zi s' n=if n∈l then en0 else zi s n
 | [],m,s,h,hs,_=>⟨s,Gon.refl h hs,fun n=>by simp⟩
 | n :: l,m,s,h,hs,hl=>by
  obtain⟨g1,f1⟩:=zko h hs (hl n (by simp))
  obtain⟨s',g2,f2⟩:=zhf l g1.rt g1.pq (fun j hj=>hl j (by simp[hj]))
  refine⟨s',g1.trans g2,fun j=>?_⟩
  rw[f2 j,f1];unfold qi
  by_cases e1:j∈l
  ·rw[if_pos e1,if_pos (by simp[e1])]
  rw[if_neg e1]
  by_cases e2:j=n
  ·rw[if_pos e2,if_pos (by simp[e2])]
  rw[if_neg e2,if_neg (by simp[e1,e2])]
theorem qF.gone (h:qF m T) {k:Nat} {f:Nat->En} (hT:T[k]? =some f) (hf:∀n,n<64->f n=en0):qF { m with sp:=m.sp.set k ⟨false,[],zY⟩ } T:=by
 have back:∀(p:Nat) s',(m.sp.set k ⟨false,[],zY⟩)[p]? =some s'->(p=k/\s'=⟨false,[],zY⟩)\/(p≠k/\m.sp[p]? =some s'):=fun p s' h'=>by
  rw[List.getElem?_set]at h'
  by_cases e:k=p
  ·rw[if_pos e]at h'
   split at h'
   ·exact .inl ⟨e.symm,by simpa using h'.symm⟩
   cases h'
  rw[if_neg e]at h';exact .inr ⟨fun h=>e h.symm,h'⟩
 refine⟨h.fs40,h.fok,h.sl60,h.sbl,h.sq,h.dok,h.st,h.cnt,h.blk,h.que,by show(m.sp.set k _).length<=4;rw[List.length_set];exact h.spl,fun s' hs'=>?_,by show T.length=(m.sp.set k _).length;rw[List.length_set];exact h.tl,?_,fun p s' g hs' hT' n hn=>?_,h.cf,h.cs⟩
 ·obtain⟨p,hp⟩:=List.getElem?_of_mem hs'
  rcases back p s' hp with⟨_,rfl⟩|⟨_,h2⟩
  ·exact⟨rfl,fun _=>rfl⟩
  exact h.spok s' (mG h2)
 ·obtain⟨a1,a2,a3⟩:=zN.1 h.ca;exact zN.2 ⟨fun c hc=>a1 c hc,fun q c hq=>(by cases hq),a3⟩
 rcases back p s' hs' with⟨rfl,rfl⟩|⟨_,h2⟩
 ·rw[hT]at hT';cases hT';exact .inl (hf n hn)
 exact h.ent p s' g h2 hT' n hn
structure zkN (m m':Ma) (q:Nat):Prop where
 rt:Rt m'
 len:m'.sp.length=m.sp.length
 pq:m'.sp[q]? =some ⟨false,[],zY⟩
 oth:∀r,r≠q->m'.sp[r]? =m.sp[r]?
 see:∀(r n:Nat) x,m.sp[r]? =some x->r≠q->n<64->zaE m' (zI x.ars n) (zi x n)=zaE m (zI x.ars n) (zi x n)
 rest:m'.fs.length=m.fs.length/\m'.sl.length=m.sl.length/\m'.fl=m.fl/\m'.ca=m.ca
 byt:∀(file k:Nat),(k:Int)<zez m (file:Int)->(jd m' (file:Int) ((k / 8:Nat):Int)).getD (k % 8) 0=(jd m (file:Int) ((k / 8:Nat):Int)).getD (k % 8) 0
theorem zeo (h:Rt m) {s:Sp} (hs:m.sp[q]? =some s):zkN m (QH m q s) q:=by
 unfold QH;rw[jM];obtain⟨s',g,f⟩:=zhf (q:=q) (zZ s) h hs (fun n hn=>(ZR.2 n hn).1)
 obtain⟨M,hM⟩:∃M,zc8 m q ((zZ s).map fun(n:Nat)=>(n:Int))=M:=⟨_,rfl⟩
 rw[hM]at g⊢;have hf0:∀n,n<64->zi s' n=en0:=fun n hn=>by
  rw[f n]
  by_cases e:n∈zZ s
  ·rw[if_pos e]
  rw[if_neg e]
  rcases h.ent hs hn with e1|e1
  ·exact e1
  exfalso
  apply e
  unfold zZ;rw[List.mem_filter,List.mem_range];exact⟨hn,by unfold enS;simpa using e1.2.1⟩
 have hT8:=(g.rt.tb (mG g.pq)).1;have hff:zi s'=fun _=>en0:=by
  funext n
  by_cases hn:n<64
  ·exact hf0 n hn
  have h9:s'.tb[n / 8]? =none:=gN (by rw[hT8];omega)
  unfold zi zaG;rw[h9];rfl
 have hql:=(gS.1 g.pq).1;have e2:jP (zgt M q)=jP M:=by
  unfold jP zgt
  apply List.ext_getElem?
  intro i;simp only;rw[List.getElem?_map,List.getElem?_map,List.getElem?_set]
  by_cases ei:q=i
  ·subst ei;rw[if_pos rfl,if_pos hql,g.pq];simp only[Option.map_some,Qe,hff]
  rw[if_neg ei]
 have e1:(zgt M q).sp[q]? =some ⟨false,[],zY⟩:=by show(M.sp.set q _)[q]? =_;rw[sF hql]
 have e3:∀r,r≠q->(zgt M q).sp[r]? =m.sp[r]?:=fun r hr=>by
  show(M.sp.set q _)[r]? =_
  rw[sN (fun h=>hr h.symm)]
  exact g.oth r hr
 refine⟨Rt.of ?_ ?_ g.rt.hand.1 g.rt.hand.2,?_,e1,e3,fun r n x hx hr hn=>g.see r n x hx hr hn,g.rest,g.byt⟩
 ·rw[e2];exact g.rt.inv.gone (je g.pq) hf0
 ·intro x hx;obtain⟨i,hi⟩:=List.getElem?_of_mem hx
  by_cases e:i=q
  ·subst e;rw[e1]at hi;cases hi;exact zcn
  have hi:(M.sp.set q _)[i]? =some x:=hi;rw[sN (fun h=>e h.symm)]at hi
  exact g.rt.tb (mG hi)
 show(M.sp.set q _).length=_
 rw[List.length_set];exact g.len
theorem zkN.view (h:zkN m m' q) (hm:Rt m) {r:Nat} (hr:r≠q) (n:Nat):jv m' (r:Int) (n:Int)=jv m (r:Int) (n:Int):=by
 refine zeL hm.w h.rt.w ?_
 by_cases hn:n<64
 ·cases hx:m.sp[r]? with
  | none=>
   have hl:m.sp.length<=r:=List.getElem?_eq_none_iff.1 hx;rw[JX (.inr (.inl (by rw[h.len];omega))),JX (.inr (.inl (by omega)))]
  | some x=>
   rw[zbU (by rw[h.oth r hr];exact hx) hn,zbU hx hn,h.see r n x hx hr hn]
 rw[JX (.inr (.inr (.inr (by omega)))),JX (.inr (.inr (.inr (by omega))))]
theorem zkN.bytes (h:zkN m m' q) (hm:Rt m) (file:Nat):Zz m' (file:Int)=Zz m (file:Int):=by
 have e1:JS m' (file:Int)=JS m (file:Int):=by
  unfold JS;rw[h.rt.w,hm.w,h.rest.2.2.1]
 have e2:zez m' (file:Int)=zez m (file:Int):=by unfold zez;rw[h.rest.2.2.1]
 unfold Zz;rw[e1]
 split
 ·unfold zjl;rw[e2]
  apply List.map_congr_left
  intro k hk;rw[List.mem_range]at hk;exact h.byt file k (by omega)
 rfl
theorem zes {f g:Nat->En} {kind k:Int}:∀(n:Nat),(∀j,j<n->(g j).kind=(f j).kind/\(g j).n=(f j).n)->ji g kind k n=ji f kind k n
 | 0,_=>rfl
 | n+1,h=>by
  have ih:=zes n (fun j hj=>h j (by omega)) (kind:=kind) (k:=k) (f:=f) (g:=g)
  have hn:=h n (by omega)
  unfold ji;rw[ih,zg5 hn.1 hn.2]
def zgK (e e':En):Prop:=e'.kind=e.kind/\e'.n=e.n
theorem zgK.refl (e:En):zgK e e:=⟨rfl,rfl⟩
theorem zgK.trans {a b c:En} (h:zgK a b) (k:zgK b c):zgK a c:=⟨k.1.trans h.1,k.2.trans h.2⟩
theorem zjG {x:On} {e e':En} (h:zgK e e'):zaE m x e'=zaE m x e:=by
 unfold zaE;rw[h.1,h.2]
structure ShL (m m':Ma) (k q:Nat) (l:List Nat) (sk sq sk' sq':Sp):Prop where
 pk:m'.sp[k]? =some sk'
 pq:m'.sp[q]? =some sq'
 len:m'.sp.length=m.sp.length
 oth:∀r,r≠k->r≠q->m'.sp[r]? =m.sp[r]?
 av:sk'.ars=sk.ars/\sq'.ars=sq.ars/\sk'.live=sk.live/\sq'.live=sq.live
 lq:∀j,zgK (zi sq j) (zi sq' j)
 lk:∀j,j∈l->zgK (zi sq j) (zi sk' j)
 nk:∀j,j∉l->zi sk' j=zi sk j
 see:∀x e,(e.kind=1->0<=e.n)->zaE m' x e=zaE m x e
 rest:m'.fs.length=m.fs.length/\m'.sl.length=m.sl.length/\m'.fl=m.fl/\m'.ca=m.ca
theorem zdg {k q:Nat} (hkq:q≠k):∀(l:List Nat) {m:Ma} {sk sq:Sp},Rt m->m.sp[k]? =some sk->m.sp[q]? =some sq->sk.ars=sq.ars->l.Nodup->(∀n∈l,n<64/\zi sk n=en0/\zi sq n≠en0)->
  ∃sk' sq',ShL m (JD m k q (l.map fun(n:Nat)=>(n:Int))) k q l sk sq sk' sq'
 | [],m,sk,sq,_,hk,hq,_,_,_=>⟨sk,sq,hk,hq,rfl,fun _ _ _=>rfl,⟨rfl,rfl,rfl,rfl⟩,fun _=>zgK.refl _,fun j hj=>(by cases hj),fun _ _=>rfl,fun _ _ _=>rfl,⟨rfl,rfl,rfl,rfl⟩⟩
 | n :: l,m,sk,sq,h,hk,hq,ha,hd,hl=>by
  obtain⟨h1,h2,h3⟩:=hl n (by simp)
  obtain⟨tk,tq,hS⟩:=zgS h hk hq hkq ha h1 h2 h3;rw[List.nodup_cons]at hd;have hnl:∀j∈l,j≠n:=fun j hj e=>hd.1 (e ▸ hj)
  obtain⟨sk',sq',g⟩:=zdg hkq l hS.rt hS.pk hS.pq (by rw[hS.ak,hS.aq,ha]) hd.2 (fun j hj=>by
   obtain⟨a1,a2,a3⟩:=hl j (by simp[hj])
   rw[hS.fk j (hnl j hj),hS.fq j (hnl j hj)];exact⟨a1,a2,a3⟩)
  have hq1:∀j,zgK (zi sq j) (zi tq j):=fun j=>by
   by_cases e:j=n
   ·rw[e];exact hS.kq
   rw[hS.fq j e];exact zgK.refl _
  refine⟨sk',sq',g.pk,g.pq,g.len.trans hS.len,fun r a b=>(g.oth r a b).trans (hS.oth r a b),⟨g.av.1.trans hS.ak,g.av.2.1.trans hS.aq,g.av.2.2.1.trans hS.lv.1,g.av.2.2.2.trans hS.lv.2⟩,fun j=>(hq1 j).trans (g.lq j),fun j hj=>?_,fun j hj=>?_,fun x e he=>(g.see x e he).trans (hS.see x e he),?_⟩
  ·by_cases e:j∈l
   ·exact(hq1 j).trans (g.lk j e)
   have hj:j=n:=by
    rcases mC.1 hj with h|h
    ·exact h
    exact absurd h e
   rw[g.nk j e,hj];exact hS.kk
  ·have e1:j∉l:=fun h=>hj (mC.2 (.inr h))
   have e2:j≠n:=fun h=>hj (mC.2 (.inl h))
   rw[g.nk j e1,hS.fk j e2]
  obtain⟨a1,a2,a3,a4⟩:=hS.rest;obtain⟨b1,b2,b3,b4⟩:=g.rest;exact⟨b1.trans a1,b2.trans a2,b3.trans a3,b4.trans a4⟩
structure zkx (m x:Ma) (k q:Nat) (s sk sq:Sp):Prop where
 rt:Rt x
 pk:x.sp[k]? =some sk
 pq:x.sp[q]? =some sq
 len:x.sp.length=max m.sp.length (k+1)
 oth:∀r,r≠k->r≠q->x.sp[r]? =m.sp[r]?
 av:sk.ars=s.ars/\sq.ars=s.ars/\sk.live=true/\sq.live=s.live
 lq:∀j,zgK (zi s j) (zi sq j)
 lk:∀j,j<64->zgK (zi s j) (zi sk j)
 see:∀y e,(e.kind=1->0<=e.n)->zaE x y e=zaE m y e
 rest:x.fs.length=m.fs.length/\x.sl.length=m.sl.length/\x.fl=m.fl/\x.ca=m.ca
theorem zfx (h:Rt m) {k:Nat} {s:Sp} (hs:m.sp[q]? =some s) (hl:s.live=true) (hk:Vac m.sp k) (h4:k<4):∃sk sq,zkx m (Zc m k q s) k q s sk sq:=by
 have hkq:q≠k:=fun e=>by
  have h1:=hk.2.1 s (by rw[<-e];exact hs)
  rw[hl]at h1;cases h1
 have hrt:=(zhc h hs hl hk h4).1;unfold Zc at hrt⊢;rw[jM]at hrt⊢;have e1:(Qf m k s).sp[k]? =some ⟨true,s.ars,zY⟩:=by show(zaD m.sp k _)[k]? =_;rw[Ja hk.1,if_pos rfl]
 have e2:(Qf m k s).sp[q]? =some s:=by show(zaD m.sp k _)[q]? =_;rw[Ja hk.1,if_neg hkq];exact hs
 obtain⟨sk,sq,g⟩:=zdg hkq (zZ s) (zhj h hs hk h4) e1 e2 rfl ZR.1 (fun n hn=>⟨(ZR.2 n hn).1,by rw[Qe],(ZR.2 n hn).2⟩)
 refine⟨sk,sq,hrt,g.pk,g.pq,?_,fun r a b=>?_,⟨g.av.1,g.av.2.1,g.av.2.2.1,g.av.2.2.2⟩,g.lq,fun j hj=>?_,g.see,g.rest⟩
 ·rw[g.len]
  show(zaD m.sp k _).length=_
  rw[zbW hk.1]
 ·rw[g.oth r a b]
  show(zaD m.sp k _)[r]? =_
  rw[Ja hk.1,if_neg a]
 by_cases e:j∈zZ s
 ·exact g.lk j e
 rw[g.nk j e,Qe];have:zi s j=en0:=by
  rcases h.ent hs hj with e1|e1
  ·exact e1
  exfalso
  apply e
  unfold zZ;rw[List.mem_filter,List.mem_range];exact⟨hj,by unfold enS;simpa using e1.2.1⟩
 rw[this];exact zgK.refl _
theorem zkx.view {x:Ma} {k:Nat} {s sk sq:Sp} (g:zkx m x k q s sk sq) (h:Rt m) (hs:m.sp[q]? =some s) (n:Nat):jv x (q:Int) (n:Int)=jv m (q:Int) (n:Int):=by
 refine zeL h.w g.rt.w ?_
 by_cases hn:n<64
 ·have h0:(zi s n).kind=1->0<=(zi s n).n:=fun hk=>by
   rcases h.ent hs hn with e|e
   ·rw[e]at hk;cases hk
   exact(j0 e.1).2.1.1
  rw[zbU g.pq hn,zbU hs hn,g.av.2.1,zjG (g.lq n),g.see _ _ h0]
 rw[JX (.inr (.inr (.inr (by omega)))),JX (.inr (.inr (.inr (by omega))))]
def cO (kind k:Int):Option (Nat->En)->Nat
 | some f=>ji f kind k 64
 | none=>0
theorem zcw (kind k:Int):∀(T:List (Nat->En)),(∀i:Nat,cO kind k T[i]? =0)->qw T kind k=0
 | [],_=>rfl
 | f :: T,h=>by
  have h0:ji f kind k 64=0:=h 0;have ih:=zcw kind k T (fun i=>h (i+1))
  unfold qw at ih⊢;rw[mP,List.sum_cons,h0,ih]
theorem ziE (kind k:Int):∀(T T':List (Nat->En)),(∀i:Nat,cO kind k T'[i]? =cO kind k T[i]?)->qw T' kind k=qw T kind k
 | [],T',h=>by
  rw[zcw kind k T' (fun i=>by rw[h i];rfl)]
  rfl
 | f :: T,[],h=>by
  rw[zcw kind k (f :: T) (fun i=>by rw[<-h i];rfl)]
  rfl
 | f :: T,g :: T',h=>by
  have h0:ji g kind k 64=ji f kind k 64:=h 0;have ih:=ziE kind k T T' (fun i=>h (i+1))
  unfold qw at ih⊢;rw[mP,mP,List.sum_cons,List.sum_cons,h0,ih]
theorem zer {kind:Int} (k:Int) (h:kind≠0):∀n,ji (fun _=>en0) kind k n=0
 | 0=>rfl
 | n+1=>by
  unfold ji;rw[zer k h n,Qt (show en0.kind≠kind from fun e=>h e.symm)]
  rfl
theorem zeq {α:Type} (p:α->Bool):∀{l l':List α},l'.length=l.length->(∀(i:Nat) x x',l[i]? =some x->l'[i]? =some x'->p x'=p x)->l'.countP p=l.countP p
 | [],[],_,_=>rfl
 | [],_ :: _,h,_=>by simp at h
 | _ :: _,[],h,_=>by simp at h
 | a :: l,b :: l',h,hp=>by
  have h0:=hp 0 a b rfl rfl;have ih:=zeq p (l:=l) (l':=l') (by simpa using h) (fun i x x' hx hx'=>hp (i+1) x x' hx hx')
  rw[List.countP_cons,List.countP_cons,ih,h0]
theorem zlw (h:Rt m) {k:Nat} {s:Sp} (hs:m.sp[q]? =some s) (hl:s.live=true) (hk:Vac m.sp k) (h4:k<4) {sk:Sp} (hsk:(Zc m k q s).sp[k]? =some sk):
  Rt (QH (Zc m k q s) k sk)/\QC (QH (Zc m k q s) k sk)=QC m/\QB (QH (Zc m k q s) k sk)=QB m/\∀n:Nat,jv (QH (Zc m k q s) k sk) (q:Int) (n:Int)=jv m (q:Int) (n:Int):=by
 have hkq:q≠k:=fun e=>by
  have h1:=hk.2.1 s (by rw[<-e];exact hs)
  rw[hl]at h1;cases h1
 obtain⟨tk,sq,g⟩:=zfx h hs hl hk h4;have wn:=zeo g.rt hsk;obtain⟨x,hx⟩:∃x,Zc m k q s=x:=⟨_,rfl⟩;rw[hx]at g wn⊢;obtain⟨y,hy⟩:∃y,QH x k sk=y:=⟨_,rfl⟩;rw[hy]at wn⊢;have hold:∀kind i:Int,kind≠0->qw (jP y) kind i=qw (jP m) kind i:=fun kind i hk0=>ziE kind i (jP m) (jP y) (fun j=>by
  unfold jP;rw[List.getElem?_map,List.getElem?_map]
  by_cases e1:j=k
  ·rw[e1,wn.pq]
   show ji (zi _) kind i 64=_
   rw[Qe,zer i hk0]
   cases hmk:m.sp[k]? with
   | none=>rfl
   | some d=>
    show _=ji (zi d) kind i 64
    have hd:=h.dead hmk (hk.2.1 d hmk);rw[zes 64 (f:=fun _=>en0) (g:=zi d) (fun j hj=>by rw[hd j hj];exact⟨rfl,rfl⟩),zer i hk0]
  rw[wn.oth j e1]
  by_cases e2:j=q
  ·rw[e2,g.pq,hs]
   show ji (zi sq) kind i 64=ji (zi s) kind i 64
   exact zes 64 (fun j _=>g.lq j)
  rw[g.oth j e1 e2])
 obtain⟨a1,a2,a3,a4⟩:=g.rest;obtain⟨b1,b2,b3,b4⟩:=wn.rest;refine⟨wn.rt,?_,?_,fun n=>(wn.view g.rt hkq n).trans (g.view h hs n)⟩
 ·unfold QC;refine zeq _ (b1.trans a1) (fun i f f' hf hf'=>?_)
  have c1:=(h.inv.cf i f hf).1;have c2:=(wn.rt.inv.cf i f' hf').1;rw[hold 1 i (by decide),b4.trans a4,<-c1]at c2
  rw[c2]
 unfold QB;refine zeq _ (b2.trans a2) (fun i z z' hz hz'=>?_)
 have c1:=h.inv.cs i z hz;have c2:=wn.rt.inv.cs i z' hz';rw[hold 2 i (by decide),<-c1]at c2
 rw[c2]
end
section
open Go.RowKit
theorem zeU {p:Int} (h:∀n:Nat,jv m' p (n:Int)=jv m p (n:Int)):zbw m' p 64=zbw m p 64:=by
 unfold zbw;exact zds (fun n _=>by unfold zlL;rw[h n])
theorem zgA (F S B:Int) (vl:Sli) (L:List Int) (p:Int) (w:World) (lr:zr byE w (vl.x) L) (lc:vl.n<=vl.c) (lb:∀z∈L,0<=z/\z<256):
  Calls prog 6 #[.agg #[I6 F,I6 S,I6 B],vl.x,I6 p] w fun e w'=>e= .returned (.bool true)/\zc w w':=by
 obtain⟨W0,hW0⟩:∃W0,w.alloc (.cells #[I6 F,I6 S,I6 B] 23)=W0:=⟨_,rfl⟩;have G0:=gA hW0
 have C0:=xA hW0
 have HW0:Hid (_=W0):=hW0;have HLR:Hid (zr byE w (vl.x) L):=lr;have HLC:Hid (vl.n<=vl.c):=lc;have HLB:Hid (∀z∈L,0<=z/\z<256):=show∀z,_ from lb
 obtain⟨nf,HNF⟩:∃nf:Nat,Hid (max (min F 40) 0=(nf:Int)):=⟨(max (min F 40) 0).toNat,show _=_ by omega⟩
 obtain⟨ns,HNS⟩:∃ns:Nat,Hid (max (min S 60) 0=(ns:Int)):=⟨(max (min S 60) 0).toNat,show _=_ by omega⟩
 obtain⟨nb,HNB⟩:∃nb:Nat,Hid (max (min B 80) 0=(nb:Int)):=⟨(max (min B 80) 0).toNat,show _=_ by omega⟩
 clear hW0 lr lc lb;have hal:=zgI W0
 go_enter func6,ntmps6
 go_wp2_with fail;rw[HW0.out];refine hal.mono ?_;clear hal;rintro e W1 ⟨rfl,g1⟩;have G1:=dD (G0.trans g1);have C1:=dD (C0.grew g1);clear g1;have hbu:=zfN F S B nf ns nb HNF HNS HNB vl L W1 (HLR.grew G1) HLC HLB.out;obtain⟨c0,c1,c2⟩:=C1.c3;go_wp2_with fail;refine hbu.mono ?_;clear hbu c0 c1 c2;rintro e W2 ⟨V,m0,T,hd,hi,ht,vt,rfl,hB⟩;obtain⟨at2,w2⟩:=hB.at;have HFI:Hid (∀s∈(jV m0 T hd).sp,qV m0.fl.length s.ars):=show∀s,_ from fun s hs=>by
  obtain⟨i,hi⟩:=List.getElem?_of_mem hs;have hi:(List.zipWith (fun s f=>{ s with tb:=Zr f }) m0.sp T)[i]? =some s:=hi
  rw[List.getElem?_zipWith]at hi
  cases h1:m0.sp[i]? with
  | none=>rw[h1]at hi;simp at hi
  | some s0=>
   cases h2:T[i]? with
   | none=>rw[h1,h2]at hi;simp at hi
   | some f=>
    rw[h1,h2]at hi;simp only[Option.some.injEq]at hi;rw[<-hi];exact(hB.fin s0 (mG h1)).1
 have HF2:Hid (m0.fl.length<=2):=hB.fl2.1;have HSL:Hid ((jV m0 T hd).sp.length<=2):=show _<=_ by
  show(List.zipWith _ m0.sp T).length<=2
  rw[List.length_zipWith];have:=hB.sp.2;omega
 obtain⟨m,HM⟩:∃m,Hid (jV m0 T hd=m):=⟨_,rfl⟩;have A2:Hid (zF W2 V m):=dD<|by rw[<-HM.out];exact at2
 have HW:Hid (maW m=0):=dD<|by rw[<-HM.out];exact w2
 have HRT:Hid (Rt m):=dD<|⟨HW,fun s hs=>by
  obtain⟨i,hi⟩:=List.getElem?_of_mem hs;obtain⟨xs,_,s2,s3⟩:=A2.sp;have hx:i<xs.length:=by rw[s2];exact(gS.1 hi).1
  exact(s3 i _ s (gE hx) hi).tb.tlen⟩
 have G2:Hid (zc w W2):=G1.trans hB.gr;have hmh:hd=m.hand:=by rw[<-HM.out];rfl
 have hmc:m0.cnt=m.cnt:=by rw[<-HM.out];rfl
 rw[hmh,hmc];have HFS:Hid (∀s∈m.sp,qV m.fl.length s.ars):=dD<|fun s hs=>by
  rw[<-HM.out]at hs⊢;exact HFI s hs
 have HFL:Hid (m.fl.length<=5):=dD<|by rw[<-HM.out];have:=HF2.out;show m0.fl.length<=5;omega
 have HS2:Hid (m.sp.length<=2):=dD<|by rw[<-HM.out];exact HSL.out
 clear hB at2 w2 hmh hmc;go_upto_region 4 with fail;obtain⟨pm,HPM⟩:∃pm,Hid (W2.heap.size=pm):=⟨_,rfl⟩;obtain⟨W2a,hW3⟩:∃W2a,W2.alloc (.cells (mL V m).toArray 40)=W2a:=⟨_,rfl⟩;have g3:=gP hW3
 have P2:=xPT hW3 HPM
 have A2a:=dD (A2.grew g3);have G2a:=dD (G2.trans g3);rw[hW3,HPM.out];clear hW3 g3;obtain⟨x0,x1,x2,x3,x4,x5,x6,x7,x8,x9,x10⟩:=P2.box.c11;have hex:=zcF V m p W2a A2a HW.out;go_wp2_with fail;refine hex.mono ?_;clear hex x0 x1 x2 x3 x4 x5 x6 x7 x8 x9 x10;rintro e W3 ⟨hF,g3⟩;have G3:=dD (G2a.trans g3);have A3:=dD (A2a.grew g3);have P3:=dD (P2.grew g3);clear g3 A2a G2a
 rcases hF with⟨hno,rfl⟩|⟨q,s,hl,V3,rfl,hm3⟩
 ·unfold j8;have HNO:Hid (∀q s,¬Qo m p q s):=dD<|hno
  clear hno;go_upto_region 6 with fail;obtain⟨W4,hW4⟩:∃W4,W3.alloc (.cells zM.toArray 40)=W4:=⟨_,rfl⟩;have g4:=gP hW4
  have G4:Hid (zc w W4):=dD<|G3.trans g4
  have P4:=dD (P3.grew g4);have hlv:=zg3 V m p W4 (A3.grew g4);rw[hW4];clear hW4 g4;obtain⟨x0,x1,x2,x3,x4,x5,x6,x7,x8,x9,x10⟩:=P4.box.c11;go_wp2_with fail;refine hlv.mono ?_;clear hlv x0 x1 x2 x3 x4 x5 x6 x7 x8 x9 x10;rintro e W5 ⟨hE,g5⟩;have G5:=dD (G4.trans g5);clear g5
  rcases hE with⟨_,q,s,hy⟩|⟨rfl,_⟩
  ·exact absurd hy (HNO q s)
  go_wp2;go_ret;exact⟨rfl,G5⟩
 obtain⟨hpq,hsq,hlq⟩:=hl;subst hpq;have HSQ:Hid (m.sp[q]? =some s):=hsq;have HLQ:Hid (s.live=true):=hlq;have HWN:Hid (zkN m (QH m q s) q):=show zkN _ _ _ from zeo HRT hsq
 clear hsq hlq;obtain⟨KM,HK⟩:∃KM,Hid (QH m q s=KM):=⟨_,rfl⟩;rw[HK.out]at hm3 HWN⊢;have K3:Hid (zF W3 V3 KM):=hm3;clear hm3;go_upto_region 7 with fail;obtain⟨pk,HPK⟩:∃pk,Hid (W3.heap.size=pk):=⟨_,rfl⟩;obtain⟨W5,hW5⟩:∃W5,W3.alloc (.cells (mL V3 KM).toArray 40)=W5:=⟨_,rfl⟩;have g5:=gP hW5
 have Q5:=xPT hW5 HPK
 have P5:=dD (P3.grew g5);have A5:=dD (A3.grew g5);have K5:=dD (K3.grew g5);have G5:=dD (G3.trans g5);rw[hW5,HPK.out];clear hW5 g5;have hwr:=Jb V3 KM W5 K5.out;rw[HWN.rt.w]at hwr;obtain⟨x0,x1,x2,x3,x4,x5,x6,x7,x8,x9,x10⟩:=Q5.box.c11;go_wp2_with fail;refine hwr.mono ?_;clear hwr x0 x1 x2 x3 x4 x5 x6 x7 x8 x9 x10;rintro e W6 ⟨rfl,g6⟩;have Q6:=dD (Q5.grew g6);have P6:=dD (P5.grew g6);have A6:=dD (A5.grew g6);have K6:=dD (K5.grew g6);have G6:=dD (G5.trans g6);clear g6;have hlv:=zg3 V3 KM (q:Int) W6 K6.out;obtain⟨x0,x1,x2,x3,x4,x5,x6,x7,x8,x9,x10⟩:=Q6.box.c11;go_wp2_with fail;refine hlv.mono ?_;clear hlv x0 x1 x2 x3 x4 x5 x6 x7 x8 x9 x10;rintro e W7 ⟨hE,g7⟩;have Q7:=dD (Q6.grew g7);have P7:=dD (P6.grew g7);have A7:=dD (A6.grew g7);have K7:=dD (K6.grew g7);have G7:=dD (G6.trans g7);clear g7
 rcases hE with⟨_,q',s',hy⟩|⟨rfl,_⟩
 ·have e:q'=q:=by have:=hy.1;omega
  subst e;have h2:=hy.2.1;rw[HWN.pq]at h2;cases h2
  cases hy.2.2
 obtain⟨-,-,-,-,-,-,n7,-,n9⟩:=A7.ns;have HN9:Hid (V.sp.n=m.sp.length):=n9;have HN7:Hid (V.fl.n=m.fl.length):=n7;clear n9 n7;have HKF:Hid (∀x∈KM.sp,qV KM.fl.length x.ars):=show∀x,_ from fun x hx=>by
  rw[HWN.rest.2.2.1];obtain⟨i,hi⟩:=List.getElem?_of_mem hx
  by_cases e:i=q
  ·rw[e,HWN.pq]at hi;cases hi;exact zav _
  rw[HWN.oth i e]at hi;exact HFS x (mG hi)
 obtain⟨sn,HSN⟩:∃sn,Hid (m.sp.length=sn):=⟨_,rfl⟩;obtain⟨fn,HFN⟩:∃fn,Hid (m.fl.length=fn):=⟨_,rfl⟩;have hsn2:sn<=2:=by rw[<-HSN.out];exact HS2.out
 have hfn5:fn<=5:=by rw[<-HFN.out];exact HFL.out
 have x10:=P7.box.c 10 rfl;(try simp only[Sli.x]at x10);rw[HN9.out,HSN.out]at x10;go_upto_region 10 with fail;clear x10
 go_loopg [56] sn (fun gg s56 wr=>∃kk:Nat,kk<=sn/\sn - kk<=gg/\s56=I6 kk/\Hid (zc W7 wr))
 case atStart=>exact⟨0,nZ _,by omega,rfl,zc.refl _⟩
 obtain⟨kk,hkk,hgg,rfl,GW⟩:=hrel
 by_cases hlt:kk<sn
 ·have hltz:(kk:Int)< (sn:Int):=by omega
  go_upto_region 12 with fail
  by_cases hkq:kk=q
  ·have hb:((kk:Int) !=(q:Int))=false:=by rw[hkq];simp
   have hne:Nonempty (zo wr):=⟨⟨_,zc.refl _⟩⟩;refine jK 12 [] qj (by kernel_rfl) rfl rfl (by decide) (by simp) (by simp) ?_
   simp only[List.take,List.drop];iterate 4 (refine zj rfl rfl rfl (fun K hK=>?_);go_big_quiet_op;refine hK _ ?_;clear hK)
   iterate 7 (refine qI (by kernel_rfl) ?_;simp only[Act.put,sB,sS,sZ])
   iterate 1 (refine zj rfl rfl rfl (fun K hK=>?_);go_big_quiet_op;refine hK _ ?_;clear hK)
   refine qM fun W8 g8 _=>?_
   have G8:=dD (GW.trans (show zc _ _ from g8))
   clear g8 hne hb hkq;go_wp2
   go_roundg (sn -(kk+1))
   case measure=>omega
   exact⟨kk+1,by omega,by omega,by go_num,G8⟩
  have hb:((kk:Int) !=(q:Int))=true:=by
   have:(kk:Int)≠(q:Int):=by omega
   simpa using this
  have P8:=dD (P7.grew GW);have Q8:=dD (Q7.grew GW);have HC1:Hid (∀W,zc wr W->Calls prog 25 #[.agg (mL V m).toArray,I6 (kk:Int)] W fun e w'=>e= .returned (.string (strOfNums (zbw m kk 64)))/\zc W w'):=show∀W,_ from fun W hW=>zbX V m kk W ((A7.grew GW).grew hW) HRT.w HFS.out
  have HC2:Hid (∀W,zc wr W->Calls prog 25 #[.agg (mL V3 KM).toArray,I6 (kk:Int)] W fun e w'=>e= .returned (.string (strOfNums (zbw m kk 64)))/\zc W w'):=dD<|fun W hW=>by
   have:=zbX V3 KM kk W ((K7.grew GW).grew hW) HWN.rt.w HKF.out;rw[zeU (fun n=>HWN.view HRT.out hkq n)]at this
   exact this
  generalize strOfNums (zbw m kk 64)=S at HC1 HC2
  have hu0:∀y:zo wr,y.world.cell? ⟨pm,0,none⟩=_:=fun y=>(P8.box.grew y.grew).c 0 rfl
  have hu1:∀y:zo wr,y.world.cell? ⟨pm,1,none⟩=_:=fun y=>(P8.box.grew y.grew).c 1 rfl
  have hu2:∀y:zo wr,y.world.cell? ⟨pm,2,none⟩=_:=fun y=>(P8.box.grew y.grew).c 2 rfl
  have hu3:∀y:zo wr,y.world.cell? ⟨pm,3,none⟩=_:=fun y=>(P8.box.grew y.grew).c 3 rfl
  have hu4:∀y:zo wr,y.world.cell? ⟨pm,4,none⟩=_:=fun y=>(P8.box.grew y.grew).c 4 rfl
  have hu5:∀y:zo wr,y.world.cell? ⟨pm,5,none⟩=_:=fun y=>(P8.box.grew y.grew).c 5 rfl
  have hu6:∀y:zo wr,y.world.cell? ⟨pm,6,none⟩=_:=fun y=>(P8.box.grew y.grew).c 6 rfl
  have hu7:∀y:zo wr,y.world.cell? ⟨pm,7,none⟩=_:=fun y=>(P8.box.grew y.grew).c 7 rfl
  have hu8:∀y:zo wr,y.world.cell? ⟨pm,8,none⟩=_:=fun y=>(P8.box.grew y.grew).c 8 rfl
  have hu9:∀y:zo wr,y.world.cell? ⟨pm,9,none⟩=_:=fun y=>(P8.box.grew y.grew).c 9 rfl
  have hu10:∀y:zo wr,y.world.cell? ⟨pm,10,none⟩=_:=fun y=>(P8.box.grew y.grew).c 10 rfl
  have hv0:∀y:zo wr,y.world.cell? ⟨pk,0,none⟩=_:=fun y=>(Q8.box.grew y.grew).c 0 rfl
  have hv1:∀y:zo wr,y.world.cell? ⟨pk,1,none⟩=_:=fun y=>(Q8.box.grew y.grew).c 1 rfl
  have hv2:∀y:zo wr,y.world.cell? ⟨pk,2,none⟩=_:=fun y=>(Q8.box.grew y.grew).c 2 rfl
  have hv3:∀y:zo wr,y.world.cell? ⟨pk,3,none⟩=_:=fun y=>(Q8.box.grew y.grew).c 3 rfl
  have hv4:∀y:zo wr,y.world.cell? ⟨pk,4,none⟩=_:=fun y=>(Q8.box.grew y.grew).c 4 rfl
  have hv5:∀y:zo wr,y.world.cell? ⟨pk,5,none⟩=_:=fun y=>(Q8.box.grew y.grew).c 5 rfl
  have hv6:∀y:zo wr,y.world.cell? ⟨pk,6,none⟩=_:=fun y=>(Q8.box.grew y.grew).c 6 rfl
  have hv7:∀y:zo wr,y.world.cell? ⟨pk,7,none⟩=_:=fun y=>(Q8.box.grew y.grew).c 7 rfl
  have hv8:∀y:zo wr,y.world.cell? ⟨pk,8,none⟩=_:=fun y=>(Q8.box.grew y.grew).c 8 rfl
  have hv9:∀y:zo wr,y.world.cell? ⟨pk,9,none⟩=_:=fun y=>(Q8.box.grew y.grew).c 9 rfl
  have hv10:∀y:zo wr,y.world.cell? ⟨pk,10,none⟩=_:=fun y=>(Q8.box.grew y.grew).c 10 rfl
  have hne:Nonempty (zo wr):=⟨⟨_,zc.refl _⟩⟩;refine jK 12 [(6,⟨fun v=>v= .string S,fun _ _=>True⟩),(9,⟨fun v=>v= .string S,fun _ _=>True⟩)] qj (by kernel_rfl) rfl rfl (by decide) ?hS ?hp ?_
  case hS=>
   intro x hx;simp only[mC,nM,or_false]at hx
   rcases hx with rfl|rfl
   ·exact⟨_,rfl⟩
   exact⟨_,rfl⟩
  case hp=>
   intro x hx;simp only[mC,nM,or_false]at hx
   rcases hx with rfl|rfl
   ·exact fun _ _ _ _ _=>trivial
   exact fun _ _ _ _ _=>trivial
  simp only[List.take,List.drop];iterate 6 (refine zj rfl rfl rfl (fun K hK=>?_);go_big_quiet_op;refine hK _ ?_;clear hK)
  refine zQ rfl rfl (fun w' hg hF=>?_) (fun v1 hv=>?_)
  ·refine zP.call [.agg (mL V m).toArray,I6 (kk:Int)] rfl func25 rfl rfl rfl ?_;refine(HC1 w' hg).mono ?_;rintro e w'' ⟨rfl,hg2⟩;exact⟨_,rfl,hg2,rfl,trivial⟩
  cases hv;simp only[Act.put,sB,sS,sZ];iterate 2 (refine zj rfl rfl rfl (fun K hK=>?_);go_big_quiet_op;refine hK _ ?_;clear hK)
  refine zQ rfl rfl (fun w' hg hF=>?_) (fun v1 hv=>?_)
  ·refine zP.call [.agg (mL V3 KM).toArray,I6 (kk:Int)] rfl func25 rfl rfl rfl ?_;refine(HC2 w' hg).mono ?_;rintro e w'' ⟨rfl,hg2⟩;exact⟨_,rfl,hg2,rfl,trivial⟩
  cases hv;simp only[Act.put,sB,sS,sZ];iterate 2 (refine zj rfl rfl rfl (fun K hK=>?_);go_big_quiet_op;refine hK _ ?_;clear hK)
  refine qM fun W8 g8 _=>?_
  have G8:=dD (GW.trans (show zc _ _ from g8))
  clear g8 hne hb hkq hu0 hu1 hu2 hu3 hu4 hu5 hu6 hu7 hu8 hu9 hu10 hv0 hv1 hv2 hv3 hv4 hv5 hv6 hv7 hv8 hv9 hv10;go_wp2
  go_roundg (sn -(kk+1))
  case measure=>omega
  exact⟨kk+1,by omega,by omega,by go_num,G8⟩
 have hltz:¬(kk:Int)< (sn:Int):=by omega
 have:kk=sn:=by omega
 subst this;have P9:=dD (P7.grew GW);have Q9:=dD (Q7.grew GW);have A9:=dD (A7.grew GW);have K9:=dD (K7.grew GW);have G9:=dD (G7.trans GW);have x7:=P9.box.c 7 rfl;(try simp only[Sli.x]at x7);rw[HN7.out,HFN.out]at x7;obtain⟨WC,hWC⟩:∃WC,wr=WC:=⟨_,rfl⟩;rw[hWC]at P9 Q9 A9 K9 G9 x7⊢;clear hWC;go_upto_region 16 with fail;clear x7
 go_loopg [76] fn (fun gg s76 wr=>∃jj:Nat,jj<=fn/\fn - jj<=gg/\s76=I6 jj/\Hid (zc WC wr))
 case atStart=>exact⟨0,nZ _,by omega,rfl,zc.refl _⟩
 obtain⟨jj,hjj,hgg2,rfl,GV⟩:=hrel
 by_cases hlt:jj<fn
 ·have hltz2:(jj:Int)< (fn:Int):=by omega
  have P10:=dD (P9.grew GV);have Q10:=dD (Q9.grew GV);have hc:=zaS V m jj wr (A9.grew GV);obtain⟨x0,x1,x2,x3,x4,x5,x6,x7,x8,x9,x10⟩:=P10.box.c11;go_wp2_with fail;refine hc.mono ?_;clear hc x0 x1 x2 x3 x4 x5 x6 x7 x8 x9 x10;rintro r W11 ⟨⟨ua,rfl,owa⟩,g11⟩;obtain⟨aa,ca,rfl⟩:=owa.form;have RA:Hid (zr byE W11 (.slice aa (Zz m jj).length ca) (Zz m jj)):=owa.at;have Q11:=dD (Q10.grew g11);have K11:=dD ((K9.grew GV).grew g11);have G11:=dD (GV.trans g11);clear owa g11;have hc:=zaS V3 KM jj W11 K11.out;have HBS:Hid (Zz KM (jj:Int)=Zz m (jj:Int)):=HWN.bytes HRT jj;obtain⟨x0,x1,x2,x3,x4,x5,x6,x7,x8,x9,x10⟩:=Q11.box.c11;go_wp2_with fail;refine hc.mono ?_;clear hc x0 x1 x2 x3 x4 x5 x6 x7 x8 x9 x10;rintro r W12 ⟨⟨ub,rfl,owb⟩,g12⟩;rw[HBS.out]at owb;obtain⟨ab,cb,rfl⟩:=owb.form;have RB:Hid (zr byE W12 (.slice ab (Zz m jj).length cb) (Zz m jj)):=owb.at;have G12:=dD (G11.trans g12);have hs1:=zcM (RA.grew g12);have hs2:=zcM RB.out;clear owb g12;obtain⟨bn,HBN⟩:∃bn,Hid ((Zz m (jj:Int)).length=bn):=⟨_,rfl⟩;rw[HBN.out]at hs1 hs2⊢
  generalize strOfNums (Zz m (jj:Int))=str at hs1 hs2
  go_wp2;clear hs1 hs2
  go_roundg (fn -(jj+1))
  case measure=>omega
  exact⟨jj+1,by omega,by omega,by go_num,G12⟩
 have hltz2:¬(jj:Int)< (fn:Int):=by omega
 have:jj=fn:=by omega
 subst this;have P10:=dD (P9.grew GV);have A10:=dD (A9.grew GV);have G10:=dD (G9.trans GV);have hfk:=zfy V m (q:Int) wr A10 HW HRT.inv.spl;obtain⟨x0,x1,x2,x3,x4,x5,x6,x7,x8,x9,x10⟩:=P10.box.c11;go_wp2_with fail;refine hfk.mono ?_;clear hfk x0 x1 x2 x3 x4 x5 x6 x7 x8 x9 x10;rintro e W11 ⟨hF,g11⟩;have P11:=dD (P10.grew g11);have A11:=dD (A10.grew g11);have G11:=dD (G10.trans g11);clear g11
 rcases hF with⟨hno,_⟩|⟨q',s',k,hl,hv,hF⟩
 ·exact absurd ⟨rfl,HSQ,HLQ⟩ (hno q s)
 have eq':q'=q:=by have:=hl.1;omega
 subst eq';have es':s'=s:=by
  have h2:=hl.2.1;rw[HSQ.out]at h2;cases h2;rfl
 subst es';have hk2:k<=2:=nT hv.1 HS2.out;have hk4:k<4:=by omega
 rcases hF with⟨e4,_⟩|⟨_,V4,rfl,hm4⟩
 ·omega
 obtain⟨sk,sq,HFD⟩:=zfx HRT HSQ HLQ hv hk4;have HFK:Hid (zkx m (Zc m k q' s') k q' s' sk sq):=HFD;have HBK:Hid (Rt (QH (Zc m k q' s') k sk)/\QC (QH (Zc m k q' s') k sk)=QC m/\QB (QH (Zc m k q' s') k sk)=QB m/\∀n:Nat,jv (QH (Zc m k q' s') k sk) (q':Int) (n:Int)=jv m (q':Int) (n:Int)):=zlw HRT HSQ HLQ hv hk4 HFD.pk;have HWY:Hid (zkN (Zc m k q' s') (QH (Zc m k q' s') k sk) k):=zeo HFD.rt HFD.pk;obtain⟨X,HX⟩:∃X,Hid (Zc m k q' s'=X):=⟨_,rfl⟩;rw[HX.out]at hm4 HFK HBK HWY⊢;have K11:Hid (zF W11 V4 X):=hm4;clear hm4 hl;go_upto_region 24 with fail;obtain⟨px,HPX⟩:∃px,Hid (W11.heap.size=px):=⟨_,rfl⟩;obtain⟨W12,hW12⟩:∃W12,W11.alloc (.cells (mL V4 X).toArray 40)=W12:=⟨_,rfl⟩;have g12:=gP hW12
 have R12:=xPT hW12 HPX
 have P12:=dD (P11.grew g12);have A12:=dD (A11.grew g12);have K12:=dD (K11.grew g12);have G12:=dD (G11.trans g12);rw[hW12,HPX.out];clear hW12 g12;have hex:=zcF V4 X (k:Int) W12 K12 HFK.rt.w;obtain⟨x0,x1,x2,x3,x4,x5,x6,x7,x8,x9,x10⟩:=R12.box.c11;go_wp2_with fail;refine hex.mono ?_;clear hex x0 x1 x2 x3 x4 x5 x6 x7 x8 x9 x10;rintro e W13 ⟨hF,g13⟩;have P13:=dD (P12.grew g13);have A13:=dD (A12.grew g13);have G13:=dD (G12.trans g13);clear g13
 rcases hF with⟨hno,_⟩|⟨k',t',hl,V5,rfl,hm5⟩
 ·exact absurd ⟨rfl,HFK.pk,HFK.av.2.2.1⟩ (hno k sk)
 have ek':k'=k:=by have:=hl.1;omega
 subst ek';have et':t'=sk:=by
  have h2:=hl.2.1;rw[HFK.pk]at h2;cases h2;rfl
 subst et';obtain⟨Y,HY⟩:∃Y,Hid (QH X k' t'=Y):=⟨_,rfl⟩;rw[HY.out]at hm5 HBK HWY⊢;have Y13:Hid (zF W13 V5 Y):=hm5;have HYF:Hid (∀x∈Y.sp,qV Y.fl.length x.ars):=show∀x,_ from fun x hx=>by
  rw[HWY.rest.2.2.1,HFK.rest.2.2.1];obtain⟨i,hi⟩:=List.getElem?_of_mem hx
  by_cases e:i=k'
  ·rw[e,HWY.pq]at hi;cases hi;exact zav _
  rw[HWY.oth i e]at hi
  by_cases e2:i=q'
  ·rw[e2,HFK.pq]at hi;cases hi;rw[HFK.av.2.1];exact HFS s' (mG HSQ)
  rw[HFK.oth i e e2]at hi;exact HFS x (mG hi)
 clear hm5 hl;go_upto_region 27 with fail;obtain⟨py,HPY⟩:∃py,Hid (W13.heap.size=py):=⟨_,rfl⟩;obtain⟨W14,hW14⟩:∃W14,W13.alloc (.cells (mL V5 Y).toArray 40)=W14:=⟨_,rfl⟩;have g14:=gP hW14
 have R14:=xPT hW14 HPY
 have P14:=dD (P13.grew g14);have A14:=dD (A13.grew g14);have Y14:=dD (Y13.grew g14);have G14:=dD (G13.trans g14);rw[hW14,HPY.out];clear hW14 g14;have HC1:Hid (∀W,zc W14 W->Calls prog 22 #[.agg (mL V5 Y).toArray] W fun e w'=>e= .returned (.agg #[I6 (QC m:Int),I6 (QB m:Int)])/\zc W w'):=show∀W,_ from fun W hW=>by
  have:=zhb V5 Y W (Y14.grew hW) HBK.1.inv.fs40 HBK.1.inv.sl60;rw[HBK.2.1,HBK.2.2.1]at this;exact this
 have HC2:Hid (∀W,zc W14 W->Calls prog 22 #[.agg (mL V m).toArray] W fun e w'=>e= .returned (.agg #[I6 (QC m:Int),I6 (QB m:Int)])/\zc W w'):=dD<|fun W hW=>zhb V m W (A14.grew hW) HRT.inv.fs40 HRT.inv.sl60
 generalize(QC m:Int)=zf at HC1 HC2
 generalize(QB m:Int)=zs at HC1 HC2
 have HC3:Hid (∀W,zc W14 W->Calls prog 25 #[.agg (mL V5 Y).toArray,I6 (q':Int)] W fun e w'=>e= .returned (.string (strOfNums (zbw m q' 64)))/\zc W w'):=dD<|fun W hW=>by
  have:=zbX V5 Y q' W (Y14.grew hW) HBK.1.w HYF.out;rw[zeU (fun n=>HBK.2.2.2 n)]at this
  exact this
 have HC4:Hid (∀W,zc W14 W->Calls prog 25 #[.agg (mL V m).toArray,I6 (q':Int)] W fun e w'=>e= .returned (.string (strOfNums (zbw m q' 64)))/\zc W w'):=dD<|fun W hW=>zbX V m q' W (A14.grew hW) HRT.w HFS.out
 generalize strOfNums (zbw m q' 64)=S at HC3 HC4
 have heq:∀y:zo W14,(Op.equalIn 10000 75 (.agg #[I6 zf,I6 zs]) (.agg #[I6 zf,I6 zs])).run prog y.world= .ok true y.world:=fun y=>by
  obtain⟨i5,hi5,_,hz1,_⟩:=info_parts zmu;have h:=zag (P:=prog) y.world 75 3 .i64 9998 2 [zf,zs] [zf,zs] i5 underlying75 underlying3 hi5 hz1 rfl rfl
  simpa using h
 have hu0:∀y:zo W14,y.world.cell? ⟨pm,0,none⟩=_:=fun y=>(P14.box.grew y.grew).c 0 rfl
 have hu1:∀y:zo W14,y.world.cell? ⟨pm,1,none⟩=_:=fun y=>(P14.box.grew y.grew).c 1 rfl
 have hu2:∀y:zo W14,y.world.cell? ⟨pm,2,none⟩=_:=fun y=>(P14.box.grew y.grew).c 2 rfl
 have hu3:∀y:zo W14,y.world.cell? ⟨pm,3,none⟩=_:=fun y=>(P14.box.grew y.grew).c 3 rfl
 have hu4:∀y:zo W14,y.world.cell? ⟨pm,4,none⟩=_:=fun y=>(P14.box.grew y.grew).c 4 rfl
 have hu5:∀y:zo W14,y.world.cell? ⟨pm,5,none⟩=_:=fun y=>(P14.box.grew y.grew).c 5 rfl
 have hu6:∀y:zo W14,y.world.cell? ⟨pm,6,none⟩=_:=fun y=>(P14.box.grew y.grew).c 6 rfl
 have hu7:∀y:zo W14,y.world.cell? ⟨pm,7,none⟩=_:=fun y=>(P14.box.grew y.grew).c 7 rfl
 have hu8:∀y:zo W14,y.world.cell? ⟨pm,8,none⟩=_:=fun y=>(P14.box.grew y.grew).c 8 rfl
 have hu9:∀y:zo W14,y.world.cell? ⟨pm,9,none⟩=_:=fun y=>(P14.box.grew y.grew).c 9 rfl
 have hu10:∀y:zo W14,y.world.cell? ⟨pm,10,none⟩=_:=fun y=>(P14.box.grew y.grew).c 10 rfl
 have hv0:∀y:zo W14,y.world.cell? ⟨py,0,none⟩=_:=fun y=>(R14.box.grew y.grew).c 0 rfl
 have hv1:∀y:zo W14,y.world.cell? ⟨py,1,none⟩=_:=fun y=>(R14.box.grew y.grew).c 1 rfl
 have hv2:∀y:zo W14,y.world.cell? ⟨py,2,none⟩=_:=fun y=>(R14.box.grew y.grew).c 2 rfl
 have hv3:∀y:zo W14,y.world.cell? ⟨py,3,none⟩=_:=fun y=>(R14.box.grew y.grew).c 3 rfl
 have hv4:∀y:zo W14,y.world.cell? ⟨py,4,none⟩=_:=fun y=>(R14.box.grew y.grew).c 4 rfl
 have hv5:∀y:zo W14,y.world.cell? ⟨py,5,none⟩=_:=fun y=>(R14.box.grew y.grew).c 5 rfl
 have hv6:∀y:zo W14,y.world.cell? ⟨py,6,none⟩=_:=fun y=>(R14.box.grew y.grew).c 6 rfl
 have hv7:∀y:zo W14,y.world.cell? ⟨py,7,none⟩=_:=fun y=>(R14.box.grew y.grew).c 7 rfl
 have hv8:∀y:zo W14,y.world.cell? ⟨py,8,none⟩=_:=fun y=>(R14.box.grew y.grew).c 8 rfl
 have hv9:∀y:zo W14,y.world.cell? ⟨py,9,none⟩=_:=fun y=>(R14.box.grew y.grew).c 9 rfl
 have hv10:∀y:zo W14,y.world.cell? ⟨py,10,none⟩=_:=fun y=>(R14.box.grew y.grew).c 10 rfl
 have hne:Nonempty (zo W14):=⟨⟨_,zc.refl _⟩⟩;refine jK 18 [(4,⟨fun v=>v= .agg #[I6 zf,I6 zs],fun _ _=>True⟩),(6,⟨fun v=>v= .agg #[I6 zf,I6 zs],fun _ _=>True⟩),(12,⟨fun v=>v= .string S,fun _ _=>True⟩),(15,⟨fun v=>v= .string S,fun _ _=>True⟩)] qj (by kernel_rfl) rfl rfl (by decide) ?hS ?hp ?_
 case hS=>
  intro x hx;simp only[mC,nM,or_false]at hx
  rcases hx with rfl|rfl|rfl|rfl <;> exact⟨_,rfl⟩
 case hp=>
  intro x hx;simp only[mC,nM,or_false]at hx
  rcases hx with rfl|rfl|rfl|rfl <;> exact fun _ _ _ _ _=>trivial
 simp only[List.take,List.drop];iterate 4 (refine zj rfl rfl rfl (fun K hK=>?_);go_big_quiet_op;refine hK _ ?_;clear hK)
 refine zQ rfl rfl (fun w' hg hF=>?_) (fun v1 hv=>?_)
 ·refine zP.call [.agg (mL V5 Y).toArray] rfl func22 rfl rfl rfl ?_;refine(HC1 w' hg).mono ?_;rintro e w'' ⟨rfl,hg2⟩;exact⟨_,rfl,hg2,rfl,trivial⟩
 cases hv;simp only[Act.put,sB,sS,sZ];iterate 1 (refine zj rfl rfl rfl (fun K hK=>?_);go_big_quiet_op;refine hK _ ?_;clear hK)
 refine zQ rfl rfl (fun w' hg hF=>?_) (fun v1 hv=>?_)
 ·refine zP.call [.agg (mL V m).toArray] rfl func22 rfl rfl rfl ?_;refine(HC2 w' hg).mono ?_;rintro e w'' ⟨rfl,hg2⟩;exact⟨_,rfl,hg2,rfl,trivial⟩
 cases hv;simp only[Act.put,sB,sS,sZ];iterate 5 (refine zj rfl rfl rfl (fun K hK=>?_);go_big_quiet_op;refine hK _ ?_;clear hK)
 refine zQ rfl rfl (fun w' hg hF=>?_) (fun v1 hv=>?_)
 ·refine zP.call [.agg (mL V5 Y).toArray,I6 (q':Int)] rfl func25 rfl rfl rfl ?_;refine(HC3 w' hg).mono ?_;rintro e w'' ⟨rfl,hg2⟩;exact⟨_,rfl,hg2,rfl,trivial⟩
 cases hv;simp only[Act.put,sB,sS,sZ];iterate 2 (refine zj rfl rfl rfl (fun K hK=>?_);go_big_quiet_op;refine hK _ ?_;clear hK)
 refine zQ rfl rfl (fun w' hg hF=>?_) (fun v1 hv=>?_)
 ·refine zP.call [.agg (mL V m).toArray,I6 (q':Int)] rfl func25 rfl rfl rfl ?_;refine(HC4 w' hg).mono ?_;rintro e w'' ⟨rfl,hg2⟩;exact⟨_,rfl,hg2,rfl,trivial⟩
 cases hv;simp only[Act.put,sB,sS,sZ];iterate 2 (refine zj rfl rfl rfl (fun K hK=>?_);go_big_quiet_op;refine hK _ ?_;clear hK)
 refine qM fun W15 g15 _=>?_
 have G15:=dD (G14.trans (show zc _ _ from g15))
 clear g15;go_wp2;go_ret;exact⟨rfl,G15⟩
end
end Go.Proofs.YtangilolcekceaaGreat
