import Derived.Test.YtacihbmelcegbaaGreatPE1
import Derived.ChangeKeysEq
import Derived.Deep.Cut
namespace Go.Proofs.YtacihbmelcegbaaGreat
open Go.Value renaming slice→O,int→Xe,bool→Xh,agg→Xi,pointer→Xj,tuple→Xm
open Go.IntKind renaming i64→Xf,u8→Xg
open Go.Obj renaming cells→Xk
open Go.Ending renaming returned→Xl
open Go renaming World→Xo,Calls→Xq,Value→Xr
open Go.RowKit renaming Hid→Xp
open Option renaming some→Xa,none→Xb
open Bool renaming true→Xc,false→Xd
open List renaming replicate→Xs
open Go.Region renaming wanted→Xt
open _root_.List renaming drop_of_length_le→Xu,all_eq_true→Xw,length_pos_iff→Xx
open Go.Act renaming put→Xv
open _root_.Bool renaming false_eq_true→Xy
set_option maxRecDepth 100000
set_option maxHeartbeats 4000000
variable{V:MaV} {W w':Xo} {base' hi id j kk:Nat} {l:List Ar} {m:Ma} {oj:Oper} {t:TypeId} {us vs:List Xr} {z:Int}
open Go.Proofs.Tryz
section
open Go.RowKit
def ziB (g:List Int) (fs:List Fl):List Int:=fs.foldl (fun g f=>blG g f.bl) g
theorem zfw (g:List Int) (fs:List Fl) (f:Fl):ziB g (fs++ [f])=blG (ziB g fs) f.bl:=by
 unfold ziB;rw[List.foldl_append];rfl
theorem zc8 {l:List Fl} {k:Nat} {q:Fl} (h:l[k]? =Xa q):l.take (k+1)=l.take k++ [q]:=by
 rw[List.take_add_one,h];rfl
theorem zbJ (v:Xr) (fs:List Fl) (cnt:Int) (w:Xo) (hv:qh w v fs):
  Xq prog 155 #[Xi #[v,I6 cnt]] w fun e w'=>e= Xl (I6 (stW fs cnt))/\zc w w':=by
 obtain⟨a,c,rfl,hbig,hrow⟩:=hv.rows;have HR:Xp (Qv w a fs):=hrow;have HD:Xp (stW fs cnt=if fs.length<=5/\0<=cnt/\cnt<=80 then zfv cnt [] fs else 4):=rfl;clear hrow hv
 generalize stW fs cnt=Z at HD⊢
 obtain⟨n,HN⟩:=kA fs.length;rw[HN.out]at hbig HD⊢;obtain⟨W0,hW0⟩:=kB (w.alloc (Xk #[O a n c,I6 cnt] 37));have HG0:=gA hW0
 have X0:=xA hW0
 have HS0:=sA hW0
 have HW0:Xp (_=W0):=hW0;clear hW0
 by_cases h5:n<=5
 ·have h5z:¬(5:Int)< (n:Int):=by omega
  have h5d:decide ((5:Int)< (n:Int))=Xd:=decide_eq_false h5z
  by_cases hc:0<=cnt/\cnt<=80
  ·rw[kE ⟨h5,hc⟩]at HD;have hb:=fun W=>Zn (m:=cnt) (n:=81) hc.1 (by omega) W
   have hc80:cnt<=80:=hc.2;clear hc
   go_enter func155,ntmps155
   go_wp2_with (go_at_call 170;refine(hb _).mono ?_;rintro e w' ⟨rfl,rfl⟩)
   rw[HW0.out];refine(zke cnt W0).mono ?_;rintro e W1 ⟨rfl,k1,k2,k3,k4⟩;obtain⟨pc,hpc⟩:=kB W0.heap.size;rw[hpc]at k1 k2 k4 HS0⊢;have HPC:Xp (pc=w.heap.size+1):=HS0;have C1:Xp (Box W1 pc [I6 cnt]):=k1;have G1:Xp (Box W1 (pc+1) (qD 80 [])):=k2;have GR1:=dD (HG0.trans k3);have X1:=dD (X0.grew k3);clear hpc k1 k2 k3 k4 hb;have x0:=X1.c 0 rfl;have x1:=X1.c 1 rfl;go_wp2
   go_loopg [5,6,23] n (fun gg _ _ s23 wr=>∃kk:Nat,kk<=n/\n - kk<=gg/\s23=I6 kk/\Xp (zc w wr)/\Xp (Box wr pc [I6 cnt])/\Xp (Box wr (pc+1) (qD 80 (ziB [] (fs.take kk))))/\Xp (zfv cnt (ziB [] (fs.take kk)) (fs.drop kk)=zfv cnt [] fs))
   case atStart=>exact⟨0,nZ _,by omega,rfl,GR1,C1,G1,rfl⟩
   obtain⟨kk,hkk,hgg,rfl,BW,CW,GW,AW⟩:=hrel;clear x0 x1
   by_cases hlt:kk<n
   ·have hltz:=kC hlt
    obtain⟨q,HQ⟩:∃q,Xp (fs[kk]? =Xa q):=⟨_,gE (by rw[HN.out];exact hlt)⟩
    obtain⟨ad,rfl,xa,xc,hra,hl⟩:=HR.out kk q HQ.out;obtain⟨d0,d1⟩:=hl wr BW.out;obtain⟨W2,hW2⟩:=kB (wr.alloc (Xk #[I6 q.size,O xa q.bl.length xc] 84));have GA:=gA hW2
    have hcall:=zdE q xa xc cnt (ziB [] (fs.take kk)) pc (pc+1) W2 (CW.grew GA) (GW.grew GA) (by omega) hc80 (hra.stays (pc+2) (by have:=HPC.out;omega) (BW.trans GA))
    have C2:=dD (CW.grew GA);have B2:=dD (BW.trans GA);have HW2:Xp (_=W2):=hW2;have HST:Xp (zfv cnt (ziB [] (fs.take kk)) (fs.drop kk)=if flW cnt (ziB [] (fs.take kk)) q=0 then zfv cnt (ziB [] (fs.take (kk+1))) (fs.drop (kk+1))else flW cnt (ziB [] (fs.take kk)) q):=show _=_ by
     rw[jP HQ.out,zc8 HQ.out,zfw];rfl
    rw[<-zfw,<-zc8 HQ.out]at hcall;clear hl hW2 hra
    generalize flW cnt (ziB [] (fs.take kk)) q=z at hcall HST
    have hql:=q.bl.length
    by_cases hz:z=0
    ·have HA:Xp (zfv cnt (ziB [] (fs.take (kk+1))) (fs.drop (kk+1))=zfv cnt [] fs):=dD<|by rw[<-AW.out,HST.out,kE hz]
     subst hz;go_wp2_with fail;rw[HW2.out];refine hcall.mono ?_;rintro e W3 ⟨rfl,k1,k2⟩;have G3:Xp (Box W3 (pc+1) (qD 80 (ziB [] (fs.take (kk+1))))):=k1 (by first | exact rfl | exact trivial)
     have B3:Xp (zc w W3):=dD<|Out.grew_of B2 (by have:=HPC.out;omega) k2
     have C3:Xp (Box W3 pc [I6 cnt]):=C2.out.out k2 (by omega)
     clear k1 k2 hcall;go_wp2
     go_roundg (n -(kk+1))
     case measure=>omega
     exact⟨kk+1,by omega,by omega,by go_num,B3,C3,G3,HA⟩
    have hzb:(z != 0)=Xc:=by simpa using hz
    have HF:Xp (Z=z):=dD<|by
     have h1:=AW.out;rw[HST.out,kF hz]at h1;rw[HD.out,<-h1]
    go_wp2_with fail;rw[HW2.out];refine hcall.mono ?_;rintro e W3 ⟨rfl,k1,k2⟩;have B3:Xp (zc w W3):=dD<|Out.grew_of B2 (by have:=HPC.out;omega) k2
    clear k1 k2 hcall;go_wp2;go_ret;exact⟨by rw[HF.out];rfl,B3⟩
   have hltz:=kD hlt
   have:kk=n:=by omega
   subst this;have HF:Xp (Z=0):=dD<|by
    rw[HD.out,<-AW.out,Xu (by rw[HN.out];exact nR _)]
    rfl
   go_wp2;go_ret;exact⟨by rw[HF.out];rfl,BW⟩
  rw[kF (fun h=>hc h.2)]at HD
  have hb:=fun W=>zaI (m:=cnt) (n:=81) (by omega) W
  clear hc
  go_enter func155,ntmps155
  go_wp2_with (go_at_call 170;refine(hb _).mono ?_;rintro e w' ⟨rfl,rfl⟩)
  rw[HW0.out];go_ret;exact⟨by rw[HD.out];rfl,HG0⟩
 rw[kF (fun h=>h5 h.1)]at HD
 have h5z:(5:Int)< (n:Int):=by omega
 go_enter func155,ntmps155
 go_wp2;rw[HW0.out];go_ret;exact⟨by rw[HD.out];rfl,HG0⟩
theorem zgu (f:Fr) (a:Ar) (n:Nat) (w:Xo) (h1:0<=a.base/\a.base<=100) (h2:0<=a.fr/\a.fr<=100) (h3:n<=64):
  Xq prog 192 #[Xi (frv f).toArray,Xi #[I6 a.fr,I6 a.tz,Xh a.rd,Xh a.wr,Xh a.sh,I6 a.file,I6 a.base],I6 (n:Int)] w fun e w'=>e= Xl (Xh (Zz f a n))/\zc w w':=by
 have HIX:Xp (∀W,Xq prog 135 #[Xi #[I6 a.fr,I6 a.tz,Xh a.rd,Xh a.wr,Xh a.sh,I6 a.file,I6 a.base],I6 (n:Int)] W fun e w'=>e= Xl (I6 (a.base+n - a.fr))/\zc W w'):=dD<|fun W=>zch a n W h1 h2 (by omega)
 clear h1 h2 h3;obtain⟨⟨b0,b1,b2,b3,b4,b5,b6,b7⟩,r,u,d,ff,x⟩:=f;obtain⟨fr,tz,rd,wr,sh,file,base⟩:=a;unfold frv Zz;simp only
 by_cases h:ff<0
 ·rw[kE h]
  go_enter func192,ntmps192
  go_wp2;go_ret;exact⟨rfl,(za _ _).trans (za _ _)⟩
 rw[kF h];obtain⟨W0,hW0⟩:=kB ((w.alloc (Xk #[U8 b0,U8 b1,U8 b2,U8 b3,U8 b4,U8 b5,U8 b6,U8 b7,I6 r,Xh u,Xh d,I6 ff,I6 x] 53)).alloc (Xk #[I6 fr,.int .i64 tz,Xh rd,Xh wr,Xh sh,I6 file,I6 base] 91));have HG0:=gD2 hW0
 have X0:=x2a hW0
 have Y0:=x2b hW0
 have HW0:Xp (_=W0):=hW0;clear hW0
 by_cases he:ff=file
 ·have he1:(ff == file)=Xc:=by simp[he]
  rw[he1,Bool.true_and];clear he;obtain⟨D,HD⟩:=kA (x == base+(n:Int) - fr);rw[HD.out]
  go_enter func192,ntmps192
  go_upto_region 3 with fail;rw[HW0.out];have hx11:=X0.gw 11 rfl
  have hx12:=X0.gw 12 rfl
  have hy0:=Y0.gw 0 rfl
  have hy1:=Y0.gw 1 rfl
  have hy2:=Y0.gw 2 rfl
  have hy3:=Y0.gw 3 rfl
  have hy4:=Y0.gw 4 rfl
  have hy5:=Y0.gw 5 rfl
  have hy6:=Y0.gw 6 rfl
  have hne:Nonempty (zn W0):=⟨⟨_,zc.refl _⟩⟩;refine ji [(10,⟨fun v=>v=I6 (base+(n:Int) - fr),fun v w'=>True⟩)] zW (by kernel_rfl) ?hS ?hp ?_
  case hS=>
   intro x hx;simp only[mC,nM,or_false]at hx;subst hx;exact⟨_,rfl⟩
  case hp=>
   intro x hx;simp only[mC,nM,or_false]at hx;subst hx;exact fun _ _ _ _ h=>h
  iterate 10 (refine zd rfl rfl rfl (fun K hK=>?_);go_big_quiet_op;refine hK _ ?_;clear hK)
  refine zE rfl rfl (fun w' hg hF=>?_) (fun v1 hv=>?_)
  ·refine zQ.call [Xi #[I6 fr,.int .i64 tz,Xh rd,Xh wr,Xh sh,I6 file,I6 base],I6 (n:Int)] rfl func135 rfl rfl rfl ?_;refine(HIX w').mono ?_;rintro e w'' ⟨rfl,hg2⟩;exact⟨_,rfl,hg2,rfl,trivial⟩
  subst hv;simp only[Xv,sB,sS,sZ];iterate 3 (refine zd rfl rfl rfl (fun K hK=>?_);go_big_quiet_op;refine hK _ ?_;clear hK)
  refine z6 fun W3 hg1 hF=>?_
  have G3:=dD (HG0.trans hg1);clear hg1 hF hx11 hx12 hy0 hy1 hy2 hy3 hy4 hy5 hy6 hne;go_wp2;go_ret;exact⟨by rw[<-HD.out];rfl,G3⟩
 have he1:(ff == file)=Xd:=by simp[he]
 rw[he1,Bool.false_and];clear he
 go_enter func192,ntmps192
 go_upto_region 3 with fail;rw[HW0.out];have hx11:W0.cell? ⟨w.heap.size,11,Xb⟩=Xa (I6 ff):=X0.c 11 rfl;have hx12:W0.cell? ⟨w.heap.size,12,Xb⟩=Xa (I6 x):=X0.c 12 rfl;have hy0:W0.cell? ⟨w.heap.size+1,0,Xb⟩=Xa (I6 fr):=Y0.c 0 rfl;have hy1:W0.cell? ⟨w.heap.size+1,1,Xb⟩=Xa (.int .i64 tz):=Y0.c 1 rfl;have hy2:W0.cell? ⟨w.heap.size+1,2,Xb⟩=Xa (Xh rd):=Y0.c 2 rfl;have hy3:W0.cell? ⟨w.heap.size+1,3,Xb⟩=Xa (Xh wr):=Y0.c 3 rfl;have hy4:W0.cell? ⟨w.heap.size+1,4,Xb⟩=Xa (Xh sh):=Y0.c 4 rfl;have hy5:W0.cell? ⟨w.heap.size+1,5,Xb⟩=Xa (I6 file):=Y0.c 5 rfl;have hy6:W0.cell? ⟨w.heap.size+1,6,Xb⟩=Xa (I6 base):=Y0.c 6 rfl;go_quiet (fail);go_wp2;go_ret;exact⟨rfl,HG0.trans (show Below _ _ _ from bD (bR _ _) _)⟩
def zmJ (fl:List Fl) (file idx:Int):Bool:=bel file fl.length && bel idx ((fl.getD file.toNat ⟨0,[]⟩).bl.length:Nat)
theorem zcn (v:Xr) (fl:List Fl) (cnt file idx:Int) (w:Xo) (hv:qh w v fl):
  Xq prog 136 #[Xi #[v,I6 cnt],I6 file,I6 idx] w fun e w'=>e= Xl (Xh (zmJ fl file idx))/\zc w w':=by
 obtain⟨a,c,rfl,hbig,hrow⟩:=hv.rows;have HR:Xp (Qv w a fl):=hrow;clear hrow hv;obtain⟨n,HN⟩:=kA fl.length;unfold zmJ;rw[HN.out]at hbig⊢;have hb:=za7 file n
 cases h:bel file n with
 | false=>
  rw[h]at hb;rw[Bool.false_and]
  go_enter func136,ntmps136
  go_wp2_with (go_at_call 83;refine(hb _).mono ?_;rintro e w' ⟨rfl,rfl⟩)
  go_ret;exact⟨rfl,za _ _⟩
 | true=>
  rw[h]at hb;rw[Bool.true_and];obtain⟨h0,h1⟩:=Jq.1 h;obtain⟨k,rfl⟩:∃k:Nat,file=(k:Int):=⟨file.toNat,by omega⟩
  obtain⟨f,HF⟩:∃f,Xp (fl[k]? =Xa f):=⟨_,gE (by rw[HN.out];omega)⟩
  have hg:(fl.getD ((k:Nat):Int).toNat ⟨0,[]⟩)=f:=by rw[tN,gD,HF.out];rfl
  rw[hg];clear hg;obtain⟨ad,rfl,xa,xc,_,hl⟩:=HR.out k f HF.out;obtain⟨d0,d1⟩:=hl (w.alloc (Xk #[O (Xa ad) n c,I6 cnt] 37)) (za _ _);obtain⟨q,HQ⟩:=kA f.bl.length;rw[HQ.out]at d1⊢;have hb2:=za7 idx q;clear hl
  go_enter func136,ntmps136
  go_wp2_with (go_at_call 83;first | (refine(hb _).mono ?_;clear hb;rintro e w' ⟨rfl,rfl⟩) | (refine(hb2 _).mono ?_;rintro e w' ⟨rfl,rfl⟩))
  go_ret;exact⟨rfl,za _ _⟩
theorem zbM (V:MaV) (m:Ma) (a:Ar) (n:Nat) (e:En) (w:Xo) (hm:zN w V m) (ha:jA a) (hn:n<=64) (he:0<=e.n):
  Xq prog 160 #[Xi (mL V m).toArray,Xi #[I6 a.fr,I6 a.tz,Xh a.rd,Xh a.wr,Xh a.sh,I6 a.file,I6 a.base],I6 (n:Int),Xi #[I6 e.kind,I6 e.n,Xh e.wr]] w fun e' w'=>e'= Xl (I6 (JN m a n e))/\zc w w':=by
 obtain⟨n1,n2,-⟩:=hm.ns;have hab:(0<=a.base/\a.base<=100)/\(0<=a.fr/\a.fr<=100):=by
  obtain⟨g1,g2,g3,g4,g5,g6,g7,g8⟩:=ha
  by_cases hf:a.file<0
  ·have:=g7 hf;omega
  have:=g8 (by omega);omega
 have HMH:Xp (∀(q:Fr) W,Xq prog 192 #[Xi (frv q).toArray,Xi #[I6 a.fr,I6 a.tz,Xh a.rd,Xh a.wr,Xh a.sh,I6 a.file,I6 a.base],I6 (n:Int)] W fun e w'=>e= Xl (Xh (Zz q a n))/\zc W w'):=dD<|fun q W=>zgu q a n W hab.1 hab.2 hn
 have HMW:Xp (∀(q:Fr) W,Xq prog 193 #[Xi (frv q).toArray,Xi #[I6 a.fr,I6 a.tz,Xh a.rd,Xh a.wr,Xh a.sh,I6 a.file,I6 a.base]] W fun e w'=>e= Xl (Xh (ZJ q a))/\zc W w'):=dD<|fun q W=>zfc q a W
 have HS:Xp (m.sl.length=V.s.n):=n2.symm;have HF:Xp (m.fs.length=V.f.n):=n1.symm;have HR:Xp (zaM w V.f.a m.fs):=hm.frs;have HZ:Xp (JN m a n e=if e.kind=2 then(if(V.s.n:Int)<=e.n\/a.sh=Xc then 7 else 0)else if(V.f.n:Int)<=e.n then 3 else if Zz (z8 m e.n) a n=Xd\/(e.wr=Xc/\ZJ (z8 m e.n) a=Xd)then 7 else 0):=show _=_ by
  unfold JN;rw[n1,n2]
 rw[HZ.out];clear hm ha hab n1 n2 hn;have hG3:zc w (((w.alloc (Xk (mL V m).toArray 41)).alloc (Xk #[I6 a.fr,I6 a.tz,Xh a.rd,Xh a.wr,Xh a.sh,I6 a.file,I6 a.base] 91)).alloc (Xk #[I6 e.kind,I6 e.n,Xh e.wr] 55)):=((za _ _).trans (za _ _)).trans (za _ _);have HG3:Xp (zc w (((w.alloc (Xk (mL V m).toArray 41)).alloc (Xk #[I6 a.fr,I6 a.tz,Xh a.rd,Xh a.wr,Xh a.sh,I6 a.file,I6 a.base] 91)).alloc (Xk #[I6 e.kind,I6 e.n,Xh e.wr] 55))):=hG3;clear hG3
 by_cases hk:e.kind=2
 ·have hke:(e.kind == 2)=Xc:=by simp[hk]
  rw[kE hk];clear hk
  by_cases h1:(V.s.n:Int)<=e.n
  ·rw[kE (.inl h1)]
   go_enter func160,ntmps160
   go_wp2;go_ret;exact⟨rfl,HG3⟩
  cases hs:a.sh with
  | true=>
   rw[kE (.inr rfl)];rw[hs]at HG3 HMH HMW
   go_enter func160,ntmps160
   go_wp2;go_ret;exact⟨rfl,HG3⟩
  | false=>
   rw[kF (by simp[h1])]
   rw[hs]at HG3 HMH HMW
   go_enter func160,ntmps160
   go_wp2;go_ret;exact⟨rfl,HG3⟩
 have hke:(e.kind == 2)=Xd:=by simp[hk]
 rw[kF hk];clear hk
 by_cases h1:(V.f.n:Int)<=e.n
 ·rw[kE h1]
  go_enter func160,ntmps160
  go_wp2;go_ret;exact⟨rfl,HG3⟩
 rw[kF h1];obtain⟨ek,en,ew⟩:=e;simp only at he hke h1 HZ HG3⊢;obtain⟨k,rfl⟩:∃k:Nat,en=(k:Int):=⟨en.toNat,by omega⟩
 have hkn:k<V.f.n:=by omega
 obtain⟨q,HQ⟩:∃q,Xp (m.fs[k]? =Xa q):=⟨_,gE (by rw[HF.out];exact hkn)⟩
 have hfr:z8 m (k:Int)=q:=by unfold z8;rw[tN,gD,HQ.out];rfl
 rw[hfr];clear hfr;obtain⟨ad,hva,hl⟩:=HR.out k q HQ.out;(try simp only[mL,Sli.x]at HG3 HR⊢);rw[hva]at HG3 HR⊢;clear hva;obtain⟨W3,hW3⟩:=kB (((w.alloc (Xk #[O (Xa ad) V.f.n V.f.c,I6 m.hand,V.s.x,V.sb.x,V.sq.x,V.db.x,V.dq.x,V.fl.x,I6 m.cnt,V.ca.x,V.sp.x] 41)).alloc (Xk #[I6 a.fr,I6 a.tz,Xh a.rd,Xh a.wr,Xh a.sh,I6 a.file,I6 a.base] 91)).alloc (Xk #[I6 ek,I6 (k:Int),Xh ew] 55));rw[hW3]at HG3;have Y3:Xp (Box W3 (w.heap.size+1) [I6 a.fr,I6 a.tz,Xh a.rd,Xh a.wr,Xh a.sh,I6 a.file,I6 a.base]):=dD<|by rw[<-hW3];exact(Box.top _ _ _ (by simp)).alloc _
 have Z3:Xp (Box W3 (w.heap.size+1+1) [I6 ek,I6 (k:Int),Xh ew]):=dD<|by rw[<-hW3];exact Box.top _ _ _ (by simp)
 have X3:Xp (Box W3 w.heap.size [O (Xa ad) V.f.n V.f.c,I6 m.hand,V.s.x,V.sb.x,V.sq.x,V.db.x,V.dq.x,V.fl.x,I6 m.cnt,V.ca.x,V.sp.x]):=dD<|by rw[<-hW3];exact((Box.top _ _ _ rfl).alloc _).alloc _
 have x0:=X3.c 0 rfl;have z1:=Z3.c 1 rfl;have HS3:Xp (W3.heap.size=w.heap.size+1+1+1):=dD<|by rw[<-hW3];simp
 obtain⟨d0,d1,d2,d3,d4,d5,d6,d7,d8,d9,d10,d11,d12⟩:=hl W3 HG3.out;have HW3:Xp (_=W3):=hW3;have HP:Xp (Zz q a n=Zz q a n):=rfl;clear hW3 hl
 cases hmh:Zz q a n with
 | false=>
  have hmh':=HMH.out q;rw[hmh]at hmh';rw[kE (.inl rfl)];have HC:Xp (∀W,Xq prog 192 #[Xi (frv q).toArray,Xi #[I6 a.fr,I6 a.tz,Xh a.rd,Xh a.wr,Xh a.sh,I6 a.file,I6 a.base],I6 (n:Int)] W fun e w'=>e= Xl (Xh Xd)/\zc W w'):=hmh'
  clear hmh'
  go_enter func160,ntmps160
  go_upto_region 7 with fail;rw[HW3.out];go_upto_region 8 with fail;obtain⟨W4,hW4⟩:=kB (W3.alloc (Xk #[U8 q.p.b0,U8 q.p.b1,U8 q.p.b2,U8 q.p.b3,U8 q.p.b4,U8 q.p.b5,U8 q.p.b6,U8 q.p.b7,I6 q.r,Xh q.u,Xh q.d,I6 q.f,I6 q.x] 53));have HG4:=gT hW4 HG3
  have Y4:Box W4 (w.heap.size+1) [I6 a.fr,I6 a.tz,Xh a.rd,Xh a.wr,Xh a.sh,I6 a.file,I6 a.base]:=by rw[<-hW4];exact Y3.alloc _
  have F4:Box W4 (w.heap.size+1+1+1) [U8 q.p.b0,U8 q.p.b1,U8 q.p.b2,U8 q.p.b3,U8 q.p.b4,U8 q.p.b5,U8 q.p.b6,U8 q.p.b7,I6 q.r,Xh q.u,Xh q.d,I6 q.f,I6 q.x]:=by rw[<-hW4];exact Box.top _ _ _ HS3.symm
  rw[hW4,HS3.out];clear hW4 x0 z1 d0 d1 d2 d3 d4 d5 d6 d7 d8 d9 d10 d11 d12;obtain⟨y0,y1,y2,y3,y4,y5,y6⟩:=Y4.c7;have f0:=F4.c 0 rfl;have f1:=F4.c 1 rfl;have f2:=F4.c 2 rfl;have f3:=F4.c 3 rfl;have f4:=F4.c 4 rfl;have f5:=F4.c 5 rfl;have f6:=F4.c 6 rfl;have f7:=F4.c 7 rfl;have f8:=F4.c 8 rfl;have f9:=F4.c 9 rfl;have f10:=F4.c 10 rfl;have f11:=F4.c 11 rfl;have f12:=F4.c 12 rfl
  go_wp2_with (go_at_call 192;refine(HC _).mono ?_;clear y0 y1 y2 y3 y4 y5 y6 f0 f1 f2 f3 f4 f5 f6 f7 f8 f9 f10 f11 f12;rintro e W5 ⟨rfl,hg5⟩)
  go_ret;exact⟨rfl,HG4.trans hg5⟩
 | true=>
  have hmh':=HMH.out q;rw[hmh]at hmh';have HC:Xp (∀W,Xq prog 192 #[Xi (frv q).toArray,Xi #[I6 a.fr,I6 a.tz,Xh a.rd,Xh a.wr,Xh a.sh,I6 a.file,I6 a.base],I6 (n:Int)] W fun e w'=>e= Xl (Xh Xc)/\zc W w'):=hmh'
  clear hmh'
  cases ew with
  | false=>
   rw[kF (by simp)]
   go_enter func160,ntmps160
   go_upto_region 7 with fail;rw[HW3.out];go_upto_region 8 with fail;obtain⟨W4,hW4⟩:=kB (W3.alloc (Xk #[U8 q.p.b0,U8 q.p.b1,U8 q.p.b2,U8 q.p.b3,U8 q.p.b4,U8 q.p.b5,U8 q.p.b6,U8 q.p.b7,I6 q.r,Xh q.u,Xh q.d,I6 q.f,I6 q.x] 53));have HG4:=gT hW4 HG3
   have Y4:Box W4 (w.heap.size+1) [I6 a.fr,I6 a.tz,Xh a.rd,Xh a.wr,Xh a.sh,I6 a.file,I6 a.base]:=by rw[<-hW4];exact Y3.alloc _
   have Z4:=yA hW4 Z3
   have F4:Box W4 (w.heap.size+1+1+1) [U8 q.p.b0,U8 q.p.b1,U8 q.p.b2,U8 q.p.b3,U8 q.p.b4,U8 q.p.b5,U8 q.p.b6,U8 q.p.b7,I6 q.r,Xh q.u,Xh q.d,I6 q.f,I6 q.x]:=by rw[<-hW4];exact Box.top _ _ _ HS3.symm
   rw[hW4,HS3.out];clear hW4 x0 z1 d0 d1 d2 d3 d4 d5 d6 d7 d8 d9 d10 d11 d12;obtain⟨y0,y1,y2,y3,y4,y5,y6⟩:=Y4.c7;have f0:=F4.c 0 rfl;have f1:=F4.c 1 rfl;have f2:=F4.c 2 rfl;have f3:=F4.c 3 rfl;have f4:=F4.c 4 rfl;have f5:=F4.c 5 rfl;have f6:=F4.c 6 rfl;have f7:=F4.c 7 rfl;have f8:=F4.c 8 rfl;have f9:=F4.c 9 rfl;have f10:=F4.c 10 rfl;have f11:=F4.c 11 rfl;have f12:=F4.c 12 rfl
   go_wp2_with (go_at_call 192;refine(HC _).mono ?_;clear y0 y1 y2 y3 y4 y5 y6 f0 f1 f2 f3 f4 f5 f6 f7 f8 f9 f10 f11 f12;rintro e W5 ⟨rfl,hg5⟩;have z2:=(Z4.grew hg5).c 2 rfl)
   go_ret;exact⟨rfl,HG4.trans hg5⟩
  | true=>
   cases hmw:ZJ q a with
   | false=>
    have hmw':=HMW.out q;rw[hmw]at hmw';rw[kE (.inr ⟨rfl,rfl⟩)];have HC2:Xp (∀W,Xq prog 193 #[Xi (frv q).toArray,Xi #[I6 a.fr,I6 a.tz,Xh a.rd,Xh a.wr,Xh a.sh,I6 a.file,I6 a.base]] W fun e w'=>e= Xl (Xh Xd)/\zc W w'):=hmw'
    clear hmw'
    go_enter func160,ntmps160
    go_upto_region 7 with fail;rw[HW3.out];go_upto_region 8 with fail;obtain⟨W4,hW4⟩:=kB (W3.alloc (Xk #[U8 q.p.b0,U8 q.p.b1,U8 q.p.b2,U8 q.p.b3,U8 q.p.b4,U8 q.p.b5,U8 q.p.b6,U8 q.p.b7,I6 q.r,Xh q.u,Xh q.d,I6 q.f,I6 q.x] 53));have HG4:=gT hW4 HG3
    have Y4:=yA hW4 Y3
    have Z4:=yA hW4 Z3
    have F4:=xP hW4 HS3
    rw[hW4,HS3.out];clear hW4 x0 z1 d0 d1 d2 d3 d4 d5 d6 d7 d8 d9 d10 d11 d12;obtain⟨y0,y1,y2,y3,y4,y5,y6⟩:=Y4.c7;have f0:=F4.c 0 rfl;have f1:=F4.c 1 rfl;have f2:=F4.c 2 rfl;have f3:=F4.c 3 rfl;have f4:=F4.c 4 rfl;have f5:=F4.c 5 rfl;have f6:=F4.c 6 rfl;have f7:=F4.c 7 rfl;have f8:=F4.c 8 rfl;have f9:=F4.c 9 rfl;have f10:=F4.c 10 rfl;have f11:=F4.c 11 rfl;have f12:=F4.c 12 rfl;go_wp2_with fail;refine(HC _).mono ?_;clear y0 y1 y2 y3 y4 y5 y6 f0 f1 f2 f3 f4 f5 f6 f7 f8 f9 f10 f11 f12;rintro e W5 ⟨rfl,hg5⟩;have HG5:=dD (HG4.trans hg5);have Y5:=Y4.grew hg5;have z2:=(Z4.grew hg5).c 2 rfl;have F5:=F4.grew hg5;clear hg5;obtain⟨y0,y1,y2,y3,y4,y5,y6⟩:=Y5.c7;have f0:=F5.c 0 rfl;have f1:=F5.c 1 rfl;have f2:=F5.c 2 rfl;have f3:=F5.c 3 rfl;have f4:=F5.c 4 rfl;have f5:=F5.c 5 rfl;have f6:=F5.c 6 rfl;have f7:=F5.c 7 rfl;have f8:=F5.c 8 rfl;have f9:=F5.c 9 rfl;have f10:=F5.c 10 rfl;have f11:=F5.c 11 rfl;have f12:=F5.c 12 rfl
    go_wp2_with (go_at_call 193;refine(HC2 _).mono ?_;clear y0 y1 y2 y3 y4 y5 y6 f0 f1 f2 f3 f4 f5 f6 f7 f8 f9 f10 f11 f12 z2;rintro e W6 ⟨rfl,hg6⟩)
    go_ret;exact⟨rfl,HG5.trans hg6⟩
   | true=>
    have hmw':=HMW.out q;rw[hmw]at hmw';rw[kF (by simp)]
    have HC2:Xp (∀W,Xq prog 193 #[Xi (frv q).toArray,Xi #[I6 a.fr,I6 a.tz,Xh a.rd,Xh a.wr,Xh a.sh,I6 a.file,I6 a.base]] W fun e w'=>e= Xl (Xh Xc)/\zc W w'):=hmw'
    clear hmw'
    go_enter func160,ntmps160
    go_upto_region 7 with fail;rw[HW3.out];go_upto_region 8 with fail;obtain⟨W4,hW4⟩:=kB (W3.alloc (Xk #[U8 q.p.b0,U8 q.p.b1,U8 q.p.b2,U8 q.p.b3,U8 q.p.b4,U8 q.p.b5,U8 q.p.b6,U8 q.p.b7,I6 q.r,Xh q.u,Xh q.d,I6 q.f,I6 q.x] 53));have HG4:=gT hW4 HG3
    have Y4:=yA hW4 Y3
    have Z4:=yA hW4 Z3
    have F4:=xP hW4 HS3
    rw[hW4,HS3.out];clear hW4 x0 z1 d0 d1 d2 d3 d4 d5 d6 d7 d8 d9 d10 d11 d12;obtain⟨y0,y1,y2,y3,y4,y5,y6⟩:=Y4.c7;have f0:=F4.c 0 rfl;have f1:=F4.c 1 rfl;have f2:=F4.c 2 rfl;have f3:=F4.c 3 rfl;have f4:=F4.c 4 rfl;have f5:=F4.c 5 rfl;have f6:=F4.c 6 rfl;have f7:=F4.c 7 rfl;have f8:=F4.c 8 rfl;have f9:=F4.c 9 rfl;have f10:=F4.c 10 rfl;have f11:=F4.c 11 rfl;have f12:=F4.c 12 rfl;go_wp2_with fail;refine(HC _).mono ?_;clear y0 y1 y2 y3 y4 y5 y6 f0 f1 f2 f3 f4 f5 f6 f7 f8 f9 f10 f11 f12;rintro e W5 ⟨rfl,hg5⟩;have HG5:=dD (HG4.trans hg5);have Y5:=Y4.grew hg5;have z2:=(Z4.grew hg5).c 2 rfl;have F5:=F4.grew hg5;clear hg5;obtain⟨y0,y1,y2,y3,y4,y5,y6⟩:=Y5.c7;have f0:=F5.c 0 rfl;have f1:=F5.c 1 rfl;have f2:=F5.c 2 rfl;have f3:=F5.c 3 rfl;have f4:=F5.c 4 rfl;have f5:=F5.c 5 rfl;have f6:=F5.c 6 rfl;have f7:=F5.c 7 rfl;have f8:=F5.c 8 rfl;have f9:=F5.c 9 rfl;have f10:=F5.c 10 rfl;have f11:=F5.c 11 rfl;have f12:=F5.c 12 rfl
    go_wp2_with (go_at_call 193;refine(HC2 _).mono ?_;clear y0 y1 y2 y3 y4 y5 y6 f0 f1 f2 f3 f4 f5 f6 f7 f8 f9 f10 f11 f12 z2;rintro e W6 ⟨rfl,hg6⟩)
    go_ret;exact⟨rfl,HG5.trans hg6⟩
theorem zmv (m:Ma) (c:Ca):caE m Xb c=if zmJ m.fl c.file c.idx=Xd\/bel c.fr m.fs.length=Xd then 3 else if(z8 m c.fr).r=0\/(z8 m c.fr).f≠c.file\/(z8 m c.fr).x≠c.idx then 7 else 0:=by
 unfold caE zmJ;have hb:∀(a b:Int),bel a b=Xd↔(a<0\/b<=a):=fun a b=>by
  constructor
  ·intro h
   rcases Int.lt_or_le a 0 with h1|h1
   ·exact .inl h1
   rcases Int.lt_or_le a b with h2|h2
   ·rw[Jq.2 ⟨h1,h2⟩]at h;cases h
   exact .inr h2
  intro h;exact zkY (by omega)
 have he:(c.file<0\/(m.fl.length:Int)<=c.file\/c.idx<0\/bkN m c.file<=c.idx\/c.fr<0\/(m.fs.length:Int)<=c.fr)↔((bel c.file m.fl.length && bel c.idx ((m.fl.getD c.file.toNat ⟨0,[]⟩).bl.length:Nat))=Xd\/bel c.fr m.fs.length=Xd):=by
  rw[Bool.and_eq_false_iff,hb,hb,hb];unfold bkN;omega
 simp only[he]
theorem zbO (V:MaV) (m:Ma) (c:Ca) (w:Xo) (hm:zN w V m):
  Xq prog 158 #[Xi (mL V m).toArray,Xi #[I6 c.file,I6 c.idx,I6 c.fr]] w fun e w'=>e= Xl (I6 (caE m Xb c))/\zc w w':=by
 obtain⟨n1,-⟩:=hm.ns;rw[zmv,<-n1];have HHP:Xp (∀W,zc w W->Xq prog 136 #[Xi #[V.fl.x,I6 m.cnt],I6 c.file,I6 c.idx] W fun e w'=>e= Xl (Xh (zmJ m.fl c.file c.idx))/\zc W w'):=dD<|fun W hW=>zcn _ m.fl m.cnt c.file c.idx W (hm.grew hW).fl
 have HBL:Xp (∀W,Xq prog 83 #[I6 c.fr,I6 V.f.n] W fun e w'=>e= Xl (Xh (bel c.fr V.f.n))/\w'=W):=dD<|fun W=>za7 c.fr V.f.n W
 have HF:Xp (m.fs.length=V.f.n):=n1.symm;have HR:Xp (zaM w V.f.a m.fs):=hm.frs;clear hm n1;obtain⟨W2,hW2⟩:=kB ((w.alloc (Xk (mL V m).toArray 41)).alloc (Xk #[I6 c.file,I6 c.idx,I6 c.fr] 120));have HG2:=gD2 hW2
 have X2:=x2a hW2
 have Y2:=x2b hW2
 have HS2:Xp (W2.heap.size=w.heap.size+1+1):=dD<|by rw[<-hW2];simp
 have HW2:Xp (_=W2):=hW2;clear hW2;have HC1:=HHP.out W2 HG2.out;have x7:=X2.c 7 rfl;have x8:=X2.c 8 rfl;have y0:=Y2.c 0 rfl;have y1:=Y2.c 1 rfl
 cases hp:zmJ m.fl c.file c.idx with
 | false=>
  rw[hp]at HC1;rw[kE (.inl rfl)]
  go_enter func158,ntmps158
  go_upto_region 1 with fail;rw[HW2.out]
  go_wp2_with (go_at_call 136;refine HC1.mono ?_;clear x7 x8 y0 y1;rintro e W3 ⟨rfl,hg3⟩)
  go_ret;exact⟨rfl,HG2.trans hg3⟩
 | true=>
  rw[hp]at HC1
  cases hb:bel c.fr V.f.n with
  | false=>
   rw[hb]at HBL;rw[kE (.inr rfl)]
   go_enter func158,ntmps158
   go_upto_region 1 with fail;rw[HW2.out];go_wp2_with fail;refine HC1.mono ?_;clear x7 x8 y0 y1;rintro e W3 ⟨rfl,hg3⟩;have HG3:=dD (HG2.trans hg3);have x0:=(X2.grew hg3).c 0 rfl;have y2:=(Y2.grew hg3).c 2 rfl;clear hg3
   go_wp2_with (go_at_call 83;refine(HBL _).mono ?_;rintro e w' ⟨rfl,rfl⟩)
   go_ret;exact⟨rfl,HG3⟩
  | true=>
   rw[hb]at HBL;rw[kF (by simp)]
   obtain⟨g0,g1⟩:=Jq.1 hb;clear hb;obtain⟨cf,ci,cr⟩:=c;simp only at g0 g1 HBL HC1 HG2 Y2 y0 y1⊢;obtain⟨k,rfl⟩:∃k:Nat,cr=(k:Int):=⟨cr.toNat,by omega⟩
   have hkn:k<V.f.n:=by omega
   obtain⟨q,HQ⟩:∃q,Xp (m.fs[k]? =Xa q):=⟨_,gE (by rw[HF.out];exact hkn)⟩
   have hfr:z8 m (k:Int)=q:=by unfold z8;rw[tN,gD,HQ.out];rfl
   rw[hfr];clear hfr;obtain⟨ad,hva,hl⟩:=HR.out k q HQ.out;have HL:Xp (∀W,zc w W->ZQ W (ad.add (k*13)) q):=hl;have HVA:Xp (V.f.a=Xa ad):=hva;clear hl hva;obtain⟨Z,HZ⟩:=kA (if q.r=0\/q.f≠cf\/q.x≠ci then(7:Int)else 0);rw[HZ.out]
   go_enter func158,ntmps158
   go_upto_region 1 with fail;rw[HW2.out];go_wp2_with fail;refine HC1.mono ?_;clear x7 x8 y0 y1;rintro e W3 ⟨rfl,hg3⟩;have HG3:=dD (HG2.trans hg3);have X3:=dD (X2.grew hg3);have Y3:=dD (Y2.grew hg3);have HS3:Xp (w.heap.size+1+1<=W3.heap.size):=show _<=_ by rw[<-HS2.out];exact bS hg3
   clear hg3;have x0:=X3.c 0 rfl;have y2:=Y3.c 2 rfl
   go_upto_region 3 with(go_at_call 83;refine(HBL _).mono ?_;rintro e w' ⟨rfl,hw'⟩;rw[hw'];clear hw' w')
   (try simp only[Sli.x]at x0);rw[HVA.out]at x0;obtain⟨d0,d1,d2,d3,d4,d5,d6,d7,d8,d9,d10,d11,d12⟩:=HL.out W3 HG3.out;go_upto_region 4 with fail;obtain⟨W4,hW4⟩:=kB (W3.alloc (Xk #[U8 q.p.b0,U8 q.p.b1,U8 q.p.b2,U8 q.p.b3,U8 q.p.b4,U8 q.p.b5,U8 q.p.b6,U8 q.p.b7,I6 q.r,Xh q.u,Xh q.d,I6 q.f,I6 q.x] 53));have HG4:=gT hW4 HG3
   have F4:Box W4 W3.heap.size [U8 q.p.b0,U8 q.p.b1,U8 q.p.b2,U8 q.p.b3,U8 q.p.b4,U8 q.p.b5,U8 q.p.b6,U8 q.p.b7,I6 q.r,Xh q.u,Xh q.d,I6 q.f,I6 q.x]:=by rw[<-hW4];exact Box.top _ _ _ rfl
   have Y4:Box W4 (w.heap.size+1) [I6 cf,I6 ci,I6 (k:Int)]:=by rw[<-hW4];exact Y3.alloc _
   rw[hW4];clear hW4 x0 y2 d0 d1 d2 d3 d4 d5 d6 d7 d8 d9 d10 d11 d12;have f8:=F4.c 8 rfl;have f11:=F4.c 11 rfl;have f12:=F4.c 12 rfl;have y0:=Y4.c 0 rfl;have y1:=Y4.c 1 rfl
   by_cases h1:q.r=0
   ·have h1e:(q.r == 0)=Xc:=by simp[h1]
    have HE:Xp (Z=7):=dD<|by rw[<-HZ.out,kE (.inl h1)]
    clear h1;go_wp2;go_ret;exact⟨by rw[HE.out];rfl,HG4⟩
   have h1e:(q.r == 0)=Xd:=by simp[h1]
   by_cases h2:q.f=cf
   ·have h2e:(q.f != cf)=Xd:=by simp[h2]
    by_cases h3:q.x=ci
    ·have h3e:(q.x != ci)=Xd:=by simp[h3]
     have HE:Xp (Z=0):=dD<|by rw[<-HZ.out,kF (by simp[h1,h2,h3])]
     clear h1 h2 h3;go_wp2;go_ret;exact⟨by rw[HE.out];rfl,HG4⟩
    have h3e:(q.x != ci)=Xc:=by simp[h3]
    have HE:Xp (Z=7):=dD<|by rw[<-HZ.out,kE (.inr (.inr h3))]
    clear h1 h2 h3;go_wp2;go_ret;exact⟨by rw[HE.out];rfl,HG4⟩
   have h2e:(q.f != cf)=Xc:=by simp[h2]
   have HE:Xp (Z=7):=dD<|by rw[<-HZ.out,kE (.inr (.inl h2))]
   clear h1 h2;go_wp2;go_ret;exact⟨by rw[HE.out];rfl,HG4⟩
theorem zdB (V:MaV) (m:Ma) (w:Xo) (hm:zN w V m) (hc1:∀W,zc w W->Xq prog 152 #[Xi #[V.f.x,I6 m.hand]] W fun e w'=>e= Xl (I6 (ZR m.fs m.hand))/\zc W w'):
  Xq prog 111 #[Xi (mL V m).toArray] w fun e w'=>e= Xl (I6 (zu (Zq m)))/\zc w w':=by
 obtain⟨n1,n2,n3,n4,n5,n6,n7,-⟩:=hm.ns;have HC1:Xp (∀W,zc w W->Xq prog 152 #[Xi #[V.f.x,I6 m.hand]] W fun e w'=>e= Xl (I6 (ZR m.fs m.hand))/\zc W w'):=dD<|hc1
 have HC2:Xp (∀W,zc w W->Xq prog 153 #[V.s.x] W fun e w'=>e= Xl (I6 (slW m.sl))/\zc W w'):=dD<|fun W hW=>by
  have h:=(hm.grew hW).sl;(try simp only[Sli.x]at h⊢);rw[n2]at h⊢;exact zc4 _ _ m.sl W h
 have HC3:Xp (∀W,zc w W->Xq prog 154 #[Xi #[V.sb.x,V.sq.x]] W fun e w'=>e= Xl (I6 (zJ m.sb.length m.sq))/\zc W w'):=dD<|fun W hW=>by
  have h:=(hm.grew hW).sq;rw[<-n3];exact zaf _ _ _ _ m.sq W h
 have HC4:Xp (∀W,zc w W->Xq prog 154 #[Xi #[V.db.x,V.dq.x]] W fun e w'=>e= Xl (I6 (zJ m.db.length m.dq))/\zc W w'):=dD<|fun W hW=>by
  have h:=(hm.grew hW).dq;rw[<-n5];exact zaf _ _ _ _ m.dq W h
 have HC5:Xp (∀W,zc w W->Xq prog 155 #[Xi #[V.fl.x,I6 m.cnt]] W fun e w'=>e= Xl (I6 (stW m.fl m.cnt))/\zc W w'):=dD<|fun W hW=>zbJ _ m.fl m.cnt W (hm.grew hW).fl
 clear n1 n2 n3 n4 n5 n6 n7 hm hc1;obtain⟨W0,hW0⟩:=kB (w.alloc (Xk (mL V m).toArray 41));have HG0:=gA hW0
 have X0:=xA hW0
 have HW0:Xp (_=W0):=hW0;clear hW0;unfold Zq
 go_enter func111,ntmps111
 go_upto_region 1 with fail;rw[HW0.out];have hx0:=X0.gw 0 rfl
 have hx1:=X0.gw 1 rfl
 have hx2:=X0.gw 2 rfl
 have hx3:=X0.gw 3 rfl
 have hx4:=X0.gw 4 rfl
 have hx5:=X0.gw 5 rfl
 have hx6:=X0.gw 6 rfl
 have hx7:=X0.gw 7 rfl
 have hx8:=X0.gw 8 rfl
 have hne:Nonempty (zn W0):=⟨⟨_,zc.refl _⟩⟩;refine ji [(2,⟨fun v=>v=I6 (ZR m.fs m.hand),fun v w'=>True⟩),(5,⟨fun v=>v=I6 (slW m.sl),fun v w'=>True⟩),(8,⟨fun v=>v=I6 (zJ m.sb.length m.sq),fun v w'=>True⟩),(11,⟨fun v=>v=I6 (zJ m.db.length m.dq),fun v w'=>True⟩),(14,⟨fun v=>v=I6 (stW m.fl m.cnt),fun v w'=>True⟩),(15,⟨fun v=>∃g,v= O (Xa ⟨g,0,Xb⟩) 5 5,fun v w'=>zm zi9 w' v [ZR m.fs m.hand,slW m.sl,zJ m.sb.length m.sq,zJ m.db.length m.dq,stW m.fl m.cnt]⟩),(16,⟨fun v=>v=I6 (zu [ZR m.fs m.hand,slW m.sl,zJ m.sb.length m.sq,zJ m.db.length m.dq,stW m.fl m.cnt]),fun v w'=>True⟩)] zW (by kernel_rfl) ?hS ?hp ?_
 case hS=>
  intro x hx;simp only[mC,nM,or_false]at hx
  rcases hx with rfl|rfl|rfl|rfl|rfl|rfl|rfl
  ·exact⟨_,rfl⟩
  ·exact⟨_,rfl⟩
  ·exact⟨_,rfl⟩
  ·exact⟨_,rfl⟩
  ·exact⟨_,rfl⟩
  ·exact⟨_,0,rfl⟩
  exact⟨_,rfl⟩
 case hp=>
  intro x hx;simp only[mC,nM,or_false]at hx
  rcases hx with rfl|rfl|rfl|rfl|rfl|rfl|rfl
  ·exact fun _ _ _ _ h=>h
  ·exact fun _ _ _ _ h=>h
  ·exact fun _ _ _ _ h=>h
  ·exact fun _ _ _ _ h=>h
  ·exact fun _ _ _ _ h=>h
  ·exact fun _ _ _ hg h=>zm.grew h hg
  exact fun _ _ _ _ h=>h
 iterate 2 (refine zd rfl rfl rfl (fun K hK=>?_);go_big_quiet_op;refine hK _ ?_;clear hK)
 refine zE rfl rfl (fun w' hg hF=>?_) (fun v1 hv=>?_)
 ·refine zQ.call [Xi #[V.f.x,I6 m.hand]] rfl func152 rfl rfl rfl ?_;refine(HC1 w' (HG0.trans hg)).mono ?_;rintro e w'' ⟨rfl,hg2⟩;exact⟨_,rfl,hg2,rfl,trivial⟩
 subst hv;simp only[Xv,sB,sS,sZ];iterate 2 (refine zd rfl rfl rfl (fun K hK=>?_);go_big_quiet_op;refine hK _ ?_;clear hK)
 refine zE rfl rfl (fun w' hg hF=>?_) (fun v1 hv=>?_)
 ·refine zQ.call [V.s.x] rfl func153 rfl rfl rfl ?_;refine(HC2 w' (HG0.trans hg)).mono ?_;rintro e w'' ⟨rfl,hg2⟩;exact⟨_,rfl,hg2,rfl,trivial⟩
 subst hv;simp only[Xv,sB,sS,sZ];iterate 2 (refine zd rfl rfl rfl (fun K hK=>?_);go_big_quiet_op;refine hK _ ?_;clear hK)
 refine zE rfl rfl (fun w' hg hF=>?_) (fun v1 hv=>?_)
 ·refine zQ.call [Xi #[V.sb.x,V.sq.x]] rfl func154 rfl rfl rfl ?_;refine(HC3 w' (HG0.trans hg)).mono ?_;rintro e w'' ⟨rfl,hg2⟩;exact⟨_,rfl,hg2,rfl,trivial⟩
 subst hv;simp only[Xv,sB,sS,sZ];iterate 2 (refine zd rfl rfl rfl (fun K hK=>?_);go_big_quiet_op;refine hK _ ?_;clear hK)
 refine zE rfl rfl (fun w' hg hF=>?_) (fun v1 hv=>?_)
 ·refine zQ.call [Xi #[V.db.x,V.dq.x]] rfl func154 rfl rfl rfl ?_;refine(HC4 w' (HG0.trans hg)).mono ?_;rintro e w'' ⟨rfl,hg2⟩;exact⟨_,rfl,hg2,rfl,trivial⟩
 subst hv;simp only[Xv,sB,sS,sZ];iterate 2 (refine zd rfl rfl rfl (fun K hK=>?_);go_big_quiet_op;refine hK _ ?_;clear hK)
 refine zE rfl rfl (fun w' hg hF=>?_) (fun v1 hv=>?_)
 ·refine zQ.call [Xi #[V.fl.x,I6 m.cnt]] rfl func155 rfl rfl rfl ?_;refine(HC5 w' (HG0.trans hg)).mono ?_;rintro e w'' ⟨rfl,hg2⟩;exact⟨_,rfl,hg2,rfl,trivial⟩
 subst hv;simp only[Xv,sB,sS,sZ];refine zE rfl rfl (fun w' hg hF=>?_) (fun v1 hv=>?_)
 ·have hnew:zm zi9 (w'.alloc (Xk #[I6 (ZR m.fs m.hand),I6 (slW m.sl),I6 (zJ m.sb.length m.sq),I6 (zJ m.db.length m.dq),I6 (stW m.fl m.cnt)] 45)) (O (Xa ⟨w'.heap.size,0,Xb⟩) 5 5) [ZR m.fs m.hand,slW m.sl,zJ m.sb.length m.sq,zJ m.db.length m.dq,stW m.fl m.cnt]:=zdO zi9 w' [ZR m.fs m.hand,slW m.sl,zJ m.sb.length m.sq,zJ m.db.length m.dq,stW m.fl m.cnt] _ rfl (show 5*8<=140737488355328 by decide)
  refine zQ.step (v:= O (Xa ⟨w'.heap.size,0,Xb⟩) 5 5) (w':=w'.alloc (Xk #[I6 (ZR m.fs m.hand),I6 (slW m.sl),I6 (zJ m.sb.length m.sq),I6 (zJ m.db.length m.dq),I6 (stW m.fl m.cnt)] 45)) (by simp only[execOp];go_simp) ⟨za _ _,⟨_,rfl⟩,hnew⟩
 obtain⟨g15,rfl⟩:=hv;simp only[Xv,sB,sS,sZ];refine zE rfl rfl (fun w' hg hF=>?_) (fun v1 hv=>?_)
 ·have h15:zm zi9 w' (O (Xa ⟨g15,0,Xb⟩) 5 5) [ZR m.fs m.hand,slW m.sl,zJ m.sb.length m.sq,zJ m.db.length m.dq,stW m.fl m.cnt]:=hF 15 (by kernel_rfl)
  refine zQ.call [O (Xa ⟨g15,0,Xb⟩) 5 5] rfl func126 rfl rfl rfl ?_;refine(zb7 _ _ w' h15).mono ?_;rintro e w'' ⟨rfl,rfl⟩;exact⟨_,rfl,zc.refl _,rfl,trivial⟩
 subst hv;simp only[Xv,sB,sS,sZ];iterate 1 (refine zd rfl rfl rfl (fun K hK=>?_);go_big_quiet_op;refine hK _ ?_;clear hK)
 refine z6 fun W3 hg1 hF=>?_
 have G3:=dD (HG0.trans hg1);clear hg1 hF hx0 hx1 hx2 hx3 hx4 hx5 hx6 hx7 hx8 hne;go_wp2;go_ret;exact⟨rfl,G3⟩
theorem zdF (a:Ar) (w:Xo):Xq prog 218 #[Xi #[I6 a.fr,I6 a.tz,Xh a.rd,Xh a.wr,Xh a.sh,I6 a.file,I6 a.base]] w fun e w'=>e= Xl (I6 (arW a))/\zc w w':=by
 obtain⟨fr,tz,rd,wr,sh,file,base⟩:=a
 by_cases c1:fr<0
 ·have hz:arW ⟨fr,tz,rd,wr,sh,file,base⟩=3:=by unfold arW;simp only;rw[kE (by omega)]
  rw[hz];clear hz
  go_enter func218,ntmps218
  go_wp2;go_ret;exact⟨rfl,za _ _⟩
 by_cases c2:tz<=fr
 ·have hz:arW ⟨fr,tz,rd,wr,sh,file,base⟩=3:=by unfold arW;simp only;rw[kE (by omega)]
  rw[hz];clear hz
  go_enter func218,ntmps218
  go_wp2;go_ret;exact⟨rfl,za _ _⟩
 by_cases c3:64<tz
 ·have hz:arW ⟨fr,tz,rd,wr,sh,file,base⟩=3:=by unfold arW;simp only;rw[kE (by omega)]
  rw[hz];clear hz
  go_enter func218,ntmps218
  go_wp2;go_ret;exact⟨rfl,za _ _⟩
 by_cases c4:file< -1
 ·have hz:arW ⟨fr,tz,rd,wr,sh,file,base⟩=3:=by unfold arW;simp only;rw[kE (by omega)]
  rw[hz];clear hz
  go_enter func218,ntmps218
  go_wp2;go_ret;exact⟨rfl,za _ _⟩
 by_cases c5:5<=file
 ·have hz:arW ⟨fr,tz,rd,wr,sh,file,base⟩=3:=by unfold arW;simp only;rw[kE (by omega)]
  rw[hz];clear hz
  go_enter func218,ntmps218
  go_wp2;go_ret;exact⟨rfl,za _ _⟩
 by_cases c6:base<0
 ·have hz:arW ⟨fr,tz,rd,wr,sh,file,base⟩=3:=by unfold arW;simp only;rw[kE (by omega)]
  rw[hz];clear hz
  go_enter func218,ntmps218
  go_wp2;go_ret;exact⟨rfl,za _ _⟩
 have hn:¬(fr<0\/tz<=fr\/64<tz\/file< -1\/5<=file\/base<0):=by omega
 by_cases d1:file<0
 ·by_cases d2:base=0
  ·cases sh
   ·have hz:arW ⟨fr,tz,rd,wr,Xd,file,base⟩=0:=by unfold arW;simp only;rw[kF hn,kE d1,kF (by simp[d2])]
    rw[hz];clear hz;have d2e:(base != 0)=Xd:=by simp[d2]
    have d2g:¬0<base:=by omega
    clear d2 hn
    go_enter func218,ntmps218
    go_wp2;go_ret;exact⟨rfl,za _ _⟩
   have hz:arW ⟨fr,tz,rd,wr,Xc,file,base⟩=7:=by unfold arW;simp only;rw[kF hn,kE d1,kE (by simp)]
   rw[hz];clear hz;have d2e:(base != 0)=Xd:=by simp[d2]
   have d2g:¬0<base:=by omega
   clear d2 hn
   go_enter func218,ntmps218
   go_wp2;go_ret;exact⟨rfl,za _ _⟩
  have hz:arW ⟨fr,tz,rd,wr,sh,file,base⟩=7:=by unfold arW;simp only;rw[kF hn,kE d1,kE (by simp[d2])]
  rw[hz];clear hz;have d2e:(base != 0)=Xc:=by simp[d2]
  have d2g:0<base:=by omega
  clear d2 hn
  go_enter func218,ntmps218
  go_wp2;go_ret;exact⟨rfl,za _ _⟩
 by_cases d2:12 -(tz - fr)<base
 ·have hz:arW ⟨fr,tz,rd,wr,sh,file,base⟩=7:=by unfold arW;simp only;rw[kF hn,kF d1,kE d2]
  rw[hz];clear hz;clear hn
  go_enter func218,ntmps218
  go_wp2;go_ret;exact⟨rfl,za _ _⟩
 have hz:arW ⟨fr,tz,rd,wr,sh,file,base⟩=0:=by unfold arW;simp only;rw[kF hn,kF d1,kF d2]
 rw[hz];clear hz;clear hn
 go_enter func218,ntmps218
 go_wp2;go_ret;exact⟨rfl,za _ _⟩
theorem QS (a:Ar) (w:Xo):Xq prog 128 #[Xi #[I6 a.fr,I6 a.tz,Xh a.rd,Xh a.wr,Xh a.sh,I6 a.file,I6 a.base]] w fun e w'=>e= Xl (I6 (arW a))/\zc w w':=by
 obtain⟨fr,tz,rd,wr,sh,file,base⟩:=a
 by_cases c1:fr<0
 ·have hz:arW ⟨fr,tz,rd,wr,sh,file,base⟩=3:=by unfold arW;simp only;rw[kE (by omega)]
  rw[hz];clear hz
  go_enter func128,ntmps128
  go_wp2;go_ret;exact⟨rfl,za _ _⟩
 by_cases c3:64<tz
 ·have hz:arW ⟨fr,tz,rd,wr,sh,file,base⟩=3:=by unfold arW;simp only;rw[kE (by omega)]
  rw[hz];clear hz
  go_enter func128,ntmps128
  go_wp2;go_ret;exact⟨rfl,za _ _⟩
 by_cases c2:tz<=fr
 ·have hz:arW ⟨fr,tz,rd,wr,sh,file,base⟩=3:=by unfold arW;simp only;rw[kE (by omega)]
  rw[hz];clear hz
  go_enter func128,ntmps128
  go_wp2;go_ret;exact⟨rfl,za _ _⟩
 by_cases c4:file< -1
 ·have hz:arW ⟨fr,tz,rd,wr,sh,file,base⟩=3:=by unfold arW;simp only;rw[kE (by omega)]
  rw[hz];clear hz
  go_enter func128,ntmps128
  go_wp2;go_ret;exact⟨rfl,za _ _⟩
 by_cases c5:4<file
 ·have hz:arW ⟨fr,tz,rd,wr,sh,file,base⟩=3:=by unfold arW;simp only;rw[kE (by omega)]
  rw[hz];clear hz
  go_enter func128,ntmps128
  go_wp2;go_ret;exact⟨rfl,za _ _⟩
 by_cases c6:base<0
 ·have hz:arW ⟨fr,tz,rd,wr,sh,file,base⟩=3:=by unfold arW;simp only;rw[kE (by omega)]
  rw[hz];clear hz
  go_enter func128,ntmps128
  go_wp2;go_ret;exact⟨rfl,za _ _⟩
 have hn:¬(fr<0\/tz<=fr\/64<tz\/file< -1\/5<=file\/base<0):=by omega
 by_cases d1:file<0
 ·by_cases d2:base=0
  ·cases sh
   ·have hz:arW ⟨fr,tz,rd,wr,Xd,file,base⟩=0:=by unfold arW;simp only;rw[kF hn,kE d1,kF (by simp[d2])]
    rw[hz];clear hz;have d1e:(file == -1)=Xc:=by simp;omega
    have d1n:¬0<=file:=by omega
    have d2e:(base != 0)=Xd:=by simp[d2]
    have d2g:¬0<base:=by omega
    clear d2 hn
    go_enter func128,ntmps128
    go_wp2;go_ret;exact⟨rfl,za _ _⟩
   have hz:arW ⟨fr,tz,rd,wr,Xc,file,base⟩=7:=by unfold arW;simp only;rw[kF hn,kE d1,kE (by simp)]
   rw[hz];clear hz;have d1e:(file == -1)=Xc:=by simp;omega
   have d1n:¬0<=file:=by omega
   have d2e:(base != 0)=Xd:=by simp[d2]
   have d2g:¬0<base:=by omega
   clear d2 hn
   go_enter func128,ntmps128
   go_wp2;go_ret;exact⟨rfl,za _ _⟩
  have hz:arW ⟨fr,tz,rd,wr,sh,file,base⟩=7:=by unfold arW;simp only;rw[kF hn,kE d1,kE (by simp[d2])]
  rw[hz];clear hz;have d1e:(file == -1)=Xc:=by simp;omega
  have d1n:¬0<=file:=by omega
  have d2e:(base != 0)=Xc:=by simp[d2]
  have d2g:0<base:=by omega
  clear d2 hn
  go_enter func128,ntmps128
  go_wp2;go_ret;exact⟨rfl,za _ _⟩
 by_cases d2:12 -(tz - fr)<base
 ·have hz:arW ⟨fr,tz,rd,wr,sh,file,base⟩=7:=by unfold arW;simp only;rw[kF hn,kF d1,kE d2]
  rw[hz];clear hz;have d1e:(file == -1)=Xd:=by simp;omega
  have d1n:0<=file:=by omega
  clear hn
  go_enter func128,ntmps128
  go_wp2;go_ret;exact⟨rfl,za _ _⟩
 have hz:arW ⟨fr,tz,rd,wr,sh,file,base⟩=0:=by unfold arW;simp only;rw[kF hn,kF d1,kF d2]
 rw[hz];clear hz;have d1e:(file == -1)=Xd:=by simp;omega
 have d1n:0<=file:=by omega
 clear hn
 go_enter func128,ntmps128
 go_wp2;go_ret;exact⟨rfl,za _ _⟩
def Zx (a:Ar) (n:Int):Ar:={ a with fr:=n,base:=if 0<=a.file then a.base+(n - a.fr)else a.base }
theorem zi3 (a:Ar) (n:Int) (w:Xo) (ha:jA a) (hn:0<=n/\n<=64):Xq prog 234 #[Xi #[I6 a.fr,I6 a.tz,Xh a.rd,Xh a.wr,Xh a.sh,I6 a.file,I6 a.base],I6 n] w fun e w'=>e= Xl (arA (Zx a n))/\zc w w':=by
 have HA:Xp (jA a):=ha;unfold jA at ha;obtain⟨h1,h2,h3,h4,h5,h6,h7,h8⟩:=ha;obtain⟨fr,tz,rd,wr,sh,file,base⟩:=a;simp only at h1 h2 h3 h4 h5 h6 h7 h8⊢;have hb:base<=12:=by
  by_cases h:0<=file
  ·have:=h8 h;omega
  have:=h7 (by omega);omega
 clear h7 h8;obtain⟨n1,n2⟩:=hn;obtain⟨W0,hW0⟩:=kB ((w.alloc (Xk #[I6 fr,.int .i64 tz,Xh rd,Xh wr,Xh sh,I6 file,I6 base] 91)).alloc (Xk #[I6 0,I6 0,Xh Xd,Xh Xd,Xh Xd,I6 0,I6 0] 91));have HG0:=gD2 hW0
 have X0:=x2a hW0
 have Y0:=x2b hW0
 have HW0:Xp (_=W0):=hW0;clear hW0
 by_cases hf:0<=file
 ·have HR:Xp (Zx ⟨fr,tz,rd,wr,sh,file,base⟩ n=⟨n,tz,rd,wr,sh,file,base+(n - fr)⟩):=dD<|by unfold Zx;simp only;rw[kE hf]
  go_enter func234,ntmps234
  go_upto_region 1 with fail;rw[HW0.out];have x0:=X0.c 0 rfl;have x5:=X0.c 5 rfl;have x6:=X0.c 6 rfl;have xf:=X0.f;go_upto_region 4 with fail;obtain⟨W1,hW1⟩:=kB ((W0.setCell ⟨w.heap.size,6,Xb⟩ (I6 (base+(n - fr)))).setCell ⟨w.heap.size,0,Xb⟩ (I6 n));have X1:Xp (Box W1 w.heap.size [I6 n,.int .i64 tz,Xh rd,Xh wr,Xh sh,I6 file,I6 (base+(n - fr))]):=dD<|by rw[<-hW1];exact(X0.set 6 _).set 0 _
  have Y1:Xp (Box W1 (w.heap.size+1) [I6 0,I6 0,Xh Xd,Xh Xd,Xh Xd,I6 0,I6 0]):=dD<|by rw[<-hW1];exact(Y0.other (by simp) _).other (by simp) _
  have HG1:Xp (zc w W1):=dD<|by rw[<-hW1];exact zz (zz HG0 (by simp) _) (by simp) _
  rw[hW1];clear hW1 x0 x5 x6 xf
  go_wp2_with (first | refine zR rfl 91 (.tmp 2) rfl w.heap.size rfl X1 underlying91 rfl zox ?_ | refine zK rfl 91 (.tmp 4) (.tmp 18) rfl (w.heap.size+1) rfl _ rfl Y1 rfl zox (arE.one ⟨n,tz,rd,wr,sh,file,base+(n - fr)⟩) ?_)
  intro W2 b2 g2 s2;have G2:Xp (zc w W2):=ze HG1 g2 (by simp)
  have B2:Xp (Box W2 (w.heap.size+1) [I6 n,.int .i64 tz,Xh rd,Xh wr,Xh sh,I6 file,I6 (base+(n - fr))]):=b2;clear b2 g2 s2;go_wp2;refine bodyPost_ret (zZ rfl _ rfl B2 underlying91 rfl zox) rfl ⟨by rw[HR.out];rfl,G2⟩
 have HR:Xp (Zx ⟨fr,tz,rd,wr,sh,file,base⟩ n=⟨n,tz,rd,wr,sh,file,base⟩):=dD<|by unfold Zx;simp only;rw[kF hf]
 go_enter func234,ntmps234
 go_upto_region 1 with fail;rw[HW0.out];have x0:=X0.c 0 rfl;have x5:=X0.c 5 rfl;have xf:=X0.f;go_upto_region 4 with fail;obtain⟨W1,hW1⟩:=kB (W0.setCell ⟨w.heap.size,0,Xb⟩ (I6 n));have X1:Xp (Box W1 w.heap.size [I6 n,.int .i64 tz,Xh rd,Xh wr,Xh sh,I6 file,I6 base]):=dD<|by rw[<-hW1];exact X0.set 0 _
 have Y1:Xp (Box W1 (w.heap.size+1) [I6 0,I6 0,Xh Xd,Xh Xd,Xh Xd,I6 0,I6 0]):=dD<|by rw[<-hW1];exact Y0.other (by simp) _
 have HG1:Xp (zc w W1):=dD<|by rw[<-hW1];exact zz HG0 (by simp) _
 rw[hW1];clear hW1 x0 x5 xf
 go_wp2_with (first | refine zR rfl 91 (.tmp 2) rfl w.heap.size rfl X1 underlying91 rfl zox ?_ | refine zK rfl 91 (.tmp 4) (.tmp 18) rfl (w.heap.size+1) rfl _ rfl Y1 rfl zox (arE.one ⟨n,tz,rd,wr,sh,file,base⟩) ?_)
 intro W2 b2 g2 s2;have G2:Xp (zc w W2):=ze HG1 g2 (by simp)
 have B2:Xp (Box W2 (w.heap.size+1) [I6 n,.int .i64 tz,Xh rd,Xh wr,Xh sh,I6 file,I6 base]):=b2;clear b2 g2 s2;go_wp2;refine bodyPost_ret (zZ rfl _ rfl B2 underlying91 rfl zox) rfl ⟨by rw[HR.out];rfl,G2⟩
def zmz (a b:Ar):Bool:=(a.fr == b.fr) &&(a.tz == b.tz) &&(a.rd == b.rd) &&(a.wr == b.wr) &&(a.sh == b.sh) &&(a.file == b.file) &&(a.base == b.base)
theorem zoc (x0 y0:Int) (x1 y1:Int) (x2 y2:Bool) (x3 y3:Bool) (x4 y4:Bool) (x5 y5:Int) (x6 y6:Int) (w:Xo):(Op.equalIn 10000 91 (Xi #[I6 x0,I6 x1,Xh x2,Xh x3,Xh x4,I6 x5,I6 x6]) (Xi #[I6 y0,I6 y1,Xh y2,Xh y3,Xh y4,I6 y5,I6 y6])).run prog w= .ok (zmz ⟨x0,x1,x2,x3,x4,x5,x6⟩ ⟨y0,y1,y2,y3,y4,y5,y6⟩) w:=by
 have hf : (Tryz.prog.fieldsOf 91).toList.map (fun f => (f.name, f.type, f.offset)) = [("From", 3, 0), ("To", 3, 1), ("Read", 4, 2), ("Write", 4, 3), ("Shared", 4, 4), ("File", 3, 5), ("Base", 3, 6)] := by kernel_rfl
 rw[run_equalIn_struct w 9999 91 _ _ (by kernel_rfl) (by kernel_rfl)]
 obtain⟨f0,f1,f2,f3,f4,f5,f6,hfs⟩:∃f0 f1 f2 f3 f4 f5 f6,(Tryz.prog.fieldsOf 91).toList=[f0,f1,f2,f3,f4,f5,f6]:=by
  have hl:(Tryz.prog.fieldsOf 91).toList.length=7:=by have:=congrArg List.length hf;simpa using this
  match hq:(Tryz.prog.fieldsOf 91).toList,hl with
  | [f0,f1,f2,f3,f4,f5,f6],_=>exact⟨f0,f1,f2,f3,f4,f5,f6,rfl⟩
 rw[hfs]at hf⊢
 simp at hf
 obtain⟨⟨n0,t0,o0⟩,⟨n1,t1,o1⟩,⟨n2,t2,o2⟩,⟨n3,t3,o3⟩,⟨n4,t4,o4⟩,⟨n5,t5,o5⟩,⟨n6,t6,o6⟩⟩:=hf;have pI:∀(zs:Array Xr) (o:Nat) v,zs[o]? =Xa (I6 v)->(part 3 zs o).run prog w= .ok (I6 v) w:=fun zs o v hz=>run_part_plain w (by simp[Program.plainKey,underlying3]) hz
 have pB:∀(zs:Array Xr) (o:Nat) v,zs[o]? =Xa (Xh v)->(part 4 zs o).run prog w= .ok (Xh v) w:=fun zs o v hz=>run_part_plain w (by simp[Program.plainKey,underlying4]) hz
 simp only[Op.eqFields,n0,t0,o0,n1,t1,o1,n2,t2,o2,n3,t3,o3,n4,t4,o4,n5,t5,o5,n6,t6,o6]
 simp[pI,pB,run_equalIn_bool' w _ _ _ _ underlying4,run_equalIn_int w _ _ _ _ _ _ underlying3]
 unfold zmz;simp only
 by_cases e0:x0=y0
 case neg=>simp[e0]
 subst e0
 by_cases e1:x1=y1
 case neg=>simp[e1]
 subst e1
 by_cases e2:x2=y2
 case neg=>simp[e2]
 subst e2
 by_cases e3:x3=y3
 case neg=>simp[e3]
 subst e3
 by_cases e4:x4=y4
 case neg=>simp[e4]
 subst e4
 by_cases e5:x5=y5
 case neg=>simp[e5]
 subst e5
 by_cases e6:x6=y6
 case neg=>simp[e6]
 subst e6;simp
def zlx (a b:On):Bool:=(a.is == b.is) &&(a.rd == b.rd) &&(a.wr == b.wr) &&(a.sh == b.sh) &&(a.file == b.file) &&(a.page == b.page)
theorem znP (x0 y0:Bool) (x1 y1:Bool) (x2 y2:Bool) (x3 y3:Bool) (x4 y4:Int) (x5 y5:Int) (w:Xo):(Op.equalIn 10000 67 (Xi #[Xh x0,Xh x1,Xh x2,Xh x3,I6 x4,I6 x5]) (Xi #[Xh y0,Xh y1,Xh y2,Xh y3,I6 y4,I6 y5])).run prog w= .ok (zlx ⟨x0,x1,x2,x3,x4,x5⟩ ⟨y0,y1,y2,y3,y4,y5⟩) w:=by
 have hf : (Tryz.prog.fieldsOf 67).toList.map (fun f => (f.name, f.type, f.offset)) = [("Some", 4, 0), ("Read", 4, 1), ("Write", 4, 2), ("Shared", 4, 3), ("File", 3, 4), ("Page", 3, 5)] := by kernel_rfl
 rw[run_equalIn_struct w 9999 67 _ _ (by kernel_rfl) (by kernel_rfl)]
 obtain⟨f0,f1,f2,f3,f4,f5,hfs⟩:∃f0 f1 f2 f3 f4 f5,(Tryz.prog.fieldsOf 67).toList=[f0,f1,f2,f3,f4,f5]:=by
  have hl:(Tryz.prog.fieldsOf 67).toList.length=6:=by have:=congrArg List.length hf;simpa using this
  match hq:(Tryz.prog.fieldsOf 67).toList,hl with
  | [f0,f1,f2,f3,f4,f5],_=>exact⟨f0,f1,f2,f3,f4,f5,rfl⟩
 rw[hfs]at hf⊢
 simp at hf
 obtain⟨⟨n0,t0,o0⟩,⟨n1,t1,o1⟩,⟨n2,t2,o2⟩,⟨n3,t3,o3⟩,⟨n4,t4,o4⟩,⟨n5,t5,o5⟩⟩:=hf;have pI:∀(zs:Array Xr) (o:Nat) v,zs[o]? =Xa (I6 v)->(part 3 zs o).run prog w= .ok (I6 v) w:=fun zs o v hz=>run_part_plain w (by simp[Program.plainKey,underlying3]) hz
 have pB:∀(zs:Array Xr) (o:Nat) v,zs[o]? =Xa (Xh v)->(part 4 zs o).run prog w= .ok (Xh v) w:=fun zs o v hz=>run_part_plain w (by simp[Program.plainKey,underlying4]) hz
 simp only[Op.eqFields,n0,t0,o0,n1,t1,o1,n2,t2,o2,n3,t3,o3,n4,t4,o4,n5,t5,o5]
 simp[pI,pB,run_equalIn_bool' w _ _ _ _ underlying4,run_equalIn_int w _ _ _ _ _ _ underlying3]
 unfold zlx;simp only
 by_cases e0:x0=y0
 case neg=>simp[e0]
 subst e0
 by_cases e1:x1=y1
 case neg=>simp[e1]
 subst e1
 by_cases e2:x2=y2
 case neg=>simp[e2]
 subst e2
 by_cases e3:x3=y3
 case neg=>simp[e3]
 subst e3
 by_cases e4:x4=y4
 case neg=>simp[e4]
 subst e4
 by_cases e5:x5=y5
 case neg=>simp[e5]
 subst e5;simp
theorem znh {a b:Ar}:zmz a ⟨b.tz,a.tz,b.rd,b.wr,b.sh,b.file,(Zx b b.tz).base⟩=goB a b:=by
 unfold zmz goB Zx;simp only[beq_self_eq_true,Bool.and_true];have hd:∀x y:Int,(x == y)=decide (x=y):=fun x y=>rfl
 simp only[hd]
theorem zfT (a:Ar) (n:Int):arA (Zx a n)= Xi #[I6 n,I6 a.tz,Xh a.rd,Xh a.wr,Xh a.sh,I6 a.file,I6 (Zx a n).base]:=rfl
theorem ziv (a b:Ar) (w:Xo) (hbk:jA b):Xq prog 219 #[Xi #[I6 a.fr,I6 a.tz,Xh a.rd,Xh a.wr,Xh a.sh,I6 a.file,I6 a.base],Xi #[I6 b.fr,I6 b.tz,Xh b.rd,Xh b.wr,Xh b.sh,I6 b.file,I6 b.base]] w fun e w'=>e= Xl (Xh (goB a b))/\zc w w':=by
 have hb:∀W,Xq prog 234 #[Xi #[I6 b.fr,I6 b.tz,Xh b.rd,Xh b.wr,Xh b.sh,I6 b.file,I6 b.base],I6 b.tz] W fun e w'=>e= Xl (arA (Zx b b.tz))/\zc W w':=fun W=>zi3 b b.tz W hbk (by have:=hbk;unfold jA at this;omega)
 have hq:=fun W=>zoc a.fr b.tz a.tz a.tz a.rd b.rd a.wr b.wr a.sh b.sh a.file b.file a.base (Zx b b.tz).base W
 have he:=znh (a:=a) (b:=b);rw[show(⟨a.fr,a.tz,a.rd,a.wr,a.sh,a.file,a.base⟩:Ar)=a from rfl]at hq
 rw[he]at hq;rw[zfT]at hb
 generalize(Zx b b.tz).base=nb at hb hq
 clear he hbk
 generalize goB a b=R at hq⊢
 obtain⟨W0,hW0⟩:=kB ((w.alloc (Xk #[I6 a.fr,I6 a.tz,Xh a.rd,Xh a.wr,Xh a.sh,I6 a.file,I6 a.base] 91)).alloc (Xk #[I6 b.fr,I6 b.tz,Xh b.rd,Xh b.wr,Xh b.sh,I6 b.file,I6 b.base] 91));have HG0:=gD2 hW0
 have X0:=x2a hW0
 have Y0:=x2b hW0
 have HW0:Xp (_=W0):=hW0;clear hW0
 go_enter func219,ntmps219
 go_upto_region 1 with fail;rw[HW0.out];have y1:=Y0.c 1 rfl
 go_wp2_with (refine zR rfl 91 (.tmp 3) rfl (w.heap.size+1) rfl Y0 underlying91 rfl zox ?_)
 refine(hb _).mono ?_;rintro e W1 ⟨rfl,g1⟩;have G1:=dD (HG0.trans g1);have X1:=dD (X0.grew g1);clear g1 hb y1;obtain⟨p,HP⟩:=kA W1.heap.size;have HL:Xp (w.heap.size<p):=show _<_ by rw[<-HP.out];exact X1.lt
 go_upto_region 2 with fail;obtain⟨W2,hW2⟩:=kB (W1.alloc (Xk #[I6 b.tz,I6 b.tz,Xh b.rd,Xh b.wr,Xh b.sh,I6 b.file,I6 nb] 91));have G2:=gT hW2 G1
 have X2:=yA hW2 X1
 have Z2:=xP hW2 HP
 rw[hW2,HP.out];clear hW2;have x1:=X2.c 1 rfl;have z1:=Z2.c 1 rfl;have zf:=Z2.f;go_upto_region 3 with fail;obtain⟨W3,hW3⟩:=kB (W2.setCell ⟨p,1,Xb⟩ (I6 a.tz));have G3:Xp (zc w W3):=dD<|by rw[<-hW3];exact zz G2 (by have:=HL.out;simp;omega) _
 have X3:Xp (Box W3 w.heap.size [I6 a.fr,I6 a.tz,Xh a.rd,Xh a.wr,Xh a.sh,I6 a.file,I6 a.base]):=dD<|by rw[<-hW3];exact X2.other (by have:=HL.out;simp;omega) _
 have Z3:Xp (Box W3 p [I6 b.tz,I6 a.tz,Xh b.rd,Xh b.wr,Xh b.sh,I6 b.file,I6 nb]):=dD<|by rw[<-hW3];exact Z2.set 1 _
 rw[hW3];clear hW3 x1 z1 zf
 go_wp2_with (first | refine zR rfl 91 (.tmp 5) rfl p rfl Z3 underlying91 rfl zox ?_ | refine zR rfl 91 (.tmp 2) rfl w.heap.size rfl X3 underlying91 rfl zox ?_)
 go_ret;exact⟨rfl,G3⟩
def inZ (a:Ar) (n:Int):Bool:=decide (a.fr<=n) && decide (n<a.tz)
theorem znb (a:Ar) (n:Nat):inZ a (n:Int)=Zf a n:=rfl
def zbl (l:List Ar) (n z:Int):Prop:=(∃(k:Nat) (a:Ar),z=k/\l[k]? =Xa a/\inZ a n=Xc)\/(z=-1/\∀a∈l,inZ a n=Xd)
theorem zme {k:Nat} (h:zbl l k z):decide (0<=z)=(zO l k).is:=by
 rcases h with⟨j,a,rfl,h1,h2⟩|⟨rfl,h1⟩
 ·have:∀(m:List Ar),a∈m->(zO m k).is=Xc:=by
   intro m
   induction m with
   | nil=>intro hx;cases hx
   | cons c m ih=>
    intro hx
    by_cases hc:Zf c k=Xc
    ·rw[zO,kE hc];rfl
    rw[zO,kF hc]
    rcases mC.1 hx with e|hx
    ·rw[e,znb]at h2;exact absurd h2 hc
    exact ih hx
  rw[this l (mG h1)];simp
 rw[zas (fun a ha=>h1 a ha)]
 rfl
theorem zks (a:Ar) (n:Int) (p:Nat) (w:Xo) (hb:Box w p [I6 n]):
  Xq prog 133 #[Xi #[I6 a.fr,I6 a.tz,Xh a.rd,Xh a.wr,Xh a.sh,I6 a.file,I6 a.base],Xj (Xa ⟨p,0,Xb⟩)] w fun e w'=>e= Xl (Xh (inZ a n))/\zc w w':=by
 have H:Xp (inZ a n=(decide (a.fr<=n) && decide (n<a.tz))):=rfl;obtain⟨W0,hW0⟩:=kB (w.alloc (Xk #[I6 a.fr,I6 a.tz,Xh a.rd,Xh a.wr,Xh a.sh,I6 a.file,I6 a.base] 91));have HG0:=gA hW0
 have X0:=xA hW0
 have B0:Xp (Box W0 p [I6 n]):=dD<|by rw[<-hW0];exact hb.alloc _
 have HW0:Xp (_=W0):=hW0;clear hW0 hb
 by_cases h0:a.fr<=n
 ·by_cases h1:n<a.tz
  ·go_enter func133,ntmps133
   go_upto_region 1 with fail;rw[HW0.out];have x0:=X0.c 0 rfl;have x1:=X0.c 1 rfl;have b0:=B0.c 0 rfl;go_wp2;go_ret;exact⟨by rw[H.out];simp[*],HG0⟩
  go_enter func133,ntmps133
  go_upto_region 1 with fail;rw[HW0.out];have x0:=X0.c 0 rfl;have x1:=X0.c 1 rfl;have b0:=B0.c 0 rfl;go_wp2;go_ret;exact⟨by rw[H.out];simp[*],HG0⟩
 go_enter func133,ntmps133
 go_upto_region 1 with fail;rw[HW0.out];have x0:=X0.c 0 rfl;have x1:=X0.c 1 rfl;have b0:=B0.c 0 rfl;go_wp2;go_ret;exact⟨by rw[H.out];simp;omega,HG0⟩
theorem zeb (v:Xr) (l:List Ar) (m:Int) (p:Nat) (w:Xo) (hb:Box w p [I6 m]) (hv:zm arE w v l):
  Xq prog 132 #[v,.func (.func 133) #[] #[Xj (Xa ⟨p,0,Xb⟩)]] w fun e w'=>(∃z:Int,e= Xl (I6 z)/\zbl l m z)/\zc w w':=by
 have hbig:=hv.short;obtain⟨a,c,rfl,hrow⟩:=hv.ars;have HR:Xp (zbn w a l):=hrow;have HB:Xp (Box w p [I6 m]):=hb;have eg:=enters_of func133 (by kernel_rfl) rfl
 clear hrow hv hb;obtain⟨n,HN⟩:=kA l.length;rw[HN.out]at hbig⊢;obtain⟨ANS,HANS⟩:∃ANS:Int->Prop,Xp (∀z,zbl l m z=ANS z):=⟨zbl l m,fun _=>rfl⟩
 simp only[HANS.out]
 go_enter func132,ntmps132
 go_wp2
 go_loopg [5,8] n (fun gg _ s8 wr=>∃kk:Nat,kk<=n/\n - kk<=gg/\s8=I6 kk/\Xp (zc w wr)/\Xp (∀(j:Nat) (q:Ar),j<kk->l[j]? =Xa q->inZ q m=Xd))
 case atStart=>exact⟨0,nZ _,by omega,rfl,zc.refl w,fun j q hj=>absurd hj (nL _)⟩
 obtain⟨kk,hkk,hg,rfl,BW,A⟩:=hrel
 by_cases hlt:kk<n
 ·have hltz:=kC hlt
  obtain⟨q,HQ⟩:∃q,Xp (l[kk]? =Xa q):=⟨_,gE (by rw[HN.out];exact hlt)⟩
  obtain⟨ad,rfl,hl⟩:=HR.out kk q HQ.out;obtain⟨d0,d1,d2,d3,d4,d5,d6⟩:=hl wr BW.out;have hcall:=zks q m p wr (HB.grew BW);clear hl
  cases hq:inZ q m with
  | true=>
   rw[hq]at hcall;have HF:Xp (ANS (kk:Int)):=dD<|by
    rw[<-HANS.out];exact .inl ⟨kk,q,rfl,HQ,hq⟩
   clear hq;go_wp2_with fail;refine hcall.mono ?_;rintro e W2 ⟨rfl,g2⟩;have G2:=dD (BW.trans g2);clear g2 hcall d0 d1 d2 d3 d4 d5 d6;go_wp2;go_ret;exact⟨⟨_,rfl,HF⟩,G2⟩
  | false=>
   rw[hq]at hcall;have HA:Xp (∀(j:Nat) (q:Ar),j<kk+1->l[j]? =Xa q->inZ q m=Xd):=dD<|fun j q' hj hq'=>by
    by_cases e:j=kk
    ·subst e;rw[HQ.out]at hq';cases hq';exact hq
    exact A j q' (by omega) hq'
   clear hq;go_wp2_with fail;refine hcall.mono ?_;rintro e W2 ⟨rfl,g2⟩;have G2:=dD (BW.trans g2);clear g2 hcall d0 d1 d2 d3 d4 d5 d6;go_wp2
   go_roundg (n -(kk+1))
   case measure=>omega
   exact⟨kk+1,by omega,by omega,by go_num,G2,HA⟩
 have hltz:=kD hlt
 have:kk=n:=by omega
 subst this;have HF:Xp (ANS (-1:Int)):=dD<|by
  rw[<-HANS.out];refine .inr ⟨rfl,fun x hx=>?_⟩
  obtain⟨j,hj⟩:=List.getElem?_of_mem hx;exact A j x (by rw[<-HN.out];exact(gS.1 hj).1) hj
 go_wp2;go_ret;exact⟨⟨_,rfl,HF⟩,BW⟩
theorem zmf (v:Xr) (l:List Ar) (m:Int) (w:Xo) (hv:zm arE w v l):
  Xq prog 82 #[v,I6 m] w fun e w'=>(∃z:Int,e= Xl (I6 z)/\zbl l m z)/\zc w w':=by
 have hmf:∀(fn:Fn) (first cap:Array Xr) (w:Xo),(Instr.makeFunc fn first cap).run prog w= .ok (.func fn first cap) w:=fun _ _ _ _=>rfl
 have h1:Xq prog 132 #[v,.func (.func 133) #[] #[Xj (Xa ⟨w.heap.size,0,Xb⟩)]] (w.alloc (Xk #[I6 m] 3)) fun e w'=>(∃z:Int,e= Xl (I6 z)/\zbl l m z)/\zc (w.alloc (Xk #[I6 m] 3)) w':=zeb v l m _ _ (Box.top w _ _ rfl) (hv.grew (za _ _))
 obtain⟨a,c,rfl,_⟩:=hv.ars;clear hv
 generalize l.length=n at h1⊢
 go_enter func82,ntmps82
 go_wp2_with fail;refine h1.mono ?_;rintro e W1 ⟨⟨z,rfl,hz⟩,g1⟩;have G1:Xp (zc w W1):=(za _ _).trans g1;have HZ:Xp (zbl l m z):=hz;clear g1 h1 hz;go_wp2;go_ret;exact⟨⟨_,rfl,HZ⟩,G1⟩
def j5 (l:List Ar):Nat->Option Ar
 | 0=>Xb
 | k+1=>l[k]?
theorem zah (p:Option Ar) (a:Ar) (l:List Ar) (i:Nat):Ju p (a :: l) i=if arW a≠0 then(arW a,(i:Int))else match p with | some b=>if a.fr<b.tz\/goB a b=Xc then(2,(i:Int))else Ju (Xa a) l (i+1) | none=>Ju (Xa a) l (i+1):=by
 cases p <;> rfl
theorem zjg {k:Nat} {q:Ar} {r:Int × Int} (h:Ju (j5 l k) (l.drop k) k=r) (hq:l[k]? =Xa q) (hz:arW q≠0):r=(arW q,(k:Int)):=by
 rw[jP hq,zah,kE hz]at h;exact h.symm
theorem zeB {q:Ar} {r:Int × Int} (h:Ju (j5 l 0) (l.drop 0) 0=r) (hq:l[0]? =Xa q) (hz:arW q=0):Ju (j5 l 1) (l.drop 1) 1=r:=by
 rw[jP hq,zah,kF (fun h=>h hz)]at h
 simp only[j5]at h⊢;rw[hq];exact h
theorem zbA {b q:Ar} {r:Int × Int} (h:Ju (j5 l (j+1)) (l.drop (j+1)) (j+1)=r) (hb:l[j]? =Xa b) (hq:l[j+1]? =Xa q) (hz:arW q=0) (hc:q.fr<b.tz\/goB q b=Xc):r=(2,((j+1:Nat):Int)):=by
 rw[jP hq,zah,kF (fun h=>h hz)]at h
 simp only[j5,hb]at h;rw[kE hc]at h;exact h.symm
theorem zg7 {b q:Ar} {r:Int × Int} (h:Ju (j5 l (j+1)) (l.drop (j+1)) (j+1)=r) (hb:l[j]? =Xa b) (hq:l[j+1]? =Xa q) (hz:arW q=0) (hc:¬q.fr<b.tz) (hc':goB q b=Xd):Ju (j5 l (j+1+1)) (l.drop (j+1+1)) (j+1+1)=r:=by
 rw[jP hq,zah,kF (fun h=>h hz)]at h
 simp only[j5,hb]at h;rw[kF (by rintro(h1 | h1);exact hc h1;rw[hc']at h1;cases h1)]at h
 simp only[j5,hq];exact h
theorem zjf {r:Int × Int} (h:Ju (j5 l l.length) (l.drop l.length) l.length=r):r=(0,0):=by
 rw[List.drop_length,Ju]at h;exact h.symm
theorem zeD (h:¬16<l.length):Ju (j5 l 0) (l.drop 0) 0=wrL l:=by
 unfold wrL;rw[kF h];rfl
theorem zf6 (v:Xr) (l:List Ar) (w:Xo) (hv:zm arE w v l):
  Xq prog 191 #[v] w fun e w'=>e= Xl (Xi #[I6 (wrL l).1,I6 (wrL l).2])/\zc w w':=by
 have hbig:=hv.short;obtain⟨a,c,rfl,hrow⟩:=hv.ars;have HR':Xp (zbn w a l):=hrow;have hwa:Xp (∀(q:Ar) W,Xq prog 218 #[Xi #[I6 q.fr,I6 q.tz,Xh q.rd,Xh q.wr,Xh q.sh,I6 q.file,I6 q.base]] W fun e w'=>e= Xl (I6 (arW q))/\zc W w'):=fun q W=>zdF q W
 have hgo:Xp (∀(q b:Ar) W,jA b->Xq prog 219 #[Xi #[I6 q.fr,I6 q.tz,Xh q.rd,Xh q.wr,Xh q.sh,I6 q.file,I6 q.base],Xi #[I6 b.fr,I6 b.tz,Xh b.rd,Xh b.wr,Xh b.sh,I6 b.file,I6 b.base]] W fun e w'=>e= Xl (Xh (goB q b))/\zc W w'):=fun q b W h=>ziv q b W h
 clear hrow hv;have HST:Xp (¬16<l.length->Ju (j5 l 0) (l.drop 0) 0=wrL l):=zeD;have HMA:Xp (16<l.length->wrL l=(4,0)):=fun h=>by unfold wrL;rw[kE h]
 have HEND:Xp (∀r,Ju (j5 l l.length) (l.drop l.length) l.length=r->r=(0,0)):=fun r=>zjf
 obtain⟨n,HN⟩:=kA l.length;rw[HN.out]at hbig⊢;have HST':Xp (¬16<n->Ju (j5 l 0) (l.drop 0) 0=wrL l):=dD<|by rw[<-HN.out];exact HST.out
 have HMA':Xp (16<n->wrL l=(4,0)):=dD<|by rw[<-HN.out];exact HMA.out
 have HEND':Xp (∀r,Ju (j5 l n) (l.drop n) n=r->r=(0,0)):=dD<|by rw[<-HN.out];exact HEND.out
 skip
 generalize hA:wrL l=ANS at HST' HMA'⊢
 clear hA;obtain⟨W0,hW0⟩:=kB (w.alloc (Xk #[I6 0,I6 0] 164));have HG0:=gA hW0
 have X0:=xA hW0
 have HW0:Xp (_=W0):=hW0;clear hW0
 by_cases hmany:16<n
 ·have HR:Xp (ANS=(4,0)):=HMA'.out hmany;have hmz:=kC hmany
  go_enter func191,ntmps191
  go_upto_region 1 with fail;rw[HW0.out];have f0:=X0.c 0 rfl;have f1:=X0.c 1 rfl;have ff:=X0.f;have RB:Xp (Box ((W0.setCell ⟨w.heap.size,0,Xb⟩ (I6 4)).setCell ⟨w.heap.size,1,Xb⟩ (I6 0)) w.heap.size [I6 4,I6 0]):=dD<|(X0.set 0 _).set 1 _
  have RG:Xp (zc w ((W0.setCell ⟨w.heap.size,0,Xb⟩ (I6 4)).setCell ⟨w.heap.size,1,Xb⟩ (I6 0))):=dD<|zz (zz HG0 (by simp) _) (by simp) _
  go_wp2;refine bodyPost_ret (zZ (vs:=[I6 4,I6 0]) rfl _ rfl RB underlying164 rfl zoy) rfl ⟨?_,RG⟩;rw[HR.out]
 have hmz:=kD hmany
 have HI:Xp (Ju (j5 l 0) (l.drop 0) 0=ANS):=HST'.out hmany
 go_enter func191,ntmps191
 go_upto_region 1 with fail;rw[HW0.out];go_wp2
 go_loopg [12] n (fun gg s12 wr=>∃kk:Nat,kk<=n/\n - kk<=gg/\s12=I6 kk/\Xp (zc w wr)/\Xp (Box wr w.heap.size [I6 0,I6 0])/\Xp (Ju (j5 l kk) (l.drop kk) kk=ANS)/\Xp (∀(j:Nat) q,j<kk->l[j]? =Xa q->jA q))
 case atStart=>exact⟨0,nZ _,by omega,rfl,HG0,X0,HI,fun j q hj=>absurd hj (nL _)⟩
 obtain⟨kk,hkk,hg,rfl,BW,FW,IW,OW⟩:=hrel
 by_cases hlt:kk<n
 ·have hltz:=kC hlt
  obtain⟨q,HQ⟩:∃q,Xp (l[kk]? =Xa q):=⟨_,gE (by rw[HN.out];exact hlt)⟩
  obtain⟨ad,rfl,hl⟩:=HR'.out kk q HQ.out;obtain⟨d0,d1,d2,d3,d4,d5,d6⟩:=hl wr BW.out;have HL:Xp (w.heap.size<wr.heap.size):=FW.lt;obtain⟨p,HP⟩:=kA wr.heap.size;have HLP:Xp (w.heap.size<p):=show _<_ by rw[<-HP.out];exact HL.out
  clear hl;go_upto_region 6 with fail;obtain⟨W1,hW1⟩:=kB (wr.alloc (Xk #[I6 q.fr,I6 q.tz,Xh q.rd,Xh q.wr,Xh q.sh,I6 q.file,I6 q.base] 91));have G1:=gT hW1 BW
  have F1:=yA hW1 FW
  have P1:=xP hW1 HP
  rw[hW1,HP.out];clear hW1 d0 d1 d2 d3 d4 d5 d6
  go_wp2_with (refine zR rfl 91 (.tmp 4) rfl p rfl P1 underlying91 rfl zox ?_)
  refine(hwa.out q _).mono ?_;rintro e W2 ⟨rfl,g2⟩;have G2:=dD (G1.trans g2);have F2:=dD (F1.grew g2);have P2:=dD (P1.grew g2);clear g2;have hpne:p≠w.heap.size:=by have:=HLP.out;omega
  have hpne':w.heap.size≠p:=by have:=HLP.out;omega
  by_cases hz:arW q=0
  ·have HZ:Xp (arW q=0):=hz;have hzb:(arW q != 0)=Xd:=by simp[hz]
   have HOK:Xp (jA q):=ZD.1 hz;have OW':Xp (∀(j:Nat) x,j<kk+1->l[j]? =Xa x->jA x):=show∀(j:Nat) x,_ from fun j x hj hx=>by
    by_cases e:j=kk
    ·subst e;rw[HQ.out]at hx;cases hx;exact HOK.out
    exact OW j x (by omega) hx
   clear hz;go_upto_region 9 with fail
   generalize arW q=zq
   cases kk with
   | zero=>
    have HNX:Xp (Ju (j5 l 1) (l.drop 1) 1=ANS):=zeB IW HQ HZ.out;have hz0:¬(0:Int)< ((0:Nat):Int):=by decide
    have hz1:decide ((0:Int)< ((0:Nat):Int))=Xd:=by decide
    go_quiet (fail);go_wp2
    go_roundg (n - 1)
    case measure=>omega
    exact⟨1,by omega,by omega,by go_num,G2.trans (show Below _ _ _ from bD (bR _ _) _),F2.grew (show Below _ _ _ from bD (bR _ _) _),HNX,OW'⟩
   | succ j=>
    obtain⟨b,HB⟩:∃b,Xp (l[j]? =Xa b):=⟨_,gE (by rw[HN.out];omega)⟩
    have HBK:Xp (jA b):=OW.out j b (by omega) HB.out
    have hz0:(0:Int)< ((j+1:Nat):Int):=by omega
    have hz1:decide ((0:Int)< ((j+1:Nat):Int))=Xc:=by simp
    have hj1:((j+1:Nat):Int) - 1=(j:Int):=by omega
    have hjn:(j:Int)< (n:Int):=by omega
    obtain⟨ad',had,hl⟩:=HR'.out j b HB.out;obtain rfl:ad=ad':=by cases had;rfl
    by_cases hc:q.fr<b.tz
    ·have HR:Xp (ANS=(2,((j+1:Nat):Int))):=zbA IW HB HQ HZ (.inl hc);have hcd:decide (q.fr<b.tz)=Xc:=by simpa using hc
     obtain⟨e0,e1,e2,e3,e4,e5,e6⟩:=hl W2 G2.out;have p0:=P2.c 0 rfl;clear hl;go_quiet (fail);obtain⟨W3,hW3⟩:=kB (W2.drewN nq);have G3:Xp (zc w W3):=dD<|by rw[<-hW3];exact G2.trans (show Below _ _ _ from bD (bR _ _) _)
     have F3:Xp (Box W3 w.heap.size [I6 0,I6 0]):=dD<|by rw[<-hW3];exact F2.grew (show Below _ _ _ from bD (bR _ _) _)
     rw[hW3];clear hW3 e0 e1 e2 e3 e4 e5 e6 p0;have f0:=F3.c 0 rfl;have f1:=F3.c 1 rfl;have ff:=F3.f;have RB:Xp (Box ((W3.setCell ⟨w.heap.size,0,Xb⟩ (I6 2)).setCell ⟨w.heap.size,1,Xb⟩ (I6 ((j+1:Nat):Int))) w.heap.size [I6 2,I6 ((j+1:Nat):Int)]):=dD<|(F3.set 0 _).set 1 _
     have RG:Xp (zc w ((W3.setCell ⟨w.heap.size,0,Xb⟩ (I6 2)).setCell ⟨w.heap.size,1,Xb⟩ (I6 ((j+1:Nat):Int)))):=dD<|zz (zz G3 (by simp) _) (by simp) _
     go_wp2;refine bodyPost_ret (zZ (vs:=[I6 2,I6 ((j+1:Nat):Int)]) rfl _ rfl RB underlying164 rfl zoy) rfl ⟨?_,RG⟩;rw[HR.out]
    have hcd:decide (q.fr<b.tz)=Xd:=by simpa using hc
    have HC:Xp (¬q.fr<b.tz):=hc;have hx0:=P2.gw 0 rfl
    have hx1:=P2.gw 1 rfl
    have hx2:=P2.gw 2 rfl
    have hx3:=P2.gw 3 rfl
    have hx4:=P2.gw 4 rfl
    have hx5:=P2.gw 5 rfl
    have hx6:=P2.gw 6 rfl
    have hy0:∀y:zn W2,y.world.cell? (ad.add (j*7))=Xa (I6 b.fr):=fun y=>(hl _ (G2.trans y.grew)).1
    have hy1:∀y:zn W2,y.world.cell? { block:=(ad.add (j*7)).block,off:=(ad.add (j*7)).off+1 }=Xa (I6 b.tz):=fun y=>(hl _ (G2.trans y.grew)).2.1
    have hy2:∀y:zn W2,y.world.cell? { block:=(ad.add (j*7)).block,off:=(ad.add (j*7)).off+2 }=Xa (Xh b.rd):=fun y=>(hl _ (G2.trans y.grew)).2.2.1
    have hy3:∀y:zn W2,y.world.cell? { block:=(ad.add (j*7)).block,off:=(ad.add (j*7)).off+3 }=Xa (Xh b.wr):=fun y=>(hl _ (G2.trans y.grew)).2.2.2.1
    have hy4:∀y:zn W2,y.world.cell? { block:=(ad.add (j*7)).block,off:=(ad.add (j*7)).off+4 }=Xa (Xh b.sh):=fun y=>(hl _ (G2.trans y.grew)).2.2.2.2.1
    have hy5:∀y:zn W2,y.world.cell? { block:=(ad.add (j*7)).block,off:=(ad.add (j*7)).off+5 }=Xa (I6 b.file):=fun y=>(hl _ (G2.trans y.grew)).2.2.2.2.2.1
    have hy6:∀y:zn W2,y.world.cell? { block:=(ad.add (j*7)).block,off:=(ad.add (j*7)).off+6 }=Xa (I6 b.base):=fun y=>(hl _ (G2.trans y.grew)).2.2.2.2.2.2
    have hne:Nonempty (zn W2):=⟨⟨_,zc.refl _⟩⟩;clear hl;refine ji [(19,⟨fun v=>v= Xh (goB q b),fun _ _=>True⟩)] zW (by kernel_rfl) ?_ ?_ ?_
    ·intro x hx
     simp at hx
     subst hx;exact⟨_,rfl⟩
    ·intro x hx
     simp at hx
     subst hx;exact fun _ _ _ _ h=>h
    iterate 19 (refine zd rfl rfl rfl (fun K hK=>?_);go_big_quiet_op;refine hK _ ?_;clear hK)
    refine zE rfl rfl (fun w' hg hF=>?_) (fun v1 hv=>?_)
    ·refine zQ.call [Xi #[I6 q.fr,I6 q.tz,Xh q.rd,Xh q.wr,Xh q.sh,I6 q.file,I6 q.base],Xi #[I6 b.fr,I6 b.tz,Xh b.rd,Xh b.wr,Xh b.sh,I6 b.file,I6 b.base]] rfl func219 rfl rfl rfl ?_;refine(hgo.out q b w' HBK).mono ?_;rintro e w'' ⟨rfl,hg2⟩;exact⟨_,rfl,hg2,rfl,trivial⟩
    subst hv;simp only[Xv,sB,sS,sZ];iterate 2 (refine zd rfl rfl rfl (fun K hK=>?_);go_big_quiet_op;refine hK _ ?_;clear hK)
    refine z6 fun W3 hg1 hF=>?_
    have G3:=dD (G2.trans hg1);have F3:=dD (F2.grew hg1);clear hg1 hF hx0 hx1 hx2 hx3 hx4 hx5 hx6 hy0 hy1 hy2 hy3 hy4 hy5 hy6 hne
    cases hgb:goB q b with
    | true=>
     have HR:Xp (ANS=(2,((j+1:Nat):Int))):=zbA IW HB HQ HZ (.inr hgb);clear hgb;have f0:=F3.c 0 rfl;have f1:=F3.c 1 rfl;have ff:=F3.f;have RB:Xp (Box ((W3.setCell ⟨w.heap.size,0,Xb⟩ (I6 2)).setCell ⟨w.heap.size,1,Xb⟩ (I6 ((j+1:Nat):Int))) w.heap.size [I6 2,I6 ((j+1:Nat):Int)]):=show Box _ _ _ from(F3.set 0 _).set 1 _
     have RG:Xp (zc w ((W3.setCell ⟨w.heap.size,0,Xb⟩ (I6 2)).setCell ⟨w.heap.size,1,Xb⟩ (I6 ((j+1:Nat):Int)))):=dD<|zz (zz G3 (by simp) _) (by simp) _
     go_wp2;refine bodyPost_ret (zZ (vs:=[I6 2,I6 ((j+1:Nat):Int)]) rfl _ rfl RB underlying164 rfl zoy) rfl ⟨?_,RG⟩;rw[HR.out]
    | false=>
     have HNX:Xp (Ju (j5 l (j+1+1)) (l.drop (j+1+1)) (j+1+1)=ANS):=zg7 IW HB HQ HZ HC hgb;clear hgb;go_wp2
     go_roundg (n -(j+1+1))
     case measure=>omega
     exact⟨j+1+1,by omega,by omega,by go_num,G3,F3,HNX,OW'⟩
  have HR:Xp (ANS=(arW q,(kk:Int))):=zjg IW HQ hz;have hzb:(arW q != 0)=Xc:=by simp[hz]
  clear hz;have f0:=F2.c 0 rfl;have f1:=F2.c 1 rfl;have ff:=F2.f;have RB:Xp (Box ((W2.setCell ⟨w.heap.size,0,Xb⟩ (I6 (arW q))).setCell ⟨w.heap.size,1,Xb⟩ (I6 (kk:Int))) w.heap.size [I6 (arW q),I6 (kk:Int)]):=dD<|(F2.set 0 _).set 1 _
  have RG:Xp (zc w ((W2.setCell ⟨w.heap.size,0,Xb⟩ (I6 (arW q))).setCell ⟨w.heap.size,1,Xb⟩ (I6 (kk:Int)))):=dD<|zz (zz G2 (by simp) _) (by simp) _
  go_wp2;refine bodyPost_ret (zZ (vs:=[I6 (arW q),I6 (kk:Int)]) rfl _ rfl RB underlying164 rfl zoy) rfl ⟨?_,RG⟩;rw[HR.out]
 have hltz:=kD hlt
 have:kk=n:=by omega
 subst this;have HR:Xp (ANS=(0,0)):=HEND'.out _ IW.out;have f0:=FW.c 0 rfl;have f1:=FW.c 1 rfl;have ff:=FW.f;have RB:Xp (Box ((wr.setCell ⟨w.heap.size,0,Xb⟩ (I6 0)).setCell ⟨w.heap.size,1,Xb⟩ (I6 0)) w.heap.size [I6 0,I6 0]):=show Box _ _ _ from(FW.set 0 _).set 1 _
 have RG:Xp (zc w ((wr.setCell ⟨w.heap.size,0,Xb⟩ (I6 0)).setCell ⟨w.heap.size,1,Xb⟩ (I6 0))):=dD<|zz (zz BW (by simp) _) (by simp) _
 go_wp2;refine bodyPost_ret (zZ (vs:=[I6 0,I6 0]) rfl _ rfl RB underlying164 rfl zoy) rfl ⟨?_,RG⟩;rw[HR.out]
theorem zmi (e:En) (l:List En):esW (e :: l)=if enW e=0 then esW l else enW e:=rfl
theorem zlf (h:List En) (t:List (List En)):tbW (h :: t)=if haW h=0 then tbW t else haW h:=rfl
theorem znU {h:List En} (h8:h.length=8):haW h=if esW h=0 then(if zbk h=Xc then 0 else 2)else esW h:=by
 unfold haW;rw[kF (by omega),kE h8]
theorem zdC (v:Xr) (fs:List En) (w:Xo) (hv:zm enE w v fs):
  Xq prog 212 #[v] w fun e w'=>e= Xl (I6 (haW fs))/\zc w w':=by
 have hbig:=hv.short;have HV:Xp (zm enE w v fs):=hv;obtain⟨a,c,rfl,hrow⟩:=hv.ens;have HR:Xp (zhP w a fs):=hrow;clear hrow hv;obtain⟨n,HN⟩:=kA fs.length;obtain⟨Z,HZ⟩:=kA (haW fs);rw[HN.out]at hbig HV⊢;rw[HZ.out]
 by_cases h0:n=0
 ·have HF:Xp (Z=0):=dD<|by rw[<-HZ.out];unfold haW;rw[kE (by rw[HN.out];exact h0)]
  subst h0
  go_enter func212,ntmps212
  go_wp2;go_ret;exact⟨by rw[HF.out];rfl,zc.refl _⟩
 have h0b:((n:Int) == 0)=Xd:=by simpa using h0
 by_cases h8:n=8
 ·have H8:=dD (HN.trans h8);have h8b:((n:Int) != 8)=Xd:=by simp[h8]
  clear h0 h8;have hcon:=fun W (hW:zc w W)=>Zw (O a n c) fs W (HV.grew hW)
  go_enter func212,ntmps212
  go_wp2
  go_loopg [14] n (fun gg s14 wr=>∃kk:Nat,kk<=n/\n - kk<=gg/\s14=I6 kk/\Xp (zc w wr)/\Xp (esW (fs.drop kk)=esW fs))
  case atStart=>exact⟨0,nZ _,by omega,rfl,zc.refl w,rfl⟩
  obtain⟨kk,hkk,hg,rfl,BW,AW⟩:=hrel
  by_cases hlt:kk<n
  ·have hltz:=kC hlt
   obtain⟨q,HQ⟩:∃q,Xp (fs[kk]? =Xa q):=⟨_,gE (by rw[HN.out];exact hlt)⟩
   obtain⟨ad,rfl,hl⟩:=HR.out kk q HQ.out;obtain⟨d0,d1,d2⟩:=hl wr BW.out;obtain⟨W2,hW2⟩:=kB (wr.alloc (Xk #[I6 q.kind,I6 q.n,Xh q.wr] 55));have GA:=gT hW2 BW
   have HW2:Xp (_=W2):=hW2;have hcall:=JM q.kind q.n q.wr W2;have HST:Xp (esW (fs.drop kk)=if enW ⟨q.kind,q.n,q.wr⟩=0 then esW (fs.drop (kk+1))else enW ⟨q.kind,q.n,q.wr⟩):=show _=_ by rw[jP HQ.out,zmi]
   clear hl hW2
   generalize enW ⟨q.kind,q.n,q.wr⟩=z at hcall HST
   by_cases hz:z=0
   ·have HA:Xp (esW (fs.drop (kk+1))=esW fs):=dD<|by rw[<-AW.out,HST.out,kE hz]
    subst hz;go_wp2_with fail;rw[HW2.out];refine hcall.mono ?_;rintro e W3 ⟨rfl,k1⟩;have G3:=dD (GA.trans k1);clear k1 hcall d0 d1 d2;go_wp2
    go_roundg (n -(kk+1))
    case measure=>omega
    exact⟨kk+1,by omega,by omega,by go_num,G3,HA⟩
   have hzb:(z != 0)=Xc:=by simpa using hz
   have HF:Xp (Z=z):=dD<|by
    have h1:=AW.out;rw[HST.out,kF hz]at h1;rw[<-HZ.out,znU H8.out,<-h1,kF hz]
   go_wp2_with fail;rw[HW2.out];refine hcall.mono ?_;rintro e W3 ⟨rfl,k1⟩;have G3:=dD (GA.trans k1);clear k1 hcall d0 d1 d2;go_wp2;go_ret;exact⟨by rw[HF.out];rfl,G3⟩
  have hltz:=kD hlt
  have:kk=n:=by omega
  subst this;have HE:Xp (esW fs=0):=dD<|by
   rw[<-AW.out,Xu (by rw[HN.out];exact nR _)]
   rfl
  have hcall:=hcon wr BW.out;have HST:Xp (Z=if zbk fs=Xc then 0 else 2):=dD<|by rw[<-HZ.out,znU H8.out,HE.out,kE rfl]
  generalize zbk fs=A at hcall HST
  clear hcon
  cases A with
  | true=>
   go_wp2_with fail;refine hcall.mono ?_;rintro e W3 ⟨rfl,k1⟩;have G3:=dD (BW.trans k1);clear k1 hcall;go_wp2;go_ret;exact⟨by rw[HST.out];rfl,G3⟩
  | false=>
   go_wp2_with fail;refine hcall.mono ?_;rintro e W3 ⟨rfl,k1⟩;have G3:=dD (BW.trans k1);clear k1 hcall;go_wp2;go_ret;exact⟨by rw[HST.out];rfl,G3⟩
 have h8b:((n:Int) != 8)=Xc:=by simp;omega
 have HF:Xp (Z=2):=dD<|by rw[<-HZ.out];unfold haW;rw[kF (by rw[HN.out];exact h0),kF (by rw[HN.out];exact h8)]
 clear h0 h8
 go_enter func212,ntmps212
 go_wp2;go_ret;exact⟨by rw[HF.out];rfl,zc.refl _⟩
theorem zbI (vs:List Xr) (t:List (List En)) (w:Xo) (hv:Qi w vs t):
  Xq prog 180 #[Xi vs.toArray] w fun e w'=>e= Xl (I6 (tbW t))/\zc w w':=by
 have HV:Xp (Qi w vs t):=hv;have HL:Xp (vs.length=8):=hv.len;clear hv;obtain⟨Z,HZ⟩:=kA (tbW t);rw[HZ.out];obtain⟨W0,hW0⟩:=kB (w.alloc (Xk vs.toArray 61));have HG0:=gA hW0
 have X0:=xA hW0
 have HW0:Xp (_=W0):=hW0;clear hW0
 go_enter func180,ntmps180
 go_upto_region 1 with fail;rw[HW0.out]
 go_wp2_with (refine qF rfl (.tmp 1) rfl w.heap.size rfl X0 HL.out ?_)
 go_loopg [7] 8 (fun gg s7 wr=>∃kk:Nat,kk<=8/\8 - kk<=gg/\s7=I6 kk/\Xp (zc w wr)/\Xp (tbW (t.drop kk)=tbW t))
 case atStart=>exact⟨0,nZ _,by omega,rfl,HG0,rfl⟩
 obtain⟨kk,hkk,hg,rfl,BW,AW⟩:=hrel
 by_cases hlt:kk<8
 ·have hltz:(kk:Int)<8:=by omega
  obtain⟨xa,xc,q,hq,hvk,hr⟩:=HV.half hlt;have HQ:Xp (t[kk]? =Xa q):=hq;have HVK:Xp (vs[kk]? =Xa (O xa q.length xc)):=hvk;have hcall:=zdC (O xa q.length xc) q wr (hr.grew BW);have HST:Xp (tbW (t.drop kk)=if haW q=0 then tbW (t.drop (kk+1))else haW q):=show _=_ by rw[jP HQ.out,zlf]
  clear hq hvk hr
  generalize haW q=z at hcall HST
  generalize q.length=nq at hcall HVK
  by_cases hz:z=0
  ·have HA:Xp (tbW (t.drop (kk+1))=tbW t):=dD<|by rw[<-AW.out,HST.out,kE hz]
   subst hz
   go_wp2_with (refine zgb rfl (.tmp 6) (.tmp 7) rfl vs rfl kk rfl hlt HVK.out ?_)
   refine hcall.mono ?_;rintro e W3 ⟨rfl,k1⟩;have G3:=dD (BW.trans k1);clear k1 hcall;go_wp2
   go_roundg (8 -(kk+1))
   case measure=>omega
   exact⟨kk+1,by omega,by omega,by go_num,G3,HA⟩
  have hzb:(z != 0)=Xc:=by simpa using hz
  have HF:Xp (Z=z):=dD<|by
   have h1:=AW.out;rw[HST.out,kF hz]at h1;rw[<-HZ.out,<-h1]
  skip
  go_wp2_with (refine zgb rfl (.tmp 6) (.tmp 7) rfl vs rfl kk rfl hlt HVK.out ?_)
  refine hcall.mono ?_;rintro e W3 ⟨rfl,k1⟩;have G3:=dD (BW.trans k1);clear k1 hcall;go_wp2;go_ret;exact⟨by rw[HF.out];rfl,G3⟩
 have hltz:¬(kk:Int)<8:=by omega
 have:kk=8:=by omega
 subst this;have HF:Xp (Z=0):=dD<|by
  rw[<-HZ.out,<-AW.out,Xu (by rw[HV.tlen];exact nR _)]
  rfl
 go_wp2;go_ret;exact⟨by rw[HF.out];rfl,BW⟩
def enV (e:En):Xr:= Xi #[I6 e.kind,I6 e.n,Xh e.wr]
theorem zdd {n:Int} (h0:0<=n) (h1:n<64):∃i k:Nat,i<8/\k<8/\n=8*i+k/\n / 8=(i:Int)/\n % 8=(k:Int)/\n.tdiv 8=(i:Int)/\n.tmod 8=(k:Int)/\n.toNat / 8=i/\n.toNat % 8=k:=by
 refine⟨n.toNat / 8,n.toNat % 8,by omega,by omega,by omega,by omega,by omega,?_,?_,rfl,rfl⟩
 ·rw[Int.tdiv_eq_ediv_of_nonneg h0];omega
 rw[Int.tmod_eq_emod_of_nonneg h0];omega
theorem Ji (vs:List Xr) (t:List (List En)) (n:Int) (w:Xo) (hv:Qi w vs t):
  Xq prog 86 #[Xi vs.toArray,I6 n] w fun e w'=>e= Xl (enV (zdn t n))/\zc w w':=by
 have HV:Xp (Qi w vs t):=hv;have HL:Xp (vs.length=8):=hv.len;clear hv;obtain⟨Z,HZ⟩:=kA (zdn t n);rw[HZ.out];obtain⟨W0,hW0⟩:=kB ((w.alloc (Xk vs.toArray 61)).alloc (Xk #[I6 0,I6 0,Xh Xd] 55));have HG0:=gD2 hW0
 have X0:=x2a hW0
 have Y0:=x2b hW0
 have HW0:Xp (_=W0):=hW0;clear hW0;have three:∀(W:Xo) (u v x:Xr),Box W (w.heap.size+1) [I6 0,I6 0,Xh Xd]->zc w W->zc w (((W.setCell ⟨w.heap.size+1,0,Xb⟩ u).setCell ⟨w.heap.size+1,1,Xb⟩ v).setCell ⟨w.heap.size+1,2,Xb⟩ x):=fun W u v x _ hg=>
  Below.setCell (Below.setCell (Below.setCell hg (p:=⟨w.heap.size+1,0,Xb⟩) (by simp) _) (p:=⟨w.heap.size+1,1,Xb⟩) (by simp) _) (p:=⟨w.heap.size+1,2,Xb⟩) (by simp) _
 have HT:Xp (∀(W:Xo) (u v x:Xr),Box W (w.heap.size+1) [I6 0,I6 0,Xh Xd]->zc w W->zc w (((W.setCell ⟨w.heap.size+1,0,Xb⟩ u).setCell ⟨w.heap.size+1,1,Xb⟩ v).setCell ⟨w.heap.size+1,2,Xb⟩ x)):=three;clear three;obtain⟨y0,y1,y2⟩:=Y0.c3;have yf:=Y0.f
 by_cases hn:0<=n/\n<64
 ·obtain⟨h0,h1⟩:=hn;obtain⟨i,k,hi,hk,hnk,q1,q2,q3,q4,q5,q6⟩:=zdd h0 h1;have hb:=fun W=>Qs (m:=n) (n:=64) h0 h1 W
  obtain⟨xa,xc,q,hq,hvk,hr⟩:=HV.half hi;have HF:Xp (Z=q[k]?.getD en0):=dD<|by
   rw[<-HZ.out];unfold zdn;rw[kE ⟨h0,h1⟩,q5,q6];unfold zdo;rw[hq];rfl
  have x0:=X0.c i hvk;obtain⟨_,_,heq,hens⟩:=hr.ens;cases heq;have HE:Xp (zhP w xa q):=hens;have hiz:(i:Int)<8:=by omega
  clear hens hr hq hvk q5 q6 hnk;obtain⟨nq,HNQ⟩:=kA q.length;rw[HNQ.out]at x0
  by_cases hkq:k<nq
  ·obtain⟨e,HE1⟩:∃e,Xp (q[k]? =Xa e):=⟨_,gE (by rw[HNQ.out];exact hkq)⟩
   obtain⟨ad,rfl,hl⟩:=HE.out k e HE1.out;obtain⟨d0,d1,d2⟩:=hl W0 HG0.out;have HF':Xp (Z=e):=dD<|by rw[HF.out,HE1.out];rfl
   have hkz:¬(nq:Int)<=(k:Int):=by omega
   have hkd:decide ((nq:Int)<=(k:Int))=Xd:=decide_eq_false hkz;have hklt:=kC hkq
   clear hl
   go_enter func86,ntmps86
   go_wp2_with fail;rw[HW0.out];refine(hb _).mono ?_;rintro e w' ⟨rfl,hw'⟩;rw[hw'];clear hw' w';go_wp2;refine bodyPost_ret (v:= Xi #[I6 e.kind,I6 e.n,Xh e.wr]) (by simp[results,Tryz.results86,go_sem, *]) rfl ⟨?_,?_⟩
   ·rw[HF'.out];rfl
   exact HT _ _ _ _ Y0 HG0.out
  have HF':Xp (Z=en0):=dD<|by rw[HF.out,gN (by rw[HNQ.out];omega)];rfl
  have hkz:(nq:Int)<=(k:Int):=by omega
  go_enter func86,ntmps86
  go_wp2_with fail;rw[HW0.out];refine(hb _).mono ?_;rintro e w' ⟨rfl,hw'⟩;rw[hw'];clear hw' w';go_wp2;refine bodyPost_ret (v:= Xi #[I6 0,I6 0,Xh Xd]) (by simp[results,Tryz.results86,go_sem, *]) rfl ⟨?_,?_⟩
  ·rw[HF'.out];rfl
  exact HT _ _ _ _ Y0 HG0.out
 have hb:=fun W=>zaJ (m:=n) (n:=64) hn W
 have HF:Xp (Z=en0):=dD<|by rw[<-HZ.out];unfold zdn;rw[kF hn]
 clear hn
 go_enter func86,ntmps86
 go_wp2_with fail;rw[HW0.out];refine(hb _).mono ?_;rintro e w' ⟨rfl,hw'⟩;rw[hw'];clear hw' w';go_wp2;refine bodyPost_ret (v:= Xi #[I6 0,I6 0,Xh Xd]) (by simp[results,Tryz.results86,go_sem, *]) rfl ⟨?_,?_⟩
 ·rw[HF.out];rfl
 exact HT _ _ _ _ Y0 HG0.out
def Jr (_:En):Bool:=true
def ziC (k n:Int) (e:En):Bool:=(e.kind == k) &&(e.n == n)
theorem zh8 (k n:Int) (b:Bool) (w:Xo):
  Xq prog 148 #[Xi #[I6 k,I6 n,Xh b]] w fun e w'=>e= Xl (Xh Xc)/\zc w w':=by
 go_enter func148,ntmps148
 go_wp2;go_ret;exact⟨rfl,za _ _⟩
theorem zkt (xk xn:Int) (xb:Bool) (k n:Int) (pk pn:Nat) (w:Xo) (hk:Box w pk [I6 k]) (hn:Box w pn [I6 n]):
  Xq prog 211 #[Xi #[I6 xk,I6 xn,Xh xb],Xj (Xa ⟨pk,0,Xb⟩),Xj (Xa ⟨pn,0,Xb⟩)] w fun e w'=>e= Xl (Xh (ziC k n ⟨xk,xn,xb⟩))/\zc w w':=by
 have H:Xp (ziC k n ⟨xk,xn,xb⟩=((xk == k) &&(xn == n))):=rfl
 generalize ziC k n ⟨xk,xn,xb⟩=F at H⊢
 have c0:∀o:Obj,(w.alloc o).cell? ⟨pk,0,Xb⟩=Xa (I6 k):=fun o=>(hk.alloc o).c 0 rfl
 have c1:∀o:Obj,(w.alloc o).cell? ⟨pn,0,Xb⟩=Xa (I6 n):=fun o=>(hn.alloc o).c 0 rfl
 clear hk hn
 by_cases h1:xk=k
 ·have h1b:(xk == k)=Xc:=by simpa using h1
  have HF:Xp (F=(xn == n)):=dD<|by rw[H.out,h1b];rfl
  clear h1
  go_enter func211,ntmps211
  go_wp2;go_ret;exact⟨by rw[HF.out];rfl,za _ _⟩
 have h1b:(xk == k)=Xd:=by simpa using h1
 have HF:Xp (F=Xd):=dD<|by rw[H.out,h1b];rfl
 clear h1
 go_enter func211,ntmps211
 go_wp2;go_ret;exact⟨by rw[HF.out];rfl,za _ _⟩
theorem zdK (vs:List Xr) (t:List (List En)) (w:Xo) (hv:Qi w vs t):
  Xq prog 147 #[Xi vs.toArray,.func (.func 148) #[] #[]] w fun e w'=>∃v,e= Xl v/\zb blE w.heap.size w' v (qS t Jr 64)/\zc w w':=by
 have HV:Xp (Qi w vs t):=hv;have HL:Xp (vs.length=8):=hv.len;clear hv;obtain⟨W0,hW0⟩:=kB (w.alloc (Xk vs.toArray 61));have HG0:=gA hW0
 have X0:=xA hW0
 have HW0:Xp (_=W0):=hW0;clear hW0;obtain⟨PG,HPG⟩:=kA (qS t Jr);have HP0:Xp (PG 0=[]):=show _=_ by rw[<-HPG.out];rfl
 have HPS:Xp (∀m:Nat,m<64->PG (m+1)=if enS (zdn t (m:Int)) && Jr (zdn t (m:Int))then PG m++ [(m:Int)]else PG m):=dD<|fun m hm=>by
  rw[<-HPG.out,Q9];have:zdn t (m:Int)=zdo t (m / 8) (m % 8):=by unfold zdn;rw[kE (by omega),tN]
  rw[this]
 have HPL:Xp (∀m,(PG m).length<=m):=dD<|fun m=>by rw[<-HPG.out];exact J0 _ _ _
 rw[HPG.out];have eg:=enters_of func148 (by kernel_rfl) rfl
 go_enter func147,ntmps147
 go_upto_region 1 with fail;rw[HW0.out];go_wp2
 go_loopg [5,8] 64 (fun gg s5 s8 wr=>∃(kk:Nat) (a5:Option Addr) (n5 c5:Nat),kk<=64/\64 - kk<=gg/\s8=I6 kk/\s5= O a5 n5 c5/\Xp (zc W0 wr)/\Xp (zb blE W0.heap.size wr (O a5 n5 c5) (PG kk)))
 case atStart=>exact⟨0,Xb,0,0,nZ _,by omega,rfl,rfl,zc.refl _,by rw[HP0.out];exact zb.nil _ _ _⟩
 obtain⟨kk,a5,n5,c5,hkk,hg,rfl,rfl,BW,OW⟩:=hrel
 by_cases hlt:kk<64
 ·have hltz:(kk:Int)<64:=by omega
  have hget:=Ji vs t (kk:Int) wr (HV.grew (HG0.trans BW));have XW:=dD (X0.grew BW);have HST:=HPS.out kk hlt;obtain⟨x,HX⟩:=kA (zdn t (kk:Int));rw[HX.out]at hget HST;have HST':Xp (PG (kk+1)=if enS x && Jr x then PG kk++ [(kk:Int)]else PG kk):=HST;obtain⟨xk,xn,xb⟩:=x
  go_wp2_with (refine qF rfl (.tmp 2) rfl w.heap.size rfl XW HL.out ?_)
  refine hget.mono ?_;rintro e W2 ⟨rfl,g2⟩;have G2:=dD (BW.trans g2);have O2:=dD (OW.grew g2);clear g2 hget;simp only[enV];go_upto_region 6 with fail;obtain⟨px,hpx⟩:=kB W2.heap.size;obtain⟨W3,hW3⟩:=kB (W2.alloc (Xk #[I6 xk,I6 xn,Xh xb] 55));have G3:=gT hW3 G2
  have O3:Xp (zb blE W0.heap.size W3 (O a5 n5 c5) (PG kk)):=dD<|by rw[<-hW3];exact O2.grew (za _ _)
  have P3:Xp (Box W3 px [I6 xk,I6 xn,Xh xb]):=dD<|by rw[<-hW3];exact Box.top _ _ _ hpx.symm
  rw[hW3];rw[hpx];clear hW3 hpx;obtain⟨p0,p1,p2⟩:=P3.c3;have his:=zaY xk xn xb W3
  cases hs:enS ⟨xk,xn,xb⟩with
  | false=>
   have HN:Xp (PG (kk+1)=PG kk):=dD<|by rw[HST'.out,hs];rfl
   rw[hs]at his;clear hs;go_wp2_with fail;refine his.mono ?_;rintro e W4 ⟨rfl,g4⟩;have G4:=dD (G3.trans g4);have O4:Xp (zb blE W0.heap.size W4 (O a5 n5 c5) (PG (kk+1))):=show zb _ _ _ _ _ by rw[HN.out];exact O3.grew g4
   clear g4 his p0 p1 p2;go_wp2
   go_roundg (64 -(kk+1))
   case measure=>omega
   exact⟨kk+1,a5,n5,c5,by omega,by omega,by go_num,rfl,G4,O4⟩
  | true=>
   rw[hs]at his;have HST2:Xp (PG (kk+1)=if Jr ⟨xk,xn,xb⟩=Xc then PG kk++ [(kk:Int)]else PG kk):=dD<|by rw[HST'.out,hs];rfl
   clear hs;go_wp2_with fail;refine his.mono ?_;rintro e W4 ⟨rfl,g4⟩;have G4:=dD (G3.trans g4);have O4:=dD (O3.grew g4);have P4:=dD (P3.grew g4);clear g4 his p0 p1 p2;obtain⟨p0,p1,p2⟩:=P4.c3;have hcl:=zh8 xk xn xb W4;rw[kE (show Jr ⟨xk,xn,xb⟩=Xc from rfl)]at HST2
   go_wp2_with fail;refine hcl.mono ?_;rintro e W5 ⟨rfl,g5⟩;have G5:=dD (G4.trans g5);have O5:=dD (O4.grew g5);clear g5 hcl p0 p1 p2;have HR1:Xp (zm blE (W5.alloc (Xk #[I6 (kk:Int)] 3)) (O (Xa ⟨W5.heap.size,0,Xb⟩) 1 1) [(kk:Int)]):=jK blE W5 (kk:Int) _ _ rfl (by decide)
   go_wp2_with (at_builtin;refine zw (E:=blE) rfl (.tmp 21) (.tmp 23) rfl W0.heap.size _ (PG kk) rfl (O5.grew (za _ _)) _ [(kk:Int)] rfl HR1.out ?qb ?qc ?_)
   case qb=>
    have:=HPL.out kk
    show(_+1)*8<=_
    omega
   case qc=>
    have:=bS G5.out;simp;omega
   intro v6 W6 ow6 gr6;obtain⟨a6,c6,rfl⟩:=ow6.form;have O6:Xp (zb blE W0.heap.size W6 (.slice a6 (PG kk++ [(kk:Int)]).length c6) (PG (kk+1))):=dD<|by rw[HST2.out];exact ow6
   have G6:Xp (zc W0 W6):=dD<|zU (G5.trans (za _ _)) gr6 (fun g hg=>(O5.lt g hg).1)
   clear ow6 gr6;go_wp2
   go_roundg (64 -(kk+1))
   case measure=>omega
   exact⟨kk+1,_,_,_,by omega,by omega,by go_num,rfl,G6,O6⟩
 have hltz:¬(kk:Int)<64:=by omega
 have:kk=64:=by omega
 subst this;have OE:Xp (zb blE w.heap.size wr (O a5 n5 c5) (PG 64)):=OW.base (bS HG0);have GE:=dD (HG0.trans BW);go_wp2;go_ret;exact⟨_,rfl,OE,GE⟩
theorem zeM (vs:List Xr) (t:List (List En)) (k n:Int) (pk pn:Nat) (w:Xo) (hv:Qi w vs t) (hk:Box w pk [I6 k]) (hn:Box w pn [I6 n]):
  Xq prog 147 #[Xi vs.toArray,.func (.func 211) #[] #[Xj (Xa ⟨pk,0,Xb⟩),Xj (Xa ⟨pn,0,Xb⟩)]] w fun e w'=>∃v,e= Xl v/\zb blE w.heap.size w' v (qS t (ziC k n) 64)/\zc w w':=by
 have HV:Xp (Qi w vs t):=hv;have HL:Xp (vs.length=8):=hv.len;clear hv;have HK:Xp (Box w pk [I6 k]):=hk;have HNB:Xp (Box w pn [I6 n]):=hn;clear hk hn;obtain⟨W0,hW0⟩:=kB (w.alloc (Xk vs.toArray 61));have HG0:=gA hW0
 have X0:=xA hW0
 have HW0:Xp (_=W0):=hW0;clear hW0;obtain⟨PG,HPG⟩:=kA (qS t (ziC k n));have HP0:Xp (PG 0=[]):=show _=_ by rw[<-HPG.out];rfl
 have HPS:Xp (∀m:Nat,m<64->PG (m+1)=if enS (zdn t (m:Int)) &&(ziC k n) (zdn t (m:Int))then PG m++ [(m:Int)]else PG m):=dD<|fun m hm=>by
  rw[<-HPG.out,Q9];have:zdn t (m:Int)=zdo t (m / 8) (m % 8):=by unfold zdn;rw[kE (by omega),tN]
  rw[this]
 have HPL:Xp (∀m,(PG m).length<=m):=dD<|fun m=>by rw[<-HPG.out];exact J0 _ _ _
 rw[HPG.out];have eg:=enters_of func211 (by kernel_rfl) rfl
 go_enter func147,ntmps147
 go_upto_region 1 with fail;rw[HW0.out];go_wp2
 go_loopg [5,8] 64 (fun gg s5 s8 wr=>∃(kk:Nat) (a5:Option Addr) (n5 c5:Nat),kk<=64/\64 - kk<=gg/\s8=I6 kk/\s5= O a5 n5 c5/\Xp (zc W0 wr)/\Xp (zb blE W0.heap.size wr (O a5 n5 c5) (PG kk)))
 case atStart=>exact⟨0,Xb,0,0,nZ _,by omega,rfl,rfl,zc.refl _,by rw[HP0.out];exact zb.nil _ _ _⟩
 obtain⟨kk,a5,n5,c5,hkk,hg,rfl,rfl,BW,OW⟩:=hrel
 by_cases hlt:kk<64
 ·have hltz:(kk:Int)<64:=by omega
  have hget:=Ji vs t (kk:Int) wr (HV.grew (HG0.trans BW));have XW:=dD (X0.grew BW);have HST:=HPS.out kk hlt;obtain⟨x,HX⟩:=kA (zdn t (kk:Int));rw[HX.out]at hget HST;have HST':Xp (PG (kk+1)=if enS x &&(ziC k n) x then PG kk++ [(kk:Int)]else PG kk):=HST;obtain⟨xk,xn,xb⟩:=x
  go_wp2_with (refine qF rfl (.tmp 2) rfl w.heap.size rfl XW HL.out ?_)
  refine hget.mono ?_;rintro e W2 ⟨rfl,g2⟩;have G2:=dD (BW.trans g2);have O2:=dD (OW.grew g2);clear g2 hget;simp only[enV];go_upto_region 6 with fail;obtain⟨px,hpx⟩:=kB W2.heap.size;obtain⟨W3,hW3⟩:=kB (W2.alloc (Xk #[I6 xk,I6 xn,Xh xb] 55));have G3:=gT hW3 G2
  have O3:Xp (zb blE W0.heap.size W3 (O a5 n5 c5) (PG kk)):=dD<|by rw[<-hW3];exact O2.grew (za _ _)
  have P3:Xp (Box W3 px [I6 xk,I6 xn,Xh xb]):=dD<|by rw[<-hW3];exact Box.top _ _ _ hpx.symm
  rw[hW3];rw[hpx];clear hW3 hpx;obtain⟨p0,p1,p2⟩:=P3.c3;have his:=zaY xk xn xb W3
  cases hs:enS ⟨xk,xn,xb⟩with
  | false=>
   have HN:Xp (PG (kk+1)=PG kk):=dD<|by rw[HST'.out,hs];rfl
   rw[hs]at his;clear hs;go_wp2_with fail;refine his.mono ?_;rintro e W4 ⟨rfl,g4⟩;have G4:=dD (G3.trans g4);have O4:Xp (zb blE W0.heap.size W4 (O a5 n5 c5) (PG (kk+1))):=show zb _ _ _ _ _ by rw[HN.out];exact O3.grew g4
   clear g4 his p0 p1 p2;go_wp2
   go_roundg (64 -(kk+1))
   case measure=>omega
   exact⟨kk+1,a5,n5,c5,by omega,by omega,by go_num,rfl,G4,O4⟩
  | true=>
   rw[hs]at his;have HST2:Xp (PG (kk+1)=if(ziC k n) ⟨xk,xn,xb⟩=Xc then PG kk++ [(kk:Int)]else PG kk):=dD<|by rw[HST'.out,hs];rfl
   clear hs;go_wp2_with fail;refine his.mono ?_;rintro e W4 ⟨rfl,g4⟩;have G4:=dD (G3.trans g4);have O4:=dD (O3.grew g4);have P4:=dD (P3.grew g4);clear g4 his p0 p1 p2;obtain⟨p0,p1,p2⟩:=P4.c3;have hcl:=zkt xk xn xb k n pk pn W4 (HK.grew (HG0.trans G4)) (HNB.grew (HG0.trans G4))
   generalize ziC k n ⟨xk,xn,xb⟩=F at hcl HST2
   cases F with
   | true=>
    rw[kE rfl]at HST2;go_wp2_with fail;refine hcl.mono ?_;rintro e W5 ⟨rfl,g5⟩;have G5:=dD (G4.trans g5);have O5:=dD (O4.grew g5);clear g5 hcl p0 p1 p2;have HR1:Xp (zm blE (W5.alloc (Xk #[I6 (kk:Int)] 3)) (O (Xa ⟨W5.heap.size,0,Xb⟩) 1 1) [(kk:Int)]):=jK blE W5 (kk:Int) _ _ rfl (by decide)
    go_wp2_with (at_builtin;refine zw (E:=blE) rfl (.tmp 21) (.tmp 23) rfl W0.heap.size _ (PG kk) rfl (O5.grew (za _ _)) _ [(kk:Int)] rfl HR1.out ?qb ?qc ?_)
    case qb=>
     have:=HPL.out kk
     show(_+1)*8<=_
     omega
    case qc=>
     have:=bS G5.out;simp;omega
    intro v6 W6 ow6 gr6;obtain⟨a6,c6,rfl⟩:=ow6.form;have O6:Xp (zb blE W0.heap.size W6 (.slice a6 (PG kk++ [(kk:Int)]).length c6) (PG (kk+1))):=dD<|by rw[HST2.out];exact ow6
    have G6:Xp (zc W0 W6):=dD<|zU (G5.trans (za _ _)) gr6 (fun g hg=>(O5.lt g hg).1)
    clear ow6 gr6;go_wp2
    go_roundg (64 -(kk+1))
    case measure=>omega
    exact⟨kk+1,_,_,_,by omega,by omega,by go_num,rfl,G6,O6⟩
   | false=>
    rw[kF (by decide)]at HST2
    go_wp2_with fail;refine hcl.mono ?_;rintro e W5 ⟨rfl,g5⟩;have G5:=dD (G4.trans g5);have O5:Xp (zb blE W0.heap.size W5 (O a5 n5 c5) (PG (kk+1))):=show zb _ _ _ _ _ by rw[HST2.out];exact O4.grew g5
    clear g5 hcl p0 p1 p2;go_wp2
    go_roundg (64 -(kk+1))
    case measure=>omega
    exact⟨kk+1,a5,n5,c5,by omega,by omega,by go_num,rfl,G5,O5⟩
 have hltz:¬(kk:Int)<64:=by omega
 have:kk=64:=by omega
 subst this;have OE:Xp (zb blE w.heap.size wr (O a5 n5 c5) (PG 64)):=OW.base (bS HG0);have GE:=dD (HG0.trans BW);go_wp2;go_ret;exact⟨_,rfl,OE,GE⟩
theorem J1 (vs:List Xr) (t:List (List En)) (w:Xo) (hv:Qi w vs t):
  Xq prog 107 #[Xi vs.toArray] w fun e w'=>∃v,e= Xl v/\zb blE w.heap.size w' v (qS t Jr 64)/\zc w w':=by
 have HL:Xp (vs.length=8):=hv.len;obtain⟨W0,hW0⟩:=kB (w.alloc (Xk vs.toArray 61));have HG0:=gA hW0
 have X0:=xA hW0
 have hcall:=zdK vs t W0 (hv.grew HG0);have HW0:Xp (_=W0):=hW0;clear hW0 hv
 generalize qS t Jr 64=PG at hcall⊢
 go_enter func107,ntmps107
 go_upto_region 1 with fail;rw[HW0.out]
 go_wp2_with (refine qF rfl (.tmp 1) rfl w.heap.size rfl X0 HL.out ?_)
 refine hcall.mono ?_;rintro e W2 ⟨v,rfl,ow,g2⟩;have O2:Xp (zb blE w.heap.size W2 v PG):=ow.base (bS HG0);have G2:=dD (HG0.trans g2);clear ow g2 hcall;go_wp2;go_ret;exact⟨v,rfl,O2,G2⟩
theorem ziD (vs:List Xr) (t:List (List En)) (k n:Int) (w:Xo) (hv:Qi w vs t):
  Xq prog 177 #[Xi vs.toArray,I6 k,I6 n] w fun e w'=>∃v,e= Xl v/\zb blE w.heap.size w' v (qS t (ziC k n) 64)/\zc w w':=by
 have hmf:∀(fn:Fn) (first cap:Array Xr) (w:Xo),(Instr.makeFunc fn first cap).run prog w= .ok (.func fn first cap) w:=fun _ _ _ _=>rfl
 have HL:Xp (vs.length=8):=hv.len;obtain⟨W0,hW0⟩:=kB (((w.alloc (Xk vs.toArray 61)).alloc (Xk #[I6 k] 3)).alloc (Xk #[I6 n] 3));have HG0:Xp (zc w W0):=show zc w W0 by rw[<-hW0];exact((za _ _).trans (za _ _)).trans (za _ _)
 have X0:Xp (Box W0 w.heap.size vs):=dD<|by rw[<-hW0];exact((Box.top w _ _ rfl).alloc _).alloc _
 have HK:Xp (Box W0 (w.heap.size+1) [I6 k]):=dD<|by rw[<-hW0];exact(Box.top _ _ _ (by simp)).alloc _
 have HN:Xp (Box W0 (w.heap.size+2) [I6 n]):=dD<|by rw[<-hW0];exact Box.top _ _ _ (by simp)
 have hcall:=zeM vs t k n (w.heap.size+1) (w.heap.size+2) W0 (hv.grew HG0) HK HN.out;have HW0:Xp (_=W0):=hW0;clear hW0 hv
 generalize qS t (ziC k n) 64=PG at hcall⊢
 go_enter func177,ntmps177
 go_upto_region 1 with fail;rw[HW0.out]
 go_wp2_with (refine qF rfl (.tmp 3) rfl w.heap.size rfl X0 HL.out ?_)
 refine hcall.mono ?_;rintro e W2 ⟨v,rfl,ow,g2⟩;have O2:Xp (zb blE w.heap.size W2 v PG):=ow.base (bS HG0);have G2:=dD (HG0.trans g2);clear ow g2 hcall;go_wp2;go_ret;exact⟨v,rfl,O2,G2⟩
theorem zjB (a b:Int) (W:Xo):(Instr.field 164 (Xi #[I6 a,I6 b]) 0).run prog W= .ok (I6 a) W:=by
 kernel_rfl
theorem QD (s:Sp):qS s.tb Jr 64=(qw s).map fun(n:Nat)=>(n:Int):=by
 unfold qS qw zD Jr;simp
theorem zlk {s:Sp} (h8:s.tb.length=8):spE s=if zu [(wrL s.ars).1,tbW s.tb]=0 then(if s.live=Xd/\(0<s.ars.length\/0< (qS s.tb Jr 64).length)then 7 else 0)else zu [(wrL s.ars).1,tbW s.tb]:=by
 unfold spE;simp only[zY,za1]
 by_cases h1:(wrL s.ars).1=0
 ·by_cases h2:tbW s.tb=0
  ·simp only[h1,h2,ne_eq,not_true,if_false,if_true];have hp:(0< (qS s.tb Jr 64).length)↔¬s.tb.all (·.isEmpty)=Xc:=by
    rw[QD,List.length_map,<-ze2 h2 h8,Xx]
   have ha:(0<s.ars.length)↔¬s.ars.isEmpty=Xc:=by
    rw[Xx];simp
   simp only[hp,ha]
   cases s.live <;> cases s.ars.isEmpty <;> cases s.tb.all (·.isEmpty) <;> simp
  simp[h1,h2]
 simp[h1]
theorem zcS (x:SpV) (s:Sp) (w:Xo) (hs:qN w x s):
  Xq prog 157 #[Xi #[Xh x.live,x.ar.x,x.t0.x,x.t1.x,x.t2.x,x.t3.x,x.t4.x,x.t5.x,x.t6.x,x.t7.x]] w fun e w'=>e= Xl (I6 (spE s))/\zc w w':=by
 have HC1:Xp (∀W,zc w W->Xq prog 191 #[x.ar.x] W fun e w'=>e= Xl (Xi #[I6 (wrL s.ars).1,I6 (wrL s.ars).2])/\zc W w'):=dD<|fun W hW=>zf6 _ s.ars W (hs.grew hW).ar
 have HC2:Xp (∀W,zc w W->Xq prog 180 #[Xi #[x.t0.x,x.t1.x,x.t2.x,x.t3.x,x.t4.x,x.t5.x,x.t6.x,x.t7.x]] W fun e w'=>e= Xl (I6 (tbW s.tb))/\zc W w'):=dD<|fun W hW=>zbI x.tab s.tb W (hs.grew hW).tb
 have HC3:Xp (∀W,zc w W->Xq prog 107 #[Xi #[x.t0.x,x.t1.x,x.t2.x,x.t3.x,x.t4.x,x.t5.x,x.t6.x,x.t7.x]] W fun e w'=>∃v,e= Xl v/\zb blE W.heap.size w' v (qS s.tb Jr 64)/\zc W w'):=dD<|fun W hW=>J1 x.tab s.tb W (hs.grew hW).tb
 have hlv:=hs.live;have hn:=hs.ar.n;rw[zlk hs.tb.tlen,<-hlv,<-hn];clear hs;obtain⟨E0,HE0⟩:=kA (zu [(wrL s.ars).1,tbW s.tb]);obtain⟨PL,HPL⟩:=kA (qS s.tb Jr 64);rw[HE0.out,HPL.out];rw[HPL.out]at HC3;clear hlv hn;obtain⟨W0,hW0⟩:=kB (w.alloc (Xk #[Xh x.live,x.ar.x,x.t0.x,x.t1.x,x.t2.x,x.t3.x,x.t4.x,x.t5.x,x.t6.x,x.t7.x] 63));have HG0:=gA hW0
 have X0:=xA hW0
 have HW0:Xp (_=W0):=hW0;clear hW0;obtain⟨Z,HZ⟩:=kA (if E0=0 then(if x.live=Xd/\(0<x.ar.n\/0<PL.length)then 7 else 0)else E0);rw[HZ.out]
 go_enter func157,ntmps157
 go_upto_region 1 with fail;rw[HW0.out];have hx1:=X0.gw 1 rfl
 have hx2:=X0.gw 2 rfl
 have hx3:=X0.gw 3 rfl
 have hx4:=X0.gw 4 rfl
 have hx5:=X0.gw 5 rfl
 have hx6:=X0.gw 6 rfl
 have hx7:=X0.gw 7 rfl
 have hx8:=X0.gw 8 rfl
 have hx9:=X0.gw 9 rfl
 have hne:Nonempty (zn W0):=⟨⟨_,zc.refl _⟩⟩;have hfd:=fun(y:zn W0)=>zjB (wrL s.ars).1 (wrL s.ars).2 y.world
 refine ji [(2,⟨fun v=>v= Xi #[I6 (wrL s.ars).1,I6 (wrL s.ars).2],fun v w'=>True⟩),(6,⟨fun v=>v=I6 (tbW s.tb),fun v w'=>True⟩),(7,⟨fun v=>∃g,v= O (Xa ⟨g,0,Xb⟩) 2 2,fun v w'=>zm zi9 w' v [(wrL s.ars).1,tbW s.tb]⟩),(8,⟨fun v=>v=I6 (zu [(wrL s.ars).1,tbW s.tb]),fun v w'=>True⟩)] zW (by kernel_rfl) ?hS ?hp ?_
 case hS=>
  intro x hx;simp only[mC,nM,or_false]at hx
  rcases hx with rfl|rfl|rfl|rfl
  ·exact⟨_,rfl⟩
  ·exact⟨_,rfl⟩
  ·exact⟨_,0,rfl⟩
  exact⟨_,rfl⟩
 case hp=>
  intro x hx;simp only[mC,nM,or_false]at hx
  rcases hx with rfl|rfl|rfl|rfl
  ·exact fun _ _ _ _ h=>h
  ·exact fun _ _ _ _ h=>h
  ·exact fun _ _ _ hg h=>zm.grew h hg
  exact fun _ _ _ _ h=>h
 iterate 2 (refine zd rfl rfl rfl (fun K hK=>?_);go_big_quiet_op;refine hK _ ?_;clear hK)
 refine zE rfl rfl (fun w' hg hF=>?_) (fun v1 hv=>?_)
 ·refine zQ.call [x.ar.x] rfl func191 rfl rfl rfl ?_;refine(HC1 w' (HG0.trans hg)).mono ?_;rintro e w'' ⟨rfl,hg2⟩;exact⟨_,rfl,hg2,rfl,trivial⟩
 subst hv;simp only[Xv,sB,sS,sZ];iterate 3 (refine zd rfl rfl rfl (fun K hK=>?_);go_big_quiet_op;refine hK _ ?_;clear hK)
 refine zE rfl rfl (fun w' hg hF=>?_) (fun v1 hv=>?_)
 ·refine zQ.call [Xi #[x.t0.x,x.t1.x,x.t2.x,x.t3.x,x.t4.x,x.t5.x,x.t6.x,x.t7.x]] rfl func180 rfl rfl rfl ?_;refine(HC2 w' (HG0.trans hg)).mono ?_;rintro e w'' ⟨rfl,hg2⟩;exact⟨_,rfl,hg2,rfl,trivial⟩
 subst hv;simp only[Xv,sB,sS,sZ];refine zE rfl rfl (fun w' hg hF=>?_) (fun v1 hv=>?_)
 ·have hnew:zm zi9 (w'.alloc (Xk #[I6 ((wrL s.ars).1),I6 (tbW s.tb)] 45)) (O (Xa ⟨w'.heap.size,0,Xb⟩) 2 2) [(wrL s.ars).1,tbW s.tb]:=zdO zi9 w' [(wrL s.ars).1,tbW s.tb] _ rfl (show 2*8<=140737488355328 by decide)
  refine zQ.step (v:= O (Xa ⟨w'.heap.size,0,Xb⟩) 2 2) (w':=w'.alloc (Xk #[I6 ((wrL s.ars).1),I6 (tbW s.tb)] 45)) (by simp only[execOp];go_simp) ⟨za _ _,⟨_,rfl⟩,hnew⟩
 obtain⟨g7,rfl⟩:=hv;simp only[Xv,sB,sS,sZ];refine zE rfl rfl (fun w' hg hF=>?_) (fun v1 hv=>?_)
 ·have h7:zm zi9 w' (O (Xa ⟨g7,0,Xb⟩) 2 2) [(wrL s.ars).1,tbW s.tb]:=hF 7 (by kernel_rfl)
  refine zQ.call [O (Xa ⟨g7,0,Xb⟩) 2 2] rfl func126 rfl rfl rfl ?_;refine(zb7 _ _ w' h7).mono ?_;rintro e w'' ⟨rfl,rfl⟩;exact⟨_,rfl,zc.refl _,rfl,trivial⟩
 subst hv;simp only[Xv,sB,sS,sZ];iterate 1 (refine zd rfl rfl rfl (fun K hK=>?_);go_big_quiet_op;refine hK _ ?_;clear hK)
 refine z6 fun W3 hg1 hF=>?_
 have G3:=dD (HG0.trans hg1);have X3:=dD (X0.grew hg1);clear hg1 hF hx1 hx2 hx3 hx4 hx5 hx6 hx7 hx8 hx9 hne hfd;rw[HE0.out]
 by_cases h0:E0=0
 ·have h0e:(E0 != 0)=Xd:=by simp[h0]
  rw[kE h0]at HZ;have HE:Xp (E0=0):=h0;clear h0;obtain⟨x0,x1,x2,x3,x4,x5,x6,x7,x8,x9⟩:=X3.c10
  cases hlv:x.live with
  | true=>
   rw[hlv]at HZ x0;have HR:Xp (Z=0):=dD<|by rw[<-HZ.out,kF (by simp)]
   clear x2 x3 x4 x5 x6 x7 x8 x9;go_wp2;go_ret;exact⟨by rw[HR.out];rfl,G3⟩
  | false=>
   rw[hlv]at HZ x0
   by_cases h1:0<x.ar.n
   ·have h1z:(0:Int)< (x.ar.n:Int):=by omega
    have HR:Xp (Z=7):=dD<|by rw[<-HZ.out,kE ⟨rfl,.inl h1⟩]
    clear x2 x3 x4 x5 x6 x7 x8 x9;go_wp2;go_ret;exact⟨by rw[HR.out];rfl,G3⟩
   have h1z:¬(0:Int)< (x.ar.n:Int):=by omega
   have hc3:=HC3.out W3 G3.out;have HN1:Xp (¬0<x.ar.n):=h1;clear h1;go_wp2_with fail;refine hc3.mono ?_;clear hc3 x0 x1 x2 x3 x4 x5 x6 x7 x8 x9;rintro e W4 ⟨v,rfl,ow4,g4⟩;have HG4:=dD (G3.trans g4);obtain⟨va,vc,rfl⟩:=ow4.form;clear ow4 g4
   by_cases h2:0<PL.length
   ·have h2z:(0:Int)< (PL.length:Int):=by omega
    have HR:Xp (Z=7):=dD<|by rw[<-HZ.out,kE (by first | exact⟨rfl,.inr h2⟩ | exact⟨trivial,.inr h2⟩)]
    go_wp2;go_ret;exact⟨by rw[HR.out];rfl,HG4⟩
   have h2z:¬(0:Int)< (PL.length:Int):=by omega
   have HR:Xp (Z=0):=dD<|by rw[<-HZ.out,kF (fun h=>h.2.elim HN1.out h2)]
   go_wp2;go_ret;exact⟨by rw[HR.out];rfl,HG4⟩
 have h0e:(E0 != 0)=Xc:=by simp[h0]
 rw[kF h0]at HZ;clear h0;go_wp2;go_ret;exact⟨by rw[<-HZ.out];rfl,G3⟩
def zjb (W:Xo) (y:Addr) (x:SpV):Prop:=W.cell? y=Xa (Xh x.live)/\W.cell? { block:=y.block,off:=y.off+1 }=Xa (x.ar.x)/\W.cell? { block:=y.block,off:=y.off+2 }=Xa (x.t0.x)/\W.cell? { block:=y.block,off:=y.off+3 }=Xa (x.t1.x)/\W.cell? { block:=y.block,off:=y.off+4 }=Xa (x.t2.x)/\W.cell? { block:=y.block,off:=y.off+5 }=Xa (x.t3.x)/\W.cell? { block:=y.block,off:=y.off+6 }=Xa (x.t4.x)/\W.cell? { block:=y.block,off:=y.off+7 }=Xa (x.t5.x)/\W.cell? { block:=y.block,off:=y.off+8 }=Xa (x.t6.x)/\W.cell? { block:=y.block,off:=y.off+9 }=Xa (x.t7.x)
theorem jz.sp10 {y:Addr} {x:SpV} (h:jz W y (spv x)):zjb W y x:=⟨h 0 _ rfl,h 1 _ rfl,h 2 _ rfl,h 3 _ rfl,h 4 _ rfl,h 5 _ rfl,h 6 _ rfl,h 7 _ rfl,h 8 _ rfl,h 9 _ rfl⟩
theorem zN.spaces {w:Xo} (h:zN w V m):∃xs:List SpV,xs.length=m.sp.length/\(∀(j:Nat) x,xs[j]? =Xa x->∃ad,V.sp.a=Xa ad/\∀W,zc w W->zjb W (ad.add (j*10)) x)/\∀(i:Nat) x s,xs[i]? =Xa x->m.sp[i]? =Xa s->qN w x s:=by
 obtain⟨xs,h1,h2,h3⟩:=h.sp;refine⟨xs,h2,fun j x hj=>?_,h3⟩
 obtain⟨ad,h4,h5⟩:=h1.rowsAt j x hj;exact⟨ad,h4,fun W hW=>(h5 W hW).sp10⟩
theorem zbK (V:MaV) (m:Ma) (w:Xo) (hm:zN w V m):
  Xq prog 113 #[Xi (mL V m).toArray] w fun e w'=>e= Xl (I6 (Zp m))/\zc w w':=by
 obtain⟨vf,vs,vsb,vsq,vdb,vdq,vfl,vca,⟨spa,spn,spc⟩⟩:=V;dsimp only[mL];obtain⟨-,-,-,-,-,-,-,-,n9⟩:=hm.ns;dsimp only at n9;obtain⟨xs,hxl,hrow,hsp⟩:=hm.spaces;have HXL:Xp (xs.length=m.sp.length):=hxl;have HR:Xp (∀(j:Nat) x,xs[j]? =Xa x->∃ad,spa=Xa ad/\∀W,zc w W->zjb W (ad.add (j*10)) x):=hrow;have HSP:Xp (∀(i:Nat) x s,xs[i]? =Xa x->m.sp[i]? =Xa s->qN w x s):=hsp;have HN:Xp (m.sp.length=spn):=n9.symm;obtain⟨Z,HZ⟩:=kA (Zp m);rw[HZ.out];have HZ2:Xp ((if 4<spn then 4 else zu (m.sp.map spE))=Z):=show _=_ by rw[<-HZ.out,<-HN.out];rfl
 clear hm hxl hrow hsp n9;obtain⟨W0,hW0⟩:=kB (w.alloc (Xk #[vf.x,I6 m.hand,vs.x,vsb.x,vsq.x,vdb.x,vdq.x,vfl.x,I6 m.cnt,vca.x,O spa spn spc] 41));have HG0:=gA hW0
 have X0:=xA hW0
 have HW0:Xp (_=W0):=hW0;clear hW0
 by_cases h4:4<spn
 ·have h4z:=kC h4
  have HE:Xp (Z=4):=dD<|by rw[<-HZ2.out,kE h4]
  go_enter func113,ntmps113
  go_upto_region 1 with fail;rw[HW0.out];have x10:=X0.c 10 rfl;go_wp2;go_ret;exact⟨by rw[HE.out];rfl,HG0⟩
 have h4z:=kD h4
 have hs4:spn<=4:=by omega
 have HZ3:Xp (zu (m.sp.map spE)=Z):=dD<|by rw[<-HZ2.out,kF h4]
 clear h4
 go_enter func113,ntmps113
 go_upto_region 1 with fail;rw[HW0.out];have x10:=X0.c 10 rfl;go_wp2;clear x10
 go_loopg [13] spn (fun gg s13 wr=>∃kk:Nat,kk<=spn/\spn - kk<=gg/\s13=I6 kk/\Xp (zc w wr)/\Xp (∀(j:Nat) s,j<kk->m.sp[j]? =Xa s->spE s=0))
 case atStart=>exact⟨0,nZ _,by omega,rfl,HG0,fun j s hj=>absurd hj (nL _)⟩
 obtain⟨kk,hkk,hgg,rfl,BW,OW⟩:=hrel
 by_cases hlt:kk<spn
 ·have hltz:=kC hlt
  obtain⟨s,HS⟩:∃s,Xp (m.sp[kk]? =Xa s):=⟨_,gE (by rw[HN.out];exact hlt)⟩
  obtain⟨x,HX⟩:∃x,Xp (xs[kk]? =Xa x):=⟨_,gE (by rw[HXL.out,HN.out];exact hlt)⟩
  obtain⟨ad,rfl,hl⟩:=HR.out kk x HX.out;obtain⟨d0,d1,d2,d3,d4,d5,d6,d7,d8,d9⟩:=hl wr BW.out;have hcall:=zcS x s _ ((HSP kk x s HX HS).grew (BW.trans (za wr (Xk #[Xh x.live,x.ar.x,x.t0.x,x.t1.x,x.t2.x,x.t3.x,x.t4.x,x.t5.x,x.t6.x,x.t7.x] 63))));clear hl;obtain⟨e,HEE⟩:=kA (spE s);rw[HEE.out]at hcall;go_upto_region 6 with fail;clear d0 d1 d2 d3 d4 d5 d6 d7 d8 d9;go_wp2_with fail;refine hcall.mono ?_;clear hcall;rintro e' W4 ⟨rfl,hg4⟩;have HG4:=dD ((BW.trans (za _ _)).trans hg4);clear hg4
  by_cases h0:e=0
  ·have h0e:(e != 0)=Xd:=by simp[h0]
   have OW':Xp (∀(j:Nat) s,j<kk+1->m.sp[j]? =Xa s->spE s=0):=dD<|fun j s hj hs=>by
    by_cases ej:j=kk
    ·subst ej;rw[HS.out]at hs;cases hs;rw[HEE.out];exact h0
    exact OW j s (by omega) hs
   clear h0;go_wp2
   go_roundg (spn -(kk+1))
   case measure=>omega
   exact⟨kk+1,by omega,by omega,by go_num,HG4,OW'⟩
  have h0e:(e != 0)=Xc:=by simp[h0]
  have HE:Xp (Z=e):=dD<|by rw[<-HZ3.out,Zl HS OW (by rw[HEE.out];exact h0)];exact HEE.out
  clear h0;go_wp2;go_ret;exact⟨by rw[HE.out];rfl,HG4⟩
 have hltz:=kD hlt
 have:kk=spn:=by omega
 subst this;have HE:Xp (Z=0):=dD<|by rw[<-HZ3.out];exact Qq fun j s hs=>OW.out j s (by rw[<-HN.out];exact(gS.1 hs).1) hs
 go_wp2;go_ret;exact⟨by rw[HE.out];rfl,BW⟩
def JZ (l:List Ca) (k:Nat):Option Ca:=match k with | 0=>Xb | k+1=>l[k]?
theorem znt {p:Option Ca} {c:Ca} (h:caE m Xb c≠0):caE m p c=caE m Xb c:=by
 unfold caE at h⊢
 by_cases h1:c.file<0\/(m.fl.length:Int)<=c.file\/c.idx<0\/bkN m c.file<=c.idx\/c.fr<0\/(m.fs.length:Int)<=c.fr
 ·simp only[kE h1]
 simp only[kF h1]at h⊢
 by_cases h2:(z8 m c.fr).r=0\/(z8 m c.fr).f≠c.file\/(z8 m c.fr).x≠c.idx
 ·simp only[kE h2]
 simp only[kF h2]at h;exact absurd rfl h
theorem zfO {q c:Ca} (h:caE m Xb c=0):caE m (Xa q) c=if qm c<=qm q then 2 else 0:=by
 unfold caE at h⊢
 split at h
 ·cases h
 rename_i h1
 rw[kF h1]
 split at h
 ·cases h
 rename_i h2
 rw[kF h2]
theorem zhG {l:List Ca} {k:Nat} {c:Ca} {Z:Int} (h:zbF m (JZ l k) (l.drop k)=Z) (hc:l[k]? =Xa c) (hn:caE m (JZ l k) c≠0):Z=caE m (JZ l k) c:=by
 rw[jP hc]at h;unfold zbF at h;rw[kF hn]at h;exact h.symm
theorem zfN {l:List Ca} {k:Nat} {c:Ca} {Z:Int} (h:zbF m (JZ l k) (l.drop k)=Z) (hc:l[k]? =Xa c) (hn:caE m (JZ l k) c=0):zbF m (JZ l (k+1)) (l.drop (k+1))=Z:=by
 rw[jP hc]at h;unfold zbF at h;rw[kE hn]at h
 show zbF m (l[k]?) _=Z
 rw[hc];exact h
theorem zcU (V:MaV) (m:Ma) (w:Xo) (hm:zN w V m) (h1:zfW m):
  Xq prog 114 #[Xi (mL V m).toArray] w fun e w'=>e= Xl (I6 (zc7 m))/\zc w w':=by
 have HWC:Xp (∀(c:Ca) W,zc w W->Xq prog 158 #[Xi (mL V m).toArray,Xi #[I6 c.file,I6 c.idx,I6 c.fr]] W fun e w'=>e= Xl (I6 (caE m Xb c))/\zc W w'):=dD<|fun c W hW=>zbO V m c W (hm.grew hW)
 obtain⟨vf,vs,vsb,vsq,vdb,vdq,vfl,⟨caa,can,cac⟩,vsp⟩:=V;dsimp only[mL]at HWC⊢;obtain⟨-,-,-,-,-,-,-,n8,-⟩:=hm.ns;dsimp only at n8;have HR:Xp (zbm w caa m.ca):=hm.cas;have HN:Xp (m.ca.length=can):=n8.symm;have hbig:can<=9223372036854775807:=by have:=hm.ca.short;omega
 have HIX:Xp (∀c p,caE m p c=0->0<=c.idx/\c.idx<100):=dD<|fun c p h=>zns h1.st h
 obtain⟨Z,HZ⟩:=kA (zc7 m);rw[HZ.out];have HZ2:Xp (zbF m (JZ m.ca 0) (m.ca.drop 0)=Z):=HZ.out;clear hm n8 h1;obtain⟨W0,hW0⟩:=kB (w.alloc (Xk #[vf.x,I6 m.hand,vs.x,vsb.x,vsq.x,vdb.x,vdq.x,vfl.x,I6 m.cnt,O caa can cac,vsp.x] 41));have HG0:=gA hW0
 have X0:=xA hW0
 have HW0:Xp (_=W0):=hW0;clear hW0
 go_enter func114,ntmps114
 go_upto_region 1 with fail;rw[HW0.out];have x9:=X0.c 9 rfl;go_wp2;clear x9
 go_loopg [9] can (fun gg s9 wr=>∃kk:Nat,kk<=can/\can - kk<=gg/\s9=I6 kk/\Xp (zc w wr)/\Xp (Box wr w.heap.size [vf.x,I6 m.hand,vs.x,vsb.x,vsq.x,vdb.x,vdq.x,vfl.x,I6 m.cnt,O caa can cac,vsp.x])/\Xp (zbF m (JZ m.ca kk) (m.ca.drop kk)=Z)/\Xp (∀(j:Nat) c,j<kk->m.ca[j]? =Xa c->0<=c.idx/\c.idx<100))
 case atStart=>exact⟨0,nZ _,by omega,rfl,HG0,X0,HZ2,fun j c hj=>absurd hj (nL _)⟩
 obtain⟨kk,hkk,hgg,rfl,BW,XW,GW,OW⟩:=hrel
 by_cases hlt:kk<can
 ·have hltz:=kC hlt
  obtain⟨c,HC⟩:∃c,Xp (m.ca[kk]? =Xa c):=⟨_,gE (by rw[HN.out];exact hlt)⟩
  obtain⟨ad,rfl,hl⟩:=HR.out kk c HC.out;obtain⟨d0,d1,d2⟩:=hl wr BW.out;clear hl;go_upto_region 4 with fail;obtain⟨W1,hW1⟩:=kB (wr.alloc (Xk #[I6 c.file,I6 c.idx,I6 c.fr] 120));have HG1:=gT hW1 BW
  have X1:=yA hW1 XW
  have C1:=xA hW1
  rw[hW1];clear hW1 d0 d1 d2;obtain⟨pb,HPB⟩:=kA wr.heap.size;rw[HPB.out]at C1⊢;have hcall:=HWC.out c W1 HG1.out;obtain⟨e,HEE⟩:=kA (caE m Xb c);rw[HEE.out]at hcall;obtain⟨x0,x1,x2,x3,x4,x5,x6,x7,x8,x9,x10⟩:=X1.c11;obtain⟨c0,c1,c2⟩:=C1.c3;go_wp2_with fail;refine hcall.mono ?_;clear hcall x0 x1 x2 x3 x4 x5 x6 x7 x8 x9 x10 c0 c1 c2;rintro e' W2 ⟨rfl,hg2⟩;have HG2:=dD (HG1.trans hg2);have X2:=dD (X1.grew hg2);have C2:=dD (C1.grew hg2);clear hg2
  by_cases h0:e=0
  ·have h0e:(e != 0)=Xd:=by simp[h0]
   have HE0:Xp (caE m Xb c=0):=dD<|by rw[HEE.out];exact h0
   have HCI:Xp (0<=c.idx/\c.idx<100):=HIX.out c Xb HE0.out;have OW':Xp (∀(j:Nat) c,j<kk+1->m.ca[j]? =Xa c->0<=c.idx/\c.idx<100):=show∀(j:Nat) c,_ from fun j c' hj hc=>by
    by_cases ej:j=kk
    ·subst ej;rw[HC.out]at hc;cases hc;exact HCI.out
    exact OW j c' (by omega) hc
   clear h0;go_upto_region 7 with fail
   cases kk with
   | zero=>
    have GN:Xp (zbF m (JZ m.ca 1) (m.ca.drop 1)=Z):=zfN GW HC HE0.out;have hz0:¬(0:Int)< ((0:Nat):Int):=by decide
    have hz1:decide ((0:Int)< ((0:Nat):Int))=Xd:=by decide
    go_quiet (fail);go_wp2
    go_roundg (can - 1)
    case measure=>omega
    exact⟨1,by omega,by omega,by go_num,HG2.trans (show Below _ _ _ from bD (bR _ _) _),X2.grew (show Below _ _ _ from bD (bR _ _) _),GN,OW'⟩
   | succ j=>
    obtain⟨b,HB⟩:∃b,Xp (m.ca[j]? =Xa b):=⟨_,gE (by rw[HN.out];omega)⟩
    have HBI:Xp (0<=b.idx/\b.idx<100):=OW.out j b (by omega) HB.out
    have hz0:(0:Int)< ((j+1:Nat):Int):=by omega
    have hz1:decide ((0:Int)< ((j+1:Nat):Int))=Xc:=by simp
    have hj1:((j+1:Nat):Int) - 1=(j:Int):=by omega
    have hjn:(j:Int)< (can:Int):=by omega
    obtain⟨ad',had,hl⟩:=HR.out j b HB.out;obtain rfl:ad=ad':=by cases had;rfl
    have hx9:=X2.gw 9 rfl
    have hc0:=C2.gw 0 rfl
    have hc1:=C2.gw 1 rfl
    have hc2:=C2.gw 2 rfl
    have hy0:∀y:zn W2,y.world.cell? (ad.add (j*3))=Xa (I6 b.file):=fun y=>(hl _ (HG2.trans y.grew)).1
    have hy1:∀y:zn W2,y.world.cell? { block:=(ad.add (j*3)).block,off:=(ad.add (j*3)).off+1 }=Xa (I6 b.idx):=fun y=>(hl _ (HG2.trans y.grew)).2.1
    have hy2:∀y:zn W2,y.world.cell? { block:=(ad.add (j*3)).block,off:=(ad.add (j*3)).off+2 }=Xa (I6 b.fr):=fun y=>(hl _ (HG2.trans y.grew)).2.2
    have hne:Nonempty (zn W2):=⟨⟨_,zc.refl _⟩⟩;clear hl had;have HAK:Xp (Qa b c=decide (¬qm c<=qm b)):=zk1 HBI HCI.out;refine ji [(10,⟨fun v=>v= Xh (Qa b c),fun v w'=>True⟩)] zW (by kernel_rfl) ?hS ?hp ?_
    case hS=>
     intro x hx;simp only[mC,nM,or_false]at hx;subst hx;exact⟨_,rfl⟩
    case hp=>
     intro x hx;simp only[mC,nM,or_false]at hx;subst hx;exact fun _ _ _ _ h=>h
    iterate 10 (refine zd rfl rfl rfl (fun K hK=>?_);go_big_quiet_op;refine hK _ ?_;clear hK)
    refine zE rfl rfl (fun w' hg hF=>?_) (fun v1 hv=>?_)
    ·refine zQ.call [Xi #[I6 b.file,I6 b.idx,I6 b.fr],Xi #[I6 c.file,I6 c.idx,I6 c.fr]] rfl func159 rfl rfl rfl ?_;refine(zgy b c w').mono ?_;rintro e w'' ⟨rfl,hg3⟩;exact⟨_,rfl,hg3,rfl,trivial⟩
    subst hv;simp only[Xv,sB,sS,sZ];iterate 2 (refine zd rfl rfl rfl (fun K hK=>?_);go_big_quiet_op;refine hK _ ?_;clear hK)
    refine z6 fun W3 hg3 hF=>?_
    have HG3:=dD (HG2.trans hg3);have X3:=dD (X2.grew hg3);clear hg3 hF hx9 hc0 hc1 hc2 hy0 hy1 hy2 hne
    cases hab:Qa b c with
    | true=>
     have GN:Xp (zbF m (JZ m.ca (j+1+1)) (m.ca.drop (j+1+1))=Z):=zfN GW HC (by
      have hp:JZ m.ca (j+1)=Xa b:=HB.out;rw[hp,zfO HE0.out,kF];have:=HAK.out;rw[hab]at this
      simpa using this)
     go_wp2
     go_roundg (can -(j+1+1))
     case measure=>omega
     exact⟨j+1+1,by omega,by omega,by go_num,HG3,X3,GN,OW'⟩
    | false=>
     have HZE:Xp (Z=2):=dD<|by
      have hp:JZ m.ca (j+1)=Xa b:=HB.out;have h2:caE m (JZ m.ca (j+1)) c=2:=by
       rw[hp,zfO HE0.out,kE];have:=HAK.out;rw[hab]at this
       simpa using this
      rw[zhG GW HC (by rw[h2];decide),h2]
     go_wp2;go_ret;exact⟨by rw[HZE.out];rfl,HG3⟩
  have h0e:(e != 0)=Xc:=by simp[h0]
  have HZE:Xp (Z=e):=dD<|by
   have h2:caE m (JZ m.ca kk) c=e:=by rw[znt (by rw[HEE.out];exact h0),HEE.out]
   rw[zhG GW HC (by rw[h2];exact h0),h2]
  clear h0;go_wp2;go_ret;exact⟨by rw[HZE.out];rfl,HG2⟩
 have hltz:=kD hlt
 have:kk=can:=by omega
 subst this;have HZE:Xp (Z=0):=dD<|by
  rw[<-GW.out,Xu (by rw[HN.out];exact nR _)]
  cases JZ m.ca kk <;> rfl
 go_wp2;go_ret;exact⟨by rw[HZE.out];rfl,BW⟩
structure QO (lo hi:Nat) (w:Xo) (x:SpV) (s:Sp):Prop where
 live:x.live=s.live
 ar:zb arE lo w x.ar.v s.ars
 tb:jf lo w x.tab s.tb
 arh:∀g,x.ar.v.ownBlock=Xa g->g<hi
 tbh:∀(i:Nat) v,x.tab[i]? =Xa v->∀g,v.ownBlock=Xa g->g<hi
theorem QO.grew {lo:Nat} {w:Xo} {x:SpV} {s:Sp} (h:QO lo hi w x s) (k:zc w w'):QO lo hi w' x s:=⟨h.live,h.ar.grew k,h.tb.grew k,h.arh,h.tbh⟩
theorem QO.at {lo:Nat} {w:Xo} {x:SpV} {s:Sp} (h:QO lo hi w x s):qN w x s:=⟨h.live,h.ar.at,h.ar.cap,h.tb.new.now⟩
theorem jf.grown {base:Nat} {w:Xo} {t:List (List En)} {g:Nat} (h:jf base w vs t) (hg:w.grownBy w' (Xa g)) (hn:∀(i:Nat) v,vs[i]? =Xa v->v.ownBlock≠Xa g):jf base w' vs t:=
 ⟨h.len,h.tlen,fun i v x hv hx=>(h.row i v x hv hx).grown hg (fun b hb e=>by cases e;exact hn i v hv hb),h.two⟩
theorem QO.beside {lo:Nat} {w:Xo} {x:SpV} {s:Sp} {g:Nat} {cs:Array Xr} (h:QO lo hi w x s) (hg:w.grownBy w' (Xa g)) (ho:w.heap[g]? =Xa (Xk cs t (0,0))) (h1:t≠arE.ty) (h2:t≠enE.ty):QO lo hi w' x s:=by
 have key:∀{α:Type} {E:Elt α} {b:Nat} {v:Xr} {l:List α},zb E b w v l->t≠E.ty->∀k,v.ownBlock=Xa k->Xa g≠Xa k:=fun hr hne k hk e=>by
  cases e;obtain⟨ds,h3⟩:=hr.obj hk;rw[ho]at h3;cases h3;exact hne rfl
 refine⟨h.live,h.ar.grown hg (key h.ar h1),h.tb.grown hg (fun i v hv e=>?_),h.arh,h.tbh⟩
 obtain⟨y,hy⟩:∃y,s.tb[i]? =Xa y:=⟨_,gE (by rw[h.tb.tlen,<-h.tb.len];exact(gS.1 hv).1)⟩
 exact key (h.tb.row i v y hv hy) h2 g e rfl
def Qb (base:Nat) (w:Xo) (v:Xr) (ss:List Sp):Prop:=
 ∃(xs:List SpV) (B:Nat->Nat),zb Zh base w v xs/\xs.length=ss.length/\base<=B 0/\(∀i,B i<=B (i+1))/\∀(i:Nat) x s,xs[i]? =Xa x->ss[i]? =Xa s->QO (B i) (B (i+1)) w x s
theorem Qb.grew {base:Nat} {w:Xo} {v:Xr} {ss:List Sp} (h:Qb base w v ss) (k:zc w w'):Qb base w' v ss:=by
 obtain⟨xs,B,h1,h2,h3,h4,h5⟩:=h;exact⟨xs,B,h1.grew k,h2,h3,h4,fun i x s hx hs=>(h5 i x s hx hs).grew k⟩
theorem Qb.base {base:Nat} {w:Xo} {v:Xr} {ss:List Sp} (h:Qb base w v ss) (hb:base'<=base):Qb base' w v ss:=by
 obtain⟨xs,B,h1,h2,h3,h4,h5⟩:=h;exact⟨xs,B,h1.base hb,h2,by omega,h4,h5⟩
structure za8 (base:Nat) (w:Xo) (kk:Nat) (xs ys:List SpV) (ss:List Sp) (B:Nat->Nat):Prop where
 len:ys.length=xs.length
 own:∀(i:Nat) y s,i<kk->ys[i]? =Xa y->ss[i]? =Xa s->QO (B i) (B (i+1)) w y s
 rest:∀(i:Nat),kk<=i->ys[i]? =xs[i]?
 b0:base<=B 0
 mono:∀i,B i<=B (i+1)
 top:B kk<=w.heap.size
theorem za8.grew {base:Nat} {w:Xo} {xs ys:List SpV} {ss:List Sp} {B:Nat->Nat} (h:za8 base w kk xs ys ss B) (k:zc w w'):za8 base w' kk xs ys ss B:=⟨h.len,fun i y s hi hy hs=>(h.own i y s hi hy hs).grew k,h.rest,h.b0,h.mono,nT h.top (bS k)⟩
theorem zdW {B:Nat->Nat} (h:∀i,B i<=B (i+1)):∀{i j:Nat},i<=j->B i<=B j
 | i,0,hij=>by rw[show i=0 from by omega];exact nR _
 | i,j+1,hij=>by
  by_cases e:i=j+1
  ·subst e;exact nR _
  exact nT (zdW h (by omega)) (h j)
theorem ZG:Zh.ty≠arE.ty/\Zh.ty≠enE.ty:=by decide
theorem za8.step {base:Nat} {w:Xo} {xs ys:List SpV} {ss:List Sp} {B:Nat->Nat} {g:Nat} {cs:Array Xr} (h:za8 base w kk xs ys ss B) (hg:w.grownBy w' (Xa g)) (ho:w.heap[g]? =Xa (Xk cs Zh.ty (0,0))) (hsz:w'.heap.size=w.heap.size) {x:SpV} {s:Sp} (hx:xs[kk]? =Xa x) (hs:ss[kk]? =Xa s)
  {y:SpV} (hown:QO (B kk) w.heap.size w' y s):za8 base w' (kk+1) xs (ys.set kk y) ss (fun i=>if i<=kk then B i else w.heap.size):=by
 have hk:kk<ys.length:=by rw[h.len];exact(gS.1 hx).1
 refine⟨by simp[h.len],fun i z s' hi hz hs'=>?_,fun i hi=>?_,by simpa using h.b0,fun i=>?_,by rw[kF (by omega),hsz];exact nR _⟩
 ·by_cases e:i=kk
  ·subst e;rw[sF hk]at hz;cases hz;rw[hs]at hs';cases hs';rw[kE (nR _),kF (by omega)]
   exact hown
  rw[sN (fun h=>e h.symm)]at hz
  have h1:=(h.own i z s' (by omega) hz hs').beside hg ho ZG.1 ZG.2
  have e1:i<=kk:=by omega
  have e2:i+1<=kk:=by omega
  simpa [e1,e2]using h1
 ·rw[sN (by omega)]
  exact h.rest i (by omega)
 by_cases e1:i+1<=kk
 ·rw[kE (by omega),kE e1]
  exact h.mono i
 rw[kF e1]
 by_cases e2:i<=kk
 ·rw[kE e2];exact nT (zdW h.mono e2) h.top
 rw[kF e2];exact nR _
theorem za8.all {base:Nat} {w:Xo} {xs ys:List SpV} {ss:List Sp} {B:Nat->Nat} {v:Xr} (h:za8 base w xs.length xs ys ss B) (hl:xs.length=ss.length) (hv:zb Zh base w v ys):Qb base w v ss:=
 ⟨ys,B,hv,h.len.trans hl,h.b0,h.mono,fun i y s hy hs=>h.own i y s (by rw[<-h.len];exact(gS.1 hy).1) hy hs⟩
theorem zli {base:Nat} {w:Xo} {t:List (List En)} (h:jf base w us t):∃t0 t1 t2 t3 t4 t5 t6 t7:Sli,us=[t0.v,t1.v,t2.v,t3.v,t4.v,t5.v,t6.v,t7.v]:=by
 obtain⟨u0,u1,u2,u3,u4,u5,u6,u7,rfl⟩:=zkF h.len;obtain⟨y0,y1,y2,y3,y4,y5,y6,y7,rfl⟩:=zkF h.tlen;obtain⟨a0,c0,rfl⟩:=(h.row 0 _ _ rfl rfl).form;obtain⟨a1,c1,rfl⟩:=(h.row 1 _ _ rfl rfl).form;obtain⟨a2,c2,rfl⟩:=(h.row 2 _ _ rfl rfl).form;obtain⟨a3,c3,rfl⟩:=(h.row 3 _ _ rfl rfl).form;obtain⟨a4,c4,rfl⟩:=(h.row 4 _ _ rfl rfl).form;obtain⟨a5,c5,rfl⟩:=(h.row 5 _ _ rfl rfl).form;obtain⟨a6,c6,rfl⟩:=(h.row 6 _ _ rfl rfl).form;obtain⟨a7,c7,rfl⟩:=(h.row 7 _ _ rfl rfl).form;exact⟨⟨a0,_,c0⟩,⟨a1,_,c1⟩,⟨a2,_,c2⟩,⟨a3,_,c3⟩,⟨a4,_,c4⟩,⟨a5,_,c5⟩,⟨a6,_,c6⟩,⟨a7,_,c7⟩,rfl⟩
theorem zdR (v:Xr) (ss:List Sp) (w:Xo) (hv:QN w v ss):
  Xq prog 63 #[v] w fun e w'=>∃v',e= Xl v'/\Qb w.heap.size w' v' ss/\zc w w':=by
 obtain⟨xs,k1,k2,k3⟩:=hv;have HX:Xp (zm Zh w v xs):=k1;have HL:Xp (xs.length=ss.length):=k2;have HSP:Xp (∀(i:Nat) x s,xs[i]? =Xa x->ss[i]? =Xa s->qN w x s):=k3;have hbig:=k1.short;obtain⟨a,c,rfl,_⟩:=k1.rows;clear k1 k2 k3;obtain⟨n,HN⟩:=kA xs.length;rw[HN.out]at hbig HX⊢;have hcl:=zgO _ xs w HX.out
 go_enter func63,ntmps63
 go_wp2_with fail;refine hcl.mono ?_;clear hcl;rintro e W1 ⟨v1,rfl,ow1,g1⟩;obtain⟨xa,xc,rfl⟩:=ow1.form;rw[HN.out]at ow1⊢;have O1:Xp (zb Zh w.heap.size W1 (O xa n xc) xs):=ow1;have G1:Xp (zc w W1):=g1;clear ow1 g1;go_wp2
 go_loopg [10] n (fun gg s10 wr=>∃(kk:Nat) (ys:List SpV) (B:Nat->Nat),kk<=n/\n - kk<=gg/\s10=I6 kk/\Xp (zc w wr)/\Xp (zb Zh w.heap.size wr (O xa n xc) ys)/\Xp (za8 w.heap.size wr kk xs ys ss B))
 case atStart=>exact⟨0,xs,fun _=>W1.heap.size,nZ _,by omega,rfl,G1,O1,⟨rfl,fun i y f hi=>absurd hi (nL _),fun i _=>rfl,bS G1,fun i=>nR _,nR _⟩⟩
 obtain⟨kk,ys,B,hkk,hgg,rfl,BW,OW,HH⟩:=hrel
 by_cases hlt:kk<n
 ·have hltz:=kC hlt
  obtain⟨x,HXK⟩:∃x,Xp (xs[kk]? =Xa x):=⟨_,gE (by rw[HN.out];exact hlt)⟩
  obtain⟨s,HSK⟩:∃s,Xp (ss[kk]? =Xa s):=⟨_,gE (by rw[<-HL.out,HN.out];exact hlt)⟩
  have HAT:Xp (qN w x s):=HSP.out kk x s HXK HSK.out;have HY:Xp (ys[kk]? =Xa x):=show _=_ by rw[HH.rest kk (nR _)];exact HXK.out
  have HYL:Xp (ys.length=n):=dD<|by rw[HH.len,HN.out]
  obtain⟨g,xc',heq⟩:=OW.formS (by rw[HYL.out];omega)
  rw[HYL.out]at heq;cases heq;have hce:zjb wr ((Addr.mk g 0 Xb).add (kk*10)) x:=(OW.one HY).sp10;rw[Addr.add_lit,zA]at hce;obtain⟨d0,d1,d2,d3,d4,d5,d6,d7,d8,d9⟩:=hce;have HGB:Xp (w.heap.size<=g):=dD<|(OW.lt g rfl).1
  go_upto_region 5 with fail;clear d0 d1 d2 d3 d4 d5 d6 d7 d8 d9;obtain⟨W2,hW2⟩:=kB (wr.alloc (Xk #[Xh x.live,x.ar.x,x.t0.x,x.t1.x,x.t2.x,x.t3.x,x.t4.x,x.t5.x,x.t6.x,x.t7.x] 63));have HG2:=gT hW2 BW
  have S2:=xA hW2
  have OW2:Xp (zb Zh w.heap.size W2 (O (Xa ⟨g,0,Xb⟩) n xc) ys):=dD<|by rw[<-hW2];exact OW.grew (za _ _)
  have H2:Xp (za8 w.heap.size W2 kk xs ys ss B):=dD<|by rw[<-hW2];exact HH.grew (za _ _)
  have HGL:Xp (g<wr.heap.size):=dD<|(OW.lt g rfl).2
  rw[hW2];clear hW2;obtain⟨pb,HPB⟩:=kA wr.heap.size;rw[HPB.out]at S2 HGL⊢;have s1:=S2.c 1 rfl;have hca:=zgQ (x.ar.x) s.ars W2 (HAT.ar.grew HG2);go_wp2_with fail;refine hca.mono ?_;clear hca s1;rintro e W3 ⟨v3,rfl,ow3,g3⟩;have HCP:Xp (Cap v3):=ow3.cap;obtain⟨ra,rc,rfl⟩:=ow3.form;obtain⟨rn,HRN⟩:=kA s.ars.length;rw[HRN.out]at ow3⊢;have A3:Xp (zb arE W2.heap.size W3 (O ra rn rc) s.ars):=ow3;have HG3:=dD (HG2.trans g3);have S3:=dD (S2.grew g3);have OW3:=dD (OW2.grew g3);have H3:=dD (H2.grew g3);have HB2:Xp (B kk<=W2.heap.size):=H2.top;have HS2:Xp (W2.heap.size<=W3.heap.size):=show _<=_ from bS g3
  clear ow3 g3
  go_wp2_with (refine zB (E:=Zh) rfl (.tmp 21) (.tmp 19) 58 rfl w.heap.size _ ys OW3 g kk 1 rfl x { x with ar:=⟨ra,rn,rc⟩ } HY.out [O ra rn rc] ?s1 rfl ?s2 ?s3 ⟨g,kk*10+1,Xb⟩ rfl rfl (O ra rn rc) rfl rfl ?_)
  case s1=>kernel_rfl
  case s2=>show 1+1<=10;omega
  case s3=>simp;rfl
  intro W4 ow4 gr4 sz4;have HK4:Xp (∃cs,W3.heap[g]? =Xa (Xk cs Zh.ty (0,0))):=OW3.obj rfl;have HG4:Xp (zc w W4):=show zc _ _ from ze HG3 gr4 HGB.out
  have S4:Xp (Box W4 pb [Xh x.live,x.ar.x,x.t0.x,x.t1.x,x.t2.x,x.t3.x,x.t4.x,x.t5.x,x.t6.x,x.t7.x]):=S3.grown gr4 (by have:=HGL.out;omega)
  have OW4:Xp (zb Zh w.heap.size W4 (O (Xa ⟨g,0,Xb⟩) n xc) (ys.set kk { x with ar:=⟨ra,rn,rc⟩ })):=ow4;have A4:Xp (zb arE W2.heap.size W4 (O ra rn rc) s.ars):=A3.grown gr4 (fun b hb e=>by
   cases e;exact OW3.apart A3 ZG.1 g rfl hb)
  have H4:Xp (∀(i:Nat) y s',i<kk->ys[i]? =Xa y->ss[i]? =Xa s'->QO (B i) (B (i+1)) W4 y s'):=dD<|fun i y s' hi hy hs=>by
   obtain⟨cs,hcs⟩:=HK4.out;exact(H3.own i y s' hi hy hs).beside gr4 hcs ZG.1 ZG.2
  have HS4:Xp (W4.heap.size=W3.heap.size):=sz4;clear ow4 gr4 sz4;have hct:=ze6 x.tab s.tb W4 (HAT.grew HG4).tb;have hct':Xq prog 102 #[Xi #[x.t0.x,x.t1.x,x.t2.x,x.t3.x,x.t4.x,x.t5.x,x.t6.x,x.t7.x]] W4 fun e w'=>∃us,e= Xl (Xi us.toArray)/\jf (W4.heap.size+2) w' us s.tb/\zc W4 w'/\W4.heap.size+2<=w'.heap.size:=hct
  clear hct;have s2:=S4.c 2 rfl;have s3:=S4.c 3 rfl;have s4:=S4.c 4 rfl;have s5:=S4.c 5 rfl;have s6:=S4.c 6 rfl;have s7:=S4.c 7 rfl;have s8:=S4.c 8 rfl;have s9:=S4.c 9 rfl;go_wp2_with fail;refine hct'.mono ?_;clear hct' s2 s3 s4 s5 s6 s7 s8 s9;rintro e W5 ⟨us,rfl,ot5,g5,_⟩;obtain⟨t0,t1,t2,t3,t4,t5,t6,t7,rfl⟩:=zli ot5;have T5:Xp (jf (W4.heap.size+2) W5 [t0.v,t1.v,t2.v,t3.v,t4.v,t5.v,t6.v,t7.v] s.tb):=ot5;have HG5:=dD (HG4.trans g5);have OW5:=dD (OW4.grew g5);have A5:=dD (A4.grew g5);have H5:Xp (∀(i:Nat) y s',i<kk->ys[i]? =Xa y->ss[i]? =Xa s'->QO (B i) (B (i+1)) W5 y s'):=show∀(i:Nat) y s',_ from fun i y s' hi hy hs=>(H4 i y s' hi hy hs).grew g5
  have HS5:Xp (W4.heap.size<=W5.heap.size):=dD<|bS g5
  clear ot5 g5;have HYS:Xp ((ys.set kk { x with ar:=⟨ra,rn,rc⟩ })[kk]? =Xa { x with ar:=⟨ra,rn,rc⟩ }):=dD<|sF (by rw[HYL.out];exact hlt)
  go_wp2_with (refine zB (E:=Zh) rfl (.tmp 28) (.tmp 26) 61 rfl w.heap.size _ _ OW5 g kk 2 rfl { x with ar:=⟨ra,rn,rc⟩ } ⟨x.live,⟨ra,rn,rc⟩,t0,t1,t2,t3,t4,t5,t6,t7⟩ HYS.out [t0.v,t1.v,t2.v,t3.v,t4.v,t5.v,t6.v,t7.v] ?s1 rfl ?s2 ?s3 ⟨g,kk*10+2,Xb⟩ rfl rfl _ rfl rfl ?_)
  case s1=>kernel_rfl
  case s2=>show 2+8<=10;omega
  case s3=>
   intro u hu;simp only[mC,nM,or_false]at hu
   rcases hu with rfl|rfl|rfl|rfl|rfl|rfl|rfl|rfl <;> rfl
  intro W6 ow6 gr6 sz6;have HK6:Xp (∃cs,W5.heap[g]? =Xa (Xk cs Zh.ty (0,0))):=OW5.obj rfl;have HG6:Xp (zc w W6):=show zc _ _ from ze HG5 gr6 HGB.out
  have OW6:Xp (zb Zh w.heap.size W6 (O (Xa ⟨g,0,Xb⟩) n xc) (ys.set kk ⟨x.live,⟨ra,rn,rc⟩,t0,t1,t2,t3,t4,t5,t6,t7⟩)):=ow6;have HF6:Xp (za8 w.heap.size W6 (kk+1) xs (ys.set kk ⟨x.live,⟨ra,rn,rc⟩,t0,t1,t2,t3,t4,t5,t6,t7⟩) ss (fun i=>if i<=kk then B i else W5.heap.size)):=show za8 _ _ _ _ _ _ _ by
   obtain⟨cs,hcs⟩:=HK6.out;have h5:za8 w.heap.size W5 kk xs ys ss B:=⟨HH.len,H5,HH.rest,HH.b0,HH.mono,by have:=HB2.out;have:=HS2.out;have:=HS4.out;have:=HS5.out;omega⟩
   refine h5.step gr6 hcs sz6 HXK HSK.out ?_;have own5:QO (B kk) W5.heap.size W5 ⟨x.live,⟨ra,rn,rc⟩,t0,t1,t2,t3,t4,t5,t6,t7⟩ s:=⟨HAT.live,A5.base HB2,T5.base (by have:=HB2.out;have:=HS2.out;have:=HS4.out;omega),fun b hb=>(A5.lt b hb).2,fun i u hu b hb=>by
    obtain⟨y,hy⟩:∃y,s.tb[i]? =Xa y:=⟨_,gE (by rw[T5.tlen,<-T5.len];exact(gS.1 hu).1)⟩
    exact((T5.row i u y hu hy).lt b hb).2⟩
   exact own5.beside gr6 hcs ZG.1 ZG.2
  clear ow6 gr6 sz6;go_wp2
  go_roundg (n -(kk+1))
  case measure=>omega
  exact⟨kk+1,_,_,by omega,by omega,by go_num,HG6,OW6,HF6⟩
 have hltz:=kD hlt
 have:kk=n:=by omega
 subst this;have HA:Xp (Qb w.heap.size wr (O xa kk xc) ss):=dD<|by
  have h1:=HH.out;rw[<-HN.out]at h1;exact h1.all HL OW.out
 go_wp2;go_ret;exact⟨_,rfl,HA,BW⟩
theorem zcF (v:Xr) (fs:List Fr) (w:Xo) (hv:qf w v fs):
  Xq prog 96 #[v] w fun e w'=>∃v',e= Xl v'/\zh w.heap.size w' v' fs/\zc w w':=by
 have HV:Xp (qf w v fs):=hv;obtain⟨⟨a,c,rfl,hnone,hcells⟩,hbytes⟩:=hv;have q22:∀(w:Xo) (a:Option Addr) (n c n' c':Nat),(binOp .eql 26 (O a n c) (O Xb n' c')).run prog w= .ok (Xh a.isNone) w:=fun w a n c n' c'=>Lib.run_eql_slice_nil w _ _ a n c n' c' underlying26
 cases a with
 | none=>
  have hps:=hnone rfl;subst hps;clear hcells hnone hbytes
  go_enter func96,ntmps96
  go_wp2;go_ret;exact⟨_,rfl,zh.nil _ _,zc.refl w⟩
 | some x=>
  have HB:Xp (fs.length*40<=140737488355328):=hbytes;clear hcells hnone hbytes
  go_enter func96,ntmps96
  go_wp2_with (at_builtin;refine J8 rfl (.tmp 5) (.tmp 6) rfl w.heap.size _ [] rfl (zh.made w) _ fs rfl (HV.grew (za _ _)) ?qb (by simp) ?_)
  case qb=>rw[List.length_nil,zA];exact HB.out
  intro v' w1 hown hgrow;go_wp2;go_ret;exact⟨v',rfl,by simpa using hown,((bR _ w).alloc (nR _) _).grown hgrow (by simp) (by intro k hk;simp[Value.ownBlock]at hk;omega)⟩
theorem Jy (a:Option Addr) (c:Nat) (fs:List Fr) (h:Int) (w:Xo) (hv:qf w (O a fs.length c) fs):
  Xq prog 58 #[Xi #[O a fs.length c,I6 h]] w fun e w'=>∃b,e= Xl (Xi #[b,I6 h])/\zh w.heap.size w' b fs/\zc w w':=by
 have HV:Xp (qf w (O a fs.length c) fs):=hv;clear hv;obtain⟨n,HN⟩:=kA fs.length;rw[HN.out]at HV⊢
 go_enter func58,ntmps58
 go_wp2;obtain⟨W1,hW⟩:=kB ((w.alloc (Xk #[O a n c,I6 h] 28)).alloc (Xk #[eS,I6 0] 28));have hg1:=gD2 hW
 have hsz:Xp (W1.heap.size=w.heap.size+2):=dD<|by rw[<-hW];simp
 have X0:=x2a hW
 have X1:=x2b hW
 rw[hW];clear hW;have hx0:∀x:zn W1,x.world.cell? ⟨w.heap.size,0,Xb⟩=Xa (O a n c):=fun x=>(X0.grew x.grew).c 0 rfl
 have hx1:∀x:zn W1,x.world.cell? ⟨w.heap.size,1,Xb⟩=Xa (I6 h):=fun x=>(X0.grew x.grew).c 1 rfl
 have hne:Nonempty (zn W1):=⟨⟨_,zc.refl _⟩⟩;refine qR 6 [(2,⟨fun v=>∃a n c,v= O a n c,fun v w'=>zh (w.heap.size+2) w' v fs⟩)] zW (by kernel_rfl) rfl rfl (by decide) ?_ ?_ ?_
 ·intro x hx
  simp at hx
  subst hx;exact⟨_,Xb,0,0,rfl⟩
 ·intro x hx
  simp at hx
  subst hx;intro v w1 w2 hg h;exact h.grew hg
 simp only[List.take,List.drop];iterate 2 (refine zd rfl rfl rfl (fun K hK=>?_);go_big_quiet_op;refine hK _ ?_;clear hK)
 refine zE rfl rfl (fun w' hg hF=>?_) (fun v1 hv=>?_)
 ·refine zQ.call [O a n c] rfl func96 rfl rfl rfl ?_;refine(zcF _ fs w' (HV.grew (hg1.out.trans hg))).mono ?_;rintro e w'' ⟨v2,rfl,hb,hg2⟩;obtain⟨a2,c2,rfl⟩:=hb.form;exact⟨_,rfl,hg2,⟨_,_,_,rfl⟩,hb.base (by have:=bS hg;rw[hsz.out]at this;exact this)⟩
 obtain⟨a1,n1,c1,rfl⟩:=hv;simp only[Xv,sB,sS,sZ];iterate 3 (refine zd rfl rfl rfl (fun K hK=>?_);go_big_quiet_op;refine hK _ ?_;clear hK)
 refine z6 fun w' hg hF=>?_
 have ow1:Xp (zh (w.heap.size+2) w' (O a1 n1 c1) fs):=hF 2;have X2:=X1.grew hg;have m2:=X2.c 0 rfl;have m3:=X2.c 1 rfl;have g2:=X2.f;have HG:=dD (hg1.out.trans hg);clear hF hx0 hx1 hg hne;go_wp2;refine bodyPost_ret (v:= Xi #[O a1 n1 c1,I6 h]) (by simp[results,Tryz.results58,go_sem, *]) rfl ⟨_,rfl,((ow1.out.setCell (by simp) _).setCell (by simp) _).base (by omega),?_⟩
 exact Below.setCell (Below.setCell HG (p:=⟨w.heap.size+1,0,Xb⟩) (by simp) _) (p:=⟨w.heap.size+1,1,Xb⟩) (by simp) _
def isZ (z:Int):Bool:=z == 0
def zmI (fs:List Int):Int:=if fs.findIdx isZ<fs.length then(fs.findIdx isZ:Int)else -1
theorem zip (v:Xr) (fs:List Int) (w:Xo) (hv:zm slE w v fs):
  Xq prog 220 #[v,I6 0] w fun e w'=>e= Xl (I6 (zmI fs))/\zc w w':=by
 have hbig:=hv.short;obtain⟨a,c,rfl,hrow⟩:=hv.sls;have HR:Xp (zaK w a fs):=hrow;clear hrow hv;obtain⟨n,HN⟩:=kA fs.length;rw[HN.out]at hbig⊢
 go_enter func220,ntmps220
 go_wp2
 go_loopg [5,8] n (fun gg _ s8 wr=>∃kk:Nat,kk<=n/\n - kk<=gg/\s8=I6 kk/\Xp (zc w wr)/\Xp (∀j q,j<kk->fs[j]? =Xa q->isZ q=Xd))
 case atStart=>exact⟨0,nZ _,by omega,rfl,zc.refl w,fun j q hj=>absurd hj (nL _)⟩
 obtain⟨kk,hkk,hg,rfl,BW,A⟩:=hrel
 by_cases hlt:kk<n
 ·have hltz:=kC hlt
  obtain⟨q,HQ⟩:∃q,Xp (fs[kk]? =Xa q):=⟨_,gE (by rw[HN.out];exact hlt)⟩
  obtain⟨ad,rfl,hl⟩:=HR.out kk q HQ.out;have d0:=hl wr BW.out;clear hl
  by_cases hz:q=0
  ·have HF:Xp (zmI fs=(kk:Int)):=dD<|by unfold zmI;rw[zmd HQ (by simp[isZ,hz]) A,HN,kE hlt]
   have hzb:(q == 0)=Xc:=by simp[hz]
   have hzb':((0:Int) == q)=Xc:=by simp[hz]
   clear hz;go_wp2;go_ret;exact⟨by rw[HF.out];rfl,BW⟩
  have HA:Xp (∀(j:Nat) q,j<kk+1->fs[j]? =Xa q->isZ q=Xd):=dD<|fun j q' hj hq'=>by
   by_cases e:j=kk
   ·subst e;rw[HQ.out]at hq';cases hq'
    simpa [isZ]using hz
   exact A j q' (by omega) hq'
  have hzb:(q == 0)=Xd:=by simp[hz]
  have hzb':((0:Int) == q)=Xd:=by simp;omega
  clear hz;go_wp2
  go_roundg (n -(kk+1))
  case measure=>omega
  exact⟨kk+1,by omega,by omega,by go_num,BW,HA⟩
 have hltz:=kD hlt
 have:kk=n:=by omega
 subst this;have HF:Xp (zmI fs=-1):=dD<|by
  unfold zmI;rw[zmc (fun j q hj=>A.out j q (by rw[<-HN.out];exact(gS.1 hj).1) hj),kF (Nat.lt_irrefl _)]
 go_wp2;go_ret;exact⟨by rw[HF.out];rfl,BW⟩
theorem zdu (v:Xr) (fs:List Int) (w:Xo) (hv:zm slE w v fs):
  Xq prog 59 #[v] w fun e w'=>∃v',e= Xl v'/\zb slE w.heap.size w' v' fs/\zc w w':=by
 have HV:Xp (zm slE w v fs):=hv;obtain⟨⟨a,c,rfl,hnone,hcells⟩,hbytes⟩:=hv;have q22:∀(w:Xo) (a:Option Addr) (n c n' c':Nat),(binOp .eql 30 (O a n c) (O Xb n' c')).run prog w= .ok (Xh a.isNone) w:=fun w a n c n' c'=>Lib.run_eql_slice_nil w _ _ a n c n' c' underlying30
 cases a with
 | none=>
  have hps:=hnone rfl;subst hps;clear hcells hnone hbytes
  go_enter func59,ntmps59
  go_wp2;go_ret;exact⟨_,rfl,zb.nil _ _ _,zc.refl w⟩
 | some x=>
  have HB:Xp (fs.length*8<=140737488355328):=hbytes;clear hcells hnone hbytes
  go_enter func59,ntmps59
  go_wp2_with (at_builtin;refine zw (E:=slE) rfl (.tmp 5) (.tmp 6) rfl w.heap.size _ [] rfl (zb.made slE w) _ fs rfl (HV.grew (za _ _)) ?qb (by simp) ?_)
  case qb=>rw[List.length_nil,zA];exact HB.out
  intro v' w1 hown hgrow;go_wp2;go_ret;exact⟨v',rfl,by simpa using hown,((bR _ w).alloc (nR _) _).grown hgrow (by simp) (by intro k hk;simp[Value.ownBlock]at hk;omega)⟩
section
variable(I:Xo->Prop) (P:Program) (ops:Array Oper) (S:Nat->Option (Xr->Prop)) (R:Nat->Bool)
def jg (i:Nat) (F:Xo->Prop) (a:Act) (K:(Xo->Prop)->Act->Prop):Prop:=
 match ops[i]? with
 | none=>False
 | some o=>
  if Xt o (yielded ops a.tmps)then
   match S i with
   | none=>∃v,(∀w,I w->(R i=Xc->F w)->(execOp a.eval o).run P w= .ok (.value v) w)/\K F (a.put o.dst v)
   | some s=>∃p:Xr->Xo->Prop,(∀w,I w->F w->zQ P o a w fun v w'=>I w'/\s v/\p v w')/\∀v,s v->K (p v) (a.put o.dst v)
  else K F (a.put o.dst undef)
end
section
variable{I:Xo->Prop} {P:Program} {ops:Array Oper} {S:Nat->Option (Xr->Prop)} {R:Nat->Bool} {T:Nat}
theorem jg.mono {i:Nat} {F:Xo->Prop} {a:Act} {K K':(Xo->Prop)->Act->Prop}
  (h:∀F' a',K F' a'->K' F' a') (hc:jg I P ops S R i F a K):jg I P ops S R i F a K':=by
 unfold jg at*
 split
 ·rename_i ho;simp only[ho]at hc
 rename_i o ho
 simp only[ho]at hc
 split
 ·rename_i hw
  simp only[hw,if_true]at hc
  split
  ·rename_i hs
   simp only[hs]at hc;obtain⟨v,h1,h2⟩:=hc;exact⟨v,h1,h _ _ h2⟩
  rename_i s hs
  simp only[hs]at hc;obtain⟨p,hd,hc⟩:=hc;exact⟨p,hd,fun v hv=>h _ _ (hc v hv)⟩
 rename_i hw
 simp only[hw]at hc;exact h _ _ hc
theorem jg.swap {i:Nat} {oi:Oper} {F:Xo->Prop} {a:Act} {K:(Xo->Prop)->Act->Prop} {w:Xo}
  (hi:ops[i]? =Xa oi) (hj:ops[j]? =Xa oj) (hap:oi.apart ops oj=Xc)
  (hsi:∀cs b,oi.op≠.select cs b) (hsj:∀cs b,oj.op≠.select cs b)
  (hij:anc ops 9 i j=Xd) (hji:anc ops 9 j i=Xd) (hS:∀s,S i=Xa s->∃v,s v) (hch:S i≠Xb->(S j≠Xb\/R j=Xc)->anc ops 9 i j=Xc\/anc ops 9 j i=Xc) (hrd:R i=Xc->S j≠Xb->anc ops 9 i j=Xc\/anc ops 9 j i=Xc)
  (hw0:I w)
  (h:jg I P ops S R i F a fun F' a'=>jg I P ops S R j F' a' K):jg I P ops S R j F a fun F' a'=>jg I P ops S R i F' a' K:=by
 obtain⟨h1,h2,h3⟩:=Oper.apart_spec hap;have ei:∀v,execOp (a.put oj.dst v).eval oi=execOp a.eval oi:=fun v=>execOp_put oi hsi a oj.dst v h3
 have ej:∀v,execOp (a.put oi.dst v).eval oj=execOp a.eval oj:=fun v=>execOp_put oj hsj a oi.dst v h1
 have wi:∀v,Xt oi (yielded ops (a.put oj.dst v).tmps)=Xt oi (yielded ops a.tmps):=fun v=>wanted_put oi a oj.dst v h3
 have wj:∀v,Xt oj (yielded ops (a.put oi.dst v).tmps)=Xt oj (yielded ops a.tmps):=fun v=>wanted_put oj a oi.dst v h1
 have di:∀v w K,zQ P oi (a.put oj.dst v) w K=zQ P oi a w K:=fun v w K=>by unfold zQ;rw[ei]
 have dj:∀v w K,zQ P oj (a.put oi.dst v) w K=zQ P oj a w K:=fun v w K=>by unfold zQ;rw[ej]
 have pc:∀v u,(a.put oi.dst v).put oj.dst u=(a.put oj.dst u).put oi.dst v:=fun v u=>Act.put_comm a v u h2
 unfold jg at h⊢;simp only[hi,hj,ei,ej,wi,wj,di,dj,pc]at h⊢
 cases hwi:Xt oi (yielded ops a.tmps) <;> cases hwj:Xt oj (yielded ops a.tmps) <;>
  simp only[hwi,hwj,if_true,if_false,Xy]at h⊢
 ·exact h
 ·cases hsj':S j with
  | none=>simp only[hsj']at h⊢;exact h
  | some s=>simp only[hsj']at h⊢;exact h
 ·cases hsi':S i with
  | none=>simp only[hsi']at h⊢;exact h
  | some s=>simp only[hsi']at h⊢;exact h
 cases hsi':S i with
 | none=>
  simp only[hsi']at h;obtain⟨vi,hri,h⟩:=h
  cases hsj':S j with
  | none=>
   simp only[hsj']at h⊢;obtain⟨vj,hrj,h⟩:=h;exact⟨vj,hrj,vi,hri,h⟩
  | some s=>
   simp only[hsj']at h⊢;obtain⟨p,hd,hk⟩:=h;have hRi:R i≠Xc:=fun e=>by
    rcases hrd e (by rw[hsj'];simp)with h1|h1
    ·rw[hij]at h1;cases h1
    rw[hji]at h1;cases h1
   exact⟨p,hd,fun vj hvj=>⟨vi,fun w hw _=>hri w hw (fun e=>absurd e hRi),hk vj hvj⟩⟩
 | some si=>
  simp only[hsi']at h;obtain⟨p,hdi,h⟩:=h;obtain⟨v1,hv1⟩:=hS si hsi'
  cases hsj':S j with
  | none=>
   simp only[hsj']at h⊢;have hRj:R j≠Xc:=fun e=>by
    rcases hch (by rw[hsi'];simp) (.inr e)with h1|h1
    ·rw[hij]at h1;cases h1
    rw[hji]at h1;cases h1
   obtain⟨vj,hrj,_⟩:=h v1 hv1;refine⟨vj,fun w hw _=>hrj w hw (fun e=>absurd e hRj),p,hdi,fun vi hvi=>?_⟩
   obtain⟨vj',hrj',hl⟩:=h vi hvi;have e1:=hrj w hw0 (fun e=>absurd e hRj)
   have e2:=hrj' w hw0 (fun e=>absurd e hRj)
   rw[e1]at e2;simp only[Result.ok.injEq,Next.value.injEq,and_true]at e2;subst e2;exact hl
  | some sj=>
   exfalso
   rcases hch (by rw[hsi'];simp) (.inl (by rw[hsj'];simp))with h1|h1
   ·rw[hij]at h1;cases h1
   rw[hji]at h1;cases h1
theorem zoj (hS:∀k s,S k=Xa s->∃v,s v) (hch:∀i k,i<k->(S i≠Xb/\(S k≠Xb\/R k=Xc))\/(R i=Xc/\S k≠Xb)->anc ops 9 i k=Xc):
  Way P ops (jg I P ops S R) (fun _ _=>∃w,I w) (fun _ F _ w=>I w/\F w) where
 mono h:=jg.mono fun F' a'=>h F' a' fun _ _ h=>h
 swap hi hj hlt hap hsi hsj hij hji:=fun⟨_,hw⟩=>jg.swap hi hj hap hsi hsj hij hji (hS _) (fun q1 q2=> .inl (hch _ _ hlt (.inl ⟨q1,q2⟩))) (fun q1 q2=> .inl (hch _ _ hlt (.inr ⟨q1,q2⟩))) hw
 lean _ h:=⟨_,h.1⟩
 step {listed F a w j oj K N Q} hsz hoj h0 hc hok hcm hN:=by
  obtain⟨hw,hF⟩:=hok;simp only[jg,hoj]at hcm
  split
  ·rename_i hwant
   simp only[hwant,if_true]at hcm
   cases hs:S j with
   | none=>
    simp only[hs]at hcm;obtain⟨v,hrun,hk⟩:=hcm;unfold Oper.wp;rw[hrun w hw fun _=>hF]
    exact hN F _ w ⟨hw,hF⟩ hk
   | some s=>
    simp only[hs]at hcm;obtain⟨p,hd,hk⟩:=hcm;exact(hd w hw hF).wp fun v w' ⟨hi',hpv,hpost⟩=>hN (p v) _ w' ⟨hi',hpost⟩ (hk v hpv)
  rename_i hwant
  simp only[hwant]at hcm;exact hN F _ w ⟨hw,hF⟩ hcm
variable{Q:Act->Xo->Prop}
variable(I P ops S R Q)in
abbrev Q2:List Oper->Nat->(Xo->Prop)->Act->Prop:=zfU ops (jg I P ops S R) fun F a=>∀w,I w->F w->Q a w
theorem Q3 {Q:Exit->Act->Xo->Prop} {a:Act} {w:Xo} {L l r:List Oper} (T:Nat) (S:List (Nat ×(Xr->Prop))) (Rl:List Nat) (F:Xo->Prop) (hI:I w.drew) (hF:F w.drew) (hm:P.follows .mixedOrders=Xc) (hB:Qh L.toArray T=Xc) (hl:L.take T=l) (hr:L.drop T=r) (hT:T<=L.length)
  (hS:∀x∈S,∃v,x.2 v) (hch:((S.map (·.1)++Rl).all fun i=>(S.map (·.1)++Rl).all fun k=>!decide (i<k) || anc L.toArray 9 i k || (Rl.contains i && Rl.contains k))=Xc) (hRS:(Rl.all fun i=>(S.lookup i).isNone)=Xc)
  (h:Q2 I P L.toArray (fun k=>S.lookup k) (fun k=>Rl.contains k) (fun a w=>wpList P L.toArray Q r a w) l 0 F a):(Code.region id L.toArray Xc).wp P Q a w:=by
 refine zf9 (zoj ?_ ?_) T hm hB hl hr hT (fun _=>⟨hI,hF⟩) (fun _ _ _ _ hok h=>h _ hok.1 hok.2) h
 ·intro k s hk;obtain⟨x,hx,rfl,_⟩:=QG hk;exact hS x hx
 intro i k hik hh;have hin:∀k,S.lookup k≠Xb->k∈S.map (·.1)++Rl/\Rl.contains k=Xd:=fun k hk=>by
  obtain⟨s,hs⟩:=Option.ne_none_iff_exists'.1 hk;obtain⟨x,hx,_,rfl⟩:=QG hs;refine⟨List.mem_append.2 (.inl (List.mem_map.2 ⟨x,hx,rfl⟩)),?_⟩
  cases hc:Rl.contains x.1 with
  | false=>rfl
  | true=>
   have:=Xw.1 hRS x.1 (by simpa using hc)
   rw[hs]at this;cases this
 have hrl:∀k,Rl.contains k=Xc->k∈S.map (·.1)++Rl:=fun k hk=>List.mem_append.2 (.inr (by simpa using hk))
 have fin:i∈S.map (·.1)++Rl->k∈S.map (·.1)++Rl->(Rl.contains i && Rl.contains k)=Xd->anc L.toArray 9 i k=Xc:=fun h1 h2 h3=>by
  have:=Xw.1 (Xw.1 hch i h1) k h2;rw[h3]at this
  simpa [hik]using this
 rcases hh with⟨h1,h2|h2⟩|⟨h1,h2⟩
 ·exact fin (hin i h1).1 (hin k h2).1 (by rw[(hin i h1).2];rfl)
 ·exact fin (hin i h1).1 (hrl k h2) (by rw[(hin i h1).2];rfl)
 exact fin (hrl i h1) (hin k h2).1 (by rw[(hin k h2).2,Bool.and_false])
variable{o:Oper} {rest:List Oper} {k:Nat} {F:Xo->Prop} {a:Act}
theorem zcd (h:ops[k]? =Xa o->jg I P ops S R k F a (Q2 I P ops S R Q rest (k+1))):Q2 I P ops S R Q (o :: rest) k F a:=zfU.cons (fun h=>jg.mono h) h
theorem zax (hw:Xt o (yielded ops a.tmps)=Xc) (hS:S k=Xb) {v:Xr} (h1:∀w,I w->(R k=Xc->F w)->(execOp a.eval o).run P w= .ok (.value v) w) (h2:Q2 I P ops S R Q rest (k+1) F (a.put o.dst v)):Q2 I P ops S R Q (o :: rest) k F a:=zcd fun h0=>by
 simp only[jg,h0,hw,if_true,hS];exact⟨v,h1,h2⟩
theorem jU (ht:zlg o=Xc) (hw:Xt o (yielded ops a.tmps)=Xc) (hS:S k=Xb)
  (h:∀K:Act->Prop,(∀a,Q2 I P ops S R Q rest (k+1) F a->K a)->o.quiet P a (fun w'=>∃x:zj I,w'=x.world) K):Q2 I P ops S R Q (o :: rest) k F a:=by
 obtain⟨v,h1,h2⟩:=zao ht (h _ fun _ h=>h)
 exact zax hw hS (fun w hw _=>h1 w ⟨⟨w,hw⟩,rfl⟩) h2
theorem zfh (hw:Xt o (yielded ops a.tmps)=Xc) (hS:S k=Xb) (hR:R k=Xc) (v:Xr) (h1:∀w,I w->F w->(execOp a.eval o).run P w= .ok (.value v) w) (h2:Q2 I P ops S R Q rest (k+1) F (a.put o.dst v)):Q2 I P ops S R Q (o :: rest) k F a:=zax hw hS (fun w hw hF=>h1 w hw (hF hR)) h2
theorem zj1 (hw:Xt o (yielded ops a.tmps)=Xd) (h:Q2 I P ops S R Q rest (k+1) F (a.put o.dst undef)):Q2 I P ops S R Q (o :: rest) k F a:=zcd fun h0=>by
 simp only[jg,h0,hw,Xy,if_false];exact h
theorem zay {s:Xr->Prop} (hw:Xt o (yielded ops a.tmps)=Xc) (hS:S k=Xa s) (p:Xr->Xo->Prop)
  (h:∀w,I w->F w->zQ P o a w fun v w'=>I w'/\s v/\p v w')
  (hn:∀v,s v->Q2 I P ops S R Q rest (k+1) (p v) (a.put o.dst v)):Q2 I P ops S R Q (o :: rest) k F a:=zcd fun h0=>by
 simp only[jg,h0,hw,if_true,hS];exact⟨p,h,hn⟩
theorem Jb (x:Operand) (p:Addr) (ho:o.op= .nilCheck x) (hx:a.eval x= Xj (Xa p)) (hw:Xt o (yielded ops a.tmps)=Xc) (hS:S k=Xb) (h:Q2 I P ops S R Q rest (k+1) F (a.put o.dst (Xj (Xa p)))):Q2 I P ops S R Q (o :: rest) k F a:=zax hw hS (fun _ _ _=>zhc x p ho hx) h
theorem zd0 (h:∀w,I w->F w->Q a w):Q2 I P ops S R Q [] k F a:=⟨fun _=>h⟩
end
section
variable{I:Xo->Prop} {P:Program} {ops:Array Oper} {S:Nat->Option (Xr->Prop)} {Q:Act->Xo->Prop}
variable(I P ops S Q)in
structure zfV (l:List Oper) (k:Nat) (F:Nat->Xo->Prop) (a:Act):Prop where
 out:(∀i w w',zc w w'->F i w->F i w')->Q2 I P ops S (fun _=>Xd) Q l k (fun w=>∀i,F i w) a
theorem ZV {Q:Exit->Act->Xo->Prop} {a:Act} {w:Xo} {L l r:List Oper} (T:Nat) (S:List (Nat ×(Xr->Prop))) (hI:I w.drew) (hm:P.follows .mixedOrders=Xc) (hB:Qh L.toArray T=Xc) (hl:L.take T=l) (hr:L.drop T=r) (hT:T<=L.length)
  (hS:∀x∈S,∃v,x.2 v) (hch:((S.map (·.1)).all fun i=>(S.map (·.1)).all fun k=>!decide (i<k) || anc L.toArray 9 i k)=Xc)
  (h:zfV I P L.toArray (fun k=>S.lookup k) (fun a w=>wpList P L.toArray Q r a w) l 0 (fun _ _=>True) a):(Code.region id L.toArray Xc).wp P Q a w:=
 Q3 T S [] _ hI (fun _=>trivial) hm hB hl hr hT hS (by simpa using hch) rfl (h.out fun _ _ _ _ h=>h)
variable{o:Oper} {rest:List Oper} {k:Nat} {F:Nat->Xo->Prop} {a:Act}
theorem qG (ht:zlg o=Xc) (hw:Xt o (yielded ops a.tmps)=Xc) (hS:S k=Xb)
  (h:∀K:Act->Prop,(∀a,zfV I P ops S Q rest (k+1) F a->K a)->o.quiet P a (fun w'=>∃x:zj I,w'=x.world) K):zfV I P ops S Q (o :: rest) k F a:=⟨fun hF=>by
 obtain⟨v,h1,h2⟩:=zao ht (h _ fun _ h=>h)
 exact zax hw hS (fun w hw _=>h1 w ⟨⟨w,hw⟩,rfl⟩) (h2.out hF)⟩
theorem ZK {s:Xr->Prop} (hw:Xt o (yielded ops a.tmps)=Xc) (hS:S k=Xa s) (p:Xr->Xo->Prop) (hp:∀v w w',zc w w'->p v w->p v w')
  (h:∀w,I w->(∀m,anc ops 9 m k=Xc->F m w)->zQ P o a w fun v w'=>I w'/\zc w w'/\s v/\p v w')
  (hn:∀v,s v->zfV I P ops S Q rest (k+1) (zcq F k (p v)) (a.put o.dst v)):zfV I P ops S Q (o :: rest) k F a:=⟨fun hF=>zay hw hS (fun v w=>∀i,zcq F k (p v) i w) (fun w h1 h2=>(h w h1 fun m _=>h2 m).mono fun v w' ⟨k1,k2,k3,k4⟩=>⟨k1,k3,fun i=>by
 unfold zcq
 split
 ·exact k4
 ·exact hF i w w' k2 (h2 i)⟩) fun v hv=>(hn v hv).out fun i w w' hg=>by
 unfold zcq
 split
 ·exact hp v w w' hg
 exact hF i w w' hg⟩
theorem zbE (h:∀w,I w->(∀i,F i w)->Q a w):zfV I P ops S Q [] k F a:=⟨fun _=>zd0 h⟩
theorem zcf (x:Operand) (p:Addr) (ho:o.op= .nilCheck x) (hx:a.eval x= Xj (Xa p)) (hw:Xt o (yielded ops a.tmps)=Xc) (hS:S k=Xb) (h:zfV I P ops S Q rest (k+1) F (a.put o.dst (Xj (Xa p)))):zfV I P ops S Q (o :: rest) k F a:=⟨fun hF=>Jb x p ho hx hw hS (h.out hF)⟩
end
end
end Go.Proofs.YtacihbmelcegbaaGreat
