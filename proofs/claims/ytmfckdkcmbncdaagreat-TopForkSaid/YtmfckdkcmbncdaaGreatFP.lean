/- TopFork, proved: what a parent wrote ahead of a fork is seen by both, what each writes then is seen by it alone, of a shared file by both, whatever the bytes and however many frames are freed between. No condition. -/
import Derived.Test.YtmfckdkcmbncdaaGreatFP10
import Derived.Test.YtmfckdkcmbncdaaGreatRows
import Derived.ProofKit
import Derived.OpenShut
import Derived.ShutString
import Derived.ChangeOld
import Derived.Carry
import Derived.SizedLaws
import Derived.Test.YtmfckdkcmbncdaaGreatChecked
namespace Go.Proofs.YtmfckdkcmbncdaaGreat
open Go.Value renaming slice→O,int→Xe,bool→Xh,agg→Xi,pointer→Xj,tuple→Xm
open Go.IntKind renaming i64→Xf,u8→Xg
open Go.Obj renaming cells→Xk
open Go.Ending renaming returned→Xl
open Go renaming World→Xn,Calls→Xp,Value→Xq
open Go.RowKit renaming Hid→Xo
open Option renaming some→Xa,none→Xb
open Bool renaming true→Xc,false→Xd
open List renaming replicate→Xr
open _root_.List renaming getElem?_append_left→Xs,range→Xt,getElem?_map→Xu,getElem?_range→Xv,append_assoc→Xx,getElem?_take_of_lt→Xy
open _root_.Nat renaming lt_of_lt_of_le→Xw
open Go.Addr renaming add_lit→Xz
set_option maxRecDepth 100000
set_option maxHeartbeats 4000000
variable{B fi g kk:Nat} {Q:Exit->Act->Xn->Prop} {V:MaV} {W w' w0 w1:Xn} {m:Ma} {o:Oper} {ops:Array Oper}
open Go.Proofs.Tryz
section
open Go.RowKit
theorem zcU {α:Type} (E:Elt α) {w:Xn} {rest:List Oper} {a:Act} (b:o.guard=Xb) (l c) (q:o.op= .makeSlice E.st l c) (n:Nat) (m:a.eval l=I6 0) (j:a.eval c=I6 n) (p:n*E.bytes<=140737488355328)
  (h:∀C,zc E w.heap.size (w.alloc (Xk C E.ty)) (O (Xa ⟨w.heap.size,0,Xb⟩) 0 n) ([]:List α)->wpList prog ops Q rest (a.put o.dst (O (Xa ⟨w.heap.size,0,Xb⟩) 0 n)) (w.alloc (Xk C E.ty))):wpList prog ops Q (o :: rest) a w:=by
 refine wpList_plain b fun K g=>?_
 obtain⟨r,k,d,e,f⟩:=info_parts E.info;have b:n*1<=n*E.bytes:=Nat.mul_le_mul_left _ (nT E.pos E.few);have i:((E.bytes:Int)*(n:Int))<=140737488355328:=by
  obtain⟨B,b⟩:=kB (n*E.bytes);rw[b]at p;rw[<-Int.natCast_mul,Nat.mul_comm,b];omega
 have b:=run_make (P:=prog) w E.st E.ty r _ E.und k d .i64 .i64 0 n (by omega) (by omega) (by rw[f];exact Int.le_trans i (by omega)) (by omega)
 rw[e,tN]at b;unfold Oper.wp;simp only[execOp,q,m,j,Sem.run_bind,b,Result.andThen,Sem.run_pure,Oper.upon];refine g _ _ (h _ ⟨World.ownsRow_made w _ n (nR _) (jj (by omega)) (by rw[size_madeCells]),by simp⟩)
theorem zqN {k c:Nat} (b:(zT m (fi:Int) (k:Int)).length=8) (a:c<=8):(Xt (8*k)).map (byD m fi)++(zT m (fi:Int) (k:Int)).take c=(Xt (8*k+c)).map (byD m fi):=by
 apply List.ext_getElem?
 intro i
 by_cases a:i<8*k
 ·rw[Xs (by simpa using a),Xu,Xu,Xv a,Xv (by omega)]
 rw[aR (by simp;omega),List.length_map,List.length_range,Xu]
 by_cases a:i<8*k+c
 ·rw[Xv a,Xy (by omega)]
  simp only[Option.map_some];unfold byD;rw[show i / 8=k by omega,show i % 8=i - 8*k by omega,gD,gE (by omega)]
  rfl
 rw[gN (by simp;omega),gN (by simp;omega)]
 rfl
theorem zpl {f:Int} (h:Jj m f=0):maW m=0/\0<=f/\f< (m.fl.length:Int):=by
 unfold Jj at h
 by_cases e:maW m=0
 ·rw[kF (fun h=>h e)]at h
  split at h
  ·cases h
  omega
 rw[kE e]at h;exact absurd h e
theorem znD (V m) (file:Int) (w) (bi:zE w V m) (aj:Jj m file=0):
  Xp prog 89 #[Xi (mL V m).toArray,I6 file] w fun e w'=>Byt m file w e w'/\zb w w':=by
 have ca:=dD bi;obtain⟨d4,am,an⟩:=zpl aj;have p:=dD d4;have ae:Xo (∀W,zb w W->Xp prog 20 #[Xi (mL V m).toArray] W fun e w'=>e= Xl (I6 0)/\zb W w'):=show∀W,_ from fun W ak=>QA V m W (ca.grew ak) p.out
 have ad:Xo (∀W,zb w W->Xp prog 70 #[Xi (mL V m).toArray] W fun e w'=>∃B,e= Xl (Xi #[V.f.x,I6 m.hand,V.s.x,V.sb.x,V.sq.x,V.db.x,V.dq.x,V.fl.x,I6 m.cnt,V.ca.x,V.sp.x,.map (Xa B)])/\Zw plK w' B (ZH m.ca)/\zb W w'):=dD<|fun W ak=>QY V m W (ca.grew ak)
 have aa:Xo (maW m=0->∀W B (a a4:Nat) f a0,zb w W->m.fl[a]? =Xa f->f.bl[a4]? =Xa a0->a4<=1000->Zw plK W B (ZH m.ca)->Xp prog 150 #[Xi #[V.f.x,I6 m.hand,V.s.x,V.sb.x,V.sq.x,V.db.x,V.dq.x,V.fl.x,I6 m.cnt,V.ca.x,V.sp.x,.map (Xa B)],I6 (a:Int),I6 (a4:Int)] W fun e w'=>e= Xl (Xi (pgc (zT m a a4)).toArray)/\(zT m a a4).length=8/\zb W w'):=dD<|fun aj W B a a4 f a0 ak d2 al eb A=>zcf V m B a a4 f a0 W (ca.grew ak) (znB aj) d2 al eb (ziB aj d2).1 A
 obtain⟨-,-,-,-,-,-,ck,-,-⟩:=bi.ns;obtain⟨_,_,a2,_,ap⟩:=qq.rows bi.fl;have a9:Xo (zjW w V.fl.a m.fl):=dD<|by
  simp only[vJ]at a2;rw[a2.1];exact ap
 obtain⟨bs,bt,G,K,D,F,⟨cf,g,t⟩,C,H⟩:=V;dsimp only[mL]at ae ad aa a9 ck⊢;have X:=dD ck.symm;have a6:Xo (0<=file/\file< (m.fl.length:Int)):=show _/\_ from⟨am,an⟩
 clear bi ck a2 ap aj d4 am an;obtain⟨be,h⟩:=kB (w.alloc (Xk #[bs.x,I6 m.hand,bt.x,G.x,K.x,D.x,F.x,O cf g t,I6 m.cnt,C.x,H.x] 45));have a5:=gA h
 have d:=xA h
 have r:=sA h
 have cc:Xo (_=be):=h;clear h
 go_enter func89,ntmps89
 go_upto_region 1 with fail;rw[cc.out];obtain⟨aw,ax,ay,az,b2,b3,b4,L,b5,b6,l⟩:=d.c11;have Q:=ae.out be a5.out;go_wp2_with fail;refine Q.mono ?_;clear Q aw ax ay az b2 b3 b4 L b5 b6 l;rintro av cx ⟨rfl,d1⟩;have b:=dD d1;clear d1;have c8:=show Xo _ from aa.out p.out
 have L:=(d.grew b).c 7 rfl;have P:=QR file (g:Int) cx;go_wp2_with fail;refine P.mono ?_;rintro av w' ⟨rfl,j⟩;rw[j];clear j w' P L;have al:bel file (g:Int)=Xc:=j9.2 ⟨a6.1,by have:=a6.2;have:=X.out;omega⟩
 rw[al];obtain⟨dt,ef⟩:=j9.1 al;clear al;obtain⟨a,rfl⟩:∃a:Nat,file=(a:Int):=⟨file.toNat,by omega⟩
 obtain⟨f,b9⟩:∃f,Xo (m.fl[a]? =Xa f):=⟨_,gE (by rw[X.out];omega)⟩
 obtain⟨⟨ec,ed⟩,d7⟩:=zrf p b9.out;obtain⟨z,bb⟩:∃z:Nat,Xo (f.size=(z:Int)):=⟨f.size.toNat,show _=_ by omega⟩
 have d5:z<=96:=by have:=bb.out;omega
 obtain⟨M,co⟩:=kA f.bl.length;have a8:Xo (zcl (z:Int)=(M:Int)):=dD<|by rw[<-bb.out,<-co.out];exact d7.symm
 have e9:8*M<z+8/\z<=8*M:=by
  have:=a8.out;unfold zcl at this
  split at this <;> omega
 have a7:Xo (Jj m (a:Int)=0):=dD<|by unfold Jj;rw[kF (fun e6=>e6 p),kF (by rw[X.out];omega)]
 have bx:Xo (J1 m (a:Int)=(Xt z).map (byD m a)):=dD<|by
  unfold J1;rw[kE a7.out];unfold znE;rw[show(QD m (a:Int)).toNat=z from by unfold QD;rw[tN,gD,b9.out];show f.size.toNat=z;rw[bb.out];rfl]
  rfl
 obtain⟨s,e8,du,dv,_,aq⟩:=a9.out a f b9.out;have c9:Xo (∀W,zb w W->znZ W (s.add (a*2)) (z:Int) (O du f.bl.length dv)):=dD<|by rw[<-bb.out];exact aq
 subst e8;clear dt ec ed d7 aq;have Q:=ad.out cx (a5.trans b);have aw:=(d.grew b).c 0 rfl;have ax:=(d.grew b).c 1 rfl;have ay:=(d.grew b).c 2 rfl;have az:=(d.grew b).c 3 rfl;have b2:=(d.grew b).c 4 rfl;have b3:=(d.grew b).c 5 rfl;have b4:=(d.grew b).c 6 rfl;have L:=(d.grew b).c 7 rfl;have b5:=(d.grew b).c 8 rfl;have b6:=(d.grew b).c 9 rfl;have l:=(d.grew b).c 10 rfl;go_wp2_with fail;refine Q.mono ?_;clear Q aw ax ay az b2 b3 b4 L b5 b6 l;rintro av cy ⟨B,rfl,A,ch⟩;go_upto_region 7 with fail;obtain⟨cl,Y⟩:=kA cy.heap.size;obtain⟨bf,v⟩:=kB (cy.alloc (Xk #[bs.x,I6 m.hand,bt.x,G.x,K.x,D.x,F.x,O (Xa s) g t,I6 m.cnt,C.x,H.x,.map (Xa B)] 131));have ci:=gP v
 have df:=dD<|A.grew ci;have dj:=xPT v Y
 have bd:=dD ((b.trans ch).trans ci);have da:Xo (w.heap.size+1<=cl):=show _<=_ by rw[<-Y.out,<-r.out];exact bS (b.trans ch)
 rw[v,Y.out];clear v ch ci A;have L:=(d.grew bd).c 7 rfl;obtain⟨e4,-⟩:=c9.out bf (a5.trans bd)
 go_wp2_with (refine zcU byE rfl (.const (I6 0)) (.tmp 33) rfl z rfl rfl (by show z*1<=_;omega) ?_)
 intro d8 own;obtain⟨ce,x⟩:=kB (bf.alloc (Xk d8 byE.ty));have bh:zb bf ce:=by rw[<-x];exact za _ _
 have dn:Xo (zc byE (w.heap.size+1) ce (O (Xa ⟨bf.heap.size,0,Xb⟩) 0 z) ((Xt 0).map (byD m a))):=dD<|by
  rw[x]at own;exact own.base (by rw[<-r.out];exact bS bd)
 have dg:=dD (df.grew bh);have dk:=dD (dj.grew bh);have dc:=dD (bd.trans bh);have a1:=zbx (z:Int) ce (by omega) (by omega)
 rw[a8.out]at a1;rw[x];clear x bh own L e4;go_wp2_with fail;refine a1.mono ?_;rintro av w' ⟨rfl,j⟩;rw[j];clear j w' a1;go_wp2
 go_loopg [9,37] M (fun e5 ee cm wr=>∃(k n:Nat) (bu:Option Addr) (bv:Nat),k<=M/\M - k<=e5/\n=min (8*k) z/\cm=I6 k/\ee= O bu n bv/\Xo (zb be wr)/\Xo (zc byE (w.heap.size+1) wr (O bu n bv) ((Xt n).map (byD m a)))/\Xo (Zw plK wr B (ZH m.ca))/\Xo (zn wr cl 131 [bs.x,I6 m.hand,bt.x,G.x,K.x,D.x,F.x,O (Xa s) g t,I6 m.cnt,C.x,H.x,.map (Xa B)]))
 case atStart=>exact⟨0,0,_,_,nZ _,by omega,by omega,rfl,rfl,dc,dn,dg,dk⟩
 obtain⟨k,n,bu,bv,eh,ea,d3,rfl,rfl,cd,cw,ct,cv⟩:=hrel;have cp:=dD d3;clear d3
 by_cases a3:k<M
 ·have ar:=kC a3
  have q:Xo (n=8*k):=dD<|by have:=cp.out;omega
  obtain⟨a0,bw⟩:∃a0,Xo (f.bl[k]? =Xa a0):=⟨_,gE (by rw[co.out];exact a3)⟩
  have Q:=c8.out wr B a k f a0 (a5.trans cd) b9 bw (by omega) ct.out
  obtain⟨aw,ax,ay,az,b2,b3,b4,L,b5,b6,l,cn⟩:=cv.box.c12;go_wp2_with fail;refine Q.mono ?_;clear Q aw ax ay az b2 b3 b4 L b5 b6 l cn;rintro av cz ⟨rfl,i,ag⟩;obtain⟨d6,cq⟩:=kA (zT m (a:Int) (k:Int));obtain⟨c,bz⟩:∃c:Nat,Xo (c=min (z - 8*k) 8):=⟨_,rfl⟩;have ao:c<=8:=by have:=bz.out;omega
  have U:Xo ((Xt n).map (byD m a)++d6.take c=(Xt (n+c)).map (byD m a)):=dD<|by
   rw[q.out,<-cq.out];exact zqN i ao
  rw[cq.out]at i⊢;have d9:=dD i;obtain⟨bj,bl,bm,bn,bo,bp,bq,br,rfl⟩:=zfh d6 i;simp only[pgc,mP,List.map_nil];go_upto_region 13 with fail;obtain⟨ei,ac⟩:=kA cz.heap.size;obtain⟨dr,y⟩:=kB (cz.alloc (Xk #[U8 bj,U8 bl,U8 bm,U8 bn,U8 bo,U8 bp,U8 bq,U8 br] 91));have ah:=gP y
  have dq:=xP y ac
  have dd:=dD ((cd.trans ag).trans ah);have dp:=dD ((cw.grew ag).grew ah);have dh:=dD ((ct.grew ag).grew ah);have dl:=dD ((cv.grew ag).grew ah);rw[y,ac.out];clear y ag ah i;have R:=zia [bj,bl,bm,bn,bo,bp,bq,br] c dr rfl ao;have S:min ((z:Int) -(n:Int)) 8=(c:Int):=by have:=q.out;have:=bz.out;omega
  obtain⟨dw,dx,dy,dz,e0,e1,e2,e3⟩:=dq.c8;go_wp2_with fail;try rw[S]
  refine R.mono ?_;clear R S dw dx dy dz e0 e1 e2 e3;rintro av ds ⟨eg,rfl,N,ai⟩;have cr:=dD (dd.trans ai);have af:=dD (dp.grew ai);have cs:=dD (dh.grew ai);have cu:=dD (dl.grew ai);have ab:=dD N.at;have T:Xo (((Xt n).map (byD m a)).length=n):=show _=_ by simp
  have Z:Xo (([bj,bl,bm,bn,bo,bp,bq,br].take c).length=c):=dD<|by rw[List.length_take];show min c 8=c;omega
  have cb:Xo (w.heap.size+1<=ds.heap.size):=dD<|by rw[<-r.out];exact bS cr.out
  generalize(Xt n).map (byD m a)=acc at af U T
  generalize [bj,bl,bm,bn,bo,bp,bq,br].take c=I at ab U Z
  clear N ai
  go_wp2_with (at_builtin;refine zx (E:=byE) rfl (.tmp 44) (.tmp 51) rfl (w.heap.size+1) _ acc rfl af _ I rfl ab.out ?qb ?qc ?_)
  case qb=>
   show(acc.length+I.length)*1<=_
   have:=T.out;have:=Z.out;have:=q.out;omega
  case qc=>exact cb.out
  intro ej bg own u;obtain⟨b7,b8,au⟩:=own.form;rw[show(acc++I).length=n+c from by rw[lA,T.out,Z.out]]at au
  subst au;have On:Xo (zc byE (w.heap.size+1) bg (O b7 (n+c) b8) ((Xt (n+c)).map (byD m a))):=dD<|by rw[<-U.out];exact own
  have de:Xo (zb be bg):=dD<|zX cr u (fun cg cj=>by
   have e7:=(af.lt cg cj).1;rw[r.out];exact e7)
  have di:Xo (Zw plK bg B (ZH m.ca)):=cs.kept u (fun e=>by
   exact af.ne_map cs _ e.symm rfl)
  have dm:Xo (zn bg cl 131 [bs.x,I6 m.hand,bt.x,G.x,K.x,D.x,F.x,O (Xa s) g t,I6 m.cnt,C.x,H.x,.map (Xa B)]):=cu.beside u (fun cg cj=>af.ne cu (by decide) cg cj)
  clear own u;go_wp2
  go_roundg (M -(k+1))
  case measure=>omega
  exact⟨k+1,n+c,b7,b8,by omega,by omega,by have:=q.out;have:=bz.out;omega,by go_num,rfl,de,On,di,dm⟩
 have ar:=kD a3
 obtain rfl:n=z:=by have:=cp.out;omega
 have db:Xo (Byt m (a:Int) w (Xl (Xm #[O bu n bv,I6 0])) wr):=⟨_,by rw[a7.out],by rw[bx.out];exact cw.base (Nat.le_succ _)⟩
 go_wp2
 go_ret2
 exact⟨db,a5.trans cd⟩
def zps (m:Ma) (file:Int) (i z:Nat) (er n:Int) (l:List Int) (m':Ma):Prop:=er=0/\n=(z:Int)/\l=((J1 m file).drop i).take z/\m'=m
theorem zpR {b i z a:Nat} {L:List Int} (h:zl byE W (O (Xa ⟨g,0,Xb⟩) L.length b) L) (c:i+z<=L.length):zl byE W (O (Xa ⟨g,i,Xb⟩) z a) ((L.drop i).take z):=by
 have hlen:((L.drop i).take z).length=z:=by simp;omega
 have b:=h.2;refine⟨⟨Xa ⟨g,i,Xb⟩,a,by rw[hlen],fun e=>(by cases e),fun y a=>?_⟩,by rw[hlen];have:z*byE.bytes<=L.length*byE.bytes:=Nat.mul_le_mul_right _ (by omega);omega⟩
 cases a;intro k v a;have b:(((L.drop i).take z).flatMap byE.enc)=((L.drop i).take z).map fun x=>U8 x:=(List.map_eq_flatMap ..).symm
 rw[b,Xu]at a
 cases b:((L.drop i).take z)[k]? with
 | none=>rw[b]at a;cases a
 | some x=>
  rw[b]at a;cases a;have a:k<z:=by
   have:=(gS.1 b).1;omega
  rw[Xy a,List.getElem?_drop]at b;obtain⟨a,a,c⟩:=h.rowsAt (i+k) x b;cases a;have:=c W (zb.refl _) 0 _ rfl;rw[jb,Xz]at this;rw[Xz];have a:0+((i+k)*1+0)=i+k:=by omega
  rw[show byE.k=1 from rfl,a]at this
  exact this
theorem ChW.still {u w:Xn} {p:Nat} (h:ChW w0 p u V m) (b:zb u w) (a:zm (fun k=>u.heap.size<=k) w w') (c:zm (Aft w0 u w) w' W):zE W V m:=by
 refine h.doneD ?_;refine⟨?_,?_,?_,?_,fun i d f=>?_⟩
 ·exact c.os.trans (a.os.trans (Below.os b))
 ·exact c.tape.trans (a.tape.trans (Below.tape b))
 ·exact c.output.trans (a.output.trans (Below.output b))
 ·exact nT (bS b) (nT a.size c.size)
 have e:=bS b;rw[c.block i (Xw d (nT e a.size)) (fun e=>by rcases e with e | e;exact f e;omega),a.block i (by omega) (fun e=>by omega)]
 exact Below.block b i d
theorem zmJ {u w:Xn} {p:Nat} (h:ChW w0 p u V m) (y:zb u w) (c:Cl) (i z:Nat) (hi:c.pt=(i:Int)) (S:c.n=(z:Int)) (N:Jj m c.file=0) (R:i+z<=(J1 m c.file).length) (v:0<z):
  Xp prog 44 #[Xj (Xa ⟨p,0,Xb⟩),Xi #[I6 c.kind,I6 c.proc,I6 c.pt,I6 c.n,I6 c.file,I6 c.base,Xh c.rd,Xh c.wr,Xh c.sh,c.dv.x]] w fun e w'=>Ql (zps m c.file i z) w0 p u w e w':=by
 have K:=dD h;have n:=dD y;obtain⟨k,B⟩:=kA w.heap.size;obtain⟨a,b⟩:=kB ((w.alloc (Xk #[I6 c.kind,I6 c.proc,I6 c.pt,I6 c.n,I6 c.file,I6 c.base,Xh c.rd,Xh c.wr,Xh c.sh,c.dv.x] 25)).alloc (Xk #[I6 0,I6 0,eS] 54));have A:=gD2 b
 have r:Xo (zn a k 25 [I6 c.kind,I6 c.proc,I6 c.pt,I6 c.n,I6 c.file,I6 c.base,Xh c.rd,Xh c.wr,Xh c.sh,c.dv.x]):=dD<|by rw[<-b];exact(zn.top w [I6 c.kind,I6 c.proc,I6 c.pt,I6 c.n,I6 c.file,I6 c.base,Xh c.rd,Xh c.wr,Xh c.sh,c.dv.x] _ B.symm).grew (za _ _)
 have A1:Xo (zn a (k+1) 54 [I6 0,I6 0,eS]):=dD<|by rw[<-b];exact zn.top _ [I6 0,I6 0,eS] _ (by have:=B.out;simp;omega)
 have H:=dD A1.box.lt;have f:=dD<|y.trans A.out
 have d:=dD<|h.box.grew f.out;have C:Xo (p<u.heap.size):=h.dlt p (.inl rfl);have s:Xo (u.heap.size<=k):=show _<=_ by rw[<-B.out];exact bS y
 have U:Xo (w0.heap.size<=k):=dD<|by have:=h.lo;have:=C.out;have:=s.out;omega
 have M:=dD b;have E:=r.box.c 2 rfl;have F:=r.box.c 3 rfl;have T:=dD hi;have X:=dD S;rw[hi]at E;rw[S]at F;obtain⟨L,q⟩:=kA (J1 m c.file);rw[q.out]at R;have G:Xo (∀W,zb a W->Xp prog 89 #[Xi (mL V m).toArray,I6 c.file] W fun e w'=>(∃t:Sli,e= Xl (Xm #[t.x,I6 0])/\zc byE a.heap.size w' (t.x) L)/\zb W w'):=show∀W,_ from fun W l=>by
  refine(znD V m c.file W ((h.at.grew f).grew l) N).mono ?_;rintro e w' ⟨⟨D,rfl,j⟩,f⟩;rw[N];rw[q.out]at j;obtain⟨g,P,rfl⟩:=j.form;exact⟨⟨⟨g,_,P⟩,rfl,j.base (bS l)⟩,f⟩
 have g:Xo (i+z<=L.length/\0<z):=dD<|⟨R,v⟩
 have P:decide ((i:Int)<0)=Xd:=decide_eq_false (by omega)
 have Q:decide ((z:Int)<0)=Xd:=decide_eq_false (by omega)
 clear b h y hi S N R v
 go_enter func44,ntmps44
 go_upto_region 1 with fail;rw[M.out,B.out];go_upto_region 3 with fail;clear P Q E F;have b:Xo ((Tryz.prog.info? 45).map (·.size)=Xa (chL V m).length):=dD<|by kernel_rfl
 have N:∀y:zg a,y.world.cell? ⟨k,4,Xb⟩=Xa (I6 c.file):=fun y=>(r.box.grew y.grew).c 4 rfl
 have Q:∀y:zg a,y.world.cell? ⟨p,0,Xb⟩=Xa (V.f.x):=fun y=>(d.box.grew y.grew).c 0 rfl
 have R:∀y:zg a,y.world.cell? ⟨p,1,Xb⟩=Xa (I6 m.hand):=fun y=>(d.box.grew y.grew).c 1 rfl
 have S:∀y:zg a,y.world.cell? ⟨p,2,Xb⟩=Xa (V.s.x):=fun y=>(d.box.grew y.grew).c 2 rfl
 have Y:∀y:zg a,y.world.cell? ⟨p,3,Xb⟩=Xa (V.sb.x):=fun y=>(d.box.grew y.grew).c 3 rfl
 have Z:∀y:zg a,y.world.cell? ⟨p,4,Xb⟩=Xa (V.sq.x):=fun y=>(d.box.grew y.grew).c 4 rfl
 have I:∀y:zg a,y.world.cell? ⟨p,5,Xb⟩=Xa (V.db.x):=fun y=>(d.box.grew y.grew).c 5 rfl
 have a0:∀y:zg a,y.world.cell? ⟨p,6,Xb⟩=Xa (V.dq.x):=fun y=>(d.box.grew y.grew).c 6 rfl
 have a4:∀y:zg a,y.world.cell? ⟨p,7,Xb⟩=Xa (V.fl.x):=fun y=>(d.box.grew y.grew).c 7 rfl
 have a5:∀y:zg a,y.world.cell? ⟨p,8,Xb⟩=Xa (I6 m.cnt):=fun y=>(d.box.grew y.grew).c 8 rfl
 have a6:∀y:zg a,y.world.cell? ⟨p,9,Xb⟩=Xa (V.ca.x):=fun y=>(d.box.grew y.grew).c 9 rfl
 have v:∀y:zg a,y.world.cell? ⟨p,10,Xb⟩=Xa (V.sp.x):=fun y=>(d.box.grew y.grew).c 10 rfl
 have M:Nonempty (zg a):=⟨⟨_,zb.refl _⟩⟩;refine qu [(6,⟨fun D=>∃t:Sli,D= Xm #[t.x,I6 0],fun D W=>∃t:Sli,D= Xm #[t.x,I6 0]/\zc byE a.heap.size W (t.x) L⟩)] zZ (by kernel_rfl) ?_ ?_ ?_
 ·intro x b;simp only[mC,nM,or_false]at b;subst b;exact⟨_,noS,rfl⟩
 ·intro x b;simp only[mC,nM,or_false]at b;subst b;rintro D u b f ⟨t,h,b⟩;exact⟨t,h,b.grew f⟩
 refine zI rfl rfl rfl (fun y b=>?_);go_big_quiet_op;refine b _ ?_;clear b y
 refine Zp (.tmp 17) ⟨p,0,Xb⟩ rfl rfl rfl rfl ?_;simp only[Act.put,sB,sS,sZ];iterate 4 refine zf ?_
 refine zC rfl rfl (fun w' f y=>?_) (fun b D=>?_)
 ·refine zR.call [Xi (mL V m).toArray,I6 c.file] rfl func89 rfl rfl rfl ?_;refine(G w' f).mono ?_;rintro e b ⟨⟨t,rfl,j⟩,b⟩;exact⟨_,rfl,b,⟨t,rfl⟩,t,rfl,j⟩
 obtain⟨t,rfl⟩:=D;simp only[Act.put,sB,sS,sZ];iterate 5 refine zf ?_
 refine zP fun P D y=>?_
 obtain⟨G,b,j⟩:=y 6;have f:G=t:=by
  have h:(Value.tuple #[t.x,I6 0])= Xm #[G.x,I6 0]:=b;simp only[Value.tuple.injEq,Array.mk.injEq,List.cons.injEq,vJ,and_true]at h;obtain⟨a7,a7,a7⟩:=h;cases t;cases G
  simp_all
 subst f;clear b y Q R S Y Z I a0 a4 a5 a6 v N M;have f:=dD D;have E:=(r.grew D).box.c 2 rfl;have F:=(r.grew D).box.c 3 rfl;rw[T.out]at E;rw[X.out]at F;have A2:=dD (A1.grew D);have b:=j.cap;obtain⟨v,t,h⟩:=j.formS (by have:=g.out;omega)
 have r:Xo (zc byE a.heap.size P (O (Xa ⟨v,0,Xb⟩) L.length t) L):=dD<|by rw[<-h];exact j
 rw[h]at b;have b:L.length<=t:=b;rw[h];obtain⟨G,y⟩:=kA L.length;have M:i+z<=G:=by rw[<-y.out];exact g.1
 have M:0<z:=g.2;rw[y.out]at b⊢;clear D j h;have b:min (i:Int) (G:Int)=(i:Int):=by omega
 have h:min (z:Int) ((G - i:Nat):Int)=(z:Int):=by omega
 have j:z<=G - i:=by omega
 go_upto_region 8 with fail;clear E F b h
 go_wp2_with (refine zj rfl 54 (.tmp 4) (.tmp 47) rfl (k+1) rfl [I6 0,I6 (z:Int),O (Xa ⟨v,i,Xb⟩) z (t - i)] rfl A2 rfl (by kernel_rfl) (by simp[Value.oneCell']) ?_)
 intro E F b _;have G:=dD F;have h:Xo (Ql (zps m c.file i z) w0 p u w (Xl (Qi 0 (z:Int) ⟨Xa ⟨v,i,Xb⟩,z,t - i⟩)) E):=show Ql _ _ _ _ _ _ _ from by
  have D:∀k,(O (Xa ⟨v,0,Xb⟩) L.length t).ownBlock=Xa k->a.heap.size<=k:=fun k j=>(r.lt k j).1
  have y:∀W,zm (Aft w0 u w) E W->zm (fun k=>k<a.heap.size) P W:=fun W l=>(zm.grown b H).trans (l.wide fun k j=>by
   have:=bS A.out;have:=bS K.gr;have:=bS n.out
   rcases j with e|e
   ·omega
   have:=e.2
   omega)
  refine⟨0,(z:Int),⟨Xa ⟨v,i,Xb⟩,z,t - i⟩,(L.drop i).take z,V,m,rfl,⟨rfl,rfl,by rw[q.out],rfl⟩,(zm.grew (A.trans f)).beyond b (by have:=B.out;omega),zd (((K.gr.trans n).trans A).trans f) b (by have:=U.out;omega),fun W l=>?_,fun _=>⟨(d.grew f).beside b (fun k e=>by cases e;have:=C.out;have:=s.out;omega),fun W l=>?_⟩⟩
  ·have d:zc byE a.heap.size W (O (Xa ⟨v,0,Xb⟩) L.length t) L:=⟨jh r.1 (y W l) (fun k j e=>by have:=D k j;omega),r.2⟩
   exact zpR d.at g.1
  exact K.still (w:=w) n (((zm.grew (A.trans f))).trans (zm.grown b (by have:=s.out;omega))) l
 clear F b;go_wp2;refine bodyPost_ret (zG rfl _ rfl G.box underlying54 rfl (by kernel_rfl)) rfl h.out
theorem zj4 (w) (m:Ma) (c:Cl) (i z:Nat) (e:c.kind=9) (f:0<=c.file/\c.file< (m.fl.length:Int)) (hi:c.pt=(i:Int)) (l:c.n=(z:Int)) (b:Jj m c.file=0) (j:i+z<=(J1 m c.file).length) (a:0<z):J5 w m c (zps m c.file i z):=by
 intro d W p d v d h k;obtain⟨g,rfl,d⟩:=k.2.2.2.2.2.2.2.2.1 e;exact⟨88,#[Xj (Xa ⟨g,0,Xb⟩)],rfl,zeE,zgp h c f g 44 _ (enters_of func44 (by kernel_rfl) rfl) d fun d d=>zmJ h d c i z hi l b j a⟩
theorem zoN {u w:Xn} {p:Nat} (i:ChW w0 p u V m) (aq:zb u w) (c:Cl) (bu:∃q s,qU m c.proc q s) (U:0<=c.pt) (au:1<=c.n) (cq:c.n<=64 - c.pt) (cr:-1<=c.file) (cf:c.file< (m.fl.length:Int)):
  Xp prog 35 #[Xj (Xa ⟨p,0,Xb⟩),Xi #[Xe Xf c.kind,Xe Xf c.proc,Xe Xf c.pt,Xe Xf c.n,Xe Xf c.file,Xe Xf c.base,Xh c.rd,Xh c.wr,Xh c.sh,O c.dv.a c.dv.n c.dv.c]] w fun e w'=>Ql (zqQ m c) w0 p u w e w':=by
 obtain⟨q,s,N,aj,r⟩:=bu;have I:=dD i;have a6:=dD aq;have a7:Xo (qU m c.proc q s):=show qU _ _ _ _ from⟨N,aj,r⟩
 obtain⟨h,Z⟩:=kA w.heap.size;obtain⟨g,l⟩:=kB ((w.alloc (Xk #[Xe Xf c.kind,Xe Xf c.proc,Xe Xf c.pt,Xe Xf c.n,Xe Xf c.file,Xe Xf c.base,Xh c.rd,Xh c.wr,Xh c.sh,O c.dv.a c.dv.n c.dv.c] 25)).alloc (Xk #[Xe Xf 0,Xe Xf 0,O Xb 0 0] 54));have a0:=gD2 l
 have j:Xo (zn g h 25 [Xe Xf c.kind,Xe Xf c.proc,Xe Xf c.pt,Xe Xf c.n,Xe Xf c.file,Xe Xf c.base,Xh c.rd,Xh c.wr,Xh c.sh,O c.dv.a c.dv.n c.dv.c]):=dD<|by rw[<-l];exact(zn.top w [Xe Xf c.kind,Xe Xf c.proc,Xe Xf c.pt,Xe Xf c.n,Xe Xf c.file,Xe Xf c.base,Xh c.rd,Xh c.wr,Xh c.sh,O c.dv.a c.dv.n c.dv.c] _ Z.symm).grew (za _ _)
 have A1:Xo (zn g (h+1) 54 [Xe Xf 0,Xe Xf 0,O Xb 0 0]):=dD<|by rw[<-l];exact zn.top _ [Xe Xf 0,Xe Xf 0,O Xb 0 0] _ (by have:=Z.out;simp;omega)
 have b2:=dD A1.box.lt;have C:=dD<|aq.trans a0.out
 have bi:=dD<|i.box.grew C.out;have a8:Xo (p<u.heap.size):=i.dlt p (.inl rfl);have H:Xo (u.heap.size<=h):=show _<=_ by rw[<-Z.out];exact bS aq
 have be:Xo (_=g):=l;obtain⟨R,an,c5,c6⟩:=i.sp;obtain⟨x,z⟩:∃x,R[q]? =Xa x:=⟨_,gE (by rw[c5];exact(gS.1 aj).1)⟩
 obtain⟨M,cd,n⟩:=an.formS (by have:=(gS.1 z).1;omega)
 have F:Xo (oB V.sp M):=show V.sp.x.ownBlock=Xa M by rw[n];rfl
 have b8:Xo (zc ZA w0.heap.size u (O V.sp.a V.sp.n V.sp.c) R):=an;have b9:=dD c5;have ba:=dD c6;have bf:=dD z;have cl:=dD aj;have bd:=dD<|c6 q x s z aj g (zm.grew C);have S:=dD<|an.lt M F.out;have v:=bi.box.c 10 rfl;have bw:(q:Int)< (R.length:Int):=by have:=(gS.1 z).1;omega
 have a9:Xo (zc ZA w0.heap.size g (O (Xa ⟨M,0,Xb⟩) R.length cd) R):=dD<|by rw[<-n];exact an.grew C.out
 rw[n]at v;have b3:Xo (O V.sp.a V.sp.n V.sp.c= O (Xa ⟨M,0,Xb⟩) R.length cd):=n;have ae:=i.at.fl.n;obtain⟨bk,a5⟩:=kA m.fl.length;have b4:Xo (V.fl.n=bk):=show _=_ by rw[ae];exact a5.out
 rw[a5.out]at cf;obtain⟨d2,bc⟩:=kA R.length;rw[bc.out]at v bw;have am:=j.box.c 1 rfl;rw[N]at am;have bz:=j.box.c 2 rfl;have P:=j.box.c 3 rfl;have Q:=j.box.c 4 rfl;have cj:=dD N;have bn:decide (c.pt<0)=Xd:=decide_eq_false (by omega)
 have bo:decide (c.n<1)=Xd:=decide_eq_false (by omega)
 have bp:decide (64 - c.pt<c.n)=Xd:=decide_eq_false (by omega)
 have bq:decide (c.file< -1)=Xd:=decide_eq_false (by omega)
 have br:decide ((bk:Int)<=c.file)=Xd:=decide_eq_false (by omega)
 have ah:c.pt<=63:=by omega
 have b7:Xo (0<=c.pt/\c.pt<=63/\1<=c.n/\c.n<=64):=dD<|⟨U,ah,au,by omega⟩
 clear l i aq N aj r an c5 c6 z n ae au cq cr cf
 go_enter func35,ntmps35
 go_upto_region 1 with fail;rw[be.out,Z.out];go_quiet (fail);obtain⟨bj,X⟩:=kB (g.drewN nq);have k:zb g bj:=by rw[<-X];exact(show Below _ _ _ from bD (bR _ _) _)
 rw[X];have az:=dD k;have P:=(j.grew k).box.c 3 rfl;have Q:=(j.grew k).box.c 4 rfl;have bs:bj.cell? ⟨p,7,Xb⟩=Xa (O V.fl.a bk V.fl.c):=by rw[<-b4.out];exact(bi.grew k).box.c 7 rfl
 clear X k am bz v;go_upto_region 6 with fail;go_quiet (fail);obtain⟨K,Y⟩:=kB (bj.drewN nq);have ac:zb g K:=by rw[<-Y];exact az.trans (show Below _ _ _ from bD (bR _ _) _)
 rw[Y];have b:=dD ac;clear Y ac P Q bs bn bo bp bq;go_upto_region 8 with fail;clear br;have P:∀a:zg K,a.world.cell? ⟨h,3,Xb⟩=Xa (Xe Xf c.n):=fun a=>(j.box.grew (b.trans a.grew)).c 3 rfl
 have Q:∀a:zg K,a.world.cell? ⟨h,4,Xb⟩=Xa (Xe Xf c.file):=fun a=>(j.box.grew (b.trans a.grew)).c 4 rfl
 have c0:∀a:zg K,a.world.cell? ⟨h,5,Xb⟩=Xa (Xe Xf c.base):=fun a=>(j.box.grew (b.trans a.grew)).c 5 rfl
 have c1:∀a:zg K,a.world.cell? ⟨h,6,Xb⟩=Xa (Xh c.rd):=fun a=>(j.box.grew (b.trans a.grew)).c 6 rfl
 have c2:∀a:zg K,a.world.cell? ⟨h,7,Xb⟩=Xa (Xh c.wr):=fun a=>(j.box.grew (b.trans a.grew)).c 7 rfl
 have c3:∀a:zg K,a.world.cell? ⟨h,8,Xb⟩=Xa (Xh c.sh):=fun a=>(j.box.grew (b.trans a.grew)).c 8 rfl
 have bm:∀a:zg K,a.world.cell? ⟨M,q*10+1,Xb⟩=Xa (O x.ar.a x.ar.n x.ar.c):=fun a=>(a9.grew (b.trans a.grew)).range1 bf 1 _ rfl
 have bv:Nonempty (zg K):=⟨⟨_,zb.refl _⟩⟩;obtain⟨aa,f,G⟩:∃aa f,Xo (zhn s.ars (arC c)=(aa,f)):=⟨_,_,rfl⟩;have b5:Xo (∀W,zb g W->Xp prog 76 #[O x.ar.a x.ar.n x.ar.c,Xi #[Xe Xf c.pt,Xe Xf (c.pt+c.n),Xh c.rd,Xh c.wr,Xh c.sh,Xe Xf c.file,Xe Xf c.base]] W fun e w'=>(∃t:Sli,e= Xl (Xm #[O t.a t.n t.c,Xe Xf f])/\zc arE g.heap.size w' (O t.a t.n t.c) aa)/\zb W w'):=dD<|fun W av=>by
  refine(zqd _ s.ars (arC c) W (bd.ar.grew av)).mono ?_;rw[G.out];rintro e w' ⟨⟨ao,rfl,aw⟩,af⟩;obtain⟨cv,cw,rfl⟩:=aw.form;exact⟨⟨⟨cv,_,cw⟩,rfl,aw.base (bS av)⟩,af⟩
 have ak:-9223372036854775808<=c.pt+c.n/\c.pt+c.n<=9223372036854775807:=by have:=b7.out;omega
 refine qu [(20,⟨fun ao=>∃t:Sli,ao= Xm #[O t.a t.n t.c,Xe Xf f],fun ao W=>∃t:Sli,ao= Xm #[O t.a t.n t.c,Xe Xf f]/\zc arE g.heap.size W (O t.a t.n t.c) aa⟩)] zZ (by kernel_rfl) ?_ ?_ ?_
 ·intro x z;simp only[mC,nM,or_false]at z;subst z;exact⟨_,noS,rfl⟩
 ·intro x z;simp only[mC,nM,or_false]at z;subst z;rintro ao u d3 af ⟨t,U,au⟩;exact⟨t,U,au.grew af⟩
 refine zI rfl rfl rfl (fun cm cg=>?_);go_big_quiet_op;refine cg _ ?_;clear cg cm
 refine Zp (.tmp 60) ⟨M,q*10,Xb⟩ rfl rfl rfl rfl ?_;simp only[Act.put,sB,sS,sZ];iterate 18 refine zf ?_
 refine zC rfl rfl (fun w' af bl=>?_) (fun d4 ct=>?_)
 ·refine zR.call [O x.ar.a x.ar.n x.ar.c,Xi #[Xe Xf c.pt,Xe Xf (c.pt+c.n),Xh c.rd,Xh c.wr,Xh c.sh,Xe Xf c.file,Xe Xf c.base]] rfl func76 rfl rfl rfl ?_;refine(b5 w' (b.trans af)).mono ?_;rintro e cx ⟨⟨t,rfl,aw⟩,bt⟩;exact⟨_,rfl,bt,⟨t,rfl⟩,t,rfl,aw⟩
 obtain⟨t,rfl⟩:=ct;simp only[Act.put,sB,sS,sZ];iterate 5 refine zf ?_
 refine zP fun cb ce bl=>?_
 obtain⟨A,al,ag⟩:=bl 20;have bx:A=t:=by
  have U:(Value.tuple #[O t.a t.n t.c,Xe Xf f])= Xm #[O A.a A.n A.c,Xe Xf f]:=al;simp only[Value.tuple.injEq,Array.mk.injEq,List.cons.injEq,vJ,and_true]at U;obtain⟨cy,cz,d0⟩:=U;cases t;cases A
  simp_all
 subst bx;have cn:=dD ag;have d:=dD (b.trans ce);have c7:=dD (A1.grew d);clear ce bl al ag P Q c0 c1 c2 c3 bm bv ak U ah;have c9:Xo (w0.heap.size<=h):=show _<=_ by have:=H.out;have:=I.lo;have:=a8.out;omega
 by_cases ad:f=0
 rotate_left
 ·have d1:(f != 0)=Xc:=by simp[ad]
  have c8:Xo (f≠0):=ad;clear ad;have ai:=jP f cb;go_wp2_with fail;refine ai.mono ?_;rintro e T ⟨rfl,B⟩;have ax:=dD (c7.grew B);have ca:Xo (zb w T):=show zb _ _ from(a0.trans d).trans B
  clear ai B;unfold Qi noS
  go_wp2_with (refine zj rfl 54 (.tmp 4) (.tmp 86) rfl (h+1) rfl [Xe Xf f,Xe Xf 0,O Xb 0 0] rfl ax rfl (by kernel_rfl) (by simp[Value.oneCell']) ?_)
  intro ap ab L _;have ci:Xo (zb w0 ap):=dD<|zd ((I.gr.trans a6).trans ca) L (by have:=c9.out;omega)
  have ay:=dD ab;have co:Xo (zm (zqZ w0 u) w ap):=show zm _ _ _ from zm.beyond (zm.grew ca) L (by have:=Z.out;omega)
  clear ab L;go_wp2;refine bodyPost_ret (zG rfl _ rfl ay.box underlying54 rfl (by kernel_rfl)) rfl ⟨f,0,noS,[],V,m,rfl,⟨rfl,q,s,a7,by rw[G.out],fun i=>absurd i c8⟩,co,ci,fun _ _=>zl.nil _ _,fun i=>absurd i c8⟩
 have ck:=dD ad;subst ad;have bb:=dD (a9.grew d)
 go_wp2_with (refine z3 (E:=ZA) rfl (.tmp 90) (.tmp 88) 71 rfl w0.heap.size _ R bb M q 1 rfl x { x with ar:=A } bf.out [O A.a A.n A.c] (by kernel_rfl) rfl (by show 1+1<=10;omega) (by simp;rfl) ⟨M,q*10+1,Xb⟩ rfl rfl _ rfl rfl ?_)
 intro T ch B cu;clear cu;have ax:Xo (zn T (h+1) 54 [Xe Xf 0,Xe Xf 0,O Xb 0 0]):=dD<|c7.beside B (fun c4 e=>by cases e;have:=S.out;have:=H.out;omega)
 have cp:Xo (zn T p 88 (chL V m)):=dD<|(bi.grew d).beside B (fun c4 e=>by cases e;first | exact I.ns _ F.out | exact(I.ns _ F).symm)
 have bh:Xo (zc ZA w0.heap.size T (O V.sp.a V.sp.n V.sp.c) (R.set q { x with ar:=A })):=dD<|by rw[b3.out];exact ch
 have b0:=dD B;have b1:=dD<|zd (((I.gr.trans a6).trans a0).trans d) B S.1
 have bg:Xo (zm (zqZ w0 u) w T):=dD<|(zm.grew (a0.trans d)).trans (zm.grown B S)
 clear ch B
 go_wp2_with (refine zj rfl 54 (.tmp 4) (.tmp 92) rfl (h+1) rfl [Xe Xf 0,Xe Xf c.pt,O Xb 0 0] rfl ax rfl (by kernel_rfl) (by simp[Value.oneCell']) ?_)
 intro ap ab L _;have ay:=dD ab;have a4:Xo (Ql (zqQ m c) w0 p u w (Xl (Qi 0 c.pt noS)) ap):=show Ql _ _ _ _ _ _ _ from by
  refine⟨0,c.pt,noS,[],V,zlu m q s aa,rfl,⟨rfl,q,s,a7,by rw[G.out],fun _=>⟨rfl,by rw[G.out]⟩⟩,bg.beyond L (by have:=Z.out;omega),zd b1 L (by have:=c9.out;omega),fun _ _=>zl.nil _ _,fun _=>⟨cp.beside L (fun c4 e=>by cases e;have:=a8.out;have:=H.out;omega),fun W av=>?_⟩⟩
  refine zoG (w:=g) (w1:=cb) (w2:=T) (y:={ x with ar:=A }) I b8 b9 ba bf cl F C d cn b0 bh ⟨rfl,rfl,rfl⟩ ?_;refine(zm.grown (D:=Aft w0 u g) L (.inr ⟨by have:=H.out;omega,b2⟩)).trans (av.wide fun c4 cs=>cs.imp id fun i=>⟨i.1,Xw i.2 (bS a0)⟩)
 clear ab L;go_wp2;refine bodyPost_ret (zG rfl _ rfl ay.box underlying54 rfl (by kernel_rfl)) rfl a4.out
theorem zcX (w) (m:Ma) (c:Cl) (j:c.kind=1) (a:0<=c.pt) (b:1<=c.n) (d:c.n<=64 - c.pt) (e:-1<=c.file) (f:c.file< (m.fl.length:Int)):J5 w m c (Jg m c.proc (zqQ m c)):=by
 intro g W p g v g h k;obtain⟨g,rfl,i⟩:=k.1 j;exact⟨73,#[Xj (Xa ⟨g,0,Xb⟩)],rfl,zcI,J9 h c g 35 _ (enters_of func35 (by kernel_rfl) rfl) i fun g g i=>zoN h g c i a b d e f⟩
def clZ:Xq:= Xi #[I6 0,I6 0,I6 0,I6 0,I6 0,I6 0,Xh Xd,Xh Xd,Xh Xd,eS]
theorem zsu:(Tryz.prog.info? 25).map (fun i=>(i.zero,i.size,i.bytes))=Xa (Xa clZ,10,80):=by kernel_rfl
def clE:Elt Cl where
 enc:=clL
 k:=10
 ty:=25
 st:=29
 bytes:=80
 zv:=clZ
 zero:=⟨0,0,0,0,0,0,Xd,Xd,Xd,noS⟩
 len:=fun _=>rfl
 one:=fun a u hu=>by
  simp only[clL,mC,nM,or_false]at hu
  rcases hu with rfl|rfl|rfl|rfl|rfl|rfl|rfl|rfl|rfl|rfl <;> rfl
 und:=underlying29
 info:=zsu
 zok:=rfl
 few:=by decide
 pos:=by decide
structure An where
 er:Int
 n:Int
 s:Sli
def anL (a:An):List Xq:=[I6 a.er,I6 a.n,a.s.x]
def anZ:Xq:= Xi #[I6 0,I6 0,eS]
theorem zsv:(Tryz.prog.info? 54).map (fun i=>(i.zero,i.size,i.bytes))=Xa (Xa anZ,3,40):=by kernel_rfl
def anE:Elt An where
 enc:=anL
 k:=3
 ty:=54
 st:=46
 bytes:=40
 zv:=anZ
 zero:=⟨0,0,noS⟩
 len:=fun _=>rfl
 one:=fun a u hu=>by
  simp only[anL,mC,nM,or_false]at hu
  rcases hu with rfl|rfl|rfl <;> rfl
 und:=underlying46
 info:=zsv
 zok:=rfl
 few:=by decide
 pos:=by decide
def zdS (w:Xn) (ys:List An) (az:List (Int × Int × List Int)):Prop:=
 ∀(j:Nat) (a:Int × Int × List Int),az[j]? =Xa a->∃x,ys[j]? =Xa x/\x.er=a.1/\x.n=a.2.1/\zl byE w (x.s.x) a.2.2
theorem zoR {D:Nat->Prop} {w:Xn} (g:zb w w1) (o:zm D w1 W) (c:∀k,D k->w.heap.size<=k):zb w W:=
 ⟨o.os.trans (Below.os g),o.tape.trans (Below.tape g),o.output.trans (Below.output g),nT (bS g) o.size,fun b a=>(o.block b (Xw a (bS g)) (fun e=>by have:=c b e;omega)).trans (Below.block g b a)⟩
theorem zdS.step {w:Xn} {a:List An} {az:List (Int × Int × List Int)} {b n:Int} {l:List Int} {s:Sli} (d:az.length=kk) (c:kk<a.length) (h:zdS w a az) (f:zl byE w (s.x) l):zdS w (a.set kk ⟨b,n,s⟩) (az++ [(b,n,l)]):=by
 intro j b a
 by_cases e:j=kk
 ·subst e;rw[aR (by omega),d,Nat.sub_self]at a
  cases a;exact⟨_,sF c,rfl,rfl,f⟩
 have c:j<az.length:=by
  have:=(gS.1 a).1
  simp at this
  omega
 rw[Xs c]at a;obtain⟨x,c,d⟩:=h j b a;exact⟨x,by rw[sN (fun h=>e h.symm)];exact c,d⟩
theorem qW.cl10 {y:Addr} {c:Cl} (h:qW W y (clL c)):W.cell? y=Xa (I6 c.kind)/\W.cell? { block:=y.block,off:=y.off+1 }=Xa (I6 c.proc)/\W.cell? { block:=y.block,off:=y.off+2 }=Xa (I6 c.pt)/\W.cell? { block:=y.block,off:=y.off+3 }=Xa (I6 c.n)/\W.cell? { block:=y.block,off:=y.off+4 }=Xa (I6 c.file)/\W.cell? { block:=y.block,off:=y.off+5 }=Xa (I6 c.base)/\W.cell? { block:=y.block,off:=y.off+6 }=Xa (Xh c.rd)/\W.cell? { block:=y.block,off:=y.off+7 }=Xa (Xh c.wr)/\W.cell? { block:=y.block,off:=y.off+8 }=Xa (Xh c.sh)/\W.cell? { block:=y.block,off:=y.off+9 }=Xa (c.dv.x):=
 ⟨h 0 _ rfl,h 1 _ rfl,h 2 _ rfl,h 3 _ rfl,h 4 _ rfl,h 5 _ rfl,h 6 _ rfl,h 7 _ rfl,h 8 _ rfl,h 9 _ rfl⟩
def zrv (n:Nat) (J:Nat->Ma->List (Int × Int × List Int)->Prop) (e:Ending) (w':Xn):Prop:=
 ∃(V:MaV) (m:Ma) (ga:Nat) (ys:List An) (az:List (Int × Int × List Int)),e= Xl (Xm #[Xi (mL V m).toArray,O (Xa ⟨ga,0,Xb⟩) n n,I6 0])/\J n m az/\zl anE w' (O (Xa ⟨ga,0,Xb⟩) n n) ys/\zdS w' ys az
theorem zje (N cs F:Int) (P:zrO N cs F) (v) (j:List Cl) (w) (c1:zl clE w v j) (be:j.length<=80) (J:Nat->Ma->List (Int × Int × List Int)->Prop) (aa:J 0 (Jq N cs F) [])
  (bz:∀(i:Nat) (c:Cl) (m:Ma) g,j[i]? =Xa c->g.length=i->J i m g->maW m=0/\(1<=c.kind/\c.kind<=15)/\∃K,(∀W,zb w W->J5 W m c K)/\∀h n l m' t,K h n l m'->((h=0/\t=m')\/(h≠0/\t=m))->J (i+1) t (g++ [(h,n,l)])):
  Xp prog 11 #[Xi #[I6 N,I6 cs,I6 F],v] w fun e w'=>zrv j.length J e w'/\zb w w':=by
 obtain⟨e5,eb,rfl,Q⟩:=c1.rows;have a7:Xo (∀(bf:Nat) c4,j[bf]? =Xa c4->∃bb,e5=Xa bb/\∀W,zb w W->qW W (bb.add (bf*10)) (clL c4)):=dD<|Q
 obtain⟨n,bl⟩:=kA j.length;rw[bl.out]at be⊢;have a3:=dD aa;have co:=show Xo _ from bz
 have ac:decide (80<n)=Xd:=decide_eq_false (by omega)
 obtain⟨s,Y⟩:=kA w.heap.size;obtain⟨ao,B⟩:=kB ((w.alloc (Xk #[I6 N,I6 cs,I6 F] 51)).alloc (Xk zM.toArray 45));have ce:=gD2 B
 have df:Xo (zn ao s 51 [I6 N,I6 cs,I6 F]):=dD<|by rw[<-B];exact(zn.top w [I6 N,I6 cs,I6 F] _ Y.symm).grew (za _ _)
 have dg:Xo (zn ao (s+1) 45 zU):=dD<|by rw[<-B];exact zn.top _ zU _ (by have:=Y.out;simp;omega)
 have b1:Xo (_=ao):=B;have aj:=zoB N cs F P ao;clear B c1 Q bz aa P
 go_enter func11,ntmps11
 go_upto_region 1 with fail;rw[b1.out,Y.out];obtain⟨e6,e7,e8⟩:=df.box.c3
 go_wp2_with (go_at_call 13;refine aj.mono ?_)
 clear aj e6 e7 e8;rintro e ba ⟨⟨V,rfl,ai,_,_⟩,bc⟩;have b4:=dD ai;have cg:=dD (ce.trans bc);have bq:=dD (dg.grew bc);obtain⟨q,an⟩:=kA ba.heap.size;have x:Xo (s+1<q):=show _<_ by rw[<-an.out];exact bq.box.lt
 obtain⟨R,a5⟩:=kA (Jq N cs F);have a2:Xo (R.hand=0/\R.cnt=F):=dD<|by rw[<-a5.out];exact⟨rfl,rfl⟩
 have b2:Xo (∀v∈chL V R,v.oneCell'=Xc):=dD<|by simp[chL,Value.oneCell']
 rw[a5.out]at b4 a3;have ab:chL V R=[V.f.x,I6 0,V.s.x,V.sb.x,V.sq.x,V.db.x,V.dq.x,V.fl.x,I6 F,V.ca.x,V.sp.x]:=by
  unfold chL mL;rw[a2.1,a2.2]
 have av:Xo (_=_):=ab;clear ai bc ab
 go_upto_region 2 with(refine zj rfl 45 (.tmp 7) (.tmp 15) rfl ba.heap.size rfl (chL V R) (by rw[av.out];rfl) (zn.top ba zU _ rfl) (by rfl) (by kernel_rfl) b2.out ?_)
 intro ap bt bw e1;clear e1;have z:=zd (za _ _) bw (nR _);have bn:Xo (zn ap q 45 (chL V R)):=dD<|by rw[<-an.out];exact bt
 have ch:=dD (cg.trans z);have dh:=dD (bq.grew z);have e9:=dD (b4.grew z);rw[an.out];have a1:=dD z;clear bt bw z;go_upto_region 6 with fail;clear ac
 go_wp2_with (refine qX anE rfl (.tmp 26) rfl n rfl (by show n*40<=_;omega) ?_)
 intro cc bg;obtain⟨a,G⟩:=kA ap.heap.size;obtain⟨bo,L⟩:=kB (ap.alloc (Xk cc anE.ty));have A:zb ap bo:=by rw[<-L];exact za _ _
 rw[L,G.out]at bg;rw[L,G.out];have cw:=dD bg;have db:=dD (bn.grew A);have ci:=dD (ch.trans A);have di:=dD (dh.grew A);have y:Xo (q<a):=show _<_ by rw[<-G.out];exact bn.box.lt
 have cp:Xo (∀W,zm (fun k=>k=q\/k=a) bo W->zE W V R):=dD<|fun W d=>b4.grew (zoR (a1.trans A) d fun k u=>by have:=an.out;have:=G.out;have:=bS a1.out;rcases u with e | e <;> omega)
 clear bg L A;go_wp2
 go_loopg [30] n (fun dx bh wr=>∃(b:Nat) (V:MaV) (m:Ma) (r:List An) (g:List (Int × Int × List Int)),b<=n/\n - b<=dx/\bh=I6 b/\Xo (zb w wr)/\Xo (zn wr q 45 (chL V m))/\Xo (zn wr (s+1) 45 zU)/\Xo (zc anE a wr (O (Xa ⟨a,0,Xb⟩) n n) r)/\Xo (g.length=b/\r.length=n/\J b m g)/\Xo (∀W,zm (fun k=>k=q\/k=a) wr W->zE W V m)/\Xo (∀W,zm (fun k=>k=q\/k=a\/k=s+1) wr W->zdS W r g))
 case atStart=>exact⟨0,V,R,_,[],nZ _,by omega,rfl,ci,db,di,cw,show _/\_/\_ from⟨rfl,by simp,a3⟩,cp,show∀W,_ from fun W d bf ea dy=>by cases dy⟩
 obtain⟨b,V,m,r,g,e0,dz,rfl,au,b8,bs,b5,f,cv,bi⟩:=hrel
 by_cases C:b<n
 ·have ag:=kC C
  obtain⟨c,bk⟩:∃c,Xo (j[b]? =Xa c):=⟨_,gE (by rw[bl.out];exact C)⟩
  obtain⟨bb,rfl,c0⟩:=a7.out b c bk.out;obtain⟨dm,dn,dp,dq,dr,ds,dt,du,dv,dw⟩:=qW.cl10 (c0 wr au);clear c0;obtain⟨bx,af,K,al,ak⟩:=co.out b c m g bk f.1 f.2.2;go_upto_region 10 with fail;clear dm dn dp dq dr ds dt du dv dw;obtain⟨c3,a6⟩:=kA wr.heap.size;obtain⟨H,M⟩:=kB (wr.alloc (Xk #[I6 c.kind,I6 c.proc,I6 c.pt,I6 c.n,I6 c.file,I6 c.base,Xh c.rd,Xh c.wr,Xh c.sh,c.dv.x] 25));have X:=gP M
  have cd:Xo (zn H c3 25 (clL c)):=dD<|by rw[<-M];exact zn.top _ (clL c) _ a6.symm
  rw[M,a6.out];have bj:=dD (au.trans X);have b6:=dD (b8.grew X);have br:=dD (bs.grew X);have bm:=dD (b5.grew X);have cq:Xo (∀W,zm (fun k=>k=q\/k=a) H W->zE W V m):=show∀W,_ from fun W d=>cv.out W ((zm.grew X).trans d)
  have c5:Xo (∀W,zm (fun k=>k=q\/k=a\/k=s+1) H W->zdS W r g):=dD<|fun W d=>bi.out W ((zm.grew X).trans d)
  have ay:=dD ak;have ae:=zrh V m H (cq H (zm.refl _ _)) bx c K af (al H bj);have S:Xo ((Tryz.prog.info? 45).map (·.size)=Xa (chL V m).length):=show _=_ by kernel_rfl
  have b0:Xo ((Tryz.prog.info? 25).map (·.size)=Xa (clL c).length):=dD<|by kernel_rfl
  clear M X bx af al ak
  go_wp2_with (first | refine zo rfl 45 (.tmp 7) rfl q rfl b6.box underlying45 rfl S.out ?_ | refine zo rfl 25 (.tmp 11) rfl c3 rfl cd.box underlying25 rfl b0.out ?_ | (go_at_call 14;refine ae.mono ?_))
  clear ae;rintro e bp ⟨⟨h,D,am,l,m',t,U,rfl,u,ah,p⟩,Z⟩;have ax:=dD<|ay.out h D l m' t u ah;have a4:Xo (q<H.heap.size/\a<H.heap.size/\s+1<H.heap.size):=show _/\_/\_ from⟨b6.box.lt,(bm.lt a rfl).2,br.box.lt⟩
  have cj:=dD (bj.trans Z);have dc:=dD (b6.grew Z);have dj:=dD (br.grew Z);have cx:=dD (bm.grew Z);have cr:Xo (∀W,zm (fun k=>k=q\/k=a) bp W->zE W U t):=show∀W,_ from fun W d=>(p W (d.wide fun k u=>by have:=a4.out;rcases u with e | e <;> omega)).1
  have c6:Xo (∀W,zm (fun k=>k=q\/k=a\/k=s+1) bp W->zdS W (r.set b ⟨h,D,am⟩) (g++ [(h,D,l)])):=dD<|fun W d=>zdS.step f.1 (by rw[f.2.1];exact C) (c5 W ((zm.grew Z).trans d)) (p W (d.wide fun k u=>by have:=a4.out;rcases u with e | e | e <;> omega)).2
  have T:Xo (∀v∈chL U t,v.oneCell'=Xc):=dD<|by simp[chL,Value.oneCell']
  clear u ah p Z;unfold Qi
  go_wp2_with (refine zj rfl 45 (.tmp 7) (.tmp 41) rfl q rfl (chL U t) rfl dc rfl (by kernel_rfl) T.out ?_)
  intro a8 bu I e2;clear e2;have ck:Xo (zb w a8):=dD<|zd cj I (by have:=x.out;have:=Y.out;omega)
  have dd:=dD bu;have dk:Xo (zn a8 (s+1) 45 zU):=show zn _ _ _ _ from dj.beside I (fun k e=>by cases e;have:=x.out;omega)
  have cy:Xo (zc anE a a8 (O (Xa ⟨a,0,Xb⟩) n n) r):=dD<|cx.grown I (fun k u e=>by
   have bd:Xa a=Xa k:=u;simp only[Option.some.injEq]at bd e;have:=y.out
   omega)
  have ct:Xo (∀W,zm (fun k=>k=q\/k=a) a8 W->zE W U t):=dD<|fun W d=>cr.out W ((zm.grown I (.inl rfl)).trans d)
  have c7:Xo (∀W,zm (fun k=>k=q\/k=a\/k=s+1) a8 W->zdS W (r.set b ⟨h,D,am⟩) (g++ [(h,D,l)])):=dD<|fun W d=>c6.out W ((zm.grown I (.inl rfl)).trans d)
  clear bu I
  go_wp2_with (refine qn (E:=anE) rfl (.tmp 43) (.tmp 42) rfl a _ r cy a b rfl ⟨h,D,am⟩ (by rw[f.2.1];exact C) ⟨a,b*3,Xb⟩ rfl rfl _ rfl rfl ?_)
  intro a9 c2 a0 e3;clear e3;have cl:Xo (zb w a9):=dD<|zd ck a0 (by have:=y.out;have:=x.out;have:=Y.out;omega)
  have de:Xo (zn a9 q 45 (chL U t)):=dD<|dd.beside a0 (fun k e=>by cases e;have:=y.out;omega)
  have dl:Xo (zn a9 (s+1) 45 zU):=dD<|dk.beside a0 (fun k e=>by cases e;have:=y.out;have:=x.out;omega)
  have cz:=dD c2;have cu:Xo (∀W,zm (fun k=>k=q\/k=a) a9 W->zE W U t):=show∀W,_ from fun W d=>ct.out W ((zm.grown a0 (.inr rfl)).trans d)
  have c8:Xo (∀W,zm (fun k=>k=q\/k=a\/k=s+1) a9 W->zdS W (r.set b ⟨h,D,am⟩) (g++ [(h,D,l)])):=dD<|fun W d=>c7.out W ((zm.grown a0 (.inr (.inl rfl))).trans d)
  have aw:Xo ((g++ [(h,D,l)]).length=b+1/\(r.set b ⟨h,D,am⟩).length=n/\J (b+1) t (g++ [(h,D,l)])):=dD<|⟨by simp[f.1],by rw[List.length_set];exact f.2.1,ax⟩
  clear c2 a0;go_wp2
  go_roundg (n -(b+1))
  case measure=>omega
  exact⟨b+1,U,t,_,_,by omega,by omega,by go_num,cl,de,dl,cz,aw,cu,c8⟩
 have ag:=kD C
 have:b=n:=by omega
 subst this;have T:Xo (∀v∈chL V m,v.oneCell'=Xc):=dD<|by simp[chL,Value.oneCell']
 have S:Xo ((Tryz.prog.info? 45).map (·.size)=Xa (chL V m).length):=dD<|by kernel_rfl
 have cn:Xo (a<wr.heap.size/\q<wr.heap.size):=dD<|⟨(b5.lt a rfl).2,b8.box.lt⟩
 skip
 go_wp2_with (first | refine zo rfl 45 (.tmp 7) rfl q rfl b8.box underlying45 rfl S.out ?_ | refine zj rfl 45 (.tmp 4) (.tmp 45) rfl (s+1) rfl (chL V m) rfl bs rfl (by kernel_rfl) T.out ?_)
 intro aq bv ar e4;clear e4;have ca:=dD bv;have cm:Xo (zb w aq):=show zb _ _ from zd au ar (by have:=Y.out;omega)
 have da:Xo (zl anE aq (O (Xa ⟨a,0,Xb⟩) b b) r):=dD<|(b5.grown ar (fun k u e=>by
  have bd:Xa a=Xa k:=u;simp only[Option.some.injEq]at bd e;have:=y.out;have:=x.out
  omega)).at
 have c9:Xo (zdS aq r g):=bi.out aq (zm.grown ar (.inr (.inr rfl)));clear bv ar;go_wp2;refine bodyPost_ret (zN rfl _ rfl ca.box underlying45 rfl (by kernel_rfl)) rfl ⟨⟨V,m,a,r,g,rfl,f.2.2,da,c9⟩,cm⟩
def cCr:Cl:=⟨8,0,0,0,0,0,Xd,Xd,Xd,noS⟩
def cTr:Cl:=⟨11,0,0,8,0,0,Xd,Xd,Xd,noS⟩
def cOf (s:Bool):Cl:=⟨1,0,1,1,0,0,Xc,Xc,s,noS⟩
def cPu (p a:Int) (v:Sli):Cl:=⟨5,p,a,0,0,0,Xd,Xd,Xd,v⟩
def cGe (p a:Int):Cl:=⟨4,p,a,1,0,0,Xd,Xd,Xd,noS⟩
def cFo:Cl:=⟨6,0,0,0,0,0,Xd,Xd,Xd,noS⟩
def cEv:Cl:=⟨13,0,0,0,0,0,Xd,Xd,Xd,noS⟩
def cRe:Cl:=⟨9,0,2,1,0,0,Xd,Xd,Xd,noS⟩
def kst:Bool->Int->Int->Int->Nat->Ma
 | _,_,_,_,0=>Jq 6 6 4
 | _,_,_,_,1=>{ Jq 6 6 4 with fl:=[⟨0,[]⟩] }
 | _,_,_,_,2=>{ Jq 6 6 4 with fl:=[⟨8,[-1]⟩] }
 | _,_,_,_,3=>zlu { Jq 6 6 4 with fl:=[⟨8,[-1]⟩] } 0 ⟨Xc,[],Jo⟩ [QV]
 | true,_,_,_,4=>(fkM frF frF frF frF [] [fkS Xc en0 en0])
 | false,_,_,_,4=>(fkM frF frF frF frF [] [fkS Xd en0 en0])
 | true,x,_,_,5=>(fkM (frP x 1) frF frF frF [] [fkS Xc ⟨1,0,Xc⟩ en0])
 | false,x,_,_,5=>(fkM (frP x 1) frF frF frF [] [fkS Xd ⟨1,0,Xc⟩ en0])
 | true,x,_,_,6=>(fkM (frP x 1) (frC x 2 Xc) frF frF [⟨0,0,1⟩] [fkS Xc ⟨1,0,Xc⟩ ⟨1,1,Xc⟩])
 | false,x,_,_,6=>(fkM (frP x 1) (frP x 1) frF frF [] [fkS Xd ⟨1,0,Xc⟩ ⟨1,1,Xc⟩])
 | true,x,_,_,7=>(fkM (frP x 2) (frC x 3 Xc) frF frF [⟨0,0,1⟩] [fkS Xc ⟨1,0,Xd⟩ ⟨1,1,Xd⟩,fkS Xc ⟨1,0,Xd⟩ ⟨1,1,Xd⟩])
 | false,x,_,_,7=>(fkM (frP x 2) (frP x 2) frF frF [] [fkS Xd ⟨1,0,Xd⟩ ⟨1,1,Xd⟩,fkS Xd ⟨1,0,Xd⟩ ⟨1,1,Xd⟩])
 | true,x,_,_,8=>(fkM (frP x 2) (frC x 3 Xc) frF frF [⟨0,0,1⟩] [fkS Xc ⟨1,0,Xd⟩ ⟨1,1,Xd⟩,fkS Xc ⟨1,0,Xd⟩ ⟨1,1,Xd⟩])
 | false,x,_,_,8=>(fkM (frP x 2) (frP x 2) frF frF [] [fkS Xd ⟨1,0,Xd⟩ ⟨1,1,Xd⟩,fkS Xd ⟨1,0,Xd⟩ ⟨1,1,Xd⟩])
 | true,x,_,_,9=>(fkM (frP x 2) (frC x 3 Xc) frF frF [⟨0,0,1⟩] [fkS Xc ⟨1,0,Xd⟩ ⟨1,1,Xd⟩,fkS Xc ⟨1,0,Xd⟩ ⟨1,1,Xd⟩])
 | false,x,_,_,9=>(fkM (frP x 2) (frP x 2) frF frF [] [fkS Xd ⟨1,0,Xd⟩ ⟨1,1,Xd⟩,fkS Xd ⟨1,0,Xd⟩ ⟨1,1,Xd⟩])
 | true,x,y,_,10=>(fkM (frP x 1) (frC x 3 Xc) (frP y 1) frF [⟨0,0,1⟩] [fkS Xc ⟨1,2,Xc⟩ ⟨1,1,Xd⟩,fkS Xc ⟨1,0,Xd⟩ ⟨1,1,Xd⟩])
 | false,x,y,_,10=>(fkM (frP x 1) (frP x 2) (frP y 1) frF [] [fkS Xd ⟨1,2,Xc⟩ ⟨1,1,Xd⟩,fkS Xd ⟨1,0,Xd⟩ ⟨1,1,Xd⟩])
 | true,x,y,z,11=>(fkM (frP z 1) (frC x 3 Xc) (frP y 1) frF [⟨0,0,1⟩] [fkS Xc ⟨1,2,Xc⟩ ⟨1,1,Xd⟩,fkS Xc ⟨1,0,Xc⟩ ⟨1,1,Xd⟩])
 | false,x,y,z,11=>(fkM (frP z 1) (frP x 2) (frP y 1) frF [] [fkS Xd ⟨1,2,Xc⟩ ⟨1,1,Xd⟩,fkS Xd ⟨1,0,Xc⟩ ⟨1,1,Xd⟩])
 | s,x,y,z,_+12=>k12 s x y z
theorem zay {x:Int} {pg:Pg} (h:splice (pgL pg0) 2 [x]=pgL pg\/∃y,splice (pgL (pgX y)) 2 [x]=pgL pg):pg=pgX x:=by
 cases pg
 rcases h with h|⟨y,h⟩
 ·simp only[splice,pgL,pg0]at h
  simp at h
  simp only[pgX,Pg.mk.injEq];omega
 simp only[splice,pgL,pgX]at h
 simp at h
 simp only[pgX,Pg.mk.injEq];omega
def Nx (w:Xn) (m:Ma) (c:Cl) (P:Int->Int->List Int->Ma->Prop):Prop:=
 maW m=0/\(1<=c.kind/\c.kind<=15)/\∃K,(∀W,zb w W->J5 W m c K)/\∀er n l m' m2,K er n l m'->((er=0/\m2=m')\/(er≠0/\m2=m))->P er n l m2
theorem Qj {w:Xn} {c:Cl} {P:Int->Int->List Int->Ma->Prop} {K:Int->Int->List Int->Ma->Prop} (d:maW m=0) (b:1<=c.kind/\c.kind<=15) (e:∀W,zb w W->J5 W m c K) (f:∀a n l m',K a n l m'->a=0/\P a n l m'):Nx w m c P:=by
 refine⟨d,b,K,e,fun a n l m' d b g=>?_⟩
 obtain⟨d,e⟩:=f a n l m' b
 rcases g with⟨_,a⟩|⟨a,_⟩
 ·rw[a];exact e
 exact absurd d a
section
variable{w:Xn} {s:Bool} {x y z:Int}
theorem nx0:Nx w (kst s x y z 0) cCr fun _ _ _ a=>a=kst s x y z 1:=
 Qj (K:=zfP (Jq 6 6 4)) (by kernel_rfl) (by decide) (fun W _=>zfZ W _ cCr rfl) (fun a n l b h=>by
  obtain⟨_,b,c⟩:=h;have e:a=0:=b.trans (by decide)
  exact⟨e,(c e).2⟩)
theorem nx1:Nx w (kst s x y z 1) cTr fun _ _ _ a=>a=kst s x y z 2:=
 Qj (K:=zfO (kst s x y z 1) 0 8) (by kernel_rfl) (by decide) (fun W _=>zhw W _ cTr 0 rfl rfl rfl (by decide)) (fun a n l a h=>by
  obtain⟨a,_,_,b⟩:=h;exact⟨a,b⟩)
theorem nx2:Nx w (kst s x y z 2) zlk fun _ _ _ a=>a=kst s x y z 3:=
 Qj (K:=Jg (kst s x y z 2) 0 (zqQ (kst s x y z 2) zlk)) (by kernel_rfl) (by decide) (fun W _=>zcX W _ zlk rfl (by decide) (by decide) (by decide) (by decide) (by show(-1:Int)<1;omega)) (fun f n l a h=>by
  rcases h with⟨_,_,_,b⟩|⟨_,_,q,t,d,a,c⟩
  ·exact absurd (⟨rfl,rfl,rfl⟩:qU (kst s x y z 2) 0 0 ⟨Xc,[],Jo⟩) (b 0 _)
  have e:q=0:=by have:=d.1;simp only[zlk]at this;omega
  subst e;have b:=d.2.1;cases b;have b:zhn [] (arC zlk)=([QV],0):=zrc;rw[b]at a c;have a:f=0:=a;exact⟨a,(c a).2⟩)
theorem zrI (s:Bool):zhn [QV] (arC (cOf s))=([QV,arB s],0):=by cases s <;> rfl
theorem nx3:Nx w (kst s x y z 3) (cOf s) fun _ _ _ a=>a=kst s x y z 4:=
 Qj (K:=Jg (kst s x y z 3) 0 (zqQ (kst s x y z 3) (cOf s))) (by kernel_rfl) (by show(1:Int)<=1/\(1:Int)<=15;omega) (fun W _=>zcX W _ (cOf s) rfl (by show(0:Int)<=1;omega) (by show(1:Int)<=1;omega) (by show(1:Int)<=64 - 1;omega) (by show(-1:Int)<=0;omega) (by show(0:Int)<1;omega)) (fun f n l a h=>by
  rcases h with⟨_,_,_,b⟩|⟨_,_,q,t,d,a,c⟩
  ·exact absurd (⟨rfl,rfl,rfl⟩:qU (kst s x y z 3) 0 0 ⟨Xc,[QV],Jo⟩) (b 0 _)
  have e:q=0:=by have:=d.1;simp only[cOf]at this;omega
  subst e;have b:=d.2.1;cases b;have b:=zrI s;rw[b]at a c;have a:f=0:=a;refine⟨a,(c a).2.trans ?_⟩
  cases s <;> rfl)
theorem nx4 {v:Sli} (a:v.n=1) (l:zl byE w (v.x) [x]):Nx w (kst s x y z 4) (cPu 0 2 v) fun _ _ _ b=>b=kst s x y z 5:=by
 have k:∃t,qU (kst s x y z 4) 0 0 t:=by cases s <;> exact⟨_,rfl,rfl,rfl⟩
 cases s
 ·refine Qj zhO.rt.w (by show(1:Int)<=5/\(5:Int)<=15;omega) (fun W g=>zhO.works_store (c:=cPu 0 2 v) (i:=2) rfl (by decide) rfl rfl a (l.grew g)) (fun m n p q h=>?_)
  obtain⟨b,j,d,e⟩:=zhO.store (c:=cPu 0 2 v) (i:=2) (by decide) rfl rfl a k h
  have f:=zay (.inl d);subst f;exact⟨b,e⟩
 refine Qj zl2.rt.w (by show(1:Int)<=5/\(5:Int)<=15;omega) (fun W g=>zl2.works_store (c:=cPu 0 2 v) (i:=2) rfl (by decide) rfl rfl a (l.grew g)) (fun m n p q h=>?_)
 obtain⟨b,j,d,e⟩:=zl2.store (c:=cPu 0 2 v) (i:=2) (by decide) rfl rfl a k h
 have f:=zay (.inl d);subst f;exact⟨b,e⟩
theorem nx5 {v:Sli} (a:v.n=1) (l:zl byE w (v.x) [x]):Nx w (kst s x y z 5) (cPu 0 10 v) fun _ _ _ b=>b=kst s x y z 6:=by
 have k:∃t,qU (kst s x y z 5) 0 0 t:=by cases s <;> exact⟨_,rfl,rfl,rfl⟩
 cases s
 ·refine Qj zhN.rt.w (by show(1:Int)<=5/\(5:Int)<=15;omega) (fun W g=>zhN.works_store (c:=cPu 0 10 v) (i:=2) rfl (by decide) rfl rfl a (l.grew g)) (fun m n p q h=>?_)
  obtain⟨b,j,d,e⟩:=zhN.store (c:=cPu 0 10 v) (i:=2) (by decide) rfl rfl a k h
  have f:=zay (.inl d);subst f;exact⟨b,e⟩
 refine Qj zl1.rt.w (by show(1:Int)<=5/\(5:Int)<=15;omega) (fun W g=>zl1.works_store (c:=cPu 0 10 v) (i:=2) rfl (by decide) rfl rfl a (l.grew g)) (fun m n p q h=>?_)
 obtain⟨b,j,d,e⟩:=zl1.store (c:=cPu 0 10 v) (i:=2) (by decide) rfl rfl a k h
 have f:=zay (.inl d);subst f;exact⟨b,e⟩
theorem zpv:z6 (fkS Xc ⟨1,0,Xc⟩ ⟨1,1,Xc⟩).tb Zv 64=[0,1]/\z6 (fkS Xd ⟨1,0,Xc⟩ ⟨1,1,Xc⟩).tb Zv 64=[0,1]:=by constructor <;> kernel_rfl
theorem zrd (b:∀k,Vac (kst s x y z 6).sp k->k=1):zjU (kst s x y z 6) 0:=by
 intro k q t c e _ j n a;obtain rfl:=b k e;obtain rfl:q=0:=by have:=c.1;omega
 have d:=c.2.1;clear e b c;cases s
 ·cases d;rw[zpv.2]at a⊢
  rcases(show j=0\/j=1 by have:=(gS.1 a).1;simp at this;omega)with rfl|rfl <;>(obtain rfl:_=n:=Option.some.inj a;intro _;kernel_rfl)
 cases d;rw[zpv.1]at a⊢
 rcases(show j=0\/j=1 by have:=(gS.1 a).1;simp at this;omega)with rfl|rfl <;>(obtain rfl:_=n:=Option.some.inj a;intro _;kernel_rfl)
theorem nx6:Nx w (kst s x y z 6) cFo fun _ _ _ u=>u=kst s x y z 7:=by
 have e:maW (kst s x y z 6)=0:=by cases s <;> kernel_rfl
 have hlen:(kst s x y z 6).sp.length=1:=by cases s <;> rfl
 obtain⟨t,h,b⟩:∃t,(kst s x y z 6).sp=[t]/\t.live=Xc:=by cases s <;> exact⟨_,rfl,rfl⟩
 have f:qU (kst s x y z 6) 0 0 t:=⟨rfl,by rw[h];rfl,b⟩
 have a:∀k,Vac (kst s x y z 6).sp k->k=1:=fun k d=>by
  obtain⟨A,j,_⟩:=d;rw[hlen]at A;rw[h]at j
  rcases(show k=0\/k=1 by omega)with rfl|rfl
  ·have:=j t rfl;rw[b]at this;cases this
  rfl
 refine Qj (K:=Jg (kst s x y z 6) 0 (zqR (kst s x y z 6) 0)) e (by decide) (fun W _=>zhy W _ cFo rfl e (by rw[hlen];decide) (zrd a)) (fun B G E F p=>?_)
 rcases p with⟨_,_,_,c⟩|⟨_,_,⟨_,_,c⟩|⟨_,_,q,v,_,d⟩|⟨r,q,v,k,g,d,C,D,i⟩⟩
 ·exact absurd f (c 0 t)
 ·exact absurd f (c 0 t)
 ·have:=a 4 d;omega
 have l:=a k d;subst l;have m:q=0:=by have:=g.1;omega
 subst m;have n:=g.2.1;refine⟨r,i.trans ?_⟩;clear i d g f h b e hlen a
 cases s <;>(cases n;kernel_rfl)
theorem nx7:Nx w (kst s x y z 7) (cGe 1 2) fun e _ l a=>e=0/\l=[x]/\a=kst s x y z 8:=by
 have f:∃t,qU (kst s x y z 7) 1 1 t:=by cases s <;> exact⟨_,rfl,rfl,rfl⟩
 cases s
 ·refine Qj zhM.rt.w (by show(1:Int)<=4/\(4:Int)<=15;omega) (fun W g=>zhM.works_load (c:=cGe 1 2) (i:=2) rfl (by decide) rfl rfl rfl W) (fun e n l j h=>?_)
  obtain⟨a,b,d⟩:=zhM.load (c:=cGe 1 2) (i:=2) (by decide) rfl rfl rfl f h
  exact⟨a,a,b,d⟩
 refine Qj zl0.rt.w (by show(1:Int)<=4/\(4:Int)<=15;omega) (fun W g=>zl0.works_load (c:=cGe 1 2) (i:=2) rfl (by decide) rfl rfl rfl W) (fun e n l j h=>?_)
 obtain⟨a,b,d⟩:=zl0.load (c:=cGe 1 2) (i:=2) (by decide) rfl rfl rfl f h
 exact⟨a,a,b,d⟩
theorem nx8:Nx w (kst s x y z 8) (cGe 1 10) fun e _ l a=>e=0/\l=[x]/\a=kst s x y z 9:=by
 have f:∃t,qU (kst s x y z 8) 1 1 t:=by cases s <;> exact⟨_,rfl,rfl,rfl⟩
 cases s
 ·refine Qj zhL.rt.w (by show(1:Int)<=4/\(4:Int)<=15;omega) (fun W g=>zhL.works_load (c:=cGe 1 10) (i:=2) rfl (by decide) rfl rfl rfl W) (fun e n l j h=>?_)
  obtain⟨a,b,d⟩:=zhL.load (c:=cGe 1 10) (i:=2) (by decide) rfl rfl rfl f h
  exact⟨a,a,b,d⟩
 refine Qj zlZ.rt.w (by show(1:Int)<=4/\(4:Int)<=15;omega) (fun W g=>zlZ.works_load (c:=cGe 1 10) (i:=2) rfl (by decide) rfl rfl rfl W) (fun e n l j h=>?_)
 obtain⟨a,b,d⟩:=zlZ.load (c:=cGe 1 10) (i:=2) (by decide) rfl rfl rfl f h
 exact⟨a,a,b,d⟩
theorem nx9 {v:Sli} (a:v.n=1) (m:zl byE w (v.x) [y]):Nx w (kst s x y z 9) (cPu 0 2 v) fun _ _ _ b=>b=kst s x y z 10:=by
 have l:∃t,qU (kst s x y z 9) 0 0 t:=by cases s <;> exact⟨_,rfl,rfl,rfl⟩
 cases s
 ·refine Qj zhK.rt.w (by show(1:Int)<=5/\(5:Int)<=15;omega) (fun W j=>zhK.works_store (c:=cPu 0 2 v) (i:=2) rfl (by decide) rfl rfl a (m.grew j)) (fun p n q r h=>?_)
  obtain⟨b,k,d,f⟩:=zhK.store (c:=cPu 0 2 v) (i:=2) (by decide) rfl rfl a l h
  have g:=zay ((fun e=> .inr ⟨_,e⟩) d)
  subst g;exact⟨b,f⟩
 refine Qj zlY.rt.w (by show(1:Int)<=5/\(5:Int)<=15;omega) (fun W j=>zlY.works_store (c:=cPu 0 2 v) (i:=2) rfl (by decide) rfl rfl a (m.grew j)) (fun p n q r h=>?_)
 obtain⟨b,k,d,f⟩:=zlY.store (c:=cPu 0 2 v) (i:=2) (by decide) rfl rfl a l h
 have g:=zay ((fun e=> .inr ⟨_,e⟩) d)
 subst g;exact⟨b,f⟩
theorem zr3 {v:Sli} (a:v.n=1) (m:zl byE w (v.x) [z]):Nx w (kst s x y z 10) (cPu 1 2 v) fun _ _ _ b=>b=kst s x y z 11:=by
 have l:∃t,qU (kst s x y z 10) 1 1 t:=by cases s <;> exact⟨_,rfl,rfl,rfl⟩
 cases s
 ·refine Qj zeY.rt.w (by show(1:Int)<=5/\(5:Int)<=15;omega) (fun W j=>zeY.works_store (c:=cPu 1 2 v) (i:=2) rfl (by decide) rfl rfl a (m.grew j)) (fun p n q r h=>?_)
  obtain⟨b,k,d,f⟩:=zeY.store (c:=cPu 1 2 v) (i:=2) (by decide) rfl rfl a l h
  have g:=zay ((fun e=> .inr ⟨_,e⟩) d)
  subst g;exact⟨b,f⟩
 refine Qj zhQ.rt.w (by show(1:Int)<=5/\(5:Int)<=15;omega) (fun W j=>zhQ.works_store (c:=cPu 1 2 v) (i:=2) rfl (by decide) rfl rfl a (m.grew j)) (fun p n q r h=>?_)
 obtain⟨b,k,d,f⟩:=zhQ.store (c:=cPu 1 2 v) (i:=2) (by decide) rfl rfl a l h
 have g:=zay ((fun e=> .inr ⟨_,e⟩) d)
 subst g;exact⟨b,f⟩
theorem zr2 {v:Sli} (a:v.n=1) (m:zl byE w (v.x) [y]):Nx w (kst s x y z 11) (cPu 0 10 v) fun _ _ _ b=>b=kst s x y z 12:=by
 have l:∃t,qU (kst s x y z 11) 0 0 t:=by cases s <;> exact⟨_,rfl,rfl,rfl⟩
 cases s
 ·refine Qj zeX.rt.w (by show(1:Int)<=5/\(5:Int)<=15;omega) (fun W j=>zeX.works_store (c:=cPu 0 10 v) (i:=2) rfl (by decide) rfl rfl a (m.grew j)) (fun p n q r h=>?_)
  obtain⟨b,k,d,f⟩:=zeX.store (c:=cPu 0 10 v) (i:=2) (by decide) rfl rfl a l h
  have g:=zay ((fun e=> .inr ⟨_,e⟩) d)
  subst g;exact⟨b,f⟩
 refine Qj zhP.rt.w (by show(1:Int)<=5/\(5:Int)<=15;omega) (fun W j=>zhP.works_store (c:=cPu 0 10 v) (i:=2) rfl (by decide) rfl rfl a (m.grew j)) (fun p n q r h=>?_)
 obtain⟨b,k,d,f⟩:=zhP.store (c:=cPu 0 10 v) (i:=2) (by decide) rfl rfl a l h
 have g:=zay ((fun e=> .inr ⟨_,e⟩) d)
 subst g;exact⟨b,f⟩
end
theorem Nx.mono {w:Xn} {c:Cl} {P Q:Int->Int->List Int->Ma->Prop} (h:Nx w m c P) (hp:∀a n l m',P a n l m'->Q a n l m'):Nx w m c Q:=by
 obtain⟨b,d,K,e,f⟩:=h;exact⟨b,d,K,e,fun a n l m' e b d=>hp _ _ _ _ (f a n l m' e b d)⟩
section
variable{w:Xn} {s:Bool} {x y z:Int} {m:Ma}
theorem FkQ.nxE (h:FkQ s x y z m):Nx w m cEv fun _ _ _ a=>FkQ s x y z a:=
 Qj h.rt.w (by decide) (fun W _=>zhz W m cEv rfl h.rt) (fun a n l a a=>⟨a.1,by rw[a.2.2.2];exact h.evict⟩)
theorem FkQ.nxG (h:FkQ s x y z m) {q n:Nat} (f:q<2) (g:n<2) {p a:Int} (hp:p=(q:Int)) (e:a=8*(n:Int)+2) {b:Int} (hb:pgO s x y z q n=pgX b):Nx w m (cGe p a) fun d _ l j=>d=0/\l=[b]/\FkQ s x y z j:=by
 obtain⟨j,j,j,u,k,r⟩:=h.read f g;refine Qj h.rt.w (by show(1:Int)<=4/\(4:Int)<=15;omega) (fun W _=>u.works_load (c:=cGe p a) (i:=2) rfl (by decide) hp e rfl W) (fun d z l d t=>?_)
 obtain⟨d,g,j⟩:=u.load (c:=cGe p a) (i:=2) (by decide) hp e rfl (h.live f) t
 rw[d,g,j,k,hb];exact⟨rfl,rfl,rfl,r⟩
theorem FkQ.nxR (h:FkQ s x y z m):Nx w m cRe fun a _ l b=>a=0/\l=[if s=Xc then y else 0]/\FkQ s x y z b:=by
 obtain⟨b,c,d⟩:=h.byte;refine Qj (K:=zps m 0 2 1) h.rt.w (by decide) (fun W _=>zj4 W m cRe 2 1 rfl ⟨by show(0:Int)<=0;omega,by rw[h.fll];decide⟩ rfl rfl b c (by decide)) (fun a z l a e=>?_)
 obtain⟨a,_,b,c⟩:=e;rw[a,b,c,d];exact⟨rfl,rfl,rfl,h⟩
end
def zjJ (s:Bool) (v4 v5 v9 v10 v11:Sli):List Cl:=[cCr,cTr,zlk,cOf s,cPu 0 2 v4,cPu 0 10 v5,cFo,cGe 1 2,cGe 1 10,cPu 0 2 v9,cPu 1 2 v10,cPu 0 10 v11]
def zqX:List Cl:=[cGe 0 2,cGe 1 2,cGe 0 10,cGe 1 10,cRe]
def zrV (s:Bool) (x y z:Int):Nat->Int
 | 0=>y
 | 1=>z
 | 2=>y
 | 3=>if s=Xc then y else x
 | _=>if s=Xc then y else 0
def AnF (s:Bool) (x y z:Int) (N k:Nat) (a:Int):Prop:=((k=7\/k=8)/\a=x)\/∃j,k=12+N+j/\a=zrV s x y z j
def JF (s:Bool) (x y z:Int) (N i:Nat) (m:Ma) (az:List (Int × Int × List Int)):Prop:=
 (i<=12->m=kst s x y z i)/\(12<=i->FkQ s x y z m)/\∀k a,k<i->AnF s x y z N k a->∃n,az[k]? =Xa (0,n,[a])
section
variable{w:Xn} {s:Bool} {x y z:Int} {m:Ma} {N i:Nat} {c:Cl} {az:List (Int × Int × List Int)}
theorem zqg (G:az.length=i) (D:JF s x y z N i m az) (h:Nx w m c fun b _ l d=>(i<12->d=kst s x y z (i+1))/\(12<=i->FkQ s x y z d)/\∀a,AnF s x y z N i a->b=0/\l=[a]):
  maW m=0/\(1<=c.kind/\c.kind<=15)/\∃K,(∀W,zb w W->J5 W m c K)/\∀b n l m' d,K b n l m'->((b=0/\d=m')\/(b≠0/\d=m))->JF s x y z N (i+1) d (az++ [(b,n,l)]):=by
 obtain⟨_,_,L⟩:=D;obtain⟨v,A,K,B,C⟩:=h;refine⟨v,A,K,B,fun b n l m' d E H=>?_⟩
 obtain⟨f,j,p⟩:=C b n l m' d E H;refine⟨fun h=>f (by omega),fun h=>?_,fun k a F g=>?_⟩
 ·by_cases e:i<12
  ·have t:i=11:=by omega
   subst t;rw[f e];have:kst s x y z (11+1)=k12 s x y z:=by cases s <;> rfl
   rw[this];exact FkQ.first
  exact j (by omega)
 by_cases e:k=i
 ·subst e;obtain⟨q,r⟩:=p a g;exact⟨n,by rw[aR (by omega),G,Nat.sub_self,q,r];rfl⟩
 obtain⟨M,u⟩:=L k a (by omega) g
 exact⟨M,by rw[Xs (by omega)];exact u⟩
theorem zrt (h:i<12) (c:i≠7) (d:i≠8) {a:Int} {P:Prop} (b:AnF s x y z N i a):P:=by
 rcases b with⟨_|_,_⟩|⟨j,b,_⟩ <;> omega
theorem zqh {A B C k p:Sli} (V:A.n=1) (Z:zl byE w (A.x) [x]) (X:B.n=1) (I:zl byE w (B.x) [x]) (Y:C.n=1) (a0:zl byE w (C.x) [y]) (D:k.n=1) (F:zl byE w (k.x) [z]) (E:p.n=1) (G:zl byE w (p.x) [y])
  (i:Nat) (c:Cl) (m:Ma) (az:List (Int × Int × List Int)) (u:(zjJ s A B C k p++Xr N cEv++zqX)[i]? =Xa c) (P:az.length=i) (L:JF s x y z N i m az):
  maW m=0/\(1<=c.kind/\c.kind<=15)/\∃K,(∀W,zb w W->J5 W m c K)/\∀b n l m' d,K b n l m'->((b=0/\d=m')\/(b≠0/\d=m))->JF s x y z N (i+1) d (az++ [(b,n,l)]):=by
 refine zqg P L ?_;obtain⟨Q,R,_⟩:=L
 by_cases t:i<12
 ·have e:=Q (by omega)
  subst e;rw[Xx,Xs (show i< (zjJ s A B C k p).length from t)]at u
  clear Q R P;have a:∀{c:Cl},i≠7->i≠8->Nx w (kst s x y z i) c (fun _ _ _ d=>d=kst s x y z (i+1))->Nx w (kst s x y z i) c fun b _ l d=>(i<12->d=kst s x y z (i+1))/\(12<=i->FkQ s x y z d)/\∀f,AnF s x y z N i f->b=0/\l=[f]:=fun H S h=>h.mono fun b n l m' e=>⟨fun _=>e,fun h=>absurd h (by omega),fun f g=>zrt t H S g⟩
  have r:∀{c:Cl},(i=7\/i=8)->Nx w (kst s x y z i) c (fun b _ l d=>b=0/\l=[x]/\d=kst s x y z (i+1))->Nx w (kst s x y z i) c fun b _ l d=>(i<12->d=kst s x y z (i+1))/\(12<=i->FkQ s x y z d)/\∀f,AnF s x y z N i f->b=0/\l=[f]:=fun H h=>h.mono fun b n l m' e=>⟨fun _=>e.2.2,fun h=>absurd h (by omega),fun f g=>by
   rcases g with⟨_,g⟩|⟨j,M,_⟩
   ·rw[g];exact⟨e.1,e.2.1⟩
   omega⟩
  rcases(show i=0\/i=1\/i=2\/i=3\/i=4\/i=5\/i=6\/i=7\/i=8\/i=9\/i=10\/i=11 by omega)with rfl|rfl|rfl|rfl|rfl|rfl|rfl|rfl|rfl|rfl|rfl|rfl <;> cases u
  ·exact a (by decide) (by decide) nx0
  ·exact a (by decide) (by decide) nx1
  ·exact a (by decide) (by decide) nx2
  ·exact a (by decide) (by decide) nx3
  ·exact a (by decide) (by decide) (nx4 V Z)
  ·exact a (by decide) (by decide) (nx5 X I)
  ·exact a (by decide) (by decide) nx6
  ·exact r (.inl rfl) nx7
  ·exact r (.inr rfl) nx8
  ·exact a (by decide) (by decide) (nx9 Y a0)
  ·exact a (by decide) (by decide) (zr3 D F)
  exact a (by decide) (by decide) (zr2 E G)
 have v:=R (by omega)
 have hlen:(zjJ s A B C k p).length=12:=rfl
 by_cases a1:i<12+N
 ·rw[Xx,aR (by omega),hlen,Xs (by rw[lR];omega),List.getElem?_replicate,kE (by omega)]at u
  cases u;exact v.nxE.mono fun b n l m' e=>⟨fun h=>absurd h t,fun _=>e,fun f g=>by rcases g with⟨_ | _,_⟩ | ⟨j,M,_⟩ <;> omega⟩
 obtain⟨j,rfl⟩:∃j,i=12+N+j:=⟨i - 12 - N,by omega⟩
 rw[aR (by rw[lA,hlen,lR];omega),lA,hlen,lR,show 12+N+j -(12+N)=j by omega]at u
 have M:j<5:=(gS.1 u).1;have a:∀{c:Cl},Nx w m c (fun b _ l d=>b=0/\l=[zrV s x y z j]/\FkQ s x y z d)->Nx w m c fun b _ l d=>(12+N+j<12->d=kst s x y z (12+N+j+1))/\(12<=12+N+j->FkQ s x y z d)/\∀f,AnF s x y z N (12+N+j) f->b=0/\l=[f]:=fun h=>h.mono fun b n l m' e=>⟨fun h=>absurd h (by omega),fun _=>e.2.2,fun f g=>by
  rcases g with⟨_|_,_⟩|⟨U,T,g⟩
  ·omega
  ·omega
  obtain rfl:j=U:=by omega
  rw[g];exact⟨e.1,e.2.1⟩⟩
 rcases(show j=0\/j=1\/j=2\/j=3\/j=4 by omega)with rfl|rfl|rfl|rfl|rfl <;> cases u
 ·exact a (v.nxG (q:=0) (n:=0) (by decide) (by decide) rfl rfl rfl)
 ·exact a (v.nxG (q:=1) (n:=0) (by decide) (by decide) rfl rfl rfl)
 ·exact a (v.nxG (q:=0) (n:=1) (by decide) (by decide) rfl rfl rfl)
 ·exact a (v.nxG (q:=1) (n:=1) (by decide) (by decide) rfl rfl (by cases s <;> rfl))
 exact a v.nxR
end
theorem zl3 (f a n:Int) (s:Bool) (w):Xp prog 8 #[I6 f,I6 a,I6 n,Xh s] w fun e w'=>e= Xl (Xi #[I6 1,I6 0,I6 a,I6 n,I6 f,I6 0,Xh Xc,Xh Xc,Xh s,eS])/\zb w w':=by
 go_enter func8,ntmps8
 go_wp2;refine bodyPost_ret (zG rfl _ rfl (Box.top _ [I6 1,I6 0,I6 a,I6 n,I6 f,I6 0,Xh Xc,Xh Xc,Xh s,eS] _ rfl) underlying25 rfl (by kernel_rfl)) rfl ⟨rfl,(show Below _ _ _ from(bR _ _).alloc (nR _) _)⟩
def JA (i:Nat) (m:Ma) (az:List (Int × Int × List Int)):Prop:=
 (i=0->m=Jq 2 2 0)/\(i=1->m=zaL)/\(i=2->m=Qx ⟨0,0,0,9,0,0,0,0⟩ Xc)/\(i=3->∃n,az[2]? =Xa (0,n,[9]))
theorem zqi (w) (s:Sli) (x:s.n=1) (t:zl byE w (s.x) [9]) (i:Nat) (c:Cl) (m) (az:List (Int × Int × List Int)) (a: [zlk,zqJ s,zqI][i]? =Xa c) (q:az.length=i) (d:JA i m az):
  maW m=0/\(1<=c.kind/\c.kind<=15)/\∃K,(∀W,zb w W->J5 W m c K)/\∀e n l m' f,K e n l m'->((e=0/\f=m')\/(e≠0/\f=m))->JA (i+1) f (az++ [(e,n,l)]):=by
 obtain⟨b,r,u,_⟩:=d
 match i,a,q,b,r,u with
 | 0,a,q,b,_,_=>
  cases a;have g:=b rfl;subst g;refine⟨zom,by decide,Jg (Jq 2 2 0) 0 (zqQ (Jq 2 2 0) zlk),fun W _=>zcX W (Jq 2 2 0) zlk rfl (by decide) (by decide) (by decide) (by decide) (by decide),fun e n l m' f p b=>?_⟩
  obtain⟨j,k⟩:=zoF p
  rcases b with⟨_,d⟩|⟨d,_⟩
  ·exact⟨(fun h=>nomatch h),(fun _=>by rw[d,k]),(fun h=>nomatch h),(fun h=>nomatch h)⟩
  exact absurd j d
 | 1,a,q,_,r,_=>
  cases a;have g:=r rfl;subst g;refine⟨zi9,by show(1:Int)<=5/\(5:Int)<=15;omega,Jg zaL 0 (zdR zaL (fun _ _ _ _ _=>(Xd,0,zaL)) (zqJ s) [9]),fun W v=>works_store W zaL (zqJ s) [9] _ rfl (by show _<=(3:Int);omega) (by show(3:Int)<=_;omega) (t.grew v) (by show(s.n:Int)<=_;omega) (fun r t b=>zpO r t _ b) zrM,fun e n l m' f p b=>?_⟩
  obtain⟨j,k⟩:=zkc x p
  rcases b with⟨_,d⟩|⟨d,_⟩
  ·exact⟨(fun h=>nomatch h),(fun h=>nomatch h),(fun _=>by rw[d,k]),(fun h=>nomatch h)⟩
  exact absurd j d
 | 2,a,q,_,_,u=>
  cases a;have g:=u rfl;subst g;refine⟨zi8 Xc,by decide,Jg (Qx ⟨0,0,0,9,0,0,0,0⟩ Xc) 0 (ziX (Qx ⟨0,0,0,9,0,0,0,0⟩ Xc) (fun _ _ _ _ _=>(Xd,0,zaL)) zqI),fun W v=>works_load W (Qx ⟨0,0,0,9,0,0,0,0⟩ Xc) zqI _ rfl (by decide) (by decide) (by decide) (by decide) (fun r t b=>zpN r t _ b) zrL,fun e n l m' f p b=>?_⟩
  obtain⟨j,k⟩:=zmH p;refine⟨(fun h=>nomatch h),(fun h=>nomatch h),(fun h=>nomatch h),fun _=>⟨n,?_⟩⟩
  rw[aR (by omega),q,j,k]
  rfl
 | i+3,a,_,_,_,_=>exact absurd a (by simp)
theorem znO {α:Type} (E:Elt α) (w:Xn) (l:List α) (cs:Array Xq) (t) (n:Nat) (a:cs=(l.flatMap E.enc).toArray) (b:n=l.length) (hb:l.length*E.bytes<=140737488355328):zl E (w.alloc (Xk cs t)) (O (Xa ⟨w.heap.size,0,Xb⟩) n n) l:=by
 subst a b;exact⟨⟨_,l.length,rfl,fun h=>(by cases h),fun y a=>by
  cases a;exact qW.top w (l.flatMap E.enc) t rfl⟩,hb⟩
theorem zjc (p a x:Int) (w:Xn):Xp prog 9 #[I6 p,I6 a,U8 x] w fun e w'=>(∃s:Sli,e= Xl (Xi (clL ⟨5,p,a,0,0,0,Xd,Xd,Xd,s⟩).toArray)/\s.n=1/\zc byE w.heap.size w' (s.x) [x])/\zb w w':=by
 obtain⟨k,d⟩:=kA w.heap.size;obtain⟨b,c⟩:=kB (w.alloc (Xk #[I6 0,I6 0,I6 0,I6 0,I6 0,I6 0,Xh Xd,Xh Xd,Xh Xd,eS] 25));have h:=gA c
 have j:=xPT c d
 have g:=dD c;obtain⟨q,i⟩:=kA b.heap.size;have f:Xo (k<q):=show _<_ by rw[<-i.out];exact j.box.lt
 clear c
 go_enter func9,ntmps9
 go_upto_region 1 with fail;rw[g.out,d.out]
 go_wp2_with (refine zj rfl 25 (.tmp 6) (.tmp 11) rfl k rfl [I6 5,I6 p,I6 a,I6 0,I6 0,I6 0,Xh Xd,Xh Xd,Xh Xd,O (Xa ⟨b.heap.size,0,Xb⟩) 1 1] rfl (j.grew (za _ _)) rfl (by kernel_rfl) (by simp[Value.oneCell']) ?_)
 intro g j c k;clear k;have k:=dD j;have l:Xo (zb w g):=show zb _ _ from zd (h.trans (za _ _)) c (by have:=d.out;omega)
 have d:Xo (zc byE w.heap.size g (O (Xa ⟨b.heap.size,0,Xb⟩) 1 1) [x]):=dD<|by
  have g:zc byE b.heap.size (b.alloc (Xk #[U8 x] 5)) (.slice (Xa ⟨b.heap.size,0,Xb⟩) [x].length 1) [x]:=
   zc.mk' (E:=byE) (nR _) (zn.top b [U8 x] 5 rfl) (nR _) (by decide) rfl rfl (by show 1*1<=_;omega)
  exact(g.grown c (fun n m e=>by
   have g:Xa b.heap.size=Xa n:=m;simp only[Option.some.injEq]at g e;have:=f.out;have:=i.out
   omega)).base (bS h)
 clear j c;go_wp2;refine bodyPost_ret (zG rfl _ rfl k.box underlying25 rfl (by kernel_rfl)) rfl ⟨⟨⟨Xa ⟨b.heap.size,0,Xb⟩,1,1⟩,rfl,rfl,d⟩,l⟩
theorem zp1 (p a x:Int) (w):Xp prog 9 #[I6 p,I6 a,U8 x] w fun e w'=>(∃s:Sli,e= Xl (Xi (clL ⟨5,p,a,0,0,0,Xd,Xd,Xd,s⟩).toArray)/\s.n=1/\zl byE w' (s.x) [x])/\zb w w':=by
 refine(zjc p a x w).mono ?_;rintro e w' ⟨⟨s,b,c,d⟩,f⟩;exact⟨⟨s,b,c,d.at⟩,f⟩
theorem zjO (a n:Int) (w):Xp prog 7 #[I6 a,I6 n] w fun e w'=>e= Xl (Xi #[I6 1,I6 0,I6 a,I6 n,I6 (-1),I6 0,Xh Xc,Xh Xc,Xh Xd,eS])/\zb w w':=by
 go_enter func7,ntmps7
 go_wp2;refine bodyPost_ret (zG rfl _ rfl (Box.top _ [I6 1,I6 0,I6 a,I6 n,I6 (-1),I6 0,Xh Xc,Xh Xc,Xh Xd,eS] _ rfl) underlying25 rfl (by kernel_rfl)) rfl ⟨rfl,(show Below _ _ _ from(bR _ _).alloc (nR _) _)⟩
theorem zm0 (p a:Int) (w):Xp prog 10 #[I6 p,I6 a] w fun e w'=>e= Xl (Xi #[I6 4,I6 p,I6 a,I6 1,I6 0,I6 0,Xh Xd,Xh Xd,Xh Xd,eS])/\zb w w':=by
 go_enter func10,ntmps10
 go_wp2;refine bodyPost_ret (zG rfl _ rfl (Box.top _ [I6 4,I6 p,I6 a,I6 1,I6 0,I6 0,Xh Xd,Xh Xd,Xh Xd,eS] _ rfl) underlying25 rfl (by kernel_rfl)) rfl ⟨rfl,(show Below _ _ _ from(bR _ _).alloc (nR _) _)⟩
theorem jK (n:Int) (s:Sli) (x:Int) (xs w) (h:zl byE w (s.x) (x :: xs)):Xp prog 12 #[Qi 0 n s] w fun e w'=>e= Xl (U8 x)/\zb w w':=by
 have p:s.n=(x :: xs).length:=h.n;obtain⟨l,c,m⟩:=h.rowsAt 0 x rfl;obtain⟨A,B,t⟩:=s;simp only at c p;subst c p;unfold Qi;(try simp only);have b:0< (x :: xs).length:=Nat.succ_pos _;obtain⟨g,d⟩:=kA ((x :: xs).length);rw[d.out]at b⊢;obtain⟨y,j⟩:=kA w.heap.size;obtain⟨k,a⟩:=kB (w.alloc (Xk #[I6 0,I6 n,O (Xa l) g t] 54));have i:=gA a
 have A1:=xPT a j
 have f:=dD a;have z:k.cell? l=Xa (U8 x):=by simpa [Addr.add]using m k i 0 _ rfl
 clear a m h;have r:decide ((g:Int)<1)=Xd:=decide_eq_false (by omega)
 have q:(0:Int)< (g:Int):=by omega
 clear b
 go_enter func12,ntmps12
 go_upto_region 1 with fail;rw[f.out,j.out];have u:=A1.box.c 0 rfl;have v:=A1.box.c 2 rfl;go_wp2;go_ret;exact⟨rfl,i⟩
theorem zhi (w):Xp prog 6 #[] w fun e w'=>e= Xl (Xh Xc)/\zb w w':=by
 have a:Xo (∀W,Xp prog 7 #[I6 0,I6 1] W fun e w'=>e= Xl (Xi #[I6 1,I6 0,I6 0,I6 1,I6 (-1),I6 0,Xh Xc,Xh Xc,Xh Xd,eS])/\zb W w'):=fun W=>zjO 0 1 W
 have c:Xo (∀W,Xp prog 9 #[I6 0,I6 3,U8 9] W fun e w'=>(∃s:Sli,e= Xl (Xi #[I6 5,I6 0,I6 3,I6 0,I6 0,I6 0,Xh Xd,Xh Xd,Xh Xd,s.x])/\s.n=1/\zl byE w' (s.x) [9])/\zb W w'):=fun W=>zp1 0 3 9 W
 have b:Xo (∀W,Xp prog 10 #[I6 0,I6 3] W fun e w'=>e= Xl (Xi #[I6 4,I6 0,I6 3,I6 1,I6 0,I6 0,Xh Xd,Xh Xd,Xh Xd,eS])/\zb W w'):=fun W=>zm0 0 3 W
 go_enter func6,ntmps6
 go_wp2_with fail;refine(a _).mono ?_;rintro e a ⟨rfl,d⟩;have a:=dD d;go_wp2_with fail;refine(c _).mono ?_;rintro e c ⟨⟨s,rfl,f,g⟩,c⟩;have d:=dD (a.trans c);have c:=dD f;have f:=dD g;go_wp2_with fail;refine(b _).mono ?_;rintro e b ⟨rfl,a⟩;have k:=dD (d.trans a);have d:=dD (f.grew a);have a:=znO clE b [zlk,zqJ s,zqI] #[I6 1,I6 0,I6 0,I6 1,I6 (-1),I6 0,Xh Xc,Xh Xc,Xh Xd,eS,I6 5,I6 0,I6 3,I6 0,I6 0,I6 0,Xh Xd,Xh Xd,Xh Xd,s.x,I6 4,I6 0,I6 3,I6 1,I6 0,I6 0,Xh Xd,Xh Xd,Xh Xd,eS] 25 3 rfl rfl (by show 3*80<=_;omega)
 have b:=zje 2 2 0 ⟨by omega,by omega,by omega⟩ _ _ _ a (by show 3<=80;omega) JA ⟨fun _=>rfl,(fun h=>nomatch h),(fun h=>nomatch h),(fun h=>nomatch h)⟩ (zqi _ s c (d.grew (za _ _)))
 go_wp2_with (go_at_call 11;refine b.mono ?_)
 rintro e b ⟨⟨V,n,f,a,a,rfl,a,h,c⟩,l⟩;obtain⟨j,g⟩:=a.2.2.2 rfl;obtain⟨x,m,a,d,i⟩:=c 2 _ g;obtain⟨c,c,g⟩:=h.rowsAt 2 x m;cases c;have h:=dD ((k.trans (za _ _)).trans l);have c:Xo (zl byE b (x.s.x) [9]):=i;have i:Xo (∀W,zb b W->W.cell? ⟨f,6,Xb⟩=Xa (I6 0)/\W.cell? ⟨f,7,Xb⟩=Xa (I6 j)/\W.cell? ⟨f,8,Xb⟩=Xa (x.s.x)):=show∀W,_ from fun W f=>by
  have a:x.er=0:=a;have d:x.n=j:=d;rw[<-a,<-d];exact⟨g W f 0 _ rfl,g W f 1 _ rfl,g W f 2 _ rfl⟩
 go_upto_region 2 with fail;obtain⟨f,a⟩:=kB (b.alloc (Xk (mL V n).toArray 45));have d:=gP a
 obtain⟨b,b,b⟩:=i.out f d;have g:=dD (h.trans d);have b:=jK j x.s 9 [] f (c.grew d);unfold Qi at b;rw[a]
 go_wp2_with (go_at_call 12;refine b.mono ?_)
 rintro e a ⟨rfl,b⟩;have a:=dD (g.trans b);go_wp2;go_ret;exact⟨rfl,a⟩
def Rws (B:Nat) (w:Xn) (L:List (Sli × Int)):Prop:=∀p∈L,p.1.n=1/\zc byE B w (p.1.x) [p.2]
theorem Rws.grew {w:Xn} {L:List (Sli × Int)} (h:Rws B w L) (g:zb w w'):Rws B w' L:=fun p a=>⟨(h p a).1,(h p a).2.grew g⟩
theorem Rws.beside {q:Nat} {w:Xn} {o:Obj} {u:Xq} {L:List (Sli × Int)} {M:List Cl} (h:Rws B w L) (k:zc clE q w u M) (g:(w.alloc o).grownBy w' u.ownBlock):Rws B w' L:=fun p a=>⟨(h p a).1,((h p a).2.grew (za w o)).grown g fun b c e=>((h p a).2.apart k (by decide)) b c e⟩
theorem Rws.more {w:Xn} {L:List (Sli × Int)} (h:Rws B w L) {s:Sli} {x:Int} (c:s.n=1) (b:zc byE B w (s.x) [x]):Rws B w ((s,x) :: L):=fun p a=>by
 rcases mC.1 a with rfl|a
 ·exact⟨c,b⟩
 exact h p a
theorem zhR (x y z:Int) (s:Bool) (a0:Int) (w):Xp prog 3 #[U8 x,U8 y,U8 z,Xh s,I6 a0] w fun e w'=>e= Xl (Xh Xc)/\zb w w':=by
 have aq:=zhi w
 go_enter func3,ntmps3
 go_wp2_with fail;refine aq.mono ?_;clear aq;rintro e bm ⟨rfl,co⟩;have S:=dD co;clear co
 by_cases ac:a0<0
 ·have bq:decide (a0<0)=Xc:=decide_eq_true ac;clear ac;go_wp2;go_ret;exact⟨rfl,S⟩
 have bq:decide (a0<0)=Xd:=decide_eq_false ac
 by_cases ae:6<a0
 ·have br:decide (6<a0)=Xc:=decide_eq_true ae;clear ae;go_wp2;go_ret;exact⟨rfl,S⟩
 have br:decide (6<a0)=Xd:=decide_eq_false ae
 by_cases c8:x=255
 ·subst c8;clear ac ae;go_wp2;go_ret;exact⟨rfl,S⟩
 have e7:=beq_eq_false_iff_ne.2 c8;clear c8
 by_cases c9:y=255
 ·subst c9;clear ac ae;go_wp2;go_ret;exact⟨rfl,S⟩
 have e8:=beq_eq_false_iff_ne.2 c9;clear c9
 by_cases ca:z=255
 ·subst ca;clear ac ae;go_wp2;go_ret;exact⟨rfl,S⟩
 have e9:=beq_eq_false_iff_ne.2 ca;clear ca;obtain⟨N,bf⟩:∃N:Nat,Xo (a0=(N:Int)):=⟨a0.toNat,show _=_ by omega⟩
 rw[bf.out]at bq br;have V:Xo (N<=6):=dD<|by have:=bf.out;omega
 rw[bf.out];clear ac ae;have be:Xo (∀W,Xp prog 7 #[I6 0,I6 1] W fun e w'=>e= Xl (Xi #[I6 1,I6 0,I6 0,I6 1,I6 (-1),I6 0,Xh Xc,Xh Xc,Xh Xd,eS])/\zb W w'):=fun W=>zjO 0 1 W
 have bg:Xo (∀W,Xp prog 8 #[I6 0,I6 1,I6 1,Xh s] W fun e w'=>e= Xl (Xi #[I6 1,I6 0,I6 1,I6 1,I6 0,I6 0,Xh Xc,Xh Xc,Xh s,eS])/\zb W w'):=fun W=>zl3 0 1 1 s W
 have D:Xo (∀R m b3 W,Xp prog 9 #[I6 R,I6 m,U8 b3] W fun e w'=>(∃v:Sli,e= Xl (Xi #[I6 5,I6 R,I6 m,I6 0,I6 0,I6 0,Xh Xd,Xh Xd,Xh Xd,v.x])/\v.n=1/\zc byE W.heap.size w' (v.x) [b3])/\zb W w'):=fun R m b3 W=>zjc R m b3 W
 have C:Xo (∀R m W,Xp prog 10 #[I6 R,I6 m] W fun e w'=>e= Xl (Xi #[I6 4,I6 R,I6 m,I6 1,I6 0,I6 0,Xh Xd,Xh Xd,Xh Xd,eS])/\zb W w'):=fun R m W=>zm0 R m W
 obtain⟨ax,cc⟩:=kA bm.heap.size;have bj:Xo (ax<=bm.heap.size):=dD<|by rw[cc.out];exact nR _
 have cx:Xo (w.heap.size<=ax):=dD<|by rw[<-cc.out];exact bS S.out
 have de:Xo (Rws ax bm []):=fun R el=>nomatch el
 go_upto_region 5 with fail;clear bq br e7 e8 e9;go_wp2_with fail;refine(be _).mono ?_;rintro e ev ⟨rfl,g⟩;have df:=dD (de.grew g);have ba:=dD (S.trans g);have bk:=dD<|nT bj (bS g)
 clear g;go_wp2_with fail;refine(bg _).mono ?_;rintro e ew ⟨rfl,g⟩;have dg:=dD (df.grew g);have bb:=dD (ba.trans g);have b1:=dD<|nT bk (bS g)
 clear g;go_wp2_with fail;refine(D 0 2 x _).mono ?_;rintro e b2 ⟨⟨u,rfl,t,b⟩,g⟩;have dh:=dD<|(dg.grew g).more t (b.base b1);clear t b;have bc:=dD (bb.trans g);have ce:=dD<|nT b1 (bS g)
 clear g;go_wp2_with fail;refine(D 0 10 x _).mono ?_;rintro e i ⟨⟨A,rfl,t,b⟩,g⟩;have di:=dD<|(dh.grew g).more t (b.base ce);clear t b;have ag:=dD (bc.trans g);have bl:=dD<|nT ce (bS g)
 clear g;go_wp2_with fail;refine(C 1 2 _).mono ?_;rintro e ex ⟨rfl,g⟩;have dj:=dD (di.grew g);have cs:=dD (ag.trans g);have dr:=dD<|nT bl (bS g)
 clear g;go_wp2_with fail;refine(C 1 10 _).mono ?_;rintro e ey ⟨rfl,g⟩;have dk:=dD (dj.grew g);have ct:=dD (cs.trans g);have cf:=dD<|nT dr (bS g)
 clear g;go_wp2_with fail;refine(D 0 2 y _).mono ?_;rintro e ez ⟨⟨B,rfl,t,b⟩,g⟩;have dl:=dD<|(dk.grew g).more t (b.base cf);clear t b;have cu:=dD (ct.trans g);have cg:=dD<|nT cf (bS g)
 clear g;go_wp2_with fail;refine(D 1 2 z _).mono ?_;rintro e f0 ⟨⟨c,rfl,t,b⟩,g⟩;have dm:=dD<|(dl.grew g).more t (b.base cg);clear t b;have cv:=dD (cu.trans g);have ch:=dD<|nT cg (bS g)
 clear g;go_wp2_with fail;refine(D 0 10 y _).mono ?_;rintro e a9 ⟨⟨d,rfl,t,b⟩,g⟩;have bi:=dD<|(dm.grew g).more t (b.base ch);clear t b;have ak:=dD (cv.trans g);have dq:=dD<|nT ch (bS g)
 clear g;go_upto_region 6 with fail;obtain⟨L,ay⟩:=kA a9.heap.size;obtain⟨bn,Y⟩:=kB (a9.alloc (Xk #[I6 8,I6 0,I6 0,I6 0,I6 0,I6 0,Xh Xd,Xh Xd,Xh Xd,eS,I6 11,I6 0,I6 0,I6 8,I6 0,I6 0,Xh Xd,Xh Xd,Xh Xd,eS,I6 1,I6 0,I6 0,I6 1,I6 (-1),I6 0,Xh Xc,Xh Xc,Xh Xd,eS,I6 1,I6 0,I6 1,I6 1,I6 0,I6 0,Xh Xc,Xh Xc,Xh s,eS,I6 5,I6 0,I6 2,I6 0,I6 0,I6 0,Xh Xd,Xh Xd,Xh Xd,u.x,I6 5,I6 0,I6 10,I6 0,I6 0,I6 0,Xh Xd,Xh Xd,Xh Xd,A.x,I6 6,I6 0,I6 0,I6 0,I6 0,I6 0,Xh Xd,Xh Xd,Xh Xd,eS,I6 4,I6 1,I6 2,I6 1,I6 0,I6 0,Xh Xd,Xh Xd,Xh Xd,eS,I6 4,I6 1,I6 10,I6 1,I6 0,I6 0,Xh Xd,Xh Xd,Xh Xd,eS,I6 5,I6 0,I6 2,I6 0,I6 0,I6 0,Xh Xd,Xh Xd,Xh Xd,B.x,I6 5,I6 1,I6 2,I6 0,I6 0,I6 0,Xh Xd,Xh Xd,Xh Xd,c.x,I6 5,I6 0,I6 10,I6 0,I6 0,I6 0,Xh Xd,Xh Xd,Xh Xd,d.x] 25));have gA:=gP Y
 have d8:Xo (zc clE L bn (O (Xa ⟨L,0,Xb⟩) 12 12) (zjJ s u A B c d)):=dD<|by
  have ap:zn bn L 25 [I6 8,I6 0,I6 0,I6 0,I6 0,I6 0,Xh Xd,Xh Xd,Xh Xd,eS,I6 11,I6 0,I6 0,I6 8,I6 0,I6 0,Xh Xd,Xh Xd,Xh Xd,eS,I6 1,I6 0,I6 0,I6 1,I6 (-1),I6 0,Xh Xc,Xh Xc,Xh Xd,eS,I6 1,I6 0,I6 1,I6 1,I6 0,I6 0,Xh Xc,Xh Xc,Xh s,eS,I6 5,I6 0,I6 2,I6 0,I6 0,I6 0,Xh Xd,Xh Xd,Xh Xd,u.x,I6 5,I6 0,I6 10,I6 0,I6 0,I6 0,Xh Xd,Xh Xd,Xh Xd,A.x,I6 6,I6 0,I6 0,I6 0,I6 0,I6 0,Xh Xd,Xh Xd,Xh Xd,eS,I6 4,I6 1,I6 2,I6 1,I6 0,I6 0,Xh Xd,Xh Xd,Xh Xd,eS,I6 4,I6 1,I6 10,I6 1,I6 0,I6 0,Xh Xd,Xh Xd,Xh Xd,eS,I6 5,I6 0,I6 2,I6 0,I6 0,I6 0,Xh Xd,Xh Xd,Xh Xd,B.x,I6 5,I6 1,I6 2,I6 0,I6 0,I6 0,Xh Xd,Xh Xd,Xh Xd,c.x,I6 5,I6 0,I6 10,I6 0,I6 0,I6 0,Xh Xd,Xh Xd,Xh Xd,d.x]:=by rw[<-Y];exact zn.top a9 _ _ ay.symm
  exact zc.mk' (E:=clE) (l:=zjJ s u A B c d) (nR _) ap (by show 12<=12;omega) (by decide) rfl rfl (by show 12*80<=_;omega)
 have cw:=dD (ak.trans gA);have dn:=dD (bi.grew gA);have ds:Xo (L<=bn.heap.size):=show _<=_ by rw[<-ay.out];exact bS gA
 have ao:Xo (w.heap.size<=L):=dD<|by rw[<-ay.out];exact bS ak.out
 rw[Y,ay.out];clear Y gA;go_wp2
 go_loopg [11,56] N (fun eb c6 c7 wr=>∃(p:Nat) (m:Option Addr) (bp:Nat),p<=N/\N - p<=eb/\c7=I6 p/\c6= O m (12+p) bp/\Xo (zb w wr)/\Xo (L<=wr.heap.size)/\Xo (zc clE L wr (O m (12+p) bp) (zjJ s u A B c d++Xr p cEv))/\Xo (Rws ax wr ((d,y) ::(c,z) ::(B,y) ::(A,x) ::(u,x) :: [])))
 case atStart=>exact⟨0,_,12,nZ _,by omega,rfl,rfl,cw,ds,d8,dn⟩
 obtain⟨p,m,bp,c3,bx,rfl,rfl,cb,a8,b0,cd⟩:=hrel;have au:(zjJ s u A B c d++Xr p cEv).length=12+p:=by rw[lA,lR];rfl
 have a7:Xo (_=_):=au;clear au
 by_cases ab:p<N
 ·have av:=kC ab
  have ek:(p:Int)<=6:=by have:=V.out;omega
  go_wp2_with (at_builtin;refine zx (E:=clE) rfl (.tmp 58) (.tmp 60) rfl L _ (zjJ s u A B c d++Xr p cEv) rfl (b0.grew (za _ _)) _ [cEv] rfl (Zg clE wr cEv _ _ rfl (by show 80<=_;omega)) ?qb ?qc ?_)
  case qb=>
   rw[a7.out]
   show(12+p+1)*80<=_
   omega
  case qc=>have:=a8.out;simp;omega
  intro eu i K X;rw[<-List.replicate_succ']at K;have hlen:(zjJ s u A B c d++Xr (p+1) cEv).length=12+(p+1):=by rw[lA,lR];rfl
  obtain⟨cj,cn,rfl⟩:=K.form;rw[hlen]at K⊢;have d7:Xo (zc clE L i (O cj (12+(p+1)) cn) (zjJ s u A B c d++Xr (p+1) cEv)):=K;have ag:Xo (zb w i):=show zb _ _ from zX (cb.trans (za _ _)) X (fun g bw=>by
   have ap:=(b0.lt g bw).1;have:=ao.out
   omega)
  have bl:Xo (L<=i.heap.size):=dD<|by
   have ap:=X.size;have:=a8.out
   simp at ap
   omega
  have dd:=dD<|cd.beside b0 X;clear K X hlen;go_wp2
  go_roundg (N -(p+1))
  case measure=>omega
  exact⟨p+1,cj,cn,by omega,by omega,by go_num,rfl,ag,bl,d7,dd⟩
 have av:=kD ab
 have e:N=p:=by omega
 subst e;clear bx c3 ab;go_wp2_with fail;refine(C 0 2 _).mono ?_;rintro e f1 ⟨rfl,g⟩;have cr:=dD (cb.trans g);have dp:=dD<|nT a8 (bS g)
 have cy:=dD (b0.grew g);have d9:=dD (cd.grew g);clear g;go_wp2_with fail;refine(C 1 2 _).mono ?_;rintro e f2 ⟨rfl,g⟩;have S:=dD (cr.trans g);have bj:=dD<|nT dp (bS g)
 have cz:=dD (cy.grew g);have da:=dD (d9.grew g);clear g;go_wp2_with fail;refine(C 0 10 _).mono ?_;rintro e f3 ⟨rfl,g⟩;have ba:=dD (S.trans g);have bk:=dD<|nT bj (bS g)
 have d5:=dD (cz.grew g);have db:=dD (da.grew g);clear g;go_wp2_with fail;refine(C 1 10 _).mono ?_;rintro e du ⟨rfl,g⟩;have bb:=dD (ba.trans g);have b1:=dD<|nT bk (bS g)
 have bh:=dD (d5.grew g);have dc:=dD (db.grew g);clear g;have F:=znO clE du zqX #[I6 4,I6 0,I6 2,I6 1,I6 0,I6 0,Xh Xd,Xh Xd,Xh Xd,eS,I6 4,I6 1,I6 2,I6 1,I6 0,I6 0,Xh Xd,Xh Xd,Xh Xd,eS,I6 4,I6 0,I6 10,I6 1,I6 0,I6 0,Xh Xd,Xh Xd,Xh Xd,eS,I6 4,I6 1,I6 10,I6 1,I6 0,I6 0,Xh Xd,Xh Xd,Xh Xd,eS,I6 9,I6 0,I6 2,I6 1,I6 0,I6 0,Xh Xd,Xh Xd,Xh Xd,eS] 25 5 rfl rfl (by show 5*80<=_;omega)
 go_upto_region 11 with(at_builtin;refine zx (E:=clE) rfl (.tmp 63) (.tmp 69) rfl L _ (zjJ s u A B c d++Xr N cEv) rfl (bh.grew (za _ _)) _ zqX rfl F ?qb ?qc ?_)
 case qb=>
  rw[a7.out]
  show(12+N+5)*80<=_
  have:=V.out;omega
 case qc=>have:=b1.out;simp;omega
 clear F;intro et b2 H aa;rw[<-Xx]at H;have hlen:(zjJ s u A B c d++Xr N cEv++zqX).length=12+N+5:=by rw[lA,a7.out];rfl
 obtain⟨e5,e6,rfl⟩:=H.form;rw[hlen]at H⊢;have d6:Xo (zl clE b2 (O e5 (12+N+5) e6) (zjJ s u A B c d++Xr N cEv++zqX)):=H.at;have bc:Xo (zb w b2):=show zb _ _ from zX (bb.trans (za _ _)) aa (fun g bw=>by
  have ap:=(bh.lt g bw).1;have:=ao.out
  omega)
 have M:=dD<|dc.beside bh aa;obtain⟨T,a1⟩:=kA (12+N+5);have Z:=zje 6 6 4 ⟨by omega,by omega,by omega⟩ _ (zjJ s u A B c d++Xr N cEv++zqX) b2 d6 (by rw[hlen];have:=V.out;omega) (JF s x y z N) ⟨fun _=>rfl,fun bs=>absurd bs (by omega),fun G m bs=>absurd bs (by omega)⟩ (zqh (M (u,x) (by simp)).1 (M (u,x) (by simp)).2.at (M (A,x) (by simp)).1 (M (A,x) (by simp)).2.at (M (B,y) (by simp)).1 (M (B,y) (by simp)).2.at (M (c,z) (by simp)).1 (M (c,z) (by simp)).2.at (M (d,y) (by simp)).1 (M (d,y) (by simp)).2.at)
 rw[hlen]at Z;rw[a1.out]at Z⊢;clear H aa hlen
 go_upto_region 12 with(go_at_call 11;refine Z.mono ?_)
 clear Z;rintro e i ⟨⟨dt,es,f,f8,f5,rfl,cq,aw,ar⟩,cp⟩;have ag:=dD (bc.trans cp);have U:Xo (∀G m,G<T->AnF s x y z N G m->∃(n:Int) (v:Sli),zl byE i (v.x) [m]/\∀W,zb i W->W.cell? ⟨f,G*3,Xb⟩=Xa (I6 0)/\W.cell? ⟨f,G*3+1,Xb⟩=Xa (I6 n)/\W.cell? ⟨f,G*3+2,Xb⟩=Xa (v.x)):=show∀G m,_ from fun G m ej bz=>by
  obtain⟨n,t⟩:=cq.2.2 G m ej bz;obtain⟨y,er,j,k,ea⟩:=ar G _ t;obtain⟨f4,bv,h⟩:=aw.rowsAt G y er;cases bv;have j:y.er=0:=j;have k:y.n=n:=k;refine⟨n,y.s,ea,fun W bt=>?_⟩
  have ck:=h W bt 0 _ rfl;have cl:=h W bt 1 _ rfl;have cm:=h W bt 2 _ rfl;rw[jb,Xz,zA]at ck cl cm;rw[<-j,<-k];exact⟨ck,cl,cm⟩
 clear cq ar aw cp;go_upto_region 12 with fail;obtain⟨dv,bu⟩:=kB (i.alloc (Xk (mL dt es).toArray 45));have b4:=gA bu
 rw[bu];clear bu;have ec:(T:Int)<=23:=by have:=a1.out;have:=V.out;omega
 have ed:17<=(T:Int):=by have:=a1.out;omega
 obtain⟨ah,al⟩:∃I:Nat,Xo (I=12+N+0):=⟨_,rfl⟩;have em:(T:Int) - 5=(ah:Int):=by have:=a1.out;have:=al.out;omega
 have ee:(ah:Int)< (T:Int):=by omega
 obtain⟨ai,am⟩:∃I:Nat,Xo (I=12+N+1):=⟨_,rfl⟩;have en:(T:Int) - 4=(ai:Int):=by have:=a1.out;have:=am.out;omega
 have ef:(ai:Int)< (T:Int):=by omega
 obtain⟨aj,an⟩:∃I:Nat,Xo (I=12+N+2):=⟨_,rfl⟩;have eo:(T:Int) - 3=(aj:Int):=by have:=a1.out;have:=an.out;omega
 have eg:(aj:Int)< (T:Int):=by omega
 obtain⟨P,a3⟩:∃I:Nat,Xo (I=12+N+3):=⟨_,rfl⟩;have ep:(T:Int) - 2=(P:Int):=by have:=a1.out;have:=a3.out;omega
 have eh:(P:Int)< (T:Int):=by omega
 obtain⟨Q,a6⟩:∃I:Nat,Xo (I=12+N+4):=⟨_,rfl⟩;have eq:(T:Int) - 1=(Q:Int):=by have:=a1.out;have:=a6.out;omega
 have ei:(Q:Int)< (T:Int):=by omega
 have f6:(7:Int)< (T:Int):=by omega
 have f7:(8:Int)< (T:Int):=by omega
 obtain⟨r,v,b,h⟩:∃(n:Int) (v:Sli),zl byE i (v.x) [x]/\∀W,zb i W->W.cell? ⟨f,21,Xb⟩=Xa (I6 0)/\W.cell? ⟨f,21+1,Xb⟩=Xa (I6 n)/\W.cell? ⟨f,21+2,Xb⟩=Xa (v.x):=U.out 7 x (by omega) (.inl ⟨.inl rfl,rfl⟩)
 obtain⟨q,j,k⟩:=h _ b4.out;have a:=jK r v (x) [] dv (b.grew b4);unfold Qi at a
 go_wp2_with (go_at_call 12;refine a.mono ?_)
 rintro e dw ⟨rfl,g⟩;have b5:=dD (b4.trans g);clear g a b h q j k;obtain⟨r,v,b,h⟩:∃(n:Int) (v:Sli),zl byE i (v.x) [x]/\∀W,zb i W->W.cell? ⟨f,24,Xb⟩=Xa (I6 0)/\W.cell? ⟨f,24+1,Xb⟩=Xa (I6 n)/\W.cell? ⟨f,24+2,Xb⟩=Xa (v.x):=U.out 8 x (by omega) (.inl ⟨.inr rfl,rfl⟩)
 obtain⟨q,j,k⟩:=h _ b5.out;have a:=jK r v (x) [] dw (b.grew b5);unfold Qi at a
 go_wp2_with (go_at_call 12;refine a.mono ?_)
 rintro e dx ⟨rfl,g⟩;have b6:=dD (b5.trans g);clear g a b h q j k;obtain⟨r,v,b,h⟩:∃(n:Int) (v:Sli),zl byE i (v.x) [y]/\∀W,zb i W->W.cell? ⟨f,ah*3,Xb⟩=Xa (I6 0)/\W.cell? ⟨f,ah*3+1,Xb⟩=Xa (I6 n)/\W.cell? ⟨f,ah*3+2,Xb⟩=Xa (v.x):=U.out ah y (by omega) (.inr ⟨0,al,rfl⟩)
 obtain⟨q,j,k⟩:=h _ b6.out;have a:=jK r v (y) [] dx (b.grew b6);unfold Qi at a
 go_wp2_with (go_at_call 12;refine a.mono ?_)
 rintro e dy ⟨rfl,g⟩;have b7:=dD (b6.trans g);clear g a b h q j k;obtain⟨r,v,b,h⟩:∃(n:Int) (v:Sli),zl byE i (v.x) [z]/\∀W,zb i W->W.cell? ⟨f,ai*3,Xb⟩=Xa (I6 0)/\W.cell? ⟨f,ai*3+1,Xb⟩=Xa (I6 n)/\W.cell? ⟨f,ai*3+2,Xb⟩=Xa (v.x):=U.out ai z (by omega) (.inr ⟨1,am,rfl⟩)
 obtain⟨q,j,k⟩:=h _ b7.out;have a:=jK r v (z) [] dy (b.grew b7);unfold Qi at a
 go_wp2_with (go_at_call 12;refine a.mono ?_)
 rintro e dz ⟨rfl,g⟩;have b8:=dD (b7.trans g);clear g a b h q j k;obtain⟨r,v,b,h⟩:∃(n:Int) (v:Sli),zl byE i (v.x) [y]/\∀W,zb i W->W.cell? ⟨f,aj*3,Xb⟩=Xa (I6 0)/\W.cell? ⟨f,aj*3+1,Xb⟩=Xa (I6 n)/\W.cell? ⟨f,aj*3+2,Xb⟩=Xa (v.x):=U.out aj y (by omega) (.inr ⟨2,an,rfl⟩)
 obtain⟨q,j,k⟩:=h _ b8.out;have a:=jK r v (y) [] dz (b.grew b8);unfold Qi at a
 go_wp2_with (go_at_call 12;refine a.mono ?_)
 rintro e ci ⟨rfl,g⟩;have af:=dD (b8.trans g);clear g a b h q j k;cases s
 ·obtain⟨r,v,b,h⟩:∃(n:Int) (v:Sli),zl byE i (v.x) [x]/\∀W,zb i W->W.cell? ⟨f,P*3,Xb⟩=Xa (I6 0)/\W.cell? ⟨f,P*3+1,Xb⟩=Xa (I6 n)/\W.cell? ⟨f,P*3+2,Xb⟩=Xa (v.x):=U.out P x (by omega) (.inr ⟨3,a3,rfl⟩)
  obtain⟨q,j,k⟩:=h _ af.out;have a:=jK r v (x) [] ci (b.grew af);unfold Qi at a
  go_wp2_with (go_at_call 12;refine a.mono ?_)
  rintro e bo ⟨rfl,g⟩;have a2:=dD (af.trans g);clear g a b h q j k;obtain⟨r,v,b,h⟩:∃(n:Int) (v:Sli),zl byE i (v.x) [0]/\∀W,zb i W->W.cell? ⟨f,Q*3,Xb⟩=Xa (I6 0)/\W.cell? ⟨f,Q*3+1,Xb⟩=Xa (I6 n)/\W.cell? ⟨f,Q*3+2,Xb⟩=Xa (v.x):=U.out Q 0 (by omega) (.inr ⟨4,a6,rfl⟩)
  obtain⟨q,j,k⟩:=h _ a2.out;have a:=jK r v (0) [] bo (b.grew a2);unfold Qi at a
  go_wp2_with (go_at_call 12;refine a.mono ?_)
  rintro e e4 ⟨rfl,g⟩;have b9:=dD (a2.trans g);clear g a b h q j k;have bd:=dD (ag.trans b9);go_wp2;go_ret;exact⟨rfl,bd⟩
 obtain⟨r,v,b,h⟩:∃(n:Int) (v:Sli),zl byE i (v.x) [y]/\∀W,zb i W->W.cell? ⟨f,P*3,Xb⟩=Xa (I6 0)/\W.cell? ⟨f,P*3+1,Xb⟩=Xa (I6 n)/\W.cell? ⟨f,P*3+2,Xb⟩=Xa (v.x):=U.out P y (by omega) (.inr ⟨3,a3,rfl⟩)
 obtain⟨q,j,k⟩:=h _ af.out;have a:=jK r v (y) [] ci (b.grew af);unfold Qi at a
 go_wp2_with (go_at_call 12;refine a.mono ?_)
 rintro e bo ⟨rfl,g⟩;have a2:=dD (af.trans g);clear g a b h q j k;obtain⟨r,v,b,h⟩:∃(n:Int) (v:Sli),zl byE i (v.x) [y]/\∀W,zb i W->W.cell? ⟨f,Q*3,Xb⟩=Xa (I6 0)/\W.cell? ⟨f,Q*3+1,Xb⟩=Xa (I6 n)/\W.cell? ⟨f,Q*3+2,Xb⟩=Xa (v.x):=U.out Q y (by omega) (.inr ⟨4,a6,rfl⟩)
 obtain⟨q,j,k⟩:=h _ a2.out;have a:=jK r v (y) [] bo (b.grew a2);unfold Qi at a
 go_wp2_with (go_at_call 12;refine a.mono ?_)
 rintro e e4 ⟨rfl,g⟩;have b9:=dD (a2.trans g);clear g a b h q j k;have bd:=dD (ag.trans b9);go_wp2;go_ret;exact⟨rfl,bd⟩
end
section
open Go.ChangeShapes Go.WideShapes Go.ChangeAt Go.RowKit
theorem own:ownKnob Tryz.prog.godebug=Xb:=by kernel_rfl
theorem laidOut:laidOutB prog=Xc:=by kernel_rfl
theorem zd2 (T:Os) (e:T.Started) (L:Type) (enc:TypeId × Xq->L):
  ReturnsInHanded {} Tryz.checked T 3 .any (Rows.topForkSpec.pre6 enc prog Tryz.f3 Rows.topForkRow.domain Xd) (Rows.topForkSpec.post enc prog Tryz.f3 Xd Xc Xd Xd):=by
 refine returnsInHanded_of_change_sized (C:=Tryz.checked) own e (by kernel_rfl) func3
  (ChangeSpec.witness6 (enc:=enc) (C:=Tryz.checked) Xd ⟨#[],#[U8 0,U8 0,U8 0,Xh Xd,I6 0],[]⟩ 8 (by kernel_rfl) (by kernel_rfl) (by kernel_rfl) (by kernel_rfl)) ?_
 intro W h c N a6 j d Q R g _;have n:(DataW.weightsEach prog (Tryz.f3.params.toList++Rows.topForkSpec.plain.varTypes prog) (N++a6)).all (·<=reachBytes)=Xc:=g;have a:∀(S:Nat) t v,Tryz.f3.params[S]? =Xa t->c[S]? =Xa v->Value.okWide prog W .any h t v:=d;have k:=Q;obtain⟨al,b9,i,ac,rfl,ae,af⟩:=Q;have P:DataW.TrodAll enc prog W 0 (fun _=>Xc) Xc Tryz.f3.params.toList c.toList N al:=i
 rw[Tryz.params3]at P a n;obtain⟨U,ay,b3,a1,am,ba,l,rfl,rfl,p,ar⟩:=trodAll_cons P;obtain⟨V,az,b4,a2,an,bb,rfl,rfl,rfl,r,au⟩:=trodAll_cons ar;obtain⟨X,b0,b5,a3,ao,bc,rfl,rfl,rfl,u,av⟩:=trodAll_cons au;obtain⟨Y,b1,b6,a4,ap,bd,rfl,rfl,rfl,y,aw⟩:=trodAll_cons av;obtain⟨Z,b2,b7,a5,aq,be,rfl,rfl,rfl,A,ax⟩:=trodAll_cons aw;obtain⟨rfl,rfl,rfl⟩:=trodAll_nil ax;obtain rfl:c=#[U,V,X,Y,Z]:=by cases c;simp_all
 obtain⟨rfl,rfl⟩:=trodVars_none ac;have D:∀x∈am,x.block<W.heap.size:=by obtain⟨m,f⟩:=p;exact DataW.trod_lt m _ _ _ f
 have E:∀x∈an,x.block<W.heap.size:=by obtain⟨m,f⟩:=r;exact DataW.trod_lt m _ _ _ f
 have F:∀x∈ao,x.block<W.heap.size:=by obtain⟨m,f⟩:=u;exact DataW.trod_lt m _ _ _ f
 have G:∀x∈ap,x.block<W.heap.size:=by obtain⟨m,f⟩:=y;exact DataW.trod_lt m _ _ _ f
 have H:∀x∈aq,x.block<W.heap.size:=by obtain⟨m,f⟩:=A;exact DataW.trod_lt m _ _ _ f
 have q:=p;have s:=r;have w:=u;have z:=y;have B:=A;obtain⟨ag,rfl,rfl,rfl,bf⟩:=open_int underlying5 (a 0 5 U rfl rfl) p;obtain⟨ah,rfl,rfl,rfl,bg⟩:=open_int underlying5 (a 1 5 V rfl rfl) r;obtain⟨ai,rfl,rfl,rfl,bh⟩:=open_int underlying5 (a 2 5 X rfl rfl) u;obtain⟨aj,rfl,rfl,rfl⟩:=open_bool underlying4 (a 3 4 Y rfl rfl) y;obtain⟨ak,rfl,rfl,rfl,bi⟩:=open_int underlying3 (a 4 3 Z rfl rfl) A;clear i d g;refine(zhR ag ah ai aj ak W).mono fun b8 I ⟨ad,bel⟩=>?_
 subst ad;have b:∀{t:TypeId} {v:Xq} {M:DataW L} {K:List MemPlace},Tryz.prog.readableRec t=Xc->t<Tryz.prog.types.size->DataW.Trod enc prog W 0 (fun _=>Xc) Xc t v M K->(∀x∈K,x.block<W.heap.size)->DataW.Trod enc prog I 0 (fun a0=>decide (a0<W.heap.size)) Xc t v M K:=
  fun a8 a9 aa ab=>Below.trod laidOut a8 a9 aa bel ab
 exact⟨_,rfl,_,_,_,[],_,[],k,trodAll_mk1 (shut_bool underlying4 _),(trodAll_cons_mk (b (by kernel_rfl) (of_decide_eq_true (by kernel_rfl)) q D) (trodAll_cons_mk (b (by kernel_rfl) (of_decide_eq_true (by kernel_rfl)) s E) (trodAll_cons_mk (b (by kernel_rfl) (of_decide_eq_true (by kernel_rfl)) w F) (trodAll_cons_mk (b (by kernel_rfl) (of_decide_eq_true (by kernel_rfl)) z G) (trodAll_cons_mk (b (by kernel_rfl) (of_decide_eq_true (by kernel_rfl)) B H) trodAll_mk0))))),rfl,Below.frame bel _,fun a7=>by cases a7⟩
theorem zf3:Rows.topForkRow.holds Tryz.pinned (OpenSpec.ofChange Rows.topForkSpec):=
 OpenClaim.holds_of_wide 3 Tryz.f3 rfl rfl rfl rfl rfl rfl rfl ⟨rfl,rfl,rfl,rfl,rfl⟩ rfl rfl rfl rfl rfl (by kernel_rfl) func3 (by kernel_rfl)
  (of_decide_eq_true (by kernel_rfl)) (by unfold Func.isWrapper;first | (rw[kE (by decide+kernel)];kernel_rfl) | (rw[kF (by decide+kernel)];exact⟨rfl,rfl⟩))
  (fun c a H b _=>zd2 c a H b)
theorem topFork_holds:Rows.TopForkSaid:=zf3
#print axioms topFork_holds
end
end Go.Proofs.YtmfckdkcmbncdaaGreat
