import Derived.Test.YtmfckdkcmbncdaaGreatMM2
import Derived.Deep.DeepCutAuto
namespace Go.Proofs.YtmfckdkcmbncdaaGreat
open Go.Value renaming slice→O,int→Xe,bool→Xh,agg→Xi,pointer→Xj,tuple→Xm
open Go.IntKind renaming i64→Xf,u8→Xg
open Go.Obj renaming cells→Xk
open Go.Ending renaming returned→Xl
open Go renaming World→Xn,Calls→Xp,Value→Xq
open Go.RowKit renaming Hid→Xo
open Option renaming some→Xa,none→Xb
open Bool renaming true→Xc,false→Xd
open List renaming replicate→Xr
open _root_.List renaming getElem?_cons_succ→Xs,any_eq_true→Xt,length_take→Xu,take_of_length_le→Xv,getElem?_of_mem→Xy,mem_range→Xz,length_set→Yc,ext_getElem?→Ye,take_add_one→Yf,countP_cons→Yh,length_cons→Yi,pairwise_iff_getElem→Yj,takeWhile_cons→Yk,length_map→Yl,mem_cons_self→Ym,mem_singleton→Yn,take→Yp,drop→Yq,flatMap_append→Yt,getElem?_map→Yv,append_assoc→Yw,length_drop→Yx,mem_map→Yy,mem_filter→Yz,take_left'→Oa,contains_iff_mem→Ob,take_append_drop→Oc,mem_of_mem_tail→Od,findIdx_getElem→Oe,mem_of_mem_take→Of,pairwise_cons→Oh,map_nil→Ok,size_toArray→Ol
open Go.Addr renaming add_lit→Xw
open Go.Act renaming put→Xx
open _root_.Nat renaming lt_of_lt_of_le→Ya,mod_eq_of_lt→Yb,le_of_ble_eq_true→Yd,mod_lt→Yo,mul_le_mul_right→Yr,mod_add_mod→Ys,add_zero→Yu,pos_of_ne_zero→Og,sub_self→Oi
open Go.Sem renaming run_bind→Yg,run_pure→Oj
set_option maxRecDepth 100000
set_option maxHeartbeats 4000000
variable{B b fi g ix j:Nat}{Q:Exit->Act->Xn->Prop}{V:MaV}{W w' w0 w1:Xn}{l:List Ar}{m m':Ma}{o:Oper}{ops:Array Oper}{t:TypeId}
open Go.Proofs.Tryz
section
open Go.RowKit
def qv(f:Nat->On):Nat->Ar:=fun n=>Q8 n (f n)
def zli(l:List Ar)(i:Nat)(a:Ar)(n:Nat):Nat->On:=fun j=>if a.fr<=(j:Int)/\(j:Int)<(n:Int)then qg a j else zN (l.take i) j
theorem Qd.take:∀{l:List Ar}{p:Option Ar},Qd p l->∀i,Qd p (l.take i)
 |[],_,_,i=>by simp[Qd]
 |a::l,p,h,0=>by simp[Qd]
 |a::l,p,h,i+1=>⟨h.1,h.2.1,h.2.2.take i⟩
theorem Qd.free(h:Qd Xb l){i:Nat}{a:Ar}(d:l[i]?=Xa a)(b:a.fr<=(j:Int)):zN (l.take i) j=on0:=by
 refine zaU fun x c=>zdw ?_
 have b:=h.take (i+1);rw[Zp d]at b;obtain⟨d,e,f⟩:=Jy.1 b
 cases b:zax Xb (l.take i)with
 |none=>
  unfold zax at b
  cases e:l.take i with
  |nil=>rw[e]at c;cases c
  |cons y g=>rw[e]at b;simp[List.getLast?_cons]at b
 |some y=>
  have q:=(f y b).1;have e:jK y:=d.all y (by grind[zax,List.mem_of_getLast?])
  unfold jK at e
  rcases zh6 _ Xb d x c y b with e|e
  ·grind
  omega
theorem zmk{i:Nat}{a:Ar}{n:Nat}(b:(n:Int)=a.fr):zli l i a n=zN (l.take i):=by
 funext j
 unfold zli;rw[kF Wm]
theorem zof{i:Nat}{a:Ar}{n:Nat}(b:a.fr<=(n:Int)):upd (qv (zli l i a n)) n (Q8 n (qg a n))=qv (zli l i a (n+1)):=by
 funext j
 unfold upd qv zli
 by_cases e:j=n
 ·subst e;rw[kE rfl,kE Wm]
 rw[kF e]
 congr 1
 by_cases h:a.fr<=(j:Int)/\(j:Int)<(n:Int)
 ·rw[kE h,kE Wm]
 rw[kF h,kF Wm]
theorem zpS{i:Nat}{a:Ar}{n:Nat}(h:Qd Xb l)(c:l[i]?=Xa a)(e:(n:Int)=a.tz):zli l i a n=zN (l.take (i+1)):=by
 funext j
 unfold zli;rw[Zp c,Jl]
 ·by_cases b:a.fr<=(j:Int)/\(j:Int)<(n:Int)
  ·rw[kE b,kE (jg.2 Wm)]
  rw[kF b,kF (fun d=>b (Hm (jg.1 d)))]
 by_cases b:a.fr<=(j:Int)
 ·exact .inl (h.free c b)
 exact .inr (zdw Wm)
theorem zl6:qv (zN ([]:List Ar))=fun _=>ar0:=by
 funext j
 rfl
theorem zj8(v:Xq)(l:List Ar)(w:Xn)(aa:zj arE w v l)(P:Qd Xb l):
  Xp prog 170 #[v] w fun e w'=>e=Xl (Xi (qo (tab (qv (zN l)))).toArray)/\zc w w':=by
 have L:=aa.short;obtain⟨a,bo,rfl,j⟩:=aa.aE;have am:Xo (zjN w a l):=j;have D:Xo (Qd Xb l):=P;have I:Xo (∀(q:Ar)(z:Nat)W,jK q->z<64->Xp prog 132 #[Xi #[I6 q.fr,I6 q.tz,Xh q.rd,Xh q.wr,Xh q.sh,I6 q.file,I6 q.base],I6 (z:Int)] W fun e w'=>e=Xl (arA (Q8 z (qg q z)))/\zc W w'):=fun q z W ba bb=>zi8 q z W ba bb
 clear j aa P;have ai:=zf9;obtain⟨s,m⟩:=kA (qo (tab fun _=>ar0))
 rw[m.out]at ai;have F:Xo (s.length=448):=dD<|by rw[<-m.out,QL]
 obtain⟨C,Q⟩:=kA (qo (tab (qv (zN l))));rw[Q.out];obtain⟨A,Z⟩:=kA l.length;rw[Z.out]at L⊢;obtain⟨a6,f⟩:=kB ((w.alloc (Xk s.toArray 233)).alloc (Xk s.toArray 233));have X:=gD2 f
 have aw:Xo (Box a6 w.heap.size s):=dD<|by rw[<-f];exact(Box.aD _ _ _ Sm).alloc _
 have an:Xo (Box a6 (w.heap.size+1) (qo (tab (qv (zN (l.take 0)))))):=dD<|by rw[<-f,List.take_zero,zl6,m.out];exact Box.aD _ _ _ Sm
 have a3:Xo (_=a6):=f;clear f
 go_enter func170,ntmps170
 go_upto_region 2 with fail;rw[a3.out];clear ai;go_wp2
 go_loopg[9] A (fun b9 bl wr=>∃c:Nat,c<=A/\A-c<=b9/\bl=I6 c/\Xo (zc w wr)/\Xo (Box wr w.heap.size s)/\Xo (Box wr (w.heap.size+1) (qo (tab (qv (zN (l.take c)))))))
 exact⟨0,nZ _,Wm,rfl,X,aw,an⟩
 obtain⟨c,be,R,rfl,T,ae,a5⟩:=hrel
 by_cases x:c<A
 ·have N:=kC x
  obtain⟨q,a1⟩:∃q,Xo (l[c]?=Xa q):=⟨_,gE (Rx Z.out x)⟩
  obtain⟨bn,rfl,ag⟩:=am.out c q a1.out;obtain⟨b0,b1,b2,b4,b5,b6,b7⟩:=ag wr T.out;have E:Xo (jK q):=D.all q (mG a1);have a9:0<=q.fr/\q.fr<q.tz/\q.tz<=64:=by have:=E.out;unfold jK at this;omega
  obtain⟨bf,bg,bh⟩:=a9;obtain⟨S,a0⟩:=kA wr.heap.size;have Y:Xo (w.heap.size+1<S):=dD<|Ry a0.out a5.lt
  clear ag;go_upto_region 5 with fail;obtain⟨av,d⟩:=kB (wr.alloc (Xk #[I6 q.fr,I6 q.tz,Xh q.rd,Xh q.wr,Xh q.sh,I6 q.file,I6 q.base] 125));have ak:=gT d T
  have ax:=yA d ae
  obtain⟨y,M⟩:∃y:Nat,(y:Int)=q.fr:=⟨q.fr.toNat,Wm⟩
  have ao:Xo (Box av (w.heap.size+1) (qo (tab (qv (zli l c q y))))):=dD<|by rw[<-d,zmk M];exact a5.alloc _
  have ac:=xP d a0
  rw[d,a0.out];clear d b0 b1 b2 b4 b5 b6 b7;have bi:=ac.c 0 rfl;go_wp2
  go_loopg[6] (q.tz.toNat-y) (fun t bk g=>∃b:Nat,y<=b/\(b:Int)<=q.tz/\q.tz.toNat-b<=t/\bk=I6 b/\Xo (zc w g)/\Xo (Box g w.heap.size s)/\Xo (Box g (w.heap.size+1) (qo (tab (qv (zli l c q b)))))/\Xo (Box g S [I6 q.fr,I6 q.tz,Xh q.rd,Xh q.wr,Xh q.sh,I6 q.file,I6 q.base]))
  exact⟨y,nR _,Wm,Wm,by rw[M],ak,ax,ao,ac⟩
  obtain⟨b,bd,af,bc,rfl,B,H,G,p⟩:=hrel;clear bi;have bj:=p.c 1 rfl
  by_cases ah:(b:Int)<q.tz
  ·have h:b<64:=Wm
   have a7:(b:Int)<64:=Wm
   have a2:Xo (upd (qv (zli l c q b)) b (Q8 b (qg q b))=qv (zli l c q (b+1))):=zof (l:=l) (i:=c) (a:=q) (n:=b) Wm
   go_wp2_with(refine zm rfl 125 (.tmp 5) rfl S rfl p underlying125 rfl zr0 ?_)
   refine(I q b wr E h).mono ?_;rintro e bm⟨rfl,t⟩;have al:=dD (B.trans t);have ay:=dD (H.aA t);have ap:=dD (G.aA t);have ar:=dD (p.aA t);clear t bj
   go_wp2_with(refine zdZ rfl (.tmp 25) (.tmp 24) rfl (w.heap.size+1) b h rfl (Q8 b (qg q b)) rfl ap.out ?_)
   intro r K u ab;have aq:Xo (Box r (w.heap.size+1) (qo (tab (qv (zli l c q (b+1)))))):=dD<|Ry a2.out K
   have U:Xo (zc w r):=zd al u Sm
   have az:Xo (Box r w.heap.size s):=ay.beside u (by intro b8 R;cases R;simp)
   have au:Xo (Box r S [I6 q.fr,I6 q.tz,Xh q.rd,Xh q.wr,Xh q.sh,I6 q.file,I6 q.base]):=ar.beside u (by intro b8 R;cases R;have:=Y.out;omega)
   clear K u ab;go_wp2
   go_roundg (q.tz.toNat-(b+1));exact⟨b+1,Wm,Wm,Wm,Gn,U,az,aq,au⟩;omega
  have a8:(b:Int)=q.tz:=Wm
  have a4:Xo (Box wr (w.heap.size+1) (qo (tab (qv (zN (l.take (c+1))))))):=dD<|by rw[<-zpS D.out a1.out a8];exact G.out
  go_wp2
  go_roundg (A-(c+1));exact⟨c+1,Wm,Wm,Gn,B,H,a4⟩;omega
 have N:=kD x
 have:c=A:=Wm
 subst this;have a4:Xo (Box wr (w.heap.size+1) C):=dD<|by rw[<-Q.out];have:=a5.out;rw[<-Z.out,List.take_length]at this;exact this
 have k:Xo (C.length=448):=dD<|by rw[<-Q.out,QL]
 have V:Xo (∀v∈C,v.oneCell'=Xc):=dD<|by rw[<-Q.out];exact zey _
 go_wp2_with(first|refine zm rfl 233 (.tmp 3) rfl (w.heap.size+1) rfl a4 underlying233 rfl (Rx k.out zr2) ?_|refine zx rfl 233 (.tmp 2) (.tmp 27) rfl w.heap.size rfl C rfl ae (by rw[k.out,F.out]) (Rx F.out zr2) V.out ?_)
 intro r K u ab;have U:Xo (zc w r):=dD<|zd T u Sm
 have aj:Xo (Box r w.heap.size C):=K;clear K u ab;go_wp2;refine bodyPost_ret (zB rfl _ rfl aj underlying233 rfl (Rx k.out zr2)) rfl ⟨rfl,U⟩
theorem zb.arc{base:Nat}{w:Xn}{n c:Nat}{fs:List Ar}(h:zb arE base w (O (Xa ⟨g,0,Xb⟩) n c) fs){i:Nat}{q:Ar}(a:fs[i]?=Xa q)(j:Nat){u:Xq}(b:(arv q)[j]?=Xa u):w.cell? ⟨g,i*7+j,Xb⟩=Xa u:=by
 have:=h.one a j u b;rw[jh,Xw,zA]at this;exact this
theorem zn7{f:Nat->On}{k:Nat}(h:(f k).is=Xc):qv f k=⟨k,(k:Int)+1,(f k).rd,(f k).wr,(f k).sh,(f k).file,(f k).aI⟩:=by
 unfold qv Q8;rw[kE h]
theorem zn6{f:Nat->On}{k:Nat}(h:(f k).is=Xd):qv f k=ar0:=by
 unfold qv Q8;rw[kF (by rw[h];decide)]
theorem zks(f:Nat->On)(w:Xn)(hg:znK f):
  Xp Tryz.prog 171 #[Xi (qo (tab (qv f))).toArray] w fun e w'=>(∃v,e=Xl v/\zb arE (w.heap.size+1) w' v (zbL f))/\zc w w':=by
 have HGD:Xo (znK f):=hg;have hgo:Xo (∀(q b:Ar)W,jK b->Xp Tryz.prog 166 #[Xi #[Xe Xf q.fr,Xe Xf q.tz,Xh q.rd,Xh q.wr,Xh q.sh,Xe Xf q.file,Xe Xf q.base],Xi #[Xe Xf b.fr,Xe Xf b.tz,Xh b.rd,Xh b.wr,Xh b.sh,Xe Xf b.file,Xe Xf b.base]] W fun e w'=>e=Xl (Xh (goB q b))/\zc W w'):=fun q b W h=>zen q b W h
 have HIX:Xo (∀{ops:Array Oper}{rest:List Oper}{o:Oper}{a:Act}{w:Xn}{Q:Exit->Act->Xn->Prop}(_:o.guard=Xb)(x ix:Operand)(_:o.op=.index 233 x ix)(_:a.eval x=Xi (qo (tab (qv f))).toArray)(i:Nat)(_:a.eval ix=Xe Xf (i:Int))(_:i<64){v:Xq}(_:arA (qv f i)=v)
  (_:wpList Tryz.prog ops Q rest (a.put o.dst v) w),wpList Tryz.prog ops Q (o::rest) a w):=fun h1 x ix h2 h3 i h4 h5 _ h6 h7=>znN h1 x ix h2 (qv f) h3 i h4 h5 h6 h7
 clear hg;have HCL:Xo ((qo (tab (qv f))).length=448):=QL _
 generalize qo (tab (qv f))=C at HIX HCL⊢
 obtain⟨W0,hW0⟩:∃W0,w.alloc (Xk C.toArray 233)=W0:=⟨_,rfl⟩;have HG0:=gA hW0
 have X0:=xA hW0
 have HS0:=sA hW0
 have HW0:Xo (_=W0):=hW0;clear hW0
 go_enter Tryz.func171,Tryz.ntmps171
 go_upto_region 1 with fail;rw[HW0.out]
 go_wp2_with(refine zm rfl 233 (.tmp 1) rfl w.heap.size rfl X0.out Tryz.underlying233 rfl (by rw[HCL.out];exact zr2) ?_)
 go_loopg[3,8] 64 (fun gg s3 s8 wr=>∃(kk:Nat)(acc:List Ar)(xa:Option Addr)(xc:Nat),kk<=64/\64-kk<=gg/\s8=Xe Xf kk/\s3=O xa acc.length xc/\Xo (zc W0 wr)/\Xo (zb arE (w.heap.size+1) wr (O xa acc.length xc) acc)/\Xo (J f kk acc))
 case atStart=>exact⟨0,[],Xb,0,nZ _,by omega,rfl,rfl,zc.refl _,zb.nil _ _ _,J.zero f⟩
 obtain⟨kk,acc,xa,xc,hkk,hgg,rfl,rfl,BW,OW,JW⟩:=hrel
 by_cases hlt:kk<64
 ·have hltz:(kk:Int)<64:=by omega
  have HLEN:Xo (acc.length<=kk):=JW.out.len;obtain⟨p,HP⟩:∃p,Xo (wr.heap.size=p):=⟨_,rfl⟩
  cases hs:(f kk).is with
  |false=>
   have HIV:Xo (arA (qv f kk)=Xi #[Xe Xf 0,Xe Xf 0,Xh Xd,Xh Xd,Xh Xd,Xe Xf 0,Xe Xf 0]):=show _=_ by rw[zn6 hs];rfl
   have J2:Xo (J f (kk+1) acc):=JW.out.skip ((HGD.out kk hlt).1 hs);clear hs
   go_wp2_with(refine HIX.out rfl (.tmp 7) (.tmp 8) rfl rfl kk rfl hlt HIV.out ?_)
   go_roundg (64-(kk+1))
   case measure=>omega
   exact⟨kk+1,acc,xa,xc,by omega,by omega,by go_num,rfl,BW.out.trans (za _ _),OW.out.aA (za _ _),J2.out⟩
  |true=>
   have HS:Xo ((f kk).is=Xc):=hs;have HPF:Xo (qv f kk=⟨kk,(kk:Int)+1,(f kk).rd,(f kk).wr,(f kk).sh,(f kk).file,(f kk).aI⟩):=zn7 hs;have HNEW:Xo ((∀b,acc.getLast?=Xa b->goB (qv f kk) b=Xd)->J f (kk+1) (acc++[qv f kk])):=fun h=>JW.out.new HGD.out hlt HS.out h
   have HEXT:Xo (∀i b,acc=i++[b]->goB (qv f kk) b=Xc->J f (kk+1) (i++[{b with tz:=(kk:Int)+1}])):=fun i b h1 h2=>by
    have:=JW.out;rw[h1]at this;exact this.ext HGD.out hlt HS.out h2
   clear hs;rw[HPF.out]at HNEW HEXT;have HIV:Xo (arA (qv f kk)=Xi #[Xe Xf (kk:Int),Xe Xf ((kk:Int)+1),Xh (f kk).rd,Xh (f kk).wr,Xh (f kk).sh,Xe Xf (f kk).file,Xe Xf (f kk).aI]):=show _=_ by rw[HPF.out];rfl
   generalize f kk=x at HNEW HEXT HIV
   have hne1:((kk:Int)==(kk:Int)+1)=Xd:=by simp;omega
   go_upto_region 5 with(refine HIX.out rfl (.tmp 7) (.tmp 8) rfl rfl kk rfl hlt HIV.out ?_)
   obtain⟨W1,hW1⟩:∃W1,wr.alloc (Xk #[Xe Xf (kk:Int),Xe Xf ((kk:Int)+1),Xh x.rd,Xh x.wr,Xh x.sh,Xe Xf x.file,Xe Xf x.aI] 125)=W1:=⟨_,rfl⟩;have G1:=gT hW1 BW
   have O1:Xo (zb arE (w.heap.size+1) W1 (O xa acc.length xc) acc):=show zb _ _ _ _ _ by rw[<-hW1];exact OW.out.aA (za _ _)
   have P1:=xPT hW1 HP
   rw[hW1,HP.out];clear hW1 HP
   rcases List.eq_nil_or_concat acc with hnil|⟨ini,b,hacc⟩
   ·subst hnil;have J2:Xo (J f (kk+1) [⟨kk,(kk:Int)+1,x.rd,x.wr,x.sh,x.file,x.aI⟩]):=HNEW.out (fun b hb=>by cases hb)
    obtain⟨p0,p1⟩:=P1.out.box.k2;have hm1:decide ((0:Int)<=-1)=Xd:=by decide
    go_upto_region 7 with fail;go_quiet(fail);obtain⟨W2,hW2⟩:∃W2,W1.drewN nq=W2:=⟨_,rfl⟩;have G2:Xo (zc W0 W2):=show zc _ _ by rw[<-hW2];exact G1.out.trans (show Below _ _ _ from bD (bR _ _) _)
    have P2:Xo (zg W2 p 125 [Xe Xf (kk:Int),Xe Xf ((kk:Int)+1),Xh x.rd,Xh x.wr,Xh x.sh,Xe Xf x.file,Xe Xf x.aI]):=show zg _ _ _ _ by rw[<-hW2];exact P1.out.aA (show Below _ _ _ from bD (bR _ _) _)
    have O2:Xo (zb arE (w.heap.size+1) W2 (O xa 0 xc) []):=show zb _ _ _ _ _ by rw[<-hW2];exact O1.out.aA (show Below _ _ _ from bD (bR _ _) _)
    rw[hW2];clear hW2 p0 p1;have HSZ:Xo (w.heap.size+1<=W2.heap.size):=show _<=_ by rw[<-HS0.out];exact bS G2.out
    go_wp2_with(first|refine zm rfl 125 (.tmp 5) rfl p rfl P2.out.box Tryz.underlying125 rfl zr0 ?_|(at_builtin;refine zr (E:=arE) rfl (.tmp 35) (.tmp 37) rfl (w.heap.size+1) _ [] rfl (O2.out.aA (za _ _)) _ [⟨kk,(kk:Int)+1,x.rd,x.wr,x.sh,x.file,x.aI⟩] rfl (ZD arE W2 ⟨kk,(kk:Int)+1,x.rd,x.wr,x.sh,x.file,x.aI⟩ _ _ rfl (by show 40<=_;omega)) ?qb ?qc ?_))
    case qb=>
     show(0+1)*40<=_
     omega
    case qc=>simp;have:=HSZ.out;omega
    intro v4 W4 ow4 gr4;obtain⟨xa4,xc4,rfl⟩:=ow4.form;have O4:Xo (zb arE (w.heap.size+1) W4 (.slice xa4 ([]++[(⟨kk,(kk:Int)+1,x.rd,x.wr,x.sh,x.file,x.aI⟩:Ar)]).length xc4) ([]++[⟨kk,(kk:Int)+1,x.rd,x.wr,x.sh,x.file,x.aI⟩])):=ow4;have G4:Xo (zc W0 W4):=show zc _ _ from zT (G2.out.trans (za _ _)) gr4 (fun g hg=>by
     have h1:=(O2.out.lt g hg).1;rw[HS0.out];exact h1)
    clear ow4 gr4;go_wp2
    go_roundg (64-(kk+1))
    case measure=>omega
    exact⟨kk+1,[]++[(⟨kk,(kk:Int)+1,x.rd,x.wr,x.sh,x.file,x.aI⟩:Ar)],xa4,xc4,by omega,by omega,by go_num,rfl,G4.out,O4.out,J2.out⟩
   rw[List.concat_eq_append]at hacc;have HACC:Xo (acc=ini++[b]):=hacc;obtain⟨m,HM⟩:∃m,Xo (ini.length=m):=⟨_,rfl⟩;have HAL:Xo (acc.length=m+1):=show _=_ by rw[HACC.out,<-HM.out];simp
   have HBI:Xo (acc[m]?=Xa b):=show _=_ by rw[HACC.out,<-HM.out];simp
   have HBK:Xo (jK b):=JW.out.1.all b (by rw[HACC.out];simp)
   obtain⟨g,xc',hxe⟩:=O1.out.aJ (by rw[HAL.out];omega)
   cases hxe;have hmm:((m+1:Nat):Int)-1=(m:Int):=by omega
   have hm0:(0:Int)<=(m:Int):=by omega
   have hmd:decide ((0:Int)<=(m:Int))=Xc:=by simp
   have hmlt:(m:Int)<((m+1:Nat):Int):=by omega
   have HML:Xo (m+1<=kk):=show _<=_ by rw[<-HAL.out];exact HLEN.out
   have hmk:m+1<=64:=by have:=HML.out;omega
   clear hacc;rw[HAL.out]at O1 OW⊢;obtain⟨p0,p1⟩:=P1.out.box.k2;go_upto_region 7 with fail;clear p0 p1;have hx0:∀y:zf W1,y.world.cell? ⟨p,0,Xb⟩=Xa (Xe Xf (kk:Int)):=fun y=>(P1.out.box.aA y.aA).c 0 rfl
   have hx1:∀y:zf W1,y.world.cell? ⟨p,1,Xb⟩=Xa (Xe Xf ((kk:Int)+1)):=fun y=>(P1.out.box.aA y.aA).c 1 rfl
   have hx2:∀y:zf W1,y.world.cell? ⟨p,2,Xb⟩=Xa (Xh x.rd):=fun y=>(P1.out.box.aA y.aA).c 2 rfl
   have hx3:∀y:zf W1,y.world.cell? ⟨p,3,Xb⟩=Xa (Xh x.wr):=fun y=>(P1.out.box.aA y.aA).c 3 rfl
   have hx4:∀y:zf W1,y.world.cell? ⟨p,4,Xb⟩=Xa (Xh x.sh):=fun y=>(P1.out.box.aA y.aA).c 4 rfl
   have hx5:∀y:zf W1,y.world.cell? ⟨p,5,Xb⟩=Xa (Xe Xf x.file):=fun y=>(P1.out.box.aA y.aA).c 5 rfl
   have hx6:∀y:zf W1,y.world.cell? ⟨p,6,Xb⟩=Xa (Xe Xf x.aI):=fun y=>(P1.out.box.aA y.aA).c 6 rfl
   have hy0:∀y:zf W1,y.world.cell? ⟨g,m*7,Xb⟩=Xa (Xe Xf b.fr):=fun y=>(O1.out.aA y.aA).arc HBI.out 0 rfl
   have hy1:∀y:zf W1,y.world.cell? ⟨g,m*7+1,Xb⟩=Xa (Xe Xf b.tz):=fun y=>(O1.out.aA y.aA).arc HBI.out 1 rfl
   have hy2:∀y:zf W1,y.world.cell? ⟨g,m*7+2,Xb⟩=Xa (Xh b.rd):=fun y=>(O1.out.aA y.aA).arc HBI.out 2 rfl
   have hy3:∀y:zf W1,y.world.cell? ⟨g,m*7+3,Xb⟩=Xa (Xh b.wr):=fun y=>(O1.out.aA y.aA).arc HBI.out 3 rfl
   have hy4:∀y:zf W1,y.world.cell? ⟨g,m*7+4,Xb⟩=Xa (Xh b.sh):=fun y=>(O1.out.aA y.aA).arc HBI.out 4 rfl
   have hy5:∀y:zf W1,y.world.cell? ⟨g,m*7+5,Xb⟩=Xa (Xe Xf b.file):=fun y=>(O1.out.aA y.aA).arc HBI.out 5 rfl
   have hy6:∀y:zf W1,y.world.cell? ⟨g,m*7+6,Xb⟩=Xa (Xe Xf b.base):=fun y=>(O1.out.aA y.aA).arc HBI.out 6 rfl
   have hne:Nonempty (zf W1):=⟨⟨_,zc.refl _⟩⟩;obtain⟨R,HRR⟩:∃R,Xo (goB ⟨kk,(kk:Int)+1,x.rd,x.wr,x.sh,x.file,x.aI⟩ b=R):=⟨_,rfl⟩;refine qq [(8,⟨fun v=>v=Xh R,fun _ _=>True⟩)] zU (by kernel_rfl) ?_ ?_ ?_
   ·intro x hx
    simp at hx
    subst hx;exact⟨_,rfl⟩
   ·intro x hx
    simp at hx
    subst hx;exact fun _ _ _ _ h=>h
   iterate 8 (refine qL rfl rfl rfl (fun K hK=>?_);go_big_quiet_op;refine hK _ ?_;clear hK K)
   refine zz rfl rfl (fun w' hg hF=>?_) (fun v1 hv=>?_)
   ·refine zI.call [Xi #[Xe Xf (kk:Int),Xe Xf ((kk:Int)+1),Xh x.rd,Xh x.wr,Xh x.sh,Xe Xf x.file,Xe Xf x.aI],Xi #[Xe Xf b.fr,Xe Xf b.tz,Xh b.rd,Xh b.wr,Xh b.sh,Xe Xf b.file,Xe Xf b.base]] rfl Tryz.func166 rfl rfl rfl ?_;refine(hgo.out ⟨kk,(kk:Int)+1,x.rd,x.wr,x.sh,x.file,x.aI⟩ b w' HBK.out).mono ?_;rintro e w''⟨rfl,hg2⟩;exact⟨_,rfl,hg2,by rw[<-HRR.out],trivial⟩
   subst hv;simp only[Xx,sB,sS,sZ];iterate 1 (refine qL rfl rfl rfl (fun K hK=>?_);go_big_quiet_op;refine hK _ ?_;clear hK K)
   refine zH fun W2 hg1 hF=>?_
   have G2:=dD (G1.out.trans hg1);have P2:=dD (P1.out.aA hg1);have O2:=dD (O1.out.aA hg1);clear hg1 hF hx0 hx1 hx2 hx3 hx4 hx5 hx6 hy0 hy1 hy2 hy3 hy4 hy5 hy6 hne
   cases R with
   |true=>
    have J2:Xo (J f (kk+1) (ini++[{b with tz:=(kk:Int)+1}])):=HEXT.out ini b HACC.out HRR.out;have HSET:Xo (acc.set m {b with tz:=(kk:Int)+1}=ini++[{b with tz:=(kk:Int)+1}]):=show _=_ by rw[HACC.out,List.set_append_right _ _ (by rw[HM.out];exact nR _),HM.out,Oi];rfl
    have p1:=P2.out.box.c 1 rfl
    go_wp2_with(refine zt (E:=arE) rfl (.tmp 34) (.tmp 32) 3 rfl (w.heap.size+1) (O (Xa ⟨g,0,Xb⟩) (m+1) xc) acc O2.out g m 1 rfl b {b with tz:=(kk:Int)+1} HBI.out [Xe Xf ((kk:Int)+1)] (by kernel_rfl) rfl (Yd rfl) (by intro u hu;simp at hu;subst hu;rfl) _ rfl (by simp;rfl) _ rfl rfl ?_)
    intro W3 ow3 gr3 sz3;have HBG:=O2.out.lt g rfl;have G3:Xo (zc W0 W3):=show zc _ _ from zd G2.out gr3 (by rw[HS0.out];exact HBG.1)
    have HL3:Xo ((ini++[{b with tz:=(kk:Int)+1}]).length=m+1):=show _=_ by simp[HM.out]
    have O3:Xo (zb arE (w.heap.size+1) W3 (.slice (Xa ⟨g,0,Xb⟩) (ini++[{b with tz:=(kk:Int)+1}]).length xc) (ini++[{b with tz:=(kk:Int)+1}])):=show zb _ _ _ _ _ by rw[HL3.out,<-HSET.out];exact ow3
    clear ow3 gr3 sz3 HBG p1;rw[<-HL3.out];go_wp2
    go_roundg (64-(kk+1))
    case measure=>omega
    exact⟨kk+1,ini++[({b with tz:=(kk:Int)+1}:Ar)],Xa ⟨g,0,Xb⟩,xc,by omega,by omega,by go_num,rfl,G3.out,O3.out,J2.out⟩
   |false=>
    have J2:Xo (J f (kk+1) (acc++[⟨kk,(kk:Int)+1,x.rd,x.wr,x.sh,x.file,x.aI⟩])):=HNEW.out (fun c hc=>by
     rw[HACC.out]at hc
     simp at hc
     subst hc;exact HRR.out)
    have HSZ:Xo (w.heap.size+1<=W2.heap.size):=show _<=_ by rw[<-HS0.out];exact bS G2.out
    go_wp2_with(first|refine zm rfl 125 (.tmp 5) rfl p rfl P2.out.box Tryz.underlying125 rfl zr0 ?_|(at_builtin;refine zr (E:=arE) rfl (.tmp 35) (.tmp 37) rfl (w.heap.size+1) _ acc rfl (O2.out.aA (za _ _)) _ [⟨kk,(kk:Int)+1,x.rd,x.wr,x.sh,x.file,x.aI⟩] rfl (ZD arE W2 ⟨kk,(kk:Int)+1,x.rd,x.wr,x.sh,x.file,x.aI⟩ _ _ rfl (by show 40<=_;omega)) ?qb ?qc ?_))
    case qb=>
     show(acc.length+1)*40<=_
     rw[HAL.out];omega
    case qc=>simp;have:=HSZ.out;omega
    intro v4 W4 ow4 gr4;obtain⟨xa4,xc4,rfl⟩:=ow4.form;have O4:Xo (zb arE (w.heap.size+1) W4 (.slice xa4 (acc++[(⟨kk,(kk:Int)+1,x.rd,x.wr,x.sh,x.file,x.aI⟩:Ar)]).length xc4) (acc++[⟨kk,(kk:Int)+1,x.rd,x.wr,x.sh,x.file,x.aI⟩])):=ow4;have G4:Xo (zc W0 W4):=show zc _ _ from zT (G2.out.trans (za _ _)) gr4 (fun g hg=>by
     have h1:=(O2.out.lt g hg).1;rw[HS0.out];exact h1)
    clear ow4 gr4;go_wp2
    go_roundg (64-(kk+1))
    case measure=>omega
    exact⟨kk+1,acc++[(⟨kk,(kk:Int)+1,x.rd,x.wr,x.sh,x.file,x.aI⟩:Ar)],xa4,xc4,by omega,by omega,by go_num,rfl,G4.out,O4.out,J2.out⟩
 have hltz:¬(kk:Int)<64:=by omega
 have:kk=64:=by omega
 subst this;have HE:Xo (acc=zbL f):=JW.out.all HGD.out;have OE:Xo (zb arE (w.heap.size+1) wr (O xa acc.length xc) (zbL f)):=show zb _ _ _ _ _ by rw[<-HE.out];exact OW.out
 have GE:=dD (HG0.out.trans BW.out);go_wp2;go_ret;exact⟨⟨_,rfl,OE.out⟩,GE.out⟩
structure Pts(m:Ma):Prop where
 s4:m.sp.length<=4
 f40:m.fs.length<=40
 fr:∀(k:Nat)f,m.fs[k]?=Xa f->0<=f.r/\f.r<=1000
 fl:m.fl.length<=5/\∀f∈m.fl,f.bl.length<=12
 ar:∀s∈m.sp,(wrL s.aE).1=0/\tbW s.tb=0
theorem zpa(h:zao m=0):Pts m:=by
 unfold zao at h;rw[zp]at h;have a:j4 m.fs m.aB=0:=h _ Sm
 have k:stW m.fl m.cnt=0:=h _ Sm
 have x:(if 4<m.sp.length then(4:Int)else 0)=0:=h _ Sm
 have c:=zp.1 (h (zC (m.sp.map spE)) Sm)
 obtain⟨⟨e,l,n⟩,g,p⟩:=(qi _ _).1 k;unfold j4 at a
 split at a
 ·cases a
 rename_i q
 split at a
 ·rename_i i
  refine⟨?_,Wm,fun u f b=>?_,⟨e,fun f b=>?_⟩,fun s j=>?_⟩
  ·grind
  ·have t:=Qx.1 i f (mG b)
   grind[frW,inB]
  ·obtain⟨d,v,w⟩:=g f b;have:=JU d.1 d.2;omega
  have r:=c (spE s) (Yy.2 ⟨s,j,rfl⟩)
  grind[spE]
 grind
theorem zq5{p:Option Ca}{c:Ca}(h:caE m p c=0):(0<=c.file/\c.file<(m.fl.length:Int)/\0<=c.idx/\c.idx<bkN m c.file/\0<=c.fr/\c.fr<(m.fs.length:Int))/\((z3 m c.fr).r≠0/\(z3 m c.fr).f=c.file/\(z3 m c.fr).x=c.idx)/\∀q,p=Xa q->¬qp c<=qp q:=by
 unfold caE at h
 split at h
 ·cases h
 grind
def zhC(r:List Int×Bool×Int):Xq:=Xm #[Xi (pgc r.1).toArray,Xh r.2.1,Xe Xf r.2.2]
theorem zqk(h:maW m=0):∀s∈m.sp,∀n,n<64->(if(zl s n).kind=0 then 0 else zgS m (zN s.aE n) (zl s n))=0:=fun s c n b=>by
 unfold maW at h;rw[zp]at h;have a:=zp.1 (h (zC (m.sp.map (zdO m))) Sm) (zdO m s) (Yy.2 ⟨s,c,rfl⟩)
 unfold zdO at a;exact zp.1 a _ (Yy.2 ⟨n,Xz.2 b,rfl⟩)
theorem Jn(h:maW m=0):zao m=0:=by
 unfold maW at h;rw[zp]at h;exact h _ Sm
def byD(m:Ma)(fi k:Nat):Int:=(z2 m (fi:Int) ((k/8:Nat):Int)).getD (k%8) 0
def Byt(m:Ma)(file:Int)(w:Xn)(e:Ending)(w':Xn):Prop:=∃u,e=Xl (Xm #[u,Xe Xf (Zx m file)])/\zb byE w.heap.size w' u (Zw m file)
theorem zqi(h:maW m=0){f:Fl}(c:m.fl[fi]?=Xa f):(0<=f.size/\f.size<=96)/\(f.bl.length:Int)=zbQ f.size:=by
 have a:=Jn h;unfold zao at a;rw[zp]at a;have b:=((qi _ _).1 (a (stW m.fl m.cnt) Sm)).2.1 f (mG c)
 exact⟨b.1,b.2.1⟩
theorem zbu{a:Act}{w:Xn}(c x)(h:o.op=.load c x)(e)(i:a.eval x=Xj (Xa e))(v)(g:w.cell? e=Xa v){d:TypeDesc}(f:Tryz.prog.underlying c=Xa d)(b:d.isRow=Xd):(execOp a.eval o).run prog w=.ok (.value v) w:=by
 have b:(isAgg c).run prog w=.ok Xd w:=by
  unfold isAgg;rw[Yg,run_underlying f w]
  cases d<;>simp_all [TypeDesc.isRow]
 have f:(loadVar c e).run prog w=.ok v w:=by simp[loadVar,Yg,b,g]
 simp only[execOp,h,i,Instr.loadAt,Instr.sureAddr,Yg,Oj,f,rA]
structure zdG(m:Ma)(c:Ca)(k fi ix:Nat)(f:Fr)(F:Fl):Prop where
 fr:c.fr=(k:Int)
 file:c.file=(fi:Int)
 idx:c.idx=(ix:Int)
 fa:m.fs[k]?=Xa f
 ff:f.f=(fi:Int)
 fx:f.x=(ix:Int)
 fl:m.fl[fi]?=Xa F
 sz:0<=F.size/\F.size<=96
 lo:ix<=12
 r:f.r≠0
 bl:ix<F.bl.length
theorem zfB(p:maW m=0){c:Ca}(a:c∈m.ca):∃k b e f F,zdG m c k b e f F:=by
 obtain⟨⟨d,d,d,s,d,d⟩,⟨j,l,n⟩,-⟩:=zq5 ((zy.1 (zaP p).1.ca).1 c a);obtain⟨k,r⟩:∃k:Nat,c.fr=(k:Int):=⟨c.fr.toNat,Wm⟩
 obtain⟨b,a⟩:∃b:Nat,c.file=(b:Int):=⟨c.file.toNat,Wm⟩
 obtain⟨e,d⟩:∃e:Nat,c.idx=(e:Int):=⟨c.idx.toNat,Wm⟩
 obtain⟨f,q⟩:∃f,m.fs[k]?=Xa f:=⟨_,gE Wm⟩
 obtain⟨F,g⟩:∃F,m.fl[b]?=Xa F:=⟨_,gE Wm⟩
 have i:z3 m c.fr=f:=by unfold z3;rw[r,tN,gD,q];rfl
 have h:bkN m c.file=(F.bl.length:Int):=by unfold bkN;rw[a,tN,gD,g];rfl
 rw[i]at j l n;rw[h]at s;obtain⟨h,i⟩:=zqi p g;have:=JU h.1 h.2;exact⟨k,b,e,f,F,r,a,d,q,l.trans a,n.trans d,g,h,Wm,j,Wm⟩
def zdA(m:Ma)(bo:Bool)(m':Ma):Prop:=
 (bo=Xd/\m'=m/\∀(j:Nat)c k fi ix f F,m.ca[j]?=Xa c->zdG m c k fi ix f F->f.d=Xc->jM m.fl m.cnt f.f f.x≠0)\/
 (bo=Xc/\∃c k fi ix f F,c∈m.ca/\zdG m c k fi ix f F/\f.d=Xc/\jM m.fl m.cnt f.f f.x=0/\m'=clM m k f F)
theorem zdG.same{c:Ca}{k g a b:Nat}{f d:Fr}{F i:Fl}(h:zdG m c k fi ix f F)(e:zdG m c g a b d i):f=d:=by
 have j:k=g:=by have:=h.fr;have:=e.fr;omega
 subst j;have:=h.fa.symm.trans e.fa;cases this;rfl
theorem zk4(V:MaV)(m:Ma)(w:Xn)(cv:zq w V m)(bk:maW m=0):
  Xp prog 96 #[Xi (mL V m).toArray] w fun e w'=>(∃(cn:Bool)(m':Ma)(V':MaV),zdA m cn m'/\e=Xl (Xm #[Xi (mL V' m').toArray,Xh cn,I6 0])/\∀W,zk (fun k=>k<w.heap.size) w' W->zq W V' m')/\zc w w':=by
 obtain⟨ac,y⟩:=kB ((w.alloc (Xk (mL V m).toArray 45)).alloc (Xk zM.toArray 45));have ch:=gD2 y
 obtain⟨r,aa⟩:=kA w.heap.size;have ck:Xo (zg ac r 45 (mL V m)):=dD<|by rw[<-y];exact(zg.aD w (mL V m) _ aa.symm).aA (za _ _)
 have d5:Xo (zg ac (r+1) 45 zR):=dD<|by rw[<-y];exact zg.aD _ zR _ (by have:=aa.out;simp;omega)
 have A1:Xo (zq ac V m):=cv.aA ch.out;have bb:Xo (_=ac):=y;have ap:=Zn V m ac A1 bk;have cz:Xo (maW m=0):=bk;clear y cv bk
 go_enter func96,ntmps96
 go_upto_region 1 with fail;rw[bb.out,aa.out];obtain⟨c5,c6,c7,c8,cb,cc,cd,ce,cf,a6,a5⟩:=ck.box.aU;go_wp2_with fail;refine ap.mono ?_;clear ap c5 c6 c7 c8 cb cc cd ce cf a6 a5;rintro e D⟨rfl,ah⟩;have d3:=dD (ck.aA ah);have cl:=dD (d5.aA ah);have A2:=dD (A1.aA ah);have av:=dD (ch.trans ah);clear ah;have ao:=zfx V m D A2.out;obtain⟨c5,c6,c7,c8,cb,cc,cd,ce,cf,a6,a5⟩:=d3.box.aU;go_wp2_with fail;refine ao.mono ?_;clear ao c5 c6 c7 c8 cb cc cd ce cf a6 a5;rintro e cj⟨B,bf,rfl,bm⟩;have au:Xo (ChW D noX B cj bf m):=bm;have P:Xo (r+1<D.heap.size):=cl.box.lt;have d6:Xo (zg cj (r+1) 45 zR):=cl.aA bm.gr;clear bm;obtain⟨⟨bh,b,ag⟩,q⟩:∃d8,Xo (bf.ca=d8):=⟨_,rfl⟩;obtain⟨-,-,-,-,-,-,-,ar,-⟩:=au.at.ns;have a6:=au.box.box.c 9 rfl;rw[q.out]at a6 ar;dsimp only at a6 ar;have ab:Xo (b=m.ca.length):=ar;have ct:b<=9223372036854775807:=Rx ar au.ca.at.short
 clear ar;go_wp2;clear a6
 go_loopg[23] b (fun dc c4 wr=>∃i:Nat,i<=b/\b-i<=dc/\c4=I6 i/\(∃V',Xo (V'.ca=⟨bh,b,ag⟩)/\Xo (ChW D noX B wr V' m))/\Xo (zg wr (r+1) 45 zR)/\Xo (∀(j:Nat)c k n p f F,j<i->m.ca[j]?=Xa c->zdG m c k n p f F->f.d=Xc->jM m.fl m.cnt f.f f.x≠0))
 exact⟨0,nZ _,Wm,rfl,⟨bf,q,au⟩,d6,fun j c k n p f F dd=>absurd dd (nL _)⟩
 obtain⟨i,dk,de,rfl,⟨g,q,t⟩,ae,bd⟩:=hrel
 by_cases al:i<b
 rotate_left
 ·have am:=kD al
  have R:Xo (zdA m Xd m):=.inl ⟨rfl,rfl,fun j c k n p f F b1=>bd.out j c k n p f F (by have:=(gS.1 b1).1;have:=ab.out;omega) b1⟩
  obtain⟨bs,bt,bu,bv,bw,bz,c0,c1,c2,c3,a3⟩:=t.box.box.aU;have S:Xo (∀a7∈chL g m,a7.oneCell'=Xc):=dD<|by simp[chL,Value.oneCell']
  go_wp2_with(refine zh rfl 45 (.tmp 2) (.tmp 52) rfl (r+1) rfl (chL g m) rfl ae rfl Kr S.out ?_)
  clear bs bt bu bv bw bz c0 c1 c2 c3 a3;intro X af h _;have b4:Xo (zc w X):=dD<|zd (av.trans t.gr) h (Hm aa.out)
  have b2:Xo (zg X (r+1) 45 (chL g m)):=af;have b7:Xo (∀W,zk (fun k=>k<w.heap.size) X W->zq W g m):=show∀W,_ from fun W K=>t.bL ((zk.grown h (show r+1<D.heap.size from P.out)).trans (K.wide fun k bn=>Ya bn (bS av)))
  clear af h;go_wp2;refine bodyPost_ret (zJ rfl _ rfl b2.box underlying45 rfl Kr) rfl ⟨⟨Xd,m,g,R,rfl,b7⟩,b4⟩
 have am:=kC al
 obtain⟨c,u⟩:∃c,Xo (m.ca[i]?=Xa c):=⟨_,gE (Hm ab.out)⟩
 obtain⟨k,n,p,f,F,A⟩:=zfB cz (mG u);have a:Xo (zdG m c k n p f F):=A;obtain⟨d7,a1,aj⟩:=t.at.cas i c u.out;rw[q.out]at a1;dsimp only at a1;subst a1;obtain⟨cp,cq,cr⟩:=aj wr (zc.refl _);rw[A.fr]at cr;rw[A.file]at cp;rw[A.idx]at cq;clear aj A;go_upto_region 8 with fail;obtain⟨br,ba⟩:=kA wr.heap.size;obtain⟨E,L⟩:=kB (wr.alloc (Xk #[I6 (n:Int),I6 (p:Int),I6 (k:Int)] 105));have a9:=gA L
 have d4:=xPT L ba
 have bp:¬Dw B g br:=fun e=>absurd (t.aM _ e) (Hm ba.out)
 rw[L,ba.out];clear L cp cq cr;obtain⟨v,M,ak⟩:=t.at.bC k f a.fa;obtain⟨dg,-⟩:=t.at.ns;have cu:(k:Int)<(g.f.n:Int):=by
  have:=(gS.1 a.fa).1;omega
 have bc:Xo (∀W,zc E W->W.cell? ⟨B,0,Xb⟩=Xa (O (Xa v) g.f.n g.f.c)):=dD<|fun W K=>by
  have:=(t.box.box.aA (a9.trans K)).c 0 rfl;rw[M]at this;exact this
 obtain⟨az,Q⟩:=kA f.d;have b6:Xo (∀W,zc E W->W.cell? {block:=(v.add (k*13)).block,off:=(v.add (k*13)).off+10}=Xa (Xh az)):=dD<|fun W K=>by
  obtain⟨_,_,_,_,_,_,_,_,_,_,bi,_,_⟩:=ak W (a9.trans K);rw[<-Q.out];exact bi
 obtain⟨be,ax⟩:=kA (decide (jM m.fl m.cnt f.f f.x=0));obtain⟨N,b8⟩:=kA (clM m k f F);have b5:Xo (∀W,zc E W->Xp prog 158 #[Xj (Xa ⟨B,0,Xb⟩),I6 (k:Int)] W fun e w'=>e=Xl (Xh be)/\JC D noX B W g N w'):=dD<|fun W K=>by
  rw[<-ax.out,<-b8.out];exact zdp (t.aA (a9.trans K)) k f a.fa n p F a.ff a.fx a.fl a.sz a.lo
 clear M ak dg;have b0:zc E E.drew:=show Below _ _ _ from(bR _ _).drew
 obtain⟨I,aw⟩:=Wq fun a4=>zg a4 br 105 [I6 (n:Int),I6 (p:Int),I6 (k:Int)]
 have H:I E.drew:=(aw _).2 (d4.aA b0);have Z:zc E E.drew:=b0;have aq:=fun cg:zo I=>((aw _).1 cg.holds).box.c 2 rfl
 have an:Nonempty (zo I):=⟨⟨_,H⟩⟩;refine Zo (I:=I) 17 [(15,fun a7=>a7=Xh be)] [5,10] (fun a4=>zc E a4) H Z zU Kr rfl rfl Dc (Sa ⟨_,rfl⟩) Kr Kr ?_
 simp only[Yp,Yq];refine qU rfl rfl rfl (fun T x=>?_);go_big_quiet_op;refine x _ ?_;clear x T
 refine Qu (.tmp 27) ⟨B,0,Xb⟩ rfl rfl rfl rfl ?_;refine Uq ?_;iterate 3 refine qa ?_
 refine Qt rfl rfl rfl (O (Xa v) g.f.n g.f.c) (fun w' _ s=>?_) ?_
 ·exact zbv 30 (.tmp 31) rfl B 0 rfl (O (Xa v) g.f.n g.f.c) (bc w' s) underlying30 rfl
 refine Uq ?_;iterate 4 refine qa ?_
 refine Qt rfl rfl rfl (Xh az) (fun w' _ s=>?_) ?_
 ·exact zbu 4 (.tmp 36) rfl _ rfl (Xh az) (b6 w' s) underlying4 rfl
 refine Uq ?_;refine qU rfl rfl rfl (fun T x=>?_);go_big_quiet_op;refine x _ ?_;clear x T
 cases az with
 |false=>
  iterate 4 (refine za2 rfl ?_;simp only[Xx,sB,sS,sZ])
  refine qU rfl rfl rfl (fun T x=>?_);go_big_quiet_op;refine x _ ?_;clear x T
  refine Qa fun ay a0 G=>?_
  have ci:=dD (a9.trans G);have U:Xo (∀(j:Nat)c k n p f F,j<i+1->m.ca[j]?=Xa c->zdG m c k n p f F->f.d=Xc->jM m.fl m.cnt f.f f.x≠0):=show∀j,_ from fun j bg bq Y a2 bj b3 b1 l d z=>by
   by_cases e:j=i
   ·subst e;rw[u.out]at l;cases l;rw[<-a.same d,Q.out]at z;cases z
   exact bd j bg bq Y a2 bj b3 Wm l d z
  clear a0 G H Z aq an b0 bp;go_wp2
  go_roundg (b-(i+1));exact⟨i+1,Wm,Wm,Gn,⟨g,q,t.aA ci⟩,ae.aA ci,U⟩;omega
 |true=>
  iterate 3 refine qa ?_
  refine Qs rfl rfl (fun _ a4=>JC D noX B wr g N a4) (fun w' bl s=>?_) (fun dl df=>?_)
  ·refine zI.call [Xj (Xa ⟨B,0,Xb⟩),I6 (k:Int)] rfl func158 rfl rfl rfl ?_;refine(b5 w' s).mono ?_;rintro e di⟨rfl,ai⟩;have db:=JC.aG (a9.trans s) ai;obtain⟨dj,_,_,dh,_⟩:=ai;exact⟨_,rfl,(aw _).2 (((aw _).1 bl).chg dh bp),rfl,db⟩
  subst df;refine Uq ?_;refine qU rfl rfl rfl (fun T x=>?_);go_big_quiet_op;refine x _ ?_;clear x T
  refine Qa fun ay a0 G=>?_
  obtain⟨C,cs,co,cx,da⟩:=G;have a8:Xo (ChW D noX B ay C N):=co;have cy:Xo (C.ca=⟨Xa d7,b,ag⟩):=show _=_ from cs.trans q.out
  have cm:Xo (zg ay (r+1) 45 zR):=ae.aK cx (fun e=>by have:=t.dlo _ e;have:=P.out;omega)
  clear a0 cs co cx da H Z aq an b0 bp
  cases be with
  |true=>
   have R:Xo (zdA m Xc N):=.inr ⟨rfl,c,k,n,p,f,F,mG u,a,Q,of_decide_eq_true ax,b8.symm⟩;have ae:Xo (zg ay (r+1) 45 zR):=cm;obtain⟨bs,bt,bu,bv,bw,bz,c0,c1,c2,c3,a3⟩:=a8.box.box.aU;have S:Xo (∀a7∈chL C N,a7.oneCell'=Xc):=show∀a7∈chL C N,_ by simp[chL,Value.oneCell']
   go_wp2_with(refine zh rfl 45 (.tmp 2) (.tmp 47) rfl (r+1) rfl (chL C N) rfl ae rfl Kr S.out ?_)
   clear bs bt bu bv bw bz c0 c1 c2 c3 a3;intro X af h _;have b4:Xo (zc w X):=dD<|zd (av.trans a8.gr) h (Hm aa.out)
   have b2:Xo (zg X (r+1) 45 (chL C N)):=af;have b7:Xo (∀W,zk (fun k=>k<w.heap.size) X W->zq W C N):=show∀W,_ from fun W K=>a8.bL ((zk.grown h (show r+1<D.heap.size from P.out)).trans (K.wide fun k bn=>Ya bn (bS av)))
   clear af h;go_wp2;refine bodyPost_ret (zJ rfl _ rfl b2.box underlying45 rfl Kr) rfl ⟨⟨Xc,N,C,R,rfl,b7⟩,b4⟩
  |false=>
   have b9:Xo (N=m):=dD<|by
    rw[<-b8.out];unfold clM;rw[kF (of_decide_eq_false ax.out)]
   rw[b9.out]at a8;have U:Xo (∀(j:Nat)c k n p f F,j<i+1->m.ca[j]?=Xa c->zdG m c k n p f F->f.d=Xc->jM m.fl m.cnt f.f f.x≠0):=dD<|fun j bg bq Y a2 bj b3 b1 l d z=>by
    by_cases e:j=i
    ·subst e;rw[u.out]at l;cases l;rw[<-a.same d];exact of_decide_eq_false ax.out
    exact bd j bg bq Y a2 bj b3 Wm l d z
   go_wp2
   go_roundg (b-(i+1));exact⟨i+1,Wm,Wm,Gn,⟨C,cy,a8⟩,cm,U⟩;omega
end
section
section
variable{m:Ma}
theorem zkE(S:Nat->Nat->Prop)(j:Rt m){b:List (List Int)}(g:b.length=m.db.length)(p:∀i:Nat,b[i]?=m.db[i]?\/∃q∈m.dq,q.1.toNat=i)(k:∀z:Int,qw b [] z=qw m.db m.dq z):Z3 S m {m with db:=b,dq:=[]}:=by
 have c:=j.inv;have f:zD b.length []=0:=by
  have e:=c.aW;rw[<-g]at e;unfold zD at e⊢
  split at e
  ·cases e
  rename_i a
  rw[kF a,kF Sm,kF Sm]
 have h:∀a d,z2 {m with db:=b,dq:=[]} a d=z2 m a d:=fun a d=>by
  unfold z2
  cases m.ca.find? (zcu a d)with
  |some n=>rfl
  |none=>
   show(if zfE m a d<0 then zS else Zm (qw b [] (zfE m a d)) d (Z4 m a))=_
   rw[k]
 have k:Z6 {m with db:=b,dq:=[]} (jB {m with db:=b,dq:=[]}):=by
  refine⟨c.bB,c.bV,c.aX,c.bM,c.sq,f,c.st,by show m.cnt=_;rw[c.cnt,g],fun g e f=>?_,fun q l=>(by cases l),c.aT,c.bH,c.tl,zy.2 ⟨fun n h=>(zy.1 c.ca).1 n h,fun _ _ l=>(by cases l),(zy.1 c.ca).2.2⟩,c.bF,c.cf,c.cs⟩
  have l:g<b.length:=e
  show b[g]?=_
  rcases p g with l|⟨q,p,n⟩
  ·rw[l];exact c.bU g Wm f
  have l:=zl0 c.aW p;have n:=c.bN q p;have c:z4 m.fl (g:Int)=Xd:=f;rw[show q.1=(g:Int) by omega,c]at n
  cases n
 have g:∀(q:Nat)s c,m.sp[q]?=Xa s->({m with db:=b,dq:=[]}:Ma).sp[q]?=Xa c->c=s:=fun q s c e f=>by
  have:m.sp[q]?=Xa c:=f;rw[e]at this;cases this;rfl
 refine⟨Rt.of k (fun s b=>j.tb b) j.aB.1 j.aB.2,⟨rfl,fun q s c e f=>?_,fun q n s c e f _ _=>?_,rfl,fun _=>rfl,fun _=>rfl,fun _ _ _=>by rw[h]⟩,rfl,fun q n s c e f _ l=>?_,fun a d _ a=>⟨a,h _ _⟩⟩
 ·cases g q s c e f
  exact⟨rfl,rfl⟩
 ·cases g q s c e f
  exact zeR rfl rfl (fun _=>⟨rfl,Iff.rfl⟩) (fun _=>rfl) (fun _=>rfl) h
 cases g q s c e f
 exact l
theorem Z3.views(h:Rt m)(g:Z3 (fun _ _=>False) m m'):(∀p n:Int,ZA m' p n=ZA m p n)/\∀a:Nat,zeA m' (a:Int)=zeA m (a:Int):=by
 have b:maW m'=0:=g.rt.w;refine⟨fun p n=>?_,fun a=>?_⟩
 ·unfold ZA;rw[kF (by rw[b];simp),kF (by rw[h.w];simp)]
  by_cases b:p<0\/(m.sp.length:Int)<=p\/n<0\/63<n
  ·rw[zcq b,zcq (by rw[g.aV.aT];exact b)]
  have c:p.toNat<m.sp.length:=Wm
  have d:=gE c;have b:=gE (show p.toNat<m'.sp.length by rw[g.aV.aT];exact c)
  have e:p=((p.toNat:Nat):Int):=Wm
  have f:n=((n.toNat:Nat):Int):=Wm
  have c:n.toNat<64:=Wm
  rw[e,f,zcp d c,zcp b c,(g.aV.sp _ _ _ d b).2];exact g.aV.see _ _ _ _ d b c (fun e=>e)
 unfold zeA;rw[g.aV.sz];refine List.map_congr_left fun k b=>?_
 exact g.aV.byt a k (Hm (Xz.1 b))
end
theorem zm9{α:Type}(P:α->Bool):∀{l:List α}{k:Nat}{x y:α},l[k]?=Xa x->(l.set k y).countP P+(P x).toNat=l.countP P+(P y).toNat
 |[],k,x,y,h=>by simp at h
 |a::l,0,x,y,h=>by
  have:a=x:=Si h
  subst this;rw[sZ,Yh,Yh]
  cases P a<;>cases P y<;>simp
 |a::l,k+1,x,y,h=>by grind
theorem zoy{fs:List Fr}{k:Nat}{fr:Fr}(a:fs[k]?=Xa fr)(b:fr.r≠0):qE (fs.set k frF)=qE fs+1:=by grind[qE,frF,zm9]
theorem jl{fs:List Fl}{b:Int}:z4 fs b=Xc↔∃(i:Nat)(f:Fl)(j:Nat),fs[i]?=Xa f/\f.bl[j]?=Xa b:=by grind[z4,Xt,Xy,Ob.1,mG,Ob.2]
theorem Qp{l:List Int}{b:Int}(h:b∈l)(a:b≠-1):b∈Z5 l:=Yz.2 ⟨h,Si a⟩
theorem zcP{b:Int}(g:b≠-1):∀{l:List Int}{j k:Nat},(Z5 l).Nodup->l[j]?=Xa b->l[k]?=Xa b->j=k
 |[],j,k,_,h,_=>by simp at h
 |a::l,j,k,c,d,e=>by
  have h:(Z5 l).Nodup:=by
   unfold Z5 at c⊢;rw[List.filter_cons]at c
   split at c
   ·exact(List.nodup_cons.1 c).2
   exact c
  have f:a=b->b∉l:=fun i m=>by
   subst i;unfold Z5 at c;rw[List.filter_cons,kE (Si g)]at c
   exact(List.nodup_cons.1 c).1 (Qp m g)
  cases j with
  |zero=>
   cases k with
   |zero=>rfl
   |succ k=>
    rw[Xs]at e;exact absurd (mG e) (f (Si d))
  |succ j=>
   cases k with
   |zero=>
    rw[Xs]at d;exact absurd (mG d) (f (Si e))
   |succ k=>
    rw[Xs]at d e;rw[zcP g h d e]
theorem zdx{fs:List Fl}{i:Nat}{f:Fl}{b:Int}(a:fs[i]?=Xa f)(c:f.bl[j]?=Xa b):b∈QZ fs:=List.mem_flatMap.2 ⟨f,mG a,mG c⟩
theorem zeB{b:Int}(hb:b≠-1):∀{fs:List Fl}{i k j l:Nat}{f g:Fl},(Z5 (QZ fs)).Nodup->fs[i]?=Xa f->f.bl[j]?=Xa b->fs[k]?=Xa g->g.bl[l]?=Xa b->i=k/\j=l
 |[],i,k,j,l,f,g,_,h,_,_,_=>by simp at h
 |a::fs,i,k,j,l,f,g,hn,h1,h2,h3,h4=>by
  have hsp:Z5 (QZ (a::fs))=Z5 a.bl++Z5 (QZ fs):=by
   unfold Z5 QZ;rw[List.flatMap_cons,List.filter_append]
  rw[hsp,List.nodup_append]at hn;obtain⟨n1,n2,n3⟩:=hn
  cases i with
  |zero=>
   have ea:a=f:=Si h1
   subst ea
   cases k with
   |zero=>
    have eg:a=g:=Si h3
    subst eg;exact⟨rfl,zcP hb n1 h2 h4⟩
   |succ k=>
    rw[Xs]at h3;exact absurd rfl (n3 b (Qp (mG h2) hb) b (Qp (zdx h3 h4) hb))
  |succ i=>
   rw[Xs]at h1
   cases k with
   |zero=>
    have eg:a=g:=Si h3
    subst eg;exact absurd rfl (n3 b (Qp (mG h4) hb) b (Qp (zdx h1 h2) hb))
   |succ k=>
    rw[Xs]at h3;obtain⟨e1,e2⟩:=zeB hb n2 h1 h2 h3 h4;exact⟨by rw[e1],e2⟩
theorem zhe{fs:List Fl}{d:Int}{a c:Nat}{f:Fl}(k:stW fs d=0)(e:fs[a]?=Xa f)(h:f.bl[c]?=Xa (b:Int)):
  fs.set a ⟨f.size,f.bl.set c (b:Int)⟩=fs/\(∀x,z4 fs x=Xc↔(z4 fs x=Xc/\x≠-1)\/x=(b:Int)\/(x=-1/\z4 fs x=Xc))/\∀(i j:Nat)g,fs[i]?=Xa g->g.bl[j]?=Xa (b:Int)->i=a/\j=c:=by
 obtain⟨_,_,l⟩:=(qi fs d).1 k;have k:(b:Int)≠-1:=Wm
 refine⟨?_,fun x=>?_,fun i j g d j=>zeB k l d j e h⟩
 ·have d:f.bl.set c (b:Int)=f.bl:=by
   apply Ye
   grind
  rw[d]
  apply Ye
  intro q;rw[List.getElem?_set]
  split
  ·rename_i d
   subst d;rw[kE (gS.1 e).1,e]
  rfl
 constructor
 ·grind
 rintro(⟨d,_⟩|rfl|⟨_,d⟩)
 ·exact d
 ·exact jl.2 ⟨a,f,c,e,h⟩
 exact d
theorem zhf{fs:List Fl}{d:Int}{a c:Nat}{f:Fl}(l:stW fs d=0)(n:fs[a]?=Xa f)(k:f.bl[c]?=Xa (-1))(e:b∈Za fs d):
  stW (fs.set a ⟨f.size,f.bl.set c (b:Int)⟩) d=0/\(∀x,z4 (fs.set a ⟨f.size,f.bl.set c (b:Int)⟩) x=Xc↔(z4 fs x=Xc/\x≠-1)\/x=(b:Int)\/(x=-1/\z4 (fs.set a ⟨f.size,f.bl.set c (b:Int)⟩) x=Xc))/\z4 fs (b:Int)=Xd/\∀(i j:Nat)g,fs[i]?=Xa g->g.bl[j]?=Xa (b:Int)->i=a/\j=c:=by
 have d:z4 fs (b:Int)=Xd:=by
  have:=(Yz.1 e).2
  grind
 have h:=(gS.1 n).1;have q:=(gS.1 k).1;refine⟨(zkA l n k e).1,fun x=>?_,d,fun i j g d e=>?_⟩
 ·constructor
  ·intro l
   by_cases p:x=-1
   ·grind
   obtain⟨i,g,j,d,e⟩:=jl.1 l
   by_cases k:a=i
   ·subst k;rw[sF h]at d;cases d;simp only at e
    by_cases m:c=j
    ·grind
    rw[sN m]at e;exact .inl ⟨jl.2 ⟨a,f,j,n,e⟩,p⟩
   rw[sN k]at d;exact .inl ⟨jl.2 ⟨i,g,j,d,e⟩,p⟩
  rintro(⟨l,p⟩|rfl|⟨_,l⟩)
  ·obtain⟨i,g,j,d,e⟩:=jl.1 l
   by_cases k:i=a
   ·subst k;rw[n]at d;cases d;have n:c≠j:=fun m=>by grind
    exact jl.2 ⟨i,⟨f.size,f.bl.set c (b:Int)⟩,j,by rw[sF h],by simp only;rw[sN n];exact e⟩
   exact jl.2 ⟨i,g,j,by rw[sN (fun m=>k m.symm)];exact d,e⟩
  ·exact jl.2 ⟨a,⟨f.size,f.bl.set c (b:Int)⟩,c,by rw[sF h],by simp only;rw[sF q]⟩
  exact l
 have:=jl.2 ⟨i,g,j,d,e⟩
 grind
end
section
open Go.RowKit
variable{X:Nat->Prop}
theorem zpn(h:Rt m){F:Fl}(d:m.fl[fi]?=Xa F)(f:ix<F.bl.length)(a:jM m.fl m.cnt (fi:Int) (ix:Int)=0):
  ∃b:Nat,(b:Int)<m.cnt/\ziH m.fl m.cnt (fi:Int) (ix:Int)=(b:Int)/\zlm m.fl m.cnt (fi:Int) (ix:Int)=m.cnt/\zhr m.fl m.cnt (fi:Int) (ix:Int)=m.fl.set fi ⟨F.size,F.bl.set ix (b:Int)⟩/\(F.bl[ix]?=Xa (b:Int)\/(F.bl[ix]?=Xa (-1)/\b∈Za m.fl m.cnt)):=by
 have a:=h.inv.st;have c:zlb m.fl (fi:Int)=F.bl:=by unfold zlb;rw[tN,d]
 have e:zqK m.fl (fi:Int)=F.size:=by unfold zqK;rw[tN,d]
 obtain⟨z,e⟩:∃z,F.bl[ix]?=Xa z:=⟨_,gE f⟩;have g:F.bl.getD ix 0=z:=by rw[gD,e];rfl
 obtain⟨f,f,_⟩:=(qi _ _).1 a;have a:∃b:Nat,(b:Int)<m.cnt/\zpo m.fl m.cnt (fi:Int) (ix:Int)=(b:Int)/\(z=(b:Int)\/(z=-1/\b∈Za m.fl m.cnt)):=by
  unfold zpo;rw[c,tN,g]
  by_cases c:z=-1
  ·have g:Za m.fl m.cnt≠[]:=fun a=>by grind[jM,gS.1,tN]
   cases a:Za m.fl m.cnt with
   |nil=>exact absurd a g
   |cons b l=>
    have g:b∈Za m.fl m.cnt:=by rw[a];exact Ym ..
    have a:=Xz.1 (Yz.1 g).1;refine⟨b,Wm,by rw[kE c];rfl,.inr ⟨c,Ym ..⟩⟩
  rw[kF c];obtain⟨_,_,a⟩:=f F (mG d);have:=a z (mG e);exact⟨z.toNat,Wm,Wm,.inl Wm⟩
 grind[ziH,zlm,zhr,tN]
theorem zfQ(c:List (List Int))(a:List (Int×List Int))(b:∀q∈a,∃i:Nat,q.1=(i:Int)/\i<c.length)(i:Nat):(qJ c a)[i]?=c[i]?\/∃q∈a,q.1=(i:Int):=by
 unfold qJ
 split
 ·rename_i c
  cases a with
  |nil=>cases c
  |cons q l=>
   simp only[List.headD_cons];obtain⟨j,a,_⟩:=b q (Ym ..)
   by_cases e:i=j
   ·grind
   grind
 grind
theorem zoU(h:Rt m){c:Ca}{k:Nat}{f:Fr}{F:Fl}(u:c∈m.ca)(hi:zdG m c k fi ix f F)(a:jM m.fl m.cnt f.f f.x=0):Rt (clM m k f F):=by
 have g:=a;rw[hi.ff,hi.fx]at a;obtain⟨b,d,i,j,l,n⟩:=zpn h hi.fl hi.bl a;obtain⟨a,a,q⟩:=qN h.inv.aW;have a:=h.inv.cnt;have a:zn m.db.length m.dq (b:Int)=0:=by
  unfold zn;rw[kE h.inv.aW,kE (by simp[ZF];omega)]
 have d:=h.inv.st;have s:∀e:List Int,wrM m e f.f f.x=zby m fi ix F (b:Int) (qJ m.db m.dq) (qI m.dq (b:Int) e):=fun e=>by
  unfold wrM zby;rw[kE g,hi.ff,hi.fx,i,j,l];unfold qR qQ;rw[kE a,kE a]
 have t:∀e:List Int,Rt (zby m fi ix F (b:Int) (qJ m.db m.dq) (qI m.dq (b:Int) e)):=fun e=>by
  have i:stW (m.fl.set fi ⟨F.size,F.bl.set ix (b:Int)⟩) m.cnt=0/\(∀x,z4 (m.fl.set fi ⟨F.size,F.bl.set ix (b:Int)⟩) x=Xc↔(z4 m.fl x=Xc/\x≠-1)\/x=(b:Int)\/(x=-1/\z4 (m.fl.set fi ⟨F.size,F.bl.set ix (b:Int)⟩) x=Xc))/\(F.bl[ix]?=Xa (b:Int)\/z4 m.fl (b:Int)=Xd)/\∀(j l:Nat)e,m.fl[j]?=Xa e->e.bl[l]?=Xa (b:Int)->j=fi/\l=ix:=by
   rcases n with e|⟨e,r⟩
   ·obtain⟨l,n,p⟩:=zhe d hi.fl e;rw[l];exact⟨d,n,.inl e,p⟩
   obtain⟨l,n,p,v⟩:=zhf d hi.fl e r;exact⟨l,n,.inr p,v⟩
  obtain⟨u1,u2,u3,u4⟩:=i;exact(zhg h hi.fl u1 u2 (ZN _ _) (ZS a) (zfQ _ _ q) (fun q d=>by
   unfold qI at d
   rcases List.mem_append.1 d with e|e
   ·refine .inr ⟨q,?_,rfl⟩
    split at e
    ·exact Od e
    exact e
   simp only[Yn]at e;exact .inl (by rw[e])) (fun j d=>zag a d) u3 ⟨c,u,hi.file,hi.idx⟩ u4).1.1
 unfold clM;rw[kE g,s];have a:(zby m fi ix F (b:Int) (qJ m.db m.dq) (qI m.dq (b:Int) (Zm (pgL f.p) f.x F.size))).fs[k]?=Xa f:=hi.fa;exact(zje (t _) a hi.r f.u Xd).1
theorem zoV{k:Nat}{f:Fr}{F:Fl}(a:jM m.fl m.cnt f.f f.x=0):(clM m k f F).fs=m.fs.set k {f with d:=false}:=by
 unfold clM;rw[kE a]
variable{X:Nat->Prop}
def zrI(x:Nat×Nat):List Xq:=[Xe Xf (x.1:Int),Xe Xf (x.2:Int)]
theorem zsa:(Tryz.prog.info? 142).map (fun i=>(i.zero,i.size,i.bytes))=Xa (Xa (Xi #[I6 0,I6 0]),2,16):=by kernel_rfl
theorem zsb:Tryz.prog.underlying 255=Xa (.slice 142):=by kernel_rfl
def Jb:Elt (Nat×Nat) where
 enc:=zrI
 k:=2
 ty:=142
 st:=255
 bytes:=16
 zv:=Xi #[Xe Xf 0,Xe Xf 0]
 zero:=(0,0)
 len:=fun _=>rfl
 one:=fun a u hu=>by
  simp only[zrI,mC,nM,or_false]at hu
  rcases hu with rfl|rfl<;>rfl
 bT:=zsb
 aF:=zsa
 zok:=rfl
 few:=by decide
 pos:=by decide
theorem zjq(s)(kind k:Int):(zoD s kind k).length<=64:=by
 unfold zoD;exact nT (List.length_filter_le _ _) Sm
theorem za8(m)(kind k:Int):∀q,(qW m kind k q).length<=64*q
 |0=>by simp[zky]
 |q+1=>by
  rw[zem,lA,Yl];have a:=za8 m kind k q;have a:=zjq (m.sp.getD q ⟨Xd,[],[]⟩) kind k;omega
theorem zbg{w:Xn}{p:Nat}(a2:ChW w0 X p w V m)(kind k:Int)(bc:m.sp.length<=4):
  Xp prog 233 #[Xj (Xa ⟨p,0,Xb⟩),I6 kind,I6 k] w fun e w'=>∃v,e=Xl v/\zb Jb w.heap.size w' v (qW m kind k m.sp.length)/\zc w w':=by
 obtain⟨b1,Y,s,W⟩:=a2.at.bE;obtain⟨-,-,-,-,-,-,-,-,bg⟩:=a2.at.ns;obtain⟨b0,M⟩:=kA V.sp.a;obtain⟨u,c⟩:=kA m.sp.length;have Q:=a2.box.box.c 10 rfl;rw[bg,c.out,M.out]at Q;have ak:Xo (b1.length=u):=dD<|Rx Y c.out
 have ag:Xo (∀(j:Nat)x,b1[j]?=Xa x->∃an,b0=Xa an/\∀b8,zc w b8->znr b8 (an.add (j*10)) x):=dD<|Ry M.out s
 have ah:=dD W
 have bf:u<=4:=Ry c.out bc
 rw[c.out];clear a2 Y s W bg bc
 go_enter func233,ntmps233
 go_wp2;clear Q
 go_loopg[7,18] u (fun ar Z ay wr=>∃(q:Nat)(z:Option Addr)(F A:Nat),q<=u/\u-q<=ar/\ay=I6 q/\Z=O z F A/\Xo (zc w wr)/\Xo (zb Jb w.heap.size wr (O z F A) (qW m kind k q)))
 exact⟨0,Xb,0,0,nZ _,Wm,rfl,rfl,zc.refl _,zb.nil _ _ _⟩
 obtain⟨q,z,F,A,ch,c1,rfl,rfl,aa,b7⟩:=hrel
 by_cases h:q<u
 ·have T:=kC h
  obtain⟨x,ax⟩:∃x,b1[q]?=Xa x:=⟨_,gE (Rx ak.out h)⟩
  obtain⟨t,b4⟩:∃t,Xo (m.sp[q]?=Xa t):=⟨_,gE (Rx c.out h)⟩
  have ab:=dD<|ah.out q x t ax b4.out;obtain⟨an,rfl,be⟩:=ag.out q x ax;obtain⟨bp,bq,br,bs,bt,bu,bv,bw,bx,bz⟩:=be wr aa.out;have L:Xo (qW m kind k (q+1)=qW m kind k q++(zoD t kind k).map fun n=>(q,n)):=show _=_ by rw[zem,Sp.aP b4.out]
  have af:=dD<|za8 m kind k q;have y:=dD<|zjq t kind k;clear be ax;go_upto_region 5 with fail;obtain⟨N,g⟩:=kB (wr.alloc (Xk #[Xh x.aH,x.ar.x,x.t0.x,x.t1.x,x.t2.x,x.t3.x,x.t4.x,x.t5.x,x.t6.x,x.t7.x] 76));have ap:=gP g
  have i:=xA g
  have b2:=dD (aa.trans ap);have bl:=dD (b7.aA ap);rw[g];clear g ap bp bq br bs bt bu bv bw bx bz;have bd:Xp prog 242 #[Xi #[x.t0.x,x.t1.x,x.t2.x,x.t3.x,x.t4.x,x.t5.x,x.t6.x,x.t7.x],I6 kind,I6 k] N fun e w'=>∃v,e=Xl v/\zb blE N.heap.size w' v ((zoD t kind k).map fun(n:Nat)=>(n:Int))/\zc N w':=zkJ x.tab t.tb kind k N (ab.tb.aA b2)
  obtain⟨_,_,c2,c3,c4,c5,c6,Z,ca,cb⟩:=i.k10;go_wp2_with fail;refine bd.mono ?_;clear bd c2 c3 c4 c5 c6 Z ca cb;rintro e cd⟨v,rfl,f,aq⟩;obtain⟨a,ae⟩:=kA (zoD t kind k);rw[ae.out]at f L y;obtain⟨cc,bh,rfl⟩:=f.form;rw[Yl]at f;have a4:=dD f
  have b3:=dD (b2.trans aq);have bm:=dD (bl.aA aq);rw[Yl];obtain⟨l,b⟩:=kA a.length;rw[b.out]at a4 y⊢;have au:l<=64:=y.out;clear f aq;obtain⟨ba,ac⟩:=kA N.heap.size;have bk:=dD<|bS b3.out
  rw[ac.out]at a4;go_wp2
  go_loopg[7,29] l (fun ar Z az wr=>∃(j:Nat)(z:Option Addr)(F A:Nat),j<=l/\l-j<=ar/\az=I6 j/\Z=O z F A/\Xo (zc w wr)/\Xo (zb Jb w.heap.size wr (O z F A) (qW m kind k q++(a.take j).map fun n=>(q,n)))/\Xo (zb blE ba wr (O cc l bh) (a.map fun(n:Nat)=>(n:Int))))
  exact⟨0,z,F,A,nZ _,Wm,rfl,rfl,b3,show zb _ _ _ _ _ by simpa using(show zb _ _ _ _ _ from bm.out),a4.out⟩
  obtain⟨j,I,a3,a0,cg,c0,rfl,rfl,a6,am,a5⟩:=hrel
  by_cases C:j<l
  ·have S:=kC C
   obtain⟨n,aw⟩:∃n,a[j]?=Xa n:=⟨_,gE (Rx b.out C)⟩
   have U:(a.map fun(n:Nat)=>(n:Int))[j]?=Xa (n:Int):=by rw[Yv,aw];rfl
   obtain⟨_,_,D,d⟩:=a5.at.rows;simp only[vJ]at D;obtain⟨P,r,R⟩:=d j _ U;rw[<-D.1]at r;subst r;have bb:wr.cell? (P.add (j*1))=Xa (I6 (n:Int)):=by
    have:=R wr (zc.refl _) 0 _ rfl;rw[Addr.add_add]at this;exact this
   rw[Nat.mul_one]at bb;have aj:Xo ((a.take (j+1)).map (fun n=>(q,n))=(a.take j).map (fun n=>(q,n))++[(q,n)]):=dD<|by rw[Yf,aw];simp
   have H:Xo (((qW m kind k q++(a.take j).map fun n=>(q,n)).length+[(q,n)].length)*16<=140737488355328):=dD<|by
    rw[lA,Yl,Xu];have:=af.out;simp only[Yi,List.length_nil];omega
   clear aw U D d R;obtain⟨b6,K⟩:=kA (qW m kind k q++(a.take j).map fun n=>(q,n))
   rw[K.out]at am H;have al:Xo (zb Jb w.heap.size (wr.alloc (Xk #[I6 (q:Int),I6 (n:Int)] 142)) (O I a3 a0) b6):=am.aA (za wr (Xk #[I6 (q:Int),I6 (n:Int)] 142));have ai:Xo (w.heap.size<=(wr.alloc (Xk #[I6 (q:Int),I6 (n:Int)] 142)).heap.size):=show _<=_ from nT (bS a6) (bS (za _ _))
   go_wp2_with(at_builtin;refine zr (E:=Jb) rfl (.tmp 33) (.tmp 37) rfl w.heap.size (O I a3 a0) b6 rfl al _ [(q,n)] rfl (ZD Jb wr (q,n) _ _ rfl Dc) H ai.out ?_)
   intro ci b9 G B;obtain⟨ce,cf,rfl⟩:=G.form;have bn:Xo (zb Jb w.heap.size b9 _ (qW m kind k q++(a.take (j+1)).map fun n=>(q,n))):=dD<|by rw[aj.out,<-Yw,K.out];exact G
   have a1:zc wr (wr.alloc (Xk #[I6 (q:Int),I6 (n:Int)] 142)):=za _ _;have bi:Xo (zb blE ba b9 (O (Xa P) l bh) (a.map fun(n:Nat)=>(n:Int))):=dD<|(a5.aA a1).grown B (fun ao av e=>(a5.aA a1).apart al Dc ao av e)
   have bj:=dD<|zT (a6.trans a1) B (fun ao av=>(al.lt ao av).1)
   clear G B a1 bb;try simp only[Xx]
   go_wp2
   go_roundg (l-(j+1));exact⟨j+1,_,_,_,Wm,Wm,Gn,rfl,bj,bn,bi⟩;omega
  have S:=kD C
  have bo:Xo (zb Jb w.heap.size wr (O I a3 a0) (qW m kind k (q+1))):=dD<|by
   rw[L.out];have:=am.out;rw[Xv (by rw[b.out];omega)]at this
   exact this
  go_wp2
  go_roundg (u-(q+1));exact⟨q+1,I,a3,a0,Wm,Wm,Gn,rfl,a6,bo⟩;omega
 have T:=kD h
 obtain rfl:q=u:=Wm
 go_wp2;go_ret;exact⟨_,rfl,b7,aa⟩
variable{X:Nat->Prop}
theorem QY{w:Xn}{p:Nat}(a6:ChW w0 X p w V m)(q:Nat)(aa:q<m.sp.length)(n:Int)(z:En):
  Xp prog 137 #[Xj (Xa ⟨p,0,Xb⟩),Xi #[I6 (q:Int),I6 n],Xi #[I6 z.kind,I6 z.n,Xh z.wr]] w fun e w'=>(∃v,e=Xl v)/\Chg w0 X p w V (jp m q n z) w':=by
 obtain⟨s,S⟩:∃s,m.sp[q]?=Xa s:=⟨_,gE aa⟩;obtain⟨au,N,ai,aj⟩:=a6.sp;obtain⟨x,D⟩:∃x,au[q]?=Xa x:=⟨_,gE (Rx ai aa)⟩
 have T:=dD<|aj q x s D S w (zk.refl _ _);obtain⟨b9,G⟩:=kA au.length;obtain⟨k,bf,l⟩:=N.aJ Wm
 rw[G.out]at l;have bj:(q:Int)<(b9:Int):=Hm G.out
 have A:=dD l;have ax:=dD a6;have ay:=dD D;have bb:=dD S;have a0:=dD ai;have a1:=dD aj;rw[l]at N;have F:=dD N;have Y:Xo (∀W,zc w W->znr W ⟨k,q*10,Xb⟩ x):=show∀W,_ from fun W a8=>by
  have:=((N.aA a8).one D).sp10;rw[Xw,zA]at this;exact this
 have ba:=dD<|fun W(a8:zc w W)=>zlR x.tab s.tb n z W (T.tb.aA a8)
 have Z:Xo (jp m q n z={m with sp:=m.sp.set q {s with tb:=ziX s.tb n z}}):=dD<|by unfold jp;rw[Sp.aP S]
 rw[Z.out];clear a6 aa S N ai aj D l;obtain⟨b0,d⟩:=kB ((w.alloc (Xk #[I6 (q:Int),I6 n] 142)).alloc (Xk #[I6 z.kind,I6 z.n,Xh z.wr] 127));have av:=gD2 d
 have a3:=x2a d
 have b1:=x2b d
 have a2:=dD d;clear d;have a4:b0.cell? ⟨p,10,Xb⟩=Xa (O (Xa ⟨k,0,Xb⟩) b9 bf):=by rw[<-A.out];exact(ax.box.box.aA av).c 10 rfl
 have b8:=a3.c 0 rfl
 go_enter func137,ntmps137
 go_upto_region 1 with fail;rw[a2.out];obtain⟨g,U⟩:=kA w.heap.size;rw[U.out]at a3 b1 b8⊢
 go_upto_region 2 with(go_quiet(fail))
 clear a4 b8;obtain⟨j,f⟩:=kB (b0.drewN nq);have Q:Xo (zc w j):=dD<|by rw[<-f];exact av.trans (show Below _ _ _ from bD (bR _ _) _)
 have bd:Xo (Box j g [I6 (q:Int),I6 n]):=dD<|by rw[<-f];exact a3.aA (show Below _ _ _ from bD (bR _ _) _)
 have be:Xo (Box j (g+1) [I6 z.kind,I6 z.n,Xh z.wr]):=dD<|by rw[<-f];exact b1.aA (show Below _ _ _ from bD (bR _ _) _)
 rw[f];clear f;obtain⟨i,h⟩:=Wq fun u=>Box u g [I6 (q:Int),I6 n]/\Box u (g+1) [I6 z.kind,I6 z.n,Xh z.wr]
 have C:i j.drew:=(h _).2 ⟨bd.aA (gW _),be.aA (gW _)⟩
 have H:zc j j.drew:=show Below _ _ _ from(bR _ _).drew
 have ac:=fun y:zo i=>((h _).1 y.holds).1.c 1 rfl
 have ad:=fun y:zo i=>((h _).1 y.holds).2.c 0 rfl
 have ae:=fun y:zo i=>((h _).1 y.holds).2.c 1 rfl
 have af:=fun y:zo i=>((h _).1 y.holds).2.c 2 rfl
 have a9:Nonempty (zo i):=⟨⟨_,C⟩⟩;refine qj (I:=i) 15 [(4,fun v=>v=Xi #[x.t0.x,x.t1.x,x.t2.x,x.t3.x,x.t4.x,x.t5.x,x.t6.x,x.t7.x]),(8,fun v=>∃r:List Xq,v=Xm #[Xi r.toArray,I6 (zlg s.tb n z)]),(14,fun _=>True)] (fun u=>zc j u) C H zU Kr rfl rfl Dc (Sc ⟨_,rfl⟩ ⟨_,[],rfl⟩ ⟨undef,trivial⟩) Kr ?_
 simp only[Yp,Yq];iterate 2 refine zw ?_
 refine qx (.tmp 17) ⟨k,q*10,Xb⟩ rfl rfl rfl rfl ?_;refine Uq ?_;refine zw ?_
 refine zL rfl rfl (fun _ u=>zc j u) (fun w' c b=>?_) (fun b7 L=>?_)
 ·refine zbe 74 (.tmp 19) rfl k (q*10+2) rfl [x.t0.x,x.t1.x,x.t2.x,x.t3.x,x.t4.x,x.t5.x,x.t6.x,x.t7.x] ?_ underlying74 rfl Kr ⟨c,rfl,b⟩
  have t:=Y.out _ (Q.trans b);intro b5 v a;have bk:(w'.cell? ⟨k,q*10+2+b5,Xb⟩)=Xa v:=by
   match b5,a with
   |0,a=>cases a;exact t.2.2.1
   |1,a=>cases a;exact t.2.2.2.1
   |2,a=>cases a;exact t.2.2.2.2.1
   |3,a=>cases a;exact t.2.2.2.2.2.1
   |4,a=>cases a;exact t.2.2.2.2.2.2.1
   |5,a=>cases a;exact t.2.2.2.2.2.2.2.1
   |6,a=>cases a;exact t.2.2.2.2.2.2.2.2.1
   |7,a=>cases a;exact t.2.2.2.2.2.2.2.2.2
  exact bk
 cases L;refine Uq ?_;iterate 3 refine zw ?_
 refine zL rfl rfl (fun v u=>∃(r:List Xq)(R:Xn),v=Xm #[Xi r.toArray,I6 (zlg s.tb n z)]/\zc j R/\zc R u/\zaD 0 R.heap.size u r (ziX s.tb n z)) (fun w' c b=>?_) (fun b7 L=>?_)
 ·refine zI.call [Xi #[x.t0.x,x.t1.x,x.t2.x,x.t3.x,x.t4.x,x.t5.x,x.t6.x,x.t7.x],I6 n,Xi #[I6 z.kind,I6 z.n,Xh z.wr]] rfl func175 rfl rfl rfl ?_;refine(ba w' (Q.trans b)).mono ?_;rintro e bl⟨r,rfl,P,a5⟩;obtain⟨ag,ah⟩:=(h _).1 c;exact⟨_,rfl,(h _).2 ⟨ag.aA a5,ah.aA a5⟩,⟨r,rfl⟩,r,w',rfl,b,a5,P⟩
 obtain⟨r,rfl⟩:=L;refine Uq ?_;iterate 3 refine zw ?_
 refine qx (.tmp 16) ⟨k,q*10,Xb⟩ rfl rfl rfl rfl ?_;refine Uq ?_;refine zw ?_
 refine zL rfl rfl (fun _ u=>Chg w0 X p w V {m with sp:=m.sp.set q {s with tb:=ziX s.tb n z}} u) (fun w' c b=>?_) (fun b7 L=>?_)
 ·obtain⟨ar,R,bh,b2,bg,b6⟩:=b;have ab:ar=r:=by simpa using bh.symm
  subst ab;obtain⟨ak,al,P,am,an,ao,ap,aq,rfl⟩:=b6.form;have aw:=(Q.trans b2).trans bg;refine zcj (E:=Q4) (.tmp 28) (.tmp 25) 74 rfl w0.heap.size _ au (F.aA aw) k q 2 rfl x ⟨x.aH,x.ar,ak,al,P,am,an,ao,ap,aq⟩ ay.out [ak.v,al.v,P.v,am.v,an.v,ao.v,ap.v,aq.v] Kr rfl (by show 2+8<=10;omega) ?_ ⟨k,q*10+2,Xb⟩ rfl rfl (Xi #[ak.v,al.v,P.v,am.v,an.v,ao.v,ap.v,aq.v]) rfl rfl ?_
  ·intro u b4;simp only[mC,nM,or_false]at b4
   rcases b4 with rfl|rfl|rfl|rfl|rfl|rfl|rfl|rfl<;>rfl
  intro bc M B _;rw[<-A.out]at M;obtain⟨ag,ah⟩:=(h _).1 c;have bi:=F.lt k rfl;refine⟨(h _).2 ⟨ag.grown B (Hm U.out),ah.grown B (Hm U.out)⟩,trivial,ax.setT a0 a1 ay bb (by have b3:=A.out;(try simp only[Sli.x]at b3);unfold oB;rw[b3];rfl) aw (b6.less (nR _) (nT (bS Q) (bS b2))) B M ⟨rfl,rfl,rfl⟩⟩
 clear L;try simp only[Xx]
 refine jL fun bc a7 K=>?_
 have az:=dD K;clear a7 K C H ac ad ae af a9;go_wp2
 exact Ge az.out
variable{X:Nat->Prop}
theorem zkX{w:Xn}{p:Nat}(h:ChW w0 X p w V m)(q:Nat)(b:q<m.sp.length)(n:Int)(a:(QH m q n).kind=1->jW m.fs m.aB (QH m q n).n (-1)=0):
  Xp prog 78 #[Xj (Xa ⟨p,0,Xb⟩),Xi #[I6 (q:Int),I6 n]] w fun e w'=>(∃v,e=Xl v)/\Chg w0 X p w V (zkT m q n) w':=by
 obtain⟨E,c⟩:=kA (QH m q n);have f:Xo (zkT m q n=jp (Qj m E (-1)) q n ⟨0,0,Xd⟩):=dD<|by rw[<-c.out];rfl
 have l:=dD h;have r:=dD b;have g:=dD h.aM;have s:Xo (E.kind=1->jW m.fs m.aB E.n (-1)=0):=show _->_ by rw[<-c.out];exact a
 clear h b a;obtain⟨a,a⟩:=kB (w.alloc (Xk #[I6 (q:Int),I6 n] 142));have k:=gA a
 obtain⟨i,b⟩:=kA w.heap.size;have h:=xPT a b
 have d:Xo (¬Dw p V i):=dD<|fun e=>by have:=g.out _ e;have:=b.out;omega
 have g:=dD a;clear a;have a:=ZZ (l.aA k) q r n;rw[c.out]at a
 go_enter func78,ntmps78
 go_upto_region 1 with fail;rw[g.out,b.out];obtain⟨i,j⟩:=h.box.k2;go_wp2_with fail;refine a.mono ?_;clear a i j;rintro e b⟨rfl,b⟩;have c:=dD (k.trans b);have t:=dD (h.aA b);clear b;unfold enV;have b:=zev (l.aA c) E (-1) s.out;go_wp2_with fail;refine b.mono ?_;clear b;rintro e b⟨⟨b,rfl⟩,b,k,g,h⟩;have l:=dD k;have b:=dD<|Chg.far c h
 have s:=dD<|(zk.aA c).trans g
 have c:=dD<|t.aK g d.out;clear k h g;obtain⟨i,j⟩:=c.box.k2;have a:=QY l q (Rx zjl r) n ⟨0,0,Xd⟩
 go_wp2_with fail;refine a.mono ?_;clear a i j;rintro e d⟨⟨a,rfl⟩,c⟩;have a:Xo (Chg w0 X p w V (zkT m q n) d):=dD<|Rx f.out (Chg.step s b c)
 clear c;go_wp2
 exact Ge a.out
def zbK(m:Ma)(q:Nat)(n:Int)(k:Int):Ma:=jp (Qj m ⟨1,k,Xd⟩ 1) q n ⟨1,k,Xd⟩
theorem JS{w:Xn}{p:Nat}(h:ChW w0 X p w V m)(q:Nat)(b:q<m.sp.length)(n:Int)(k:Int)(a:jW m.fs m.aB k 1=0):
  Xp prog 193 #[Xj (Xa ⟨p,0,Xb⟩),Xi #[I6 (q:Int),I6 n],I6 k] w fun e w'=>(∃v,e=Xl v)/\Chg w0 X p w V (zbK m q n k) w':=by
 have l:=dD h;have r:=dD b;have j:=dD a;have g:=dD h.aM;clear h b a;obtain⟨c,a⟩:=kB ((w.alloc (Xk #[I6 (q:Int),I6 n] 142)).alloc (Xk #[I6 1,I6 k,Xh Xd] 127));have f:=gD2 a
 obtain⟨d,b⟩:=kA w.heap.size;have u:Xo (zg c d 142 [I6 (q:Int),I6 n]):=dD<|by rw[<-a];exact(zg.aD w [I6 (q:Int),I6 n] _ b.symm).aA (za _ _)
 have i:Xo (zg c (d+1) 127 [I6 1,I6 k,Xh Xd]):=dD<|by rw[<-a];exact zg.aD _ [I6 1,I6 k,Xh Xd] _ (by have:=b.out;simp;omega)
 have c:Xo (¬Dw p V d/\¬Dw p V (d+1)):=dD<|⟨fun e=>by have:=g.out _ e;have:=b.out;omega,fun e=>by have:=g.out _ e;have:=b.out;omega⟩
 have d:=dD a;clear a;have a:=zev (l.aA f) ⟨1,k,Xd⟩ 1 (fun _=>j.out)
 go_enter func193,ntmps193
 go_upto_region 2 with fail;rw[d.out,b.out];obtain⟨d,g,h⟩:=i.box.c3;go_wp2_with fail;refine a.mono ?_;clear a d g h;rintro e a⟨⟨a,rfl⟩,a,l,a,j⟩;have s:=dD l;have b:=dD<|Chg.far f j
 have t:=dD<|(zk.aA f).trans a
 have f:=dD<|u.aK a c.1;have u:=dD<|i.aK a c.2;clear l j a;obtain⟨c,i⟩:=f.box.k2;obtain⟨d,g,h⟩:=u.box.c3;have a:=QY s q (Rx zjl r) n ⟨1,k,Xd⟩
 go_wp2_with fail;refine a.mono ?_;clear a c i d g h;rintro e a⟨⟨a,rfl⟩,c⟩;have a:=dD<|Chg.step t b c
 clear c;go_wp2
 exact Ge a.out
theorem ziv{w:Xn}{p:Nat}(h:ChW w0 X p w V m)(q:Nat)(a:q<m.sp.length)(n:Int):
  Xp prog 207 #[Xj (Xa ⟨p,0,Xb⟩),Xi #[I6 (q:Int),I6 n]] w fun e w'=>(∃v,e=Xl v)/\Chg w0 X p w V (jp m q n {QH m q n with wr:=true}) w':=by
 obtain⟨E,d⟩:=kA (QH m q n);rw[d.out];have r:=dD h;have s:=dD a;clear h a;obtain⟨a,a⟩:=kB (w.alloc (Xk #[I6 (q:Int),I6 n] 142));have h:=gA a
 obtain⟨t,c⟩:=kA w.heap.size;have g:=xPT a c
 have b:=dD a;clear a;have a:=ZZ (r.aA h) q s n;rw[d.out]at a
 go_enter func207,ntmps207
 go_upto_region 1 with fail;rw[b.out,c.out];obtain⟨k,l⟩:=g.box.k2;go_wp2_with fail;refine a.mono ?_;clear a k l;rintro e c⟨rfl,d⟩;unfold enV;go_upto_region 2 with fail;obtain⟨i,f⟩:=kA c.heap.size;obtain⟨b,b⟩:=kB (c.alloc (Xk #[I6 E.kind,I6 E.n,Xh E.wr] 127));have j:=gP b
 have y:=xPT b f
 have x:=dD (g.aA (d.trans j));have u:=dD ((h.trans d).trans j);have c:Xo (t<i/\w.heap.size<=i):=show _/\_ from⟨by have:=(g.aA d).box.lt;have:=f.out;omega,by have:=f.out;have:=bS (h.trans d);omega⟩
 rw[b,f.out];clear b j d
 go_upto_region 3 with(refine qK rfl 4 (.tmp 8) (.const (Xh Xc)) rfl i 2 rfl (Xh Xc) rfl [Xh Xc] rfl y Sm Kr (by simp[Value.oneCell']) ?_)
 intro f d b _;have h:=dD d;have g:Xo (zg f t 142 [I6 (q:Int),I6 n]):=x.beside b (fun f e=>by cases e;have:=c.out;omega)
 have f:=dD<|zd u b c.2
 clear d b;try simp only[Xx]
 have a:=QY (r.aA f) q s n ⟨E.kind,E.n,Xc⟩;obtain⟨k,l⟩:=g.box.k2;obtain⟨b,c,d⟩:=h.box.c3;go_wp2_with fail;refine a.mono ?_;clear a k l b c d;rintro e a⟨⟨a,rfl⟩,b⟩;have a:=dD<|Chg.aG f b
 clear b;go_wp2
 exact Ge a.out
variable{X:Nat->Prop}
theorem ChW.off{w:Xn}{p:Nat}(h:ChW w0 X p w V m){cs:Array Xq}(a:w.heap[g]?=Xa (Xk cs t (0,0)))(t1:88≠t)(t2:z9.ty≠t)(t3:jR.ty≠t)(d:Q4.ty≠t):¬Dw p V g:=by
 have a:∀{c:Type}{E:Elt c}{b:Nat}{v:Xq}{l:List c},zb E b w v l->E.ty≠t->v.ownBlock≠Xa g:=fun r b e=>by
  obtain⟨b,b⟩:=r.obj e
  grind
 rintro(e|e|e|e)
 ·subst e;have b:w.heap[g]?=_:=h.box
  grind
 ·exact a h.fs t2 e
 ·exact a h.ca t3 e
 obtain⟨b,b,_⟩:=h.sp;exact a b d e
theorem ChW.bQ{w:Xn}{p:Nat}{cs:List Xq}(h:ChW w0 X p w V m)(a:zg w b t cs)(t1:88≠t)(t2:z9.ty≠t)(t3:jR.ty≠t)(c:Q4.ty≠t):¬Dw p V b:=h.off (show w.heap[b]?=_ from a) t1 t2 t3 c
theorem ChW.offR{w:Xn}{p:Nat}{α:Type}{E:Elt α}{base:Nat}{v:Xq}{l:List α}(h:ChW w0 X p w V m)(r:zb E base w v l)(t1:88≠E.ty)(t2:z9.ty≠E.ty)(t3:jR.ty≠E.ty)(c:Q4.ty≠E.ty):∀g,v.ownBlock=Xa g->¬Dw p V g:=fun g b=>by
 obtain⟨a,a⟩:=r.obj b;exact h.off a t1 t2 t3 c
theorem zb.chg{w:Xn}{p:Nat}{α:Type}{E:Elt α}{base:Nat}{v:Xq}{l:List α}(r:zb E base w v l)(o:zk (Dw p V) w w1)(a:∀g,v.ownBlock=Xa g->¬Dw p V g):zb E base w1 v l:=⟨ji r.1 o a,r.2⟩
def QA(m:Ma)(e:En)(l:List (Nat×Nat)):Ma:=l.foldl (fun m x=>jp m x.1 (x.2:Int) e) m
theorem zis(m e)(l:List (Nat×Nat))(x:Nat×Nat):QA m e (l++[x])=jp (QA m e l) x.1 (x.2:Int) e:=by simp[QA]
theorem zaB(e):∀(l:List (Nat×Nat))(m:Ma),(QA m e l).sp.length=m.sp.length/\(QA m e l).fs=m.fs/\(QA m e l).aB=m.aB
 |[],_=>⟨rfl,rfl,rfl⟩
 |x::l,m=>by
  have h:=zaB e l (jp m x.1 (x.2:Int) e);exact⟨h.1.trans (zkQ _ _ _ _),h.2⟩
def zac(m:Ma)(k:Nat)(r:Int)(e:En):Ma:={QA m e (qW m 1 (k:Int) m.sp.length)with fs:=Qv m.fs m.aB (k:Int) (-r),aB:=m.aB}
theorem zdo{w:Xn}{p:Nat}(h:ChW w0 X p w V m)(k:Nat)(fr:Fr)(f:m.fs[k]?=Xa fr)(z:En)(a:m.sp.length<=4)(d:0<=fr.r/\fr.r<=1000)(b:jW m.fs m.aB (k:Int) (-fr.r)=0):
  Xp prog 214 #[Xj (Xa ⟨p,0,Xb⟩),I6 (k:Int),Xi #[I6 z.kind,I6 z.n,Xh z.wr]] w fun e w'=>(∃v,e=Xl v)/\Chg w0 X p w V (zac m k fr.r z) w':=by
 have l:=dD h;have H:=dD f;have Y:=dD b;have u:=dD d;have c:=dD a;clear h f a b d;obtain⟨j,a⟩:=kB (w.alloc (Xk #[I6 z.kind,I6 z.n,Xh z.wr] 127));have g:=gA a
 obtain⟨C,h⟩:=kA w.heap.size;have s:=xPT a h
 have d:=dD a;clear a;have a:=zbg (l.aA g) 1 (k:Int) c.out;obtain⟨L,F⟩:=kA (qW m 1 (k:Int) m.sp.length);rw[F.out]at a;have b:Xo (L.length<=256):=show _<=_ by
  rw[<-F.out];have G:=za8 m 1 (k:Int) m.sp.length;have q:=c.out;omega
 have q:Xo (∀D∈L,D.1<m.sp.length):=dD<|fun D c=>by
  rw[<-F.out]at c;exact((Jp Dc (nR _)).1 c).1
 go_enter func214,ntmps214
 go_upto_region 1 with fail;rw[d.out,h.out];go_wp2_with fail;refine a.mono ?_;clear a;rintro e a⟨v,rfl,a,A⟩;obtain⟨t,U,rfl⟩:=a.form;obtain⟨h,d⟩:=kA L.length;rw[d.out]at a b⊢;have r:h<=256:=b.out;obtain⟨N,b⟩:=kA j.heap.size;rw[b.out]at a;have r:=dD a;have b:=dD (g.trans A);have g:=dD (s.aA A);clear a A;go_wp2
 go_loopg[12] h (fun s a wr=>∃(j:Nat)(B:MaV),j<=h/\h-j<=s/\a=I6 j/\Xo (ChW w0 X p wr B (QA m z (L.take j)))/\Xo (zk (Dw p V) w wr)/\Xo (∀k,Dw p B k->Dw p V k\/w.heap.size<=k)/\Xo (zb Jb N wr (O t h U) L)/\Xo (zg wr C 127 [I6 z.kind,I6 z.n,Xh z.wr]))
 exact⟨0,V,nZ _,Wm,rfl,l.aA b,zk.aA b,fun k f=>.inl f,r,g⟩
 obtain⟨j,B,y,a,rfl,f,Q,P,t,T⟩:=hrel
 by_cases l:j<h
 ·have s:=kC l
  obtain⟨⟨E,n⟩,c⟩:∃D,L[j]?=Xa D:=⟨_,gE (Rx d.out l)⟩
  obtain⟨g,Z,b⟩:=t.aJ (by rw[d.out];omega)
  simp only[vJ]at b;obtain⟨rfl,-,-⟩:=b;have a:=t.one c;have r:wr.cell? ⟨g,j*2,Xb⟩=Xa (I6 (E:Int)):=by
   have:=a 0 _ rfl;rw[Xw,Xw,zA,Yu]at this;exact this
  have M:wr.cell? ⟨g,j*2+1,Xb⟩=Xa (I6 (n:Int)):=by
   have:=a 1 _ rfl;rw[Xw,Xw,zA]at this;exact this
  have S:=dD<|q.out _ (mG c);have K:Xo (L.take (j+1)=L.take j++[(E,n)]):=show _=_ by rw[Yf,c];rfl
  clear a c;go_upto_region 4 with fail;clear r M;obtain⟨a,r⟩:=kA wr.heap.size;obtain⟨a,a⟩:=kB (wr.alloc (Xk #[I6 (E:Int),I6 (n:Int)] 142));have q:=gA a
  have R:=xPT a r
  have M:=dD (T.aA q);rw[a,r.out];clear a;have r:=dD (f.aA q);have a:=QY r E (by rw[(zaB z _ m).1];exact S) (n:Int) z
  obtain⟨E,S⟩:=R.box.k2;obtain⟨R,T,W⟩:=M.box.c3;go_wp2_with fail;refine a.mono ?_;clear a E S R T W;rintro e E⟨⟨a,rfl⟩,R,T,a,S⟩;have W:Xo (ChW w0 X p E R (QA m z (L.take (j+1)))):=dD<|by rw[K.out,zis];exact T
  have K:=Chg.step (w0:=w0) (m':=QA m z (L.take (j+1))) Q P (Chg.aG q ⟨R,W,a,S⟩);have R:Xo (zb Jb N E (O (Xa ⟨g,0,Xb⟩) h U) L):=(t.aA q).chg a (r.offR (t.aA q) Dc Dc Dc Dc)
  have W:Xo (zg E C 127 [I6 z.kind,I6 z.n,Xh z.wr]):=M.aK a (r.bQ M Dc Dc Dc Dc)
  obtain⟨U,r,t,q⟩:=K;have K:=dD r;have M:=dD t;have E:=dD q
  clear T a S r t q;go_wp2
  go_roundg (h-(j+1));exact⟨j+1,U,Wm,Wm,Gn,K,M,E,R,W⟩;omega
 have s:=kD l
 have a:Xo (L.take j=L):=dD<|Xv (by rw[d.out];omega)
 rw[a.out]at f;obtain⟨K,l⟩:=kA (QA m z L);rw[l.out]at f;have a:Xo (K.fs=m.fs/\K.aB=m.aB):=dD<|by rw[<-l.out];exact(zaB z L m).2
 obtain⟨g,Z,b⟩:=f.fs.aJ (by rw[a.1];have:=(gS.1 H).1;omega)
 obtain⟨⟨d,t,q⟩,d,d,d,d,d,d,d,d⟩:=B;simp only[vJ]at b;obtain⟨rfl,d,-⟩:=b;have b:(k:Int)<(t:Int):=by
  have G:=(gS.1 H).1;rw[d,a.1];omega
 have b:Xo (∀W,zc wr W->W.cell? ⟨g,k*13+8,Xb⟩=Xa (I6 fr.r)):=dD<|fun W h=>by
  have:=(f.fs.aA h).one (i:=k) (x:=fr) (Rx a.1 H) 8 _ rfl
  rw[Xw,Xw,zA]at this;exact this
 have M:Xo (∀W,zc wr W->Xp prog 173 #[Xi #[O (Xa ⟨g,0,Xb⟩) t q,I6 m.aB],I6 (k:Int),I6 (-fr.r)] W fun e w'=>∃s:Sli,e=Xl (Xm #[Xi #[s.x,I6 m.aB],I6 0])/\zb z9 W.heap.size w' (s.x) (Qv m.fs m.aB (k:Int) (-fr.r))/\zc W w'):=dD<|fun W h=>by
  have r:=(f.at.aA h).fs;rw[a.1]at r d;rw[d]at r⊢;refine(zfg (Xa ⟨g,0,Xb⟩) q m.fs m.aB (k:Int) (-fr.r) W r Y).mono ?_;rintro e w'⟨C,rfl,r,g⟩;have h:zb z9 W.heap.size w' C (Qv m.fs m.aB (k:Int) (-fr.r)):=r;obtain⟨B,C,rfl⟩:=h.form;exact⟨⟨B,_,C⟩,rfl,r,g⟩
 have h:=dD f.box;have H:=dD a.2;clear d;obtain⟨r,B⟩:=kA fr.r;rw[B.out]at b M u;obtain⟨a,a⟩:=u.out;go_upto_region 6 with fail;obtain⟨a,E⟩:=Wq fun u=>u.cell? ⟨g,k*13+8,Xb⟩=Xa (I6 r)
 have L:zc wr wr.drew:=show Below _ _ _ from(bR _ _).drew
 have d:=(E _).2 (b _ L);have C:zc wr wr.drew:=L;have R:=fun L:zo a=>(E _).1 L.holds
 have L:Nonempty (zo a):=⟨⟨_,d⟩⟩;refine Zo (I:=a) 26 [(18,fun v=>∃s:Sli,v=Xm #[Xi #[s.x,I6 m.aB],I6 0]),(25,fun _=>True)] [5,12] (fun u=>zc wr u) d C zU Kr rfl rfl Dc (Sb ⟨_,Zy,rfl⟩ ⟨undef,trivial⟩) Kr Kr ?_
 simp only[Yp,Yq];iterate 2 refine qa ?_
 refine Qu (.tmp 23) ⟨p,0,Xb⟩ rfl rfl rfl rfl ?_;refine Uq ?_;iterate 2 refine qa ?_
 refine Qt rfl rfl rfl (Xi #[O (Xa ⟨g,0,Xb⟩) t q,I6 m.aB]) (fun w' _ a=>?_) ?_
 ·exact zlU 32 (.tmp 26) rfl p 0 rfl [O (Xa ⟨g,0,Xb⟩) t q,I6 m.aB] ((h.box.aA a).mid 0 (fun j v y=>by
   match j,y with
   |0,y=>exact y
   |1,y=>rw[<-H.out]at y;exact y)) underlying32 rfl Kr
 refine Uq ?_;iterate 2 refine qa ?_
 refine Qu (.tmp 29) ⟨p,0,Xb⟩ rfl rfl rfl rfl ?_;refine Uq ?_;iterate 3 refine qa ?_
 refine Qt rfl rfl rfl (O (Xa ⟨g,0,Xb⟩) t q) (fun w' _ a=>?_) ?_
 ·exact zbv 30 (.tmp 33) rfl p 0 rfl (O (Xa ⟨g,0,Xb⟩) t q) ((h.box.aA a).c 0 rfl) underlying30 rfl
 refine Uq ?_;iterate 5 refine qa ?_
 refine Qs rfl rfl (fun v u=>∃(s:Sli)(c:Xn),v=Xm #[Xi #[s.x,I6 m.aB],I6 0]/\zc wr c/\zc c u/\zb z9 c.heap.size u (s.x) (Qv m.fs m.aB (k:Int) (-r))) (fun w' j a=>?_) (fun D y=>?_)
 ·refine zI.call [Xi #[O (Xa ⟨g,0,Xb⟩) t q,I6 m.aB],I6 (k:Int),I6 (-r)] rfl func173 rfl rfl rfl ?_;refine(M w' a).mono ?_;rintro e q⟨s,rfl,q,A⟩;exact⟨_,rfl,(E _).2 (b _ (a.trans A)),⟨s,rfl⟩,s,w',rfl,a,A,q⟩
 obtain⟨s,rfl⟩:=y;refine Uq ?_;iterate 3 refine qa ?_
 refine Qu (.tmp 22) ⟨p,0,Xb⟩ rfl rfl rfl rfl ?_;refine Uq ?_;iterate 2 refine qa ?_
 refine Qs rfl rfl (fun _ u=>Chg w0 X p w V (zac m k r z) u) (fun w' j a=>?_) (fun D y=>?_)
 ·obtain⟨j,c,c,t,q,u⟩:=a;have a:j=s:=by
   obtain⟨A,A,A⟩:=s;obtain⟨N,s,s⟩:=j;simp only[Value.tuple.injEq,Array.mk.injEq,List.cons.injEq,Value.agg.injEq,vJ,and_true]at c;obtain⟨rfl,rfl,rfl⟩:=c;rfl
  subst a;have c:=t.trans q;refine jQ 32 (.tmp 45) (.tmp 41) rfl p 0 rfl (Xi #[j.x,I6 m.aB]) rfl [j.x,I6 m.aB] rfl (h.aA c) (by simp[chL]) Kr (by simp[Value.oneCell']) ?_
  intro q h a _;have j:=f.nf g rfl;refine⟨(E _).2 ?_,trivial,?_⟩
  ·have G:=b.out _ c;have b:=World.block_lt_of_cell? _ _ G;rw[World.cell?_of_block (w:=w') (a.block g b (fun e=>by cases e;exact j rfl))]
   exact G
  have b:zac m k r z={K with fs:=Qv m.fs m.aB (k:Int) (-r),aB:=m.aB}:=by
   unfold zac;rw[F.out,l.out]
  rw[b];exact Chg.step Q P (f.setF c (u.base (bS t)) a h)
 clear y;try simp only[Xx]
 refine Qa fun q b a=>?_
 have c:Xo (Chg w0 X p w V (zac m k fr.r z) q):=dD<|Rx B.out a
 clear b a d C R L;go_wp2
 exact Ge c.out
def frU(q:Fr):Fr:={q with u:=false}
def zjj(q:Fr):Bool:=decide (0<q.r)&&!q.u
theorem znj{w:Xn}(h:Below b w W){a:Addr}(c:b<=a.block)(u):Below b w (W.setCell a u):=Below.setCell h c u
theorem zn5(B g n f i base v:Nat)(fs:List Fr)(q W)(b:fs.length=n)(a:n<=40)(h:fs[i]?=Xa q)(j:Box W B [O (Xa ⟨g,0,Xb⟩) n f,I6 (i:Int)])(k:zb z9 base W (O (Xa ⟨g,0,Xb⟩) n f) fs)(p:B≠g)(t:v<=B)(C:v<=g):
  Xp prog 228 #[Xj (Xa ⟨B,0,Xb⟩)] W fun e a=>e=Xl (Xm #[I6 (i:Int),Xh (zjj q)])/\Box a B [O (Xa ⟨g,0,Xb⟩) n f,I6 (((i+1)%n:Nat):Int)]/\zb z9 base a (O (Xa ⟨g,0,Xb⟩) n f) (fs.set i (frU q))/\Below v W a:=by
 have d:=dD k;have c:=dD j;have u:=dD h;have a:i<n:=by rw[<-b];exact(gS.1 h).1
 have a:=dD b;clear k j h b;have a:(i:Int)<(n:Int):=Wm
 have a:(0:Int)<(n:Int):=Wm
 have a:¬(n:Int)=0:=Wm
 have a:(((i:Int)+1)%(n:Int))=(((i+1)%n:Nat):Int):=Sm
 have k:=dD a;clear a;have a:=Ne.symm p;obtain⟨z,j⟩:=c.k2;have s:=c.f;have m:=c.lt;have a:=(d.lt g rfl).2;have u8:=d.frc u 8 rfl;have u9:=d.frc u 9 rfl
 go_enter func228,ntmps228
 go_upto_region 3 with fail;obtain⟨h,b⟩:=kB (W.setCell ⟨B,1,Xb⟩ (I6 (((i:Int)+1)%(n:Int))));rw[b];have r:Xo (Box h B [O (Xa ⟨g,0,Xb⟩) n f,I6 (((i:Int)+1)%(n:Int))]):=dD<|by rw[<-b];exact c.set 1 _
 have l:Xo (zb z9 base h (O (Xa ⟨g,0,Xb⟩) n f) fs):=dD<|by rw[<-b];exact d.aQ (fun w a=>by cases a;exact p) _
 have d:Xo (Below v W h):=dD<|by rw[<-b];exact znj (bR _ _) t _
 clear b z j s m u8 u9;have z:=r.c 0 rfl;have u8:=l.frc u 8 rfl;have u9:=l.frc u 9 rfl;have y:Xo (zjj q=(decide (0<q.r)&&!q.u)):=rfl;obtain⟨h,b⟩:=kA q.r;obtain⟨A,c⟩:=kA q.u;rw[b.out]at u8 y;rw[c.out]at u9 y
 by_cases D:0<h
 ·cases A with
  |true=>
   have x:Xo (zjj q=Xd):=dD<|by rw[y.out];simp[D]
   skip
   go_wp2_with(refine zt (E:=z9) rfl (.tmp 32) (.const (Xh Xd)) 4 rfl base (O (Xa ⟨g,0,Xb⟩) n f) fs l g i 9 rfl q (frU q) u.out [Xh Xd] Kr rfl (Yd rfl) (by intro A t;simp at t;subst t;rfl) _ rfl (by simp[z9]) _ rfl rfl ?_)
   intro s c b _;have m:=dD c;have j:Xo (Box s B [O (Xa ⟨g,0,Xb⟩) n f,I6 (((i:Int)+1)%(n:Int))]):=r.beside b (fun w a=>by cases a;exact p)
   have h:Xo (Below v W s):=Below.grown d b (Hm (bS d.out)) (fun w a=>by cases a;exact C)
   clear c b u8 u9 z;go_wp2
   go_ret2
   exact⟨Rr x.out,Ry k.out j,m,h⟩
  |false=>
   have x:Xo (zjj q=Xc):=dD<|by rw[y.out];simp[D]
   skip
   go_wp2_with(refine zt (E:=z9) rfl (.tmp 32) (.const (Xh Xd)) 4 rfl base (O (Xa ⟨g,0,Xb⟩) n f) fs l g i 9 rfl q (frU q) u.out [Xh Xd] Kr rfl (Yd rfl) (by intro A t;simp at t;subst t;rfl) _ rfl (by simp[z9]) _ rfl rfl ?_)
   intro s c b _;have m:=dD c;have j:Xo (Box s B [O (Xa ⟨g,0,Xb⟩) n f,I6 (((i:Int)+1)%(n:Int))]):=r.beside b (fun w a=>by cases a;exact p)
   have h:Xo (Below v W s):=Below.grown d b (Hm (bS d.out)) (fun w a=>by cases a;exact C)
   clear c b u8 u9 z;go_wp2
   go_ret2
   exact⟨Rr x.out,Ry k.out j,m,h⟩
 
 have x:Xo (zjj q=Xd):=dD<|by rw[y.out];simp[D]
 skip
 go_wp2_with(refine zt (E:=z9) rfl (.tmp 32) (.const (Xh Xd)) 4 rfl base (O (Xa ⟨g,0,Xb⟩) n f) fs l g i 9 rfl q (frU q) u.out [Xh Xd] Kr rfl (Yd rfl) (by intro A t;simp at t;subst t;rfl) _ rfl (by simp[z9]) _ rfl rfl ?_)
 intro s c b _;have m:=dD c;have j:Xo (Box s B [O (Xa ⟨g,0,Xb⟩) n f,I6 (((i:Int)+1)%(n:Int))]):=r.beside b (fun w a=>by cases a;exact p)
 have h:Xo (Below v W s):=Below.grown d b (Hm (bS d.out)) (fun w a=>by cases a;exact C)
 clear c b u8 u9 z;go_wp2
 go_ret2
 exact⟨Rr x.out,Ry k.out j,m,h⟩
def jw:Nat->List Fr->Nat->List Fr×Nat×Int
 |0,fs,h=>(fs,h,-1)
 |m+1,fs,h=>if zjj (fs.getD h fr0)then(fs.set h (frU (fs.getD h fr0)),(h+1)%fs.length,(h:Int))else jw m (fs.set h (frU (fs.getD h fr0))) ((h+1)%fs.length)
def zas(fs:List Fr)(h:Int):List Fr×Nat×Int:=jw (2*fs.length) fs h.toNat
def zbE(fs:List Fr)(h:Int):List Fr:=if j4 fs h=0 then(zas fs h).1 else[]
def zcY(fs:List Fr)(h:Int):Int:=if j4 fs h=0 then((zas fs h).2.1:Int)else 0
def J0(fs:List Fr)(h:Int):Int:=if j4 fs h=0 then(zas fs h).2.2 else 0
theorem zqS(a)(c:Nat)(fs:List Fr)(l:Nat)(w:Xn)(aq:zj z9 w (O a fs.length c) fs)(S:j4 fs (l:Int)=0):
  Xp prog 198 #[Xi #[O a fs.length c,I6 (l:Int)]] w fun e w'=>∃b,e=Xl (Xm #[Xi #[b,I6 ((jw (2*fs.length) fs l).2.1:Int)],I6 (jw (2*fs.length) fs l).2.2,I6 0])/\zb z9 w.heap.size w' b (jw (2*fs.length) fs l).1/\zc w w':=by
 have a3:=dD aq;have ah:∀W,zc w W->Xp prog 58 #[Xi #[O a fs.length c,I6 (l:Int)]] W fun e w'=>e=Xl (I6 (j4 fs (l:Int)))/\zc W w':=fun W ae=>by rw[S];exact ZQ a c fs _ W (a3.aA ae) S
 have ag:∀W,zc w W->Xp prog 51 #[Xi #[O a fs.length c,I6 (l:Int)]] W fun e w'=>∃b,e=Xl (Xi #[b,I6 (l:Int)])/\zb z9 W.heap.size w' b fs/\zc W w':=fun W ae=>Qq a c fs _ W (a3.aA ae)
 obtain⟨P,_,_,A⟩:=jj S;have bb:=enters_of func228 Kr rfl
 clear aq;obtain⟨n,a1⟩:=kA fs.length;simp only[a1.out,S]at ah a3 ag P A⊢;clear S;obtain⟨V,G⟩:=kA (jw (2*n) fs l);rw[G.out];obtain⟨b9,p⟩:=kB ((w.alloc (Xk #[O a n c,I6 (l:Int)] 32)).alloc (Xk #[eS,I6 0] 32));have r:=gD2 p
 have X:=x2a p
 have am:=x2b p
 have a4:=dD p;clear p
 go_enter func198,ntmps198
 go_upto_region 1 with fail;rw[a4.out];obtain⟨aa,ab⟩:=X.k2;go_wp2_with fail;refine(ah _ r).mono ?_;rintro e x⟨rfl,ao⟩;have B:=dD ao;clear ao aa ab ah;obtain⟨aa,ab⟩:=(X.aA B).k2;go_wp2_with fail;refine(ag _ (r.trans B)).mono ?_;rintro e L⟨b,rfl,i,ad⟩;obtain⟨D,m,rfl⟩:=i.form;rw[a1.out]at i⊢;have ay:=dD i;have aj:=dD (B.trans ad);have ac:=dD<|bS ad;have a7:=dD<|(am.aA B).lt;have a6:=dD<|bS (r.trans B);clear i ad aa ab ag;obtain⟨M,k⟩:=kB (L.alloc (Xk #[O D n m,I6 (l:Int)] 32));have an:=xT k
 have K:Xo (zb z9 x.heap.size M (O D n m) fs):=dD<|by rw[<-k];exact ay.aA (za _ _)
 have a9:Xo (Box M (w.heap.size+1) [eS,I6 0]):=dD<|by rw[<-k];exact(am.aA aj).alloc _
 have au:Xo (zc w M):=dD<|by rw[<-k];exact(r.trans aj).trans (za _ _)
 have a5:=dD k;clear k;go_wp2;rw[a5.out]
 go_loopg[8,9,23] (2*n) (fun az _ _ ai wr=>∃(h d:Nat)(g:List Fr),h<=2*n/\2*n-h<=az/\ai=I6 h/\d<max n 1/\Xo (g.length=n)/\Xo (Box wr L.heap.size [O D n m,I6 (d:Int)])/\Xo (zb z9 x.heap.size wr (O D n m) g)/\Xo (Below x.heap.size M wr)/\Xo (jw (2*n-h) g d=V))
 exact⟨0,l,fs,nZ _,Wm,rfl,Wm,a1,an.box,K,bR _ _,G⟩
 obtain⟨h,d,g,b1,bc,rfl,b0,C,I,U,Z,Y⟩:=hrel;have u:=a7.out;have t:=a6.out;have j:=dD<|a9.below Z u;have ak:=dD<|Below.trans au (Z.mono t)
 by_cases b2:h<2*n
 ·have R:(h:Int)<2*(n:Int):=Wm
  obtain⟨s,ba,ap⟩:=U.aJ (by rw[C.out];omega)
  rw[C.out]at ap;cases ap;obtain⟨q,al⟩:∃q,Xo (g[d]?=Xa q):=⟨_,gE (by rw[C.out];omega)⟩
  have af:=U.lt s rfl;have a2:Xo (L.heap.size≠s):=(K.ne an Dc s rfl)
  have f:=zn5 L.heap.size s n m d x.heap.size x.heap.size g q wr C P al I U a2 ac.out af.1;have Q:g.getD d fr0=q:=by rw[gD,al.out];rfl
  have H:Xo (jw (2*n-h) g d=if zjj q then(g.set d (frU q),(d+1)%n,(d:Int))else jw (2*n-(h+1)) (g.set d (frU q)) ((d+1)%n)):=dD<|by
   rw[show 2*n-h=(2*n-(h+1))+1 by omega,jw,Q,C.out]
  clear Q
  cases E:zjj q with
  |true=>
   rw[E]at f;have F:Xo (V=(g.set d (frU q),(d+1)%n,(d:Int))):=dD<|by rw[<-Y.out,H.out,E,kE rfl]
   clear E
   go_wp2_with(go_at_call 228;refine f.mono ?_;rintro e z⟨rfl,N,T,y⟩;obtain⟨b5,b7⟩:=(j.below y u).k2;have b8:=(j.below y u).f;obtain⟨b3,b4⟩:=N.k2;have a8:Xo (zb z9 x.heap.size z (O (Xa ⟨s,0,Xb⟩) n m) (g.set d (frU q))):=T;have a0:Xo (zc w z):=show zc w z from Below.trans ak (y.mono t);clear T y)
   refine bodyPost_ret (v:=Xm #[Xi #[O (Xa ⟨s,0,Xb⟩) n m,I6 (((d+1)%n:Nat):Int)],I6 (d:Int),I6 0]) (by simp[results,Tryz.results198,go_sem, *]) rfl ⟨O (Xa ⟨s,0,Xb⟩) n m,?_,?_,?_⟩
   ·rw[F.out]
   ·rw[F.out];exact((a8.setCell (a:=⟨w.heap.size+1,0,Xb⟩) (by show w.heap.size+1<_;omega) _).setCell (a:=⟨w.heap.size+1,1,Xb⟩) (by show w.heap.size+1<_;omega) _).base t
   exact zG (zG a0 Sm _) Sm _
  |false=>
   rw[E]at f;have aw:Xo (jw (2*n-(h+1)) (g.set d (frU q)) ((d+1)%n)=V):=dD<|by rw[<-Y.out,H.out,E];rfl
   clear E
   go_wp2_with(go_at_call 228;refine f.mono ?_;rintro e z⟨rfl,N,T,y⟩;have ar:Xo (Box z L.heap.size [O (Xa ⟨s,0,Xb⟩) n m,I6 (((d+1)%n:Nat):Int)]):=N;have a8:Xo (zb z9 x.heap.size z (O (Xa ⟨s,0,Xb⟩) n m) (g.set d (frU q))):=T;have ax:Xo (Below x.heap.size M z):=Below.trans Z y;clear N T y)
   go_roundg (2*n-(h+1));exact⟨h+1,(d+1)%n,g.set d (frU q),Wm,Wm,Gn,(by have:=Yo (d+1) (show 0<n by omega);omega),(show(g.set d (frU q)).length=n by rw[Yc];exact C),ar,a8,ax,aw⟩;omega
 have R:¬(h:Int)<2*(n:Int):=Wm
 have:h=2*n:=Wm
 subst this;have F:Xo (V=(g,d,-1)):=dD<|by rw[<-Y.out,Oi];rfl
 obtain⟨b5,b7⟩:=j.k2;have b8:=j.f;obtain⟨b3,b4⟩:=I.k2;go_wp2;refine bodyPost_ret (v:=Xm #[Xi #[O D n m,I6 (d:Int)],I6 (-1),I6 0]) (by simp[results,Tryz.results198,go_sem, *]) rfl ⟨O D n m,?_,?_,?_⟩
 ·rw[F.out]
 ·rw[F.out];exact((U.setCell (a:=⟨w.heap.size+1,0,Xb⟩) (by show w.heap.size+1<_;omega) _).setCell (a:=⟨w.heap.size+1,1,Xb⟩) (by show w.heap.size+1<_;omega) _).base t
 exact zG (zG ak Sm _) Sm _
theorem zn8(a)(c:Nat)(fs:List Fr)(h:Int)(w:Xn)(f:zj z9 w (O a fs.length c) fs)(d:j4 fs h=0):
  Xp prog 198 #[Xi #[O a fs.length c,I6 h]] w fun e w'=>∃b,e=Xl (Xm #[Xi #[b,I6 (zcY fs h)],I6 (J0 fs h),I6 (j4 fs h)])/\zb z9 w.heap.size w' b (zbE fs h)/\zc w w':=by
 unfold zcY J0 zbE zas;rw[kE d,kE d,kE d];obtain⟨g,rfl⟩:=Int.eq_ofNat_of_zero_le (jj d).2.2.1;rw[tN,d];exact zqS a c fs g w f d
variable{X:Nat->Prop}
def jv(m:Ma):Ma:={m with fs:=zbE m.fs m.aB,aB:=zcY m.fs m.aB}
theorem zq1{w:Xn}{p:Nat}(h:ChW w0 X p w V m)(c:j4 m.fs m.aB=0):
  Xp prog 198 #[Xi #[V.f.x,I6 m.aB]] w fun e w'=>∃b:Sli,e=Xl (Xm #[Xi #[b.x,I6 (zcY m.fs m.aB)],I6 (J0 m.fs m.aB),I6 0])/\zb z9 w.heap.size w' (b.x) (zbE m.fs m.aB)/\zc w w':=by
 obtain⟨a,-⟩:=h.at.ns;have k:=h.at.fs;(try simp only[Sli.x]at k⊢);rw[a]at k⊢;refine(zn8 V.f.a V.f.c m.fs m.aB w k c).mono ?_;rintro e w'⟨b,rfl,d,h⟩;have a:zb z9 w.heap.size w' b (zbE m.fs m.aB):=d;obtain⟨f,g,rfl⟩:=a.form;rw[c];exact⟨⟨f,_,g⟩,rfl,d,h⟩
theorem zgp:∀(m:Nat)(fs:List Fr)(h:Nat),h<fs.length->(∀q∈fs,q=frF)->jw m fs h=(fs,(h+m)%fs.length,-1)
 |0,fs,h,a,_=>by
  rw[jw,Yu,Yb a]
 |m+1,fs,h,a,b=>by
  have d:fs.getD h fr0=frF:=by
   rw[gD,gE a];exact b _ (List.getElem_mem a)
  have e:fs.set h (frU frF)=fs:=by
   apply Ye
   intro j
   by_cases c:j=h
   ·subst c;rw[sF a,gE a,b _ (List.getElem_mem a)];rfl
   rw[sN (Ne.symm c)]
  rw[jw,d,show zjj frF=Xd from rfl,e]
  rw[kF Dc,zgp m fs ((h+1)%fs.length) (Yo _ Wm) b]
  rw[Ys,Nat.add_assoc,Nat.add_comm 1 m]
theorem zmG{q:Fr}(a:frW q=0)(b:q.r=0):q=frF:=by grind[frW,inB,zbb,frF,zfo]
def znG(q:Fr):Bool:=decide (0<q.r)
theorem zka{fs:List Fr}{h:Int}(a:j4 fs h=0)(e:fs.any znG=Xd):zas fs h=(fs,h.toNat,-1):=by
 obtain⟨b,c,b,b⟩:=jj a;have a:∀q∈fs,q=frF:=fun q b=>by
  have d:=List.any_eq_false.1 e q b;unfold znG at d;have d:=(zba (c q b)).1
  grind[zmG]
 unfold zas
 by_cases b:fs.length=0
 ·rw[b];rfl
 rw[zgp _ fs h.toNat Wm a,Nat.add_comm,Nat.two_mul,Nat.add_assoc,Nat.add_mod_left,Nat.add_mod_left,Yb Wm]
def zbn(fs gs:List Fr):Prop:=gs.length=fs.length/\∀(i:Nat)q,fs[i]?=Xa q->∃q',gs[i]?=Xa q'/\(q'=q\/q'=frU q)
theorem zbn.refl(fs):zbn fs fs:=⟨rfl,fun _ q h=>⟨q,h,.inl rfl⟩⟩
theorem zbn.set{fs a:List Fr}(h:zbn fs a)(i:Nat):zbn fs (a.set i (frU (a.getD i fr0))):=by
 refine⟨Rx Yc h.1,fun j q c=>?_⟩
 obtain⟨d,a,b⟩:=h.2 j q c
 by_cases e:j=i
 ·subst e;have c:=(gS.1 a).1;refine⟨frU d,?_,?_⟩
  ·grind
  right
  rcases b with rfl|rfl<;>rfl
 grind
theorem zat:∀(m:Nat)(fs b:List Fr)(h:Nat),zbn fs b->h<b.length->∀(a:List Fr)(c:Nat)(r:Int),jw m b h=(a,c,r)->zbn fs a/\c<a.length/\(r=-1\/∃(k:Nat)(q:Fr),r=(k:Int)/\fs[k]?=Xa q/\0<q.r/\a[k]?=Xa (frU q)/\c=(k+1)%fs.length)
 |0,fs,b,h,f,l,a,c,r,e=>by
  rw[jw]at e;cases e;exact⟨f,l,.inl rfl⟩
 |m+1,fs,b,h,f,l,a,c,r,e=>by
  rw[jw]at e;have j:=f.set h;have i:(h+1)%b.length<(b.set h (frU (b.getD h fr0))).length:=by
   rw[Yc];exact Yo _ Wm
  by_cases d:zjj (b.getD h fr0)=Xc
  ·rw[kE d]at e;cases e;refine⟨j,i,.inr ?_⟩;have g:h<fs.length:=Ry f.1 l
   obtain⟨s,t,n⟩:=f.2 h fs[h] (gE g);have p:b.getD h fr0=s:=by rw[gD,t];rfl
   rw[p]at d;have b:0<s.r:=by unfold zjj at d;simp at d;exact d.1
   refine⟨h,fs[h],rfl,gE g,?_,?_,by rw[f.1]⟩
   ·rcases n with rfl|rfl
    ·exact b
    exact b
   rw[sF l,p]
   rcases n with rfl|rfl<;>rfl
  rw[kF d]at e;exact zat m fs _ _ j i a c r e
theorem zkw{fs:List Fr}(b:∀q∈fs,0<=q.r):fs.countP znG+qE fs=fs.length:=by
 induction fs with
 |nil=>rfl
 |cons a l d=>
  have c:=d fun q d=>b q (by simp[d])
  have d:=b a Sm
  unfold qE at c⊢;rw[Yh,Yh,Yi]
  by_cases b:a.r=0
  ·grind[znG]
  grind[znG]
theorem zef:∀(d m:Nat)(a:List Fr)(h:Nat),h<a.length->d<m->znG (a.getD ((h+d)%a.length) fr0)=Xc->(a.getD ((h+d)%a.length) fr0).u=Xd->(jw m a h).2.2≠-1
 |d,0,_,_,_,l,_,_=>Wm
 |d,m+1,a,h,f,l,b,j=>by
  rw[jw]
  by_cases hi:zjj (a.getD h fr0)=Xc
  ·rw[kE hi];simp only;omega
  rw[kF hi]
  cases d with
  |zero=>
   rw[Yu,Yb f]at b j;unfold zjj at hi;unfold znG at b;rw[b,j]at hi;exact absurd rfl hi
  |succ d=>
   have g:(a.set h (frU (a.getD h fr0))).length=a.length:=Yc;have c:∀i,(a.set h (frU (a.getD h fr0))).getD i fr0=if i=h/\h<a.length then frU (a.getD h fr0)else a.getD i fr0:=fun i=>by
    rw[gD]
    by_cases e:i=h
    ·subst e;rw[kE ⟨rfl,f⟩,sF f];rfl
    rw[kF Wm,sN (Ne.symm e),<-gD]
   have k:((h+1)%a.length+d)%a.length=(h+(d+1))%a.length:=by rw[Ys,show h+1+d=h+(d+1) by omega]
   refine zef d m _ _ (by rw[g];exact Yo _ Wm) Wm ?_ ?_
   ·rw[g,k,c]
    split
    ·rename_i e
     rw[e.1]at b;exact b
    exact b
   rw[g,k,c]
   split
   ·rfl
   exact j
theorem zcZ:∀(d m:Nat)(a:List Fr)(h:Nat),h<a.length->d+a.length<m->znG (a.getD ((h+d)%a.length) fr0)=Xc->(jw m a h).2.2≠-1
 |d,0,_,_,_,k,_=>Wm
 |d,m+1,a,h,c,k,f=>by
  rw[jw]
  by_cases hi:zjj (a.getD h fr0)=Xc
  ·rw[kE hi];simp only;omega
  rw[kF hi];have e:(a.set h (frU (a.getD h fr0))).length=a.length:=Yc;have b:∀i,(a.set h (frU (a.getD h fr0))).getD i fr0=if i=h/\h<a.length then frU (a.getD h fr0)else a.getD i fr0:=fun i=>by
   rw[gD]
   by_cases g:i=h
   ·subst g;rw[kE ⟨rfl,c⟩,sF c];rfl
   rw[kF Wm,sN (Ne.symm g),<-gD]
  cases d with
  |zero=>
   rw[Yu,Yb c]at f;have j:((h+1)%a.length+(a.length-1))%a.length=h:=by
    rw[Ys,show h+1+(a.length-1)=h+a.length by omega,Nat.add_mod_right,Yb c]
   refine zef (a.length-1) m _ _ (by rw[e];exact Yo _ Wm) Wm ?_ ?_
   ·rw[e,j,b,kE ⟨rfl,c⟩];exact f
   rw[e,j,b,kE ⟨rfl,c⟩];rfl
  |succ d=>
   have j:((h+1)%a.length+d)%a.length=(h+(d+1))%a.length:=by rw[Ys,show h+1+d=h+(d+1) by omega]
   refine zcZ d m _ _ (by rw[e];exact Yo _ Wm) (by rw[e];omega) ?_
   rw[e,j,b]
   split
   ·rename_i g
    rw[g.1]at f;exact f
   exact f
theorem zee{fs:List Fr}{h:Int}(a:j4 fs h=0):
  (J0 fs h=-1/\qE fs=fs.length)\/∃(k:Nat)(q:Fr),J0 fs h=(k:Int)/\fs[k]?=Xa q/\0<q.r/\zbn fs (zbE fs h)/\(zbE fs h)[k]?=Xa (frU q)/\zcY fs h=(((k+1)%fs.length:Nat):Int):=by
 obtain⟨b,b,c,c⟩:=jj a;have d:J0 fs h=(zas fs h).2.2:=kE a;have c:zbE fs h=(zas fs h).1:=kE a;have c:zcY fs h=((zas fs h).2.1:Int):=kE a
 cases c:fs.any znG with
 |false=>
  left;rw[d,zka a c];refine⟨rfl,?_⟩;have a:=zkw (fs:=fs) (fun q l=>(zba (b q l)).1)
  have a:fs.countP znG=0:=by grind
  omega
 |true=>
  right;obtain⟨a,a,f⟩:=Xt.1 c;obtain⟨i,j⟩:=Xy a;have e:=(gS.1 j).1;have c:h.toNat<fs.length:=Wm
  obtain⟨b,d,r,g⟩:∃b d r,jw (2*fs.length) fs h.toNat=(b,d,r):=⟨_,_,_,rfl⟩;have a:r≠-1:=by
   have a:=zcZ ((i+fs.length-h.toNat)%fs.length) (2*fs.length) fs h.toNat c (by have:=Yo (i+fs.length-h.toNat) (show 0<fs.length by omega);omega) (by
    rw[Nat.add_mod_mod,show h.toNat+(i+fs.length-h.toNat)=i+fs.length by omega,Nat.add_mod_right,Yb e,gD,j]
    exact f)
   rw[g]at a;exact a
  obtain⟨a,a,a⟩:=zat (2*fs.length) fs fs h.toNat (zbn.refl fs) c b d r g
  rcases a with a|⟨k,q,rfl,l,a,a,rfl⟩
  ·grind
  grind[zas]
theorem zeu{e:En}(a:enW e=0):∀(l:List (Nat×Nat)){m:Ma},(∀s∈m.sp,Qc s.tb)->(∀x∈l,x.1<m.sp.length/\x.2<64)->QA m e l=j6 m e l
 |[],m,_,_=>rfl
 |x::l,m,c,b=>by
  obtain⟨d,f⟩:=b x (Ym ..)
  show QA (jp m x.1 (x.2:Int) e) e l=j6 (zab m x.1 x.2 e) e l
  rw[Qz c d f a];exact zeu a l (zcr c a) (fun y a=>by rw[zbx];exact b y (List.mem_cons_of_mem _ a))
theorem zge{e:En}:∀(l:List (Nat×Nat)){m m0:Ma},m.sp=m0.sp->(j6 m e l).sp=(j6 m0 e l).sp
 |[],_,_,h=>h
 |x::l,m,m0,h=>zge l (m:=zab m x.1 x.2 e) (m0:=zab m0 x.1 x.2 e) (by unfold zab;simp only;rw[h])
theorem za7(h:Rt m){k:Nat}{fr:Fr}(b:m.fs[k]?=Xa fr)(a:fr.r≠0):0<=fr.r/\fr.r<=1000/\jW m.fs m.aB (k:Int) (-fr.r)=0:=by
 obtain⟨a,c⟩:=zba ((jj h.parts.1).2.1 fr (mG b));refine⟨a,c,?_⟩;have a:m.fs.getD k fr0=fr:=by rw[gD,b];rfl
 have c:=(gS.1 b).1;unfold jW;rw[kE h.parts.1,tN,a]
 grind[inB]
theorem zjg{m0:Ma}(h:Rt m0)(b:m.sp=m0.sp)(c:m.fs=m0.fs)(g:m.aB=m0.aB){k:Nat}{fr:Fr}(f:m0.fs[k]?=Xa fr)(a:fr.r≠0){e:En}(d:enW e=0):
  zac m k fr.r e={m with fs:=m.fs.set k frF,sp:=m.sp.map (j7 (k:Int) e)}:=by
 obtain⟨_,_,c⟩:=za7 h f a;have i:∀s∈m.sp,Qc s.tb:=fun s a=>h.tb (Ry b a)
 have c:qW m 1 (k:Int) m.sp.length=qW m0 1 (k:Int) m0.sp.length:=by unfold qW;rw[b]
 have a:∀x∈qW m0 1 (k:Int) m0.sp.length,x.1<m.sp.length/\x.2<64:=fun x g=>by
  obtain⟨j,j,_⟩:=(Jp (m:=m0) Dc (nR _)).1 g
  grind
 have g:(j6 m e (qW m0 1 (k:Int) m0.sp.length)).sp=m.sp.map (j7 (k:Int) e):=by rw[zge _ b,zom h d,b]
 have b:m0.fs.getD k fr0=fr:=by rw[gD,f];rfl
 unfold zac;rw[c,zeu d _ i a,zcR]
 grind[Qv,tN,frH,frF]
def Jf(k:Nat)(fr:Fr)(l:List (Nat×Nat))(q:Nat)(s:Sp)(a:Ar)(n:Nat):Bool:=decide ((qg a n).file=fr.f)&&decide ((qg a n).aI=fr.x)&&!(l.contains (q,n))&&(decide ((zl s n).kind=0)||isE (zl s n) 1 (k:Int))
def zf7(m:Ma)(k:Nat)(fr:Fr)(l:List (Nat×Nat)):Bool:=(List.range m.sp.length).any fun q=>(m.sp.getD q ⟨Xd,[],[]⟩).aE.any fun a=>(List.range 64).any fun n=>Jc a n&&Jf k fr l q (m.sp.getD q ⟨Xd,[],[]⟩) a n
theorem zaN{k:Nat}{fr:Fr}{l:List (Nat×Nat)}{q:Nat}{s:Sp}{a:Ar}{n:Nat}:Jf k fr l q s a n=Xc↔ziO k fr l q s a n:=by
 unfold Jf ziO
 simp[and_assoc]
theorem zcN{k:Nat}{fr:Fr}{l:List (Nat×Nat)}:zf7 m k fr l=Xc↔∃(q:Nat)(s:Sp)(i:Nat)(a:Ar)(n:Nat),m.sp[q]?=Xa s/\s.aE[i]?=Xa a/\Jc a n=Xc/\n<64/\ziO k fr l q s a n:=by
 unfold zf7;constructor
 ·intro h;obtain⟨q,d,h⟩:=Xt.1 h;obtain⟨a,b,h⟩:=Xt.1 h;obtain⟨n,e,h⟩:=Xt.1 h;obtain⟨i,c⟩:=Xy b;have b:=Xz.1 d;have d:=gE b;rw[Sp.aP d]at c h;rw[Bool.and_eq_true]at h;exact⟨q,_,i,a,n,d,c,h.1,Xz.1 e,zaN.1 h.2⟩
 rintro⟨q,s,i,a,n,b,c,d,e,f⟩;refine Xt.2 ⟨q,Xz.2 (gS.1 b).1,?_⟩;rw[Sp.aP b];refine Xt.2 ⟨a,mG c,Xt.2 ⟨n,Xz.2 e,?_⟩⟩;rw[Bool.and_eq_true];exact⟨d,zaN.2 f⟩
def zg1(m:Ma)(fr:Fr):List Int:=Zm (pgL fr.p) fr.x (Z4 m fr.f)
def QM(m:Ma):Nat:=m.sl.findIdx isZ
def zak(m:Ma)(k:Nat)(fr:Fr):Bool×Ma:=if QM m<m.sl.length then(Xc,ZJ m k (QM m) fr.r (qJ m.sb m.sq) (qI m.sq (QM m:Int) (pgL fr.p)))else(Xd,m)
def zdn(m:Ma)(k:Nat)(fr:Fr)(l:List (Nat×Nat)):Bool×Ma:=
 if zg1 m fr≠pgL fr.p/\zf7 m k fr l=Xc then(Xd,m)
 else if fr.d=Xc\/qF m fr.f fr.x≠zg1 m fr then
  (if jM m.fl m.cnt fr.f fr.x=0 then(Xc,qh (wrM m (zg1 m fr) fr.f fr.x) k)else if qF m fr.f fr.x=zg1 m fr then(Xc,qh m k)else(Xd,m))
 else(Xc,qh m k)
def jq(m:Ma)(k:Nat)(fr:Fr)(l:List (Nat×Nat)):Bool×Ma:=if fr.f=-1 then zak m k fr else zdn m k fr l
def ZL:Nat->Ma->List (Nat×Nat)->Bool×Ma
 |0,m,_=>(Xd,m)
 |n+1,m,l=>
  if J0 m.fs m.aB<0 then(Xd,jv m)
  else if(jq (jv m) (J0 m.fs m.aB).toNat (z3 (jv m) (J0 m.fs m.aB)) l).1=Xc then jq (jv m) (J0 m.fs m.aB).toNat (z3 (jv m) (J0 m.fs m.aB)) l
  else ZL n (jv m) l
def jP(m:Ma)(l:List (Nat×Nat)):Bool×Ma:=ZL (2*m.fs.length) m l
section
variable{m:Ma}{k:Nat}{fr:Fr}
theorem Rt.frw(h:Rt m)(a:m.fs[k]?=Xa fr):frW fr=0:=(jj h.parts.1).2.1 fr (mG a)
theorem zkg(S:Nat->Nat->Prop)(f:Rt m){a:List Fr}(h:zbn m.fs a):Z3 S m {m with fs:=a}:=by
 have j:∀i,i<=m.fs.length->Z3 S m {m with fs:=a.take i++m.fs.drop i}:=by
  intro i
  induction i with
  |zero=>
   intro _;have:a.take 0++m.fs.drop 0=m.fs:=Sm
   rw[this];exact Z3.refl f
  |succ i b=>
   intro c;have g:=b Wm
   obtain⟨q,l⟩:∃q,m.fs[i]?=Xa q:=⟨_,gE Wm⟩
   obtain⟨c,b,k⟩:=h.2 i q l;have e:=h.1;have e:(a.take i).length=i:=by rw[Xu];omega
   have r:(a.take i++m.fs.drop i)[i]?=Xa q:=by grind
   have n:a.take (i+1)++m.fs.drop (i+1)=(a.take i++m.fs.drop i).set i c:=by
    rw[List.set_append,kF Wm,e,Oi,Yf,b,Yw]
    congr 1
    rw[List.drop_eq_getElem_cons (by omega:i<m.fs.length),sZ]
    rfl
   rw[n]
   by_cases n:q.r=0
   ·have p:=zmG (f.frw l) n;have b:c=q:=by
     rcases k with e|e
     ·exact e
     rw[e,p];rfl
    have f:(a.take i++m.fs.drop i).set i c=a.take i++m.fs.drop i:=by
     rw[b]
     apply Ye
     intro a
     by_cases e:i=a
     ·grind
     grind
    rw[f];exact g
   have b:c={q with u:=c.u,d:=q.d}:=by
    rcases k with e|e
    ·rw[e]
    rw[e];rfl
   rw[b];exact g.trans (zeh S g.rt r n c.u q.d)
 have:=j m.fs.length (nR _);rw[List.drop_length,List.append_nil,Xv (by rw[h.1];exact nR _)]at this
 exact this
theorem zkh{fs a:List Fr}(d:zbn fs a):qE a=qE fs:=by
 unfold qE;have b:a.map (fun f=>decide (f.r=0))=fs.map (fun f=>decide (f.r=0)):=by
  apply Ye
  intro i;rw[Yv,Yv]
  cases c:fs[i]? with
  |none=>
   have:a[i]?=Xb:=by rw[List.getElem?_eq_none_iff]at c⊢;rw[d.1];exact c
   rw[this]
  |some q=>
   obtain⟨a,b,a⟩:=d.2 i q c;rw[b]
   rcases a with e|e<;>rw[e]<;>rfl
 have a:=congrArg (List.countP id) b;rw[List.countP_map,List.countP_map]at a;exact a
theorem zgq(S:Nat->Nat->Prop)(h:Rt m):Z3 S m (jv m)/\qE (jv m).fs=qE m.fs/\((J0 m.fs m.aB=-1/\qE m.fs=m.fs.length)\/∃(k:Nat)(fr:Fr),J0 m.fs m.aB=(k:Int)/\(jv m).fs[k]?=Xa fr/\fr.r≠0):=by
 have c:=h.parts.1;obtain⟨a,a,a,a⟩:=jj c;have a:zbE m.fs m.aB=(zas m.fs m.aB).1:=kE c;have b:zcY m.fs m.aB=((zas m.fs m.aB).2.1:Int):=kE c;have d:zbn m.fs (zbE m.fs m.aB)/\0<=zcY m.fs m.aB/\zcY m.fs m.aB<max (m.fs.length:Int) 1:=by
  rw[a,b]
  by_cases a:m.fs.length=0
  ·have:zas m.fs m.aB=(m.fs,m.aB.toNat,-1):=by unfold zas;rw[a];rfl
   rw[this];exact⟨zbn.refl _,by simp only;omega,by simp only;omega⟩
  obtain⟨a,b,r,e⟩:∃a b r,jw (2*m.fs.length) m.fs m.aB.toNat=(a,b,r):=⟨_,_,_,rfl⟩;obtain⟨f,g,_⟩:=zat _ m.fs m.fs m.aB.toNat (zbn.refl _) Wm a b r e
  have:zas m.fs m.aB=(a,b,r):=e;rw[this];have:=f.1
  grind
 obtain⟨a,e,f⟩:=d;have b:=zkg S h a;have d:Z3 S {m with fs:=zbE m.fs m.aB} (jv m):=zmz S b.rt e (by show _<max ((zbE m.fs m.aB).length:Int) 1;rw[a.1];exact f)
 refine⟨b.trans d,zkh a,?_⟩
 rcases zee c with⟨a,b⟩|⟨k,q,a,b,b,b,b,e6⟩
 ·grind
 exact .inr ⟨k,frU q,a,b,by show q.r≠0;omega⟩
theorem zpF(a:QM m<m.sl.length):m.sl[QM m]?=Xa 0:=by
 have b:(m.sl[QM m]==0)=Xc:=Oe (w:=a);rw[gE a,eq_of_beq b]
theorem zlK(S:Nat->Nat->Prop)(h:Rt m)(d:m.fs[k]?=Xa fr)(c:fr.f=-1)(e:fr.r≠0):Z3 S m (zak m k fr).2:=by
 unfold zak
 by_cases b:QM m<m.sl.length
 ·rw[kE b];have a:=h.inv.bM;have a:zn m.sb.length m.sq ((QM m:Nat):Int)=0:=by
   unfold zn;rw[kE h.inv.sq,kE (by simp[ZF];omega)]
  exact zlM S h d c e (zpF b) (ZN _ _) (ZS a) (zdY a).2 (fun i _ b=>zag a b)
 grind[Z3.refl]
theorem zhv(S:Nat->Nat->Prop)(h:Rt m){c:Ca}{F:Fl}(t:c∈m.ca)(hi:zdG m c k fi ix fr F)(a:jM m.fl m.cnt fr.f fr.x=0)(pg):∃b:Nat,wrM m pg fr.f fr.x=zby m fi ix F (b:Int) (qJ m.db m.dq) (qI m.dq (b:Int) pg)/\Z3 S m (zby m fi ix F (b:Int) (qJ m.db m.dq) (qI m.dq (b:Int) pg))/\qw (qJ m.db m.dq) (qI m.dq (b:Int) pg) (b:Int)=pg/\(b:Int)<m.cnt/\(∀(i j:Nat)g,m.fl[i]?=Xa g->g.bl[j]?=Xa (b:Int)->i=fi/\j=ix):=by
 have e:=a;rw[hi.ff,hi.fx]at a;obtain⟨b,l,f,n,p,q⟩:=zpn h hi.fl hi.bl a;obtain⟨a,a,r⟩:=qN h.inv.aW;have a:=h.inv.cnt;have a:zn m.db.length m.dq (b:Int)=0:=by
  unfold zn;rw[kE h.inv.aW,kE (by simp[ZF];omega)]
 have d:=h.inv.st;have s:wrM m pg fr.f fr.x=zby m fi ix F (b:Int) (qJ m.db m.dq) (qI m.dq (b:Int) pg):=by
  unfold wrM zby;rw[kE e,hi.ff,hi.fx,f,n,p]
  grind[qR,qQ]
 have f:stW (m.fl.set fi ⟨F.size,F.bl.set ix (b:Int)⟩) m.cnt=0/\(∀x,z4 (m.fl.set fi ⟨F.size,F.bl.set ix (b:Int)⟩) x=Xc↔(z4 m.fl x=Xc/\x≠-1)\/x=(b:Int)\/(x=-1/\z4 (m.fl.set fi ⟨F.size,F.bl.set ix (b:Int)⟩) x=Xc))/\(F.bl[ix]?=Xa (b:Int)\/z4 m.fl (b:Int)=Xd)/\∀(i j:Nat)g,m.fl[i]?=Xa g->g.bl[j]?=Xa (b:Int)->i=fi/\j=ix:=by
  rcases q with e|⟨e,j⟩
  ·obtain⟨n,p,q⟩:=zhe d hi.fl e
   grind
  obtain⟨n,p,q,n⟩:=zhf d hi.fl e j
  grind
 obtain⟨u1,u2,u3,u4⟩:=f;refine⟨b,s,zk9 S h hi.fl u1 u2 (ZN _ _) (ZS a) (zfQ _ _ r) (fun q e=>?_) (fun i d=>zag a d) u3 ⟨c,t,hi.file,hi.idx⟩ u4,(zdY a).2,l,u4⟩
 unfold qI at e
 grind[List.mem_append.1,Od,Yn]
theorem zcw(h:Rt m)(a:m.fs[k]?=Xa fr)(b:fr.f≠-1):∃(i:Nat)(c:Ca)(b d:Nat)(F:Fl),m.ca[i]?=Xa c/\zdG m c k b d fr F:=by
 have e:0<=fr.f:=by
  have:=h.frw a
  grind[frW,inB]
 obtain⟨i,c,g,j,j,j⟩:=ziC h a e;obtain⟨j,b,d,f,F,b⟩:=zfB h.w (mG g);have e:j=k:=Hm b.fr
 subst e;have:=b.fa.symm.trans a
 grind
theorem zm0(h:Rt m)(d:m.fs[k]?=Xa fr)(b:fr.f≠-1)(f:fr.r≠0)(l:List (Nat×Nat)):Z3 (fun q j=>(q,j)∈l) m (zdn m k fr l).2:=by
 obtain⟨i,c,a,a,F,c,a⟩:=zcw h d b;have x:=mG c;have b:=(gS.1 a.fl).1;have b:Z4 m fr.f=F.size:=by unfold Z4;rw[a.ff,tN,gD,a.fl];rfl
 have g:0<=fr.f:=by rw[a.ff];omega
 unfold zdn
 by_cases p:zg1 m fr≠pgL fr.p/\zf7 m k fr l=Xc
 ·grind[Z3.refl]
 rw[kF p];have e:Zm (pgL fr.p) fr.x (Z4 m fr.f)=pgL fr.p\/∀(q:Nat)s(i:Nat)c(n:Nat),m.sp[q]?=Xa s->s.aE[i]?=Xa c->Jc c n=Xc->n<64->¬ziO k fr l q s c n:=by
  by_cases b:zg1 m fr=pgL fr.p
  ·exact .inl b
  exact .inr fun q s i c n r t u v w=>p ⟨b,zcN.2 ⟨q,s,i,c,n,r,t,u,v,w⟩⟩
 by_cases b:fr.d=Xc\/qF m fr.f fr.x≠zg1 m fr
 ·rw[kE b]
  by_cases c:jM m.fl m.cnt fr.f fr.x=0
  ·rw[kE c];obtain⟨i,i,n,p,_⟩:=zhv (fun q j=>(q,j)∈l) h x a c (zg1 m fr)
   simp only;rw[i];refine zfO n a.fl a.bl d a.ff a.fx f ?_ e;rw[p];unfold zg1;rw[a.fx,a.ff]
  rw[kF c]
  by_cases a:qF m fr.f fr.x=zg1 m fr
  ·rw[kE a];exact zeZ h d g f a e
  grind[Z3.refl]
 rw[kF b];exact zeZ h d g f (Classical.byContradiction fun a=>b (.inr a)) e
theorem zkR(h:Rt m)(a:m.fs[k]?=Xa fr)(b:fr.r≠0)(l:List (Nat×Nat)):Z3 (fun q j=>(q,j)∈l) m (jq m k fr l).2:=by grind[jq,zlK,zm0]
theorem zlr(m:Ma)(pg)(a b:Int):(wrM m pg a b).fs=m.fs:=(zls _ _ _ _).1
theorem zjv(m:Ma)(k:Nat)(fr)(l:List (Nat×Nat)):((jq m k fr l).1=Xc/\(jq m k fr l).2.fs=m.fs.set k frF)\/((jq m k fr l).1=Xd/\(jq m k fr l).2=m):=by
 unfold jq
 split
 ·unfold zak
  split
  ·exact .inl ⟨rfl,rfl⟩
  grind
 grind[zdn,qh,zlr]
theorem zdf(l:List (Nat×Nat)):∀(n:Nat){m:Ma},Rt m->Z3 (fun q j=>(q,j)∈l) m (ZL n m l).2/\qE (ZL n m l).2.fs=qE m.fs+((ZL n m l).1).toNat
 |0,m,h=>⟨Z3.refl h,rfl⟩
 |n+1,m,h=>by
  obtain⟨a,d,b⟩:=zgq (fun q j=>(q,j)∈l) h
  unfold ZL
  rcases b with⟨b,_⟩|⟨k,f,b,c,e⟩
  ·rw[kE Wm]
   exact⟨a,d⟩
  rw[kF Wm,b,tN,zX c]
  rcases zjv (jv m) k f l with⟨b,f⟩|⟨b,f⟩
  ·rw[kE b];refine⟨a.trans (zkR a.rt c e l),?_⟩;rw[b,f,zoy c e,d];rfl
  rw[kF (by rw[b];decide)]
  obtain⟨b,c⟩:=zdf l n a.rt;exact⟨a.trans b,by rw[c,d]⟩
theorem zdd(h:Rt m)(l:List (Nat×Nat)):Z3 (fun q j=>(q,j)∈l) m (jP m l).2/\qE (jP m l).2.fs=qE m.fs+((jP m l).1).toNat:=zdf l _ h
end
end
section
theorem zqm(h:Rt m){q n:Nat}{s:Sp}(b:m.sp[q]?=Xa s)(r:n<64):zkT m q (n:Int)=Q7 m q n:=by
 have D:∀s∈m.sp,Qc s.tb:=fun s b=>h.tb b
 have A:=(gS.1 b).1;obtain⟨e,d⟩:=kB (zl s n);have g:QH m q (n:Int)=e:=by unfold QH;rw[Sp.aP b,Js r,d]
 have x:m.sp.getD q ⟨Xd,[],[]⟩=s:=Sp.aP b;unfold zkT Q7;rw[g];simp only[x,d]
 by_cases i:e.kind=1
 ·obtain⟨k,t,f,c,l,w⟩:=h.aY b r (Rx d i)
  rw[d]at f l;obtain⟨B,C⟩:=h.refs c;have y:=(gS.1 c).1;have a:m.fs.getD k fr0=t:=by rw[gD,c];rfl
  have p:Qj m e (-1)={m with fs:=m.fs.set k (QS t)}:=by
   have u:jW m.fs m.aB e.n (-1)=0:=by
    unfold jW;rw[kE h.parts.1,f,tN,a]
    grind[inB]
   grind[Qj,Qv,zmt,tN,frH,QS]
  grind[tN,Qz,QS,QB]
 rw[kF i]
 by_cases j:e.kind=2
 ·rw[kE j];obtain⟨k,z,f,c,l,w,_⟩:=h.bW b r (Rx d j)
  rw[d]at f l;obtain⟨B,C⟩:=h.slots c;have a:m.sl.getD k 0=z:=by rw[gD,c];rfl
  have p:Qj m e (-1)={m with sl:=m.sl.set k (z-1)}:=by
   have v:atS m.sl e.n=z:=by unfold atS;rw[f,kE Wm,tN,a]
   have u:jZ m.sl e.n (-1)=0:=by
    unfold jZ;rw[kE h.parts.2,v,kF Wm,kE Wm]
   grind[Qj,ZK,tN]
  grind[tN,Qz,QB]
 grind[Qj,Qz,QB]
end
section
open Go.RowKit
def zfm(fs:List Fr):Nat:=fs.countP fun a=>a.r==0
theorem zkB{fs:List Fr}{k:Nat}{q:Fr}(h:fs[k]?=Xa q):zfm (fs.take (k+1))=zfm (fs.take k)+if q.r=0 then 1 else 0:=by
 obtain⟨a,rfl⟩:=gS.1 h;rw[List.take_succ_eq_append_getElem a];unfold zfm;rw[List.countP_append,Yh,List.countP_nil];simp
theorem zgu(a)(c:Nat)(fs:List Fr)(h:Int)(w)(g:zj z9 w (O a fs.length c) fs):
  Xp prog 222 #[Xi #[O a fs.length c,I6 h]] w fun e w'=>e=Xl (I6 (zfm fs))/\zc w w':=by
 have d:=g.short;obtain⟨b,b,f,b⟩:=g.bC;cases f;have i:=dD b;clear b g;obtain⟨n,l⟩:=kA fs.length;rw[l.out]at d⊢;obtain⟨f,b⟩:=kB (w.alloc (Xk #[O a n c,I6 h] 32));have h:=gA b
 have d:=dD b;clear b
 go_enter func222,ntmps222
 go_wp2;rw[d.out]
 go_loopg[3,5,9] n (fun d g _ j wr=>∃(b m:Nat),b<=n/\n-b<=d/\m<=b/\j=I6 b/\g=I6 m/\Xo (zc f wr)/\Xo (zfm (fs.take b)=m))
 exact⟨0,0,nZ _,Wm,nR _,rfl,rfl,zc.refl _,rfl⟩
 obtain⟨b,m,d,d,d,rfl,rfl,k,A⟩:=hrel
 by_cases d:b<n
 ·have j:=kC d
  obtain⟨q,f⟩:∃q,Xo (fs[b]?=Xa q):=⟨_,gE (Rx l.out d)⟩
  obtain⟨g,rfl,g⟩:=i.out b q f.out;obtain⟨i,i,i,i,i,i,i,i,i,i,i,i,i⟩:=g wr (h.trans k);have i:=dD<|zkB f.out;clear g
  by_cases f:q.r=0
  ·have g:Xo (zfm (fs.take (b+1))=m+1):=dD<|by rw[i.out,A.out,kE f]
   have p:(q.r==0)=Xc:=by simp[f]
   have r:=dD f;clear f;go_wp2
   go_roundg (n-(b+1));exact⟨b+1,m+1,Wm,Wm,Wm,Gn,Gn,k.trans (za _ _),g⟩;omega
  have g:Xo (zfm (fs.take (b+1))=m):=dD<|by rw[i.out,A.out,kF f];rfl
  have p:(q.r==0)=Xd:=by simp[f]
  go_wp2
  go_roundg (n-(b+1));exact⟨b+1,m,Wm,Wm,Wm,Gn,rfl,k.trans (za _ _),g⟩;omega
 have j:=kD d
 have:b=n:=Wm
 subst this;have g:Xo (zfm fs=m):=dD<|by rw[<-A.out,Xv (by rw[l.out];exact nR _)]
 go_wp2;go_ret;exact⟨Rr g.out,h.trans k⟩
def isF(a:Fr):Bool:=a.r==0
def frT(p:Pg)(fi ix:Int):Fr:=⟨p,1,Xc,Xd,fi,ix⟩
theorem zlH(q:Fr)(w:Xn):
  Xp prog 237 #[Xi (frv q).toArray] w fun e w'=>e=Xl (Xh (isF q))/\zc w w':=by
 show Xp prog 237 #[Xi #[U8 q.p.b0,U8 q.p.b1,U8 q.p.b2,U8 q.p.b3,U8 q.p.b4,U8 q.p.b5,U8 q.p.b6,U8 q.p.b7,I6 q.r,Xh q.u,Xh q.d,I6 q.f,I6 q.x]] w _
 go_enter func237,ntmps237
 go_wp2;go_ret;exact⟨rfl,(bR _ _).alloc (nR _) _⟩
def zpf(fs:List Fr):Int:=if fs.findIdx isF<fs.length then(fs.findIdx isF:Int)else-1
theorem zkL{fs:List Fr}{k:Nat}{q:Fr}(h:fs[k]?=Xa q)(b:isF q=Xc)(a:∀(j:Nat)x,j<k->fs[j]?=Xa x->isF x=Xd):fs.findIdx isF=k:=by grind[gS.1,List.findIdx_eq,gE]
theorem zkK{fs:List Fr}(a:∀(j:Nat)x,fs[j]?=Xa x->isF x=Xd):fs.findIdx isF=fs.length:=by
 grind[List.findIdx_eq_length.2,Xy]
theorem zc7(v fs w)(c:zj z9 w v fs):
  Xp prog 236 #[v,.func (.func 237) #[] #[]] w fun e w'=>e=Xl (I6 (zpf fs))/\zc w w':=by
 have b:=c.short;obtain⟨a,a,rfl,a⟩:=c.bC;have f:=dD a;have d:=enters_of func237 Kr rfl
 clear a c;obtain⟨n,l⟩:=kA fs.length;rw[l.out]at b⊢
 go_enter func236,ntmps236
 go_wp2
 go_loopg[5,8] n (fun a _ c wr=>∃b:Nat,b<=n/\n-b<=a/\c=I6 b/\Xo (zc w wr)/\Xo (∀j q,j<b->fs[j]?=Xa q->isF q=Xd))
 exact⟨0,nZ _,Wm,rfl,zc.refl w,fun j q h=>absurd h (nL _)⟩
 obtain⟨b,a,a,rfl,k,A⟩:=hrel
 by_cases c:b<n
 ·have i:=kC c
  obtain⟨q,p⟩:∃q,Xo (fs[b]?=Xa q):=⟨_,gE (Rx l.out c)⟩
  obtain⟨a,rfl,d⟩:=f.out b q p.out;obtain⟨a,a,a,a,a,a,a,a,a,a,a,a,a⟩:=d wr k.out;have a:=zlH q wr
  clear d
  cases g:isF q with
  |true=>
   rw[g]at a;have m:Xo (zpf fs=(b:Int)):=dD<|by unfold zpf;rw[zkL p.out g A.out,l.out,kE c]
   clear g
   go_wp2_with(go_at_call 237;refine a.mono ?_;rintro e w'⟨rfl,d⟩)
   go_ret;exact⟨Rr m.out,k.trans d⟩
  |false=>
   rw[g]at a;have r:Xo (∀(j:Nat)q,j<b+1->fs[j]?=Xa q->isF q=Xd):=dD<|fun j s h f=>by
    by_cases e:j=b
    ·subst e;rw[p.out]at f;cases f;exact g
    exact A j s Wm f
   clear g
   go_wp2_with(go_at_call 237;refine a.mono ?_;rintro e w'⟨rfl,d⟩)
   go_roundg (n-(b+1));exact⟨b+1,Wm,Wm,Gn,k.trans d,r⟩;omega
 have i:=kD c
 have:b=n:=Wm
 subst this;have m:Xo (zpf fs=-1):=dD<|by
  unfold zpf;rw[zkK (fun j q h=>A.out j q (by rw[<-l.out];exact(gS.1 h).1) h),kF (Nat.lt_irrefl _)]
 go_wp2;go_ret;exact⟨Rr m.out,k⟩
theorem zrl(a)(c:Nat)(fs:List Fr)(h:Int)(p)(fi ix:Int)(w:Xn)(i:zj z9 w (O a fs.length c) fs)(l:j4 fs h=0)(g:frW (frT p fi ix)=0)(k:Nat)(m:zpf fs=(k:Int))(s:k<fs.length):
  Xp prog 223 #[Xi #[O a fs.length c,I6 h],Xi (pgv p).toArray,I6 fi,I6 ix] w fun e w'=>∃b,e=Xl (Xm #[Xi #[b,I6 h],I6 (k:Int),I6 0])/\zb z9 w.heap.size w' b (fs.set k (frT p fi ix))/\zc w w':=by
 have d:=dD i;have j:∀W,zc w W->Xp prog 58 #[Xi #[O a fs.length c,I6 h]] W fun e w'=>e=Xl (I6 (j4 fs h))/\zc W w':=fun W f=>by rw[l];exact ZQ a c fs h W (d.aA f) l
 have t:∀W,Xp prog 108 #[Xi #[U8 p.b0,U8 p.b1,U8 p.b2,U8 p.b3,U8 p.b4,U8 p.b5,U8 p.b6,U8 p.b7,I6 1,Xh Xc,Xh Xd,I6 fi,I6 ix]] W fun e w'=>e=Xl (I6 (frW (frT p fi ix)))/\zc W w':=fun W=>by rw[g];exact zaG (frT p fi ix) W g
 have q:∀W,zc w W->Xp prog 236 #[O a fs.length c,.func (.func 237) #[] #[]] W fun e w'=>e=Xl (I6 (zpf fs))/\zc W w':=fun W f=>zc7 _ fs W (d.aA f)
 have z:∀W,zc w W->Xp prog 51 #[Xi #[O a fs.length c,I6 h]] W fun e w'=>∃b,e=Xl (Xi #[b,I6 h])/\zb z9 W.heap.size w' b fs/\zc W w':=fun W f=>Qq a c fs h W (d.aA f)
 clear i;obtain⟨n,i⟩:=kA fs.length;simp only[i.out]at j q z d⊢;simp only[l]at j;clear l;simp only[g]at t;clear g;simp only[m]at q;clear m;rw[i.out]at s;have f:(k:Int)<(n:Int):=Wm
 have f:n<=9223372036854775807:=by have:=d.short;rw[i.out]at this;exact this
 show Xp prog 223 #[Xi #[O a n c,I6 h],Xi #[U8 p.b0,U8 p.b1,U8 p.b2,U8 p.b3,U8 p.b4,U8 p.b5,U8 p.b6,U8 p.b7],I6 fi,I6 ix] w _
 obtain⟨l,d⟩:=kB (((w.alloc (Xk #[O a n c,I6 h] 32)).alloc (Xk #[U8 p.b0,U8 p.b1,U8 p.b2,U8 p.b3,U8 p.b4,U8 p.b5,U8 p.b6,U8 p.b7] 91)).alloc (Xk #[eS,I6 0] 32));have g:Xo (zc w l):=dD<|by rw[<-d];exact((za _ _).trans (za _ _)).trans (za _ _)
 have m:Xo (Box l w.heap.size [O a n c,I6 h]):=dD<|by rw[<-d];exact((Box.aD w _ _ rfl).alloc _).alloc _
 have f:Xo (Box l (w.heap.size+1) [U8 p.b0,U8 p.b1,U8 p.b2,U8 p.b3,U8 p.b4,U8 p.b5,U8 p.b6,U8 p.b7]):=dD<|by rw[<-d];exact(Box.aD _ _ _ Sm).alloc _
 have G:Xo (Box l (w.heap.size+2) [eS,I6 0]):=dD<|by rw[<-d];exact Box.aD _ _ _ Sm
 have r:=dD d;clear d
 go_enter func223,ntmps223
 go_upto_region 1 with fail;rw[r.out];obtain⟨r,x⟩:=m.k2;go_wp2_with fail;refine(j _ g).mono ?_;rintro e y⟨rfl,u⟩;have d:=dD u;clear u r x j;have A:=(f.aA d).c 0 rfl;have B:=(f.aA d).c 1 rfl;have C:=(f.aA d).c 2 rfl;have D:=(f.aA d).c 3 rfl;have F:=(f.aA d).c 4 rfl;have H:=(f.aA d).c 5 rfl;have K:=(f.aA d).c 6 rfl;have L:=(f.aA d).c 7 rfl;go_wp2_with fail;refine(t _).mono ?_;rintro e f⟨rfl,j⟩;have u:=dD<|(Box.aD y [U8 p.b0,U8 p.b1,U8 p.b2,U8 p.b3,U8 p.b4,U8 p.b5,U8 p.b6,U8 p.b7,I6 1,Xh Xc,Xh Xd,I6 fi,I6 ix] _ rfl).aA j;have f:=dD ((d.trans (za _ _)).trans j);clear j A B C D F H K L t;have r:=(m.aA f).c 0 rfl;go_wp2_with fail;refine(q _ (g.trans f)).mono ?_;rintro e K⟨rfl,t⟩;have j:=dD (f.trans t);have d:=u.aA t;clear t r q;have q:=dD d;obtain⟨r,x⟩:=(m.aA j).k2;go_wp2_with fail;refine(z _ (g.trans j)).mono ?_;rintro e F⟨b,rfl,f,m⟩;obtain⟨t,H,rfl⟩:=f.aJ (by rw[i.out];omega)
 rw[i.out]at f⊢;have D:=dD f;have u:=dD (j.trans m);have d:=dD (q.aA m);have y:=dD<|bS m;have A:=q.lt;clear f m r x z;have m:=d.lt;have L:=d.c 0 rfl;have M:=d.c 1 rfl;have N:=d.c 2 rfl;have P:=d.c 3 rfl;have Q:=d.c 4 rfl;have R:=d.c 5 rfl;have S:=d.c 6 rfl;have T:=d.c 7 rfl;have U:=d.c 8 rfl;have V:=d.c 9 rfl;have z:=d.c 10 rfl;have B:=d.c 11 rfl;have C:=d.c 12 rfl;have d:=D.lt t rfl
 go_wp2_with(refine z7 (E:=z9) rfl (.tmp 44) (.tmp 43) rfl K.heap.size _ fs (D.aA (za _ _)) t k rfl (frT p fi ix) (Rx i.out s) _ rfl (by simp[z9]) _ rfl rfl ?_)
 intro s q f x;have r:=dD q;have d:=y.out;have d:=bS u.out;have d:=bS j.out;have d:=G.lt;have j:Xo (Box s F.heap.size [O (Xa ⟨t,0,Xb⟩) n H,I6 h]):=(Box.aD F _ _ rfl).beside f (fun y d=>by cases d;omega)
 have i:Xo (Box s (w.heap.size+2) [eS,I6 0]):=((G.aA u).alloc _).beside f (fun y d=>by cases d;omega)
 have D:Xo (zc l s):=zT (u.trans (za _ _)) f (fun y d=>by cases d;omega)
 clear q f x L M N P Q R S T U V z B C A m;obtain⟨d,d⟩:=j.k2;obtain⟨d,d⟩:=i.k2;have d:=i.f;go_wp2;refine bodyPost_ret (v:=Xm #[Xi #[O (Xa ⟨t,0,Xb⟩) n H,I6 h],I6 (k:Int),I6 0]) (by simp[results,Tryz.results223,go_sem, *]) rfl ⟨_,rfl,?_,?_⟩
 ·exact((r.setCell (a:=⟨w.heap.size+2,0,Xb⟩) (by show w.heap.size+2<_;omega) _).setCell (a:=⟨w.heap.size+2,1,Xb⟩) (by show w.heap.size+2<_;omega) _).base (Hm (bS g.out))
 exact zG (zG (g.trans D) (by simp;omega) _) (by simp;omega) _
theorem zk.far{p:Nat}{V':MaV}{w:Xn}(k:zk (Dw p V) w w1)(f:∀k,Dw p V' k->Dw p V k\/w.heap.size<=k)(a:zk (Dw p V') w1 W):zk (Dw p V) w W:=
 ⟨a.os.trans k.os,a.tape.trans k.tape,a.output.trans k.output,nT k.size a.size,fun b c d=>(a.block b (Ya c k.size) (fun e=>by grind)).trans (k.block b c d)⟩
theorem zmZ(h:Rt m){q n:Nat}{s:Sp}(e:m.sp[q]?=Xa s)(d:n<64):(QH m q (n:Int)).kind=1->jW m.fs m.aB (QH m q (n:Int)).n (-1)=0:=by
 have a:QH m q (n:Int)=zl s n:=by unfold QH;rw[Sp.aP e,Js d]
 rw[a];intro j;obtain⟨k,g,f,b,l,p⟩:=h.aY e d j;obtain⟨r,t⟩:=h.refs b;have i:=(gS.1 b).1;have c:m.fs.getD k fr0=g:=by rw[gD,b];rfl
 unfold jW;rw[kE h.parts.1,f,tN,c]
 grind[inB]
theorem zb6:∀(l:List (Nat×Nat))(m:Ma)(x:Nat×Nat),zi m (l++[x])=Q7 (zi m l) x.1 x.2
 |[],_,_=>rfl
 |y::l,m,x=>zb6 l (Q7 m y.1 y.2) x
theorem zoz(fs:List Fr):zfm fs=qE fs:=rfl
def ZE(fs:List Fr):Nat:=fs.findIdx isF
theorem zde{fs:List Fr}(h:0<qE fs):zpf fs=(ZE fs:Int)/\ZE fs<fs.length/\∃fr,fs[ZE fs]?=Xa fr/\fr.r=0:=by
 have a:fs.findIdx isF<fs.length:=by
  obtain⟨x,c,b⟩:=List.countP_pos_iff.1 h
  grind[List.findIdx_lt_length_of_exists,isF]
 refine⟨kE a,a,fs[fs.findIdx isF],gE a,?_⟩
 grind[isF,Oe]
def qd(m:Ma)(l:List (Nat×Nat)):Bool×Ma:=if qE m.fs=0 then jP m l else(Xc,m)
def zaL(m:Ma)(x:Fr)(l:List (Nat×Nat)):Bool×Nat×Ma:=
 if(qd (zi m l) l).1=Xc then(Xc,ZE (qd (zi m l) l).2.fs,{(qd (zi m l) l).2 with fs:=(qd (zi m l) l).2.fs.set (ZE (qd (zi m l) l).2.fs) x})else(Xd,0,(qd (zi m l) l).2)
theorem zaO(h:Rt m)(l:List (Nat×Nat)):Z3 (fun q j=>(q,j)∈l) m (qd m l).2/\((qd m l).1=Xc->0<qE (qd m l).2.fs)/\((qd m l).1=Xd->qE m.fs=0/\qE (qd m l).2.fs=0):=by
 unfold qd
 split
 ·grind[zdd]
 rename_i a
 exact⟨Z3.refl h,fun _=>Og a,fun e=>by cases e⟩
section
variable{m:Ma}{k q n:Nat}{fr:Fr}
theorem ze3{fs:List Fr}{h:Int}{i:Nat}{x:Fr}(b:j4 fs h=0)(k:frW x=0):j4 (fs.set i x) h=0:=by
 obtain⟨c,d,e,f⟩:=jj b;have a:zfK (fs.set i x)=0:=Qx.2 fun g j=>by grind
 unfold j4;rw[Yc,kF Wm,kE a,kE]
 simp[inB]
 omega
theorem zqf{x:Fr}{a:Int}(h:frW x=0)(b:x.r≠0)(c:0<a)(d:a<=1000):frW {x with r:=a}=0:=by grind[frW,inB]
theorem zia(c:j4 m.fs m.aB=0)(b:m.fs[k]?=Xa fr)(h:0<fr.r)(i:fr.r<1000)(t:∀s∈m.sp,Qc s.tb)(p:q<m.sp.length)(l:n<64):
  jW m.fs m.aB (k:Int) 1=0/\zbK m q (n:Int) (k:Int)=Q6 m k q n/\j4 (Q6 m k q n).fs (Q6 m k q n).aB=0/\(Q6 m k q n).fs[k]?=Xa {fr with r:=fr.r+1}/\(∀s∈(Q6 m k q n).sp,Qc s.tb)/\(Q6 m k q n).sp.length=m.sp.length:=by
 have g:=(gS.1 b).1;have f:m.fs.getD k fr0=fr:=by rw[gD,b];rfl
 have d:=(jj c).1;have j:enW ⟨1,(k:Int),Xd⟩=0:=zb4 ⟨by simp only;omega,by simp only;omega⟩ ⟨by simp only;omega,by simp only;omega,fun _=>by simp only;omega⟩ Sm
 have e:jW m.fs m.aB (k:Int) 1=0:=by grind[jW,tN,inB]
 have a:Q6 m k q n=zab {m with fs:=m.fs.set k {fr with r:=fr.r+1}} q n ⟨1,(k:Int),Xd⟩:=by grind[Q6,zX]
 refine⟨e,?_,?_,?_,?_,?_⟩
 ·grind[JN,zbK,Qj,jp,Qv,zmt,Qz,frH]
 ·rw[a];exact ze3 c (zqf ((jj c).2.1 fr (mG b)) Wm Wm Wm)
 ·rw[a]
  show(m.fs.set k _)[k]?=_
  grind
 ·grind[zcr]
 rw[a,zbx]
theorem zb0:∀(l:List (Nat×Nat))(m:Ma)(x:Nat×Nat),zF m k (l++[x])=Q6 (zF m k l) k x.1 x.2
 |[],_,_=>rfl
 |y::l,m,x=>zb0 l (Q6 m k y.1 y.2) x
theorem zqU(y:j4 m.fs m.aB=0)(B:m.fs[k]?=Xa fr)(L:0<fr.r)(w:∀s∈m.sp,Qc s.tb){l:List (Nat×Nat)}(C:∀x∈l,x.2<64/\x.1<m.sp.length)(P:fr.r+l.length<=1000):∀j,j<=l.length->
  j4 (zF m k (l.take j)).fs (zF m k (l.take j)).aB=0/\(zF m k (l.take j)).fs[k]?=Xa {fr with r:=fr.r+(j:Int)}/\(∀s∈(zF m k (l.take j)).sp,Qc s.tb)/\(zF m k (l.take j)).sp.length=m.sp.length/\
  ∀x,l[j]?=Xa x->jW (zF m k (l.take j)).fs (zF m k (l.take j)).aB (k:Int) 1=0/\zF m k (l.take (j+1))=zbK (zF m k (l.take j)) x.1 (x.2:Int) (k:Int)/\x.1<(zF m k (l.take j)).sp.length:=by
 have a:∀(j:Nat)(M:Ma),j4 M.fs M.aB=0->M.fs[k]?=Xa {fr with r:=fr.r+(j:Int)}->(∀s∈M.sp,Qc s.tb)->M.sp.length=m.sp.length->zF m k (l.take j)=M->∀x,l[j]?=Xa x->jW M.fs M.aB (k:Int) 1=0/\zF m k (l.take (j+1))=zbK M x.1 (x.2:Int) (k:Int)/\x.1<M.sp.length/\j4 (zF m k (l.take (j+1))).fs (zF m k (l.take (j+1))).aB=0/\(zF m k (l.take (j+1))).fs[k]?=Xa {fr with r:=fr.r+((j+1:Nat):Int)}/\(∀s∈(zF m k (l.take (j+1))).sp,Qc s.tb)/\(zF m k (l.take (j+1))).sp.length=m.sp.length:=by
  intro j M g b h i E x c;obtain⟨z,F⟩:=C x (mG c);have A:=(gS.1 c).1;obtain⟨d,e,f,G,H,K⟩:=zia (q:=x.1) (n:=x.2) g b (by simp only;omega) (by simp only;omega) h Wm z
  grind[zF,Q6,Yf,zb0]
 intro j
 induction j with
 |zero=>
  intro _;have b:m.fs[k]?=Xa {fr with r:=fr.r+((0:Nat):Int)}:=by
   rw[B];have:fr.r+((0:Nat):Int)=fr.r:=Wm
   rw[this]
  refine⟨y,b,w,rfl,fun x c=>?_⟩
  obtain⟨d,e,f,_⟩:=a 0 m y b w rfl rfl x c;exact⟨d,e,f⟩
 |succ j D=>
  intro N;obtain⟨g,b,h,i,_⟩:=D Wm
  obtain⟨_,_,_,p,t,u,v⟩:=a j _ g b h i rfl _ (gE Wm)
  refine⟨p,t,u,v,fun x c=>?_⟩
  obtain⟨d,e,f,_⟩:=a (j+1) _ p t u v rfl x c;exact⟨d,e,f⟩
def J4(m:Ma)(pg:Pg)(l:List (Nat×Nat)):Bool×Nat×Ma:=
 if(qd (zi m l) l).1=Xc then(Xc,ZE (qd (zi m l) l).2.fs,zoQ (qd (zi m l) l).2 (ZE (qd (zi m l) l).2.fs) pg Xc l)else(Xd,0,(qd (zi m l) l).2)
def q9(m:Ma)(pg:Pg)(file idx:Int)(l:List (Nat×Nat)):Bool×Nat×Ma:=
 if(qd (zi m l) l).1=Xc then(Xc,ZE (qd (zi m l) l).2.fs,zF (zhb (qd (zi m l) l).2 (ZE (qd (zi m l) l).2.fs) pg Xc Xd file idx) (ZE (qd (zi m l) l).2.fs) l)else(Xd,0,(qd (zi m l) l).2)
theorem zfn{pg:Pg}{fi ix:Int}(h:(fi=-1/\ix=0)\/(0<=fi/\fi<5/\0<=ix/\ix<12)):frW (frT pg fi ix)=0:=by
 have a:(frT pg fi ix).r=1:=rfl;refine zgJ ⟨by rw[a];decide,?_,?_,(fun e=>absurd e (by rw[a];decide)),?_⟩ (by rw[a];decide)
 ·show 0<=ix/\ix<12
  omega
 ·show fi=-1\/(0<=fi/\fi<5)
  omega
 show fi=-1->ix=0
 omega
theorem zk2{a:Ma}(h:Rt a)(q:a.fs[k]?=Xa fr)(pg:Pg){l:List (Nat×Nat)}(y:∀x∈l,x.2<64/\x.1<a.sp.length)(z:l≠[])(E:l.length<=900):
  (∀j,j<=l.length->(zF {a with fs:=a.fs.set k (frT pg (-1) 0)} k (l.take j)).sp.length=a.sp.length/\∀x,l[j]?=Xa x->jW (zF {a with fs:=a.fs.set k (frT pg (-1) 0)} k (l.take j)).fs (zF {a with fs:=a.fs.set k (frT pg (-1) 0)} k (l.take j)).aB (k:Int) 1=0/\zF {a with fs:=a.fs.set k (frT pg (-1) 0)} k (l.take (j+1))=zbK (zF {a with fs:=a.fs.set k (frT pg (-1) 0)} k (l.take j)) x.1 (x.2:Int) (k:Int)/\x.1<(zF {a with fs:=a.fs.set k (frT pg (-1) 0)} k (l.take j)).sp.length)/\
  jW (zF {a with fs:=a.fs.set k (frT pg (-1) 0)} k l).fs (zF {a with fs:=a.fs.set k (frT pg (-1) 0)} k l).aB (k:Int) (-1)=0/\({zF {a with fs:=a.fs.set k (frT pg (-1) 0)} k l with fs:=Qv (zF {a with fs:=a.fs.set k (frT pg (-1) 0)} k l).fs (zF {a with fs:=a.fs.set k (frT pg (-1) 0)} k l).aB (k:Int) (-1)}:Ma)=zoQ a k pg Xc l:=by
 have w:=(gS.1 q).1;have u:frT pg (-1) 0=⟨pg,1,Xc,Xd,-1,0⟩:=rfl;have d:({a with fs:=a.fs.set k (frT pg (-1) 0)}:Ma).fs[k]?=Xa (frT pg (-1) 0):=by grind
 have B:j4 (a.fs.set k (frT pg (-1) 0)) a.aB=0:=ze3 h.parts.1 (zfn (.inl ⟨rfl,rfl⟩));have J:=zqU (m:={a with fs:=a.fs.set k (frT pg (-1) 0)}) (l:=l) B d (show(0:Int)<1 by decide) (fun F A=>h.tb A) y (by show(1:Int)+_<=1000;omega)
 refine⟨fun j p=>⟨(J j p).2.2.2.1,(J j p).2.2.2.2⟩,?_⟩
 obtain⟨f,b,_⟩:=J l.length (nR _);rw[List.take_length]at f b;have t:0<l.length:=List.length_pos_iff.2 z;have c:(zF {a with fs:=a.fs.set k (frT pg (-1) 0)} k l).fs.getD k fr0={frT pg (-1) 0 with r:=(frT pg (-1) 0).r+(l.length:Int)}:=by rw[gD,b];rfl
 have s:=(gS.1 b).1;have i:jW (zF {a with fs:=a.fs.set k (frT pg (-1) 0)} k l).fs (zF {a with fs:=a.fs.set k (frT pg (-1) 0)} k l).aB (k:Int) (-1)=0:=by
  unfold jW;rw[kE f,tN,c];have e:({frT pg (-1) 0 with r:=(frT pg (-1) 0).r+(l.length:Int)}:Fr).r=1+(l.length:Int):=rfl;rw[e];have v:(inB (k:Int) (zF {a with fs:=a.fs.set k (frT pg (-1) 0)} k l).fs.length&&!((1+(l.length:Int))==0))=Xc:=by
   simp[inB]
   omega
  rw[v,kE rfl,kE Wm]
 refine⟨i,?_⟩;obtain⟨C,x,D,g,_,_,_,_,e7,_⟩:=JN i;have:C=k:=Wm
 subst this;rw[b]at g;cases g;rw[e7];have n:=zoP q pg Xc l;rw[<-u]at n;rw[n];unfold zoQ;have:frH {frT pg (-1) 0 with r:=(frT pg (-1) 0).r+(l.length:Int)} (-1)=⟨pg,(l.length:Int),Xc,Xd,-1,0⟩:=by
  unfold frH;have e:({frT pg (-1) 0 with r:=(frT pg (-1) 0).r+(l.length:Int)}:Fr).r=1+(l.length:Int):=rfl;rw[e,kF Wm]
  have:(1:Int)+(l.length:Int)+-1=(l.length:Int):=Wm
  rw[this];rfl
 rw[this];simp only[List.set_set]
end
variable{X:Nat->Prop}
def zb9(a b:Int):Int:=if a<b then-1 else if b<a then 1 else 0
def znJ(c d:Ca):Int:=zC [zb9 c.file d.file,zb9 c.idx d.idx]
theorem zoT{c d:Ca}(a:0<=c.idx/\c.idx<100)(b:0<=d.idx/\d.idx<100):(znJ c d<0↔qp c<qp d)/\(znJ c d=0↔qp c=qp d):=by grind[znJ,zC,zb9,qp]
theorem zI.callF{P:Program}{a:Act}{w:Xn}{K:Xq->Xn->Prop}{f:FuncId}{xs:List Operand}{ts:Array TypeId}{caps:Array Xq}{fn:Func}(x args)
  (ho:o.op=.call {callee:=.value x,args:=xs.toArray,argTypes:=ts})(hx:a.eval x=.func (.func f) #[] caps)(hf:P.funcs[f]?=some fn)(hb:fn.body.isNone=false)(hn:(fn.name=="runtime.NumGoroutine")=false)
  (ha:xs.map a.eval=args)(h:Xp P f (args.toArray++caps) w fun e w'=>∃v,e=Xl v/\K v w'):zI P o a w K:=by
 have hr:(execOp a.eval o).run P w=.ok (.enter f (args.toArray++caps)) w:=by
  simp only[execOp,ho,resolve,hx,List.map_toArray,ha,Deferred.ofValue,pure_bind,invoke];have hn':fn.name≠"runtime.NumGoroutine":=by simpa using hn
  have hb':fn.body≠Xb:=fun e=>by rw[e]at hb;cases hb
  simp[callFunc,hf,hb',hn',program,Yg,Sem.run]
 unfold zI;rw[hr];exact h
def zb1(ca:List Ca)(t:Ca):Bool:=ca.any fun c=>decide (qp c=qp t)
theorem zhV{t:Ca}:∀{ca:List Ca}{i:Nat},i<=ca.length->(∀(j:Nat)c,j<i->ca[j]?=Xa c->qp c<qp t)->(∀c,ca[i]?=Xa c->¬qp c<qp t)->zbA ca t=i
 |[],i,hi,_,_=>by
  have:i=0:=Si hi
  subst this;rfl
 |a::l,0,_,_,b=>by
  unfold zbA;rw[Yk,kF (Si (b a rfl))]
  rfl
 |a::l,i+1,hi,e,b=>by
  have f:=zhV (t:=t) (ca:=l) (i:=i) (Si hi) (fun j c d d=>e (j+1) c Wm (Rx Xs d)) (fun c d=>b c (Rx Xs d))
  unfold zbA at f⊢;rw[Yk,kE (Si (e 0 a Wm rfl)),Yi,f]
theorem zp5{ca:List Ca}{t:Ca}{i:Nat}(f:ca.Pairwise fun a b=>qp a<qp b)(d:∀(j:Nat)c,j<i->ca[j]?=Xa c->qp c<qp t)(e:∀c,ca[i]?=Xa c->¬qp c<qp t):zb1 ca t=match ca[i]? with|some c=>decide (qp c=qp t)|none=>Xd:=by
 grind[zb1,qp,Xt,Xy,Nat.lt_trichotomy,gS.1,Yj.1,gE]
theorem zmh(a:Int)(w):Xp prog 235 #[I6 a] w fun e w'=>e=Xl (Xh Xd)/\w'=w:=by
 have h:(a !=a)=Xd:=Sm
 go_enter func235,ntmps235
 go_wp2;go_ret
 first|exact⟨rfl,rfl⟩|exact⟨by rw[h],rfl⟩
theorem zdt(a b:Int)(w):Xp prog 221 #[I6 a,I6 b] w fun e w'=>e=Xl (I6 (zb9 a b))/\w'=w:=by
 have h:=zmh a w;have i:=zmh b w
 by_cases f:a<b
 ·have d:Xo (zb9 a b=-1):=dD<|by unfold zb9;rw[kE f]
  have g:decide (a<b)=Xc:=decide_eq_true f
  go_enter func221,ntmps221
  go_wp2_with fail;refine h.mono ?_;rintro e W⟨rfl,c⟩;rw[c];go_wp2_with fail;refine i.mono ?_;rintro e W⟨rfl,c⟩;rw[c];go_wp2;go_ret;exact⟨Rr d.out,rfl⟩
 have g:decide (a<b)=Xd:=decide_eq_false f
 by_cases g:b<a
 ·have d:Xo (zb9 a b=1):=dD<|by unfold zb9;rw[kF f,kE g]
  have j:decide (b<a)=Xc:=decide_eq_true g
  go_enter func221,ntmps221
  go_wp2_with fail;refine h.mono ?_;rintro e W⟨rfl,c⟩;rw[c];go_wp2_with fail;refine i.mono ?_;rintro e W⟨rfl,c⟩;rw[c];go_wp2;go_ret;exact⟨Rr d.out,rfl⟩
 have d:Xo (zb9 a b=0):=dD<|by unfold zb9;rw[kF f,kF g]
 have j:decide (b<a)=Xd:=decide_eq_false g
 go_enter func221,ntmps221
 go_wp2_with fail;refine h.mono ?_;rintro e W⟨rfl,c⟩;rw[c];go_wp2_with fail;refine i.mono ?_;rintro e W⟨rfl,c⟩;rw[c];go_wp2;go_ret;exact⟨Rr d.out,rfl⟩
theorem zl8(v l w)(s:zj blE w v l):
  Xp prog 220 #[v] w fun e w'=>e=Xl (I6 (zC l))/\w'=w:=by
 have g:=s.short;obtain⟨G,H,rfl,b⟩:=s.bA;have z:=dD b;clear b s;obtain⟨n,m⟩:=kA l.length;rw[m.out]at g⊢;obtain⟨F,k⟩:=kA (zC l);rw[k.out]
 go_enter func220,ntmps220
 go_wp2
 go_loopg[5,8] n (fun B _ E wr=>∃a:Nat,a<=n/\n-a<=B/\E=I6 a/\wr=w/\Xo (∀(j:Nat)x,j<a->l[j]?=Xa x->x=0))
 exact⟨0,nZ _,Wm,rfl,rfl,fun j x t=>absurd t (nL _)⟩
 obtain⟨a,D,C,rfl,rfl,A⟩:=hrel
 by_cases c:a<n
 ·have h:=kC c
  obtain⟨q,p⟩:∃q,Xo (l[a]?=Xa q):=⟨_,gE (Rx m.out c)⟩
  obtain⟨x,rfl,u⟩:=z.out a q p.out;have K:=u wr (zc.refl _);clear u
  by_cases d:q=0
  ·have r:(q !=0)=Xd:=by simp[d]
   have y:Xo (∀(j:Nat)x,j<a+1->l[j]?=Xa x->x=0):=dD<|fun j x t f=>by
    by_cases e:j=a
    ·subst e;rw[p.out]at f;cases f;exact d
    exact A j x Wm f
   clear d;go_wp2
   go_roundg (n-(a+1));exact⟨a+1,Wm,Wm,Gn,rfl,y⟩;omega
  have r:(q !=0)=Xc:=by simp[d]
  have i:Xo (F=q):=dD<|by rw[<-k.out];exact zdh A p d
  clear d;go_wp2;go_ret;exact⟨Rr i.out,rfl⟩
 have h:=kD c
 have:a=n:=Wm
 subst this;have i:Xo (F=0):=dD<|by
  rw[<-k.out];exact zdi fun j x f=>A.out j x (by rw[<-m.out];exact(gS.1 f).1) f
 go_wp2;go_ret;exact⟨Rr i.out,rfl⟩
theorem zj7(c d:Ca)(w):Xp prog 219 #[Xi #[I6 c.file,I6 c.idx,I6 c.fr],Xi #[I6 d.file,I6 d.idx,I6 d.fr]] w fun e w'=>e=Xl (I6 (znJ c d))/\zc w w':=by
 obtain⟨E,a⟩:=kA (znJ c d);have j:Xo (zC [zb9 c.file d.file,zb9 c.idx d.idx]=E):=a.out;rw[a.out];obtain⟨b,f,i⟩:=c;obtain⟨g,h,l⟩:=d;simp only at j⊢;obtain⟨k,a⟩:=kB ((w.alloc (Xk #[I6 b,I6 f,I6 i] 105)).alloc (Xk #[I6 g,I6 h,I6 l] 105));have n:=gD2 a
 have l:=x2a a
 have m:=x2b a
 have i:Xo (_=k):=a;clear a
 go_enter func219,ntmps219
 go_upto_region 1 with fail;rw[i.out];have q:=l.gw 0 rfl
 have r:=l.gw 1 rfl
 have s:=m.gw 0 rfl
 have t:=m.gw 1 rfl
 have p:Nonempty (zf k):=⟨⟨_,zc.refl _⟩⟩;refine qq [(4,⟨fun a=>a=I6 (zb9 b g),fun a w'=>True⟩),(9,⟨fun a=>a=I6 (zb9 f h),fun a w'=>True⟩),(10,⟨fun a=>∃i,a=O (Xa ⟨i,0,Xb⟩) 2 2,fun a w'=>zj blE w' a [zb9 b g,zb9 f h]⟩),(11,⟨fun a=>a=I6 E,fun a w'=>True⟩)] zU Kr (Sd ⟨_,rfl⟩ ⟨_,rfl⟩ ⟨_,0,rfl⟩ ⟨_,rfl⟩) ?hp ?_
 case hp=>
  intro x a;simp only[mC,nM,or_false]at a
  rcases a with rfl|rfl|rfl|rfl
  ·exact fun _ _ _ _ a=>a
  ·exact fun _ _ _ _ a=>a
  ·exact fun _ _ _ k a=>zj.aA a k
  exact fun _ _ _ _ a=>a
 iterate 4 refine ze ?_
 refine zz rfl rfl (fun w' k i=>?_) (fun u a=>?_)
 ·refine zI.call [I6 b,I6 g] rfl func221 rfl rfl rfl ?_;refine(zdt b g w').mono ?_;rintro e m⟨rfl,rfl⟩;exact⟨_,rfl,zc.refl _,rfl,trivial⟩
 subst a;refine Uq ?_;iterate 4 refine ze ?_
 refine zz rfl rfl (fun w' k i=>?_) (fun u a=>?_)
 ·refine zI.call [I6 f,I6 h] rfl func221 rfl rfl rfl ?_;refine(zdt f h w').mono ?_;rintro e m⟨rfl,rfl⟩;exact⟨_,rfl,zc.refl _,rfl,trivial⟩
 subst a;refine Uq ?_;refine zz rfl rfl (fun w' k i=>?_) (fun u a=>?_)
 ·have l:zj blE (w'.alloc (Xk #[I6 (zb9 b g),I6 (zb9 f h)] 3)) (O (Xa ⟨w'.heap.size,0,Xb⟩) 2 2) [zb9 b g,zb9 f h]:=zeS blE w' [zb9 b g,zb9 f h] _ rfl (show 2*8<=140737488355328 by decide)
  refine zI.step (v:=O (Xa ⟨w'.heap.size,0,Xb⟩) 2 2) (w':=w'.alloc (Xk #[I6 (zb9 b g),I6 (zb9 f h)] 3)) (by simp only[execOp];go_simp) ⟨za _ _,⟨_,rfl⟩,l⟩
 obtain⟨l,rfl⟩:=a;refine Uq ?_;refine zz rfl rfl (fun w' k i=>?_) (fun u a=>?_)
 ·have k:zj blE w' (O (Xa ⟨l,0,Xb⟩) 2 2) [zb9 b g,zb9 f h]:=i 10 Kr
  refine zI.call [O (Xa ⟨l,0,Xb⟩) 2 2] rfl func220 rfl rfl rfl ?_;refine(zl8 _ _ w' k).mono ?_;rintro e m⟨rfl,rfl⟩;exact⟨_,rfl,zc.refl _,by rw[j.out],trivial⟩
 subst a;refine Uq ?_;refine ze ?_
 refine zH fun a a i=>?_
 have b:=dD (n.trans a);clear a i q r s t p;go_wp2;go_ret;exact⟨rfl,b⟩
theorem ziF(v)(ca:List Ca)(t:Ca)(w)(a3:zj jR w v ca)(g:ca.Pairwise fun a b=>qp a<qp b)(hi:∀c∈ca,0<=c.idx/\c.idx<100)(l:0<=t.idx/\t.idx<100)(d:ca.length<=1000):
  Xp prog 218 #[v,Xi #[I6 t.file,I6 t.idx,I6 t.fr],.func (.func 219) #[] #[]] w fun e w'=>e=Xl (Xm #[I6 (zbA ca t:Int),Xh (zb1 ca t)])/\zc w w':=by
 obtain⟨a,c,rfl,f⟩:=a3.cas;have an:=dD f;have q:=dD g
 have ae:Xo (∀c∈ca,(znJ c t<0↔qp c<qp t)/\(znJ c t=0↔qp c=qp t)):=dD<|fun c p=>zoT (hi c p) l
 have h:=enters_of func219 Kr rfl
 obtain⟨U,X⟩:=kA ca.length;rw[X.out]at d⊢;obtain⟨P,k⟩:=kA (zbA ca t);obtain⟨ac,h⟩:=kA (zb1 ca t);rw[k.out,h.out];have a5:Xo (∀(i j:Nat)x y,ca[i]?=Xa x->ca[j]?=Xa y->i<=j->qp x<=qp y):=dD<|fun i j x y K n d=>by
  obtain⟨m,r⟩:=gS.1 K;obtain⟨s,u⟩:=gS.1 n
  rcases Nat.lt_or_eq_of_le d with F|F
  ·have:=Yj.1 g i j m s F;rw[r,u]at this;omega
  subst F;rw[K]at n;cases n;exact Int.le_refl _
 obtain⟨A,B,C⟩:=t;obtain⟨m,d⟩:=kA (qp ⟨A,B,C⟩);have a8:∀(x:Ca)(W:Xn),Xp prog 219 #[Xi #[I6 x.file,I6 x.idx,I6 x.fr],Xi #[I6 A,I6 B,I6 C]] W fun e w'=>e=Xl (I6 (znJ x ⟨A,B,C⟩))/\zc W w':=fun x W=>zj7 x ⟨A,B,C⟩ W
 rw[d.out]at ae;have a4:Xo (∀i,i<=U->(∀(j:Nat)x,j<i->ca[j]?=Xa x->qp x<m)->(∀(j:Nat)x,i<=j->ca[j]?=Xa x->m<=qp x)->P=i/\ac=match ca[i]? with|some x=>decide (qp x=m)|none=>Xd):=dD<|fun i K n F=>by
  rw[<-k.out,<-h.out,<-d.out];rw[<-d.out]at n F;exact⟨zhV (Rx X.out K) n (fun x d=>Hm (F i x (nR _) d)),zp5 q n (fun x d=>Hm (F i x (nR _) d))⟩
 clear a3 g hi l f;simp only;obtain⟨b,h⟩:=kA w.heap.size;obtain⟨f,f⟩:=kB (w.alloc (Xk #[I6 A,I6 B,I6 C] 105));have i:=gA f
 have k:=xP f h
 have g:=dD f;clear f
 go_enter func218,ntmps218
 go_upto_region 1 with fail;rw[g.out,h.out];go_wp2
 go_loopg[9,10] U (fun g l f wr=>∃h hi:Nat,l=I6 h/\f=I6 hi/\h<=hi/\hi<=U/\hi-h<=g/\Xo (zc w wr)/\Xo (Box wr b [I6 A,I6 B,I6 C])/\Xo ((∀(j:Nat)x,j<h->ca[j]?=Xa x->qp x<m)/\(∀(j:Nat)x,hi<=j->ca[j]?=Xa x->m<=qp x)))
 exact⟨0,U,rfl,rfl,nZ _,nR _,Wm,i,k,⟨fun j x ai=>absurd ai (nL _),fun j x K n=>by have:=(gS.1 n).1;have:=X.out;omega⟩⟩
 obtain⟨h,hi,rfl,rfl,f,a9,aq,G,E,ab⟩:=hrel;obtain⟨ak,al,am⟩:=E.c3
 by_cases f:h<hi
 ·obtain⟨r,D⟩:∃r,Xo (ca[(h+hi)/2]?=Xa r):=⟨_,gE (Hm X.out)⟩
  obtain⟨l,rfl,M⟩:=an.out _ r D.out;obtain⟨Y,I,a0⟩:=M wr G.out;have p:=a8 r;have g:(h+hi)/2<U:=Wm
  obtain⟨s,u,z⟩:=r;simp only at p Y I a0;obtain⟨Z,a6⟩:=kA (znJ ⟨s,u,z⟩ ⟨A,B,C⟩);rw[a6.out]at p;have a7:Xo (Z<0↔qp ⟨s,u,z⟩<m):=dD<|by rw[<-a6.out];exact(ae _ (mG D)).1
  obtain⟨i,f⟩:=kA ((h+hi)/2);rw[f.out]at Y I a0 g D;have g:Xo (∀W,zc wr W->znD W (l.add (i*3)) ⟨s,u,z⟩):=dD<|fun W ah=>by have:=M W (G.trans ah);rw[f.out]at this;exact this
  clear M Y I a0 ak al am;go_upto_region 5 with fail;rw[show((h:Int)+(hi:Int))/2=(i:Int) by have:=f.out;omega]
  have k:(i:Int)<(U:Int):=Wm
  have R:=fun y:zf wr=>(g _ y.aA).1
  have S:=fun y:zf wr=>(g _ y.aA).2.1
  have T:=fun y:zf wr=>(g _ y.aA).2.2
  have N:=E.gw 0 rfl
  have P:=E.gw 1 rfl
  have Q:=E.gw 2 rfl
  have q:Nonempty (zf wr):=⟨⟨_,zc.refl _⟩⟩;refine qq [(6,⟨fun v=>v=I6 Z,fun v w'=>True⟩)] zU Kr (Sa ⟨_,rfl⟩) ?hp ?_
  case hp=>
   intro x d;simp only[mC,nM,or_false]at d;subst d;exact fun _ _ _ _ ag=>ag
  iterate 6 refine ze ?_
  refine zz rfl rfl (fun w' aq L=>?_) (fun ar a3=>?_)
  ·refine zI.callF (.tmp 24) [Xi #[I6 s,I6 u,I6 z],Xi #[I6 A,I6 B,I6 C]] rfl rfl func219 rfl rfl rfl ?_;refine(p w').mono ?_;rintro e aj⟨rfl,k⟩;exact⟨_,rfl,k,rfl,trivial⟩
  subst a3;refine Uq ?_;refine ze ?_
  refine zH fun ao k L=>?_
  have V:=dD (G.trans k);have ap:=dD (E.aA k);clear k p L R S T N P Q q
  by_cases aa:Z<0
  ·have H:=dD aa;go_wp2
   go_roundg (hi-(i+1))
   case measure=>have:=f.out;omega
   have af:Xo ((∀(j:Nat)x,j<i+1->ca[j]?=Xa x->qp x<m)/\(∀(j:Nat)x,hi<=j->ca[j]?=Xa x->m<=qp x)):=dD<|⟨fun j x ai d=>by
    have K:=a5.out j _ x _ d D Wm
    have n:=a7.1 H.out
    omega,ab.2⟩
   exact⟨i+1,hi,Gn,rfl,Hm f.out,a9,nR _,V,ap,af⟩
  have H:=dD aa;go_wp2
  go_roundg (i-h)
  case measure=>have:=f.out;omega
  have af:Xo ((∀(j:Nat)x,j<h->ca[j]?=Xa x->qp x<m)/\(∀(j:Nat)x,i<=j->ca[j]?=Xa x->m<=qp x)):=dD<|⟨ab.1,fun j x ai d=>by
   have K:=a5.out _ j _ x D d Wm
   have n:¬qp ⟨s,u,z⟩<m:=fun e=>by have F:=a7.2 e;have j:=H.out;omega
   omega⟩
  exact⟨h,i,rfl,Gn,Hm f.out,Hm f.out,nR _,V,ap,af⟩
 obtain rfl:hi=h:=Wm
 obtain⟨h,f⟩:=a4.out hi a9 ab.1 ab.2;have j:=dD h;clear h
 by_cases m:hi<U
 ·obtain⟨r,D⟩:∃r,Xo (ca[hi]?=Xa r):=⟨_,gE (Hm X.out)⟩
  obtain⟨l,rfl,M⟩:=an.out _ r D.out;obtain⟨Y,I,a0⟩:=M wr G.out;rw[D.out]at f;have p:=a8 r;obtain⟨s,u,z⟩:=r;simp only at p Y I a0 f;obtain⟨Z,a6⟩:=kA (znJ ⟨s,u,z⟩ ⟨A,B,C⟩);rw[a6.out]at p;have i:Xo (ac=(Z==0)):=dD<|by
   rw[f];have:=(ae _ (mG D)).2;rw[a6.out]at this
   by_cases h:Z=0
   ·rw[decide_eq_true (this.1 h),h];rfl
   rw[decide_eq_false (fun e=>h (this.2 e))];simp[h]
  have h:=kC m
  have g:=dD<|fun W(ah:zc wr W)=>M W (G.trans ah)
  clear M f Y I a0 ak al am;go_upto_region 8 with fail;have R:=fun y:zf wr=>(g _ y.aA).1
  have S:=fun y:zf wr=>(g _ y.aA).2.1
  have T:=fun y:zf wr=>(g _ y.aA).2.2
  have N:=E.gw 0 rfl
  have P:=E.gw 1 rfl
  have Q:=E.gw 2 rfl
  have q:Nonempty (zf wr):=⟨⟨_,zc.refl _⟩⟩;refine qq [(11,⟨fun v=>v=I6 Z,fun v w'=>True⟩)] zU Kr (Sa ⟨_,rfl⟩) ?hp ?_
  case hp=>
   intro x d;simp only[mC,nM,or_false]at d;subst d;exact fun _ _ _ _ ag=>ag
  iterate 11 refine ze ?_
  refine zz rfl rfl (fun w' aq L=>?_) (fun ar a3=>?_)
  ·refine zI.callF (.tmp 40) [Xi #[I6 s,I6 u,I6 z],Xi #[I6 A,I6 B,I6 C]] rfl rfl func219 rfl rfl rfl ?_;refine(p w').mono ?_;rintro e aj⟨rfl,k⟩;exact⟨_,rfl,k,rfl,trivial⟩
  subst a3;refine Uq ?_;iterate 4 refine ze ?_
  refine zH fun ao k L=>?_
  have V:=dD (G.trans k);clear k p L R S T N P Q q;go_wp2
  go_ret2
  exact⟨by rw[j.out,i.out];rfl,V⟩
 have h:=kD m
 have i:Xo (ac=Xd):=dD<|by
  rw[f,gN (Hm X.out)]
 clear f ak al am;go_upto_region 8 with fail;have q:Nonempty (zf wr):=⟨⟨_,zc.refl _⟩⟩;refine qq [] zU Kr Sm Sm ?_
 iterate 5 refine ze ?_
 iterate 8 (refine jo Kr ?_;simp only[Xx,sB,sS,sZ])
 iterate 3 refine ze ?_
 refine zH fun ao k L=>?_
 have V:=dD (G.trans k);clear k L q;go_wp2
 go_ret2
 exact⟨by rw[j.out,i.out];rfl,V⟩
theorem QX{w:Xn}{p:Nat}(i:ChW w0 X p w V m)(j:m.ca.Pairwise fun a b=>qp a<qp b)(hi:∀c∈m.ca,0<=c.idx/\c.idx<100)(g:m.ca.length<=1000)(d f:Int)(k:0<=f/\f<100):
  Xp prog 190 #[Xj (Xa ⟨p,0,Xb⟩),I6 d,I6 f] w fun e w'=>e=Xl (Xm #[I6 (zbA m.ca ⟨d,f,0⟩:Int),Xh (zb1 m.ca ⟨d,f,0⟩)])/\zc w w':=by
 have h:=ziF _ m.ca ⟨d,f,0⟩ w i.at.ca j hi k g;simp only at h;have l:=i.box.box.c 9 rfl;obtain⟨P,n⟩:=kA (zbA m.ca ⟨d,f,0⟩);obtain⟨H,l⟩:=kA (zb1 m.ca ⟨d,f,0⟩);rw[n.out,l.out]at h⊢;clear i j hi g k
 go_enter func190,ntmps190
 go_wp2_with fail;refine h.mono ?_;clear h;rintro e d⟨rfl,d⟩;have f:=dD d;clear d;go_wp2
 go_ret2
 exact⟨rfl,f⟩
theorem zb.block{α:Type}{E:Elt α}{base:Nat}{w:Xn}{n cap:Nat}{l:List α}(h:zb E base w (O (Xa ⟨g,0,Xb⟩) n cap) l):
  n=l.length/\base<=g/\l.length<=cap/\cap<=maxLen/\∃cur,w.heap[g]?=Xa (Xk cur E.ty (0,0))/\cur.size=cap*E.k/\cur.toList.take (l.length*E.k)=l.flatMap E.enc:=by
 rcases h.1.2 with⟨b,_⟩|⟨a,a,cur,b,a,a,a,a,a,a⟩
 ·cases b
 grind
theorem zb.mk'{α:Type}{E:Elt α}{base:Nat}{w:Xn}{cap:Nat}{l:List α}{cur:Array Xq}(b:base<=g)(c:w.heap[g]?=Xa (Xk cur E.ty (0,0)))(e:l.length<=cap)(d:cap<=maxLen)(f:cur.size=cap*E.k)(h:cur.toList.take (l.length*E.k)=l.flatMap E.enc)
  (a:l.length*E.bytes<=140737488355328):zb E base w (O (Xa ⟨g,0,Xb⟩) l.length cap) l:=
 ⟨⟨qB E l,.inr ⟨g,cap,cur,rfl,b,c,e,d,f,h⟩⟩,a⟩
theorem zce{α:Type}{E:Elt α}{w:Xn}{rest:List Oper}{a:Act}(j:o.guard=Xb)(s x)(D:o.op=.call {callee:=.builtin .append,args:=#[s,x],argTypes:=#[E.st,E.st]})
  (base g cap n:Nat)(l:List α)(h:zb E base w (O (Xa ⟨g,0,Xb⟩) n cap) l)(i:Nat)(hi:i<=l.length)(F:a.eval s=O (Xa ⟨g,0,Xb⟩) i cap)(r:Addr)(c:List α)(b v:Nat)(H:a.eval x=O (Xa r) b v)(k:b=c.length)
  (f:∀m u,(c.flatMap E.enc)[m]?=Xa u->w.cell? (r.add m)=Xa u)(d:i+c.length<=cap)(e:(i+c.length)*E.bytes<=140737488355328)
  (z:∀w',zb E base w' (O (Xa ⟨g,0,Xb⟩) (i+b) cap) (l.take i++c)->w.grownBy w' (Xa g)->w'.heap.size=w.heap.size->wpList prog ops Q rest (a.put o.dst (O (Xa ⟨g,0,Xb⟩) (i+b) cap)) w'):wpList prog ops Q (o::rest) a w:=by
 subst k;refine wpList_plain j fun K A=>?_
 obtain⟨b,B,t,C,b,y,p,G⟩:=h.block;obtain⟨K,m,h,k,h⟩:=info_parts E.aF;have q:=qB E c;have h:(i+c.length)*E.k<=cap*E.k:=Yr _ d;rw[Nat.add_mul]at h;have j:=run_append_room (P:=prog) w E.st o.type E.ty K E.bT m g i cap b y r c.length v (c.flatMap E.enc) (Rx k q) f (qO E.one c) d (by rw[q,k,p];exact h)
 rw[k]at j;unfold Oper.wp execOp;simp only[D,resolve,invoke,builtin,Yg,Oj,rA,List.map_toArray,mP,Ok,F,H,j];have hlen:(l.take i++c).length=i+c.length:=by rw[lA,Xu];omega
 have h:b.toList.length=cap*E.k:=Si p
 have f:i*E.k<=l.length*E.k:=Yr _ hi;have j:l.length*E.k<=cap*E.k:=Yr _ t;have k:b.toList.take (i*E.k)=(l.take i).flatMap E.enc:=by
  have j:(b.toList.take (l.length*E.k)).take (i*E.k)=b.toList.take (i*E.k):=by rw[List.take_take,Nat.min_eq_left f]
  rw[<-j,G]
  conv=>lhs;rw[<-Oc i l,Yt]
  exact Oa (by rw[qB,Xu,Nat.min_eq_left hi])
 have j:(b.toList.take (i*E.k)).length=i*E.k:=by rw[Xu,h];omega
 have f:=zb.mk' (E:=E) (base:=base) (w:=w.setRow g (b.toList.take (i*E.k)++c.flatMap E.enc++b.toList.drop (i*E.k+(c.flatMap E.enc).length)).toArray) (g:=g) (cap:=cap) (l:=l.take i++c) B (setRow_heap w g b _ E.ty _ y) (by rw[hlen];exact d) C (by
  simp only[Ol,lA,j,q,Yx,h]
  omega) (by
  rw[hlen,Yt,<-k,Nat.add_mul];have:(b.toList.take (i*E.k)++c.flatMap E.enc).length=i*E.k+c.length*E.k:=by rw[lA,j,q]
  simp only;rw[Oa this]) (by rw[hlen];exact e)
 rw[hlen]at f;exact A _ _ (z _ f (jU _ _ _) (by simp[World.setRow]))
theorem zfM(n:Nat):∀u∈(Builtin.zeroCells #[I6 0,I6 0,I6 0] n).toList,u.oneCell'=Xc:=fun u a=>by
 simp only[Builtin.zeroCells,Array.toList_map,Yy,Array.toList_range,Xz]at a;obtain⟨i,_,rfl⟩:=a;have a:i%3<3:=Yo _ Dc
 show(#[I6 0,I6 0,I6 0]:Array Xq)[i%3]!.oneCell'=Xc
 generalize i%3=k at a
 match k,a with
 |0,_=>rfl
 |1,_=>rfl
 |2,_=>rfl
theorem zcI{w:Xn}{rest:List Oper}{a:Act}(b:o.guard=Xb)(x)(z:o.op=.call {callee:=.builtin .clear,args:=#[x],argTypes:=#[42]})
  (base g cap n:Nat)(l:List Ca)(c:zb jR base w (O (Xa ⟨g,0,Xb⟩) n cap) l)(k p:Nat)(A:a.eval x=O (Xa ⟨g,l.length*3,Xb⟩) (k+1) p)(d:l.length+(k+1)<=cap)
  (s:∀w',zb jR base w' (O (Xa ⟨g,0,Xb⟩) n cap) l->w.grownBy w' (Xa g)->w'.heap.size=w.heap.size->wpList prog ops Q rest (a.put o.dst (Xm #[])) w'):wpList prog ops Q (o::rest) a w:=by
 refine wpList_plain b fun K t=>?_
 obtain⟨y,u,m,v,b,q,e,r⟩:=c.block;have d:jR.k=3:=rfl;rw[d]at e r;obtain⟨Z,j⟩:=kB ((Builtin.zeroCells #[I6 0,I6 0,I6 0] (k+1)).toList);have i:Z.length=(k+1)*3:=by
  rw[<-j,Array.length_toList,size_zeroCells];rfl
 have f:∀h∈Z,h.oneCell'=Xc:=by rw[<-j];exact zfM _
 have h:=run_storeCells_at prog g (l.length*3) 105 Z 0 b w q (by rw[i,e];omega) f
 simp only[Yu]at h;have f:(Builtin.clear_ #[42] o.type #[O (Xa ⟨g,l.length*3,Xb⟩) (k+1) p]).run prog w=.ok (Xm #[]) (w.setRow g (b.toList.take (l.length*3)++Z++b.toList.drop (l.length*3+Z.length)).toArray):=by
  simp only[Builtin.clear_]
  simp[run_underlying underlying42,Tryz.zeroValue105,Value.cells,j,h]
 unfold Oper.wp execOp;simp only[z,resolve,invoke,builtin,Yg,Oj,rA,List.map_toArray,mP,Ok,A,f];subst y;have f:b.toList.length=cap*3:=Si e
 refine t _ _ (s _ (zb.mk' u (setRow_heap w g b _ 105 _ q) m v ?_ ?_ c.2) (jU _ _ _) (by simp[World.setRow]))
 ·rw[d];simp only[Ol,lA,Xu,Yx,i,f];omega
 rw[d,Yw,Oa (by rw[Xu,f];omega)]
 exact r
theorem zkP{α:Type}(l:List α)(i:Nat):l.take i++l.drop (i+1)=l.eraseIdx i:=(List.eraseIdx_eq_take_drop_succ ..).symm
theorem zgX(base g cap i:Nat)(l:List Ca)(w:Xn)(a:zb jR base w (O (Xa ⟨g,0,Xb⟩) l.length cap) l)(hi:i<l.length)(b:l.length<=1000):
  Xp prog 213 #[O (Xa ⟨g,0,Xb⟩) l.length cap,I6 i,I6 ((i:Int)+1)] w fun e w'=>e=Xl (O (Xa ⟨g,0,Xb⟩) (l.length-1) cap)/\zb jR base w' (O (Xa ⟨g,0,Xb⟩) (l.length-1) cap) (l.eraseIdx i)/\w.grownBy w' (Xa g):=by
 obtain⟨_,_,d,c,_⟩:=a.block;have f:cap<=9223372036854775807:=by simpa[maxLen]using c
 have j:=dD a;have f:=dD<|zkP l i;have a:Xo ((l.drop (i+1)).length=l.length-(i+1)):=show _=_ from Yx
 obtain⟨n,c⟩:=kA l.length;rw[c.out]at d hi b j a⊢;obtain⟨q,b⟩:∃q,Xo (n=q+1):=⟨n-1,show _=_ by omega⟩
 have d:(i:Int)+1<=(n:Int):=Wm
 have d:(n:Int)<=(cap:Int):=Wm
 have d:¬((i:Int)=(i:Int)+1):=Wm
 have h:((i:Int)==(i:Int)+1)=Xd:=Si d
 have d:(i:Int)<=(i:Int)+1:=Wm
 have d:(i:Int)<=(cap:Int):=Wm
 have d:((i:Int)+1).toNat=i+1:=Wm
 go_enter func213,ntmps213
 go_upto_region 5 with fail;have d:Nonempty (zf w):=⟨⟨_,zc.refl _⟩⟩;refine jc 6 [] zU Kr rfl rfl Dc Sm Sm ?_
 simp only[Yp,Yq];iterate 6 refine ze ?_
 refine zH fun w' p _=>?_
 obtain⟨k,d,m⟩:∃k:Addr,(if cap=i+1 then Xa (⟨g,0,Xb⟩:Addr)else Xa ⟨g,(i+1)*3,Xb⟩)=Xa k/\Xo (¬cap=i+1->k=⟨g,(i+1)*3,Xb⟩):=by
  by_cases e:cap=i+1
  ·exact⟨_,kE e,show _->_ from fun h=>absurd e h⟩
  exact⟨_,kF e,show _->_ from fun _=>rfl⟩
 rw[d];have h:=dD (j.aA p);have r:=dD p;have p:Xo (∀j u,((l.drop (i+1)).flatMap jR.enc)[j]?=Xa u->w'.cell? (k.add j)=Xa u):=show∀j u,_ from fun j u d=>by
  by_cases e:cap=i+1
  ·rw[List.drop_of_length_le (Hm c.out)]at d
   cases d
  rw[m.out e,Xw];have m:(l.flatMap jR.enc)[(i+1)*3+j]?=Xa u:=by
   conv=>lhs;rw[<-Oc (i+1) l,Yt]
   rw[aR (by rw[qB,Xu];show _*3<=_;have:=c.out;omega),qB,Xu,show min (i+1) l.length=i+1 by have:=c.out;omega]
   show((l.drop (i+1)).flatMap jR.enc)[(i+1)*3+j-(i+1)*3]?=_
   rw[Nat.add_sub_cancel_left];exact d
  have:=h.1.cells rfl _ u m;rw[Xw,zA]at this;exact this
 have d:i+(n-(i+1))=q:=Hm b.out
 have j:Xo (i+(l.drop (i+1)).length<=cap/\(i+(l.drop (i+1)).length)*24<=140737488355328):=dD<|by rw[a.out];omega
 have d:Xo ((l.eraseIdx i).length=q):=dD<|by rw[<-f.out,lA,a.out,Xu];have:=c.out;have:=b.out;omega
 go_wp2_with(refine zce (E:=jR) rfl (.tmp 22) (.tmp 25) rfl base g cap n l h i (Hm c.out) rfl k (l.drop (i+1)) (n-(i+1)) (cap-(i+1)) rfl a.symm p j.1 j.2 ?_)
 intro a a c _;rw[f.out]at a;have h:=dD a;have f:=dD c;have a:¬cap=q:=Hm b.out
 have a:(q:Int)<=(n:Int):=Hm b.out
 have a:n-q=0+1:=Hm b.out
 try simp only[Xx,sB,sS,sZ]
 go_wp2_with(refine zcI rfl (.tmp 31) rfl base g cap q (l.eraseIdx i) h 0 (cap-q) (Rr d.out) (by rw[d.out];have:=b.out;omega) ?_)
 intro a c a _;have d:=dD c;have c:=dD<|zaz r (je f a)
 have a:Xo (n-1=q):=dD<|Hm b.out
 go_wp2;go_ret;exact⟨Rr a.out,Rx a.out d,c⟩
variable{X:Nat->Prop}
theorem Rt.cache(h:Rt m):(m.ca.Pairwise fun a b=>qp a<qp b)/\(∀c∈m.ca,0<=c.idx/\c.idx<100)/\m.ca.length<=1000:=by
 obtain⟨d,d,g⟩:=zy.1 h.inv.ca;have d:∀c∈m.ca,0<=c.idx/\c.idx<100/\0<=qp c/\qp c<1000:=fun c e=>by
  obtain⟨k,f,f,f,F,f⟩:=zfB h.w e;have i:=(gS.1 f.fl).1;have i:=((qi _ _).1 h.inv.st).1;have h:=f.idx;have h:=f.file;have h:=f.lo;unfold qp;omega
 refine⟨g,fun c e=>⟨(d c e).1,(d c e).2.1⟩,?_⟩
 have:=zd5 (m.ca.map qp) 0 1000 (by rw[List.pairwise_map];exact g) (fun x d=>by grind)
 rw[Yl]at this;omega
theorem zn3(h:Rt m){i:Nat}{c:Ca}(a:m.ca[i]?=Xa c):zbA m.ca ⟨c.file,c.idx,0⟩=i/\zb1 m.ca ⟨c.file,c.idx,0⟩=Xc:=by
 obtain⟨b,_,_⟩:=h.cache;obtain⟨b,d⟩:=gS.1 a;have a:qp ⟨c.file,c.idx,0⟩=qp c:=rfl;refine⟨zhV (Nat.le_of_lt b) (fun j d a a=>?_) (fun d a=>?_),?_⟩
 ·grind[gS.1,Yj.1]
 ·grind
 grind[zb1,Xt.2,mG]
theorem zgZ{w:Xn}{p:Nat}(l:ChW w0 X p w V m)(g:Rt m)(k:Nat)(f:Fr)(h:m.fs[k]?=Xa f)(L:f.f≠-1)(D:f.r≠0):
  Xp prog 186 #[Xj (Xa ⟨p,0,Xb⟩),I6 (k:Int)] w fun e w'=>(∃v,e=Xl v)/\Chg w0 X p w V (qh m k) w':=by
 obtain⟨j,c,A,u,F,d,a⟩:=zcw g h L;obtain⟨R,S,G⟩:=g.cache;obtain⟨E,F⟩:=zn3 g d;rw[a.file,a.idx]at E F;have t:=(gS.1 d).1;have B:u<=12:=a.lo;have c:=dD<|ziD g h d a.fr
 obtain⟨P,Q,M⟩:=za7 g h D;have z:Xo (∀W,zc w W->Xp prog 190 #[Xj (Xa ⟨p,0,Xb⟩),I6 (A:Int),I6 (u:Int)] W fun e w'=>e=Xl (Xm #[I6 (j:Int),Xh Xc])/\zc W w'):=dD<|fun W i=>by
  have:=QX (l.aA i) R S G (A:Int) (u:Int) Wm
  rw[E,F]at this;exact this
 have q:Xo (qh m k=zac {m with ca:=m.ca.eraseIdx j} k f.r ⟨0,0,Xd⟩):=dD<|by
  rw[show(⟨0,0,Xd⟩:En)=en0 from rfl,zjg (m:={m with ca:=m.ca.eraseIdx j}) g rfl rfl rfl h D QB]
  unfold qh;rw[c.out]
 have n:Xo (∀c i,ChW w0 X p c i {m with ca:=m.ca.eraseIdx j}->Xp prog 214 #[Xj (Xa ⟨p,0,Xb⟩),I6 (k:Int),Xi #[I6 0,I6 0,Xh Xd]] c fun e w'=>(∃v,e=Xl v)/\Chg w0 X p c i (qh m k) w'):=dD<|fun c i c=>by
  rw[q.out];exact zdo c k f h ⟨0,0,Xd⟩ g.inv.aT ⟨P,Q⟩ M
 have H:=dD l;have C:¬Dw p V w.heap.size:=fun e=>absurd (l.aM _ e) Wm
 obtain⟨a5,-⟩:=l.at.ns;obtain⟨c,K,N⟩:=l.at.bC k f h;have x:=dD K;have y:=dD N
 have c:(k:Int)<(V.f.n:Int):=by
  have:=(gS.1 h).1;omega
 have r:=a.ff;have s:=a.fx;have i:=dD t;have c:=dD G;obtain⟨⟨T,U,W,Y,Z,I,a0,a1⟩,a3,a4,a2,a6,a6⟩:=f;dsimp only at r s;subst r;subst s;obtain⟨r,r⟩:=kA (qh m k);rw[r.out]at n q⊢;clear l g h L D d a R S G E F t B P Q M K N a5;have F:=H.box.box.c 0 rfl;rw[x.out]at F;obtain⟨h,l,r,s,q,t,x,B,D,E,a,d,g⟩:=y.out w (zc.refl _);dsimp only at h l r s q t x B D E a d g
 go_enter func186,ntmps186
 go_upto_region 1 with fail;clear h l r s q t x B D E a d g F;obtain⟨a,d⟩:=kA w.heap.size;obtain⟨r,a⟩:=kB (w.alloc (Xk #[U8 T,U8 U,U8 W,U8 Y,U8 Z,U8 I,U8 a0,U8 a1,I6 a3,Xh a4,Xh a2,I6 (A:Int),I6 (u:Int)] 93));have h:=gA a
 have l:=xPT a d
 rw[a,d.out];rw[d.out]at C;clear a;have d:=l.box.c 11 rfl;have g:=l.box.c 12 rfl;have a:=z.out r h.out;go_wp2_with fail;refine a.mono ?_;clear a d g;rintro e x⟨rfl,a⟩;have u:=dD (h.trans a);clear a;have h:=dD (H.aA u);obtain⟨l,r,a⟩:=h.ca.aJ (Hm i.out)
 have g:=zgX w0.heap.size l r j m.ca x (Ry a h.ca) i c.out
 have s:=h.box.box.c 9 rfl;rw[a]at s;have d:=dD a;clear a;obtain⟨t,a⟩:=kA m.ca.length;rw[a.out]at g s;have a:j<1000:=by have:=i.out;have:=c.out;omega
 go_wp2_with fail;refine g.mono ?_;clear g s;rintro e y⟨rfl,g,c⟩;have i:p≠l:=h.nc l (by have a:=d.out;(try simp only[Sli.x]at a);unfold oB;rw[a];rfl)
 have z:Xo (zg y p 88 (chL V m)):=h.box.beside c (fun k e=>by cases e;exact i)
 have A:=dD g;have s:=dD c;clear g c
 go_upto_region 3 with(refine qK rfl 42 (.tmp 37) (.tmp 34) rfl p 9 rfl (O (Xa ⟨l,0,Xb⟩) (t-1) r) rfl [O (Xa ⟨l,0,Xb⟩) (t-1) r] rfl z (by simp[chL]) Kr (by simp[Value.oneCell']) ?_)
 intro z c g _;have i:Chg w0 X p x V {m with ca:=m.ca.eraseIdx j} z:=by
  refine h.cache (w1:=y) (b:=⟨Xa ⟨l,0,Xb⟩,t-1,r⟩) (zk.grown s (by have a:=d.out;(try simp only[Sli.x]at a);unfold oB;rw[a];rfl)) (fun h h=>?_) A g c
  unfold oB at h;cases h;exact .inl (by have a:=d.out;(try simp only[Sli.x]at a);unfold oB;rw[a];rfl)
 have a:=Chg.aG u i;obtain⟨r,d,h,q⟩:=a;have a:=dD d;have l:=dD h;have j:=dD q;have a:=n.out z r d;clear i d h q c g;try simp only[Xx]
 go_wp2_with fail;refine a.mono ?_;clear a;rintro e a⟨⟨a,rfl⟩,c⟩;have a:=dD<|Chg.step l j c
 clear c;go_wp2
 exact Ge a.out
variable{X:Nat->Prop}
section
variable{w0 w w1 w2:Xn}{p:Nat}{V:MaV}{m:Ma}
theorem ChW.setSw(h:ChW w0 X p w V m){d q:Sli}{a:List (List Int)}{b:List (Int×List Int)}(e:zc w w1)(i:w.heap.size<=B)(g:zZ B w1 (Xi #[d.x,q.x]) a b)(f:w1.grownBy w2 (Xa p))(c:zg w2 p 88 (chL {V with sb:=d,sq:=q} {m with sb:=a,sq:=b})):Chg w0 X p w V {m with sb:=a,sq:=b} w2:=
 h.field (V':={V with sb:=d,sq:=q}) (m':={m with sb:=a,sq:=b}) e f rfl rfl rfl rfl rfl rfl c (fun W _ b r=>by
  have k:=(g.aN (fun k a=>Hm (h.drt k a)) b).rows
  exact⟨r.sl,k.1,k.2,r.db,r.dq,r.fl⟩)
end
theorem zlF(h:Rt m){k:Nat}{f:Fr}(a:m.fs[k]?=Xa f)(b:f.r≠0):(QM m<m.sl.length->jT m.sl f.r=0/\Z8 m.sl f.r=m.sl.set (QM m) f.r/\zbY m.sl f.r=(QM m:Int))/\(¬QM m<m.sl.length->jT m.sl f.r=10):=by
 obtain⟨c,c,_⟩:=za7 h a b;have a:=h.parts.2
 rcases zcM m.sl f.r with⟨a,_⟩|⟨_,a,_⟩|⟨_,_,b,a,_⟩|⟨_,_,b,a,c,d⟩
 ·grind
 ·grind
 ·exact⟨fun h=>absurd h b,fun _=>a⟩
 exact⟨fun _=>⟨a,c,d⟩,fun h=>absurd b h⟩
theorem zkV{w:Xn}{p:Nat}(K:ChW w0 X p w V m)(Q:Rt m)(k:Nat)(f:Fr)(Z:m.fs[k]?=Xa f)(bz:f.r≠0):
  Xp prog 229 #[Xj (Xa ⟨p,0,Xb⟩),I6 (k:Int)] w fun e w'=>e=Xl (Xh (zak m k f).1)/\Chg w0 X p w V (zak m k f).2 w':=by
 obtain⟨cl,ai⟩:=zlF Q Z bz;obtain⟨ee,ef,dr⟩:=za7 Q Z bz;have dp:=Q.inv.aX;have ci:=Q.inv.bM;obtain⟨E,L⟩:=kA (jT m.sl f.r);obtain⟨ak,a8⟩:=kA (zbY m.sl f.r);have a9:Xo (∀W,zc w W->Xp prog 240 #[V.s.x,I6 f.r] W fun e w'=>∃s:Sli,e=Xl (Xm #[s.x,I6 ak,I6 E])/\zP slE W.heap.size w' (s.x) (Z8 m.sl f.r)/\zc W w'):=dD<|fun W an=>by
  obtain⟨-,ea,-⟩:=K.at.ns;have ah:=(K.at.aA an).sl;(try simp only[Sli.x]);rw[ea]at ah⊢;rw[<-L.out,<-a8.out];refine(zlG V.s.a V.s.c m.sl f.r W ah).mono ?_;rintro e w'⟨cu,cy,rfl,eb,bt⟩;exact⟨⟨cu,_,cy⟩,rfl,eb,bt⟩
 have a7:Xo (E≠0->zak m k f=(Xd,m)):=dD<|fun e=>by
  unfold zak;rw[kF (fun a0=>e (L.symm.trans (cl a0).1))]
 have ag:E=0->QM m<m.sl.length:=fun e=>Classical.byContradiction fun dt=>by
  have:=ai dt;rw[L.out,e]at this;cases this
 have i:Xo (E=0->(zak m k f).1=Xc/\∃j:Nat,ak=(j:Int)/\j<=60/\zn m.sb.length m.sq (j:Int)=0/\(zak m k f).2=zac {({m with sl:=Z8 m.sl f.r}:Ma)with sb:=qR m.sb m.sq (j:Int),sq:=qQ m.sb m.sq (j:Int) (pgL f.p)} k f.r ⟨2,(j:Int),Xd⟩):=dD<|fun e=>by
  have a0:=ag e;obtain⟨dl,cf,cg⟩:=cl a0;have U:zn m.sb.length m.sq ((QM m:Nat):Int)=0:=by
   unfold zn;rw[kE Q.inv.sq,kE (by simp[ZF];omega)]
  have S:enW ⟨2,(QM m:Int),Xd⟩=0:=zb4 Sm ⟨Sm,by simp only;omega,fun K=>by simp at K⟩ Sm
  unfold zak;rw[kE a0];refine⟨rfl,QM m,a8.symm.trans cg,Wm,U,?_⟩
  rw[zjg (m:={({m with sl:=Z8 m.sl f.r}:Ma)with sb:=qR m.sb m.sq (QM m:Int),sq:=qQ m.sb m.sq (QM m:Int) (pgL f.p)}) Q rfl rfl rfl Z bz S];simp only;unfold ZJ qR qQ;rw[kE U,kE U,cf]
 have a5:Xo (∀(au:Xn)bf(j:Nat)c5 c4 c6,ChW w0 X p au bf {({m with sl:=c5}:Ma)with sb:=c4,sq:=c6}->Xp prog 214 #[Xj (Xa ⟨p,0,Xb⟩),I6 (k:Int),Xi #[I6 2,I6 (j:Int),Xh Xd]] au fun e w'=>(∃v,e=Xl v)/\Chg w0 X p au bf (zac {({m with sl:=c5}:Ma)with sb:=c4,sq:=c6} k f.r ⟨2,(j:Int),Xd⟩) w'):=dD<|fun au bf j c5 c4 c6 dm=>zdo dm k f Z ⟨2,(j:Int),Xd⟩ Q.inv.aT ⟨ee,ef⟩ dr
 have a6:=dD K;have bx:p<w.heap.size:=K.aM p (.inl rfl);obtain⟨et,-⟩:=K.at.ns;obtain⟨eo,dq,a0⟩:=K.at.bC k f Z;have ax:=dD dq;have ay:=dD a0
 have ds:(k:Int)<(V.f.n:Int):=by
  have:=(gS.1 Z).1;omega
 obtain⟨cc,b8⟩:=kA (zak m k f);rw[b8.out]at a7 i⊢;obtain⟨⟨r,t,x,z,A,B,C,D⟩,M,br,bp,bq,bs⟩:=f;dsimp only at a9 i a5;have eh:=a6.box.box.c 0 rfl;rw[ax.out]at eh;obtain⟨dc,de,df,dg,bn,dh,di,dj,dk,bo,bk,bl,bm⟩:=ay.out w (zc.refl _);dsimp only at dc de df dg bn dh di dj dk bo bk bl bm
 go_enter func229,ntmps229
 go_upto_region 2 with fail;obtain⟨h,aw⟩:=kA w.heap.size;obtain⟨H,R⟩:=kB (w.alloc (Xk #[U8 r,U8 t,U8 x,U8 z,U8 A,U8 B,U8 C,U8 D,I6 M,Xh br,Xh bp,I6 bq,I6 bs] 93));have aj:=gA R
 have ce:=xPT R aw
 rw[R,aw.out];rw[aw.out]at bx;have ch:zc H H.drew:=show Below _ _ _ from(bR _ _).drew
 obtain⟨c,b⟩:=Wq fun u=>zc H u
 have n:=(b _).2 ch;have N:zc H H.drew:=ch;have dv:=fun y:zo c=>(a6.box.box.aA (aj.trans ((b _).1 y.holds))).c 2 rfl
 have e9:=fun y:zo c=>(ce.box.aA ((b _).1 y.holds)).c 8 rfl
 have bw:Nonempty (zo c):=⟨⟨_,n⟩⟩;refine qj (I:=c) 15 [(7,fun v=>∃s:Sli,v=Xm #[s.x,I6 ak,I6 E])] (fun u=>zc H u) n N zU Kr rfl rfl Dc (Sa ⟨_,Zy,rfl⟩) Kr ?_
 simp only[Yp,Yq];refine zw ?_
 refine qx (.tmp 19) ⟨p,0,Xb⟩ rfl rfl rfl rfl ?_;refine Uq ?_;iterate 5 refine zw ?_
 refine zL rfl rfl (fun v u=>∃(s:Sli)(G:Xn),v=Xm #[s.x,I6 ak,I6 E]/\zc H G/\zc G u/\zP slE G.heap.size u (s.x) (Z8 m.sl M)) (fun w' g a=>?_) (fun c8 a4=>?_)
 ·refine zI.call [V.s.x,I6 M] rfl func240 rfl rfl rfl ?_;refine(a9 w' (aj.trans a)).mono ?_;rintro e c9⟨s,rfl,ai,aa⟩;exact⟨_,rfl,(b _).2 (((b _).1 g).trans aa),⟨s,rfl⟩,s,w',rfl,a,aa,ai⟩
 obtain⟨s,rfl⟩:=a4;refine Uq ?_;iterate 7 refine zw ?_
 refine jL fun en bu P=>?_
 obtain⟨ar,G,S,Y,am,c7⟩:=P;have T:ar=s:=by
  obtain⟨cv,cw,cx⟩:=s;obtain⟨cz,da,db⟩:=ar;simp only[Value.tuple.injEq,Array.mk.injEq,List.cons.injEq,vJ,and_true]at S;obtain⟨rfl,rfl,rfl⟩:=S;rfl
 subst T;have be:=dD<|c7.base (bS (aj.trans Y))
 have av:=dD (aj.trans (Y.trans am));have cs:=dD (ce.aA (Y.trans am))
 by_cases ao:E=0
 rotate_left
 ·have c0:(E !=0)=Xc:=by simp[ao]
  have cb:=dD<|a7.out ao;go_wp2;go_ret;exact⟨Rr cb.out,Rx cb.out (Chg.refl a6 av)⟩
 have c0:(E !=0)=Xd:=by simp[ao]
 obtain⟨ei,j,ej,ev,ek,el⟩:=i.out ao;subst ej;have b9:=dD ei;have ba:=dD ek;have bb:Xo (cc.2=_):=el;have cm:=dD (a6.box.aA av)
 go_upto_region 6 with(refine qK rfl 34 (.tmp 36) (.tmp 33) rfl p 2 rfl (ar.x) rfl [ar.x] rfl cm (by simp[chL]) Kr (by simp[Value.oneCell']) ?_)
 intro F bi ab _;have ct:Xo (zg F h 93 [U8 r,U8 t,U8 x,U8 z,U8 A,U8 B,U8 C,U8 D,I6 M,Xh br,Xh bp,I6 bq,I6 bs]):=dD<|cs.beside ab (fun k e=>by cases e;omega)
 obtain⟨l,ap,ec,bn⟩:=a6.setS av be ab bi;have bd:=dD ap;have cq:=dD ec;have cn:=dD bn;have cp:Xo (∀W,zc F W->Xp prog 185 #[Xi #[l.sb.x,l.sq.x],I6 (j:Int),Xi #[U8 r,U8 t,U8 x,U8 z,U8 A,U8 B,U8 C,U8 D]] W fun e w'=>∃d q:Sli,e=Xl (Xm #[Xi #[d.x,q.x],I6 0])/\zZ W.heap.size w' (Xi #[d.x,q.x]) (qR m.sb m.sq (j:Int)) (qQ m.sb m.sq (j:Int) (pgL ⟨r,t,x,z,A,B,C,D⟩))/\zc W w'):=show∀W,_ from fun W an=>by
  have ah:=zfP (Xi #[l.sb.x,l.sq.x]) m.sb m.sq (j:Int) (pgL ⟨r,t,x,z,A,B,C,D⟩) rfl W ⟨_,_,rfl,(ap.at.aA an).sb,(ap.at.aA an).sq⟩;rw[ba.out]at ah;refine ah.mono ?_;rintro e w'⟨ep,rfl,ck,bt⟩;obtain⟨d,q,rfl,_,_⟩:=ck.form;exact⟨d,q,rfl,ck,bt⟩
 have du:p<F.heap.size:=ap.aM p (.inl rfl);have az:Xo (p≠h):=dD<|Wm
 try simp only[Xx]
 go_upto_region 6 with fail;obtain⟨c,b⟩:=Wq fun u=>zg u h 93 [U8 r,U8 t,U8 x,U8 z,U8 A,U8 B,U8 C,U8 D,I6 M,Xh br,Xh bp,I6 bq,I6 bs]
 have n:=(b _).2 (ct.aA (gW _))
 have N:zc F F.drew:=show Below _ _ _ from(bR _ _).drew
 have dw:=fun y:zo c=>((b _).1 y.holds).box.c 0 rfl
 have dx:=fun y:zo c=>((b _).1 y.holds).box.c 1 rfl
 have dy:=fun y:zo c=>((b _).1 y.holds).box.c 2 rfl
 have dz:=fun y:zo c=>((b _).1 y.holds).box.c 3 rfl
 have e0:=fun y:zo c=>((b _).1 y.holds).box.c 4 rfl
 have e4:=fun y:zo c=>((b _).1 y.holds).box.c 5 rfl
 have e5:=fun y:zo c=>((b _).1 y.holds).box.c 6 rfl
 have e8:=fun y:zo c=>((b _).1 y.holds).box.c 7 rfl
 have bw:Nonempty (zo c):=⟨⟨_,n⟩⟩;refine qj (I:=c) 17 [(5,fun v=>v=Xi #[l.sb.x,l.sq.x]),(9,fun v=>∃d q:Sli,v=Xm #[Xi #[d.x,q.x],I6 0]),(16,fun _=>True)] (fun u=>zc F u) n N zU Kr rfl rfl Dc (Sc ⟨_,rfl⟩ ⟨_,Zy,Zy,rfl⟩ ⟨undef,trivial⟩) Kr ?_
 simp only[Yp,Yq];iterate 2 refine zw ?_
 refine qx (.tmp 39) ⟨p,0,Xb⟩ rfl rfl rfl rfl ?_;refine Uq ?_;iterate 2 refine zw ?_
 refine zL rfl rfl (fun _ u=>zc F u) (fun w' g a=>?_) (fun c8 a4=>?_)
 ·refine zbe 38 (.tmp 42) rfl p 3 rfl [l.sb.x,l.sq.x] ((bd.box.box.aA a).mid 3 (fun j v ae=>by
   match j,ae with
   |0,ae=>exact ae
   |1,ae=>exact ae)) underlying38 rfl Kr ⟨g,rfl,a⟩
 cases a4;refine Uq ?_;iterate 3 refine zw ?_
 refine zL rfl rfl (fun v u=>∃(d q:Sli)(G:Xn),v=Xm #[Xi #[d.x,q.x],I6 0]/\zc F G/\zc G u/\zZ G.heap.size u (Xi #[d.x,q.x]) (qR m.sb m.sq (j:Int)) (qQ m.sb m.sq (j:Int) (pgL ⟨r,t,x,z,A,B,C,D⟩))) (fun w' g a=>?_) (fun c8 a4=>?_)
 ·refine zI.call [Xi #[l.sb.x,l.sq.x],I6 (j:Int),Xi #[U8 r,U8 t,U8 x,U8 z,U8 A,U8 B,U8 C,U8 D]] rfl func185 rfl rfl rfl ?_;refine(cp w' a).mono ?_;rintro e c9⟨d,q,rfl,ai,aa⟩;exact⟨_,rfl,(b _).2 (((b _).1 g).aA aa),⟨d,q,rfl⟩,d,q,w',rfl,a,aa,ai⟩
 obtain⟨d,q,rfl⟩:=a4;refine Uq ?_;iterate 3 refine zw ?_
 refine qx (.tmp 38) ⟨p,0,Xb⟩ rfl rfl rfl rfl ?_;refine Uq ?_;iterate 2 refine zw ?_
 refine zL rfl rfl (fun _ u=>Chg w0 X p F l {({m with sl:=Z8 m.sl M}:Ma)with sb:=qR m.sb m.sq (j:Int),sq:=qQ m.sb m.sq (j:Int) (pgL ⟨r,t,x,z,A,B,C,D⟩)} u) (fun w' g a=>?_) (fun c8 a4=>?_)
 ·obtain⟨al,aq,G,S,Y,am,c7⟩:=a;have T:al=d/\aq=q:=by
   obtain⟨cv,cw,cx⟩:=d;obtain⟨cz,da,db⟩:=al;obtain⟨dl,cf,cg⟩:=q;obtain⟨eq,er,es⟩:=aq;simp only[Value.tuple.injEq,Array.mk.injEq,List.cons.injEq,Value.agg.injEq,vJ,and_true]at S;obtain⟨⟨rfl,rfl,rfl⟩,rfl,rfl,rfl⟩:=S;exact⟨rfl,rfl⟩
  obtain⟨rfl,rfl⟩:=T;have ca:=Y.trans am;refine jQ 38 (.tmp 52) (.tmp 48) rfl p 3 rfl (Xi #[al.x,aq.x]) rfl [al.x,aq.x] rfl (bd.box.aA ca) (by simp[chL]) Kr (by simp[Value.oneCell']) ?_
  intro bh bj ac _;exact⟨(b _).2 (((b _).1 g).beside ac (fun k e=>by cases e;exact fun e=>az.out e.symm)),trivial,bd.setSw ca (bS Y) c7 ac bj⟩
 try simp only[Xx]
 refine jL fun bh bu P=>?_
 obtain⟨cd,cj,ed,bo⟩:=Chg.step cq cn P;have em:Xo (ChW w0 X p bh cd _):=cj;have cr:=dD ed;have co:=dD bo;have bv:=a5.out bh cd j _ _ _ cj;go_wp2_with fail;refine bv.mono ?_;rintro e bg⟨⟨eu,rfl⟩,dn⟩;have bc:Xo (Chg w0 X p w V cc.2 bg):=show Chg _ _ _ _ _ _ _ by rw[bb.out];exact Chg.step cr co dn
 go_wp2;go_ret;exact⟨Rr b9.out,bc⟩
theorem zpB(x0 y0:Int)(x1 y1:Int)(w):(Op.equalIn 10000 142 (Xi #[I6 x0,I6 x1]) (Xi #[I6 y0,I6 y1])).run prog w=.ok ((x0==y0)&&(x1==y1)) w:=by
 have hf:(Tryz.prog.fieldsOf 142).toList.map (fun f=>(f.name,f.type,f.offset))=[("Proc",3,0),("Page",3,1)]:=by kernel_rfl
 rw[run_equalIn_struct w 9999 142 _ _ Kr Kr]
 obtain⟨f0,f1,hfs⟩:∃f0 f1,(Tryz.prog.fieldsOf 142).toList=[f0,f1]:=by
  have hl:(Tryz.prog.fieldsOf 142).toList.length=2:=by have:=congrArg List.length hf;simpa using this
  match hq:(Tryz.prog.fieldsOf 142).toList,hl with
  |[f0,f1],_=>exact⟨f0,f1,rfl⟩
 rw[hfs]at hf⊢
 simp at hf
 obtain⟨⟨n0,t0,o0⟩,⟨n1,t1,o1⟩⟩:=hf;have pI:=zcT w;simp only[Op.eqFields,n0,t0,o0,n1,t1,o1]
 simp[pI,run_equalIn_int w _ _ _ _ _ _ underlying3]
 by_cases e0:x0=y0
 case neg=>simp[e0]
 subst e0
 by_cases e1:x1=y1
 case neg=>simp[e1]
 subst e1;simp
def znq(W:Xn)(y:Addr)(x:Nat×Nat):Prop:=W.cell? y=Xa (Xe Xf (x.1:Int))/\W.cell? {block:=y.block,off:=y.off+1}=Xa (Xe Xf (x.2:Int))
theorem zj.bG{w:Xn}{v:Xq}{l:List (Nat×Nat)}(h:zj Jb w v l):∃a c,v=O a l.length c/\∀(j:Nat)x,l[j]?=Xa x->∃b,a=Xa b/\∀W,zc w W->znq W (b.add (j*2)) x:=by
 obtain⟨a,c,d,e⟩:=h.rows;refine⟨a,c,d,fun j x g=>?_⟩
 obtain⟨b,f,d⟩:=e j x g;exact⟨b,f,fun W b=>⟨d W b 0 _ rfl,d W b 1 _ rfl⟩⟩
theorem zfb(v)(l:List (Nat×Nat))(q n:Nat)(w)(U:zj Jb w v l):
  Xp prog 253 #[v,Xi #[I6 (q:Int),I6 (n:Int)]] w fun e w'=>(∃E:Int,e=Xl (I6 E)/\(0<=E↔(q,n)∈l))/\zc w w':=by
 have s:=U.short;obtain⟨ae,af,rfl,f⟩:=U.bG;have I:=dD f;clear f U;obtain⟨L,K⟩:=kA l.length;rw[K.out]at s⊢;obtain⟨c,b⟩:∃c:Int->Prop,Xo (∀E,(0<=E↔(q,n)∈l)=c E):=⟨_,fun _=>rfl⟩
 simp only[b.out];obtain⟨a3,W⟩:=kA w.heap.size;obtain⟨ac,d⟩:=kB (w.alloc (Xk #[I6 (q:Int),I6 (n:Int)] 142));have Z:=gA d
 have a1:=xP d W
 have N:=dD d;clear d;have aa:=zpB
 go_enter func253,ntmps253
 go_upto_region 1 with fail;rw[N.out,W.out];go_wp2
 go_loopg[5,8] L (fun a5 _ ab wr=>∃a:Nat,a<=L/\L-a<=a5/\ab=I6 a/\Xo (zc w wr)/\Xo (Box wr a3 [I6 (q:Int),I6 (n:Int)])/\Xo (∀(j:Nat)x,j<a->l[j]?=Xa x->x≠(q,n)))
 exact⟨0,nZ _,Wm,rfl,Z,a1,fun j x t=>absurd t (nL _)⟩
 obtain⟨a,a9,a8,rfl,F,P,V⟩:=hrel
 by_cases g:a<L
 ·have u:=kC g
  obtain⟨x,M⟩:∃x,Xo (l[a]?=Xa x):=⟨_,gE (Rx K.out g)⟩
  obtain⟨Q,rfl,Y⟩:=I.out a x M.out;have r:=dD<|fun X(a6:zc wr X)=>Y X (F.trans a6)
  clear Y;obtain⟨i,m⟩:=x;go_upto_region 4 with fail;have C:=fun y:zf wr=>(r _ y.aA).1
  have D:=fun y:zf wr=>(r _ y.aA).2
  have A:=P.gw 0 rfl
  have B:=P.gw 1 rfl
  have z:Nonempty (zf wr):=⟨⟨_,zc.refl _⟩⟩
  by_cases G:i=q/\m=n
  ·obtain⟨rfl,rfl⟩:=G;have p:Xo (c (a:Int)):=dD<|by
    rw[<-b.out];exact⟨fun _=>mG M,fun _=>Wm⟩
   refine qq [] zU Kr Sm Sm ?_
   iterate 6 refine ze ?_
   refine zH fun a0 k T=>?_
   have H:=dD (F.trans k);clear k T z C D A B;have a7:(((i:Int)==(i:Int))&&((m:Int)==(m:Int)))=Xc:=Sm
   go_wp2;go_ret;exact⟨⟨_,rfl,p⟩,H⟩
  have p:Xo (∀(j:Nat)x,j<a+1->l[j]?=Xa x->x≠(q,n)):=dD<|fun j x t h=>by
   by_cases e:j=a
   ·subst e;rw[M.out]at h;cases h;exact fun e=>G (Prod.mk.inj e)
   exact V j x Wm h
  have a7:(((q:Int)==(i:Int))&&((n:Int)==(m:Int)))=Xd:=by
   by_cases e:i=q
   ·have R:¬(n:Int)=(m:Int):=fun a4=>G ⟨e,Wm⟩
    simp[R]
   have R:¬(q:Int)=(i:Int):=fun a4=>e Wm
   simp[R]
  clear G;refine qq [] zU Kr Sm Sm ?_
  iterate 6 refine ze ?_
  refine zH fun a0 k T=>?_
  have H:=dD (F.trans k);have a2:=dD (P.aA k);clear k T z C D A B;go_wp2
  go_roundg (L-(a+1));exact⟨a+1,Wm,Wm,Gn,H,a2,p⟩;omega
 have u:=kD g
 have:a=L:=Wm
 subst this;have p:Xo (c (-1)):=dD<|by
  rw[<-b.out];refine⟨fun S=>absurd S Dc,fun S=>?_⟩
  obtain⟨j,t⟩:=Xy S;exact absurd rfl (V j _ (by rw[<-K.out];exact(gS.1 t).1) t)
 go_wp2;go_ret;exact⟨⟨_,rfl,p⟩,F⟩
theorem zck(v)(l:List (Nat×Nat))(q n:Nat)(w)(b:zj Jb w v l):
  Xp prog 249 #[v,Xi #[I6 (q:Int),I6 (n:Int)]] w fun e w'=>e=Xl (Xh (l.contains (q,n)))/\zc w w':=by
 have a:=zfb v l q n (w.alloc (Xk #[I6 (q:Int),I6 (n:Int)] 142)) (b.aA (za _ _));obtain⟨R,c⟩:=kA (l.contains (q,n));rw[c.out];clear b
 go_enter func249,ntmps249
 go_wp2_with fail;refine a.mono ?_;clear a;rintro e a⟨⟨z,rfl,a⟩,b⟩;have f:=dD<|(za _ _).trans b
 clear b
 by_cases d:0<=z
 ·have b:Xo (R=Xc):=dD<|by rw[<-c.out];simpa using a.1 d
  clear a;go_wp2;go_ret;exact⟨Rr b.out,f⟩
 have b:Xo (R=Xd):=dD<|by
  rw[<-c.out]
  cases c:l.contains (q,n)with
  |false=>rfl
  |true=>exact absurd (a.2 (Si c)) d
 have c:Xo (decide (0<=z)=Xd):=decide_eq_false d;clear a;go_wp2;go_ret;exact⟨by rw[b.out,<-c.out];rfl,f⟩
variable{X:Nat->Prop}
theorem zp2{e:En}{a b:Int}:isE e a b=(decide (e.kind=a)&&decide (e.n=b)):=by
 unfold isE
 cases c:decide (e.kind=a)<;>cases c:decide (e.n=b)<;>simp_all
theorem zlS{w:Xn}{p:Nat}(F:ChW w0 X p w V m)(aq bd c1 c0:Nat)(f:Fr)(k:Nat)(a8)(l:List (Nat×Nat))(ae:Box w aq (frv f))(ah:Box w bd [a8])(ai:Box w c1 [Xj (Xa ⟨p,0,Xb⟩)])(ag:Box w c0 [I6 (k:Int)])(H:zj Jb w a8 l)
  (q n:Nat)(s:Sp)(a:Ar)(bo:m.sp[q]?=Xa s)(c5:n<64)(ca:0<=f.f)(bh:a.file=f.f->(0<=a.base/\a.base<=100)/\(0<=a.fr/\a.fr<=100)):
  Xp prog 248 #[Xi #[I6 (q:Int),I6 (n:Int)],Xi #[I6 a.fr,I6 a.tz,Xh a.rd,Xh a.wr,Xh a.sh,I6 a.file,I6 a.base],Xj (Xa ⟨aq,0,Xb⟩),Xj (Xa ⟨bd,0,Xb⟩),Xj (Xa ⟨c1,0,Xb⟩),Xj (Xa ⟨c0,0,Xb⟩)] w fun e w'=>e=Xl (Xh (Jf k f l q s a n))/\zc w w':=by
 have an:=(gS.1 bo).1;have al:QH m q (n:Int)=zl s n:=by unfold QH;rw[Sp.aP bo,Js c5]
 have bt:Xo (∀W,zc w W->Xp prog 136 #[Xj (Xa ⟨p,0,Xb⟩),Xi #[I6 (q:Int),I6 (n:Int)]] W fun e w'=>e=Xl (enV (zl s n))/\zc W w'):=dD<|fun W bg=>by rw[<-al];exact ZZ (F.aA bg) q an (n:Int)
 have bu:Xo (∀W,a.file=f.f->Xp prog 169 #[Xi #[I6 a.fr,I6 a.tz,Xh a.rd,Xh a.wr,Xh a.sh,I6 a.file,I6 a.base],I6 (n:Int)] W fun e w'=>e=Xl (I6 (a.base+(n:Int)-a.fr))/\zc W w'):=dD<|fun W bi=>QU a (n:Int) W (bh bi).1 (bh bi).2 Wm
 have bs:Xo (∀W,zc w W->Xp prog 249 #[a8,Xi #[I6 (q:Int),I6 (n:Int)]] W fun e w'=>e=Xl (Xh (l.contains (q,n)))/\zc W w'):=dD<|fun W bg=>zck a8 l q n W (H.aA bg)
 have M:Xo (a.file=f.f->(qg a n).aI=a.base+(n:Int)-a.fr):=dD<|fun bi=>by
  unfold qg;simp only;rw[kE Wm]
  omega
 have c:Xo (Jf k f l q s a n=(decide (a.file=f.f)&&decide ((qg a n).aI=f.x)&&!(l.contains (q,n))&&(decide ((zl s n).kind=0)||(decide ((zl s n).kind=1)&&decide ((zl s n).n=(k:Int)))))):=dD<|by
  unfold Jf;rw[zp2];rfl
 obtain⟨br,ay⟩:=kA (l.contains (q,n));rw[ay.out]at bs c;obtain⟨a3,b9⟩:=kA ((qg a n).aI);rw[b9.out]at M c;obtain⟨B,ar,be,ak⟩:∃B ar be,zl s n=⟨B,ar,be⟩:=⟨_,_,_,rfl⟩;rw[ak]at bt c;obtain⟨a4,c8⟩:=kA (Jf k f l q s a n);rw[c8.out]at c⊢;simp only at c;have a9:=dD ae;have aw:=dD ah;have ax:=dD ai;have av:=dD ag;obtain⟨⟨ce,cf,cg,ch,ci,cj,ck,cl⟩,fr,co,cn,ac,ad⟩:=f;obtain⟨ab,r,i,t,j,b,d⟩:=a;simp only at bu M c ca;clear F ae ah ai ag H bo c5 bh an al ak;obtain⟨bz,au⟩:=kA w.heap.size;obtain⟨N,u⟩:=kB ((w.alloc (Xk #[I6 (q:Int),I6 (n:Int)] 142)).alloc (Xk #[I6 ab,I6 r,Xh i,Xh t,Xh j,I6 b,I6 d] 125));have L:=gD2 u
 have bc:Xo (Box N bz [I6 (q:Int),I6 (n:Int)]):=dD<|by rw[<-u,<-au.out];exact(Box.aD w _ _ rfl).alloc _
 have P:Xo (Box N (bz+1) [I6 ab,I6 r,Xh i,Xh t,Xh j,I6 b,I6 d]):=dD<|by rw[<-u];exact Box.aD _ [I6 ab,I6 r,Xh i,Xh t,Xh j,I6 b,I6 d] _ (by have:=au.out;simp;omega)
 have ba:Xo (_=N):=u;clear u
 go_enter func248,ntmps248
 go_upto_region 1 with fail;rw[ba.out,au.out];have U:=P.gw 0 rfl
 have Y:=P.gw 1 rfl
 have Z:=P.gw 2 rfl
 have I:=P.gw 3 rfl
 have a0:=P.gw 4 rfl
 have a1:=P.gw 5 rfl
 have a2:=P.gw 6 rfl
 have S:=bc.gw 0 rfl
 have T:=bc.gw 1 rfl
 have v:=fun A:zf N=>(a9.aA (L.trans A.aA)).c 11 rfl
 have x:=fun A:zf N=>(a9.aA (L.trans A.aA)).c 12 rfl
 have Q:=fun A:zf N=>(aw.aA (L.trans A.aA)).c 0 rfl
 have R:Nonempty (zf N):=⟨⟨_,zc.refl _⟩⟩
 by_cases E:b=ac
 rotate_left
 ·have c3:(b !=ac)=Xc:=Si E
  have h:Xo (a4=Xd):=dD<|by rw[c.out,decide_eq_false E];rfl
  clear E;refine qq [] zU Kr Sm Sm ?_
  iterate 6 refine ze ?_
  iterate 7 (refine jo Kr ?_;simp only[Xx,sB,sS,sZ])
  iterate 2 refine ze ?_
  iterate 3 (refine jo Kr ?_;simp only[Xx,sB,sS,sZ])
  refine ze ?_
  refine zH fun bb g G=>?_
  have D:=dD (L.trans g);clear g G R U Y Z I a0 a1 a2 S T v x Q;go_wp2;go_ret;exact⟨Rr h.out,D⟩
 have c3:(b !=ac)=Xd:=by simp[E]
 have am:=M.out E;have y:=fun W=>bu.out W E
 rw[<-am]at y;have az:Xo (decide (b=ac)=Xc):=decide_eq_true E;rw[az.out]at c;clear E am
 by_cases a5:a3=ad
 rotate_left
 ·have c4:(a3 !=ad)=Xc:=Si a5
  have h:Xo (a4=Xd):=dD<|by rw[c.out,decide_eq_false a5];rfl
  clear a5;refine qq [(9,⟨fun K=>K=I6 a3,fun K w'=>True⟩)] zU Kr (Sa ⟨_,rfl⟩) ?hp ?_
  case hp=>
   intro bq z;simp only[mC,nM,or_false]at z;subst z;exact fun _ _ _ _ F=>F
  iterate 9 refine ze ?_
  refine zz rfl rfl (fun w' bj G=>?_) (fun c6 H=>?_)
  ·refine zI.call [Xi #[I6 ab,I6 r,Xh i,Xh t,Xh j,I6 b,I6 d],I6 (n:Int)] rfl func169 rfl rfl rfl ?_;refine(y w').mono ?_;rintro e ao⟨rfl,g⟩;exact⟨_,rfl,g,rfl,trivial⟩
  subst H;refine Uq ?_;iterate 5 refine ze ?_
  iterate 3 (refine jo Kr ?_;simp only[Xx,sB,sS,sZ])
  refine ze ?_
  refine zH fun bb g G=>?_
  have D:=dD (L.trans g);clear g G R U Y Z I a0 a1 a2 S T v x Q y;go_wp2;go_ret;exact⟨Rr h.out,D⟩
 have c4:(a3 !=ad)=Xd:=by simp[a5]
 have b8:Xo (decide (a3=ad)=Xc):=decide_eq_true a5;rw[b8.out]at c;clear a5;refine qq [(9,⟨fun K=>K=I6 a3,fun K w'=>True⟩),(17,⟨fun K=>K=Xh br,fun K w'=>True⟩)] zU Kr (Sb ⟨_,rfl⟩ ⟨_,rfl⟩) ?hp ?_
 case hp=>
  intro bq z;simp only[mC,nM,or_false]at z
  rcases z with rfl|rfl
  ·exact fun _ _ _ _ F=>F
  exact fun _ _ _ _ F=>F
 iterate 9 refine ze ?_
 refine zz rfl rfl (fun w' bj G=>?_) (fun c6 H=>?_)
 ·refine zI.call [Xi #[I6 ab,I6 r,Xh i,Xh t,Xh j,I6 b,I6 d],I6 (n:Int)] rfl func169 rfl rfl rfl ?_;refine(y w').mono ?_;rintro e ao⟨rfl,g⟩;exact⟨_,rfl,g,rfl,trivial⟩
 subst H;refine Uq ?_;iterate 7 refine ze ?_
 refine zz rfl rfl (fun w' bj G=>?_) (fun c6 H=>?_)
 ·refine zI.call [a8,Xi #[I6 (q:Int),I6 (n:Int)]] rfl func249 rfl rfl rfl ?_;refine(bs w' (L.trans bj)).mono ?_;rintro e ao⟨rfl,g⟩;exact⟨_,rfl,g,rfl,trivial⟩
 subst H;refine Uq ?_;refine ze ?_
 refine zH fun bb g G=>?_
 have D:=dD (L.trans g);have bw:=dD (bc.aA g);clear g G R U Y Z I a0 a1 a2 S T v x Q y c3 c4
 cases br with
 |true=>
  have h:Xo (a4=Xd):=dD<|Rr c.out
  go_wp2;go_ret;exact⟨Rr h.out,D⟩
 |false=>
  obtain⟨cc,cd⟩:=bw.k2;have cb:=(ax.aA D).c 0 rfl;have aj:=bt.out bb D.out;go_wp2_with fail;refine aj.mono ?_;clear aj cc cd cb;rintro e bv⟨rfl,c2⟩;have c7:=dD (D.trans c2);clear c2;unfold enV;go_upto_region 4 with fail;obtain⟨cm,aa⟩:=kA bv.heap.size;obtain⟨c9,C⟩:=kB (bv.alloc (Xk #[I6 B,I6 ar,Xh be] 127));have ap:Xo (zc w c9):=show zc _ _ from c7.trans (by rw[<-C];exact za _ _)
  have bx:=xP C aa
  rw[C,aa.out];clear C;obtain⟨cq,cr⟩:=bx.k2;have cp:=(av.aA ap).c 0 rfl
  by_cases a6:B=0
  ·have bl:(B==0)=Xc:=Rr a6
   have h:Xo (a4=Xc):=dD<|by rw[c.out,decide_eq_true a6];rfl
   clear a6;go_wp2;go_ret;exact⟨Rr h.out,ap⟩
  have bl:(B==0)=Xd:=Si a6
  rw[decide_eq_false a6]at c;clear a6
  by_cases a7:B=1
  ·have bn:(B==1)=Xc:=Rr a7
   rw[decide_eq_true a7]at c;clear a7;have h:Xo (a4=(ar==(k:Int))):=dD<|Rr c.out
   go_wp2;go_ret;exact⟨Rr h.out,ap⟩
  have bn:(B==1)=Xd:=Si a7
  rw[decide_eq_false a7]at c;clear a7;have h:Xo (a4=Xd):=dD<|Rr c.out
  go_wp2;go_ret;exact⟨Rr h.out,ap⟩
variable{X:Nat->Prop}
theorem zI.allocFr{a:Act}{w:Xn}{K:Xq->Xn->Prop}(d:o.op=.alloc 93)(h:K (Xj (Xa ⟨w.heap.size,0,Xb⟩)) (w.alloc (Xk (frv fr0).toArray 93))):zI prog o a w K:=by
 have e:(zeroValue 93).run prog w=.ok frz w:=by
  obtain⟨f,c,b,_,_⟩:=info_parts z9.aF;have:z9.ty=93:=rfl;rw[this]at c;have b:f.zero=Xa frz:=b
  simp[zeroValue,typeInfo,c,b]
 unfold zI;have:(execOp a.eval o).run prog w=.ok (.value (Xj (Xa ⟨w.heap.size,0,Xb⟩))) (w.alloc (Xk (frv fr0).toArray 93)):=by
  simp[execOp,d,go_sem,e]
  rfl
 rw[this];exact h
theorem zkW{w:Xn}{p:Nat}(bj:ChW w0 X p w V m)(dr:Rt m)(k:Nat)(f:Fr)(ds:m.fs[k]?=Xa f)(ey:0<=f.f)(f2)(l:List (Nat×Nat))(aq:zj Jb w f2 l):
  Xp prog 241 #[Xj (Xa ⟨p,0,Xb⟩),I6 (k:Int),f2] w fun e w'=>e=Xl (Xh (zf7 m k f l))/\zc w w':=by
 obtain⟨cq,cr,rfl,_⟩:=aq.rows;obtain⟨cs,dd⟩:=kA l.length;rw[dd.out]at aq⊢;have dc:=dD bj;have f8:=dD aq;have aw:Xo (∀(q:Nat)s,m.sp[q]?=Xa s->s.aE.length<=16/\∀a∈s.aE,jK a):=show∀(q:Nat)s,_ from fun q s bb=>by
  obtain⟨C,aa⟩:=JD.1 (dr.inv.bH s (mG bb)).1;exact⟨C,aa.all⟩
 have bq:=dD ey;obtain⟨gm,-⟩:=bj.at.ns;obtain⟨bg,U,cf⟩:=bj.at.bC k f ds;have da:=dD U;have db:=dD cf
 have gi:(k:Int)<(V.f.n:Int):=by
  have:=(gS.1 ds).1;omega
 obtain⟨ee,cl,ap,ck⟩:=bj.at.bE;obtain⟨-,-,-,-,-,-,-,-,f3⟩:=bj.at.ns;obtain⟨ed,bv⟩:=kA V.sp.a;obtain⟨ar,Y⟩:=kA m.sp.length;have de:Xo (V.sp.n=ar):=dD<|Rx f3 Y.out
 have f1:ar<=4:=Ry Y.out dr.inv.aT
 have dk:Xo (ee.length=ar):=dD<|Rx cl Y.out
 have dh:Xo (∀(j:Nat)x,ee[j]?=Xa x->∃bg,ed=Xa bg/\∀az,zc w az->znr az (bg.add (j*10)) x):=dD<|Ry bv.out ap
 have di:=dD ck
 obtain⟨cm,ax⟩:=kA (zf7 m k f l);rw[ax.out];have bx:Xo ((∃(q:Nat)(s:Sp)(i:Nat)(a:Ar)(n:Nat),m.sp[q]?=Xa s/\s.aE[i]?=Xa a/\Jc a n=Xc/\n<64/\Jf k f l q s a n=Xc)->cm=Xc):=dD<|fun⟨q,s,i,a,n,C,aa,c2,c3,dn⟩=>by
  rw[<-ax.out];exact zcN.2 ⟨q,s,i,a,n,C,aa,c2,c3,zaN.1 dn⟩
 have df:Xo ((∀(q:Nat)(s:Sp)(i:Nat)(a:Ar)(n:Nat),m.sp[q]?=Xa s->s.aE[i]?=Xa a->Jc a n=Xc->n<64->Jf k f l q s a n=Xd)->cm=Xd):=dD<|fun dx=>by
  rw[<-ax.out]
  cases gb:zf7 m k f l with
  |false=>rfl
  |true=>
   obtain⟨q,s,i,a,n,C,aa,c2,c3,dn⟩:=zcN.1 gb;have:=dx q s i a n C aa c2 c3;rw[zaN.2 dn]at this;cases this
 clear bj dr ds ey aq U cf gm f3 cl ap ck;obtain⟨h,bo⟩:=kA w.heap.size;obtain⟨g,r⟩:=kB (((w.alloc (Xk #[Xj (Xa ⟨p,0,Xb⟩)] 85)).alloc (Xk #[I6 (k:Int)] 3)).alloc (Xk #[O cq cs cr] 255));have cu:Xo (zc w g):=dD<|by rw[<-r];exact((za _ _).trans (za _ _)).trans (za _ _)
 have em:Xo (Box g h [Xj (Xa ⟨p,0,Xb⟩)]):=dD<|by rw[<-r,<-bo.out];exact((Box.aD w [Xj (Xa ⟨p,0,Xb⟩)] _ rfl).alloc _).alloc _
 have el:Xo (Box g (h+1) [I6 (k:Int)]):=dD<|by rw[<-r];exact(Box.aD _ [I6 (k:Int)] _ (by have:=bo.out;simp;omega)).alloc _
 have fb:Xo (Box g (h+2) [O cq cs cr]):=dD<|by rw[<-r];exact Box.aD _ [O cq cs cr] _ (by have:=bo.out;simp;omega)
 have bp:Xo (g.heap.size=h+3):=dD<|by rw[<-r];have:=bo.out;simp;omega
 have dj:Xo (_=g):=r;clear r
 go_enter func241,ntmps241
 go_upto_region 1 with fail;rw[dj.out,bo.out];obtain⟨⟨F,G,H,K,L,M,N,P⟩,R,S,Q,z,T⟩:=f;have cn:zc g g.drew:=show Below _ _ _ from(bR _ _).drew
 obtain⟨I,av⟩:=Wq fun W=>zc g W
 have b8:=(av _).2 cn;have c4:g.drew=g.drew:=rfl;have dy:=em.h av 0 rfl
 have dt:=el.h av 0 rfl
 have e8:∀y:zo I,y.world.cell? ⟨p,0,Xb⟩=Xa (O (Xa bg) V.f.n V.f.c):=fun y=>by rw[<-da.out];exact(dc.box.box.aA (cu.trans ((av _).1 y.holds))).c 0 rfl
 have b:∀y:zo I,ziT y.world (bg.add (k*13)) ⟨⟨F,G,H,K,L,M,N,P⟩,R,S,Q,z,T⟩:=fun y=>db.out _ (cu.trans ((av _).1 y.holds))
 have c5:=fun y=>(b y).1
 have c6:=fun y=>(b y).2.1
 have c7:=fun y=>(b y).2.2.1
 have c8:=fun y=>(b y).2.2.2.1
 have c9:=fun y=>(b y).2.2.2.2.1
 have ca:=fun y=>(b y).2.2.2.2.2.1
 have cb:=fun y=>(b y).2.2.2.2.2.2.1
 have cc:=fun y=>(b y).2.2.2.2.2.2.2.1
 have cd:=fun y=>(b y).2.2.2.2.2.2.2.2.1
 have ce:=fun y=>(b y).2.2.2.2.2.2.2.2.2.1
 have al:=fun y=>(b y).2.2.2.2.2.2.2.2.2.2.1
 have am:=fun y=>(b y).2.2.2.2.2.2.2.2.2.2.2.1
 have ao:=fun y=>(b y).2.2.2.2.2.2.2.2.2.2.2.2
 dsimp only at c5 c6 c7 c8 c9 ca cb cc cd ce al am ao;clear b;have dw:Nonempty (zo I):=⟨⟨_,b8⟩⟩;refine qj (I:=I) 11 [(9,fun gq=>gq=Xj (Xa ⟨h+3,0,Xb⟩)),(10,fun _=>True)] (fun W=>W=g.drew) b8 c4 zU Kr rfl rfl Dc (Sb ⟨_,rfl⟩ ⟨undef,trivial⟩) Kr ?_
 simp only[Yp,Yq];refine zw ?_
 refine qx (.tmp 14) ⟨p,0,Xb⟩ rfl rfl rfl rfl ?_;refine Uq ?_;iterate 7 refine zw ?_
 refine zL rfl rfl (fun _ W=>zg W (h+3) 93 (frv fr0)/\zc g W) (fun w' dp ah=>?_) (fun gr aq=>?_)
 ·subst ah;refine zI.allocFr rfl ?_;have bb:g.drew.heap.size=h+3:=bp.out;refine⟨(av _).2 (cn.trans (za _ _)),by rw[bb],zg.aD _ (frv fr0) _ bb.symm,cn.trans (za _ _)⟩
 subst aq;refine Uq ?_;refine zL rfl rfl (fun _ W=>zg W (h+3) 93 [U8 F,U8 G,U8 H,U8 K,U8 L,U8 M,U8 N,U8 P,I6 R,Xh S,Xh Q,I6 z,I6 T]/\zc g W) (fun w' dp ah=>?_) (fun gr aq=>?_)
 ·refine zI.aL 93 (.tmp 7) (.tmp 22) rfl (h+3) rfl [U8 F,U8 G,U8 H,U8 K,U8 L,U8 M,U8 N,U8 P,I6 R,Xh S,Xh Q,I6 z,I6 T] rfl ah.1 rfl Kr (by simp[Value.oneCell']) ?_
  intro eq dl dm _;have bi:zc g eq:=zd ah.2 dm (Hm bp.out)
  exact⟨(av _).2 bi,trivial,dl,bi⟩
 clear aq;try simp only[Xx]
 refine jL fun bf dq D=>?_
 have f5:=dD D.1.box;have au:=dD<|cu.trans D.2;have en:=dD<|em.aA D.2;have f9:=dD<|el.aA D.2;have fc:=dD<|fb.aA D.2;clear dq D b8 c4 dy dt e8 c5 c6 c7 c8 c9 ca cb cc cd ce al am ao dw cn;have gj:∀(ex:Fn)(first c0:Array Xq)(w:Xn),(Instr.makeFunc ex first c0).run prog w=.ok (.func ex first c0) w:=fun _ _ _ _=>rfl
 have hd:=enters_of func248 Kr rfl
 have gn:=en.c 0 rfl;have bz:=(dc.box.box.aA au).c 10 rfl;rw[de.out,bv.out]at bz;go_wp2;clear gn bz;have bw:Xo (∀az,zc bf az->∀(q n:Nat)s a,m.sp[q]?=Xa s->a∈s.aE->n<64->Xp prog 248 #[Xi #[I6 (q:Int),I6 (n:Int)],Xi #[I6 a.fr,I6 a.tz,Xh a.rd,Xh a.wr,Xh a.sh,I6 a.file,I6 a.base],Xj (Xa ⟨h+3,0,Xb⟩),Xj (Xa ⟨h+2,0,Xb⟩),Xj (Xa ⟨h,0,Xb⟩),Xj (Xa ⟨h+1,0,Xb⟩)] az fun e w'=>e=Xl (Xh (Jf k ⟨⟨F,G,H,K,L,M,N,P⟩,R,S,Q,z,T⟩ l q s a n))/\zc az w'):=dD<|fun az bk q n s a bb U cp=>by
  obtain⟨fk,gy,gz,h6,h7,fl,h8,fm⟩:=(aw q s bb).2 a U;exact zlS (dc.aA (au.trans bk)) (h+3) (h+2) h (h+1) ⟨⟨F,G,H,K,L,M,N,P⟩,R,S,Q,z,T⟩ k (O cq cs cr) l (f5.aA bk) (fc.aA bk) (en.aA bk) (f9.aA bk) (f8.aA (au.trans bk)) q n s a bb cp bq (fun e=>⟨⟨fl,by have:a.file=z:=e;have hg:0<=z:=bq.out;have:=fm Wm;omega⟩,fk,Wm⟩)
 go_loopg[30] ar (fun c1 eb wr=>∃q:Nat,q<=ar/\ar-q<=c1/\eb=I6 q/\Xo (zc bf wr)/\Xo (∀(B:Nat)(s:Sp)(i:Nat)(a:Ar)(n:Nat),B<q->m.sp[B]?=Xa s->s.aE[i]?=Xa a->Jc a n=Xc->n<64->Jf k ⟨⟨F,G,H,K,L,M,N,P⟩,R,S,Q,z,T⟩ l B s a n=Xd))
 exact⟨0,nZ _,Wm,rfl,zc.refl _,fun B s i a n f0=>absurd f0 (nL _)⟩
 obtain⟨q,f0,gh,rfl,cx,eh⟩:=hrel
 by_cases A:q<ar
 ·have cj:=kC A
  obtain⟨x,bl⟩:∃x,ee[q]?=Xa x:=⟨_,gE (Rx dk.out A)⟩
  obtain⟨s,be⟩:∃s,Xo (m.sp[q]?=Xa s):=⟨_,gE (Rx Y.out A)⟩
  have bn:=dD<|di.out q x s bl be.out;obtain⟨bg,rfl,cf⟩:=dh.out q x bl;obtain⟨fv,fw,fy,fz,g0,g1,g2,g3,g4,g6⟩:=cf wr (au.trans cx);clear cf bl;go_upto_region 6 with fail;obtain⟨he,br⟩:=kA wr.heap.size;obtain⟨fi,ai⟩:=kB (wr.alloc (Xk #[Xh x.aH,x.ar.x,x.t0.x,x.t1.x,x.t2.x,x.t3.x,x.t4.x,x.t5.x,x.t6.x,x.t7.x] 76));have f6:Xo (zc bf fi):=show zc _ _ from cx.trans (by rw[<-ai];exact za _ _)
  have fe:=xP ai br
  rw[ai,br.out];clear ai fv fw fy fz g0 g1 g2 g3 g4 g6;have cy:=dD bn.ar.n;obtain⟨bh,ag⟩:=kA s.aE.length;have ga:bh<=16:=by rw[<-ag.out];exact(aw q s be).1
  obtain⟨fp,fq,b9,ak⟩:=bn.ar.aE;simp only[vJ]at b9;have cz:=dD ak;have e9:=fe.c 1 rfl;simp only[Sli.x]at e9;rw[b9.1,cy.out,ag.out]at e9;clear b9 ak;go_wp2;clear e9
  go_loopg[38] bh (fun c1 ec wr=>∃j:Nat,j<=bh/\bh-j<=c1/\ec=I6 j/\Xo (zc bf wr)/\Xo (∀(i:Nat)(a:Ar)(n:Nat),i<j->s.aE[i]?=Xa a->Jc a n=Xc->n<64->Jf k ⟨⟨F,G,H,K,L,M,N,P⟩,R,S,Q,z,T⟩ l q s a n=Xd))
  exact⟨0,nZ _,Wm,rfl,f6,fun i a n ez=>absurd ez (nL _)⟩
  obtain⟨j,hh,ge,rfl,cv,ei⟩:=hrel
  by_cases ac:j<bh
  ·have ch:=kC ac
   obtain⟨a,bm⟩:∃a,Xo (s.aE[j]?=Xa a):=⟨_,gE (Rx ag.out ac)⟩
   obtain⟨fo,rfl,cg⟩:=cz.out j a bm.out;obtain⟨er,es,et,eu,ev,ew,e6⟩:=cg wr (au.trans cv);have E:=(aw q s be).2 a (mG bm);obtain⟨v,ba⟩:∃v:Nat,a.fr=(v:Int):=⟨a.fr.toNat,Hm E.1⟩
   obtain⟨u,bd⟩:∃u:Nat,a.tz=(u:Int):=⟨a.tz.toNat,by have:=E.1;have:=E.2.1;omega⟩
   have gc:v<u:=Hm E.2.1
   have dz:u<=64:=Hm E.2.2.1
   have bu:=dD<|mG bm.out;have bt:Xo (∀n:Nat,Jc a n=Xc↔v<=n/\n<u):=show∀n:Nat,_ from fun n=>by rw[jg,ba,bd];omega
   obtain⟨h9,ft,Z,a9,a0,d,c⟩:=a;simp only at ba bd er es et eu ev ew e6;subst ba;subst bd;clear cg E;go_upto_region 9 with fail;obtain⟨g7,bs⟩:=kA wr.heap.size;obtain⟨fj,aj⟩:=kB (wr.alloc (Xk #[I6 (v:Int),I6 (u:Int),Xh Z,Xh a9,Xh a0,I6 d,I6 c] 125));have f7:Xo (zc bf fj):=dD<|cv.trans (by rw[<-aj];exact za _ _)
   have eo:=xP aj bs
   rw[aj,bs.out];clear aj er es et eu ev ew e6;have ef:=eo.c 0 rfl;go_wp2;clear ef
   go_loopg[13] (u-v) (fun c1 ea wr=>∃n:Nat,v<=n/\n<=u/\u-n<=c1/\ea=I6 n/\Xo (zc bf wr)/\Xo (Box wr g7 [I6 (v:Int),I6 (u:Int),Xh Z,Xh a9,Xh a0,I6 d,I6 c])/\Xo (∀t:Nat,v<=t->t<n->Jf k ⟨⟨F,G,H,K,L,M,N,P⟩,R,S,Q,z,T⟩ l q s ⟨(v:Int),(u:Int),Z,a9,a0,d,c⟩ t=Xd))
   exact⟨v,nR _,Wm,Wm,rfl,f7,eo,fun t C aa=>absurd aa Wm⟩
   obtain⟨n,dv,gk,gf,rfl,cw,ep,ej⟩:=hrel;obtain⟨ef,gs,gt,gu,gv,gw,gx⟩:=ep.c7
   by_cases ae:n<u
   ·have ci:=kC ae
    have co:=bw.out wr cw q n s _ be bu Wm
    simp only at co;obtain⟨fh,ay⟩:=kA (Jf k ⟨⟨F,G,H,K,L,M,N,P⟩,R,S,Q,z,T⟩ l q s ⟨(v:Int),(u:Int),Z,a9,a0,d,c⟩ n);rw[ay.out]at co;go_wp2_with fail;refine co.mono ?_;rintro e eq⟨rfl,bi⟩;have ek:=dD (cw.trans bi);have fg:=dD (ep.aA bi);clear bi co ef gs gt gu gv gw gx
    cases fh with
    |true=>
     have dg:Xo (cm=Xc):=bx.out ⟨q,s,j,_,n,be,bm,(bt n).2 ⟨dv,ae⟩,Wm,ay⟩
     go_wp2;go_ret;exact⟨Rr dg.out,au.trans ek⟩
    |false=>
     have f4:Xo (∀t:Nat,v<=t->t<n+1->Jf k ⟨⟨F,G,H,K,L,M,N,P⟩,R,S,Q,z,T⟩ l q s ⟨(v:Int),(u:Int),Z,a9,a0,d,c⟩ t=Xd):=dD<|fun t C aa=>by
      by_cases e:t=n
      ·subst e;exact ay.out
      exact ej t C Wm
     go_wp2
     go_roundg (u-(n+1));exact⟨n+1,Wm,Wm,Wm,Gn,ek,fg,f4⟩;omega
   have ci:=kD ae
   have ct:Xo (∀(i:Nat)(a:Ar)(n:Nat),i<j+1->s.aE[i]?=Xa a->Jc a n=Xc->n<64->Jf k ⟨⟨F,G,H,K,L,M,N,P⟩,R,S,Q,z,T⟩ l q s a n=Xd):=dD<|fun i a t ez U ab du=>by
    by_cases e:i=j
    ·subst e;rw[bm.out]at U;cases U;obtain⟨C,aa⟩:=(bt t).1 ab;exact ej t C Wm
    exact ei i a t Wm U ab du
   go_wp2
   go_roundg (bh-(j+1));exact⟨j+1,Wm,Wm,Gn,cw,ct⟩;omega
  have ch:=kD ac
  have A2:Xo (∀(B:Nat)(s:Sp)(i:Nat)(a:Ar)(n:Nat),B<q+1->m.sp[B]?=Xa s->s.aE[i]?=Xa a->Jc a n=Xc->n<64->Jf k ⟨⟨F,G,H,K,L,M,N,P⟩,R,S,Q,z,T⟩ l B s a n=Xd):=show∀(B:Nat)(s:Sp)(i:Nat)(a:Ar)(n:Nat),_ from fun B gp i a n gl bc U ab cp=>by
   by_cases e:B=q
   ·subst e;rw[be.out]at bc;cases bc;exact ei i a n (by have:=(gS.1 U).1;have:=ag.out;omega) U ab cp
   exact eh B gp i a n Wm bc U ab cp
  go_wp2
  go_roundg (ar-(q+1));exact⟨q+1,Wm,Wm,Gn,cv,A2⟩;omega
 have cj:=kD A
 have dg:Xo (cm=Xd):=df.out fun B s i a n C aa c2 c3=>eh.out B s i a n (by have:=(gS.1 C).1;have:=Y.out;omega) C aa c2 c3
 go_wp2;go_ret;exact⟨Rr dg.out,au.trans cx⟩
variable{X:Nat->Prop}
theorem zl7(a0 a1 a2 a3 a4 a5 a6 a7 a b c d e f g h:Int)(x):(Op.equalIn 10000 91 (Xi #[U8 a0,U8 a1,U8 a2,U8 a3,U8 a4,U8 a5,U8 a6,U8 a7]) (Xi #[U8 a,U8 b,U8 c,U8 d,U8 e,U8 f,U8 g,U8 h])).run prog x=.ok (decide ([a0,a1,a2,a3,a4,a5,a6,a7]=[a,b,c,d,e,f,g,h])) x:=by
 have i:=zbB 9998 a0 a1 a2 a3 a4 a5 a6 a7 a b c d e f g h x;rw[show zeV ⟨a0,a1,a2,a3,a4,a5,a6,a7⟩ ⟨a,b,c,d,e,f,g,h⟩=decide ([a0,a1,a2,a3,a4,a5,a6,a7]=[a,b,c,d,e,f,g,h])from by
  rw[Bool.eq_iff_iff,zaS,decide_eq_true_iff]
  simp]at i
 exact i
theorem zkY{w:Xn}{p:Nat}(h:ChW w0 X p w V m)(ax:Rt m)(k:Nat)(f:Fr)(a8:m.fs[k]?=Xa f)(cg:f.f≠-1)(de:f.r≠0)(c8)(l:List (Nat×Nat))(A:zj Jb w c8 l):
  Xp prog 230 #[Xj (Xa ⟨p,0,Xb⟩),I6 (k:Int),c8] w fun e w'=>e=Xl (Xh (zdn m k f l).1)/\Chg w0 X p w V (zdn m k f l).2 w':=by
 obtain⟨f5,f2,Y,B,am,bt,a⟩:=zcw ax a8 cg;have a9:=mG bt;have bx:Z4 m f.f=am.size:=by unfold Z4;rw[a.ff,tN,gD,a.fl];rfl
 have hcut:zg1 m f=Zm (pgL f.p) (B:Int) am.size:=by unfold zg1;rw[bx,a.fx]
 have e3:0<=f.f:=by rw[a.ff];omega
 obtain⟨cp,bs⟩:∃cp,am.bl[B]?=Xa cp:=⟨_,gE a.bl⟩;have s:=dD h;obtain⟨q,I⟩:=kA (zg1 m f);have a6:q.length=8:=by rw[<-I.out,hcut];unfold Zm;simp[pgL]
 have C:Xo (∀W,zc w W->Xp prog 227 #[Xj (Xa ⟨p,0,Xb⟩),Xi (frv f).toArray] W fun e w'=>e=Xl (Xi (pgc q).toArray)/\zc W w'):=dD<|fun W z=>by
  rw[<-I.out,hcut];exact(zb7 (h.aA z) f Y B am a.ff a.fx a.fl a.sz a.lo).mono fun e w' S=>⟨S.1,S.2.2⟩
 obtain⟨ak,ba⟩:=kA (zf7 m k f l);have cl:Xo (∀W,zc w W->Xp prog 241 #[Xj (Xa ⟨p,0,Xb⟩),I6 (k:Int),c8] W fun e w'=>e=Xl (Xh ak)/\zc W w'):=dD<|fun W z=>by
  rw[<-ba.out];exact zkW (h.aA z) ax k f a8 e3 c8 l (A.aA z)
 obtain⟨cb,ac⟩:=kA (qF m f.f f.x);have a7:cb.length=8:=by
  rw[<-ac.out];have el:=h.at;exact zbf el.db.2.1 el.dq.2.1 _ _
 have af:Xo (∀W,zc w W->Xp prog 155 #[Xi (mL V m).toArray,I6 (Y:Int),I6 (B:Int)] W fun e w'=>e=Xl (Xi (pgc cb).toArray)/\zc W w'):=dD<|fun W z=>by
  rw[<-ac.out,a.ff,a.fx];have f6:=a.sz;have f7:=a.lo;exact(zal V m Y B am cp W (h.at.aA z) a.fl bs Wm Wm).mono fun e w' S=>⟨S.1,S.2.2⟩
 obtain⟨T,ab⟩:=kA (decide (jM m.fl m.cnt f.f f.x=0));have bd:Xo (∀W,zc w W->Xp prog 195 #[Xj (Xa ⟨p,0,Xb⟩),I6 (k:Int)] W fun e w'=>e=Xl (Xh T)/\Chg w0 X p w V (wrM m q f.f f.x) w'):=dD<|fun W z=>by
  have ej:=zjx (h.aA z) k f a8 Y B am a.ff a.fx a.fl a.sz a.lo;rw[<-hcut,I.out,<-a.ff,<-a.fx,ab.out]at ej;exact ej.mono fun e w' S=>⟨S.1,Chg.aG z S.2.chg⟩
 have bb:Xo (∀W co,ChW w0 X p W co (wrM m q f.f f.x)->Xp prog 186 #[Xj (Xa ⟨p,0,Xb⟩),I6 (k:Int)] W fun e w'=>(∃v,e=Xl v)/\Chg w0 X p W co (qh (wrM m q f.f f.x) k) w'):=dD<|fun W co cr=>by
  have df:Rt (wrM m q f.f f.x):=by
   by_cases e:jM m.fl m.cnt f.f f.x=0
   ·obtain⟨dr,ew,ex,_⟩:=zhv (fun _ _=>False) ax a9 a e q
    rw[ew];exact ex.rt
   have:wrM m q f.f f.x=m:=by unfold wrM;rw[kF e]
   rw[this];exact ax
  exact zgZ cr df k f (Rx zlr a8) cg de
 have bc:Xo (∀W,zc w W->Xp prog 186 #[Xj (Xa ⟨p,0,Xb⟩),I6 (k:Int)] W fun e w'=>(∃v,e=Xl v)/\Chg w0 X p w V (qh m k) w'):=dD<|fun W z=>(zgZ (h.aA z) ax k f a8 cg de).mono fun e w' S=>⟨S.1,Chg.aG z S.2⟩
 obtain⟨aj,ae⟩:=kA (decide (q=pgL f.p));obtain⟨j,a5⟩:=kA (decide (cb=q));obtain⟨U,b9⟩:=kA (zdn m k f l);have cc:Xo (U=if aj=Xd/\ak=Xc then(Xd,m)else if f.d=Xc\/j=Xd then(if T=Xc then(Xc,qh (wrM m q f.f f.x) k)else if j=Xc then(Xc,qh m k)else(Xd,m))else(Xc,qh m k)):=dD<|by
  rw[<-b9.out];unfold zdn;rw[I.out,ba.out,ac.out,<-ae.out,<-a5.out,<-ab.out];simp only[decide_eq_false_iff_not,decide_eq_true_eq]
 have ai:Xo (T=Xd->wrM m q f.f f.x=m):=dD<|fun e=>by
  unfold wrM;rw[kF (of_decide_eq_false (ab.trans e))]
 rw[b9.out];obtain⟨cd,ck⟩:=kA (wrM m q f.f f.x);rw[ck.out]at bd bb cc ai;obtain⟨f0,-⟩:=h.at.ns;obtain⟨f1,e8,e9⟩:=h.at.bC k f a8;have ci:=dD e8;have cj:=dD e9
 have ez:(k:Int)<(V.f.n:Int):=by
  have:=(gS.1 a8).1;omega
 have bu:=a.ff;have bv:=a.fx;obtain⟨be,bf,bg,bh,bi,bj,a0,bl,a2⟩:=zc4 q a6;obtain⟨eb,ec,ed,ee,ef,eg,eh,ei,al⟩:=zc4 cb a7;obtain⟨⟨an,ao,ap,aq,ar,au,av,aw⟩,bq,br,D,f3,f4⟩:=f;dsimp only at bu bv ae cc;have dc:∀W,(Op.equalIn 10000 91 (Xi #[U8 be,U8 bf,U8 bg,U8 bh,U8 bi,U8 bj,U8 a0,U8 bl]) (Xi #[U8 an,U8 ao,U8 ap,U8 aq,U8 ar,U8 au,U8 av,U8 aw])).run prog W=.ok aj W:=fun W=>by
  rw[zl7];have:=ae.out;rw[a2]at this;rw[<-this];rfl
 have dd:∀W,(Op.equalIn 10000 91 (Xi #[U8 eb,U8 ec,U8 ed,U8 ee,U8 ef,U8 eg,U8 eh,U8 ei]) (Xi #[U8 be,U8 bf,U8 bg,U8 bh,U8 bi,U8 bj,U8 a0,U8 bl])).run prog W=.ok j W:=fun W=>by
  rw[zl7,<-a2,<-al,a5.out]
 rw[a2]at C;rw[al]at af;subst bu;subst bv;simp only[pgc,frv,mP,Ok]at C af;clear h ax a8 cg de A bt a a9 bx hcut e3 bs a6 a7 e8 e9 f0 a2 al;have em:=s.box.box.c 0 rfl;rw[ci.out]at em;obtain⟨ds,dt,du,dv,dw,dx,bp,dy,dz,e0,bm,bn,bo⟩:=cj.out w (zc.refl _);dsimp only at ds dt du dv dw dx bp dy dz e0 bm bn bo
 go_enter func230,ntmps230
 go_upto_region 2 with fail;clear ds dt du dv dw dx bp dy dz e0 bm bn bo em;obtain⟨dr,dm⟩:=kA w.heap.size;obtain⟨ce,a1⟩:=kB (w.alloc (Xk #[U8 an,U8 ao,U8 ap,U8 aq,U8 ar,U8 au,U8 av,U8 aw,I6 bq,Xh br,Xh D,I6 (Y:Int),I6 (B:Int)] 93));have ay:=gA a1
 have dq:=xP a1 dm
 rw[a1,dm.out];clear a1;have ea:∀y:zf ce,Box y.world dr [U8 an,U8 ao,U8 ap,U8 aq,U8 ar,U8 au,U8 av,U8 aw,I6 bq,Xh br,Xh D,I6 (Y:Int),I6 (B:Int)]:=fun y=>dq.aA y.aA
 have t:Xo (∀y:zf ce,_):=ea;clear ea;have F:=fun y=>(t y).c 0 rfl
 have G:=fun y=>(t y).c 1 rfl
 have H:=fun y=>(t y).c 2 rfl
 have K:=fun y=>(t y).c 3 rfl
 have L:=fun y=>(t y).c 4 rfl
 have M:=fun y=>(t y).c 5 rfl
 have N:=fun y=>(t y).c 6 rfl
 have P:=fun y=>(t y).c 7 rfl
 have Q:=fun y=>(t y).c 8 rfl
 have R:=fun y=>(t y).c 9 rfl
 have d:=fun y=>(t y).c 10 rfl
 have g:=fun y=>(t y).c 11 rfl
 have i:=fun y=>(t y).c 12 rfl
 have E:Nonempty (zf ce):=⟨⟨_,zc.refl _⟩⟩
 go_cut[30] (fun dg c9=>dg=Xh (!aj&&ak)/\Xo (zc ce c9))
 case first=>
  cases aj with
  |true=>
   refine qq [(2,⟨fun v=>v=Xi #[U8 be,U8 bf,U8 bg,U8 bh,U8 bi,U8 bj,U8 a0,U8 bl],fun v w'=>True⟩)] zU Kr (Sa ⟨_,rfl⟩) ?hp ?_
   case hp=>
    intro ca c;simp only[mC,nM,or_false]at c;subst c;exact fun _ _ _ _ h=>h
   iterate 2 refine ze ?_
   refine zz rfl rfl (fun w' a3 Z=>?_) (fun ch A=>?_)
   ·refine zI.call [Xj (Xa ⟨p,0,Xb⟩),Xi #[U8 an,U8 ao,U8 ap,U8 aq,U8 ar,U8 au,U8 av,U8 aw,I6 bq,Xh br,Xh D,I6 (Y:Int),I6 (B:Int)]] rfl func227 rfl rfl rfl ?_;refine(C w' (ay.trans a3)).mono ?_;rintro e a4⟨rfl,n⟩;exact⟨_,rfl,n,rfl,trivial⟩
   subst A;refine Uq ?_;iterate 4 refine ze ?_
   iterate 4 (refine jo Kr ?_;simp only[Xx,sB,sS,sZ])
   refine ze ?_
   refine zH fun es n Z=>?_
   have aa:=dD n;clear n Z E F G H K L M N P Q R d g i;go_wp2
   go_meet
   exact⟨rfl,aa⟩
  |false=>
   refine qq [(2,⟨fun v=>v=Xi #[U8 be,U8 bf,U8 bg,U8 bh,U8 bi,U8 bj,U8 a0,U8 bl],fun v w'=>True⟩),(10,⟨fun v=>v=Xh ak,fun v w'=>True⟩)] zU Kr (Sb ⟨_,rfl⟩ ⟨_,rfl⟩) ?hp ?_
   case hp=>
    intro ca c;simp only[mC,nM,or_false]at c
    rcases c with rfl|rfl
    ·exact fun _ _ _ _ h=>h
    exact fun _ _ _ _ h=>h
   iterate 2 refine ze ?_
   refine zz rfl rfl (fun w' a3 Z=>?_) (fun ch A=>?_)
   ·refine zI.call [Xj (Xa ⟨p,0,Xb⟩),Xi #[U8 an,U8 ao,U8 ap,U8 aq,U8 ar,U8 au,U8 av,U8 aw,I6 bq,Xh br,Xh D,I6 (Y:Int),I6 (B:Int)]] rfl func227 rfl rfl rfl ?_;refine(C w' (ay.trans a3)).mono ?_;rintro e a4⟨rfl,n⟩;exact⟨_,rfl,n,rfl,trivial⟩
   subst A;refine Uq ?_;iterate 7 refine ze ?_
   refine zz rfl rfl (fun w' a3 Z=>?_) (fun ch A=>?_)
   ·refine zI.call [Xj (Xa ⟨p,0,Xb⟩),I6 (k:Int),c8] rfl func241 rfl rfl rfl ?_;refine(cl w' (ay.trans a3)).mono ?_;rintro e a4⟨rfl,n⟩;exact⟨_,rfl,n,rfl,trivial⟩
   subst A;refine Uq ?_;refine ze ?_
   refine zH fun es n Z=>?_
   have aa:=dD n;clear n Z E F G H K L M N P Q R d g i;go_wp2
   go_meet
   exact⟨rfl,aa⟩
 obtain⟨rfl,aa⟩:=hcut;clear E F G H K L M N P Q R d g i;obtain⟨ep,cm⟩:=kA (!aj&&ak);rw[cm.out]
 cases ep with
 |true=>
  have x:Xo (U=(Xd,m)):=dD<|by
   rw[cc.out,kE];have:=cm.out
   cases aj<;>cases ak<;>simp_all
  go_wp2;go_ret;exact⟨Rr x.out,by rw[x.out];exact Chg.refl s (ay.trans aa)⟩
 |false=>
  have az:Xo (U=if D=Xc\/j=Xd then(if T=Xc then(Xc,qh cd k)else if j=Xc then(Xc,qh m k)else(Xd,m))else(Xc,qh m k)):=dD<|by
   rw[cc.out,kF];have:=cm.out
   cases aj<;>cases ak<;>simp_all
  go_upto_region 4 with fail;have b:=dD (ay.trans aa);have r:=dD (dq.aA aa);have F:=fun y:zf wc=>(r.aA y.aA).c 0 rfl
  have G:=fun y:zf wc=>(r.aA y.aA).c 1 rfl
  have H:=fun y:zf wc=>(r.aA y.aA).c 2 rfl
  have K:=fun y:zf wc=>(r.aA y.aA).c 3 rfl
  have L:=fun y:zf wc=>(r.aA y.aA).c 4 rfl
  have M:=fun y:zf wc=>(r.aA y.aA).c 5 rfl
  have N:=fun y:zf wc=>(r.aA y.aA).c 6 rfl
  have P:=fun y:zf wc=>(r.aA y.aA).c 7 rfl
  have Q:=fun y:zf wc=>(r.aA y.aA).c 8 rfl
  have R:=fun y:zf wc=>(r.aA y.aA).c 9 rfl
  have d:=fun y:zf wc=>(r.aA y.aA).c 10 rfl
  have g:=fun y:zf wc=>(r.aA y.aA).c 11 rfl
  have i:=fun y:zf wc=>(r.aA y.aA).c 12 rfl
  have cs:=fun y:zf wc=>(s.box.box.aA (b.trans y.aA)).c 0 rfl
  have ct:=fun y:zf wc=>(s.box.box.aA (b.trans y.aA)).c 1 rfl
  have cu:=fun y:zf wc=>(s.box.box.aA (b.trans y.aA)).c 2 rfl
  have cv:=fun y:zf wc=>(s.box.box.aA (b.trans y.aA)).c 3 rfl
  have cw:=fun y:zf wc=>(s.box.box.aA (b.trans y.aA)).c 4 rfl
  have cx:=fun y:zf wc=>(s.box.box.aA (b.trans y.aA)).c 5 rfl
  have cy:=fun y:zf wc=>(s.box.box.aA (b.trans y.aA)).c 6 rfl
  have cz:=fun y:zf wc=>(s.box.box.aA (b.trans y.aA)).c 7 rfl
  have da:=fun y:zf wc=>(s.box.box.aA (b.trans y.aA)).c 8 rfl
  have db:=fun y:zf wc=>(s.box.box.aA (b.trans y.aA)).c 9 rfl
  have bw:=fun y:zf wc=>(s.box.box.aA (b.trans y.aA)).c 10 rfl
  have E:Nonempty (zf wc):=⟨⟨_,zc.refl _⟩⟩;refine qq [(8,⟨fun v=>v=Xi #[U8 eb,U8 ec,U8 ed,U8 ee,U8 ef,U8 eg,U8 eh,U8 ei],fun v w'=>True⟩),(11,⟨fun v=>v=Xi #[U8 be,U8 bf,U8 bg,U8 bh,U8 bi,U8 bj,U8 a0,U8 bl],fun v w'=>True⟩)] zU Kr (Sb ⟨_,rfl⟩ ⟨_,rfl⟩) ?hp ?_
  case hp=>
   intro ca c;simp only[mC,nM,or_false]at c
   rcases c with rfl|rfl
   ·exact fun _ _ _ _ h=>h
   exact fun _ _ _ _ h=>h
  refine ze ?_
  refine Zj (.tmp 31) ⟨p,0,Xb⟩ rfl rfl rfl rfl ?_;refine Uq ?_;iterate 6 refine ze ?_
  refine zz rfl rfl (fun w' a3 Z=>?_) (fun ch A=>?_)
  ·refine zI.call [Xi (mL V m).toArray,I6 (Y:Int),I6 (B:Int)] rfl func155 rfl rfl rfl ?_;refine(af w' (b.trans a3)).mono ?_;rintro e a4⟨rfl,n⟩;exact⟨_,rfl,n,rfl,trivial⟩
  subst A;refine Uq ?_;iterate 2 refine ze ?_
  refine zz rfl rfl (fun w' a3 Z=>?_) (fun ch A=>?_)
  ·refine zI.call [Xj (Xa ⟨p,0,Xb⟩),Xi #[U8 an,U8 ao,U8 ap,U8 aq,U8 ar,U8 au,U8 av,U8 aw,I6 bq,Xh br,Xh D,I6 (Y:Int),I6 (B:Int)]] rfl func227 rfl rfl rfl ?_;refine(C w' (b.trans a3)).mono ?_;rintro e a4⟨rfl,n⟩;exact⟨_,rfl,n,rfl,trivial⟩
  subst A;refine Uq ?_;iterate 2 refine ze ?_
  refine zH fun et cq Z=>?_
  have dl:=dD (b.trans cq);have ev:=dD (r.aA cq);clear cq Z E F G H K L M N P Q R d g i cs ct cu cv cw cx cy cz da db bw dc dd;have dj:=ev.c 10 rfl;go_upto_region 5 with fail
  go_cut[49] (fun dh c9=>dh=Xh (D||!j)/\c9=et)
  case first=>
   cases D<;>cases j
   all_goals(go_wp2;go_meet;exact⟨rfl,rfl⟩)
  obtain⟨rfl,rfl⟩:=hcut;clear dj;obtain⟨eq,ag⟩:=kA (D||!j);rw[ag.out]
  cases eq with
  |false=>
   have x:Xo (U=(Xc,qh m k)):=dD<|by
    rw[az.out,kF];have:=ag.out
    cases D<;>cases j<;>simp_all
   have u:=bc.out wc dl.out;go_wp2_with fail;refine u.mono ?_;clear u;rintro e cf⟨⟨f8,rfl⟩,e4⟩;have cn:Xo (Chg w0 X p w V U.2 cf):=dD<|Rx x.out e4
   clear e4;go_wp2;go_ret;exact⟨Rr x.out,cn⟩
  |true=>
   have b8:Xo (U=if T=Xc then(Xc,qh cd k)else if j=Xc then(Xc,qh m k)else(Xd,m)):=dD<|by
    rw[az.out,kE];have:=ag.out
    cases D<;>cases j<;>simp_all
   have bz:=bd.out wc dl.out;go_wp2_with fail;refine bz.mono ?_;clear bz;rintro e cf⟨rfl,dp,a0,ek,bp⟩;have cn:=dD a0;have dn:=dD ek;have dk:=dD bp;have u:=bb.out cf dp a0;clear a0 ek bp;go_upto_region 7 with fail
   go_cut[58] (fun di c9=>di=Xh (!T&&!j)/\c9=cf)
   case first=>
    cases T<;>cases j
    all_goals(go_wp2;go_meet;exact⟨rfl,rfl⟩)
   obtain⟨rfl,rfl⟩:=hcut;obtain⟨er,ah⟩:=kA (!T&&!j);rw[ah.out]
   cases er with
   |true=>
    have x:Xo (U=(Xd,m)/\cd=m):=dD<|by
     have cr:=ah.out;have ey:=ai.out;rw[b8.out]
     cases T<;>cases j<;>simp_all
    have en:Xo (Chg w0 X p w V U.2 wc):=dD<|by
     rw[x.1,<-x.2];exact⟨dp,cn,dn,dk⟩
    clear u;go_wp2;go_ret;exact⟨Rr x.1,en⟩
   |false=>
    have x:Xo (U=(Xc,qh cd k)):=dD<|by
     have cr:=ah.out;have ey:=ai.out;rw[b8.out]
     cases T<;>cases j<;>simp_all
    go_wp2_with fail;refine u.mono ?_;clear u;rintro e eu⟨⟨f9,rfl⟩,e5⟩;have eo:Xo (Chg w0 X p w V U.2 eu):=dD<|Rx x.out (Chg.step dn dk e5)
    clear e5;go_wp2;go_ret;exact⟨Rr x.out,eo⟩
theorem ziu{w:Xn}{p:Nat}(h:ChW w0 X p w V m)(s:Rt m)(k:Nat)(f:Fr)(g:m.fs[k]?=Xa f)(t:f.r≠0)(q)(l:List (Nat×Nat))(v:zj Jb w q l):
  Xp prog 199 #[Xj (Xa ⟨p,0,Xb⟩),I6 (k:Int),q] w fun e w'=>e=Xl (Xh (jq m k f l).1)/\Chg w0 X p w V (jq m k f l).2 w':=by
 obtain⟨a,-⟩:=h.at.ns;obtain⟨a,a,c⟩:=h.at.bC k f g;have b:(k:Int)<(V.f.n:Int):=by
  have:=(gS.1 g).1;omega
 have b:=h.box.box.c 0 rfl;rw[a]at b;obtain⟨a,a,a,a,a,a,a,a,a,a,a,a,b⟩:=c w (zc.refl _);obtain⟨r,b⟩:=kA f.f;rw[b.out]at a
 by_cases d:f.f=-1
 ·have c:=zkV h s k f g t;have j:Xo (jq m k f l=zak m k f):=dD<|by unfold jq;rw[kE d]
  have x:(r==-1)=Xc:=by rw[<-b.out,d];rfl
  rw[j.out];obtain⟨E,a⟩:=kA (zak m k f);rw[a.out]at c⊢
  go_enter func199,ntmps199
  go_wp2_with fail;refine c.mono ?_;rintro e u⟨rfl,n⟩;have i:=dD n;go_wp2;go_ret;exact⟨rfl,i⟩
 have c:=zkY h s k f g d t q l v;have j:Xo (jq m k f l=zdn m k f l):=dD<|by unfold jq;rw[kF d]
 have x:(r==-1)=Xd:=by rw[<-b.out];simpa using d
 rw[j.out];obtain⟨E,a⟩:=kA (zdn m k f l);rw[a.out]at c⊢
 go_enter func199,ntmps199
 go_wp2_with fail;refine c.mono ?_;rintro e u⟨rfl,n⟩;have i:=dD n;go_wp2;go_ret;exact⟨rfl,i⟩
variable{X:Nat->Prop}
theorem zik(n:Nat)(m:Ma)(l:List (Nat×Nat)){k:Nat}{f:Fr}(hi:J0 m.fs m.aB=(k:Int))(a:(jv m).fs[k]?=Xa f):ZL (n+1) m l=if(jq (jv m) k f l).1=Xc then jq (jv m) k f l else ZL n (jv m) l:=by grind[ZL,tN,zX]
theorem zij(n:Nat)(m:Ma)(l:List (Nat×Nat))(hi:J0 m.fs m.aB=-1):ZL (n+1) m l=(Xd,jv m):=by
 conv=>lhs;unfold ZL
 rw[kE Wm]
theorem zew{w:Xn}{p:Nat}(v:ChW w0 X p w V m)(Y:Rt m)(I)(l:List (Nat×Nat))(aj:zhm Jb (Dw p V) w I l):
  Xp prog 160 #[Xj (Xa ⟨p,0,Xb⟩),I] w fun e w'=>e=Xl (Xh (jP m l).1)/\Chg w0 X p w V (jP m l).2 w':=by
 have ax:=dD aj;have av:=dD v;have aw:=dD Y;obtain⟨ak,-⟩:=v.at.ns;have Z:V.f.n<=40:=Hm Y.inv.bB
 obtain⟨f,z⟩:=kA (jP m l);have A:Xo (ZL (2*V.f.n) m l=f):=dD<|by rw[<-z.out,ak];rfl
 rw[z.out];have L:=v.box.box.c 0 rfl;clear v aj Y ak;obtain⟨c,M⟩:=kA V.f.n;rw[M.out]at L Z A
 go_enter func160,ntmps160
 go_wp2;clear L
 go_loopg[14] (2*c) (fun b2 a0 wr=>∃(t:Nat)(a:Ma)(K:MaV),t<=2*c/\2*c-t<=b2/\a0=I6 t/\Xo (ChW w0 X p wr K a)/\Xo (Rt a)/\Xo (zk (Dw p V) w wr)/\Xo (∀k,Dw p K k->Dw p V k\/w.heap.size<=k)/\Xo (ZL (2*c-t) a l=f))
 exact⟨0,m,V,nZ _,Wm,rfl,av,aw,zk.refl _ _,(fun _ v=>.inl v:∀k,Dw p V k->Dw p V k\/w.heap.size<=k),A⟩
 obtain⟨t,a,K,b9,b3,rfl,s,a8,a7,a3,H⟩:=hrel
 by_cases b4:t<2*c
 ·have F:(t:Int)<2*(c:Int):=Wm
  obtain⟨r,B⟩:∃r,Xo (2*c-t=r+1):=⟨2*c-t-1,show _=_ by omega⟩
  have P:Xo (2*c-(t+1)=r):=dD<|Hm B.out
  rw[B.out]at H;obtain⟨u,_,d⟩:=zgq (fun _ _=>False) a8.out
  have C:=dD u.rt;have x:=dD d;obtain⟨L,b7⟩:=s.box.box.k2;have q:=zq1 s a8.parts.1;obtain⟨b8,i⟩:=kA (J0 a.fs a.aB);rw[i.out]at q x;clear u d;go_wp2_with fail;refine q.mono ?_;clear q L b7;rintro e b0⟨U,rfl,al,u⟩;have ao:=dD (s.box.aA u);have N:Xo (zb z9 wr.heap.size b0 (U.x) (zbE a.fs a.aB)):=al;have ar:=dD u;clear al u
  go_upto_region 5 with(refine qK rfl 32 (.tmp 29) (.tmp 24) rfl p 0 rfl (Xi #[U.x,I6 (zcY a.fs a.aB)]) rfl [U.x,I6 (zcY a.fs a.aB)] rfl ao (by simp[chL]) Kr (by simp[Value.oneCell']) ?_)
  intro T ab E _;obtain⟨a9,ac,am,ae⟩:=Chg.step a7 a3 (s.setF ar N E ab);have a5:Xo (ChW w0 X p T a9 (jv a)):=ac;have S:=dD am;have a1:=dD ae;clear ab E ac am ae;try simp only[Xx]
  rcases x with⟨D,_⟩|⟨k,j,D,W,ag⟩
  ·have b:Xo (f=(Xd,jv a)):=dD<|by rw[<-H.out,zij r a l (Rx i.out D)]
   subst D;have ay:Xo (Chg w0 X p w V f.2 T):=dD<|by rw[b.out];exact⟨a9,a5,S,a1⟩
   go_wp2;go_ret;exact⟨Rr b.out,ay⟩
  have b:Xo (f=if(jq (jv a) k j l).1=Xc then jq (jv a) k j l else ZL r (jv a) l):=dD<|by rw[<-H.out,zik r a l (Rx i.out D) W]
  have n:=ziu a5 C k j W ag I l (ax T S);have h:Xo ((jq (jv a) k j l).1=Xd->(jq (jv a) k j l).2=jv a):=dD<|fun e=>by
   rcases zjv (jv a) k j l with⟨b5,_⟩|⟨_,b6⟩
   ·rw[b5]at e;cases e
   exact b6
  obtain⟨ap,au⟩:=kA (jq (jv a) k j l);rw[au.out]at n b h;subst D;have ai:(0:Int)<=(k:Int):=Wm
  clear W ag;go_wp2_with fail;refine n.mono ?_;clear n;rintro e b1⟨rfl,ah⟩;obtain⟨aa,ad,an,af⟩:=Chg.step S a1 ah;have Q:=dD ad;have a6:=dD an;have a2:=dD af;clear ah ad an af;obtain⟨aq,G⟩:=ap;simp only at Q b h
  cases aq with
  |true=>
   have g:Xo (f=(Xc,G)):=dD<|Rr b.out
   have R:Xo (Chg w0 X p w V f.2 b1):=dD<|by rw[g.out];exact⟨aa,Q,a6,a2⟩
   go_wp2;go_ret;exact⟨Rr g.out,R⟩
  |false=>
   have y:=dD<|h.out rfl;have g:Xo (ZL r G l=f):=show _=_ by rw[b.out,y.out];rfl
   have az:Xo (Rt G):=dD<|Rx y.out C.out
   go_wp2
   go_roundg (2*c-(t+1));exact⟨t+1,G,aa,Wm,Wm,Gn,Q,az,a6,a2,Rx P.out g⟩;omega
 have F:¬(t:Int)<2*(c:Int):=Wm
 have a4:Xo (f=(Xd,a)):=dD<|by
  rw[<-H.out,show 2*c-t=0 by omega]
  rfl
 have R:Xo (Chg w0 X p w V f.2 wr):=dD<|by rw[a4.out];exact⟨K,s,a7,a3⟩
 go_wp2;go_ret;exact⟨Rr a4.out,R⟩
variable{X:Nat->Prop}
theorem zgb{w:Xn}{a:Act}(b:o.op=.alloc 32):(execOp a.eval o).run prog w=.ok (.value (Xj (Xa ⟨w.heap.size,0,Xb⟩))) (w.alloc (Xk #[eS,I6 0] 32)):=by
 simp only[execOp,b]
 go_simp
theorem zbP{w:Xn}{p:Nat}(az:ChW w0 X p w V m)(c3:Rt m)(pg:Pg)(fi ix:Int)(bm:frW (frT pg fi ix)=0)(c8)(l:List (Nat×Nat))(a5:zhm Jb (Dw p V) w c8 l)(bp:∀x∈l,x.2<64/\∃s,m.sp[x.1]?=Xa s)
  (U:qE (zi m l).fs=0->∀c0 cm,ChW w0 X p c0 cm (zi m l)->zhm Jb (Dw p cm) c0 c8 l->Xp prog 160 #[Xj (Xa ⟨p,0,Xb⟩),c8] c0 fun e w'=>e=Xl (Xh (jP (zi m l) l).1)/\Chg w0 X p c0 cm (jP (zi m l) l).2 w'):
  Xp prog 191 #[Xj (Xa ⟨p,0,Xb⟩),Xi #[Xe Xg pg.b0,Xe Xg pg.b1,Xe Xg pg.b2,Xe Xg pg.b3,Xe Xg pg.b4,Xe Xg pg.b5,Xe Xg pg.b6,Xe Xg pg.b7],Xe Xf fi,Xe Xf ix,c8] w fun e w'=>e=Xl (Xm #[Xe Xf ((zaL m (frT pg fi ix) l).2.1:Int),Xe Xf (if(zaL m (frT pg fi ix) l).1=Xc then 0 else 10)])/\Chg w0 X p w V (zaL m (frT pg fi ix) l).2.2 w':=by
 have ch:=dD a5;have em:=dD az;have fq:=dD c3;have fp:=dD bp;have cc:=dD bm;have af:=dD U
 obtain⟨g0,g1,rfl,cw⟩:=(a5 w (zk.refl _ _)).bG;have bj:=(a5 w (zk.refl _ _)).short;obtain⟨ay,ai⟩:=kA l.length;rw[ai.out]at ch af bj⊢;have ca:Xo (∀j,j<=ay->Rt (zi m (l.take j))/\(zi m (l.take j)).sp.length=m.sp.length):=dD<|fun j _=>by
  obtain⟨g,_⟩:=qM (l.take j) c3 (fun x a6=>bp x (Of a6))
  exact⟨g.rt,g.aV.aT⟩
 have cb:Xo (∀(j:Nat)x,l[j]?=Xa x->zi m (l.take (j+1))=zkT (zi m (l.take j)) x.1 (x.2:Int)/\x.1<(zi m (l.take j)).sp.length/\((QH (zi m (l.take j)) x.1 (x.2:Int)).kind=1->jW (zi m (l.take j)).fs (zi m (l.take j)).aB (QH (zi m (l.take j)) x.1 (x.2:Int)).n (-1)=0)):=dD<|fun j x a6=>by
  obtain⟨g,_⟩:=qM (l.take j) c3 (fun x a6=>bp x (Of a6))
  obtain⟨e9,s,fl⟩:=bp x (mG a6);have br:x.1<(zi m (l.take j)).sp.length:=by rw[g.aV.aT];exact(gS.1 fl).1
  have bt:=gE br;refine⟨?_,br,zmZ g.rt bt e9⟩;rw[Yf,a6,zqm g.rt bt e9];exact zb6 _ _ _
 have eo:Xo (p<w.heap.size):=az.aM p (.inl rfl);have el:=dD az.aM;clear az a5 c3 bp bm cw U;have a:Xo (zaL m (frT pg fi ix) l=if(qd (zi m l) l).1=Xc then(Xc,ZE (qd (zi m l) l).2.fs,{(qd (zi m l) l).2 with fs:=(qd (zi m l) l).2.fs.set (ZE (qd (zi m l) l).2.fs) (frT pg fi ix)})else(Xd,0,(qd (zi m l) l).2)):=show _=_ from rfl
 obtain⟨cl,ep⟩:=kA (zaL m (frT pg fi ix) l);rw[ep.out]at a⊢;obtain⟨fx,ac⟩:=kA (if cl.1=Xc then(0:Int)else 10);rw[ac.out];obtain⟨E,h,f,z,F,G,H,K⟩:=pg;simp only;obtain⟨n,c9⟩:=kA w.heap.size;obtain⟨f6,Z⟩:=kB (w.alloc (Xk #[Xe Xg E,Xe Xg h,Xe Xg f,Xe Xg z,Xe Xg F,Xe Xg G,Xe Xg H,Xe Xg K] 91));have dl:=gA Z
 have fa:=xPT Z c9
 have ci:Xo (_=f6):=Z;have en:Xo (¬Dw p V n):=show¬_ from fun e=>by have:=el.out _ e;have:=c9.out;omega
 clear Z
 go_enter func191,ntmps191
 go_upto_region 1 with fail;rw[ci.out,c9.out];go_wp2
 go_loopg[19] ay (fun c2 dg wr=>∃(j:Nat)(S:MaV),j<=ay/\ay-j<=c2/\dg=Xe Xf j/\Xo (ChW w0 X p wr S (zi m (l.take j)))/\Xo (zk (Dw p V) w wr)/\Xo (∀k,Dw p S k->Dw p V k\/w.heap.size<=k)/\Xo (zg wr n 91 [Xe Xg E,Xe Xg h,Xe Xg f,Xe Xg z,Xe Xg F,Xe Xg G,Xe Xg H,Xe Xg K]))
 exact⟨0,V,nZ _,Wm,rfl,em.aA dl,zk.aA dl,(fun _ az=>.inl az:∀k,Dw p V k->Dw p V k\/w.heap.size<=k),fa⟩
 obtain⟨j,S,b8,fk,rfl,W,ck,b9,co⟩:=hrel
 by_cases ar:j<ay
 ·have bq:=kC ar
  obtain⟨x,dm⟩:∃x,Xo (l[j]?=Xa x):=⟨_,gE (Rx ai.out ar)⟩
  obtain⟨_,_,aw,bs⟩:=(ch wr ck).bG;simp only[vJ]at aw;obtain⟨fw,bi,bk⟩:=bs j x dm.out;rw[<-aw.1]at bi;subst bi;obtain⟨dv,dw⟩:=bk wr (zc.refl _);obtain⟨dz,cq,cr⟩:=cb.out j x dm.out;have ba:=dD dz;obtain⟨bw,bx⟩:=x;simp only at dv dw cq cr ba;have ao:=zkX (W.aA (za wr (Xk #[Xe Xf (bw:Int),Xe Xf (bx:Int)] 142))) bw cq (bx:Int) cr;rw[<-ba.out]at ao;clear aw bs bk dz cq cr;go_wp2_with fail;refine ao.mono ?_;clear ao dv dw;rintro e dr⟨⟨g2,rfl⟩,Y⟩;obtain⟨f5,dt,ea,dx⟩:=Chg.step ck b9 (Chg.aG (za _ _) Y);have es:=dD dt;have ew:=dD ea;have ei:=dD dx;have fb:Xo (zg dr n 91 [Xe Xg E,Xe Xg h,Xe Xg f,Xe Xg z,Xe Xg F,Xe Xg G,Xe Xg H,Xe Xg K]):=show zg _ _ _ _ by
   obtain⟨_,_,fn,_⟩:=Y;exact(co.aA (za _ _)).aK fn (W.bQ co Dc Dc Dc Dc)
  clear Y dt ea dx;go_wp2
  go_roundg (ay-(j+1));exact⟨j+1,f5,Wm,Wm,Gn,es,ew,ei,fb⟩;omega
 have bq:=kD ar
 have aq:l.take j=l:=Xv (by rw[ai.out];omega)
 rw[aq]at W;have bb:Xo (Rt (zi m l)):=dD<|by have:=(ca j b8).1;rw[aq]at this;exact this
 clear aq;obtain⟨i,ce⟩:=kA (zi m l);rw[ce.out]at W bb af a;obtain⟨L,A,am⟩:=zaO bb l;have ah:=dD L.rt;have ae:=dD A
 have aj:Xo (qd i l=if qE i.fs=0 then jP i l else(Xc,i)):=dD<|rfl
 clear L A am;obtain⟨ez,cf⟩:=kA (qd i l);rw[cf.out]at ah ae aj a;obtain⟨bc,d⟩:=ez;simp only at ah ae a;have r:Xp prog 222 #[Xi #[O S.f.a S.f.n S.f.c,Xe Xf i.aB]] wr fun e w'=>e=Xl (Xe Xf (qE i.fs:Int))/\zc wr w':=by
  obtain⟨dd,-⟩:=W.at.ns;have Q:=W.at.fs;rw[dd]at Q⊢;rw[<-zoz];exact zgu S.f.a S.f.c i.fs i.aB wr Q
 obtain⟨bw,bx⟩:=W.box.box.k2;go_upto_region 6 with fail
 go_cut[39] (fun dh dj=>∃D:MaV,dh=Xh (!bc)/\Xo (ChW w0 X p dj D d)/\Xo (zk (Dw p V) w dj)/\Xo (∀k,Dw p D k->Dw p V k\/w.heap.size<=k)/\Xo (zg dj n 91 [Xe Xg E,Xe Xg h,Xe Xg f,Xe Xg z,Xe Xg F,Xe Xg G,Xe Xg H,Xe Xg K]))
 case first=>
  go_wp2_with fail;refine r.mono ?_;clear r bw bx;rintro e f8⟨rfl,c1⟩;have cj:=dD (W.aA c1);have bz:=dD (ck.trans (zk.aA c1));have cn:=dD (co.aA c1);clear c1
  by_cases al:qE i.fs=0
  ·have c6:((qE i.fs:Int)==0)=Xc:=Rr al
   have ab:Xo ((bc,d)=jP i l):=dD<|by rw[aj.out,kE al]
   have ap:=af.out al f8 S cj (fun a7 c5=>ch.out a7 (zk.far bz b9 c5))
   obtain⟨fj,ag⟩:=kA (qE i.fs:Int);rw[ag.out]at c6⊢;rw[<-ab.out]at ap;clear al;go_wp2_with fail;refine ap.mono ?_;clear ap;rintro e f9⟨rfl,dq,du,de,dy⟩;have ex:=dD<|zk.far bz b9 de;have ej:Xo (∀k,Dw p dq k->Dw p V k\/w.heap.size<=k):=show∀k,_ from fun k a4=>(dy k a4).elim (fun e=>b9.out k e) (fun e=>.inr (nT bz.size e))
   have fc:Xo (zg f9 n 91 [Xe Xg E,Xe Xg h,Xe Xg f,Xe Xg z,Xe Xg F,Xe Xg G,Xe Xg H,Xe Xg K]):=cn.aK de (cj.bQ cn Dc Dc Dc Dc)
   have eu:=dD du;clear du de dy c6;simp only;cases bc
   all_goals(go_wp2;go_meet;exact⟨dq,rfl,eu,ex,ej,fc⟩)
  have c6:((qE i.fs:Int)==0)=Xd:=Si al
  have ab:Xo ((bc,d)=(Xc,i)):=dD<|by rw[aj.out,kF al]
  obtain⟨fj,ag⟩:=kA (qE i.fs:Int);rw[ag.out]at c6⊢;clear al;have bl:=ab.out;simp only[pJ]at bl;obtain⟨rfl,rfl⟩:=bl;go_wp2
  go_meet
  exact⟨S,rfl,cj,bz,b9,cn⟩
 clear r bw bx;obtain⟨D,rfl,ak,dn,dk,a8⟩:=hcut
 cases bc with
 |false=>
  rw[kF Dc]at a
  have ev:Xo (Chg w0 X p w V cl.2.2 wc):=dD<|by rw[a.out];exact⟨D,ak,dn,dk⟩
  go_wp2
  go_ret2
  exact⟨by rw[<-ac.out,a.out];rfl,ev⟩
 |true=>
  rw[kE rfl]at a;obtain⟨be,ct,fy,e0,fh⟩:=zde (ae rfl);obtain⟨Q,cd⟩:=kA (ZE d.fs);rw[cd.out]at be ct e0 a;have cg:Xo (∀a7,zc wc a7->Xp prog 223 #[Xi #[O D.f.a D.f.n D.f.c,Xe Xf d.aB],Xi #[Xe Xg E,Xe Xg h,Xe Xg f,Xe Xg z,Xe Xg F,Xe Xg G,Xe Xg H,Xe Xg K],Xe Xf fi,Xe Xf ix] a7 fun e w'=>∃s:Sli,e=Xl (Xm #[Xi #[O s.a s.n s.c,Xe Xf d.aB],Xe Xf (Q:Int),Xe Xf 0])/\zb z9 wc.heap.size w' (O s.a s.n s.c) (d.fs.set Q (frT ⟨E,h,f,z,F,G,H,K⟩ fi ix))/\zc a7 w'):=dD<|fun a7 c5=>by
   obtain⟨dd,-⟩:=ak.at.ns;have k:=(ak.at.aA c5).fs;(try simp only[Sli.x]at k⊢);rw[dd]at k⊢;refine(zrl D.f.a D.f.c d.fs d.aB ⟨E,h,f,z,F,G,H,K⟩ fi ix a7 k ah.parts.1 cc Q be ct).mono ?_;rintro e w'⟨n,rfl,fm,g⟩;have bu:zb z9 a7.heap.size w' n (d.fs.set Q (frT ⟨E,h,f,z,F,G,H,K⟩ fi ix)):=fm;obtain⟨fd,fe,rfl,_⟩:=bu.at.rows;exact⟨⟨fd,_,fe⟩,rfl,bu.base (bS c5),g⟩
  clear be ct e0 fh;go_upto_region 8 with fail;obtain⟨u,b⟩:=Wq fun R=>zc wc R
  have an:=(b _).2 (gW _)
  have cx:Nonempty (zo u):=⟨⟨_,an⟩⟩;have cz:=fun y:zo u=>(ak.box.box.aA ((b _).1 y.holds)).c 0 rfl
  have d2:=fun y:zo u=>(ak.box.box.aA ((b _).1 y.holds)).c 1 rfl
  have d3:=fun y:zo u=>(a8.box.aA ((b _).1 y.holds)).c 0 rfl
  have d5:=fun y:zo u=>(a8.box.aA ((b _).1 y.holds)).c 1 rfl
  have d6:=fun y:zo u=>(a8.box.aA ((b _).1 y.holds)).c 2 rfl
  have d8:=fun y:zo u=>(a8.box.aA ((b _).1 y.holds)).c 3 rfl
  have d9:=fun y:zo u=>(a8.box.aA ((b _).1 y.holds)).c 4 rfl
  have da:=fun y:zo u=>(a8.box.aA ((b _).1 y.holds)).c 5 rfl
  have db:=fun y:zo u=>(a8.box.aA ((b _).1 y.holds)).c 6 rfl
  have dc:=fun y:zo u=>(a8.box.aA ((b _).1 y.holds)).c 7 rfl
  refine Jd (I:=u) 17 [(8,⟨.const (Xh Xd),fun v=>∃s:Sli,v=Xm #[Xi #[O s.a s.n s.c,Xe Xf d.aB],Xe Xf (Q:Int),Xe Xf 0],fun _ v R=>∃s:Sli,v=Xm #[Xi #[O s.a s.n s.c,Xe Xf d.aB],Xe Xf (Q:Int),Xe Xf 0]/\zb z9 wc.heap.size R (O s.a s.n s.c) (d.fs.set Q (frT ⟨E,h,f,z,F,G,H,K⟩ fi ix)),fun p aa=>zc p aa,fun _=>True⟩),(13,⟨.const (Xh Xd),fun v=>∃g,v=Xj (Xa ⟨g,0,Xb⟩),fun _ v R=>∃g T,v=Xj (Xa ⟨g,0,Xb⟩)/\wc.heap.size<=g/\zg R g 32 T/\T.length=2,fun p aa=>zc p aa,fun _=>True⟩),(14,⟨.tmp 14,fun _=>True,fun ee _ R=>∃g,∃s:Sli,ee=Xj (Xa ⟨g,0,Xb⟩)/\wc.heap.size<=g/\zg R g 32 [O s.a s.n s.c,Xe Xf d.aB]/\zb z9 wc.heap.size R (O s.a s.n s.c) (d.fs.set Q (frT ⟨E,h,f,z,F,G,H,K⟩ fi ix)),fun p aa=>∃g T cp,wc.heap.size<=g/\p.grownBy aa (Xa g)/\zg p g 32 cp/\zg aa g 32 T/\T.length=2,fun _=>True⟩)] an zU Kr Kr rfl rfl Dc (Sc ⟨_,Zy,rfl⟩ ⟨_,0,rfl⟩ ⟨Xh Xc,trivial⟩) ?hp ?hpre ?hpr0 ?_
  case hp=>
   intro k s j ef a4 b8 a0 e5 ee v p aa c au;have P:=z6 a4;have t:=z6 b8;clear a4 b8;simp only[mC,pJ,nM,or_false]at P t
   rcases P with⟨rfl,rfl⟩|⟨rfl,rfl⟩|⟨rfl,rfl⟩
   ·obtain⟨s,L,A⟩:=au
    rcases t with⟨rfl,rfl⟩|⟨rfl,rfl⟩|⟨rfl,rfl⟩
    ·exact absurd rfl a0
    ·exact⟨s,L,A.aA c⟩
    obtain⟨bf,T,cp,fo,df,eb,ec,ed⟩:=c;exact⟨s,L,A.grown df fun g cv e=>by cases e;exact A.ne eb Dc bf cv rfl⟩
   ·obtain⟨g,T,L,A,am,Y⟩:=au
    rcases t with⟨rfl,rfl⟩|⟨rfl,rfl⟩|⟨rfl,rfl⟩
    ·exact⟨g,T,L,A,am.aA c,Y⟩
    ·exact absurd rfl a0
    obtain⟨bf,ff,cp,fo,df,eb,ec,ed⟩:=c
    by_cases e:g=bf
    ·subst e;exact⟨g,_,L,A,ec,ed⟩
    exact⟨g,T,L,A,am.beside df (fun k a4=>by cases a4;exact e),Y⟩
   obtain⟨g,s,L,A,am,Y⟩:=au
   rcases t with⟨rfl,rfl⟩|⟨rfl,rfl⟩|⟨rfl,rfl⟩
   ·exact⟨g,s,L,A,am.aA c,Y.aA c⟩
   ·exact⟨g,s,L,A,am.aA c,Y.aA c⟩
   exact absurd rfl a0
  case hpre=>
   intro j ef k s b8 a4 a0 p aa c av;have t:=z6 b8;simp only[mC,pJ,nM,or_false]at t
   rcases t with⟨rfl,rfl⟩|⟨rfl,rfl⟩|⟨rfl,rfl⟩<;>trivial
  case hpr0=>
   intro k ef a4;have P:=z6 a4;simp only[mC,pJ,nM,or_false]at P
   rcases P with⟨rfl,rfl⟩|⟨rfl,rfl⟩|⟨rfl,rfl⟩<;>trivial
  simp only[Yp,Yq];refine JK rfl rfl rfl (fun eq e4=>?_);go_big_quiet_op;refine e4 _ ?_;clear e4 eq
  refine zgz (.tmp 41) ⟨p,0,Xb⟩ rfl rfl rfl rfl ?_;refine Uq ?_;iterate 6 refine Zb ?_
  refine jy rfl rfl (fun w' q av U=>?_) (fun eg a5=>?_)
  ·refine zI.call [Xi #[O D.f.a D.f.n D.f.c,Xe Xf d.aB],Xi #[Xe Xg E,Xe Xg h,Xe Xg f,Xe Xg z,Xe Xg F,Xe Xg G,Xe Xg H,Xe Xg K],Xe Xf fi,Xe Xf ix] rfl func223 rfl rfl rfl ?_;refine(cg w' ((b _).1 q)).mono ?_;rintro e di⟨s,rfl,ax,c2⟩;exact⟨_,rfl,(b _).2 (((b _).1 q).trans c2),c2,⟨s,rfl⟩,s,rfl,ax⟩
  obtain⟨s,rfl⟩:=a5;refine Uq ?_;iterate 4 refine Zb ?_
  refine jy rfl rfl (fun w' q av U=>?_) (fun eg a5=>?_)
  ·refine zI.step (v:=Xj (Xa ⟨w'.heap.size,0,Xb⟩)) (w':=w'.alloc (Xk #[O Xb 0 0,Xe Xf 0] 32)) (zgb rfl) ⟨(b _).2 (((b _).1 q).trans (za _ _)),za _ _,⟨_,rfl⟩,_,_,rfl,bS ((b _).1 q),zg.aD _ [O Xb 0 0,Xe Xf 0] _ rfl,rfl⟩
  obtain⟨bv,rfl⟩:=a5;refine Uq ?_;refine jy rfl rfl (fun w' q av U=>?_) (fun eg a5=>?_)
  ·obtain⟨g,T,M,B,N,bn⟩:=U 13 Kr
   simp only[Value.pointer.injEq,Option.some.injEq,Addr.mk.injEq,and_true]at M;subst M;obtain⟨C,e8,ax⟩:=U 8 Kr
   have cy:C=s:=by
    obtain⟨ft,fu,fv⟩:=s;obtain⟨h,f,z⟩:=C;simp only[Value.tuple.injEq,Array.mk.injEq,List.cons.injEq,Value.agg.injEq,vJ,and_true]at e8;obtain⟨rfl,rfl,rfl⟩:=e8;rfl
   subst cy;refine zI.aL 32 (.tmp 14) (.tmp 50) rfl bv rfl [O C.a C.n C.c,Xe Xf d.aB] rfl N (Rr bn) (by rw[bn];kernel_rfl) (by simp[Value.oneCell']) fun di h f z=>?_
   exact⟨(b _).2 (zd ((b _).1 q) f B),⟨bv,_,_,B,f,N,h,rfl⟩,trivial,bv,C,rfl,B,h,ax.grown f fun g cv e=>by cases e;exact ax.ne N Dc bv cv rfl⟩
  simp only[Xx];iterate 2 refine Zb ?_
  refine za3 fun dr bh U=>?_
  obtain⟨bf,C,M,N,B,ax⟩:=U 14;have a9:(Value.pointer (Xa ⟨bv,0,Xb⟩):Xq)=Xj (Xa ⟨bf,0,Xb⟩):=M;simp only[Value.pointer.injEq,Option.some.injEq,Addr.mk.injEq,and_true]at a9;subst a9;have cu:=(b _).1 bh;have ek:=dD cu;have dp:=dD B;have ey:=dD ax;have eh:=dD (ak.box.aA cu);clear U bh an cx cz d2 d3 d5 d6 d8 d9 da db dc cu M B N ax;obtain⟨fg,be⟩:=dp.box.k2
  go_upto_region 12 with(refine qK rfl 32 (.tmp 60) (.tmp 57) rfl p 0 rfl (Xi #[O C.a C.n C.c,Xe Xf d.aB]) rfl [O C.a C.n C.c,Xe Xf d.aB] rfl eh (by simp[chL]) Kr (by simp[Value.oneCell']) ?_)
  intro f7 bd bg _;have et:Xo (Chg w0 X p w V cl.2.2 f7):=dD<|by
   rw[a.out];exact Chg.step dn dk (ak.setF ek ey bg bd)
  clear fg be bd bg;go_wp2
  go_ret2
  exact⟨by rw[<-ac.out,a.out];rfl,et⟩
variable{X:Nat->Prop}
theorem zkZ{w:Xn}{p:Nat}(ac:ChW w0 X p w V m)(ae:Rt m)(pg:Pg)(R)(l:List (Nat×Nat))(a9:zhm Jb (Dw p V) w R l)(a6:∀x∈l,x.2<64/\∃s,m.sp[x.1]?=Xa s)(bx:l≠[])(bv:l.length<=900)
  (bw:qE (zi m l).fs=0->∀z U,ChW w0 X p z U (zi m l)->zhm Jb (Dw p U) z R l->Xp prog 160 #[Xj (Xa ⟨p,0,Xb⟩),R] z fun e w'=>e=Xl (Xh (jP (zi m l) l).1)/\Chg w0 X p z U (jP (zi m l) l).2 w'):
  Xp prog 232 #[Xj (Xa ⟨p,0,Xb⟩),Xi #[U8 pg.b0,U8 pg.b1,U8 pg.b2,U8 pg.b3,U8 pg.b4,U8 pg.b5,U8 pg.b6,U8 pg.b7],R] w fun e w'=>e=Xl (Xm #[I6 ((J4 m pg l).2.1:Int),I6 (if(J4 m pg l).1=Xc then 0 else 10)])/\Chg w0 X p w V (J4 m pg l).2.2 w':=by
 have bl:=dD a9;have d9:=dD ac;have d8:=dD ac.aM;have ar:=zaO (qM l ae a6).1.rt l;have ak:=dD<|(qM l ae a6).1.aV.aT;have cl:Xo (∀x∈l,x.2<64/\x.1<m.sp.length):=show∀x∈l,_ from fun x aa=>by
  obtain⟨az,s,H⟩:=a6 x aa;exact⟨az,(gS.1 H).1⟩
 obtain⟨f,g,h,i,k,n,q,r⟩:=pg;simp only;have G:Xo (∀W,zc w W->Xp prog 191 #[Xj (Xa ⟨p,0,Xb⟩),Xi #[U8 f,U8 g,U8 h,U8 i,U8 k,U8 n,U8 q,U8 r],I6 (-1),I6 0,R] W fun e w'=>e=Xl (Xm #[I6 ((zaL m (frT ⟨f,g,h,i,k,n,q,r⟩ (-1) 0) l).2.1:Int),I6 (if(zaL m (frT ⟨f,g,h,i,k,n,q,r⟩ (-1) 0) l).1=Xc then 0 else 10)])/\Chg w0 X p W V (zaL m (frT ⟨f,g,h,i,k,n,q,r⟩ (-1) 0) l).2.2 w'):=dD<|fun W af=>zbP (ac.aA af) ae ⟨f,g,h,i,k,n,q,r⟩ (-1) 0 (zfn (.inl ⟨rfl,rfl⟩)) R l (fun z t=>a9 z ((zk.aA af).trans t)) a6 bw
 have a:Xo (J4 m ⟨f,g,h,i,k,n,q,r⟩ l=if(qd (zi m l) l).1=Xc then(Xc,ZE (qd (zi m l) l).2.fs,zoQ (qd (zi m l) l).2 (ZE (qd (zi m l) l).2.fs) ⟨f,g,h,i,k,n,q,r⟩ Xc l)else(Xd,0,(qd (zi m l) l).2)):=dD<|rfl
 have c:Xo (zaL m (frT ⟨f,g,h,i,k,n,q,r⟩ (-1) 0) l=if(qd (zi m l) l).1=Xc then(Xc,ZE (qd (zi m l) l).2.fs,{(qd (zi m l) l).2 with fs:=(qd (zi m l) l).2.fs.set (ZE (qd (zi m l) l).2.fs) (frT ⟨f,g,h,i,k,n,q,r⟩ (-1) 0)})else(Xd,0,(qd (zi m l) l).2)):=dD<|rfl
 obtain⟨ai,cj⟩:=kA (J4 m ⟨f,g,h,i,k,n,q,r⟩ l);obtain⟨da,cm⟩:=kA (zaL m (frT ⟨f,g,h,i,k,n,q,r⟩ (-1) 0) l);rw[cj.out]at a⊢;obtain⟨de,C⟩:=kA (if ai.1=Xc then(0:Int)else 10);rw[C.out];rw[cm.out]at c G;obtain⟨t,bt,-⟩:=ar;have F:Xo ((qd (zi m l) l).2.sp.length=m.sp.length):=dD<|by rw[t.aV.aT,ak.out]
 have E:=dD t.rt;have D:=dD bt
 obtain⟨dg,dh,rfl,bf⟩:=(a9 w (zk.refl _ _)).bG;have a2:=(a9 w (zk.refl _ _)).short;clear t bt ac a9 ae a6 bw bf;obtain⟨cr,au⟩:=kA (qd (zi m l) l);rw[au.out]at E D a c F;obtain⟨cw,bg⟩:=cr;simp only at E D a c F;have ao:=dD bx;have an:=dD bv;clear bx bv;obtain⟨P,v⟩:=kA l.length;rw[v.out]at bl G a2⊢;obtain⟨H,bk⟩:=kA w.heap.size;obtain⟨ct,A⟩:=kB (w.alloc (Xk #[U8 f,U8 g,U8 h,U8 i,U8 k,U8 n,U8 q,U8 r] 91));have aj:=gA A
 have cv:=xPT A bk
 have av:=dD A;clear A;have b:=G.out ct aj.out
 go_enter func232,ntmps232
 go_upto_region 1 with fail;rw[av.out,bk.out];obtain⟨c7,c8,c9,ca,cb,cc,cd,ce⟩:=cv.box.c8
 cases cw with
 |false=>
  rw[kF Dc]at a c
  rw[c.out]at b;simp only[Bool.false_eq_true,if_false]at b;go_wp2_with fail;refine b.mono ?_;clear b c7 c8 c9 ca cb cc cd ce;rintro e z⟨rfl,t⟩;have aw:Xo (Chg w0 X p w V ai.2.2 z):=dD<|Rx a.out (Chg.aG aj t)
  clear t;go_wp2
  go_ret2
  exact⟨by rw[<-C.out,a.out];rfl,aw⟩
 |true=>
  rw[kE rfl]at a c;obtain⟨cy,cz,df,bc,d2⟩:=zde (D rfl);obtain⟨d,am⟩:=kA (ZE bg.fs);rw[am.out]at bc c a;obtain⟨b8,b9,bn⟩:=zk2 E bc ⟨f,g,h,i,k,n,q,r⟩ (fun x aa=>by rw[F.out];exact cl x aa) ao an.out
  rw[<-bn]at a;clear bn;rw[c.out]at b;simp only[if_true]at b;obtain⟨B,aq⟩:∃B:Ma,Xo (({bg with fs:=bg.fs.set d (frT ⟨f,g,h,i,k,n,q,r⟩ (-1) 0)}:Ma)=B):=⟨_,rfl⟩;rw[aq.out]at a b8 b9 b;have ck:Xo (∀j,j<=P->∀x,l[j]?=Xa x->jW (zF B d (l.take j)).fs (zF B d (l.take j)).aB (d:Int) 1=0/\zF B d (l.take (j+1))=zbK (zF B d (l.take j)) x.1 (x.2:Int) (d:Int)/\x.1<(zF B d (l.take j)).sp.length):=dD<|fun j be x aa=>(b8 j (Rx v.out be)).2 x aa
  have S:=dD b9;clear b8 b9 cy cz bc d2;go_wp2_with fail;refine b.mono ?_;clear b c7 c8 c9 ca cb cc cd ce;rintro e z⟨rfl,t⟩;obtain⟨U,bz,c5,Z⟩:=Chg.aG aj t;have cn:=dD bz;have cp:=dD c5;have cg:=dD Z;clear t bz c5 Z;go_wp2
  go_loopg[24] P (fun d5 bi wr=>∃(j:Nat)(Q:MaV),j<=P/\P-j<=d5/\bi=I6 j/\Xo (ChW w0 X p wr Q (zF B d (l.take j)))/\Xo (zk (Dw p V) w wr)/\Xo (∀N,Dw p Q N->Dw p V N\/w.heap.size<=N))
  exact⟨0,U,nZ _,Wm,rfl,cn,cp,cg⟩
  obtain⟨j,Q,be,d6,rfl,y,ax,bj⟩:=hrel
  by_cases L:j<P
  ·have a7:=kC L
   obtain⟨x,bm⟩:∃x,Xo (l[j]?=Xa x):=⟨_,gE (Rx v.out L)⟩
   obtain⟨_,_,M,a8⟩:=(bl wr ax).bG;simp only[vJ]at M;obtain⟨dd,a1,a3⟩:=a8 j x bm.out;rw[<-M.1]at a1;subst a1;obtain⟨bq,Z⟩:=a3 wr (zc.refl _);obtain⟨ba,bs,bb⟩:=ck.out j be x bm.out;have T:=dD bs;obtain⟨ag,ah⟩:=x;simp only at bq Z ba bb T;have K:=JS (y.aA (za wr (Xk #[I6 (ag:Int),I6 (ah:Int)] 142))) ag bb (ah:Int) (d:Int) ba;rw[<-T.out]at K;clear M a8 a3 ba bs bb;go_wp2_with fail;refine K.mono ?_;clear K bq Z;rintro e db⟨⟨di,rfl⟩,bu⟩;obtain⟨cs,bp,c6,br⟩:=Chg.step ax bj (Chg.aG (za _ _) bu);have co:=dD bp;have cq:=dD c6;have ch:=dD br;clear bu bp c6 br;go_wp2
   go_roundg (P-(j+1));exact⟨j+1,cs,Wm,Wm,Gn,co,cq,ch⟩;omega
  have a7:=kD L
  have a5:l.take j=l:=Xv (by rw[v.out];omega)
  rw[a5]at y;clear a5;obtain⟨u,ap⟩:=kA (zF B d l);rw[ap.out]at y S a;have al:Xo (∀W,zc wr W->Xp prog 173 #[Xi #[Q.f.x,I6 u.aB],I6 (d:Int),I6 (-1)] W fun e w'=>∃H:Sli,e=Xl (Xm #[Xi #[H.x,I6 u.aB],I6 0])/\zb z9 W.heap.size w' (H.x) (Qv u.fs u.aB (d:Int) (-1))/\zc W w'):=dD<|fun W af=>by
   obtain⟨d7,-⟩:=y.at.ns;have N:=(y.at.aA af).fs;(try simp only[Sli.x]at N⊢);rw[d7]at N⊢;refine(zfg Q.f.a Q.f.c u.fs u.aB (d:Int) (-1) W N S).mono ?_;rintro e w'⟨H,rfl,c0,d3⟩;have bh:zb z9 W.heap.size w' H (Qv u.fs u.aB (d:Int) (-1)):=c0;obtain⟨az,cx,rfl,_⟩:=bh.at.rows;exact⟨⟨az,_,cx⟩,rfl,c0,d3⟩
  obtain⟨ag,ah⟩:=y.box.box.k2;have a4:=al.out wr (zc.refl _);go_wp2_with fail;refine a4.mono ?_;clear a4 ag ah;rintro e dc⟨s,rfl,ab,bd⟩;have ci:=dD bd;have ay:=dD ab;have cf:=dD (y.box.aA bd);clear ab bd
  go_upto_region 10 with(refine qK rfl 32 (.tmp 46) (.tmp 42) rfl p 0 rfl (Xi #[s.x,I6 u.aB]) rfl [s.x,I6 u.aB] rfl cf (by simp[chL]) Kr (by simp[Value.oneCell']) ?_)
  intro cu Y I _;have a0:=y.setF ci ay I Y;have aw:Xo (Chg w0 X p w V ai.2.2 cu):=dD<|Rx a.out (Chg.step ax bj a0)
  clear a0 Y I;go_wp2
  go_ret2
  exact⟨by rw[<-C.out,a.out];rfl,aw⟩
variable{X:Nat->Prop}
theorem zk.row{w:Xn}{a:Option Nat}(g:w.grownBy w' a):zk (fun k=>a=Xa k) w w':=⟨g.os,g.tape,g.output,g.size,fun i b c=>g.block i b (fun e=>c e.symm)⟩
theorem zid{base n c:Nat}{a:Option Addr}{w:Xn}(b:zb jR base w (O a n c) [])(x:Ca)(i:Option Addr)(j:Nat)(q:zj jR w (O i 1 j) [x])(p:base<=w.heap.size):
  Xp prog 192 #[O a n c,I6 0,O i 1 j] w fun e w'=>∃(d:Option Addr)(f:Nat),e=Xl (O d 1 f)/\zb jR base w' (O d 1 f) [x]/\w.grownBy w' (O a n c).ownBlock/\∀g,(O d 1 f).ownBlock=Xa g->(O a n c).ownBlock=Xa g\/w.heap.size<=g:=by
 have y:n=0:=b.n;subst y;have t:Xo (zb jR base w (O a 0 c) []):=b;have u:Xo (zj jR w (O i 1 j) [x]):=q;have h:Xo (base<=w.heap.size):=p;clear b q p
 go_enter func192,ntmps192
 go_wp2_with(at_builtin;refine jN (E:=jR) rfl (.tmp 23) (.tmp 24) rfl base _ [] rfl t _ [x] rfl u.out ?qb h.out ?_)
 case qb=>
  show(0+1)*24<=_
  omega
 intro z w' k m l;obtain⟨d,f,rfl⟩:=k.form;have v:Xo (zb jR base w' (O d 1 f) [x]):=k;have s:Xo (w.grownBy w' (O a 0 c).ownBlock):=m;have r:Xo (∀g,(O d 1 f).ownBlock=Xa g->(O a 0 c).ownBlock=Xa g\/w.heap.size<=g):=l;clear k m l;go_wp2;go_ret;exact⟨d,f,rfl,v,s,r⟩
theorem zeU{t:Ca}:∀{ca:List Ca},zb1 ca t=Xc->zbA ca t<ca.length
 |[],h=>by cases h
 |c::l,h=>by
  unfold zbA;rw[Yk]
  split
  ·rename_i a
   have a:=of_decide_eq_true a;have b:zb1 l t=Xc:=by
    unfold zb1 at h⊢;rw[List.any_cons,Bool.or_eq_true]at h
    rcases h with e|e
    ·have:=of_decide_eq_true e;omega
    exact e
   have:=zeU b;unfold zbA at this;simp only[Yi];omega
  exact Nat.succ_pos _
theorem zb8{w:Xn}{p:Nat}(h:ChW w0 X p w V m)(s:m.ca.Pairwise fun a b=>qp a<qp b)(hi:∀c∈m.ca,0<=c.idx/\c.idx<100)(i:m.ca.length<=1000)(d f:Int)(t:0<=f/\f<100):
  Xp prog 154 #[Xj (Xa ⟨p,0,Xb⟩),Xe Xf d,Xe Xf f] w fun e w'=>((zb1 m.ca ⟨d,f,0⟩=Xd/\e=Xl (Xm #[Xe Xf 0,Xh Xd]))\/(zb1 m.ca ⟨d,f,0⟩=Xc/\∀c,m.ca[zbA m.ca ⟨d,f,0⟩]?=Xa c->e=Xl (Xm #[Xe Xf c.fr,Xh Xc])))/\zc w w':=by
 have g:=QX h s hi i d f t;obtain⟨P,j⟩:=kA (zbA m.ca ⟨d,f,0⟩);rw[j.out]at g⊢;have z:=dD h;have v:=dD h.at.ca.n
 cases k:zb1 m.ca ⟨d,f,0⟩with
 |false=>
  rw[k]at g;clear k h s hi i t
  go_enter func154,ntmps154
  go_wp2_with fail;refine g.mono ?_;clear g;rintro e x⟨rfl,d⟩;have q:=dD d;clear d;go_wp2
  go_ret2
  exact⟨.inl ⟨by first|rfl|trivial,rfl⟩,q⟩
 |true=>
  rw[k]at g;have l:P<m.ca.length:=by
   rw[<-j.out];exact zeU k
  obtain⟨c,u⟩:∃c,Xo (m.ca[P]?=Xa c):=⟨_,gE l⟩;have n:(P:Int)<(V.ca.n:Int):=by rw[v.out];omega
  obtain⟨y,j,f⟩:=h.ca.aJ Wm
  have A:Xo (zb jR w0.heap.size w (O (Xa ⟨y,0,Xb⟩) m.ca.length j) m.ca):=dD<|Ry f h.ca
  have r:=dD f;obtain⟨j,j⟩:=kA m.ca.length;rw[v.out,j.out]at n;clear k h s hi i t l f
  go_enter func154,ntmps154
  go_wp2_with fail;refine g.mono ?_;clear g;rintro e x⟨rfl,d⟩;have q:=dD d;have f:=(z.box.aA d).box.c 9 rfl;rw[r.out,j.out]at f;have f:x.cell? ⟨y,P*3+2,Xb⟩=Xa (Xe Xf c.fr):=by
   have:=(A.aA d).one u 2 _ rfl;rw[jh,Xw,zA]at this;exact this
  clear d;go_wp2
  go_ret2
  refine⟨.inr ⟨by first|rfl|trivial,fun d d=>?_⟩,q⟩
  rw[u.out]at d;cases d;rfl
theorem zg0{w:Xn}{p:Nat}(ay:ChW w0 X p w V m)(b8:Rt m)(pg:Pg)(fi ix:Nat)(G:frW (frT pg (fi:Int) (ix:Int))=0)(ba:ix<100)(bi:Xq)(q n:Nat)(s:Sp)(P:m.sp[q]?=Xa s)(bf:n<64)(ac:zhm Jb (Dw p V) w bi [(q,n)])(E:m.ca=[])(a:qE (zi m [(q,n)]).fs≠0):
  Xp prog 156 #[Xj (Xa ⟨p,0,Xb⟩),Xi #[U8 pg.b0,U8 pg.b1,U8 pg.b2,U8 pg.b3,U8 pg.b4,U8 pg.b5,U8 pg.b6,U8 pg.b7],I6 (fi:Int),I6 (ix:Int),bi] w fun e w'=>e=Xl (Xm #[I6 ((q9 m pg (fi:Int) (ix:Int) [(q,n)]).2.1:Int),I6 0])/\Chg w0 X p w V (q9 m pg (fi:Int) (ix:Int) [(q,n)]).2.2 w':=by
 have bd:∀bk∈[(q,n)],bk.2<64/\∃s,m.sp[bk.1]?=Xa s:=fun bk dc=>by rw[Yn.1 dc];exact⟨bf,s,P⟩
 obtain⟨U,_,r,_⟩:=qM [(q,n)] b8 bd;have x:qd (zi m [(q,n)]) [(q,n)]=(Xc,zi m [(q,n)]):=by unfold qd;rw[kF a]
 obtain⟨M,i⟩:=kB (zi m [(q,n)]);rw[i]at x U r a;obtain⟨_,_,cd,av,d6⟩:=zde (Og a);obtain⟨c,v⟩:=kB (ZE M.fs);rw[v]at av;obtain⟨j,f⟩:∃j:Ma,({M with fs:=M.fs.set c (frT pg (fi:Int) (ix:Int))}:Ma)=j:=⟨_,rfl⟩;have K:zaL m (frT pg (fi:Int) (ix:Int)) [(q,n)]=(Xc,c,j):=by
  unfold zaL;rw[i,x,kE rfl,v,<-f]
 have z:j.ca=[]:=Ry f (r.trans E)
 obtain⟨d,g⟩:∃d:Ma,({j with ca:=[⟨(fi:Int),(ix:Int),(c:Int)⟩]}:Ma)=d:=⟨_,rfl⟩;have a2:=(gS.1 av).1;have a1:d.fs[c]?=Xa (frT pg (fi:Int) (ix:Int)):=by
  rw[<-g,<-f];exact sF a2
 have ch:j4 d.fs d.aB=0:=by
  rw[<-g,<-f];exact ze3 U.rt.parts.1 G
 have a5:d.sp.length=m.sp.length:=by
  rw[<-g,<-f];exact U.aV.aT
 have a6:∀s∈d.sp,Qc s.tb:=fun s P=>by
  rw[<-g,<-f]at P;exact U.rt.tb P
 have bg:q<d.sp.length:=by rw[a5];exact(gS.1 P).1
 obtain⟨ci,cj,_⟩:=zia ch a1 (by show(0:Int)<1;omega) (by show(1:Int)<1000;omega) a6 bg bf
 have Z:q9 m pg (fi:Int) (ix:Int) [(q,n)]=(Xc,c,zbK d q (n:Int) (c:Int)):=by
  unfold q9;rw[i,x,kE rfl,v,cj,<-g,<-f];have b9:zhb M c pg Xc Xd (fi:Int) (ix:Int)={M with fs:=M.fs.set c (frT pg (fi:Int) (ix:Int)),ca:=[⟨(fi:Int),(ix:Int),(c:Int)⟩]}:=by
   unfold zhb;rw[show M.ca=[]from r.trans E]
   rfl
  rw[b9];rfl
 rw[Z];have aj:Xo (jW d.fs d.aB (c:Int) 1=0):=ci;have cs:Xo (q<d.sp.length):=bg;have ak:Xo (({j with ca:=[⟨(fi:Int),(ix:Int),(c:Int)⟩]}:Ma)=d):=g;have h:Xo (j.ca=[]):=z;have ct:Xo (zhm Jb (Dw p V) w bi [(q,n)]):=ac;have dn:Xo (∀k,Dw p V k->k<w.heap.size):=ay.aM;obtain⟨dr,dd,rfl,be⟩:=(ac w (zk.refl _ _)).bG;obtain⟨bq,br,bs,bt,bu,bv,bw,bz⟩:=pg;simp only;try simp only at K
 obtain⟨b,bm⟩:=kA w.heap.size;obtain⟨d3,u⟩:=kB (w.alloc (Xk #[U8 bq,U8 br,U8 bs,U8 bt,U8 bu,U8 bv,U8 bw,U8 bz] 91));have ae:=gA u
 have d4:=xPT u bm
 have y:=zbP (ay.aA ae) b8 ⟨bq,br,bs,bt,bu,bv,bw,bz⟩ (fi:Int) (ix:Int) G _ [(q,n)] (ac.out (zk.aA ae)) bd (fun ce=>absurd (by rw[i]at ce;exact ce) a)
 rw[K]at y;simp only[if_true]at y;have al:Xo (_=d3):=u;have ai:Xo ((0:Int)<=(ix:Int)/\(ix:Int)<100):=show _/\_ by omega
 clear u ay b8 G ba P bf ac E a bd U r x av d6 K z g a2 a1 ch a5 a6 bg ci cj Z f v i be
 go_enter func156,ntmps156
 go_upto_region 1 with fail;rw[al.out,bm.out];obtain⟨df,dg,dh,di,dj,dk,dl,dm⟩:=d4.box.c8;go_wp2_with fail;refine y.mono ?_;clear y df dg dh di dj dk dl dm;rintro e ab⟨rfl,cf⟩;obtain⟨Q,bh,ck,T⟩:=Chg.aG ae cf;have cu:Xo (ChW w0 X p ab Q j):=bh;have cy:Xo (zk (Dw p V) w ab):=ck;have co:Xo (∀k,Dw p Q k->Dw p V k\/w.heap.size<=k):=T;have H:=QX bh (by rw[h.out];exact List.Pairwise.nil) (by rw[h.out];intro dp d9;cases d9) (by rw[h.out];exact nZ _) (fi:Int) (ix:Int) ai.out
 have c9:zbA j.ca ⟨(fi:Int),(ix:Int),0⟩=0:=Rr h.out
 have cb:zb1 j.ca ⟨(fi:Int),(ix:Int),0⟩=Xd:=Rr h.out
 rw[c9,cb]at H;clear cf bh ck T c9 cb;go_wp2_with fail;refine H.mono ?_;clear H;rintro e N⟨rfl,ax⟩;have a8:=dD (cu.aA ax);have cr:Xo (zc ab N):=ax;have de:=a8.box.box.c 9 rfl;have I:=zid (base:=w0.heap.size) (w:=N.alloc (Xk #[I6 (fi:Int),I6 (ix:Int),I6 (c:Int)] 105)) (by have:=a8.ca.aA (za N (Xk #[I6 (fi:Int),I6 (ix:Int),I6 (c:Int)] 105));rw[h.out]at this;exact this) ⟨(fi:Int),(ix:Int),(c:Int)⟩ (Xa ⟨N.heap.size,0,Xb⟩) 1 (ZD jR N ⟨(fi:Int),(ix:Int),(c:Int)⟩ _ _ rfl (by show 24<=_;omega)) (by have:=bS a8.gr;simp;omega)
 clear ax
 go_wp2_with(go_at_call 192;refine I.mono ?_)
 clear I de;rintro e au⟨R,S,rfl,a7,t,D⟩;obtain⟨ar,C⟩:=kB (N.alloc (Xk #[I6 (fi:Int),I6 (ix:Int),I6 (c:Int)] 105));rw[C]at t D;have B:=gP C
 have am:=dD (a8.aA B);have cn:Xo (zg au p 88 (chL Q j)):=show zg _ _ _ _ from am.box.aK (zk.row t) (fun e=>am.nc p e rfl)
 have ao:Xo (zb jR w0.heap.size au (O R 1 S) [⟨(fi:Int),(ix:Int),(c:Int)⟩]):=a7;have ag:Xo (zk (oB Q.ca) ar au):=zk.row t;have ah:Xo (∀aw,(O R 1 S).ownBlock=Xa aw->oB Q.ca aw\/ar.heap.size<=aw):=D;have af:Xo (zc ab ar):=show zc _ _ from cr.trans B
 clear C B a7 t D
 go_wp2_with(refine qK rfl 42 (.tmp 52) (.tmp 49) rfl p 9 rfl (O R 1 S) rfl [O R 1 S] rfl cn (by simp[chL]) Kr (by simp[Value.oneCell']) ?_)
 intro bn c0 W _;have az:=am.cache (b:=⟨R,1,S⟩) (l:=[⟨(fi:Int),(ix:Int),(c:Int)⟩]) ag ah ao W c0;rw[ak.out]at az;obtain⟨ap,c1,cl,c6⟩:=Chg.step cy co (Chg.aG af az);have cv:Xo (ChW w0 X p bn ap d):=c1;have cz:Xo (zk (Dw p V) w bn):=cl;have cp:Xo (∀k,Dw p ap k->Dw p V k\/w.heap.size<=k):=c6;clear c0 W az c1 cl c6;go_wp2
 go_loopg[55] 1 (fun d8 bj wr=>∃(A:Nat)(aa:MaV),A<=1/\1-A<=d8/\bj=I6 A/\Xo (ChW w0 X p wr aa (if A=0 then d else zbK d q (n:Int) (c:Int)))/\Xo (zk (Dw p V) w wr)/\Xo (∀k,Dw p aa k->Dw p V k\/w.heap.size<=k))
 exact⟨0,ap,nZ _,Wm,rfl,cv,cz,cp⟩
 obtain⟨A,aa,dq,da,rfl,a9,an,bl⟩:=hrel
 by_cases db:A<1
 ·have bb:A=0:=Wm
  subst bb;rw[kE rfl]at a9;obtain⟨_,_,L,a3⟩:=(ct wr an).bG;simp only[vJ]at L;obtain⟨bp,Y,F⟩:=a3 0 (q,n) rfl;rw[<-L.1]at Y;subst Y;have cc:bp.add (0*2)=bp:=by simp[Addr.add]
  rw[cc]at F;obtain⟨c3,T⟩:=F wr (zc.refl _);simp only at c3 T;clear cc;have a0:=JS (a9.aA (za wr (Xk #[I6 (q:Int),I6 (n:Int)] 142))) q cs (n:Int) (c:Int) aj.out;clear L a3 F;go_wp2_with fail;refine a0.mono ?_;clear a0 c3 T;rintro e bo⟨⟨ds,rfl⟩,cg⟩;obtain⟨aq,c2,cm,c8⟩:=Chg.step an bl (Chg.aG (za _ _) cg);have cw:Xo (ChW w0 X p bo aq (if(1:Nat)=0 then d else zbK d q (n:Int) (c:Int))):=dD<|by rw[kF Dc];exact c2
  have d2:Xo (zk (Dw p V) w bo):=cm;have cq:Xo (∀k,Dw p aq k->Dw p V k\/w.heap.size<=k):=c8;clear cg c2 cm c8;go_wp2
  go_roundg 0;exact⟨1,aq,Wm,Wm,Gn,cw,d2,cq⟩;omega
 have bc:A=1:=Wm
 subst bc;rw[kF Dc]at a9
 have cx:Xo (Chg w0 X p w V (zbK d q (n:Int) (c:Int)) wr):=dD<|⟨aa,a9,an,bl⟩
 go_wp2
 go_ret2
 exact⟨rfl,cx⟩
variable{X:Nat->Prop}
def Qb(m:Ma)(pg:Pg)(ic wr:Bool)(q n:Nat):Bool×Nat×Ma:=
 if(QH m q (n:Int)).kind=1/\ic=Xc/\(wr=Xd\/(z3 m (QH m q (n:Int)).n).r=1)then(Xc,(QH m q (n:Int)).n.toNat,m)
 else if(QH m q (n:Int)).kind=2/\wr=Xd then J4 m pg (qW m 2 (QH m q (n:Int)).n m.sp.length)
 else J4 m pg [(q,n)]
theorem zos{q n:Nat}{s:Sp}(a:m.sp[q]?=Xa s)(c:n<64)(b:(zl s n).kind=2):(q,n)∈qW m 2 (zl s n).n m.sp.length:=
 (Jp Dc (nR _)).2 ⟨(gS.1 a).1,c,s,a,by unfold isE;simp[b]⟩
theorem zhJ{w:Xn}{p:Nat}(ba:ChW w0 X p w V m)(aq:Rt m)(q n:Nat)(s)(ar:m.sp[q]?=Xa s)(bf:n<64)(a:Ar)(pg:Pg)(ic wr:Bool)
  (cl:∀(l:List (Nat×Nat))(M:Xq),(∀x∈l,x.2<64/\∃s,m.sp[x.1]?=Xa s)->qE (zi m l).fs=0->∀ao c1,ChW w0 X p ao c1 (zi m l)->zhm Jb (Dw p c1) ao M l->Xp prog 160 #[Xj (Xa ⟨p,0,Xb⟩),M] ao fun e w'=>e=Xl (Xh (jP (zi m l) l).1)/\Chg w0 X p ao c1 (jP (zi m l) l).2 w'):
  Xp prog 206 #[Xi #[Xj (Xa ⟨p,0,Xb⟩),I6 (q:Int),I6 (n:Int),I6 a.fr,I6 a.tz,Xh a.rd,Xh a.wr,Xh a.sh,I6 a.file,I6 a.base,U8 pg.b0,U8 pg.b1,U8 pg.b2,U8 pg.b3,U8 pg.b4,U8 pg.b5,U8 pg.b6,U8 pg.b7,Xh ic,Xh wr]] w fun e w'=>e=Xl (Xm #[I6 ((Qb m pg ic wr q n).2.1:Int),I6 (if(Qb m pg ic wr q n).1=Xc then 0 else 10)])/\Chg w0 X p w V (Qb m pg ic wr q n).2.2 w':=by
 have ad:=dD ba;have cw:=dD<|(gS.1 ar).1;have cg:=dD ba.aM;have bv:Xo (QH m q (n:Int)=zl s n):=show _=_ by unfold QH;rw[Sp.aP ar,Js bf]
 obtain⟨e,bu⟩:=kA (QH m q (n:Int));have Q:Xo (zl s n=e):=dD<|by rw[<-bv.out,bu.out]
 have az:Xo (e.kind=1->∃(B:Nat)(fr:Fr),e.n=(B:Int)/\m.fs[B]?=Xa fr):=dD<|fun al=>by
  obtain⟨d9,fr,ci,d2,_⟩:=aq.aY ar bf (Rx Q.out al)
  rw[Q.out]at ci;exact⟨d9,fr,ci,d2⟩
 have ab:Xo (Qb m pg ic wr q n=if e.kind=1/\ic=Xc/\(wr=Xd\/(z3 m e.n).r=1)then(Xc,e.n.toNat,m)else if e.kind=2/\wr=Xd then J4 m pg (qW m 2 e.n m.sp.length)else J4 m pg [(q,n)]):=dD<|by unfold Qb;rw[bu.out]
 have bx:Xo (∀x∈[(q,n)],x.2<64/\∃s,m.sp[x.1]?=Xa s):=dD<|fun x au=>by rw[Yn.1 au];exact⟨bf,s,ar⟩
 have bz:Xo (e.kind=2->(∀x∈qW m 2 e.n m.sp.length,x.2<64/\∃s,m.sp[x.1]?=Xa s)/\qW m 2 e.n m.sp.length≠[]/\(qW m 2 e.n m.sp.length).length<=900):=dD<|fun al=>by
  refine⟨fun x au=>?_,fun d0=>?_,?_⟩
  ·obtain⟨a,s,d,_⟩:=zgG aq x au;exact⟨a,s,d⟩
  ·have:=zos ar bf (Rx Q.out al)
   rw[Q.out,d0]at this;cases this
  have a8:=za8 m 2 e.n m.sp.length;have ag:=aq.inv.aT;omega
 have cu:=dD aq.inv.aT;have ac:Xo (∀W M l,zc w W->zhm Jb (Dw p V) W M l->(∀x∈l,x.2<64/\∃s,m.sp[x.1]?=Xa s)->l≠[]->l.length<=900->Xp prog 232 #[Xj (Xa ⟨p,0,Xb⟩),Xi #[U8 pg.b0,U8 pg.b1,U8 pg.b2,U8 pg.b3,U8 pg.b4,U8 pg.b5,U8 pg.b6,U8 pg.b7],M] W fun e w'=>e=Xl (Xm #[I6 ((J4 m pg l).2.1:Int),I6 (if(J4 m pg l).1=Xc then 0 else 10)])/\Chg w0 X p W V (J4 m pg l).2.2 w'):=show∀W,_ from fun W M l bd am cm d3 d4=>zkZ (ba.aA bd) aq pg M l am cm d3 d4 (cl l M cm)
 have bw:=dD<|fun W(bd:zc w W)=>zbg (ba.aA bd) 2 e.n cu.out
 obtain⟨S,T,U,Y,Z,a0,a1,a2⟩:=pg;simp only at ac⊢;obtain⟨a6,bs⟩:=kA (Qb m ⟨S,T,U,Y,Z,a0,a1,a2⟩ ic wr q n);rw[bs.out]at ab⊢;obtain⟨d1,P⟩:=kA (if a6.1=Xc then(0:Int)else 10);rw[P.out];clear aq ar bf cl;obtain⟨d,cf⟩:=kA w.heap.size;obtain⟨ao,a3⟩:=kB (w.alloc (Xk #[Xj (Xa ⟨p,0,Xb⟩),I6 (q:Int),I6 (n:Int),I6 a.fr,I6 a.tz,Xh a.rd,Xh a.wr,Xh a.sh,I6 a.file,I6 a.base,U8 S,U8 T,U8 U,U8 Y,U8 Z,U8 a0,U8 a1,U8 a2,Xh ic,Xh wr] 245));have ce:=gA a3
 have ch:=xPT a3 cf
 have c0:=dD a3;clear a3;have ak:=ZZ (ad.aA ce) q cw (n:Int);rw[bu.out]at ak
 go_enter func206,ntmps206
 go_upto_region 1 with fail;rw[c0.out,cf.out];obtain⟨u0,u1,u2⟩:=ch.box.c3;go_wp2_with fail;refine ak.mono ?_;clear ak u0 u1 u2 ba;rintro c9 b9⟨rfl,cj⟩;unfold enV;go_upto_region 2 with fail;obtain⟨ap,ax⟩:=kA b9.heap.size;obtain⟨L,a4⟩:=kB (b9.alloc (Xk #[I6 e.kind,I6 e.n,Xh e.wr] 127));have af:zc ao L:=by rw[<-a4];exact cj.trans (za _ _)
 have c3:=xPT a4 ax
 have bp:=dD (ch.aA af);have br:=dD (ce.trans af);rw[a4,ax.out];clear a4 af cj;obtain⟨an,u⟩:=kA (decide (e.kind=1/\ic=Xc/\(wr=Xd\/(z3 m e.n).r=1)))
 go_cut[36] (fun ca cd=>ca=Xh an/\Xo (zc L cd))
 case first=>
  have z:Nonempty (zf L):=⟨⟨_,zc.refl _⟩⟩;have a5:=fun y:zf L=>(c3.box.aA y.aA).c 0 rfl
  have i:=fun y:zf L=>(c3.box.aA y.aA).c 1 rfl
  have A:=fun y:zf L=>(bp.box.aA y.aA).c 0 rfl
  have k:=fun y:zf L=>(bp.box.aA y.aA).c 18 rfl
  have r:=fun y:zf L=>(bp.box.aA y.aA).c 19 rfl
  by_cases b:e.kind=1
  ·have h:(e.kind==1)=Xc:=Rr b
   obtain⟨B,fr,a8,ag⟩:=az.out b
   cases ic with
   |false=>
    have G:an=Xd:=by rw[<-u.out];simp
    subst G;clear b;refine qq [] zU Kr Sm Sm ?_
    iterate 2 refine ze ?_
    refine qL rfl rfl rfl (fun R j=>?_);go_big_quiet_op;(try rw[h]);refine j _ ?_;clear j R
    iterate 5 refine ze ?_
    iterate 18 (refine jo rfl ?_;simp only[Xx,sB,sS,sZ])
    refine ze ?_
    refine zH fun c2 F _=>?_
    have E:=dD F
    clear F z a5 i A k r;go_wp2
    go_meet
    exact⟨rfl,E⟩
   |true=>
    cases wr with
    |false=>
     have G:an=Xc:=by rw[<-u.out];simp[b]
     subst G;clear b;refine qq [] zU Kr Sm Sm ?_
     iterate 2 refine ze ?_
     refine qL rfl rfl rfl (fun R j=>?_);go_big_quiet_op;(try rw[h]);refine j _ ?_;clear j R
     iterate 9 refine ze ?_
     iterate 13 (refine jo rfl ?_;simp only[Xx,sB,sS,sZ])
     iterate 2 refine ze ?_
     refine zH fun c2 F _=>?_
     have E:=dD F
     clear F z a5 i A k r;go_wp2
     go_meet
     exact⟨rfl,E⟩
    |true=>
     obtain⟨ct,av⟩:=kA (fr.r==1);have G:an=ct:=by
      rw[<-u.out,<-av.out,a8,zX ag]
      simp[b]
      exact Bool.beq_eq_decide_eq ..|>.symm
     subst G;obtain⟨ae,a9,be⟩:=ad.at.bC B fr ag;obtain⟨da,-⟩:=ad.at.ns;have d6:(B:Int)<(V.f.n:Int):=by
      have:=(gS.1 ag).1;omega
     have d8:∀y:zf L,y.world.cell? ⟨p,0,Xb⟩=Xa (O (Xa ae) V.f.n V.f.c):=fun y=>by
      have:=(ad.box.box.aA (br.trans y.aA)).c 0 rfl;rw[a9]at this;exact this
     have d5:=fun y:zf L=>(be _ (br.trans y.aA)).2.2.2.2.2.2.2.2.1
     have c5:=av.out;rw[a8]at i;clear b a8 ag be a9 da;refine qq [] zU Kr Sm Sm ?_
     iterate 2 refine ze ?_
     refine qL rfl rfl rfl (fun R j=>?_);go_big_quiet_op;(try rw[h]);refine j _ ?_;clear j R
     iterate 11 refine ze ?_
     refine Zj (.tmp 23) ⟨p,0,Xb⟩ rfl rfl rfl rfl ?_;refine Uq ?_;iterate 9 refine ze ?_
     refine qL rfl rfl rfl (fun R j=>?_);go_big_quiet_op;(try rw[c5]);refine j _ ?_;clear j R
     iterate 2 refine ze ?_
     refine zH fun c2 F _=>?_
     have E:=dD F
     clear F z a5 i A k r;go_wp2
     go_meet
     exact⟨rfl,E⟩
  have h:(e.kind==1)=Xd:=Si b
  have G:an=Xd:=by rw[<-u.out];simp[b]
  subst G;clear b;refine qq [] zU Kr Sm Sm ?_
  iterate 2 refine ze ?_
  refine qL rfl rfl rfl (fun R j=>?_);go_big_quiet_op;(try rw[h]);refine j _ ?_;clear j R
  refine ze ?_
  iterate 2 (refine jo rfl ?_;simp only[Xx,sB,sS,sZ])
  iterate 2 refine ze ?_
  iterate 18 (refine jo rfl ?_;simp only[Xx,sB,sS,sZ])
  refine ze ?_
  refine zH fun c2 F _=>?_
  have E:=dD F
  clear F z a5 i A k r;go_wp2
  go_meet
  exact⟨rfl,E⟩
 obtain⟨rfl,E⟩:=hcut;have D:=dD (bp.aA E);have bq:=dD (c3.aA E);have K:=dD (br.trans E);obtain⟨de,cs⟩:=bq.box.k2
 cases an with
 |true=>
  have ai:=of_decide_eq_true u.out;obtain⟨B,fr,a8,ag⟩:=az.out ai.1;have t:Xo (a6=(Xc,B,m)):=dD<|by rw[ab.out,kE ai,a8,tN]
  have b8:Xo (Chg w0 X p w V a6.2.2 wc):=dD<|Rx t.out (Chg.refl ad K.out)
  rw[a8]at cs;clear ai a8 ag;go_wp2
  go_ret2
  exact⟨by rw[<-P.out,t.out];rfl,b8⟩
 |false=>
  have a7:Xo (a6=if e.kind=2/\wr=Xd then J4 m ⟨S,T,U,Y,Z,a0,a1,a2⟩ (qW m 2 e.n m.sp.length)else J4 m ⟨S,T,U,Y,Z,a0,a1,a2⟩ [(q,n)]):=dD<|by rw[ab.out,kF (of_decide_eq_false u.out)]
  obtain⟨bo,N⟩:=kA (decide (e.kind=2/\wr=Xd));have u19:=D.box.c 19 rfl;go_upto_region 4 with fail
  go_cut[46] (fun cb cd=>cb=Xh bo/\cd=wc)
  case first=>
   by_cases v:e.kind=2
   ·have h:(e.kind==2)=Xc:=Rr v
    have G:bo=!wr:=by rw[<-N.out];cases wr<;>simp[v]
    subst G;clear v;cases wr
    all_goals(go_wp2;go_meet;exact⟨rfl,rfl⟩)
   have h:(e.kind==2)=Xd:=Si v
   have G:bo=Xd:=by rw[<-N.out];simp[v]
   subst G;clear v;go_wp2
   go_meet
   exact⟨rfl,rfl⟩
  obtain⟨rfl,c6⟩:=hcut;subst c6;clear u19 de cs
  cases bo with
  |false=>
   have t:Xo (a6=J4 m ⟨S,T,U,Y,Z,a0,a1,a2⟩ [(q,n)]):=dD<|by rw[a7.out,kF (of_decide_eq_false N.out)]
   obtain⟨u0,u1,u2⟩:=D.box.c3;have u10:=D.box.c 10 rfl;have u11:=D.box.c 11 rfl;have u12:=D.box.c 12 rfl;have u13:=D.box.c 13 rfl;have u14:=D.box.c 14 rfl;have u15:=D.box.c 15 rfl;have u16:=D.box.c 16 rfl;have u17:=D.box.c 17 rfl;have aw:=ac.out (wc.alloc (Xk #[I6 (q:Int),I6 (n:Int)] 142)) (O (Xa ⟨wc.heap.size,0,Xb⟩) 1 1) [(q,n)] (K.trans (za _ _)) (zP.aN (base:=wc.heap.size) ⟨ZD Jb wc (q,n) _ _ rfl Dc,fun x n dh e=>by cases e;exact nR _⟩ (fun B al=>Ya (cg B al) (bS K))) bx Sm Sm
   rw[<-t.out,P.out]at aw;go_wp2_with fail;refine aw.mono ?_;clear u0 u1 u2 u10 u11 u12 u13 u14 u15 u16 u17;rintro c9 df⟨rfl,ck⟩;have b8:=dD<|Chg.aG (K.trans (za _ _)) ck
   clear ck;go_wp2
   go_ret2
   exact⟨rfl,b8⟩
  |true=>
   have ai:=of_decide_eq_true N.out;have t:Xo (a6=J4 m ⟨S,T,U,Y,Z,a0,a1,a2⟩ (qW m 2 e.n m.sp.length)):=dD<|by rw[a7.out,kE ai]
   obtain⟨cn,co,cp⟩:=bz.out ai.1;have cv:Xo (∀W aa,zc w W->zb Jb W.heap.size W aa (qW m 2 e.n m.sp.length)->True):=dD<|fun _ _ _ _=>trivial
   have aj:=fun W M bd am=>ac.out W M (qW m 2 e.n m.sp.length) bd am cn co cp
   rw[<-t.out,P.out]at aj;have bt:=dD aj
   clear aj ai cn co cp;go_upto_region 5 with fail;obtain⟨f,c⟩:=Wq fun C=>zg C d 245 [Xj (Xa ⟨p,0,Xb⟩),I6 (q:Int),I6 (n:Int),I6 a.fr,I6 a.tz,Xh a.rd,Xh a.wr,Xh a.sh,I6 a.file,I6 a.base,U8 S,U8 T,U8 U,U8 Y,U8 Z,U8 a0,U8 a1,U8 a2,Xh ic,Xh wr]/\zg C ap 127 [I6 e.kind,I6 e.n,Xh e.wr]
   have ah:f wc.drew:=(c _).2 ⟨D.aA (gW _),bq.aA (gW _)⟩
   have bb:zc wc wc.drew:=show Below _ _ _ from(bR _ _).drew
   have i:=fun y:zo f=>((c _).1 y.holds).2.box.c 1 rfl
   have A:=fun y:zo f=>((c _).1 y.holds).1.box.c 0 rfl
   have bg:=fun y:zo f=>((c _).1 y.holds).1.box.c 10 rfl
   have bh:=fun y:zo f=>((c _).1 y.holds).1.box.c 11 rfl
   have bi:=fun y:zo f=>((c _).1 y.holds).1.box.c 12 rfl
   have bj:=fun y:zo f=>((c _).1 y.holds).1.box.c 13 rfl
   have bk:=fun y:zo f=>((c _).1 y.holds).1.box.c 14 rfl
   have bl:=fun y:zo f=>((c _).1 y.holds).1.box.c 15 rfl
   have bm:=fun y:zo f=>((c _).1 y.holds).1.box.c 16 rfl
   have bn:=fun y:zo f=>((c _).1 y.holds).1.box.c 17 rfl
   have z:Nonempty (zo f):=⟨⟨_,ah⟩⟩;have ay:Xo (¬Dw p V d/\¬Dw p V ap):=dD<|⟨(ad.aA K).bQ D Dc Dc Dc Dc,(ad.aA K).bQ bq Dc Dc Dc Dc⟩
   refine qj (I:=f) 14 [(8,fun aa=>∃s:Sli,aa=s.x),(9,fun aa=>aa=Xm #[I6 (a6.2.1:Int),I6 d1])] (fun C=>zc wc C) ah bb zU Kr rfl rfl Dc (Sb ⟨_,Zy,rfl⟩ ⟨_,rfl⟩) Kr ?_
   simp only[Yp,Yq];iterate 8 refine zw ?_
   refine zL rfl rfl (fun aa C=>zc wc C/\zP Jb wc.heap.size C aa (qW m 2 e.n m.sp.length)) (fun w' H g=>?_) (fun db am=>?_)
   ·refine zI.call [Xj (Xa ⟨p,0,Xb⟩),I6 2,I6 e.n] rfl func233 rfl rfl rfl ?_;refine(bw w' (K.trans g)).mono ?_;rintro c9 cc⟨aa,rfl,cq,af⟩;obtain⟨dc,dd,rfl⟩:=cq.form;exact⟨_,rfl,(c _).2 ⟨((c _).1 H).1.aA af,((c _).1 H).2.aA af⟩,⟨⟨dc,_,dd⟩,rfl⟩,g.trans af,(cq.base (bS g)).new⟩
   obtain⟨cr,rfl⟩:=am;refine Uq ?_;refine zL rfl rfl (fun _ C=>Chg w0 X p w V a6.2.2 C) (fun w' H g=>?_) (fun db am=>?_)
   ·refine zI.call [Xj (Xa ⟨p,0,Xb⟩),Xi #[U8 S,U8 T,U8 U,U8 Y,U8 Z,U8 a0,U8 a1,U8 a2],cr.x] rfl func232 rfl rfl rfl ?_;refine(bt w' (cr.x) (K.trans g.1) (g.2.aN (fun B al=>Ya (cg B al) (bS K)))).mono ?_
    rintro c9 cc⟨rfl,cx,cy,c8,cz⟩;exact⟨_,rfl,(c _).2 ⟨((c _).1 H).1.aK c8 ay.1,((c _).1 H).2.aK c8 ay.2⟩,rfl,Chg.aG (K.trans g.1) ⟨cx,cy,c8,cz⟩⟩
   subst am;refine Uq ?_;iterate 4 refine zw ?_
   refine jL fun dg c4 bc=>?_
   have b8:=dD bc;clear c4 bc ah bb z i A bg bh bi bj bk bl bm bn;go_wp2
   go_ret2
   exact⟨rfl,b8⟩
variable{X:Nat->Prop}
def jr(m:Ma)(BF:Bool×Nat×Ma)(pg:Pg)(a:Ar)(ic wr:Bool)(q n:Nat):Bool×Nat×Ma:=if(0<=a.file/\ic=Xd)/\(a.sh=Xc\/wr=Xd)then BF else Qb m pg ic wr q n
theorem zfY{w:Xn}{p:Nat}(N:ChW w0 X p w V m)(Z:Rt m)(q n:Nat)(s)(a0:m.sp[q]?=Xa s)(I:n<64)(a:Ar)(pg:Pg)(ic wr:Bool)
  (Y:∀(l:List (Nat×Nat))(a1:Xq),(∀x∈l,x.2<64/\∃s,m.sp[x.1]?=Xa s)->qE (zi m l).fs=0->∀r T,ChW w0 X p r T (zi m l)->zhm Jb (Dw p T) r a1 l->Xp prog 160 #[Xj (Xa ⟨p,0,Xb⟩),a1] r fun e w'=>e=Xl (Xh (jP (zi m l) l).1)/\Chg w0 X p r T (jP (zi m l) l).2 w')
  (BF:Bool×Nat×Ma)(L:(0<=a.file/\ic=Xd)/\(a.sh=Xc\/wr=Xd)->∀W,zc w W->Xp prog 205 #[Xi #[Xj (Xa ⟨p,0,Xb⟩),I6 (q:Int),I6 (n:Int),I6 a.fr,I6 a.tz,Xh a.rd,Xh a.wr,Xh a.sh,I6 a.file,I6 a.base,U8 pg.b0,U8 pg.b1,U8 pg.b2,U8 pg.b3,U8 pg.b4,U8 pg.b5,U8 pg.b6,U8 pg.b7,Xh ic,Xh wr]] W fun e w'=>e=Xl (Xm #[I6 (BF.2.1:Int),I6 (if BF.1=Xc then 0 else 10)])/\Chg w0 X p W V BF.2.2 w'):
  Xp prog 178 #[Xi #[Xj (Xa ⟨p,0,Xb⟩),I6 (q:Int),I6 (n:Int),I6 a.fr,I6 a.tz,Xh a.rd,Xh a.wr,Xh a.sh,I6 a.file,I6 a.base,U8 pg.b0,U8 pg.b1,U8 pg.b2,U8 pg.b3,U8 pg.b4,U8 pg.b5,U8 pg.b6,U8 pg.b7,Xh ic,Xh wr]] w fun e w'=>e=Xl (Xm #[I6 ((jr m BF pg a ic wr q n).2.1:Int),I6 (if(jr m BF pg a ic wr q n).1=Xc then 0 else 10)])/\Chg w0 X p w V (jr m BF pg a ic wr q n).2.2 w':=by
 have H:Xo (∀W,zc w W->Xp prog 206 #[Xi #[Xj (Xa ⟨p,0,Xb⟩),I6 (q:Int),I6 (n:Int),I6 a.fr,I6 a.tz,Xh a.rd,Xh a.wr,Xh a.sh,I6 a.file,I6 a.base,U8 pg.b0,U8 pg.b1,U8 pg.b2,U8 pg.b3,U8 pg.b4,U8 pg.b5,U8 pg.b6,U8 pg.b7,Xh ic,Xh wr]] W fun e w'=>e=Xl (Xm #[I6 ((Qb m pg ic wr q n).2.1:Int),I6 (if(Qb m pg ic wr q n).1=Xc then 0 else 10)])/\Chg w0 X p W V (Qb m pg ic wr q n).2.2 w'):=dD<|fun W a2=>zhJ (N.aA a2) Z q n s a0 I a pg ic wr Y
 have j:=dD L
 obtain⟨y,z,A,B,C,D,E,F⟩:=pg;simp only at H j⊢;have d:Xo (jr m BF ⟨y,z,A,B,C,D,E,F⟩ a ic wr q n=if(0<=a.file/\ic=Xd)/\(a.sh=Xc\/wr=Xd)then BF else Qb m ⟨y,z,A,B,C,D,E,F⟩ ic wr q n):=dD<|rfl
 obtain⟨G,Q⟩:=kA (jr m BF ⟨y,z,A,B,C,D,E,F⟩ a ic wr q n);rw[Q.out]at d⊢;obtain⟨a5,h⟩:=kA (if G.1=Xc then(0:Int)else 10);rw[h.out];clear Z a0 I Y L N;obtain⟨K,U⟩:=kA w.heap.size;obtain⟨r,t⟩:=kB (w.alloc (Xk #[Xj (Xa ⟨p,0,Xb⟩),I6 (q:Int),I6 (n:Int),I6 a.fr,I6 a.tz,Xh a.rd,Xh a.wr,Xh a.sh,I6 a.file,I6 a.base,U8 y,U8 z,U8 A,U8 B,U8 C,U8 D,U8 E,U8 F,Xh ic,Xh wr] 245));have v:=gA t
 have i:=xPT t U
 have S:Xo (_=r):=t;clear t;have b:=H.out r v.out
 go_enter func178,ntmps178
 go_upto_region 1 with fail;rw[S.out,U.out];obtain⟨a4,R⟩:=kA a.sh;rw[R.out]at i d j b;have u7:=i.box.c 7 rfl;have u8:=i.box.c 8 rfl;have u18:=i.box.c 18 rfl;have u19:=i.box.c 19 rfl
 by_cases u:0<=a.file
 ·have a3:decide (0<=a.file)=Xc:=decide_eq_true u
  cases ic with
  |true=>
   have c:Xo (G=Qb m ⟨y,z,A,B,C,D,E,F⟩ Xc wr q n):=dD<|by rw[d.out,kF Sm]
   rw[<-c.out,h.out]at b
   go_wp2_with(refine zm rfl 245 (.tmp 1) rfl K rfl i.box underlying245 rfl Kr ?_)
   refine b.mono ?_;clear b u7 u8 u18 u19;rintro P M⟨rfl,g⟩;have k:=dD<|Chg.aG v g
   clear g;go_wp2
   go_ret2
   exact⟨rfl,k⟩
  |false=>
   cases a4 with
   |true=>
    have c:Xo (G=BF):=dD<|by rw[d.out,kE (by exact⟨⟨u,rfl⟩,.inl rfl⟩)]
    have f:=j.out (by exact⟨⟨u,rfl⟩,.inl rfl⟩) r v.out
    rw[<-c.out,h.out]at f;clear u b
    go_wp2_with(refine zm rfl 245 (.tmp 1) rfl K rfl i.box underlying245 rfl Kr ?_)
    refine f.mono ?_;clear f u7 u8 u18 u19;rintro P M⟨rfl,g⟩;have k:=dD<|Chg.aG v g
    clear g;go_wp2
    go_ret2
    exact⟨rfl,k⟩
   |false=>
    cases wr with
    |false=>
     have c:Xo (G=BF):=dD<|by rw[d.out,kE (by exact⟨⟨u,rfl⟩,.inr rfl⟩)]
     have f:=j.out (by exact⟨⟨u,rfl⟩,.inr rfl⟩) r v.out
     rw[<-c.out,h.out]at f;clear u b
     go_wp2_with(refine zm rfl 245 (.tmp 1) rfl K rfl i.box underlying245 rfl Kr ?_)
     refine f.mono ?_;clear f u7 u8 u18 u19;rintro P M⟨rfl,g⟩;have k:=dD<|Chg.aG v g
     clear g;go_wp2
     go_ret2
     exact⟨rfl,k⟩
    |true=>
     have c:Xo (G=Qb m ⟨y,z,A,B,C,D,E,F⟩ Xd Xc q n):=dD<|by rw[d.out,kF Sm]
     rw[<-c.out,h.out]at b
     go_wp2_with(refine zm rfl 245 (.tmp 1) rfl K rfl i.box underlying245 rfl Kr ?_)
     refine b.mono ?_;clear b u7 u8 u18 u19;rintro P M⟨rfl,g⟩;have k:=dD<|Chg.aG v g
     clear g;go_wp2
     go_ret2
     exact⟨rfl,k⟩
 have a3:decide (0<=a.file)=Xd:=decide_eq_false u;have c:Xo (G=Qb m ⟨y,z,A,B,C,D,E,F⟩ ic wr q n):=dD<|by rw[d.out,kF (by exact fun N=>u N.1.1)]
 rw[<-c.out,h.out]at b
 go_wp2_with(refine zm rfl 245 (.tmp 1) rfl K rfl i.box underlying245 rfl Kr ?_)
 refine b.mono ?_;clear b u7 u8 u18 u19;rintro P M⟨rfl,g⟩;have k:=dD<|Chg.aG v g
 clear g;go_wp2
 go_ret2
 exact⟨rfl,k⟩
variable{X:Nat->Prop}
def zft(m:Ma)(pg:Pg)(fi ix:Int)(q n:Nat):Bool×Nat×Ma:=
 match m.ca.find? fun c=>decide (qp c=qp ⟨fi,ix,0⟩)with
 |some c=>(Xc,c.fr.toNat,if(QH m q (n:Int)).kind=0 then Q6 m c.fr.toNat q n else m)
 |none=>q9 m pg fi ix [(q,n)]
theorem zfr{t:Ca}:∀{ca:List Ca},(ca.Pairwise fun a b=>qp a<qp b)->zb1 ca t=Xc->ca.find? (fun c=>decide (qp c=qp t))=ca[zbA ca t]?
 |[],_,h=>by cases h
 |c::l,g,h=>by
  unfold zbA;rw[Yk,List.find?_cons]
  by_cases e:qp c=qp t
  ·rw[decide_eq_true e,decide_eq_false Wm]
   rfl
  rw[decide_eq_false e];have d:zb1 l t=Xc:=by
   unfold zb1 at h⊢;rw[List.any_cons,decide_eq_false e,Bool.false_or]at h;exact h
  have f:qp c<qp t:=by
   unfold zb1 at d;obtain⟨j,k,m⟩:=Xt.1 d;have n:=(Oh.1 g).1 j k;have p:=of_decide_eq_true m;omega
  rw[decide_eq_true f];have i:=zfr (Oh.1 g).2 d;unfold zbA at i;simp only[if_true,Yi,Xs];exact i
theorem zoI(a b:Int)(c:Bool)(w:Xn):(Instr.field 127 (Xi #[I6 a,I6 b,Xh c]) 0).run prog w=.ok (I6 a) w:=by
 simp only[Instr.field,Yg,run_underlying underlying127,rA,asAgg];exact run_part_plain w (by simp[Program.plainKey,underlying3]) rfl
theorem zhI{w:Xn}{p:Nat}(ad:ChW w0 X p w V m)(ae:Rt m)(q n:Nat)(s:Sp)(af:m.sp[q]?=Xa s)(bg:n<64)(a:Ar)(fi ix:Nat)(a4:a.file=(fi:Int))(a6:a.base+(n:Int)-a.fr=(ix:Int))(a1:0<=a.base/\a.base<=100)(a2:0<=a.fr/\a.fr<=100)(j:ix<100)(pg:Pg)(ic wr:Bool)
  (aa:zb1 m.ca ⟨(fi:Int),(ix:Int),0⟩=Xd->m.ca=[]/\qE (zi m [(q,n)]).fs≠0/\frW (frT pg (fi:Int) (ix:Int))=0):
  Xp prog 205 #[Xi #[Xj (Xa ⟨p,0,Xb⟩),I6 (q:Int),I6 (n:Int),I6 a.fr,I6 a.tz,Xh a.rd,Xh a.wr,Xh a.sh,I6 a.file,I6 a.base,U8 pg.b0,U8 pg.b1,U8 pg.b2,U8 pg.b3,U8 pg.b4,U8 pg.b5,U8 pg.b6,U8 pg.b7,Xh ic,Xh wr]] w fun e w'=>e=Xl (Xm #[I6 ((zft m pg (fi:Int) (ix:Int) q n).2.1:Int),I6 0])/\Chg w0 X p w V (zft m pg (fi:Int) (ix:Int) q n).2.2 w':=by
 obtain⟨Z,_,_⟩:=zy.1 ae.inv.ca;obtain⟨E,a5,a0⟩:=ae.cache;have al:Xo (∀W,zc w W->Xp prog 154 #[Xj (Xa ⟨p,0,Xb⟩),I6 (fi:Int),I6 (ix:Int)] W fun e w'=>((zb1 m.ca ⟨(fi:Int),(ix:Int),0⟩=Xd/\e=Xl (Xm #[I6 0,Xh Xd]))\/(zb1 m.ca ⟨(fi:Int),(ix:Int),0⟩=Xc/\∀d,m.ca[zbA m.ca ⟨(fi:Int),(ix:Int),0⟩]?=Xa d->e=Xl (Xm #[I6 d.fr,Xh Xc])))/\zc W w'):=dD<|fun W br=>zb8 (ad.aA br) E a5 a0 (fi:Int) (ix:Int) Wm
 have ao:Xo (∀W,Xp prog 169 #[Xi #[I6 a.fr,I6 a.tz,Xh a.rd,Xh a.wr,Xh a.sh,I6 a.file,I6 a.base],I6 (n:Int)] W fun e w'=>e=Xl (I6 (ix:Int))/\zc W w'):=dD<|fun W=>by
  rw[<-a6];exact QU a (n:Int) W a1 a2 Wm
 have ab:Xo (ChW w0 X p w V m):=ad;have ac:Xo (Rt m):=ae;have S:Xo (m.sp[q]?=Xa s):=af;have bc:Xo (n<64):=bg;have bm:Xo (∀ag,Dw p V ag->ag<w.heap.size):=ad.aM;have ar:=show Xo _ from aa
 have an:Xo (m.ca.Pairwise fun a be=>qp a<qp be):=E
 have am:Xo (∀d∈m.ca,caE m Xb d=0):=Z;have N:Xo (ix<100):=j;have Q:Xo (a.file=(fi:Int)):=a4;obtain⟨u,v,x,y,z,A,B,C⟩:=pg;simp only;obtain⟨ah,r⟩:=kA (zft m ⟨u,v,x,y,z,A,B,C⟩ (fi:Int) (ix:Int) q n);rw[r.out];obtain⟨be,bb⟩:=kA w.heap.size;obtain⟨bd,g⟩:=kB (w.alloc (Xk #[Xj (Xa ⟨p,0,Xb⟩),I6 (q:Int),I6 (n:Int),I6 a.fr,I6 a.tz,Xh a.rd,Xh a.wr,Xh a.sh,I6 a.file,I6 a.base,U8 u,U8 v,U8 x,U8 y,U8 z,U8 A,U8 B,U8 C,Xh ic,Xh wr] 245));have bl:=gA g
 have f:=xPT g bb
 have au:Xo (_=bd):=g;have k:=ao.out bd;clear g ad ae af bg aa Z E a5 a0 j a4 a6 a1 a2
 go_enter func205,ntmps205
 go_upto_region 1 with fail;rw[au.out,bb.out];obtain⟨_,_,u2,u3,u4,u5,u6,u7,u8,u9⟩:=f.box.k10;go_wp2_with fail;refine k.mono ?_;clear k u2 u3 u4 u5 u6 u7 u8 u9;rintro e bo⟨rfl,ax⟩;have ba:=dD (bl.trans ax);have aw:=dD (f.aA ax);have u0:=aw.box.c 0 rfl;have u8:=aw.box.c 8 rfl;rw[Q.out]at u8;have a3:=al.out bo ba.out;clear ax;go_wp2_with fail;refine a3.mono ?_;clear a3 u0 u8;rintro e U⟨F,ay⟩;have M:=dD (ba.trans ay);have c:=dD (aw.aA ay);clear ay
 rcases F with⟨L,rfl⟩|⟨L,bf⟩
 ·obtain⟨b9,bj,bk⟩:=ar.out L;have b:Xo (zft m ⟨u,v,x,y,z,A,B,C⟩ (fi:Int) (ix:Int) q n=q9 m ⟨u,v,x,y,z,A,B,C⟩ (fi:Int) (ix:Int) [(q,n)]):=dD<|by
   unfold zft;rw[b9];rfl
  have H:=zg0 (ab.aA (M.trans (za U (Xk #[I6 (q:Int),I6 (n:Int)] 142)))) ac ⟨u,v,x,y,z,A,B,C⟩ fi ix bk N (O (Xa ⟨U.heap.size,0,Xb⟩) 1 1) q n s S bc (zP.aN (base:=U.heap.size) ⟨ZD Jb U (q,n) _ _ rfl Dc,fun c0 n d e=>by cases e;exact nR _⟩ (fun ag l=>Ya (bm ag l) (bS M))) b9 bj
  obtain⟨bw,P⟩:=kA (q9 m ⟨u,v,x,y,z,A,B,C⟩ (fi:Int) (ix:Int) [(q,n)]);rw[P.out]at H;rw[P.out,r.out]at b;have ai:Xo (zc w (U.alloc (Xk #[I6 (q:Int),I6 (n:Int)] 142))):=dD<|M.trans (za _ _)
  obtain⟨u0,u1,u2⟩:=c.box.c3;have u8:=c.box.c 8 rfl;rw[Q.out]at u8;have u10:=c.box.c 10 rfl;have u11:=c.box.c 11 rfl;have u12:=c.box.c 12 rfl;have u13:=c.box.c 13 rfl;have u14:=c.box.c 14 rfl;have u15:=c.box.c 15 rfl;have u16:=c.box.c 16 rfl;have u17:=c.box.c 17 rfl;clear L b9 bj bk;go_wp2_with fail;refine H.mono ?_;clear H u0 u1 u2 u8 u10 u11 u12 u13 u14 u15 u16 u17;rintro e av⟨rfl,I⟩;have T:Xo (Chg w0 X p w V ah.2.2 av):=dD<|Rx b.out (Chg.aG ai I)
  clear I;go_wp2
  go_ret2
  exact⟨Rr b.out,T⟩
 have a9:=zeU L;obtain⟨d,ak⟩:∃d,Xo (m.ca[zbA m.ca ⟨(fi:Int),(ix:Int),0⟩]?=Xa d):=⟨_,gE a9⟩;have bs:=bf d ak.out;subst bs;obtain⟨Y,D,_⟩:=Zv (am d (mG ak));obtain⟨i,R⟩:∃i:Nat,Xo (d.fr=(i:Int)):=⟨d.fr.toNat,show _=_ by omega⟩
 have b:Xo (zft m ⟨u,v,x,y,z,A,B,C⟩ (fi:Int) (ix:Int) q n=(Xc,i,if(QH m q (n:Int)).kind=0 then Q6 m i q n else m)):=dD<|by
  unfold zft;rw[zfr an.out L,ak.out];simp only;rw[R.out,tN]
 rw[r.out]at b;have t:Xo (q<m.sp.length):=(gS.1 S).1;rw[R.out]at Y D⊢;have a8:i<m.fs.length:=Wm
 have h:=gE a8;rw[zX h]at D;obtain⟨bu,bv⟩:=ac.refs h;obtain⟨bh,bi,-⟩:=zia ac.parts.1 h Wm Wm (fun s af=>ac.tb af) t bc.out
 have ap:Xo (jW m.fs m.aB (i:Int) 1=0):=bh;have aq:Xo (zbK m q (n:Int) (i:Int)=Q6 m i q n):=bi;clear a9 bf Y D a8 h bu bv bh bi L;have G:=ZZ (ab.aA M) q t (n:Int);obtain⟨K,bn⟩:=kA (QH m q (n:Int));rw[bn.out]at G b;obtain⟨u0,u1,u2⟩:=c.box.c3;go_wp2_with fail;refine G.mono ?_;clear G u0 u1 u2;rintro bx bp⟨rfl,az⟩;have aj:=dD (M.trans az);have bq:=dD (c.aA az);unfold enV;clear az;have bt:=zoI K.kind K.n K.wr
 by_cases l:K.kind=0
 ·have b8:(K.kind==0)=Xc:=Rr l
  have a7:=JS (ab.aA aj) q t (n:Int) (i:Int) ap.out;obtain⟨u0,u1,u2⟩:=bq.box.c3;rw[kE l]at b;clear l;go_wp2_with fail;refine a7.mono ?_;clear a7 u0 u1 u2;rintro e av⟨⟨bz,rfl⟩,I⟩;have T:Xo (Chg w0 X p w V ah.2.2 av):=dD<|by rw[b.out,<-aq.out];exact Chg.aG aj I
  clear I;go_wp2
  go_ret2
  exact⟨Rr b.out,T⟩
 have b8:(K.kind==0)=Xd:=Si l
 rw[kF l]at b;clear l;have T:Xo (Chg w0 X p w V ah.2.2 bp):=dD<|Rx b.out (Chg.refl ab aj.out)
 go_wp2
 go_ret2
 exact⟨Rr b.out,T⟩
end
end Go.Proofs.YtmfckdkcmbncdaaGreat
