import Derived.Test.YtmfckdkcmbncdaaGreatMM3
import Derived.Lib.Overlaps
import Derived.Laws.Externs
import Derived.Lib.AppendZerosOnto
namespace Go.Proofs.YtmfckdkcmbncdaaGreat
open Go.Value renaming slice→O,int→Xe,bool→Xh,agg→Xi,pointer→Xj,tuple→Xm
open Go.IntKind renaming i64→Xf,u8→Xg
open Go.Obj renaming cells→Xk
open Go.Ending renaming returned→Xl
open Go renaming World→Xn,Calls→Xp,Value→Xq
open Go.RowKit renaming Hid→Xo
open Option renaming some→Xa,none→Xb
open Bool renaming true→Xc,false→Xd
open List renaming replicate→Xr
open _root_.Nat renaming lt_of_lt_of_le→Xs,min_eq_left→Xv,mul_le_mul_right→Yb,le_of_ble_eq_true→Yf,add_mul→Yt
open _root_.List renaming length_take→Xt,length_drop→Xu,flatMap_append→Xy,mem_cons_self→Xz,length_singleton→Ya,getElem?_append_left→Yc,append_nil→Yd,getElem?_map→Ye,take_append_drop→Yg,take_append_of_le_length→Yh,take_left'→Yj,map_nil→Yk,take→Ym,drop→Yn,find?_eq_none→Yo,mem_range→Yp,countP_eq_length→Yr,mem_cons_of_mem→Ys,take_take→Yu,find?_nil→Yv,replicate_zero→Yw,countP_pos_iff→Yx,getElem?_take→Yz,flatten_cons→Oa,size_toArray→Oc,append_assoc→Oe,flatMap_cons→Of,range→Oh
open Go.Act renaming put→Xw
open Go.Addr renaming add_lit→Xx
open _root_.Array renaming replicate→Yi,toList_append→Yy,size_append→Od
open Go.Sem renaming run_bind→Yl,run_pure→Ob
open _root_.Bool renaming and_eq_true→Yq
open Go.Region renaming noSelect→Og
set_option maxRecDepth 100000
set_option maxHeartbeats 4000000
variable{B B0 b fi g ix:Nat}{M m m':Ma}{Q:Exit->Act->Xn->Prop}{V:MaV}{W u1 w' w0 w1 w2:Xn}{o:Oper}{ops:Array Oper}{t:TypeId}{us vs xs:List Xq}{z:Int}
open Go.Proofs.Tryz
section
open Go.RowKit
variable{X:Nat->Prop}
theorem zog{q n k:Nat}{fr:Fr}{s:Sp}{w:Bool}(j:∀s∈m.sp,Qc s.tb)(e:m.fs[k]?=Xa fr)(a:m.fs.length<=40)(i:m.sp[q]?=Xa s)(g:n<64)(c:zl s n=⟨1,(k:Int),w⟩)(r:Bool):
  j5 m q n k fr Xd r={m with fs:=m.fs.set k {fr with u:=true}}/\
  j5 m q n k fr Xc Xd=jp {m with fs:=m.fs.set k {fr with u:=true}} q (n:Int) {QH {m with fs:=m.fs.set k {fr with u:=true}} q (n:Int)with wr:=true}/\
  j5 m q n k fr Xc Xc={jp {m with fs:=m.fs.set k {fr with u:=true}} q (n:Int) {QH {m with fs:=m.fs.set k {fr with u:=true}} q (n:Int)with wr:=true}with fs:=(jp {m with fs:=m.fs.set k {fr with u:=true}} q (n:Int) {QH {m with fs:=m.fs.set k {fr with u:=true}} q (n:Int)with wr:=true}).fs.set k {fr with u:=true,d:=true}}:=by
 have f:=(gS.1 e).1;have b:QH {m with fs:=m.fs.set k {fr with u:=true}} q (n:Int)=⟨1,(k:Int),w⟩:=by grind[QH,zdT,Sp.aP,Js]
 have l:enW ⟨1,(k:Int),Xc⟩=0:=zb4 ⟨by simp only;omega,by simp only;omega⟩ ⟨by simp only;omega,by simp only;omega,fun _=>by simp only;omega⟩ Sm
 have h:=Qz (m:={m with fs:=m.fs.set k {fr with u:=true}}) j (p:=q) (n:=n) (gS.1 i).1 g l;rw[b];simp only;rw[h];refine⟨rfl,?_,?_⟩
 ·unfold j5
  grind
 unfold j5 zab;rw[kE rfl,Bool.or_true];simp only[List.set_set]
theorem zhH{w0 w:Xn}{p:Nat}{V:MaV}{m:Ma}(h:ChW w0 X p w V m)(q n k:Nat)(fr:Fr)(s:Sp)(we:Bool)(hk:m.fs[k]?=Xa fr)(h40:m.fs.length<=40)(ht:∀s∈m.sp,Qc s.tb)(hs:m.sp[q]?=Xa s)(hn:n<64)(hen:zl s n=⟨1,(k:Int),we⟩)(a:Ar)(pg:Pg)(ic wr:Bool):
  Xp Tryz.prog 179 #[Xi #[Xj (Xa ⟨p,0,Xb⟩),Xe Xf (q:Int),Xe Xf (n:Int),Xe Xf a.fr,Xe Xf a.tz,Xh a.rd,Xh a.wr,Xh a.sh,Xe Xf a.file,Xe Xf a.base,Xe Xg pg.b0,Xe Xg pg.b1,Xe Xg pg.b2,Xe Xg pg.b3,Xe Xg pg.b4,Xe Xg pg.b5,Xe Xg pg.b6,Xe Xg pg.b7,Xh ic,Xh wr],Xe Xf (k:Int)] w fun e w'=>(∃v,e=Xl v)/\Chg w0 X p w V (j5 m q n k fr wr a.sh) w':=by
 have HM:Xo (ChW w0 X p w V m):=h;obtain⟨h1,h2,h3⟩:=zog ht hk h40 hs hn hen a.sh;have H1:Xo (j5 m q n k fr Xd a.sh={m with fs:=m.fs.set k {fr with u:=true}}):=h1;have HQ:Xo (q<m.sp.length):=(gS.1 hs).1;have hkl:=(gS.1 hk).1;have HK:Xo (m.fs[k]?=Xa fr):=hk;have HD:Xo (∀k,Dw p V k->k<w.heap.size):=h.aM;obtain⟨sh,HSH⟩:∃sh,Xo (a.sh=sh):=⟨_,rfl⟩;rw[HSH.out]at H1⊢;have H2:Xo (j5 m q n k fr Xc Xd=jp {m with fs:=m.fs.set k {fr with u:=true}} q (n:Int) {QH {m with fs:=m.fs.set k {fr with u:=true}} q (n:Int)with wr:=true}):=h2;have H3:Xo (j5 m q n k fr Xc Xc={jp {m with fs:=m.fs.set k {fr with u:=true}} q (n:Int) {QH {m with fs:=m.fs.set k {fr with u:=true}} q (n:Int)with wr:=true}with fs:=(jp {m with fs:=m.fs.set k {fr with u:=true}} q (n:Int) {QH {m with fs:=m.fs.set k {fr with u:=true}} q (n:Int)with wr:=true}).fs.set k {fr with u:=true,d:=true}}):=h3;clear h1 h2 h3 ht hk h40 hs hn hen;obtain⟨b0,b1,b2,b3,b4,b5,b6,b7⟩:=pg;simp only;obtain⟨b,HB⟩:∃b,Xo (w.heap.size=b):=⟨_,rfl⟩;obtain⟨W1,hW1⟩:∃W1,w.alloc (Xk #[Xj (Xa ⟨p,0,Xb⟩),Xe Xf (q:Int),Xe Xf (n:Int),Xe Xf a.fr,Xe Xf a.tz,Xh a.rd,Xh a.wr,Xh sh,Xe Xf a.file,Xe Xf a.base,Xe Xg b0,Xe Xg b1,Xe Xg b2,Xe Xg b3,Xe Xg b4,Xe Xg b5,Xe Xg b6,Xe Xg b7,Xh ic,Xh wr] 245)=W1:=⟨_,rfl⟩;have G1:=gA hW1
 have X1:=xPT hW1 HB
 have HND:Xo (¬Dw p V b):=show¬_ from fun e=>by have:=HD.out _ e;have:=HB.out;omega
 have HW1:Xo (_=W1):=hW1;clear hW1;have M1:Xo (ChW w0 X p W1 V m):=h.aA G1.out;obtain⟨g,c9,heq⟩:=M1.out.fs.aJ Wm
 have f0:=M1.out.box.box.c 0 rfl;rw[heq]at f0;have HFO:Xo (zb z9 w0.heap.size W1 (O (Xa ⟨g,0,Xb⟩) m.fs.length c9) m.fs):=show zb _ _ _ _ _ by rw[<-heq];exact M1.out.fs
 have HG:Xo (oB V.f g):=show oB _ _ by unfold oB;rw[heq];rfl
 have HEQ:Xo (O V.f.a V.f.n V.f.c=O (Xa ⟨g,0,Xb⟩) m.fs.length c9):=heq;have hlt:(k:Int)<(m.fs.length:Int):=Wm
 obtain⟨fn,HFN⟩:∃fn,Xo (m.fs.length=fn):=⟨_,rfl⟩;rw[HFN.out]at HFO HEQ f0 hlt;have u0:=X1.out.box.c 0 rfl;clear h heq hkl
 go_enter Tryz.func179,Tryz.ntmps179
 go_upto_region 1 with fail;rw[HW1.out,HB.out];clear HW1
 go_upto_region 2 with(refine zt (E:=z9) rfl (.tmp 13) (.const (Xh Xc)) 4 rfl w0.heap.size _ m.fs HFO.out g k 9 rfl fr {fr with u:=true} HK.out [Xh Xc] Kr rfl (Yf rfl) (by intro u hu;simp at hu;subst hu;rfl) ⟨g,k*13+9,Xb⟩ rfl rfl _ rfl rfl ?_)
 intro W2 ow2 gr2 _;have HC2:Xo (Chg w0 X p w V {m with fs:=m.fs.set k {fr with u:=true}} W2):=show Chg _ _ _ _ _ _ _ by
  refine Chg.aG G1.out (M1.out.frame HG.out gr2 ?_);(try simp only[Sli.x]);rw[HEQ.out];exact ow2
 have X2:Xo (zg W2 b 245 [Xj (Xa ⟨p,0,Xb⟩),Xe Xf (q:Int),Xe Xf (n:Int),Xe Xf a.fr,Xe Xf a.tz,Xh a.rd,Xh a.wr,Xh sh,Xe Xf a.file,Xe Xf a.base,Xe Xg b0,Xe Xg b1,Xe Xg b2,Xe Xg b3,Xe Xg b4,Xe Xg b5,Xe Xg b6,Xe Xg b7,Xh ic,Xh wr]):=X1.out.aK (zk.grown gr2 (show Dw p V g from .inr (.inl HG.out))) HND.out
 clear ow2 gr2 f0 u0 X1 M1 G1 HFO;try simp only[Xw]
 have u19:=X2.out.box.c 19 rfl
 cases wr with
 |false=>
  have HR:Xo (Chg w0 X p w V (j5 m q n k fr Xd sh) W2):=show Chg _ _ _ _ _ _ _ by rw[H1.out];exact HC2.out
  go_wp2
  exact Ge HR.out
 |true=>
  obtain⟨V2,m2,o2,d2⟩:=HC2.out;have M2:Xo (ChW w0 X p W2 V2 {m with fs:=m.fs.set k {fr with u:=true}}):=m2;have O2:Xo (zk (Dw p V) w W2):=o2;have D2:Xo (∀k,Dw p V2 k->Dw p V k\/w.heap.size<=k):=d2;have HN2:Xo (¬Dw p V2 b):=show¬_ from m2.bQ X2.out Dc Dc Dc Dc
  have hal:=ziv m2 q HQ.out (n:Int);clear m2 o2 d2 HC2;obtain⟨u0,u1,u2⟩:=X2.out.box.c3;go_wp2_with fail;refine hal.mono ?_;clear hal u0 u1 u2 u19;rintro e W4⟨⟨v4,rfl⟩,h4⟩;obtain⟨V4,m4,o4,d4⟩:=h4;have X4:Xo (zg W4 b 245 [Xj (Xa ⟨p,0,Xb⟩),Xe Xf (q:Int),Xe Xf (n:Int),Xe Xf a.fr,Xe Xf a.tz,Xh a.rd,Xh a.wr,Xh sh,Xe Xf a.file,Xe Xf a.base,Xe Xg b0,Xe Xg b1,Xe Xg b2,Xe Xg b3,Xe Xg b4,Xe Xg b5,Xe Xg b6,Xe Xg b7,Xh ic,Xh Xc]):=X2.out.aK o4 HN2.out;have HC4:Xo (Chg w0 X p w V (jp {m with fs:=m.fs.set k {fr with u:=true}} q (n:Int) {QH {m with fs:=m.fs.set k {fr with u:=true}} q (n:Int)with wr:=true}) W4):=show Chg _ _ _ _ _ _ _ from Chg.step O2.out D2.out ⟨V4,m4,o4,d4⟩
  clear m4 o4 d4 X2 M2 O2 D2;have u7:=X4.out.box.c 7 rfl
  cases sh with
  |false=>
   have HR:Xo (Chg w0 X p w V (j5 m q n k fr Xc Xd) W4):=show Chg _ _ _ _ _ _ _ by rw[H2.out];exact HC4.out
   go_wp2
   exact Ge HR.out
  |true=>
   obtain⟨mE,HME⟩:∃mE,Xo (jp {m with fs:=m.fs.set k {fr with u:=true}} q (n:Int) {QH {m with fs:=m.fs.set k {fr with u:=true}} q (n:Int)with wr:=true}=mE):=⟨_,rfl⟩;have HFE:Xo (mE.fs=m.fs.set k {fr with u:=true}):=show _=_ by rw[<-HME.out];rfl
   rw[HME.out]at HC4 H3;clear HME;obtain⟨V5,m5,o5,d5⟩:=HC4.out;have M5:Xo (ChW w0 X p W4 V5 mE):=m5;have O5:Xo (zk (Dw p V) w W4):=o5;have D5:Xo (∀k,Dw p V5 k->Dw p V k\/w.heap.size<=k):=d5;have hfl:mE.fs.length=fn:=by rw[HFE.out,List.length_set,HFN.out]
   obtain⟨g5,c5,heq⟩:=m5.fs.aJ (by rw[hfl];omega)
   have f0:=m5.box.box.c 0 rfl;rw[heq,hfl]at f0;have HK5:Xo (mE.fs[k]?=Xa {fr with u:=true}):=show _=_ by rw[HFE.out,sF (gS.1 HK.out).1]
   have HFO:Xo (zb z9 w0.heap.size W4 (O (Xa ⟨g5,0,Xb⟩) fn c5) mE.fs):=show zb _ _ _ _ _ by rw[<-hfl,<-heq];exact m5.fs
   have HG5:Xo (oB V5.f g5):=show oB _ _ by unfold oB;rw[heq];rfl
   have HEQ5:Xo (O V5.f.a V5.f.n V5.f.c=O (Xa ⟨g5,0,Xb⟩) fn c5):=show _=_ by rw[heq,hfl]
   have u0:=X4.out.box.c 0 rfl;clear m5 o5 d5 heq hfl HC4
   go_wp2_with(refine zt (E:=z9) rfl (.tmp 34) (.const (Xh Xc)) 4 rfl w0.heap.size _ mE.fs HFO.out g5 k 10 rfl {fr with u:=true} {fr with u:=true,d:=true} HK5.out [Xh Xc] Kr rfl (Yf rfl) (by intro u hu;simp at hu;subst hu;rfl) ⟨g5,k*13+10,Xb⟩ rfl rfl _ rfl rfl ?_)
   intro W6 ow6 gr6 _;have HR:Xo (Chg w0 X p w V (j5 m q n k fr Xc Xc) W6):=show Chg _ _ _ _ _ _ _ by
    rw[H3.out];refine Chg.step O5.out D5.out (M5.out.frame HG5.out gr6 ?_);(try simp only[Sli.x]);rw[HEQ5.out];exact ow6
   clear ow6 gr6 f0 u0 u7;go_wp2
   exact Ge HR.out
theorem zoS(i:zbU m Xb m.ca=0)(a b:Int):z2 m a b=match Zz m.ca (a,b)with|some z=>pgL (z3 m z).p|none=>qF m a b:=by
 cases h:Zz m.ca (a,b)with
 |some z=>
  obtain⟨g,d,e,k⟩:=za5 h;have c:=ZY i d;simp only[pJ]at e;rw[<-e.1,<-e.2]at c;unfold z2;rw[c];simp only;rw[k]
 |none=>
  have j:=za4.1 h;have c:m.ca.find? (zcu a b)=Xb:=by
   rw[Yo];intro g d f;simp only[zcu,Yq,decide_eq_true_eq]at f;exact j g d (by rw[f.1,f.2])
  unfold z2;rw[c];rfl
theorem zrA(h:zbU m Xb m.ca=0){a b:Int}(e:Zz m.ca (a,b)=Xa z):0<=z/\z<(m.fs.length:Int):=by
 obtain⟨c,d,f,g⟩:=za5 e;have:=(Zv ((zy.1 h).1 c d)).1;omega
theorem zb2(V:MaV)(m:Ma)(B fi ix:Nat)(f:Fl)(a1:Int)(w)(y:zq w V m)(j:zbU m Xb m.ca=0)(a2:m.fl[fi]?=Xa f)(t:f.bl[ix]?=Xa a1)(u:ix<=1000)(v:0<=f.size/\f.size<=1000)(d:Zh plK w B (Zz m.ca)):
  Xp prog 150 #[Xi #[V.f.x,I6 m.aB,V.s.x,V.sb.x,V.sq.x,V.db.x,V.dq.x,V.fl.x,I6 m.cnt,V.ca.x,V.sp.x,.map (Xa B)],I6 (fi:Int),I6 (ix:Int)] w fun e w'=>e=Xl (Xi (pgc (z2 m fi ix)).toArray)/\(z2 m fi ix).length=8/\zc w w':=by
 have s:Xo (∀W,zc w W->Xp prog 155 #[Xi (mL V m).toArray,I6 (fi:Int),I6 (ix:Int)] W fun e w'=>e=Xl (Xi (pgc (qF m fi ix)).toArray)/\(qF m fi ix).length=8/\zc W w'):=dD<|fun W ad=>zal V m fi ix f a1 W (y.aA ad) a2 t u v
 have p:=dD y.bC;obtain⟨M,-⟩:=y.ns;have b:Xo (z2 m fi ix=match Zz m.ca ((fi:Int),(ix:Int))with|some z=>pgL (z3 m z).p|none=>qF m fi ix):=zoS j _ _
 have q:=dD<|fun z(ae:Zz m.ca ((fi:Int),(ix:Int))=Xa z)=>zrA j ae
 obtain⟨⟨a9,ab,aa⟩,af,S,U,P,Q,R,N,T⟩:=V;dsimp only[mL]at M s p⊢;have r:=dD M.symm;obtain⟨h,c⟩:=kB ((w.alloc (Xk #[O a9 ab aa,I6 m.aB,af.x,S.x,U.x,P.x,Q.x,R.x,I6 m.cnt,N.x,T.x,.map (Xa B)] 131)).alloc (Xk #[U8 0,U8 0,U8 0,U8 0,U8 0,U8 0,U8 0,U8 0] 91));have n:=gD2 c
 have G:=x2a c
 have a0:Xo (Box h (w.heap.size+1) (pgc zS)):=dD<|by rw[<-c];exact Box.aD _ (pgc zS) _ Sm
 have a:(Instr.lookup 129 (.map (Xa B)) (Xi #[I6 (fi:Int),I6 (ix:Int)]) Xc).run prog h=.ok (Xm #[I6 ((Zz m.ca ((fi:Int),(ix:Int))).getD 0),Xh (Zz m.ca ((fi:Int),(ix:Int))).isSome]) h:=(d.aA n).look (K:=plK) underlying129 (zr8 h) ((fi:Int),(ix:Int)) Xc;have E:Xo (_=h):=c;obtain⟨ac,D⟩:=kA (Zz m.ca ((fi:Int),(ix:Int)));rw[D.out]at a b q;obtain⟨a4,a6⟩:=kA (z2 m fi ix);rw[a6.out]at b⊢;clear c y j a2 t u v d M
 go_enter func150,ntmps150
 go_upto_region 1 with fail;rw[E.out];have Z:=G.c 11 rfl
 cases ac with
 |none=>
  simp only[Option.getD_none,Option.isSome_none]at a b;have L:=s.out h n.out;rw[<-b.out]at L;obtain⟨X,ag,ah,ai,aj,ak,al,am,an,ao,Y⟩:=G.aU;go_wp2_with fail;refine L.mono ?_;clear L a X ag ah ai aj ak al am an ao Y Z;rintro b2 ar⟨rfl,l,H⟩;have a5:=dD (n.trans H);have a7:=dD (a0.aA H);clear H
  go_wp2_with(refine zx rfl 91 (.tmp 6) (.tmp 31) rfl (w.heap.size+1) rfl (pgc a4) rfl a7 (by rw[ZB,l];rfl) zr7 (jt _) ?_)
  intro F i k _;have g:Xo (zc w F):=dD<|zd a5 k Wm
  go_wp2;refine bodyPost_ret (zB rfl _ rfl i underlying91 rfl (by rw[ZB,l];exact zr7)) rfl ⟨rfl,l,g⟩
 |some z=>
  simp only[Option.getD_some,Option.isSome_some]at a b;obtain⟨ap,aq⟩:=q.out z rfl;obtain⟨A,rfl⟩:∃A:Nat,z=(A:Int):=⟨z.toNat,Wm⟩
  rw[r.out]at aq;obtain⟨C,I⟩:∃C,Xo (m.fs[A]?=Xa C):=⟨_,gE (by rw[r.out];omega)⟩
  rw[zX I.out]at b;obtain⟨a8,x,a3⟩:=p.out A C I.out;obtain⟨au,av,aw,ax,ay,az,b0,b1,-⟩:=a3 h n.out;have X:=G.c 0 rfl;rw[x]at X;clear a3 x ap
  go_wp2_with(refine zx rfl 91 (.tmp 6) (.tmp 26) rfl (w.heap.size+1) rfl (pgc (pgL C.p)) rfl a0 rfl zr7 (jt _) ?_)
  intro F i k _;have g:Xo (zc w F):=dD<|zd n k Wm
  go_wp2;refine bodyPost_ret (zB rfl _ rfl i underlying91 rfl zr7) rfl ⟨by rw[b.out],Rr b.out,g⟩
theorem zpz(h:maW m=0):zD m.sb.length m.sq=0:=by
 have a:=Jn h;unfold zao at a;rw[zp]at a;exact a _ Sm
theorem zjO{n:Nat}{a:List (Int×List Int)}{k:Int}(h:zD n a=0)(b:0<=k)(c:k<(n:Int)):zn n a k=0:=by grind[zn,ZF]
theorem zin(h:maW m=0){f:Fl}(c:m.fl[fi]?=Xa f):(0<=f.size/\f.size<=1000)/\f.bl.length<=12:=by
 have a:=Jn h;unfold zao at a;rw[zp]at a;have b:=((qi _ _).1 (a (stW m.fl m.cnt) Sm)).2.1 f (mG c)
 have d:=b.2.1;have e:=b.1
 grind[zbQ]
theorem znf(h:maW m=0):zbU m Xb m.ca=0:=by
 unfold maW at h;rw[zp]at h;exact h _ Sm
theorem zp9{a b:Int}(c:0<=a)(d:0<=b):znH m.fl a b=decide (b<bkN m a):=by
 unfold znH bkN;rw[Bool.eq_iff_iff,Yq,Zf,Zf,decide_eq_true_eq]
 grind
theorem zfa(V:MaV)(m:Ma)(B:Nat)(a:Ar)(n:Nat)(e:En)(w:Xn)(hm:zq w V m)(hw:maW m=0)(ha:jK a)(hin:a.fr<=(n:Int)/\(n:Int)<a.tz)(h1:e.kind=1->0<=e.n/\e.n<(m.fs.length:Int))(h2:e.kind=2->0<=e.n/\e.n<(m.sb.length:Int))(hmap:Zh plK w B (Zz m.ca)):
  Xp Tryz.prog 204 #[Xi #[O V.f.a V.f.n V.f.c,Xe Xf m.aB,O V.s.a V.s.n V.s.c,O V.sb.a V.sb.n V.sb.c,O V.sq.a V.sq.n V.sq.c,O V.db.a V.db.n V.db.c,O V.dq.a V.dq.n V.dq.c,O V.fl.a V.fl.n V.fl.c,Xe Xf m.cnt,O V.ca.a V.ca.n V.ca.c,O V.sp.a V.sp.n V.sp.c,.map (Xa B)],Xi #[Xe Xf a.fr,Xe Xf a.tz,Xh a.rd,Xh a.wr,Xh a.sh,Xe Xf a.file,Xe Xf a.base],Xe Xf (n:Int),Xi #[Xe Xf e.kind,Xe Xf e.n,Xh e.wr]] w fun r w'=>r=Xl (zhC (JY m (qg a n) e))/\(JY m (qg a n) e).1.length=8/\zc w w':=by
 have HM:Xo (zq w V m):=hm;have HMP:Xo (Zh plK w B (Zz m.ca)):=hmap;have HFP:Xo (∀W(fi ix:Nat)f bk,zc w W->m.fl[fi]?=Xa f->f.bl[ix]?=Xa bk->ix<=1000->Xp Tryz.prog 150 #[Xi #[O V.f.a V.f.n V.f.c,Xe Xf m.aB,O V.s.a V.s.n V.s.c,O V.sb.a V.sb.n V.sb.c,O V.sq.a V.sq.n V.sq.c,O V.db.a V.db.n V.db.c,O V.dq.a V.dq.n V.dq.c,O V.fl.a V.fl.n V.fl.c,Xe Xf m.cnt,O V.ca.a V.ca.n V.ca.c,O V.sp.a V.sp.n V.sp.c,.map (Xa B)],Xe Xf (fi:Int),Xe Xf (ix:Int)] W fun e w'=>e=Xl (Xi (pgc (z2 m fi ix)).toArray)/\(z2 m fi ix).length=8/\zc W w'):=show∀W,_ from fun W fi ix f bk hW hf hb hi=>zb2 V m B fi ix f bk W (HM.out.aA hW) (znf hw) hf hb hi (zin hw hf).1 (HMP.out.aA hW)
 have HRD:Xo (∀W k,zc w W->Xp Tryz.prog 184 #[Xi #[O V.sb.a V.sb.n V.sb.c,O V.sq.a V.sq.n V.sq.c],Xe Xf k] W fun e w'=>e=Xl (Xm #[Xi (pgc (qw m.sb m.sq k)).toArray,Xe Xf (zn m.sb.length m.sq k)])/\zc W w'):=show∀W,_ from fun W k hW=>zi3 _ m.sb m.sq k W ⟨_,_,rfl,(HM.out.aA hW).sb,(HM.out.aA hW).sq⟩
 have HHP:Xo (∀W file idx,zc w W->Xp Tryz.prog 119 #[Xi #[O V.fl.a V.fl.n V.fl.c,Xe Xf m.cnt],Xe Xf file,Xe Xf idx] W fun e w'=>e=Xl (Xh (znH m.fl file idx))/\zc W w'):=show∀W,_ from fun W file idx hW=>zay _ m.fl m.cnt file idx W (HM.out.aA hW).fl
 have HRL:Xo (∀k,(qw m.sb m.sq k).length=8):=show∀k,_ from fun k=>zi4 hm.sb.2.1 hm.sq.2.1
 have HSW:Xo (zD m.sb.length m.sq=0):=zpz hw;have HFR:Xo (zjL w V.f.a m.fs):=hm.bC;have HF12:Xo (∀(fi:Nat)f,m.fl[fi]?=Xa f->f.bl.length<=12):=show∀fi,_ from fun fi f hf=>(zin hw hf).2
 have HIX:Xo (∀W,Xp Tryz.prog 169 #[Xi #[Xe Xf a.fr,Xe Xf a.tz,Xh a.rd,Xh a.wr,Xh a.sh,Xe Xf a.file,Xe Xf a.base],Xe Xf (n:Int)] W fun e w'=>e=Xl (Xe Xf (a.base+(n:Int)-a.fr))/\zc W w'):=show∀W,_ from fun W=>QU a n W (by unfold jK at ha;omega) (by unfold jK at ha;omega) (by unfold jK at ha;omega)
 obtain⟨n1,-,-,-,-,-,n7,-,-⟩:=hm.ns;have HSE:Xo (JY m (qg a n) e=if e.kind=1 then(pgL (z3 m e.n).p,decide ((z3 m e.n).f<0),0)else if e.kind=2 then(qw m.sb m.sq e.n,Xc,0)else if a.file<0 then(zS,Xd,0)else if bkN m a.file<=a.base+(n:Int)-a.fr then(zS,Xd,9)else(z2 m a.file (a.base+(n:Int)-a.fr),Xd,0)):=show _=_ by
  unfold JY qg;rw[if_neg Sm]
  by_cases k1:e.kind=1
  ·rw[if_pos k1,if_pos k1]
  rw[if_neg k1,if_neg k1]
  by_cases k2:e.kind=2
  ·rw[if_pos k2,if_pos k2]
  rw[if_neg k2,if_neg k2]
  by_cases k3:a.file<0
  ·rw[if_pos k3,if_pos k3]
  rw[if_neg k3,if_neg k3];have hpage:(if 0<=a.file then a.base+((n:Int)-a.fr)else 0)=a.base+(n:Int)-a.fr:=by rw[if_pos Wm];omega
  simp only[hpage]
 obtain⟨R,HRR⟩:∃R,Xo (JY m (qg a n) e=R):=⟨_,rfl⟩;rw[HRR.out]at HSE⊢;obtain⟨⟨fa,fn,fc⟩,vs,⟨sba,sbn,sbc⟩,⟨sqa,sqn,sqc⟩,vdb,vdq,⟨fla,fln,flc⟩,vca,vsp⟩:=V;dsimp only at n1 n7 HFP HRD HHP HFR⊢;have HN1:Xo (m.fs.length=fn):=n1.symm;have HP0:Xo (0<=a.file->0<=a.base+(n:Int)-a.fr/\a.base+(n:Int)-a.fr<=100):=show _->_ from fun _=>by unfold jK at ha;omega
 clear hm hw ha hin hmap n1 n7 HM HMP HRR;obtain⟨W0,hW0⟩:∃W0,(((w.alloc (Xk #[O fa fn fc,Xe Xf m.aB,O vs.a vs.n vs.c,O sba sbn sbc,O sqa sqn sqc,O vdb.a vdb.n vdb.c,O vdq.a vdq.n vdq.c,O fla fln flc,Xe Xf m.cnt,O vca.a vca.n vca.c,O vsp.a vsp.n vsp.c,.map (Xa B)] 131)).alloc (Xk #[Xe Xf a.fr,Xe Xf a.tz,Xh a.rd,Xh a.wr,Xh a.sh,Xe Xf a.file,Xe Xf a.base] 125)).alloc (Xk #[Xe Xf e.kind,Xe Xf e.n,Xh e.wr] 127)).alloc (Xk #[Xe Xg 0,Xe Xg 0,Xe Xg 0,Xe Xg 0,Xe Xg 0,Xe Xg 0,Xe Xg 0,Xe Xg 0] 91)=W0:=⟨_,rfl⟩;have G0:Xo (zc w W0):=show zc _ _ by rw[<-hW0];exact(((za _ _).trans (za _ _)).trans (za _ _)).trans (za _ _)
 have X0:Xo (Box W0 w.heap.size [O fa fn fc,Xe Xf m.aB,O vs.a vs.n vs.c,O sba sbn sbc,O sqa sqn sqc,O vdb.a vdb.n vdb.c,O vdq.a vdq.n vdq.c,O fla fln flc,Xe Xf m.cnt,O vca.a vca.n vca.c,O vsp.a vsp.n vsp.c,.map (Xa B)]):=show Box _ _ _ by rw[<-hW0];exact(((Box.aD _ _ _ rfl).alloc _).alloc _).alloc _
 have A0:Xo (Box W0 (w.heap.size+1) [Xe Xf a.fr,Xe Xf a.tz,Xh a.rd,Xh a.wr,Xh a.sh,Xe Xf a.file,Xe Xf a.base]):=show Box _ _ _ by rw[<-hW0];exact((Box.aD _ _ _ Sm).alloc _).alloc _
 have E0:Xo (Box W0 (w.heap.size+1+1) [Xe Xf e.kind,Xe Xf e.n,Xh e.wr]):=show Box _ _ _ by rw[<-hW0];exact(Box.aD _ _ _ Sm).alloc _
 have Y0:Xo (Box W0 (w.heap.size+1+1+1) (pgc zS)):=show Box _ _ _ by rw[<-hW0];exact Box.aD _ (pgc zS) _ Sm
 have HW0:Xo (_=W0):=hW0;clear hW0
 go_enter Tryz.func204,Tryz.ntmps204
 go_upto_region 1 with fail;rw[HW0.out];clear HW0;obtain⟨e0,e1⟩:=E0.out.k2
 by_cases k1:e.kind=1
 ·have k1e:(e.kind==1)=Xc:=by simp[k1]
  obtain⟨z0,z1⟩:=h1 k1;obtain⟨k,hk⟩:∃k:Nat,e.n=(k:Int):=⟨e.n.toNat,Wm⟩
  rw[hk]at z1 z0;rw[HN1.out]at z1;obtain⟨q,HQ⟩:∃q,Xo (m.fs[k]?=Xa q):=⟨_,gE (Hm HN1.out)⟩
  have HR:Xo (R=(pgL q.p,decide (q.f<0),0)):=show _=_ by rw[HSE.out,if_pos k1,hk,zX HQ.out]
  obtain⟨adf,hva,hlf⟩:=HFR.out k q HQ.out;obtain⟨d0,d1,d2,d3,d4,d5,d6,d7,d8,d9,d10,d11,d12⟩:=hlf W0 G0.out;have x0:=X0.out.c 0 rfl;rw[hva]at x0;rw[hk]at e1;clear hlf hva k1 hk h1 h2 HSE z0;go_upto_region 4 with fail;obtain⟨pq,HPQ⟩:∃pq,Xo (W0.heap.size=pq):=⟨_,rfl⟩;obtain⟨W5,hW5⟩:∃W5,W0.alloc (Xk #[Xe Xg q.p.b0,Xe Xg q.p.b1,Xe Xg q.p.b2,Xe Xg q.p.b3,Xe Xg q.p.b4,Xe Xg q.p.b5,Xe Xg q.p.b6,Xe Xg q.p.b7,Xe Xf q.r,Xh q.u,Xh q.d,Xe Xf q.f,Xe Xf q.x] 93)=W5:=⟨_,rfl⟩;have g5:=gP hW5
  have Q5:=xP hW5 HPQ
  have G5:=dD (G0.out.trans g5);have Y5:=dD (Y0.out.aA g5);have hne:w.heap.size+1+1+1≠pq:=by have:=Y0.out.lt;have h2:=HPQ.out;omega
  have hne2:pq≠w.heap.size+1+1+1:=fun h=>hne h.symm
  rw[hW5,HPQ.out];clear hW5 g5 G0 X0 Y0 A0 E0 x0 e0 e1 HPQ d0 d1 d2 d3 d4 d5 d6 d7 d8 d9 d10 d11 d12;obtain⟨I,HI⟩:=Wq fun u=>zc w u/\Box u pq [Xe Xg q.p.b0,Xe Xg q.p.b1,Xe Xg q.p.b2,Xe Xg q.p.b3,Xe Xg q.p.b4,Xe Xg q.p.b5,Xe Xg q.p.b6,Xe Xg q.p.b7,Xe Xf q.r,Xh q.u,Xh q.d,Xe Xf q.f,Xe Xf q.x]/\∃cs,Box u (w.heap.size+1+1+1) cs/\cs.length=8
  have gd:zc W5 W5.drew:=(gW _)
  have hI0:I W5.drew:=(HI.out _).2 ⟨G5.out.trans gd,Q5.out.aA gd,_,Y5.out.aA gd,rfl⟩;have hq0:=fun y:zo I=>((HI.out _).1 y.holds).2.1.c 0 rfl
  have hq1:=fun y:zo I=>((HI.out _).1 y.holds).2.1.c 1 rfl
  have hq2:=fun y:zo I=>((HI.out _).1 y.holds).2.1.c 2 rfl
  have hq3:=fun y:zo I=>((HI.out _).1 y.holds).2.1.c 3 rfl
  have hq4:=fun y:zo I=>((HI.out _).1 y.holds).2.1.c 4 rfl
  have hq5:=fun y:zo I=>((HI.out _).1 y.holds).2.1.c 5 rfl
  have hq6:=fun y:zo I=>((HI.out _).1 y.holds).2.1.c 6 rfl
  have hq7:=fun y:zo I=>((HI.out _).1 y.holds).2.1.c 7 rfl
  have hq11:=fun y:zo I=>((HI.out _).1 y.holds).2.1.c 11 rfl
  have hne3:Nonempty (zo I):=⟨⟨_,hI0⟩⟩;refine jS (I:=I) 8 [(5,⟨fun _=>True,fun _ u=>Box u (w.heap.size+1+1+1) (pgc (pgL q.p)),fun p r=>True,fun _=>True⟩)] hI0 zU Kr rfl rfl Dc (Sa ⟨Xh Xc,trivial⟩) ?hp ?hpre ?hpr0 ?_
  case hp=>
   intro k s j t hk hj hjk hanc v p q hst hpo;have hk':=z6 hk;have hj':=z6 hj;simp only[mC,pJ,nM,or_false]at hk' hj';exact absurd (hj'.1.trans hk'.1.symm) hjk
  case hpre=>
   intro j t k s hj hk hjk p q hst hpr;have hj':=z6 hj;simp only[mC,pJ,nM,or_false]at hj';obtain⟨rfl,rfl⟩:=hj';trivial
  case hpr0=>
   intro k t hk;have hk':=z6 hk;simp only[mC,pJ,nM,or_false]at hk';obtain⟨rfl,rfl⟩:=hk';trivial
  simp only[Ym,Yn];iterate 5 (refine zbH rfl rfl rfl (fun K hK=>?_);go_big_quiet_op;refine hK _ ?_;clear hK K)
  refine jY rfl rfl (fun w' hI' hpr hF=>?_) (fun v1 hv=>?_)
  ·obtain⟨i1,i2,cs,i3,i4⟩:=(HI.out _).1 hI';refine zI.storeAll 91 (.tmp 8) (.tmp 28) rfl (w.heap.size+1+1+1) rfl (pgc (pgL q.p)) rfl i3 (Rr i4) (Rx i4 zr7) (jt _) fun w'' b1 b2 b3=>?_
   exact⟨(HI.out _).2 ⟨zd i1 b2 Wm,i2.grown b2 hne2,_,b1,rfl⟩,trivial,trivial,b1⟩
  simp only[Xw];iterate 2 (refine zbH rfl rfl rfl (fun K hK=>?_);go_big_quiet_op;refine hK _ ?_;clear hK K)
  refine JJ fun W6 hI6 hF=>?_
  have Y6:Xo (Box W6 (w.heap.size+1+1+1) (pgc (pgL q.p))):=hF 5;have G6:Xo (zc w W6):=((HI.out _).1 hI6).1;clear hF hI6 hI0 hne3 HI hq0 hq1 hq2 hq3 hq4 hq5 hq6 hq7 hq11;go_wp2;refine bodyPost_ret (zJ rfl _ rfl Y6.out Tryz.underlying91 rfl zr7) rfl ⟨Rr HR.out,Rr HR.out,G6.out⟩
 have k1e:(e.kind==1)=Xd:=by simp[k1]
 rw[if_neg k1]at HSE
 by_cases k2:e.kind=2
 ·have k2e:(e.kind==2)=Xc:=by simp[k2]
  rw[if_pos k2]at HSE;obtain⟨z0,z1⟩:=h2 k2;have HWA:Xo (zn m.sb.length m.sq e.n=0):=zjO HSW.out z0 z1;have hc:=HRD.out W0 e.n G0.out;rw[HWA.out]at hc;obtain⟨p,HP⟩:∃p,Xo (qw m.sb m.sq e.n=p):=⟨_,rfl⟩;have HL8:Xo (p.length=8):=show _=_ by rw[<-HP.out];exact HRL.out _
  rw[HP.out]at HSE hc;obtain⟨p0,p1,p2,p3,p4,p5,p6,p7,rfl⟩:=zc4 p HL8.out;have x3:=X0.out.c 3 rfl;have x4:=X0.out.c 4 rfl;clear k1 k2 z0 z1 h1 h2;go_wp2_with fail;refine hc.mono ?_;clear hc x3 x4 e0 e1;rintro r W1⟨rfl,g1⟩;have G1:=dD (G0.out.trans g1);have Y1:=dD (Y0.out.aA g1);simp only[pgc,mP,Yk];go_upto_region 7 with fail;obtain⟨pl,HPL⟩:∃pl,Xo (W1.heap.size=pl):=⟨_,rfl⟩;obtain⟨W2,hW2⟩:∃W2,W1.alloc (Xk #[Xe Xg p0,Xe Xg p1,Xe Xg p2,Xe Xg p3,Xe Xg p4,Xe Xg p5,Xe Xg p6,Xe Xg p7] 91)=W2:=⟨_,rfl⟩;have g2:=gP hW2
  have P2:=xP hW2 HPL
  have G2:=dD (G1.out.trans g2);have Y2:=dD (Y1.out.aA g2);rw[hW2,HPL.out];clear hW2 g2 g1 G1 Y1 HPL;have HR:=HSE;obtain⟨c0,c1,c2,c3,c4,c5,c6,c7⟩:=P2.out.c8
  go_wp2_with(refine zx rfl 91 (.tmp 8) (.tmp 43) rfl (w.heap.size+1+1+1) rfl (pgc [p0,p1,p2,p3,p4,p5,p6,p7]) rfl Y2.out rfl zr7 (jt _) ?_)
  intro WL hbL hgL _;have HGL:Xo (zc w WL):=show zc _ _ from zd G2.out hgL Wm
  go_wp2;refine bodyPost_ret (zJ rfl _ rfl hbL Tryz.underlying91 rfl zr7) rfl ⟨Rr HR.out,Rr HR.out,HGL.out⟩
 have k2e:(e.kind==2)=Xd:=by simp[k2]
 rw[if_neg k2]at HSE;clear k1 k2 h1 h2;have a5:=A0.out.c 5 rfl
 by_cases k3:a.file<0
 ·have k3d:decide (a.file<0)=Xc:=decide_eq_true k3;rw[if_pos k3]at HSE;have HR:=HSE;clear k3
  go_wp2_with(refine zx rfl 91 (.tmp 8) (.tmp 48) rfl (w.heap.size+1+1+1) rfl (pgc zS) rfl Y0.out rfl zr7 (jt _) ?_)
  intro WL hbL hgL _;have HGL:Xo (zc w WL):=show zc _ _ from zd G0.out hgL Wm
  go_wp2;refine bodyPost_ret (zJ rfl _ rfl hbL Tryz.underlying91 rfl zr7) rfl ⟨Rr HR.out,Rr HR.out,HGL.out⟩
 have k3d:decide (a.file<0)=Xd:=decide_eq_false k3;rw[if_neg k3]at HSE;obtain⟨z0,z1⟩:=HP0.out Wm
 obtain⟨fi,hfi⟩:∃fi:Nat,a.file=(fi:Int):=⟨a.file.toNat,Wm⟩
 obtain⟨ix,hix⟩:∃ix:Nat,a.base+(n:Int)-a.fr=(ix:Int):=⟨(a.base+(n:Int)-a.fr).toNat,Wm⟩
 have hc:=HIX.out W0;rw[hix]at hc z0 z1;rw[hix,hfi]at HSE;have HFI:Xo (a.file=(fi:Int)):=hfi;clear hfi hix;have a0:=A0.out.c 0 rfl;have a1:=A0.out.c 1 rfl;have a2:=A0.out.c 2 rfl;have a3:=A0.out.c 3 rfl;have a4:=A0.out.c 4 rfl;have a6:=A0.out.c 6 rfl;go_wp2_with fail;refine hc.mono ?_;clear hc a0 a1 a2 a3 a4 a5 a6 e0 e1 k3d k1e k2e HIX HP0;rintro r W1⟨rfl,g1⟩;have G1:=dD (G0.out.trans g1);have X1:=dD (X0.out.aA g1);have A1:=dD (A0.out.aA g1);have Y1:=dD (Y0.out.aA g1);clear g1 G0 X0 A0 E0 Y0;have hc:=HHP.out W1 (fi:Int) (ix:Int) G1.out;rw[zp9 Wm Wm]at hc
 have a5:=A1.out.c 5 rfl;rw[HFI.out]at a5;have x7:=X1.out.c 7 rfl;have x8:=X1.out.c 8 rfl;go_wp2_with fail;refine hc.mono ?_;clear hc a5 x7 x8 HHP;rintro r W2⟨rfl,g2⟩;have G2:=dD (G1.out.trans g2);have X2:=dD (X1.out.aA g2);have A2:=dD (A1.out.aA g2);have Y2:=dD (Y1.out.aA g2);clear g2 G1 X1 A1 Y1
 by_cases k4:bkN m (fi:Int)<=(ix:Int)
 ·rw[if_pos k4]at HSE;rw[decide_eq_false (by omega:¬(ix:Int)<bkN m (fi:Int))]
  have HR:=HSE;clear k4
  go_wp2_with(refine zx rfl 91 (.tmp 8) (.tmp 60) rfl (w.heap.size+1+1+1) rfl (pgc zS) rfl Y2.out rfl zr7 (jt _) ?_)
  intro WL hbL hgL _;have HGL:Xo (zc w WL):=show zc _ _ from zd G2.out hgL Wm
  go_wp2;refine bodyPost_ret (zJ rfl _ rfl hbL Tryz.underlying91 rfl zr7) rfl ⟨Rr HR.out,Rr HR.out,HGL.out⟩
 rw[if_neg k4]at HSE;rw[decide_eq_true (by omega:(ix:Int)<bkN m (fi:Int))]
 obtain⟨f,hf⟩:∃f,m.fl[fi]?=Xa f:=by
  cases hq:m.fl[fi]? with
  |some f=>exact⟨f,rfl⟩
  |none=>
   exfalso;unfold bkN at k4;rw[tN,gD,hq]at k4
   simp at k4
 obtain⟨bk,hbk⟩:∃bk,f.bl[ix]?=Xa bk:=⟨_,gE (by
  unfold bkN at k4;rw[tN,gD,hf]at k4;simp only[Option.getD_some]at k4
  omega)⟩
 have hc:=HFP.out W2 fi ix f bk G2.out hf hbk Wm
 clear hf hbk k4 HFP;have a5:=A2.out.c 5 rfl;rw[HFI.out]at a5;obtain⟨x0,x1,x2,x3,x4,x5,x6,x7,x8,x9,x10,x11⟩:=X2.out.c12;go_wp2_with fail;refine hc.mono ?_;clear hc a5 x0 x1 x2 x3 x4 x5 x6 x7 x8 x9 x10 x11;rintro r W3⟨rfl,hl8,g3⟩;have G3:=dD (G2.out.trans g3);have Y3:=dD (Y2.out.aA g3);clear g3 G2 X2 A2 Y2;obtain⟨p,HP⟩:∃p,Xo (z2 m (fi:Int) (ix:Int)=p):=⟨_,rfl⟩;rw[HP.out]at HSE hl8⊢;obtain⟨p0,p1,p2,p3,p4,p5,p6,p7,rfl⟩:=zc4 p hl8;have HR:=HSE;clear hl8;simp only[pgc,mP,Yk]
 go_wp2_with(refine zx rfl 91 (.tmp 8) (.tmp 65) rfl (w.heap.size+1+1+1) rfl (pgc [p0,p1,p2,p3,p4,p5,p6,p7]) rfl Y3.out rfl zr7 (jt _) ?_)
 intro WL hbL hgL _;have HGL:Xo (zc w WL):=show zc _ _ from zd G3.out hgL Wm
 go_wp2;refine bodyPost_ret (zJ rfl _ rfl hbL Tryz.underlying91 rfl zr7) rfl ⟨Rr HR.out,Rr HR.out,HGL.out⟩
theorem zpi(d:maW m=0){p:Nat}{s:Sp}(c:m.sp[p]?=Xa s){n:Nat}(b:n<64):((zl s n).kind=1->0<=(zl s n).n/\(zl s n).n<(m.fs.length:Int))/\((zl s n).kind=2->0<=(zl s n).n/\(zl s n).n<(m.sb.length:Int)):=by
 have a:=(zaP d).1;have f:=zqk d s (mG c) n b;have e:(jB m)[p]?=Xa (zl s):=by unfold jB;rw[Ye,c];rfl
 have g:=(Zl (a.en e b)).2.1.1;have h:=a.bM
 grind[zgS]
theorem zoR(c:∀p∈m.db,p.length=8)(d:∀q∈m.dq,q.2.length=8)(a b:Int):(z2 m a b).length=8:=by
 unfold z2
 split
 ·rfl
 exact zbf c d a b
theorem zpI(a1:∀p∈m.sb,p.length=8)(a2:∀q∈m.sq,q.2.length=8)(a:∀p∈m.db,p.length=8)(b:∀q∈m.dq,q.2.length=8)(x:On)(e:En):(JY m x e).1.length=8:=by
 unfold JY
 split
 ·rfl
 split
 ·rfl
 split
 ·exact zi4 a1 a2
 split
 ·rfl
 split
 ·rfl
 grind[zoR]
theorem zlA{p:Nat}{s:Sp}(c:m.sp[p]?=Xa s){n:Int}(a:zcb s.aE n z)(d:z<0):zhD m (p:Int) n=(zS,Xd,5):=by
 by_cases h:0<=n/\n<=63
 ·obtain⟨k,rfl⟩:∃k:Nat,n=(k:Int):=⟨n.toNat,Wm⟩
  have b:=zfq a
  grind[zcp,JY]
 grind[zcq]
def js(m:Ma)(p n:Int)(wr:Bool)(a:Ar)(e:Int):Prop:=
 (e=5/\a=ar0/\((p<0\/(m.sp.length:Int)<=p)\/∃(pp:Nat)(s:Sp),p=(pp:Int)/\m.sp[pp]?=Xa s/\∀a∈s.aE,inZ a n=Xd))\/
 (∃(pp nn k:Nat)(s:Sp)(x:Ar),p=(pp:Int)/\n=(nn:Int)/\nn<64/\m.sp[pp]?=Xa s/\s.aE[k]?=Xa x/\jK x/\(x.fr<=(nn:Int)/\(nn:Int)<x.tz)/\zN s.aE nn=qg x nn/\
  ((e=8/\a=ar0/\(if wr=Xc then x.wr else x.rd)=Xd)\/(e=0/\a=x/\(if wr=Xc then x.wr else x.rd)=Xc)))
theorem zjX(V m)(p n:Int)(wr:Bool)(w)(ai:zq w V m)(ay:maW m=0):
  Xp prog 176 #[Xi (mL V m).toArray,I6 p,I6 n,Xh wr] w fun e w'=>(∃(a:Ar)(H:Int),e=Xl (Xm #[Xi #[I6 a.fr,I6 a.tz,Xh a.rd,Xh a.wr,Xh a.sh,I6 a.file,I6 a.base],I6 H])/\js m p n wr a H)/\zc w w':=by
 have bf:=dD ai;have ak:=dD ay;have R:=dD<|fun W(bm:zc w W)=>Zn V m W (bf.aA bm) ay
 obtain⟨-,-,-,-,-,-,-,-,b3⟩:=ai.ns;obtain⟨bd,a2,s,a1⟩:=ai.bE;obtain⟨bb,bc,a8,a9,a5,a6,a7,a4,⟨K,j,a3⟩⟩:=V;dsimp only[mL]at b3 s R⊢;have A:=dD b3.symm;have ar:Xo (bd.length=j):=show _=_ by rw[a2];exact A.out
 have am:=dD s
 have ao:=dD a1
 clear ai b3 a2 s a1 ay;obtain⟨B,v⟩:=kA w.heap.size;obtain⟨au,r⟩:=kB ((w.alloc (Xk #[bb.x,I6 m.aB,bc.x,a8.x,a9.x,a5.x,a6.x,a7.x,I6 m.cnt,a4.x,O K j a3] 45)).alloc (Xk #[I6 0,I6 0,Xh Xd,Xh Xd,Xh Xd,I6 0,I6 0] 125));have b6:=gD2 r
 have b8:Xo (Box au B [bb.x,I6 m.aB,bc.x,a8.x,a9.x,a5.x,a6.x,a7.x,I6 m.cnt,a4.x,O K j a3]):=dD<|by rw[<-r];exact(Box.aD _ _ _ v.symm).alloc _
 have bi:Xo (zg au (B+1) 125 [I6 0,I6 0,Xh Xd,Xh Xd,Xh Xd,I6 0,I6 0]):=dD<|by rw[<-r];exact zg.aD _ [I6 0,I6 0,Xh Xd,Xh Xd,Xh Xd,I6 0,I6 0] _ (by have:=v.out;simp;omega)
 have aq:=dD r;clear r
 go_enter func176,ntmps176
 go_upto_region 1 with fail;rw[aq.out,v.out];obtain⟨bt,bu,bv,bw,bx,bz,c0,c1,c2,c3,E⟩:=b8.aU;have X:=R.out au b6.out;go_wp2_with fail;refine X.mono ?_;clear X bt bu bv bw bx bz c0 c1 c2 c3 E;rintro bs b7⟨rfl,ah⟩;have N:=dD (b6.trans ah);have bh:=dD (b8.aA ah);have av:=dD (bi.aA ah);clear ah;have E:=bh.c 10 rfl
 by_cases a0:p<0\/(j:Int)<=p
 ·by_cases C:p<0
  ·have b0:decide (p<0)=Xc:=decide_eq_true C;have x:Xo (js m p n wr ar0 5):=dD<|.inl ⟨rfl,rfl,.inl (Rx A.out a0)⟩
   clear a0 C
   go_wp2_with(refine zh rfl 125 (.tmp 8) (.tmp 29) rfl (B+1) rfl [I6 0,I6 0,Xh Xd,Xh Xd,Xh Xd,I6 0,I6 0] rfl av rfl Kr (by simp[Value.oneCell']) ?_)
   intro k b c _;have f:Xo (zc w k):=dD<|zd N c (Hm v.out)
   have d:=dD b;clear b c;go_wp2;refine bodyPost_ret (zW rfl _ rfl d.box underlying125 rfl Kr) rfl ⟨⟨ar0,5,rfl,x⟩,f⟩
  have b0:decide (p<0)=Xd:=decide_eq_false C;have Y:decide ((j:Int)<=p)=Xc:=decide_eq_true Wm
  have x:Xo (js m p n wr ar0 5):=dD<|.inl ⟨rfl,rfl,.inl (Rx A.out a0)⟩
  clear a0 C
  go_wp2_with(refine zh rfl 125 (.tmp 8) (.tmp 29) rfl (B+1) rfl [I6 0,I6 0,Xh Xd,Xh Xd,Xh Xd,I6 0,I6 0] rfl av rfl Kr (by simp[Value.oneCell']) ?_)
  intro k b c _;have f:Xo (zc w k):=dD<|zd N c (Hm v.out)
  have d:=dD b;clear b c;go_wp2;refine bodyPost_ret (zW rfl _ rfl d.box underlying125 rfl Kr) rfl ⟨⟨ar0,5,rfl,x⟩,f⟩
 have b0:decide (p<0)=Xd:=decide_eq_false Wm
 have Y:decide ((j:Int)<=p)=Xd:=decide_eq_false Wm
 obtain⟨h,rfl⟩:∃h:Nat,p=(h:Int):=⟨p.toNat,Wm⟩
 obtain⟨D,b1⟩:∃D,bd[h]?=Xa D:=⟨_,gE (by rw[ar.out];omega)⟩
 obtain⟨y,aa⟩:∃y,Xo (m.sp[h]?=Xa y):=⟨_,gE (by rw[A.out];omega)⟩
 have G:=dD<|ao.out h D y b1 aa.out;obtain⟨aw,an,b9⟩:∃aw,Xo (K=Xa aw)/\∀W,zc w W->znr W (aw.add (h*10)) D:=am.out h D b1;obtain⟨-,bj,-,-,-,-,-,-,-,-⟩:=b9 b7 N.out;rw[an.out]at E;have bp:(h:Int)<(j:Int):=Wm
 clear b9 b1 a0;have X:=zcx (D.ar.x) y.aE n b7 (G.ar.aA N);go_wp2_with fail;refine X.mono ?_;clear X bj E b0 Y;rintro bs bg⟨⟨be,rfl,ba⟩,ax⟩;have Q:=dD ba;have L:=dD (N.trans ax);have S:=dD (av.aA ax);clear ax ba
 by_cases b2:be<0
 ·have I:∀a∈y.aE,inZ a n=Xd:=by
   rcases Q with⟨t,a,M,_⟩|⟨_,bq⟩
   ·omega
   exact bq
  have x:Xo (js m (h:Int) n wr ar0 5):=dD<|.inl ⟨rfl,rfl,.inr ⟨h,y,rfl,aa,I⟩⟩
  clear I
  go_wp2_with(refine zh rfl 125 (.tmp 8) (.tmp 41) rfl (B+1) rfl [I6 0,I6 0,Xh Xd,Xh Xd,Xh Xd,I6 0,I6 0] rfl S rfl Kr (by simp[Value.oneCell']) ?_)
  intro k b c _;have f:Xo (zc w k):=dD<|zd L c (Hm v.out)
  have d:=dD b;clear b c;go_wp2;refine bodyPost_ret (zW rfl _ rfl d.box underlying125 rfl Kr) rfl ⟨⟨ar0,5,rfl,x⟩,f⟩
 obtain⟨t,a,rfl,l,z⟩:∃(t:Nat)(a:Ar),be=(t:Int)/\Xo (y.aE[t]?=Xa a)/\Xo (inZ a n=Xc):=by
  rcases Q with⟨t,a,M,b4,b5⟩|⟨M,_⟩
  ·exact⟨t,a,M,b4,b5⟩
  omega
 have P:=dD<|(JD.1 ((zpa (Jn ak)).ar y (mG aa)).1).2;have F:=dD<|zfA P l.out;obtain⟨u,rfl⟩:∃u:Nat,n=(u:Int):=⟨n.toNat,by have bl:=zbN.1 z.out;have az:=F.out;unfold jK at az;omega⟩
 have Z:u<64:=by have bl:=zbN.1 z.out;have az:=F.out;unfold jK at az;omega
 have al:Xo (zN y.aE u=qg a u):=zaT P l (Ry zie z)
 have bn:t<D.ar.n:=by rw[G.ar.n];exact(gS.1 l).1
 have bo:(t:Int)<(D.ar.n:Int):=Wm
 obtain⟨q,ap,aj⟩:∃q,Xo (D.ar.a=Xa q)/\Xo (∀W,zc w W->ziU W (q.add (t*7)) a):=by
  obtain⟨_,_,M,b4⟩:=G.ar.aE;simp only[vJ]at M;obtain⟨q,b5,br⟩:=b4 t a l.out;exact⟨q,Rx M.1 b5,br⟩
 have x:Xo (∀H ab,(H=8/\ab=ar0/\(if wr=Xc then a.wr else a.rd)=Xd)\/(H=0/\ab=a/\(if wr=Xc then a.wr else a.rd)=Xc)->js m (h:Int) (u:Int) wr ab H):=dD<|fun H ab bk=>.inr ⟨h,u,t,y,a,rfl,rfl,Z,aa,l,F,zbN.1 z,al,bk⟩
 rw[ap.out];obtain⟨ac,ae,T,U,af,ag,e6⟩:=aj.out bg L.out;clear b2;cases wr
 ·obtain⟨ok,g⟩:=kA a.rd;rw[g.out]at T;cases ok
  ·have i:Xo (js m (h:Int) (u:Int) Xd ar0 8):=x.out 8 ar0 (.inl ⟨rfl,rfl,g⟩)
   go_wp2_with(refine zh rfl 125 (.tmp 8) (.tmp 55) rfl (B+1) rfl [I6 0,I6 0,Xh Xd,Xh Xd,Xh Xd,I6 0,I6 0] rfl S rfl Kr (by simp[Value.oneCell']) ?_)
   intro k b c _;have f:Xo (zc w k):=dD<|zd L c (Hm v.out)
   have d:=dD b;clear b c ac ae T U af ag e6;go_wp2;refine bodyPost_ret (zW rfl _ rfl d.box underlying125 rfl Kr) rfl ⟨⟨ar0,8,rfl,i⟩,f⟩
  have i:Xo (js m (h:Int) (u:Int) Xd a 0):=x.out 0 a (.inr ⟨rfl,rfl,g⟩)
  go_wp2_with(refine zh rfl 125 (.tmp 8) (.tmp 59) rfl (B+1) rfl [I6 a.fr,I6 a.tz,Xh Xc,Xh a.wr,Xh a.sh,I6 a.file,I6 a.base] rfl S rfl Kr (by simp[Value.oneCell']) ?_)
  intro k b c _;have f:Xo (zc w k):=dD<|zd L c (Hm v.out)
  have d:=dD b;clear b c ac ae T U af ag e6;go_wp2;refine bodyPost_ret (zW rfl _ rfl d.box underlying125 rfl Kr) rfl ⟨⟨a,0,Rr g.out,i⟩,f⟩
 obtain⟨ok,g⟩:=kA a.wr;rw[g.out]at U;cases ok
 ·have i:Xo (js m (h:Int) (u:Int) Xc ar0 8):=x.out 8 ar0 (.inl ⟨rfl,rfl,g⟩)
  go_wp2_with(refine zh rfl 125 (.tmp 8) (.tmp 55) rfl (B+1) rfl [I6 0,I6 0,Xh Xd,Xh Xd,Xh Xd,I6 0,I6 0] rfl S rfl Kr (by simp[Value.oneCell']) ?_)
  intro k b c _;have f:Xo (zc w k):=dD<|zd L c (Hm v.out)
  have d:=dD b;clear b c ac ae T U af ag e6;go_wp2;refine bodyPost_ret (zW rfl _ rfl d.box underlying125 rfl Kr) rfl ⟨⟨ar0,8,rfl,i⟩,f⟩
 have i:Xo (js m (h:Int) (u:Int) Xc a 0):=x.out 0 a (.inr ⟨rfl,rfl,g⟩)
 go_wp2_with(refine zh rfl 125 (.tmp 8) (.tmp 59) rfl (B+1) rfl [I6 a.fr,I6 a.tz,Xh a.rd,Xh Xc,Xh a.sh,I6 a.file,I6 a.base] rfl S rfl Kr (by simp[Value.oneCell']) ?_)
 intro k b c _;have f:Xo (zc w k):=dD<|zd L c (Hm v.out)
 have d:=dD b;clear b c ac ae T U af ag e6;go_wp2;refine bodyPost_ret (zW rfl _ rfl d.box underlying125 rfl Kr) rfl ⟨⟨a,0,Rr g.out,i⟩,f⟩
variable{X:Nat->Prop}
theorem zb.other{α:Type}{E:Elt α}{w:Xn}{v:Xq}{l:List α}{cs:List Xq}(h:zb E b w v l)(a:w.grownBy w' (Xa g))(d:zg w g t cs)(f:t≠E.ty):zb E b w' v l:=h.grown a fun k c e=>by
 cases e;exact h.ne d f g c rfl
theorem JF{a n:Nat}{e:TypeId}{w:Xn}{cs:List Xq}{v:Xq}(h:w.ownsRow b e a v n xs)(p:w.grownBy w' (Xa g))(q:zg w g t cs)(x:t≠e):w'.ownsRow b e a v n xs:=by
 have i:v.ownBlock≠Xa g:=fun s=>by
  obtain⟨_,_,u,f⟩:=zar h s;have r:w.heap[g]?=_:=q
  grind
 refine⟨h.1,?_⟩
 rcases h.2 with j|⟨k,c,d,rfl,l,f,m⟩
 ·exact .inl j
 exact .inr ⟨k,c,d,rfl,l,by rw[p.block k (aS.1 f).1 (fun e=>by cases e;exact i rfl)];exact f,m⟩
theorem zg.off{w:Xn}{a:TypeId}{cs ds:List Xq}(h:zg w b t cs)(k:zg w g a ds)(f:t≠a):b≠g:=fun e=>by
 subst e;have c:w.heap[b]?=Xa (Xk cs.toArray t (0,0)):=h;have d:w.heap[b]?=Xa (Xk ds.toArray a (0,0)):=k
 grind
theorem zdE.other{base:Nat}{w:Xn}{cs:List Xq}(h:zdE base w V m)(b:w.grownBy w' (Xa g))(a:zg w g 245 cs):zdE base w' V m:=by
 obtain⟨v,⟨K,k,l,e,n⟩,t,u⟩:=h.fl;obtain⟨G,B,z,A,C,D,E⟩:=h.sp;refine⟨h.fs.other b a Dc,h.sl.other b a Dc,⟨JF h.sb.1 b a Dc,h.sb.2⟩,⟨JF h.sq.1 b a Dc,h.sq.2⟩,⟨JF h.db.1 b a Dc,h.db.2⟩,⟨JF h.dq.1 b a Dc,h.dq.2⟩,⟨v,⟨K,k.other b a Dc,l,fun i x f d j=>⟨(e i x f d j).1,(e i x f d j).2.other b a Dc⟩,n⟩,t,u⟩,h.ca.other b a Dc,⟨G,B,z.other b a Dc,A,C,D,fun i x y d p=>?_⟩,h.ap⟩
 have c:=E i x y d p;exact⟨c.aH,c.ar.other b a Dc,⟨c.tb.len,c.tb.aO,fun s F H q r=>(c.tb.row s F H q r).other b a Dc,c.tb.two⟩,c.arh,c.tbh⟩
theorem ChW.of{w:Xn}{p:Nat}(h:zdE B w V m)(s:w0.heap.size<=B)(Y:zc w0 w)(u:w0.heap.size<=p)(y:zg w p 88 (chL V m)):ChW w0 noX p w V m:=by
 obtain⟨a8,r,N,a4,a5,a6,a7⟩:=h.sp;have c:∀{W:Xn}{g f L:Nat}{j:TypeId}{v:Xq}{P:List Xq},zk (Dr w0.heap.size noX p V) w W->w.ownsRow g j f v L P->B<=g->Q4.ty≠j/\z9.ty≠j/\jR.ty≠j/\88≠j->W.ownsRow g j f v L P:=fun k n d F=>zbZ n k fun X Z b=>by
  obtain⟨ac,ad,ab,ae⟩:=zar n Z
  rcases b with(b|b)|b|b|b|b
  ·omega
  ·exact b.elim
  ·subst b;have R:w.heap[X]?=_:=y
   grind
  ·obtain⟨z,D⟩:=h.fs.obj b
   grind
  ·obtain⟨z,D⟩:=h.ca.obj b
   grind
  obtain⟨z,D⟩:=N.obj b
  grind
 have a:∀{W:Xn}{Q:Type}{E:Elt Q}{g:Nat}{v:Xq}{H:List Q},zk (Dr w0.heap.size noX p V) w W->zb E g w v H->B<=g->Q4.ty≠E.ty/\z9.ty≠E.ty/\jR.ty≠E.ty/\88≠E.ty->zb E g W v H:=fun k n d F=>⟨c k n.1 d F,n.2⟩
 refine⟨⟨Y,fun _ h=>h.elim⟩,u,y,h.fs.base s,h.ca.base s,⟨a8,N.base s,a4,fun i x M q I W k=>?_⟩,fun W k=>?_⟩
 ·have e:=a7 i x M q I;have l:B<=r i:=nT a5 (zc0 a6 (nZ i));have a3:Q1 (r i) (r (i+1)) W x M:=⟨e.aH,a k e.ar l Dc,⟨e.tb.len,e.tb.aO,fun a2 v a9 a0 a1=>a k (e.tb.row a2 v a9 a0 a1) l Dc,e.tb.two⟩,e.arh,e.tbh⟩
  exact a3.at
 obtain⟨u,⟨aa,S,T,C,U⟩,K,af⟩:=h.fl;have t:zV u W (V.fl.x) m.fl:=⟨aa,a k S K Dc,T,fun i x A q G=>⟨(C i x A q G).1,a k (C i x A q G).2 K Dc⟩,U⟩
 have d:=nR B;exact⟨(a k h.sl d Dc).at,zs.at ⟨c k h.sb.1 d Dc,h.sb.2⟩,zu.at ⟨c k h.sq.1 d Dc,h.sq.2⟩,zs.at ⟨c k h.db.1 d Dc,h.db.2⟩,zu.at ⟨c k h.dq.1 d Dc,h.dq.2⟩,t.new.bO⟩
theorem ChW.lower{u:Xn}{p:Nat}(h:ChW w1 X p u V m)(b:u.grownBy u1 (Xa g))(n:g<w1.heap.size)(l:zc w0 u1)(d:w0.heap.size<=w1.heap.size):ChW w0 X p u1 V m:=by
 obtain⟨z,j,w,x⟩:=h.sp;have f:∀{W:Xn},zk (Dr w0.heap.size X p V) u1 W->zk (Dr w1.heap.size X p V) u W:=fun c=>(zk.grown b (show Dr w1.heap.size X p V g from .inl (.inl n))).trans (c.wide fun k a=>a.elim (fun e=>.inl (e.imp (fun e=>Xs e d) id)) .inr)
 exact⟨⟨l,fun t q=>Xs (h.grx.2 t q) b.size⟩,nT d h.lo,h.box.beside b (fun k e=>by cases e;have:=h.lo;omega),(h.fs.grown b (fun k a e=>by cases e;have:=(h.fs.lt _ a).1;omega)).base d,(h.ca.grown b (fun k a e=>by cases e;have:=(h.ca.lt _ a).1;omega)).base d,⟨z,(j.grown b (fun k a e=>by cases e;have:=(j.lt _ a).1;omega)).base d,w,fun s y v r i W c=>x s y v r i W (f c)⟩,fun W c=>h.rest W (f c)⟩
theorem zgn(V m)(w:Xn)(f:zq w V m):
  Xp prog 24 #[Xi (mL V m).toArray] w fun e w'=>∃(p B:Nat)(V':MaV),e=Xl (Xj (Xa ⟨p,0,Xb⟩))/\zdE B w' V' m/\w.heap.size<=B/\w.heap.size<=p/\zg w' p 88 (chL V' m)/\zc w w':=by
 obtain⟨b,a⟩:=kB (w.alloc (Xk (mL V m).toArray 45));have c:=gA a
 have g:=xA a
 have d:=dD a;clear a;have a:=zeY V m b (f.aA c);clear f
 go_enter func24,ntmps24
 go_upto_region 1 with fail;rw[d.out];obtain⟨f,h,i,j,k,l,n,q,r,s,d⟩:=g.aU;go_wp2_with fail;refine a.mono ?_;clear a f h i j k l n q r s d;rintro e a⟨V',rfl,g,f⟩;have d:=dD (c.trans f);have i:=dD g;have h:=dD<|bS c.out
 clear g f;have c:Xo (zdE b.heap.size (a.alloc (Xk (chL V' m).toArray 88)) V' m/\w.heap.size<=b.heap.size/\w.heap.size<=a.heap.size/\zg (a.alloc (Xk (chL V' m).toArray 88)) a.heap.size 88 (chL V' m)/\zc w (a.alloc (Xk (chL V' m).toArray 88))):=dD<|⟨i.aA (za _ _),h,bS d,zg.aD _ _ _ rfl,d.trans (za _ _)⟩
 go_wp2;go_ret;exact⟨_,b.heap.size,V',rfl,c⟩
theorem znO(V m)(p n:Int)(w)(a4:zq w V m)(al:maW m=0):
  Xp prog 177 #[Xi (mL V m).toArray,I6 p,I6 n] w fun e w'=>e=Xl (zhC (ZA m p n))/\(ZA m p n).1.length=8/\zc w w':=by
 have bq:=dD a4;have bt:=dD<|fun x e=>zpI a4.sb.2.1 a4.sq.2.1 a4.db.2.1 a4.dq.2.1 x e
 have ae:Xo (∀W,zc w W->Xp prog 20 #[Xi (mL V m).toArray] W fun e w'=>e=Xl (I6 (maW m))/\zc W w'):=dD<|fun W U=>by rw[al];exact Zn V m W (bq.aA U) al
 have ay:Xo (∀W,zc w W->Xp prog 70 #[Xi (mL V m).toArray] W fun e w'=>∃B,e=Xl (Xi #[V.f.x,I6 m.aB,V.s.x,V.sb.x,V.sq.x,V.db.x,V.dq.x,V.fl.x,I6 m.cnt,V.ca.x,V.sp.x,.map (Xa B)])/\Zh plK w' B (Zz m.ca)/\zc W w'):=dD<|fun W U=>QJ V m W (bq.aA U)
 have ac:Xo (maW m=0->∀W B(a:Ar)(n:Nat)(e:En),zc w W->jK a->(a.fr<=(n:Int)/\(n:Int)<a.tz)->(e.kind=1->0<=e.n/\e.n<(m.fs.length:Int))->(e.kind=2->0<=e.n/\e.n<(m.sb.length:Int))->Zh plK W B (Zz m.ca)->Xp prog 204 #[Xi #[V.f.x,I6 m.aB,V.s.x,V.sb.x,V.sq.x,V.db.x,V.dq.x,V.fl.x,I6 m.cnt,V.ca.x,V.sp.x,.map (Xa B)],Xi #[I6 a.fr,I6 a.tz,Xh a.rd,Xh a.wr,Xh a.sh,I6 a.file,I6 a.base],I6 (n:Int),Xi #[I6 e.kind,I6 e.n,Xh e.wr]] W fun a6 w'=>a6=Xl (zhC (JY m (qg a n) e))/\(JY m (qg a n) e).1.length=8/\zc W w'):=dD<|fun al W B a n e U ee cd af a2 L=>zfa V m B a n e W (bq.aA U) al ee cd af a2 L
 obtain⟨-,-,-,-,-,-,-,-,dc⟩:=a4.ns;obtain⟨dt,be,M,ba⟩:=a4.bE;obtain⟨ao,ap,u,v,r,s,t,q,⟨i,d,l⟩⟩:=V;dsimp only[mL]at dc M ae ay ac⊢;have aa:=dD dc.symm;have bz:Xo (dt.length=d):=show _=_ by rw[be];exact aa.out
 have br:=dD M
 have bu:=dD ba
 obtain⟨df,bi⟩:=kA (maW m);rw[bi.out]at ae ac;clear a4 dc be M ba;obtain⟨c1,E⟩:=kB ((w.alloc (Xk #[ao.x,I6 m.aB,ap.x,u.x,v.x,r.x,s.x,t.x,I6 m.cnt,q.x,O i d l] 45)).alloc (Xk #[U8 0,U8 0,U8 0,U8 0,U8 0,U8 0,U8 0,U8 0] 91));have dg:=gD2 E
 have dk:=x2a E
 have dy:Xo (Box c1 (w.heap.size+1) (pgc zS)):=dD<|by rw[<-E];exact Box.aD _ (pgc zS) _ Sm
 have bx:Xo (_=c1):=E;clear E
 go_enter func177,ntmps177
 go_upto_region 1 with fail;rw[bx.out];obtain⟨eu,ev,ew,ex,ey,ez,f0,f1,f2,f3,Z⟩:=dk.aU;have b7:=ae.out c1 dg.out;go_wp2_with fail;refine b7.mono ?_;clear b7 eu ev ew ex ey ez f0 f1 f2 f3 Z;rintro a6 bj⟨rfl,bk⟩;have bn:=dD (dg.trans bk);have dl:=dD (dk.aA bk);have dm:=dD (dy.aA bk);clear bk;have a5:df=0:=Ry bi.out al
 clear al;have db:(df !=0)=Xd:=by simp[a5]
 have a9:Xo (maW m=0):=dD<|Rx bi.out a5
 have ab:Xo (ZA m p n=zhD m p n):=dD<|by unfold ZA;rw[bi.out,kF (fun c4=>c4 a5)]
 have bw:=show Xo _ from ac.out a5
 clear a5;have Z:=dl.c 10 rfl;have a3:=QD p (d:Int) bj;go_wp2_with fail;refine a3.mono ?_;rintro a6 w'⟨rfl,bc⟩;rw[bc];clear bc w' a3 db
 cases b5:bel p (d:Int)with
 |false=>
  have a0:Xo (ZA m p n=(zS,Xd,5)):=dD<|by
   rw[ab.out];refine zcq ?_;have af:¬(0<=p/\p<(d:Int)):=fun c4=>by rw[Zf.2 c4]at b5;cases b5
   rw[aa.out];omega
  clear b5
  go_wp2_with(refine zx rfl 91 (.tmp 6) (.tmp 24) rfl (w.heap.size+1) rfl (pgc zS) rfl dm rfl zr7 (jt _) ?_)
  intro az F G _;have C:Xo (zc w az):=dD<|zd bn G Wm
  go_wp2;refine bodyPost_ret (zJ rfl _ rfl F underlying91 rfl zr7) rfl ⟨Rr a0.out,Rr a0.out,C⟩
 |true=>
 obtain⟨e1,f6⟩:=Zf.1 b5;obtain⟨Y,rfl⟩:∃Y:Nat,p=(Y:Int):=⟨p.toNat,Wm⟩
 obtain⟨x,am⟩:∃x,dt[Y]?=Xa x:=⟨_,gE (by rw[bz.out];omega)⟩
 obtain⟨N,ak⟩:∃N,Xo (m.sp[Y]?=Xa N):=⟨_,gE (by rw[aa.out];omega)⟩
 have P:=dD<|bu.out Y x N am ak.out;obtain⟨c2,bs,dq⟩:∃c2,Xo (i=Xa c2)/\∀W,zc w W->znr W (c2.add (Y*10)) x:=br.out Y x am;obtain⟨e2,e3,e4,e5,e8,e9,ea,eb,ec,ed⟩:=dq bj bn.out;rw[bs.out]at Z;clear dq am b5 e1;go_upto_region 7 with fail;clear e2 e3 e4 e5 e8 e9 ea eb ec ed Z;obtain⟨eq,av⟩:=kA bj.heap.size;obtain⟨dw,X⟩:=kB (bj.alloc (Xk #[Xh x.aH,x.ar.x,x.t0.x,x.t1.x,x.t2.x,x.t3.x,x.t4.x,x.t5.x,x.t6.x,x.t7.x] 76));have bl:=gP X
 have di:=xP X av
 have dh:=dD (bn.trans bl);have dx:=dD (dl.aA bl);have dz:=dD (dm.aA bl);rw[X,av.out];clear X bl;have et:=di.c 1 rfl;have b7:=zcx (x.ar.x) N.aE n dw (P.ar.aA dh);go_wp2_with fail;refine b7.mono ?_;clear b7 et;rintro a6 dj⟨⟨du,rfl,a5⟩,b2⟩;have au:=dD a5;have z:=dD (dh.trans b2);have D:=dD (dx.aA b2);have dn:=dD (dz.aA b2);have T:=dD (di.aA b2);clear b2 a5
 by_cases bf:du<0
 ·have a0:Xo (ZA m (Y:Int) n=(zS,Xd,5)):=dD<|by rw[ab.out];exact zlA ak au bf
  go_wp2_with(refine zx rfl 91 (.tmp 6) (.tmp 36) rfl (w.heap.size+1) rfl (pgc zS) rfl dn rfl zr7 (jt _) ?_)
  intro az F G _;have C:Xo (zc w az):=dD<|zd z G Wm
  go_wp2;refine bodyPost_ret (zJ rfl _ rfl F underlying91 rfl zr7) rfl ⟨Rr a0.out,Rr a0.out,C⟩
 obtain⟨k,a,rfl,S,R⟩:∃(k:Nat)(a:Ar),du=(k:Int)/\Xo (N.aE[k]?=Xa a)/\Xo (inZ a n=Xc):=by
  rcases au with⟨k,a,bg,dd,de⟩|⟨bg,_⟩
  ·exact⟨k,a,bg,dd,de⟩
  omega
 have aq:=dD<|(JD.1 ((zpa (Jn a9)).ar N (mG ak)).1).2;have a8:=dD<|zfA aq S.out;obtain⟨h,rfl⟩:∃h:Nat,n=(h:Int):=⟨n.toNat,by have af:=zbN.1 R.out;have a2:=a8.out;unfold jK at a2;omega⟩
 have j:h<64:=by have af:=zbN.1 R.out;have a2:=a8.out;unfold jK at a2;omega
 obtain⟨e,Q⟩:=kA (zl N h);have ax:Xo (ZA m (Y:Int) (h:Int)=JY m (qg a h) e):=dD<|by rw[ab.out,zcp ak j,zaT aq S (Ry zie R),Q.out]
 have ar:Xo (∀W B,zc w W->Zh plK W B (Zz m.ca)->Xp prog 204 #[Xi #[ao.x,I6 m.aB,ap.x,u.x,v.x,r.x,s.x,t.x,I6 m.cnt,q.x,O i d l,.map (Xa B)],Xi #[I6 a.fr,I6 a.tz,Xh a.rd,Xh a.wr,Xh a.sh,I6 a.file,I6 a.base],I6 (h:Int),Xi #[I6 e.kind,I6 e.n,Xh e.wr]] W fun a6 w'=>a6=Xl (zhC (JY m (qg a h) e))/\(JY m (qg a h) e).1.length=8/\zc W w'):=dD<|fun W B U L=>bw.out W B a h e U a8 (zbN.1 R) (by rw[<-Q.out];exact(zpi a9 ak j).1) (by rw[<-Q.out];exact(zpi a9 ak j).2) L
 have bo:Xo (∀W,zc w W->Xp prog 69 #[Xi #[x.t0.x,x.t1.x,x.t2.x,x.t3.x,x.t4.x,x.t5.x,x.t6.x,x.t7.x],I6 (h:Int)] W fun a6 w'=>a6=Xl (Xi #[I6 e.kind,I6 e.n,Xh e.wr])/\zc W w'):=dD<|fun W U=>by
  have:=Qw x.tab N.tb (h:Int) W (P.aA U).tb;rw[zfk j,Q.out]at this;exact this
 have ef:k<x.ar.n:=by rw[P.ar.n];exact(gS.1 S).1
 have eg:(k:Int)<(x.ar.n:Int):=Wm
 obtain⟨b,bv,g⟩:∃b,Xo (x.ar.a=Xa b)/\Xo (∀W,zc w W->ziU W (b.add (k*7)) a):=by
  obtain⟨_,_,bg,dd⟩:=P.ar.aE;simp only[vJ]at bg;obtain⟨b,de,er⟩:=dd k a S.out;exact⟨b,Rx bg.1 de,er⟩
 obtain⟨c0,aw⟩:=kA (JY m (qg a h) e);have bp:Xo (c0.1.length=8):=dD<|by rw[<-aw.out];exact bt _ _
 rw[aw.out]at ax ar;clear bf;go_upto_region 10 with fail;obtain⟨A,c⟩:=Wq fun an=>zc dj an
 have ag:=(c _).2 (gW _)
 have cr:=D.h c 0 rfl
 have cs:=D.h c 1 rfl
 have ct:=D.h c 2 rfl
 have cu:=D.h c 3 rfl
 have cv:=D.h c 4 rfl
 have cw:=D.h c 5 rfl
 have cx:=D.h c 6 rfl
 have cy:=D.h c 7 rfl
 have cz:=D.h c 8 rfl
 have da:=D.h c 9 rfl
 have bd:=D.h c 10 rfl
 have cj:=T.h c 2 rfl
 have ck:=T.h c 3 rfl
 have cl:=T.h c 4 rfl
 have cm:=T.h c 5 rfl
 have cn:=T.h c 6 rfl
 have co:=T.h c 7 rfl
 have cp:=T.h c 8 rfl
 have cq:=T.h c 9 rfl
 have ci:∀y:zo A,y.world.cell? ⟨eq,1,Xb⟩=Xa (O (Xa b) x.ar.n x.ar.c):=fun y=>by rw[<-bv.out];exact(T.aA ((c _).1 y.holds)).c 1 rfl
 have c5:=fun y:zo A=>(g _ (z.trans ((c _).1 y.holds))).1
 have c6:=fun y:zo A=>(g _ (z.trans ((c _).1 y.holds))).2.1
 have c7:=fun y:zo A=>(g _ (z.trans ((c _).1 y.holds))).2.2.1
 have c8:=fun y:zo A=>(g _ (z.trans ((c _).1 y.holds))).2.2.2.1
 have c9:=fun y:zo A=>(g _ (z.trans ((c _).1 y.holds))).2.2.2.2.1
 have ca:=fun y:zo A=>(g _ (z.trans ((c _).1 y.holds))).2.2.2.2.2.1
 have cb:=fun y:zo A=>(g _ (z.trans ((c _).1 y.holds))).2.2.2.2.2.2
 have cf:Nonempty (zo A):=⟨⟨_,ag⟩⟩;refine jS (I:=A) 16 [(1,⟨fun a7=>∃B,a7=Xi #[ao.x,I6 m.aB,ap.x,u.x,v.x,r.x,s.x,t.x,I6 m.cnt,q.x,O i d l,.map (Xa B)],fun a7 an=>∃B,a7=Xi #[ao.x,I6 m.aB,ap.x,u.x,v.x,r.x,s.x,t.x,I6 m.cnt,q.x,O i d l,.map (Xa B)]/\Zh plK an B (Zz m.ca),fun p aj=>zc p aj,fun _=>True⟩),(11,⟨fun a7=>a7=Xi #[I6 e.kind,I6 e.n,Xh e.wr],fun _ _=>True,fun p aj=>zc p aj,fun _=>True⟩),(12,⟨fun a7=>a7=zhC c0,fun _ _=>True,fun p aj=>zc p aj,fun _=>True⟩)] ag zU Kr rfl rfl Dc (Sc ⟨_,0,rfl⟩ ⟨_,rfl⟩ ⟨_,rfl⟩) ?hp ?hpre ?hpr0 ?_
 case hp=>
  intro k N eh dr b9 bm b8 dp a7 p aj ai cg;have K:=z6 b9;have H:=z6 bm;clear b9 bm;simp only[mC,pJ,nM,or_false]at K H
  rcases K with⟨rfl,rfl⟩|⟨rfl,rfl⟩|⟨rfl,rfl⟩
  ·obtain⟨B,af,a2⟩:=cg
   rcases H with⟨rfl,rfl⟩|⟨rfl,rfl⟩|⟨rfl,rfl⟩
   ·exact absurd rfl b8
   ·exact⟨B,af,a2.aA ai⟩
   exact⟨B,af,a2.aA ai⟩
  ·trivial
  trivial
 case hpre=>
  intro eh dr k N bm b9 b8 p aj ai ah;have H:=z6 bm;simp only[mC,pJ,nM,or_false]at H
  rcases H with⟨rfl,rfl⟩|⟨rfl,rfl⟩|⟨rfl,rfl⟩<;>trivial
 case hpr0=>
  intro k dr b9;have K:=z6 b9;simp only[mC,pJ,nM,or_false]at K
  rcases K with⟨rfl,rfl⟩|⟨rfl,rfl⟩|⟨rfl,rfl⟩<;>trivial
 simp only[Ym,Yn];refine qT ?_
 refine jY rfl rfl (fun w' f ah b3=>?_) (fun ds bb=>?_)
 ·refine zI.call [Xi #[ao.x,I6 m.aB,ap.x,u.x,v.x,r.x,s.x,t.x,I6 m.cnt,q.x,O i d l]] rfl func70 rfl rfl rfl ?_;refine(ay w' (z.trans ((c _).1 f))).mono ?_;rintro e bh⟨B,rfl,L,a1⟩;exact⟨_,rfl,(c _).2 (((c _).1 f).trans a1),a1,⟨B,rfl⟩,B,rfl,L⟩
 obtain⟨B,rfl⟩:=bb;refine Uq ?_;iterate 9 refine qT ?_
 refine jY rfl rfl (fun w' f ah b3=>?_) (fun ds bb=>?_)
 ·refine zI.call [Xi #[x.t0.x,x.t1.x,x.t2.x,x.t3.x,x.t4.x,x.t5.x,x.t6.x,x.t7.x],I6 (h:Int)] rfl func69 rfl rfl rfl ?_;refine(bo w' (z.trans ((c _).1 f))).mono ?_;rintro e bh⟨rfl,a1⟩;exact⟨_,rfl,(c _).2 (((c _).1 f).trans a1),a1,rfl,trivial⟩
 subst bb;refine Uq ?_;refine jY rfl rfl (fun w' f ah b3=>?_) (fun ds bb=>?_)
 ·obtain⟨f4,b6,cc⟩:=b3 1 Kr
  simp only[Value.agg.injEq,Array.mk.injEq,List.cons.injEq,Value.map.injEq,Option.some.injEq,and_true,true_and]at b6;subst b6;refine zI.call [Xi #[ao.x,I6 m.aB,ap.x,u.x,v.x,r.x,s.x,t.x,I6 m.cnt,q.x,O i d l,.map (Xa B)],Xi #[I6 a.fr,I6 a.tz,Xh a.rd,Xh a.wr,Xh a.sh,I6 a.file,I6 a.base],I6 (h:Int),Xi #[I6 e.kind,I6 e.n,Xh e.wr]] rfl func204 rfl rfl rfl ?_;refine(ar w' B (z.trans ((c _).1 f)) cc).mono ?_;rintro e bh⟨rfl,f7,a1⟩;exact⟨_,rfl,(c _).2 (((c _).1 f).trans a1),a1,rfl,trivial⟩
 obtain⟨es,f8,f9⟩:=c0;have ce:=bp.out;obtain⟨ei,ej,ek,el,em,en,eo,ep,ch⟩:=zc4 es ce;subst ch;subst bb;simp only[zhC,pgc,mP,Yk];refine Uq ?_;iterate 3 refine qT ?_
 refine JJ fun f5 b4 b3=>?_
 have c3:=(c _).1 b4;have dv:=dD (z.trans c3);have e0:=dD (dn.aA c3);have a0:=ax;clear b3 b4 ag cf c3 cr cs ct cu cv cw cx cy cz da bd ci cj ck cl cm cn co cp cq c5 c6 c7 c8 c9 ca cb;refine zx rfl 91 (.tmp 6) (.tmp 50) rfl (w.heap.size+1) rfl (pgc [ei,ej,ek,el,em,en,eo,ep]) rfl e0 rfl zr7 (jt _) ?_;intro az F G _;have C:Xo (zc w az):=show zc _ _ from zd dv G Wm
 go_wp2;refine bodyPost_ret (zJ rfl _ rfl F underlying91 rfl zr7) rfl ⟨Rr a0.out,Rr a0.out,C⟩
def zrc(k q n:Nat)(mB:Ma):Prop:=∃(s:Sp)(fr:Fr)(we:Bool),Rt mB/\mB.sp[q]?=Xa s/\mB.fs[k]?=Xa fr/\zl s n=⟨1,(k:Int),we⟩
def jm(m:Ma)(BF:Nat->Nat->Ar->Pg->Bool->Bool×Nat×Ma)(p n:Int)(wr:Bool)(er:Int):Prop:=
 er≠0/\(js m p n wr ar0 er\/(∃a,js m p n wr a 0/\(ZA m p n).2.2=er)\/(er=10/\∃(q i:Nat)(a:Ar)(pg:Pg)(ic:Bool),p=(q:Int)/\n=(i:Int)/\js m p n wr a 0/\ZA m p n=(pgL pg,ic,0)/\(jr m (BF q i a pg wr) pg a ic wr q i).1=Xd))
def zco(m:Ma)(BF:Nat->Nat->Ar->Pg->Bool->Bool×Nat×Ma)(p n:Int)(wr:Bool)(k:Nat)(m':Ma):Prop:=
 ∃(q i:Nat)(a:Ar)(pg:Pg)(ic:Bool)(fr:Fr),p=(q:Int)/\n=(i:Int)/\js m p n wr a 0/\ZA m p n=(pgL pg,ic,0)/\(jr m (BF q i a pg wr) pg a ic wr q i).1=Xc/\k=(jr m (BF q i a pg wr) pg a ic wr q i).2.1/\(jr m (BF q i a pg wr) pg a ic wr q i).2.2.fs[k]?=Xa fr/\m'=j5 (jr m (BF q i a pg wr) pg a ic wr q i).2.2 q i k fr wr a.sh
theorem zrp{l:List Int}(h:l.length=8):∃pg:Pg,l=pgL pg:=by
 obtain⟨a,b,c,d,f,g,i,j,e⟩:=zc4 l h;exact⟨⟨a,b,c,d,f,g,i,j⟩,e⟩
theorem zhK{p n:Int}{wr:Bool}{a:Ar}{b:Int}(h:js m p n wr a b)(c:b≠0):a=ar0:=by
 rcases h with⟨_,e,_⟩|⟨_,_,_,_,_,_,_,_,_,_,_,_,_,⟨_,e,_⟩|⟨e,_⟩⟩
 ·exact e
 ·exact e
 grind
theorem zga{w:Xn}{a:Act}(b:o.op=.alloc 245):(execOp a.eval o).run prog w=.ok (.value (Xj (Xa ⟨w.heap.size,0,Xb⟩))) (w.alloc (Xk #[Xj Xb,I6 0,I6 0,I6 0,I6 0,Xh Xd,Xh Xd,Xh Xd,I6 0,I6 0,U8 0,U8 0,U8 0,U8 0,U8 0,U8 0,U8 0,U8 0,Xh Xd,Xh Xd] 245)):=by
 simp only[execOp,b]
 go_simp
theorem zhG(V)(m:Ma)(p n:Int)(wr:Bool)(w)(r:zq w V m)(b:Rt m)(BF:Nat->Nat->Ar->Pg->Bool->Bool×Nat×Ma)
  (Z:∀(w0 W:Xn)(p:Nat)(d:MaV)(m1:Ma)(al:Xq)(l:List (Nat×Nat)),(∀x∈l,x.2<64/\∃s,m.sp[x.1]?=Xa s)->m1=zi m l->ChW w0 noX p W d m1->Rt m1->qE m1.fs=0->zhm Jb (Dw p d) W al l->Xp prog 160 #[Xj (Xa ⟨p,0,Xb⟩),al] W fun e w'=>e=Xl (Xh (jP m1 l).1)/\Chg w0 noX p W d (jP m1 l).2 w')
  (h:∀(q i:Nat)(a:Ar)(pg:Pg),p=(q:Int)->n=(i:Int)->js m p n wr a 0->ZA m p n=(pgL pg,Xd,0)->0<=a.file->a.sh=Xc\/wr=Xd->∀(w0 W:Xn)(p:Nat)(d:MaV),ChW w0 noX p W d m->Xp prog 205 #[Xi #[Xj (Xa ⟨p,0,Xb⟩),I6 (q:Int),I6 (i:Int),I6 a.fr,I6 a.tz,Xh a.rd,Xh a.wr,Xh a.sh,I6 a.file,I6 a.base,U8 pg.b0,U8 pg.b1,U8 pg.b2,U8 pg.b3,U8 pg.b4,U8 pg.b5,U8 pg.b6,U8 pg.b7,Xh Xd,Xh wr]] W fun e w'=>e=Xl (Xm #[I6 ((BF q i a pg wr).2.1:Int),I6 (if(BF q i a pg wr).1=Xc then 0 else 10)])/\Chg w0 noX p W d (BF q i a pg wr).2.2 w')
  (j:∀(q i:Nat)(a:Ar)(pg:Pg)(t:Bool),p=(q:Int)->n=(i:Int)->js m p n wr a 0->ZA m p n=(pgL pg,t,0)->(jr m (BF q i a pg wr) pg a t wr q i).1=Xc->zrc (jr m (BF q i a pg wr) pg a t wr q i).2.1 q i (jr m (BF q i a pg wr) pg a t wr q i).2.2):
  Xp prog 140 #[Xi (mL V m).toArray,I6 p,I6 n,Xh wr] w fun e w'=>((∃c:Int,e=Xl (Xm #[Xi zR.toArray,I6 0,I6 c])/\jm m BF p n wr c)\/(∃(V':MaV)(k f:Nat)(m':Ma),e=Xl (Xm #[Xi (mL V' m').toArray,I6 (k:Int),I6 0])/\zco m BF p n wr k m'/\ChW w noX f w' V' m'))/\zc w w':=by
 have P:=dD r;have bs:=dD b;have an:=show Xo _ from Z
 have am:=show Xo _ from h
 have ao:=show Xo _ from j
 have g:=dD<|fun W(a8:zc w W)=>zjX V m p n wr W (P.aA a8) b.w
 have u:=dD<|fun W(a8:zc w W)=>znO V m p n W (P.aA a8) b.w
 clear r b Z h j;obtain⟨h,a5⟩:=kA w.heap.size;obtain⟨j,b⟩:=kB ((w.alloc (Xk (mL V m).toArray 45)).alloc (Xk zM.toArray 45));have A:=gD2 b
 have C:Xo (zg j h 45 (mL V m)):=dD<|by rw[<-b];exact(zg.aD w (mL V m) _ a5.symm).aA (za _ _)
 have S:Xo (zg j (h+1) 45 zR):=dD<|by rw[<-b];exact zg.aD _ zR _ (by have:=a5.out;simp;omega)
 have r:=dD b;clear b;have b:=g.out j A.out
 go_enter func140,ntmps140
 go_upto_region 1 with fail;rw[r.out,a5.out];obtain⟨y,z,D,G,H,K,L,M,Q,R,g⟩:=C.box.aU;go_wp2_with fail;refine b.mono ?_;clear b y z D G H K L M Q R g;rintro ae ai⟨⟨a,c,rfl,b⟩,F⟩;have a3:=dD b;clear b;go_upto_region 2 with fail;obtain⟨N,E⟩:=kA ai.heap.size;obtain⟨B,b⟩:=kB (ai.alloc (Xk #[I6 a.fr,I6 a.tz,Xh a.rd,Xh a.wr,Xh a.sh,I6 a.file,I6 a.base] 125));have r:zc j B:=by rw[<-b];exact F.trans (za _ _)
 have a2:=xPT b E
 have Y:=dD (C.aA r);have a1:=dD (S.aA r);have C:=dD (A.trans r);rw[b,E.out];clear b F r
 by_cases A:c=0
 rotate_left
 ·have a4:(c !=0)=Xc:=by simp[A]
  have af:Xo (jm m BF p n wr c):=dD<|⟨A,.inl (by have:=a3.out;rw[zhK a3.out A]at this;exact this)⟩
  clear A
  go_wp2_with(refine zh rfl 45 (.tmp 8) (.tmp 27) rfl (h+1) rfl zR rfl a1 rfl Kr (by unfold zR;simp[Value.oneCell']) ?_)
  intro ag j r _;have F:Xo (zc w ag):=dD<|zd C r (Hm a5.out)
  have E:=dD j;clear j r;go_wp2;refine bodyPost_ret (zJ rfl _ rfl E.box underlying45 rfl Kr) rfl ⟨.inl ⟨c,rfl,af⟩,F⟩
 subst A;have b:=u.out B C.out;obtain⟨y,z,D,G,H,K,L,M,Q,R,g⟩:=Y.box.aU;go_wp2_with fail;refine b.mono ?_;clear b y z D G H K L M Q R g;rintro ae c⟨rfl,b,H⟩;obtain⟨g,a0⟩:=kA (ZA m p n);rw[a0.out]at b⊢;obtain⟨u,t,y⟩:=g;obtain⟨pg,rfl⟩:=zrp b;obtain⟨R,z,u,K,S,T,U,X⟩:=pg;clear b;simp only[zhC,pgL,pgc,List.map];go_upto_region 5 with fail;obtain⟨L,G⟩:=kA c.heap.size;obtain⟨D,b⟩:=kB (c.alloc (Xk #[U8 R,U8 z,U8 u,U8 K,U8 S,U8 T,U8 U,U8 X] 91));have c:zc B D:=by rw[<-b];exact H.trans (za _ _)
 have B:=xPT b G
 have g:=dD (Y.aA c);have ap:=dD (a1.aA c);have M:=dD (a2.aA c);have aa:=dD (C.trans c);rw[b,G.out];clear b H c
 by_cases A:y=0
 rotate_left
 ·have a4:(y !=0)=Xc:=by simp[A]
  have af:Xo (jm m BF p n wr y):=dD<|⟨A,.inr (.inl ⟨a,a3,by rw[a0.out]⟩)⟩
  clear A
  go_wp2_with(refine zh rfl 45 (.tmp 8) (.tmp 39) rfl (h+1) rfl zR rfl ap rfl Kr (by unfold zR;simp[Value.oneCell']) ?_)
  intro ag j r _;have F:Xo (zc w ag):=dD<|zd aa r (Hm a5.out)
  have E:=dD j;clear j r;go_wp2;refine bodyPost_ret (zJ rfl _ rfl E.box underlying45 rfl Kr) rfl ⟨.inl ⟨y,rfl,af⟩,F⟩
 subst A;obtain⟨q,i,H,G,a2,s,bw⟩:∃q i:Nat,Xo (p=(q:Int))/\Xo (n=(i:Int))/\Xo (i<64)/\∃s,Xo (m.sp[q]?=Xa s):=by
  rcases a3 with⟨e,_⟩|⟨q,i,_,s,_,b,c,y,C,_⟩
  ·cases e
  exact⟨q,i,b,c,y,s,C⟩
 rw[H.out,G.out];have ad:=dD<|fun W(a8:zc w W)=>zgn V m W (P.aA a8)
 go_upto_region 7 with fail;obtain⟨c,b⟩:=Wq fun C=>zc D C
 have a7:=(b _).2 (gW _)
 have aq:Nonempty (zo c):=⟨⟨_,a7⟩⟩;have ar:=fun y:zo c=>(g.box.aA ((b _).1 y.holds)).c 0 rfl
 have au:=fun y:zo c=>(g.box.aA ((b _).1 y.holds)).c 1 rfl
 have av:=fun y:zo c=>(g.box.aA ((b _).1 y.holds)).c 2 rfl
 have aw:=fun y:zo c=>(g.box.aA ((b _).1 y.holds)).c 3 rfl
 have ax:=fun y:zo c=>(g.box.aA ((b _).1 y.holds)).c 4 rfl
 have ay:=fun y:zo c=>(g.box.aA ((b _).1 y.holds)).c 5 rfl
 have az:=fun y:zo c=>(g.box.aA ((b _).1 y.holds)).c 6 rfl
 have b8:=fun y:zo c=>(g.box.aA ((b _).1 y.holds)).c 7 rfl
 have b9:=fun y:zo c=>(g.box.aA ((b _).1 y.holds)).c 8 rfl
 have ba:=fun y:zo c=>(g.box.aA ((b _).1 y.holds)).c 9 rfl
 have ah:=fun y:zo c=>(g.box.aA ((b _).1 y.holds)).c 10 rfl
 have bc:=fun y:zo c=>(M.box.aA ((b _).1 y.holds)).c 0 rfl
 have bd:=fun y:zo c=>(M.box.aA ((b _).1 y.holds)).c 1 rfl
 have be:=fun y:zo c=>(M.box.aA ((b _).1 y.holds)).c 2 rfl
 have bf:=fun y:zo c=>(M.box.aA ((b _).1 y.holds)).c 3 rfl
 have bg:=fun y:zo c=>(M.box.aA ((b _).1 y.holds)).c 4 rfl
 have bh:=fun y:zo c=>(M.box.aA ((b _).1 y.holds)).c 5 rfl
 have bi:=fun y:zo c=>(M.box.aA ((b _).1 y.holds)).c 6 rfl
 have bj:=fun y:zo c=>(B.box.aA ((b _).1 y.holds)).c 0 rfl
 have bk:=fun y:zo c=>(B.box.aA ((b _).1 y.holds)).c 1 rfl
 have bl:=fun y:zo c=>(B.box.aA ((b _).1 y.holds)).c 2 rfl
 have bm:=fun y:zo c=>(B.box.aA ((b _).1 y.holds)).c 3 rfl
 have bn:=fun y:zo c=>(B.box.aA ((b _).1 y.holds)).c 4 rfl
 have bo:=fun y:zo c=>(B.box.aA ((b _).1 y.holds)).c 5 rfl
 have bp:=fun y:zo c=>(B.box.aA ((b _).1 y.holds)).c 6 rfl
 have bq:=fun y:zo c=>(B.box.aA ((b _).1 y.holds)).c 7 rfl
 refine Jd (I:=c) 12 [(1,⟨.const (Xh Xd),fun Q=>∃f:Nat,Q=Xj (Xa ⟨f,0,Xb⟩),fun _ Q C=>∃(f B:Nat)(d:MaV),Q=Xj (Xa ⟨f,0,Xb⟩)/\D.heap.size<=B/\D.heap.size<=f/\zdE B C d m/\zg C f 88 (chL d m),fun p q=>zc p q,fun _=>True⟩),(10,⟨.const (Xh Xd),fun Q=>∃g,Q=Xj (Xa ⟨g,0,Xb⟩),fun _ Q C=>∃g N,Q=Xj (Xa ⟨g,0,Xb⟩)/\D.heap.size<=g/\zg C g 245 N/\N.length=20,fun p q=>zc p q,fun _=>True⟩),(11,⟨.tmp 15,fun _=>True,fun ae _ C=>∃(g f B:Nat)(d:MaV),ae=Xj (Xa ⟨g,0,Xb⟩)/\D.heap.size<=g/\zg C g 245 [Xj (Xa ⟨f,0,Xb⟩),I6 (q:Int),I6 (i:Int),I6 a.fr,I6 a.tz,Xh a.rd,Xh a.wr,Xh a.sh,I6 a.file,I6 a.base,U8 R,U8 z,U8 u,U8 K,U8 S,U8 T,U8 U,U8 X,Xh t,Xh wr]/\D.heap.size<=B/\D.heap.size<=f/\zdE B C d m/\zg C f 88 (chL d m),fun p q=>∃g N ak,D.heap.size<=g/\p.grownBy q (Xa g)/\zg p g 245 ak/\zg q g 245 N/\N.length=20,fun _=>True⟩)] a7 zU Kr Kr rfl rfl Dc (Sc ⟨_,0,rfl⟩ ⟨_,0,rfl⟩ ⟨Xh Xc,trivial⟩) ?hp ?hpre ?hpr0 ?_
 case hp=>
  intro k s c0 bv P ab a1 c ae Q p q c a6;have C:=z6 P;have y:=z6 ab;clear P ab;simp only[mC,pJ,nM,or_false]at C y
  rcases C with⟨rfl,rfl⟩|⟨rfl,rfl⟩|⟨rfl,rfl⟩
  ·obtain⟨f,B,d,L,M,Y,a4,a9⟩:=a6
   rcases y with⟨rfl,rfl⟩|⟨rfl,rfl⟩|⟨rfl,rfl⟩
   ·exact absurd rfl a1
   ·exact⟨f,B,d,L,M,Y,a4.aA c,a9.aA c⟩
   obtain⟨aj,N,ak,c1,ac,br,bt,bu⟩:=c;exact⟨f,B,d,L,M,Y,a4.other ac br,a9.beside ac fun k P=>by cases P;exact a9.off br Dc⟩
  ·obtain⟨g,N,L,M,Y,a4⟩:=a6
   rcases y with⟨rfl,rfl⟩|⟨rfl,rfl⟩|⟨rfl,rfl⟩
   ·exact⟨g,N,L,M,Y.aA c,a4⟩
   ·exact absurd rfl a1
   obtain⟨aj,bz,ak,c1,ac,br,bt,bu⟩:=c
   by_cases e:g=aj
   ·subst e;exact⟨g,_,L,M,bt,bu⟩
   exact⟨g,N,L,M,Y.beside ac (fun k P=>by cases P;exact e),a4⟩
  obtain⟨g,f,B,d,L,M,Y,a4,a9,ac,ak⟩:=a6
  rcases y with⟨rfl,rfl⟩|⟨rfl,rfl⟩|⟨rfl,rfl⟩
  ·exact⟨g,f,B,d,L,M,Y.aA c,a4,a9,ac.aA c,ak.aA c⟩
  ·exact⟨g,f,B,d,L,M,Y.aA c,a4,a9,ac.aA c,ak.aA c⟩
  exact absurd rfl a1
 case hpre=>
  intro c0 bv k s ab P a1 p q c a9;have y:=z6 ab;simp only[mC,pJ,nM,or_false]at y
  rcases y with⟨rfl,rfl⟩|⟨rfl,rfl⟩|⟨rfl,rfl⟩<;>trivial
 case hpr0=>
  intro k bv P;have C:=z6 P;simp only[mC,pJ,nM,or_false]at C
  rcases C with⟨rfl,rfl⟩|⟨rfl,rfl⟩|⟨rfl,rfl⟩<;>trivial
 simp only[Ym,Yn];refine JK rfl rfl rfl (fun y c=>?_);go_big_quiet_op;refine c _ ?_;clear c y
 refine jy rfl rfl (fun w' c a9 Z=>?_) (fun C a1=>?_)
 ·refine zI.call [Xi (mL V m).toArray] rfl func24 rfl rfl rfl ?_;refine(ad w' (aa.trans ((b _).1 c))).mono ?_;rintro e br⟨f,B,d,rfl,ad,ab,ac,a6,y⟩;have ak:=bS ((b _).1 c);exact⟨_,rfl,(b _).2 (((b _).1 c).trans y),y,⟨f,rfl⟩,f,B,d,rfl,nT ak ab,nT ak ac,ad,a6⟩
 obtain⟨f,rfl⟩:=a1;refine Uq ?_;iterate 8 refine Zb ?_
 refine jy rfl rfl (fun w' c a9 Z=>?_) (fun C a1=>?_)
 ·refine zI.step (v:=Xj (Xa ⟨w'.heap.size,0,Xb⟩)) (w':=w'.alloc (Xk #[Xj Xb,I6 0,I6 0,I6 0,I6 0,Xh Xd,Xh Xd,Xh Xd,I6 0,I6 0,U8 0,U8 0,U8 0,U8 0,U8 0,U8 0,U8 0,U8 0,Xh Xd,Xh Xd] 245)) (zga rfl) ⟨(b _).2 (((b _).1 c).trans (za _ _)),za _ _,⟨_,rfl⟩,_,_,rfl,bS ((b _).1 c),zg.aD _ [Xj Xb,I6 0,I6 0,I6 0,I6 0,Xh Xd,Xh Xd,Xh Xd,I6 0,I6 0,U8 0,U8 0,U8 0,U8 0,U8 0,U8 0,U8 0,U8 0,Xh Xd,Xh Xd] _ rfl,rfl⟩
 obtain⟨a4,rfl⟩:=a1;refine Uq ?_;refine jy rfl rfl (fun w' c a9 Z=>?_) (fun C a1=>?_)
 ·obtain⟨g,N,N,g,y,a9⟩:=Z 10 Kr
  simp only[Value.pointer.injEq,Option.some.injEq,Addr.mk.injEq,and_true]at N;subst N;obtain⟨C,B,d,A,ab,ac,ad,a6⟩:=Z 1 Kr
  simp only[Value.pointer.injEq,Option.some.injEq,Addr.mk.injEq,and_true]at A;subst A;refine zI.aL 245 (.tmp 15) (.tmp 50) rfl a4 rfl [Xj (Xa ⟨f,0,Xb⟩),I6 (q:Int),I6 (i:Int),I6 a.fr,I6 a.tz,Xh a.rd,Xh a.wr,Xh a.sh,I6 a.file,I6 a.base,U8 R,U8 z,U8 u,U8 K,U8 S,U8 T,U8 U,U8 X,Xh t,Xh wr] rfl y (Rr a9) (by rw[a9];kernel_rfl) (by simp[Value.oneCell']) fun br z u K=>?_
  exact⟨(b _).2 (zd ((b _).1 c) u g),⟨a4,_,_,g,u,y,z,rfl⟩,trivial,a4,f,B,d,rfl,g,z,ab,ac,ad.other u y,a6.beside u fun k P=>by cases P;exact a6.off y Dc⟩
 simp only[Xw];refine za3 fun c f Z=>?_
 obtain⟨aj,C,B,d,N,y,g,ab,ac,ad,a6⟩:=Z 11;have c:(Value.pointer (Xa ⟨a4,0,Xb⟩):Xq)=Xj (Xa ⟨aj,0,Xb⟩):=N;simp only[Value.pointer.injEq,Option.some.injEq,Addr.mk.injEq,and_true]at c;subst c;have c:=(b _).1 f;have B:=dD<|ChW.of ad ab c ac a6;have a9:=dD g;have aj:=dD (ap.aA c);have A:=dD ap.box.lt;have P:=dD<|bS aa.out
 have b:=dD (aa.trans c);clear Z f a7 aq c N g y ab ac ad a6 ar au av aw ax ay az b8 b9 ba ah bc bd be bf bg bh bi bj bk bl bm bn bo bp bq;obtain⟨pg,b⟩:∃pg:Pg,Xo ((⟨R,z,u,K,S,T,U,X⟩:Pg)=pg):=⟨_,rfl⟩;have f:Xo (ZA m p n=(pgL pg,t,0)):=show _=_ by rw[<-b.out];exact a0.out
 have c:=zfY B bs q i s bw a2 a ⟨R,z,u,K,S,T,U,X⟩ t wr (fun l al y Z ai N g a1=>an.out D ai C N (zi m l) al l y rfl g (qM l bs y).1.rt Z a1) (BF q i a ⟨R,z,u,K,S,T,U,X⟩ wr) (fun g W a8=>by
  obtain⟨⟨L,M⟩,Y⟩:=g;have a1:=a0.out;rw[M]at a1⊢;exact am q i a ⟨R,z,u,K,S,T,U,X⟩ H G a3 a1 L Y D W C d (B.aA a8))
 simp only at c;rw[b.out]at c;obtain⟨g,b⟩:=kA (jr m (BF q i a pg wr) pg a t wr q i);have y:Xo (g.1=Xc->zrc g.2.1 q i g.2.2):=dD<|fun d=>by
  rw[<-b.out]at d⊢;exact ao q i a pg t H G a3 f d
 rw[b.out]at c;obtain⟨W,d⟩:=kA (if g.1=Xc then(0:Int)else 10);rw[d.out]at c
 go_wp2_with(refine zm rfl 245 (.tmp 15) rfl a4 rfl a9.box underlying245 rfl Kr ?_)
 refine c.mono ?_;clear c;rintro ae D⟨rfl,c,c,M,Z⟩;have L:Xo (zg D a4 245 [Xj (Xa ⟨C,0,Xb⟩),I6 (q:Int),I6 (i:Int),I6 a.fr,I6 a.tz,Xh a.rd,Xh a.wr,Xh a.sh,I6 a.file,I6 a.base,U8 R,U8 z,U8 u,U8 K,U8 S,U8 T,U8 U,U8 X,Xh t,Xh wr]):=a9.aK M (B.bQ a9 Dc Dc Dc Dc)
 have N:Xo (zg D (h+1) 45 zR):=aj.aK M (fun e=>by have:=B.dlo _ e;have:=A.out;omega)
 have D:=dD c;have Y:=dD<|aa.trans c.gr;clear c M Z;obtain⟨c,B,M⟩:=g;simp only at D y⊢
 cases c with
 |false=>
  have c:W=10:=by rw[<-d.out];rfl
  subst c;have af:Xo (jm m BF p n wr 10):=dD<|⟨Dc,.inr (.inr ⟨rfl,q,i,a,pg,t,H,G,a3,f,by rw[b.out]⟩)⟩
  go_wp2_with(refine zh rfl 45 (.tmp 8) (.tmp 58) rfl (h+1) rfl zR rfl N rfl Kr (by unfold zR;simp[Value.oneCell']) ?_)
  intro ag j r _;have F:Xo (zc w ag):=dD<|zd Y r (Hm a5.out)
  have E:=dD j;clear j r;go_wp2;refine bodyPost_ret (zJ rfl _ rfl E.box underlying45 rfl Kr) rfl ⟨.inl ⟨10,rfl,af⟩,F⟩
 |true=>
  have c:W=0:=by rw[<-d.out];rfl
  subst c;obtain⟨d,fr,g,j,E,r,F⟩:=y.out rfl;have c:Xo (zco m BF p n wr B (j5 M q i B fr wr a.sh)):=dD<|⟨q,i,a,pg,t,fr,H,G,a3,f,by rw[b.out],by rw[b.out],Rx b.out r,by rw[b.out]⟩
  have b:=zhH D q i B fr d g r j.inv.bB (fun s ak=>j.tb ak) E a2 F a ⟨R,z,u,K,S,T,U,X⟩ t wr
  obtain⟨g,d⟩:=kA (j5 M q i B fr wr a.sh);simp only at b;rw[d.out]at b c;clear j E r F
  go_wp2_with(refine zm rfl 245 (.tmp 15) rfl a4 rfl L.box underlying245 rfl Kr ?_)
  refine b.mono ?_;clear b;rintro ae d⟨⟨b,rfl⟩,f,r,b,E⟩;have y:Xo (zg d a4 245 [Xj (Xa ⟨C,0,Xb⟩),I6 (q:Int),I6 (i:Int),I6 a.fr,I6 a.tz,Xh a.rd,Xh a.wr,Xh a.sh,I6 a.file,I6 a.base,U8 R,U8 z,U8 u,U8 K,U8 S,U8 T,U8 U,U8 X,Xh t,Xh wr]):=L.aK b (D.bQ L Dc Dc Dc Dc)
  have t:Xo (zg d (h+1) 45 zR):=N.aK b (fun e=>by have:=D.dlo _ e;have:=A.out;omega)
  have j:=dD r;clear r b E;have u0:=y.box.c 0 rfl;obtain⟨r,u,y,z,D,E,F,G,H,K,d⟩:=j.box.box.aU;have b:Xo (∀Q∈chL f g,Q.oneCell'=Xc):=show∀Q∈chL f g,_ by simp[chL,Value.oneCell']
  go_wp2_with(refine zh rfl 45 (.tmp 8) (.tmp 67) rfl (h+1) rfl (chL f g) rfl t rfl Kr b.out ?_)
  clear u0 r u y z D E F G H K d;intro r d b _;have h:Xo (zc w r):=dD<|zd (aa.trans j.gr) b (Hm a5.out)
  have r:=dD d;have t:=dD<|j.lower b A h P.out;clear d b;go_wp2;refine bodyPost_ret (zJ rfl _ rfl r.box underlying45 rfl Kr) rfl ⟨.inr ⟨f,B,C,g,rfl,c,t⟩,h⟩
theorem zsc:Tryz.prog.underlying 91=Xa (.array (Tryz.prog.arrayLen 91) (Tryz.prog.elem 91)):=by kernel_rfl
theorem zsd:Tryz.prog.arrayLen 91=8:=by kernel_rfl
theorem zse:Tryz.prog.elem 91=5:=by kernel_rfl
theorem znU(B:Nat)(w:Xn):(Instr.sliceAt 91 (Xj (Xa ⟨B,0,Xb⟩)) (Xa (I6 0)) Xb Xb).run prog w=.ok (O (Xa ⟨B,0,Xb⟩) 8 8) w:=by
 obtain⟨e,a,c,b,d⟩:=info_parts zrR;rw[run_sliceAt_array_l w 91 ⟨B,0,Xb⟩ zsc .i64 0 Wm (by rw[zsd];omega),zsd,zse]
 simp[sizeOf,typeInfo,a,b,slicedAt,Result.andThen,Xx]
theorem zhX(l:List Int)(n:Nat)(w:Xn)(x:l.length=8)(P:n<=8):
  Xp prog 82 #[Xi (pgc l).toArray,I6 0,I6 (n:Int)] w fun e w'=>∃v,e=Xl v/\zb byE w.heap.size w' v (l.take n)/\zc w w':=by
 have s:Xo (l.length=8):=x;obtain⟨p,a⟩:=kB (w.alloc (Xk (pgc l).toArray 91));have z:=gA a
 have D:=xA a
 have g:=sA a
 have m:Xo (_=p):=a;have H:decide ((n:Int)<0)=Xd:=decide_eq_false Wm
 have r:decide ((8:Int)<(n:Int))=Xd:=decide_eq_false Wm
 clear a x
 go_enter func82,ntmps82
 go_upto_region 3 with fail;rw[m.out];clear H r
 go_wp2_with(refine qr byE rfl (.tmp 20) rfl n rfl (by show n*1<=_;omega) ?_)
 intro C own;obtain⟨h,c⟩:=kB (p.alloc (Xk C byE.ty));have q:zc p h:=by rw[<-c];exact za _ _
 have B:Xo (zb byE (w.heap.size+1) h (O (Xa ⟨w.heap.size+1,0,Xb⟩) n n) (Xr n 0)):=dD<|by
  rw[c,g.out]at own;exact own
 have F:=dD (D.aA q);have A:=dD (z.trans q);rw[c,g.out];clear c own q;have L:=znU w.heap.size h;have f:Xo ((l.take n).length=n):=show _=_ by rw[Xt,s.out];omega
 have k:Xo (q8 h ⟨w.heap.size,0,Xb⟩ ((l.take n).flatMap byE.enc)):=dD<|fun y N d=>by
  have K:(l.take n).flatMap byE.enc=pgc (l.take n):=by
   unfold pgc;rw[List.flatMap_def]
   induction(l.take n)with
   |nil=>rfl
   |cons Q R M=>simp only[mP,Oa,M];rfl
  rw[K]at d;have G:(pgc l)[y]?=Xa N:=by
   unfold pgc at d⊢;rw[Ye]at d⊢;rw[Yz]at d
   split at d
   ·exact d
   cases d
  have:=F.c y G;rw[Xx,zA];exact this
 go_wp2_with(refine qk (E:=byE) rfl (.tmp 22) (.tmp 24) rfl (w.heap.size+1) _ (Xr n 0) B (w.heap.size+1) rfl 0 n n ⟨w.heap.size+1,0,Xb⟩ rfl rfl ⟨w.heap.size,0,Xb⟩ 8 8 rfl (l.take n) ?qm k.out ?qf ?_)
 trace_state
 case qm=>
  rw[f.out]
  show n=min 8 n
  omega
 case qf=>
  rw[f.out,lR];omega
 intro t b u _;have j:Xo (zb byE w.heap.size t (O (Xa ⟨w.heap.size+1,0,Xb⟩) n n) (l.take n)):=dD<|by
  rw[s.out,show n-min n 8=0 by omega,Yw,Yd]at b
  exact b.base (Nat.le_succ _)
 have i:Xo (zc w t):=dD<|zd A u Wm
 clear b u;go_wp2;refine bodyPost_ret (results_tmp rfl _ _ _) rfl ⟨O (Xa ⟨w.heap.size+1,0,Xb⟩) n n,rfl,j,i⟩
def qz(m n:Int):Bool:=decide (0<=m/\0<=n/\n<=8-m%8)
theorem zqN{a b:Bool}(h:a=b):Ending.returned (Xh a)=Xl (Xh b):=by rw[h]
theorem zgh(m n:Int)(w:Xn)(c:-9223372036854775808<=m)(d:m<=9223372036854775807)(f:-9223372036854775808<=n)(g:n<=9223372036854775807):
  Xp prog 139 #[I6 m,I6 n] w fun e w'=>e=Xl (Xh (qz m n))/\w'=w:=by
 by_cases a:0<=m
 ·by_cases b:0<=n
  ·have H:Xo (qz m n=decide (n<=8-m%8)):=dD<|by unfold qz;simp[a,b]
   go_enter func139,ntmps139
   go_wp2;go_ret;exact⟨zqN H.symm,rfl⟩
  have H:Xo (qz m n=Xd):=dD<|by unfold qz;simp;omega
  go_enter func139,ntmps139
  go_wp2;go_ret;exact⟨zqN H.symm,rfl⟩
 have H:Xo (qz m n=Xd):=dD<|by unfold qz;simp;omega
 go_enter func139,ntmps139
 go_wp2;go_ret;exact⟨zqN H.symm,rfl⟩
def zhW(m:Int):Bool:=decide (0<=m/\m<8)
theorem zl5(m:Int)(w:Xn):Xp prog 141 #[I6 m] w fun e w'=>e=Xl (Xh (zhW m))/\w'=w:=by
 by_cases a:0<=m
 ·have H:Xo (zhW m=decide (m<8)):=dD<|by unfold zhW;simp[a]
  go_enter func141,ntmps141
  go_wp2;go_ret;exact⟨zqN H.symm,rfl⟩
 have H:Xo (zhW m=Xd):=dD<|by unfold zhW;simp;omega
 go_enter func141,ntmps141
 go_wp2;go_ret;exact⟨zqN H.symm,rfl⟩
theorem zf3(B i:Nat)(hi:i<8)(w:Xn):(Instr.sliceAt 91 (Xj (Xa ⟨B,0,Xb⟩)) (Xa (I6 (i:Int))) Xb Xb).run prog w=.ok (O (Xa ⟨B,i,Xb⟩) (8-i) (8-i)) w:=by
 obtain⟨e,a,c,b,d⟩:=info_parts zrR;rw[run_sliceAt_array_l w 91 ⟨B,0,Xb⟩ zsc .i64 i Wm (by rw[zsd];omega),zsd,zse]
 simp[sizeOf,typeInfo,a,b,slicedAt,Result.andThen,Xx]
 omega
theorem zeW(l:List Int)(i n:Nat)(w:Xn)(A:l.length=8)(u:i<8)(S:i+n<=8):
  Xp prog 82 #[Xi (pgc l).toArray,I6 (i:Int),I6 (n:Int)] w fun e w'=>∃v,e=Xl v/\zb byE w.heap.size w' v ((l.drop i).take n)/\zc w w':=by
 have x:Xo (l.length=8):=A;obtain⟨q,a⟩:=kB (w.alloc (Xk (pgc l).toArray 91));have D:=gA a
 have H:=xA a
 have g:=sA a
 have p:Xo (_=q):=a;have M:decide ((n:Int)<0)=Xd:=decide_eq_false Wm
 have s:decide ((8:Int)-(i:Int)<(n:Int))=Xd:=decide_eq_false Wm
 have t:decide ((i:Int)<0)=Xd:=decide_eq_false Wm
 clear a A
 go_enter func82,ntmps82
 go_upto_region 3 with fail;rw[p.out];clear M s t
 go_wp2_with(refine qr byE rfl (.tmp 20) rfl n rfl (by show n*1<=_;omega) ?_)
 intro C own;obtain⟨h,c⟩:=kB (q.alloc (Xk C byE.ty));have r:zc q h:=by rw[<-c];exact za _ _
 have G:Xo (zb byE (w.heap.size+1) h (O (Xa ⟨w.heap.size+1,0,Xb⟩) n n) (Xr n 0)):=dD<|by
  rw[c,g.out]at own;exact own
 have K:=dD (H.aA r);have F:=dD (D.trans r);rw[c,g.out];clear c own r;have P:=zf3 w.heap.size i u h;have f:Xo (((l.drop i).take n).length=n):=show _=_ by rw[Xt,Xu,x.out];omega
 have m:Xo (q8 h ⟨w.heap.size,i,Xb⟩ (((l.drop i).take n).flatMap byE.enc)):=dD<|fun B R d=>by
  have N:((l.drop i).take n).flatMap byE.enc=pgc ((l.drop i).take n):=by
   unfold pgc;rw[List.flatMap_def]
   induction((l.drop i).take n)with
   |nil=>rfl
   |cons T U Q=>simp only[mP,Oa,Q];rfl
  rw[N]at d;have L:(pgc l)[i+B]?=Xa R:=by
   unfold pgc at d⊢;rw[Ye]at d⊢;rw[Yz]at d
   split at d
   ·rw[List.getElem?_drop]at d;exact d
   cases d
  have:=K.c (i+B) L;rw[Xx];exact this
 go_wp2_with(refine qk (E:=byE) rfl (.tmp 22) (.tmp 24) rfl (w.heap.size+1) _ (Xr n 0) G (w.heap.size+1) rfl 0 n n ⟨w.heap.size+1,0,Xb⟩ rfl rfl ⟨w.heap.size,i,Xb⟩ (8-i) (8-i) rfl ((l.drop i).take n) ?qm m.out ?qf ?_)
 case qm=>
  rw[f.out]
  show n=min (8-i) n
  omega
 case qf=>
  rw[f.out,lR];omega
 intro y b z _;have k:Xo (zb byE w.heap.size y (O (Xa ⟨w.heap.size+1,0,Xb⟩) n n) ((l.drop i).take n)):=dD<|by
  rw[x.out,show n-min n (8-i)=0 by omega,Yw,Yd]at b
  exact b.base (Nat.le_succ _)
 have j:Xo (zc w y):=dD<|zd F z Wm
 clear b z;go_wp2;refine bodyPost_ret (results_tmp rfl _ _ _) rfl ⟨O (Xa ⟨w.heap.size+1,0,Xb⟩) n n,rfl,k,j⟩
theorem zki{α b:Type}(f:α->b)(L:List α)(a:Nat)(cs:List α):(splice L a cs).map f=splice (L.map f) a (cs.map f):=by
 simp[splice,List.map_take,List.map_drop]
theorem zeQ(w:Xn)(cur cs:Array Xq)(t:TypeId)(o:Obj):((w.alloc (Xk cur t)).alloc o).setRow w.heap.size cs=(w.alloc (Xk cs t)).alloc o:=by
 unfold World.setRow World.alloc
 congr 1
 apply Array.ext
 ·simp
 intro i b d;simp only[Array.getElem_modify,Array.getElem_push,Array.size_push];simp only[Array.size_modify,Array.size_push]at b
 by_cases a:i=w.heap.size
 ·subst a;simp
 by_cases c:i<w.heap.size
 ·simp[c,Ne.symm a]
 have:i=w.heap.size+1:=Wm
 subst this;simp
theorem zcH{P:Program}{w:Xn}{rest:List Oper}{a:Act}(j:o.guard=Xb)(d s:Operand)(r z:TypeId)
  (F:o.op=.call {callee:=.builtin .copy,args:=#[d,s],argTypes:=#[r,z]})(c:TypeId)(H:P.underlying r=Xa (.slice c))(n:(P.info? c).map (·.size)=Xa 1)
  (x A:Option Addr)(b f e g:Nat)(D:a.eval d=O x b f)(G:a.eval s=O A e g)
  (h:Nat)(cur:List Xq)(t:TypeId)(K:Obj)(cs:List Xq)(E:cs.length=Nat.min e b)
  (k:0<cs.length->x=Xa ⟨w.heap.size,h,Xb⟩/\∃q,A=Xa q/\∀u v,cs[u]?=Xa v->w.cell? (q.add u)=Xa v)
  (i:h+cs.length<=cur.length)(M:∀v∈cs,v.oneCell'=Xc)(p:List Xq)(l:splice cur h cs=p)
  (B:wpList P ops Q rest (a.put o.dst (goInt cs.length)) ((w.alloc (Xk p.toArray t)).alloc K)):
  wpList P ops Q (o::rest) a ((w.alloc (Xk cur.toArray t)).alloc K):=by
 subst l
 by_cases L:cs.length=0
 ·obtain rfl:cs=[]:=eN L;refine wpList_copy_nothing j d s r z F c H n x A b f e g D G (Si E.symm) ?_
  simpa[splice]using B
 obtain⟨rfl,q,rfl,m⟩:=k Wm
 refine wpList_copy_own j d s r z F c H n w.heap.size h b f q e g D G cur.toArray t ?_ cs E (fun u v N=>?_) (Si i) M ?_
 ·rw[Below.heap_alloc _ _ _ Sm]
  show(w.heap.push _)[w.heap.size]?=_
  simp
 ·have C:=m u v N;have y:=World.block_lt_of_cell? _ _ C;rw[World.cell?_alloc_lt _ _ _ (by simp;omega),World.cell?_alloc_lt _ _ _ y]
  exact C
 rw[zeQ]
 simpa[splice]using B
theorem QQ(b0 b1 b2 b3 b4 b5 b6 b7 c0 c1 c2 c3 c4 c5 c6 c7:Int)(i:Nat)(ns:List Int)(a:Option Addr)(cap:Nat)(w:Xn)(hi:i<8)(hl:i+ns.length<=8)(hv:zj byE w (O a ns.length cap) ns)
  (hc:splice [b0,b1,b2,b3,b4,b5,b6,b7] i ns=[c0,c1,c2,c3,c4,c5,c6,c7]):
  Xp Tryz.prog 83 #[Xi #[Xe Xg b0,Xe Xg b1,Xe Xg b2,Xe Xg b3,Xe Xg b4,Xe Xg b5,Xe Xg b6,Xe Xg b7],Xe Xf (i:Int),O a ns.length cap] w fun e w'=>
   e=Xl (Xi #[Xe Xg c0,Xe Xg c1,Xe Xg c2,Xe Xg c3,Xe Xg c4,Xe Xg c5,Xe Xg c6,Xe Xg c7])/\zc w w':=by
 have HH:Xo (zhW i=Xc):=show _=_ by unfold zhW;simp;omega
 have hcv:splice ([b0,b1,b2,b3,b4,b5,b6,b7].map (Value.int .u8)) i (ns.map (Value.int .u8))=[Xe Xg c0,Xe Xg c1,Xe Xg c2,Xe Xg c3,Xe Xg c4,Xe Xg c5,Xe Xg c6,Xe Xg c7]:=by
  rw[<-zki,hc];rfl
 have HC:Xo (splice ([b0,b1,b2,b3,b4,b5,b6,b7].map (Value.int .u8)) i (ns.map (Value.int .u8))=[Xe Xg c0,Xe Xg c1,Xe Xg c2,Xe Xg c3,Xe Xg c4,Xe Xg c5,Xe Xg c6,Xe Xg c7]):=hcv;have HP:Xo (0<(ns.map (Value.int .u8)).length->∃ad,a=Xa ad/\∀j v,(ns.map (Value.int .u8))[j]?=Xa v->w.cell? (ad.add j)=Xa v):=show _->_ from fun hpos=>by
  rw[List.length_map]at hpos;obtain⟨ad,h1,_⟩:=hv.aZ 0 _ (gE hpos);refine⟨ad,h1,fun j u hj=>?_⟩
  rw[Ye]at hj
  cases hn:ns[j]? with
  |none=>rw[hn]at hj;cases hj
  |some z=>
   rw[hn]at hj;cases hj;obtain⟨ad',h2,h3⟩:=hv.aZ j z hn;rw[h1]at h2;cases h2;have:=h3 w (zc.refl _) 0 _ rfl;rw[show byE.k=1 from rfl,Nat.mul_one]at this
   simpa[Addr.add]using this
 have hsl:=fun W=>zf3 w.heap.size i hi W
 clear hcv hc hv
 go_enter Tryz.func83,Tryz.ntmps83
 go_wp2_with(first
  |(go_at_call 141;refine(zl5 _ _).mono ?_;rintro e w'⟨rfl,rfl⟩;rw[HH.out])
  |(refine zcH (w:=w) rfl (.tmp 12) (.tmp 13) 23 23 rfl 5 Tryz.underlying23 (by kernel_rfl) _ _ _ _ _ _ rfl rfl i ([b0,b1,b2,b3,b4,b5,b6,b7].map (Value.int .u8)) 91 _ (ns.map (Value.int .u8)) (by simp;show _=min _ _;omega) (fun hp=>⟨rfl,HP.out hp⟩) (by simp;omega) (ints_oneCell _ _) _ HC.out ?_))
 exact bodyPost_ret (v:=Xi #[Xe Xg c0,Xe Xg c1,Xe Xg c2,Xe Xg c3,Xe Xg c4,Xe Xg c5,Xe Xg c6,Xe Xg c7]) (by simp[results,Tryz.results83,go_sem]) rfl ⟨rfl,(show Below _ _ _ from((bR _ _).alloc (nR _) _).alloc (by simp) _)⟩
theorem Qf{P:Program}{f:Region.Mode}{S:Xn->Prop}(i:Nat){g:Oper}(d:Option Tmp)(v:Xq){e:Nat}{b:Array Bool}{a:Act}{w:Xn}(hi:ops[i]?=Xa g)(k:g.dst=d)
  (n:Og ops=Xc)(l:Region.free f ops b i=Xc)(m:(Region.ready f ops b).contains i=Xc)
  (j:∀c a w,Q (.panic c) (a.put d v) w->Q (.panic c) a w)(p:YieldsIf P ops S g v a)(hS:S w)
  (h:wpAnyH P f ops Q S e (b.setIfInBounds i Xc) (a.put d v) w):wpAnyH P f ops Q S (e+1) b a w:=by
 subst k;exact wpAnyH_take hi n l m j p hS h
theorem zK{P:Program}{ops:Array Oper}{Q:Exit->Act->Xn->Prop}{f:Region.Mode}{S:Xn->Prop}(i:Nat){g:Oper}(d:Option Tmp)(v:Xq){e:Nat}{b:Array Bool}{a:Act}{w:Xn}(hS:S w)(h:wpAnyH P f ops Q S e (b.setIfInBounds i Xc) (a.put d v) w)(hi:ops[i]?=Xa g:=by exact rfl)(k:g.dst=d:=by exact rfl)(n:Og ops=Xc:=by kernel_rfl)(l:Region.free f ops b i=Xc:=by kernel_rfl)(m:(Region.ready f ops b).contains i=Xc:=by kernel_rfl)(j:∀c a w,Q (.panic c) (a.put d v) w->Q (.panic c) a w:=by exact fun _ _ _ h=>h)(p:YieldsIf P ops S g v a:=by exact .inl ⟨rfl,fun _ _=>rfl⟩):wpAnyH P f ops Q S (e+1) b a w:=Qf i d v hi k n l m j p hS h
variable{X:Nat->Prop}
structure Cl where
 kind:Int
 aC:Int
 pt:Int
 n:Int
 file:Int
 base:Int
 rd:Bool
 wr:Bool
 sh:Bool
 dv:Sli
def clL(c:Cl):List Xq:=[Xe Xf c.kind,Xe Xf c.aC,Xe Xf c.pt,Xe Xf c.n,Xe Xf c.file,Xe Xf c.base,Xh c.rd,Xh c.wr,Xh c.sh,O c.dv.a c.dv.n c.dv.c]
theorem ChW.rebase{u:Xn}{p:Nat}(h:ChW w1 X p u V m)(f:zc w0 u)(b:w0.heap.size<=w1.heap.size):ChW w0 X p u V m:=by
 obtain⟨q,k,l,n⟩:=h.sp;have c:∀{W:Xn},zk (Dr w0.heap.size X p V) u W->zk (Dr w1.heap.size X p V) u W:=fun a=>a.wide fun r g=>g.elim (fun e=>.inl (e.imp (fun e=>Xs e b) id)) .inr
 exact⟨⟨f,h.grx.2⟩,nT b h.lo,h.box,h.fs.base b,h.ca.base b,⟨q,k.base b,l,fun j x s i d W a=>n j x s i d W (c a)⟩,fun W a=>h.rest W (c a)⟩
theorem jz{w:Xn}{a:Act}(b:o.op=.alloc 45):(execOp a.eval o).run prog w=.ok (.value (Xj (Xa ⟨w.heap.size,0,Xb⟩))) (w.alloc (Xk zR.toArray 45)):=by
 simp only[execOp,b,zR]
 go_simp
theorem jG{a:Act}{w:Xn}(c:TypeId)(x:Operand)(g:o.op=.load c x)(b:Addr)(i:a.eval x=Xj (Xa b))(v:Xq)(e:w.cell? b=Xa v){d:TypeDesc}(h:Tryz.prog.underlying c=Xa d)(f:d.isRow=Xd):(execOp a.eval o).run prog w=.ok (.value v) w:=zbu c x g b i v e h f
def Qk(er n:Int)(s:Sli):Xq:=Xi #[Xe Xf er,Xe Xf n,O s.a s.n s.c]
def noS:Sli:=⟨Xb,0,0⟩
theorem zk.beyond{D:Nat->Prop}{w:Xn}(o:zk D w w1)(c:w1.grownBy w2 (Xa g))(f:w.heap.size<=g):zk D w w2:=by
 have a:=zk.grown (D:=fun k=>k=g) c rfl
 refine⟨a.os.trans o.os,a.tape.trans o.tape,a.output.trans o.output,nT o.size a.size,fun i b d=>?_⟩
 rw[a.block i (Xs b o.size) (fun e=>by have e:i=g:=e;omega)]
 exact o.block i b d
def jX(K:Int->Int->List Int->Ma->Prop)(w0:Xn)(p:Nat)(w:Xn)(e:Ending)(w':Xn):Prop:=
 ∃(er n:Int)(s:Sli)(l:List Int)(V':MaV)(m':Ma),e=Xl (Qk er n s)/\K er n l m'/\zk (fun k=>k=p) w w'/\zc w0 w'/\(∀W,zk (fun k=>k<w.heap.size) w' W->zj byE W (O s.a s.n s.c) l)/\(er=0->zg w' p 88 (chL V' m')/\∀W,zk (fun k=>k<w.heap.size) w' W->zq W V' m')
theorem jX.err{K:Int->Int->List Int->Ma->Prop}{w0 w w':Xn}{p:Nat}{V:MaV}{m:Ma}{er:Int}(he:er≠0)(hk:K er 0 [] m)(o:zk (fun k=>k=p) w w')(g:zc w0 w'):jX K w0 p w (Xl (Qk er 0 noS)) w':=
 ⟨er,0,noS,[],V,m,rfl,hk,o,g,fun _ _=>zj.nil _ _,fun h=>absurd h he⟩
theorem jX.ok{K:Int->Int->List Int->Ma->Prop}{w:Xn}{p:Nat}{V':MaV}{n:Int}(a:K 0 n [] m')(o:zk (fun k=>k=p) w w')(g:zc w0 w')(b:zg w' p 88 (chL V' m'))(h:∀W,zk (fun k=>k<w.heap.size) w' W->zq W V' m'):jX K w0 p w (Xl (Qk 0 n noS)) w':=
 ⟨0,n,noS,[],V',m',rfl,a,o,g,fun _ _=>zj.nil _ _,fun _=>⟨b,h⟩⟩
theorem jO(a:Int)(w:Xn):Xp prog 21 #[I6 a] w fun e w'=>e=Xl (Qk a 0 noS)/\zc w w':=by
 unfold Qk noS
 go_enter func21,ntmps21
 go_wp2;refine bodyPost_ret (zB rfl _ rfl (Box.aD _ [I6 a,I6 0,eS] _ rfl) underlying54 rfl Kr) rfl ⟨rfl,(show Below _ _ _ from(bR _ _).alloc (nR _) _)⟩
theorem ZP(n m:Int)(w:Xn):Xp prog 74 #[I6 n,I6 m] w fun e w'=>e=Xl (Xh (decide (0<=n)&&decide (n<m)))/\w'=w:=by
 by_cases h:0<=n
 ·have a:decide (0<=n)=Xc:=decide_eq_true h;rw[a,Bool.true_and]
  go_enter func74,ntmps74
  go_wp2;go_ret;exact⟨rfl,rfl⟩
 have a:decide (0<=n)=Xd:=decide_eq_false h;rw[a,Bool.false_and]
 go_enter func74,ntmps74
 go_wp2;go_ret;exact⟨rfl,rfl⟩
theorem zbl{w:Xn}{p:Nat}{V':MaV}(z:zg w p 88 (chL V m))(D:w0.heap.size<=p)(C:zc w0 w)(n:Int):Xp prog 85 #[Xj (Xa ⟨p,0,Xb⟩),Xi (mL V' m').toArray,I6 n,I6 0] w fun e w'=>e=Xl (Qk 0 n noS)/\zg w' p 88 (chL V' m')/\zk (fun k=>k=p) w w'/\zc w0 w':=by
 have f:Xo (w0.heap.size<=p):=D;have s:Xo (zc w0 w):=C;obtain⟨b,d⟩:=kA w.heap.size;obtain⟨h,a⟩:=kB ((w.alloc (Xk (chL V' m').toArray 45)).alloc (Xk #[I6 0,I6 0,eS] 54));have r:=gD2 a
 have A1:Xo (zg h (b+1) 54 [I6 0,I6 0,eS]):=dD<|by rw[<-a];exact zg.aD _ [I6 0,I6 0,eS] _ (by have:=d.out;simp;omega)
 have K:Xo (zg h b 45 (chL V' m')):=dD<|by rw[<-a];exact(zg.aD w (chL V' m') _ d.symm).aA (za _ _)
 have N:Xo (zg h p 88 (chL V m)):=z.aA r.out;have c:Xo (p<b):=show _<_ by have:=z.box.lt;have:=d.out;omega
 have g:Xo (_=h):=a;have y:Xo (∀E∈chL V' m',E.oneCell'=Xc):=show∀E∈chL V' m',_ by simp[chL,Value.oneCell']
 have t:Xo ((chL V' m').length=(chL V m).length):=dD<|rfl
 have u:Xo ((Tryz.prog.info? 45).map (·.size)=Xa (chL V m).length):=dD<|Kr
 have v:Xo ((Tryz.prog.info? 45).map (·.size)=Xa (chL V' m').length):=dD<|Kr
 clear a z D C;unfold chL at g
 go_enter func85,ntmps85
 go_upto_region 1 with fail;rw[g.out,d.out]
 go_upto_region 4 with(first|refine zm rfl 45 (.tmp 5) rfl b rfl K.box underlying45 rfl v.out ?_|refine zh rfl 45 (.tmp 16) (.tmp 14) rfl p rfl (chL V' m') rfl N t u y.out ?_)
 intro i A l R;clear R;have P:Xo (zg i p 88 (chL V' m')):=A;have L:Xo (zk (fun k=>k=p) w i):=show zk _ _ _ from(zk.aA r).trans (zk.grown l rfl)
 have G:Xo (zc w0 i):=dD<|zd (s.trans r) l f.out
 have A2:Xo (zg i (b+1) 54 [I6 0,I6 0,eS]):=dD<|A1.beside l (fun k e=>by cases e;have:=c.out;omega)
 have x:Xo (w0.heap.size<=b):=dD<|by have:=c.out;have:=f.out;omega
 clear A l
 go_wp2_with(refine zh rfl 54 (.tmp 8) (.tmp 18) rfl (b+1) rfl [I6 0,I6 n,eS] rfl A2 rfl Kr (by simp[Value.oneCell']) ?_)
 intro j B q _;have H:Xo (zc w0 j):=dD<|zd G q (Hm x.out)
 have F:Xo (zg j (b+1) 54 [I6 0,I6 n,eS]):=B;have Q:Xo (zg j p 88 (chL V' m')):=show zg _ _ _ _ from P.beside q (fun k e=>by cases e;have:=c.out;omega)
 have M:Xo (zk (fun k=>k=p) w j):=dD<|L.beyond q (Hm d.out)
 clear B q;go_wp2;refine bodyPost_ret (zB rfl _ rfl F.box underlying54 rfl Kr) rfl ⟨rfl,Q,M,H⟩
variable{X:Nat->Prop}
theorem zec{w:Xn}(a:zc w w')(d:w0.heap.size<=w1.heap.size):∀W,zk (fun k=>k<w0.heap.size) w' W->zk (fun k=>k<w1.heap.size) w W:=fun _ b=>(zk.aA a).trans (b.wide fun _ c=>Xs c d)
theorem zed{w:Xn}(a:w.grownBy w' (Xa g))(c:g<w1.heap.size)(e:w0.heap.size<=w1.heap.size):∀W,zk (fun k=>k<w0.heap.size) w' W->zk (fun k=>k<w1.heap.size) w W:=fun _ b=>(zk.grown (D:=fun k=>k<w1.heap.size) a c).trans (b.wide fun _ d=>Xs d e)
def zlf(w0:Xn)(m:Ma)(BF:Nat->Nat->Ar->Pg->Bool->Bool×Nat×Ma)(c:Cl)(wr:Bool)(cs:List Xq)(k er:Int)(w:Xn):Prop:=
 (er≠0/\jm m BF c.aC (c.pt/8) wr er)\/(er=0/\∃(V':MaV)(kk pc:Nat)(m':Ma),cs=chL V' m'/\k=(kk:Int)/\zco m BF c.aC (c.pt/8) wr kk m'/\ChW w0 noX pc w V' m')
theorem zlf.lower{w:Xn}{BF:Nat->Nat->Ar->Pg->Bool->Bool×Nat×Ma}{c:Cl}{wr:Bool}{cs:List Xq}{k a:Int}(h:zlf w1 m BF c wr cs k a w)(d:w.grownBy w' (Xa g))(p:g<w1.heap.size)(e:zc w0 w')(q:w0.heap.size<=w1.heap.size):zlf w0 m BF c wr cs k a w':=by
 rcases h with h|⟨f,b,r,t,s,i,j,l,n⟩
 ·exact .inl h
 exact .inr ⟨f,b,r,t,s,i,j,l,n.lower d p e q⟩
theorem zlf.newer{w:Xn}{BF:Nat->Nat->Ar->Pg->Bool->Bool×Nat×Ma}{c:Cl}{wr:Bool}{cs:List Xq}{k a:Int}(h:zlf w1 m BF c wr cs k a w)(d:zc w w')(e:zc w0 w')(n:w0.heap.size<=w1.heap.size):zlf w0 m BF c wr cs k a w':=by
 rcases h with h|⟨f,b,p,r,q,g,i,j,l⟩
 ·exact .inl h
 exact .inr ⟨f,b,p,r,q,g,i,j,(l.aA d).rebase e n⟩
theorem zb.bJ{α:Type}{E:Elt α}{base n c:Nat}{w:Xn}{l:List α}(h:zb E base w (O (Xa ⟨g,0,Xb⟩) n c) l){i:Nat}{x:α}(b:l[i]?=Xa x):w.rangeAt g (i*E.k) (E.enc x):=fun j v a=>by
 have:=h.one b j v a;rw[jh,Xx,zA]at this;exact this
theorem znW(h:0<=z)(o:Oper)(a:Act)(x:Operand)(w:Xn)(c:o.op=.binOp .quo 3 x (.const (I6 8)) 3)(d:a.eval x=I6 z)(e:z<=9223372036854775807):(execOp a.eval o).run prog w=.ok (.value (I6 (z/8))) w:=by
 have b:a.eval (.const (I6 8))=I6 8:=rfl;simp only[execOp,c,d,b]
 go_simp
 rw[Int.tdiv_eq_ediv_of_nonneg h];rw[IntKind.wrap_i64];omega
structure zfL(B:Nat)(w:Xn)(V:MaV)(m:Ma):Prop where
 fs:zb z9 B w (O V.f.a V.f.n V.f.c) m.fs
 ca:zb jR B w (O V.ca.a V.ca.n V.ca.c) m.ca
 sp:∃xs:List SpV,zb Q4 B w (O V.sp.a V.sp.n V.sp.c) xs/\xs.length=m.sp.length/\∀(i:Nat)x s,xs[i]?=Xa x->m.sp[i]?=Xa s->∀W,zk (fun k=>k<B\/oB V.f k\/oB V.ca k\/oB V.sp k) w W->j3 W x s
 rest:∀W,zk (fun k=>k<B\/oB V.f k\/oB V.ca k\/oB V.sp k) w W->ziQ W V m
theorem ChW.ownB{u:Xn}{p:Nat}(h:ChW w1 noX p u V m):zfL w1.heap.size u V m:=by
 obtain⟨n,g,j,l⟩:=h.sp;have b:∀{W:Xn},zk (fun k=>k<w1.heap.size\/oB V.f k\/oB V.ca k\/oB V.sp k) u W->zk (Dr w1.heap.size noX p V) u W:=fun a=>a.wide fun k c=>c.elim (fun e=>.inl (.inl e)) fun e=>.inr (.inr e)
 exact⟨h.fs,h.ca,⟨n,g,j,fun i x s f d W a=>l i x s f d W (b a)⟩,fun W a=>h.rest W (b a)⟩
theorem zfL.out{u:Xn}(h:zfL B u V m)(o:zk (fun k=>k<B) u u1):zfL B u1 V m:=by
 obtain⟨y,r,t,w⟩:=h.sp;have c:∀{W:Xn},zk (fun k=>k<B\/oB V.f k\/oB V.ca k\/oB V.sp k) u1 W->zk (fun k=>k<B\/oB V.f k\/oB V.ca k\/oB V.sp k) u W:=fun b=>(o.wide fun k j=>.inl j).trans b
 have a:∀{f:Type}{E:Elt f}{v:Xq}{l:List f},zb E B u v l->zb E B u1 v l:=fun d=>⟨ji d.1 o (fun g i e=>by have:=(d.lt g i).1;have e:g<B:=e;omega),d.2⟩
 exact⟨a h.fs,a h.ca,⟨y,a r,t,fun q x s p n W b=>w q x s p n W (c b)⟩,fun W b=>h.rest W (c b)⟩
theorem zfL.aA{u:Xn}(h:zfL B u V m)(g:zc u u1):zfL B u1 V m:=h.out (zk.aA g)
theorem zfL.at{u:Xn}(h:zfL B u V m):zq u V m:=by
 have r:=h.rest u (zk.refl _ _);obtain⟨f,c,d,e⟩:=h.sp;exact⟨h.fs.at,r.sl,r.sb,r.sq,r.db,r.dq,r.fl,h.ca.at,⟨f,c.at,d,fun i x s b a=>e i x s b a u (zk.refl _ _)⟩⟩
theorem zfL.frame{u:Xn}(h:zfL B u V m){fs:List Fr}(c:oB V.f g)(a:u.grownBy u1 (Xa g))(p:zb z9 B u1 (V.f.x) fs):zfL B u1 V {m with fs:=fs}:=by
 obtain⟨v,i,q,t⟩:=h.sp;have f:zk (fun k=>k<B\/oB V.f k\/oB V.ca k\/oB V.sp k) u u1:=zk.grown a (.inr (.inl c))
 refine⟨p,h.ca.grown a (fun k d e=>?_),⟨v,i.grown a (fun k d e=>?_),q,fun n x s l j W b=>t n x s l j W (f.trans b)⟩,fun W b=>?_⟩
 ·cases e;exact h.fs.apart h.ca Dc g c d
 ·cases e;exact h.fs.apart i Dc g c d
 have r:=h.rest W (f.trans b);exact⟨r.sl,r.sb,r.sq,r.db,r.dq,r.fl⟩
def zqA(m:Ma)(BF:Nat->Nat->Ar->Pg->Bool->Bool×Nat×Ma)(c:Cl)(n:Int)(wr:Bool)(er:Int):Prop:=
 (qz c.pt n=Xd/\er=2)\/(qz c.pt n=Xc/\jm m BF c.aC (c.pt/8) wr er)\/
 (qz c.pt n=Xc/\er=9/\∃(kk:Nat)(m':Ma)(fr:Fr)(j:Nat)(fl:Fl),zco m BF c.aC (c.pt/8) wr kk m'/\m'.fs[kk]?=Xa fr/\fr.f=(j:Int)/\m'.fl[j]?=Xa fl/\fl.size<fr.x*8+c.pt%8+n)
def znw(m:Ma)(BF:Nat->Nat->Ar->Pg->Bool->Bool×Nat×Ma)(c:Cl)(n:Int)(wr:Bool)(kk:Nat)(m':Ma)(fr:Fr):Prop:=
 qz c.pt n=Xc/\zco m BF c.aC (c.pt/8) wr kk m'/\m'.fs[kk]?=Xa fr/\(fr.f=-1\/∃(j:Nat)(fl:Fl),fr.f=(j:Int)/\m'.fl[j]?=Xa fl/\fr.x*8+c.pt%8+n<=fl.size)
theorem zqA.ne{BF:Nat->Nat->Ar->Pg->Bool->Bool×Nat×Ma}{c:Cl}{n:Int}{wr:Bool}{a:Int}(h:zqA m BF c n wr a):a≠0:=by
 rcases h with⟨_,rfl⟩|⟨_,h,_⟩|⟨_,rfl,_⟩
 ·decide
 ·exact h
 decide
def zrK(m:Ma)(BF:Nat->Nat->Ar->Pg->Bool->Bool×Nat×Ma)(c:Cl)(n:Int)(wr:Bool)(w0:Xn)(p:Nat)(w:Xn)(k er:Int)(w':Xn):Prop:=
 zk (fun k=>k=p) w w'/\zc w0 w'/\(zqA m BF c n wr er\/(er=0/\∃(kk:Nat)(m':Ma)(fr:Fr)(V':MaV)(B:Nat),k=(kk:Int)/\znw m BF c n wr kk m' fr/\zg w' p 88 (chL V' m')/\w.heap.size<=B/\zfL B w' V' m'))
theorem zjh{w:Xn}{p:Nat}(r:ChW w0 noX p w V m)(c:Cl)(n:Int)(wr:Bool)(BF:Nat->Nat->Ar->Pg->Bool->Bool×Nat×Ma)(au:-9223372036854775808<=c.pt)(P:c.pt<=9223372036854775807)(av:-9223372036854775808<=n)(a3:n<=9223372036854775807)
  (d2:∀W,zc w W->Xp prog 140 #[Xi (mL V m).toArray,I6 c.aC,I6 (c.pt/8),Xh wr] W fun e w'=>((∃a:Int,e=Xl (Xm #[Xi zR.toArray,I6 0,I6 a])/\jm m BF c.aC (c.pt/8) wr a)\/(∃(V':MaV)(k ab:Nat)(m':Ma),e=Xl (Xm #[Xi (mL V' m').toArray,I6 (k:Int),I6 0])/\zco m BF c.aC (c.pt/8) wr k m'/\ChW W noX ab w' V' m'))/\zc W w')
  (cz:∀(B:Nat)(m':Ma),zco m BF c.aC (c.pt/8) wr B m'->∃fr:Fr,m'.fs[B]?=Xa fr/\(fr.f=-1\/∃(j:Nat)(fl:Fl),fr.f=(j:Int)/\m'.fl[j]?=Xa fl)/\0<=fr.x/\fr.x<1000):
  Xp prog 81 #[Xj (Xa ⟨p,0,Xb⟩),Xi #[I6 c.kind,I6 c.aC,I6 c.pt,I6 c.n,I6 c.file,I6 c.base,Xh c.rd,Xh c.wr,Xh c.sh,c.dv.x],I6 n,Xh wr] w fun e w'=>∃k a:Int,e=Xl (Xm #[I6 k,I6 a])/\zrK m BF c n wr w0 p w k a w':=by
 have bd:Xo (ChW w0 noX p w V m):=r;have am:=show Xo _ from d2
 have ak:Xo (p<w.heap.size):=r.aM p (.inl rfl);have bb:=fun W=>zgh c.pt n W au P av a3
 have ah:Xo (c.pt<=9223372036854775807/\n<=9223372036854775807):=dD<|⟨P,a3⟩
 have bm:=show Xo _ from cz
 clear r d2 cz au P av a3;obtain⟨aq,bi⟩:=kA w.heap.size;obtain⟨d,M⟩:=kB (w.alloc (Xk #[I6 c.kind,I6 c.aC,I6 c.pt,I6 c.n,I6 c.file,I6 c.base,Xh c.rd,Xh c.wr,Xh c.sh,c.dv.x] 25));have R:=gA M
 have be:=xPT M bi
 have bv:Xo (_=d):=M;clear M;have cp:=dD (bd.aA R);have al:Xo (∀W,zc d W->_):=show∀W,_ from fun W A=>am.out W (R.trans A)
 go_enter func81,ntmps81
 go_upto_region 1 with fail;rw[bv.out,bi.out];have d4:=be.box.c 2 rfl;have a8:=bb d;clear bb;obtain⟨da,y⟩:=kA (qz c.pt n);rw[y.out]at a8;go_wp2_with fail;refine a8.mono ?_;rintro bh w'⟨rfl,ba⟩;rw[ba];clear ba w' a8 d4
 cases da with
 |false=>
  go_wp2
  go_ret2
  exact⟨0,2,rfl,zk.aA R,bd.gr.trans R,.inl (.inl ⟨y,rfl⟩)⟩
 |true=>
  have an:Xo (0<=c.pt/\0<=n/\n<=8-c.pt%8):=dD<|of_decide_eq_true y.out
  have bo:Xo (∀(o:Oper)(ap:Act)(x:Operand)(w:Xn),o.op=.binOp .quo 3 x (.const (I6 8)) 3->ap.eval x=I6 c.pt->(execOp ap.eval o).run prog w=.ok (.value (I6 (c.pt/8))) w):=show∀(o:Oper)(ap:Act)(x:Operand)(w:Xn),_ from fun o ap x w df dg=>znW an.1 o ap x w df dg ah.1
  go_upto_region 3 with fail
  go_cut[10,11,12] (fun cg ch ci ck=>∃(g:Nat)(k a:Int)(b:List Xq),cg=Xj (Xa ⟨g,0,Xb⟩)/\ch=I6 k/\ci=I6 a/\Xo (zg ck g 45 b)/\Xo (zc d ck)/\Xo (d.heap.size<=g)/\Xo (zlf d m BF c wr b k a ck)/\Xo (b.length=11/\∀x∈b,x.oneCell'=Xc))
  case first=>
   refine wp_region_held (S:=fun W=>zc d W) zU ?_
   show wpAnyH _ _ _ _ _ 19 (Yi 19 Xd) _ d.drew
   have l:zc d d.drew:=(gW _)
   refine zK 0 (Xa 22) (Xj (Xa ⟨p,0,Xb⟩)) l ?_
   refine Uq ?_;refine zK 1 (Xa 23) (Xj (Xa ⟨p,0,Xb⟩)) l ?_
   refine Uq ?_;refine zK 2 (Xa 24) (Xj (Xa ⟨p,0,Xb⟩)) l ?_
   refine Uq ?_;refine Qf 3 (Xa 25) (Xi (chL V m).toArray) rfl rfl Kr Kr Kr (fun _ _ _ r=>r) (yieldsIf_load_mid rfl 45 (.tmp 24) rfl p 0 rfl (chL V m) _ (fun W A=>(cp.box.box.aA A).range) underlying45 rfl Kr) l ?_
   refine Uq ?_;refine zK 4 (Xa 26) (Xj (Xa ⟨aq,1,Xb⟩)) l ?_
   refine Uq ?_;refine Qf 5 (Xa 27) (I6 c.aC) rfl rfl Kr Kr Kr (fun _ _ _ r=>r) (.inl ⟨rfl,fun W A=>jG _ (.tmp 26) rfl ⟨aq,1,Xb⟩ rfl (I6 c.aC) ((be.box.aA A).c 1 rfl) underlying3 rfl⟩) l ?_
   refine Uq ?_;refine zK 6 (Xa 28) (Xj (Xa ⟨aq,2,Xb⟩)) l ?_
   refine Uq ?_;refine Qf 7 (Xa 29) (I6 c.pt) rfl rfl Kr Kr Kr (fun _ _ _ r=>r) (.inl ⟨rfl,fun W A=>jG _ (.tmp 28) rfl ⟨aq,2,Xb⟩ rfl (I6 c.pt) ((be.box.aA A).c 2 rfl) underlying3 rfl⟩) l ?_
   refine Uq ?_;refine Qf 8 (Xa 30) (I6 (c.pt/8)) rfl rfl Kr Kr Kr (fun _ _ _ r=>r) (.inl ⟨rfl,fun W _=>bo.out _ _ _ W rfl rfl⟩) l ?_
   refine Uq ?_;refine zK 9 (Xa 31) (Xh wr) l ?_
   refine Uq ?_;refine wpAnyH_all (rs:=[10,15]) Kr Sm ?_
   intro j t;simp only[mC,nM,or_false]at t
   rcases t with rfl|rfl
   ·skip
    refine zO (Xa 32) (fun v w'=>(∃(b:List Xq)(k a:Int),v=Xm #[Xi b.toArray,I6 k,I6 a]/\b.length=11/\(∀x∈b,x.oneCell'=Xc)/\zlf d.drew m BF c wr b k a w')/\zc d.drew w') rfl rfl rfl (zI.call [Xi (mL V m).toArray,I6 c.aC,I6 (c.pt/8),Xh wr] rfl func140 rfl rfl rfl ((al _ l).mono ?_)) ?_
    ·rintro e w'⟨r,F⟩
     rcases r with⟨a,rfl,Z⟩|⟨V',k,ab,m',rfl,a6,cb⟩
     ·exact⟨_,rfl,⟨zR,0,a,rfl,rfl,by unfold zR;simp[Value.oneCell'],.inl ⟨Z.1,Z⟩⟩,F⟩
     exact⟨_,rfl,⟨chL V' m',(k:Int),0,rfl,rfl,by simp[chL,Value.oneCell'],.inr ⟨rfl,V',k,ab,m',rfl,rfl,a6,cb⟩⟩,F⟩
    rintro v a1⟨⟨b,k,a,rfl,hlen,i,a7⟩,bg⟩;have q:zc d a1:=l.trans bg;refine⟨q,?_⟩;refine Uq ?_;refine zK 11 (Xa 21) (Xm #[Xi b.toArray,I6 k,I6 a]) q ?_
    refine Uq ?_;refine zK 12 (Xa 33) (Xi b.toArray) q ?_
    refine Uq ?_;refine zK 13 (Xa 34) (I6 k) q ?_
    refine Uq ?_;refine zK 14 (Xa 35) (I6 a) q ?_
    refine Uq ?_;refine wpAnyH_all (rs:=[15]) Kr Sm ?_
    intro j t;simp only[mC,nM,or_false]at t;subst t;refine zO (Xa 10) (fun v w'=>v=Xj (Xa ⟨(a1).heap.size,0,Xb⟩)/\w'=(a1).alloc (Xk zR.toArray 45)) rfl rfl rfl (zI.step (jz rfl) ⟨rfl,rfl⟩) ?_
    rintro v L⟨rfl,h⟩;have X:zc d L:=by rw[h];exact q.trans (za _ _)
    have cy:zc a1 L:=by rw[h];exact za _ _
    obtain⟨g,U⟩:=kA ((a1).heap.size);have ae:zg L g 45 zR:=by rw[h];exact zg.aD _ zR _ U.symm
    have s:d.heap.size<=g:=by rw[<-U.out];exact bS q
    rw[U.out];clear h;refine⟨X,?_⟩;refine Uq ?_;refine wpAnyH_all (rs:=[16]) Kr Sm ?_
    intro j t;simp only[mC,nM,or_false]at t;subst t;refine zO Xb (fun v w'=>zc d w'/\zg w' g 45 b/\zlf d m BF c wr b k a w') rfl rfl rfl (zI.aL 45 (.tmp 10) (.tmp 33) rfl g rfl b rfl ae (by rw[hlen];rfl) Kr i (fun w' c0 a2 dq=>⟨zd X a2 s,c0,a7.newer (zd cy a2 (by rw[U.out];exact nR _)) (zd X a2 s) (bS l)⟩)) ?_
    rintro v a0⟨E,ar,bc⟩;refine⟨E,?_⟩;simp only[Xw];refine zK 17 (Xa 11) (I6 k) E ?_
    refine Uq ?_;refine zK 18 (Xa 12) (I6 a) E ?_
    refine Uq ?_;refine wpAnyH_done Kr ?_ _
    have ag:Xo (zg a0 g 45 b):=ar;have T:Xo (zc d a0):=E;have H:Xo (d.heap.size<=g):=s;have ao:Xo (zlf d m BF c wr b k a a0):=bc;have u:Xo (b.length=11/\∀x∈b,x.oneCell'=Xc):=show _/\_ from⟨hlen,i⟩
    clear E ar bc;go_wp2
    go_meet
    exact⟨g,k,a,b,rfl,rfl,rfl,ag,T,H,ao,u⟩
   skip
   refine zO (Xa 10) (fun v w'=>v=Xj (Xa ⟨(d.drew).heap.size,0,Xb⟩)/\w'=(d.drew).alloc (Xk zR.toArray 45)) rfl rfl rfl (zI.step (jz rfl) ⟨rfl,rfl⟩) ?_
   rintro v L⟨rfl,h⟩;have X:zc d L:=by rw[h];exact l.trans (za _ _)
   have cy:zc d.drew L:=by rw[h];exact za _ _
   obtain⟨g,U⟩:=kA ((d.drew).heap.size);have ae:zg L g 45 zR:=by rw[h];exact zg.aD _ zR _ U.symm
   have s:d.heap.size<=g:=by rw[<-U.out];exact bS l
   rw[U.out];clear h;refine⟨X,?_⟩;refine Uq ?_;refine wpAnyH_all (rs:=[10]) Kr Sm ?_
   intro j t;simp only[mC,nM,or_false]at t;subst t;refine zO (Xa 32) (fun v w'=>(∃(b:List Xq)(k a:Int),v=Xm #[Xi b.toArray,I6 k,I6 a]/\b.length=11/\(∀x∈b,x.oneCell'=Xc)/\zlf L m BF c wr b k a w')/\zc L w') rfl rfl rfl (zI.call [Xi (mL V m).toArray,I6 c.aC,I6 (c.pt/8),Xh wr] rfl func140 rfl rfl rfl ((al _ X).mono ?_)) ?_
   ·rintro e w'⟨r,F⟩
    rcases r with⟨a,rfl,Z⟩|⟨V',k,ab,m',rfl,a6,cb⟩
    ·exact⟨_,rfl,⟨zR,0,a,rfl,rfl,by unfold zR;simp[Value.oneCell'],.inl ⟨Z.1,Z⟩⟩,F⟩
    exact⟨_,rfl,⟨chL V' m',(k:Int),0,rfl,rfl,by simp[chL,Value.oneCell'],.inr ⟨rfl,V',k,ab,m',rfl,rfl,a6,cb⟩⟩,F⟩
   rintro v a1⟨⟨b,k,a,rfl,hlen,i,a7⟩,bg⟩;have q:zc d a1:=X.trans bg;refine⟨q,?_⟩;refine Uq ?_;have a5:=ae.box.lt;have ae:=ae.aA bg;refine zK 11 (Xa 21) (Xm #[Xi b.toArray,I6 k,I6 a]) q ?_
   refine Uq ?_;refine zK 12 (Xa 33) (Xi b.toArray) q ?_
   refine Uq ?_;refine zK 13 (Xa 34) (I6 k) q ?_
   refine Uq ?_;refine zK 14 (Xa 35) (I6 a) q ?_
   refine Uq ?_;refine wpAnyH_all (rs:=[16]) Kr Sm ?_
   intro j t;simp only[mC,nM,or_false]at t;subst t;refine zO Xb (fun v w'=>zc d w'/\zg w' g 45 b/\zlf d m BF c wr b k a w') rfl rfl rfl (zI.aL 45 (.tmp 10) (.tmp 33) rfl g rfl b rfl ae (by rw[hlen];rfl) Kr i (fun w' c0 a2 dq=>⟨zd q a2 s,c0,a7.lower a2 a5 (zd q a2 s) (bS X)⟩)) ?_
   rintro v a0⟨E,ar,bc⟩;refine⟨E,?_⟩;simp only[Xw];refine zK 17 (Xa 11) (I6 k) E ?_
   refine Uq ?_;refine zK 18 (Xa 12) (I6 a) E ?_
   refine Uq ?_;refine wpAnyH_done Kr ?_ _
   have ag:Xo (zg a0 g 45 b):=ar;have T:Xo (zc d a0):=E;have H:Xo (d.heap.size<=g):=s;have ao:Xo (zlf d m BF c wr b k a a0):=bc;have u:Xo (b.length=11/\∀x∈b,x.oneCell'=Xc):=show _/\_ from⟨hlen,i⟩
   clear E ar bc;go_wp2
   go_meet
   exact⟨g,k,a,b,rfl,rfl,rfl,ag,T,H,ao,u⟩
  obtain⟨g,k,a,b,rfl,rfl,rfl,ag,T,H,ao,u⟩:=hcut
  rcases ao with⟨b8,Z⟩|⟨rfl,V',B,ab,m',rfl,rfl,a6,ax⟩
  ·have dx:(a !=0)=Xc:=by simp[b8]
   have d7:Xo (jm m BF c.aC (c.pt/8) wr a):=Z;have cm:Xo (zc w wc):=show zc _ _ from R.trans T.out
   clear Z b8;go_wp2
   go_ret2
   exact⟨0,a,rfl,zk.aA cm,bd.gr.trans cm,.inl (.inr (.inl ⟨y,d7⟩))⟩
  obtain⟨fr,az,ay,a9,aa⟩:=bm.out B m' a6;have G:Xo (m'.fs[B]?=Xa fr):=az;have cn:Xo (zco m BF c.aC (c.pt/8) wr B m'):=a6;have bj:Xo (ChW d noX ab wc V' m'):=ax;have bk:Xo (fr.f=-1\/∃(j:Nat)(fl:Fl),fr.f=(j:Int)/\m'.fl[j]?=Xa fl):=ay;have co:Xo (0<=fr.x/\fr.x<1000):=show _/\_ from⟨a9,aa⟩
  clear az ay a9 aa a6 ax;have d8:=dD (cp.box.aA T);have bw:Xo (∀v∈chL V' m',v.oneCell'=Xc):=show∀v∈chL V' m',_ by simp[chL,Value.oneCell']
  have bn:Xo ((chL V' m').length=(chL V m).length):=dD<|rfl
  have bu:Xo ((Tryz.prog.info? 45).map (·.size)=Xa (chL V m).length):=dD<|Kr
  go_wp2_with(first|refine zm rfl 45 (.tmp 10) rfl g rfl ag.box underlying45 rfl Kr ?_|refine zh rfl 45 (.tmp 42) (.tmp 40) rfl p rfl (chL V' m') rfl d8 bn bu bw.out ?_)
  intro K ac bf dr;clear dr;have cr:Xo (zk (fun k=>k=p) w K):=dD<|(zk.aA (R.trans T)).trans (zk.grown bf rfl)
  have d5:Xo (zc w0 K):=dD<|bd.grOut (cr.wide fun k cd=>.inl cd)
  have ct:Xo (zg K p 88 (chL V' m')):=ac;have bx:Xo (zfL d.heap.size K V' m'):=show zfL _ _ _ _ from bj.ownB.out (zk.grown bf (Xs ak (bS R)))
  have db:Xo (zg K aq 25 [I6 c.kind,I6 c.aC,I6 c.pt,I6 c.n,I6 c.file,I6 c.base,Xh c.rd,Xh c.wr,Xh c.sh,c.dv.x]):=dD<|(be.aA T).aK (zk.grown (D:=fun k=>k=p) bf rfl) (by have:=bi.out;have:=ak.out;omega)
  clear ac bf;have ce:=(gS.1 G).1;obtain⟨ca,dd,z⟩:=bx.fs.aJ Wm
  have cw:=ct.box.c 0 rfl;rw[z]at cw;have aj:Xo (zb z9 d.heap.size K (O (Xa ⟨ca,0,Xb⟩) m'.fs.length dd) m'.fs):=dD<|Ry z bx.fs
  have a5:(B:Int)<(m'.fs.length:Int):=Wm
  obtain⟨dw,bl⟩:=kA m'.fs.length;rw[bl.out]at aj cw a5;clear z ce;obtain⟨⟨c1,c2,c3,c4,c5,ac,c6,c8⟩,bh,cj,c9,f,x⟩:=fr;have bq:Xo (K.rangeAt ca (B*13) [U8 c1,U8 c2,U8 c3,U8 c4,U8 c5,U8 ac,U8 c6,U8 c8,I6 bh,Xh cj,Xh c9,I6 f,I6 x]):=dD<|aj.bJ G.out
  have bt:Xo ((Tryz.prog.info? 93).map (·.size)=Xa 13):=dD<|Kr
  go_upto_region 8 with(refine wpList_load_mid rfl 93 (.tmp 50) rfl ca (B*13) rfl [U8 c1,U8 c2,U8 c3,U8 c4,U8 c5,U8 ac,U8 c6,U8 c8,I6 bh,Xh cj,Xh c9,I6 f,I6 x] _ bq underlying93 rfl bt.out ?_)
  obtain⟨dz,cl⟩:=kA K.heap.size;obtain⟨bz,N⟩:=kB (K.alloc (Xk #[U8 c1,U8 c2,U8 c3,U8 c4,U8 c5,U8 ac,U8 c6,U8 c8,I6 bh,Xh cj,Xh c9,I6 f,I6 x] 93));have af:=gP N
  have cv:=xPT N cl
  have cu:=dD (ct.aA af);have cq:=dD (bx.aA af);have d9:Xo (zk (fun k=>k=p) w bz):=show zk _ _ _ from cr.trans (zk.aA af)
  have d6:=dD (d5.trans af);have dc:=dD (db.aA af);rw[N,cl.out];clear N af;have e2:=cv.box.c 11 rfl;have e3:=cv.box.c 12 rfl;have d4:=dc.box.c 2 rfl;obtain⟨dh,di,dj⟩:=an.out;have a9:0<=x:=co.1;have aa:x<1000:=co.2;have P:=ah.1;have Y:∀{W:Xn}{k a:Int},zc bz W->((a=9/\∃(j:Nat)(fl:Fl),f=(j:Int)/\m'.fl[j]?=Xa fl/\fl.size<x*8+c.pt%8+n)\/(a=0/\k=(B:Int)/\(f=-1\/∃(j:Nat)(fl:Fl),f=(j:Int)/\m'.fl[j]?=Xa fl/\x*8+c.pt%8+n<=fl.size)))->zrK m BF c n wr w0 p w k a W:=fun A cd=>by
   refine⟨d9.trans (zk.aA A),d6.trans A,?_⟩
   rcases cd with⟨rfl,j,fl,dn,dp,cf⟩|⟨rfl,rfl,cf⟩
   ·exact .inl (.inr (.inr ⟨y,rfl,B,m',_,j,fl,cn,G,dn,dp,cf⟩))
   exact .inr ⟨rfl,B,m',_,V',d.heap.size,rfl,⟨y,cn,G,cf⟩,cu.aA A,bS R,cq.aA A⟩
  have C:=show Xo _ from@Y
  clear Y
  rcases bk with a4|⟨j,fl,a4,Q⟩
  ·have a4:f=-1:=a4;subst a4;go_upto_region 10 with fail;go_quiet(fail);go_wp2
   go_ret2
   exact⟨_,_,rfl,C (show Below _ _ _ from bD (bR _ _) _) (.inr ⟨rfl,rfl,.inl (by first|trivial|rfl)⟩)⟩
  have a4:f=(j:Int):=a4;subst a4;have ai:Xo (m'.fl[j]?=Xa fl):=Q;have dl:decide ((j:Int)=-1)=Xd:=decide_eq_false Wm
  have dm:((j:Int)==-1)=Xd:=beq_eq_false_iff_ne.2 Wm
  have cx:=cu.box.c 7 rfl;obtain⟨du,dv,z,aw,I⟩:=cq.at.fl.rows;rw[z]at cx;obtain⟨ds,rfl,e0,e1,_,d3⟩:=I j fl Q;obtain⟨dt,de⟩:=d3 bz (bR _ _);have cc:(j:Int)<(m'.fl.length:Int):=Hm ((gS.1 Q).1)
  obtain⟨dy,u⟩:=kA m'.fl.length;rw[u.out]at cx cc aw;clear d3 I z Q de;go_upto_region 10 with fail
  by_cases b9:fl.size<x*8+c.pt%8+n
  ·have dk:decide (fl.size<x*8+c.pt%8+n)=Xc:=decide_eq_true b9;have br:Xo (fl.size<x*8+c.pt%8+n):=b9;clear b9;go_quiet(fail);go_wp2
   go_ret2
   exact⟨_,_,rfl,C (show Below _ _ _ from bD (bR _ _) _) (.inl ⟨rfl,j,fl,rfl,ai,br⟩)⟩
  have dk:decide (fl.size<x*8+c.pt%8+n)=Xd:=decide_eq_false b9;have br:Xo (x*8+c.pt%8+n<=fl.size):=dD<|Wm
  clear b9;go_quiet(fail);go_wp2
  go_ret2
  exact⟨_,_,rfl,C (show Below _ _ _ from bD (bR _ _) _) (.inr ⟨rfl,rfl,.inr ⟨j,fl,rfl,ai,br⟩⟩)⟩
variable{X:Nat->Prop}
def zpr(w0 u:Xn)(k:Nat):Prop:=w0.heap.size<=k/\k<u.heap.size
def Aft(w0 u w:Xn)(k:Nat):Prop:=k<w0.heap.size\/(u.heap.size<=k/\k<w.heap.size)
def ZI(K:Int->Int->List Int->Ma->Prop)(w0:Xn)(p:Nat)(u w:Xn)(e:Ending)(w':Xn):Prop:=
 ∃(er n:Int)(s:Sli)(l:List Int)(V':MaV)(m':Ma),e=Xl (Qk er n s)/\K er n l m'/\zk (zpr w0 u) w w'/\zc w0 w'/\(∀W,zk (Aft w0 u w) w' W->zj byE W (O s.a s.n s.c) l)/\(er=0->zg w' p 88 (chL V' m')/\∀W,zk (Aft w0 u w) w' W->zq W V' m')
theorem jX.more{K:Int->Int->List Int->Ma->Prop}{u w:Xn}{p:Nat}{e:Ending}(h:jX K w0 p w e w')(t:w0.heap.size<=p)(hp:p<u.heap.size)(r:w0.heap.size<=w.heap.size):ZI K w0 p u w e w':=by
 obtain⟨i,x,y,s,g,v,j,l,m,n,q,f⟩:=h;have b:∀W,zk (Aft w0 u w) w' W->zk (fun k=>k<w.heap.size) w' W:=fun W a=>a.wide fun k c=>c.elim (fun h=>Xs h r) fun h=>h.2
 exact⟨i,x,y,s,g,v,j,l,m.wide fun k c=>by cases c;exact⟨t,hp⟩,n,fun W a=>q W (b W a),fun d=>⟨(f d).1,fun W a=>(f d).2 W (b W a)⟩⟩
def J8(m:Ma)(pr:Int)(K:Int->Int->List Int->Ma->Prop)(er n:Int)(l:List Int)(m':Ma):Prop:=
 (er=5/\n=0/\l=[]/\∀q s,¬J7 m pr q s)\/((∃q s,J7 m pr q s)/\K er n l m')
theorem zbC{w:Xn}{p:Nat}(h:ChW w0 X p w V m)(c:Cl)(g F:Nat)(K:Int->Int->List Int->Ma->Prop)(bb:Enters prog F)(ae:zg w g 80 [.func (.func F) #[] #[]])
  (aa:∀W,zc w W->(∃q s,J7 m c.aC q s)->Xp prog F #[Xj (Xa ⟨p,0,Xb⟩),Xi #[I6 c.kind,I6 c.aC,I6 c.pt,I6 c.n,I6 c.file,I6 c.base,Xh c.rd,Xh c.wr,Xh c.sh,c.dv.x]] W fun e w'=>ZI K w0 p w W e w'):
  Xp prog 73 #[Xj (Xa ⟨p,0,Xb⟩),Xi #[I6 c.kind,I6 c.aC,I6 c.pt,I6 c.n,I6 c.file,I6 c.base,Xh c.rd,Xh c.wr,Xh c.sh,c.dv.x],Xj (Xa ⟨g,0,Xb⟩)] w fun e w'=>ZI (J8 m c.aC K) w0 p w w e w':=by
 have Q:Xo (ChW w0 X p w V m):=h;have T:Xo (p<w.heap.size):=h.aM p (.inl rfl);have ar:Xo (zg w g 80 [.func (.func F) #[] #[]]):=ae;have aq:=show Xo _ from aa
 have bn:Xo (∀(N:Array Xq)(w:Xn),(callFunc F N).run prog w=.ok (.enter F N) w):=bb;obtain⟨b,B⟩:=kA w.heap.size;obtain⟨r,u⟩:=kB ((w.alloc (Xk #[I6 c.kind,I6 c.aC,I6 c.pt,I6 c.n,I6 c.file,I6 c.base,Xh c.rd,Xh c.wr,Xh c.sh,c.dv.x] 25)).alloc (Xk #[I6 0,I6 0,eS] 54));have al:=gD2 u
 have ba:Xo (zg r b 25 [I6 c.kind,I6 c.aC,I6 c.pt,I6 c.n,I6 c.file,I6 c.base,Xh c.rd,Xh c.wr,Xh c.sh,c.dv.x]):=dD<|by rw[<-u];exact(zg.aD w [I6 c.kind,I6 c.aC,I6 c.pt,I6 c.n,I6 c.file,I6 c.base,Xh c.rd,Xh c.wr,Xh c.sh,c.dv.x] _ B.symm).aA (za _ _)
 have A1:Xo (zg r (b+1) 54 [I6 0,I6 0,eS]):=dD<|by rw[<-u];exact zg.aD _ [I6 0,I6 0,eS] _ (by have:=B.out;simp;omega)
 have ap:Xo (b+1<r.heap.size):=A1.box.lt;have a5:Xo (p<b):=show _<_ by have:=T.out;have:=B.out;omega
 have au:Xo (w0.heap.size<=b):=dD<|by have:=Q.lo;have:=a5.out;omega
 have b9:Xo (ChW w0 X p r V m):=h.aA al.out;have ay:Xo (_=r):=u;obtain⟨-,-,-,-,-,-,-,-,bi⟩:=h.at.ns;have R:Xo (V.sp.n=m.sp.length):=bi;obtain⟨y,C⟩:=kA V.sp.n;clear u h aa ae bi bb
 go_enter func73,ntmps73
 go_upto_region 1 with fail;rw[ay.out,B.out];have H:=fun z:zf r=>(ba.box.aA z.aA).c 1 rfl
 have d:∀z:zf r,z.world.cell? ⟨p,10,Xb⟩=Xa (O V.sp.a y V.sp.c):=fun z=>by rw[<-C.out];exact(b9.box.box.aA z.aA).c 10 rfl
 have Y:Nonempty (zf r):=⟨⟨_,zc.refl _⟩⟩
 by_cases j:0<=c.aC/\c.aC<(y:Int)
 rotate_left
 ·have l:Xo ((Value.bool (decide (0<=c.aC)&&decide (c.aC<(y:Int))))=Xh Xd):=dD<|by
   congr 1
   rw[Bool.and_eq_false_iff]
   by_cases a9:0<=c.aC
   ·exact .inr (decide_eq_false fun bw=>j ⟨a9,bw⟩)
   exact .inl (decide_eq_false a9)
  have S:Xo (∀q s,¬J7 m c.aC q s):=dD<|fun q s U=>j (by
   have:=U.1;have:=(gS.1 U.2.1).1;have:=C.out;have:=R.out
   omega)
  clear j;refine qq [(8,⟨fun aj=>aj=Xh Xd,fun _ _=>True⟩)] zU Kr ?_ ?_ ?_
  ·intro x a
   simp at a
   subst a;exact⟨_,rfl⟩
  ·intro x a
   simp at a
   subst a;exact fun _ _ _ _ h=>h
  iterate 3 refine ze ?_
  refine Zj (.tmp 8) ⟨p,0,Xb⟩ rfl rfl rfl rfl ?_;refine Uq ?_;iterate 4 refine ze ?_
  refine zz rfl rfl (fun w' ae aa=>?_) (fun bm k=>?_)
  ·refine zI.call [I6 c.aC,I6 (y:Int)] rfl func74 rfl rfl rfl ?_;refine(ZP c.aC (y:Int) w').mono ?_;rintro e ak⟨rfl,rfl⟩;exact⟨_,rfl,zc.refl _,l,trivial⟩
  subst k;refine Uq ?_;iterate 2 refine ze ?_
  iterate 11 (refine jo rfl ?_;simp only[Xw,sB,sS,sZ])
  refine ze ?_
  refine zH fun M f _=>?_
  have A2:=dD (A1.aA f);have L:=dD (al.trans f);clear f H d Y;have v:=jO 5 M;go_wp2_with fail;refine v.mono ?_;rintro e Z⟨rfl,A⟩;have a0:=dD (A2.aA A);have a7:=dD (L.trans A);clear v A;unfold Qk noS
  go_wp2_with(refine zh rfl 54 (.tmp 5) (.tmp 29) rfl (b+1) rfl [I6 5,I6 0,eS] rfl a0 rfl Kr (by simp[Value.oneCell']) ?_)
  intro t P i _;have ao:Xo (zc w0 t):=dD<|zd (Q.gr.trans a7) i (Hm au.out)
  have a1:Xo (zg t (b+1) 54 [I6 5,I6 0,eS]):=P;have b1:Xo (zk (fun ah=>ah=p) w t):=show zk _ _ _ from zk.beyond (zk.aA a7) i (Hm B.out)
  clear P i;go_wp2;refine bodyPost_ret (zB rfl _ rfl a1.box underlying54 rfl Kr) rfl (jX.more (jX.err (V:=V) (m:=m) Dc (.inl ⟨rfl,rfl,rfl,S⟩) b1 ao) Q.lo T (bS Q.gr))
 have l:Xo ((Value.bool (decide (0<=c.aC)&&decide (c.aC<(y:Int))))=Xh Xc):=dD<|by
  rw[decide_eq_true j.1,decide_eq_true j.2];rfl
 obtain⟨q,a6⟩:∃q:Nat,Xo (c.aC=(q:Int)):=⟨c.aC.toNat,show _=_ by omega⟩
 have bz:(q:Int)<(y:Int):=Hm a6.out
 obtain⟨an,b7,bk,bl⟩:=b9.sp;obtain⟨x,a⟩:∃x,an[q]?=Xa x:=⟨_,gE (by rw[bk,<-R.out,C.out];omega)⟩
 obtain⟨s,b3⟩:∃s,m.sp[q]?=Xa s:=⟨_,gE (by rw[<-R.out,C.out];omega)⟩
 have af:=(bl q x s a b3 r (zk.refl _ _)).aH;obtain⟨b2,bu,E⟩:=b7.aJ (Hm ((gS.1 a).1))
 have b8:Xo (m.sp[q]?=Xa s):=b3;have av:Xo (x.aH=s.aH):=af;have ax:Xo (zb Q4 w0.heap.size r (O (Xa ⟨b2,0,Xb⟩) an.length bu) an):=show zb _ _ _ _ _ by rw[<-E];exact b7
 have b0:Xo (an[q]?=Xa x):=a;have ag:V.sp.a=Xa ⟨b2,0,Xb⟩:=by simp only[vJ]at E;exact E.1
 rw[ag]at d;rw[a6.out]at H l;have G:∀z:zf r,z.world.cell? ⟨b2,q*10,Xb⟩=Xa (Xh s.aH):=fun z=>by
  rw[<-av.out];exact(ax.aA z.aA).bJ b0 0 _ rfl
 clear j b7 bk bl a b3 af E ag;have bx:decide ((0:Int)<=(q:Int))=Xc:=Sm
 have bq:Xo (c.aC=(q:Int)):=a6
 cases k:s.aH with
 |false=>
  rw[k]at G;have S:Xo (∀b6 bj,¬J7 m c.aC b6 bj):=dD<|fun b6 bj U=>by
   have e:b6=q:=by have:=U.1;have:=a6.out;omega
   rw[e]at U;have bc:=U.2.1;rw[b8.out]at bc;cases bc;have bd:=U.2.2;rw[k]at bd;cases bd
  clear k;refine qq [(8,⟨fun aj=>aj=Xh Xc,fun _ _=>True⟩)] zU Kr ?_ ?_ ?_
  ·intro x a
   simp at a
   subst a;exact⟨_,rfl⟩
  ·intro x a
   simp at a
   subst a;exact fun _ _ _ _ h=>h
  iterate 3 refine ze ?_
  refine Zj (.tmp 8) ⟨p,0,Xb⟩ rfl rfl rfl rfl ?_;refine Uq ?_;iterate 4 refine ze ?_
  refine zz rfl rfl (fun w' ae aa=>?_) (fun bm k=>?_)
  ·refine zI.call [I6 (q:Int),I6 (y:Int)] rfl func74 rfl rfl rfl ?_;refine(ZP (q:Int) (y:Int) w').mono ?_;rintro e ak⟨rfl,rfl⟩;exact⟨_,rfl,zc.refl _,l,trivial⟩
  subst k;refine Uq ?_;iterate 2 refine ze ?_
  refine qL rfl rfl rfl (fun K ab=>?_);go_big_quiet_op;refine ab _ ?_;clear ab K
  refine Zj (.tmp 17) ⟨p,0,Xb⟩ rfl rfl rfl rfl ?_;refine Uq ?_;iterate 10 refine ze ?_
  clear G;refine zH fun M f _=>?_
  have A2:=dD (A1.aA f);have L:=dD (al.trans f);clear f H d Y;have v:=jO 5 M;go_wp2_with fail;refine v.mono ?_;rintro e Z⟨rfl,A⟩;have a0:=dD (A2.aA A);have a7:=dD (L.trans A);clear v A;unfold Qk noS
  go_wp2_with(refine zh rfl 54 (.tmp 5) (.tmp 29) rfl (b+1) rfl [I6 5,I6 0,eS] rfl a0 rfl Kr (by simp[Value.oneCell']) ?_)
  intro t P i _;have ao:Xo (zc w0 t):=dD<|zd (Q.gr.trans a7) i (Hm au.out)
  have a1:Xo (zg t (b+1) 54 [I6 5,I6 0,eS]):=P;have b1:Xo (zk (fun ah=>ah=p) w t):=show zk _ _ _ from zk.beyond (zk.aA a7) i (Hm B.out)
  clear P i;go_wp2;refine bodyPost_ret (zB rfl _ rfl a1.box underlying54 rfl Kr) rfl (jX.more (jX.err (V:=V) (m:=m) Dc (.inl ⟨rfl,rfl,rfl,S⟩) b1 ao) Q.lo T (bS Q.gr))
 |true=>
  rw[k]at G;have a4:Xo (∃q s,J7 m c.aC q s):=dD<|⟨q,s,a6,b8,k⟩
  clear k;refine qq [(8,⟨fun aj=>aj=Xh Xc,fun _ _=>True⟩)] zU Kr ?_ ?_ ?_
  ·intro x a
   simp at a
   subst a;exact⟨_,rfl⟩
  ·intro x a
   simp at a
   subst a;exact fun _ _ _ _ h=>h
  iterate 3 refine ze ?_
  refine Zj (.tmp 8) ⟨p,0,Xb⟩ rfl rfl rfl rfl ?_;refine Uq ?_;iterate 4 refine ze ?_
  refine zz rfl rfl (fun w' ae aa=>?_) (fun bm k=>?_)
  ·refine zI.call [I6 (q:Int),I6 (y:Int)] rfl func74 rfl rfl rfl ?_;refine(ZP (q:Int) (y:Int) w').mono ?_;rintro e ak⟨rfl,rfl⟩;exact⟨_,rfl,zc.refl _,l,trivial⟩
  subst k;refine Uq ?_;iterate 2 refine ze ?_
  refine qL rfl rfl rfl (fun K ab=>?_);go_big_quiet_op;refine ab _ ?_;clear ab K
  refine Zj (.tmp 17) ⟨p,0,Xb⟩ rfl rfl rfl rfl ?_;refine Uq ?_;iterate 10 refine ze ?_
  clear G;refine zH fun M f _=>?_
  have A2:=dD (A1.aA f);have bt:=dD (ba.aA f);have L:=dD (al.trans f);have az:Xo (b+1<M.heap.size):=show _<_ from Xs ap (bS f)
  clear f H d Y;have ad:=aq.out M L a4.out;have bv:=(ar.aA L).box.c 0 rfl
  go_wp2_with(first|refine zm rfl 25 (.tmp 4) rfl b rfl bt.box underlying25 rfl Kr ?_|fail)
  rw[bn.out];refine ad.mono ?_;clear ad bv;rintro e Z⟨a8,n,am,bg,bs,bh,rfl,I,b5,A,bf,be⟩;have a0:Xo (zg Z (b+1) 54 [I6 0,I6 0,eS]):=dD<|A2.aK b5 (fun I=>by have:=B.out;have:=I.2;omega)
  have bp:Xo (K a8 n bg bh):=I;have br:Xo (zk (zpr w0 w) w Z):=show zk _ _ _ from(zk.aA L).trans b5
  have bo:Xo (zc w0 Z):=A;have aw:=show Xo _ from bf
  have a2:=show Xo _ from be
  clear I b5 A bf be;unfold Qk
  go_wp2_with(refine zh rfl 54 (.tmp 5) (.tmp 33) rfl (b+1) rfl [I6 a8,I6 n,am.x] rfl a0 rfl Kr (by simp[Value.oneCell']) ?_)
  intro t P i _;have a1:Xo (zg t (b+1) 54 [I6 a8,I6 n,am.x]):=P;have a3:Xo (ZI (J8 m c.aC K) w0 p w w (Xl (Qk a8 n am)) t):=show ZI _ _ _ _ _ _ _ from by
   have ai:∀W,zk (Aft w0 w w) t W->zk (Aft w0 w M) Z W:=fun W ac=>(zk.grown (D:=Aft w0 w M) i (.inr ⟨Hm B.out,az⟩)).trans (ac.wide fun ah I=>I.imp id fun h=>⟨h.1,Xs h.2 (bS L)⟩)
   exact⟨a8,n,am,bg,bs,bh,rfl,.inr ⟨a4,bp⟩,br.beyond i (Hm B.out),zd bo i (Hm au.out),fun W ac=>aw.out W (ai W ac),fun a9=>⟨(a2 a9).1.beside i (fun ah e=>by cases e;have:=a5.out;omega),fun W ac=>(a2 a9).2 W (ai W ac)⟩⟩
  clear P i;go_wp2;refine bodyPost_ret (zB rfl _ rfl a1.box underlying54 rfl Kr) rfl a3.out
def Qh:List (Int×Xq)->Int->Option Xq
 |[],_=>Xb
 |p::l,k=>if k=p.1 then Xa p.2 else Qh l k
def zfs:List (Int×Xq)->Int->Nat->Option (Nat×Xq)
 |[],_,_=>Xb
 |p::l,k,i=>if k=p.1 then Xa (i,p.2)else zfs l k (i+1)
theorem zbO:∀(l:List (Int×Xq))(k:Int)(i:Nat),(zfs l k i).map (·.2)=Qh l k
 |[],_,_=>rfl
 |p::l,k,i=>by
  unfold zfs Qh
  by_cases e:k=p.1
  ·rw[kE e,kE e];rfl
  rw[kF e,kF e,zbO l k (i+1)]
def zdF(w:Xn)(b:Nat)(l:List (Int×Xq)):Prop:=∃es clock,w.heap[b]?=Xa (.map es clock)/\es.toList.map (fun e=>(e.key,e.val))=l.map (fun p:Int×Xq=>(Value.int .i64 p.1,p.2))
theorem zdF.lt{w:Xn}{l:List (Int×Xq)}(h:zdF w b l):b<w.heap.size:=by
 obtain⟨d,c,a,_⟩:=h;exact(aS.1 a).1
theorem zdF.made(w:Xn):zdF (w.alloc (.map #[] 0)) w.heap.size []:=⟨#[],0,by
 show(w.heap.push _)[w.heap.size]?=_
 simp,rfl⟩
theorem zdF.aA{w:Xn}{l:List (Int×Xq)}(h:zdF w b l)(g:zc w w'):zdF w' b l:=by
 have a:=h.lt;obtain⟨d,c,e,f⟩:=h;exact⟨d,c,(Below.block g b a).trans e,f⟩
theorem zjr{k:Int}{c:IntKind}:∀(l:List (Int×Xq))(a:List MapEntry)(i:Nat),a.map (fun e=>(e.key,e.val))=l.map (fun p:Int×Xq=>(I6 p.1,p.2))->Instr.findNow (.int c) (I6 k) a i=Xa (zfs l k i)
 |[],[],i,_=>rfl
 |[],e::a,i,h=>by simp at h
 |p::l,[],i,h=>by simp at h
 |p::l,e::a,i,h=>by
  simp only[mP,List.cons.injEq,pJ]at h;obtain⟨⟨d,f⟩,g⟩:=h;unfold Instr.findNow zfs;rw[d]
  by_cases b:k=p.1
  ·rw[kE b];have:Instr.sameNow (.int c) (I6 k) (I6 p.1)=Xa Xc:=by simp[Instr.sameNow,b]
   rw[this,f]
  rw[kF b];have:Instr.sameNow (.int c) (I6 k) (I6 p.1)=Xa Xd:=by simp[Instr.sameNow,b]
  rw[this];exact zjr l a (i+1) g
theorem zcO{d:IntKind}{b:TypeId}(c:Tryz.prog.underlying b=Xa (.int d))(k:Int)(w:Xn)(l:List (Int×Xq))(a:List MapEntry)(h:a.map (fun e=>(e.key,e.val))=l.map (fun p:Int×Xq=>(I6 p.1,p.2))):(Instr.findKey b (I6 k) a).run prog w=.ok (zfs l k 0) w:=by
 unfold Instr.findKey;simp only[Yl,run_underlying c,rA,zjr l a 0 h];rfl
theorem Jg{d:IntKind}{a:TypeId}(c:Tryz.prog.underlying a=Xa (.int d))(b:Bool)(k:Int)(w:Xn):(Instr.checkKey b 10000 a (I6 k)).run prog w=.ok () w:=by
 unfold Instr.checkKey;simp only[Yl,run_underlying c,rA];rfl
theorem zdF.look{w:Xn}{l:List (Int×Xq)}(m:zdF w b l){q:IntKind}{i e:TypeId}{z:Xq}(d:Tryz.prog.underlying i=Xa (.int q))(h:Tryz.prog.underlying t=Xa (.map i e))(p:(zeroValue e).run prog w=.ok z w)(k:Int):
  (Instr.lookup t (.map (Xa b)) (I6 k) Xc).run prog w=.ok (Xm #[(Qh l k).getD z,Xh (Qh l k).isSome]) w:=by
 obtain⟨j,r,f,n⟩:=m;have a:=zcO d k w l j.toList n;have c:=zbO l k 0;unfold Instr.lookup
 cases g:zfs l k 0 with
 |none=>
  rw[g]at a c;rw[<-c]
  simp[run_underlying h,MapKept.run_getObj_map f,Jg d,a,p]
 |some s=>
  rw[g]at a c;rw[<-c]
  simp[run_underlying h,MapKept.run_getObj_map f,Jg d,a]
theorem zdF.put{w:Xn}{l:List (Int×Xq)}(j:zdF w b l){s:IntKind}{i e:TypeId}(h:Tryz.prog.underlying i=Xa (.int s))(r:Tryz.prog.underlying t=Xa (.map i e))(k:Int)(v:Xq)(n:Qh l k=Xb):
  ∃w',(Instr.mapUpdate t (.map (Xa b)) (I6 k) v).run prog w=.ok () w'/\zdF w' b (l++[(k,v)])/\w.grownBy w' (Xa b)/\w'.heap.size=w.heap.size:=by
 obtain⟨d,c,a,f⟩:=j;have g:=zcO h k w l d.toList f;have p:zfs l k 0=Xb:=by
  have:=zbO l k 0;rw[n]at this
  cases q:zfs l k 0 with
  |none=>rfl
  |some x=>rw[q]at this;cases this
 rw[p]at g;refine⟨ChangeMaps.setBlock w b (.map (d.push ⟨I6 k,v,c⟩) (c+1)),?_,⟨_,_,ChangeMaps.heap_setBlock_same a _,?_⟩,⟨rfl,rfl,rfl,by simp[ChangeMaps.setBlock],fun u _ m=>ChangeMaps.heap_setBlock_other a _ (fun e=>m (by rw[e]))⟩,by simp[ChangeMaps.setBlock]⟩
 ·simp[Instr.mapUpdate,run_underlying r,MapKept.run_getObj_map a,Jg h,g,MapKept.run_setObj_map _ a,ChangeMaps.setBlock]
 simp[f]
theorem zE{w:Xn}{rest:List Oper}{a:Act}(j:o.guard=Xb){z:IntKind}{g e:TypeId}(r:Tryz.prog.underlying g=Xa (.int z))(q:Tryz.prog.underlying t=Xa (.map g e))(m x v:Operand)(f:o.op=.insert t m x v)(b:Nat)(l:List (Int×Xq))(h:zdF w b l)(k:Int)(u:Xq)
  (n:a.eval m=.map (Xa b))(y:a.eval x=I6 k)(s:a.eval v=u)(p:Qh l k=Xb)
  (i:∀w',zdF w' b (l++[(k,u)])->w.grownBy w' (Xa b)->wpList prog ops Q rest (a.put o.dst undef) w'):wpList prog ops Q (o::rest) a w:=by
 refine wpList_plain j fun C d=>?_
 obtain⟨w',c,A,B,_⟩:=h.put r q k u p;unfold Oper.wp
 simp[execOp,f,n,y,s,c,Result.andThen]
 exact d _ _ (i w' A B)
def zrh:Int->Option Nat
 |1=>Xa 35
 |2=>Xa 36
 |3=>Xa 37
 |4=>Xa 38
 |5=>Xa 39
 |6=>Xa 40
 |7=>Xa 41
 |_=>Xb
def zrj:Int->Option Nat
 |9=>Xa 44
 |10=>Xa 45
 |11=>Xa 46
 |12=>Xa 47
 |_=>Xb
def zri:Int->Option Nat
 |8=>Xa 42
 |13=>Xa 48
 |14=>Xa 49
 |15=>Xa 50
 |_=>Xb
def qH(w:Xn)(k:Int)(v:Xq):Prop:=
 (k=1->∃g,v=.func (.func 73) #[] #[Xj (Xa ⟨g,0,Xb⟩)]/\zg w g 80 [.func (.func 35) #[] #[]])/\
 (k=2->∃g,v=.func (.func 73) #[] #[Xj (Xa ⟨g,0,Xb⟩)]/\zg w g 80 [.func (.func 36) #[] #[]])/\
 (k=3->∃g,v=.func (.func 73) #[] #[Xj (Xa ⟨g,0,Xb⟩)]/\zg w g 80 [.func (.func 37) #[] #[]])/\
 (k=4->∃g,v=.func (.func 73) #[] #[Xj (Xa ⟨g,0,Xb⟩)]/\zg w g 80 [.func (.func 38) #[] #[]])/\
 (k=5->∃g,v=.func (.func 73) #[] #[Xj (Xa ⟨g,0,Xb⟩)]/\zg w g 80 [.func (.func 39) #[] #[]])/\
 (k=6->∃g,v=.func (.func 73) #[] #[Xj (Xa ⟨g,0,Xb⟩)]/\zg w g 80 [.func (.func 40) #[] #[]])/\
 (k=7->∃g,v=.func (.func 73) #[] #[Xj (Xa ⟨g,0,Xb⟩)]/\zg w g 80 [.func (.func 41) #[] #[]])/\
 (k=8->v=.func (.func 42) #[] #[])/\
 (k=9->∃g,v=.func (.func 88) #[] #[Xj (Xa ⟨g,0,Xb⟩)]/\zg w g 80 [.func (.func 44) #[] #[]])/\
 (k=10->∃g,v=.func (.func 88) #[] #[Xj (Xa ⟨g,0,Xb⟩)]/\zg w g 80 [.func (.func 45) #[] #[]])/\
 (k=11->∃g,v=.func (.func 88) #[] #[Xj (Xa ⟨g,0,Xb⟩)]/\zg w g 80 [.func (.func 46) #[] #[]])/\
 (k=12->∃g,v=.func (.func 88) #[] #[Xj (Xa ⟨g,0,Xb⟩)]/\zg w g 80 [.func (.func 47) #[] #[]])/\
 (k=13->v=.func (.func 48) #[] #[])/\
 (k=14->v=.func (.func 49) #[] #[])/\
 (k=15->v=.func (.func 50) #[] #[])
theorem qH.aA{w:Xn}{k:Int}{v:Xq}(i:qH w k v)(g:zc w w'):qH w' k v:=by
 obtain⟨j,l,m,n,p,q,r,s,t,a,b,c,d,f,h⟩:=i;exact⟨fun e=>(j e).imp fun _ x=>⟨x.1,x.2.aA g⟩,fun e=>(l e).imp fun _ x=>⟨x.1,x.2.aA g⟩,fun e=>(m e).imp fun _ x=>⟨x.1,x.2.aA g⟩,fun e=>(n e).imp fun _ x=>⟨x.1,x.2.aA g⟩,fun e=>(p e).imp fun _ x=>⟨x.1,x.2.aA g⟩,fun e=>(q e).imp fun _ x=>⟨x.1,x.2.aA g⟩,fun e=>(r e).imp fun _ x=>⟨x.1,x.2.aA g⟩,s,fun e=>(t e).imp fun _ x=>⟨x.1,x.2.aA g⟩,fun e=>(a e).imp fun _ x=>⟨x.1,x.2.aA g⟩,fun e=>(b e).imp fun _ x=>⟨x.1,x.2.aA g⟩,fun e=>(c e).imp fun _ x=>⟨x.1,x.2.aA g⟩,d,f,h⟩
theorem jd(n:Nat)(w:Xn):Xp prog 34 #[.func (.func n) #[] #[]] w fun e w'=>e=Xl (.func (.func 73) #[] #[Xj (Xa ⟨w.heap.size,0,Xb⟩)])/\w'=w.alloc (Xk #[.func (.func n) #[] #[]] 80):=by
 go_enter func34,ntmps34
 go_wp2;go_ret;exact⟨rfl,rfl⟩
theorem JG(n:Nat)(w:Xn):Xp prog 43 #[.func (.func n) #[] #[]] w fun e w'=>e=Xl (.func (.func 88) #[] #[Xj (Xa ⟨w.heap.size,0,Xb⟩)])/\w'=w.alloc (Xk #[.func (.func n) #[] #[]] 80):=by
 go_enter func43,ntmps43
 go_wp2;go_ret;exact⟨rfl,rfl⟩
theorem Jz{w:Xn}{cs:List Xq}{l:List (Int×Xq)}(h:zg w g t cs)(k:zdF w b l):g≠b:=fun e=>by
 subst e;obtain⟨f,d,c,_⟩:=k;have a:w.heap[g]?=Xa (Xk cs.toArray t (0,0)):=h;rw[c]at a;cases a
theorem qH.aC{w:Xn}{k:Int}{f:Nat}(a:zrh k=Xa f)(x:zg w g 80 [.func (.func f) #[] #[]]):qH w k (.func (.func 73) #[] #[Xj (Xa ⟨g,0,Xb⟩)]):=by
 refine⟨fun e=>?_,fun e=>?_,fun e=>?_,fun e=>?_,fun e=>?_,fun e=>?_,fun e=>?_,fun e=>?_,fun e=>?_,fun e=>?_,fun e=>?_,fun e=>?_,fun e=>?_,fun e=>?_,fun e=>?_⟩<;>(subst e;cases a)<;>exact⟨g,rfl,x⟩
theorem qH.file{w:Xn}{k:Int}{f:Nat}(a:zrj k=Xa f)(x:zg w g 80 [.func (.func f) #[] #[]]):qH w k (.func (.func 88) #[] #[Xj (Xa ⟨g,0,Xb⟩)]):=by
 refine⟨fun e=>?_,fun e=>?_,fun e=>?_,fun e=>?_,fun e=>?_,fun e=>?_,fun e=>?_,fun e=>?_,fun e=>?_,fun e=>?_,fun e=>?_,fun e=>?_,fun e=>?_,fun e=>?_,fun e=>?_⟩<;>(subst e;cases a)<;>exact⟨g,rfl,x⟩
theorem qH.own{w:Xn}{k:Int}{f:Nat}(a:zri k=Xa f):qH w k (.func (.func f) #[] #[]):=by
 refine⟨fun e=>?_,fun e=>?_,fun e=>?_,fun e=>?_,fun e=>?_,fun e=>?_,fun e=>?_,fun e=>?_,fun e=>?_,fun e=>?_,fun e=>?_,fun e=>?_,fun e=>?_,fun e=>?_,fun e=>?_⟩<;>(subst e;cases a)<;>rfl
structure Wks(w0 w:Xn)(B:Nat)(n:Int)(l:List (Int×Xq)):Prop where
 gr:zc w0 w
 map:zdF w B l
 all:∀k v,Qh l k=Xa v->qH w k v
 dom:∀k,(Qh l k).isSome=decide (1<=k/\k<=n)
theorem Wks.aA{w:Xn}{n:Int}{l:List (Int×Xq)}(h:Wks w0 w B n l)(g:zc w w'):Wks w0 w' B n l:=⟨h.gr.trans g,h.map.aA g,fun k v a=>(h.all k v a).aA g,h.dom⟩
theorem zgy(l:List (Int×Xq))(k j:Int)(v:Xq):Qh (l++[(k,v)]) j=(Qh l j).or (if j=k then Xa v else Xb):=by
 induction l with
 |nil=>rfl
 |cons p l a=>
  simp only[List.cons_append,Qh]
  split
  ·rfl
  exact a
theorem Wks.no{w:Xn}{n:Int}{l:List (Int×Xq)}(h:Wks w0 w B n l):Qh l (n+1)=Xb:=by
 have:=h.dom (n+1);rw[decide_eq_false Wm]at this
 simpa using this
theorem qH.beside{w:Xn}{k:Int}{v:Xq}{l:List (Int×Xq)}(m:qH w k v)(b:zdF w B l)(g:w.grownBy w' (Xa B)):qH w' k v:=by
 obtain⟨n,p,q,r,s,t,u,z,A,c,d,f,h,i,j⟩:=m;exact⟨fun e=>(n e).imp fun _ x=>⟨x.1,x.2.beside g fun y a=>by cases a;exact Jz x.2 b⟩,fun e=>(p e).imp fun _ x=>⟨x.1,x.2.beside g fun y a=>by cases a;exact Jz x.2 b⟩,fun e=>(q e).imp fun _ x=>⟨x.1,x.2.beside g fun y a=>by cases a;exact Jz x.2 b⟩,fun e=>(r e).imp fun _ x=>⟨x.1,x.2.beside g fun y a=>by cases a;exact Jz x.2 b⟩,fun e=>(s e).imp fun _ x=>⟨x.1,x.2.beside g fun y a=>by cases a;exact Jz x.2 b⟩,fun e=>(t e).imp fun _ x=>⟨x.1,x.2.beside g fun y a=>by cases a;exact Jz x.2 b⟩,fun e=>(u e).imp fun _ x=>⟨x.1,x.2.beside g fun y a=>by cases a;exact Jz x.2 b⟩,z,fun e=>(A e).imp fun _ x=>⟨x.1,x.2.beside g fun y a=>by cases a;exact Jz x.2 b⟩,fun e=>(c e).imp fun _ x=>⟨x.1,x.2.beside g fun y a=>by cases a;exact Jz x.2 b⟩,fun e=>(d e).imp fun _ x=>⟨x.1,x.2.beside g fun y a=>by cases a;exact Jz x.2 b⟩,fun e=>(f e).imp fun _ x=>⟨x.1,x.2.beside g fun y a=>by cases a;exact Jz x.2 b⟩,h,i,j⟩
theorem Wks.put{w:Xn}{n:Int}{l:List (Int×Xq)}{v:Xq}(h:Wks w0 w B n l)(p:0<=n)(i:w0.heap.size<=B)(k:qH w (n+1) v)(m:zdF w' B (l++[(n+1,v)]))(g:w.grownBy w' (Xa B)):Wks w0 w' B (n+1) (l++[(n+1,v)]):=by
 refine⟨zd h.gr g i,m,fun j u a=>?_,fun j=>?_⟩
 ·rw[zgy]at a
  cases e:Qh l j with
  |some d=>
   rw[e]at a;have f:d=u:=Si a
   subst f;exact(h.all j _ e).beside h.map g
  |none=>
   rw[e,Option.none_or]at a
   by_cases b:j=n+1
   ·rw[kE b]at a;cases a;rw[b];exact k.beside h.map g
   rw[kF b]at a;cases a
 have c:=h.dom j;rw[zgy]
 cases e:Qh l j with
 |some d=>
  rw[e]at c;have:=of_decide_eq_true c.symm;exact(decide_eq_true Wm).symm
 |none=>
  rw[e]at c;have:=of_decide_eq_false c.symm;rw[Option.none_or]
  by_cases b:j=n+1
  ·rw[kE b];exact(decide_eq_true Wm).symm
  rw[kF b];exact(decide_eq_false Wm).symm
theorem zlx(w:Xn):Xp prog 22 #[] w fun e w'=>(∃(I:Nat)(l:List (Int×Xq)),e=Xl (.map (Xa I))/\zdF w' I l/\(∀k v,Qh l k=Xa v->qH w' k v)/\∀k,(Qh l k).isSome=decide (1<=k/\k<=15))/\zc w w':=by
 obtain⟨c,y⟩:=kA w.heap.size;obtain⟨D,m⟩:=kB (w.alloc (.map #[] 0));have U:=@run_makeMap prog;have i:Xo (w.heap.size<=c):=dD<|by rw[y.out];exact nR _
 obtain⟨a0,a9⟩:∃l,Xo (Wks w D c 0 l):=⟨[],show Wks _ _ _ _ _ from⟨by rw[<-m];exact za _ _,by rw[<-m,<-y.out];exact zdF.made w,(fun _ _ aj=>nomatch aj),fun k=>(decide_eq_false Wm).symm⟩⟩
 go_enter func22,ntmps22
 go_wp2_with fail;rw[y.out];clear U;try rw[m]
 clear m;refine(jd _ _).mono ?_;rintro r w'⟨rfl,a⟩;rw[a];clear a w';obtain⟨A,b⟩:=kB (D.alloc (Xk #[.func (.func 35) #[] #[]] 80));obtain⟨h,g⟩:=kA D.heap.size;have X:Xo (qH A 1 (.func (.func 73) #[] #[Xj (Xa ⟨h,0,Xb⟩)])):=dD<|qH.aC rfl (by rw[<-b];exact zg.aD _ [.func (.func 35) #[] #[]] _ g.symm)
 have K:Xo (Wks w A c 0 a0):=dD<|a9.aA (by rw[<-b];exact za _ _)
 rw[b,g.out];clear b
 go_wp2_with(refine zE rfl underlying3 underlying82 (.tmp 1) (.const (I6 1)) (.tmp 2) rfl c a0 K.map 1 (.func (.func 73) #[] #[Xj (Xa ⟨h,0,Xb⟩)]) rfl rfl rfl K.no ?_)
 intro E f d;obtain⟨a1,aa⟩:∃l,Xo (Wks w E c 1 l):=⟨_,K.put Wm i X f d⟩
 clear f d K;go_wp2_with fail;refine(jd _ _).mono ?_;rintro r w'⟨rfl,a⟩;rw[a];clear a w';obtain⟨A,b⟩:=kB (E.alloc (Xk #[.func (.func 36) #[] #[]] 80));obtain⟨h,g⟩:=kA E.heap.size;have X:Xo (qH A 2 (.func (.func 73) #[] #[Xj (Xa ⟨h,0,Xb⟩)])):=dD<|qH.aC rfl (by rw[<-b];exact zg.aD _ [.func (.func 36) #[] #[]] _ g.symm)
 have K:Xo (Wks w A c 1 a1):=dD<|aa.aA (by rw[<-b];exact za _ _)
 rw[b,g.out];clear b
 go_wp2_with(refine zE rfl underlying3 underlying82 (.tmp 1) (.const (I6 2)) (.tmp 3) rfl c a1 K.map 2 (.func (.func 73) #[] #[Xj (Xa ⟨h,0,Xb⟩)]) rfl rfl rfl K.no ?_)
 intro M f d;obtain⟨a2,ab⟩:∃l,Xo (Wks w M c 2 l):=⟨_,K.put Wm i X f d⟩
 clear f d K;go_wp2_with fail;refine(jd _ _).mono ?_;rintro r w'⟨rfl,a⟩;rw[a];clear a w';obtain⟨A,b⟩:=kB (M.alloc (Xk #[.func (.func 37) #[] #[]] 80));obtain⟨h,g⟩:=kA M.heap.size;have X:Xo (qH A 3 (.func (.func 73) #[] #[Xj (Xa ⟨h,0,Xb⟩)])):=dD<|qH.aC rfl (by rw[<-b];exact zg.aD _ [.func (.func 37) #[] #[]] _ g.symm)
 have K:Xo (Wks w A c 2 a2):=dD<|ab.aA (by rw[<-b];exact za _ _)
 rw[b,g.out];clear b
 go_wp2_with(refine zE rfl underlying3 underlying82 (.tmp 1) (.const (I6 3)) (.tmp 4) rfl c a2 K.map 3 (.func (.func 73) #[] #[Xj (Xa ⟨h,0,Xb⟩)]) rfl rfl rfl K.no ?_)
 intro N f d;obtain⟨a3,ac⟩:∃l,Xo (Wks w N c 3 l):=⟨_,K.put Wm i X f d⟩
 clear f d K;go_wp2_with fail;refine(jd _ _).mono ?_;rintro r w'⟨rfl,a⟩;rw[a];clear a w';obtain⟨A,b⟩:=kB (N.alloc (Xk #[.func (.func 38) #[] #[]] 80));obtain⟨h,g⟩:=kA N.heap.size;have X:Xo (qH A 4 (.func (.func 73) #[] #[Xj (Xa ⟨h,0,Xb⟩)])):=dD<|qH.aC rfl (by rw[<-b];exact zg.aD _ [.func (.func 38) #[] #[]] _ g.symm)
 have K:Xo (Wks w A c 3 a3):=dD<|ac.aA (by rw[<-b];exact za _ _)
 rw[b,g.out];clear b
 go_wp2_with(refine zE rfl underlying3 underlying82 (.tmp 1) (.const (I6 4)) (.tmp 5) rfl c a3 K.map 4 (.func (.func 73) #[] #[Xj (Xa ⟨h,0,Xb⟩)]) rfl rfl rfl K.no ?_)
 intro P f d;obtain⟨a4,ad⟩:∃l,Xo (Wks w P c 4 l):=⟨_,K.put Wm i X f d⟩
 clear f d K;go_wp2_with fail;refine(jd _ _).mono ?_;rintro r w'⟨rfl,a⟩;rw[a];clear a w';obtain⟨A,b⟩:=kB (P.alloc (Xk #[.func (.func 39) #[] #[]] 80));obtain⟨h,g⟩:=kA P.heap.size;have X:Xo (qH A 5 (.func (.func 73) #[] #[Xj (Xa ⟨h,0,Xb⟩)])):=dD<|qH.aC rfl (by rw[<-b];exact zg.aD _ [.func (.func 39) #[] #[]] _ g.symm)
 have K:Xo (Wks w A c 4 a4):=dD<|ad.aA (by rw[<-b];exact za _ _)
 rw[b,g.out];clear b
 go_wp2_with(refine zE rfl underlying3 underlying82 (.tmp 1) (.const (I6 5)) (.tmp 6) rfl c a4 K.map 5 (.func (.func 73) #[] #[Xj (Xa ⟨h,0,Xb⟩)]) rfl rfl rfl K.no ?_)
 intro Q f d;obtain⟨a5,ae⟩:∃l,Xo (Wks w Q c 5 l):=⟨_,K.put Wm i X f d⟩
 clear f d K;go_wp2_with fail;refine(jd _ _).mono ?_;rintro r w'⟨rfl,a⟩;rw[a];clear a w';obtain⟨A,b⟩:=kB (Q.alloc (Xk #[.func (.func 40) #[] #[]] 80));obtain⟨h,g⟩:=kA Q.heap.size;have X:Xo (qH A 6 (.func (.func 73) #[] #[Xj (Xa ⟨h,0,Xb⟩)])):=dD<|qH.aC rfl (by rw[<-b];exact zg.aD _ [.func (.func 40) #[] #[]] _ g.symm)
 have K:Xo (Wks w A c 5 a5):=dD<|ae.aA (by rw[<-b];exact za _ _)
 rw[b,g.out];clear b
 go_wp2_with(refine zE rfl underlying3 underlying82 (.tmp 1) (.const (I6 6)) (.tmp 7) rfl c a5 K.map 6 (.func (.func 73) #[] #[Xj (Xa ⟨h,0,Xb⟩)]) rfl rfl rfl K.no ?_)
 intro R f d;obtain⟨a6,af⟩:∃l,Xo (Wks w R c 6 l):=⟨_,K.put Wm i X f d⟩
 clear f d K;go_wp2_with fail;refine(jd _ _).mono ?_;rintro r w'⟨rfl,a⟩;rw[a];clear a w';obtain⟨A,b⟩:=kB (R.alloc (Xk #[.func (.func 41) #[] #[]] 80));obtain⟨h,g⟩:=kA R.heap.size;have X:Xo (qH A 7 (.func (.func 73) #[] #[Xj (Xa ⟨h,0,Xb⟩)])):=dD<|qH.aC rfl (by rw[<-b];exact zg.aD _ [.func (.func 41) #[] #[]] _ g.symm)
 have K:Xo (Wks w A c 6 a6):=dD<|af.aA (by rw[<-b];exact za _ _)
 rw[b,g.out];clear b
 go_wp2_with(refine zE rfl underlying3 underlying82 (.tmp 1) (.const (I6 7)) (.tmp 8) rfl c a6 K.map 7 (.func (.func 73) #[] #[Xj (Xa ⟨h,0,Xb⟩)]) rfl rfl rfl K.no ?_)
 intro ai f d;obtain⟨ak,C⟩:∃l,Xo (Wks w ai c 7 l):=⟨_,K.put Wm i X f d⟩
 clear f d K
 go_wp2_with(refine zE rfl underlying3 underlying82 (.tmp 1) (.const (I6 8)) (.func 42) rfl c ak C.map 8 (.func (.func 42) #[] #[]) rfl rfl rfl C.no ?_)
 intro S f d;obtain⟨a7,ag⟩:∃l,Xo (Wks w S c 8 l):=⟨_,C.put Wm i (qH.own rfl) f d⟩
 clear f d;go_wp2_with fail;refine(JG _ _).mono ?_;rintro r w'⟨rfl,a⟩;rw[a];clear a w';obtain⟨A,b⟩:=kB (S.alloc (Xk #[.func (.func 44) #[] #[]] 80));obtain⟨h,g⟩:=kA S.heap.size;have X:Xo (qH A 9 (.func (.func 88) #[] #[Xj (Xa ⟨h,0,Xb⟩)])):=dD<|qH.file rfl (by rw[<-b];exact zg.aD _ [.func (.func 44) #[] #[]] _ g.symm)
 have K:Xo (Wks w A c 8 a7):=dD<|ag.aA (by rw[<-b];exact za _ _)
 rw[b,g.out];clear b
 go_wp2_with(refine zE rfl underlying3 underlying82 (.tmp 1) (.const (I6 9)) (.tmp 9) rfl c a7 K.map 9 (.func (.func 88) #[] #[Xj (Xa ⟨h,0,Xb⟩)]) rfl rfl rfl K.no ?_)
 intro T f d;obtain⟨a8,ah⟩:∃l,Xo (Wks w T c 9 l):=⟨_,K.put Wm i X f d⟩
 clear f d K;go_wp2_with fail;refine(JG _ _).mono ?_;rintro r w'⟨rfl,a⟩;rw[a];clear a w';obtain⟨A,b⟩:=kB (T.alloc (Xk #[.func (.func 45) #[] #[]] 80));obtain⟨h,g⟩:=kA T.heap.size;have X:Xo (qH A 10 (.func (.func 88) #[] #[Xj (Xa ⟨h,0,Xb⟩)])):=dD<|qH.file rfl (by rw[<-b];exact zg.aD _ [.func (.func 45) #[] #[]] _ g.symm)
 have K:Xo (Wks w A c 9 a8):=dD<|ah.aA (by rw[<-b];exact za _ _)
 rw[b,g.out];clear b
 go_wp2_with(refine zE rfl underlying3 underlying82 (.tmp 1) (.const (I6 10)) (.tmp 10) rfl c a8 K.map 10 (.func (.func 88) #[] #[Xj (Xa ⟨h,0,Xb⟩)]) rfl rfl rfl K.no ?_)
 intro s f d;obtain⟨u,z⟩:∃l,Xo (Wks w s c 10 l):=⟨_,K.put Wm i X f d⟩
 clear f d K;go_wp2_with fail;refine(JG _ _).mono ?_;rintro r w'⟨rfl,a⟩;rw[a];clear a w';obtain⟨A,b⟩:=kB (s.alloc (Xk #[.func (.func 46) #[] #[]] 80));obtain⟨h,g⟩:=kA s.heap.size;have X:Xo (qH A 11 (.func (.func 88) #[] #[Xj (Xa ⟨h,0,Xb⟩)])):=dD<|qH.file rfl (by rw[<-b];exact zg.aD _ [.func (.func 46) #[] #[]] _ g.symm)
 have K:Xo (Wks w A c 10 u):=dD<|z.aA (by rw[<-b];exact za _ _)
 rw[b,g.out];clear b
 go_wp2_with(refine zE rfl underlying3 underlying82 (.tmp 1) (.const (I6 11)) (.tmp 11) rfl c u K.map 11 (.func (.func 88) #[] #[Xj (Xa ⟨h,0,Xb⟩)]) rfl rfl rfl K.no ?_)
 intro t f d;obtain⟨x,B⟩:∃l,Xo (Wks w t c 11 l):=⟨_,K.put Wm i X f d⟩
 clear f d K;go_wp2_with fail;refine(JG _ _).mono ?_;rintro r w'⟨rfl,a⟩;rw[a];clear a w';obtain⟨A,b⟩:=kB (t.alloc (Xk #[.func (.func 47) #[] #[]] 80));obtain⟨h,g⟩:=kA t.heap.size;have X:Xo (qH A 12 (.func (.func 88) #[] #[Xj (Xa ⟨h,0,Xb⟩)])):=dD<|qH.file rfl (by rw[<-b];exact zg.aD _ [.func (.func 47) #[] #[]] _ g.symm)
 have K:Xo (Wks w A c 11 x):=dD<|B.aA (by rw[<-b];exact za _ _)
 rw[b,g.out];clear b
 go_wp2_with(refine zE rfl underlying3 underlying82 (.tmp 1) (.const (I6 12)) (.tmp 12) rfl c x K.map 12 (.func (.func 88) #[] #[Xj (Xa ⟨h,0,Xb⟩)]) rfl rfl rfl K.no ?_)
 intro F f d;obtain⟨V,n⟩:∃l,Xo (Wks w F c 12 l):=⟨_,K.put Wm i X f d⟩
 clear f d K
 go_wp2_with(refine zE rfl underlying3 underlying82 (.tmp 1) (.const (I6 13)) (.func 48) rfl c V n.map 13 (.func (.func 48) #[] #[]) rfl rfl rfl n.no ?_)
 intro G f d;obtain⟨W,p⟩:∃l,Xo (Wks w G c 13 l):=⟨_,n.put Wm i (qH.own rfl) f d⟩
 clear f d
 go_wp2_with(refine zE rfl underlying3 underlying82 (.tmp 1) (.const (I6 14)) (.func 49) rfl c W p.map 14 (.func (.func 49) #[] #[]) rfl rfl rfl p.no ?_)
 intro H f d;obtain⟨Y,q⟩:∃l,Xo (Wks w H c 14 l):=⟨_,p.put Wm i (qH.own rfl) f d⟩
 clear f d
 go_wp2_with(refine zE rfl underlying3 underlying82 (.tmp 1) (.const (I6 15)) (.func 50) rfl c Y q.map 15 (.func (.func 50) #[] #[]) rfl rfl rfl q.no ?_)
 intro L f d;obtain⟨Z,j⟩:∃l,Xo (Wks w L c 15 l):=⟨_,q.put Wm i (qH.own rfl) f d⟩
 clear f d;go_wp2;go_ret;exact⟨⟨c,Z,rfl,j.map,j.all,j.dom⟩,j.gr⟩
theorem ziY(h:0<=z)(o:Oper)(a:Act)(x:Operand)(w:Xn)(c:o.op=.binOp .rem 3 x (.const (I6 8)) 3)(d:a.eval x=I6 z):(execOp a.eval o).run prog w=.ok (.value (I6 (z%8))) w:=by
 have b:a.eval (.const (I6 8))=I6 8:=rfl;simp only[execOp,c,d,b]
 go_simp
 exact Int.tmod_eq_emod_of_nonneg h
theorem znX{n c k:Nat}(o:Oper)(a:Act)(x y:Operand)(w:Xn)(d:o.op=.indexAddr 30 x y)(e:a.eval x=O (Xa ⟨g,0,Xb⟩) n c)(f:a.eval y=I6 (k:Int))(h:k<n):(execOp a.eval o).run prog w=.ok (.value (Xj (Xa ⟨g,k*13,Xb⟩))) w:=by
 have b:(k:Int)<(n:Int):=Wm
 simp only[execOp,d,e,f]
 go_simp
def ziR(m:Ma)(BF:Nat->Nat->Ar->Pg->Bool->Bool×Nat×Ma)(c:Cl)(er n:Int)(l:List Int)(m':Ma):Prop:=
 (n=0/\l=[]/\zqA m BF c c.n Xd er)\/(er=0/\n=c.n/\∃(kk:Nat)(fr:Fr),znw m BF c c.n Xd kk m' fr/\l=((pgL fr.p).drop (c.pt%8).toNat).take c.n.toNat)
theorem zj3{n:Int}{b:Option Addr}{d c:Nat}(o:Oper)(a:Act)(x y:Operand)(w:Xn)(e:o.op=.build 54 #[(1,x),(2,y)])(f:a.eval x=I6 n)(g:a.eval y=O b d c):(execOp a.eval o).run prog w=.ok (.value (Xi #[I6 0,I6 n,O b d c])) w:=by
 simp only[execOp,e,List.map_toArray,mP,Yk,f,g]
 go_simp
theorem zmq{w:Xn}{p:Nat}(h:ChW w0 noX p w V m)(c:Cl)(BF:Nat->Nat->Ar->Pg->Bool->Bool×Nat×Ma)(aa:-9223372036854775808<=c.pt)(R:c.pt<=9223372036854775807)(ab:-9223372036854775808<=c.n)(ac:c.n<=9223372036854775807)
  (bv:∀W,zc w W->Xp prog 140 #[Xi (mL V m).toArray,I6 c.aC,I6 (c.pt/8),Xh Xd] W fun e w'=>((∃E:Int,e=Xl (Xm #[Xi zR.toArray,I6 0,I6 E])/\jm m BF c.aC (c.pt/8) Xd E)\/(∃(V':MaV)(k ck:Nat)(m':Ma),e=Xl (Xm #[Xi (mL V' m').toArray,I6 (k:Int),I6 0])/\zco m BF c.aC (c.pt/8) Xd k m'/\ChW W noX ck w' V' m'))/\zc W w')
  (bu:∀(j:Nat)(m':Ma),zco m BF c.aC (c.pt/8) Xd j m'->∃fr:Fr,m'.fs[j]?=Xa fr/\(fr.f=-1\/∃(Y:Nat)(fl:Fl),fr.f=(Y:Int)/\m'.fl[Y]?=Xa fl)/\0<=fr.x/\fr.x<1000):
  Xp prog 38 #[Xj (Xa ⟨p,0,Xb⟩),Xi #[I6 c.kind,I6 c.aC,I6 c.pt,I6 c.n,I6 c.file,I6 c.base,Xh c.rd,Xh c.wr,Xh c.sh,c.dv.x]] w fun e w'=>jX (ziR m BF c) w0 p w e w':=by
 have c4:Xo (ChW w0 noX p w V m):=h;have ax:Xo (p<w.heap.size):=h.aM p (.inl rfl);obtain⟨b,Z⟩:=kA w.heap.size;obtain⟨ak,q⟩:=kB ((w.alloc (Xk #[I6 c.kind,I6 c.aC,I6 c.pt,I6 c.n,I6 c.file,I6 c.base,Xh c.rd,Xh c.wr,Xh c.sh,c.dv.x] 25)).alloc (Xk #[I6 0,I6 0,eS] 54));have aj:=gD2 q
 have bd:Xo (zg ak b 25 [I6 c.kind,I6 c.aC,I6 c.pt,I6 c.n,I6 c.file,I6 c.base,Xh c.rd,Xh c.wr,Xh c.sh,c.dv.x]):=dD<|by rw[<-q];exact(zg.aD w [I6 c.kind,I6 c.aC,I6 c.pt,I6 c.n,I6 c.file,I6 c.base,Xh c.rd,Xh c.wr,Xh c.sh,c.dv.x] _ Z.symm).aA (za _ _)
 have A1:Xo (zg ak (b+1) 54 [I6 0,I6 0,eS]):=dD<|by rw[<-q];exact zg.aD _ [I6 0,I6 0,eS] _ (by have:=Z.out;simp;omega)
 have ap:Xo (b+1<ak.heap.size):=A1.box.lt;have l:Xo (p<b):=show _<_ by have:=ax.out;have:=Z.out;omega
 have bk:Xo (w0.heap.size<=b):=dD<|by have:=c4.lo;have:=l.out;omega
 have b8:Xo (_=ak):=q;have af:=zjh (h.aA aj) c c.n Xd BF aa R ab ac (fun W d=>bv W (aj.trans d)) bu
 have c2:Xo (c.pt<=9223372036854775807):=R;clear q h bv bu aa R;clear ab ac;have cn:=bd.box.c 3 rfl
 go_enter func38,ntmps38
 go_upto_region 1 with fail;rw[b8.out,Z.out]
 go_wp2_with(first|refine zm rfl 25 (.tmp 3) rfl b rfl bd.box underlying25 rfl Kr ?_|(go_at_call 81;refine af.mono ?_))
 clear af cn;rintro e a⟨k,E,rfl,ao,br,H⟩;have A2:Xo (zg a (b+1) 54 [I6 0,I6 0,eS]):=dD<|A1.aK ao (Hm l.out)
 have ca:Xo (zg a b 25 [I6 c.kind,I6 c.aC,I6 c.pt,I6 c.n,I6 c.file,I6 c.base,Xh c.rd,Xh c.wr,Xh c.sh,c.dv.x]):=dD<|bd.aK ao (Hm l.out)
 have bj:Xo (zc w0 a):=br;have bb:Xo (zk (fun k=>k=p) w a):=show zk _ _ _ from(zk.aA aj).trans ao
 clear ao br
 rcases H with U|⟨rfl,j,m',fr,V',ai,rfl,an,ad,bt,g⟩
 ·skip
  have X:=U.ne;have co:(E !=0)=Xc:=by simp[X]
  have ag:=jO E a;have au:Xo _:=show zqA _ _ _ _ _ _ from U
  have aw:Xo (E≠0):=X;clear U X;go_wp2_with fail;refine ag.mono ?_;rintro e c8⟨rfl,am⟩;have bw:=dD (A2.aA am);have c0:=dD (bj.trans am);have c6:Xo (zc a c8):=am;clear ag am;unfold Qk noS
  go_wp2_with(refine zh rfl 54 (.tmp 4) (.tmp 18) rfl (b+1) rfl [I6 E,I6 0,eS] rfl bw rfl Kr (by simp[Value.oneCell']) ?_)
  intro bc n be _;have c1:Xo (zc w0 bc):=dD<|zd c0 be (Hm bk.out)
  have bx:Xo (zg bc (b+1) 54 [I6 E,I6 0,eS]):=n;have c5:Xo (zk (fun k=>k=p) w bc):=show zk _ _ _ from(bb.trans (zk.aA c6)).beyond be (Hm Z.out)
  clear n be;go_wp2;refine bodyPost_ret (zB rfl _ rfl bx.box underlying54 rfl Kr) rfl (jX.err (V:=V) (m:=m) aw (.inl ⟨rfl,rfl,au⟩) c5 c1)
 have c3:Xo (znw m BF c c.n Xd j m' fr):=an;have bl:Xo (zg a p 88 (chL V' m')):=ad;have ba:Xo (zfL ai a V' m'):=g;have I:Xo (b+1<ai):=show _<_ by have:=ap.out;omega
 have b9:Xo (w.heap.size<=ai):=dD<|nT (bS aj) bt
 have a3:Xo (m'.fs[j]?=Xa fr):=an.2.2.1;have M:Xo (0<=c.pt/\0<=c.n/\c.n<=8-c.pt%8):=show _/\_ from of_decide_eq_true an.1
 clear an ad bt g;obtain⟨r,ar⟩:∃r:Nat,Xo (c.pt%8=(r:Int)):=⟨(c.pt%8).toNat,show _=_ by omega⟩
 obtain⟨s,av⟩:∃s:Nat,Xo (c.n=(s:Int)):=⟨c.n.toNat,show _=_ by have:=M.2.1;omega⟩
 have a4:Xo (r<8/\r+s<=8):=dD<|by have a7:=M.out;have a8:=ar.out;have ci:=av.out;rw[a8,ci]at a7;omega
 have ay:Xo (∀(o:Oper)(a6:Act)(x:Operand)(w:Xn),o.op=.binOp .rem 3 x (.const (I6 8)) 3->a6.eval x=I6 c.pt->(execOp a6.eval o).run prog w=.ok (.value (I6 (r:Int))) w):=show∀(o:Oper)(a6:Act)(x:Operand)(w:Xn),_ from fun o a6 x w a7 a8=>by rw[<-ar.out];exact ziY M.1 o a6 x w a7 a8
 have ae:=(gS.1 a3).1;obtain⟨F,al,T⟩:=ba.fs.aJ Wm
 have a0:Xo (∀W,zk (fun k=>k=b+1) a W->W.cell? ⟨p,0,Xb⟩=Xa (O (Xa ⟨F,0,Xb⟩) m'.fs.length al)):=dD<|fun W d=>by rw[<-T];exact(bl.aK d (Hm l.out)).box.c 0 rfl
 have a2:Xo (∀W,zk (fun k=>k=b+1) a W->zb z9 ai W (O (Xa ⟨F,0,Xb⟩) m'.fs.length al) m'.fs):=dD<|fun W d=>by rw[<-T];exact(ba.out.out (d.wide fun k H=>by have H:k=b+1:=H;have:=I.out;omega)).fs
 have N:Xo (∀W,zk (fun k=>k=b+1) a W->Box W b [I6 c.kind,I6 c.aC,I6 c.pt,I6 c.n,I6 c.file,I6 c.base,Xh c.rd,Xh c.wr,Xh c.sh,c.dv.x]):=dD<|fun W d=>(ca.aK d Wm).box
 have a5:Xo (j<m'.fs.length):=ae;obtain⟨bp,aq⟩:=kA m'.fs.length;rw[aq.out]at a2 a0 a5;clear T ae;obtain⟨⟨u,y,z,A,n,B,C,D⟩,cl,cm,ce,f,x⟩:=fr;have az:Xo (∀W,zk (fun k=>k=b+1) a W->W.rangeAt F (j*13) [U8 u,U8 y,U8 z,U8 A,U8 n,U8 B,U8 C,U8 D]):=show∀W,_ from fun W d Y v G=>(a2 W d).bJ a3 Y v (by
  have bg:=(gS.1 G).1
  show([U8 u,U8 y,U8 z,U8 A,U8 n,U8 B,U8 C,U8 D]++[I6 cl,Xh cm,Xh ce,I6 f,I6 x])[Y]?=Xa v
  rw[Yc bg];exact G)
 go_upto_region 4 with fail;refine wp_region_held (S:=fun W=>zk (fun k=>k=b+1) a W) zU ?_
 show wpAnyH _ _ _ _ _ 20 (Yi 20 Xd) _ a.drew
 have L:zc a a.drew:=(gW _)
 have i:zk (fun k=>k=b+1) a a.drew:=zk.aA L
 refine zK 0 (Xa 19) (Xj (Xa ⟨b,3,Xb⟩)) i ?_
 refine Uq ?_;refine Qf 1 (Xa 20) (I6 c.n) rfl rfl Kr Kr Kr (fun _ _ _ h=>h) (.inl ⟨rfl,fun W d=>jG _ (.tmp 19) rfl ⟨b,3,Xb⟩ rfl (I6 c.n) ((N W d).c 3 rfl) underlying3 rfl⟩) i ?_
 refine Uq ?_;refine zK 2 (Xa 21) (Xj (Xa ⟨p,0,Xb⟩)) i ?_
 refine Uq ?_;refine zK 3 (Xa 22) (Xj (Xa ⟨p,0,Xb⟩)) i ?_
 refine Uq ?_;refine zK 4 (Xa 23) (Xj (Xa ⟨p,0,Xb⟩)) i ?_
 refine Uq ?_;refine zK 5 (Xa 24) (Xj (Xa ⟨p,0,Xb⟩)) i ?_
 refine Uq ?_;refine zK 6 (Xa 25) (Xj (Xa ⟨p,0,Xb⟩)) i ?_
 refine Uq ?_;refine Qf 7 (Xa 26) (O (Xa ⟨F,0,Xb⟩) bp al) rfl rfl Kr Kr Kr (fun _ _ _ h=>h) (.inl ⟨rfl,fun W d=>jG _ (.tmp 25) rfl ⟨p,0,Xb⟩ rfl (O (Xa ⟨F,0,Xb⟩) bp al) (a0 W d) underlying30 rfl⟩) i ?_
 refine Uq ?_;refine zK 8 (Xa 27) (I6 (j:Int)) i ?_
 refine Uq ?_;refine Qf 9 (Xa 28) (Xj (Xa ⟨F,j*13,Xb⟩)) rfl rfl Kr Kr Kr (fun _ _ _ h=>h) (.inl ⟨rfl,fun W _=>znX _ _ _ _ W rfl rfl rfl a5⟩) i ?_
 refine Uq ?_;refine zK 10 (Xa 29) (Xj (Xa ⟨F,j*13,Xb⟩)) i ?_
 refine Uq ?_;refine Qf 11 (Xa 30) (Xi #[U8 u,U8 y,U8 z,U8 A,U8 n,U8 B,U8 C,U8 D]) rfl rfl Kr Kr Kr (fun _ _ _ h=>h) (yieldsIf_load_mid rfl 91 (.tmp 29) rfl F (j*13) rfl [U8 u,U8 y,U8 z,U8 A,U8 n,U8 B,U8 C,U8 D] _ (fun W d=>az.out W d) underlying91 rfl Kr) i ?_
 refine Uq ?_;refine zK 12 (Xa 31) (Xj (Xa ⟨b,2,Xb⟩)) i ?_
 refine Uq ?_;refine Qf 13 (Xa 32) (I6 c.pt) rfl rfl Kr Kr Kr (fun _ _ _ h=>h) (.inl ⟨rfl,fun W d=>jG _ (.tmp 31) rfl ⟨b,2,Xb⟩ rfl (I6 c.pt) ((N W d).c 2 rfl) underlying3 rfl⟩) i ?_
 refine Uq ?_;refine Qf 14 (Xa 33) (I6 (r:Int)) rfl rfl Kr Kr Kr (fun _ _ _ h=>h) (.inl ⟨rfl,fun W _=>ay.out _ _ _ W rfl rfl⟩) i ?_
 refine Uq ?_;refine zK 15 (Xa 34) (Xj (Xa ⟨b,3,Xb⟩)) i ?_
 refine Uq ?_;refine Qf 16 (Xa 35) (I6 (s:Int)) rfl rfl Kr Kr Kr (fun _ _ _ h=>h) (.inl ⟨rfl,fun W d=>jG _ (.tmp 34) rfl ⟨b,3,Xb⟩ rfl (I6 (s:Int)) (by rw[<-av.out];exact(N W d).c 3 rfl) underlying3 rfl⟩) i ?_
 refine Uq ?_;refine wpAnyH_all (rs:=[17]) Kr Sm ?_
 intro Y G;simp only[mC,nM,or_false]at G;subst G;refine zO (Xa 36) (fun v w'=>∃K:Sli,v=K.x/\zj byE w' v (([u,y,z,A,n,B,C,D].drop r).take s)/\(zb byE a.heap.size w' v (([u,y,z,A,n,B,C,D].drop r).take s))/\zc a w') rfl rfl rfl (zI.call [Xi #[U8 u,U8 y,U8 z,U8 A,U8 n,U8 B,U8 C,U8 D],I6 (r:Int),I6 (s:Int)] rfl func82 rfl rfl rfl ((zeW [u,y,z,A,n,B,C,D] r s a.drew rfl a4.1 a4.2).mono ?_)) ?_
 ·rintro e w'⟨v,rfl,bh,bf⟩;obtain⟨cb,cd,rfl⟩:=bh.form;exact⟨_,rfl,⟨cb,_,cd⟩,rfl,bh.at,bh.base (bS L),L.trans bf⟩
 rintro v bn⟨K,rfl,ah,g,Q⟩;have t:zk (fun k=>k=b+1) a bn:=zk.aA Q
 refine⟨t,?_⟩;refine Uq ?_;refine Qf 18 (Xa 37) (Xi #[I6 0,I6 c.n,K.x]) rfl rfl Kr Kr Kr (fun _ _ _ h=>h) (.inl ⟨rfl,fun W _=>zj3 _ _ _ _ W rfl rfl rfl⟩) t ?_
 refine Uq ?_;refine wpAnyH_all (rs:=[19]) Kr Sm ?_
 intro Y G;simp only[mC,nM,or_false]at G;subst G;refine zO Xb (fun v w'=>zg w' (b+1) 54 [I6 0,I6 c.n,K.x]/\bn.grownBy w' (Xa (b+1))) rfl rfl rfl (zI.aL 54 (.tmp 4) (.tmp 37) rfl (b+1) rfl [I6 0,I6 c.n,K.x] rfl (A2.aA Q) rfl Kr (by simp[Value.oneCell']) (fun w' cc ch cp=>⟨cc,ch⟩)) ?_
 rintro v bm⟨bo,P⟩;have a1:Xo (jX (ziR m BF c) w0 p w (Xl (Qk 0 c.n K)) bm):=dD<|by
  have cf:(c.pt%8).toNat=r:=Rr ar.out
  have cg:c.n.toNat=s:=Rr av.out
  have bi:=g.grown P (fun k H e=>by cases e;have a7:=(g.lt _ H).1;have a8:=A2.box.lt;omega)
  have cj:=(ba.aA Q).out (zk.grown P I);refine⟨0,c.n,K,_,V',m',rfl,.inr ⟨rfl,rfl,j,_,c3,rfl⟩,(bb.trans (zk.aA Q)).beyond P (Hm Z.out),zd (bj.trans Q) P (Hm bk.out),fun W d=>?_,fun _=>⟨(bl.aA Q).beside P (fun k e=>by cases e;have:=l.out;omega),fun W d=>(cj.out (d.wide fun k H=>Xs H b9)).at⟩⟩
  rw[cf,cg];exact zb.at (base:=a.heap.size) ⟨ji bi.1 d (fun bq bf e=>by have a7:=(bi.lt bq bf).1;have e:bq<w.heap.size:=e;have a8:=bb.size;omega),bi.2⟩
 have bz:Xo (zg bm (b+1) 54 [I6 0,I6 c.n,K.x]):=bo;refine⟨t.trans (zk.grown P rfl),?_⟩;simp only[Xw];refine wpAnyH_done Kr ?_ _
 clear bo P ah g Q t;go_wp2;refine bodyPost_ret (zB rfl _ rfl bz.box underlying54 rfl Kr) rfl a1.out
theorem zhN{cs vs:List Int}{o:Nat}(h:o+vs.length<=cs.length):(splice cs o vs).length=cs.length:=by
 unfold splice;simp only[lA,Xt,Xu];omega
theorem zlW{a:Act}(w:Xn)(e:TypeId)(x:Operand)(h:o.op=.load e x)(b c:Nat)(j:a.eval x=Xj (Xa ⟨b,c,Xb⟩))(vs:List Xq)(f:w.rangeAt b c vs){d:TypeDesc}(i:Tryz.prog.underlying e=Xa d)(g:d.isRow=Xc)(hi:(Tryz.prog.info? e).map (·.size)=Xa vs.length):(execOp a.eval o).run prog w=.ok (.value (Xi vs.toArray)) w:=by
 have:=run_loadAt_mid (P:=prog) w b c e vs d f i g hi;simp only[execOp,h,j,Yl,this,rA,Ob]
def zdz(m:Ma)(BF:Nat->Nat->Ar->Pg->Bool->Bool×Nat×Ma)(c:Cl)(ns:List Int)(er n:Int)(l:List Int)(m'':Ma):Prop:=
 l=[]/\((n=0/\zqA m BF c (c.dv.n:Int) Xc er)\/(er=0/\n=(c.dv.n:Int)/\∃(kk:Nat)(m':Ma)(fr:Fr)(pg:Pg),znw m BF c (c.dv.n:Int) Xc kk m' fr/\splice (pgL fr.p) (c.pt%8).toNat ns=pgL pg/\m''={m' with fs:=m'.fs.set kk {fr with p:=pg}}))
theorem zkp{w:Xn}{p:Nat}(ap:ChW w0 noX p w V m)(c:Cl)(ns:List Int)(BF:Nat->Nat->Ar->Pg->Bool->Bool×Nat×Ma)(ae:-9223372036854775808<=c.pt)(a1:c.pt<=9223372036854775807)(bo:zj byE w0 (O c.dv.a c.dv.n c.dv.c) ns)(af:(c.dv.n:Int)<=9223372036854775807)
  (c2:∀W,zc w W->Xp prog 140 #[Xi #[O V.f.a V.f.n V.f.c,Xe Xf m.aB,O V.s.a V.s.n V.s.c,O V.sb.a V.sb.n V.sb.c,O V.sq.a V.sq.n V.sq.c,O V.db.a V.db.n V.db.c,O V.dq.a V.dq.n V.dq.c,O V.fl.a V.fl.n V.fl.c,Xe Xf m.cnt,O V.ca.a V.ca.n V.ca.c,O V.sp.a V.sp.n V.sp.c],Xe Xf c.aC,Xe Xf (c.pt/8),Xh Xc] W fun e w'=>((∃U:Int,e=Xl (Xm #[Xi zR.toArray,Xe Xf 0,Xe Xf U])/\jm m BF c.aC (c.pt/8) Xc U)\/(∃(V':MaV)(k cm:Nat)(m':Ma),e=Xl (Xm #[Xi #[O V'.f.a V'.f.n V'.f.c,Xe Xf m'.aB,O V'.s.a V'.s.n V'.s.c,O V'.sb.a V'.sb.n V'.sb.c,O V'.sq.a V'.sq.n V'.sq.c,O V'.db.a V'.db.n V'.db.c,O V'.dq.a V'.dq.n V'.dq.c,O V'.fl.a V'.fl.n V'.fl.c,Xe Xf m'.cnt,O V'.ca.a V'.ca.n V'.ca.c,O V'.sp.a V'.sp.n V'.sp.c],Xe Xf (k:Int),Xe Xf 0])/\zco m BF c.aC (c.pt/8) Xc k m'/\ChW W noX cm w' V' m'))/\zc W w')
  (c1:∀(g:Nat)(m':Ma),zco m BF c.aC (c.pt/8) Xc g m'->∃fr:Fr,m'.fs[g]?=Xa fr/\(fr.f=-1\/∃(aj:Nat)(fl:Fl),fr.f=(aj:Int)/\m'.fl[aj]?=Xa fl)/\0<=fr.x/\fr.x<1000):
  Xp prog 39 #[Xj (Xa ⟨p,0,Xb⟩),Xi #[Xe Xf c.kind,Xe Xf c.aC,Xe Xf c.pt,Xe Xf c.n,Xe Xf c.file,Xe Xf c.base,Xh c.rd,Xh c.wr,Xh c.sh,O c.dv.a c.dv.n c.dv.c]] w fun e w'=>jX (zdz m BF c ns) w0 p w e w':=by
 have ce:Xo (ChW w0 noX p w V m):=ap;have bc:Xo (p<w.heap.size):=ap.aM p (.inl rfl);obtain⟨d,a4⟩:=kA w.heap.size;obtain⟨ao,v⟩:=kB ((w.alloc (Xk #[Xe Xf c.kind,Xe Xf c.aC,Xe Xf c.pt,Xe Xf c.n,Xe Xf c.file,Xe Xf c.base,Xh c.rd,Xh c.wr,Xh c.sh,O c.dv.a c.dv.n c.dv.c] 25)).alloc (Xk #[Xe Xf 0,Xe Xf 0,O Xb 0 0] 54));have an:=gD2 v
 have bj:Xo (zg ao d 25 [Xe Xf c.kind,Xe Xf c.aC,Xe Xf c.pt,Xe Xf c.n,Xe Xf c.file,Xe Xf c.base,Xh c.rd,Xh c.wr,Xh c.sh,O c.dv.a c.dv.n c.dv.c]):=dD<|by rw[<-v];exact(zg.aD w [Xe Xf c.kind,Xe Xf c.aC,Xe Xf c.pt,Xe Xf c.n,Xe Xf c.file,Xe Xf c.base,Xh c.rd,Xh c.wr,Xh c.sh,O c.dv.a c.dv.n c.dv.c] _ a4.symm).aA (za _ _)
 have A1:Xo (zg ao (d+1) 54 [Xe Xf 0,Xe Xf 0,O Xb 0 0]):=dD<|by rw[<-v];exact zg.aD _ [Xe Xf 0,Xe Xf 0,O Xb 0 0] _ (by have:=a4.out;simp;omega)
 have ax:Xo (d+1<ao.heap.size):=A1.box.lt;have u:Xo (p<d):=show _<_ by have:=bc.out;have:=a4.out;omega
 have ba:Xo (w0.heap.size<=d):=dD<|by have:=ce.lo;have:=u.out;omega
 have bg:Xo (_=ao):=v;have ah:=zjh (ap.aA an) c (c.dv.n:Int) Xc BF ae a1 Wm af (fun W b=>c2 W (an.trans b)) c1
 have cb:Xo (c.pt<=9223372036854775807):=a1;clear v ap c2 c1 ae a1;clear af;have cc:Xo (zj byE w0 (O c.dv.a c.dv.n c.dv.c) ns):=bo;have a7:Xo (c.dv.n=ns.length):=bo.n;clear bo;have br:=bj.box.c 9 rfl
 go_enter func39,ntmps39
 go_upto_region 1 with fail;rw[bg.out,a4.out]
 go_wp2_with(first|refine zm rfl 25 (.tmp 3) rfl d rfl bj.box underlying25 rfl Kr ?_|(go_at_call 81;refine ah.mono ?_))
 clear ah br;rintro e j⟨k,U,rfl,ar,bz,bp⟩;have A2:Xo (zg j (d+1) 54 [Xe Xf 0,Xe Xf 0,O Xb 0 0]):=dD<|A1.aK ar (Hm u.out)
 have bk:Xo (zg j d 25 [Xe Xf c.kind,Xe Xf c.aC,Xe Xf c.pt,Xe Xf c.n,Xe Xf c.file,Xe Xf c.base,Xh c.rd,Xh c.wr,Xh c.sh,O c.dv.a c.dv.n c.dv.c]):=dD<|bj.aK ar (Hm u.out)
 have av:Xo (zc w0 j):=bz;have bt:Xo (zk (fun k=>k=p) w j):=show zk _ _ _ from(zk.aA an).trans ar
 clear ar bz
 rcases bp with a2|⟨rfl,g,m',fr,V',Y,rfl,aq,ag,c0,X⟩
 ·skip
  have a3:=a2.ne;have cq:(U !=0)=Xc:=by simp[a3]
  have ai:=jO U j;have b9:Xo _:=show zqA _ _ _ _ _ _ from a2
  have bb:Xo (U≠0):=a3;clear a2 a3;go_wp2_with fail;refine ai.mono ?_;rintro e bv⟨rfl,q⟩;have c8:=dD (A2.aA q);have ca:=dD (av.trans q);have ch:Xo (zc j bv):=q;clear ai q;unfold Qk noS
  go_wp2_with(refine zh rfl 54 (.tmp 4) (.tmp 20) rfl (d+1) rfl [Xe Xf U,Xe Xf 0,O Xb 0 0] rfl c8 rfl Kr (by simp[Value.oneCell']) ?_)
  intro z l bm _;have aw:Xo (zc w0 z):=dD<|zd ca bm (Hm ba.out)
  have au:Xo (zg z (d+1) 54 [Xe Xf U,Xe Xf 0,O Xb 0 0]):=l;have bi:Xo (zk (fun k=>k=p) w z):=show zk _ _ _ from(bt.trans (zk.aA ch)).beyond bm (Hm a4.out)
  clear l bm;go_wp2;refine bodyPost_ret (zB rfl _ rfl au.box underlying54 rfl Kr) rfl (jX.err (V:=V) (m:=m) bb ⟨rfl,.inl ⟨rfl,b9⟩⟩ bi aw)
 have cd:Xo (znw m BF c (c.dv.n:Int) Xc g m' fr):=aq;have bu:Xo (zg j p 88 (chL V' m')):=ag;have bh:Xo (zfL Y j V' m'):=X;have s:Xo (d+1<Y):=show _<_ by have:=ax.out;omega
 have ab:Xo (w.heap.size<=Y):=dD<|nT (bS an) c0
 have Z:Xo (m'.fs[g]?=Xa fr):=aq.2.2.1;have aa:Xo (0<=c.pt/\0<=(c.dv.n:Int)/\(c.dv.n:Int)<=8-c.pt%8):=show _/\_ from of_decide_eq_true aq.1
 clear aq ag c0 X;obtain⟨r,b8⟩:∃r:Nat,Xo (c.pt%8=(r:Int)):=⟨(c.pt%8).toNat,show _=_ by omega⟩
 have a0:Xo (r<8/\r+ns.length<=8):=dD<|by have a5:=aa.out;have bn:=b8.out;have cp:=a7.out;rw[bn]at a5;omega
 have bd:Xo (∀(o:Oper)(a:Act)(x:Operand)(w:Xn),o.op=.binOp .rem 3 x (.const (Xe Xf 8)) 3->a.eval x=Xe Xf c.pt->(execOp a.eval o).run prog w=.ok (.value (Xe Xf (r:Int))) w):=show∀(o:Oper)(a:Act)(x:Operand)(w:Xn),_ from fun o a x w a5 bn=>by rw[<-b8.out];exact ziY aa.1 o a x w a5 bn
 have bq:=(gS.1 Z).1;obtain⟨h,bl,y⟩:=bh.fs.aJ Wm
 have bx:j.cell? ⟨p,0,Xb⟩=Xa (O (Xa ⟨h,0,Xb⟩) m'.fs.length bl):=by rw[<-y];exact bu.box.c 0 rfl
 have H:Xo (zb z9 Y j (O (Xa ⟨h,0,Xb⟩) m'.fs.length bl) m'.fs):=dD<|Ry y bh.fs
 have a8:Xo (O V'.f.a V'.f.n V'.f.c=O (Xa ⟨h,0,Xb⟩) m'.fs.length bl):=y;have az:Xo (oB V'.f h):=show oB _ _ by unfold oB;rw[y];rfl
 have t:Xo (Y<=h):=dD<|(H.lt h rfl).1
 have K:(g:Int)<(m'.fs.length:Int):=Wm
 obtain⟨co,ay⟩:=kA m'.fs.length;rw[ay.out]at H bx K a8;clear y bq;obtain⟨⟨A,B,C,D,l,n,F,G⟩,al,a6,ac,f,x⟩:=fr;obtain⟨L,M,N,P,Q,R,S,T,c4⟩:=zc4 (splice [A,B,C,D,l,n,F,G] r ns) (by have:=a0.out;rw[zhN (by simp;omega)];rfl)
 have bs:Xo (splice [A,B,C,D,l,n,F,G] r ns=[L,M,N,P,Q,R,S,T]):=c4;clear c4;have be:Xo (∀W,zc j W->W.rangeAt h (g*13) [Xe Xg A,Xe Xg B,Xe Xg C,Xe Xg D,Xe Xg l,Xe Xg n,Xe Xg F,Xe Xg G]):=show∀W,_ from fun W b aj am c3=>(H.aA b).bJ Z aj am (by
  have K:=(gS.1 c3).1
  show([Xe Xg A,Xe Xg B,Xe Xg C,Xe Xg D,Xe Xg l,Xe Xg n,Xe Xg F,Xe Xg G]++[Xe Xf al,Xh a6,Xh ac,Xe Xf f,Xe Xf x])[aj]?=Xa am
  rw[Yc K];exact c3)
 have bf:Xo (∀W,zc j W->Xp prog 83 #[Xi #[Xe Xg A,Xe Xg B,Xe Xg C,Xe Xg D,Xe Xg l,Xe Xg n,Xe Xg F,Xe Xg G],Xe Xf (r:Int),O c.dv.a c.dv.n c.dv.c] W fun e w'=>e=Xl (Xi #[Xe Xg L,Xe Xg M,Xe Xg N,Xe Xg P,Xe Xg Q,Xe Xg R,Xe Xg S,Xe Xg T])/\zc W w'):=dD<|fun W b=>by
  have a5:=cc.aA (av.trans b);rw[a7.out]at a5⊢;exact QQ A B C D l n F G L M N P Q R S T r ns c.dv.a c.dv.c W a0.1 a0.2 a5 bs.out
 go_upto_region 5 with fail;clear bx K;refine qj (I:=fun W=>zc j W) 13 [(10,fun am=>am=Xi #[Xe Xg L,Xe Xg M,Xe Xg N,Xe Xg P,Xe Xg Q,Xe Xg R,Xe Xg S,Xe Xg T])] (fun _=>True) (gW _) trivial zU Kr rfl rfl Dc (Sa ⟨_,rfl⟩) Kr ?_
 simp only[Ym,Yn];refine Zk (Xj (Xa ⟨h,g*13,Xb⟩)) rfl rfl (fun W b=>rfl) ?_
 refine Uq ?_;refine Zk (Xj (Xa ⟨h,g*13,Xb⟩)) rfl rfl (fun W b=>rfl) ?_
 refine Uq ?_;refine qx (.tmp 30) ⟨h,g*13,Xb⟩ rfl rfl rfl rfl ?_;refine Uq ?_;refine Zk (Xj (Xa ⟨h,g*13,Xb⟩)) rfl rfl (fun W b=>rfl) ?_
 refine Uq ?_;refine Zk (Xi #[Xe Xg A,Xe Xg B,Xe Xg C,Xe Xg D,Xe Xg l,Xe Xg n,Xe Xg F,Xe Xg G]) rfl rfl (fun W b=>zlW W 91 (.tmp 32) rfl h (g*13) rfl [Xe Xg A,Xe Xg B,Xe Xg C,Xe Xg D,Xe Xg l,Xe Xg n,Xe Xg F,Xe Xg G] (be W b) underlying91 rfl Kr) ?_
 refine Uq ?_;refine Zk (Xj (Xa ⟨d,2,Xb⟩)) rfl rfl (fun W b=>rfl) ?_
 refine Uq ?_;refine Zk (Xe Xf c.pt) rfl rfl (fun W b=>jG _ (.tmp 34) rfl ⟨d,2,Xb⟩ rfl (Xe Xf c.pt) ((bk.box.aA b).c 2 rfl) underlying3 rfl) ?_
 refine Uq ?_;refine Zk (Xe Xf (r:Int)) rfl rfl (fun W b=>bd.out _ _ _ W rfl rfl) ?_
 refine Uq ?_;refine Zk (Xj (Xa ⟨d,9,Xb⟩)) rfl rfl (fun W b=>rfl) ?_
 refine Uq ?_;refine Zk (O c.dv.a c.dv.n c.dv.c) rfl rfl (fun W b=>jG _ (.tmp 37) rfl ⟨d,9,Xb⟩ rfl (O c.dv.a c.dv.n c.dv.c) ((bk.box.aA b).c 9 rfl) underlying23 rfl) ?_
 refine Uq ?_;refine zL rfl rfl (fun _ _=>True) (fun W b _=>?_) (fun am cl=>?_)
 ·refine zI.call [Xi #[Xe Xg A,Xe Xg B,Xe Xg C,Xe Xg D,Xe Xg l,Xe Xg n,Xe Xg F,Xe Xg G],Xe Xf (r:Int),O c.dv.a c.dv.n c.dv.c] rfl func83 rfl rfl rfl ?_;refine(bf W b).mono ?_;rintro e cn⟨rfl,ck⟩;exact⟨_,rfl,b.trans ck,rfl,trivial⟩
 subst cl;refine Uq ?_;refine qx (.tmp 29) ⟨h,g*13,Xb⟩ rfl rfl rfl rfl ?_;refine Uq ?_;refine Zk (Xj (Xa ⟨h,g*13,Xb⟩)) rfl rfl (fun W b=>rfl) ?_
 refine Uq ?_;refine jL fun bv q _=>?_
 refine zt (E:=z9) rfl (.tmp 41) (.tmp 39) 91 rfl Y _ m'.fs (H.aA q) h g 0 rfl ⟨⟨A,B,C,D,l,n,F,G⟩,al,a6,ac,f,x⟩ ⟨⟨L,M,N,P,Q,R,S,T⟩,al,a6,ac,f,x⟩ Z.out [Xe Xg L,Xe Xg M,Xe Xg N,Xe Xg P,Xe Xg Q,Xe Xg R,Xe Xg S,Xe Xg T] Kr rfl (Yf rfl) (by intro a6 c5;simp at c5;rcases c5 with rfl|rfl|rfl|rfl|rfl|rfl|rfl|rfl<;>rfl) ⟨h,g*13,Xb⟩ rfl rfl _ rfl rfl ?_
 intro z ak i _;have cf:Xo (zfL Y z V' {m' with fs:=m'.fs.set g ⟨⟨L,M,N,P,Q,R,S,T⟩,al,a6,ac,f,x⟩}):=dD<|(bh.aA q).frame az i (Rx a8.out ak)
 have cg:Xo (zg z p 88 (chL V' {m' with fs:=m'.fs.set g ⟨⟨L,M,N,P,Q,R,S,T⟩,al,a6,ac,f,x⟩})):=dD<|(bu.aA q).beside i (fun k e=>by cases e;have:=u.out;have:=s.out;have:=t.out;omega)
 have au:Xo (zg z (d+1) 54 [Xe Xf 0,Xe Xf 0,O Xb 0 0]):=dD<|(A2.aA q).beside i (fun k e=>by cases e;have:=s.out;have:=t.out;omega)
 have ci:Xo (zg z d 25 [Xe Xf c.kind,Xe Xf c.aC,Xe Xf c.pt,Xe Xf c.n,Xe Xf c.file,Xe Xf c.base,Xh c.rd,Xh c.wr,Xh c.sh,O c.dv.a c.dv.n c.dv.c]):=dD<|(bk.aA q).beside i (fun k e=>by cases e;have:=s.out;have:=t.out;omega)
 have aw:Xo (zc w0 z):=dD<|zd (av.trans q) i (by have:=ba.out;have:=s.out;have:=t.out;omega)
 have bi:Xo (zk (fun k=>k=p) w z):=dD<|(bt.trans (zk.aA q)).beyond i (by have:=ab.out;have:=t.out;omega)
 clear ak i q;try simp only[Xw]
 have br:=ci.box.c 9 rfl
 go_wp2_with(refine zh rfl 54 (.tmp 4) (.tmp 45) rfl (d+1) rfl [Xe Xf 0,Xe Xf (c.dv.n:Int),O Xb 0 0] rfl au rfl Kr (by simp[Value.oneCell']) ?_)
 intro bw n ad _;clear br;have c9:Xo (zg bw (d+1) 54 [Xe Xf 0,Xe Xf (c.dv.n:Int),O Xb 0 0]):=n;have a9:Xo (jX (zdz m BF c ns) w0 p w (Xl (Qk 0 (c.dv.n:Int) noS)) bw):=show jX _ _ _ _ _ _ from by
  have cj:(c.pt%8).toNat=r:=Rr b8.out
  refine jX.ok (V':=V') ⟨rfl,.inr ⟨rfl,rfl,g,m',_,⟨L,M,N,P,Q,R,S,T⟩,cd,Rx cj bs,rfl⟩⟩ (bi.beyond ad (Hm a4.out)) (zd aw ad (Hm ba.out)) (cg.beside ad (fun k e=>by cases e;have:=u.out;omega)) fun W b=>?_
  exact((cf.out.out (zk.grown ad s)).out (b.wide fun k bp=>Xs bp ab)).at
 clear n ad;go_wp2;refine bodyPost_ret (zB rfl _ rfl c9.box underlying54 rfl Kr) rfl a9.out
theorem zd7{s:Func}{p q:Tmp}{g c:TypeId}(t:s.results=#[.cell p g,.cell q c])(a:Array Xq){w:Xn}{f:Nat}(hp:a.getD p undef=Xj (Xa ⟨b,0,Xb⟩))(x:a.getD q undef=Xj (Xa ⟨f,0,Xb⟩))(u:Box w b vs)(i:Box w f us){d h:TypeDesc}(y:Tryz.prog.underlying g=Xa d)(v:d.isRow=Xc)(hi:(Tryz.prog.info? g).map (·.size)=Xa vs.length)(r:Tryz.prog.underlying c=Xa h)(j:h.isRow=Xc)(k:(Tryz.prog.info? c).map (·.size)=Xa us.length):
  (results s a).run prog w=.ok (Xm #[Xi vs.toArray,Xi us.toArray]) w:=by
 have m:a[p]?.getD undef=Xj (Xa ⟨b,0,Xb⟩):=Si hp
 have n:a[q]?.getD undef=Xj (Xa ⟨f,0,Xb⟩):=Si x
 have l:=run_loadVar_mid (P:=prog) w b 0 g vs d u.range y v hi;have e:=run_loadVar_mid (P:=prog) w f 0 c us h i.range r j k
 simp[results,t,m,n,asAddr,l,e]
theorem zlV{l:List (Int×Xq)}{x:Xq}{k:Int}(o:Oper)(a:Act)(y z:Operand)(w:Xn)(f:o.op=.lookup 82 y z Xc)(i:a.eval y=.map (Xa B))(j:a.eval z=I6 k)(d:zdF w B l)(g:Qh l k=Xa x):(execOp a.eval o).run prog w=.ok (.value (Xm #[x,Xh Xc])) w:=by
 obtain⟨c,b⟩:∃c,(zeroValue 80).run prog w=.ok c w:=⟨.nilFunc,by go_simp⟩
 have h:=d.look (t:=82) (e:=80) underlying3 underlying82 b k;rw[g]at h;simp only[execOp,f,i,j,Yl,h,rA,Ob];rfl
theorem zdE.bL{w:Xn}(h:zdE B w V m)(j:B0<=B)(o:zk (fun k=>k<B0) w W):zq W V m:=by
 obtain⟨r,c⟩:=h.bY (p:=w.heap.size) j (nR _) (o.wide fun k q=>.inl (.inl q))
 obtain⟨d,i,y,z,A,C,D⟩:=h.sp;have a:∀{f:Type}{E:Elt f}{v:Xq}{l:List f},zb E B w v l->zj E W v l:=fun b=>zb.at (base:=B) ⟨ji b.1 o (fun g n e=>by have:=(b.lt g n).1;have e:g<B0:=e;omega),b.2⟩
 exact⟨a h.fs,r.sl,r.sb,r.sq,r.db,r.dq,r.fl,a h.ca,⟨d,a y,z,fun u F x t s=>c d i A C D u F x t s⟩⟩
def Did(m:Ma)(K:Int->Int->List Int->Ma->Prop)(w:Xn)(e:Ending)(w':Xn):Prop:=
 ∃(er n:Int)(s:Sli)(l:List Int)(m' m2:Ma)(V':MaV),e=Xl (Xm #[Xi #[O V'.f.a V'.f.n V'.f.c,Xe Xf m2.aB,O V'.s.a V'.s.n V'.s.c,O V'.sb.a V'.sb.n V'.sb.c,O V'.sq.a V'.sq.n V'.sq.c,O V'.db.a V'.db.n V'.db.c,O V'.dq.a V'.dq.n V'.dq.c,O V'.fl.a V'.fl.n V'.fl.c,Xe Xf m2.cnt,O V'.ca.a V'.ca.n V'.ca.c,O V'.sp.a V'.sp.n V'.sp.c],Qk er n s])/\K er n l m'/\((er=0/\m2=m')\/(er≠0/\m2=m))/\∀W,zk (fun k=>k<w.heap.size) w' W->zq W V' m2/\zj byE W (O s.a s.n s.c) l
def Ql(w:Xn)(m:Ma)(c:Cl)(K:Int->Int->List Int->Ma->Prop):Prop:=
 ∀(w0 W:Xn)(p:Nat)(V1:MaV)(v:Xq),zc w w0->ChW w0 noX p W V1 m->qH W c.kind v->∃(F:Nat)(caps:Array Xq),v=.func (.func F) #[] caps/\Enters prog F/\Xp prog F (#[Xj (Xa ⟨p,0,Xb⟩),Xi #[Xe Xf c.kind,Xe Xf c.aC,Xe Xf c.pt,Xe Xf c.n,Xe Xf c.file,Xe Xf c.base,Xh c.rd,Xh c.wr,Xh c.sh,O c.dv.a c.dv.n c.dv.c]]++caps) W fun e w'=>ZI K w0 p W W e w'
theorem zq0(V:MaV)(m:Ma)(w:Xn)(bu:zq w V m)(bs:maW m=0)(c:Cl)(K:Int->Int->List Int->Ma->Prop)(g:1<=c.kind/\c.kind<=15)(Y:Ql w m c K):
  Xp prog 14 #[Xi (mL V m).toArray,Xi #[I6 c.kind,I6 c.aC,I6 c.pt,I6 c.n,I6 c.file,I6 c.base,Xh c.rd,Xh c.wr,Xh c.sh,c.dv.x]] w fun e w'=>Did m K w e w'/\zc w w':=by
 have cj:Xo (zq w V m):=bu;have dj:Xo (maW m=0):=bs;have bd:Xo (1<=c.kind/\c.kind<=15):=g;have bc:Xo (Ql w m c K):=Y;obtain⟨b,H⟩:=kA w.heap.size;obtain⟨a4,p⟩:=kB ((((w.alloc (Xk (mL V m).toArray 45)).alloc (Xk #[I6 c.kind,I6 c.aC,I6 c.pt,I6 c.n,I6 c.file,I6 c.base,Xh c.rd,Xh c.wr,Xh c.sh,c.dv.x] 25)).alloc (Xk zM.toArray 45)).alloc (Xk #[I6 0,I6 0,eS] 54));have cg:Xo (zc w a4):=show zc _ _ by rw[<-p];exact(((za _ _).trans (za _ _)).trans (za _ _)).trans (za _ _)
 have cn:Xo (zg a4 b 45 (chL V m)):=dD<|by rw[<-p];exact(zg.aD w (chL V m) _ H.symm).aA (((za _ _).trans (za _ _)).trans (za _ _))
 have d4:Xo (zg a4 (b+1) 25 [I6 c.kind,I6 c.aC,I6 c.pt,I6 c.n,I6 c.file,I6 c.base,Xh c.rd,Xh c.wr,Xh c.sh,c.dv.x]):=dD<|by rw[<-p];exact(zg.aD _ [I6 c.kind,I6 c.aC,I6 c.pt,I6 c.n,I6 c.file,I6 c.base,Xh c.rd,Xh c.wr,Xh c.sh,c.dv.x] _ (by have:=H.out;simp;omega)).aA ((za _ _).trans (za _ _))
 have d7:Xo (zg a4 (b+2) 45 zR):=dD<|by rw[<-p];exact(zg.aD _ zR _ (by have:=H.out;simp;omega)).aA (za _ _)
 have A1:Xo (zg a4 (b+3) 54 [I6 0,I6 0,eS]):=dD<|by rw[<-p];exact zg.aD _ [I6 0,I6 0,eS] _ (by have:=H.out;simp;omega)
 have bh:Xo (_=a4):=p;have b0:=Zn V m a4 (bu.aA cg) bs;have a3:Xo ((Tryz.prog.info? 45).map (·.size)=Xa (chL V m).length):=show _=_ by kernel_rfl
 clear p bu bs g Y
 go_enter func14,ntmps14
 go_upto_region 1 with fail;rw[bh.out,H.out]
 go_wp2_with(first|refine zm rfl 45 (.tmp 2) rfl b rfl cn.box underlying45 rfl a3.out ?_|(go_at_call 20;refine b0.mono ?_))
 clear b0;rintro e cm⟨rfl,ai⟩;have d0:=dD (cg.trans ai);have d2:=dD (cn.aA ai);have cp:=dD (d4.aA ai);have d8:=dD (d7.aA ai);have A2:=dD (A1.aA ai);clear ai;go_upto_region 4 with fail;have c0:=fun cb:zf cm=>(cp.box.aA cb.aA).c 0 rfl
 have bv:Nonempty (zf cm):=⟨⟨_,zc.refl _⟩⟩;refine qq [(0,⟨fun d=>∃F,d=.map (Xa F),fun d w=>∃(F:Nat)(s:List (Int×Xq)),d=.map (Xa F)/\zdF w F s/\(∀k d,Qh s k=Xa d->qH w k d)/\∀k,(Qh s k).isSome=decide (1<=k/\k<=15)⟩),(3,⟨fun d=>∃x,d=Xm #[x,Xh Xc],fun d w=>∃x,d=Xm #[x,Xh Xc]/\qH w c.kind x⟩)] zU Kr ?_ ?_ ?_
 ·intro x I;simp only[mC,nM,or_false]at I
  rcases I with rfl|rfl
  ·exact⟨_,0,rfl⟩
  exact⟨_,I6 0,rfl⟩
 ·intro x I;simp only[mC,nM,or_false]at I
  rcases I with rfl|rfl
  ·rintro d de df al⟨F,s,z,R,ar,b5⟩;exact⟨F,s,z,R.aA al,fun k d az=>(ar k d az).aA al,b5⟩
  rintro d de df al⟨x,z,R⟩;exact⟨x,z,R.aA al⟩
 refine zz rfl rfl (fun w' al Y=>?_) (fun dg az=>?_)
 ·refine zI.call [] rfl func22 rfl rfl rfl ?_;refine(zlx w').mono ?_;rintro e c7⟨⟨F,s,rfl,z,R,ar⟩,bt⟩;exact⟨_,rfl,bt,⟨F,rfl⟩,F,s,rfl,z,R,ar⟩
 obtain⟨F,rfl⟩:=az;refine Uq ?_;iterate 2 refine ze ?_
 refine zz rfl rfl (fun w' al Y=>?_) (fun dg az=>?_)
 ·obtain⟨dh,s,da,z,R,ar⟩:=Y 0 Kr
  cases da;obtain⟨x,I⟩:∃x,Qh s c.kind=Xa x:=by
   have b5:=ar c.kind;rw[decide_eq_true bd.out]at b5;exact Option.isSome_iff_exists.1 b5
  refine zI.step (v:=Xm #[x,Xh Xc]) (w':=w') (zlV _ _ _ _ w' rfl rfl rfl z I) ⟨zc.refl _,⟨x,rfl⟩,x,rfl,R _ _ I⟩
 obtain⟨x,rfl⟩:=az;refine Uq ?_;iterate 5 refine ze ?_
 refine zH fun y aj Y=>?_
 obtain⟨b7,b2,b1⟩:=Y 3;have bz:b7=x:=by
  have z:(Value.tuple #[x,Xh Xc])=Xm #[b7,Xh Xc]:=b2;simp only[Value.tuple.injEq,Array.mk.injEq,List.cons.injEq,and_true]at z;exact z.symm
 subst bz;have bi:Xo (qH y c.kind b7):=b1;have a1:=dD (d0.trans aj);have co:=dD (d2.aA aj);have d5:=dD (cp.aA aj);have d9:=dD (d8.aA aj);have ce:=dD (A2.aA aj);clear aj Y b2 b1 c0 bv;have ax:=zgn V m y (cj.aA a1)
 go_wp2_with(first|refine zm rfl 45 (.tmp 2) rfl b rfl co.box underlying45 rfl a3.out ?_|(go_at_call 24;refine ax.mono ?_))
 clear ax;rintro e G⟨U,di,cl,rfl,Z,au,ay,cr,b4⟩;have ck:Xo (ChW y noX U G cl m):=dD<|ChW.of Z au b4 ay cr
 have d6:=dD (d5.aA b4);have B:Xo (b+3<y.heap.size):=ce.box.lt;obtain⟨cf,cs,bw,ct,E⟩:=bc.out y G U cl b7 a1 ck (bi.aA b4);subst bw;have cz:Xo (∀(X:Array Xq)(w:Xn),(callFunc cf X).run prog w=.ok (.enter cf X) w):=ct;have aw:=E;clear Z au ay cr b4 ct E
 go_wp2_with(first|refine zm rfl 25 (.tmp 3) rfl (b+1) rfl d6.box underlying25 rfl Kr ?_|fail)
 rw[cz.out];refine aw.mono ?_;clear aw;rintro e L⟨q,n,i,s,t,h,rfl,g,dd,cu,cw,cv⟩;have ap:Xo (∀W,zk (Aft y G G) L W->zj byE W (i.x) s):=cw;have bb:Xo (q=0->zg L U 88 (chL t h)/\∀W,zk (Aft y G G) L W->zq W t h):=cv;have ci:Xo (K q n s h):=g;have an:Xo (zc y L):=cu;have bj:Xo (∀d∈chL t h,d.oneCell'=Xc):=show∀d∈chL t h,_ by simp[chL,Value.oneCell']
 clear cw cv g dd cu;unfold Qk;go_upto_region 9 with fail;obtain⟨c5,bf⟩:=kA L.heap.size;obtain⟨f,T⟩:=kB (L.alloc (Xk #[I6 q,I6 n,i.x] 54));have br:=gP T
 have bk:=xPT T bf
 have a2:Xo (zc L f):=br;have A:=dD (an.trans br);have be:Xo (y.heap.size<=U):=ck.lo;have ao:Xo (y.heap.size<=c5):=show _<=_ by rw[<-bf.out];exact bS an.out
 rw[T,bf.out];clear T br;have d3:=dD (co.aA A);have cq:=dD (d9.aA A);have b8:=dD (ce.aA A);have am:Xo (b+3<f.heap.size):=b8.box.lt;have cy:=bk.box.c 0 rfl
 by_cases ak:q=0
 ·have ch:Xo (q=0):=ak;obtain⟨cx,dc⟩:=bb.out ak;have d1:Xo (zg f U 88 (chL t h)):=cx.aA a2.out;have bg:Xo ((Tryz.prog.info? 45).map (·.size)=Xa (chL t h).length):=show _=_ by kernel_rfl
  subst ak;clear cx;go_upto_region 11 with fail;clear cy;refine wp_region_held (S:=fun W=>zk (fun k=>k=b+2\/k=b+3) f W/\zc w W) zU ?_
  show wpAnyH _ _ _ _ _ 7 (Yi 7 Xd) _ f.drew
  have Q:zc f f.drew:=(gW _)
  have a:zk (fun k=>k=b+2\/k=b+3) f f.drew/\zc w f.drew:=⟨zk.aA Q,(a1.trans A).trans Q⟩
  have cc:=cq.aA Q;have bl:=b8.aA Q;refine zK 0 (Xa 42) (Xj (Xa ⟨U,0,Xb⟩)) a ?_
  refine Uq ?_;refine zK 1 (Xa 43) (Xj (Xa ⟨U,0,Xb⟩)) a ?_
  refine Uq ?_;refine zK 2 (Xa 44) (Xj (Xa ⟨U,0,Xb⟩)) a ?_
  refine Uq ?_;refine Qf 3 (Xa 45) (Xi (chL t h).toArray) rfl rfl Kr Kr Kr (fun _ _ _ ac=>ac) (yieldsIf_load_mid rfl 45 (.tmp 44) rfl U 0 rfl (chL t h) _ (fun W u=>(d1.aK u.1 (by have:=be.out;have:=B.out;omega)).box.range) underlying45 rfl bg) a ?_
  refine Uq ?_;refine Qf 4 (Xa 46) (Xi #[I6 0,I6 n,i.x]) rfl rfl Kr Kr Kr (fun _ _ _ ac=>ac) (yieldsIf_load_mid rfl 54 (.tmp 10) rfl c5 0 rfl ([I6 0,I6 n,i.x]) _ (fun W u=>(bk.aK u.1 (by have:=ao.out;have:=B.out;omega)).box.range) underlying54 rfl Kr) a ?_
  refine Uq ?_;refine wpAnyH_all (rs:=[5]) Kr Sm ?_
  intro b6 r;simp only[mC,nM,or_false]at r;subst r;refine zO Xb (fun d w'=>zg w' (b+2) 45 (chL t h)/\(f.drew).grownBy w' (Xa (b+2))) rfl rfl rfl (zI.aL 45 (.tmp 4) (.tmp 45) rfl (b+2) rfl (chL t h) rfl cc rfl Kr bj (fun w' a8 a9 c6=>⟨a8,a9⟩)) ?_
  rintro d a5⟨bn,aa⟩;have ad:zk (fun k=>k=b+2\/k=b+3) f a5/\zc w a5:=⟨a.1.trans (zk.grown aa (.inl rfl)),zd a.2 aa (Hm H.out)⟩
  have c1:=bl.beside aa (fun k e=>by cases e;omega)
  refine⟨ad,?_⟩;simp only[Xw];refine wpAnyH_all (rs:=[6]) Kr Sm ?_
  intro b6 r;simp only[mC,nM,or_false]at r;subst r;refine zO Xb (fun d w'=>zg w' (b+3) 54 ([I6 0,I6 n,i.x])/\(a5).grownBy w' (Xa (b+3))) rfl rfl rfl (zI.aL 54 (.tmp 5) (.tmp 46) rfl (b+3) rfl ([I6 0,I6 n,i.x]) rfl c1 rfl Kr (by simp[Value.oneCell']) (fun w' a8 a9 c6=>⟨a8,a9⟩)) ?_
  rintro d j⟨bo,ab⟩;have ae:zk (fun k=>k=b+2\/k=b+3) f j/\zc w j:=⟨ad.1.trans (zk.grown ab (.inr rfl)),zd ad.2 ab (Hm H.out)⟩
  have c2:=bn.beside ab (fun k e=>by cases e;omega)
  refine⟨ae,?_⟩;simp only[Xw];refine wpAnyH_done Kr ?_ _
  have ba:Xo (zg j (b+2) 45 (chL t h)):=c2;have b9:Xo (zg j (b+3) 54 [I6 0,I6 n,i.x]):=bo;have b3:zk (Aft y G G) L j:=(zk.aA a2).trans (ae.1.wide fun k g=>.inl (by have:=B.out;rcases g with g|g<;>omega))
  have C:Xo (Did m K w (Xl (Xm #[Xi (mL t h).toArray,Qk 0 n i])) j/\zc w j):=dD<|⟨⟨0,n,i,s,h,h,t,rfl,ci,.inl ⟨rfl,rfl⟩,fun W u=>⟨dc W (b3.trans (u.wide fun k g=>.inl (Xs g (bS a1)))),ap W (b3.trans (u.wide fun k g=>.inl (Xs g (bS a1))))⟩⟩,ae.2⟩
  go_wp2;refine bodyPost_ret (zd7 rfl _ rfl rfl ba.box b9.box underlying45 rfl Kr underlying54 rfl Kr) rfl C.out
 have ch:Xo (q≠0):=ak;have db:(q !=0)=Xc:=by simp[ak]
 clear ak;go_upto_region 10 with fail;clear cy db;refine wp_region_held (S:=fun W=>zk (fun k=>k=b+2\/k=b+3) f W/\zc w W) zU ?_
 show wpAnyH _ _ _ _ _ 5 (Yi 5 Xd) _ f.drew
 have Q:zc f f.drew:=(gW _)
 have a:zk (fun k=>k=b+2\/k=b+3) f f.drew/\zc w f.drew:=⟨zk.aA Q,(a1.trans A).trans Q⟩
 have cc:=cq.aA Q;have bl:=b8.aA Q;refine Qf 0 (Xa 39) (Xi (chL V m).toArray) rfl rfl Kr Kr Kr (fun _ _ _ ac=>ac) (yieldsIf_load_mid rfl 45 (.tmp 2) rfl b 0 rfl (chL V m) _ (fun W u=>(d3.aK u.1 Wm).box.range) underlying45 rfl a3) a ?_
 refine Uq ?_;refine Qf 2 (Xa 41) (Xi #[I6 q,I6 n,i.x]) rfl rfl Kr Kr Kr (fun _ _ _ ac=>ac) (yieldsIf_load_mid rfl 54 (.tmp 10) rfl c5 0 rfl ([I6 q,I6 n,i.x]) _ (fun W u=>(bk.aK u.1 (by have:=ao.out;have:=B.out;omega)).box.range) underlying54 rfl Kr) a ?_
 refine Uq ?_;refine wpAnyH_all (rs:=[1]) Kr Sm ?_
 intro b6 r;simp only[mC,nM,or_false]at r;subst r;refine zO (Xa 40) (fun d w'=>∃D:MaV,d=Xi (mL D m).toArray/\zdE (f.drew).heap.size w' D m/\zc (f.drew) w') rfl rfl rfl (zI.call [Xi (mL V m).toArray] rfl func23 rfl rfl rfl ((zeY V m (f.drew) (cj.aA a.2)).mono ?_)) ?_
 ·rintro e c7⟨D,rfl,z,R⟩;exact⟨_,rfl,D,rfl,z,R⟩
 rintro d a6⟨D,rfl,c8,M⟩;have av:b+3<(f.drew).heap.size:=Xs am a.1.size;have af:zk (fun k=>k=b+2\/k=b+3) f a6/\zc w a6:=⟨a.1.trans (zk.aA M),a.2.trans M⟩
 have cd:=cc.aA M;have bm:=bl.aA M;have aq:∀d∈chL D m,d.oneCell'=Xc:=by simp[chL,Value.oneCell']
 refine⟨af,?_⟩;refine Uq ?_;refine wpAnyH_all (rs:=[3]) Kr Sm ?_
 intro b6 r;simp only[mC,nM,or_false]at r;subst r;refine zO Xb (fun d w'=>zg w' (b+2) 45 (chL D m)/\(a6).grownBy w' (Xa (b+2))) rfl rfl rfl (zI.aL 45 (.tmp 4) (.tmp 40) rfl (b+2) rfl (chL D m) rfl cd rfl Kr aq (fun w' a8 a9 c6=>⟨a8,a9⟩)) ?_
 rintro d a7⟨bp,N⟩;have ag:zk (fun k=>k=b+2\/k=b+3) f a7/\zc w a7:=⟨af.1.trans (zk.grown N (.inl rfl)),zd af.2 N (Hm H.out)⟩
 have c3:=bm.beside N (fun k e=>by cases e;omega)
 have c9:=c8.below N (Hm av) (nR _)
 refine⟨ag,?_⟩;simp only[Xw];refine wpAnyH_all (rs:=[4]) Kr Sm ?_
 intro b6 r;simp only[mC,nM,or_false]at r;subst r;refine zO Xb (fun d w'=>zg w' (b+3) 54 ([I6 q,I6 n,i.x])/\(a7).grownBy w' (Xa (b+3))) rfl rfl rfl (zI.aL 54 (.tmp 5) (.tmp 41) rfl (b+3) rfl ([I6 q,I6 n,i.x]) rfl c3 rfl Kr (by simp[Value.oneCell']) (fun w' a8 a9 c6=>⟨a8,a9⟩)) ?_
 rintro d l⟨bq,P⟩;have ah:zk (fun k=>k=b+2\/k=b+3) f l/\zc w l:=⟨ag.1.trans (zk.grown P (.inr rfl)),zd ag.2 P (Hm H.out)⟩
 have c4:=bp.beside P (fun k e=>by cases e;omega)
 have ca:=c9.below P (Hm av) (nR _)
 refine⟨ah,?_⟩;simp only[Xw];refine wpAnyH_done Kr ?_ _
 have ba:Xo (zg l (b+2) 45 (chL D m)):=c4;have b9:Xo (zg l (b+3) 54 [I6 q,I6 n,i.x]):=bq;have b3:zk (Aft y G G) L l:=(zk.aA a2).trans (ah.1.wide fun k g=>.inl (by have:=B.out;rcases g with g|g<;>omega))
 have C:Xo (Did m K w (Xl (Xm #[Xi (mL D m).toArray,Qk q n i])) l/\zc w l):=dD<|⟨⟨q,n,i,s,h,m,D,rfl,ci,.inr ⟨ch,rfl⟩,fun W u=>⟨(ca).bL (nR _) (u.wide fun k g=>Xs g (bS a.2)),ap W (b3.trans (u.wide fun k g=>.inl (Xs g (bS a1))))⟩⟩,ah.2⟩
 go_wp2;refine bodyPost_ret (zd7 rfl _ rfl rfl ba.box b9.box underlying45 rfl Kr underlying54 rfl Kr) rfl C.out
theorem zfu:Enters prog 73:=enters_of func73 Kr rfl
theorem zd1(w:Xn)(m:Ma)(c:Cl)(BF:Nat->Nat->Ar->Pg->Bool->Bool×Nat×Ma)(v:c.kind=4)(f:-9223372036854775808<=c.pt)(g:c.pt<=9223372036854775807)(i:-9223372036854775808<=c.n)(j:c.n<=9223372036854775807)
  (t:∀(a:MaV)(W:Xn),zq W a m->Xp prog 140 #[Xi (mL a m).toArray,I6 c.aC,I6 (c.pt/8),Xh Xd] W fun e w'=>((∃l:Int,e=Xl (Xm #[Xi zR.toArray,I6 0,I6 l])/\jm m BF c.aC (c.pt/8) Xd l)\/(∃(V':MaV)(k z:Nat)(m':Ma),e=Xl (Xm #[Xi (mL V' m').toArray,I6 (k:Int),I6 0])/\zco m BF c.aC (c.pt/8) Xd k m'/\ChW W noX z w' V' m'))/\zc W w')
  (s:∀(q:Nat)(m':Ma),zco m BF c.aC (c.pt/8) Xd q m'->∃fr:Fr,m'.fs[q]?=Xa fr/\(fr.f=-1\/∃(p:Nat)(fl:Fl),fr.f=(p:Int)/\m'.fl[p]?=Xa fl)/\0<=fr.x/\fr.x<1000):Ql w m c (J8 m c.aC (ziR m BF c)):=by
 intro D W y a C B h x;obtain⟨n,rfl,u⟩:=x.2.2.2.1 v;exact⟨73,#[Xj (Xa ⟨n,0,Xb⟩)],rfl,zfu,zbC h c n 38 _ (enters_of func38 Kr rfl) u fun A b _=>(zmq (h.aA b) c BF f g i j (fun r d=>t a r ((h.aA b).at.aA d)) s).mono fun e w' k=>k.more h.lo (h.aM y (.inl rfl)) (bS (h.gr.trans b))⟩
theorem zcJ(w:Xn)(m:Ma)(c:Cl)(ns:List Int)(BF:Nat->Nat->Ar->Pg->Bool->Bool×Nat×Ma)(x:c.kind=5)(f:-9223372036854775808<=c.pt)(g:c.pt<=9223372036854775807)(r:zj byE w (c.dv.x) ns)(i:(c.dv.n:Int)<=9223372036854775807)
  (t:∀(a:MaV)(W:Xn),zq W a m->Xp prog 140 #[Xi (mL a m).toArray,I6 c.aC,I6 (c.pt/8),Xh Xc] W fun e w'=>((∃j:Int,e=Xl (Xm #[Xi zR.toArray,I6 0,I6 j])/\jm m BF c.aC (c.pt/8) Xc j)\/(∃(V':MaV)(k A:Nat)(m':Ma),e=Xl (Xm #[Xi (mL V' m').toArray,I6 (k:Int),I6 0])/\zco m BF c.aC (c.pt/8) Xc k m'/\ChW W noX A w' V' m'))/\zc W w')
  (s:∀(p:Nat)(m':Ma),zco m BF c.aC (c.pt/8) Xc p m'->∃fr:Fr,m'.fs[p]?=Xa fr/\(fr.f=-1\/∃(n:Nat)(fl:Fl),fr.f=(n:Int)/\m'.fl[n]?=Xa fl)/\0<=fr.x/\fr.x<1000):Ql w m c (J8 m c.aC (zdz m BF c ns)):=by
 intro D W z a C v h y;obtain⟨l,rfl,u⟩:=y.2.2.2.2.1 x;exact⟨73,#[Xj (Xa ⟨l,0,Xb⟩)],rfl,zfu,zbC h c l 39 _ (enters_of func39 Kr rfl) u fun B b _=>(zkp (h.aA b) c ns BF f g (r.aA v) i (fun q d=>t a q ((h.aA b).at.aA d)) s).mono fun e w' k=>k.more h.lo (h.aM z (.inl rfl)) (bS (h.gr.trans b))⟩
def zbd(m:Ma)(q i:Nat)(a:Ar)(pg:Pg)(_:Bool):Bool×Nat×Ma:=zft m pg a.file (a.base+(i:Int)-a.fr) q i
structure zdD(m:Ma)(q n:Nat)(wr:Bool)(a:Ar)(pg:Pg)(ic:Bool)(kk:Nat)(mB:Ma)(fr:Fr):Prop where
 rt:Rt m
 n64:n<64
 sp:∃s,m.sp[q]?=Xa s
 room:∀l:List (Nat×Nat),(∀x∈l,x.2<64/\∃s,m.sp[x.1]?=Xa s)->qE (zi m l).fs≠0
 may:∀a' e,js m (q:Int) (n:Int) wr a' e->e=0/\a'=a
 view:ZA m (q:Int) (n:Int)=(pgL pg,ic,0)
 bring:jr m (zbd m q n a pg wr) pg a ic wr q n=(Xc,kk,mB)
 into:zrc kk q n mB
 frame:mB.fs[kk]?=Xa fr
 file:0<=a.file->∃fi ix:Nat,a.file=(fi:Int)/\a.base+(n:Int)-a.fr=(ix:Int)/\(0<=a.base/\a.base<=100)/\(0<=a.fr/\a.fr<=100)/\ix<12/\fi<5/\(zb1 m.ca ⟨(fi:Int),(ix:Int),0⟩=Xd->m.ca=[])
 mine:(fr.f=-1\/∃(j:Nat)(fl:Fl),fr.f=(j:Int)/\mB.fl[j]?=Xa fl/\fr.x*8+8<=fl.size)/\0<=fr.x/\fr.x<1000
section
variable{m mB:Ma}{q n kk:Nat}{wr:Bool}{a:Ar}{pg:Pg}{ic:Bool}{fr:Fr}
theorem zdD.know(h:zdD m q n wr a pg ic kk mB fr){f i:Nat}{e:Ar}{b:Pg}{c:Bool}(p:(q:Int)=(f:Int))(hi:(n:Int)=(i:Int))(l:js m (q:Int) (n:Int) wr e 0)(d:ZA m (q:Int) (n:Int)=(pgL b,c,0)):f=q/\i=n/\e=a/\b=pg/\c=ic:=by
 have j:f=q:=Wm
 have k:i=n:=Wm
 rw[h.view]at d;simp only[pJ,and_true]at d;refine⟨j,k,(h.may e 0 l).2,?_,d.2.symm⟩;have g:=d.1;cases pg;cases b
 simpa[pgL,eq_comm]using g
theorem zdD.not(h:zdD m q n wr a pg ic kk mB fr){p:Int}:¬jm m (zbd m) (q:Int) (n:Int) wr p:=by
 rintro⟨e,c|⟨f,_,b⟩|⟨_,w,v,f,u,t,s,r,c,b,d⟩⟩
 ·exact e (h.may _ _ c).1
 ·rw[h.view]at b;exact e b.symm
 obtain⟨g,i,j,k,l⟩:=h.know s r c b;subst g i j k l;rw[h.bring]at d;cases d
theorem zdD.used(h:zdD m q n wr a pg ic kk mB fr){k:Nat}(t:zco m (zbd m) (q:Int) (n:Int) wr k m'):k=kk/\m'=j5 mB q n kk fr wr a.sh:=by
 obtain⟨A,z,x,w,v,d,s,r,f,u,y,c,b,e⟩:=t;obtain⟨g,i,j,l,p⟩:=h.know s r f u;subst g i j l p;rw[h.bring]at c b e;have c:k=kk:=c;rw[c]at b e;have b:mB.fs[kk]?=Xa d:=b;rw[h.frame]at b;cases b;exact⟨c,e⟩
theorem zh2{m:Ma}{p n k:Nat}{fr:Fr}(c:m.fs[k]?=Xa fr)(w b:Bool):(j5 m p n k fr w b).fs[k]?=Xa {fr with u:=true,d:=if w=Xc then fr.d||b else fr.d}/\(j5 m p n k fr w b).fl=m.fl:=by
 have a:=(gS.1 c).1;unfold j5
 cases w with
 |true=>
  rw[kE rfl];exact⟨sF a,rfl⟩
 |false=>
  rw[kF Dc]
  exact⟨sF a,rfl⟩
theorem zdD.inside(h:zdD m q n wr a pg ic kk mB fr)(k:Nat)(m':Ma)(i:zco m (zbd m) (q:Int) (n:Int) wr k m'):∃fr:Fr,m'.fs[k]?=Xa fr/\(fr.f=-1\/∃(j:Nat)(fl:Fl),fr.f=(j:Int)/\m'.fl[j]?=Xa fl)/\0<=fr.x/\fr.x<1000:=by
 obtain⟨b,c⟩:=h.used i;subst b c;obtain⟨d,g⟩:=zh2 h.frame (p:=q) (n:=n) wr a.sh;refine⟨_,d,?_,h.mine.2⟩
 rcases h.mine.1 with e|⟨j,fl,e,f,_⟩
 ·exact .inl e
 exact .inr ⟨j,fl,e,Rx g f⟩
theorem zdD.use(h:zdD m q n wr a pg ic kk mB fr)(V:MaV)(W:Xn)(R:zq W V m):Xp prog 140 #[Xi (mL V m).toArray,I6 (q:Int),I6 (n:Int),Xh wr] W fun e w'=>((∃z:Int,e=Xl (Xm #[Xi zR.toArray,I6 0,I6 z])/\jm m (zbd m) (q:Int) (n:Int) wr z)\/(∃(V':MaV)(kk Y:Nat)(m':Ma),e=Xl (Xm #[Xi (mL V' m').toArray,I6 (kk:Int),I6 0])/\zco m (zbd m) (q:Int) (n:Int) wr kk m'/\ChW W noX Y w' V' m'))/\zc W w':=
 zhG V m (q:Int) (n:Int) wr W R h.rt (zbd m) (fun Z W X G a1 a2 U Q e _ _ M _=>absurd M (Rx e (h.room U Q)))
  (fun g i j b w v x y D S Z W X G N=>by
   obtain⟨k,l,p,r,s⟩:=h.know w v x y;subst k l p r s;obtain⟨C,E,A,B,H,K,I,a0,L⟩:=h.file D;obtain⟨F,c⟩:=h.sp;have d:=h.bring;unfold jr at d;rw[kE ⟨⟨D,rfl⟩,S⟩]at d;have t:zft m b (C:Int) (E:Int) g i=(Xc,kk,mB):=by
    rw[<-A,<-B];exact d
   have f:=zhI N h.rt g i F c h.n64 j C E A B H K Wm b Xd wr (fun P=>⟨L P,h.room _ (fun a3 f=>by rw[List.mem_singleton.1 f];exact⟨h.n64,F,c⟩),zfn (.inr Wm)⟩)
   rw[t]at f;have u:zbd m g i j b wr=(Xc,kk,mB):=d;rw[u];exact f)
  (fun g i j b T w v x y _=>by
   obtain⟨k,l,p,r,s⟩:=h.know w v x y;subst k l p r s;rw[h.bring];exact h.into)
theorem zdD.load(h:zdD m q n Xd a pg ic kk mB fr){c:Cl}{i:Nat}(hi:i<8)(k:c.aC=(q:Int))(hp:c.pt=8*(n:Int)+(i:Int))(P:c.n=1)(w:∃s,J7 m (q:Int) q s){A:Int}{l:List Int}(C:J8 m c.aC (ziR m (zbd m) c) A z l m'):A=0/\l=((pgL fr.p).drop i).take 1/\m'=j5 mB q n kk fr Xd a.sh:=by
 have v:c.pt/8=(n:Int):=Wm
 have M:(c.pt%8).toNat=i:=Wm
 have N:c.pt%8=(i:Int):=Wm
 have Q:qz c.pt c.n=Xc:=by
  unfold qz;exact decide_eq_true Wm
 obtain⟨B,K⟩:=zh2 h.frame (p:=q) (n:=n) Xd a.sh;rw[k]at C
 rcases C with⟨_,_,_,x⟩|⟨_,⟨_,_,b⟩|⟨L,_,S,u,⟨_,g,d,_⟩,f⟩⟩
 ·obtain⟨s,w⟩:=w;exact absurd w (x q s)
 ·rcases b with⟨b,_⟩|⟨_,b⟩|⟨_,_,S,U,u,y,G,g,d,j,e,D⟩
  ·rw[Q]at b;cases b
  ·rw[k,v]at b;exact absurd b h.not
  rw[k,v]at g;obtain⟨r,t⟩:=h.used g;subst r t;rw[B]at d;cases d
  rcases h.mine.1 with E|⟨R,H,E,F,T⟩
  ·have j:fr.f=(y:Int):=j;omega
  have j:fr.f=(y:Int):=j;have:R=y:=Wm
  subst this;rw[K,F]at e;cases e;have D:G.size<fr.x*8+c.pt%8+c.n:=D;omega
 rw[k,v]at g;obtain⟨r,t⟩:=h.used g;subst r t;rw[B]at d;cases d;rw[M,P]at f;exact⟨L,f,rfl⟩
theorem zdD.store(h:zdD m q n Xc a pg ic kk mB fr){c:Cl}{i:Nat}(hi:i<8)(t:c.aC=(q:Int))(hp:c.pt=8*(n:Int)+(i:Int))(Z:c.dv.n=1)(B:∃s,J7 m (q:Int) q s){x F:Int}{l:List Int}(H:J8 m c.aC (zdz m (zbd m) c [x]) F z l m'):F=0/\∃b,splice (pgL fr.p) i [x]=pgL b/\m'={j5 mB q n kk fr Xc a.sh with fs:=(j5 mB q n kk fr Xc a.sh).fs.set kk {fr with u:=true,d:=fr.d||a.sh,p:=b}}:=by
 have A:c.pt/8=(n:Int):=Wm
 have S:(c.pt%8).toNat=i:=Wm
 have T:c.pt%8=(i:Int):=Wm
 have U:qz c.pt (c.dv.n:Int)=Xc:=by
  unfold qz;exact decide_eq_true Wm
 obtain⟨G,Q⟩:=zh2 h.frame (p:=q) (n:=n) Xc a.sh;rw[t]at H
 rcases H with⟨_,_,_,D⟩|⟨_,_,⟨_,e⟩|⟨R,_,W,X,y,b,⟨_,k,f,_⟩,j,C⟩⟩
 ·obtain⟨s,B⟩:=B;exact absurd B (D q s)
 ·rcases e with⟨e,_⟩|⟨_,e⟩|⟨_,_,W,X,y,E,N,k,f,r,g,K⟩
  ·rw[U]at e;cases e
  ·rw[t,A]at e;exact absurd e h.not
  rw[t,A]at k;obtain⟨v,w⟩:=h.used k;subst v w;rw[G]at f;cases f
  rcases h.mine.1 with L|⟨V,P,L,M,Y⟩
  ·have r:fr.f=(E:Int):=r;omega
  have r:fr.f=(E:Int):=r;have:V=E:=Wm
  subst this;rw[Q,M]at g;cases g;have K:N.size<fr.x*8+c.pt%8+(c.dv.n:Int):=K;omega
 rw[t,A]at k;obtain⟨v,w⟩:=h.used k;subst v w;rw[G]at f;cases f;rw[S]at j;exact⟨R,b,j,C⟩
theorem zdD.wk_load(h:zdD m q n Xd a pg ic kk mB fr){c:Cl}{i:Nat}(j:c.kind=4)(hi:i<8)(d:c.aC=(q:Int))(hp:c.pt=8*(n:Int)+(i:Int))(r:c.n=1)(W:Xn):Ql W m c (J8 m c.aC (ziR m (zbd m) c)):=by
 have b:c.pt/8=(n:Int):=Wm
 have:=h.n64;refine zd1 W m c (zbd m) j Wm Wm Wm Wm (fun f g k=>?_) (fun l p e=>?_)
 ·rw[b,d];exact h.use f g k
 rw[b,d]at e;exact h.inside l p e
theorem zdD.wk_store(h:zdD m q n Xc a pg ic kk mB fr){c:Cl}{i:Nat}(j:c.kind=5)(hi:i<8)(d:c.aC=(q:Int))(hp:c.pt=8*(n:Int)+(i:Int))(s:c.dv.n=1){x:Int}(l:zj byE W (c.dv.x) [x]):Ql W m c (J8 m c.aC (zdz m (zbd m) c [x])):=by
 have b:c.pt/8=(n:Int):=Wm
 have:=h.n64;refine zcJ W m c [x] (zbd m) j Wm Wm l Wm (fun f g k=>?_) (fun p r e=>?_)
 ·rw[b,d];exact h.use f g k
 rw[b,d]at e;exact h.inside p r e
end
theorem zmY{p n k:Nat}{s:Sp}{fr:Fr}(i:Rt m)(e:m.sp[p]?=Xa s)(l:n<64)(a:m.fs[k]?=Xa fr)(q:fr.r=0):(Q7 m p n).fs[k]?=Xa fr:=by
 have j:m.sp.getD p ⟨Xd,[],[]⟩=s:=by rw[gD,e];rfl
 unfold Q7;simp only[j]
 by_cases b:(zl s n).kind=1
 ·rw[kE b];obtain⟨u,t,g,c,r,h⟩:=i.aY e l b
  show(m.fs.set _ _)[k]?=_
  rw[g,tN,sN,a];intro f;subst f;rw[a]at c;cases c;exact h q
 rw[kF b]
 by_cases d:(zl s n).kind=2
 ·rw[kE d];exact a
 rw[kF d];exact a
theorem zb5:∀(l:List (Nat×Nat)){m:Ma}{k:Nat}{fr:Fr},Rt m->(∀x∈l,x.2<64/\∃s,m.sp[x.1]?=Xa s)->m.fs[k]?=Xa fr->fr.r=0->(zi m l).fs[k]?=Xa fr
 |[],_,_,_,_,_,a,_=>a
 |x::l,m,k,fr,h,c,a,e=>by
  obtain⟨d,s,f⟩:=c x (Xz ..);obtain⟨b,_⟩:=zgV h f d;refine zb5 l b.rt (fun y j=>?_) (zmY h f d a e) e
  obtain⟨g,t,i⟩:=c y (Ys _ j);exact⟨g,_,gE (by rw[b.aV.aT];exact(gS.1 i).1)⟩
theorem jb{k:Nat}{fr:Fr}(l:List (Nat×Nat))(h:Rt m)(d:∀x∈l,x.2<64/\∃s,m.sp[x.1]?=Xa s)(c:m.fs[k]?=Xa fr)(a:fr.r=0):qE (zi m l).fs≠0:=by
 have b:=mG (zb5 l h d c a);have e:0<qE (zi m l).fs:=Yx.2 ⟨fr,b,Si a⟩
 omega
end
section
def zfZ(l:List Int):Pg:=⟨l.getD 0 0,l.getD 1 0,l.getD 2 0,l.getD 3 0,l.getD 4 0,l.getD 5 0,l.getD 6 0,l.getD 7 0⟩
theorem zqP{l:List Int}(h:l.length=8):pgL (zfZ l)=l:=by
 match l,h with
 |[_,_,_,_,_,_,_,_],_=>rfl
end
section
open Go.RowKit
section
variable{α:Type}{E:Elt α}
theorem zb.bX{base:Nat}{w:Xn}{n cap:Nat}{l:List α}(h:zb E base w (O (Xa ⟨g,0,Xb⟩) n cap) l)(i:Nat)(hi:i<=l.length):
  ∀j u,((l.drop i).flatMap E.enc)[j]?=Xa u->w.cell? ((⟨g,i*E.k,Xb⟩:Addr).add j)=Xa u:=fun j u b=>by
 have a:(l.flatMap E.enc)[i*E.k+j]?=Xa u:=by
  conv=>lhs;rw[<-Yg i l,Xy]
  rw[aR (by rw[qB,Xt,Xv hi];exact Nat.le_add_right _ _),qB,Xt,Xv hi,Nat.add_sub_cancel_left]
  exact b
 have:=h.1.cells rfl _ u a;rw[Xx,zA]at this;rw[Xx];exact this
theorem zdM{w:Xn}{rest:List Oper}{a:Act}(G:o.guard=Xb)(d s:Operand)(a2:o.op=.call {callee:=.builtin .copy,args:=#[d,s],argTypes:=#[E.st,E.st]})
  (base g cap n:Nat)(l:List α)(k:zb E base w (O (Xa ⟨g,0,Xb⟩) n cap) l)(i:Nat)(hi:i<l.length)(e:l.length+1<=cap)(h:(l.length+1)*E.bytes<=140737488355328)
  (c j f m:Nat)(R U:Addr)(I:a.eval d=O (Xa R) c j)(F:R=⟨g,(i+1)*E.k,Xb⟩)(a4:a.eval s=O (Xa U) f m)(L:U=⟨g,i*E.k,Xb⟩)(q:Nat)(a3:l.length-i=q)(x:q=Nat.min f c)
  (V:∀w',zb E base w' (O (Xa ⟨g,0,Xb⟩) (l.length+1) cap) (l.take (i+1)++l.drop i)->w.grownBy w' (Xa g)->w'.heap.size=w.heap.size->wpList prog ops Q rest (a.put o.dst (goInt q)) w'):wpList prog ops Q (o::rest) a w:=by
 subst F L;refine wpList_plain G fun a6 Y=>?_
 obtain⟨a7,Z,K,a1,b,S,A,a5⟩:=k.block;obtain⟨a8,u,_,N,_⟩:=info_parts E.aF;have D:((l.drop i).flatMap E.enc).length=(l.length-i)*E.k:=by rw[qB,Xu]
 have z:(i+1)*E.k+(l.length-i)*E.k=(l.length+1)*E.k:=by rw[<-Yt,show i+1+(l.length-i)=l.length+1 by omega]
 have T:(l.length+1)*E.k<=cap*E.k:=Yb _ e;have p:=run_storeCells_at prog g ((i+1)*E.k) E.ty ((l.drop i).flatMap E.enc) 0 b w S (by rw[D,A];omega) (qO E.one _)
 simp only[Nat.add_zero]at p;have v:=run_loadCells_list (P:=prog) w ⟨g,i*E.k,Xb⟩ ((l.drop i).flatMap E.enc) (k.bX i Wm)
 rw[D,a3]at v;obtain⟨W,C⟩:∃W,W=w.setRow g (b.toList.take ((i+1)*E.k)++(l.drop i).flatMap E.enc++b.toList.drop ((i+1)*E.k+((l.drop i).flatMap E.enc).length)).toArray:=⟨_,rfl⟩;rw[<-C]at p;have y:(Builtin.copy_ #[E.st,E.st] o.type #[O (Xa ⟨g,(i+1)*E.k,Xb⟩) c j,O (Xa ⟨g,i*E.k,Xb⟩) f m]).run prog w=.ok (goInt q) W:=by
  simp[Builtin.copy_,run_underlying E.bT,Builtin.lenOf,Builtin.firstCells,sizeOf,typeInfo,u,N,<-x,v,p]
 unfold Oper.wp
 simp[execOp,a2,resolve,invoke,builtin,I,a4,y,Result.andThen]
 have hlen:(l.take (i+1)++l.drop i).length=l.length+1:=by rw[lA,Xt,Xu];omega
 have t:b.toList.length=cap*E.k:=Si A
 have H:(i+1)*E.k<=l.length*E.k:=Yb _ hi;have a0:l.length*E.k<=cap*E.k:=Yb _ K;have M:b.toList.take ((i+1)*E.k)=(l.take (i+1)).flatMap E.enc:=by
  have X:(b.toList.take (l.length*E.k)).take ((i+1)*E.k)=b.toList.take ((i+1)*E.k):=by rw[Yu,Xv H]
  rw[<-X,a5]
  conv=>lhs;rw[<-Yg (i+1) l,Xy]
  exact Yj (by rw[qB,Xt,Xv hi])
 have B:(b.toList.take ((i+1)*E.k)).length=(i+1)*E.k:=by rw[Xt,t];omega
 have r:=zb.mk' (E:=E) (base:=base) (w:=W) (g:=g) (cap:=cap) (l:=l.take (i+1)++l.drop i) Z (by rw[C];exact setRow_heap w g b _ E.ty _ S) (by rw[hlen];exact e) a1 (by
  simp only[Oc,lA,B,D,Xu,t]
  omega) (by
  rw[hlen,Xy,<-M,<-z];have:(b.toList.take ((i+1)*E.k)++(l.drop i).flatMap E.enc).length=(i+1)*E.k+(l.length-i)*E.k:=by rw[lA,B,D]
  simp only;rw[Yj this]) (by rw[hlen];exact h)
 rw[hlen]at r;exact Y _ _ (V _ r (by rw[C];exact jU _ _ _) (by rw[C];simp[World.setRow]))
end
theorem ze9{base n c:Nat}{a:Option Addr}{w:Xn}{l:List Ca}(b:zb jR base w (O a n c) l)(f:l.length<=1000)(x d)(h:Nat)(t:zj jR w (O d 1 h) [x])(r:base<=w.heap.size):
  Xp prog 192 #[O a n c,I6 (n:Int),O d 1 h] w fun e w'=>∃(d:Option Addr)(h:Nat),e=Xl (O d (n+1) h)/\zb jR base w' (O d (n+1) h) (l++[x])/\w.grownBy w' (O a n c).ownBlock/\(∀g,(O d (n+1) h).ownBlock=Xa g->(O a n c).ownBlock=Xa g\/w.heap.size<=g):=by
 have m:=dD b.at.n;have i:n<=1000:=Hm m.out
 have s:=dD b;have u:=dD t;have k:=dD r;have p:(n:Int)<=(c:Int):=by
  rcases b.1.2 with⟨i,_⟩|⟨j,q,q,i,_,_,q,_⟩
  ·cases i;omega
  cases i;omega
 clear b t r f
 by_cases i:c=n
 ·rw[i]at s⊢;clear i p
  go_enter func192,ntmps192
  go_wp2_with(at_builtin;refine jN (E:=jR) rfl (.tmp 23) (.tmp 24) rfl base _ l rfl s _ [x] rfl u.out ?qb k.out ?_)
  case qb=>
   show(l.length+1)*24<=_
   have:=m.out;omega
  intro y w' b j f;obtain⟨d,h,rfl⟩:=b.form;have r:Xo ((l++[x]).length=n+1):=dD<|by rw[lA,Ya,m.out]
  rw[r.out]at b f⊢;have t:=dD b;have q:=dD j;have p:=dD f;clear b j f;go_wp2;go_ret;exact⟨d,h,rfl,t,q,p⟩
 have v:¬n=c:=fun e=>i e.symm
 go_enter func192,ntmps192
 go_wp2_with(at_builtin;refine jN (E:=jR) rfl (.tmp 23) (.tmp 24) rfl base _ l rfl s _ [x] rfl u.out ?qb k.out ?_)
 case qb=>
  show(l.length+1)*24<=_
  have:=m.out;omega
 intro y w' b j f;obtain⟨d,h,rfl⟩:=b.form;have r:Xo ((l++[x]).length=n+1):=dD<|by rw[lA,Ya,m.out]
 rw[r.out]at b f⊢;have t:=dD b;have q:=dD j;have p:=dD f;clear b j f;go_wp2;go_ret;exact⟨d,h,rfl,t,q,p⟩
theorem ziJ{d:Nat}{w:Xn}{k:TypeId}{cur a:Array Xq}(b:w.heap[d]?=Xa (Xk a k (0,0)))(l:w.heap[g]?=Xa (Xk cur 105 (0,0)))(f:d≠g)(m:cur.size≠0)(j i c lb h:Nat):
  (callFunc 224 #[O (Xa ⟨d,0,Xb⟩) j i,O (Xa ⟨g,c,Xb⟩) lb h]).run prog w=.ok (.value (Xh Xd)) w:=by
 rw[run_callFunc_extern func224 Kr Kr Kr (e:=Extern.SlicesOverlaps.overlaps #[42,42] #[4]) Kr,
  Lib.run_overlaps_apart w 42 4 105 underlying42 3 Tryz.sizeOf105 ⟨d,0,Xb⟩ ⟨g,c,Xb⟩ j i lb h f k 105 a.size cur.size (by simp[World.shape?,b]) (by simp[World.shape?,l]) m (by simp[World.frozen?,b]) (by simp[World.frozen?,b])]
 rfl
theorem zgC{base n c i d s:Nat}{w:Xn}{l:List Ca}(b:zb jR base w (O (Xa ⟨g,0,Xb⟩) n c) l)(h:n<=1000)(hi:i<n)(j:n+1<=c)(x){m:TypeId}{f:Array Xq}(k:w.heap[d]?=Xa (Xk f m (0,0)))(a:d≠g)
  (y:q8 w ⟨d,0,Xb⟩ (([x]:List Ca).flatMap jR.enc)):
  Xp prog 192 #[O (Xa ⟨g,0,Xb⟩) n c,I6 (i:Int),O (Xa ⟨d,0,Xb⟩) 1 s] w fun e w'=>e=Xl (O (Xa ⟨g,0,Xb⟩) (n+1) c)/\zb jR base w' (O (Xa ⟨g,0,Xb⟩) (n+1) c) (l.take i++([x]++l.drop i))/\w.grownBy w' (Xa g):=by
 obtain⟨v,_,p,j,f,h,r,_⟩:=b.block;have f:c<=9223372036854775807:=by simpa[maxLen]using j
 have f:=dD v;have q:∀m u t,(callFunc 224 #[O (Xa ⟨d,0,Xb⟩) 1 s,O (Xa ⟨g,m,Xb⟩) u t]).run prog w=.ok (.value (Xh Xd)) w:=fun m u t=>ziJ k h a (by rw[r];show c*3≠0;omega) 1 s m u t
 have m:=dD b;have A:=dD y;have t:Xo (d<w.heap.size/\d≠g):=⟨(aS.1 k).1,a⟩;clear b y v p j h r k a;have y:¬((i:Int)=(n:Int)):=Wm
 have z:¬((c:Int)<(n:Int)+1):=Wm
 have b:(i:Int)<=(n:Int):=Wm
 have p:(i:Int)+1<=(n:Int)+1:=Wm
 have r:¬(c=i+1):=Wm
 have b:(i:Int)<=(n:Int)+1:=Wm
 have b:¬(c=i):=Wm
 have u:((i:Int)+1).toNat=i+1:=Wm
 have v:((n:Int)+1).toNat=n+1:=Wm
 have b:(n:Int)+1<=(c:Int):=Wm
 go_enter func192,ntmps192
 go_wp2_with(simp only[q])
 have a:Nonempty (zf w):=⟨⟨_,zc.refl _⟩⟩;refine jc 8 [] zU Kr rfl rfl Dc Sm Sm ?_
 simp only[Ym,Yn];iterate 8 refine ze ?_
 refine zH fun w' h _=>?_
 have b:=dD (m.aA h);have m:=dD h;obtain⟨k,j⟩:=kA (l.length-i);clear h a q
 go_wp2_with(refine zdM (E:=jR) rfl (.tmp 73) (.tmp 76) rfl base g c n l b i (Hm f.out) (Hm f.out) (by show(_+1)*24<=_;have:=f.out;omega) (n-i) (c-(i+1)) (n+1-i) (c-i) _ _ rfl rfl rfl rfl k j (by have:=f.out;have:=j.out;show k=min _ _;omega) ?_)
 intro C a h _;rw[<-f.out]at a;obtain⟨j,b⟩:=kA (l.take (i+1)++l.drop i);rw[b.out]at a;have k:Xo (j.length=n+1):=dD<|by rw[<-b.out,lA,Xt,Xu];have:=f.out;omega
 have B:=dD a;have q:=dD<|zaz m h
 have m:Xo (q8 C ⟨d,0,Xb⟩ (([x]:List Ca).flatMap jR.enc)):=dD<|fun D F C=>q.cell (A D F C) (fun e=>t.2 (by rw[Xx]at e;exact Option.some.inj e))
 clear a h u v p r y z;try simp only[Xw,sB,sS,sZ]
 go_wp2_with(refine qk (E:=jR) rfl (.tmp 80) (.tmp 81) rfl base _ j B g rfl i (n+1-i) (c-i) _ rfl rfl ⟨d,0,Xb⟩ 1 s rfl [x] (by show 1=min _ _;omega) m (by rw[k.out];show i+1<=_;omega) ?_)
 intro a d a _;have h:Xo (j.take i++([x]++j.drop (i+[x].length))=l.take i++([x]++l.drop i)):=dD<|by
  rw[<-b.out,Yh (by rw[Xt];have:=f.out;omega),Yu,Xv Wm,Ya,List.drop_left' (by rw[Xt];have:=f.out;omega)]
 have f:=dD<|h.out▸d
 have b:=dD<|je q a
 clear d a;go_wp2;go_ret;exact⟨rfl,f,b⟩
section
variable{α:Type}{E:Elt α}
theorem zch{w:Xn}{base n cap:Nat}{l:List α}(r)(d:zb E base w (O (Xa ⟨g,0,Xb⟩) n cap) l)(i k:Nat)(hi:i<=l.length)(t:0<k)(p:cap<i+k)(m:(i+k)*E.bytes<=140737488355328):
  ∃C w',(Builtin.append_ #[E.st,3] r #[O (Xa ⟨g,0,Xb⟩) i cap,I6 (k:Int)]).run prog w=.ok (O (Xa ⟨w.heap.size,0,Xb⟩) (i+k) C) w'/\zb E w.heap.size w' (O (Xa ⟨w.heap.size,0,Xb⟩) (i+k) C) (l.take i++Xr k E.zero)/\zc w w'/\i+k<=C:=by
 obtain⟨q,a,j,e,f⟩:=info_parts E.aF;have b:(i+k)*1<=(i+k)*E.bytes:=Nat.mul_le_mul_left _ (nT E.pos E.few);have b:k*E.bytes<=(i+k)*E.bytes:=Yb _ Wm
 have c:((l.take i).flatMap E.enc).length=i*E.k:=by rw[qB,Xt,Xv hi]
 have b:(Builtin.firstCells q.size i (O (Xa ⟨g,0,Xb⟩) i cap)).run prog w.drew=.ok ((l.take i).flatMap E.enc).toArray w.drew:=by
  rw[e];exact run_firstCells_some w.drew E.k i ⟨g,0,Xb⟩ i cap ((l.take i).flatMap E.enc) c (fun u v h=>by
   have s:(l.flatMap E.enc)[u]?=Xa v:=by
    conv=>lhs;rw[<-Yg i l,Xy]
    rw[Yc (gS.1 h).1];exact h
   exact d.1.cells rfl _ v s)
 have h:=Lib.run_append_grow_zeros w E.st 3 r E.ty q E.zv .i64 .i64 E.bT underlying3 a j (Xa ⟨g,0,Xb⟩) i cap ((l.take i).flatMap E.enc) b k t (Rx e E.pos) p Wm (by rw[f];omega) (by rw[f];exact growslice_fits p m)
 have a:∀x,Builtin.zeroCells E.zv.cells x=madeCells E.zv.cells (x*E.k):=fun x=>by
  unfold Builtin.zeroCells madeCells;rw[znL E]
 rw[a,a]at h;have b:=grownCap_ge w (i+k) cap E.ty;have a:=grownCap_le_maxLen w (i+k) cap E.ty (jx Wm)
 obtain⟨G,d⟩:=kB (grownCap w (i+k) cap E.ty);rw[d]at h b a;have hlen:(l.take i++Xr k E.zero).length=i+k:=by rw[lA,Xt,Xv hi,lR]
 refine⟨G,_,h,?_,(show zc w _ from((bR _ _).drew)).trans (za _ _),b⟩
 have d:=zb.mk' (E:=E) (base:=w.heap.size) (g:=w.heap.size) (cap:=G) (l:=l.take i++Xr k E.zero) (w:=w.drew.alloc (Xk (((l.take i).flatMap E.enc).toArray++madeCells E.zv.cells (k*E.k)++madeCells E.zv.cells ((G-(i+k))*E.k)) E.ty)) (cur:=((l.take i).flatMap E.enc).toArray++madeCells E.zv.cells (k*E.k)++madeCells E.zv.cells ((G-(i+k))*E.k)) (nR _) (by
  show(w.heap.push _)[w.heap.size]?=_
  simp) (by rw[hlen];exact b) a (by
  rw[Od,Od,size_madeCells,size_madeCells,Oc,c,<-Yt,<-Yt]
  congr 1
  omega) (by
  rw[hlen,Yy,Yy,ze5 E,ze5 E,Xy];refine Yj ?_;rw[lA,c,qB,lR,<-Yt]) (by rw[hlen];exact m)
 rw[hlen]at d;exact d
theorem zah{w:Xn}{rest:List Oper}{a:Act}(d:o.guard=Xb)(s x:Operand)(y:o.op=.call {callee:=.builtin .append,args:=#[s,x],argTypes:=#[E.st,3]})
  {base g n cap:Nat}{l:List α}(b:zb E base w (O (Xa ⟨g,0,Xb⟩) n cap) l)(i k:Nat)(z:a.eval s=O (Xa ⟨g,0,Xb⟩) i cap)(f:Int)(A:a.eval x=I6 f)(e:f=(k:Int))(hi:i<=l.length)(v:0<k)(u:cap<i+k)(t:(i+k)*E.bytes<=140737488355328)(N:Nat)(r:i+k=N)
  (h:∀C w',zb E w.heap.size w' (O (Xa ⟨w.heap.size,0,Xb⟩) N C) (l.take i++Xr k E.zero)->zc w w'->N<=C->wpList prog ops Q rest (a.put o.dst (O (Xa ⟨w.heap.size,0,Xb⟩) N C)) w'):wpList prog ops Q (o::rest) a w:=by
 subst r e;refine wpList_plain d fun K q=>?_
 obtain⟨C,w',c,j,m,p⟩:=zch o.type b i k hi v u t;unfold Oper.wp execOp;simp only[y,resolve,invoke,builtin,Yl,Ob,rA,List.map_toArray,mP,Yk,z,A,c];exact q _ _ (h C w' j m p)
end
theorem zdS{base n i m q:Nat}{w:Xn}{l:List Ca}(a:zb jR base w (O (Xa ⟨g,0,Xb⟩) n n) l)(b:n<=1000)(hi:i<n)(x)
  (d:q8 w ⟨m,0,Xb⟩ (([x]:List Ca).flatMap jR.enc)):
  Xp prog 192 #[O (Xa ⟨g,0,Xb⟩) n n,I6 (i:Int),O (Xa ⟨m,0,Xb⟩) 1 q] w fun e w'=>∃(b:Nat)(c:Nat),e=Xl (O (Xa ⟨b,0,Xb⟩) (n+1) c)/\zb jR w.heap.size w' (O (Xa ⟨b,0,Xb⟩) (n+1) c) (l.take i++([x]++l.drop i))/\zc w w'/\w.heap.size<=b:=by
 have c:=dD a.at.n;have r:=dD a;have t:=dD d;have b:=(a.lt g rfl).2;have f:=dD b;clear a d b;have a:¬((i:Int)=(n:Int)):=Wm
 have a:(n:Int)<(n:Int)+1:=Wm
 have a:(i:Int)<=(n:Int):=Wm
 obtain⟨p,j⟩:=kA w.heap.size
 go_enter func192,ntmps192
 go_wp2_with(at_builtin;refine zah (E:=jR) rfl (.tmp 34) (.tmp 39) rfl r i (n+1-i) rfl ((n:Int)+1-(i:Int)) Gn Wm (Hm c.out) Wm Wm (by show(_)*24<=_;omega) (n+1) Wm ?_)
 intro C a a h s;rw[j.out]at a⊢;obtain⟨d,b⟩:=kA (l.take i++Xr (n+1-i) jR.zero);rw[b.out]at a;have k:Xo (d.length=n+1):=dD<|by rw[<-b.out,lA,Xt,lR];have:=c.out;omega
 have y:=dD a;have u:=dD h;have v:=dD s;have f:=dD<|t.aA h
 clear a h;have a:¬(C=i):=Wm
 have a:(i:Int)<=(n:Int)+1:=Wm
 have a:(n:Int)+1<=(C:Int):=Wm
 clear s
 go_wp2_with(refine qk (E:=jR) rfl (.tmp 43) (.tmp 44) rfl p _ d y p rfl i (n+1-i) (C-i) _ rfl rfl ⟨m,0,Xb⟩ 1 q rfl [x] (by show 1=min _ _;omega) f (by rw[k.out];show i+1<=_;omega) ?_)
 intro t f q _;obtain⟨h,a⟩:=kA (d.take i++(x::d.drop (i+1)));rw[a.out]at f;have m:Xo (h.length=n+1):=dD<|by rw[<-a.out,lA,List.length_cons,Xt,Xu,k.out];omega
 have y:=dD f;have s:Xo (zc w t):=show zc _ _ from zd u q (Hm j.out)
 clear f q;have k:=dD (r.aA s);have f:¬(C=i+1):=Hm v.out
 have f:¬(n=i):=Wm
 have f:(i:Int)+1<=(n:Int)+1:=Wm
 have f:((i:Int)+1).toNat=i+1:=Wm
 try simp only[Xw,sB,sS,sZ]
 go_wp2_with fail;have r:Nonempty (zf t):=⟨⟨_,zc.refl _⟩⟩;refine jc 8 [] zU Kr rfl rfl Dc Sm Sm ?_
 simp only[Ym,Yn];iterate 8 refine ze ?_
 refine zH fun f f _=>?_
 have u:=dD (y.aA f);have q:=dD (k.aA f);have t:=dD<|s.trans f
 clear f r;obtain⟨r,k⟩:=kA (n-i);have f:Xo ((l.drop i).length=r):=dD<|by rw[Xu,<-c.out,k.out]
 go_wp2_with(refine qk (E:=jR) rfl (.tmp 50) (.tmp 53) rfl p _ h u p rfl (i+1) (n-i) (C-(i+1)) _ rfl rfl ⟨g,i*3,Xb⟩ (n-i) (n-i) rfl (l.drop i) (by rw[f.out];have:=k.out;show r=min _ _;omega) (q.bX i (Hm c.out)) (by rw[m.out,f.out];have:=k.out;omega) ?_)
 intro r f k _;have q:Xo (h.take (i+1)++(l.drop i++h.drop (i+1+(l.length-i)))=l.take i++([x]++l.drop i)):=dD<|by
  have s:h.drop (i+1+(l.length-i))=[]:=List.drop_of_length_le (by rw[m.out];have:=c.out;omega)
  have m:d.take i=l.take i:=by
   rw[<-b.out,Yh (by rw[Xt];have:=c.out;omega),Yu,Nat.min_self]
  have b:h.take (i+1)=l.take i++[x]:=by
   rw[<-a.out,m,show l.take i++(x::d.drop (i+1))=l.take i++([x]++d.drop (i+1))from rfl,<-Oe,Yj (by rw[lA,Xt,Ya];have:=c.out;omega)]
  rw[s,b,Yd,Oe]
 rw[q.out]at f;have b:=dD f;have a:Xo (zc w r):=show zc _ _ from zd t k (Hm j.out)
 clear f k;go_wp2;go_ret;exact⟨p,C,rfl,Rx j.out b,a,Hm j.out⟩
theorem zkt{base n c:Nat}{a:Option Addr}{w:Xn}{l:List Ca}(b:zb jR base w (O a n c) l)(j:l.length<=1000)(i:Nat)(hi:i<=l.length)(x:Ca)(f u:Nat)(t:w.heap[f]?=Xa (Xk (jR.enc x).toArray 105 (0,0)))(y:(O a n c).ownBlock≠Xa f)(C:base<=w.heap.size):
  Xp prog 192 #[O a n c,I6 (i:Int),O (Xa ⟨f,0,Xb⟩) 1 u] w fun e w'=>∃(m:Option Addr)(h:Nat),e=Xl (O m (n+1) h)/\zb jR base w' (O m (n+1) h) (l.take i++([x]++l.drop i))/\w.grownBy w' (O a n c).ownBlock/\(∀g,(O m (n+1) h).ownBlock=Xa g->(O a n c).ownBlock=Xa g\/w.heap.size<=g):=by
 have L:n=l.length:=b.at.n;have A:q8 w ⟨f,0,Xb⟩ (([x]:List Ca).flatMap jR.enc):=fun N P F=>by
  rw[Of,List.flatMap_nil,Yd]at F;rw[Xx,zA];have G:zg w f 105 (jR.enc x):=t;exact G.box.c N F
 by_cases K:i=n
 ·subst K;rw[L]at b⊢;refine(ze9 b j x (Xa ⟨f,0,Xb⟩) u ⟨⟨Xa ⟨f,0,Xb⟩,u,rfl,fun e=>(by cases e),fun Q M=>(by cases M;exact A)⟩,by show 1*24<=_;omega⟩ C).mono ?_
  rintro e w'⟨m,h,p,q,d,v⟩;refine⟨m,h,p,?_,d,v⟩;rw[List.take_length,List.drop_length,Yd];exact q
 have s:i<n:=Wm
 obtain⟨g,h,E⟩:=b.aJ Wm
 simp only[vJ]at E;obtain⟨rfl,_,rfl⟩:=E;have z:f≠g:=fun e=>y (Rr e)
 obtain⟨_,_,D,_⟩:=b.block
 by_cases k:n+1<=c
 ·refine(zgC b Wm s k x t z A).mono ?_
  rintro e w'⟨p,q,d⟩;exact⟨_,_,p,q,d,fun B r=>.inl r⟩
 have H:c=n:=Wm
 subst H;refine(zdS b Wm s x A).mono ?_
 rintro e w'⟨m,h,p,q,d,v⟩;exact⟨_,_,p,q.base C,⟨Below.os d,Below.tape d,Below.output d,bS d,fun B r _=>Below.block d B r⟩,fun B r=>.inr (by cases r;exact v)⟩
variable{X:Nat->Prop}
theorem zit{w:Xn}{p:Nat}(c1:ChW w0 X p w V m)(ax:Rt m)(pg:Pg)(fi ix:Nat)(I:frW (frT pg (fi:Int) (ix:Int))=0)(c3:ix<100)(av)(l:List (Nat×Nat))(ar:zhm Jb (Dw p V) w av l)(an:∀x∈l,x.2<64/\∃s,m.sp[x.1]?=Xa s)(cs:l.length<=900)
  (ct:qE (zi m l).fs=0->∀B a9,ChW w0 X p B a9 (zi m l)->zhm Jb (Dw p a9) B av l->Xp prog 160 #[Xj (Xa ⟨p,0,Xb⟩),av] B fun e w'=>e=Xl (Xh (jP (zi m l) l).1)/\Chg w0 X p B a9 (jP (zi m l) l).2 w'):
  Xp prog 156 #[Xj (Xa ⟨p,0,Xb⟩),Xi #[U8 pg.b0,U8 pg.b1,U8 pg.b2,U8 pg.b3,U8 pg.b4,U8 pg.b5,U8 pg.b6,U8 pg.b7],I6 (fi:Int),I6 (ix:Int),av] w fun e w'=>e=Xl (Xm #[I6 ((q9 m pg (fi:Int) (ix:Int) l).2.1:Int),I6 (if(q9 m pg (fi:Int) (ix:Int) l).1=Xc then 0 else 10)])/\Chg w0 X p w V (q9 m pg (fi:Int) (ix:Int) l).2.2 w':=by
 have cg:=dD ar;have ef:=dD c1.aM;have bi:=zaO (qM l ax an).1.rt l;have bc:=dD<|(qM l ax an).1.aV.aT;have dm:Xo (∀x∈l,x.2<64/\x.1<m.sp.length):=show∀x∈l,_ from fun x au=>by
  obtain⟨bs,s,b⟩:=an x au;exact⟨bs,(gS.1 b).1⟩
 obtain⟨n,q,r,t,u,v,y,z⟩:=pg;simp only;have W:=dD<|fun dz(cu:zc w dz)=>zbP (c1.aA cu) ax ⟨n,q,r,t,u,v,y,z⟩ (fi:Int) (ix:Int) I av l (fun B A=>ar B ((zk.aA cu).trans A)) an ct
 have c:Xo (q9 m ⟨n,q,r,t,u,v,y,z⟩ (fi:Int) (ix:Int) l=if(qd (zi m l) l).1=Xc then(Xc,ZE (qd (zi m l) l).2.fs,zF (zhb (qd (zi m l) l).2 (ZE (qd (zi m l) l).2.fs) ⟨n,q,r,t,u,v,y,z⟩ Xc Xd (fi:Int) (ix:Int)) (ZE (qd (zi m l) l).2.fs) l)else(Xd,0,(qd (zi m l) l).2)):=dD<|rfl
 have h:Xo (zaL m (frT ⟨n,q,r,t,u,v,y,z⟩ (fi:Int) (ix:Int)) l=if(qd (zi m l) l).1=Xc then(Xc,ZE (qd (zi m l) l).2.fs,{(qd (zi m l) l).2 with fs:=(qd (zi m l) l).2.fs.set (ZE (qd (zi m l) l).2.fs) (frT ⟨n,q,r,t,u,v,y,z⟩ (fi:Int) (ix:Int))})else(Xd,0,(qd (zi m l) l).2)):=dD<|rfl
 obtain⟨ay,dj⟩:=kA (q9 m ⟨n,q,r,t,u,v,y,z⟩ (fi:Int) (ix:Int) l);obtain⟨eg,dp⟩:=kA (zaL m (frT ⟨n,q,r,t,u,v,y,z⟩ (fi:Int) (ix:Int)) l);rw[dj.out]at c⊢;obtain⟨em,Q⟩:=kA (if ay.1=Xc then(0:Int)else 10);rw[Q.out];rw[dp.out]at h W;obtain⟨A,cq,-⟩:=bi;have U:Xo ((qd (zi m l) l).2.sp.length=m.sp.length):=dD<|by rw[A.aV.aT,bc.out]
 have k:=dD A.rt;have R:=dD cq
 obtain⟨ep,eq,rfl,c8⟩:=(ar w (zk.refl _ _)).bG;have ag:=(ar w (zk.refl _ _)).short;have bd:=dD I;have be:Xo ((0:Int)<=(ix:Int)/\(ix:Int)<100):=show _/\_ by omega
 clear A cq c1 ar ax an ct c8 I c3;obtain⟨dw,bj⟩:=kA (qd (zi m l) l);rw[bj.out]at k R c h U;obtain⟨e5,P⟩:=dw;simp only at k R c h U;have bg:=dD cs;clear cs;obtain⟨a3,D⟩:=kA l.length;rw[D.out]at cg W ag⊢;obtain⟨b,cf⟩:=kA w.heap.size;obtain⟨e0,G⟩:=kB (w.alloc (Xk #[U8 n,U8 q,U8 r,U8 t,U8 u,U8 v,U8 y,U8 z] 91));have az:=gA G
 have e4:=xPT G cf
 have bk:=dD G;clear G;have g:=W.out e0 az.out
 go_enter func156,ntmps156
 go_upto_region 1 with fail;rw[bk.out,cf.out];obtain⟨d4,d6,d8,d9,da,db,dc,dd⟩:=e4.box.c8
 cases e5 with
 |false=>
  rw[kF Dc]at c h
  rw[h.out]at g;simp only[Bool.false_eq_true,if_false]at g;go_wp2_with fail;refine g.mono ?_;clear g d4 d6 d8 d9 da db dc dd;rintro e B⟨rfl,A⟩;have bm:Xo (Chg w0 X p w V ay.2.2 B):=dD<|Rx c.out (Chg.aG az A)
  clear A;go_wp2
  go_ret2
  exact⟨by rw[<-Q.out,c.out];rfl,bm⟩
 |true=>
  rw[kE rfl]at c h;obtain⟨e8,e9,en,bz,ea⟩:=zde (R rfl);obtain⟨d,bf⟩:=kA (ZE P.fs);rw[bf.out]at bz h c;rw[h.out]at g;simp only[if_true]at g;obtain⟨i,S⟩:∃i:Ma,Xo (({P with fs:=P.fs.set d (frT ⟨n,q,r,t,u,v,y,z⟩ (fi:Int) (ix:Int))}:Ma)=i):=⟨_,rfl⟩;have E:Xo (i.ca=P.ca):=dD<|by rw[<-S.out]
  obtain⟨a,a7⟩:∃a:Ma,Xo (({i with ca:=zku i.ca ⟨(fi:Int),(ix:Int),(d:Int)⟩}:Ma)=a):=⟨_,rfl⟩;have f:zhb P d ⟨n,q,r,t,u,v,y,z⟩ Xc Xd (fi:Int) (ix:Int)=a:=by
   rw[<-a7.out,<-S.out];rfl
  rw[f]at c;rw[S.out]at g;have am:=(gS.1 bz).1;have al:a.fs[d]?=Xa (frT ⟨n,q,r,t,u,v,y,z⟩ (fi:Int) (ix:Int)):=by
   rw[<-f];exact sF am
  have cw:j4 a.fs a.aB=0:=by
   rw[<-f];exact ze3 k.parts.1 bd.out
  have N:a.sp.length=m.sp.length:=by
   rw[<-f];exact U.out
  have aq:∀s∈a.sp,Qc s.tb:=fun s cv=>by
   rw[<-f]at cv;exact k.tb cv
  have dl:Xo (∀j,j<=a3->∀x,l[j]?=Xa x->jW (zF a d (l.take j)).fs (zF a d (l.take j)).aB (d:Int) 1=0/\zF a d (l.take (j+1))=zbK (zF a d (l.take j)) x.1 (x.2:Int) (d:Int)/\x.1<(zF a d (l.take j)).sp.length):=dD<|fun j c6 x au=>(zqU cw al (by show(0:Int)<1;omega) aq (l:=l) (fun x au=>by rw[N];exact dm x au) (by have:=bg.out;show(1:Int)+_<=1000;omega) j (Rx D.out c6)).2.2.2.2 x au
  obtain⟨aa,ai,ae⟩:=k.cache;have C:Xo ((P.ca.Pairwise fun bs b=>qp bs<qp b)/\(∀cj∈P.ca,0<=cj.idx/\cj.idx<100)/\P.ca.length<=1000):=dD<|⟨aa,ai,ae⟩
  clear e8 e9 bz ea f am al cw N aq aa ai ae;go_wp2_with fail;refine g.mono ?_;clear g d4 d6 d8 d9 da db dc dd;rintro e B⟨rfl,A⟩;obtain⟨a9,cb,cx,ab⟩:=Chg.aG az A;have dq:=dD cb;have dt:=dD cx;have df:=dD ab;have K:=QX cb (Rx E.out C.1) (Rx E.out C.2.1) (Rx E.out C.2.2) (fi:Int) (ix:Int) be.out
  have T:Xo (zbA i.ca ⟨(fi:Int),(ix:Int),0⟩<=i.ca.length/\zbA i.ca ⟨(fi:Int),(ix:Int),0⟩=zbA i.ca ⟨(fi:Int),(ix:Int),(d:Int)⟩):=dD<|⟨(List.takeWhile_sublist _).length_le,rfl⟩
  have bb:Xo (i.ca.length<=1000):=dD<|Rx E.out C.2.2
  obtain⟨br,dn⟩:=kA (zbA i.ca ⟨(fi:Int),(ix:Int),0⟩);obtain⟨ed,dk⟩:=kA (zb1 i.ca ⟨(fi:Int),(ix:Int),0⟩);rw[dn.out]at T K;rw[dk.out]at K;clear A cb cx ab;go_wp2_with fail;refine K.mono ?_;clear K;rintro e a5⟨rfl,c0⟩;have a8:=dD (dq.aA c0);have di:Xo (zc B a5):=c0;have ee:=a8.box.box.c 9 rfl;have aj:=zkt (base:=w0.heap.size) (w:=a5.alloc (Xk #[I6 (fi:Int),I6 (ix:Int),I6 (d:Int)] 105)) (a8.ca.aA (za a5 (Xk #[I6 (fi:Int),I6 (ix:Int),I6 (d:Int)] 105))) bb br T.1 ⟨(fi:Int),(ix:Int),(d:Int)⟩ a5.heap.size 1 (zg.aD a5 [I6 (fi:Int),I6 (ix:Int),I6 (d:Int)] _ rfl) (fun e=>by
   obtain⟨_,eo⟩:=a8.ca.lt _ e
   omega) (by have:=bS a8.gr;simp;omega)
  clear c0
  go_wp2_with(go_at_call 192;refine aj.mono ?_)
  clear aj ee;rintro e ei⟨bt,bu,rfl,L,F,H⟩;obtain⟨eh,Z⟩:=kB (a5.alloc (Xk #[I6 (fi:Int),I6 (ix:Int),I6 (d:Int)] 105));rw[Z]at F H;have Y:=gP Z
  have bl:=dD (a8.aA Y);have de:=dD<|bl.box.aK (zk.row F) (fun e=>bl.nc p e rfl)
  have M:i.ca.take br++([⟨(fi:Int),(ix:Int),(d:Int)⟩]++i.ca.drop br)=zku i.ca ⟨(fi:Int),(ix:Int),(d:Int)⟩:=by
   rw[<-zqV,<-T.2];rfl
  rw[M]at L;obtain⟨cc,bh⟩:=kA (a9.ca.n+1);rw[bh.out]at L H⊢;have bq:=dD L;have b9:=dD<|zk.row F;have ba:=dD H;have b8:=dD<|di.trans Y
  clear Z Y L F H M
  go_wp2_with(refine qK rfl 42 (.tmp 52) (.tmp 49) rfl p 9 rfl (O bt cc bu) rfl [O bt cc bu] rfl de (by simp[chL]) Kr (by simp[Value.oneCell']) ?_)
  intro ej ci ac _;have c2:=bl.cache (b:=⟨bt,cc,bu⟩) (l:=zku i.ca ⟨(fi:Int),(ix:Int),(d:Int)⟩) b9 ba bq ac ci;rw[a7.out]at c2;obtain⟨dx,ck,cy,cn⟩:=Chg.step dt df (Chg.aG b8 c2);have dr:=dD ck;have du:=dD cy;have dg:=dD cn;clear ci ac c2 ck cy cn;go_wp2
  go_loopg[55] a3 (fun eb cd wr=>∃(j:Nat)(aw:MaV),j<=a3/\a3-j<=eb/\cd=I6 j/\Xo (ChW w0 X p wr aw (zF a d (l.take j)))/\Xo (zk (Dw p V) w wr)/\Xo (∀c9,Dw p aw c9->Dw p V c9\/w.heap.size<=c9))
  exact⟨0,dx,nZ _,Wm,rfl,dr,du,dg⟩
  obtain⟨j,aw,c6,ec,rfl,bn,bp,ce⟩:=hrel
  by_cases a1:j<a3
  ·have ao:=kC a1
   obtain⟨x,ch⟩:∃x,Xo (l[j]?=Xa x):=⟨_,gE (Rx D.out a1)⟩
   obtain⟨_,_,a2,ap⟩:=(cg wr bp).bG;simp only[vJ]at a2;obtain⟨el,af,ah⟩:=ap j x ch.out;rw[<-a2.1]at af;subst af;obtain⟨cm,ab⟩:=ah wr (zc.refl _);obtain⟨bv,cp,bw⟩:=dl.out j c6 x ch.out;have a6:=dD cp;obtain⟨d2,d3⟩:=x;simp only at cm ab bv bw a6;have a0:=JS (bn.aA (za wr (Xk #[I6 (d2:Int),I6 (d3:Int)] 142))) d2 bw (d3:Int) (d:Int) bv;rw[<-a6.out]at a0;clear a2 ap ah bv cp bw;go_wp2_with fail;refine a0.mono ?_;clear a0 cm ab;rintro e ek⟨⟨es,rfl⟩,cr⟩;obtain⟨dy,cl,cz,co⟩:=Chg.step bp ce (Chg.aG (za _ _) cr);have ds:=dD cl;have dv:=dD cz;have dh:=dD co;clear cr cl cz co;go_wp2
   go_roundg (a3-(j+1));exact⟨j+1,dy,Wm,Wm,Gn,ds,dv,dh⟩;omega
  have ao:=kD a1
  have ak:l.take j=l:=List.take_of_length_le (by rw[D.out];omega)
  rw[ak]at bn;clear ak;have bm:Xo (Chg w0 X p w V ay.2.2 wr):=dD<|by rw[c.out];exact⟨aw,bn,bp,ce⟩
  go_wp2
  go_ret2
  exact⟨by rw[<-Q.out,c.out];rfl,bm⟩
variable{X:Nat->Prop}
theorem zmu{t:Ca}{ca:List Ca}(h:zb1 ca t=Xd):ca.find? (fun c=>decide (qp c=qp t))=Xb:=by
 grind[Yo,zb1,List.any_eq_true.2]
section
variable{m:Ma}{q n:Nat}{s:Sp}{a:Ar}{pg:Pg}{ic wr:Bool}
theorem zop{c:Ca}{fi ix:Int}(a:0<=c.idx/\c.idx<100)(b:0<=ix/\ix<100)(h:qp c=qp ⟨fi,ix,0⟩):c.file=fi/\c.idx=ix:=by
 grind[qp]
end
variable{X:Nat->Prop}
def zpd(m:Ma)(k i:Nat)(ns:List Int):Ma:={m with fs:=m.fs.set k {z3 m (k:Int)with p:=zfZ (splice (pgL (z3 m (k:Int)).p) i ns),u:=true,d:=true}}
def zpX(m:Ma)(fi ix:Int):Option Ca:=m.ca.find? fun c=>decide (qp c=qp ⟨fi,ix,0⟩)
def zlh(m:Ma)(fi ix i:Nat)(ns:List Int):Bool×Ma:=
 match zpX m (fi:Int) (ix:Int)with
 |some c=>(Xc,zpd m c.fr.toNat i ns)
 |none=>
  if(q9 m (zfZ (qF m fi ix)) fi ix []).1=Xc then(Xc,zpd (q9 m (zfZ (qF m fi ix)) fi ix []).2.2 (q9 m (zfZ (qF m fi ix)) fi ix []).2.1 i ns)
  else(decide (jM (q9 m (zfZ (qF m fi ix)) fi ix []).2.2.fl (q9 m (zfZ (qF m fi ix)) fi ix []).2.2.cnt fi ix=0),wrM (q9 m (zfZ (qF m fi ix)) fi ix []).2.2 (splice (qF m fi ix) i ns) fi ix)
section
variable{m:Ma}{fi ix i:Nat}{ns:List Int}
theorem zlL{l:List Int}(a:l.length=8)(h:i+ns.length<=8):(splice l i ns).length=8:=by
 unfold splice;simp only[lA,Xt,Xu];omega
theorem zgQ{F:Fl}(h:Rt m)(b:m.fl[fi]?=Xa F):fi<5/\(0<=F.size/\F.size<=96)/\F.bl.length<=12:=by
 obtain⟨⟨e,_,_⟩,c,_⟩:=(qi _ _).1 h.inv.st;obtain⟨a,d,_⟩:=c F (mG b);have:=(gS.1 b).1;have:=(JU a.1 a.2).2;exact⟨Wm,a,Wm⟩
theorem ziq{pg:Pg}{f x:Int}(h:Rt m)(a:(q9 m pg f x []).1=Xc):∃fr,(q9 m pg f x []).2.2.fs[(q9 m pg f x []).2.1]?=Xa fr:=by
 unfold q9 at a⊢;have b:(qd (zi m []) []).1=Xc:=by
  split at a
  ·assumption
  cases a
 rw[kE b];have c:=(zde ((zaO h []).2.1 b)).2.1;exact⟨_,sF c⟩
end
def bkC(l:List Int):Nat:=l.countP fun b=>decide (0<=b)
def zpv:List Fl->Nat
 |[]=>0
 |f::l=>bkC f.bl+zpv l
theorem zpW{fs:List Fl}{m:Nat}(h:Za fs (m:Int)=[]):∀j,j<m->z4 fs (j:Int)=Xc:=fun j a=>by
 unfold Za at h;have:=List.filter_eq_nil_iff.1 h j (Yp.2 Wm)
 simpa using this
theorem zo2{l:List Int}(h:∀b∈l,b=-1\/0<=b):bkC l=(Z5 l).length:=by
 unfold bkC Z5;rw[List.countP_eq_length_filter]
 congr 1
 refine List.filter_congr fun b a=>?_
 have:=h b a
 by_cases e:0<=b
 ·simp[e];omega
 simp[e];omega
theorem zfX:∀{fs:List Fl},(∀f∈fs,∀b∈f.bl,b=-1\/0<=b)->zpv fs=(Z5 (QZ fs)).length
 |[],_=>rfl
 |f::l,h=>by
  have a:=zfX (fs:=l) fun g e=>h g (Ys _ e)
  have c:=zo2 (h f (Xz ..));have d:Z5 (QZ (f::l))=Z5 f.bl++Z5 (QZ l):=by
   unfold Z5 QZ;rw[Of,List.filter_append]
  rw[d,lA,zpv,a,c]
theorem zox{fs:List Fl}{a:Int}(q:stW fs a=0)(s:Za fs a=[]):a-(zpv fs:Int)=0:=by
 obtain⟨⟨_,v,w⟩,k,l⟩:=(qi _ _).1 q;obtain⟨n,rfl⟩:∃n:Nat,a=(n:Int):=⟨a.toNat,Wm⟩
 have t:=zpW s;rw[zfX (fun f g j e=>Hm ((k f g).2.2 j e))]
 have m:(Z5 (QZ fs)).length<=((Oh n).map fun(i:Nat)=>(i:Int)).length:=l.length_le_of_subset (fun x h=>by
  obtain⟨b,c⟩:=List.mem_filter.1 h;obtain⟨f,g,e⟩:=List.mem_flatMap.1 b;have:=(k f g).2.2 x e;have z:x≠-1:=Si c
  exact List.mem_map.2 ⟨x.toNat,Yp.2 Wm,Wm⟩)
 have p:((Oh n).map fun(i:Nat)=>(i:Int)).length<=(Z5 (QZ fs)).length:=List.Nodup.length_le_of_subset (List.Pairwise.map _ (fun u j d y=>d Wm) List.nodup_range) (fun x h=>by
  obtain⟨i,r,rfl⟩:=List.mem_map.1 h;have:=t i (Yp.1 r);obtain⟨B,f,A,b,c⟩:=jl.1 this;exact Qp (zdx b c) Wm)
 simp only[List.length_map,List.length_range]at m p;omega
theorem znh(h:Rt m){c:Ca}{k:Nat}{f:Fr}{F:Fl}(hi:zdG m c k fi ix f F)(i:m.cnt-(zpv m.fl:Int)≠0):jM m.fl m.cnt f.f f.x=0:=by
 have a:=h.inv.st
 cases b:Za m.fl m.cnt with
 |nil=>exact absurd (zox a b) i
 |cons j l=>
  have g:=(gS.1 hi.fl).1;have e:=hi.bl;have d:zlb m.fl (fi:Int)=F.bl:=by unfold zlb;rw[tN,hi.fl]
  unfold jM;rw[kE a,hi.ff,hi.fx,kE (Qi.2 ⟨Wm,Wm⟩),d,kE (Qi.2 ⟨Wm,Wm⟩),b]
  split
  ·rfl
  rfl
def zrf(l:List Int):Nat:=l.countP fun z=>z==0
theorem zmT(h:Rt m)(i:zrL m)(n:qE m.fs≠m.fs.length)(x:zrf m.sl≠0)(u:m.cnt-(zpv m.fl:Int)≠0):(jP m []).1=Xc:=by
 have D:m.fs.length≠0:=fun e=>n (by rw[List.length_eq_zero_iff.1 e];rfl)
 obtain⟨r,w⟩:∃r,2*m.fs.length=r+1:=⟨2*m.fs.length-1,Wm⟩
 unfold jP;rw[w];unfold ZL
 rcases zee h.parts.1 with⟨_,b⟩|⟨p,q,s,b,A,B,t,e6⟩
 ·exact absurd b n
 have d:(jv m).fs[p]?=Xa (frU q):=t;rw[kF Wm,s,tN,zX d]
 have a:(jq (jv m) p (frU q) []).1=Xc:=by
  unfold jq
  by_cases c:q.f=-1
  ·rw[kE (show(frU q).f=-1 from c)]
   unfold zak;have j:QM (jv m)<(jv m).sl.length:=by
    obtain⟨z,j,k⟩:=Yx.1 (Nat.pos_of_ne_zero x);exact List.findIdx_lt_length_of_exists ⟨z,j,by unfold isZ;simpa using k⟩
   rw[kE j]
  rw[kF (show¬(frU q).f=-1 from c)]
  have hcut:zg1 (jv m) (frU q)=pgL (frU q).p:=((i q (mG b)).2 Wm c).1
  obtain⟨E,y,C,G,F,_,v⟩:=zcw h b c;have f:=znh h v u;have g:jM (jv m).fl (jv m).cnt (frU q).f (frU q).x=0:=f;unfold zdn;rw[kF (fun e=>e.1 hcut)]
  by_cases l:(frU q).d=Xc\/qF (jv m) (frU q).f (frU q).x≠zg1 (jv m) (frU q)
  ·rw[kE l,kE g]
  rw[kF l]
 rw[kE a];exact a
theorem zkF(j:Nat)(w):Xp Tryz.prog 197 #[Xe Xf (j:Int)] w fun e w'=>e=Xl (Xh Xc)/\zc w w':=by
  go_enter Tryz.func197,Tryz.ntmps197
  go_wp2
  go_ret
  exact⟨rfl,zc.refl _⟩
theorem zf1(w:Xn):ziN 197 #[] (fun _=>Xc) w:=fun W j _ _=>zkF j W
theorem zmH (d : Xq) (ps : List (List Int)) (qs : List (Int × List Int)) (w : Xn) (hd : QG w d ps qs) :
    Xp Tryz.prog 159 #[d] w fun e w' => ∃ d', e = Xl (Xm #[d', Xe Xf (zD ps.length qs)]) /\ zZ w.heap.size w' d' (Zc (fun _ => Xc) ps qs) [] /\ zc w w' := by
  have HD : Xo (QG w d ps qs) := hd
  obtain ⟨b, q, rfl, hb, hq⟩ := hd
  obtain ⟨ab, cb, rfl, _⟩ := hb.rows
  obtain ⟨aq, cq, rfl, _⟩ := hq.rows
  clear hb hq
  obtain ⟨W0, hW0⟩ : ∃ W0, (w.alloc (.cells #[.slice ab ps.length cb, .slice aq qs.length cq] 38)).alloc (.cells #[.slice none 0 0, .slice none 0 0] 38) = W0 := ⟨_, rfl⟩
  have HG0 : Xo (zc w W0) := show zc w W0 by rw [<- hW0]; exact (za _ _).trans (za _ _)
  have B2 : Box W0 (w.heap.size + 1) [.slice none 0 0, .slice none 0 0] := by rw [<- hW0]; exact Box.aD _ [.slice none 0 0, .slice none 0 0] _ Sm
  have hcon := zd6 (fun _ => Xc) 197 #[] (enters_of Tryz.func197 Kr rfl) _ ps qs W0 (HD.out.aA HG0.out) (zf1 W0)
  have HB2 : Hid (Box W0 (w.heap.size + 1) [.slice none 0 0, .slice none 0 0]) := B2
  obtain ⟨nb, HNB⟩ : ∃ nb, Hid (ps.length = nb) := ⟨_, rfl⟩
  obtain ⟨nq, HNQ⟩ : ∃ nq, Hid (qs.length = nq) := ⟨_, rfl⟩
  obtain ⟨r, HW⟩ : ∃ r, Xo (zD nb qs = r) := ⟨_, rfl⟩
  rw [HNB.out, HNQ.out, HW.out] at hcon
  rw [HNB.out, HNQ.out] at hW0
  have HW0 : Hid (_ = W0) := hW0
  clear hW0
  rw [HNB.out, HNQ.out, HW.out]
  clear B2
  go_enter Tryz.func159, Tryz.ntmps159
  go_wp2_with (go_at_call 196; rw [HW0.out]
               refine hcon.mono ?_
               rintro e W1 ⟨d1, rfl, hd1, hg1⟩
               have b3 : Box W1 (w.heap.size + 1) [.slice none 0 0, .slice none 0 0] := HB2.out.aA hg1
               have c2 := b3.c 0 rfl
               have c3 := b3.c 1 rfl
               have f2 := b3.f 0
               have f3 := b3.f 1
               have HD1 : Xo (zZ W0.heap.size W1 d1 (Zc (fun _ => Xc) ps qs) []) := hd1
               have HG1 : Xo (zc w W1) := HG0.out.trans hg1
               obtain ⟨v1, v2, rfl, hv1, hv2, _⟩ := hd1
               obtain ⟨x1, y1, rfl, _⟩ := hv1.rows
               obtain ⟨x2, y2, rfl, _⟩ := hv2.rows
               clear hv1 hv2 b3)
  refine bodyPost_ret (v := Xm #[Xi #[.slice x1 (Zc (fun _ => Xc) ps qs).length y1, O x2 0 y2], Xe Xf r]) (by simp [results, Tryz.results159, go_sem, *]) rfl ⟨_, rfl, ?_, ?_⟩
  · have := HB2.out.lt
    exact ((HD1.out.setCell (Si this) _).setCell (Si this) _).base (Below.size HG0.out)
  · exact Below.setCell (Below.setCell HG1.out (p := ⟨w.heap.size + 1, 0, none⟩) Sm _) (p := ⟨w.heap.size + 1, 1, none⟩) Sm _
def j8(m M:Ma):Prop:=∀J:Ma->Prop,J m->(∀(N:Ma)(c:Ca)(k fi ix:Nat)(f:Fr)(F:Fl),J N->c∈N.ca->zdG N c k fi ix f F->f.d=Xc->jM N.fl N.cnt f.f f.x=0->J (clM N k f F))->J M
theorem j8.refl(m):j8 m m:=fun _ h _=>h
theorem j8.step{c:Ca}{k:Nat}{f:Fr}{F:Fl}(h:j8 m M)(d:c∈M.ca)(hi:zdG M c k fi ix f F)(e:f.d=Xc)(b:jM M.fl M.cnt f.f f.x=0):j8 m (clM M k f F):=fun J g a=>a M c k fi ix f F (h J g a) d hi e b
theorem zpl(m:Ma)(k:Nat)(f F):(clM m k f F).ca=m.ca:=by
 unfold clM
 split
 ·exact(zls _ _ _ _).2.2.1
 rfl
theorem j8.ok(h:j8 m M)(a:Rt m):Rt M/\M.ca=m.ca:=
 h (fun M=>Rt M/\M.ca=m.ca) ⟨a,rfl⟩ fun N _ _ _ _ _ _ a c d _ b=>⟨zoU a.1 c d b,Rx zpl a.2⟩
def Qy(m:Ma):Ma:={m with db:=Zc (fun _=>Xc) m.db m.dq,dq:=[]}
def JB(file:Int)(i:Nat)(M:Ma):Prop:=∀(j:Nat)c(k:Nat)f,j<i->M.ca[j]?=Xa c->c.file=file->c.fr=(k:Int)->M.fs[k]?=Xa f->f.d=Xd
theorem ziA{a:Int}{i k:Nat}{f:Fr}{F:Fl}{c:Ca}(h:JB a i M)(q:M.ca[i]?=Xa c)(n:M.fs[k]?=Xa f)(b:c.fr=(k:Int))(e:jM M.fl M.cnt f.f f.x=0):JB a (i+1) (clM M k f F):=fun j m l p a b d g a=>by
 rw[zpl]at b;rw[zoV e]at a
 by_cases e:l=k
 ·subst e;rw[sF (gS.1 n).1]at a;cases a;rfl
 rw[sN (fun h=>e h.symm)]at a
 by_cases n:j=i
 ·subst n;rw[q]at b;cases b;exact absurd Wm e
 exact h j m l p Wm b d g a
def zhl(m:Ma):Prop:=∃(M:Ma)(c:Ca)(k fi ix:Nat)(f:Fr)(F:Fl),j8 m M/\c∈M.ca/\zdG M c k fi ix f F/\f.d=Xc/\jM M.fl M.cnt f.f f.x≠0
theorem zlJ(V:MaV)(m:Ma)(a:Int)(w:Xn)(db:zq w V m)(c8:Rt m)(cf:0<=a)(b0:a<(m.fl.length:Int)):
  Xp prog 94 #[Xi (mL V m).toArray,I6 a] w fun e w'=>((e=Xl (Xm #[Xi zR.toArray,I6 10])/\zhl m)\/∃(M:Ma)(V':MaV),j8 m M/\JB a M.ca.length M/\e=Xl (Xm #[Xi #[V'.f.x,I6 (Qy M).aB,V'.s.x,V'.sb.x,V'.sq.x,V'.db.x,V'.dq.x,V'.fl.x,I6 (Qy M).cnt,V'.ca.x,V'.sp.x],I6 0])/\∀W,zk (fun k=>k<w.heap.size) w' W->zq W V' (Qy M))/\zc w w':=by
 have b6:=c8.w;obtain⟨an,A⟩:=kB ((w.alloc (Xk (mL V m).toArray 45)).alloc (Xk zM.toArray 45));have cs:=gD2 A
 obtain⟨t,ah⟩:=kA w.heap.size;have cy:Xo (zg an t 45 (mL V m)):=dD<|by rw[<-A];exact(zg.aD w (mL V m) _ ah.symm).aA (za _ _)
 have dm:Xo (zg an (t+1) 45 zR):=dD<|by rw[<-A];exact zg.aD _ zR _ (by have:=ah.out;simp;omega)
 have A1:Xo (zq an V m):=db.aA cs.out;have bw:Xo (_=an):=A;have b7:=Zn V m an A1 b6;clear b6;have ct:Xo (Rt m):=c8;clear A db c8
 go_enter func94,ntmps94
 go_upto_region 1 with fail;rw[bw.out,ah.out];obtain⟨cm,cn,co,cp,cq,ba,bb,S,cr,a9,a8⟩:=cy.box.aU;go_wp2_with fail;refine b7.mono ?_;clear b7 cm cn co cp cq ba bb S cr a9 a8;rintro e G⟨rfl,av⟩;have cz:=dD (cy.aA av);have d3:=dD (dm.aA av);have A2:=dD (A1.aA av);have bm:=dD (cs.trans av);clear av;obtain⟨-,-,-,-,-,-,df,-⟩:=A2.ns;have S:=cz.box.c 7 rfl;simp only[Sli.x]at S;rw[df]at S;clear df;obtain⟨dt,br⟩:=kA m.fl.length;rw[br.out]at S b0;have cb:decide (a<0)=Xd:=Si cf
 have cc:decide ((dt:Int)<=a)=Xd:=Si b0
 go_upto_region 6 with fail;clear S cb cc;have b4:=zfx V m G A2.out;obtain⟨cm,cn,co,cp,cq,ba,bb,S,cr,a9,a8⟩:=cz.box.aU;go_wp2_with fail;refine b4.mono ?_;clear b4 cm cn co cp cq ba bb S cr a9 a8;rintro e cv⟨s,c3,rfl,ce⟩;have bc:Xo (ChW G noX s cv c3 m):=ce;have U:Xo (t+1<G.heap.size):=d3.box.lt;have dn:Xo (zg cv (t+1) 45 zR):=d3.aA ce.gr;clear ce;obtain⟨⟨c4,c,au⟩,g⟩:∃ca,Xo (c3.ca=ca):=⟨_,rfl⟩;obtain⟨-,-,-,-,-,-,-,b8,-⟩:=bc.at.ns;have a9:=bc.box.box.c 9 rfl;rw[g.out]at a9 b8;dsimp only at a9 b8;have al:Xo (c=m.ca.length):=b8;have d8:c<=9223372036854775807:=Rx b8 bc.ca.at.short
 clear b8;go_wp2;clear a9
 go_loopg[35] c (fun dv ck wr=>∃i:Nat,i<=c/\c-i<=dv/\ck=I6 i/\(∃V' M,Xo (V'.ca=⟨c4,c,au⟩)/\Xo (ChW G noX s wr V' M)/\Xo (j8 m M)/\Xo (JB a i M))/\Xo (zg wr (t+1) 45 zR))
 exact⟨0,nZ _,Wm,rfl,⟨c3,m,g,bc,j8.refl m,fun ch aq k f Z=>absurd Z (nL _)⟩,dn⟩
 obtain⟨i,eh,dw,rfl,⟨l,M,g,d,h,c1⟩,af⟩:=hrel;have bs:Xo (Rt M):=(h.ok ct).1;have ak:Xo (M.ca=m.ca):=(h.ok ct).2
 by_cases b2:i<c
 rotate_left
 ·have b3:=kD b2
  have dk:Xo (JB a M.ca.length M):=dD<|by
   have:M.ca.length=i:=by rw[ak.out,<-al.out];omega
   rw[this];exact c1.out
  have B:=zmH (Xi #[l.db.x,l.dq.x]) M.db M.dq wr ⟨_,_,rfl,d.at.db,d.at.dq⟩;have ba:=d.box.box.c 5 rfl;have bb:=d.box.box.c 6 rfl;go_wp2_with fail;refine B.mono ?_;clear B ba bb;rintro e cw⟨eg,rfl,ci,c7⟩;obtain⟨c5,R,rfl,-,-⟩:=ci.form;have dg:Xo (zZ wr.heap.size cw (Xi #[c5.x,R.x]) (Zc (fun _=>Xc) M.db M.dq) []):=ci
  have di:Xo (zc wr cw):=c7;have bk:=dD (d.box.aA c7);clear ci c7
  go_upto_region 14 with(refine qK rfl 38 (.tmp 77) (.tmp 73) rfl s 5 rfl (Xi #[c5.x,R.x]) rfl [c5.x,R.x] rfl bk (by simp[chL]) Kr (by simp[Value.oneCell']) ?_)
  intro cx ap ax _;obtain⟨D,-,ar,b9,-⟩:=d.setDk di (nR _) dg ax ap;have T:Xo (ChW G noX s cx D (Qy M)):=ar;have bf:Xo (zg cx (t+1) 45 zR):=af.aK b9 (fun e=>by have:=d.dlo _ e;have:=U.out;omega)
  clear ap ax ar b9;have af:=bf;try simp only[Xw]
  obtain⟨bd,X⟩:=kA (Qy M);rw[X.out]at T;obtain⟨e1,e2,e3,e4,e5,e8,ea,eb,ec,ed,cj⟩:=T.box.box.aU;have c0:Xo (∀cl∈chL D bd,cl.oneCell'=Xc):=dD<|by simp[chL,Value.oneCell']
  go_wp2_with(refine zh rfl 45 (.tmp 4) (.tmp 81) rfl (t+1) rfl (chL D bd) rfl af rfl Kr c0.out ?_)
  clear e1 e2 e3 e4 e5 e8 ea eb ec ed cj;intro ae ao q _;have bn:Xo (zc w ae):=dD<|zd (bm.trans T.gr) q (Hm ah.out)
  have bj:Xo (zg ae (t+1) 45 (chL D bd)):=ao;have dj:Xo (∀W,zk (fun k=>k<w.heap.size) ae W->zq W D bd):=show∀W,_ from fun W a0=>T.bL ((zk.grown q (show t+1<G.heap.size from U.out)).trans (a0.wide fun k dx=>Xs dx (bS bm)))
  clear ao q;go_wp2;refine bodyPost_ret (zW rfl _ rfl bj.box underlying45 rfl Kr) rfl ⟨.inr ⟨M,D,h,dk,Rr X.out,Rx X.out dj⟩,bn⟩
 have b3:=kC b2
 obtain⟨aq,p⟩:∃aq,Xo (M.ca[i]?=Xa aq):=⟨_,gE (by rw[ak.out];have:=al.out;omega)⟩
 obtain⟨k,P,bi,f,bl,C⟩:=zfB bs.w (mG p);have b:Xo (zdG M aq k P bi f bl):=C;obtain⟨dp,a1,az⟩:=d.at.cas i aq p.out;rw[g.out]at a1;dsimp only at a1;subst a1;obtain⟨d4,d5,d6⟩:=az wr (zc.refl _);rw[C.fr]at d6;rw[C.file]at d4;rw[C.idx]at d5;clear az C;go_upto_region 10 with fail;obtain⟨R,bu⟩:=kA wr.heap.size;obtain⟨H,N⟩:=kB (wr.alloc (Xk #[I6 (P:Int),I6 (bi:Int),I6 (k:Int)] 105));have ab:=gA N
 have dl:=xPT N bu
 have bh:¬Dw s l R:=fun e=>absurd (d.aM _ e) (Hm bu.out)
 rw[N,bu.out];clear N d4 d5 d6;obtain⟨v,Q,B⟩:=d.at.bC k f b.fa;obtain⟨dz,-⟩:=d.at.ns;have da:(k:Int)<(l.f.n:Int):=by
  have:=(gS.1 b.fa).1;omega
 have bz:Xo (∀W,zc H W->W.cell? ⟨s,0,Xb⟩=Xa (O (Xa v) l.f.n l.f.c)):=dD<|fun W a0=>by
  have:=(d.box.box.aA (ab.trans a0)).c 0 rfl;rw[Q]at this;exact this
 obtain⟨bg,E⟩:=kA f.d;have bq:Xo (∀W,zc H W->W.cell? {block:=(v.add (k*13)).block,off:=(v.add (k*13)).off+10}=Xa (Xh bg)):=dD<|fun W a0=>by
  obtain⟨_,_,_,_,_,_,_,_,_,_,c6,_,_⟩:=B W (ab.trans a0);rw[<-E.out];exact c6
 obtain⟨c2,bv⟩:=kA (decide (jM M.fl M.cnt f.f f.x=0));obtain⟨ac,bt⟩:=kA (clM M k f bl);have bo:Xo (∀W,zc H W->Xp prog 158 #[Xj (Xa ⟨s,0,Xb⟩),I6 (k:Int)] W fun e w'=>e=Xl (Xh c2)/\JC G noX s W l ac w'):=dD<|fun W a0=>by
  rw[<-bv.out,<-bt.out];exact zdp (d.aA (ab.trans a0)) k f b.fa P bi bl b.ff b.fx b.fl b.sz b.lo
 clear Q B dz;have am:Xo (f.d=Xd\/(P:Int)≠a->JB a (i+1) M):=dD<|fun Z ch dq de ds ei a2 b1 cg a3=>by
  by_cases e:ch=i
  ·subst e;rw[p.out]at a2;cases a2;have:de=k:=Hm b.fr
   subst this;rw[b.fa]at a3;cases a3
   rcases Z with Z|Z
   ·exact Z
   exact absurd (b.file.symm.trans b1) Z
  exact c1 ch dq de ds Wm a2 b1 cg a3
 have aw:zc H H.drew:=show Below _ _ _ from(bR _ _).drew
 obtain⟨Y,aj⟩:=Wq fun a7=>zg a7 R 105 [I6 (P:Int),I6 (bi:Int),I6 (k:Int)]
 have y:Y H.drew:=(aj _).2 (dl.aA aw);have L:zc H H.drew:=aw;have a5:=fun aa:zo Y=>((aj _).1 aa.holds).box.c 0 rfl
 have a6:=fun aa:zo Y=>((aj _).1 aa.holds).box.c 2 rfl
 have a4:Nonempty (zo Y):=⟨⟨_,y⟩⟩;obtain⟨cu,F⟩:=kA ((P:Int)==a);have b5:((P:Int)==a)=cu:=F.out;refine Zo (I:=Y) 24 [(21,fun cl=>cl=Xh c2)] [10,15] (fun a7=>zc H a7) y L zU Kr rfl rfl Dc (Sa ⟨_,rfl⟩) Kr Kr ?_
 simp only[Ym,Yn];iterate 3 refine qa ?_
 refine qU rfl rfl rfl (fun K n=>?_);go_big_quiet_op;(try rw[b5]);refine n _ ?_;clear n K
 refine qU rfl rfl rfl (fun K n=>?_);go_big_quiet_op;refine n _ ?_;clear n K
 clear b5
 cases cu with
 |false=>
  have u:Xo (JB a (i+1) M):=am.out (.inr (Si F.out))
  iterate 11 (refine za2 rfl ?_;simp only[Xw,sB,sS,sZ])
  iterate 2 refine qa ?_
  iterate 5 (refine za2 rfl ?_;simp only[Xw,sB,sS,sZ])
  refine qU rfl rfl rfl (fun K n=>?_);go_big_quiet_op;refine n _ ?_;clear n K
  refine Qa fun be z j=>?_
  have ag:=dD (ab.trans j);clear z j y L a5 a6 a4 aw bh;go_wp2
  go_roundg (c-(i+1));exact⟨i+1,Wm,Wm,Gn,⟨l,M,g,d.aA ag,h,u⟩,af.aA ag⟩;omega
 |true=>
  refine qU rfl rfl rfl (fun K n=>?_);go_big_quiet_op;refine n _ ?_;clear n K
  refine Qu (.tmp 44) ⟨s,0,Xb⟩ rfl rfl rfl rfl ?_;refine Uq ?_;iterate 3 refine qa ?_
  refine Qt rfl rfl rfl (O (Xa v) l.f.n l.f.c) (fun w' _ r=>?_) ?_
  ·exact zbv 30 (.tmp 48) rfl s 0 rfl (O (Xa v) l.f.n l.f.c) (bz w' r) underlying30 rfl
  refine Uq ?_;iterate 4 refine qa ?_
  refine Qt rfl rfl rfl (Xh bg) (fun w' _ r=>?_) ?_
  ·exact zbu 4 (.tmp 53) rfl _ rfl (Xh bg) (bq w' r) underlying4 rfl
  refine Uq ?_;iterate 2 refine qa ?_
  cases bg with
  |false=>
   have u:Xo (JB a (i+1) M):=am.out (.inl E);iterate 5 (refine za2 rfl ?_;simp only[Xw,sB,sS,sZ])
   refine qU rfl rfl rfl (fun K n=>?_);go_big_quiet_op;refine n _ ?_;clear n K
   refine Qa fun be z j=>?_
   have ag:=dD (ab.trans j);clear z j y L a5 a6 a4 aw bh;go_wp2
   go_roundg (c-(i+1));exact⟨i+1,Wm,Wm,Gn,⟨l,M,g,d.aA ag,h,u⟩,af.aA ag⟩;omega
  |true=>
   iterate 3 refine qa ?_
   refine Qs rfl rfl (fun _ a7=>JC G noX s wr l ac a7) (fun w' cd r=>?_) (fun ej dy=>?_)
   ·refine zI.call [Xj (Xa ⟨s,0,Xb⟩),I6 (k:Int)] rfl func158 rfl rfl rfl ?_;refine(bo w' r).mono ?_;rintro e ee⟨rfl,ay⟩;have du:=JC.aG (ab.trans r) ay;obtain⟨ef,_,_,e0,_⟩:=ay;exact⟨_,rfl,(aj _).2 (((aj _).1 cd).chg e0 bh),rfl,du⟩
   subst dy;refine Uq ?_;iterate 2 refine qa ?_
   refine Qa fun be z j=>?_
   obtain⟨D,d7,ar,b9,dr⟩:=j;have T:Xo (ChW G noX s be D ac):=ar;have dh:Xo (D.ca=⟨Xa dp,c,au⟩):=show _=_ from d7.trans g.out
   have bf:Xo (zg be (t+1) 45 zR):=af.aK b9 (fun e=>by have:=d.dlo _ e;have:=U.out;omega)
   clear z d7 ar b9 dr y L a5 a6 a4 aw bh
   cases c2 with
   |true=>
    have ai:Xo (jM M.fl M.cnt f.f f.x=0):=dD<|of_decide_eq_true bv.out
    have bp:Xo (j8 m ac):=dD<|by rw[<-bt.out];exact j8.step h (mG p) b E ai.out
    have u:Xo (JB a (i+1) ac):=dD<|by rw[<-bt.out];exact ziA c1 p b.fa b.fr ai.out
    go_wp2
    go_roundg (c-(i+1));exact⟨i+1,Wm,Wm,Gn,⟨D,ac,dh,T,bp,u⟩,bf⟩;omega
   |false=>
    have F:Xo (zhl m):=dD<|⟨M,_,k,_,_,f,_,h,mG p,b,E,of_decide_eq_false bv⟩
    go_wp2_with(refine zh rfl 45 (.tmp 4) (.tmp 63) rfl (t+1) rfl zR rfl bf rfl Kr (by simp[zR,Value.oneCell']) ?_)
    intro ae ao q _;have bn:Xo (zc w ae):=dD<|zd (bm.trans T.gr) q (Hm ah.out)
    have bj:Xo (zg ae (t+1) 45 zR):=ao;clear ao q;go_wp2;refine bodyPost_ret (zW rfl _ rfl bj.box underlying45 rfl Kr) rfl ⟨.inl ⟨rfl,F⟩,bn⟩
theorem zk3(h:Rt m){c:Ca}{k:Nat}{f:Fr}{F:Fl}(d:c∈m.ca)(hi:zdG m c k fi ix f F)(a:jM m.fl m.cnt f.f f.x=0):Z3 (fun _ _=>False) m (clM m k f F):=by
 obtain⟨b,e,g,-⟩:=zhv (fun _ _=>False) h d hi a (Zm (pgL f.p) f.x F.size)
 have d:(zby m fi ix F (b:Int) (qJ m.db m.dq) (qI m.dq (b:Int) (Zm (pgL f.p) f.x F.size))).fs[k]?=Xa f:=hi.fa;have b:=zeh (fun _ _=>False) g.rt d hi.r f.u Xd
 unfold clM;rw[kE a,e];exact g.trans b
theorem zgM(i:Nat):∀(qs:List (Int×List Int))(j:Nat)(ps:List (List Int)),i<ps.length->(∀q∈qs,∃k:Nat,q.1=(k:Int)/\k<ps.length)->
  (qt (fun _=>Xc) qs j ps).getD i zS=zgg (qs.reverse.find? (fun q=>q.1==(i:Int))) (ps.getD i zS)
 |[],_,_,_,_=>rfl
 |q::r,j,ps,hi,hin=>by
  obtain⟨k,hk,hlt⟩:=hin q Sm
  unfold qt;simp only[if_true];rw[zgM i r (j+1) _ (Si hi) (fun x hx=>by
   obtain⟨k',h1,h2⟩:=hin x (by simp[hx])
   exact⟨k',h1,Si h2⟩)]
  rw[List.reverse_cons,List.find?_append]
  cases hf:r.reverse.find? (fun q=>q.1==(i:Int))with
  |some x=>rfl
  |none=>
   simp only[Option.none_or,List.find?_cons,Yv,zgg]
   by_cases hki:k=i
   ·subst hki
    simp[hk,hlt]
   have hne:(q.1==(i:Int))=Xd:=by rw[hk];simp;omega
   rw[hne];simp only[hk,tN,gD];rw[sN hki]
theorem zkD{a:List (List Int)}{b:List (Int×List Int)}(h:zD a.length b=0)(m:Int):qw (qt (fun _=>Xc) b 0 a) [] m=qw a b m:=by
 have c:zD (qt (fun _=>Xc) b 0 a).length []=0:=zcA (by rw[j9];exact(qN h).1) Sm Sm
 have e:zn (qt (fun _=>Xc) b 0 a).length [] m=zn a.length b m:=by
  rw[ZR h,ZR c,j9]
 by_cases c:zn a.length b m=0
 ·obtain⟨_,i,rfl,d⟩:=qy c;rw[QO c,QO (e.trans c)];simp only[List.reverse_nil,Yv,zgg,tN];exact zgM i b 0 a d (qN h).2.2
 have d:¬zn (qt (fun _=>Xc) b 0 a).length [] m=0:=Rx e c
 unfold qw;rw[kF c,kF d]
theorem zim(h:Rt m):Z3 (fun _ _=>False) m (Qy m):=by
 have e:Zc (fun _=>Xc) m.db m.dq=qt (fun _=>Xc) m.dq 0 m.db:=kE h.inv.aW
 unfold Qy;rw[e];exact zkE _ h (j9 _ _ _ _) (zaM _ _ _ _) (zkD h.inv.aW)
theorem Z3.bytes(h:Rt m)(g:Z3 (fun _ _=>False) m m')(a:Nat):Zw m' (a:Int)=Zw m (a:Int):=by
 have b:Zx m' (a:Int)=Zx m (a:Int):=by
  unfold Zx;rw[g.rt.w,h.w,g.aV.fll]
 unfold Zw;rw[b,(g.views h).2]
def FrD(m:Ma)(f:Fr):Prop:=qF m f.f f.x=zg1 m f
structure Syn(m:Ma)(fi:Nat):Prop where
 fr:∀f∈m.fs,f.r≠0->f.f=(fi:Int)->f.d=Xd/\FrD m f
 qu:∀F,m.fl[fi]?=Xa F->∀q∈m.dq,q.1∉F.bl
section
variable{m:Ma}{fi:Nat}
theorem Syn.crash(i:Syn m fi)(c:Rt m)(b:fi<m.fl.length)(a:Nat->Bool):Zw (Z0 m (Zc a m.db m.dq)) (fi:Int)=Zw m (fi:Int):=by
 have g:=zek c a;have d:=gE b;obtain⟨G,b⟩:=kB (m.fl[fi]);rw[b]at d;obtain⟨b,f⟩:=zqi c.w d;have e:Z4 m (fi:Int)=G.size:=by unfold Z4;rw[tN,gD,d];rfl
 have b:Zx (Z0 m (Zc a m.db m.dq)) (fi:Int)=Zx m (fi:Int):=by
  unfold Zx;rw[g.w,c.w];rfl
 unfold Zw;rw[b]
 congr 1
 unfold zeA;have b:Z4 (Z0 m (Zc a m.db m.dq)) (fi:Int)=Z4 m (fi:Int):=rfl;rw[b];refine List.map_congr_left fun k g=>?_
 have b:=Yp.1 g;rw[e]at b;have b:k/8<G.bl.length:=by
  unfold zbQ at f
  split at f<;>omega
 obtain⟨z,f⟩:∃z,G.bl[k/8]?=Xa z:=⟨_,gE b⟩;have l:z2 (Z0 m (Zc a m.db m.dq)) (fi:Int) ((k/8:Nat):Int)=qF m (fi:Int) ((k/8:Nat):Int):=by
  have b:z2 (Z0 m (Zc a m.db m.dq)) (fi:Int) ((k/8:Nat):Int)=qF (Z0 m (Zc a m.db m.dq)) (fi:Int) ((k/8:Nat):Int):=rfl;rw[b,zfw (m:=Z0 m (Zc a m.db m.dq)) d f,zfw d f]
  by_cases b:z<0
  ·rw[kE b,kE b]
  rw[kF b,kF b]
  congr 1
  have h:=mG f;have b:∀q∈m.dq,q.1≠z:=fun q g f=>i.qu G d q g (Rx f h)
  have d:Zc a m.db m.dq=qt a m.dq 0 m.db:=kE c.inv.aW;have h:zD (qt a m.dq 0 m.db).length []=0:=zcA (by rw[j9];exact(qN c.inv.aW).1) Sm Sm
  have j:zn (qt a m.dq 0 m.db).length [] z=zn m.db.length m.dq z:=by
   rw[ZR c.inv.aW,ZR h,j9]
  show qw (Zc a m.db m.dq) [] z=_
  rw[d]
  by_cases d:zn m.db.length m.dq z=0
  ·rw[QO d,QO (j.trans d)];have n:m.dq.reverse.find? (fun q=>q.1==z)=Xb:=by
    rw[Yo];intro q g h;exact b q (List.mem_reverse.1 g) (Si h)
   rw[n];simp only[List.reverse_nil,Yv,zgg,gD]
   rcases zaM a m.dq 0 m.db z.toNat with f|⟨q,g,h⟩
   ·rw[f]
   have:=zl0 c.inv.aW g;exact absurd (show q.1=z by omega) (b q g)
  have b:¬zn (qt a m.dq 0 m.db).length [] z=0:=Rx j d
  unfold qw;rw[kF d,kF b]
 rw[l];unfold z2
 cases b:m.ca.find? (zcu (fi:Int) ((k/8:Nat):Int))with
 |none=>rfl
 |some a=>
  simp only;have d:=List.mem_of_find?_eq_some b;have a:=List.find?_some b;simp only[zcu,Yq,decide_eq_true_eq]at a;obtain⟨b,h,j,f,k,g,l,_⟩:=zaC c d;have b:=(i.fr h (mG f) k (Rx g a.1)).2
  unfold FrD zg1 at b;rw[g,l,a.1,a.2]at b;rw[j,zX f,b,e];exact zpj Wm
end
def arM:Ar:=⟨5,8,Xc,Xc,Xc,0,0⟩
def bl0:List Int:=[-1,-1,-1]
def mpM(f:Fr)(ca:List Ca)(bl:List Int)(dq:List (Int×List Int))(t:List (List En)):Ma:=⟨[f,frF,frF],0,[0],[zS],[],Xr 3 zS,dq,[⟨24,bl⟩],3,ca,[⟨Xc,[arM],t⟩]⟩
def mp3:Ma:=mpM frF [] bl0 [] Zq
def mp4(ix:Nat)(pg:Pg):Ma:=mpM ⟨pg,1,Xc,Xc,0,(ix:Int)⟩ [⟨0,(ix:Int),0⟩] bl0 [] Zq
def mp5(ix:Nat)(pg:Pg):Ma:=mpM ⟨pg,2,Xc,Xc,0,(ix:Int)⟩ [⟨0,(ix:Int),0⟩] bl0 [] (zf6 Zq (5+ix) ⟨1,0,Xd⟩)
def mp6(ix:Nat)(pg:Pg):Ma:=mpM ⟨pg,2,Xc,Xc,0,(ix:Int)⟩ [⟨0,(ix:Int),0⟩] bl0 [] (zf6 Zq (5+ix) ⟨1,0,Xc⟩)
def mp7(ix:Nat)(pg:Pg):Ma:=mpM ⟨pg,2,Xc,Xd,0,(ix:Int)⟩ [⟨0,(ix:Int),0⟩] (bl0.set ix 0) [(0,pgL pg)] (zf6 Zq (5+ix) ⟨1,0,Xc⟩)
section
variable{ix:Nat}{pg:Pg}
theorem qP{P:Nat->Prop}(h:ix<3)(a:P 0)(b:P 1)(c:P 2):P ix:=by
 rcases(show ix=0\/ix=1\/ix=2 by omega)with rfl|rfl|rfl
 ·exact a
 ·exact b
 exact c
theorem zbF{t:List (List En)}(a:maW m=0)(b:m.sp=[⟨Xc,[arM],t⟩])(c:t.length=8):Rt m:=⟨a,fun s h=>by
 rw[b]at h
 rcases mC.1 h with rfl|h
 ·exact c
 cases h⟩
theorem rt3:Rt mp3:=zbF Kr rfl rfl
theorem rt4(h:ix<3):Rt (mp4 ix pg):=qP (P:=fun ix=>Rt (mp4 ix pg)) h (zbF Kr rfl rfl) (zbF Kr rfl rfl) (zbF Kr rfl rfl)
theorem rt5(h:ix<3):Rt (mp5 ix pg):=qP (P:=fun ix=>Rt (mp5 ix pg)) h (zbF Kr rfl rfl) (zbF Kr rfl rfl) (zbF Kr rfl rfl)
theorem rt6(h:ix<3):Rt (mp6 ix pg):=qP (P:=fun ix=>Rt (mp6 ix pg)) h (zbF Kr rfl rfl) (zbF Kr rfl rfl) (zbF Kr rfl rfl)
theorem rt7(h:ix<3):Rt (mp7 ix pg):=qP (P:=fun ix=>Rt (mp7 ix pg)) h (zbF Kr rfl rfl) (zbF Kr rfl rfl) (zbF Kr rfl rfl)
theorem zeg{u:Sp}{n:Nat}(d:m.sp[0]?=Xa u)(i:u.aE=[arM])(r:5<=n/\n<8){wr:Bool}(g:Ar)(e:Int)(h:js m ((0:Nat):Int) (n:Int) wr g e):e=0/\g=arM:=by
 rcases h with⟨_,_,h⟩|⟨f,s,k,t,x,p,l,_,b,a,_,q,_,h⟩
 ·rcases h with(h|h)|⟨f,t,p,b,h⟩
  ·omega
  ·have:=(gS.1 d).1;omega
  have:f=0:=Wm
  subst this;rw[d]at b;cases b;rw[i]at h;have c:=h arM (Xz ..);unfold inZ arM at c
  simp at c
  omega
 have:f=0:=Wm
 subst this;rw[d]at b;cases b;rw[i]at a
 match k,a with
 |0,a=>
  cases a
  rcases h with⟨_,_,h⟩|⟨c,j,_⟩
  ·cases wr<;>cases h
  exact⟨c,j⟩
 |k+1,a=>exact absurd a Sm
theorem zrH(h:ix<3):zdD (mp4 ix pg) 0 (5+ix) Xd arM pg Xd 0 (mp5 ix pg) ⟨pg,2,Xc,Xc,0,(ix:Int)⟩:=by
 refine qP (P:=fun ix=>zdD (mp4 ix pg) 0 (5+ix) Xd arM pg Xd 0 (mp5 ix pg) ⟨pg,2,Xc,Xc,0,(ix:Int)⟩) h ?_ ?_ ?_
 ·exact⟨rt4 Dc,Dc,⟨_,rfl⟩,fun l b=>jb l (rt4 Dc) b (k:=2) (fr:=frF) rfl rfl,fun a e h=>zeg rfl rfl ⟨Dc,Dc⟩ a e h,Kr,Kr,⟨_,_,_,rt5 Dc,rfl,rfl,rfl⟩,rfl,fun _=>⟨0,0,rfl,rfl,Dc,Dc,Dc,Dc,fun h=>nomatch(show Xc=Xd from h)⟩,.inr ⟨0,⟨24,bl0⟩,rfl,rfl,by show((0:Nat):Int)*8+8<=24;omega⟩,by show(0:Int)<=((0:Nat):Int);omega,by show((0:Nat):Int)<1000;omega⟩
 ·exact⟨rt4 Dc,Dc,⟨_,rfl⟩,fun l b=>jb l (rt4 Dc) b (k:=2) (fr:=frF) rfl rfl,fun a e h=>zeg rfl rfl ⟨Dc,Dc⟩ a e h,Kr,Kr,⟨_,_,_,rt5 Dc,rfl,rfl,rfl⟩,rfl,fun _=>⟨0,1,rfl,rfl,Dc,Dc,Dc,Dc,fun h=>nomatch(show Xc=Xd from h)⟩,.inr ⟨0,⟨24,bl0⟩,rfl,rfl,by show((1:Nat):Int)*8+8<=24;omega⟩,by show(0:Int)<=((1:Nat):Int);omega,by show((1:Nat):Int)<1000;omega⟩
 exact⟨rt4 Dc,Dc,⟨_,rfl⟩,fun l b=>jb l (rt4 Dc) b (k:=2) (fr:=frF) rfl rfl,fun a e h=>zeg rfl rfl ⟨Dc,Dc⟩ a e h,Kr,Kr,⟨_,_,_,rt5 Dc,rfl,rfl,rfl⟩,rfl,fun _=>⟨0,2,rfl,rfl,Dc,Dc,Dc,Dc,fun h=>nomatch(show Xc=Xd from h)⟩,.inr ⟨0,⟨24,bl0⟩,rfl,rfl,by show((2:Nat):Int)*8+8<=24;omega⟩,by show(0:Int)<=((2:Nat):Int);omega,by show((2:Nat):Int)<1000;omega⟩
theorem zrG(h:ix<3):zdD (mp5 ix pg) 0 (5+ix) Xc arM pg Xd 0 (mp5 ix pg) ⟨pg,2,Xc,Xc,0,(ix:Int)⟩:=by
 refine qP (P:=fun ix=>zdD (mp5 ix pg) 0 (5+ix) Xc arM pg Xd 0 (mp5 ix pg) ⟨pg,2,Xc,Xc,0,(ix:Int)⟩) h ?_ ?_ ?_
 ·exact⟨rt5 Dc,Dc,⟨_,rfl⟩,fun l b=>jb l (rt5 Dc) b (k:=2) (fr:=frF) rfl rfl,fun a e h=>zeg rfl rfl ⟨Dc,Dc⟩ a e h,Kr,Kr,⟨_,_,_,rt5 Dc,rfl,rfl,rfl⟩,rfl,fun _=>⟨0,0,rfl,rfl,Dc,Dc,Dc,Dc,fun h=>nomatch(show Xc=Xd from h)⟩,.inr ⟨0,⟨24,bl0⟩,rfl,rfl,by show((0:Nat):Int)*8+8<=24;omega⟩,by show(0:Int)<=((0:Nat):Int);omega,by show((0:Nat):Int)<1000;omega⟩
 ·exact⟨rt5 Dc,Dc,⟨_,rfl⟩,fun l b=>jb l (rt5 Dc) b (k:=2) (fr:=frF) rfl rfl,fun a e h=>zeg rfl rfl ⟨Dc,Dc⟩ a e h,Kr,Kr,⟨_,_,_,rt5 Dc,rfl,rfl,rfl⟩,rfl,fun _=>⟨0,1,rfl,rfl,Dc,Dc,Dc,Dc,fun h=>nomatch(show Xc=Xd from h)⟩,.inr ⟨0,⟨24,bl0⟩,rfl,rfl,by show((1:Nat):Int)*8+8<=24;omega⟩,by show(0:Int)<=((1:Nat):Int);omega,by show((1:Nat):Int)<1000;omega⟩
 exact⟨rt5 Dc,Dc,⟨_,rfl⟩,fun l b=>jb l (rt5 Dc) b (k:=2) (fr:=frF) rfl rfl,fun a e h=>zeg rfl rfl ⟨Dc,Dc⟩ a e h,Kr,Kr,⟨_,_,_,rt5 Dc,rfl,rfl,rfl⟩,rfl,fun _=>⟨0,2,rfl,rfl,Dc,Dc,Dc,Dc,fun h=>nomatch(show Xc=Xd from h)⟩,.inr ⟨0,⟨24,bl0⟩,rfl,rfl,by show((2:Nat):Int)*8+8<=24;omega⟩,by show(0:Int)<=((2:Nat):Int);omega,by show((2:Nat):Int)<1000;omega⟩
theorem zrr(h:ix<3):j5 (mp5 ix pg) 0 (5+ix) 0 ⟨pg,2,Xc,Xc,0,(ix:Int)⟩ Xd Xc=mp5 ix pg:=qP (P:=fun ix=>j5 (mp5 ix pg) 0 (5+ix) 0 ⟨pg,2,Xc,Xc,0,(ix:Int)⟩ Xd Xc=mp5 ix pg) h rfl rfl rfl
theorem zrq(h:ix<3){a:Pg}:{j5 (mp5 ix pg) 0 (5+ix) 0 ⟨pg,2,Xc,Xc,0,(ix:Int)⟩ Xc Xc with fs:=(j5 (mp5 ix pg) 0 (5+ix) 0 ⟨pg,2,Xc,Xc,0,(ix:Int)⟩ Xc Xc).fs.set 0 ⟨a,2,Xc,Xc,0,(ix:Int)⟩}=mp6 ix a:=qP (P:=fun ix=>{j5 (mp5 ix pg) 0 (5+ix) 0 ⟨pg,2,Xc,Xc,0,(ix:Int)⟩ Xc Xc with fs:=(j5 (mp5 ix pg) 0 (5+ix) 0 ⟨pg,2,Xc,Xc,0,(ix:Int)⟩ Xc Xc).fs.set 0 ⟨a,2,Xc,Xc,0,(ix:Int)⟩}=mp6 ix a) h rfl rfl rfl
def pgW(pg:Pg)(i:Nat)(x:Int):Pg:=zfZ (splice (pgL pg) i [x])
theorem zpb{i:Nat}(hi:i<8)(x:Int):((pgL (pgW pg i x)).drop i).take 1=[x]:=by
 obtain⟨a,b,c,d,e,f,g,h⟩:=pg
 rcases(show i=0\/i=1\/i=2\/i=3\/i=4\/i=5\/i=6\/i=7 by omega)with rfl|rfl|rfl|rfl|rfl|rfl|rfl|rfl<;>rfl
theorem zo9(h:ix<3)(i:Nat)(x:Int):zlh mp3 0 ix i [x]=(Xc,mp4 ix (pgW pg0 i x)):=qP (P:=fun ix=>zlh mp3 0 ix i [x]=(Xc,mp4 ix (pgW pg0 i x))) h Kr Kr Kr
def byM(ix:Nat)(pg:Pg):List Int:=(Oh 24).map fun k=>if k/8=ix then(pgL pg).getD (k%8) 0 else 0
theorem zq6{i:Nat}(h:ix<3)(hi:i<8):((byM ix pg).drop (8*ix+i)).take 1=((pgL pg).drop i).take 1:=by
 obtain⟨a,b,c,d,e,f,g,j⟩:=pg;refine qP (P:=fun ix=>((byM ix _).drop (8*ix+i)).take 1=_) h ?_ ?_ ?_<;>(rcases(show i=0\/i=1\/i=2\/i=3\/i=4\/i=5\/i=6\/i=7 by omega)with rfl|rfl|rfl|rfl|rfl|rfl|rfl|rfl<;>rfl)
theorem by6(h:ix<3):Zw (mp6 ix pg) 0=byM ix pg:=by
 obtain⟨a,b,c,d,e,f,g,i⟩:=pg;exact qP (P:=fun ix=>Zw (mp6 ix _) 0=byM ix _) h Kr Kr Kr
structure MpE(B:List Int)(m:Ma):Prop where
 rt:Rt m
 fl:m.fl.length=1
 byt:Zw m 0=B
structure MpQ(B:List Int)(m:Ma):Prop extends MpE B m where
 free:qE m.fs=m.fs.length
variable{B:List Int}{m:Ma}
theorem MpE.err(h:MpE B m):Zx m 0=0:=by
 unfold Zx;rw[kF (by rw[h.rt.w];decide),kF (Hm h.fl)]
theorem MpE.goes(h:MpE B m)(g:Z3 (fun _ _=>False) m m'):MpE B m':=⟨g.rt,g.aV.fll.trans h.fl,(g.bytes h.rt 0).trans h.byt⟩
theorem zgI{S:Nat->Nat->Prop}{m:Ma}(g:Z3 S m m')(hS:∀q n,¬S q n):Z3 (fun _ _=>False) m m':=⟨g.rt,g.aV.mono (fun q n e=>hS q n e),g.fsl,g.bare,g.unc⟩
theorem MpQ.noca(h:MpQ B m):m.ca=[]:=by
 match g:m.ca with
 |[]=>rfl
 |b::l=>
  exfalso;obtain⟨k,f,i,d,e,_⟩:=zaC h.rt (c:=b) (by rw[g];exact Xz ..)
  have a:=h.free;unfold qE at a;rw[Yr]at a;have:=a f (mG d);exact e (Si this)
theorem MpQ.evict(h:MpQ B m):MpQ B (jP m []).2:=by
 obtain⟨g,e⟩:=zdd h.rt [];have a:=zgI g (fun q n e=>nomatch e)
 refine⟨h.toMpE.goes a,?_⟩;have b:qE (jP m []).2.fs<=(jP m []).2.fs.length:=List.countP_le_length;have c:=h.free;have d:=a.fsl;omega
theorem MpQ.clean{b:Bool}(h:MpQ B m)(a:zdA m b m'):MpQ B m':=by
 rcases a with⟨_,rfl,_⟩|⟨_,c,_,_,_,_,_,a,_⟩
 ·exact h
 rw[h.noca]at a;cases a
structure MpY(B:List Int)(m:Ma):Prop extends MpE B m where
 syn:Syn m 0
theorem MpY.crash(h:MpY B m)(a:Nat->Bool):MpE B (Z0 m (Zc a m.db m.dq)):=⟨zek h.rt a,h.fl,(h.syn.crash h.rt (by rw[h.fl];decide) a).trans h.byt⟩
theorem MpQ.cleans(h:MpQ B m)(c:j8 m M):M=m:=c (fun N=>N=m) rfl fun N d k e g f F b a _ _ _=>by
 subst b;rw[h.noca]at a;cases a
theorem MpE.flush(h:MpE B m):MpE B (Qy m):=h.goes (zim h.rt)
theorem MpQ.sync(h:MpQ B m)(b:j8 m M):MpY B (Qy M):=by
 obtain rfl:=h.cleans b;refine⟨h.toMpE.flush,fun f c e _=>absurd ?_ e,fun _ _ q d=>by cases d⟩
 have a:=h.free;unfold qE at a;rw[Yr]at a
 simpa using a f c
theorem MpQ.room(h:MpQ B m):¬zhl m:=fun⟨M,c,k,d,e,f,F,b,a,_⟩=>by
 obtain rfl:=h.cleans b;rw[h.noca]at a;cases a
theorem zrz(h:ix<3):clM (mp6 ix pg) 0 ⟨pg,2,Xc,Xc,0,(ix:Int)⟩ ⟨24,bl0⟩=mp7 ix pg:=by
 obtain⟨a,b,c,d,e,f,g,i⟩:=pg;exact qP (P:=fun ix=>clM (mp6 ix _) 0 ⟨_,2,Xc,Xc,0,(ix:Int)⟩ ⟨24,bl0⟩=mp7 ix _) h Kr Kr Kr
theorem is6{c:Ca}{k h:Nat}{f:Fr}{F:Fl}(g:c∈(mp6 ix pg).ca)(hi:zdG (mp6 ix pg) c k fi h f F):k=0/\f=⟨pg,2,Xc,Xc,0,(ix:Int)⟩/\F=⟨24,bl0⟩:=by
 have a:c=⟨0,(ix:Int),0⟩:=by
  rcases mC.1 g with e|e
  ·exact e
  cases e
 subst a;have d:k=0:=by have:=hi.fr;simp only at this;omega
 have b:fi=0:=by have:=hi.file;simp only at this;omega
 subst d b;exact⟨rfl,(Option.some.inj hi.fa).symm,(Option.some.inj hi.fl).symm⟩
theorem is7{c:Ca}{k g:Nat}{f:Fr}{F:Fl}(d:c∈(mp7 ix pg).ca)(hi:zdG (mp7 ix pg) c k fi g f F):f.d=Xd:=by
 have a:c=⟨0,(ix:Int),0⟩:=by
  rcases mC.1 d with e|e
  ·exact e
  cases e
 subst a;have b:k=0:=by have:=hi.fr;simp only at this;omega
 subst b;rw[<-Option.some.inj hi.fa]
theorem zrB(h:ix<3):jM (mp6 ix pg).fl (mp6 ix pg).cnt 0 (ix:Int)=0:=qP (P:=fun ix=>jM (mp6 ix pg).fl (mp6 ix pg).cnt 0 (ix:Int)=0) h Kr Kr Kr
theorem zq2{b:Bool}(h:ix<3)(a:zdA (mp6 ix pg) b m'):m'=mp7 ix pg:=by
 rcases a with⟨_,_,e⟩|⟨_,f,k,i,j,g,F,a,c,_,_,d⟩
 ·exact absurd (zrB h) (e 0 ⟨0,(ix:Int),0⟩ 0 0 ix ⟨pg,2,Xc,Xc,0,(ix:Int)⟩ ⟨24,bl0⟩ rfl ⟨rfl,rfl,rfl,rfl,rfl,rfl,rfl,Dc,Wm,by show(2:Int)≠0;decide,show ix<3 from h⟩ rfl)
 obtain⟨rfl,rfl,rfl⟩:=is6 a c;exact d.trans (zrz h)
theorem znd(h:ix<3)(e:j8 (mp6 ix pg) M):M=mp6 ix pg\/M=mp7 ix pg:=e (fun N=>N=mp6 ix pg\/N=mp7 ix pg) (.inl rfl) fun N f k i j g F d a c b _=>by
 rcases d with rfl|rfl
 ·obtain⟨rfl,rfl,rfl⟩:=is6 a c;exact .inr (zrz h)
 rw[is7 a c]at b;cases b
theorem zro(h:ix<3):¬zhl (mp6 ix pg):=fun⟨M,f,k,i,j,g,F,e,c,b,a,d⟩=>by
 rcases znd h e with rfl|rfl
 ·obtain⟨rfl,rfl,rfl⟩:=is6 c b;exact d (zrB h)
 rw[is7 c b]at a;cases a
theorem ok7(h:ix<3):zrL (mp7 ix pg):=fun m a=>by
 have b:zrM (mp7 ix pg) frF:=⟨fun _=>rfl,fun e=>absurd rfl e⟩
 rcases mC.1 a with rfl|a
 ·refine⟨fun _=>rfl,fun _ _=>?_⟩
  obtain⟨c,d,f,g,i,j,k,l⟩:=pg;exact qP (P:=fun ix=>Zm (pgL _) (ix:Int) (Z4 (mp7 ix _) 0)=pgL _/\(Xd=Xd->qF (mp7 ix _) 0 (ix:Int)=pgL _)) h ⟨Kr,fun _=>Kr⟩ ⟨Kr,fun _=>Kr⟩ ⟨Kr,fun _=>Kr⟩
 rcases mC.1 a with rfl|a
 ·exact b
 rcases mC.1 a with rfl|a
 ·exact b
 cases a
theorem e6(h:ix<3):MpE (byM ix pg) (mp6 ix pg):=⟨rt6 h,rfl,by6 h⟩
theorem e7(h:ix<3):MpE (byM ix pg) (mp7 ix pg):=by
 have a:zdG (mp6 ix pg) ⟨0,(ix:Int),0⟩ 0 0 ix ⟨pg,2,Xc,Xc,0,(ix:Int)⟩ ⟨24,bl0⟩:=⟨rfl,rfl,rfl,rfl,rfl,rfl,rfl,Dc,Wm,by show(2:Int)≠0;decide,show ix<3 from h⟩
 have:=zk3 (rt6 h) (Xz ..) a (zrB h);rw[zrz h]at this;exact(e6 h).goes this
theorem zqZ(h:ix<3):MpQ (byM ix pg) (jP (mp7 ix pg) []).2:=by
 obtain⟨g,e⟩:=zdd (rt7 (pg:=pg) h) [];have a:=zgI g (fun q n e=>nomatch e)
 have b:=zmT (rt7 (pg:=pg) h) (ok7 h) (by show(2:Nat)≠3;decide) (by show(1:Nat)≠0;decide) (qP (P:=fun ix=>(mp7 ix pg).cnt-(zpv (mp7 ix pg).fl:Int)≠0) h (by show(3:Int)-((1:Nat):Int)≠0;decide) (by show(3:Int)-((1:Nat):Int)≠0;decide) (by show(3:Int)-((1:Nat):Int)≠0;decide))
 refine⟨(e7 h).goes a,?_⟩;rw[b]at e;have c:qE (mp7 ix pg).fs=2:=rfl;have d:(mp7 ix pg).fs.length=3:=rfl;have f:(Xc).toNat=1:=rfl;have i:=a.fsl;omega
theorem zrm(h:ix<3)(d:j8 (mp6 ix pg) M)(c:JB 0 M.ca.length M):MpY (byM ix pg) (Qy M):=by
 rcases znd h d with rfl|rfl
 ·have:=c 0 ⟨0,(ix:Int),0⟩ 0 ⟨pg,2,Xc,Xc,0,(ix:Int)⟩ (by show 0<1;decide) rfl rfl rfl rfl
  cases this
 refine⟨(e7 h).flush,?_,fun _ _ q e=>by cases e⟩
 intro p a b _
 rcases mC.1 a with rfl|a
 ·refine⟨rfl,?_⟩;obtain⟨f,g,i,j,k,l,m,n⟩:=pg;exact qP (P:=fun ix=>FrD (Qy (mp7 ix _)) ⟨_,2,Xc,Xd,0,(ix:Int)⟩) h (by unfold FrD;kernel_rfl) (by unfold FrD;kernel_rfl) (by unfold FrD;kernel_rfl)
 rcases mC.1 a with rfl|a
 ·exact absurd rfl b
 rcases mC.1 a with rfl|a
 ·exact absurd rfl b
 cases a
end
end
end Go.Proofs.YtmfckdkcmbncdaaGreat
