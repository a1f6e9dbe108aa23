/- TopMapped,proved:what is written to a file is seen where it is mapped,and what is written there is read,and there behind a sync and a crash,whatever the place,the bytes,and however many steps of cleaning and evicting lie between. No condition. -/
import Derived.Test.YtmfckdkcmbncdaaGreatMM4
import Derived.Test.YtmfckdkcmbncdaaGreatRows
import Derived.ProofKit
import Derived.OpenShut
import Derived.ShutString
import Derived.ChangeOld
import Derived.Carry
import Derived.SizedLaws
import Derived.Test.YtmfckdkcmbncdaaGreatChecked
namespace Go.Proofs.YtmfckdkcmbncdaaGreat
open Go.Value renaming slice→O,int→Xe,bool→Xh,agg→Xi,pointer→Xj,tuple→Xm
open Go.IntKind renaming i64→Xf,u8→Xg
open Go.Obj renaming cells→Xk
open Go.Ending renaming returned→Xl
open Go renaming World→Xn,Calls→Xp,Value→Xq
open Go.RowKit renaming Hid→Xo
open Option renaming some→Xa,none→Xb
open Bool renaming true→Xc,false→Xd
open List renaming replicate→Xr
open _root_.Nat renaming lt_of_lt_of_le→Xs,le_of_ble_eq_true→Xw,lt_or_ge→Yb,sub_self→Ye
open _root_.List renaming getElem?_append_left→Xt,range→Xu,getElem?_map→Xv,getElem?_range→Xx,append_assoc→Xz,getElem?_take_of_lt→Ya,length_range→Yc
open Go.Act renaming put→Xy
open Go.Addr renaming add_lit→Yd
set_option maxRecDepth 100000
set_option maxHeartbeats 4000000
variable{B base' fi g kk:Nat}{Q:Exit->Act->Xn->Prop}{V:MaV}{W w' w0 w1 w2:Xn}{l:List Ar}{m m':Ma}{o:Oper}{ops:Array Oper}
open Go.Proofs.Tryz
section
open Go.RowKit
variable{X:Nat->Prop}
theorem zhT{w:Xn}{p:Nat}(j:ChW w0 X p w V m)(pg:List Int)(hp:pg.length=8)(fi ix:Int):
  Xp prog 157 #[Xj (Xa ⟨p,0,Xb⟩),Xi (pgc pg).toArray,I6 fi,I6 ix] w fun e w'=>e=Xl (I6 (if jM m.fl m.cnt fi ix=0 then 0 else 10))/\Chg w0 X p w V (wrM m pg fi ix) w':=by
 obtain⟨q,a⟩:=kB (w.alloc (Xk (pgc pg).toArray 91));have f:=gA a
 obtain⟨s,g⟩:=kA w.heap.size;have h:=xPT a g
 have b:=Jv (j.aA f) pg hp fi ix;obtain⟨i,c⟩:=kA (decide (jM m.fl m.cnt fi ix=0));rw[c.out]at b;have n:Xo ((if jM m.fl m.cnt fi ix=0 then(0:Int)else 10)=if i=Xc then 0 else 10):=dD<|by rw[<-c.out];simp
 rw[n.out];have d:Xo (_=q):=a;clear a j;obtain⟨t,u,v,x,y,z,A,B,rfl⟩:=zc4 pg hp;simp only[pgc,List.map]at b d h⊢
 go_enter func157,ntmps157
 go_upto_region 1 with fail;rw[d.out,g.out]
 go_wp2_with(first|refine zm rfl 91 (.tmp 5) rfl s rfl h.box underlying91 rfl Kr ?_|(go_at_call 194;refine b.mono ?_))
 clear b;rintro e r⟨rfl,k⟩;have l:Xo (Chg w0 X p w V _ r):=dD<|Chg.aG f k.chg
 clear k;cases i
 all_goals
  go_wp2;go_ret;exact⟨rfl,l⟩
theorem zoq{w:Xn}{p:Nat}(v:ChW w0 X p w V m)(j:Rt m)(fi ix:Nat)(hi:ix<100):
  Xp prog 154 #[Xj (Xa ⟨p,0,Xb⟩),I6 (fi:Int),I6 (ix:Int)] w fun e w'=>(∃(k:Nat)(b:Bool),e=Xl (Xm #[I6 (k:Int),Xh b])/\((b=Xd/\zpX m (fi:Int) (ix:Int)=Xb)\/(b=Xc/\∃(c:Ca)(fr:Fr),zpX m (fi:Int) (ix:Int)=Xa c/\c∈m.ca/\c.fr=(k:Int)/\c.file=(fi:Int)/\c.idx=(ix:Int)/\m.fs[k]?=Xa fr/\fr.r≠0)))/\zc w w':=by
 obtain⟨g,h,n⟩:=j.cache;refine(zb8 v g h n (fi:Int) (ix:Int) Wm).mono ?_
 rintro e w'⟨y,u⟩;refine⟨?_,u⟩
 rcases y with⟨a,rfl⟩|⟨a,x⟩
 ·exact⟨0,Xd,rfl,.inl ⟨rfl,zmu a⟩⟩
 obtain⟨c,d⟩:∃c,m.ca[zbA m.ca ⟨(fi:Int),(ix:Int),0⟩]?=Xa c:=⟨_,gE (zeU a)⟩;have f:=mG d;have l:zpX m (fi:Int) (ix:Int)=Xa c:=(zfr g a).trans d;have z:=List.find?_some l;obtain⟨q,r⟩:=zop (h c f) (show 0<=(ix:Int)/\(ix:Int)<100 by omega) (Si z)
 obtain⟨k,fr,i,s,t,_⟩:=zaC j f;rw[x c d,i];exact⟨k,Xc,rfl,.inr ⟨rfl,c,fr,l,f,i,q,r,s,t⟩⟩
theorem zm1{w0 w:Xn}{p:Nat}{V:MaV}{m:Ma}(h:ChW w0 X p w V m)(hR:Rt m)(fi ix i:Nat)(F:Fl)(hF:m.fl[fi]?=Xa F)(hx:ix<F.bl.length)(ns:List Int)(a:Option Addr)(cap:Nat)(hD:zj byE w0 (O a ns.length cap) ns)(hi:i<8)(hl:i+ns.length<=8):
  Xp Tryz.prog 93 #[Xj (Xa ⟨p,0,Xb⟩),Xe Xf (fi:Int),Xe Xf (ix:Int),Xe Xf (i:Int),O a ns.length cap] w fun e w'=>e=Xl (Xe Xf (if(zlh m fi ix i ns).1=Xc then 0 else 10))/\Chg w0 X p w V (zlh m fi ix i ns).2 w':=by
 obtain⟨bk,hbk⟩:∃bk,F.bl[ix]?=Xa bk:=⟨_,gE hx⟩;obtain⟨g5,g96,g12⟩:=zgQ hR hF;have hix:ix<12:=Wm
 have hcc:=zoq h hR fi ix Wm
 have hdl:=zbf h.at.db.2.1 h.at.dq.2.1 (fi:Int) (ix:Int);have HST:Xo (∀W,zc w W->Xp Tryz.prog 155 #[Xi #[O V.f.a V.f.n V.f.c,Xe Xf m.aB,O V.s.a V.s.n V.s.c,O V.sb.a V.sb.n V.sb.c,O V.sq.a V.sq.n V.sq.c,O V.db.a V.db.n V.db.c,O V.dq.a V.dq.n V.dq.c,O V.fl.a V.fl.n V.fl.c,Xe Xf m.cnt,O V.ca.a V.ca.n V.ca.c,O V.sp.a V.sp.n V.sp.c],Xe Xf (fi:Int),Xe Xf (ix:Int)] W fun e w'=>e=Xl (Xi (pgc (qF m fi ix)).toArray)/\zc W w'):=show∀W,_ from fun W hW=>(zal V m fi ix F bk W (h.at.aA hW) hF hbk Wm Wm).mono fun e w' q=>⟨q.1,q.2.2⟩
 have HFE:Xo (∀W,zc w W->Xp Tryz.prog 156 #[Xj (Xa ⟨p,0,Xb⟩),Xi (pgc (qF m fi ix)).toArray,Xe Xf (fi:Int),Xe Xf (ix:Int),O Xb 0 0] W fun e w'=>e=Xl (Xm #[Xe Xf ((q9 m (zfZ (qF m fi ix)) (fi:Int) (ix:Int) []).2.1:Int),Xe Xf (if(q9 m (zfZ (qF m fi ix)) (fi:Int) (ix:Int) []).1=Xc then 0 else 10)])/\Chg w0 X p W V (q9 m (zfZ (qF m fi ix)) (fi:Int) (ix:Int) []).2.2 w'):=show∀W,_ from fun W hW=>by
  have hpg:pgc (qF m fi ix)=pgc (pgL (zfZ (qF m fi ix))):=by rw[zqP hdl]
  rw[hpg];exact zit (h.aA hW) hR (zfZ (qF m fi ix)) fi ix (zfn (.inr ⟨Wm,Wm,Wm,Wm⟩)) Wm (O Xb 0 0) [] (fun W' _=>zj.nil Jb W') (fun x hx=>nomatch hx) Sm (fun _ W1 V1 hc hv=>zew hc hR (O Xb 0 0) [] hv)
 obtain⟨PR,HPR⟩:∃PR,Xo (zlh m fi ix i ns=PR):=⟨_,rfl⟩;have HK1:Xo (∀c,zpX m (fi:Int) (ix:Int)=Xa c->PR=(Xc,zpd m c.fr.toNat i ns)):=show∀c,_ from fun c hc=>by
  rw[<-HPR.out];unfold zlh;rw[hc]
 obtain⟨FR,HFR⟩:∃FR,Xo (q9 m (zfZ (qF m fi ix)) (fi:Int) (ix:Int) []=FR):=⟨_,rfl⟩;have HK2:Xo (zpX m (fi:Int) (ix:Int)=Xb->PR=if FR.1=Xc then(Xc,zpd FR.2.2 FR.2.1 i ns)else(decide (jM FR.2.2.fl FR.2.2.cnt fi ix=0),wrM FR.2.2 (splice (qF m fi ix) i ns) fi ix)):=show _->_ from fun hc=>by
  rw[<-HPR.out,<-HFR.out];unfold zlh;rw[hc]
 have HFS:Xo (FR.1=Xc->∃fr,FR.2.2.fs[FR.2.1]?=Xa fr):=show _->_ from fun h1=>by
  rw[<-HFR.out]at h1⊢;exact ziq hR h1
 rw[HFR.out]at HFE;rw[HPR.out];obtain⟨eA,HEA⟩:∃eA:Int,Xo ((if PR.1=Xc then(0:Int)else 10)=eA):=⟨_,rfl⟩;rw[HEA.out];clear HFR HPR;obtain⟨p0,p1,p2,p3,p4,p5,p6,p7,hpl⟩:=zc4 (qF m fi ix) hdl;rw[hpl]at HST HFE HK2;have HSP:Xo ((splice [p0,p1,p2,p3,p4,p5,p6,p7] i ns).length=8):=show _=_ from zlL rfl hl
 obtain⟨s0,s1,s2,s3,s4,s5,s6,s7,hsl⟩:=zc4 (splice [p0,p1,p2,p3,p4,p5,p6,p7] i ns) HSP.out;rw[hsl]at HK2;have HSQ:Xo (∀W,zc w0 W->Xp Tryz.prog 83 #[Xi #[Xe Xg p0,Xe Xg p1,Xe Xg p2,Xe Xg p3,Xe Xg p4,Xe Xg p5,Xe Xg p6,Xe Xg p7],Xe Xf (i:Int),O a ns.length cap] W fun e w'=>e=Xl (Xi #[Xe Xg s0,Xe Xg s1,Xe Xg s2,Xe Xg s3,Xe Xg s4,Xe Xg s5,Xe Xg s6,Xe Xg s7])/\zc W w'):=show∀W,_ from fun W hW=>QQ p0 p1 p2 p3 p4 p5 p6 p7 s0 s1 s2 s3 s4 s5 s6 s7 i ns a cap W hi hl (hD.aA hW) hsl
 simp only[pgc,List.map]at HST HFE;have HM:Xo (ChW w0 X p w V m):=h;have HDD:Xo (zj byE w0 (O a ns.length cap) ns):=hD;have HIL:Xo (i<8/\i+ns.length<=8):=⟨hi,hl⟩;clear h hR hF hbk hx hD hi hl g5 g96 g12 hix hdl hpl hsl HSP
 go_enter Tryz.func93,Tryz.ntmps93
 go_wp2_with fail;refine hcc.mono ?_;clear hcc;rintro e W1⟨⟨k0,hb,rfl,hk⟩,g1⟩;have G1:Xo (zc w W1):=g1;have M1:=dD (HM.out.aA g1);have HKK:Xo _:=show((hb=Xd/\zpX m (fi:Int) (ix:Int)=Xb)\/(hb=Xc/\_))from hk
 clear hk g1
 go_upto_if 24 with fail
 go_cut[11] (fun s11 wx=>∃(k:Nat)(V2:MaV)(m2:Ma)(fr:Fr),s11=Xe Xf (k:Int)/\Xo (ChW w0 X p wx V2 m2)/\Xo (zk (Dw p V) w wx)/\Xo (∀k,Dw p V2 k->Dw p V k\/w.heap.size<=k)/\Xo (m2.fs[k]?=Xa fr)/\Xo (PR=(Xc,zpd m2 k i ns)))
 case first=>
  cases hb with
  |true=>
   obtain⟨_,c,fr,e1,e2,e3,e4,e5,e6,e7⟩:=HKK.out.resolve_left (fun h=>nomatch h.1)
   have HP:Xo (PR=(Xc,zpd m k0 i ns)):=show _=_ by rw[HK1.out c e1,e3,tN]
   have HE6:Xo (m.fs[k0]?=Xa fr):=e6;have O1:Xo (zk (Dw p V) w W1):=zk.aA G1.out;clear e1 e2 e3 e4 e5 e6 e7;go_wp2
   go_meet
   exact⟨k0,V,m,fr,rfl,M1,O1,fun _ h=>.inl h,HE6,HP⟩
  |false=>
   have HKN:=HK2.out (HKK.out.resolve_right (fun h=>nomatch h.1)).2
   have HK3:Xo (PR=_):=show PR=_ from HKN
   clear HKN HKK HK1 HK2;have hst:=HST.out W1 G1.out;have HSJ:Xo ((Tryz.prog.info? 45).map (·.size)=Xa (chL V m).length):=show _=_ by kernel_rfl
   go_upto_region 5 with(first|refine zm rfl 45 (.tmp 27) rfl p rfl M1.out.box.box Tryz.underlying45 rfl HSJ.out ?_|(go_at_call 155;refine hst.mono ?_))
   clear hst HSJ;rintro e W2⟨rfl,g2⟩;obtain⟨pb,HPB⟩:∃pb,Xo (W2.heap.size=pb):=⟨_,rfl⟩;have G2:Xo (zc W1 W2):=g2;clear g2
   go_upto_region 5 with(refine zh rfl 91 (.tmp 14) (.tmp 31) rfl W2.heap.size rfl [Xe Xg p0,Xe Xg p1,Xe Xg p2,Xe Xg p3,Xe Xg p4,Xe Xg p5,Xe Xg p6,Xe Xg p7] rfl (zg.aD W2 [Xe Xg 0,Xe Xg 0,Xe Xg 0,Xe Xg 0,Xe Xg 0,Xe Xg 0,Xe Xg 0,Xe Xg 0] _ rfl) rfl Kr (by simp[Value.oneCell']) ?_)
   intro W3 b3 g3 _;have g23:zc W2 W3:=zd (za _ _) g3 (nR _);have P3:Xo (zg W3 pb 91 [Xe Xg p0,Xe Xg p1,Xe Xg p2,Xe Xg p3,Xe Xg p4,Xe Xg p5,Xe Xg p6,Xe Xg p7]):=show zg _ _ _ _ by rw[<-HPB.out];exact b3
   have G3:Xo (zc w W3):=show zc _ _ from G1.out.trans (G2.out.trans g23)
   have HNP:Xo (¬Dw p V pb):=show¬_ from fun e=>by have:=M1.out.aM pb e;have:=bS G2.out;have:=HPB.out;omega
   have HPL:Xo (w.heap.size<=pb):=show _<=_ by have:=bS (G1.out.trans G2.out);have:=HPB.out;omega
   rw[HPB.out];clear b3 g3 g23 G1 G2;have hfe:=HFE.out W3 G3.out;obtain⟨fb,fk,fm⟩:=FR;simp only at hfe HK3 HFS;obtain⟨er,HER⟩:∃er:Int,Xo ((if fb=Xc then(0:Int)else 10)=er):=⟨_,rfl⟩;rw[HER.out]at hfe;try simp only[Xy]
   go_wp2_with(first|refine zm rfl 91 (.tmp 14) rfl pb rfl P3.out.box Tryz.underlying91 rfl Kr ?_|(go_at_call 156;refine hfe.mono ?_))
   clear hfe;rintro e W4 rfl h4;obtain⟨V4,m4,o4,d4⟩:=h4;have P4:Xo (zg W4 pb 91 [Xe Xg p0,Xe Xg p1,Xe Xg p2,Xe Xg p3,Xe Xg p4,Xe Xg p5,Xe Xg p6,Xe Xg p7]):=show zg _ _ _ _ from P3.out.aK o4 HNP.out
   have M4:Xo (ChW w0 X p W4 V4 fm):=m4;have O4:Xo (zk (Dw p V) w W4):=(zk.aA G3.out).trans o4;have D4:Xo (∀k,Dw p V4 k->Dw p V k\/w.heap.size<=k):=Chg.far G3.out d4;clear m4 o4 d4 P3 G3 HFE HST
   cases fb with
   |true=>
    obtain rfl:er=0:=HER.out.symm;obtain⟨fr,hfr⟩:=HFS.out rfl;have HE6:Xo (fm.fs[fk]?=Xa fr):=hfr;have HP:Xo (PR=(Xc,zpd fm fk i ns)):=show _=_ by rw[HK3.out];rfl
    clear hfr HK3;go_wp2
    go_meet
    exact⟨fk,V4,fm,fr,rfl,M4,O4,D4,HE6,HP⟩
   |false=>
    obtain rfl:er=10:=HER.out.symm;have hsq:=HSQ.out W4 M4.out.gr;have HP:Xo (PR=_):=show PR=_ from HK3.out
    clear HK3
    go_wp2_with(first|refine zm rfl 91 (.tmp 14) rfl pb rfl P4.out.box Tryz.underlying91 rfl Kr ?_|(go_at_call 83;refine hsq.mono ?_))
    clear hsq;rintro e W5⟨rfl,g5⟩;have M5:=dD (M4.out.aA g5);have O5:=dD (O4.out.trans (zk.aA g5));have D5:Xo (∀k,Dw p V4 k->Dw p V k\/w.heap.size<=k):=D4.out;clear g5 M4 P4 O4 D4;have hpd:=zhT M5.out [s0,s1,s2,s3,s4,s5,s6,s7] rfl (fi:Int) (ix:Int);simp only[pgc,List.map]at hpd;have HRE:Xo ((if jM fm.fl fm.cnt (fi:Int) (ix:Int)=0 then(0:Int)else 10)=if PR.1=Xc then 0 else 10):=show _=_ by rw[HP.out];simp
    rw[HRE.out]at hpd;rw[HEA.out]at hpd;clear HRE
    go_wp2_with(go_at_call 157;refine hpd.mono ?_)
    clear hpd;rintro e W6⟨rfl,h6⟩;have HFIN:Xo (Chg w0 X p w V PR.2 W6):=show Chg _ _ _ _ _ _ _ by rw[HP.out];exact Chg.step O5.out D5.out h6
    clear h6 HP;go_wp2;go_ret;exact⟨rfl,HFIN.out⟩
 obtain⟨k,V4,m2,fr,rfl,M4,O4,D4,HFR,HP⟩:=hcut;clear HKK HK1 HK2 HST HFE HSQ HFS G1 M1;have hkl:=(gS.1 HFR.out).1;obtain⟨g7,c7,heq⟩:=M4.out.fs.aJ Wm
 obtain⟨fn,HFN⟩:∃fn,Xo (m2.fs.length=fn):=⟨_,rfl⟩;have hlt:(k:Int)<(fn:Int):=Hm HFN.out
 rw[HFN.out]at heq;have f0:wc.cell? ⟨p,0,Xb⟩=Xa (O (Xa ⟨g7,0,Xb⟩) fn c7):=by rw[<-heq];exact M4.out.box.box.c 0 rfl
 have HFO:Xo (zb z9 w0.heap.size wc (O (Xa ⟨g7,0,Xb⟩) fn c7) m2.fs):=show zb _ _ _ _ _ by rw[<-heq];exact M4.out.fs
 have HEQ:Xo (O V4.f.a V4.f.n V4.f.c=O (Xa ⟨g7,0,Xb⟩) fn c7):=heq;have HG7:Xo (oB V4.f g7):=show oB _ _ by unfold oB;rw[heq];rfl
 clear heq hkl;obtain⟨⟨b0,b1,b2,b3,b4,b5,b6,b7⟩,r,u,d,f,x⟩:=fr;obtain⟨q0,q1,q2,q3,q4,q5,q6,q7,hq⟩:=zc4 (splice [b0,b1,b2,b3,b4,b5,b6,b7] i ns) (zlL rfl HIL.out.2);have HPM:Xo (PR=(Xc,{m2 with fs:=m2.fs.set k ⟨⟨q0,q1,q2,q3,q4,q5,q6,q7⟩,r,Xc,Xc,f,x⟩})):=show _=_ by
  rw[HP.out];unfold zpd;rw[zX HFR.out]
  show(Xc,({m2 with fs:=m2.fs.set k ⟨zfZ (splice [b0,b1,b2,b3,b4,b5,b6,b7] i ns),r,Xc,Xc,f,x⟩}:Ma))=_
  rw[hq];rfl
 have hse:=QQ b0 b1 b2 b3 b4 b5 b6 b7 q0 q1 q2 q3 q4 q5 q6 q7 i ns a cap wc HIL.out.1 HIL.out.2 (HDD.out.aA M4.out.gr) hq;have HRG:Xo (wc.rangeAt g7 (k*13) [Xe Xg b0,Xe Xg b1,Xe Xg b2,Xe Xg b3,Xe Xg b4,Xe Xg b5,Xe Xg b6,Xe Xg b7]):=show World.rangeAt _ _ _ _ from fun j v hj=>HFO.out.bJ HFR.out j v (by
  have hlt:=(gS.1 hj).1
  show([Xe Xg b0,Xe Xg b1,Xe Xg b2,Xe Xg b3,Xe Xg b4,Xe Xg b5,Xe Xg b6,Xe Xg b7]++[Xe Xf r,Xh u,Xh d,Xe Xf f,Xe Xf x])[j]?=Xa v
  rw[Xt hlt];exact hj)
 clear hq HP;go_upto_region 9 with fail;clear f0
 go_wp2_with(first|refine wpList_load_mid rfl 91 (.tmp 61) rfl g7 (k*13) rfl [Xe Xg b0,Xe Xg b1,Xe Xg b2,Xe Xg b3,Xe Xg b4,Xe Xg b5,Xe Xg b6,Xe Xg b7] _ HRG.out Tryz.underlying91 rfl Kr ?_|(go_at_call 83;refine hse.mono ?_))
 clear hse;rintro e W5⟨rfl,g5⟩;have G5:Xo (zc wc W5):=g5;have R5:=dD (HFO.out.aA g5);clear g5 HRG HFO
 go_wp2_with(refine zt (E:=z9) rfl (.tmp 67) (.tmp 65) 91 rfl w0.heap.size _ m2.fs R5.out g7 k 0 rfl ⟨⟨b0,b1,b2,b3,b4,b5,b6,b7⟩,r,u,d,f,x⟩ ⟨⟨q0,q1,q2,q3,q4,q5,q6,q7⟩,r,u,d,f,x⟩ HFR.out [Xe Xg q0,Xe Xg q1,Xe Xg q2,Xe Xg q3,Xe Xg q4,Xe Xg q5,Xe Xg q6,Xe Xg q7] Kr rfl (Xw rfl) (by intro u hu;simp at hu;rcases hu with rfl|rfl|rfl|rfl|rfl|rfl|rfl|rfl<;>rfl) ⟨g7,k*13,Xb⟩ rfl rfl _ rfl rfl ?_)
 intro W6 ow6 gr6 _;have HK6:Xo ((m2.fs.set k ⟨⟨q0,q1,q2,q3,q4,q5,q6,q7⟩,r,u,d,f,x⟩)[k]?=Xa ⟨⟨q0,q1,q2,q3,q4,q5,q6,q7⟩,r,u,d,f,x⟩):=show _=_ from sF (gS.1 HFR.out).1
 have R6:Xo (zb z9 w0.heap.size W6 (O (Xa ⟨g7,0,Xb⟩) fn c7) (m2.fs.set k ⟨⟨q0,q1,q2,q3,q4,q5,q6,q7⟩,r,u,d,f,x⟩)):=ow6;have E6:Xo (W5.grownBy W6 (Xa g7)):=gr6;clear ow6 gr6 R5;try simp only[Xy]
 go_wp2_with(refine zt (E:=z9) rfl (.tmp 71) (.const (Xh Xc)) 4 rfl w0.heap.size _ (m2.fs.set k ⟨⟨q0,q1,q2,q3,q4,q5,q6,q7⟩,r,u,d,f,x⟩) R6.out g7 k 9 rfl ⟨⟨q0,q1,q2,q3,q4,q5,q6,q7⟩,r,u,d,f,x⟩ ⟨⟨q0,q1,q2,q3,q4,q5,q6,q7⟩,r,Xc,d,f,x⟩ HK6.out [Xh Xc] Kr rfl (Xw rfl) (by intro u hu;simp at hu;subst hu;rfl) ⟨g7,k*13+9,Xb⟩ rfl rfl _ rfl rfl ?_)
 intro W7 ow7 gr7 _;try rw[List.set_set]at ow7
 have HK7:Xo ((m2.fs.set k ⟨⟨q0,q1,q2,q3,q4,q5,q6,q7⟩,r,Xc,d,f,x⟩)[k]?=Xa ⟨⟨q0,q1,q2,q3,q4,q5,q6,q7⟩,r,Xc,d,f,x⟩):=show _=_ from sF (gS.1 HFR.out).1
 have R7:Xo (zb z9 w0.heap.size W7 (O (Xa ⟨g7,0,Xb⟩) fn c7) (m2.fs.set k ⟨⟨q0,q1,q2,q3,q4,q5,q6,q7⟩,r,Xc,d,f,x⟩)):=ow7;have E7:Xo (W5.grownBy W7 (Xa g7)):=show World.grownBy _ _ _ from je E6.out gr7
 clear ow7 gr7 R6 E6;try simp only[Xy]
 go_wp2_with(refine zt (E:=z9) rfl (.tmp 73) (.const (Xh Xc)) 4 rfl w0.heap.size _ (m2.fs.set k ⟨⟨q0,q1,q2,q3,q4,q5,q6,q7⟩,r,Xc,d,f,x⟩) R7.out g7 k 10 rfl ⟨⟨q0,q1,q2,q3,q4,q5,q6,q7⟩,r,Xc,d,f,x⟩ ⟨⟨q0,q1,q2,q3,q4,q5,q6,q7⟩,r,Xc,Xc,f,x⟩ HK7.out [Xh Xc] Kr rfl (Xw rfl) (by intro u hu;simp at hu;subst hu;rfl) ⟨g7,k*13+10,Xb⟩ rfl rfl _ rfl rfl ?_)
 intro W8 ow8 gr8 _;try rw[List.set_set]at ow8
 have HFIN:Xo (Chg w0 X p w V PR.2 W8):=show Chg _ _ _ _ _ _ _ by
  have h1:=(M4.out.aA G5.out).frame HG7.out (je E7.out gr8) (Rx HEQ.out ow8)
  rw[HPM.out];exact Chg.step O4.out D4.out (Chg.aG G5.out h1)
 have HP1:Xo (PR.1=Xc):=show _=_ by rw[HPM.out]
 clear ow8 gr8 R7 E7 M4 O4 D4 G5 HPM;try simp only[Xy]
 go_wp2;go_ret;exact⟨by rw[<-HEA.out,if_pos HP1.out];rfl,HFIN.out⟩
theorem zfv(F:Nat)(b:Array Xq)(p:Enters prog F)(i ix n cap:Nat)(g:Addr)(P:0<n)(hi:i+n<=8)(Q:ix<1000)(M:n<=cap)(w:Xn)(J:Int->Xn->Prop)(r:∀a w w',J a w->zc w w'->J a w')
  (q:Xp prog F (#[I6 (ix:Int),I6 (i:Int),O (Xa g) n cap]++b) w fun e w'=>∃a:Int,e=Xl (I6 a)/\J a w'):
  Xp prog 91 #[I6 ((8*ix+i:Nat):Int),O (Xa g) n cap,.func (.func F) #[] b] w fun e w'=>∃a:Int,e=Xl (I6 a)/\J a w':=by
 have v:Xo (∀(d:Array Xq)(w:Xn),(callFunc F d).run prog w=.ok (.enter F d) w):=p;have y:Xo (Xp prog F (#[I6 (ix:Int),I6 (i:Int),O (Xa g) n cap]++b) w fun e w'=>∃a:Int,e=Xl (I6 a)/\J a w'):=q
 obtain⟨c,f⟩:=kA (8*ix+i);rw[f.out];have z:Xo (∀a w w',J a w->zc w w'->J a w'):=r;clear p q r
 go_enter func91,ntmps91
 go_wp2
 go_loopg[0,1] 1 (fun C t u wr=>(1<=C/\t=I6 (c:Int)/\u=O (Xa g) n cap/\wr=w)\/(∃(x:Int)(l:Option Addr)(m:Nat),t=I6 x/\u=O l 0 m/\Xo (J 0 wr)))
 exact .inl ⟨nR _,rfl,rfl,rfl⟩
 rcases hrel with⟨D,rfl,rfl,rfl⟩|⟨x,l,m,rfl,rfl,A⟩
 ·have N:(0:Int)<(n:Int):=Wm
  have E:wrap64 (ix:Int)=(ix:Int):=by unfold wrap64;omega
  have G:(c:Int).tdiv 8=(ix:Int):=by have:=f.out;rw[Int.tdiv_eq_ediv_of_nonneg Wm];omega
  have H:(c:Int).tmod 8=(i:Int):=by have:=f.out;rw[Int.tmod_eq_emod_of_nonneg Wm];omega
  have K:min (8-(i:Int)) (n:Int)=(n:Int):=Wm
  go_upto_region 4 with fail;clear G H K;go_wp2_with fail;rw[v.out];refine y.mono ?_;rintro e k⟨a,rfl,s⟩;have j:Xo (J a k):=s;clear s
  by_cases h:a=0
  ·subst h;have L:(c:Int)<9000:=Hm f.out
   go_upto_region 7 with fail;go_quiet(fail);have B:Xo (J 0 (k.drewN nq)):=dD<|z.out _ _ _ j (show Below _ _ _ from bD (bR _ _) _)
   go_wp2
   all_goals
    go_roundg 0;exact .inr ⟨_,_,_,rfl,rfl,B⟩;omega
  have R:(a !=0)=Xc:=by simp[h]
  clear h;go_wp2;go_ret;exact⟨a,rfl,j⟩
 go_wp2;go_ret;exact⟨0,rfl,A⟩
theorem zV.append{base:Nat}{w:Xn}{v s:Xq}{fs:List Fl}{xs:List FlV}(t:zb fvE base w v xs)(q:xs.length=fs.length)(u:∀(i:Nat)x f,xs[i]?=Xa x->fs[i]?=Xa f->x.size=f.size/\zb blE base w x.v f.bl)
  (z:∀(i j:Nat)x y,i≠j->xs[i]?=Xa x->xs[j]?=Xa y->∀g,x.v.ownBlock=Xa g->y.v.ownBlock≠Xa g)(C:zb fvE base' w' s (xs++[⟨0,Xb,0,0⟩]))(B:w.grownBy w' v.ownBlock)(A:base'<=base):zV base' w' s (fs++[⟨0,[]⟩]):=by
 refine⟨xs++[⟨0,Xb,0,0⟩],C,by simp[q],fun i x f a e=>?_,fun i j x y m a d g h=>?_⟩
 ·rcases Yb i xs.length with b|b
  ·rw[Xt b]at a;rw[Xt Wm]at e
   obtain⟨D,r⟩:=u i x f a e;exact⟨D,(r.grown B (fun g l k=>t.apart r (Ne.symm Qo) g k l)).base A⟩
  rw[aR b]at a;rw[aR Wm,<-q]at e
  have c:i-xs.length=0:=by
   have:=(gS.1 a).1
   simp at this
   omega
  rw[c]at a e;cases a;cases e;exact⟨rfl,zb.nil _ _ _⟩
 rcases Yb i xs.length with b|b
 ·rw[Xt b]at a
  rcases Yb j xs.length with n|n
  ·rw[Xt n]at d;exact z i j x y m a d g h
  rw[aR n]at d;have p:j-xs.length=0:=by
   have:=(gS.1 d).1
   simp at this
   omega
  rw[p]at d;cases d;exact fun k=>by cases k
 rw[aR b]at a;have c:i-xs.length=0:=by
  have:=(gS.1 a).1
  simp at this
  omega
 rw[c]at a;cases a;cases h
theorem zg2(v:Xq)(fs:List Fl)(c:Int)(w:Xn)(a8:qe w v fs):
  Xp prog 87 #[Xi #[v,I6 c]] w fun e w'=>∃b,e=Xl (Xm #[Xi #[b,I6 (zqp fs c)],I6 (zqo fs c),I6 (zg3 fs c)])/\z8 0 w.heap.size w' b (znI fs c)/\zc w w':=by
 have u:∀W,zc w W->Xp prog 61 #[Xi #[v,I6 c]] W fun e w'=>e=Xl (I6 (stW fs c))/\zc W w':=fun W aj=>zaf v fs c W (a8.aA aj)
 have a1:∀W,zc w W->Xp prog 54 #[Xi #[v,I6 c]] W fun e w'=>∃b,e=Xl (Xi #[b,I6 c])/\zV (W.heap.size+2) w' b fs/\zc W w'/\W.heap.size+2<=w'.heap.size:=fun W aj=>Jk v fs c W (a8.aA aj)
 obtain⟨a,ah,rfl,a2,_⟩:=a8.rows;clear a8;obtain⟨n,R⟩:=kA fs.length;rw[R.out]at u a1 a2⊢;obtain⟨bi,q⟩:=kB ((w.alloc (Xk #[O a n ah,I6 c] 41)).alloc (Xk #[eS,I6 0] 41));have j:=gD2 q
 have au:=x2a q
 have af:=x2b q
 have M:Xo (_=bi):=q;clear q
 rcases zm7 fs c with⟨K,B,C,D,F⟩|⟨K,a7,B,C,D,F⟩|⟨K,a7,B,C,D,F⟩
 ·rw[B,C,D,F];have bn:(stW fs c !=0)=Xc:=Si K
  clear B C D F a1 K
  generalize stW fs c=bh at*
  go_enter func87,ntmps87
  go_wp2_with fail;rw[M.out];refine(u _ j).mono ?_;rintro e m⟨rfl,k⟩;have Q:=dD (j.trans k);have s:=af.aA k;obtain⟨b5,b6⟩:=s.k2;have b7:=s.f;clear k u;go_wp2;refine bodyPost_ret (v:=Xm #[Xi #[eS,I6 0],I6 0,I6 bh]) (by simp[results,Tryz.results87,go_sem, *]) rfl ⟨_,rfl,z8.nil _ _ _,?_⟩
  exact Below.setCell (Below.setCell Q (p:=⟨w.heap.size+1,0,Xb⟩) Sm _) (p:=⟨w.heap.size+1,1,Xb⟩) Sm _
 ·rw[B,C,D,F];rw[K]at u;rw[R.out]at a7;have ak:((n:Int)==5)=Xc:=by simp;omega
  clear B C D F a1 K a7
  go_enter func87,ntmps87
  go_wp2_with fail;rw[M.out];refine(u _ j).mono ?_;rintro e m⟨rfl,k⟩;have Q:=dD (j.trans k);have ap:=(au.aA k).c 0 rfl;have s:=af.aA k;obtain⟨b5,b6⟩:=s.k2;have b7:=s.f;clear k u;go_wp2;refine bodyPost_ret (v:=Xm #[Xi #[eS,I6 0],I6 0,I6 4]) (by simp[results,Tryz.results87,go_sem, *]) rfl ⟨_,rfl,z8.nil _ _ _,?_⟩
  exact Below.setCell (Below.setCell Q (p:=⟨w.heap.size+1,0,Xb⟩) Sm _) (p:=⟨w.heap.size+1,1,Xb⟩) Sm _
 rw[B,C,D,F];rw[K]at u;rw[R.out]at a7⊢;have ak:((n:Int)==5)=Xd:=by simp;omega
 clear B C D F K
 go_enter func87,ntmps87
 go_wp2_with fail;rw[M.out];refine(u _ j).mono ?_;rintro e m⟨rfl,k⟩;have Q:=dD (j.trans k);have ae:=dD (au.aA k);have s:=dD (af.aA k);obtain⟨ap,b3⟩:=ae.k2;clear k u;go_wp2_with fail;refine(a1 _ Q).mono ?_;rintro e S⟨b,rfl,ao,ai,b2⟩;have d:Xo (w.heap.size+2<=m.heap.size):=s.lt;obtain⟨V,a9,an,az,b0⟩:=ao;obtain⟨I,a0,rfl⟩:=a9.form;rw[an,R.out]at a9⊢;have a5:Xo (zb fvE (m.heap.size+2) S (O I n a0) V):=a9;have ac:Xo (V.length=fs.length):=an;have aq:Xo (∀(L:Nat)A U,V[L]?=Xa A->fs[L]?=Xa U->A.size=U.size/\zb blE (m.heap.size+2) S A.v U.bl):=az;have be:Xo (∀(L ay:Nat)A b4,L≠ay->V[L]?=Xa A->V[ay]?=Xa b4->∀g,A.v.ownBlock=Xa g->b4.v.ownBlock≠Xa g):=b0;have b8:=dD (Q.trans ai);have ab:Xo (m.heap.size+2<=S.heap.size):=b2;have X:Xo (zc m S):=ai;clear ai b2 a1 ap b3 a9 an az b0;go_upto_region 7 with fail;obtain⟨r,z⟩:=kB S.heap.size;obtain⟨ad,x⟩:=kB (S.alloc (Xk #[O I n a0,I6 c] 41));have f:=gA x
 have a6:Xo (zg ad r 41 [O I n a0,I6 c]):=dD<|by rw[<-x];exact zg.aD _ _ _ z.symm
 have bj:=dD ((ae.aA X).aA f);have bl:=dD ((s.aA X).aA f);have t:Xo (m.heap.size+2<=r):=show _<=_ by rw[<-z];exact ab.out
 have aa:Xo (r<ad.heap.size):=a6.box.lt;have b9:=dD (b8.trans f);rw[x];rw[z];clear x z;have b1:=a6.box.c 0 rfl
 go_wp2_with(at_builtin;refine zr (E:=fvE) rfl (.tmp 21) (.tmp 23) rfl (m.heap.size+2) _ V rfl (a5.aA (f.trans (za _ _))) _ [⟨0,Xb,0,0⟩] rfl (ZD fvE ad ⟨0,Xb,0,0⟩ _ _ rfl (by show 32<=_;omega)) ?qb ?qc ?_)
 case qb=>
  rw[ac.out,R.out]
  show(_+1)*32<=_
  omega
 case qc=>simp;have:=t.out;have:=aa.out;omega
 intro bs T P l;have N:=zV.append (a5.aA (f.trans (za _ _))) ac (fun L A U ax aw=>⟨(aq L A U ax aw).1,(aq L A U ax aw).2.aA (f.trans (za _ _))⟩) be P l (nR _)
 obtain⟨a3,a4,rfl⟩:=P.form;rw[lA,ac.out,R.out]at N⊢;simp only[List.length_cons,List.length_nil,zA]at N⊢;have i:∀g,(O I n a0).ownBlock=Xa g->m.heap.size+2<=g:=fun g y=>(a5.lt g y).1
 have Y:Xo (zg T r 41 [O I n a0,I6 c]):=(a6.aA (za _ _)).beside l (fun g y=>(a5.aA f).ne a6 Dc g y)
 have bk:Xo (Box T w.heap.size [O a n ah,I6 c]):=(bj.aA (za _ _)).beside l (fun g y=>by have:=i g y;have:=d.out;omega)
 have bm:Xo (Box T (w.heap.size+1) [eS,I6 0]):=(bl.aA (za _ _)).beside l (fun g y=>by have:=i g y;have:=d.out;omega)
 have bb:Xo (zc w T):=dD<|zT (b9.trans (za _ _)) l (fun g y=>by have:=i g y;have:=d.out;omega)
 have bf:Xo (zV (m.heap.size+2) T (O a3 (n+1) a4) (fs++[⟨0,[]⟩])):=N;clear P l i b1;obtain⟨bo,bp⟩:=Y.box.k2;have bq:=Y.box.f;go_upto_region 8 with fail;obtain⟨Z,h⟩:=kB (T.setCell ⟨r,0,Xb⟩ (O a3 (n+1) a4));have G:r≠w.heap.size:=by have:=t.out;have:=d.out;omega
 have H:r≠w.heap.size+1:=by have:=t.out;have:=d.out;omega
 have ar:Xo (Box Z r [O a3 (n+1) a4,I6 c]):=dD<|by rw[<-h];exact Y.box.set 0 _
 have av:Xo (Box Z w.heap.size [O a n ah,I6 c]):=dD<|by rw[<-h];exact bk.other (fun e=>G e.symm) _
 have ag:Xo (Box Z (w.heap.size+1) [eS,I6 0]):=dD<|by rw[<-h];exact bm.other (fun e=>H e.symm) _
 have bg:Xo (zV (m.heap.size+2) Z (O a3 (n+1) a4) (fs++[⟨0,[]⟩])):=dD<|by rw[<-h];exact bf.setBox Y Dc Dc 0 _
 have bd:Xo (zc w Z):=dD<|by rw[<-h];exact Below.setCell bb (p:=⟨r,0,Xb⟩) (by have:=t.out;have:=d.out;simp;omega) _
 rw[h];clear h bo bp bq;obtain⟨b1,br⟩:=ar.k2;obtain⟨ap,b3⟩:=av.k2;obtain⟨b5,b6⟩:=ag.k2;have b7:=ag.f;have al:¬w.heap.size=r:=fun e=>G e.symm
 have am:¬w.heap.size+1=r:=fun e=>H e.symm
 go_region
 all_goals go_wp2
 all_goals
  refine bodyPost_ret (v:=Xm #[Xi #[O a3 (n+1) a4,I6 c],I6 n,I6 0]) (by simp[results,Tryz.results87,go_sem, *]) rfl ⟨_,rfl,?_,?_⟩
  ·refine z8.aA ((zV.setCell (zV.setCell bg (a:=⟨w.heap.size+1,0,Xb⟩) ?_ _) (a:=⟨w.heap.size+1,1,Xb⟩) ?_ _).new.less (nR _) ?_) (gW _)
   ·have:=d.out;simp;omega
   ·have:=d.out;simp;omega
   have:=d.out;omega
  exact(Below.setCell (Below.setCell bd (p:=⟨w.heap.size+1,0,Xb⟩) Sm _) (p:=⟨w.heap.size+1,1,Xb⟩) Sm _).drew
variable{X:Nat->Prop}
theorem zet{u w:Xn}{p:Nat}{b:Sli}{fl:List Fl}{c:Int}(h:ChW w0 X p u V m)(s:zc u w)(B:zc w w1)(G:z8 0 w.heap.size w1 (b.x) fl)(q:w1.grownBy w2 (Xa p))(d:zk (Aft w0 u w) w2 W):zq W {V with fl:=b} {m with fl:=fl,cnt:=c}:=by
 have P:=h.aM p (.inl rfl);have D:=bS s;have y:zk (fun k=>k<w0.heap.size\/k=p) u W:=by
  have f:zk (fun k=>k<w0.heap.size\/k=p) u w2:=(zk.aA (s.trans B)).trans (zk.grown q (.inr rfl))
  refine⟨d.os.trans f.os,d.tape.trans f.tape,d.output.trans f.output,nT f.size d.size,fun j t g=>?_⟩
  rw[d.block j (Xs t f.size) (fun e=>by rcases e with e|e;exact g (.inl e);omega)]
  exact f.block j t g
 have z:zk (Dr w0.heap.size X p V) u W:=y.wide fun k a=>a.elim (fun e=>.inl (.inl e)) fun e=>.inr (.inl e)
 have r:=h.rest W z;obtain⟨N,K,L,M⟩:=h.sp;have own:∀{A:Type}{E:Elt A}{l:Sli}{v:List A},zb E w0.heap.size u (l.x) v->(∀k,oB l k->p≠k)->zj E W (l.x) v:=fun n g=>zb.at ⟨ji n.1 y (fun k a e=>by
  rcases e with e|e
  ·have:=(n.lt k a).1;omega
  exact g _ a e.symm),n.2⟩
 have i:zk (fun k=>k<w.heap.size) w1 W:=(zk.grown q Wm).trans (d.wide fun k a=>by
  rcases a with e|e
  ·have:=bS h.gr;omega
  exact e.2)
 exact⟨own h.fs h.nf,r.sl,r.sb,r.sq,r.db,r.dq,(G.out ⟨i.os,i.tape,i.output,i.size,fun k a g=>i.block k a (fun e=>Wm)⟩).bO,own h.ca h.nc,⟨N,own K h.ns,L,fun j x H F C=>M j x H F C W z⟩⟩
def zfI(m:Ma)(er n:Int)(l:List Int)(m':Ma):Prop:=
 l=[]/\er=zg3 m.fl m.cnt/\(er=0->n=zqo m.fl m.cnt/\m'={m with fl:=znI m.fl m.cnt,cnt:=zqp m.fl m.cnt})
theorem zh9{u w:Xn}{p:Nat}(h:ChW w0 X p u V m)(M:zc u w)(c:Cl):
  Xp prog 42 #[Xj (Xa ⟨p,0,Xb⟩),Xi #[I6 c.kind,I6 c.aC,I6 c.pt,I6 c.n,I6 c.file,I6 c.base,Xh c.rd,Xh c.wr,Xh c.sh,c.dv.x]] w fun e w'=>ZI (zfI m) w0 p u w e w':=by
 have z:Xo (ChW w0 X p u V m):=h;have y:Xo (zc u w):=M;obtain⟨b,q⟩:=kA w.heap.size;obtain⟨a,f⟩:=kB ((w.alloc (Xk #[I6 c.kind,I6 c.aC,I6 c.pt,I6 c.n,I6 c.file,I6 c.base,Xh c.rd,Xh c.wr,Xh c.sh,c.dv.x] 25)).alloc (Xk #[I6 0,I6 0,eS] 54));have t:=gD2 f
 have ay:Xo (zg a b 25 [I6 c.kind,I6 c.aC,I6 c.pt,I6 c.n,I6 c.file,I6 c.base,Xh c.rd,Xh c.wr,Xh c.sh,c.dv.x]):=dD<|by rw[<-f];exact(zg.aD w [I6 c.kind,I6 c.aC,I6 c.pt,I6 c.n,I6 c.file,I6 c.base,Xh c.rd,Xh c.wr,Xh c.sh,c.dv.x] _ q.symm).aA (za _ _)
 have A1:Xo (zg a (b+1) 54 [I6 0,I6 0,eS]):=dD<|by rw[<-f];exact zg.aD _ [I6 0,I6 0,eS] _ (by have:=q.out;simp;omega)
 have v:Xo (b+1<a.heap.size):=A1.box.lt;have l:Xo (zc u a):=show zc _ _ from M.trans t.out
 have U:Xo (zg a p 88 (chL V m)):=h.box.aA l.out;have g:Xo (p<u.heap.size):=h.aM p (.inl rfl);have i:Xo (u.heap.size<=b):=show _<=_ by rw[<-q.out];exact bS M
 have a4:Xo (w0.heap.size<=b):=dD<|by have:=h.lo;have:=g.out;have:=i.out;omega
 have T:Xo (_=a):=f;obtain⟨E,S⟩:=kA (zg3 m.fl m.cnt);obtain⟨C,a2⟩:=kA (zqp m.fl m.cnt);obtain⟨I,a3⟩:=kA (zqo m.fl m.cnt);have G:Xp prog 87 #[Xi #[V.fl.x,I6 m.cnt]] a fun e w'=>∃b:Sli,e=Xl (Xm #[Xi #[b.x,I6 C],I6 I,I6 E])/\z8 0 a.heap.size w' (b.x) (znI m.fl m.cnt)/\zc a w':=by
  rw[<-S.out,<-a2.out,<-a3.out];refine(zg2 _ m.fl m.cnt a (h.at.aA l).fl).mono ?_;rintro e w'⟨b,rfl,K,ao⟩;obtain⟨an,c,rfl,_⟩:=qe.rows K.bO;exact⟨⟨an,_,c⟩,rfl,K,ao⟩
 have av:=U.box.c 7 rfl;have aw:=U.box.c 8 rfl;clear f h M
 go_enter func42,ntmps42
 go_upto_region 1 with fail;rw[T.out,q.out]
 go_wp2_with(go_at_call 87;refine G.mono ?_)
 clear G av aw;rintro e B⟨s,rfl,K,Z⟩;have ae:Xo (z8 0 a.heap.size B (s.x) (znI m.fl m.cnt)):=K;have Q:Xo (zc a B):=Z;have ai:Xo (b+1<B.heap.size):=show _<_ from Xs v (bS Z)
 clear K Z;go_upto_region 2 with fail;obtain⟨b0,a5⟩:=kA B.heap.size;obtain⟨W,k⟩:=kB (B.alloc (Xk #[s.x,I6 C] 41));have n:=gP k
 have a6:=xPT k a5
 have af:=dD (ae.aA n);have d:=dD (Q.trans n);have a1:=dD (A1.aA d);have al:=dD (U.aA d);rw[k,a5.out];clear k n
 by_cases N:E=0
 rotate_left
 ·have az:(E !=0)=Xc:=by simp[N]
  have A:Xo (E≠0):=N;clear N;have H:=jO E W;go_wp2_with fail;refine H.mono ?_;rintro e L⟨rfl,j⟩;have P:=dD (a1.aA j);have a7:Xo (zc w L):=show zc _ _ from(t.trans d).trans j
  clear H j;unfold Qk noS
  go_wp2_with(refine zh rfl 54 (.tmp 4) (.tmp 21) rfl (b+1) rfl [I6 E,I6 0,eS] rfl P rfl Kr (by simp[Value.oneCell']) ?_)
  intro Y aa a0 _;have ah:Xo (zc w0 Y):=dD<|zd ((z.gr.trans y).trans a7) a0 (Hm a4.out)
  have ad:Xo (zg Y (b+1) 54 [I6 E,I6 0,eS]):=aa;have ak:Xo (zk (zpr w0 u) w Y):=show zk _ _ _ from zk.beyond (zk.aA a7) a0 (Hm q.out)
  clear aa a0;go_wp2;refine bodyPost_ret (zB rfl _ rfl ad.box underlying54 rfl Kr) rfl ⟨E,0,noS,[],V,m,rfl,⟨rfl,S.symm,fun h=>absurd h A⟩,ak,ah,fun _ _=>zj.nil _ _,fun h=>absurd h A⟩
 subst N;obtain⟨ar,au⟩:=a6.box.k2
 go_wp2_with(refine qK rfl 41 (.tmp 26) (.tmp 23) rfl p 7 rfl (Xi #[s.x,I6 C]) rfl [s.x,I6 C] rfl al (by simp[chL]) Kr (by simp[Value.oneCell']) ?_)
 intro r a8 F _;clear ar au;have am:Xo (zg r p 88 (chL {V with fl:=s} {m with fl:=znI m.fl m.cnt,cnt:=C})):=a8;have R:Xo (W.grownBy r (Xa p)):=F;have ac:Xo (zg r (b+1) 54 [I6 0,I6 0,eS]):=show zg _ _ _ _ from a1.beside F (fun ab e=>by cases e;have:=g.out;have:=i.out;omega)
 have ag:Xo (zc w0 r):=dD<|zd (((z.gr.trans y).trans t).trans d) F z.lo
 have aj:Xo (zk (zpr w0 u) w r):=dD<|(zk.aA (t.trans d)).trans (zk.grown F ⟨z.lo,g⟩)
 clear a8 F
 go_wp2_with(refine zh rfl 54 (.tmp 4) (.tmp 28) rfl (b+1) rfl [I6 0,I6 I,eS] rfl ac rfl Kr (by simp[Value.oneCell']) ?_)
 intro L a9 j _;have P:Xo (zg L (b+1) 54 [I6 0,I6 I,eS]):=a9;have x:Xo (ZI (zfI m) w0 p u w (Xl (Qk 0 I noS)) L):=show ZI _ _ _ _ _ _ _ from by
  refine⟨0,I,noS,[],{V with fl:=s},{m with fl:=znI m.fl m.cnt,cnt:=C},rfl,⟨rfl,S.symm,fun _=>⟨a3.symm,by rw[a2.out]⟩⟩,aj.beyond j (Hm q.out),zd ag j (Hm a4.out),fun _ _=>zj.nil _ _,fun _=>⟨am.beside j (fun ab e=>by cases e;have:=g.out;have:=i.out;omega),fun ax ap=>?_⟩⟩
  exact zet (w:=a) (w1:=W) (w2:=r) z l d af R ((zk.grown (D:=Aft w0 u a) j (.inr ⟨Hm i.out,v⟩)).trans (ap.wide fun ab aq=>aq.imp id fun h=>⟨h.1,Xs h.2 (bS t)⟩))
 clear a9 j;go_wp2;refine bodyPost_ret (zB rfl _ rfl P.box underlying54 rfl Kr) rfl x.out
theorem zfU(w:Xn)(m:Ma)(c:Cl)(a:c.kind=8):Ql w m c (zfI m):=by
 intro f W p d v e h b;obtain rfl:=b.2.2.2.2.2.2.2.1 a;exact⟨42,#[],rfl,enters_of func42 Kr rfl,zh9 h (zc.refl _) c⟩
variable{X:Nat->Prop}
theorem zaV{w:Xn}{p:Nat}(h:ChW w0 X p w V m)(c:Cl)(d:0<=c.file/\c.file<(m.fl.length:Int))(g F:Nat)(K:Int->Int->List Int->Ma->Prop)(a9:Enters prog F)(a2:zg w g 80 [.func (.func F) #[] #[]])
  (a1:∀W,zc w W->Xp prog F #[Xj (Xa ⟨p,0,Xb⟩),Xi #[I6 c.kind,I6 c.aC,I6 c.pt,I6 c.n,I6 c.file,I6 c.base,Xh c.rd,Xh c.wr,Xh c.sh,c.dv.x]] W fun e w'=>ZI K w0 p w W e w'):
  Xp prog 88 #[Xj (Xa ⟨p,0,Xb⟩),Xi #[I6 c.kind,I6 c.aC,I6 c.pt,I6 c.n,I6 c.file,I6 c.base,Xh c.rd,Xh c.wr,Xh c.sh,c.dv.x],Xj (Xa ⟨g,0,Xb⟩)] w fun e w'=>ZI K w0 p w w e w':=by
 have am:Xo (ChW w0 X p w V m):=h;have U:Xo (p<w.heap.size):=h.aM p (.inl rfl);have T:Xo (zg w g 80 [.func (.func F) #[] #[]]):=a2;have S:=show Xo _ from a1
 have ai:Xo (∀(i:Array Xq)(w:Xn),(callFunc F i).run prog w=.ok (.enter F i) w):=a9;obtain⟨b,j⟩:=kA w.heap.size;obtain⟨f,a⟩:=kB ((w.alloc (Xk #[I6 c.kind,I6 c.aC,I6 c.pt,I6 c.n,I6 c.file,I6 c.base,Xh c.rd,Xh c.wr,Xh c.sh,c.dv.x] 25)).alloc (Xk #[I6 0,I6 0,eS] 54));have a6:=gD2 a
 have a7:Xo (zg f b 25 [I6 c.kind,I6 c.aC,I6 c.pt,I6 c.n,I6 c.file,I6 c.base,Xh c.rd,Xh c.wr,Xh c.sh,c.dv.x]):=dD<|by rw[<-a];exact(zg.aD w [I6 c.kind,I6 c.aC,I6 c.pt,I6 c.n,I6 c.file,I6 c.base,Xh c.rd,Xh c.wr,Xh c.sh,c.dv.x] _ j.symm).aA (za _ _)
 have A1:Xo (zg f (b+1) 54 [I6 0,I6 0,eS]):=dD<|by rw[<-a];exact zg.aD _ [I6 0,I6 0,eS] _ (by have:=j.out;simp;omega)
 have R:Xo (b+1<f.heap.size):=A1.box.lt;have s:Xo (p<b):=show _<_ by have:=U.out;have:=j.out;omega
 have al:Xo (w0.heap.size<=b):=dD<|by have:=am.lo;have:=s.out;omega
 have an:Xo (ChW w0 X p f V m):=h.aA a6.out;have Z:Xo (_=f):=a;have A:=h.at.fl.n;obtain⟨N,r⟩:=kA V.fl.n;rw[<-A,r.out]at d;have Q:Xo ((Value.bool (decide (0<=c.file)&&decide (c.file<(N:Int))))=Xh Xc):=show _=_ by
  rw[decide_eq_true d.1,decide_eq_true d.2];rfl
 clear a h a1 a2 a9 A d
 go_enter func88,ntmps88
 go_upto_region 1 with fail;rw[Z.out,j.out];have a4:=fun y:zf f=>(a7.box.aA y.aA).c 4 rfl
 have E:∀y:zf f,y.world.cell? ⟨p,7,Xb⟩=Xa (O V.fl.a N V.fl.c):=fun y=>by rw[<-r.out];exact(an.box.box.aA y.aA).c 7 rfl
 have a3:Nonempty (zf f):=⟨⟨_,zc.refl _⟩⟩;refine qq [(9,⟨fun aw=>aw=Xh Xc,fun _ _=>True⟩)] zU Kr ?_ ?_ ?_
 ·intro x C
  simp at C
  subst C;exact⟨_,rfl⟩
 ·intro x C
  simp at C
  subst C;exact fun _ _ _ _ h=>h
 iterate 3 refine ze ?_
 refine Zj (.tmp 8) ⟨p,0,Xb⟩ rfl rfl rfl rfl ?_;refine Uq ?_;iterate 5 refine ze ?_
 refine zz rfl rfl (fun w' a2 a1=>?_) (fun ay au=>?_)
 ·refine zI.call [I6 c.file,I6 (N:Int)] rfl func74 rfl rfl rfl ?_;refine(ZP c.file (N:Int) w').mono ?_;rintro e ax⟨rfl,rfl⟩;exact⟨_,rfl,zc.refl _,Q,trivial⟩
 subst au;refine Uq ?_;refine ze ?_
 refine zH fun L u _=>?_
 have A2:=dD (A1.aA u);have aq:=dD (a7.aA u);have H:=dD (a6.trans u);have I:Xo (b+1<L.heap.size):=show _<_ from Xs R (bS u)
 clear u a4 E a3;have B:=S.out L H.out;have ar:=(T.aA H).box.c 0 rfl
 go_wp2_with(first|refine zm rfl 25 (.tmp 4) rfl b rfl aq.box underlying25 rfl Kr ?_|fail)
 rw[ai.out];refine B.mono ?_;clear B ar;rintro e M⟨t,n,P,ae,ap,af,rfl,k,a5,aa,ad,ac⟩;have ag:Xo (zg M (b+1) 54 [I6 0,I6 0,eS]):=dD<|A2.aK a5 (fun k=>by have:=j.out;have:=k.2;omega)
 have ak:Xo (K t n ae af):=k;have ao:Xo (zk (zpr w0 w) w M):=show zk _ _ _ from(zk.aA H).trans a5
 have aj:Xo (zc w0 M):=aa;have Y:=show Xo _ from ad
 have l:=show Xo _ from ac
 clear k a5 aa ad ac;unfold Qk
 go_wp2_with(refine zh rfl 54 (.tmp 5) (.tmp 21) rfl (b+1) rfl [I6 t,I6 n,P.x] rfl ag rfl Kr (by simp[Value.oneCell']) ?_)
 intro a0 a8 v _;have ah:Xo (zg a0 (b+1) 54 [I6 t,I6 n,P.x]):=a8;have q:Xo (ZI K w0 p w w (Xl (Qk t n P)) a0):=show ZI _ _ _ _ _ _ _ from by
  have G:∀W,zk (Aft w0 w w) a0 W->zk (Aft w0 w L) M W:=fun W z=>(zk.grown (D:=Aft w0 w L) v (.inr ⟨Hm j.out,I⟩)).trans (z.wide fun av k=>k.imp id fun h=>⟨h.1,Xs h.2 (bS H)⟩)
  exact⟨t,n,P,ae,ap,af,rfl,ak,ao.beyond v (Hm j.out),zd aj v (Hm al.out),fun W z=>Y.out W (G W z),fun ab=>⟨(l ab).1.beside v (fun av e=>by cases e;have:=s.out;omega),fun W z=>(l ab).2 W (G W z)⟩⟩
 clear a8 v;go_wp2;refine bodyPost_ret (zB rfl _ rfl ah.box underlying54 rfl Kr) rfl q.out
theorem JR:Enters prog 88:=enters_of func88 Kr rfl
theorem ChW.more{u w:Xn}{p:Nat}(h:ChW w0 noX p u V m)(g:zc u w):ChW w0 (fun k=>u.heap.size<=k/\k<w.heap.size) p w V m:=by
 obtain⟨v,q,r,t⟩:=h.sp;have b:∀{W:Xn},zk (Dr w0.heap.size (fun k=>u.heap.size<=k/\k<w.heap.size) p V) w W->zk (Dr w0.heap.size noX p V) u W:=fun a=>
  ⟨a.os.trans (Below.os g),a.tape.trans (Below.tape g),a.output.trans (Below.output g),nT (bS g) a.size,fun c d f=>(a.block c (Xs d (bS g)) (fun e=>by
   rcases e with(e|e)|e
   ·exact f (.inl (.inl e))
   ·omega
   exact f (.inr e))).trans (Below.block g c d)⟩
 exact⟨⟨h.gr.trans g,fun k i=>i.2⟩,h.lo,h.box.aA g,h.fs.aA g,h.ca.aA g,⟨v,q.aA g,r,fun n x s l j W a=>t n x s l j W (b a)⟩,fun W a=>h.rest W (b a)⟩
theorem ChW.afar{w:Xn}{X D:Nat->Prop}{p:Nat}(h:ChW w0 X p w V m)(i:∀k,D k->k<w0.heap.size\/X k)(j:∀k,D k->¬Dw p V k)(c:zk D w W):zq W V m:=by
 have f:zk (Dr w0.heap.size X p V) w W:=c.wide fun k b=>.inl (i k b)
 have r:=h.rest W f;obtain⟨A,v,x,y⟩:=h.sp;have own:∀{g:Type}{E:Elt g}{a:Sli}{l:List g},zb E w0.heap.size w (a.x) l->(∀k,oB a k->Dw p V k)->zj E W (a.x) l:=fun d b=>zb.at ⟨ji d.1 c (fun k n e=>j k e (b k n)),d.2⟩
 exact⟨own h.fs (fun k e=>.inr (.inl e)),r.sl,r.sb,r.sq,r.db,r.dq,r.fl,own h.ca (fun k e=>.inr (.inr (.inl e))),⟨A,own v (fun k e=>.inr (.inr (.inr e))),x,fun t z u s q=>y t z u s q W f⟩⟩
theorem zeJ(p f d:Nat)(b x i:Int)(v:Xq)(w:Xn)(cs:List Xq)(J:Int->Xn->Prop)(hp:zg w f 85 [Xj (Xa ⟨p,0,Xb⟩)])(h:zg w d 25 cs)(c:cs[4]?=Xa (I6 b))
  (g:Xp prog 93 #[Xj (Xa ⟨p,0,Xb⟩),I6 b,I6 x,I6 i,v] w fun e w'=>∃a:Int,e=Xl (I6 a)/\J a w'):
  Xp prog 92 #[I6 x,I6 i,v,Xj (Xa ⟨f,0,Xb⟩),Xj (Xa ⟨d,0,Xb⟩)] w fun e w'=>∃a:Int,e=Xl (I6 a)/\J a w':=by
 have m:=hp.box.c 0 rfl;have n:=h.box.c 4 c;clear hp h c
 go_enter func92,ntmps92
 go_wp2_with fail;refine g.mono ?_;clear g m n;rintro e l⟨a,rfl,j⟩;have k:Xo (J a l):=j;clear j;go_wp2;go_ret;exact⟨a,rfl,k⟩
def zjK(m:Ma)(fi ix i:Nat)(ns:List Int)(er n:Int)(l:List Int)(m':Ma):Prop:=er=0/\n=(ns.length:Int)/\l=[]/\m'=(zlh m fi ix i ns).2
theorem zkn{w0 u w:Xn}{p:Nat}{V:MaV}{m:Ma}(h:ChW w0 noX p u V m)(gu:zc u w)(hR:Rt m)(c:Cl)(fi ix i:Nat)(ns:List Int)(F:Fl)(hcf:c.file=(fi:Int))(hF:m.fl[fi]?=Xa F)(hx:ix<F.bl.length)(hi:i+ns.length<=8)(hn:0<ns.length)(hp:c.pt=((8*ix+i:Nat):Int))(hz:((8*ix+i+ns.length:Nat):Int)<=F.size)(hv:zj byE w0 (O c.dv.a c.dv.n c.dv.c) ns)(hcap:c.dv.n<=c.dv.c)(hok:(zlh m fi ix i ns).1=Xc):
  Xp Tryz.prog 45 #[Xj (Xa ⟨p,0,Xb⟩),Xi #[Xe Xf c.kind,Xe Xf c.aC,Xe Xf c.pt,Xe Xf c.n,Xe Xf c.file,Xe Xf c.base,Xh c.rd,Xh c.wr,Xh c.sh,O c.dv.a c.dv.n c.dv.c]] w fun e w'=>ZI (zjK m fi ix i ns) w0 p u w e w':=by
 have HM:Xo (ChW w0 noX p u V m):=h;have HGU:Xo (zc u w):=gu;obtain⟨g5,g96,g12⟩:=zgQ hR hF;obtain⟨b,HB⟩:∃b,Xo (w.heap.size=b):=⟨_,rfl⟩;obtain⟨W1,hW1⟩:∃W1,((w.alloc (Xk #[Xj (Xa ⟨p,0,Xb⟩)] 85)).alloc (Xk #[Xe Xf c.kind,Xe Xf c.aC,Xe Xf c.pt,Xe Xf c.n,Xe Xf c.file,Xe Xf c.base,Xh c.rd,Xh c.wr,Xh c.sh,O c.dv.a c.dv.n c.dv.c] 25)).alloc (Xk #[Xe Xf 0,Xe Xf 0,O Xb 0 0] 54)=W1:=⟨_,rfl⟩;have G1:Xo (zc w W1):=show zc _ _ by rw[<-hW1];exact((za _ _).trans (za _ _)).trans (za _ _)
 have Z1:Xo (zg W1 b 85 [Xj (Xa ⟨p,0,Xb⟩)]):=show zg _ _ _ _ by rw[<-hW1];exact(zg.aD w [Xj (Xa ⟨p,0,Xb⟩)] _ HB.out.symm).aA ((za _ _).trans (za _ _))
 have X1:Xo (zg W1 (b+1) 25 [Xe Xf c.kind,Xe Xf c.aC,Xe Xf c.pt,Xe Xf c.n,Xe Xf c.file,Xe Xf c.base,Xh c.rd,Xh c.wr,Xh c.sh,O c.dv.a c.dv.n c.dv.c]):=show zg _ _ _ _ by rw[<-hW1];exact(zg.aD _ [Xe Xf c.kind,Xe Xf c.aC,Xe Xf c.pt,Xe Xf c.n,Xe Xf c.file,Xe Xf c.base,Xh c.rd,Xh c.wr,Xh c.sh,O c.dv.a c.dv.n c.dv.c] _ (by have:=HB.out;simp;omega)).aA (za _ _)
 have A1:Xo (zg W1 (b+2) 54 [Xe Xf 0,Xe Xf 0,O Xb 0 0]):=show zg _ _ _ _ by rw[<-hW1];exact zg.aD _ [Xe Xf 0,Xe Xf 0,O Xb 0 0] _ (by have:=HB.out;simp;omega)
 have HBL:Xo (b+2<W1.heap.size):=A1.out.box.lt;have GU1:Xo (zc u W1):=show zc _ _ from gu.trans G1.out
 have M1:Xo (ChW w0 (fun k=>u.heap.size<=k/\k<W1.heap.size) p W1 V m):=h.more GU1.out
 have HPU:Xo (p<u.heap.size):=h.aM p (.inl rfl);have HUB:Xo (u.heap.size<=b):=show _<=_ by rw[<-HB.out];exact bS gu
 have HL:Xo (w0.heap.size<=b):=show _<=_ by have:=h.lo;have:=HPU.out;have:=HUB.out;omega
 have HW1:Xo (_=W1):=hW1;obtain⟨N,HN⟩:∃N,Xo (ns.length=N):=⟨_,rfl⟩;have hdn:c.dv.n=N:=by
  obtain⟨a,cp,e,_⟩:=hv.rows;simp only[vJ]at e;exact e.2.1.trans HN.out
 obtain⟨ad,had⟩:∃ad,c.dv.a=Xa ad:=by
  obtain⟨a,cp,e,h1⟩:=hv.rows;simp only[vJ]at e;obtain⟨ad,e2,_⟩:=h1 0 ns[0] (gE hn);exact⟨ad,e.1.trans e2⟩
 obtain⟨cp,HCP⟩:∃cp,Xo (c.dv.c=cp):=⟨_,rfl⟩;rw[hdn,HCP.out]at hcap;rw[had,hdn,HCP.out]at hv;obtain⟨at0,HA⟩:∃at0,Xo (8*ix+i=at0):=⟨_,rfl⟩;rw[HA.out]at hp;obtain⟨s,HSZ⟩:∃s,Xo (F.size=s):=⟨_,rfl⟩;have hz':(at0:Int)+(N:Int)<=s:=by have:=HA.out;have:=HN.out;have:=HSZ.out;omega
 have hs96:s<=96:=Ry HSZ.out g96.2
 rw[HN.out]at hi hn;have HNS:Xo (zj byE w0 (O (Xa ad) ns.length cp) ns):=show zj _ _ _ _ by rw[HN.out];exact hv
 have HPT:Xo (∀W,zc W1 W->Xp Tryz.prog 93 #[Xj (Xa ⟨p,0,Xb⟩),Xe Xf (fi:Int),Xe Xf (ix:Int),Xe Xf (i:Int),O (Xa ad) N cp] W fun e w'=>∃er:Int,e=Xl (Xe Xf er)/\(er=0/\Chg w0 (fun k=>u.heap.size<=k/\k<W1.heap.size) p W V (zlh m fi ix i ns).2 w')):=show∀W,_ from fun W hW=>by
  have:=zm1 (M1.out.aA hW) hR fi ix i F hF hx ns (Xa ad) cp HNS.out Wm (Hm HN.out)
  rw[hok,if_pos rfl,HN.out]at this;exact this.mono fun e w' k=>⟨0,k.1,rfl,k.2⟩
 obtain⟨M2,HM2⟩:∃M2,Xo ((zlh m fi ix i ns).2=M2):=⟨_,rfl⟩;rw[HM2.out]at HPT;have hbe:=ZP (at0:Int) 97 W1;rw[decide_eq_true (show 0<=(at0:Int) by omega),decide_eq_true (show(at0:Int)<97 by omega)]at hbe
 obtain⟨fa,fc,hfe,_,hfr⟩:=qe.rows (h.at.aA GU1.out).fl;simp only[vJ]at hfe;obtain⟨hfa,hfn,hfc⟩:=hfe;obtain⟨fd,hfd,xa,xc,_,hcl⟩:=hfr fi F hF;have hfa':V.fl.a=Xa fd:=hfa.trans hfd;have hlt:(fi:Int)<(V.fl.n:Int):=by
  have:=(gS.1 hF).1;omega
 have y0:=(hcl W1 (zc.refl _)).1;rw[HSZ.out]at y0;have y7:=M1.out.box.box.c 7 rfl;rw[hfa']at y7;have z0:=Z1.out.box.c 0 rfl;obtain⟨_,_,x2,_,x4,_,_,_,_,x9⟩:=X1.out.box.k10;rw[hp]at x2;rw[hcf]at x4;rw[had,hdn,HCP.out]at x9;have HX12:Xo (ix<12/\i+N<=8/\0<N/\N<=cp):=⟨Wm,hi,hn,hcap⟩
 have HCF:Xo (c.file=(fi:Int)):=hcf;have HPP:Xo (c.pt=(at0:Int)):=hp;have HX9:Xo (O c.dv.a c.dv.n c.dv.c=O (Xa ad) N cp):=show _=_ by rw[had,hdn,HCP.out]
 have hN0:((N:Int)==0)=Xd:=by simp;omega
 have ha:0<=(at0:Int)/\(at0:Int)<=96:=Wm
 have hNl:(N:Int)<=8:=Wm
 have hg1:decide ((96:Int)-(at0:Int)<(N:Int))=Xd:=decide_eq_false Wm
 have hg2:decide (s<(at0:Int)+(N:Int))=Xd:=decide_eq_false Wm
 have hmf:∀(fn:Fn)(first cap:Array Xq)(w:Xn),(Instr.makeFunc fn first cap).run Tryz.prog w=.ok (.func fn first cap) w:=fun _ _ _ _=>rfl
 clear hW1 h gu hR hF hx hp hcf hz hv hok g5 g96 g12 hfa hfn hfc hfd hcl hfr hfa' had hdn hi hn hcap hz' hs96
 go_enter Tryz.func45,Tryz.ntmps45
 go_upto_region 1 with fail;rw[HW1.out,HB.out];clear HW1;go_wp2_with fail;refine hbe.mono ?_;clear hbe;rintro e W2⟨rfl,hw2⟩;rw[hw2];clear hw2 W2;go_upto_region 6 with fail;go_quiet(fail);have GQ:Xo (zc W1 (W1.drewN nq)):=show Below _ _ _ from bD (bR _ _) _
 obtain⟨W2,hW2⟩:∃W2,W1.drewN nq=W2:=⟨_,rfl⟩;rw[hW2]at GQ;rw[hW2];clear hW2 y0 y7 z0 x2 x4 x9 hN0 hg1;have X2:=dD (X1.out.aA GQ.out);have A2:=dD (A1.out.aA GQ.out);have Z2:=dD (Z1.out.aA GQ.out);have HE:Xo (Xp Tryz.prog 91 #[Xe Xf (at0:Int),O (Xa ad) N cp,.func (.func 92) #[] #[Xj (Xa ⟨b,0,Xb⟩),Xj (Xa ⟨b+1,0,Xb⟩)]] W2 fun e w'=>∃er:Int,e=Xl (Xe Xf er)/\(er=0/\Chg w0 (fun k=>u.heap.size<=k/\k<W1.heap.size) p W2 V M2 w')):=show Xp _ _ _ _ _ from by
  rw[<-HA.out];obtain⟨h12,hi,hn,hcap⟩:=HX12.out;refine zfv 92 #[Xj (Xa ⟨b,0,Xb⟩),Xj (Xa ⟨b+1,0,Xb⟩)] (enters_of Tryz.func92 Kr rfl) i ix N cp ad hn hi Wm hcap W2 (fun er w'=>er=0/\Chg w0 (fun k=>u.heap.size<=k/\k<W1.heap.size) p W2 V M2 w') (fun er w w' h g=>?_) ?_
  ·obtain⟨h1,V2,c2,o2,d2⟩:=h;exact⟨h1,V2,c2.aA g,o2.trans (zk.aA g),d2⟩
  exact zeJ p b (b+1) (fi:Int) (ix:Int) (i:Int) (O (Xa ad) N cp) W2 [Xe Xf c.kind,Xe Xf c.aC,Xe Xf c.pt,Xe Xf c.n,Xe Xf c.file,Xe Xf c.base,Xh c.rd,Xh c.wr,Xh c.sh,O c.dv.a c.dv.n c.dv.c] _ Z2.out X2.out (by show Xa (Value.int .i64 c.file)=_;rw[HCF.out]) (HPT.out W2 GQ.out)
 obtain⟨_,_,x2,_,_,_,_,_,_,x9⟩:=X2.out.box.k10;rw[HX9.out]at x9;rw[show Value.int .i64 c.pt=Value.int .i64 (at0:Int) by rw[HPP.out]]at x2
 clear HPT hg2
 go_wp2_with(go_at_call 91;refine HE.out.mono ?_)
 clear HE x2 x9;rintro e W3⟨er,rfl,rfl,h3⟩;obtain⟨V3,m3,o3,d3⟩:=h3;have M3:Xo (ChW w0 (fun k=>u.heap.size<=k/\k<W1.heap.size) p W3 V3 M2):=m3
 have O3:Xo (zk (Dw p V) W2 W3):=o3;have D3:Xo (∀k,Dw p V3 k->Dw p V k\/W2.heap.size<=k):=d3;have HDB:Xo (∀k,b<=k->¬Dw p V k):=show∀k,_ from fun k hk e=>by have:=HM.out.aM k e;have:=HUB.out;omega
 have A3:Xo (zg W3 (b+2) 54 [Xe Xf 0,Xe Xf 0,O Xb 0 0]):=show zg _ _ _ _ from A2.out.aK o3 (HDB.out _ Wm)
 have x9:=(X2.out.aK o3 (HDB.out _ Wm)).box.c 9 rfl
 rw[HX9.out]at x9;clear m3 o3 d3
 go_wp2_with(refine zh rfl 54 (.tmp 4) (.tmp 63) rfl (b+2) rfl [Xe Xf 0,Xe Xf (N:Int),O Xb 0 0] rfl A3.out rfl Kr (by simp[Value.oneCell']) ?_)
 intro W5 b5 g5 _;have A5:Xo (zg W5 (b+2) 54 [Xe Xf 0,Xe Xf (N:Int),O Xb 0 0]):=b5;have HFIN:Xo (ZI (zjK m fi ix i ns) w0 p u w (Xl (Qk 0 (N:Int) noS)) W5):=show ZI _ _ _ _ _ _ _ from by
  have hsz:=bS GQ.out;have hbl:=HBL.out;have hub:=HUB.out;have hl:=HL.out;have hpu:=HPU.out;refine⟨0,(N:Int),noS,[],V3,M2,rfl,⟨rfl,by rw[HN.out],rfl,HM2.out.symm⟩,((zk.aA (G1.out.trans GQ.out)).trans (O3.out.wide fun k hk=>⟨HM.out.dlo k hk,HM.out.aM k hk⟩)).beyond g5 (Hm HB.out),zd M3.out.gr g5 Wm,fun _ _=>zj.nil _ _,fun _=>⟨M3.out.box.beside g5 (fun k e=>by cases e;omega),fun W hW=>?_⟩⟩
  refine M3.out.afar (D:=fun k=>k<w0.heap.size\/(u.heap.size<=k/\k<W1.heap.size)) (fun k hk=>hk) (fun k hk e=>?_) ((zk.grown g5 (.inr ⟨Wm,Wm⟩)).trans (hW.wide fun k hk=>hk.imp id fun h=>⟨h.1,Xs h.2 (bS G1.out)⟩))
  rcases D3.out k e with e|e
  ·have h1:=HM.out.dlo k e;have h2:=HM.out.aM k e;omega
  omega
 clear b5 g5 x9;go_wp2;refine bodyPost_ret (zB rfl _ rfl A5.out.box Tryz.underlying54 rfl Kr) rfl HFIN.out
theorem zhz(w:Xn)(m:Ma)(c:Cl)(fi ix i:Nat)(ns:List Int)(F:Fl)(l:c.kind=10)(f:Rt m)(b:c.file=(fi:Int))(e:m.fl[fi]?=Xa F)(s:ix<F.bl.length)(hi:i+ns.length<=8)(p:0<ns.length)(hp:c.pt=((8*ix+i:Nat):Int))(t:((8*ix+i+ns.length:Nat):Int)<=F.size)(q:zj byE w (c.dv.x) ns)(a:c.dv.n<=c.dv.c)(d:(zlh m fi ix i ns).1=Xc):Ql w m c (zjK m fi ix i ns):=by
 intro z W x u y n h r;obtain⟨g,rfl,k⟩:=r.2.2.2.2.2.2.2.2.2.1 l;exact⟨88,#[Xj (Xa ⟨g,0,Xb⟩)],rfl,JR,zaV h c (Hm ((gS.1 e).1)) g 45 _ (enters_of func45 Kr rfl) k fun v j=>zkn h j f c fi ix i ns F b e s hi p hp t (q.aA n) a d⟩
variable{X:Nat->Prop}
def zny(m:Ma)(er n:Int)(l:List Int)(m':Ma):Prop:=er=0/\n=0/\l=[]/\∃bo,zdA m bo m'
theorem zkr{w:Xn}{p:Nat}(l:ChW w0 X p w V m)(Z:Rt m)(c:Cl):
  Xp prog 49 #[Xj (Xa ⟨p,0,Xb⟩),Xi #[I6 c.kind,I6 c.aC,I6 c.pt,I6 c.n,I6 c.file,I6 c.base,Xh c.rd,Xh c.wr,Xh c.sh,c.dv.x]] w fun e w'=>jX (zny m) w0 p w e w':=by
 have a9:Xo (ChW w0 X p w V m):=l;obtain⟨f,n⟩:=kA w.heap.size;obtain⟨i,b⟩:=kB ((w.alloc (Xk #[I6 c.kind,I6 c.aC,I6 c.pt,I6 c.n,I6 c.file,I6 c.base,Xh c.rd,Xh c.wr,Xh c.sh,c.dv.x] 25)).alloc (Xk #[I6 0,I6 0,eS] 54));have z:=gD2 b
 have ai:Xo (zg i f 25 [I6 c.kind,I6 c.aC,I6 c.pt,I6 c.n,I6 c.file,I6 c.base,Xh c.rd,Xh c.wr,Xh c.sh,c.dv.x]):=dD<|by rw[<-b];exact(zg.aD w [I6 c.kind,I6 c.aC,I6 c.pt,I6 c.n,I6 c.file,I6 c.base,Xh c.rd,Xh c.wr,Xh c.sh,c.dv.x] _ n.symm).aA (za _ _)
 have A1:Xo (zg i (f+1) 54 [I6 0,I6 0,eS]):=dD<|by rw[<-b];exact zg.aD _ [I6 0,I6 0,eS] _ (by have:=n.out;simp;omega)
 have q:Xo (f+1<i.heap.size):=A1.box.lt;have K:Xo (ChW w0 X p i V m):=l.aA z.out;have d:Xo (p<f):=show _<_ by have:=l.aM p (.inl rfl);have:=n.out;omega
 have a8:Xo (w0.heap.size<=f):=dD<|by have:=l.lo;have:=d.out;omega
 have G:Xo (_=i):=b;have v:=zk4 V m i (l.at.aA z) Z.w;clear b l Z
 go_enter func49,ntmps49
 go_upto_region 1 with fail;rw[G.out,n.out];have E:Xo ((Tryz.prog.info? 45).map (·.size)=Xa (chL V m).length):=dD<|Kr
 go_wp2_with(first|refine zm rfl 45 (.tmp 11) rfl p rfl K.box.box underlying45 rfl E.out ?_|(go_at_call 96;refine v.mono ?_))
 clear v;rintro e j⟨⟨L,g,h,y,rfl,x⟩,B⟩;have C:Xo (∃L,zdA m L g):=⟨L,y⟩;have a7:Xo (∀W,zk (fun k=>k<i.heap.size) j W->zq W h g):=x
 have a3:=dD (z.trans B);have A2:=dD (A1.aA B);have aa:=dD (K.box.aA B);obtain⟨N,D⟩:=kA j.heap.size;have a6:Xo (f+1<N):=show _<_ by rw[<-D.out];exact A2.box.lt
 have H:Xo (∀ah∈chL h g,ah.oneCell'=Xc):=dD<|by simp[chL,Value.oneCell']
 clear x B y
 go_upto_region 2 with(refine zh rfl 45 (.tmp 5) (.tmp 14) rfl j.heap.size rfl (chL h g) rfl (zg.aD j zR _ rfl) rfl Kr H.out ?_)
 intro A S U ag;clear ag;have a:zc j A:=zd (za _ _) U (nR _);have ad:Xo (zg A N 45 (chL h g)):=dD<|Ry D.out S
 have P:=dD (a3.trans a);have a5:Xo (zc j A):=a;have a0:=dD (A2.aA a);have ab:=dD (aa.aA a);rw[D.out];clear S U a;have u:=zbl (V':=h) (m':=g) ab K.lo (a9.gr.trans P) 0;have F:Xo ((Tryz.prog.info? 45).map (·.size)=Xa (chL h g).length):=show _=_ by kernel_rfl
 go_wp2_with(first|refine zm rfl 45 (.tmp 5) rfl N rfl ad.box underlying45 rfl F.out ?_|(go_at_call 85;refine u.mono ?_))
 clear u;rintro e s⟨rfl,I,M,Y⟩;have ac:Xo (zg s p 88 (chL h g)):=I;have Q:Xo (zk (fun k=>k=p) A s):=M
 have a4:Xo (zc w0 s):=Y;have a1:Xo (zg s (f+1) 54 [I6 0,I6 0,eS]):=show zg _ _ _ _ from a0.aK M (Hm d.out)
 clear I M Y;unfold Qk noS
 go_wp2_with(refine zh rfl 54 (.tmp 4) (.tmp 20) rfl (f+1) rfl [I6 0,I6 0,eS] rfl a1 rfl Kr (by simp[Value.oneCell']) ?_)
 intro R T t _;have a2:Xo (zg R (f+1) 54 [I6 0,I6 0,eS]):=T;have r:Xo (jX (zny m) w0 p w (Xl (Qk 0 0 noS)) R):=show jX _ _ _ _ _ _ from by
  refine jX.ok (V':=h) (m':=g) ⟨rfl,rfl,rfl,C⟩ (((zk.aA P).trans Q).beyond t (Hm n.out)) (zd a4 t (Hm a8.out)) (ac.beside t (fun k e=>by cases e;have:=d.out;omega)) (fun W ae=>a7.out W ?_)
  have af:zk (fun k=>k<i.heap.size) j s:=(zk.aA a5).trans (Q.wide fun k x=>by have:=d.out;have:=q.out;omega)
  exact(af.trans (zk.grown t q)).trans (ae.wide fun k x=>Xs x (bS z))
 clear T t;go_wp2;refine bodyPost_ret (zB rfl _ rfl a2.box underlying54 rfl Kr) rfl r.out
theorem zcL(w:Xn)(m:Ma)(c:Cl)(b:c.kind=14)(a:Rt m):Ql w m c (zny m):=by
 intro j W p e v g h d;obtain rfl:=d.2.2.2.2.2.2.2.2.2.2.2.2.2.1 b;exact⟨49,#[],rfl,enters_of func49 Kr rfl,(zkr h a c).mono fun f i k=>k.more h.lo (h.aM p (.inl rfl)) (bS h.gr)⟩
variable{X:Nat->Prop}
def BeA(w0:Xn)(Q:Ma->Prop)(cs:List Xq)(er:Int)(w:Xn):Prop:=er=0/\∃(V':MaV)(M:Ma),Q M/\cs=chL V' M/\∀W',zk (fun k=>k<w0.heap.size) w W'->zq W' V' M
theorem BeA.by{w:Xn}{Q:Ma->Prop}{cs:List Xq}{a:Int}(h:BeA w1 Q cs a w)(g:∀W,zk (fun k=>k<w0.heap.size) w' W->zk (fun k=>k<w1.heap.size) w W):BeA w0 Q cs a w':=by
 obtain⟨e,b,M,c,d,f⟩:=h;exact⟨e,b,M,c,d,fun W i=>f W (g W i)⟩
def KBe(Q:Ma->Prop)(er n:Int)(l:List Int)(m':Ma):Prop:=er=0/\n=0/\l=[]/\Q m'
theorem zgA{w:Xn}{p:Nat}(n:ChW w0 X p w V m)(c:Cl){Q:Ma->Prop}(ax:∀W,zq W V m->Xp prog 94 #[Xi (mL V m).toArray,I6 c.file] W fun e w'=>(∃(V':MaV)(M:Ma),Q M/\e=Xl (Xm #[Xi (chL V' M).toArray,I6 0])/\∀a0,zk (fun k=>k<W.heap.size) w' a0->zq a0 V' M)/\zc W w'):
  Xp prog 47 #[Xj (Xa ⟨p,0,Xb⟩),Xi #[I6 c.kind,I6 c.aC,I6 c.pt,I6 c.n,I6 c.file,I6 c.base,Xh c.rd,Xh c.wr,Xh c.sh,c.dv.x]] w fun e w'=>jX (KBe Q) w0 p w e w':=by
 have ag:Xo (ChW w0 X p w V m):=n;have ah:Xo (p<w.heap.size):=n.aM p (.inl rfl);clear n;obtain⟨l,T⟩:=kA w.heap.size;obtain⟨a,q⟩:=kB ((w.alloc (Xk #[I6 c.kind,I6 c.aC,I6 c.pt,I6 c.n,I6 c.file,I6 c.base,Xh c.rd,Xh c.wr,Xh c.sh,c.dv.x] 25)).alloc (Xk #[I6 0,I6 0,eS] 54));have ad:=gD2 q
 have b9:Xo (zg a l 25 [I6 c.kind,I6 c.aC,I6 c.pt,I6 c.n,I6 c.file,I6 c.base,Xh c.rd,Xh c.wr,Xh c.sh,c.dv.x]):=dD<|by rw[<-q];exact(zg.aD w [I6 c.kind,I6 c.aC,I6 c.pt,I6 c.n,I6 c.file,I6 c.base,Xh c.rd,Xh c.wr,Xh c.sh,c.dv.x] _ T.symm).aA (za _ _)
 have A1:Xo (zg a (l+1) 54 [I6 0,I6 0,eS]):=dD<|by rw[<-q];exact zg.aD _ [I6 0,I6 0,eS] _ (by have:=T.out;simp;omega)
 have ae:Xo (l+1<a.heap.size):=A1.box.lt;have ai:Xo (_=a):=q;clear q;have a7:=dD (ag.aA ad);have U:Xo (∀W,zc a W->Xp prog 94 #[Xi (mL V m).toArray,I6 c.file] W fun e w'=>(∃(V':MaV)(M:Ma),Q M/\e=Xl (Xm #[Xi (chL V' M).toArray,I6 0])/\∀a0,zk (fun k=>k<W.heap.size) w' a0->zq a0 V' M)/\zc W w'):=show∀W,_ from fun W E=>ax W (a7.at.aA E)
 clear ax
 go_enter func47,ntmps47
 go_upto_region 1 with fail;rw[ai.out,T.out]
 go_cut[5,6] (fun bb bc ao=>∃(g:Nat)(d:Int)(b:List Xq),bb=Xj (Xa ⟨g,0,Xb⟩)/\bc=I6 d/\Xo (zg ao g 45 b)/\Xo (zc a ao)/\Xo (BeA a Q b d ao))
 case first=>
  refine wp_region_held (S:=fun W=>zc a W) zU ?_
  show wpAnyH _ _ _ _ _ 13 (Array.replicate 13 Xd) _ a.drew
  have j:zc a a.drew:=(gW _)
  refine zK 0 (Xa 8) (Xj (Xa ⟨p,0,Xb⟩)) j ?_
  refine Uq ?_;refine zK 1 (Xa 9) (Xj (Xa ⟨p,0,Xb⟩)) j ?_
  refine Uq ?_;refine zK 2 (Xa 10) (Xj (Xa ⟨p,0,Xb⟩)) j ?_
  refine Uq ?_;refine Qf 3 (Xa 11) (Xi (chL V m).toArray) rfl rfl Kr Kr Kr (fun _ _ _ n=>n) (yieldsIf_load_mid rfl 45 (.tmp 10) rfl p 0 rfl (chL V m) _ (fun W E=>(a7.box.box.aA E).range) underlying45 rfl Kr) j ?_
  refine Uq ?_;refine zK 4 (Xa 12) (Xj (Xa ⟨l,4,Xb⟩)) j ?_
  refine Uq ?_;refine Qf 5 (Xa 13) (I6 c.file) rfl rfl Kr Kr Kr (fun _ _ _ n=>n) (.inl ⟨rfl,fun W E=>jG _ (.tmp 12) rfl ⟨l,4,Xb⟩ rfl (I6 c.file) ((b9.box.aA E).c 4 rfl) underlying3 rfl⟩) j ?_
  refine Uq ?_;refine wpAnyH_all (rs:=[6,10]) Kr Sm ?_
  intro ac h;simp only[mC,nM,or_false]at h
  rcases h with rfl|rfl
  ·skip
   refine zO (Xa 14) (fun v w'=>(∃(b:List Xq)(d:Int),v=Xm #[Xi b.toArray,I6 d]/\b.length=11/\(∀x∈b,x.oneCell'=Xc)/\BeA a.drew Q b d w')/\zc a.drew w') rfl rfl rfl (zI.call [Xi (mL V m).toArray,I6 c.file] rfl func94 rfl rfl rfl ((U _ j).mono ?_)) ?_
   ·rintro e w'⟨n,H⟩;obtain⟨V',M,ak,rfl,am⟩:=n;exact⟨_,rfl,⟨chL V' M,0,rfl,rfl,by simp[chL,Value.oneCell'],⟨rfl,V',M,ak,rfl,am⟩⟩,H⟩
   rintro v B⟨⟨b,d,rfl,hlen,r,K⟩,aa⟩;have i:zc a B:=j.trans aa;refine⟨i,?_⟩;refine Uq ?_;refine zK 7 (Xa 7) (Xm #[Xi b.toArray,I6 d]) i ?_
   refine Uq ?_;refine zK 8 (Xa 15) (Xi b.toArray) i ?_
   refine Uq ?_;refine zK 9 (Xa 16) (I6 d) i ?_
   refine Uq ?_;refine wpAnyH_all (rs:=[10]) Kr Sm ?_
   intro ac h;simp only[mC,nM,or_false]at h;subst h;refine zO (Xa 5) (fun v w'=>v=Xj (Xa ⟨(B).heap.size,0,Xb⟩)/\w'=(B).alloc (Xk zR.toArray 45)) rfl rfl rfl (zI.step (jz rfl) ⟨rfl,rfl⟩) ?_
   rintro v t⟨rfl,f⟩;have C:zc a t:=by rw[f];exact i.trans (za _ _)
   have au:zc B t:=by rw[f];exact za _ _
   obtain⟨g,z⟩:=kA ((B).heap.size);have P:zg t g 45 zR:=by rw[f];exact zg.aD _ zR _ z.symm
   have G:a.heap.size<=g:=by rw[<-z.out];exact bS i
   rw[z.out];clear f;refine⟨C,?_⟩;refine Uq ?_;refine wpAnyH_all (rs:=[11]) Kr Sm ?_
   intro ac h;simp only[mC,nM,or_false]at h;subst h;refine zO Xb (fun v w'=>zc a w'/\zg w' g 45 b/\BeA a Q b d w') rfl rfl rfl (zI.aL 45 (.tmp 5) (.tmp 15) rfl g rfl b rfl P (by rw[hlen];rfl) Kr r (fun w' aj a3 ba=>⟨zd C a3 G,aj,K.by (zec (zd au a3 (by rw[z.out];exact nR _)) (bS j))⟩)) ?_
   rintro v A⟨u,a2,a5⟩;refine⟨u,?_⟩;simp only[Xy];refine zK 12 (Xa 6) (I6 d) u ?_
   refine Uq ?_;refine wpAnyH_done Kr ?_ _
   have L:Xo (zg A g 45 b):=a2;have y:Xo (zc a A):=u;have I:Xo (BeA a Q b d A):=a5;clear u a2 a5;go_wp2
   go_meet
   exact⟨g,d,b,rfl,rfl,L,y,I⟩
  skip
  refine zO (Xa 5) (fun v w'=>v=Xj (Xa ⟨(a.drew).heap.size,0,Xb⟩)/\w'=(a.drew).alloc (Xk zR.toArray 45)) rfl rfl rfl (zI.step (jz rfl) ⟨rfl,rfl⟩) ?_
  rintro v t⟨rfl,f⟩;have C:zc a t:=by rw[f];exact j.trans (za _ _)
  have au:zc a.drew t:=by rw[f];exact za _ _
  obtain⟨g,z⟩:=kA ((a.drew).heap.size);have P:zg t g 45 zR:=by rw[f];exact zg.aD _ zR _ z.symm
  have G:a.heap.size<=g:=by rw[<-z.out];exact bS j
  rw[z.out];clear f;refine⟨C,?_⟩;refine Uq ?_;refine wpAnyH_all (rs:=[6]) Kr Sm ?_
  intro ac h;simp only[mC,nM,or_false]at h;subst h;refine zO (Xa 14) (fun v w'=>(∃(b:List Xq)(d:Int),v=Xm #[Xi b.toArray,I6 d]/\b.length=11/\(∀x∈b,x.oneCell'=Xc)/\BeA t Q b d w')/\zc t w') rfl rfl rfl (zI.call [Xi (mL V m).toArray,I6 c.file] rfl func94 rfl rfl rfl ((U _ C).mono ?_)) ?_
  ·rintro e w'⟨n,H⟩;obtain⟨V',M,ak,rfl,am⟩:=n;exact⟨_,rfl,⟨chL V' M,0,rfl,rfl,by simp[chL,Value.oneCell'],⟨rfl,V',M,ak,rfl,am⟩⟩,H⟩
  rintro v B⟨⟨b,d,rfl,hlen,r,K⟩,aa⟩;have i:zc a B:=C.trans aa;refine⟨i,?_⟩;refine Uq ?_;have al:=P.box.lt;have P:=P.aA aa;refine zK 7 (Xa 7) (Xm #[Xi b.toArray,I6 d]) i ?_
  refine Uq ?_;refine zK 8 (Xa 15) (Xi b.toArray) i ?_
  refine Uq ?_;refine zK 9 (Xa 16) (I6 d) i ?_
  refine Uq ?_;refine wpAnyH_all (rs:=[11]) Kr Sm ?_
  intro ac h;simp only[mC,nM,or_false]at h;subst h;refine zO Xb (fun v w'=>zc a w'/\zg w' g 45 b/\BeA a Q b d w') rfl rfl rfl (zI.aL 45 (.tmp 5) (.tmp 15) rfl g rfl b rfl P (by rw[hlen];rfl) Kr r (fun w' aj a3 ba=>⟨zd i a3 G,aj,K.by (zed a3 al (bS C))⟩)) ?_
  rintro v A⟨u,a2,a5⟩;refine⟨u,?_⟩;simp only[Xy];refine zK 12 (Xa 6) (I6 d) u ?_
  refine Uq ?_;refine wpAnyH_done Kr ?_ _
  have L:Xo (zg A g 45 b):=a2;have y:Xo (zc a A):=u;have I:Xo (BeA a Q b d A):=a5;clear u a2 a5;go_wp2
  go_meet
  exact⟨g,d,b,rfl,rfl,L,y,I⟩
 obtain⟨g,d,b,rfl,rfl,L,y,I⟩:=hcut;have b0:=dD (A1.aA y);have s:Xo (p<l):=show _<_ by have:=ah.out;have:=T.out;omega
 obtain⟨rfl,N,a8,av,rfl,aw⟩:=I.out;have F:=zbl (V':=N) (m':=a8) (a7.box.aA y) ag.lo (a7.gr.trans y) 0;have af:=show Xo (Q a8)from av
 have R:Xo (∀W,zk (fun k=>k<a.heap.size) wc W->zq W N a8):=aw
 obtain⟨a6,Y⟩:=kA a8;rw[Y.out]at F R L;clear av aw
 go_wp2_with(first|refine zm rfl 45 (.tmp 5) rfl g rfl L.box underlying45 rfl Kr ?_|(go_at_call 85;refine F.mono ?_))
 clear F;rintro e a9⟨rfl,ay,an,ar⟩;have A2:Xo (zg a9 (l+1) 54 [I6 0,I6 0,eS]):=dD<|b0.aK an (Hm s.out)
 have b1:Xo (zc w0 a9):=ar;have b7:Xo (zg a9 p 88 (chL N a6)):=ay;have ap:Xo (zk (fun k=>k=p) wc a9):=an
 have b4:Xo (w0.heap.size<=l):=dD<|by have:=ag.lo;have:=s.out;omega
 have Z:Xo (l+1<a.heap.size):=ae;clear ar ay an;unfold Qk noS
 go_wp2_with(refine zh rfl 54 (.tmp 4) (.tmp 20) rfl (l+1) rfl [I6 0,I6 0,eS] rfl A2 rfl Kr (by simp[Value.oneCell']) ?_)
 intro a1 aq a4 _;have b2:Xo (zc w0 a1):=dD<|zd b1 a4 (Hm b4.out)
 have az:Xo (zg a1 (l+1) 54 [I6 0,I6 0,eS]):=aq;have b8:Xo (zg a1 p 88 (chL N a6)):=show zg _ _ _ _ from b7.beside a4 (fun k e=>by cases e;have:=s.out;omega)
 have b5:Xo (∀W,zk (fun k=>k<w.heap.size) a1 W->zq W N a6):=dD<|fun W E=>R.out W (((ap.wide fun k ab=>by have ab:k=p:=ab;have:=s.out;have:=Z.out;omega).trans (zk.grown (D:=fun k=>k<a.heap.size) a4 Z)).trans (E.wide fun k ab=>Xs ab (bS ad)))
 have b6:Xo (zk (fun k=>k=p) w a1):=dD<|zk.beyond ((zk.aA (ad.trans y)).trans ap) a4 (Hm T.out)
 clear aq a4;go_wp2;refine bodyPost_ret (zB rfl _ rfl az.box underlying54 rfl Kr) rfl (jX.ok (V':=N) (m':=a6) ⟨rfl,rfl,rfl,Ry Y.out af⟩ b6 b2 b8 b5)
theorem ze7{w:Xn}{p:Nat}(n:ChW w0 X p w V m)(c:Cl){Q:Ma->Prop}(ax:∀W,zq W V m->Xp prog 97 #[Xi (mL V m).toArray,I6 c.n] W fun e w'=>(∃(V':MaV)(M:Ma),Q M/\e=Xl (Xm #[Xi (chL V' M).toArray,I6 0])/\∀a0,zk (fun k=>k<W.heap.size) w' a0->zq a0 V' M)/\zc W w'):
  Xp prog 50 #[Xj (Xa ⟨p,0,Xb⟩),Xi #[I6 c.kind,I6 c.aC,I6 c.pt,I6 c.n,I6 c.file,I6 c.base,Xh c.rd,Xh c.wr,Xh c.sh,c.dv.x]] w fun e w'=>jX (KBe Q) w0 p w e w':=by
 have ag:Xo (ChW w0 X p w V m):=n;have ah:Xo (p<w.heap.size):=n.aM p (.inl rfl);clear n;obtain⟨l,T⟩:=kA w.heap.size;obtain⟨a,q⟩:=kB ((w.alloc (Xk #[I6 c.kind,I6 c.aC,I6 c.pt,I6 c.n,I6 c.file,I6 c.base,Xh c.rd,Xh c.wr,Xh c.sh,c.dv.x] 25)).alloc (Xk #[I6 0,I6 0,eS] 54));have ad:=gD2 q
 have b9:Xo (zg a l 25 [I6 c.kind,I6 c.aC,I6 c.pt,I6 c.n,I6 c.file,I6 c.base,Xh c.rd,Xh c.wr,Xh c.sh,c.dv.x]):=dD<|by rw[<-q];exact(zg.aD w [I6 c.kind,I6 c.aC,I6 c.pt,I6 c.n,I6 c.file,I6 c.base,Xh c.rd,Xh c.wr,Xh c.sh,c.dv.x] _ T.symm).aA (za _ _)
 have A1:Xo (zg a (l+1) 54 [I6 0,I6 0,eS]):=dD<|by rw[<-q];exact zg.aD _ [I6 0,I6 0,eS] _ (by have:=T.out;simp;omega)
 have ae:Xo (l+1<a.heap.size):=A1.box.lt;have ai:Xo (_=a):=q;clear q;have a7:=dD (ag.aA ad);have U:Xo (∀W,zc a W->Xp prog 97 #[Xi (mL V m).toArray,I6 c.n] W fun e w'=>(∃(V':MaV)(M:Ma),Q M/\e=Xl (Xm #[Xi (chL V' M).toArray,I6 0])/\∀a0,zk (fun k=>k<W.heap.size) w' a0->zq a0 V' M)/\zc W w'):=show∀W,_ from fun W E=>ax W (a7.at.aA E)
 clear ax
 go_enter func50,ntmps50
 go_upto_region 1 with fail;rw[ai.out,T.out]
 go_cut[5,6] (fun bb bc ao=>∃(g:Nat)(d:Int)(b:List Xq),bb=Xj (Xa ⟨g,0,Xb⟩)/\bc=I6 d/\Xo (zg ao g 45 b)/\Xo (zc a ao)/\Xo (BeA a Q b d ao))
 case first=>
  refine wp_region_held (S:=fun W=>zc a W) zU ?_
  show wpAnyH _ _ _ _ _ 13 (Array.replicate 13 Xd) _ a.drew
  have j:zc a a.drew:=(gW _)
  refine zK 0 (Xa 8) (Xj (Xa ⟨p,0,Xb⟩)) j ?_
  refine Uq ?_;refine zK 1 (Xa 9) (Xj (Xa ⟨p,0,Xb⟩)) j ?_
  refine Uq ?_;refine zK 2 (Xa 10) (Xj (Xa ⟨p,0,Xb⟩)) j ?_
  refine Uq ?_;refine Qf 3 (Xa 11) (Xi (chL V m).toArray) rfl rfl Kr Kr Kr (fun _ _ _ n=>n) (yieldsIf_load_mid rfl 45 (.tmp 10) rfl p 0 rfl (chL V m) _ (fun W E=>(a7.box.box.aA E).range) underlying45 rfl Kr) j ?_
  refine Uq ?_;refine zK 4 (Xa 12) (Xj (Xa ⟨l,3,Xb⟩)) j ?_
  refine Uq ?_;refine Qf 5 (Xa 13) (I6 c.n) rfl rfl Kr Kr Kr (fun _ _ _ n=>n) (.inl ⟨rfl,fun W E=>jG _ (.tmp 12) rfl ⟨l,3,Xb⟩ rfl (I6 c.n) ((b9.box.aA E).c 3 rfl) underlying3 rfl⟩) j ?_
  refine Uq ?_;refine wpAnyH_all (rs:=[6,10]) Kr Sm ?_
  intro ac h;simp only[mC,nM,or_false]at h
  rcases h with rfl|rfl
  ·skip
   refine zO (Xa 14) (fun v w'=>(∃(b:List Xq)(d:Int),v=Xm #[Xi b.toArray,I6 d]/\b.length=11/\(∀x∈b,x.oneCell'=Xc)/\BeA a.drew Q b d w')/\zc a.drew w') rfl rfl rfl (zI.call [Xi (mL V m).toArray,I6 c.n] rfl func97 rfl rfl rfl ((U _ j).mono ?_)) ?_
   ·rintro e w'⟨n,H⟩;obtain⟨V',M,ak,rfl,am⟩:=n;exact⟨_,rfl,⟨chL V' M,0,rfl,rfl,by simp[chL,Value.oneCell'],⟨rfl,V',M,ak,rfl,am⟩⟩,H⟩
   rintro v B⟨⟨b,d,rfl,hlen,r,K⟩,aa⟩;have i:zc a B:=j.trans aa;refine⟨i,?_⟩;refine Uq ?_;refine zK 7 (Xa 7) (Xm #[Xi b.toArray,I6 d]) i ?_
   refine Uq ?_;refine zK 8 (Xa 15) (Xi b.toArray) i ?_
   refine Uq ?_;refine zK 9 (Xa 16) (I6 d) i ?_
   refine Uq ?_;refine wpAnyH_all (rs:=[10]) Kr Sm ?_
   intro ac h;simp only[mC,nM,or_false]at h;subst h;refine zO (Xa 5) (fun v w'=>v=Xj (Xa ⟨(B).heap.size,0,Xb⟩)/\w'=(B).alloc (Xk zR.toArray 45)) rfl rfl rfl (zI.step (jz rfl) ⟨rfl,rfl⟩) ?_
   rintro v t⟨rfl,f⟩;have C:zc a t:=by rw[f];exact i.trans (za _ _)
   have au:zc B t:=by rw[f];exact za _ _
   obtain⟨g,z⟩:=kA ((B).heap.size);have P:zg t g 45 zR:=by rw[f];exact zg.aD _ zR _ z.symm
   have G:a.heap.size<=g:=by rw[<-z.out];exact bS i
   rw[z.out];clear f;refine⟨C,?_⟩;refine Uq ?_;refine wpAnyH_all (rs:=[11]) Kr Sm ?_
   intro ac h;simp only[mC,nM,or_false]at h;subst h;refine zO Xb (fun v w'=>zc a w'/\zg w' g 45 b/\BeA a Q b d w') rfl rfl rfl (zI.aL 45 (.tmp 5) (.tmp 15) rfl g rfl b rfl P (by rw[hlen];rfl) Kr r (fun w' aj a3 ba=>⟨zd C a3 G,aj,K.by (zec (zd au a3 (by rw[z.out];exact nR _)) (bS j))⟩)) ?_
   rintro v A⟨u,a2,a5⟩;refine⟨u,?_⟩;simp only[Xy];refine zK 12 (Xa 6) (I6 d) u ?_
   refine Uq ?_;refine wpAnyH_done Kr ?_ _
   have L:Xo (zg A g 45 b):=a2;have y:Xo (zc a A):=u;have I:Xo (BeA a Q b d A):=a5;clear u a2 a5;go_wp2
   go_meet
   exact⟨g,d,b,rfl,rfl,L,y,I⟩
  skip
  refine zO (Xa 5) (fun v w'=>v=Xj (Xa ⟨(a.drew).heap.size,0,Xb⟩)/\w'=(a.drew).alloc (Xk zR.toArray 45)) rfl rfl rfl (zI.step (jz rfl) ⟨rfl,rfl⟩) ?_
  rintro v t⟨rfl,f⟩;have C:zc a t:=by rw[f];exact j.trans (za _ _)
  have au:zc a.drew t:=by rw[f];exact za _ _
  obtain⟨g,z⟩:=kA ((a.drew).heap.size);have P:zg t g 45 zR:=by rw[f];exact zg.aD _ zR _ z.symm
  have G:a.heap.size<=g:=by rw[<-z.out];exact bS j
  rw[z.out];clear f;refine⟨C,?_⟩;refine Uq ?_;refine wpAnyH_all (rs:=[6]) Kr Sm ?_
  intro ac h;simp only[mC,nM,or_false]at h;subst h;refine zO (Xa 14) (fun v w'=>(∃(b:List Xq)(d:Int),v=Xm #[Xi b.toArray,I6 d]/\b.length=11/\(∀x∈b,x.oneCell'=Xc)/\BeA t Q b d w')/\zc t w') rfl rfl rfl (zI.call [Xi (mL V m).toArray,I6 c.n] rfl func97 rfl rfl rfl ((U _ C).mono ?_)) ?_
  ·rintro e w'⟨n,H⟩;obtain⟨V',M,ak,rfl,am⟩:=n;exact⟨_,rfl,⟨chL V' M,0,rfl,rfl,by simp[chL,Value.oneCell'],⟨rfl,V',M,ak,rfl,am⟩⟩,H⟩
  rintro v B⟨⟨b,d,rfl,hlen,r,K⟩,aa⟩;have i:zc a B:=C.trans aa;refine⟨i,?_⟩;refine Uq ?_;have al:=P.box.lt;have P:=P.aA aa;refine zK 7 (Xa 7) (Xm #[Xi b.toArray,I6 d]) i ?_
  refine Uq ?_;refine zK 8 (Xa 15) (Xi b.toArray) i ?_
  refine Uq ?_;refine zK 9 (Xa 16) (I6 d) i ?_
  refine Uq ?_;refine wpAnyH_all (rs:=[11]) Kr Sm ?_
  intro ac h;simp only[mC,nM,or_false]at h;subst h;refine zO Xb (fun v w'=>zc a w'/\zg w' g 45 b/\BeA a Q b d w') rfl rfl rfl (zI.aL 45 (.tmp 5) (.tmp 15) rfl g rfl b rfl P (by rw[hlen];rfl) Kr r (fun w' aj a3 ba=>⟨zd i a3 G,aj,K.by (zed a3 al (bS C))⟩)) ?_
  rintro v A⟨u,a2,a5⟩;refine⟨u,?_⟩;simp only[Xy];refine zK 12 (Xa 6) (I6 d) u ?_
  refine Uq ?_;refine wpAnyH_done Kr ?_ _
  have L:Xo (zg A g 45 b):=a2;have y:Xo (zc a A):=u;have I:Xo (BeA a Q b d A):=a5;clear u a2 a5;go_wp2
  go_meet
  exact⟨g,d,b,rfl,rfl,L,y,I⟩
 obtain⟨g,d,b,rfl,rfl,L,y,I⟩:=hcut;have b0:=dD (A1.aA y);have s:Xo (p<l):=show _<_ by have:=ah.out;have:=T.out;omega
 obtain⟨rfl,N,a8,av,rfl,aw⟩:=I.out;have F:=zbl (V':=N) (m':=a8) (a7.box.aA y) ag.lo (a7.gr.trans y) 0;have af:=show Xo (Q a8)from av
 have R:Xo (∀W,zk (fun k=>k<a.heap.size) wc W->zq W N a8):=aw
 obtain⟨a6,Y⟩:=kA a8;rw[Y.out]at F R L;clear av aw
 go_wp2_with(first|refine zm rfl 45 (.tmp 5) rfl g rfl L.box underlying45 rfl Kr ?_|(go_at_call 85;refine F.mono ?_))
 clear F;rintro e a9⟨rfl,ay,an,ar⟩;have A2:Xo (zg a9 (l+1) 54 [I6 0,I6 0,eS]):=dD<|b0.aK an (Hm s.out)
 have b1:Xo (zc w0 a9):=ar;have b7:Xo (zg a9 p 88 (chL N a6)):=ay;have ap:Xo (zk (fun k=>k=p) wc a9):=an
 have b4:Xo (w0.heap.size<=l):=dD<|by have:=ag.lo;have:=s.out;omega
 have Z:Xo (l+1<a.heap.size):=ae;clear ar ay an;unfold Qk noS
 go_wp2_with(refine zh rfl 54 (.tmp 4) (.tmp 20) rfl (l+1) rfl [I6 0,I6 0,eS] rfl A2 rfl Kr (by simp[Value.oneCell']) ?_)
 intro a1 aq a4 _;have b2:Xo (zc w0 a1):=dD<|zd b1 a4 (Hm b4.out)
 have az:Xo (zg a1 (l+1) 54 [I6 0,I6 0,eS]):=aq;have b8:Xo (zg a1 p 88 (chL N a6)):=show zg _ _ _ _ from b7.beside a4 (fun k e=>by cases e;have:=s.out;omega)
 have b5:Xo (∀W,zk (fun k=>k<w.heap.size) a1 W->zq W N a6):=dD<|fun W E=>R.out W (((ap.wide fun k ab=>by have ab:k=p:=ab;have:=s.out;have:=Z.out;omega).trans (zk.grown (D:=fun k=>k<a.heap.size) a4 Z)).trans (E.wide fun k ab=>Xs ab (bS ad)))
 have b6:Xo (zk (fun k=>k=p) w a1):=dD<|zk.beyond ((zk.aA (ad.trans y)).trans ap) a4 (Hm T.out)
 clear aq a4;go_wp2;refine bodyPost_ret (zB rfl _ rfl az.box underlying54 rfl Kr) rfl (jX.ok (V':=N) (m':=a6) ⟨rfl,rfl,rfl,Ry Y.out af⟩ b6 b2 b8 b5)
theorem zd0(w:Xn)(m:Ma)(c:Cl)(q:c.kind=12)(a:0<=c.file/\c.file<(m.fl.length:Int))(n:Rt m)(s:¬zhl m):Ql w m c (KBe fun d=>∃M,j8 m M/\JB c.file M.ca.length M/\d=Qy M):=by
 intro C W x f B A h u;obtain⟨g,rfl,p⟩:=u.2.2.2.2.2.2.2.2.2.2.2.1 q;refine⟨88,#[Xj (Xa ⟨g,0,Xb⟩)],rfl,JR,zaV h c a g 47 _ (enters_of func47 Kr rfl) p fun z b=>((zgA (h.aA b) c fun W r=>?_).mono fun i y v=>v.more h.lo (h.aM x (.inl rfl)) (nT (bS h.gr) (bS b)))⟩
 refine(zlJ f m c.file W r n a.1 a.2).mono ?_;rintro i y⟨⟨_,t⟩|⟨M,e,j,k,rfl,l⟩,g⟩
 ·exact absurd t s
 exact⟨⟨e,Qy M,⟨M,j,k,rfl⟩,rfl,l⟩,g⟩
theorem zhB(w:Xn)(m:Ma)(c:Cl)(j:c.kind=15)(i:Rt m):Ql w m c (KBe fun a=>a=Z0 m (Zc (Jw c.n) m.db m.dq)):=by
 intro s W p d v r h l;obtain rfl:=l.2.2.2.2.2.2.2.2.2.2.2.2.2.2 j;refine⟨50,#[],rfl,enters_of func50 Kr rfl,(ze7 h c fun W k=>?_).mono fun e q n=>n.more h.lo (h.aM p (.inl rfl)) (bS h.gr)⟩
 refine(zk0 d m c.n W k i).mono ?_;rintro e q⟨⟨b,rfl,f,_⟩,g⟩;exact⟨⟨b,_,rfl,rfl,f⟩,g⟩
variable{X:Nat->Prop}
def znx(m:Ma)(er n:Int)(l:List Int)(m':Ma):Prop:=er=0/\n=0/\l=[]/\m'=(jP m []).2
theorem zir(h:Rt m):∀w0 W p a,ChW w0 X p W a m->Xp prog 160 #[Xj (Xa ⟨p,0,Xb⟩),eS] W fun e w'=>∃c m',e=Xl (Xh c)/\m'=(jP m []).2/\Chg w0 X p W a m' w':=fun _ W _ _ f=>by
 refine(zew f h (eS) [] (fun b _=>zj.nil Jb b)).mono ?_
 rintro e w'⟨rfl,d⟩;exact⟨_,_,rfl,rfl,d⟩
theorem zkq{w:Xn}{p:Nat}(l:ChW w0 X p w V m)(L:Rt m)(c:Cl):
  Xp prog 48 #[Xj (Xa ⟨p,0,Xb⟩),Xi #[I6 c.kind,I6 c.aC,I6 c.pt,I6 c.n,I6 c.file,I6 c.base,Xh c.rd,Xh c.wr,Xh c.sh,c.dv.x]] w fun e w'=>jX (znx m) w0 p w e w':=by
 have a8:Xo (ChW w0 X p w V m):=l;obtain⟨g,n⟩:=kA w.heap.size;obtain⟨i,b⟩:=kB ((w.alloc (Xk #[I6 c.kind,I6 c.aC,I6 c.pt,I6 c.n,I6 c.file,I6 c.base,Xh c.rd,Xh c.wr,Xh c.sh,c.dv.x] 25)).alloc (Xk #[I6 0,I6 0,eS] 54));have z:=gD2 b
 have ah:Xo (zg i g 25 [I6 c.kind,I6 c.aC,I6 c.pt,I6 c.n,I6 c.file,I6 c.base,Xh c.rd,Xh c.wr,Xh c.sh,c.dv.x]):=dD<|by rw[<-b];exact(zg.aD w [I6 c.kind,I6 c.aC,I6 c.pt,I6 c.n,I6 c.file,I6 c.base,Xh c.rd,Xh c.wr,Xh c.sh,c.dv.x] _ n.symm).aA (za _ _)
 have A1:Xo (zg i (g+1) 54 [I6 0,I6 0,eS]):=dD<|by rw[<-b];exact zg.aD _ [I6 0,I6 0,eS] _ (by have:=n.out;simp;omega)
 have q:Xo (g+1<i.heap.size):=A1.box.lt;have K:Xo (ChW w0 X p i V m):=l.aA z.out;have f:Xo (p<g):=show _<_ by have:=l.aM p (.inl rfl);have:=n.out;omega
 have a7:Xo (w0.heap.size<=g):=dD<|by have:=l.lo;have:=f.out;omega
 have G:Xo (_=i):=b;have v:=zkO V m i (l.at.aA z) L.w (fun _ d=>d=(jP m []).2) (zir L)
 clear b l L
 go_enter func48,ntmps48
 go_upto_region 1 with fail;rw[G.out,n.out];have E:Xo ((Tryz.prog.info? 45).map (·.size)=Xa (chL V m).length):=dD<|Kr
 go_wp2_with(first|refine zm rfl 45 (.tmp 11) rfl p rfl K.box.box underlying45 rfl E.out ?_|(go_at_call 95;refine v.mono ?_))
 clear v;rintro e j⟨⟨ai,d,h,y,rfl,x⟩,B⟩;have C:Xo (d=(jP m []).2):=y;have a6:Xo (∀W,zk (fun k=>k<i.heap.size) j W->zq W h d):=x
 have a2:=dD (z.trans B);have A2:=dD (A1.aA B);have a9:=dD (K.box.aA B);obtain⟨N,D⟩:=kA j.heap.size;have a5:Xo (g+1<N):=show _<_ by rw[<-D.out];exact A2.box.lt
 have H:Xo (∀ag∈chL h d,ag.oneCell'=Xc):=dD<|by simp[chL,Value.oneCell']
 clear x B y
 go_upto_region 2 with(refine zh rfl 45 (.tmp 5) (.tmp 14) rfl j.heap.size rfl (chL h d) rfl (zg.aD j zR _ rfl) rfl Kr H.out ?_)
 intro A S U af;clear af;have a:zc j A:=zd (za _ _) U (nR _);have ac:Xo (zg A N 45 (chL h d)):=dD<|Ry D.out S
 have P:=dD (a2.trans a);have a4:Xo (zc j A):=a;have I:=dD (A2.aA a);have aa:=dD (a9.aA a);rw[D.out];clear S U a;have u:=zbl (V':=h) (m':=d) aa K.lo (a8.gr.trans P) 0;have F:Xo ((Tryz.prog.info? 45).map (·.size)=Xa (chL h d).length):=show _=_ by kernel_rfl
 go_wp2_with(first|refine zm rfl 45 (.tmp 5) rfl N rfl ac.box underlying45 rfl F.out ?_|(go_at_call 85;refine u.mono ?_))
 clear u;rintro e s⟨rfl,Z,M,Y⟩;have ab:Xo (zg s p 88 (chL h d)):=Z;have Q:Xo (zk (fun k=>k=p) A s):=M
 have a3:Xo (zc w0 s):=Y;have a0:Xo (zg s (g+1) 54 [I6 0,I6 0,eS]):=show zg _ _ _ _ from I.aK M (Hm f.out)
 clear Z M Y;unfold Qk noS
 go_wp2_with(refine zh rfl 54 (.tmp 4) (.tmp 20) rfl (g+1) rfl [I6 0,I6 0,eS] rfl a0 rfl Kr (by simp[Value.oneCell']) ?_)
 intro R T t _;have a1:Xo (zg R (g+1) 54 [I6 0,I6 0,eS]):=T;have r:Xo (jX (znx m) w0 p w (Xl (Qk 0 0 noS)) R):=show jX _ _ _ _ _ _ from by
  refine jX.ok (V':=h) (m':=d) ⟨rfl,rfl,rfl,C⟩ (((zk.aA P).trans Q).beyond t (Hm n.out)) (zd a3 t (Hm a7.out)) (ab.beside t (fun k e=>by cases e;have:=f.out;omega)) (fun W ad=>a6.out W ?_)
  have ae:zk (fun k=>k<i.heap.size) j s:=(zk.aA a4).trans (Q.wide fun k x=>by have:=f.out;have:=q.out;omega)
  exact(ae.trans (zk.grown t q)).trans (ad.wide fun k x=>Xs x (bS z))
 clear T t;go_wp2;refine bodyPost_ret (zB rfl _ rfl a1.box underlying54 rfl Kr) rfl r.out
theorem zcK(w:Xn)(m:Ma)(c:Cl)(b:c.kind=13)(a:Rt m):Ql w m c (znx m):=by
 intro j W p e v g h d;obtain rfl:=d.2.2.2.2.2.2.2.2.2.2.2.2.1 b;exact⟨48,#[],rfl,enters_of func48 Kr rfl,(zkq h a c).mono fun f i k=>k.more h.lo (h.aM p (.inl rfl)) (bS h.gr)⟩
variable{X:Nat->Prop}
theorem zoO(p:Nat)(k:Int)(w:Xn):Xp Tryz.prog 151 #[Xj (Xa ⟨p,0,Xb⟩),Xe Xf k,Xe Xf 0] w fun e w'=>(∃v,e=Xl v)/\w'=w:=by
 go_enter Tryz.func151,Tryz.ntmps151
 go_wp2
 (first|go_end0|((try simp only[Exit.inBlock,Exit.then]);refine bodyPost_ret (results_none rfl _ _ _) rfl ?_))
 first|exact rfl|exact⟨⟨_,rfl⟩,rfl⟩
theorem zhQ{w0 u w:Xn}{p:Nat}{V:MaV}{m:Ma}(h:ChW w0 X p u V m)(gu:zc u w)(k:Nat)(hk:m.fl[k]?=Xa ⟨0,[]⟩)(n:Int)(hn:0<=n):
  Xp Tryz.prog 90 #[Xj (Xa ⟨p,0,Xb⟩),Xe Xf (k:Int),Xe Xf n] w fun e w'=>(∃v,e=Xl v)/\∃(f:Sli)(w1:Xn),zc w w1/\z8 0 w.heap.size w1 (O f.a f.n f.c) (zho m.fl m.cnt (k:Int) n)/\w1.grownBy w' (Xa p)/\zg w' p 88 (chL {V with fl:=f} {m with fl:=zho m.fl m.cnt (k:Int) n,cnt:=znF m.fl m.cnt (k:Int) n}):=by
 have P0:Xo (zg w p 88 (chL V m)):=h.box.aA gu;have HAT:Xo (zq w V m):=h.at.aA gu;have x7:=P0.out.box.c 7 rfl;have x8:=P0.out.box.c 8 rfl;obtain⟨fa,fc,heq,hbig,hrow⟩:=HAT.out.fl.rows;have HX7:Xo (O V.fl.a V.fl.n V.fl.c=O fa m.fl.length fc):=heq;rw[heq]at x7;obtain⟨ad,rfl,xa,xc,_,hl⟩:=hrow k _ hk;obtain⟨d0,d1⟩:=hl w (bR _ _);have hkl:(k:Int)<(m.fl.length:Int):=Hm ((gS.1 hk).1)
 obtain⟨C,HC⟩:∃C,Xo (znF m.fl m.cnt (k:Int) n=C):=⟨_,rfl⟩;obtain⟨E,HE⟩:∃E,Xo (zfJ m.fl m.cnt (k:Int) n=E):=⟨_,rfl⟩;have HSZ:Xo (∀W,zc w W->Xp Tryz.prog 153 #[Xi #[O (Xa ad) m.fl.length fc,Xe Xf m.cnt],Xe Xf (k:Int),Xe Xf n] W fun e w'=>∃b:Sli,e=Xl (Xm #[Xi #[O b.a b.n b.c,Xe Xf C],Xe Xf E])/\z8 0 w.heap.size w' (O b.a b.n b.c) (zho m.fl m.cnt (k:Int) n)/\zc W w'):=show∀W,_ from fun W hW=>by
  rw[<-HC.out,<-HE.out];have hfl:=(HAT.out.aA hW).fl;rw[heq]at hfl;refine(zj2 _ m.fl m.cnt (k:Int) n W hfl).mono ?_;rintro e w'⟨b,rfl,nr,g⟩;obtain⟨a,c,rfl,_⟩:=qe.rows nr.bO;exact⟨⟨a,_,c⟩,rfl,nr.less (nR _) (bS hW),g⟩
 rw[HC.out];obtain⟨ln,HLN⟩:∃ln,Xo (m.fl.length=ln):=⟨_,rfl⟩;rw[HLN.out]at x7 hkl hbig HSZ HX7;have hmin:min n 0=0:=Wm
 have hnn:¬n<0:=Wm
 clear hl hrow heq h gu hk
 go_enter Tryz.func90,Tryz.ntmps90
 go_upto_region 1 with fail;obtain⟨b,HB⟩:∃b,Xo (w.heap.size=b):=⟨_,rfl⟩;obtain⟨W1,hW1⟩:∃W1,w.alloc (Xk #[Xe Xf 0,O xa 0 xc] 159)=W1:=⟨_,rfl⟩;have G1:=gA hW1
 have X1:=xPT hW1 HB
 have P1:=dD (P0.out.aA G1.out);rw[hW1,HB.out];obtain⟨y0,y1⟩:=X1.out.box.k2;have x7':W1.cell? ⟨p,7,Xb⟩=Xa (O (Xa ad) ln fc):=by
  have:=P1.out.box.c 7 rfl;rw[HX7.out]at this;exact this
 have x8':=P1.out.box.c 8 rfl;have hcu:=zoO p (k:Int) W1;have hco:=zbi 0 W1 Dc Dc
 have hcz:zbQ 0=0:=rfl;rw[hcz]at hco;have hsz:=HSZ.out W1 G1.out;clear hW1 x7 x8 d0 d1 P0 HAT HSZ;go_wp2_with fail;refine hcu.mono ?_;clear hcu;rintro e W2⟨⟨v2,rfl⟩,hw2⟩;rw[hw2];clear hw2 W2;go_wp2_with fail;refine hco.mono ?_;clear hco;rintro e W3⟨rfl,hw3⟩;rw[hw3];clear hw3 W3;go_wp2
 go_loopg[8] 0 (fun gg s8 wr=>s8=Xe Xf 0/\W1=wr)
 exact⟨rfl,rfl⟩
 obtain⟨rfl,hwr⟩:=hrel;subst hwr;go_wp2_with fail;refine hsz.mono ?_;clear hsz y0 y1 x7' x8';rintro e W4⟨f,rfl,nr,g4⟩;have F4:Xo (z8 0 w.heap.size W4 (O f.a f.n f.c) (zho m.fl m.cnt (k:Int) n)):=nr;have G4:=dD (G1.out.trans g4);have P4:=dD (P1.out.aA g4);clear nr g4
 go_wp2_with(refine qK rfl 41 (.tmp 53) (.tmp 49) rfl p 7 rfl (Xi #[O f.a f.n f.c,Xe Xf C]) rfl [O f.a f.n f.c,Xe Xf C] rfl P4.out (by simp[chL]) Kr (by simp[Value.oneCell']) ?_)
 intro W5 b5 g5 _;have P5:Xo (zg W5 p 88 (chL {V with fl:=f} {m with fl:=zho m.fl m.cnt (k:Int) n,cnt:=C})):=b5;have GB5:Xo (W4.grownBy W5 (Xa p)):=g5;clear b5 g5;go_wp2
 (first|go_end0|((try simp only[Exit.inBlock,Exit.then]);refine bodyPost_ret (results_none rfl _ _ _) rfl ?_))
 first|exact⟨f,W4,G4.out,F4.out,GB5.out,P5.out⟩|exact⟨⟨_,rfl⟩,f,W4,G4.out,F4.out,GB5.out,P5.out⟩
def zfH(m:Ma)(k:Nat)(z er n:Int)(l:List Int)(m':Ma):Prop:=er=0/\n=0/\l=[]/\m'={m with fl:=zho m.fl m.cnt (k:Int) z,cnt:=znF m.fl m.cnt (k:Int) z}
theorem zko{u w:Xn}{p:Nat}(h:ChW w0 X p u V m)(B:zc u w)(c:Cl)(k:Nat)(R:c.file=(k:Int))(C:m.fl[k]?=Xa ⟨0,[]⟩)(E:0<=c.n/\c.n<97):
  Xp prog 46 #[Xj (Xa ⟨p,0,Xb⟩),Xi #[I6 c.kind,I6 c.aC,I6 c.pt,I6 c.n,I6 c.file,I6 c.base,Xh c.rd,Xh c.wr,Xh c.sh,c.dv.x]] w fun e w'=>ZI (zfH m k c.n) w0 p u w e w':=by
 have z:Xo (ChW w0 X p u V m):=h;have G:Xo (zc u w):=B;obtain⟨i,r⟩:=kA w.heap.size;obtain⟨a,d⟩:=kB ((w.alloc (Xk #[I6 c.kind,I6 c.aC,I6 c.pt,I6 c.n,I6 c.file,I6 c.base,Xh c.rd,Xh c.wr,Xh c.sh,c.dv.x] 25)).alloc (Xk #[I6 0,I6 0,eS] 54));have y:=gD2 d
 have P:Xo (zg a i 25 [I6 c.kind,I6 c.aC,I6 c.pt,I6 c.n,I6 c.file,I6 c.base,Xh c.rd,Xh c.wr,Xh c.sh,c.dv.x]):=dD<|by rw[<-d];exact(zg.aD w [I6 c.kind,I6 c.aC,I6 c.pt,I6 c.n,I6 c.file,I6 c.base,Xh c.rd,Xh c.wr,Xh c.sh,c.dv.x] _ r.symm).aA (za _ _)
 have A1:Xo (zg a (i+1) 54 [I6 0,I6 0,eS]):=dD<|by rw[<-d];exact zg.aD _ [I6 0,I6 0,eS] _ (by have:=r.out;simp;omega)
 have F:Xo (i+1<a.heap.size):=A1.box.lt;have j:Xo (zc u a):=show zc _ _ from B.trans y.out
 have a7:Xo (zg a p 88 (chL V m)):=h.box.aA j.out;have f:Xo (p<u.heap.size):=h.aM p (.inl rfl);have g:Xo (u.heap.size<=i):=show _<=_ by rw[<-r.out];exact bS B
 have a2:Xo (w0.heap.size<=i):=dD<|by have:=h.lo;have:=f.out;have:=g.out;omega
 have H:Xo (_=a):=d;have a6:=P.box.c 3 rfl;have U:=P.box.c 4 rfl;rw[R]at U;have l:=ZP c.n 97 a;rw[decide_eq_true E.1,decide_eq_true E.2]at l;have n:=zhQ h j k C c.n E.1;obtain⟨L,M⟩:=kA (znF m.fl m.cnt (k:Int) c.n);rw[M.out]at n;clear d h B E C R
 go_enter func46,ntmps46
 go_upto_region 1 with fail;rw[H.out,r.out];go_wp2_with fail;refine l.mono ?_;clear l;rintro e a9⟨rfl,x⟩;rw[x];clear x;go_wp2_with fail;refine n.mono ?_;clear n a6 U;rintro e q⟨⟨aa,rfl⟩,K,A,b,S,v,T⟩;have Z:Xo (z8 0 a.heap.size A (K.x) (zho m.fl m.cnt (k:Int) c.n)):=S;have a1:Xo (zc a A):=b;have a0:Xo (A.grownBy q (Xa p)):=v;have a4:Xo (zg q p 88 (chL {V with fl:=K} {m with fl:=zho m.fl m.cnt (k:Int) c.n,cnt:=L})):=T;have W:Xo (zg q (i+1) 54 [I6 0,I6 0,eS]):=show zg _ _ _ _ from(A1.aA b).beside v (fun k e=>by cases e;have:=f.out;have:=g.out;omega)
 have I:Xo (zc w0 q):=dD<|zd (((z.gr.trans G).trans y).trans b) v z.lo
 have a3:Xo (zk (zpr w0 u) w q):=dD<|(zk.aA (y.trans b)).trans (zk.grown v ⟨z.lo,f⟩)
 clear S b v T
 go_wp2_with(refine zh rfl 54 (.tmp 4) (.tmp 16) rfl (i+1) rfl [I6 0,I6 0,eS] rfl W rfl Kr (by simp[Value.oneCell']) ?_)
 intro N Q t _;have Y:Xo (zg N (i+1) 54 [I6 0,I6 0,eS]):=Q;have s:Xo (ZI (zfH m k c.n) w0 p u w (Xl (Qk 0 0 noS)) N):=show ZI _ _ _ _ _ _ _ from by
  refine⟨0,0,noS,[],{V with fl:=K},{m with fl:=zho m.fl m.cnt (k:Int) c.n,cnt:=L},rfl,⟨rfl,rfl,rfl,by rw[M.out]⟩,a3.beyond t (Hm r.out),zd I t (Hm a2.out),fun _ _=>zj.nil _ _,fun _=>⟨a4.beside t (fun k e=>by cases e;have:=f.out;have:=g.out;omega),fun a8 a5=>?_⟩⟩
  exact zet (w:=a) (w1:=A) (w2:=q) z j a1 Z a0 ((zk.grown (D:=Aft w0 u a) t (.inr ⟨Hm g.out,F⟩)).trans (a5.wide fun k C=>C.imp id fun h=>⟨h.1,Xs h.2 (bS y)⟩))
 clear Q t;go_wp2;refine bodyPost_ret (zB rfl _ rfl Y.box underlying54 rfl Kr) rfl s.out
theorem zhA(w:Xn)(m:Ma)(c:Cl)(k:Nat)(f:c.kind=11)(e:c.file=(k:Int))(a:m.fl[k]?=Xa ⟨0,[]⟩)(i:0<=c.n/\c.n<97):Ql w m c (zfH m k c.n):=by
 intro r W q l v p h j;obtain⟨g,rfl,d⟩:=j.2.2.2.2.2.2.2.2.2.2.1 f;exact⟨88,#[Xj (Xa ⟨g,0,Xb⟩)],rfl,JR,zaV h c (Hm ((gS.1 a).1)) g 46 _ (enters_of func46 Kr rfl) d fun n b=>zko h b c k e a i⟩
theorem zcG{α:Type}(E:Elt α){w:Xn}{ops:Array Oper}{rest:List Oper}{o:Oper}{a:Act}{Q:Exit->Act->Xn->Prop}(hgd:o.guard=Xb)(l c:Operand)(ho:o.op=.makeSlice E.st l c)(n:Nat)(hl:a.eval l=Xe Xf 0)(hc:a.eval c=Xe Xf n)(hn:n*E.bytes<=140737488355328)
  (h:∀C,zb E w.heap.size (w.alloc (Xk C E.ty)) (O (Xa ⟨w.heap.size,0,Xb⟩) 0 n) ([]:List α)->wpList Tryz.prog ops Q rest (a.put o.dst (O (Xa ⟨w.heap.size,0,Xb⟩) 0 n)) (w.alloc (Xk C E.ty))):wpList Tryz.prog ops Q (o::rest) a w:=by
 refine wpList_plain hgd fun K hK=>?_
 obtain⟨i0,hi,hz0,hz1,hz2⟩:=info_parts E.aF;have h2:n*1<=n*E.bytes:=Nat.mul_le_mul_left _ (nT E.pos E.few);have hb:((E.bytes:Int)*(n:Int))<=140737488355328:=by
  obtain⟨B,hB⟩:∃B,n*E.bytes=B:=⟨_,rfl⟩;rw[hB]at hn;rw[<-Int.natCast_mul,Nat.mul_comm,hB];omega
 have hrun:=run_make (P:=Tryz.prog) w E.st E.ty i0 _ E.bT hi hz0 .i64 .i64 0 n (by omega) (by omega) (by rw[hz2];exact Int.le_trans hb (by omega)) (by omega)
 rw[hz1,tN]at hrun;unfold Oper.wp;simp only[execOp,ho,hl,hc,Sem.run_bind,hrun,Result.andThen,Sem.run_pure,Oper.upon];refine hK _ _ (h _ ⟨World.ownsRow_made w _ n (nR _) (jx (by omega)) (by rw[size_madeCells]),by simp⟩)
theorem zqw{k c:Nat}(e:(z2 m (fi:Int) (k:Int)).length=8)(d:c<=8):(Xu (8*k)).map (byD m fi)++(z2 m (fi:Int) (k:Int)).take c=(Xu (8*k+c)).map (byD m fi):=by
 apply List.ext_getElem?
 intro i
 by_cases a:i<8*k
 ·rw[Xt (Si a),Xv,Xv,Xx a,Xx Wm]
 rw[aR (by simp;omega),List.length_map,Yc,Xv]
 by_cases b:i<8*k+c
 ·rw[Xx b,Ya Wm]
  simp only[Option.map_some];unfold byD;rw[show i/8=k by omega,show i%8=i-8*k by omega,gD,gE Wm]
  rfl
 rw[gN (by simp;omega),gN (by simp;omega)]
 rfl
theorem zoZ{f:Int}(h:Zx m f=0):maW m=0/\0<=f/\f<(m.fl.length:Int):=by
 unfold Zx at h
 by_cases e:maW m=0
 ·rw[kF (fun h=>h e)]at h
  split at h
  ·cases h
  omega
 rw[kE e]at h;exact absurd h e
theorem zng(V:MaV)(m:Ma)(a:Int)(w:Xn)(bs:zq w V m)(am:Zx m a=0):
  Xp prog 89 #[Xi (mL V m).toArray,I6 a] w fun e w'=>Byt m a w e w'/\zc w w':=by
 have cb:Xo (zq w V m):=bs;obtain⟨d7,ap,aq⟩:=zoZ am;have q:Xo (maW m=0):=d7;have af:Xo (∀W,zc w W->Xp prog 20 #[Xi (mL V m).toArray] W fun e w'=>e=Xl (I6 0)/\zc W w'):=show∀W,_ from fun W an=>Zn V m W (cb.aA an) q.out
 have ae:Xo (∀W,zc w W->Xp prog 70 #[Xi (mL V m).toArray] W fun e w'=>∃B,e=Xl (Xi #[V.f.x,I6 m.aB,V.s.x,V.sb.x,V.sq.x,V.db.x,V.dq.x,V.fl.x,I6 m.cnt,V.ca.x,V.sp.x,.map (Xa B)])/\Zh plK w' B (Zz m.ca)/\zc W w'):=dD<|fun W an=>QJ V m W (cb.aA an)
 have ab:Xo (maW m=0->∀W B(b a5:Nat)f a1,zc w W->m.fl[b]?=Xa f->f.bl[a5]?=Xa a1->a5<=1000->Zh plK W B (Zz m.ca)->Xp prog 150 #[Xi #[V.f.x,I6 m.aB,V.s.x,V.sb.x,V.sq.x,V.db.x,V.dq.x,V.fl.x,I6 m.cnt,V.ca.x,V.sp.x,.map (Xa B)],I6 (b:Int),I6 (a5:Int)] W fun e w'=>e=Xl (Xi (pgc (z2 m b a5)).toArray)/\(z2 m b a5).length=8/\zc W w'):=dD<|fun am W B b a5 f a1 an d5 ao ef C=>zb2 V m B b a5 f a1 W (cb.aA an) (znf am) d5 ao ef (zin am d5).1 C
 obtain⟨-,-,-,-,-,-,cm,-,-⟩:=bs.ns;obtain⟨_,_,a3,_,au⟩:=qe.rows bs.fl;have aa:Xo (zjM w V.fl.a m.fl):=dD<|by
  simp only[vJ]at a3;rw[a3.1];exact au
 obtain⟨bt,bu,H,L,F,G,⟨ch,g,u⟩,D,K⟩:=V;dsimp only[mL]at af ae ab aa cm⊢;have Y:Xo (m.fl.length=g):=cm.symm;have a7:Xo (0<=a/\a<(m.fl.length:Int)):=show _/\_ from⟨ap,aq⟩
 clear bs cm a3 au am d7 ap aq;obtain⟨ah,i⟩:=kB (w.alloc (Xk #[bt.x,I6 m.aB,bu.x,H.x,L.x,F.x,G.x,O ch g u,I6 m.cnt,D.x,K.x] 45));have a6:=gA i
 have h:=xA i
 have s:=sA i
 have cd:Xo (_=ah):=i;clear i
 go_enter func89,ntmps89
 go_upto_region 1 with fail;rw[cd.out];obtain⟨b9,bb,bd,be,bf,bg,bh,M,bi,bj,p⟩:=h.aU;have R:=af.out ah a6.out;go_wp2_with fail;refine R.mono ?_;clear R b9 bb bd be bf bg bh M bi bj p;rintro b8 cf⟨rfl,d4⟩;have d:Xo (zc ah cf):=d4;clear d4;have c9:=show Xo _ from ab.out q.out
 have M:=(h.aA d).c 7 rfl;have Q:=QD a (g:Int) cf;go_wp2_with fail;refine Q.mono ?_;rintro b8 w'⟨rfl,l⟩;rw[l];clear l w' Q M;have ao:bel a (g:Int)=Xc:=Zf.2 ⟨a7.1,by have:=a7.2;have:=Y.out;omega⟩
 rw[ao];obtain⟨du,ej⟩:=Zf.1 ao;clear ao;obtain⟨b,rfl⟩:∃b:Nat,a=(b:Int):=⟨a.toNat,Wm⟩
 obtain⟨f,bn⟩:∃f,Xo (m.fl[b]?=Xa f):=⟨_,gE (by rw[Y.out];omega)⟩
 obtain⟨⟨eg,eh⟩,d9⟩:=zqi q bn.out;obtain⟨z,bo⟩:∃z:Nat,Xo (f.size=(z:Int)):=⟨f.size.toNat,show _=_ by omega⟩
 have d8:z<=96:=Hm bo.out
 obtain⟨N,cr⟩:=kA f.bl.length;have a9:Xo (zbQ (z:Int)=(N:Int)):=dD<|by rw[<-bo.out,<-cr.out];exact d9.symm
 have ed:8*N<z+8/\z<=8*N:=by
  have:=a9.out;unfold zbQ at this
  split at this<;>omega
 have a8:Xo (Zx m (b:Int)=0):=dD<|by unfold Zx;rw[kF (fun ea=>ea q),kF (by rw[Y.out];omega)]
 have bz:Xo (Zw m (b:Int)=(Xu z).map (byD m b)):=dD<|by
  unfold Zw;rw[kE a8.out];unfold zeA;rw[show(Z4 m (b:Int)).toNat=z from by unfold Z4;rw[tN,gD,bn.out];show f.size.toNat=z;rw[bo.out];rfl]
  rfl
 obtain⟨t,ec,dv,dw,_,av⟩:=aa.out b f bn.out;have ca:Xo (∀W,zc w W->znB W (t.add (b*2)) (z:Int) (O dv f.bl.length dw)):=dD<|Ry bo.out av
 subst ec;clear du eg eh d9 av;have R:=ae.out cf (a6.trans d);have b9:=(h.aA d).c 0 rfl;have bb:=(h.aA d).c 1 rfl;have bd:=(h.aA d).c 2 rfl;have be:=(h.aA d).c 3 rfl;have bf:=(h.aA d).c 4 rfl;have bg:=(h.aA d).c 5 rfl;have bh:=(h.aA d).c 6 rfl;have M:=(h.aA d).c 7 rfl;have bi:=(h.aA d).c 8 rfl;have bj:=(h.aA d).c 9 rfl;have p:=(h.aA d).c 10 rfl;go_wp2_with fail;refine R.mono ?_;clear R b9 bb bd be bf bg bh M bi bj p;rintro b8 d1⟨B,rfl,C,cj⟩;go_upto_region 7 with fail;obtain⟨co,Z⟩:=kA d1.heap.size;obtain⟨ai,x⟩:=kB (d1.alloc (Xk #[bt.x,I6 m.aB,bu.x,H.x,L.x,F.x,G.x,O (Xa t) g u,I6 m.cnt,D.x,K.x,.map (Xa B)] 131));have ck:=gP x
 have dh:Xo (Zh plK ai B (Zz m.ca)):=C.aA ck;have dl:=xPT x Z
 have bp:=dD ((d.trans cj).trans ck);have dc:Xo (w.heap.size+1<=co):=show _<=_ by rw[<-Z.out,<-s.out];exact bS (d.trans cj)
 rw[x,Z.out];clear x cj ck C;have M:=(h.aA bp).c 7 rfl;obtain⟨e5,-⟩:=ca.out ai (a6.trans bp)
 go_wp2_with(refine zcG byE rfl (.const (I6 0)) (.tmp 33) rfl z rfl rfl (by show z*1<=_;omega) ?_)
 intro da own;obtain⟨cg,y⟩:=kB (ai.alloc (Xk da byE.ty));have br:zc ai cg:=by rw[<-y];exact za _ _
 have dq:Xo (zb byE (w.heap.size+1) cg (O (Xa ⟨ai.heap.size,0,Xb⟩) 0 z) ((Xu 0).map (byD m b))):=dD<|by
  rw[y]at own;exact own.base (by rw[<-s.out];exact bS bp)
 have di:=dD (dh.aA br);have dm:=dD (dl.aA br);have de:=dD (bp.trans br);have a2:=zbi (z:Int) cg Wm Wm
 rw[a9.out]at a2;rw[y];clear y br own M e5;go_wp2_with fail;refine a2.mono ?_;rintro b8 w'⟨rfl,l⟩;rw[l];clear l w' a2;go_wp2
 go_loopg[9,37] N (fun e8 ei cp wr=>∃(k n:Nat)(bv:Option Addr)(bw:Nat),k<=N/\N-k<=e8/\n=min (8*k) z/\cp=I6 k/\ei=O bv n bw/\Xo (zc ah wr)/\Xo (zb byE (w.heap.size+1) wr (O bv n bw) ((Xu n).map (byD m b)))/\Xo (Zh plK wr B (Zz m.ca))/\Xo (zg wr co 131 [bt.x,I6 m.aB,bu.x,H.x,L.x,F.x,G.x,O (Xa t) g u,I6 m.cnt,D.x,K.x,.map (Xa B)]))
 exact⟨0,0,_,_,nZ _,Wm,Wm,rfl,rfl,de,dq,di,dm⟩
 obtain⟨k,n,bv,bw,ek,ee,d6,rfl,rfl,ce,cz,cw,cy⟩:=hrel;have cs:Xo (n=min (8*k) z):=d6;clear d6
 by_cases a4:k<N
 ·have aw:=kC a4
  have r:Xo (n=8*k):=dD<|Hm cs.out
  obtain⟨a1,bx⟩:∃a1,Xo (f.bl[k]?=Xa a1):=⟨_,gE (Rx cr.out a4)⟩
  have R:=c9.out wr B b k f a1 (a6.trans ce) bn bx Wm cw.out
  obtain⟨b9,bb,bd,be,bf,bg,bh,M,bi,bj,p,cq⟩:=cy.box.c12;go_wp2_with fail;refine R.mono ?_;clear R b9 bb bd be bf bg bh M bi bj p cq;rintro b8 d2⟨rfl,j,aj⟩;obtain⟨cn,ct⟩:=kA (z2 m (b:Int) (k:Int));obtain⟨c,c8⟩:∃c:Nat,Xo (c=min (z-8*k) 8):=⟨_,rfl⟩;have ar:c<=8:=Hm c8.out
  have X:Xo ((Xu n).map (byD m b)++cn.take c=(Xu (n+c)).map (byD m b)):=dD<|by
   rw[r.out,<-ct.out];exact zqw j ar
  rw[ct.out]at j⊢;have db:Xo (cn.length=8):=j;obtain⟨ay,az,b2,b3,b4,b5,b6,b7,rfl⟩:=zc4 cn j;simp only[pgc,mP,List.map_nil];go_upto_region 13 with fail;obtain⟨el,ad⟩:=kA d2.heap.size;obtain⟨dt,A⟩:=kB (d2.alloc (Xk #[U8 ay,U8 az,U8 b2,U8 b3,U8 b4,U8 b5,U8 b6,U8 b7] 91));have ak:=gP A
  have ds:=xP A ad
  have df:=dD ((ce.trans aj).trans ak);have dr:=dD ((cz.aA aj).aA ak);have dj:=dD ((cw.aA aj).aA ak);have dn:=dD ((cy.aA aj).aA ak);rw[A,ad.out];clear A aj ak j;have S:=zhX [ay,az,b2,b3,b4,b5,b6,b7] c dt rfl ar;have T:min ((z:Int)-(n:Int)) 8=(c:Int):=by have:=r.out;have:=c8.out;omega
  obtain⟨dx,dy,dz,e0,e1,e2,e3,e4⟩:=ds.c8;go_wp2_with fail;try rw[T]
  refine S.mono ?_;clear S T dx dy dz e0 e1 e2 e3 e4;rintro b8 d3⟨e9,rfl,P,al⟩;have cu:=dD (df.trans al);have ag:=dD (dr.aA al);have cv:=dD (dj.aA al);have cx:=dD (dn.aA al);have ac:Xo (zj byE d3 e9 ([ay,az,b2,b3,b4,b5,b6,b7].take c)):=P.at;have U:Xo (((Xu n).map (byD m b)).length=n):=show _=_ by simp
  have I:Xo (([ay,az,b2,b3,b4,b5,b6,b7].take c).length=c):=dD<|by rw[List.length_take];show min c 8=c;omega
  have cc:Xo (w.heap.size+1<=d3.heap.size):=dD<|by rw[<-s.out];exact bS cu.out
  generalize(Xu n).map (byD m b)=acc at ag X U
  generalize[ay,az,b2,b3,b4,b5,b6,b7].take c=a0 at ac X I
  clear P al
  go_wp2_with(at_builtin;refine zr (E:=byE) rfl (.tmp 44) (.tmp 51) rfl (w.heap.size+1) _ acc rfl ag _ a0 rfl ac.out ?qb ?qc ?_)
  case qb=>
   show(acc.length+a0.length)*1<=_
   have:=U.out;have:=I.out;have:=r.out;omega
  case qc=>exact cc.out
  intro em bq own v;obtain⟨bl,bm,ax⟩:=own.form;rw[show(acc++a0).length=n+c from by rw[lA,U.out,I.out]]at ax
  subst ax;have On:Xo (zb byE (w.heap.size+1) bq (O bl (n+c) bm) ((Xu (n+c)).map (byD m b))):=dD<|Ry X.out own
  have dg:Xo (zc ah bq):=dD<|zT cu v (fun ci cl=>by
   have eb:=(ag.lt ci cl).1;rw[s.out];exact eb)
  have dk:Xo (Zh plK bq B (Zz m.ca)):=cv.kept v (fun e=>by
   exact ag.bK cv _ e.symm rfl)
  have dp:Xo (zg bq co 131 [bt.x,I6 m.aB,bu.x,H.x,L.x,F.x,G.x,O (Xa t) g u,I6 m.cnt,D.x,K.x,.map (Xa B)]):=cx.beside v (fun ci cl=>ag.ne cx Dc ci cl)
  clear own v;go_wp2
  go_roundg (N-(k+1));exact⟨k+1,n+c,bl,bm,Wm,Wm,by have:=r.out;have:=c8.out;omega,Gn,rfl,dg,On,dk,dp⟩;omega
 have aw:=kD a4
 obtain rfl:n=z:=Hm cs.out
 have dd:Xo (Byt m (b:Int) w (Xl (Xm #[O bv n bw,I6 0])) wr):=⟨_,by rw[a8.out],by rw[bz.out];exact cz.base (Nat.le_succ _)⟩
 go_wp2
 go_ret2
 exact⟨dd,a6.trans ce⟩
def zo7(m:Ma)(file:Int)(i z:Nat)(er n:Int)(l:List Int)(m':Ma):Prop:=er=0/\n=(z:Int)/\l=((Zw m file).drop i).take z/\m'=m
theorem zpA{j i z e:Nat}{L:List Int}(h:zj byE W (O (Xa ⟨g,0,Xb⟩) L.length j) L)(s:i+z<=L.length):zj byE W (O (Xa ⟨g,i,Xb⟩) z e) ((L.drop i).take z):=by
 have hlen:((L.drop i).take z).length=z:=by simp;omega
 have f:=h.2;refine⟨⟨Xa ⟨g,i,Xb⟩,e,by rw[hlen],fun l=>(by cases l),fun y q=>?_⟩,by rw[hlen];have:z*byE.bytes<=L.length*byE.bytes:=Nat.mul_le_mul_right _ Wm;omega⟩
 cases q;intro k v a;have m:(((L.drop i).take z).flatMap byE.enc)=((L.drop i).take z).map fun x=>U8 x:=(List.map_eq_flatMap ..).symm
 rw[m,Xv]at a
 cases b:((L.drop i).take z)[k]? with
 |none=>rw[b]at a;cases a
 |some x=>
  rw[b]at a;cases a;have d:k<z:=by
   have:=(gS.1 b).1;omega
  rw[Ya d,List.getElem?_drop]at b;obtain⟨r,c,p⟩:=h.aZ (i+k) x b;cases c;have:=p W (zc.refl _) 0 _ rfl;rw[jh,Yd]at this;rw[Yd];have n:0+((i+k)*1+0)=i+k:=Wm
  rw[show byE.k=1 from rfl,n]at this
  exact this
theorem ChW.still{u w:Xn}{p:Nat}(h:ChW w0 noX p u V m)(b:zc u w)(a:zk (fun k=>u.heap.size<=k) w w')(c:zk (Aft w0 u w) w' W):zq W V m:=by
 refine h.bL ?_;refine⟨?_,?_,?_,?_,fun i d g=>?_⟩
 ·exact c.os.trans (a.os.trans (Below.os b))
 ·exact c.tape.trans (a.tape.trans (Below.tape b))
 ·exact c.output.trans (a.output.trans (Below.output b))
 ·exact nT (bS b) (nT a.size c.size)
 have f:=bS b;rw[c.block i (Xs d (nT f a.size)) (fun e=>by rcases e with e|e;exact g e;omega),a.block i Wm (fun e=>Wm)]
 exact Below.block b i d
theorem zmp{u w:Xn}{p:Nat}(E:ChW w0 noX p u V m)(a4:zc u w)(c:Cl)(i z:Nat)(hi:c.pt=(i:Int))(ar:c.n=(z:Int))(af:Zx m c.file=0)(ak:i+z<=(Zw m c.file).length)(Y:0<z):
  Xp prog 44 #[Xj (Xa ⟨p,0,Xb⟩),Xi #[I6 c.kind,I6 c.aC,I6 c.pt,I6 c.n,I6 c.file,I6 c.base,Xh c.rd,Xh c.wr,Xh c.sh,c.dv.x]] w fun e w'=>ZI (zo7 m c.file i z) w0 p u w e w':=by
 have a9:Xo (ChW w0 noX p u V m):=E;have s:Xo (zc u w):=a4;obtain⟨n,H⟩:=kA w.heap.size;obtain⟨a,f⟩:=kB ((w.alloc (Xk #[I6 c.kind,I6 c.aC,I6 c.pt,I6 c.n,I6 c.file,I6 c.base,Xh c.rd,Xh c.wr,Xh c.sh,c.dv.x] 25)).alloc (Xk #[I6 0,I6 0,eS] 54));have F:=gD2 f
 have P:Xo (zg a n 25 [I6 c.kind,I6 c.aC,I6 c.pt,I6 c.n,I6 c.file,I6 c.base,Xh c.rd,Xh c.wr,Xh c.sh,c.dv.x]):=dD<|by rw[<-f];exact(zg.aD w [I6 c.kind,I6 c.aC,I6 c.pt,I6 c.n,I6 c.file,I6 c.base,Xh c.rd,Xh c.wr,Xh c.sh,c.dv.x] _ H.symm).aA (za _ _)
 have A1:Xo (zg a (n+1) 54 [I6 0,I6 0,eS]):=dD<|by rw[<-f];exact zg.aD _ [I6 0,I6 0,eS] _ (by have:=H.out;simp;omega)
 have a7:Xo (n+1<a.heap.size):=A1.box.lt;have G:Xo (zc u a):=show zc _ _ from a4.trans F.out
 have d:Xo (zg a p 88 (chL V m)):=E.box.aA G.out;have N:Xo (p<u.heap.size):=E.aM p (.inl rfl);have B:Xo (u.heap.size<=n):=show _<=_ by rw[<-H.out];exact bS a4
 have az:Xo (w0.heap.size<=n):=dD<|by have:=E.lo;have:=N.out;have:=B.out;omega
 have aa:Xo (_=a):=f;have I:=P.box.c 2 rfl;have a0:=P.box.c 3 rfl;have ay:Xo (c.pt=(i:Int)):=hi;have b1:Xo (c.n=(z:Int)):=ar;rw[hi]at I;rw[ar]at a0;obtain⟨L,v⟩:=kA (Zw m c.file);rw[v.out]at ak;have a8:Xo (∀W,zc a W->Xp prog 89 #[Xi (mL V m).toArray,I6 c.file] W fun e w'=>(∃t:Sli,e=Xl (Xm #[t.x,I6 0])/\zb byE a.heap.size w' (t.x) L)/\zc W w'):=show∀W,_ from fun W r=>by
  refine(zng V m c.file W ((E.at.aA G).aA r) af).mono ?_;rintro e w'⟨⟨Z,rfl,T⟩,R⟩;rw[af];rw[v.out]at T;obtain⟨bk,bl,rfl⟩:=T.form;exact⟨⟨⟨bk,_,bl⟩,rfl,T.base (bS r)⟩,R⟩
 have h:Xo (i+z<=L.length/\0<z):=dD<|⟨ak,Y⟩
 have ah:decide ((i:Int)<0)=Xd:=decide_eq_false Wm
 have ai:decide ((z:Int)<0)=Xd:=decide_eq_false Wm
 clear f E a4 hi ar af ak Y
 go_enter func44,ntmps44
 go_upto_region 1 with fail;rw[aa.out,H.out];go_upto_region 3 with fail;clear ah ai I a0;have b0:Xo ((Tryz.prog.info? 45).map (·.size)=Xa (chL V m).length):=dD<|Kr
 have aq:=fun y:zf a=>(P.box.aA y.aA).c 4 rfl
 have b3:=fun y:zf a=>(d.box.aA y.aA).c 0 rfl
 have b4:=fun y:zf a=>(d.box.aA y.aA).c 1 rfl
 have b6:=fun y:zf a=>(d.box.aA y.aA).c 2 rfl
 have b7:=fun y:zf a=>(d.box.aA y.aA).c 3 rfl
 have b8:=fun y:zf a=>(d.box.aA y.aA).c 4 rfl
 have b9:=fun y:zf a=>(d.box.aA y.aA).c 5 rfl
 have ba:=fun y:zf a=>(d.box.aA y.aA).c 6 rfl
 have bb:=fun y:zf a=>(d.box.aA y.aA).c 7 rfl
 have bc:=fun y:zf a=>(d.box.aA y.aA).c 8 rfl
 have bd:=fun y:zf a=>(d.box.aA y.aA).c 9 rfl
 have ae:=fun y:zf a=>(d.box.aA y.aA).c 10 rfl
 have ao:Nonempty (zf a):=⟨⟨_,zc.refl _⟩⟩;refine qq [(6,⟨fun Z=>∃t:Sli,Z=Xm #[t.x,I6 0],fun Z W=>∃t:Sli,Z=Xm #[t.x,I6 0]/\zb byE a.heap.size W (t.x) L⟩)] zU Kr ?_ ?_ ?_
 ·intro x X;simp only[mC,nM,or_false]at X;subst X;exact⟨_,noS,rfl⟩
 ·intro x X;simp only[mC,nM,or_false]at X;subst X;rintro Z u bq R⟨t,a5,be⟩;exact⟨t,a5,be.aA R⟩
 refine qL rfl rfl rfl (fun b2 aw=>?_);go_big_quiet_op;refine aw _ ?_;clear aw b2
 refine Zj (.tmp 17) ⟨p,0,Xb⟩ rfl rfl rfl rfl ?_;refine Uq ?_;iterate 4 refine ze ?_
 refine zz rfl rfl (fun w' R ag=>?_) (fun br bh=>?_)
 ·refine zI.call [Xi (mL V m).toArray,I6 c.file] rfl func89 rfl rfl rfl ?_;refine(a8 w' R).mono ?_;rintro e bm⟨⟨t,rfl,T⟩,aj⟩;exact⟨_,rfl,aj,⟨t,rfl⟩,t,rfl,T⟩
 obtain⟨t,rfl⟩:=bh;refine Uq ?_;iterate 5 refine ze ?_
 refine zH fun ab Q ag=>?_
 obtain⟨au,U,l⟩:=ag 6;have ap:au=t:=by
  have a5:(Value.tuple #[t.x,I6 0])=Xm #[au.x,I6 0]:=U;simp only[Value.tuple.injEq,Array.mk.injEq,List.cons.injEq,vJ,and_true]at a5;obtain⟨bn,bo,bp⟩:=a5;cases t;cases au
  simp_all
 subst ap;clear U ag b3 b4 b6 b7 b8 b9 ba bb bc bd ae aq ao;have g:Xo (zc a ab):=Q;have I:=(P.aA Q).box.c 2 rfl;have a0:=(P.aA Q).box.c 3 rfl;rw[ay.out]at I;rw[b1.out]at a0;have A2:=dD (A1.aA Q);have b:=l.cap;obtain⟨C,q,j⟩:=l.aJ (Hm h.out)
 have A:Xo (zb byE a.heap.size ab (O (Xa ⟨C,0,Xb⟩) L.length q) L):=dD<|Ry j l
 rw[j]at b;have b:L.length<=q:=b;rw[j];obtain⟨a6,M⟩:=kA L.length;have bf:i+z<=a6:=Ry M.out h.1
 have bj:0<z:=h.2;rw[M.out]at b⊢;clear Q l j;have am:min (i:Int) (a6:Int)=(i:Int):=Wm
 have an:min (z:Int) ((a6-i:Nat):Int)=(z:Int):=Wm
 have bi:z<=a6-i:=Wm
 go_upto_region 8 with fail;clear I a0 am an
 go_wp2_with(refine zh rfl 54 (.tmp 4) (.tmp 47) rfl (n+1) rfl [I6 0,I6 (z:Int),O (Xa ⟨C,i,Xb⟩) z (q-i)] rfl A2 rfl Kr (by simp[Value.oneCell']) ?_)
 intro ac av D _;have ax:Xo (zg ac (n+1) 54 [I6 0,I6 (z:Int),O (Xa ⟨C,i,Xb⟩) z (q-i)]):=av;have K:Xo (ZI (zo7 m c.file i z) w0 p u w (Xl (Qk 0 (z:Int) ⟨Xa ⟨C,i,Xb⟩,z,q-i⟩)) ac):=show ZI _ _ _ _ _ _ _ from by
  have al:∀k,(O (Xa ⟨C,0,Xb⟩) L.length q).ownBlock=Xa k->a.heap.size<=k:=fun k S=>(A.lt k S).1
  have ad:∀W,zk (Aft w0 u w) ac W->zk (fun k=>k<a.heap.size) ab W:=fun W r=>(zk.grown D a7).trans (r.wide fun k S=>by
   have:=bS F.out;have:=bS a9.gr;have:=bS s.out
   rcases S with e|e
   ·omega
   have:=e.2
   omega)
  refine⟨0,(z:Int),⟨Xa ⟨C,i,Xb⟩,z,q-i⟩,(L.drop i).take z,V,m,rfl,⟨rfl,rfl,by rw[v.out],rfl⟩,(zk.aA (F.trans g)).beyond D (Hm H.out),zd (((a9.gr.trans s).trans F).trans g) D (Hm az.out),fun W r=>?_,fun _=>⟨(d.aA g).beside D (fun k e=>by cases e;have:=N.out;have:=B.out;omega),fun W r=>?_⟩⟩
  ·have bg:zb byE a.heap.size W (O (Xa ⟨C,0,Xb⟩) L.length q) L:=⟨ji A.1 (ad W r) (fun k S e=>Hm (al k S)),A.2⟩
   exact zpA bg.at h.1
  exact a9.still (w:=w) s (((zk.aA (F.trans g))).trans (zk.grown D (Hm B.out))) r
 clear av D;go_wp2;refine bodyPost_ret (zB rfl _ rfl ax.box underlying54 rfl Kr) rfl K.out
theorem zjU(w:Xn)(m:Ma)(c:Cl)(i z:Nat)(f:c.kind=9)(j:0<=c.file/\c.file<(m.fl.length:Int))(hi:c.pt=(i:Int))(n:c.n=(z:Int))(b:Zx m c.file=0)(k:i+z<=(Zw m c.file).length)(a:0<z):Ql w m c (zo7 m c.file i z):=by
 intro t W s p v r h l;obtain⟨g,rfl,e⟩:=l.2.2.2.2.2.2.2.2.1 f;exact⟨88,#[Xj (Xa ⟨g,0,Xb⟩)],rfl,JR,zaV h c j g 44 _ (enters_of func44 Kr rfl) e fun q d=>zmp h d c i z hi n b k a⟩
def chF(f g:Nat->On)(s e:Nat):Nat->On:=fun j=>if s<=j/\j<e then g j else f j
theorem zoW(f g:Nat->On)(s:Nat):chF f g s s=f:=by
 funext j
 unfold chF;rw[kF Wm]
theorem zq4(f g:Nat->On)(s k:Nat):qv (chF f g s k) k=qv f k:=by
 unfold qv chF;rw[kF Wm]
theorem zoX(f g:Nat->On){s k:Nat}(h:s<=k):upd (qv (chF f g s k)) k (Q8 k (g k))=qv (chF f g s (k+1)):=by
 funext j
 unfold upd qv chF
 by_cases e:j=k
 ·subst e;rw[kE rfl,kE Wm]
 rw[kF e]
 congr 1
 by_cases h:s<=j/\j<k
 ·rw[kE h,kE Wm]
 rw[kF h,kF Wm]
theorem ziB(v:Xq)(l:List Ar)(s n:Nat)(F:Nat)(i:Array Xq)(g:Nat->On)(w:Xn)(aj:zj arE w v l)(D:Qd Xb l)(a1:s<=n)(b7:n<=64)(m:znK (chF (zN l) g s n))(ad:Enters prog F)
  (c:∀W(k:Nat),zc w W->s<=k->k<n->Xp prog F (#[I6 (k:Int),arA (qv (zN l) k)]++i) W fun e w'=>e=Xl (arA (Q8 k (g k)))/\zc W w'):
  Xp prog 130 #[v,I6 (s:Int),I6 (n:Int),.func (.func F) #[] i] w fun e w'=>(∃u,e=Xl (Xm #[u,I6 (zip (chF (zN l) g s n)).2])/\zb arE w.heap.size w' u (zip (chF (zN l) g s n)).1)/\zc w w':=by
 have P:=zj8 v l w aj D;have t:Xo (∀W,Xp prog 171 #[Xi (qo (tab (qv (chF (zN l) g s n)))).toArray] W fun e w'=>(∃v,e=Xl v/\zb arE (W.heap.size+1) w' v (zbL (chF (zN l) g s n)))/\zc W w'):=fun W=>zks _ W m
 have K:Xo _:=c;have an:Xo (∀(h:Array Xq)(w:Xn),(callFunc F h).run prog w=.ok (.enter F h) w):=ad;have f:Xo (¬16<(zbL (chF (zN l) g s n)).length->zip (chF (zN l) g s n)=(zbL (chF (zN l) g s n),0)):=fun I=>by unfold zip;rw[kF I]
 have d:Xo (16<(zbL (chF (zN l) g s n)).length->zip (chF (zN l) g s n)=([],4)):=fun I=>by unfold zip;rw[kE I]
 have j:Xo ((zbL (chF (zN l) g s n)).length<=64):=(zib m).len;have U:Xo (qv (zN l)=qv (chF (zN l) g s s)):=show _=_ by rw[zoW]
 clear aj D m c ad;obtain⟨a4,M⟩:=kA (zip (chF (zN l) g s n));simp only[M.out]at f d⊢;obtain⟨G,N⟩:=kA (zbL (chF (zN l) g s n));simp only[N.out]at f d j t;have ak:=zf9;obtain⟨ab,y⟩:=kA (qo (tab fun _=>ar0))
 rw[y.out]at ak;have z:Xo (ab.length=448):=dD<|by rw[<-y.out,QL]
 have Q:Xo ((qo (tab (qv (zN l)))).length=448):=QL _;have R:Xo (∀v∈qo (tab (qv (zN l))),v.oneCell'=Xc):=zey _
 go_enter func130,ntmps130
 go_wp2_with fail;refine P.mono ?_;rintro e H⟨rfl,ae⟩;have a5:Xo (zc w H):=ae;clear ae;obtain⟨r,a7⟩:=kA H.heap.size;have x:Xo (w.heap.size<=r):=show _<=_ by rw[<-a7.out];exact bS a5.out
 go_upto_region 2 with(refine zx rfl 233 (.tmp 10) (.tmp 14) rfl H.heap.size rfl (qo (tab (qv (zN l)))) rfl (Box.aD H ab 233 rfl) (by rw[Q.out,z.out]) (Rx z.out zr2) R.out ?_)
 intro a9 X Y b1;rw[a7.out]at X Y⊢;have ao:Xo (zc w a9):=zd (a5.trans (za _ _)) Y x.out;have av:Xo (Box a9 r (qo (tab (qv (chF (zN l) g s s))))):=show Box _ _ _ by rw[<-U.out];exact X
 clear X Y b1 ak;go_wp2
 go_loopg[11] (n-s) (fun az a3 wr=>∃a:Nat,s<=a/\a<=n/\n-a<=az/\a3=I6 a/\Xo (zc w wr)/\Xo (Box wr r (qo (tab (qv (chF (zN l) g s a))))))
 exact⟨s,nR _,a1,Wm,rfl,ao,av⟩
 obtain⟨a,B,b0,b6,rfl,E,V⟩:=hrel
 by_cases p:a<n
 ·have C:=kC p
  have A:a<64:=Wm
  have ah:(a:Int)<64:=Wm
  have au:Xo (arA (qv (chF (zN l) g s a) a)=arA (qv (zN l) a)):=dD<|by rw[zq4]
  have T:Xo (upd (qv (chF (zN l) g s a)) a (Q8 a (g a))=qv (chF (zN l) g s (a+1))):=zoX _ _ B
  go_wp2_with(refine zjS rfl (.tmp 25) rfl r a A rfl V au.out ?_)
  rw[an.out];refine(K wr a E B p).mono ?_;rintro e b5⟨rfl,Z⟩;have ap:=dD (E.trans Z);have aw:=dD (V.aA Z);clear Z
  go_wp2_with(refine zdZ rfl (.tmp 28) (.tmp 27) rfl r a A rfl (Q8 a (g a)) rfl aw.out ?_)
  intro aa ac af b3;have ax:Xo (Box aa r (qo (tab (qv (chF (zN l) g s (a+1)))))):=dD<|Ry T.out ac
  have aq:Xo (zc w aa):=zd ap af x.out;clear ac af b3;go_wp2
  go_roundg (n-(a+1));exact⟨a+1,Wm,Wm,Wm,Gn,aq,ax⟩;omega
 have C:=kD p
 have:a=n:=Wm
 subst this;have L:Xo ((qo (tab (qv (chF (zN l) g s a)))).length=448):=QL _
 go_wp2_with(refine zm rfl 233 (.tmp 10) rfl r rfl V underlying233 rfl (Rx L.out zr2) ?_)
 refine(t wr).mono ?_;rintro e ay⟨⟨u,rfl,q⟩,ag⟩;obtain⟨al,am,rfl⟩:=q.form;have a6:=dD (E.trans ag);have a8:Xo (zb arE w.heap.size ay (O al G.length am) G):=q.base (nT (bS E) (Nat.le_succ _));clear ag q;obtain⟨a2,ar⟩:=kA G.length;rw[ar.out]at f d j a8⊢;have ai:a2<=64:=j.out
 by_cases b:16<a2
 ·have a0:=kC b
  have S:Xo (a4=([],4)):=d.out b;go_wp2;refine bodyPost_ret (v:=Xm #[eS,I6 4]) (by simp[results,Tryz.results130]) rfl ?_
  rw[S.out];exact⟨⟨_,rfl,zb.nil _ _ _⟩,a6⟩
 have a0:=kD b
 have S:Xo (a4=(G,0)):=f.out b;go_wp2;refine bodyPost_ret (v:=Xm #[O al a2 am,I6 0]) (by simp[results,Tryz.results130]) rfl ?_
 rw[S.out];exact⟨⟨_,rfl,a8⟩,a6⟩
theorem zoj(a q:Ar)(k c:Nat)(w:Xn)(p:Box w c [I6 a.fr,I6 a.tz,Xh a.rd,Xh a.wr,Xh a.sh,I6 a.file,I6 a.base])(n:jK a)(r:k<64):
  Xp prog 131 #[I6 (k:Int),Xi #[I6 q.fr,I6 q.tz,Xh q.rd,Xh q.wr,Xh q.sh,I6 q.file,I6 q.base],Xj (Xa ⟨c,0,Xb⟩)] w fun e w'=>e=Xl (arA (Q8 k (qg a k)))/\zc w w':=by
 have h:∀W,Xp prog 132 #[Xi #[I6 a.fr,I6 a.tz,Xh a.rd,Xh a.wr,Xh a.sh,I6 a.file,I6 a.base],I6 (k:Int)] W fun e w'=>e=Xl (arA (Q8 k (qg a k)))/\zc W w':=fun W=>zi8 a k W n r
 obtain⟨x,s⟩:=kB (Q8 k (qg a k));simp only[s]at h⊢;clear s n r;obtain⟨i,b⟩:=kB ((w.alloc (Xk #[I6 q.fr,I6 q.tz,Xh q.rd,Xh q.wr,Xh q.sh,I6 q.file,I6 q.base] 125)).alloc (Xk #[I6 0,I6 0,Xh Xd,Xh Xd,Xh Xd,I6 0,I6 0] 125));have d:=gD2 b
 have y:Xo (Box i c [I6 a.fr,I6 a.tz,Xh a.rd,Xh a.wr,Xh a.sh,I6 a.file,I6 a.base]):=dD<|by rw[<-b];exact(p.alloc _).alloc _
 have z:=x2b b
 have f:Xo (_=i):=b;clear b p
 go_enter func131,ntmps131
 go_upto_region 1 with fail;rw[f.out]
 go_wp2_with(refine zm rfl 125 (.tmp 2) rfl c rfl y underlying125 rfl zr0 ?_)
 refine(h _).mono ?_;rintro e C⟨rfl,g⟩;have u:=dD (d.trans g);have A:=dD (z.aA g);clear g
 go_wp2_with(refine zx rfl 125 (.tmp 5) (.tmp 8) rfl (w.heap.size+1) rfl (arv x) rfl A rfl zr0 (arE.one x) ?_)
 intro j l m B;have v:Xo (zc w j):=zd u m Sm
 have t:Xo (Box j (w.heap.size+1) (arv x)):=l;clear l m B;go_wp2;refine bodyPost_ret (zB rfl _ rfl t underlying125 rfl zr0) rfl ⟨rfl,v⟩
theorem zmS(x y:Int)(w:Xn):(Instr.field 187 (Xi #[I6 x,I6 y]) 0).run prog w=.ok (I6 x) w:=by
 simp only[Instr.field,Sem.run_bind,run_underlying underlying187,rA,asAgg];exact run_part_plain w (by simp[Program.plainKey,underlying47]) rfl
theorem zpm(l:List Ar){a:Ar}(c:jK a):chF (zN l) (qg a) a.fr.toNat a.tz.toNat=zlj l a:=by
 unfold jK at c
 funext j
 unfold chF zlj
 by_cases h:Jc a j=Xc
 ·have:=jg.1 h;rw[kE h,kE Wm]
 have d:¬(a.fr<=(j:Int)/\(j:Int)<a.tz):=fun b=>h (jg.2 b)
 rw[kF h,kF Wm]
def zrE(R:List Ar×Int)(w:Xn)(e:Ending)(w':Xn):Prop:=(∃u,e=Xl (Xm #[u,Xe Xf R.2])/\zb arE w.heap.size w' u R.1)/\zc w w'
theorem zru{a:Ar}{v:Xq}{w:Xn}{c:Nat}(n:zj arE w v l)(f:Qd Xb l)(b:jK a)(j:zc w W)(m:Box W c [I6 a.fr,I6 a.tz,Xh a.rd,Xh a.wr,Xh a.sh,I6 a.file,I6 a.base]):
  Xp prog 130 #[v,I6 a.fr,I6 a.tz,.func (.func 131) #[] #[Xj (Xa ⟨c,0,Xb⟩)]] W fun e w'=>(∃u,e=Xl (Xm #[u,I6 (zip (zlj l a)).2])/\zb arE W.heap.size w' u (zip (zlj l a)).1)/\zc W w':=by
 have d:=b;unfold jK at d;have h:=ziB v l a.fr.toNat a.tz.toNat 131 #[Xj (Xa ⟨c,0,Xb⟩)] (qg a) W (n.aA j) f Wm Wm (by rw[zpm l b];exact zml f b) (enters_of func131 Kr rfl) (fun g k i p q=>zoj a (qv (zN l) k) k c g (m.aA i) b Wm)
 rw[zpm l b,show((a.fr.toNat:Nat):Int)=a.fr by omega,show((a.tz.toNat:Nat):Int)=a.tz by omega]at h
 exact h
theorem zpT(v:Xq)(l:List Ar)(a:Ar)(w:Xn)(a3:zj arE w v l):
  Xp prog 76 #[v,Xi #[I6 a.fr,I6 a.tz,Xh a.rd,Xh a.wr,Xh a.sh,I6 a.file,I6 a.base]] w (zrE (zhq l a) w):=by
 have L:Xo (zj arE w v l):=a3;have af:=zmS;have ag:∀(a0:Fn)(first A:Array Xq)(w:Xn),(Instr.makeFunc a0 first A).run prog w=.ok (.func a0 first A) w:=fun _ _ _ _=>rfl
 have x:Xo (∀W,zc w W->Xp prog 117 #[v] W fun e j=>e=Xl (Xi #[I6 (wrL l).1,I6 (wrL l).2])/\zc W j):=fun W B=>zcC v l W (L.aA B)
 have m:Xo (∀W,Xp prog 129 #[Xi #[I6 a.fr,I6 a.tz,Xh a.rd,Xh a.wr,Xh a.sh,I6 a.file,I6 a.base]] W fun e j=>e=Xl (I6 (arW a))/\zc W j):=fun W=>zaH a W
 clear a3;obtain⟨E,g⟩:=kB (w.alloc (Xk #[I6 a.fr,I6 a.tz,Xh a.rd,Xh a.wr,Xh a.sh,I6 a.file,I6 a.base] 125));have c:=gA g
 have Z:=xA g
 have k:Xo (_=E):=g;clear g
 by_cases h:(wrL l).1=0
 ·rw[h]at x
  generalize(wrL l).2=I at x
  by_cases b:arW a=0
  ·rw[b]at m;have a9:Xo (l.length<=16/\Qd Xb l):=JD.1 h;have X:Xo (jK a):=zbm.1 b;obtain⟨s,n,S,a2,t,R⟩:∃s n:Nat,(s:Int)=a.fr/\(s:Int)+(n:Int)=a.tz/\s+n<=64/\1<=n:=⟨a.fr.toNat,a.tz.toNat-a.fr.toNat,by have:=X.out;unfold jK at this;omega⟩
   have aa:Xo (∀W,zc w W->Xp prog 128 #[v,I6 a.fr,I6 a.tz] W fun e j=>e=Xl (I6 (jJ l s n:Int))/\zc W j):=fun W B=>by
    have:=zlE v l s n W (L.aA B) t;rw[a2,S]at this;exact this
   have d:=zna (l:=l) t;rw[S,show(n:Int)=a.tz-a.fr by omega]at d
   have i:=zg4 l s n;have a8:Xo (∀W,zc w W->Box W w.heap.size [I6 a.fr,I6 a.tz,Xh a.rd,Xh a.wr,Xh a.sh,I6 a.file,I6 a.base]->Xp prog 130 #[v,I6 a.fr,I6 a.tz,.func (.func 131) #[] #[Xj (Xa ⟨w.heap.size,0,Xb⟩)]] W fun e j=>(∃H,e=Xl (Xm #[H,I6 (zip (zlj l a)).2])/\zb arE W.heap.size j H (zip (zlj l a)).1)/\zc W j):=fun W B ae=>zru L a9.2 X B ae
   have u:Xo (zhq l a=if zqE l a.fr (a.tz-a.fr)=Xc then([],6)else zip (zlj l a)):=dD<|by unfold zhq;rw[kF (fun p=>p h),kF (fun p=>p b)]
   clear h b S a2 t R
   go_enter func76,ntmps76
   go_upto_region 1 with fail;rw[k.out];go_wp2_with fail;refine(x E c).mono ?_;rintro e F⟨rfl,f⟩;have z:=dD (c.trans f);have G:=dD (Z.aA f);clear f
   go_wp2_with(refine zm rfl 125 (.tmp 3) rfl w.heap.size rfl G underlying125 rfl zr0 ?_)
   refine(m F).mono ?_;rintro e Y⟨rfl,y⟩;have C:=dD (z.trans y);have M:=dD (G.aA y);clear y;obtain⟨U,V⟩:=M.k2;go_wp2_with fail;refine(aa Y C).mono ?_;rintro e ac⟨rfl,P⟩;have D:=dD (C.trans P);have N:=dD (M.aA P);clear P U V
   cases r:zqE l a.fr (a.tz-a.fr)with
   |true=>
    have q:(0:Int)<(jJ l s n:Int):=by
     have:jJ l s n≠0:=fun p=>by rw[d.1 p]at r;cases r
     omega
    have K:Xo (zhq l a=([],6)):=dD<|by rw[u.out,r,kE rfl]
    clear r d i
    generalize jJ l s n=a5 at q
    go_wp2;refine bodyPost_ret (results_tmp2 rfl _ _ _) rfl ?_;rw[K.out];exact⟨⟨_,rfl,zb.nil _ _ _⟩,D⟩
   |false=>
    have Q:jJ l s n=0:=d.2 r;have q:¬(0:Int)<(jJ l s n:Int):=Wm
    have K:Xo (zhq l a=zip (zlj l a)):=dD<|by rw[u.out,r,kF Dc]
    clear r d i Q
    generalize jJ l s n=a5 at q
    obtain⟨U,V⟩:=N.k2;go_wp2_with fail;refine(a8 ac D N).mono ?_;rintro e ad⟨⟨H,rfl,a4⟩,a1⟩;have a7:=dD (D.trans a1);have ab:Xo (zb arE w.heap.size ad H (zip (zlj l a)).1):=a4.base (bS D);clear a1 a4 U V;go_wp2;refine bodyPost_ret (results_tmp2 rfl _ _ _) rfl ?_;rw[K.out];exact⟨⟨_,rfl,ab⟩,a7⟩
  have T:(arW a !=0)=Xc:=by simp[b]
  have u:Xo (zhq l a=([],arW a)):=dD<|by unfold zhq;rw[kF (fun p=>p h),kE b]
  clear h b
  generalize arW a=a6 at*
  go_enter func76,ntmps76
  go_upto_region 1 with fail;rw[k.out];go_wp2_with fail;refine(x E c).mono ?_;rintro e F⟨rfl,f⟩;have z:=dD (c.trans f);have G:=dD (Z.aA f);clear f
  go_wp2_with(refine zm rfl 125 (.tmp 3) rfl w.heap.size rfl G underlying125 rfl zr0 ?_)
  refine(m F).mono ?_;rintro e Y⟨rfl,y⟩;have C:=dD (z.trans y);clear y;go_wp2;refine bodyPost_ret (results_tmp2 rfl _ _ _) rfl ?_;rw[u.out];exact⟨⟨_,rfl,zb.nil _ _ _⟩,C⟩
 have T:((wrL l).1 !=0)=Xc:=by simp[h]
 have u:Xo (zhq l a=([],(wrL l).1)):=dD<|by unfold zhq;rw[kE h]
 clear h
 generalize(wrL l).2=I at x
 generalize(wrL l).1=a6 at*
 go_enter func76,ntmps76
 go_upto_region 1 with fail;rw[k.out];go_wp2_with fail;refine(x E c).mono ?_;rintro e F⟨rfl,f⟩;have z:=dD (c.trans f);clear f;go_wp2;refine bodyPost_ret (results_tmp2 rfl _ _ _) rfl ?_;rw[u.out];exact⟨⟨_,rfl,zb.nil _ _ _⟩,z⟩
def A0:Ar:=⟨2,8,Xc,Xd,Xd,-1,0⟩
def A1:List Ar:=[⟨2,4,Xc,Xd,Xd,-1,0⟩,⟨5,8,Xc,Xd,Xd,-1,0⟩]
def A2:List Ar:=[⟨2,4,Xc,Xc,Xd,-1,0⟩,⟨4,8,Xc,Xd,Xd,-1,0⟩]
variable{X:Nat->Prop}
def arC(c:Cl):Ar:=⟨c.pt,c.pt+c.n,c.rd,c.wr,c.sh,c.file,c.base⟩
def znm(m:Ma)(q:Nat)(s:Sp)(l:List Ar):Ma:={m with sp:=m.sp.set q {s with aE:=l}}
def zqH(m:Ma)(c:Cl)(er n:Int)(l:List Int)(m':Ma):Prop:=
 l=[]/\∃(q:Nat)(s:Sp),J7 m c.aC q s/\er=(zhq s.aE (arC c)).2/\(er=0->n=c.pt/\m'=znm m q s (zhq s.aE (arC c)).1)
theorem zoi{u w:Xn}{p q:Nat}{x y:SpV}{s:Sp}{xs:List SpV}{b:Sli}(h:ChW w0 X p u V m)(s1:zb Q4 w0.heap.size u (V.sp.x) xs)(s2:xs.length=m.sp.length)(s3:∀(i:Nat)x s,xs[i]?=Xa x->m.sp[i]?=Xa s->∀W,zk (Dr w0.heap.size X p V) u W->j3 W x s)(N:xs[q]?=Xa x)(M:m.sp[q]?=Xa s)(j:oB V.sp g)
  (H:zc u w)(U:zc w w1)(B:zb arE w.heap.size w1 (b.x) l)(G:w1.grownBy w2 (Xa g))(Q:zb Q4 w0.heap.size w2 (V.sp.x) (xs.set q y))(a0:y.aH=x.aH/\y.ar=b/\y.tab=x.tab)(f:zk (Aft w0 u w) w2 W):zq W V (znm m q s l):=by
 have Z:=(s1.lt g j).2;have Y:=(s1.lt g j).1;have I:=bS H;have P:zk (fun k=>k<w0.heap.size\/k=g) u W:=by
  have n:zk (fun k=>k<w0.heap.size\/k=g) u w2:=(zk.aA (H.trans U)).trans (zk.grown G (.inr rfl))
  refine⟨f.os.trans n.os,f.tape.trans n.tape,f.output.trans n.output,nT n.size f.size,fun i L v=>?_⟩
  rw[f.block i (Xs L n.size) (fun e=>by rcases e with e|e;exact v (.inl e);omega)]
  exact n.block i L v
 have C:zk (Dr w0.heap.size X p V) u W:=P.wide fun k c=>c.elim (fun e=>.inl (.inl e)) fun e=>by cases e;exact .inr (.inr (.inr (.inr j)))
 have r:=h.rest W C;have own:∀{S:Type}{F:Elt S}{z:Sli}{l:List S},zb F w0.heap.size u (z.x) l->(∀k,oB z k->¬oB V.sp k)->zj F W (z.x) l:=fun A v=>zb.at ⟨ji A.1 P (fun k c e=>by
  rcases e with e|e
  ·have:=(A.lt k c).1;omega
  cases e;exact v _ c j),A.2⟩
 have t:zb arE w.heap.size W (b.x) l:=by
  refine⟨ji (D:=fun k=>k<w.heap.size) B.1 ((zk.grown G Wm).trans (f.wide fun k c=>?_)) (fun k c e=>?_),B.2⟩
  ·rcases c with e|e
   ·have:=bS h.gr;omega
   exact e.2
  have:=(B.lt k c).1;omega
 refine⟨own h.fs h.fS,r.sl,r.sb,r.sq,r.db,r.dq,r.fl,own h.ca h.cS,xs.set q y,zb.at ⟨ji Q.1 f (fun k c e=>?_),Q.2⟩,by simp[znm,s2],fun i a1 E d a=>?_⟩
 ·have T:k=g:=by
   have K:oB V.sp k:=c;unfold oB at K j;rw[K]at j;cases j;rfl
  subst T
  rcases e with e|e<;>omega
 by_cases e:i=q
 ·subst e;rw[sF (gS.1 N).1]at d;have a:(m.sp.set i {s with aE:=l})[i]?=Xa E:=a;rw[sF (gS.1 M).1]at a;cases d;cases a;have k:=s3 i x s N M W C;obtain⟨a2,R,a3⟩:=a0;refine⟨a2.trans k.aH,Rx R t.at,?_,Rx a3 k.tb⟩
  rw[R];exact t.cap
 rw[sN (fun h=>e h.symm)]at d
 have a:(m.sp.set q {s with aE:=l})[i]?=Xa E:=a;rw[sN (fun h=>e h.symm)]at a
 exact s3 i a1 E d a W C
variable{X:Nat->Prop}
theorem zoo{w0 u w:Xn}{p:Nat}{V:MaV}{m:Ma}(h:ChW w0 X p u V m)(gu:zc u w)(c:Cl)(hlv:∃q s,J7 m c.aC q s)(h1:0<=c.pt)(h2:1<=c.n)(h3:c.n<=64-c.pt)(h4:-1<=c.file)(h5:c.file<(m.fl.length:Int)):
  Xp Tryz.prog 35 #[Xj (Xa ⟨p,0,Xb⟩),Xi #[Xe Xf c.kind,Xe Xf c.aC,Xe Xf c.pt,Xe Xf c.n,Xe Xf c.file,Xe Xf c.base,Xh c.rd,Xh c.wr,Xh c.sh,O c.dv.a c.dv.n c.dv.c]] w fun e w'=>ZI (zqH m c) w0 p u w e w':=by
 obtain⟨q,s,hpq,hs,hlive⟩:=hlv;have HM:Xo (ChW w0 X p u V m):=h;have HGU:Xo (zc u w):=gu;have HLV:Xo (J7 m c.aC q s):=show J7 _ _ _ _ from⟨hpq,hs,hlive⟩
 obtain⟨b,HB⟩:∃b,Xo (w.heap.size=b):=⟨_,rfl⟩;obtain⟨W1,hW1⟩:∃W1,(w.alloc (Xk #[Xe Xf c.kind,Xe Xf c.aC,Xe Xf c.pt,Xe Xf c.n,Xe Xf c.file,Xe Xf c.base,Xh c.rd,Xh c.wr,Xh c.sh,O c.dv.a c.dv.n c.dv.c] 25)).alloc (Xk #[Xe Xf 0,Xe Xf 0,O Xb 0 0] 54)=W1:=⟨_,rfl⟩;have G1:=gD2 hW1
 have X1:Xo (zg W1 b 25 [Xe Xf c.kind,Xe Xf c.aC,Xe Xf c.pt,Xe Xf c.n,Xe Xf c.file,Xe Xf c.base,Xh c.rd,Xh c.wr,Xh c.sh,O c.dv.a c.dv.n c.dv.c]):=show zg _ _ _ _ by rw[<-hW1];exact(zg.aD w [Xe Xf c.kind,Xe Xf c.aC,Xe Xf c.pt,Xe Xf c.n,Xe Xf c.file,Xe Xf c.base,Xh c.rd,Xh c.wr,Xh c.sh,O c.dv.a c.dv.n c.dv.c] _ HB.out.symm).aA (za _ _)
 have A1:Xo (zg W1 (b+1) 54 [Xe Xf 0,Xe Xf 0,O Xb 0 0]):=show zg _ _ _ _ by rw[<-hW1];exact zg.aD _ [Xe Xf 0,Xe Xf 0,O Xb 0 0] _ (by have:=HB.out;simp;omega)
 have HBL:Xo (b+1<W1.heap.size):=A1.out.box.lt;have GU1:Xo (zc u W1):=show zc _ _ from gu.trans G1.out
 have P1:Xo (zg W1 p 88 (chL V m)):=h.box.aA GU1.out;have HPU:Xo (p<u.heap.size):=h.aM p (.inl rfl);have HUB:Xo (u.heap.size<=b):=show _<=_ by rw[<-HB.out];exact bS gu
 have HW1:Xo (_=W1):=hW1;obtain⟨xs,s1,s2,s3⟩:=h.sp;obtain⟨x,hx⟩:∃x,xs[q]?=Xa x:=⟨_,gE (by rw[s2];exact(gS.1 hs).1)⟩
 obtain⟨gs,cc,heq⟩:=s1.aJ (by have:=(gS.1 hx).1;omega)
 have HOB:Xo (oB V.sp gs):=show(O V.sp.a V.sp.n V.sp.c).ownBlock=Xa gs by rw[heq];rfl
 have HS1:Xo (zb Q4 w0.heap.size u (O V.sp.a V.sp.n V.sp.c) xs):=s1;have HS2:Xo (xs.length=m.sp.length):=s2;have HS3:Xo (∀(i:Nat)x s,xs[i]?=Xa x->m.sp[i]?=Xa s->∀W,zk (Dr w0.heap.size X p V) u W->j3 W x s):=s3;have HX:Xo (xs[q]?=Xa x):=hx;have HS:Xo (m.sp[q]?=Xa s):=hs;have HSP:Xo (j3 W1 x s):=s3 q x s hx hs W1 (zk.aA GU1.out);have HGS:Xo (w0.heap.size<=gs/\gs<u.heap.size):=s1.lt gs HOB.out;have hq10:=P1.out.box.c 10 rfl;have hql:(q:Int)<(xs.length:Int):=by have:=(gS.1 hx).1;omega
 have HSO:Xo (zb Q4 w0.heap.size W1 (O (Xa ⟨gs,0,Xb⟩) xs.length cc) xs):=show zb _ _ _ _ _ by rw[<-heq];exact s1.aA GU1.out
 rw[heq]at hq10;have HEQ:Xo (O V.sp.a V.sp.n V.sp.c=O (Xa ⟨gs,0,Xb⟩) xs.length cc):=heq;have hfl:=h.at.fl.n;obtain⟨fn,HFN⟩:∃fn,Xo (m.fl.length=fn):=⟨_,rfl⟩;have HFV:Xo (V.fl.n=fn):=show _=_ by rw[hfl];exact HFN.out
 rw[HFN.out]at h5;obtain⟨sn,HSN⟩:∃sn,Xo (xs.length=sn):=⟨_,rfl⟩;rw[HSN.out]at hq10 hql;have hx1:=X1.out.box.c 1 rfl;rw[hpq]at hx1;have hx2:=X1.out.box.c 2 rfl;have hx3:=X1.out.box.c 3 rfl;have hx4:=X1.out.box.c 4 rfl;have HPQ:Xo (c.aC=(q:Int)):=hpq;have hd1:decide (c.pt<0)=Xd:=decide_eq_false (by omega)
 have hd2:decide (c.n<1)=Xd:=decide_eq_false (by omega)
 have hd3:decide (64-c.pt<c.n)=Xd:=decide_eq_false (by omega)
 have hd4:decide (c.file< -1)=Xd:=decide_eq_false (by omega)
 have hd5:decide ((fn:Int)<=c.file)=Xd:=decide_eq_false (by omega)
 have hpt:c.pt<=63:=by omega
 have HPN:Xo (0<=c.pt/\c.pt<=63/\1<=c.n/\c.n<=64):=show _/\_/\_/\_ from⟨h1,hpt,h2,by omega⟩
 clear hW1 h gu hpq hs hlive s1 s2 s3 hx heq hfl h2 h3 h4 h5
 go_enter Tryz.func35,Tryz.ntmps35
 go_upto_region 1 with fail;rw[HW1.out,HB.out];clear HW1;go_quiet(fail);obtain⟨W2,hW2⟩:∃W2,W1.drewN nq=W2:=⟨_,rfl⟩;have g12:zc W1 W2:=by rw[<-hW2];exact(show Below _ _ _ from bD (bR _ _) _)
 rw[hW2];have G12:Xo (zc W1 W2):=g12;have hx3:=(X1.out.aA g12).box.c 3 rfl;have hx4:=(X1.out.aA g12).box.c 4 rfl;have hf7:W2.cell? ⟨p,7,Xb⟩=Xa (O V.fl.a fn V.fl.c):=by rw[<-HFV.out];exact(P1.out.aA g12).box.c 7 rfl
 clear hW2 g12 hx1 hx2 hq10;go_upto_region 6 with fail;go_quiet(fail);obtain⟨W3,hW3⟩:∃W3,W2.drewN nq=W3:=⟨_,rfl⟩;have g13:zc W1 W3:=by rw[<-hW3];exact G12.out.trans (show Below _ _ _ from bD (bR _ _) _)
 rw[hW3];have G13:Xo (zc W1 W3):=g13;clear hW3 g13 hx3 hx4 hf7 G12 hd1 hd2 hd3 hd4;go_upto_region 8 with fail;clear hd5;have hx3:∀y:zf W3,y.world.cell? ⟨b,3,Xb⟩=Xa (Xe Xf c.n):=fun y=>(X1.out.box.aA (G13.out.trans y.aA)).c 3 rfl
 have hx4:∀y:zf W3,y.world.cell? ⟨b,4,Xb⟩=Xa (Xe Xf c.file):=fun y=>(X1.out.box.aA (G13.out.trans y.aA)).c 4 rfl
 have hx5:∀y:zf W3,y.world.cell? ⟨b,5,Xb⟩=Xa (Xe Xf c.base):=fun y=>(X1.out.box.aA (G13.out.trans y.aA)).c 5 rfl
 have hx6:∀y:zf W3,y.world.cell? ⟨b,6,Xb⟩=Xa (Xh c.rd):=fun y=>(X1.out.box.aA (G13.out.trans y.aA)).c 6 rfl
 have hx7:∀y:zf W3,y.world.cell? ⟨b,7,Xb⟩=Xa (Xh c.wr):=fun y=>(X1.out.box.aA (G13.out.trans y.aA)).c 7 rfl
 have hx8:∀y:zf W3,y.world.cell? ⟨b,8,Xb⟩=Xa (Xh c.sh):=fun y=>(X1.out.box.aA (G13.out.trans y.aA)).c 8 rfl
 have hac:∀y:zf W3,y.world.cell? ⟨gs,q*10+1,Xb⟩=Xa (O x.ar.a x.ar.n x.ar.c):=fun y=>(HSO.out.aA (G13.out.trans y.aA)).bJ HX.out 1 _ rfl
 have hne:Nonempty (zf W3):=⟨⟨_,zc.refl _⟩⟩;obtain⟨R1,R2,HRR⟩:∃R1 R2,Xo (zhq s.aE (arC c)=(R1,R2)):=⟨_,_,rfl⟩;have HMP:Xo (∀W,zc W1 W->Xp Tryz.prog 76 #[O x.ar.a x.ar.n x.ar.c,Xi #[Xe Xf c.pt,Xe Xf (c.pt+c.n),Xh c.rd,Xh c.wr,Xh c.sh,Xe Xf c.file,Xe Xf c.base]] W fun e w'=>(∃t:Sli,e=Xl (Xm #[O t.a t.n t.c,Xe Xf R2])/\zb arE W1.heap.size w' (O t.a t.n t.c) R1)/\zc W w'):=show∀W,_ from fun W hW=>by
  refine(zpT _ s.aE (arC c) W (HSP.out.ar.aA hW)).mono ?_;rw[HRR.out];rintro e w'⟨⟨v,rfl,ho⟩,hg⟩;obtain⟨ta,tc,rfl⟩:=ho.form;exact⟨⟨⟨ta,_,tc⟩,rfl,ho.base (bS hW)⟩,hg⟩
 have hsum:-9223372036854775808<=c.pt+c.n/\c.pt+c.n<=9223372036854775807:=by have:=HPN.out;omega
 refine qq [(20,⟨fun v=>∃t:Sli,v=Xm #[O t.a t.n t.c,Xe Xf R2],fun v W=>∃t:Sli,v=Xm #[O t.a t.n t.c,Xe Xf R2]/\zb arE W1.heap.size W (O t.a t.n t.c) R1⟩)] zU (by kernel_rfl) ?_ ?_ ?_
 ·intro x hx;simp only[mC,nM,or_false]at hx;subst hx;exact⟨_,noS,rfl⟩
 ·intro x hx;simp only[mC,nM,or_false]at hx;subst hx;rintro v u u' hg⟨t,h1,h2⟩;exact⟨t,h1,h2.aA hg⟩
 refine qL rfl rfl rfl (fun K hK=>?_);go_big_quiet_op;refine hK _ ?_;clear hK K
 refine Zj (.tmp 60) ⟨gs,q*10,Xb⟩ rfl rfl rfl rfl ?_;simp only[Xy,sB,sS,sZ];iterate 18 (refine qL rfl rfl rfl (fun K hK=>?_);go_big_quiet_op;refine hK _ ?_;clear hK K)
 refine zz rfl rfl (fun w' hg hF=>?_) (fun v1 hv=>?_)
 ·refine zI.call [O x.ar.a x.ar.n x.ar.c,Xi #[Xe Xf c.pt,Xe Xf (c.pt+c.n),Xh c.rd,Xh c.wr,Xh c.sh,Xe Xf c.file,Xe Xf c.base]] rfl Tryz.func76 rfl rfl rfl ?_;refine(HMP.out w' (G13.out.trans hg)).mono ?_;rintro e w''⟨⟨t,rfl,ho⟩,hg2⟩;exact⟨_,rfl,hg2,⟨t,rfl⟩,t,rfl,ho⟩
 obtain⟨t,rfl⟩:=hv;simp only[Xy,sB,sS,sZ];iterate 5 (refine qL rfl rfl rfl (fun K hK=>?_);go_big_quiet_op;refine hK _ ?_;clear hK K)
 refine zH fun W4 g4 hF=>?_
 obtain⟨t',ht',ho'⟩:=hF 20;have htt:t'=t:=by
  have h1:(Value.tuple #[O t.a t.n t.c,Xe Xf R2])=Xm #[O t'.a t'.n t'.c,Xe Xf R2]:=ht';simp only[Value.tuple.injEq,Array.mk.injEq,List.cons.injEq,vJ,and_true]at h1;obtain⟨a1,a2,a3⟩:=h1;cases t;cases t'
  simp_all
 subst htt;have O4:Xo (zb arE W1.heap.size W4 (O t'.a t'.n t'.c) R1):=ho';have G14:=dD (G13.out.trans g4);have A4:=dD (A1.out.aA G14.out);clear g4 hF ht' ho' hx3 hx4 hx5 hx6 hx7 hx8 hac hne HMP hsum h1 hpt;have HL:Xo (w0.heap.size<=b):=show _<=_ by have:=HUB.out;have:=HM.out.lo;have:=HPU.out;omega
 by_cases he:R2=0
 rotate_left
 ·have hz:(R2 !=0)=Xc:=by simp[he]
  have HE:Xo (R2≠0):=he;clear he;have hrf:=jO R2 W4;go_wp2_with fail;refine hrf.mono ?_;rintro e W5⟨rfl,g5⟩;have A5:=dD (A4.out.aA g5);have Q5:Xo (zc w W5):=show zc _ _ from(G1.out.trans G14.out).trans g5
  clear hrf g5;unfold Qk noS
  go_wp2_with(refine zh rfl 54 (.tmp 4) (.tmp 86) rfl (b+1) rfl [Xe Xf R2,Xe Xf 0,O Xb 0 0] rfl A5.out rfl (by kernel_rfl) (by simp[Value.oneCell']) ?_)
  intro W6 b6 g6 _;have G6:Xo (zc w0 W6):=show zc _ _ from zd ((HM.out.gr.trans HGU.out).trans Q5.out) g6 (by have:=HL.out;omega)
  have A6:Xo (zg W6 (b+1) 54 [Xe Xf R2,Xe Xf 0,O Xb 0 0]):=b6;have O6:Xo (zk (zpr w0 u) w W6):=show zk _ _ _ from zk.beyond (zk.aA Q5.out) g6 (by have:=HB.out;omega)
  clear b6 g6;go_wp2;refine bodyPost_ret (zB rfl _ rfl A6.out.box Tryz.underlying54 rfl (by kernel_rfl)) rfl ⟨R2,0,noS,[],V,m,rfl,⟨rfl,q,s,HLV.out,by rw[HRR.out],fun h=>absurd h HE.out⟩,O6.out,G6.out,fun _ _=>zj.nil _ _,fun h=>absurd h HE.out⟩
 have HR0:Xo (R2=0):=he;subst he;have HS4:=dD (HSO.out.aA G14.out)
 go_wp2_with(refine zt (E:=Q4) rfl (.tmp 90) (.tmp 88) 71 rfl w0.heap.size _ xs HS4.out gs q 1 rfl x {x with ar:=t'} HX.out [O t'.a t'.n t'.c] (by kernel_rfl) rfl (by show 1+1<=10;omega) (by simp;rfl) ⟨gs,q*10+1,Xb⟩ rfl rfl _ rfl rfl ?_)
 intro W5 o5 g5 s5;clear s5;have A5:Xo (zg W5 (b+1) 54 [Xe Xf 0,Xe Xf 0,O Xb 0 0]):=show zg _ _ _ _ from A4.out.beside g5 (fun k e=>by cases e;have:=HGS.out;have:=HUB.out;omega)
 have P5:Xo (zg W5 p 88 (chL V m)):=show zg _ _ _ _ from(P1.out.aA G14.out).beside g5 (fun k e=>by cases e;first|exact HM.out.ns _ HOB.out|exact(HM.out.ns _ HOB.out).symm)
 have OW5:Xo (zb Q4 w0.heap.size W5 (O V.sp.a V.sp.n V.sp.c) (xs.set q {x with ar:=t'})):=show zb _ _ _ _ _ by rw[HEQ.out];exact o5
 have GB5:Xo (W4.grownBy W5 (Xa gs)):=g5;have GR5:Xo (zc w0 W5):=show zc _ _ from zd (((HM.out.gr.trans HGU.out).trans G1.out).trans G14.out) g5 HGS.out.1
 have OD5:Xo (zk (zpr w0 u) w W5):=show zk _ _ _ from(zk.aA (G1.out.trans G14.out)).trans (zk.grown g5 HGS.out)
 clear o5 g5
 go_wp2_with(refine zh rfl 54 (.tmp 4) (.tmp 92) rfl (b+1) rfl [Xe Xf 0,Xe Xf c.pt,O Xb 0 0] rfl A5.out rfl (by kernel_rfl) (by simp[Value.oneCell']) ?_)
 intro W6 b6 g6 _;have A6:Xo (zg W6 (b+1) 54 [Xe Xf 0,Xe Xf c.pt,O Xb 0 0]):=b6;have HFIN:Xo (ZI (zqH m c) w0 p u w (Xl (Qk 0 c.pt noS)) W6):=show ZI _ _ _ _ _ _ _ from by
  refine⟨0,c.pt,noS,[],V,znm m q s R1,rfl,⟨rfl,q,s,HLV.out,by rw[HRR.out],fun _=>⟨rfl,by rw[HRR.out]⟩⟩,OD5.out.beyond g6 (by have:=HB.out;omega),zd GR5.out g6 (by have:=HL.out;omega),fun _ _=>zj.nil _ _,fun _=>⟨P5.out.beside g6 (fun k e=>by cases e;have:=HPU.out;have:=HUB.out;omega),fun W hW=>?_⟩⟩
  refine zoi (w:=W1) (w1:=W4) (w2:=W5) (y:={x with ar:=t'}) HM.out HS1.out HS2.out HS3.out HX.out HS.out HOB.out GU1.out G14.out O4.out GB5.out OW5.out ⟨rfl,rfl,rfl⟩ ?_;refine(zk.grown (D:=Aft w0 u W1) g6 (.inr ⟨by have:=HUB.out;omega,HBL.out⟩)).trans (hW.wide fun k hk=>hk.imp id fun h=>⟨h.1,Xs h.2 (bS G1.out)⟩)
 clear b6 g6;go_wp2;refine bodyPost_ret (zB rfl _ rfl A6.out.box Tryz.underlying54 rfl (by kernel_rfl)) rfl HFIN.out
theorem zfT(w:Xn)(m:Ma)(c:Cl)(k:c.kind=1)(a:0<=c.pt)(b:1<=c.n)(d:c.n<=64-c.pt)(e:-1<=c.file)(f:c.file<(m.fl.length:Int)):Ql w m c (J8 m c.aC (zqH m c)):=by
 intro t W s p v r h n;obtain⟨g,rfl,j⟩:=n.1 k;exact⟨73,#[Xj (Xa ⟨g,0,Xb⟩)],rfl,zfu,zbC h c g 35 _ (enters_of func35 Kr rfl) j fun q i l=>zoo h i c l a b d e f⟩
def clZ:Xq:=Xi #[Xe Xf 0,Xe Xf 0,Xe Xf 0,Xe Xf 0,Xe Xf 0,Xe Xf 0,Xh Xd,Xh Xd,Xh Xd,O Xb 0 0]
theorem zsf:(Tryz.prog.info? 25).map (fun i=>(i.zero,i.size,i.bytes))=Xa (Xa clZ,10,80):=by kernel_rfl
def clE:Elt Cl where
 enc:=clL
 k:=10
 ty:=25
 st:=29
 bytes:=80
 zv:=clZ
 zero:=⟨0,0,0,0,0,0,Xd,Xd,Xd,noS⟩
 len:=fun _=>rfl
 one:=fun a u hu=>by
  simp only[clL,mC,nM,or_false]at hu
  rcases hu with rfl|rfl|rfl|rfl|rfl|rfl|rfl|rfl|rfl|rfl<;>rfl
 bT:=underlying29
 aF:=zsf
 zok:=rfl
 few:=by decide
 pos:=by decide
structure An where
 er:Int
 n:Int
 s:Sli
def anL(a:An):List Xq:=[Xe Xf a.er,Xe Xf a.n,O a.s.a a.s.n a.s.c]
def anZ:Xq:=Xi #[Xe Xf 0,Xe Xf 0,O Xb 0 0]
theorem zsg:(Tryz.prog.info? 54).map (fun i=>(i.zero,i.size,i.bytes))=Xa (Xa anZ,3,40):=by kernel_rfl
def anE:Elt An where
 enc:=anL
 k:=3
 ty:=54
 st:=46
 bytes:=40
 zv:=anZ
 zero:=⟨0,0,noS⟩
 len:=fun _=>rfl
 one:=fun a u hu=>by
  simp only[anL,mC,nM,or_false]at hu
  rcases hu with rfl|rfl|rfl<;>rfl
 bT:=underlying46
 aF:=zsg
 zok:=rfl
 few:=by decide
 pos:=by decide
def zdB(w:Xn)(ys:List An)(az:List (Int×Int×List Int)):Prop:=
 ∀(j:Nat)(a:Int×Int×List Int),az[j]?=Xa a->∃x,ys[j]?=Xa x/\x.er=a.1/\x.n=a.2.1/\zj byE w (O x.s.a x.s.n x.s.c) a.2.2
theorem zot{D:Nat->Prop}{w:Xn}(g:zc w w1)(o:zk D w1 W)(c:∀k,D k->w.heap.size<=k):zc w W:=
 ⟨o.os.trans (Below.os g),o.tape.trans (Below.tape g),o.output.trans (Below.output g),nT (bS g) o.size,fun b a=>(o.block b (Xs a (bS g)) (fun e=>Hm (c b e))).trans (Below.block g b a)⟩
theorem zdB.step{w:Xn}{b:List An}{az:List (Int×Int×List Int)}{c n:Int}{l:List Int}{s:Sli}(m:az.length=kk)(k:kk<b.length)(h:zdB w b az)(p:zj byE w (s.x) l):zdB w (b.set kk ⟨c,n,s⟩) (az++[(c,n,l)]):=by
 intro j d a
 by_cases e:j=kk
 ·subst e;rw[aR Wm,m,Ye]at a
  cases a;exact⟨_,sF k,rfl,rfl,p⟩
 have i:j<az.length:=by
  have:=(gS.1 a).1
  simp at this
  omega
 rw[Xt i]at a;obtain⟨x,f,g⟩:=h j d a;exact⟨x,by rw[sN (fun h=>e h.symm)];exact f,g⟩
theorem q8.cl10{y:Addr}{c:Cl}(h:q8 W y (clL c)):W.cell? y=Xa (I6 c.kind)/\W.cell? {block:=y.block,off:=y.off+1}=Xa (I6 c.aC)/\W.cell? {block:=y.block,off:=y.off+2}=Xa (I6 c.pt)/\W.cell? {block:=y.block,off:=y.off+3}=Xa (I6 c.n)/\W.cell? {block:=y.block,off:=y.off+4}=Xa (I6 c.file)/\W.cell? {block:=y.block,off:=y.off+5}=Xa (I6 c.base)/\W.cell? {block:=y.block,off:=y.off+6}=Xa (Xh c.rd)/\W.cell? {block:=y.block,off:=y.off+7}=Xa (Xh c.wr)/\W.cell? {block:=y.block,off:=y.off+8}=Xa (Xh c.sh)/\W.cell? {block:=y.block,off:=y.off+9}=Xa (c.dv.x):=
 ⟨h 0 _ rfl,h 1 _ rfl,h 2 _ rfl,h 3 _ rfl,h 4 _ rfl,h 5 _ rfl,h 6 _ rfl,h 7 _ rfl,h 8 _ rfl,h 9 _ rfl⟩
def zrb(n:Nat)(J:Nat->Ma->List (Int×Int×List Int)->Prop)(e:Ending)(w':Xn):Prop:=
 ∃(V:MaV)(m:Ma)(ga:Nat)(ys:List An)(az:List (Int×Int×List Int)),e=Xl (Xm #[Xi #[O V.f.a V.f.n V.f.c,Xe Xf m.aB,O V.s.a V.s.n V.s.c,O V.sb.a V.sb.n V.sb.c,O V.sq.a V.sq.n V.sq.c,O V.db.a V.db.n V.db.c,O V.dq.a V.dq.n V.dq.c,O V.fl.a V.fl.n V.fl.c,Xe Xf m.cnt,O V.ca.a V.ca.n V.ca.c,O V.sp.a V.sp.n V.sp.c],O (Xa ⟨ga,0,Xb⟩) n n,Xe Xf 0])/\J n m az/\zj anE w' (O (Xa ⟨ga,0,Xb⟩) n n) ys/\zdB w' ys az
theorem zi6(G cs x:Int)(Q:zqY G cs x)(v:Xq)(p:List Cl)(w:Xn)(c1:zj clE w v p)(bf:p.length<=80)(J:Nat->Ma->List (Int×Int×List Int)->Prop)(af:J 0 (Zr G cs x) [])
  (bz:∀(i:Nat)(c:Cl)(m:Ma)f,p[i]?=Xa c->f.length=i->J i m f->maW m=0/\(1<=c.kind/\c.kind<=15)/\∃K,(∀W,zc w W->Ql W m c K)/\∀d n l m' h,K d n l m'->((d=0/\h=m')\/(d≠0/\h=m))->J (i+1) h (f++[(d,n,l)])):
  Xp prog 11 #[Xi #[I6 G,I6 cs,I6 x],v] w fun e w'=>zrb p.length J e w'/\zc w w':=by
 obtain⟨e5,ed,rfl,R⟩:=c1.rows;have ac:Xo (∀(bg:Nat)c4,p[bg]?=Xa c4->∃bc,e5=Xa bc/\∀W,zc w W->q8 W (bc.add (bg*10)) (clL c4)):=dD<|R
 obtain⟨n,bm⟩:=kA p.length;rw[bm.out]at bf⊢;have a8:Xo (J 0 (Zr G cs x) []):=af;have co:=show Xo _ from bz
 have ah:decide (80<n)=Xd:=decide_eq_false Wm
 obtain⟨t,Y⟩:=kA w.heap.size;obtain⟨ar,D⟩:=kB ((w.alloc (Xk #[I6 G,I6 cs,I6 x] 51)).alloc (Xk zM.toArray 45));have ce:=gD2 D
 have df:Xo (zg ar t 51 [I6 G,I6 cs,I6 x]):=dD<|by rw[<-D];exact(zg.aD w [I6 G,I6 cs,I6 x] _ Y.symm).aA (za _ _)
 have dg:Xo (zg ar (t+1) 45 zR):=dD<|by rw[<-D];exact zg.aD _ zR _ (by have:=Y.out;simp;omega)
 have b2:Xo (_=ar):=D;have an:=zjd G cs x Q ar;clear D c1 R bz af Q
 go_enter func11,ntmps11
 go_upto_region 1 with fail;rw[b2.out,Y.out];obtain⟨e8,e9,ea⟩:=df.box.c3
 go_wp2_with(go_at_call 13;refine an.mono ?_)
 clear an e8 e9 ea;rintro e Z⟨⟨V,rfl,am,_,_⟩,bd⟩;have b5:Xo (zq Z V (Zr G cs x)):=am;have cg:=dD (ce.trans bd);have bq:=dD (dg.aA bd);obtain⟨q,aq⟩:=kA Z.heap.size;have z:Xo (t+1<q):=show _<_ by rw[<-aq.out];exact bq.box.lt
 obtain⟨S,aa⟩:=kA (Zr G cs x);have a7:Xo (S.aB=0/\S.cnt=x):=dD<|by rw[<-aa.out];exact⟨rfl,rfl⟩
 have b4:Xo (∀v∈chL V S,v.oneCell'=Xc):=dD<|by simp[chL,Value.oneCell']
 rw[aa.out]at b5 a8;have ag:chL V S=[V.f.x,I6 0,V.s.x,V.sb.x,V.sq.x,V.db.x,V.dq.x,V.fl.x,I6 x,V.ca.x,V.sp.x]:=by
  unfold chL;rw[a7.1,a7.2]
 have aw:Xo (_=_):=ag;clear am bd ag
 go_upto_region 2 with(refine zh rfl 45 (.tmp 7) (.tmp 15) rfl Z.heap.size rfl (chL V S) (Rr aw.out) (zg.aD Z zR _ rfl) (by rfl) Kr b4.out ?_)
 intro I bt bw e1;clear e1;have B:zc Z I:=zd (za _ _) bw (nR _);have bo:Xo (zg I q 45 (chL V S)):=dD<|Ry aq.out bt
 have ch:=dD (cg.trans B);have dh:=dD (bq.aA B);have eb:=dD (b5.aA B);rw[aq.out];have a6:Xo (zc Z I):=B;clear bt bw B;go_upto_region 6 with fail;clear ah
 go_wp2_with(refine qr anE rfl (.tmp 26) rfl n rfl (by show n*40<=_;omega) ?_)
 intro cc bh;obtain⟨a,H⟩:=kA I.heap.size;obtain⟨bb,M⟩:=kB (I.alloc (Xk cc anE.ty));have C:zc I bb:=by rw[<-M];exact za _ _
 rw[M,H.out]at bh;rw[M,H.out];have cw:Xo (zb anE a bb (O (Xa ⟨a,0,Xb⟩) n n) (Xr n anE.zero)):=bh;have db:=dD (bo.aA C);have ci:=dD (ch.trans C);have di:=dD (dh.aA C);have A:Xo (q<a):=show _<_ by rw[<-H.out];exact bo.box.lt
 have cp:Xo (∀W,zk (fun k=>k=q\/k=a) bb W->zq W V S):=dD<|fun W g=>b5.aA (zot (a6.trans C) g fun k y=>by have:=aq.out;have:=H.out;have:=bS a6.out;rcases y with e|e<;>omega)
 clear bh M C;go_wp2
 go_loopg[30] n (fun dx bi wr=>∃(b:Nat)(V:MaV)(m:Ma)(s:List An)(f:List (Int×Int×List Int)),b<=n/\n-b<=dx/\bi=I6 b/\Xo (zc w wr)/\Xo (zg wr q 45 (chL V m))/\Xo (zg wr (t+1) 45 zR)/\Xo (zb anE a wr (O (Xa ⟨a,0,Xb⟩) n n) s)/\Xo (f.length=b/\s.length=n/\J b m f)/\Xo (∀W,zk (fun k=>k=q\/k=a) wr W->zq W V m)/\Xo (∀W,zk (fun k=>k=q\/k=a\/k=t+1) wr W->zdB W s f))
 exact⟨0,V,S,_,[],nZ _,Wm,rfl,ci,db,di,cw,show _/\_/\_ from⟨rfl,Sm,a8⟩,cp,show∀W,_ from fun W g bg ec dy=>by cases dy⟩
 obtain⟨b,V,m,s,f,e0,dz,rfl,av,ba,bs,b6,j,cv,bj⟩:=hrel
 by_cases F:b<n
 ·have ak:=kC F
  obtain⟨c,bl⟩:∃c,Xo (p[b]?=Xa c):=⟨_,gE (Rx bm.out F)⟩
  obtain⟨bc,rfl,c0⟩:=ac.out b c bl.out;obtain⟨dm,dn,dp,dq,dr,ds,dt,du,dv,dw⟩:=q8.cl10 (c0 wr av);clear c0;obtain⟨bx,aj,K,ap,ao⟩:=co.out b c m f bl j.1 j.2.2;go_upto_region 10 with fail;clear dm dn dp dq dr ds dt du dv dw;obtain⟨c3,ab⟩:=kA wr.heap.size;obtain⟨L,N⟩:=kB (wr.alloc (Xk #[I6 c.kind,I6 c.aC,I6 c.pt,I6 c.n,I6 c.file,I6 c.base,Xh c.rd,Xh c.wr,Xh c.sh,c.dv.x] 25));have X:=gP N
  have cd:Xo (zg L c3 25 (clL c)):=dD<|by rw[<-N];exact zg.aD _ (clL c) _ ab.symm
  rw[N,ab.out];have bk:=dD (av.trans X);have b8:=dD (ba.aA X);have br:=dD (bs.aA X);have bn:=dD (b6.aA X);have cq:Xo (∀W,zk (fun k=>k=q\/k=a) L W->zq W V m):=show∀W,_ from fun W g=>cv.out W ((zk.aA X).trans g)
  have c5:Xo (∀W,zk (fun k=>k=q\/k=a\/k=t+1) L W->zdB W s f):=dD<|fun W g=>bj.out W ((zk.aA X).trans g)
  have b0:Xo (∀d n l m' h,K d n l m'->((d=0/\h=m')\/(d≠0/\h=m))->J (b+1) h (f++[(d,n,l)])):=ao;have ai:=zq0 V m L (cq L (zk.refl _ _)) bx c K aj (ap L bk);have T:Xo ((Tryz.prog.info? 45).map (·.size)=Xa (chL V m).length):=show _=_ by kernel_rfl
  have b1:Xo ((Tryz.prog.info? 25).map (·.size)=Xa (clL c).length):=dD<|Kr
  clear N X bx aj ap ao
  go_wp2_with(first|refine zm rfl 45 (.tmp 7) rfl q rfl b8.box underlying45 rfl T.out ?_|refine zm rfl 25 (.tmp 11) rfl c3 rfl cd.box underlying25 rfl b1.out ?_|(go_at_call 14;refine ai.mono ?_))
  clear ai;rintro e bp⟨⟨d,u,a5,l,m',h,P,rfl,y,al,r⟩,a2⟩;have ay:Xo (J (b+1) h (f++[(d,u,l)])):=b0.out d u l m' h y al;have a9:Xo (q<L.heap.size/\a<L.heap.size/\t+1<L.heap.size):=show _/\_/\_ from⟨b8.box.lt,(bn.lt a rfl).2,br.box.lt⟩
  have cj:=dD (bk.trans a2);have dc:=dD (b8.aA a2);have dj:=dD (br.aA a2);have cx:=dD (bn.aA a2);have cr:Xo (∀W,zk (fun k=>k=q\/k=a) bp W->zq W P h):=show∀W,_ from fun W g=>(r W (g.wide fun k y=>by have:=a9.out;rcases y with e|e<;>omega)).1
  have c6:Xo (∀W,zk (fun k=>k=q\/k=a\/k=t+1) bp W->zdB W (s.set b ⟨d,u,a5⟩) (f++[(d,u,l)])):=dD<|fun W g=>zdB.step j.1 (Rx j.2.1 F) (c5 W ((zk.aA a2).trans g)) (r W (g.wide fun k y=>by have:=a9.out;rcases y with e|e|e<;>omega)).2
  have U:Xo (∀v∈chL P h,v.oneCell'=Xc):=dD<|by simp[chL,Value.oneCell']
  clear y al r a2;unfold Qk
  go_wp2_with(refine zh rfl 45 (.tmp 7) (.tmp 41) rfl q rfl (chL P h) rfl dc rfl Kr U.out ?_)
  intro a0 bu a3 e2;clear e2;have ck:Xo (zc w a0):=dD<|zd cj a3 (by have:=z.out;have:=Y.out;omega)
  have dd:Xo (zg a0 q 45 (chL P h)):=bu;have dk:Xo (zg a0 (t+1) 45 zR):=show zg _ _ _ _ from dj.beside a3 (fun k e=>by cases e;have:=z.out;omega)
  have cy:Xo (zb anE a a0 (O (Xa ⟨a,0,Xb⟩) n n) s):=dD<|cx.grown a3 (fun k y e=>by
   have be:Xa a=Xa k:=y;simp only[Option.some.injEq]at be e;have:=A.out
   omega)
  have ct:Xo (∀W,zk (fun k=>k=q\/k=a) a0 W->zq W P h):=dD<|fun W g=>cr.out W ((zk.grown a3 (.inl rfl)).trans g)
  have c7:Xo (∀W,zk (fun k=>k=q\/k=a\/k=t+1) a0 W->zdB W (s.set b ⟨d,u,a5⟩) (f++[(d,u,l)])):=dD<|fun W g=>c6.out W ((zk.grown a3 (.inl rfl)).trans g)
  clear bu a3
  go_wp2_with(refine z7 (E:=anE) rfl (.tmp 43) (.tmp 42) rfl a _ s cy a b rfl ⟨d,u,a5⟩ (Rx j.2.1 F) ⟨a,b*3,Xb⟩ rfl rfl _ rfl rfl ?_)
  intro a1 c2 a4 e3;clear e3;have cl:Xo (zc w a1):=dD<|zd ck a4 (by have:=A.out;have:=z.out;have:=Y.out;omega)
  have de:Xo (zg a1 q 45 (chL P h)):=dD<|dd.beside a4 (fun k e=>by cases e;have:=A.out;omega)
  have dl:Xo (zg a1 (t+1) 45 zR):=dD<|dk.beside a4 (fun k e=>by cases e;have:=A.out;have:=z.out;omega)
  have cz:Xo (zb anE a a1 (O (Xa ⟨a,0,Xb⟩) n n) (s.set b ⟨d,u,a5⟩)):=c2;have cu:Xo (∀W,zk (fun k=>k=q\/k=a) a1 W->zq W P h):=show∀W,_ from fun W g=>ct.out W ((zk.grown a4 (.inr rfl)).trans g)
  have c8:Xo (∀W,zk (fun k=>k=q\/k=a\/k=t+1) a1 W->zdB W (s.set b ⟨d,u,a5⟩) (f++[(d,u,l)])):=dD<|fun W g=>c7.out W ((zk.grown a4 (.inr (.inl rfl))).trans g)
  have ax:Xo ((f++[(d,u,l)]).length=b+1/\(s.set b ⟨d,u,a5⟩).length=n/\J (b+1) h (f++[(d,u,l)])):=dD<|⟨by simp[j.1],by rw[List.length_set];exact j.2.1,ay⟩
  clear c2 a4;go_wp2
  go_roundg (n-(b+1));exact⟨b+1,P,h,_,_,Wm,Wm,Gn,cl,de,dl,cz,ax,cu,c8⟩;omega
 have ak:=kD F
 have:b=n:=Wm
 subst this;have U:Xo (∀v∈chL V m,v.oneCell'=Xc):=dD<|by simp[chL,Value.oneCell']
 have T:Xo ((Tryz.prog.info? 45).map (·.size)=Xa (chL V m).length):=dD<|Kr
 have cn:Xo (a<wr.heap.size/\q<wr.heap.size):=dD<|⟨(b6.lt a rfl).2,ba.box.lt⟩
 skip
 go_wp2_with(first|refine zm rfl 45 (.tmp 7) rfl q rfl ba.box underlying45 rfl T.out ?_|refine zh rfl 45 (.tmp 4) (.tmp 45) rfl (t+1) rfl (chL V m) rfl bs rfl Kr U.out ?_)
 intro ae bv au e4;clear e4;have ca:Xo (zg ae (t+1) 45 (chL V m)):=bv;have cm:Xo (zc w ae):=show zc _ _ from zd av au (Hm Y.out)
 have da:Xo (zj anE ae (O (Xa ⟨a,0,Xb⟩) b b) s):=dD<|(b6.grown au (fun k y e=>by
  have be:Xa a=Xa k:=y;simp only[Option.some.injEq]at be e;have:=A.out;have:=z.out
  omega)).at
 have c9:Xo (zdB ae s f):=bj.out ae (zk.grown au (.inr (.inr rfl)));clear bv au;go_wp2;refine bodyPost_ret (zJ rfl _ rfl ca.box underlying45 rfl Kr) rfl ⟨⟨V,m,a,s,f,rfl,j.2.2,da,c9⟩,cm⟩
def mCr:Cl:=⟨8,0,0,0,0,0,Xd,Xd,Xd,noS⟩
def mTr:Cl:=⟨11,0,0,24,0,0,Xd,Xd,Xd,noS⟩
def mOf:Cl:=⟨1,0,5,3,0,0,Xc,Xc,Xc,noS⟩
def mWr(a:Int)(v:Sli):Cl:=⟨10,0,a,0,0,0,Xd,Xd,Xd,v⟩
def mGe(a:Int):Cl:=⟨4,0,40+a,1,0,0,Xd,Xd,Xd,noS⟩
def mPu(a:Int)(v:Sli):Cl:=⟨5,0,40+a,0,0,0,Xd,Xd,Xd,v⟩
def mCl:Cl:=⟨14,0,0,0,0,0,Xd,Xd,Xd,noS⟩
def mEv:Cl:=⟨13,0,0,0,0,0,Xd,Xd,Xd,noS⟩
def mRe(a:Int):Cl:=⟨9,0,a,1,0,0,Xd,Xd,Xd,noS⟩
def mSy:Cl:=⟨12,0,0,0,0,0,Xd,Xd,Xd,noS⟩
def mCa:Cl:=⟨15,0,0,0,0,0,Xd,Xd,Xd,noS⟩
def mst(ix i:Nat)(x y:Int):Nat->Ma
 |0=>Zr 3 1 3
 |1=>{Zr 3 1 3 with fl:=[⟨0,[]⟩]}
 |2=>{Zr 3 1 3 with fl:=[⟨24,[-1,-1,-1]⟩]}
 |3=>mp3
 |4=>mp4 ix (pgW pg0 i x)
 |5=>mp5 ix (pgW pg0 i x)
 |_=>mp6 ix (pgW (pgW pg0 i x) i y)
def Nx(w:Xn)(m:Ma)(c:Cl)(P:Int->Int->List Int->Ma->Prop):Prop:=
 maW m=0/\(1<=c.kind/\c.kind<=15)/\∃K,(∀W,zc w W->Ql W m c K)/\∀er n l m' m2,K er n l m'->((er=0/\m2=m')\/(er≠0/\m2=m))->P er n l m2
theorem zaW{w:Xn}{c:Cl}{P:Int->Int->List Int->Ma->Prop}{K:Int->Int->List Int->Ma->Prop}(g:maW m=0)(d:1<=c.kind/\c.kind<=15)(j:∀W,zc w W->Ql W m c K)(h:∀a n l m',K a n l m'->a=0/\P a n l m'):Nx w m c P:=by
 refine⟨g,d,K,j,fun a n l m' k d i=>?_⟩
 obtain⟨e,f⟩:=h a n l m' d
 rcases i with⟨_,b⟩|⟨b,_⟩
 ·rw[b];exact f
 exact absurd e b
theorem Nx.mono{w:Xn}{c:Cl}{P Q:Int->Int->List Int->Ma->Prop}(h:Nx w m c P)(hp:∀a n l m',P a n l m'->Q a n l m'):Nx w m c Q:=by
 obtain⟨e,f,K,g,i⟩:=h;exact⟨e,f,K,g,fun a n l m' j b d=>hp _ _ _ _ (i a n l m' j b d)⟩
section
variable{w:Xn}{ix i:Nat}{x y:Int}{m:Ma}{B:List Int}
theorem nx0:Nx w (mst ix i x y 0) mCr fun _ _ _ d=>d=mst ix i x y 1:=
 zaW (K:=zfI (Zr 3 1 3)) Kr Dc (fun W _=>zfU W _ mCr rfl) (fun a n l f h=>by
  obtain⟨_,b,c⟩:=h;have e:a=0:=b.trans Dc
  exact⟨e,(c e).2⟩)
theorem nx1:Nx w (mst ix i x y 1) mTr fun _ _ _ c=>c=mst ix i x y 2:=
 zaW (K:=zfH (mst ix i x y 1) 0 24) Kr Dc (fun W _=>zhA W _ mTr 0 rfl rfl rfl Dc) (fun d n l e h=>by
  obtain⟨a,_,_,b⟩:=h;exact⟨a,b⟩)
theorem zrs:zhq [] (arC mOf)=([arM],0):=by rfl
theorem nx2:Nx w (mst ix i x y 2) mOf fun _ _ _ k=>k=mst ix i x y 3:=
 zaW (K:=J8 (mst ix i x y 2) 0 (zqH (mst ix i x y 2) mOf)) Kr Dc (fun W _=>zfT W _ mOf rfl Dc Dc Dc Dc (by show(0:Int)<1;omega)) (fun g n l m h=>by
  rcases h with⟨_,_,_,b⟩|⟨_,_,q,t,d,a,c⟩
  ·exact absurd (⟨rfl,rfl,rfl⟩:J7 (mst ix i x y 2) 0 0 ⟨Xc,[],Zq⟩) (b 0 _)
  have e:q=0:=by have:=d.1;simp only[mOf]at this;omega
  subst e;have j:=d.2.1;cases j;have f:zhq [] (arC mOf)=([arM],0):=zrs;rw[f]at a c;have a:g=0:=a;exact⟨a,(c a).2⟩)
theorem nx3(h:ix<3)(hi:i<8){v:Sli}(f:v.n<=v.c)(j:zj byE w (v.x) [x]){a:Int}(e:a=((8*ix+i:Nat):Int)):Nx w (mst ix i x y 3) (mWr a v) fun _ _ _ k=>k=mst ix i x y 4:=
 zaW (K:=zjK mp3 0 ix i [x]) rt3.w (by show(1:Int)<=10/\(10:Int)<=15;omega) (fun W d=>zhz W mp3 (mWr a v) 0 ix i [x] ⟨24,bl0⟩ rfl rt3 rfl rfl h (by show i+1<=8;omega) (by show 0<1;omega) e (by show((8*ix+i+1:Nat):Int)<=24;omega) (j.aA d) f (by rw[zo9 h i x])) (fun l n m p g=>by
  obtain⟨c,_,_,b⟩:=g;rw[zo9 h i x]at b;exact⟨c,b⟩)
theorem zre{a:Int}(b:a=((8*ix+i:Nat):Int)):40+a=8*((5+ix:Nat):Int)+(i:Int):=by omega
theorem nx4(h:ix<3)(hi:i<8){a:Int}(d:a=((8*ix+i:Nat):Int)):Nx w (mst ix i x y 4) (mGe a) fun b _ l k=>b=0/\l=[x]/\k=mst ix i x y 5:=
 zaW (rt4 h).w (by show(1:Int)<=4/\(4:Int)<=15;omega) (fun W _=>(zrH h).wk_load (c:=mGe a) (i:=i) rfl hi rfl (zre d) rfl W) (fun b n l m j=>by
  obtain⟨e,f,g⟩:=(zrH h).load (c:=mGe a) (i:=i) hi rfl (zre d) rfl ⟨_,rfl,rfl,rfl⟩ j;rw[e,f,g];exact⟨rfl,rfl,zpb hi x,zrr h⟩)
theorem znP(pg:Pg):zfZ (pgL pg)=pg:=by
 cases pg;rfl
theorem nx5(h:ix<3)(hi:i<8){v:Sli}(f:v.n=1)(p:zj byE w (v.x) [y]){a:Int}(e:a=((8*ix+i:Nat):Int)):Nx w (mst ix i x y 5) (mPu a v) fun _ _ _ q=>q=mst ix i x y 6:=
 zaW (rt5 h).w (by show(1:Int)<=5/\(5:Int)<=15;omega) (fun W l=>(zrG h).wk_store (c:=mPu a v) (i:=i) rfl hi rfl (zre e) f (p.aA l)) (fun r n s t m=>by
  obtain⟨g,b,d,j⟩:=(zrG h).store (c:=mPu a v) (i:=i) hi rfl (zre e) f ⟨_,rfl,rfl,rfl⟩ m;have k:b=pgW (pgW pg0 i x) i y:=by
   unfold pgW at d⊢;rw[d,znP]
  subst k;exact⟨g,j.trans (zrq h)⟩)
def MpP(ix:Nat)(pg:Pg):Nat->Ma->Prop
 |0,m=>m=mp6 ix pg
 |1,m=>m=mp7 ix pg
 |_+2,m=>MpQ (byM ix pg) m
variable{pg:Pg}
theorem nxC(h:ix<3){r:Nat}(j:r%2=0)(b:MpP ix pg r m):Nx w m mCl fun _ _ _ i=>MpP ix pg (r+1) i:=by
 match r,b with
 |0,b=>
  obtain rfl:m=mp6 ix pg:=b;exact zaW (rt6 h).w Dc (fun W _=>zcL W _ mCl rfl (rt6 h)) (fun f n l g a=>⟨a.1,by obtain⟨_,_,_,e,c⟩:=a;exact zq2 h c⟩)
 |1,_=>omega
 |r+2,b=>
  have d:MpQ (byM ix pg) m:=b;exact zaW d.rt.w Dc (fun W _=>zcL W _ mCl rfl d.rt) (fun f n l g a=>⟨a.1,by obtain⟨_,_,_,e,c⟩:=a;exact d.clean c⟩)
theorem nxE(h:ix<3){r:Nat}(g:r%2=1)(b:MpP ix pg r m):Nx w m mEv fun _ _ _ f=>MpP ix pg (r+1) f:=by
 match r,b with
 |0,_=>omega
 |1,b=>
  obtain rfl:m=mp7 ix pg:=b;exact zaW (rt7 h).w Dc (fun W _=>zcK W _ mEv rfl (rt7 h)) (fun d n l e a=>⟨a.1,by rw[a.2.2.2];exact zqZ h⟩)
 |r+2,b=>
  have c:MpQ (byM ix pg) m:=b;exact zaW c.rt.w Dc (fun W _=>zcK W _ mEv rfl c.rt) (fun d n l e a=>⟨a.1,Rx a.2.2.2 c.evict⟩)
theorem MpP.e(h:ix<3){r:Nat}(b:r%2=0)(a:MpP ix pg r m):MpE (byM ix pg) m:=by
 match r,a with
 |0,a=>
  obtain rfl:m=mp6 ix pg:=a;exact e6 h
 |1,_=>omega
 |r+2,a=>exact MpQ.toMpE a
theorem nxR(h:ix<3)(hi:i<8)(b:MpE (byM ix pg) m)(j:((pgL pg).drop i).take 1=[y]){a:Int}(g:a=((8*ix+i:Nat):Int)):Nx w m (mRe a) fun c _ l n=>c=0/\l=[y]/\n=m:=
 zaW (K:=zo7 m 0 (8*ix+i) 1) b.rt.w (by show(1:Int)<=9/\(9:Int)<=15;omega) (fun W _=>zjU W m (mRe a) (8*ix+i) 1 rfl ⟨by show(0:Int)<=0;omega,by have:=b.fl;show(0:Int)<_;omega⟩ g rfl b.err (by
  show 8*ix+i+1<=(Zw m 0).length
  rw[b.byt]
  show _<=((Xu 24).map _).length
  rw[List.length_map,Yc]
  omega) Dc) (fun c z l p k=>by
  obtain⟨d,_,e,f⟩:=k;rw[d,e,f,b.byt,zq6 h hi,j];exact⟨rfl,rfl,rfl,rfl⟩)
theorem nxS(h:ix<3){r:Nat}(j:r%2=0)(b:MpP ix pg r m):Nx w m mSy fun _ _ _ i=>MpY (byM ix pg) i:=by
 match r,b with
 |0,b=>
  obtain rfl:m=mp6 ix pg:=b;exact zaW (rt6 h).w Dc (fun W _=>zd0 W _ mSy rfl ⟨Dc,by show(0:Int)<1;decide⟩ (rt6 h) (zro h)) (fun f n l g a=>⟨a.1,by obtain⟨_,_,_,M,d,e,rfl⟩:=a;exact zrm h d e⟩)
 |1,_=>omega
 |r+2,b=>
  have c:MpQ (byM ix pg) m:=b;exact zaW c.rt.w Dc (fun W _=>zd0 W _ mSy rfl ⟨Dc,by have:=c.fl;show(0:Int)<_;omega⟩ c.rt c.room) (fun f n l g a=>⟨a.1,by obtain⟨_,_,_,M,d,e,rfl⟩:=a;exact c.sync d⟩)
theorem nxK(a:MpY B m):Nx w m mCa fun _ _ _ c=>MpE B c:=
 zaW a.rt.w Dc (fun W _=>zhB W _ mCa rfl a.rt) (fun d n l e b=>⟨b.1,by obtain⟨_,_,_,rfl⟩:=b;exact a.crash _⟩)
end
def zhZ(a:Int)(v3 v5:Sli):List Cl:=[mCr,mTr,mOf,mWr a v3,mGe a,mPu a v5]
def zhp:Nat->List Cl
 |0=>[]
 |n+1=>zhp n++[mCl,mEv]
def zqD(a:Int):List Cl:=[mRe a,mSy,mCa,mRe a]
theorem Zi:∀n,(zhp n).length=2*n
 |0=>rfl
 |n+1=>by
  show(zhp n++[mCl,mEv]).length=_
  rw[lA,Zi n]
  show 2*n+2=_
  omega
theorem zmj:∀(n r:Nat),r<2*n->(zhp n)[r]?=Xa (if r%2=0 then mCl else mEv)
 |0,r,h=>Wm
 |n+1,r,h=>by
  show(zhp n++[mCl,mEv])[r]?=_
  by_cases e:r<2*n
  ·rw[Xt (by rw[Zi];exact e)]
   exact zmj n r e
  rw[aR (by rw[Zi];omega),Zi]
  rcases(show r=2*n\/r=2*n+1 by omega)with rfl|rfl
  ·rw[kE Wm,Ye]
   rfl
  rw[kF Wm,show 2*n+1-2*n=1 by omega]
  rfl
def AnM(x y:Int)(N k:Nat)(a:Int):Prop:=(k=4/\a=x)\/((k=6+2*N\/k=9+2*N)/\a=y)
def SM(ix i:Nat)(x y:Int)(N k:Nat)(m:Ma):Prop:=
 (k<=6->m=mst ix i x y k)/\(∀r,k=6+r->r<=2*N->MpP ix (pgW (pgW pg0 i x) i y) r m)/\(k=7+2*N->MpP ix (pgW (pgW pg0 i x) i y) (2*N) m)/\(k=8+2*N->MpY (byM ix (pgW (pgW pg0 i x) i y)) m)/\(9+2*N<=k->MpE (byM ix (pgW (pgW pg0 i x) i y)) m)
def JM(ix i:Nat)(x y:Int)(N k:Nat)(m:Ma)(az:List (Int×Int×List Int)):Prop:=
 SM ix i x y N k m/\∀j a,j<k->AnM x y N j a->∃n,az[j]?=Xa (0,n,[a])
section
variable{w:Xn}{ix i:Nat}{x y:Int}{m:Ma}{N k:Nat}{c:Cl}{az:List (Int×Int×List Int)}
theorem zpZ(C:az.length=k)(A:JM ix i x y N k m az)(r:Nx w m c fun b _ l d=>SM ix i x y N (k+1) d/\∀a,AnM x y N k a->b=0/\l=[a]):
  maW m=0/\(1<=c.kind/\c.kind<=15)/\∃K,(∀W,zc w W->Ql W m c K)/\∀b n l m' d,K b n l m'->((b=0/\d=m')\/(b≠0/\d=m))->JM ix i x y N (k+1) d (az++[(b,n,l)]):=by
 obtain⟨_,E⟩:=A;obtain⟨t,u,K,v,z⟩:=r;refine⟨t,u,K,v,fun b n l m' d B D=>?_⟩
 obtain⟨f,g⟩:=z b n l m' d B D;refine⟨f,fun j a G e=>?_⟩
 by_cases h:j=k
 ·subst h;obtain⟨p,q⟩:=g a e;exact⟨n,by rw[aR Wm,C,Ye,p,q];rfl⟩
 obtain⟨F,s⟩:=E j a Wm e
 exact⟨F,by rw[Xt Wm];exact s⟩
theorem zp0(h:ix<3)(hi:i<8){a:Int}(b:a=((8*ix+i:Nat):Int)){t z:Sli}(M:t.n<=t.c)(V:zj byE w (t.x) [x])(T:z.n=1)(X:zj byE w (z.x) [y])
  (k:Nat)(c:Cl)(m:Ma)(az:List (Int×Int×List Int))(q:(zhZ a t z++zhp N++zqD a)[k]?=Xa c)(C:az.length=k)(B:JM ix i x y N k m az):
  maW m=0/\(1<=c.kind/\c.kind<=15)/\∃K,(∀W,zc w W->Ql W m c K)/\∀f n l m' d,K f n l m'->((f=0/\d=m')\/(f≠0/\d=m))->JM ix i x y N (k+1) d (az++[(f,n,l)]):=by
 refine zpZ C B ?_;obtain⟨⟨E,A,F,G,H⟩,_⟩:=B;have R:∀{d},d=mst ix i x y 6->MpP ix (pgW (pgW pg0 i x) i y) 0 d:=fun e=>e
 by_cases S:k<6
 ·have e:=E Wm
  subst e;rw[Xz,Xt (show k<(zhZ a t z).length from S)]at q
  clear E A F G H C;have j:∀{d},d=mst ix i x y (k+1)->SM ix i x y N (k+1) d:=fun{d}e=>⟨fun _=>e,fun r v _=>by
   obtain rfl:r=0:=Wm
   have Q:k=5:=Wm
   subst Q;exact R e,fun h=>Wm,fun h=>Wm,fun h=>Wm⟩
  have p:∀{c:Cl},k≠4->Nx w (mst ix i x y k) c (fun _ _ _ d=>d=mst ix i x y (k+1))->Nx w (mst ix i x y k) c fun f _ l d=>SM ix i x y N (k+1) d/\∀a,AnM x y N k a->f=0/\l=[a]:=fun Y h=>h.mono fun f n l m' e=>⟨j e,fun a b=>by rcases b with⟨e,_⟩|⟨e|e,_⟩<;>omega⟩
  rcases(show k=0\/k=1\/k=2\/k=3\/k=4\/k=5 by omega)with rfl|rfl|rfl|rfl|rfl|rfl<;>cases q
  ·exact p Dc nx0
  ·exact p Dc nx1
  ·exact p Dc nx2
  ·exact p Dc (nx3 h hi M V b)
  ·exact(nx4 h hi b).mono fun f n l m' e=>⟨j e.2.2,fun a b=>by
    rcases b with⟨_,rfl⟩|⟨e|e,_⟩
    ·exact⟨e.1,e.2.1⟩
    ·omega
    omega⟩
  exact p Dc (nx5 h hi T X b)
 have hlen:(zhZ a t z).length=6:=rfl;have D:((pgL (pgW (pgW pg0 i x) i y)).drop i).take 1=[y]:=zpb hi y
 by_cases Z:k<6+2*N
 ·obtain⟨r,rfl⟩:∃r,k=6+r:=⟨k-6,Wm⟩
  have g:=A r rfl Wm
  rw[Xz,aR Wm,hlen,Xt (by rw[Zi];omega),show 6+r-6=r by omega,zmj N r Wm]at q
  have j:∀{d},MpP ix (pgW (pgW pg0 i x) i y) (r+1) d->SM ix i x y N (6+r+1) d:=fun{d}e=>⟨fun h=>Wm,fun U v _=>by
   obtain rfl:U=r+1:=Wm
   exact e,fun h=>Wm,fun h=>Wm,fun h=>Wm⟩
  have L:∀{a:Int}{P:Prop},AnM x y N (6+r) a->P:=fun b=>by rcases b with⟨e,_⟩|⟨e|e,_⟩<;>omega
  by_cases e:r%2=0
  ·rw[kE e]at q;cases q;exact(nxC h e g).mono fun f n l m' e=>⟨j e,fun a b=>L b⟩
  rw[kF e]at q;cases q;exact(nxE h Wm g).mono fun f n l m' e=>⟨j e,fun a b=>L b⟩
 obtain⟨s,rfl⟩:∃s,k=6+2*N+s:=⟨k-6-2*N,Wm⟩
 rw[aR (by rw[lA,hlen,Zi];omega),lA,hlen,Zi,show 6+2*N+s-(6+2*N)=s by omega]at q
 have I:s<4:=(gS.1 q).1;have u:(2*N)%2=0:=Wm
 rcases(show s=0\/s=1\/s=2\/s=3 by omega)with rfl|rfl|rfl|rfl<;>cases q
 ·have g:=A (2*N) rfl (nR _);exact(nxR h hi (g.e h u) D b).mono fun f n l m' e=>⟨⟨fun h=>Wm,fun r v _=>Wm,fun _=>Rx e.2.2 g,fun h=>Wm,fun h=>Wm⟩,fun a b=>by
   rcases b with⟨e,_⟩|⟨_,rfl⟩
   ·omega
   exact⟨e.1,e.2.1⟩⟩
 ·have g:=F Wm
  exact(nxS h u g).mono fun f n l m' e=>⟨⟨fun h=>Wm,fun r v _=>Wm,fun h=>Wm,fun _=>e,fun h=>Wm⟩,fun a b=>by rcases b with⟨e,_⟩|⟨e|e,_⟩<;>omega⟩
 ·have g:=G Wm
  exact(nxK g).mono fun f n l m' e=>⟨⟨fun h=>Wm,fun r v _=>Wm,fun h=>Wm,fun h=>Wm,fun _=>e⟩,fun a b=>by rcases b with⟨e,_⟩|⟨e|e,_⟩<;>omega⟩
 have g:=H Wm
 exact(nxR h hi g D b).mono fun f n l m' e=>⟨⟨fun h=>Wm,fun r v _=>Wm,fun h=>Wm,fun h=>Wm,fun _=>Rx e.2.2 g⟩,fun a b=>by
  rcases b with⟨e,_⟩|⟨_,rfl⟩
  ·omega
  exact⟨e.1,e.2.1⟩⟩
end
def zjE:Ar:=⟨0,1,Xc,Xc,Xd,-1,0⟩
def zaw:Ma:=znm (Zr 2 2 0) 0 ⟨Xc,[],Zq⟩ [zjE]
def frA(pg:Pg):Fr:=⟨pg,1,Xc,Xd,-1,0⟩
def tbA(w:Bool):List (List En):=zf6 Zq 0 ⟨1,0,w⟩
def Qm(pg:Pg)(w:Bool):Ma:={zaw with fs:=[frA pg,frF],sp:=[⟨Xc,[zjE],tbA w⟩]}
theorem zrt:zhq [] zjE=([zjE],0):=by rfl
theorem zn1:maW (Zr 2 2 0)=0:=by decide
theorem zi2:maW zaw=0:=by decide
theorem zi1:∀w,maW (Qm ⟨0,0,0,9,0,0,0,0⟩ w)=0:=by decide
theorem zn0:∀w,maW (Qm pg0 w)=0:=by decide
theorem zqL:Rt zaw:=⟨zi2,by intro s a;cases a with|head=>rfl|tail _ h=>cases h⟩
theorem zpJ(w:Bool):Rt (Qm ⟨0,0,0,9,0,0,0,0⟩ w):=⟨zi1 w,by intro s a;cases a with|head=>rfl|tail _ h=>cases h⟩
theorem zrn(w:Bool):Rt (Qm pg0 w):=⟨zn0 w,by intro s a;cases a with|head=>rfl|tail _ h=>cases h⟩
theorem zlC:ZA zaw 0 0=(zS,Xd,0):=by decide
theorem zlB(w:Bool):ZA (Qm ⟨0,0,0,9,0,0,0,0⟩ w) 0 0=([0,0,0,9,0,0,0,0],Xc,0):=by revert w;decide
theorem zjW{l:List (List En)}(b:m.sp=[⟨Xc,[zjE],l⟩]){wr:Bool}{a:Ar}{e:Int}(h:js m 0 0 wr a e):e=0/\a=zjE:=by
 rcases h with⟨_,_,h⟩|⟨d,p,k,s,x,j,n,_,c,f,_,_,_,h⟩
 ·rcases h with(h|h)|⟨d,s,j,c,h⟩
  ·omega
  ·rw[b]at h
   simp at h
  have:d=0:=Wm
  subst this;rw[b]at c;cases c;have:=h zjE (List.mem_cons_self ..);cases this
 have:d=0:=Wm
 subst this;rw[b]at c;cases c
 cases k with
 |zero=>
  cases f
  rcases h with⟨_,_,h⟩|⟨g,i,_⟩
  ·cases wr<;>cases h
  exact⟨g,i⟩
 |succ k=>
  simp at f
theorem zpM{pg:Pg}(h:zS=pgL pg):pg=pg0:=by
 cases pg;simp only[zS,pgL,List.cons.injEq]at h;simp only[pg0,Pg.mk.injEq];omega
theorem zl4{pg:Pg}(h:[0,0,0,9,0,0,0,0]=pgL pg):pg=⟨0,0,0,9,0,0,0,0⟩:=by
 cases pg;simp only[pgL,List.cons.injEq]at h;simp only[Pg.mk.injEq];omega
theorem zo1(BF:Bool×Nat×Ma):jr zaw BF pg0 zjE Xd Xc 0 0=(Xc,0,Qm pg0 Xd):=by
 rfl
theorem zo0(BF:Bool×Nat×Ma):jr (Qm ⟨0,0,0,9,0,0,0,0⟩ Xc) BF ⟨0,0,0,9,0,0,0,0⟩ zjE Xc Xd 0 0=(Xc,0,Qm ⟨0,0,0,9,0,0,0,0⟩ Xc):=by
 rfl
theorem zh8{BF:Nat->Nat->Ar->Pg->Bool->Bool×Nat×Ma}{q i:Nat}{a:Ar}{pg:Pg}{ic:Bool}(k:(0:Int)=(q:Int))(hi:(0:Int)=(i:Int))(j:js zaw 0 0 Xc a 0)(b:ZA zaw 0 0=(pgL pg,ic,0)):q=0/\i=0/\a=zjE/\jr zaw (BF q i a pg Xc) pg a ic Xc q i=(Xc,0,Qm pg0 Xd):=by
 have c:q=0:=Wm
 have d:i=0:=Wm
 subst c d;obtain⟨_,e⟩:=zjW rfl j;subst e;rw[zlC]at b;simp only[pJ]at b;obtain⟨g,h,_⟩:=b;have f:=zpM g;subst f h;exact⟨rfl,rfl,rfl,zo1 _⟩
theorem zqR{BF:Nat->Nat->Ar->Pg->Bool->Bool×Nat×Ma}{d:Int}:¬jm zaw BF 0 0 Xc d:=by
 rintro⟨b,h|⟨c,_,h⟩|⟨_,q,j,c,l,k,f,e,g,i,a⟩⟩
 ·exact b (zjW rfl h).1
 ·rw[zlC]at h;exact b h.symm
 rw[(zh8 f e g i).2.2.2]at a;cases a
theorem zhF{BF:Nat->Nat->Ar->Pg->Bool->Bool×Nat×Ma}(i:zco zaw BF 0 0 Xc kk m'):kk=0/\m'=Qm pg0 Xc:=by
 obtain⟨t,q,n,s,r,h,k,j,l,m,p,b,a,c⟩:=i;obtain⟨d,e,f,g⟩:=zh8 (BF:=BF) k j l m;rw[g]at b a c;subst d e f b;have a:(Qm pg0 Xd).fs[0]?=Xa h:=a;cases a;exact⟨rfl,c⟩
theorem zp4{BF:Nat->Nat->Ar->Pg->Bool->Bool×Nat×Ma}{q i:Nat}{a:Ar}{pg:Pg}{ic:Bool}(e:(0:Int)=(q:Int))(hi:(0:Int)=(i:Int))(f:js zaw 0 0 Xc a 0)(g:ZA zaw 0 0=(pgL pg,ic,0)):zrc (jr zaw (BF q i a pg Xc) pg a ic Xc q i).2.1 q i (jr zaw (BF q i a pg Xc) pg a ic Xc q i).2.2:=by
 obtain⟨b,c,h,d⟩:=zh8 (BF:=BF) e hi f g;rw[d];subst b c;exact⟨_,_,_,zrn Xd,rfl,rfl,rfl⟩
theorem zpx(V:MaV)(W:Xn)(BF:Nat->Nat->Ar->Pg->Bool->Bool×Nat×Ma)(i:zq W V zaw):Xp prog 140 #[Xi #[V.f.x,I6 (zaw).aB,V.s.x,V.sb.x,V.sq.x,V.db.x,V.dq.x,V.fl.x,I6 (zaw).cnt,V.ca.x,V.sp.x],I6 0,I6 0,Xh Xc] W fun e w'=>((∃b:Int,e=Xl (Xm #[Xi zR.toArray,I6 0,I6 b])/\jm zaw BF 0 0 Xc b)\/(∃(V':MaV)(k p:Nat)(m':Ma),e=Xl (Xm #[Xi (mL V' m').toArray,I6 (k:Int),I6 0])/\zco zaw BF 0 0 Xc k m'/\ChW W noX p w' V' m'))/\zc W w':=
 zhG V zaw 0 0 Xc W i zqL BF (fun x W w s u v n h e _ _ f _=>absurd f (by rw[e];exact jb n zqL h (k:=1) (fr:=frF) rfl rfl))
  (fun r m d q _ _ a _ c _=>by
   obtain⟨_,e⟩:=zjW rfl a;rw[e]at c;exact absurd c Dc) (fun r m d q t j g a l _=>zp4 j g a l)
theorem zh7{BF:Nat->Nat->Ar->Pg->Bool->Bool×Nat×Ma}{q i:Nat}{a:Ar}{pg:Pg}{ic:Bool}(k:(0:Int)=(q:Int))(hi:(0:Int)=(i:Int))(j:js (Qm ⟨0,0,0,9,0,0,0,0⟩ Xc) 0 0 Xd a 0)(b:ZA (Qm ⟨0,0,0,9,0,0,0,0⟩ Xc) 0 0=(pgL pg,ic,0)):q=0/\i=0/\a=zjE/\jr (Qm ⟨0,0,0,9,0,0,0,0⟩ Xc) (BF q i a pg Xd) pg a ic Xd q i=(Xc,0,Qm ⟨0,0,0,9,0,0,0,0⟩ Xc):=by
 have c:q=0:=Wm
 have d:i=0:=Wm
 subst c d;obtain⟨_,e⟩:=zjW rfl j;subst e;rw[zlB]at b;simp only[pJ]at b;obtain⟨g,h,_⟩:=b;have f:=zl4 g;subst f h;exact⟨rfl,rfl,rfl,zo0 _⟩
theorem zqQ{BF:Nat->Nat->Ar->Pg->Bool->Bool×Nat×Ma}{d:Int}:¬jm (Qm ⟨0,0,0,9,0,0,0,0⟩ Xc) BF 0 0 Xd d:=by
 rintro⟨b,h|⟨c,_,h⟩|⟨_,q,j,c,l,k,f,e,g,i,a⟩⟩
 ·exact b (zjW rfl h).1
 ·rw[zlB]at h;exact b h.symm
 rw[(zh7 f e g i).2.2.2]at a;cases a
theorem zhE{BF:Nat->Nat->Ar->Pg->Bool->Bool×Nat×Ma}(i:zco (Qm ⟨0,0,0,9,0,0,0,0⟩ Xc) BF 0 0 Xd kk m'):kk=0/\m'=Qm ⟨0,0,0,9,0,0,0,0⟩ Xc:=by
 obtain⟨t,q,n,s,r,h,k,j,l,m,p,b,a,c⟩:=i;obtain⟨d,e,f,g⟩:=zh7 (BF:=BF) k j l m;rw[g]at b a c;subst d e f b;have a:(Qm ⟨0,0,0,9,0,0,0,0⟩ Xc).fs[0]?=Xa h:=a;cases a;exact⟨rfl,c⟩
theorem zp3{BF:Nat->Nat->Ar->Pg->Bool->Bool×Nat×Ma}{q i:Nat}{a:Ar}{pg:Pg}{ic:Bool}(e:(0:Int)=(q:Int))(hi:(0:Int)=(i:Int))(f:js (Qm ⟨0,0,0,9,0,0,0,0⟩ Xc) 0 0 Xd a 0)(g:ZA (Qm ⟨0,0,0,9,0,0,0,0⟩ Xc) 0 0=(pgL pg,ic,0)):zrc (jr (Qm ⟨0,0,0,9,0,0,0,0⟩ Xc) (BF q i a pg Xd) pg a ic Xd q i).2.1 q i (jr (Qm ⟨0,0,0,9,0,0,0,0⟩ Xc) (BF q i a pg Xd) pg a ic Xd q i).2.2:=by
 obtain⟨b,c,h,d⟩:=zh7 (BF:=BF) e hi f g;rw[d];subst b c;exact⟨_,_,_,zpJ Xc,rfl,rfl,rfl⟩
theorem zpw(V:MaV)(W:Xn)(BF:Nat->Nat->Ar->Pg->Bool->Bool×Nat×Ma)(i:zq W V (Qm ⟨0,0,0,9,0,0,0,0⟩ Xc)):Xp prog 140 #[Xi #[V.f.x,I6 ((Qm ⟨0,0,0,9,0,0,0,0⟩ Xc)).aB,V.s.x,V.sb.x,V.sq.x,V.db.x,V.dq.x,V.fl.x,I6 ((Qm ⟨0,0,0,9,0,0,0,0⟩ Xc)).cnt,V.ca.x,V.sp.x],I6 0,I6 0,Xh Xd] W fun e w'=>((∃b:Int,e=Xl (Xm #[Xi zR.toArray,I6 0,I6 b])/\jm (Qm ⟨0,0,0,9,0,0,0,0⟩ Xc) BF 0 0 Xd b)\/(∃(V':MaV)(k p:Nat)(m':Ma),e=Xl (Xm #[Xi (mL V' m').toArray,I6 (k:Int),I6 0])/\zco (Qm ⟨0,0,0,9,0,0,0,0⟩ Xc) BF 0 0 Xd k m'/\ChW W noX p w' V' m'))/\zc W w':=
 zhG V (Qm ⟨0,0,0,9,0,0,0,0⟩ Xc) 0 0 Xd W i (zpJ Xc) BF (fun x W w s u v n h e _ _ f _=>absurd f (by rw[e];exact jb n (zpJ Xc) h (k:=1) (fr:=frF) rfl rfl))
  (fun r m d q _ _ a _ c _=>by
   obtain⟨_,e⟩:=zjW rfl a;rw[e]at c;exact absurd c Dc) (fun r m d q t j g a l _=>zp3 j g a l)
def zqs:Cl:=⟨1,0,0,1,-1,0,Xc,Xc,Xd,noS⟩
def zqr(s:Sli):Cl:=⟨5,0,3,0,0,0,Xd,Xd,Xd,s⟩
def zqq:Cl:=⟨4,0,3,1,0,0,Xd,Xd,Xd,noS⟩
theorem zoh{b n:Int}{l:List Int}(h:J8 (Zr 2 2 0) 0 (zqH (Zr 2 2 0) zqs) b n l m'):b=0/\m'=zaw:=by
 rcases h with⟨_,_,_,c⟩|⟨_,_,q,s,e,a,d⟩
 ·exact absurd (⟨rfl,rfl,rfl⟩:J7 (Zr 2 2 0) 0 0 ⟨Xc,[],Zq⟩) (c 0 _)
 have f:q=0:=by have:=e.1;simp only[zqs]at this;omega
 subst f;have i:=e.2.1;cases i;have g:zhq [] (arC zqs)=([zjE],0):=zrt;rw[g]at a d;have a:b=0:=a;exact⟨a,(d a).2⟩
theorem zj0{s:Sli}(p:s.n=1){BF:Nat->Nat->Ar->Pg->Bool->Bool×Nat×Ma}{g n:Int}{l:List Int}(h:J8 zaw 0 (zdz zaw BF (zqr s) [9]) g n l m'):g=0/\m'=Qm ⟨0,0,0,9,0,0,0,0⟩ Xc:=by
 have r:qz (zqr s).pt ((zqr s).dv.n:Int)=Xc:=by
  show qz 3 (s.n:Int)=Xc
  rw[p]
  decide
 rcases h with⟨_,_,_,e⟩|⟨_,_,⟨_,h⟩|⟨k,_,u,v,d,w,⟨_,f,a,_⟩,q,m⟩⟩
 ·exact absurd (⟨rfl,rfl,rfl⟩:J7 zaw 0 0 ⟨Xc,[zjE],Zq⟩) (e 0 _)
 ·rcases h with⟨h,_⟩|⟨_,h⟩|⟨_,_,u,v,d,t,x,f,a,i,_⟩
  ·rw[r]at h;cases h
  ·exact absurd h zqR
  obtain⟨b,c⟩:=zhF f;subst b c;have a:(Qm pg0 Xc).fs[0]?=Xa d:=a;cases a;have i:(-1:Int)=(t:Int):=i;omega
 obtain⟨b,c⟩:=zhF f;subst b c;have a:(Qm pg0 Xc).fs[0]?=Xa d:=a;cases a;have j:=zl4 (pg:=w) q;subst j;exact⟨k,m⟩
theorem zmn{BF:Nat->Nat->Ar->Pg->Bool->Bool×Nat×Ma}{g n:Int}{l:List Int}(h:J8 (Qm ⟨0,0,0,9,0,0,0,0⟩ Xc) 0 (ziR (Qm ⟨0,0,0,9,0,0,0,0⟩ Xc) BF zqq) g n l m'):g=0/\l=[9]:=by
 have m:qz zqq.pt zqq.n=Xc:=Dc
 rcases h with⟨_,_,_,e⟩|⟨_,⟨_,_,h⟩|⟨j,_,q,d,⟨_,f,a,_⟩,k⟩⟩
 ·exact absurd (⟨rfl,rfl,rfl⟩:J7 (Qm ⟨0,0,0,9,0,0,0,0⟩ Xc) 0 0 ⟨Xc,[zjE],tbA Xc⟩) (e 0 _)
 ·rcases h with⟨h,_⟩|⟨_,h⟩|⟨_,_,q,s,d,p,r,f,a,i,_⟩
  ·rw[m]at h;cases h
  ·exact absurd h zqQ
  obtain⟨b,c⟩:=zhE f;subst b c;have a:(Qm ⟨0,0,0,9,0,0,0,0⟩ Xc).fs[0]?=Xa d:=a;cases a;have i:(-1:Int)=(p:Int):=i;omega
 obtain⟨b,c⟩:=zhE f;subst b c;have a:(Qm ⟨0,0,0,9,0,0,0,0⟩ Xc).fs[0]?=Xa d:=a;cases a;exact⟨j,k⟩
theorem zrw{BF:Nat->Nat->Ar->Pg->Bool->Bool×Nat×Ma}(kk:Nat)(m':Ma)(h:zco zaw BF 0 0 Xc kk m'):∃fr:Fr,m'.fs[kk]?=Xa fr/\(fr.f=-1\/∃(j:Nat)(fl:Fl),fr.f=(j:Int)/\m'.fl[j]?=Xa fl)/\0<=fr.x/\fr.x<1000:=by
 obtain⟨a,b⟩:=zhF h;subst a b;exact⟨_,rfl,.inl rfl,Dc,Dc⟩
theorem zrv{BF:Nat->Nat->Ar->Pg->Bool->Bool×Nat×Ma}(kk:Nat)(m':Ma)(h:zco (Qm ⟨0,0,0,9,0,0,0,0⟩ Xc) BF 0 0 Xd kk m'):∃fr:Fr,m'.fs[kk]?=Xa fr/\(fr.f=-1\/∃(j:Nat)(fl:Fl),fr.f=(j:Int)/\m'.fl[j]?=Xa fl)/\0<=fr.x/\fr.x<1000:=by
 obtain⟨a,b⟩:=zhE h;subst a b;exact⟨_,rfl,.inl rfl,Dc,Dc⟩
def JA(i:Nat)(m:Ma)(az:List (Int×Int×List Int)):Prop:=
 (i=0->m=Zr 2 2 0)/\(i=1->m=zaw)/\(i=2->m=Qm ⟨0,0,0,9,0,0,0,0⟩ Xc)/\(i=3->∃n,az[2]?=Xa (0,n,[9]))
theorem zp1(w:Xn)(s:Sli)(A:s.n=1)(B:zj byE w (s.x) [9])(i:Nat)(c:Cl)(m:Ma)(az:List (Int×Int×List Int))(a:[zqs,zqr s,zqq][i]?=Xa c)(q:az.length=i)(z:JA i m az):
  maW m=0/\(1<=c.kind/\c.kind<=15)/\∃K,(∀W,zc w W->Ql W m c K)/\∀e n l m' f,K e n l m'->((e=0/\f=m')\/(e≠0/\f=m))->JA (i+1) f (az++[(e,n,l)]):=by
 obtain⟨u,v,x,_⟩:=z
 match i,a,q,u,v,x with
 |0,a,q,u,_,_=>
  cases a;have g:=u rfl;subst g;refine⟨zn1,Dc,J8 (Zr 2 2 0) 0 (zqH (Zr 2 2 0) zqs),fun W _=>zfT W (Zr 2 2 0) zqs rfl Dc Dc Dc Dc Dc,fun e n l m' f p b=>?_⟩
  obtain⟨j,k⟩:=zoh p
  rcases b with⟨_,d⟩|⟨d,_⟩
  ·exact⟨(fun h=>nomatch h),(fun _=>by rw[d,k]),(fun h=>nomatch h),(fun h=>nomatch h)⟩
  exact absurd j d
 |1,a,q,_,v,_=>
  cases a;have g:=v rfl;subst g;refine⟨zi2,by show(1:Int)<=5/\(5:Int)<=15;omega,J8 zaw 0 (zdz zaw (fun _ _ _ _ _=>(Xd,0,zaw)) (zqr s) [9]),fun W y=>zcJ W zaw (zqr s) [9] _ rfl (by show _<=(3:Int);omega) (by show(3:Int)<=_;omega) (B.aA y) (by show(s.n:Int)<=_;omega) (fun r t b=>zpx r t _ b) zrw,fun e n l m' f p b=>?_⟩
  obtain⟨j,k⟩:=zj0 A p
  rcases b with⟨_,d⟩|⟨d,_⟩
  ·exact⟨(fun h=>nomatch h),(fun h=>nomatch h),(fun _=>by rw[d,k]),(fun h=>nomatch h)⟩
  exact absurd j d
 |2,a,q,_,_,x=>
  cases a;have g:=x rfl;subst g;refine⟨zi1 Xc,Dc,J8 (Qm ⟨0,0,0,9,0,0,0,0⟩ Xc) 0 (ziR (Qm ⟨0,0,0,9,0,0,0,0⟩ Xc) (fun _ _ _ _ _=>(Xd,0,zaw)) zqq),fun W y=>zd1 W (Qm ⟨0,0,0,9,0,0,0,0⟩ Xc) zqq _ rfl Dc Dc Dc Dc (fun r t b=>zpw r t _ b) zrv,fun e n l m' f p b=>?_⟩
  obtain⟨j,k⟩:=zmn p;refine⟨(fun h=>nomatch h),(fun h=>nomatch h),(fun h=>nomatch h),fun _=>⟨n,?_⟩⟩
  rw[aR Wm,q,j,k]
  rfl
 |i+3,a,_,_,_,_=>exact absurd a Sm
theorem ziL{α:Type}(E:Elt α)(w:Xn)(l:List α)(cs:Array Xq)(t:TypeId)(n:Nat)(a:cs=(l.flatMap E.enc).toArray)(c:n=l.length)(b:l.length*E.bytes<=140737488355328):zj E (w.alloc (Xk cs t)) (O (Xa ⟨w.heap.size,0,Xb⟩) n n) l:=by
 subst a c;exact⟨⟨_,l.length,rfl,fun h=>(by cases h),fun y d=>by
  cases d;exact q8.aD w (l.flatMap E.enc) t rfl⟩,b⟩
theorem zi5(p a x:Int)(w:Xn):Xp prog 9 #[I6 p,I6 a,U8 x] w fun e w'=>(∃s:Sli,e=Xl (Xi (clL ⟨5,p,a,0,0,0,Xd,Xd,Xd,s⟩).toArray)/\s.n=1/\zb byE w.heap.size w' (s.x) [x])/\zc w w':=by
 obtain⟨i,d⟩:=kA w.heap.size;obtain⟨b,c⟩:=kB (w.alloc (Xk #[I6 0,I6 0,I6 0,I6 0,I6 0,I6 0,Xh Xd,Xh Xd,Xh Xd,eS] 25));have k:=gA c
 have m:=xPT c d
 have g:Xo (_=b):=c;obtain⟨A,l⟩:=kA b.heap.size;have f:Xo (i<A):=show _<_ by rw[<-l.out];exact m.box.lt
 clear c
 go_enter func9,ntmps9
 go_upto_region 1 with fail;rw[g.out,d.out]
 go_wp2_with(refine zh rfl 25 (.tmp 6) (.tmp 11) rfl i rfl [I6 5,I6 p,I6 a,I6 0,I6 0,I6 0,Xh Xd,Xh Xd,Xh Xd,O (Xa ⟨b.heap.size,0,Xb⟩) 1 1] rfl (m.aA (za _ _)) rfl Kr (by simp[Value.oneCell']) ?_)
 intro h n j B;clear B;have q:Xo (zg h i 25 [I6 5,I6 p,I6 a,I6 0,I6 0,I6 0,Xh Xd,Xh Xd,Xh Xd,O (Xa ⟨b.heap.size,0,Xb⟩) 1 1]):=n;have r:Xo (zc w h):=show zc _ _ from zd (k.trans (za _ _)) j (Hm d.out)
 have t:Xo (zb byE w.heap.size h (O (Xa ⟨b.heap.size,0,Xb⟩) 1 1) [x]):=dD<|by
  have u:zb byE b.heap.size (b.alloc (Xk #[U8 x] 5)) (.slice (Xa ⟨b.heap.size,0,Xb⟩) [x].length 1) [x]:=
   zb.mk' (E:=byE) (nR _) (zg.aD b [U8 x] 5 rfl) (nR _) Dc rfl rfl (by show 1*1<=_;omega)
  exact(u.grown j (fun z y e=>by
   have v:Xa b.heap.size=Xa z:=y;simp only[Option.some.injEq]at v e;have:=f.out;have:=l.out
   omega)).base (bS k)
 clear n j;go_wp2;refine bodyPost_ret (zB rfl _ rfl q.box underlying25 rfl Kr) rfl ⟨⟨⟨Xa ⟨b.heap.size,0,Xb⟩,1,1⟩,rfl,rfl,t⟩,r⟩
theorem zpK(p a x:Int)(w:Xn):Xp prog 9 #[I6 p,I6 a,U8 x] w fun e w'=>(∃s:Sli,e=Xl (Xi (clL ⟨5,p,a,0,0,0,Xd,Xd,Xd,s⟩).toArray)/\s.n=1/\zj byE w' (s.x) [x])/\zc w w':=by
 refine(zi5 p a x w).mono ?_;rintro e w'⟨⟨s,b,c,d⟩,f⟩;exact⟨⟨s,b,c,d.at⟩,f⟩
theorem zo6(a n:Int)(w:Xn):Xp prog 7 #[I6 a,I6 n] w fun e w'=>e=Xl (Xi #[I6 1,I6 0,I6 a,I6 n,I6 (-1),I6 0,Xh Xc,Xh Xc,Xh Xd,eS])/\zc w w':=by
 go_enter func7,ntmps7
 go_wp2;refine bodyPost_ret (zB rfl _ rfl (Box.aD _ [I6 1,I6 0,I6 a,I6 n,I6 (-1),I6 0,Xh Xc,Xh Xc,Xh Xd,eS] _ rfl) underlying25 rfl Kr) rfl ⟨rfl,(show Below _ _ _ from(bR _ _).alloc (nR _) _)⟩
theorem zmD(p a:Int)(w:Xn):Xp prog 10 #[I6 p,I6 a] w fun e w'=>e=Xl (Xi #[I6 4,I6 p,I6 a,I6 1,I6 0,I6 0,Xh Xd,Xh Xd,Xh Xd,eS])/\zc w w':=by
 go_enter func10,ntmps10
 go_wp2;refine bodyPost_ret (zB rfl _ rfl (Box.aD _ [I6 4,I6 p,I6 a,I6 1,I6 0,I6 0,Xh Xd,Xh Xd,Xh Xd,eS] _ rfl) underlying25 rfl Kr) rfl ⟨rfl,(show Below _ _ _ from(bR _ _).alloc (nR _) _)⟩
theorem zbc(n:Int)(s:Sli)(x:Int)(xs:List Int)(w:Xn)(h:zj byE w (s.x) (x::xs)):Xp prog 12 #[Qk 0 n s] w fun e w'=>e=Xl (U8 x)/\zc w w':=by
 have p:s.n=(x::xs).length:=h.n;obtain⟨l,c,m⟩:=h.aZ 0 x rfl;obtain⟨A,B,t⟩:=s;simp only at c p;subst c p;unfold Qk;simp only;have b:0<(x::xs).length:=Nat.succ_pos _;obtain⟨i,d⟩:=kA ((x::xs).length);rw[d.out]at b⊢;obtain⟨y,k⟩:=kA w.heap.size;obtain⟨g,a⟩:=kB (w.alloc (Xk #[I6 0,I6 n,O (Xa l) i t] 54));have j:=gA a
 have A1:=xPT a k
 have f:Xo (_=g):=a;have z:g.cell? l=Xa (U8 x):=by simpa[Addr.add]using m g j 0 _ rfl
 clear a m h;have r:decide ((i:Int)<1)=Xd:=decide_eq_false Wm
 have q:(0:Int)<(i:Int):=Wm
 clear b
 go_enter func12,ntmps12
 go_upto_region 1 with fail;rw[f.out,k.out];have u:=A1.box.c 0 rfl;have v:=A1.box.c 2 rfl;go_wp2;go_ret;exact⟨rfl,j⟩
theorem zhj(w:Xn):Xp prog 6 #[] w fun e w'=>e=Xl (Xh Xc)/\zc w w':=by
 have n:Xo (∀W,Xp prog 7 #[I6 0,I6 1] W fun e w'=>e=Xl (Xi #[I6 1,I6 0,I6 0,I6 1,I6 (-1),I6 0,Xh Xc,Xh Xc,Xh Xd,eS])/\zc W w'):=fun W=>zo6 0 1 W
 have r:Xo (∀W,Xp prog 9 #[I6 0,I6 3,U8 9] W fun e w'=>(∃s:Sli,e=Xl (Xi #[I6 5,I6 0,I6 3,I6 0,I6 0,I6 0,Xh Xd,Xh Xd,Xh Xd,s.x])/\s.n=1/\zj byE w' (s.x) [9])/\zc W w'):=fun W=>zpK 0 3 9 W
 have p:Xo (∀W,Xp prog 10 #[I6 0,I6 3] W fun e w'=>e=Xl (Xi #[I6 4,I6 0,I6 3,I6 1,I6 0,I6 0,Xh Xd,Xh Xd,Xh Xd,eS])/\zc W w'):=fun W=>zmD 0 3 W
 go_enter func6,ntmps6
 go_wp2_with fail;refine(n _).mono ?_;rintro e I⟨rfl,D⟩;have P:Xo (zc w I):=D;clear D;go_wp2_with fail;refine(r _).mono ?_;rintro e a0⟨⟨s,rfl,L,M⟩,E⟩;have Q:=dD (P.trans E);have q:Xo (s.n=1):=L;have X:Xo (zj byE a0 (s.x) [9]):=M;clear E L M;go_wp2_with fail;refine(p _).mono ?_;rintro e a1⟨rfl,v⟩;have R:=dD (Q.trans v);have Y:=dD (X.aA v);clear v;have a:=ziL clE a1 [zqs,zqr s,zqq] #[I6 1,I6 0,I6 0,I6 1,I6 (-1),I6 0,Xh Xc,Xh Xc,Xh Xd,eS,I6 5,I6 0,I6 3,I6 0,I6 0,I6 0,Xh Xd,Xh Xd,Xh Xd,s.x,I6 4,I6 0,I6 3,I6 1,I6 0,I6 0,Xh Xd,Xh Xd,Xh Xd,eS] 25 3 rfl rfl (by show 3*80<=_;omega)
 have f:=zi6 2 2 0 ⟨Wm,Wm,Wm⟩ _ _ _ a (by show 3<=80;omega) JA ⟨fun _=>rfl,(fun h=>nomatch h),(fun h=>nomatch h),(fun h=>nomatch h)⟩ (zp1 _ s q (Y.aA (za _ _)))
 go_wp2_with(go_at_call 11;refine f.mono ?_)
 clear f a;rintro e u⟨⟨Z,a5,y,a9,a8,rfl,K,g,d⟩,F⟩;obtain⟨B,H⟩:=K.2.2.2 rfl;obtain⟨x,N,j,k,i⟩:=d 2 _ H;obtain⟨a7,A,m⟩:=g.aZ 2 x N;cases A;have S:=dD ((R.trans (za _ _)).trans F);have t:Xo (zj byE u (x.s.x) [9]):=i;have V:Xo (∀W,zc u W->W.cell? ⟨y,6,Xb⟩=Xa (I6 0)/\W.cell? ⟨y,7,Xb⟩=Xa (I6 B)/\W.cell? ⟨y,8,Xb⟩=Xa (x.s.x)):=show∀W,_ from fun W z=>by
  have j:x.er=0:=j;have k:x.n=B:=k;rw[<-j,<-k];exact⟨m W z 0 _ rfl,m W z 1 _ rfl,m W z 2 _ rfl⟩
 clear K g d F H N j k i m;go_upto_region 2 with fail;obtain⟨C,b⟩:=kB (u.alloc (Xk (mL Z a5).toArray 45));have l:=gP b
 obtain⟨a2,a3,a4⟩:=V.out C l;have T:=dD (S.trans l);have c:=zbc B x.s 9 [] C (t.aA l);unfold Qk at c;rw[b];clear b l
 go_wp2_with(go_at_call 12;refine c.mono ?_)
 clear c a2 a3 a4;rintro e a6⟨rfl,G⟩;have U:=dD (T.trans G);clear G;go_wp2;go_ret;exact⟨rfl,U⟩
theorem zlD(f a n:Int)(s:Bool)(w:Xn):Xp prog 8 #[I6 f,I6 a,I6 n,Xh s] w fun e w'=>e=Xl (Xi #[I6 1,I6 0,I6 a,I6 n,I6 f,I6 0,Xh Xc,Xh Xc,Xh s,eS])/\zc w w':=by
 go_enter func8,ntmps8
 go_wp2;refine bodyPost_ret (zB rfl _ rfl (Box.aD _ [I6 1,I6 0,I6 a,I6 n,I6 f,I6 0,Xh Xc,Xh Xc,Xh s,eS] _ rfl) underlying25 rfl Kr) rfl ⟨rfl,(show Below _ _ _ from(bR _ _).alloc (nR _) _)⟩
def Rws(B:Nat)(w:Xn)(L:List (Sli×Int)):Prop:=∀p∈L,p.1.n=1/\zb byE B w (O p.1.a p.1.n p.1.c) [p.2]
theorem Rws.aA{w:Xn}{L:List (Sli×Int)}(h:Rws B w L)(g:zc w w'):Rws B w' L:=fun p a=>⟨(h p a).1,(h p a).2.aA g⟩
theorem Rws.beside{q:Nat}{w:Xn}{o:Obj}{u:Xq}{L:List (Sli×Int)}{M:List Cl}(h:Rws B w L)(k:zb clE q w u M)(g:(w.alloc o).grownBy w' u.ownBlock):Rws B w' L:=fun p a=>⟨(h p a).1,((h p a).2.aA (za w o)).grown g fun b c e=>((h p a).2.apart k Dc) b c e⟩
theorem Rws.more{w:Xn}{L:List (Sli×Int)}(h:Rws B w L){s:Sli}{x:Int}(c:s.n=1)(b:zb byE B w (s.x) [x]):Rws B w ((s,x)::L):=fun p a=>by
 rcases mC.1 a with rfl|a
 ·exact⟨c,b⟩
 exact h p a
theorem zeM(j:Int)(x y:Int)(M:Int)(w:Xn):Xp prog 5 #[I6 j,U8 x,U8 y,I6 M] w fun e w'=>e=Xl (Xh Xc)/\zc w w':=by
 have ag:=zhj w
 go_enter func5,ntmps5
 go_wp2_with fail;refine ag.mono ?_;clear ag;rintro e an⟨rfl,bz⟩;have Q:Xo (zc w an):=bz;clear bz
 by_cases P:j<0
 ·have b7:decide (j<0)=Xc:=decide_eq_true P;clear P;go_wp2;go_ret;exact⟨rfl,Q⟩
 have b7:decide (j<0)=Xd:=decide_eq_false P
 by_cases R:23<j
 ·have b8:decide (23<j)=Xc:=decide_eq_true R;clear P R;go_wp2;go_ret;exact⟨rfl,Q⟩
 have b8:decide (23<j)=Xd:=decide_eq_false R
 by_cases a0:M<0
 ·have b9:decide (M<0)=Xc:=decide_eq_true a0;clear P R a0;go_wp2;go_ret;exact⟨rfl,Q⟩
 have b9:decide (M<0)=Xd:=decide_eq_false a0
 by_cases a8:6<M
 ·have ba:decide (6<M)=Xc:=decide_eq_true a8;clear P R a0 a8;go_wp2;go_ret;exact⟨rfl,Q⟩
 have ba:decide (6<M)=Xd:=decide_eq_false a8
 by_cases bk:x=255
 ·subst bk;clear P R a0 a8;go_wp2;go_ret;exact⟨rfl,Q⟩
 have cx:(x==255)=Xd:=beq_eq_false_iff_ne.2 bk;clear bk
 by_cases bl:y=255
 ·subst bl;clear P R a0 a8;go_wp2;go_ret;exact⟨rfl,Q⟩
 have cy:(y==255)=Xd:=beq_eq_false_iff_ne.2 bl;clear bl;obtain⟨N,b0⟩:∃N:Nat,Xo (M=(N:Int)):=⟨M.toNat,show _=_ by omega⟩
 obtain⟨A,S⟩:∃A:Nat,Xo (j=(A:Int)):=⟨j.toNat,show _=_ by omega⟩
 rw[b0.out]at b9 ba;rw[S.out]at b7 b8;have z:Xo (N<=6):=dD<|Hm b0.out
 have c6:(A:Int)<=23:=Hm S.out
 have U:Xo (A/8<3/\A%8<8/\(A:Int)=((8*(A/8)+A%8:Nat):Int)):=⟨Wm,Wm,Wm⟩
 rw[b0.out,S.out];clear P R a0 a8;have b1:Xo (∀W,Xp prog 8 #[I6 0,I6 5,I6 3,Xh Xc] W fun e w'=>e=Xl (Xi #[I6 1,I6 0,I6 5,I6 3,I6 0,I6 0,Xh Xc,Xh Xc,Xh Xc,eS])/\zc W w'):=fun W=>zlD 0 5 3 Xc W
 have b2:Xo (∀u h ap W,Xp prog 9 #[I6 u,I6 h,U8 ap] W fun e w'=>(∃v:Sli,e=Xl (Xi #[I6 5,I6 u,I6 h,I6 0,I6 0,I6 0,Xh Xd,Xh Xd,Xh Xd,v.x])/\v.n=1/\zb byE W.heap.size w' (v.x) [ap])/\zc W w'):=fun u h ap W=>zi5 u h ap W
 have ay:Xo (∀u h W,Xp prog 10 #[I6 u,I6 h] W fun e w'=>e=Xl (Xi #[I6 4,I6 u,I6 h,I6 1,I6 0,I6 0,Xh Xd,Xh Xd,Xh Xd,eS])/\zc W w'):=fun u h W=>zmD u h W
 obtain⟨B,bo⟩:=kA an.heap.size;have co:Xo (B<=an.heap.size):=dD<|by rw[bo.out];exact nR _
 have cd:Xo (w.heap.size<=B):=dD<|by rw[<-bo.out];exact bS Q.out
 have ci:Xo (Rws B an []):=fun u dd=>nomatch dd
 go_upto_region 5 with fail;clear b7 b8 b9 ba cx cy;go_wp2_with fail;refine(b1 _).mono ?_;rintro e ao⟨rfl,g⟩;have cj:=dD (ci.aA g);have c9:=dD (Q.trans g);have bq:Xo (B<=ao.heap.size):=show _<=_ from nT co (bS g)
 clear g;go_wp2_with fail;obtain⟨d,V⟩:=kA ao.heap.size;obtain⟨b4,H⟩:=kB (ao.alloc (Xk #[U8 x] 5));have g:=gP H
 have ck:Xo (Rws B b4 ((⟨Xa ⟨d,0,Xb⟩,1,1⟩,x)::[])):=dD<|(cj.aA g).more rfl (by
  have Z:zg b4 d 5 [U8 x]:=by rw[<-H];exact zg.aD ao _ _ V.symm
  exact zb.mk' (E:=byE) (l:=[x]) (by have:=bq.out;have:=V.out;omega) Z (by show 1<=1;omega) (by show 1<=maxLen;decide) rfl rfl (by show 1*_<=_;decide))
 have ca:=dD (c9.trans g);have cp:Xo (B<=b4.heap.size):=show _<=_ from nT bq (bS g)
 rw[H,V.out];clear g H;refine(ay 0 (40+(A:Int)) _).mono ?_;rintro e a3⟨rfl,g⟩;have cl:=dD (ck.aA g);have aw:=dD (ca.trans g);have br:Xo (B<=a3.heap.size):=show _<=_ from nT cp (bS g)
 clear g;go_wp2_with fail;refine(b2 0 (40+(A:Int)) y _).mono ?_;rintro e c⟨⟨i,rfl,aq,p⟩,g⟩;have cm:Xo (Rws B c ((i,y)::(⟨Xa ⟨d,0,Xb⟩,1,1⟩,x)::[])):=(cl.aA g).more aq (p.base br);have a1:=dD (aw.trans g);have bs:Xo (B<=c.heap.size):=show _<=_ from nT br (bS g)
 clear aq p g;go_upto_region 6 with fail;obtain⟨q,am⟩:=kA c.heap.size;obtain⟨b5,K⟩:=kB (c.alloc (Xk #[I6 8,I6 0,I6 0,I6 0,I6 0,I6 0,Xh Xd,Xh Xd,Xh Xd,eS,I6 11,I6 0,I6 0,I6 24,I6 0,I6 0,Xh Xd,Xh Xd,Xh Xd,eS,I6 1,I6 0,I6 5,I6 3,I6 0,I6 0,Xh Xc,Xh Xc,Xh Xc,eS,I6 10,I6 0,I6 (A:Int),I6 0,I6 0,I6 0,Xh Xd,Xh Xd,Xh Xd,O (Xa ⟨d,0,Xb⟩) 1 1,I6 4,I6 0,I6 (40+(A:Int)),I6 1,I6 0,I6 0,Xh Xd,Xh Xd,Xh Xd,eS,I6 5,I6 0,I6 (40+(A:Int)),I6 0,I6 0,I6 0,Xh Xd,Xh Xd,Xh Xd,i.x] 25));have gA:=gP K
 have cg:Xo (zb clE q b5 (O (Xa ⟨q,0,Xb⟩) 6 6) (zhZ (A:Int) ⟨Xa ⟨d,0,Xb⟩,1,1⟩ i)):=dD<|by
  have Z:zg b5 q 25 [I6 8,I6 0,I6 0,I6 0,I6 0,I6 0,Xh Xd,Xh Xd,Xh Xd,eS,I6 11,I6 0,I6 0,I6 24,I6 0,I6 0,Xh Xd,Xh Xd,Xh Xd,eS,I6 1,I6 0,I6 5,I6 3,I6 0,I6 0,Xh Xc,Xh Xc,Xh Xc,eS,I6 10,I6 0,I6 (A:Int),I6 0,I6 0,I6 0,Xh Xd,Xh Xd,Xh Xd,O (Xa ⟨d,0,Xb⟩) 1 1,I6 4,I6 0,I6 (40+(A:Int)),I6 1,I6 0,I6 0,Xh Xd,Xh Xd,Xh Xd,eS,I6 5,I6 0,I6 (40+(A:Int)),I6 0,I6 0,I6 0,Xh Xd,Xh Xd,Xh Xd,i.x]:=by rw[<-K];exact zg.aD c _ _ am.symm
  exact zb.mk' (E:=clE) (l:=zhZ (A:Int) ⟨Xa ⟨d,0,Xb⟩,1,1⟩ i) (nR _) Z (by show 6<=6;omega) Dc rfl rfl (by show 6*80<=_;omega)
 have cb:=dD (a1.trans gA);have cn:=dD (cm.aA gA);have cq:Xo (q<=b5.heap.size):=show _<=_ by rw[<-am.out];exact bS gA
 have ae:Xo (w.heap.size<=q):=dD<|by rw[<-am.out];exact bS a1.out
 rw[K,am.out];clear K gA;go_wp2
 go_loopg[9,54] N (fun d6 di bj wr=>∃(f:Nat)(h:Option Addr)(b6:Nat),f<=N/\N-f<=d6/\bj=I6 f/\di=O h (6+2*f) b6/\Xo (zc w wr)/\Xo (q<=wr.heap.size)/\Xo (zb clE q wr (O h (6+2*f) b6) (zhZ (A:Int) ⟨Xa ⟨d,0,Xb⟩,1,1⟩ i++zhp f))/\Xo (Rws B wr ((i,y)::(⟨Xa ⟨d,0,Xb⟩,1,1⟩,x)::[])))
 exact⟨0,_,6,nZ _,Wm,rfl,rfl,cb,cq,cg,cn⟩
 obtain⟨f,h,b6,bh,bf,rfl,rfl,bn,X,a2,bp⟩:=hrel;have ai:(zhZ (A:Int) ⟨Xa ⟨d,0,Xb⟩,1,1⟩ i++zhp f).length=6+2*f:=by rw[lA,Zi];rfl
 have ab:Xo (_=_):=ai;clear ai
 by_cases I:f<N
 ·have aj:=kC I
  have dc:(f:Int)<=6:=Hm z.out
  have b:=ziL clE wr [mCl,mEv] #[I6 14,I6 0,I6 0,I6 0,I6 0,I6 0,Xh Xd,Xh Xd,Xh Xd,eS,I6 13,I6 0,I6 0,I6 0,I6 0,I6 0,Xh Xd,Xh Xd,Xh Xd,eS] 25 2 rfl rfl (by show 2*80<=_;omega)
  go_wp2_with(at_builtin;refine zr (E:=clE) rfl (.tmp 56) (.tmp 59) rfl q _ (zhZ (A:Int) ⟨Xa ⟨d,0,Xb⟩,1,1⟩ i++zhp f) rfl (a2.aA (za _ _)) _ [mCl,mEv] rfl b ?qb ?qc ?_)
  case qb=>
   rw[ab.out]
   show(6+2*f+2)*80<=_
   omega
  case qc=>have:=X.out;simp;omega
  clear b;intro bm c k F;have hlen:(zhZ (A:Int) ⟨Xa ⟨d,0,Xb⟩,1,1⟩ i++zhp (f+1)).length=6+2*(f+1):=by rw[lA,Zi];rfl
  have k:zb clE q c bm (zhZ (A:Int) ⟨Xa ⟨d,0,Xb⟩,1,1⟩ i++zhp (f+1)):=k;obtain⟨bt,bx,rfl⟩:=k.form;rw[hlen]at k⊢;have cf:Xo (zb clE q c (O bt (6+2*(f+1)) bx) (zhZ (A:Int) ⟨Xa ⟨d,0,Xb⟩,1,1⟩ i++zhp (f+1))):=k;have a1:Xo (zc w c):=show zc _ _ from zT (bn.trans (za _ _)) F (fun g be=>by
   have Z:=(a2.lt g be).1;have:=ae.out
   omega)
  have bs:Xo (q<=c.heap.size):=dD<|by
   have Z:=F.size;have:=X.out
   simp at Z
   omega
  have ch:Xo (Rws B c ((i,y)::(⟨Xa ⟨d,0,Xb⟩,1,1⟩,x)::[])):=bp.beside a2 F;clear k F hlen;go_wp2
  go_roundg (N-(f+1));exact⟨f+1,bt,bx,Wm,Wm,Gn,rfl,a1,bs,cf,ch⟩;omega
 have aj:=kD I
 have e:N=f:=Wm
 subst e;clear bf bh I;have b:=ziL clE wr (zqD (A:Int)) #[I6 9,I6 0,I6 (A:Int),I6 1,I6 0,I6 0,Xh Xd,Xh Xd,Xh Xd,eS,I6 12,I6 0,I6 0,I6 0,I6 0,I6 0,Xh Xd,Xh Xd,Xh Xd,eS,I6 15,I6 0,I6 0,I6 0,I6 0,I6 0,Xh Xd,Xh Xd,Xh Xd,eS,I6 9,I6 0,I6 (A:Int),I6 1,I6 0,I6 0,Xh Xd,Xh Xd,Xh Xd,eS] 25 4 rfl rfl (by show 4*80<=_;omega)
 go_upto_region 11 with(at_builtin;refine zr (E:=clE) rfl (.tmp 62) (.tmp 69) rfl q _ (zhZ (A:Int) ⟨Xa ⟨d,0,Xb⟩,1,1⟩ i++zhp N) rfl (a2.aA (za _ _)) _ (zqD (A:Int)) rfl b ?qb ?qc ?_)
 case qb=>
  rw[Zi]
  show(6+2*N+4)*80<=_
  have:=z.out;omega
 case qc=>have:=X.out;simp;omega
 clear b;intro dj a3 s Y;rw[<-Xz]at s;have hlen:(zhZ (A:Int) ⟨Xa ⟨d,0,Xb⟩,1,1⟩ i++zhp N++zqD (A:Int)).length=6+2*N+4:=by rw[lA,ab.out];rfl
 obtain⟨cv,cw,rfl⟩:=s.form;rw[hlen]at s⊢;have ce:Xo (zj clE a3 (O cv (6+2*N+4) cw) (zhZ (A:Int) ⟨Xa ⟨d,0,Xb⟩,1,1⟩ i++zhp N++zqD (A:Int))):=s.at;have aw:Xo (zc w a3):=show zc _ _ from zT (bn.trans (za _ _)) Y (fun g be=>by
  have Z:=(a2.lt g be).1;have:=ae.out
  omega)
 have b3:Xo (Rws B a3 ((i,y)::(⟨Xa ⟨d,0,Xb⟩,1,1⟩,x)::[])):=bp.beside a2 Y;obtain⟨T,ac⟩:=kA (6+2*N+4);have L:=zi6 3 1 3 ⟨Wm,Wm,Wm⟩ _ (zhZ (A:Int) ⟨Xa ⟨d,0,Xb⟩,1,1⟩ i++zhp N++zqD (A:Int)) a3 ce (by rw[hlen];have:=z.out;omega) (JM (A/8) (A%8) x y N) ⟨⟨fun _=>rfl,fun dp G=>absurd G Wm,fun G=>absurd G Wm,fun G=>absurd G Wm,fun G=>absurd G Wm⟩,fun r h G=>absurd G Wm⟩ (zp0 U.1 U.2.1 U.2.2 (nR 1) (b3 (⟨Xa ⟨d,0,Xb⟩,1,1⟩,x) Sm).2.at (b3 (i,y) Sm).1 (b3 (i,y) Sm).2.at)
 rw[hlen]at L;rw[ac.out]at L⊢;clear s Y hlen
 go_upto_region 12 with(go_at_call 11;refine L.mono ?_)
 clear L;rintro e c⟨⟨cr,dh,m,dq,dm,rfl,c7,ak,ah⟩,c3⟩;have a1:=dD (aw.trans c3);have ax:Xo (∀r h,r<T->AnM x y N r h->∃(t:Int)(v:Sli),zj byE c (v.x) [h]/\∀W,zc c W->W.cell? ⟨m,r*3,Xb⟩=Xa (I6 0)/\W.cell? ⟨m,r*3+1,Xb⟩=Xa (I6 t)/\W.cell? ⟨m,r*3+2,Xb⟩=Xa (v.x)):=show∀r h,_ from fun r h db bg=>by
  obtain⟨t,aq⟩:=c7.2 r h db bg;obtain⟨y,dg,C,D,cz⟩:=ah r _ aq;obtain⟨dl,bd,n⟩:=ak.aZ r y dg;cases bd;have C:y.er=0:=C;have D:y.n=t:=D;refine⟨t,y.s,cz,fun W bb=>?_⟩
  have bu:=n W bb 0 _ rfl;have bv:=n W bb 1 _ rfl;have bw:=n W bb 2 _ rfl;rw[jh,Yd,zA]at bu bv bw;rw[<-C,<-D];exact⟨bu,bv,bw⟩
 clear c7 ah ak c3;go_upto_region 12 with fail;obtain⟨cs,bc⟩:=kB (c.alloc (Xk (mL cr dh).toArray 45));have ar:=gA bc
 rw[bc];clear bc;have d7:(T:Int)<=23:=by have:=ac.out;have:=z.out;omega
 have d8:10<=(T:Int):=Hm ac.out
 obtain⟨a6,a9⟩:∃bi:Nat,Xo (bi=6+2*N):=⟨_,rfl⟩;have de:(T:Int)-4=(a6:Int):=by have:=ac.out;have:=a9.out;omega
 have d9:(a6:Int)<(T:Int):=Wm
 obtain⟨a7,aa⟩:∃bi:Nat,Xo (bi=9+2*N):=⟨_,rfl⟩;have df:(T:Int)-1=(a7:Int):=by have:=ac.out;have:=aa.out;omega
 have da:(a7:Int)<(T:Int):=Wm
 have dn:(4:Int)<(T:Int):=Wm
 obtain⟨al,v,p,n⟩:∃(t:Int)(v:Sli),zj byE c (v.x) [x]/\∀W,zc c W->W.cell? ⟨m,12,Xb⟩=Xa (I6 0)/\W.cell? ⟨m,12+1,Xb⟩=Xa (I6 t)/\W.cell? ⟨m,12+2,Xb⟩=Xa (v.x):=ax.out 4 x Wm (.inl ⟨rfl,rfl⟩)
 obtain⟨af,C,D⟩:=n _ ar.out;have a:=zbc al v (x) [] cs (p.aA ar);unfold Qk at a
 go_wp2_with(go_at_call 12;refine a.mono ?_)
 rintro e ct⟨rfl,g⟩;have au:=dD (ar.trans g);clear g a p n af C D;obtain⟨al,v,p,n⟩:∃(t:Int)(v:Sli),zj byE c (v.x) [y]/\∀W,zc c W->W.cell? ⟨m,a6*3,Xb⟩=Xa (I6 0)/\W.cell? ⟨m,a6*3+1,Xb⟩=Xa (I6 t)/\W.cell? ⟨m,a6*3+2,Xb⟩=Xa (v.x):=ax.out a6 y Wm (.inr ⟨.inl a9,rfl⟩)
 obtain⟨af,C,D⟩:=n _ au.out;have a:=zbc al v (y) [] ct (p.aA au);unfold Qk at a
 go_wp2_with(go_at_call 12;refine a.mono ?_)
 rintro e cu⟨rfl,g⟩;have av:=dD (au.trans g);clear g a p n af C D;obtain⟨al,v,p,n⟩:∃(t:Int)(v:Sli),zj byE c (v.x) [y]/\∀W,zc c W->W.cell? ⟨m,a7*3,Xb⟩=Xa (I6 0)/\W.cell? ⟨m,a7*3+1,Xb⟩=Xa (I6 t)/\W.cell? ⟨m,a7*3+2,Xb⟩=Xa (v.x):=ax.out a7 y Wm (.inr ⟨.inr aa,rfl⟩)
 obtain⟨af,C,D⟩:=n _ av.out;have a:=zbc al v (y) [] cu (p.aA av);unfold Qk at a
 go_wp2_with(go_at_call 12;refine a.mono ?_)
 rintro e dk⟨rfl,g⟩;have c8:=dD (av.trans g);clear g a p n af C D;have cc:=dD (a1.trans c8);go_wp2;go_ret;exact⟨rfl,cc⟩
end
section
open Go.ChangeShapes Go.WideShapes Go.ChangeAt Go.RowKit
theorem own:ownKnob Tryz.prog.godebug=Xb:=by kernel_rfl
theorem laidOut:laidOutB prog=Xc:=by kernel_rfl
theorem zcg(Q:Os)(e:Q.Started)(H:Type)(enc:TypeId×Xq->H):
  ReturnsInHanded {} Tryz.checked Q 5 .any (Rows.topMappedSpec.pre6 enc prog Tryz.f5 Rows.topMappedRow.domain Xd) (Rows.topMappedSpec.post enc prog Tryz.f5 Xd Xc Xd Xd):=by
 refine returnsInHanded_of_change_sized (C:=Tryz.checked) own e Kr func5
  (ChangeSpec.witness6 (enc:=enc) (C:=Tryz.checked) Xd ⟨#[],#[I6 0,U8 0,U8 0,I6 0],[]⟩ 8 Kr Kr Kr Kr) ?_
 intro W h b K a1 j d M N f _;have n:(DataW.weightsEach prog (Tryz.f5.params.toList++Rows.topMappedSpec.plain.varTypes prog) (K++a1)).all (·<=reachBytes)=Xc:=f;have a:∀(P:Nat)t v,Tryz.f5.params[P]?=Xa t->b[P]?=Xa v->Value.okWide prog W .any h t v:=d;have k:=M;obtain⟨af,az,i,a7,rfl,a9,aa⟩:=M;have L:DataW.TrodAll enc prog W 0 (fun _=>Xc) Xc Tryz.f5.params.toList b.toList K af:=i
 rw[Tryz.params5]at L a n;obtain⟨R,ao,au,Y,ag,b0,l,rfl,rfl,p,ak⟩:=trodAll_cons L;obtain⟨S,ap,av,Z,ah,b1,rfl,rfl,rfl,r,al⟩:=trodAll_cons ak;obtain⟨T,aq,aw,I,ai,b2,rfl,rfl,rfl,u,am⟩:=trodAll_cons al;obtain⟨U,ar,ax,a0,aj,b3,rfl,rfl,rfl,y,an⟩:=trodAll_cons am;obtain⟨rfl,rfl,rfl⟩:=trodAll_nil an;obtain rfl:b=#[R,S,T,U]:=by cases b;simp_all
 obtain⟨rfl,rfl⟩:=trodVars_none a7;have A:∀x∈ag,x.block<W.heap.size:=by obtain⟨m,g⟩:=p;exact DataW.trod_lt m _ _ _ g
 have B:∀x∈ah,x.block<W.heap.size:=by obtain⟨m,g⟩:=r;exact DataW.trod_lt m _ _ _ g
 have D:∀x∈ai,x.block<W.heap.size:=by obtain⟨m,g⟩:=u;exact DataW.trod_lt m _ _ _ g
 have E:∀x∈aj,x.block<W.heap.size:=by obtain⟨m,g⟩:=y;exact DataW.trod_lt m _ _ _ g
 have q:=p;have s:=r;have w:=u;have z:=y;obtain⟨ab,rfl,rfl,rfl,b4⟩:=open_int underlying3 (a 0 3 R rfl rfl) p;obtain⟨ac,rfl,rfl,rfl,b5⟩:=open_int underlying5 (a 1 5 S rfl rfl) r;obtain⟨ad,rfl,rfl,rfl,b6⟩:=open_int underlying5 (a 2 5 T rfl rfl) u;obtain⟨ae,rfl,rfl,rfl,b7⟩:=open_int underlying3 (a 3 3 U rfl rfl) y;clear i d f;refine(zeM ab ac ad ae W).mono fun ay V⟨a8,bel⟩=>?_
 subst a8;have c:∀{t:TypeId}{v:Xq}{G:DataW H}{F:List MemPlace},Tryz.prog.readableRec t=Xc->t<Tryz.prog.types.size->DataW.Trod enc prog W 0 (fun _=>Xc) Xc t v G F->(∀x∈F,x.block<W.heap.size)->DataW.Trod enc prog V 0 (fun X=>decide (X<W.heap.size)) Xc t v G F:=
  fun a3 a4 a5 a6=>Below.trod laidOut a3 a4 a5 bel a6
 exact⟨_,rfl,_,_,_,[],_,[],k,trodAll_mk1 (shut_bool underlying4 _),(trodAll_cons_mk (c Kr (of_decide_eq_true Kr) q A) (trodAll_cons_mk (c Kr (of_decide_eq_true Kr) s B) (trodAll_cons_mk (c Kr (of_decide_eq_true Kr) w D) (trodAll_cons_mk (c Kr (of_decide_eq_true Kr) z E) trodAll_mk0)))),rfl,Below.frame bel _,fun a2=>by cases a2⟩
theorem zdN:Rows.topMappedRow.holds Tryz.pinned (OpenSpec.ofChange Rows.topMappedSpec):=
 OpenClaim.holds_of_wide 5 Tryz.f5 rfl rfl rfl rfl rfl rfl rfl ⟨rfl,rfl,rfl,rfl,rfl⟩ rfl rfl rfl rfl rfl Kr func5 Kr
  (of_decide_eq_true Kr) (by unfold Func.isWrapper;first|(rw[kE (by decide+kernel)];kernel_rfl)|(rw[kF (by decide+kernel)];exact⟨rfl,rfl⟩))
  (fun c a H b _=>zcg c a H b)
theorem topMapped_holds:Rows.TopMappedSaid:=zdN
#print axioms topMapped_holds
end
end Go.Proofs.YtmfckdkcmbncdaaGreat
