import Derived.Test.YtangilolcekceaaGreatPT3
import Derived.Deep.DeepCutAuto
namespace Go.Proofs.YtangilolcekceaaGreat
set_option maxRecDepth 100000
set_option maxHeartbeats 4000000
variable{L:List Int} {Q:Exit->Act->World->Prop} {T:List (Nat->En)} {V:MaV} {b hi i j:Nat} {l:List Ar} {m:Ma} {o:Oper} {ops:Array Oper} {t:TypeId} {vl vt:Sli} {vs:List Value} {w w' w0:World} {z:Int}
open Go.Proofs.Tryz
section
open Go.RowKit
def zlH (w0:World) (hi b:Nat) (w:World) (L:List Int) (V:MaV) (m:Ma) (vt:Sli) (T:List (Nat->En)) (fi ix j:Nat) (w':World):Prop:=∃(q:Fr) (p:Pg) (u d:Bool) (s:Sli),m.fs[j]? =some q/\q.r=0/\(∀c∈m.ca,¬(c.file=(fi:Int)/\c.idx=(ix:Int)))/\MkE w0 hi b w L { V with ca:=s } { m with fs:=m.fs.set j ⟨p,1,u,d,fi,ix⟩,ca:=Zn m.ca ⟨fi,ix,j⟩ } vt T w'
theorem zhm (fi ix:Nat) (f:Fl) (bk:Int) (h:Mk w0 hi w b vl L V m vt T) (hca:∀c∈m.ca,0<=c.file/\c.file<=1000/\0<=c.idx/\c.idx<=1000/\0<=c.fr/\c.fr<m.fs.length) (hf:m.fl[fi]? =some f) (hbk:f.bl[ix]? =some bk) (hix:ix<=1000) (hfi:fi<=1000) (hcn:m.ca.length<=1000):
  Calls prog 127 #[.pointer (some ⟨b,0,none⟩),I6 (fi:Int),I6 (ix:Int)] w fun e w'=>(e= .returned (I6 (-1))/\MkE w0 hi b w L V m vt T w')\/(∃c,c∈m.ca/\c.file=(fi:Int)/\c.idx=(ix:Int)/\e= .returned (I6 c.fr)/\MkE w0 hi b w L V m vt T w')\/∃j:Nat,e= .returned (I6 (j:Int))/\zlH w0 hi b w L V m vt T fi ix j w':=by
 have HM:Hid (Mk w0 hi w b vl L V m vt T):=h;have HCA:Hid (∀c∈m.ca,0<=c.file/\c.file<=1000/\0<=c.idx/\c.idx<=1000/\0<=c.fr/\c.fr<m.fs.length):=hca;have HF:Hid (m.fl[fi]? =some f):=hf;have HBK:Hid (f.bl[ix]? =some bk):=hbk;obtain⟨n,HN⟩:∃n,Hid (V.ca.n=n):=⟨_,rfl⟩;have HLN:Hid (m.ca.length=n):=show _=_ by rw[<-HN.out,h.rows.ca.n]
 have hn:n<=1000:=by rw[<-HLN.out];exact hcn
 have HCC:Hid (n<=V.ca.c):=dD<|by
  have:=h.rows.ca.cap;(try simp only[Sli.x]at this);rw[HN.out]at this;exact this
 obtain⟨caa,HAA⟩:∃a,Hid (V.ca.a=a):=⟨_,rfl⟩;have HCR:Hid (∀W,(∃vl' L' m',m'.ca=m.ca/\Mk w0 hi W b vl' L' V m' vt T)->J1 W caa m.ca):=dD<|fun W ⟨_,_,m',e,k⟩=>by
  have:=k.rows.at.cas;rw[e,HAA.out]at this;exact this
 clear h hca hf hbk hcn
 go_enter func127,ntmps127
 have x10:=HM.box.box.c 10 rfl;(try simp only[Sli.x]at x10);rw[HN.out,HAA.out]at x10;go_wp2;clear x10
 go_loopg [20] n (fun gg s20 wr=>∃kk:Nat,kk<=n/\n - kk<=gg/\s20=I6 kk/\Hid (zc w wr)/\Hid (∀(j:Nat) c,j<kk->m.ca[j]? =some c->¬(c.file=(fi:Int)/\c.idx=(ix:Int))))
 case atStart=>exact⟨0,nZ _,by omega,rfl,zc.refl _,fun j c hj=>absurd hj (nL _)⟩
 obtain⟨kk,hkk,hgg,rfl,BW,OW⟩:=hrel
 by_cases hlt:kk<n
 ·have hltz:(kk:Int)< (n:Int):=by omega
  obtain⟨c,HC⟩:∃c,Hid (m.ca[kk]? =some c):=⟨_,gE (by rw[HLN.out];exact hlt)⟩
  obtain⟨adc,rfl,hl⟩:=HCR.out wr ⟨vl,L,m,rfl,HM.grew BW⟩ kk c HC.out;obtain⟨d0,d1,d2⟩:=hl wr (zc.refl _);clear hl;go_upto_region 4 with fail;obtain⟨W1,hW1⟩:∃W1,wr.alloc (.cells #[I6 c.file,I6 c.idx,I6 c.fr] 83)=W1:=⟨_,rfl⟩;have HG1:=gT hW1 BW
  have C1:=xA hW1
  rw[hW1];clear hW1 d0 d1 d2;obtain⟨c0,c1,c2⟩:=C1.c3;have HNX:Hid (¬(c.file=(fi:Int)/\c.idx=(ix:Int))->∀(j:Nat) c,j<kk+1->m.ca[j]? =some c->¬(c.file=(fi:Int)/\c.idx=(ix:Int))):=dD<|fun h0 j c' hj hc'=>by
   by_cases e:j=kk
   ·subst e;rw[HC.out]at hc';cases hc';exact h0
   exact OW j c' (by omega) hc'
  by_cases h1:c.file=(fi:Int)
  ·have h1e:(c.file ==(fi:Int))=true:=by simp[h1]
   by_cases h2:c.idx=(ix:Int)
   ·have h2e:(c.idx ==(ix:Int))=true:=by simp[h2]
    have HE:Hid (c.file=(fi:Int)/\c.idx=(ix:Int)):=dD<|⟨h1,h2⟩
    clear h1 h2;go_wp2;go_ret;exact .inr (.inl ⟨c,mG HC,HE.1,HE.2,rfl,vl,L,HM.grew HG1,ZX.refl L,zo.grew HG1⟩)
   have h2e:(c.idx ==(ix:Int))=false:=by simp[h2]
   have OW':Hid (∀(j:Nat) c,j<kk+1->m.ca[j]? =some c->¬(c.file=(fi:Int)/\c.idx=(ix:Int))):=HNX.out (fun h=>h2 h.2)
   clear h1 h2;go_wp2
   go_roundg (n -(kk+1))
   case measure=>omega
   exact⟨kk+1,by omega,by omega,by go_num,HG1,OW'⟩
  have h1e:(c.file ==(fi:Int))=false:=by simp[h1]
  have OW':Hid (∀(j:Nat) c,j<kk+1->m.ca[j]? =some c->¬(c.file=(fi:Int)/\c.idx=(ix:Int))):=HNX.out (fun h=>h1 h.1)
  clear h1;go_wp2
  go_roundg (n -(kk+1))
  case measure=>omega
  exact⟨kk+1,by omega,by omega,by go_num,HG1,OW'⟩
 have hltz:¬(kk:Int)< (n:Int):=by omega
 have hke:kk=n:=by omega
 have HNO:Hid (∀c∈m.ca,¬(c.file=(fi:Int)/\c.idx=(ix:Int))):=dD<|fun c hc=>by
  obtain⟨j,hj⟩:=List.getElem?_of_mem hc;exact OW j c (by rw[hke,<-HLN.out];exact(gS.1 hj).1) hj
 clear hke;have MW:=dD (HM.grew BW);have hbx:=MW.box.box;have x1:=hbx.c 1 rfl;have x2:=hbx.c 2 rfl;have x3:=hbx.c 3 rfl;have x4:=hbx.c 4 rfl;have x5:=hbx.c 5 rfl;have x6:=hbx.c 6 rfl;have x7:=hbx.c 7 rfl;have x8:=hbx.c 8 rfl;have x9:=hbx.c 9 rfl;have x10:=hbx.c 10 rfl;have x11:=hbx.c 11 rfl;clear hbx;have hct:=zah V m fi ix f bk wr MW.rows.at (fun c hc _=>(HCA c hc).2.2.2.2) HF HBK hix
 go_wp2_with fail;refine hct.mono ?_;clear hct x1 x2 x3 x4 x5 x6 x7 x8 x9 x10 x11;rintro e W1 ⟨rfl,hl8,g1⟩;have G1:=dD (BW.trans g1);clear g1
 generalize qZ m fi ix=q at hl8
 obtain⟨p0,p1,p2,p3,p4,p5,p6,p7,rfl⟩:=zdP q hl8;clear hl8;simp only[pgc,mP,List.map_nil];go_upto_region 8 with fail;obtain⟨pp,HPP⟩:∃pp,Hid (W1.heap.size=pp):=⟨_,rfl⟩;obtain⟨W2,hW2⟩:∃W2,W1.alloc (.cells #[U8 p0,U8 p1,U8 p2,U8 p3,U8 p4,U8 p5,U8 p6,U8 p7] 50)=W2:=⟨_,rfl⟩;have G2:=gT hW2 G1
 have P2:Hid (zD W2 pp 50 (pgc [p0,p1,p2,p3,p4,p5,p6,p7])):=dD<|by rw[<-hW2];exact zD.top _ (pgc [p0,p1,p2,p3,p4,p5,p6,p7]) _ HPP.symm
 have HHP:Hid (hi<=pp):=dD<|by rw[<-HPP.out];exact(HM.grew G1).rows.hw
 have HWP:Hid (w.heap.size<=pp):=dD<|by rw[<-HPP.out];exact bS G1.out
 have HBP:Hid (b≠pp):=dD<|by have:=HM.box.box.lt;have:=HWP.out;omega
 have M2:=dD (HM.grew G2);have K2:Hid (zo hi w W2):=zo.grew G2.out;rw[hW2,HPP.out];clear hW2;have hpk:=qB 2 M2.out;go_wp2_with fail;refine hpk.mono ?_;clear hpk;rintro e W3 ⟨vl3,L3,y,rfl,mk3,gr3,sz3,y0,y1,yn,ll⟩;have M3:Hid (Mk w0 hi W3 b vl3 L3 V m vt T):=mk3;have K3:=dD (K2.trans (M2.keeps gr3));have P3:Hid (zD W3 pp 50 (pgc [p0,p1,p2,p3,p4,p5,p6,p7])):=P2.beside gr3 (fun g e=>by cases e;exact fun h=>HBP.out h.symm)
 have L3':Hid (ZX L L3):=ll;clear mk3 gr3 sz3 y0 y1 yn ll
 go_upto_if 46 with fail
 go_cut [10,11] (fun s10 s11 wx=>∃(dd:Bool) (q:List Int) (vl':Sli) (L':List Int),s10= .bool dd/\Hid (Mk w0 hi wx b vl' L' V m vt T)/\Hid (zD wx pp 50 (pgc q))/\Hid (q.length=8)/\Hid (zo hi w wx)/\Hid (ZX L L'))
 case first=>
  by_cases hy:y=1
  ·have hye:(y == 1)=true:=by simp[hy]
   clear hy;have hpg:=zbt M3.out;go_wp2_with fail;refine hpg.mono ?_;clear hpg;rintro e W4 ⟨vl4,L4,q4,rfl,ql4,mk4,gr4,ll4⟩;have M4:Hid (Mk w0 hi W4 b vl4 L4 V m vt T):=mk4;have K4:=dD (K3.trans (M3.keeps gr4));have P4:Hid (zD W4 pp 50 (pgc [p0,p1,p2,p3,p4,p5,p6,p7])):=P3.beside gr4 (fun g e=>by cases e;exact fun h=>HBP.out h.symm)
   have L4':=dD (L3'.trans ll4);have QL:Hid (q4.length=8):=ql4;clear mk4 gr4 ll4 ql4
   go_wp2_with (refine jM rfl 50 (.tmp 9) (.tmp 48) rfl pp rfl (pgc q4) rfl P4 (by simp[pgc,QL.out]) zl3 (z6 _) ?_)
   intro W5 hb5 hg5 _;have M5:Hid (Mk w0 hi W5 b vl4 L4 V m vt T):=M4.page P4 HHP hg5;have K5:Hid (zo hi w W5):=K4.own hg5 HWP.out;have P5:Hid (zD W5 pp 50 (pgc q4)):=hb5;clear hb5 hg5;go_wp2
   go_loopg [49] 8 (fun gg s49 wr=>∃(i:Nat) (q:List Int),i<=8/\8 - i<=gg/\s49=I6 i/\Hid (Mk w0 hi wr b vl4 L4 V m vt T)/\Hid (zD wr pp 50 (pgc q))/\Hid (q.length=8)/\Hid (zo hi w wr))
   case atStart=>exact⟨0,q4,nZ _,by omega,rfl,M5,P5,QL,K5⟩
   obtain⟨i,q,hi8,hg3,rfl,MW5,PW5,QW5,KW5⟩:=hrel
   by_cases hlt3:i<8
   ·have hltz3:(i:Int)<8:=by omega
    obtain⟨z,hz⟩:∃z,q[i]? =some z:=⟨_,gE (by rw[QW5.out];exact hlt3)⟩
    have z0:=PW5.box.c i (zcL hz);have zf:=PW5.box.f;have hfl:=MW5.rows.at.fl;have x8:=MW5.box.box.c 8 rfl;obtain⟨_,_,hfe,_,hfr⟩:=qL.rows hfl;have hrw:jZ wr V.fl.a m.fl:=by
     simp only[vJ]at hfe;rw[hfe.1];exact hfr
    have hfn:V.fl.n=m.fl.length:=by
     simp only[vJ]at hfe;exact hfe.2.1
    obtain⟨ad,hva,ba,bc,_,hlf⟩:=hrw fi f HF.out;obtain⟨d0,-⟩:=hlf wr (zc.refl _);obtain⟨fln,hfln⟩:∃fln,V.fl.n=fln:=⟨_,rfl⟩;have hfz:(fi:Int)< (fln:Int):=by
     have:=(gS.1 HF).1;omega
    (try simp only[Sli.x]at x8);rw[hva,hfln]at x8;clear hfl hfe hfr hrw hfn hva hlf hfln hz
    by_cases hc:f.size<=8*(ix:Int)+(i:Int)
    ·have hcd:decide (f.size<=8*(ix:Int)+(i:Int))=true:=by simpa using hc
     have HG6:Hid (wr.grownBy (wr.setCell ⟨pp,i,none⟩ (U8 0)) (some pp)):=⟨rfl,rfl,rfl,by simp[World.setCell],fun k _ hk=>Below.heap_setCell _ _ _ _ (fun e=>hk (by rw[e]))⟩
     have P6:Hid (zD (wr.setCell ⟨pp,i,none⟩ (U8 0)) pp 50 (pgc (q.set i 0))):=dD<|by rw[zbN];exact PW5.set i _
     have M6:Hid (Mk w0 hi (wr.setCell ⟨pp,i,none⟩ (U8 0)) b vl4 L4 V m vt T):=MW5.page PW5 HHP HG6.out;have K6:Hid (zo hi w (wr.setCell ⟨pp,i,none⟩ (U8 0))):=KW5.own HG6 HWP.out;go_wp2
     go_roundg (8 -(i+1))
     case measure=>omega
     exact⟨i+1,q.set i 0,by omega,by omega,by go_num,M6,P6,(show(q.set i 0).length=8 by rw[List.length_set];exact QW5),K6⟩
    have hcd:decide (f.size<=8*(ix:Int)+(i:Int))=false:=by simpa using hc
    go_wp2
    go_roundg (8 -(i+1))
    case measure=>omega
    exact⟨i+1,q,by omega,by omega,by go_num,MW5,PW5,QW5,KW5⟩
   have hltz3:¬(i:Int)<8:=by omega
   go_wp2
   go_meet
   exact⟨true,q,vl4,L4,rfl,MW5,PW5,QW5,KW5,L4'⟩
  have hye:(y == 1)=false:=by simp[hy]
  clear hy;go_wp2
  go_meet
  exact⟨false,[p0,p1,p2,p3,p4,p5,p6,p7],vl3,L3,rfl,M3,P3,rfl,K3,L3'⟩
 obtain⟨dd,q,vl3',L3x,rfl,M3',P3',Q3',K3',L3''⟩:=hcut;obtain⟨p0,p1,p2,p3,p4,p5,p6,p7,rfl⟩:=zdP q Q3'.out;go_upto_region 16 with fail;obtain⟨I,hI⟩:∃I:World->Prop,I=fun u=>zD u pp 50 (pgc [p0,p1,p2,p3,p4,p5,p6,p7]):=⟨_,rfl⟩
 have HI:Hid (∀u,I u↔zD u pp 50 (pgc [p0,p1,p2,p3,p4,p5,p6,p7])):=dD<|fun u=>by rw[hI]
 clear hI;have hI0:I wc.drew:=(HI _).2 (P3'.grew (gW _))
 have hF0:MkE w0 hi b w L V m vt T wc.drew:=⟨vl3',L3x,M3'.grew (gW _),L3''.out,K3'.trans (zo.grew (gW _))⟩
 have hf0:∀y:zk I,y.world.cell? ⟨pp,0,none⟩=some (U8 p0):=fun y=>((HI _).1 y.holds).box.c 0 rfl
 have hf1:∀y:zk I,y.world.cell? ⟨pp,1,none⟩=some (U8 p1):=fun y=>((HI _).1 y.holds).box.c 1 rfl
 have hf2:∀y:zk I,y.world.cell? ⟨pp,2,none⟩=some (U8 p2):=fun y=>((HI _).1 y.holds).box.c 2 rfl
 have hf3:∀y:zk I,y.world.cell? ⟨pp,3,none⟩=some (U8 p3):=fun y=>((HI _).1 y.holds).box.c 3 rfl
 have hf4:∀y:zk I,y.world.cell? ⟨pp,4,none⟩=some (U8 p4):=fun y=>((HI _).1 y.holds).box.c 4 rfl
 have hf5:∀y:zk I,y.world.cell? ⟨pp,5,none⟩=some (U8 p5):=fun y=>((HI _).1 y.holds).box.c 5 rfl
 have hf6:∀y:zk I,y.world.cell? ⟨pp,6,none⟩=some (U8 p6):=fun y=>((HI _).1 y.holds).box.c 6 rfl
 have hf7:∀y:zk I,y.world.cell? ⟨pp,7,none⟩=some (U8 p7):=fun y=>((HI _).1 y.holds).box.c 7 rfl
 have hne:Nonempty (zk I):=⟨⟨_,hI0⟩⟩;refine zX (I:=I) 10 [(3,fun v=>∃x:Int,v=I6 x),(9,fun v=>v=I6 (-1)\/∃j:Nat,v=I6 (j:Int))] (fun u=>MkE w0 hi b w L V m vt T u) hI0 hF0 qu (by kernel_rfl) rfl rfl (by decide) ?hS (by kernel_rfl) ?_
 case hS=>
  intro x hx;simp only[mC,nM,or_false]at hx
  rcases hx with rfl|rfl
  ·exact⟨_,0,rfl⟩
  exact⟨_,.inl rfl⟩
 simp only[List.take,List.drop];iterate 3 (refine zi rfl rfl rfl (fun K hK=>?_);go_big_quiet_op;refine hK _ ?_;clear hK)
 refine qI rfl rfl (fun _ u=>MkE w0 hi b w L V m vt T u) (fun w' hI' hF'=>?_) (fun v1 hv=>?_)
 ·obtain⟨vl',L',mk',ll',kp'⟩:=hF';refine zP.call [.pointer (some ⟨b,0,none⟩),I6 2] rfl func27 rfl rfl rfl ?_;refine(qB 2 mk').mono ?_;rintro e w'' ⟨vl2,L2,x,rfl,mk2,gr2,_,_,_,_,ll2⟩;exact⟨_,rfl,(HI _).2 (((HI _).1 hI').beside gr2 (fun g e=>by cases e;exact fun h=>HBP.out h.symm)),⟨x,rfl⟩,vl2,L2,mk2,ll'.trans ll2,kp'.trans (mk'.keeps gr2)⟩
 obtain⟨x,rfl⟩:=hv;simp only[Act.put,sB,sS,sZ];iterate 5 (refine zi rfl rfl rfl (fun K hK=>?_);go_big_quiet_op;refine hK _ ?_;clear hK)
 refine qI rfl rfl (fun v u=>(v=I6 (-1)/\MkE w0 hi b w L V m vt T u)\/∃(j:Nat) (q:Fr),v=I6 (j:Int)/\m.fs[j]? =some q/\q.r=0/\MkE w0 hi b w L V { m with fs:=m.fs.set j ⟨⟨p0,p1,p2,p3,p4,p5,p6,p7⟩,1,x == 1,dd,(fi:Int),(ix:Int)⟩ } vt T u) (fun w' hI' hF'=>?_) (fun v1 hv=>?_)
 ·obtain⟨vl',L',mk',ll',kp'⟩:=hF';refine zP.call [.pointer (some ⟨b,0,none⟩),.agg (frv ⟨⟨p0,p1,p2,p3,p4,p5,p6,p7⟩,1,x == 1,dd,(fi:Int),(ix:Int)⟩).toArray] rfl func128 rfl rfl rfl ?_;refine(zew ⟨⟨p0,p1,p2,p3,p4,p5,p6,p7⟩,1,x == 1,dd,(fi:Int),(ix:Int)⟩ mk').mono ?_;rintro e w'' (⟨rfl,hE⟩|⟨j,q,rfl,hq,hr,hE⟩)
  ·have hkp:=hE;obtain⟨_,_,_,_,kq⟩:=hkp;exact⟨_,rfl,(HI _).2 (kq.1 pp _ _ ((HI _).1 hI') (zgl HHP)),.inl rfl,.inl ⟨rfl,hE.trans ll' kp'⟩⟩
  have hkp:=hE;obtain⟨_,_,_,_,kq⟩:=hkp;exact⟨_,rfl,(HI _).2 (kq.1 pp _ _ ((HI _).1 hI') (zgl HHP)),.inr ⟨j,rfl⟩,.inr ⟨j,q,rfl,hq,hr,hE.trans ll' kp'⟩⟩
 rcases hv with rfl|⟨j,rfl⟩
 ·simp only[Act.put,sB,sS,sZ];refine jd fun W6 hI6 hF6=>?_
  have H6:Hid (MkE w0 hi b w L V m vt T W6):=dD<|by
   rcases hF6 with⟨_,h⟩|⟨j,q,e,_⟩
   ·exact h
   simp only[Value.int.injEq,true_and]at e;omega
  clear hF6 hI6 hI0 hF0 hne hf0 hf1 hf2 hf3 hf4 hf5 hf6 hf7;go_wp2;go_ret;exact .inl ⟨rfl,H6⟩
 simp only[Act.put,sB,sS,sZ];refine jd fun W6 hI6 hF6=>?_
 obtain⟨q,hq,hr,vl6,L6,mk6,ll6,kp6⟩:∃q:Fr,m.fs[j]? =some q/\q.r=0/\MkE w0 hi b w L V { m with fs:=m.fs.set j ⟨⟨p0,p1,p2,p3,p4,p5,p6,p7⟩,1,x == 1,dd,(fi:Int),(ix:Int)⟩ } vt T W6:=by
  rcases hF6 with⟨e,_⟩|⟨j',q,e,hq,hr,hE⟩
  ·simp only[Value.int.injEq,true_and]at e;omega
  simp only[Value.int.injEq,true_and]at e;obtain rfl:j=j':=by omega
  exact⟨q,hq,hr,hE⟩
 have HQ:Hid (m.fs[j]? =some q):=hq;have HR0:Hid (q.r=0):=hr;have M6:Hid (Mk w0 hi W6 b vl6 L6 V { m with fs:=m.fs.set j ⟨⟨p0,p1,p2,p3,p4,p5,p6,p7⟩,1,x == 1,dd,(fi:Int),(ix:Int)⟩ } vt T):=mk6;have K6:Hid (zo hi w W6):=kp6;have LL6:Hid (ZX L L6):=ll6;clear hF6 hI6 hI0 hF0 hne hq hr mk6 ll6 kp6 hf0 hf1 hf2 hf3 hf4 hf5 hf6 hf7;have hj0:¬(j:Int)<0:=by omega
 go_wp2
 go_loopg [13] n (fun gg s13 wr=>∃at_:Nat,at_<=n/\n - at_<=gg/\s13=I6 at_/\Hid (Mk w0 hi wr b vl6 L6 V { m with fs:=m.fs.set j ⟨⟨p0,p1,p2,p3,p4,p5,p6,p7⟩,1,x == 1,dd,(fi:Int),(ix:Int)⟩ } vt T)/\Hid (zo hi w wr)/\Hid (∀(i:Nat) c,i<at_->m.ca[i]? =some c->decide (jH c<jH ⟨(fi:Int),(ix:Int),(j:Int)⟩)=true))
 case atStart=>exact⟨0,nZ _,by omega,rfl,M6,K6,fun i c hi=>absurd hi (nL _)⟩
 obtain⟨at_,hat,hg2,rfl,MR,KR,OW2⟩:=hrel;have x10:=MR.box.box.c 10 rfl;(try simp only[Sli.x]at x10);rw[HN.out,HAA.out]at x10
 by_cases hlt2:at_<n
 ·have hltz2:(at_:Int)< (n:Int):=by omega
  obtain⟨c,HC⟩:∃c,Hid (m.ca[at_]? =some c):=⟨_,gE (by rw[HLN.out];exact hlt2)⟩
  obtain⟨adc,rfl,hl⟩:=HCR.out wr ⟨vl6,L6,{ m with fs:=m.fs.set j ⟨⟨p0,p1,p2,p3,p4,p5,p6,p7⟩,1,x == 1,dd,(fi:Int),(ix:Int)⟩ },rfl,MR⟩ at_ c HC.out;obtain⟨d0,d1,d2⟩:=hl wr (zc.refl _);obtain⟨b1,b2,b3,b4,-⟩:=HCA.out c (mG HC);clear hl d2
  by_cases hk:100*c.file+c.idx<100*(fi:Int)+(ix:Int)
  ·have hkd:decide (100*c.file+c.idx<100*(fi:Int)+(ix:Int))=true:=by simpa using hk
   have hgd:decide ((at_:Int)< (n:Int))=true:=by simpa using hltz2
   have OW3:Hid (∀(i:Nat) c,i<at_+1->m.ca[i]? =some c->decide (jH c<jH ⟨(fi:Int),(ix:Int),(j:Int)⟩)=true):=dD<|fun i c' hi' hc'=>by
    by_cases e:i=at_
    ·subst e;rw[HC.out]at hc';cases hc';exact hkd
    exact OW2 i c' (by omega) hc'
   clear hk;go_upto_region 20 with fail;go_quiet (fail);go_wp2
   go_roundg (n -(at_+1))
   case measure=>omega
   exact⟨at_+1,by omega,by omega,by go_num,MR.grew (show Below _ _ _ from bD (bR _ _) _),KR.trans (zo.grew (show Below _ _ _ from bD (bR _ _) _)),OW3⟩
  have hkd:decide (100*c.file+c.idx<100*(fi:Int)+(ix:Int))=false:=by simpa using hk
  have hgd:decide ((at_:Int)< (n:Int))=true:=by simpa using hltz2
  have HST:Hid (∀x,m.ca[at_]? =some x->decide (jH x<jH ⟨(fi:Int),(ix:Int),(j:Int)⟩)=false):=dD<|fun x hx=>by
   rw[HC.out]at hx;cases hx;exact hkd
  clear hk;go_upto_region 20 with fail;go_quiet (fail);clear x10 d0 d1;have HSP:Hid (Zn m.ca ⟨(fi:Int),(ix:Int),(j:Int)⟩=m.ca.take at_++ [⟨(fi:Int),(ix:Int),(j:Int)⟩]++m.ca.drop at_):=dD<|by
   obtain⟨e1,e2⟩:=zde (p:=fun d=>decide (jH d<jH ⟨(fi:Int),(ix:Int),(j:Int)⟩)) (l:=m.ca) (k:=at_) OW2 HST (by rw[HLN.out];exact hat)
   unfold Zn;rw[e1,e2];simp
  obtain⟨Wq,hWq⟩:∃Wq,wr.drewN nq=Wq:=⟨_,rfl⟩;have Gq:Hid (zc wr Wq):=dD<|by rw[<-hWq];exact(show Below _ _ _ from bD (bR _ _) _)
  rw[hWq];clear hWq;have MQ:=dD (MR.grew Gq);have KQ:=dD (KR.trans (zo.grew Gq));clear Gq
  try clear wr
  obtain⟨wr,rfl⟩:∃wr,wr=Wq:=⟨_,rfl⟩;go_upto_region 22 with fail;obtain⟨A,HA⟩:∃A,Hid (m.ca.take at_=A):=⟨_,rfl⟩;obtain⟨D2,HD⟩:∃D2,Hid (m.ca.drop at_=D2):=⟨_,rfl⟩;rw[HA.out,HD.out]at HSP;have HLA:Hid (A.length=at_):=dD<|by rw[<-HA.out,List.length_take,HLN.out];omega
  have HLD:Hid (D2.length=n - at_):=dD<|by rw[<-HD.out,List.length_drop,HLN.out]
  obtain⟨cn,HCN⟩:∃cn:Ca,Hid (cn=⟨(fi:Int),(ix:Int),(j:Int)⟩):=⟨_,rfl⟩;rw[<-HCN.out]at HSP;obtain⟨N,HNN⟩:∃N,Hid ((A++ [cn]++D2).length=N):=⟨_,rfl⟩;obtain⟨I,HI⟩:∃I:World->Prop,Hid (∀u,I u↔zc wr u):=⟨fun u=>zc wr u,fun _=>Iff.rfl⟩
  have hI0:I wr.drew:=(HI _).2 (gW _)
  have hne:Nonempty (zk I):=⟨⟨_,hI0⟩⟩;have hx10:∀y:zk I,y.world.cell? ⟨b,10,none⟩=some (.slice (some adc) n V.ca.c):=fun y=>by
   have:=(MQ.box.box.grew ((HI _).1 y.holds)).c 10 rfl;(try simp only[Sli.x]at this);rw[HN.out,HAA.out]at this;exact this
  have HRO:Hid (zr qX wr (.slice (some adc) n V.ca.c) m.ca):=dD<|by
   have:=MQ.rows.ca.at;(try simp only[Sli.x]at this);rw[HN.out,HAA.out]at this;exact this
  have hup:=fun W=>zf9 (w:=W) (a:=(some adc)) (n:=n) (c:=V.ca.c) (k:=at_) (nT hat HCC)
  have hfr:=fun W=>zgb (w:=W) (a:=(some adc)) (n:=n) (c:=V.ca.c) (k:=at_) hat
  obtain⟨fa,hfa⟩:∃fa,(((some adc):Option Addr).map fun ad=>if V.ca.c=at_ then ad else ad.add (at_*3))=fa:=⟨_,rfl⟩
  have HRA:Hid (zr qX wr (.slice (some adc) at_ V.ca.c) A):=dD<|by rw[<-HA.out];exact HRO.upto hat
  have HRD:Hid (zr qX wr (.slice fa (n - at_) (V.ca.c - at_)) D2):=dD<|by rw[<-HD.out,<-hfa];exact HRO.from hat HCC.out
  rw[hfa]at hfr;clear hfa;obtain⟨nd,HND⟩:∃nd,Hid (n - at_=nd):=⟨_,rfl⟩;obtain⟨cd,HCD⟩:∃cd,Hid (V.ca.c - at_=cd):=⟨_,rfl⟩;rw[HND.out,HCD.out]at hfr HRD;refine qa (I:=I) 27 [(1,⟨fun v=>∃g,v= .slice (some ⟨g,0,none⟩) 0 0,fun v w'=>zb qX wr.heap.size w' v [],fun p q=>zc p q,fun _=>True⟩),(9,⟨fun v=>(∃a c,v= .slice a at_ c)/\(at_=0->∃g,v= .slice (some ⟨g,0,none⟩) 0 0),fun v w'=>zb qX wr.heap.size w' v A,fun p q=>zc p q,fun _=>True⟩),(14,⟨fun v=>∃g,v= .slice (some ⟨g,0,none⟩) 1 1,fun v w'=>zb qX wr.heap.size w' v [cn],fun p q=>zc p q,fun _=>True⟩),(15,⟨fun v=>∃a c,v= .slice a (at_+1) c,fun v w'=>zb qX wr.heap.size w' v (A++ [cn]),fun p q=>(∀u m,m.length<=at_\/m.length<=1->zb qX wr.heap.size p u m->zb qX wr.heap.size q u m),fun _=>True⟩),(23,⟨fun v=>∃a c,v= .slice a N c,fun v w'=>zb qX wr.heap.size w' v (A++ [cn]++D2),fun p q=>(∀u m,m.length<=at_+1->zb qX wr.heap.size p u m->zb qX wr.heap.size q u m),fun _=>True⟩)] hI0 qu (by kernel_rfl) rfl rfl (by decide) ?hS ?hp ?hpre ?hpr0 ?_
  case hS=>
   intro x hx;simp only[mC,nM,or_false]at hx
   rcases hx with rfl|rfl|rfl|rfl|rfl
   ·exact⟨_,0,rfl⟩
   ·by_cases h0:at_=0
    ·exact⟨.slice (some ⟨0,0,none⟩) 0 0,⟨some ⟨0,0,none⟩,0,by rw[h0]⟩,fun _=>⟨0,rfl⟩⟩
    exact⟨.slice none at_ 0,⟨_,_,rfl⟩,fun h=>absurd h h0⟩
   ·exact⟨_,0,rfl⟩
   ·exact⟨_,none,0,rfl⟩
   exact⟨_,none,0,rfl⟩
  case hp=>
   intro k s j t hk hj hjk hanc v p q hst hpo;have hk':=zt hk;have hj':=zt hj;clear hk hj;simp only[mC,pJ,nM,or_false]at hk' hj'
   rcases hk' with⟨rfl,rfl⟩|⟨rfl,rfl⟩|⟨rfl,rfl⟩|⟨rfl,rfl⟩|⟨rfl,rfl⟩
   ·rcases hj' with⟨rfl,rfl⟩|⟨rfl,rfl⟩|⟨rfl,rfl⟩|⟨rfl,rfl⟩|⟨rfl,rfl⟩
    ·exact absurd rfl hjk
    ·exact zb.grew hpo hst
    ·exact zb.grew hpo hst
    ·exact hst v [] (.inl (nZ _)) hpo
    exact hst v [] (nZ _) hpo
   ·rcases hj' with⟨rfl,rfl⟩|⟨rfl,rfl⟩|⟨rfl,rfl⟩|⟨rfl,rfl⟩|⟨rfl,rfl⟩
    ·exact zb.grew hpo hst
    ·exact absurd rfl hjk
    ·exact zb.grew hpo hst
    ·exact hst v A (.inl (by rw[HLA.out];exact nR _)) hpo
    exact hst v A (by rw[HLA.out];omega) hpo
   ·rcases hj' with⟨rfl,rfl⟩|⟨rfl,rfl⟩|⟨rfl,rfl⟩|⟨rfl,rfl⟩|⟨rfl,rfl⟩
    ·exact zb.grew hpo hst
    ·exact zb.grew hpo hst
    ·exact absurd rfl hjk
    ·exact hst v [cn] (.inr (nR _)) hpo
    exact hst v [cn] (by simp) hpo
   ·rcases hj' with⟨rfl,rfl⟩|⟨rfl,rfl⟩|⟨rfl,rfl⟩|⟨rfl,rfl⟩|⟨rfl,rfl⟩
    ·exact zb.grew hpo hst
    ·exact zb.grew hpo hst
    ·exact zb.grew hpo hst
    ·exact absurd rfl hjk
    exact hst v (A++ [cn]) (by rw[lA,HLA.out];simp) hpo
   rcases hj' with⟨rfl,rfl⟩|⟨rfl,rfl⟩|⟨rfl,rfl⟩|⟨rfl,rfl⟩|⟨rfl,rfl⟩
   ·exact zb.grew hpo hst
   ·exact zb.grew hpo hst
   ·exact zb.grew hpo hst
   ·exact Bool.noConfusion (hanc.symm.trans (show _=true by kernel_rfl))
   exact absurd rfl hjk
  case hpre=>
   intro j t k s hj hk hjk p q hst hpr;have hj':=zt hj;clear hk hj;simp only[mC,pJ,nM,or_false]at hj'
   rcases hj' with⟨rfl,rfl⟩|⟨rfl,rfl⟩|⟨rfl,rfl⟩|⟨rfl,rfl⟩|⟨rfl,rfl⟩ <;> trivial
  case hpr0=>
   intro k t hk;have hk':=zt hk;clear hk;simp only[mC,pJ,nM,or_false]at hk'
   rcases hk' with⟨rfl,rfl⟩|⟨rfl,rfl⟩|⟨rfl,rfl⟩|⟨rfl,rfl⟩|⟨rfl,rfl⟩ <;> trivial
  simp only[List.take,List.drop];iterate 1 (refine zh rfl rfl rfl (fun K hK=>?_);go_big_quiet_op;refine hK _ ?_;clear hK)
  refine zz rfl rfl (fun w' hI' hpr hF=>?_) (fun v1 hv=>?_)
  ·have hg:=(HI _).1 hI';refine zP.step (v:= .slice (some ⟨w'.heap.size,0,none⟩) 0 0) (w':=w'.alloc (.cells #[] 83)) (by simp only[execOp];go_simp) ⟨(HI _).2 (hg.trans (za _ _)),za _ _,⟨_,rfl⟩,(zb.made qX w').base (bS hg)⟩
  obtain⟨g0,rfl⟩:=hv;simp only[Act.put,sB,sS,sZ];iterate 1 (refine zh rfl rfl rfl (fun K hK=>?_);go_big_quiet_op;refine hK _ ?_;clear hK)
  refine jE (.tmp 121) ⟨b,0,none⟩ rfl rfl rfl rfl ?_;simp only[Act.put,sB,sS,sZ];iterate 5 (refine zh rfl rfl rfl (fun K hK=>?_);go_big_quiet_op;refine hK _ ?_;clear hK)
  refine zz rfl rfl (fun w' hI' hpr hF=>?_) (fun v1 hv=>?_)
  ·have hg:=(HI _).1 hI';have h0:zb qX wr.heap.size w' (.slice (some ⟨g0,0,none⟩) 0 0) []:=hF 1 (by kernel_rfl)
   obtain⟨v',w2,hrun,ho,hg2,hz⟩:=jq (E:=qX) (w:=w') 37 h0 (.slice (some adc) at_ V.ca.c) A (HRA.grew hg) (bS hg);obtain⟨a',c',rfl⟩:=ho.form;refine zP.step (v:= .slice a' A.length c') (w':=w2) ?_ ⟨(HI _).2 (hg.trans hg2),hg2,⟨⟨a',c',by rw[HLA.out]⟩,fun h=>⟨g0,hz (eN (by rw[HLA.out];exact h))⟩⟩,ho⟩
   clear hx10 hup hfr;simp only[execOp,resolve,invoke,builtin,pure_bind,Sem.run_bind,Sem.run_pure,List.map_toArray,mP,List.map_nil];exact Eq.trans (congrArg (fun r=>Result.andThen r (fun a w'=>Result.ok (Next.value a) w')) hrun) rfl
  obtain⟨⟨a3,c3,rfl⟩,hz3⟩:=hv;simp only[Act.put,sB,sS,sZ];iterate 4 (refine zh rfl rfl rfl (fun K hK=>?_);go_big_quiet_op;refine hK _ ?_;clear hK)
  refine zz rfl rfl (fun w' hI' hpr hF=>?_) (fun v1 hv=>?_)
  ·have hg:=(HI _).1 hI';have hoc:=(zcN w' cn).base (bS hg);rw[HCN.out]at hoc;refine zP.step (v:= .slice (some ⟨w'.heap.size,0,none⟩) 1 1) (w':=w'.alloc (.cells #[I6 (fi:Int),I6 (ix:Int),I6 (j:Int)] 83)) (by clear hx10 hup hfr;simp only[execOp];go_simp) ⟨(HI _).2 (hg.trans (za _ _)),za _ _,⟨_,rfl⟩,by rw[HCN.out];exact hoc⟩
  obtain⟨g5,rfl⟩:=hv;simp only[Act.put,sB,sS,sZ];refine zz rfl rfl (fun w' hI' hpr hF=>?_) (fun v1 hv=>?_)
  ·have hg:=(HI _).1 hI';have o3:zb qX wr.heap.size w' (.slice a3 at_ c3) A:=hF 9 (by kernel_rfl)
   have o5:zb qX wr.heap.size w' (.slice (some ⟨g5,0,none⟩) 1 1) [cn]:=hF 14 (by kernel_rfl)
   have key:∃v' w2,(Builtin.append_ #[37,37] 37 #[.slice a3 at_ c3,.slice (some ⟨g5,0,none⟩) 1 1]).run prog w'= .ok v' w2/\zb qX wr.heap.size w2 v' (A++ [cn])/\zc wr w2/\∀u m,m.length<=at_\/m.length<=1->zb qX wr.heap.size w' u m->zb qX wr.heap.size w2 u m:=by
    by_cases h0:at_=0
    ·have hxs:A=[]:=eN (by rw[HLA.out];exact h0)
     obtain⟨g,hgv⟩:=hz3 h0;rw[hgv,hxs]at o3;rw[hgv,hxs];obtain⟨v',w2,hrun,ho,hg2,_⟩:=jq (E:=qX) (w:=w') 37 o3 (.slice (some ⟨g5,0,none⟩) 1 1) [cn] o5.at (bS hg);exact⟨v',w2,hrun,ho,hg.trans hg2,fun u m _ h=>h.grew hg2⟩
    obtain⟨v',w2,hrun,ho,hgr,hk⟩:=qp (E:=qX) (w:=w') 37 o3 (.slice (some ⟨g5,0,none⟩) 1 1) [cn] o5.at (by rw[HLA.out];show(at_+1)*24<=_;omega) (bS hg)
    refine⟨v',w2,hrun,ho,qo hg hgr (fun g hg'=>(o3.lt g hg').1),fun u m hm h=>hk u m ?_ h⟩
    rw[HLA.out];omega
   obtain⟨v',w2,hrun,ho,hg2,hk⟩:=key;obtain⟨a',c',rfl⟩:=ho.form;refine zP.step (v:= .slice a' (A++ [cn]).length c') (w':=w2) ?_ ⟨(HI _).2 hg2,hk,⟨a',c',by rw[lA,HLA.out];rfl⟩,ho⟩
   clear hx10 hup hfr;simp only[execOp,resolve,invoke,builtin,pure_bind,Sem.run_bind,Sem.run_pure,List.map_toArray,mP,List.map_nil];exact Eq.trans (congrArg (fun r=>Result.andThen r (fun a w'=>Result.ok (Next.value a) w')) hrun) rfl
  obtain⟨a6,c6,rfl⟩:=hv;simp only[Act.put,sB,sS,sZ];iterate 1 (refine zh rfl rfl rfl (fun K hK=>?_);go_big_quiet_op;refine hK _ ?_;clear hK)
  refine jE (.tmp 135) ⟨b,0,none⟩ rfl rfl rfl rfl ?_;simp only[Act.put,sB,sS,sZ];iterate 5 (refine zh rfl rfl rfl (fun K hK=>?_);go_big_quiet_op;refine hK _ ?_;clear hK)
  refine zz rfl rfl (fun w' hI' hpr hF=>?_) (fun v1 hv=>?_)
  ·have hg:=(HI _).1 hI';have o6:zb qX wr.heap.size w' (.slice a6 (at_+1) c6) (A++ [cn]):=hF 15 (by kernel_rfl)
   have hl6:(A++ [cn]).length=at_+1:=by rw[lA,HLA.out];rfl
   obtain⟨v',w2,hrun,ho,hgr,hk⟩:=qp (E:=qX) (w:=w') 37 o6 (.slice fa nd cd) D2 (HRD.grew hg) (by rw[hl6,HLD.out];show(at_+1+(n - at_))*24<=_;omega) (bS hg)
   obtain⟨a',c',rfl⟩:=ho.form;refine zP.step (v:= .slice a' (A++ [cn]++D2).length c') (w':=w2) ?_ ⟨(HI _).2 (qo hg hgr (fun g hg'=>(o6.lt g hg').1)),(fun u m hm h=>hk u m (by rw[hl6];exact hm) h),⟨a',c',by rw[HNN.out]⟩,ho⟩
   clear hx10 hup hfr;simp only[execOp,resolve,invoke,builtin,pure_bind,Sem.run_bind,Sem.run_pure,List.map_toArray,mP,List.map_nil];exact Eq.trans (congrArg (fun r=>Result.andThen r (fun a w'=>Result.ok (Next.value a) w')) hrun) rfl
  obtain⟨a7,c7,rfl⟩:=hv;simp only[Act.put,sB,sS,sZ];refine jE (.tmp 119) ⟨b,0,none⟩ rfl rfl rfl rfl ?_;simp only[Act.put,sB,sS,sZ];iterate 2 (refine zh rfl rfl rfl (fun K hK=>?_);go_big_quiet_op;refine hK _ ?_;clear hK)
  refine jc fun W7 hI7 hF=>?_
  have o7:zb qX wr.heap.size W7 (.slice a7 N c7) (A++ [cn]++D2):=hF 23;have g7:=(HI _).1 hI7;have M7:=dD (MQ.grew g7);have K7:=dD (KQ.trans (zo.grew g7));have O7:Hid (zb qX wr.heap.size W7 (.slice a7 N c7) (A++ [cn]++D2)):=o7;have HB7:Hid (w0.heap.size<=wr.heap.size):=show _<=_ from bS MQ.gr
  have HB8:Hid (b<wr.heap.size):=dD<|MQ.box.box.lt
  clear o7 g7 hF hI7 hx10 hup hfr hne hI0;have xc:=M7.box.box.c 10 rfl;(try simp only[Sli.x]at xc);rw[HN.out,HAA.out]at xc;have xf:=M7.box.box.f;have HG8:Hid (W7.grownBy (W7.setCell ⟨b,10,none⟩ (.slice a7 N c7)) (some b)):=⟨rfl,rfl,rfl,by simp[World.setCell],fun k _ hk=>Below.heap_setCell _ _ _ _ (fun e=>hk (by rw[e]))⟩
  have M8:Hid (Mk w0 hi (W7.setCell ⟨b,10,none⟩ (.slice a7 N c7)) b vl6 L6 { V with ca:=⟨a7,N,c7⟩ } { m with fs:=m.fs.set j ⟨⟨p0,p1,p2,p3,p4,p5,p6,p7⟩,1,x == 1,dd,(fi:Int),(ix:Int)⟩,ca:=Zn m.ca ⟨(fi:Int),(ix:Int),(j:Int)⟩ } vt T):=dD<|by
   have h7:=M7.out;refine⟨ze h7.gr HG8 h7.hb,h7.hb,h7.box.set 10 _,h7.lr,h7.lc,h7.lb,?_⟩;have hr:=h7.rows.var HG8 h7.box HG8.size (.inl rfl);have:=hr.setCa (s:=⟨a7,N,c7⟩) (ca:=A++ [cn]++D2) ((O7.setCell (by have:=HB8.out;simp;omega) _).base HB7)
   rw[HCN.out]at this HSP;rw[HSP.out];exact this
  have K8:=dD (K7.trans (M7.keeps HG8));go_wp2;go_ret;exact .inr (.inr ⟨j,rfl,q,_,_,_,⟨a7,N,c7⟩,HQ,HR0,HNO,vl6,L6,M8,LL6,K8⟩)
 have hltz2:¬(at_:Int)< (n:Int):=by omega
 have hgd:decide ((at_:Int)< (n:Int))=false:=by simpa using hltz2
 have HST:Hid (∀x,m.ca[at_]? =some x->decide (jH x<jH ⟨(fi:Int),(ix:Int),(j:Int)⟩)=false):=dD<|fun x hx=>by
  have:=(gS.1 hx).1;have:=HLN.out;omega
 go_upto_region 20 with fail;go_quiet (fail);clear x10;have HSP:Hid (Zn m.ca ⟨(fi:Int),(ix:Int),(j:Int)⟩=m.ca.take at_++ [⟨(fi:Int),(ix:Int),(j:Int)⟩]++m.ca.drop at_):=dD<|by
  obtain⟨e1,e2⟩:=zde (p:=fun d=>decide (jH d<jH ⟨(fi:Int),(ix:Int),(j:Int)⟩)) (l:=m.ca) (k:=at_) OW2 HST (by rw[HLN.out];exact hat)
  unfold Zn;rw[e1,e2];simp
 obtain⟨Wq,hWq⟩:∃Wq,wr.drewN nq=Wq:=⟨_,rfl⟩;have Gq:Hid (zc wr Wq):=dD<|by rw[<-hWq];exact(show Below _ _ _ from bD (bR _ _) _)
 rw[hWq];clear hWq;have MQ:=dD (MR.grew Gq);have KQ:=dD (KR.trans (zo.grew Gq));clear Gq
 try clear wr
 obtain⟨wr,rfl⟩:∃wr,wr=Wq:=⟨_,rfl⟩;go_upto_region 22 with fail;obtain⟨A,HA⟩:∃A,Hid (m.ca.take at_=A):=⟨_,rfl⟩;obtain⟨D2,HD⟩:∃D2,Hid (m.ca.drop at_=D2):=⟨_,rfl⟩;rw[HA.out,HD.out]at HSP;have HLA:Hid (A.length=at_):=dD<|by rw[<-HA.out,List.length_take,HLN.out];omega
 have HLD:Hid (D2.length=n - at_):=dD<|by rw[<-HD.out,List.length_drop,HLN.out]
 obtain⟨cn,HCN⟩:∃cn:Ca,Hid (cn=⟨(fi:Int),(ix:Int),(j:Int)⟩):=⟨_,rfl⟩;rw[<-HCN.out]at HSP;obtain⟨N,HNN⟩:∃N,Hid ((A++ [cn]++D2).length=N):=⟨_,rfl⟩;obtain⟨I,HI⟩:∃I:World->Prop,Hid (∀u,I u↔zc wr u):=⟨fun u=>zc wr u,fun _=>Iff.rfl⟩
 have hI0:I wr.drew:=(HI _).2 (gW _)
 have hne:Nonempty (zk I):=⟨⟨_,hI0⟩⟩;have hx10:∀y:zk I,y.world.cell? ⟨b,10,none⟩=some (.slice caa n V.ca.c):=fun y=>by
  have:=(MQ.box.box.grew ((HI _).1 y.holds)).c 10 rfl;(try simp only[Sli.x]at this);rw[HN.out,HAA.out]at this;exact this
 have HRO:Hid (zr qX wr (.slice caa n V.ca.c) m.ca):=dD<|by
  have:=MQ.rows.ca.at;(try simp only[Sli.x]at this);rw[HN.out,HAA.out]at this;exact this
 have hup:=fun W=>zf9 (w:=W) (a:=caa) (n:=n) (c:=V.ca.c) (k:=at_) (nT hat HCC)
 have hfr:=fun W=>zgb (w:=W) (a:=caa) (n:=n) (c:=V.ca.c) (k:=at_) hat
 obtain⟨fa,hfa⟩:∃fa,((caa:Option Addr).map fun ad=>if V.ca.c=at_ then ad else ad.add (at_*3))=fa:=⟨_,rfl⟩
 have HRA:Hid (zr qX wr (.slice caa at_ V.ca.c) A):=dD<|by rw[<-HA.out];exact HRO.upto hat
 have HRD:Hid (zr qX wr (.slice fa (n - at_) (V.ca.c - at_)) D2):=dD<|by rw[<-HD.out,<-hfa];exact HRO.from hat HCC.out
 rw[hfa]at hfr;clear hfa;obtain⟨nd,HND⟩:∃nd,Hid (n - at_=nd):=⟨_,rfl⟩;obtain⟨cd,HCD⟩:∃cd,Hid (V.ca.c - at_=cd):=⟨_,rfl⟩;rw[HND.out,HCD.out]at hfr HRD;refine qa (I:=I) 27 [(1,⟨fun v=>∃g,v= .slice (some ⟨g,0,none⟩) 0 0,fun v w'=>zb qX wr.heap.size w' v [],fun p q=>zc p q,fun _=>True⟩),(9,⟨fun v=>(∃a c,v= .slice a at_ c)/\(at_=0->∃g,v= .slice (some ⟨g,0,none⟩) 0 0),fun v w'=>zb qX wr.heap.size w' v A,fun p q=>zc p q,fun _=>True⟩),(14,⟨fun v=>∃g,v= .slice (some ⟨g,0,none⟩) 1 1,fun v w'=>zb qX wr.heap.size w' v [cn],fun p q=>zc p q,fun _=>True⟩),(15,⟨fun v=>∃a c,v= .slice a (at_+1) c,fun v w'=>zb qX wr.heap.size w' v (A++ [cn]),fun p q=>(∀u m,m.length<=at_\/m.length<=1->zb qX wr.heap.size p u m->zb qX wr.heap.size q u m),fun _=>True⟩),(23,⟨fun v=>∃a c,v= .slice a N c,fun v w'=>zb qX wr.heap.size w' v (A++ [cn]++D2),fun p q=>(∀u m,m.length<=at_+1->zb qX wr.heap.size p u m->zb qX wr.heap.size q u m),fun _=>True⟩)] hI0 qu (by kernel_rfl) rfl rfl (by decide) ?hS ?hp ?hpre ?hpr0 ?_
 case hS=>
  intro x hx;simp only[mC,nM,or_false]at hx
  rcases hx with rfl|rfl|rfl|rfl|rfl
  ·exact⟨_,0,rfl⟩
  ·by_cases h0:at_=0
   ·exact⟨.slice (some ⟨0,0,none⟩) 0 0,⟨some ⟨0,0,none⟩,0,by rw[h0]⟩,fun _=>⟨0,rfl⟩⟩
   exact⟨.slice none at_ 0,⟨_,_,rfl⟩,fun h=>absurd h h0⟩
  ·exact⟨_,0,rfl⟩
  ·exact⟨_,none,0,rfl⟩
  exact⟨_,none,0,rfl⟩
 case hp=>
  intro k s j t hk hj hjk hanc v p q hst hpo;have hk':=zt hk;have hj':=zt hj;clear hk hj;simp only[mC,pJ,nM,or_false]at hk' hj'
  rcases hk' with⟨rfl,rfl⟩|⟨rfl,rfl⟩|⟨rfl,rfl⟩|⟨rfl,rfl⟩|⟨rfl,rfl⟩
  ·rcases hj' with⟨rfl,rfl⟩|⟨rfl,rfl⟩|⟨rfl,rfl⟩|⟨rfl,rfl⟩|⟨rfl,rfl⟩
   ·exact absurd rfl hjk
   ·exact zb.grew hpo hst
   ·exact zb.grew hpo hst
   ·exact hst v [] (.inl (nZ _)) hpo
   exact hst v [] (nZ _) hpo
  ·rcases hj' with⟨rfl,rfl⟩|⟨rfl,rfl⟩|⟨rfl,rfl⟩|⟨rfl,rfl⟩|⟨rfl,rfl⟩
   ·exact zb.grew hpo hst
   ·exact absurd rfl hjk
   ·exact zb.grew hpo hst
   ·exact hst v A (.inl (by rw[HLA.out];exact nR _)) hpo
   exact hst v A (by rw[HLA.out];omega) hpo
  ·rcases hj' with⟨rfl,rfl⟩|⟨rfl,rfl⟩|⟨rfl,rfl⟩|⟨rfl,rfl⟩|⟨rfl,rfl⟩
   ·exact zb.grew hpo hst
   ·exact zb.grew hpo hst
   ·exact absurd rfl hjk
   ·exact hst v [cn] (.inr (nR _)) hpo
   exact hst v [cn] (by simp) hpo
  ·rcases hj' with⟨rfl,rfl⟩|⟨rfl,rfl⟩|⟨rfl,rfl⟩|⟨rfl,rfl⟩|⟨rfl,rfl⟩
   ·exact zb.grew hpo hst
   ·exact zb.grew hpo hst
   ·exact zb.grew hpo hst
   ·exact absurd rfl hjk
   exact hst v (A++ [cn]) (by rw[lA,HLA.out];simp) hpo
  rcases hj' with⟨rfl,rfl⟩|⟨rfl,rfl⟩|⟨rfl,rfl⟩|⟨rfl,rfl⟩|⟨rfl,rfl⟩
  ·exact zb.grew hpo hst
  ·exact zb.grew hpo hst
  ·exact zb.grew hpo hst
  ·exact Bool.noConfusion (hanc.symm.trans (show _=true by kernel_rfl))
  exact absurd rfl hjk
 case hpre=>
  intro j t k s hj hk hjk p q hst hpr;have hj':=zt hj;clear hk hj;simp only[mC,pJ,nM,or_false]at hj'
  rcases hj' with⟨rfl,rfl⟩|⟨rfl,rfl⟩|⟨rfl,rfl⟩|⟨rfl,rfl⟩|⟨rfl,rfl⟩ <;> trivial
 case hpr0=>
  intro k t hk;have hk':=zt hk;clear hk;simp only[mC,pJ,nM,or_false]at hk'
  rcases hk' with⟨rfl,rfl⟩|⟨rfl,rfl⟩|⟨rfl,rfl⟩|⟨rfl,rfl⟩|⟨rfl,rfl⟩ <;> trivial
 simp only[List.take,List.drop];iterate 1 (refine zh rfl rfl rfl (fun K hK=>?_);go_big_quiet_op;refine hK _ ?_;clear hK)
 refine zz rfl rfl (fun w' hI' hpr hF=>?_) (fun v1 hv=>?_)
 ·have hg:=(HI _).1 hI';refine zP.step (v:= .slice (some ⟨w'.heap.size,0,none⟩) 0 0) (w':=w'.alloc (.cells #[] 83)) (by simp only[execOp];go_simp) ⟨(HI _).2 (hg.trans (za _ _)),za _ _,⟨_,rfl⟩,(zb.made qX w').base (bS hg)⟩
 obtain⟨g0,rfl⟩:=hv;simp only[Act.put,sB,sS,sZ];iterate 1 (refine zh rfl rfl rfl (fun K hK=>?_);go_big_quiet_op;refine hK _ ?_;clear hK)
 refine jE (.tmp 121) ⟨b,0,none⟩ rfl rfl rfl rfl ?_;simp only[Act.put,sB,sS,sZ];iterate 5 (refine zh rfl rfl rfl (fun K hK=>?_);go_big_quiet_op;refine hK _ ?_;clear hK)
 refine zz rfl rfl (fun w' hI' hpr hF=>?_) (fun v1 hv=>?_)
 ·have hg:=(HI _).1 hI';have h0:zb qX wr.heap.size w' (.slice (some ⟨g0,0,none⟩) 0 0) []:=hF 1 (by kernel_rfl)
  obtain⟨v',w2,hrun,ho,hg2,hz⟩:=jq (E:=qX) (w:=w') 37 h0 (.slice caa at_ V.ca.c) A (HRA.grew hg) (bS hg);obtain⟨a',c',rfl⟩:=ho.form;refine zP.step (v:= .slice a' A.length c') (w':=w2) ?_ ⟨(HI _).2 (hg.trans hg2),hg2,⟨⟨a',c',by rw[HLA.out]⟩,fun h=>⟨g0,hz (eN (by rw[HLA.out];exact h))⟩⟩,ho⟩
  clear hx10 hup hfr;simp only[execOp,resolve,invoke,builtin,pure_bind,Sem.run_bind,Sem.run_pure,List.map_toArray,mP,List.map_nil];exact Eq.trans (congrArg (fun r=>Result.andThen r (fun a w'=>Result.ok (Next.value a) w')) hrun) rfl
 obtain⟨⟨a3,c3,rfl⟩,hz3⟩:=hv;simp only[Act.put,sB,sS,sZ];iterate 4 (refine zh rfl rfl rfl (fun K hK=>?_);go_big_quiet_op;refine hK _ ?_;clear hK)
 refine zz rfl rfl (fun w' hI' hpr hF=>?_) (fun v1 hv=>?_)
 ·have hg:=(HI _).1 hI';have hoc:=(zcN w' cn).base (bS hg);rw[HCN.out]at hoc;refine zP.step (v:= .slice (some ⟨w'.heap.size,0,none⟩) 1 1) (w':=w'.alloc (.cells #[I6 (fi:Int),I6 (ix:Int),I6 (j:Int)] 83)) (by clear hx10 hup hfr;simp only[execOp];go_simp) ⟨(HI _).2 (hg.trans (za _ _)),za _ _,⟨_,rfl⟩,by rw[HCN.out];exact hoc⟩
 obtain⟨g5,rfl⟩:=hv;simp only[Act.put,sB,sS,sZ];refine zz rfl rfl (fun w' hI' hpr hF=>?_) (fun v1 hv=>?_)
 ·have hg:=(HI _).1 hI';have o3:zb qX wr.heap.size w' (.slice a3 at_ c3) A:=hF 9 (by kernel_rfl)
  have o5:zb qX wr.heap.size w' (.slice (some ⟨g5,0,none⟩) 1 1) [cn]:=hF 14 (by kernel_rfl)
  have key:∃v' w2,(Builtin.append_ #[37,37] 37 #[.slice a3 at_ c3,.slice (some ⟨g5,0,none⟩) 1 1]).run prog w'= .ok v' w2/\zb qX wr.heap.size w2 v' (A++ [cn])/\zc wr w2/\∀u m,m.length<=at_\/m.length<=1->zb qX wr.heap.size w' u m->zb qX wr.heap.size w2 u m:=by
   by_cases h0:at_=0
   ·have hxs:A=[]:=eN (by rw[HLA.out];exact h0)
    obtain⟨g,hgv⟩:=hz3 h0;rw[hgv,hxs]at o3;rw[hgv,hxs];obtain⟨v',w2,hrun,ho,hg2,_⟩:=jq (E:=qX) (w:=w') 37 o3 (.slice (some ⟨g5,0,none⟩) 1 1) [cn] o5.at (bS hg);exact⟨v',w2,hrun,ho,hg.trans hg2,fun u m _ h=>h.grew hg2⟩
   obtain⟨v',w2,hrun,ho,hgr,hk⟩:=qp (E:=qX) (w:=w') 37 o3 (.slice (some ⟨g5,0,none⟩) 1 1) [cn] o5.at (by rw[HLA.out];show(at_+1)*24<=_;omega) (bS hg)
   refine⟨v',w2,hrun,ho,qo hg hgr (fun g hg'=>(o3.lt g hg').1),fun u m hm h=>hk u m ?_ h⟩
   rw[HLA.out];omega
  obtain⟨v',w2,hrun,ho,hg2,hk⟩:=key;obtain⟨a',c',rfl⟩:=ho.form;refine zP.step (v:= .slice a' (A++ [cn]).length c') (w':=w2) ?_ ⟨(HI _).2 hg2,hk,⟨a',c',by rw[lA,HLA.out];rfl⟩,ho⟩
  clear hx10 hup hfr;simp only[execOp,resolve,invoke,builtin,pure_bind,Sem.run_bind,Sem.run_pure,List.map_toArray,mP,List.map_nil];exact Eq.trans (congrArg (fun r=>Result.andThen r (fun a w'=>Result.ok (Next.value a) w')) hrun) rfl
 obtain⟨a6,c6,rfl⟩:=hv;simp only[Act.put,sB,sS,sZ];iterate 1 (refine zh rfl rfl rfl (fun K hK=>?_);go_big_quiet_op;refine hK _ ?_;clear hK)
 refine jE (.tmp 135) ⟨b,0,none⟩ rfl rfl rfl rfl ?_;simp only[Act.put,sB,sS,sZ];iterate 5 (refine zh rfl rfl rfl (fun K hK=>?_);go_big_quiet_op;refine hK _ ?_;clear hK)
 refine zz rfl rfl (fun w' hI' hpr hF=>?_) (fun v1 hv=>?_)
 ·have hg:=(HI _).1 hI';have o6:zb qX wr.heap.size w' (.slice a6 (at_+1) c6) (A++ [cn]):=hF 15 (by kernel_rfl)
  have hl6:(A++ [cn]).length=at_+1:=by rw[lA,HLA.out];rfl
  obtain⟨v',w2,hrun,ho,hgr,hk⟩:=qp (E:=qX) (w:=w') 37 o6 (.slice fa nd cd) D2 (HRD.grew hg) (by rw[hl6,HLD.out];show(at_+1+(n - at_))*24<=_;omega) (bS hg)
  obtain⟨a',c',rfl⟩:=ho.form;refine zP.step (v:= .slice a' (A++ [cn]++D2).length c') (w':=w2) ?_ ⟨(HI _).2 (qo hg hgr (fun g hg'=>(o6.lt g hg').1)),(fun u m hm h=>hk u m (by rw[hl6];exact hm) h),⟨a',c',by rw[HNN.out]⟩,ho⟩
  clear hx10 hup hfr;simp only[execOp,resolve,invoke,builtin,pure_bind,Sem.run_bind,Sem.run_pure,List.map_toArray,mP,List.map_nil];exact Eq.trans (congrArg (fun r=>Result.andThen r (fun a w'=>Result.ok (Next.value a) w')) hrun) rfl
 obtain⟨a7,c7,rfl⟩:=hv;simp only[Act.put,sB,sS,sZ];refine jE (.tmp 119) ⟨b,0,none⟩ rfl rfl rfl rfl ?_;simp only[Act.put,sB,sS,sZ];iterate 2 (refine zh rfl rfl rfl (fun K hK=>?_);go_big_quiet_op;refine hK _ ?_;clear hK)
 refine jc fun W7 hI7 hF=>?_
 have o7:zb qX wr.heap.size W7 (.slice a7 N c7) (A++ [cn]++D2):=hF 23;have g7:=(HI _).1 hI7;have M7:=dD (MQ.grew g7);have K7:=dD (KQ.trans (zo.grew g7));have O7:Hid (zb qX wr.heap.size W7 (.slice a7 N c7) (A++ [cn]++D2)):=o7;have HB7:Hid (w0.heap.size<=wr.heap.size):=show _<=_ from bS MQ.gr
 have HB8:Hid (b<wr.heap.size):=dD<|MQ.box.box.lt
 clear o7 g7 hF hI7 hx10 hup hfr hne hI0;have xc:=M7.box.box.c 10 rfl;(try simp only[Sli.x]at xc);rw[HN.out,HAA.out]at xc;have xf:=M7.box.box.f;have HG8:Hid (W7.grownBy (W7.setCell ⟨b,10,none⟩ (.slice a7 N c7)) (some b)):=⟨rfl,rfl,rfl,by simp[World.setCell],fun k _ hk=>Below.heap_setCell _ _ _ _ (fun e=>hk (by rw[e]))⟩
 have M8:Hid (Mk w0 hi (W7.setCell ⟨b,10,none⟩ (.slice a7 N c7)) b vl6 L6 { V with ca:=⟨a7,N,c7⟩ } { m with fs:=m.fs.set j ⟨⟨p0,p1,p2,p3,p4,p5,p6,p7⟩,1,x == 1,dd,(fi:Int),(ix:Int)⟩,ca:=Zn m.ca ⟨(fi:Int),(ix:Int),(j:Int)⟩ } vt T):=dD<|by
  have h7:=M7.out;refine⟨ze h7.gr HG8 h7.hb,h7.hb,h7.box.set 10 _,h7.lr,h7.lc,h7.lb,?_⟩;have hr:=h7.rows.var HG8 h7.box HG8.size (.inl rfl);have:=hr.setCa (s:=⟨a7,N,c7⟩) (ca:=A++ [cn]++D2) ((O7.setCell (by have:=HB8.out;simp;omega) _).base HB7)
  rw[HCN.out]at this HSP;rw[HSP.out];exact this
 have K8:=dD (K7.trans (M7.keeps HG8));go_wp2;go_ret;exact .inr (.inr ⟨j,rfl,q,_,_,_,⟨a7,N,c7⟩,HQ,HR0,HNO,vl6,L6,M8,LL6,K8⟩)
theorem zi1 (f:Nat->En) (n:Nat) (e:En):tab (qC f n e)=(tab f).set n e:=(zfc f n e).symm
theorem jt (f:Nat->En) {n:Nat} (hn:n<64) (e:En):QC.enc (qC f n e)=splice (QC.enc f) (n*3) (env e):=by
 show qk (tab (qC f n e))=splice (qk (tab f)) (n*3) (env e)
 rw[zi1];exact(Qn (enc:=env) (k:=3) e rfl (tab f) n (fun _ _=>rfl) (by rw[Qj];exact hn)).symm
theorem zge {key:Ca->Int}:∀{l:List Ca} {lo N:Nat},l.Pairwise (fun a b=>key a<key b)->(∀c∈l,(lo:Int)<=key c/\key c< (N:Int))->l.length<=N - lo
 | [],_,_,_,_=>nZ _
 | c :: l,lo,N,h,hb=>by
  obtain⟨h1,h2⟩:=List.pairwise_cons.1 h;have h3:=hb c (by simp)
  have ih:=zge (lo:=(key c).toNat+1) (N:=N) h2 (fun d hd=>by
   have:=h1 d hd;have:=hb d (by simp[hd])
   omega)
  simp only[List.length_cons];omega
section
variable{m:Ma} {T:List (Nat->En)}
theorem ja.cached (h:ja m T):(∀c∈m.ca,0<=c.file/\c.file<=1000/\0<=c.idx/\c.idx<=1000/\0<=c.fr/\c.fr<m.fs.length)/\m.ca.length<=1000/\∀c∈m.ca,∃(k:Nat) (fr:Fr),c.fr=(k:Int)/\m.fs[k]? =some fr/\fr.f=c.file/\fr.x=c.idx:=by
 obtain⟨a1,a2,a3⟩:=zZ.1 h.ca;have key:∀c∈m.ca,(0<=c.file/\c.file<5/\0<=c.idx/\c.idx<12/\0<=c.fr/\c.fr<m.fs.length)/\(qe m c.fr).f=c.file/\(qe m c.fr).x=c.idx:=fun c hc=>by
  have h1:=a1 c hc;unfold caE at h1
  split at h1
  ·cases h1
  rename_i hn
  split at h1
  ·cases h1
  rename_i hn2
  have h2:=h.pages (file:=c.file) (by omega) (by omega)
  refine⟨by omega,?_,?_⟩
  ·exact Classical.byContradiction fun e=>hn2 (.inr (.inl e))
  exact Classical.byContradiction fun e=>hn2 (.inr (.inr e))
 refine⟨fun c hc=>?_,?_,fun c hc=>?_⟩
 ·have:=(key c hc).1;omega
 ·refine nT (zge (key:=jH) (lo:=0) (N:=1000) a3 fun c hc=>?_) (nR _)
  have:=(key c hc).1;unfold jH;omega
 obtain⟨k1,k2,k3⟩:=key c hc;have hlt:c.fr.toNat<m.fs.length:=by omega
 have he:qe m c.fr=m.fs[c.fr.toNat]:=by
  unfold qe;rw[gD,gE hlt];rfl
 rw[he]at k2 k3;exact⟨c.fr.toNat,m.fs[c.fr.toNat],by omega,gE hlt,k2,k3⟩
theorem ja.alone (h:ja m T) {p n:Nat} {s:Sp} (hs:m.sp[p]? =some s) (hx:(zN s.ars n).is=true):-1<=(zN s.ars n).file/\0<=(zN s.ars n).page/\(zN s.ars n).page<=1000/\((zN s.ars n).file<0->(zN s.ars n).sh=false):=by
 have hw:=(h.spok s (mG hs)).1;have hc:=jw.1 hw;obtain⟨i,a,h1,h2,h3⟩:=Qr hx;have hok:=hc.2.all a (mG h1);rw[h3];unfold jl at hok;unfold qn;have h2:=qd.1 h2;obtain⟨o1,o2,o3,o4,o5,o6,o7,o8⟩:=hok;simp only
 split <;> refine⟨by omega,by omega,by omega,fun e=>(o7 e).2⟩
end
section
variable{w0 w w':World} {hi b:Nat} {vl:Sli} {L:List Int} {V:MaV} {m:Ma} {vt:Sli} {T:List (Nat->En)}
theorem Mk.setF (h:Mk w0 hi w b vl L V m vt T) {g:Nat} (hv:(V.f.x).ownBlock=some g) (hg:w.grownBy w' (some g)) (hs:w'.heap.size=w.heap.size) {fs:List Fr} (ho:zb zaf w0.heap.size w' (V.f.x) fs):Mk w0 hi w' b vl L V { m with fs:=fs } vt T/\zo hi w w':=by
 refine⟨⟨ze h.gr hg (h.rows.fs.lt g hv).1,h.hb,h.box.beside hg (fun k e=>by cases e;exact h.rows.fs.ne h.box (by decide) g hv),h.lr,h.lc,h.lb,h.rows.setF hv hg hs ho⟩,?_⟩
 obtain⟨cs,hcs⟩:=h.rows.fs.obj hv;exact zo.kind hg hcs (fun _ hl=>absurd rfl hl.2.1)
theorem Mk.setS (h:Mk w0 hi w b vl L V m vt T) {g:Nat} (hv:(V.s.x).ownBlock=some g) (hg:w.grownBy w' (some g)) (hs:w'.heap.size=w.heap.size) {ls:List Int} (ho:zb slE w0.heap.size w' (V.s.x) ls):Mk w0 hi w' b vl L V { m with sl:=ls } vt T/\zo hi w w':=by
 refine⟨⟨ze h.gr hg (h.rows.sl.lt g hv).1,h.hb,h.box.beside hg (fun k e=>by cases e;exact h.rows.sl.ne h.box (by decide) g hv),h.lr,h.lc,h.lb,h.rows.setS hv hg hs ho⟩,?_⟩
 obtain⟨cs,hcs⟩:=h.rows.sl.obj hv;exact zo.kind hg hcs (fun _ hl=>absurd rfl hl.2.2.1)
theorem Mk.setT (h:Mk w0 hi w b vl L V m vt T) {g:Nat} (hv:(vt.x).ownBlock=some g) (hg:w.grownBy w' (some g)) (hs:w'.heap.size=w.heap.size) {T':List (Nat->En)} (ho:zb QC w0.heap.size w' (vt.x) T'):Mk w0 hi w' b vl L V m vt T'/\zo hi w w':=by
 refine⟨⟨ze h.gr hg (h.rows.tt.lt g hv).1,h.hb,h.box.beside hg (fun k e=>by cases e;exact h.rows.tt.ne h.box (by decide) g hv),h.lr,h.lc,h.lb,h.rows.setT hv hg hs ho⟩,?_⟩
 obtain⟨cs,hcs⟩:=h.rows.tt.obj hv;exact zo.kind hg hcs (fun _ hl=>absurd rfl hl.2.2.2.2.2.2.2.1)
theorem Qe {base:Nat} {v:Value} {ps:List (List Int)} (h:zu base w v ps) {g:Nat} (hg:v.ownBlock=some g):base<=g/\∃cs,w.heap[g]? =some (.cells cs 50 (0,0)):=by
 rcases h.1.2 with⟨rfl,_⟩|⟨k,cap,cur,rfl,h2,h3,_⟩
 ·cases hg
 simp only[Value.ownBlock,Option.some.injEq]at hg;subst hg;exact⟨h2,cur,h3⟩
theorem Mk.setSb (h:Mk w0 hi w b vl L V m vt T) {g:Nat} (hv:(V.sb.x).ownBlock=some g) (hg:w.grownBy w' (some g)) (hs:w'.heap.size=w.heap.size) {ls:List (List Int)} (ho:zu w0.heap.size w' (V.sb.x) ls):Mk w0 hi w' b vl L V { m with sb:=ls } vt T/\zo hi w w':=by
 obtain⟨h1,cs,h2⟩:=Qe h.rows.sb hv;refine⟨⟨ze h.gr hg h1,h.hb,h.box.beside hg (fun k e=>?_),h.lr,h.lc,h.lb,h.rows.setSb h2 hv hg hs ho⟩,zo.kind hg h2 (fun p hl=>?_)⟩
 ·cases e;intro e;subst e;have h3:w.heap[b]? =_:=h.box;rw[h2]at h3;cases h3
 have:=hl.2.2.2.2.2.2.2.2 rfl;have:=h.rows.sbh g hv;omega
end
theorem zcH (l:List Value) (h:i<l.length) (u:Value):splice l i [u]=l.set i u:=by
 rw[List.set_eq_take_append_cons_drop,if_pos h]
 simp[splice]
theorem zb.box {α:Type} {E:Elt α} {base g:Nat} {v:Value} {l:List α} (h:zb E base w v l) (hg:v.ownBlock=some g):∃cs,zD w g E.ty cs:=by
 obtain⟨cs,h1⟩:=h.obj hg;exact⟨cs.toList,by unfold zD;rw[h1]⟩
theorem zb.unfrozen {α:Type} {E:Elt α} {base g:Nat} {v:Value} {l:List α} (h:zb E base w v l) (hg:v.ownBlock=some g):∀j,w.frozen? ⟨g,j,none⟩=false:=by
 obtain⟨cs,h1⟩:=h.box hg;exact h1.box.f
theorem zb.cell {α:Type} {E:Elt α} {base g:Nat} {v:Value} {l:List α} (h:zb E base w v l) {k o:Nat} (hg:v.ownBlock=some g) {x y:α} (hk:l[k]? =some x) {u:Value} (hy:E.enc y=(E.enc x).set o u) (ho:o<E.k):
  zb E base (w.setCell ⟨g,k*E.k+o,none⟩ u) v (l.set k y)/\w.grownBy (w.setCell ⟨g,k*E.k+o,none⟩ u) (some g)/\(w.setCell ⟨g,k*E.k+o,none⟩ u).heap.size=w.heap.size:=by
 refine⟨⟨?_,by rw[List.length_set];exact h.2⟩,⟨rfl,rfl,rfl,by simp[World.setCell],fun j _ hj=>Below.heap_setCell _ _ _ _ (fun e=>hj (by rw[e]))⟩,by simp[World.setCell]⟩
 have hkl:=(gS.1 hk).1;refine⟨by rw[List.length_set,jC,List.length_set],?_⟩
 rcases h.1.2 with⟨rfl,_⟩|⟨g',cap,cur,rfl,h2,h3,h4,h5,h6,h7⟩
 ·cases hg
 simp only[Value.ownBlock,Option.some.injEq]at hg;subst hg;have hb:zD w g' E.ty cur.toList:=by unfold zD;rw[h3]
 have hb2:=hb.set (k*E.k+o) u;refine .inr ⟨g',cap,(cur.toList.set (k*E.k+o) u).toArray,by rw[List.length_set],h2,hb2,by rw[List.length_set];exact h4,h5,by simpa using h6,?_⟩
 rw[List.length_set,List.toList_toArray,List.take_set,h7,<-zcH _ ?_ u]
 ·refine QG o [u] (y:=y) ?_ (by simp;omega) l k hk
  rw[hy,zcH _ (by rw[E.len];exact ho)]
 rw[jC];have:(k+1)*E.k<=l.length*E.k:=Nat.mul_le_mul_right _ hkl;rw[Nat.add_mul]at this;omega
theorem QN {p:Nat}:Loc hi p 96:=⟨by decide,by decide,by decide,by decide,by decide,by decide,by decide,by decide,fun h=>absurd h (by decide)⟩
theorem ja.refs (h:ja m T) {k:Nat} {f:Fr} (hk:m.fs[k]? =some f):0<=f.r/\f.r<=2000:=by
 have h1:=(h.cf k f hk).1;have h2:=zaX T 1 k;have h3:zS m.ca k<=m.ca.length:=List.countP_le_length;have h4:=h.cached.2.1;have h5:=h.tl;have h6:=h.spl;omega
def Ent (w0:World) (hi b:Nat) (w:World) (L:List Int) (m:Ma) (vt:Sli) (T:List (Nat->En)) (p n:Nat) (f:Nat->En) (w':World):Prop:=∃vl' L' V' m' T',Mk w0 hi w' b vl' L' V' m' vt T'/\ZX L L'/\zo hi w w'/\ja m' T'/\(m'.sp=m.sp/\m'.fl=m.fl/\m'.hand=m.hand/\m'.fs.length=m.fs.length)/\(T'=T\/∃e,T'=T.set p (qC f n e))/\(L=[]->m'=m/\T'=T)
theorem Ent.same (p n:Nat) (f:Nat->En) (hb:ja m T) (h:MkE w0 hi b w L V m vt T w'):Ent w0 hi b w L m vt T p n f w':=by
 obtain⟨vl',L',h1,h2,h3⟩:=h;exact⟨vl',L',V,m,T,h1,h2,h3,hb,⟨rfl,rfl,rfl,rfl⟩,.inl rfl,fun _=>⟨rfl,rfl⟩⟩
theorem ziw (p n:Nat) (s:Sp) (f:Nat->En) (x:On) (h:Mk w0 hi w b vl L V m vt T) (hB:ja m T) (hs:m.sp[p]? =some s) (hT:T[p]? =some f) (hn:n<64) (h0:f n=en0) (hx:zN s.ars n=x) (his:x.is=true) (hfi:qW m.fl.length s.ars):
  Calls prog 83 #[.pointer (some ⟨b,0,none⟩),I6 (p:Int),I6 (n:Int),.agg (onv x).toArray] w fun e w'=>(∃v,e= .returned v)/\Ent w0 hi b w L m vt T p n f w':=by
 have hal:=hB.alone hs (n:=n) (by rw[hx];exact his)
 have hfl:x.file< (m.fl.length:Int):=by rw[<-hx];exact hfi n hn (by rw[hx];exact his)
 rw[hx]at hal;obtain⟨al1,al2,al3,al4⟩:=hal;obtain⟨xis,xrd,xwr,xsh,xfi,xpg⟩:=x;dsimp only at his al1 al2 al3 al4 hfl;subst his;have HX:Hid (zN s.ars n=⟨true,xrd,xwr,xsh,xfi,xpg⟩):=hx;have HM:Hid (Mk w0 hi w b vl L V m vt T):=h;have HB:Hid (ja m T):=hB;have HS:Hid (m.sp[p]? =some s):=hs;have HT:Hid (T[p]? =some f):=hT;have H0:Hid (f n=en0):=h0;obtain⟨tn,HTL⟩:∃tn,Hid (T.length=tn):=⟨_,rfl⟩;have hpt:p<tn:=by rw[<-HTL.out];exact(gS.1 hT).1
 have HIS:Hid ((zN s.ars n).is=true):=dD<|by rw[hx]
 have HWR:Hid ((zN s.ars n).wr=xwr):=dD<|by rw[hx]
 have HSE:Hid ((zN s.ars n).sh=xsh/\(zN s.ars n).file=xfi/\(zN s.ars n).page=xpg):=dD<|by rw[hx];exact⟨rfl,rfl,rfl⟩
 obtain⟨px,HPX⟩:∃px,Hid (w.heap.size=px):=⟨_,rfl⟩;obtain⟨W0,hW0⟩:∃W0,w.alloc (.cells #[.bool true,.bool xrd,.bool xwr,.bool xsh,I6 xfi,I6 xpg] 96)=W0:=⟨_,rfl⟩;have HG0:=gA hW0
 have X0:=xPT hW0 HPX
 have M0:Hid (Mk w0 hi W0 b vl L V m vt T):=h.grew HG0.out;have HBX:Hid (b<w.heap.size):=show _<_ from h.box.box.lt
 have HW0:Hid (_=W0):=hW0;clear hW0 h hB hs hT h0 hx hfi
 go_enter func83,ntmps83
 go_upto_region 1 with fail;have hw:w.alloc (.cells (onv ⟨true,xrd,xwr,xsh,xfi,xpg⟩).toArray 96)=W0:=HW0.out;rw[hw,HPX.out];clear hw;have hpk:=qB 4 M0.out;go_wp2_with fail;refine hpk.mono ?_;clear hpk;rintro e W1 ⟨vl1,L1,y,rfl,mk1,gr1,sz1,y0,y1,yn,ll⟩;have M1:Hid (Mk w0 hi W1 b vl1 L1 V m vt T):=mk1;have K1:Hid (zo hi w W1):=(zo.grew HG0).trans (M0.keeps gr1);have X1:Hid (zD W1 px 96 [.bool true,.bool xrd,.bool xwr,.bool xsh,I6 xfi,I6 xpg]):=X0.beside gr1 (fun g e=>by cases e;have:=HBX.out;have:=HPX.out;omega)
 have LL1:Hid (ZX L L1):=ll;have hy4:y<4:=by rcases y1 with h | h <;> omega
 have HYN:Hid (L=[]->y=0):=yn;clear mk1 gr1 sz1 y1 yn ll
 by_cases hy:y=0
 ·have hye:(y == 0)=true:=by simp[hy]
  clear hy;have HE:Hid (Ent w0 hi b w L m vt T p n f W1):=dD<|Ent.same p n f HB ⟨vl1,L1,M1,LL1,K1⟩
  go_wp2
  (first | go_end0 | ((try simp only[Exit.inBlock,Exit.then]);refine bodyPost_ret (results_none rfl _ _ _) rfl ?_))
  first | exact HE.out | exact⟨⟨_,rfl⟩,HE⟩
 have hye:(y == 0)=false:=by simp[hy]
 have HLN:Hid (L≠[]):=dD<|fun e=>hy (HYN e)
 clear hy;have c3:=X1.box.c 3 rfl;have c4:=X1.box.c 4 rfl;have HA4:Hid (xfi<0->xsh=false):=dD<|fun h=>al4 (by omega)
 clear al4;go_upto_region 6 with fail
 go_cut [44] (fun s44 wx=>∃c1:Bool,s44= .bool c1/\wx=W1/\Hid (c1=true->0<=xfi)/\Hid (c1=false->xsh=false))
 case first=>
  by_cases hfz:0<=xfi
  ·have hfd:decide ((0:Int)<=xfi)=true:=by simpa using hfz
   cases xsh with
   | true=>
    go_wp2
    go_meet
    exact⟨true,rfl,rfl,fun _=>hfz,fun h=>(by cases h)⟩
   | false=>
    go_wp2
    go_meet
    exact⟨(y == 1),rfl,rfl,fun _=>hfz,fun _=>(by first | rfl | trivial)⟩
  have hfd:decide ((0:Int)<=xfi)=false:=by simpa using hfz
  have HSF:Hid (xsh=false):=HA4.out (by omega)
  go_wp2
  go_meet
  exact⟨false,rfl,rfl,fun h=>(by cases h),fun _=>HSF.out⟩
 obtain⟨c1,rfl,hwc,HC1,HC0⟩:=hcut;rw[hwc];clear hwc c3 c4
 cases c1 with
 | true=>
  have hfz:=HC1.out rfl;obtain⟨fi,rfl⟩:∃fi:Nat,xfi=(fi:Int):=⟨xfi.toNat,by omega⟩
  obtain⟨ix,rfl⟩:∃ix:Nat,xpg=(ix:Int):=⟨xpg.toNat,by omega⟩
  obtain⟨fl,HFL⟩:∃fl,Hid (m.fl[fi]? =some fl):=⟨_,gE (by omega)⟩
  have c3:=X1.box.c 3 rfl;have c4:=X1.box.c 4 rfl;have c5:=X1.box.c 5 rfl;go_upto_region 7 with fail;have x8:=M1.box.box.c 8 rfl;obtain⟨_,_,hfe,_,hfr⟩:=qL.rows M1.rows.at.fl;have hrw:jZ W1 V.fl.a m.fl:=by
   simp only[vJ]at hfe;rw[hfe.1];exact hfr
  have hfn:V.fl.n=m.fl.length:=by
   simp only[vJ]at hfe;exact hfe.2.1
  obtain⟨ad,hva,ba,bc,_,hlf⟩:=hrw fi fl HFL.out;obtain⟨-,d1⟩:=hlf W1 (zc.refl _);obtain⟨fln,hfln⟩:∃fln,V.fl.n=fln:=⟨_,rfl⟩;have hflz:(fi:Int)< (fln:Int):=by
   have:=(gS.1 HFL).1;omega
  (try simp only[Sli.x]at x8);rw[hva,hfln]at x8;obtain⟨bn,HBN⟩:∃bn,Hid (fl.bl.length=bn):=⟨_,rfl⟩;rw[HBN.out]at d1;clear hfe hfr hrw hfn hva hlf hfln
  by_cases hpg:bn<=ix
  ·have hpgd:decide ((bn:Int)<=(ix:Int))=true:=by simpa using hpg
   go_quiet (fail);obtain⟨W2,hW2⟩:∃W2,W1.drewN nq=W2:=⟨_,rfl⟩;have G2:Hid (zc W1 W2):=dD<|by rw[<-hW2];exact(show Below _ _ _ from bD (bR _ _) _)
   rw[hW2];clear hW2 x8 d1 c3 c4 c5;have HE:Hid (Ent w0 hi b w L m vt T p n f W2):=dD<|Ent.same p n f HB ⟨vl1,L1,M1.grew G2,LL1,K1.trans (zo.grew G2)⟩
   go_wp2
   (first | go_end0 | ((try simp only[Exit.inBlock,Exit.then]);refine bodyPost_ret (results_none rfl _ _ _) rfl ?_))
   first | exact HE.out | exact⟨⟨_,rfl⟩,HE⟩
  have hpgd:decide ((bn:Int)<=(ix:Int))=false:=by simpa using hpg
  obtain⟨bk,HBK⟩:∃bk,Hid (fl.bl[ix]? =some bk):=⟨_,gE (by rw[HBN.out];omega)⟩
  go_quiet (fail);obtain⟨W2,hW2⟩:∃W2,W1.drewN nq=W2:=⟨_,rfl⟩;have G2:Hid (zc W1 W2):=dD<|by rw[<-hW2];exact(show Below _ _ _ from bD (bR _ _) _)
  rw[hW2];clear hW2 x8 d1 c3 c4 c5;have M2:=dD (M1.grew G2);have K2:=dD (K1.trans (zo.grew G2));have X2:=dD (X1.grew G2);have c4:=X2.box.c 4 rfl;have c5:=X2.box.c 5 rfl;have hcd:=zhm fi ix fl bk M2 HB.cached.1 HFL HBK (by omega) (by have:=(HB.pages (file:=(fi:Int)) (by omega) hfl).2;omega) HB.cached.2.1
  go_wp2_with fail;refine hcd.mono ?_;clear hcd c4 c5;rintro e W3 hres;have hres2:(e= .returned (I6 (-1))/\MkE w0 hi b w L V m vt T W3)\/∃(k:Nat) (V1:MaV) (m1:Ma) (fr:Fr),e= .returned (I6 (k:Int))/\MkE w0 hi b w L V1 m1 vt T W3/\ja m1 T/\m1.fs[k]? =some fr/\fr.f=(fi:Int)/\fr.x=(ix:Int)/\(m1.sp=m.sp/\m1.fl=m.fl/\m1.hand=m.hand/\m1.fs.length=m.fs.length):=by
   rcases hres with⟨he,hE⟩|⟨c,hc,hc1,hc2,he,hE⟩|⟨j,he,q,pg,u,d,sl,hj,hr,hno,hE⟩
   ·exact .inl ⟨he,hE.trans LL1 K2⟩
   ·obtain⟨k,fr,k1,k2,k3,k4⟩:=HB.cached.2.2 c hc;exact .inr ⟨k,V,m,fr,by rw[he,k1],hE.trans LL1 K2,HB,k2,k3.trans hc1,k4.trans hc2,rfl,rfl,rfl,rfl⟩
   refine .inr ⟨j,_,_,⟨pg,1,u,d,fi,ix⟩,he,hE.trans LL1 K2,HB.cache hj hr ⟨by omega,hfl⟩ ⟨by omega,?_⟩ hno,?_,rfl,rfl,rfl,rfl,rfl,List.length_set⟩
   ·unfold bkN;rw[tN,gD,HFL.out];simp only[Option.getD_some];have:=HBN.out;omega
   exact sF (gS.1 hj).1
  have X3:Hid (zD W3 px 96 [.bool true,.bool xrd,.bool xwr,.bool xsh,I6 (fi:Int),I6 (ix:Int)]):=dD<|by
   rcases hres with⟨_,_,_,_,_,hk⟩|⟨_,_,_,_,_,_,_,_,_,hk⟩|⟨_,_,_,_,_,_,_,_,_,_,_,_,_,_,hk⟩
   ·exact hk.1 _ _ _ X2 QN
   ·exact hk.1 _ _ _ X2 QN
   exact hk.1 _ _ _ X2 QN
  clear hres
  rcases hres2 with⟨rfl,hE⟩|⟨k,V1,m1,fr,rfl,⟨vl3,L3,mk3,ll3,kp3⟩,hb1,hk,hkf,hkx,hsame⟩
  ·have HEE:Hid (MkE w0 hi b w L V m vt T W3):=hE;clear hE;have HE:Hid (Ent w0 hi b w L m vt T p n f W3):=show Ent _ _ _ _ _ _ _ _ _ _ _ _ from Ent.same p n f HB HEE.out
   go_wp2
   (first | go_end0 | ((try simp only[Exit.inBlock,Exit.then]);refine bodyPost_ret (results_none rfl _ _ _) rfl ?_))
   first | exact HE.out | exact⟨⟨_,rfl⟩,HE⟩
  have M3:Hid (Mk w0 hi W3 b vl3 L3 V1 m1 vt T):=mk3;have K3:Hid (zo hi w W3):=kp3;have LL3:Hid (ZX L L3):=ll3;have HB1:Hid (ja m1 T):=hb1;have HK:Hid (m1.fs[k]? =some fr):=hk;have HKF:Hid (fr.f=(fi:Int)/\fr.x=(ix:Int)):=show _/\_ from⟨hkf,hkx⟩
  have HSM:Hid (m1.sp=m.sp/\m1.fl=m.fl/\m1.hand=m.hand/\m1.fs.length=m.fs.length):=dD<|hsame
  obtain⟨hr0,hr1⟩:=hb1.refs hk;obtain⟨nf,HNF⟩:∃nf,Hid (m1.fs.length=nf):=⟨_,rfl⟩;have hkn:k<nf:=by rw[<-HNF.out];exact(gS.1 hk).1
  have hkz:(k:Int)< (nf:Int):=by omega
  have hk0:¬(k:Int)<0:=by omega
  clear mk3 ll3 kp3 hb1 hk hkf hkx hsame;obtain⟨g,cf,heq⟩:=M3.rows.fs.formS (by rw[HNF.out];omega)
  rw[HNF.out]at heq;have HEQ:Hid (V1.f.x= .slice (some ⟨g,0,none⟩) nf cf):=heq;have x1:=M3.box.box.c 1 rfl;(first|rw[HEQ.out]at x1|rw[show Value.slice _ _ _=_ from HEQ.out]at x1);have hrw:=M3.rows.fs;(first|rw[HEQ.out]at hrw|rw[show Value.slice _ _ _=_ from HEQ.out]at hrw);have HRW:Hid (zb zaf w0.heap.size W3 (.slice (some ⟨g,0,none⟩) nf cf) m1.fs):=hrw;have hce:=hrw.one HK.out;have d8:W3.cell? ⟨g,k*13+8,none⟩=some (I6 fr.r):=by
   have:=hce 8 _ rfl;rw[zI,Addr.add_lit,zA]at this;exact this
  clear hce hrw heq;have xf:=HRW.unfrozen rfl;go_upto_region 11 with fail;obtain⟨ow4,gr4,sz4⟩:=HRW.cell (k:=k) (o:=8) rfl HK (y:={ fr with r:=fr.r+1 }) (u:=I6 (fr.r+1)) rfl (by decide)
  obtain⟨W4,hW4⟩:∃W4,W3.setCell ⟨g,k*13+8,none⟩ (I6 (fr.r+1))=W4:=⟨_,rfl⟩;have e4:W3.setCell ⟨g,k*zaf.k+8,none⟩ (I6 (fr.r+1))=W4:=hW4;rw[e4]at ow4 gr4 sz4;rw[hW4];rw[<-HEQ.out]at ow4;clear e4 hW4 xf;have hM4:=M3.setF (by rw[HEQ.out];rfl) gr4 sz4 ow4
  have M4:Hid (Mk w0 hi W4 b vl3 L3 V1 { m1 with fs:=m1.fs.set k { fr with r:=fr.r+1 } } vt T):=hM4.1;have K4:Hid (zo hi w W4):=K3.trans hM4.2;have X4:Hid (zD W4 px 96 [.bool true,.bool xrd,.bool xwr,.bool xsh,I6 (fi:Int),I6 (ix:Int)]):=hM4.2.1 _ _ _ X3 QN;have HBF:Hid (∀wf:Bool,(wf=true->xsh=true/\xwr=true)->ja { m1 with fs:=m1.fs.set k { fr with r:=fr.r+1 } } (T.set p (qC f n ⟨1,(k:Int),wf⟩))):=show∀wf:Bool,_ from fun wf hwf=>HB1.hold HK (by rw[HKF.1];omega) (by rw[HSM.1];exact HS) HT hn H0 HIS (by rw[HKF.1];exact HSE.2.1) (by rw[HKF.2];exact HSE.2.2) (fun e=>by rw[HSE.1,HWR.out];exact hwf e)
  clear hM4 ow4 gr4 sz4 x1 d8
  cases xsh with
  | false=>
   obtain⟨gt,ct,hte⟩:=M4.rows.tt.formS (by rw[HTL.out];omega)
   rw[HTL.out]at hte;have HTE:Hid (vt.x= .slice (some ⟨gt,0,none⟩) tn ct):=hte;clear hte;obtain⟨I,HI⟩:∃I:World->Prop,Hid (∀u,I u↔u.cell? ⟨b,12,none⟩=some (.slice (some ⟨gt,0,none⟩) tn ct)/\zD u px 96 [.bool true,.bool xrd,.bool xwr,.bool false,I6 (fi:Int),I6 (ix:Int)]):=⟨fun u=>u.cell? ⟨b,12,none⟩=some (.slice (some ⟨gt,0,none⟩) tn ct)/\zD u px 96 [.bool true,.bool xrd,.bool xwr,.bool false,I6 (fi:Int),I6 (ix:Int)],fun _=>Iff.rfl⟩
   have HIM:Hid (∀u vl' L' V' m',Mk w0 hi u b vl' L' V' m' vt T->u.cell? ⟨b,12,none⟩=some (.slice (some ⟨gt,0,none⟩) tn ct)):=dD<|fun u vl' L' V' m' hm=>by
    have:=hm.box.box.c 12 rfl;(first|rw[HTE.out]at this|rw[show Value.slice _ _ _=_ from HTE.out]at this);exact this
   have hI0:I W4.drew:=(HI _).2 ⟨HIM _ _ _ _ _ (M4.grew (gW _)),X4.grew (gW _)⟩
   have hF0:MkE w0 hi b w L V1 { m1 with fs:=m1.fs.set k { fr with r:=fr.r+1 } } vt T W4.drew:=⟨vl3,L3,M4.grew (gW _),LL3,K4.trans (zo.grew (gW _))⟩
   have ht:∀y:zk I,y.world.cell? ⟨b,12,none⟩=some (.slice (some ⟨gt,0,none⟩) tn ct):=fun y=>((HI _).1 y.holds).1
   have hx2:∀y:zk I,y.world.cell? ⟨px,2,none⟩=some (.bool xwr):=fun y=>((HI _).1 y.holds).2.box.c 2 rfl
   have hx3:∀y:zk I,y.world.cell? ⟨px,3,none⟩=some (.bool false):=fun y=>((HI _).1 y.holds).2.box.c 3 rfl
   have hne:Nonempty (zk I):=⟨⟨_,hI0⟩⟩;have hptz:(p:Int)< (tn:Int):=by omega
   have hnz:(n:Int)<64:=by omega
   refine zX (I:=I) 21 [(15,fun v=>∃x:Int,v=I6 x)] (fun u=>MkE w0 hi b w L V1 { m1 with fs:=m1.fs.set k { fr with r:=fr.r+1 } } vt T u) hI0 hF0 qu (by kernel_rfl) rfl rfl (by decide) ?hS (by kernel_rfl) ?_
   case hS=>
    intro x hx;simp only[mC,nM,or_false]at hx;subst hx;exact⟨_,0,rfl⟩
   simp only[List.take,List.drop];iterate 1 (refine zi rfl rfl rfl (fun K hK=>?_);go_big_quiet_op;refine hK _ ?_;clear hK)
   refine zY (.tmp 92) ⟨b,0,none⟩ rfl rfl rfl rfl ?_;simp only[Act.put,sB,sS,sZ];iterate 8 (refine zi rfl rfl rfl (fun K hK=>?_);go_big_quiet_op;refine hK _ ?_;clear hK)
   refine jv ?_ ?_
   ·kernel_rfl
   simp only[Act.put,sB,sS,sZ];refine jv ?_ ?_
   ·kernel_rfl
   simp only[Act.put,sB,sS,sZ];iterate 2 (refine zi rfl rfl rfl (fun K hK=>?_);go_big_quiet_op;refine hK _ ?_;clear hK)
   refine jv ?_ ?_
   ·kernel_rfl
   simp only[Act.put,sB,sS,sZ];refine jv ?_ ?_
   ·kernel_rfl
   simp only[Act.put,sB,sS,sZ];refine jv ?_ ?_
   ·kernel_rfl
   simp only[Act.put,sB,sS,sZ];iterate 4 (refine zi rfl rfl rfl (fun K hK=>?_);go_big_quiet_op;refine hK _ ?_;clear hK)
   refine jd fun W8 hI8 hF8=>?_
   obtain⟨vl8,L8,mk8,ll8,kp8⟩:=hF8;have M8:Hid (Mk w0 hi W8 b vl8 L8 V1 { m1 with fs:=m1.fs.set k { fr with r:=fr.r+1 } } vt T):=mk8;have LL8:Hid (ZX L L8):=ll8;have K8:Hid (zo hi w W8):=kp8;clear mk8 ll8 kp8 hI8 hI0 hF0 ht hx2 hx3 hne;have R8:Hid (zb QC w0.heap.size W8 (.slice (some ⟨gt,0,none⟩) tn ct) T):=show zb _ _ _ _ _ by rw[<-HTE.out];exact M8.rows.tt
   refine zB (E:=QC) rfl (.tmp 112) (.tmp 110) 67 rfl w0.heap.size _ T R8 gt p (n*3) rfl f (qC f n ⟨1,(k:Int),false⟩) HT (env ⟨1,(k:Int),false⟩) (by kernel_rfl) (jt f hn _) (by show n*3+3<=192;omega) (enE.one _) ⟨gt,p*192+n*3,none⟩ rfl rfl (.agg (env ⟨1,(k:Int),false⟩).toArray) rfl rfl ?_
   intro W9 ow9 gr9 sz9;rw[<-HTE.out]at ow9;have hM9:=M8.setT (by rw[HTE.out];rfl) gr9 sz9 ow9
   have M9:Hid (Mk w0 hi W9 b vl8 L8 V1 { m1 with fs:=m1.fs.set k { fr with r:=fr.r+1 } } vt (T.set p (qC f n ⟨1,(k:Int),false⟩))):=hM9.1;have K9:Hid (zo hi w W9):=K8.trans hM9.2;clear hM9 ow9 gr9 sz9;have HE:Hid (Ent w0 hi b w L m vt T p n f W9):=show Ent _ _ _ _ _ _ _ _ _ _ _ _ from⟨vl8,L8,_,_,_,M9,LL8,K9,HBF _ (by intro e;first | exact⟨rfl,rfl⟩ | cases e),⟨HSM.1,HSM.2.1,HSM.2.2.1,List.length_set.trans HSM.2.2.2⟩,.inr ⟨_,rfl⟩,fun h=>absurd h HLN⟩
   go_wp2
   (first | go_end0 | ((try simp only[Exit.inBlock,Exit.then]);refine bodyPost_ret (results_none rfl _ _ _) rfl ?_))
   first | exact HE.out | exact⟨⟨_,rfl⟩,HE⟩
  | true=>
   cases xwr with
   | false=>
    obtain⟨gt,ct,hte⟩:=M4.rows.tt.formS (by rw[HTL.out];omega)
    rw[HTL.out]at hte;have HTE:Hid (vt.x= .slice (some ⟨gt,0,none⟩) tn ct):=hte;clear hte;obtain⟨I,HI⟩:∃I:World->Prop,Hid (∀u,I u↔u.cell? ⟨b,12,none⟩=some (.slice (some ⟨gt,0,none⟩) tn ct)/\zD u px 96 [.bool true,.bool xrd,.bool false,.bool true,I6 (fi:Int),I6 (ix:Int)]):=⟨fun u=>u.cell? ⟨b,12,none⟩=some (.slice (some ⟨gt,0,none⟩) tn ct)/\zD u px 96 [.bool true,.bool xrd,.bool false,.bool true,I6 (fi:Int),I6 (ix:Int)],fun _=>Iff.rfl⟩
    have HIM:Hid (∀u vl' L' V' m',Mk w0 hi u b vl' L' V' m' vt T->u.cell? ⟨b,12,none⟩=some (.slice (some ⟨gt,0,none⟩) tn ct)):=dD<|fun u vl' L' V' m' hm=>by
     have:=hm.box.box.c 12 rfl;(first|rw[HTE.out]at this|rw[show Value.slice _ _ _=_ from HTE.out]at this);exact this
    have hI0:I W4.drew:=(HI _).2 ⟨HIM _ _ _ _ _ (M4.grew (gW _)),X4.grew (gW _)⟩
    have hF0:MkE w0 hi b w L V1 { m1 with fs:=m1.fs.set k { fr with r:=fr.r+1 } } vt T W4.drew:=⟨vl3,L3,M4.grew (gW _),LL3,K4.trans (zo.grew (gW _))⟩
    have ht:∀y:zk I,y.world.cell? ⟨b,12,none⟩=some (.slice (some ⟨gt,0,none⟩) tn ct):=fun y=>((HI _).1 y.holds).1
    have hx2:∀y:zk I,y.world.cell? ⟨px,2,none⟩=some (.bool false):=fun y=>((HI _).1 y.holds).2.box.c 2 rfl
    have hx3:∀y:zk I,y.world.cell? ⟨px,3,none⟩=some (.bool true):=fun y=>((HI _).1 y.holds).2.box.c 3 rfl
    have hne:Nonempty (zk I):=⟨⟨_,hI0⟩⟩;have hptz:(p:Int)< (tn:Int):=by omega
    have hnz:(n:Int)<64:=by omega
    refine zX (I:=I) 21 [(15,fun v=>∃x:Int,v=I6 x)] (fun u=>MkE w0 hi b w L V1 { m1 with fs:=m1.fs.set k { fr with r:=fr.r+1 } } vt T u) hI0 hF0 qu (by kernel_rfl) rfl rfl (by decide) ?hS (by kernel_rfl) ?_
    case hS=>
     intro x hx;simp only[mC,nM,or_false]at hx;subst hx;exact⟨_,0,rfl⟩
    simp only[List.take,List.drop];iterate 1 (refine zi rfl rfl rfl (fun K hK=>?_);go_big_quiet_op;refine hK _ ?_;clear hK)
    refine zY (.tmp 92) ⟨b,0,none⟩ rfl rfl rfl rfl ?_;simp only[Act.put,sB,sS,sZ];iterate 8 (refine zi rfl rfl rfl (fun K hK=>?_);go_big_quiet_op;refine hK _ ?_;clear hK)
    iterate 4 (refine zi rfl rfl rfl (fun K hK=>?_);go_big_quiet_op;refine hK _ ?_;clear hK)
    refine jv ?_ ?_
    ·kernel_rfl
    simp only[Act.put,sB,sS,sZ];refine jv ?_ ?_
    ·kernel_rfl
    simp only[Act.put,sB,sS,sZ];refine jv ?_ ?_
    ·kernel_rfl
    simp only[Act.put,sB,sS,sZ];iterate 4 (refine zi rfl rfl rfl (fun K hK=>?_);go_big_quiet_op;refine hK _ ?_;clear hK)
    refine jd fun W8 hI8 hF8=>?_
    obtain⟨vl8,L8,mk8,ll8,kp8⟩:=hF8;have M8:Hid (Mk w0 hi W8 b vl8 L8 V1 { m1 with fs:=m1.fs.set k { fr with r:=fr.r+1 } } vt T):=mk8;have LL8:Hid (ZX L L8):=ll8;have K8:Hid (zo hi w W8):=kp8;clear mk8 ll8 kp8 hI8 hI0 hF0 ht hx2 hx3 hne;have R8:Hid (zb QC w0.heap.size W8 (.slice (some ⟨gt,0,none⟩) tn ct) T):=show zb _ _ _ _ _ by rw[<-HTE.out];exact M8.rows.tt
    refine zB (E:=QC) rfl (.tmp 112) (.tmp 110) 67 rfl w0.heap.size _ T R8 gt p (n*3) rfl f (qC f n ⟨1,(k:Int),false⟩) HT (env ⟨1,(k:Int),false⟩) (by kernel_rfl) (jt f hn _) (by show n*3+3<=192;omega) (enE.one _) ⟨gt,p*192+n*3,none⟩ rfl rfl (.agg (env ⟨1,(k:Int),false⟩).toArray) rfl rfl ?_
    intro W9 ow9 gr9 sz9;rw[<-HTE.out]at ow9;have hM9:=M8.setT (by rw[HTE.out];rfl) gr9 sz9 ow9
    have M9:Hid (Mk w0 hi W9 b vl8 L8 V1 { m1 with fs:=m1.fs.set k { fr with r:=fr.r+1 } } vt (T.set p (qC f n ⟨1,(k:Int),false⟩))):=hM9.1;have K9:Hid (zo hi w W9):=K8.trans hM9.2;clear hM9 ow9 gr9 sz9;have HE:Hid (Ent w0 hi b w L m vt T p n f W9):=show Ent _ _ _ _ _ _ _ _ _ _ _ _ from⟨vl8,L8,_,_,_,M9,LL8,K9,HBF _ (by intro e;first | exact⟨rfl,rfl⟩ | cases e),⟨HSM.1,HSM.2.1,HSM.2.2.1,List.length_set.trans HSM.2.2.2⟩,.inr ⟨_,rfl⟩,fun h=>absurd h HLN⟩
    go_wp2
    (first | go_end0 | ((try simp only[Exit.inBlock,Exit.then]);refine bodyPost_ret (results_none rfl _ _ _) rfl ?_))
    first | exact HE.out | exact⟨⟨_,rfl⟩,HE⟩
   | true=>
    obtain⟨gt,ct,hte⟩:=M4.rows.tt.formS (by rw[HTL.out];omega)
    rw[HTL.out]at hte;have HTE:Hid (vt.x= .slice (some ⟨gt,0,none⟩) tn ct):=hte;clear hte;obtain⟨I,HI⟩:∃I:World->Prop,Hid (∀u,I u↔u.cell? ⟨b,12,none⟩=some (.slice (some ⟨gt,0,none⟩) tn ct)/\zD u px 96 [.bool true,.bool xrd,.bool true,.bool true,I6 (fi:Int),I6 (ix:Int)]):=⟨fun u=>u.cell? ⟨b,12,none⟩=some (.slice (some ⟨gt,0,none⟩) tn ct)/\zD u px 96 [.bool true,.bool xrd,.bool true,.bool true,I6 (fi:Int),I6 (ix:Int)],fun _=>Iff.rfl⟩
    have HIM:Hid (∀u vl' L' V' m',Mk w0 hi u b vl' L' V' m' vt T->u.cell? ⟨b,12,none⟩=some (.slice (some ⟨gt,0,none⟩) tn ct)):=dD<|fun u vl' L' V' m' hm=>by
     have:=hm.box.box.c 12 rfl;(first|rw[HTE.out]at this|rw[show Value.slice _ _ _=_ from HTE.out]at this);exact this
    have hI0:I W4.drew:=(HI _).2 ⟨HIM _ _ _ _ _ (M4.grew (gW _)),X4.grew (gW _)⟩
    have hF0:MkE w0 hi b w L V1 { m1 with fs:=m1.fs.set k { fr with r:=fr.r+1 } } vt T W4.drew:=⟨vl3,L3,M4.grew (gW _),LL3,K4.trans (zo.grew (gW _))⟩
    have ht:∀y:zk I,y.world.cell? ⟨b,12,none⟩=some (.slice (some ⟨gt,0,none⟩) tn ct):=fun y=>((HI _).1 y.holds).1
    have hx2:∀y:zk I,y.world.cell? ⟨px,2,none⟩=some (.bool true):=fun y=>((HI _).1 y.holds).2.box.c 2 rfl
    have hx3:∀y:zk I,y.world.cell? ⟨px,3,none⟩=some (.bool true):=fun y=>((HI _).1 y.holds).2.box.c 3 rfl
    have hne:Nonempty (zk I):=⟨⟨_,hI0⟩⟩;have hptz:(p:Int)< (tn:Int):=by omega
    have hnz:(n:Int)<64:=by omega
    refine zX (I:=I) 21 [(15,fun v=>∃x:Int,v=I6 x)] (fun u=>MkE w0 hi b w L V1 { m1 with fs:=m1.fs.set k { fr with r:=fr.r+1 } } vt T u) hI0 hF0 qu (by kernel_rfl) rfl rfl (by decide) ?hS (by kernel_rfl) ?_
    case hS=>
     intro x hx;simp only[mC,nM,or_false]at hx;subst hx;exact⟨_,0,rfl⟩
    simp only[List.take,List.drop];iterate 1 (refine zi rfl rfl rfl (fun K hK=>?_);go_big_quiet_op;refine hK _ ?_;clear hK)
    refine zY (.tmp 92) ⟨b,0,none⟩ rfl rfl rfl rfl ?_;simp only[Act.put,sB,sS,sZ];iterate 8 (refine zi rfl rfl rfl (fun K hK=>?_);go_big_quiet_op;refine hK _ ?_;clear hK)
    iterate 4 (refine zi rfl rfl rfl (fun K hK=>?_);go_big_quiet_op;refine hK _ ?_;clear hK)
    iterate 1 (refine zi rfl rfl rfl (fun K hK=>?_);go_big_quiet_op;refine hK _ ?_;clear hK)
    refine qI rfl rfl (fun _ u=>MkE w0 hi b w L V1 { m1 with fs:=m1.fs.set k { fr with r:=fr.r+1 } } vt T u) (fun w' hI' hF'=>?_) (fun v1 hv=>?_)
    ·obtain⟨vl',L',mk',ll',kp'⟩:=hF';refine zP.call [.pointer (some ⟨b,0,none⟩),I6 2] rfl func27 rfl rfl rfl ?_;refine(qB 2 mk').mono ?_;rintro e w'' ⟨vl2,L2,x,rfl,mk2,gr2,_,_,_,_,ll2⟩;exact⟨_,rfl,(HI _).2 ⟨HIM _ _ _ _ _ mk2,(mk'.keeps gr2).1 _ _ _ ((HI _).1 hI').2 QN⟩,⟨x,rfl⟩,vl2,L2,mk2,ll'.trans ll2,kp'.trans (mk'.keeps gr2)⟩
    obtain⟨xq,rfl⟩:=hv;simp only[Act.put,sB,sS,sZ];iterate 5 (refine zi rfl rfl rfl (fun K hK=>?_);go_big_quiet_op;refine hK _ ?_;clear hK)
    refine jd fun W8 hI8 hF8=>?_
    obtain⟨vl8,L8,mk8,ll8,kp8⟩:=hF8;have M8:Hid (Mk w0 hi W8 b vl8 L8 V1 { m1 with fs:=m1.fs.set k { fr with r:=fr.r+1 } } vt T):=mk8;have LL8:Hid (ZX L L8):=ll8;have K8:Hid (zo hi w W8):=kp8;clear mk8 ll8 kp8 hI8 hI0 hF0 ht hx2 hx3 hne;have R8:Hid (zb QC w0.heap.size W8 (.slice (some ⟨gt,0,none⟩) tn ct) T):=show zb _ _ _ _ _ by rw[<-HTE.out];exact M8.rows.tt
    refine zB (E:=QC) rfl (.tmp 112) (.tmp 110) 67 rfl w0.heap.size _ T R8 gt p (n*3) rfl f (qC f n ⟨1,(k:Int),(xq == 1)⟩) HT (env ⟨1,(k:Int),(xq == 1)⟩) (by kernel_rfl) (jt f hn _) (by show n*3+3<=192;omega) (enE.one _) ⟨gt,p*192+n*3,none⟩ rfl rfl (.agg (env ⟨1,(k:Int),(xq == 1)⟩).toArray) rfl rfl ?_
    intro W9 ow9 gr9 sz9;rw[<-HTE.out]at ow9;have hM9:=M8.setT (by rw[HTE.out];rfl) gr9 sz9 ow9
    have M9:Hid (Mk w0 hi W9 b vl8 L8 V1 { m1 with fs:=m1.fs.set k { fr with r:=fr.r+1 } } vt (T.set p (qC f n ⟨1,(k:Int),(xq == 1)⟩))):=hM9.1;have K9:Hid (zo hi w W9):=K8.trans hM9.2;clear hM9 ow9 gr9 sz9;have HE:Hid (Ent w0 hi b w L m vt T p n f W9):=show Ent _ _ _ _ _ _ _ _ _ _ _ _ from⟨vl8,L8,_,_,_,M9,LL8,K9,HBF _ (by intro e;first | exact⟨rfl,rfl⟩ | cases e),⟨HSM.1,HSM.2.1,HSM.2.2.1,List.length_set.trans HSM.2.2.2⟩,.inr ⟨_,rfl⟩,fun h=>absurd h HLN⟩
    go_wp2
    (first | go_end0 | ((try simp only[Exit.inBlock,Exit.then]);refine bodyPost_ret (results_none rfl _ _ _) rfl ?_))
    first | exact HE.out | exact⟨⟨_,rfl⟩,HE⟩
 | false=>
  have hsh:=HC0.out rfl;subst hsh;have x3:=M1.box.box.c 3 rfl;obtain⟨sn,hsn⟩:∃sn,V.s.n=sn:=⟨_,rfl⟩;have HSL:Hid (m.sl.length=sn):=dD<|by rw[<-hsn];exact M1.rows.sl.n.symm
  (try simp only[Sli.x]at x3);rw[hsn]at x3;clear hsn;go_upto_region 12 with fail
  go_cut [113] (fun s113 wx=>∃c2:Bool,s113= .bool c2/\wx=W1/\Hid (c2=true->0<sn))
  case first=>
   by_cases h2:y=2
   ·have h2e:(y == 2)=true:=by simp[h2]
    clear h2;go_wp2
    go_meet
    exact⟨_,rfl,rfl,fun h=>by simpa using h⟩
   have h2e:(y == 2)=false:=by simp[h2]
   clear h2;go_wp2
   go_meet
   exact⟨false,rfl,rfl,fun h=>(by cases h)⟩
  obtain⟨c2,rfl,hwc,HC2⟩:=hcut;rw[hwc];clear hwc
  cases c2 with
  | true=>
   have hs0:=HC2.out rfl;have hpk2:=qB (sn:Int) M1.out;go_wp2_with fail;refine hpk2.mono ?_;clear hpk2;rintro e W2 ⟨vl2,L2,z,rfl,mk2,gr2,sz2,z0,z1,_,ll2⟩;obtain⟨k,rfl⟩:∃k:Nat,z=(k:Int):=⟨z.toNat,by omega⟩
   have hks:k<sn:=by rcases z1 with h | h <;> omega
   have hksz:(k:Int)< (sn:Int):=by omega
   have M2:Hid (Mk w0 hi W2 b vl2 L2 V m vt T):=mk2;have K2:=dD (K1.trans (M1.keeps gr2));have LL2:=dD (LL1.trans ll2);clear mk2 gr2 sz2 z0 z1 ll2 x3;obtain⟨g,cs',heq⟩:=M2.rows.sl.formS (by rw[HSL.out];omega)
   rw[HSL.out]at heq;have HEQ:Hid (V.s.x= .slice (some ⟨g,0,none⟩) sn cs'):=heq;have x3:=M2.box.box.c 3 rfl;(first|rw[HEQ.out]at x3|rw[show Value.slice _ _ _=_ from HEQ.out]at x3);have hrw:=M2.rows.sl;(first|rw[HEQ.out]at hrw|rw[show Value.slice _ _ _=_ from HEQ.out]at hrw);have HRW:Hid (zb slE w0.heap.size W2 (.slice (some ⟨g,0,none⟩) sn cs') m.sl):=hrw;obtain⟨zv,HZV⟩:∃zv,Hid (m.sl[k]? =some zv):=⟨_,gE (by rw[HSL.out];exact hks)⟩
   have hce:=hrw.one HZV.out;have d0:W2.cell? ⟨g,k,none⟩=some (I6 zv):=by
    have:=hce 0 _ rfl;rw[zI,Addr.add_lit,zA]at this
    simpa [slE,Nat.mul_one]using this
   clear hce hrw heq
   by_cases hz:zv=0
   ·have hze:(zv == 0)=true:=by simp[hz]
    have HZ0:Hid (m.sl[k]? =some 0):=dD<|by rw[HZV.out,hz]
    clear hz;have xf:=HRW.unfrozen rfl;go_upto_region 16 with fail;obtain⟨ow3,gr3,sz3⟩:=HRW.cell (k:=k) (o:=0) rfl HZV (y:=1) (u:=I6 1) rfl (by decide)
    obtain⟨W3,hW3⟩:∃W3,W2.setCell ⟨g,k,none⟩ (I6 1)=W3:=⟨_,rfl⟩;have e3:W2.setCell ⟨g,k*slE.k+0,none⟩ (I6 1)=W3:=by rw[<-hW3];simp[slE]
    rw[e3]at ow3 gr3 sz3;rw[hW3];rw[<-HEQ.out]at ow3;clear e3 hW3 xf;have hM3:=M2.setS (by rw[HEQ.out];rfl) gr3 sz3 ow3
    have M3:Hid (Mk w0 hi W3 b vl2 L2 V { m with sl:=m.sl.set k 1 } vt T):=hM3.1;have K3:Hid (zo hi w W3):=K2.trans hM3.2;clear hM3 ow3 gr3 sz3 x3 d0;have HSBL:Hid (m.sb.length=sn):=show _=_ by rw[HB.sbl,HSL.out]
    obtain⟨gb,cb,hbe⟩:∃gb cb,V.sb.x= .slice (some ⟨gb,0,none⟩) sn cb:=by
     have h1:=M3.rows.sb.1;have hl:({ m with sl:=m.sl.set k 1 }:Ma).sb.length=sn:=HSBL.out;rw[hl]at h1
     rcases h1.2 with⟨_,h2⟩|⟨gb,cap,cur,e1,_⟩
     ·omega
     exact⟨gb,cap,e1⟩
    have HBE:Hid (V.sb.x= .slice (some ⟨gb,0,none⟩) sn cb):=hbe;clear hbe;obtain⟨I,HI⟩:∃I:World->Prop,Hid (∀u,I u↔u.cell? ⟨b,4,none⟩=some (.slice (some ⟨gb,0,none⟩) sn cb)):=⟨fun u=>u.cell? ⟨b,4,none⟩=some (.slice (some ⟨gb,0,none⟩) sn cb),fun _=>Iff.rfl⟩
    have HIM:Hid (∀u vl' L' m',Mk w0 hi u b vl' L' V m' vt T->u.cell? ⟨b,4,none⟩=some (.slice (some ⟨gb,0,none⟩) sn cb)):=dD<|fun u vl' L' m' hm=>by
     have:=hm.box.box.c 4 rfl;(first|rw[HBE.out]at this|rw[show Value.slice _ _ _=_ from HBE.out]at this);exact this
    have hI0:I W3.drew:=(HI _).2 (HIM _ _ _ _ (M3.grew (gW _)))
    have hF0:MkE w0 hi b w L V { m with sl:=m.sl.set k 1 } vt T W3.drew:=⟨vl2,L2,M3.grew (gW _),LL2,K3.trans (zo.grew (gW _))⟩
    have ht:∀y:zk I,y.world.cell? ⟨b,4,none⟩=some (.slice (some ⟨gb,0,none⟩) sn cb):=fun y=>(HI _).1 y.holds
    have hne:Nonempty (zk I):=⟨⟨_,hI0⟩⟩;refine zX (I:=I) 10 [(8,fun v=>∃q:List Int,v= .agg (pgc q).toArray/\q.length=8)] (fun u=>MkE w0 hi b w L V { m with sl:=m.sl.set k 1 } vt T u) hI0 hF0 qu (by kernel_rfl) rfl rfl (by decide) ?hS (by kernel_rfl) ?_
    case hS=>
     intro x hx;simp only[mC,nM,or_false]at hx;subst hx;exact⟨_,zm,rfl,rfl⟩
    simp only[List.take,List.drop];iterate 1 (refine zi rfl rfl rfl (fun K hK=>?_);go_big_quiet_op;refine hK _ ?_;clear hK)
    refine zY (.tmp 149) ⟨b,0,none⟩ rfl rfl rfl rfl ?_;simp only[Act.put,sB,sS,sZ];iterate 6 (refine zi rfl rfl rfl (fun K hK=>?_);go_big_quiet_op;refine hK _ ?_;clear hK)
    refine qI rfl rfl (fun _ u=>MkE w0 hi b w L V { m with sl:=m.sl.set k 1 } vt T u) (fun w' hI' hF'=>?_) (fun v1 hv=>?_)
    ·obtain⟨vl',L',mk',ll',kp'⟩:=hF';refine zP.call [.pointer (some ⟨b,0,none⟩)] rfl func30 rfl rfl rfl ?_;refine(zbt mk').mono ?_;rintro e w'' ⟨vl3,L3,q,rfl,ql,mk3,gr3,ll3⟩;exact⟨_,rfl,(HI _).2 (HIM _ _ _ _ mk3),⟨q,rfl,ql⟩,vl3,L3,mk3,ll'.trans ll3,kp'.trans (mk'.keeps gr3)⟩
    obtain⟨q6,rfl,ql6⟩:=hv;have HQL:Hid (q6.length=8):=ql6;clear ql6;simp only[Act.put,sB,sS,sZ];iterate 1 (refine zi rfl rfl rfl (fun K hK=>?_);go_big_quiet_op;refine hK _ ?_;clear hK)
    refine jd fun W6 hI6 hF6=>?_
    obtain⟨vl6,L6,mk6,ll6,kp6⟩:=hF6;have M6:Hid (Mk w0 hi W6 b vl6 L6 V { m with sl:=m.sl.set k 1 } vt T):=mk6;have LL6:Hid (ZX L L6):=ll6;have K6:Hid (zo hi w W6):=kp6;clear mk6 ll6 kp6 hI6 hI0 hF0 ht hne;have R6:Hid (zu w0.heap.size W6 (.slice (some ⟨gb,0,none⟩) sn cb) m.sb):=show zu _ _ _ _ by rw[<-HBE.out];exact M6.rows.sb
    refine Ql rfl (.tmp 158) (.tmp 157) rfl w0.heap.size _ m.sb R6 gb k rfl (by rw[HSBL.out];exact hks) q6 HQL ⟨gb,k*8,none⟩ rfl rfl rfl ?_
    intro W7 ow7 gr7 sz7;rw[<-HBE.out]at ow7;have hM7:=M6.setSb (by rw[HBE.out];rfl) gr7 sz7 ow7
    have M7:Hid (Mk w0 hi W7 b vl6 L6 V { m with sl:=m.sl.set k 1,sb:=m.sb.set k q6 } vt T):=hM7.1;have K7:Hid (zo hi w W7):=K6.trans hM7.2;clear hM7 ow7 gr7 sz7;obtain⟨gt,ct,hte⟩:=M7.rows.tt.formS (by rw[HTL.out];omega)
    rw[HTL.out]at hte;have HTE:Hid (vt.x= .slice (some ⟨gt,0,none⟩) tn ct):=hte;have R7:Hid (zb QC w0.heap.size W7 (.slice (some ⟨gt,0,none⟩) tn ct) T):=show zb _ _ _ _ _ by rw[<-HTE.out];exact M7.rows.tt
    have x12:=M7.box.box.c 12 rfl;(first|rw[HTE.out]at x12|rw[show Value.slice _ _ _=_ from HTE.out]at x12);have hptz:(p:Int)< (tn:Int):=by omega
    have hnz:(n:Int)<64:=by omega
    clear hte
    go_wp2_with (refine zB (E:=QC) rfl (.tmp 168) (.tmp 166) 67 rfl w0.heap.size _ T R7 gt p (n*3) rfl f (qC f n ⟨2,(k:Int),false⟩) HT (env ⟨2,(k:Int),false⟩) (by kernel_rfl) (jt f hn _) (by show n*3+3<=192;omega) (enE.one _) ⟨gt,p*192+n*3,none⟩ rfl rfl (.agg (env ⟨2,(k:Int),false⟩).toArray) rfl rfl ?_)
    intro W9 ow9 gr9 sz9;rw[<-HTE.out]at ow9;have hM9:=M7.setT (by rw[HTE.out];rfl) gr9 sz9 ow9
    have M9:Hid (Mk w0 hi W9 b vl6 L6 V { m with sl:=m.sl.set k 1,sb:=m.sb.set k q6 } vt (T.set p (qC f n ⟨2,(k:Int),false⟩))):=hM9.1;have K9:Hid (zo hi w W9):=K7.trans hM9.2;have HBF:Hid (ja { m with sl:=m.sl.set k 1,sb:=m.sb.set k q6 } (T.set p (qC f n ⟨2,(k:Int),false⟩))):=HB.swap HZ0 HS HT hn H0 HIS HSE.1;clear hM9 ow9 gr9 sz9 x12;have HE:Hid (Ent w0 hi b w L m vt T p n f W9):=show Ent _ _ _ _ _ _ _ _ _ _ _ _ from⟨vl6,L6,_,_,_,M9,LL6,K9,HBF,⟨rfl,rfl,rfl,rfl⟩,.inr ⟨_,rfl⟩,fun h=>absurd h HLN⟩
    go_wp2
    (first | go_end0 | ((try simp only[Exit.inBlock,Exit.then]);refine bodyPost_ret (results_none rfl _ _ _) rfl ?_))
    first | exact HE.out | exact⟨⟨_,rfl⟩,HE⟩
   have hze:(zv == 0)=false:=by simp[hz]
   clear hz;have HE:Hid (Ent w0 hi b w L m vt T p n f W2):=dD<|Ent.same p n f HB ⟨vl2,L2,M2,LL2,K2⟩
   go_wp2
   (first | go_end0 | ((try simp only[Exit.inBlock,Exit.then]);refine bodyPost_ret (results_none rfl _ _ _) rfl ?_))
   first | exact HE.out | exact⟨⟨_,rfl⟩,HE⟩
  | false=>
   go_upto_region 2 with fail;clear x3;have hpg2:=zbt M1.out;go_wp2_with fail;refine hpg2.mono ?_;clear hpg2;rintro e W5 ⟨vl5,L5,q5,rfl,ql5,mk5,gr5,ll5⟩;obtain⟨p0,p1,p2,p3,p4,p5,p6,p7,rfl⟩:=zdP q5 ql5;simp only[pgc,mP,List.map_nil];have M5:Hid (Mk w0 hi W5 b vl5 L5 V m vt T):=mk5;have K5:=dD (K1.trans (M1.keeps gr5));have X5:Hid (zD W5 px 96 [.bool true,.bool xrd,.bool xwr,.bool false,I6 xfi,I6 xpg]):=(M1.keeps gr5).1 _ _ _ X1 QN;have LL5:=dD (LL1.trans ll5);clear ql5 mk5 gr5 ll5;have hpk2:=qB 2 M5.out;go_wp2_with fail;refine hpk2.mono ?_;clear hpk2;rintro e W6 ⟨vl6,L6,z,rfl,mk6,gr6,_,_,_,_,ll6⟩;have M6:Hid (Mk w0 hi W6 b vl6 L6 V m vt T):=mk6;have K6:=dD (K5.trans (M5.keeps gr6));have X6:Hid (zD W6 px 96 [.bool true,.bool xrd,.bool xwr,.bool false,I6 xfi,I6 xpg]):=(M5.keeps gr6).1 _ _ _ X5 QN;have LL6:=dD (LL5.trans ll6);clear mk6 gr6 ll6;have hfm:=zew ⟨⟨p0,p1,p2,p3,p4,p5,p6,p7⟩,1,z == 1,false,-1,0⟩ M6.out;go_wp2_with fail;refine hfm.mono ?_;clear hfm;rintro e W7 (⟨rfl,hE⟩|⟨k,q,rfl,hq,hr,vl7,L7,mk7,ll7,kp7⟩)
   ·have HEE:Hid (MkE w0 hi b w L V m vt T W7):=hE.trans LL6 K6.out;clear hE;have HE:Hid (Ent w0 hi b w L m vt T p n f W7):=show Ent _ _ _ _ _ _ _ _ _ _ _ _ from Ent.same p n f HB HEE.out
    go_wp2
    (first | go_end0 | ((try simp only[Exit.inBlock,Exit.then]);refine bodyPost_ret (results_none rfl _ _ _) rfl ?_))
    first | exact HE.out | exact⟨⟨_,rfl⟩,HE⟩
   have HQ:Hid (m.fs[k]? =some q):=hq;have HR0:Hid (q.r=0):=hr;have M7:Hid (Mk w0 hi W7 b vl7 L7 V { m with fs:=m.fs.set k ⟨⟨p0,p1,p2,p3,p4,p5,p6,p7⟩,1,z == 1,false,-1,0⟩ } vt T):=mk7;have K7:=dD (K6.trans kp7);have X7:Hid (zD W7 px 96 [.bool true,.bool xrd,.bool xwr,.bool false,I6 xfi,I6 xpg]):=kp7.1 _ _ _ X6 QN;have LL7:=dD (LL6.trans ll7);clear hq hr mk7 ll7 kp7;have hk0:(0:Int)<=(k:Int):=by omega
   have hkd:decide ((0:Int)<=(k:Int))=true:=by simp
   have HBF:Hid (∀wf:Bool,(wf=true->xwr=true)->ja { m with fs:=m.fs.set k ⟨⟨p0,p1,p2,p3,p4,p5,p6,p7⟩,1,z == 1,false,-1,0⟩ } (T.set p (qC f n ⟨1,(k:Int),wf⟩))):=dD<|fun wf hwf=>HB.mine HQ HR0 HS HT hn H0 HIS HSE.1 (fun e=>by rw[HWR.out];exact hwf e)
   go_upto_region 4 with fail
   cases xwr with
   | false=>
    obtain⟨gt,ct,hte⟩:=M7.rows.tt.formS (by rw[HTL.out];omega)
    rw[HTL.out]at hte;have HTE:Hid (vt.x= .slice (some ⟨gt,0,none⟩) tn ct):=hte;clear hte;obtain⟨I,HI⟩:∃I:World->Prop,Hid (∀u,I u↔u.cell? ⟨b,12,none⟩=some (.slice (some ⟨gt,0,none⟩) tn ct)/\zD u px 96 [.bool true,.bool xrd,.bool false,.bool false,I6 xfi,I6 xpg]):=⟨fun u=>u.cell? ⟨b,12,none⟩=some (.slice (some ⟨gt,0,none⟩) tn ct)/\zD u px 96 [.bool true,.bool xrd,.bool false,.bool false,I6 xfi,I6 xpg],fun _=>Iff.rfl⟩
    have HIM:Hid (∀u vl' L' V' m',Mk w0 hi u b vl' L' V' m' vt T->u.cell? ⟨b,12,none⟩=some (.slice (some ⟨gt,0,none⟩) tn ct)):=dD<|fun u vl' L' V' m' hm=>by
     have:=hm.box.box.c 12 rfl;(first|rw[HTE.out]at this|rw[show Value.slice _ _ _=_ from HTE.out]at this);exact this
    have hI0:I W7.drew:=(HI _).2 ⟨HIM _ _ _ _ _ (M7.grew (gW _)),X7.grew (gW _)⟩
    have hF0:MkE w0 hi b w L V { m with fs:=m.fs.set k ⟨⟨p0,p1,p2,p3,p4,p5,p6,p7⟩,1,z == 1,false,-1,0⟩ } vt T W7.drew:=⟨vl7,L7,M7.grew (gW _),LL7,K7.trans (zo.grew (gW _))⟩
    have ht:∀y:zk I,y.world.cell? ⟨b,12,none⟩=some (.slice (some ⟨gt,0,none⟩) tn ct):=fun y=>((HI _).1 y.holds).1
    have hx2:∀y:zk I,y.world.cell? ⟨px,2,none⟩=some (.bool false):=fun y=>((HI _).1 y.holds).2.box.c 2 rfl
    have hx3:∀y:zk I,y.world.cell? ⟨px,3,none⟩=some (.bool false):=fun y=>((HI _).1 y.holds).2.box.c 3 rfl
    have hne:Nonempty (zk I):=⟨⟨_,hI0⟩⟩;have hptz:(p:Int)< (tn:Int):=by omega
    have hnz:(n:Int)<64:=by omega
    refine zX (I:=I) 17 [(11,fun v=>∃x:Int,v=I6 x)] (fun u=>MkE w0 hi b w L V { m with fs:=m.fs.set k ⟨⟨p0,p1,p2,p3,p4,p5,p6,p7⟩,1,z == 1,false,-1,0⟩ } vt T u) hI0 hF0 qu (by kernel_rfl) rfl rfl (by decide) ?hS (by kernel_rfl) ?_
    case hS=>
     intro x hx;simp only[mC,nM,or_false]at hx;subst hx;exact⟨_,0,rfl⟩
    simp only[List.take,List.drop];iterate 1 (refine zi rfl rfl rfl (fun K hK=>?_);go_big_quiet_op;refine hK _ ?_;clear hK)
    refine zY (.tmp 24) ⟨b,0,none⟩ rfl rfl rfl rfl ?_;simp only[Act.put,sB,sS,sZ];iterate 8 (refine zi rfl rfl rfl (fun K hK=>?_);go_big_quiet_op;refine hK _ ?_;clear hK)
    refine jv ?_ ?_
    ·kernel_rfl
    simp only[Act.put,sB,sS,sZ];refine jv ?_ ?_
    ·kernel_rfl
    simp only[Act.put,sB,sS,sZ];refine jv ?_ ?_
    ·kernel_rfl
    simp only[Act.put,sB,sS,sZ];iterate 4 (refine zi rfl rfl rfl (fun K hK=>?_);go_big_quiet_op;refine hK _ ?_;clear hK)
    refine jd fun W8 hI8 hF8=>?_
    obtain⟨vl8,L8,mk8,ll8,kp8⟩:=hF8;have M8:Hid (Mk w0 hi W8 b vl8 L8 V { m with fs:=m.fs.set k ⟨⟨p0,p1,p2,p3,p4,p5,p6,p7⟩,1,z == 1,false,-1,0⟩ } vt T):=mk8;have LL8:Hid (ZX L L8):=ll8;have K8:Hid (zo hi w W8):=kp8;clear mk8 ll8 kp8 hI8 hI0 hF0 ht hx2 hx3 hne;have R8:Hid (zb QC w0.heap.size W8 (.slice (some ⟨gt,0,none⟩) tn ct) T):=show zb _ _ _ _ _ by rw[<-HTE.out];exact M8.rows.tt
    refine zB (E:=QC) rfl (.tmp 40) (.tmp 38) 67 rfl w0.heap.size _ T R8 gt p (n*3) rfl f (qC f n ⟨1,(k:Int),false⟩) HT (env ⟨1,(k:Int),false⟩) (by kernel_rfl) (jt f hn _) (by show n*3+3<=192;omega) (enE.one _) ⟨gt,p*192+n*3,none⟩ rfl rfl (.agg (env ⟨1,(k:Int),false⟩).toArray) rfl rfl ?_
    intro W9 ow9 gr9 sz9;rw[<-HTE.out]at ow9;have hM9:=M8.setT (by rw[HTE.out];rfl) gr9 sz9 ow9
    have M9:Hid (Mk w0 hi W9 b vl8 L8 V { m with fs:=m.fs.set k ⟨⟨p0,p1,p2,p3,p4,p5,p6,p7⟩,1,z == 1,false,-1,0⟩ } vt (T.set p (qC f n ⟨1,(k:Int),false⟩))):=hM9.1;have K9:Hid (zo hi w W9):=K8.trans hM9.2;clear hM9 ow9 gr9 sz9;have HE:Hid (Ent w0 hi b w L m vt T p n f W9):=show Ent _ _ _ _ _ _ _ _ _ _ _ _ from⟨vl8,L8,_,_,_,M9,LL8,K9,HBF _ (by intro e;first | rfl | cases e),⟨rfl,rfl,rfl,List.length_set⟩,.inr ⟨_,rfl⟩,fun h=>absurd h HLN⟩
    go_wp2
    (first | go_end0 | ((try simp only[Exit.inBlock,Exit.then]);refine bodyPost_ret (results_none rfl _ _ _) rfl ?_))
    first | exact HE.out | exact⟨⟨_,rfl⟩,HE⟩
   | true=>
    obtain⟨gt,ct,hte⟩:=M7.rows.tt.formS (by rw[HTL.out];omega)
    rw[HTL.out]at hte;have HTE:Hid (vt.x= .slice (some ⟨gt,0,none⟩) tn ct):=hte;clear hte;obtain⟨I,HI⟩:∃I:World->Prop,Hid (∀u,I u↔u.cell? ⟨b,12,none⟩=some (.slice (some ⟨gt,0,none⟩) tn ct)/\zD u px 96 [.bool true,.bool xrd,.bool true,.bool false,I6 xfi,I6 xpg]):=⟨fun u=>u.cell? ⟨b,12,none⟩=some (.slice (some ⟨gt,0,none⟩) tn ct)/\zD u px 96 [.bool true,.bool xrd,.bool true,.bool false,I6 xfi,I6 xpg],fun _=>Iff.rfl⟩
    have HIM:Hid (∀u vl' L' V' m',Mk w0 hi u b vl' L' V' m' vt T->u.cell? ⟨b,12,none⟩=some (.slice (some ⟨gt,0,none⟩) tn ct)):=dD<|fun u vl' L' V' m' hm=>by
     have:=hm.box.box.c 12 rfl;(first|rw[HTE.out]at this|rw[show Value.slice _ _ _=_ from HTE.out]at this);exact this
    have hI0:I W7.drew:=(HI _).2 ⟨HIM _ _ _ _ _ (M7.grew (gW _)),X7.grew (gW _)⟩
    have hF0:MkE w0 hi b w L V { m with fs:=m.fs.set k ⟨⟨p0,p1,p2,p3,p4,p5,p6,p7⟩,1,z == 1,false,-1,0⟩ } vt T W7.drew:=⟨vl7,L7,M7.grew (gW _),LL7,K7.trans (zo.grew (gW _))⟩
    have ht:∀y:zk I,y.world.cell? ⟨b,12,none⟩=some (.slice (some ⟨gt,0,none⟩) tn ct):=fun y=>((HI _).1 y.holds).1
    have hx2:∀y:zk I,y.world.cell? ⟨px,2,none⟩=some (.bool true):=fun y=>((HI _).1 y.holds).2.box.c 2 rfl
    have hx3:∀y:zk I,y.world.cell? ⟨px,3,none⟩=some (.bool false):=fun y=>((HI _).1 y.holds).2.box.c 3 rfl
    have hne:Nonempty (zk I):=⟨⟨_,hI0⟩⟩;have hptz:(p:Int)< (tn:Int):=by omega
    have hnz:(n:Int)<64:=by omega
    refine zX (I:=I) 17 [(11,fun v=>∃x:Int,v=I6 x)] (fun u=>MkE w0 hi b w L V { m with fs:=m.fs.set k ⟨⟨p0,p1,p2,p3,p4,p5,p6,p7⟩,1,z == 1,false,-1,0⟩ } vt T u) hI0 hF0 qu (by kernel_rfl) rfl rfl (by decide) ?hS (by kernel_rfl) ?_
    case hS=>
     intro x hx;simp only[mC,nM,or_false]at hx;subst hx;exact⟨_,0,rfl⟩
    simp only[List.take,List.drop];iterate 1 (refine zi rfl rfl rfl (fun K hK=>?_);go_big_quiet_op;refine hK _ ?_;clear hK)
    refine zY (.tmp 24) ⟨b,0,none⟩ rfl rfl rfl rfl ?_;simp only[Act.put,sB,sS,sZ];iterate 8 (refine zi rfl rfl rfl (fun K hK=>?_);go_big_quiet_op;refine hK _ ?_;clear hK)
    iterate 1 (refine zi rfl rfl rfl (fun K hK=>?_);go_big_quiet_op;refine hK _ ?_;clear hK)
    refine qI rfl rfl (fun _ u=>MkE w0 hi b w L V { m with fs:=m.fs.set k ⟨⟨p0,p1,p2,p3,p4,p5,p6,p7⟩,1,z == 1,false,-1,0⟩ } vt T u) (fun w' hI' hF'=>?_) (fun v1 hv=>?_)
    ·obtain⟨vl',L',mk',ll',kp'⟩:=hF';refine zP.call [.pointer (some ⟨b,0,none⟩),I6 2] rfl func27 rfl rfl rfl ?_;refine(qB 2 mk').mono ?_;rintro e w'' ⟨vl2,L2,x,rfl,mk2,gr2,_,_,_,_,ll2⟩;exact⟨_,rfl,(HI _).2 ⟨HIM _ _ _ _ _ mk2,(mk'.keeps gr2).1 _ _ _ ((HI _).1 hI').2 QN⟩,⟨x,rfl⟩,vl2,L2,mk2,ll'.trans ll2,kp'.trans (mk'.keeps gr2)⟩
    obtain⟨xq,rfl⟩:=hv;simp only[Act.put,sB,sS,sZ];iterate 5 (refine zi rfl rfl rfl (fun K hK=>?_);go_big_quiet_op;refine hK _ ?_;clear hK)
    refine jd fun W8 hI8 hF8=>?_
    obtain⟨vl8,L8,mk8,ll8,kp8⟩:=hF8;have M8:Hid (Mk w0 hi W8 b vl8 L8 V { m with fs:=m.fs.set k ⟨⟨p0,p1,p2,p3,p4,p5,p6,p7⟩,1,z == 1,false,-1,0⟩ } vt T):=mk8;have LL8:Hid (ZX L L8):=ll8;have K8:Hid (zo hi w W8):=kp8;clear mk8 ll8 kp8 hI8 hI0 hF0 ht hx2 hx3 hne;have R8:Hid (zb QC w0.heap.size W8 (.slice (some ⟨gt,0,none⟩) tn ct) T):=show zb _ _ _ _ _ by rw[<-HTE.out];exact M8.rows.tt
    refine zB (E:=QC) rfl (.tmp 40) (.tmp 38) 67 rfl w0.heap.size _ T R8 gt p (n*3) rfl f (qC f n ⟨1,(k:Int),(xq == 1)⟩) HT (env ⟨1,(k:Int),(xq == 1)⟩) (by kernel_rfl) (jt f hn _) (by show n*3+3<=192;omega) (enE.one _) ⟨gt,p*192+n*3,none⟩ rfl rfl (.agg (env ⟨1,(k:Int),(xq == 1)⟩).toArray) rfl rfl ?_
    intro W9 ow9 gr9 sz9;rw[<-HTE.out]at ow9;have hM9:=M8.setT (by rw[HTE.out];rfl) gr9 sz9 ow9
    have M9:Hid (Mk w0 hi W9 b vl8 L8 V { m with fs:=m.fs.set k ⟨⟨p0,p1,p2,p3,p4,p5,p6,p7⟩,1,z == 1,false,-1,0⟩ } vt (T.set p (qC f n ⟨1,(k:Int),(xq == 1)⟩))):=hM9.1;have K9:Hid (zo hi w W9):=K8.trans hM9.2;clear hM9 ow9 gr9 sz9;have HE:Hid (Ent w0 hi b w L m vt T p n f W9):=show Ent _ _ _ _ _ _ _ _ _ _ _ _ from⟨vl8,L8,_,_,_,M9,LL8,K9,HBF _ (by intro e;first | rfl | cases e),⟨rfl,rfl,rfl,List.length_set⟩,.inr ⟨_,rfl⟩,fun h=>absurd h HLN⟩
    go_wp2
    (first | go_end0 | ((try simp only[Exit.inBlock,Exit.then]);refine bodyPost_ret (results_none rfl _ _ _) rfl ?_))
    first | exact HE.out | exact⟨⟨_,rfl⟩,HE⟩
end
section
def zeZ (m:Ma) (x:On) (e:En):List Int × Bool × Int:=
 if x.is=false then(zm,false,5)
 else if e.kind=1 then(pgL (qe m e.n).p,decide ((qe m e.n).f<0),0)
 else if e.kind=2 then(ju m.sb m.sq e.n,true,0)
 else if x.file<0 then(zm,false,0)
 else if bkN m x.file<=x.page then(zm,false,9)
 else(qZ m x.file x.page,false,0)
theorem zf3 {p n:Nat} {s:Sp} (hs:m.sp[p]? =some s) (hn:n<64):jB m (p:Int) (n:Int)=zeZ m (zN s.ars n) (zO s n):=by
 have hp:=(gS.1 hs).1;unfold jB;rw[if_neg (by omega)]
 simp only[tN,gD,hs,Option.getD_some];rfl
theorem zf4 {p n:Int} (h:p<0\/(m.sp.length:Int)<=p\/n<0\/63<n):jB m p n=(zm,false,5):=by
 unfold jB;rw[if_pos h]
def yn (b:Bool):Int:=if b=true then 121 else 110
def zls (g:Nat->Nat):Nat->Nat
 | 0=>0
 | n+1=>zls g n+g n
def j3 (l:List Ar):Nat->Nat
 | 0=>0
 | n+1=>j3 l n+(zN l n).is.toNat
theorem zgy {a:Ar} (h:(zal l a).2=0):j3 (zal l a).1 64<=j3 l 64+(a.tz - a.fr).toNat:=by
 obtain⟨h1,h2,h3,h4,h5⟩:=zfz h;have ha:=ZC.1 h2;have hg:=zaz (jw.1 h1).2 ha;unfold jl at ha;have key:∀n:Nat,n<=64->j3 (zal l a).1 n<=j3 l n+(min (n:Int) a.tz - min (n:Int) a.fr).toNat:=by
  intro n
  induction n with
  | zero=>intro _;simp[j3]
  | succ n ih=>
   intro hn;have ih':=ih (by omega)
   unfold j3;have e:(zN (zal l a).1 n).is=(ze0 l a n).is:=by rw[h5,zdt hg (by omega)]
   rw[e];unfold ze0
   by_cases hin:ZZ a n=true
   ·have:=qd.1 hin;rw[if_pos hin,zgg];simp only[Bool.toNat_true];omega
   have hin':¬(a.fr<=(n:Int)/\(n:Int)<a.tz):=fun h=>hin (qd.2 h)
   rw[if_neg hin];omega
 have:=key 64 (nR _);omega
end
section
open Go.RowKit
section
variable{base hi S0:Nat} {w w':World} {V:MaV} {m:Ma} {vt:Sli} {T:List (Nat->En)}
def SpB (base S0:Nat) (w:World) (V:MaV) (m:Ma):Prop:=∃xs:List SpV,zb jQ base w (V.sp.x) xs/\xs.length=m.sp.length/\∀(i:Nat) x s,xs[i]? =some x->m.sp[i]? =some s->(x.live=s.live/\zb arE base w x.ar.v s.ars/\x.tab=zav/\s.tb=qY)/\∀g,x.ar.v.ownBlock=some g->g<S0
theorem MkR.spB (h:MkR base hi w V m vt T):SpB base w.heap.size w V m:=by
 obtain⟨xs,h1,h2,h3⟩:=h.sp;exact⟨xs,h1,h2,fun i x s hx hs=>⟨h3 i x s hx hs,fun g hg=>((h3 i x s hx hs).2.1.lt g hg).2⟩⟩
theorem SpB.grew (h:SpB base S0 w V m) (k:zc w w'):SpB base S0 w' V m:=by
 obtain⟨xs,h1,h2,h3⟩:=h;refine⟨xs,h1.grew k,h2,fun i x s hx hs=>?_⟩
 obtain⟨⟨a1,a2,a3⟩,a4⟩:=h3 i x s hx hs;exact⟨⟨a1,a2.grew k,a3⟩,a4⟩
theorem SpB.kind (h:SpB base S0 w V m) {g:Nat} {cs:Array Value} (hg:w.grownBy w' (some g)) (ho:w.heap[g]? =some (.cells cs t (0,0))) (h1:t≠65) (h2:t≠69\/S0<=g):SpB base S0 w' V m:=by
 obtain⟨xs,k1,k2,k3⟩:=h;refine⟨xs,k1.kind hg ho h1,k2,fun i x s hx hs=>?_⟩
 obtain⟨⟨a1,a2,a3⟩,a4⟩:=k3 i x s hx hs;refine⟨⟨a1,?_,a3⟩,a4⟩
 rcases h2 with h2|h2
 ·exact a2.kind hg ho h2
 exact a2.grown hg fun k hk e=>by cases e;have:=a4 _ hk;omega
theorem MkR.area (h:MkR base hi w V m vt T) (hs:SpB base S0 w V m) {g:Nat} {cs:Array Value} (hg:w.grownBy w' (some g)) (ho:w.heap[g]? =some (.cells cs 69 (0,0))) (hb:S0<=g):MkR base hi w' V m vt T:=by
 obtain⟨k1,k2,k3,k4,k5,k6,k7,k8,k9⟩:=h.kept hg ho;obtain⟨xs,q1,q2,q3⟩:=hs.kind hg ho (by decide) (.inr hb)
 exact⟨nT h.hw hg.size,h.bh,k1 (by decide),k2 (.inl (by decide)),h.slh,k3 (.inl (by decide)),h.sbh,h.sq,k4 (.inl (by decide)),h.dbh,k5 (by decide),k6 (by decide) (.inl (by decide)),k7 (by decide),⟨xs,q1,q2,fun i x s hx hs=>(q3 i x s hx hs).1⟩,k9 (by decide),h.ap⟩
theorem qx (h:w.grownBy w' none):zc w w':=qo (zc.refl _) h (fun g e=>by cases e)
theorem MkR.addSp {ys:List SpV} (h:MkR base hi w V m vt T) (s1:zb jQ base w (V.sp.x) ys) (s2:ys.length=m.sp.length) (s3:∀(i:Nat) x s,ys[i]? =some x->m.sp[i]? =some s->x.live=s.live/\zb arE base w x.ar.v s.ars/\x.tab=zav/\s.tb=qY)
  (hg:w.grownBy w' (V.sp.x).ownBlock) (s xa:Sli) {l:List Ar} (hl:zb arE base w xa.v l) (ho:zb jQ base w' (s.x) (ys++ [⟨true,xa,zj,zj,zj,zj,zj,zj,zj,zj⟩])):MkR base hi w' { V with sp:=s } { m with sp:=m.sp++ [⟨true,l,qY⟩] } vt T:=by
 have fin:(∀{x:SpV} {q:Sp},zb arE base w x.ar.v q.ars->zb arE base w' x.ar.v q.ars)->zb arE base w' xa.v l->∃xs:List SpV,zb jQ base w' (s.x) xs/\xs.length=(m.sp++ [(⟨true,l,qY⟩:Sp)]).length/\∀(i:Nat) x q,xs[i]? =some x->(m.sp++ [(⟨true,l,qY⟩:Sp)])[i]? =some q->x.live=q.live/\zb arE base w' x.ar.v q.ars/\x.tab=zav/\q.tb=qY:=fun k1 k2=>by
  refine⟨_,ho,by simp[s2],fun i x q hx hq=>?_⟩
  rcases Nat.lt_or_ge i ys.length with hi|hi
  ·rw[List.getElem?_append_left hi]at hx;rw[List.getElem?_append_left (by omega)]at hq
   obtain⟨a1,a2,a3,a4⟩:=s3 i x q hx hq;exact⟨a1,k1 a2,a3,a4⟩
  rw[aR hi]at hx;rw[aR (by omega),<-s2]at hq
  have hi0:i - ys.length=0:=by
   have:=(gS.1 hx).1
   simp at this
   omega
  rw[hi0]at hx hq;cases hx;cases hq;exact⟨rfl,k2,rfl,rfl⟩
 cases hob:(V.sp.x).ownBlock with
 | none=>
  rw[hob]at hg;have k:=qx hg;have h':=h.grew k;exact⟨h'.hw,h'.bh,h'.fs,h'.sl,h'.slh,h'.sb,h'.sbh,h'.sq,h'.db,h'.dbh,h'.dq,h'.fl,h'.ca,fin (fun h=>h.grew k) (hl.grew k),h'.tt,h'.ap⟩
 | some g=>
  rw[hob]at hg;obtain⟨cs,hc⟩:=s1.obj hob;obtain⟨k1,k2,k3,k4,k5,k6,k7,k8,k9⟩:=h.kept hg hc;exact⟨nT h.hw hg.size,h.bh,k1 (by decide),k2 (.inl (by decide)),h.slh,k3 (.inl (by decide)),h.sbh,h.sq,k4 (.inl (by decide)),h.dbh,k5 (by decide),k6 (by decide) (.inl (by decide)),k7 (by decide),fin (fun h=>h.kind hg hc (by decide)) (hl.kind hg hc (by decide)),k9 (by decide),h.ap⟩
theorem MkR.addT (h:MkR base hi w V m vt T) (hg:w.grownBy w' (vt.x).ownBlock) (s:Sli) {f:Nat->En} (ho:zb QC base w' (s.x) (T++ [f])):MkR base hi w' V m s (T++ [f]):=by
 cases hob:(vt.x).ownBlock with
 | none=>
  rw[hob]at hg;have h':=h.grew (qx hg);exact⟨h'.hw,h'.bh,h'.fs,h'.sl,h'.slh,h'.sb,h'.sbh,h'.sq,h'.db,h'.dbh,h'.dq,h'.fl,h'.ca,h'.sp,ho,h'.ap⟩
 | some g=>
  rw[hob]at hg;obtain⟨cs,hc⟩:=h.tt.obj hob;obtain⟨k1,k2,k3,k4,k5,k6,k7,k8,k9⟩:=h.kept hg hc;exact⟨nT h.hw hg.size,h.bh,k1 (by decide),k2 (.inl (by decide)),h.slh,k3 (.inl (by decide)),h.sbh,h.sq,k4 (.inl (by decide)),h.dbh,k5 (by decide),k6 (by decide) (.inl (by decide)),k7 (by decide),k8 (by decide) (by decide),ho,h.ap⟩
theorem zo.row {α:Type} {E:Elt α} {v:Value} {l:List α} (h:zb E base w v l) (hg:w.grownBy w' v.ownBlock) (hn:∀p,¬Loc hi p E.ty):zo hi w w':=by
 cases hob:v.ownBlock with
 | none=>
  rw[hob]at hg;exact zo.grew (qx hg)
 | some g=>
  rw[hob]at hg;obtain⟨cs,hc⟩:=h.obj hob;exact zo.kind hg hc (fun p hl=>absurd hl (hn p))
theorem zD.row {α:Type} {E:Elt α} {v:Value} {l:List α} {cs:List Value} (h:zb E base w v l) (hg:w.grownBy w' v.ownBlock) (hb:zD w b t cs) (ht:t≠E.ty):zD w' b t cs:=hb.beside hg fun g e=>h.ne hb ht g e
theorem zc.row {α:Type} {E:Elt α} {v:Value} {l:List α} (h:zb E w0.heap.size w v l) (hg:w.grownBy w' v.ownBlock) (h0:zc w0 w):zc w0 w':=qo h0 hg fun g e=>(h.lt g e).1
end
section
variable{w0 w w':World} {hi b S0:Nat} {vl:Sli} {L:List Int} {V:MaV} {m:Ma} {vt:Sli} {T:List (Nat->En)}
theorem Mk.area (h:Mk w0 hi w b vl L V m vt T) (hs:SpB w0.heap.size S0 w V m) {g:Nat} {cs:List Value} (hg:w.grownBy w' (some g)) (ho:zD w g 69 cs) (hb:S0<=g) (hb2:w0.heap.size<=g):Mk w0 hi w' b vl L V m vt T/\SpB w0.heap.size S0 w' V m:=by
 refine⟨⟨ze h.gr hg hb2,h.hb,h.box.beside hg (fun k e=>?_),h.lr,h.lc,h.lb,h.rows.area hs hg ho hb⟩,hs.kind hg ho (by decide) (.inr hb)⟩
 cases e;intro e;subst e;have h1:w.heap[b]? =_:=h.box;rw[show w.heap[b]? =_ from ho]at h1
 cases h1
theorem SpB.pick (hs:SpB w0.heap.size S0 w V m) (h:Mk w0 hi w b vl L V m vt T) (hg:w.grownBy w' (some b)):SpB w0.heap.size S0 w' V m:=hs.kind hg h.box (by decide) (.inl (by decide))
theorem zb.pick {v:Value} (hs:zb arE w0.heap.size w v l) (h:Mk w0 hi w b vl L V m vt T) (hg:w.grownBy w' (some b)):zb arE w0.heap.size w' v l:=hs.kind hg h.box (by decide)
end
theorem QO {p:Nat}:Loc hi p 69:=⟨by decide,by decide,by decide,by decide,by decide,by decide,by decide,by decide,fun h=>absurd h (by decide)⟩
theorem qO (w:World) (g i:Nat) (u:Value):w.grownBy (w.setCell ⟨g,i,none⟩ u) (some g):=⟨rfl,rfl,rfl,by simp[World.setCell],fun k _ hk=>Below.heap_setCell _ _ _ _ (fun e=>hk (by rw[e]))⟩
def Spc (w0:World) (hi b:Nat) (w:World) (L:List Int) (m:Ma) (T:List (Nat->En)) (w':World):Prop:=∃vl' L' V' m' vt' T' l,Mk w0 hi w' b vl' L' V' m' vt' T'/\ZX L L'/\zo hi w w'/\ja m' T'/\(m'.sp=m.sp++ [⟨true,l,qY⟩]/\m'.fl=m.fl/\m'.hand=m.hand/\m'.fs.length=m.fs.length)/\(qW m.fl.length l/\j3 l 64<=12)/\(L=[]->m'={ m with sp:=m.sp++ [⟨true,[],qY⟩] }/\T'=T++ [fun _=>en0])
theorem zar (f:Nat->En) (n:Nat):qC f n (f n)=f:=by
 funext j
 unfold qC
 split
 ·rename_i e
  rw[e]
 rfl
theorem zbs {α:Type} {l:List α} {x:α} (h:l[i]? =some x):l.set i x=l:=by
 apply List.ext_getElem?
 intro j
 by_cases e:j=i
 ·subst e;rw[sF (gS.1 h).1,h]
 rw[sN (fun h=>e h.symm)]
section
variable{m:Ma} {T:List (Nat->En)} {s0 s1:Sp} {fA fB:Nat->En} {n:Nat}
theorem ja.entry0 (h:ja m T) (hs0:m.sp[0]? =some s0) (hA:T[0]? =some fA) (hn:n<64):fA n=en0\/(∃(k:Nat) (fr:Fr),(fA n).kind=1/\(fA n).n=(k:Int)/\m.fs[k]? =some fr)\/(∃(k:Nat) (z:Int),(fA n).kind=2/\(fA n).n=(k:Int)/\m.sl[k]? =some z/\0<=z/\z<=1000):=by
 rcases h.ent 0 s0 fA hs0 hA n hn with e|e
 ·exact .inl e
 by_cases hk:(fA n).kind=2
 ·refine .inr (.inr ?_);obtain⟨h1,h2,h3⟩:=e;obtain⟨a1,a2,a3⟩:=JP h1;unfold Q7 at h3
  by_cases h0:(zN s0.ars n).is=false
  ·rw[if_pos h0]at h3;cases h3
  rw[if_neg h0,if_pos hk]at h3
  split at h3
  ·cases h3
  rename_i hno
  have hlt:(fA n).n.toNat<m.sl.length:=by
   have:¬(m.sl.length:Int)<=(fA n).n:=fun e=>hno (.inl e)
   omega
  have hz:=h.cs _ _ (gE hlt);have hh:=zaX T 2 ((fA n).n.toNat:Int);have h5:=h.tl;have h6:=h.spl;exact⟨(fA n).n.toNat,m.sl[(fA n).n.toNat],hk,by omega,gE hlt,by omega,by omega⟩
 obtain⟨p1,p2,p3,_⟩:=qS e hk;have hlt:(fA n).n.toNat<m.fs.length:=by omega
 exact .inr (.inl ⟨(fA n).n.toNat,m.fs[(fA n).n.toNat],p1,by omega,gE hlt⟩)
theorem ja.forkP (h:ja m T) (hs0:m.sp[0]? =some s0) (hs1:m.sp[1]? =some s1) (har:s1.ars=s0.ars) (hA:T[0]? =some fA) (hB:T[1]? =some fB) (hn:n<64) (hBn:fB n=en0) {k:Nat} {fr:Fr} (hk:m.fs[k]? =some fr) (hkind:(fA n).kind=1) (hen:(fA n).n=(k:Int)) {e':En} (he:e'=if(zN s0.ars n).sh=true then fA n else{ fA n with wr:=false }):
  ja { m with fs:=m.fs.set k { fr with r:=fr.r+1 } } ((T.set 0 (qC fA n e')).set 1 (qC fB n e')):=by
 have hne:fA n≠en0:=fun e=>by rw[e]at hkind;cases hkind
 have hok:zbp m (zN s0.ars n) (fA n):=(h.ent 0 s0 fA hs0 hA n hn).resolve_left hne
 by_cases hsh:(zN s0.ars n).sh=true
 ·rw[if_pos hsh]at he;subst he;rw[zar,zbs hA];refine h.share hk hA rfl hB (by decide) hn hBn hs1 (by rw[har];exact hok) hkind hen (fun _ hf=>?_)
  obtain⟨h1,h2,h3⟩:=hok;unfold Q7 at h3
  by_cases h0:(zN s0.ars n).is=false
  ·rw[if_pos h0]at h3;cases h3
  rw[if_neg h0,if_neg (by rw[hkind];decide)]at h3
  split at h3
  ·cases h3
  split at h3
  ·cases h3
  rename_i hno
  have hfr:qe m (fA n).n=fr:=by rw[hen];exact Zb hk
  have:0<=(zN s0.ars n).file/\(qe m (fA n).n).f=(zN s0.ars n).file/\(qe m (fA n).n).x=(zN s0.ars n).page:=Classical.byContradiction fun e=>hno (.inr (.inl ⟨hsh,e⟩))
  rw[hfr]at this;omega
 rw[if_neg hsh]at he;subst he;have g:=h.guard hA hn hne;have hA':(T.set 0 (qC fA n { fA n with wr:=false }))[0]? =some (qC fA n { fA n with wr:=false }):=sF (gS.1 hA).1;have hB':(T.set 0 (qC fA n { fA n with wr:=false }))[1]? =some fB:=by rw[sN (by decide)];exact hB
 have hv:qC fA n { fA n with wr:=false } n={ fA n with wr:=false }:=by unfold qC;rw[if_pos rfl]
 refine g.share hk hA' hv hB' (by decide) hn hBn hs1 ?_ hkind hen (fun e=>by cases e)
 rw[har];have:=g.ent 0 s0 _ hs0 hA' n hn;rw[hv]at this;refine this.resolve_left fun e=>?_
 have:({ fA n with wr:=false }:En).kind=en0.kind:=by rw[e]
 rw[show({ fA n with wr:=false }:En).kind=(fA n).kind from rfl,hkind]at this
 cases this
theorem ja.forkS (h:ja m T) (hs0:m.sp[0]? =some s0) (hs1:m.sp[1]? =some s1) (har:s1.ars=s0.ars) (hA:T[0]? =some fA) (hB:T[1]? =some fB) (hn:n<64) (hBn:fB n=en0) {k:Nat} (hk:m.sl[k]? =some z) (hkind:(fA n).kind=2) (hen:(fA n).n=(k:Int)):
  ja { m with sl:=m.sl.set k (z+1) } ((T.set 0 (qC fA n (fA n))).set 1 (qC fB n (fA n))):=by
 have hne:fA n≠en0:=fun e=>by rw[e]at hkind;cases hkind
 rw[zar,zbs hA];exact h.shareS hk hB hn hBn hs1 (by rw[har];exact(h.ent 0 s0 fA hs0 hA n hn).resolve_left hne) hkind hen
theorem zin (hA:T[0]? =some fA) (hB:T[1]? =some fB) (hAn:fA n=en0) (hBn:fB n=en0):(T.set 0 (qC fA n en0)).set 1 (qC fB n en0)=T:=by
 have h1:qC fA n en0=fA:=by
  have:=zar fA n;rwa [hAn]at this
 have h2:qC fB n en0=fB:=by
  have:=zar fB n;rwa [hBn]at this
 rw[h1,h2,zbs hA,zbs hB]
end
section
variable{α:Type} {E:Elt α}
theorem zcu {a:Act} (p x:Operand) (t:TypeId) (ho:o.op= .store t p x) (base:Nat) (v:Value) (l:List α) (hown:zb E base w v l)
  (g i j:Nat) (hg:v.ownBlock=some g) (e y:α) (hi:l[i]? =some e) (cs:List Value) (hk:(Tryz.prog.info? t).map (·.size)=some cs.length) (hy:E.enc y=splice (E.enc e) j cs) (hj:j+cs.length<=E.k) (h1:∀u∈cs,u.oneCell'=true)
  (ad:Addr) (hp:a.eval p= .pointer (some ad)) (had:ad=⟨g,i*E.k+j,none⟩) (vx:Value) (hx:a.eval x=vx) (hvx:vx.cells=cs.toArray):
  ∃w',(execOp a.eval o).run prog w= .ok .skip w'/\zb E base w' v (l.set i y)/\w.grownBy w' (some g)/\w'.heap.size=w.heap.size:=by
 subst had;have hil:i<l.length:=(gS.1 hi).1;have hfit:i*E.k+j+cs.length<=l.length*E.k:=by
  have:(i+1)*E.k<=l.length*E.k:=Nat.mul_le_mul_right _ hil;rw[Nat.add_mul]at this;omega
 obtain⟨w',hr,h2,h3,h4⟩:=qQ (P:=prog) hown.1 hg (i*E.k+j) cs hfit h1;have hsz:(Go.sizeOf t).run prog w= .ok cs.length w:=by
  cases hq:Tryz.prog.info? t with
  | none=>simp[hq]at hk
  | some i=>simp[hq]at hk;simp[Go.sizeOf,typeInfo,hq,hk]
 have hall:(Instr.storeAt t (.pointer (some ⟨g,i*E.k+j,none⟩)) vx).run prog w= .ok () w':=by
  simp[Instr.storeAt,Instr.sureAddr,storeVar,Sem.run_bind,hsz,Result.andThen,hvx,hr]
 rw[QG j cs hy hj l i hi]at h2;refine⟨w',?_,⟨by rw[List.length_set];exact h2,by rw[List.length_set];exact hown.2⟩,h3,h4⟩
 simp only[execOp,ho,hp,hx,Sem.run_bind,hall,Result.andThen,Sem.run_pure]
theorem ziA {P:Program} {a:Act} {K:Value->World->Prop} (hr:(execOp a.eval o).run P w= .ok .skip w') (h:K undef w'):zP P o a w K:=by
 unfold zP;rw[hr];exact h
end
theorem Qu {p:Nat}:Loc hi p 67:=⟨by decide,by decide,by decide,by decide,by decide,by decide,by decide,by decide,fun h=>absurd h (by decide)⟩
theorem Zg {p:Nat}:Loc hi p 97:=⟨by decide,by decide,by decide,by decide,by decide,by decide,by decide,by decide,fun h=>absurd h (by decide)⟩
theorem zcV {l:List On} (y:On) (h:j<l.length):splice (zy l) (j*6) (onv y)=zy (l.set j y):=Qn (enc:=onv) (k:=6) y rfl l j (fun _ _=>rfl) h
theorem Zm {l:List On} {e:On} (h:l[j]? =some e) (i:Nat) (u:Value) (hu:(onv e)[i]? =some u):(zy l)[j*6+i]? =some u:=qE (enc:=onv) (k:=6) l j e (fun _ _=>rfl) h i u hu
theorem js (f:Nat->On):(zy (tab f)).length=384:=by rw[zhj,Qj]
theorem zcF {rest:List Oper} {op:Oper} {a:Act} (hgd:op.guard=none) (p x:Operand) (ho:op.op= .store 96 p x) (b k:Nat) (hk:k<64) (hp:a.eval p= .pointer (some ⟨b,k*6,none⟩)) (y:On) (hx:a.eval x= .agg (onv y).toArray)
  {f:Nat->On} (hb:Box w b (zy (tab f)))
  (h:∀w',Box w' b (zy (tab (upd f k y)))->w.grownBy w' (some b)->w'.heap.size=w.heap.size->wpList prog ops Q rest (a.put op.dst undef) w'):wpList prog ops Q (op :: rest) a w:=by
 refine ze9 hgd 96 p x ho b (k*6) hp (onv y) hx hb (by rw[js];show _+6<=_;omega) zlU (zhT y) fun w' h1 h2 h3=>h w' ?_ h2 h3
 rw[zcV y (by rw[Qj];exact hk),zfc]at h1
 exact h1
theorem Box.onCell {k:Nat} {f:Nat->On} (h:Box w b (zy (tab f))) (hk:k<64) (i:Nat) (u:Value) (y:On) (hy:(onv (f k)).set i u=onv y) (hi:i<6):Box (w.setCell ⟨b,k*6+i,none⟩ u) b (zy (tab (upd f k y))):=by
 have h1:=h.set (k*6+i) u;have:(zy (tab f)).set (k*6+i) u=zy (tab (upd f k y)):=by
  rw[<-zfc,<-zcV y (by rw[Qj];exact hk),<-hy]
  have hl:(zy (tab f)).length=384:=js f
  apply List.ext_getElem?
  intro j;unfold splice;have e6:((onv (f k)).set i u).length=6:=by simp[onv]
  rw[e6]
  by_cases h1:j<k*6
  ·rw[sN (by omega),List.getElem?_append_left (by simp;omega),List.getElem?_take_of_lt h1]
  have hl2:((zy (tab f)).take (k*6)).length=k*6:=by simp;omega
  rw[aR (by omega),hl2]
  by_cases h2:j<k*6+6
  ·rw[List.getElem?_append_left (by rw[e6];omega)]
   have hc:∀i',i'<6->(zy (tab f))[k*6+i']? =(onv (f k))[i']?:=fun i' hi'=>by
    obtain⟨v,hv⟩:∃v,(onv (f k))[i']? =some v:=⟨_,gE (by simpa [onv]using hi')⟩
    rw[hv];exact Zm (QZ hk) i' v hv
   by_cases e:j=k*6+i
   ·subst e;rw[sF (by omega),show k*6+i - k*6=i by omega,sF (by simpa [onv]using hi)]
   rw[sN (fun h=>e h.symm),sN (by omega),<-hc _ (by omega),show k*6+(j - k*6)=j by omega]
  rw[sN (by omega),aR (by rw[e6];omega),e6,List.getElem?_drop]
  congr 1
  omega
 rw[this]at h1;exact h1
theorem zeF {cs:List Value} {o k:Nat} (hl:vs.length=k) (h:∀(i:Nat) u,vs[i]? =some u->cs[o+i]? =some u):cs.toArray.extract o (o+k)=vs.toArray:=by
 apply Array.ext_getElem?
 intro j;rw[Array.getElem?_extract]
 by_cases hj:j<k
 ·obtain⟨u,hu⟩:∃u,vs[j]? =some u:=⟨_,gE (by omega)⟩
  have h1:=h j u hu;have h2:=(gS.1 h1).1;rw[if_pos (by simp;omega)]
  simp[h1,hu]
 rw[if_neg (by omega)]
 simp;omega
theorem zi7 {f:Nat->On} (i:Nat) (hi:i<64):(Instr.index 97 (.agg (zy (tab f)).toArray) (I6 (i:Int))).run prog w= .ok (.agg (onv (f i)).toArray) w:=by
 have ha:(isAgg 96).run prog w= .ok true w:=by
  unfold isAgg;rw[Sem.run_bind,run_underlying underlying96 w];rfl
 have hs:(Go.sizeOf 96).run prog w= .ok 6 w:=by
  obtain⟨i0,h1,h2⟩:∃i0,Tryz.prog.info? 96=some i0/\i0.size=6:=by
   have:=zlU
   cases hq:Tryz.prog.info? 96 with
   | none=>rw[hq]at this;cases this
   | some i0=>rw[hq]at this;exact⟨i0,rfl,by simpa using this⟩
  simp[Go.sizeOf,typeInfo,h1,h2]
 have hlt:(0:Int)<=(i:Int)/\(i:Int)< ((64:Nat):Int):=by omega
 have hx:(zy (tab f)).toArray.extract (i*6) (i*6+6)=(onv (f i)).toArray:=zeF rfl fun j u hu=>Zm (QZ hi) j u hu
 simp only[Instr.index,asIntOf,Sem.run_bind,Sem.run_pure,rA,run_underlying underlying97];rw[if_pos hlt];simp only[Sem.run_bind,hs,rA,part,ha,if_true,tN,Sem.run_pure,hx]
theorem zkj {rest:List Oper} {a:Act} (hgd:o.guard=none) (x ix:Operand) (ho:o.op= .index 97 x ix) (f:Nat->On) (hx:a.eval x= .agg (zy (tab f)).toArray) (i:Nat) (hix:a.eval ix=I6 (i:Int)) (hi:i<64)
  (h:wpList prog ops Q rest (a.put o.dst (.agg (onv (f i)).toArray)) w):wpList prog ops Q (o :: rest) a w:=by
 refine wpList_plain hgd fun K hK=>?_
 unfold Oper.wp execOp;simp only[ho,hx,hix,Sem.run_bind,Sem.run_pure,rA,zi7 i hi];exact hK _ _ h
theorem zbr {rest:List Oper} {a:Act} (hgd:o.guard=none) (x ix:Operand) (ho:o.op= .index 97 x ix) (f:Nat->On) (hx:a.eval x= .agg (zy (tab f)).toArray) (i:Nat) (hix:a.eval ix=I6 (i:Int)) (hi:i<64) {v:Value} (hv: .agg (onv (f i)).toArray=v)
  (h:wpList prog ops Q rest (a.put o.dst v) w):wpList prog ops Q (o :: rest) a w:=zkj hgd x ix ho f hx i hix hi (by rw[hv];exact h)
theorem zhA {rest:List Oper} {a:Act} (hgd:o.guard=none) (x:Operand) (ho:o.op= .load 96 x) (b k:Nat) (hk:k<64) (hx:a.eval x= .pointer (some ⟨b,k*6,none⟩)) {f:Nat->On} (hb:Box w b (zy (tab f)))
  (h:wpList prog ops Q rest (a.put o.dst (.agg (onv (f k)).toArray)) w):wpList prog ops Q (o :: rest) a w:=
 wpList_load_mid hgd 96 x ho b (k*6) hx (onv (f k)) _ (hb.mid _ fun j u hu=>Zm (QZ hk) j u hu) underlying96 rfl zlU h
theorem zcG {rest:List Oper} {a:Act} (hgd:o.guard=none) (x:Operand) (ho:o.op= .load 96 x) (b k:Nat) (hk:k<64) (hx:a.eval x= .pointer (some ⟨b,k*6,none⟩)) {f:Nat->On} (hb:Box w b (zy (tab f))) {v:Value} (hv: .agg (onv (f k)).toArray=v)
  (h:wpList prog ops Q rest (a.put o.dst v) w):wpList prog ops Q (o :: rest) a w:=zhA hgd x ho b k hk hx hb (by rw[hv];exact h)
theorem zlq:(Tryz.prog.info? 97).map (·.zero)=some (some (.agg (zy (tab fun _=>on0)).toArray)):=by kernel_rfl
theorem zas (w:World):(zeroValue 97).run prog w= .ok (.agg (zy (tab fun _=>on0)).toArray) w:=by
 have h:=zlq
 cases hq:Tryz.prog.info? 97 with
 | none=>simp[hq]at h
 | some i=>
  simp[hq]at h
  simp[zeroValue,typeInfo,hq,h]
def zla (f:Nat->On):Nat->Ar:=fun n=>JX n (f n)
def zgj (l:List Ar) (i:Nat) (a:Ar) (n:Nat):Nat->On:=fun j=>if a.fr<=(j:Int)/\(j:Int)< (n:Int)then qn a j else zN (l.take i) j
theorem ZY.take:∀{l:List Ar} {p:Option Ar},ZY p l->∀i,ZY p (l.take i)
 | [],_,_,i=>by simp[ZY]
 | a :: l,p,h,0=>by simp[ZY]
 | a :: l,p,h,i+1=>⟨h.1,h.2.1,h.2.2.take i⟩
theorem ZY.free (h:ZY none l) {a:Ar} (ha:l[i]? =some a) (hj:a.fr<=(j:Int)):zN (l.take i) j=on0:=by
 refine zau fun x hx=>zch ?_
 have h1:=h.take (i+1);rw[qt ha]at h1;obtain⟨c1,c2,c3⟩:=JA.1 h1
 cases hl:Jp none (l.take i)with
 | none=>
  unfold Jp at hl
  cases hq:l.take i with
  | nil=>rw[hq]at hx;cases hx
  | cons y ys=>rw[hq]at hl;simp[List.getLast?_cons]at hl
 | some y=>
  have q:=(c3 y hl).1;have hy:jl y:=c1.all y (by
   unfold Jp at hl
   split at hl
   ·rename_i b hb
    cases hl;exact List.mem_of_getLast? hb
   cases hl)
  unfold jl at hy
  rcases zdr _ none c1 x hx y hl with e|e
  ·rw[e];omega
  omega
theorem zh0 {a:Ar} {n:Nat} (hn:(n:Int)=a.fr):zgj l i a n=zN (l.take i):=by
 funext j
 unfold zgj;rw[if_neg (by omega)]
def zk1 (l:List Ar):Prop:=(∀a∈l,jl a)/\∀(i:Nat) a,l[i]? =some a->∀j:Nat,a.fr<=(j:Int)->zN (l.take i) j=on0
theorem ZY.lies (h:ZY none l):zk1 l:=⟨h.all,fun _ _ ha _ hj=>h.free ha hj⟩
theorem zjw {b a:Ar} (hb:jl b) (ha:jl a) (hf:b.tz<=a.fr):zk1 [b,a]:=by
 refine⟨fun x hx=>?_,fun i x hx j hj=>?_⟩
 ·simp at hx
  rcases hx with rfl|rfl
  ·exact hb
  exact ha
 match i with
 | 0=>rfl
 | 1=>
  simp at hx
  subst hx
  show zN [b] j=on0
  rw[zat (.inr (by omega))]
  rfl
 | k+2=>simp at hx
theorem zjx {a:Ar} (ha:jl a):zk1 [a]:=by
 refine⟨fun x hx=>?_,fun i x hx j hj=>?_⟩
 ·simp at hx
  subst hx;exact ha
 match i with
 | 0=>rfl
 | k+1=>simp at hx
theorem zh1 {a:Ar} {n:Nat} (hn:a.fr<=(n:Int)):upd (zgj l i a n) n (qn a n)=zgj l i a (n+1):=by
 funext j
 unfold upd zgj
 by_cases e:j=n
 ·subst e;rw[if_pos rfl,if_pos (by omega)]
 rw[if_neg e]
 by_cases h:a.fr<=(j:Int)/\(j:Int)< (n:Int)
 ·rw[if_pos h,if_pos (by omega)]
 rw[if_neg h,if_neg (by omega)]
theorem zjr {a:Ar} {n:Nat} (h:zk1 l) (ha:l[i]? =some a) (hn:(n:Int)=a.tz):zgj l i a n=zN (l.take (i+1)):=by
 funext j
 unfold zgj;rw[qt ha,Jn]
 ·by_cases h1:a.fr<=(j:Int)/\(j:Int)< (n:Int)
  ·rw[if_pos h1,if_pos (qd.2 (by omega))]
  rw[if_neg h1,if_neg (fun h2=>h1 (by have:=qd.1 h2;omega))]
 by_cases h1:a.fr<=(j:Int)
 ·exact .inl (h.2 i a ha j h1)
 exact .inr (zch (by omega))
theorem zkk {α:Type} (f:Nat->α) (k:Nat) (x y:α):upd (upd f k x) k y=upd f k y:=by
 funext j
 unfold upd
 by_cases e:j=k
 ·rw[if_pos e,if_pos e]
 rw[if_neg e,if_neg e,if_neg e]
theorem jG (v:Value) (l:List Ar) (w:World) (hv:zr arE w v l) (hok:zk1 l):
  Calls prog 41 #[v] w fun e w'=>e= .returned (.agg (zy (tab (zN l))).toArray)/\zc w w':=by
 have hbig:=hv.short;obtain⟨a,c,rfl,hrow⟩:=hv.ars;have HR:Hid (zaK w a l):=hrow;have HOK:Hid (zk1 l):=hok;clear hrow hv hok;have hz:=zas;obtain⟨Z0,HZ0⟩:∃Z0,Hid (zy (tab fun _=>on0)=Z0):=⟨_,rfl⟩
 rw[HZ0.out]at hz;have HZL:Hid (Z0.length=384):=dD<|by rw[<-HZ0.out,js]
 obtain⟨C,HC⟩:∃C,Hid (zy (tab (zN l))=C):=⟨_,rfl⟩;rw[HC.out];obtain⟨n,HN⟩:∃n,Hid (l.length=n):=⟨_,rfl⟩;rw[HN.out]at hbig⊢;obtain⟨W0,hW0⟩:∃W0,(w.alloc (.cells Z0.toArray 97)).alloc (.cells Z0.toArray 97)=W0:=⟨_,rfl⟩;have HG0:=gD2 hW0
 have Y0:Hid (Box W0 w.heap.size Z0):=dD<|by rw[<-hW0];exact(Box.top _ _ _ (by simp)).alloc _
 have L0:Hid (Box W0 (w.heap.size+1) (zy (tab (zN (l.take 0))))):=dD<|by rw[<-hW0,List.take_zero,show zN ([]:List Ar)=fun _=>on0 from rfl,HZ0.out];exact Box.top _ _ _ (by simp)
 have HW0:Hid (_=W0):=hW0;clear hW0
 go_enter func41,ntmps41
 go_upto_region 2 with fail;rw[HW0.out];clear hz;go_wp2
 go_loopg [9] n (fun gg s9 wr=>∃kk:Nat,kk<=n/\n - kk<=gg/\s9=I6 kk/\Hid (zc w wr)/\Hid (Box wr w.heap.size Z0)/\Hid (Box wr (w.heap.size+1) (zy (tab (zN (l.take kk))))))
 case atStart=>exact⟨0,nZ _,by omega,rfl,HG0,Y0,L0⟩
 obtain⟨kk,hkk,hg,rfl,BW,YW,LW⟩:=hrel
 by_cases hlt:kk<n
 ·have hltz:(kk:Int)< (n:Int):=by omega
  obtain⟨q,HQ⟩:∃q,Hid (l[kk]? =some q):=⟨_,gE (by rw[HN.out];exact hlt)⟩
  obtain⟨ad,rfl,hl⟩:=HR.out kk q HQ.out;obtain⟨d0,d1,d2,d3,d4,d5,d6⟩:=hl wr BW.out;have HQK:Hid (jl q):=HOK.1 q (mG HQ);have hqb:0<=q.fr/\q.fr<q.tz/\q.tz<=64/\0<=q.base/\q.base<=12:=by
   have:=HQK.out;unfold jl at this
   rcases Int.lt_or_le q.file 0 with h|h
   ·omega
   omega
  obtain⟨hq1,hq2,hq3,hq4,hq5⟩:=hqb;obtain⟨p,HP⟩:∃p,Hid (wr.heap.size=p):=⟨_,rfl⟩;have HLP:Hid (w.heap.size+1<p):=dD<|by rw[<-HP.out];exact LW.lt
  clear hl;go_upto_region 5 with fail;obtain⟨W1,hW1⟩:∃W1,wr.alloc (.cells #[I6 q.fr,I6 q.tz,.bool q.rd,.bool q.wr,.bool q.sh,I6 q.file,I6 q.base] 69)=W1:=⟨_,rfl⟩;have G1:=gT hW1 BW
  have Y1:=yA hW1 YW
  obtain⟨f0,hf0⟩:∃f0:Nat,(f0:Int)=q.fr:=⟨q.fr.toNat,by omega⟩
  have L1:Hid (Box W1 (w.heap.size+1) (zy (tab (zgj l kk q f0)))):=dD<|by rw[<-hW1,zh0 hf0];exact LW.alloc _
  have P1:=xP hW1 HP
  rw[hW1,HP.out];clear hW1 d0 d1 d2 d3 d4 d5 d6;have p0:=P1.c 0 rfl;go_wp2
  go_loopg [6] (q.tz.toNat - f0) (fun g2 s6 wr2=>∃k2:Nat,f0<=k2/\(k2:Int)<=q.tz/\q.tz.toNat - k2<=g2/\s6=I6 k2/\Hid (zc w wr2)/\Hid (Box wr2 w.heap.size Z0)/\Hid (Box wr2 (w.heap.size+1) (zy (tab (zgj l kk q k2))))/\Hid (Box wr2 p [I6 q.fr,I6 q.tz,.bool q.rd,.bool q.wr,.bool q.sh,I6 q.file,I6 q.base]))
  case atStart=>exact⟨f0,nR _,by omega,by omega,by rw[hf0],G1,Y1,L1,P1⟩
  obtain⟨k2,hk2,hk2',hg2,rfl,BW2,YW2,LW2,PW2⟩:=hrel;clear p0;have p1:=PW2.c 1 rfl
  by_cases hlt2:(k2:Int)<q.tz
  ·have hi64:k2<64:=by omega
   have hi64z:(k2:Int)<64:=by omega
   have HST:Hid (upd (zgj l kk q k2) k2 (qn q k2)=zgj l kk q (k2+1)):=zh1 (l:=l) (i:=kk) (a:=q) (n:=k2) (by omega)
   have p2:=PW2.c 2 rfl;have p3:=PW2.c 3 rfl;have p4:=PW2.c 4 rfl;have p5:=PW2.c 5 rfl
   go_wp2_with (refine zcF rfl (.tmp 31) (.tmp 30) rfl (w.heap.size+1) k2 hi64 rfl ⟨true,q.rd,q.wr,q.sh,q.file,0⟩ rfl LW2.out ?_)
   intro W3 b3 g3 s3;have L3:Hid (Box W3 (w.heap.size+1) (zy (tab (upd (zgj l kk q k2) k2 ⟨true,q.rd,q.wr,q.sh,q.file,0⟩)))):=b3;have G3:Hid (zc w W3):=ze BW2 g3 (by simp)
   have Y3:Hid (Box W3 w.heap.size Z0):=YW2.beside g3 (by intro g hg;cases hg;simp)
   have P3:Hid (Box W3 p [I6 q.fr,I6 q.tz,.bool q.rd,.bool q.wr,.bool q.sh,I6 q.file,I6 q.base]):=PW2.beside g3 (by intro g hg;cases hg;have:=HLP.out;omega)
   clear b3 g3 s3 p1 p2 p3 p4 p5;have p5:=P3.c 5 rfl
   by_cases hfile:0<=q.file
   ·have HONE:Hid (qn q k2=⟨true,q.rd,q.wr,q.sh,q.file,q.base+(k2:Int) - q.fr⟩):=dD<|by
     unfold qn;rw[if_pos hfile]
     congr 1
     omega
    have p0:=P3.c 0 rfl;have p6:=P3.c 6 rfl;have l5:=L3.c (k2*6+5) (Zm (QZ hi64) 5 (I6 0) (by unfold upd;rw[if_pos rfl];rfl))
    have lf:=L3.f;go_upto_region 7 with fail;obtain⟨W4,hW4⟩:∃W4,W3.setCell ⟨w.heap.size+1,k2*6+5,none⟩ (I6 (q.base+(k2:Int) - q.fr))=W4:=⟨_,rfl⟩;have L4:Hid (Box W4 (w.heap.size+1) (zy (tab (zgj l kk q (k2+1))))):=dD<|by
     rw[<-hW4];have:=L3.onCell hi64 5 (I6 (q.base+(k2:Int) - q.fr)) (qn q k2) (by rw[HONE.out];unfold upd;rw[if_pos rfl];rfl) (by omega)
     rw[zkk,HST.out]at this;exact this
    have G4:Hid (zc w W4):=dD<|by rw[<-hW4];exact zC G3 (by simp) _
    have Y4:Hid (Box W4 w.heap.size Z0):=dD<|by rw[<-hW4];exact Y3.other (by simp) _
    have P4:Hid (Box W4 p [I6 q.fr,I6 q.tz,.bool q.rd,.bool q.wr,.bool q.sh,I6 q.file,I6 q.base]):=dD<|by rw[<-hW4];exact P3.other (by have:=HLP.out;simp;omega) _
    rw[hW4];clear hW4 l5 lf p0 p5 p6;go_wp2
    go_roundg (q.tz.toNat -(k2+1))
    case measure=>omega
    exact⟨k2+1,by omega,by omega,by omega,by go_num,G4,Y4,L4,P4⟩
   have HONE:Hid (qn q k2=⟨true,q.rd,q.wr,q.sh,q.file,0⟩):=dD<|by
    unfold qn;rw[if_neg hfile]
   have L4:Hid (Box W3 (w.heap.size+1) (zy (tab (zgj l kk q (k2+1))))):=dD<|by rw[<-HST.out,HONE.out];exact L3.out
   go_wp2
   go_roundg (q.tz.toNat -(k2+1))
   case measure=>omega
   exact⟨k2+1,by omega,by omega,by omega,by go_num,G3,Y3,L4,P3⟩
  have hke:(k2:Int)=q.tz:=by omega
  have LE:Hid (Box wr (w.heap.size+1) (zy (tab (zN (l.take (kk+1)))))):=dD<|by rw[<-zjr HOK.out HQ.out hke];exact LW2.out
  go_wp2
  go_roundg (n -(kk+1))
  case measure=>omega
  exact⟨kk+1,by omega,by omega,by go_num,BW2,YW2,LE⟩
 have hltz:¬(kk:Int)< (n:Int):=by omega
 have:kk=n:=by omega
 subst this;have LE:Hid (Box wr (w.heap.size+1) C):=dD<|by rw[<-HC.out];have:=LW.out;rw[<-HN.out,List.take_length]at this;exact this
 have HFL:Hid (C.length=384):=dD<|by rw[<-HC.out,js]
 have HFO:Hid (∀v∈C,v.oneCell'=true):=dD<|by rw[<-HC.out];exact QA _
 go_wp2_with (first | refine zK rfl 97 (.tmp 3) rfl (w.heap.size+1) rfl LE underlying97 rfl (by rw[HFL.out];exact zlV) ?_ | refine zn rfl 97 (.tmp 2) (.tmp 46) rfl w.heap.size rfl C rfl YW (by rw[HFL.out,HZL.out]) (by rw[HZL.out];exact zlV) HFO.out ?_)
 intro W3 b3 g3 s3;have G3:Hid (zc w W3):=dD<|ze BW g3 (by simp)
 have B3:Hid (Box W3 w.heap.size C):=b3;clear b3 g3 s3;go_wp2;refine bodyPost_ret (zT rfl _ rfl B3 underlying97 rfl (by rw[HFL.out];exact zlV)) rfl ⟨rfl,G3⟩
theorem zjf {f:Nat->On} {k:Nat} (h:(f k).is=true):zla f k=⟨k,(k:Int)+1,(f k).rd,(f k).wr,(f k).sh,(f k).file,(f k).page⟩:=by
 unfold zla JX;rw[if_pos h]
theorem zlf (x y:On):zjj ⟨y.is,y.rd,y.wr,y.sh,y.file,if 0<=x.file then y.page+1 else y.page⟩ x=goJ x y:=by
 unfold zjj goJ;have hd:∀x y:Int,(x == y)=decide (x=y):=fun x y=>rfl
 simp only[hd]
theorem za9 (f:Nat->On) (w:World) (hg:ze2 f):
  Calls prog 145 #[.agg (zy (tab f)).toArray] w fun e w'=>(∃v,e= .returned v/\zb arE (w.heap.size+1) w' v (Zj f))/\zc w w':=by
 have HGD:Hid (ze2 f):=hg;clear hg;have HCL:Hid ((zy (tab f)).length=384):=js _;obtain⟨W0,hW0⟩:∃W0,w.alloc (.cells (zy (tab f)).toArray 97)=W0:=⟨_,rfl⟩;have HG0:=gA hW0
 have X0:=xA hW0
 have HS0:=sA hW0
 have HW0:Hid (_=W0):=hW0;clear hW0
 go_enter func145,ntmps145
 go_upto_region 1 with fail;rw[HW0.out]
 go_wp2_with (refine zK rfl 97 (.tmp 1) rfl w.heap.size rfl X0 underlying97 rfl (by rw[HCL.out];exact zlV) ?_)
 go_loopg [3,9] 64 (fun gg s3 s9 wr=>∃(kk:Nat) (acc:List Ar) (xa:Option Addr) (xc:Nat),kk<=64/\64 - kk<=gg/\s9=I6 kk/\s3= .slice xa acc.length xc/\Hid (zc W0 wr)/\Hid (zb arE (w.heap.size+1) wr (.slice xa acc.length xc) acc)/\Hid (J f kk acc))
 case atStart=>exact⟨0,[],none,0,nZ _,by omega,rfl,rfl,zc.refl _,zb.nil _ _ _,J.zero f⟩
 obtain⟨kk,acc,xa,xc,hkk,hgg,rfl,rfl,BW,OW,JW⟩:=hrel
 by_cases hlt:kk<64
 ·have hltz:(kk:Int)<64:=by omega
  have HLEN:Hid (acc.length<=kk):=JW.len;have XW:=dD (X0.grew BW);obtain⟨p,HP⟩:∃p,Hid (wr.heap.size=p):=⟨_,rfl⟩;have HPW:Hid (wr.heap.size<=p):=show _<=_ by rw[HP.out];exact nR _
  cases hs:(f kk).is with
  | false=>
   have HIV:Hid (Value.agg (onv (f kk)).toArray= .agg #[.bool false,.bool (f kk).rd,.bool (f kk).wr,.bool (f kk).sh,I6 (f kk).file,I6 (f kk).page]):=dD<|by rw[<-hs];rfl
   have J2:Hid (J f (kk+1) acc):=JW.skip ((HGD kk hlt).1 hs);clear hs
   go_wp2_with (refine zbr rfl (.tmp 8) (.tmp 9) rfl f rfl kk rfl hlt HIV.out ?_)
   go_roundg (64 -(kk+1))
   case measure=>omega
   exact⟨kk+1,acc,xa,xc,by omega,by omega,by go_num,rfl,BW.trans (za _ _),OW.grew (za _ _),J2⟩
  | true=>
   have HS:Hid ((f kk).is=true):=hs;have HPF:Hid (JX kk (f kk)=⟨kk,(kk:Int)+1,(f kk).rd,(f kk).wr,(f kk).sh,(f kk).file,(f kk).page⟩):=zjf hs;have HNEW:Hid ((∀b,acc.getLast? =some b->goB (JX kk (f kk)) b=false)->J f (kk+1) (acc++ [JX kk (f kk)])):=fun h=>JW.new HGD hlt HS h
   have HEXT:Hid (∀i b,acc=i++ [b]->goB (JX kk (f kk)) b=true->J f (kk+1) (i++ [{ b with tz:=(kk:Int)+1 }])):=fun i b h1 h2=>by
    have:=JW.out;rw[h1]at this;exact this.ext HGD hlt HS h2
   have HIV:Hid (Value.agg (onv (f kk)).toArray= .agg #[.bool true,.bool (f kk).rd,.bool (f kk).wr,.bool (f kk).sh,I6 (f kk).file,I6 (f kk).page]):=dD<|by rw[<-hs];rfl
   clear hs;obtain⟨x,HX⟩:∃x,Hid (f kk=x):=⟨_,rfl⟩;rw[HX.out]at HIV;have HIV2:Hid (Value.agg (onv (f kk)).toArray= .agg #[.bool true,.bool x.rd,.bool x.wr,.bool x.sh,I6 x.file,I6 x.page]):=dD<|by rw[HX.out];exact HIV.out
   go_upto_region 5 with(refine zbr rfl (.tmp 8) (.tmp 9) rfl f rfl kk rfl hlt HIV2.out ?_)
   obtain⟨W1,hW1⟩:∃W1,wr.alloc (.cells #[.bool true,.bool x.rd,.bool x.wr,.bool x.sh,I6 x.file,I6 x.page] 96)=W1:=⟨_,rfl⟩;have G1:=gT hW1 BW
   have O1:Hid (zb arE (w.heap.size+1) W1 (.slice xa acc.length xc) acc):=dD<|by rw[<-hW1];exact OW.grew (za _ _)
   have P1:=xP hW1 HP
   have X1:=yA hW1 XW
   rw[hW1,HP.out];clear hW1;have p0:=P1.c 0 rfl
   cases kk with
   | zero=>
    have HNIL:Hid (acc=[]):=JW.first;have J2:Hid (J f (0+1) (acc++ [⟨((0:Nat):Int),((0:Nat):Int)+1,x.rd,x.wr,x.sh,x.file,x.page⟩])):=show J _ _ _ by
     have:=HNEW.out (fun b hb=>by rw[HNIL.out]at hb;cases hb)
     rw[HPF.out,HX.out]at this;exact this
    go_upto_region 14 with fail;clear p0;have HSZ:Hid (w.heap.size+1<=W1.heap.size):=dD<|by rw[<-HS0.out];exact bS G1.out
    have p1:=P1.c 1 rfl;have p2:=P1.c 2 rfl;have p3:=P1.c 3 rfl;have p4:=P1.c 4 rfl;have p5:=P1.c 5 rfl
    go_wp2_with (at_builtin;refine zw (E:=arE) rfl (.tmp 41) (.tmp 56) rfl (w.heap.size+1) _ acc rfl (O1.grew (za _ _)) _ [⟨((0:Nat):Int),((0:Nat):Int)+1,x.rd,x.wr,x.sh,x.file,x.page⟩] rfl (jV arE W1 ⟨((0:Nat):Int),((0:Nat):Int)+1,x.rd,x.wr,x.sh,x.file,x.page⟩ _ _ rfl (by show 40<=_;omega)) ?qb ?qc ?_)
    case qb=>
     show(acc.length+1)*40<=_
     have:=HLEN.out;omega
    case qc=>first | exact HSZ.out | exact nT HSZ (Nat.le_succ _) | (have:=HSZ.out;omega) | (simp;have:=HSZ.out;omega)
    intro vn Wn own grn;obtain⟨xan,xcn,rfl⟩:=own.form;have On':Hid (zb arE (w.heap.size+1) Wn (.slice xan (acc++ [(⟨((0:Nat):Int),((0:Nat):Int)+1,x.rd,x.wr,x.sh,x.file,x.page⟩:Ar)]).length xcn) (acc++ [⟨((0:Nat):Int),((0:Nat):Int)+1,x.rd,x.wr,x.sh,x.file,x.page⟩])):=own;have Gn:Hid (zc W0 Wn):=show zc _ _ from qo (G1.trans (za _ _)) grn (fun g hg=>by
     have h1:=(O1.lt g hg).1;rw[HS0.out];exact h1)
    have Xn:=dD (X0.grew Gn);clear own grn p1 p2 p3 p4 p5;go_wp2
    go_roundg (64 -(0+1))
    case measure=>omega
    exact⟨0+1,acc++ [(⟨((0:Nat):Int),((0:Nat):Int)+1,x.rd,x.wr,x.sh,x.file,x.page⟩:Ar)],xan,xcn,by omega,by omega,by go_num,rfl,Gn,On',J2⟩
   | succ j=>
    have hj64:j<64:=by omega
    have hj64z:(j:Int)<64:=by omega
    have hjz:(0:Int)< ((j+1:Nat):Int):=by omega
    have hj1:((j+1:Nat):Int) - 1=(j:Int):=by omega
    have HGO:=JW.go HS.out;obtain⟨y,HY⟩:∃y,Hid (f j=y):=⟨_,rfl⟩;have hyp:0<=y.page/\y.page<=12:=by
     rw[<-HY.out];have h1:=HGD.out j hj64
     cases hq:(f j).is with
     | false=>rw[h1.1 hq];exact⟨by decide,by decide⟩
     | true=>
      have h2:=h1.2 hq;unfold jl JX at h2;rw[if_pos hq]at h2;simp only at h2
      rcases Int.lt_or_le (f j).file 0 with h|h
      ·omega
      omega
    obtain⟨hy0,hy1⟩:=hyp;have HYV:Hid (Value.agg (onv (f j)).toArray= .agg #[.bool y.is,.bool y.rd,.bool y.wr,.bool y.sh,I6 y.file,I6 y.page]):=dD<|by rw[HY.out];rfl
    have HGJ:=zlf x y;rw[HX.out,HY.out]at HGO;have HGO':Hid _:=HGO;obtain⟨p7,HP7⟩:∃p7,Hid (W1.heap.size=p7):=⟨_,rfl⟩;have HPP:Hid (p<p7):=dD<|by rw[<-HP7.out];exact P1.lt
    go_upto_region 9 with(refine zcG rfl (.tmp 20) rfl w.heap.size j hj64 rfl X1 HYV.out ?_)
    clear p0;obtain⟨W2,hW2⟩:∃W2,W1.alloc (.cells #[.bool y.is,.bool y.rd,.bool y.wr,.bool y.sh,I6 y.file,I6 y.page] 96)=W2:=⟨_,rfl⟩;have G2:=gT hW2 G1
    have O2:Hid (zb arE (w.heap.size+1) W2 (.slice xa acc.length xc) acc):=dD<|by rw[<-hW2];exact O1.grew (za _ _)
    have P2:=yA hW2 P1
    have Y2:=xPT hW2 HP7
    rw[hW2,HP7.out];clear hW2;have p4:=P2.c 4 rfl
    by_cases hfile:0<=x.file
    ·rw[if_pos hfile]at HGJ;have HQ:=fun W=>zlc y.is true y.rd x.rd y.wr x.wr y.sh x.sh y.file x.file (y.page+1) x.page W
     have HXT:Hid ((⟨true,x.rd,x.wr,x.sh,x.file,x.page⟩:On)=x):=dD<|by
      have h:=HS.out;rw[HX.out]at h;rw[<-h]
     rw[HXT.out,HGJ]at HQ;obtain⟨R,HR⟩:∃R,Hid (goJ x y=R):=⟨_,rfl⟩;rw[HR.out]at HQ HGO';have y5:=Y2.box.c 5 rfl;have yf:=Y2.box.f;go_upto_region 11 with fail;obtain⟨W3,hW3⟩:∃W3,W2.setCell ⟨p7,5,none⟩ (I6 (y.page+1))=W3:=⟨_,rfl⟩;have HW0P:Hid (W0.heap.size<=p7):=dD<|by have h1:=HPP.out;have h2:=bS BW.out;have h3:=HPW.out;omega
     have G3:Hid (zc W0 W3):=dD<|by rw[<-hW3];exact zC G2 HW0P.out _
     have O3:Hid (zb arE (w.heap.size+1) W3 (.slice xa acc.length xc) acc):=dD<|by rw[<-hW3];exact O2.setOther (fun g hg=>O2.ne Y2 (by decide) g hg) _
     have P3:Hid (Box W3 p [.bool true,.bool x.rd,.bool x.wr,.bool x.sh,I6 x.file,I6 x.page]):=dD<|by rw[<-hW3];exact P2.other (by have:=HPP.out;simp;omega) _
     have Y3:Hid (Box W3 p7 [.bool y.is,.bool y.rd,.bool y.wr,.bool y.sh,I6 y.file,I6 (y.page+1)]):=dD<|by rw[<-hW3];exact Y2.box.set 5 _
     rw[hW3];clear hW3 y5 yf p4
     cases R with
     | true=>
      obtain⟨b,hlast,hgb⟩:=HGO'.1 rfl;have hacc:=zff hlast;obtain⟨ini,hini⟩:∃ini,acc.dropLast=ini:=⟨_,rfl⟩;rw[hini]at hacc;have HACC:Hid (acc=ini++ [b]):=hacc;have J2:Hid (J f (j+1+1) (ini++ [{ b with tz:=((j+1:Nat):Int)+1 }])):=HEXT.out ini b hacc (by rw[HX.out];exact hgb)
      obtain⟨m,HM⟩:∃m,Hid (ini.length=m):=⟨_,rfl⟩;have HAL:Hid (acc.length=m+1):=dD<|by rw[HACC.out,<-HM.out];simp
      have HBI:Hid (acc[m]? =some b):=dD<|by rw[HACC.out,<-HM.out];simp
      obtain⟨g,xc',hxe⟩:=O3.formS (by rw[HAL.out];omega)
      cases hxe;have hmm:((m+1:Nat):Int) - 1=(m:Int):=by omega
      have hm0:(0:Int)<=(m:Int):=by omega
      have hmlt:(m:Int)< ((m+1:Nat):Int):=by omega
      have hmk:m+1<=64:=by have:=HLEN.out;rw[HAL.out]at this;omega
      clear hlast hgb hacc hini;rw[HAL.out]at O3⊢;have HSET:Hid (acc.set m { b with tz:=((j+1:Nat):Int)+1 }=ini++ [{ b with tz:=((j+1:Nat):Int)+1 }]):=dD<|by rw[HACC.out,List.set_append_right _ _ (by rw[HM.out];exact nR _),HM,Nat.sub_self];rfl
      go_wp2_with (first | refine zK rfl 96 (.tmp 7) rfl p7 rfl Y3 underlying96 rfl zlU ?_ | refine zK rfl 96 (.tmp 5) rfl p rfl P3 underlying96 rfl zlU ?_ | refine zB (E:=arE) rfl (.tmp 40) (.tmp 38) 3 rfl (w.heap.size+1) (.slice (some ⟨g,0,none⟩) (m+1) xc) acc O3 g m 1 rfl b { b with tz:=((j+1:Nat):Int)+1 } HBI.out [I6 (((j+1:Nat):Int)+1)] (by kernel_rfl) rfl (Nat.le_of_ble_eq_true rfl) (by intro u hu;simp at hu;subst hu;rfl) _ rfl (by simp;rfl) _ rfl rfl ?_)
      intro W4 ow4 gr4 sz4;have HBG:=O3.lt g rfl;have G4:Hid (zc W0 W4):=dD<|ze G3 gr4 (by rw[HS0.out];exact HBG.1)
      have HL4:Hid ((ini++ [({ b with tz:=((j+1:Nat):Int)+1 }:Ar)]).length=m+1):=dD<|by simp[HM.out]
      have O4:Hid (zb arE (w.heap.size+1) W4 (.slice (some ⟨g,0,none⟩) (ini++ [({ b with tz:=((j+1:Nat):Int)+1 }:Ar)]).length xc) (ini++ [{ b with tz:=((j+1:Nat):Int)+1 }])):=dD<|by rw[HL4.out,<-HSET.out];exact ow4
      clear ow4 gr4 sz4;rw[<-HL4.out];go_wp2
      go_roundg (64 -(j+1+1))
      case measure=>omega
      exact⟨j+1+1,ini++ [({ b with tz:=((j+1:Nat):Int)+1 }:Ar)],some ⟨g,0,none⟩,xc,by omega,by omega,by go_num,rfl,G4,O4,J2⟩
     | false=>
      have J2:Hid (J f (j+1+1) (acc++ [⟨((j+1:Nat)),(((j+1:Nat)):Int)+1,x.rd,x.wr,x.sh,x.file,x.page⟩])):=dD<|by
       have:=HNEW.out (fun b hb=>by rw[HX.out];exact HGO'.2 rfl b hb)
       rw[HPF.out,HX.out]at this;exact this
      go_upto_region 14 with(first | refine zK rfl 96 (.tmp 7) rfl p7 rfl Y3 underlying96 rfl zlU ?_ | refine zK rfl 96 (.tmp 5) rfl p rfl P3 underlying96 rfl zlU ?_)
      have HSZ:Hid (w.heap.size+1<=W3.heap.size):=dD<|by rw[<-HS0.out];exact bS G3.out
      have p1:=P3.c 1 rfl;have p2:=P3.c 2 rfl;have p3:=P3.c 3 rfl;have p4:=P3.c 4 rfl;have p5:=P3.c 5 rfl
      go_wp2_with (at_builtin;refine zw (E:=arE) rfl (.tmp 41) (.tmp 56) rfl (w.heap.size+1) _ acc rfl (O3.grew (za _ _)) _ [⟨((j+1:Nat):Int),((j+1:Nat):Int)+1,x.rd,x.wr,x.sh,x.file,x.page⟩] rfl (jV arE W3 ⟨((j+1:Nat):Int),((j+1:Nat):Int)+1,x.rd,x.wr,x.sh,x.file,x.page⟩ _ _ rfl (by show 40<=_;omega)) ?qb ?qc ?_)
      case qb=>
       show(acc.length+1)*40<=_
       have:=HLEN.out;omega
      case qc=>first | exact HSZ.out | exact nT HSZ (Nat.le_succ _) | (have:=HSZ.out;omega) | (simp;have:=HSZ.out;omega)
      intro vn Wn own grn;obtain⟨xan,xcn,rfl⟩:=own.form;have On':Hid (zb arE (w.heap.size+1) Wn (.slice xan (acc++ [(⟨((j+1:Nat):Int),((j+1:Nat):Int)+1,x.rd,x.wr,x.sh,x.file,x.page⟩:Ar)]).length xcn) (acc++ [⟨((j+1:Nat):Int),((j+1:Nat):Int)+1,x.rd,x.wr,x.sh,x.file,x.page⟩])):=own;have Gn:Hid (zc W0 Wn):=show zc _ _ from qo (G3.trans (za _ _)) grn (fun g hg=>by
       have h1:=(O3.lt g hg).1;rw[HS0.out];exact h1)
      have Xn:=dD (X0.grew Gn);clear own grn p1 p2 p3 p4 p5;go_wp2
      go_roundg (64 -((j+1)+1))
      case measure=>omega
      exact⟨(j+1)+1,acc++ [(⟨((j+1:Nat):Int),((j+1:Nat):Int)+1,x.rd,x.wr,x.sh,x.file,x.page⟩:Ar)],xan,xcn,by omega,by omega,by go_num,rfl,Gn,On',J2⟩
    rw[if_neg hfile]at HGJ;have HQ:=fun W=>zlc y.is true y.rd x.rd y.wr x.wr y.sh x.sh y.file x.file y.page x.page W
    have HXT:Hid ((⟨true,x.rd,x.wr,x.sh,x.file,x.page⟩:On)=x):=dD<|by
     have h:=HS.out;rw[HX.out]at h;rw[<-h]
    rw[HXT.out,HGJ]at HQ;obtain⟨R,HR⟩:∃R,Hid (goJ x y=R):=⟨_,rfl⟩;rw[HR.out]at HQ HGO';go_upto_region 11 with fail;clear p4;have G3:Hid (zc W0 W2):=G2;have O3:Hid (zb arE (w.heap.size+1) W2 (.slice xa acc.length xc) acc):=O2;have P3:Hid (Box W2 p [.bool true,.bool x.rd,.bool x.wr,.bool x.sh,I6 x.file,I6 x.page]):=P2;have Y3:Hid (Box W2 p7 [.bool y.is,.bool y.rd,.bool y.wr,.bool y.sh,I6 y.file,I6 y.page]):=Y2.box;obtain⟨W3,hW3⟩:∃W3,W2=W3:=⟨_,rfl⟩;rw[hW3]at G3 O3 P3 Y3⊢;clear hW3
    cases R with
    | true=>
     obtain⟨b,hlast,hgb⟩:=HGO'.1 rfl;have hacc:=zff hlast;obtain⟨ini,hini⟩:∃ini,acc.dropLast=ini:=⟨_,rfl⟩;rw[hini]at hacc;have HACC:Hid (acc=ini++ [b]):=hacc;have J2:Hid (J f (j+1+1) (ini++ [{ b with tz:=((j+1:Nat):Int)+1 }])):=HEXT.out ini b hacc (by rw[HX.out];exact hgb)
     obtain⟨m,HM⟩:∃m,Hid (ini.length=m):=⟨_,rfl⟩;have HAL:Hid (acc.length=m+1):=dD<|by rw[HACC.out,<-HM.out];simp
     have HBI:Hid (acc[m]? =some b):=dD<|by rw[HACC.out,<-HM.out];simp
     obtain⟨g,xc',hxe⟩:=O3.formS (by rw[HAL.out];omega)
     cases hxe;have hmm:((m+1:Nat):Int) - 1=(m:Int):=by omega
     have hm0:(0:Int)<=(m:Int):=by omega
     have hmlt:(m:Int)< ((m+1:Nat):Int):=by omega
     have hmk:m+1<=64:=by have:=HLEN.out;rw[HAL.out]at this;omega
     clear hlast hgb hacc hini;rw[HAL.out]at O3⊢;have HSET:Hid (acc.set m { b with tz:=((j+1:Nat):Int)+1 }=ini++ [{ b with tz:=((j+1:Nat):Int)+1 }]):=dD<|by rw[HACC.out,List.set_append_right _ _ (by rw[HM.out];exact nR _),HM,Nat.sub_self];rfl
     go_wp2_with (first | refine zK rfl 96 (.tmp 7) rfl p7 rfl Y3 underlying96 rfl zlU ?_ | refine zK rfl 96 (.tmp 5) rfl p rfl P3 underlying96 rfl zlU ?_ | refine zB (E:=arE) rfl (.tmp 40) (.tmp 38) 3 rfl (w.heap.size+1) (.slice (some ⟨g,0,none⟩) (m+1) xc) acc O3 g m 1 rfl b { b with tz:=((j+1:Nat):Int)+1 } HBI.out [I6 (((j+1:Nat):Int)+1)] (by kernel_rfl) rfl (Nat.le_of_ble_eq_true rfl) (by intro u hu;simp at hu;subst hu;rfl) _ rfl (by simp;rfl) _ rfl rfl ?_)
     intro W4 ow4 gr4 sz4;have HBG:=O3.lt g rfl;have G4:Hid (zc W0 W4):=dD<|ze G3 gr4 (by rw[HS0.out];exact HBG.1)
     have HL4:Hid ((ini++ [({ b with tz:=((j+1:Nat):Int)+1 }:Ar)]).length=m+1):=dD<|by simp[HM.out]
     have O4:Hid (zb arE (w.heap.size+1) W4 (.slice (some ⟨g,0,none⟩) (ini++ [({ b with tz:=((j+1:Nat):Int)+1 }:Ar)]).length xc) (ini++ [{ b with tz:=((j+1:Nat):Int)+1 }])):=dD<|by rw[HL4.out,<-HSET.out];exact ow4
     clear ow4 gr4 sz4;rw[<-HL4.out];go_wp2
     go_roundg (64 -(j+1+1))
     case measure=>omega
     exact⟨j+1+1,ini++ [({ b with tz:=((j+1:Nat):Int)+1 }:Ar)],some ⟨g,0,none⟩,xc,by omega,by omega,by go_num,rfl,G4,O4,J2⟩
    | false=>
     have J2:Hid (J f (j+1+1) (acc++ [⟨((j+1:Nat)),(((j+1:Nat)):Int)+1,x.rd,x.wr,x.sh,x.file,x.page⟩])):=dD<|by
      have:=HNEW.out (fun b hb=>by rw[HX.out];exact HGO'.2 rfl b hb)
      rw[HPF.out,HX.out]at this;exact this
     go_upto_region 14 with(first | refine zK rfl 96 (.tmp 7) rfl p7 rfl Y3 underlying96 rfl zlU ?_ | refine zK rfl 96 (.tmp 5) rfl p rfl P3 underlying96 rfl zlU ?_)
     have HSZ:Hid (w.heap.size+1<=W3.heap.size):=dD<|by rw[<-HS0.out];exact bS G3.out
     have p1:=P3.c 1 rfl;have p2:=P3.c 2 rfl;have p3:=P3.c 3 rfl;have p4:=P3.c 4 rfl;have p5:=P3.c 5 rfl
     go_wp2_with (at_builtin;refine zw (E:=arE) rfl (.tmp 41) (.tmp 56) rfl (w.heap.size+1) _ acc rfl (O3.grew (za _ _)) _ [⟨((j+1:Nat):Int),((j+1:Nat):Int)+1,x.rd,x.wr,x.sh,x.file,x.page⟩] rfl (jV arE W3 ⟨((j+1:Nat):Int),((j+1:Nat):Int)+1,x.rd,x.wr,x.sh,x.file,x.page⟩ _ _ rfl (by show 40<=_;omega)) ?qb ?qc ?_)
     case qb=>
      show(acc.length+1)*40<=_
      have:=HLEN.out;omega
     case qc=>first | exact HSZ.out | exact nT HSZ (Nat.le_succ _) | (have:=HSZ.out;omega) | (simp;have:=HSZ.out;omega)
     intro vn Wn own grn;obtain⟨xan,xcn,rfl⟩:=own.form;have On':Hid (zb arE (w.heap.size+1) Wn (.slice xan (acc++ [(⟨((j+1:Nat):Int),((j+1:Nat):Int)+1,x.rd,x.wr,x.sh,x.file,x.page⟩:Ar)]).length xcn) (acc++ [⟨((j+1:Nat):Int),((j+1:Nat):Int)+1,x.rd,x.wr,x.sh,x.file,x.page⟩])):=own;have Gn:Hid (zc W0 Wn):=show zc _ _ from qo (G3.trans (za _ _)) grn (fun g hg=>by
      have h1:=(O3.lt g hg).1;rw[HS0.out];exact h1)
     have Xn:=dD (X0.grew Gn);clear own grn p1 p2 p3 p4 p5;go_wp2
     go_roundg (64 -((j+1)+1))
     case measure=>omega
     exact⟨(j+1)+1,acc++ [(⟨((j+1:Nat):Int),((j+1:Nat):Int)+1,x.rd,x.wr,x.sh,x.file,x.page⟩:Ar)],xan,xcn,by omega,by omega,by go_num,rfl,Gn,On',J2⟩
 have hltz:¬(kk:Int)<64:=by omega
 have:kk=64:=by omega
 subst this;have HE:Hid (acc=Zj f):=JW.all HGD.out;have OE:Hid (zb arE (w.heap.size+1) wr (.slice xa acc.length xc) (Zj f)):=show zb _ _ _ _ _ by rw[<-HE.out];exact OW.out
 have GE:=dD (HG0.trans BW);go_wp2;go_ret;exact⟨⟨_,rfl,OE⟩,GE⟩
theorem zgQ (f:Nat->On) (w:World) (hg:ze2 f):
  Calls prog 126 #[.agg (zy (tab f)).toArray] w fun e w'=>(∃u,e= .returned (.tuple #[u,I6 (ze1 f).2])/\zb arE w.heap.size w' u (ze1 f).1)/\zc w w':=by
 have HA:Hid (∀W,Calls prog 145 #[.agg (zy (tab f)).toArray] W fun e w'=>(∃v,e= .returned v/\zb arE (W.heap.size+1) w' v (Zj f))/\zc W w'):=fun W=>za9 f W hg
 have HFW:Hid (¬16< (Zj f).length->ze1 f=(Zj f,0)):=fun h=>by unfold ze1;rw[if_neg h]
 have HFM:Hid (16< (Zj f).length->ze1 f=([],4)):=fun h=>by unfold ze1;rw[if_pos h]
 have HJS:Hid ((Zj f).length<=64):=(zb0 hg).len;clear hg;obtain⟨FW,HFE⟩:∃FW,Hid (ze1 f=FW):=⟨_,rfl⟩;simp only[HFE.out]at HFW HFM⊢;obtain⟨JL,HJL⟩:∃JL,Hid (Zj f=JL):=⟨_,rfl⟩;simp only[HJL.out]at HFW HFM HJS HA;have HCL:Hid ((zy (tab f)).length=384):=js _
 generalize zy (tab f)=C at HA HCL⊢
 obtain⟨W0,hW0⟩:∃W0,w.alloc (.cells C.toArray 97)=W0:=⟨_,rfl⟩;have HG0:=gA hW0
 have X0:=xA hW0
 have HW0:Hid (_=W0):=hW0;clear hW0
 go_enter func126,ntmps126
 go_upto_region 1 with fail;rw[HW0.out]
 go_wp2_with (refine zK rfl 97 (.tmp 1) rfl w.heap.size rfl X0 underlying97 rfl (by rw[HCL.out];exact zlV) ?_)
 refine(HA W0).mono ?_;rintro e W5 ⟨⟨u,rfl,ow5⟩,g5⟩;obtain⟨xa,xc,rfl⟩:=ow5.form;have G5:=dD (HG0.trans g5);have O5:Hid (zb arE w.heap.size W5 (.slice xa JL.length xc) JL):=ow5.base (nT (bS HG0) (Nat.le_succ _));clear g5 ow5;obtain⟨m,HM⟩:∃m,Hid (JL.length=m):=⟨_,rfl⟩;rw[HM.out]at HFW HFM HJS O5⊢;have hm64:m<=64:=HJS.out
 by_cases hmany:16<m
 ·have hmz:(16:Int)< (m:Int):=by omega
  have HR:Hid (FW=([],4)):=HFM.out hmany;go_wp2;refine bodyPost_ret (results_tmp2 rfl _ _ _) rfl ?_;rw[HR.out];exact⟨⟨_,rfl,zb.nil _ _ _⟩,G5⟩
 have hmz:¬(16:Int)< (m:Int):=by omega
 have HR:Hid (FW=(JL,0)):=HFW.out hmany;go_wp2;refine bodyPost_ret (results_tmp2 rfl _ _ _) rfl ?_;rw[HR.out];exact⟨⟨_,rfl,O5⟩,G5⟩
theorem zi0 {b a:Ar} (hb:jl b) (ha:jl a):ze2 (zN [b,a]):=fun k _=>⟨zdo,fun h1=>by
 obtain⟨i,c,h2,h3,h4⟩:=Qr h1;rw[h4];have:c=b\/c=a:=by simpa using mG h2
 rcases this with e|e <;> subst e
 ·exact JK hb h3
 exact JK ha h3⟩
theorem zkp {ad:Addr} {n c:Nat} {b q:Ar} (h:zr arE w (.slice (some ad) n c) l) (hb:l[j]? =some b) (hq:l[j+1]? =some q):zr arE w (.slice (some (ad.add (j*7))) 2 (c - j)) [b,q]:=by
 obtain⟨⟨a',c',h1,h2,h3⟩,h4⟩:=h;cases h1;refine⟨⟨some (ad.add (j*7)),c - j,rfl,fun h=>(by cases h),fun x hx k u hu=>?_⟩,by show 2*40<=_;omega⟩
 cases hx;rw[zI];refine h3 ad rfl (j*7+k) u ?_;have hu':(arv b++arv q)[k]? =some u:=by simpa [arE]using hu
 by_cases hk:k<7
 ·rw[List.getElem?_append_left (by simpa [arv]using hk)]at hu'
  exact qE (enc:=arv) (k:=7) l j b (fun _ _=>rfl) hb k u hu'
 rw[aR (by simp[arv];omega)]at hu'
 have:=qE (enc:=arv) (k:=7) l (j+1) q (fun _ _=>rfl) hq (k - 7) u (by simpa [arv]using hu')
 rw[show(j+1)*7+(k - 7)=j*7+k by omega]at this
 exact this
theorem zgN {ad:Addr} {n c:Nat} (hj:j+2<=c):(Instr.sliceAt 60 (.slice (some ad) n c) (some (I6 (j:Int))) (some (I6 ((j:Int)+1+1))) none).run prog w= .ok (.slice (some (ad.add (j*7))) 2 (c - j)) w:=by
 have hs:(Go.sizeOf 69).run prog w= .ok 7 w:=by
  obtain⟨i0,h1,h2⟩:∃i0,Tryz.prog.info? 69=some i0/\i0.size=7:=by
   have:=zlS
   cases hq:Tryz.prog.info? 69 with
   | none=>rw[hq]at this;cases this
   | some i0=>rw[hq]at this;exact⟨i0,rfl,by simpa using this⟩
  simp[Go.sizeOf,typeInfo,h1,h2]
 have h1:(0:Int)<=(j:Int)+1+1/\(j:Int)+1+1<=(c:Int):=by omega
 have h2:((j:Int)+1+1).toNat=j+2:=by omega
 have h3:(0:Int)<=(j:Int)/\(j:Int)<=((j+2:Nat):Int):=by omega
 have h4:¬c=j:=by omega
 simp only[Instr.sliceAt,Instr.slice,Instr.sliceBounds,Instr.sliceBound,asIntOf,Sem.run_bind,Sem.run_pure,rA,run_underlying underlying60];rw[if_pos h1];simp only[Sem.run_pure,rA,h2];rw[if_pos h3];simp only[Sem.run_pure,rA,hs,tN,if_neg h4,Option.map_some]
 congr 2
 omega
theorem JV (v:Value) (l:List Ar) (w:World) (hv:zr arE w v l) (hcap:Cap v):
  Calls prog 100 #[v] w fun e w'=>e= .returned (.agg #[I6 (wrL l).1,I6 (wrL l).2])/\zc w w':=by
 have hbig:=hv.short;obtain⟨a,c,rfl,hrow⟩:=hv.ars;have HR':Hid (zaK w a l):=hrow;have hwa:Hid (∀(q:Ar) W,Calls prog 125 #[.agg #[I6 q.fr,I6 q.tz,.bool q.rd,.bool q.wr,.bool q.sh,I6 q.file,I6 q.base]] W fun e w'=>e= .returned (I6 (arW q))/\zc W w'):=fun q W=>Q2 q W
 have HV:Hid (zr arE w (.slice a l.length c) l):=hv;have hcp:l.length<=c:=hcap;have h1:Hid (∀(b q:Ar) v W,zr arE W v [b,q]->jl b->jl q->b.tz<=q.fr->Calls prog 41 #[v] W fun e w'=>e= .returned (.agg (zy (tab (zN [b,q]))).toArray)/\zc W w'):=fun b q v W hv hb hq hf=>jG v [b,q] W hv (zjw hb hq hf)
 have h2:Hid (∀(b q:Ar) W,jl b->jl q->b.tz<=q.fr->Calls prog 145 #[.agg (zy (tab (zN [b,q]))).toArray] W fun e w'=>(∃xa xc,e= .returned (.slice xa (Zj (zN [b,q])).length xc))/\zc W w'):=fun b q W hb hq hf=>(za9 (zN [b,q]) W (zi0 hb hq)).mono (by
  rintro e w' ⟨⟨v,rfl,ow⟩,g⟩;obtain⟨xa,xc,rfl⟩:=ow.form;exact⟨⟨xa,xc,rfl⟩,g⟩)
 clear hrow hv hcap;have HST:Hid (¬16<l.length->JG (j0 l 0) (l.drop 0) 0=wrL l):=zdV;have HMA:Hid (16<l.length->wrL l=(4,0)):=fun h=>by unfold wrL;rw[if_pos h]
 have HEND:Hid (∀r,JG (j0 l l.length) (l.drop l.length) l.length=r->r=(0,0)):=fun r=>zhx
 obtain⟨n,HN⟩:∃n,Hid (l.length=n):=⟨_,rfl⟩;rw[HN.out]at hbig hcp HV⊢;have HST':Hid (¬16<n->JG (j0 l 0) (l.drop 0) 0=wrL l):=dD<|by rw[<-HN.out];exact HST.out
 have HMA':Hid (16<n->wrL l=(4,0)):=dD<|by rw[<-HN.out];exact HMA.out
 have HEND':Hid (∀r,JG (j0 l n) (l.drop n) n=r->r=(0,0)):=dD<|by rw[<-HN.out];exact HEND.out
 skip
 generalize hA:wrL l=ANS at HST' HMA'⊢
 clear hA;obtain⟨W0,hW0⟩:∃W0,w.alloc (.cells #[I6 0,I6 0] 167)=W0:=⟨_,rfl⟩;have HG0:=gA hW0
 have X0:=xA hW0
 have HW0:Hid (_=W0):=hW0;clear hW0
 by_cases hmany:16<n
 ·have HR:Hid (ANS=(4,0)):=HMA'.out hmany;have hmz:(16:Int)< (n:Int):=by omega
  go_enter func100,ntmps100
  go_upto_region 1 with fail;rw[HW0.out];have f0:=X0.c 0 rfl;have f1:=X0.c 1 rfl;have ff:=X0.f;have RB:Hid (Box ((W0.setCell ⟨w.heap.size,0,none⟩ (I6 4)).setCell ⟨w.heap.size,1,none⟩ (I6 0)) w.heap.size [I6 4,I6 0]):=dD<|(X0.set 0 _).set 1 _
  have RG:Hid (zc w ((W0.setCell ⟨w.heap.size,0,none⟩ (I6 4)).setCell ⟨w.heap.size,1,none⟩ (I6 0))):=dD<|zC (zC HG0 (by simp) _) (by simp) _
  go_wp2;refine bodyPost_ret (zT (vs:=[I6 4,I6 0]) rfl _ rfl RB underlying167 rfl zlT) rfl ⟨?_,RG⟩;rw[HR.out]
 have hmz:¬(16:Int)< (n:Int):=by omega
 have HI:Hid (JG (j0 l 0) (l.drop 0) 0=ANS):=HST'.out hmany
 go_enter func100,ntmps100
 go_upto_region 1 with fail;rw[HW0.out];go_wp2
 go_loopg [12] n (fun gg s12 wr=>∃kk:Nat,kk<=n/\n - kk<=gg/\s12=I6 kk/\Hid (zc w wr)/\Hid (Box wr w.heap.size [I6 0,I6 0])/\Hid (JG (j0 l kk) (l.drop kk) kk=ANS)/\Hid (∀(j:Nat) q,j<kk->l[j]? =some q->jl q))
 case atStart=>exact⟨0,nZ _,by omega,rfl,HG0,X0,HI,fun j q hj=>absurd hj (nL _)⟩
 obtain⟨kk,hkk,hg,rfl,BW,FW,IW,OW⟩:=hrel
 by_cases hlt:kk<n
 ·have hltz:(kk:Int)< (n:Int):=by omega
  obtain⟨q,HQ⟩:∃q,Hid (l[kk]? =some q):=⟨_,gE (by rw[HN.out];exact hlt)⟩
  obtain⟨ad,rfl,hl⟩:=HR'.out kk q HQ.out;obtain⟨d0,d1,d2,d3,d4,d5,d6⟩:=hl wr BW.out;have HL:Hid (w.heap.size<wr.heap.size):=FW.lt;obtain⟨p,HP⟩:∃p,Hid (wr.heap.size=p):=⟨_,rfl⟩;have HLP:Hid (w.heap.size<p):=show _<_ by rw[<-HP.out];exact HL.out
  clear hl;go_upto_region 6 with fail;obtain⟨W1,hW1⟩:∃W1,wr.alloc (.cells #[I6 q.fr,I6 q.tz,.bool q.rd,.bool q.wr,.bool q.sh,I6 q.file,I6 q.base] 69)=W1:=⟨_,rfl⟩;have G1:=gT hW1 BW
  have F1:=yA hW1 FW
  have P1:=xP hW1 HP
  rw[hW1,HP.out];clear hW1 d0 d1 d2 d3 d4 d5 d6
  go_wp2_with (refine zK rfl 69 (.tmp 4) rfl p rfl P1 underlying69 rfl zlS ?_)
  refine(hwa.out q _).mono ?_;rintro e W2 ⟨rfl,g2⟩;have G2:=dD (G1.trans g2);have F2:=dD (F1.grew g2);have P2:=dD (P1.grew g2);clear g2;have hpne:p≠w.heap.size:=by have:=HLP.out;omega
  have hpne':w.heap.size≠p:=by have:=HLP.out;omega
  by_cases hz:arW q=0
  ·have HZ:Hid (arW q=0):=hz;have hzb:(arW q != 0)=false:=by simp[hz]
   have HOK:Hid (jl q):=ZC.1 hz;have OW':Hid (∀(j:Nat) x,j<kk+1->l[j]? =some x->jl x):=show∀(j:Nat) x,_ from fun j x hj hx=>by
    by_cases e:j=kk
    ·subst e;rw[HQ.out]at hx;cases hx;exact HOK.out
    exact OW j x (by omega) hx
   clear hz;go_upto_region 9 with fail
   generalize arW q=zq
   cases kk with
   | zero=>
    have HNX:Hid (JG (j0 l 1) (l.drop 1) 1=ANS):=zdU IW HQ HZ.out;have hz0:¬(0:Int)< ((0:Nat):Int):=by decide
    have hz1:decide ((0:Int)< ((0:Nat):Int))=false:=by decide
    go_quiet (fail);go_wp2
    go_roundg (n - 1)
    case measure=>omega
    exact⟨1,by omega,by omega,by go_num,G2.trans (show Below _ _ _ from bD (bR _ _) _),F2.grew (show Below _ _ _ from bD (bR _ _) _),HNX,OW'⟩
   | succ j=>
    obtain⟨b,HB⟩:∃b,Hid (l[j]? =some b):=⟨_,gE (by rw[HN.out];omega)⟩
    have HBK:Hid (jl b):=OW.out j b (by omega) HB.out
    have hz0:(0:Int)< ((j+1:Nat):Int):=by omega
    have hz1:decide ((0:Int)< ((j+1:Nat):Int))=true:=by simp
    have hj1:((j+1:Nat):Int) - 1=(j:Int):=by omega
    have hjn:(j:Int)< (n:Int):=by omega
    obtain⟨ad',had,hl⟩:=HR'.out j b HB.out;obtain rfl:ad=ad':=by cases had;rfl
    by_cases hc:q.fr<b.tz
    ·have HR:Hid (ANS=(2,((j+1:Nat):Int))):=zbq IW HB HQ HZ (.inl hc);have hcd:decide (q.fr<b.tz)=true:=by simpa using hc
     obtain⟨e0,e1,e2,e3,e4,e5,e6⟩:=hl W2 G2.out;have p0:=P2.c 0 rfl;clear hl;go_quiet (fail);obtain⟨W3,hW3⟩:∃W3,W2.drewN nq=W3:=⟨_,rfl⟩;have G3:Hid (zc w W3):=dD<|by rw[<-hW3];exact G2.trans (show Below _ _ _ from bD (bR _ _) _)
     have F3:Hid (Box W3 w.heap.size [I6 0,I6 0]):=dD<|by rw[<-hW3];exact F2.grew (show Below _ _ _ from bD (bR _ _) _)
     rw[hW3];clear hW3 e0 e1 e2 e3 e4 e5 e6 p0;have f0:=F3.c 0 rfl;have f1:=F3.c 1 rfl;have ff:=F3.f;have RB:Hid (Box ((W3.setCell ⟨w.heap.size,0,none⟩ (I6 2)).setCell ⟨w.heap.size,1,none⟩ (I6 ((j+1:Nat):Int))) w.heap.size [I6 2,I6 ((j+1:Nat):Int)]):=dD<|(F3.set 0 _).set 1 _
     have RG:Hid (zc w ((W3.setCell ⟨w.heap.size,0,none⟩ (I6 2)).setCell ⟨w.heap.size,1,none⟩ (I6 ((j+1:Nat):Int)))):=dD<|zC (zC G3 (by simp) _) (by simp) _
     go_wp2;refine bodyPost_ret (zT (vs:=[I6 2,I6 ((j+1:Nat):Int)]) rfl _ rfl RB underlying167 rfl zlT) rfl ⟨?_,RG⟩;rw[HR.out]
    have hcd:decide (q.fr<b.tz)=false:=by simpa using hc
    have HC:Hid (¬q.fr<b.tz):=hc;have hx0:=P2.gw 0 rfl
    have hx1:=P2.gw 1 rfl
    have hx2:=P2.gw 2 rfl
    have hx3:=P2.gw 3 rfl
    have hx4:=P2.gw 4 rfl
    have hx5:=P2.gw 5 rfl
    have hx6:=P2.gw 6 rfl
    have hy0:∀y:zR W2,y.world.cell? (ad.add (j*7))=some (I6 b.fr):=fun y=>(hl _ (G2.trans y.grew)).1
    have hy1:∀y:zR W2,y.world.cell? { block:=(ad.add (j*7)).block,off:=(ad.add (j*7)).off+1 }=some (I6 b.tz):=fun y=>(hl _ (G2.trans y.grew)).2.1
    have hy2:∀y:zR W2,y.world.cell? { block:=(ad.add (j*7)).block,off:=(ad.add (j*7)).off+2 }=some (.bool b.rd):=fun y=>(hl _ (G2.trans y.grew)).2.2.1
    have hy3:∀y:zR W2,y.world.cell? { block:=(ad.add (j*7)).block,off:=(ad.add (j*7)).off+3 }=some (.bool b.wr):=fun y=>(hl _ (G2.trans y.grew)).2.2.2.1
    have hy4:∀y:zR W2,y.world.cell? { block:=(ad.add (j*7)).block,off:=(ad.add (j*7)).off+4 }=some (.bool b.sh):=fun y=>(hl _ (G2.trans y.grew)).2.2.2.2.1
    have hy5:∀y:zR W2,y.world.cell? { block:=(ad.add (j*7)).block,off:=(ad.add (j*7)).off+5 }=some (I6 b.file):=fun y=>(hl _ (G2.trans y.grew)).2.2.2.2.2.1
    have hy6:∀y:zR W2,y.world.cell? { block:=(ad.add (j*7)).block,off:=(ad.add (j*7)).off+6 }=some (I6 b.base):=fun y=>(hl _ (G2.trans y.grew)).2.2.2.2.2.2
    have hne:Nonempty (zR W2):=⟨⟨_,zc.refl _⟩⟩;have HSL:Hid (∀W,zc w W->zr arE W (.slice (some (ad.add (j*7))) 2 (c - j)) [b,q]):=fun W hW=>zkp (HV.grew hW) HB HQ.out
    have hsl:=fun W=>zgN (w:=W) (ad:=ad) (n:=n) (c:=c) (j:=j) (by omega)
    obtain⟨M,HM⟩:∃M,Hid ((Zj (zN [b,q])).length=M):=⟨_,rfl⟩;have HTG:Hid (decide (M<2)=goB q b):=dD<|by rw[<-HM.out];exact zk7 HBK HOK (by have:=HC.out;omega)
    have HF2:Hid (b.tz<=q.fr):=dD<|by have:=HC.out;omega
    clear hl;obtain⟨O2,HO2⟩:∃O2,Hid (zy (tab (zN [b,q]))=O2):=⟨_,rfl⟩;refine Zh [(19,⟨fun v=>v= .agg O2.toArray,fun _ _=>True⟩),(20,⟨fun v=>∃xa xc,v= .slice xa M xc,fun _ _=>True⟩)] qu (by kernel_rfl) ?_ ?_ ?_
    ·intro x hx
     simp at hx
     rcases hx with rfl|rfl
     ·exact⟨_,rfl⟩
     exact⟨.slice none M 0,none,0,rfl⟩
    ·intro x hx
     simp at hx
     rcases hx with rfl|rfl
     ·exact fun _ _ _ _ h=>h
     exact fun _ _ _ _ h=>h
    iterate 19 (refine zp rfl rfl rfl (fun K hK=>?_);go_big_quiet_op;refine hK _ ?_;clear hK)
    refine zV rfl rfl (fun w' hg hF=>?_) (fun v1 hv=>?_)
    ·refine zP.call [.slice (some (ad.add (j*7))) 2 (c - j)] rfl func41 rfl rfl rfl ?_;refine(h1.out b q _ w' (HSL w' (G2.trans hg)) HBK HOK HF2).mono ?_;rintro e w'' ⟨rfl,hg2⟩;exact⟨_,rfl,hg2,by rw[HO2.out],trivial⟩
    subst hv;simp only[Act.put,sB,sS,sZ];refine zV rfl rfl (fun w' hg hF=>?_) (fun v1 hv=>?_)
    ·refine zP.call [.agg O2.toArray] rfl func145 rfl rfl rfl ?_;rw[<-HO2.out];refine(h2.out b q w' HBK HOK HF2).mono ?_;rintro e w'' ⟨⟨xa,xc,rfl⟩,hg2⟩;exact⟨_,rfl,hg2,⟨xa,xc,by rw[HM.out]⟩,trivial⟩
    obtain⟨xa2,xc2,rfl⟩:=hv;simp only[Act.put,sB,sS,sZ];have hmz:decide ((M:Int)<2)=goB q b:=by rw[<-HTG.out];exact decide_eq_decide.2 (by omega)
    iterate 4 (refine zp rfl rfl rfl (fun K hK=>?_);go_big_quiet_op;refine hK _ ?_;clear hK)
    refine je fun W3 hg1 hF=>?_
    have G3:=dD (G2.trans hg1);have F3:=dD (F2.grew hg1);clear hmz hsl hg1 hF hx0 hx1 hx2 hx3 hx4 hx5 hx6 hy0 hy1 hy2 hy3 hy4 hy5 hy6 hne
    cases hgb:goB q b with
    | true=>
     have HR:Hid (ANS=(2,((j+1:Nat):Int))):=zbq IW HB HQ HZ (.inr hgb);clear hgb;have f0:=F3.c 0 rfl;have f1:=F3.c 1 rfl;have ff:=F3.f;have RB:Hid (Box ((W3.setCell ⟨w.heap.size,0,none⟩ (I6 2)).setCell ⟨w.heap.size,1,none⟩ (I6 ((j+1:Nat):Int))) w.heap.size [I6 2,I6 ((j+1:Nat):Int)]):=show Box _ _ _ from(F3.set 0 _).set 1 _
     have RG:Hid (zc w ((W3.setCell ⟨w.heap.size,0,none⟩ (I6 2)).setCell ⟨w.heap.size,1,none⟩ (I6 ((j+1:Nat):Int)))):=dD<|zC (zC G3 (by simp) _) (by simp) _
     go_wp2;refine bodyPost_ret (zT (vs:=[I6 2,I6 ((j+1:Nat):Int)]) rfl _ rfl RB underlying167 rfl zlT) rfl ⟨?_,RG⟩;rw[HR.out]
    | false=>
     have HNX:Hid (JG (j0 l (j+1+1)) (l.drop (j+1+1)) (j+1+1)=ANS):=zf1 IW HB HQ HZ HC hgb;clear hgb;go_wp2
     go_roundg (n -(j+1+1))
     case measure=>omega
     exact⟨j+1+1,by omega,by omega,by go_num,G3,F3,HNX,OW'⟩
  have HR:Hid (ANS=(arW q,(kk:Int))):=zhy IW HQ hz;have hzb:(arW q != 0)=true:=by simp[hz]
  clear hz;have f0:=F2.c 0 rfl;have f1:=F2.c 1 rfl;have ff:=F2.f;have RB:Hid (Box ((W2.setCell ⟨w.heap.size,0,none⟩ (I6 (arW q))).setCell ⟨w.heap.size,1,none⟩ (I6 (kk:Int))) w.heap.size [I6 (arW q),I6 (kk:Int)]):=dD<|(F2.set 0 _).set 1 _
  have RG:Hid (zc w ((W2.setCell ⟨w.heap.size,0,none⟩ (I6 (arW q))).setCell ⟨w.heap.size,1,none⟩ (I6 (kk:Int)))):=dD<|zC (zC G2 (by simp) _) (by simp) _
  go_wp2;refine bodyPost_ret (zT (vs:=[I6 (arW q),I6 (kk:Int)]) rfl _ rfl RB underlying167 rfl zlT) rfl ⟨?_,RG⟩;rw[HR.out]
 have hltz:¬(kk:Int)< (n:Int):=by omega
 have:kk=n:=by omega
 subst this;have HR:Hid (ANS=(0,0)):=HEND'.out _ IW.out;have f0:=FW.c 0 rfl;have f1:=FW.c 1 rfl;have ff:=FW.f;have RB:Hid (Box ((wr.setCell ⟨w.heap.size,0,none⟩ (I6 0)).setCell ⟨w.heap.size,1,none⟩ (I6 0)) w.heap.size [I6 0,I6 0]):=show Box _ _ _ from(FW.set 0 _).set 1 _
 have RG:Hid (zc w ((wr.setCell ⟨w.heap.size,0,none⟩ (I6 0)).setCell ⟨w.heap.size,1,none⟩ (I6 0))):=dD<|zC (zC BW (by simp) _) (by simp) _
 go_wp2;refine bodyPost_ret (zT (vs:=[I6 0,I6 0]) rfl _ rfl RB underlying167 rfl zlT) rfl ⟨?_,RG⟩;rw[HR.out]
end
end Go.Proofs.YtangilolcekceaaGreat
