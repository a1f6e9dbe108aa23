import Derived.Test.YtdgccecjbpgmfaaGreatPC3
import Derived.Deep.DeepCutAuto
import Derived.ChangeKeysEq
namespace Go.Proofs.YtdgccecjbpgmfaaGreat
set_option maxRecDepth 100000
set_option maxHeartbeats 4000000
section
open Go.RowKit
def zk8 (w0:World) (hi b:Nat) (w:World) (L:List Int) (V:MaV) (m:Ma) (vt:Sli) (T:List (Nat->En)) (fi ix j:Nat) (w':World):Prop:=∃(q:Fr) (p:Pg) (u d:Bool) (s:Sli),m.fs[j]? =some q/\q.r=0/\(∀c∈m.ca,¬(c.file=(fi:Int)/\c.idx=(ix:Int)))/\MkE w0 hi b w L { V with ca:=s } { m with fs:=m.fs.set j ⟨p,1,u,d,fi,ix⟩,ca:=j6 m.ca ⟨fi,ix,j⟩ } vt T w'
theorem zgV {w0:World} {hi:Nat} {b:Nat} {vl:Sli} {L:List Int} {V:MaV} {m:Ma} {vt:Sli} {T:List (Nat->En)} {w:World} (fi ix:Nat) (f:Fl) (bk:Int) (h:Mk w0 hi w b vl L V m vt T) (hca:∀c∈m.ca,0<=c.file/\c.file<=1000/\0<=c.idx/\c.idx<=1000/\0<=c.fr/\c.fr<m.fs.length) (hf:m.fl[fi]? =some f) (hbk:f.bl[ix]? =some bk) (hix:ix<=1000) (hfi:fi<=1000) (hcn:m.ca.length<=1000):
  Calls Tryz.prog 134 #[.pointer (some ⟨b,0,none⟩),.int .i64 (fi:Int),.int .i64 (ix:Int)] w fun e w'=>(e= .returned (.int .i64 (-1))/\MkE w0 hi b w L V m vt T w')\/(∃c,c∈m.ca/\c.file=(fi:Int)/\c.idx=(ix:Int)/\e= .returned (.int .i64 c.fr)/\MkE w0 hi b w L V m vt T w')\/∃j:Nat,e= .returned (.int .i64 (j:Int))/\zk8 w0 hi b w L V m vt T fi ix j w':=by
 have HM:Hid (Mk w0 hi w b vl L V m vt T):=h;have HCA:Hid (∀c∈m.ca,0<=c.file/\c.file<=1000/\0<=c.idx/\c.idx<=1000/\0<=c.fr/\c.fr<m.fs.length):=hca;have HF:Hid (m.fl[fi]? =some f):=hf;have HBK:Hid (f.bl[ix]? =some bk):=hbk;obtain⟨n,HN⟩:∃n,Hid (V.ca.n=n):=⟨_,rfl⟩;have HLN:Hid (m.ca.length=n):=show _=_ by rw[<-HN.out,h.rows.ca.n]
 have hn:n<=1000:=by rw[<-HLN.out];exact hcn
 have HCC:Hid (n<=V.ca.c):=show _<=_ by
  have:=h.rows.ca.cap;rw[HN.out]at this;exact this
 obtain⟨caa,HAA⟩:∃a,Hid (V.ca.a=a):=⟨_,rfl⟩;have HCR:Hid (∀W,(∃vl' L' m',m'.ca=m.ca/\Mk w0 hi W b vl' L' V m' vt T)->zaX W caa m.ca):=show∀W,_ from fun W ⟨_,_,m',e,k⟩=>by
  have:=k.rows.at.cas;rw[e,HAA.out]at this;exact this
 clear h hca hf hbk hcn
 go_enter Tryz.func134,Tryz.ntmps134
 have x10:=HM.out.box.box.c 10 rfl;rw[HN.out,HAA.out]at x10;go_wp2;clear x10
 go_loopg [20] n (fun gg s20 wr=>∃kk:Nat,kk<=n/\n - kk<=gg/\s20= .int .i64 kk/\Hid (zc w wr)/\Hid (∀(j:Nat) c,j<kk->m.ca[j]? =some c->¬(c.file=(fi:Int)/\c.idx=(ix:Int))))
 case atStart=>exact⟨0,nZ _,by omega,rfl,zc.refl _,fun j c hj=>absurd hj (nL _)⟩
 obtain⟨kk,hkk,hgg,rfl,BW,OW⟩:=hrel
 by_cases hlt:kk<n
 ·have hltz:(kk:Int)< (n:Int):=by omega
  obtain⟨c,HC⟩:∃c,Hid (m.ca[kk]? =some c):=⟨_,gE (by rw[HLN.out];exact hlt)⟩
  obtain⟨adc,rfl,hl⟩:=HCR.out wr ⟨vl,L,m,rfl,HM.out.grew BW.out⟩ kk c HC.out;obtain⟨d0,d1,d2⟩:=hl wr (zc.refl _);clear hl;go_upto_region 4 with fail;obtain⟨W1,hW1⟩:∃W1,wr.alloc (.cells #[.int .i64 c.file,.int .i64 c.idx,.int .i64 c.fr] 124)=W1:=⟨_,rfl⟩;have HG1:=gT hW1 BW
  have C1:=xA hW1
  rw[hW1];clear hW1 d0 d1 d2;obtain⟨c0,c1,c2⟩:=C1.out.c3;have HNX:Hid (¬(c.file=(fi:Int)/\c.idx=(ix:Int))->∀(j:Nat) c,j<kk+1->m.ca[j]? =some c->¬(c.file=(fi:Int)/\c.idx=(ix:Int))):=show _->_ from fun h0 j c' hj hc'=>by
   by_cases e:j=kk
   ·subst e;rw[HC.out]at hc';cases hc';exact h0
   exact OW.out j c' (by omega) hc'
  by_cases h1:c.file=(fi:Int)
  ·have h1e:(c.file ==(fi:Int))=true:=by simp[h1]
   by_cases h2:c.idx=(ix:Int)
   ·have h2e:(c.idx ==(ix:Int))=true:=by simp[h2]
    have HE:Hid (c.file=(fi:Int)/\c.idx=(ix:Int)):=show _/\_ from⟨h1,h2⟩
    clear h1 h2;go_wp2;go_ret;exact .inr (.inl ⟨c,mG HC.out,HE.out.1,HE.out.2,rfl,vl,L,HM.out.grew HG1.out,ZC.refl L,zn.grew HG1.out⟩)
   have h2e:(c.idx ==(ix:Int))=false:=by simp[h2]
   have OW':Hid (∀(j:Nat) c,j<kk+1->m.ca[j]? =some c->¬(c.file=(fi:Int)/\c.idx=(ix:Int))):=HNX.out (fun h=>h2 h.2)
   clear h1 h2;go_wp2
   go_roundg (n -(kk+1))
   case measure=>omega
   exact⟨kk+1,by omega,by omega,by go_num,HG1.out,OW'.out⟩
  have h1e:(c.file ==(fi:Int))=false:=by simp[h1]
  have OW':Hid (∀(j:Nat) c,j<kk+1->m.ca[j]? =some c->¬(c.file=(fi:Int)/\c.idx=(ix:Int))):=HNX.out (fun h=>h1 h.1)
  clear h1;go_wp2
  go_roundg (n -(kk+1))
  case measure=>omega
  exact⟨kk+1,by omega,by omega,by go_num,HG1.out,OW'.out⟩
 have hltz:¬(kk:Int)< (n:Int):=by omega
 have hke:kk=n:=by omega
 have HNO:Hid (∀c∈m.ca,¬(c.file=(fi:Int)/\c.idx=(ix:Int))):=show∀c,_ from fun c hc=>by
  obtain⟨j,hj⟩:=List.getElem?_of_mem hc;exact OW.out j c (by rw[hke,<-HLN.out];exact(gS.1 hj).1) hj
 clear hke;have MW:=dD (HM.out.grew BW.out);have hbx:=MW.out.box.box;have x1:=hbx.c 1 rfl;have x2:=hbx.c 2 rfl;have x3:=hbx.c 3 rfl;have x4:=hbx.c 4 rfl;have x5:=hbx.c 5 rfl;have x6:=hbx.c 6 rfl;have x7:=hbx.c 7 rfl;have x8:=hbx.c 8 rfl;have x9:=hbx.c 9 rfl;have x10:=hbx.c 10 rfl;have x11:=hbx.c 11 rfl;clear hbx;have hct:=zfm V m fi ix f bk wr MW.out.rows.at (fun c hc _=>(HCA.out c hc).2.2.2.2) HF.out HBK.out hix
 go_wp2_with fail;refine hct.mono ?_;clear hct x1 x2 x3 x4 x5 x6 x7 x8 x9 x10 x11;rintro e W1 ⟨rfl,hl8,g1⟩;have G1:=dD (BW.out.trans g1);clear g1
 generalize zel m fi ix=q at hl8
 obtain⟨p0,p1,p2,p3,p4,p5,p6,p7,rfl⟩:=ziZ q hl8;clear hl8;simp only[pgc,mP,List.map_nil];go_upto_region 8 with fail;obtain⟨pp,HPP⟩:∃pp,Hid (W1.heap.size=pp):=⟨_,rfl⟩;obtain⟨W2,hW2⟩:∃W2,W1.alloc (.cells #[.int .u8 p0,.int .u8 p1,.int .u8 p2,.int .u8 p3,.int .u8 p4,.int .u8 p5,.int .u8 p6,.int .u8 p7] 67)=W2:=⟨_,rfl⟩;have G2:=gT hW2 G1
 have P2:Hid (zp W2 pp 67 (pgc [p0,p1,p2,p3,p4,p5,p6,p7])):=show zp _ _ _ _ by rw[<-hW2];exact zp.top _ (pgc [p0,p1,p2,p3,p4,p5,p6,p7]) _ HPP.out.symm
 have HHP:Hid (hi<=pp):=show _<=_ by rw[<-HPP.out];exact(HM.out.grew G1.out).rows.hw
 have HWP:Hid (w.heap.size<=pp):=show _<=_ by rw[<-HPP.out];exact bS G1.out
 have HBP:Hid (b≠pp):=show _≠_ by have:=HM.out.box.box.lt;have:=HWP.out;omega
 have M2:=dD (HM.out.grew G2.out);have K2:Hid (zn hi w W2):=zn.grew G2.out;rw[hW2,HPP.out];clear hW2 MW;have hpk:=qk 2 M2.out;go_wp2_with fail;refine hpk.mono ?_;clear hpk;rintro e W3 ⟨vl3,L3,y,rfl,mk3,gr3,sz3,y0,y1,yn,ll⟩;have M3:Hid (Mk w0 hi W3 b vl3 L3 V m vt T):=mk3;have K3:=dD (K2.out.trans (M2.out.keeps gr3));have P3:Hid (zp W3 pp 67 (pgc [p0,p1,p2,p3,p4,p5,p6,p7])):=P2.out.beside gr3 (fun g e=>by cases e;exact fun h=>HBP.out h.symm)
 have L3':Hid (ZC L L3):=ll;clear mk3 gr3 sz3 y0 y1 yn ll P2 K2 M2
 go_upto_if 46 with fail
 go_cut [10,11] (fun s10 s11 wx=>∃(dd:Bool) (q:List Int) (vl':Sli) (L':List Int),s10= .bool dd/\Hid (Mk w0 hi wx b vl' L' V m vt T)/\Hid (zp wx pp 67 (pgc q))/\Hid (q.length=8)/\Hid (zn hi w wx)/\Hid (ZC L L'))
 case first=>
  by_cases hy:y=1
  ·have hye:(y == 1)=true:=by simp[hy]
   clear hy;have hpg:=za8 M3.out;go_wp2_with fail;refine hpg.mono ?_;clear hpg;rintro e W4 ⟨vl4,L4,q4,rfl,ql4,mk4,gr4,ll4⟩;have M4:Hid (Mk w0 hi W4 b vl4 L4 V m vt T):=mk4;have K4:=dD (K3.out.trans (M3.out.keeps gr4));have P4:Hid (zp W4 pp 67 (pgc [p0,p1,p2,p3,p4,p5,p6,p7])):=P3.out.beside gr4 (fun g e=>by cases e;exact fun h=>HBP.out h.symm)
   have L4':=dD (L3'.out.trans ll4);have QL:Hid (q4.length=8):=ql4;clear mk4 gr4 ll4 ql4 P3 K3 M3
   go_wp2_with (refine qD rfl 67 (.tmp 9) (.tmp 48) rfl pp rfl (pgc q4) rfl P4.out (by simp[pgc,QL.out]) zlu (Qx _) ?_)
   intro W5 hb5 hg5 _;have M5:Hid (Mk w0 hi W5 b vl4 L4 V m vt T):=M4.out.page P4.out HHP.out hg5;have K5:Hid (zn hi w W5):=K4.out.own hg5 HWP.out;have P5:Hid (zp W5 pp 67 (pgc q4)):=hb5;clear hb5 hg5 M4 K4 P4;go_wp2
   go_loopg [49] 8 (fun gg s49 wr=>∃(i:Nat) (q:List Int),i<=8/\8 - i<=gg/\s49= .int .i64 i/\Hid (Mk w0 hi wr b vl4 L4 V m vt T)/\Hid (zp wr pp 67 (pgc q))/\Hid (q.length=8)/\Hid (zn hi w wr))
   case atStart=>exact⟨0,q4,nZ _,by omega,rfl,M5.out,P5.out,QL.out,K5.out⟩
   obtain⟨i,q,hi8,hg3,rfl,MW5,PW5,QW5,KW5⟩:=hrel;clear M5 P5 K5 QL
   by_cases hlt3:i<8
   ·have hltz3:(i:Int)<8:=by omega
    obtain⟨z,hz⟩:∃z,q[i]? =some z:=⟨_,gE (by rw[QW5.out];exact hlt3)⟩
    have z0:=PW5.out.box.c i (zfL hz);have zf:=PW5.out.box.f;have hfl:=MW5.out.rows.at.fl;have x8:=MW5.out.box.box.c 8 rfl;obtain⟨_,_,hfe,_,hfr⟩:=qN.rows hfl;have hrw:Zb wr V.fl.a m.fl:=by
     simp only[vJ]at hfe;rw[hfe.1];exact hfr
    have hfn:V.fl.n=m.fl.length:=by
     simp only[vJ]at hfe;exact hfe.2.1
    obtain⟨ad,hva,ba,bc,_,hlf⟩:=hrw fi f HF.out;obtain⟨d0,-⟩:=hlf wr (zc.refl _);obtain⟨fln,hfln⟩:∃fln,V.fl.n=fln:=⟨_,rfl⟩;have hfz:(fi:Int)< (fln:Int):=by
     have:=(gS.1 HF.out).1;omega
    rw[hva,hfln]at x8;clear hfl hfe hfr hrw hfn hva hlf hfln hz
    by_cases hc:f.size<=8*(ix:Int)+(i:Int)
    ·have hcd:decide (f.size<=8*(ix:Int)+(i:Int))=true:=by simpa using hc
     have HG6:Hid (wr.grownBy (wr.setCell ⟨pp,i,none⟩ (.int .u8 0)) (some pp)):=⟨rfl,rfl,rfl,by simp[World.setCell],fun k _ hk=>Below.heap_setCell _ _ _ _ (fun e=>hk (by rw[e]))⟩
     have P6:Hid (zp (wr.setCell ⟨pp,i,none⟩ (.int .u8 0)) pp 67 (pgc (q.set i 0))):=show zp _ _ _ _ by rw[zcZ];exact PW5.out.set i _
     have M6:Hid (Mk w0 hi (wr.setCell ⟨pp,i,none⟩ (.int .u8 0)) b vl4 L4 V m vt T):=MW5.out.page PW5.out HHP.out HG6.out;have K6:Hid (zn hi w (wr.setCell ⟨pp,i,none⟩ (.int .u8 0))):=KW5.out.own HG6.out HWP.out;go_wp2
     go_roundg (8 -(i+1))
     case measure=>omega
     exact⟨i+1,q.set i 0,by omega,by omega,by go_num,M6.out,P6.out,(show(q.set i 0).length=8 by rw[List.length_set];exact QW5.out),K6.out⟩
    have hcd:decide (f.size<=8*(ix:Int)+(i:Int))=false:=by simpa using hc
    go_wp2
    go_roundg (8 -(i+1))
    case measure=>omega
    exact⟨i+1,q,by omega,by omega,by go_num,MW5.out,PW5.out,QW5.out,KW5.out⟩
   have hltz3:¬(i:Int)<8:=by omega
   go_wp2
   go_meet
   exact⟨true,q,vl4,L4,rfl,MW5.out,PW5.out,QW5.out,KW5.out,L4'.out⟩
  have hye:(y == 1)=false:=by simp[hy]
  clear hy;go_wp2
  go_meet
  exact⟨false,[p0,p1,p2,p3,p4,p5,p6,p7],vl3,L3,rfl,M3.out,P3.out,rfl,K3.out,L3'.out⟩
 obtain⟨dd,q,vl3',L3x,rfl,M3',P3',Q3',K3',L3''⟩:=hcut;clear M3 P3 K3 L3';obtain⟨p0,p1,p2,p3,p4,p5,p6,p7,rfl⟩:=ziZ q Q3'.out;go_upto_region 16 with fail;obtain⟨I,hI⟩:∃I:World->Prop,I=fun u=>zp u pp 67 (pgc [p0,p1,p2,p3,p4,p5,p6,p7]):=⟨_,rfl⟩
 have HI:Hid (∀u,I u↔zp u pp 67 (pgc [p0,p1,p2,p3,p4,p5,p6,p7])):=show∀u,_ from fun u=>by rw[hI]
 clear hI;have hI0:I wc.drew:=(HI.out _).2 (P3'.out.grew (gW _))
 have hF0:MkE w0 hi b w L V m vt T wc.drew:=⟨vl3',L3x,M3'.out.grew (gW _),L3''.out,K3'.out.trans (zn.grew (gW _))⟩
 have hf0:∀y:zr I,y.world.cell? ⟨pp,0,none⟩=some (.int .u8 p0):=fun y=>((HI.out _).1 y.holds).box.c 0 rfl
 have hf1:∀y:zr I,y.world.cell? ⟨pp,1,none⟩=some (.int .u8 p1):=fun y=>((HI.out _).1 y.holds).box.c 1 rfl
 have hf2:∀y:zr I,y.world.cell? ⟨pp,2,none⟩=some (.int .u8 p2):=fun y=>((HI.out _).1 y.holds).box.c 2 rfl
 have hf3:∀y:zr I,y.world.cell? ⟨pp,3,none⟩=some (.int .u8 p3):=fun y=>((HI.out _).1 y.holds).box.c 3 rfl
 have hf4:∀y:zr I,y.world.cell? ⟨pp,4,none⟩=some (.int .u8 p4):=fun y=>((HI.out _).1 y.holds).box.c 4 rfl
 have hf5:∀y:zr I,y.world.cell? ⟨pp,5,none⟩=some (.int .u8 p5):=fun y=>((HI.out _).1 y.holds).box.c 5 rfl
 have hf6:∀y:zr I,y.world.cell? ⟨pp,6,none⟩=some (.int .u8 p6):=fun y=>((HI.out _).1 y.holds).box.c 6 rfl
 have hf7:∀y:zr I,y.world.cell? ⟨pp,7,none⟩=some (.int .u8 p7):=fun y=>((HI.out _).1 y.holds).box.c 7 rfl
 have hne:Nonempty (zr I):=⟨⟨_,hI0⟩⟩;refine zR (I:=I) 10 [(3,fun v=>∃x:Int,v= .int .i64 x),(9,fun v=>v= .int .i64 (-1)\/∃j:Nat,v= .int .i64 (j:Int))] (fun u=>MkE w0 hi b w L V m vt T u) hI0 hF0 qy (by kernel_rfl) rfl rfl (by decide) ?hS (by kernel_rfl) ?_
 case hS=>
  intro x hx;simp only[mC,nM,or_false]at hx
  rcases hx with rfl | rfl
  ·exact⟨_,0,rfl⟩
  exact⟨_,.inl rfl⟩
 simp only[List.take,List.drop];iterate 3 (refine zi rfl rfl rfl (fun K hK=>?_);go_big_quiet_op;refine hK _ ?_;clear hK K)
 refine qA rfl rfl (fun _ u=>MkE w0 hi b w L V m vt T u) (fun w' hI' hF'=>?_) (fun v1 hv=>?_)
 ·obtain⟨vl',L',mk',ll',kp'⟩:=hF';refine zL.call [.pointer (some ⟨b,0,none⟩),.int .i64 2] rfl Tryz.func43 rfl rfl rfl ?_;refine(qk 2 mk').mono ?_;rintro e w'' ⟨vl2,L2,x,rfl,mk2,gr2,_,_,_,_,ll2⟩;exact⟨_,rfl,(HI.out _).2 (((HI.out _).1 hI').beside gr2 (fun g e=>by cases e;exact fun h=>HBP.out h.symm)),⟨x,rfl⟩,vl2,L2,mk2,ll'.trans ll2,kp'.trans (mk'.keeps gr2)⟩
 obtain⟨x,rfl⟩:=hv;simp only[Act.put,sB,sS,sZ];iterate 5 (refine zi rfl rfl rfl (fun K hK=>?_);go_big_quiet_op;refine hK _ ?_;clear hK K)
 refine qA rfl rfl (fun v u=>(v= .int .i64 (-1)/\MkE w0 hi b w L V m vt T u)\/∃(j:Nat) (q:Fr),v= .int .i64 (j:Int)/\m.fs[j]? =some q/\q.r=0/\MkE w0 hi b w L V { m with fs:=m.fs.set j ⟨⟨p0,p1,p2,p3,p4,p5,p6,p7⟩,1,x == 1,dd,(fi:Int),(ix:Int)⟩ } vt T u) (fun w' hI' hF'=>?_) (fun v1 hv=>?_)
 ·obtain⟨vl',L',mk',ll',kp'⟩:=hF';refine zL.call [.pointer (some ⟨b,0,none⟩),.agg (frv ⟨⟨p0,p1,p2,p3,p4,p5,p6,p7⟩,1,x == 1,dd,(fi:Int),(ix:Int)⟩).toArray] rfl Tryz.func135 rfl rfl rfl ?_;refine(zeb ⟨⟨p0,p1,p2,p3,p4,p5,p6,p7⟩,1,x == 1,dd,(fi:Int),(ix:Int)⟩ mk').mono ?_;rintro e w'' (⟨rfl,hE⟩ | ⟨j,q,rfl,hq,hr,hE⟩)
  ·have hkp:=hE;obtain⟨_,_,_,_,kq⟩:=hkp;exact⟨_,rfl,(HI.out _).2 (kq.1 pp _ _ ((HI.out _).1 hI') (zfS HHP.out)),.inl rfl,.inl ⟨rfl,hE.trans ll' kp'⟩⟩
  have hkp:=hE;obtain⟨_,_,_,_,kq⟩:=hkp;exact⟨_,rfl,(HI.out _).2 (kq.1 pp _ _ ((HI.out _).1 hI') (zfS HHP.out)),.inr ⟨j,rfl⟩,.inr ⟨j,q,rfl,hq,hr,hE.trans ll' kp'⟩⟩
 rcases hv with rfl | ⟨j,rfl⟩
 ·simp only[Act.put,sB,sS,sZ];refine ja fun W6 hI6 hF6=>?_
  have H6:Hid (MkE w0 hi b w L V m vt T W6):=show MkE _ _ _ _ _ _ _ _ _ _ by
   rcases hF6 with⟨_,h⟩ | ⟨j,q,e,_⟩
   ·exact h
   simp only[Value.int.injEq,true_and]at e;omega
  clear hF6 hI6 hI0 hF0 hne hf0 hf1 hf2 hf3 hf4 hf5 hf6 hf7;go_wp2;go_ret;exact .inl ⟨rfl,H6.out⟩
 simp only[Act.put,sB,sS,sZ];refine ja fun W6 hI6 hF6=>?_
 obtain⟨q,hq,hr,vl6,L6,mk6,ll6,kp6⟩:∃q:Fr,m.fs[j]? =some q/\q.r=0/\MkE w0 hi b w L V { m with fs:=m.fs.set j ⟨⟨p0,p1,p2,p3,p4,p5,p6,p7⟩,1,x == 1,dd,(fi:Int),(ix:Int)⟩ } vt T W6:=by
  rcases hF6 with⟨e,_⟩ | ⟨j',q,e,hq,hr,hE⟩
  ·simp only[Value.int.injEq,true_and]at e;omega
  simp only[Value.int.injEq,true_and]at e;obtain rfl:j=j':=by omega
  exact⟨q,hq,hr,hE⟩
 have HQ:Hid (m.fs[j]? =some q):=hq;have HR0:Hid (q.r=0):=hr;have M6:Hid (Mk w0 hi W6 b vl6 L6 V { m with fs:=m.fs.set j ⟨⟨p0,p1,p2,p3,p4,p5,p6,p7⟩,1,x == 1,dd,(fi:Int),(ix:Int)⟩ } vt T):=mk6;have K6:Hid (zn hi w W6):=kp6;have LL6:Hid (ZC L L6):=ll6;clear hF6 hI6 hI0 hF0 hne HI hq hr mk6 ll6 kp6 hf0 hf1 hf2 hf3 hf4 hf5 hf6 hf7;have hj0:¬(j:Int)<0:=by omega
 go_wp2
 go_loopg [13] n (fun gg s13 wr=>∃at_:Nat,at_<=n/\n - at_<=gg/\s13= .int .i64 at_/\Hid (Mk w0 hi wr b vl6 L6 V { m with fs:=m.fs.set j ⟨⟨p0,p1,p2,p3,p4,p5,p6,p7⟩,1,x == 1,dd,(fi:Int),(ix:Int)⟩ } vt T)/\Hid (zn hi w wr)/\Hid (∀(i:Nat) c,i<at_->m.ca[i]? =some c->decide (jM c<jM ⟨(fi:Int),(ix:Int),(j:Int)⟩)=true))
 case atStart=>exact⟨0,nZ _,by omega,rfl,M6.out,K6.out,fun i c hi=>absurd hi (nL _)⟩
 obtain⟨at_,hat,hg2,rfl,MR,KR,OW2⟩:=hrel;clear M6 K6;have x10:=MR.out.box.box.c 10 rfl;rw[HN.out,HAA.out]at x10
 by_cases hlt2:at_<n
 ·have hltz2:(at_:Int)< (n:Int):=by omega
  obtain⟨c,HC⟩:∃c,Hid (m.ca[at_]? =some c):=⟨_,gE (by rw[HLN.out];exact hlt2)⟩
  obtain⟨adc,rfl,hl⟩:=HCR.out wr ⟨vl6,L6,{ m with fs:=m.fs.set j ⟨⟨p0,p1,p2,p3,p4,p5,p6,p7⟩,1,x == 1,dd,(fi:Int),(ix:Int)⟩ },rfl,MR.out⟩ at_ c HC.out;obtain⟨d0,d1,d2⟩:=hl wr (zc.refl _);obtain⟨b1,b2,b3,b4,-⟩:=HCA.out c (mG HC.out);clear hl d2
  by_cases hk:100*c.file+c.idx<100*(fi:Int)+(ix:Int)
  ·have hkd:decide (100*c.file+c.idx<100*(fi:Int)+(ix:Int))=true:=by simpa using hk
   have hgd:decide ((at_:Int)< (n:Int))=true:=by simpa using hltz2
   have OW3:Hid (∀(i:Nat) c,i<at_+1->m.ca[i]? =some c->decide (jM c<jM ⟨(fi:Int),(ix:Int),(j:Int)⟩)=true):=show∀i,_ from fun i c' hi' hc'=>by
    by_cases e:i=at_
    ·subst e;rw[HC.out]at hc';cases hc';exact hkd
    exact OW2.out i c' (by omega) hc'
   clear hk;go_upto_region 20 with fail;go_quiet (fail);go_wp2
   go_roundg (n -(at_+1))
   case measure=>omega
   exact⟨at_+1,by omega,by omega,by go_num,MR.out.grew (show Below _ _ _ from bD (bR _ _) _),KR.out.trans (zn.grew (show Below _ _ _ from bD (bR _ _) _)),OW3.out⟩
  have hkd:decide (100*c.file+c.idx<100*(fi:Int)+(ix:Int))=false:=by simpa using hk
  have hgd:decide ((at_:Int)< (n:Int))=true:=by simpa using hltz2
  have HST:Hid (∀x,m.ca[at_]? =some x->decide (jM x<jM ⟨(fi:Int),(ix:Int),(j:Int)⟩)=false):=show∀x,_ from fun x hx=>by
   rw[HC.out]at hx;cases hx;exact hkd
  clear hk;go_upto_region 20 with fail;go_quiet (fail);clear x10 d0 d1;have HSP:Hid (j6 m.ca ⟨(fi:Int),(ix:Int),(j:Int)⟩=m.ca.take at_++ [⟨(fi:Int),(ix:Int),(j:Int)⟩]++m.ca.drop at_):=show _=_ by
   obtain⟨e1,e2⟩:=zcS (p:=fun d=>decide (jM d<jM ⟨(fi:Int),(ix:Int),(j:Int)⟩)) (l:=m.ca) (k:=at_) OW2.out HST.out (by rw[HLN.out];exact hat)
   unfold j6;rw[e1,e2];simp
  obtain⟨Wq,hWq⟩:∃Wq,wr.drewN nq=Wq:=⟨_,rfl⟩;have Gq:Hid (zc wr Wq):=show zc _ _ by rw[<-hWq];exact(show Below _ _ _ from bD (bR _ _) _)
  rw[hWq];clear hWq;have MQ:=dD (MR.out.grew Gq.out);have KQ:=dD (KR.out.trans (zn.grew Gq.out));clear MR KR Gq
  try clear wr
  obtain⟨wr,rfl⟩:∃wr,wr=Wq:=⟨_,rfl⟩;go_upto_region 22 with fail;obtain⟨A,HA⟩:∃A,Hid (m.ca.take at_=A):=⟨_,rfl⟩;obtain⟨D2,HD⟩:∃D2,Hid (m.ca.drop at_=D2):=⟨_,rfl⟩;rw[HA.out,HD.out]at HSP;have HLA:Hid (A.length=at_):=show _=_ by rw[<-HA.out,List.length_take,HLN.out];omega
  have HLD:Hid (D2.length=n - at_):=show _=_ by rw[<-HD.out,List.length_drop,HLN.out]
  obtain⟨cn,HCN⟩:∃cn:Ca,Hid (cn=⟨(fi:Int),(ix:Int),(j:Int)⟩):=⟨_,rfl⟩;rw[<-HCN.out]at HSP;obtain⟨N,HNN⟩:∃N,Hid ((A++ [cn]++D2).length=N):=⟨_,rfl⟩;obtain⟨I,HI⟩:∃I:World->Prop,Hid (∀u,I u↔zc wr u):=⟨fun u=>zc wr u,fun _=>Iff.rfl⟩
  have hI0:I wr.drew:=(HI.out _).2 (gW _)
  have hne:Nonempty (zr I):=⟨⟨_,hI0⟩⟩;have hx10:∀y:zr I,y.world.cell? ⟨b,10,none⟩=some (.slice (some adc) n V.ca.c):=fun y=>by
   have:=(MQ.out.box.box.grew ((HI.out _).1 y.holds)).c 10 rfl;rw[HN.out,HAA.out]at this;exact this
  have HRO:Hid (zo qY wr (.slice (some adc) n V.ca.c) m.ca):=show zo _ _ _ _ by
   have:=MQ.out.rows.ca.at;rw[HN.out,HAA.out]at this;exact this
  have hup:=fun W=>zfH (w:=W) (a:=(some adc)) (n:=n) (c:=V.ca.c) (k:=at_) (nT hat HCC.out)
  have hfr:=fun W=>zfJ (w:=W) (a:=(some adc)) (n:=n) (c:=V.ca.c) (k:=at_) hat
  obtain⟨fa,hfa⟩:∃fa,(((some adc):Option Addr).map fun ad=>if V.ca.c=at_ then ad else ad.add (at_*3))=fa:=⟨_,rfl⟩
  have HRA:Hid (zo qY wr (.slice (some adc) at_ V.ca.c) A):=show zo _ _ _ _ by rw[<-HA.out];exact HRO.out.upto hat
  have HRD:Hid (zo qY wr (.slice fa (n - at_) (V.ca.c - at_)) D2):=show zo _ _ _ _ by rw[<-HD.out,<-hfa];exact HRO.out.from hat HCC.out
  rw[hfa]at hfr;clear hfa;obtain⟨nd,HND⟩:∃nd,Hid (n - at_=nd):=⟨_,rfl⟩;obtain⟨cd,HCD⟩:∃cd,Hid (V.ca.c - at_=cd):=⟨_,rfl⟩;rw[HND.out,HCD.out]at hfr HRD;refine qP (I:=I) 27 [(1,⟨fun v=>∃g,v= .slice (some ⟨g,0,none⟩) 0 0,fun v w'=>zb qY wr.heap.size w' v [],fun p q=>zc p q,fun _=>True⟩),(9,⟨fun v=>(∃a c,v= .slice a at_ c)/\(at_=0->∃g,v= .slice (some ⟨g,0,none⟩) 0 0),fun v w'=>zb qY wr.heap.size w' v A,fun p q=>zc p q,fun _=>True⟩),(14,⟨fun v=>∃g,v= .slice (some ⟨g,0,none⟩) 1 1,fun v w'=>zb qY wr.heap.size w' v [cn],fun p q=>zc p q,fun _=>True⟩),(15,⟨fun v=>∃a c,v= .slice a (at_+1) c,fun v w'=>zb qY wr.heap.size w' v (A++ [cn]),fun p q=>(∀u m,m.length<=at_\/m.length<=1->zb qY wr.heap.size p u m->zb qY wr.heap.size q u m),fun _=>True⟩),(23,⟨fun v=>∃a c,v= .slice a N c,fun v w'=>zb qY wr.heap.size w' v (A++ [cn]++D2),fun p q=>(∀u m,m.length<=at_+1->zb qY wr.heap.size p u m->zb qY wr.heap.size q u m),fun _=>True⟩)] hI0 qy (by kernel_rfl) rfl rfl (by decide) ?hS ?hp ?hpre ?hpr0 ?_
  case hS=>
   intro x hx;simp only[mC,nM,or_false]at hx
   rcases hx with rfl | rfl | rfl | rfl | rfl
   ·exact⟨_,0,rfl⟩
   ·by_cases h0:at_=0
    ·exact⟨.slice (some ⟨0,0,none⟩) 0 0,⟨some ⟨0,0,none⟩,0,by rw[h0]⟩,fun _=>⟨0,rfl⟩⟩
    exact⟨.slice none at_ 0,⟨_,_,rfl⟩,fun h=>absurd h h0⟩
   ·exact⟨_,0,rfl⟩
   ·exact⟨_,none,0,rfl⟩
   exact⟨_,none,0,rfl⟩
  case hp=>
   intro k s j t hk hj hjk hanc v p q hst hpo;have hk':=zN hk;have hj':=zN hj;clear hk hj;simp only[mC,pJ,nM,or_false]at hk' hj'
   rcases hk' with⟨rfl,rfl⟩ | ⟨rfl,rfl⟩ | ⟨rfl,rfl⟩ | ⟨rfl,rfl⟩ | ⟨rfl,rfl⟩
   ·rcases hj' with⟨rfl,rfl⟩ | ⟨rfl,rfl⟩ | ⟨rfl,rfl⟩ | ⟨rfl,rfl⟩ | ⟨rfl,rfl⟩
    ·exact absurd rfl hjk
    ·exact zb.grew hpo hst
    ·exact zb.grew hpo hst
    ·exact hst v [] (.inl (nZ _)) hpo
    exact hst v [] (nZ _) hpo
   ·rcases hj' with⟨rfl,rfl⟩ | ⟨rfl,rfl⟩ | ⟨rfl,rfl⟩ | ⟨rfl,rfl⟩ | ⟨rfl,rfl⟩
    ·exact zb.grew hpo hst
    ·exact absurd rfl hjk
    ·exact zb.grew hpo hst
    ·exact hst v A (.inl (by rw[HLA.out];exact nR _)) hpo
    exact hst v A (by rw[HLA.out];omega) hpo
   ·rcases hj' with⟨rfl,rfl⟩ | ⟨rfl,rfl⟩ | ⟨rfl,rfl⟩ | ⟨rfl,rfl⟩ | ⟨rfl,rfl⟩
    ·exact zb.grew hpo hst
    ·exact zb.grew hpo hst
    ·exact absurd rfl hjk
    ·exact hst v [cn] (.inr (nR _)) hpo
    exact hst v [cn] (by simp) hpo
   ·rcases hj' with⟨rfl,rfl⟩ | ⟨rfl,rfl⟩ | ⟨rfl,rfl⟩ | ⟨rfl,rfl⟩ | ⟨rfl,rfl⟩
    ·exact zb.grew hpo hst
    ·exact zb.grew hpo hst
    ·exact zb.grew hpo hst
    ·exact absurd rfl hjk
    exact hst v (A++ [cn]) (by rw[lA,HLA.out];simp) hpo
   rcases hj' with⟨rfl,rfl⟩ | ⟨rfl,rfl⟩ | ⟨rfl,rfl⟩ | ⟨rfl,rfl⟩ | ⟨rfl,rfl⟩
   ·exact zb.grew hpo hst
   ·exact zb.grew hpo hst
   ·exact zb.grew hpo hst
   ·exact Bool.noConfusion (hanc.symm.trans (show _=true by kernel_rfl))
   exact absurd rfl hjk
  case hpre=>
   intro j t k s hj hk hjk p q hst hpr;have hj':=zN hj;clear hk hj;simp only[mC,pJ,nM,or_false]at hj'
   rcases hj' with⟨rfl,rfl⟩ | ⟨rfl,rfl⟩ | ⟨rfl,rfl⟩ | ⟨rfl,rfl⟩ | ⟨rfl,rfl⟩ <;> trivial
  case hpr0=>
   intro k t hk;have hk':=zN hk;clear hk;simp only[mC,pJ,nM,or_false]at hk'
   rcases hk' with⟨rfl,rfl⟩ | ⟨rfl,rfl⟩ | ⟨rfl,rfl⟩ | ⟨rfl,rfl⟩ | ⟨rfl,rfl⟩ <;> trivial
  simp only[List.take,List.drop];iterate 1 (refine zk rfl rfl rfl (fun K hK=>?_);go_big_quiet_op;refine hK _ ?_;clear hK K)
  refine zF rfl rfl (fun w' hI' hpr hF=>?_) (fun v1 hv=>?_)
  ·have hg:=(HI.out _).1 hI';refine zL.step (v:= .slice (some ⟨w'.heap.size,0,none⟩) 0 0) (w':=w'.alloc (.cells #[] 124)) (by simp only[execOp];go_simp) ⟨(HI.out _).2 (hg.trans (za _ _)),za _ _,⟨_,rfl⟩,(zb.made qY w').base (bS hg)⟩
  obtain⟨g0,rfl⟩:=hv;simp only[Act.put,sB,sS,sZ];iterate 1 (refine zk rfl rfl rfl (fun K hK=>?_);go_big_quiet_op;refine hK _ ?_;clear hK K)
  refine jv (.tmp 121) ⟨b,0,none⟩ rfl rfl rfl rfl ?_;simp only[Act.put,sB,sS,sZ];iterate 5 (refine zk rfl rfl rfl (fun K hK=>?_);go_big_quiet_op;refine hK _ ?_;clear hK K)
  refine zF rfl rfl (fun w' hI' hpr hF=>?_) (fun v1 hv=>?_)
  ·have hg:=(HI.out _).1 hI';have h0:zb qY wr.heap.size w' (.slice (some ⟨g0,0,none⟩) 0 0) []:=hF 1 (by kernel_rfl)
   obtain⟨v',w2,hrun,ho,hg2,hz⟩:=jg (E:=qY) (w:=w') 38 h0 (.slice (some adc) at_ V.ca.c) A (HRA.out.grew hg) (bS hg);obtain⟨a',c',rfl⟩:=ho.form;refine zL.step (v:= .slice a' A.length c') (w':=w2) ?_ ⟨(HI.out _).2 (hg.trans hg2),hg2,⟨⟨a',c',by rw[HLA.out]⟩,fun h=>⟨g0,hz (eN (by rw[HLA.out];exact h))⟩⟩,ho⟩
   clear hx10 hup hfr;simp only[execOp,resolve,invoke,builtin,pure_bind,Sem.run_bind,Sem.run_pure,List.map_toArray,mP,List.map_nil];exact Eq.trans (congrArg (fun r=>Result.andThen r (fun a w'=>Result.ok (Next.value a) w')) hrun) rfl
  obtain⟨⟨a3,c3,rfl⟩,hz3⟩:=hv;simp only[Act.put,sB,sS,sZ];iterate 4 (refine zk rfl rfl rfl (fun K hK=>?_);go_big_quiet_op;refine hK _ ?_;clear hK K)
  refine zF rfl rfl (fun w' hI' hpr hF=>?_) (fun v1 hv=>?_)
  ·have hg:=(HI.out _).1 hI';have hoc:=(zcm w' cn).base (bS hg);rw[HCN.out]at hoc;refine zL.step (v:= .slice (some ⟨w'.heap.size,0,none⟩) 1 1) (w':=w'.alloc (.cells #[.int .i64 (fi:Int),.int .i64 (ix:Int),.int .i64 (j:Int)] 124)) (by clear hx10 hup hfr;simp only[execOp];go_simp) ⟨(HI.out _).2 (hg.trans (za _ _)),za _ _,⟨_,rfl⟩,by rw[HCN.out];exact hoc⟩
  obtain⟨g5,rfl⟩:=hv;simp only[Act.put,sB,sS,sZ];refine zF rfl rfl (fun w' hI' hpr hF=>?_) (fun v1 hv=>?_)
  ·have hg:=(HI.out _).1 hI';have o3:zb qY wr.heap.size w' (.slice a3 at_ c3) A:=hF 9 (by kernel_rfl)
   have o5:zb qY wr.heap.size w' (.slice (some ⟨g5,0,none⟩) 1 1) [cn]:=hF 14 (by kernel_rfl)
   have key:∃v' w2,(Builtin.append_ #[38,38] 38 #[.slice a3 at_ c3,.slice (some ⟨g5,0,none⟩) 1 1]).run Tryz.prog w'= .ok v' w2/\zb qY wr.heap.size w2 v' (A++ [cn])/\zc wr w2/\∀u m,m.length<=at_\/m.length<=1->zb qY wr.heap.size w' u m->zb qY wr.heap.size w2 u m:=by
    by_cases h0:at_=0
    ·have hxs:A=[]:=eN (by rw[HLA.out];exact h0)
     obtain⟨g,hgv⟩:=hz3 h0;rw[hgv,hxs]at o3;rw[hgv,hxs];obtain⟨v',w2,hrun,ho,hg2,_⟩:=jg (E:=qY) (w:=w') 38 o3 (.slice (some ⟨g5,0,none⟩) 1 1) [cn] o5.at (bS hg);exact⟨v',w2,hrun,ho,hg.trans hg2,fun u m _ h=>h.grew hg2⟩
    obtain⟨v',w2,hrun,ho,hgr,hk⟩:=qe (E:=qY) (w:=w') 38 o3 (.slice (some ⟨g5,0,none⟩) 1 1) [cn] o5.at (by rw[HLA.out];show(at_+1)*24<=_;omega) (bS hg)
    refine⟨v',w2,hrun,ho,qV hg hgr (fun g hg'=>(o3.lt g hg').1),fun u m hm h=>hk u m ?_ h⟩
    rw[HLA.out];omega
   obtain⟨v',w2,hrun,ho,hg2,hk⟩:=key;obtain⟨a',c',rfl⟩:=ho.form;refine zL.step (v:= .slice a' (A++ [cn]).length c') (w':=w2) ?_ ⟨(HI.out _).2 hg2,hk,⟨a',c',by rw[lA,HLA.out];rfl⟩,ho⟩
   clear hx10 hup hfr;simp only[execOp,resolve,invoke,builtin,pure_bind,Sem.run_bind,Sem.run_pure,List.map_toArray,mP,List.map_nil];exact Eq.trans (congrArg (fun r=>Result.andThen r (fun a w'=>Result.ok (Next.value a) w')) hrun) rfl
  obtain⟨a6,c6,rfl⟩:=hv;simp only[Act.put,sB,sS,sZ];iterate 1 (refine zk rfl rfl rfl (fun K hK=>?_);go_big_quiet_op;refine hK _ ?_;clear hK K)
  refine jv (.tmp 135) ⟨b,0,none⟩ rfl rfl rfl rfl ?_;simp only[Act.put,sB,sS,sZ];iterate 5 (refine zk rfl rfl rfl (fun K hK=>?_);go_big_quiet_op;refine hK _ ?_;clear hK K)
  refine zF rfl rfl (fun w' hI' hpr hF=>?_) (fun v1 hv=>?_)
  ·have hg:=(HI.out _).1 hI';have o6:zb qY wr.heap.size w' (.slice a6 (at_+1) c6) (A++ [cn]):=hF 15 (by kernel_rfl)
   have hl6:(A++ [cn]).length=at_+1:=by rw[lA,HLA.out];rfl
   obtain⟨v',w2,hrun,ho,hgr,hk⟩:=qe (E:=qY) (w:=w') 38 o6 (.slice fa nd cd) D2 (HRD.out.grew hg) (by rw[hl6,HLD.out];show(at_+1+(n - at_))*24<=_;omega) (bS hg)
   obtain⟨a',c',rfl⟩:=ho.form;refine zL.step (v:= .slice a' (A++ [cn]++D2).length c') (w':=w2) ?_ ⟨(HI.out _).2 (qV hg hgr (fun g hg'=>(o6.lt g hg').1)),(fun u m hm h=>hk u m (by rw[hl6];exact hm) h),⟨a',c',by rw[HNN.out]⟩,ho⟩
   clear hx10 hup hfr;simp only[execOp,resolve,invoke,builtin,pure_bind,Sem.run_bind,Sem.run_pure,List.map_toArray,mP,List.map_nil];exact Eq.trans (congrArg (fun r=>Result.andThen r (fun a w'=>Result.ok (Next.value a) w')) hrun) rfl
  obtain⟨a7,c7,rfl⟩:=hv;simp only[Act.put,sB,sS,sZ];refine jv (.tmp 119) ⟨b,0,none⟩ rfl rfl rfl rfl ?_;simp only[Act.put,sB,sS,sZ];iterate 2 (refine zk rfl rfl rfl (fun K hK=>?_);go_big_quiet_op;refine hK _ ?_;clear hK K)
  refine jI fun W7 hI7 hF=>?_
  have o7:zb qY wr.heap.size W7 (.slice a7 N c7) (A++ [cn]++D2):=hF 23;have g7:=(HI.out _).1 hI7;have M7:=dD (MQ.out.grew g7);have K7:=dD (KQ.out.trans (zn.grew g7));have O7:Hid (zb qY wr.heap.size W7 (.slice a7 N c7) (A++ [cn]++D2)):=o7;have HB7:Hid (w0.heap.size<=wr.heap.size):=show _<=_ from bS MQ.out.gr
  have HB8:Hid (b<wr.heap.size):=show _<_ from MQ.out.box.box.lt
  clear o7 g7 hF hI7 hx10 hup hfr hne hI0 HI;have xc:=M7.out.box.box.c 10 rfl;rw[HN.out,HAA.out]at xc;have xf:=M7.out.box.box.f;have HG8:Hid (W7.grownBy (W7.setCell ⟨b,10,none⟩ (.slice a7 N c7)) (some b)):=⟨rfl,rfl,rfl,by simp[World.setCell],fun k _ hk=>Below.heap_setCell _ _ _ _ (fun e=>hk (by rw[e]))⟩
  have M8:Hid (Mk w0 hi (W7.setCell ⟨b,10,none⟩ (.slice a7 N c7)) b vl6 L6 { V with ca:=⟨a7,N,c7⟩ } { m with fs:=m.fs.set j ⟨⟨p0,p1,p2,p3,p4,p5,p6,p7⟩,1,x == 1,dd,(fi:Int),(ix:Int)⟩,ca:=j6 m.ca ⟨(fi:Int),(ix:Int),(j:Int)⟩ } vt T):=show Mk _ _ _ _ _ _ _ _ _ _ by
   have h7:=M7.out;refine⟨zg h7.gr HG8.out h7.hb,h7.hb,h7.box.set 10 _,h7.lr,h7.lc,h7.lb,?_⟩;have hr:=h7.rows.var HG8.out h7.box HG8.out.size (.inl rfl);have:=hr.setCa (s:=⟨a7,N,c7⟩) (ca:=A++ [cn]++D2) ((O7.out.setCell (by have:=HB8.out;simp;omega) _).base HB7.out)
   rw[HCN.out]at this HSP;rw[HSP.out];exact this
  have K8:=dD (K7.out.trans (M7.out.keeps HG8.out));clear O7 M7;go_wp2;go_ret;exact .inr (.inr ⟨j,rfl,q,_,_,_,⟨a7,N,c7⟩,HQ.out,HR0.out,HNO.out,vl6,L6,M8.out,LL6.out,K8.out⟩)
 have hltz2:¬(at_:Int)< (n:Int):=by omega
 have hgd:decide ((at_:Int)< (n:Int))=false:=by simpa using hltz2
 have HST:Hid (∀x,m.ca[at_]? =some x->decide (jM x<jM ⟨(fi:Int),(ix:Int),(j:Int)⟩)=false):=show∀x,_ from fun x hx=>by
  have:=(gS.1 hx).1;have:=HLN.out;omega
 go_upto_region 20 with fail;go_quiet (fail);clear x10;have HSP:Hid (j6 m.ca ⟨(fi:Int),(ix:Int),(j:Int)⟩=m.ca.take at_++ [⟨(fi:Int),(ix:Int),(j:Int)⟩]++m.ca.drop at_):=show _=_ by
  obtain⟨e1,e2⟩:=zcS (p:=fun d=>decide (jM d<jM ⟨(fi:Int),(ix:Int),(j:Int)⟩)) (l:=m.ca) (k:=at_) OW2.out HST.out (by rw[HLN.out];exact hat)
  unfold j6;rw[e1,e2];simp
 obtain⟨Wq,hWq⟩:∃Wq,wr.drewN nq=Wq:=⟨_,rfl⟩;have Gq:Hid (zc wr Wq):=show zc _ _ by rw[<-hWq];exact(show Below _ _ _ from bD (bR _ _) _)
 rw[hWq];clear hWq;have MQ:=dD (MR.out.grew Gq.out);have KQ:=dD (KR.out.trans (zn.grew Gq.out));clear MR KR Gq
 try clear wr
 obtain⟨wr,rfl⟩:∃wr,wr=Wq:=⟨_,rfl⟩;go_upto_region 22 with fail;obtain⟨A,HA⟩:∃A,Hid (m.ca.take at_=A):=⟨_,rfl⟩;obtain⟨D2,HD⟩:∃D2,Hid (m.ca.drop at_=D2):=⟨_,rfl⟩;rw[HA.out,HD.out]at HSP;have HLA:Hid (A.length=at_):=show _=_ by rw[<-HA.out,List.length_take,HLN.out];omega
 have HLD:Hid (D2.length=n - at_):=show _=_ by rw[<-HD.out,List.length_drop,HLN.out]
 obtain⟨cn,HCN⟩:∃cn:Ca,Hid (cn=⟨(fi:Int),(ix:Int),(j:Int)⟩):=⟨_,rfl⟩;rw[<-HCN.out]at HSP;obtain⟨N,HNN⟩:∃N,Hid ((A++ [cn]++D2).length=N):=⟨_,rfl⟩;obtain⟨I,HI⟩:∃I:World->Prop,Hid (∀u,I u↔zc wr u):=⟨fun u=>zc wr u,fun _=>Iff.rfl⟩
 have hI0:I wr.drew:=(HI.out _).2 (gW _)
 have hne:Nonempty (zr I):=⟨⟨_,hI0⟩⟩;have hx10:∀y:zr I,y.world.cell? ⟨b,10,none⟩=some (.slice caa n V.ca.c):=fun y=>by
  have:=(MQ.out.box.box.grew ((HI.out _).1 y.holds)).c 10 rfl;rw[HN.out,HAA.out]at this;exact this
 have HRO:Hid (zo qY wr (.slice caa n V.ca.c) m.ca):=show zo _ _ _ _ by
  have:=MQ.out.rows.ca.at;rw[HN.out,HAA.out]at this;exact this
 have hup:=fun W=>zfH (w:=W) (a:=caa) (n:=n) (c:=V.ca.c) (k:=at_) (nT hat HCC.out)
 have hfr:=fun W=>zfJ (w:=W) (a:=caa) (n:=n) (c:=V.ca.c) (k:=at_) hat
 obtain⟨fa,hfa⟩:∃fa,((caa:Option Addr).map fun ad=>if V.ca.c=at_ then ad else ad.add (at_*3))=fa:=⟨_,rfl⟩
 have HRA:Hid (zo qY wr (.slice caa at_ V.ca.c) A):=show zo _ _ _ _ by rw[<-HA.out];exact HRO.out.upto hat
 have HRD:Hid (zo qY wr (.slice fa (n - at_) (V.ca.c - at_)) D2):=show zo _ _ _ _ by rw[<-HD.out,<-hfa];exact HRO.out.from hat HCC.out
 rw[hfa]at hfr;clear hfa;obtain⟨nd,HND⟩:∃nd,Hid (n - at_=nd):=⟨_,rfl⟩;obtain⟨cd,HCD⟩:∃cd,Hid (V.ca.c - at_=cd):=⟨_,rfl⟩;rw[HND.out,HCD.out]at hfr HRD;refine qP (I:=I) 27 [(1,⟨fun v=>∃g,v= .slice (some ⟨g,0,none⟩) 0 0,fun v w'=>zb qY wr.heap.size w' v [],fun p q=>zc p q,fun _=>True⟩),(9,⟨fun v=>(∃a c,v= .slice a at_ c)/\(at_=0->∃g,v= .slice (some ⟨g,0,none⟩) 0 0),fun v w'=>zb qY wr.heap.size w' v A,fun p q=>zc p q,fun _=>True⟩),(14,⟨fun v=>∃g,v= .slice (some ⟨g,0,none⟩) 1 1,fun v w'=>zb qY wr.heap.size w' v [cn],fun p q=>zc p q,fun _=>True⟩),(15,⟨fun v=>∃a c,v= .slice a (at_+1) c,fun v w'=>zb qY wr.heap.size w' v (A++ [cn]),fun p q=>(∀u m,m.length<=at_\/m.length<=1->zb qY wr.heap.size p u m->zb qY wr.heap.size q u m),fun _=>True⟩),(23,⟨fun v=>∃a c,v= .slice a N c,fun v w'=>zb qY wr.heap.size w' v (A++ [cn]++D2),fun p q=>(∀u m,m.length<=at_+1->zb qY wr.heap.size p u m->zb qY wr.heap.size q u m),fun _=>True⟩)] hI0 qy (by kernel_rfl) rfl rfl (by decide) ?hS ?hp ?hpre ?hpr0 ?_
 case hS=>
  intro x hx;simp only[mC,nM,or_false]at hx
  rcases hx with rfl | rfl | rfl | rfl | rfl
  ·exact⟨_,0,rfl⟩
  ·by_cases h0:at_=0
   ·exact⟨.slice (some ⟨0,0,none⟩) 0 0,⟨some ⟨0,0,none⟩,0,by rw[h0]⟩,fun _=>⟨0,rfl⟩⟩
   exact⟨.slice none at_ 0,⟨_,_,rfl⟩,fun h=>absurd h h0⟩
  ·exact⟨_,0,rfl⟩
  ·exact⟨_,none,0,rfl⟩
  exact⟨_,none,0,rfl⟩
 case hp=>
  intro k s j t hk hj hjk hanc v p q hst hpo;have hk':=zN hk;have hj':=zN hj;clear hk hj;simp only[mC,pJ,nM,or_false]at hk' hj'
  rcases hk' with⟨rfl,rfl⟩ | ⟨rfl,rfl⟩ | ⟨rfl,rfl⟩ | ⟨rfl,rfl⟩ | ⟨rfl,rfl⟩
  ·rcases hj' with⟨rfl,rfl⟩ | ⟨rfl,rfl⟩ | ⟨rfl,rfl⟩ | ⟨rfl,rfl⟩ | ⟨rfl,rfl⟩
   ·exact absurd rfl hjk
   ·exact zb.grew hpo hst
   ·exact zb.grew hpo hst
   ·exact hst v [] (.inl (nZ _)) hpo
   exact hst v [] (nZ _) hpo
  ·rcases hj' with⟨rfl,rfl⟩ | ⟨rfl,rfl⟩ | ⟨rfl,rfl⟩ | ⟨rfl,rfl⟩ | ⟨rfl,rfl⟩
   ·exact zb.grew hpo hst
   ·exact absurd rfl hjk
   ·exact zb.grew hpo hst
   ·exact hst v A (.inl (by rw[HLA.out];exact nR _)) hpo
   exact hst v A (by rw[HLA.out];omega) hpo
  ·rcases hj' with⟨rfl,rfl⟩ | ⟨rfl,rfl⟩ | ⟨rfl,rfl⟩ | ⟨rfl,rfl⟩ | ⟨rfl,rfl⟩
   ·exact zb.grew hpo hst
   ·exact zb.grew hpo hst
   ·exact absurd rfl hjk
   ·exact hst v [cn] (.inr (nR _)) hpo
   exact hst v [cn] (by simp) hpo
  ·rcases hj' with⟨rfl,rfl⟩ | ⟨rfl,rfl⟩ | ⟨rfl,rfl⟩ | ⟨rfl,rfl⟩ | ⟨rfl,rfl⟩
   ·exact zb.grew hpo hst
   ·exact zb.grew hpo hst
   ·exact zb.grew hpo hst
   ·exact absurd rfl hjk
   exact hst v (A++ [cn]) (by rw[lA,HLA.out];simp) hpo
  rcases hj' with⟨rfl,rfl⟩ | ⟨rfl,rfl⟩ | ⟨rfl,rfl⟩ | ⟨rfl,rfl⟩ | ⟨rfl,rfl⟩
  ·exact zb.grew hpo hst
  ·exact zb.grew hpo hst
  ·exact zb.grew hpo hst
  ·exact Bool.noConfusion (hanc.symm.trans (show _=true by kernel_rfl))
  exact absurd rfl hjk
 case hpre=>
  intro j t k s hj hk hjk p q hst hpr;have hj':=zN hj;clear hk hj;simp only[mC,pJ,nM,or_false]at hj'
  rcases hj' with⟨rfl,rfl⟩ | ⟨rfl,rfl⟩ | ⟨rfl,rfl⟩ | ⟨rfl,rfl⟩ | ⟨rfl,rfl⟩ <;> trivial
 case hpr0=>
  intro k t hk;have hk':=zN hk;clear hk;simp only[mC,pJ,nM,or_false]at hk'
  rcases hk' with⟨rfl,rfl⟩ | ⟨rfl,rfl⟩ | ⟨rfl,rfl⟩ | ⟨rfl,rfl⟩ | ⟨rfl,rfl⟩ <;> trivial
 simp only[List.take,List.drop];iterate 1 (refine zk rfl rfl rfl (fun K hK=>?_);go_big_quiet_op;refine hK _ ?_;clear hK K)
 refine zF rfl rfl (fun w' hI' hpr hF=>?_) (fun v1 hv=>?_)
 ·have hg:=(HI.out _).1 hI';refine zL.step (v:= .slice (some ⟨w'.heap.size,0,none⟩) 0 0) (w':=w'.alloc (.cells #[] 124)) (by simp only[execOp];go_simp) ⟨(HI.out _).2 (hg.trans (za _ _)),za _ _,⟨_,rfl⟩,(zb.made qY w').base (bS hg)⟩
 obtain⟨g0,rfl⟩:=hv;simp only[Act.put,sB,sS,sZ];iterate 1 (refine zk rfl rfl rfl (fun K hK=>?_);go_big_quiet_op;refine hK _ ?_;clear hK K)
 refine jv (.tmp 121) ⟨b,0,none⟩ rfl rfl rfl rfl ?_;simp only[Act.put,sB,sS,sZ];iterate 5 (refine zk rfl rfl rfl (fun K hK=>?_);go_big_quiet_op;refine hK _ ?_;clear hK K)
 refine zF rfl rfl (fun w' hI' hpr hF=>?_) (fun v1 hv=>?_)
 ·have hg:=(HI.out _).1 hI';have h0:zb qY wr.heap.size w' (.slice (some ⟨g0,0,none⟩) 0 0) []:=hF 1 (by kernel_rfl)
  obtain⟨v',w2,hrun,ho,hg2,hz⟩:=jg (E:=qY) (w:=w') 38 h0 (.slice caa at_ V.ca.c) A (HRA.out.grew hg) (bS hg);obtain⟨a',c',rfl⟩:=ho.form;refine zL.step (v:= .slice a' A.length c') (w':=w2) ?_ ⟨(HI.out _).2 (hg.trans hg2),hg2,⟨⟨a',c',by rw[HLA.out]⟩,fun h=>⟨g0,hz (eN (by rw[HLA.out];exact h))⟩⟩,ho⟩
  clear hx10 hup hfr;simp only[execOp,resolve,invoke,builtin,pure_bind,Sem.run_bind,Sem.run_pure,List.map_toArray,mP,List.map_nil];exact Eq.trans (congrArg (fun r=>Result.andThen r (fun a w'=>Result.ok (Next.value a) w')) hrun) rfl
 obtain⟨⟨a3,c3,rfl⟩,hz3⟩:=hv;simp only[Act.put,sB,sS,sZ];iterate 4 (refine zk rfl rfl rfl (fun K hK=>?_);go_big_quiet_op;refine hK _ ?_;clear hK K)
 refine zF rfl rfl (fun w' hI' hpr hF=>?_) (fun v1 hv=>?_)
 ·have hg:=(HI.out _).1 hI';have hoc:=(zcm w' cn).base (bS hg);rw[HCN.out]at hoc;refine zL.step (v:= .slice (some ⟨w'.heap.size,0,none⟩) 1 1) (w':=w'.alloc (.cells #[.int .i64 (fi:Int),.int .i64 (ix:Int),.int .i64 (j:Int)] 124)) (by clear hx10 hup hfr;simp only[execOp];go_simp) ⟨(HI.out _).2 (hg.trans (za _ _)),za _ _,⟨_,rfl⟩,by rw[HCN.out];exact hoc⟩
 obtain⟨g5,rfl⟩:=hv;simp only[Act.put,sB,sS,sZ];refine zF rfl rfl (fun w' hI' hpr hF=>?_) (fun v1 hv=>?_)
 ·have hg:=(HI.out _).1 hI';have o3:zb qY wr.heap.size w' (.slice a3 at_ c3) A:=hF 9 (by kernel_rfl)
  have o5:zb qY wr.heap.size w' (.slice (some ⟨g5,0,none⟩) 1 1) [cn]:=hF 14 (by kernel_rfl)
  have key:∃v' w2,(Builtin.append_ #[38,38] 38 #[.slice a3 at_ c3,.slice (some ⟨g5,0,none⟩) 1 1]).run Tryz.prog w'= .ok v' w2/\zb qY wr.heap.size w2 v' (A++ [cn])/\zc wr w2/\∀u m,m.length<=at_\/m.length<=1->zb qY wr.heap.size w' u m->zb qY wr.heap.size w2 u m:=by
   by_cases h0:at_=0
   ·have hxs:A=[]:=eN (by rw[HLA.out];exact h0)
    obtain⟨g,hgv⟩:=hz3 h0;rw[hgv,hxs]at o3;rw[hgv,hxs];obtain⟨v',w2,hrun,ho,hg2,_⟩:=jg (E:=qY) (w:=w') 38 o3 (.slice (some ⟨g5,0,none⟩) 1 1) [cn] o5.at (bS hg);exact⟨v',w2,hrun,ho,hg.trans hg2,fun u m _ h=>h.grew hg2⟩
   obtain⟨v',w2,hrun,ho,hgr,hk⟩:=qe (E:=qY) (w:=w') 38 o3 (.slice (some ⟨g5,0,none⟩) 1 1) [cn] o5.at (by rw[HLA.out];show(at_+1)*24<=_;omega) (bS hg)
   refine⟨v',w2,hrun,ho,qV hg hgr (fun g hg'=>(o3.lt g hg').1),fun u m hm h=>hk u m ?_ h⟩
   rw[HLA.out];omega
  obtain⟨v',w2,hrun,ho,hg2,hk⟩:=key;obtain⟨a',c',rfl⟩:=ho.form;refine zL.step (v:= .slice a' (A++ [cn]).length c') (w':=w2) ?_ ⟨(HI.out _).2 hg2,hk,⟨a',c',by rw[lA,HLA.out];rfl⟩,ho⟩
  clear hx10 hup hfr;simp only[execOp,resolve,invoke,builtin,pure_bind,Sem.run_bind,Sem.run_pure,List.map_toArray,mP,List.map_nil];exact Eq.trans (congrArg (fun r=>Result.andThen r (fun a w'=>Result.ok (Next.value a) w')) hrun) rfl
 obtain⟨a6,c6,rfl⟩:=hv;simp only[Act.put,sB,sS,sZ];iterate 1 (refine zk rfl rfl rfl (fun K hK=>?_);go_big_quiet_op;refine hK _ ?_;clear hK K)
 refine jv (.tmp 135) ⟨b,0,none⟩ rfl rfl rfl rfl ?_;simp only[Act.put,sB,sS,sZ];iterate 5 (refine zk rfl rfl rfl (fun K hK=>?_);go_big_quiet_op;refine hK _ ?_;clear hK K)
 refine zF rfl rfl (fun w' hI' hpr hF=>?_) (fun v1 hv=>?_)
 ·have hg:=(HI.out _).1 hI';have o6:zb qY wr.heap.size w' (.slice a6 (at_+1) c6) (A++ [cn]):=hF 15 (by kernel_rfl)
  have hl6:(A++ [cn]).length=at_+1:=by rw[lA,HLA.out];rfl
  obtain⟨v',w2,hrun,ho,hgr,hk⟩:=qe (E:=qY) (w:=w') 38 o6 (.slice fa nd cd) D2 (HRD.out.grew hg) (by rw[hl6,HLD.out];show(at_+1+(n - at_))*24<=_;omega) (bS hg)
  obtain⟨a',c',rfl⟩:=ho.form;refine zL.step (v:= .slice a' (A++ [cn]++D2).length c') (w':=w2) ?_ ⟨(HI.out _).2 (qV hg hgr (fun g hg'=>(o6.lt g hg').1)),(fun u m hm h=>hk u m (by rw[hl6];exact hm) h),⟨a',c',by rw[HNN.out]⟩,ho⟩
  clear hx10 hup hfr;simp only[execOp,resolve,invoke,builtin,pure_bind,Sem.run_bind,Sem.run_pure,List.map_toArray,mP,List.map_nil];exact Eq.trans (congrArg (fun r=>Result.andThen r (fun a w'=>Result.ok (Next.value a) w')) hrun) rfl
 obtain⟨a7,c7,rfl⟩:=hv;simp only[Act.put,sB,sS,sZ];refine jv (.tmp 119) ⟨b,0,none⟩ rfl rfl rfl rfl ?_;simp only[Act.put,sB,sS,sZ];iterate 2 (refine zk rfl rfl rfl (fun K hK=>?_);go_big_quiet_op;refine hK _ ?_;clear hK K)
 refine jI fun W7 hI7 hF=>?_
 have o7:zb qY wr.heap.size W7 (.slice a7 N c7) (A++ [cn]++D2):=hF 23;have g7:=(HI.out _).1 hI7;have M7:=dD (MQ.out.grew g7);have K7:=dD (KQ.out.trans (zn.grew g7));have O7:Hid (zb qY wr.heap.size W7 (.slice a7 N c7) (A++ [cn]++D2)):=o7;have HB7:Hid (w0.heap.size<=wr.heap.size):=show _<=_ from bS MQ.out.gr
 have HB8:Hid (b<wr.heap.size):=show _<_ from MQ.out.box.box.lt
 clear o7 g7 hF hI7 hx10 hup hfr hne hI0 HI;have xc:=M7.out.box.box.c 10 rfl;rw[HN.out,HAA.out]at xc;have xf:=M7.out.box.box.f;have HG8:Hid (W7.grownBy (W7.setCell ⟨b,10,none⟩ (.slice a7 N c7)) (some b)):=⟨rfl,rfl,rfl,by simp[World.setCell],fun k _ hk=>Below.heap_setCell _ _ _ _ (fun e=>hk (by rw[e]))⟩
 have M8:Hid (Mk w0 hi (W7.setCell ⟨b,10,none⟩ (.slice a7 N c7)) b vl6 L6 { V with ca:=⟨a7,N,c7⟩ } { m with fs:=m.fs.set j ⟨⟨p0,p1,p2,p3,p4,p5,p6,p7⟩,1,x == 1,dd,(fi:Int),(ix:Int)⟩,ca:=j6 m.ca ⟨(fi:Int),(ix:Int),(j:Int)⟩ } vt T):=show Mk _ _ _ _ _ _ _ _ _ _ by
  have h7:=M7.out;refine⟨zg h7.gr HG8.out h7.hb,h7.hb,h7.box.set 10 _,h7.lr,h7.lc,h7.lb,?_⟩;have hr:=h7.rows.var HG8.out h7.box HG8.out.size (.inl rfl);have:=hr.setCa (s:=⟨a7,N,c7⟩) (ca:=A++ [cn]++D2) ((O7.out.setCell (by have:=HB8.out;simp;omega) _).base HB7.out)
  rw[HCN.out]at this HSP;rw[HSP.out];exact this
 have K8:=dD (K7.out.trans (M7.out.keeps HG8.out));clear O7 M7;go_wp2;go_ret;exact .inr (.inr ⟨j,rfl,q,_,_,_,⟨a7,N,c7⟩,HQ.out,HR0.out,HNO.out,vl6,L6,M8.out,LL6.out,K8.out⟩)
theorem zip (f:Nat->En) (n:Nat) (e:En):tab (qm f n e)=(tab f).set n e:=(zeM f n e).symm
theorem jl (f:Nat->En) {n:Nat} (hn:n<64) (e:En):Qt.enc (qm f n e)=splice (Qt.enc f) (n*3) (env e):=by
 show qd (tab (qm f n e))=splice (qd (tab f)) (n*3) (env e)
 rw[zip];exact(Qg (enc:=env) (k:=3) e rfl (tab f) n (fun _ _=>rfl) (by rw[Qa];exact hn)).symm
theorem zfM {key:Ca->Int}:∀{l:List Ca} {lo N:Nat},l.Pairwise (fun a b=>key a<key b)->(∀c∈l,(lo:Int)<=key c/\key c< (N:Int))->l.length<=N - lo
 | [],_,_,_,_=>nZ _
 | c :: l,lo,N,h,hb=>by
  obtain⟨h1,h2⟩:=List.pairwise_cons.1 h;have h3:=hb c (by simp)
  have ih:=zfM (lo:=(key c).toNat+1) (N:=N) h2 (fun d hd=>by
   have:=h1 d hd;have:=hb d (by simp[hd])
   omega)
  simp only[List.length_cons];omega
section
variable{m:Ma} {T:List (Nat->En)}
theorem qO.cached (h:qO m T):(∀c∈m.ca,0<=c.file/\c.file<=1000/\0<=c.idx/\c.idx<=1000/\0<=c.fr/\c.fr<m.fs.length)/\m.ca.length<=1000/\∀c∈m.ca,∃(k:Nat) (fr:Fr),c.fr=(k:Int)/\m.fs[k]? =some fr/\fr.f=c.file/\fr.x=c.idx:=by
 obtain⟨a1,a2,a3⟩:=zU.1 h.ca;have key:∀c∈m.ca,(0<=c.file/\c.file<5/\0<=c.idx/\c.idx<12/\0<=c.fr/\c.fr<m.fs.length)/\(z8 m c.fr).f=c.file/\(z8 m c.fr).x=c.idx:=fun c hc=>by
  have h1:=a1 c hc;unfold caE at h1
  split at h1
  ·cases h1
  rename_i hn
  split at h1
  ·cases h1
  rename_i hn2
  have h2:=h.pages (file:=c.file) (by omega) (by omega)
  refine⟨by omega,?_,?_⟩
  ·exact Classical.byContradiction fun e=>hn2 (.inr (.inl e))
  exact Classical.byContradiction fun e=>hn2 (.inr (.inr e))
 refine⟨fun c hc=>?_,?_,fun c hc=>?_⟩
 ·have:=(key c hc).1;omega
 ·refine nT (zfM (key:=jM) (lo:=0) (N:=1000) a3 fun c hc=>?_) (nR _)
  have:=(key c hc).1;unfold jM;omega
 obtain⟨k1,k2,k3⟩:=key c hc;have hlt:c.fr.toNat<m.fs.length:=by omega
 have he:z8 m c.fr=m.fs[c.fr.toNat]:=by
  unfold z8;rw[gD,gE hlt];rfl
 rw[he]at k2 k3;exact⟨c.fr.toNat,m.fs[c.fr.toNat],by omega,gE hlt,k2,k3⟩
theorem qO.alone (h:qO m T) {p n:Nat} {s:Sp} (hs:m.sp[p]? =some s) (hx:(zH s.ars n).is=true):-1<=(zH s.ars n).file/\0<=(zH s.ars n).page/\(zH s.ars n).page<=1000/\((zH s.ars n).file<0->(zH s.ars n).sh=false):=by
 have hw:=(h.spok s (mG hs)).1;have hc:=jV.1 hw;obtain⟨i,a,h1,h2,h3⟩:=Qk hx;have hok:=hc.2.all a (mG h1);rw[h3];unfold jo at hok;unfold qF;have h2:=zX.1 h2;obtain⟨o1,o2,o3,o4,o5,o6,o7,o8⟩:=hok;simp only
 split <;> refine⟨by omega,by omega,by omega,fun e=>(o7 e).2⟩
end
section
variable{w0 w w':World} {hi b:Nat} {vl:Sli} {L:List Int} {V:MaV} {m:Ma} {vt:Sli} {T:List (Nat->En)}
theorem Mk.setF (h:Mk w0 hi w b vl L V m vt T) {g:Nat} (hv:(Value.slice V.f.a V.f.n V.f.c).ownBlock=some g) (hg:w.grownBy w' (some g)) (hs:w'.heap.size=w.heap.size) {fs:List Fr} (ho:zb Jx w0.heap.size w' (.slice V.f.a V.f.n V.f.c) fs):Mk w0 hi w' b vl L V { m with fs:=fs } vt T/\zn hi w w':=by
 refine⟨⟨zg h.gr hg (h.rows.fs.lt g hv).1,h.hb,h.box.beside hg (fun k e=>by cases e;exact h.rows.fs.ne h.box (by decide) g hv),h.lr,h.lc,h.lb,h.rows.setF hv hg hs ho⟩,?_⟩
 obtain⟨cs,hcs⟩:=h.rows.fs.obj hv;exact zn.kind hg hcs (fun _ hl=>absurd rfl hl.2.1)
theorem Mk.setS (h:Mk w0 hi w b vl L V m vt T) {g:Nat} (hv:(Value.slice V.s.a V.s.n V.s.c).ownBlock=some g) (hg:w.grownBy w' (some g)) (hs:w'.heap.size=w.heap.size) {ls:List Int} (ho:zb slE w0.heap.size w' (.slice V.s.a V.s.n V.s.c) ls):Mk w0 hi w' b vl L V { m with sl:=ls } vt T/\zn hi w w':=by
 refine⟨⟨zg h.gr hg (h.rows.sl.lt g hv).1,h.hb,h.box.beside hg (fun k e=>by cases e;exact h.rows.sl.ne h.box (by decide) g hv),h.lr,h.lc,h.lb,h.rows.setS hv hg hs ho⟩,?_⟩
 obtain⟨cs,hcs⟩:=h.rows.sl.obj hv;exact zn.kind hg hcs (fun _ hl=>absurd rfl hl.2.2.1)
theorem Mk.setT (h:Mk w0 hi w b vl L V m vt T) {g:Nat} (hv:(Value.slice vt.a vt.n vt.c).ownBlock=some g) (hg:w.grownBy w' (some g)) (hs:w'.heap.size=w.heap.size) {T':List (Nat->En)} (ho:zb Qt w0.heap.size w' (.slice vt.a vt.n vt.c) T'):Mk w0 hi w' b vl L V m vt T'/\zn hi w w':=by
 refine⟨⟨zg h.gr hg (h.rows.tt.lt g hv).1,h.hb,h.box.beside hg (fun k e=>by cases e;exact h.rows.tt.ne h.box (by decide) g hv),h.lr,h.lc,h.lb,h.rows.setT hv hg hs ho⟩,?_⟩
 obtain⟨cs,hcs⟩:=h.rows.tt.obj hv;exact zn.kind hg hcs (fun _ hl=>absurd rfl hl.2.2.2.2.2.2.2.1)
theorem ZR {base:Nat} {v:Value} {ps:List (List Int)} (h:zj base w v ps) {g:Nat} (hg:v.ownBlock=some g):base<=g/\∃cs,w.heap[g]? =some (.cells cs 67 (0,0)):=by
 rcases h.1.2 with⟨rfl,_⟩ | ⟨k,cap,cur,rfl,h2,h3,_⟩
 ·cases hg
 simp only[Value.ownBlock,Option.some.injEq]at hg;subst hg;exact⟨h2,cur,h3⟩
theorem Mk.setSb (h:Mk w0 hi w b vl L V m vt T) {g:Nat} (hv:(Value.slice V.sb.a V.sb.n V.sb.c).ownBlock=some g) (hg:w.grownBy w' (some g)) (hs:w'.heap.size=w.heap.size) {ls:List (List Int)} (ho:zj w0.heap.size w' (.slice V.sb.a V.sb.n V.sb.c) ls):Mk w0 hi w' b vl L V { m with sb:=ls } vt T/\zn hi w w':=by
 obtain⟨h1,cs,h2⟩:=ZR h.rows.sb hv;refine⟨⟨zg h.gr hg h1,h.hb,h.box.beside hg (fun k e=>?_),h.lr,h.lc,h.lb,h.rows.setSb h2 hv hg hs ho⟩,zn.kind hg h2 (fun p hl=>?_)⟩
 ·cases e;intro e;subst e;have h3:w.heap[b]? =_:=h.box;rw[h2]at h3;cases h3
 have:=hl.2.2.2.2.2.2.2.2 rfl;have:=h.rows.sbh g hv;omega
end
theorem zch (l:List Value) {i:Nat} (h:i<l.length) (u:Value):splice l i [u]=l.set i u:=by
 rw[List.set_eq_take_append_cons_drop,if_pos h]
 simp[splice]
theorem zb.box {α:Type} {E:Elt α} {w:World} {base g:Nat} {v:Value} {l:List α} (h:zb E base w v l) (hg:v.ownBlock=some g):∃cs,zp w g E.ty cs:=by
 obtain⟨cs,h1⟩:=h.obj hg;exact⟨cs.toList,by unfold zp;rw[h1]⟩
theorem zb.unfrozen {α:Type} {E:Elt α} {w:World} {base g:Nat} {v:Value} {l:List α} (h:zb E base w v l) (hg:v.ownBlock=some g):∀j,w.frozen? ⟨g,j,none⟩=false:=by
 obtain⟨cs,h1⟩:=h.box hg;exact h1.box.f
theorem zb.cell {α:Type} {E:Elt α} {w:World} {base g:Nat} {v:Value} {l:List α} (h:zb E base w v l) {k o:Nat} (hg:v.ownBlock=some g) {x y:α} (hk:l[k]? =some x) {u:Value} (hy:E.enc y=(E.enc x).set o u) (ho:o<E.k):
  zb E base (w.setCell ⟨g,k*E.k+o,none⟩ u) v (l.set k y)/\w.grownBy (w.setCell ⟨g,k*E.k+o,none⟩ u) (some g)/\(w.setCell ⟨g,k*E.k+o,none⟩ u).heap.size=w.heap.size:=by
 refine⟨⟨?_,by rw[List.length_set];exact h.2⟩,⟨rfl,rfl,rfl,by simp[World.setCell],fun j _ hj=>Below.heap_setCell _ _ _ _ (fun e=>hj (by rw[e]))⟩,by simp[World.setCell]⟩
 have hkl:=(gS.1 hk).1;refine⟨by rw[List.length_set,jR,List.length_set],?_⟩
 rcases h.1.2 with⟨rfl,_⟩ | ⟨g',cap,cur,rfl,h2,h3,h4,h5,h6,h7⟩
 ·cases hg
 simp only[Value.ownBlock,Option.some.injEq]at hg;subst hg;have hb:zp w g' E.ty cur.toList:=by unfold zp;rw[h3]
 have hb2:=hb.set (k*E.k+o) u;refine .inr ⟨g',cap,(cur.toList.set (k*E.k+o) u).toArray,by rw[List.length_set],h2,hb2,by rw[List.length_set];exact h4,h5,by simpa using h6,?_⟩
 rw[List.length_set,List.toList_toArray,List.take_set,h7,<-zch _ ?_ u]
 ·refine Qw o [u] (y:=y) ?_ (by simp;omega) l k hk
  rw[hy,zch _ (by rw[E.len];exact ho)]
 rw[jR];have:(k+1)*E.k<=l.length*E.k:=Nat.mul_le_mul_right _ hkl;rw[Nat.add_mul]at this;omega
theorem QC {hi p:Nat}:Loc hi p 61:=⟨by decide,by decide,by decide,by decide,by decide,by decide,by decide,by decide,fun h=>absurd h (by decide)⟩
theorem qO.refs {m:Ma} {T:List (Nat->En)} (h:qO m T) {k:Nat} {f:Fr} (hk:m.fs[k]? =some f):0<=f.r/\f.r<=2000:=by
 have h1:=(h.cf k f hk).1;have h2:=zaE T 1 k;have h3:zK m.ca k<=m.ca.length:=List.countP_le_length;have h4:=h.cached.2.1;have h5:=h.tl;have h6:=h.spl;omega
def Ent (w0:World) (hi b:Nat) (w:World) (L:List Int) (m:Ma) (vt:Sli) (T:List (Nat->En)) (p n:Nat) (f:Nat->En) (w':World):Prop:=∃vl' L' V' m' T',Mk w0 hi w' b vl' L' V' m' vt T'/\ZC L L'/\zn hi w w'/\qO m' T'/\(m'.sp=m.sp/\m'.fl=m.fl/\m'.hand=m.hand/\m'.fs.length=m.fs.length)/\(T'=T\/∃e,T'=T.set p (qm f n e))/\(L=[]->m'=m/\T'=T)
theorem Ent.same {w0:World} {hi b:Nat} {w:World} {L:List Int} {V:MaV} {m:Ma} {vt:Sli} {T:List (Nat->En)} (p n:Nat) (f:Nat->En) {w':World} (hb:qO m T) (h:MkE w0 hi b w L V m vt T w'):Ent w0 hi b w L m vt T p n f w':=by
 obtain⟨vl',L',h1,h2,h3⟩:=h;exact⟨vl',L',V,m,T,h1,h2,h3,hb,⟨rfl,rfl,rfl,rfl⟩,.inl rfl,fun _=>⟨rfl,rfl⟩⟩
theorem zhT {w0:World} {hi:Nat} {b:Nat} {vl:Sli} {L:List Int} {V:MaV} {m:Ma} {vt:Sli} {T:List (Nat->En)} {w:World} (p n:Nat) (s:Sp) (f:Nat->En) (x:On) (h:Mk w0 hi w b vl L V m vt T) (hB:qO m T) (hs:m.sp[p]? =some s) (hT:T[p]? =some f) (hn:n<64) (h0:f n=en0) (hx:zH s.ars n=x) (his:x.is=true) (hfi:jn m.fl.length s.ars):
  Calls Tryz.prog 87 #[.pointer (some ⟨b,0,none⟩),.int .i64 (p:Int),.int .i64 (n:Int),.agg (onv x).toArray] w fun e w'=>(∃v,e= .returned v)/\Ent w0 hi b w L m vt T p n f w':=by
 have hal:=hB.alone hs (n:=n) (by rw[hx];exact his)
 have hfl:x.file< (m.fl.length:Int):=by rw[<-hx];exact hfi n hn (by rw[hx];exact his)
 rw[hx]at hal;obtain⟨al1,al2,al3,al4⟩:=hal;obtain⟨xis,xrd,xwr,xsh,xfi,xpg⟩:=x;dsimp only at his al1 al2 al3 al4 hfl;subst his;have HX:Hid (zH s.ars n=⟨true,xrd,xwr,xsh,xfi,xpg⟩):=hx;have HM:Hid (Mk w0 hi w b vl L V m vt T):=h;have HB:Hid (qO m T):=hB;have HS:Hid (m.sp[p]? =some s):=hs;have HT:Hid (T[p]? =some f):=hT;have H0:Hid (f n=en0):=h0;obtain⟨tn,HTL⟩:∃tn,Hid (T.length=tn):=⟨_,rfl⟩;have hpt:p<tn:=by rw[<-HTL.out];exact(gS.1 hT).1
 have HIS:Hid ((zH s.ars n).is=true):=show _=_ by rw[hx]
 have HWR:Hid ((zH s.ars n).wr=xwr):=show _=_ by rw[hx]
 have HSE:Hid ((zH s.ars n).sh=xsh/\(zH s.ars n).file=xfi/\(zH s.ars n).page=xpg):=show _/\_ by rw[hx];exact⟨rfl,rfl,rfl⟩
 obtain⟨px,HPX⟩:∃px,Hid (w.heap.size=px):=⟨_,rfl⟩;obtain⟨W0,hW0⟩:∃W0,w.alloc (.cells #[.bool true,.bool xrd,.bool xwr,.bool xsh,.int .i64 xfi,.int .i64 xpg] 61)=W0:=⟨_,rfl⟩;have HG0:=gA hW0
 have X0:=xPT hW0 HPX
 have M0:Hid (Mk w0 hi W0 b vl L V m vt T):=h.grew HG0.out;have HBX:Hid (b<w.heap.size):=show _<_ from h.box.box.lt
 have HW0:Hid (_=W0):=hW0;clear hW0 h hB hs hT h0 hx hfi
 go_enter Tryz.func87,Tryz.ntmps87
 go_upto_region 1 with fail;have hw:w.alloc (.cells (onv ⟨true,xrd,xwr,xsh,xfi,xpg⟩).toArray 61)=W0:=HW0.out;rw[hw,HPX.out];clear hw;have hpk:=qk 4 M0.out;go_wp2_with fail;refine hpk.mono ?_;clear hpk;rintro e W1 ⟨vl1,L1,y,rfl,mk1,gr1,sz1,y0,y1,yn,ll⟩;have M1:Hid (Mk w0 hi W1 b vl1 L1 V m vt T):=mk1;have K1:Hid (zn hi w W1):=(zn.grew HG0.out).trans (M0.out.keeps gr1);have X1:Hid (zp W1 px 61 [.bool true,.bool xrd,.bool xwr,.bool xsh,.int .i64 xfi,.int .i64 xpg]):=X0.out.beside gr1 (fun g e=>by cases e;have:=HBX.out;have:=HPX.out;omega)
 have LL1:Hid (ZC L L1):=ll;have hy4:y<4:=by rcases y1 with h | h <;> omega
 have HYN:Hid (L=[]->y=0):=yn;clear mk1 gr1 sz1 y1 yn ll M0 X0
 by_cases hy:y=0
 ·have hye:(y == 0)=true:=by simp[hy]
  clear hy;have HE:Hid (Ent w0 hi b w L m vt T p n f W1):=show Ent _ _ _ _ _ _ _ _ _ _ _ _ from Ent.same p n f HB.out ⟨vl1,L1,M1.out,LL1.out,K1.out⟩
  go_wp2
  (first | go_end0 | ((try simp only[Exit.inBlock,Exit.then]);refine bodyPost_ret (results_none rfl _ _ _) rfl ?_))
  first | exact HE.out | exact⟨⟨_,rfl⟩,HE.out⟩
 have hye:(y == 0)=false:=by simp[hy]
 have HLN:Hid (L≠[]):=show _≠_ from fun e=>hy (HYN.out e)
 clear hy HYN;have c3:=X1.out.box.c 3 rfl;have c4:=X1.out.box.c 4 rfl;have HA4:Hid (xfi<0->xsh=false):=show _->_ from fun h=>al4 (by omega)
 clear al4;go_upto_region 6 with fail
 go_cut [44] (fun s44 wx=>∃c1:Bool,s44= .bool c1/\wx=W1/\Hid (c1=true->0<=xfi)/\Hid (c1=false->xsh=false))
 case first=>
  by_cases hfz:0<=xfi
  ·have hfd:decide ((0:Int)<=xfi)=true:=by simpa using hfz
   cases xsh with
   | true=>
    go_wp2
    go_meet
    exact⟨true,rfl,rfl,fun _=>hfz,fun h=>(by cases h)⟩
   | false=>
    go_wp2
    go_meet
    exact⟨(y == 1),rfl,rfl,fun _=>hfz,fun _=>(by first | rfl | trivial)⟩
  have hfd:decide ((0:Int)<=xfi)=false:=by simpa using hfz
  have HSF:Hid (xsh=false):=HA4.out (by omega)
  go_wp2
  go_meet
  exact⟨false,rfl,rfl,fun h=>(by cases h),fun _=>HSF.out⟩
 obtain⟨c1,rfl,hwc,HC1,HC0⟩:=hcut;rw[hwc];clear hwc c3 c4
 cases c1 with
 | true=>
  have hfz:=HC1.out rfl;obtain⟨fi,rfl⟩:∃fi:Nat,xfi=(fi:Int):=⟨xfi.toNat,by omega⟩
  obtain⟨ix,rfl⟩:∃ix:Nat,xpg=(ix:Int):=⟨xpg.toNat,by omega⟩
  obtain⟨fl,HFL⟩:∃fl,Hid (m.fl[fi]? =some fl):=⟨_,gE (by omega)⟩
  have c3:=X1.out.box.c 3 rfl;have c4:=X1.out.box.c 4 rfl;have c5:=X1.out.box.c 5 rfl;go_upto_region 7 with fail;have x8:=M1.out.box.box.c 8 rfl;obtain⟨_,_,hfe,_,hfr⟩:=qN.rows M1.out.rows.at.fl;have hrw:Zb W1 V.fl.a m.fl:=by
   simp only[vJ]at hfe;rw[hfe.1];exact hfr
  have hfn:V.fl.n=m.fl.length:=by
   simp only[vJ]at hfe;exact hfe.2.1
  obtain⟨ad,hva,ba,bc,_,hlf⟩:=hrw fi fl HFL.out;obtain⟨-,d1⟩:=hlf W1 (zc.refl _);obtain⟨fln,hfln⟩:∃fln,V.fl.n=fln:=⟨_,rfl⟩;have hflz:(fi:Int)< (fln:Int):=by
   have:=(gS.1 HFL.out).1;omega
  rw[hva,hfln]at x8;obtain⟨bn,HBN⟩:∃bn,Hid (fl.bl.length=bn):=⟨_,rfl⟩;rw[HBN.out]at d1;clear hfe hfr hrw hfn hva hlf hfln
  by_cases hpg:bn<=ix
  ·have hpgd:decide ((bn:Int)<=(ix:Int))=true:=by simpa using hpg
   go_quiet (fail);obtain⟨W2,hW2⟩:∃W2,W1.drewN nq=W2:=⟨_,rfl⟩;have G2:Hid (zc W1 W2):=show zc _ _ by rw[<-hW2];exact(show Below _ _ _ from bD (bR _ _) _)
   rw[hW2];clear hW2 x8 d1 c3 c4 c5;have HE:Hid (Ent w0 hi b w L m vt T p n f W2):=show Ent _ _ _ _ _ _ _ _ _ _ _ _ from Ent.same p n f HB.out ⟨vl1,L1,M1.out.grew G2.out,LL1.out,K1.out.trans (zn.grew G2.out)⟩
   go_wp2
   (first | go_end0 | ((try simp only[Exit.inBlock,Exit.then]);refine bodyPost_ret (results_none rfl _ _ _) rfl ?_))
   first | exact HE.out | exact⟨⟨_,rfl⟩,HE.out⟩
  have hpgd:decide ((bn:Int)<=(ix:Int))=false:=by simpa using hpg
  obtain⟨bk,HBK⟩:∃bk,Hid (fl.bl[ix]? =some bk):=⟨_,gE (by rw[HBN.out];omega)⟩
  go_quiet (fail);obtain⟨W2,hW2⟩:∃W2,W1.drewN nq=W2:=⟨_,rfl⟩;have G2:Hid (zc W1 W2):=show zc _ _ by rw[<-hW2];exact(show Below _ _ _ from bD (bR _ _) _)
  rw[hW2];clear hW2 x8 d1 c3 c4 c5;have M2:=dD (M1.out.grew G2.out);have K2:=dD (K1.out.trans (zn.grew G2.out));have X2:=dD (X1.out.grew G2.out);clear M1 K1 X1 G2;have c4:=X2.out.box.c 4 rfl;have c5:=X2.out.box.c 5 rfl;have hcd:=zgV fi ix fl bk M2.out HB.out.cached.1 HFL.out HBK.out (by omega) (by have:=(HB.out.pages (file:=(fi:Int)) (by omega) hfl).2;omega) HB.out.cached.2.1
  go_wp2_with fail;refine hcd.mono ?_;clear hcd c4 c5;rintro e W3 hres;have hres2:(e= .returned (.int .i64 (-1))/\MkE w0 hi b w L V m vt T W3)\/∃(k:Nat) (V1:MaV) (m1:Ma) (fr:Fr),e= .returned (.int .i64 (k:Int))/\MkE w0 hi b w L V1 m1 vt T W3/\qO m1 T/\m1.fs[k]? =some fr/\fr.f=(fi:Int)/\fr.x=(ix:Int)/\(m1.sp=m.sp/\m1.fl=m.fl/\m1.hand=m.hand/\m1.fs.length=m.fs.length):=by
   rcases hres with⟨he,hE⟩ | ⟨c,hc,hc1,hc2,he,hE⟩ | ⟨j,he,q,pg,u,d,sl,hj,hr,hno,hE⟩
   ·exact .inl ⟨he,hE.trans LL1.out K2.out⟩
   ·obtain⟨k,fr,k1,k2,k3,k4⟩:=HB.out.cached.2.2 c hc;exact .inr ⟨k,V,m,fr,by rw[he,k1],hE.trans LL1.out K2.out,HB.out,k2,k3.trans hc1,k4.trans hc2,rfl,rfl,rfl,rfl⟩
   refine .inr ⟨j,_,_,⟨pg,1,u,d,fi,ix⟩,he,hE.trans LL1.out K2.out,HB.out.cache hj hr ⟨by omega,hfl⟩ ⟨by omega,?_⟩ hno,?_,rfl,rfl,rfl,rfl,rfl,List.length_set⟩
   ·unfold bkN;rw[tN,gD,HFL.out];simp only[Option.getD_some];have:=HBN.out;omega
   exact sF (gS.1 hj).1
  have X3:Hid (zp W3 px 61 [.bool true,.bool xrd,.bool xwr,.bool xsh,.int .i64 (fi:Int),.int .i64 (ix:Int)]):=show zp _ _ _ _ by
   rcases hres with⟨_,_,_,_,_,hk⟩ | ⟨_,_,_,_,_,_,_,_,_,hk⟩ | ⟨_,_,_,_,_,_,_,_,_,_,_,_,_,_,hk⟩
   ·exact hk.1 _ _ _ X2.out QC
   ·exact hk.1 _ _ _ X2.out QC
   exact hk.1 _ _ _ X2.out QC
  clear hres M2 K2 X2
  rcases hres2 with⟨rfl,hE⟩ | ⟨k,V1,m1,fr,rfl,⟨vl3,L3,mk3,ll3,kp3⟩,hb1,hk,hkf,hkx,hsame⟩
  ·have HEE:Hid (MkE w0 hi b w L V m vt T W3):=hE;clear hE;have HE:Hid (Ent w0 hi b w L m vt T p n f W3):=show Ent _ _ _ _ _ _ _ _ _ _ _ _ from Ent.same p n f HB.out HEE.out
   go_wp2
   (first | go_end0 | ((try simp only[Exit.inBlock,Exit.then]);refine bodyPost_ret (results_none rfl _ _ _) rfl ?_))
   first | exact HE.out | exact⟨⟨_,rfl⟩,HE.out⟩
  have M3:Hid (Mk w0 hi W3 b vl3 L3 V1 m1 vt T):=mk3;have K3:Hid (zn hi w W3):=kp3;have LL3:Hid (ZC L L3):=ll3;have HB1:Hid (qO m1 T):=hb1;have HK:Hid (m1.fs[k]? =some fr):=hk;have HKF:Hid (fr.f=(fi:Int)/\fr.x=(ix:Int)):=show _/\_ from⟨hkf,hkx⟩
  have HSM:Hid (m1.sp=m.sp/\m1.fl=m.fl/\m1.hand=m.hand/\m1.fs.length=m.fs.length):=show _/\_ from hsame
  obtain⟨hr0,hr1⟩:=hb1.refs hk;obtain⟨nf,HNF⟩:∃nf,Hid (m1.fs.length=nf):=⟨_,rfl⟩;have hkn:k<nf:=by rw[<-HNF.out];exact(gS.1 hk).1
  have hkz:(k:Int)< (nf:Int):=by omega
  have hk0:¬(k:Int)<0:=by omega
  clear mk3 ll3 kp3 hb1 hk hkf hkx hsame;obtain⟨g,cf,heq⟩:=M3.out.rows.fs.formS (by rw[HNF.out];omega)
  rw[HNF.out]at heq;have HEQ:Hid (Value.slice V1.f.a V1.f.n V1.f.c= .slice (some ⟨g,0,none⟩) nf cf):=heq;have x1:=M3.out.box.box.c 1 rfl;rw[HEQ.out]at x1;have hrw:=M3.out.rows.fs;rw[HEQ.out]at hrw;have HRW:Hid (zb Jx w0.heap.size W3 (.slice (some ⟨g,0,none⟩) nf cf) m1.fs):=hrw;have hce:=hrw.one HK.out;have d8:W3.cell? ⟨g,k*13+8,none⟩=some (.int .i64 fr.r):=by
   have:=hce 8 _ rfl;rw[zP,Addr.add_lit,zA]at this;exact this
  clear hce hrw heq;have xf:=HRW.out.unfrozen rfl;go_upto_region 11 with fail;obtain⟨ow4,gr4,sz4⟩:=HRW.out.cell (k:=k) (o:=8) rfl HK.out (y:={ fr with r:=fr.r+1 }) (u:= .int .i64 (fr.r+1)) rfl (by decide)
  obtain⟨W4,hW4⟩:∃W4,W3.setCell ⟨g,k*13+8,none⟩ (.int .i64 (fr.r+1))=W4:=⟨_,rfl⟩;have e4:W3.setCell ⟨g,k*Jx.k+8,none⟩ (.int .i64 (fr.r+1))=W4:=hW4;rw[e4]at ow4 gr4 sz4;rw[hW4];rw[<-HEQ.out]at ow4;clear e4 hW4 xf;have hM4:=M3.out.setF (by rw[HEQ.out];rfl) gr4 sz4 ow4
  have M4:Hid (Mk w0 hi W4 b vl3 L3 V1 { m1 with fs:=m1.fs.set k { fr with r:=fr.r+1 } } vt T):=hM4.1;have K4:Hid (zn hi w W4):=K3.out.trans hM4.2;have X4:Hid (zp W4 px 61 [.bool true,.bool xrd,.bool xwr,.bool xsh,.int .i64 (fi:Int),.int .i64 (ix:Int)]):=hM4.2.1 _ _ _ X3.out QC;have HBF:Hid (∀wf:Bool,(wf=true->xsh=true/\xwr=true)->qO { m1 with fs:=m1.fs.set k { fr with r:=fr.r+1 } } (T.set p (qm f n ⟨1,(k:Int),wf⟩))):=show∀wf:Bool,_ from fun wf hwf=>HB1.out.hold HK.out (by rw[HKF.out.1];omega) (by rw[HSM.out.1];exact HS.out) HT.out hn H0.out HIS.out (by rw[HKF.out.1];exact HSE.out.2.1) (by rw[HKF.out.2];exact HSE.out.2.2) (fun e=>by rw[HSE.out.1,HWR.out];exact hwf e)
  clear hM4 ow4 gr4 sz4 x1 d8 M3 K3 X3 HRW HEQ
  cases xsh with
  | false=>
   obtain⟨gt,ct,hte⟩:=M4.out.rows.tt.formS (by rw[HTL.out];omega)
   rw[HTL.out]at hte;have HTE:Hid (Value.slice vt.a vt.n vt.c= .slice (some ⟨gt,0,none⟩) tn ct):=hte;clear hte;obtain⟨I,HI⟩:∃I:World->Prop,Hid (∀u,I u↔u.cell? ⟨b,12,none⟩=some (.slice (some ⟨gt,0,none⟩) tn ct)/\zp u px 61 [.bool true,.bool xrd,.bool xwr,.bool false,.int .i64 (fi:Int),.int .i64 (ix:Int)]):=⟨fun u=>u.cell? ⟨b,12,none⟩=some (.slice (some ⟨gt,0,none⟩) tn ct)/\zp u px 61 [.bool true,.bool xrd,.bool xwr,.bool false,.int .i64 (fi:Int),.int .i64 (ix:Int)],fun _=>Iff.rfl⟩
   have HIM:Hid (∀u vl' L' V' m',Mk w0 hi u b vl' L' V' m' vt T->u.cell? ⟨b,12,none⟩=some (.slice (some ⟨gt,0,none⟩) tn ct)):=show∀u,_ from fun u vl' L' V' m' hm=>by
    have:=hm.box.box.c 12 rfl;rw[HTE.out]at this;exact this
   have hI0:I W4.drew:=(HI.out _).2 ⟨HIM.out _ _ _ _ _ (M4.out.grew (gW _)),X4.out.grew (gW _)⟩
   have hF0:MkE w0 hi b w L V1 { m1 with fs:=m1.fs.set k { fr with r:=fr.r+1 } } vt T W4.drew:=⟨vl3,L3,M4.out.grew (gW _),LL3.out,K4.out.trans (zn.grew (gW _))⟩
   have ht:∀y:zr I,y.world.cell? ⟨b,12,none⟩=some (.slice (some ⟨gt,0,none⟩) tn ct):=fun y=>((HI.out _).1 y.holds).1
   have hx2:∀y:zr I,y.world.cell? ⟨px,2,none⟩=some (.bool xwr):=fun y=>((HI.out _).1 y.holds).2.box.c 2 rfl
   have hx3:∀y:zr I,y.world.cell? ⟨px,3,none⟩=some (.bool false):=fun y=>((HI.out _).1 y.holds).2.box.c 3 rfl
   have hne:Nonempty (zr I):=⟨⟨_,hI0⟩⟩;have hptz:(p:Int)< (tn:Int):=by omega
   have hnz:(n:Int)<64:=by omega
   refine zR (I:=I) 21 [(15,fun v=>∃x:Int,v= .int .i64 x)] (fun u=>MkE w0 hi b w L V1 { m1 with fs:=m1.fs.set k { fr with r:=fr.r+1 } } vt T u) hI0 hF0 qy (by kernel_rfl) rfl rfl (by decide) ?hS (by kernel_rfl) ?_
   case hS=>
    intro x hx;simp only[mC,nM,or_false]at hx;subst hx;exact⟨_,0,rfl⟩
   simp only[List.take,List.drop];iterate 1 (refine zi rfl rfl rfl (fun K hK=>?_);go_big_quiet_op;refine hK _ ?_;clear hK K)
   refine zS (.tmp 92) ⟨b,0,none⟩ rfl rfl rfl rfl ?_;simp only[Act.put,sB,sS,sZ];iterate 8 (refine zi rfl rfl rfl (fun K hK=>?_);go_big_quiet_op;refine hK _ ?_;clear hK K)
   refine jm ?_ ?_
   ·kernel_rfl
   simp only[Act.put,sB,sS,sZ];refine jm ?_ ?_
   ·kernel_rfl
   simp only[Act.put,sB,sS,sZ];iterate 2 (refine zi rfl rfl rfl (fun K hK=>?_);go_big_quiet_op;refine hK _ ?_;clear hK K)
   refine jm ?_ ?_
   ·kernel_rfl
   simp only[Act.put,sB,sS,sZ];refine jm ?_ ?_
   ·kernel_rfl
   simp only[Act.put,sB,sS,sZ];refine jm ?_ ?_
   ·kernel_rfl
   simp only[Act.put,sB,sS,sZ];iterate 4 (refine zi rfl rfl rfl (fun K hK=>?_);go_big_quiet_op;refine hK _ ?_;clear hK K)
   refine ja fun W8 hI8 hF8=>?_
   obtain⟨vl8,L8,mk8,ll8,kp8⟩:=hF8;have M8:Hid (Mk w0 hi W8 b vl8 L8 V1 { m1 with fs:=m1.fs.set k { fr with r:=fr.r+1 } } vt T):=mk8;have LL8:Hid (ZC L L8):=ll8;have K8:Hid (zn hi w W8):=kp8;clear mk8 ll8 kp8 hI8 hI0 hF0 ht hx2 hx3 hne HI;have R8:Hid (zb Qt w0.heap.size W8 (.slice (some ⟨gt,0,none⟩) tn ct) T):=show zb _ _ _ _ _ by rw[<-HTE.out];exact M8.out.rows.tt
   refine zu (E:=Qt) rfl (.tmp 112) (.tmp 110) 74 rfl w0.heap.size _ T R8.out gt p (n*3) rfl f (qm f n ⟨1,(k:Int),false⟩) HT.out (env ⟨1,(k:Int),false⟩) (by kernel_rfl) (jl f hn _) (by show n*3+3<=192;omega) (enE.one _) ⟨gt,p*192+n*3,none⟩ rfl rfl (.agg (env ⟨1,(k:Int),false⟩).toArray) rfl rfl ?_
   intro W9 ow9 gr9 sz9;rw[<-HTE.out]at ow9;have hM9:=M8.out.setT (by rw[HTE.out];rfl) gr9 sz9 ow9
   have M9:Hid (Mk w0 hi W9 b vl8 L8 V1 { m1 with fs:=m1.fs.set k { fr with r:=fr.r+1 } } vt (T.set p (qm f n ⟨1,(k:Int),false⟩))):=hM9.1;have K9:Hid (zn hi w W9):=K8.out.trans hM9.2;clear hM9 ow9 gr9 sz9 R8;have HE:Hid (Ent w0 hi b w L m vt T p n f W9):=show Ent _ _ _ _ _ _ _ _ _ _ _ _ from⟨vl8,L8,_,_,_,M9.out,LL8.out,K9.out,HBF.out _ (by intro e;first | exact⟨rfl,rfl⟩ | cases e),⟨HSM.out.1,HSM.out.2.1,HSM.out.2.2.1,List.length_set.trans HSM.out.2.2.2⟩,.inr ⟨_,rfl⟩,fun h=>absurd h HLN.out⟩
   go_wp2
   (first | go_end0 | ((try simp only[Exit.inBlock,Exit.then]);refine bodyPost_ret (results_none rfl _ _ _) rfl ?_))
   first | exact HE.out | exact⟨⟨_,rfl⟩,HE.out⟩
  | true=>
   cases xwr with
   | false=>
    obtain⟨gt,ct,hte⟩:=M4.out.rows.tt.formS (by rw[HTL.out];omega)
    rw[HTL.out]at hte;have HTE:Hid (Value.slice vt.a vt.n vt.c= .slice (some ⟨gt,0,none⟩) tn ct):=hte;clear hte;obtain⟨I,HI⟩:∃I:World->Prop,Hid (∀u,I u↔u.cell? ⟨b,12,none⟩=some (.slice (some ⟨gt,0,none⟩) tn ct)/\zp u px 61 [.bool true,.bool xrd,.bool false,.bool true,.int .i64 (fi:Int),.int .i64 (ix:Int)]):=⟨fun u=>u.cell? ⟨b,12,none⟩=some (.slice (some ⟨gt,0,none⟩) tn ct)/\zp u px 61 [.bool true,.bool xrd,.bool false,.bool true,.int .i64 (fi:Int),.int .i64 (ix:Int)],fun _=>Iff.rfl⟩
    have HIM:Hid (∀u vl' L' V' m',Mk w0 hi u b vl' L' V' m' vt T->u.cell? ⟨b,12,none⟩=some (.slice (some ⟨gt,0,none⟩) tn ct)):=show∀u,_ from fun u vl' L' V' m' hm=>by
     have:=hm.box.box.c 12 rfl;rw[HTE.out]at this;exact this
    have hI0:I W4.drew:=(HI.out _).2 ⟨HIM.out _ _ _ _ _ (M4.out.grew (gW _)),X4.out.grew (gW _)⟩
    have hF0:MkE w0 hi b w L V1 { m1 with fs:=m1.fs.set k { fr with r:=fr.r+1 } } vt T W4.drew:=⟨vl3,L3,M4.out.grew (gW _),LL3.out,K4.out.trans (zn.grew (gW _))⟩
    have ht:∀y:zr I,y.world.cell? ⟨b,12,none⟩=some (.slice (some ⟨gt,0,none⟩) tn ct):=fun y=>((HI.out _).1 y.holds).1
    have hx2:∀y:zr I,y.world.cell? ⟨px,2,none⟩=some (.bool false):=fun y=>((HI.out _).1 y.holds).2.box.c 2 rfl
    have hx3:∀y:zr I,y.world.cell? ⟨px,3,none⟩=some (.bool true):=fun y=>((HI.out _).1 y.holds).2.box.c 3 rfl
    have hne:Nonempty (zr I):=⟨⟨_,hI0⟩⟩;have hptz:(p:Int)< (tn:Int):=by omega
    have hnz:(n:Int)<64:=by omega
    refine zR (I:=I) 21 [(15,fun v=>∃x:Int,v= .int .i64 x)] (fun u=>MkE w0 hi b w L V1 { m1 with fs:=m1.fs.set k { fr with r:=fr.r+1 } } vt T u) hI0 hF0 qy (by kernel_rfl) rfl rfl (by decide) ?hS (by kernel_rfl) ?_
    case hS=>
     intro x hx;simp only[mC,nM,or_false]at hx;subst hx;exact⟨_,0,rfl⟩
    simp only[List.take,List.drop];iterate 1 (refine zi rfl rfl rfl (fun K hK=>?_);go_big_quiet_op;refine hK _ ?_;clear hK K)
    refine zS (.tmp 92) ⟨b,0,none⟩ rfl rfl rfl rfl ?_;simp only[Act.put,sB,sS,sZ];iterate 8 (refine zi rfl rfl rfl (fun K hK=>?_);go_big_quiet_op;refine hK _ ?_;clear hK K)
    iterate 4 (refine zi rfl rfl rfl (fun K hK=>?_);go_big_quiet_op;refine hK _ ?_;clear hK K)
    refine jm ?_ ?_
    ·kernel_rfl
    simp only[Act.put,sB,sS,sZ];refine jm ?_ ?_
    ·kernel_rfl
    simp only[Act.put,sB,sS,sZ];refine jm ?_ ?_
    ·kernel_rfl
    simp only[Act.put,sB,sS,sZ];iterate 4 (refine zi rfl rfl rfl (fun K hK=>?_);go_big_quiet_op;refine hK _ ?_;clear hK K)
    refine ja fun W8 hI8 hF8=>?_
    obtain⟨vl8,L8,mk8,ll8,kp8⟩:=hF8;have M8:Hid (Mk w0 hi W8 b vl8 L8 V1 { m1 with fs:=m1.fs.set k { fr with r:=fr.r+1 } } vt T):=mk8;have LL8:Hid (ZC L L8):=ll8;have K8:Hid (zn hi w W8):=kp8;clear mk8 ll8 kp8 hI8 hI0 hF0 ht hx2 hx3 hne HI;have R8:Hid (zb Qt w0.heap.size W8 (.slice (some ⟨gt,0,none⟩) tn ct) T):=show zb _ _ _ _ _ by rw[<-HTE.out];exact M8.out.rows.tt
    refine zu (E:=Qt) rfl (.tmp 112) (.tmp 110) 74 rfl w0.heap.size _ T R8.out gt p (n*3) rfl f (qm f n ⟨1,(k:Int),false⟩) HT.out (env ⟨1,(k:Int),false⟩) (by kernel_rfl) (jl f hn _) (by show n*3+3<=192;omega) (enE.one _) ⟨gt,p*192+n*3,none⟩ rfl rfl (.agg (env ⟨1,(k:Int),false⟩).toArray) rfl rfl ?_
    intro W9 ow9 gr9 sz9;rw[<-HTE.out]at ow9;have hM9:=M8.out.setT (by rw[HTE.out];rfl) gr9 sz9 ow9
    have M9:Hid (Mk w0 hi W9 b vl8 L8 V1 { m1 with fs:=m1.fs.set k { fr with r:=fr.r+1 } } vt (T.set p (qm f n ⟨1,(k:Int),false⟩))):=hM9.1;have K9:Hid (zn hi w W9):=K8.out.trans hM9.2;clear hM9 ow9 gr9 sz9 R8;have HE:Hid (Ent w0 hi b w L m vt T p n f W9):=show Ent _ _ _ _ _ _ _ _ _ _ _ _ from⟨vl8,L8,_,_,_,M9.out,LL8.out,K9.out,HBF.out _ (by intro e;first | exact⟨rfl,rfl⟩ | cases e),⟨HSM.out.1,HSM.out.2.1,HSM.out.2.2.1,List.length_set.trans HSM.out.2.2.2⟩,.inr ⟨_,rfl⟩,fun h=>absurd h HLN.out⟩
    go_wp2
    (first | go_end0 | ((try simp only[Exit.inBlock,Exit.then]);refine bodyPost_ret (results_none rfl _ _ _) rfl ?_))
    first | exact HE.out | exact⟨⟨_,rfl⟩,HE.out⟩
   | true=>
    obtain⟨gt,ct,hte⟩:=M4.out.rows.tt.formS (by rw[HTL.out];omega)
    rw[HTL.out]at hte;have HTE:Hid (Value.slice vt.a vt.n vt.c= .slice (some ⟨gt,0,none⟩) tn ct):=hte;clear hte;obtain⟨I,HI⟩:∃I:World->Prop,Hid (∀u,I u↔u.cell? ⟨b,12,none⟩=some (.slice (some ⟨gt,0,none⟩) tn ct)/\zp u px 61 [.bool true,.bool xrd,.bool true,.bool true,.int .i64 (fi:Int),.int .i64 (ix:Int)]):=⟨fun u=>u.cell? ⟨b,12,none⟩=some (.slice (some ⟨gt,0,none⟩) tn ct)/\zp u px 61 [.bool true,.bool xrd,.bool true,.bool true,.int .i64 (fi:Int),.int .i64 (ix:Int)],fun _=>Iff.rfl⟩
    have HIM:Hid (∀u vl' L' V' m',Mk w0 hi u b vl' L' V' m' vt T->u.cell? ⟨b,12,none⟩=some (.slice (some ⟨gt,0,none⟩) tn ct)):=show∀u,_ from fun u vl' L' V' m' hm=>by
     have:=hm.box.box.c 12 rfl;rw[HTE.out]at this;exact this
    have hI0:I W4.drew:=(HI.out _).2 ⟨HIM.out _ _ _ _ _ (M4.out.grew (gW _)),X4.out.grew (gW _)⟩
    have hF0:MkE w0 hi b w L V1 { m1 with fs:=m1.fs.set k { fr with r:=fr.r+1 } } vt T W4.drew:=⟨vl3,L3,M4.out.grew (gW _),LL3.out,K4.out.trans (zn.grew (gW _))⟩
    have ht:∀y:zr I,y.world.cell? ⟨b,12,none⟩=some (.slice (some ⟨gt,0,none⟩) tn ct):=fun y=>((HI.out _).1 y.holds).1
    have hx2:∀y:zr I,y.world.cell? ⟨px,2,none⟩=some (.bool true):=fun y=>((HI.out _).1 y.holds).2.box.c 2 rfl
    have hx3:∀y:zr I,y.world.cell? ⟨px,3,none⟩=some (.bool true):=fun y=>((HI.out _).1 y.holds).2.box.c 3 rfl
    have hne:Nonempty (zr I):=⟨⟨_,hI0⟩⟩;have hptz:(p:Int)< (tn:Int):=by omega
    have hnz:(n:Int)<64:=by omega
    refine zR (I:=I) 21 [(15,fun v=>∃x:Int,v= .int .i64 x)] (fun u=>MkE w0 hi b w L V1 { m1 with fs:=m1.fs.set k { fr with r:=fr.r+1 } } vt T u) hI0 hF0 qy (by kernel_rfl) rfl rfl (by decide) ?hS (by kernel_rfl) ?_
    case hS=>
     intro x hx;simp only[mC,nM,or_false]at hx;subst hx;exact⟨_,0,rfl⟩
    simp only[List.take,List.drop];iterate 1 (refine zi rfl rfl rfl (fun K hK=>?_);go_big_quiet_op;refine hK _ ?_;clear hK K)
    refine zS (.tmp 92) ⟨b,0,none⟩ rfl rfl rfl rfl ?_;simp only[Act.put,sB,sS,sZ];iterate 8 (refine zi rfl rfl rfl (fun K hK=>?_);go_big_quiet_op;refine hK _ ?_;clear hK K)
    iterate 4 (refine zi rfl rfl rfl (fun K hK=>?_);go_big_quiet_op;refine hK _ ?_;clear hK K)
    iterate 1 (refine zi rfl rfl rfl (fun K hK=>?_);go_big_quiet_op;refine hK _ ?_;clear hK K)
    refine qA rfl rfl (fun _ u=>MkE w0 hi b w L V1 { m1 with fs:=m1.fs.set k { fr with r:=fr.r+1 } } vt T u) (fun w' hI' hF'=>?_) (fun v1 hv=>?_)
    ·obtain⟨vl',L',mk',ll',kp'⟩:=hF';refine zL.call [.pointer (some ⟨b,0,none⟩),.int .i64 2] rfl Tryz.func43 rfl rfl rfl ?_;refine(qk 2 mk').mono ?_;rintro e w'' ⟨vl2,L2,x,rfl,mk2,gr2,_,_,_,_,ll2⟩;exact⟨_,rfl,(HI.out _).2 ⟨HIM.out _ _ _ _ _ mk2,(mk'.keeps gr2).1 _ _ _ ((HI.out _).1 hI').2 QC⟩,⟨x,rfl⟩,vl2,L2,mk2,ll'.trans ll2,kp'.trans (mk'.keeps gr2)⟩
    obtain⟨xq,rfl⟩:=hv;simp only[Act.put,sB,sS,sZ];iterate 5 (refine zi rfl rfl rfl (fun K hK=>?_);go_big_quiet_op;refine hK _ ?_;clear hK K)
    refine ja fun W8 hI8 hF8=>?_
    obtain⟨vl8,L8,mk8,ll8,kp8⟩:=hF8;have M8:Hid (Mk w0 hi W8 b vl8 L8 V1 { m1 with fs:=m1.fs.set k { fr with r:=fr.r+1 } } vt T):=mk8;have LL8:Hid (ZC L L8):=ll8;have K8:Hid (zn hi w W8):=kp8;clear mk8 ll8 kp8 hI8 hI0 hF0 ht hx2 hx3 hne HI;have R8:Hid (zb Qt w0.heap.size W8 (.slice (some ⟨gt,0,none⟩) tn ct) T):=show zb _ _ _ _ _ by rw[<-HTE.out];exact M8.out.rows.tt
    refine zu (E:=Qt) rfl (.tmp 112) (.tmp 110) 74 rfl w0.heap.size _ T R8.out gt p (n*3) rfl f (qm f n ⟨1,(k:Int),(xq == 1)⟩) HT.out (env ⟨1,(k:Int),(xq == 1)⟩) (by kernel_rfl) (jl f hn _) (by show n*3+3<=192;omega) (enE.one _) ⟨gt,p*192+n*3,none⟩ rfl rfl (.agg (env ⟨1,(k:Int),(xq == 1)⟩).toArray) rfl rfl ?_
    intro W9 ow9 gr9 sz9;rw[<-HTE.out]at ow9;have hM9:=M8.out.setT (by rw[HTE.out];rfl) gr9 sz9 ow9
    have M9:Hid (Mk w0 hi W9 b vl8 L8 V1 { m1 with fs:=m1.fs.set k { fr with r:=fr.r+1 } } vt (T.set p (qm f n ⟨1,(k:Int),(xq == 1)⟩))):=hM9.1;have K9:Hid (zn hi w W9):=K8.out.trans hM9.2;clear hM9 ow9 gr9 sz9 R8;have HE:Hid (Ent w0 hi b w L m vt T p n f W9):=show Ent _ _ _ _ _ _ _ _ _ _ _ _ from⟨vl8,L8,_,_,_,M9.out,LL8.out,K9.out,HBF.out _ (by intro e;first | exact⟨rfl,rfl⟩ | cases e),⟨HSM.out.1,HSM.out.2.1,HSM.out.2.2.1,List.length_set.trans HSM.out.2.2.2⟩,.inr ⟨_,rfl⟩,fun h=>absurd h HLN.out⟩
    go_wp2
    (first | go_end0 | ((try simp only[Exit.inBlock,Exit.then]);refine bodyPost_ret (results_none rfl _ _ _) rfl ?_))
    first | exact HE.out | exact⟨⟨_,rfl⟩,HE.out⟩
 | false=>
  have hsh:=HC0.out rfl;subst hsh;have x3:=M1.out.box.box.c 3 rfl;obtain⟨sn,hsn⟩:∃sn,V.s.n=sn:=⟨_,rfl⟩;have HSL:Hid (m.sl.length=sn):=show _=_ by rw[<-hsn];exact M1.out.rows.sl.n.symm
  rw[hsn]at x3;clear hsn;go_upto_region 12 with fail
  go_cut [113] (fun s113 wx=>∃c2:Bool,s113= .bool c2/\wx=W1/\Hid (c2=true->0<sn))
  case first=>
   by_cases h2:y=2
   ·have h2e:(y == 2)=true:=by simp[h2]
    clear h2;go_wp2
    go_meet
    exact⟨_,rfl,rfl,fun h=>by simpa using h⟩
   have h2e:(y == 2)=false:=by simp[h2]
   clear h2;go_wp2
   go_meet
   exact⟨false,rfl,rfl,fun h=>(by cases h)⟩
  obtain⟨c2,rfl,hwc,HC2⟩:=hcut;rw[hwc];clear hwc
  cases c2 with
  | true=>
   have hs0:=HC2.out rfl;have hpk2:=qk (sn:Int) M1.out;go_wp2_with fail;refine hpk2.mono ?_;clear hpk2;rintro e W2 ⟨vl2,L2,z,rfl,mk2,gr2,sz2,z0,z1,_,ll2⟩;obtain⟨k,rfl⟩:∃k:Nat,z=(k:Int):=⟨z.toNat,by omega⟩
   have hks:k<sn:=by rcases z1 with h | h <;> omega
   have hksz:(k:Int)< (sn:Int):=by omega
   have M2:Hid (Mk w0 hi W2 b vl2 L2 V m vt T):=mk2;have K2:=dD (K1.out.trans (M1.out.keeps gr2));have LL2:=dD (LL1.out.trans ll2);clear mk2 gr2 sz2 z0 z1 ll2 x3;obtain⟨g,cs',heq⟩:=M2.out.rows.sl.formS (by rw[HSL.out];omega)
   rw[HSL.out]at heq;have HEQ:Hid (Value.slice V.s.a V.s.n V.s.c= .slice (some ⟨g,0,none⟩) sn cs'):=heq;have x3:=M2.out.box.box.c 3 rfl;rw[HEQ.out]at x3;have hrw:=M2.out.rows.sl;rw[HEQ.out]at hrw;have HRW:Hid (zb slE w0.heap.size W2 (.slice (some ⟨g,0,none⟩) sn cs') m.sl):=hrw;obtain⟨zv,HZV⟩:∃zv,Hid (m.sl[k]? =some zv):=⟨_,gE (by rw[HSL.out];exact hks)⟩
   have hce:=hrw.one HZV.out;have d0:W2.cell? ⟨g,k,none⟩=some (.int .i64 zv):=by
    have:=hce 0 _ rfl;rw[zP,Addr.add_lit,zA]at this
    simpa [slE,Nat.mul_one]using this
   clear hce hrw heq
   by_cases hz:zv=0
   ·have hze:(zv == 0)=true:=by simp[hz]
    have HZ0:Hid (m.sl[k]? =some 0):=show _=_ by rw[HZV.out,hz]
    clear hz;have xf:=HRW.out.unfrozen rfl;go_upto_region 16 with fail;obtain⟨ow3,gr3,sz3⟩:=HRW.out.cell (k:=k) (o:=0) rfl HZV.out (y:=1) (u:= .int .i64 1) rfl (by decide)
    obtain⟨W3,hW3⟩:∃W3,W2.setCell ⟨g,k,none⟩ (.int .i64 1)=W3:=⟨_,rfl⟩;have e3:W2.setCell ⟨g,k*slE.k+0,none⟩ (.int .i64 1)=W3:=by rw[<-hW3];simp[slE]
    rw[e3]at ow3 gr3 sz3;rw[hW3];rw[<-HEQ.out]at ow3;clear e3 hW3 xf;have hM3:=M2.out.setS (by rw[HEQ.out];rfl) gr3 sz3 ow3
    have M3:Hid (Mk w0 hi W3 b vl2 L2 V { m with sl:=m.sl.set k 1 } vt T):=hM3.1;have K3:Hid (zn hi w W3):=K2.out.trans hM3.2;clear hM3 ow3 gr3 sz3 x3 d0 M2 K2 HRW;have HSBL:Hid (m.sb.length=sn):=show _=_ by rw[HB.out.sbl,HSL.out]
    obtain⟨gb,cb,hbe⟩:∃gb cb,Value.slice V.sb.a V.sb.n V.sb.c= .slice (some ⟨gb,0,none⟩) sn cb:=by
     have h1:=M3.out.rows.sb.1;have hl:({ m with sl:=m.sl.set k 1 }:Ma).sb.length=sn:=HSBL.out;rw[hl]at h1
     rcases h1.2 with⟨_,h2⟩ | ⟨gb,cap,cur,e1,_⟩
     ·omega
     exact⟨gb,cap,e1⟩
    have HBE:Hid (Value.slice V.sb.a V.sb.n V.sb.c= .slice (some ⟨gb,0,none⟩) sn cb):=hbe;clear hbe;obtain⟨I,HI⟩:∃I:World->Prop,Hid (∀u,I u↔u.cell? ⟨b,4,none⟩=some (.slice (some ⟨gb,0,none⟩) sn cb)):=⟨fun u=>u.cell? ⟨b,4,none⟩=some (.slice (some ⟨gb,0,none⟩) sn cb),fun _=>Iff.rfl⟩
    have HIM:Hid (∀u vl' L' m',Mk w0 hi u b vl' L' V m' vt T->u.cell? ⟨b,4,none⟩=some (.slice (some ⟨gb,0,none⟩) sn cb)):=show∀u,_ from fun u vl' L' m' hm=>by
     have:=hm.box.box.c 4 rfl;rw[HBE.out]at this;exact this
    have hI0:I W3.drew:=(HI.out _).2 (HIM.out _ _ _ _ (M3.out.grew (gW _)))
    have hF0:MkE w0 hi b w L V { m with sl:=m.sl.set k 1 } vt T W3.drew:=⟨vl2,L2,M3.out.grew (gW _),LL2.out,K3.out.trans (zn.grew (gW _))⟩
    have ht:∀y:zr I,y.world.cell? ⟨b,4,none⟩=some (.slice (some ⟨gb,0,none⟩) sn cb):=fun y=>(HI.out _).1 y.holds
    have hne:Nonempty (zr I):=⟨⟨_,hI0⟩⟩;refine zR (I:=I) 10 [(8,fun v=>∃q:List Int,v= .agg (pgc q).toArray/\q.length=8)] (fun u=>MkE w0 hi b w L V { m with sl:=m.sl.set k 1 } vt T u) hI0 hF0 qy (by kernel_rfl) rfl rfl (by decide) ?hS (by kernel_rfl) ?_
    case hS=>
     intro x hx;simp only[mC,nM,or_false]at hx;subst hx;exact⟨_,zz,rfl,rfl⟩
    simp only[List.take,List.drop];iterate 1 (refine zi rfl rfl rfl (fun K hK=>?_);go_big_quiet_op;refine hK _ ?_;clear hK K)
    refine zS (.tmp 149) ⟨b,0,none⟩ rfl rfl rfl rfl ?_;simp only[Act.put,sB,sS,sZ];iterate 6 (refine zi rfl rfl rfl (fun K hK=>?_);go_big_quiet_op;refine hK _ ?_;clear hK K)
    refine qA rfl rfl (fun _ u=>MkE w0 hi b w L V { m with sl:=m.sl.set k 1 } vt T u) (fun w' hI' hF'=>?_) (fun v1 hv=>?_)
    ·obtain⟨vl',L',mk',ll',kp'⟩:=hF';refine zL.call [.pointer (some ⟨b,0,none⟩)] rfl Tryz.func46 rfl rfl rfl ?_;refine(za8 mk').mono ?_;rintro e w'' ⟨vl3,L3,q,rfl,ql,mk3,gr3,ll3⟩;exact⟨_,rfl,(HI.out _).2 (HIM.out _ _ _ _ mk3),⟨q,rfl,ql⟩,vl3,L3,mk3,ll'.trans ll3,kp'.trans (mk'.keeps gr3)⟩
    obtain⟨q6,rfl,ql6⟩:=hv;have HQL:Hid (q6.length=8):=ql6;clear ql6;simp only[Act.put,sB,sS,sZ];iterate 1 (refine zi rfl rfl rfl (fun K hK=>?_);go_big_quiet_op;refine hK _ ?_;clear hK K)
    refine ja fun W6 hI6 hF6=>?_
    obtain⟨vl6,L6,mk6,ll6,kp6⟩:=hF6;have M6:Hid (Mk w0 hi W6 b vl6 L6 V { m with sl:=m.sl.set k 1 } vt T):=mk6;have LL6:Hid (ZC L L6):=ll6;have K6:Hid (zn hi w W6):=kp6;clear mk6 ll6 kp6 hI6 hI0 hF0 ht hne HI;have R6:Hid (zj w0.heap.size W6 (.slice (some ⟨gb,0,none⟩) sn cb) m.sb):=show zj _ _ _ _ by rw[<-HBE.out];exact M6.out.rows.sb
    refine jb rfl (.tmp 158) (.tmp 157) rfl w0.heap.size _ m.sb R6.out gb k rfl (by rw[HSBL.out];exact hks) q6 HQL.out ⟨gb,k*8,none⟩ rfl rfl rfl ?_
    intro W7 ow7 gr7 sz7;rw[<-HBE.out]at ow7;have hM7:=M6.out.setSb (by rw[HBE.out];rfl) gr7 sz7 ow7
    have M7:Hid (Mk w0 hi W7 b vl6 L6 V { m with sl:=m.sl.set k 1,sb:=m.sb.set k q6 } vt T):=hM7.1;have K7:Hid (zn hi w W7):=K6.out.trans hM7.2;clear hM7 ow7 gr7 sz7 R6 M6 K6;obtain⟨gt,ct,hte⟩:=M7.out.rows.tt.formS (by rw[HTL.out];omega)
    rw[HTL.out]at hte;have HTE:Hid (Value.slice vt.a vt.n vt.c= .slice (some ⟨gt,0,none⟩) tn ct):=hte;have R7:Hid (zb Qt w0.heap.size W7 (.slice (some ⟨gt,0,none⟩) tn ct) T):=show zb _ _ _ _ _ by rw[<-HTE.out];exact M7.out.rows.tt
    have x12:=M7.out.box.box.c 12 rfl;rw[HTE.out]at x12;have hptz:(p:Int)< (tn:Int):=by omega
    have hnz:(n:Int)<64:=by omega
    clear hte
    go_wp2_with (refine zu (E:=Qt) rfl (.tmp 168) (.tmp 166) 74 rfl w0.heap.size _ T R7.out gt p (n*3) rfl f (qm f n ⟨2,(k:Int),false⟩) HT.out (env ⟨2,(k:Int),false⟩) (by kernel_rfl) (jl f hn _) (by show n*3+3<=192;omega) (enE.one _) ⟨gt,p*192+n*3,none⟩ rfl rfl (.agg (env ⟨2,(k:Int),false⟩).toArray) rfl rfl ?_)
    intro W9 ow9 gr9 sz9;rw[<-HTE.out]at ow9;have hM9:=M7.out.setT (by rw[HTE.out];rfl) gr9 sz9 ow9
    have M9:Hid (Mk w0 hi W9 b vl6 L6 V { m with sl:=m.sl.set k 1,sb:=m.sb.set k q6 } vt (T.set p (qm f n ⟨2,(k:Int),false⟩))):=hM9.1;have K9:Hid (zn hi w W9):=K7.out.trans hM9.2;have HBF:Hid (qO { m with sl:=m.sl.set k 1,sb:=m.sb.set k q6 } (T.set p (qm f n ⟨2,(k:Int),false⟩))):=HB.out.swap HZ0.out HS.out HT.out hn H0.out HIS.out HSE.out.1;clear hM9 ow9 gr9 sz9 R7 x12;have HE:Hid (Ent w0 hi b w L m vt T p n f W9):=show Ent _ _ _ _ _ _ _ _ _ _ _ _ from⟨vl6,L6,_,_,_,M9.out,LL6.out,K9.out,HBF.out,⟨rfl,rfl,rfl,rfl⟩,.inr ⟨_,rfl⟩,fun h=>absurd h HLN.out⟩
    go_wp2
    (first | go_end0 | ((try simp only[Exit.inBlock,Exit.then]);refine bodyPost_ret (results_none rfl _ _ _) rfl ?_))
    first | exact HE.out | exact⟨⟨_,rfl⟩,HE.out⟩
   have hze:(zv == 0)=false:=by simp[hz]
   clear hz;have HE:Hid (Ent w0 hi b w L m vt T p n f W2):=show Ent _ _ _ _ _ _ _ _ _ _ _ _ from Ent.same p n f HB.out ⟨vl2,L2,M2.out,LL2.out,K2.out⟩
   go_wp2
   (first | go_end0 | ((try simp only[Exit.inBlock,Exit.then]);refine bodyPost_ret (results_none rfl _ _ _) rfl ?_))
   first | exact HE.out | exact⟨⟨_,rfl⟩,HE.out⟩
  | false=>
   go_upto_region 2 with fail;clear x3;have hpg2:=za8 M1.out;go_wp2_with fail;refine hpg2.mono ?_;clear hpg2;rintro e W5 ⟨vl5,L5,q5,rfl,ql5,mk5,gr5,ll5⟩;obtain⟨p0,p1,p2,p3,p4,p5,p6,p7,rfl⟩:=ziZ q5 ql5;simp only[pgc,mP,List.map_nil];have M5:Hid (Mk w0 hi W5 b vl5 L5 V m vt T):=mk5;have K5:=dD (K1.out.trans (M1.out.keeps gr5));have X5:Hid (zp W5 px 61 [.bool true,.bool xrd,.bool xwr,.bool false,.int .i64 xfi,.int .i64 xpg]):=(M1.out.keeps gr5).1 _ _ _ X1.out QC;have LL5:=dD (LL1.out.trans ll5);clear ql5 mk5 gr5 ll5;have hpk2:=qk 2 M5.out;go_wp2_with fail;refine hpk2.mono ?_;clear hpk2;rintro e W6 ⟨vl6,L6,z,rfl,mk6,gr6,_,_,_,_,ll6⟩;have M6:Hid (Mk w0 hi W6 b vl6 L6 V m vt T):=mk6;have K6:=dD (K5.out.trans (M5.out.keeps gr6));have X6:Hid (zp W6 px 61 [.bool true,.bool xrd,.bool xwr,.bool false,.int .i64 xfi,.int .i64 xpg]):=(M5.out.keeps gr6).1 _ _ _ X5.out QC;have LL6:=dD (LL5.out.trans ll6);clear mk6 gr6 ll6 M5 K5 X5;have hfm:=zeb ⟨⟨p0,p1,p2,p3,p4,p5,p6,p7⟩,1,z == 1,false,-1,0⟩ M6.out;go_wp2_with fail;refine hfm.mono ?_;clear hfm;rintro e W7 (⟨rfl,hE⟩ | ⟨k,q,rfl,hq,hr,vl7,L7,mk7,ll7,kp7⟩)
   ·have HEE:Hid (MkE w0 hi b w L V m vt T W7):=hE.trans LL6.out K6.out;clear hE;have HE:Hid (Ent w0 hi b w L m vt T p n f W7):=show Ent _ _ _ _ _ _ _ _ _ _ _ _ from Ent.same p n f HB.out HEE.out
    go_wp2
    (first | go_end0 | ((try simp only[Exit.inBlock,Exit.then]);refine bodyPost_ret (results_none rfl _ _ _) rfl ?_))
    first | exact HE.out | exact⟨⟨_,rfl⟩,HE.out⟩
   have HQ:Hid (m.fs[k]? =some q):=hq;have HR0:Hid (q.r=0):=hr;have M7:Hid (Mk w0 hi W7 b vl7 L7 V { m with fs:=m.fs.set k ⟨⟨p0,p1,p2,p3,p4,p5,p6,p7⟩,1,z == 1,false,-1,0⟩ } vt T):=mk7;have K7:=dD (K6.out.trans kp7);have X7:Hid (zp W7 px 61 [.bool true,.bool xrd,.bool xwr,.bool false,.int .i64 xfi,.int .i64 xpg]):=kp7.1 _ _ _ X6.out QC;have LL7:=dD (LL6.out.trans ll7);clear hq hr mk7 ll7 kp7 M6 K6 X6;have hk0:(0:Int)<=(k:Int):=by omega
   have hkd:decide ((0:Int)<=(k:Int))=true:=by simp
   have HBF:Hid (∀wf:Bool,(wf=true->xwr=true)->qO { m with fs:=m.fs.set k ⟨⟨p0,p1,p2,p3,p4,p5,p6,p7⟩,1,z == 1,false,-1,0⟩ } (T.set p (qm f n ⟨1,(k:Int),wf⟩))):=show∀wf:Bool,_ from fun wf hwf=>HB.out.mine HQ.out HR0.out HS.out HT.out hn H0.out HIS.out HSE.out.1 (fun e=>by rw[HWR.out];exact hwf e)
   go_upto_region 4 with fail
   cases xwr with
   | false=>
    obtain⟨gt,ct,hte⟩:=M7.out.rows.tt.formS (by rw[HTL.out];omega)
    rw[HTL.out]at hte;have HTE:Hid (Value.slice vt.a vt.n vt.c= .slice (some ⟨gt,0,none⟩) tn ct):=hte;clear hte;obtain⟨I,HI⟩:∃I:World->Prop,Hid (∀u,I u↔u.cell? ⟨b,12,none⟩=some (.slice (some ⟨gt,0,none⟩) tn ct)/\zp u px 61 [.bool true,.bool xrd,.bool false,.bool false,.int .i64 xfi,.int .i64 xpg]):=⟨fun u=>u.cell? ⟨b,12,none⟩=some (.slice (some ⟨gt,0,none⟩) tn ct)/\zp u px 61 [.bool true,.bool xrd,.bool false,.bool false,.int .i64 xfi,.int .i64 xpg],fun _=>Iff.rfl⟩
    have HIM:Hid (∀u vl' L' V' m',Mk w0 hi u b vl' L' V' m' vt T->u.cell? ⟨b,12,none⟩=some (.slice (some ⟨gt,0,none⟩) tn ct)):=show∀u,_ from fun u vl' L' V' m' hm=>by
     have:=hm.box.box.c 12 rfl;rw[HTE.out]at this;exact this
    have hI0:I W7.drew:=(HI.out _).2 ⟨HIM.out _ _ _ _ _ (M7.out.grew (gW _)),X7.out.grew (gW _)⟩
    have hF0:MkE w0 hi b w L V { m with fs:=m.fs.set k ⟨⟨p0,p1,p2,p3,p4,p5,p6,p7⟩,1,z == 1,false,-1,0⟩ } vt T W7.drew:=⟨vl7,L7,M7.out.grew (gW _),LL7.out,K7.out.trans (zn.grew (gW _))⟩
    have ht:∀y:zr I,y.world.cell? ⟨b,12,none⟩=some (.slice (some ⟨gt,0,none⟩) tn ct):=fun y=>((HI.out _).1 y.holds).1
    have hx2:∀y:zr I,y.world.cell? ⟨px,2,none⟩=some (.bool false):=fun y=>((HI.out _).1 y.holds).2.box.c 2 rfl
    have hx3:∀y:zr I,y.world.cell? ⟨px,3,none⟩=some (.bool false):=fun y=>((HI.out _).1 y.holds).2.box.c 3 rfl
    have hne:Nonempty (zr I):=⟨⟨_,hI0⟩⟩;have hptz:(p:Int)< (tn:Int):=by omega
    have hnz:(n:Int)<64:=by omega
    refine zR (I:=I) 17 [(11,fun v=>∃x:Int,v= .int .i64 x)] (fun u=>MkE w0 hi b w L V { m with fs:=m.fs.set k ⟨⟨p0,p1,p2,p3,p4,p5,p6,p7⟩,1,z == 1,false,-1,0⟩ } vt T u) hI0 hF0 qy (by kernel_rfl) rfl rfl (by decide) ?hS (by kernel_rfl) ?_
    case hS=>
     intro x hx;simp only[mC,nM,or_false]at hx;subst hx;exact⟨_,0,rfl⟩
    simp only[List.take,List.drop];iterate 1 (refine zi rfl rfl rfl (fun K hK=>?_);go_big_quiet_op;refine hK _ ?_;clear hK K)
    refine zS (.tmp 24) ⟨b,0,none⟩ rfl rfl rfl rfl ?_;simp only[Act.put,sB,sS,sZ];iterate 8 (refine zi rfl rfl rfl (fun K hK=>?_);go_big_quiet_op;refine hK _ ?_;clear hK K)
    refine jm ?_ ?_
    ·kernel_rfl
    simp only[Act.put,sB,sS,sZ];refine jm ?_ ?_
    ·kernel_rfl
    simp only[Act.put,sB,sS,sZ];refine jm ?_ ?_
    ·kernel_rfl
    simp only[Act.put,sB,sS,sZ];iterate 4 (refine zi rfl rfl rfl (fun K hK=>?_);go_big_quiet_op;refine hK _ ?_;clear hK K)
    refine ja fun W8 hI8 hF8=>?_
    obtain⟨vl8,L8,mk8,ll8,kp8⟩:=hF8;have M8:Hid (Mk w0 hi W8 b vl8 L8 V { m with fs:=m.fs.set k ⟨⟨p0,p1,p2,p3,p4,p5,p6,p7⟩,1,z == 1,false,-1,0⟩ } vt T):=mk8;have LL8:Hid (ZC L L8):=ll8;have K8:Hid (zn hi w W8):=kp8;clear mk8 ll8 kp8 hI8 hI0 hF0 ht hx2 hx3 hne HI;have R8:Hid (zb Qt w0.heap.size W8 (.slice (some ⟨gt,0,none⟩) tn ct) T):=show zb _ _ _ _ _ by rw[<-HTE.out];exact M8.out.rows.tt
    refine zu (E:=Qt) rfl (.tmp 40) (.tmp 38) 74 rfl w0.heap.size _ T R8.out gt p (n*3) rfl f (qm f n ⟨1,(k:Int),false⟩) HT.out (env ⟨1,(k:Int),false⟩) (by kernel_rfl) (jl f hn _) (by show n*3+3<=192;omega) (enE.one _) ⟨gt,p*192+n*3,none⟩ rfl rfl (.agg (env ⟨1,(k:Int),false⟩).toArray) rfl rfl ?_
    intro W9 ow9 gr9 sz9;rw[<-HTE.out]at ow9;have hM9:=M8.out.setT (by rw[HTE.out];rfl) gr9 sz9 ow9
    have M9:Hid (Mk w0 hi W9 b vl8 L8 V { m with fs:=m.fs.set k ⟨⟨p0,p1,p2,p3,p4,p5,p6,p7⟩,1,z == 1,false,-1,0⟩ } vt (T.set p (qm f n ⟨1,(k:Int),false⟩))):=hM9.1;have K9:Hid (zn hi w W9):=K8.out.trans hM9.2;clear hM9 ow9 gr9 sz9 R8;have HE:Hid (Ent w0 hi b w L m vt T p n f W9):=show Ent _ _ _ _ _ _ _ _ _ _ _ _ from⟨vl8,L8,_,_,_,M9.out,LL8.out,K9.out,HBF.out _ (by intro e;first | rfl | cases e),⟨rfl,rfl,rfl,List.length_set⟩,.inr ⟨_,rfl⟩,fun h=>absurd h HLN.out⟩
    go_wp2
    (first | go_end0 | ((try simp only[Exit.inBlock,Exit.then]);refine bodyPost_ret (results_none rfl _ _ _) rfl ?_))
    first | exact HE.out | exact⟨⟨_,rfl⟩,HE.out⟩
   | true=>
    obtain⟨gt,ct,hte⟩:=M7.out.rows.tt.formS (by rw[HTL.out];omega)
    rw[HTL.out]at hte;have HTE:Hid (Value.slice vt.a vt.n vt.c= .slice (some ⟨gt,0,none⟩) tn ct):=hte;clear hte;obtain⟨I,HI⟩:∃I:World->Prop,Hid (∀u,I u↔u.cell? ⟨b,12,none⟩=some (.slice (some ⟨gt,0,none⟩) tn ct)/\zp u px 61 [.bool true,.bool xrd,.bool true,.bool false,.int .i64 xfi,.int .i64 xpg]):=⟨fun u=>u.cell? ⟨b,12,none⟩=some (.slice (some ⟨gt,0,none⟩) tn ct)/\zp u px 61 [.bool true,.bool xrd,.bool true,.bool false,.int .i64 xfi,.int .i64 xpg],fun _=>Iff.rfl⟩
    have HIM:Hid (∀u vl' L' V' m',Mk w0 hi u b vl' L' V' m' vt T->u.cell? ⟨b,12,none⟩=some (.slice (some ⟨gt,0,none⟩) tn ct)):=show∀u,_ from fun u vl' L' V' m' hm=>by
     have:=hm.box.box.c 12 rfl;rw[HTE.out]at this;exact this
    have hI0:I W7.drew:=(HI.out _).2 ⟨HIM.out _ _ _ _ _ (M7.out.grew (gW _)),X7.out.grew (gW _)⟩
    have hF0:MkE w0 hi b w L V { m with fs:=m.fs.set k ⟨⟨p0,p1,p2,p3,p4,p5,p6,p7⟩,1,z == 1,false,-1,0⟩ } vt T W7.drew:=⟨vl7,L7,M7.out.grew (gW _),LL7.out,K7.out.trans (zn.grew (gW _))⟩
    have ht:∀y:zr I,y.world.cell? ⟨b,12,none⟩=some (.slice (some ⟨gt,0,none⟩) tn ct):=fun y=>((HI.out _).1 y.holds).1
    have hx2:∀y:zr I,y.world.cell? ⟨px,2,none⟩=some (.bool true):=fun y=>((HI.out _).1 y.holds).2.box.c 2 rfl
    have hx3:∀y:zr I,y.world.cell? ⟨px,3,none⟩=some (.bool false):=fun y=>((HI.out _).1 y.holds).2.box.c 3 rfl
    have hne:Nonempty (zr I):=⟨⟨_,hI0⟩⟩;have hptz:(p:Int)< (tn:Int):=by omega
    have hnz:(n:Int)<64:=by omega
    refine zR (I:=I) 17 [(11,fun v=>∃x:Int,v= .int .i64 x)] (fun u=>MkE w0 hi b w L V { m with fs:=m.fs.set k ⟨⟨p0,p1,p2,p3,p4,p5,p6,p7⟩,1,z == 1,false,-1,0⟩ } vt T u) hI0 hF0 qy (by kernel_rfl) rfl rfl (by decide) ?hS (by kernel_rfl) ?_
    case hS=>
     intro x hx;simp only[mC,nM,or_false]at hx;subst hx;exact⟨_,0,rfl⟩
    simp only[List.take,List.drop];iterate 1 (refine zi rfl rfl rfl (fun K hK=>?_);go_big_quiet_op;refine hK _ ?_;clear hK K)
    refine zS (.tmp 24) ⟨b,0,none⟩ rfl rfl rfl rfl ?_;simp only[Act.put,sB,sS,sZ];iterate 8 (refine zi rfl rfl rfl (fun K hK=>?_);go_big_quiet_op;refine hK _ ?_;clear hK K)
    iterate 1 (refine zi rfl rfl rfl (fun K hK=>?_);go_big_quiet_op;refine hK _ ?_;clear hK K)
    refine qA rfl rfl (fun _ u=>MkE w0 hi b w L V { m with fs:=m.fs.set k ⟨⟨p0,p1,p2,p3,p4,p5,p6,p7⟩,1,z == 1,false,-1,0⟩ } vt T u) (fun w' hI' hF'=>?_) (fun v1 hv=>?_)
    ·obtain⟨vl',L',mk',ll',kp'⟩:=hF';refine zL.call [.pointer (some ⟨b,0,none⟩),.int .i64 2] rfl Tryz.func43 rfl rfl rfl ?_;refine(qk 2 mk').mono ?_;rintro e w'' ⟨vl2,L2,x,rfl,mk2,gr2,_,_,_,_,ll2⟩;exact⟨_,rfl,(HI.out _).2 ⟨HIM.out _ _ _ _ _ mk2,(mk'.keeps gr2).1 _ _ _ ((HI.out _).1 hI').2 QC⟩,⟨x,rfl⟩,vl2,L2,mk2,ll'.trans ll2,kp'.trans (mk'.keeps gr2)⟩
    obtain⟨xq,rfl⟩:=hv;simp only[Act.put,sB,sS,sZ];iterate 5 (refine zi rfl rfl rfl (fun K hK=>?_);go_big_quiet_op;refine hK _ ?_;clear hK K)
    refine ja fun W8 hI8 hF8=>?_
    obtain⟨vl8,L8,mk8,ll8,kp8⟩:=hF8;have M8:Hid (Mk w0 hi W8 b vl8 L8 V { m with fs:=m.fs.set k ⟨⟨p0,p1,p2,p3,p4,p5,p6,p7⟩,1,z == 1,false,-1,0⟩ } vt T):=mk8;have LL8:Hid (ZC L L8):=ll8;have K8:Hid (zn hi w W8):=kp8;clear mk8 ll8 kp8 hI8 hI0 hF0 ht hx2 hx3 hne HI;have R8:Hid (zb Qt w0.heap.size W8 (.slice (some ⟨gt,0,none⟩) tn ct) T):=show zb _ _ _ _ _ by rw[<-HTE.out];exact M8.out.rows.tt
    refine zu (E:=Qt) rfl (.tmp 40) (.tmp 38) 74 rfl w0.heap.size _ T R8.out gt p (n*3) rfl f (qm f n ⟨1,(k:Int),(xq == 1)⟩) HT.out (env ⟨1,(k:Int),(xq == 1)⟩) (by kernel_rfl) (jl f hn _) (by show n*3+3<=192;omega) (enE.one _) ⟨gt,p*192+n*3,none⟩ rfl rfl (.agg (env ⟨1,(k:Int),(xq == 1)⟩).toArray) rfl rfl ?_
    intro W9 ow9 gr9 sz9;rw[<-HTE.out]at ow9;have hM9:=M8.out.setT (by rw[HTE.out];rfl) gr9 sz9 ow9
    have M9:Hid (Mk w0 hi W9 b vl8 L8 V { m with fs:=m.fs.set k ⟨⟨p0,p1,p2,p3,p4,p5,p6,p7⟩,1,z == 1,false,-1,0⟩ } vt (T.set p (qm f n ⟨1,(k:Int),(xq == 1)⟩))):=hM9.1;have K9:Hid (zn hi w W9):=K8.out.trans hM9.2;clear hM9 ow9 gr9 sz9 R8;have HE:Hid (Ent w0 hi b w L m vt T p n f W9):=show Ent _ _ _ _ _ _ _ _ _ _ _ _ from⟨vl8,L8,_,_,_,M9.out,LL8.out,K9.out,HBF.out _ (by intro e;first | rfl | cases e),⟨rfl,rfl,rfl,List.length_set⟩,.inr ⟨_,rfl⟩,fun h=>absurd h HLN.out⟩
    go_wp2
    (first | go_end0 | ((try simp only[Exit.inBlock,Exit.then]);refine bodyPost_ret (results_none rfl _ _ _) rfl ?_))
    first | exact HE.out | exact⟨⟨_,rfl⟩,HE.out⟩
end
section
def yn (b:Bool):Int:=if b=true then 121 else 110
section
variable{m:Ma} {T:List (Nat->En)}
theorem qO.more (h:qO m T) {s':Sp} (h4:m.sp.length<4) (hl:(wrL s'.ars).1=0) (hlive:s'.live=false->s'.ars=[]):qO { m with sp:=m.sp++ [s'] } (T++ [fun _=>en0]):=by
 refine⟨h.fs40,h.fok,h.sl60,h.sbl,h.sq,h.dok,h.st,h.cnt,h.blk,h.que,by simp;omega,fun s hs=>?_,by simpa using h.tl,?_,fun p s f hs hT n hn=>?_,fun k f hk=>?_,fun k z hk=>?_⟩
 ·rcases List.mem_append.1 hs with hs | hs
  ·exact h.spok s hs
  rw[List.mem_singleton]at hs;subst hs;exact⟨hl,hlive⟩
 ·obtain⟨a1,a2,a3⟩:=zU.1 h.ca;exact zU.2 ⟨fun c hc=>a1 c hc,fun q c hq=>(by cases hq),a3⟩
 ·by_cases e:p<m.sp.length
  ·rw[List.getElem?_append_left e]at hs;rw[List.getElem?_append_left (by rw[h.tl];exact e)]at hT
   exact h.ent p s f hs hT n hn
  have hp:p<m.sp.length+1:=by
   have:=(gS.1 hs).1
   simpa using this
  have:p=T.length:=by rw[h.tl];omega
  subst this;rw[aR (nR _),Nat.sub_self]at hT;cases hT;exact .inl rfl
 ·rw[zao _ _ _ (by decide)]
  exact h.cf k f hk
 rw[zao _ _ _ (by decide)]
 exact h.cs k z hk
end
def zkT (g:Nat->Nat):Nat->Nat
 | 0=>0
 | n+1=>zkT g n+g n
def jQ (l:List Ar):Nat->Nat
 | 0=>0
 | n+1=>jQ l n+(zH l n).is.toNat
theorem zf5 {l:List Ar} {a:Ar} (h:(J4 l a).2=0):jQ (J4 l a).1 64<=jQ l 64+(a.tz - a.fr).toNat:=by
 obtain⟨h1,h2,h3,h4,h5⟩:=ze5 h;have ha:=Zj.1 h2;have hg:=zal (jV.1 h1).2 ha;unfold jo at ha;have key:∀n:Nat,n<=64->jQ (J4 l a).1 n<=jQ l n+(min (n:Int) a.tz - min (n:Int) a.fr).toNat:=by
  intro n
  induction n with
  | zero=>intro _;simp[jQ]
  | succ n ih=>
   intro hn;have ih':=ih (by omega)
   unfold jQ;have e:(zH (J4 l a).1 n).is=(zey l a n).is:=by rw[h5,zc9 hg (by omega)]
   rw[e];unfold zey
   by_cases hin:ZG a n=true
   ·have:=zX.1 hin;rw[if_pos hin,zfO];simp only[Bool.toNat_true];omega
   have hin':¬(a.fr<=(n:Int)/\(n:Int)<a.tz):=fun h=>hin (zX.2 h)
   rw[if_neg hin];omega
 have:=key 64 (nR _);omega
end
section
open Go.RowKit
section
variable{base hi S0:Nat} {w w':World} {V:MaV} {m:Ma} {vt:Sli} {T:List (Nat->En)}
def SpB (base S0:Nat) (w:World) (V:MaV) (m:Ma):Prop:=∃xs:List SpV,zb Zl base w (.slice V.sp.a V.sp.n V.sp.c) xs/\xs.length=m.sp.length/\∀(i:Nat) x s,xs[i]? =some x->m.sp[i]? =some s->(x.live=s.live/\zb arE base w x.ar.v s.ars/\x.tab=zah/\s.tb=qx)/\∀g,x.ar.v.ownBlock=some g->g<S0
theorem MkR.spB (h:MkR base hi w V m vt T):SpB base w.heap.size w V m:=by
 obtain⟨xs,h1,h2,h3⟩:=h.sp;exact⟨xs,h1,h2,fun i x s hx hs=>⟨h3 i x s hx hs,fun g hg=>((h3 i x s hx hs).2.1.lt g hg).2⟩⟩
theorem SpB.grew (h:SpB base S0 w V m) (k:zc w w'):SpB base S0 w' V m:=by
 obtain⟨xs,h1,h2,h3⟩:=h;refine⟨xs,h1.grew k,h2,fun i x s hx hs=>?_⟩
 obtain⟨⟨a1,a2,a3⟩,a4⟩:=h3 i x s hx hs;exact⟨⟨a1,a2.grew k,a3⟩,a4⟩
theorem SpB.kind (h:SpB base S0 w V m) {g:Nat} {t:TypeId} {cs:Array Value} (hg:w.grownBy w' (some g)) (ho:w.heap[g]? =some (.cells cs t (0,0))) (h1:t≠55) (h2:t≠114\/S0<=g):SpB base S0 w' V m:=by
 obtain⟨xs,k1,k2,k3⟩:=h;refine⟨xs,k1.kind hg ho h1,k2,fun i x s hx hs=>?_⟩
 obtain⟨⟨a1,a2,a3⟩,a4⟩:=k3 i x s hx hs;refine⟨⟨a1,?_,a3⟩,a4⟩
 rcases h2 with h2 | h2
 ·exact a2.kind hg ho h2
 exact a2.grown hg fun k hk e=>by cases e;have:=a4 _ hk;omega
theorem MkR.area (h:MkR base hi w V m vt T) (hs:SpB base S0 w V m) {g:Nat} {cs:Array Value} (hg:w.grownBy w' (some g)) (ho:w.heap[g]? =some (.cells cs 114 (0,0))) (hb:S0<=g):MkR base hi w' V m vt T:=by
 obtain⟨k1,k2,k3,k4,k5,k6,k7,k8,k9⟩:=h.kept hg ho;obtain⟨xs,q1,q2,q3⟩:=hs.kind hg ho (by decide) (.inr hb)
 exact⟨nT h.hw hg.size,h.bh,k1 (by decide),k2 (.inl (by decide)),h.slh,k3 (.inl (by decide)),h.sbh,h.sq,k4 (.inl (by decide)),h.dbh,k5 (by decide),k6 (by decide) (.inl (by decide)),k7 (by decide),⟨xs,q1,q2,fun i x s hx hs=>(q3 i x s hx hs).1⟩,k9 (by decide),h.ap⟩
theorem qf (h:w.grownBy w' none):zc w w':=qV (zc.refl _) h (fun g e=>by cases e)
theorem MkR.addSp {ys:List SpV} (h:MkR base hi w V m vt T) (s1:zb Zl base w (.slice V.sp.a V.sp.n V.sp.c) ys) (s2:ys.length=m.sp.length) (s3:∀(i:Nat) x s,ys[i]? =some x->m.sp[i]? =some s->x.live=s.live/\zb arE base w x.ar.v s.ars/\x.tab=zah/\s.tb=qx)
  (hg:w.grownBy w' (Value.slice V.sp.a V.sp.n V.sp.c).ownBlock) (s xa:Sli) {l:List Ar} (hl:zb arE base w xa.v l) (ho:zb Zl base w' (.slice s.a s.n s.c) (ys++ [⟨true,xa,zw,zw,zw,zw,zw,zw,zw,zw⟩])):MkR base hi w' { V with sp:=s } { m with sp:=m.sp++ [⟨true,l,qx⟩] } vt T:=by
 have fin:(∀{x:SpV} {q:Sp},zb arE base w x.ar.v q.ars->zb arE base w' x.ar.v q.ars)->zb arE base w' xa.v l->∃xs:List SpV,zb Zl base w' (.slice s.a s.n s.c) xs/\xs.length=(m.sp++ [(⟨true,l,qx⟩:Sp)]).length/\∀(i:Nat) x q,xs[i]? =some x->(m.sp++ [(⟨true,l,qx⟩:Sp)])[i]? =some q->x.live=q.live/\zb arE base w' x.ar.v q.ars/\x.tab=zah/\q.tb=qx:=fun k1 k2=>by
  refine⟨_,ho,by simp[s2],fun i x q hx hq=>?_⟩
  rcases Nat.lt_or_ge i ys.length with hi | hi
  ·rw[List.getElem?_append_left hi]at hx;rw[List.getElem?_append_left (by omega)]at hq
   obtain⟨a1,a2,a3,a4⟩:=s3 i x q hx hq;exact⟨a1,k1 a2,a3,a4⟩
  rw[aR hi]at hx;rw[aR (by omega),<-s2]at hq
  have hi0:i - ys.length=0:=by
   have:=(gS.1 hx).1
   simp at this
   omega
  rw[hi0]at hx hq;cases hx;cases hq;exact⟨rfl,k2,rfl,rfl⟩
 cases hob:(Value.slice V.sp.a V.sp.n V.sp.c).ownBlock with
 | none=>
  rw[hob]at hg;have k:=qf hg;have h':=h.grew k;exact⟨h'.hw,h'.bh,h'.fs,h'.sl,h'.slh,h'.sb,h'.sbh,h'.sq,h'.db,h'.dbh,h'.dq,h'.fl,h'.ca,fin (fun h=>h.grew k) (hl.grew k),h'.tt,h'.ap⟩
 | some g=>
  rw[hob]at hg;obtain⟨cs,hc⟩:=s1.obj hob;obtain⟨k1,k2,k3,k4,k5,k6,k7,k8,k9⟩:=h.kept hg hc;exact⟨nT h.hw hg.size,h.bh,k1 (by decide),k2 (.inl (by decide)),h.slh,k3 (.inl (by decide)),h.sbh,h.sq,k4 (.inl (by decide)),h.dbh,k5 (by decide),k6 (by decide) (.inl (by decide)),k7 (by decide),fin (fun h=>h.kind hg hc (by decide)) (hl.kind hg hc (by decide)),k9 (by decide),h.ap⟩
theorem MkR.addT (h:MkR base hi w V m vt T) (hg:w.grownBy w' (Value.slice vt.a vt.n vt.c).ownBlock) (s:Sli) {f:Nat->En} (ho:zb Qt base w' (.slice s.a s.n s.c) (T++ [f])):MkR base hi w' V m s (T++ [f]):=by
 cases hob:(Value.slice vt.a vt.n vt.c).ownBlock with
 | none=>
  rw[hob]at hg;have h':=h.grew (qf hg);exact⟨h'.hw,h'.bh,h'.fs,h'.sl,h'.slh,h'.sb,h'.sbh,h'.sq,h'.db,h'.dbh,h'.dq,h'.fl,h'.ca,h'.sp,ho,h'.ap⟩
 | some g=>
  rw[hob]at hg;obtain⟨cs,hc⟩:=h.tt.obj hob;obtain⟨k1,k2,k3,k4,k5,k6,k7,k8,k9⟩:=h.kept hg hc;exact⟨nT h.hw hg.size,h.bh,k1 (by decide),k2 (.inl (by decide)),h.slh,k3 (.inl (by decide)),h.sbh,h.sq,k4 (.inl (by decide)),h.dbh,k5 (by decide),k6 (by decide) (.inl (by decide)),k7 (by decide),k8 (by decide) (by decide),ho,h.ap⟩
theorem zn.row {α:Type} {E:Elt α} {v:Value} {l:List α} (h:zb E base w v l) (hg:w.grownBy w' v.ownBlock) (hn:∀p,¬Loc hi p E.ty):zn hi w w':=by
 cases hob:v.ownBlock with
 | none=>
  rw[hob]at hg;exact zn.grew (qf hg)
 | some g=>
  rw[hob]at hg;obtain⟨cs,hc⟩:=h.obj hob;exact zn.kind hg hc (fun p hl=>absurd hl (hn p))
theorem zp.row {α:Type} {E:Elt α} {v:Value} {l:List α} {b:Nat} {t:TypeId} {cs:List Value} (h:zb E base w v l) (hg:w.grownBy w' v.ownBlock) (hb:zp w b t cs) (ht:t≠E.ty):zp w' b t cs:=hb.beside hg fun g e=>h.ne hb ht g e
theorem zc.row {α:Type} {E:Elt α} {v:Value} {l:List α} {w0:World} (h:zb E w0.heap.size w v l) (hg:w.grownBy w' v.ownBlock) (h0:zc w0 w):zc w0 w':=qV h0 hg fun g e=>(h.lt g e).1
end
section
variable{w0 w w':World} {hi b S0:Nat} {vl:Sli} {L:List Int} {V:MaV} {m:Ma} {vt:Sli} {T:List (Nat->En)}
theorem Mk.area (h:Mk w0 hi w b vl L V m vt T) (hs:SpB w0.heap.size S0 w V m) {g:Nat} {cs:List Value} (hg:w.grownBy w' (some g)) (ho:zp w g 114 cs) (hb:S0<=g) (hb2:w0.heap.size<=g):Mk w0 hi w' b vl L V m vt T/\SpB w0.heap.size S0 w' V m:=by
 refine⟨⟨zg h.gr hg hb2,h.hb,h.box.beside hg (fun k e=>?_),h.lr,h.lc,h.lb,h.rows.area hs hg ho hb⟩,hs.kind hg ho (by decide) (.inr hb)⟩
 cases e;intro e;subst e;have h1:w.heap[b]? =_:=h.box;rw[show w.heap[b]? =_ from ho]at h1
 cases h1
theorem SpB.pick (hs:SpB w0.heap.size S0 w V m) (h:Mk w0 hi w b vl L V m vt T) (hg:w.grownBy w' (some b)):SpB w0.heap.size S0 w' V m:=hs.kind hg h.box (by decide) (.inl (by decide))
theorem zb.pick {l:List Ar} {v:Value} (hs:zb arE w0.heap.size w v l) (h:Mk w0 hi w b vl L V m vt T) (hg:w.grownBy w' (some b)):zb arE w0.heap.size w' v l:=hs.kind hg h.box (by decide)
end
theorem QD {hi p:Nat}:Loc hi p 114:=⟨by decide,by decide,by decide,by decide,by decide,by decide,by decide,by decide,fun h=>absurd h (by decide)⟩
theorem jc (w:World) (g i:Nat) (u:Value):w.grownBy (w.setCell ⟨g,i,none⟩ u) (some g):=⟨rfl,rfl,rfl,by simp[World.setCell],fun k _ hk=>Below.heap_setCell _ _ _ _ (fun e=>hk (by rw[e]))⟩
def Spc (w0:World) (hi b:Nat) (w:World) (L:List Int) (m:Ma) (T:List (Nat->En)) (w':World):Prop:=∃vl' L' V' m' vt' T' l,Mk w0 hi w' b vl' L' V' m' vt' T'/\ZC L L'/\zn hi w w'/\qO m' T'/\(m'.sp=m.sp++ [⟨true,l,qx⟩]/\m'.fl=m.fl/\m'.hand=m.hand/\m'.fs.length=m.fs.length)/\(jn m.fl.length l/\jQ l 64<=12)/\(L=[]->m'={ m with sp:=m.sp++ [⟨true,[],qx⟩] }/\T'=T++ [fun _=>en0])
theorem zab (f:Nat->En) (n:Nat):qm f n (f n)=f:=by
 funext j
 unfold qm
 split
 ·rename_i e
  rw[e]
 rfl
theorem za7 {α:Type} {l:List α} {i:Nat} {x:α} (h:l[i]? =some x):l.set i x=l:=by
 apply List.ext_getElem?
 intro j
 by_cases e:j=i
 ·subst e;rw[sF (gS.1 h).1,h]
 rw[sN (fun h=>e h.symm)]
section
variable{m:Ma} {T:List (Nat->En)} {s0 s1:Sp} {fA fB:Nat->En} {n:Nat}
theorem qO.entry0 (h:qO m T) (hs0:m.sp[0]? =some s0) (hA:T[0]? =some fA) (hn:n<64):fA n=en0\/(∃(k:Nat) (fr:Fr),(fA n).kind=1/\(fA n).n=(k:Int)/\m.fs[k]? =some fr)\/(∃(k:Nat) (z:Int),(fA n).kind=2/\(fA n).n=(k:Int)/\m.sl[k]? =some z/\0<=z/\z<=1000):=by
 rcases h.ent 0 s0 fA hs0 hA n hn with e | e
 ·exact .inl e
 by_cases hk:(fA n).kind=2
 ·refine .inr (.inr ?_);obtain⟨h1,h2,h3⟩:=e;obtain⟨a1,a2,a3⟩:=zar h1;unfold JF at h3
  by_cases h0:(zH s0.ars n).is=false
  ·rw[if_pos h0]at h3;cases h3
  rw[if_neg h0,if_pos hk]at h3
  split at h3
  ·cases h3
  rename_i hno
  have hlt:(fA n).n.toNat<m.sl.length:=by
   have:¬(m.sl.length:Int)<=(fA n).n:=fun e=>hno (.inl e)
   omega
  have hz:=h.cs _ _ (gE hlt);have hh:=zaE T 2 ((fA n).n.toNat:Int);have h5:=h.tl;have h6:=h.spl;exact⟨(fA n).n.toNat,m.sl[(fA n).n.toNat],hk,by omega,gE hlt,by omega,by omega⟩
 obtain⟨p1,p2,p3,_⟩:=qS e hk;have hlt:(fA n).n.toNat<m.fs.length:=by omega
 exact .inr (.inl ⟨(fA n).n.toNat,m.fs[(fA n).n.toNat],p1,by omega,gE hlt⟩)
theorem qO.forkP (h:qO m T) (hs0:m.sp[0]? =some s0) (hs1:m.sp[1]? =some s1) (har:s1.ars=s0.ars) (hA:T[0]? =some fA) (hB:T[1]? =some fB) (hn:n<64) (hBn:fB n=en0) {k:Nat} {fr:Fr} (hk:m.fs[k]? =some fr) (hkind:(fA n).kind=1) (hen:(fA n).n=(k:Int)) {e':En} (he:e'=if(zH s0.ars n).sh=true then fA n else{ fA n with wr:=false }):
  qO { m with fs:=m.fs.set k { fr with r:=fr.r+1 } } ((T.set 0 (qm fA n e')).set 1 (qm fB n e')):=by
 have hne:fA n≠en0:=fun e=>by rw[e]at hkind;cases hkind
 have hok:za5 m (zH s0.ars n) (fA n):=(h.ent 0 s0 fA hs0 hA n hn).resolve_left hne
 by_cases hsh:(zH s0.ars n).sh=true
 ·rw[if_pos hsh]at he;subst he;rw[zab,za7 hA];refine h.share hk hA rfl hB (by decide) hn hBn hs1 (by rw[har];exact hok) hkind hen (fun _ hf=>?_)
  obtain⟨h1,h2,h3⟩:=hok;unfold JF at h3
  by_cases h0:(zH s0.ars n).is=false
  ·rw[if_pos h0]at h3;cases h3
  rw[if_neg h0,if_neg (by rw[hkind];decide)]at h3
  split at h3
  ·cases h3
  split at h3
  ·cases h3
  rename_i hno
  have hfr:z8 m (fA n).n=fr:=by rw[hen];exact Qe hk
  have:0<=(zH s0.ars n).file/\(z8 m (fA n).n).f=(zH s0.ars n).file/\(z8 m (fA n).n).x=(zH s0.ars n).page:=Classical.byContradiction fun e=>hno (.inr (.inl ⟨hsh,e⟩))
  rw[hfr]at this;omega
 rw[if_neg hsh]at he;subst he;have g:=h.guard hA hn hne;have hA':(T.set 0 (qm fA n { fA n with wr:=false }))[0]? =some (qm fA n { fA n with wr:=false }):=sF (gS.1 hA).1;have hB':(T.set 0 (qm fA n { fA n with wr:=false }))[1]? =some fB:=by rw[sN (by decide)];exact hB
 have hv:qm fA n { fA n with wr:=false } n={ fA n with wr:=false }:=by unfold qm;rw[if_pos rfl]
 refine g.share hk hA' hv hB' (by decide) hn hBn hs1 ?_ hkind hen (fun e=>by cases e)
 rw[har];have:=g.ent 0 s0 _ hs0 hA' n hn;rw[hv]at this;refine this.resolve_left fun e=>?_
 have:({ fA n with wr:=false }:En).kind=en0.kind:=by rw[e]
 rw[show({ fA n with wr:=false }:En).kind=(fA n).kind from rfl,hkind]at this
 cases this
theorem qO.forkS (h:qO m T) (hs0:m.sp[0]? =some s0) (hs1:m.sp[1]? =some s1) (har:s1.ars=s0.ars) (hA:T[0]? =some fA) (hB:T[1]? =some fB) (hn:n<64) (hBn:fB n=en0) {k:Nat} {z:Int} (hk:m.sl[k]? =some z) (hkind:(fA n).kind=2) (hen:(fA n).n=(k:Int)):
  qO { m with sl:=m.sl.set k (z+1) } ((T.set 0 (qm fA n (fA n))).set 1 (qm fB n (fA n))):=by
 have hne:fA n≠en0:=fun e=>by rw[e]at hkind;cases hkind
 rw[zab,za7 hA];exact h.shareS hk hB hn hBn hs1 (by rw[har];exact(h.ent 0 s0 fA hs0 hA n hn).resolve_left hne) hkind hen
theorem zhN (hA:T[0]? =some fA) (hB:T[1]? =some fB) (hAn:fA n=en0) (hBn:fB n=en0):(T.set 0 (qm fA n en0)).set 1 (qm fB n en0)=T:=by
 have h1:qm fA n en0=fA:=by
  have:=zab fA n;rwa [hAn]at this
 have h2:qm fB n en0=fB:=by
  have:=zab fB n;rwa [hBn]at this
 rw[h1,h2,za7 hA,za7 hB]
end
section
variable{α:Type} {E:Elt α}
theorem zb4 {w:World} {o:Oper} {a:Act} (p x:Operand) (t:TypeId) (ho:o.op= .store t p x) (base:Nat) (v:Value) (l:List α) (hown:zb E base w v l)
  (g i j:Nat) (hg:v.ownBlock=some g) (e y:α) (hi:l[i]? =some e) (cs:List Value) (hk:(Tryz.prog.info? t).map (·.size)=some cs.length) (hy:E.enc y=splice (E.enc e) j cs) (hj:j+cs.length<=E.k) (h1:∀u∈cs,u.oneCell'=true)
  (ad:Addr) (hp:a.eval p= .pointer (some ad)) (had:ad=⟨g,i*E.k+j,none⟩) (vx:Value) (hx:a.eval x=vx) (hvx:vx.cells=cs.toArray):
  ∃w',(execOp a.eval o).run Tryz.prog w= .ok .skip w'/\zb E base w' v (l.set i y)/\w.grownBy w' (some g)/\w'.heap.size=w.heap.size:=by
 subst had;have hil:i<l.length:=(gS.1 hi).1;have hfit:i*E.k+j+cs.length<=l.length*E.k:=by
  have:(i+1)*E.k<=l.length*E.k:=Nat.mul_le_mul_right _ hil;rw[Nat.add_mul]at this;omega
 obtain⟨w',hr,h2,h3,h4⟩:=qQ (P:=Tryz.prog) hown.1 hg (i*E.k+j) cs hfit h1;have hsz:(Go.sizeOf t).run Tryz.prog w= .ok cs.length w:=by
  cases hq:Tryz.prog.info? t with
  | none=>simp[hq]at hk
  | some i=>simp[hq]at hk;simp[Go.sizeOf,typeInfo,hq,hk]
 have hall:(Instr.storeAt t (.pointer (some ⟨g,i*E.k+j,none⟩)) vx).run Tryz.prog w= .ok () w':=by
  simp[Instr.storeAt,Instr.sureAddr,storeVar,Sem.run_bind,hsz,Result.andThen,hvx,hr]
 rw[Qw j cs hy hj l i hi]at h2;refine⟨w',?_,⟨by rw[List.length_set];exact h2,by rw[List.length_set];exact hown.2⟩,h3,h4⟩
 simp only[execOp,ho,hp,hx,Sem.run_bind,hall,Result.andThen,Sem.run_pure]
theorem zej {P:Program} {o:Oper} {a:Act} {w w':World} {K:Value->World->Prop} (hr:(execOp a.eval o).run P w= .ok .skip w') (h:K undef w'):zL P o a w K:=by
 unfold zL;rw[hr];exact h
end
theorem Ql {hi p:Nat}:Loc hi p 74:=⟨by decide,by decide,by decide,by decide,by decide,by decide,by decide,by decide,fun h=>absurd h (by decide)⟩
theorem jW {hi p:Nat}:Loc hi p 62:=⟨by decide,by decide,by decide,by decide,by decide,by decide,by decide,by decide,fun h=>absurd h (by decide)⟩
theorem zfj {o:Oper} {a:Act} {w:World} {K:Value->World->Prop} (ty:TypeId) (p x:Operand) (ho:o.op= .store ty p x) (b off:Nat) (hp:a.eval p= .pointer (some ⟨b,off,none⟩)) (vx:Value) (hx:a.eval x=vx) (vs:List Value) (hvx:vx.cells=vs.toArray)
  {t:TypeId} {cs:List Value} (hb:zp w b t cs) (hl:off+vs.length<=cs.length) (hi:(Tryz.prog.info? ty).map (·.size)=some vs.length) (h1:∀v∈vs,v.oneCell'=true)
  (h:∀w',zp w' b t (splice cs off vs)->w.grownBy w' (some b)->w'.heap.size=w.heap.size->K undef w'):zL Tryz.prog o a w K:=by
 have hag:(Value.agg vs.toArray).cells=vs.toArray:=by
  unfold Value.cells;simp
 have hr:(execOp a.eval o).run Tryz.prog w= .ok .skip (w.setCells b off vs):=by
  have h2:=run_storeAt_mid (P:=Tryz.prog) w b off ty vs.toArray (fun j hj=>by
   have:=hb.box.there (off+j) (by simp at hj;omega)
   rw[zA]at this;exact this) (by simpa using hi) (all_oneCell_toArray h1)
  have h3:(Instr.storeAt ty (.pointer (some ⟨b,off,none⟩)) vx).run Tryz.prog w=(Instr.storeAt ty (.pointer (some ⟨b,off,none⟩)) (.agg vs.toArray)).run Tryz.prog w:=by
   simp only[Instr.storeAt,Instr.sureAddr,storeVar,hvx,hag]
  simp only[execOp,ho,hp,hx,Sem.run_bind,h3,h2,rA,Sem.run_pure]
 exact zej hr (h _ (hb.part (ds:=vs) (o:=off) hl) (zO b vs off w).1 (zO b vs off w).2)
theorem zbm {ops:Array Oper} {rest:List Oper} {o:Oper} {a:Act} {w:World} {Q:Exit->Act->World->Prop} (hgd:o.guard=none) (ty:TypeId) (p x:Operand) (ho:o.op= .store ty p x) (b off:Nat) (hp:a.eval p= .pointer (some ⟨b,off,none⟩)) (vx:Value) (hx:a.eval x=vx) (vs:List Value) (hvx:vx.cells=vs.toArray)
  {t:TypeId} {cs:List Value} (hb:zp w b t cs) (hl:off+vs.length<=cs.length) (hi:(Tryz.prog.info? ty).map (·.size)=some vs.length) (h1:∀v∈vs,v.oneCell'=true)
  (h:∀w',zp w' b t (splice cs off vs)->w.grownBy w' (some b)->w'.heap.size=w.heap.size->wpList Tryz.prog ops Q rest (a.put o.dst undef) w'):wpList Tryz.prog ops Q (o :: rest) a w:=
 wpList_plain hgd fun _ hK=>(zfj (K:=fun v w'=>v=undef/\wpList Tryz.prog ops Q rest (a.put o.dst undef) w') ty p x ho b off hp vx hx vs hvx hb hl hi h1 (fun w' k1 k2 k3=>⟨rfl,h w' k1 k2 k3⟩)).wp (fun v w' hk=>hK _ _ (by rw[hk.1];exact hk.2))
def zds (m:Ma):Prop:=∀s∈m.sp,(wrL s.ars).1=0/\tbW s.tb=0
theorem zjO {m:Ma} (h:Zp m=0):zds m:=fun s hs=>by
 unfold Zp at h
 split at h
 ·cases h
 have:=zI.1 h (spE s) (List.mem_map.2 ⟨s,hs,rfl⟩);unfold spE at this
 split at this
 ·rename_i a;exact absurd this a
 rename_i a
 split at this
 ·rename_i b;exact absurd this b
 rename_i b;exact⟨by simpa using a,by simpa using b⟩
theorem zj5 {s:Sp} (h:tbW s.tb=0) (n:Nat):enW (zJ s n)=0:=by
 unfold zJ za0;have hall:=Jt.1 h;have:zfz (s.tb[n / 8]?.getD []):=by
  cases e:s.tb[n / 8]? with
  | none=>exact .inl rfl
  | some x=>exact hall x (mG e)
 exact this.get (n % 8)
theorem zfX {s:Sp} {n:Nat} (h:n<64):zhI s.tb (n:Int)=zJ s n:=by
 unfold zhI zJ;rw[if_pos (by omega),tN]
theorem zdO {s:Sp} {j n:Nat} (h:(qh s)[j]? =some n):n<64:=by
 have:=mG h;unfold qh at this;rw[List.mem_filter,List.mem_range]at this;exact this.1
theorem zh7:∀{l:List Ar} {p:Option Ar} {k:Nat} {a:Ar},ZL p l->l[k]? =some a->jo a
 | [],_,_,_,_,h=>by simp at h
 | b :: l,p,0,a,hc,h=>by
  simp at h
  subst h;exact hc.1
 | b :: l,p,k+1,a,hc,h=>zh7 hc.2.2 (by simpa using h)
theorem zbg (V:MaV) (m:Ma) (w:World) (hm:zC w V m) (h1:zew m) (h2:zds m):
  Calls Tryz.prog 119 #[.agg #[.slice V.f.a V.f.n V.f.c,.int .i64 m.hand,.slice V.s.a V.s.n V.s.c,.slice V.sb.a V.sb.n V.sb.c,.slice V.sq.a V.sq.n V.sq.c,.slice V.db.a V.db.n V.db.c,.slice V.dq.a V.dq.n V.dq.c,.slice V.fl.a V.fl.n V.fl.c,.int .i64 m.cnt,.slice V.ca.a V.ca.n V.ca.c,.slice V.sp.a V.sp.n V.sp.c]] w fun e w'=>e= .returned (.int .i64 (zbp m))/\zc w w':=by
 have HWE:Hid (∀(a:Ar) (n:Nat) (e:En) W,zc w W->jo a->n<=64->0<=e.n->Calls Tryz.prog 164 #[.agg #[.slice V.f.a V.f.n V.f.c,.int .i64 m.hand,.slice V.s.a V.s.n V.s.c,.slice V.sb.a V.sb.n V.sb.c,.slice V.sq.a V.sq.n V.sq.c,.slice V.db.a V.db.n V.db.c,.slice V.dq.a V.dq.n V.dq.c,.slice V.fl.a V.fl.n V.fl.c,.int .i64 m.cnt,.slice V.ca.a V.ca.n V.ca.c,.slice V.sp.a V.sp.n V.sp.c],.agg #[.int .i64 a.fr,.int .i64 a.tz,.bool a.rd,.bool a.wr,.bool a.sh,.int .i64 a.file,.int .i64 a.base],.int .i64 (n:Int),.agg #[.int .i64 e.kind,.int .i64 e.n,.bool e.wr]] W fun e' w'=>e'= .returned (.int .i64 (JI m a n e))/\zc W w'):=show∀(a:Ar) (n:Nat) (e:En) W,_ from fun a n e W hW ha hn he=>zbi V m a n e W (hm.grew hW) ha hn he
 have HM1:Hid (Ze m.fs m.hand=0):=h1.mem;have HRS:Hid (zds m):=h2;obtain⟨vf,vs,vsb,vsq,vdb,vdq,vfl,vca,⟨spa,spn,spc⟩⟩:=V;dsimp only at HWE⊢;obtain⟨-,-,-,-,-,-,-,-,n9⟩:=hm.ns;dsimp only at n9;obtain⟨xs,hxl,hrow,hsp⟩:=hm.spaces;have HXL:Hid (xs.length=m.sp.length):=hxl;have HR:Hid (∀(j:Nat) x,xs[j]? =some x->∃ad,spa=some ad/\∀W,zc w W->zjs W (ad.add (j*10)) x):=hrow;have HSP:Hid (∀(i:Nat) x s,xs[i]? =some x->m.sp[i]? =some s->qL w x s):=hsp;have HN:Hid (m.sp.length=spn):=n9.symm;have hbig:spn<=9223372036854775807:=by
  obtain⟨ys,k1,k2,_⟩:=hm.sp;have:=k1.short;omega
 obtain⟨Z,HZ⟩:∃Z,Hid (zbp m=Z):=⟨_,rfl⟩;rw[HZ.out];clear hm hxl hrow hsp n9 h1 h2;obtain⟨W0,hW0⟩:∃W0,w.alloc (.cells #[.slice vf.a vf.n vf.c,.int .i64 m.hand,.slice vs.a vs.n vs.c,.slice vsb.a vsb.n vsb.c,.slice vsq.a vsq.n vsq.c,.slice vdb.a vdb.n vdb.c,.slice vdq.a vdq.n vdq.c,.slice vfl.a vfl.n vfl.c,.int .i64 m.cnt,.slice vca.a vca.n vca.c,.slice spa spn spc] 41)=W0:=⟨_,rfl⟩;have HG0:=gA hW0
 have X0:=xA hW0
 have HW0:Hid (_=W0):=hW0;clear hW0
 go_enter Tryz.func119,Tryz.ntmps119
 go_upto_region 1 with fail;rw[HW0.out];have x10:=X0.out.c 10 rfl;go_wp2;clear x10
 go_loopg [12] spn (fun gg s12 wr=>∃kk:Nat,kk<=spn/\spn - kk<=gg/\s12= .int .i64 kk/\Hid (zc w wr)/\Hid (Box wr w.heap.size [.slice vf.a vf.n vf.c,.int .i64 m.hand,.slice vs.a vs.n vs.c,.slice vsb.a vsb.n vsb.c,.slice vsq.a vsq.n vsq.c,.slice vdb.a vdb.n vdb.c,.slice vdq.a vdq.n vdq.c,.slice vfl.a vfl.n vfl.c,.int .i64 m.cnt,.slice vca.a vca.n vca.c,.slice spa spn spc])/\Hid (∀(j:Nat) s,j<kk->m.sp[j]? =some s->Zd m s=0))
 case atStart=>exact⟨0,nZ _,by omega,rfl,HG0.out,X0.out,fun j s hj=>absurd hj (nL _)⟩
 obtain⟨kk,hkk,hgg,rfl,BW,XW,OW⟩:=hrel;clear X0 HG0
 by_cases hlt:kk<spn
 ·have hltz:(kk:Int)< (spn:Int):=by omega
  obtain⟨s,HS⟩:∃s,Hid (m.sp[kk]? =some s):=⟨_,gE (by rw[HN.out];exact hlt)⟩
  obtain⟨x,HX⟩:∃x,Hid (xs[kk]? =some x):=⟨_,gE (by rw[HXL.out,HN.out];exact hlt)⟩
  have HAT:Hid (qL w x s):=HSP.out kk x s HX.out HS.out;obtain⟨hok1,hok2⟩:=HRS.out s (mG HS.out);have HCN:Hid (ZL none s.ars):=(jV.1 hok1).2;have HTB:Hid (tbW s.tb=0):=hok2;have HAL:Hid (s.ars.length=x.ar.n):=HAT.out.ar.n.symm;have HAR:Hid (zbX w x.ar.a s.ars):=show zbX _ _ _ by
   obtain⟨_,_,q1,q2⟩:=HAT.out.ar.ars;simp only[vJ]at q1;rw[q1.1];exact q2
  clear hok1 hok2;obtain⟨ad,rfl,hl⟩:=HR.out kk x HX.out;obtain⟨d0,d1,d2,d3,d4,d5,d6,d7,d8,d9⟩:=hl wr BW.out;clear hl;go_upto_region 4 with fail;obtain⟨W1,hW1⟩:∃W1,wr.alloc (.cells #[.bool x.live,.slice x.ar.a x.ar.n x.ar.c,.slice x.t0.a x.t0.n x.t0.c,.slice x.t1.a x.t1.n x.t1.c,.slice x.t2.a x.t2.n x.t2.c,.slice x.t3.a x.t3.n x.t3.c,.slice x.t4.a x.t4.n x.t4.c,.slice x.t5.a x.t5.n x.t5.c,.slice x.t6.a x.t6.n x.t6.c,.slice x.t7.a x.t7.n x.t7.c] 55)=W1:=⟨_,rfl⟩;have HG1:=gT hW1 BW
  have X1:=yA hW1 XW
  have S1:=xA hW1
  rw[hW1];clear hW1 d0 d1 d2 d3 d4 d5 d6 d7 d8 d9;obtain⟨pb,HPB⟩:∃pb,Hid (wr.heap.size=pb):=⟨_,rfl⟩;rw[HPB.out]at S1⊢;have hcall:Calls Tryz.prog 90 #[.agg #[.slice x.t0.a x.t0.n x.t0.c,.slice x.t1.a x.t1.n x.t1.c,.slice x.t2.a x.t2.n x.t2.c,.slice x.t3.a x.t3.n x.t3.c,.slice x.t4.a x.t4.n x.t4.c,.slice x.t5.a x.t5.n x.t5.c,.slice x.t6.a x.t6.n x.t6.c,.slice x.t7.a x.t7.n x.t7.c]] W1 fun e w'=>∃v,e= .returned v/\zb blE W1.heap.size w' v (jd s.tb Jo 64)/\zc W1 w':=JU x.tab s.tb W1 (HAT.out.grew HG1.out).tb
  have s2:=S1.out.c 2 rfl;have s3:=S1.out.c 3 rfl;have s4:=S1.out.c 4 rfl;have s5:=S1.out.c 5 rfl;have s6:=S1.out.c 6 rfl;have s7:=S1.out.c 7 rfl;have s8:=S1.out.c 8 rfl;have s9:=S1.out.c 9 rfl;go_wp2_with fail;refine hcall.mono ?_;clear hcall s2 s3 s4 s5 s6 s7 s8 s9;rintro e' W2 ⟨pv,rfl,ow2,hg2⟩;have HG2:=dD (HG1.out.trans hg2);have X2:=dD (X1.out.grew hg2);have S2:=dD (S1.out.grew hg2);clear hg2;obtain⟨pa,pc,rfl,hnr⟩:=ow2.at.nums;have hq0:=ow2.at.short;have HNR:Hid (zaM W2 pa (jd s.tb Jo 64)):=hnr;rw[Qy,List.length_map]at hq0⊢;rw[Qy]at HNR;clear ow2 hnr;obtain⟨q,HQ⟩:∃q,Hid ((qh s).length=q):=⟨_,rfl⟩;rw[HQ.out]at hq0⊢;go_wp2;have HBW:Hid (zc w wr):=BW;have HOW:Hid (∀(j:Nat) s,j<kk->m.sp[j]? =some s->Zd m s=0):=OW;clear BW XW OW
  go_loopg [20] q (fun gg s20 wr=>∃i:Nat,i<=q/\q - i<=gg/\s20= .int .i64 i/\Hid (zc W2 wr)/\Hid (∀(j:Nat) n,j<i->(qh s)[j]? =some n->JF m (zH s.ars n) (zJ s n)=0))
  case atStart=>exact⟨0,nZ _,by omega,rfl,zc.refl _,fun j s hj=>absurd hj (nL _)⟩
  obtain⟨i,hi,hg2,rfl,BW,OW⟩:=hrel
  by_cases hlt2:i<q
  ·have hltz2:(i:Int)< (q:Int):=by omega
   obtain⟨n,HNI⟩:∃n,Hid ((qh s)[i]? =some n):=⟨_,gE (by rw[HQ.out];exact hlt2)⟩
   have hn64:n<64:=zdO HNI.out;obtain⟨ad2,rfl,hl2⟩:=HNR.out i (n:Int) (by rw[List.getElem?_map,HNI.out];rfl)
   have e0:=hl2 wr BW.out;clear hl2;have HGW:=dD (HG2.out.trans BW.out);have hcf:=zjg (.slice x.ar.a x.ar.n x.ar.c) s.ars (n:Int) wr (HAT.out.ar.grew HGW.out);have s1:=(S2.out.grew BW.out).c 1 rfl;go_wp2_with fail;refine hcf.mono ?_;clear hcf e0 s1;rintro e' W4 ⟨⟨z,rfl,hz⟩,hg4⟩;have HFZ:Hid (zaW s.ars (n:Int) z):=hz;have HG4:=dD (BW.out.trans hg4);have HGw4:=dD (HG2.out.trans HG4.out);clear hg4 hz
   by_cases hz0:z<0
   ·have HZE:Hid (Z=5):=show _=_ by
     have h5:JF m (zH s.ars n) (zJ s n)=5:=by
      have:=zjf HFZ.out;rw[decide_eq_false (by omega)]at this
      unfold JF;rw[if_pos this.symm]
     have h6:Zd m s=5:=by rw[JQ,j0 HNI.out OW.out (by rw[h5];decide),h5]
     rw[<-HZ.out];unfold zbp;rw[j0 HS.out HOW.out (by rw[h6];decide),h6]
    go_wp2;go_ret;exact⟨by rw[HZE.out];rfl,HGw4.out⟩
   obtain⟨k,a,rfl,HKA,HIN⟩:∃(k:Nat) (a:Ar),z=(k:Int)/\Hid (s.ars[k]? =some a)/\Hid (inZ a (n:Int)=true):=by
    rcases HFZ.out with⟨k,a,q1,q2,q3⟩ | ⟨q1,_⟩
    ·exact⟨k,a,q1,q2,q3⟩
    omega
   have HAO:Hid (jo a):=zh7 HCN.out HKA.out;have hkl:k<x.ar.n:=by rw[<-HAL.out];exact(gS.1 HKA.out).1
   have HEN:Hid (JF m (zH s.ars n) (zJ s n)=JI m a n (zJ s n)):=show _=_ by rw[zdV HCN.out HKA.out HIN.out,zg6 HM1.out HAO.out]
   have hen0:0<=(zJ s n).n:=(zar (zj5 HTB.out n)).2.1.1;have HWE':Hid (∀W,zc w W->Calls Tryz.prog 164 #[.agg #[.slice vf.a vf.n vf.c,.int .i64 m.hand,.slice vs.a vs.n vs.c,.slice vsb.a vsb.n vsb.c,.slice vsq.a vsq.n vsq.c,.slice vdb.a vdb.n vdb.c,.slice vdq.a vdq.n vdq.c,.slice vfl.a vfl.n vfl.c,.int .i64 m.cnt,.slice vca.a vca.n vca.c,.slice (some ad) spn spc],.agg #[.int .i64 a.fr,.int .i64 a.tz,.bool a.rd,.bool a.wr,.bool a.sh,.int .i64 a.file,.int .i64 a.base],.int .i64 (n:Int),enV (zJ s n)] W fun e' w'=>e'= .returned (.int .i64 (JI m a n (zJ s n)))/\zc W w'):=show∀W,_ from fun W hW=>HWE.out a n (zJ s n) W hW HAO.out (by omega) hen0
   have HGT:Hid (∀W,zc w W->Calls Tryz.prog 104 #[.agg #[.slice x.t0.a x.t0.n x.t0.c,.slice x.t1.a x.t1.n x.t1.c,.slice x.t2.a x.t2.n x.t2.c,.slice x.t3.a x.t3.n x.t3.c,.slice x.t4.a x.t4.n x.t4.c,.slice x.t5.a x.t5.n x.t5.c,.slice x.t6.a x.t6.n x.t6.c,.slice x.t7.a x.t7.n x.t7.c],.int .i64 (n:Int)] W fun e w'=>e= .returned (enV (zJ s n))/\zc W w'):=show∀W,_ from fun W hW=>by
    have:=zbG x.tab s.tb (n:Int) W (HAT.out.grew hW).tb;rw[zfX hn64]at this;exact this
   clear hen0;go_upto_region 10 with fail;obtain⟨ada,hva,hl⟩:=HAR.out k a HKA.out;have X4:=dD (X2.out.grew HG4.out);have S4:=dD (S2.out.grew HG4.out);have hx0:=X4.out.gw 0 rfl
   have hx1:=X4.out.gw 1 rfl
   have hx2:=X4.out.gw 2 rfl
   have hx3:=X4.out.gw 3 rfl
   have hx4:=X4.out.gw 4 rfl
   have hx5:=X4.out.gw 5 rfl
   have hx6:=X4.out.gw 6 rfl
   have hx7:=X4.out.gw 7 rfl
   have hx8:=X4.out.gw 8 rfl
   have hx9:=X4.out.gw 9 rfl
   have hx10:=X4.out.gw 10 rfl
   have hs1:=S4.out.gw 1 rfl
   have hs2:=S4.out.gw 2 rfl
   have hs3:=S4.out.gw 3 rfl
   have hs4:=S4.out.gw 4 rfl
   have hs5:=S4.out.gw 5 rfl
   have hs6:=S4.out.gw 6 rfl
   have hs7:=S4.out.gw 7 rfl
   have hs8:=S4.out.gw 8 rfl
   have hs9:=S4.out.gw 9 rfl
   rw[hva]at hs1;have hy0:∀y:zx W4,y.world.cell? (ada.add (k*7))=some (.int .i64 a.fr):=fun y=>(hl _ (HGw4.out.trans y.grew)).1
   have hy1:∀y:zx W4,y.world.cell? { block:=(ada.add (k*7)).block,off:=(ada.add (k*7)).off+1 }=some (.int .i64 a.tz):=fun y=>(hl _ (HGw4.out.trans y.grew)).2.1
   have hy2:∀y:zx W4,y.world.cell? { block:=(ada.add (k*7)).block,off:=(ada.add (k*7)).off+2 }=some (.bool a.rd):=fun y=>(hl _ (HGw4.out.trans y.grew)).2.2.1
   have hy3:∀y:zx W4,y.world.cell? { block:=(ada.add (k*7)).block,off:=(ada.add (k*7)).off+3 }=some (.bool a.wr):=fun y=>(hl _ (HGw4.out.trans y.grew)).2.2.2.1
   have hy4:∀y:zx W4,y.world.cell? { block:=(ada.add (k*7)).block,off:=(ada.add (k*7)).off+4 }=some (.bool a.sh):=fun y=>(hl _ (HGw4.out.trans y.grew)).2.2.2.2.1
   have hy5:∀y:zx W4,y.world.cell? { block:=(ada.add (k*7)).block,off:=(ada.add (k*7)).off+5 }=some (.int .i64 a.file):=fun y=>(hl _ (HGw4.out.trans y.grew)).2.2.2.2.2.1
   have hy6:∀y:zx W4,y.world.cell? { block:=(ada.add (k*7)).block,off:=(ada.add (k*7)).off+6 }=some (.int .i64 a.base):=fun y=>(hl _ (HGw4.out.trans y.grew)).2.2.2.2.2.2
   have hne:Nonempty (zx W4):=⟨⟨_,zc.refl _⟩⟩;clear hl hva;refine jX [(10,⟨fun v=>v=enV (zJ s n),fun v w'=>True⟩),(11,⟨fun v=>v= .int .i64 (JI m a n (zJ s n)),fun v w'=>True⟩)] qy (by kernel_rfl) ?hS ?hp ?_
   case hS=>
    intro x hx;simp only[mC,nM,or_false]at hx
    rcases hx with rfl | rfl
    ·exact⟨_,rfl⟩
    exact⟨_,rfl⟩
   case hp=>
    intro x hx;simp only[mC,nM,or_false]at hx
    rcases hx with rfl | rfl
    ·exact fun _ _ _ _ h=>h
    exact fun _ _ _ _ h=>h
   iterate 10 (refine zm rfl rfl rfl (fun K hK=>?_);go_big_quiet_op;refine hK _ ?_;clear hK K)
   refine zM rfl rfl (fun w' hg hF=>?_) (fun v1 hv=>?_)
   ·refine zL.call [.agg #[.slice x.t0.a x.t0.n x.t0.c,.slice x.t1.a x.t1.n x.t1.c,.slice x.t2.a x.t2.n x.t2.c,.slice x.t3.a x.t3.n x.t3.c,.slice x.t4.a x.t4.n x.t4.c,.slice x.t5.a x.t5.n x.t5.c,.slice x.t6.a x.t6.n x.t6.c,.slice x.t7.a x.t7.n x.t7.c],.int .i64 (n:Int)] rfl Tryz.func104 rfl rfl rfl ?_;refine(HGT.out w' (HGw4.out.trans hg)).mono ?_;rintro e w'' ⟨rfl,hg3⟩;exact⟨_,rfl,hg3,rfl,trivial⟩
   subst hv;simp only[Act.put,sB,sS,sZ];refine zM rfl rfl (fun w' hg hF=>?_) (fun v1 hv=>?_)
   ·refine zL.call [.agg #[.slice vf.a vf.n vf.c,.int .i64 m.hand,.slice vs.a vs.n vs.c,.slice vsb.a vsb.n vsb.c,.slice vsq.a vsq.n vsq.c,.slice vdb.a vdb.n vdb.c,.slice vdq.a vdq.n vdq.c,.slice vfl.a vfl.n vfl.c,.int .i64 m.cnt,.slice vca.a vca.n vca.c,.slice (some ad) spn spc],.agg #[.int .i64 a.fr,.int .i64 a.tz,.bool a.rd,.bool a.wr,.bool a.sh,.int .i64 a.file,.int .i64 a.base],.int .i64 (n:Int),enV (zJ s n)] rfl Tryz.func164 rfl rfl rfl ?_;refine(HWE'.out w' (HGw4.out.trans hg)).mono ?_;rintro e w'' ⟨rfl,hg3⟩;exact⟨_,rfl,hg3,rfl,trivial⟩
   subst hv;simp only[Act.put,sB,sS,sZ];iterate 1 (refine zm rfl rfl rfl (fun K hK=>?_);go_big_quiet_op;refine hK _ ?_;clear hK K)
   refine qU fun W5 hg5 hF=>?_
   have HG5:=dD (HG4.out.trans hg5);have HGw5:=dD (HG2.out.trans HG5.out);clear hg5 hF hx0 hx1 hx2 hx3 hx4 hx5 hx6 hx7 hx8 hx9 hx10 hs1 hs2 hs3 hs4 hs5 hs6 hs7 hs8 hs9 hy0 hy1 hy2 hy3 hy4 hy5 hy6 hne;obtain⟨e,HEE⟩:∃e,Hid (JI m a n (zJ s n)=e):=⟨_,rfl⟩;rw[HEE.out];rw[HEE.out]at HEN
   by_cases h0:e=0
   ·have h0e:(e != 0)=false:=by simp[h0]
    have OW':Hid (∀(j:Nat) n,j<i+1->(qh s)[j]? =some n->JF m (zH s.ars n) (zJ s n)=0):=show∀(j:Nat) n,_ from fun j n' hj hn'=>by
     by_cases ej:j=i
     ·subst ej;rw[HNI.out]at hn';cases hn';rw[HEN.out];exact h0
     exact OW.out j n' (by omega) hn'
    clear h0;go_wp2
    go_roundg (q -(i+1))
    case measure=>omega
    exact⟨i+1,by omega,by omega,by go_num,HG5.out,OW'.out⟩
   have h0e:(e != 0)=true:=by simp[h0]
   have HZE:Hid (Z=e):=show _=_ by
    have h6:Zd m s=e:=by rw[JQ,j0 HNI.out OW.out (by rw[HEN.out];exact h0),HEN.out]
    rw[<-HZ.out];unfold zbp;rw[j0 HS.out HOW.out (by rw[h6];exact h0),h6]
   clear h0;go_wp2;go_ret;exact⟨by rw[HZE.out];rfl,HGw5.out⟩
  have hltz2:¬(i:Int)< (q:Int):=by omega
  have:i=q:=by omega
  subst this;have HSE:Hid (Zd m s=0):=show _=_ by
   rw[JQ];exact Qn fun j n hn=>OW.out j n (by rw[<-HQ.out];exact(gS.1 hn).1) hn
  have OW':Hid (∀(j:Nat) s,j<kk+1->m.sp[j]? =some s->Zd m s=0):=show∀(j:Nat) s,_ from fun j s' hj hs=>by
   by_cases ej:j=kk
   ·subst ej;rw[HS.out]at hs;cases hs;exact HSE.out
   exact HOW.out j s' (by omega) hs
  have XX:=dD (X2.out.grew BW.out);have GG:=dD (HG2.out.trans BW.out);go_wp2
  go_roundg (spn -(kk+1))
  case measure=>omega
  exact⟨kk+1,by omega,by omega,by go_num,GG.out,XX.out,OW'.out⟩
 have hltz:¬(kk:Int)< (spn:Int):=by omega
 have:kk=spn:=by omega
 subst this;have HZE:Hid (Z=0):=show _=_ by
  rw[<-HZ.out];exact Qn fun j s hs=>OW.out j s (by rw[<-HN.out];exact(gS.1 hs).1) hs
 go_wp2;go_ret;exact⟨by rw[HZE.out];rfl,BW.out⟩
structure JC where
 ty:TypeId
 enc:Int × Int->Value
 und:∃fs,Tryz.prog.underlying ty=some (.struct fs)
 check:∀(em:Bool) (a:Int × Int) (w:World),(Instr.checkKey em 10000 ty (enc a)).run Tryz.prog w= .ok () w
 same:∀(a b:Int × Int) (w:World),(Op.equal ty (enc a) (enc b)).run Tryz.prog w= .ok (decide (a=b)) w
 bits:∀a:Int × Int,Instr.sameBits 10000 (enc a) (enc a)=true
def JD:List ((Int × Int) × Int)->Int × Int->Option Int
 | [],_=>none
 | p :: l,k=>if k=p.1 then some p.2 else JD l k
def zbL:List ((Int × Int) × Int)->Int × Int->Nat->Option (Nat × Value)
 | [],_,_=>none
 | p :: l,k,i=>if k=p.1 then some (i,.int .i64 p.2)else zbL l k (i+1)
def zeW:List ((Int × Int) × Int)->Int × Int->Int->List ((Int × Int) × Int)
 | [],k,v=>[(k,v)]
 | p :: l,k,v=>if k=p.1 then(k,v) :: l else p :: zeW l k v
theorem zam:∀(l:List ((Int × Int) × Int)) (k x:Int × Int) (v:Int),JD (zeW l k v) x=if x=k then some v else JD l x
 | [],k,x,v=>by simp[zeW,JD]
 | p :: l,k,x,v=>by
  unfold zeW
  by_cases h:k=p.1
  ·rw[if_pos h];unfold JD
   by_cases hx:x=k
   ·simp[hx]
   have hx':¬x=p.1:=fun e=>hx (e.trans h.symm)
   simp[hx,hx']
  rw[if_neg h];unfold JD;rw[zam l]
  by_cases hp:x=p.1
  ·rw[if_pos hp,if_pos hp,if_neg (fun e=>h (e.symm.trans hp))]
  rw[if_neg hp,if_neg hp]
theorem Jz:∀{l:List ((Int × Int) × Int)} {k:Int × Int} {i:Nat},zbL l k i=none->JD l k=none/\∀v,zeW l k v=l++ [(k,v)]
 | [],k,i,_=>⟨rfl,fun v=>rfl⟩
 | p :: l,k,i,h=>by
  unfold zbL at h
  by_cases e:k=p.1
  ·rw[if_pos e]at h;cases h
  rw[if_neg e]at h;obtain⟨h1,h2⟩:=Jz h;refine⟨by unfold JD;rw[if_neg e,h1],fun v=>?_⟩
  unfold zeW;rw[if_neg e,h2];rfl
theorem Jy:∀{l:List ((Int × Int) × Int)} {k:Int × Int} {i j:Nat} {u:Value},zbL l k i=some (j,u)->∃n z,u= .int .i64 z/\j=i+n/\l[n]? =some (k,z)/\JD l k=some z/\∀v,zeW l k v=l.set n (k,v)
 | [],k,i,j,u,h=>by cases h
 | p :: l,k,i,j,u,h=>by
  unfold zbL at h
  by_cases e:k=p.1
  ·rw[if_pos e]at h;cases h;refine⟨0,p.2,rfl,rfl,by rw[e];rfl,by unfold JD;rw[if_pos e],fun v=>?_⟩
   unfold zeW;rw[if_pos e];rfl
  rw[if_neg e]at h;obtain⟨n,z,h1,h2,h3,h4,h5⟩:=Jy h;refine⟨n+1,z,h1,by omega,by simpa using h3,by unfold JD;rw[if_neg e,h4],fun v=>?_⟩
  unfold zeW;rw[if_neg e,h5];rfl
def Zo (K:JC) (w:World) (b:Nat) (g:Int × Int->Option Int):Prop:=
 ∃es clock l,w.heap[b]? =some (.map es clock)/\(es.toList.map (fun e=>(e.key,e.val))=l.map (fun p:(Int × Int) × Int=>(K.enc p.1,Value.int .i64 p.2))/\(es.toList.map (·.born)).Pairwise (·< ·)/\∀e∈es.toList,e.born<clock)/\∀k,JD l k=g k
theorem Zo.lt {K:JC} {w:World} {b:Nat} {g:Int × Int->Option Int} (h:Zo K w b g):b<w.heap.size:=by
 obtain⟨es,c,l,h1,_⟩:=h;exact(aS.1 h1).1
theorem Zo.made (K:JC) (w:World):Zo K (w.alloc (.map #[] 0)) w.heap.size (fun _=>none):=⟨#[],0,[],by
 show(w.heap.push _)[w.heap.size]? =_
 simp,⟨rfl,List.Pairwise.nil,fun e he=>by cases he⟩,fun k=>rfl⟩
theorem Zo.grew {K:JC} {w w':World} {b:Nat} {g:Int × Int->Option Int} (h:Zo K w b g) (hg:zc w w'):Zo K w' b g:=by
 have hlt:=h.lt;obtain⟨es,c,l,h1,h2⟩:=h;exact⟨es,c,l,(Below.block hg b hlt).trans h1,h2⟩
theorem Zo.kept {K:JC} {w w':World} {b:Nat} {g:Int × Int->Option Int} {row:Option Nat} (h:Zo K w b g) (hg:w.grownBy w' row) (hne:some b≠row):Zo K w' b g:=by
 have hlt:=h.lt;obtain⟨es,c,l,h1,h2⟩:=h;exact⟨es,c,l,(hg.block b hlt hne).trans h1,h2⟩
theorem Zo.congr {K:JC} {w:World} {b:Nat} {g g':Int × Int->Option Int} (h:Zo K w b g) (e:∀k,g k=g' k):Zo K w b g':=by
 obtain⟨es,c,l,h1,h2,h3⟩:=h;exact⟨es,c,l,h1,h2,fun k=>(h3 k).trans (e k)⟩
theorem JJ (K:JC) (k:Int × Int) (w:World):∀(l:List ((Int × Int) × Int)) (es:List MapEntry) (i:Nat),es.map (fun e=>(e.key,e.val))=l.map (fun p=>(K.enc p.1,Value.int .i64 p.2))->(Instr.findAsking K.ty (K.enc k) es i).run Tryz.prog w= .ok (zbL l k i) w
 | [],[],i,_=>rfl
 | [],e :: es,i,h=>by simp at h
 | p :: l,[],i,h=>by simp at h
 | p :: l,e :: es,i,h=>by
  simp only[mP,List.cons.injEq,pJ]at h;obtain⟨⟨h1,h2⟩,h3⟩:=h;unfold Instr.findAsking zbL;simp only[Sem.run_bind,h1,K.same,rA]
  by_cases e':k=p.1
  ·simp[e',h2]
  simp[e',JJ K k w l es (i+1) h3]
theorem JR (K:JC) (k:Int × Int) (w:World) (l:List ((Int × Int) × Int)) (es:List MapEntry) (h:es.map (fun e=>(e.key,e.val))=l.map (fun p=>(K.enc p.1,Value.int .i64 p.2))):(Instr.findKey K.ty (K.enc k) es).run Tryz.prog w= .ok (zbL l k 0) w:=by
 obtain⟨fs,hu⟩:=K.und;unfold Instr.findKey;simp only[Sem.run_bind,run_underlying hu,rA]
 cases es with
 | nil=>
  cases l with
  | nil=>rfl
  | cons p l=>simp at h
 | cons e es=>
  have:Instr.findNow (.struct fs) (K.enc k) (e :: es) 0=none:=by simp[Instr.findNow,Instr.sameNow]
  rw[this];exact JJ K k w l (e :: es) 0 h
theorem Zo.look {K:JC} {w:World} {b:Nat} {g:Int × Int->Option Int} (h:Zo K w b g) {t e:TypeId} (ht:Tryz.prog.underlying t=some (.map K.ty e)) (hz:(zeroValue e).run Tryz.prog w= .ok (.int .i64 0) w) (k:Int × Int) (c:Bool):
  (Instr.lookup t (.map (some b)) (K.enc k) c).run Tryz.prog w= .ok (if c then .tuple #[.int .i64 ((g k).getD 0),.bool (g k).isSome]else .int .i64 ((g k).getD 0)) w:=by
 obtain⟨es,cl,l,h1,⟨h2,_⟩,h3⟩:=h;have hf:=JR K k w l es.toList h2;unfold Instr.lookup
 cases hp:zbL l k 0 with
 | none=>
  rw[hp]at hf;have:=(Jz hp).1;rw[h3 k]at this
  cases c <;> simp[run_underlying ht,MapKept.run_getObj_map h1,K.check,hf,hz,this]
 | some q=>
  obtain⟨j,u⟩:=q;rw[hp]at hf;obtain⟨n,z,rfl,_,_,h4,_⟩:=Jy hp;rw[h3 k]at h4
  cases c <;> simp[run_underlying ht,MapKept.run_getObj_map h1,K.check,hf,h4]
theorem zbx (f:MapEntry->MapEntry) (hf:∀e,(f e).born=e.born):∀(es:List MapEntry) (n:Nat),(es.modify n f).map (·.born)=es.map (·.born)
 | [],n=>by simp
 | e :: es,0=>by simp[hf]
 | e :: es,n+1=>by simp[zbx f hf es n]
structure jU (K:JC) (es:Array MapEntry) (cl:Nat) (l:List ((Int × Int) × Int)):Prop where
 pairs:es.toList.map (fun e=>(e.key,e.val))=l.map (fun p=>(K.enc p.1,Value.int .i64 p.2))
 rise:(es.toList.map (·.born)).Pairwise (·< ·)
 low:∀e∈es.toList,e.born<cl
theorem jU.push {K:JC} {es:Array MapEntry} {cl:Nat} {l:List ((Int × Int) × Int)} (h:jU K es cl l) (k:Int × Int) (v:Int):jU K (es.push ⟨K.enc k,.int .i64 v,cl⟩) (cl+1) (l++ [(k,v)]):=by
 refine⟨by simp[h.pairs],?_,fun e he=>?_⟩
 ·simp only[Array.toList_push,List.map_append,mP,List.map_nil];rw[List.pairwise_append];refine⟨h.rise,by simp,fun a ha b hb=>?_⟩
  obtain⟨e,he,rfl⟩:=List.mem_map.1 ha
  simp at hb
  rw[hb];exact h.low e he
 simp only[Array.toList_push,List.mem_append,List.mem_singleton]at he
 rcases he with he | rfl
 ·have:=h.low e he;omega
 simp
theorem jU.modify {K:JC} {es:Array MapEntry} {cl:Nat} {l:List ((Int × Int) × Int)} (h:jU K es cl l) {n:Nat} {k:Int × Int} {z:Int} (hn:l[n]? =some (k,z)) (f:MapEntry->MapEntry) (v:Int) (hf:∀e,(f e).born=e.born) (hg:∀e,e.key=K.enc k->e.val= .int .i64 z->(f e).key=K.enc k/\(f e).val= .int .i64 v):jU K (es.modify n f) cl (l.set n (k,v)):=by
 have hb:(es.modify n f).toList.map (·.born)=es.toList.map (·.born):=by rw[Array.toList_modify];exact zbx f hf es.toList n
 refine⟨?_,by rw[hb];exact h.rise,fun e he=>?_⟩
 ·have hp:=h.pairs;rw[Array.toList_modify]
  apply List.ext_getElem?
  intro j;have hj:=congrArg (fun(x:List (Value × Value))=>x[j]?) hp
  simp only[List.getElem?_map,List.getElem?_modify,List.getElem?_set]at hj⊢
  by_cases e:n=j
  ·subst e;rw[hn]at hj;have hnl:=(gS.1 hn).1
   cases hq:es.toList[n]? with
   | none=>rw[hq]at hj;simp at hj
   | some e0=>
    rw[hq]at hj
    simp at hj
    obtain⟨g1,g2⟩:=hg e0 hj.1 hj.2
    simp[hnl,g1,g2]
  simp only[e,if_false]at hj⊢
  cases hq:es.toList[j]? <;> rw[hq]at hj <;> simpa using hj
 have:e.born∈es.toList.map (·.born):=by rw[<-hb];exact List.mem_map.2 ⟨e,he,rfl⟩
 obtain⟨e',he',h'⟩:=List.mem_map.1 this;rw[<-h'];exact h.low e' he'
theorem jU.at {K:JC} {es:Array MapEntry} {cl:Nat} {l:List ((Int × Int) × Int)} (h:jU K es cl l) {n:Nat} {k:Int × Int} {z:Int} (hn:l[n]? =some (k,z)):∃e0,es[n]? =some e0/\e0.key=K.enc k/\e0.val= .int .i64 z:=by
 have:=congrArg (fun(x:List (Value × Value))=>x[n]?) h.pairs
 simp only[List.getElem?_map,hn,Option.map_some]at this
 cases hq:es[n]? with
 | none=>simp[hq]at this
 | some e0=>simp[hq]at this;exact⟨e0,rfl,this.1,this.2⟩
theorem zf4:∀{l:List Nat},l.Pairwise (·< ·)->∀{i j:Nat} {x:Nat},l[i]? =some x->l[j]? =some x->i=j
 | [],_,i,j,x,h,_=>by simp at h
 | a :: l,hp,i,j,x,h,h'=>by
  rw[List.pairwise_cons]at hp
  cases i with
  | zero=>
   cases j with
   | zero=>rfl
   | succ j=>
    simp at h h'
    subst h;have:=hp.1 a (mG h');omega
  | succ i=>
   cases j with
   | zero=>
    simp at h h'
    subst h';have:=hp.1 a (mG h);omega
   | succ j=>
    simp at h h'
    rw[zf4 hp.2 h h']
theorem zbz {K:JC} {w:World} {b:Nat} {es es':Array MapEntry} {cl cl':Nat} {l:List ((Int × Int) × Int)} {g:Int × Int->Option Int} {k:Int × Int} {v:Int} (h1:w.heap[b]? =some (.map es cl)) (h3:∀k,JD l k=g k) (hs:jU K es' cl' (zeW l k v)):
  Zo K (ChangeMaps.setBlock w b (.map es' cl')) b (fun x=>if x=k then some v else g x)/\w.grownBy (ChangeMaps.setBlock w b (.map es' cl')) (some b)/\(ChangeMaps.setBlock w b (.map es' cl')).heap.size=w.heap.size:=by
 refine⟨⟨es',cl',zeW l k v,ChangeMaps.heap_setBlock_same h1 _,⟨hs.pairs,hs.rise,hs.low⟩,fun x=>?_⟩,⟨rfl,rfl,rfl,by simp[ChangeMaps.setBlock],fun i _ hi=>ChangeMaps.heap_setBlock_other h1 _ (fun e=>hi (by rw[e]))⟩,by simp[ChangeMaps.setBlock]⟩
 rw[zam,h3]
theorem Zo.put {K:JC} {w:World} {b:Nat} {g:Int × Int->Option Int} (h:Zo K w b g) {t e:TypeId} (ht:Tryz.prog.underlying t=some (.map K.ty e)) (k:Int × Int) (v:Int):
  ∃w',(Instr.mapUpdate t (.map (some b)) (K.enc k) (.int .i64 v)).run Tryz.prog w= .ok () w'/\Zo K w' b (fun x=>if x=k then some v else g x)/\w.grownBy w' (some b)/\w'.heap.size=w.heap.size:=by
 obtain⟨es,cl,l,h1,⟨h2,h4,h5⟩,h3⟩:=h;have hst:jU K es cl l:=⟨h2,h4,h5⟩;have hf:=JR K k w l es.toList h2
 cases hp:zbL l k 0 with
 | none=>
  rw[hp]at hf;have hput:=(Jz hp).2 v;refine⟨ChangeMaps.setBlock w b (.map (es.push ⟨K.enc k,.int .i64 v,cl⟩) (cl+1)),?_,zbz h1 h3 (by rw[hput];exact hst.push k v)⟩
  simp[Instr.mapUpdate,run_underlying ht,MapKept.run_getObj_map h1,K.check,hf,MapKept.run_setObj_map _ h1,ChangeMaps.setBlock]
 | some q=>
  obtain⟨j,u⟩:=q;rw[hp]at hf;obtain⟨n,z,rfl,rfl,h6,_,h7⟩:=Jy hp;rw[zA]at hf;obtain⟨e0,he0,hk0,_⟩:=hst.at h6;refine⟨ChangeMaps.setBlock w b (.map (es.modify n fun e=>{ e with key:=K.enc k,val:= .int .i64 v }) cl),?_,zbz h1 h3 (by rw[h7];exact hst.modify h6 _ v (fun _=>rfl) (fun _ _ _=>⟨rfl,rfl⟩))⟩
  simp[Instr.mapUpdate,run_underlying ht,MapKept.run_getObj_map h1,K.check,hf,he0,hk0,Instr.keyThatStays,K.bits,MapKept.run_setObj_map _ h1,ChangeMaps.setBlock]
def zkp (K:JC) (w:World) (b:Nat) (g:Int × Int->Option Int) (k:Int × Int) (st:Int):Prop:=
 ∃es cl l,w.heap[b]? =some (.map es cl)/\jU K es cl l/\(∀k,JD l k=g k)/\∃(n:Nat) (z:Int) (e:MapEntry),l[n]? =some (k,z)/\(∀v,zeW l k v=l.set n (k,v))/\es[n]? =some e/\(e.born:Int)=st
theorem zkp.f {K:JC} {w:World} {b:Nat} {g:Int × Int->Option Int} {k:Int × Int} {st:Int} (h:zkp K w b g k st):Zo K w b g:=by
 obtain⟨es,cl,l,h1,h2,h3,_⟩:=h;exact⟨es,cl,l,h1,⟨h2.pairs,h2.rise,h2.low⟩,h3⟩
theorem zdL:∀{l:List ((Int × Int) × Int)} {k:Int × Int} (z v:Int),JD l k=none->zeW (l++ [(k,z)]) k v=(l++ [(k,z)]).set l.length (k,v)
 | [],k,z,v,_=>by simp[zeW]
 | p :: l,k,z,v,h=>by
  unfold JD at h
  by_cases e:k=p.1
  ·rw[if_pos e]at h;cases h
  rw[if_neg e]at h;simp only[List.cons_append,zeW,e,if_false,List.length_cons,sS];rw[zdL z v h]
theorem Zo.entry {K:JC} {w:World} {b:Nat} {g:Int × Int->Option Int} (h:Zo K w b g) {t e:TypeId} (ht:Tryz.prog.underlying t=some (.map K.ty e)) (hz:(zeroValue e).run Tryz.prog w= .ok (.int .i64 0) w) (k:Int × Int):
  ∃w' st,(Instr.mapEntry t (.map (some b)) (K.enc k)).run Tryz.prog w= .ok (.tuple #[.int .i64 ((g k).getD 0),.int .i64 st]) w'/\zkp K w' b (fun x=>if x=k then some ((g k).getD 0)else g x) k st/\w.grownBy w' (some b)/\w'.heap.size=w.heap.size:=by
 obtain⟨es,cl,l,h1,⟨h2,h4,h5⟩,h3⟩:=h;have hst:jU K es cl l:=⟨h2,h4,h5⟩;have hf:=JR K k w l es.toList h2
 cases hp:zbL l k 0 with
 | none=>
  rw[hp]at hf;obtain⟨hno,hput⟩:=Jz hp;have hg:g k=none:=by rw[<-h3];exact hno
  have hs':=hst.push k 0;have hm:=zbz h1 h3 (k:=k) (v:=0) (by rw[hput];exact hs')
  refine⟨ChangeMaps.setBlock w b (.map (es.push ⟨K.enc k,.int .i64 0,cl⟩) (cl+1)),cl,?_,⟨_,_,_,ChangeMaps.heap_setBlock_same h1 _,hs',fun x=>?_,l.length,0,⟨K.enc k,.int .i64 0,cl⟩,by simp,fun v=>zdL 0 v hno,?_,rfl⟩,hm.2⟩
  ·rw[hg]
   simp[Instr.mapEntry,run_underlying ht,MapKept.run_getObj_map h1,K.check,hf,hz,MapKept.run_setObj_map _ h1,ChangeMaps.setBlock,goInt]
  ·rw[hg,<-hput,zam,h3];rfl
  have:es.size=l.length:=by have:=congrArg List.length h2;simpa using this
  simp[<-this]
 | some q=>
  obtain⟨j,u⟩:=q;rw[hp]at hf;obtain⟨n,z,rfl,rfl,h6,h8,h7⟩:=Jy hp;rw[zA]at hf;obtain⟨e0,he0,hk0,hv0⟩:=hst.at h6;have hg:g k=some z:=by rw[<-h3];exact h8
  have hs':jU K (es.modify n fun e=>{ e with key:=K.enc k }) cl (l.set n (k,z)):=hst.modify h6 (fun e=>{ e with key:=K.enc k }) z (fun _=>rfl) (fun _ _ hv=>⟨rfl,hv⟩)
  have hm:=zbz h1 h3 (k:=k) (v:=z) (by rw[h7];exact hs')
  have hnl:=(gS.1 h6).1;refine⟨ChangeMaps.setBlock w b (.map (es.modify n fun e=>{ e with key:=K.enc k }) cl),e0.born,?_,⟨_,_,_,ChangeMaps.heap_setBlock_same h1 _,hs',fun x=>?_,n,z,{ e0 with key:=K.enc k },sF hnl,fun v=>?_,?_,rfl⟩,hm.2⟩
  ·rw[hg]
   simp[Instr.mapEntry,run_underlying ht,MapKept.run_getObj_map h1,K.check,hf,he0,hk0,Instr.keyThatStays,K.bits,MapKept.run_setObj_map _ h1,ChangeMaps.setBlock,goInt]
  ·rw[hg,<-h7,zam,h3];rfl
  ·rw[zcV h6,h7]
  rw[Array.getElem?_modify,if_pos rfl,he0];rfl
theorem zkp.store {K:JC} {w:World} {b:Nat} {g:Int × Int->Option Int} {k:Int × Int} {st:Int} (h:zkp K w b g k st) (t:TypeId) (v:Int):
  ∃w',(Instr.entryStore t (.map (some b)) (.int .i64 st) (.int .i64 v)).run Tryz.prog w= .ok () w'/\Zo K w' b (fun x=>if x=k then some v else g x)/\w.grownBy w' (some b)/\w'.heap.size=w.heap.size:=by
 obtain⟨es,cl,l,h1,hst,h3,n,z,e0,h6,h7,he0,rfl⟩:=h;have hnl:n<es.size:=(aS.1 he0).1;have hfind:es.findIdx? (fun e=>(e.born:Int) ==(e0.born:Int))=some n:=by
  rw[Array.findIdx?_eq_some_iff_getElem];refine⟨hnl,?_,fun j hj=>?_⟩
  ·have:es[n]=e0:=(aS.1 he0).2
   simp[this]
  intro hc;have hjl:j<es.size:=by omega
  have hc':es[j].born=e0.born:=by
   have:(es[j].born:Int)=(e0.born:Int):=by simpa using hc
   omega
  have q1:(es.toList.map (·.born))[n]? =some e0.born:=by simp[he0]
  have q2:(es.toList.map (·.born))[j]? =some e0.born:=by simp[hjl,hc']
  have:=zf4 hst.rise q1 q2;omega
 refine⟨ChangeMaps.setBlock w b (.map (es.modify n fun e=>{ e with val:= .int .i64 v }) cl),?_,zbz h1 h3 (by rw[h7];exact hst.modify h6 _ v (fun _=>rfl) (fun _ hk _=>⟨hk,rfl⟩))⟩
 simp[Instr.entryStore,MapKept.run_getObj_map h1,asInt,asIntOf,hfind,MapKept.run_setObj_map _ h1,ChangeMaps.setBlock]
theorem zg4 {K:JC} {w:World} {ops:Array Oper} {rest:List Oper} {o:Oper} {a:Act} {Q:Exit->Act->World->Prop} (hgd:o.guard=none) (t e:TypeId) (m x v:Operand) (hop:o.op= .mapUpdate t m x v) (ht:Tryz.prog.underlying t=some (.map K.ty e)) (b:Nat) (g:Int × Int->Option Int) (h:Zo K w b g) (k:Int × Int) (z:Int)
  (hm:a.eval m= .map (some b)) (hx:a.eval x=K.enc k) (hv:a.eval v= .int .i64 z)
  (hK:∀w',Zo K w' b (fun x=>if x=k then some z else g x)->w.grownBy w' (some b)->w'.heap.size=w.heap.size->wpList Tryz.prog ops Q rest (a.put o.dst undef) w'):wpList Tryz.prog ops Q (o :: rest) a w:=by
 refine wpList_plain hgd fun K' hK'=>?_
 obtain⟨w',hrun,r1,r2,r3⟩:=h.put ht k z;unfold Oper.wp
 simp[execOp,hop,hm,hx,hv,hrun,Result.andThen]
 exact hK' _ _ (hK w' r1 r2 r3)
theorem zhg (em:Bool) (a:Int × Int) (w:World):(Instr.checkKey em 10000 212 (.agg #[.int .i64 a.1,.int .i64 a.2])).run Tryz.prog w= .ok () w:=by
 have hf : (Tryz.prog.fieldsOf 212).toList.map (fun f => (f.name, f.type, f.offset)) = [("file", 3, 0), ("index", 3, 1)] := by kernel_rfl
 have hu:∃fs,Tryz.prog.underlying 212=some (.struct fs)/\Tryz.prog.fieldsOf 212=fs:=⟨_,Tryz.underlying212,by kernel_rfl⟩
 obtain⟨fs,hu,hfe⟩:=hu;rw[hfe]at hf;obtain⟨f0,f1,hfs⟩:∃f0 f1,fs.toList=[f0,f1]:=by
  have hl:fs.toList.length=2:=by have:=congrArg List.length hf;simpa using this
  match hq:fs.toList,hl with
  | [f0,f1],_=>exact⟨f0,f1,rfl⟩
 rw[hfs]at hf
 simp at hf
 obtain⟨⟨n0,t0,o0⟩,⟨n1,t1,o1⟩⟩:=hf;have pI:∀(zs:Array Value) (o:Nat) v,zs[o]? =some (.int .i64 v)->(part 3 zs o).run Tryz.prog w= .ok (.int .i64 v) w:=fun zs o v hz=>run_part_plain w (by simp[Program.plainKey,Tryz.underlying3]) hz
 have pB:∀(zs:Array Value) (o:Nat) v,zs[o]? =some (.bool v)->(part 4 zs o).run Tryz.prog w= .ok (.bool v) w:=fun zs o v hz=>run_part_plain w (by simp[Program.plainKey,Tryz.underlying4]) hz
 have cI:∀(v:Int) (n:Nat),(Instr.checkKey em (n+1) 3 (.int .i64 v)).run Tryz.prog w= .ok () w:=fun v n=>by
  unfold Instr.checkKey
  simp[run_underlying Tryz.underlying3]
 have cB:∀(v:Bool) (n:Nat),(Instr.checkKey em (n+1) 4 (.bool v)).run Tryz.prog w= .ok () w:=fun v n=>by
  unfold Instr.checkKey
  simp[run_underlying Tryz.underlying4]
 rw[show(10000:Nat)=9999+1 from rfl,Instr.checkKey]
 simp only[Sem.run_bind,run_underlying hu,rA];rw[<-Array.forIn_toList,hfs];have k1:=cI a.1 9998;have k2:=cI a.2 9998;have k3:=cB false 9998;have q0:=pI (#[.int .i64 a.1,.int .i64 a.2]) 0 a.1 rfl;have q1:=pI (#[.int .i64 a.1,.int .i64 a.2]) 1 a.2 rfl
 simp[List.forIn_cons,n0,t0,o0,n1,t1,o1,q0,q1,k1,k2]
theorem ziA (a b:Int × Int) (w:World):(Op.equal 212 (.agg #[.int .i64 a.1,.int .i64 a.2]) (.agg #[.int .i64 b.1,.int .i64 b.2])).run Tryz.prog w= .ok (decide (a=b)) w:=by
 have hf : (Tryz.prog.fieldsOf 212).toList.map (fun f => (f.name, f.type, f.offset)) = [("file", 3, 0), ("index", 3, 1)] := by kernel_rfl
 unfold Op.equal Op.maxDepth;rw[run_equalIn_struct w 9999 212 _ _ (by kernel_rfl) (by kernel_rfl)]
 obtain⟨f0,f1,hfs⟩:∃f0 f1,(Tryz.prog.fieldsOf 212).toList=[f0,f1]:=by
  have hl:(Tryz.prog.fieldsOf 212).toList.length=2:=by have:=congrArg List.length hf;simpa using this
  match hq:(Tryz.prog.fieldsOf 212).toList,hl with
  | [f0,f1],_=>exact⟨f0,f1,rfl⟩
 rw[hfs]at hf⊢
 simp at hf
 obtain⟨⟨n0,t0,o0⟩,⟨n1,t1,o1⟩⟩:=hf;have pI:∀(zs:Array Value) (o:Nat) v,zs[o]? =some (.int .i64 v)->(part 3 zs o).run Tryz.prog w= .ok (.int .i64 v) w:=fun zs o v hz=>run_part_plain w (by simp[Program.plainKey,Tryz.underlying3]) hz
 have pB:∀(zs:Array Value) (o:Nat) v,zs[o]? =some (.bool v)->(part 4 zs o).run Tryz.prog w= .ok (.bool v) w:=fun zs o v hz=>run_part_plain w (by simp[Program.plainKey,Tryz.underlying4]) hz
 simp only[Op.eqFields,n0,t0,o0,n1,t1,o1];obtain⟨a1,a2⟩:=a;obtain⟨b1,b2⟩:=b
 simp[pI,run_equalIn_int w _ _ _ _ _ _ Tryz.underlying3]
 by_cases e1:a1=b1 <;> by_cases e2:a2=b2 <;> simp[e1,e2]
def plK:JC where
 ty:=212
 enc:=fun a=> .agg #[.int .i64 a.1,.int .i64 a.2]
 und:=⟨_,Tryz.underlying212⟩
 check:=zhg
 same:=ziA
 bits:=fun a=>by simp[Instr.sameBits]
theorem zhV (em:Bool) (a:Int × Int) (w:World):(Instr.checkKey em 10000 74 (.agg #[.int .i64 a.1,.int .i64 a.2,.bool false])).run Tryz.prog w= .ok () w:=by
 have hf : (Tryz.prog.fieldsOf 74).toList.map (fun f => (f.name, f.type, f.offset)) = [("Kind", 3, 0), ("N", 3, 1), ("Write", 4, 2)] := by kernel_rfl
 have hu:∃fs,Tryz.prog.underlying 74=some (.struct fs)/\Tryz.prog.fieldsOf 74=fs:=⟨_,Tryz.underlying74,by kernel_rfl⟩
 obtain⟨fs,hu,hfe⟩:=hu;rw[hfe]at hf;obtain⟨f0,f1,f2,hfs⟩:∃f0 f1 f2,fs.toList=[f0,f1,f2]:=by
  have hl:fs.toList.length=3:=by have:=congrArg List.length hf;simpa using this
  match hq:fs.toList,hl with
  | [f0,f1,f2],_=>exact⟨f0,f1,f2,rfl⟩
 rw[hfs]at hf
 simp at hf
 obtain⟨⟨n0,t0,o0⟩,⟨n1,t1,o1⟩,⟨n2,t2,o2⟩⟩:=hf;have pI:∀(zs:Array Value) (o:Nat) v,zs[o]? =some (.int .i64 v)->(part 3 zs o).run Tryz.prog w= .ok (.int .i64 v) w:=fun zs o v hz=>run_part_plain w (by simp[Program.plainKey,Tryz.underlying3]) hz
 have pB:∀(zs:Array Value) (o:Nat) v,zs[o]? =some (.bool v)->(part 4 zs o).run Tryz.prog w= .ok (.bool v) w:=fun zs o v hz=>run_part_plain w (by simp[Program.plainKey,Tryz.underlying4]) hz
 have cI:∀(v:Int) (n:Nat),(Instr.checkKey em (n+1) 3 (.int .i64 v)).run Tryz.prog w= .ok () w:=fun v n=>by
  unfold Instr.checkKey
  simp[run_underlying Tryz.underlying3]
 have cB:∀(v:Bool) (n:Nat),(Instr.checkKey em (n+1) 4 (.bool v)).run Tryz.prog w= .ok () w:=fun v n=>by
  unfold Instr.checkKey
  simp[run_underlying Tryz.underlying4]
 rw[show(10000:Nat)=9999+1 from rfl,Instr.checkKey]
 simp only[Sem.run_bind,run_underlying hu,rA];rw[<-Array.forIn_toList,hfs];have k1:=cI a.1 9998;have k2:=cI a.2 9998;have k3:=cB false 9998;have q0:=pI (#[.int .i64 a.1,.int .i64 a.2,.bool false]) 0 a.1 rfl;have q1:=pI (#[.int .i64 a.1,.int .i64 a.2,.bool false]) 1 a.2 rfl;have q2:=pB (#[.int .i64 a.1,.int .i64 a.2,.bool false]) 2 false rfl
 simp[List.forIn_cons,n0,t0,o0,n1,t1,o1,n2,t2,o2,q0,q1,q2,k1,k2,k3]
theorem zjk (a b:Int × Int) (w:World):(Op.equal 74 (.agg #[.int .i64 a.1,.int .i64 a.2,.bool false]) (.agg #[.int .i64 b.1,.int .i64 b.2,.bool false])).run Tryz.prog w= .ok (decide (a=b)) w:=by
 have hf : (Tryz.prog.fieldsOf 74).toList.map (fun f => (f.name, f.type, f.offset)) = [("Kind", 3, 0), ("N", 3, 1), ("Write", 4, 2)] := by kernel_rfl
 unfold Op.equal Op.maxDepth;rw[run_equalIn_struct w 9999 74 _ _ (by kernel_rfl) (by kernel_rfl)]
 obtain⟨f0,f1,f2,hfs⟩:∃f0 f1 f2,(Tryz.prog.fieldsOf 74).toList=[f0,f1,f2]:=by
  have hl:(Tryz.prog.fieldsOf 74).toList.length=3:=by have:=congrArg List.length hf;simpa using this
  match hq:(Tryz.prog.fieldsOf 74).toList,hl with
  | [f0,f1,f2],_=>exact⟨f0,f1,f2,rfl⟩
 rw[hfs]at hf⊢
 simp at hf
 obtain⟨⟨n0,t0,o0⟩,⟨n1,t1,o1⟩,⟨n2,t2,o2⟩⟩:=hf;have pI:∀(zs:Array Value) (o:Nat) v,zs[o]? =some (.int .i64 v)->(part 3 zs o).run Tryz.prog w= .ok (.int .i64 v) w:=fun zs o v hz=>run_part_plain w (by simp[Program.plainKey,Tryz.underlying3]) hz
 have pB:∀(zs:Array Value) (o:Nat) v,zs[o]? =some (.bool v)->(part 4 zs o).run Tryz.prog w= .ok (.bool v) w:=fun zs o v hz=>run_part_plain w (by simp[Program.plainKey,Tryz.underlying4]) hz
 simp only[Op.eqFields,n0,t0,o0,n1,t1,o1,n2,t2,o2];obtain⟨a1,a2⟩:=a;obtain⟨b1,b2⟩:=b
 simp[pI,pB,run_equalIn_bool' w _ _ _ _ Tryz.underlying4,run_equalIn_int w _ _ _ _ _ _ Tryz.underlying3]
 by_cases e1:a1=b1 <;> by_cases e2:a2=b2 <;> simp[e1,e2]
def enK:JC where
 ty:=74
 enc:=fun a=> .agg #[.int .i64 a.1,.int .i64 a.2,.bool false]
 und:=⟨_,Tryz.underlying74⟩
 check:=zhV
 same:=zjk
 bits:=fun a=>by simp[Instr.sameBits]
theorem Box.ne_map {K:JC} {w:World} {b B:Nat} {cs:List Value} {g:Int × Int->Option Int} (h:Box w b cs) (k:Zo K w B g):b≠B:=fun e=>by
 subst e;obtain⟨t,h⟩:=h;obtain⟨es,cl,l,k1,_⟩:=k;rw[h]at k1;cases k1
theorem zb.ne_map {α:Type} {E:Elt α} {K:JC} {w:World} {base B:Nat} {v:Value} {l:List α} {g:Int × Int->Option Int} (h:zb E base w v l) (k:Zo K w B g):∀x,v.ownBlock=some x->some B≠some x:=fun x hx e=>by
 cases e;obtain⟨cs,h1⟩:=h.obj hx;obtain⟨es,cl,l,k1,_⟩:=k;rw[h1]at k1;cases k1
theorem zlw (w:World):(zeroValue 3).run Tryz.prog w= .ok (.int .i64 0) w:=by kernel_rfl
theorem zcR (V:MaV) (m:Ma) (w:World) (hm:zC w V m):
  Calls Tryz.prog 102 #[.agg #[.slice V.f.a V.f.n V.f.c,.int .i64 m.hand,.slice V.s.a V.s.n V.s.c,.slice V.sb.a V.sb.n V.sb.c,.slice V.sq.a V.sq.n V.sq.c,.slice V.db.a V.db.n V.db.c,.slice V.dq.a V.dq.n V.dq.c,.slice V.fl.a V.fl.n V.fl.c,.int .i64 m.cnt,.slice V.ca.a V.ca.n V.ca.c,.slice V.sp.a V.sp.n V.sp.c]] w fun e w'=>∃B,e= .returned (.agg #[.slice V.f.a V.f.n V.f.c,.int .i64 m.hand,.slice V.s.a V.s.n V.s.c,.slice V.sb.a V.sb.n V.sb.c,.slice V.sq.a V.sq.n V.sq.c,.slice V.db.a V.db.n V.db.c,.slice V.dq.a V.dq.n V.dq.c,.slice V.fl.a V.fl.n V.fl.c,.int .i64 m.cnt,.slice V.ca.a V.ca.n V.ca.c,.slice V.sp.a V.sp.n V.sp.c,.map (some B)])/\Zo plK w' B (Jf m.ca)/\zc w w':=by
 obtain⟨vf,vs,vsb,vsq,vdb,vdq,vfl,⟨caa,can,cac⟩,vsp⟩:=V;dsimp only;obtain⟨-,-,-,-,-,-,-,n8,-⟩:=hm.ns;dsimp only at n8;have HR:Hid (zaX w caa m.ca):=hm.cas;have HN:Hid (m.ca.length=can):=n8.symm;have hbig:can<=9223372036854775807:=by have:=hm.ca.short;omega
 clear hm n8;have hmm:=@run_makeMap Tryz.prog;obtain⟨W0,hW0⟩:∃W0,((w.alloc (.cells #[.slice vf.a vf.n vf.c,.int .i64 m.hand,.slice vs.a vs.n vs.c,.slice vsb.a vsb.n vsb.c,.slice vsq.a vsq.n vsq.c,.slice vdb.a vdb.n vdb.c,.slice vdq.a vdq.n vdq.c,.slice vfl.a vfl.n vfl.c,.int .i64 m.cnt,.slice caa can cac,.slice vsp.a vsp.n vsp.c] 41)).alloc (.cells #[.slice none 0 0,.int .i64 0,.slice none 0 0,.slice none 0 0,.slice none 0 0,.slice none 0 0,.slice none 0 0,.slice none 0 0,.int .i64 0,.slice none 0 0,.slice none 0 0,.map none] 172)).alloc (.map #[] 0)=W0:=⟨_,rfl⟩;have HG0:Hid (zc w W0):=show zc _ _ by rw[<-hW0];exact((za _ _).trans (za _ _)).trans (za _ _)
 have X0:Hid (Box W0 w.heap.size [.slice vf.a vf.n vf.c,.int .i64 m.hand,.slice vs.a vs.n vs.c,.slice vsb.a vsb.n vsb.c,.slice vsq.a vsq.n vsq.c,.slice vdb.a vdb.n vdb.c,.slice vdq.a vdq.n vdq.c,.slice vfl.a vfl.n vfl.c,.int .i64 m.cnt,.slice caa can cac,.slice vsp.a vsp.n vsp.c]):=show Box _ _ _ by rw[<-hW0];exact((Box.top _ _ _ rfl).alloc _).alloc _
 have Y0:Hid (Box W0 (w.heap.size+1) [.slice none 0 0,.int .i64 0,.slice none 0 0,.slice none 0 0,.slice none 0 0,.slice none 0 0,.slice none 0 0,.slice none 0 0,.int .i64 0,.slice none 0 0,.slice none 0 0,.map none]):=show Box _ _ _ by rw[<-hW0];exact(Box.top _ _ _ (by simp)).alloc _
 have M0:Hid (Zo plK W0 (w.heap.size+1+1) (Jf (m.ca.take 0))):=show Zo _ _ _ _ by
  rw[<-hW0];have:=Zo.made plK ((w.alloc (.cells #[.slice vf.a vf.n vf.c,.int .i64 m.hand,.slice vs.a vs.n vs.c,.slice vsb.a vsb.n vsb.c,.slice vsq.a vsq.n vsq.c,.slice vdb.a vdb.n vdb.c,.slice vdq.a vdq.n vdq.c,.slice vfl.a vfl.n vfl.c,.int .i64 m.cnt,.slice caa can cac,.slice vsp.a vsp.n vsp.c] 41)).alloc (.cells #[.slice none 0 0,.int .i64 0,.slice none 0 0,.slice none 0 0,.slice none 0 0,.slice none 0 0,.slice none 0 0,.slice none 0 0,.int .i64 0,.slice none 0 0,.slice none 0 0,.map none] 172));have hs:((w.alloc (.cells #[.slice vf.a vf.n vf.c,.int .i64 m.hand,.slice vs.a vs.n vs.c,.slice vsb.a vsb.n vsb.c,.slice vsq.a vsq.n vsq.c,.slice vdb.a vdb.n vdb.c,.slice vdq.a vdq.n vdq.c,.slice vfl.a vfl.n vfl.c,.int .i64 m.cnt,.slice caa can cac,.slice vsp.a vsp.n vsp.c] 41)).alloc (.cells #[.slice none 0 0,.int .i64 0,.slice none 0 0,.slice none 0 0,.slice none 0 0,.slice none 0 0,.slice none 0 0,.slice none 0 0,.int .i64 0,.slice none 0 0,.slice none 0 0,.map none] 172)).heap.size=w.heap.size+1+1:=by simp
  rw[hs]at this;exact this.congr fun k=>by rw[List.take_zero];rfl
 have HW0:Hid (_=W0):=hW0;clear hW0
 go_enter Tryz.func102,Tryz.ntmps102
 go_upto_region 2 with fail;rw[HW0.out];clear hmm;have x9:=X0.out.c 9 rfl;go_wp2;clear x9
 go_loopg [10] can (fun gg s10 wr=>∃kk:Nat,kk<=can/\can - kk<=gg/\s10= .int .i64 kk/\Hid (zc w wr)/\Hid (Box wr w.heap.size [.slice vf.a vf.n vf.c,.int .i64 m.hand,.slice vs.a vs.n vs.c,.slice vsb.a vsb.n vsb.c,.slice vsq.a vsq.n vsq.c,.slice vdb.a vdb.n vdb.c,.slice vdq.a vdq.n vdq.c,.slice vfl.a vfl.n vfl.c,.int .i64 m.cnt,.slice caa can cac,.slice vsp.a vsp.n vsp.c])/\Hid (Box wr (w.heap.size+1) [.slice none 0 0,.int .i64 0,.slice none 0 0,.slice none 0 0,.slice none 0 0,.slice none 0 0,.slice none 0 0,.slice none 0 0,.int .i64 0,.slice none 0 0,.slice none 0 0,.map none])/\Hid (Zo plK wr (w.heap.size+1+1) (Jf (m.ca.take kk))))
 case atStart=>exact⟨0,nZ _,by omega,rfl,HG0.out,X0.out,Y0.out,M0.out⟩
 obtain⟨kk,hkk,hgg,rfl,BW,XW,YW,MW⟩:=hrel;clear X0 Y0 M0 HG0
 by_cases hlt:kk<can
 ·have hltz:(kk:Int)< (can:Int):=by omega
  obtain⟨c,HC⟩:∃c,Hid (m.ca[kk]? =some c):=⟨_,gE (by rw[HN.out];exact hlt)⟩
  obtain⟨ad,rfl,hl⟩:=HR.out kk c HC.out;obtain⟨d0,d1,d2⟩:=hl wr BW.out;clear hl;go_upto_region 5 with fail;obtain⟨W1,hW1⟩:∃W1,wr.alloc (.cells #[.int .i64 c.file,.int .i64 c.idx,.int .i64 c.fr] 124)=W1:=⟨_,rfl⟩;have HG1:=gT hW1 BW
  have X1:=yA hW1 XW
  have Y1:=yA hW1 YW
  have M1:Hid (Zo plK W1 (w.heap.size+1+1) (Jf (m.ca.take kk))):=show Zo _ _ _ _ by rw[<-hW1];exact MW.out.grew (za _ _)
  have C1:=xA hW1
  rw[hW1];clear hW1 d0 d1 d2;obtain⟨c0,c1,c2⟩:=C1.out.c3
  go_wp2_with (refine zg4 (K:=plK) rfl 170 3 (.tmp 14) (.tmp 19) (.tmp 21) rfl Tryz.underlying170 (w.heap.size+1+1) _ M1.out (c.file,c.idx) c.fr rfl rfl rfl ?_)
  clear c0 c1 c2;intro W2 m2 hg2 _;have M2:Hid (Zo plK W2 (w.heap.size+1+1) (Jf (m.ca.take (kk+1)))):=show Zo _ _ _ _ from m2.congr fun k=>by rw[qa HC.out,zd7]
  have HG2:Hid (zc w W2):=show zc _ _ from zg HG1.out hg2 (by omega)
  have X2:Hid (Box W2 w.heap.size [.slice vf.a vf.n vf.c,.int .i64 m.hand,.slice vs.a vs.n vs.c,.slice vsb.a vsb.n vsb.c,.slice vsq.a vsq.n vsq.c,.slice vdb.a vdb.n vdb.c,.slice vdq.a vdq.n vdq.c,.slice vfl.a vfl.n vfl.c,.int .i64 m.cnt,.slice (some ad) can cac,.slice vsp.a vsp.n vsp.c]):=X1.out.grown hg2 (by omega)
  have Y2:Hid (Box W2 (w.heap.size+1) [.slice none 0 0,.int .i64 0,.slice none 0 0,.slice none 0 0,.slice none 0 0,.slice none 0 0,.slice none 0 0,.slice none 0 0,.int .i64 0,.slice none 0 0,.slice none 0 0,.map none]):=Y1.out.grown hg2 (by omega)
  clear m2 hg2;go_wp2
  go_roundg (can -(kk+1))
  case measure=>omega
  exact⟨kk+1,by omega,by omega,by go_num,HG2.out,X2.out,Y2.out,M2.out⟩
 have hltz:¬(kk:Int)< (can:Int):=by omega
 have:kk=can:=by omega
 subst this;have MA1:Hid (Zo plK wr (w.heap.size+1+1) (Jf m.ca)):=show Zo _ _ _ _ by
  have:=MW.out;rw[List.take_of_length_le (by rw[HN.out];exact nR _)]at this
  exact this
 obtain⟨x0,x1,x2,x3,x4,x5,x6,x7,x8,x9,x10⟩:=XW.out.c11
 go_wp2_with (refine zQ rfl 172 (.tmp 2) (.tmp 25) rfl (w.heap.size+1) rfl [.slice vf.a vf.n vf.c,.int .i64 m.hand,.slice vs.a vs.n vs.c,.slice vsb.a vsb.n vsb.c,.slice vsq.a vsq.n vsq.c,.slice vdb.a vdb.n vdb.c,.slice vdq.a vdq.n vdq.c,.slice vfl.a vfl.n vfl.c,.int .i64 m.cnt,.slice caa kk cac,.slice vsp.a vsp.n vsp.c,.map (some (w.heap.size+1+1))] rfl YW.out rfl (by kernel_rfl) (fun v hv=>by
  simp only[mC,nM,or_false]at hv
  rcases hv with rfl | rfl | rfl | rfl | rfl | rfl | rfl | rfl | rfl | rfl | rfl | rfl <;> rfl) ?_)
 clear x0 x1 x2 x3 x4 x5 x6 x7 x8 x9 x10;intro W5 hb5 hg5 _;have G5:Hid (zc w W5):=show zc _ _ from zg BW.out hg5 (by omega)
 have M5:Hid (Zo plK W5 (w.heap.size+1+1) (Jf m.ca)):=MA1.out.kept hg5 (by simp)
 go_wp2;refine bodyPost_ret (zW rfl _ rfl hb5 Tryz.underlying172 rfl (by kernel_rfl)) rfl ⟨_,rfl,M5.out,G5.out⟩
theorem zdg (V:MaV) (m:Ma) (B k:Nat) (g:Int × Int->Option Int) (w:World) (hm:zC w V m) (hk:k<m.fs.length) (hmap:Zo plK w B g):
  Calls Tryz.prog 166 #[.agg #[.slice V.f.a V.f.n V.f.c,.int .i64 m.hand,.slice V.s.a V.s.n V.s.c,.slice V.sb.a V.sb.n V.sb.c,.slice V.sq.a V.sq.n V.sq.c,.slice V.db.a V.db.n V.db.c,.slice V.dq.a V.dq.n V.dq.c,.slice V.fl.a V.fl.n V.fl.c,.int .i64 m.cnt,.slice V.ca.a V.ca.n V.ca.c,.slice V.sp.a V.sp.n V.sp.c,.map (some B)],.int .i64 (k:Int)] w fun e w'=>e= .returned (.bool (decide (g ((z8 m k).f,(z8 m k).x)=some (k:Int))))/\zc w w':=by
 obtain⟨⟨fa,fn,fc⟩,vs,vsb,vsq,vdb,vdq,vfl,vca,vsp⟩:=V;dsimp only;obtain⟨n1,-⟩:=hm.ns;dsimp only at n1;have hkn:k<fn:=by omega
 obtain⟨q,HQ⟩:∃q,Hid (m.fs[k]? =some q):=⟨_,gE hk⟩;have hfr:z8 m (k:Int)=q:=by unfold z8;rw[tN,gD,HQ.out];rfl
 rw[hfr];obtain⟨ad,rfl,hl⟩:=(show Qs w fa m.fs from hm.frs) k q HQ.out
 clear hfr hm n1 hk;obtain⟨W1,hW1⟩:∃W1,w.alloc (.cells #[.slice (some ad) fn fc,.int .i64 m.hand,.slice vs.a vs.n vs.c,.slice vsb.a vsb.n vsb.c,.slice vsq.a vsq.n vsq.c,.slice vdb.a vdb.n vdb.c,.slice vdq.a vdq.n vdq.c,.slice vfl.a vfl.n vfl.c,.int .i64 m.cnt,.slice vca.a vca.n vca.c,.slice vsp.a vsp.n vsp.c,.map (some B)] 172)=W1:=⟨_,rfl⟩;have HG1:=gA hW1
 have X1:=xA hW1
 have HS1:=sA hW1
 obtain⟨d0,d1,d2,d3,d4,d5,d6,d7,d8,d9,d10,d11,d12⟩:=hl W1 HG1.out;obtain⟨W2,hW2⟩:∃W2,W1.alloc (.cells #[.int .u8 q.p.b0,.int .u8 q.p.b1,.int .u8 q.p.b2,.int .u8 q.p.b3,.int .u8 q.p.b4,.int .u8 q.p.b5,.int .u8 q.p.b6,.int .u8 q.p.b7,.int .i64 q.r,.bool q.u,.bool q.d,.int .i64 q.f,.int .i64 q.x] 69)=W2:=⟨_,rfl⟩;have HG2:=gT hW2 HG1
 have X2:=yA hW2 X1
 have F2:=xP hW2 HS1
 have hlook:(Instr.lookup 170 (.map (some B)) (.agg #[.int .i64 q.f,.int .i64 q.x]) true).run Tryz.prog W2= .ok (.tuple #[.int .i64 ((g (q.f,q.x)).getD 0),.bool (g (q.f,q.x)).isSome]) W2:=(hmap.grew HG2.out).look (K:=plK) Tryz.underlying170 (zlw W2) (q.f,q.x) true;have HW1:Hid (_=W1):=hW1;have HW2:Hid (_=W2):=hW2;clear hW1 hW2 hl hmap;obtain⟨R,HRR⟩:∃R,Hid (decide (g (q.f,q.x)=some (k:Int))=R):=⟨_,rfl⟩;rw[HRR.out];obtain⟨gv,HGV⟩:∃gv,Hid (g (q.f,q.x)=gv):=⟨_,rfl⟩;rw[HGV.out]at hlook HRR
 go_enter Tryz.func166,Tryz.ntmps166
 go_upto_region 1 with fail;rw[HW1.out];have x0:=X1.out.c 0 rfl;go_upto_region 2 with fail;rw[HW2.out];rw[HS1.out];clear d0 d1 d2 d3 d4 d5 d6 d7 d8 d9 d10 d11 d12 x0;have x11:=X2.out.c 11 rfl;have f11:=F2.out.c 11 rfl;have f12:=F2.out.c 12 rfl
 cases gv with
 | none=>
  simp only[Option.getD_none,Option.isSome_none]at hlook;go_wp2;go_ret;exact⟨by rw[<-HRR.out];rfl,HG2.out⟩
 | some z=>
  simp only[Option.getD_some,Option.isSome_some]at hlook;have HE:Hid ((z ==(k:Int))=R):=show _=_ by rw[<-HRR.out,Bool.eq_iff_iff];simp
  go_wp2;go_ret;exact⟨by rw[<-HE.out];rfl,HG2.out⟩
end
end Go.Proofs.YtdgccecjbpgmfaaGreat
