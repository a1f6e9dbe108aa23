import Derived.Test.YtangilolcekceaaGreatPO3
import Derived.Deep.DeepCutAuto
namespace Go.Proofs.YtangilolcekceaaGreat
set_option maxRecDepth 100000
set_option maxHeartbeats 4000000
variable{L:List Int} {Q:Exit->Act->World->Prop} {T:List (Nat->En)} {V:MaV} {b hi i j:Nat} {e t:TypeId} {l:List Ar} {m:Ma} {o:Oper} {ops:Array Oper} {vl vt:Sli} {vs xs:List Value} {w' w0:World} {z:Int}
open Go.Proofs.Tryz
section
open Go.RowKit
def Came (w0:World) (hi b:Nat) (w:World) (L:List Int) (V:MaV) (m:Ma) (vt:Sli) (T:List (Nat->En)) (fi ix j:Nat) (w':World):Prop:=∃(q:Fr) (p:Pg) (u d:Bool) (s:Sli),m.fs[j]? =some q/\q.r=0/\(∀c∈m.ca,¬(c.file=(fi:Int)/\c.idx=(ix:Int)))/\MkE w0 hi b w L { V with ca:=s } { m with fs:=m.fs.set j ⟨p,1,u,d,fi,ix⟩,ca:=insCa m.ca ⟨fi,ix,j⟩ } vt T w'
theorem cached_any {w:World} (fi ix:Nat) (f:Fl) (bk:Int) (h:Mk w0 hi w b vl L V m vt T) (hca:∀c∈m.ca,0<=c.file/\c.file<=1000/\0<=c.idx/\c.idx<=1000/\0<=c.fr/\c.fr<m.fs.length) (hf:m.fl[fi]? =some f) (hbk:f.bl[ix]? =some bk) (hix:ix<=1000) (hfi:fi<=1000) (hcn:m.ca.length<=1000):
  Calls prog 127 #[.pointer (some ⟨b,0,none⟩),.int .i64 (fi:Int),.int .i64 (ix:Int)] w fun e w'=>(e= .returned (.int .i64 (-1))/\MkE w0 hi b w L V m vt T w')\/(∃c,c∈m.ca/\c.file=(fi:Int)/\c.idx=(ix:Int)/\e= .returned (.int .i64 c.fr)/\MkE w0 hi b w L V m vt T w')\/∃j:Nat,e= .returned (.int .i64 (j:Int))/\Came w0 hi b w L V m vt T fi ix j w':=by
 have HM:Hid (Mk w0 hi w b vl L V m vt T):=h;have HCA:Hid (∀c∈m.ca,0<=c.file/\c.file<=1000/\0<=c.idx/\c.idx<=1000/\0<=c.fr/\c.fr<m.fs.length):=hca;have HF:Hid (m.fl[fi]? =some f):=hf;have HBK:Hid (f.bl[ix]? =some bk):=hbk;obtain⟨n,HN⟩:∃n,Hid (V.ca.n=n):=⟨_,rfl⟩;have HLN:Hid (m.ca.length=n):=show _=_ by rw[<-HN.out,h.rows.ca.n]
 have hn:n<=1000:=by rw[<-HLN.out];exact hcn
 have HCC:Hid (n<=V.ca.c):=dD<|by
  have:=h.rows.ca.cap;rw[HN.out]at this;exact this
 obtain⟨caa,HAA⟩:∃a,Hid (V.ca.a=a):=⟨_,rfl⟩;have HCR:Hid (∀W,(∃vl' L' m',m'.ca=m.ca/\Mk w0 hi W b vl' L' V m' vt T)->CaRows W caa m.ca):=dD<|fun W ⟨_,_,m',e,k⟩=>by
  have:=k.rows.at.cas;rw[e,HAA.out]at this;exact this
 clear h hca hf hbk hcn
 go_enter func127,ntmps127
 have x10:=HM.out.box.box.c 10 rfl;rw[HN.out,HAA.out]at x10;go_wp2;clear x10
 go_loopg [20] n (fun gg s20 wr=>∃kk:Nat,kk<=n/\n - kk<=gg/\s20= .int .i64 kk/\Hid (Grew w wr)/\Hid (∀(j:Nat) c,j<kk->m.ca[j]? =some c->¬(c.file=(fi:Int)/\c.idx=(ix:Int))))
 case atStart=>exact⟨0,nZ _,by omega,rfl,Grew.refl _,fun j c hj=>absurd hj (nL _)⟩
 obtain⟨kk,hkk,hgg,rfl,BW,OW⟩:=hrel
 by_cases hlt:kk<n
 ·have hltz:(kk:Int)< (n:Int):=by omega
  obtain⟨c,HC⟩:∃c,Hid (m.ca[kk]? =some c):=⟨_,gE (by rw[HLN.out];exact hlt)⟩
  obtain⟨adc,rfl,hl⟩:=HCR.out wr ⟨vl,L,m,rfl,HM.out.grew BW.out⟩ kk c HC.out;obtain⟨d0,d1,d2⟩:=hl wr (Grew.refl _);clear hl;go_upto_region 4 with fail;obtain⟨W1,hW1⟩:∃W1,wr.alloc (.cells #[.int .i64 c.file,.int .i64 c.idx,.int .i64 c.fr] 83)=W1:=⟨_,rfl⟩;have HG1:=gT hW1 BW
  have C1:=xA hW1
  rw[hW1];clear hW1 d0 d1 d2;obtain⟨c0,c1,c2⟩:=C1.out.c3;have HNX:Hid (¬(c.file=(fi:Int)/\c.idx=(ix:Int))->∀(j:Nat) c,j<kk+1->m.ca[j]? =some c->¬(c.file=(fi:Int)/\c.idx=(ix:Int))):=dD<|fun h0 j c' hj hc'=>by
   by_cases e:j=kk
   ·subst e;rw[HC.out]at hc';cases hc';exact h0
   exact OW.out j c' (by omega) hc'
  by_cases h1:c.file=(fi:Int)
  ·have h1e:(c.file ==(fi:Int))=true:=by simp[h1]
   by_cases h2:c.idx=(ix:Int)
   ·have h2e:(c.idx ==(ix:Int))=true:=by simp[h2]
    have HE:Hid (c.file=(fi:Int)/\c.idx=(ix:Int)):=dD<|⟨h1,h2⟩
    clear h1 h2;go_wp2;go_ret;exact .inr (.inl ⟨c,mG HC.out,HE.out.1,HE.out.2,rfl,vl,L,HM.out.grew HG1.out,Less.refl L,Keeps.grew HG1.out⟩)
   have h2e:(c.idx ==(ix:Int))=false:=by simp[h2]
   have OW':Hid (∀(j:Nat) c,j<kk+1->m.ca[j]? =some c->¬(c.file=(fi:Int)/\c.idx=(ix:Int))):=HNX.out (fun h=>h2 h.2)
   clear h1 h2;go_wp2
   go_roundg (n -(kk+1))
   case measure=>omega
   exact⟨kk+1,by omega,by omega,by go_num,HG1.out,OW'.out⟩
  have h1e:(c.file ==(fi:Int))=false:=by simp[h1]
  have OW':Hid (∀(j:Nat) c,j<kk+1->m.ca[j]? =some c->¬(c.file=(fi:Int)/\c.idx=(ix:Int))):=HNX.out (fun h=>h1 h.1)
  clear h1;go_wp2
  go_roundg (n -(kk+1))
  case measure=>omega
  exact⟨kk+1,by omega,by omega,by go_num,HG1.out,OW'.out⟩
 have hltz:¬(kk:Int)< (n:Int):=by omega
 have hke:kk=n:=by omega
 have HNO:Hid (∀c∈m.ca,¬(c.file=(fi:Int)/\c.idx=(ix:Int))):=dD<|fun c hc=>by
  obtain⟨j,hj⟩:=List.getElem?_of_mem hc;exact OW.out j c (by rw[hke,<-HLN.out];exact(gS.1 hj).1) hj
 clear hke;have MW:=dD (HM.out.grew BW.out);have hbx:=MW.out.box.box;have x1:=hbx.c 1 rfl;have x2:=hbx.c 2 rfl;have x3:=hbx.c 3 rfl;have x4:=hbx.c 4 rfl;have x5:=hbx.c 5 rfl;have x6:=hbx.c 6 rfl;have x7:=hbx.c 7 rfl;have x8:=hbx.c 8 rfl;have x9:=hbx.c 9 rfl;have x10:=hbx.c 10 rfl;have x11:=hbx.c 11 rfl;clear hbx;have hct:=content_any V m fi ix f bk wr MW.out.rows.at (fun c hc _=>(HCA.out c hc).2.2.2.2) HF.out HBK.out hix
 go_wp2_with fail;refine hct.mono ?_;clear hct x1 x2 x3 x4 x5 x6 x7 x8 x9 x10 x11;rintro e W1 ⟨rfl,hl8,g1⟩;have G1:=dD (BW.out.trans g1);clear g1
 generalize contL m fi ix=q at hl8
 obtain⟨p0,p1,p2,p3,p4,p5,p6,p7,rfl⟩:=len8 q hl8;clear hl8;simp only[pgc,mP,List.map_nil];go_upto_region 8 with fail;obtain⟨pp,HPP⟩:∃pp,Hid (W1.heap.size=pp):=⟨_,rfl⟩;obtain⟨W2,hW2⟩:∃W2,W1.alloc (.cells #[.int .u8 p0,.int .u8 p1,.int .u8 p2,.int .u8 p3,.int .u8 p4,.int .u8 p5,.int .u8 p6,.int .u8 p7] 50)=W2:=⟨_,rfl⟩;have G2:=gT hW2 G1
 have P2:Hid (BoxT W2 pp 50 (pgc [p0,p1,p2,p3,p4,p5,p6,p7])):=dD<|by rw[<-hW2];exact BoxT.top _ (pgc [p0,p1,p2,p3,p4,p5,p6,p7]) _ HPP.out.symm
 have HHP:Hid (hi<=pp):=dD<|by rw[<-HPP.out];exact(HM.out.grew G1.out).rows.hw
 have HWP:Hid (w.heap.size<=pp):=dD<|by rw[<-HPP.out];exact bS G1.out
 have HBP:Hid (b≠pp):=dD<|by have:=HM.out.box.box.lt;have:=HWP.out;omega
 have M2:=dD (HM.out.grew G2.out);have K2:Hid (Keeps hi w W2):=Keeps.grew G2.out;rw[hW2,HPP.out];clear hW2;have hpk:=pick_any 2 M2.out;go_wp2_with fail;refine hpk.mono ?_;clear hpk;rintro e W3 ⟨vl3,L3,y,rfl,mk3,gr3,sz3,y0,y1,yn,ll⟩;have M3:Hid (Mk w0 hi W3 b vl3 L3 V m vt T):=mk3;have K3:=dD (K2.out.trans (M2.out.keeps gr3));have P3:Hid (BoxT W3 pp 50 (pgc [p0,p1,p2,p3,p4,p5,p6,p7])):=P2.out.beside gr3 (fun g e=>by cases e;exact fun h=>HBP.out h.symm)
 have L3':Hid (Less L L3):=ll;clear mk3 gr3 sz3 y0 y1 yn ll
 go_upto_if 46 with fail
 go_cut [10,11] (fun s10 s11 wx=>∃(dd:Bool) (q:List Int) (vl':Sli) (L':List Int),s10= .bool dd/\Hid (Mk w0 hi wx b vl' L' V m vt T)/\Hid (BoxT wx pp 50 (pgc q))/\Hid (q.length=8)/\Hid (Keeps hi w wx)/\Hid (Less L L'))
 case first=>
  by_cases hy:y=1
  ·have hye:(y == 1)=true:=by simp[hy]
   clear hy;have hpg:=page_any M3.out;go_wp2_with fail;refine hpg.mono ?_;clear hpg;rintro e W4 ⟨vl4,L4,q4,rfl,ql4,mk4,gr4,ll4⟩;have M4:Hid (Mk w0 hi W4 b vl4 L4 V m vt T):=mk4;have K4:=dD (K3.out.trans (M3.out.keeps gr4));have P4:Hid (BoxT W4 pp 50 (pgc [p0,p1,p2,p3,p4,p5,p6,p7])):=P3.out.beside gr4 (fun g e=>by cases e;exact fun h=>HBP.out h.symm)
   have L4':=dD (L3'.out.trans ll4);have QL:Hid (q4.length=8):=ql4;clear mk4 gr4 ll4 ql4
   go_wp2_with (refine wp_storeAllT rfl 50 (.tmp 9) (.tmp 48) rfl pp rfl (pgc q4) rfl P4.out (by simp[pgc,QL.out]) Tryz.sizePg (pgc_one _) ?_)
   intro W5 hb5 hg5 _;have M5:Hid (Mk w0 hi W5 b vl4 L4 V m vt T):=M4.out.page P4.out HHP.out hg5;have K5:Hid (Keeps hi w W5):=K4.out.own hg5 HWP.out;have P5:Hid (BoxT W5 pp 50 (pgc q4)):=hb5;clear hb5 hg5;go_wp2
   go_loopg [49] 8 (fun gg s49 wr=>∃(i:Nat) (q:List Int),i<=8/\8 - i<=gg/\s49= .int .i64 i/\Hid (Mk w0 hi wr b vl4 L4 V m vt T)/\Hid (BoxT wr pp 50 (pgc q))/\Hid (q.length=8)/\Hid (Keeps hi w wr))
   case atStart=>exact⟨0,q4,nZ _,by omega,rfl,M5.out,P5.out,QL.out,K5.out⟩
   obtain⟨i,q,hi8,hg3,rfl,MW5,PW5,QW5,KW5⟩:=hrel
   by_cases hlt3:i<8
   ·have hltz3:(i:Int)<8:=by omega
    obtain⟨z,hz⟩:∃z,q[i]? =some z:=⟨_,gE (by rw[QW5.out];exact hlt3)⟩
    have z0:=PW5.out.box.c i (pgc_at hz);have zf:=PW5.out.box.f;have hfl:=MW5.out.rows.at.fl;have x8:=MW5.out.box.box.c 8 rfl;obtain⟨_,_,hfe,_,hfr⟩:=FilesAt.rows hfl;have hrw:FlRows wr V.fl.a m.fl:=by
     simp only[vJ]at hfe;rw[hfe.1];exact hfr
    have hfn:V.fl.n=m.fl.length:=by
     simp only[vJ]at hfe;exact hfe.2.1
    obtain⟨ad,hva,ba,bc,_,hlf⟩:=hrw fi f HF.out;obtain⟨d0,-⟩:=hlf wr (Grew.refl _);obtain⟨fln,hfln⟩:∃fln,V.fl.n=fln:=⟨_,rfl⟩;have hfz:(fi:Int)< (fln:Int):=by
     have:=(gS.1 HF.out).1;omega
    rw[hva,hfln]at x8;clear hfl hfe hfr hrw hfn hva hlf hfln hz
    by_cases hc:f.size<=8*(ix:Int)+(i:Int)
    ·have hcd:decide (f.size<=8*(ix:Int)+(i:Int))=true:=by simpa using hc
     have HG6:Hid (wr.grownBy (wr.setCell ⟨pp,i,none⟩ (.int .u8 0)) (some pp)):=⟨rfl,rfl,rfl,by simp[World.setCell],fun k _ hk=>Below.heap_setCell _ _ _ _ (fun e=>hk (by rw[e]))⟩
     have P6:Hid (BoxT (wr.setCell ⟨pp,i,none⟩ (.int .u8 0)) pp 50 (pgc (q.set i 0))):=dD<|by rw[pgc_set];exact PW5.out.set i _
     have M6:Hid (Mk w0 hi (wr.setCell ⟨pp,i,none⟩ (.int .u8 0)) b vl4 L4 V m vt T):=MW5.out.page PW5.out HHP.out HG6.out;have K6:Hid (Keeps hi w (wr.setCell ⟨pp,i,none⟩ (.int .u8 0))):=KW5.out.own HG6.out HWP.out;go_wp2
     go_roundg (8 -(i+1))
     case measure=>omega
     exact⟨i+1,q.set i 0,by omega,by omega,by go_num,M6.out,P6.out,(show(q.set i 0).length=8 by rw[List.length_set];exact QW5.out),K6.out⟩
    have hcd:decide (f.size<=8*(ix:Int)+(i:Int))=false:=by simpa using hc
    go_wp2
    go_roundg (8 -(i+1))
    case measure=>omega
    exact⟨i+1,q,by omega,by omega,by go_num,MW5.out,PW5.out,QW5.out,KW5.out⟩
   have hltz3:¬(i:Int)<8:=by omega
   go_wp2
   go_meet
   exact⟨true,q,vl4,L4,rfl,MW5.out,PW5.out,QW5.out,KW5.out,L4'.out⟩
  have hye:(y == 1)=false:=by simp[hy]
  clear hy;go_wp2
  go_meet
  exact⟨false,[p0,p1,p2,p3,p4,p5,p6,p7],vl3,L3,rfl,M3.out,P3.out,rfl,K3.out,L3'.out⟩
 obtain⟨dd,q,vl3',L3x,rfl,M3',P3',Q3',K3',L3''⟩:=hcut;obtain⟨p0,p1,p2,p3,p4,p5,p6,p7,rfl⟩:=len8 q Q3'.out;go_upto_region 16 with fail;obtain⟨I,hI⟩:∃I:World->Prop,I=fun u=>BoxT u pp 50 (pgc [p0,p1,p2,p3,p4,p5,p6,p7]):=⟨_,rfl⟩
 have HI:Hid (∀u,I u↔BoxT u pp 50 (pgc [p0,p1,p2,p3,p4,p5,p6,p7])):=dD<|fun u=>by rw[hI]
 clear hI;have hI0:I wc.drew:=(HI.out _).2 (P3'.out.grew (gW _))
 have hF0:MkE w0 hi b w L V m vt T wc.drew:=⟨vl3',L3x,M3'.out.grew (gW _),L3''.out,K3'.out.trans (Keeps.grew (gW _))⟩
 have hf0:∀y:HoldI I,y.world.cell? ⟨pp,0,none⟩=some (.int .u8 p0):=fun y=>((HI.out _).1 y.holds).box.c 0 rfl
 have hf1:∀y:HoldI I,y.world.cell? ⟨pp,1,none⟩=some (.int .u8 p1):=fun y=>((HI.out _).1 y.holds).box.c 1 rfl
 have hf2:∀y:HoldI I,y.world.cell? ⟨pp,2,none⟩=some (.int .u8 p2):=fun y=>((HI.out _).1 y.holds).box.c 2 rfl
 have hf3:∀y:HoldI I,y.world.cell? ⟨pp,3,none⟩=some (.int .u8 p3):=fun y=>((HI.out _).1 y.holds).box.c 3 rfl
 have hf4:∀y:HoldI I,y.world.cell? ⟨pp,4,none⟩=some (.int .u8 p4):=fun y=>((HI.out _).1 y.holds).box.c 4 rfl
 have hf5:∀y:HoldI I,y.world.cell? ⟨pp,5,none⟩=some (.int .u8 p5):=fun y=>((HI.out _).1 y.holds).box.c 5 rfl
 have hf6:∀y:HoldI I,y.world.cell? ⟨pp,6,none⟩=some (.int .u8 p6):=fun y=>((HI.out _).1 y.holds).box.c 6 rfl
 have hf7:∀y:HoldI I,y.world.cell? ⟨pp,7,none⟩=some (.int .u8 p7):=fun y=>((HI.out _).1 y.holds).box.c 7 rfl
 have hne:Nonempty (HoldI I):=⟨⟨_,hI0⟩⟩;refine wp_lax_tailD (I:=I) 10 [(3,fun v=>∃x:Int,v= .int .i64 x),(9,fun v=>v= .int .i64 (-1)\/∃j:Nat,v= .int .i64 (j:Int))] (fun u=>MkE w0 hi b w L V m vt T u) hI0 hF0 mixed (by kernel_rfl) rfl rfl (by decide) ?hS (by kernel_rfl) ?_
 case hS=>
  intro x hx;simp only[mC,nM,or_false]at hx
  rcases hx with rfl|rfl
  ·exact⟨_,0,rfl⟩
  exact⟨_,.inl rfl⟩
 simp only[List.take,List.drop];iterate 3 (refine laxD_quiet rfl rfl rfl (fun K hK=>?_);go_big_quiet_op;refine hK _ ?_;clear hK)
 refine laxD_spec rfl rfl (fun _ u=>MkE w0 hi b w L V m vt T u) (fun w' hI' hF'=>?_) (fun v1 hv=>?_)
 ·obtain⟨vl',L',mk',ll',kp'⟩:=hF';refine Does.call [.pointer (some ⟨b,0,none⟩),.int .i64 2] rfl func27 rfl rfl rfl ?_;refine(pick_any 2 mk').mono ?_;rintro e w'' ⟨vl2,L2,x,rfl,mk2,gr2,_,_,_,_,ll2⟩;exact⟨_,rfl,(HI.out _).2 (((HI.out _).1 hI').beside gr2 (fun g e=>by cases e;exact fun h=>HBP.out h.symm)),⟨x,rfl⟩,vl2,L2,mk2,ll'.trans ll2,kp'.trans (mk'.keeps gr2)⟩
 obtain⟨x,rfl⟩:=hv;simp only[Act.put,sB,sS,sZ];iterate 5 (refine laxD_quiet rfl rfl rfl (fun K hK=>?_);go_big_quiet_op;refine hK _ ?_;clear hK)
 refine laxD_spec rfl rfl (fun v u=>(v= .int .i64 (-1)/\MkE w0 hi b w L V m vt T u)\/∃(j:Nat) (q:Fr),v= .int .i64 (j:Int)/\m.fs[j]? =some q/\q.r=0/\MkE w0 hi b w L V { m with fs:=m.fs.set j ⟨⟨p0,p1,p2,p3,p4,p5,p6,p7⟩,1,x == 1,dd,(fi:Int),(ix:Int)⟩ } vt T u) (fun w' hI' hF'=>?_) (fun v1 hv=>?_)
 ·obtain⟨vl',L',mk',ll',kp'⟩:=hF';refine Does.call [.pointer (some ⟨b,0,none⟩),.agg (frv ⟨⟨p0,p1,p2,p3,p4,p5,p6,p7⟩,1,x == 1,dd,(fi:Int),(ix:Int)⟩).toArray] rfl func128 rfl rfl rfl ?_;refine(frame_any ⟨⟨p0,p1,p2,p3,p4,p5,p6,p7⟩,1,x == 1,dd,(fi:Int),(ix:Int)⟩ mk').mono ?_;rintro e w'' (⟨rfl,hE⟩|⟨j,q,rfl,hq,hr,hE⟩)
  ·have hkp:=hE;obtain⟨_,_,_,_,kq⟩:=hkp;exact⟨_,rfl,(HI.out _).2 (kq.1 pp _ _ ((HI.out _).1 hI') (loc_page HHP.out)),.inl rfl,.inl ⟨rfl,hE.trans ll' kp'⟩⟩
  have hkp:=hE;obtain⟨_,_,_,_,kq⟩:=hkp;exact⟨_,rfl,(HI.out _).2 (kq.1 pp _ _ ((HI.out _).1 hI') (loc_page HHP.out)),.inr ⟨j,rfl⟩,.inr ⟨j,q,rfl,hq,hr,hE.trans ll' kp'⟩⟩
 rcases hv with rfl|⟨j,rfl⟩
 ·simp only[Act.put,sB,sS,sZ];refine laxD_nil fun W6 hI6 hF6=>?_
  have H6:Hid (MkE w0 hi b w L V m vt T W6):=dD<|by
   rcases hF6 with⟨_,h⟩|⟨j,q,e,_⟩
   ·exact h
   simp only[Value.int.injEq,true_and]at e;omega
  clear hF6 hI6 hI0 hF0 hne hf0 hf1 hf2 hf3 hf4 hf5 hf6 hf7;go_wp2;go_ret;exact .inl ⟨rfl,H6.out⟩
 simp only[Act.put,sB,sS,sZ];refine laxD_nil fun W6 hI6 hF6=>?_
 obtain⟨q,hq,hr,vl6,L6,mk6,ll6,kp6⟩:∃q:Fr,m.fs[j]? =some q/\q.r=0/\MkE w0 hi b w L V { m with fs:=m.fs.set j ⟨⟨p0,p1,p2,p3,p4,p5,p6,p7⟩,1,x == 1,dd,(fi:Int),(ix:Int)⟩ } vt T W6:=by
  rcases hF6 with⟨e,_⟩|⟨j',q,e,hq,hr,hE⟩
  ·simp only[Value.int.injEq,true_and]at e;omega
  simp only[Value.int.injEq,true_and]at e;obtain rfl:j=j':=by omega
  exact⟨q,hq,hr,hE⟩
 have HQ:Hid (m.fs[j]? =some q):=hq;have HR0:Hid (q.r=0):=hr;have M6:Hid (Mk w0 hi W6 b vl6 L6 V { m with fs:=m.fs.set j ⟨⟨p0,p1,p2,p3,p4,p5,p6,p7⟩,1,x == 1,dd,(fi:Int),(ix:Int)⟩ } vt T):=mk6;have K6:Hid (Keeps hi w W6):=kp6;have LL6:Hid (Less L L6):=ll6;clear hF6 hI6 hI0 hF0 hne hq hr mk6 ll6 kp6 hf0 hf1 hf2 hf3 hf4 hf5 hf6 hf7;have hj0:¬(j:Int)<0:=by omega
 go_wp2
 go_loopg [13] n (fun gg s13 wr=>∃at_:Nat,at_<=n/\n - at_<=gg/\s13= .int .i64 at_/\Hid (Mk w0 hi wr b vl6 L6 V { m with fs:=m.fs.set j ⟨⟨p0,p1,p2,p3,p4,p5,p6,p7⟩,1,x == 1,dd,(fi:Int),(ix:Int)⟩ } vt T)/\Hid (Keeps hi w wr)/\Hid (∀(i:Nat) c,i<at_->m.ca[i]? =some c->decide (keyC c<keyC ⟨(fi:Int),(ix:Int),(j:Int)⟩)=true))
 case atStart=>exact⟨0,nZ _,by omega,rfl,M6.out,K6.out,fun i c hi=>absurd hi (nL _)⟩
 obtain⟨at_,hat,hg2,rfl,MR,KR,OW2⟩:=hrel;have x10:=MR.out.box.box.c 10 rfl;rw[HN.out,HAA.out]at x10
 by_cases hlt2:at_<n
 ·have hltz2:(at_:Int)< (n:Int):=by omega
  obtain⟨c,HC⟩:∃c,Hid (m.ca[at_]? =some c):=⟨_,gE (by rw[HLN.out];exact hlt2)⟩
  obtain⟨adc,rfl,hl⟩:=HCR.out wr ⟨vl6,L6,{ m with fs:=m.fs.set j ⟨⟨p0,p1,p2,p3,p4,p5,p6,p7⟩,1,x == 1,dd,(fi:Int),(ix:Int)⟩ },rfl,MR.out⟩ at_ c HC.out;obtain⟨d0,d1,d2⟩:=hl wr (Grew.refl _);obtain⟨b1,b2,b3,b4,-⟩:=HCA.out c (mG HC.out);clear hl d2
  by_cases hk:100*c.file+c.idx<100*(fi:Int)+(ix:Int)
  ·have hkd:decide (100*c.file+c.idx<100*(fi:Int)+(ix:Int))=true:=by simpa using hk
   have hgd:decide ((at_:Int)< (n:Int))=true:=by simpa using hltz2
   have OW3:Hid (∀(i:Nat) c,i<at_+1->m.ca[i]? =some c->decide (keyC c<keyC ⟨(fi:Int),(ix:Int),(j:Int)⟩)=true):=dD<|fun i c' hi' hc'=>by
    by_cases e:i=at_
    ·subst e;rw[HC.out]at hc';cases hc';exact hkd
    exact OW2.out i c' (by omega) hc'
   clear hk;go_upto_region 20 with fail;go_quiet (fail);go_wp2
   go_roundg (n -(at_+1))
   case measure=>omega
   exact⟨at_+1,by omega,by omega,by go_num,MR.out.grew (show Below _ _ _ from bD (bR _ _) _),KR.out.trans (Keeps.grew (show Below _ _ _ from bD (bR _ _) _)),OW3.out⟩
  have hkd:decide (100*c.file+c.idx<100*(fi:Int)+(ix:Int))=false:=by simpa using hk
  have hgd:decide ((at_:Int)< (n:Int))=true:=by simpa using hltz2
  have HST:Hid (∀x,m.ca[at_]? =some x->decide (keyC x<keyC ⟨(fi:Int),(ix:Int),(j:Int)⟩)=false):=dD<|fun x hx=>by
   rw[HC.out]at hx;cases hx;exact hkd
  clear hk;go_upto_region 20 with fail;go_quiet (fail);clear x10 d0 d1;have HSP:Hid (insCa m.ca ⟨(fi:Int),(ix:Int),(j:Int)⟩=m.ca.take at_++ [⟨(fi:Int),(ix:Int),(j:Int)⟩]++m.ca.drop at_):=dD<|by
   obtain⟨e1,e2⟩:=tw_split (p:=fun d=>decide (keyC d<keyC ⟨(fi:Int),(ix:Int),(j:Int)⟩)) (l:=m.ca) (k:=at_) OW2.out HST.out (by rw[HLN.out];exact hat)
   unfold insCa;rw[e1,e2];simp
  obtain⟨Wq,hWq⟩:∃Wq,wr.drewN nq=Wq:=⟨_,rfl⟩;have Gq:Hid (Grew wr Wq):=dD<|by rw[<-hWq];exact(show Below _ _ _ from bD (bR _ _) _)
  rw[hWq];clear hWq;have MQ:=dD (MR.out.grew Gq.out);have KQ:=dD (KR.out.trans (Keeps.grew Gq.out));clear Gq
  try clear wr
  obtain⟨wr,rfl⟩:∃wr,wr=Wq:=⟨_,rfl⟩;go_upto_region 22 with fail;obtain⟨A,HA⟩:∃A,Hid (m.ca.take at_=A):=⟨_,rfl⟩;obtain⟨D2,HD⟩:∃D2,Hid (m.ca.drop at_=D2):=⟨_,rfl⟩;rw[HA.out,HD.out]at HSP;have HLA:Hid (A.length=at_):=dD<|by rw[<-HA.out,List.length_take,HLN.out];omega
  have HLD:Hid (D2.length=n - at_):=dD<|by rw[<-HD.out,List.length_drop,HLN.out]
  obtain⟨cn,HCN⟩:∃cn:Ca,Hid (cn=⟨(fi:Int),(ix:Int),(j:Int)⟩):=⟨_,rfl⟩;rw[<-HCN.out]at HSP;obtain⟨N,HNN⟩:∃N,Hid ((A++ [cn]++D2).length=N):=⟨_,rfl⟩;obtain⟨I,HI⟩:∃I:World->Prop,Hid (∀u,I u↔Grew wr u):=⟨fun u=>Grew wr u,fun _=>Iff.rfl⟩
  have hI0:I wr.drew:=(HI.out _).2 (gW _)
  have hne:Nonempty (HoldI I):=⟨⟨_,hI0⟩⟩;have hx10:∀y:HoldI I,y.world.cell? ⟨b,10,none⟩=some (.slice (some adc) n V.ca.c):=fun y=>by
   have:=(MQ.out.box.box.grew ((HI.out _).1 y.holds)).c 10 rfl;rw[HN.out,HAA.out]at this;exact this
  have HRO:Hid (RowAt cchE wr (.slice (some adc) n V.ca.c) m.ca):=dD<|by
   have:=MQ.out.rows.ca.at;rw[HN.out,HAA.out]at this;exact this
  have hup:=fun W=>run_upto (w:=W) (a:=(some adc)) (n:=n) (c:=V.ca.c) (k:=at_) (nT hat HCC.out)
  have hfr:=fun W=>run_from (w:=W) (a:=(some adc)) (n:=n) (c:=V.ca.c) (k:=at_) hat
  obtain⟨fa,hfa⟩:∃fa,(((some adc):Option Addr).map fun ad=>if V.ca.c=at_ then ad else ad.add (at_*3))=fa:=⟨_,rfl⟩
  have HRA:Hid (RowAt cchE wr (.slice (some adc) at_ V.ca.c) A):=dD<|by rw[<-HA.out];exact HRO.out.upto hat
  have HRD:Hid (RowAt cchE wr (.slice fa (n - at_) (V.ca.c - at_)) D2):=dD<|by rw[<-HD.out,<-hfa];exact HRO.out.from hat HCC.out
  rw[hfa]at hfr;clear hfa;obtain⟨nd,HND⟩:∃nd,Hid (n - at_=nd):=⟨_,rfl⟩;obtain⟨cd,HCD⟩:∃cd,Hid (V.ca.c - at_=cd):=⟨_,rfl⟩;rw[HND.out,HCD.out]at hfr HRD;refine wp_lax_tailI (I:=I) 27 [(1,⟨fun v=>∃g,v= .slice (some ⟨g,0,none⟩) 0 0,fun v w'=>OwnRow cchE wr.heap.size w' v [],fun p q=>Grew p q,fun _=>True⟩),(9,⟨fun v=>(∃a c,v= .slice a at_ c)/\(at_=0->∃g,v= .slice (some ⟨g,0,none⟩) 0 0),fun v w'=>OwnRow cchE wr.heap.size w' v A,fun p q=>Grew p q,fun _=>True⟩),(14,⟨fun v=>∃g,v= .slice (some ⟨g,0,none⟩) 1 1,fun v w'=>OwnRow cchE wr.heap.size w' v [cn],fun p q=>Grew p q,fun _=>True⟩),(15,⟨fun v=>∃a c,v= .slice a (at_+1) c,fun v w'=>OwnRow cchE wr.heap.size w' v (A++ [cn]),fun p q=>(∀u m,m.length<=at_\/m.length<=1->OwnRow cchE wr.heap.size p u m->OwnRow cchE wr.heap.size q u m),fun _=>True⟩),(23,⟨fun v=>∃a c,v= .slice a N c,fun v w'=>OwnRow cchE wr.heap.size w' v (A++ [cn]++D2),fun p q=>(∀u m,m.length<=at_+1->OwnRow cchE wr.heap.size p u m->OwnRow cchE wr.heap.size q u m),fun _=>True⟩)] hI0 mixed (by kernel_rfl) rfl rfl (by decide) ?hS ?hp ?hpre ?hpr0 ?_
  case hS=>
   intro x hx;simp only[mC,nM,or_false]at hx
   rcases hx with rfl|rfl|rfl|rfl|rfl
   ·exact⟨_,0,rfl⟩
   ·by_cases h0:at_=0
    ·exact⟨.slice (some ⟨0,0,none⟩) 0 0,⟨some ⟨0,0,none⟩,0,by rw[h0]⟩,fun _=>⟨0,rfl⟩⟩
    exact⟨.slice none at_ 0,⟨_,_,rfl⟩,fun h=>absurd h h0⟩
   ·exact⟨_,0,rfl⟩
   ·exact⟨_,none,0,rfl⟩
   exact⟨_,none,0,rfl⟩
  case hp=>
   intro k s j t hk hj hjk hanc v p q hst hpo;have hk':=lookup_in hk;have hj':=lookup_in hj;clear hk hj;simp only[mC,pJ,nM,or_false]at hk' hj'
   rcases hk' with⟨rfl,rfl⟩|⟨rfl,rfl⟩|⟨rfl,rfl⟩|⟨rfl,rfl⟩|⟨rfl,rfl⟩
   ·rcases hj' with⟨rfl,rfl⟩|⟨rfl,rfl⟩|⟨rfl,rfl⟩|⟨rfl,rfl⟩|⟨rfl,rfl⟩
    ·exact absurd rfl hjk
    ·exact OwnRow.grew hpo hst
    ·exact OwnRow.grew hpo hst
    ·exact hst v [] (.inl (nZ _)) hpo
    exact hst v [] (nZ _) hpo
   ·rcases hj' with⟨rfl,rfl⟩|⟨rfl,rfl⟩|⟨rfl,rfl⟩|⟨rfl,rfl⟩|⟨rfl,rfl⟩
    ·exact OwnRow.grew hpo hst
    ·exact absurd rfl hjk
    ·exact OwnRow.grew hpo hst
    ·exact hst v A (.inl (by rw[HLA.out];exact nR _)) hpo
    exact hst v A (by rw[HLA.out];omega) hpo
   ·rcases hj' with⟨rfl,rfl⟩|⟨rfl,rfl⟩|⟨rfl,rfl⟩|⟨rfl,rfl⟩|⟨rfl,rfl⟩
    ·exact OwnRow.grew hpo hst
    ·exact OwnRow.grew hpo hst
    ·exact absurd rfl hjk
    ·exact hst v [cn] (.inr (nR _)) hpo
    exact hst v [cn] (by simp) hpo
   ·rcases hj' with⟨rfl,rfl⟩|⟨rfl,rfl⟩|⟨rfl,rfl⟩|⟨rfl,rfl⟩|⟨rfl,rfl⟩
    ·exact OwnRow.grew hpo hst
    ·exact OwnRow.grew hpo hst
    ·exact OwnRow.grew hpo hst
    ·exact absurd rfl hjk
    exact hst v (A++ [cn]) (by rw[lA,HLA.out];simp) hpo
   rcases hj' with⟨rfl,rfl⟩|⟨rfl,rfl⟩|⟨rfl,rfl⟩|⟨rfl,rfl⟩|⟨rfl,rfl⟩
   ·exact OwnRow.grew hpo hst
   ·exact OwnRow.grew hpo hst
   ·exact OwnRow.grew hpo hst
   ·exact Bool.noConfusion (hanc.symm.trans (show _=true by kernel_rfl))
   exact absurd rfl hjk
  case hpre=>
   intro j t k s hj hk hjk p q hst hpr;have hj':=lookup_in hj;clear hk hj;simp only[mC,pJ,nM,or_false]at hj'
   rcases hj' with⟨rfl,rfl⟩|⟨rfl,rfl⟩|⟨rfl,rfl⟩|⟨rfl,rfl⟩|⟨rfl,rfl⟩ <;> trivial
  case hpr0=>
   intro k t hk;have hk':=lookup_in hk;clear hk;simp only[mC,pJ,nM,or_false]at hk'
   rcases hk' with⟨rfl,rfl⟩|⟨rfl,rfl⟩|⟨rfl,rfl⟩|⟨rfl,rfl⟩|⟨rfl,rfl⟩ <;> trivial
  simp only[List.take,List.drop];iterate 1 (refine laxI_quiet rfl rfl rfl (fun K hK=>?_);go_big_quiet_op;refine hK _ ?_;clear hK)
  refine laxI_spec rfl rfl (fun w' hI' hpr hF=>?_) (fun v1 hv=>?_)
  ·have hg:=(HI.out _).1 hI';refine Does.step (v:= .slice (some ⟨w'.heap.size,0,none⟩) 0 0) (w':=w'.alloc (.cells #[] 83)) (by simp only[execOp];go_simp) ⟨(HI.out _).2 (hg.trans (grew_alloc _ _)),grew_alloc _ _,⟨_,rfl⟩,(OwnRow.made cchE w').base (bS hg)⟩
  obtain⟨g0,rfl⟩:=hv;simp only[Act.put,sB,sS,sZ];iterate 1 (refine laxI_quiet rfl rfl rfl (fun K hK=>?_);go_big_quiet_op;refine hK _ ?_;clear hK)
  refine laxI_nilc (.tmp 121) ⟨b,0,none⟩ rfl rfl rfl rfl ?_;simp only[Act.put,sB,sS,sZ];iterate 5 (refine laxI_quiet rfl rfl rfl (fun K hK=>?_);go_big_quiet_op;refine hK _ ?_;clear hK)
  refine laxI_spec rfl rfl (fun w' hI' hpr hF=>?_) (fun v1 hv=>?_)
  ·have hg:=(HI.out _).1 hI';have h0:OwnRow cchE wr.heap.size w' (.slice (some ⟨g0,0,none⟩) 0 0) []:=hF 1 (by kernel_rfl)
   obtain⟨v',w2,hrun,ho,hg2,hz⟩:=run_append_new (E:=cchE) (w:=w') 37 h0 (.slice (some adc) at_ V.ca.c) A (HRA.out.grew hg) (bS hg);obtain⟨a',c',rfl⟩:=ho.form;refine Does.step (v:= .slice a' A.length c') (w':=w2) ?_ ⟨(HI.out _).2 (hg.trans hg2),hg2,⟨⟨a',c',by rw[HLA.out]⟩,fun h=>⟨g0,hz (eN (by rw[HLA.out];exact h))⟩⟩,ho⟩
   clear hx10 hup hfr;simp only[execOp,resolve,invoke,builtin,pure_bind,Sem.run_bind,Sem.run_pure,List.map_toArray,mP,List.map_nil];exact Eq.trans (congrArg (fun r=>Result.andThen r (fun a w'=>Result.ok (Next.value a) w')) hrun) rfl
  obtain⟨⟨a3,c3,rfl⟩,hz3⟩:=hv;simp only[Act.put,sB,sS,sZ];iterate 4 (refine laxI_quiet rfl rfl rfl (fun K hK=>?_);go_big_quiet_op;refine hK _ ?_;clear hK)
  refine laxI_spec rfl rfl (fun w' hI' hpr hF=>?_) (fun v1 hv=>?_)
  ·have hg:=(HI.out _).1 hI';have hoc:=(own_cached w' cn).base (bS hg);rw[HCN.out]at hoc;refine Does.step (v:= .slice (some ⟨w'.heap.size,0,none⟩) 1 1) (w':=w'.alloc (.cells #[.int .i64 (fi:Int),.int .i64 (ix:Int),.int .i64 (j:Int)] 83)) (by clear hx10 hup hfr;simp only[execOp];go_simp) ⟨(HI.out _).2 (hg.trans (grew_alloc _ _)),grew_alloc _ _,⟨_,rfl⟩,by rw[HCN.out];exact hoc⟩
  obtain⟨g5,rfl⟩:=hv;simp only[Act.put,sB,sS,sZ];refine laxI_spec rfl rfl (fun w' hI' hpr hF=>?_) (fun v1 hv=>?_)
  ·have hg:=(HI.out _).1 hI';have o3:OwnRow cchE wr.heap.size w' (.slice a3 at_ c3) A:=hF 9 (by kernel_rfl)
   have o5:OwnRow cchE wr.heap.size w' (.slice (some ⟨g5,0,none⟩) 1 1) [cn]:=hF 14 (by kernel_rfl)
   have key:∃v' w2,(Builtin.append_ #[37,37] 37 #[.slice a3 at_ c3,.slice (some ⟨g5,0,none⟩) 1 1]).run prog w'= .ok v' w2/\OwnRow cchE wr.heap.size w2 v' (A++ [cn])/\Grew wr w2/\∀u m,m.length<=at_\/m.length<=1->OwnRow cchE wr.heap.size w' u m->OwnRow cchE wr.heap.size w2 u m:=by
    by_cases h0:at_=0
    ·have hxs:A=[]:=eN (by rw[HLA.out];exact h0)
     obtain⟨g,hgv⟩:=hz3 h0;rw[hgv,hxs]at o3;rw[hgv,hxs];obtain⟨v',w2,hrun,ho,hg2,_⟩:=run_append_new (E:=cchE) (w:=w') 37 o3 (.slice (some ⟨g5,0,none⟩) 1 1) [cn] o5.at (bS hg);exact⟨v',w2,hrun,ho,hg.trans hg2,fun u m _ h=>h.grew hg2⟩
    obtain⟨v',w2,hrun,ho,hgr,hk⟩:=run_append_keeps (E:=cchE) (w:=w') 37 o3 (.slice (some ⟨g5,0,none⟩) 1 1) [cn] o5.at (by rw[HLA.out];show(at_+1)*24<=_;omega) (bS hg)
    refine⟨v',w2,hrun,ho,grew_beside hg hgr (fun g hg'=>(o3.lt g hg').1),fun u m hm h=>hk u m ?_ h⟩
    rw[HLA.out];omega
   obtain⟨v',w2,hrun,ho,hg2,hk⟩:=key;obtain⟨a',c',rfl⟩:=ho.form;refine Does.step (v:= .slice a' (A++ [cn]).length c') (w':=w2) ?_ ⟨(HI.out _).2 hg2,hk,⟨a',c',by rw[lA,HLA.out];rfl⟩,ho⟩
   clear hx10 hup hfr;simp only[execOp,resolve,invoke,builtin,pure_bind,Sem.run_bind,Sem.run_pure,List.map_toArray,mP,List.map_nil];exact Eq.trans (congrArg (fun r=>Result.andThen r (fun a w'=>Result.ok (Next.value a) w')) hrun) rfl
  obtain⟨a6,c6,rfl⟩:=hv;simp only[Act.put,sB,sS,sZ];iterate 1 (refine laxI_quiet rfl rfl rfl (fun K hK=>?_);go_big_quiet_op;refine hK _ ?_;clear hK)
  refine laxI_nilc (.tmp 135) ⟨b,0,none⟩ rfl rfl rfl rfl ?_;simp only[Act.put,sB,sS,sZ];iterate 5 (refine laxI_quiet rfl rfl rfl (fun K hK=>?_);go_big_quiet_op;refine hK _ ?_;clear hK)
  refine laxI_spec rfl rfl (fun w' hI' hpr hF=>?_) (fun v1 hv=>?_)
  ·have hg:=(HI.out _).1 hI';have o6:OwnRow cchE wr.heap.size w' (.slice a6 (at_+1) c6) (A++ [cn]):=hF 15 (by kernel_rfl)
   have hl6:(A++ [cn]).length=at_+1:=by rw[lA,HLA.out];rfl
   obtain⟨v',w2,hrun,ho,hgr,hk⟩:=run_append_keeps (E:=cchE) (w:=w') 37 o6 (.slice fa nd cd) D2 (HRD.out.grew hg) (by rw[hl6,HLD.out];show(at_+1+(n - at_))*24<=_;omega) (bS hg)
   obtain⟨a',c',rfl⟩:=ho.form;refine Does.step (v:= .slice a' (A++ [cn]++D2).length c') (w':=w2) ?_ ⟨(HI.out _).2 (grew_beside hg hgr (fun g hg'=>(o6.lt g hg').1)),(fun u m hm h=>hk u m (by rw[hl6];exact hm) h),⟨a',c',by rw[HNN.out]⟩,ho⟩
   clear hx10 hup hfr;simp only[execOp,resolve,invoke,builtin,pure_bind,Sem.run_bind,Sem.run_pure,List.map_toArray,mP,List.map_nil];exact Eq.trans (congrArg (fun r=>Result.andThen r (fun a w'=>Result.ok (Next.value a) w')) hrun) rfl
  obtain⟨a7,c7,rfl⟩:=hv;simp only[Act.put,sB,sS,sZ];refine laxI_nilc (.tmp 119) ⟨b,0,none⟩ rfl rfl rfl rfl ?_;simp only[Act.put,sB,sS,sZ];iterate 2 (refine laxI_quiet rfl rfl rfl (fun K hK=>?_);go_big_quiet_op;refine hK _ ?_;clear hK)
  refine laxI_nil fun W7 hI7 hF=>?_
  have o7:OwnRow cchE wr.heap.size W7 (.slice a7 N c7) (A++ [cn]++D2):=hF 23;have g7:=(HI.out _).1 hI7;have M7:=dD (MQ.out.grew g7);have K7:=dD (KQ.out.trans (Keeps.grew g7));have O7:Hid (OwnRow cchE wr.heap.size W7 (.slice a7 N c7) (A++ [cn]++D2)):=o7;have HB7:Hid (w0.heap.size<=wr.heap.size):=show _<=_ from bS MQ.out.gr
  have HB8:Hid (b<wr.heap.size):=dD<|MQ.out.box.box.lt
  clear o7 g7 hF hI7 hx10 hup hfr hne hI0;have xc:=M7.out.box.box.c 10 rfl;rw[HN.out,HAA.out]at xc;have xf:=M7.out.box.box.f;have HG8:Hid (W7.grownBy (W7.setCell ⟨b,10,none⟩ (.slice a7 N c7)) (some b)):=⟨rfl,rfl,rfl,by simp[World.setCell],fun k _ hk=>Below.heap_setCell _ _ _ _ (fun e=>hk (by rw[e]))⟩
  have M8:Hid (Mk w0 hi (W7.setCell ⟨b,10,none⟩ (.slice a7 N c7)) b vl6 L6 { V with ca:=⟨a7,N,c7⟩ } { m with fs:=m.fs.set j ⟨⟨p0,p1,p2,p3,p4,p5,p6,p7⟩,1,x == 1,dd,(fi:Int),(ix:Int)⟩,ca:=insCa m.ca ⟨(fi:Int),(ix:Int),(j:Int)⟩ } vt T):=dD<|by
   have h7:=M7.out;refine⟨grew_grown h7.gr HG8.out h7.hb,h7.hb,h7.box.set 10 _,h7.lr,h7.lc,h7.lb,?_⟩;have hr:=h7.rows.var HG8.out h7.box HG8.out.size (.inl rfl);have:=hr.setCa (s:=⟨a7,N,c7⟩) (ca:=A++ [cn]++D2) ((O7.out.setCell (by have:=HB8.out;simp;omega) _).base HB7.out)
   rw[HCN.out]at this HSP;rw[HSP.out];exact this
  have K8:=dD (K7.out.trans (M7.out.keeps HG8.out));go_wp2;go_ret;exact .inr (.inr ⟨j,rfl,q,_,_,_,⟨a7,N,c7⟩,HQ.out,HR0.out,HNO.out,vl6,L6,M8.out,LL6.out,K8.out⟩)
 have hltz2:¬(at_:Int)< (n:Int):=by omega
 have hgd:decide ((at_:Int)< (n:Int))=false:=by simpa using hltz2
 have HST:Hid (∀x,m.ca[at_]? =some x->decide (keyC x<keyC ⟨(fi:Int),(ix:Int),(j:Int)⟩)=false):=dD<|fun x hx=>by
  have:=(gS.1 hx).1;have:=HLN.out;omega
 go_upto_region 20 with fail;go_quiet (fail);clear x10;have HSP:Hid (insCa m.ca ⟨(fi:Int),(ix:Int),(j:Int)⟩=m.ca.take at_++ [⟨(fi:Int),(ix:Int),(j:Int)⟩]++m.ca.drop at_):=dD<|by
  obtain⟨e1,e2⟩:=tw_split (p:=fun d=>decide (keyC d<keyC ⟨(fi:Int),(ix:Int),(j:Int)⟩)) (l:=m.ca) (k:=at_) OW2.out HST.out (by rw[HLN.out];exact hat)
  unfold insCa;rw[e1,e2];simp
 obtain⟨Wq,hWq⟩:∃Wq,wr.drewN nq=Wq:=⟨_,rfl⟩;have Gq:Hid (Grew wr Wq):=dD<|by rw[<-hWq];exact(show Below _ _ _ from bD (bR _ _) _)
 rw[hWq];clear hWq;have MQ:=dD (MR.out.grew Gq.out);have KQ:=dD (KR.out.trans (Keeps.grew Gq.out));clear Gq
 try clear wr
 obtain⟨wr,rfl⟩:∃wr,wr=Wq:=⟨_,rfl⟩;go_upto_region 22 with fail;obtain⟨A,HA⟩:∃A,Hid (m.ca.take at_=A):=⟨_,rfl⟩;obtain⟨D2,HD⟩:∃D2,Hid (m.ca.drop at_=D2):=⟨_,rfl⟩;rw[HA.out,HD.out]at HSP;have HLA:Hid (A.length=at_):=dD<|by rw[<-HA.out,List.length_take,HLN.out];omega
 have HLD:Hid (D2.length=n - at_):=dD<|by rw[<-HD.out,List.length_drop,HLN.out]
 obtain⟨cn,HCN⟩:∃cn:Ca,Hid (cn=⟨(fi:Int),(ix:Int),(j:Int)⟩):=⟨_,rfl⟩;rw[<-HCN.out]at HSP;obtain⟨N,HNN⟩:∃N,Hid ((A++ [cn]++D2).length=N):=⟨_,rfl⟩;obtain⟨I,HI⟩:∃I:World->Prop,Hid (∀u,I u↔Grew wr u):=⟨fun u=>Grew wr u,fun _=>Iff.rfl⟩
 have hI0:I wr.drew:=(HI.out _).2 (gW _)
 have hne:Nonempty (HoldI I):=⟨⟨_,hI0⟩⟩;have hx10:∀y:HoldI I,y.world.cell? ⟨b,10,none⟩=some (.slice caa n V.ca.c):=fun y=>by
  have:=(MQ.out.box.box.grew ((HI.out _).1 y.holds)).c 10 rfl;rw[HN.out,HAA.out]at this;exact this
 have HRO:Hid (RowAt cchE wr (.slice caa n V.ca.c) m.ca):=dD<|by
  have:=MQ.out.rows.ca.at;rw[HN.out,HAA.out]at this;exact this
 have hup:=fun W=>run_upto (w:=W) (a:=caa) (n:=n) (c:=V.ca.c) (k:=at_) (nT hat HCC.out)
 have hfr:=fun W=>run_from (w:=W) (a:=caa) (n:=n) (c:=V.ca.c) (k:=at_) hat
 obtain⟨fa,hfa⟩:∃fa,((caa:Option Addr).map fun ad=>if V.ca.c=at_ then ad else ad.add (at_*3))=fa:=⟨_,rfl⟩
 have HRA:Hid (RowAt cchE wr (.slice caa at_ V.ca.c) A):=dD<|by rw[<-HA.out];exact HRO.out.upto hat
 have HRD:Hid (RowAt cchE wr (.slice fa (n - at_) (V.ca.c - at_)) D2):=dD<|by rw[<-HD.out,<-hfa];exact HRO.out.from hat HCC.out
 rw[hfa]at hfr;clear hfa;obtain⟨nd,HND⟩:∃nd,Hid (n - at_=nd):=⟨_,rfl⟩;obtain⟨cd,HCD⟩:∃cd,Hid (V.ca.c - at_=cd):=⟨_,rfl⟩;rw[HND.out,HCD.out]at hfr HRD;refine wp_lax_tailI (I:=I) 27 [(1,⟨fun v=>∃g,v= .slice (some ⟨g,0,none⟩) 0 0,fun v w'=>OwnRow cchE wr.heap.size w' v [],fun p q=>Grew p q,fun _=>True⟩),(9,⟨fun v=>(∃a c,v= .slice a at_ c)/\(at_=0->∃g,v= .slice (some ⟨g,0,none⟩) 0 0),fun v w'=>OwnRow cchE wr.heap.size w' v A,fun p q=>Grew p q,fun _=>True⟩),(14,⟨fun v=>∃g,v= .slice (some ⟨g,0,none⟩) 1 1,fun v w'=>OwnRow cchE wr.heap.size w' v [cn],fun p q=>Grew p q,fun _=>True⟩),(15,⟨fun v=>∃a c,v= .slice a (at_+1) c,fun v w'=>OwnRow cchE wr.heap.size w' v (A++ [cn]),fun p q=>(∀u m,m.length<=at_\/m.length<=1->OwnRow cchE wr.heap.size p u m->OwnRow cchE wr.heap.size q u m),fun _=>True⟩),(23,⟨fun v=>∃a c,v= .slice a N c,fun v w'=>OwnRow cchE wr.heap.size w' v (A++ [cn]++D2),fun p q=>(∀u m,m.length<=at_+1->OwnRow cchE wr.heap.size p u m->OwnRow cchE wr.heap.size q u m),fun _=>True⟩)] hI0 mixed (by kernel_rfl) rfl rfl (by decide) ?hS ?hp ?hpre ?hpr0 ?_
 case hS=>
  intro x hx;simp only[mC,nM,or_false]at hx
  rcases hx with rfl|rfl|rfl|rfl|rfl
  ·exact⟨_,0,rfl⟩
  ·by_cases h0:at_=0
   ·exact⟨.slice (some ⟨0,0,none⟩) 0 0,⟨some ⟨0,0,none⟩,0,by rw[h0]⟩,fun _=>⟨0,rfl⟩⟩
   exact⟨.slice none at_ 0,⟨_,_,rfl⟩,fun h=>absurd h h0⟩
  ·exact⟨_,0,rfl⟩
  ·exact⟨_,none,0,rfl⟩
  exact⟨_,none,0,rfl⟩
 case hp=>
  intro k s j t hk hj hjk hanc v p q hst hpo;have hk':=lookup_in hk;have hj':=lookup_in hj;clear hk hj;simp only[mC,pJ,nM,or_false]at hk' hj'
  rcases hk' with⟨rfl,rfl⟩|⟨rfl,rfl⟩|⟨rfl,rfl⟩|⟨rfl,rfl⟩|⟨rfl,rfl⟩
  ·rcases hj' with⟨rfl,rfl⟩|⟨rfl,rfl⟩|⟨rfl,rfl⟩|⟨rfl,rfl⟩|⟨rfl,rfl⟩
   ·exact absurd rfl hjk
   ·exact OwnRow.grew hpo hst
   ·exact OwnRow.grew hpo hst
   ·exact hst v [] (.inl (nZ _)) hpo
   exact hst v [] (nZ _) hpo
  ·rcases hj' with⟨rfl,rfl⟩|⟨rfl,rfl⟩|⟨rfl,rfl⟩|⟨rfl,rfl⟩|⟨rfl,rfl⟩
   ·exact OwnRow.grew hpo hst
   ·exact absurd rfl hjk
   ·exact OwnRow.grew hpo hst
   ·exact hst v A (.inl (by rw[HLA.out];exact nR _)) hpo
   exact hst v A (by rw[HLA.out];omega) hpo
  ·rcases hj' with⟨rfl,rfl⟩|⟨rfl,rfl⟩|⟨rfl,rfl⟩|⟨rfl,rfl⟩|⟨rfl,rfl⟩
   ·exact OwnRow.grew hpo hst
   ·exact OwnRow.grew hpo hst
   ·exact absurd rfl hjk
   ·exact hst v [cn] (.inr (nR _)) hpo
   exact hst v [cn] (by simp) hpo
  ·rcases hj' with⟨rfl,rfl⟩|⟨rfl,rfl⟩|⟨rfl,rfl⟩|⟨rfl,rfl⟩|⟨rfl,rfl⟩
   ·exact OwnRow.grew hpo hst
   ·exact OwnRow.grew hpo hst
   ·exact OwnRow.grew hpo hst
   ·exact absurd rfl hjk
   exact hst v (A++ [cn]) (by rw[lA,HLA.out];simp) hpo
  rcases hj' with⟨rfl,rfl⟩|⟨rfl,rfl⟩|⟨rfl,rfl⟩|⟨rfl,rfl⟩|⟨rfl,rfl⟩
  ·exact OwnRow.grew hpo hst
  ·exact OwnRow.grew hpo hst
  ·exact OwnRow.grew hpo hst
  ·exact Bool.noConfusion (hanc.symm.trans (show _=true by kernel_rfl))
  exact absurd rfl hjk
 case hpre=>
  intro j t k s hj hk hjk p q hst hpr;have hj':=lookup_in hj;clear hk hj;simp only[mC,pJ,nM,or_false]at hj'
  rcases hj' with⟨rfl,rfl⟩|⟨rfl,rfl⟩|⟨rfl,rfl⟩|⟨rfl,rfl⟩|⟨rfl,rfl⟩ <;> trivial
 case hpr0=>
  intro k t hk;have hk':=lookup_in hk;clear hk;simp only[mC,pJ,nM,or_false]at hk'
  rcases hk' with⟨rfl,rfl⟩|⟨rfl,rfl⟩|⟨rfl,rfl⟩|⟨rfl,rfl⟩|⟨rfl,rfl⟩ <;> trivial
 simp only[List.take,List.drop];iterate 1 (refine laxI_quiet rfl rfl rfl (fun K hK=>?_);go_big_quiet_op;refine hK _ ?_;clear hK)
 refine laxI_spec rfl rfl (fun w' hI' hpr hF=>?_) (fun v1 hv=>?_)
 ·have hg:=(HI.out _).1 hI';refine Does.step (v:= .slice (some ⟨w'.heap.size,0,none⟩) 0 0) (w':=w'.alloc (.cells #[] 83)) (by simp only[execOp];go_simp) ⟨(HI.out _).2 (hg.trans (grew_alloc _ _)),grew_alloc _ _,⟨_,rfl⟩,(OwnRow.made cchE w').base (bS hg)⟩
 obtain⟨g0,rfl⟩:=hv;simp only[Act.put,sB,sS,sZ];iterate 1 (refine laxI_quiet rfl rfl rfl (fun K hK=>?_);go_big_quiet_op;refine hK _ ?_;clear hK)
 refine laxI_nilc (.tmp 121) ⟨b,0,none⟩ rfl rfl rfl rfl ?_;simp only[Act.put,sB,sS,sZ];iterate 5 (refine laxI_quiet rfl rfl rfl (fun K hK=>?_);go_big_quiet_op;refine hK _ ?_;clear hK)
 refine laxI_spec rfl rfl (fun w' hI' hpr hF=>?_) (fun v1 hv=>?_)
 ·have hg:=(HI.out _).1 hI';have h0:OwnRow cchE wr.heap.size w' (.slice (some ⟨g0,0,none⟩) 0 0) []:=hF 1 (by kernel_rfl)
  obtain⟨v',w2,hrun,ho,hg2,hz⟩:=run_append_new (E:=cchE) (w:=w') 37 h0 (.slice caa at_ V.ca.c) A (HRA.out.grew hg) (bS hg);obtain⟨a',c',rfl⟩:=ho.form;refine Does.step (v:= .slice a' A.length c') (w':=w2) ?_ ⟨(HI.out _).2 (hg.trans hg2),hg2,⟨⟨a',c',by rw[HLA.out]⟩,fun h=>⟨g0,hz (eN (by rw[HLA.out];exact h))⟩⟩,ho⟩
  clear hx10 hup hfr;simp only[execOp,resolve,invoke,builtin,pure_bind,Sem.run_bind,Sem.run_pure,List.map_toArray,mP,List.map_nil];exact Eq.trans (congrArg (fun r=>Result.andThen r (fun a w'=>Result.ok (Next.value a) w')) hrun) rfl
 obtain⟨⟨a3,c3,rfl⟩,hz3⟩:=hv;simp only[Act.put,sB,sS,sZ];iterate 4 (refine laxI_quiet rfl rfl rfl (fun K hK=>?_);go_big_quiet_op;refine hK _ ?_;clear hK)
 refine laxI_spec rfl rfl (fun w' hI' hpr hF=>?_) (fun v1 hv=>?_)
 ·have hg:=(HI.out _).1 hI';have hoc:=(own_cached w' cn).base (bS hg);rw[HCN.out]at hoc;refine Does.step (v:= .slice (some ⟨w'.heap.size,0,none⟩) 1 1) (w':=w'.alloc (.cells #[.int .i64 (fi:Int),.int .i64 (ix:Int),.int .i64 (j:Int)] 83)) (by clear hx10 hup hfr;simp only[execOp];go_simp) ⟨(HI.out _).2 (hg.trans (grew_alloc _ _)),grew_alloc _ _,⟨_,rfl⟩,by rw[HCN.out];exact hoc⟩
 obtain⟨g5,rfl⟩:=hv;simp only[Act.put,sB,sS,sZ];refine laxI_spec rfl rfl (fun w' hI' hpr hF=>?_) (fun v1 hv=>?_)
 ·have hg:=(HI.out _).1 hI';have o3:OwnRow cchE wr.heap.size w' (.slice a3 at_ c3) A:=hF 9 (by kernel_rfl)
  have o5:OwnRow cchE wr.heap.size w' (.slice (some ⟨g5,0,none⟩) 1 1) [cn]:=hF 14 (by kernel_rfl)
  have key:∃v' w2,(Builtin.append_ #[37,37] 37 #[.slice a3 at_ c3,.slice (some ⟨g5,0,none⟩) 1 1]).run prog w'= .ok v' w2/\OwnRow cchE wr.heap.size w2 v' (A++ [cn])/\Grew wr w2/\∀u m,m.length<=at_\/m.length<=1->OwnRow cchE wr.heap.size w' u m->OwnRow cchE wr.heap.size w2 u m:=by
   by_cases h0:at_=0
   ·have hxs:A=[]:=eN (by rw[HLA.out];exact h0)
    obtain⟨g,hgv⟩:=hz3 h0;rw[hgv,hxs]at o3;rw[hgv,hxs];obtain⟨v',w2,hrun,ho,hg2,_⟩:=run_append_new (E:=cchE) (w:=w') 37 o3 (.slice (some ⟨g5,0,none⟩) 1 1) [cn] o5.at (bS hg);exact⟨v',w2,hrun,ho,hg.trans hg2,fun u m _ h=>h.grew hg2⟩
   obtain⟨v',w2,hrun,ho,hgr,hk⟩:=run_append_keeps (E:=cchE) (w:=w') 37 o3 (.slice (some ⟨g5,0,none⟩) 1 1) [cn] o5.at (by rw[HLA.out];show(at_+1)*24<=_;omega) (bS hg)
   refine⟨v',w2,hrun,ho,grew_beside hg hgr (fun g hg'=>(o3.lt g hg').1),fun u m hm h=>hk u m ?_ h⟩
   rw[HLA.out];omega
  obtain⟨v',w2,hrun,ho,hg2,hk⟩:=key;obtain⟨a',c',rfl⟩:=ho.form;refine Does.step (v:= .slice a' (A++ [cn]).length c') (w':=w2) ?_ ⟨(HI.out _).2 hg2,hk,⟨a',c',by rw[lA,HLA.out];rfl⟩,ho⟩
  clear hx10 hup hfr;simp only[execOp,resolve,invoke,builtin,pure_bind,Sem.run_bind,Sem.run_pure,List.map_toArray,mP,List.map_nil];exact Eq.trans (congrArg (fun r=>Result.andThen r (fun a w'=>Result.ok (Next.value a) w')) hrun) rfl
 obtain⟨a6,c6,rfl⟩:=hv;simp only[Act.put,sB,sS,sZ];iterate 1 (refine laxI_quiet rfl rfl rfl (fun K hK=>?_);go_big_quiet_op;refine hK _ ?_;clear hK)
 refine laxI_nilc (.tmp 135) ⟨b,0,none⟩ rfl rfl rfl rfl ?_;simp only[Act.put,sB,sS,sZ];iterate 5 (refine laxI_quiet rfl rfl rfl (fun K hK=>?_);go_big_quiet_op;refine hK _ ?_;clear hK)
 refine laxI_spec rfl rfl (fun w' hI' hpr hF=>?_) (fun v1 hv=>?_)
 ·have hg:=(HI.out _).1 hI';have o6:OwnRow cchE wr.heap.size w' (.slice a6 (at_+1) c6) (A++ [cn]):=hF 15 (by kernel_rfl)
  have hl6:(A++ [cn]).length=at_+1:=by rw[lA,HLA.out];rfl
  obtain⟨v',w2,hrun,ho,hgr,hk⟩:=run_append_keeps (E:=cchE) (w:=w') 37 o6 (.slice fa nd cd) D2 (HRD.out.grew hg) (by rw[hl6,HLD.out];show(at_+1+(n - at_))*24<=_;omega) (bS hg)
  obtain⟨a',c',rfl⟩:=ho.form;refine Does.step (v:= .slice a' (A++ [cn]++D2).length c') (w':=w2) ?_ ⟨(HI.out _).2 (grew_beside hg hgr (fun g hg'=>(o6.lt g hg').1)),(fun u m hm h=>hk u m (by rw[hl6];exact hm) h),⟨a',c',by rw[HNN.out]⟩,ho⟩
  clear hx10 hup hfr;simp only[execOp,resolve,invoke,builtin,pure_bind,Sem.run_bind,Sem.run_pure,List.map_toArray,mP,List.map_nil];exact Eq.trans (congrArg (fun r=>Result.andThen r (fun a w'=>Result.ok (Next.value a) w')) hrun) rfl
 obtain⟨a7,c7,rfl⟩:=hv;simp only[Act.put,sB,sS,sZ];refine laxI_nilc (.tmp 119) ⟨b,0,none⟩ rfl rfl rfl rfl ?_;simp only[Act.put,sB,sS,sZ];iterate 2 (refine laxI_quiet rfl rfl rfl (fun K hK=>?_);go_big_quiet_op;refine hK _ ?_;clear hK)
 refine laxI_nil fun W7 hI7 hF=>?_
 have o7:OwnRow cchE wr.heap.size W7 (.slice a7 N c7) (A++ [cn]++D2):=hF 23;have g7:=(HI.out _).1 hI7;have M7:=dD (MQ.out.grew g7);have K7:=dD (KQ.out.trans (Keeps.grew g7));have O7:Hid (OwnRow cchE wr.heap.size W7 (.slice a7 N c7) (A++ [cn]++D2)):=o7;have HB7:Hid (w0.heap.size<=wr.heap.size):=show _<=_ from bS MQ.out.gr
 have HB8:Hid (b<wr.heap.size):=dD<|MQ.out.box.box.lt
 clear o7 g7 hF hI7 hx10 hup hfr hne hI0;have xc:=M7.out.box.box.c 10 rfl;rw[HN.out,HAA.out]at xc;have xf:=M7.out.box.box.f;have HG8:Hid (W7.grownBy (W7.setCell ⟨b,10,none⟩ (.slice a7 N c7)) (some b)):=⟨rfl,rfl,rfl,by simp[World.setCell],fun k _ hk=>Below.heap_setCell _ _ _ _ (fun e=>hk (by rw[e]))⟩
 have M8:Hid (Mk w0 hi (W7.setCell ⟨b,10,none⟩ (.slice a7 N c7)) b vl6 L6 { V with ca:=⟨a7,N,c7⟩ } { m with fs:=m.fs.set j ⟨⟨p0,p1,p2,p3,p4,p5,p6,p7⟩,1,x == 1,dd,(fi:Int),(ix:Int)⟩,ca:=insCa m.ca ⟨(fi:Int),(ix:Int),(j:Int)⟩ } vt T):=dD<|by
  have h7:=M7.out;refine⟨grew_grown h7.gr HG8.out h7.hb,h7.hb,h7.box.set 10 _,h7.lr,h7.lc,h7.lb,?_⟩;have hr:=h7.rows.var HG8.out h7.box HG8.out.size (.inl rfl);have:=hr.setCa (s:=⟨a7,N,c7⟩) (ca:=A++ [cn]++D2) ((O7.out.setCell (by have:=HB8.out;simp;omega) _).base HB7.out)
  rw[HCN.out]at this HSP;rw[HSP.out];exact this
 have K8:=dD (K7.out.trans (M7.out.keeps HG8.out));go_wp2;go_ret;exact .inr (.inr ⟨j,rfl,q,_,_,_,⟨a7,N,c7⟩,HQ.out,HR0.out,HNO.out,vl6,L6,M8.out,LL6.out,K8.out⟩)
theorem tab_updF (f:Nat->En) (n:Nat) (e:En):tab (updF f n e)=(tab f).set n e:=(tab_set f n e).symm
theorem flaE_upd (f:Nat->En) {n:Nat} (hn:n<64) (e:En):flaE.enc (updF f n e)=splice (flaE.enc f) (n*3) (env e):=by
 show cellsL (tab (updF f n e))=splice (cellsL (tab f)) (n*3) (env e)
 rw[tab_updF];exact(splice_set (enc:=env) (k:=3) e rfl (tab f) n (fun _ _=>rfl) (by rw[tab_len];exact hn)).symm
theorem pair_len {key:Ca->Int}:∀{l:List Ca} {lo N:Nat},l.Pairwise (fun a b=>key a<key b)->(∀c∈l,(lo:Int)<=key c/\key c< (N:Int))->l.length<=N - lo
 | [],_,_,_,_=>nZ _
 | c :: l,lo,N,h,hb=>by
  obtain⟨h1,h2⟩:=List.pairwise_cons.1 h;have h3:=hb c (by simp)
  have ih:=pair_len (lo:=(key c).toNat+1) (N:=N) h2 (fun d hd=>by
   have:=h1 d hd;have:=hb d (by simp[hd])
   omega)
  simp only[List.length_cons];omega
section
variable{m:Ma} {T:List (Nat->En)}
theorem BInv.cached (h:BInv m T):(∀c∈m.ca,0<=c.file/\c.file<=1000/\0<=c.idx/\c.idx<=1000/\0<=c.fr/\c.fr<m.fs.length)/\m.ca.length<=1000/\∀c∈m.ca,∃(k:Nat) (fr:Fr),c.fr=(k:Int)/\m.fs[k]? =some fr/\fr.f=c.file/\fr.x=c.idx:=by
 obtain⟨a1,a2,a3⟩:=caGo_zero.1 h.ca;have key:∀c∈m.ca,(0<=c.file/\c.file<5/\0<=c.idx/\c.idx<12/\0<=c.fr/\c.fr<m.fs.length)/\(frAt m c.fr).f=c.file/\(frAt m c.fr).x=c.idx:=fun c hc=>by
  have h1:=a1 c hc;unfold caE at h1
  split at h1
  ·cases h1
  rename_i hn
  split at h1
  ·cases h1
  rename_i hn2
  have h2:=h.pages (file:=c.file) (by omega) (by omega)
  refine⟨by omega,?_,?_⟩
  ·exact Classical.byContradiction fun e=>hn2 (.inr (.inl e))
  exact Classical.byContradiction fun e=>hn2 (.inr (.inr e))
 refine⟨fun c hc=>?_,?_,fun c hc=>?_⟩
 ·have:=(key c hc).1;omega
 ·refine nT (pair_len (key:=keyC) (lo:=0) (N:=1000) a3 fun c hc=>?_) (nR _)
  have:=(key c hc).1;unfold keyC;omega
 obtain⟨k1,k2,k3⟩:=key c hc;have hlt:c.fr.toNat<m.fs.length:=by omega
 have he:frAt m c.fr=m.fs[c.fr.toNat]:=by
  unfold frAt;rw[gD,gE hlt];rfl
 rw[he]at k2 k3;exact⟨c.fr.toNat,m.fs[c.fr.toNat],by omega,gE hlt,k2,k3⟩
theorem BInv.alone (h:BInv m T) {p n:Nat} {s:Sp} (hs:m.sp[p]? =some s) (hx:(onAt s.ars n).is=true):-1<=(onAt s.ars n).file/\0<=(onAt s.ars n).page/\(onAt s.ars n).page<=1000/\((onAt s.ars n).file<0->(onAt s.ars n).sh=false):=by
 have hw:=(h.spok s (mG hs)).1;have hc:=wrL_zero.1 hw;obtain⟨i,a,h1,h2,h3⟩:=onAt_some hx;have hok:=hc.2.all a (mG h1);rw[h3];unfold ArOk at hok;unfold oneOf;have h2:=arIn_iff.1 h2;obtain⟨o1,o2,o3,o4,o5,o6,o7,o8⟩:=hok;simp only
 split <;> refine⟨by omega,by omega,by omega,fun e=>(o7 e).2⟩
end
section
variable{w0 w w':World} {hi b:Nat} {vl:Sli} {L:List Int} {V:MaV} {m:Ma} {vt:Sli} {T:List (Nat->En)}
theorem Mk.setF (h:Mk w0 hi w b vl L V m vt T) {g:Nat} (hv:(Value.slice V.f.a V.f.n V.f.c).ownBlock=some g) (hg:w.grownBy w' (some g)) (hs:w'.heap.size=w.heap.size) {fs:List Fr} (ho:OwnRow frmE w0.heap.size w' (.slice V.f.a V.f.n V.f.c) fs):Mk w0 hi w' b vl L V { m with fs:=fs } vt T/\Keeps hi w w':=by
 refine⟨⟨grew_grown h.gr hg (h.rows.fs.lt g hv).1,h.hb,h.box.beside hg (fun k e=>by cases e;exact h.rows.fs.ne h.box (by decide) g hv),h.lr,h.lc,h.lb,h.rows.setF hv hg hs ho⟩,?_⟩
 obtain⟨cs,hcs⟩:=h.rows.fs.obj hv;exact Keeps.kind hg hcs (fun _ hl=>absurd rfl hl.2.1)
theorem Mk.setS (h:Mk w0 hi w b vl L V m vt T) {g:Nat} (hv:(Value.slice V.s.a V.s.n V.s.c).ownBlock=some g) (hg:w.grownBy w' (some g)) (hs:w'.heap.size=w.heap.size) {ls:List Int} (ho:OwnRow slE w0.heap.size w' (.slice V.s.a V.s.n V.s.c) ls):Mk w0 hi w' b vl L V { m with sl:=ls } vt T/\Keeps hi w w':=by
 refine⟨⟨grew_grown h.gr hg (h.rows.sl.lt g hv).1,h.hb,h.box.beside hg (fun k e=>by cases e;exact h.rows.sl.ne h.box (by decide) g hv),h.lr,h.lc,h.lb,h.rows.setS hv hg hs ho⟩,?_⟩
 obtain⟨cs,hcs⟩:=h.rows.sl.obj hv;exact Keeps.kind hg hcs (fun _ hl=>absurd rfl hl.2.2.1)
theorem Mk.setT (h:Mk w0 hi w b vl L V m vt T) {g:Nat} (hv:(Value.slice vt.a vt.n vt.c).ownBlock=some g) (hg:w.grownBy w' (some g)) (hs:w'.heap.size=w.heap.size) {T':List (Nat->En)} (ho:OwnRow flaE w0.heap.size w' (.slice vt.a vt.n vt.c) T'):Mk w0 hi w' b vl L V m vt T'/\Keeps hi w w':=by
 refine⟨⟨grew_grown h.gr hg (h.rows.tt.lt g hv).1,h.hb,h.box.beside hg (fun k e=>by cases e;exact h.rows.tt.ne h.box (by decide) g hv),h.lr,h.lc,h.lb,h.rows.setT hv hg hs ho⟩,?_⟩
 obtain⟨cs,hcs⟩:=h.rows.tt.obj hv;exact Keeps.kind hg hcs (fun _ hl=>absurd rfl hl.2.2.2.2.2.2.2.1)
theorem ownPages_obj {base:Nat} {v:Value} {ps:List (List Int)} (h:OwnPages base w v ps) {g:Nat} (hg:v.ownBlock=some g):base<=g/\∃cs,w.heap[g]? =some (.cells cs 50 (0,0)):=by
 rcases h.1.2 with⟨rfl,_⟩|⟨k,cap,cur,rfl,h2,h3,_⟩
 ·cases hg
 simp only[Value.ownBlock,Option.some.injEq]at hg;subst hg;exact⟨h2,cur,h3⟩
theorem Mk.setSb (h:Mk w0 hi w b vl L V m vt T) {g:Nat} (hv:(Value.slice V.sb.a V.sb.n V.sb.c).ownBlock=some g) (hg:w.grownBy w' (some g)) (hs:w'.heap.size=w.heap.size) {ls:List (List Int)} (ho:OwnPages w0.heap.size w' (.slice V.sb.a V.sb.n V.sb.c) ls):Mk w0 hi w' b vl L V { m with sb:=ls } vt T/\Keeps hi w w':=by
 obtain⟨h1,cs,h2⟩:=ownPages_obj h.rows.sb hv;refine⟨⟨grew_grown h.gr hg h1,h.hb,h.box.beside hg (fun k e=>?_),h.lr,h.lc,h.lb,h.rows.setSb h2 hv hg hs ho⟩,Keeps.kind hg h2 (fun p hl=>?_)⟩
 ·cases e;intro e;subst e;have h3:w.heap[b]? =_:=h.box;rw[h2]at h3;cases h3
 have:=hl.2.2.2.2.2.2.2.2 rfl;have:=h.rows.sbh g hv;omega
end
theorem splice_one (l:List Value) (h:i<l.length) (u:Value):splice l i [u]=l.set i u:=by
 rw[List.set_eq_take_append_cons_drop,if_pos h]
 simp[splice]
theorem OwnRow.box {α:Type} {E:Elt α} {w:World} {base g:Nat} {v:Value} {l:List α} (h:OwnRow E base w v l) (hg:v.ownBlock=some g):∃cs,BoxT w g E.ty cs:=by
 obtain⟨cs,h1⟩:=h.obj hg;exact⟨cs.toList,by unfold BoxT;rw[h1]⟩
theorem OwnRow.unfrozen {α:Type} {E:Elt α} {w:World} {base g:Nat} {v:Value} {l:List α} (h:OwnRow E base w v l) (hg:v.ownBlock=some g):∀j,w.frozen? ⟨g,j,none⟩=false:=by
 obtain⟨cs,h1⟩:=h.box hg;exact h1.box.f
theorem OwnRow.cell {α:Type} {E:Elt α} {w:World} {base g:Nat} {v:Value} {l:List α} (h:OwnRow E base w v l) {k o:Nat} (hg:v.ownBlock=some g) {x y:α} (hk:l[k]? =some x) {u:Value} (hy:E.enc y=(E.enc x).set o u) (ho:o<E.k):
  OwnRow E base (w.setCell ⟨g,k*E.k+o,none⟩ u) v (l.set k y)/\w.grownBy (w.setCell ⟨g,k*E.k+o,none⟩ u) (some g)/\(w.setCell ⟨g,k*E.k+o,none⟩ u).heap.size=w.heap.size:=by
 refine⟨⟨?_,by rw[List.length_set];exact h.2⟩,⟨rfl,rfl,rfl,by simp[World.setCell],fun j _ hj=>Below.heap_setCell _ _ _ _ (fun e=>hj (by rw[e]))⟩,by simp[World.setCell]⟩
 have hkl:=(gS.1 hk).1;refine⟨by rw[List.length_set,row_len,List.length_set],?_⟩
 rcases h.1.2 with⟨rfl,_⟩|⟨g',cap,cur,rfl,h2,h3,h4,h5,h6,h7⟩
 ·cases hg
 simp only[Value.ownBlock,Option.some.injEq]at hg;subst hg;have hb:BoxT w g' E.ty cur.toList:=by unfold BoxT;rw[h3]
 have hb2:=hb.set (k*E.k+o) u;refine .inr ⟨g',cap,(cur.toList.set (k*E.k+o) u).toArray,by rw[List.length_set],h2,hb2,by rw[List.length_set];exact h4,h5,by simpa using h6,?_⟩
 rw[List.length_set,List.toList_toArray,List.take_set,h7,<-splice_one _ ?_ u]
 ·refine splice_part o [u] (y:=y) ?_ (by simp;omega) l k hk
  rw[hy,splice_one _ (by rw[E.len];exact ho)]
 rw[row_len];have:(k+1)*E.k<=l.length*E.k:=Nat.mul_le_mul_right _ hkl;rw[Nat.add_mul]at this;omega
theorem loc_one {p:Nat}:Loc hi p 96:=⟨by decide,by decide,by decide,by decide,by decide,by decide,by decide,by decide,fun h=>absurd h (by decide)⟩
theorem BInv.refs (h:BInv m T) {k:Nat} {f:Fr} (hk:m.fs[k]? =some f):0<=f.r/\f.r<=2000:=by
 have h1:=(h.cf k f hk).1;have h2:=hold_le T 1 k;have h3:cachedN m.ca k<=m.ca.length:=List.countP_le_length;have h4:=h.cached.2.1;have h5:=h.tl;have h6:=h.spl;omega
def Ent (w0:World) (hi b:Nat) (w:World) (L:List Int) (m:Ma) (vt:Sli) (T:List (Nat->En)) (p n:Nat) (f:Nat->En) (w':World):Prop:=∃vl' L' V' m' T',Mk w0 hi w' b vl' L' V' m' vt T'/\Less L L'/\Keeps hi w w'/\BInv m' T'/\(m'.sp=m.sp/\m'.fl=m.fl/\m'.hand=m.hand/\m'.fs.length=m.fs.length)/\(T'=T\/∃e,T'=T.set p (updF f n e))/\(L=[]->m'=m/\T'=T)
theorem Ent.same {w:World} (p n:Nat) (f:Nat->En) (hb:BInv m T) (h:MkE w0 hi b w L V m vt T w'):Ent w0 hi b w L m vt T p n f w':=by
 obtain⟨vl',L',h1,h2,h3⟩:=h;exact⟨vl',L',V,m,T,h1,h2,h3,hb,⟨rfl,rfl,rfl,rfl⟩,.inl rfl,fun _=>⟨rfl,rfl⟩⟩
theorem enter_any {w:World} (p n:Nat) (s:Sp) (f:Nat->En) (x:On) (h:Mk w0 hi w b vl L V m vt T) (hB:BInv m T) (hs:m.sp[p]? =some s) (hT:T[p]? =some f) (hn:n<64) (h0:f n=en0) (hx:onAt s.ars n=x) (his:x.is=true) (hfi:FilesIn m.fl.length s.ars):
  Calls prog 83 #[.pointer (some ⟨b,0,none⟩),.int .i64 (p:Int),.int .i64 (n:Int),.agg (onv x).toArray] w fun e w'=>(∃v,e= .returned v)/\Ent w0 hi b w L m vt T p n f w':=by
 have hal:=hB.alone hs (n:=n) (by rw[hx];exact his)
 have hfl:x.file< (m.fl.length:Int):=by rw[<-hx];exact hfi n hn (by rw[hx];exact his)
 rw[hx]at hal;obtain⟨al1,al2,al3,al4⟩:=hal;obtain⟨xis,xrd,xwr,xsh,xfi,xpg⟩:=x;dsimp only at his al1 al2 al3 al4 hfl;subst his;have HX:Hid (onAt s.ars n=⟨true,xrd,xwr,xsh,xfi,xpg⟩):=hx;have HM:Hid (Mk w0 hi w b vl L V m vt T):=h;have HB:Hid (BInv m T):=hB;have HS:Hid (m.sp[p]? =some s):=hs;have HT:Hid (T[p]? =some f):=hT;have H0:Hid (f n=en0):=h0;obtain⟨tn,HTL⟩:∃tn,Hid (T.length=tn):=⟨_,rfl⟩;have hpt:p<tn:=by rw[<-HTL.out];exact(gS.1 hT).1
 have HIS:Hid ((onAt s.ars n).is=true):=dD<|by rw[hx]
 have HWR:Hid ((onAt s.ars n).wr=xwr):=dD<|by rw[hx]
 have HSE:Hid ((onAt s.ars n).sh=xsh/\(onAt s.ars n).file=xfi/\(onAt s.ars n).page=xpg):=dD<|by rw[hx];exact⟨rfl,rfl,rfl⟩
 obtain⟨px,HPX⟩:∃px,Hid (w.heap.size=px):=⟨_,rfl⟩;obtain⟨W0,hW0⟩:∃W0,w.alloc (.cells #[.bool true,.bool xrd,.bool xwr,.bool xsh,.int .i64 xfi,.int .i64 xpg] 96)=W0:=⟨_,rfl⟩;have HG0:=gA hW0
 have X0:=xPT hW0 HPX
 have M0:Hid (Mk w0 hi W0 b vl L V m vt T):=h.grew HG0.out;have HBX:Hid (b<w.heap.size):=show _<_ from h.box.box.lt
 have HW0:Hid (_=W0):=hW0;clear hW0 h hB hs hT h0 hx hfi
 go_enter func83,ntmps83
 go_upto_region 1 with fail;have hw:w.alloc (.cells (onv ⟨true,xrd,xwr,xsh,xfi,xpg⟩).toArray 96)=W0:=HW0.out;rw[hw,HPX.out];clear hw;have hpk:=pick_any 4 M0.out;go_wp2_with fail;refine hpk.mono ?_;clear hpk;rintro e W1 ⟨vl1,L1,y,rfl,mk1,gr1,sz1,y0,y1,yn,ll⟩;have M1:Hid (Mk w0 hi W1 b vl1 L1 V m vt T):=mk1;have K1:Hid (Keeps hi w W1):=(Keeps.grew HG0.out).trans (M0.out.keeps gr1);have X1:Hid (BoxT W1 px 96 [.bool true,.bool xrd,.bool xwr,.bool xsh,.int .i64 xfi,.int .i64 xpg]):=X0.out.beside gr1 (fun g e=>by cases e;have:=HBX.out;have:=HPX.out;omega)
 have LL1:Hid (Less L L1):=ll;have hy4:y<4:=by rcases y1 with h | h <;> omega
 have HYN:Hid (L=[]->y=0):=yn;clear mk1 gr1 sz1 y1 yn ll
 by_cases hy:y=0
 ·have hye:(y == 0)=true:=by simp[hy]
  clear hy;have HE:Hid (Ent w0 hi b w L m vt T p n f W1):=dD<|Ent.same p n f HB.out ⟨vl1,L1,M1.out,LL1.out,K1.out⟩
  go_wp2
  (first | go_end0 | ((try simp only[Exit.inBlock,Exit.then]);refine bodyPost_ret (results_none rfl _ _ _) rfl ?_))
  first | exact HE.out | exact⟨⟨_,rfl⟩,HE.out⟩
 have hye:(y == 0)=false:=by simp[hy]
 have HLN:Hid (L≠[]):=dD<|fun e=>hy (HYN.out e)
 clear hy;have c3:=X1.out.box.c 3 rfl;have c4:=X1.out.box.c 4 rfl;have HA4:Hid (xfi<0->xsh=false):=dD<|fun h=>al4 (by omega)
 clear al4;go_upto_region 6 with fail
 go_cut [44] (fun s44 wx=>∃c1:Bool,s44= .bool c1/\wx=W1/\Hid (c1=true->0<=xfi)/\Hid (c1=false->xsh=false))
 case first=>
  by_cases hfz:0<=xfi
  ·have hfd:decide ((0:Int)<=xfi)=true:=by simpa using hfz
   cases xsh with
   | true=>
    go_wp2
    go_meet
    exact⟨true,rfl,rfl,fun _=>hfz,fun h=>(by cases h)⟩
   | false=>
    go_wp2
    go_meet
    exact⟨(y == 1),rfl,rfl,fun _=>hfz,fun _=>(by first | rfl | trivial)⟩
  have hfd:decide ((0:Int)<=xfi)=false:=by simpa using hfz
  have HSF:Hid (xsh=false):=HA4.out (by omega)
  go_wp2
  go_meet
  exact⟨false,rfl,rfl,fun h=>(by cases h),fun _=>HSF.out⟩
 obtain⟨c1,rfl,hwc,HC1,HC0⟩:=hcut;rw[hwc];clear hwc c3 c4
 cases c1 with
 | true=>
  have hfz:=HC1.out rfl;obtain⟨fi,rfl⟩:∃fi:Nat,xfi=(fi:Int):=⟨xfi.toNat,by omega⟩
  obtain⟨ix,rfl⟩:∃ix:Nat,xpg=(ix:Int):=⟨xpg.toNat,by omega⟩
  obtain⟨fl,HFL⟩:∃fl,Hid (m.fl[fi]? =some fl):=⟨_,gE (by omega)⟩
  have c3:=X1.out.box.c 3 rfl;have c4:=X1.out.box.c 4 rfl;have c5:=X1.out.box.c 5 rfl;go_upto_region 7 with fail;have x8:=M1.out.box.box.c 8 rfl;obtain⟨_,_,hfe,_,hfr⟩:=FilesAt.rows M1.out.rows.at.fl;have hrw:FlRows W1 V.fl.a m.fl:=by
   simp only[vJ]at hfe;rw[hfe.1];exact hfr
  have hfn:V.fl.n=m.fl.length:=by
   simp only[vJ]at hfe;exact hfe.2.1
  obtain⟨ad,hva,ba,bc,_,hlf⟩:=hrw fi fl HFL.out;obtain⟨-,d1⟩:=hlf W1 (Grew.refl _);obtain⟨fln,hfln⟩:∃fln,V.fl.n=fln:=⟨_,rfl⟩;have hflz:(fi:Int)< (fln:Int):=by
   have:=(gS.1 HFL.out).1;omega
  rw[hva,hfln]at x8;obtain⟨bn,HBN⟩:∃bn,Hid (fl.bl.length=bn):=⟨_,rfl⟩;rw[HBN.out]at d1;clear hfe hfr hrw hfn hva hlf hfln
  by_cases hpg:bn<=ix
  ·have hpgd:decide ((bn:Int)<=(ix:Int))=true:=by simpa using hpg
   go_quiet (fail);obtain⟨W2,hW2⟩:∃W2,W1.drewN nq=W2:=⟨_,rfl⟩;have G2:Hid (Grew W1 W2):=dD<|by rw[<-hW2];exact(show Below _ _ _ from bD (bR _ _) _)
   rw[hW2];clear hW2 x8 d1 c3 c4 c5;have HE:Hid (Ent w0 hi b w L m vt T p n f W2):=dD<|Ent.same p n f HB.out ⟨vl1,L1,M1.out.grew G2.out,LL1.out,K1.out.trans (Keeps.grew G2.out)⟩
   go_wp2
   (first | go_end0 | ((try simp only[Exit.inBlock,Exit.then]);refine bodyPost_ret (results_none rfl _ _ _) rfl ?_))
   first | exact HE.out | exact⟨⟨_,rfl⟩,HE.out⟩
  have hpgd:decide ((bn:Int)<=(ix:Int))=false:=by simpa using hpg
  obtain⟨bk,HBK⟩:∃bk,Hid (fl.bl[ix]? =some bk):=⟨_,gE (by rw[HBN.out];omega)⟩
  go_quiet (fail);obtain⟨W2,hW2⟩:∃W2,W1.drewN nq=W2:=⟨_,rfl⟩;have G2:Hid (Grew W1 W2):=dD<|by rw[<-hW2];exact(show Below _ _ _ from bD (bR _ _) _)
  rw[hW2];clear hW2 x8 d1 c3 c4 c5;have M2:=dD (M1.out.grew G2.out);have K2:=dD (K1.out.trans (Keeps.grew G2.out));have X2:=dD (X1.out.grew G2.out);have c4:=X2.out.box.c 4 rfl;have c5:=X2.out.box.c 5 rfl;have hcd:=cached_any fi ix fl bk M2.out HB.out.cached.1 HFL.out HBK.out (by omega) (by have:=(HB.out.pages (file:=(fi:Int)) (by omega) hfl).2;omega) HB.out.cached.2.1
  go_wp2_with fail;refine hcd.mono ?_;clear hcd c4 c5;rintro e W3 hres;have hres2:(e= .returned (.int .i64 (-1))/\MkE w0 hi b w L V m vt T W3)\/∃(k:Nat) (V1:MaV) (m1:Ma) (fr:Fr),e= .returned (.int .i64 (k:Int))/\MkE w0 hi b w L V1 m1 vt T W3/\BInv m1 T/\m1.fs[k]? =some fr/\fr.f=(fi:Int)/\fr.x=(ix:Int)/\(m1.sp=m.sp/\m1.fl=m.fl/\m1.hand=m.hand/\m1.fs.length=m.fs.length):=by
   rcases hres with⟨he,hE⟩|⟨c,hc,hc1,hc2,he,hE⟩|⟨j,he,q,pg,u,d,sl,hj,hr,hno,hE⟩
   ·exact .inl ⟨he,hE.trans LL1.out K2.out⟩
   ·obtain⟨k,fr,k1,k2,k3,k4⟩:=HB.out.cached.2.2 c hc;exact .inr ⟨k,V,m,fr,by rw[he,k1],hE.trans LL1.out K2.out,HB.out,k2,k3.trans hc1,k4.trans hc2,rfl,rfl,rfl,rfl⟩
   refine .inr ⟨j,_,_,⟨pg,1,u,d,fi,ix⟩,he,hE.trans LL1.out K2.out,HB.out.cache hj hr ⟨by omega,hfl⟩ ⟨by omega,?_⟩ hno,?_,rfl,rfl,rfl,rfl,rfl,List.length_set⟩
   ·unfold bkN;rw[tN,gD,HFL.out];simp only[Option.getD_some];have:=HBN.out;omega
   exact sF (gS.1 hj).1
  have X3:Hid (BoxT W3 px 96 [.bool true,.bool xrd,.bool xwr,.bool xsh,.int .i64 (fi:Int),.int .i64 (ix:Int)]):=dD<|by
   rcases hres with⟨_,_,_,_,_,hk⟩|⟨_,_,_,_,_,_,_,_,_,hk⟩|⟨_,_,_,_,_,_,_,_,_,_,_,_,_,_,hk⟩
   ·exact hk.1 _ _ _ X2.out loc_one
   ·exact hk.1 _ _ _ X2.out loc_one
   exact hk.1 _ _ _ X2.out loc_one
  clear hres
  rcases hres2 with⟨rfl,hE⟩|⟨k,V1,m1,fr,rfl,⟨vl3,L3,mk3,ll3,kp3⟩,hb1,hk,hkf,hkx,hsame⟩
  ·have HEE:Hid (MkE w0 hi b w L V m vt T W3):=hE;clear hE;have HE:Hid (Ent w0 hi b w L m vt T p n f W3):=show Ent _ _ _ _ _ _ _ _ _ _ _ _ from Ent.same p n f HB.out HEE.out
   go_wp2
   (first | go_end0 | ((try simp only[Exit.inBlock,Exit.then]);refine bodyPost_ret (results_none rfl _ _ _) rfl ?_))
   first | exact HE.out | exact⟨⟨_,rfl⟩,HE.out⟩
  have M3:Hid (Mk w0 hi W3 b vl3 L3 V1 m1 vt T):=mk3;have K3:Hid (Keeps hi w W3):=kp3;have LL3:Hid (Less L L3):=ll3;have HB1:Hid (BInv m1 T):=hb1;have HK:Hid (m1.fs[k]? =some fr):=hk;have HKF:Hid (fr.f=(fi:Int)/\fr.x=(ix:Int)):=show _/\_ from⟨hkf,hkx⟩
  have HSM:Hid (m1.sp=m.sp/\m1.fl=m.fl/\m1.hand=m.hand/\m1.fs.length=m.fs.length):=dD<|hsame
  obtain⟨hr0,hr1⟩:=hb1.refs hk;obtain⟨nf,HNF⟩:∃nf,Hid (m1.fs.length=nf):=⟨_,rfl⟩;have hkn:k<nf:=by rw[<-HNF.out];exact(gS.1 hk).1
  have hkz:(k:Int)< (nf:Int):=by omega
  have hk0:¬(k:Int)<0:=by omega
  clear mk3 ll3 kp3 hb1 hk hkf hkx hsame;obtain⟨g,cf,heq⟩:=M3.out.rows.fs.formS (by rw[HNF.out];omega)
  rw[HNF.out]at heq;have HEQ:Hid (Value.slice V1.f.a V1.f.n V1.f.c= .slice (some ⟨g,0,none⟩) nf cf):=heq;have x1:=M3.out.box.box.c 1 rfl;rw[HEQ.out]at x1;have hrw:=M3.out.rows.fs;rw[HEQ.out]at hrw;have HRW:Hid (OwnRow frmE w0.heap.size W3 (.slice (some ⟨g,0,none⟩) nf cf) m1.fs):=hrw;have hce:=hrw.one HK.out;have d8:W3.cell? ⟨g,k*13+8,none⟩=some (.int .i64 fr.r):=by
   have:=hce 8 _ rfl;rw[add_add',Addr.add_lit,zA]at this;exact this
  clear hce hrw heq;have xf:=HRW.out.unfrozen rfl;go_upto_region 11 with fail;obtain⟨ow4,gr4,sz4⟩:=HRW.out.cell (k:=k) (o:=8) rfl HK.out (y:={ fr with r:=fr.r+1 }) (u:= .int .i64 (fr.r+1)) rfl (by decide)
  obtain⟨W4,hW4⟩:∃W4,W3.setCell ⟨g,k*13+8,none⟩ (.int .i64 (fr.r+1))=W4:=⟨_,rfl⟩;have e4:W3.setCell ⟨g,k*frmE.k+8,none⟩ (.int .i64 (fr.r+1))=W4:=hW4;rw[e4]at ow4 gr4 sz4;rw[hW4];rw[<-HEQ.out]at ow4;clear e4 hW4 xf;have hM4:=M3.out.setF (by rw[HEQ.out];rfl) gr4 sz4 ow4
  have M4:Hid (Mk w0 hi W4 b vl3 L3 V1 { m1 with fs:=m1.fs.set k { fr with r:=fr.r+1 } } vt T):=hM4.1;have K4:Hid (Keeps hi w W4):=K3.out.trans hM4.2;have X4:Hid (BoxT W4 px 96 [.bool true,.bool xrd,.bool xwr,.bool xsh,.int .i64 (fi:Int),.int .i64 (ix:Int)]):=hM4.2.1 _ _ _ X3.out loc_one;have HBF:Hid (∀wf:Bool,(wf=true->xsh=true/\xwr=true)->BInv { m1 with fs:=m1.fs.set k { fr with r:=fr.r+1 } } (T.set p (updF f n ⟨1,(k:Int),wf⟩))):=show∀wf:Bool,_ from fun wf hwf=>HB1.out.hold HK.out (by rw[HKF.out.1];omega) (by rw[HSM.out.1];exact HS.out) HT.out hn H0.out HIS.out (by rw[HKF.out.1];exact HSE.out.2.1) (by rw[HKF.out.2];exact HSE.out.2.2) (fun e=>by rw[HSE.out.1,HWR.out];exact hwf e)
  clear hM4 ow4 gr4 sz4 x1 d8
  cases xsh with
  | false=>
   obtain⟨gt,ct,hte⟩:=M4.out.rows.tt.formS (by rw[HTL.out];omega)
   rw[HTL.out]at hte;have HTE:Hid (Value.slice vt.a vt.n vt.c= .slice (some ⟨gt,0,none⟩) tn ct):=hte;clear hte;obtain⟨I,HI⟩:∃I:World->Prop,Hid (∀u,I u↔u.cell? ⟨b,12,none⟩=some (.slice (some ⟨gt,0,none⟩) tn ct)/\BoxT u px 96 [.bool true,.bool xrd,.bool xwr,.bool false,.int .i64 (fi:Int),.int .i64 (ix:Int)]):=⟨fun u=>u.cell? ⟨b,12,none⟩=some (.slice (some ⟨gt,0,none⟩) tn ct)/\BoxT u px 96 [.bool true,.bool xrd,.bool xwr,.bool false,.int .i64 (fi:Int),.int .i64 (ix:Int)],fun _=>Iff.rfl⟩
   have HIM:Hid (∀u vl' L' V' m',Mk w0 hi u b vl' L' V' m' vt T->u.cell? ⟨b,12,none⟩=some (.slice (some ⟨gt,0,none⟩) tn ct)):=dD<|fun u vl' L' V' m' hm=>by
    have:=hm.box.box.c 12 rfl;rw[HTE.out]at this;exact this
   have hI0:I W4.drew:=(HI.out _).2 ⟨HIM.out _ _ _ _ _ (M4.out.grew (gW _)),X4.out.grew (gW _)⟩
   have hF0:MkE w0 hi b w L V1 { m1 with fs:=m1.fs.set k { fr with r:=fr.r+1 } } vt T W4.drew:=⟨vl3,L3,M4.out.grew (gW _),LL3.out,K4.out.trans (Keeps.grew (gW _))⟩
   have ht:∀y:HoldI I,y.world.cell? ⟨b,12,none⟩=some (.slice (some ⟨gt,0,none⟩) tn ct):=fun y=>((HI.out _).1 y.holds).1
   have hx2:∀y:HoldI I,y.world.cell? ⟨px,2,none⟩=some (.bool xwr):=fun y=>((HI.out _).1 y.holds).2.box.c 2 rfl
   have hx3:∀y:HoldI I,y.world.cell? ⟨px,3,none⟩=some (.bool false):=fun y=>((HI.out _).1 y.holds).2.box.c 3 rfl
   have hne:Nonempty (HoldI I):=⟨⟨_,hI0⟩⟩;have hptz:(p:Int)< (tn:Int):=by omega
   have hnz:(n:Int)<64:=by omega
   refine wp_lax_tailD (I:=I) 21 [(15,fun v=>∃x:Int,v= .int .i64 x)] (fun u=>MkE w0 hi b w L V1 { m1 with fs:=m1.fs.set k { fr with r:=fr.r+1 } } vt T u) hI0 hF0 mixed (by kernel_rfl) rfl rfl (by decide) ?hS (by kernel_rfl) ?_
   case hS=>
    intro x hx;simp only[mC,nM,or_false]at hx;subst hx;exact⟨_,0,rfl⟩
   simp only[List.take,List.drop];iterate 1 (refine laxD_quiet rfl rfl rfl (fun K hK=>?_);go_big_quiet_op;refine hK _ ?_;clear hK)
   refine laxD_nilc (.tmp 92) ⟨b,0,none⟩ rfl rfl rfl rfl ?_;simp only[Act.put,sB,sS,sZ];iterate 8 (refine laxD_quiet rfl rfl rfl (fun K hK=>?_);go_big_quiet_op;refine hK _ ?_;clear hK)
   refine laxD_skip ?_ ?_
   ·kernel_rfl
   simp only[Act.put,sB,sS,sZ];refine laxD_skip ?_ ?_
   ·kernel_rfl
   simp only[Act.put,sB,sS,sZ];iterate 2 (refine laxD_quiet rfl rfl rfl (fun K hK=>?_);go_big_quiet_op;refine hK _ ?_;clear hK)
   refine laxD_skip ?_ ?_
   ·kernel_rfl
   simp only[Act.put,sB,sS,sZ];refine laxD_skip ?_ ?_
   ·kernel_rfl
   simp only[Act.put,sB,sS,sZ];refine laxD_skip ?_ ?_
   ·kernel_rfl
   simp only[Act.put,sB,sS,sZ];iterate 4 (refine laxD_quiet rfl rfl rfl (fun K hK=>?_);go_big_quiet_op;refine hK _ ?_;clear hK)
   refine laxD_nil fun W8 hI8 hF8=>?_
   obtain⟨vl8,L8,mk8,ll8,kp8⟩:=hF8;have M8:Hid (Mk w0 hi W8 b vl8 L8 V1 { m1 with fs:=m1.fs.set k { fr with r:=fr.r+1 } } vt T):=mk8;have LL8:Hid (Less L L8):=ll8;have K8:Hid (Keeps hi w W8):=kp8;clear mk8 ll8 kp8 hI8 hI0 hF0 ht hx2 hx3 hne;have R8:Hid (OwnRow flaE w0.heap.size W8 (.slice (some ⟨gt,0,none⟩) tn ct) T):=show OwnRow _ _ _ _ _ by rw[<-HTE.out];exact M8.out.rows.tt
   refine wpList_store_part (E:=flaE) rfl (.tmp 112) (.tmp 110) 67 rfl w0.heap.size _ T R8.out gt p (n*3) rfl f (updF f n ⟨1,(k:Int),false⟩) HT.out (env ⟨1,(k:Int),false⟩) (by kernel_rfl) (flaE_upd f hn _) (by show n*3+3<=192;omega) (enE.one _) ⟨gt,p*192+n*3,none⟩ rfl rfl (.agg (env ⟨1,(k:Int),false⟩).toArray) rfl rfl ?_
   intro W9 ow9 gr9 sz9;rw[<-HTE.out]at ow9;have hM9:=M8.out.setT (by rw[HTE.out];rfl) gr9 sz9 ow9
   have M9:Hid (Mk w0 hi W9 b vl8 L8 V1 { m1 with fs:=m1.fs.set k { fr with r:=fr.r+1 } } vt (T.set p (updF f n ⟨1,(k:Int),false⟩))):=hM9.1;have K9:Hid (Keeps hi w W9):=K8.out.trans hM9.2;clear hM9 ow9 gr9 sz9;have HE:Hid (Ent w0 hi b w L m vt T p n f W9):=show Ent _ _ _ _ _ _ _ _ _ _ _ _ from⟨vl8,L8,_,_,_,M9.out,LL8.out,K9.out,HBF.out _ (by intro e;first | exact⟨rfl,rfl⟩ | cases e),⟨HSM.out.1,HSM.out.2.1,HSM.out.2.2.1,List.length_set.trans HSM.out.2.2.2⟩,.inr ⟨_,rfl⟩,fun h=>absurd h HLN.out⟩
   go_wp2
   (first | go_end0 | ((try simp only[Exit.inBlock,Exit.then]);refine bodyPost_ret (results_none rfl _ _ _) rfl ?_))
   first | exact HE.out | exact⟨⟨_,rfl⟩,HE.out⟩
  | true=>
   cases xwr with
   | false=>
    obtain⟨gt,ct,hte⟩:=M4.out.rows.tt.formS (by rw[HTL.out];omega)
    rw[HTL.out]at hte;have HTE:Hid (Value.slice vt.a vt.n vt.c= .slice (some ⟨gt,0,none⟩) tn ct):=hte;clear hte;obtain⟨I,HI⟩:∃I:World->Prop,Hid (∀u,I u↔u.cell? ⟨b,12,none⟩=some (.slice (some ⟨gt,0,none⟩) tn ct)/\BoxT u px 96 [.bool true,.bool xrd,.bool false,.bool true,.int .i64 (fi:Int),.int .i64 (ix:Int)]):=⟨fun u=>u.cell? ⟨b,12,none⟩=some (.slice (some ⟨gt,0,none⟩) tn ct)/\BoxT u px 96 [.bool true,.bool xrd,.bool false,.bool true,.int .i64 (fi:Int),.int .i64 (ix:Int)],fun _=>Iff.rfl⟩
    have HIM:Hid (∀u vl' L' V' m',Mk w0 hi u b vl' L' V' m' vt T->u.cell? ⟨b,12,none⟩=some (.slice (some ⟨gt,0,none⟩) tn ct)):=dD<|fun u vl' L' V' m' hm=>by
     have:=hm.box.box.c 12 rfl;rw[HTE.out]at this;exact this
    have hI0:I W4.drew:=(HI.out _).2 ⟨HIM.out _ _ _ _ _ (M4.out.grew (gW _)),X4.out.grew (gW _)⟩
    have hF0:MkE w0 hi b w L V1 { m1 with fs:=m1.fs.set k { fr with r:=fr.r+1 } } vt T W4.drew:=⟨vl3,L3,M4.out.grew (gW _),LL3.out,K4.out.trans (Keeps.grew (gW _))⟩
    have ht:∀y:HoldI I,y.world.cell? ⟨b,12,none⟩=some (.slice (some ⟨gt,0,none⟩) tn ct):=fun y=>((HI.out _).1 y.holds).1
    have hx2:∀y:HoldI I,y.world.cell? ⟨px,2,none⟩=some (.bool false):=fun y=>((HI.out _).1 y.holds).2.box.c 2 rfl
    have hx3:∀y:HoldI I,y.world.cell? ⟨px,3,none⟩=some (.bool true):=fun y=>((HI.out _).1 y.holds).2.box.c 3 rfl
    have hne:Nonempty (HoldI I):=⟨⟨_,hI0⟩⟩;have hptz:(p:Int)< (tn:Int):=by omega
    have hnz:(n:Int)<64:=by omega
    refine wp_lax_tailD (I:=I) 21 [(15,fun v=>∃x:Int,v= .int .i64 x)] (fun u=>MkE w0 hi b w L V1 { m1 with fs:=m1.fs.set k { fr with r:=fr.r+1 } } vt T u) hI0 hF0 mixed (by kernel_rfl) rfl rfl (by decide) ?hS (by kernel_rfl) ?_
    case hS=>
     intro x hx;simp only[mC,nM,or_false]at hx;subst hx;exact⟨_,0,rfl⟩
    simp only[List.take,List.drop];iterate 1 (refine laxD_quiet rfl rfl rfl (fun K hK=>?_);go_big_quiet_op;refine hK _ ?_;clear hK)
    refine laxD_nilc (.tmp 92) ⟨b,0,none⟩ rfl rfl rfl rfl ?_;simp only[Act.put,sB,sS,sZ];iterate 8 (refine laxD_quiet rfl rfl rfl (fun K hK=>?_);go_big_quiet_op;refine hK _ ?_;clear hK)
    iterate 4 (refine laxD_quiet rfl rfl rfl (fun K hK=>?_);go_big_quiet_op;refine hK _ ?_;clear hK)
    refine laxD_skip ?_ ?_
    ·kernel_rfl
    simp only[Act.put,sB,sS,sZ];refine laxD_skip ?_ ?_
    ·kernel_rfl
    simp only[Act.put,sB,sS,sZ];refine laxD_skip ?_ ?_
    ·kernel_rfl
    simp only[Act.put,sB,sS,sZ];iterate 4 (refine laxD_quiet rfl rfl rfl (fun K hK=>?_);go_big_quiet_op;refine hK _ ?_;clear hK)
    refine laxD_nil fun W8 hI8 hF8=>?_
    obtain⟨vl8,L8,mk8,ll8,kp8⟩:=hF8;have M8:Hid (Mk w0 hi W8 b vl8 L8 V1 { m1 with fs:=m1.fs.set k { fr with r:=fr.r+1 } } vt T):=mk8;have LL8:Hid (Less L L8):=ll8;have K8:Hid (Keeps hi w W8):=kp8;clear mk8 ll8 kp8 hI8 hI0 hF0 ht hx2 hx3 hne;have R8:Hid (OwnRow flaE w0.heap.size W8 (.slice (some ⟨gt,0,none⟩) tn ct) T):=show OwnRow _ _ _ _ _ by rw[<-HTE.out];exact M8.out.rows.tt
    refine wpList_store_part (E:=flaE) rfl (.tmp 112) (.tmp 110) 67 rfl w0.heap.size _ T R8.out gt p (n*3) rfl f (updF f n ⟨1,(k:Int),false⟩) HT.out (env ⟨1,(k:Int),false⟩) (by kernel_rfl) (flaE_upd f hn _) (by show n*3+3<=192;omega) (enE.one _) ⟨gt,p*192+n*3,none⟩ rfl rfl (.agg (env ⟨1,(k:Int),false⟩).toArray) rfl rfl ?_
    intro W9 ow9 gr9 sz9;rw[<-HTE.out]at ow9;have hM9:=M8.out.setT (by rw[HTE.out];rfl) gr9 sz9 ow9
    have M9:Hid (Mk w0 hi W9 b vl8 L8 V1 { m1 with fs:=m1.fs.set k { fr with r:=fr.r+1 } } vt (T.set p (updF f n ⟨1,(k:Int),false⟩))):=hM9.1;have K9:Hid (Keeps hi w W9):=K8.out.trans hM9.2;clear hM9 ow9 gr9 sz9;have HE:Hid (Ent w0 hi b w L m vt T p n f W9):=show Ent _ _ _ _ _ _ _ _ _ _ _ _ from⟨vl8,L8,_,_,_,M9.out,LL8.out,K9.out,HBF.out _ (by intro e;first | exact⟨rfl,rfl⟩ | cases e),⟨HSM.out.1,HSM.out.2.1,HSM.out.2.2.1,List.length_set.trans HSM.out.2.2.2⟩,.inr ⟨_,rfl⟩,fun h=>absurd h HLN.out⟩
    go_wp2
    (first | go_end0 | ((try simp only[Exit.inBlock,Exit.then]);refine bodyPost_ret (results_none rfl _ _ _) rfl ?_))
    first | exact HE.out | exact⟨⟨_,rfl⟩,HE.out⟩
   | true=>
    obtain⟨gt,ct,hte⟩:=M4.out.rows.tt.formS (by rw[HTL.out];omega)
    rw[HTL.out]at hte;have HTE:Hid (Value.slice vt.a vt.n vt.c= .slice (some ⟨gt,0,none⟩) tn ct):=hte;clear hte;obtain⟨I,HI⟩:∃I:World->Prop,Hid (∀u,I u↔u.cell? ⟨b,12,none⟩=some (.slice (some ⟨gt,0,none⟩) tn ct)/\BoxT u px 96 [.bool true,.bool xrd,.bool true,.bool true,.int .i64 (fi:Int),.int .i64 (ix:Int)]):=⟨fun u=>u.cell? ⟨b,12,none⟩=some (.slice (some ⟨gt,0,none⟩) tn ct)/\BoxT u px 96 [.bool true,.bool xrd,.bool true,.bool true,.int .i64 (fi:Int),.int .i64 (ix:Int)],fun _=>Iff.rfl⟩
    have HIM:Hid (∀u vl' L' V' m',Mk w0 hi u b vl' L' V' m' vt T->u.cell? ⟨b,12,none⟩=some (.slice (some ⟨gt,0,none⟩) tn ct)):=dD<|fun u vl' L' V' m' hm=>by
     have:=hm.box.box.c 12 rfl;rw[HTE.out]at this;exact this
    have hI0:I W4.drew:=(HI.out _).2 ⟨HIM.out _ _ _ _ _ (M4.out.grew (gW _)),X4.out.grew (gW _)⟩
    have hF0:MkE w0 hi b w L V1 { m1 with fs:=m1.fs.set k { fr with r:=fr.r+1 } } vt T W4.drew:=⟨vl3,L3,M4.out.grew (gW _),LL3.out,K4.out.trans (Keeps.grew (gW _))⟩
    have ht:∀y:HoldI I,y.world.cell? ⟨b,12,none⟩=some (.slice (some ⟨gt,0,none⟩) tn ct):=fun y=>((HI.out _).1 y.holds).1
    have hx2:∀y:HoldI I,y.world.cell? ⟨px,2,none⟩=some (.bool true):=fun y=>((HI.out _).1 y.holds).2.box.c 2 rfl
    have hx3:∀y:HoldI I,y.world.cell? ⟨px,3,none⟩=some (.bool true):=fun y=>((HI.out _).1 y.holds).2.box.c 3 rfl
    have hne:Nonempty (HoldI I):=⟨⟨_,hI0⟩⟩;have hptz:(p:Int)< (tn:Int):=by omega
    have hnz:(n:Int)<64:=by omega
    refine wp_lax_tailD (I:=I) 21 [(15,fun v=>∃x:Int,v= .int .i64 x)] (fun u=>MkE w0 hi b w L V1 { m1 with fs:=m1.fs.set k { fr with r:=fr.r+1 } } vt T u) hI0 hF0 mixed (by kernel_rfl) rfl rfl (by decide) ?hS (by kernel_rfl) ?_
    case hS=>
     intro x hx;simp only[mC,nM,or_false]at hx;subst hx;exact⟨_,0,rfl⟩
    simp only[List.take,List.drop];iterate 1 (refine laxD_quiet rfl rfl rfl (fun K hK=>?_);go_big_quiet_op;refine hK _ ?_;clear hK)
    refine laxD_nilc (.tmp 92) ⟨b,0,none⟩ rfl rfl rfl rfl ?_;simp only[Act.put,sB,sS,sZ];iterate 8 (refine laxD_quiet rfl rfl rfl (fun K hK=>?_);go_big_quiet_op;refine hK _ ?_;clear hK)
    iterate 4 (refine laxD_quiet rfl rfl rfl (fun K hK=>?_);go_big_quiet_op;refine hK _ ?_;clear hK)
    iterate 1 (refine laxD_quiet rfl rfl rfl (fun K hK=>?_);go_big_quiet_op;refine hK _ ?_;clear hK)
    refine laxD_spec rfl rfl (fun _ u=>MkE w0 hi b w L V1 { m1 with fs:=m1.fs.set k { fr with r:=fr.r+1 } } vt T u) (fun w' hI' hF'=>?_) (fun v1 hv=>?_)
    ·obtain⟨vl',L',mk',ll',kp'⟩:=hF';refine Does.call [.pointer (some ⟨b,0,none⟩),.int .i64 2] rfl func27 rfl rfl rfl ?_;refine(pick_any 2 mk').mono ?_;rintro e w'' ⟨vl2,L2,x,rfl,mk2,gr2,_,_,_,_,ll2⟩;exact⟨_,rfl,(HI.out _).2 ⟨HIM.out _ _ _ _ _ mk2,(mk'.keeps gr2).1 _ _ _ ((HI.out _).1 hI').2 loc_one⟩,⟨x,rfl⟩,vl2,L2,mk2,ll'.trans ll2,kp'.trans (mk'.keeps gr2)⟩
    obtain⟨xq,rfl⟩:=hv;simp only[Act.put,sB,sS,sZ];iterate 5 (refine laxD_quiet rfl rfl rfl (fun K hK=>?_);go_big_quiet_op;refine hK _ ?_;clear hK)
    refine laxD_nil fun W8 hI8 hF8=>?_
    obtain⟨vl8,L8,mk8,ll8,kp8⟩:=hF8;have M8:Hid (Mk w0 hi W8 b vl8 L8 V1 { m1 with fs:=m1.fs.set k { fr with r:=fr.r+1 } } vt T):=mk8;have LL8:Hid (Less L L8):=ll8;have K8:Hid (Keeps hi w W8):=kp8;clear mk8 ll8 kp8 hI8 hI0 hF0 ht hx2 hx3 hne;have R8:Hid (OwnRow flaE w0.heap.size W8 (.slice (some ⟨gt,0,none⟩) tn ct) T):=show OwnRow _ _ _ _ _ by rw[<-HTE.out];exact M8.out.rows.tt
    refine wpList_store_part (E:=flaE) rfl (.tmp 112) (.tmp 110) 67 rfl w0.heap.size _ T R8.out gt p (n*3) rfl f (updF f n ⟨1,(k:Int),(xq == 1)⟩) HT.out (env ⟨1,(k:Int),(xq == 1)⟩) (by kernel_rfl) (flaE_upd f hn _) (by show n*3+3<=192;omega) (enE.one _) ⟨gt,p*192+n*3,none⟩ rfl rfl (.agg (env ⟨1,(k:Int),(xq == 1)⟩).toArray) rfl rfl ?_
    intro W9 ow9 gr9 sz9;rw[<-HTE.out]at ow9;have hM9:=M8.out.setT (by rw[HTE.out];rfl) gr9 sz9 ow9
    have M9:Hid (Mk w0 hi W9 b vl8 L8 V1 { m1 with fs:=m1.fs.set k { fr with r:=fr.r+1 } } vt (T.set p (updF f n ⟨1,(k:Int),(xq == 1)⟩))):=hM9.1;have K9:Hid (Keeps hi w W9):=K8.out.trans hM9.2;clear hM9 ow9 gr9 sz9;have HE:Hid (Ent w0 hi b w L m vt T p n f W9):=show Ent _ _ _ _ _ _ _ _ _ _ _ _ from⟨vl8,L8,_,_,_,M9.out,LL8.out,K9.out,HBF.out _ (by intro e;first | exact⟨rfl,rfl⟩ | cases e),⟨HSM.out.1,HSM.out.2.1,HSM.out.2.2.1,List.length_set.trans HSM.out.2.2.2⟩,.inr ⟨_,rfl⟩,fun h=>absurd h HLN.out⟩
    go_wp2
    (first | go_end0 | ((try simp only[Exit.inBlock,Exit.then]);refine bodyPost_ret (results_none rfl _ _ _) rfl ?_))
    first | exact HE.out | exact⟨⟨_,rfl⟩,HE.out⟩
 | false=>
  have hsh:=HC0.out rfl;subst hsh;have x3:=M1.out.box.box.c 3 rfl;obtain⟨sn,hsn⟩:∃sn,V.s.n=sn:=⟨_,rfl⟩;have HSL:Hid (m.sl.length=sn):=dD<|by rw[<-hsn];exact M1.out.rows.sl.n.symm
  rw[hsn]at x3;clear hsn;go_upto_region 12 with fail
  go_cut [113] (fun s113 wx=>∃c2:Bool,s113= .bool c2/\wx=W1/\Hid (c2=true->0<sn))
  case first=>
   by_cases h2:y=2
   ·have h2e:(y == 2)=true:=by simp[h2]
    clear h2;go_wp2
    go_meet
    exact⟨_,rfl,rfl,fun h=>by simpa using h⟩
   have h2e:(y == 2)=false:=by simp[h2]
   clear h2;go_wp2
   go_meet
   exact⟨false,rfl,rfl,fun h=>(by cases h)⟩
  obtain⟨c2,rfl,hwc,HC2⟩:=hcut;rw[hwc];clear hwc
  cases c2 with
  | true=>
   have hs0:=HC2.out rfl;have hpk2:=pick_any (sn:Int) M1.out;go_wp2_with fail;refine hpk2.mono ?_;clear hpk2;rintro e W2 ⟨vl2,L2,z,rfl,mk2,gr2,sz2,z0,z1,_,ll2⟩;obtain⟨k,rfl⟩:∃k:Nat,z=(k:Int):=⟨z.toNat,by omega⟩
   have hks:k<sn:=by rcases z1 with h | h <;> omega
   have hksz:(k:Int)< (sn:Int):=by omega
   have M2:Hid (Mk w0 hi W2 b vl2 L2 V m vt T):=mk2;have K2:=dD (K1.out.trans (M1.out.keeps gr2));have LL2:=dD (LL1.out.trans ll2);clear mk2 gr2 sz2 z0 z1 ll2 x3;obtain⟨g,cs',heq⟩:=M2.out.rows.sl.formS (by rw[HSL.out];omega)
   rw[HSL.out]at heq;have HEQ:Hid (Value.slice V.s.a V.s.n V.s.c= .slice (some ⟨g,0,none⟩) sn cs'):=heq;have x3:=M2.out.box.box.c 3 rfl;rw[HEQ.out]at x3;have hrw:=M2.out.rows.sl;rw[HEQ.out]at hrw;have HRW:Hid (OwnRow slE w0.heap.size W2 (.slice (some ⟨g,0,none⟩) sn cs') m.sl):=hrw;obtain⟨zv,HZV⟩:∃zv,Hid (m.sl[k]? =some zv):=⟨_,gE (by rw[HSL.out];exact hks)⟩
   have hce:=hrw.one HZV.out;have d0:W2.cell? ⟨g,k,none⟩=some (.int .i64 zv):=by
    have:=hce 0 _ rfl;rw[add_add',Addr.add_lit,zA]at this
    simpa [slE,Nat.mul_one]using this
   clear hce hrw heq
   by_cases hz:zv=0
   ·have hze:(zv == 0)=true:=by simp[hz]
    have HZ0:Hid (m.sl[k]? =some 0):=dD<|by rw[HZV.out,hz]
    clear hz;have xf:=HRW.out.unfrozen rfl;go_upto_region 16 with fail;obtain⟨ow3,gr3,sz3⟩:=HRW.out.cell (k:=k) (o:=0) rfl HZV.out (y:=1) (u:= .int .i64 1) rfl (by decide)
    obtain⟨W3,hW3⟩:∃W3,W2.setCell ⟨g,k,none⟩ (.int .i64 1)=W3:=⟨_,rfl⟩;have e3:W2.setCell ⟨g,k*slE.k+0,none⟩ (.int .i64 1)=W3:=by rw[<-hW3];simp[slE]
    rw[e3]at ow3 gr3 sz3;rw[hW3];rw[<-HEQ.out]at ow3;clear e3 hW3 xf;have hM3:=M2.out.setS (by rw[HEQ.out];rfl) gr3 sz3 ow3
    have M3:Hid (Mk w0 hi W3 b vl2 L2 V { m with sl:=m.sl.set k 1 } vt T):=hM3.1;have K3:Hid (Keeps hi w W3):=K2.out.trans hM3.2;clear hM3 ow3 gr3 sz3 x3 d0;have HSBL:Hid (m.sb.length=sn):=show _=_ by rw[HB.out.sbl,HSL.out]
    obtain⟨gb,cb,hbe⟩:∃gb cb,Value.slice V.sb.a V.sb.n V.sb.c= .slice (some ⟨gb,0,none⟩) sn cb:=by
     have h1:=M3.out.rows.sb.1;have hl:({ m with sl:=m.sl.set k 1 }:Ma).sb.length=sn:=HSBL.out;rw[hl]at h1
     rcases h1.2 with⟨_,h2⟩|⟨gb,cap,cur,e1,_⟩
     ·omega
     exact⟨gb,cap,e1⟩
    have HBE:Hid (Value.slice V.sb.a V.sb.n V.sb.c= .slice (some ⟨gb,0,none⟩) sn cb):=hbe;clear hbe;obtain⟨I,HI⟩:∃I:World->Prop,Hid (∀u,I u↔u.cell? ⟨b,4,none⟩=some (.slice (some ⟨gb,0,none⟩) sn cb)):=⟨fun u=>u.cell? ⟨b,4,none⟩=some (.slice (some ⟨gb,0,none⟩) sn cb),fun _=>Iff.rfl⟩
    have HIM:Hid (∀u vl' L' m',Mk w0 hi u b vl' L' V m' vt T->u.cell? ⟨b,4,none⟩=some (.slice (some ⟨gb,0,none⟩) sn cb)):=dD<|fun u vl' L' m' hm=>by
     have:=hm.box.box.c 4 rfl;rw[HBE.out]at this;exact this
    have hI0:I W3.drew:=(HI.out _).2 (HIM.out _ _ _ _ (M3.out.grew (gW _)))
    have hF0:MkE w0 hi b w L V { m with sl:=m.sl.set k 1 } vt T W3.drew:=⟨vl2,L2,M3.out.grew (gW _),LL2.out,K3.out.trans (Keeps.grew (gW _))⟩
    have ht:∀y:HoldI I,y.world.cell? ⟨b,4,none⟩=some (.slice (some ⟨gb,0,none⟩) sn cb):=fun y=>(HI.out _).1 y.holds
    have hne:Nonempty (HoldI I):=⟨⟨_,hI0⟩⟩;refine wp_lax_tailD (I:=I) 10 [(8,fun v=>∃q:List Int,v= .agg (pgc q).toArray/\q.length=8)] (fun u=>MkE w0 hi b w L V { m with sl:=m.sl.set k 1 } vt T u) hI0 hF0 mixed (by kernel_rfl) rfl rfl (by decide) ?hS (by kernel_rfl) ?_
    case hS=>
     intro x hx;simp only[mC,nM,or_false]at hx;subst hx;exact⟨_,zero8,rfl,rfl⟩
    simp only[List.take,List.drop];iterate 1 (refine laxD_quiet rfl rfl rfl (fun K hK=>?_);go_big_quiet_op;refine hK _ ?_;clear hK)
    refine laxD_nilc (.tmp 149) ⟨b,0,none⟩ rfl rfl rfl rfl ?_;simp only[Act.put,sB,sS,sZ];iterate 6 (refine laxD_quiet rfl rfl rfl (fun K hK=>?_);go_big_quiet_op;refine hK _ ?_;clear hK)
    refine laxD_spec rfl rfl (fun _ u=>MkE w0 hi b w L V { m with sl:=m.sl.set k 1 } vt T u) (fun w' hI' hF'=>?_) (fun v1 hv=>?_)
    ·obtain⟨vl',L',mk',ll',kp'⟩:=hF';refine Does.call [.pointer (some ⟨b,0,none⟩)] rfl func30 rfl rfl rfl ?_;refine(page_any mk').mono ?_;rintro e w'' ⟨vl3,L3,q,rfl,ql,mk3,gr3,ll3⟩;exact⟨_,rfl,(HI.out _).2 (HIM.out _ _ _ _ mk3),⟨q,rfl,ql⟩,vl3,L3,mk3,ll'.trans ll3,kp'.trans (mk'.keeps gr3)⟩
    obtain⟨q6,rfl,ql6⟩:=hv;have HQL:Hid (q6.length=8):=ql6;clear ql6;simp only[Act.put,sB,sS,sZ];iterate 1 (refine laxD_quiet rfl rfl rfl (fun K hK=>?_);go_big_quiet_op;refine hK _ ?_;clear hK)
    refine laxD_nil fun W6 hI6 hF6=>?_
    obtain⟨vl6,L6,mk6,ll6,kp6⟩:=hF6;have M6:Hid (Mk w0 hi W6 b vl6 L6 V { m with sl:=m.sl.set k 1 } vt T):=mk6;have LL6:Hid (Less L L6):=ll6;have K6:Hid (Keeps hi w W6):=kp6;clear mk6 ll6 kp6 hI6 hI0 hF0 ht hne;have R6:Hid (OwnPages w0.heap.size W6 (.slice (some ⟨gb,0,none⟩) sn cb) m.sb):=show OwnPages _ _ _ _ by rw[<-HBE.out];exact M6.out.rows.sb
    refine wpList_store_page rfl (.tmp 158) (.tmp 157) rfl w0.heap.size _ m.sb R6.out gb k rfl (by rw[HSBL.out];exact hks) q6 HQL.out ⟨gb,k*8,none⟩ rfl rfl rfl ?_
    intro W7 ow7 gr7 sz7;rw[<-HBE.out]at ow7;have hM7:=M6.out.setSb (by rw[HBE.out];rfl) gr7 sz7 ow7
    have M7:Hid (Mk w0 hi W7 b vl6 L6 V { m with sl:=m.sl.set k 1,sb:=m.sb.set k q6 } vt T):=hM7.1;have K7:Hid (Keeps hi w W7):=K6.out.trans hM7.2;clear hM7 ow7 gr7 sz7;obtain⟨gt,ct,hte⟩:=M7.out.rows.tt.formS (by rw[HTL.out];omega)
    rw[HTL.out]at hte;have HTE:Hid (Value.slice vt.a vt.n vt.c= .slice (some ⟨gt,0,none⟩) tn ct):=hte;have R7:Hid (OwnRow flaE w0.heap.size W7 (.slice (some ⟨gt,0,none⟩) tn ct) T):=show OwnRow _ _ _ _ _ by rw[<-HTE.out];exact M7.out.rows.tt
    have x12:=M7.out.box.box.c 12 rfl;rw[HTE.out]at x12;have hptz:(p:Int)< (tn:Int):=by omega
    have hnz:(n:Int)<64:=by omega
    clear hte
    go_wp2_with (refine wpList_store_part (E:=flaE) rfl (.tmp 168) (.tmp 166) 67 rfl w0.heap.size _ T R7.out gt p (n*3) rfl f (updF f n ⟨2,(k:Int),false⟩) HT.out (env ⟨2,(k:Int),false⟩) (by kernel_rfl) (flaE_upd f hn _) (by show n*3+3<=192;omega) (enE.one _) ⟨gt,p*192+n*3,none⟩ rfl rfl (.agg (env ⟨2,(k:Int),false⟩).toArray) rfl rfl ?_)
    intro W9 ow9 gr9 sz9;rw[<-HTE.out]at ow9;have hM9:=M7.out.setT (by rw[HTE.out];rfl) gr9 sz9 ow9
    have M9:Hid (Mk w0 hi W9 b vl6 L6 V { m with sl:=m.sl.set k 1,sb:=m.sb.set k q6 } vt (T.set p (updF f n ⟨2,(k:Int),false⟩))):=hM9.1;have K9:Hid (Keeps hi w W9):=K7.out.trans hM9.2;have HBF:Hid (BInv { m with sl:=m.sl.set k 1,sb:=m.sb.set k q6 } (T.set p (updF f n ⟨2,(k:Int),false⟩))):=HB.out.swap HZ0.out HS.out HT.out hn H0.out HIS.out HSE.out.1;clear hM9 ow9 gr9 sz9 x12;have HE:Hid (Ent w0 hi b w L m vt T p n f W9):=show Ent _ _ _ _ _ _ _ _ _ _ _ _ from⟨vl6,L6,_,_,_,M9.out,LL6.out,K9.out,HBF.out,⟨rfl,rfl,rfl,rfl⟩,.inr ⟨_,rfl⟩,fun h=>absurd h HLN.out⟩
    go_wp2
    (first | go_end0 | ((try simp only[Exit.inBlock,Exit.then]);refine bodyPost_ret (results_none rfl _ _ _) rfl ?_))
    first | exact HE.out | exact⟨⟨_,rfl⟩,HE.out⟩
   have hze:(zv == 0)=false:=by simp[hz]
   clear hz;have HE:Hid (Ent w0 hi b w L m vt T p n f W2):=dD<|Ent.same p n f HB.out ⟨vl2,L2,M2.out,LL2.out,K2.out⟩
   go_wp2
   (first | go_end0 | ((try simp only[Exit.inBlock,Exit.then]);refine bodyPost_ret (results_none rfl _ _ _) rfl ?_))
   first | exact HE.out | exact⟨⟨_,rfl⟩,HE.out⟩
  | false=>
   go_upto_region 2 with fail;clear x3;have hpg2:=page_any M1.out;go_wp2_with fail;refine hpg2.mono ?_;clear hpg2;rintro e W5 ⟨vl5,L5,q5,rfl,ql5,mk5,gr5,ll5⟩;obtain⟨p0,p1,p2,p3,p4,p5,p6,p7,rfl⟩:=len8 q5 ql5;simp only[pgc,mP,List.map_nil];have M5:Hid (Mk w0 hi W5 b vl5 L5 V m vt T):=mk5;have K5:=dD (K1.out.trans (M1.out.keeps gr5));have X5:Hid (BoxT W5 px 96 [.bool true,.bool xrd,.bool xwr,.bool false,.int .i64 xfi,.int .i64 xpg]):=(M1.out.keeps gr5).1 _ _ _ X1.out loc_one;have LL5:=dD (LL1.out.trans ll5);clear ql5 mk5 gr5 ll5;have hpk2:=pick_any 2 M5.out;go_wp2_with fail;refine hpk2.mono ?_;clear hpk2;rintro e W6 ⟨vl6,L6,z,rfl,mk6,gr6,_,_,_,_,ll6⟩;have M6:Hid (Mk w0 hi W6 b vl6 L6 V m vt T):=mk6;have K6:=dD (K5.out.trans (M5.out.keeps gr6));have X6:Hid (BoxT W6 px 96 [.bool true,.bool xrd,.bool xwr,.bool false,.int .i64 xfi,.int .i64 xpg]):=(M5.out.keeps gr6).1 _ _ _ X5.out loc_one;have LL6:=dD (LL5.out.trans ll6);clear mk6 gr6 ll6;have hfm:=frame_any ⟨⟨p0,p1,p2,p3,p4,p5,p6,p7⟩,1,z == 1,false,-1,0⟩ M6.out;go_wp2_with fail;refine hfm.mono ?_;clear hfm;rintro e W7 (⟨rfl,hE⟩|⟨k,q,rfl,hq,hr,vl7,L7,mk7,ll7,kp7⟩)
   ·have HEE:Hid (MkE w0 hi b w L V m vt T W7):=hE.trans LL6.out K6.out;clear hE;have HE:Hid (Ent w0 hi b w L m vt T p n f W7):=show Ent _ _ _ _ _ _ _ _ _ _ _ _ from Ent.same p n f HB.out HEE.out
    go_wp2
    (first | go_end0 | ((try simp only[Exit.inBlock,Exit.then]);refine bodyPost_ret (results_none rfl _ _ _) rfl ?_))
    first | exact HE.out | exact⟨⟨_,rfl⟩,HE.out⟩
   have HQ:Hid (m.fs[k]? =some q):=hq;have HR0:Hid (q.r=0):=hr;have M7:Hid (Mk w0 hi W7 b vl7 L7 V { m with fs:=m.fs.set k ⟨⟨p0,p1,p2,p3,p4,p5,p6,p7⟩,1,z == 1,false,-1,0⟩ } vt T):=mk7;have K7:=dD (K6.out.trans kp7);have X7:Hid (BoxT W7 px 96 [.bool true,.bool xrd,.bool xwr,.bool false,.int .i64 xfi,.int .i64 xpg]):=kp7.1 _ _ _ X6.out loc_one;have LL7:=dD (LL6.out.trans ll7);clear hq hr mk7 ll7 kp7;have hk0:(0:Int)<=(k:Int):=by omega
   have hkd:decide ((0:Int)<=(k:Int))=true:=by simp
   have HBF:Hid (∀wf:Bool,(wf=true->xwr=true)->BInv { m with fs:=m.fs.set k ⟨⟨p0,p1,p2,p3,p4,p5,p6,p7⟩,1,z == 1,false,-1,0⟩ } (T.set p (updF f n ⟨1,(k:Int),wf⟩))):=dD<|fun wf hwf=>HB.out.mine HQ.out HR0.out HS.out HT.out hn H0.out HIS.out HSE.out.1 (fun e=>by rw[HWR.out];exact hwf e)
   go_upto_region 4 with fail
   cases xwr with
   | false=>
    obtain⟨gt,ct,hte⟩:=M7.out.rows.tt.formS (by rw[HTL.out];omega)
    rw[HTL.out]at hte;have HTE:Hid (Value.slice vt.a vt.n vt.c= .slice (some ⟨gt,0,none⟩) tn ct):=hte;clear hte;obtain⟨I,HI⟩:∃I:World->Prop,Hid (∀u,I u↔u.cell? ⟨b,12,none⟩=some (.slice (some ⟨gt,0,none⟩) tn ct)/\BoxT u px 96 [.bool true,.bool xrd,.bool false,.bool false,.int .i64 xfi,.int .i64 xpg]):=⟨fun u=>u.cell? ⟨b,12,none⟩=some (.slice (some ⟨gt,0,none⟩) tn ct)/\BoxT u px 96 [.bool true,.bool xrd,.bool false,.bool false,.int .i64 xfi,.int .i64 xpg],fun _=>Iff.rfl⟩
    have HIM:Hid (∀u vl' L' V' m',Mk w0 hi u b vl' L' V' m' vt T->u.cell? ⟨b,12,none⟩=some (.slice (some ⟨gt,0,none⟩) tn ct)):=dD<|fun u vl' L' V' m' hm=>by
     have:=hm.box.box.c 12 rfl;rw[HTE.out]at this;exact this
    have hI0:I W7.drew:=(HI.out _).2 ⟨HIM.out _ _ _ _ _ (M7.out.grew (gW _)),X7.out.grew (gW _)⟩
    have hF0:MkE w0 hi b w L V { m with fs:=m.fs.set k ⟨⟨p0,p1,p2,p3,p4,p5,p6,p7⟩,1,z == 1,false,-1,0⟩ } vt T W7.drew:=⟨vl7,L7,M7.out.grew (gW _),LL7.out,K7.out.trans (Keeps.grew (gW _))⟩
    have ht:∀y:HoldI I,y.world.cell? ⟨b,12,none⟩=some (.slice (some ⟨gt,0,none⟩) tn ct):=fun y=>((HI.out _).1 y.holds).1
    have hx2:∀y:HoldI I,y.world.cell? ⟨px,2,none⟩=some (.bool false):=fun y=>((HI.out _).1 y.holds).2.box.c 2 rfl
    have hx3:∀y:HoldI I,y.world.cell? ⟨px,3,none⟩=some (.bool false):=fun y=>((HI.out _).1 y.holds).2.box.c 3 rfl
    have hne:Nonempty (HoldI I):=⟨⟨_,hI0⟩⟩;have hptz:(p:Int)< (tn:Int):=by omega
    have hnz:(n:Int)<64:=by omega
    refine wp_lax_tailD (I:=I) 17 [(11,fun v=>∃x:Int,v= .int .i64 x)] (fun u=>MkE w0 hi b w L V { m with fs:=m.fs.set k ⟨⟨p0,p1,p2,p3,p4,p5,p6,p7⟩,1,z == 1,false,-1,0⟩ } vt T u) hI0 hF0 mixed (by kernel_rfl) rfl rfl (by decide) ?hS (by kernel_rfl) ?_
    case hS=>
     intro x hx;simp only[mC,nM,or_false]at hx;subst hx;exact⟨_,0,rfl⟩
    simp only[List.take,List.drop];iterate 1 (refine laxD_quiet rfl rfl rfl (fun K hK=>?_);go_big_quiet_op;refine hK _ ?_;clear hK)
    refine laxD_nilc (.tmp 24) ⟨b,0,none⟩ rfl rfl rfl rfl ?_;simp only[Act.put,sB,sS,sZ];iterate 8 (refine laxD_quiet rfl rfl rfl (fun K hK=>?_);go_big_quiet_op;refine hK _ ?_;clear hK)
    refine laxD_skip ?_ ?_
    ·kernel_rfl
    simp only[Act.put,sB,sS,sZ];refine laxD_skip ?_ ?_
    ·kernel_rfl
    simp only[Act.put,sB,sS,sZ];refine laxD_skip ?_ ?_
    ·kernel_rfl
    simp only[Act.put,sB,sS,sZ];iterate 4 (refine laxD_quiet rfl rfl rfl (fun K hK=>?_);go_big_quiet_op;refine hK _ ?_;clear hK)
    refine laxD_nil fun W8 hI8 hF8=>?_
    obtain⟨vl8,L8,mk8,ll8,kp8⟩:=hF8;have M8:Hid (Mk w0 hi W8 b vl8 L8 V { m with fs:=m.fs.set k ⟨⟨p0,p1,p2,p3,p4,p5,p6,p7⟩,1,z == 1,false,-1,0⟩ } vt T):=mk8;have LL8:Hid (Less L L8):=ll8;have K8:Hid (Keeps hi w W8):=kp8;clear mk8 ll8 kp8 hI8 hI0 hF0 ht hx2 hx3 hne;have R8:Hid (OwnRow flaE w0.heap.size W8 (.slice (some ⟨gt,0,none⟩) tn ct) T):=show OwnRow _ _ _ _ _ by rw[<-HTE.out];exact M8.out.rows.tt
    refine wpList_store_part (E:=flaE) rfl (.tmp 40) (.tmp 38) 67 rfl w0.heap.size _ T R8.out gt p (n*3) rfl f (updF f n ⟨1,(k:Int),false⟩) HT.out (env ⟨1,(k:Int),false⟩) (by kernel_rfl) (flaE_upd f hn _) (by show n*3+3<=192;omega) (enE.one _) ⟨gt,p*192+n*3,none⟩ rfl rfl (.agg (env ⟨1,(k:Int),false⟩).toArray) rfl rfl ?_
    intro W9 ow9 gr9 sz9;rw[<-HTE.out]at ow9;have hM9:=M8.out.setT (by rw[HTE.out];rfl) gr9 sz9 ow9
    have M9:Hid (Mk w0 hi W9 b vl8 L8 V { m with fs:=m.fs.set k ⟨⟨p0,p1,p2,p3,p4,p5,p6,p7⟩,1,z == 1,false,-1,0⟩ } vt (T.set p (updF f n ⟨1,(k:Int),false⟩))):=hM9.1;have K9:Hid (Keeps hi w W9):=K8.out.trans hM9.2;clear hM9 ow9 gr9 sz9;have HE:Hid (Ent w0 hi b w L m vt T p n f W9):=show Ent _ _ _ _ _ _ _ _ _ _ _ _ from⟨vl8,L8,_,_,_,M9.out,LL8.out,K9.out,HBF.out _ (by intro e;first | rfl | cases e),⟨rfl,rfl,rfl,List.length_set⟩,.inr ⟨_,rfl⟩,fun h=>absurd h HLN.out⟩
    go_wp2
    (first | go_end0 | ((try simp only[Exit.inBlock,Exit.then]);refine bodyPost_ret (results_none rfl _ _ _) rfl ?_))
    first | exact HE.out | exact⟨⟨_,rfl⟩,HE.out⟩
   | true=>
    obtain⟨gt,ct,hte⟩:=M7.out.rows.tt.formS (by rw[HTL.out];omega)
    rw[HTL.out]at hte;have HTE:Hid (Value.slice vt.a vt.n vt.c= .slice (some ⟨gt,0,none⟩) tn ct):=hte;clear hte;obtain⟨I,HI⟩:∃I:World->Prop,Hid (∀u,I u↔u.cell? ⟨b,12,none⟩=some (.slice (some ⟨gt,0,none⟩) tn ct)/\BoxT u px 96 [.bool true,.bool xrd,.bool true,.bool false,.int .i64 xfi,.int .i64 xpg]):=⟨fun u=>u.cell? ⟨b,12,none⟩=some (.slice (some ⟨gt,0,none⟩) tn ct)/\BoxT u px 96 [.bool true,.bool xrd,.bool true,.bool false,.int .i64 xfi,.int .i64 xpg],fun _=>Iff.rfl⟩
    have HIM:Hid (∀u vl' L' V' m',Mk w0 hi u b vl' L' V' m' vt T->u.cell? ⟨b,12,none⟩=some (.slice (some ⟨gt,0,none⟩) tn ct)):=dD<|fun u vl' L' V' m' hm=>by
     have:=hm.box.box.c 12 rfl;rw[HTE.out]at this;exact this
    have hI0:I W7.drew:=(HI.out _).2 ⟨HIM.out _ _ _ _ _ (M7.out.grew (gW _)),X7.out.grew (gW _)⟩
    have hF0:MkE w0 hi b w L V { m with fs:=m.fs.set k ⟨⟨p0,p1,p2,p3,p4,p5,p6,p7⟩,1,z == 1,false,-1,0⟩ } vt T W7.drew:=⟨vl7,L7,M7.out.grew (gW _),LL7.out,K7.out.trans (Keeps.grew (gW _))⟩
    have ht:∀y:HoldI I,y.world.cell? ⟨b,12,none⟩=some (.slice (some ⟨gt,0,none⟩) tn ct):=fun y=>((HI.out _).1 y.holds).1
    have hx2:∀y:HoldI I,y.world.cell? ⟨px,2,none⟩=some (.bool true):=fun y=>((HI.out _).1 y.holds).2.box.c 2 rfl
    have hx3:∀y:HoldI I,y.world.cell? ⟨px,3,none⟩=some (.bool false):=fun y=>((HI.out _).1 y.holds).2.box.c 3 rfl
    have hne:Nonempty (HoldI I):=⟨⟨_,hI0⟩⟩;have hptz:(p:Int)< (tn:Int):=by omega
    have hnz:(n:Int)<64:=by omega
    refine wp_lax_tailD (I:=I) 17 [(11,fun v=>∃x:Int,v= .int .i64 x)] (fun u=>MkE w0 hi b w L V { m with fs:=m.fs.set k ⟨⟨p0,p1,p2,p3,p4,p5,p6,p7⟩,1,z == 1,false,-1,0⟩ } vt T u) hI0 hF0 mixed (by kernel_rfl) rfl rfl (by decide) ?hS (by kernel_rfl) ?_
    case hS=>
     intro x hx;simp only[mC,nM,or_false]at hx;subst hx;exact⟨_,0,rfl⟩
    simp only[List.take,List.drop];iterate 1 (refine laxD_quiet rfl rfl rfl (fun K hK=>?_);go_big_quiet_op;refine hK _ ?_;clear hK)
    refine laxD_nilc (.tmp 24) ⟨b,0,none⟩ rfl rfl rfl rfl ?_;simp only[Act.put,sB,sS,sZ];iterate 8 (refine laxD_quiet rfl rfl rfl (fun K hK=>?_);go_big_quiet_op;refine hK _ ?_;clear hK)
    iterate 1 (refine laxD_quiet rfl rfl rfl (fun K hK=>?_);go_big_quiet_op;refine hK _ ?_;clear hK)
    refine laxD_spec rfl rfl (fun _ u=>MkE w0 hi b w L V { m with fs:=m.fs.set k ⟨⟨p0,p1,p2,p3,p4,p5,p6,p7⟩,1,z == 1,false,-1,0⟩ } vt T u) (fun w' hI' hF'=>?_) (fun v1 hv=>?_)
    ·obtain⟨vl',L',mk',ll',kp'⟩:=hF';refine Does.call [.pointer (some ⟨b,0,none⟩),.int .i64 2] rfl func27 rfl rfl rfl ?_;refine(pick_any 2 mk').mono ?_;rintro e w'' ⟨vl2,L2,x,rfl,mk2,gr2,_,_,_,_,ll2⟩;exact⟨_,rfl,(HI.out _).2 ⟨HIM.out _ _ _ _ _ mk2,(mk'.keeps gr2).1 _ _ _ ((HI.out _).1 hI').2 loc_one⟩,⟨x,rfl⟩,vl2,L2,mk2,ll'.trans ll2,kp'.trans (mk'.keeps gr2)⟩
    obtain⟨xq,rfl⟩:=hv;simp only[Act.put,sB,sS,sZ];iterate 5 (refine laxD_quiet rfl rfl rfl (fun K hK=>?_);go_big_quiet_op;refine hK _ ?_;clear hK)
    refine laxD_nil fun W8 hI8 hF8=>?_
    obtain⟨vl8,L8,mk8,ll8,kp8⟩:=hF8;have M8:Hid (Mk w0 hi W8 b vl8 L8 V { m with fs:=m.fs.set k ⟨⟨p0,p1,p2,p3,p4,p5,p6,p7⟩,1,z == 1,false,-1,0⟩ } vt T):=mk8;have LL8:Hid (Less L L8):=ll8;have K8:Hid (Keeps hi w W8):=kp8;clear mk8 ll8 kp8 hI8 hI0 hF0 ht hx2 hx3 hne;have R8:Hid (OwnRow flaE w0.heap.size W8 (.slice (some ⟨gt,0,none⟩) tn ct) T):=show OwnRow _ _ _ _ _ by rw[<-HTE.out];exact M8.out.rows.tt
    refine wpList_store_part (E:=flaE) rfl (.tmp 40) (.tmp 38) 67 rfl w0.heap.size _ T R8.out gt p (n*3) rfl f (updF f n ⟨1,(k:Int),(xq == 1)⟩) HT.out (env ⟨1,(k:Int),(xq == 1)⟩) (by kernel_rfl) (flaE_upd f hn _) (by show n*3+3<=192;omega) (enE.one _) ⟨gt,p*192+n*3,none⟩ rfl rfl (.agg (env ⟨1,(k:Int),(xq == 1)⟩).toArray) rfl rfl ?_
    intro W9 ow9 gr9 sz9;rw[<-HTE.out]at ow9;have hM9:=M8.out.setT (by rw[HTE.out];rfl) gr9 sz9 ow9
    have M9:Hid (Mk w0 hi W9 b vl8 L8 V { m with fs:=m.fs.set k ⟨⟨p0,p1,p2,p3,p4,p5,p6,p7⟩,1,z == 1,false,-1,0⟩ } vt (T.set p (updF f n ⟨1,(k:Int),(xq == 1)⟩))):=hM9.1;have K9:Hid (Keeps hi w W9):=K8.out.trans hM9.2;clear hM9 ow9 gr9 sz9;have HE:Hid (Ent w0 hi b w L m vt T p n f W9):=show Ent _ _ _ _ _ _ _ _ _ _ _ _ from⟨vl8,L8,_,_,_,M9.out,LL8.out,K9.out,HBF.out _ (by intro e;first | rfl | cases e),⟨rfl,rfl,rfl,List.length_set⟩,.inr ⟨_,rfl⟩,fun h=>absurd h HLN.out⟩
    go_wp2
    (first | go_end0 | ((try simp only[Exit.inBlock,Exit.then]);refine bodyPost_ret (results_none rfl _ _ _) rfl ?_))
    first | exact HE.out | exact⟨⟨_,rfl⟩,HE.out⟩
end
section
def yn (b:Bool):Int:=if b=true then 121 else 110
def seenP (m:Ma) (p:Nat) (s:Sp):List Int:=
 112 ::(if s.live=true then [108]else [])++(List.range 64).flatMap fun n=>
  if(onAt s.ars n).is=false then []
  else [(n:Int),(viewR m (p:Int) (n:Int)).2.2 % 256,(onAt s.ars n).file % 256,(onAt s.ars n).page % 256]++(viewR m (p:Int) (n:Int)).1++ [yn (onAt s.ars n).rd,yn (onAt s.ars n).wr,yn (onAt s.ars n).sh,yn ((viewR m (p:Int) (n:Int)).2.1 && decide (0<=(onAt s.ars n).file))]
def seenF (m:Ma) (f:Nat):List Int:=102 ::((bytesL m (f:Int)).length:Int) % 256 :: bytesL m (f:Int)
def seenS (m:Ma):List Sp->Nat->List Int
 | [],_=>[]
 | s :: l,p=>seenP m p s++seenS m l (p+1)
def seenL (m:Ma):List Int:=seenS m m.sp 0++(List.range m.fl.length).flatMap (seenF m)
def sumTo (g:Nat->Nat):Nat->Nat
 | 0=>0
 | n+1=>sumTo g n+g n
def areaTo (l:List Ar):Nat->Nat
 | 0=>0
 | n+1=>areaTo l n+(onAt l n).is.toNat
theorem area_map {a:Ar} (h:(mapA l a).2=0):areaTo (mapA l a).1 64<=areaTo l 64+(a.tz - a.fr).toNat:=by
 obtain⟨h1,h2,h3,h4,h5⟩:=mapA_ok h;have ha:=arW_zero.1 h2;have hg:=mapF_good (wrL_zero.1 h1).2 ha;unfold ArOk at ha;have key:∀n:Nat,n<=64->areaTo (mapA l a).1 n<=areaTo l n+(min (n:Int) a.tz - min (n:Int) a.fr).toNat:=by
  intro n
  induction n with
  | zero=>intro _;simp[areaTo]
  | succ n ih=>
   intro hn;have ih':=ih (by omega)
   unfold areaTo;have e:(onAt (mapA l a).1 n).is=(mapF l a n).is:=by rw[h5,joinL_at hg (by omega)]
   rw[e];unfold mapF
   by_cases hin:arIn a n=true
   ·have:=arIn_iff.1 hin;rw[if_pos hin,oneOf_is];simp only[Bool.toNat_true];omega
   have hin':¬(a.fr<=(n:Int)/\(n:Int)<a.tz):=fun h=>hin (arIn_iff.2 h)
   rw[if_neg hin];omega
 have:=key 64 (nR _);omega
end
section
open Go.RowKit
section
variable{base hi S0:Nat} {w w':World} {V:MaV} {m:Ma} {vt:Sli} {T:List (Nat->En)}
def SpB (base S0:Nat) (w:World) (V:MaV) (m:Ma):Prop:=∃xs:List SpV,OwnRow spcE base w (.slice V.sp.a V.sp.n V.sp.c) xs/\xs.length=m.sp.length/\∀(i:Nat) x s,xs[i]? =some x->m.sp[i]? =some s->(x.live=s.live/\OwnRow arE base w x.ar.v s.ars/\x.tab=nil8/\s.tb=none8)/\∀g,x.ar.v.ownBlock=some g->g<S0
theorem MkR.spB (h:MkR base hi w V m vt T):SpB base w.heap.size w V m:=by
 obtain⟨xs,h1,h2,h3⟩:=h.sp;exact⟨xs,h1,h2,fun i x s hx hs=>⟨h3 i x s hx hs,fun g hg=>((h3 i x s hx hs).2.1.lt g hg).2⟩⟩
theorem SpB.grew (h:SpB base S0 w V m) (k:Grew w w'):SpB base S0 w' V m:=by
 obtain⟨xs,h1,h2,h3⟩:=h;refine⟨xs,h1.grew k,h2,fun i x s hx hs=>?_⟩
 obtain⟨⟨a1,a2,a3⟩,a4⟩:=h3 i x s hx hs;exact⟨⟨a1,a2.grew k,a3⟩,a4⟩
theorem SpB.kind (h:SpB base S0 w V m) {g:Nat} {cs:Array Value} (hg:w.grownBy w' (some g)) (ho:w.heap[g]? =some (.cells cs t (0,0))) (h1:t≠65) (h2:t≠69\/S0<=g):SpB base S0 w' V m:=by
 obtain⟨xs,k1,k2,k3⟩:=h;refine⟨xs,k1.kind hg ho h1,k2,fun i x s hx hs=>?_⟩
 obtain⟨⟨a1,a2,a3⟩,a4⟩:=k3 i x s hx hs;refine⟨⟨a1,?_,a3⟩,a4⟩
 rcases h2 with h2|h2
 ·exact a2.kind hg ho h2
 exact a2.grown hg fun k hk e=>by cases e;have:=a4 _ hk;omega
theorem MkR.area (h:MkR base hi w V m vt T) (hs:SpB base S0 w V m) {g:Nat} {cs:Array Value} (hg:w.grownBy w' (some g)) (ho:w.heap[g]? =some (.cells cs 69 (0,0))) (hb:S0<=g):MkR base hi w' V m vt T:=by
 obtain⟨k1,k2,k3,k4,k5,k6,k7,k8,k9⟩:=h.kept hg ho;obtain⟨xs,q1,q2,q3⟩:=hs.kind hg ho (by decide) (.inr hb)
 exact⟨nT h.hw hg.size,h.bh,k1 (by decide),k2 (.inl (by decide)),h.slh,k3 (.inl (by decide)),h.sbh,h.sq,k4 (.inl (by decide)),h.dbh,k5 (by decide),k6 (by decide) (.inl (by decide)),k7 (by decide),⟨xs,q1,q2,fun i x s hx hs=>(q3 i x s hx hs).1⟩,k9 (by decide),h.ap⟩
theorem grown_none (h:w.grownBy w' none):Grew w w':=grew_beside (Grew.refl _) h (fun g e=>by cases e)
theorem MkR.addSp {ys:List SpV} (h:MkR base hi w V m vt T) (s1:OwnRow spcE base w (.slice V.sp.a V.sp.n V.sp.c) ys) (s2:ys.length=m.sp.length) (s3:∀(i:Nat) x s,ys[i]? =some x->m.sp[i]? =some s->x.live=s.live/\OwnRow arE base w x.ar.v s.ars/\x.tab=nil8/\s.tb=none8)
  (hg:w.grownBy w' (Value.slice V.sp.a V.sp.n V.sp.c).ownBlock) (s xa:Sli) {l:List Ar} (hl:OwnRow arE base w xa.v l) (ho:OwnRow spcE base w' (.slice s.a s.n s.c) (ys++ [⟨true,xa,sli0,sli0,sli0,sli0,sli0,sli0,sli0,sli0⟩])):MkR base hi w' { V with sp:=s } { m with sp:=m.sp++ [⟨true,l,none8⟩] } vt T:=by
 have fin:(∀{x:SpV} {q:Sp},OwnRow arE base w x.ar.v q.ars->OwnRow arE base w' x.ar.v q.ars)->OwnRow arE base w' xa.v l->∃xs:List SpV,OwnRow spcE base w' (.slice s.a s.n s.c) xs/\xs.length=(m.sp++ [(⟨true,l,none8⟩:Sp)]).length/\∀(i:Nat) x q,xs[i]? =some x->(m.sp++ [(⟨true,l,none8⟩:Sp)])[i]? =some q->x.live=q.live/\OwnRow arE base w' x.ar.v q.ars/\x.tab=nil8/\q.tb=none8:=fun k1 k2=>by
  refine⟨_,ho,by simp[s2],fun i x q hx hq=>?_⟩
  rcases Nat.lt_or_ge i ys.length with hi|hi
  ·rw[List.getElem?_append_left hi]at hx;rw[List.getElem?_append_left (by omega)]at hq
   obtain⟨a1,a2,a3,a4⟩:=s3 i x q hx hq;exact⟨a1,k1 a2,a3,a4⟩
  rw[aR hi]at hx;rw[aR (by omega),<-s2]at hq
  have hi0:i - ys.length=0:=by
   have:=(gS.1 hx).1
   simp at this
   omega
  rw[hi0]at hx hq;cases hx;cases hq;exact⟨rfl,k2,rfl,rfl⟩
 cases hob:(Value.slice V.sp.a V.sp.n V.sp.c).ownBlock with
 | none=>
  rw[hob]at hg;have k:=grown_none hg;have h':=h.grew k;exact⟨h'.hw,h'.bh,h'.fs,h'.sl,h'.slh,h'.sb,h'.sbh,h'.sq,h'.db,h'.dbh,h'.dq,h'.fl,h'.ca,fin (fun h=>h.grew k) (hl.grew k),h'.tt,h'.ap⟩
 | some g=>
  rw[hob]at hg;obtain⟨cs,hc⟩:=s1.obj hob;obtain⟨k1,k2,k3,k4,k5,k6,k7,k8,k9⟩:=h.kept hg hc;exact⟨nT h.hw hg.size,h.bh,k1 (by decide),k2 (.inl (by decide)),h.slh,k3 (.inl (by decide)),h.sbh,h.sq,k4 (.inl (by decide)),h.dbh,k5 (by decide),k6 (by decide) (.inl (by decide)),k7 (by decide),fin (fun h=>h.kind hg hc (by decide)) (hl.kind hg hc (by decide)),k9 (by decide),h.ap⟩
theorem MkR.addT (h:MkR base hi w V m vt T) (hg:w.grownBy w' (Value.slice vt.a vt.n vt.c).ownBlock) (s:Sli) {f:Nat->En} (ho:OwnRow flaE base w' (.slice s.a s.n s.c) (T++ [f])):MkR base hi w' V m s (T++ [f]):=by
 cases hob:(Value.slice vt.a vt.n vt.c).ownBlock with
 | none=>
  rw[hob]at hg;have h':=h.grew (grown_none hg);exact⟨h'.hw,h'.bh,h'.fs,h'.sl,h'.slh,h'.sb,h'.sbh,h'.sq,h'.db,h'.dbh,h'.dq,h'.fl,h'.ca,h'.sp,ho,h'.ap⟩
 | some g=>
  rw[hob]at hg;obtain⟨cs,hc⟩:=h.tt.obj hob;obtain⟨k1,k2,k3,k4,k5,k6,k7,k8,k9⟩:=h.kept hg hc;exact⟨nT h.hw hg.size,h.bh,k1 (by decide),k2 (.inl (by decide)),h.slh,k3 (.inl (by decide)),h.sbh,h.sq,k4 (.inl (by decide)),h.dbh,k5 (by decide),k6 (by decide) (.inl (by decide)),k7 (by decide),k8 (by decide) (by decide),ho,h.ap⟩
theorem Keeps.row {α:Type} {E:Elt α} {v:Value} {l:List α} (h:OwnRow E base w v l) (hg:w.grownBy w' v.ownBlock) (hn:∀p,¬Loc hi p E.ty):Keeps hi w w':=by
 cases hob:v.ownBlock with
 | none=>
  rw[hob]at hg;exact Keeps.grew (grown_none hg)
 | some g=>
  rw[hob]at hg;obtain⟨cs,hc⟩:=h.obj hob;exact Keeps.kind hg hc (fun p hl=>absurd hl (hn p))
theorem BoxT.row {α:Type} {E:Elt α} {v:Value} {l:List α} {cs:List Value} (h:OwnRow E base w v l) (hg:w.grownBy w' v.ownBlock) (hb:BoxT w b t cs) (ht:t≠E.ty):BoxT w' b t cs:=hb.beside hg fun g e=>h.ne hb ht g e
theorem Grew.row {α:Type} {E:Elt α} {v:Value} {l:List α} (h:OwnRow E w0.heap.size w v l) (hg:w.grownBy w' v.ownBlock) (h0:Grew w0 w):Grew w0 w':=grew_beside h0 hg fun g e=>(h.lt g e).1
end
section
variable{w0 w w':World} {hi b S0:Nat} {vl:Sli} {L:List Int} {V:MaV} {m:Ma} {vt:Sli} {T:List (Nat->En)}
theorem Mk.area (h:Mk w0 hi w b vl L V m vt T) (hs:SpB w0.heap.size S0 w V m) {g:Nat} {cs:List Value} (hg:w.grownBy w' (some g)) (ho:BoxT w g 69 cs) (hb:S0<=g) (hb2:w0.heap.size<=g):Mk w0 hi w' b vl L V m vt T/\SpB w0.heap.size S0 w' V m:=by
 refine⟨⟨grew_grown h.gr hg hb2,h.hb,h.box.beside hg (fun k e=>?_),h.lr,h.lc,h.lb,h.rows.area hs hg ho hb⟩,hs.kind hg ho (by decide) (.inr hb)⟩
 cases e;intro e;subst e;have h1:w.heap[b]? =_:=h.box;rw[show w.heap[b]? =_ from ho]at h1
 cases h1
theorem SpB.pick (hs:SpB w0.heap.size S0 w V m) (h:Mk w0 hi w b vl L V m vt T) (hg:w.grownBy w' (some b)):SpB w0.heap.size S0 w' V m:=hs.kind hg h.box (by decide) (.inl (by decide))
theorem OwnRow.pick {v:Value} (hs:OwnRow arE w0.heap.size w v l) (h:Mk w0 hi w b vl L V m vt T) (hg:w.grownBy w' (some b)):OwnRow arE w0.heap.size w' v l:=hs.kind hg h.box (by decide)
end
theorem loc_area {p:Nat}:Loc hi p 69:=⟨by decide,by decide,by decide,by decide,by decide,by decide,by decide,by decide,fun h=>absurd h (by decide)⟩
theorem set_grown (w:World) (g i:Nat) (u:Value):w.grownBy (w.setCell ⟨g,i,none⟩ u) (some g):=⟨rfl,rfl,rfl,by simp[World.setCell],fun k _ hk=>Below.heap_setCell _ _ _ _ (fun e=>hk (by rw[e]))⟩
def Spc (w0:World) (hi b:Nat) (w:World) (L:List Int) (m:Ma) (T:List (Nat->En)) (w':World):Prop:=∃vl' L' V' m' vt' T' l,Mk w0 hi w' b vl' L' V' m' vt' T'/\Less L L'/\Keeps hi w w'/\BInv m' T'/\(m'.sp=m.sp++ [⟨true,l,none8⟩]/\m'.fl=m.fl/\m'.hand=m.hand/\m'.fs.length=m.fs.length)/\(FilesIn m.fl.length l/\areaTo l 64<=12)/\(L=[]->m'={ m with sp:=m.sp++ [⟨true,[],none8⟩] }/\T'=T++ [fun _=>en0])
theorem updF_self (f:Nat->En) (n:Nat):updF f n (f n)=f:=by
 funext j
 unfold updF
 split
 ·rename_i e
  rw[e]
 rfl
theorem set_self {α:Type} {l:List α} {x:α} (h:l[i]? =some x):l.set i x=l:=by
 apply List.ext_getElem?
 intro j
 by_cases e:j=i
 ·subst e;rw[sF (gS.1 h).1,h]
 rw[sN (fun h=>e h.symm)]
section
variable{m:Ma} {T:List (Nat->En)} {s0 s1:Sp} {fA fB:Nat->En} {n:Nat}
theorem BInv.entry0 (h:BInv m T) (hs0:m.sp[0]? =some s0) (hA:T[0]? =some fA) (hn:n<64):fA n=en0\/(∃(k:Nat) (fr:Fr),(fA n).kind=1/\(fA n).n=(k:Int)/\m.fs[k]? =some fr)\/(∃(k:Nat) (z:Int),(fA n).kind=2/\(fA n).n=(k:Int)/\m.sl[k]? =some z/\0<=z/\z<=1000):=by
 rcases h.ent 0 s0 fA hs0 hA n hn with e|e
 ·exact .inl e
 by_cases hk:(fA n).kind=2
 ·refine .inr (.inr ?_);obtain⟨h1,h2,h3⟩:=e;obtain⟨a1,a2,a3⟩:=enW_zero h1;unfold entE at h3
  by_cases h0:(onAt s0.ars n).is=false
  ·rw[if_pos h0]at h3;cases h3
  rw[if_neg h0,if_pos hk]at h3
  split at h3
  ·cases h3
  rename_i hno
  have hlt:(fA n).n.toNat<m.sl.length:=by
   have:¬(m.sl.length:Int)<=(fA n).n:=fun e=>hno (.inl e)
   omega
  have hz:=h.cs _ _ (gE hlt);have hh:=hold_le T 2 ((fA n).n.toNat:Int);have h5:=h.tl;have h6:=h.spl;exact⟨(fA n).n.toNat,m.sl[(fA n).n.toNat],hk,by omega,gE hlt,by omega,by omega⟩
 obtain⟨p1,p2,p3,_⟩:=entE_present e hk;have hlt:(fA n).n.toNat<m.fs.length:=by omega
 exact .inr (.inl ⟨(fA n).n.toNat,m.fs[(fA n).n.toNat],p1,by omega,gE hlt⟩)
theorem BInv.forkP (h:BInv m T) (hs0:m.sp[0]? =some s0) (hs1:m.sp[1]? =some s1) (har:s1.ars=s0.ars) (hA:T[0]? =some fA) (hB:T[1]? =some fB) (hn:n<64) (hBn:fB n=en0) {k:Nat} {fr:Fr} (hk:m.fs[k]? =some fr) (hkind:(fA n).kind=1) (hen:(fA n).n=(k:Int)) {e':En} (he:e'=if(onAt s0.ars n).sh=true then fA n else{ fA n with wr:=false }):
  BInv { m with fs:=m.fs.set k { fr with r:=fr.r+1 } } ((T.set 0 (updF fA n e')).set 1 (updF fB n e')):=by
 have hne:fA n≠en0:=fun e=>by rw[e]at hkind;cases hkind
 have hok:EntOk m (onAt s0.ars n) (fA n):=(h.ent 0 s0 fA hs0 hA n hn).resolve_left hne
 by_cases hsh:(onAt s0.ars n).sh=true
 ·rw[if_pos hsh]at he;subst he;rw[updF_self,set_self hA];refine h.share hk hA rfl hB (by decide) hn hBn hs1 (by rw[har];exact hok) hkind hen (fun _ hf=>?_)
  obtain⟨h1,h2,h3⟩:=hok;unfold entE at h3
  by_cases h0:(onAt s0.ars n).is=false
  ·rw[if_pos h0]at h3;cases h3
  rw[if_neg h0,if_neg (by rw[hkind];decide)]at h3
  split at h3
  ·cases h3
  split at h3
  ·cases h3
  rename_i hno
  have hfr:frAt m (fA n).n=fr:=by rw[hen];exact frAt_of hk
  have:0<=(onAt s0.ars n).file/\(frAt m (fA n).n).f=(onAt s0.ars n).file/\(frAt m (fA n).n).x=(onAt s0.ars n).page:=Classical.byContradiction fun e=>hno (.inr (.inl ⟨hsh,e⟩))
  rw[hfr]at this;omega
 rw[if_neg hsh]at he;subst he;have g:=h.guard hA hn hne;have hA':(T.set 0 (updF fA n { fA n with wr:=false }))[0]? =some (updF fA n { fA n with wr:=false }):=sF (gS.1 hA).1;have hB':(T.set 0 (updF fA n { fA n with wr:=false }))[1]? =some fB:=by rw[sN (by decide)];exact hB
 have hv:updF fA n { fA n with wr:=false } n={ fA n with wr:=false }:=by unfold updF;rw[if_pos rfl]
 refine g.share hk hA' hv hB' (by decide) hn hBn hs1 ?_ hkind hen (fun e=>by cases e)
 rw[har];have:=g.ent 0 s0 _ hs0 hA' n hn;rw[hv]at this;refine this.resolve_left fun e=>?_
 have:({ fA n with wr:=false }:En).kind=en0.kind:=by rw[e]
 rw[show({ fA n with wr:=false }:En).kind=(fA n).kind from rfl,hkind]at this
 cases this
theorem BInv.forkS (h:BInv m T) (hs0:m.sp[0]? =some s0) (hs1:m.sp[1]? =some s1) (har:s1.ars=s0.ars) (hA:T[0]? =some fA) (hB:T[1]? =some fB) (hn:n<64) (hBn:fB n=en0) {k:Nat} (hk:m.sl[k]? =some z) (hkind:(fA n).kind=2) (hen:(fA n).n=(k:Int)):
  BInv { m with sl:=m.sl.set k (z+1) } ((T.set 0 (updF fA n (fA n))).set 1 (updF fB n (fA n))):=by
 have hne:fA n≠en0:=fun e=>by rw[e]at hkind;cases hkind
 rw[updF_self,set_self hA];exact h.shareS hk hB hn hBn hs1 (by rw[har];exact(h.ent 0 s0 fA hs0 hA n hn).resolve_left hne) hkind hen
theorem fork_none (hA:T[0]? =some fA) (hB:T[1]? =some fB) (hAn:fA n=en0) (hBn:fB n=en0):(T.set 0 (updF fA n en0)).set 1 (updF fB n en0)=T:=by
 have h1:updF fA n en0=fA:=by
  have:=updF_self fA n;rwa [hAn]at this
 have h2:updF fB n en0=fB:=by
  have:=updF_self fB n;rwa [hBn]at this
 rw[h1,h2,set_self hA,set_self hB]
end
section
variable{α:Type} {E:Elt α}
theorem run_store_part {w:World} {a:Act} (p x:Operand) (t:TypeId) (ho:o.op= .store t p x) (base:Nat) (v:Value) (l:List α) (hown:OwnRow E base w v l)
  (g i j:Nat) (hg:v.ownBlock=some g) (e y:α) (hi:l[i]? =some e) (cs:List Value) (hk:(Tryz.prog.info? t).map (·.size)=some cs.length) (hy:E.enc y=splice (E.enc e) j cs) (hj:j+cs.length<=E.k) (h1:∀u∈cs,u.oneCell'=true)
  (ad:Addr) (hp:a.eval p= .pointer (some ad)) (had:ad=⟨g,i*E.k+j,none⟩) (vx:Value) (hx:a.eval x=vx) (hvx:vx.cells=cs.toArray):
  ∃w',(execOp a.eval o).run prog w= .ok .skip w'/\OwnRow E base w' v (l.set i y)/\w.grownBy w' (some g)/\w'.heap.size=w.heap.size:=by
 subst had;have hil:i<l.length:=(gS.1 hi).1;have hfit:i*E.k+j+cs.length<=l.length*E.k:=by
  have:(i+1)*E.k<=l.length*E.k:=Nat.mul_le_mul_right _ hil;rw[Nat.add_mul]at this;omega
 obtain⟨w',hr,h2,h3,h4⟩:=run_storeCells_row (P:=prog) hown.1 hg (i*E.k+j) cs hfit h1;have hsz:(Go.sizeOf t).run prog w= .ok cs.length w:=by
  cases hq:Tryz.prog.info? t with
  | none=>simp[hq]at hk
  | some i=>simp[hq]at hk;simp[Go.sizeOf,typeInfo,hq,hk]
 have hall:(Instr.storeAt t (.pointer (some ⟨g,i*E.k+j,none⟩)) vx).run prog w= .ok () w':=by
  simp[Instr.storeAt,Instr.sureAddr,storeVar,Sem.run_bind,hsz,Result.andThen,hvx,hr]
 rw[splice_part j cs hy hj l i hi]at h2;refine⟨w',?_,⟨by rw[List.length_set];exact h2,by rw[List.length_set];exact hown.2⟩,h3,h4⟩
 simp only[execOp,ho,hp,hx,Sem.run_bind,hall,Result.andThen,Sem.run_pure]
theorem does_skip {P:Program} {a:Act} {w:World} {K:Value->World->Prop} (hr:(execOp a.eval o).run P w= .ok .skip w') (h:K undef w'):Does P o a w K:=by
 unfold Does;rw[hr];exact h
end
theorem loc_entry {p:Nat}:Loc hi p 67:=⟨by decide,by decide,by decide,by decide,by decide,by decide,by decide,by decide,fun h=>absurd h (by decide)⟩
theorem loc_ones {p:Nat}:Loc hi p 97:=⟨by decide,by decide,by decide,by decide,by decide,by decide,by decide,by decide,fun h=>absurd h (by decide)⟩
theorem does_storeT {a:Act} {w:World} {K:Value->World->Prop} (ty:TypeId) (p x:Operand) (ho:o.op= .store ty p x) (b off:Nat) (hp:a.eval p= .pointer (some ⟨b,off,none⟩)) (vx:Value) (hx:a.eval x=vx) (vs:List Value) (hvx:vx.cells=vs.toArray)
  {t:TypeId} {cs:List Value} (hb:BoxT w b t cs) (hl:off+vs.length<=cs.length) (hi:(Tryz.prog.info? ty).map (·.size)=some vs.length) (h1:∀v∈vs,v.oneCell'=true)
  (h:∀w',BoxT w' b t (splice cs off vs)->w.grownBy w' (some b)->w'.heap.size=w.heap.size->K undef w'):Does prog o a w K:=by
 have hag:(Value.agg vs.toArray).cells=vs.toArray:=by
  unfold Value.cells;simp
 have hr:(execOp a.eval o).run prog w= .ok .skip (w.setCells b off vs):=by
  have h2:=run_storeAt_mid (P:=prog) w b off ty vs.toArray (fun j hj=>by
   have:=hb.box.there (off+j) (by simp at hj;omega)
   rw[zA]at this;exact this) (by simpa using hi) (all_oneCell_toArray h1)
  have h3:(Instr.storeAt ty (.pointer (some ⟨b,off,none⟩)) vx).run prog w=(Instr.storeAt ty (.pointer (some ⟨b,off,none⟩)) (.agg vs.toArray)).run prog w:=by
   simp only[Instr.storeAt,Instr.sureAddr,storeVar,hvx,hag]
  simp only[execOp,ho,hp,hx,Sem.run_bind,h3,h2,rA,Sem.run_pure]
 exact does_skip hr (h _ (hb.part (ds:=vs) (o:=off) hl) (setCells_grown b vs off w).1 (setCells_grown b vs off w).2)
theorem wp_storeT {rest:List Oper} {a:Act} {w:World} (hgd:o.guard=none) (ty:TypeId) (p x:Operand) (ho:o.op= .store ty p x) (b off:Nat) (hp:a.eval p= .pointer (some ⟨b,off,none⟩)) (vx:Value) (hx:a.eval x=vx) (vs:List Value) (hvx:vx.cells=vs.toArray)
  {t:TypeId} {cs:List Value} (hb:BoxT w b t cs) (hl:off+vs.length<=cs.length) (hi:(Tryz.prog.info? ty).map (·.size)=some vs.length) (h1:∀v∈vs,v.oneCell'=true)
  (h:∀w',BoxT w' b t (splice cs off vs)->w.grownBy w' (some b)->w'.heap.size=w.heap.size->wpList prog ops Q rest (a.put o.dst undef) w'):wpList prog ops Q (o :: rest) a w:=
 wpList_plain hgd fun _ hK=>(does_storeT (K:=fun v w'=>v=undef/\wpList prog ops Q rest (a.put o.dst undef) w') ty p x ho b off hp vx hx vs hvx hb hl hi h1 (fun w' k1 k2 k3=>⟨rfl,h w' k1 k2 k3⟩)).wp (fun v w' hk=>hK _ _ (by rw[hk.1];exact hk.2))
structure Wr (base:Nat) (w w':World):Prop where
 os:w'.os=w.os
 tape:w'.tape=w.tape
 output:w'.output=w.output
 size:w.heap.size<=w'.heap.size
 low:∀k,k<w.heap.size->k<base->w'.heap[k]? =w.heap[k]?
 shape:∀b t cs,BoxT w b t cs->∃cs',BoxT w' b t cs'/\cs'.length=cs.length
 keep:∀b t cs,BoxT w b t cs->t=65\/t=71\/t=40->BoxT w' b t cs
theorem Wr.refl (base:Nat) (w:World):Wr base w w:=⟨rfl,rfl,rfl,nR _,fun _ _ _=>rfl,fun _ _ cs h=>⟨cs,h,rfl⟩,fun _ _ _ h _=>h⟩
theorem Wr.trans {base:Nat} {a b c:World} (h:Wr base a b) (k:Wr base b c):Wr base a c:=by
 refine⟨k.os.trans h.os,k.tape.trans h.tape,k.output.trans h.output,nT h.size k.size,fun i hi hb=>(k.low i (Nat.lt_of_lt_of_le hi h.size) hb).trans (h.low i hi hb),fun i t cs hb=>?_,fun i t cs hb ht=>k.keep i t cs (h.keep i t cs hb ht) ht⟩
 obtain⟨cs1,h1,h2⟩:=h.shape i t cs hb;obtain⟨cs2,k1,k2⟩:=k.shape i t cs1 h1;exact⟨cs2,k1,k2.trans h2⟩
theorem Wr.old {base:Nat} {w a b:World} (h:Wr base a b) (g:Grew w a) (hb:w.heap.size<=base):Grew w b:=⟨h.os.trans (Below.os g),h.tape.trans (Below.tape g),h.output.trans (Below.output g),nT (bS g) h.size,fun i hi=>(h.low i (Nat.lt_of_lt_of_le hi (bS g)) (Nat.lt_of_lt_of_le hi hb)).trans (Below.block g i hi)⟩
theorem Wr.set {base g:Nat} {w:World} {cs cs':List Value} (hb:BoxT w g t cs) (hb':BoxT w' g t cs') (hl:cs'.length=cs.length) (hg:w.grownBy w' (some g)) (hlo:base<=g) (ht:¬(t=65\/t=71\/t=40)):Wr base w w':=by
 refine⟨hg.os,hg.tape,hg.output,hg.size,fun k hk hb=>hg.block k hk (fun e=>by cases e;omega),fun b t' cs1 h1=>?_,fun b t' cs1 h1 h2=>?_⟩
 ·by_cases e:b=g
  ·subst e;have h3:w.heap[b]? =_:=hb;rw[show w.heap[b]? =_ from h1]at h3
   simp only[Option.some.injEq,Obj.cells.injEq]at h3;obtain⟨h4,h5,_⟩:=h3;subst h5;refine⟨cs',hb',?_⟩;have:cs1=cs:=by simpa using h4
   rw[hl,this]
  exact⟨cs1,h1.beside hg (fun k e2=>by cases e2;exact e),rfl⟩
 by_cases e:b=g
 ·subst e;have h3:w.heap[b]? =_:=hb;rw[show w.heap[b]? =_ from h1]at h3
  simp only[Option.some.injEq,Obj.cells.injEq]at h3;obtain⟨_,h5,_⟩:=h3;subst h5;exact absurd h2 ht
 exact h1.beside hg (fun k e2=>by cases e2;exact e)
theorem splice_len {cs:List Value} {o:Nat} (h:o+vs.length<=cs.length):(splice cs o vs).length=cs.length:=by
 unfold splice;simp only[lA,List.length_take,List.length_drop];omega
theorem wp_storeW {rest:List Oper} {a:Act} {w:World} (base:Nat) (hgd:o.guard=none) (ty:TypeId) (p x:Operand) (ho:o.op= .store ty p x) (b off:Nat) (hp:a.eval p= .pointer (some ⟨b,off,none⟩)) (vx:Value) (hx:a.eval x=vx) (vs:List Value) (hvx:vx.cells=vs.toArray)
  {t:TypeId} {cs:List Value} (hb:BoxT w b t cs) (hl:off+vs.length<=cs.length) (hi:(Tryz.prog.info? ty).map (·.size)=some vs.length) (h1:∀v∈vs,v.oneCell'=true) (hlo:base<=b) (ht:¬(t=65\/t=71\/t=40))
  (h:∀w',Wr base w w'->wpList prog ops Q rest (a.put o.dst undef) w'):wpList prog ops Q (o :: rest) a w:=
 wp_storeT hgd ty p x ho b off hp vx hx vs hvx hb hl hi h1 (fun w' b1 g1 _=>h w' (Wr.set hb b1 (splice_len hl) g1 hlo ht))
def Room (base:Nat) (w:World) (v:Sli) (t:TypeId) (k:Nat):Prop:=v.n=0\/∃g cs,v.a=some ⟨g,0,none⟩/\BoxT w g t cs/\v.n*k<=cs.length/\base<=g/\v.n<=maxLen
theorem Room.wr {base:Nat} {w:World} {v:Sli} {k:Nat} (h:Room base w v t k) (hw:Wr base w w'):Room base w' v t k:=by
 rcases h with h|⟨g,cs,h1,h2,h3,h4,h5⟩
 ·exact .inl h
 obtain⟨cs',k1,k2⟩:=hw.shape g t cs h2;exact .inr ⟨g,cs',h1,k1,by rw[k2];exact h3,h4,h5⟩
theorem Room.short {base:Nat} {w:World} {v:Sli} {k:Nat} (h:Room base w v t k):v.n<=maxLen:=by
 rcases h with h|⟨_,_,_,_,_,_,h⟩
 ·rw[h];exact nZ _
 exact h
theorem ownsRow_room {size n:Nat} {w:World} {s:Sli} (h:w.ownsRow b e size (.slice s.a s.n s.c) n xs) (base:Nat) (hb:base<=b):Room base w s e size:=by
 rcases h.2 with⟨h1,h2⟩|⟨g,cap,cur,h1,h2,h3,h4⟩
 ·left;simp only[vJ]at h1;omega
 right;simp only[vJ]at h1;obtain⟨h1,hn,_⟩:=h1;obtain⟨h5,h6,h7,_⟩:=h4;refine⟨g,cur.toList,h1,by unfold BoxT;rw[h3],?_,by omega,by omega⟩
 rw[hn,Array.length_toList,h7];exact Nat.mul_le_mul_right _ h5
theorem OwnRow.wr {α:Type} {E:Elt α} {base:Nat} {w:World} {v:Value} {l:List α} (h:OwnRow E b w v l) (hw:Wr base w w') (ht:E.ty=65\/E.ty=71\/E.ty=40):OwnRow E b w' v l:=by
 refine⟨⟨h.1.1,?_⟩,h.2⟩
 rcases h.1.2 with h1|⟨g,cap,cur,rfl,h2,h3,h4⟩
 ·exact .inl h1
 refine .inr ⟨g,cap,cur,rfl,h2,?_,h4⟩;have h5:BoxT w g E.ty cur.toList:=by unfold BoxT;rw[h3]
 have h6:w'.heap[g]? =_:=hw.keep g _ _ h5 ht;rw[h6]
structure OwnW (base:Nat) (w:World) (V:MaV):Prop where
 f:Room base w V.f 59 13
 s:Room base w V.s 3 1
 sb:Room base w V.sb 50 8
 db:Room base w V.db 50 8
 sp:∃xs:List SpV,OwnRow spcE base w (.slice V.sp.a V.sp.n V.sp.c) xs/\∀(i:Nat) x,xs[i]? =some x->Room base w x.ar 69 7/\∀(j:Nat) t,[x.t0,x.t1,x.t2,x.t3,x.t4,x.t5,x.t6,x.t7][j]? =some t->Room base w t 67 3
 fl:∃ys:List FlV,OwnRow fvE base w (.slice V.fl.a V.fl.n V.fl.c) ys/\∀(i:Nat) y,ys[i]? =some y->∃t:Sli,y.v= .slice t.a t.n t.c/\Room base w t 3 1
theorem OwnW.wr {base:Nat} {w:World} (h:OwnW base w V) (k:Wr base w w'):OwnW base w' V:=by
 obtain⟨xs,s1,s2⟩:=h.sp;obtain⟨ys,f1,f2⟩:=h.fl;refine⟨h.f.wr k,h.s.wr k,h.sb.wr k,h.db.wr k,⟨xs,s1.wr k (.inl rfl),fun i x hx=>⟨(s2 i x hx).1.wr k,fun j t ht=>((s2 i x hx).2 j t ht).wr k⟩⟩,⟨ys,f1.wr k (.inr (.inl rfl)),fun i y hy=>?_⟩⟩
 obtain⟨t,h1,h2⟩:=f2 i y hy;exact⟨t,h1,h2.wr k⟩
theorem OwnM.w {base:Nat} {w:World} (h:OwnM base w V m):OwnW base w V:=by
 obtain⟨xs,B,s1,s2,s3,s4,s5⟩:=h.sp;obtain⟨lo,⟨ys,f1,f2,f3,f4⟩,l1,l2⟩:=h.fl;refine⟨ownsRow_room h.fs.1 base (nR _),ownsRow_room h.sl.1 base (nR _),ownsRow_room h.sb.1 base (nR _),ownsRow_room h.db.1 base (nR _),⟨xs,s1,fun i x hx=>?_⟩,⟨ys,f1.base l1,fun i y hy=>?_⟩⟩
 ·obtain⟨s,hs⟩:∃s,m.sp[i]? =some s:=⟨_,gE (by rw[<-s2];exact(gS.1 hx).1)⟩
  have o:=s5 i x s hx hs;have hbi:base<=B i:=nT s3 (mono_le s4 (nZ i));refine⟨ownsRow_room (s:=x.ar) o.ar.1 base hbi,fun j t ht=>?_⟩
  have hj:x.tab[j]? =some t.v:=by
   have:x.tab=[x.t0,x.t1,x.t2,x.t3,x.t4,x.t5,x.t6,x.t7].map Sli.v:=rfl;rw[this,List.getElem?_map,ht];rfl
  obtain⟨y,hy⟩:∃y,s.tb[j]? =some y:=⟨_,gE (by rw[o.tb.tlen,<-o.tb.len];exact(gS.1 hj).1)⟩
  exact ownsRow_room (s:=t) (o.tb.row j t.v y hj hy).1 base hbi
 obtain⟨f,hf⟩:∃f,m.fl[i]? =some f:=⟨_,gE (by rw[<-f2];exact(gS.1 hy).1)⟩
 have o:=(f3 i y f hy hf).2;obtain⟨a,c,he⟩:=o.form;refine⟨⟨a,f.bl.length,c⟩,he,?_⟩;have o':=o.1;rw[he]at o';exact ownsRow_room (s:=⟨a,f.bl.length,c⟩) o' base l1
theorem nil8_at {k:Nat} (h:k<8):nil8[k]? =some (.slice none 0 0):=by
 match k,h with
 | 0,_ | 1,_ | 2,_ | 3,_ | 4,_ | 5,_ | 6,_ | 7,_=>rfl
theorem sameTb0_any (vs:List Value) (t:List (List En)) (w:World) (hv:TabAt w vs t):
  Calls prog 50 #[.agg vs.toArray,.agg #[.slice none 0 0,.slice none 0 0,.slice none 0 0,.slice none 0 0,.slice none 0 0,.slice none 0 0,.slice none 0 0,.slice none 0 0]] w fun e w'=>e= .returned (.bool (t.all (·.isEmpty)))/\Grew w w':=by
 have HV:Hid (TabAt w vs t):=hv;have HTL:Hid (t.length=8):=hv.tlen;clear hv;obtain⟨ANS,HANS⟩:∃ANS,Hid (t.all (·.isEmpty)=ANS):=⟨_,rfl⟩;rw[HANS.out];obtain⟨W0,hW0⟩:∃W0,(w.alloc (.cells vs.toArray 63)).alloc (.cells nil8.toArray 63)=W0:=⟨_,rfl⟩;have HG0:=gD2 hW0
 have X0:=x2a hW0
 have Y0:=x2b hW0
 have HW0:Hid (_=W0):=hW0;clear hW0
 go_enter func50,ntmps50
 go_upto_region 1 with fail;have hw:(w.alloc (.cells vs.toArray 63)).alloc (.cells #[.slice none 0 0,.slice none 0 0,.slice none 0 0,.slice none 0 0,.slice none 0 0,.slice none 0 0,.slice none 0 0,.slice none 0 0] 63)=W0:=HW0.out;rw[hw];clear hw;go_wp2
 go_loopg [7] 8 (fun gg s7 wr=>∃kk:Nat,kk<=8/\8 - kk<=gg/\s7= .int .i64 kk/\Hid (Grew W0 wr)/\Hid (∀(j:Nat) h,j<kk->t[j]? =some h->h=[]))
 case atStart=>exact⟨0,nZ _,by omega,rfl,Grew.refl _,fun j h hj=>absurd hj (nL _)⟩
 obtain⟨kk,hkk,hg,rfl,BW,OW⟩:=hrel
 by_cases hlt:kk<8
 ·have hltz:(kk:Int)<8:=by omega
  obtain⟨xa,xc,q,hq,hvk,hr⟩:=HV.out.half hlt;have hqbig:=hr.short;have HQ:Hid (t[kk]? =some q):=hq;obtain⟨mq,HMQ⟩:∃mq,Hid (q.length=mq):=⟨_,rfl⟩;rw[HMQ.out]at hvk hqbig;have HVK:Hid (vs[kk]? =some (.slice xa mq xc)):=hvk;clear hr hq hvk;have x0:=(X0.out.grew BW.out).c kk HVK.out;have y0:=(Y0.out.grew BW.out).c kk (nil8_at hlt)
  by_cases h0:mq=0
  ·subst h0;have OW':Hid (∀(j:Nat) h,j<kk+1->t[j]? =some h->h=[]):=dD<|fun j h hj hh=>by
    by_cases e:j=kk
    ·subst e;rw[HQ.out]at hh;cases hh;exact eN HMQ.out
    exact OW.out j h (by omega) hh
   go_wp2;go_quiet (fail);obtain⟨W2,hW2⟩:∃W2,wr.drewN nq=W2:=⟨_,rfl⟩;have G2:Hid (Grew W0 W2):=dD<|by rw[<-hW2];exact BW.out.trans (show Below _ _ _ from bD (bR _ _) _)
   rw[hW2];clear hW2 x0 y0;have x0:=(X0.out.grew G2.out).c kk HVK.out;go_wp2
   go_loopg [23] 0 (fun g2 s23 wr2=>s23= .int .i64 0/\Hid (Grew W0 wr2))
   case atStart=>exact⟨rfl,G2.out⟩
   obtain⟨rfl,BW2⟩:=hrel;clear x0;go_wp2
   go_roundg (8 -(kk+1))
   case measure=>omega
   exact⟨kk+1,by omega,by omega,by go_num,BW2.out,OW'.out⟩
  have hne:((mq:Int) != 0)=true:=by simp[h0]
  have HF:Hid (ANS=false):=dD<|by
   rw[<-HANS.out]
   cases e:t.all (·.isEmpty)with
   | false=>rfl
   | true=>
    have:=List.all_eq_true.1 e q (mG HQ.out);have h1:=HMQ.out;rw[List.isEmpty_iff]at this;rw[this]at h1;exact absurd h1.symm h0
  have hnf:(mq != 0)=true:=by simp[h0]
  clear h0;go_wp2;go_quiet (fail);go_wp2;go_ret;exact⟨by rw[HF.out];rfl,HG0.out.trans (BW.out.trans (show Below _ _ _ from bD (bR _ _) _))⟩
 have hltz:¬(kk:Int)<8:=by omega
 have HF:Hid (ANS=true):=dD<|by
  rw[<-HANS.out,List.all_eq_true];intro h hh;obtain⟨j,hj⟩:=List.getElem?_of_mem hh;rw[OW.out j h (by have:=(gS.1 hj).1;have:=HTL.out;omega) hj]
  rfl
 go_wp2;go_ret;exact⟨by rw[HF.out];rfl,HG0.out.trans BW.out⟩
theorem refWrongMem_any (a:Option Addr) (c:Nat) (fs:List Fr) (h:Int) (w:World) (hv:frRowAt w (.slice a fs.length c) fs):
  Calls prog 96 #[.agg #[.slice a fs.length c,.int .i64 h]] w fun e w'=>e= .returned (.int .i64 (memW fs h))/\Grew w w':=by
 have hbig:=hv.short;obtain⟨a',c',heq,hrow⟩:=hv.frs;cases heq;have HR:Hid (FrRows w a fs):=hrow;clear hrow hv;have HM:Hid (memW fs h=if 40<fs.length then 4 else if frsW fs=0 then(if inB h (max fs.length 1)then 0 else 3)else frsW fs):=rfl;obtain⟨n,HN⟩:∃n,Hid (fs.length=n):=⟨_,rfl⟩;rw[HN.out]at hbig HM⊢;obtain⟨W0,hW0⟩:∃W0,w.alloc (.cells #[.slice a n c,.int .i64 h] 27)=W0:=⟨_,rfl⟩;have HG0:=gA hW0
 have X0:=xA hW0
 have HW0:Hid (_=W0):=hW0;clear hW0
 by_cases h40:40<n
 ·have h40z:(40:Int)< (n:Int):=by omega
  go_enter func96,ntmps96
  go_wp2;go_ret;exact⟨by rw[HM.out,if_pos h40];rfl,by rw[HW0.out];exact HG0.out⟩
 have h40z:¬(40:Int)< (n:Int):=by omega
 rw[if_neg h40]at HM
 go_enter func96,ntmps96
 go_wp2;rw[HW0.out]
 go_loopg [4,5,13] n (fun gg _ _ s13 wr=>∃kk:Nat,kk<=n/\n - kk<=gg/\s13= .int .i64 kk/\Hid (Grew W0 wr)/\Hid (frsW (fs.drop kk)=frsW fs))
 case atStart=>exact⟨0,nZ _,by omega,rfl,Grew.refl _,rfl⟩
 obtain⟨kk,hkk,hg,rfl,BW,A⟩:=hrel
 by_cases hlt:kk<n
 ·have hltz:(kk:Int)< (n:Int):=by omega
  obtain⟨q,HQ⟩:∃q,Hid (fs[kk]? =some q):=⟨_,gE (by rw[HN.out];exact hlt)⟩
  obtain⟨ad,rfl,hl⟩:=HR.out kk q HQ.out;obtain⟨d0,d1,d2,d3,d4,d5,d6,d7,d8,d9,d10,d11,d12⟩:=hl wr (HG0.out.trans BW.out);have hcall:∀W,Calls prog 144 #[.agg #[.int .u8 q.p.b0,.int .u8 q.p.b1,.int .u8 q.p.b2,.int .u8 q.p.b3,.int .u8 q.p.b4,.int .u8 q.p.b5,.int .u8 q.p.b6,.int .u8 q.p.b7,.int .i64 q.r,.bool q.u,.bool q.d,.int .i64 q.f,.int .i64 q.x]] W fun e w'=>e= .returned (.int .i64 (frW q))/\Grew W w':=fun W=>refWrongFrame_any q W
  have HST:Hid (frsW (fs.drop kk)=if frW q=0 then frsW (fs.drop (kk+1))else frW q):=dD<|by
   obtain⟨hlt',rfl⟩:=gS.1 HQ.out;rw[List.drop_eq_getElem_cons hlt'];rfl
  clear hl
  generalize frW q=z at hcall HST
  by_cases hz:z=0
  ·have HA:Hid (frsW (fs.drop (kk+1))=frsW fs):=dD<|by rw[<-A.out,HST.out,if_pos hz]
   subst hz
   go_wp2_with (go_at_call 144;refine(hcall _).mono ?_;rintro e w' ⟨rfl,hb'⟩)
   go_roundg (n -(kk+1))
   case measure=>omega
   exact⟨kk+1,by omega,by omega,by go_num,(BW.out.trans (grew_alloc _ _)).trans hb',HA.out⟩
  have hzb:(z != 0)=true:=by simpa using hz
  have HF:Hid (memW fs h=z):=dD<|by
   have h1:=A.out;rw[HST.out,if_neg hz]at h1;rw[HM.out,<-h1,if_neg hz]
  skip
  go_wp2_with (go_at_call 144;refine(hcall _).mono ?_;rintro e w' ⟨rfl,hb'⟩)
  go_ret;exact⟨by rw[HF.out];rfl,((HG0.out.trans BW.out).trans (grew_alloc _ _)).trans hb'⟩
 have hltz:¬(kk:Int)< (n:Int):=by omega
 have:kk=n:=by omega
 subst this;have e0:=(X0.out.grew BW.out).c 0 rfl;have e1:=(X0.out.grew BW.out).c 1 rfl;have hz:frsW fs=0:=by rw[<-A.out,List.drop_of_length_le (by rw[HN.out];exact nR _)];rfl
 have HM':Hid (memW fs h=if inB h (max kk 1)then 0 else 3):=dD<|by rw[HM.out,if_pos hz]
 clear hz
 by_cases hh0:h=0
 ·subst hh0;rw[show inB 0 (max kk 1)=true from by simp[inB];omega,if_pos rfl]at HM'
  go_wp2;go_ret;exact⟨by rw[HM'.out];rfl,HG0.out.trans BW.out⟩
 have hh0b:(h != 0)=true:=by simp[hh0]
 by_cases hneg:h<0
 ·rw[show inB h (max kk 1)=false from by simp[inB];omega,if_neg (by decide)]at HM'
  go_wp2;go_ret;exact⟨by rw[HM'.out];rfl,HG0.out.trans BW.out⟩
 by_cases hge:(kk:Int)<=h
 ·rw[show inB h (max kk 1)=false from by simp[inB];omega,if_neg (by decide)]at HM'
  go_wp2;go_ret;exact⟨by rw[HM'.out];rfl,HG0.out.trans BW.out⟩
 rw[show inB h (max kk 1)=true from by simp[inB];omega,if_pos rfl]at HM'
 go_wp2;go_ret;exact⟨by rw[HM'.out];rfl,HG0.out.trans BW.out⟩
theorem refWrongS_any (a:Option Addr) (c:Nat) (s:List Int) (w:World) (hv:RowAt slE w (.slice a s.length c) s):
  Calls prog 97 #[.slice a s.length c] w fun e w'=>e= .returned (.int .i64 (slW s))/\Grew w w':=by
 have HM:Hid (slW s=if 60<s.length then 4 else if s.any badS then 3 else 0):=rfl;have hbig:=hv.short;obtain⟨a',c',heq,hrow⟩:=hv.sls;cases heq;have HR:Hid (SlRows w a s):=hrow;clear hrow hv;obtain⟨n,HN⟩:∃n,Hid (s.length=n):=⟨_,rfl⟩;rw[HN.out]at HM hbig⊢
 by_cases h60:60<n
 ·have h60z:(60:Int)< (n:Int):=by omega
  have HF:Hid (slW s=4):=dD<|by rw[HM.out,if_pos h60]
  skip
  go_enter func97,ntmps97
  go_wp2;go_ret;exact⟨by rw[HF.out];rfl,Grew.refl _⟩
 have h60z:¬(60:Int)< (n:Int):=by omega
 rw[if_neg h60]at HM
 go_enter func97,ntmps97
 go_wp2
 go_loopg [4,10] n (fun gg _ s8 wr=>∃kk:Nat,kk<=n/\n - kk<=gg/\s8= .int .i64 kk/\Hid (Grew w wr)/\Hid (∀j q,j<kk->s[j]? =some q->badS q=false))
 case atStart=>exact⟨0,nZ _,by omega,rfl,Grew.refl w,fun j q hj=>absurd hj (nL _)⟩
 obtain⟨kk,hkk,hg,rfl,BW,A⟩:=hrel
 by_cases hlt:kk<n
 ·have hltz:(kk:Int)< (n:Int):=by omega
  obtain⟨q,HQ⟩:∃q,Hid (s[kk]? =some q):=⟨_,gE (by rw[HN.out];exact hlt)⟩
  obtain⟨ad,rfl,hl⟩:=HR.out kk q HQ.out;have d0:=hl wr BW.out;clear hl
  by_cases hq:badS q=true
  ·have HF:Hid (slW s=3):=dD<|by rw[HM.out,any_at HQ.out hq];rfl
   skip
   by_cases h0:q<0
   ·clear hq;go_wp2;go_ret;exact⟨by rw[HF.out];rfl,BW.out⟩
   have h1:1000<q:=by simp[badS]at hq;omega
   clear hq;go_wp2;go_ret;exact⟨by rw[HF.out];rfl,BW.out⟩
  have hq':badS q=false:=by simpa using hq
  have HA:Hid (∀(j:Nat) q,j<kk+1->s[j]? =some q->badS q=false):=dD<|fun j q' hj hq''=>by
   by_cases e:j=kk
   ·subst e;rw[HQ.out]at hq'';cases hq'';exact hq'
   exact A.out j q' (by omega) hq''
  have h0:¬q<0:=by intro h;exact hq (by simp[badS,h])
  have h1:¬1000<q:=by intro h;exact hq (by simp[badS,h])
  clear hq hq';go_wp2
  go_roundg (n -(kk+1))
  case measure=>omega
  exact⟨kk+1,by omega,by omega,by go_num,BW.out,HA.out⟩
 have hltz:¬(kk:Int)< (n:Int):=by omega
 have:kk=n:=by omega
 subst this;have HF:Hid (slW s=0):=dD<|by
  rw[HM.out,any_no (fun j q hj=>A.out j q (by rw[<-HN.out];exact(gS.1 hj).1) hj)]
  rfl
 go_wp2;go_ret;exact⟨by rw[HF.out];rfl,BW.out⟩
def bov (b:Bool):List Value:=[.bool b]
theorem Tryz.infoBool:(Tryz.prog.info? 4).map (fun i=>(i.zero,i.size,i.bytes))=some (some (.bool false),1,1):=by kernel_rfl
def boE:Elt Bool where
 enc:=bov
 k:=1
 ty:=4
 st:=134
 bytes:=1
 zv:= .bool false
 zero:=false
 len:=fun _=>rfl
 one:=fun a u hu=>by
  simp only[bov,mC,nM,or_false]at hu;subst hu;rfl
 und:=underlying134
 info:=Tryz.infoBool
 zok:=rfl
 few:=by decide
 pos:=by decide
def markB (n:Nat) (g:List Int):List Bool:=(List.range n).map fun(i:Nat)=>g.contains (i:Int)
theorem markB_at {n:Nat} (g:List Int) (hi:i<n):(markB n g)[i]? =some (g.contains (i:Int)):=by
 unfold markB;rw[List.getElem?_map,List.getElem?_range hi];rfl
theorem markB_len (n:Nat) (g:List Int):(markB n g).length=n:=by simp[markB]
theorem markB_set {n:Nat} (g:List Int) (hi:i<n):(markB n g).set i true=markB n ((i:Int) :: g):=by
 apply List.ext_getElem?
 intro j
 by_cases e:j=i
 ·subst e;rw[sF (by rw[markB_len];exact hi),markB_at _ hi]
  simp
 rw[sN (fun h=>e h.symm)]
 rcases Nat.lt_or_ge j n with hj|hj
 ·rw[markB_at _ hj,markB_at _ hj];have:¬((j:Int)=(i:Int)):=by omega
  simp[this]
 rw[gN (by rw[markB_len];exact hj),gN (by rw[markB_len];exact hj)]
theorem markB_nil (n:Nat):markB n []=List.replicate n false:=by
 unfold markB
 simp[List.map_const']
theorem refWrongSt_any (v:Value) (fs:List Fl) (cnt:Int) (w:World) (hv:FilesAt w v fs):
  Calls prog 99 #[.agg #[v,.int .i64 cnt]] w fun e w'=>e= .returned (.int .i64 (stW fs cnt))/\Grew w w':=by
 obtain⟨a,c,rfl,hbig,hrow⟩:=hv.rows;have HR:Hid (FlRows w a fs):=hrow;have HD:Hid (stW fs cnt=if fs.length<=5/\0<=cnt/\cnt<=80 then flsW cnt [] fs else 4):=rfl;clear hrow hv
 generalize stW fs cnt=Z at HD⊢
 obtain⟨n,HN⟩:∃n,Hid (fs.length=n):=⟨_,rfl⟩;rw[HN.out]at hbig HD⊢;obtain⟨W0,hW0⟩:∃W0,w.alloc (.cells #[.slice a n c,.int .i64 cnt] 36)=W0:=⟨_,rfl⟩;have HG0:=gA hW0
 have X0:=xA hW0
 have HW0:Hid (_=W0):=hW0;clear hW0
 by_cases h5:n<=5
 ·have h5z:¬(5:Int)< (n:Int):=by omega
  have h5d:decide ((5:Int)< (n:Int))=false:=decide_eq_false h5z;have h5e:decide (5<n)=false:=decide_eq_false (by omega)
  by_cases hc:0<=cnt/\cnt<=80
  ·rw[if_pos ⟨h5,hc⟩]at HD;obtain⟨m,rfl⟩:∃m:Nat,cnt=(m:Int):=⟨cnt.toNat,by omega⟩
   have hm80:m<=80:=by omega
   have hc0:¬(m:Int)<0:=by omega
   have hc0d:decide ((m:Int)<0)=false:=decide_eq_false hc0;have hc8:¬(80:Int)< (m:Int):=by omega
   have hc8d:decide ((80:Int)< (m:Int))=false:=decide_eq_false hc8;clear hc
   go_enter func99,ntmps99
   go_upto_region 3 with fail;rw[HW0.out];have x0:=X0.out.c 0 rfl;have x1:=X0.out.c 1 rfl
   go_wp2_with (refine wpList_make_row boE rfl (.tmp 23) rfl m rfl (by show m*1<=_;omega) ?_)
   intro C ow;rw[show List.replicate m boE.zero=markB m []from(markB_nil m).symm]at ow
   show wpList _ _ _ _ _ (W0.alloc (.cells C 4))
   obtain⟨W1,hW1⟩:∃W1,W0.alloc (.cells C 4)=W1:=⟨_,rfl⟩;have ow':OwnRow boE W0.heap.size (W0.alloc (.cells C 4)) (.slice (some ⟨W0.heap.size,0,none⟩) m m) (markB m []):=ow;have G01:=gA hW1
   rw[hW1]at ow'⊢;obtain⟨gh,HGH⟩:∃gh,Hid (W0.heap.size=gh):=⟨_,rfl⟩;have O1:Hid (OwnRow boE W0.heap.size W1 (.slice (some ⟨gh,0,none⟩) m m) (markB m [])):=dD<|by rw[<-HGH.out];exact ow'
   rw[HGH.out];clear hW1 ow ow' x0 x1;have x0:=(X0.out.grew G01.out).c 0 rfl;have x1:=(X0.out.grew G01.out).c 1 rfl;go_wp2
   go_loopg [28] n (fun gg s28 wr=>∃kk:Nat,kk<=n/\n - kk<=gg/\s28= .int .i64 kk/\Hid (Grew W0 wr)/\Hid (OwnRow boE W0.heap.size wr (.slice (some ⟨gh,0,none⟩) m m) (markB m (flsG [] (fs.take kk))))/\Hid (flsW (m:Int) (flsG [] (fs.take kk)) (fs.drop kk)=flsW (m:Int) [] fs))
   case atStart=>exact⟨0,nZ _,by omega,rfl,G01.out,O1.out,rfl⟩
   obtain⟨kk,hkk,hgg,rfl,BW,OW,AW⟩:=hrel;clear x0 x1
   by_cases hlt:kk<n
   ·have hltz:(kk:Int)< (n:Int):=by omega
    obtain⟨q,HQ⟩:∃q,Hid (fs[kk]? =some q):=⟨_,gE (by rw[HN.out];exact hlt)⟩
    obtain⟨ad,rfl,xa,xc,hra,hl⟩:=HR.out kk q HQ.out;obtain⟨d0,d1⟩:=hl wr (HG0.out.trans BW.out);have hnbig:=hra.short;obtain⟨_,_,heq,hnum⟩:=hra.nums;cases heq;have HNUM:Hid (NumRows w xa q.bl):=hnum;obtain⟨nb,HNB⟩:∃nb,Hid (q.bl.length=nb):=⟨_,rfl⟩;rw[HNB.out]at d1 hnbig;clear hl hra hnum;have HST:Hid (flsW (m:Int) (flsG [] (fs.take kk)) (fs.drop kk)=if flW (m:Int) (flsG [] (fs.take kk)) q=0 then flsW (m:Int) (flsG [] (fs.take (kk+1))) (fs.drop (kk+1))else flW (m:Int) (flsG [] (fs.take kk)) q):=show _=_ by
     rw[drop_cons HQ.out,take_snocF HQ.out,flsG_snoc];rfl
    have HGK:Hid (flsG [] (fs.take (kk+1))=blG (flsG [] (fs.take kk)) q.bl):=dD<|by rw[take_snocF HQ.out,flsG_snoc]
    have HFD:Hid (flW (m:Int) (flsG [] (fs.take kk)) q=if 0<=q.size/\q.size<=96 then(if(q.bl.length:Int)=cntP q.size then blW (m:Int) (flsG [] (fs.take kk)) q.bl else 2)else 3):=rfl;obtain⟨g0,HG⟩:∃g0,Hid (flsG [] (fs.take kk)=g0):=⟨_,rfl⟩;rw[HG.out]at HST HGK HFD OW;have bad:∀z:Int,z≠0->flW (m:Int) g0 q=z->Z=z:=fun z hz h=>by
     have h1:=AW.out;rw[HG.out,HST.out,h,if_neg hz]at h1;rw[HD.out,<-h1]
    obtain⟨W2,hW2⟩:∃W2,wr.alloc (.cells #[.int .i64 q.size,.slice xa nb xc] 71)=W2:=⟨_,rfl⟩;have G2:=gT hW2 BW
    have P2:=xA hW2
    have O2:Hid (OwnRow boE W0.heap.size W2 (.slice (some ⟨gh,0,none⟩) m m) (markB m g0)):=dD<|by rw[<-hW2];exact OW.out.grew (grew_alloc _ _)
    have HW2:Hid (_=W2):=hW2;clear hW2
    by_cases hs0:q.size<0
    ·have HF:Hid (Z=3):=bad 3 (by decide) (by rw[HFD.out,if_neg (by omega)])
     have GE:=dD (HG0.out.trans G2.out);clear bad;go_wp2;rw[HW2.out];go_ret;exact⟨by rw[HF.out];rfl,GE.out⟩
    have hs0d:decide (q.size<0)=false:=decide_eq_false hs0
    by_cases hs1:96<q.size
    ·have HF:Hid (Z=3):=bad 3 (by decide) (by rw[HFD.out,if_neg (by omega)])
     have GE:=dD (HG0.out.trans G2.out);clear bad;go_wp2;rw[HW2.out];go_ret;exact⟨by rw[HF.out];rfl,GE.out⟩
    have hs1d:decide (96<q.size)=false:=decide_eq_false hs1;have hcn:=fun W=>refCount_any q.size W (by omega) (by omega)
    by_cases hcp:(nb:Int)=cntP q.size
    ·rw[<-hcp]at hcn;have hnn:((nb:Int) !=(nb:Int))=false:=by simp
     have HFB:Hid (flW (m:Int) g0 q=blW (m:Int) g0 q.bl):=dD<|by rw[HFD.out,if_pos (by omega),HNB.out,if_pos hcp]
     clear hcp;have p0:=P2.out.c 0 rfl;have p1:=P2.out.c 1 rfl;go_upto_region 9 with fail;rw[HW2.out]
     go_quiet (first | (go_at_call 28;exact Calls.quiet_of_same (hcn _)))
     obtain⟨W3,hW3⟩:∃W3,W2.drewN nq=W3:=⟨_,rfl⟩;have G23:Hid (Grew W2 W3):=dD<|by rw[<-hW3];exact(show Below _ _ _ from bD (bR _ _) _)
     rw[hW3];clear hW3 p0 p1 hcn d0 d1;have p0:=(P2.out.grew G23.out).c 0 rfl;have p1:=(P2.out.grew G23.out).c 1 rfl;go_wp2
     go_loopg [50] nb (fun g2 s50 wr2=>∃k2:Nat,k2<=nb/\nb - k2<=g2/\s50= .int .i64 k2/\Hid (Grew W0 wr2)/\Hid (OwnRow boE W0.heap.size wr2 (.slice (some ⟨gh,0,none⟩) m m) (markB m (blG g0 (q.bl.take k2))))/\Hid (blW (m:Int) (blG g0 (q.bl.take k2)) (q.bl.drop k2)=blW (m:Int) g0 q.bl))
     case atStart=>exact⟨0,nZ _,by omega,rfl,G2.out.trans G23.out,O2.out.grew G23.out,rfl⟩
     obtain⟨k2,hk2,hg2,rfl,BW2,OW2,AW2⟩:=hrel;clear p0 p1;have x1:=(X0.out.grew BW2.out).c 1 rfl;have GE:=dD (HG0.out.trans BW2.out)
     by_cases hlt2:k2<nb
     ·have hltz2:(k2:Int)< (nb:Int):=by omega
      obtain⟨b,HB⟩:∃b,Hid (q.bl[k2]? =some b):=⟨_,gE (by rw[HNB.out];exact hlt2)⟩
      obtain⟨ay,rfl,hly⟩:=HNUM.out k2 b HB.out;have d2:=hly _ GE.out;have HS2:Hid (blW (m:Int) (blG g0 (q.bl.take k2)) (q.bl.drop k2)=if giveE (m:Int) (blG g0 (q.bl.take k2)) b=0 then blW (m:Int) (blG g0 (q.bl.take (k2+1))) (q.bl.drop (k2+1))else giveE (m:Int) (blG g0 (q.bl.take k2)) b):=dD<|by
       rw[drop_cons HB.out,take_snoc HB.out,blG_snoc];rfl
      have HGB:Hid (blG g0 (q.bl.take (k2+1))=giveG (blG g0 (q.bl.take k2)) b):=dD<|by rw[take_snoc HB.out,blG_snoc]
      clear hly;obtain⟨g1,HG1⟩:∃g1,Hid (blG g0 (q.bl.take k2)=g1):=⟨_,rfl⟩;rw[HG1.out]at HS2 HGB OW2;have bad2:∀z:Int,z≠0->giveE (m:Int) g1 b=z->Z=z:=fun z hz h=>bad z hz (by
       have h1:=AW2.out;rw[HG1.out,HS2.out,h,if_neg hz]at h1;rw[HFB.out,<-h1])
      have good2:giveE (m:Int) g1 b=0->blW (m:Int) (blG g0 (q.bl.take (k2+1))) (q.bl.drop (k2+1))=blW (m:Int) g0 q.bl:=fun h=>by
       rw[<-AW2.out,HG1.out,HS2.out,if_pos h]
      rcases giveE_cases (m:Int) g1 b with⟨h1,h2,h3⟩|⟨h1,h2,h3⟩|⟨i,h1,h2,h3,h4⟩|⟨i,h1,h2,h3,h4,h5⟩
      ·subst h1;have HA:Hid (blW (m:Int) (blG g0 (q.bl.take (k2+1))) (q.bl.drop (k2+1))=blW (m:Int) g0 q.bl):=good2 h2;have HO:Hid (OwnRow boE W0.heap.size _ (.slice (some ⟨gh,0,none⟩) m m) (markB m (blG g0 (q.bl.take (k2+1))))):=show OwnRow _ _ _ _ _ by rw[HGB.out,h3];exact OW2.out
       have hmz:¬(m:Int)<=-1:=by omega
       have hmd:decide ((m:Int)<=-1)=false:=decide_eq_false hmz;clear bad bad2 good2 h2 h3;go_wp2
       go_roundg (nb -(k2+1))
       case measure=>omega
       exact⟨k2+1,by omega,by omega,by go_num,BW2.out,HO.out,HA.out⟩
      ·have HF:Hid (Z=3):=bad2 3 (by decide) h3
       clear bad bad2 good2 h3
       by_cases hb1:b< -1
       ·go_wp2;go_ret;exact⟨by rw[HF.out];rfl,GE.out⟩
       have hb1d:decide (b< -1)=false:=decide_eq_false hb1;have hb2:(m:Int)<=b:=by omega
       clear h2;go_wp2;go_ret;exact⟨by rw[HF.out];rfl,GE.out⟩
      ·subst h1;have HF:Hid (Z=7):=bad2 7 (by decide) h4
       have him:i<m:=by omega
       have hb1:¬(i:Int)< -1:=by omega
       have hb1d:decide ((i:Int)< -1)=false:=decide_eq_false hb1;have hb2:¬(m:Int)<=(i:Int):=by omega
       have hb2d:decide ((m:Int)<=(i:Int))=false:=decide_eq_false hb2;have hb2e:decide (m<=i)=false:=decide_eq_false (by omega)
       have hb3:¬(i:Int)<0:=by omega
       have d3:wr.cell? ⟨gh,i,none⟩=some (.bool true):=by
        have:=OW2.out.one (markB_at g1 him) 0 _ rfl;rw[add_add',Addr.add_lit,zA,h3]at this
        simpa [boE]using this
       clear bad bad2 good2 h3 h4;go_wp2;go_ret;exact⟨by rw[HF.out];rfl,GE.out⟩
      subst h1;have HA:Hid (blW (m:Int) (blG g0 (q.bl.take (k2+1))) (q.bl.drop (k2+1))=blW (m:Int) g0 q.bl):=good2 h4;have him:i<m:=by omega
      have hb1:¬(i:Int)< -1:=by omega
      have hb1d:decide ((i:Int)< -1)=false:=decide_eq_false hb1;have hb2:¬(m:Int)<=(i:Int):=by omega
      have hb2d:decide ((m:Int)<=(i:Int))=false:=decide_eq_false hb2;have hb2e:decide (m<=i)=false:=decide_eq_false (by omega)
      have hb3:¬(i:Int)<0:=by omega
      have d3:wr.cell? ⟨gh,i,none⟩=some (.bool false):=by
       have:=OW2.out.one (markB_at g1 him) 0 _ rfl;rw[add_add',Addr.add_lit,zA,h3]at this
       simpa [boE]using this
      have HH5:Hid (giveG g1 (i:Int)=(i:Int) :: g1):=h5;clear bad bad2 good2 h3 h4 h5
      go_wp2_with (refine wpList_store_elt (E:=boE) rfl (.tmp 70) (.const (.bool true)) rfl W0.heap.size _ (markB m g1) OW2.out gh i rfl true ?t1 ⟨gh,i,none⟩ rfl ?t2 (.bool true) rfl rfl ?_)
      case t1=>rw[markB_len];exact him
      case t2=>first | exact(Nat.mul_one i).symm | (show _=Addr.mk gh (i*1) none;rw[Nat.mul_one])
      intro W5 ow5 gr5 _;have HO:Hid (OwnRow boE W0.heap.size W5 (.slice (some ⟨gh,0,none⟩) m m) (markB m (blG g0 (q.bl.take (k2+1))))):=dD<|by rw[HGB.out,HH5.out,<-markB_set g1 him];exact ow5
      have G5:Hid (Grew W0 W5):=dD<|grew_grown BW2.out gr5 (by rw[HGH.out];exact nR _)
      clear ow5 gr5 d3 d2 x1;go_wp2
      go_roundg (nb -(k2+1))
      case measure=>omega
      exact⟨k2+1,by omega,by omega,by go_num,G5.out,HO.out,HA.out⟩
     have hltz2:¬(k2:Int)< (nb:Int):=by omega
     have:k2=nb:=by omega
     subst this;have hz:flW (m:Int) g0 q=0:=by
      rw[HFB.out,<-AW2.out,List.drop_of_length_le (by rw[HNB.out];exact nR _)]
      rfl
     have HA:Hid (flsW (m:Int) (flsG [] (fs.take (kk+1))) (fs.drop (kk+1))=flsW (m:Int) [] fs):=dD<|by rw[<-AW.out,HG.out,HST.out,if_pos hz]
     have HO:Hid (OwnRow boE W0.heap.size wr (.slice (some ⟨gh,0,none⟩) m m) (markB m (flsG [] (fs.take (kk+1))))):=dD<|by
      rw[HGK.out];have:=OW2.out;rw[List.take_of_length_le (by rw[HNB.out];exact nR _)]at this
      exact this
     clear bad hz;go_wp2
     go_roundg (n -(kk+1))
     case measure=>omega
     exact⟨kk+1,by omega,by omega,by go_num,BW2.out,HO.out,HA.out⟩
    have HF:Hid (Z=2):=bad 2 (by decide) (by rw[HFD.out,if_pos (by omega),HNB.out,if_neg hcp])
    have hnn:((nb:Int) != cntP q.size)=true:=by simpa using hcp
    clear bad hcp
    generalize cntP q.size=cp at*
    have p0:=P2.out.c 0 rfl;have p1:=P2.out.c 1 rfl;go_upto_region 9 with fail;rw[HW2.out]
    go_quiet (first | (go_at_call 28;exact Calls.quiet_of_same (hcn _)))
    obtain⟨W3,hW3⟩:∃W3,W2.drewN nq=W3:=⟨_,rfl⟩;have GE:Hid (Grew w W3):=dD<|by rw[<-hW3];exact(HG0.out.trans G2.out).trans (show Below _ _ _ from bD (bR _ _) _)
    rw[hW3];clear hW3;go_wp2;go_ret;exact⟨by rw[HF.out];rfl,GE.out⟩
   have hltz:¬(kk:Int)< (n:Int):=by omega
   have:kk=n:=by omega
   subst this;have HF:Hid (Z=0):=dD<|by
    rw[HD.out,<-AW.out,List.drop_of_length_le (by rw[HN.out];exact nR _)]
    rfl
   have GE:=dD (HG0.out.trans BW.out);go_wp2;go_ret;exact⟨by rw[HF.out];rfl,GE.out⟩
  rw[if_neg (fun h=>hc h.2)]at HD
  by_cases hc0:cnt<0
  ·go_enter func99,ntmps99
   go_wp2;rw[HW0.out];go_ret;exact⟨by rw[HD.out];rfl,HG0.out⟩
  have hc0d:decide (cnt<0)=false:=decide_eq_false hc0;have hc8:80<cnt:=by omega
  clear hc
  go_enter func99,ntmps99
  go_wp2;rw[HW0.out];go_ret;exact⟨by rw[HD.out];rfl,HG0.out⟩
 rw[if_neg (fun h=>h5 h.1)]at HD
 have h5z:(5:Int)< (n:Int):=by omega
 go_enter func99,ntmps99
 go_wp2;rw[HW0.out];go_ret;exact⟨by rw[HD.out];rfl,HG0.out⟩
theorem refWrongTb_any (vs:List Value) (t:List (List En)) (w:World) (hv:TabAt w vs t):
  Calls prog 101 #[.agg vs.toArray] w fun e w'=>e= .returned (.int .i64 (tbW t))/\Grew w w':=by
 have HV:Hid (TabAt w vs t):=hv;have HL:Hid (vs.length=8):=hv.len;clear hv;obtain⟨Z,HZ⟩:∃Z,Hid (tbW t=Z):=⟨_,rfl⟩;rw[HZ.out];obtain⟨W0,hW0⟩:∃W0,w.alloc (.cells vs.toArray 63)=W0:=⟨_,rfl⟩;have HG0:=gA hW0
 have X0:=xA hW0
 have HW0:Hid (_=W0):=hW0;clear hW0
 go_enter func101,ntmps101
 go_upto_region 1 with fail;rw[HW0.out]
 go_wp2_with (refine wp_loadTab rfl (.tmp 1) rfl w.heap.size rfl X0.out HL.out ?_)
 go_loopg [9] 8 (fun gg s9 wr=>∃kk:Nat,kk<=8/\8 - kk<=gg/\s9= .int .i64 kk/\Hid (Grew w wr)/\Hid (tbW (t.drop kk)=tbW t))
 case atStart=>exact⟨0,nZ _,by omega,rfl,HG0.out,rfl⟩
 obtain⟨kk,hkk,hg,rfl,BW,AW⟩:=hrel
 by_cases hlt:kk<8
 ·have hltz:(kk:Int)<8:=by omega
  obtain⟨xa,xc,q,hq,hvk,hr⟩:=HV.out.half hlt;have HQ:Hid (t[kk]? =some q):=hq;have hqbig:=hr.short;obtain⟨_,_,heq,hens⟩:=hr.ens;cases heq;have HE:Hid (EnRows w xa q):=hens;obtain⟨nq,HNQ⟩:∃nq,Hid (q.length=nq):=⟨_,rfl⟩;rw[HNQ.out]at hvk hqbig;have HVK:Hid (vs[kk]? =some (.slice xa nq xc)):=hvk;have HST:Hid (tbW (t.drop kk)=if haW q=0 then tbW (t.drop (kk+1))else haW q):=show _=_ by rw[drop_cons HQ.out,tbW_cons]
  have badG:Hid (∀z:Int,z≠0->haW q=z->Z=z):=dD<|fun z hz h=>by
   have h1:=AW.out;rw[HST.out,h,if_neg hz]at h1;rw[<-HZ.out,<-h1]
  have goodH:Hid (haW q=0->tbW (t.drop (kk+1))=tbW t):=dD<|fun h=>by rw[<-AW.out,HST.out,if_pos h]
  clear hens hr hq hvk
  go_upto_region 4 with(refine wp_half rfl (.tmp 8) (.tmp 9) rfl vs rfl kk rfl hlt HVK.out ?_)
  by_cases h0:nq=0
  ·have hne0:((nq:Int) != 0)=false:=by simp[h0]
   have heq8:((nq:Int) == 8)=false:=by simp[h0]
   have H0:Hid (nq=0):=h0;clear h0;have badH:Hid (∀z:Int,z≠0->esW q=z->Z=z):=show∀z:Int,_ from fun z hz h=>by
    have:q=[]:=List.length_eq_zero_iff.1 (by rw[HNQ.out];exact H0.out)
    rw[this]at h;exact absurd h.symm hz
   go_wp2
   go_loopg [5,22] nq (fun g2 s5 s22 wr2=>∃(k2 c:Nat),k2<=nq/\nq - k2<=g2/\s22= .int .i64 k2/\s5= .int .i64 c/\c<=k2/\Hid (Grew w wr2)/\Hid (esW (q.drop k2)=esW q)/\Hid (c=0↔anyS (q.take k2)=false))
   case atStart=>exact⟨0,0,nZ _,by omega,rfl,rfl,nR _,BW.out,rfl,show(0=0↔anyS (q.take 0)=false)from by simp[anyS]⟩
   obtain⟨k2,c,hk2',hg2,rfl,rfl,hck,BW2,AW2,CW⟩:=hrel
   by_cases hlt2:k2<nq
   ·have hltz2:(k2:Int)< (nq:Int):=by omega
    obtain⟨x,hx⟩:∃x,q[k2]? =some x:=⟨_,gE (by rw[HNQ.out];exact hlt2)⟩
    obtain⟨ad,rfl,hl2⟩:=HE.out k2 x hx;obtain⟨d0,d1,d2⟩:=hl2 wr BW2.out;obtain⟨k,m,b⟩:=x;have HX:Hid (q[k2]? =some ⟨k,m,b⟩):=hx;simp only at d0 d1 d2;have HST:Hid (esW (q.drop k2)=if enW ⟨k,m,b⟩=0 then esW (q.drop (k2+1))else enW ⟨k,m,b⟩):=show _=_ by rw[drop_cons HX.out,esW_cons]
    have bad:∀z:Int,z≠0->enW ⟨k,m,b⟩=z->Z=z:=fun z hz h=>by
     have h1:=AW2.out;rw[HST.out,h,if_neg hz]at h1;exact badH.out z hz h1.symm
    have good:enW ⟨k,m,b⟩=0->esW (q.drop (k2+1))=esW q:=fun h=>by
     rw[<-AW2.out,HST.out,if_pos h]
    clear hl2 hx;go_upto_region 10 with fail;obtain⟨px,hpx⟩:∃px,wr.heap.size=px:=⟨_,rfl⟩;obtain⟨W2,hW2⟩:∃W2,wr.alloc (.cells #[.int .i64 k,.int .i64 m,.bool b] 67)=W2:=⟨_,rfl⟩;have G2:=gT hW2 BW2
    have GE:Hid (Grew w W2):=G2.out;have P2:Hid (Box W2 px [.int .i64 k,.int .i64 m,.bool b]):=show Box _ _ _ by rw[<-hW2];exact Box.top _ _ _ hpx.symm
    rw[hW2];rw[hpx];clear hW2 hpx d0 d1 d2;obtain⟨p0,p1,p2⟩:=P2.out.c3
    by_cases hk0:k<0
    ·have HF:Hid (Z=1):=bad 1 (by decide) (enW_kind (by simp only;omega))
     clear bad good;go_wp2;go_ret;exact⟨by rw[HF.out];rfl,GE.out⟩
    have hk0d:decide (k<0)=false:=decide_eq_false hk0
    by_cases hk2:2<k
    ·have HF:Hid (Z=1):=bad 1 (by decide) (enW_kind (by simp only;omega))
     clear bad good;go_wp2;go_ret;exact⟨by rw[HF.out];rfl,GE.out⟩
    have hk2d:decide (2<k)=false:=decide_eq_false hk2
    by_cases hn0:m<0
    ·have HF:Hid (Z=3):=bad 3 (by decide) (enW_range (by simp only;omega) (by simp only;omega))
     clear bad good;go_wp2;go_ret;exact⟨by rw[HF.out];rfl,GE.out⟩
    have hn0d:decide (m<0)=false:=decide_eq_false hn0
    by_cases hn59:59<m
    ·have HF:Hid (Z=3):=bad 3 (by decide) (enW_range (by simp only;omega) (by simp only;omega))
     clear bad good;go_wp2;go_ret;exact⟨by rw[HF.out];rfl,GE.out⟩
    have hn59d:decide (59<m)=false:=decide_eq_false hn59;obtain rfl|rfl|rfl:k=0\/k=1\/k=2:=by omega
    ·by_cases hm:0<m
     ·have HF:Hid (Z=7):=bad 7 (by decide) (enW_fit (by simp only;omega) (by simp only;omega) (.inl ⟨rfl,.inl (by simp only;omega)⟩))
      clear bad good;go_wp2;go_ret;exact⟨by rw[HF.out];rfl,GE.out⟩
     obtain rfl:m=0:=by omega
     cases b with
     | true=>
      have HF:Hid (Z=7):=bad 7 (by decide) (enW_fit (by simp only;omega) (by simp only;omega) (.inl ⟨rfl,.inr rfl⟩))
      clear bad good;go_wp2;go_ret;exact⟨by rw[HF.out];rfl,GE.out⟩
     | false=>
      have HA:Hid (esW (q.drop (k2+1))=esW q):=good (enW_of (by simp only;omega) (by simp only;omega) (by simp))
      have HC:Hid (anyS (q.take (k2+1))=anyS (q.take k2)):=dD<|by
       rw[take_snoc HX.out];unfold anyS;rw[List.any_append]
       simp[enS]
      clear bad good;go_wp2
      go_roundg (nq -(k2+1))
      case measure=>omega
      exact⟨k2+1,c,by omega,by omega,by go_num,by go_num,by omega,G2.out,HA.out,by rw[HC.out];exact CW.out⟩
    ·by_cases hn39:39<m
     ·have HF:Hid (Z=3):=bad 3 (by decide) (enW_range (by simp only;omega) (fun h=>by have:=h.2.2 rfl;simp only at this;omega))
      clear bad good;go_wp2;go_ret;exact⟨by rw[HF.out];rfl,GE.out⟩
     have hn39d:decide (39<m)=false:=decide_eq_false hn39;have HA:Hid (esW (q.drop (k2+1))=esW q):=good (enW_of (by simp only;omega) (by simp only;omega) (by simp))
     have HC:Hid (anyS (q.take (k2+1))=true):=dD<|by
      rw[take_snoc HX.out];unfold anyS;rw[List.any_append]
      simp[enS]
     clear bad good;go_wp2
     go_roundg (nq -(k2+1))
     case measure=>omega
     exact⟨k2+1,c+1,by omega,by omega,by go_num,by go_num,by omega,G2.out,HA.out,show(c+1=0↔anyS (q.take (k2+1))=false)from by rw[HC.out];simp⟩
    cases b with
    | true=>
     have HF:Hid (Z=7):=bad 7 (by decide) (enW_fit (by simp only;omega) (by simp only;omega) (.inr ⟨rfl,rfl⟩))
     clear bad good;go_wp2;go_ret;exact⟨by rw[HF.out];rfl,GE.out⟩
    | false=>
     have HA:Hid (esW (q.drop (k2+1))=esW q):=good (enW_of (by simp only;omega) (by simp only;omega) (by simp))
     have HC:Hid (anyS (q.take (k2+1))=true):=dD<|by
      rw[take_snoc HX.out];unfold anyS;rw[List.any_append]
      simp[enS]
     clear bad good;go_wp2
     go_roundg (nq -(k2+1))
     case measure=>omega
     exact⟨k2+1,c+1,by omega,by omega,by go_num,by go_num,by omega,G2.out,HA.out,show(c+1=0↔anyS (q.take (k2+1))=false)from by rw[HC.out];simp⟩
   have hltz2:¬(k2:Int)< (nq:Int):=by omega
   have:k2=nq:=by omega
   subst this;have HEZ:Hid (esW q=0):=dD<|by
    rw[<-AW2.out,List.drop_of_length_le (by rw[HNQ.out];exact nR _)]
    rfl
   have CQ:Hid (c=0↔anyS q=false):=dD<|by
    have:=CW.out;rw[List.take_of_length_le (by rw[HNQ.out];exact nR _)]at this
    exact this
   have HA:Hid (tbW (t.drop (kk+1))=tbW t):=goodH.out (by unfold haW;rw[if_pos (by rw[HNQ.out];exact H0.out)])
   go_wp2
   go_roundg (8 -(kk+1))
   case measure=>omega
   exact⟨kk+1,by omega,by omega,by go_num,BW2.out,HA.out⟩
  have hne0:((nq:Int) != 0)=true:=by simpa using h0
  by_cases h8:nq=8
  ·have hne8:((nq:Int) != 8)=false:=by simp[h8]
   have heq8:((nq:Int) == 8)=true:=by simp[h8]
   have H8:Hid (nq=8):=h8;clear h0 h8;have badH:Hid (∀z:Int,z≠0->esW q=z->Z=z):=show∀z:Int,_ from fun z hz h=>badG.out z hz (by rw[haW_8 (by rw[HNQ.out];exact H8.out),if_neg (by rw[h];exact hz)];exact h)
   go_wp2
   go_loopg [5,22] nq (fun g2 s5 s22 wr2=>∃(k2 c:Nat),k2<=nq/\nq - k2<=g2/\s22= .int .i64 k2/\s5= .int .i64 c/\c<=k2/\Hid (Grew w wr2)/\Hid (esW (q.drop k2)=esW q)/\Hid (c=0↔anyS (q.take k2)=false))
   case atStart=>exact⟨0,0,nZ _,by omega,rfl,rfl,nR _,BW.out,rfl,show(0=0↔anyS (q.take 0)=false)from by simp[anyS]⟩
   obtain⟨k2,c,hk2',hg2,rfl,rfl,hck,BW2,AW2,CW⟩:=hrel
   by_cases hlt2:k2<nq
   ·have hltz2:(k2:Int)< (nq:Int):=by omega
    obtain⟨x,hx⟩:∃x,q[k2]? =some x:=⟨_,gE (by rw[HNQ.out];exact hlt2)⟩
    obtain⟨ad,rfl,hl2⟩:=HE.out k2 x hx;obtain⟨d0,d1,d2⟩:=hl2 wr BW2.out;obtain⟨k,m,b⟩:=x;have HX:Hid (q[k2]? =some ⟨k,m,b⟩):=hx;simp only at d0 d1 d2;have HST:Hid (esW (q.drop k2)=if enW ⟨k,m,b⟩=0 then esW (q.drop (k2+1))else enW ⟨k,m,b⟩):=show _=_ by rw[drop_cons HX.out,esW_cons]
    have bad:∀z:Int,z≠0->enW ⟨k,m,b⟩=z->Z=z:=fun z hz h=>by
     have h1:=AW2.out;rw[HST.out,h,if_neg hz]at h1;exact badH.out z hz h1.symm
    have good:enW ⟨k,m,b⟩=0->esW (q.drop (k2+1))=esW q:=fun h=>by
     rw[<-AW2.out,HST.out,if_pos h]
    clear hl2 hx;go_upto_region 10 with fail;obtain⟨px,hpx⟩:∃px,wr.heap.size=px:=⟨_,rfl⟩;obtain⟨W2,hW2⟩:∃W2,wr.alloc (.cells #[.int .i64 k,.int .i64 m,.bool b] 67)=W2:=⟨_,rfl⟩;have G2:=gT hW2 BW2
    have GE:Hid (Grew w W2):=G2.out;have P2:Hid (Box W2 px [.int .i64 k,.int .i64 m,.bool b]):=show Box _ _ _ by rw[<-hW2];exact Box.top _ _ _ hpx.symm
    rw[hW2];rw[hpx];clear hW2 hpx d0 d1 d2;obtain⟨p0,p1,p2⟩:=P2.out.c3
    by_cases hk0:k<0
    ·have HF:Hid (Z=1):=bad 1 (by decide) (enW_kind (by simp only;omega))
     clear bad good;go_wp2;go_ret;exact⟨by rw[HF.out];rfl,GE.out⟩
    have hk0d:decide (k<0)=false:=decide_eq_false hk0
    by_cases hk2:2<k
    ·have HF:Hid (Z=1):=bad 1 (by decide) (enW_kind (by simp only;omega))
     clear bad good;go_wp2;go_ret;exact⟨by rw[HF.out];rfl,GE.out⟩
    have hk2d:decide (2<k)=false:=decide_eq_false hk2
    by_cases hn0:m<0
    ·have HF:Hid (Z=3):=bad 3 (by decide) (enW_range (by simp only;omega) (by simp only;omega))
     clear bad good;go_wp2;go_ret;exact⟨by rw[HF.out];rfl,GE.out⟩
    have hn0d:decide (m<0)=false:=decide_eq_false hn0
    by_cases hn59:59<m
    ·have HF:Hid (Z=3):=bad 3 (by decide) (enW_range (by simp only;omega) (by simp only;omega))
     clear bad good;go_wp2;go_ret;exact⟨by rw[HF.out];rfl,GE.out⟩
    have hn59d:decide (59<m)=false:=decide_eq_false hn59;obtain rfl|rfl|rfl:k=0\/k=1\/k=2:=by omega
    ·by_cases hm:0<m
     ·have HF:Hid (Z=7):=bad 7 (by decide) (enW_fit (by simp only;omega) (by simp only;omega) (.inl ⟨rfl,.inl (by simp only;omega)⟩))
      clear bad good;go_wp2;go_ret;exact⟨by rw[HF.out];rfl,GE.out⟩
     obtain rfl:m=0:=by omega
     cases b with
     | true=>
      have HF:Hid (Z=7):=bad 7 (by decide) (enW_fit (by simp only;omega) (by simp only;omega) (.inl ⟨rfl,.inr rfl⟩))
      clear bad good;go_wp2;go_ret;exact⟨by rw[HF.out];rfl,GE.out⟩
     | false=>
      have HA:Hid (esW (q.drop (k2+1))=esW q):=good (enW_of (by simp only;omega) (by simp only;omega) (by simp))
      have HC:Hid (anyS (q.take (k2+1))=anyS (q.take k2)):=dD<|by
       rw[take_snoc HX.out];unfold anyS;rw[List.any_append]
       simp[enS]
      clear bad good;go_wp2
      go_roundg (nq -(k2+1))
      case measure=>omega
      exact⟨k2+1,c,by omega,by omega,by go_num,by go_num,by omega,G2.out,HA.out,by rw[HC.out];exact CW.out⟩
    ·by_cases hn39:39<m
     ·have HF:Hid (Z=3):=bad 3 (by decide) (enW_range (by simp only;omega) (fun h=>by have:=h.2.2 rfl;simp only at this;omega))
      clear bad good;go_wp2;go_ret;exact⟨by rw[HF.out];rfl,GE.out⟩
     have hn39d:decide (39<m)=false:=decide_eq_false hn39;have HA:Hid (esW (q.drop (k2+1))=esW q):=good (enW_of (by simp only;omega) (by simp only;omega) (by simp))
     have HC:Hid (anyS (q.take (k2+1))=true):=dD<|by
      rw[take_snoc HX.out];unfold anyS;rw[List.any_append]
      simp[enS]
     clear bad good;go_wp2
     go_roundg (nq -(k2+1))
     case measure=>omega
     exact⟨k2+1,c+1,by omega,by omega,by go_num,by go_num,by omega,G2.out,HA.out,show(c+1=0↔anyS (q.take (k2+1))=false)from by rw[HC.out];simp⟩
    cases b with
    | true=>
     have HF:Hid (Z=7):=bad 7 (by decide) (enW_fit (by simp only;omega) (by simp only;omega) (.inr ⟨rfl,rfl⟩))
     clear bad good;go_wp2;go_ret;exact⟨by rw[HF.out];rfl,GE.out⟩
    | false=>
     have HA:Hid (esW (q.drop (k2+1))=esW q):=good (enW_of (by simp only;omega) (by simp only;omega) (by simp))
     have HC:Hid (anyS (q.take (k2+1))=true):=dD<|by
      rw[take_snoc HX.out];unfold anyS;rw[List.any_append]
      simp[enS]
     clear bad good;go_wp2
     go_roundg (nq -(k2+1))
     case measure=>omega
     exact⟨k2+1,c+1,by omega,by omega,by go_num,by go_num,by omega,G2.out,HA.out,show(c+1=0↔anyS (q.take (k2+1))=false)from by rw[HC.out];simp⟩
   have hltz2:¬(k2:Int)< (nq:Int):=by omega
   have:k2=nq:=by omega
   subst this;have HEZ:Hid (esW q=0):=dD<|by
    rw[<-AW2.out,List.drop_of_length_le (by rw[HNQ.out];exact nR _)]
    rfl
   have CQ:Hid (c=0↔anyS q=false):=dD<|by
    have:=CW.out;rw[List.take_of_length_le (by rw[HNQ.out];exact nR _)]at this
    exact this
   by_cases hc:c=0
   ·have HF:Hid (Z=2):=badG.out 2 (by decide) (by rw[haW_8 (by rw[HNQ.out];exact H8.out),HEZ.out,if_pos rfl,CQ.out.1 hc];rfl)
    have hcb:((c:Int) == 0)=true:=by simpa using hc
    clear hc;go_wp2;go_ret;exact⟨by rw[HF.out];rfl,BW2.out⟩
   have HA:Hid (tbW (t.drop (kk+1))=tbW t):=goodH.out (by
    rw[haW_8 (by rw[HNQ.out];exact H8.out),HEZ.out,if_pos rfl]
    cases ha:anyS q with
    | true=>rfl
    | false=>exact absurd (CQ.out.2 ha) hc)
   have hcb:((c:Int) == 0)=false:=by simpa using hc
   clear hc;go_wp2
   go_roundg (8 -(kk+1))
   case measure=>omega
   exact⟨kk+1,by omega,by omega,by go_num,BW2.out,HA.out⟩
  have hne8:((nq:Int) != 8)=true:=by simp;omega
  have HF:Hid (Z=2):=badG.out 2 (by decide) (by unfold haW;rw[if_neg (by rw[HNQ.out];exact h0),if_neg (by rw[HNQ.out];exact h8)])
  clear h0 h8;go_wp2;go_ret;exact⟨by rw[HF.out];rfl,BW.out⟩
 have hltz:¬(kk:Int)<8:=by omega
 have:kk=8:=by omega
 subst this;have HF:Hid (Z=0):=dD<|by
  rw[<-HZ.out,<-AW.out,List.drop_of_length_le (by rw[HV.out.tlen];exact nR _)]
  rfl
 go_wp2;go_ret;exact⟨by rw[HF.out];rfl,BW.out⟩
theorem cellsO_set {l:List On} (y:On) (h:j<l.length):splice (cellsO l) (j*6) (onv y)=cellsO (l.set j y):=splice_set (enc:=onv) (k:=6) y rfl l j (fun _ _=>rfl) h
theorem cellsO_at {l:List On} {e:On} (h:l[j]? =some e) (i:Nat) (u:Value) (hu:(onv e)[i]? =some u):(cellsO l)[j*6+i]? =some u:=flatMap_elem (enc:=onv) (k:=6) l j e (fun _ _=>rfl) h i u hu
theorem tabO_len (f:Nat->On):(cellsO (tab f)).length=384:=by rw[cellsO_len,tab_len]
theorem wp_storeOn {rest:List Oper} {op:Oper} {a:Act} {w:World} (hgd:op.guard=none) (p x:Operand) (ho:op.op= .store 96 p x) (b k:Nat) (hk:k<64) (hp:a.eval p= .pointer (some ⟨b,k*6,none⟩)) (y:On) (hx:a.eval x= .agg (onv y).toArray)
  {f:Nat->On} (hb:Box w b (cellsO (tab f)))
  (h:∀w',Box w' b (cellsO (tab (upd f k y)))->w.grownBy w' (some b)->w'.heap.size=w.heap.size->wpList prog ops Q rest (a.put op.dst undef) w'):wpList prog ops Q (op :: rest) a w:=by
 refine wp_storeMid hgd 96 p x ho b (k*6) hp (onv y) hx hb (by rw[tabO_len];show _+6<=_;omega) Tryz.sizeOne (onv_one y) fun w' h1 h2 h3=>h w' ?_ h2 h3
 rw[cellsO_set y (by rw[tab_len];exact hk),tab_set]at h1
 exact h1
theorem Box.onCell {w:World} {k:Nat} {f:Nat->On} (h:Box w b (cellsO (tab f))) (hk:k<64) (i:Nat) (u:Value) (y:On) (hy:(onv (f k)).set i u=onv y) (hi:i<6):Box (w.setCell ⟨b,k*6+i,none⟩ u) b (cellsO (tab (upd f k y))):=by
 have h1:=h.set (k*6+i) u;have:(cellsO (tab f)).set (k*6+i) u=cellsO (tab (upd f k y)):=by
  rw[<-tab_set,<-cellsO_set y (by rw[tab_len];exact hk),<-hy]
  have hl:(cellsO (tab f)).length=384:=tabO_len f
  apply List.ext_getElem?
  intro j;unfold splice;have e6:((onv (f k)).set i u).length=6:=by simp[onv]
  rw[e6]
  by_cases h1:j<k*6
  ·rw[sN (by omega),List.getElem?_append_left (by simp;omega),List.getElem?_take_of_lt h1]
  have hl2:((cellsO (tab f)).take (k*6)).length=k*6:=by simp;omega
  rw[aR (by omega),hl2]
  by_cases h2:j<k*6+6
  ·rw[List.getElem?_append_left (by rw[e6];omega)]
   have hc:∀i',i'<6->(cellsO (tab f))[k*6+i']? =(onv (f k))[i']?:=fun i' hi'=>by
    obtain⟨v,hv⟩:∃v,(onv (f k))[i']? =some v:=⟨_,gE (by simpa [onv]using hi')⟩
    rw[hv];exact cellsO_at (tab_at hk) i' v hv
   by_cases e:j=k*6+i
   ·subst e;rw[sF (by omega),show k*6+i - k*6=i by omega,sF (by simpa [onv]using hi)]
   rw[sN (fun h=>e h.symm),sN (by omega),<-hc _ (by omega),show k*6+(j - k*6)=j by omega]
  rw[sN (by omega),aR (by rw[e6];omega),e6,List.getElem?_drop]
  congr 1
  omega
 rw[this]at h1;exact h1
theorem extract_elem {cs:List Value} {o k:Nat} (hl:vs.length=k) (h:∀(i:Nat) u,vs[i]? =some u->cs[o+i]? =some u):cs.toArray.extract o (o+k)=vs.toArray:=by
 apply Array.ext_getElem?
 intro j;rw[Array.getElem?_extract]
 by_cases hj:j<k
 ·obtain⟨u,hu⟩:∃u,vs[j]? =some u:=⟨_,gE (by omega)⟩
  have h1:=h j u hu;have h2:=(gS.1 h1).1;rw[if_pos (by simp;omega)]
  simp[h1,hu]
 rw[if_neg (by omega)]
 simp;omega
theorem run_idxO {w:World} {f:Nat->On} (i:Nat) (hi:i<64):(Instr.index 97 (.agg (cellsO (tab f)).toArray) (.int .i64 (i:Int))).run prog w= .ok (.agg (onv (f i)).toArray) w:=by
 have ha:(isAgg 96).run prog w= .ok true w:=by
  unfold isAgg;rw[Sem.run_bind,run_underlying underlying96 w];rfl
 have hs:(Go.sizeOf 96).run prog w= .ok 6 w:=by
  obtain⟨i0,h1,h2⟩:∃i0,Tryz.prog.info? 96=some i0/\i0.size=6:=by
   have:=Tryz.sizeOne
   cases hq:Tryz.prog.info? 96 with
   | none=>rw[hq]at this;cases this
   | some i0=>rw[hq]at this;exact⟨i0,rfl,by simpa using this⟩
  simp[Go.sizeOf,typeInfo,h1,h2]
 have hlt:(0:Int)<=(i:Int)/\(i:Int)< ((64:Nat):Int):=by omega
 have hx:(cellsO (tab f)).toArray.extract (i*6) (i*6+6)=(onv (f i)).toArray:=extract_elem rfl fun j u hu=>cellsO_at (tab_at hi) j u hu
 simp only[Instr.index,asIntOf,Sem.run_bind,Sem.run_pure,rA,run_underlying underlying97];rw[if_pos hlt];simp only[Sem.run_bind,hs,rA,part,ha,if_true,tN,Sem.run_pure,hx]
theorem wp_idxO {rest:List Oper} {a:Act} {w:World} (hgd:o.guard=none) (x ix:Operand) (ho:o.op= .index 97 x ix) (f:Nat->On) (hx:a.eval x= .agg (cellsO (tab f)).toArray) (i:Nat) (hix:a.eval ix= .int .i64 (i:Int)) (hi:i<64)
  (h:wpList prog ops Q rest (a.put o.dst (.agg (onv (f i)).toArray)) w):wpList prog ops Q (o :: rest) a w:=by
 refine wpList_plain hgd fun K hK=>?_
 unfold Oper.wp execOp;simp only[ho,hx,hix,Sem.run_bind,Sem.run_pure,rA,run_idxO i hi];exact hK _ _ h
theorem wp_idxOv {rest:List Oper} {a:Act} {w:World} (hgd:o.guard=none) (x ix:Operand) (ho:o.op= .index 97 x ix) (f:Nat->On) (hx:a.eval x= .agg (cellsO (tab f)).toArray) (i:Nat) (hix:a.eval ix= .int .i64 (i:Int)) (hi:i<64) {v:Value} (hv: .agg (onv (f i)).toArray=v)
  (h:wpList prog ops Q rest (a.put o.dst v) w):wpList prog ops Q (o :: rest) a w:=wp_idxO hgd x ix ho f hx i hix hi (by rw[hv];exact h)
theorem wp_loadOn {rest:List Oper} {a:Act} {w:World} (hgd:o.guard=none) (x:Operand) (ho:o.op= .load 96 x) (b k:Nat) (hk:k<64) (hx:a.eval x= .pointer (some ⟨b,k*6,none⟩)) {f:Nat->On} (hb:Box w b (cellsO (tab f)))
  (h:wpList prog ops Q rest (a.put o.dst (.agg (onv (f k)).toArray)) w):wpList prog ops Q (o :: rest) a w:=
 wpList_load_mid hgd 96 x ho b (k*6) hx (onv (f k)) _ (hb.mid _ fun j u hu=>cellsO_at (tab_at hk) j u hu) underlying96 rfl Tryz.sizeOne h
theorem wp_loadOnv {rest:List Oper} {a:Act} {w:World} (hgd:o.guard=none) (x:Operand) (ho:o.op= .load 96 x) (b k:Nat) (hk:k<64) (hx:a.eval x= .pointer (some ⟨b,k*6,none⟩)) {f:Nat->On} (hb:Box w b (cellsO (tab f))) {v:Value} (hv: .agg (onv (f k)).toArray=v)
  (h:wpList prog ops Q rest (a.put o.dst v) w):wpList prog ops Q (o :: rest) a w:=wp_loadOn hgd x ho b k hk hx hb (by rw[hv];exact h)
theorem zeroO:(Tryz.prog.info? 97).map (·.zero)=some (some (.agg (cellsO (tab fun _=>on0)).toArray)):=by kernel_rfl
theorem run_zeroO (w:World):(zeroValue 97).run prog w= .ok (.agg (cellsO (tab fun _=>on0)).toArray) w:=by
 have h:=zeroO
 cases hq:Tryz.prog.info? 97 with
 | none=>simp[hq]at h
 | some i=>
  simp[hq]at h
  simp[zeroValue,typeInfo,hq,h]
def partF (f:Nat->On):Nat->Ar:=fun n=>arOf n (f n)
def midF (l:List Ar) (i:Nat) (a:Ar) (n:Nat):Nat->On:=fun j=>if a.fr<=(j:Int)/\(j:Int)< (n:Int)then oneOf a j else onAt (l.take i) j
theorem CanP.take:∀{l:List Ar} {p:Option Ar},CanP p l->∀i,CanP p (l.take i)
 | [],_,_,i=>by simp[CanP]
 | a :: l,p,h,0=>by simp[CanP]
 | a :: l,p,h,i+1=>⟨h.1,h.2.1,h.2.2.take i⟩
theorem CanP.free (h:CanP none l) {a:Ar} (ha:l[i]? =some a) (hj:a.fr<=(j:Int)):onAt (l.take i) j=on0:=by
 refine onAt_none fun x hx=>arIn_no ?_
 have h1:=h.take (i+1);rw[take_snoc ha]at h1;obtain⟨c1,c2,c3⟩:=canP_snoc.1 h1
 cases hl:lastP none (l.take i)with
 | none=>
  unfold lastP at hl
  cases hq:l.take i with
  | nil=>rw[hq]at hx;cases hx
  | cons y ys=>rw[hq]at hl;simp[List.getLast?_cons]at hl
 | some y=>
  have q:=(c3 y hl).1;have hy:ArOk y:=c1.all y (by
   unfold lastP at hl
   split at hl
   ·rename_i b hb
    cases hl;exact List.mem_of_getLast? hb
   cases hl)
  unfold ArOk at hy
  rcases last_to _ none c1 x hx y hl with e|e
  ·rw[e];omega
  omega
theorem mid_start {a:Ar} {n:Nat} (hn:(n:Int)=a.fr):midF l i a n=onAt (l.take i):=by
 funext j
 unfold midF;rw[if_neg (by omega)]
def Lies (l:List Ar):Prop:=(∀a∈l,ArOk a)/\∀(i:Nat) a,l[i]? =some a->∀j:Nat,a.fr<=(j:Int)->onAt (l.take i) j=on0
theorem CanP.lies (h:CanP none l):Lies l:=⟨h.all,fun _ _ ha _ hj=>h.free ha hj⟩
theorem lies_two {b a:Ar} (hb:ArOk b) (ha:ArOk a) (hf:b.tz<=a.fr):Lies [b,a]:=by
 refine⟨fun x hx=>?_,fun i x hx j hj=>?_⟩
 ·simp at hx
  rcases hx with rfl|rfl
  ·exact hb
  exact ha
 match i with
 | 0=>rfl
 | 1=>
  simp at hx
  subst hx
  show onAt [b] j=on0
  rw[onAt_out (.inr (by omega))]
  rfl
 | k+2=>simp at hx
theorem lies_one {a:Ar} (ha:ArOk a):Lies [a]:=by
 refine⟨fun x hx=>?_,fun i x hx j hj=>?_⟩
 ·simp at hx
  subst hx;exact ha
 match i with
 | 0=>rfl
 | k+1=>simp at hx
theorem midO_step {a:Ar} {n:Nat} (hn:a.fr<=(n:Int)):upd (midF l i a n) n (oneOf a n)=midF l i a (n+1):=by
 funext j
 unfold upd midF
 by_cases e:j=n
 ·subst e;rw[if_pos rfl,if_pos (by omega)]
 rw[if_neg e]
 by_cases h:a.fr<=(j:Int)/\(j:Int)< (n:Int)
 ·rw[if_pos h,if_pos (by omega)]
 rw[if_neg h,if_neg (by omega)]
theorem midO_end {a:Ar} {n:Nat} (h:Lies l) (ha:l[i]? =some a) (hn:(n:Int)=a.tz):midF l i a n=onAt (l.take (i+1)):=by
 funext j
 unfold midF;rw[take_snoc ha,onAt_snoc]
 ·by_cases h1:a.fr<=(j:Int)/\(j:Int)< (n:Int)
  ·rw[if_pos h1,if_pos (arIn_iff.2 (by omega))]
  rw[if_neg h1,if_neg (fun h2=>h1 (by have:=arIn_iff.1 h2;omega))]
 by_cases h1:a.fr<=(j:Int)
 ·exact .inl (h.2 i a ha j h1)
 exact .inr (arIn_no (by omega))
theorem upd_upd {α:Type} (f:Nat->α) (k:Nat) (x y:α):upd (upd f k x) k y=upd f k y:=by
 funext j
 unfold upd
 by_cases e:j=k
 ·rw[if_pos e,if_pos e]
 rw[if_neg e,if_neg e,if_neg e]
theorem refOnes_any (v:Value) (l:List Ar) (w:World) (hv:RowAt arE w v l) (hok:Lies l):
  Calls prog 41 #[v] w fun e w'=>e= .returned (.agg (cellsO (tab (onAt l))).toArray)/\Grew w w':=by
 have hbig:=hv.short;obtain⟨a,c,rfl,hrow⟩:=hv.ars;have HR:Hid (ArRows w a l):=hrow;have HOK:Hid (Lies l):=hok;clear hrow hv hok;have hz:=run_zeroO;obtain⟨Z0,HZ0⟩:∃Z0,Hid (cellsO (tab fun _=>on0)=Z0):=⟨_,rfl⟩
 rw[HZ0.out]at hz;have HZL:Hid (Z0.length=384):=dD<|by rw[<-HZ0.out,tabO_len]
 obtain⟨C,HC⟩:∃C,Hid (cellsO (tab (onAt l))=C):=⟨_,rfl⟩;rw[HC.out];obtain⟨n,HN⟩:∃n,Hid (l.length=n):=⟨_,rfl⟩;rw[HN.out]at hbig⊢;obtain⟨W0,hW0⟩:∃W0,(w.alloc (.cells Z0.toArray 97)).alloc (.cells Z0.toArray 97)=W0:=⟨_,rfl⟩;have HG0:=gD2 hW0
 have Y0:Hid (Box W0 w.heap.size Z0):=dD<|by rw[<-hW0];exact(Box.top _ _ _ (by simp)).alloc _
 have L0:Hid (Box W0 (w.heap.size+1) (cellsO (tab (onAt (l.take 0))))):=dD<|by rw[<-hW0,List.take_zero,show onAt ([]:List Ar)=fun _=>on0 from rfl,HZ0.out];exact Box.top _ _ _ (by simp)
 have HW0:Hid (_=W0):=hW0;clear hW0
 go_enter func41,ntmps41
 go_upto_region 2 with fail;rw[HW0.out];clear hz;go_wp2
 go_loopg [9] n (fun gg s9 wr=>∃kk:Nat,kk<=n/\n - kk<=gg/\s9= .int .i64 kk/\Hid (Grew w wr)/\Hid (Box wr w.heap.size Z0)/\Hid (Box wr (w.heap.size+1) (cellsO (tab (onAt (l.take kk))))))
 case atStart=>exact⟨0,nZ _,by omega,rfl,HG0.out,Y0.out,L0.out⟩
 obtain⟨kk,hkk,hg,rfl,BW,YW,LW⟩:=hrel
 by_cases hlt:kk<n
 ·have hltz:(kk:Int)< (n:Int):=by omega
  obtain⟨q,HQ⟩:∃q,Hid (l[kk]? =some q):=⟨_,gE (by rw[HN.out];exact hlt)⟩
  obtain⟨ad,rfl,hl⟩:=HR.out kk q HQ.out;obtain⟨d0,d1,d2,d3,d4,d5,d6⟩:=hl wr BW.out;have HQK:Hid (ArOk q):=HOK.out.1 q (mG HQ.out);have hqb:0<=q.fr/\q.fr<q.tz/\q.tz<=64/\0<=q.base/\q.base<=12:=by
   have:=HQK.out;unfold ArOk at this
   rcases Int.lt_or_le q.file 0 with h|h
   ·omega
   omega
  obtain⟨hq1,hq2,hq3,hq4,hq5⟩:=hqb;obtain⟨p,HP⟩:∃p,Hid (wr.heap.size=p):=⟨_,rfl⟩;have HLP:Hid (w.heap.size+1<p):=dD<|by rw[<-HP.out];exact LW.out.lt
  clear hl;go_upto_region 5 with fail;obtain⟨W1,hW1⟩:∃W1,wr.alloc (.cells #[.int .i64 q.fr,.int .i64 q.tz,.bool q.rd,.bool q.wr,.bool q.sh,.int .i64 q.file,.int .i64 q.base] 69)=W1:=⟨_,rfl⟩;have G1:=gT hW1 BW
  have Y1:=yA hW1 YW
  obtain⟨f0,hf0⟩:∃f0:Nat,(f0:Int)=q.fr:=⟨q.fr.toNat,by omega⟩
  have L1:Hid (Box W1 (w.heap.size+1) (cellsO (tab (midF l kk q f0)))):=dD<|by rw[<-hW1,mid_start hf0];exact LW.out.alloc _
  have P1:=xP hW1 HP
  rw[hW1,HP.out];clear hW1 d0 d1 d2 d3 d4 d5 d6;have p0:=P1.out.c 0 rfl;go_wp2
  go_loopg [6] (q.tz.toNat - f0) (fun g2 s6 wr2=>∃k2:Nat,f0<=k2/\(k2:Int)<=q.tz/\q.tz.toNat - k2<=g2/\s6= .int .i64 k2/\Hid (Grew w wr2)/\Hid (Box wr2 w.heap.size Z0)/\Hid (Box wr2 (w.heap.size+1) (cellsO (tab (midF l kk q k2))))/\Hid (Box wr2 p [.int .i64 q.fr,.int .i64 q.tz,.bool q.rd,.bool q.wr,.bool q.sh,.int .i64 q.file,.int .i64 q.base]))
  case atStart=>exact⟨f0,nR _,by omega,by omega,by rw[hf0],G1.out,Y1.out,L1.out,P1.out⟩
  obtain⟨k2,hk2,hk2',hg2,rfl,BW2,YW2,LW2,PW2⟩:=hrel;clear p0;have p1:=PW2.out.c 1 rfl
  by_cases hlt2:(k2:Int)<q.tz
  ·have hi64:k2<64:=by omega
   have hi64z:(k2:Int)<64:=by omega
   have HST:Hid (upd (midF l kk q k2) k2 (oneOf q k2)=midF l kk q (k2+1)):=midO_step (l:=l) (i:=kk) (a:=q) (n:=k2) (by omega)
   have p2:=PW2.out.c 2 rfl;have p3:=PW2.out.c 3 rfl;have p4:=PW2.out.c 4 rfl;have p5:=PW2.out.c 5 rfl
   go_wp2_with (refine wp_storeOn rfl (.tmp 31) (.tmp 30) rfl (w.heap.size+1) k2 hi64 rfl ⟨true,q.rd,q.wr,q.sh,q.file,0⟩ rfl LW2.out ?_)
   intro W3 b3 g3 s3;have L3:Hid (Box W3 (w.heap.size+1) (cellsO (tab (upd (midF l kk q k2) k2 ⟨true,q.rd,q.wr,q.sh,q.file,0⟩)))):=b3;have G3:Hid (Grew w W3):=grew_grown BW2.out g3 (by simp)
   have Y3:Hid (Box W3 w.heap.size Z0):=YW2.out.beside g3 (by intro g hg;cases hg;simp)
   have P3:Hid (Box W3 p [.int .i64 q.fr,.int .i64 q.tz,.bool q.rd,.bool q.wr,.bool q.sh,.int .i64 q.file,.int .i64 q.base]):=PW2.out.beside g3 (by intro g hg;cases hg;have:=HLP.out;omega)
   clear b3 g3 s3 p1 p2 p3 p4 p5;have p5:=P3.out.c 5 rfl
   by_cases hfile:0<=q.file
   ·have HONE:Hid (oneOf q k2=⟨true,q.rd,q.wr,q.sh,q.file,q.base+(k2:Int) - q.fr⟩):=dD<|by
     unfold oneOf;rw[if_pos hfile]
     congr 1
     omega
    have p0:=P3.out.c 0 rfl;have p6:=P3.out.c 6 rfl;have l5:=L3.out.c (k2*6+5) (cellsO_at (tab_at hi64) 5 (.int .i64 0) (by unfold upd;rw[if_pos rfl];rfl))
    have lf:=L3.out.f;go_upto_region 7 with fail;obtain⟨W4,hW4⟩:∃W4,W3.setCell ⟨w.heap.size+1,k2*6+5,none⟩ (.int .i64 (q.base+(k2:Int) - q.fr))=W4:=⟨_,rfl⟩;have L4:Hid (Box W4 (w.heap.size+1) (cellsO (tab (midF l kk q (k2+1))))):=dD<|by
     rw[<-hW4];have:=L3.out.onCell hi64 5 (.int .i64 (q.base+(k2:Int) - q.fr)) (oneOf q k2) (by rw[HONE.out];unfold upd;rw[if_pos rfl];rfl) (by omega)
     rw[upd_upd,HST.out]at this;exact this
    have G4:Hid (Grew w W4):=dD<|by rw[<-hW4];exact grew_set G3.out (by simp) _
    have Y4:Hid (Box W4 w.heap.size Z0):=dD<|by rw[<-hW4];exact Y3.out.other (by simp) _
    have P4:Hid (Box W4 p [.int .i64 q.fr,.int .i64 q.tz,.bool q.rd,.bool q.wr,.bool q.sh,.int .i64 q.file,.int .i64 q.base]):=dD<|by rw[<-hW4];exact P3.out.other (by have:=HLP.out;simp;omega) _
    rw[hW4];clear hW4 l5 lf p0 p5 p6;go_wp2
    go_roundg (q.tz.toNat -(k2+1))
    case measure=>omega
    exact⟨k2+1,by omega,by omega,by omega,by go_num,G4.out,Y4.out,L4.out,P4.out⟩
   have HONE:Hid (oneOf q k2=⟨true,q.rd,q.wr,q.sh,q.file,0⟩):=dD<|by
    unfold oneOf;rw[if_neg hfile]
   have L4:Hid (Box W3 (w.heap.size+1) (cellsO (tab (midF l kk q (k2+1))))):=dD<|by rw[<-HST.out,HONE.out];exact L3.out
   go_wp2
   go_roundg (q.tz.toNat -(k2+1))
   case measure=>omega
   exact⟨k2+1,by omega,by omega,by omega,by go_num,G3.out,Y3.out,L4.out,P3.out⟩
  have hke:(k2:Int)=q.tz:=by omega
  have LE:Hid (Box wr (w.heap.size+1) (cellsO (tab (onAt (l.take (kk+1)))))):=dD<|by rw[<-midO_end HOK.out HQ.out hke];exact LW2.out
  go_wp2
  go_roundg (n -(kk+1))
  case measure=>omega
  exact⟨kk+1,by omega,by omega,by go_num,BW2.out,YW2.out,LE.out⟩
 have hltz:¬(kk:Int)< (n:Int):=by omega
 have:kk=n:=by omega
 subst this;have LE:Hid (Box wr (w.heap.size+1) C):=dD<|by rw[<-HC.out];have:=LW.out;rw[<-HN.out,List.take_length]at this;exact this
 have HFL:Hid (C.length=384):=dD<|by rw[<-HC.out,tabO_len]
 have HFO:Hid (∀v∈C,v.oneCell'=true):=dD<|by rw[<-HC.out];exact cellsO_one _
 go_wp2_with (first | refine wp_loadAll rfl 97 (.tmp 3) rfl (w.heap.size+1) rfl LE.out underlying97 rfl (by rw[HFL.out];exact Tryz.sizeOnes) ?_ | refine wp_storeAll rfl 97 (.tmp 2) (.tmp 46) rfl w.heap.size rfl C rfl YW.out (by rw[HFL.out,HZL.out]) (by rw[HZL.out];exact Tryz.sizeOnes) HFO.out ?_)
 intro W3 b3 g3 s3;have G3:Hid (Grew w W3):=dD<|grew_grown BW.out g3 (by simp)
 have B3:Hid (Box W3 w.heap.size C):=b3;clear b3 g3 s3;go_wp2;refine bodyPost_ret (ret_cell rfl _ rfl B3.out underlying97 rfl (by rw[HFL.out];exact Tryz.sizeOnes)) rfl ⟨rfl,G3.out⟩
theorem partF_is {f:Nat->On} {k:Nat} (h:(f k).is=true):partF f k=⟨k,(k:Int)+1,(f k).rd,(f k).wr,(f k).sh,(f k).file,(f k).page⟩:=by
 unfold partF arOf;rw[if_pos h]
end
end Go.Proofs.YtangilolcekceaaGreat
