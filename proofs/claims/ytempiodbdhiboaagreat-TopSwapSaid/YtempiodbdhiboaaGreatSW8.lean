import Derived.Test.YtempiodbdhiboaaGreatSW7
import Derived.Deep.DeepCutAuto
import Derived.Deep.Cut
namespace Go.Proofs.YtempiodbdhiboaaGreat
open Go.Value renaming slice→O,int→Xe,bool→Xh,agg→Xi,pointer→Xj,tuple→Xm
open Go.IntKind renaming i64→Xf,u8→Xg
open Go.Obj renaming cells→Xk
open Go.Ending renaming returned→Xl
open Go renaming World→Xn,Calls→Xp,Value→Xq
open Go.RowKit renaming Hid→Xo
open Option renaming some→Xa,none→Xb
open Bool renaming true→Xc,false→Xd
open List renaming replicate→Xr
open Go.Act renaming put→Xs
open _root_.Nat renaming lt_of_lt_of_le→Xt
open _root_.List renaming getElem?_append_left→Xu,mem_cons_self→Xv,mem_singleton→Xw,countP_pos_iff→Xy
open _root_.Array renaming replicate→Xx
open Go.Sem renaming run_bind→Xz
set_option maxRecDepth 100000
set_option maxHeartbeats 4000000
section
open Go.RowKit
def KLoad (m:Ma) (BF:Nat->Nat->Ar->Pg->Bool->Bool × Nat × Ma) (c:Cl) (er n:Int) (l:List Int) (m':Ma):Prop:=
 (n=0/\l=[]/\KErr m BF c c.n Xd er)\/(er=0/\n=c.n/\∃(kk:Nat) (fr:Fr),KFine m BF c c.n Xd kk m' fr/\l=((pgL fr.p).drop (c.pt % 8).toNat).take c.n.toNat)
theorem run_buildA {n:Int} {sa:Option Addr} {sn sc:Nat} (o:Oper) (a:Act) (x y:Operand) (w:Xn) (ho:o.op= .build 50 #[(1,x),(2,y)]) (hx:a.eval x= Xe Xf n) (hy:a.eval y= O sa sn sc):(execOp a.eval o).run Tryz.prog w= .ok (.value (Xi #[Xe Xf 0,Xe Xf n,O sa sn sc])) w:=by
 simp only[execOp,ho,List.map_toArray,mP,List.map_nil,hx,hy]
 go_simp
theorem kload_any {w0 w:Xn} {p:Nat} {V:MaV} {m:Ma} (h:ChW w0 p w V m) (c:Cl) (BF:Nat->Nat->Ar->Pg->Bool->Bool × Nat × Ma) (hb1:-9223372036854775808<=c.pt) (hb2:c.pt<=9223372036854775807) (hb3:-9223372036854775808<=c.n) (hb4:c.n<=9223372036854775807)
  (hU:∀W,Grew w W->Xp Tryz.prog 140 #[Xi #[O V.f.a V.f.n V.f.c,Xe Xf m.hand,O V.s.a V.s.n V.s.c,O V.sb.a V.sb.n V.sb.c,O V.sq.a V.sq.n V.sq.c,O V.db.a V.db.n V.db.c,O V.dq.a V.dq.n V.dq.c,O V.fl.a V.fl.n V.fl.c,Xe Xf m.cnt,O V.ca.a V.ca.n V.ca.c,O V.sp.a V.sp.n V.sp.c],Xe Xf c.proc,Xe Xf (c.pt / 8),Xh Xd] W fun e w'=>((∃er:Int,e= Xl (Xm #[Xi zeroM.toArray,Xe Xf 0,Xe Xf er])/\NotUsed m BF c.proc (c.pt / 8) Xd er)\/(∃(V':MaV) (k pc:Nat) (m':Ma),e= Xl (Xm #[Xi #[O V'.f.a V'.f.n V'.f.c,Xe Xf m'.hand,O V'.s.a V'.s.n V'.s.c,O V'.sb.a V'.sb.n V'.sb.c,O V'.sq.a V'.sq.n V'.sq.c,O V'.db.a V'.db.n V'.db.c,O V'.dq.a V'.dq.n V'.dq.c,O V'.fl.a V'.fl.n V'.fl.c,Xe Xf m'.cnt,O V'.ca.a V'.ca.n V'.ca.c,O V'.sp.a V'.sp.n V'.sp.c],Xe Xf (k:Int),Xe Xf 0])/\Used m BF c.proc (c.pt / 8) Xd k m'/\ChW W pc w' V' m'))/\Grew W w')
  (hI:∀(kk:Nat) (m':Ma),Used m BF c.proc (c.pt / 8) Xd kk m'->∃fr:Fr,m'.fs[kk]? =Xa fr/\(fr.f=-1\/∃(j:Nat) (fl:Fl),fr.f=(j:Int)/\m'.fl[j]? =Xa fl)/\0<=fr.x/\fr.x<1000):
  Xp Tryz.prog 38 #[Xj (Xa ⟨p,0,Xb⟩),Xi #[Xe Xf c.kind,Xe Xf c.proc,Xe Xf c.pt,Xe Xf c.n,Xe Xf c.file,Xe Xf c.base,Xh c.rd,Xh c.wr,Xh c.sh,O c.dv.a c.dv.n c.dv.c]] w fun e w'=>WorkA (KLoad m BF c) w0 p w e w':=by
 have HM:Xo (ChW w0 p w V m):=h;have HPW:Xo (p<w.heap.size):=h.dlt p (.inl rfl);obtain⟨b,HB⟩:∃b,Xo (w.heap.size=b):=⟨_,rfl⟩;obtain⟨W1,hW1⟩:∃W1,(w.alloc (Xk #[Xe Xf c.kind,Xe Xf c.proc,Xe Xf c.pt,Xe Xf c.n,Xe Xf c.file,Xe Xf c.base,Xh c.rd,Xh c.wr,Xh c.sh,O c.dv.a c.dv.n c.dv.c] 26)).alloc (Xk #[Xe Xf 0,Xe Xf 0,O Xb 0 0] 50)=W1:=⟨_,rfl⟩;have G1:=gD2 hW1
 have X1:Xo (BoxT W1 b 26 [Xe Xf c.kind,Xe Xf c.proc,Xe Xf c.pt,Xe Xf c.n,Xe Xf c.file,Xe Xf c.base,Xh c.rd,Xh c.wr,Xh c.sh,O c.dv.a c.dv.n c.dv.c]):=show BoxT _ _ _ _ by rw[<-hW1];exact(BoxT.top w [Xe Xf c.kind,Xe Xf c.proc,Xe Xf c.pt,Xe Xf c.n,Xe Xf c.file,Xe Xf c.base,Xh c.rd,Xh c.wr,Xh c.sh,O c.dv.a c.dv.n c.dv.c] _ HB.out.symm).grew (grew_alloc _ _)
 have A1:Xo (BoxT W1 (b+1) 50 [Xe Xf 0,Xe Xf 0,O Xb 0 0]):=show BoxT _ _ _ _ by rw[<-hW1];exact BoxT.top _ [Xe Xf 0,Xe Xf 0,O Xb 0 0] _ (by have:=HB.out;simp;omega)
 have HBL:Xo (b+1<W1.heap.size):=A1.out.box.lt;have HPB:Xo (p<b):=show _<_ by have:=HPW.out;have:=HB.out;omega
 have HL:Xo (w0.heap.size<=b):=show _<=_ by have:=HM.out.lo;have:=HPB.out;omega
 have HW1:Xo (_=W1):=hW1;have hku:=kuse_any (h.grew G1.out) c c.n Xd BF hb1 hb2 hb3 hb4 (fun W hW=>hU W (G1.out.trans hW)) hI
 have HBD:Xo (c.pt<=9223372036854775807):=hb2;clear hW1 h hU hI hb1 hb2;clear hb3 hb4;have x3:=X1.out.box.c 3 rfl
 go_enter Tryz.func38,Tryz.ntmps38
 go_upto_region 1 with fail;rw[HW1.out,HB.out];clear HW1
 go_wp2_with (first | refine wp_loadAll rfl 26 (.tmp 3) rfl b rfl X1.out.box Tryz.underlying26 rfl (by kernel_rfl) ?_ | (go_at_call 81;refine hku.mono ?_))
 clear hku x3;rintro e W2 ⟨k,er,rfl,o2,g2,hk⟩;have A2:Xo (BoxT W2 (b+1) 50 [Xe Xf 0,Xe Xf 0,O Xb 0 0]):=show BoxT _ _ _ _ from A1.out.outD o2 (by have:=HPB.out;omega)
 have X2:Xo (BoxT W2 b 26 [Xe Xf c.kind,Xe Xf c.proc,Xe Xf c.pt,Xe Xf c.n,Xe Xf c.file,Xe Xf c.base,Xh c.rd,Xh c.wr,Xh c.sh,O c.dv.a c.dv.n c.dv.c]):=show BoxT _ _ _ _ from X1.out.outD o2 (by have:=HPB.out;omega)
 have G2:Xo (Grew w0 W2):=g2;have O2:Xo (OutD (fun k=>k=p) w W2):=show OutD _ _ _ from(OutD.grew G1.out).trans o2
 clear o2 g2 X1 A1
 rcases hk with hke | ⟨rfl,kk,m',fr,V',B,rfl,hf,hbx,hB,hown⟩
 ·skip
  have hne:=hke.ne;have hz:(er != 0)=Xc:=by simp[hne]
  have hrf:=refused_any er W2;have HKE:Xo _:=show KErr _ _ _ _ _ _ from hke
  have HNE:Xo (er≠0):=hne;clear hke hne;go_wp2_with fail;refine hrf.mono ?_;rintro e W3 ⟨rfl,g3⟩;have A3:=dD (A2.out.grew g3);have G3:=dD (G2.out.trans g3);have Q3:Xo (Grew W2 W3):=g3;clear hrf g3;unfold ansV noS
  go_wp2_with (refine wp_storeAllT rfl 50 (.tmp 4) (.tmp 18) rfl (b+1) rfl [Xe Xf er,Xe Xf 0,O Xb 0 0] rfl A3.out rfl (by kernel_rfl) (by simp[Value.oneCell']) ?_)
  intro W4 b4 g4 _;have G4:Xo (Grew w0 W4):=show Grew _ _ from grew_grown G3.out g4 (by have:=HL.out;omega)
  have A4:Xo (BoxT W4 (b+1) 50 [Xe Xf er,Xe Xf 0,O Xb 0 0]):=b4;have O4:Xo (OutD (fun k=>k=p) w W4):=show OutD _ _ _ from(O2.out.trans (OutD.grew Q3.out)).beyond g4 (by have:=HB.out;omega)
  clear b4 g4;go_wp2;refine bodyPost_ret (ret_cell rfl _ rfl A4.out.box Tryz.underlying50 rfl (by kernel_rfl)) rfl (WorkA.err (V:=V) (m:=m) HNE.out (.inl ⟨rfl,rfl,HKE.out⟩) O4.out G4.out)
 have HF:Xo (KFine m BF c c.n Xd kk m' fr):=hf;have P2:Xo (BoxT W2 p 88 (chL V' m')):=hbx;have N2:Xo (OwnB B W2 V' m'):=hown;have HBB:Xo (b+1<B):=show _<_ by have:=HBL.out;omega
 have HWB:Xo (w.heap.size<=B):=show _<=_ from nT (bS G1.out) hB
 have HFR:Xo (m'.fs[kk]? =Xa fr):=hf.2.2.1;have HW3:Xo (0<=c.pt/\0<=c.n/\c.n<=8 - c.pt % 8):=show _/\_ from of_decide_eq_true hf.1
 clear hf hbx hB hown HBL;obtain⟨i,HI⟩:∃i:Nat,Xo (c.pt % 8=(i:Int)):=⟨(c.pt % 8).toNat,show _=_ by omega⟩
 obtain⟨nn,HN⟩:∃nn:Nat,Xo (c.n=(nn:Int)):=⟨c.n.toNat,show _=_ by have:=HW3.out.2.1;omega⟩
 have HIN:Xo (i<8/\i+nn<=8):=show _/\_ by have h1:=HW3.out;have h2:=HI.out;have h3:=HN.out;rw[h2,h3]at h1;omega
 have HR8:Xo (∀(o:Oper) (a:Act) (x:Operand) (w:Xn),o.op= .binOp .rem 3 x (.const (Xe Xf 8)) 3->a.eval x= Xe Xf c.pt->(execOp a.eval o).run Tryz.prog w= .ok (.value (Xe Xf (i:Int))) w):=show∀(o:Oper) (a:Act) (x:Operand) (w:Xn),_ from fun o a x w h1 h2=>by rw[<-HI.out];exact run_rem8 HW3.out.1 o a x w h1 h2
 have hkl:=(gS.1 HFR.out).1;obtain⟨g7,c7,heq⟩:=N2.out.fs.formS (by omega)
 have HF0:Xo (∀W,OutD (fun k=>k=b+1) W2 W->W.cell? ⟨p,0,Xb⟩=Xa (O (Xa ⟨g7,0,Xb⟩) m'.fs.length c7)):=show∀W,_ from fun W hW=>by rw[<-heq];exact(P2.out.outD hW (by have:=HPB.out;omega)).box.c 0 rfl
 have HFO:Xo (∀W,OutD (fun k=>k=b+1) W2 W->OwnRow frmE B W (O (Xa ⟨g7,0,Xb⟩) m'.fs.length c7) m'.fs):=show∀W,_ from fun W hW=>by rw[<-heq];exact(N2.out.out (hW.wide fun k hk=>by have hk:k=b+1:=hk;have:=HBB.out;omega)).fs
 have HXX:Xo (∀W,OutD (fun k=>k=b+1) W2 W->Box W b [Xe Xf c.kind,Xe Xf c.proc,Xe Xf c.pt,Xe Xf c.n,Xe Xf c.file,Xe Xf c.base,Xh c.rd,Xh c.wr,Xh c.sh,O c.dv.a c.dv.n c.dv.c]):=show∀W,_ from fun W hW=>(X2.out.outD hW (by omega)).box
 have HKL:Xo (kk<m'.fs.length):=hkl;obtain⟨fn,HFN⟩:∃fn,Xo (m'.fs.length=fn):=⟨_,rfl⟩;rw[HFN.out]at HFO HF0 HKL;clear heq hkl;obtain⟨⟨b0,b1,b2,b3,b4,b5,b6,b7⟩,r,u,d,f,x⟩:=fr;have HRG:Xo (∀W,OutD (fun k=>k=b+1) W2 W->W.rangeAt g7 (kk*13) [Xe Xg b0,Xe Xg b1,Xe Xg b2,Xe Xg b3,Xe Xg b4,Xe Xg b5,Xe Xg b6,Xe Xg b7]):=show∀W,_ from fun W hW j v hj=>(HFO.out W hW).range1 HFR.out j v (by
  have hlt:=(gS.1 hj).1
  show([Xe Xg b0,Xe Xg b1,Xe Xg b2,Xe Xg b3,Xe Xg b4,Xe Xg b5,Xe Xg b6,Xe Xg b7]++ [Xe Xf r,Xh u,Xh d,Xe Xf f,Xe Xf x])[j]? =Xa v
  rw[Xu hlt];exact hj)
 go_upto_region 4 with fail;refine wp_region_held (S:=fun W=>OutD (fun k=>k=b+1) W2 W) mixed ?_
 show wpAnyH _ _ _ _ _ 20 (Xx 20 Xd) _ W2.drew
 have GD0:Grew W2 W2.drew:=(gW _)
 have GD:OutD (fun k=>k=b+1) W2 W2.drew:=OutD.grew GD0
 refine takeH 0 (Xa 19) (Xj (Xa ⟨b,3,Xb⟩)) rfl rfl (by kernel_rfl) (by kernel_rfl) (by kernel_rfl) (fun _ _ _ h=>h) (.inl ⟨rfl,fun _ _=>rfl⟩) GD ?_
 simp only[Xs,sB,sS,sZ];refine takeH 1 (Xa 20) (Xe Xf c.n) rfl rfl (by kernel_rfl) (by kernel_rfl) (by kernel_rfl) (fun _ _ _ h=>h) (.inl ⟨rfl,fun W hW=>run_load1 _ (.tmp 19) rfl ⟨b,3,Xb⟩ rfl (Xe Xf c.n) ((HXX.out W hW).c 3 rfl) Tryz.underlying3 rfl⟩) GD ?_
 simp only[Xs,sB,sS,sZ];refine takeH 2 (Xa 21) (Xj (Xa ⟨p,0,Xb⟩)) rfl rfl (by kernel_rfl) (by kernel_rfl) (by kernel_rfl) (fun _ _ _ h=>h) (.inl ⟨rfl,fun _ _=>rfl⟩) GD ?_
 simp only[Xs,sB,sS,sZ];refine takeH 3 (Xa 22) (Xj (Xa ⟨p,0,Xb⟩)) rfl rfl (by kernel_rfl) (by kernel_rfl) (by kernel_rfl) (fun _ _ _ h=>h) (.inl ⟨rfl,fun _ _=>rfl⟩) GD ?_
 simp only[Xs,sB,sS,sZ];refine takeH 4 (Xa 23) (Xj (Xa ⟨p,0,Xb⟩)) rfl rfl (by kernel_rfl) (by kernel_rfl) (by kernel_rfl) (fun _ _ _ h=>h) (.inl ⟨rfl,fun _ _=>rfl⟩) GD ?_
 simp only[Xs,sB,sS,sZ];refine takeH 5 (Xa 24) (Xj (Xa ⟨p,0,Xb⟩)) rfl rfl (by kernel_rfl) (by kernel_rfl) (by kernel_rfl) (fun _ _ _ h=>h) (.inl ⟨rfl,fun _ _=>rfl⟩) GD ?_
 simp only[Xs,sB,sS,sZ];refine takeH 6 (Xa 25) (Xj (Xa ⟨p,0,Xb⟩)) rfl rfl (by kernel_rfl) (by kernel_rfl) (by kernel_rfl) (fun _ _ _ h=>h) (.inl ⟨rfl,fun _ _=>rfl⟩) GD ?_
 simp only[Xs,sB,sS,sZ];refine takeH 7 (Xa 26) (O (Xa ⟨g7,0,Xb⟩) fn c7) rfl rfl (by kernel_rfl) (by kernel_rfl) (by kernel_rfl) (fun _ _ _ h=>h) (.inl ⟨rfl,fun W hW=>run_load1 _ (.tmp 25) rfl ⟨p,0,Xb⟩ rfl (O (Xa ⟨g7,0,Xb⟩) fn c7) (HF0.out W hW) Tryz.underlying27 rfl⟩) GD ?_
 simp only[Xs,sB,sS,sZ];refine takeH 8 (Xa 27) (Xe Xf (kk:Int)) rfl rfl (by kernel_rfl) (by kernel_rfl) (by kernel_rfl) (fun _ _ _ h=>h) (.inl ⟨rfl,fun _ _=>rfl⟩) GD ?_
 simp only[Xs,sB,sS,sZ];refine takeH 9 (Xa 28) (Xj (Xa ⟨g7,kk*13,Xb⟩)) rfl rfl (by kernel_rfl) (by kernel_rfl) (by kernel_rfl) (fun _ _ _ h=>h) (.inl ⟨rfl,fun W _=>run_idxF _ _ _ _ W rfl rfl rfl HKL.out⟩) GD ?_
 simp only[Xs,sB,sS,sZ];refine takeH 10 (Xa 29) (Xj (Xa ⟨g7,kk*13,Xb⟩)) rfl rfl (by kernel_rfl) (by kernel_rfl) (by kernel_rfl) (fun _ _ _ h=>h) (.inl ⟨rfl,fun _ _=>rfl⟩) GD ?_
 simp only[Xs,sB,sS,sZ];refine takeH 11 (Xa 30) (Xi #[Xe Xg b0,Xe Xg b1,Xe Xg b2,Xe Xg b3,Xe Xg b4,Xe Xg b5,Xe Xg b6,Xe Xg b7]) rfl rfl (by kernel_rfl) (by kernel_rfl) (by kernel_rfl) (fun _ _ _ h=>h) (yieldsIf_load_mid rfl 91 (.tmp 29) rfl g7 (kk*13) rfl [Xe Xg b0,Xe Xg b1,Xe Xg b2,Xe Xg b3,Xe Xg b4,Xe Xg b5,Xe Xg b6,Xe Xg b7] _ (fun W hW=>HRG.out W hW) Tryz.underlying91 rfl (by kernel_rfl)) GD ?_
 simp only[Xs,sB,sS,sZ];refine takeH 12 (Xa 31) (Xj (Xa ⟨b,2,Xb⟩)) rfl rfl (by kernel_rfl) (by kernel_rfl) (by kernel_rfl) (fun _ _ _ h=>h) (.inl ⟨rfl,fun _ _=>rfl⟩) GD ?_
 simp only[Xs,sB,sS,sZ];refine takeH 13 (Xa 32) (Xe Xf c.pt) rfl rfl (by kernel_rfl) (by kernel_rfl) (by kernel_rfl) (fun _ _ _ h=>h) (.inl ⟨rfl,fun W hW=>run_load1 _ (.tmp 31) rfl ⟨b,2,Xb⟩ rfl (Xe Xf c.pt) ((HXX.out W hW).c 2 rfl) Tryz.underlying3 rfl⟩) GD ?_
 simp only[Xs,sB,sS,sZ];refine takeH 14 (Xa 33) (Xe Xf (i:Int)) rfl rfl (by kernel_rfl) (by kernel_rfl) (by kernel_rfl) (fun _ _ _ h=>h) (.inl ⟨rfl,fun W _=>HR8.out _ _ _ W rfl rfl⟩) GD ?_
 simp only[Xs,sB,sS,sZ];refine takeH 15 (Xa 34) (Xj (Xa ⟨b,3,Xb⟩)) rfl rfl (by kernel_rfl) (by kernel_rfl) (by kernel_rfl) (fun _ _ _ h=>h) (.inl ⟨rfl,fun _ _=>rfl⟩) GD ?_
 simp only[Xs,sB,sS,sZ];refine takeH 16 (Xa 35) (Xe Xf (nn:Int)) rfl rfl (by kernel_rfl) (by kernel_rfl) (by kernel_rfl) (fun _ _ _ h=>h) (.inl ⟨rfl,fun W hW=>run_load1 _ (.tmp 34) rfl ⟨b,3,Xb⟩ rfl (Xe Xf (nn:Int)) (by rw[<-HN.out];exact(HXX.out W hW).c 3 rfl) Tryz.underlying3 rfl⟩) GD ?_
 simp only[Xs,sB,sS,sZ];refine wpAnyH_all (rs:=[17]) (by kernel_rfl) (by simp) ?_
 intro j hj;simp only[mC,nM,or_false]at hj;subst hj;refine wpOp_does (Xa 36) (fun v w'=>∃s:Sli,v= O s.a s.n s.c/\RowAt byE w' v (([b0,b1,b2,b3,b4,b5,b6,b7].drop i).take nn)/\(OwnRow byE W2.heap.size w' v (([b0,b1,b2,b3,b4,b5,b6,b7].drop i).take nn))/\Grew W2 w') rfl rfl rfl (Does.call [Xi #[Xe Xg b0,Xe Xg b1,Xe Xg b2,Xe Xg b3,Xe Xg b4,Xe Xg b5,Xe Xg b6,Xe Xg b7],Xe Xf (i:Int),Xe Xf (nn:Int)] rfl Tryz.func82 rfl rfl rfl ((pageGetAt_any [b0,b1,b2,b3,b4,b5,b6,b7] i nn W2.drew rfl HIN.out.1 HIN.out.2).mono ?_)) ?_
 ·rintro e w' ⟨v,rfl,ho,hg⟩;obtain⟨a9,c9,rfl⟩:=ho.form;exact⟨_,rfl,⟨a9,_,c9⟩,rfl,ho.at,ho.base (bS GD0),GD0.trans hg⟩
 rintro v WT ⟨s,rfl,hrow,hown,gt⟩;have got:OutD (fun k=>k=b+1) W2 WT:=OutD.grew gt
 refine⟨got,?_⟩;simp only[Xs,sB,sS,sZ];refine takeH 18 (Xa 37) (Xi #[Xe Xf 0,Xe Xf c.n,O s.a s.n s.c]) rfl rfl (by kernel_rfl) (by kernel_rfl) (by kernel_rfl) (fun _ _ _ h=>h) (.inl ⟨rfl,fun W _=>run_buildA _ _ _ _ W rfl rfl rfl⟩) got ?_
 simp only[Xs,sB,sS,sZ];refine wpAnyH_all (rs:=[19]) (by kernel_rfl) (by simp) ?_
 intro j hj;simp only[mC,nM,or_false]at hj;subst hj;refine wpOp_does Xb (fun v w'=>BoxT w' (b+1) 50 [Xe Xf 0,Xe Xf c.n,O s.a s.n s.c]/\WT.grownBy w' (Xa (b+1))) rfl rfl rfl (Does.storeAllT 50 (.tmp 4) (.tmp 37) rfl (b+1) rfl [Xe Xf 0,Xe Xf c.n,O s.a s.n s.c] rfl (A2.out.grew gt) rfl (by kernel_rfl) (by simp[Value.oneCell']) (fun w' b' g' s'=>⟨b',g'⟩)) ?_
 rintro v WS ⟨bs,gs⟩;have HFIN:Xo (WorkA (KLoad m BF c) w0 p w (Xl (ansV 0 c.n s)) WS):=show WorkA _ _ _ _ _ _ from by
  have e1:(c.pt % 8).toNat=i:=by rw[HI.out];rfl
  have e2:c.n.toNat=nn:=by rw[HN.out];rfl
  have k1:=hown.grown gs (fun k hk e=>by cases e;have h1:=(hown.lt _ hk).1;have h2:=A2.out.box.lt;omega)
  have k2:=(N2.out.grew gt).out (OutD.grown gs HBB.out);refine⟨0,c.n,s,_,V',m',rfl,.inr ⟨rfl,rfl,kk,_,HF.out,rfl⟩,(O2.out.trans (OutD.grew gt)).beyond gs (by have:=HB.out;omega),grew_grown (G2.out.trans gt) gs (by have:=HL.out;omega),fun W hW=>?_,fun _=>⟨(P2.out.grew gt).beside gs (fun k e=>by cases e;have:=HPB.out;omega),fun W hW=>(k2.out (hW.wide fun k hk=>Xt hk HWB.out)).at⟩⟩
  rw[e1,e2];exact OwnRow.at (base:=W2.heap.size) ⟨owns_outD k1.1 hW (fun g hg e=>by have h1:=(k1.lt g hg).1;have e:g<w.heap.size:=e;have h2:=O2.out.size;omega),k1.2⟩
 have BS:Xo (BoxT WS (b+1) 50 [Xe Xf 0,Xe Xf c.n,O s.a s.n s.c]):=bs;refine⟨got.trans (OutD.grown gs rfl),?_⟩;simp only[Xs];refine wpAnyH_done (by kernel_rfl) ?_ _
 clear bs gs hrow hown gt got;go_wp2;refine bodyPost_ret (ret_cell rfl _ rfl BS.out.box Tryz.underlying50 rfl (by kernel_rfl)) rfl HFIN.out
theorem spliceI_len {cs vs:List Int} {o:Nat} (h:o+vs.length<=cs.length):(splice cs o vs).length=cs.length:=by
 unfold splice;simp only[lA,List.length_take,List.length_drop];omega
theorem run_loadR {o:Oper} {a:Act} (w:Xn) (ty:TypeId) (x:Operand) (ho:o.op= .load ty x) (b off:Nat) (hx:a.eval x= Xj (Xa ⟨b,off,Xb⟩)) (vs:List Xq) (hc:w.rangeAt b off vs) {d:TypeDesc} (hu:Tryz.prog.underlying ty=Xa d) (hd:d.isRow=Xc) (hi:(Tryz.prog.info? ty).map (·.size)=Xa vs.length):(execOp a.eval o).run Tryz.prog w= .ok (.value (Xi vs.toArray)) w:=by
 have:=run_loadAt_mid (P:=Tryz.prog) w b off ty vs d hc hu hd hi;simp only[execOp,ho,hx,Xz,this,rA,Sem.run_pure]
def KStore (m:Ma) (BF:Nat->Nat->Ar->Pg->Bool->Bool × Nat × Ma) (c:Cl) (ns:List Int) (er n:Int) (l:List Int) (m'':Ma):Prop:=
 l=[]/\((n=0/\KErr m BF c (c.dv.n:Int) Xc er)\/(er=0/\n=(c.dv.n:Int)/\∃(kk:Nat) (m':Ma) (fr:Fr) (pg:Pg),KFine m BF c (c.dv.n:Int) Xc kk m' fr/\splice (pgL fr.p) (c.pt % 8).toNat ns=pgL pg/\m''={ m' with fs:=m'.fs.set kk { fr with p:=pg } }))
theorem kstore_any {w0 w:Xn} {p:Nat} {V:MaV} {m:Ma} (h:ChW w0 p w V m) (c:Cl) (ns:List Int) (BF:Nat->Nat->Ar->Pg->Bool->Bool × Nat × Ma) (hb1:-9223372036854775808<=c.pt) (hb2:c.pt<=9223372036854775807) (hD:RowAt byE w0 (O c.dv.a c.dv.n c.dv.c) ns) (hb4:(c.dv.n:Int)<=9223372036854775807)
  (hU:∀W,Grew w W->Xp Tryz.prog 140 #[Xi #[O V.f.a V.f.n V.f.c,Xe Xf m.hand,O V.s.a V.s.n V.s.c,O V.sb.a V.sb.n V.sb.c,O V.sq.a V.sq.n V.sq.c,O V.db.a V.db.n V.db.c,O V.dq.a V.dq.n V.dq.c,O V.fl.a V.fl.n V.fl.c,Xe Xf m.cnt,O V.ca.a V.ca.n V.ca.c,O V.sp.a V.sp.n V.sp.c],Xe Xf c.proc,Xe Xf (c.pt / 8),Xh Xc] W fun e w'=>((∃er:Int,e= Xl (Xm #[Xi zeroM.toArray,Xe Xf 0,Xe Xf er])/\NotUsed m BF c.proc (c.pt / 8) Xc er)\/(∃(V':MaV) (k pc:Nat) (m':Ma),e= Xl (Xm #[Xi #[O V'.f.a V'.f.n V'.f.c,Xe Xf m'.hand,O V'.s.a V'.s.n V'.s.c,O V'.sb.a V'.sb.n V'.sb.c,O V'.sq.a V'.sq.n V'.sq.c,O V'.db.a V'.db.n V'.db.c,O V'.dq.a V'.dq.n V'.dq.c,O V'.fl.a V'.fl.n V'.fl.c,Xe Xf m'.cnt,O V'.ca.a V'.ca.n V'.ca.c,O V'.sp.a V'.sp.n V'.sp.c],Xe Xf (k:Int),Xe Xf 0])/\Used m BF c.proc (c.pt / 8) Xc k m'/\ChW W pc w' V' m'))/\Grew W w')
  (hI:∀(kk:Nat) (m':Ma),Used m BF c.proc (c.pt / 8) Xc kk m'->∃fr:Fr,m'.fs[kk]? =Xa fr/\(fr.f=-1\/∃(j:Nat) (fl:Fl),fr.f=(j:Int)/\m'.fl[j]? =Xa fl)/\0<=fr.x/\fr.x<1000):
  Xp Tryz.prog 39 #[Xj (Xa ⟨p,0,Xb⟩),Xi #[Xe Xf c.kind,Xe Xf c.proc,Xe Xf c.pt,Xe Xf c.n,Xe Xf c.file,Xe Xf c.base,Xh c.rd,Xh c.wr,Xh c.sh,O c.dv.a c.dv.n c.dv.c]] w fun e w'=>WorkA (KStore m BF c ns) w0 p w e w':=by
 have HM:Xo (ChW w0 p w V m):=h;have HPW:Xo (p<w.heap.size):=h.dlt p (.inl rfl);obtain⟨b,HB⟩:∃b,Xo (w.heap.size=b):=⟨_,rfl⟩;obtain⟨W1,hW1⟩:∃W1,(w.alloc (Xk #[Xe Xf c.kind,Xe Xf c.proc,Xe Xf c.pt,Xe Xf c.n,Xe Xf c.file,Xe Xf c.base,Xh c.rd,Xh c.wr,Xh c.sh,O c.dv.a c.dv.n c.dv.c] 26)).alloc (Xk #[Xe Xf 0,Xe Xf 0,O Xb 0 0] 50)=W1:=⟨_,rfl⟩;have G1:=gD2 hW1
 have X1:Xo (BoxT W1 b 26 [Xe Xf c.kind,Xe Xf c.proc,Xe Xf c.pt,Xe Xf c.n,Xe Xf c.file,Xe Xf c.base,Xh c.rd,Xh c.wr,Xh c.sh,O c.dv.a c.dv.n c.dv.c]):=show BoxT _ _ _ _ by rw[<-hW1];exact(BoxT.top w [Xe Xf c.kind,Xe Xf c.proc,Xe Xf c.pt,Xe Xf c.n,Xe Xf c.file,Xe Xf c.base,Xh c.rd,Xh c.wr,Xh c.sh,O c.dv.a c.dv.n c.dv.c] _ HB.out.symm).grew (grew_alloc _ _)
 have A1:Xo (BoxT W1 (b+1) 50 [Xe Xf 0,Xe Xf 0,O Xb 0 0]):=show BoxT _ _ _ _ by rw[<-hW1];exact BoxT.top _ [Xe Xf 0,Xe Xf 0,O Xb 0 0] _ (by have:=HB.out;simp;omega)
 have HBL:Xo (b+1<W1.heap.size):=A1.out.box.lt;have HPB:Xo (p<b):=show _<_ by have:=HPW.out;have:=HB.out;omega
 have HL:Xo (w0.heap.size<=b):=show _<=_ by have:=HM.out.lo;have:=HPB.out;omega
 have HW1:Xo (_=W1):=hW1;have hku:=kuse_any (h.grew G1.out) c (c.dv.n:Int) Xc BF hb1 hb2 (by omega) hb4 (fun W hW=>hU W (G1.out.trans hW)) hI
 have HBD:Xo (c.pt<=9223372036854775807):=hb2;clear hW1 h hU hI hb1 hb2;clear hb4;have HD:Xo (RowAt byE w0 (O c.dv.a c.dv.n c.dv.c) ns):=hD;have HDN:Xo (c.dv.n=ns.length):=hD.n;clear hD;have x9:=X1.out.box.c 9 rfl
 go_enter Tryz.func39,Tryz.ntmps39
 go_upto_region 1 with fail;rw[HW1.out,HB.out];clear HW1
 go_wp2_with (first | refine wp_loadAll rfl 26 (.tmp 3) rfl b rfl X1.out.box Tryz.underlying26 rfl (by kernel_rfl) ?_ | (go_at_call 81;refine hku.mono ?_))
 clear hku x9;rintro e W2 ⟨k,er,rfl,o2,g2,hk⟩;have A2:Xo (BoxT W2 (b+1) 50 [Xe Xf 0,Xe Xf 0,O Xb 0 0]):=show BoxT _ _ _ _ from A1.out.outD o2 (by have:=HPB.out;omega)
 have X2:Xo (BoxT W2 b 26 [Xe Xf c.kind,Xe Xf c.proc,Xe Xf c.pt,Xe Xf c.n,Xe Xf c.file,Xe Xf c.base,Xh c.rd,Xh c.wr,Xh c.sh,O c.dv.a c.dv.n c.dv.c]):=show BoxT _ _ _ _ from X1.out.outD o2 (by have:=HPB.out;omega)
 have G2:Xo (Grew w0 W2):=g2;have O2:Xo (OutD (fun k=>k=p) w W2):=show OutD _ _ _ from(OutD.grew G1.out).trans o2
 clear o2 g2 X1 A1
 rcases hk with hke | ⟨rfl,kk,m',fr,V',B,rfl,hf,hbx,hB,hown⟩
 ·skip
  have hne:=hke.ne;have hz:(er != 0)=Xc:=by simp[hne]
  have hrf:=refused_any er W2;have HKE:Xo _:=show KErr _ _ _ _ _ _ from hke
  have HNE:Xo (er≠0):=hne;clear hke hne;go_wp2_with fail;refine hrf.mono ?_;rintro e W3 ⟨rfl,g3⟩;have A3:=dD (A2.out.grew g3);have G3:=dD (G2.out.trans g3);have Q3:Xo (Grew W2 W3):=g3;clear hrf g3;unfold ansV noS
  go_wp2_with (refine wp_storeAllT rfl 50 (.tmp 4) (.tmp 20) rfl (b+1) rfl [Xe Xf er,Xe Xf 0,O Xb 0 0] rfl A3.out rfl (by kernel_rfl) (by simp[Value.oneCell']) ?_)
  intro W4 b4 g4 _;have G4:Xo (Grew w0 W4):=show Grew _ _ from grew_grown G3.out g4 (by have:=HL.out;omega)
  have A4:Xo (BoxT W4 (b+1) 50 [Xe Xf er,Xe Xf 0,O Xb 0 0]):=b4;have O4:Xo (OutD (fun k=>k=p) w W4):=show OutD _ _ _ from(O2.out.trans (OutD.grew Q3.out)).beyond g4 (by have:=HB.out;omega)
  clear b4 g4;go_wp2;refine bodyPost_ret (ret_cell rfl _ rfl A4.out.box Tryz.underlying50 rfl (by kernel_rfl)) rfl (WorkA.err (V:=V) (m:=m) HNE.out ⟨rfl,.inl ⟨rfl,HKE.out⟩⟩ O4.out G4.out)
 have HF:Xo (KFine m BF c (c.dv.n:Int) Xc kk m' fr):=hf;have P2:Xo (BoxT W2 p 88 (chL V' m')):=hbx;have N2:Xo (OwnB B W2 V' m'):=hown;have HBB:Xo (b+1<B):=show _<_ by have:=HBL.out;omega
 have HWB:Xo (w.heap.size<=B):=show _<=_ from nT (bS G1.out) hB
 have HFR:Xo (m'.fs[kk]? =Xa fr):=hf.2.2.1;have HW3:Xo (0<=c.pt/\0<=(c.dv.n:Int)/\(c.dv.n:Int)<=8 - c.pt % 8):=show _/\_ from of_decide_eq_true hf.1
 clear hf hbx hB hown HBL;obtain⟨i,HI⟩:∃i:Nat,Xo (c.pt % 8=(i:Int)):=⟨(c.pt % 8).toNat,show _=_ by omega⟩
 have HIN:Xo (i<8/\i+ns.length<=8):=show _/\_ by have h1:=HW3.out;have h2:=HI.out;have h3:=HDN.out;rw[h2]at h1;omega
 have HR8:Xo (∀(o:Oper) (a:Act) (x:Operand) (w:Xn),o.op= .binOp .rem 3 x (.const (Xe Xf 8)) 3->a.eval x= Xe Xf c.pt->(execOp a.eval o).run Tryz.prog w= .ok (.value (Xe Xf (i:Int))) w):=show∀(o:Oper) (a:Act) (x:Operand) (w:Xn),_ from fun o a x w h1 h2=>by rw[<-HI.out];exact run_rem8 HW3.out.1 o a x w h1 h2
 have hkl:=(gS.1 HFR.out).1;obtain⟨g7,c7,heq⟩:=N2.out.fs.formS (by omega)
 have f0:W2.cell? ⟨p,0,Xb⟩=Xa (O (Xa ⟨g7,0,Xb⟩) m'.fs.length c7):=by rw[<-heq];exact P2.out.box.c 0 rfl
 have HFO:Xo (OwnRow frmE B W2 (O (Xa ⟨g7,0,Xb⟩) m'.fs.length c7) m'.fs):=show OwnRow _ _ _ _ _ by rw[<-heq];exact N2.out.fs
 have HEQ:Xo (O V'.f.a V'.f.n V'.f.c= O (Xa ⟨g7,0,Xb⟩) m'.fs.length c7):=heq;have HG7:Xo (oB V'.f g7):=show oB _ _ by unfold oB;rw[heq];rfl
 have HGB:Xo (B<=g7):=show _<=_ from(HFO.out.lt g7 rfl).1
 have hlt:(kk:Int)< (m'.fs.length:Int):=by omega
 obtain⟨fn,HFN⟩:∃fn,Xo (m'.fs.length=fn):=⟨_,rfl⟩;rw[HFN.out]at HFO f0 hlt HEQ;clear heq hkl;obtain⟨⟨b0,b1,b2,b3,b4,b5,b6,b7⟩,r,u,d,f,x⟩:=fr;obtain⟨q0,q1,q2,q3,q4,q5,q6,q7,hq⟩:=len8 (splice [b0,b1,b2,b3,b4,b5,b6,b7] i ns) (by have:=HIN.out;rw[spliceI_len (by simp;omega)];rfl)
 have HQ:Xo (splice [b0,b1,b2,b3,b4,b5,b6,b7] i ns=[q0,q1,q2,q3,q4,q5,q6,q7]):=hq;clear hq;have HRG:Xo (∀W,Grew W2 W->W.rangeAt g7 (kk*13) [Xe Xg b0,Xe Xg b1,Xe Xg b2,Xe Xg b3,Xe Xg b4,Xe Xg b5,Xe Xg b6,Xe Xg b7]):=show∀W,_ from fun W hW j v hj=>(HFO.out.grew hW).range1 HFR.out j v (by
  have hlt:=(gS.1 hj).1
  show([Xe Xg b0,Xe Xg b1,Xe Xg b2,Xe Xg b3,Xe Xg b4,Xe Xg b5,Xe Xg b6,Xe Xg b7]++ [Xe Xf r,Xh u,Xh d,Xe Xf f,Xe Xf x])[j]? =Xa v
  rw[Xu hlt];exact hj)
 have HST:Xo (∀W,Grew W2 W->Xp Tryz.prog 83 #[Xi #[Xe Xg b0,Xe Xg b1,Xe Xg b2,Xe Xg b3,Xe Xg b4,Xe Xg b5,Xe Xg b6,Xe Xg b7],Xe Xf (i:Int),O c.dv.a c.dv.n c.dv.c] W fun e w'=>e= Xl (Xi #[Xe Xg q0,Xe Xg q1,Xe Xg q2,Xe Xg q3,Xe Xg q4,Xe Xg q5,Xe Xg q6,Xe Xg q7])/\Grew W w'):=show∀W,_ from fun W hW=>by
  have h1:=HD.out.grew (G2.out.trans hW);rw[HDN.out]at h1⊢;exact pageSetAt_any b0 b1 b2 b3 b4 b5 b6 b7 q0 q1 q2 q3 q4 q5 q6 q7 i ns c.dv.a c.dv.c W HIN.out.1 HIN.out.2 h1 HQ.out
 go_upto_region 5 with fail;clear f0 hlt;refine wp_lax_tailD (I:=fun W=>Grew W2 W) 13 [(10,fun v=>v= Xi #[Xe Xg q0,Xe Xg q1,Xe Xg q2,Xe Xg q3,Xe Xg q4,Xe Xg q5,Xe Xg q6,Xe Xg q7])] (fun _=>True) (gW _) trivial mixed (by kernel_rfl) rfl rfl (by decide) ?hS (by kernel_rfl) ?_
 case hS=>
  intro x hx;simp only[mC,nM,or_false]at hx;subst hx;exact⟨_,rfl⟩
 simp only[List.take,List.drop];refine laxD_val (Xj (Xa ⟨g7,kk*13,Xb⟩)) rfl rfl (fun W hW=>rfl) ?_
 simp only[Xs,sB,sS,sZ];refine laxD_val (Xj (Xa ⟨g7,kk*13,Xb⟩)) rfl rfl (fun W hW=>rfl) ?_
 simp only[Xs,sB,sS,sZ];refine laxD_nilc (.tmp 30) ⟨g7,kk*13,Xb⟩ rfl rfl rfl rfl ?_;simp only[Xs,sB,sS,sZ];refine laxD_val (Xj (Xa ⟨g7,kk*13,Xb⟩)) rfl rfl (fun W hW=>rfl) ?_
 simp only[Xs,sB,sS,sZ];refine laxD_val (Xi #[Xe Xg b0,Xe Xg b1,Xe Xg b2,Xe Xg b3,Xe Xg b4,Xe Xg b5,Xe Xg b6,Xe Xg b7]) rfl rfl (fun W hW=>run_loadR W 91 (.tmp 32) rfl g7 (kk*13) rfl [Xe Xg b0,Xe Xg b1,Xe Xg b2,Xe Xg b3,Xe Xg b4,Xe Xg b5,Xe Xg b6,Xe Xg b7] (HRG.out W hW) Tryz.underlying91 rfl (by kernel_rfl)) ?_
 simp only[Xs,sB,sS,sZ];refine laxD_val (Xj (Xa ⟨b,2,Xb⟩)) rfl rfl (fun W hW=>rfl) ?_
 simp only[Xs,sB,sS,sZ];refine laxD_val (Xe Xf c.pt) rfl rfl (fun W hW=>run_load1 _ (.tmp 34) rfl ⟨b,2,Xb⟩ rfl (Xe Xf c.pt) ((X2.out.box.grew hW).c 2 rfl) Tryz.underlying3 rfl) ?_
 simp only[Xs,sB,sS,sZ];refine laxD_val (Xe Xf (i:Int)) rfl rfl (fun W hW=>HR8.out _ _ _ W rfl rfl) ?_
 simp only[Xs,sB,sS,sZ];refine laxD_val (Xj (Xa ⟨b,9,Xb⟩)) rfl rfl (fun W hW=>rfl) ?_
 simp only[Xs,sB,sS,sZ];refine laxD_val (O c.dv.a c.dv.n c.dv.c) rfl rfl (fun W hW=>run_load1 _ (.tmp 37) rfl ⟨b,9,Xb⟩ rfl (O c.dv.a c.dv.n c.dv.c) ((X2.out.box.grew hW).c 9 rfl) Tryz.underlying24 rfl) ?_
 simp only[Xs,sB,sS,sZ];refine laxD_spec rfl rfl (fun _ _=>True) (fun W hW _=>?_) (fun v hv=>?_)
 ·refine Does.call [Xi #[Xe Xg b0,Xe Xg b1,Xe Xg b2,Xe Xg b3,Xe Xg b4,Xe Xg b5,Xe Xg b6,Xe Xg b7],Xe Xf (i:Int),O c.dv.a c.dv.n c.dv.c] rfl Tryz.func83 rfl rfl rfl ?_;refine(HST.out W hW).mono ?_;rintro e w'' ⟨rfl,gg⟩;exact⟨_,rfl,hW.trans gg,rfl,trivial⟩
 subst hv;simp only[Xs,sB,sS,sZ];refine laxD_nilc (.tmp 29) ⟨g7,kk*13,Xb⟩ rfl rfl rfl rfl ?_;simp only[Xs,sB,sS,sZ];refine laxD_val (Xj (Xa ⟨g7,kk*13,Xb⟩)) rfl rfl (fun W hW=>rfl) ?_
 simp only[Xs,sB,sS,sZ];refine laxD_nil fun W3 g3 _=>?_
 refine wpList_store_part (E:=frmE) rfl (.tmp 41) (.tmp 39) 91 rfl B _ m'.fs (HFO.out.grew g3) g7 kk 0 rfl ⟨⟨b0,b1,b2,b3,b4,b5,b6,b7⟩,r,u,d,f,x⟩ ⟨⟨q0,q1,q2,q3,q4,q5,q6,q7⟩,r,u,d,f,x⟩ HFR.out [Xe Xg q0,Xe Xg q1,Xe Xg q2,Xe Xg q3,Xe Xg q4,Xe Xg q5,Xe Xg q6,Xe Xg q7] (by kernel_rfl) rfl (Nat.le_of_ble_eq_true rfl) (by intro u hu;simp at hu;rcases hu with rfl | rfl | rfl | rfl | rfl | rfl | rfl | rfl <;> rfl) ⟨g7,kk*13,Xb⟩ rfl rfl _ rfl rfl ?_
 intro W4 ow4 gr4 _;have N4:Xo (OwnB B W4 V' { m' with fs:=m'.fs.set kk ⟨⟨q0,q1,q2,q3,q4,q5,q6,q7⟩,r,u,d,f,x⟩ }):=show OwnB _ _ _ _ from(N2.out.grew g3).frame HG7.out gr4 (by rw[HEQ.out];exact ow4)
 have P4:Xo (BoxT W4 p 88 (chL V' { m' with fs:=m'.fs.set kk ⟨⟨q0,q1,q2,q3,q4,q5,q6,q7⟩,r,u,d,f,x⟩ })):=show BoxT _ _ _ _ from(P2.out.grew g3).beside gr4 (fun k e=>by cases e;have:=HPB.out;have:=HBB.out;have:=HGB.out;omega)
 have A4:Xo (BoxT W4 (b+1) 50 [Xe Xf 0,Xe Xf 0,O Xb 0 0]):=show BoxT _ _ _ _ from(A2.out.grew g3).beside gr4 (fun k e=>by cases e;have:=HBB.out;have:=HGB.out;omega)
 have X4:Xo (BoxT W4 b 26 [Xe Xf c.kind,Xe Xf c.proc,Xe Xf c.pt,Xe Xf c.n,Xe Xf c.file,Xe Xf c.base,Xh c.rd,Xh c.wr,Xh c.sh,O c.dv.a c.dv.n c.dv.c]):=show BoxT _ _ _ _ from(X2.out.grew g3).beside gr4 (fun k e=>by cases e;have:=HBB.out;have:=HGB.out;omega)
 have G4:Xo (Grew w0 W4):=show Grew _ _ from grew_grown (G2.out.trans g3) gr4 (by have:=HL.out;have:=HBB.out;have:=HGB.out;omega)
 have O4:Xo (OutD (fun k=>k=p) w W4):=show OutD _ _ _ from(O2.out.trans (OutD.grew g3)).beyond gr4 (by have:=HWB.out;have:=HGB.out;omega)
 clear ow4 gr4 g3;try simp only[Xs]
 have x9:=X4.out.box.c 9 rfl
 go_wp2_with (refine wp_storeAllT rfl 50 (.tmp 4) (.tmp 45) rfl (b+1) rfl [Xe Xf 0,Xe Xf (c.dv.n:Int),O Xb 0 0] rfl A4.out rfl (by kernel_rfl) (by simp[Value.oneCell']) ?_)
 intro W5 b5 g5 _;clear x9;have A5:Xo (BoxT W5 (b+1) 50 [Xe Xf 0,Xe Xf (c.dv.n:Int),O Xb 0 0]):=b5;have HFIN:Xo (WorkA (KStore m BF c ns) w0 p w (Xl (ansV 0 (c.dv.n:Int) noS)) W5):=show WorkA _ _ _ _ _ _ from by
  have e1:(c.pt % 8).toNat=i:=by rw[HI.out];rfl
  refine WorkA.ok (V':=V') ⟨rfl,.inr ⟨rfl,rfl,kk,m',_,⟨q0,q1,q2,q3,q4,q5,q6,q7⟩,HF.out,by rw[e1];exact HQ.out,rfl⟩⟩ (O4.out.beyond g5 (by have:=HB.out;omega)) (grew_grown G4.out g5 (by have:=HL.out;omega)) (P4.out.beside g5 (fun k e=>by cases e;have:=HPB.out;omega)) fun W hW=>?_
  exact((N4.out.out (OutD.grown g5 HBB.out)).out (hW.wide fun k hk=>Xt hk HWB.out)).at
 clear b5 g5;go_wp2;refine bodyPost_ret (ret_cell rfl _ rfl A5.out.box Tryz.underlying50 rfl (by kernel_rfl)) rfl HFIN.out
theorem ret_cells2 {fn:Func} {p q:Tmp} {ty ty2:TypeId} (h:fn.results=#[.cell p ty,.cell q ty2]) (tmps:Array Xq) {w:Xn} {b b2:Nat} (hp:tmps.getD p undef= Xj (Xa ⟨b,0,Xb⟩)) (hq:tmps.getD q undef= Xj (Xa ⟨b2,0,Xb⟩)) {vs us:List Xq} (hb:Box w b vs) (hb2:Box w b2 us) {d d2:TypeDesc} (hu:Tryz.prog.underlying ty=Xa d) (hd:d.isRow=Xc) (hi:(Tryz.prog.info? ty).map (·.size)=Xa vs.length) (hu2:Tryz.prog.underlying ty2=Xa d2) (hd2:d2.isRow=Xc) (hi2:(Tryz.prog.info? ty2).map (·.size)=Xa us.length):
  (results fn tmps).run Tryz.prog w= .ok (Xm #[Xi vs.toArray,Xi us.toArray]) w:=by
 have hp':tmps[p]?.getD undef= Xj (Xa ⟨b,0,Xb⟩):=by simpa using hp
 have hq':tmps[q]?.getD undef= Xj (Xa ⟨b2,0,Xb⟩):=by simpa using hq
 have hld:=run_loadVar_mid (P:=Tryz.prog) w b 0 ty vs d hb.range hu hd hi;have hld2:=run_loadVar_mid (P:=Tryz.prog) w b2 0 ty2 us d2 hb2.range hu2 hd2 hi2
 simp[results,h,hp',hq',asAddr,hld,hld2]
theorem run_lookW {l:List (Int × Xq)} {x:Xq} {k:Int} {B:Nat} (o:Oper) (a:Act) (y z:Operand) (w:Xn) (ho:o.op= .lookup 82 y z Xc) (hy:a.eval y= .map (Xa B)) (hz:a.eval z= Xe Xf k) (hm:MapV w B l) (hx:lookN l k=Xa x):(execOp a.eval o).run Tryz.prog w= .ok (.value (Xm #[x,Xh Xc])) w:=by
 obtain⟨zv,hzv⟩:∃zv,(zeroValue 80).run Tryz.prog w= .ok zv w:=⟨.nilFunc,by go_simp⟩
 have h:=hm.look (t:=82) (e:=80) Tryz.underlying3 Tryz.underlying82 hzv k;rw[hx]at h;simp only[execOp,ho,hy,hz,Xz,h,rA,Sem.run_pure];rfl
theorem OwnM.doneD {B0 B:Nat} {w W:Xn} {V:MaV} {m:Ma} (h:OwnM B w V m) (hB:B0<=B) (o:OutD (fun k=>k<B0) w W):MachAt W V m:=by
 obtain⟨r,hsp⟩:=h.changeW (p:=w.heap.size) hB (nR _) (o.wide fun k hk=> .inl hk)
 obtain⟨xs,Bs,s1,s2,s3,s4,s5⟩:=h.sp;have far:∀{α:Type} {E:Elt α} {v:Xq} {l:List α},OwnRow E B w v l->RowAt E W v l:=fun hr=>OwnRow.at (base:=B) ⟨owns_outD hr.1 o (fun g hg e=>by have:=(hr.lt g hg).1;have e:g<B0:=e;omega),hr.2⟩
 exact⟨far h.fs,r.sl,r.sb,r.sq,r.db,r.dq,r.fl,far h.ca,⟨xs,far s1,s2,fun i x s hx hs=>hsp xs Bs s3 s4 s5 i x s hx hs⟩⟩
def Did (m:Ma) (K:Int->Int->List Int->Ma->Prop) (w:Xn) (e:Ending) (w':Xn):Prop:=
 ∃(er n:Int) (s:Sli) (l:List Int) (m' m2:Ma) (V':MaV),e= Xl (Xm #[Xi #[O V'.f.a V'.f.n V'.f.c,Xe Xf m2.hand,O V'.s.a V'.s.n V'.s.c,O V'.sb.a V'.sb.n V'.sb.c,O V'.sq.a V'.sq.n V'.sq.c,O V'.db.a V'.db.n V'.db.c,O V'.dq.a V'.dq.n V'.dq.c,O V'.fl.a V'.fl.n V'.fl.c,Xe Xf m2.cnt,O V'.ca.a V'.ca.n V'.ca.c,O V'.sp.a V'.sp.n V'.sp.c],ansV er n s])/\K er n l m'/\((er=0/\m2=m')\/(er≠0/\m2=m))/\∀W,OutD (fun k=>k<w.heap.size) w' W->MachAt W V' m2/\RowAt byE W (O s.a s.n s.c) l
def Works (w:Xn) (m:Ma) (c:Cl) (K:Int->Int->List Int->Ma->Prop):Prop:=
 ∀(w0 W:Xn) (p:Nat) (V1:MaV) (v:Xq),Grew w w0->ChW w0 p W V1 m->WorkV W c.kind v->∃(F:Nat) (caps:Array Xq),v= .func (.func F) #[] caps/\Enters Tryz.prog F/\Xp Tryz.prog F (#[Xj (Xa ⟨p,0,Xb⟩),Xi #[Xe Xf c.kind,Xe Xf c.proc,Xe Xf c.pt,Xe Xf c.n,Xe Xf c.file,Xe Xf c.base,Xh c.rd,Xh c.wr,Xh c.sh,O c.dv.a c.dv.n c.dv.c]]++caps) W fun e w'=>WorkM K w0 p W W e w'
theorem do_any (V:MaV) (m:Ma) (w:Xn) (hm:MachAt w V m) (h0:maW m=0) (c:Cl) (K:Int->Int->List Int->Ma->Prop) (hk:1<=c.kind/\c.kind<=15) (hF:Works w m c K):
  Xp Tryz.prog 14 #[Xi #[O V.f.a V.f.n V.f.c,Xe Xf m.hand,O V.s.a V.s.n V.s.c,O V.sb.a V.sb.n V.sb.c,O V.sq.a V.sq.n V.sq.c,O V.db.a V.db.n V.db.c,O V.dq.a V.dq.n V.dq.c,O V.fl.a V.fl.n V.fl.c,Xe Xf m.cnt,O V.ca.a V.ca.n V.ca.c,O V.sp.a V.sp.n V.sp.c],Xi #[Xe Xf c.kind,Xe Xf c.proc,Xe Xf c.pt,Xe Xf c.n,Xe Xf c.file,Xe Xf c.base,Xh c.rd,Xh c.wr,Xh c.sh,O c.dv.a c.dv.n c.dv.c]] w fun e w'=>Did m K w e w'/\Grew w w':=by
 have HM:Xo (MachAt w V m):=hm;have H0:Xo (maW m=0):=h0;have HKD:Xo (1<=c.kind/\c.kind<=15):=hk;have HFF:Xo (Works w m c K):=hF;obtain⟨b,HB⟩:∃b,Xo (w.heap.size=b):=⟨_,rfl⟩;obtain⟨W1,hW1⟩:∃W1,(((w.alloc (Xk #[O V.f.a V.f.n V.f.c,Xe Xf m.hand,O V.s.a V.s.n V.s.c,O V.sb.a V.sb.n V.sb.c,O V.sq.a V.sq.n V.sq.c,O V.db.a V.db.n V.db.c,O V.dq.a V.dq.n V.dq.c,O V.fl.a V.fl.n V.fl.c,Xe Xf m.cnt,O V.ca.a V.ca.n V.ca.c,O V.sp.a V.sp.n V.sp.c] 42)).alloc (Xk #[Xe Xf c.kind,Xe Xf c.proc,Xe Xf c.pt,Xe Xf c.n,Xe Xf c.file,Xe Xf c.base,Xh c.rd,Xh c.wr,Xh c.sh,O c.dv.a c.dv.n c.dv.c] 26)).alloc (Xk #[O Xb 0 0,Xe Xf 0,O Xb 0 0,O Xb 0 0,O Xb 0 0,O Xb 0 0,O Xb 0 0,O Xb 0 0,Xe Xf 0,O Xb 0 0,O Xb 0 0] 42)).alloc (Xk #[Xe Xf 0,Xe Xf 0,O Xb 0 0] 50)=W1:=⟨_,rfl⟩;have G1:Xo (Grew w W1):=show Grew _ _ by rw[<-hW1];exact(((grew_alloc _ _).trans (grew_alloc _ _)).trans (grew_alloc _ _)).trans (grew_alloc _ _)
 have X1:Xo (BoxT W1 b 42 (chL V m)):=show BoxT _ _ _ _ by rw[<-hW1];exact(BoxT.top w (chL V m) _ HB.out.symm).grew (((grew_alloc _ _).trans (grew_alloc _ _)).trans (grew_alloc _ _))
 have Y1:Xo (BoxT W1 (b+1) 26 [Xe Xf c.kind,Xe Xf c.proc,Xe Xf c.pt,Xe Xf c.n,Xe Xf c.file,Xe Xf c.base,Xh c.rd,Xh c.wr,Xh c.sh,O c.dv.a c.dv.n c.dv.c]):=show BoxT _ _ _ _ by rw[<-hW1];exact(BoxT.top _ [Xe Xf c.kind,Xe Xf c.proc,Xe Xf c.pt,Xe Xf c.n,Xe Xf c.file,Xe Xf c.base,Xh c.rd,Xh c.wr,Xh c.sh,O c.dv.a c.dv.n c.dv.c] _ (by have:=HB.out;simp;omega)).grew ((grew_alloc _ _).trans (grew_alloc _ _))
 have Z1:Xo (BoxT W1 (b+2) 42 zeroM):=show BoxT _ _ _ _ by rw[<-hW1];exact(BoxT.top _ zeroM _ (by have:=HB.out;simp;omega)).grew (grew_alloc _ _)
 have A1:Xo (BoxT W1 (b+3) 50 [Xe Xf 0,Xe Xf 0,O Xb 0 0]):=show BoxT _ _ _ _ by rw[<-hW1];exact BoxT.top _ [Xe Xf 0,Xe Xf 0,O Xb 0 0] _ (by have:=HB.out;simp;omega)
 have HW1:Xo (_=W1):=hW1;have hwr:=wrongM_ok V m W1 (hm.grew G1.out) h0;have HSJ:Xo ((Tryz.prog.info? 42).map (·.size)=Xa (chL V m).length):=show _=_ by kernel_rfl
 clear hW1 hm h0 hk hF
 go_enter Tryz.func14,Tryz.ntmps14
 go_upto_region 1 with fail;rw[HW1.out,HB.out];clear HW1
 go_wp2_with (first | refine wp_loadAll rfl 42 (.tmp 2) rfl b rfl X1.out.box Tryz.underlying42 rfl HSJ.out ?_ | (go_at_call 20;refine hwr.mono ?_))
 clear hwr;rintro e W2 ⟨rfl,g2⟩;have G2:=dD (G1.out.trans g2);have X2:=dD (X1.out.grew g2);have Y2:=dD (Y1.out.grew g2);have Z2:=dD (Z1.out.grew g2);have A2:=dD (A1.out.grew g2);clear g2 X1 Y1 Z1 A1 G1;go_upto_region 4 with fail;have hy0:∀y:GrownW W2,y.world.cell? ⟨b+1,0,Xb⟩=Xa (Xe Xf c.kind):=fun y=>(Y2.out.box.grew y.grew).c 0 rfl
 have hne:Nonempty (GrownW W2):=⟨⟨_,Grew.refl _⟩⟩;refine wp_lax [(0,⟨fun v=>∃B,v= .map (Xa B),fun v w=>∃(B:Nat) (l:List (Int × Xq)),v= .map (Xa B)/\MapV w B l/\(∀k v,lookN l k=Xa v->WorkV w k v)/\∀k,(lookN l k).isSome=decide (1<=k/\k<=15)⟩),(3,⟨fun v=>∃x,v= Xm #[x,Xh Xc],fun v w=>∃x,v= Xm #[x,Xh Xc]/\WorkV w c.kind x⟩)] mixed (by kernel_rfl) ?_ ?_ ?_
 ·intro x hx;simp only[mC,nM,or_false]at hx
  rcases hx with rfl | rfl
  ·exact⟨_,0,rfl⟩
  exact⟨_,Xe Xf 0,rfl⟩
 ·intro x hx;simp only[mC,nM,or_false]at hx
  rcases hx with rfl | rfl
  ·rintro v u u' hg ⟨B,l,h1,h2,h3,h4⟩;exact⟨B,l,h1,h2.grew hg,fun k v hv=>(h3 k v hv).grew hg,h4⟩
  rintro v u u' hg ⟨x,h1,h2⟩;exact⟨x,h1,h2.grew hg⟩
 refine lax_spec rfl rfl (fun w' hg hF=>?_) (fun v1 hv=>?_)
 ·refine Does.call [] rfl Tryz.func22 rfl rfl rfl ?_;refine(works_any w').mono ?_;rintro e w'' ⟨⟨B,l,rfl,h1,h2,h3⟩,hg2⟩;exact⟨_,rfl,hg2,⟨B,rfl⟩,B,l,rfl,h1,h2,h3⟩
 obtain⟨B,rfl⟩:=hv;simp only[Xs,sB,sS,sZ];iterate 2 (refine lax_quiet rfl rfl rfl (fun K hK=>?_);go_big_quiet_op;refine hK _ ?_;clear hK K)
 refine lax_spec rfl rfl (fun w' hg hF=>?_) (fun v1 hv=>?_)
 ·obtain⟨B',l,hb,h1,h2,h3⟩:=hF 0 (by kernel_rfl)
  cases hb;obtain⟨x,hx⟩:∃x,lookN l c.kind=Xa x:=by
   have h4:=h3 c.kind;rw[decide_eq_true HKD.out]at h4;exact Option.isSome_iff_exists.1 h4
  refine Does.step (v:= Xm #[x,Xh Xc]) (w':=w') (run_lookW _ _ _ _ w' rfl rfl rfl h1 hx) ⟨Grew.refl _,⟨x,rfl⟩,x,rfl,h2 _ _ hx⟩
 obtain⟨x,rfl⟩:=hv;simp only[Xs,sB,sS,sZ];iterate 5 (refine lax_quiet rfl rfl rfl (fun K hK=>?_);go_big_quiet_op;refine hK _ ?_;clear hK K)
 refine lax_nil fun W3 g3 hF=>?_
 obtain⟨x',hx',hwv⟩:=hF 3;have hxx:x'=x:=by
  have h1:(Value.tuple #[x,Xh Xc])= Xm #[x',Xh Xc]:=hx';simp only[Value.tuple.injEq,Array.mk.injEq,List.cons.injEq,and_true]at h1;exact h1.symm
 subst hxx;have HWV:Xo (WorkV W3 c.kind x'):=hwv;have G3:=dD (G2.out.trans g3);have X3:=dD (X2.out.grew g3);have Y3:=dD (Y2.out.grew g3);have Z3:=dD (Z2.out.grew g3);have A3:=dD (A2.out.grew g3);clear g3 hF hx' hwv hy0 hne X2 Y2 Z2 A2 G2;have hof:=ofOwn_any V m W3 (HM.out.grew G3.out)
 go_wp2_with (first | refine wp_loadAll rfl 42 (.tmp 2) rfl b rfl X3.out.box Tryz.underlying42 rfl HSJ.out ?_ | (go_at_call 24;refine hof.mono ?_))
 clear hof;rintro e W4 ⟨p,BB,V1,rfl,hown,hBB,hpp,bx,g4⟩;have M4:Xo (ChW W3 p W4 V1 m):=show ChW _ _ _ _ _ from ChW.of hown hBB g4 hpp bx
 have Y4:=dD (Y3.out.grew g4);have HBW:Xo (b+3<W3.heap.size):=A3.out.box.lt;obtain⟨F,caps,hxf,eg,hcall⟩:=HFF.out W3 W4 p V1 x' G3.out M4.out (HWV.out.grew g4);subst hxf;have EG:Xo (∀(args:Array Xq) (w:Xn),(callFunc F args).run Tryz.prog w= .ok (.enter F args) w):=eg;have hfn:=hcall;clear hown hBB hpp bx g4 eg hcall
 go_wp2_with (first | refine wp_loadAll rfl 26 (.tmp 3) rfl (b+1) rfl Y4.out.box Tryz.underlying26 rfl (by kernel_rfl) ?_ | fail)
 rw[EG.out];refine hfn.mono ?_;clear hfn;rintro e W5 ⟨er,n,sd,l,V',m',rfl,hk,o5,g5,hr,hd⟩;have HR6:Xo (∀W,OutD (Aft W3 W4 W4) W5 W->RowAt byE W (O sd.a sd.n sd.c) l):=hr;have HD6:Xo (er=0->BoxT W5 p 88 (chL V' m')/\∀W,OutD (Aft W3 W4 W4) W5 W->MachAt W V' m'):=hd;have HK:Xo (K er n l m'):=hk;have HG5:Xo (Grew W3 W5):=g5;have HZL:Xo (∀v∈chL V' m',v.oneCell'=Xc):=show∀v∈chL V' m',_ by simp[chL,Value.oneCell']
 clear hr hd hk o5 g5;unfold ansV;go_upto_region 9 with fail;obtain⟨q,HQ⟩:∃q,Xo (W5.heap.size=q):=⟨_,rfl⟩;obtain⟨W6,hW6⟩:∃W6,W5.alloc (Xk #[Xe Xf er,Xe Xf n,O sd.a sd.n sd.c] 50)=W6:=⟨_,rfl⟩;have g6:=gP hW6
 have Q6:=xPT hW6 HQ
 have G56:Xo (Grew W5 W6):=g6;have G36:=dD (HG5.out.trans g6);have HPL:Xo (W3.heap.size<=p):=M4.out.lo;have HQL:Xo (W3.heap.size<=q):=show _<=_ by rw[<-HQ.out];exact bS HG5.out
 rw[hW6,HQ.out];clear hW6 g6 HQ;have X6:=dD (X3.out.grew G36.out);have Z6:=dD (Z3.out.grew G36.out);have A6:=dD (A3.out.grew G36.out);have HBW6:Xo (b+3<W6.heap.size):=A6.out.box.lt;have q0:=Q6.out.box.c 0 rfl
 by_cases he:er=0
 ·have HE:Xo (er=0):=he;obtain⟨p5,m5⟩:=HD6.out he;have P6:Xo (BoxT W6 p 88 (chL V' m')):=p5.grew G56.out;have HSK:Xo ((Tryz.prog.info? 42).map (·.size)=Xa (chL V' m').length):=show _=_ by kernel_rfl
  subst he;clear p5;go_upto_region 11 with fail;clear q0;refine wp_region_held (S:=fun W=>OutD (fun k=>k=b+2\/k=b+3) W6 W/\Grew w W) mixed ?_
  show wpAnyH _ _ _ _ _ 7 (Xx 7 Xd) _ W6.drew
  have gd:Grew W6 W6.drew:=(gW _)
  have sd0:OutD (fun k=>k=b+2\/k=b+3) W6 W6.drew/\Grew w W6.drew:=⟨OutD.grew gd,(G3.out.trans G36.out).trans gd⟩
  have z0:=Z6.out.grew gd;have a0:=A6.out.grew gd;refine takeH 0 (Xa 42) (Xj (Xa ⟨p,0,Xb⟩)) rfl rfl (by kernel_rfl) (by kernel_rfl) (by kernel_rfl) (fun _ _ _ h=>h) (.inl ⟨rfl,fun _ _=>rfl⟩) sd0 ?_
  simp only[Xs,sB,sS,sZ];refine takeH 1 (Xa 43) (Xj (Xa ⟨p,0,Xb⟩)) rfl rfl (by kernel_rfl) (by kernel_rfl) (by kernel_rfl) (fun _ _ _ h=>h) (.inl ⟨rfl,fun _ _=>rfl⟩) sd0 ?_
  simp only[Xs,sB,sS,sZ];refine takeH 2 (Xa 44) (Xj (Xa ⟨p,0,Xb⟩)) rfl rfl (by kernel_rfl) (by kernel_rfl) (by kernel_rfl) (fun _ _ _ h=>h) (.inl ⟨rfl,fun _ _=>rfl⟩) sd0 ?_
  simp only[Xs,sB,sS,sZ];refine takeH 3 (Xa 45) (Xi (chL V' m').toArray) rfl rfl (by kernel_rfl) (by kernel_rfl) (by kernel_rfl) (fun _ _ _ h=>h) (yieldsIf_load_mid rfl 42 (.tmp 44) rfl p 0 rfl (chL V' m') _ (fun W hW=>(P6.out.outD hW.1 (by have:=HPL.out;have:=HBW.out;omega)).box.range) Tryz.underlying42 rfl HSK.out) sd0 ?_
  simp only[Xs,sB,sS,sZ];refine takeH 4 (Xa 46) (Xi #[Xe Xf 0,Xe Xf n,O sd.a sd.n sd.c]) rfl rfl (by kernel_rfl) (by kernel_rfl) (by kernel_rfl) (fun _ _ _ h=>h) (yieldsIf_load_mid rfl 50 (.tmp 10) rfl q 0 rfl ([Xe Xf 0,Xe Xf n,O sd.a sd.n sd.c]) _ (fun W hW=>(Q6.out.outD hW.1 (by have:=HQL.out;have:=HBW.out;omega)).box.range) Tryz.underlying50 rfl (by kernel_rfl)) sd0 ?_
  simp only[Xs,sB,sS,sZ];refine wpAnyH_all (rs:=[5]) (by kernel_rfl) (by simp) ?_
  intro j hj;simp only[mC,nM,or_false]at hj;subst hj;refine wpOp_does Xb (fun v w'=>BoxT w' (b+2) 42 (chL V' m')/\(W6.drew).grownBy w' (Xa (b+2))) rfl rfl rfl (Does.storeAllT 42 (.tmp 4) (.tmp 45) rfl (b+2) rfl (chL V' m') rfl z0 rfl (by kernel_rfl) HZL.out (fun w' b' g' s'=>⟨b',g'⟩)) ?_
  rintro v WN1 ⟨bN1,gN1⟩;have sN1:OutD (fun k=>k=b+2\/k=b+3) W6 WN1/\Grew w WN1:=⟨sd0.1.trans (OutD.grown gN1 (.inl rfl)),grew_grown sd0.2 gN1 (by have:=HB.out;omega)⟩
  have oN1:=a0.beside gN1 (fun k e=>by cases e;omega)
  refine⟨sN1,?_⟩;simp only[Xs];refine wpAnyH_all (rs:=[6]) (by kernel_rfl) (by simp) ?_
  intro j hj;simp only[mC,nM,or_false]at hj;subst hj;refine wpOp_does Xb (fun v w'=>BoxT w' (b+3) 50 ([Xe Xf 0,Xe Xf n,O sd.a sd.n sd.c])/\(WN1).grownBy w' (Xa (b+3))) rfl rfl rfl (Does.storeAllT 50 (.tmp 5) (.tmp 46) rfl (b+3) rfl ([Xe Xf 0,Xe Xf n,O sd.a sd.n sd.c]) rfl oN1 rfl (by kernel_rfl) (by simp[Value.oneCell']) (fun w' b' g' s'=>⟨b',g'⟩)) ?_
  rintro v WN2 ⟨bN2,gN2⟩;have sN2:OutD (fun k=>k=b+2\/k=b+3) W6 WN2/\Grew w WN2:=⟨sN1.1.trans (OutD.grown gN2 (.inr rfl)),grew_grown sN1.2 gN2 (by have:=HB.out;omega)⟩
  have oN2:=bN1.beside gN2 (fun k e=>by cases e;omega)
  refine⟨sN2,?_⟩;simp only[Xs];refine wpAnyH_done (by kernel_rfl) ?_ _
  have B9:Xo (BoxT WN2 (b+2) 42 (chL V' m')):=oN2;have A9:Xo (BoxT WN2 (b+3) 50 [Xe Xf 0,Xe Xf n,O sd.a sd.n sd.c]):=bN2;have O9:OutD (Aft W3 W4 W4) W5 WN2:=(OutD.grew G56.out).trans (sN2.1.wide fun k hk=> .inl (by have:=HBW.out;rcases hk with hk | hk <;> omega))
  have HFIN:Xo (Did m K w (Xl (Xm #[Xi #[O V'.f.a V'.f.n V'.f.c,Xe Xf m'.hand,O V'.s.a V'.s.n V'.s.c,O V'.sb.a V'.sb.n V'.sb.c,O V'.sq.a V'.sq.n V'.sq.c,O V'.db.a V'.db.n V'.db.c,O V'.dq.a V'.dq.n V'.dq.c,O V'.fl.a V'.fl.n V'.fl.c,Xe Xf m'.cnt,O V'.ca.a V'.ca.n V'.ca.c,O V'.sp.a V'.sp.n V'.sp.c],ansV 0 n sd])) WN2/\Grew w WN2):=show _/\_ from⟨⟨0,n,sd,l,m',m',V',rfl,HK.out,.inl ⟨rfl,rfl⟩,fun W hW=>⟨m5 W (O9.trans (hW.wide fun k hk=> .inl (Xt hk (bS G3.out)))),HR6.out W (O9.trans (hW.wide fun k hk=> .inl (Xt hk (bS G3.out))))⟩⟩,sN2.2⟩
  go_wp2;refine bodyPost_ret (ret_cells2 rfl _ rfl rfl B9.out.box A9.out.box Tryz.underlying42 rfl (by kernel_rfl) Tryz.underlying50 rfl (by kernel_rfl)) rfl HFIN.out
 have HE:Xo (er≠0):=he;have hz:(er != 0)=Xc:=by simp[he]
 clear he;go_upto_region 10 with fail;clear q0 hz;refine wp_region_held (S:=fun W=>OutD (fun k=>k=b+2\/k=b+3) W6 W/\Grew w W) mixed ?_
 show wpAnyH _ _ _ _ _ 5 (Xx 5 Xd) _ W6.drew
 have gd:Grew W6 W6.drew:=(gW _)
 have sd0:OutD (fun k=>k=b+2\/k=b+3) W6 W6.drew/\Grew w W6.drew:=⟨OutD.grew gd,(G3.out.trans G36.out).trans gd⟩
 have z0:=Z6.out.grew gd;have a0:=A6.out.grew gd;refine takeH 0 (Xa 39) (Xi (chL V m).toArray) rfl rfl (by kernel_rfl) (by kernel_rfl) (by kernel_rfl) (fun _ _ _ h=>h) (yieldsIf_load_mid rfl 42 (.tmp 2) rfl b 0 rfl (chL V m) _ (fun W hW=>(X6.out.outD hW.1 (by omega)).box.range) Tryz.underlying42 rfl HSJ.out) sd0 ?_
 simp only[Xs,sB,sS,sZ];refine takeH 2 (Xa 41) (Xi #[Xe Xf er,Xe Xf n,O sd.a sd.n sd.c]) rfl rfl (by kernel_rfl) (by kernel_rfl) (by kernel_rfl) (fun _ _ _ h=>h) (yieldsIf_load_mid rfl 50 (.tmp 10) rfl q 0 rfl ([Xe Xf er,Xe Xf n,O sd.a sd.n sd.c]) _ (fun W hW=>(Q6.out.outD hW.1 (by have:=HQL.out;have:=HBW.out;omega)).box.range) Tryz.underlying50 rfl (by kernel_rfl)) sd0 ?_
 simp only[Xs,sB,sS,sZ];refine wpAnyH_all (rs:=[1]) (by kernel_rfl) (by simp) ?_
 intro j hj;simp only[mC,nM,or_false]at hj;subst hj;refine wpOp_does (Xa 40) (fun v w'=>∃V2:MaV,v= Xi #[O V2.f.a V2.f.n V2.f.c,Xe Xf m.hand,O V2.s.a V2.s.n V2.s.c,O V2.sb.a V2.sb.n V2.sb.c,O V2.sq.a V2.sq.n V2.sq.c,O V2.db.a V2.db.n V2.db.c,O V2.dq.a V2.dq.n V2.dq.c,O V2.fl.a V2.fl.n V2.fl.c,Xe Xf m.cnt,O V2.ca.a V2.ca.n V2.ca.c,O V2.sp.a V2.sp.n V2.sp.c]/\OwnM (W6.drew).heap.size w' V2 m/\Grew (W6.drew) w') rfl rfl rfl (Does.call [Xi #[O V.f.a V.f.n V.f.c,Xe Xf m.hand,O V.s.a V.s.n V.s.c,O V.sb.a V.sb.n V.sb.c,O V.sq.a V.sq.n V.sq.c,O V.db.a V.db.n V.db.c,O V.dq.a V.dq.n V.dq.c,O V.fl.a V.fl.n V.fl.c,Xe Xf m.cnt,O V.ca.a V.ca.n V.ca.c,O V.sp.a V.sp.n V.sp.c]] rfl Tryz.func23 rfl rfl rfl ((ownM_any V m (W6.drew) (HM.out.grew sd0.2)).mono ?_)) ?_
 ·rintro e w'' ⟨V2,rfl,h1,h2⟩;exact⟨_,rfl,V2,rfl,h1,h2⟩
 rintro v WN3 ⟨V2,rfl,wN3,gN3⟩;have hbs:b+3< (W6.drew).heap.size:=Xt HBW6.out sd0.1.size;have sN3:OutD (fun k=>k=b+2\/k=b+3) W6 WN3/\Grew w WN3:=⟨sd0.1.trans (OutD.grew gN3),sd0.2.trans gN3⟩
 have zN3:=z0.grew gN3;have aN3:=a0.grew gN3;have HZN3:∀v∈chL V2 m,v.oneCell'=Xc:=by simp[chL,Value.oneCell']
 refine⟨sN3,?_⟩;simp only[Xs,sB,sS,sZ];refine wpAnyH_all (rs:=[3]) (by kernel_rfl) (by simp) ?_
 intro j hj;simp only[mC,nM,or_false]at hj;subst hj;refine wpOp_does Xb (fun v w'=>BoxT w' (b+2) 42 (chL V2 m)/\(WN3).grownBy w' (Xa (b+2))) rfl rfl rfl (Does.storeAllT 42 (.tmp 4) (.tmp 40) rfl (b+2) rfl (chL V2 m) rfl zN3 rfl (by kernel_rfl) HZN3 (fun w' b' g' s'=>⟨b',g'⟩)) ?_
 rintro v WN4 ⟨bN4,gN4⟩;have sN4:OutD (fun k=>k=b+2\/k=b+3) W6 WN4/\Grew w WN4:=⟨sN3.1.trans (OutD.grown gN4 (.inl rfl)),grew_grown sN3.2 gN4 (by have:=HB.out;omega)⟩
 have oN4:=aN3.beside gN4 (fun k e=>by cases e;omega)
 have wN4:=wN3.below gN4 (by have:=hbs;omega) (nR _)
 refine⟨sN4,?_⟩;simp only[Xs];refine wpAnyH_all (rs:=[4]) (by kernel_rfl) (by simp) ?_
 intro j hj;simp only[mC,nM,or_false]at hj;subst hj;refine wpOp_does Xb (fun v w'=>BoxT w' (b+3) 50 ([Xe Xf er,Xe Xf n,O sd.a sd.n sd.c])/\(WN4).grownBy w' (Xa (b+3))) rfl rfl rfl (Does.storeAllT 50 (.tmp 5) (.tmp 41) rfl (b+3) rfl ([Xe Xf er,Xe Xf n,O sd.a sd.n sd.c]) rfl oN4 rfl (by kernel_rfl) (by simp[Value.oneCell']) (fun w' b' g' s'=>⟨b',g'⟩)) ?_
 rintro v WN5 ⟨bN5,gN5⟩;have sN5:OutD (fun k=>k=b+2\/k=b+3) W6 WN5/\Grew w WN5:=⟨sN4.1.trans (OutD.grown gN5 (.inr rfl)),grew_grown sN4.2 gN5 (by have:=HB.out;omega)⟩
 have oN5:=bN4.beside gN5 (fun k e=>by cases e;omega)
 have wN5:=wN4.below gN5 (by have:=hbs;omega) (nR _)
 refine⟨sN5,?_⟩;simp only[Xs];refine wpAnyH_done (by kernel_rfl) ?_ _
 have B9:Xo (BoxT WN5 (b+2) 42 (chL V2 m)):=oN5;have A9:Xo (BoxT WN5 (b+3) 50 [Xe Xf er,Xe Xf n,O sd.a sd.n sd.c]):=bN5;have O9:OutD (Aft W3 W4 W4) W5 WN5:=(OutD.grew G56.out).trans (sN5.1.wide fun k hk=> .inl (by have:=HBW.out;rcases hk with hk | hk <;> omega))
 have HFIN:Xo (Did m K w (Xl (Xm #[Xi #[O V2.f.a V2.f.n V2.f.c,Xe Xf m.hand,O V2.s.a V2.s.n V2.s.c,O V2.sb.a V2.sb.n V2.sb.c,O V2.sq.a V2.sq.n V2.sq.c,O V2.db.a V2.db.n V2.db.c,O V2.dq.a V2.dq.n V2.dq.c,O V2.fl.a V2.fl.n V2.fl.c,Xe Xf m.cnt,O V2.ca.a V2.ca.n V2.ca.c,O V2.sp.a V2.sp.n V2.sp.c],ansV er n sd])) WN5/\Grew w WN5):=show _/\_ from⟨⟨er,n,sd,l,m',m,V2,rfl,HK.out,.inr ⟨HE.out,rfl⟩,fun W hW=>⟨(wN5).doneD (nR _) (hW.wide fun k hk=>Xt hk (bS sd0.2)),HR6.out W (O9.trans (hW.wide fun k hk=> .inl (Xt hk (bS G3.out))))⟩⟩,sN5.2⟩
 go_wp2;refine bodyPost_ret (ret_cells2 rfl _ rfl rfl B9.out.box A9.out.box Tryz.underlying42 rfl (by kernel_rfl) Tryz.underlying50 rfl (by kernel_rfl)) rfl HFIN.out
theorem entersOf:Enters Tryz.prog 73:=enters_of Tryz.func73 (by kernel_rfl) rfl
theorem works_load (w:Xn) (m:Ma) (c:Cl) (BF:Nat->Nat->Ar->Pg->Bool->Bool × Nat × Ma) (hk:c.kind=4) (hb1:-9223372036854775808<=c.pt) (hb2:c.pt<=9223372036854775807) (hb3:-9223372036854775808<=c.n) (hb4:c.n<=9223372036854775807)
  (hU:∀(V1:MaV) (W:Xn),MachAt W V1 m->Xp Tryz.prog 140 #[Xi #[O V1.f.a V1.f.n V1.f.c,Xe Xf m.hand,O V1.s.a V1.s.n V1.s.c,O V1.sb.a V1.sb.n V1.sb.c,O V1.sq.a V1.sq.n V1.sq.c,O V1.db.a V1.db.n V1.db.c,O V1.dq.a V1.dq.n V1.dq.c,O V1.fl.a V1.fl.n V1.fl.c,Xe Xf m.cnt,O V1.ca.a V1.ca.n V1.ca.c,O V1.sp.a V1.sp.n V1.sp.c],Xe Xf c.proc,Xe Xf (c.pt / 8),Xh Xd] W fun e w'=>((∃er:Int,e= Xl (Xm #[Xi zeroM.toArray,Xe Xf 0,Xe Xf er])/\NotUsed m BF c.proc (c.pt / 8) Xd er)\/(∃(V':MaV) (k pc:Nat) (m':Ma),e= Xl (Xm #[Xi #[O V'.f.a V'.f.n V'.f.c,Xe Xf m'.hand,O V'.s.a V'.s.n V'.s.c,O V'.sb.a V'.sb.n V'.sb.c,O V'.sq.a V'.sq.n V'.sq.c,O V'.db.a V'.db.n V'.db.c,O V'.dq.a V'.dq.n V'.dq.c,O V'.fl.a V'.fl.n V'.fl.c,Xe Xf m'.cnt,O V'.ca.a V'.ca.n V'.ca.c,O V'.sp.a V'.sp.n V'.sp.c],Xe Xf (k:Int),Xe Xf 0])/\Used m BF c.proc (c.pt / 8) Xd k m'/\ChW W pc w' V' m'))/\Grew W w')
  (hI:∀(kk:Nat) (m':Ma),Used m BF c.proc (c.pt / 8) Xd kk m'->∃fr:Fr,m'.fs[kk]? =Xa fr/\(fr.f=-1\/∃(j:Nat) (fl:Fl),fr.f=(j:Int)/\m'.fl[j]? =Xa fl)/\0<=fr.x/\fr.x<1000):Works w m c (KProc m c.proc (KLoad m BF c)):=by
 intro w0 W p V1 v hg h hv;obtain⟨g,rfl,hb⟩:=hv.2.2.2.1 hk;exact⟨73,#[Xj (Xa ⟨g,0,Xb⟩)],rfl,entersOf,ofProc_any h c g 38 _ (enters_of Tryz.func38 (by kernel_rfl) rfl) hb fun W' hW _=>(kload_any (h.grew hW) c BF hb1 hb2 hb3 hb4 (fun W2 hW2=>hU V1 W2 ((h.grew hW).at.grew hW2)) hI).mono fun e w' k=>k.more h.lo (h.dlt p (.inl rfl)) (bS (h.gr.trans hW))⟩
theorem works_store (w:Xn) (m:Ma) (c:Cl) (ns:List Int) (BF:Nat->Nat->Ar->Pg->Bool->Bool × Nat × Ma) (hk:c.kind=5) (hb1:-9223372036854775808<=c.pt) (hb2:c.pt<=9223372036854775807) (hD:RowAt byE w (O c.dv.a c.dv.n c.dv.c) ns) (hb4:(c.dv.n:Int)<=9223372036854775807)
  (hU:∀(V1:MaV) (W:Xn),MachAt W V1 m->Xp Tryz.prog 140 #[Xi #[O V1.f.a V1.f.n V1.f.c,Xe Xf m.hand,O V1.s.a V1.s.n V1.s.c,O V1.sb.a V1.sb.n V1.sb.c,O V1.sq.a V1.sq.n V1.sq.c,O V1.db.a V1.db.n V1.db.c,O V1.dq.a V1.dq.n V1.dq.c,O V1.fl.a V1.fl.n V1.fl.c,Xe Xf m.cnt,O V1.ca.a V1.ca.n V1.ca.c,O V1.sp.a V1.sp.n V1.sp.c],Xe Xf c.proc,Xe Xf (c.pt / 8),Xh Xc] W fun e w'=>((∃er:Int,e= Xl (Xm #[Xi zeroM.toArray,Xe Xf 0,Xe Xf er])/\NotUsed m BF c.proc (c.pt / 8) Xc er)\/(∃(V':MaV) (k pc:Nat) (m':Ma),e= Xl (Xm #[Xi #[O V'.f.a V'.f.n V'.f.c,Xe Xf m'.hand,O V'.s.a V'.s.n V'.s.c,O V'.sb.a V'.sb.n V'.sb.c,O V'.sq.a V'.sq.n V'.sq.c,O V'.db.a V'.db.n V'.db.c,O V'.dq.a V'.dq.n V'.dq.c,O V'.fl.a V'.fl.n V'.fl.c,Xe Xf m'.cnt,O V'.ca.a V'.ca.n V'.ca.c,O V'.sp.a V'.sp.n V'.sp.c],Xe Xf (k:Int),Xe Xf 0])/\Used m BF c.proc (c.pt / 8) Xc k m'/\ChW W pc w' V' m'))/\Grew W w')
  (hI:∀(kk:Nat) (m':Ma),Used m BF c.proc (c.pt / 8) Xc kk m'->∃fr:Fr,m'.fs[kk]? =Xa fr/\(fr.f=-1\/∃(j:Nat) (fl:Fl),fr.f=(j:Int)/\m'.fl[j]? =Xa fl)/\0<=fr.x/\fr.x<1000):Works w m c (KProc m c.proc (KStore m BF c ns)):=by
 intro w0 W p V1 v hg h hv;obtain⟨g,rfl,hb⟩:=hv.2.2.2.2.1 hk;exact⟨73,#[Xj (Xa ⟨g,0,Xb⟩)],rfl,entersOf,ofProc_any h c g 39 _ (enters_of Tryz.func39 (by kernel_rfl) rfl) hb fun W' hW _=>(kstore_any (h.grew hW) c ns BF hb1 hb2 (hD.grew hg) hb4 (fun W2 hW2=>hU V1 W2 ((h.grew hW).at.grew hW2)) hI).mono fun e w' k=>k.more h.lo (h.dlt p (.inl rfl)) (bS (h.gr.trans hW))⟩
theorem drop_stay {m:Ma} {p n k:Nat} {s:Sp} {fr:Fr} (h:Rt m) (hs:m.sp[p]? =Xa s) (hn:n<64) (hk:m.fs[k]? =Xa fr) (hr:fr.r=0):(dropM m p n).fs[k]? =Xa fr:=by
 have hd:m.sp.getD p ⟨Xd,[],[]⟩=s:=by rw[gD,hs];rfl
 unfold dropM;simp only[hd]
 by_cases h1:(flatN s n).kind=1
 ·rw[if_pos h1];obtain⟨j,fj,e1,e2,e3,e4⟩:=h.present hs hn h1
  show(m.fs.set _ _)[k]? =_
  rw[e1,tN,sN,hk];intro e;subst e;rw[hk]at e2;cases e2;exact e4 hr
 rw[if_neg h1]
 by_cases h2:(flatN s n).kind=2
 ·rw[if_pos h2];exact hk
 rw[if_neg h2];exact hk
theorem dropAll_stay:∀(l:List (Nat × Nat)) {m:Ma} {k:Nat} {fr:Fr},Rt m->(∀x∈l,x.2<64/\∃s,m.sp[x.1]? =Xa s)->m.fs[k]? =Xa fr->fr.r=0->(dropAll m l).fs[k]? =Xa fr
 | [],_,_,_,_,_,hk,_=>hk
 | x :: l,m,k,fr,h,hl,hk,hr=>by
  obtain⟨hn,s,hs⟩:=hl x (Xv ..);obtain⟨g1,_⟩:=drop_goes h hs hn;refine dropAll_stay l g1.rt (fun y hy=>?_) (drop_stay h hs hn hk hr) hr
  obtain⟨a1,t,a2⟩:=hl y (List.mem_cons_of_mem _ hy);exact⟨a1,_,gE (by rw[g1.sam.spl];exact(gS.1 a2).1)⟩
theorem dropAll_room {m:Ma} {k:Nat} {fr:Fr} (l:List (Nat × Nat)) (h:Rt m) (hl:∀x∈l,x.2<64/\∃s,m.sp[x.1]? =Xa s) (hk:m.fs[k]? =Xa fr) (hr:fr.r=0):freeN (dropAll m l).fs≠0:=by
 have h1:=mG (dropAll_stay l h hl hk hr);have h2:0<freeN (dropAll m l).fs:=Xy.2 ⟨fr,h1,by simpa using hr⟩
 omega
theorem no_cache {m:Ma} (h:Rt m) (hf:m.fl.length=0):m.ca=[]:=by
 cases hc:m.ca with
 | nil=>rfl
 | cons c l=>
  have:=(caE_ok ((caGo_zero.1 h.inv.ca).1 c (by rw[hc];exact Xv ..))).1
  omega
theorem no_file {m:Ma} (h:Rt m) (hf:m.fl.length=0) {k:Nat} {fr:Fr} (hk:m.fs[k]? =Xa fr):fr.f=-1:=by
 have h1:=(h.inv.cf k fr hk).2;rw[no_cache h hf]at h1
 rcases(h.inv.fok fr (mG hk)).2.2.1 with h2 | h2
 ·exact h2
 exact absurd rfl (h1 h2.1)
theorem cwEmptyS_any {w0 w:Xn} {p:Nat} {V:MaV} {m:Ma} (h:ChW w0 p w V m) (hR:Rt m) (k:Nat) (f:Fr) (hk:m.fs[k]? =Xa f) (hf:f.f=-1) (hr:f.r≠0) (mv:Xq) (l:List (Nat × Nat)):
  Xp Tryz.prog 199 #[Xj (Xa ⟨p,0,Xb⟩),Xe Xf (k:Int),mv] w fun e w'=>e= Xl (Xh (emptyR m k f l).1)/\Chg w0 p w V (emptyR m k f l).2 w':=by
 obtain⟨n1,-⟩:=h.at.ns;obtain⟨ad,ha,hl⟩:=h.at.frs k f hk;have hlt:(k:Int)< (V.f.n:Int):=by
  have:=(gS.1 hk).1;omega
 have x0:=h.box.box.c 0 rfl;rw[ha]at x0;obtain⟨d0,d1,d2,d3,d4,d5,d6,d7,d8,d9,d10,d11,d12⟩:=hl w (Grew.refl _);clear d0 d1 d2 d3 d4 d5 d6 d7 d8 d9 d10 d12 hl ha n1;obtain⟨ff,HFF⟩:∃ff,Xo (f.f=ff):=⟨_,rfl⟩;rw[HFF.out]at d11;have hc:=cwSwap_any h hR k f hk hr;have HE:Xo (emptyR m k f l=swapR m k f):=show _=_ by unfold emptyR;rw[if_pos hf]
 have hz:(ff == -1)=Xc:=by rw[<-HFF.out,hf];rfl
 rw[HE.out];obtain⟨E,HEE⟩:∃E,Xo (swapR m k f=E):=⟨_,rfl⟩;rw[HEE.out]at hc⊢;clear h hR hk hr hf HE HEE HFF
 go_enter Tryz.func199,Tryz.ntmps199
 go_wp2_with fail;refine hc.mono ?_;clear hc x0 d11;rintro e W2 ⟨rfl,h2⟩;have H2:Xo (Chg w0 p w V E.2 W2):=h2;clear h2;go_wp2;go_ret;exact⟨rfl,H2.out⟩
theorem freeGo_nextS (n:Nat) (m:Ma) (l:List (Nat × Nat)) {k:Nat} {f:Fr} (hi:nextI m.fs m.hand=(k:Int)) (hk:(nextM m).fs[k]? =Xa f):freeGo (n+1) m l=if(emptyR (nextM m) k f l).1=Xc then emptyR (nextM m) k f l else freeGo n (nextM m) l:=by
 conv=>lhs;unfold freeGo
 rw[if_neg (by omega),hi,tN,frAt_of hk]
theorem freeGo_noneS (n:Nat) (m:Ma) (l:List (Nat × Nat)) (hi:nextI m.fs m.hand=-1):freeGo (n+1) m l=(Xd,nextM m):=by
 conv=>lhs;unfold freeGo
 rw[if_pos (by omega)]
theorem cwFreeS_any {w0 w:Xn} {p:Nat} {V:MaV} {m:Ma} (h:ChW w0 p w V m) (hR:Rt m) (hfl:m.fl.length=0) (mv:Xq) (l:List (Nat × Nat)) (hv:RowD sptE (Dw p V) w mv l):
  Xp Tryz.prog 160 #[Xj (Xa ⟨p,0,Xb⟩),mv] w fun e w'=>e= Xl (Xh (freeR m l).1)/\Chg w0 p w V (freeR m l).2 w':=by
 have HV:Xo (RowD sptE (Dw p V) w mv l):=hv;have HM:Xo (ChW w0 p w V m):=h;have HR:Xo (Rt m):=hR;obtain⟨n1,-⟩:=h.at.ns;have hn2:V.f.n<=40:=by have:=hR.inv.fs40;omega
 obtain⟨FR,HFR⟩:∃FR,Xo (freeR m l=FR):=⟨_,rfl⟩;have HG0:Xo (freeGo (2*V.f.n) m l=FR):=show _=_ by rw[<-HFR.out,n1];rfl
 rw[HFR.out];have x0:=h.box.box.c 0 rfl;have HFL:Xo (m.fl.length=0):=hfl;clear h hv hR n1 HFR hfl;obtain⟨fn,HFN⟩:∃fn,Xo (V.f.n=fn):=⟨_,rfl⟩;rw[HFN.out]at x0 hn2 HG0
 go_enter Tryz.func160,Tryz.ntmps160
 go_wp2;clear x0
 go_loopg [14] (2*fn) (fun gg s14 wr=>∃(t:Nat) (mi:Ma) (Vi:MaV),t<=2*fn/\2*fn - t<=gg/\s14= Xe Xf t/\Xo (ChW w0 p wr Vi mi)/\Xo (Rt mi)/\Xo (OutD (Dw p V) w wr)/\Xo (∀k,Dw p Vi k->Dw p V k\/w.heap.size<=k)/\Xo (freeGo (2*fn - t) mi l=FR)/\Xo (mi.fl.length=0))
 case atStart=>exact⟨0,m,V,nZ _,by omega,rfl,HM.out,HR.out,OutD.refl _ _,(fun _ h=> .inl h:∀k,Dw p V k->Dw p V k\/w.heap.size<=k),HG0.out,HFL.out⟩
 clear HM HR HG0 HFL;obtain⟨t,mi,Vi,ht,hgg,rfl,MI,RI,OI,DI,FI,LI⟩:=hrel
 by_cases hlt:t<2*fn
 ·have hltz:(t:Int)<2*(fn:Int):=by omega
  obtain⟨r,HRE⟩:∃r,Xo (2*fn - t=r+1):=⟨2*fn - t - 1,show _=_ by omega⟩
  have HRT:Xo (2*fn -(t+1)=r):=show _=_ by have:=HRE.out;omega
  rw[HRE.out]at FI;obtain⟨g1,_,hcase⟩:=next_goes (fun _ _=>False) RI.out
  have HRN:Xo (Rt (nextM mi)):=g1.rt;have HCS:Xo ((nextI mi.fs mi.hand=-1/\freeN mi.fs=mi.fs.length)\/∃(k:Nat) (fr:Fr),nextI mi.fs mi.hand=(k:Int)/\(nextM mi).fs[k]? =Xa fr/\fr.r≠0):=hcase;have x0:=MI.out.box.box.c 0 rfl;have x1:=MI.out.box.box.c 1 rfl;have hnx:=cwNext MI.out RI.out.parts.1;obtain⟨NI,HNI⟩:∃NI,Xo (nextI mi.fs mi.hand=NI):=⟨_,rfl⟩;rw[HNI.out]at hnx HCS;clear g1 hcase;go_wp2_with fail;refine hnx.mono ?_;clear hnx x0 x1;rintro e W1 ⟨b,rfl,nr,g1⟩;have B1:=dD (MI.out.box.grew g1);have HNR:Xo (OwnRow frmE wr.heap.size W1 (O b.a b.n b.c) (nextF mi.fs mi.hand)):=nr;have G1:Xo (Grew wr W1):=g1;clear nr g1
  go_upto_region 5 with(refine wp_storeT rfl 29 (.tmp 29) (.tmp 24) rfl p 0 rfl (Xi #[O b.a b.n b.c,Xe Xf (nextH mi.fs mi.hand)]) rfl [O b.a b.n b.c,Xe Xf (nextH mi.fs mi.hand)] rfl B1.out (by simp[chL]) (by kernel_rfl) (by simp[Value.oneCell']) ?_)
  intro W2 bx gr2 _;obtain⟨V2,c2,o2,d2⟩:=Chg.step OI.out DI.out (MI.out.setF G1.out HNR.out gr2 bx);have M2:Xo (ChW w0 p W2 V2 (nextM mi)):=c2;have O2:Xo (OutD (Dw p V) w W2):=o2;have D2:Xo (∀k,Dw p V2 k->Dw p V k\/w.heap.size<=k):=d2;clear bx gr2 c2 o2 d2 B1 HNR G1;try simp only[Xs]
  rcases HCS.out with⟨e1,_⟩ | ⟨k,fr,e1,e2,e3⟩
  ·have HFE:Xo (FR=(Xd,nextM mi)):=show _=_ by rw[<-FI.out,freeGo_noneS r mi l (by rw[HNI.out];exact e1)]
   subst e1;have M3:Xo (Chg w0 p w V FR.2 W2):=show Chg _ _ _ _ _ _ by rw[HFE.out];exact⟨V2,M2.out,O2.out,D2.out⟩
   go_wp2;go_ret;exact⟨by rw[HFE.out];rfl,M3.out⟩
  have HFE:Xo (FR=if(emptyR (nextM mi) k fr l).1=Xc then emptyR (nextM mi) k fr l else freeGo r (nextM mi) l):=show _=_ by rw[<-FI.out,freeGo_nextS r mi l (by rw[HNI.out];exact e1) e2]
  have hem:=cwEmptyS_any M2.out HRN.out k fr e2 (no_file HRN.out LI.out e2) e3 mv l;have HEF:Xo ((emptyR (nextM mi) k fr l).1=Xd->(emptyR (nextM mi) k fr l).2=nextM mi):=show _->_ from fun e=>by
   rcases empty_fs (nextM mi) k fr l with⟨q1,_⟩ | ⟨_,q2⟩
   ·rw[q1]at e;cases e
   exact q2
  obtain⟨E,HE⟩:∃E,Xo (emptyR (nextM mi) k fr l=E):=⟨_,rfl⟩;rw[HE.out]at hem HFE HEF;subst e1;have hk40:(0:Int)<=(k:Int):=by omega
  clear e2 e3 HE HCS HNI;go_wp2_with fail;refine hem.mono ?_;clear hem;rintro e W4 ⟨rfl,h4⟩;obtain⟨V4,c4,o4,d4⟩:=Chg.step O2.out D2.out h4;have M4:Xo (ChW w0 p W4 V4 E.2):=c4;have O4:Xo (OutD (Dw p V) w W4):=o4;have D4:Xo (∀k,Dw p V4 k->Dw p V k\/w.heap.size<=k):=d4;clear h4 c4 o4 d4;obtain⟨EB,EM⟩:=E;simp only at M4 HFE HEF
  cases EB with
  | true=>
   have HF2:Xo (FR=(Xc,EM)):=show _=_ by rw[HFE.out];rfl
   have M5:Xo (Chg w0 p w V FR.2 W4):=show Chg _ _ _ _ _ _ by rw[HF2.out];exact⟨V4,M4.out,O4.out,D4.out⟩
   go_wp2;go_ret;exact⟨by rw[HF2.out];rfl,M5.out⟩
  | false=>
   have HEM:Xo (EM=nextM mi):=HEF.out rfl;have HF2:Xo (freeGo r EM l=FR):=show _=_ by rw[HFE.out,HEM.out];rfl
   have R4:Xo (Rt EM):=show Rt _ by rw[HEM.out];exact HRN.out
   have L4:Xo (EM.fl.length=0):=show _=_ by rw[HEM.out];exact LI.out
   clear HFE HEF M2 O2 D2;go_wp2
   go_roundg (2*fn -(t+1))
   case measure=>omega
   exact⟨t+1,EM,V4,by omega,by omega,by go_num,M4.out,R4.out,O4.out,D4.out,by rw[HRT.out];exact HF2.out,L4.out⟩
 have hltz:¬(t:Int)<2*(fn:Int):=by omega
 have HF:Xo (FR=(Xd,mi)):=show _=_ by
  rw[<-FI.out,show 2*fn - t=0 by omega]
  rfl
 have M5:Xo (Chg w0 p w V FR.2 wr):=show Chg _ _ _ _ _ _ by rw[HF.out];exact⟨Vi,MI.out,OI.out,DI.out⟩
 go_wp2;go_ret;exact⟨by rw[HF.out];rfl,M5.out⟩
def swapTo (f:Nat->En):Nat->Nat
 | 0=>0
 | n+1=>swapTo f n+(decide ((f n).kind=2)).toNat
theorem cnt_swap (f:Nat->En) (N:Nat):∀n,sumTo (fun k=>cntTo f 2 (k:Int) n) N<=swapTo f n
 | 0=>by
  have:(fun k:Nat=>cntTo f 2 (k:Int) 0)=fun _=>0:=rfl
  rw[this,sum_zero];exact nR _
 | n+1=>by
  have ih:=cnt_swap f N n;have h1:(fun k:Nat=>cntTo f 2 (k:Int) (n+1))=fun k:Nat=>cntTo f 2 (k:Int) n+(isE (f n) 2 (k:Int)).toNat:=rfl
  rw[h1,sum_add];have h2:sumTo (fun k:Nat=>(isE (f n) 2 (k:Int)).toNat) N<=(decide ((f n).kind=2)).toNat:=by
   by_cases e:(f n).kind=2
   ·have h3:(fun k:Nat=>(isE (f n) 2 (k:Int)).toNat)=fun k:Nat=>(decide ((f n).n=(k:Int))).toNat:=by
     funext k
     simp[isE,e]
    rw[h3];simp only[e,decide_true,Bool.toNat_true];exact(sum_one _ N).1
   have h3:(fun k:Nat=>(isE (f n) 2 (k:Int)).toNat)=fun _=>0:=by
    funext k
    simp[isE,e]
   rw[h3,sum_zero];exact nZ _
  unfold swapTo;omega
theorem few_used {f:Nat->En} {n j:Nat} (hj:j<n) (h0:(f j).kind=0) (hout:∀i,n<=i->i<64->(f i).kind=0):∀N,N<=64->presTo f N+swapTo f N+(decide (j<N)).toNat<=min N n
 | 0,_=>by simp[presTo,swapTo]
 | N+1,hN=>by
  have ih:=few_used hj h0 hout N (by omega)
  unfold presTo swapTo
  by_cases e1:n<=N
  ·have:=hout N e1 (by omega)
   have h3:decide (j<N)=Xc:=decide_eq_true (by omega)
   have h4:decide (j<N+1)=Xc:=decide_eq_true (by omega)
   rw[h3]at ih;rw[this,h4]
   simp at ih⊢
   omega
  by_cases e2:j=N
  ·subst e2;rw[h0]
   simp at ih⊢
   omega
  have h5:decide (j<N+1)=decide (j<N):=by
   by_cases e3:j<N
   ·rw[decide_eq_true e3,decide_eq_true (by omega)]
   rw[decide_eq_false e3,decide_eq_false (by omega)]
  have h6:(decide ((f N).kind=1)).toNat+(decide ((f N).kind=2)).toNat<=1:=by
   by_cases e3:(f N).kind=1
   ·rw[e3]
    decide
   rw[decide_eq_false e3]
   cases decide ((f N).kind=2) <;> decide
  rw[h5];omega
def slF (z:Int):Fr:={ frF with r:=z }
section
variable{m:Ma} {s:Sp} {n j:Nat}
theorem slot_left (h:Rt m) (hf:m.fl.length=0) (hsp:m.sp=[s]) (hj:j<n) (h0:flatN s j=en0) (hout:∀i,n<=i->i<64->flatN s i=en0) (hn:n<=64) (hfree:freeN m.fs=0) (hroom:n<=m.fs.length+m.sl.length):slotN m<m.sl.length:=by
 have h1:=h.inv.heldLe;have h2:=free_held m.fs;have h3:=few_used hj (show(flatN s j).kind=0 by rw[h0];rfl) (fun i a b=>by rw[hout i a b];rfl) 64 (nR _)
 have h4:presN (flats m)=presTo (flatN s) 64:=by
  unfold flats presN;rw[hsp];simp
 have h5:=held_sum (m.sl.map slF) 0 (fun k=>holdN (flats m) 2 (k:Int)) (fun k f hk hr=>by
  rw[List.getElem?_map]at hk
  cases hz:m.sl[k]? with
  | none=>rw[hz]at hk;cases hk
  | some z=>
   rw[hz]at hk;cases hk;have e:=h.inv.cs k z hz;have hr:z≠0:=hr;simp only[zA]
   omega)
 have h6:(fun k:Nat=>holdN (flats m) 2 (k:Int))=fun k:Nat=>cntTo (flatN s) 2 (k:Int) 64:=by
  funext k
  unfold flats;rw[hsp]
  simp[holdN]
 simp only[zA,List.length_map]at h5;rw[h6]at h5;have h7:=cnt_swap (flatN s) m.sl.length 64;have h8:=free_held (m.sl.map slF);rw[List.length_map]at h8;rw[no_cache h hf,h4]at h1;have h9:decide (j<64)=Xc:=decide_eq_true (by omega)
 rw[h9]at h3;simp only[List.length_nil,Bool.toNat_true]at h1 h3;have hpos:0<freeN (m.sl.map slF):=by omega
 obtain⟨x,hx,hr⟩:=Xy.1 hpos;obtain⟨z,hz,rfl⟩:=List.mem_map.1 hx;refine List.findIdx_lt_length_of_exists ⟨z,hz,?_⟩;have hr:decide (z=0)=Xc:=hr;have e:z=0:=of_decide_eq_true hr;rw[e];rfl
theorem room_yes (h:Rt m) (hf:m.fl.length=0) (hsp:m.sp=[s]) (hj:j<n) (h0:flatN s j=en0) (hout:∀i,n<=i->i<64->flatN s i=en0) (hn:n<=64) (hF:0<m.fs.length) (hroom:n<=m.fs.length+m.sl.length) (l:List (Nat × Nat)):(roomR m l).1=Xc:=by
 unfold roomR
 split
 ·rename_i hfree
  have hs:=slot_left h hf hsp hj h0 hout hn hfree hroom;obtain⟨N,hN⟩:∃N,2*m.fs.length=N+1:=⟨2*m.fs.length - 1,by omega⟩
  unfold freeR;rw[hN];unfold freeGo
  rcases next_first h.parts.1 with⟨_,e2⟩ | ⟨k,q,e1,e2,e3,e4,e5,e6⟩
  ·omega
  have e5':(nextM m).fs[k]? =Xa (frU q):=e5;rw[if_neg (by omega),e1,tN,frAt_of e5']
  have hem:(emptyR (nextM m) k (frU q) l).1=Xc:=by
   unfold emptyR;have e7:q.f=-1:=no_file h hf e2;rw[if_pos (show(frU q).f=-1 from e7)]
   unfold swapR;rw[if_pos (show slotN (nextM m)< (nextM m).sl.length from hs)]
  rw[if_pos hem];exact hem
 rfl
end
theorem empty_sll (m:Ma) (k:Nat) (fr:Fr) (l:List (Nat × Nat)):(emptyR m k fr l).2.sl.length=m.sl.length:=by
 unfold emptyR swapR diskR
 split
 ·split
  ·simp[toSlot]
  rfl
 split
 ·rfl
 split
 ·split
  ·show(wrM m _ _ _).sl.length=_
   unfold wrM
   split <;> rfl
  split <;> rfl
 rfl
theorem free_sll (l:List (Nat × Nat)):∀(N:Nat) (m:Ma),(freeGo N m l).2.sl.length=m.sl.length
 | 0,m=>rfl
 | N+1,m=>by
  unfold freeGo
  split
  ·rfl
  split
  ·exact empty_sll (nextM m) _ _ l
  exact free_sll l N (nextM m)
theorem room_sll (m:Ma) (l:List (Nat × Nat)):(roomR m l).2.sl.length=m.sl.length:=by
 unfold roomR
 split
 ·exact free_sll l _ m
 rfl
theorem drop_sll (m:Ma) (p n:Nat):(dropM m p n).sl.length=m.sl.length:=by
 unfold dropM;simp only
 split
 ·rfl
 split
 ·simp[putE]
 rfl
theorem dropAll_sll:∀(l:List (Nat × Nat)) (m:Ma),(dropAll m l).sl.length=m.sl.length
 | [],_=>rfl
 | x :: l,m=>(dropAll_sll l (dropM m x.1 x.2)).trans (drop_sll m x.1 x.2)
def arN (n:Nat):Ar:=⟨0,(n:Int),Xc,Xc,Xd,-1,0⟩
theorem arN_in {n k:Nat} (hk:k<n):onAt [arN n] k=oneOf (arN n) k:=onAt_in (by show(0:Int)<=_;omega) (by show(k:Int)< (n:Int);omega)
theorem arN_out {n k:Nat} (hk:n<=k):onAt [arN n] k=on0:=(onAt_out (.inr (show(n:Int)<=_ by omega))).trans rfl
structure Sw (F S n:Nat) (c:Nat->List Int) (m:Ma):Prop where
 rt:Rt m
 fsl:m.fs.length=F
 sll:m.sl.length=S
 fll:m.fl.length=0
 sp:∃tb,m.sp=[⟨Xc,[arN n],tb⟩]
 see:∀(s:Sp) (k:Nat),m.sp[0]? =Xa s->k<n->(seeE m (onAt s.ars k) (flatN s k)).1=c k
section
variable{F S n k:Nat} {c:Nat->List Int} {m:Ma}
theorem Sw.bare (h:Sw F S n c m) {s:Sp} (hs:m.sp[0]? =Xa s) {i:Nat} (hi:n<=i) (h64:i<64):flatN s i=en0:=by
 obtain⟨tb,e⟩:=h.sp
 rcases h.rt.ent hs h64 with h1 | h1
 ·exact h1
 have h2:=h1.2.2;rw[e]at hs;cases hs;have e3:onAt [arN n] i=on0:=arN_out hi;unfold entE at h2;rw[show(onAt (⟨Xc,[arN n],tb⟩:Sp).ars i)=on0 from e3,if_pos (show on0.is=Xd from rfl)]at h2
 cases h2
theorem Sw.kept (h:Sw F S n c m) {m':Ma} {P:Nat->Nat->Prop} (hr:Rt m') (hs:Sam P m m') (h1:m'.fs.length=m.fs.length) (h2:m'.sl.length=m.sl.length) {c':Nat->List Int} (hc:∀k,k<n->¬P 0 k->c' k=c k) (hP:∀(s:Sp) (k:Nat),m'.sp[0]? =Xa s->k<n->P 0 k->(seeE m' (onAt s.ars k) (flatN s k)).1=c' k) (hn:n<=64):Sw F S n c' m':=by
 obtain⟨tb,e⟩:=h.sp;have hl:m'.sp.length=1:=by rw[hs.spl,e];rfl
 obtain⟨s',e'⟩:=List.length_eq_one_iff.1 hl;have hs0:m.sp[0]? =Xa ⟨Xc,[arN n],tb⟩:=by rw[e];rfl
 have hs1:m'.sp[0]? =Xa s':=by rw[e'];rfl
 obtain⟨a1,a2⟩:=hs.sp 0 _ s' hs0 hs1;refine⟨hr,h1.trans h.fsl,h2.trans h.sll,hs.fll.trans h.fll,⟨s'.tb,?_⟩,fun s k hsk hk=>?_⟩
 ·rw[e'];obtain⟨l,a,t⟩:=s';simp only at a1 a2;rw[a1,a2]
 by_cases hp:P 0 k
 ·exact hP s k hsk hk hp
 rw[hs1]at hsk;cases hsk;have h3:=hs.see 0 k _ s' hs0 hs1 (by omega) hp
 rw[a2,h3,h.see _ k hs0 hk,hc k hk hp]
structure Brought (m:Ma) (k kk:Nat) (pg:Pg) (wr:Bool) (mB:Ma):Prop where
 rt:Rt mB
 sam:Sam (fun q j=>q=0/\j=k) m mB
 fsl:mB.fs.length=m.fs.length
 sll:mB.sl.length=m.sl.length
 into:∃(s:Sp) (fr:Fr) (we:Bool),mB.sp[0]? =Xa s/\mB.fs[kk]? =Xa fr/\flatN s k=⟨1,(kk:Int),we⟩/\fr.p=pg/\fr.f=-1/\(wr=Xc->fr.r=1)
theorem Sw.copy (h:Sw F S n c m) (hn:n<=64) (hF:0<F) (hroom:n<=F+S) {l:List (Nat × Nat)} (hl:(0,k)∈l) (hd:l.Nodup) (hx:∀x∈l,x.1=0/\x.2<n) (hk:k<n) (pg:Pg) (hv:∀(s:Sp) (j:Nat),m.sp[0]? =Xa s->(0,j)∈l->j≠k->seeE m (onAt s.ars j) (flatN s j)=(pgL pg,Xc,0)) (wr:Bool) (hw:wr=Xc->l.length=1):
  (copyR m pg l).1=Xc/\Brought m k (copyR m pg l).2.1 pg wr (copyR m pg l).2.2:=by
 obtain⟨tb,e⟩:=h.sp;have hs0:m.sp[0]? =Xa ⟨Xc,[arN n],tb⟩:=by rw[e];rfl
 have hl1:∀x∈l,x.2<64/\∃s,m.sp[x.1]? =Xa s:=fun x hxl=>by
  obtain⟨a,b⟩:=hx x hxl;exact⟨by omega,_,by rw[a];exact hs0⟩
 obtain⟨d1,d2,d3,d4,d5⟩:=dropAll_goes l h.rt hl1;have hm1:Sw F S n (fun j=>if(0,j)∈l then zero8 else c j) (dropAll m l):=h.kept d1.rt d1.sam d1.fsl (dropAll_sll l m) (fun j _ hj=>if_neg hj) (fun s j hs hj hp=>by
  have e1:=d2 (0,j) hp s hs;have e2:=(d1.sam.sp 0 _ s hs0 hs).2;simp only at e1;rw[e1,if_pos hp,e2]
  show(seeE _ (onAt [arN n] j) en0).1=_
  rw[arN_in hj]
  rfl) hn
 obtain⟨tb1,e1⟩:=hm1.sp;have hs1:(dropAll m l).sp[0]? =Xa ⟨Xc,[arN n],tb1⟩:=by rw[e1];rfl
 have hyes:=room_yes hm1.rt hm1.fll e1 hk (d2 (0,k) hl _ hs1) (fun i hi h64=>hm1.bare hs1 hi h64) hn (by rw[hm1.fsl];exact hF) (by rw[hm1.fsl,hm1.sll];exact hroom) l
 obtain⟨g,g2,_⟩:=room_goes hm1.rt l;obtain⟨_,f2,fr,f3,f4⟩:=free_at (g2 hyes);have hx2:∀x∈l,x.2<64/\∃s,m.sp[x.1]? =Xa s/\(onAt s.ars x.2).is=Xc/\(onAt s.ars x.2).sh=Xd:=fun x hxl=>by
  obtain⟨a,b⟩:=hx x hxl;refine⟨by omega,_,by rw[a];exact hs0,?_,?_⟩
  ·rw[show onAt [arN n] x.2=_ from arN_in b]
   rfl
  rw[show onAt [arN n] x.2=_ from arN_in b]
  rfl
 have hne:l≠[]:=fun e=>by rw[e]at hl;cases hl
 obtain⟨c1,c2,c3,c4⟩:=copied h.rt hne hd hx2 g f3 f4 pg Xc;have ec:copyR m pg l=(Xc,freeI (roomR (dropAll m l) l).2.fs,copyM (roomR (dropAll m l) l).2 (freeI (roomR (dropAll m l) l).2.fs) pg Xc l):=by
  unfold copyR;rw[if_pos hyes]
 rw[ec];have c5:=copied_see c2 c3 c4 (fun q j=>q=0/\j=k) (fun q j s hs hj hjl hne=>by
  have hq:=(hx _ hjl).1;simp only at hq;subst hq;have e0:=hs;rw[hs0]at e0;cases e0;refine⟨?_,hv _ j hs hjl (fun e=>hne ⟨rfl,e⟩)⟩
  rw[show onAt [arN n] j=_ from arN_in (hx _ hjl).2]
  rfl)
 have:∃t,(copyM (roomR (dropAll m l) l).2 (freeI (roomR (dropAll m l) l).2.fs) pg Xc l).sp[0]? =Xa t:=⟨_,gE (by rw[c2.spl];exact(gS.1 hs0).1)⟩
 obtain⟨t,ht⟩:=this;refine⟨rfl,c1,c5,?_,?_,t,_,Xd,ht,c3,c4 (0,k) hl t ht,rfl,rfl,fun hwr=>by show(l.length:Int)=1;rw[hw hwr];rfl⟩
 ·show((roomR (dropAll m l) l).2.fs.set _ _).length=_
  rw[List.length_set,g.fsl,d1.fsl]
 show(roomR (dropAll m l) l).2.sl.length=_
 rw[room_sll,dropAll_sll]
end
def chF (f g:Nat->On) (s e:Nat):Nat->On:=fun j=>if s<=j/\j<e then g j else f j
theorem chF_zero (f g:Nat->On) (s:Nat):chF f g s s=f:=by
 funext j
 unfold chF;rw[if_neg (by omega)]
theorem chF_at (f g:Nat->On) (s k:Nat):partF (chF f g s k) k=partF f k:=by
 unfold partF chF;rw[if_neg (by omega)]
theorem chF_step (f g:Nat->On) {s k:Nat} (h:s<=k):upd (partF (chF f g s k)) k (arOf k (g k))=partF (chF f g s (k+1)):=by
 funext j
 unfold upd partF chF
 by_cases e:j=k
 ·subst e;rw[if_pos rfl,if_pos (by omega)]
 rw[if_neg e]
 congr 1
 by_cases h:s<=j/\j<k
 ·rw[if_pos h,if_pos (by omega)]
 rw[if_neg h,if_neg (by omega)]
theorem changed_any (v:Xq) (l:List Ar) (s n:Nat) (F:Nat) (caps:Array Xq) (g:Nat->On) (w:Xn) (hv:RowAt arE w v l) (hok:CanP Xb l) (hsn:s<=n) (hn:n<=64) (hgd:Good (chF (onAt l) g s n)) (eg:Enters Tryz.prog F)
  (hcall:∀W (k:Nat),Grew w W->s<=k->k<n->Xp Tryz.prog F (#[Xe Xf (k:Int),arA (partF (onAt l) k)]++caps) W fun e w'=>e= Xl (arA (arOf k (g k)))/\Grew W w'):
  Xp Tryz.prog 130 #[v,Xe Xf (s:Int),Xe Xf (n:Int),.func (.func F) #[] caps] w fun e w'=>(∃u,e= Xl (Xm #[u,Xe Xf (fewL (chF (onAt l) g s n)).2])/\OwnRow arE w.heap.size w' u (fewL (chF (onAt l) g s n)).1)/\Grew w w':=by
 have HPA:=parted_any v l w hv hok;have HJO:Xo (∀W,Xp Tryz.prog 171 #[Xi (cellsA (tab (partF (chF (onAt l) g s n)))).toArray] W fun e w'=>(∃v,e= Xl v/\OwnRow arE (W.heap.size+1) w' v (joinL (chF (onAt l) g s n)))/\Grew W w'):=fun W=>joined_any _ W hgd
 have HCA:Xo _:=hcall;have EG:Xo (∀(args:Array Xq) (w:Xn),(callFunc F args).run Tryz.prog w= .ok (.enter F args) w):=eg;have HFW:Xo (¬16< (joinL (chF (onAt l) g s n)).length->fewL (chF (onAt l) g s n)=(joinL (chF (onAt l) g s n),0)):=fun h=>by unfold fewL;rw[if_neg h]
 have HFM:Xo (16< (joinL (chF (onAt l) g s n)).length->fewL (chF (onAt l) g s n)=([],4)):=fun h=>by unfold fewL;rw[if_pos h]
 have HJS:Xo ((joinL (chF (onAt l) g s n)).length<=64):=(joinL_J hgd).len;have HZF:Xo (partF (onAt l)=partF (chF (onAt l) g s s)):=show _=_ by rw[chF_zero]
 clear hv hok hgd hcall eg;obtain⟨FW,HFE⟩:∃FW,Xo (fewL (chF (onAt l) g s n)=FW):=⟨_,rfl⟩;simp only[HFE.out]at HFW HFM⊢;obtain⟨JL,HJL⟩:∃JL,Xo (joinL (chF (onAt l) g s n)=JL):=⟨_,rfl⟩;simp only[HJL.out]at HFW HFM HJS HJO;clear HFE HJL;have hz:=run_zeroA;obtain⟨Z0,HZ0⟩:∃Z0,Xo (cellsA (tab fun _=>ar0)=Z0):=⟨_,rfl⟩
 rw[HZ0.out]at hz;have HZL:Xo (Z0.length=448):=show _=_ by rw[<-HZ0.out,tabA_len]
 have HPL:Xo ((cellsA (tab (partF (onAt l)))).length=448):=tabA_len _;have HPO:Xo (∀v∈cellsA (tab (partF (onAt l))),v.oneCell'=Xc):=cellsA_one _
 go_enter Tryz.func130,Tryz.ntmps130
 go_wp2_with fail;refine HPA.mono ?_;rintro e W1 ⟨rfl,g1⟩;have G1:Xo (Grew w W1):=g1;clear g1 HPA;obtain⟨p,HP⟩:∃p,Xo (W1.heap.size=p):=⟨_,rfl⟩;have HLP:Xo (w.heap.size<=p):=show _<=_ by rw[<-HP.out];exact bS G1.out
 go_upto_region 2 with(refine wp_storeAll rfl 232 (.tmp 10) (.tmp 14) rfl W1.heap.size rfl (cellsA (tab (partF (onAt l)))) rfl (Box.top W1 Z0 232 rfl) (by rw[HPL.out,HZL.out]) (by rw[HZL.out];exact Tryz.sizePgs) HPO.out ?_)
 intro W2 b2 g2 s2;rw[HP.out]at b2 g2⊢;have G2:Xo (Grew w W2):=grew_grown (G1.out.trans (grew_alloc _ _)) g2 HLP.out;have L2:Xo (Box W2 p (cellsA (tab (partF (chF (onAt l) g s s))))):=show Box _ _ _ by rw[<-HZF.out];exact b2
 clear b2 g2 s2 hz;go_wp2
 go_loopg [11] (n - s) (fun gg s11 wr=>∃kk:Nat,s<=kk/\kk<=n/\n - kk<=gg/\s11= Xe Xf kk/\Xo (Grew w wr)/\Xo (Box wr p (cellsA (tab (partF (chF (onAt l) g s kk))))))
 case atStart=>exact⟨s,nR _,hsn,by omega,rfl,G2.out,L2.out⟩
 obtain⟨kk,hk0,hkk,hg,rfl,BW,LW⟩:=hrel
 by_cases hlt:kk<n
 ·have hltz:(kk:Int)< (n:Int):=by omega
  have h64:kk<64:=by omega
  have h64z:(kk:Int)<64:=by omega
  have HV:Xo (arA (partF (chF (onAt l) g s kk) kk)=arA (partF (onAt l) kk)):=show _=_ by rw[chF_at]
  have HST:Xo (upd (partF (chF (onAt l) g s kk)) kk (arOf kk (g kk))=partF (chF (onAt l) g s (kk+1))):=chF_step _ _ hk0
  go_wp2_with (refine wp_loadArv rfl (.tmp 25) rfl p kk h64 rfl LW.out HV.out ?_)
  rw[EG.out];refine(HCA.out wr kk BW.out hk0 hlt).mono ?_;rintro e W3 ⟨rfl,g3⟩;have G3:=dD (BW.out.trans g3);have L3:=dD (LW.out.grew g3);clear g3
  go_wp2_with (refine wp_storeAr rfl (.tmp 28) (.tmp 27) rfl p kk h64 rfl (arOf kk (g kk)) rfl L3.out ?_)
  intro W4 b4 g4 s4;have L4:Xo (Box W4 p (cellsA (tab (partF (chF (onAt l) g s (kk+1)))))):=show Box _ _ _ by rw[<-HST.out];exact b4
  have G4:Xo (Grew w W4):=grew_grown G3.out g4 HLP.out;clear b4 g4 s4;go_wp2
  go_roundg (n -(kk+1))
  case measure=>omega
  exact⟨kk+1,by omega,by omega,by omega,by go_num,G4.out,L4.out⟩
 have hltz:¬(kk:Int)< (n:Int):=by omega
 have:kk=n:=by omega
 subst this;have HCL:Xo ((cellsA (tab (partF (chF (onAt l) g s kk)))).length=448):=tabA_len _
 go_wp2_with (refine wp_loadAll rfl 232 (.tmp 10) rfl p rfl LW.out Tryz.underlying232 rfl (by rw[HCL.out];exact Tryz.sizePgs) ?_)
 refine(HJO.out wr).mono ?_;rintro e W5 ⟨⟨u,rfl,ow5⟩,g5⟩;obtain⟨xa,xc,rfl⟩:=ow5.form;have G5:=dD (BW.out.trans g5);have O5:Xo (OwnRow arE w.heap.size W5 (O xa JL.length xc) JL):=ow5.base (nT (bS BW.out) (Nat.le_succ _));clear g5 ow5;obtain⟨m,HM⟩:∃m,Xo (JL.length=m):=⟨_,rfl⟩;rw[HM.out]at HFW HFM HJS O5⊢;have hm64:m<=64:=HJS.out
 by_cases hmany:16<m
 ·have hmz:(16:Int)< (m:Int):=by omega
  have HR:Xo (FW=([],4)):=HFM.out hmany;go_wp2;refine bodyPost_ret (v:= Xm #[O Xb 0 0,Xe Xf 4]) (by simp[results,Tryz.results130]) rfl ?_
  rw[HR.out];exact⟨⟨_,rfl,OwnRow.nil _ _ _⟩,G5.out⟩
 have hmz:¬(16:Int)< (m:Int):=by omega
 have HR:Xo (FW=(JL,0)):=HFW.out hmany;go_wp2;refine bodyPost_ret (v:= Xm #[O xa m xc,Xe Xf 0]) (by simp[results,Tryz.results130]) rfl ?_
 rw[HR.out];exact⟨⟨_,rfl,O5.out⟩,G5.out⟩
theorem mapC_any (a q:Ar) (k pa:Nat) (w:Xn) (hb:Box w pa [Xe Xf a.fr,Xe Xf a.tz,Xh a.rd,Xh a.wr,Xh a.sh,Xe Xf a.file,Xe Xf a.base]) (ha:ArOk a) (hk:k<64):
  Xp Tryz.prog 131 #[Xe Xf (k:Int),Xi #[Xe Xf q.fr,Xe Xf q.tz,Xh q.rd,Xh q.wr,Xh q.sh,Xe Xf q.file,Xe Xf q.base],Xj (Xa ⟨pa,0,Xb⟩)] w fun e w'=>e= Xl (arA (arOf k (oneOf a k)))/\Grew w w':=by
 have HO:∀W,Xp Tryz.prog 132 #[Xi #[Xe Xf a.fr,Xe Xf a.tz,Xh a.rd,Xh a.wr,Xh a.sh,Xe Xf a.file,Xe Xf a.base],Xe Xf (k:Int)] W fun e w'=>e= Xl (arA (arOf k (oneOf a k)))/\Grew W w':=fun W=>only_any a k W ha hk
 obtain⟨x,hx⟩:∃x,arOf k (oneOf a k)=x:=⟨_,rfl⟩;simp only[hx]at HO⊢;clear hx ha hk;obtain⟨W0,hW0⟩:∃W0,(w.alloc (Xk #[Xe Xf q.fr,Xe Xf q.tz,Xh q.rd,Xh q.wr,Xh q.sh,Xe Xf q.file,Xe Xf q.base] 125)).alloc (Xk #[Xe Xf 0,Xe Xf 0,Xh Xd,Xh Xd,Xh Xd,Xe Xf 0,Xe Xf 0] 125)=W0:=⟨_,rfl⟩;have HG0:=gD2 hW0
 have X0:Xo (Box W0 pa [Xe Xf a.fr,Xe Xf a.tz,Xh a.rd,Xh a.wr,Xh a.sh,Xe Xf a.file,Xe Xf a.base]):=show Box _ _ _ by rw[<-hW0];exact(hb.alloc _).alloc _
 have Y0:=x2b hW0
 have HW0:Xo (_=W0):=hW0;clear hW0 hb
 go_enter Tryz.func131,Tryz.ntmps131
 go_upto_region 1 with fail;rw[HW0.out]
 go_wp2_with (refine wp_loadAll rfl 125 (.tmp 2) rfl pa rfl X0.out Tryz.underlying125 rfl Tryz.sizeArea ?_)
 refine(HO _).mono ?_;rintro e W1 ⟨rfl,g1⟩;have G1:=dD (HG0.out.trans g1);have Y1:=dD (Y0.out.grew g1);clear g1 HO
 go_wp2_with (refine wp_storeAll rfl 125 (.tmp 5) (.tmp 8) rfl (w.heap.size+1) rfl (arv x) rfl Y1.out rfl Tryz.sizeArea (arE.one x) ?_)
 intro W2 b2 g2 s2;have G2:Xo (Grew w W2):=grew_grown G1.out g2 (by simp)
 have B2:Xo (Box W2 (w.heap.size+1) (arv x)):=b2;clear b2 g2 s2;go_wp2;refine bodyPost_ret (ret_cell rfl _ rfl B2.out Tryz.underlying125 rfl Tryz.sizeArea) rfl ⟨rfl,G2.out⟩
theorem field_err (x y:Int) (w:Xn):(Instr.field 186 (Xi #[Xe Xf x,Xe Xf y]) 0).run Tryz.prog w= .ok (Xe Xf x) w:=by
 simp only[Instr.field,Xz,run_underlying Tryz.underlying186,rA,asAgg];exact run_part_plain w (by simp[Program.plainKey,Tryz.underlying44]) rfl
theorem ch_map (l:List Ar) {a:Ar} (ha:ArOk a):chF (onAt l) (oneOf a) a.fr.toNat a.tz.toNat=mapF l a:=by
 unfold ArOk at ha
 funext j
 unfold chF mapF
 by_cases h:arIn a j=Xc
 ·have:=arIn_iff.1 h;rw[if_pos h,if_pos (by omega)]
 have h1:¬(a.fr<=(j:Int)/\(j:Int)<a.tz):=fun h2=>h (arIn_iff.2 h2)
 rw[if_neg h,if_neg (by omega)]
def Gives (R:List Ar × Int) (w:Xn) (e:Ending) (w':Xn):Prop:=(∃u,e= Xl (Xm #[u,Xe Xf R.2])/\OwnRow arE w.heap.size w' u R.1)/\Grew w w'
theorem mapCh {l:List Ar} {a:Ar} {v:Xq} {w W:Xn} {pa:Nat} (hv:RowAt arE w v l) (hl:CanP Xb l) (ha:ArOk a) (hW:Grew w W) (hb:Box W pa [Xe Xf a.fr,Xe Xf a.tz,Xh a.rd,Xh a.wr,Xh a.sh,Xe Xf a.file,Xe Xf a.base]):
  Xp Tryz.prog 130 #[v,Xe Xf a.fr,Xe Xf a.tz,.func (.func 131) #[] #[Xj (Xa ⟨pa,0,Xb⟩)]] W fun e w'=>(∃u,e= Xl (Xm #[u,Xe Xf (fewL (mapF l a)).2])/\OwnRow arE W.heap.size w' u (fewL (mapF l a)).1)/\Grew W w':=by
 have ha':=ha;unfold ArOk at ha';have h:=changed_any v l a.fr.toNat a.tz.toNat 131 #[Xj (Xa ⟨pa,0,Xb⟩)] (oneOf a) W (hv.grew hW) hl (by omega) (by omega) (by rw[ch_map l ha];exact mapF_good hl ha) (enters_of Tryz.func131 (by kernel_rfl) rfl) (fun W' k h1 h2 h3=>mapC_any a (partF (onAt l) k) k pa W' (hb.grew h1) ha (by omega))
 rw[ch_map l ha,show((a.fr.toNat:Nat):Int)=a.fr by omega,show((a.tz.toNat:Nat):Int)=a.tz by omega]at h
 exact h
theorem map_any (v:Xq) (l:List Ar) (a:Ar) (w:Xn) (hv:RowAt arE w v l):
  Xp Tryz.prog 76 #[v,Xi #[Xe Xf a.fr,Xe Xf a.tz,Xh a.rd,Xh a.wr,Xh a.sh,Xe Xf a.file,Xe Xf a.base]] w (Gives (mapA l a) w):=by
 have HV:Xo (RowAt arE w v l):=hv;have hfe:=field_err;have hmf:∀(fn:Fn) (first cap:Array Xq) (w:Xn),(Instr.makeFunc fn first cap).run Tryz.prog w= .ok (.func fn first cap) w:=fun _ _ _ _=>rfl
 have HW:Xo (∀W,Grew w W->Xp Tryz.prog 117 #[v] W fun e w'=>e= Xl (Xi #[Xe Xf (wrL l).1,Xe Xf (wrL l).2])/\Grew W w'):=fun W hW=>wrongAr_any v l W (HV.out.grew hW)
 have HWA:Xo (∀W,Xp Tryz.prog 129 #[Xi #[Xe Xf a.fr,Xe Xf a.tz,Xh a.rd,Xh a.wr,Xh a.sh,Xe Xf a.file,Xe Xf a.base]] W fun e w'=>e= Xl (Xe Xf (arW a))/\Grew W w'):=fun W=>wrongArea_any a W
 clear hv;obtain⟨W0,hW0⟩:∃W0,w.alloc (Xk #[Xe Xf a.fr,Xe Xf a.tz,Xh a.rd,Xh a.wr,Xh a.sh,Xe Xf a.file,Xe Xf a.base] 125)=W0:=⟨_,rfl⟩;have HG0:=gA hW0
 have X0:=xA hW0
 have HW0:Xo (_=W0):=hW0;clear hW0
 by_cases hz:(wrL l).1=0
 ·rw[hz]at HW
  generalize(wrL l).2=I at HW
  by_cases hza:arW a=0
  ·rw[hza]at HWA;have HL:Xo (l.length<=16/\CanP Xb l):=wrL_zero.1 hz;have HA:Xo (ArOk a):=arW_zero.1 hza;obtain⟨s,n,hs,he,hsn,hn1⟩:∃s n:Nat,(s:Int)=a.fr/\(s:Int)+(n:Int)=a.tz/\s+n<=64/\1<=n:=⟨a.fr.toNat,a.tz.toNat - a.fr.toNat,by have:=HA.out;unfold ArOk at this;omega⟩
   have HT:Xo (∀W,Grew w W->Xp Tryz.prog 128 #[v,Xe Xf a.fr,Xe Xf a.tz] W fun e w'=>e= Xl (Xe Xf (countA l s n:Int))/\Grew W w'):=fun W hW=>by
    have:=taken_any v l s n W (HV.out.grew hW) hsn;rw[he,hs]at this;exact this
   have hch:=count_hit (l:=l) hsn;rw[hs,show(n:Int)=a.tz - a.fr by omega]at hch
   have hc64:=countA_le l s n;have HC:Xo (∀W,Grew w W->Box W w.heap.size [Xe Xf a.fr,Xe Xf a.tz,Xh a.rd,Xh a.wr,Xh a.sh,Xe Xf a.file,Xe Xf a.base]->Xp Tryz.prog 130 #[v,Xe Xf a.fr,Xe Xf a.tz,.func (.func 131) #[] #[Xj (Xa ⟨w.heap.size,0,Xb⟩)]] W fun e w'=>(∃u,e= Xl (Xm #[u,Xe Xf (fewL (mapF l a)).2])/\OwnRow arE W.heap.size w' u (fewL (mapF l a)).1)/\Grew W w'):=fun W hW hb=>mapCh HV.out HL.out.2 HA.out hW hb
   have HR:Xo (mapA l a=if hitB l a.fr (a.tz - a.fr)=Xc then([],6)else fewL (mapF l a)):=show _=_ by unfold mapA;rw[if_neg (fun h=>h hz),if_neg (fun h=>h hza)]
   clear hz hza hs he hsn hn1
   go_enter Tryz.func76,Tryz.ntmps76
   go_upto_region 1 with fail;rw[HW0.out];go_wp2_with fail;refine(HW.out W0 HG0.out).mono ?_;rintro e W1 ⟨rfl,g1⟩;have G1:=dD (HG0.out.trans g1);have X1:=dD (X0.out.grew g1);clear g1
   go_wp2_with (refine wp_loadAll rfl 125 (.tmp 3) rfl w.heap.size rfl X1.out Tryz.underlying125 rfl Tryz.sizeArea ?_)
   refine(HWA.out W1).mono ?_;rintro e W2 ⟨rfl,g2⟩;have G2:=dD (G1.out.trans g2);have X2:=dD (X1.out.grew g2);clear g2;have x0:=X2.out.c 0 rfl;have x1:=X2.out.c 1 rfl;go_wp2_with fail;refine(HT.out W2 G2.out).mono ?_;rintro e W3 ⟨rfl,g3⟩;have G3:=dD (G2.out.trans g3);have X3:=dD (X2.out.grew g3);clear g3 x0 x1
   cases hh:hitB l a.fr (a.tz - a.fr)with
   | true=>
    have hcp:(0:Int)< (countA l s n:Int):=by
     have:countA l s n≠0:=fun h=>by rw[hch.1 h]at hh;cases hh
     omega
    have HE:Xo (mapA l a=([],6)):=show _=_ by rw[HR.out,hh,if_pos rfl]
    clear hh hch hc64
    generalize countA l s n=C at hcp
    go_wp2;refine bodyPost_ret (results_tmp2 rfl _ _ _) rfl ?_;rw[HE.out];exact⟨⟨_,rfl,OwnRow.nil _ _ _⟩,G3.out⟩
   | false=>
    have hc0:countA l s n=0:=hch.2 hh;have hcp:¬(0:Int)< (countA l s n:Int):=by omega
    have HE:Xo (mapA l a=fewL (mapF l a)):=show _=_ by rw[HR.out,hh,if_neg (by decide)]
    clear hh hch hc64 hc0
    generalize countA l s n=C at hcp
    have x0:=X3.out.c 0 rfl;have x1:=X3.out.c 1 rfl;go_wp2_with fail;refine(HC.out W3 G3.out X3.out).mono ?_;rintro e W4 ⟨⟨u,rfl,ow⟩,g4⟩;have G4:=dD (G3.out.trans g4);have O4:Xo (OwnRow arE w.heap.size W4 u (fewL (mapF l a)).1):=ow.base (bS G3.out);clear g4 ow x0 x1;go_wp2;refine bodyPost_ret (results_tmp2 rfl _ _ _) rfl ?_;rw[HE.out];exact⟨⟨_,rfl,O4.out⟩,G4.out⟩
  have hzb:(arW a != 0)=Xc:=by simp[hza]
  have HR:Xo (mapA l a=([],arW a)):=show _=_ by unfold mapA;rw[if_neg (fun h=>h hz),if_pos hza]
  clear hz hza
  generalize arW a=E at*
  go_enter Tryz.func76,Tryz.ntmps76
  go_upto_region 1 with fail;rw[HW0.out];go_wp2_with fail;refine(HW.out W0 HG0.out).mono ?_;rintro e W1 ⟨rfl,g1⟩;have G1:=dD (HG0.out.trans g1);have X1:=dD (X0.out.grew g1);clear g1
  go_wp2_with (refine wp_loadAll rfl 125 (.tmp 3) rfl w.heap.size rfl X1.out Tryz.underlying125 rfl Tryz.sizeArea ?_)
  refine(HWA.out W1).mono ?_;rintro e W2 ⟨rfl,g2⟩;have G2:=dD (G1.out.trans g2);clear g2;go_wp2;refine bodyPost_ret (results_tmp2 rfl _ _ _) rfl ?_;rw[HR.out];exact⟨⟨_,rfl,OwnRow.nil _ _ _⟩,G2.out⟩
 have hzb:((wrL l).1 != 0)=Xc:=by simp[hz]
 have HR:Xo (mapA l a=([],(wrL l).1)):=show _=_ by unfold mapA;rw[if_pos hz]
 clear hz
 generalize(wrL l).2=I at HW
 generalize(wrL l).1=E at*
 go_enter Tryz.func76,Tryz.ntmps76
 go_upto_region 1 with fail;rw[HW0.out];go_wp2_with fail;refine(HW.out W0 HG0.out).mono ?_;rintro e W1 ⟨rfl,g1⟩;have G1:=dD (HG0.out.trans g1);clear g1;go_wp2;refine bodyPost_ret (results_tmp2 rfl _ _ _) rfl ?_;rw[HR.out];exact⟨⟨_,rfl,OwnRow.nil _ _ _⟩,G1.out⟩
def A0:Ar:=⟨2,8,Xc,Xd,Xd,-1,0⟩
def A1:List Ar:=[⟨2,4,Xc,Xd,Xd,-1,0⟩,⟨5,8,Xc,Xd,Xd,-1,0⟩]
def A2:List Ar:=[⟨2,4,Xc,Xc,Xd,-1,0⟩,⟨4,8,Xc,Xd,Xd,-1,0⟩]
def arC (c:Cl):Ar:=⟨c.pt,c.pt+c.n,c.rd,c.wr,c.sh,c.file,c.base⟩
def areaM (m:Ma) (q:Nat) (s:Sp) (l:List Ar):Ma:={ m with sp:=m.sp.set q { s with ars:=l } }
def KMap (m:Ma) (c:Cl) (er n:Int) (l:List Int) (m':Ma):Prop:=
 l=[]/\∃(q:Nat) (s:Sp),LiveP m c.proc q s/\er=(mapA s.ars (arC c)).2/\(er=0->n=c.pt/\m'=areaM m q s (mapA s.ars (arC c)).1)
theorem map_done {w0 u w w1 w2 W:Xn} {p q g:Nat} {V:MaV} {m:Ma} {x y:SpV} {s:Sp} {xs:List SpV} {b:Sli} {l:List Ar} (h:ChW w0 p u V m) (s1:OwnRow spcE w0.heap.size u (O V.sp.a V.sp.n V.sp.c) xs) (s2:xs.length=m.sp.length) (s3:∀(i:Nat) x s,xs[i]? =Xa x->m.sp[i]? =Xa s->∀W,OutD (Dr w0.heap.size p V) u W->SpaceAt W x s) (hx:xs[q]? =Xa x) (hs:m.sp[q]? =Xa s) (hg:oB V.sp g)
  (gu:Grew u w) (g1:Grew w w1) (nr:OwnRow arE w.heap.size w1 (O b.a b.n b.c) l) (g2:w1.grownBy w2 (Xa g)) (ow:OwnRow spcE w0.heap.size w2 (O V.sp.a V.sp.n V.sp.c) (xs.set q y)) (hy:y.live=x.live/\y.ar=b/\y.tab=x.tab) (hW:OutD (Aft w0 u w) w2 W):MachAt W V (areaM m q s l):=by
 have hgu:=(s1.lt g hg).2;have hgl:=(s1.lt g hg).1;have hsz:=bS gu;have o:OutD (fun k=>k<w0.heap.size\/k=g) u W:=by
  have o1:OutD (fun k=>k<w0.heap.size\/k=g) u w2:=(OutD.grew (gu.trans g1)).trans (OutD.grown g2 (.inr rfl))
  refine⟨hW.os.trans o1.os,hW.tape.trans o1.tape,hW.output.trans o1.output,nT o1.size hW.size,fun i hi hn=>?_⟩
  rw[hW.block i (Xt hi o1.size) (fun e=>by rcases e with e | e;exact hn (.inl e);omega)]
  exact o1.block i hi hn
 have oD:OutD (Dr w0.heap.size p V) u W:=o.wide fun k hk=>hk.elim .inl fun e=>by cases e;exact .inr (.inr (.inr (.inr hg)))
 have r:=h.rest W oD;have own:∀{α:Type} {E:Elt α} {a:Sli} {l:List α},OwnRow E w0.heap.size u (O a.a a.n a.c) l->(∀k,oB a k->¬oB V.sp k)->RowAt E W (O a.a a.n a.c) l:=fun hr hn=>OwnRow.at ⟨owns_outD hr.1 o (fun k hk e=>by
  rcases e with e | e
  ·have:=(hr.lt k hk).1;omega
  cases e;exact hn _ hk hg),hr.2⟩
 have nr2:OwnRow arE w.heap.size W (O b.a b.n b.c) l:=by
  refine⟨owns_outD (D:=fun k=>k<w.heap.size) nr.1 ((OutD.grown g2 (by omega)).trans (hW.wide fun k hk=>?_)) (fun k hk e=>?_),nr.2⟩
  ·rcases hk with e | e
   ·have:=bS h.gr;omega
   exact e.2
  have:=(nr.lt k hk).1;omega
 refine⟨own h.fs h.fS,r.sl,r.sb,r.sq,r.db,r.dq,r.fl,own h.ca h.cS,xs.set q y,OwnRow.at ⟨owns_outD ow.1 hW (fun k hk e=>?_),ow.2⟩,by simp[areaM,s2],fun i x' s' hx' hs'=>?_⟩
 ·have e1:k=g:=by
   have h1:oB V.sp k:=hk;unfold oB at h1 hg;rw[h1]at hg;cases hg;rfl
  subst e1
  rcases e with e | e <;> omega
 by_cases e:i=q
 ·subst e;rw[sF (gS.1 hx).1]at hx';have hs':(m.sp.set i { s with ars:=l })[i]? =Xa s':=hs';rw[sF (gS.1 hs).1]at hs';cases hx';cases hs';have k:=s3 i x s hx hs W oD;obtain⟨y1,y2,y3⟩:=hy;refine⟨y1.trans k.live,by rw[y2];exact nr2.at,?_,by rw[y3];exact k.tb⟩
  rw[y2];exact nr2.cap
 rw[sN (fun h=>e h.symm)]at hx'
 have hs':(m.sp.set q { s with ars:=l })[i]? =Xa s':=hs';rw[sN (fun h=>e h.symm)]at hs'
 exact s3 i x' s' hx' hs' W oD
theorem pg_same {a b:Pg} (h:pgL a=pgL b):a=b:=by
 cases a;cases b
 simpa [pgL]using h
section
variable{F S n k:Nat} {c:Nat->List Int} {m:Ma}
theorem Sw.view (h:Sw F S n c m) (hn:n<=64) (hk:k<n) {s:Sp} (hs:m.sp[0]? =Xa s):viewL m 0 (k:Int)=seeE m (onAt s.ars k) (flatN s k):=by
 unfold viewL;rw[if_neg (by rw[h.rt.w];decide)]
 exact view_see (p:=0) hs (by omega)
theorem Sw.bring (h:Sw F S n c m) (hn:n<=64) (hF:0<F) (hroom:n<=F+S) (hk:k<n) {pg:Pg} {ic:Bool} (hv:viewL m 0 (k:Int)=(pgL pg,ic,0)) (wr:Bool) (BF:Bool × Nat × Ma):
  (bringR m BF pg (arN n) ic wr 0 k).1=Xc/\Brought m k (bringR m BF pg (arN n) ic wr 0 k).2.1 pg wr (bringR m BF pg (arN n) ic wr 0 k).2.2:=by
 obtain⟨tb,e⟩:=h.sp;have hs0:m.sp[0]? =Xa ⟨Xc,[arN n],tb⟩:=by rw[e];rfl
 have hent:entM m 0 (k:Int)=flatN ⟨Xc,[arN n],tb⟩ k:=by unfold entM;rw[Sp.getD_of hs0,getT_flat (by omega)]
 rw[h.view hn hk hs0]at hv;have eb:bringR m BF pg (arN n) ic wr 0 k=bringC m pg ic wr 0 k:=by
  unfold bringR;rw[if_neg (fun h=>absurd h.1.1 (by show¬(0:Int)<=-1;omega))]
 have his:(onAt (⟨Xc,[arN n],tb⟩:Sp).ars k).is=Xc:=by
  rw[show onAt [arN n] k=_ from arN_in hk]
  rfl
 rw[eb];unfold bringC;rw[hent]
 split
 ·rename_i h1
  obtain⟨h1,h2,h3⟩:=h1;obtain⟨i,fr,f1,f2,f3,f4⟩:=h.rt.present hs0 (by omega) h1
  unfold seeE at hv;rw[if_neg (by rw[his];decide),if_pos h1,f3]at hv
  simp only[pJ]at hv;refine⟨rfl,h.rt,Sam.refl _ _,rfl,rfl,_,fr,(flatN ⟨Xc,[arN n],tb⟩ k).wr,hs0,?_,?_,pg_same hv.1,no_file h.rt h.fll f2,fun hw=>?_⟩
  ·show m.fs[(flatN _ k).n.toNat]? =_
   rw[f1,tN];exact f2
  ·show flatN _ k=⟨1,(((flatN _ k).n.toNat:Nat):Int),_⟩
   rw[f1,tN,<-f1]
   generalize hx:flatN (⟨Xc,[arN n],tb⟩:Sp) k=x at h1
   obtain⟨a,b,d⟩:=x;simp only at h1;rw[h1]
  rcases h3 with h3 | h3
  ·rw[hw]at h3;cases h3
  rw[<-f3];exact h3
 split
 ·rename_i _ h1
  obtain⟨h1,h2⟩:=h1;have hin:=hdr_here hs0 (show k<64 by omega) h1
  refine h.copy hn hF hroom hin (hdrTo_nodup m 2 _ _) (fun x hx=>?_) hk pg (fun s j hs hj hne=>?_) wr (fun hw=>by rw[hw]at h2;cases h2)
  ·obtain⟨a1,a2,s,a3,a4⟩:=(hdrTo_mem (by decide) (nR _)).1 hx
   have hx0:x.1=0:=by
    have:m.sp.length=1:=by rw[e];rfl
    omega
   refine⟨hx0,?_⟩;rw[hx0]at a3
   by_cases hxn:x.2<n
   ·exact hxn
   rw[h.bare a3 (by omega) a2]at a4
   simp[isE,en0]at a4
  obtain⟨a1,a2,s',a3,a4⟩:=(hdrTo_mem (by decide) (nR _)).1 hj
  simp only at a2 a3 a4;rw[hs]at a3;cases a3;rw[hs0]at hs;cases hs;simp only[isE,Bool.and_eq_true,decide_eq_true_eq]at a4;have hjn:j<n:=by
   by_cases hxn:j<n
   ·exact hxn
   have:=h.bare hs0 (show n<=j by omega) a2
   rw[this]at a4;exact absurd a4.1 (by decide)
  have hisj:(onAt (⟨Xc,[arN n],tb⟩:Sp).ars j).is=Xc:=by
   rw[show onAt [arN n] j=_ from arN_in hjn]
   rfl
  unfold seeE at hv⊢;rw[if_neg (by rw[his];decide),if_neg (by omega),if_pos h1]at hv
  simp only[pJ]at hv;rw[if_neg (by rw[hisj];decide),if_neg (by omega),if_pos a4.1,a4.2,hv.1]
 exact h.copy hn hF hroom (Xw.2 rfl) (by simp) (fun x hx=>by rw[Xw.1 hx];exact⟨rfl,hk⟩) hk pg (fun s j hs hj hne=>absurd (by have:=Xw.1 hj;simpa using this) hne) wr (fun _=>rfl)
theorem Sw.may (h:Sw F S n c m) (hk:k<n) {wr:Bool} {a:Ar} {e:Int} (hu:Usable m 0 (k:Int) wr a e):e=0/\a=arN n:=by
 obtain⟨tb,hsp⟩:=h.sp
 rcases hu with⟨_,_,h⟩ | ⟨pp,nn,i,s,x,hp,hn,_,hs,hx,_,_,_,h⟩
 ·rcases h with(h | h) | ⟨pp,s,hp,hs,h⟩
  ·omega
  ·rw[hsp]at h
   simp at h
  have:pp=0:=by omega
  subst this;rw[hsp]at hs;cases hs;have:=h (arN n) (Xv ..);unfold inZ arN at this
  simp at this
  omega
 have:pp=0:=by omega
 subst this;rw[hsp]at hs;cases hs
 cases i with
 | zero=>
  cases hx
  rcases h with⟨_,_,h⟩ | ⟨h1,h2,_⟩
  ·cases wr <;> cases h
  exact⟨h1,h2⟩
 | succ i=>simp at hx
structure UsedN (F S n:Nat) (c:Nat->List Int) (k kk:Nat) (wr:Bool) (m':Ma):Prop where
 sw:Sw F S n c m'
 into:∃(s:Sp) (fr:Fr) (we:Bool),m'.sp[0]? =Xa s/\m'.fs[kk]? =Xa fr/\flatN s k=⟨1,(kk:Int),we⟩/\pgL fr.p=c k/\fr.f=-1/\(wr=Xc->fr.r=1)/\0<=fr.x/\fr.x<1000
theorem Sw.used (h:Sw F S n c m) (hn:n<=64) (hF:0<F) (hroom:n<=F+S) (hk:k<n) {wr:Bool} {BF:Nat->Nat->Ar->Pg->Bool->Bool × Nat × Ma} {kk:Nat} {m':Ma} (hu:Used m BF 0 (k:Int) wr kk m'):UsedN F S n c k kk wr m':=by
 obtain⟨q,i,a,pg,ic,fr,hq,hi,hus,hv,hb,hkk,hf,hm⟩:=hu;have e1:q=0:=by omega
 have e2:i=k:=by omega
 subst e1 e2;obtain⟨_,e3⟩:=h.may hk hus;subst e3;obtain⟨_,b⟩:=h.bring hn hF hroom hk hv wr (BF 0 i (arN n) pg wr);rw[<-hkk]at b;obtain⟨s,fr',we,b1,b2,b3,b4,b5,b6⟩:=b.into;rw[hf]at b2;cases b2;have esp:∃tb,m.sp=[⟨Xc,[arN n],tb⟩]:=h.sp;obtain⟨tb,e⟩:=esp;have hs0:m.sp[0]? =Xa ⟨Xc,[arN n],tb⟩:=by rw[e];rfl
 have ea:s.ars=[arN n]:=(b.sam.sp 0 _ s hs0 b1).2;have eo:onAt s.ars i=oneOf (arN n) i:=by rw[ea];exact arN_in hk
 have hsh:(onAt s.ars i).sh=(arN n).sh:=by rw[eo];rfl
 obtain⟨a1,a2,⟨u,d,a3⟩,a4⟩:=mark_ok b.rt b1 (show i<64 by omega) hf b3 wr (fun hw=>⟨by rw[eo];rfl,.inl ⟨b5,by rw[b6 hw];decide⟩⟩)
 rw[hsh,<-hm]at a1 a2 a3 a4;have hsam:=(b.sam.trans a2).mono (S':=fun q j=>q=0/\j=i) (fun _ _ e=>e.elim id False.elim)
 have hl1:m'.fs.length=m.fs.length:=by
  rw[<-b.fsl,hm];unfold markM
  split <;> simp[putE]
 have hl2:m'.sl.length=m.sl.length:=by
  rw[<-b.sll,hm];unfold markM
  split <;> rfl
 have hck:c i=pgL pg:=by
  have:=h.see _ i hs0 hk;rw[<-h.view hn hk hs0,hv]at this;exact this.symm
 have:∃t,m'.sp[0]? =Xa t:=⟨_,gE (by rw[hsam.spl];exact(gS.1 hs0).1)⟩
 obtain⟨t,ht⟩:=this;have et:t.ars=[arN n]:=(hsam.sp 0 _ t hs0 ht).2;have hist:(onAt t.ars i).is=Xc:=by
  rw[et,arN_in hk];rfl
 have hshape:=a1.inv.fok _ (mG a3);refine⟨h.kept a1 hsam hl1 hl2 (c':=c) (fun _ _ _=>rfl) (fun s' j hs' hj hp=>?_) hn,t,_,_,ht,a3,a4 t ht,?_,b5,b6,hshape.2.1.1,by have:=hshape.2.1.2;omega⟩
 ·obtain⟨_,ej⟩:=hp;subst ej;rw[ht]at hs';cases hs';rw[a4 t ht,see_in hist a3,hck]
  show pgL fr.p=_
  rw[b4]
 rw[hck]
 show pgL fr.p=_
 rw[b4]
theorem Sw.not (h:Sw F S n c m) (hn:n<=64) (hF:0<F) (hroom:n<=F+S) (hk:k<n) {wr:Bool} {BF:Nat->Nat->Ar->Pg->Bool->Bool × Nat × Ma} {er:Int}:¬NotUsed m BF 0 (k:Int) wr er:=by
 obtain⟨tb,e⟩:=h.sp;have hs0:m.sp[0]? =Xa ⟨Xc,[arN n],tb⟩:=by rw[e];rfl
 have hz:(viewL m 0 (k:Int)).2.2=0:=by
  rw[h.view hn hk hs0];unfold seeE;rw[if_neg (by rw[show onAt [arN n] k=_ from arN_in hk];exact fun h=>nomatch(show Xc=Xd from h))]
  split
  ·rfl
  split
  ·rfl
  rw[show onAt [arN n] k=_ from arN_in hk,if_pos (by show(-1:Int)<0;omega)]
 rintro⟨he,hu | ⟨a,_,hv⟩ | ⟨_,q,i,a,pg,ic,hq,hi,hu,hv,hb⟩⟩
 ·exact he (h.may hk hu).1
 ·exact he (hv.symm.trans hz)
 have e1:q=0:=by omega
 have e2:i=k:=by omega
 subst e1 e2;obtain⟨_,e3⟩:=h.may hk hu;subst e3;rw[(h.bring hn hF hroom hk hv wr (BF 0 i (arN n) pg wr)).1]at hb;cases hb
theorem Sw.into (h:Sw F S n c m) (hn:n<=64) (hF:0<F) (hroom:n<=F+S) (hk:k<n) {wr:Bool} {BF:Nat->Nat->Ar->Pg->Bool->Bool × Nat × Ma} {q i:Nat} {a:Ar} {pg:Pg} {ic:Bool} (hq:(0:Int)=(q:Int)) (hi:(k:Int)=(i:Int)) (hu:Usable m 0 (k:Int) wr a 0) (hv:viewL m 0 (k:Int)=(pgL pg,ic,0)):Into (bringR m (BF q i a pg wr) pg a ic wr q i).2.1 q i (bringR m (BF q i a pg wr) pg a ic wr q i).2.2:=by
 have e1:q=0:=by omega
 have e2:i=k:=by omega
 subst e1 e2;obtain⟨_,e3⟩:=h.may hk hu;subst e3;obtain⟨_,b⟩:=h.bring hn hF hroom hk hv wr (BF 0 i (arN n) pg wr);obtain⟨s,fr,we,b1,b2,b3,_⟩:=b.into;exact⟨s,fr,we,b.rt,b1,b2,b3⟩
theorem UsedN.write {kk:Nat} (h:UsedN F S n c k kk Xc m) (hn:n<=64) (hk:k<n) {fr:Fr} (hf:m.fs[kk]? =Xa fr) (pg:Pg):Sw F S n (fun j=>if j=k then pgL pg else c j) { m with fs:=m.fs.set kk { fr with p:=pg } }:=by
 obtain⟨s,fr',we,b1,b2,b3,b4,b5,b6,_⟩:=h.into;rw[hf]at b2;cases b2;obtain⟨p1,p2⟩:=page_ok h.sw.rt b1 (show k<64 by omega) hf b3 pg
 have hkl:=(gS.1 hf).1;have hcf:=h.sw.rt.inv.cf kk fr hf;refine h.sw.kept (P:=fun q j=>q=0/\j=k) p1 ⟨rfl,fun q s s' h1 h2=>by rw[h1]at h2;cases h2;exact⟨rfl,rfl⟩,fun q j t t' h1 h2 hj hne=>?_,rfl,fun _=>rfl,fun _=>rfl,fun file i hi=>?_⟩ (by simp) rfl (fun j hj hne=>if_neg (fun e=>hne ⟨rfl,e⟩)) (fun t j ht hj hp=>?_) hn
 ·rw[h1]at h2;cases h2;refine see_frame hkl h.sw.rt.inv.ca (fun h3=>?_) (fun h3=>?_) (fun h3 h4=>?_)
  ·rw[no_cache h.sw.rt h.sw.fll]at h3;exact absurd rfl h3
  ·have:=(enW_zero (h.sw.rt.inv.en (flats_at h1) hj)).2.1;omega
  have h5:=hold_two (flats_at b1) (show k<64 by omega) (kind:=1) (k:=(kk:Int)) (by simp[isE,b3]) (flats_at h1) hj (by simp[isE,h3,h4]) (by
   by_cases e:q=0
   ·exact .inr fun e2=>hne ⟨e,e2.symm⟩
   exact .inl fun e2=>e e2.symm) (by decide)
  have:=b6 rfl;omega
 ·have e1:szAt m (file:Int)=0:=by
   unfold szAt;rw[gD,gN (by have:=h.sw.fll;omega)]
   rfl
  rw[e1]at hi;omega
 obtain⟨_,ej⟩:=hp;subst ej;have ht:m.sp[0]? =Xa t:=ht;rw[b1]at ht;cases ht;rw[if_pos rfl];have:=view_see (m:={ m with fs:=m.fs.set kk { fr with p:=pg } }) (p:=0) b1 (show j<64 by omega)
 rw[p2]at this;rw[<-this]
end
def clZ:Xq:= Xi #[Xe Xf 0,Xe Xf 0,Xe Xf 0,Xe Xf 0,Xe Xf 0,Xe Xf 0,Xh Xd,Xh Xd,Xh Xd,O Xb 0 0]
theorem Tryz.infoCall:(Tryz.prog.info? 26).map (fun i=>(i.zero,i.size,i.bytes))=Xa (Xa clZ,10,80):=by kernel_rfl
def clE:Elt Cl where
 enc:=clL
 k:=10
 ty:=26
 st:=23
 bytes:=80
 zv:=clZ
 zero:=⟨0,0,0,0,0,0,Xd,Xd,Xd,noS⟩
 len:=fun _=>rfl
 one:=fun a u hu=>by
  simp only[clL,mC,nM,or_false]at hu
  rcases hu with rfl | rfl | rfl | rfl | rfl | rfl | rfl | rfl | rfl | rfl <;> rfl
 und:=Tryz.underlying23
 info:=Tryz.infoCall
 zok:=rfl
 few:=by decide
 pos:=by decide
structure An where
 er:Int
 n:Int
 s:Sli
def anL (a:An):List Xq:=[Xe Xf a.er,Xe Xf a.n,O a.s.a a.s.n a.s.c]
def anZ:Xq:= Xi #[Xe Xf 0,Xe Xf 0,O Xb 0 0]
theorem Tryz.infoAnswer:(Tryz.prog.info? 50).map (fun i=>(i.zero,i.size,i.bytes))=Xa (Xa anZ,3,40):=by kernel_rfl
def anE:Elt An where
 enc:=anL
 k:=3
 ty:=50
 st:=43
 bytes:=40
 zv:=anZ
 zero:=⟨0,0,noS⟩
 len:=fun _=>rfl
 one:=fun a u hu=>by
  simp only[anL,mC,nM,or_false]at hu
  rcases hu with rfl | rfl | rfl <;> rfl
 und:=Tryz.underlying43
 info:=Tryz.infoAnswer
 zok:=rfl
 few:=by decide
 pos:=by decide
def AnsAt (w:Xn) (ys:List An) (az:List (Int × Int × List Int)):Prop:=
 ∀(j:Nat) (a:Int × Int × List Int),az[j]? =Xa a->∃x,ys[j]? =Xa x/\x.er=a.1/\x.n=a.2.1/\RowAt byE w (O x.s.a x.s.n x.s.c) a.2.2
theorem grew_out {D:Nat->Prop} {w w1 W:Xn} (g:Grew w w1) (o:OutD D w1 W) (hD:∀k,D k->w.heap.size<=k):Grew w W:=
 ⟨o.os.trans (Below.os g),o.tape.trans (Below.tape g),o.output.trans (Below.output g),nT (bS g) o.size,fun b hb=>(o.block b (Xt hb (bS g)) (fun e=>by have:=hD b e;omega)).trans (Below.block g b hb)⟩
theorem AnsAt.step {w:Xn} {ys:List An} {az:List (Int × Int × List Int)} {kk:Nat} {er n:Int} {l:List Int} {s:Sli} (hl:az.length=kk) (hk:kk<ys.length) (h:AnsAt w ys az) (hr:RowAt byE w (O s.a s.n s.c) l):AnsAt w (ys.set kk ⟨er,n,s⟩) (az++ [(er,n,l)]):=by
 intro j a ha
 by_cases e:j=kk
 ·subst e;rw[aR (by omega),hl,Nat.sub_self]at ha
  cases ha;exact⟨_,sF hk,rfl,rfl,hr⟩
 have hj:j<az.length:=by
  have:=(gS.1 ha).1
  simp at this
  omega
 rw[Xu hj]at ha;obtain⟨x,h1,h2⟩:=h j a ha;exact⟨x,by rw[sN (fun h=>e h.symm)];exact h1,h2⟩
theorem Cells.cl10 {W:Xn} {y:Addr} {c:Cl} (h:Cells W y (clL c)):W.cell? y=Xa (Xe Xf c.kind)/\W.cell? { block:=y.block,off:=y.off+1 }=Xa (Xe Xf c.proc)/\W.cell? { block:=y.block,off:=y.off+2 }=Xa (Xe Xf c.pt)/\W.cell? { block:=y.block,off:=y.off+3 }=Xa (Xe Xf c.n)/\W.cell? { block:=y.block,off:=y.off+4 }=Xa (Xe Xf c.file)/\W.cell? { block:=y.block,off:=y.off+5 }=Xa (Xe Xf c.base)/\W.cell? { block:=y.block,off:=y.off+6 }=Xa (Xh c.rd)/\W.cell? { block:=y.block,off:=y.off+7 }=Xa (Xh c.wr)/\W.cell? { block:=y.block,off:=y.off+8 }=Xa (Xh c.sh)/\W.cell? { block:=y.block,off:=y.off+9 }=Xa (O c.dv.a c.dv.n c.dv.c):=
 ⟨h 0 _ rfl,h 1 _ rfl,h 2 _ rfl,h 3 _ rfl,h 4 _ rfl,h 5 _ rfl,h 6 _ rfl,h 7 _ rfl,h 8 _ rfl,h 9 _ rfl⟩
def Played (n:Nat) (J:Nat->Ma->List (Int × Int × List Int)->Prop) (e:Ending) (w':Xn):Prop:=
 ∃(V:MaV) (m:Ma) (ga:Nat) (ys:List An) (az:List (Int × Int × List Int)),e= Xl (Xm #[Xi #[O V.f.a V.f.n V.f.c,Xe Xf m.hand,O V.s.a V.s.n V.s.c,O V.sb.a V.sb.n V.sb.c,O V.sq.a V.sq.n V.sq.c,O V.db.a V.db.n V.db.c,O V.dq.a V.dq.n V.dq.c,O V.fl.a V.fl.n V.fl.c,Xe Xf m.cnt,O V.ca.a V.ca.n V.ca.c,O V.sp.a V.sp.n V.sp.c],O (Xa ⟨ga,0,Xb⟩) n n,Xe Xf 0])/\J n m az/\RowAt anE w' (O (Xa ⟨ga,0,Xb⟩) n n) ys/\AnsAt w' ys az
theorem play_any (cf cs cb:Int) (hfew:fewB cf cs cb) (v:Xq) (cls:List Cl) (w:Xn) (hv:RowAt clE w v cls) (h80:cls.length<=80) (J:Nat->Ma->List (Int × Int × List Int)->Prop) (hJ0:J 0 (newMa cf cs cb) [])
  (hJ:∀(i:Nat) (c:Cl) (m:Ma) az,cls[i]? =Xa c->az.length=i->J i m az->maW m=0/\(1<=c.kind/\c.kind<=15)/\∃K,(∀W,Grew w W->Works W m c K)/\∀er n l m' m2,K er n l m'->((er=0/\m2=m')\/(er≠0/\m2=m))->J (i+1) m2 (az++ [(er,n,l)])):
  Xp Tryz.prog 7 #[Xi #[Xe Xf cf,Xe Xf cs,Xe Xf cb],v] w fun e w'=>Played cls.length J e w'/\Grew w w':=by
 obtain⟨va,vc,rfl,hrow⟩:=hv.rows;have HROW:Xo (∀(j:Nat) x,cls[j]? =Xa x->∃ad,va=Xa ad/\∀W,Grew w W->Cells W (ad.add (j*10)) (clL x)):=show∀j,_ from hrow
 obtain⟨n,HN⟩:∃n,Xo (cls.length=n):=⟨_,rfl⟩;rw[HN.out]at h80⊢;have HJ0:Xo (J 0 (newMa cf cs cb) []):=hJ0;have HJ:=show Xo _ from hJ
 have hd80:decide (80<n)=Xd:=decide_eq_false (by omega)
 obtain⟨b,HB⟩:∃b,Xo (w.heap.size=b):=⟨_,rfl⟩;obtain⟨W1,hW1⟩:∃W1,(w.alloc (Xk #[Xe Xf cf,Xe Xf cs,Xe Xf cb] 48)).alloc (Xk #[O Xb 0 0,Xe Xf 0,O Xb 0 0,O Xb 0 0,O Xb 0 0,O Xb 0 0,O Xb 0 0,O Xb 0 0,Xe Xf 0,O Xb 0 0,O Xb 0 0] 42)=W1:=⟨_,rfl⟩;have G1:=gD2 hW1
 have X1:Xo (BoxT W1 b 48 [Xe Xf cf,Xe Xf cs,Xe Xf cb]):=show BoxT _ _ _ _ by rw[<-hW1];exact(BoxT.top w [Xe Xf cf,Xe Xf cs,Xe Xf cb] _ HB.out.symm).grew (grew_alloc _ _)
 have Z1:Xo (BoxT W1 (b+1) 42 zeroM):=show BoxT _ _ _ _ by rw[<-hW1];exact BoxT.top _ zeroM _ (by have:=HB.out;simp;omega)
 have HW1:Xo (_=W1):=hW1;have hnw:=newF_any cf cs cb hfew W1;clear hW1 hv hrow hJ hJ0 hfew
 go_enter Tryz.func7,Tryz.ntmps7
 go_upto_region 1 with fail;rw[HW1.out,HB.out];clear HW1;obtain⟨x0,x1,x2⟩:=X1.out.box.c3
 go_wp2_with (go_at_call 13;refine hnw.mono ?_)
 clear hnw x0 x1 x2;rintro e W2 ⟨⟨V,rfl,hma,_,_⟩,g2⟩;have M2:Xo (MachAt W2 V (newMa cf cs cb)):=hma;have G2:=dD (G1.out.trans g2);have Z2:=dD (Z1.out.grew g2);obtain⟨q,HQ⟩:∃q,Xo (W2.heap.size=q):=⟨_,rfl⟩;have HBQ:Xo (b+1<q):=show _<_ by rw[<-HQ.out];exact Z2.out.box.lt
 obtain⟨m0,HM0⟩:∃m0,Xo (newMa cf cs cb=m0):=⟨_,rfl⟩;have HHC:Xo (m0.hand=0/\m0.cnt=cb):=show _/\_ by rw[<-HM0.out];exact⟨rfl,rfl⟩
 have HZL:Xo (∀v∈chL V m0,v.oneCell'=Xc):=show∀v∈chL V m0,_ by simp[chL,Value.oneCell']
 rw[HM0.out]at M2 HJ0;have hca:chL V m0=[O V.f.a V.f.n V.f.c,Xe Xf 0,O V.s.a V.s.n V.s.c,O V.sb.a V.sb.n V.sb.c,O V.sq.a V.sq.n V.sq.c,O V.db.a V.db.n V.db.c,O V.dq.a V.dq.n V.dq.c,O V.fl.a V.fl.n V.fl.c,Xe Xf cb,O V.ca.a V.ca.n V.ca.c,O V.sp.a V.sp.n V.sp.c]:=by
  unfold chL;rw[HHC.out.1,HHC.out.2]
 have HCA:Xo (_=_):=hca;clear hma g2 hca
 go_upto_region 2 with(refine wp_storeAllT rfl 42 (.tmp 7) (.tmp 15) rfl W2.heap.size rfl (chL V m0) (by rw[HCA.out];rfl) (BoxT.top W2 zeroM _ rfl) (by rfl) (by kernel_rfl) HZL.out ?_)
 intro W3 b3 g3 s3;clear s3;have g23:Grew W2 W3:=grew_grown (grew_alloc _ _) g3 (nR _);have Q3:Xo (BoxT W3 q 42 (chL V m0)):=show BoxT _ _ _ _ by rw[<-HQ.out];exact b3
 have G3:=dD (G2.out.trans g23);have Z3:=dD (Z2.out.grew g23);have M3:=dD (M2.out.grew g23);rw[HQ.out];have G23:Xo (Grew W2 W3):=g23;clear b3 g3 g23 Z2 G2 HCA HZL HHC HM0 X1 Z1 G1;go_upto_region 6 with fail;clear hd80
 go_wp2_with (refine wpList_make_row anE rfl (.tmp 26) rfl n rfl (by show n*40<=_;omega) ?_)
 intro C ow;obtain⟨ga,HGA⟩:∃ga,Xo (W3.heap.size=ga):=⟨_,rfl⟩;obtain⟨W4,hW4⟩:∃W4,W3.alloc (Xk C anE.ty)=W4:=⟨_,rfl⟩;have g34:Grew W3 W4:=by rw[<-hW4];exact grew_alloc _ _
 rw[hW4,HGA.out]at ow;rw[hW4,HGA.out];have O4:Xo (OwnRow anE ga W4 (O (Xa ⟨ga,0,Xb⟩) n n) (Xr n anE.zero)):=ow;have Q4:=dD (Q3.out.grew g34);have G4:=dD (G3.out.trans g34);have Z4:=dD (Z3.out.grew g34);have HQG:Xo (q<ga):=show _<_ by rw[<-HGA.out];exact Q3.out.box.lt
 have M4:Xo (∀W,OutD (fun k=>k=q\/k=ga) W4 W->MachAt W V m0):=show∀W,_ from fun W hW=>M2.out.grew (grew_out (G23.out.trans g34) hW fun k hk=>by have:=HQ.out;have:=HGA.out;have:=bS G23.out;rcases hk with e | e <;> omega)
 clear ow hW4 g34 Q3 G3 Z3 M3 M2 G23;go_wp2
 go_loopg [30] n (fun gg s30 wr=>∃(kk:Nat) (V:MaV) (m:Ma) (ys:List An) (az:List (Int × Int × List Int)),kk<=n/\n - kk<=gg/\s30= Xe Xf kk/\Xo (Grew w wr)/\Xo (BoxT wr q 42 (chL V m))/\Xo (BoxT wr (b+1) 42 zeroM)/\Xo (OwnRow anE ga wr (O (Xa ⟨ga,0,Xb⟩) n n) ys)/\Xo (az.length=kk/\ys.length=n/\J kk m az)/\Xo (∀W,OutD (fun k=>k=q\/k=ga) wr W->MachAt W V m)/\Xo (∀W,OutD (fun k=>k=q\/k=ga\/k=b+1) wr W->AnsAt W ys az))
 case atStart=>exact⟨0,V,m0,_,[],nZ _,by omega,rfl,G4,Q4,Z4,O4,show _/\_/\_ from⟨rfl,by simp,HJ0.out⟩,M4,show∀W,_ from fun W hW j a ha=>by cases ha⟩
 clear G4 Q4 Z4 O4 HJ0 M4;obtain⟨kk,V,m,ys,az,hkk,hgg,rfl,BW,QW,ZW,OW,HJW,MW,AW⟩:=hrel
 by_cases hlt:kk<n
 ·have hltz:(kk:Int)< (n:Int):=by omega
  obtain⟨c,HC⟩:∃c,Xo (cls[kk]? =Xa c):=⟨_,gE (by rw[HN.out];exact hlt)⟩
  obtain⟨ad,rfl,hl⟩:=HROW.out kk c HC.out;obtain⟨d0,d1,d2,d3,d4,d5,d6,d7,d8,d9⟩:=Cells.cl10 (hl wr BW.out);clear hl;obtain⟨h0,hkd,K,hws,hnx⟩:=HJ.out kk c m az HC.out HJW.out.1 HJW.out.2.2;go_upto_region 10 with fail;clear d0 d1 d2 d3 d4 d5 d6 d7 d8 d9;obtain⟨pb,HPB⟩:∃pb,Xo (wr.heap.size=pb):=⟨_,rfl⟩;obtain⟨W5,hW5⟩:∃W5,wr.alloc (Xk #[Xe Xf c.kind,Xe Xf c.proc,Xe Xf c.pt,Xe Xf c.n,Xe Xf c.file,Xe Xf c.base,Xh c.rd,Xh c.wr,Xh c.sh,O c.dv.a c.dv.n c.dv.c] 26)=W5:=⟨_,rfl⟩;have g5:=gP hW5
  have C5:Xo (BoxT W5 pb 26 (clL c)):=show BoxT _ _ _ _ by rw[<-hW5];exact BoxT.top _ (clL c) _ HPB.out.symm
  rw[hW5,HPB.out];have G5:=dD (BW.out.trans g5);have Q5:=dD (QW.out.grew g5);have Z5:=dD (ZW.out.grew g5);have O5:=dD (OW.out.grew g5);have M5:Xo (∀W,OutD (fun k=>k=q\/k=ga) W5 W->MachAt W V m):=show∀W,_ from fun W hW=>MW.out W ((OutD.grew g5).trans hW)
  have A5:Xo (∀W,OutD (fun k=>k=q\/k=ga\/k=b+1) W5 W->AnsAt W ys az):=show∀W,_ from fun W hW=>AW.out W ((OutD.grew g5).trans hW)
  have HNX:Xo (∀er n l m' m2,K er n l m'->((er=0/\m2=m')\/(er≠0/\m2=m))->J (kk+1) m2 (az++ [(er,n,l)])):=hnx;have hdo:=do_any V m W5 (M5.out W5 (OutD.refl _ _)) h0 c K hkd (hws W5 G5.out);have HSJ:Xo ((Tryz.prog.info? 42).map (·.size)=Xa (chL V m).length):=show _=_ by kernel_rfl
  have HSC:Xo ((Tryz.prog.info? 26).map (·.size)=Xa (clL c).length):=show _=_ by kernel_rfl
  clear hW5 g5 h0 hkd hws hnx BW QW ZW OW MW AW
  go_wp2_with (first | refine wp_loadAll rfl 42 (.tmp 7) rfl q rfl Q5.out.box Tryz.underlying42 rfl HSJ.out ?_ | refine wp_loadAll rfl 26 (.tmp 11) rfl pb rfl C5.out.box Tryz.underlying26 rfl HSC.out ?_ | (go_at_call 14;refine hdo.mono ?_))
  clear hdo HSJ HSC;rintro e W6 ⟨⟨er,nn,sd,l,m',m2,V2,rfl,hk,hm2,hrest⟩,g6⟩;have HJN:Xo (J (kk+1) m2 (az++ [(er,nn,l)])):=HNX.out er nn l m' m2 hk hm2;have HLT:Xo (q<W5.heap.size/\ga<W5.heap.size/\b+1<W5.heap.size):=show _/\_/\_ from⟨Q5.out.box.lt,(O5.out.lt ga rfl).2,Z5.out.box.lt⟩
  have G6:=dD (G5.out.trans g6);have Q6:=dD (Q5.out.grew g6);have Z6:=dD (Z5.out.grew g6);have O6:=dD (O5.out.grew g6);have M6:Xo (∀W,OutD (fun k=>k=q\/k=ga) W6 W->MachAt W V2 m2):=show∀W,_ from fun W hW=>(hrest W (hW.wide fun k hk=>by have:=HLT.out;rcases hk with e | e <;> omega)).1
  have A6:Xo (∀W,OutD (fun k=>k=q\/k=ga\/k=b+1) W6 W->AnsAt W (ys.set kk ⟨er,nn,sd⟩) (az++ [(er,nn,l)])):=show∀W,_ from fun W hW=>AnsAt.step HJW.out.1 (by rw[HJW.out.2.1];exact hlt) (A5.out W ((OutD.grew g6).trans hW)) (hrest W (hW.wide fun k hk=>by have:=HLT.out;rcases hk with e | e | e <;> omega)).2
  have HZ2:Xo (∀v∈chL V2 m2,v.oneCell'=Xc):=show∀v∈chL V2 m2,_ by simp[chL,Value.oneCell']
  clear hk hm2 hrest g6 G5 Q5 Z5 O5 M5 A5 C5 HNX;unfold ansV
  go_wp2_with (refine wp_storeAllT rfl 42 (.tmp 7) (.tmp 41) rfl q rfl (chL V2 m2) rfl Q6.out rfl (by kernel_rfl) HZ2.out ?_)
  intro W7 b7 g7 s7;clear s7;have G7:Xo (Grew w W7):=show Grew _ _ from grew_grown G6.out g7 (by have:=HBQ.out;have:=HB.out;omega)
  have Q7:Xo (BoxT W7 q 42 (chL V2 m2)):=b7;have Z7:Xo (BoxT W7 (b+1) 42 zeroM):=show BoxT _ _ _ _ from Z6.out.beside g7 (fun k e=>by cases e;have:=HBQ.out;omega)
  have O7:Xo (OwnRow anE ga W7 (O (Xa ⟨ga,0,Xb⟩) n n) ys):=show OwnRow _ _ _ _ _ from O6.out.grown g7 (fun k hk e=>by
   have h1:Xa ga=Xa k:=hk;simp only[Option.some.injEq]at h1 e;have:=HQG.out
   omega)
  have M7:Xo (∀W,OutD (fun k=>k=q\/k=ga) W7 W->MachAt W V2 m2):=show∀W,_ from fun W hW=>M6.out W ((OutD.grown g7 (.inl rfl)).trans hW)
  have A7:Xo (∀W,OutD (fun k=>k=q\/k=ga\/k=b+1) W7 W->AnsAt W (ys.set kk ⟨er,nn,sd⟩) (az++ [(er,nn,l)])):=show∀W,_ from fun W hW=>A6.out W ((OutD.grown g7 (.inl rfl)).trans hW)
  clear b7 g7 G6 Q6 Z6 O6 M6 A6 HZ2
  go_wp2_with (refine wpList_store_elt (E:=anE) rfl (.tmp 43) (.tmp 42) rfl ga _ ys O7.out ga kk rfl ⟨er,nn,sd⟩ (by rw[HJW.out.2.1];exact hlt) ⟨ga,kk*3,Xb⟩ rfl rfl _ rfl rfl ?_)
  intro W8 o8 g8 s8;clear s8;have G8:Xo (Grew w W8):=show Grew _ _ from grew_grown G7.out g8 (by have:=HQG.out;have:=HBQ.out;have:=HB.out;omega)
  have Q8:Xo (BoxT W8 q 42 (chL V2 m2)):=show BoxT _ _ _ _ from Q7.out.beside g8 (fun k e=>by cases e;have:=HQG.out;omega)
  have Z8:Xo (BoxT W8 (b+1) 42 zeroM):=show BoxT _ _ _ _ from Z7.out.beside g8 (fun k e=>by cases e;have:=HQG.out;have:=HBQ.out;omega)
  have O8:Xo (OwnRow anE ga W8 (O (Xa ⟨ga,0,Xb⟩) n n) (ys.set kk ⟨er,nn,sd⟩)):=o8;have M8:Xo (∀W,OutD (fun k=>k=q\/k=ga) W8 W->MachAt W V2 m2):=show∀W,_ from fun W hW=>M7.out W ((OutD.grown g8 (.inr rfl)).trans hW)
  have A8:Xo (∀W,OutD (fun k=>k=q\/k=ga\/k=b+1) W8 W->AnsAt W (ys.set kk ⟨er,nn,sd⟩) (az++ [(er,nn,l)])):=show∀W,_ from fun W hW=>A7.out W ((OutD.grown g8 (.inr (.inl rfl))).trans hW)
  have HJ8:Xo ((az++ [(er,nn,l)]).length=kk+1/\(ys.set kk ⟨er,nn,sd⟩).length=n/\J (kk+1) m2 (az++ [(er,nn,l)])):=show _/\_/\_ from⟨by simp[HJW.out.1],by rw[List.length_set];exact HJW.out.2.1,HJN.out⟩
  clear o8 g8 G7 Q7 Z7 O7 M7 A7 HJN HJW HLT;go_wp2
  go_roundg (n -(kk+1))
  case measure=>omega
  exact⟨kk+1,V2,m2,_,_,by omega,by omega,by go_num,G8,Q8,Z8,O8,HJ8,M8,A8⟩
 have hltz:¬(kk:Int)< (n:Int):=by omega
 have:kk=n:=by omega
 subst this;have HZ2:Xo (∀v∈chL V m,v.oneCell'=Xc):=show∀v∈chL V m,_ by simp[chL,Value.oneCell']
 have HSJ:Xo ((Tryz.prog.info? 42).map (·.size)=Xa (chL V m).length):=show _=_ by kernel_rfl
 have HGL:Xo (ga<wr.heap.size/\q<wr.heap.size):=show _/\_ from⟨(OW.out.lt ga rfl).2,QW.out.box.lt⟩
 clear HJ
 go_wp2_with (first | refine wp_loadAll rfl 42 (.tmp 7) rfl q rfl QW.out.box Tryz.underlying42 rfl HSJ.out ?_ | refine wp_storeAllT rfl 42 (.tmp 4) (.tmp 45) rfl (b+1) rfl (chL V m) rfl ZW.out rfl (by kernel_rfl) HZ2.out ?_)
 intro W9 b9 g9 s9;clear s9;have B9:Xo (BoxT W9 (b+1) 42 (chL V m)):=b9;have G9:Xo (Grew w W9):=show Grew _ _ from grew_grown BW.out g9 (by have:=HB.out;omega)
 have O9:Xo (RowAt anE W9 (O (Xa ⟨ga,0,Xb⟩) kk kk) ys):=show RowAt _ _ _ _ from(OW.out.grown g9 (fun k hk e=>by
  have h1:Xa ga=Xa k:=hk;simp only[Option.some.injEq]at h1 e;have:=HQG.out;have:=HBQ.out
  omega)).at
 have A9:Xo (AnsAt W9 ys az):=AW.out W9 (OutD.grown g9 (.inr (.inr rfl)));clear b9 g9;go_wp2;refine bodyPost_ret (ret_cell_tmp2 rfl _ rfl B9.out.box Tryz.underlying42 rfl (by kernel_rfl)) rfl ⟨⟨V,m,ga,ys,az,rfl,HJW.out.2.2,O9.out,A9.out⟩,G9.out⟩
theorem kmap_any {w0 u w:Xn} {p:Nat} {V:MaV} {m:Ma} (h:ChW w0 p u V m) (gu:Grew u w) (c:Cl) (hlv:∃q s,LiveP m c.proc q s) (h1:0<=c.pt) (h2:1<=c.n) (h3:c.n<=64 - c.pt) (h4:-1<=c.file) (h5:c.file< (m.fl.length:Int)):
  Xp Tryz.prog 35 #[Xj (Xa ⟨p,0,Xb⟩),Xi #[Xe Xf c.kind,Xe Xf c.proc,Xe Xf c.pt,Xe Xf c.n,Xe Xf c.file,Xe Xf c.base,Xh c.rd,Xh c.wr,Xh c.sh,O c.dv.a c.dv.n c.dv.c]] w fun e w'=>WorkM (KMap m c) w0 p u w e w':=by
 obtain⟨q,s,hpq,hs,hlive⟩:=hlv;have HM:Xo (ChW w0 p u V m):=h;have HGU:Xo (Grew u w):=gu;have HLV:Xo (LiveP m c.proc q s):=show LiveP _ _ _ _ from⟨hpq,hs,hlive⟩
 obtain⟨b,HB⟩:∃b,Xo (w.heap.size=b):=⟨_,rfl⟩;obtain⟨W1,hW1⟩:∃W1,(w.alloc (Xk #[Xe Xf c.kind,Xe Xf c.proc,Xe Xf c.pt,Xe Xf c.n,Xe Xf c.file,Xe Xf c.base,Xh c.rd,Xh c.wr,Xh c.sh,O c.dv.a c.dv.n c.dv.c] 26)).alloc (Xk #[Xe Xf 0,Xe Xf 0,O Xb 0 0] 50)=W1:=⟨_,rfl⟩;have G1:=gD2 hW1
 have X1:Xo (BoxT W1 b 26 [Xe Xf c.kind,Xe Xf c.proc,Xe Xf c.pt,Xe Xf c.n,Xe Xf c.file,Xe Xf c.base,Xh c.rd,Xh c.wr,Xh c.sh,O c.dv.a c.dv.n c.dv.c]):=show BoxT _ _ _ _ by rw[<-hW1];exact(BoxT.top w [Xe Xf c.kind,Xe Xf c.proc,Xe Xf c.pt,Xe Xf c.n,Xe Xf c.file,Xe Xf c.base,Xh c.rd,Xh c.wr,Xh c.sh,O c.dv.a c.dv.n c.dv.c] _ HB.out.symm).grew (grew_alloc _ _)
 have A1:Xo (BoxT W1 (b+1) 50 [Xe Xf 0,Xe Xf 0,O Xb 0 0]):=show BoxT _ _ _ _ by rw[<-hW1];exact BoxT.top _ [Xe Xf 0,Xe Xf 0,O Xb 0 0] _ (by have:=HB.out;simp;omega)
 have HBL:Xo (b+1<W1.heap.size):=A1.out.box.lt;have GU1:Xo (Grew u W1):=show Grew _ _ from gu.trans G1.out
 have P1:Xo (BoxT W1 p 88 (chL V m)):=h.box.grew GU1.out;have HPU:Xo (p<u.heap.size):=h.dlt p (.inl rfl);have HUB:Xo (u.heap.size<=b):=show _<=_ by rw[<-HB.out];exact bS gu
 have HW1:Xo (_=W1):=hW1;obtain⟨xs,s1,s2,s3⟩:=h.sp;obtain⟨x,hx⟩:∃x,xs[q]? =Xa x:=⟨_,gE (by rw[s2];exact(gS.1 hs).1)⟩
 obtain⟨gs,cc,heq⟩:=s1.formS (by have:=(gS.1 hx).1;omega)
 have HOB:Xo (oB V.sp gs):=show(O V.sp.a V.sp.n V.sp.c).ownBlock=Xa gs by rw[heq];rfl
 have HS1:Xo (OwnRow spcE w0.heap.size u (O V.sp.a V.sp.n V.sp.c) xs):=s1;have HS2:Xo (xs.length=m.sp.length):=s2;have HS3:Xo (∀(i:Nat) x s,xs[i]? =Xa x->m.sp[i]? =Xa s->∀W,OutD (Dr w0.heap.size p V) u W->SpaceAt W x s):=s3;have HX:Xo (xs[q]? =Xa x):=hx;have HS:Xo (m.sp[q]? =Xa s):=hs;have HSP:Xo (SpaceAt W1 x s):=s3 q x s hx hs W1 (OutD.grew GU1.out);have HGS:Xo (w0.heap.size<=gs/\gs<u.heap.size):=s1.lt gs HOB.out;have hq10:=P1.out.box.c 10 rfl;have hql:(q:Int)< (xs.length:Int):=by have:=(gS.1 hx).1;omega
 have HSO:Xo (OwnRow spcE w0.heap.size W1 (O (Xa ⟨gs,0,Xb⟩) xs.length cc) xs):=show OwnRow _ _ _ _ _ by rw[<-heq];exact s1.grew GU1.out
 rw[heq]at hq10;have HEQ:Xo (O V.sp.a V.sp.n V.sp.c= O (Xa ⟨gs,0,Xb⟩) xs.length cc):=heq;have hfl:=h.at.fl.n;obtain⟨fn,HFN⟩:∃fn,Xo (m.fl.length=fn):=⟨_,rfl⟩;have HFV:Xo (V.fl.n=fn):=show _=_ by rw[hfl];exact HFN.out
 rw[HFN.out]at h5;obtain⟨sn,HSN⟩:∃sn,Xo (xs.length=sn):=⟨_,rfl⟩;rw[HSN.out]at hq10 hql;have hx1:=X1.out.box.c 1 rfl;rw[hpq]at hx1;have hx2:=X1.out.box.c 2 rfl;have hx3:=X1.out.box.c 3 rfl;have hx4:=X1.out.box.c 4 rfl;have HPQ:Xo (c.proc=(q:Int)):=hpq;have hd1:decide (c.pt<0)=Xd:=decide_eq_false (by omega)
 have hd2:decide (c.n<1)=Xd:=decide_eq_false (by omega)
 have hd3:decide (64 - c.pt<c.n)=Xd:=decide_eq_false (by omega)
 have hd4:decide (c.file< -1)=Xd:=decide_eq_false (by omega)
 have hd5:decide ((fn:Int)<=c.file)=Xd:=decide_eq_false (by omega)
 have hpt:c.pt<=63:=by omega
 have HPN:Xo (0<=c.pt/\c.pt<=63/\1<=c.n/\c.n<=64):=show _/\_/\_/\_ from⟨h1,hpt,h2,by omega⟩
 clear hW1 h gu hpq hs hlive s1 s2 s3 hx heq hfl h2 h3 h4 h5
 go_enter Tryz.func35,Tryz.ntmps35
 go_upto_region 1 with fail;rw[HW1.out,HB.out];clear HW1;go_quiet (fail);obtain⟨W2,hW2⟩:∃W2,W1.drewN nq=W2:=⟨_,rfl⟩;have g12:Grew W1 W2:=by rw[<-hW2];exact(show Below _ _ _ from bD (bR _ _) _)
 rw[hW2];have G12:Xo (Grew W1 W2):=g12;have hx3:=(X1.out.grew g12).box.c 3 rfl;have hx4:=(X1.out.grew g12).box.c 4 rfl;have hf7:W2.cell? ⟨p,7,Xb⟩=Xa (O V.fl.a fn V.fl.c):=by rw[<-HFV.out];exact(P1.out.grew g12).box.c 7 rfl
 clear hW2 g12 hx1 hx2 hq10;go_upto_region 6 with fail;go_quiet (fail);obtain⟨W3,hW3⟩:∃W3,W2.drewN nq=W3:=⟨_,rfl⟩;have g13:Grew W1 W3:=by rw[<-hW3];exact G12.out.trans (show Below _ _ _ from bD (bR _ _) _)
 rw[hW3];have G13:Xo (Grew W1 W3):=g13;clear hW3 g13 hx3 hx4 hf7 G12 hd1 hd2 hd3 hd4;go_upto_region 8 with fail;clear hd5;have hx3:∀y:GrownW W3,y.world.cell? ⟨b,3,Xb⟩=Xa (Xe Xf c.n):=fun y=>(X1.out.box.grew (G13.out.trans y.grew)).c 3 rfl
 have hx4:∀y:GrownW W3,y.world.cell? ⟨b,4,Xb⟩=Xa (Xe Xf c.file):=fun y=>(X1.out.box.grew (G13.out.trans y.grew)).c 4 rfl
 have hx5:∀y:GrownW W3,y.world.cell? ⟨b,5,Xb⟩=Xa (Xe Xf c.base):=fun y=>(X1.out.box.grew (G13.out.trans y.grew)).c 5 rfl
 have hx6:∀y:GrownW W3,y.world.cell? ⟨b,6,Xb⟩=Xa (Xh c.rd):=fun y=>(X1.out.box.grew (G13.out.trans y.grew)).c 6 rfl
 have hx7:∀y:GrownW W3,y.world.cell? ⟨b,7,Xb⟩=Xa (Xh c.wr):=fun y=>(X1.out.box.grew (G13.out.trans y.grew)).c 7 rfl
 have hx8:∀y:GrownW W3,y.world.cell? ⟨b,8,Xb⟩=Xa (Xh c.sh):=fun y=>(X1.out.box.grew (G13.out.trans y.grew)).c 8 rfl
 have hac:∀y:GrownW W3,y.world.cell? ⟨gs,q*10+1,Xb⟩=Xa (O x.ar.a x.ar.n x.ar.c):=fun y=>(HSO.out.grew (G13.out.trans y.grew)).range1 HX.out 1 _ rfl
 have hne:Nonempty (GrownW W3):=⟨⟨_,Grew.refl _⟩⟩;obtain⟨R1,R2,HRR⟩:∃R1 R2,Xo (mapA s.ars (arC c)=(R1,R2)):=⟨_,_,rfl⟩;have HMP:Xo (∀W,Grew W1 W->Xp Tryz.prog 76 #[O x.ar.a x.ar.n x.ar.c,Xi #[Xe Xf c.pt,Xe Xf (c.pt+c.n),Xh c.rd,Xh c.wr,Xh c.sh,Xe Xf c.file,Xe Xf c.base]] W fun e w'=>(∃t:Sli,e= Xl (Xm #[O t.a t.n t.c,Xe Xf R2])/\OwnRow arE W1.heap.size w' (O t.a t.n t.c) R1)/\Grew W w'):=show∀W,_ from fun W hW=>by
  refine(map_any _ s.ars (arC c) W (HSP.out.ar.grew hW)).mono ?_;rw[HRR.out];rintro e w' ⟨⟨v,rfl,ho⟩,hg⟩;obtain⟨ta,tc,rfl⟩:=ho.form;exact⟨⟨⟨ta,_,tc⟩,rfl,ho.base (bS hW)⟩,hg⟩
 have hsum:-9223372036854775808<=c.pt+c.n/\c.pt+c.n<=9223372036854775807:=by have:=HPN.out;omega
 refine wp_lax [(20,⟨fun v=>∃t:Sli,v= Xm #[O t.a t.n t.c,Xe Xf R2],fun v W=>∃t:Sli,v= Xm #[O t.a t.n t.c,Xe Xf R2]/\OwnRow arE W1.heap.size W (O t.a t.n t.c) R1⟩)] mixed (by kernel_rfl) ?_ ?_ ?_
 ·intro x hx;simp only[mC,nM,or_false]at hx;subst hx;exact⟨_,noS,rfl⟩
 ·intro x hx;simp only[mC,nM,or_false]at hx;subst hx;rintro v u u' hg ⟨t,h1,h2⟩;exact⟨t,h1,h2.grew hg⟩
 refine lax_quiet rfl rfl rfl (fun K hK=>?_);go_big_quiet_op;refine hK _ ?_;clear hK K
 refine lax_nilc (.tmp 60) ⟨gs,q*10,Xb⟩ rfl rfl rfl rfl ?_;simp only[Xs,sB,sS,sZ];iterate 18 (refine lax_quiet rfl rfl rfl (fun K hK=>?_);go_big_quiet_op;refine hK _ ?_;clear hK K)
 refine lax_spec rfl rfl (fun w' hg hF=>?_) (fun v1 hv=>?_)
 ·refine Does.call [O x.ar.a x.ar.n x.ar.c,Xi #[Xe Xf c.pt,Xe Xf (c.pt+c.n),Xh c.rd,Xh c.wr,Xh c.sh,Xe Xf c.file,Xe Xf c.base]] rfl Tryz.func76 rfl rfl rfl ?_;refine(HMP.out w' (G13.out.trans hg)).mono ?_;rintro e w'' ⟨⟨t,rfl,ho⟩,hg2⟩;exact⟨_,rfl,hg2,⟨t,rfl⟩,t,rfl,ho⟩
 obtain⟨t,rfl⟩:=hv;simp only[Xs,sB,sS,sZ];iterate 5 (refine lax_quiet rfl rfl rfl (fun K hK=>?_);go_big_quiet_op;refine hK _ ?_;clear hK K)
 refine lax_nil fun W4 g4 hF=>?_
 obtain⟨t',ht',ho'⟩:=hF 20;have htt:t'=t:=by
  have h1:(Value.tuple #[O t.a t.n t.c,Xe Xf R2])= Xm #[O t'.a t'.n t'.c,Xe Xf R2]:=ht';simp only[Value.tuple.injEq,Array.mk.injEq,List.cons.injEq,vJ,and_true]at h1;obtain⟨a1,a2,a3⟩:=h1;cases t;cases t'
  simp_all
 subst htt;have O4:Xo (OwnRow arE W1.heap.size W4 (O t'.a t'.n t'.c) R1):=ho';have G14:=dD (G13.out.trans g4);have A4:=dD (A1.out.grew G14.out);clear g4 hF ht' ho' hx3 hx4 hx5 hx6 hx7 hx8 hac hne HMP hsum h1 hpt;have HL:Xo (w0.heap.size<=b):=show _<=_ by have:=HUB.out;have:=HM.out.lo;have:=HPU.out;omega
 by_cases he:R2=0
 rotate_left
 ·have hz:(R2 != 0)=Xc:=by simp[he]
  have HE:Xo (R2≠0):=he;clear he;have hrf:=refused_any R2 W4;go_wp2_with fail;refine hrf.mono ?_;rintro e W5 ⟨rfl,g5⟩;have A5:=dD (A4.out.grew g5);have Q5:Xo (Grew w W5):=show Grew _ _ from(G1.out.trans G14.out).trans g5
  clear hrf g5;unfold ansV noS
  go_wp2_with (refine wp_storeAllT rfl 50 (.tmp 4) (.tmp 86) rfl (b+1) rfl [Xe Xf R2,Xe Xf 0,O Xb 0 0] rfl A5.out rfl (by kernel_rfl) (by simp[Value.oneCell']) ?_)
  intro W6 b6 g6 _;have G6:Xo (Grew w0 W6):=show Grew _ _ from grew_grown ((HM.out.gr.trans HGU.out).trans Q5.out) g6 (by have:=HL.out;omega)
  have A6:Xo (BoxT W6 (b+1) 50 [Xe Xf R2,Xe Xf 0,O Xb 0 0]):=b6;have O6:Xo (OutD (Fore w0 u) w W6):=show OutD _ _ _ from OutD.beyond (OutD.grew Q5.out) g6 (by have:=HB.out;omega)
  clear b6 g6;go_wp2;refine bodyPost_ret (ret_cell rfl _ rfl A6.out.box Tryz.underlying50 rfl (by kernel_rfl)) rfl ⟨R2,0,noS,[],V,m,rfl,⟨rfl,q,s,HLV.out,by rw[HRR.out],fun h=>absurd h HE.out⟩,O6.out,G6.out,fun _ _=>RowAt.nil _ _,fun h=>absurd h HE.out⟩
 have HR0:Xo (R2=0):=he;subst he;have HS4:=dD (HSO.out.grew G14.out)
 go_wp2_with (refine wpList_store_part (E:=spcE) rfl (.tmp 90) (.tmp 88) 71 rfl w0.heap.size _ xs HS4.out gs q 1 rfl x { x with ar:=t' } HX.out [O t'.a t'.n t'.c] (by kernel_rfl) rfl (by show 1+1<=10;omega) (by simp;rfl) ⟨gs,q*10+1,Xb⟩ rfl rfl _ rfl rfl ?_)
 intro W5 o5 g5 s5;clear s5;have A5:Xo (BoxT W5 (b+1) 50 [Xe Xf 0,Xe Xf 0,O Xb 0 0]):=show BoxT _ _ _ _ from A4.out.beside g5 (fun k e=>by cases e;have:=HGS.out;have:=HUB.out;omega)
 have P5:Xo (BoxT W5 p 88 (chL V m)):=show BoxT _ _ _ _ from(P1.out.grew G14.out).beside g5 (fun k e=>by cases e;first | exact HM.out.ns _ HOB.out | exact(HM.out.ns _ HOB.out).symm)
 have OW5:Xo (OwnRow spcE w0.heap.size W5 (O V.sp.a V.sp.n V.sp.c) (xs.set q { x with ar:=t' })):=show OwnRow _ _ _ _ _ by rw[HEQ.out];exact o5
 have GB5:Xo (W4.grownBy W5 (Xa gs)):=g5;have GR5:Xo (Grew w0 W5):=show Grew _ _ from grew_grown (((HM.out.gr.trans HGU.out).trans G1.out).trans G14.out) g5 HGS.out.1
 have OD5:Xo (OutD (Fore w0 u) w W5):=show OutD _ _ _ from(OutD.grew (G1.out.trans G14.out)).trans (OutD.grown g5 HGS.out)
 clear o5 g5
 go_wp2_with (refine wp_storeAllT rfl 50 (.tmp 4) (.tmp 92) rfl (b+1) rfl [Xe Xf 0,Xe Xf c.pt,O Xb 0 0] rfl A5.out rfl (by kernel_rfl) (by simp[Value.oneCell']) ?_)
 intro W6 b6 g6 _;have A6:Xo (BoxT W6 (b+1) 50 [Xe Xf 0,Xe Xf c.pt,O Xb 0 0]):=b6;have HFIN:Xo (WorkM (KMap m c) w0 p u w (Xl (ansV 0 c.pt noS)) W6):=show WorkM _ _ _ _ _ _ _ from by
  refine⟨0,c.pt,noS,[],V,areaM m q s R1,rfl,⟨rfl,q,s,HLV.out,by rw[HRR.out],fun _=>⟨rfl,by rw[HRR.out]⟩⟩,OD5.out.beyond g6 (by have:=HB.out;omega),grew_grown GR5.out g6 (by have:=HL.out;omega),fun _ _=>RowAt.nil _ _,fun _=>⟨P5.out.beside g6 (fun k e=>by cases e;have:=HPU.out;have:=HUB.out;omega),fun W hW=>?_⟩⟩
  refine map_done (w:=W1) (w1:=W4) (w2:=W5) (y:={ x with ar:=t' }) HM.out HS1.out HS2.out HS3.out HX.out HS.out HOB.out GU1.out G14.out O4.out GB5.out OW5.out ⟨rfl,rfl,rfl⟩ ?_;refine(OutD.grown (D:=Aft w0 u W1) g6 (.inr ⟨by have:=HUB.out;omega,HBL.out⟩)).trans (hW.wide fun k hk=>hk.imp id fun h=>⟨h.1,Xt h.2 (bS G1.out)⟩)
 clear b6 g6;go_wp2;refine bodyPost_ret (ret_cell rfl _ rfl A6.out.box Tryz.underlying50 rfl (by kernel_rfl)) rfl HFIN.out
theorem works_map (w:Xn) (m:Ma) (c:Cl) (hk:c.kind=1) (h1:0<=c.pt) (h2:1<=c.n) (h3:c.n<=64 - c.pt) (h4:-1<=c.file) (h5:c.file< (m.fl.length:Int)):Works w m c (KProc m c.proc (KMap m c)):=by
 intro w0 W p V1 v hg h hv;obtain⟨g,rfl,hb⟩:=hv.1 hk;exact⟨73,#[Xj (Xa ⟨g,0,Xb⟩)],rfl,entersOf,ofProc_any h c g 35 _ (enters_of Tryz.func35 (by kernel_rfl) rfl) hb fun W' hW hl=>kmap_any h hW c hl h1 h2 h3 h4 h5⟩
def clMp (n:Nat):Cl:=⟨1,0,0,(n:Int),-1,0,Xc,Xc,Xd,noS⟩
def clP (k:Nat) (s:Sli):Cl:=⟨5,0,8*(k:Int)+(k:Int) % 8,0,0,0,Xd,Xd,Xd,s⟩
def clG (k:Nat):Cl:=⟨4,0,8*(k:Int)+(k:Int) % 8,1,0,0,Xd,Xd,Xd,noS⟩
theorem map_N:∀(n:Nat),1<=n->n<=23->mapA [] (arC (clMp n))=([arN n],0)
 | 1,_,_=>rfl
 | 2,_,_=>rfl
 | 3,_,_=>rfl
 | 4,_,_=>rfl
 | 5,_,_=>rfl
 | 6,_,_=>rfl
 | 7,_,_=>rfl
 | 8,_,_=>rfl
 | 9,_,_=>rfl
 | 10,_,_=>rfl
 | 11,_,_=>rfl
 | 12,_,_=>rfl
 | 13,_,_=>rfl
 | 14,_,_=>rfl
 | 15,_,_=>rfl
 | 16,_,_=>rfl
 | 17,_,_=>rfl
 | 18,_,_=>rfl
 | 19,_,_=>rfl
 | 20,_,_=>rfl
 | 21,_,_=>rfl
 | 22,_,_=>rfl
 | 23,_,_=>rfl
 | n+24,_,h=>absurd h (by omega)
theorem right_N:∀F:Nat,F<13->∀S:Nat,S<13->maW (newMa (F:Int) (S:Int) 0)=0:=by decide+kernel
def maN (F S n:Nat):Ma:=areaM (newMa (F:Int) (S:Int) 0) 0 ⟨Xc,[],none8⟩ [arN n]
theorem right_M:∀F:Nat,F<13->∀S:Nat,S<13->2<=F->maW (maN F S (F+S - 1))=0:=by decide+kernel
theorem sw_first {F S n:Nat} (h1:2<=F) (h2:F<13) (h3:S<13) (hn:n=F+S - 1):Sw F S n (fun _=>zero8) (maN F S n):=by
 refine⟨⟨by rw[hn];exact right_M F h2 S h3 h1,fun s hs=>?_⟩,by simp[maN,areaM,newMa],by simp[maN,areaM,newMa],rfl,⟨none8,rfl⟩,fun s k hs hk=>?_⟩
 ·have hs:s∈[(⟨Xc,[arN n],none8⟩:Sp)]:=hs
  cases hs with
  | head=>rfl
  | tail _ h=>cases h
 have hs: [(⟨Xc,[arN n],none8⟩:Sp)][0]? =Xa s:=hs;cases hs;have e:flatN (⟨Xc,[arN n],none8⟩:Sp) k=en0:=by rw[flat_none]
 rw[e,show onAt [arN n] k=_ from arN_in hk]
 rfl
section
variable{F S n k:Nat} {c:Nat->List Int} {m:Ma}
theorem pt_div (k:Nat):(8*(k:Int)+(k:Int) % 8) / 8=(k:Int):=by omega
theorem pt_mod (k:Nat):((8*(k:Int)+(k:Int) % 8) % 8).toNat=k % 8:=by omega
theorem mapN_step (h1:1<=n) (h2:n<=23) {er z:Int} {l:List Int} {m':Ma} (h:KProc (newMa (F:Int) (S:Int) 0) 0 (KMap (newMa (F:Int) (S:Int) 0) (clMp n)) er z l m'):er=0/\m'=maN F S n:=by
 rcases h with⟨_,_,_,hno⟩ | ⟨_,_,q,s,hq,he,hm⟩
 ·exact absurd (⟨rfl,rfl,rfl⟩:LiveP (newMa (F:Int) (S:Int) 0) 0 0 ⟨Xc,[],none8⟩) (hno 0 _)
 have e:q=0:=by have:=hq.1;simp only[clMp]at this;omega
 subst e;have hs:=hq.2.1;cases hs;rw[map_N n h1 h2]at he hm;have he:er=0:=he;exact⟨he,(hm he).2⟩
theorem Sw.live (h:Sw F S n c m):∃s,LiveP m 0 0 s:=by
 obtain⟨tb,e⟩:=h.sp;exact⟨_,rfl,by rw[e];rfl,rfl⟩
theorem Sw.store (h:Sw F S n c m) (hn:n<=64) (hF:0<F) (hroom:n<=F+S) (hk:k<n) {s:Sli} (hs:s.n=1) {x:Int} {BF:Nat->Nat->Ar->Pg->Bool->Bool × Nat × Ma} {er z:Int} {l:List Int} {m':Ma} (hp:KProc m 0 (KStore m BF (clP k s) [x]) er z l m'):er=0/\Sw F S n (fun j=>if j=k then splice (c k) (k % 8) [x]else c j) m':=by
 obtain⟨s0,hl⟩:=h.live;have hw:pgWithin (clP k s).pt ((clP k s).dv.n:Int)=Xc:=by
  show pgWithin (8*(k:Int)+(k:Int) % 8) (s.n:Int)=Xc
  rw[hs];unfold pgWithin;exact decide_eq_true (by omega)
 have hd:(clP k s).pt / 8=(k:Int):=pt_div k;have hm:((clP k s).pt % 8).toNat=k % 8:=pt_mod k
 rcases hp with⟨_,_,_,hno⟩ | ⟨_,_,⟨_,h2⟩ | ⟨he,_,kk,mu,fr,pg,⟨_,hu,hf,_⟩,hsp,hm'⟩⟩
 ·exact absurd hl (hno 0 s0)
 ·rcases h2 with⟨h2,_⟩ | ⟨_,h2⟩ | ⟨_,_,kk,mu,fr,j,fl,hu,hf,hj,_⟩
  ·rw[hw]at h2;cases h2
  ·rw[hd]at h2;exact absurd h2 (h.not hn hF hroom hk)
  rw[hd]at hu;obtain⟨t,fr',we,_,b2,_,_,b5,_⟩:=(h.used hn hF hroom hk hu).into;rw[hf]at b2;cases b2;omega
 rw[hd]at hu;have hu':=h.used hn hF hroom hk hu;obtain⟨t,fr',we,_,b2,_,b4,_⟩:=hu'.into;rw[hf]at b2;cases b2;have e:=hu'.write hn hk hf pg;rw[hm,b4]at hsp;rw[<-hsp,<-hm']at e;exact⟨he,e⟩
theorem Sw.load (h:Sw F S n c m) (hn:n<=64) (hF:0<F) (hroom:n<=F+S) (hk:k<n) {BF:Nat->Nat->Ar->Pg->Bool->Bool × Nat × Ma} {er z:Int} {l:List Int} {m':Ma} (hp:KProc m 0 (KLoad m BF (clG k)) er z l m'):er=0/\l=((c k).drop (k % 8)).take 1/\Sw F S n c m':=by
 obtain⟨s0,hl⟩:=h.live;have hw:pgWithin (clG k).pt (clG k).n=Xc:=by
  show pgWithin (8*(k:Int)+(k:Int) % 8) 1=Xc
  unfold pgWithin;exact decide_eq_true (by omega)
 have hd:(clG k).pt / 8=(k:Int):=pt_div k;have hm:((clG k).pt % 8).toNat=k % 8:=pt_mod k
 rcases hp with⟨_,_,_,hno⟩ | ⟨_,⟨_,_,h2⟩ | ⟨he,_,kk,fr,⟨_,hu,hf,_⟩,hll⟩⟩
 ·exact absurd hl (hno 0 s0)
 ·rcases h2 with⟨h2,_⟩ | ⟨_,h2⟩ | ⟨_,_,kk,mu,fr,j,fl,hu,hf,hj,_⟩
  ·rw[hw]at h2;cases h2
  ·rw[hd]at h2;exact absurd h2 (h.not hn hF hroom hk)
  rw[hd]at hu;obtain⟨t,fr',we,_,b2,_,_,b5,_⟩:=(h.used hn hF hroom hk hu).into;rw[hf]at b2;cases b2;omega
 rw[hd]at hu;have hu':=h.used hn hF hroom hk hu;obtain⟨t,fr',we,_,b2,_,b4,_⟩:=hu'.into;rw[hf]at b2;cases b2;rw[hm,b4]at hll;exact⟨he,hll,hu'.sw⟩
theorem Sw.useA (h:Sw F S n c m) (hn:n<=64) (hF:0<F) (hroom:n<=F+S) (hk:k<n) (V:MaV) (W:Xn) (wr:Bool) (BF:Nat->Nat->Ar->Pg->Bool->Bool × Nat × Ma) (hm:MachAt W V m):Xp Tryz.prog 140 #[Xi #[O V.f.a V.f.n V.f.c,Xe Xf m.hand,O V.s.a V.s.n V.s.c,O V.sb.a V.sb.n V.sb.c,O V.sq.a V.sq.n V.sq.c,O V.db.a V.db.n V.db.c,O V.dq.a V.dq.n V.dq.c,O V.fl.a V.fl.n V.fl.c,Xe Xf m.cnt,O V.ca.a V.ca.n V.ca.c,O V.sp.a V.sp.n V.sp.c],Xe Xf 0,Xe Xf (k:Int),Xh wr] W fun e w'=>((∃er:Int,e= Xl (Xm #[Xi zeroM.toArray,Xe Xf 0,Xe Xf er])/\NotUsed m BF 0 (k:Int) wr er)\/(∃(V':MaV) (kk pc:Nat) (m':Ma),e= Xl (Xm #[Xi #[O V'.f.a V'.f.n V'.f.c,Xe Xf m'.hand,O V'.s.a V'.s.n V'.s.c,O V'.sb.a V'.sb.n V'.sb.c,O V'.sq.a V'.sq.n V'.sq.c,O V'.db.a V'.db.n V'.db.c,O V'.dq.a V'.dq.n V'.dq.c,O V'.fl.a V'.fl.n V'.fl.c,Xe Xf m'.cnt,O V'.ca.a V'.ca.n V'.ca.c,O V'.sp.a V'.sp.n V'.sp.c],Xe Xf (kk:Int),Xe Xf 0])/\Used m BF 0 (k:Int) wr kk m'/\ChW W pc w' V' m'))/\Grew W w':=
 use_any V m 0 (k:Int) wr W hm h.rt BF (fun w0 W p V1 m1 mv l hl e hc hr _ hv=>cwFreeS_any hc hr (by rw[e,(dropAll_goes l h.rt hl).2.2.2.1];exact h.fll) mv l hv)
  (fun q i a pg _ _ hu _ hf _=>by
   obtain⟨_,e⟩:=h.may hk hu;rw[e]at hf;exact absurd hf (by show¬(0:Int)<=-1;omega)) (fun q i a pg ic hq hi hu hv _=>h.into hn hF hroom hk hq hi hu hv)
theorem Sw.inside (h:Sw F S n c m) (hn:n<=64) (hF:0<F) (hroom:n<=F+S) (hk:k<n) {wr:Bool} {BF:Nat->Nat->Ar->Pg->Bool->Bool × Nat × Ma} (kk:Nat) (m':Ma) (hu:Used m BF 0 (k:Int) wr kk m'):∃fr:Fr,m'.fs[kk]? =Xa fr/\(fr.f=-1\/∃(j:Nat) (fl:Fl),fr.f=(j:Int)/\m'.fl[j]? =Xa fl)/\0<=fr.x/\fr.x<1000:=by
 obtain⟨t,fr,we,_,b2,_,_,b5,_,b7,b8⟩:=(h.used hn hF hroom hk hu).into;exact⟨fr,b2,.inl b5,b7,b8⟩
theorem Sw.works_store (h:Sw F S n c m) (hn:n<=64) (hF:0<F) (hroom:n<=F+S) (hk:k<n) {s:Sli} (hs:s.n=1) {x:Int} {W:Xn} (hr:RowAt byE W (O s.a s.n s.c) [x]):Works W m (clP k s) (KProc m 0 (KStore m (fun _ _ _ _ _=>(Xd,0,m)) (clP k s) [x])):=by
 have hd:(clP k s).pt / 8=(k:Int):=pt_div k;refine Go.Proofs.YtempiodbdhiboaaGreat.works_store W m (clP k s) [x] (fun _ _ _ _ _=>(Xd,0,m)) rfl (by show _<=8*(k:Int)+(k:Int) % 8;omega) (by show 8*(k:Int)+(k:Int) % 8<=_;omega) hr (by show(s.n:Int)<=_;omega) (fun V1 W1 hm=>?_) (fun kk m' hu=>?_)
 ·rw[hd];exact h.useA hn hF hroom hk V1 W1 Xc _ hm
 rw[hd]at hu;exact h.inside hn hF hroom hk kk m' hu
theorem Sw.works_load (h:Sw F S n c m) (hn:n<=64) (hF:0<F) (hroom:n<=F+S) (hk:k<n) (W:Xn):Works W m (clG k) (KProc m 0 (KLoad m (fun _ _ _ _ _=>(Xd,0,m)) (clG k))):=by
 have hd:(clG k).pt / 8=(k:Int):=pt_div k;refine Go.Proofs.YtempiodbdhiboaaGreat.works_load W m (clG k) (fun _ _ _ _ _=>(Xd,0,m)) rfl (by show _<=8*(k:Int)+(k:Int) % 8;omega) (by show 8*(k:Int)+(k:Int) % 8<=_;omega) (by show _<=(1:Int);omega) (by show(1:Int)<=_;omega) (fun V1 W1 hm=>?_) (fun kk m' hu=>?_)
 ·rw[hd];exact h.useA hn hF hroom hk V1 W1 Xd _ hm
 rw[hd]at hu;exact h.inside hn hF hroom hk kk m' hu
end
structure Cls (w:Xn) (n:Nat) (x:Nat->Int) (cls:List Cl):Prop where
 len:cls.length=1+n+n
 first:cls[0]? =Xa (clMp n)
 puts:∀k,k<n->∃s,cls[1+k]? =Xa (clP k s)/\s.n=1/\RowAt byE w (O s.a s.n s.c) [x k]
 gets:∀k,k<n->cls[1+n+k]? =Xa (clG k)
def cS (x:Nat->Int) (p j:Nat):List Int:=if j<p then splice zero8 (j % 8) [x j]else zero8
theorem cS_step (x:Nat->Int) (k:Nat):(fun j=>if j=k then splice (cS x k k) (k % 8) [x k]else cS x k j)=cS x (k+1):=by
 funext j
 unfold cS
 by_cases e:j=k
 ·subst e;rw[if_pos rfl,if_neg (Nat.lt_irrefl _),if_pos (Nat.lt_succ_self _)]
 rw[if_neg e]
 by_cases h:j<k
 ·rw[if_pos h,if_pos (by omega)]
 rw[if_neg h,if_neg (by omega)]
theorem splice_get (z:Int):∀r,r<8->((splice zero8 r [z]).drop r).take 1=[z]
 | 0,_=>rfl
 | 1,_=>rfl
 | 2,_=>rfl
 | 3,_=>rfl
 | 4,_=>rfl
 | 5,_=>rfl
 | 6,_=>rfl
 | 7,_=>rfl
 | r+8,h=>absurd h (by omega)
def JS (F S n:Nat) (x:Nat->Int) (i:Nat) (m:Ma) (az:List (Int × Int × List Int)):Prop:=
 (i=0->m=newMa (F:Int) (S:Int) 0)/\(1<=i->Sw F S n (cS x (min (i - 1) n)) m)/\(∀k,k<n->1+k<i->∃z l,az[1+k]? =Xa (0,z,l))/\(∀k,k<n->1+n+k<i->∃z,az[1+n+k]? =Xa (0,z,[x k]))
theorem js_next {F S n:Nat} {x:Nat->Int} {w:Xn} {cls:List Cl} (h1:2<=F) (h2:F<13) (h3:S<13) (hn:n=F+S - 1) (hc:Cls w n x cls) (i:Nat) (c:Cl) (m:Ma) (az:List (Int × Int × List Int)) (hci:cls[i]? =Xa c) (hl:az.length=i) (hJ:JS F S n x i m az):
  maW m=0/\(1<=c.kind/\c.kind<=15)/\∃K,(∀W,Grew w W->Works W m c K)/\∀er z l m' m2,K er z l m'->((er=0/\m2=m')\/(er≠0/\m2=m))->JS F S n x (i+1) m2 (az++ [(er,z,l)]):=by
 obtain⟨j1,j2,j3,j4⟩:=hJ;have old:∀{k:Nat} {x y:Int × Int × List Int},az[k]? =Xa x->(az++ [y])[k]? =Xa x:=fun{k x y} h=>by rw[Xu (gS.1 h).1];exact h
 have new:∀{y:Int × Int × List Int},(az++ [y])[i]? =Xa y:=fun{y}=>by rw[aR (by omega),hl,Nat.sub_self];rfl
 have hi:i<1+n+n:=by
  have:=(gS.1 hci).1;rw[hc.len]at this;exact this
 have hF:0<F:=by omega
 have hroom:n<=F+S:=by omega
 have hn64:n<=64:=by omega
 by_cases e0:i=0
 ·subst e0;rw[hc.first]at hci;cases hci;have e:=j1 rfl;subst e;refine⟨right_N F h2 S h3,by show(1:Int)<=1/\(1:Int)<=15;omega,KProc (newMa (F:Int) (S:Int) 0) 0 (KMap (newMa (F:Int) (S:Int) 0) (clMp n)),fun W _=>works_map W _ (clMp n) rfl (by show(0:Int)<=0;omega) (by show(1:Int)<=(n:Int);omega) (by show(n:Int)<=64 - 0;omega) (by show(-1:Int)<=-1;omega) (by show(-1:Int)<_;omega),fun er z l m' m2 hk hm=>?_⟩
  obtain⟨e1,e2⟩:=mapN_step (by omega) (by omega) hk
  rcases hm with⟨_,e3⟩ | ⟨e3,_⟩
  ·refine⟨fun h=>by omega,fun _=>?_,fun k _ h=>by omega,fun k _ h=>by omega⟩
   rw[e3,e2];have:cS x (min (0+1 - 1) n)=fun _=>zero8:=by
    funext j
    unfold cS;rw[if_neg (by omega)]
   rw[this];exact sw_first h1 h2 h3 hn
  exact absurd e1 e3
 have hsw:=j2 (by omega)
 by_cases e1:i<=n
 ·obtain⟨k,rfl⟩:∃k,i=1+k:=⟨i - 1,by omega⟩
  have hk:k<n:=by omega
  obtain⟨s,a1,a2,a3⟩:=hc.puts k hk;rw[a1]at hci;cases hci;rw[show min (1+k - 1) n=k by omega]at hsw
  refine⟨hsw.rt.w,by show(1:Int)<=5/\(5:Int)<=15;omega,KProc m 0 (KStore m (fun _ _ _ _ _=>(Xd,0,m)) (clP k s) [x k]),fun W hW=>hsw.works_store hn64 hF hroom hk a2 (a3.grew hW),fun er z l m' m2 hkk hm=>?_⟩
  obtain⟨b1,b2⟩:=hsw.store hn64 hF hroom hk a2 hkk;rw[cS_step]at b2
  rcases hm with⟨_,e3⟩ | ⟨e3,_⟩
  ·refine⟨fun h=>by omega,fun _=>?_,fun j hj h=>?_,fun j _ h=>by omega⟩
   ·rw[show min (1+k+1 - 1) n=k+1 by omega,e3]
    exact b2
   by_cases ej:j=k
   ·subst ej;exact⟨z,l,by rw[new,b1]⟩
   obtain⟨z',l',h'⟩:=j3 j hj (by omega)
   exact⟨z',l',old h'⟩
  exact absurd b1 e3
 obtain⟨k,rfl⟩:∃k,i=1+n+k:=⟨i - 1 - n,by omega⟩
 have hk:k<n:=by omega
 rw[hc.gets k hk]at hci;cases hci;rw[show min (1+n+k - 1) n=n by omega]at hsw
 refine⟨hsw.rt.w,by show(1:Int)<=4/\(4:Int)<=15;omega,KProc m 0 (KLoad m (fun _ _ _ _ _=>(Xd,0,m)) (clG k)),fun W hW=>hsw.works_load hn64 hF hroom hk W,fun er z l m' m2 hkk hm=>?_⟩
 obtain⟨b1,b2,b3⟩:=hsw.load hn64 hF hroom hk hkk;have b4:l=[x k]:=by
  rw[b2];unfold cS;rw[if_pos hk];exact splice_get _ _ (Nat.mod_lt _ (by decide))
 rcases hm with⟨_,e3⟩ | ⟨e3,_⟩
 ·refine⟨fun h=>by omega,fun _=>?_,fun j hj h=>?_,fun j hj h=>?_⟩
  ·rw[show min (1+n+k+1 - 1) n=n by omega,e3]
   exact b3
  ·obtain⟨z',l',h'⟩:=j3 j hj (by omega)
   exact⟨z',l',old h'⟩
  by_cases ej:j=k
  ·subst ej;exact⟨z,by rw[new,b1,b4]⟩
  obtain⟨z',h'⟩:=j4 j hj (by omega)
  exact⟨z',old h'⟩
 exact absurd b1 e3
def arA1:Ar:=⟨0,1,Xc,Xc,Xd,-1,0⟩
def maA1:Ma:=areaM (newMa 2 2 0) 0 ⟨Xc,[],none8⟩ [arA1]
def frA (pg:Pg):Fr:=⟨pg,1,Xc,Xd,-1,0⟩
def tbA (w:Bool):List (List En):=setT none8 0 ⟨1,0,w⟩
def maA2 (pg:Pg) (w:Bool):Ma:={ maA1 with fs:=[frA pg,frF],sp:=[⟨Xc,[arA1],tbA w⟩] }
theorem map_A:mapA [] arA1=([arA1],0):=by rfl
theorem right_A0:maW (newMa 2 2 0)=0:=by decide
theorem right_A1:maW maA1=0:=by decide
theorem right_A2:∀w,maW (maA2 ⟨0,0,0,9,0,0,0,0⟩ w)=0:=by decide
theorem right_A3:∀w,maW (maA2 pg0 w)=0:=by decide
theorem rt_A1:Rt maA1:=⟨right_A1,by intro s hs;cases hs with | head=>rfl | tail _ h=>cases h⟩
theorem rt_A2 (w:Bool):Rt (maA2 ⟨0,0,0,9,0,0,0,0⟩ w):=⟨right_A2 w,by intro s hs;cases hs with | head=>rfl | tail _ h=>cases h⟩
theorem rt_A3 (w:Bool):Rt (maA2 pg0 w):=⟨right_A3 w,by intro s hs;cases hs with | head=>rfl | tail _ h=>cases h⟩
theorem view_A1:viewL maA1 0 0=(zero8,Xd,0):=by decide
theorem view_A2 (w:Bool):viewL (maA2 ⟨0,0,0,9,0,0,0,0⟩ w) 0 0=([0,0,0,9,0,0,0,0],Xc,0):=by revert w;decide
theorem use_A {m:Ma} {tb:List (List En)} (hsp:m.sp=[⟨Xc,[arA1],tb⟩]) {wr:Bool} {a:Ar} {e:Int} (h:Usable m 0 0 wr a e):e=0/\a=arA1:=by
 rcases h with⟨_,_,h⟩ | ⟨pp,nn,k,s,x,hp,hn,_,hs,hx,_,_,_,h⟩
 ·rcases h with(h | h) | ⟨pp,s,hp,hs,h⟩
  ·omega
  ·rw[hsp]at h
   simp at h
  have:pp=0:=by omega
  subst this;rw[hsp]at hs;cases hs;have:=h arA1 (Xv ..);cases this
 have:pp=0:=by omega
 subst this;rw[hsp]at hs;cases hs
 cases k with
 | zero=>
  cases hx
  rcases h with⟨_,_,h⟩ | ⟨h1,h2,_⟩
  ·cases wr <;> cases h
  exact⟨h1,h2⟩
 | succ k=>
  simp at hx
theorem pg_zero {pg:Pg} (h:zero8=pgL pg):pg=pg0:=by
 cases pg;simp only[zero8,pgL,List.cons.injEq]at h;simp only[pg0,Pg.mk.injEq];omega
theorem pg_nine {pg:Pg} (h: [0,0,0,9,0,0,0,0]=pgL pg):pg=⟨0,0,0,9,0,0,0,0⟩:=by
 cases pg;simp only[pgL,List.cons.injEq]at h;simp only[Pg.mk.injEq];omega
theorem bring_A1 (BF:Bool × Nat × Ma):bringR maA1 BF pg0 arA1 Xd Xc 0 0=(Xc,0,maA2 pg0 Xd):=by
 rfl
theorem bring_A2 (BF:Bool × Nat × Ma):bringR (maA2 ⟨0,0,0,9,0,0,0,0⟩ Xc) BF ⟨0,0,0,9,0,0,0,0⟩ arA1 Xc Xd 0 0=(Xc,0,maA2 ⟨0,0,0,9,0,0,0,0⟩ Xc):=by
 rfl
theorem know_A1 {BF:Nat->Nat->Ar->Pg->Bool->Bool × Nat × Ma} {q i:Nat} {a:Ar} {pg:Pg} {ic:Bool} (hq:(0:Int)=(q:Int)) (hi:(0:Int)=(i:Int)) (hu:Usable maA1 0 0 Xc a 0) (hv:viewL maA1 0 0=(pgL pg,ic,0)):q=0/\i=0/\a=arA1/\bringR maA1 (BF q i a pg Xc) pg a ic Xc q i=(Xc,0,maA2 pg0 Xd):=by
 have e1:q=0:=by omega
 have e2:i=0:=by omega
 subst e1 e2;obtain⟨_,e3⟩:=use_A rfl hu;subst e3;rw[view_A1]at hv;simp only[pJ]at hv;obtain⟨h1,h2,_⟩:=hv;have e4:=pg_zero h1;subst e4 h2;exact⟨rfl,rfl,rfl,bring_A1 _⟩
theorem not_A1 {BF:Nat->Nat->Ar->Pg->Bool->Bool × Nat × Ma} {er:Int}:¬NotUsed maA1 BF 0 0 Xc er:=by
 rintro⟨he,h | ⟨a,_,h⟩ | ⟨_,q,i,a,pg,ic,hq,hi,hu,hv,hb⟩⟩
 ·exact he (use_A rfl h).1
 ·rw[view_A1]at h;exact he h.symm
 rw[(know_A1 hq hi hu hv).2.2.2]at hb;cases hb
theorem used_A1 {BF:Nat->Nat->Ar->Pg->Bool->Bool × Nat × Ma} {kk:Nat} {m':Ma} (h:Used maA1 BF 0 0 Xc kk m'):kk=0/\m'=maA2 pg0 Xc:=by
 obtain⟨q,i,a,pg,ic,fr,hq,hi,hu,hv,hb,hk,hf,hm⟩:=h;obtain⟨e1,e2,e3,e4⟩:=know_A1 (BF:=BF) hq hi hu hv;rw[e4]at hk hf hm;subst e1 e2 e3 hk;have hf:(maA2 pg0 Xd).fs[0]? =Xa fr:=hf;cases hf;exact⟨rfl,hm⟩
theorem into_A1 {BF:Nat->Nat->Ar->Pg->Bool->Bool × Nat × Ma} {q i:Nat} {a:Ar} {pg:Pg} {ic:Bool} (hq:(0:Int)=(q:Int)) (hi:(0:Int)=(i:Int)) (hu:Usable maA1 0 0 Xc a 0) (hv:viewL maA1 0 0=(pgL pg,ic,0)):Into (bringR maA1 (BF q i a pg Xc) pg a ic Xc q i).2.1 q i (bringR maA1 (BF q i a pg Xc) pg a ic Xc q i).2.2:=by
 obtain⟨e1,e2,e3,e4⟩:=know_A1 (BF:=BF) hq hi hu hv;rw[e4];subst e1 e2;exact⟨_,_,_,rt_A3 Xd,rfl,rfl,rfl⟩
theorem useA_A1 (V:MaV) (W:Xn) (BF:Nat->Nat->Ar->Pg->Bool->Bool × Nat × Ma) (hm:MachAt W V maA1):Xp Tryz.prog 140 #[Xi #[O V.f.a V.f.n V.f.c,Xe Xf (maA1).hand,O V.s.a V.s.n V.s.c,O V.sb.a V.sb.n V.sb.c,O V.sq.a V.sq.n V.sq.c,O V.db.a V.db.n V.db.c,O V.dq.a V.dq.n V.dq.c,O V.fl.a V.fl.n V.fl.c,Xe Xf (maA1).cnt,O V.ca.a V.ca.n V.ca.c,O V.sp.a V.sp.n V.sp.c],Xe Xf 0,Xe Xf 0,Xh Xc] W fun e w'=>((∃er:Int,e= Xl (Xm #[Xi zeroM.toArray,Xe Xf 0,Xe Xf er])/\NotUsed maA1 BF 0 0 Xc er)\/(∃(V':MaV) (k pc:Nat) (m':Ma),e= Xl (Xm #[Xi #[O V'.f.a V'.f.n V'.f.c,Xe Xf m'.hand,O V'.s.a V'.s.n V'.s.c,O V'.sb.a V'.sb.n V'.sb.c,O V'.sq.a V'.sq.n V'.sq.c,O V'.db.a V'.db.n V'.db.c,O V'.dq.a V'.dq.n V'.dq.c,O V'.fl.a V'.fl.n V'.fl.c,Xe Xf m'.cnt,O V'.ca.a V'.ca.n V'.ca.c,O V'.sp.a V'.sp.n V'.sp.c],Xe Xf (k:Int),Xe Xf 0])/\Used maA1 BF 0 0 Xc k m'/\ChW W pc w' V' m'))/\Grew W w':=
 use_any V maA1 0 0 Xc W hm rt_A1 BF (fun w0 W p V1 m1 mv l hl e _ _ h0 _=>absurd h0 (by rw[e];exact dropAll_room l rt_A1 hl (k:=1) (fr:=frF) rfl rfl))
  (fun q i a pg _ _ hu _ hf _=>by
   obtain⟨_,e⟩:=use_A rfl hu;rw[e]at hf;exact absurd hf (by decide)) (fun q i a pg ic hq hi hu hv _=>into_A1 hq hi hu hv)
theorem know_A2 {BF:Nat->Nat->Ar->Pg->Bool->Bool × Nat × Ma} {q i:Nat} {a:Ar} {pg:Pg} {ic:Bool} (hq:(0:Int)=(q:Int)) (hi:(0:Int)=(i:Int)) (hu:Usable (maA2 ⟨0,0,0,9,0,0,0,0⟩ Xc) 0 0 Xd a 0) (hv:viewL (maA2 ⟨0,0,0,9,0,0,0,0⟩ Xc) 0 0=(pgL pg,ic,0)):q=0/\i=0/\a=arA1/\bringR (maA2 ⟨0,0,0,9,0,0,0,0⟩ Xc) (BF q i a pg Xd) pg a ic Xd q i=(Xc,0,maA2 ⟨0,0,0,9,0,0,0,0⟩ Xc):=by
 have e1:q=0:=by omega
 have e2:i=0:=by omega
 subst e1 e2;obtain⟨_,e3⟩:=use_A rfl hu;subst e3;rw[view_A2]at hv;simp only[pJ]at hv;obtain⟨h1,h2,_⟩:=hv;have e4:=pg_nine h1;subst e4 h2;exact⟨rfl,rfl,rfl,bring_A2 _⟩
theorem not_A2 {BF:Nat->Nat->Ar->Pg->Bool->Bool × Nat × Ma} {er:Int}:¬NotUsed (maA2 ⟨0,0,0,9,0,0,0,0⟩ Xc) BF 0 0 Xd er:=by
 rintro⟨he,h | ⟨a,_,h⟩ | ⟨_,q,i,a,pg,ic,hq,hi,hu,hv,hb⟩⟩
 ·exact he (use_A rfl h).1
 ·rw[view_A2]at h;exact he h.symm
 rw[(know_A2 hq hi hu hv).2.2.2]at hb;cases hb
theorem used_A2 {BF:Nat->Nat->Ar->Pg->Bool->Bool × Nat × Ma} {kk:Nat} {m':Ma} (h:Used (maA2 ⟨0,0,0,9,0,0,0,0⟩ Xc) BF 0 0 Xd kk m'):kk=0/\m'=maA2 ⟨0,0,0,9,0,0,0,0⟩ Xc:=by
 obtain⟨q,i,a,pg,ic,fr,hq,hi,hu,hv,hb,hk,hf,hm⟩:=h;obtain⟨e1,e2,e3,e4⟩:=know_A2 (BF:=BF) hq hi hu hv;rw[e4]at hk hf hm;subst e1 e2 e3 hk;have hf:(maA2 ⟨0,0,0,9,0,0,0,0⟩ Xc).fs[0]? =Xa fr:=hf;cases hf;exact⟨rfl,hm⟩
theorem into_A2 {BF:Nat->Nat->Ar->Pg->Bool->Bool × Nat × Ma} {q i:Nat} {a:Ar} {pg:Pg} {ic:Bool} (hq:(0:Int)=(q:Int)) (hi:(0:Int)=(i:Int)) (hu:Usable (maA2 ⟨0,0,0,9,0,0,0,0⟩ Xc) 0 0 Xd a 0) (hv:viewL (maA2 ⟨0,0,0,9,0,0,0,0⟩ Xc) 0 0=(pgL pg,ic,0)):Into (bringR (maA2 ⟨0,0,0,9,0,0,0,0⟩ Xc) (BF q i a pg Xd) pg a ic Xd q i).2.1 q i (bringR (maA2 ⟨0,0,0,9,0,0,0,0⟩ Xc) (BF q i a pg Xd) pg a ic Xd q i).2.2:=by
 obtain⟨e1,e2,e3,e4⟩:=know_A2 (BF:=BF) hq hi hu hv;rw[e4];subst e1 e2;exact⟨_,_,_,rt_A2 Xc,rfl,rfl,rfl⟩
theorem useA_A2 (V:MaV) (W:Xn) (BF:Nat->Nat->Ar->Pg->Bool->Bool × Nat × Ma) (hm:MachAt W V (maA2 ⟨0,0,0,9,0,0,0,0⟩ Xc)):Xp Tryz.prog 140 #[Xi #[O V.f.a V.f.n V.f.c,Xe Xf ((maA2 ⟨0,0,0,9,0,0,0,0⟩ Xc)).hand,O V.s.a V.s.n V.s.c,O V.sb.a V.sb.n V.sb.c,O V.sq.a V.sq.n V.sq.c,O V.db.a V.db.n V.db.c,O V.dq.a V.dq.n V.dq.c,O V.fl.a V.fl.n V.fl.c,Xe Xf ((maA2 ⟨0,0,0,9,0,0,0,0⟩ Xc)).cnt,O V.ca.a V.ca.n V.ca.c,O V.sp.a V.sp.n V.sp.c],Xe Xf 0,Xe Xf 0,Xh Xd] W fun e w'=>((∃er:Int,e= Xl (Xm #[Xi zeroM.toArray,Xe Xf 0,Xe Xf er])/\NotUsed (maA2 ⟨0,0,0,9,0,0,0,0⟩ Xc) BF 0 0 Xd er)\/(∃(V':MaV) (k pc:Nat) (m':Ma),e= Xl (Xm #[Xi #[O V'.f.a V'.f.n V'.f.c,Xe Xf m'.hand,O V'.s.a V'.s.n V'.s.c,O V'.sb.a V'.sb.n V'.sb.c,O V'.sq.a V'.sq.n V'.sq.c,O V'.db.a V'.db.n V'.db.c,O V'.dq.a V'.dq.n V'.dq.c,O V'.fl.a V'.fl.n V'.fl.c,Xe Xf m'.cnt,O V'.ca.a V'.ca.n V'.ca.c,O V'.sp.a V'.sp.n V'.sp.c],Xe Xf (k:Int),Xe Xf 0])/\Used (maA2 ⟨0,0,0,9,0,0,0,0⟩ Xc) BF 0 0 Xd k m'/\ChW W pc w' V' m'))/\Grew W w':=
 use_any V (maA2 ⟨0,0,0,9,0,0,0,0⟩ Xc) 0 0 Xd W hm (rt_A2 Xc) BF (fun w0 W p V1 m1 mv l hl e _ _ h0 _=>absurd h0 (by rw[e];exact dropAll_room l (rt_A2 Xc) hl (k:=1) (fr:=frF) rfl rfl))
  (fun q i a pg _ _ hu _ hf _=>by
   obtain⟨_,e⟩:=use_A rfl hu;rw[e]at hf;exact absurd hf (by decide)) (fun q i a pg ic hq hi hu hv _=>into_A2 hq hi hu hv)
def clA0:Cl:=⟨1,0,0,1,-1,0,Xc,Xc,Xd,noS⟩
def clA1 (s:Sli):Cl:=⟨5,0,3,0,0,0,Xd,Xd,Xd,s⟩
def clA2:Cl:=⟨4,0,3,1,0,0,Xd,Xd,Xd,noS⟩
theorem map_step {er n:Int} {l:List Int} {m':Ma} (h:KProc (newMa 2 2 0) 0 (KMap (newMa 2 2 0) clA0) er n l m'):er=0/\m'=maA1:=by
 rcases h with⟨_,_,_,hno⟩ | ⟨_,_,q,s,hq,he,hm⟩
 ·exact absurd (⟨rfl,rfl,rfl⟩:LiveP (newMa 2 2 0) 0 0 ⟨Xc,[],none8⟩) (hno 0 _)
 have e:q=0:=by have:=hq.1;simp only[clA0]at this;omega
 subst e;have hs:=hq.2.1;cases hs;have e2:mapA [] (arC clA0)=([arA1],0):=map_A;rw[e2]at he hm;have he:er=0:=he;exact⟨he,(hm he).2⟩
theorem store_step {s:Sli} (hn:s.n=1) {BF:Nat->Nat->Ar->Pg->Bool->Bool × Nat × Ma} {er n:Int} {l:List Int} {m':Ma} (h:KProc maA1 0 (KStore maA1 BF (clA1 s) [9]) er n l m'):er=0/\m'=maA2 ⟨0,0,0,9,0,0,0,0⟩ Xc:=by
 have hw:pgWithin (clA1 s).pt ((clA1 s).dv.n:Int)=Xc:=by
  show pgWithin 3 (s.n:Int)=Xc
  rw[hn]
  decide
 rcases h with⟨_,_,_,hno⟩ | ⟨_,_,⟨_,h⟩ | ⟨he,_,kk,mu,fr,pg,⟨_,hu,hf,_⟩,hp,hm⟩⟩
 ·exact absurd (⟨rfl,rfl,rfl⟩:LiveP maA1 0 0 ⟨Xc,[arA1],none8⟩) (hno 0 _)
 ·rcases h with⟨h,_⟩ | ⟨_,h⟩ | ⟨_,_,kk,mu,fr,j,fl,hu,hf,hj,_⟩
  ·rw[hw]at h;cases h
  ·exact absurd h not_A1
  obtain⟨e1,e2⟩:=used_A1 hu;subst e1 e2;have hf:(maA2 pg0 Xc).fs[0]? =Xa fr:=hf;cases hf;have hj:(-1:Int)=(j:Int):=hj;omega
 obtain⟨e1,e2⟩:=used_A1 hu;subst e1 e2;have hf:(maA2 pg0 Xc).fs[0]? =Xa fr:=hf;cases hf;have e:=pg_nine (pg:=pg) hp;subst e;exact⟨he,hm⟩
theorem load_step {BF:Nat->Nat->Ar->Pg->Bool->Bool × Nat × Ma} {er n:Int} {l:List Int} {m':Ma} (h:KProc (maA2 ⟨0,0,0,9,0,0,0,0⟩ Xc) 0 (KLoad (maA2 ⟨0,0,0,9,0,0,0,0⟩ Xc) BF clA2) er n l m'):er=0/\l=[9]:=by
 have hw:pgWithin clA2.pt clA2.n=Xc:=by decide
 rcases h with⟨_,_,_,hno⟩ | ⟨_,⟨_,_,h⟩ | ⟨he,_,kk,fr,⟨_,hu,hf,_⟩,hl⟩⟩
 ·exact absurd (⟨rfl,rfl,rfl⟩:LiveP (maA2 ⟨0,0,0,9,0,0,0,0⟩ Xc) 0 0 ⟨Xc,[arA1],tbA Xc⟩) (hno 0 _)
 ·rcases h with⟨h,_⟩ | ⟨_,h⟩ | ⟨_,_,kk,mu,fr,j,fl,hu,hf,hj,_⟩
  ·rw[hw]at h;cases h
  ·exact absurd h not_A2
  obtain⟨e1,e2⟩:=used_A2 hu;subst e1 e2;have hf:(maA2 ⟨0,0,0,9,0,0,0,0⟩ Xc).fs[0]? =Xa fr:=hf;cases hf;have hj:(-1:Int)=(j:Int):=hj;omega
 obtain⟨e1,e2⟩:=used_A2 hu;subst e1 e2;have hf:(maA2 ⟨0,0,0,9,0,0,0,0⟩ Xc).fs[0]? =Xa fr:=hf;cases hf;exact⟨he,hl⟩
theorem in_A1 {BF:Nat->Nat->Ar->Pg->Bool->Bool × Nat × Ma} (kk:Nat) (m':Ma) (h:Used maA1 BF 0 0 Xc kk m'):∃fr:Fr,m'.fs[kk]? =Xa fr/\(fr.f=-1\/∃(j:Nat) (fl:Fl),fr.f=(j:Int)/\m'.fl[j]? =Xa fl)/\0<=fr.x/\fr.x<1000:=by
 obtain⟨e1,e2⟩:=used_A1 h;subst e1 e2;exact⟨_,rfl,.inl rfl,by decide,by decide⟩
theorem in_A2 {BF:Nat->Nat->Ar->Pg->Bool->Bool × Nat × Ma} (kk:Nat) (m':Ma) (h:Used (maA2 ⟨0,0,0,9,0,0,0,0⟩ Xc) BF 0 0 Xd kk m'):∃fr:Fr,m'.fs[kk]? =Xa fr/\(fr.f=-1\/∃(j:Nat) (fl:Fl),fr.f=(j:Int)/\m'.fl[j]? =Xa fl)/\0<=fr.x/\fr.x<1000:=by
 obtain⟨e1,e2⟩:=used_A2 h;subst e1 e2;exact⟨_,rfl,.inl rfl,by decide,by decide⟩
def JA (i:Nat) (m:Ma) (az:List (Int × Int × List Int)):Prop:=
 (i=0->m=newMa 2 2 0)/\(i=1->m=maA1)/\(i=2->m=maA2 ⟨0,0,0,9,0,0,0,0⟩ Xc)/\(i=3->∃n,az[2]? =Xa (0,n,[9]))
theorem ja_next (w:Xn) (s:Sli) (hn:s.n=1) (hs:RowAt byE w (O s.a s.n s.c) [9]) (i:Nat) (c:Cl) (m:Ma) (az:List (Int × Int × List Int)) (hc: [clA0,clA1 s,clA2][i]? =Xa c) (hl:az.length=i) (hJ:JA i m az):
  maW m=0/\(1<=c.kind/\c.kind<=15)/\∃K,(∀W,Grew w W->Works W m c K)/\∀er n l m' m2,K er n l m'->((er=0/\m2=m')\/(er≠0/\m2=m))->JA (i+1) m2 (az++ [(er,n,l)]):=by
 obtain⟨j0,j1,j2,_⟩:=hJ
 match i,hc,hl,j0,j1,j2 with
 | 0,hc,hl,j0,_,_=>
  cases hc;have e:=j0 rfl;subst e;refine⟨right_A0,by decide,KProc (newMa 2 2 0) 0 (KMap (newMa 2 2 0) clA0),fun W _=>works_map W (newMa 2 2 0) clA0 rfl (by decide) (by decide) (by decide) (by decide) (by decide),fun er n l m' m2 hk hm=>?_⟩
  obtain⟨e1,e2⟩:=map_step hk
  rcases hm with⟨_,e3⟩ | ⟨e3,_⟩
  ·exact⟨(fun h=>nomatch h),(fun _=>by rw[e3,e2]),(fun h=>nomatch h),(fun h=>nomatch h)⟩
  exact absurd e1 e3
 | 1,hc,hl,_,j1,_=>
  cases hc;have e:=j1 rfl;subst e;refine⟨right_A1,by show(1:Int)<=5/\(5:Int)<=15;omega,KProc maA1 0 (KStore maA1 (fun _ _ _ _ _=>(Xd,0,maA1)) (clA1 s) [9]),fun W hW=>works_store W maA1 (clA1 s) [9] _ rfl (by show _<=(3:Int);omega) (by show(3:Int)<=_;omega) (hs.grew hW) (by show(s.n:Int)<=_;omega) (fun V1 W1 hm=>useA_A1 V1 W1 _ hm) in_A1,fun er n l m' m2 hk hm=>?_⟩
  obtain⟨e1,e2⟩:=store_step hn hk
  rcases hm with⟨_,e3⟩ | ⟨e3,_⟩
  ·exact⟨(fun h=>nomatch h),(fun h=>nomatch h),(fun _=>by rw[e3,e2]),(fun h=>nomatch h)⟩
  exact absurd e1 e3
 | 2,hc,hl,_,_,j2=>
  cases hc;have e:=j2 rfl;subst e;refine⟨right_A2 Xc,by decide,KProc (maA2 ⟨0,0,0,9,0,0,0,0⟩ Xc) 0 (KLoad (maA2 ⟨0,0,0,9,0,0,0,0⟩ Xc) (fun _ _ _ _ _=>(Xd,0,maA1)) clA2),fun W hW=>works_load W (maA2 ⟨0,0,0,9,0,0,0,0⟩ Xc) clA2 _ rfl (by decide) (by decide) (by decide) (by decide) (fun V1 W1 hm=>useA_A2 V1 W1 _ hm) in_A2,fun er n l m' m2 hk hm=>?_⟩
  obtain⟨e1,e2⟩:=load_step hk;refine⟨(fun h=>nomatch h),(fun h=>nomatch h),(fun h=>nomatch h),fun _=>⟨n,?_⟩⟩
  rw[aR (by omega),hl,e1,e2]
  rfl
 | i+3,hc,_,_,_,_=>exact absurd hc (by simp)
theorem all_row {α:Type} (E:Elt α) (w:Xn) (l:List α) (cs:Array Xq) (t:TypeId) (n:Nat) (hcs:cs=(l.flatMap E.enc).toArray) (hn:n=l.length) (hb:l.length*E.bytes<=140737488355328):RowAt E (w.alloc (Xk cs t)) (O (Xa ⟨w.heap.size,0,Xb⟩) n n) l:=by
 subst hcs hn;exact⟨⟨_,l.length,rfl,fun h=>(by cases h),fun y hy=>by
  cases hy;exact Cells.top w (l.flatMap E.enc) t rfl⟩,hb⟩
theorem putO_any (p a x:Int) (w:Xn):Xp Tryz.prog 9 #[Xe Xf p,Xe Xf a,Xe Xg x] w fun e w'=>(∃s:Sli,e= Xl (Xi (clL ⟨5,p,a,0,0,0,Xd,Xd,Xd,s⟩).toArray)/\s.n=1/\OwnRow byE w.heap.size w' (O s.a s.n s.c) [x])/\Grew w w':=by
 obtain⟨b,HB⟩:∃b,Xo (w.heap.size=b):=⟨_,rfl⟩;obtain⟨W1,hW1⟩:∃W1,w.alloc (Xk #[Xe Xf 0,Xe Xf 0,Xe Xf 0,Xe Xf 0,Xe Xf 0,Xe Xf 0,Xh Xd,Xh Xd,Xh Xd,O Xb 0 0] 26)=W1:=⟨_,rfl⟩;have G1:=gA hW1
 have X1:=xPT hW1 HB
 have HW1:Xo (_=W1):=hW1;obtain⟨q,HQ⟩:∃q,Xo (W1.heap.size=q):=⟨_,rfl⟩;have HBQ:Xo (b<q):=show _<_ by rw[<-HQ.out];exact X1.out.box.lt
 clear hW1
 go_enter Tryz.func9,Tryz.ntmps9
 go_upto_region 1 with fail;rw[HW1.out,HB.out];clear HW1
 go_wp2_with (refine wp_storeAllT rfl 26 (.tmp 6) (.tmp 11) rfl b rfl [Xe Xf 5,Xe Xf p,Xe Xf a,Xe Xf 0,Xe Xf 0,Xe Xf 0,Xh Xd,Xh Xd,Xh Xd,O (Xa ⟨W1.heap.size,0,Xb⟩) 1 1] rfl (X1.out.grew (grew_alloc _ _)) rfl (by kernel_rfl) (by simp[Value.oneCell']) ?_)
 intro W3 b3 g3 s3;clear s3;have B3:Xo (BoxT W3 b 26 [Xe Xf 5,Xe Xf p,Xe Xf a,Xe Xf 0,Xe Xf 0,Xe Xf 0,Xh Xd,Xh Xd,Xh Xd,O (Xa ⟨W1.heap.size,0,Xb⟩) 1 1]):=b3;have G3:Xo (Grew w W3):=show Grew _ _ from grew_grown (G1.out.trans (grew_alloc _ _)) g3 (by have:=HB.out;omega)
 have R3:Xo (OwnRow byE w.heap.size W3 (O (Xa ⟨W1.heap.size,0,Xb⟩) 1 1) [x]):=show OwnRow _ _ _ _ _ from by
  have h1:OwnRow byE W1.heap.size (W1.alloc (Xk #[Xe Xg x] 5)) (.slice (Xa ⟨W1.heap.size,0,Xb⟩) [x].length 1) [x]:=
   OwnRow.mk' (E:=byE) (nR _) (BoxT.top W1 [Xe Xg x] 5 rfl) (nR _) (by decide) rfl rfl (by show 1*1<=_;omega)
  exact(h1.grown g3 (fun k hk e=>by
   have h2:Xa W1.heap.size=Xa k:=hk;simp only[Option.some.injEq]at h2 e;have:=HBQ.out;have:=HQ.out
   omega)).base (bS G1.out)
 clear b3 g3;go_wp2;refine bodyPost_ret (ret_cell rfl _ rfl B3.out.box Tryz.underlying26 rfl (by kernel_rfl)) rfl ⟨⟨⟨Xa ⟨W1.heap.size,0,Xb⟩,1,1⟩,rfl,rfl,R3.out⟩,G3.out⟩
theorem put_any (p a x:Int) (w:Xn):Xp Tryz.prog 9 #[Xe Xf p,Xe Xf a,Xe Xg x] w fun e w'=>(∃s:Sli,e= Xl (Xi (clL ⟨5,p,a,0,0,0,Xd,Xd,Xd,s⟩).toArray)/\s.n=1/\RowAt byE w' (O s.a s.n s.c) [x])/\Grew w w':=by
 refine(putO_any p a x w).mono ?_;rintro e w' ⟨⟨s,h1,h2,h3⟩,h4⟩;exact⟨⟨s,h1,h2,h3.at⟩,h4⟩
theorem anon_any (a n:Int) (w:Xn):Xp Tryz.prog 8 #[Xe Xf a,Xe Xf n] w fun e w'=>e= Xl (Xi #[Xe Xf 1,Xe Xf 0,Xe Xf a,Xe Xf n,Xe Xf (-1),Xe Xf 0,Xh Xc,Xh Xc,Xh Xd,O Xb 0 0])/\Grew w w':=by
 go_enter Tryz.func8,Tryz.ntmps8
 go_wp2;refine bodyPost_ret (ret_cell rfl _ rfl (Box.top _ [Xe Xf 1,Xe Xf 0,Xe Xf a,Xe Xf n,Xe Xf (-1),Xe Xf 0,Xh Xc,Xh Xc,Xh Xd,O Xb 0 0] _ rfl) Tryz.underlying26 rfl (by kernel_rfl)) rfl ⟨rfl,(show Below _ _ _ from(bR _ _).alloc (nR _) _)⟩
theorem get_any (p a:Int) (w:Xn):Xp Tryz.prog 10 #[Xe Xf p,Xe Xf a] w fun e w'=>e= Xl (Xi #[Xe Xf 4,Xe Xf p,Xe Xf a,Xe Xf 1,Xe Xf 0,Xe Xf 0,Xh Xd,Xh Xd,Xh Xd,O Xb 0 0])/\Grew w w':=by
 go_enter Tryz.func10,Tryz.ntmps10
 go_wp2;refine bodyPost_ret (ret_cell rfl _ rfl (Box.top _ [Xe Xf 4,Xe Xf p,Xe Xf a,Xe Xf 1,Xe Xf 0,Xe Xf 0,Xh Xd,Xh Xd,Xh Xd,O Xb 0 0] _ rfl) Tryz.underlying26 rfl (by kernel_rfl)) rfl ⟨rfl,(show Below _ _ _ from(bR _ _).alloc (nR _) _)⟩
theorem first_any (n:Int) (s:Sli) (x:Int) (xs:List Int) (w:Xn) (h:RowAt byE w (O s.a s.n s.c) (x :: xs)):Xp Tryz.prog 11 #[ansV 0 n s] w fun e w'=>e= Xl (Xe Xg x)/\Grew w w':=by
 have hn:s.n=(x :: xs).length:=h.n;obtain⟨ad,had,hc⟩:=h.rowsAt 0 x rfl;obtain⟨sa,sn,sc⟩:=s;simp only at had hn;subst had hn;unfold ansV;simp only;have hpos:0< (x :: xs).length:=Nat.succ_pos _;obtain⟨ln,HLN⟩:∃ln:Nat,Xo ((x :: xs).length=ln):=⟨_,rfl⟩;rw[HLN.out]at hpos⊢;obtain⟨b,HB⟩:∃b,Xo (w.heap.size=b):=⟨_,rfl⟩;obtain⟨W1,hW1⟩:∃W1,w.alloc (Xk #[Xe Xf 0,Xe Xf n,O (Xa ad) ln sc] 50)=W1:=⟨_,rfl⟩;have G1:=gA hW1
 have A1:=xPT hW1 HB
 have HW1:Xo (_=W1):=hW1;have d0:W1.cell? ad=Xa (Xe Xg x):=by simpa [Addr.add]using hc W1 G1.out 0 _ rfl
 clear hW1 hc h;have hlt:decide ((ln:Int)<1)=Xd:=decide_eq_false (by omega)
 have hl2:(0:Int)< (ln:Int):=by omega
 clear hpos
 go_enter Tryz.func11,Tryz.ntmps11
 go_upto_region 1 with fail;rw[HW1.out,HB.out];clear HW1;have a0:=A1.out.box.c 0 rfl;have a2:=A1.out.box.c 2 rfl;go_wp2;go_ret;exact⟨rfl,G1.out⟩
theorem aliveTop_any (w:Xn):Xp Tryz.prog 6 #[] w fun e w'=>e= Xl (Xh Xc)/\Grew w w':=by
 have HAN:Xo (∀W,Xp Tryz.prog 8 #[Xe Xf 0,Xe Xf 1] W fun e w'=>e= Xl (Xi #[Xe Xf 1,Xe Xf 0,Xe Xf 0,Xe Xf 1,Xe Xf (-1),Xe Xf 0,Xh Xc,Xh Xc,Xh Xd,O Xb 0 0])/\Grew W w'):=fun W=>anon_any 0 1 W
 have HPU:Xo (∀W,Xp Tryz.prog 9 #[Xe Xf 0,Xe Xf 3,Xe Xg 9] W fun e w'=>(∃s:Sli,e= Xl (Xi #[Xe Xf 5,Xe Xf 0,Xe Xf 3,Xe Xf 0,Xe Xf 0,Xe Xf 0,Xh Xd,Xh Xd,Xh Xd,O s.a s.n s.c])/\s.n=1/\RowAt byE w' (O s.a s.n s.c) [9])/\Grew W w'):=fun W=>put_any 0 3 9 W
 have HGE:Xo (∀W,Xp Tryz.prog 10 #[Xe Xf 0,Xe Xf 3] W fun e w'=>e= Xl (Xi #[Xe Xf 4,Xe Xf 0,Xe Xf 3,Xe Xf 1,Xe Xf 0,Xe Xf 0,Xh Xd,Xh Xd,Xh Xd,O Xb 0 0])/\Grew W w'):=fun W=>get_any 0 3 W
 go_enter Tryz.func6,Tryz.ntmps6
 go_wp2_with fail;refine(HAN.out _).mono ?_;rintro e W1 ⟨rfl,g1⟩;have G1:Xo (Grew w W1):=g1;clear g1;go_wp2_with fail;refine(HPU.out _).mono ?_;rintro e W2 ⟨⟨s,rfl,hn,hr⟩,g2⟩;have G2:=dD (G1.out.trans g2);have HN1:Xo (s.n=1):=hn;have R2:Xo (RowAt byE W2 (O s.a s.n s.c) [9]):=hr;clear g2 hn hr;go_wp2_with fail;refine(HGE.out _).mono ?_;rintro e W3 ⟨rfl,g3⟩;have G3:=dD (G2.out.trans g3);have R3:=dD (R2.out.grew g3);clear g3 HAN HPU HGE;have hrow:=all_row clE W3 [clA0,clA1 s,clA2] #[Xe Xf 1,Xe Xf 0,Xe Xf 0,Xe Xf 1,Xe Xf (-1),Xe Xf 0,Xh Xc,Xh Xc,Xh Xd,O Xb 0 0,Xe Xf 5,Xe Xf 0,Xe Xf 3,Xe Xf 0,Xe Xf 0,Xe Xf 0,Xh Xd,Xh Xd,Xh Xd,O s.a s.n s.c,Xe Xf 4,Xe Xf 0,Xe Xf 3,Xe Xf 1,Xe Xf 0,Xe Xf 0,Xh Xd,Xh Xd,Xh Xd,O Xb 0 0] 26 3 rfl rfl (by show 3*80<=_;omega)
 have hpl:=play_any 2 2 0 ⟨by omega,by omega,by omega⟩ _ _ _ hrow (by show 3<=80;omega) JA ⟨fun _=>rfl,(fun h=>nomatch h),(fun h=>nomatch h),(fun h=>nomatch h)⟩ (ja_next _ s HN1.out (R3.out.grew (grew_alloc _ _)))
 go_wp2_with (go_at_call 7;refine hpl.mono ?_)
 clear hpl hrow;rintro e W5 ⟨⟨V,m,ga,ys,az,rfl,hj,hr5,hat⟩,g5⟩;obtain⟨n9,h9⟩:=hj.2.2.2 rfl;obtain⟨x,hx,e1,e2,hr9⟩:=hat 2 _ h9;obtain⟨ad,had,hc⟩:=hr5.rowsAt 2 x hx;cases had;have G5:=dD ((G3.out.trans (grew_alloc _ _)).trans g5);have HR9:Xo (RowAt byE W5 (O x.s.a x.s.n x.s.c) [9]):=hr9;have HC:Xo (∀W,Grew W5 W->W.cell? ⟨ga,6,Xb⟩=Xa (Xe Xf 0)/\W.cell? ⟨ga,7,Xb⟩=Xa (Xe Xf n9)/\W.cell? ⟨ga,8,Xb⟩=Xa (O x.s.a x.s.n x.s.c)):=show∀W,_ from fun W hW=>by
  have e1:x.er=0:=e1;have e2:x.n=n9:=e2;rw[<-e1,<-e2];exact⟨hc W hW 0 _ rfl,hc W hW 1 _ rfl,hc W hW 2 _ rfl⟩
 clear hj hr5 hat g5 h9 hx e1 e2 hr9 hc G3 R3 G1 G2 R2;go_upto_region 2 with fail;obtain⟨W6,hW6⟩:∃W6,W5.alloc (Xk #[O V.f.a V.f.n V.f.c,Xe Xf m.hand,O V.s.a V.s.n V.s.c,O V.sb.a V.sb.n V.sb.c,O V.sq.a V.sq.n V.sq.c,O V.db.a V.db.n V.db.c,O V.dq.a V.dq.n V.dq.c,O V.fl.a V.fl.n V.fl.c,Xe Xf m.cnt,O V.ca.a V.ca.n V.ca.c,O V.sp.a V.sp.n V.sp.c] 42)=W6:=⟨_,rfl⟩;have g6:=gP hW6
 obtain⟨d0,d1,d2⟩:=HC.out W6 g6;have G6:=dD (G5.out.trans g6);have hfi:=first_any n9 x.s 9 [] W6 (HR9.out.grew g6);unfold ansV at hfi;rw[hW6];clear hW6 g6
 go_wp2_with (go_at_call 11;refine hfi.mono ?_)
 clear hfi d0 d1 d2;rintro e W7 ⟨rfl,g7⟩;have G7:=dD (G6.out.trans g7);clear g7;go_wp2;go_ret;exact⟨rfl,G7.out⟩
end
end Go.Proofs.YtempiodbdhiboaaGreat
