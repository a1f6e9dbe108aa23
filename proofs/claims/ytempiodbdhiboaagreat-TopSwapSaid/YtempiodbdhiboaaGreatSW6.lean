import Derived.Test.YtempiodbdhiboaaGreatSW5
import Derived.Deep.Cut
import Derived.Deep.DeepCutAuto
namespace Go.Proofs.YtempiodbdhiboaaGreat
open Go.Value renaming slice→O,int→Xe,bool→Xh,agg→Xi,pointer→Xj,tuple→Xm
open Go.IntKind renaming i64→Xf,u8→Xg
open Go.Obj renaming cells→Xk
open Go.Ending renaming returned→Xl
open Go renaming World→Xn,Calls→Xp,Value→Xq
open Go.RowKit renaming Hid→Xo
open Option renaming some→Xa,none→Xb
open Bool renaming true→Xc,false→Xd
open List renaming replicate→Xr
open Go.Act renaming put→Xs
open _root_.List renaming any_eq_true→Xt,length_set→Xu,take_of_length_le→Xw,getElem?_of_mem→Xz,mem_range→Yb,ext_getElem?→Yd,take_add_one→Ye,getElem?_map→Yf,countP_cons→Yg,findIdx_getElem→Yj,mem_of_mem_take→Yk,take→Yl,drop→Ym,mem_singleton→Yn,any_eq_false→Yp
open _root_.Nat renaming mod_eq_of_lt→Xv,mod_lt→Xx,mod_add_mod→Ya,lt_of_lt_of_le→Yc,add_zero→Yh,le_of_ble_eq_true→Yi,sub_self→Yo
open _root_.Bool renaming and_eq_true→Xy
set_option maxRecDepth 100000
set_option maxHeartbeats 4000000
section
open Go.RowKit
def nextGo:Nat->List Fr->Nat->List Fr × Nat × Int
 | 0,fs,h=>(fs,h,-1)
 | m+1,fs,h=>if idle (fs.getD h fr0)then(fs.set h (frU (fs.getD h fr0)),(h+1) % fs.length,(h:Int))else nextGo m (fs.set h (frU (fs.getD h fr0))) ((h+1) % fs.length)
def nextR (fs:List Fr) (h:Int):List Fr × Nat × Int:=nextGo (2*fs.length) fs h.toNat
def nextF (fs:List Fr) (h:Int):List Fr:=if memW fs h=0 then(nextR fs h).1 else []
def nextH (fs:List Fr) (h:Int):Int:=if memW fs h=0 then((nextR fs h).2.1:Int)else 0
def nextI (fs:List Fr) (h:Int):Int:=if memW fs h=0 then(nextR fs h).2.2 else 0
theorem nextBO (a:Option Addr) (c:Nat) (fs:List Fr) (i0:Nat) (w:Xn) (hv:frRowAt w (O a fs.length c) fs) (hz:memW fs (i0:Int)=0):
  Xp Tryz.prog 198 #[Xi #[O a fs.length c,Xe Xf (i0:Int)]] w fun e w'=>∃b,e= Xl (Xm #[Xi #[b,Xe Xf ((nextGo (2*fs.length) fs i0).2.1:Int)],Xe Xf (nextGo (2*fs.length) fs i0).2.2,Xe Xf 0])/\frOwnRow w.heap.size w' b (nextGo (2*fs.length) fs i0).1/\Grew w w':=by
 have HV:Xo (frRowAt w (O a fs.length c) fs):=hv;have hw:∀W,Grew w W->Xp Tryz.prog 58 #[Xi #[O a fs.length c,Xe Xf (i0:Int)]] W fun e w'=>e= Xl (Xe Xf (memW fs (i0:Int)))/\Grew W w':=fun W hW=>by rw[hz];exact wrongMem_ok a c fs _ W (HV.out.grew hW) hz
 have ho:∀W,Grew w W->Xp Tryz.prog 51 #[Xi #[O a fs.length c,Xe Xf (i0:Int)]] W fun e w'=>∃b,e= Xl (Xi #[b,Xe Xf (i0:Int)])/\frOwnRow W.heap.size w' b fs/\Grew W w':=fun W hW=>ownMem_any a c fs _ W (HV.out.grew hW)
 obtain⟨h40,_,_,hhand⟩:=memW_zero hz;have eg:=enters_of Tryz.func228 (by kernel_rfl) rfl
 clear hv;obtain⟨n,HN⟩:∃n,Xo (fs.length=n):=⟨_,rfl⟩;simp only[HN.out,hz]at hw HV ho h40 hhand⊢;clear hz;obtain⟨R,HRR⟩:∃R,Xo (nextGo (2*n) fs i0=R):=⟨_,rfl⟩;rw[HRR.out];obtain⟨W0,hW0⟩:∃W0,(w.alloc (Xk #[O a n c,Xe Xf (i0:Int)] 29)).alloc (Xk #[O Xb 0 0,Xe Xf 0] 29)=W0:=⟨_,rfl⟩;have HG0:=gD2 hW0
 have X0:=x2a hW0
 have X2:=x2b hW0
 have HW0:Xo (_=W0):=hW0;clear hW0
 go_enter Tryz.func198,Tryz.ntmps198
 go_upto_region 1 with fail;rw[HW0.out];have e0:=X0.out.c 0 rfl;have e1:=X0.out.c 1 rfl;go_wp2_with fail;refine(hw _ HG0.out).mono ?_;rintro e W1 ⟨rfl,g1⟩;have G1:Xo (Grew W0 W1):=g1;clear g1 e0 e1 hw;have e0:=(X0.out.grew G1.out).c 0 rfl;have e1:=(X0.out.grew G1.out).c 1 rfl;go_wp2_with fail;refine(ho _ (HG0.out.trans G1.out)).mono ?_;rintro e W4 ⟨b,rfl,hown,g4⟩;obtain⟨av,cv,rfl⟩:=hown.form;rw[HN.out]at hown⊢;have OW:Xo (frOwnRow W1.heap.size W4 (O av n cv) fs):=hown;have G4:=dD (G1.out.trans g4);have g34:Xo (W1.heap.size<=W4.heap.size):=bS g4;have HX2:Xo (w.heap.size+1<W1.heap.size):=(X2.out.grew G1.out).lt;have HWW:Xo (w.heap.size<=W1.heap.size):=bS (HG0.out.trans G1.out);clear hown g4 e0 e1 ho;obtain⟨W5,hW5⟩:∃W5,W4.alloc (Xk #[O av n cv,Xe Xf (i0:Int)] 29)=W5:=⟨_,rfl⟩;have XO:=xT hW5
 have OW5:Xo (frOwnRow W1.heap.size W5 (O av n cv) fs):=show frOwnRow _ _ _ _ by rw[<-hW5];exact OW.out.grew (grew_alloc _ _)
 have X25:Xo (Box W5 (w.heap.size+1) [O Xb 0 0,Xe Xf 0]):=show Box _ _ _ by rw[<-hW5];exact(X2.out.grew G4.out).alloc _
 have G5:Xo (Grew w W5):=show Grew _ _ by rw[<-hW5];exact(HG0.out.trans G4.out).trans (grew_alloc _ _)
 have HW5:Xo (_=W5):=hW5;clear hW5;go_wp2;rw[HW5.out]
 go_loopg [8,9,23] (2*n) (fun gg _ _ s23 wr=>∃(kk hk:Nat) (fk:List Fr),kk<=2*n/\2*n - kk<=gg/\s23= Xe Xf kk/\hk<max n 1/\Xo (fk.length=n)/\Xo (Box wr W4.heap.size [O av n cv,Xe Xf (hk:Int)])/\Xo (frOwnRow W1.heap.size wr (O av n cv) fk)/\Xo (Below W1.heap.size W5 wr)/\Xo (nextGo (2*n - kk) fk hk=R))
 case atStart=>exact⟨0,i0,fs,nZ _,by omega,rfl,by omega,HN.out,XO.out.box,OW5.out,bR _ _,HRR.out⟩
 obtain⟨kk,hk,fk,hkk,hg,rfl,hhk,HL,BO,OF,BL,A⟩:=hrel;have hx2:=HX2.out;have hww:=HWW.out;have X2r:Xo (Box wr (w.heap.size+1) [O Xb 0 0,Xe Xf 0]):=X25.out.below BL.out hx2;have GW:Xo (Grew w wr):=show Grew w wr from Below.trans G5.out (BL.out.mono hww)
 by_cases hlt:kk<2*n
 ·have hltz:(kk:Int)<2*(n:Int):=by omega
  obtain⟨g,cg,hs⟩:=OF.out.formS (by rw[HL.out];omega)
  rw[HL.out]at hs;cases hs;obtain⟨q,HQ⟩:∃q,Xo (fk[hk]? =Xa q):=⟨_,gE (by rw[HL.out];omega)⟩
  have hgl:=OF.out.lt g rfl;have HNE:Xo (W4.heap.size≠g):=(OW5.out.ne XO.out (by decide) g rfl)
  have hpass:=pass_any W4.heap.size g n cv hk W1.heap.size W1.heap.size fk q wr HL.out h40 HQ.out BO.out OF.out HNE.out g34.out hgl.1;have hgd:fk.getD hk fr0=q:=by rw[gD,HQ.out];rfl
  have HST:Xo (nextGo (2*n - kk) fk hk=if idle q then(fk.set hk (frU q),(hk+1) % n,(hk:Int))else nextGo (2*n -(kk+1)) (fk.set hk (frU q)) ((hk+1) % n)):=show _=_ by
   rw[show 2*n - kk=(2*n -(kk+1))+1 by omega,nextGo,hgd,HL.out]
  clear hgd
  cases hi:idle q with
  | true=>
   rw[hi]at hpass;have HF:Xo (R=(fk.set hk (frU q),(hk+1) % n,(hk:Int))):=show _=_ by rw[<-A.out,HST.out,hi,if_pos rfl]
   clear hi HST A
   go_wp2_with (go_at_call 228;refine hpass.mono ?_;rintro e W6 ⟨rfl,b6,o6,l6⟩;have r0:=(X2r.out.below l6 hx2).c 0 rfl;have r1:=(X2r.out.below l6 hx2).c 1 rfl;have rf:=(X2r.out.below l6 hx2).f;have o0:=b6.c 0 rfl;have o1:=b6.c 1 rfl;have O6:Xo (frOwnRow W1.heap.size W6 (O (Xa ⟨g,0,Xb⟩) n cv) (fk.set hk (frU q))):=o6;have GW6:Xo (Grew w W6):=show Grew w W6 from Below.trans GW.out (l6.mono hww);clear o6 l6)
   refine bodyPost_ret (v:= Xm #[Xi #[O (Xa ⟨g,0,Xb⟩) n cv,Xe Xf (((hk+1) % n:Nat):Int)],Xe Xf (hk:Int),Xe Xf 0]) (by simp[results,Tryz.results198,go_sem, *]) rfl ⟨O (Xa ⟨g,0,Xb⟩) n cv,?_,?_,?_⟩
   ·rw[HF.out]
   ·rw[HF.out];exact((O6.out.setCell (a:=⟨w.heap.size+1,0,Xb⟩) (by show w.heap.size+1<_;omega) _).setCell (a:=⟨w.heap.size+1,1,Xb⟩) (by show w.heap.size+1<_;omega) _).base hww
   exact grew_set (grew_set GW6.out (by simp) _) (by simp) _
  | false=>
   rw[hi]at hpass;have HA:Xo (nextGo (2*n -(kk+1)) (fk.set hk (frU q)) ((hk+1) % n)=R):=show _=_ by rw[<-A.out,HST.out,hi];rfl
   clear hi HST A
   go_wp2_with (go_at_call 228;refine hpass.mono ?_;rintro e W6 ⟨rfl,b6,o6,l6⟩;have B6:Xo (Box W6 W4.heap.size [O (Xa ⟨g,0,Xb⟩) n cv,Xe Xf (((hk+1) % n:Nat):Int)]):=b6;have O6:Xo (frOwnRow W1.heap.size W6 (O (Xa ⟨g,0,Xb⟩) n cv) (fk.set hk (frU q))):=o6;have L6:Xo (Below W1.heap.size W5 W6):=Below.trans BL.out l6;clear b6 o6 l6)
   go_roundg (2*n -(kk+1))
   case measure=>omega
   exact⟨kk+1,(hk+1) % n,fk.set hk (frU q),by omega,by omega,by go_num,(by have:=Xx (hk+1) (show 0<n by omega);omega),(show(fk.set hk (frU q)).length=n by rw[Xu];exact HL.out),B6.out,O6.out,L6.out,HA.out⟩
 have hltz:¬(kk:Int)<2*(n:Int):=by omega
 have:kk=2*n:=by omega
 subst this;have HF:Xo (R=(fk,hk,-1)):=show _=_ by rw[<-A.out,Yo];rfl
 have r0:=X2r.out.c 0 rfl;have r1:=X2r.out.c 1 rfl;have rf:=X2r.out.f;have o0:=BO.out.c 0 rfl;have o1:=BO.out.c 1 rfl;clear A;go_wp2;refine bodyPost_ret (v:= Xm #[Xi #[O av n cv,Xe Xf (hk:Int)],Xe Xf (-1),Xe Xf 0]) (by simp[results,Tryz.results198,go_sem, *]) rfl ⟨O av n cv,?_,?_,?_⟩
 ·rw[HF.out]
 ·rw[HF.out];exact((OF.out.setCell (a:=⟨w.heap.size+1,0,Xb⟩) (by show w.heap.size+1<_;omega) _).setCell (a:=⟨w.heap.size+1,1,Xb⟩) (by show w.heap.size+1<_;omega) _).base hww
 exact grew_set (grew_set GW.out (by simp) _) (by simp) _
theorem nextO_ok (a:Option Addr) (c:Nat) (fs:List Fr) (h:Int) (w:Xn) (hv:frRowAt w (O a fs.length c) fs) (hz:memW fs h=0):
  Xp Tryz.prog 198 #[Xi #[O a fs.length c,Xe Xf h]] w fun e w'=>∃b,e= Xl (Xm #[Xi #[b,Xe Xf (nextH fs h)],Xe Xf (nextI fs h),Xe Xf (memW fs h)])/\frOwnRow w.heap.size w' b (nextF fs h)/\Grew w w':=by
 unfold nextH nextI nextF nextR;rw[if_pos hz,if_pos hz,if_pos hz];obtain⟨i0,rfl⟩:=Int.eq_ofNat_of_zero_le (memW_zero hz).2.2.1;rw[tN,hz];exact nextBO a c fs i0 w hv hz
def nextM (m:Ma):Ma:={ m with fs:=nextF m.fs m.hand,hand:=nextH m.fs m.hand }
theorem cwNext {w0 w:Xn} {p:Nat} {V:MaV} {m:Ma} (h:ChW w0 p w V m) (hz:memW m.fs m.hand=0):
  Xp Tryz.prog 198 #[Xi #[O V.f.a V.f.n V.f.c,Xe Xf m.hand]] w fun e w'=>∃b:Sli,e= Xl (Xm #[Xi #[O b.a b.n b.c,Xe Xf (nextH m.fs m.hand)],Xe Xf (nextI m.fs m.hand),Xe Xf 0])/\OwnRow frmE w.heap.size w' (O b.a b.n b.c) (nextF m.fs m.hand)/\Grew w w':=by
 obtain⟨n1,-⟩:=h.at.ns;have k:=h.at.fs;rw[n1]at k⊢;refine(nextO_ok V.f.a V.f.c m.fs m.hand w k hz).mono ?_;rintro e w' ⟨b,rfl,nr,g⟩;have nr':OwnRow frmE w.heap.size w' b (nextF m.fs m.hand):=nr;obtain⟨a,c,rfl⟩:=nr'.form;rw[hz];exact⟨⟨a,_,c⟩,rfl,nr,g⟩
theorem next_none:∀(m:Nat) (fs:List Fr) (h:Nat),h<fs.length->(∀q∈fs,q=frF)->nextGo m fs h=(fs,(h+m) % fs.length,-1)
 | 0,fs,h,hh,_=>by
  rw[nextGo,Yh,Xv hh]
 | m+1,fs,h,hh,hf=>by
  have hq:fs.getD h fr0=frF:=by
   rw[gD,gE hh];exact hf _ (List.getElem_mem hh)
  have hs:fs.set h (frU frF)=fs:=by
   apply Yd
   intro j
   by_cases hj:j=h
   ·subst hj;rw[sF hh,gE hh,hf _ (List.getElem_mem hh)];rfl
   rw[sN (Ne.symm hj)]
  rw[nextGo,hq,show idle frF=Xd from rfl,hs]
  rw[if_neg (by decide),next_none m fs ((h+1) % fs.length) (Xx _ (by omega)) hf]
  rw[Ya,Nat.add_assoc,Nat.add_comm 1 m]
theorem free_is {q:Fr} (h1:frW q=0) (hr:q.r=0):q=frF:=by
 unfold frW at h1
 by_cases h2:(inB q.r 1001 && inB q.x 12)=Xd
 ·rw[if_pos h2]at h1;omega
 rw[if_neg h2]at h1
 by_cases h3:(!(q.f == -1) && !inB q.f 5)=Xc
 ·rw[if_pos h3]at h1;omega
 rw[if_neg h3]at h1
 by_cases h4:(q.r == 0 && !frEqB q frF || q.f == -1 && !(q.x == 0))=Xc
 ·rw[if_pos h4]at h1;omega
 simp[hr]at h4
 exact frEqB_eq h4.1
def held (q:Fr):Bool:=decide (0<q.r)
theorem nextR_none {fs:List Fr} {h:Int} (hz:memW fs h=0) (hn:fs.any held=Xd):nextR fs h=(fs,h.toNat,-1):=by
 obtain⟨h1,h2,h3,h4⟩:=memW_zero hz;have hall:∀q∈fs,q=frF:=fun q hq=>by
  have h5:=Yp.1 hn q hq;unfold held at h5;have h6:=(frW_zero (h2 q hq)).1;exact free_is (h2 q hq) (by simp at h5;omega)
 unfold nextR
 by_cases hl:fs.length=0
 ·rw[hl];rfl
 rw[next_none _ fs h.toNat (by omega) hall,Nat.add_comm,Nat.two_mul,Nat.add_assoc,Nat.add_mod_left,Nat.add_mod_left,Xv (by omega)]
def Marks (fs gs:List Fr):Prop:=gs.length=fs.length/\∀(i:Nat) q,fs[i]? =Xa q->∃q',gs[i]? =Xa q'/\(q'=q\/q'=frU q)
theorem Marks.refl (fs:List Fr):Marks fs fs:=⟨rfl,fun _ q h=>⟨q,h,.inl rfl⟩⟩
theorem Marks.set {fs gs:List Fr} (h:Marks fs gs) (i:Nat):Marks fs (gs.set i (frU (gs.getD i fr0))):=by
 refine⟨by rw[Xu];exact h.1,fun j q hj=>?_⟩
 obtain⟨q',h1,h2⟩:=h.2 j q hj
 by_cases e:j=i
 ·subst e;have hl:j<gs.length:=(gS.1 h1).1;refine⟨frU q',?_,?_⟩
  ·rw[sF hl,gD,h1];rfl
  right
  rcases h2 with rfl | rfl <;> rfl
 exact⟨q',by rw[sN (Ne.symm e)];exact h1,h2⟩
theorem nextGo_stop:∀(m:Nat) (fs gs:List Fr) (h:Nat),Marks fs gs->h<gs.length->∀(gs':List Fr) (h':Nat) (r:Int),nextGo m gs h=(gs',h',r)->Marks fs gs'/\h'<gs'.length/\(r=-1\/∃(k:Nat) (q:Fr),r=(k:Int)/\fs[k]? =Xa q/\0<q.r/\gs'[k]? =Xa (frU q)/\h'=(k+1) % fs.length)
 | 0,fs,gs,h,hm,hh,gs',h',r,e=>by
  rw[nextGo]at e;cases e;exact⟨hm,hh,.inl rfl⟩
 | m+1,fs,gs,h,hm,hh,gs',h',r,e=>by
  rw[nextGo]at e;have hm':=hm.set h;have hl':(h+1) % gs.length< (gs.set h (frU (gs.getD h fr0))).length:=by
   rw[Xu];exact Xx _ (by omega)
  by_cases hi:idle (gs.getD h fr0)=Xc
  ·rw[if_pos hi]at e;cases e;refine⟨hm',hl',.inr ?_⟩;have hfl:h<fs.length:=by rw[<-hm.1];exact hh
   obtain⟨q',h1,h2⟩:=hm.2 h fs[h] (gE hfl);have hg:gs.getD h fr0=q':=by rw[gD,h1];rfl
   rw[hg]at hi;have hr:0<q'.r:=by unfold idle at hi;simp at hi;exact hi.1
   refine⟨h,fs[h],rfl,gE hfl,?_,?_,by rw[hm.1]⟩
   ·rcases h2 with rfl | rfl
    ·exact hr
    exact hr
   rw[sF hh,hg]
   rcases h2 with rfl | rfl <;> rfl
  rw[if_neg hi]at e;exact nextGo_stop m fs _ _ hm' hl' gs' h' r e
theorem held_count {fs:List Fr} (h0:∀q∈fs,0<=q.r):fs.countP held+freeN fs=fs.length:=by
 induction fs with
 | nil=>rfl
 | cons a l ih=>
  have h1:=ih fun q hq=>h0 q (by simp[hq])
  have h2:=h0 a (by simp)
  unfold freeN at h1⊢;rw[Yg,Yg,List.length_cons]
  by_cases h3:a.r=0
  ·rw[if_neg (by unfold held;simp;omega),if_pos (by simp[h3])]
   omega
  rw[if_pos (by unfold held;simp;omega),if_neg (by simp[h3])]
  omega
theorem nextGo_hit:∀(d m:Nat) (gs:List Fr) (h:Nat),h<gs.length->d<m->held (gs.getD ((h+d) % gs.length) fr0)=Xc->(gs.getD ((h+d) % gs.length) fr0).u=Xd->(nextGo m gs h).2.2≠-1
 | d,0,_,_,_,hm,_,_=>by omega
 | d,m+1,gs,h,hh,hm,hd,hu=>by
  rw[nextGo]
  by_cases hi:idle (gs.getD h fr0)=Xc
  ·rw[if_pos hi];simp only;omega
  rw[if_neg hi]
  cases d with
  | zero=>
   rw[Yh,Xv hh]at hd hu;unfold idle at hi;unfold held at hd;rw[hd,hu]at hi;exact absurd rfl hi
  | succ d=>
   have hl:(gs.set h (frU (gs.getD h fr0))).length=gs.length:=Xu;have hne:∀i,(gs.set h (frU (gs.getD h fr0))).getD i fr0=if i=h/\h<gs.length then frU (gs.getD h fr0)else gs.getD i fr0:=fun i=>by
    rw[gD]
    by_cases e:i=h
    ·subst e;rw[if_pos ⟨rfl,hh⟩,sF hh];rfl
    rw[if_neg (by omega),sN (Ne.symm e),<-gD]
   have e1:((h+1) % gs.length+d) % gs.length=(h+(d+1)) % gs.length:=by rw[Ya,show h+1+d=h+(d+1) by omega]
   refine nextGo_hit d m _ _ (by rw[hl];exact Xx _ (by omega)) (by omega) ?_ ?_
   ·rw[hl,e1,hne]
    split
    ·rename_i e
     rw[e.1]at hd;exact hd
    exact hd
   rw[hl,e1,hne]
   split
   ·rfl
   exact hu
theorem nextGo_hit2:∀(d m:Nat) (gs:List Fr) (h:Nat),h<gs.length->d+gs.length<m->held (gs.getD ((h+d) % gs.length) fr0)=Xc->(nextGo m gs h).2.2≠-1
 | d,0,_,_,_,hm,_=>by omega
 | d,m+1,gs,h,hh,hm,hd=>by
  rw[nextGo]
  by_cases hi:idle (gs.getD h fr0)=Xc
  ·rw[if_pos hi];simp only;omega
  rw[if_neg hi];have hl:(gs.set h (frU (gs.getD h fr0))).length=gs.length:=Xu;have hne:∀i,(gs.set h (frU (gs.getD h fr0))).getD i fr0=if i=h/\h<gs.length then frU (gs.getD h fr0)else gs.getD i fr0:=fun i=>by
   rw[gD]
   by_cases e:i=h
   ·subst e;rw[if_pos ⟨rfl,hh⟩,sF hh];rfl
   rw[if_neg (by omega),sN (Ne.symm e),<-gD]
  cases d with
  | zero=>
   rw[Yh,Xv hh]at hd;have e1:((h+1) % gs.length+(gs.length - 1)) % gs.length=h:=by
    rw[Ya,show h+1+(gs.length - 1)=h+gs.length by omega,Nat.add_mod_right,Xv hh]
   refine nextGo_hit (gs.length - 1) m _ _ (by rw[hl];exact Xx _ (by omega)) (by omega) ?_ ?_
   ·rw[hl,e1,hne,if_pos ⟨rfl,hh⟩];exact hd
   rw[hl,e1,hne,if_pos ⟨rfl,hh⟩];rfl
  | succ d=>
   have e1:((h+1) % gs.length+d) % gs.length=(h+(d+1)) % gs.length:=by rw[Ya,show h+1+d=h+(d+1) by omega]
   refine nextGo_hit2 d m _ _ (by rw[hl];exact Xx _ (by omega)) (by rw[hl];omega) ?_
   rw[hl,e1,hne]
   split
   ·rename_i e
    rw[e.1]at hd;exact hd
   exact hd
theorem next_first {fs:List Fr} {h:Int} (hz:memW fs h=0):
  (nextI fs h=-1/\freeN fs=fs.length)\/∃(k:Nat) (q:Fr),nextI fs h=(k:Int)/\fs[k]? =Xa q/\0<q.r/\Marks fs (nextF fs h)/\(nextF fs h)[k]? =Xa (frU q)/\nextH fs h=(((k+1) % fs.length:Nat):Int):=by
 obtain⟨h40,hfw,hh0,hh1⟩:=memW_zero hz;have hI:nextI fs h=(nextR fs h).2.2:=if_pos hz;have hF:nextF fs h=(nextR fs h).1:=if_pos hz;have hH:nextH fs h=((nextR fs h).2.1:Int):=if_pos hz
 cases hn:fs.any held with
 | false=>
  left;rw[hI,nextR_none hz hn];refine⟨rfl,?_⟩;have h1:=held_count (fs:=fs) (fun q hq=>(frW_zero (hfw q hq)).1)
  have h2:fs.countP held=0:=by
   rw[List.countP_eq_zero];intro a ha;have:=Yp.1 hn a ha
   simpa using this
  omega
 | true=>
  right;obtain⟨q0,hq0,hqh⟩:=Xt.1 hn;obtain⟨i,hi⟩:=Xz hq0;have hil:i<fs.length:=(gS.1 hi).1;have hht:h.toNat<fs.length:=by omega
  obtain⟨gs',h',r,e⟩:∃gs' h' r,nextGo (2*fs.length) fs h.toNat=(gs',h',r):=⟨_,_,_,rfl⟩;have hne:r≠-1:=by
   have hhit:=nextGo_hit2 ((i+fs.length - h.toNat) % fs.length) (2*fs.length) fs h.toNat hht (by have:=Xx (i+fs.length - h.toNat) (show 0<fs.length by omega);omega) (by
    rw[Nat.add_mod_mod,show h.toNat+(i+fs.length - h.toNat)=i+fs.length by omega,Nat.add_mod_right,Xv hil,gD,hi]
    exact hqh)
   rw[e]at hhit;exact hhit
  obtain⟨hm,hl,hs⟩:=nextGo_stop (2*fs.length) fs fs h.toNat (Marks.refl fs) hht gs' h' r e
  rcases hs with hs | ⟨k,q,rfl,hq,hr,hg,rfl⟩
  ·exact absurd hs hne
  refine⟨k,q,?_,hq,hr,?_,?_,?_⟩
  ·rw[hI];unfold nextR;rw[e]
  ·rw[hF];unfold nextR;rw[e];exact hm
  ·rw[hF];unfold nextR;rw[e];exact hg
  rw[hH];unfold nextR;rw[e]
theorem enterL_put {e:En} (he:enW e=0):∀(l:List (Nat × Nat)) {m:Ma},(∀s∈m.sp,TbOk s.tb)->(∀x∈l,x.1<m.sp.length/\x.2<64)->enterL m e l=putAll m e l
 | [],m,_,_=>rfl
 | x :: l,m,ht,hl=>by
  obtain⟨h1,h2⟩:=hl x (List.mem_cons_self ..)
  show enterL (enterM m x.1 (x.2:Int) e) e l=putAll (putE m x.1 x.2 e) e l
  rw[enter_put ht h1 h2 he];exact enterL_put he l (put_tabs ht he) (fun y hy=>by rw[put_len];exact hl y (List.mem_cons_of_mem _ hy))
theorem putAll_sp {e:En}:∀(l:List (Nat × Nat)) {m m0:Ma},m.sp=m0.sp->(putAll m e l).sp=(putAll m0 e l).sp
 | [],_,_,h=>h
 | x :: l,m,m0,h=>putAll_sp l (m:=putE m x.1 x.2 e) (m0:=putE m0 x.1 x.2 e) (by unfold putE;simp only;rw[h])
theorem holdE_all {m:Ma} (h:Rt m) {k:Nat} {fr:Fr} (hk:m.fs[k]? =Xa fr) (hr:fr.r≠0):0<=fr.r/\fr.r<=1000/\holdE m.fs m.hand (k:Int) (-fr.r)=0:=by
 obtain⟨r0,r1⟩:=frW_zero ((memW_zero h.parts.1).2.1 fr (mG hk));refine⟨r0,r1,?_⟩;have hgd:m.fs.getD k fr0=fr:=by rw[gD,hk];rfl
 have hil:=(gS.1 hk).1;unfold holdE;rw[if_pos h.parts.1,tN,hgd];have hb:(inB (k:Int) m.fs.length && !(fr.r == 0))=Xc:=by
  simp[inB,hr]
  omega
 rw[hb,if_pos rfl,if_pos (by omega)]
theorem leave_is {m0 m:Ma} (h:Rt m0) (hs:m.sp=m0.sp) (hf:m.fs=m0.fs) (hh:m.hand=m0.hand) {k:Nat} {fr:Fr} (hk:m0.fs[k]? =Xa fr) (hr:fr.r≠0) {e:En} (he:enW e=0):
  leaveM m k fr.r e={ m with fs:=m.fs.set k frF,sp:=m.sp.map (moveSp (k:Int) e) }:=by
 obtain⟨_,_,h0⟩:=holdE_all h hk hr;have ht:∀s∈m.sp,TbOk s.tb:=fun s hs'=>h.tb (by rw[<-hs];exact hs')
 have hhd:hdrTo m 1 (k:Int) m.sp.length=hdrTo m0 1 (k:Int) m0.sp.length:=by unfold hdrTo;rw[hs]
 have hmem:∀x∈hdrTo m0 1 (k:Int) m0.sp.length,x.1<m.sp.length/\x.2<64:=fun x hx=>by
  obtain⟨a1,a2,_⟩:=(hdrTo_mem (m:=m0) (by decide) (nR _)).1 hx
  exact⟨by rw[hs];exact a1,a2⟩
 have hsp:(putAll m e (hdrTo m0 1 (k:Int) m0.sp.length)).sp=m.sp.map (moveSp (k:Int) e):=by
  rw[putAll_sp _ hs,leave_eq h he,hs]
 have hgd:m0.fs.getD k fr0=fr:=by rw[gD,hk];rfl
 unfold leaveM;rw[hhd,enterL_put he _ ht hmem,putAll_rest];rw[<-hf,<-hh]at h0;unfold holdF;rw[if_pos h0,tN,hf,hgd,hsp];have:frH fr (-fr.r)=frF:=by unfold frH;rw[if_pos (by omega)]
 rw[this]
def seesB (k:Nat) (fr:Fr) (l:List (Nat × Nat)) (q:Nat) (s:Sp) (a:Ar) (n:Nat):Bool:=decide ((oneOf a n).file=fr.f) && decide ((oneOf a n).page=fr.x) && !(l.contains (q,n)) &&(decide ((flatN s n).kind=0) || isE (flatN s n) 1 (k:Int))
def seenB (m:Ma) (k:Nat) (fr:Fr) (l:List (Nat × Nat)):Bool:=(List.range m.sp.length).any fun q=>(m.sp.getD q ⟨Xd,[],[]⟩).ars.any fun a=>(List.range 64).any fun n=>arIn a n && seesB k fr l q (m.sp.getD q ⟨Xd,[],[]⟩) a n
theorem seesB_iff {k:Nat} {fr:Fr} {l:List (Nat × Nat)} {q:Nat} {s:Sp} {a:Ar} {n:Nat}:seesB k fr l q s a n=Xc↔SeesK k fr l q s a n:=by
 unfold seesB SeesK
 simp[and_assoc]
theorem seenB_iff {m:Ma} {k:Nat} {fr:Fr} {l:List (Nat × Nat)}:seenB m k fr l=Xc↔∃(q:Nat) (s:Sp) (i:Nat) (a:Ar) (n:Nat),m.sp[q]? =Xa s/\s.ars[i]? =Xa a/\arIn a n=Xc/\n<64/\SeesK k fr l q s a n:=by
 unfold seenB;constructor
 ·intro h;obtain⟨q,hq,h⟩:=Xt.1 h;obtain⟨a,ha,h⟩:=Xt.1 h;obtain⟨n,hn,h⟩:=Xt.1 h;obtain⟨i,hi⟩:=Xz ha;have hql:=Yb.1 hq;have hs:=gE hql;rw[Sp.getD_of hs]at hi h;rw[Xy]at h;exact⟨q,_,i,a,n,hs,hi,h.1,Yb.1 hn,seesB_iff.1 h.2⟩
 rintro⟨q,s,i,a,n,h1,h2,h3,h4,h5⟩;refine Xt.2 ⟨q,Yb.2 (gS.1 h1).1,?_⟩;rw[Sp.getD_of h1];refine Xt.2 ⟨a,mG h2,Xt.2 ⟨n,Yb.2 h4,?_⟩⟩;rw[Xy];exact⟨h3,seesB_iff.2 h5⟩
def cutF (m:Ma) (fr:Fr):List Int:=cutP (pgL fr.p) fr.x (szAt m fr.f)
def slotN (m:Ma):Nat:=m.sl.findIdx isZ
def swapR (m:Ma) (k:Nat) (fr:Fr):Bool × Ma:=if slotN m<m.sl.length then(Xc,toSlot m k (slotN m) fr.r (writeB m.sb m.sq) (writeQ m.sq (slotN m:Int) (pgL fr.p)))else(Xd,m)
def diskR (m:Ma) (k:Nat) (fr:Fr) (l:List (Nat × Nat)):Bool × Ma:=
 if cutF m fr≠pgL fr.p/\seenB m k fr l=Xc then(Xd,m)
 else if fr.d=Xc\/diskL m fr.f fr.x≠cutF m fr then
  (if blkE m.fl m.cnt fr.f fr.x=0 then(Xc,toFile (wrM m (cutF m fr) fr.f fr.x) k)else if diskL m fr.f fr.x=cutF m fr then(Xc,toFile m k)else(Xd,m))
 else(Xc,toFile m k)
def emptyR (m:Ma) (k:Nat) (fr:Fr) (l:List (Nat × Nat)):Bool × Ma:=if fr.f=-1 then swapR m k fr else diskR m k fr l
def freeGo:Nat->Ma->List (Nat × Nat)->Bool × Ma
 | 0,m,_=>(Xd,m)
 | n+1,m,l=>
  if nextI m.fs m.hand<0 then(Xd,nextM m)
  else if(emptyR (nextM m) (nextI m.fs m.hand).toNat (frAt (nextM m) (nextI m.fs m.hand)) l).1=Xc then emptyR (nextM m) (nextI m.fs m.hand).toNat (frAt (nextM m) (nextI m.fs m.hand)) l
  else freeGo n (nextM m) l
def freeR (m:Ma) (l:List (Nat × Nat)):Bool × Ma:=freeGo (2*m.fs.length) m l
section
variable{m:Ma} {k:Nat} {fr:Fr}
theorem Rt.frw (h:Rt m) (hk:m.fs[k]? =Xa fr):frW fr=0:=(memW_zero h.parts.1).2.1 fr (mG hk)
theorem marks_many (S:Nat->Nat->Prop) (h:Rt m) {gs:List Fr} (hm:Marks m.fs gs):Goes S m { m with fs:=gs }:=by
 have key:∀i,i<=m.fs.length->Goes S m { m with fs:=gs.take i++m.fs.drop i }:=by
  intro i
  induction i with
  | zero=>
   intro _;have:gs.take 0++m.fs.drop 0=m.fs:=by simp
   rw[this];exact Goes.refl h
  | succ i ih=>
   intro hi;have g:=ih (by omega)
   obtain⟨q,hq⟩:∃q,m.fs[i]? =Xa q:=⟨_,gE (by omega)⟩
   obtain⟨q',hq',he⟩:=hm.2 i q hq;have hgl:=hm.1;have hti:(gs.take i).length=i:=by rw[List.length_take];omega
   have hL:(gs.take i++m.fs.drop i)[i]? =Xa q:=by
    rw[aR (by omega),hti,Yo,List.getElem?_drop,Yh]
    exact hq
   have hS:gs.take (i+1)++m.fs.drop (i+1)=(gs.take i++m.fs.drop i).set i q':=by
    rw[List.set_append,if_neg (by omega),hti,Yo,Ye,hq',List.append_assoc]
    congr 1
    rw[List.drop_eq_getElem_cons (by omega:i<m.fs.length),sZ]
    rfl
   rw[hS]
   by_cases hr:q.r=0
   ·have hF:q=frF:=free_is (h.frw hq) hr;have hqq:q'=q:=by
     rcases he with e | e
     ·exact e
     rw[e,hF];rfl
    have hid:(gs.take i++m.fs.drop i).set i q'=gs.take i++m.fs.drop i:=by
     rw[hqq]
     apply Yd
     intro j
     by_cases e:i=j
     ·subst e;rw[sF (gS.1 hL).1,hL]
     rw[sN e]
    rw[hid];exact g
   have hqq:q'={ q with u:=q'.u,d:=q.d }:=by
    rcases he with e | e
    ·rw[e]
    rw[e];rfl
   rw[hqq];exact g.trans (marks_goes S g.rt hL hr q'.u q.d)
 have:=key m.fs.length (nR _);rw[List.drop_length,List.append_nil,Xw (by rw[hm.1];exact nR _)]at this
 exact this
theorem marks_free {fs gs:List Fr} (hm:Marks fs gs):freeN gs=freeN fs:=by
 unfold freeN;have h1:gs.map (fun f=>decide (f.r=0))=fs.map (fun f=>decide (f.r=0)):=by
  apply Yd
  intro i;rw[Yf,Yf]
  cases hq:fs[i]? with
  | none=>
   have:gs[i]? =Xb:=by rw[List.getElem?_eq_none_iff]at hq⊢;rw[hm.1];exact hq
   rw[this]
  | some q=>
   obtain⟨q',h1,h2⟩:=hm.2 i q hq;rw[h1]
   rcases h2 with e | e <;> rw[e] <;> rfl
 have h2:=congrArg (List.countP id) h1;rw[List.countP_map,List.countP_map]at h2;exact h2
theorem next_goes (S:Nat->Nat->Prop) (h:Rt m):Goes S m (nextM m)/\freeN (nextM m).fs=freeN m.fs/\((nextI m.fs m.hand=-1/\freeN m.fs=m.fs.length)\/∃(k:Nat) (fr:Fr),nextI m.fs m.hand=(k:Int)/\(nextM m).fs[k]? =Xa fr/\fr.r≠0):=by
 have hz:=h.parts.1;obtain⟨z1,z2,z3,z4⟩:=memW_zero hz;have hF:nextF m.fs m.hand=(nextR m.fs m.hand).1:=if_pos hz;have hH:nextH m.fs m.hand=((nextR m.fs m.hand).2.1:Int):=if_pos hz;have hmk:Marks m.fs (nextF m.fs m.hand)/\0<=nextH m.fs m.hand/\nextH m.fs m.hand<max (m.fs.length:Int) 1:=by
  rw[hF,hH]
  by_cases hl:m.fs.length=0
  ·have:nextR m.fs m.hand=(m.fs,m.hand.toNat,-1):=by unfold nextR;rw[hl];rfl
   rw[this];exact⟨Marks.refl _,by simp only;omega,by simp only;omega⟩
  obtain⟨gs,h',r,e⟩:∃gs h' r,nextGo (2*m.fs.length) m.fs m.hand.toNat=(gs,h',r):=⟨_,_,_,rfl⟩;obtain⟨a1,a2,_⟩:=nextGo_stop _ m.fs m.fs m.hand.toNat (Marks.refl _) (by omega) gs h' r e
  have:nextR m.fs m.hand=(gs,h',r):=e;rw[this];have:=a1.1;exact⟨a1,by simp only;omega,by simp only;omega⟩
 obtain⟨k1,k2,k3⟩:=hmk;have g1:=marks_many S h k1;have g2:Goes S { m with fs:=nextF m.fs m.hand } (nextM m):=hand_goes S g1.rt k2 (by show _<max ((nextF m.fs m.hand).length:Int) 1;rw[k1.1];exact k3)
 refine⟨g1.trans g2,marks_free k1,?_⟩
 rcases next_first hz with⟨e1,e2⟩ | ⟨k,q,e1,e2,e3,e4,e5,e6⟩
 ·exact .inl ⟨e1,e2⟩
 exact .inr ⟨k,frU q,e1,e5,by show q.r≠0;omega⟩
theorem slot_of (hn:slotN m<m.sl.length):m.sl[slotN m]? =Xa 0:=by
 have h1:(m.sl[slotN m] == 0)=Xc:=Yj (w:=hn);rw[gE hn,eq_of_beq h1]
theorem swap_goes (S:Nat->Nat->Prop) (h:Rt m) (hk:m.fs[k]? =Xa fr) (hf:fr.f=-1) (hr:fr.r≠0):Goes S m (swapR m k fr).2:=by
 unfold swapR
 by_cases hn:slotN m<m.sl.length
 ·rw[if_pos hn];have hsb:=h.inv.sbl;have hwa:wrongAtL m.sb.length m.sq ((slotN m:Nat):Int)=0:=by
   unfold wrongAtL;rw[if_pos h.inv.sq,if_pos (by simp[dkInB];omega)]
  exact slot_goes S h hk hf hr (slot_of hn) (writeB_len _ _) (write_right hwa) (write_same hwa).2 (fun i _ hne=>write_other hwa hne)
 rw[if_neg hn];exact Goes.refl h
theorem wr_goes (S:Nat->Nat->Prop) (h:Rt m) {c:Ca} {fi ix:Nat} {F:Fl} (hc:c∈m.ca) (hi:CaIs m c k fi ix fr F) (h0:blkE m.fl m.cnt fr.f fr.x=0) (pg:List Int):∃b:Nat,wrM m pg fr.f fr.x=putB m fi ix F (b:Int) (writeB m.db m.dq) (writeQ m.dq (b:Int) pg)/\Goes S m (putB m fi ix F (b:Int) (writeB m.db m.dq) (writeQ m.dq (b:Int) pg))/\readL (writeB m.db m.dq) (writeQ m.dq (b:Int) pg) (b:Int)=pg/\(b:Int)<m.cnt/\(∀(i j:Nat) g,m.fl[i]? =Xa g->g.bl[j]? =Xa (b:Int)->i=fi/\j=ix):=by
 have h0':=h0;rw[hi.ff,hi.fx]at h0;obtain⟨b,b1,b2,b3,b4,b5⟩:=blk_of h hi.fl hi.bl h0;obtain⟨d1,d2,d3⟩:=wrongL_zero h.inv.dok;have hcnt:=h.inv.cnt;have hwa:wrongAtL m.db.length m.dq (b:Int)=0:=by
  unfold wrongAtL;rw[if_pos h.inv.dok,if_pos (by simp[dkInB];omega)]
 have hst:=h.inv.st;have hP:wrM m pg fr.f fr.x=putB m fi ix F (b:Int) (writeB m.db m.dq) (writeQ m.dq (b:Int) pg):=by
  unfold wrM putB;rw[if_pos h0',hi.ff,hi.fx,b2,b3,b4];unfold writeDP writeDQ;rw[if_pos hwa,if_pos hwa]
 have hub:stW (m.fl.set fi ⟨F.size,F.bl.set ix (b:Int)⟩) m.cnt=0/\(∀x,usedB (m.fl.set fi ⟨F.size,F.bl.set ix (b:Int)⟩) x=Xc↔(usedB m.fl x=Xc/\x≠-1)\/x=(b:Int)\/(x=-1/\usedB (m.fl.set fi ⟨F.size,F.bl.set ix (b:Int)⟩) x=Xc))/\(F.bl[ix]? =Xa (b:Int)\/usedB m.fl (b:Int)=Xd)/\∀(i j:Nat) g,m.fl[i]? =Xa g->g.bl[j]? =Xa (b:Int)->i=fi/\j=ix:=by
  rcases b5 with e | ⟨e,e'⟩
  ·obtain⟨q1,q2,q3⟩:=block_old hst hi.fl e;rw[q1];exact⟨hst,q2,.inl e,q3⟩
  obtain⟨q1,q2,q3,q4⟩:=block_new hst hi.fl e e';exact⟨q1,q2,.inr q3,q4⟩
 obtain⟨u1,u2,u3,u4⟩:=hub;refine⟨b,hP,block_goes S h hi.fl u1 u2 (writeB_len _ _) (write_right hwa) (writeB_at _ _ d3) (fun q hq=>?_) (fun i hne=>write_other hwa hne) u3 ⟨c,hc,hi.file,hi.idx⟩ u4,(write_same hwa).2,b1,u4⟩
 unfold writeQ at hq
 rcases List.mem_append.1 hq with e | e
 ·refine .inr ⟨q,?_,rfl⟩
  split at e
  ·exact List.mem_of_mem_tail e
  exact e
 simp only[Yn]at e;exact .inl (by rw[e])
theorem frame_is (h:Rt m) (hk:m.fs[k]? =Xa fr) (hf:fr.f≠-1):∃(i:Nat) (c:Ca) (fi ix:Nat) (F:Fl),m.ca[i]? =Xa c/\CaIs m c k fi ix fr F:=by
 have h0:0<=fr.f:=by
  have:=h.frw hk;unfold frW at this
  by_cases h2:(inB fr.r 1001 && inB fr.x 12)=Xd
  ·rw[if_pos h2]at this;omega
  rw[if_neg h2]at this
  by_cases h3:(!(fr.f == -1) && !inB fr.f 5)=Xc
  ·rw[if_pos h3]at this;omega
  simp[hf,inB]at h3
  omega
 obtain⟨i,c,hi,h1,h2,h3⟩:=cache_there h hk h0;obtain⟨k',fi,ix,f,F,hc⟩:=caIs_of h.w (mG hi);have e:k'=k:=by have:=hc.fr;omega
 subst e;have:=hc.fa.symm.trans hk;cases this;exact⟨i,c,fi,ix,F,hi,hc⟩
theorem disk_goes (h:Rt m) (hk:m.fs[k]? =Xa fr) (hf:fr.f≠-1) (hr:fr.r≠0) (l:List (Nat × Nat)):Goes (fun q j=>(q,j)∈l) m (diskR m k fr l).2:=by
 obtain⟨i,c,fi,ix,F,hi,hc⟩:=frame_is h hk hf;have hm:=mG hi;have hfl:=(gS.1 hc.fl).1;have hsz:szAt m fr.f=F.size:=by unfold szAt;rw[hc.ff,tN,gD,hc.fl];rfl
 have h0:0<=fr.f:=by rw[hc.ff];omega
 unfold diskR
 by_cases h1:cutF m fr≠pgL fr.p/\seenB m k fr l=Xc
 ·rw[if_pos h1];exact Goes.refl h
 rw[if_neg h1];have hS:cutP (pgL fr.p) fr.x (szAt m fr.f)=pgL fr.p\/∀(q:Nat) s (i:Nat) a (n:Nat),m.sp[q]? =Xa s->s.ars[i]? =Xa a->arIn a n=Xc->n<64->¬SeesK k fr l q s a n:=by
  by_cases h2:cutF m fr=pgL fr.p
  ·exact .inl h2
  exact .inr fun q s i a n a1 a2 a3 a4 a5=>h1 ⟨h2,seenB_iff.2 ⟨q,s,i,a,n,a1,a2,a3,a4,a5⟩⟩
 by_cases h2:fr.d=Xc\/diskL m fr.f fr.x≠cutF m fr
 ·rw[if_pos h2]
  by_cases h3:blkE m.fl m.cnt fr.f fr.x=0
  ·rw[if_pos h3];obtain⟨b,e1,e2,e3,_⟩:=wr_goes (fun q j=>(q,j)∈l) h hm hc h3 (cutF m fr)
   simp only;rw[e1];refine written_goes e2 hc.fl hc.bl hk hc.ff hc.fx hr ?_ hS;rw[e3];unfold cutF;rw[hc.fx,hc.ff]
  rw[if_neg h3]
  by_cases h4:diskL m fr.f fr.x=cutF m fr
  ·rw[if_pos h4];exact out_goes h hk h0 hr h4 hS
  rw[if_neg h4];exact Goes.refl h
 rw[if_neg h2];exact out_goes h hk h0 hr (Classical.byContradiction fun e=>h2 (.inr e)) hS
theorem empty_goes (h:Rt m) (hk:m.fs[k]? =Xa fr) (hr:fr.r≠0) (l:List (Nat × Nat)):Goes (fun q j=>(q,j)∈l) m (emptyR m k fr l).2:=by
 unfold emptyR
 split
 ·rename_i hf
  exact swap_goes _ h hk hf hr
 rename_i hf
 exact disk_goes h hk hf hr l
theorem wrM_fs1 (m:Ma) (pg:List Int) (file idx:Int):(wrM m pg file idx).fs=m.fs:=(wrM_fs _ _ _ _).1
theorem empty_fs (m:Ma) (k:Nat) (fr:Fr) (l:List (Nat × Nat)):((emptyR m k fr l).1=Xc/\(emptyR m k fr l).2.fs=m.fs.set k frF)\/((emptyR m k fr l).1=Xd/\(emptyR m k fr l).2=m):=by
 unfold emptyR
 split
 ·unfold swapR
  split
  ·exact .inl ⟨rfl,rfl⟩
  exact .inr ⟨rfl,rfl⟩
 unfold diskR
 split
 ·exact .inr ⟨rfl,rfl⟩
 split
 ·split
  ·refine .inl ⟨rfl,?_⟩
   show(toFile _ _).fs=_
   unfold toFile;simp only;rw[wrM_fs1]
  split
  ·exact .inl ⟨rfl,rfl⟩
  exact .inr ⟨rfl,rfl⟩
 exact .inl ⟨rfl,rfl⟩
theorem freeGo_goes (l:List (Nat × Nat)):∀(n:Nat) {m:Ma},Rt m->Goes (fun q j=>(q,j)∈l) m (freeGo n m l).2/\freeN (freeGo n m l).2.fs=freeN m.fs+((freeGo n m l).1).toNat
 | 0,m,h=>⟨Goes.refl h,rfl⟩
 | n+1,m,h=>by
  obtain⟨g1,f1,hc⟩:=next_goes (fun q j=>(q,j)∈l) h
  unfold freeGo
  rcases hc with⟨e1,_⟩ | ⟨k,fr,e1,e2,e3⟩
  ·rw[if_pos (by omega)]
   exact⟨g1,f1⟩
  rw[if_neg (by omega),e1,tN,frAt_of e2]
  rcases empty_fs (nextM m) k fr l with⟨q1,q2⟩ | ⟨q1,q2⟩
  ·rw[if_pos q1];refine⟨g1.trans (empty_goes g1.rt e2 e3 l),?_⟩;rw[q1,q2,free_out e2 e3,f1];rfl
  rw[if_neg (by rw[q1];decide)]
  obtain⟨r1,r2⟩:=freeGo_goes l n g1.rt;exact⟨g1.trans r1,by rw[r2,f1]⟩
theorem free_goes (h:Rt m) (l:List (Nat × Nat)):Goes (fun q j=>(q,j)∈l) m (freeR m l).2/\freeN (freeR m l).2.fs=freeN m.fs+((freeR m l).1).toNat:=freeGo_goes l _ h
end
end
section
theorem dropP_M {m:Ma} (h:Rt m) {q n:Nat} {s:Sp} (hs:m.sp[q]? =Xa s) (hn:n<64):dropP m q (n:Int)=dropM m q n:=by
 have ht:∀s∈m.sp,TbOk s.tb:=fun s hs=>h.tb hs
 have hql:=(gS.1 hs).1;obtain⟨e,he⟩:∃e,flatN s n=e:=⟨_,rfl⟩;have hent:entM m q (n:Int)=e:=by unfold entM;rw[Sp.getD_of hs,getT_flat hn,he]
 have hd:m.sp.getD q ⟨Xd,[],[]⟩=s:=Sp.getD_of hs;unfold dropP dropM;rw[hent];simp only[hd,he]
 by_cases hk1:e.kind=1
 ·obtain⟨i,fr,f1,f2,f3,f4⟩:=h.present hs hn (by rw[he];exact hk1)
  rw[he]at f1 f3;obtain⟨r0,r1⟩:=h.refs f2;have hil:=(gS.1 f2).1;have hgd:m.fs.getD i fr0=fr:=by rw[gD,f2];rfl
  have hho:holdM m e (-1)={ m with fs:=m.fs.set i (letGo fr) }:=by
   have e0:holdE m.fs m.hand e.n (-1)=0:=by
    unfold holdE;rw[if_pos h.parts.1,f1,tN,hgd];have hb:(inB (i:Int) m.fs.length && !(fr.r == 0))=Xc:=by
     simp[inB,f4]
     omega
    rw[hb,if_pos rfl,if_pos (by omega)]
   unfold holdM;rw[if_pos hk1];unfold holdF holdH;rw[if_pos e0,if_pos e0,f1,tN,hgd];have:frH fr (-1)=letGo fr:=by
    unfold frH letGo
    by_cases h1:fr.r=1
    ·rw[if_pos h1,if_pos (by omega)]
    rw[if_neg h1,if_neg (by omega)]
    rfl
   rw[this]
  rw[hho,if_pos hk1,f3,f1,tN];exact enter_put (m:={ m with fs:=m.fs.set i (letGo fr) }) ht hql hn enW_0
 rw[if_neg hk1]
 by_cases hk2:e.kind=2
 ·rw[if_pos hk2];obtain⟨i,z,f1,f2,f3,f4,_⟩:=h.swapped hs hn (by rw[he];exact hk2)
  rw[he]at f1 f3;obtain⟨r0,r1⟩:=h.slots f2;have hgd:m.sl.getD i 0=z:=by rw[gD,f2];rfl
  have hho:holdM m e (-1)={ m with sl:=m.sl.set i (z - 1) }:=by
   have ea:atS m.sl e.n=z:=by unfold atS;rw[f1,if_pos (by omega),tN,hgd]
   have e0:holdSE m.sl e.n (-1)=0:=by
    unfold holdSE;rw[if_pos h.parts.2,ea,if_neg (by omega),if_pos (by omega)]
   unfold holdM;rw[if_neg hk1,if_pos hk2];unfold holdSL;rw[if_pos e0,ea,f1,tN];rfl
  rw[hho,f3,f1,tN];exact enter_put (m:={ m with sl:=m.sl.set i (z - 1) }) ht hql hn enW_0
 rw[if_neg hk2];have hho:holdM m e (-1)=m:=by unfold holdM;rw[if_neg hk1,if_neg hk2]
 rw[hho];exact enter_put ht hql hn enW_0
end
section
open Go.RowKit
def freeU (fs:List Fr):Nat:=fs.countP fun a=>a.r == 0
theorem freeU_step {fs:List Fr} {k:Nat} {q:Fr} (h:fs[k]? =Xa q):freeU (fs.take (k+1))=freeU (fs.take k)+if q.r=0 then 1 else 0:=by
 obtain⟨hlt,rfl⟩:=gS.1 h;rw[List.take_succ_eq_append_getElem hlt];unfold freeU;rw[List.countP_append,Yg,List.countP_nil];simp
theorem memFreeU_any (a:Option Addr) (c:Nat) (fs:List Fr) (h:Int) (w:Xn) (hv:frRowAt w (O a fs.length c) fs):
  Xp Tryz.prog 222 #[Xi #[O a fs.length c,Xe Xf h]] w fun e w'=>e= Xl (Xe Xf (freeU fs))/\Grew w w':=by
 have hbig:=hv.short;obtain⟨a',c',heq,hrow⟩:=hv.frs;cases heq;have HR:Xo (FrRows w a fs):=hrow;clear hrow hv;obtain⟨n,HN⟩:∃n,Xo (fs.length=n):=⟨_,rfl⟩;rw[HN.out]at hbig⊢;obtain⟨W0,hW0⟩:∃W0,w.alloc (Xk #[O a n c,Xe Xf h] 29)=W0:=⟨_,rfl⟩;have HG0:=gA hW0
 have HW0:Xo (_=W0):=hW0;clear hW0
 go_enter Tryz.func222,Tryz.ntmps222
 go_wp2;rw[HW0.out]
 go_loopg [3,5,9] n (fun gg s3 _ s9 wr=>∃(kk m:Nat),kk<=n/\n - kk<=gg/\m<=kk/\s9= Xe Xf kk/\s3= Xe Xf m/\Xo (Grew W0 wr)/\Xo (freeU (fs.take kk)=m))
 case atStart=>exact⟨0,0,nZ _,by omega,nR _,rfl,rfl,Grew.refl _,rfl⟩
 obtain⟨kk,m,hkk,hg,hm,rfl,rfl,BW,A⟩:=hrel
 by_cases hlt:kk<n
 ·have hltz:(kk:Int)< (n:Int):=by omega
  obtain⟨q,HQ⟩:∃q,Xo (fs[kk]? =Xa q):=⟨_,gE (by rw[HN.out];exact hlt)⟩
  obtain⟨ad,rfl,hl⟩:=HR.out kk q HQ.out;obtain⟨d0,d1,d2,d3,d4,d5,d6,d7,d8,d9,d10,d11,d12⟩:=hl wr (HG0.out.trans BW.out);have HST:Xo (freeU (fs.take (kk+1))=freeU (fs.take kk)+if q.r=0 then 1 else 0):=freeU_step HQ.out;clear hl
  by_cases hz:q.r=0
  ·have HA:Xo (freeU (fs.take (kk+1))=m+1):=show _=_ by rw[HST.out,A.out,if_pos hz]
   have hzb:(q.r == 0)=Xc:=by simp[hz]
   have HZ:Xo (q.r=0):=hz;clear HST hz;go_wp2
   go_roundg (n -(kk+1))
   case measure=>omega
   exact⟨kk+1,m+1,by omega,by omega,by omega,by go_num,by go_num,BW.out.trans (grew_alloc _ _),HA.out⟩
  have HA:Xo (freeU (fs.take (kk+1))=m):=show _=_ by rw[HST.out,A.out,if_neg hz];rfl
  have hzb:(q.r == 0)=Xd:=by simp[hz]
  clear HST;go_wp2
  go_roundg (n -(kk+1))
  case measure=>omega
  exact⟨kk+1,m,by omega,by omega,by omega,by go_num,rfl,BW.out.trans (grew_alloc _ _),HA.out⟩
 have hltz:¬(kk:Int)< (n:Int):=by omega
 have:kk=n:=by omega
 subst this;have HA:Xo (freeU fs=m):=show _=_ by rw[<-A.out,Xw (by rw[HN.out];exact nR _)]
 clear A;go_wp2;go_ret;exact⟨by rw[HA.out];rfl,HG0.out.trans BW.out⟩
def isF (a:Fr):Bool:=a.r == 0
def frT (p:Pg) (fi ix:Int):Fr:=⟨p,1,Xc,Xd,fi,ix⟩
theorem take1_any (q:Fr) (w:Xn):
  Xp Tryz.prog 237 #[Xi (frv q).toArray] w fun e w'=>e= Xl (Xh (isF q))/\Grew w w':=by
 show Xp Tryz.prog 237 #[Xi #[Xe Xg q.p.b0,Xe Xg q.p.b1,Xe Xg q.p.b2,Xe Xg q.p.b3,Xe Xg q.p.b4,Xe Xg q.p.b5,Xe Xg q.p.b6,Xe Xg q.p.b7,Xe Xf q.r,Xh q.u,Xh q.d,Xe Xf q.f,Xe Xf q.x]] w _
 go_enter Tryz.func237,Tryz.ntmps237
 go_wp2;go_ret;exact⟨rfl,(bR _ _).alloc (nR _) _⟩
def idxI (fs:List Fr):Int:=if fs.findIdx isF<fs.length then(fs.findIdx isF:Int)else -1
theorem findIdx_at {fs:List Fr} {k:Nat} {q:Fr} (h:fs[k]? =Xa q) (hq:isF q=Xc) (hb:∀(j:Nat) x,j<k->fs[j]? =Xa x->isF x=Xd):fs.findIdx isF=k:=by
 obtain⟨hlt,rfl⟩:=gS.1 h;refine(List.findIdx_eq hlt).2 ⟨hq,fun j hj=>?_⟩
 exact hb j _ hj (gE (by omega))
theorem findIdx_no {fs:List Fr} (hb:∀(j:Nat) x,fs[j]? =Xa x->isF x=Xd):fs.findIdx isF=fs.length:=by
 refine List.findIdx_eq_length.2 fun x hx=>?_
 obtain⟨j,hj⟩:=Xz hx;exact hb j x hj
theorem indexFrames_any (v:Xq) (fs:List Fr) (w:Xn) (hv:frRowAt w v fs):
  Xp Tryz.prog 236 #[v,.func (.func 237) #[] #[]] w fun e w'=>e= Xl (Xe Xf (idxI fs))/\Grew w w':=by
 have hbig:=hv.short;obtain⟨a,c,rfl,hrow⟩:=hv.frs;have HR:Xo (FrRows w a fs):=hrow;have eg:=enters_of Tryz.func237 (by kernel_rfl) rfl
 clear hrow hv;obtain⟨n,HN⟩:∃n,Xo (fs.length=n):=⟨_,rfl⟩;rw[HN.out]at hbig⊢
 go_enter Tryz.func236,Tryz.ntmps236
 go_wp2
 go_loopg [5,8] n (fun gg _ s8 wr=>∃kk:Nat,kk<=n/\n - kk<=gg/\s8= Xe Xf kk/\Xo (Grew w wr)/\Xo (∀j q,j<kk->fs[j]? =Xa q->isF q=Xd))
 case atStart=>exact⟨0,nZ _,by omega,rfl,Grew.refl w,fun j q hj=>absurd hj (nL _)⟩
 obtain⟨kk,hkk,hg,rfl,BW,A⟩:=hrel
 by_cases hlt:kk<n
 ·have hltz:(kk:Int)< (n:Int):=by omega
  obtain⟨q,HQ⟩:∃q,Xo (fs[kk]? =Xa q):=⟨_,gE (by rw[HN.out];exact hlt)⟩
  obtain⟨ad,rfl,hl⟩:=HR.out kk q HQ.out;obtain⟨d0,d1,d2,d3,d4,d5,d6,d7,d8,d9,d10,d11,d12⟩:=hl wr BW.out;have hcall:Xp Tryz.prog 237 #[Xi #[Xe Xg q.p.b0,Xe Xg q.p.b1,Xe Xg q.p.b2,Xe Xg q.p.b3,Xe Xg q.p.b4,Xe Xg q.p.b5,Xe Xg q.p.b6,Xe Xg q.p.b7,Xe Xf q.r,Xh q.u,Xh q.d,Xe Xf q.f,Xe Xf q.x]] wr fun e w'=>e= Xl (Xh (isF q))/\Grew wr w':=take1_any q wr
  clear hl
  cases hq:isF q with
  | true=>
   rw[hq]at hcall;have HF:Xo (idxI fs=(kk:Int)):=show _=_ by unfold idxI;rw[findIdx_at HQ.out hq A.out,HN.out,if_pos hlt]
   clear hq
   go_wp2_with (go_at_call 237;refine hcall.mono ?_;rintro e w' ⟨rfl,hb'⟩)
   go_ret;exact⟨by rw[HF.out];rfl,BW.out.trans hb'⟩
  | false=>
   rw[hq]at hcall;have HA:Xo (∀(j:Nat) q,j<kk+1->fs[j]? =Xa q->isF q=Xd):=show∀(j:Nat) q,_ from fun j q' hj hq'=>by
    by_cases e:j=kk
    ·subst e;rw[HQ.out]at hq';cases hq';exact hq
    exact A.out j q' (by omega) hq'
   clear hq
   go_wp2_with (go_at_call 237;refine hcall.mono ?_;rintro e w' ⟨rfl,hb'⟩)
   go_roundg (n -(kk+1))
   case measure=>omega
   exact⟨kk+1,by omega,by omega,by go_num,BW.out.trans hb',HA.out⟩
 have hltz:¬(kk:Int)< (n:Int):=by omega
 have:kk=n:=by omega
 subst this;have HF:Xo (idxI fs=-1):=show _=_ by
  unfold idxI;rw[findIdx_no (fun j q hj=>A.out j q (by rw[<-HN.out];exact(gS.1 hj).1) hj),if_neg (Nat.lt_irrefl _)]
 go_wp2;go_ret;exact⟨by rw[HF.out];rfl,BW.out⟩
theorem takeO (a:Option Addr) (c:Nat) (fs:List Fr) (h:Int) (p:Pg) (fi ix:Int) (w:Xn) (hv:frRowAt w (O a fs.length c) fs) (hz:memW fs h=0) (hy:frW (frT p fi ix)=0) (k:Nat) (hk:idxI fs=(k:Int)) (hkl:k<fs.length):
  Xp Tryz.prog 223 #[Xi #[O a fs.length c,Xe Xf h],Xi (pgv p).toArray,Xe Xf fi,Xe Xf ix] w fun e w'=>∃b,e= Xl (Xm #[Xi #[b,Xe Xf h],Xe Xf (k:Int),Xe Xf 0])/\frOwnRow w.heap.size w' b (fs.set k (frT p fi ix))/\Grew w w':=by
 have HV:Xo (frRowAt w (O a fs.length c) fs):=hv;have hw:∀W,Grew w W->Xp Tryz.prog 58 #[Xi #[O a fs.length c,Xe Xf h]] W fun e w'=>e= Xl (Xe Xf (memW fs h))/\Grew W w':=fun W hW=>by rw[hz];exact wrongMem_ok a c fs h W (HV.out.grew hW) hz
 have hf:∀W,Xp Tryz.prog 108 #[Xi #[Xe Xg p.b0,Xe Xg p.b1,Xe Xg p.b2,Xe Xg p.b3,Xe Xg p.b4,Xe Xg p.b5,Xe Xg p.b6,Xe Xg p.b7,Xe Xf 1,Xh Xc,Xh Xd,Xe Xf fi,Xe Xf ix]] W fun e w'=>e= Xl (Xe Xf (frW (frT p fi ix)))/\Grew W w':=fun W=>wrongFrame_any (frT p fi ix) W
 have hx:∀W,Grew w W->Xp Tryz.prog 236 #[O a fs.length c,.func (.func 237) #[] #[]] W fun e w'=>e= Xl (Xe Xf (idxI fs))/\Grew W w':=fun W hW=>indexFrames_any _ fs W (HV.out.grew hW)
 have ho:∀W,Grew w W->Xp Tryz.prog 51 #[Xi #[O a fs.length c,Xe Xf h]] W fun e w'=>∃b,e= Xl (Xi #[b,Xe Xf h])/\frOwnRow W.heap.size w' b fs/\Grew W w':=fun W hW=>ownMem_any a c fs h W (HV.out.grew hW)
 clear hv;obtain⟨n,HN⟩:∃n,Xo (fs.length=n):=⟨_,rfl⟩;simp only[HN.out]at hw hx ho HV⊢;simp only[hz]at hw;clear hz;simp only[hy]at hf;clear hy;simp only[hk]at hx;clear hk;rw[HN.out]at hkl;have hkz:(k:Int)< (n:Int):=by omega
 have hbig:n<=9223372036854775807:=by have:=HV.out.short;rw[HN.out]at this;exact this
 show Xp Tryz.prog 223 #[Xi #[O a n c,Xe Xf h],Xi #[Xe Xg p.b0,Xe Xg p.b1,Xe Xg p.b2,Xe Xg p.b3,Xe Xg p.b4,Xe Xg p.b5,Xe Xg p.b6,Xe Xg p.b7],Xe Xf fi,Xe Xf ix] w _
 obtain⟨W0,hW0⟩:∃W0,(((w.alloc (Xk #[O a n c,Xe Xf h] 29)).alloc (Xk #[Xe Xg p.b0,Xe Xg p.b1,Xe Xg p.b2,Xe Xg p.b3,Xe Xg p.b4,Xe Xg p.b5,Xe Xg p.b6,Xe Xg p.b7] 91)).alloc (Xk #[O Xb 0 0,Xe Xf 0] 29))=W0:=⟨_,rfl⟩;have HG0:Xo (Grew w W0):=show Grew w W0 by rw[<-hW0];exact((grew_alloc _ _).trans (grew_alloc _ _)).trans (grew_alloc _ _)
 have X0:Xo (Box W0 w.heap.size [O a n c,Xe Xf h]):=show Box _ _ _ by rw[<-hW0];exact((Box.top w _ _ rfl).alloc _).alloc _
 have X1:Xo (Box W0 (w.heap.size+1) [Xe Xg p.b0,Xe Xg p.b1,Xe Xg p.b2,Xe Xg p.b3,Xe Xg p.b4,Xe Xg p.b5,Xe Xg p.b6,Xe Xg p.b7]):=show Box _ _ _ by rw[<-hW0];exact(Box.top _ _ _ (by simp)).alloc _
 have X2:Xo (Box W0 (w.heap.size+2) [O Xb 0 0,Xe Xf 0]):=show Box _ _ _ by rw[<-hW0];exact Box.top _ _ _ (by simp)
 have HW0:Xo (_=W0):=hW0;clear hW0
 go_enter Tryz.func223,Tryz.ntmps223
 go_upto_region 1 with fail;rw[HW0.out];have e0:=X0.out.c 0 rfl;have e1:=X0.out.c 1 rfl;go_wp2_with fail;refine(hw _ HG0.out).mono ?_;rintro e W1 ⟨rfl,g1⟩;have G1:Xo (Grew W0 W1):=g1;clear g1 e0 e1 hw;have p0:=(X1.out.grew G1.out).c 0 rfl;have p1:=(X1.out.grew G1.out).c 1 rfl;have p2:=(X1.out.grew G1.out).c 2 rfl;have p3:=(X1.out.grew G1.out).c 3 rfl;have p4:=(X1.out.grew G1.out).c 4 rfl;have p5:=(X1.out.grew G1.out).c 5 rfl;have p6:=(X1.out.grew G1.out).c 6 rfl;have p7:=(X1.out.grew G1.out).c 7 rfl;go_wp2_with fail;refine(hf _).mono ?_;rintro e W2 ⟨rfl,g2⟩;have XT:Xo (Box W2 W1.heap.size [Xe Xg p.b0,Xe Xg p.b1,Xe Xg p.b2,Xe Xg p.b3,Xe Xg p.b4,Xe Xg p.b5,Xe Xg p.b6,Xe Xg p.b7,Xe Xf 1,Xh Xc,Xh Xd,Xe Xf fi,Xe Xf ix]):=(Box.top W1 [Xe Xg p.b0,Xe Xg p.b1,Xe Xg p.b2,Xe Xg p.b3,Xe Xg p.b4,Xe Xg p.b5,Xe Xg p.b6,Xe Xg p.b7,Xe Xf 1,Xh Xc,Xh Xd,Xe Xf fi,Xe Xf ix] _ rfl).grew g2;have G2:=dD ((G1.out.trans (grew_alloc _ _)).trans g2);clear g2 p0 p1 p2 p3 p4 p5 p6 p7 hf;have e0:=(X0.out.grew G2.out).c 0 rfl;go_wp2_with fail;refine(hx _ (HG0.out.trans G2.out)).mono ?_;rintro e W3 ⟨rfl,g3⟩;have G3:=dD (G2.out.trans g3);have XT3:=XT.out.grew g3;clear g3 e0 hx;have XT4:Xo (Box W3 W1.heap.size [Xe Xg p.b0,Xe Xg p.b1,Xe Xg p.b2,Xe Xg p.b3,Xe Xg p.b4,Xe Xg p.b5,Xe Xg p.b6,Xe Xg p.b7,Xe Xf 1,Xh Xc,Xh Xd,Xe Xf fi,Xe Xf ix]):=XT3;have e0:=(X0.out.grew G3.out).c 0 rfl;have e1:=(X0.out.grew G3.out).c 1 rfl;clear XT3;go_wp2_with fail;refine(ho _ (HG0.out.trans G3.out)).mono ?_;rintro e W4 ⟨b,rfl,hown,g4⟩;obtain⟨g,cv,rfl⟩:=hown.formS (by rw[HN.out];omega)
 rw[HN.out]at hown⊢;have OW:Xo (frOwnRow W3.heap.size W4 (O (Xa ⟨g,0,Xb⟩) n cv) fs):=hown;have G4:=dD (G3.out.trans g4);have XT5:=dD (XT4.out.grew g4);have g34:Xo (W3.heap.size<=W4.heap.size):=bS g4;have hxt:=XT4.out.lt;clear hown g4 e0 e1 ho;have hxt':=XT5.out.lt;have x0:=XT5.out.c 0 rfl;have x1:=XT5.out.c 1 rfl;have x2:=XT5.out.c 2 rfl;have x3:=XT5.out.c 3 rfl;have x4:=XT5.out.c 4 rfl;have x5:=XT5.out.c 5 rfl;have x6:=XT5.out.c 6 rfl;have x7:=XT5.out.c 7 rfl;have x8:=XT5.out.c 8 rfl;have x9:=XT5.out.c 9 rfl;have x10:=XT5.out.c 10 rfl;have x11:=XT5.out.c 11 rfl;have x12:=XT5.out.c 12 rfl;have hgl:=OW.out.lt g rfl
 go_wp2_with (refine frWpList_store_elt rfl (.tmp 44) (.tmp 43) rfl W3.heap.size _ fs (OW.out.grew (grew_alloc _ _)) g k rfl (frT p fi ix) (by rw[HN.out];exact hkl) _ rfl (by simp) _ rfl rfl ?_)
 intro W5 ow5 gr5 sz5;have OW5:Xo (frOwnRow W3.heap.size W5 (O (Xa ⟨g,0,Xb⟩) n cv) (fs.set k (frT p fi ix))):=ow5;have h34:=g34.out;have hw4:W0.heap.size<=W4.heap.size:=bS G4.out;have h03:W0.heap.size<=W3.heap.size:=bS G3.out;have hx2:=X2.out.lt;have XO:Xo (Box W5 W4.heap.size [O (Xa ⟨g,0,Xb⟩) n cv,Xe Xf h]):=(Box.top W4 _ _ rfl).beside gr5 (fun g' hg'=>by cases hg';omega)
 have X25:Xo (Box W5 (w.heap.size+2) [O Xb 0 0,Xe Xf 0]):=((X2.out.grew G4.out).alloc _).beside gr5 (fun g' hg'=>by cases hg';omega)
 have G5:Xo (Grew W0 W5):=grew_beside (G4.out.trans (grew_alloc _ _)) gr5 (fun g' hg'=>by cases hg';omega)
 clear ow5 gr5 sz5 x0 x1 x2 x3 x4 x5 x6 x7 x8 x9 x10 x11 x12 hxt hxt';have o0:=XO.out.c 0 rfl;have o1:=XO.out.c 1 rfl;have r0:=X25.out.c 0 rfl;have r1:=X25.out.c 1 rfl;have rf:=X25.out.f;go_wp2;refine bodyPost_ret (v:= Xm #[Xi #[O (Xa ⟨g,0,Xb⟩) n cv,Xe Xf h],Xe Xf (k:Int),Xe Xf 0]) (by simp[results,Tryz.results223,go_sem, *]) rfl ⟨_,rfl,?_,?_⟩
 ·exact((OW5.out.setCell (a:=⟨w.heap.size+2,0,Xb⟩) (by show w.heap.size+2<_;omega) _).setCell (a:=⟨w.heap.size+2,1,Xb⟩) (by show w.heap.size+2<_;omega) _).base (by have:=bS HG0.out;omega)
 exact grew_set (grew_set (HG0.out.trans G5.out) (by simp;omega) _) (by simp;omega) _
theorem OutD.far {p:Nat} {V V':MaV} {w w1 W:Xn} (k:OutD (Dw p V) w w1) (hd:∀k,Dw p V' k->Dw p V k\/w.heap.size<=k) (hW:OutD (Dw p V') w1 W):OutD (Dw p V) w W:=
 ⟨hW.os.trans k.os,hW.tape.trans k.tape,hW.output.trans k.output,nT k.size hW.size,fun b hb hn=>(hW.block b (Yc hb k.size) (fun e=>by
  rcases hd b e with e | e
  ·exact hn e
  omega)).trans (k.block b hb hn)⟩
theorem drop_hold {m:Ma} (h:Rt m) {q n:Nat} {s:Sp} (hs:m.sp[q]? =Xa s) (hn:n<64):(entM m q (n:Int)).kind=1->holdE m.fs m.hand (entM m q (n:Int)).n (-1)=0:=by
 have hent:entM m q (n:Int)=flatN s n:=by unfold entM;rw[Sp.getD_of hs,getT_flat hn]
 rw[hent];intro hk;obtain⟨i,fr,f1,f2,f3,f4⟩:=h.present hs hn hk;obtain⟨r0,r1⟩:=h.refs f2;have hil:=(gS.1 f2).1;have hgd:m.fs.getD i fr0=fr:=by rw[gD,f2];rfl
 unfold holdE;rw[if_pos h.parts.1,f1,tN,hgd];have hb:(inB (i:Int) m.fs.length && !(fr.r == 0))=Xc:=by
  simp[inB,f4]
  omega
 rw[hb,if_pos rfl,if_pos (by omega)]
theorem dropAll_snoc:∀(l:List (Nat × Nat)) (m:Ma) (x:Nat × Nat),dropAll m (l++ [x])=dropM (dropAll m l) x.1 x.2
 | [],_,_=>rfl
 | y :: l,m,x=>dropAll_snoc l (dropM m y.1 y.2) x
theorem freeU_eq (fs:List Fr):freeU fs=freeN fs:=rfl
def freeI (fs:List Fr):Nat:=fs.findIdx isF
theorem free_at {fs:List Fr} (h:0<freeN fs):idxI fs=(freeI fs:Int)/\freeI fs<fs.length/\∃fr,fs[freeI fs]? =Xa fr/\fr.r=0:=by
 have hl:fs.findIdx isF<fs.length:=by
  obtain⟨x,hx,hr⟩:=List.countP_pos_iff.1 h;exact List.findIdx_lt_length_of_exists ⟨x,hx,by unfold isF;simpa using hr⟩
 refine⟨if_pos hl,hl,fs[fs.findIdx isF],gE hl,?_⟩;exact eq_of_beq (show(fs[fs.findIdx isF].r == 0)=Xc from Yj (w:=hl))
def roomR (m:Ma) (l:List (Nat × Nat)):Bool × Ma:=if freeN m.fs=0 then freeR m l else(Xc,m)
def takeR (m:Ma) (x:Fr) (l:List (Nat × Nat)):Bool × Nat × Ma:=
 if(roomR (dropAll m l) l).1=Xc then(Xc,freeI (roomR (dropAll m l) l).2.fs,{(roomR (dropAll m l) l).2 with fs:=(roomR (dropAll m l) l).2.fs.set (freeI (roomR (dropAll m l) l).2.fs) x })else(Xd,0,(roomR (dropAll m l) l).2)
theorem room_goes {m:Ma} (h:Rt m) (l:List (Nat × Nat)):Goes (fun q j=>(q,j)∈l) m (roomR m l).2/\((roomR m l).1=Xc->0<freeN (roomR m l).2.fs)/\((roomR m l).1=Xd->freeN m.fs=0/\freeN (roomR m l).2.fs=0):=by
 unfold roomR
 split
 ·rename_i h0
  obtain⟨g,e⟩:=free_goes h l;refine⟨g,fun hb=>?_,fun hb=>?_⟩
  ·rw[e,hb]
   show 0<_+1
   omega
  rw[e,hb,h0];exact⟨rfl,rfl⟩
 rename_i h0
 exact⟨Goes.refl h,fun _=>Nat.pos_of_ne_zero h0,fun e=>by cases e⟩
section
variable{m:Ma} {k q n:Nat} {fr:Fr}
theorem mem_set {fs:List Fr} {h:Int} {i:Nat} {x:Fr} (hz:memW fs h=0) (hx:frW x=0):memW (fs.set i x) h=0:=by
 obtain⟨a,b,c,d⟩:=memW_zero hz;have hs:frsW (fs.set i x)=0:=frsW_zero.2 fun f hf=>by
  rcases List.mem_or_eq_of_mem_set hf with e | e
  ·exact b f e
  rw[e];exact hx
 unfold memW;rw[Xu,if_neg (by omega),if_pos hs,if_pos]
 simp[inB]
 omega
theorem fr_more {x:Fr} {r:Int} (h:frW x=0) (h0:x.r≠0) (h1:0<r) (h2:r<=1000):frW { x with r:=r }=0:=by
 unfold frW at h⊢;obtain⟨xp,xr,xu,xd,xf,xx⟩:=x;simp only at h h0⊢;have e1:inB r 1001=Xc:=by simp[inB];omega
 have e2:inB xr 1001=Xc:=by
  cases e:inB xr 1001 with
  | true=>rfl
  | false=>rw[e]at h;simp at h
 have e3:(r == 0)=Xd:=by simpa using(by omega:¬r=0)
 have e4:(xr == 0)=Xd:=by simpa using h0
 rw[e1,e3];rw[e2,e4]at h
 simpa using h
theorem join_eq (hz:memW m.fs m.hand=0) (hk:m.fs[k]? =Xa fr) (h0:0<fr.r) (h1:fr.r<1000) (ht:∀s∈m.sp,TbOk s.tb) (hq:q<m.sp.length) (hn:n<64):
  holdE m.fs m.hand (k:Int) 1=0/\joinP m q (n:Int) (k:Int)=joinM m k q n/\memW (joinM m k q n).fs (joinM m k q n).hand=0/\(joinM m k q n).fs[k]? =Xa { fr with r:=fr.r+1 }/\(∀s∈(joinM m k q n).sp,TbOk s.tb)/\(joinM m k q n).sp.length=m.sp.length:=by
 have hkl:=(gS.1 hk).1;have hgd:m.fs.getD k fr0=fr:=by rw[gD,hk];rfl
 have h40:=(memW_zero hz).1;have he:enW ⟨1,(k:Int),Xd⟩=0:=enW_of ⟨by simp only;omega,by simp only;omega⟩ ⟨by simp only;omega,by simp only;omega,fun _=>by simp only;omega⟩ (by simp)
 have hE:holdE m.fs m.hand (k:Int) 1=0:=by
  unfold holdE;rw[if_pos hz,tN,hgd];have hb:(inB (k:Int) m.fs.length && !(fr.r == 0))=Xc:=by
   simp[inB]
   omega
  rw[hb,if_pos rfl,if_pos (by omega)]
 have hF:joinM m k q n=putE { m with fs:=m.fs.set k { fr with r:=fr.r+1 } } q n ⟨1,(k:Int),Xd⟩:=by
  unfold joinM;rw[frAt_of hk]
 refine⟨hE,?_,?_,?_,?_,?_⟩
 ·obtain⟨i,x,e1,e2,_,_,_,_,e7,e8⟩:=holdE_zero hE;have:i=k:=by omega
  subst this;rw[hk]at e2;cases e2;unfold joinP holdM;rw[if_pos rfl]
  show enterM { m with fs:=holdF m.fs m.hand (i:Int) 1,hand:=holdH m.fs m.hand (i:Int) 1 } q (n:Int) _=_
  rw[e7,e8,enter_put (m:={ m with fs:=m.fs.set i (frH fr 1),hand:=m.hand }) ht hq hn he,hF];have:frH fr 1={ fr with r:=fr.r+1 }:=by unfold frH;rw[if_neg (by omega)]
  rw[this]
 ·rw[hF];exact mem_set hz (fr_more ((memW_zero hz).2.1 fr (mG hk)) (by omega) (by omega) (by omega))
 ·rw[hF]
  show(m.fs.set k _)[k]? =_
  rw[sF hkl]
 ·rw[hF];exact put_tabs (m:={ m with fs:=m.fs.set k { fr with r:=fr.r+1 } }) ht he
 rw[hF,put_len]
theorem joinAll_snoc:∀(l:List (Nat × Nat)) (m:Ma) (x:Nat × Nat),joinAll m k (l++ [x])=joinM (joinAll m k l) k x.1 x.2
 | [],_,_=>rfl
 | y :: l,m,x=>joinAll_snoc l (joinM m k y.1 y.2) x
theorem joins (hz:memW m.fs m.hand=0) (hk:m.fs[k]? =Xa fr) (h0:0<fr.r) (ht:∀s∈m.sp,TbOk s.tb) {l:List (Nat × Nat)} (hl:∀x∈l,x.2<64/\x.1<m.sp.length) (hn:fr.r+l.length<=1000):∀j,j<=l.length->
  memW (joinAll m k (l.take j)).fs (joinAll m k (l.take j)).hand=0/\(joinAll m k (l.take j)).fs[k]? =Xa { fr with r:=fr.r+(j:Int) }/\(∀s∈(joinAll m k (l.take j)).sp,TbOk s.tb)/\(joinAll m k (l.take j)).sp.length=m.sp.length/\
  ∀x,l[j]? =Xa x->holdE (joinAll m k (l.take j)).fs (joinAll m k (l.take j)).hand (k:Int) 1=0/\joinAll m k (l.take (j+1))=joinP (joinAll m k (l.take j)) x.1 (x.2:Int) (k:Int)/\x.1< (joinAll m k (l.take j)).sp.length:=by
 have step:∀(j:Nat) (M:Ma),memW M.fs M.hand=0->M.fs[k]? =Xa { fr with r:=fr.r+(j:Int) }->(∀s∈M.sp,TbOk s.tb)->M.sp.length=m.sp.length->joinAll m k (l.take j)=M->∀x,l[j]? =Xa x->holdE M.fs M.hand (k:Int) 1=0/\joinAll m k (l.take (j+1))=joinP M x.1 (x.2:Int) (k:Int)/\x.1<M.sp.length/\memW (joinAll m k (l.take (j+1))).fs (joinAll m k (l.take (j+1))).hand=0/\(joinAll m k (l.take (j+1))).fs[k]? =Xa { fr with r:=fr.r+((j+1:Nat):Int) }/\(∀s∈(joinAll m k (l.take (j+1))).sp,TbOk s.tb)/\(joinAll m k (l.take (j+1))).sp.length=m.sp.length:=by
  intro j M a1 a2 a3 a4 a5 x hx;obtain⟨b1,b2⟩:=hl x (mG hx);have hjl:=(gS.1 hx).1;obtain⟨c1,c2,c3,c4,c5,c6⟩:=join_eq (q:=x.1) (n:=x.2) a1 a2 (by simp only;omega) (by simp only;omega) a3 (by omega) b1
  have e:joinAll m k (l.take (j+1))=joinM M k x.1 x.2:=by
   rw[Ye,hx]
   show joinAll m k (l.take j++ [x])=_
   rw[joinAll_snoc,a5]
  rw[e];refine⟨c1,c2.symm,by omega,c3,?_,c5,by rw[c6,a4]⟩
  rw[c4];have:fr.r+(j:Int)+1=fr.r+((j+1:Nat):Int):=by omega
  simp only[this]
 intro j
 induction j with
 | zero=>
  intro _;have a2:m.fs[k]? =Xa { fr with r:=fr.r+((0:Nat):Int) }:=by
   rw[hk];have:fr.r+((0:Nat):Int)=fr.r:=by omega
   rw[this]
  refine⟨hz,a2,ht,rfl,fun x hx=>?_⟩
  obtain⟨c1,c2,c3,_⟩:=step 0 m hz a2 ht rfl rfl x hx;exact⟨c1,c2,c3⟩
 | succ j ih=>
  intro hj;obtain⟨a1,a2,a3,a4,_⟩:=ih (by omega)
  obtain⟨_,_,_,d1,d2,d3,d4⟩:=step j _ a1 a2 a3 a4 rfl _ (gE (by omega))
  refine⟨d1,d2,d3,d4,fun x hx=>?_⟩
  obtain⟨c1,c2,c3,_⟩:=step (j+1) _ d1 d2 d3 d4 rfl x hx;exact⟨c1,c2,c3⟩
def copyR (m:Ma) (pg:Pg) (l:List (Nat × Nat)):Bool × Nat × Ma:=
 if(roomR (dropAll m l) l).1=Xc then(Xc,freeI (roomR (dropAll m l) l).2.fs,copyM (roomR (dropAll m l) l).2 (freeI (roomR (dropAll m l) l).2.fs) pg Xc l)else(Xd,0,(roomR (dropAll m l) l).2)
theorem fr_take {pg:Pg} {fi ix:Int} (h:(fi=-1/\ix=0)\/(0<=fi/\fi<5/\0<=ix/\ix<12)):frW (frT pg fi ix)=0:=by
 have hr:(frT pg fi ix).r=1:=rfl;refine frW_shape ⟨by rw[hr];decide,?_,?_,(fun e=>absurd e (by rw[hr];decide)),?_⟩ (by rw[hr];decide)
 ·show 0<=ix/\ix<12
  omega
 ·show fi=-1\/(0<=fi/\fi<5)
  omega
 show fi=-1->ix=0
 omega
theorem copy_steps {m2:Ma} (h:Rt m2) (hk:m2.fs[k]? =Xa fr) (pg:Pg) {l:List (Nat × Nat)} (hl:∀x∈l,x.2<64/\x.1<m2.sp.length) (hn:l≠[]) (h9:l.length<=900):
  (∀j,j<=l.length->(joinAll { m2 with fs:=m2.fs.set k (frT pg (-1) 0) } k (l.take j)).sp.length=m2.sp.length/\∀x,l[j]? =Xa x->holdE (joinAll { m2 with fs:=m2.fs.set k (frT pg (-1) 0) } k (l.take j)).fs (joinAll { m2 with fs:=m2.fs.set k (frT pg (-1) 0) } k (l.take j)).hand (k:Int) 1=0/\joinAll { m2 with fs:=m2.fs.set k (frT pg (-1) 0) } k (l.take (j+1))=joinP (joinAll { m2 with fs:=m2.fs.set k (frT pg (-1) 0) } k (l.take j)) x.1 (x.2:Int) (k:Int)/\x.1< (joinAll { m2 with fs:=m2.fs.set k (frT pg (-1) 0) } k (l.take j)).sp.length)/\
  holdE (joinAll { m2 with fs:=m2.fs.set k (frT pg (-1) 0) } k l).fs (joinAll { m2 with fs:=m2.fs.set k (frT pg (-1) 0) } k l).hand (k:Int) (-1)=0/\({ joinAll { m2 with fs:=m2.fs.set k (frT pg (-1) 0) } k l with fs:=holdF (joinAll { m2 with fs:=m2.fs.set k (frT pg (-1) 0) } k l).fs (joinAll { m2 with fs:=m2.fs.set k (frT pg (-1) 0) } k l).hand (k:Int) (-1) }:Ma)=copyM m2 k pg Xc l:=by
 have hkl:=(gS.1 hk).1;have hT:frT pg (-1) 0=⟨pg,1,Xc,Xd,-1,0⟩:=rfl;have hk1:({ m2 with fs:=m2.fs.set k (frT pg (-1) 0) }:Ma).fs[k]? =Xa (frT pg (-1) 0):=by
  show(m2.fs.set k _)[k]? =_
  rw[sF hkl]
 have hz:memW (m2.fs.set k (frT pg (-1) 0)) m2.hand=0:=mem_set h.parts.1 (fr_take (.inl ⟨rfl,rfl⟩));have J:=joins (m:={ m2 with fs:=m2.fs.set k (frT pg (-1) 0) }) (l:=l) hz hk1 (show(0:Int)<1 by decide) (fun s hs=>h.tb hs) hl (by show(1:Int)+_<=1000;omega)
 refine⟨fun j hj=>⟨(J j hj).2.2.2.1,(J j hj).2.2.2.2⟩,?_⟩
 obtain⟨a1,a2,_⟩:=J l.length (nR _);rw[List.take_length]at a1 a2;have hpos:0<l.length:=List.length_pos_iff.2 hn;have hgd:(joinAll { m2 with fs:=m2.fs.set k (frT pg (-1) 0) } k l).fs.getD k fr0={ frT pg (-1) 0 with r:=(frT pg (-1) 0).r+(l.length:Int) }:=by rw[gD,a2];rfl
 have hkl2:=(gS.1 a2).1;have hE:holdE (joinAll { m2 with fs:=m2.fs.set k (frT pg (-1) 0) } k l).fs (joinAll { m2 with fs:=m2.fs.set k (frT pg (-1) 0) } k l).hand (k:Int) (-1)=0:=by
  unfold holdE;rw[if_pos a1,tN,hgd];have hr:({ frT pg (-1) 0 with r:=(frT pg (-1) 0).r+(l.length:Int) }:Fr).r=1+(l.length:Int):=rfl;rw[hr];have hb:(inB (k:Int) (joinAll { m2 with fs:=m2.fs.set k (frT pg (-1) 0) } k l).fs.length && !((1+(l.length:Int)) == 0))=Xc:=by
   simp[inB]
   omega
  rw[hb,if_pos rfl,if_pos (by omega)]
 refine⟨hE,?_⟩;obtain⟨i,x,e1,e2,_,_,_,_,e7,_⟩:=holdE_zero hE;have:i=k:=by omega
 subst this;rw[a2]at e2;cases e2;rw[e7];have hc:=copy_way hk pg Xc l;rw[<-hT]at hc;rw[hc];unfold copyM;have:frH { frT pg (-1) 0 with r:=(frT pg (-1) 0).r+(l.length:Int) } (-1)=⟨pg,(l.length:Int),Xc,Xd,-1,0⟩:=by
  unfold frH;have hr:({ frT pg (-1) 0 with r:=(frT pg (-1) 0).r+(l.length:Int) }:Fr).r=1+(l.length:Int):=rfl;rw[hr,if_neg (by omega)]
  have:(1:Int)+(l.length:Int)+-1=(l.length:Int):=by omega
  rw[this];rfl
 rw[this];simp only[List.set_set]
end
theorem OwnRow.mk' {α:Type} {E:Elt α} {base:Nat} {w:Xn} {g cap:Nat} {l:List α} {cur:Array Xq} (hb:base<=g) (hh:w.heap[g]? =Xa (Xk cur E.ty (0,0))) (hn:l.length<=cap) (hm:cap<=maxLen) (hs:cur.size=cap*E.k) (ht:cur.toList.take (l.length*E.k)=l.flatMap E.enc)
  (hbytes:l.length*E.bytes<=140737488355328):OwnRow E base w (O (Xa ⟨g,0,Xb⟩) l.length cap) l:=
 ⟨⟨row_len E l,.inr ⟨g,cap,cur,rfl,hb,hh,hn,hm,hs,ht⟩⟩,hbytes⟩
section
variable{w0 w w1 w2:Xn} {p:Nat} {V:MaV} {m:Ma}
theorem ChW.setSw (h:ChW w0 p w V m) {d q:Sli} {sb:List (List Int)} {sq:List (Int × List Int)} {B:Nat} (g1:Grew w w1) (hB:w.heap.size<=B) (nr:NewDisk B w1 (Xi #[O d.a d.n d.c,O q.a q.n q.c]) sb sq) (g2:w1.grownBy w2 (Xa p)) (bx:BoxT w2 p 88 (chL { V with sb:=d,sq:=q } { m with sb:=sb,sq:=sq })):Chg w0 p w V { m with sb:=sb,sq:=sq } w2:=
 h.field (V':={ V with sb:=d,sq:=q }) (m':={ m with sb:=sb,sq:=sq }) g1 g2 rfl rfl rfl rfl rfl rfl bx (fun W _ o r=>by
  have k:=(nr.staysD (fun k hk=>by have:=h.drt k hk;omega) o).rows
  exact⟨r.sl,k.1,k.2,r.db,r.dq,r.fl⟩)
end
theorem take_slot {m:Ma} (h:Rt m) {k:Nat} {f:Fr} (hk:m.fs[k]? =Xa f) (hr:f.r≠0):(slotN m<m.sl.length->takeSE m.sl f.r=0/\takeSL m.sl f.r=m.sl.set (slotN m) f.r/\takeSI m.sl f.r=(slotN m:Int))/\(¬slotN m<m.sl.length->takeSE m.sl f.r=10):=by
 obtain⟨r0,r1,_⟩:=holdE_all h hk hr;have hs:=h.parts.2
 rcases takeS_cases m.sl f.r with⟨hw,_⟩ | ⟨_,hm,_⟩ | ⟨_,_,hi,e1,_⟩ | ⟨_,_,hi,e1,e2,e3⟩
 ·exact absurd hs hw
 ·exact absurd ⟨by omega,r1⟩ hm
 ·exact⟨fun h=>absurd h hi,fun _=>e1⟩
 exact⟨fun _=>⟨e1,e2,e3⟩,fun h=>absurd hi h⟩
theorem cwSwap_any {w0 w:Xn} {p:Nat} {V:MaV} {m:Ma} (h:ChW w0 p w V m) (hR:Rt m) (k:Nat) (f:Fr) (hk:m.fs[k]? =Xa f) (hr:f.r≠0):
  Xp Tryz.prog 229 #[Xj (Xa ⟨p,0,Xb⟩),Xe Xf (k:Int)] w fun e w'=>e= Xl (Xh (swapR m k f).1)/\Chg w0 p w V (swapR m k f).2 w':=by
 obtain⟨t1,t2⟩:=take_slot hR hk hr;obtain⟨r0,r1,hh⟩:=holdE_all hR hk hr;have h60:=hR.inv.sl60;have hsbl:=hR.inv.sbl;obtain⟨TE,HTE⟩:∃TE,Xo (takeSE m.sl f.r=TE):=⟨_,rfl⟩;obtain⟨TI,HTI⟩:∃TI,Xo (takeSI m.sl f.r=TI):=⟨_,rfl⟩;have HTK:Xo (∀W,Grew w W->Xp Tryz.prog 240 #[O V.s.a V.s.n V.s.c,Xe Xf f.r] W fun e w'=>∃s:Sli,e= Xl (Xm #[O s.a s.n s.c,Xe Xf TI,Xe Xf TE])/\NewRow slE W.heap.size w' (O s.a s.n s.c) (takeSL m.sl f.r)/\Grew W w'):=show∀W,_ from fun W hW=>by
  obtain⟨-,n2,-⟩:=h.at.ns;have kk:=(h.at.grew hW).sl;rw[n2]at kk⊢;rw[<-HTE.out,<-HTI.out];refine(takeS_any V.s.a V.s.c m.sl f.r W kk).mono ?_;rintro e w' ⟨a,c,rfl,nr,g⟩;exact⟨⟨a,_,c⟩,rfl,nr,g⟩
 have HNO:Xo (TE≠0->swapR m k f=(Xd,m)):=show _->_ from fun e=>by
  unfold swapR;rw[if_neg (fun hl=>e (HTE.out.symm.trans (t1 hl).1))]
 have hyes:TE=0->slotN m<m.sl.length:=fun e=>Classical.byContradiction fun hn=>by
  have:=t2 hn;rw[HTE.out,e]at this;cases this
 have HYES:Xo (TE=0->(swapR m k f).1=Xc/\∃j:Nat,TI=(j:Int)/\j<=60/\wrongAtL m.sb.length m.sq (j:Int)=0/\(swapR m k f).2=leaveM {({ m with sl:=takeSL m.sl f.r }:Ma)with sb:=writeDP m.sb m.sq (j:Int),sq:=writeDQ m.sb m.sq (j:Int) (pgL f.p) } k f.r ⟨2,(j:Int),Xd⟩):=show _->_ from fun e=>by
  have hl:=hyes e;obtain⟨e1,e2,e3⟩:=t1 hl;have hwa:wrongAtL m.sb.length m.sq ((slotN m:Nat):Int)=0:=by
   unfold wrongAtL;rw[if_pos hR.inv.sq,if_pos (by simp[dkInB];omega)]
  have he:enW ⟨2,(slotN m:Int),Xd⟩=0:=enW_of (by simp) ⟨by simp,by simp only;omega,fun h=>by simp at h⟩ (by simp)
  unfold swapR;rw[if_pos hl];refine⟨rfl,slotN m,HTI.out.symm.trans e3,by omega,hwa,?_⟩
  rw[leave_is (m:={({ m with sl:=takeSL m.sl f.r }:Ma)with sb:=writeDP m.sb m.sq (slotN m:Int),sq:=writeDQ m.sb m.sq (slotN m:Int) (pgL f.p) }) hR rfl rfl rfl hk hr he];simp only;unfold toSlot writeDP writeDQ;rw[if_pos hwa,if_pos hwa,e2]
 have HLV:Xo (∀(w1:Xn) V1 (j:Nat) sl sb sq,ChW w0 p w1 V1 {({ m with sl:=sl }:Ma)with sb:=sb,sq:=sq }->Xp Tryz.prog 214 #[Xj (Xa ⟨p,0,Xb⟩),Xe Xf (k:Int),Xi #[Xe Xf 2,Xe Xf (j:Int),Xh Xd]] w1 fun e w'=>(∃v,e= Xl v)/\Chg w0 p w1 V1 (leaveM {({ m with sl:=sl }:Ma)with sb:=sb,sq:=sq } k f.r ⟨2,(j:Int),Xd⟩) w'):=show∀w1:Xn,_ from fun w1 V1 j sl sb sq h1=>cwLeave_any h1 k f hk ⟨2,(j:Int),Xd⟩ hR.inv.spl ⟨r0,r1⟩ hh
 have HM:Xo (ChW w0 p w V m):=h;have hpl:p<w.heap.size:=h.dlt p (.inl rfl);obtain⟨n1,-⟩:=h.at.ns;obtain⟨ad,ha,hl⟩:=h.at.frs k f hk;have HFA:Xo (V.f.a=Xa ad):=ha;have HFC:Xo (∀W,Grew w W->FrCells W (ad.add (k*13)) f):=show∀W,_ from hl
 have hlt:(k:Int)< (V.f.n:Int):=by
  have:=(gS.1 hk).1;omega
 obtain⟨SW,HSW⟩:∃SW,Xo (swapR m k f=SW):=⟨_,rfl⟩;rw[HSW.out]at HNO HYES⊢;obtain⟨⟨b0,b1,b2,b3,b4,b5,b6,b7⟩,fr,fu,fd,ff,fx⟩:=f;dsimp only at HTK HYES HLV;clear h hR hk hr t1 t2 r0 r1 hh h60 hsbl hyes ha hl n1 HSW HTE HTI;have x0:=HM.out.box.box.c 0 rfl;rw[HFA.out]at x0;obtain⟨d0,d1,d2,d3,d4,d5,d6,d7,d8,d9,d10,d11,d12⟩:=HFC.out w (Grew.refl _);dsimp only at d0 d1 d2 d3 d4 d5 d6 d7 d8 d9 d10 d11 d12
 go_enter Tryz.func229,Tryz.ntmps229
 go_upto_region 2 with fail;clear d0 d1 d2 d3 d4 d5 d6 d7 d8 d9 d10 d11 d12 x0 HFC;obtain⟨b,HB⟩:∃b,Xo (w.heap.size=b):=⟨_,rfl⟩;obtain⟨W1,hW1⟩:∃W1,w.alloc (Xk #[Xe Xg b0,Xe Xg b1,Xe Xg b2,Xe Xg b3,Xe Xg b4,Xe Xg b5,Xe Xg b6,Xe Xg b7,Xe Xf fr,Xh fu,Xh fd,Xe Xf ff,Xe Xf fx] 93)=W1:=⟨_,rfl⟩;have G1:=gA hW1
 have Y1:=xPT hW1 HB
 rw[hW1,HB.out];rw[HB.out]at hpl;clear hW1;have gd:Grew W1 W1.drew:=show Below _ _ _ from(bR _ _).drew
 obtain⟨I,HI⟩:∃I:Xn->Prop,Xo (∀u,I u↔Grew W1 u):=⟨fun u=>Grew W1 u,fun _=>Iff.rfl⟩
 have hI0:I W1.drew:=(HI.out _).2 gd;have hF0:Grew W1 W1.drew:=gd;have hx2:∀y:HoldI I,y.world.cell? ⟨p,2,Xb⟩=Xa (O V.s.a V.s.n V.s.c):=fun y=>(HM.out.box.box.grew (G1.out.trans ((HI.out _).1 y.holds))).c 2 rfl
 have hyr:∀y:HoldI I,y.world.cell? ⟨b,8,Xb⟩=Xa (Xe Xf fr):=fun y=>(Y1.out.box.grew ((HI.out _).1 y.holds)).c 8 rfl
 have hne:Nonempty (HoldI I):=⟨⟨_,hI0⟩⟩;refine wp_lax_tailD (I:=I) 15 [(7,fun v=>∃s:Sli,v= Xm #[O s.a s.n s.c,Xe Xf TI,Xe Xf TE])] (fun u=>Grew W1 u) hI0 hF0 mixed (by kernel_rfl) rfl rfl (by decide) ?hS (by kernel_rfl) ?_
 case hS=>
  intro x hx;simp only[mC,nM,or_false]at hx;subst hx;exact⟨_,sli0,rfl⟩
 simp only[Yl,Ym];iterate 1 (refine laxD_quiet rfl rfl rfl (fun K hK=>?_);go_big_quiet_op;refine hK _ ?_;clear hK K)
 refine laxD_nilc (.tmp 19) ⟨p,0,Xb⟩ rfl rfl rfl rfl ?_;simp only[Xs,sB,sS,sZ];iterate 5 (refine laxD_quiet rfl rfl rfl (fun K hK=>?_);go_big_quiet_op;refine hK _ ?_;clear hK K)
 refine laxD_spec rfl rfl (fun v u=>∃(s:Sli) (Wa:Xn),v= Xm #[O s.a s.n s.c,Xe Xf TI,Xe Xf TE]/\Grew W1 Wa/\Grew Wa u/\NewRow slE Wa.heap.size u (O s.a s.n s.c) (takeSL m.sl fr)) (fun w' hI' hF'=>?_) (fun v1 hv=>?_)
 ·refine Does.call [O V.s.a V.s.n V.s.c,Xe Xf fr] rfl Tryz.func240 rfl rfl rfl ?_;refine(HTK.out w' (G1.out.trans hF')).mono ?_;rintro e w'' ⟨s,rfl,t2,g2⟩;exact⟨_,rfl,(HI.out _).2 (((HI.out _).1 hI').trans g2),⟨s,rfl⟩,s,w',rfl,hF',g2,t2⟩
 obtain⟨s,rfl⟩:=hv;simp only[Xs,sB,sS,sZ];iterate 7 (refine laxD_quiet rfl rfl rfl (fun K hK=>?_);go_big_quiet_op;refine hK _ ?_;clear hK K)
 refine laxD_nil fun W2 hI8 hF8=>?_
 obtain⟨s',Wa,he,ga,gb,t8⟩:=hF8;have hss:s'=s:=by
  obtain⟨a1,a2,a3⟩:=s;obtain⟨c1,c2,c3⟩:=s';simp only[Value.tuple.injEq,Array.mk.injEq,List.cons.injEq,vJ,and_true]at he;obtain⟨rfl,rfl,rfl⟩:=he;rfl
 subst hss;have NR2:Xo (NewRow slE w.heap.size W2 (O s'.a s'.n s'.c) (takeSL m.sl fr)):=show NewRow _ _ _ _ _ from t8.base (bS (G1.out.trans ga))
 have G2:=dD (G1.out.trans (ga.trans gb));have Y2:=dD (Y1.out.grew (ga.trans gb));clear he ga gb t8 hI8 hI0 hF0 hx2 hyr hne HI gd Y1 G1 HTK
 by_cases hz:TE=0
 rotate_left
 ·have hze:(TE != 0)=Xc:=by simp[hz]
  have HN:Xo (SW=(Xd,m)):=HNO.out hz;clear hz;go_wp2;go_ret;exact⟨by rw[HN.out];rfl,by rw[HN.out];exact Chg.refl HM.out G2.out⟩
 have hze:(TE != 0)=Xd:=by simp[hz]
 obtain⟨y1,j,y2,y3,y4,y5⟩:=HYES.out hz;subst y2;have HY1:Xo (SW.1=Xc):=y1;have HY4:Xo (wrongAtL m.sb.length m.sq (j:Int)=0):=y4;have HY5:Xo (SW.2=_):=y5;clear hz y1 y4 y5 HNO HYES;have BX:=dD (HM.out.box.grew G2.out)
 go_upto_region 6 with(refine wp_storeT rfl 31 (.tmp 36) (.tmp 33) rfl p 2 rfl (O s'.a s'.n s'.c) rfl [O s'.a s'.n s'.c] rfl BX.out (by simp[chL]) (by kernel_rfl) (by simp[Value.oneCell']) ?_)
 intro W4 bx4 gr4 _;have Y4:Xo (BoxT W4 b 93 [Xe Xg b0,Xe Xg b1,Xe Xg b2,Xe Xg b3,Xe Xg b4,Xe Xg b5,Xe Xg b6,Xe Xg b7,Xe Xf fr,Xh fu,Xh fd,Xe Xf ff,Xe Xf fx]):=show BoxT _ _ _ _ from Y2.out.beside gr4 (fun k e=>by cases e;omega)
 obtain⟨V4,m4,o4,d4⟩:=HM.out.setS G2.out NR2.out gr4 bx4;have M4:Xo (ChW w0 p W4 V4 { m with sl:=takeSL m.sl fr }):=m4;have O4:Xo (OutD (Dw p V) w W4):=o4;have D4:Xo (∀k,Dw p V4 k->Dw p V k\/w.heap.size<=k):=d4;have HW:Xo (∀W,Grew W4 W->Xp Tryz.prog 185 #[Xi #[O V4.sb.a V4.sb.n V4.sb.c,O V4.sq.a V4.sq.n V4.sq.c],Xe Xf (j:Int),Xi #[Xe Xg b0,Xe Xg b1,Xe Xg b2,Xe Xg b3,Xe Xg b4,Xe Xg b5,Xe Xg b6,Xe Xg b7]] W fun e w'=>∃d q:Sli,e= Xl (Xm #[Xi #[O d.a d.n d.c,O q.a q.n q.c],Xe Xf 0])/\NewDisk W.heap.size w' (Xi #[O d.a d.n d.c,O q.a q.n q.c]) (writeDP m.sb m.sq (j:Int)) (writeDQ m.sb m.sq (j:Int) (pgL ⟨b0,b1,b2,b3,b4,b5,b6,b7⟩))/\Grew W w'):=show∀W,_ from fun W hW=>by
  have kk:=write_any (Xi #[O V4.sb.a V4.sb.n V4.sb.c,O V4.sq.a V4.sq.n V4.sq.c]) m.sb m.sq (j:Int) (pgL ⟨b0,b1,b2,b3,b4,b5,b6,b7⟩) rfl W ⟨_,_,rfl,(m4.at.grew hW).sb,(m4.at.grew hW).sq⟩;rw[HY4.out]at kk;refine kk.mono ?_;rintro e w' ⟨dd,rfl,nd,g⟩;obtain⟨d,q,rfl,_,_⟩:=nd.form;exact⟨d,q,rfl,nd,g⟩
 have hpw:p<W4.heap.size:=m4.dlt p (.inl rfl);have HPB:Xo (p≠b):=show _≠_ by omega
 clear bx4 gr4 m4 o4 d4 BX Y2 G2 NR2;try simp only[Xs]
 go_upto_region 6 with fail;obtain⟨I,HI⟩:∃I:Xn->Prop,Xo (∀u,I u↔BoxT u b 93 [Xe Xg b0,Xe Xg b1,Xe Xg b2,Xe Xg b3,Xe Xg b4,Xe Xg b5,Xe Xg b6,Xe Xg b7,Xe Xf fr,Xh fu,Xh fd,Xe Xf ff,Xe Xf fx]):=⟨fun u=>_,fun _=>Iff.rfl⟩
 have hI0:I W4.drew:=(HI.out _).2 (Y4.out.grew (gW _))
 have hF0:Grew W4 W4.drew:=show Below _ _ _ from(bR _ _).drew
 have hy0:∀y:HoldI I,y.world.cell? ⟨b,0,Xb⟩=Xa (Xe Xg b0):=fun y=>((HI.out _).1 y.holds).box.c 0 rfl
 have hy1:∀y:HoldI I,y.world.cell? ⟨b,1,Xb⟩=Xa (Xe Xg b1):=fun y=>((HI.out _).1 y.holds).box.c 1 rfl
 have hy2:∀y:HoldI I,y.world.cell? ⟨b,2,Xb⟩=Xa (Xe Xg b2):=fun y=>((HI.out _).1 y.holds).box.c 2 rfl
 have hy3:∀y:HoldI I,y.world.cell? ⟨b,3,Xb⟩=Xa (Xe Xg b3):=fun y=>((HI.out _).1 y.holds).box.c 3 rfl
 have hy4:∀y:HoldI I,y.world.cell? ⟨b,4,Xb⟩=Xa (Xe Xg b4):=fun y=>((HI.out _).1 y.holds).box.c 4 rfl
 have hy5:∀y:HoldI I,y.world.cell? ⟨b,5,Xb⟩=Xa (Xe Xg b5):=fun y=>((HI.out _).1 y.holds).box.c 5 rfl
 have hy6:∀y:HoldI I,y.world.cell? ⟨b,6,Xb⟩=Xa (Xe Xg b6):=fun y=>((HI.out _).1 y.holds).box.c 6 rfl
 have hy7:∀y:HoldI I,y.world.cell? ⟨b,7,Xb⟩=Xa (Xe Xg b7):=fun y=>((HI.out _).1 y.holds).box.c 7 rfl
 have hne:Nonempty (HoldI I):=⟨⟨_,hI0⟩⟩;refine wp_lax_tailD (I:=I) 17 [(5,fun v=>v= Xi #[O V4.sb.a V4.sb.n V4.sb.c,O V4.sq.a V4.sq.n V4.sq.c]),(9,fun v=>∃d q:Sli,v= Xm #[Xi #[O d.a d.n d.c,O q.a q.n q.c],Xe Xf 0]),(16,fun _=>True)] (fun u=>Grew W4 u) hI0 hF0 mixed (by kernel_rfl) rfl rfl (by decide) ?hS (by kernel_rfl) ?_
 case hS=>
  intro x hx;simp only[mC,nM,or_false]at hx
  rcases hx with rfl | rfl | rfl
  ·exact⟨_,rfl⟩
  ·exact⟨_,sli0,sli0,rfl⟩
  exact⟨undef,trivial⟩
 simp only[Yl,Ym];iterate 2 (refine laxD_quiet rfl rfl rfl (fun K hK=>?_);go_big_quiet_op;refine hK _ ?_;clear hK K)
 refine laxD_nilc (.tmp 39) ⟨p,0,Xb⟩ rfl rfl rfl rfl ?_;simp only[Xs,sB,sS,sZ];iterate 2 (refine laxD_quiet rfl rfl rfl (fun K hK=>?_);go_big_quiet_op;refine hK _ ?_;clear hK K)
 refine laxD_spec rfl rfl (fun _ u=>Grew W4 u) (fun w' hI' hF'=>?_) (fun v1 hv=>?_)
 ·refine does_load 35 (.tmp 42) rfl p 3 rfl [O V4.sb.a V4.sb.n V4.sb.c,O V4.sq.a V4.sq.n V4.sq.c] ((M4.out.box.box.grew hF').mid 3 (fun j v hj=>by
   match j,hj with
   | 0,hj=>exact hj
   | 1,hj=>exact hj)) Tryz.underlying35 rfl (by kernel_rfl) ⟨hI',rfl,hF'⟩
 cases hv;simp only[Xs,sB,sS,sZ];iterate 3 (refine laxD_quiet rfl rfl rfl (fun K hK=>?_);go_big_quiet_op;refine hK _ ?_;clear hK K)
 refine laxD_spec rfl rfl (fun v u=>∃(d q:Sli) (Wa:Xn),v= Xm #[Xi #[O d.a d.n d.c,O q.a q.n q.c],Xe Xf 0]/\Grew W4 Wa/\Grew Wa u/\NewDisk Wa.heap.size u (Xi #[O d.a d.n d.c,O q.a q.n q.c]) (writeDP m.sb m.sq (j:Int)) (writeDQ m.sb m.sq (j:Int) (pgL ⟨b0,b1,b2,b3,b4,b5,b6,b7⟩))) (fun w' hI' hF'=>?_) (fun v1 hv=>?_)
 ·refine Does.call [Xi #[O V4.sb.a V4.sb.n V4.sb.c,O V4.sq.a V4.sq.n V4.sq.c],Xe Xf (j:Int),Xi #[Xe Xg b0,Xe Xg b1,Xe Xg b2,Xe Xg b3,Xe Xg b4,Xe Xg b5,Xe Xg b6,Xe Xg b7]] rfl Tryz.func185 rfl rfl rfl ?_;refine(HW.out w' hF').mono ?_;rintro e w'' ⟨d,q,rfl,t2,g2⟩;exact⟨_,rfl,(HI.out _).2 (((HI.out _).1 hI').grew g2),⟨d,q,rfl⟩,d,q,w',rfl,hF',g2,t2⟩
 obtain⟨d,q,rfl⟩:=hv;simp only[Xs,sB,sS,sZ];iterate 3 (refine laxD_quiet rfl rfl rfl (fun K hK=>?_);go_big_quiet_op;refine hK _ ?_;clear hK K)
 refine laxD_nilc (.tmp 38) ⟨p,0,Xb⟩ rfl rfl rfl rfl ?_;simp only[Xs,sB,sS,sZ];iterate 2 (refine laxD_quiet rfl rfl rfl (fun K hK=>?_);go_big_quiet_op;refine hK _ ?_;clear hK K)
 refine laxD_spec rfl rfl (fun _ u=>Chg w0 p W4 V4 {({ m with sl:=takeSL m.sl fr }:Ma)with sb:=writeDP m.sb m.sq (j:Int),sq:=writeDQ m.sb m.sq (j:Int) (pgL ⟨b0,b1,b2,b3,b4,b5,b6,b7⟩) } u) (fun w' hI' hF'=>?_) (fun v1 hv=>?_)
 ·obtain⟨d',q',Wa,he,ga,gb,t8⟩:=hF';have hss:d'=d/\q'=q:=by
   obtain⟨a1,a2,a3⟩:=d;obtain⟨c1,c2,c3⟩:=d';obtain⟨e1,e2,e3⟩:=q;obtain⟨f1,f2,f3⟩:=q';simp only[Value.tuple.injEq,Array.mk.injEq,List.cons.injEq,Value.agg.injEq,vJ,and_true]at he;obtain⟨⟨rfl,rfl,rfl⟩,rfl,rfl,rfl⟩:=he;exact⟨rfl,rfl⟩
  obtain⟨rfl,rfl⟩:=hss;have G8:Grew W4 w':=ga.trans gb;refine does_storeT 35 (.tmp 52) (.tmp 48) rfl p 3 rfl (Xi #[O d'.a d'.n d'.c,O q'.a q'.n q'.c]) rfl [O d'.a d'.n d'.c,O q'.a q'.n q'.c] rfl (M4.out.box.grew G8) (by simp[chL]) (by kernel_rfl) (by simp[Value.oneCell']) ?_
  intro W9 bx9 gr9 _;exact⟨(HI.out _).2 (((HI.out _).1 hI').beside gr9 (fun k e=>by cases e;exact fun e=>HPB.out e.symm)),trivial,M4.out.setSw G8 (bS ga) t8 gr9 bx9⟩
 clear hv;try simp only[Xs]
 refine laxD_nil fun W9 hI8 hF8=>?_
 obtain⟨V9,m9,o9,d9⟩:=Chg.step O4.out D4.out hF8;have M9:Xo (ChW w0 p W9 V9 _):=m9;have O9:Xo (OutD (Dw p V) w W9):=o9;have D9:Xo (∀k,Dw p V9 k->Dw p V k\/w.heap.size<=k):=d9;have hlv:=HLV.out W9 V9 j _ _ _ m9;clear hI8 hF8 hI0 hF0 hy0 hy1 hy2 hy3 hy4 hy5 hy6 hy7 hne HI m9 o9 d9 HW;go_wp2_with fail;refine hlv.mono ?_;clear hlv;rintro e W10 ⟨⟨v6,rfl⟩,h6⟩;have M10:Xo (Chg w0 p w V SW.2 W10):=show Chg _ _ _ _ _ _ by rw[HY5.out];exact Chg.step O9.out D9.out h6
 clear h6;go_wp2;go_ret;exact⟨by rw[HY1.out];rfl,M10.out⟩
def SpotCells (W:Xn) (y:Addr) (x:Nat × Nat):Prop:=W.cell? y=Xa (Xe Xf (x.1:Int))/\W.cell? { block:=y.block,off:=y.off+1 }=Xa (Xe Xf (x.2:Int))
theorem RowAt.spots {w:Xn} {v:Xq} {l:List (Nat × Nat)} (h:RowAt sptE w v l):∃a c,v= O a l.length c/\∀(j:Nat) x,l[j]? =Xa x->∃ad,a=Xa ad/\∀W,Grew w W->SpotCells W (ad.add (j*2)) x:=by
 obtain⟨a,c,h1,h2⟩:=h.rows;refine⟨a,c,h1,fun j x hj=>?_⟩
 obtain⟨ad,h3,h4⟩:=h2 j x hj;exact⟨ad,h3,fun W hW=>⟨h4 W hW 0 _ rfl,h4 W hW 1 _ rfl⟩⟩
theorem run_allocMem {w:Xn} {a:Act} {o:Oper} (ho:o.op= .alloc 29):(execOp a.eval o).run Tryz.prog w= .ok (.value (Xj (Xa ⟨w.heap.size,0,Xb⟩))) (w.alloc (Xk #[O Xb 0 0,Xe Xf 0] 29)):=by
 simp only[execOp,ho]
 go_simp
theorem cwTake_any {w0 w:Xn} {p:Nat} {V:MaV} {m:Ma} (h:ChW w0 p w V m) (hR:Rt m) (pg:Pg) (fi ix:Int) (hfr:frW (frT pg fi ix)=0) (mv:Xq) (l:List (Nat × Nat)) (hv:RowD sptE (Dw p V) w mv l) (hl:∀x∈l,x.2<64/\∃s,m.sp[x.1]? =Xa s)
  (hF:freeN (dropAll m l).fs=0->∀W1 V1,ChW w0 p W1 V1 (dropAll m l)->RowD sptE (Dw p V1) W1 mv l->Xp Tryz.prog 160 #[Xj (Xa ⟨p,0,Xb⟩),mv] W1 fun e w'=>e= Xl (Xh (freeR (dropAll m l) l).1)/\Chg w0 p W1 V1 (freeR (dropAll m l) l).2 w'):
  Xp Tryz.prog 191 #[Xj (Xa ⟨p,0,Xb⟩),Xi #[Xe Xg pg.b0,Xe Xg pg.b1,Xe Xg pg.b2,Xe Xg pg.b3,Xe Xg pg.b4,Xe Xg pg.b5,Xe Xg pg.b6,Xe Xg pg.b7],Xe Xf fi,Xe Xf ix,mv] w fun e w'=>e= Xl (Xm #[Xe Xf ((takeR m (frT pg fi ix) l).2.1:Int),Xe Xf (if(takeR m (frT pg fi ix) l).1=Xc then 0 else 10)])/\Chg w0 p w V (takeR m (frT pg fi ix) l).2.2 w':=by
 have HV:Xo (RowD sptE (Dw p V) w mv l):=hv;have HM:Xo (ChW w0 p w V m):=h;have HR:Xo (Rt m):=hR;have HL:Xo (∀x∈l,x.2<64/\∃s,m.sp[x.1]? =Xa s):=hl;have HFR:Xo (frW (frT pg fi ix)=0):=hfr;have HFF:Xo (freeN (dropAll m l).fs=0->∀W1 V1,ChW w0 p W1 V1 (dropAll m l)->RowD sptE (Dw p V1) W1 mv l->Xp Tryz.prog 160 #[Xj (Xa ⟨p,0,Xb⟩),mv] W1 fun e w'=>e= Xl (Xh (freeR (dropAll m l) l).1)/\Chg w0 p W1 V1 (freeR (dropAll m l) l).2 w'):=hF
 obtain⟨ma,mc,rfl,hmr⟩:=(hv w (OutD.refl _ _)).spots;have hbig:=(hv w (OutD.refl _ _)).short;obtain⟨L,HLL⟩:∃L,Xo (l.length=L):=⟨_,rfl⟩;rw[HLL.out]at HV HFF hbig⊢;have HDR:Xo (∀j,j<=L->Rt (dropAll m (l.take j))/\(dropAll m (l.take j)).sp.length=m.sp.length):=show∀j,_ from fun j _=>by
  obtain⟨g,_⟩:=dropAll_goes (l.take j) hR (fun x hx=>hl x (Yk hx))
  exact⟨g.rt,g.sam.spl⟩
 have HDS:Xo (∀(j:Nat) x,l[j]? =Xa x->dropAll m (l.take (j+1))=dropP (dropAll m (l.take j)) x.1 (x.2:Int)/\x.1< (dropAll m (l.take j)).sp.length/\((entM (dropAll m (l.take j)) x.1 (x.2:Int)).kind=1->holdE (dropAll m (l.take j)).fs (dropAll m (l.take j)).hand (entM (dropAll m (l.take j)) x.1 (x.2:Int)).n (-1)=0)):=show∀(j:Nat) x,_ from fun j x hx=>by
  obtain⟨g,_⟩:=dropAll_goes (l.take j) hR (fun x hx=>hl x (Yk hx))
  obtain⟨hn,s,hs⟩:=hl x (mG hx);have hql:x.1< (dropAll m (l.take j)).sp.length:=by rw[g.sam.spl];exact(gS.1 hs).1
  have hs':=gE hql;refine⟨?_,hql,drop_hold g.rt hs' hn⟩;rw[Ye,hx,dropP_M g.rt hs' hn];exact dropAll_snoc _ _ _
 have HPL:Xo (p<w.heap.size):=h.dlt p (.inl rfl);have HD:Xo (∀k,Dw p V k->k<w.heap.size):=h.dlt;clear h hv hR hl hfr hmr hF;have HTR:Xo (takeR m (frT pg fi ix) l=if(roomR (dropAll m l) l).1=Xc then(Xc,freeI (roomR (dropAll m l) l).2.fs,{(roomR (dropAll m l) l).2 with fs:=(roomR (dropAll m l) l).2.fs.set (freeI (roomR (dropAll m l) l).2.fs) (frT pg fi ix) })else(Xd,0,(roomR (dropAll m l) l).2)):=show _=_ from rfl
 obtain⟨TR,HT⟩:∃TR,Xo (takeR m (frT pg fi ix) l=TR):=⟨_,rfl⟩;rw[HT.out]at HTR⊢;clear HT;obtain⟨er,HER⟩:∃er:Int,Xo ((if TR.1=Xc then(0:Int)else 10)=er):=⟨_,rfl⟩;rw[HER.out];obtain⟨b0,b1,b2,b3,b4,b5,b6,b7⟩:=pg;simp only;obtain⟨b,HB⟩:∃b,Xo (w.heap.size=b):=⟨_,rfl⟩;obtain⟨W0,hW0⟩:∃W0,w.alloc (Xk #[Xe Xg b0,Xe Xg b1,Xe Xg b2,Xe Xg b3,Xe Xg b4,Xe Xg b5,Xe Xg b6,Xe Xg b7] 91)=W0:=⟨_,rfl⟩;have G0:=gA hW0
 have Y0:=xPT hW0 HB
 have HW0:Xo (_=W0):=hW0;have HND:Xo (¬Dw p V b):=show¬_ from fun e=>by have:=HD.out _ e;have:=HB.out;omega
 clear hW0
 go_enter Tryz.func191,Tryz.ntmps191
 go_upto_region 1 with fail;rw[HW0.out,HB.out];clear HW0;go_wp2
 go_loopg [19] L (fun gg s19 wr=>∃(j:Nat) (Vi:MaV),j<=L/\L - j<=gg/\s19= Xe Xf j/\Xo (ChW w0 p wr Vi (dropAll m (l.take j)))/\Xo (OutD (Dw p V) w wr)/\Xo (∀k,Dw p Vi k->Dw p V k\/w.heap.size<=k)/\Xo (BoxT wr b 91 [Xe Xg b0,Xe Xg b1,Xe Xg b2,Xe Xg b3,Xe Xg b4,Xe Xg b5,Xe Xg b6,Xe Xg b7]))
 case atStart=>exact⟨0,V,nZ _,by omega,rfl,HM.out.grew G0.out,OutD.grew G0.out,(fun _ h=> .inl h:∀k,Dw p V k->Dw p V k\/w.heap.size<=k),Y0.out⟩
 clear G0 Y0 HM;obtain⟨j,Vi,hj,hgg,rfl,MI,OI,DI,YI⟩:=hrel
 by_cases hlt:j<L
 ·have hltz:(j:Int)< (L:Int):=by omega
  obtain⟨x,HX⟩:∃x,Xo (l[j]? =Xa x):=⟨_,gE (by rw[HLL.out];exact hlt)⟩
  obtain⟨_,_,hve,hrw⟩:=(HV.out wr OI.out).spots;simp only[vJ]at hve;obtain⟨ad,had,hce⟩:=hrw j x HX.out;rw[<-hve.1]at had;subst had;obtain⟨d0,d1⟩:=hce wr (Grew.refl _);obtain⟨e1,e2,e3⟩:=HDS.out j x HX.out;have HE1:Xo (dropAll m (l.take (j+1))=dropP (dropAll m (l.take j)) x.1 (x.2:Int)):=e1;obtain⟨x0,x1⟩:=x;simp only at d0 d1 e2 e3 HE1;have hdr:=cwDrop_any (MI.out.grew (grew_alloc wr (Xk #[Xe Xf (x0:Int),Xe Xf (x1:Int)] 141))) x0 e2 (x1:Int) e3;rw[<-HE1.out]at hdr;clear hve hrw hce e1 e2 e3;go_wp2_with fail;refine hdr.mono ?_;clear hdr d0 d1;rintro e W4 ⟨⟨v4,rfl⟩,h4⟩;obtain⟨V4,c4,o4,d4⟩:=Chg.step OI.out DI.out (Chg.of_grew (grew_alloc _ _) h4);have M4:Xo (ChW w0 p W4 V4 (dropAll m (l.take (j+1)))):=c4;have O4:Xo (OutD (Dw p V) w W4):=o4;have D4:Xo (∀k,Dw p V4 k->Dw p V k\/w.heap.size<=k):=d4;have Y4:Xo (BoxT W4 b 91 [Xe Xg b0,Xe Xg b1,Xe Xg b2,Xe Xg b3,Xe Xg b4,Xe Xg b5,Xe Xg b6,Xe Xg b7]):=show BoxT _ _ _ _ by
   obtain⟨_,_,o5,_⟩:=h4;exact(YI.out.grew (grew_alloc _ _)).outD o5 (MI.out.offB YI.out (by decide) (by decide) (by decide) (by decide))
  clear h4 c4 o4 d4 MI OI DI YI;go_wp2
  go_roundg (L -(j+1))
  case measure=>omega
  exact⟨j+1,V4,by omega,by omega,by go_num,M4.out,O4.out,D4.out,Y4.out⟩
 have hltz:¬(j:Int)< (L:Int):=by omega
 have hjl:l.take j=l:=Xw (by rw[HLL.out];omega)
 rw[hjl]at MI;have HR1:Xo (Rt (dropAll m l)):=show Rt _ by have:=(HDR.out j hj).1;rw[hjl]at this;exact this
 clear hjl HDR HDS;obtain⟨m1,HM1⟩:∃m1,Xo (dropAll m l=m1):=⟨_,rfl⟩;rw[HM1.out]at MI HR1 HFF HTR;obtain⟨h1,h2,h3⟩:=room_goes HR1.out l;have HG2:Xo (Rt (roomR m1 l).2):=h1.rt;have HF2:Xo ((roomR m1 l).1=Xc->0<freeN (roomR m1 l).2.fs):=show _->_ from h2
 have HRO:Xo (roomR m1 l=if freeN m1.fs=0 then freeR m1 l else(Xc,m1)):=show _=_ from rfl
 clear h1 h2 h3;obtain⟨RR,HRR⟩:∃RR,Xo (roomR m1 l=RR):=⟨_,rfl⟩;rw[HRR.out]at HG2 HF2 HRO HTR;clear HRR;obtain⟨bo,m2⟩:=RR;simp only at HG2 HF2 HTR;have hfree:Xp Tryz.prog 222 #[Xi #[O Vi.f.a Vi.f.n Vi.f.c,Xe Xf m1.hand]] wr fun e w'=>e= Xl (Xe Xf (freeN m1.fs:Int))/\Grew wr w':=by
  obtain⟨n1,-⟩:=MI.out.at.ns;have kk:=MI.out.at.fs;rw[n1]at kk⊢;rw[<-freeU_eq];exact memFreeU_any Vi.f.a Vi.f.c m1.fs m1.hand wr kk
 have x0:=MI.out.box.box.c 0 rfl;have x1:=MI.out.box.box.c 1 rfl;go_upto_region 6 with fail
 go_cut [39] (fun s39 wx=>∃V2:MaV,s39= Xh (!bo)/\Xo (ChW w0 p wx V2 m2)/\Xo (OutD (Dw p V) w wx)/\Xo (∀k,Dw p V2 k->Dw p V k\/w.heap.size<=k)/\Xo (BoxT wx b 91 [Xe Xg b0,Xe Xg b1,Xe Xg b2,Xe Xg b3,Xe Xg b4,Xe Xg b5,Xe Xg b6,Xe Xg b7]))
 case first=>
  go_wp2_with fail;refine hfree.mono ?_;clear hfree x0 x1;rintro e W6 ⟨rfl,g6⟩;have M6:=dD (MI.out.grew g6);have O6:=dD (OI.out.trans (OutD.grew g6));have Y6:=dD (YI.out.grew g6);clear g6 MI OI YI
  by_cases h0:freeN m1.fs=0
  ·have hz:((freeN m1.fs:Int) == 0)=Xc:=by rw[h0];rfl
   have HE2:Xo ((bo,m2)=freeR m1 l):=show _=_ by rw[HRO.out,if_pos h0]
   have hff:=HFF.out h0 W6 Vi M6.out (fun W hW=>HV.out W (OutD.far O6.out DI.out hW))
   obtain⟨fz,HFZ⟩:∃fz:Int,Xo ((freeN m1.fs:Int)=fz):=⟨_,rfl⟩;rw[HFZ.out]at hz⊢;rw[<-HE2.out]at hff;clear h0 HE2;go_wp2_with fail;refine hff.mono ?_;clear hff;rintro e W7 ⟨rfl,V7,c7,o7,d7⟩;have O7:Xo (OutD (Dw p V) w W7):=OutD.far O6.out DI.out o7;have D7:Xo (∀k,Dw p V7 k->Dw p V k\/w.heap.size<=k):=show∀k,_ from fun k hk=>(d7 k hk).elim (fun e=>DI.out k e) (fun e=> .inr (nT O6.out.size e))
   have Y7:Xo (BoxT W7 b 91 [Xe Xg b0,Xe Xg b1,Xe Xg b2,Xe Xg b3,Xe Xg b4,Xe Xg b5,Xe Xg b6,Xe Xg b7]):=Y6.out.outD o7 (M6.out.offB Y6.out (by decide) (by decide) (by decide) (by decide))
   have M7:Xo (ChW w0 p W7 V7 m2):=c7;clear c7 o7 d7 hz;simp only;cases bo
   all_goals (go_wp2;go_meet;exact⟨V7,rfl,M7,O7,D7,Y7⟩)
  have hz:((freeN m1.fs:Int) == 0)=Xd:=by simpa using h0
  have HE2:Xo ((bo,m2)=(Xc,m1)):=show _=_ by rw[HRO.out,if_neg h0]
  obtain⟨fz,HFZ⟩:∃fz:Int,Xo ((freeN m1.fs:Int)=fz):=⟨_,rfl⟩;rw[HFZ.out]at hz⊢;clear h0;have he2:=HE2.out;simp only[pJ]at he2;obtain⟨rfl,rfl⟩:=he2;go_wp2
  go_meet
  exact⟨Vi,rfl,M6,O6,DI,Y6⟩
 clear hfree x0 x1 MI OI DI YI HFF HRO;obtain⟨V2,rfl,M2,O2,D2,Y2⟩:=hcut
 cases bo with
 | false=>
  rw[if_neg (by decide)]at HTR
  have M9:Xo (Chg w0 p w V TR.2.2 wc):=show Chg _ _ _ _ _ _ by rw[HTR.out];exact⟨V2,M2.out,O2.out,D2.out⟩
  go_wp2
  go_ret2
  exact⟨by rw[<-HER.out,HTR.out];rfl,M9.out⟩
 | true=>
  rw[if_pos rfl]at HTR;obtain⟨f1,f2,fr,f3,f4⟩:=free_at (HF2.out rfl);obtain⟨kk,HKK⟩:∃kk,Xo (freeI m2.fs=kk):=⟨_,rfl⟩;rw[HKK.out]at f1 f2 f3 HTR;have HTK:Xo (∀W,Grew wc W->Xp Tryz.prog 223 #[Xi #[O V2.f.a V2.f.n V2.f.c,Xe Xf m2.hand],Xi #[Xe Xg b0,Xe Xg b1,Xe Xg b2,Xe Xg b3,Xe Xg b4,Xe Xg b5,Xe Xg b6,Xe Xg b7],Xe Xf fi,Xe Xf ix] W fun e w'=>∃s:Sli,e= Xl (Xm #[Xi #[O s.a s.n s.c,Xe Xf m2.hand],Xe Xf (kk:Int),Xe Xf 0])/\OwnRow frmE wc.heap.size w' (O s.a s.n s.c) (m2.fs.set kk (frT ⟨b0,b1,b2,b3,b4,b5,b6,b7⟩ fi ix))/\Grew W w'):=show∀W,_ from fun W hW=>by
   obtain⟨n1,-⟩:=M2.out.at.ns;have k:=(M2.out.at.grew hW).fs;rw[n1]at k⊢;refine(takeO V2.f.a V2.f.c m2.fs m2.hand ⟨b0,b1,b2,b3,b4,b5,b6,b7⟩ fi ix W k HG2.out.parts.1 HFR.out kk f1 f2).mono ?_;rintro e w' ⟨b,rfl,nr,g⟩;have nr':OwnRow frmE W.heap.size w' b (m2.fs.set kk (frT ⟨b0,b1,b2,b3,b4,b5,b6,b7⟩ fi ix)):=nr;obtain⟨a,c,rfl,_⟩:=nr'.at.rows;exact⟨⟨a,_,c⟩,rfl,nr'.base (bS hW),g⟩
  clear f1 f2 f3 f4 HF2 HG2 HFR;go_upto_region 8 with fail;obtain⟨I,HI⟩:∃I:Xn->Prop,Xo (∀u,I u↔Grew wc u):=⟨fun u=>Grew wc u,fun _=>Iff.rfl⟩
  have hI0:I wc.drew:=(HI.out _).2 (gW _)
  have hne:Nonempty (HoldI I):=⟨⟨_,hI0⟩⟩;have hx0:∀y:HoldI I,y.world.cell? ⟨p,0,Xb⟩=_:=fun y=>(M2.out.box.box.grew ((HI.out _).1 y.holds)).c 0 rfl
  have hx1:∀y:HoldI I,y.world.cell? ⟨p,1,Xb⟩=_:=fun y=>(M2.out.box.box.grew ((HI.out _).1 y.holds)).c 1 rfl
  have hy0:∀y:HoldI I,y.world.cell? ⟨b,0,Xb⟩=_:=fun y=>(Y2.out.box.grew ((HI.out _).1 y.holds)).c 0 rfl
  have hy1:∀y:HoldI I,y.world.cell? ⟨b,1,Xb⟩=_:=fun y=>(Y2.out.box.grew ((HI.out _).1 y.holds)).c 1 rfl
  have hy2:∀y:HoldI I,y.world.cell? ⟨b,2,Xb⟩=_:=fun y=>(Y2.out.box.grew ((HI.out _).1 y.holds)).c 2 rfl
  have hy3:∀y:HoldI I,y.world.cell? ⟨b,3,Xb⟩=_:=fun y=>(Y2.out.box.grew ((HI.out _).1 y.holds)).c 3 rfl
  have hy4:∀y:HoldI I,y.world.cell? ⟨b,4,Xb⟩=_:=fun y=>(Y2.out.box.grew ((HI.out _).1 y.holds)).c 4 rfl
  have hy5:∀y:HoldI I,y.world.cell? ⟨b,5,Xb⟩=_:=fun y=>(Y2.out.box.grew ((HI.out _).1 y.holds)).c 5 rfl
  have hy6:∀y:HoldI I,y.world.cell? ⟨b,6,Xb⟩=_:=fun y=>(Y2.out.box.grew ((HI.out _).1 y.holds)).c 6 rfl
  have hy7:∀y:HoldI I,y.world.cell? ⟨b,7,Xb⟩=_:=fun y=>(Y2.out.box.grew ((HI.out _).1 y.holds)).c 7 rfl
  refine wp_lax_tailE (I:=I) 17 [(8,⟨.const (Xh Xd),fun v=>∃s:Sli,v= Xm #[Xi #[O s.a s.n s.c,Xe Xf m2.hand],Xe Xf (kk:Int),Xe Xf 0],fun _ v u=>∃s:Sli,v= Xm #[Xi #[O s.a s.n s.c,Xe Xf m2.hand],Xe Xf (kk:Int),Xe Xf 0]/\OwnRow frmE wc.heap.size u (O s.a s.n s.c) (m2.fs.set kk (frT ⟨b0,b1,b2,b3,b4,b5,b6,b7⟩ fi ix)),fun p q=>Grew p q,fun _=>True⟩),(13,⟨.const (Xh Xd),fun v=>∃g,v= Xj (Xa ⟨g,0,Xb⟩),fun _ v u=>∃g cs,v= Xj (Xa ⟨g,0,Xb⟩)/\wc.heap.size<=g/\BoxT u g 29 cs/\cs.length=2,fun p q=>Grew p q,fun _=>True⟩),(14,⟨.tmp 14,fun _=>True,fun r _ u=>∃g,∃s:Sli,r= Xj (Xa ⟨g,0,Xb⟩)/\wc.heap.size<=g/\BoxT u g 29 [O s.a s.n s.c,Xe Xf m2.hand]/\OwnRow frmE wc.heap.size u (O s.a s.n s.c) (m2.fs.set kk (frT ⟨b0,b1,b2,b3,b4,b5,b6,b7⟩ fi ix)),fun p q=>∃g cs ds,wc.heap.size<=g/\p.grownBy q (Xa g)/\BoxT p g 29 ds/\BoxT q g 29 cs/\cs.length=2,fun _=>True⟩)] hI0 mixed (by kernel_rfl) (by kernel_rfl) rfl rfl (by decide) ?hS ?hp ?hpre ?hpr0 ?_
  case hS=>
   intro x hx;simp only[mC,nM,or_false]at hx
   rcases hx with rfl | rfl | rfl
   ·exact⟨_,sli0,rfl⟩
   ·exact⟨_,0,rfl⟩
   exact⟨Xh Xc,trivial⟩
  case hp=>
   intro k s j t hk hj hjk hanc r v p q hst hpo;have hk':=lookup_in hk;have hj':=lookup_in hj;clear hk hj;simp only[mC,pJ,nM,or_false]at hk' hj'
   rcases hk' with⟨rfl,rfl⟩ | ⟨rfl,rfl⟩ | ⟨rfl,rfl⟩
   ·obtain⟨s,h1,h2⟩:=hpo
    rcases hj' with⟨rfl,rfl⟩ | ⟨rfl,rfl⟩ | ⟨rfl,rfl⟩
    ·exact absurd rfl hjk
    ·exact⟨s,h1,h2.grew hst⟩
    obtain⟨g',cs,ds,q1,q2,q3,q4,q5⟩:=hst;exact⟨s,h1,h2.grown q2 fun g hg e=>by cases e;exact h2.ne q3 (by decide) g' hg rfl⟩
   ·obtain⟨g,cs,h1,h2,h3,h4⟩:=hpo
    rcases hj' with⟨rfl,rfl⟩ | ⟨rfl,rfl⟩ | ⟨rfl,rfl⟩
    ·exact⟨g,cs,h1,h2,h3.grew hst,h4⟩
    ·exact absurd rfl hjk
    obtain⟨g',cs',ds,q1,q2,q3,q4,q5⟩:=hst
    by_cases e:g=g'
    ·subst e;exact⟨g,_,h1,h2,q4,q5⟩
    exact⟨g,cs,h1,h2,h3.beside q2 (fun k hk=>by cases hk;exact e),h4⟩
   obtain⟨g,s,h1,h2,h3,h4⟩:=hpo
   rcases hj' with⟨rfl,rfl⟩ | ⟨rfl,rfl⟩ | ⟨rfl,rfl⟩
   ·exact⟨g,s,h1,h2,h3.grew hst,h4.grew hst⟩
   ·exact⟨g,s,h1,h2,h3.grew hst,h4.grew hst⟩
   exact absurd rfl hjk
  case hpre=>
   intro j t k s hj hk hjk p q hst hpr;have hj':=lookup_in hj;simp only[mC,pJ,nM,or_false]at hj'
   rcases hj' with⟨rfl,rfl⟩ | ⟨rfl,rfl⟩ | ⟨rfl,rfl⟩ <;> trivial
  case hpr0=>
   intro k t hk;have hk':=lookup_in hk;simp only[mC,pJ,nM,or_false]at hk'
   rcases hk' with⟨rfl,rfl⟩ | ⟨rfl,rfl⟩ | ⟨rfl,rfl⟩ <;> trivial
  simp only[Yl,Ym];refine laxE_quiet rfl rfl rfl (fun K hK=>?_);go_big_quiet_op;refine hK _ ?_;clear hK K
  refine laxE_nilc (.tmp 41) ⟨p,0,Xb⟩ rfl rfl rfl rfl ?_;simp only[Xs,sB,sS,sZ];iterate 6 (refine laxE_quiet rfl rfl rfl (fun K hK=>?_);go_big_quiet_op;refine hK _ ?_;clear hK K)
  refine laxE_spec rfl rfl (fun w' hI' hpr hF=>?_) (fun v1 hv=>?_)
  ·refine Does.call [Xi #[O V2.f.a V2.f.n V2.f.c,Xe Xf m2.hand],Xi #[Xe Xg b0,Xe Xg b1,Xe Xg b2,Xe Xg b3,Xe Xg b4,Xe Xg b5,Xe Xg b6,Xe Xg b7],Xe Xf fi,Xe Xf ix] rfl Tryz.func223 rfl rfl rfl ?_;refine(HTK.out w' ((HI.out _).1 hI')).mono ?_;rintro e w'' ⟨s,rfl,ow,gg⟩;exact⟨_,rfl,(HI.out _).2 (((HI.out _).1 hI').trans gg),gg,⟨s,rfl⟩,s,rfl,ow⟩
  obtain⟨s,rfl⟩:=hv;simp only[Xs,sB,sS,sZ];iterate 4 (refine laxE_quiet rfl rfl rfl (fun K hK=>?_);go_big_quiet_op;refine hK _ ?_;clear hK K)
  refine laxE_spec rfl rfl (fun w' hI' hpr hF=>?_) (fun v1 hv=>?_)
  ·refine Does.step (v:= Xj (Xa ⟨w'.heap.size,0,Xb⟩)) (w':=w'.alloc (Xk #[O Xb 0 0,Xe Xf 0] 29)) (run_allocMem rfl) ⟨(HI.out _).2 (((HI.out _).1 hI').trans (grew_alloc _ _)),grew_alloc _ _,⟨_,rfl⟩,_,_,rfl,bS ((HI.out _).1 hI'),BoxT.top _ [O Xb 0 0,Xe Xf 0] _ rfl,rfl⟩
  obtain⟨pq,rfl⟩:=hv;simp only[Xs,sB,sS,sZ];refine laxE_spec rfl rfl (fun w' hI' hpr hF=>?_) (fun v1 hv=>?_)
  ·obtain⟨g,cs,hg1,hg2,hg3,hg4⟩:=hF 13 (by kernel_rfl)
   simp only[Value.pointer.injEq,Option.some.injEq,Addr.mk.injEq,and_true]at hg1;subst hg1;obtain⟨s',he,ow⟩:=hF 8 (by kernel_rfl)
   have hss:s'=s:=by
    obtain⟨a1,a2,a3⟩:=s;obtain⟨b1,b2,b3⟩:=s';simp only[Value.tuple.injEq,Array.mk.injEq,List.cons.injEq,Value.agg.injEq,vJ,and_true]at he;obtain⟨rfl,rfl,rfl⟩:=he;rfl
   subst hss;refine Does.storeAllT 29 (.tmp 14) (.tmp 50) rfl pq rfl [O s'.a s'.n s'.c,Xe Xf m2.hand] rfl hg3 (by rw[hg4];rfl) (by rw[hg4];kernel_rfl) (by simp[Value.oneCell']) fun w'' b1 b2 b3=>?_
   exact⟨(HI.out _).2 (grew_grown ((HI.out _).1 hI') b2 hg2),⟨pq,_,_,hg2,b2,hg3,b1,rfl⟩,trivial,pq,s',rfl,hg2,b1,ow.grown b2 fun g hg e=>by cases e;exact ow.ne hg3 (by decide) pq hg rfl⟩
  simp only[Xs];iterate 2 (refine laxE_quiet rfl rfl rfl (fun K hK=>?_);go_big_quiet_op;refine hK _ ?_;clear hK K)
  refine laxE_nil fun W4 hI4 hF=>?_
  obtain⟨g',s',hg1,hg3,hg2,ow⟩:=hF 14;have hg1':(Value.pointer (Xa ⟨pq,0,Xb⟩):Xq)= Xj (Xa ⟨g',0,Xb⟩):=hg1;simp only[Value.pointer.injEq,Option.some.injEq,Addr.mk.injEq,and_true]at hg1';subst hg1';have g4:=(HI.out _).1 hI4;have G4:Xo (Grew wc W4):=g4;have P4:Xo (BoxT W4 pq 29 [O s'.a s'.n s'.c,Xe Xf m2.hand]):=hg2;have OW:Xo (OwnRow frmE wc.heap.size W4 (O s'.a s'.n s'.c) (m2.fs.set kk (frT ⟨b0,b1,b2,b3,b4,b5,b6,b7⟩ fi ix))):=ow;have B4:=dD (M2.out.box.grew g4);clear hF hI4 hI0 hne hx0 hx1 hy0 hy1 hy2 hy3 hy4 hy5 hy6 hy7 g4 hg1 hg2 hg3 ow HI HTK Y2;have f0:=P4.out.box.c 0 rfl;have f1:=P4.out.box.c 1 rfl
  go_upto_region 12 with(refine wp_storeT rfl 29 (.tmp 60) (.tmp 57) rfl p 0 rfl (Xi #[O s'.a s'.n s'.c,Xe Xf m2.hand]) rfl [O s'.a s'.n s'.c,Xe Xf m2.hand] rfl B4.out (by simp[chL]) (by kernel_rfl) (by simp[Value.oneCell']) ?_)
  intro W5 bx5 gr5 _;have M5:Xo (Chg w0 p w V TR.2.2 W5):=show Chg _ _ _ _ _ _ by
   rw[HTR.out];exact Chg.step O2.out D2.out (M2.out.setF G4.out OW.out gr5 bx5)
  clear f0 f1 bx5 gr5;go_wp2
  go_ret2
  exact⟨by rw[<-HER.out,HTR.out];rfl,M5.out⟩
theorem cwCopy_any {w0 w:Xn} {p:Nat} {V:MaV} {m:Ma} (h:ChW w0 p w V m) (hR:Rt m) (pg:Pg) (mv:Xq) (l:List (Nat × Nat)) (hv:RowD sptE (Dw p V) w mv l) (hl:∀x∈l,x.2<64/\∃s,m.sp[x.1]? =Xa s) (hn:l≠[]) (h9:l.length<=900)
  (hF:freeN (dropAll m l).fs=0->∀W1 V1,ChW w0 p W1 V1 (dropAll m l)->RowD sptE (Dw p V1) W1 mv l->Xp Tryz.prog 160 #[Xj (Xa ⟨p,0,Xb⟩),mv] W1 fun e w'=>e= Xl (Xh (freeR (dropAll m l) l).1)/\Chg w0 p W1 V1 (freeR (dropAll m l) l).2 w'):
  Xp Tryz.prog 232 #[Xj (Xa ⟨p,0,Xb⟩),Xi #[Xe Xg pg.b0,Xe Xg pg.b1,Xe Xg pg.b2,Xe Xg pg.b3,Xe Xg pg.b4,Xe Xg pg.b5,Xe Xg pg.b6,Xe Xg pg.b7],mv] w fun e w'=>e= Xl (Xm #[Xe Xf ((copyR m pg l).2.1:Int),Xe Xf (if(copyR m pg l).1=Xc then 0 else 10)])/\Chg w0 p w V (copyR m pg l).2.2 w':=by
 have HV:Xo (RowD sptE (Dw p V) w mv l):=hv;have HM:Xo (ChW w0 p w V m):=h;have HD:Xo (∀k,Dw p V k->k<w.heap.size):=h.dlt;have HRG:=room_goes (dropAll_goes l hR hl).1.rt l;have HDS:Xo ((dropAll m l).sp.length=m.sp.length):=(dropAll_goes l hR hl).1.sam.spl;have HL:Xo (∀x∈l,x.2<64/\x.1<m.sp.length):=show∀x∈l,_ from fun x hx=>by
  obtain⟨a,s,b⟩:=hl x hx;exact⟨a,(gS.1 b).1⟩
 obtain⟨b0,b1,b2,b3,b4,b5,b6,b7⟩:=pg;simp only;have HTK:Xo (∀W,Grew w W->Xp Tryz.prog 191 #[Xj (Xa ⟨p,0,Xb⟩),Xi #[Xe Xg b0,Xe Xg b1,Xe Xg b2,Xe Xg b3,Xe Xg b4,Xe Xg b5,Xe Xg b6,Xe Xg b7],Xe Xf (-1),Xe Xf 0,mv] W fun e w'=>e= Xl (Xm #[Xe Xf ((takeR m (frT ⟨b0,b1,b2,b3,b4,b5,b6,b7⟩ (-1) 0) l).2.1:Int),Xe Xf (if(takeR m (frT ⟨b0,b1,b2,b3,b4,b5,b6,b7⟩ (-1) 0) l).1=Xc then 0 else 10)])/\Chg w0 p W V (takeR m (frT ⟨b0,b1,b2,b3,b4,b5,b6,b7⟩ (-1) 0) l).2.2 w'):=show∀W,_ from fun W hW=>cwTake_any (h.grew hW) hR ⟨b0,b1,b2,b3,b4,b5,b6,b7⟩ (-1) 0 (fr_take (.inl ⟨rfl,rfl⟩)) mv l (fun W1 h1=>hv W1 ((OutD.grew hW).trans h1)) hl hF
 have HCR:Xo (copyR m ⟨b0,b1,b2,b3,b4,b5,b6,b7⟩ l=if(roomR (dropAll m l) l).1=Xc then(Xc,freeI (roomR (dropAll m l) l).2.fs,copyM (roomR (dropAll m l) l).2 (freeI (roomR (dropAll m l) l).2.fs) ⟨b0,b1,b2,b3,b4,b5,b6,b7⟩ Xc l)else(Xd,0,(roomR (dropAll m l) l).2)):=show _=_ from rfl
 have HTR:Xo (takeR m (frT ⟨b0,b1,b2,b3,b4,b5,b6,b7⟩ (-1) 0) l=if(roomR (dropAll m l) l).1=Xc then(Xc,freeI (roomR (dropAll m l) l).2.fs,{(roomR (dropAll m l) l).2 with fs:=(roomR (dropAll m l) l).2.fs.set (freeI (roomR (dropAll m l) l).2.fs) (frT ⟨b0,b1,b2,b3,b4,b5,b6,b7⟩ (-1) 0) })else(Xd,0,(roomR (dropAll m l) l).2)):=show _=_ from rfl
 obtain⟨CR,HC⟩:∃CR,Xo (copyR m ⟨b0,b1,b2,b3,b4,b5,b6,b7⟩ l=CR):=⟨_,rfl⟩;obtain⟨TR,HT⟩:∃TR,Xo (takeR m (frT ⟨b0,b1,b2,b3,b4,b5,b6,b7⟩ (-1) 0) l=TR):=⟨_,rfl⟩;rw[HC.out]at HCR⊢;obtain⟨er,HER⟩:∃er:Int,Xo ((if CR.1=Xc then(0:Int)else 10)=er):=⟨_,rfl⟩;rw[HER.out];rw[HT.out]at HTR HTK;clear HC HT;obtain⟨h1,h2,-⟩:=HRG;have HSP:Xo ((roomR (dropAll m l) l).2.sp.length=m.sp.length):=show _=_ by rw[h1.sam.spl,HDS.out]
 have HG2:Xo (Rt (roomR (dropAll m l) l).2):=h1.rt;have HF2:Xo ((roomR (dropAll m l) l).1=Xc->0<freeN (roomR (dropAll m l) l).2.fs):=show _->_ from h2
 obtain⟨ma,mc,rfl,hmr⟩:=(hv w (OutD.refl _ _)).spots;have hbig:=(hv w (OutD.refl _ _)).short;clear h1 h2 h hv hR hl hF hmr HDS;obtain⟨RR,HRR⟩:∃RR,Xo (roomR (dropAll m l) l=RR):=⟨_,rfl⟩;rw[HRR.out]at HG2 HF2 HCR HTR HSP;clear HRR;obtain⟨bo,m2⟩:=RR;simp only at HG2 HF2 HCR HTR HSP;have HLN:Xo (l≠[]):=hn;have HL9:Xo (l.length<=900):=h9;clear hn h9;obtain⟨L,HLL⟩:∃L,Xo (l.length=L):=⟨_,rfl⟩;rw[HLL.out]at HV HTK hbig⊢;obtain⟨b,HB⟩:∃b,Xo (w.heap.size=b):=⟨_,rfl⟩;obtain⟨W0,hW0⟩:∃W0,w.alloc (Xk #[Xe Xg b0,Xe Xg b1,Xe Xg b2,Xe Xg b3,Xe Xg b4,Xe Xg b5,Xe Xg b6,Xe Xg b7] 91)=W0:=⟨_,rfl⟩;have G0:=gA hW0
 have Y0:=xPT hW0 HB
 have HW0:Xo (_=W0):=hW0;clear hW0;have htk:=HTK.out W0 G0.out
 go_enter Tryz.func232,Tryz.ntmps232
 go_upto_region 1 with fail;rw[HW0.out,HB.out];clear HW0 HTK;obtain⟨y0,y1,y2,y3,y4,y5,y6,y7⟩:=Y0.out.box.c8
 cases bo with
 | false=>
  rw[if_neg (by decide)]at HCR HTR
  rw[HTR.out]at htk;simp only[Bool.false_eq_true,if_false]at htk;go_wp2_with fail;refine htk.mono ?_;clear htk y0 y1 y2 y3 y4 y5 y6 y7;rintro e W1 ⟨rfl,h1⟩;have M9:Xo (Chg w0 p w V CR.2.2 W1):=show Chg _ _ _ _ _ _ by rw[HCR.out];exact Chg.of_grew G0.out h1
  clear h1;go_wp2
  go_ret2
  exact⟨by rw[<-HER.out,HCR.out];rfl,M9.out⟩
 | true=>
  rw[if_pos rfl]at HCR HTR;obtain⟨f1,f2,fr,f3,f4⟩:=free_at (HF2.out rfl);obtain⟨kk,HKK⟩:∃kk,Xo (freeI m2.fs=kk):=⟨_,rfl⟩;rw[HKK.out]at f3 HTR HCR;obtain⟨c1,c2,c3⟩:=copy_steps HG2.out f3 ⟨b0,b1,b2,b3,b4,b5,b6,b7⟩ (fun x hx=>by rw[HSP.out];exact HL.out x hx) HLN.out HL9.out
  rw[<-c3]at HCR;clear c3;rw[HTR.out]at htk;simp only[if_true]at htk;obtain⟨mt,HMT⟩:∃mt:Ma,Xo (({ m2 with fs:=m2.fs.set kk (frT ⟨b0,b1,b2,b3,b4,b5,b6,b7⟩ (-1) 0) }:Ma)=mt):=⟨_,rfl⟩;rw[HMT.out]at HCR c1 c2 htk;have HJ:Xo (∀j,j<=L->∀x,l[j]? =Xa x->holdE (joinAll mt kk (l.take j)).fs (joinAll mt kk (l.take j)).hand (kk:Int) 1=0/\joinAll mt kk (l.take (j+1))=joinP (joinAll mt kk (l.take j)) x.1 (x.2:Int) (kk:Int)/\x.1< (joinAll mt kk (l.take j)).sp.length):=show∀j,_ from fun j hj x hx=>(c1 j (by rw[HLL.out];exact hj)).2 x hx
  have HE1:Xo (holdE (joinAll mt kk l).fs (joinAll mt kk l).hand (kk:Int) (-1)=0):=c2;clear c1 c2 f1 f2 f3 f4 HTR HMT HG2 HF2 HSP HL HLN HL9 HKK;go_wp2_with fail;refine htk.mono ?_;clear htk y0 y1 y2 y3 y4 y5 y6 y7;rintro e W1 ⟨rfl,h1⟩;obtain⟨V1,m1,o1,d1⟩:=Chg.of_grew G0.out h1;have M1:Xo (ChW w0 p W1 V1 mt):=m1;have O1:Xo (OutD (Dw p V) w W1):=o1;have D1:Xo (∀k,Dw p V1 k->Dw p V k\/w.heap.size<=k):=d1;clear h1 m1 o1 d1;go_wp2
  go_loopg [24] L (fun gg s24 wr=>∃(j:Nat) (Vi:MaV),j<=L/\L - j<=gg/\s24= Xe Xf j/\Xo (ChW w0 p wr Vi (joinAll mt kk (l.take j)))/\Xo (OutD (Dw p V) w wr)/\Xo (∀k,Dw p Vi k->Dw p V k\/w.heap.size<=k))
  case atStart=>exact⟨0,V1,nZ _,by omega,rfl,M1,O1,D1⟩
  clear M1 O1 D1;obtain⟨j,Vi,hj,hgg,rfl,MI,OI,DI⟩:=hrel
  by_cases hlt:j<L
  ·have hltz:(j:Int)< (L:Int):=by omega
   obtain⟨x,HX⟩:∃x,Xo (l[j]? =Xa x):=⟨_,gE (by rw[HLL.out];exact hlt)⟩
   obtain⟨_,_,hve,hrw⟩:=(HV.out wr OI.out).spots;simp only[vJ]at hve;obtain⟨ad,had,hce⟩:=hrw j x HX.out;rw[<-hve.1]at had;subst had;obtain⟨d0,d1⟩:=hce wr (Grew.refl _);obtain⟨e1,e2,e3⟩:=HJ.out j hj x HX.out;have HE2:Xo (joinAll mt kk (l.take (j+1))=joinP (joinAll mt kk (l.take j)) x.1 (x.2:Int) (kk:Int)):=e2;obtain⟨x0,x1⟩:=x;simp only at d0 d1 e1 e3 HE2;have hjn:=cwJoin_any (MI.out.grew (grew_alloc wr (Xk #[Xe Xf (x0:Int),Xe Xf (x1:Int)] 141))) x0 e3 (x1:Int) (kk:Int) e1;rw[<-HE2.out]at hjn;clear hve hrw hce e1 e2 e3;go_wp2_with fail;refine hjn.mono ?_;clear hjn d0 d1;rintro e W4 ⟨⟨v4,rfl⟩,h4⟩;obtain⟨V4,c4,o4,d4⟩:=Chg.step OI.out DI.out (Chg.of_grew (grew_alloc _ _) h4);have M4:Xo (ChW w0 p W4 V4 (joinAll mt kk (l.take (j+1)))):=c4;have O4:Xo (OutD (Dw p V) w W4):=o4;have D4:Xo (∀k,Dw p V4 k->Dw p V k\/w.heap.size<=k):=d4;clear h4 c4 o4 d4 MI OI DI;go_wp2
   go_roundg (L -(j+1))
   case measure=>omega
   exact⟨j+1,V4,by omega,by omega,by go_num,M4.out,O4.out,D4.out⟩
  have hltz:¬(j:Int)< (L:Int):=by omega
  have hjl:l.take j=l:=Xw (by rw[HLL.out];omega)
  rw[hjl]at MI;clear hjl HJ;obtain⟨mj,HMJ⟩:∃mj,Xo (joinAll mt kk l=mj):=⟨_,rfl⟩;rw[HMJ.out]at MI HE1 HCR;have HFH:Xo (∀W,Grew wr W->Xp Tryz.prog 173 #[Xi #[O Vi.f.a Vi.f.n Vi.f.c,Xe Xf mj.hand],Xe Xf (kk:Int),Xe Xf (-1)] W fun e w'=>∃b:Sli,e= Xl (Xm #[Xi #[O b.a b.n b.c,Xe Xf mj.hand],Xe Xf 0])/\OwnRow frmE W.heap.size w' (O b.a b.n b.c) (holdF mj.fs mj.hand (kk:Int) (-1))/\Grew W w'):=show∀W,_ from fun W hW=>by
   obtain⟨n1,-⟩:=MI.out.at.ns;have k:=(MI.out.at.grew hW).fs;rw[n1]at k⊢;refine(holdO_ok Vi.f.a Vi.f.c mj.fs mj.hand (kk:Int) (-1) W k HE1.out).mono ?_;rintro e w' ⟨b,rfl,nr,g⟩;have nr':OwnRow frmE W.heap.size w' b (holdF mj.fs mj.hand (kk:Int) (-1)):=nr;obtain⟨a,c,rfl,_⟩:=nr'.at.rows;exact⟨⟨a,_,c⟩,rfl,nr,g⟩
  have x0:=MI.out.box.box.c 0 rfl;have x1:=MI.out.box.box.c 1 rfl;have hfh:=HFH.out wr (Grew.refl _);go_wp2_with fail;refine hfh.mono ?_;clear hfh x0 x1;rintro e W8 ⟨s,rfl,ow8,g8⟩;have G8:Xo (Grew wr W8):=g8;have OW8:Xo (OwnRow frmE wr.heap.size W8 (O s.a s.n s.c) (holdF mj.fs mj.hand (kk:Int) (-1))):=ow8;have B8:=dD (MI.out.box.grew g8);clear ow8 g8 HFH
  go_upto_region 10 with(refine wp_storeT rfl 29 (.tmp 46) (.tmp 42) rfl p 0 rfl (Xi #[O s.a s.n s.c,Xe Xf mj.hand]) rfl [O s.a s.n s.c,Xe Xf mj.hand] rfl B8.out (by simp[chL]) (by kernel_rfl) (by simp[Value.oneCell']) ?_)
  intro W9 bx9 gr9 _;have hF8:=MI.out.setF G8.out OW8.out gr9 bx9;have M9:Xo (Chg w0 p w V CR.2.2 W9):=show Chg _ _ _ _ _ _ by rw[HCR.out];exact Chg.step OI.out DI.out hF8
  clear hF8 bx9 gr9;go_wp2
  go_ret2
  exact⟨by rw[<-HER.out,HCR.out];rfl,M9.out⟩
def bringC (m:Ma) (pg:Pg) (ic wr:Bool) (q n:Nat):Bool × Nat × Ma:=
 if(entM m q (n:Int)).kind=1/\ic=Xc/\(wr=Xd\/(frAt m (entM m q (n:Int)).n).r=1)then(Xc,(entM m q (n:Int)).n.toNat,m)
 else if(entM m q (n:Int)).kind=2/\wr=Xd then copyR m pg (hdrTo m 2 (entM m q (n:Int)).n m.sp.length)
 else copyR m pg [(q,n)]
theorem hdr_here {m:Ma} {q n:Nat} {s:Sp} (hs:m.sp[q]? =Xa s) (hn:n<64) (hk:(flatN s n).kind=2):(q,n)∈hdrTo m 2 (flatN s n).n m.sp.length:=
 (hdrTo_mem (by decide) (nR _)).2 ⟨(gS.1 hs).1,hn,s,hs,by unfold isE;simp[hk]⟩
theorem useCopy_any {w0 w:Xn} {p:Nat} {V:MaV} {m:Ma} (h:ChW w0 p w V m) (hR:Rt m) (q n:Nat) (s:Sp) (hs:m.sp[q]? =Xa s) (hn:n<64) (a:Ar) (pg:Pg) (ic wr:Bool)
  (hF:∀(l:List (Nat × Nat)) (mv:Xq),(∀x∈l,x.2<64/\∃s,m.sp[x.1]? =Xa s)->freeN (dropAll m l).fs=0->∀W1 V1,ChW w0 p W1 V1 (dropAll m l)->RowD sptE (Dw p V1) W1 mv l->Xp Tryz.prog 160 #[Xj (Xa ⟨p,0,Xb⟩),mv] W1 fun e w'=>e= Xl (Xh (freeR (dropAll m l) l).1)/\Chg w0 p W1 V1 (freeR (dropAll m l) l).2 w'):
  Xp Tryz.prog 206 #[Xi #[Xj (Xa ⟨p,0,Xb⟩),Xe Xf (q:Int),Xe Xf (n:Int),Xe Xf a.fr,Xe Xf a.tz,Xh a.rd,Xh a.wr,Xh a.sh,Xe Xf a.file,Xe Xf a.base,Xe Xg pg.b0,Xe Xg pg.b1,Xe Xg pg.b2,Xe Xg pg.b3,Xe Xg pg.b4,Xe Xg pg.b5,Xe Xg pg.b6,Xe Xg pg.b7,Xh ic,Xh wr]] w fun e w'=>e= Xl (Xm #[Xe Xf ((bringC m pg ic wr q n).2.1:Int),Xe Xf (if(bringC m pg ic wr q n).1=Xc then 0 else 10)])/\Chg w0 p w V (bringC m pg ic wr q n).2.2 w':=by
 have HM:Xo (ChW w0 p w V m):=h;have HQ:Xo (q<m.sp.length):=(gS.1 hs).1;have HD:Xo (∀k,Dw p V k->k<w.heap.size):=h.dlt;have HEN:Xo (entM m q (n:Int)=flatN s n):=show _=_ by unfold entM;rw[Sp.getD_of hs,getT_flat hn]
 obtain⟨e,HE⟩:∃e,Xo (entM m q (n:Int)=e):=⟨_,rfl⟩;have HFE:Xo (flatN s n=e):=show _=_ by rw[<-HEN.out,HE.out]
 have HPR:Xo (e.kind=1->∃(k:Nat) (fr:Fr),e.n=(k:Int)/\m.fs[k]? =Xa fr):=show _->_ from fun hk=>by
  obtain⟨i,fr,f1,f2,_⟩:=hR.present hs hn (by rw[HFE.out];exact hk)
  rw[HFE.out]at f1;exact⟨i,fr,f1,f2⟩
 have HBC:Xo (bringC m pg ic wr q n=if e.kind=1/\ic=Xc/\(wr=Xd\/(frAt m e.n).r=1)then(Xc,e.n.toNat,m)else if e.kind=2/\wr=Xd then copyR m pg (hdrTo m 2 e.n m.sp.length)else copyR m pg [(q,n)]):=show _=_ by unfold bringC;rw[HE.out]
 have HL1:Xo (∀x∈[(q,n)],x.2<64/\∃s,m.sp[x.1]? =Xa s):=show∀x∈[(q,n)],_ from fun x hx=>by rw[Yn.1 hx];exact⟨hn,s,hs⟩
 have HL2:Xo (e.kind=2->(∀x∈hdrTo m 2 e.n m.sp.length,x.2<64/\∃s,m.sp[x.1]? =Xa s)/\hdrTo m 2 e.n m.sp.length≠[]/\(hdrTo m 2 e.n m.sp.length).length<=900):=show _->_ from fun hk=>by
  refine⟨fun x hx=>?_,fun e'=>?_,?_⟩
  ·obtain⟨a,s,b,_⟩:=holders_slot hR x hx;exact⟨a,s,b⟩
  ·have:=hdr_here hs hn (by rw[HFE.out];exact hk)
   rw[HFE.out,e']at this;cases this
  have h1:=hdrTo_len m 2 e.n m.sp.length;have h2:=hR.inv.spl;omega
 have H4:Xo (m.sp.length<=4):=hR.inv.spl;have HCP:Xo (∀W mv l,Grew w W->RowD sptE (Dw p V) W mv l->(∀x∈l,x.2<64/\∃s,m.sp[x.1]? =Xa s)->l≠[]->l.length<=900->Xp Tryz.prog 232 #[Xj (Xa ⟨p,0,Xb⟩),Xi #[Xe Xg pg.b0,Xe Xg pg.b1,Xe Xg pg.b2,Xe Xg pg.b3,Xe Xg pg.b4,Xe Xg pg.b5,Xe Xg pg.b6,Xe Xg pg.b7],mv] W fun e w'=>e= Xl (Xm #[Xe Xf ((copyR m pg l).2.1:Int),Xe Xf (if(copyR m pg l).1=Xc then 0 else 10)])/\Chg w0 p W V (copyR m pg l).2.2 w'):=show∀W,_ from fun W mv l hW hv hl h0 h9=>cwCopy_any (h.grew hW) hR pg mv l hv hl h0 h9 (hF l mv hl)
 have HHO:Xo (∀W,Grew w W->Xp Tryz.prog 233 #[Xj (Xa ⟨p,0,Xb⟩),Xe Xf 2,Xe Xf e.n] W fun r w'=>∃v,r= Xl v/\OwnRow sptE W.heap.size w' v (hdrTo m 2 e.n m.sp.length)/\Grew W w'):=show∀W,_ from fun W hW=>cwHolders_any (h.grew hW) 2 e.n H4.out
 obtain⟨b0,b1,b2,b3,b4,b5,b6,b7⟩:=pg;simp only at HCP⊢;obtain⟨BC,HB0⟩:∃BC,Xo (bringC m ⟨b0,b1,b2,b3,b4,b5,b6,b7⟩ ic wr q n=BC):=⟨_,rfl⟩;rw[HB0.out]at HBC⊢;obtain⟨er,HER⟩:∃er:Int,Xo ((if BC.1=Xc then(0:Int)else 10)=er):=⟨_,rfl⟩;rw[HER.out];clear HB0 hR hs hn hF HEN HFE;obtain⟨b,HB⟩:∃b,Xo (w.heap.size=b):=⟨_,rfl⟩;obtain⟨W1,hW1⟩:∃W1,w.alloc (Xk #[Xj (Xa ⟨p,0,Xb⟩),Xe Xf (q:Int),Xe Xf (n:Int),Xe Xf a.fr,Xe Xf a.tz,Xh a.rd,Xh a.wr,Xh a.sh,Xe Xf a.file,Xe Xf a.base,Xe Xg b0,Xe Xg b1,Xe Xg b2,Xe Xg b3,Xe Xg b4,Xe Xg b5,Xe Xg b6,Xe Xg b7,Xh ic,Xh wr] 244)=W1:=⟨_,rfl⟩;have G1:=gA hW1
 have X1:=xPT hW1 HB
 have HW1:Xo (_=W1):=hW1;clear hW1;have hen:=cwEntry_any (HM.out.grew G1.out) q HQ.out (n:Int);rw[HE.out]at hen
 go_enter Tryz.func206,Tryz.ntmps206
 go_upto_region 1 with fail;rw[HW1.out,HB.out];clear HW1;obtain⟨u0,u1,u2⟩:=X1.out.box.c3;go_wp2_with fail;refine hen.mono ?_;clear hen u0 u1 u2 h;rintro r W1a ⟨rfl,g1⟩;unfold enV;go_upto_region 2 with fail;obtain⟨d,HDD⟩:∃d,Xo (W1a.heap.size=d):=⟨_,rfl⟩;obtain⟨W2,hW2⟩:∃W2,W1a.alloc (Xk #[Xe Xf e.kind,Xe Xf e.n,Xh e.wr] 127)=W2:=⟨_,rfl⟩;have g2:Grew W1 W2:=by rw[<-hW2];exact g1.trans (grew_alloc _ _)
 have Y2:=xPT hW2 HDD
 have X2:=dD (X1.out.grew g2);have G2:=dD (G1.out.trans g2);rw[hW2,HDD.out];clear hW2 g2 g1 X1 G1 HDD;obtain⟨C1,HC1⟩:∃C1:Bool,Xo (decide (e.kind=1/\ic=Xc/\(wr=Xd\/(frAt m e.n).r=1))=C1):=⟨_,rfl⟩
 go_cut [36] (fun s36 wx=>s36= Xh C1/\Xo (Grew W2 wx))
 case first=>
  have hne:Nonempty (GrownW W2):=⟨⟨_,Grew.refl _⟩⟩;have hz0:∀y:GrownW W2,y.world.cell? ⟨d,0,Xb⟩=_:=fun y=>(Y2.out.box.grew y.grew).c 0 rfl
  have hz1:∀y:GrownW W2,y.world.cell? ⟨d,1,Xb⟩=_:=fun y=>(Y2.out.box.grew y.grew).c 1 rfl
  have hu0:∀y:GrownW W2,y.world.cell? ⟨b,0,Xb⟩=_:=fun y=>(X2.out.box.grew y.grew).c 0 rfl
  have hu18:∀y:GrownW W2,y.world.cell? ⟨b,18,Xb⟩=_:=fun y=>(X2.out.box.grew y.grew).c 18 rfl
  have hu19:∀y:GrownW W2,y.world.cell? ⟨b,19,Xb⟩=_:=fun y=>(X2.out.box.grew y.grew).c 19 rfl
  by_cases hk1:e.kind=1
  ·have hkb:(e.kind == 1)=Xc:=by rw[hk1];rfl
   obtain⟨k,fr,h1,h2⟩:=HPR.out hk1
   cases ic with
   | false=>
    have hC:C1=Xd:=by rw[<-HC1.out];simp
    subst hC;clear hk1;refine wp_lax [] mixed (by kernel_rfl) (by simp) (by simp) ?_
    iterate 2 (refine lax_quiet rfl rfl rfl (fun K hK=>?_);go_big_quiet_op;refine hK _ ?_;clear hK K)
    refine lax_quiet rfl rfl rfl (fun K hK=>?_);go_big_quiet_op;(try rw[hkb]);refine hK _ ?_;clear hK K
    iterate 5 (refine lax_quiet rfl rfl rfl (fun K hK=>?_);go_big_quiet_op;refine hK _ ?_;clear hK K)
    iterate 18 (refine lax_skip rfl ?_;simp only[Xs,sB,sS,sZ])
    iterate 1 (refine lax_quiet rfl rfl rfl (fun K hK=>?_);go_big_quiet_op;refine hK _ ?_;clear hK K)
    refine lax_nil fun W3 g3 _=>?_
    have G3:Xo (Grew W2 W3):=show Grew _ _ from g3
    clear g3 hne hz0 hz1 hu0 hu18 hu19;go_wp2
    go_meet
    exact⟨rfl,G3⟩
   | true=>
    cases wr with
    | false=>
     have hC:C1=Xc:=by rw[<-HC1.out];simp[hk1]
     subst hC;clear hk1;refine wp_lax [] mixed (by kernel_rfl) (by simp) (by simp) ?_
     iterate 2 (refine lax_quiet rfl rfl rfl (fun K hK=>?_);go_big_quiet_op;refine hK _ ?_;clear hK K)
     refine lax_quiet rfl rfl rfl (fun K hK=>?_);go_big_quiet_op;(try rw[hkb]);refine hK _ ?_;clear hK K
     iterate 9 (refine lax_quiet rfl rfl rfl (fun K hK=>?_);go_big_quiet_op;refine hK _ ?_;clear hK K)
     iterate 13 (refine lax_skip rfl ?_;simp only[Xs,sB,sS,sZ])
     iterate 2 (refine lax_quiet rfl rfl rfl (fun K hK=>?_);go_big_quiet_op;refine hK _ ?_;clear hK K)
     refine lax_nil fun W3 g3 _=>?_
     have G3:Xo (Grew W2 W3):=show Grew _ _ from g3
     clear g3 hne hz0 hz1 hu0 hu18 hu19;go_wp2
     go_meet
     exact⟨rfl,G3⟩
    | true=>
     obtain⟨C2,HC2⟩:∃C2:Bool,Xo ((fr.r == 1)=C2):=⟨_,rfl⟩;have hC:C1=C2:=by
      rw[<-HC1.out,<-HC2.out,h1,frAt_of h2]
      simp[hk1]
      exact Bool.beq_eq_decide_eq .. |>.symm
     subst hC;obtain⟨adf,hadf,hfl⟩:=HM.out.at.frs k fr h2;obtain⟨n1,-⟩:=HM.out.at.ns;have hkl:(k:Int)< (V.f.n:Int):=by
      have:=(gS.1 h2).1;omega
     have hm0:∀y:GrownW W2,y.world.cell? ⟨p,0,Xb⟩=Xa (O (Xa adf) V.f.n V.f.c):=fun y=>by
      have:=(HM.out.box.box.grew (G2.out.trans y.grew)).c 0 rfl;rw[hadf]at this;exact this
     have hfr:∀y:GrownW W2,y.world.cell? { block:=(adf.add (k*13)).block,off:=(adf.add (k*13)).off+8 }=Xa (Xe Xf fr.r):=fun y=>(hfl _ (G2.out.trans y.grew)).2.2.2.2.2.2.2.2.1
     have hc2:=HC2.out;rw[h1]at hz1;clear hk1 h1 h2 hfl hadf n1;refine wp_lax [] mixed (by kernel_rfl) (by simp) (by simp) ?_
     iterate 2 (refine lax_quiet rfl rfl rfl (fun K hK=>?_);go_big_quiet_op;refine hK _ ?_;clear hK K)
     refine lax_quiet rfl rfl rfl (fun K hK=>?_);go_big_quiet_op;(try rw[hkb]);refine hK _ ?_;clear hK K
     iterate 11 (refine lax_quiet rfl rfl rfl (fun K hK=>?_);go_big_quiet_op;refine hK _ ?_;clear hK K)
     refine lax_nilc (.tmp 23) ⟨p,0,Xb⟩ rfl rfl rfl rfl ?_;simp only[Xs,sB,sS,sZ];iterate 9 (refine lax_quiet rfl rfl rfl (fun K hK=>?_);go_big_quiet_op;refine hK _ ?_;clear hK K)
     refine lax_quiet rfl rfl rfl (fun K hK=>?_);go_big_quiet_op;(try rw[hc2]);refine hK _ ?_;clear hK K
     iterate 2 (refine lax_quiet rfl rfl rfl (fun K hK=>?_);go_big_quiet_op;refine hK _ ?_;clear hK K)
     refine lax_nil fun W3 g3 _=>?_
     have G3:Xo (Grew W2 W3):=show Grew _ _ from g3
     clear g3 hne hz0 hz1 hu0 hu18 hu19;go_wp2
     go_meet
     exact⟨rfl,G3⟩
  have hkb:(e.kind == 1)=Xd:=by simpa using hk1
  have hC:C1=Xd:=by rw[<-HC1.out];simp[hk1]
  subst hC;clear hk1;refine wp_lax [] mixed (by kernel_rfl) (by simp) (by simp) ?_
  iterate 2 (refine lax_quiet rfl rfl rfl (fun K hK=>?_);go_big_quiet_op;refine hK _ ?_;clear hK K)
  refine lax_quiet rfl rfl rfl (fun K hK=>?_);go_big_quiet_op;(try rw[hkb]);refine hK _ ?_;clear hK K
  iterate 1 (refine lax_quiet rfl rfl rfl (fun K hK=>?_);go_big_quiet_op;refine hK _ ?_;clear hK K)
  iterate 2 (refine lax_skip rfl ?_;simp only[Xs,sB,sS,sZ])
  iterate 2 (refine lax_quiet rfl rfl rfl (fun K hK=>?_);go_big_quiet_op;refine hK _ ?_;clear hK K)
  iterate 18 (refine lax_skip rfl ?_;simp only[Xs,sB,sS,sZ])
  iterate 1 (refine lax_quiet rfl rfl rfl (fun K hK=>?_);go_big_quiet_op;refine hK _ ?_;clear hK K)
  refine lax_nil fun W3 g3 _=>?_
  have G3:Xo (Grew W2 W3):=show Grew _ _ from g3
  clear g3 hne hz0 hz1 hu0 hu18 hu19;go_wp2
  go_meet
  exact⟨rfl,G3⟩
 obtain⟨rfl,G3⟩:=hcut;have X3:=dD (X2.out.grew G3.out);have Y3:=dD (Y2.out.grew G3.out);have GC:=dD (G2.out.trans G3.out);clear X2 Y2 G2 G3;have z0:=Y3.out.box.c 0 rfl;have z1:=Y3.out.box.c 1 rfl
 cases C1 with
 | true=>
  have hc:=of_decide_eq_true HC1.out;obtain⟨k,fr,h1,h2⟩:=HPR.out hc.1;have HBB:Xo (BC=(Xc,k,m)):=show _=_ by rw[HBC.out,if_pos hc,h1,tN]
  have HR:Xo (Chg w0 p w V BC.2.2 wc):=show Chg _ _ _ _ _ _ by rw[HBB.out];exact Chg.refl HM.out GC.out
  rw[h1]at z1;clear hc h1 h2;go_wp2
  go_ret2
  exact⟨by rw[<-HER.out,HBB.out];rfl,HR.out⟩
 | false=>
  have HBC2:Xo (BC=if e.kind=2/\wr=Xd then copyR m ⟨b0,b1,b2,b3,b4,b5,b6,b7⟩ (hdrTo m 2 e.n m.sp.length)else copyR m ⟨b0,b1,b2,b3,b4,b5,b6,b7⟩ [(q,n)]):=show _=_ by rw[HBC.out,if_neg (of_decide_eq_false HC1.out)]
  clear HBC HC1 HPR;obtain⟨C4,HC4⟩:∃C4:Bool,Xo (decide (e.kind=2/\wr=Xd)=C4):=⟨_,rfl⟩;have u19:=X3.out.box.c 19 rfl;go_upto_region 4 with fail
  go_cut [46] (fun s46 wx=>s46= Xh C4/\wx=wc)
  case first=>
   by_cases hk2:e.kind=2
   ·have hkb:(e.kind == 2)=Xc:=by rw[hk2];rfl
    have hC:C4=!wr:=by rw[<-HC4.out];cases wr <;> simp[hk2]
    subst hC;clear hk2;cases wr
    all_goals (go_wp2;go_meet;exact⟨rfl,rfl⟩)
   have hkb:(e.kind == 2)=Xd:=by simpa using hk2
   have hC:C4=Xd:=by rw[<-HC4.out];simp[hk2]
   subst hC;clear hk2;go_wp2
   go_meet
   exact⟨rfl,rfl⟩
  obtain⟨rfl,hwc⟩:=hcut;subst hwc;clear u19 z0 z1
  cases C4 with
  | false=>
   have HBB:Xo (BC=copyR m ⟨b0,b1,b2,b3,b4,b5,b6,b7⟩ [(q,n)]):=show _=_ by rw[HBC2.out,if_neg (of_decide_eq_false HC4.out)]
   clear HBC2 HC4;obtain⟨u0,u1,u2⟩:=X3.out.box.c3;have u10:=X3.out.box.c 10 rfl;have u11:=X3.out.box.c 11 rfl;have u12:=X3.out.box.c 12 rfl;have u13:=X3.out.box.c 13 rfl;have u14:=X3.out.box.c 14 rfl;have u15:=X3.out.box.c 15 rfl;have u16:=X3.out.box.c 16 rfl;have u17:=X3.out.box.c 17 rfl;have HCC:=HCP.out (wc.alloc (Xk #[Xe Xf (q:Int),Xe Xf (n:Int)] 141)) (O (Xa ⟨wc.heap.size,0,Xb⟩) 1 1) [(q,n)] (GC.out.trans (grew_alloc _ _)) (NewRow.staysD (base:=wc.heap.size) ⟨one_row sptE wc (q,n) _ _ rfl (by decide),fun x n c e=>by cases e;exact nR _⟩ (fun k hk=>Yc (HD.out k hk) (bS GC.out))) HL1.out (by simp) (by simp)
   rw[<-HBB.out,HER.out]at HCC;go_wp2_with fail;refine HCC.mono ?_;clear HCC u0 u1 u2 u10 u11 u12 u13 u14 u15 u16 u17;rintro r W5 ⟨rfl,h5⟩;have HR:Xo (Chg w0 p w V BC.2.2 W5):=show Chg _ _ _ _ _ _ from Chg.of_grew (GC.out.trans (grew_alloc _ _)) h5
   clear h5;go_wp2
   go_ret2
   exact⟨rfl,HR.out⟩
  | true=>
   have hc:=of_decide_eq_true HC4.out;have HBB:Xo (BC=copyR m ⟨b0,b1,b2,b3,b4,b5,b6,b7⟩ (hdrTo m 2 e.n m.sp.length)):=show _=_ by rw[HBC2.out,if_pos hc]
   obtain⟨l1,l2,l3⟩:=HL2.out hc.1;have HLL:Xo (∀W v,Grew w W->OwnRow sptE W.heap.size W v (hdrTo m 2 e.n m.sp.length)->True):=show∀W v,_ from fun _ _ _ _=>trivial
   have hcp:=fun W mv hW hv=>HCP.out W mv (hdrTo m 2 e.n m.sp.length) hW hv l1 l2 l3
   rw[<-HBB.out,HER.out]at hcp;have HC5:Xo (∀W mv,Grew w W->RowD sptE (Dw p V) W mv (hdrTo m 2 e.n m.sp.length)->Xp Tryz.prog 232 #[Xj (Xa ⟨p,0,Xb⟩),Xi #[Xe Xg b0,Xe Xg b1,Xe Xg b2,Xe Xg b3,Xe Xg b4,Xe Xg b5,Xe Xg b6,Xe Xg b7],mv] W fun e w'=>e= Xl (Xm #[Xe Xf (BC.2.1:Int),Xe Xf er])/\Chg w0 p W V BC.2.2 w'):=show∀W mv,_ from hcp
   clear HBC2 HC4 hcp hc l1 l2 l3 HLL HL2 HCP HBB;go_upto_region 5 with fail;obtain⟨I,HI⟩:∃I:Xn->Prop,Xo (∀u,I u↔BoxT u b 244 [Xj (Xa ⟨p,0,Xb⟩),Xe Xf (q:Int),Xe Xf (n:Int),Xe Xf a.fr,Xe Xf a.tz,Xh a.rd,Xh a.wr,Xh a.sh,Xe Xf a.file,Xe Xf a.base,Xe Xg b0,Xe Xg b1,Xe Xg b2,Xe Xg b3,Xe Xg b4,Xe Xg b5,Xe Xg b6,Xe Xg b7,Xh ic,Xh wr]/\BoxT u d 127 [Xe Xf e.kind,Xe Xf e.n,Xh e.wr]):=⟨fun u=>BoxT u b 244 [Xj (Xa ⟨p,0,Xb⟩),Xe Xf (q:Int),Xe Xf (n:Int),Xe Xf a.fr,Xe Xf a.tz,Xh a.rd,Xh a.wr,Xh a.sh,Xe Xf a.file,Xe Xf a.base,Xe Xg b0,Xe Xg b1,Xe Xg b2,Xe Xg b3,Xe Xg b4,Xe Xg b5,Xe Xg b6,Xe Xg b7,Xh ic,Xh wr]/\BoxT u d 127 [Xe Xf e.kind,Xe Xf e.n,Xh e.wr],fun _=>Iff.rfl⟩
   have hI0:I wc.drew:=(HI.out _).2 ⟨X3.out.grew (gW _),Y3.out.grew (gW _)⟩
   have hF0:Grew wc wc.drew:=show Below _ _ _ from(bR _ _).drew
   have hz1:∀y:HoldI I,y.world.cell? ⟨d,1,Xb⟩=_:=fun y=>((HI.out _).1 y.holds).2.box.c 1 rfl
   have hu0:∀y:HoldI I,y.world.cell? ⟨b,0,Xb⟩=_:=fun y=>((HI.out _).1 y.holds).1.box.c 0 rfl
   have hu10:∀y:HoldI I,y.world.cell? ⟨b,10,Xb⟩=_:=fun y=>((HI.out _).1 y.holds).1.box.c 10 rfl
   have hu11:∀y:HoldI I,y.world.cell? ⟨b,11,Xb⟩=_:=fun y=>((HI.out _).1 y.holds).1.box.c 11 rfl
   have hu12:∀y:HoldI I,y.world.cell? ⟨b,12,Xb⟩=_:=fun y=>((HI.out _).1 y.holds).1.box.c 12 rfl
   have hu13:∀y:HoldI I,y.world.cell? ⟨b,13,Xb⟩=_:=fun y=>((HI.out _).1 y.holds).1.box.c 13 rfl
   have hu14:∀y:HoldI I,y.world.cell? ⟨b,14,Xb⟩=_:=fun y=>((HI.out _).1 y.holds).1.box.c 14 rfl
   have hu15:∀y:HoldI I,y.world.cell? ⟨b,15,Xb⟩=_:=fun y=>((HI.out _).1 y.holds).1.box.c 15 rfl
   have hu16:∀y:HoldI I,y.world.cell? ⟨b,16,Xb⟩=_:=fun y=>((HI.out _).1 y.holds).1.box.c 16 rfl
   have hu17:∀y:HoldI I,y.world.cell? ⟨b,17,Xb⟩=_:=fun y=>((HI.out _).1 y.holds).1.box.c 17 rfl
   have hne:Nonempty (HoldI I):=⟨⟨_,hI0⟩⟩;have HNB:Xo (¬Dw p V b/\¬Dw p V d):=show _/\_ from⟨(HM.out.grew GC.out).offB X3.out (by decide) (by decide) (by decide) (by decide),(HM.out.grew GC.out).offB Y3.out (by decide) (by decide) (by decide) (by decide)⟩
   refine wp_lax_tailD (I:=I) 14 [(8,fun v=>∃s:Sli,v= O s.a s.n s.c),(9,fun v=>v= Xm #[Xe Xf (BC.2.1:Int),Xe Xf er])] (fun u=>Grew wc u) hI0 hF0 mixed (by kernel_rfl) rfl rfl (by decide) ?hS (by kernel_rfl) ?_
   case hS=>
    intro x hx;simp only[mC,nM,or_false]at hx
    rcases hx with rfl | rfl
    ·exact⟨_,sli0,rfl⟩
    exact⟨_,rfl⟩
   simp only[Yl,Ym];iterate 8 (refine laxD_quiet rfl rfl rfl (fun K hK=>?_);go_big_quiet_op;refine hK _ ?_;clear hK K)
   refine laxD_spec rfl rfl (fun v u=>Grew wc u/\NewRow sptE wc.heap.size u v (hdrTo m 2 e.n m.sp.length)) (fun w' hI' hF'=>?_) (fun v1 hv=>?_)
   ·refine Does.call [Xj (Xa ⟨p,0,Xb⟩),Xe Xf 2,Xe Xf e.n] rfl Tryz.func233 rfl rfl rfl ?_;refine(HHO.out w' (GC.out.trans hF')).mono ?_;rintro r w'' ⟨v,rfl,ow,g2⟩;obtain⟨va,vc,rfl⟩:=ow.form;exact⟨_,rfl,(HI.out _).2 ⟨((HI.out _).1 hI').1.grew g2,((HI.out _).1 hI').2.grew g2⟩,⟨⟨va,_,vc⟩,rfl⟩,hF'.trans g2,(ow.base (bS hF')).new⟩
   obtain⟨s1,rfl⟩:=hv;simp only[Xs,sB,sS,sZ];refine laxD_spec rfl rfl (fun _ u=>Chg w0 p w V BC.2.2 u) (fun w' hI' hF'=>?_) (fun v1 hv=>?_)
   ·refine Does.call [Xj (Xa ⟨p,0,Xb⟩),Xi #[Xe Xg b0,Xe Xg b1,Xe Xg b2,Xe Xg b3,Xe Xg b4,Xe Xg b5,Xe Xg b6,Xe Xg b7],O s1.a s1.n s1.c] rfl Tryz.func232 rfl rfl rfl ?_;refine(HC5.out w' (O s1.a s1.n s1.c) (GC.out.trans hF'.1) (hF'.2.staysD (fun k hk=>Yc (HD.out k hk) (bS GC.out)))).mono ?_
    rintro r w'' ⟨rfl,V7,c7,o7,d7⟩;exact⟨_,rfl,(HI.out _).2 ⟨((HI.out _).1 hI').1.outD o7 HNB.out.1,((HI.out _).1 hI').2.outD o7 HNB.out.2⟩,rfl,Chg.of_grew (GC.out.trans hF'.1) ⟨V7,c7,o7,d7⟩⟩
   subst hv;simp only[Xs,sB,sS,sZ];iterate 4 (refine laxD_quiet rfl rfl rfl (fun K hK=>?_);go_big_quiet_op;refine hK _ ?_;clear hK K)
   refine laxD_nil fun W9 hI8 hF8=>?_
   have HR:Xo (Chg w0 p w V BC.2.2 W9):=hF8;clear hI8 hF8 hI0 hF0 hne HI hz1 hu0 hu10 hu11 hu12 hu13 hu14 hu15 hu16 hu17;go_wp2
   go_ret2
   exact⟨rfl,HR.out⟩
def bringR (m:Ma) (BF:Bool × Nat × Ma) (pg:Pg) (a:Ar) (ic wr:Bool) (q n:Nat):Bool × Nat × Ma:=if(0<=a.file/\ic=Xd)/\(a.sh=Xc\/wr=Xd)then BF else bringC m pg ic wr q n
theorem useBring_any {w0 w:Xn} {p:Nat} {V:MaV} {m:Ma} (h:ChW w0 p w V m) (hR:Rt m) (q n:Nat) (s:Sp) (hs:m.sp[q]? =Xa s) (hn:n<64) (a:Ar) (pg:Pg) (ic wr:Bool)
  (hF:∀(l:List (Nat × Nat)) (mv:Xq),(∀x∈l,x.2<64/\∃s,m.sp[x.1]? =Xa s)->freeN (dropAll m l).fs=0->∀W1 V1,ChW w0 p W1 V1 (dropAll m l)->RowD sptE (Dw p V1) W1 mv l->Xp Tryz.prog 160 #[Xj (Xa ⟨p,0,Xb⟩),mv] W1 fun e w'=>e= Xl (Xh (freeR (dropAll m l) l).1)/\Chg w0 p W1 V1 (freeR (dropAll m l) l).2 w')
  (BF:Bool × Nat × Ma) (hBF:(0<=a.file/\ic=Xd)/\(a.sh=Xc\/wr=Xd)->∀W,Grew w W->Xp Tryz.prog 205 #[Xi #[Xj (Xa ⟨p,0,Xb⟩),Xe Xf (q:Int),Xe Xf (n:Int),Xe Xf a.fr,Xe Xf a.tz,Xh a.rd,Xh a.wr,Xh a.sh,Xe Xf a.file,Xe Xf a.base,Xe Xg pg.b0,Xe Xg pg.b1,Xe Xg pg.b2,Xe Xg pg.b3,Xe Xg pg.b4,Xe Xg pg.b5,Xe Xg pg.b6,Xe Xg pg.b7,Xh ic,Xh wr]] W fun e w'=>e= Xl (Xm #[Xe Xf (BF.2.1:Int),Xe Xf (if BF.1=Xc then 0 else 10)])/\Chg w0 p W V BF.2.2 w'):
  Xp Tryz.prog 178 #[Xi #[Xj (Xa ⟨p,0,Xb⟩),Xe Xf (q:Int),Xe Xf (n:Int),Xe Xf a.fr,Xe Xf a.tz,Xh a.rd,Xh a.wr,Xh a.sh,Xe Xf a.file,Xe Xf a.base,Xe Xg pg.b0,Xe Xg pg.b1,Xe Xg pg.b2,Xe Xg pg.b3,Xe Xg pg.b4,Xe Xg pg.b5,Xe Xg pg.b6,Xe Xg pg.b7,Xh ic,Xh wr]] w fun e w'=>e= Xl (Xm #[Xe Xf ((bringR m BF pg a ic wr q n).2.1:Int),Xe Xf (if(bringR m BF pg a ic wr q n).1=Xc then 0 else 10)])/\Chg w0 p w V (bringR m BF pg a ic wr q n).2.2 w':=by
 have HCP:Xo (∀W,Grew w W->Xp Tryz.prog 206 #[Xi #[Xj (Xa ⟨p,0,Xb⟩),Xe Xf (q:Int),Xe Xf (n:Int),Xe Xf a.fr,Xe Xf a.tz,Xh a.rd,Xh a.wr,Xh a.sh,Xe Xf a.file,Xe Xf a.base,Xe Xg pg.b0,Xe Xg pg.b1,Xe Xg pg.b2,Xe Xg pg.b3,Xe Xg pg.b4,Xe Xg pg.b5,Xe Xg pg.b6,Xe Xg pg.b7,Xh ic,Xh wr]] W fun e w'=>e= Xl (Xm #[Xe Xf ((bringC m pg ic wr q n).2.1:Int),Xe Xf (if(bringC m pg ic wr q n).1=Xc then 0 else 10)])/\Chg w0 p W V (bringC m pg ic wr q n).2.2 w'):=show∀W,_ from fun W hW=>useCopy_any (h.grew hW) hR q n s hs hn a pg ic wr hF
 have HBF:Xo ((0<=a.file/\ic=Xd)/\(a.sh=Xc\/wr=Xd)->∀W,Grew w W->Xp Tryz.prog 205 #[Xi #[Xj (Xa ⟨p,0,Xb⟩),Xe Xf (q:Int),Xe Xf (n:Int),Xe Xf a.fr,Xe Xf a.tz,Xh a.rd,Xh a.wr,Xh a.sh,Xe Xf a.file,Xe Xf a.base,Xe Xg pg.b0,Xe Xg pg.b1,Xe Xg pg.b2,Xe Xg pg.b3,Xe Xg pg.b4,Xe Xg pg.b5,Xe Xg pg.b6,Xe Xg pg.b7,Xh ic,Xh wr]] W fun e w'=>e= Xl (Xm #[Xe Xf (BF.2.1:Int),Xe Xf (if BF.1=Xc then 0 else 10)])/\Chg w0 p W V BF.2.2 w'):=hBF
 obtain⟨b0,b1,b2,b3,b4,b5,b6,b7⟩:=pg;simp only at HCP HBF⊢;have HBR:Xo (bringR m BF ⟨b0,b1,b2,b3,b4,b5,b6,b7⟩ a ic wr q n=if(0<=a.file/\ic=Xd)/\(a.sh=Xc\/wr=Xd)then BF else bringC m ⟨b0,b1,b2,b3,b4,b5,b6,b7⟩ ic wr q n):=show _=_ from rfl
 obtain⟨BR,HB0⟩:∃BR,Xo (bringR m BF ⟨b0,b1,b2,b3,b4,b5,b6,b7⟩ a ic wr q n=BR):=⟨_,rfl⟩;rw[HB0.out]at HBR⊢;obtain⟨er,HER⟩:∃er:Int,Xo ((if BR.1=Xc then(0:Int)else 10)=er):=⟨_,rfl⟩;rw[HER.out];clear HB0 hR hs hn hF hBF h;obtain⟨b,HB⟩:∃b,Xo (w.heap.size=b):=⟨_,rfl⟩;obtain⟨W1,hW1⟩:∃W1,w.alloc (Xk #[Xj (Xa ⟨p,0,Xb⟩),Xe Xf (q:Int),Xe Xf (n:Int),Xe Xf a.fr,Xe Xf a.tz,Xh a.rd,Xh a.wr,Xh a.sh,Xe Xf a.file,Xe Xf a.base,Xe Xg b0,Xe Xg b1,Xe Xg b2,Xe Xg b3,Xe Xg b4,Xe Xg b5,Xe Xg b6,Xe Xg b7,Xh ic,Xh wr] 244)=W1:=⟨_,rfl⟩;have G1:=gA hW1
 have X1:=xPT hW1 HB
 have HW1:Xo (_=W1):=hW1;clear hW1;have hcp:=HCP.out W1 G1.out
 go_enter Tryz.func178,Tryz.ntmps178
 go_upto_region 1 with fail;rw[HW1.out,HB.out];clear HW1 HCP;obtain⟨sh,HSH⟩:∃sh,Xo (a.sh=sh):=⟨_,rfl⟩;rw[HSH.out]at X1 HBR HBF hcp;have u7:=X1.out.box.c 7 rfl;have u8:=X1.out.box.c 8 rfl;have u18:=X1.out.box.c 18 rfl;have u19:=X1.out.box.c 19 rfl
 by_cases hf:0<=a.file
 ·have hd:decide (0<=a.file)=Xc:=decide_eq_true hf
  cases ic with
  | true=>
   have HBB:Xo (BR=bringC m ⟨b0,b1,b2,b3,b4,b5,b6,b7⟩ Xc wr q n):=show _=_ by rw[HBR.out,if_neg (by simp)]
   rw[<-HBB.out,HER.out]at hcp
   go_wp2_with (refine wp_loadAll rfl 244 (.tmp 1) rfl b rfl X1.out.box Tryz.underlying244 rfl (by kernel_rfl) ?_)
   refine hcp.mono ?_;clear hcp u7 u8 u18 u19;rintro r W5 ⟨rfl,h5⟩;have HR:Xo (Chg w0 p w V BR.2.2 W5):=show Chg _ _ _ _ _ _ from Chg.of_grew G1.out h5
   clear h5;go_wp2
   go_ret2
   exact⟨rfl,HR.out⟩
  | false=>
   cases sh with
   | true=>
    have HBB:Xo (BR=BF):=show _=_ by rw[HBR.out,if_pos (by exact⟨⟨hf,rfl⟩,.inl rfl⟩)]
    have hbf:=HBF.out (by exact⟨⟨hf,rfl⟩,.inl rfl⟩) W1 G1.out
    rw[<-HBB.out,HER.out]at hbf;clear hf hcp
    go_wp2_with (refine wp_loadAll rfl 244 (.tmp 1) rfl b rfl X1.out.box Tryz.underlying244 rfl (by kernel_rfl) ?_)
    refine hbf.mono ?_;clear hbf u7 u8 u18 u19;rintro r W5 ⟨rfl,h5⟩;have HR:Xo (Chg w0 p w V BR.2.2 W5):=show Chg _ _ _ _ _ _ from Chg.of_grew G1.out h5
    clear h5;go_wp2
    go_ret2
    exact⟨rfl,HR.out⟩
   | false=>
    cases wr with
    | false=>
     have HBB:Xo (BR=BF):=show _=_ by rw[HBR.out,if_pos (by exact⟨⟨hf,rfl⟩,.inr rfl⟩)]
     have hbf:=HBF.out (by exact⟨⟨hf,rfl⟩,.inr rfl⟩) W1 G1.out
     rw[<-HBB.out,HER.out]at hbf;clear hf hcp
     go_wp2_with (refine wp_loadAll rfl 244 (.tmp 1) rfl b rfl X1.out.box Tryz.underlying244 rfl (by kernel_rfl) ?_)
     refine hbf.mono ?_;clear hbf u7 u8 u18 u19;rintro r W5 ⟨rfl,h5⟩;have HR:Xo (Chg w0 p w V BR.2.2 W5):=show Chg _ _ _ _ _ _ from Chg.of_grew G1.out h5
     clear h5;go_wp2
     go_ret2
     exact⟨rfl,HR.out⟩
    | true=>
     have HBB:Xo (BR=bringC m ⟨b0,b1,b2,b3,b4,b5,b6,b7⟩ Xd Xc q n):=show _=_ by rw[HBR.out,if_neg (by simp)]
     rw[<-HBB.out,HER.out]at hcp
     go_wp2_with (refine wp_loadAll rfl 244 (.tmp 1) rfl b rfl X1.out.box Tryz.underlying244 rfl (by kernel_rfl) ?_)
     refine hcp.mono ?_;clear hcp u7 u8 u18 u19;rintro r W5 ⟨rfl,h5⟩;have HR:Xo (Chg w0 p w V BR.2.2 W5):=show Chg _ _ _ _ _ _ from Chg.of_grew G1.out h5
     clear h5;go_wp2
     go_ret2
     exact⟨rfl,HR.out⟩
 have hd:decide (0<=a.file)=Xd:=decide_eq_false hf;have HBB:Xo (BR=bringC m ⟨b0,b1,b2,b3,b4,b5,b6,b7⟩ ic wr q n):=show _=_ by rw[HBR.out,if_neg (by exact fun h=>hf h.1.1)]
 rw[<-HBB.out,HER.out]at hcp
 go_wp2_with (refine wp_loadAll rfl 244 (.tmp 1) rfl b rfl X1.out.box Tryz.underlying244 rfl (by kernel_rfl) ?_)
 refine hcp.mono ?_;clear hcp u7 u8 u18 u19;rintro r W5 ⟨rfl,h5⟩;have HR:Xo (Chg w0 p w V BR.2.2 W5):=show Chg _ _ _ _ _ _ from Chg.of_grew G1.out h5
 clear h5;go_wp2
 go_ret2
 exact⟨rfl,HR.out⟩
theorem mark_way {m:Ma} {q n k:Nat} {fr:Fr} {s:Sp} {w:Bool} (ht:∀s∈m.sp,TbOk s.tb) (hk:m.fs[k]? =Xa fr) (h40:m.fs.length<=40) (hs:m.sp[q]? =Xa s) (hn:n<64) (hen:flatN s n=⟨1,(k:Int),w⟩) (sh:Bool):
  markM m q n k fr Xd sh={ m with fs:=m.fs.set k { fr with u:=true } }/\
  markM m q n k fr Xc Xd=enterM { m with fs:=m.fs.set k { fr with u:=true } } q (n:Int) { entM { m with fs:=m.fs.set k { fr with u:=true } } q (n:Int)with wr:=true }/\
  markM m q n k fr Xc Xc={ enterM { m with fs:=m.fs.set k { fr with u:=true } } q (n:Int) { entM { m with fs:=m.fs.set k { fr with u:=true } } q (n:Int)with wr:=true }with fs:=(enterM { m with fs:=m.fs.set k { fr with u:=true } } q (n:Int) { entM { m with fs:=m.fs.set k { fr with u:=true } } q (n:Int)with wr:=true }).fs.set k { fr with u:=true,d:=true } }:=by
 have hkl:=(gS.1 hk).1;have he:entM { m with fs:=m.fs.set k { fr with u:=true } } q (n:Int)=⟨1,(k:Int),w⟩:=by
  unfold entM
  show getT (m.sp.getD q ⟨Xd,[],[]⟩).tb _=_
  rw[Sp.getD_of hs,getT_flat hn,hen]
 have hw:enW ⟨1,(k:Int),Xc⟩=0:=enW_of ⟨by simp only;omega,by simp only;omega⟩ ⟨by simp only;omega,by simp only;omega,fun _=>by simp only;omega⟩ (by simp)
 have hp:=enter_put (m:={ m with fs:=m.fs.set k { fr with u:=true } }) ht (p:=q) (n:=n) (gS.1 hs).1 hn hw;rw[he];simp only;rw[hp];refine⟨rfl,?_,?_⟩
 ·unfold markM;rw[if_pos rfl,Bool.or_false]
 unfold markM putE;rw[if_pos rfl,Bool.or_true];simp only[List.set_set]
theorem useMark_any {w0 w:Xn} {p:Nat} {V:MaV} {m:Ma} (h:ChW w0 p w V m) (q n k:Nat) (fr:Fr) (s:Sp) (we:Bool) (hk:m.fs[k]? =Xa fr) (h40:m.fs.length<=40) (ht:∀s∈m.sp,TbOk s.tb) (hs:m.sp[q]? =Xa s) (hn:n<64) (hen:flatN s n=⟨1,(k:Int),we⟩) (a:Ar) (pg:Pg) (ic wr:Bool):
  Xp Tryz.prog 179 #[Xi #[Xj (Xa ⟨p,0,Xb⟩),Xe Xf (q:Int),Xe Xf (n:Int),Xe Xf a.fr,Xe Xf a.tz,Xh a.rd,Xh a.wr,Xh a.sh,Xe Xf a.file,Xe Xf a.base,Xe Xg pg.b0,Xe Xg pg.b1,Xe Xg pg.b2,Xe Xg pg.b3,Xe Xg pg.b4,Xe Xg pg.b5,Xe Xg pg.b6,Xe Xg pg.b7,Xh ic,Xh wr],Xe Xf (k:Int)] w fun e w'=>(∃v,e= Xl v)/\Chg w0 p w V (markM m q n k fr wr a.sh) w':=by
 have HM:Xo (ChW w0 p w V m):=h;obtain⟨h1,h2,h3⟩:=mark_way ht hk h40 hs hn hen a.sh;have H1:Xo (markM m q n k fr Xd a.sh={ m with fs:=m.fs.set k { fr with u:=true } }):=h1;have HQ:Xo (q<m.sp.length):=(gS.1 hs).1;have hkl:=(gS.1 hk).1;have HK:Xo (m.fs[k]? =Xa fr):=hk;have HD:Xo (∀k,Dw p V k->k<w.heap.size):=h.dlt;obtain⟨sh,HSH⟩:∃sh,Xo (a.sh=sh):=⟨_,rfl⟩;rw[HSH.out]at H1⊢;have H2:Xo (markM m q n k fr Xc Xd=enterM { m with fs:=m.fs.set k { fr with u:=true } } q (n:Int) { entM { m with fs:=m.fs.set k { fr with u:=true } } q (n:Int)with wr:=true }):=h2;have H3:Xo (markM m q n k fr Xc Xc={ enterM { m with fs:=m.fs.set k { fr with u:=true } } q (n:Int) { entM { m with fs:=m.fs.set k { fr with u:=true } } q (n:Int)with wr:=true }with fs:=(enterM { m with fs:=m.fs.set k { fr with u:=true } } q (n:Int) { entM { m with fs:=m.fs.set k { fr with u:=true } } q (n:Int)with wr:=true }).fs.set k { fr with u:=true,d:=true } }):=h3;clear h1 h2 h3 ht hk h40 hs hn hen;obtain⟨b0,b1,b2,b3,b4,b5,b6,b7⟩:=pg;simp only;obtain⟨b,HB⟩:∃b,Xo (w.heap.size=b):=⟨_,rfl⟩;obtain⟨W1,hW1⟩:∃W1,w.alloc (Xk #[Xj (Xa ⟨p,0,Xb⟩),Xe Xf (q:Int),Xe Xf (n:Int),Xe Xf a.fr,Xe Xf a.tz,Xh a.rd,Xh a.wr,Xh sh,Xe Xf a.file,Xe Xf a.base,Xe Xg b0,Xe Xg b1,Xe Xg b2,Xe Xg b3,Xe Xg b4,Xe Xg b5,Xe Xg b6,Xe Xg b7,Xh ic,Xh wr] 244)=W1:=⟨_,rfl⟩;have G1:=gA hW1
 have X1:=xPT hW1 HB
 have HND:Xo (¬Dw p V b):=show¬_ from fun e=>by have:=HD.out _ e;have:=HB.out;omega
 have HW1:Xo (_=W1):=hW1;clear hW1;have M1:Xo (ChW w0 p W1 V m):=h.grew G1.out;obtain⟨g,c9,heq⟩:=M1.out.fs.formS (by omega)
 have f0:=M1.out.box.box.c 0 rfl;rw[heq]at f0;have HFO:Xo (OwnRow frmE w0.heap.size W1 (O (Xa ⟨g,0,Xb⟩) m.fs.length c9) m.fs):=show OwnRow _ _ _ _ _ by rw[<-heq];exact M1.out.fs
 have HG:Xo (oB V.f g):=show oB _ _ by unfold oB;rw[heq];rfl
 have HEQ:Xo (O V.f.a V.f.n V.f.c= O (Xa ⟨g,0,Xb⟩) m.fs.length c9):=heq;have hlt:(k:Int)< (m.fs.length:Int):=by omega
 obtain⟨fn,HFN⟩:∃fn,Xo (m.fs.length=fn):=⟨_,rfl⟩;rw[HFN.out]at HFO HEQ f0 hlt;have u0:=X1.out.box.c 0 rfl;clear h heq hkl
 go_enter Tryz.func179,Tryz.ntmps179
 go_upto_region 1 with fail;rw[HW1.out,HB.out];clear HW1
 go_upto_region 2 with(refine wpList_store_part (E:=frmE) rfl (.tmp 13) (.const (Xh Xc)) 4 rfl w0.heap.size _ m.fs HFO.out g k 9 rfl fr { fr with u:=true } HK.out [Xh Xc] (by kernel_rfl) rfl (Yi rfl) (by intro u hu;simp at hu;subst hu;rfl) ⟨g,k*13+9,Xb⟩ rfl rfl _ rfl rfl ?_)
 intro W2 ow2 gr2 _;have HC2:Xo (Chg w0 p w V { m with fs:=m.fs.set k { fr with u:=true } } W2):=show Chg _ _ _ _ _ _ by
  refine Chg.of_grew G1.out (M1.out.frame HG.out gr2 ?_);rw[HEQ.out];exact ow2
 have X2:Xo (BoxT W2 b 244 [Xj (Xa ⟨p,0,Xb⟩),Xe Xf (q:Int),Xe Xf (n:Int),Xe Xf a.fr,Xe Xf a.tz,Xh a.rd,Xh a.wr,Xh sh,Xe Xf a.file,Xe Xf a.base,Xe Xg b0,Xe Xg b1,Xe Xg b2,Xe Xg b3,Xe Xg b4,Xe Xg b5,Xe Xg b6,Xe Xg b7,Xh ic,Xh wr]):=X1.out.outD (OutD.grown gr2 (show Dw p V g from .inr (.inl HG.out))) HND.out
 clear ow2 gr2 f0 u0 X1 M1 G1 HFO;try simp only[Xs]
 have u19:=X2.out.box.c 19 rfl
 cases wr with
 | false=>
  have HR:Xo (Chg w0 p w V (markM m q n k fr Xd sh) W2):=show Chg _ _ _ _ _ _ by rw[H1.out];exact HC2.out
  go_wp2
  (first | go_end0 | ((try simp only[Exit.inBlock,Exit.then]);refine bodyPost_ret (results_none rfl _ _ _) rfl ?_))
  first | exact HR.out | exact⟨⟨_,rfl⟩,HR.out⟩
 | true=>
  obtain⟨V2,m2,o2,d2⟩:=HC2.out;have M2:Xo (ChW w0 p W2 V2 { m with fs:=m.fs.set k { fr with u:=true } }):=m2;have O2:Xo (OutD (Dw p V) w W2):=o2;have D2:Xo (∀k,Dw p V2 k->Dw p V k\/w.heap.size<=k):=d2;have HN2:Xo (¬Dw p V2 b):=show¬_ from m2.offB X2.out (by decide) (by decide) (by decide) (by decide)
  have hal:=cwAllow_any m2 q HQ.out (n:Int);clear m2 o2 d2 HC2;obtain⟨u0,u1,u2⟩:=X2.out.box.c3;go_wp2_with fail;refine hal.mono ?_;clear hal u0 u1 u2 u19;rintro e W4 ⟨⟨v4,rfl⟩,h4⟩;obtain⟨V4,m4,o4,d4⟩:=h4;have X4:Xo (BoxT W4 b 244 [Xj (Xa ⟨p,0,Xb⟩),Xe Xf (q:Int),Xe Xf (n:Int),Xe Xf a.fr,Xe Xf a.tz,Xh a.rd,Xh a.wr,Xh sh,Xe Xf a.file,Xe Xf a.base,Xe Xg b0,Xe Xg b1,Xe Xg b2,Xe Xg b3,Xe Xg b4,Xe Xg b5,Xe Xg b6,Xe Xg b7,Xh ic,Xh Xc]):=X2.out.outD o4 HN2.out;have HC4:Xo (Chg w0 p w V (enterM { m with fs:=m.fs.set k { fr with u:=true } } q (n:Int) { entM { m with fs:=m.fs.set k { fr with u:=true } } q (n:Int)with wr:=true }) W4):=show Chg _ _ _ _ _ _ from Chg.step O2.out D2.out ⟨V4,m4,o4,d4⟩
  clear m4 o4 d4 X2 M2 O2 D2;have u7:=X4.out.box.c 7 rfl
  cases sh with
  | false=>
   have HR:Xo (Chg w0 p w V (markM m q n k fr Xc Xd) W4):=show Chg _ _ _ _ _ _ by rw[H2.out];exact HC4.out
   go_wp2
   (first | go_end0 | ((try simp only[Exit.inBlock,Exit.then]);refine bodyPost_ret (results_none rfl _ _ _) rfl ?_))
   first | exact HR.out | exact⟨⟨_,rfl⟩,HR.out⟩
  | true=>
   obtain⟨mE,HME⟩:∃mE,Xo (enterM { m with fs:=m.fs.set k { fr with u:=true } } q (n:Int) { entM { m with fs:=m.fs.set k { fr with u:=true } } q (n:Int)with wr:=true }=mE):=⟨_,rfl⟩;have HFE:Xo (mE.fs=m.fs.set k { fr with u:=true }):=show _=_ by rw[<-HME.out];rfl
   rw[HME.out]at HC4 H3;clear HME;obtain⟨V5,m5,o5,d5⟩:=HC4.out;have M5:Xo (ChW w0 p W4 V5 mE):=m5;have O5:Xo (OutD (Dw p V) w W4):=o5;have D5:Xo (∀k,Dw p V5 k->Dw p V k\/w.heap.size<=k):=d5;have hfl:mE.fs.length=fn:=by rw[HFE.out,Xu,HFN.out]
   obtain⟨g5,c5,heq⟩:=m5.fs.formS (by rw[hfl];omega)
   have f0:=m5.box.box.c 0 rfl;rw[heq,hfl]at f0;have HK5:Xo (mE.fs[k]? =Xa { fr with u:=true }):=show _=_ by rw[HFE.out,sF (gS.1 HK.out).1]
   have HFO:Xo (OwnRow frmE w0.heap.size W4 (O (Xa ⟨g5,0,Xb⟩) fn c5) mE.fs):=show OwnRow _ _ _ _ _ by rw[<-hfl,<-heq];exact m5.fs
   have HG5:Xo (oB V5.f g5):=show oB _ _ by unfold oB;rw[heq];rfl
   have HEQ5:Xo (O V5.f.a V5.f.n V5.f.c= O (Xa ⟨g5,0,Xb⟩) fn c5):=show _=_ by rw[heq,hfl]
   have u0:=X4.out.box.c 0 rfl;clear m5 o5 d5 heq hfl HC4
   go_wp2_with (refine wpList_store_part (E:=frmE) rfl (.tmp 34) (.const (Xh Xc)) 4 rfl w0.heap.size _ mE.fs HFO.out g5 k 10 rfl { fr with u:=true } { fr with u:=true,d:=true } HK5.out [Xh Xc] (by kernel_rfl) rfl (Yi rfl) (by intro u hu;simp at hu;subst hu;rfl) ⟨g5,k*13+10,Xb⟩ rfl rfl _ rfl rfl ?_)
   intro W6 ow6 gr6 _;have HR:Xo (Chg w0 p w V (markM m q n k fr Xc Xc) W6):=show Chg _ _ _ _ _ _ by
    rw[H3.out];refine Chg.step O5.out D5.out (M5.out.frame HG5.out gr6 ?_);rw[HEQ5.out];exact ow6
   clear ow6 gr6 f0 u0 u7;go_wp2
   (first | go_end0 | ((try simp only[Exit.inBlock,Exit.then]);refine bodyPost_ret (results_none rfl _ _ _) rfl ?_))
   first | exact HR.out | exact⟨⟨_,rfl⟩,HR.out⟩
theorem cont_idx {m:Ma} (h:caGo m Xb m.ca=0) (file idx:Int):contL m file idx=match idxG m.ca (file,idx)with | some z=>pgL (frAt m z).p | none=>diskL m file idx:=by
 cases e:idxG m.ca (file,idx)with
 | some z=>
  obtain⟨c,hc,hk,hz⟩:=idxG_mem e;have hf:=find_cached h hc;simp only[pJ]at hk;rw[<-hk.1,<-hk.2]at hf;unfold contL;rw[hf];simp only;rw[hz]
 | none=>
  have hn:=idxG_none.1 e;have hf:m.ca.find? (hitC file idx)=Xb:=by
   rw[List.find?_eq_none];intro c hc hx;simp only[hitC,Xy,decide_eq_true_eq]at hx;exact hn c hc (by rw[hx.1,hx.2])
  unfold contL;rw[hf];rfl
theorem ca_in {m:Ma} (h:caGo m Xb m.ca=0) {file idx z:Int} (e:idxG m.ca (file,idx)=Xa z):0<=z/\z< (m.fs.length:Int):=by
 obtain⟨c,hc,hk,hz⟩:=idxG_mem e;have:=(caE_ok ((caGo_zero.1 h).1 c hc)).1;omega
theorem filePage_any (V:MaV) (m:Ma) (B fi ix:Nat) (f:Fl) (bk:Int) (w:Xn) (hm:MachAt w V m) (hca:caGo m Xb m.ca=0) (hf:m.fl[fi]? =Xa f) (hbk:f.bl[ix]? =Xa bk) (hix:ix<=1000) (hsz:0<=f.size/\f.size<=1000) (hmap:MapF plK w B (idxG m.ca)):
  Xp Tryz.prog 150 #[Xi #[O V.f.a V.f.n V.f.c,Xe Xf m.hand,O V.s.a V.s.n V.s.c,O V.sb.a V.sb.n V.sb.c,O V.sq.a V.sq.n V.sq.c,O V.db.a V.db.n V.db.c,O V.dq.a V.dq.n V.dq.c,O V.fl.a V.fl.n V.fl.c,Xe Xf m.cnt,O V.ca.a V.ca.n V.ca.c,O V.sp.a V.sp.n V.sp.c,.map (Xa B)],Xe Xf (fi:Int),Xe Xf (ix:Int)] w fun e w'=>e= Xl (Xi (pgc (contL m fi ix)).toArray)/\(contL m fi ix).length=8/\Grew w w':=by
 have HST:Xo (∀W,Grew w W->Xp Tryz.prog 155 #[Xi #[O V.f.a V.f.n V.f.c,Xe Xf m.hand,O V.s.a V.s.n V.s.c,O V.sb.a V.sb.n V.sb.c,O V.sq.a V.sq.n V.sq.c,O V.db.a V.db.n V.db.c,O V.dq.a V.dq.n V.dq.c,O V.fl.a V.fl.n V.fl.c,Xe Xf m.cnt,O V.ca.a V.ca.n V.ca.c,O V.sp.a V.sp.n V.sp.c],Xe Xf (fi:Int),Xe Xf (ix:Int)] W fun e w'=>e= Xl (Xi (pgc (diskL m fi ix)).toArray)/\(diskL m fi ix).length=8/\Grew W w'):=show∀W,_ from fun W hW=>storedM_any V m fi ix f bk W (hm.grew hW) hf hbk hix hsz
 have HFR:Xo (FrRows w V.f.a m.fs):=hm.frs;obtain⟨n1,-⟩:=hm.ns;have HCI:Xo (contL m fi ix=match idxG m.ca ((fi:Int),(ix:Int))with | some z=>pgL (frAt m z).p | none=>diskL m fi ix):=cont_idx hca _ _
 have HIN:Xo (∀z,idxG m.ca ((fi:Int),(ix:Int))=Xa z->0<=z/\z< (m.fs.length:Int)):=show∀z,_ from fun z hz=>ca_in hca hz
 obtain⟨⟨fa,fn,fc⟩,vs,vsb,vsq,vdb,vdq,vfl,vca,vsp⟩:=V;dsimp only at n1 HST HFR⊢;have HN1:Xo (m.fs.length=fn):=n1.symm;obtain⟨W0,hW0⟩:∃W0,(w.alloc (Xk #[O fa fn fc,Xe Xf m.hand,O vs.a vs.n vs.c,O vsb.a vsb.n vsb.c,O vsq.a vsq.n vsq.c,O vdb.a vdb.n vdb.c,O vdq.a vdq.n vdq.c,O vfl.a vfl.n vfl.c,Xe Xf m.cnt,O vca.a vca.n vca.c,O vsp.a vsp.n vsp.c,.map (Xa B)] 131)).alloc (Xk #[Xe Xg 0,Xe Xg 0,Xe Xg 0,Xe Xg 0,Xe Xg 0,Xe Xg 0,Xe Xg 0,Xe Xg 0] 91)=W0:=⟨_,rfl⟩;have G0:=gD2 hW0
 have X0:=x2a hW0
 have Y0:Xo (Box W0 (w.heap.size+1) (pgc zero8)):=show Box _ _ _ by rw[<-hW0];exact Box.top _ (pgc zero8) _ (by simp)
 have hlook:(Instr.lookup 129 (.map (Xa B)) (Xi #[Xe Xf (fi:Int),Xe Xf (ix:Int)]) Xc).run Tryz.prog W0= .ok (Xm #[Xe Xf ((idxG m.ca ((fi:Int),(ix:Int))).getD 0),Xh (idxG m.ca ((fi:Int),(ix:Int))).isSome]) W0:=(hmap.grew G0.out).look (K:=plK) Tryz.underlying129 (Tryz.zeroInt W0) ((fi:Int),(ix:Int)) Xc;have HW0:Xo (_=W0):=hW0;obtain⟨gv,HGV⟩:∃gv,Xo (idxG m.ca ((fi:Int),(ix:Int))=gv):=⟨_,rfl⟩;rw[HGV.out]at hlook HCI HIN;obtain⟨C,HC⟩:∃C,Xo (contL m fi ix=C):=⟨_,rfl⟩;rw[HC.out]at HCI⊢;clear hW0 hm hca hf hbk hix hsz hmap n1 HGV HC
 go_enter Tryz.func150,Tryz.ntmps150
 go_upto_region 1 with fail;rw[HW0.out];clear HW0;have x11:=X0.out.c 11 rfl
 cases gv with
 | none=>
  simp only[Option.getD_none,Option.isSome_none]at hlook HCI;have hc:=HST.out W0 G0.out;rw[<-HCI.out]at hc;obtain⟨x0,x1,x2,x3,x4,x5,x6,x7,x8,x9,x10⟩:=X0.out.c11;go_wp2_with fail;refine hc.mono ?_;clear hc hlook x0 x1 x2 x3 x4 x5 x6 x7 x8 x9 x10 x11;rintro r W1 ⟨rfl,hl8,g1⟩;have G1:=dD (G0.out.trans g1);have Y1:=dD (Y0.out.grew g1);clear g1
  go_wp2_with (refine wp_storeAll rfl 91 (.tmp 6) (.tmp 31) rfl (w.heap.size+1) rfl (pgc C) rfl Y1.out (by rw[pgc_len,hl8];rfl) Tryz.sizePg (pgc_one _) ?_)
  intro WL hbL hgL _;have HGL:Xo (Grew w WL):=show Grew _ _ from grew_grown G1.out hgL (by omega)
  go_wp2;refine bodyPost_ret (ret_cell rfl _ rfl hbL Tryz.underlying91 rfl (by rw[pgc_len,hl8];exact Tryz.sizePg)) rfl ⟨rfl,hl8,HGL.out⟩
 | some z=>
  simp only[Option.getD_some,Option.isSome_some]at hlook HCI;obtain⟨z0,z1⟩:=HIN.out z rfl;obtain⟨k,rfl⟩:∃k:Nat,z=(k:Int):=⟨z.toNat,by omega⟩
  rw[HN1.out]at z1;obtain⟨q,HQ⟩:∃q,Xo (m.fs[k]? =Xa q):=⟨_,gE (by rw[HN1.out];omega)⟩
  rw[frAt_of HQ.out]at HCI;obtain⟨adf,hva,hl⟩:=HFR.out k q HQ.out;obtain⟨d0,d1,d2,d3,d4,d5,d6,d7,-⟩:=hl W0 G0.out;have x0:=X0.out.c 0 rfl;rw[hva]at x0;clear hl hva z0
  go_wp2_with (refine wp_storeAll rfl 91 (.tmp 6) (.tmp 26) rfl (w.heap.size+1) rfl (pgc (pgL q.p)) rfl Y0.out rfl Tryz.sizePg (pgc_one _) ?_)
  intro WL hbL hgL _;have HGL:Xo (Grew w WL):=show Grew _ _ from grew_grown G0.out hgL (by omega)
  go_wp2;refine bodyPost_ret (ret_cell rfl _ rfl hbL Tryz.underlying91 rfl Tryz.sizePg) rfl ⟨by rw[HCI.out],by rw[HCI.out];rfl,HGL.out⟩
theorem swap_ok {m:Ma} (h:maW m=0):wrongL m.sb.length m.sq=0:=by
 have h1:=maW_parts h;unfold partE at h1;rw[firstE_zero]at h1;exact h1 _ (by simp)
theorem wrongAt_in {n:Nat} {qs:List (Int × List Int)} {k:Int} (h:wrongL n qs=0) (h0:0<=k) (h1:k< (n:Int)):wrongAtL n qs k=0:=by
 unfold wrongAtL;rw[if_pos h];have:dkInB k n=Xc:=by
  unfold dkInB;simp;omega
 rw[this];rfl
theorem fl_size {m:Ma} (h:maW m=0) {fi:Nat} {f:Fl} (hf:m.fl[fi]? =Xa f):(0<=f.size/\f.size<=1000)/\f.bl.length<=12:=by
 have h1:=maW_parts h;unfold partE at h1;rw[firstE_zero]at h1;have h2:=((stW_zero _ _).1 (h1 (stW m.fl m.cnt) (by simp))).2.1 f (mG hf)
 have h3:=h2.2.1;have h4:=h2.1;unfold cntP at h3
 split at h3 <;> omega
theorem ca_zero {m:Ma} (h:maW m=0):caGo m Xb m.ca=0:=by
 unfold maW at h;rw[firstE_zero]at h;exact h _ (by simp)
theorem hasP_bk {m:Ma} {file idx:Int} (h0:0<=file) (h1:0<=idx):hasP m.fl file idx=decide (idx<bkN m file):=by
 unfold hasP bkN;rw[Bool.eq_iff_iff,Xy,bel_iff,bel_iff,decide_eq_true_eq];constructor
 ·rintro⟨_,h⟩;exact h.2
 intro h;refine⟨⟨h0,?_⟩,h1,h⟩
 rcases Int.lt_or_le file m.fl.length with h2 | h2
 ·exact h2
 rw[gD,gN (by omega)]at h
 simp at h
 omega
theorem indexView_any (V:MaV) (m:Ma) (B:Nat) (a:Ar) (n:Nat) (e:En) (w:Xn) (hm:MachAt w V m) (hw:maW m=0) (ha:ArOk a) (hin:a.fr<=(n:Int)/\(n:Int)<a.tz) (h1:e.kind=1->0<=e.n/\e.n< (m.fs.length:Int)) (h2:e.kind=2->0<=e.n/\e.n< (m.sb.length:Int)) (hmap:MapF plK w B (idxG m.ca)):
  Xp Tryz.prog 204 #[Xi #[O V.f.a V.f.n V.f.c,Xe Xf m.hand,O V.s.a V.s.n V.s.c,O V.sb.a V.sb.n V.sb.c,O V.sq.a V.sq.n V.sq.c,O V.db.a V.db.n V.db.c,O V.dq.a V.dq.n V.dq.c,O V.fl.a V.fl.n V.fl.c,Xe Xf m.cnt,O V.ca.a V.ca.n V.ca.c,O V.sp.a V.sp.n V.sp.c,.map (Xa B)],Xi #[Xe Xf a.fr,Xe Xf a.tz,Xh a.rd,Xh a.wr,Xh a.sh,Xe Xf a.file,Xe Xf a.base],Xe Xf (n:Int),Xi #[Xe Xf e.kind,Xe Xf e.n,Xh e.wr]] w fun r w'=>r= Xl (viewV (seeE m (oneOf a n) e))/\(seeE m (oneOf a n) e).1.length=8/\Grew w w':=by
 have HM:Xo (MachAt w V m):=hm;have HMP:Xo (MapF plK w B (idxG m.ca)):=hmap;have HFP:Xo (∀W (fi ix:Nat) f bk,Grew w W->m.fl[fi]? =Xa f->f.bl[ix]? =Xa bk->ix<=1000->Xp Tryz.prog 150 #[Xi #[O V.f.a V.f.n V.f.c,Xe Xf m.hand,O V.s.a V.s.n V.s.c,O V.sb.a V.sb.n V.sb.c,O V.sq.a V.sq.n V.sq.c,O V.db.a V.db.n V.db.c,O V.dq.a V.dq.n V.dq.c,O V.fl.a V.fl.n V.fl.c,Xe Xf m.cnt,O V.ca.a V.ca.n V.ca.c,O V.sp.a V.sp.n V.sp.c,.map (Xa B)],Xe Xf (fi:Int),Xe Xf (ix:Int)] W fun e w'=>e= Xl (Xi (pgc (contL m fi ix)).toArray)/\(contL m fi ix).length=8/\Grew W w'):=show∀W,_ from fun W fi ix f bk hW hf hb hi=>filePage_any V m B fi ix f bk W (HM.out.grew hW) (ca_zero hw) hf hb hi (fl_size hw hf).1 (HMP.out.grew hW)
 have HRD:Xo (∀W k,Grew w W->Xp Tryz.prog 184 #[Xi #[O V.sb.a V.sb.n V.sb.c,O V.sq.a V.sq.n V.sq.c],Xe Xf k] W fun e w'=>e= Xl (Xm #[Xi (pgc (readL m.sb m.sq k)).toArray,Xe Xf (wrongAtL m.sb.length m.sq k)])/\Grew W w'):=show∀W,_ from fun W k hW=>read_any _ m.sb m.sq k W ⟨_,_,rfl,(HM.out.grew hW).sb,(HM.out.grew hW).sq⟩
 have HHP:Xo (∀W file idx,Grew w W->Xp Tryz.prog 119 #[Xi #[O V.fl.a V.fl.n V.fl.c,Xe Xf m.cnt],Xe Xf file,Xe Xf idx] W fun e w'=>e= Xl (Xh (hasP m.fl file idx))/\Grew W w'):=show∀W,_ from fun W file idx hW=>hasPage_any _ m.fl m.cnt file idx W (HM.out.grew hW).fl
 have HRL:Xo (∀k,(readL m.sb m.sq k).length=8):=show∀k,_ from fun k=>readL8 hm.sb.2.1 hm.sq.2.1
 have HSW:Xo (wrongL m.sb.length m.sq=0):=swap_ok hw;have HFR:Xo (FrRows w V.f.a m.fs):=hm.frs;have HF12:Xo (∀(fi:Nat) f,m.fl[fi]? =Xa f->f.bl.length<=12):=show∀fi,_ from fun fi f hf=>(fl_size hw hf).2
 have HIX:Xo (∀W,Xp Tryz.prog 169 #[Xi #[Xe Xf a.fr,Xe Xf a.tz,Xh a.rd,Xh a.wr,Xh a.sh,Xe Xf a.file,Xe Xf a.base],Xe Xf (n:Int)] W fun e w'=>e= Xl (Xe Xf (a.base+(n:Int) - a.fr))/\Grew W w'):=show∀W,_ from fun W=>indexOf_any a n W (by unfold ArOk at ha;omega) (by unfold ArOk at ha;omega) (by unfold ArOk at ha;omega)
 obtain⟨n1,-,-,-,-,-,n7,-,-⟩:=hm.ns;have HSE:Xo (seeE m (oneOf a n) e=if e.kind=1 then(pgL (frAt m e.n).p,decide ((frAt m e.n).f<0),0)else if e.kind=2 then(readL m.sb m.sq e.n,Xc,0)else if a.file<0 then(zero8,Xd,0)else if bkN m a.file<=a.base+(n:Int) - a.fr then(zero8,Xd,9)else(contL m a.file (a.base+(n:Int) - a.fr),Xd,0)):=show _=_ by
  unfold seeE oneOf;rw[if_neg (by simp)]
  by_cases k1:e.kind=1
  ·rw[if_pos k1,if_pos k1]
  rw[if_neg k1,if_neg k1]
  by_cases k2:e.kind=2
  ·rw[if_pos k2,if_pos k2]
  rw[if_neg k2,if_neg k2]
  by_cases k3:a.file<0
  ·rw[if_pos k3,if_pos k3]
  rw[if_neg k3,if_neg k3];have hpage:(if 0<=a.file then a.base+((n:Int) - a.fr)else 0)=a.base+(n:Int) - a.fr:=by rw[if_pos (by omega)];omega
  simp only[hpage]
 obtain⟨R,HRR⟩:∃R,Xo (seeE m (oneOf a n) e=R):=⟨_,rfl⟩;rw[HRR.out]at HSE⊢;obtain⟨⟨fa,fn,fc⟩,vs,⟨sba,sbn,sbc⟩,⟨sqa,sqn,sqc⟩,vdb,vdq,⟨fla,fln,flc⟩,vca,vsp⟩:=V;dsimp only at n1 n7 HFP HRD HHP HFR⊢;have HN1:Xo (m.fs.length=fn):=n1.symm;have HP0:Xo (0<=a.file->0<=a.base+(n:Int) - a.fr/\a.base+(n:Int) - a.fr<=100):=show _->_ from fun _=>by unfold ArOk at ha;omega
 clear hm hw ha hin hmap n1 n7 HM HMP HRR;obtain⟨W0,hW0⟩:∃W0,(((w.alloc (Xk #[O fa fn fc,Xe Xf m.hand,O vs.a vs.n vs.c,O sba sbn sbc,O sqa sqn sqc,O vdb.a vdb.n vdb.c,O vdq.a vdq.n vdq.c,O fla fln flc,Xe Xf m.cnt,O vca.a vca.n vca.c,O vsp.a vsp.n vsp.c,.map (Xa B)] 131)).alloc (Xk #[Xe Xf a.fr,Xe Xf a.tz,Xh a.rd,Xh a.wr,Xh a.sh,Xe Xf a.file,Xe Xf a.base] 125)).alloc (Xk #[Xe Xf e.kind,Xe Xf e.n,Xh e.wr] 127)).alloc (Xk #[Xe Xg 0,Xe Xg 0,Xe Xg 0,Xe Xg 0,Xe Xg 0,Xe Xg 0,Xe Xg 0,Xe Xg 0] 91)=W0:=⟨_,rfl⟩;have G0:Xo (Grew w W0):=show Grew _ _ by rw[<-hW0];exact(((grew_alloc _ _).trans (grew_alloc _ _)).trans (grew_alloc _ _)).trans (grew_alloc _ _)
 have X0:Xo (Box W0 w.heap.size [O fa fn fc,Xe Xf m.hand,O vs.a vs.n vs.c,O sba sbn sbc,O sqa sqn sqc,O vdb.a vdb.n vdb.c,O vdq.a vdq.n vdq.c,O fla fln flc,Xe Xf m.cnt,O vca.a vca.n vca.c,O vsp.a vsp.n vsp.c,.map (Xa B)]):=show Box _ _ _ by rw[<-hW0];exact(((Box.top _ _ _ rfl).alloc _).alloc _).alloc _
 have A0:Xo (Box W0 (w.heap.size+1) [Xe Xf a.fr,Xe Xf a.tz,Xh a.rd,Xh a.wr,Xh a.sh,Xe Xf a.file,Xe Xf a.base]):=show Box _ _ _ by rw[<-hW0];exact((Box.top _ _ _ (by simp)).alloc _).alloc _
 have E0:Xo (Box W0 (w.heap.size+1+1) [Xe Xf e.kind,Xe Xf e.n,Xh e.wr]):=show Box _ _ _ by rw[<-hW0];exact(Box.top _ _ _ (by simp)).alloc _
 have Y0:Xo (Box W0 (w.heap.size+1+1+1) (pgc zero8)):=show Box _ _ _ by rw[<-hW0];exact Box.top _ (pgc zero8) _ (by simp)
 have HW0:Xo (_=W0):=hW0;clear hW0
 go_enter Tryz.func204,Tryz.ntmps204
 go_upto_region 1 with fail;rw[HW0.out];clear HW0;have e0:=E0.out.c 0 rfl;have e1:=E0.out.c 1 rfl
 by_cases k1:e.kind=1
 ·have k1e:(e.kind == 1)=Xc:=by simp[k1]
  obtain⟨z0,z1⟩:=h1 k1;obtain⟨k,hk⟩:∃k:Nat,e.n=(k:Int):=⟨e.n.toNat,by omega⟩
  rw[hk]at z1 z0;rw[HN1.out]at z1;obtain⟨q,HQ⟩:∃q,Xo (m.fs[k]? =Xa q):=⟨_,gE (by have:=HN1.out;omega)⟩
  have HR:Xo (R=(pgL q.p,decide (q.f<0),0)):=show _=_ by rw[HSE.out,if_pos k1,hk,frAt_of HQ.out]
  obtain⟨adf,hva,hlf⟩:=HFR.out k q HQ.out;obtain⟨d0,d1,d2,d3,d4,d5,d6,d7,d8,d9,d10,d11,d12⟩:=hlf W0 G0.out;have x0:=X0.out.c 0 rfl;rw[hva]at x0;rw[hk]at e1;clear hlf hva k1 hk h1 h2 HSE z0;go_upto_region 4 with fail;obtain⟨pq,HPQ⟩:∃pq,Xo (W0.heap.size=pq):=⟨_,rfl⟩;obtain⟨W5,hW5⟩:∃W5,W0.alloc (Xk #[Xe Xg q.p.b0,Xe Xg q.p.b1,Xe Xg q.p.b2,Xe Xg q.p.b3,Xe Xg q.p.b4,Xe Xg q.p.b5,Xe Xg q.p.b6,Xe Xg q.p.b7,Xe Xf q.r,Xh q.u,Xh q.d,Xe Xf q.f,Xe Xf q.x] 93)=W5:=⟨_,rfl⟩;have g5:=gP hW5
  have Q5:=xP hW5 HPQ
  have G5:=dD (G0.out.trans g5);have Y5:=dD (Y0.out.grew g5);have hne:w.heap.size+1+1+1≠pq:=by have:=Y0.out.lt;have h2:=HPQ.out;omega
  have hne2:pq≠w.heap.size+1+1+1:=fun h=>hne h.symm
  rw[hW5,HPQ.out];clear hW5 g5 G0 X0 Y0 A0 E0 x0 e0 e1 HPQ d0 d1 d2 d3 d4 d5 d6 d7 d8 d9 d10 d11 d12;obtain⟨I,HI⟩:∃I:Xn->Prop,Xo (∀u,I u↔(Grew w u/\Box u pq [Xe Xg q.p.b0,Xe Xg q.p.b1,Xe Xg q.p.b2,Xe Xg q.p.b3,Xe Xg q.p.b4,Xe Xg q.p.b5,Xe Xg q.p.b6,Xe Xg q.p.b7,Xe Xf q.r,Xh q.u,Xh q.d,Xe Xf q.f,Xe Xf q.x]/\∃cs,Box u (w.heap.size+1+1+1) cs/\cs.length=8)):=⟨fun u=>(Grew w u/\Box u pq [Xe Xg q.p.b0,Xe Xg q.p.b1,Xe Xg q.p.b2,Xe Xg q.p.b3,Xe Xg q.p.b4,Xe Xg q.p.b5,Xe Xg q.p.b6,Xe Xg q.p.b7,Xe Xf q.r,Xh q.u,Xh q.d,Xe Xf q.f,Xe Xf q.x]/\∃cs,Box u (w.heap.size+1+1+1) cs/\cs.length=8),fun _=>Iff.rfl⟩
  have gd:Grew W5 W5.drew:=(gW _)
  have hI0:I W5.drew:=(HI.out _).2 ⟨G5.out.trans gd,Q5.out.grew gd,_,Y5.out.grew gd,rfl⟩;have hq0:∀y:HoldI I,y.world.cell? ⟨pq,0,Xb⟩=Xa (Xe Xg q.p.b0):=fun y=>((HI.out _).1 y.holds).2.1.c 0 rfl
  have hq1:∀y:HoldI I,y.world.cell? ⟨pq,1,Xb⟩=Xa (Xe Xg q.p.b1):=fun y=>((HI.out _).1 y.holds).2.1.c 1 rfl
  have hq2:∀y:HoldI I,y.world.cell? ⟨pq,2,Xb⟩=Xa (Xe Xg q.p.b2):=fun y=>((HI.out _).1 y.holds).2.1.c 2 rfl
  have hq3:∀y:HoldI I,y.world.cell? ⟨pq,3,Xb⟩=Xa (Xe Xg q.p.b3):=fun y=>((HI.out _).1 y.holds).2.1.c 3 rfl
  have hq4:∀y:HoldI I,y.world.cell? ⟨pq,4,Xb⟩=Xa (Xe Xg q.p.b4):=fun y=>((HI.out _).1 y.holds).2.1.c 4 rfl
  have hq5:∀y:HoldI I,y.world.cell? ⟨pq,5,Xb⟩=Xa (Xe Xg q.p.b5):=fun y=>((HI.out _).1 y.holds).2.1.c 5 rfl
  have hq6:∀y:HoldI I,y.world.cell? ⟨pq,6,Xb⟩=Xa (Xe Xg q.p.b6):=fun y=>((HI.out _).1 y.holds).2.1.c 6 rfl
  have hq7:∀y:HoldI I,y.world.cell? ⟨pq,7,Xb⟩=Xa (Xe Xg q.p.b7):=fun y=>((HI.out _).1 y.holds).2.1.c 7 rfl
  have hq11:∀y:HoldI I,y.world.cell? ⟨pq,11,Xb⟩=Xa (Xe Xf q.f):=fun y=>((HI.out _).1 y.holds).2.1.c 11 rfl
  have hne3:Nonempty (HoldI I):=⟨⟨_,hI0⟩⟩;refine wp_lax_tailI (I:=I) 8 [(5,⟨fun _=>True,fun _ u=>Box u (w.heap.size+1+1+1) (pgc (pgL q.p)),fun p r=>True,fun _=>True⟩)] hI0 mixed (by kernel_rfl) rfl rfl (by decide) ?hS ?hp ?hpre ?hpr0 ?_
  case hS=>
   intro x hx;simp only[mC,nM,or_false]at hx;subst hx;exact⟨Xh Xc,trivial⟩
  case hp=>
   intro k s j t hk hj hjk hanc v p q hst hpo;have hk':=lookup_in hk;have hj':=lookup_in hj;simp only[mC,pJ,nM,or_false]at hk' hj';exact absurd (hj'.1.trans hk'.1.symm) hjk
  case hpre=>
   intro j t k s hj hk hjk p q hst hpr;have hj':=lookup_in hj;simp only[mC,pJ,nM,or_false]at hj';obtain⟨rfl,rfl⟩:=hj';trivial
  case hpr0=>
   intro k t hk;have hk':=lookup_in hk;simp only[mC,pJ,nM,or_false]at hk';obtain⟨rfl,rfl⟩:=hk';trivial
  simp only[Yl,Ym];iterate 5 (refine laxI_quiet rfl rfl rfl (fun K hK=>?_);go_big_quiet_op;refine hK _ ?_;clear hK K)
  refine laxI_spec rfl rfl (fun w' hI' hpr hF=>?_) (fun v1 hv=>?_)
  ·obtain⟨i1,i2,cs,i3,i4⟩:=(HI.out _).1 hI';refine Does.storeAll 91 (.tmp 8) (.tmp 28) rfl (w.heap.size+1+1+1) rfl (pgc (pgL q.p)) rfl i3 (by rw[i4];rfl) (by rw[i4];exact Tryz.sizePg) (pgc_one _) fun w'' b1 b2 b3=>?_
   exact⟨(HI.out _).2 ⟨grew_grown i1 b2 (by omega),i2.grown b2 hne2,_,b1,rfl⟩,trivial,trivial,b1⟩
  simp only[Xs];iterate 2 (refine laxI_quiet rfl rfl rfl (fun K hK=>?_);go_big_quiet_op;refine hK _ ?_;clear hK K)
  refine laxI_nil fun W6 hI6 hF=>?_
  have Y6:Xo (Box W6 (w.heap.size+1+1+1) (pgc (pgL q.p))):=hF 5;have G6:Xo (Grew w W6):=((HI.out _).1 hI6).1;clear hF hI6 hI0 hne3 HI hq0 hq1 hq2 hq3 hq4 hq5 hq6 hq7 hq11;go_wp2;refine bodyPost_ret (ret_cell_tmp2 rfl _ rfl Y6.out Tryz.underlying91 rfl Tryz.sizePg) rfl ⟨by rw[HR.out];rfl,by rw[HR.out];rfl,G6.out⟩
 have k1e:(e.kind == 1)=Xd:=by simp[k1]
 rw[if_neg k1]at HSE
 by_cases k2:e.kind=2
 ·have k2e:(e.kind == 2)=Xc:=by simp[k2]
  rw[if_pos k2]at HSE;obtain⟨z0,z1⟩:=h2 k2;have HWA:Xo (wrongAtL m.sb.length m.sq e.n=0):=wrongAt_in HSW.out z0 z1;have hc:=HRD.out W0 e.n G0.out;rw[HWA.out]at hc;obtain⟨p,HP⟩:∃p,Xo (readL m.sb m.sq e.n=p):=⟨_,rfl⟩;have HL8:Xo (p.length=8):=show _=_ by rw[<-HP.out];exact HRL.out _
  rw[HP.out]at HSE hc;obtain⟨p0,p1,p2,p3,p4,p5,p6,p7,rfl⟩:=len8 p HL8.out;have x3:=X0.out.c 3 rfl;have x4:=X0.out.c 4 rfl;clear k1 k2 z0 z1 h1 h2;go_wp2_with fail;refine hc.mono ?_;clear hc x3 x4 e0 e1;rintro r W1 ⟨rfl,g1⟩;have G1:=dD (G0.out.trans g1);have Y1:=dD (Y0.out.grew g1);simp only[pgc,mP,List.map_nil];go_upto_region 7 with fail;obtain⟨pl,HPL⟩:∃pl,Xo (W1.heap.size=pl):=⟨_,rfl⟩;obtain⟨W2,hW2⟩:∃W2,W1.alloc (Xk #[Xe Xg p0,Xe Xg p1,Xe Xg p2,Xe Xg p3,Xe Xg p4,Xe Xg p5,Xe Xg p6,Xe Xg p7] 91)=W2:=⟨_,rfl⟩;have g2:=gP hW2
  have P2:=xP hW2 HPL
  have G2:=dD (G1.out.trans g2);have Y2:=dD (Y1.out.grew g2);rw[hW2,HPL.out];clear hW2 g2 g1 G1 Y1 HPL;have HR:=HSE;obtain⟨c0,c1,c2,c3,c4,c5,c6,c7⟩:=P2.out.c8
  go_wp2_with (refine wp_storeAll rfl 91 (.tmp 8) (.tmp 43) rfl (w.heap.size+1+1+1) rfl (pgc [p0,p1,p2,p3,p4,p5,p6,p7]) rfl Y2.out rfl Tryz.sizePg (pgc_one _) ?_)
  intro WL hbL hgL _;have HGL:Xo (Grew w WL):=show Grew _ _ from grew_grown G2.out hgL (by omega)
  go_wp2;refine bodyPost_ret (ret_cell_tmp2 rfl _ rfl hbL Tryz.underlying91 rfl Tryz.sizePg) rfl ⟨by rw[HR.out];rfl,by rw[HR.out];rfl,HGL.out⟩
 have k2e:(e.kind == 2)=Xd:=by simp[k2]
 rw[if_neg k2]at HSE;clear k1 k2 h1 h2;have a5:=A0.out.c 5 rfl
 by_cases k3:a.file<0
 ·have k3d:decide (a.file<0)=Xc:=decide_eq_true k3;rw[if_pos k3]at HSE;have HR:=HSE;clear k3
  go_wp2_with (refine wp_storeAll rfl 91 (.tmp 8) (.tmp 48) rfl (w.heap.size+1+1+1) rfl (pgc zero8) rfl Y0.out rfl Tryz.sizePg (pgc_one _) ?_)
  intro WL hbL hgL _;have HGL:Xo (Grew w WL):=show Grew _ _ from grew_grown G0.out hgL (by omega)
  go_wp2;refine bodyPost_ret (ret_cell_tmp2 rfl _ rfl hbL Tryz.underlying91 rfl Tryz.sizePg) rfl ⟨by rw[HR.out];rfl,by rw[HR.out];rfl,HGL.out⟩
 have k3d:decide (a.file<0)=Xd:=decide_eq_false k3;rw[if_neg k3]at HSE;obtain⟨z0,z1⟩:=HP0.out (by omega)
 obtain⟨fi,hfi⟩:∃fi:Nat,a.file=(fi:Int):=⟨a.file.toNat,by omega⟩
 obtain⟨ix,hix⟩:∃ix:Nat,a.base+(n:Int) - a.fr=(ix:Int):=⟨(a.base+(n:Int) - a.fr).toNat,by omega⟩
 have hc:=HIX.out W0;rw[hix]at hc z0 z1;rw[hix,hfi]at HSE;have HFI:Xo (a.file=(fi:Int)):=hfi;clear hfi hix;have a0:=A0.out.c 0 rfl;have a1:=A0.out.c 1 rfl;have a2:=A0.out.c 2 rfl;have a3:=A0.out.c 3 rfl;have a4:=A0.out.c 4 rfl;have a6:=A0.out.c 6 rfl;go_wp2_with fail;refine hc.mono ?_;clear hc a0 a1 a2 a3 a4 a5 a6 e0 e1 k3d k1e k2e HIX HP0;rintro r W1 ⟨rfl,g1⟩;have G1:=dD (G0.out.trans g1);have X1:=dD (X0.out.grew g1);have A1:=dD (A0.out.grew g1);have Y1:=dD (Y0.out.grew g1);clear g1 G0 X0 A0 E0 Y0;have hc:=HHP.out W1 (fi:Int) (ix:Int) G1.out;rw[hasP_bk (by omega) (by omega)]at hc
 have a5:=A1.out.c 5 rfl;rw[HFI.out]at a5;have x7:=X1.out.c 7 rfl;have x8:=X1.out.c 8 rfl;go_wp2_with fail;refine hc.mono ?_;clear hc a5 x7 x8 HHP;rintro r W2 ⟨rfl,g2⟩;have G2:=dD (G1.out.trans g2);have X2:=dD (X1.out.grew g2);have A2:=dD (A1.out.grew g2);have Y2:=dD (Y1.out.grew g2);clear g2 G1 X1 A1 Y1
 by_cases k4:bkN m (fi:Int)<=(ix:Int)
 ·rw[if_pos k4]at HSE;rw[decide_eq_false (by omega:¬(ix:Int)<bkN m (fi:Int))]
  have HR:=HSE;clear k4
  go_wp2_with (refine wp_storeAll rfl 91 (.tmp 8) (.tmp 60) rfl (w.heap.size+1+1+1) rfl (pgc zero8) rfl Y2.out rfl Tryz.sizePg (pgc_one _) ?_)
  intro WL hbL hgL _;have HGL:Xo (Grew w WL):=show Grew _ _ from grew_grown G2.out hgL (by omega)
  go_wp2;refine bodyPost_ret (ret_cell_tmp2 rfl _ rfl hbL Tryz.underlying91 rfl Tryz.sizePg) rfl ⟨by rw[HR.out];rfl,by rw[HR.out];rfl,HGL.out⟩
 rw[if_neg k4]at HSE;rw[decide_eq_true (by omega:(ix:Int)<bkN m (fi:Int))]
 obtain⟨f,hf⟩:∃f,m.fl[fi]? =Xa f:=by
  cases hq:m.fl[fi]? with
  | some f=>exact⟨f,rfl⟩
  | none=>
   exfalso;unfold bkN at k4;rw[tN,gD,hq]at k4
   simp at k4
 obtain⟨bk,hbk⟩:∃bk,f.bl[ix]? =Xa bk:=⟨_,gE (by
  unfold bkN at k4;rw[tN,gD,hf]at k4;simp only[Option.getD_some]at k4
  omega)⟩
 have hc:=HFP.out W2 fi ix f bk G2.out hf hbk (by omega)
 clear hf hbk k4 HFP;have a5:=A2.out.c 5 rfl;rw[HFI.out]at a5;obtain⟨x0,x1,x2,x3,x4,x5,x6,x7,x8,x9,x10,x11⟩:=X2.out.c12;go_wp2_with fail;refine hc.mono ?_;clear hc a5 x0 x1 x2 x3 x4 x5 x6 x7 x8 x9 x10 x11;rintro r W3 ⟨rfl,hl8,g3⟩;have G3:=dD (G2.out.trans g3);have Y3:=dD (Y2.out.grew g3);clear g3 G2 X2 A2 Y2;obtain⟨p,HP⟩:∃p,Xo (contL m (fi:Int) (ix:Int)=p):=⟨_,rfl⟩;rw[HP.out]at HSE hl8⊢;obtain⟨p0,p1,p2,p3,p4,p5,p6,p7,rfl⟩:=len8 p hl8;have HR:=HSE;clear hl8;simp only[pgc,mP,List.map_nil]
 go_wp2_with (refine wp_storeAll rfl 91 (.tmp 8) (.tmp 65) rfl (w.heap.size+1+1+1) rfl (pgc [p0,p1,p2,p3,p4,p5,p6,p7]) rfl Y3.out rfl Tryz.sizePg (pgc_one _) ?_)
 intro WL hbL hgL _;have HGL:Xo (Grew w WL):=show Grew _ _ from grew_grown G3.out hgL (by omega)
 go_wp2;refine bodyPost_ret (ret_cell_tmp2 rfl _ rfl hbL Tryz.underlying91 rfl Tryz.sizePg) rfl ⟨by rw[HR.out];rfl,by rw[HR.out];rfl,HGL.out⟩
theorem ent_in {m:Ma} (hw:maW m=0) {p:Nat} {s:Sp} (hs:m.sp[p]? =Xa s) {n:Nat} (hn:n<64):((flatN s n).kind=1->0<=(flatN s n).n/\(flatN s n).n< (m.fs.length:Int))/\((flatN s n).kind=2->0<=(flatN s n).n/\(flatN s n).n< (m.sb.length:Int)):=by
 have hb:=(right_inv hw).1;have h1:=ent_all hw s (mG hs) n hn;have hT:(flats m)[p]? =Xa (flatN s):=by unfold flats;rw[Yf,hs];rfl
 have h2:=(enW_zero (hb.en hT hn)).2.1.1;have h3:=hb.sbl;unfold entE at h1;refine⟨fun hk=>⟨h2,?_⟩,fun hk=>⟨h2,?_⟩⟩
 ·rw[if_neg (by omega)]at h1
  split at h1
  ·cases h1
  split at h1
  ·omega
  split at h1
  ·cases h1
  omega
 rw[if_neg (by omega)]at h1
 split at h1
 ·cases h1
 split at h1
 ·cases h1
 omega
theorem cont_len {m:Ma} (h1:∀p∈m.db,p.length=8) (h2:∀q∈m.dq,q.2.length=8) (file idx:Int):(contL m file idx).length=8:=by
 unfold contL
 split
 ·rfl
 exact diskL_len h1 h2 file idx
theorem see_len {m:Ma} (a1:∀p∈m.sb,p.length=8) (a2:∀q∈m.sq,q.2.length=8) (h1:∀p∈m.db,p.length=8) (h2:∀q∈m.dq,q.2.length=8) (x:On) (e:En):(seeE m x e).1.length=8:=by
 unfold seeE
 split
 ·rfl
 split
 ·rfl
 split
 ·exact readL8 a1 a2
 split
 ·rfl
 split
 ·rfl
 exact cont_len h1 h2 _ _
theorem view_none {m:Ma} {p:Nat} {s:Sp} (hs:m.sp[p]? =Xa s) {n z:Int} (hf:FindsZ s.ars n z) (hz:z<0):viewR m (p:Int) n=(zero8,Xd,5):=by
 by_cases h:0<=n/\n<=63
 ·obtain⟨k,rfl⟩:∃k:Nat,n=(k:Int):=⟨n.toNat,by omega⟩
  have h1:=finds_is hf;rw[decide_eq_false (by omega)]at h1
  rw[view_see hs (by omega)]
  unfold seeE;rw[if_pos h1.symm]
 exact view_out (by omega)
def Usable (m:Ma) (p n:Int) (wr:Bool) (a:Ar) (e:Int):Prop:=
 (e=5/\a=ar0/\((p<0\/(m.sp.length:Int)<=p)\/∃(pp:Nat) (s:Sp),p=(pp:Int)/\m.sp[pp]? =Xa s/\∀a∈s.ars,inZ a n=Xd))\/
 (∃(pp nn k:Nat) (s:Sp) (x:Ar),p=(pp:Int)/\n=(nn:Int)/\nn<64/\m.sp[pp]? =Xa s/\s.ars[k]? =Xa x/\ArOk x/\(x.fr<=(nn:Int)/\(nn:Int)<x.tz)/\onAt s.ars nn=oneOf x nn/\
  ((e=8/\a=ar0/\(if wr=Xc then x.wr else x.rd)=Xd)\/(e=0/\a=x/\(if wr=Xc then x.wr else x.rd)=Xc)))
theorem usable_any (V:MaV) (m:Ma) (p n:Int) (wr:Bool) (w:Xn) (hm:MachAt w V m) (h0:maW m=0):
  Xp Tryz.prog 176 #[Xi #[O V.f.a V.f.n V.f.c,Xe Xf m.hand,O V.s.a V.s.n V.s.c,O V.sb.a V.sb.n V.sb.c,O V.sq.a V.sq.n V.sq.c,O V.db.a V.db.n V.db.c,O V.dq.a V.dq.n V.dq.c,O V.fl.a V.fl.n V.fl.c,Xe Xf m.cnt,O V.ca.a V.ca.n V.ca.c,O V.sp.a V.sp.n V.sp.c],Xe Xf p,Xe Xf n,Xh wr] w fun e w'=>(∃(a:Ar) (er:Int),e= Xl (Xm #[Xi #[Xe Xf a.fr,Xe Xf a.tz,Xh a.rd,Xh a.wr,Xh a.sh,Xe Xf a.file,Xe Xf a.base],Xe Xf er])/\Usable m p n wr a er)/\Grew w w':=by
 have HM:Xo (MachAt w V m):=hm;have HM0:Xo (maW m=0):=h0;have HWR:Xo (∀W,Grew w W->Xp Tryz.prog 20 #[Xi #[O V.f.a V.f.n V.f.c,Xe Xf m.hand,O V.s.a V.s.n V.s.c,O V.sb.a V.sb.n V.sb.c,O V.sq.a V.sq.n V.sq.c,O V.db.a V.db.n V.db.c,O V.dq.a V.dq.n V.dq.c,O V.fl.a V.fl.n V.fl.c,Xe Xf m.cnt,O V.ca.a V.ca.n V.ca.c,O V.sp.a V.sp.n V.sp.c]] W fun e w'=>e= Xl (Xe Xf 0)/\Grew W w'):=show∀W,_ from fun W hW=>wrongM_ok V m W (HM.out.grew hW) h0
 obtain⟨-,-,-,-,-,-,-,-,n9⟩:=hm.ns;obtain⟨xs,hxl,hrow,hsp⟩:=hm.spaces;obtain⟨vf,vs,vsb,vsq,vdb,vdq,vfl,vca,⟨spa,spn,spc⟩⟩:=V;dsimp only at n9 hrow HWR⊢;have HN9:Xo (m.sp.length=spn):=n9.symm;have HXL:Xo (xs.length=spn):=show _=_ by rw[hxl];exact HN9.out
 have HRW:Xo (∀(j:Nat) x,xs[j]? =Xa x->∃ad,spa=Xa ad/\∀W,Grew w W->Sp10 W (ad.add (j*10)) x):=show∀j,_ from hrow
 have HSP:Xo (∀(i:Nat) x s,xs[i]? =Xa x->m.sp[i]? =Xa s->SpaceAt w x s):=show∀i,_ from hsp
 clear hm n9 hxl hrow hsp HM h0;obtain⟨b,HB⟩:∃b,Xo (w.heap.size=b):=⟨_,rfl⟩;obtain⟨W0,hW0⟩:∃W0,(w.alloc (Xk #[O vf.a vf.n vf.c,Xe Xf m.hand,O vs.a vs.n vs.c,O vsb.a vsb.n vsb.c,O vsq.a vsq.n vsq.c,O vdb.a vdb.n vdb.c,O vdq.a vdq.n vdq.c,O vfl.a vfl.n vfl.c,Xe Xf m.cnt,O vca.a vca.n vca.c,O spa spn spc] 42)).alloc (Xk #[Xe Xf 0,Xe Xf 0,Xh Xd,Xh Xd,Xh Xd,Xe Xf 0,Xe Xf 0] 125)=W0:=⟨_,rfl⟩;have G0:=gD2 hW0
 have X0:Xo (Box W0 b [O vf.a vf.n vf.c,Xe Xf m.hand,O vs.a vs.n vs.c,O vsb.a vsb.n vsb.c,O vsq.a vsq.n vsq.c,O vdb.a vdb.n vdb.c,O vdq.a vdq.n vdq.c,O vfl.a vfl.n vfl.c,Xe Xf m.cnt,O vca.a vca.n vca.c,O spa spn spc]):=show Box _ _ _ by rw[<-hW0];exact(Box.top _ _ _ HB.out.symm).alloc _
 have Z0:Xo (BoxT W0 (b+1) 125 [Xe Xf 0,Xe Xf 0,Xh Xd,Xh Xd,Xh Xd,Xe Xf 0,Xe Xf 0]):=show BoxT _ _ _ _ by rw[<-hW0];exact BoxT.top _ [Xe Xf 0,Xe Xf 0,Xh Xd,Xh Xd,Xh Xd,Xe Xf 0,Xe Xf 0] _ (by have:=HB.out;simp;omega)
 have HW0:Xo (_=W0):=hW0;clear hW0
 go_enter Tryz.func176,Tryz.ntmps176
 go_upto_region 1 with fail;rw[HW0.out,HB.out];clear HW0;obtain⟨x0,x1,x2,x3,x4,x5,x6,x7,x8,x9,x10⟩:=X0.out.c11;have hc:=HWR.out W0 G0.out;go_wp2_with fail;refine hc.mono ?_;clear hc HWR x0 x1 x2 x3 x4 x5 x6 x7 x8 x9 x10;rintro r W1 ⟨rfl,g1⟩;have G1:=dD (G0.out.trans g1);have X1:=dD (X0.out.grew g1);have Z1:=dD (Z0.out.grew g1);clear g1 G0 X0 Z0;have x10:=X1.out.c 10 rfl
 by_cases hp:p<0\/(spn:Int)<=p
 ·by_cases hp0:p<0
  ·have hd:decide (p<0)=Xc:=decide_eq_true hp0;have HU:Xo (Usable m p n wr ar0 5):=show Usable _ _ _ _ _ _ from .inl ⟨rfl,rfl,.inl (by rw[HN9.out];exact hp)⟩
   clear hp hp0
   go_wp2_with (refine wp_storeAllT rfl 125 (.tmp 8) (.tmp 29) rfl (b+1) rfl [Xe Xf 0,Xe Xf 0,Xh Xd,Xh Xd,Xh Xd,Xe Xf 0,Xe Xf 0] rfl Z1.out rfl (by kernel_rfl) (by simp[Value.oneCell']) ?_)
   intro WL hbL hgL _;have HGL:Xo (Grew w WL):=show Grew _ _ from grew_grown G1.out hgL (by have:=HB.out;omega)
   have HBX:Xo (BoxT WL (b+1) 125 [Xe Xf 0,Xe Xf 0,Xh Xd,Xh Xd,Xh Xd,Xe Xf 0,Xe Xf 0]):=hbL;clear hbL hgL;go_wp2;refine bodyPost_ret (ret_cell_tmp rfl _ rfl HBX.out.box Tryz.underlying125 rfl (by kernel_rfl)) rfl ⟨⟨ar0,5,rfl,HU.out⟩,HGL.out⟩
  have hd:decide (p<0)=Xd:=decide_eq_false hp0;have hd2:decide ((spn:Int)<=p)=Xc:=decide_eq_true (by omega)
  have HU:Xo (Usable m p n wr ar0 5):=show Usable _ _ _ _ _ _ from .inl ⟨rfl,rfl,.inl (by rw[HN9.out];exact hp)⟩
  clear hp hp0
  go_wp2_with (refine wp_storeAllT rfl 125 (.tmp 8) (.tmp 29) rfl (b+1) rfl [Xe Xf 0,Xe Xf 0,Xh Xd,Xh Xd,Xh Xd,Xe Xf 0,Xe Xf 0] rfl Z1.out rfl (by kernel_rfl) (by simp[Value.oneCell']) ?_)
  intro WL hbL hgL _;have HGL:Xo (Grew w WL):=show Grew _ _ from grew_grown G1.out hgL (by have:=HB.out;omega)
  have HBX:Xo (BoxT WL (b+1) 125 [Xe Xf 0,Xe Xf 0,Xh Xd,Xh Xd,Xh Xd,Xe Xf 0,Xe Xf 0]):=hbL;clear hbL hgL;go_wp2;refine bodyPost_ret (ret_cell_tmp rfl _ rfl HBX.out.box Tryz.underlying125 rfl (by kernel_rfl)) rfl ⟨⟨ar0,5,rfl,HU.out⟩,HGL.out⟩
 have hd:decide (p<0)=Xd:=decide_eq_false (by omega)
 have hd2:decide ((spn:Int)<=p)=Xd:=decide_eq_false (by omega)
 obtain⟨pp,rfl⟩:∃pp:Nat,p=(pp:Int):=⟨p.toNat,by omega⟩
 obtain⟨x,hx⟩:∃x,xs[pp]? =Xa x:=⟨_,gE (by rw[HXL.out];omega)⟩
 obtain⟨s,HS⟩:∃s,Xo (m.sp[pp]? =Xa s):=⟨_,gE (by rw[HN9.out];omega)⟩
 have HAT:Xo (SpaceAt w x s):=HSP.out pp x s hx HS.out;obtain⟨ad,HSA,hl⟩:∃ad,Xo (spa=Xa ad)/\∀W,Grew w W->Sp10 W (ad.add (pp*10)) x:=HRW.out pp x hx;obtain⟨-,d1,-,-,-,-,-,-,-,-⟩:=hl W1 G1.out;rw[HSA.out]at x10;have hpz:(pp:Int)< (spn:Int):=by omega
 clear hl hx hp HRW HSP HXL;have hc:=find_any (O x.ar.a x.ar.n x.ar.c) s.ars n W1 (HAT.out.ar.grew G1.out);go_wp2_with fail;refine hc.mono ?_;clear hc d1 x10 hd hd2;rintro r W3 ⟨⟨z,rfl,hz⟩,g3⟩;have HFZ:Xo (FindsZ s.ars n z):=hz;have G3:=dD (G1.out.trans g3);have Z3:=dD (Z1.out.grew g3);clear g3 hz G1 X1 Z1
 by_cases hz0:z<0
 ·have hno:∀a∈s.ars,inZ a n=Xd:=by
   rcases HFZ.out with⟨k,a,q1,_⟩ | ⟨_,q⟩
   ·omega
   exact q
  have HU:Xo (Usable m (pp:Int) n wr ar0 5):=show Usable _ _ _ _ _ _ from .inl ⟨rfl,rfl,.inr ⟨pp,s,rfl,HS.out,hno⟩⟩
  clear hno
  go_wp2_with (refine wp_storeAllT rfl 125 (.tmp 8) (.tmp 41) rfl (b+1) rfl [Xe Xf 0,Xe Xf 0,Xh Xd,Xh Xd,Xh Xd,Xe Xf 0,Xe Xf 0] rfl Z3.out rfl (by kernel_rfl) (by simp[Value.oneCell']) ?_)
  intro WL hbL hgL _;have HGL:Xo (Grew w WL):=show Grew _ _ from grew_grown G3.out hgL (by have:=HB.out;omega)
  have HBX:Xo (BoxT WL (b+1) 125 [Xe Xf 0,Xe Xf 0,Xh Xd,Xh Xd,Xh Xd,Xe Xf 0,Xe Xf 0]):=hbL;clear hbL hgL;go_wp2;refine bodyPost_ret (ret_cell_tmp rfl _ rfl HBX.out.box Tryz.underlying125 rfl (by kernel_rfl)) rfl ⟨⟨ar0,5,rfl,HU.out⟩,HGL.out⟩
 obtain⟨k,a,rfl,HKA,HIN⟩:∃(k:Nat) (a:Ar),z=(k:Int)/\Xo (s.ars[k]? =Xa a)/\Xo (inZ a n=Xc):=by
  rcases HFZ.out with⟨k,a,q1,q2,q3⟩ | ⟨q1,_⟩
  ·exact⟨k,a,q1,q2,q3⟩
  omega
 have HCN:Xo (CanP Xb s.ars):=(wrL_zero.1 ((pts_of (maW_parts HM0.out)).ar s (mG HS.out)).1).2;have HAO:Xo (ArOk a):=canP_at HCN.out HKA.out;obtain⟨nn,rfl⟩:∃nn:Nat,n=(nn:Int):=⟨n.toNat,by have h1:=inZ_iff.1 HIN.out;have h2:=HAO.out;unfold ArOk at h2;omega⟩
 have hn64:nn<64:=by have h1:=inZ_iff.1 HIN.out;have h2:=HAO.out;unfold ArOk at h2;omega
 have HON:Xo (onAt s.ars nn=oneOf a nn):=onAt_uniq HCN.out HKA.out (by rw[<-inZ_nat];exact HIN.out)
 have hkl:k<x.ar.n:=by rw[HAT.out.ar.n];exact(gS.1 HKA.out).1
 have hkz:(k:Int)< (x.ar.n:Int):=by omega
 obtain⟨ada,HVA,HLA⟩:∃ada,Xo (x.ar.a=Xa ada)/\Xo (∀W,Grew w W->ArCells W (ada.add (k*7)) a):=by
  obtain⟨_,_,q1,q2⟩:=HAT.out.ar.ars;simp only[vJ]at q1;obtain⟨ada,q3,q4⟩:=q2 k a HKA.out;exact⟨ada,by rw[q1.1];exact q3,q4⟩
 have HU:Xo (∀er a',(er=8/\a'=ar0/\(if wr=Xc then a.wr else a.rd)=Xd)\/(er=0/\a'=a/\(if wr=Xc then a.wr else a.rd)=Xc)->Usable m (pp:Int) (nn:Int) wr a' er):=show∀er a',_ from fun er a' h=> .inr ⟨pp,nn,k,s,a,rfl,rfl,hn64,HS.out,HKA.out,HAO.out,inZ_iff.1 HIN.out,HON.out,h⟩
 rw[HVA.out];obtain⟨e0,e1,e2,e3,e4,e5,e6⟩:=HLA.out W3 G3.out;clear hz0 HFZ HCN HAO HIN HKA HAT HON HM0;cases wr
 ·obtain⟨ok,HOK⟩:∃ok,Xo (a.rd=ok):=⟨_,rfl⟩;rw[HOK.out]at e2;cases ok
  ·have HU1:Xo (Usable m (pp:Int) (nn:Int) Xd ar0 8):=HU.out 8 ar0 (.inl ⟨rfl,rfl,HOK.out⟩);clear HU
   go_wp2_with (refine wp_storeAllT rfl 125 (.tmp 8) (.tmp 55) rfl (b+1) rfl [Xe Xf 0,Xe Xf 0,Xh Xd,Xh Xd,Xh Xd,Xe Xf 0,Xe Xf 0] rfl Z3.out rfl (by kernel_rfl) (by simp[Value.oneCell']) ?_)
   intro WL hbL hgL _;have HGL:Xo (Grew w WL):=show Grew _ _ from grew_grown G3.out hgL (by have:=HB.out;omega)
   have HBX:Xo (BoxT WL (b+1) 125 [Xe Xf 0,Xe Xf 0,Xh Xd,Xh Xd,Xh Xd,Xe Xf 0,Xe Xf 0]):=hbL;clear hbL hgL e0 e1 e2 e3 e4 e5 e6;go_wp2;refine bodyPost_ret (ret_cell_tmp rfl _ rfl HBX.out.box Tryz.underlying125 rfl (by kernel_rfl)) rfl ⟨⟨ar0,8,rfl,HU1.out⟩,HGL.out⟩
  have HU1:Xo (Usable m (pp:Int) (nn:Int) Xd a 0):=HU.out 0 a (.inr ⟨rfl,rfl,HOK.out⟩);clear HU
  go_wp2_with (refine wp_storeAllT rfl 125 (.tmp 8) (.tmp 59) rfl (b+1) rfl [Xe Xf a.fr,Xe Xf a.tz,Xh Xc,Xh a.wr,Xh a.sh,Xe Xf a.file,Xe Xf a.base] rfl Z3.out rfl (by kernel_rfl) (by simp[Value.oneCell']) ?_)
  intro WL hbL hgL _;have HGL:Xo (Grew w WL):=show Grew _ _ from grew_grown G3.out hgL (by have:=HB.out;omega)
  have HBX:Xo (BoxT WL (b+1) 125 [Xe Xf a.fr,Xe Xf a.tz,Xh Xc,Xh a.wr,Xh a.sh,Xe Xf a.file,Xe Xf a.base]):=hbL;clear hbL hgL e0 e1 e2 e3 e4 e5 e6;go_wp2;refine bodyPost_ret (ret_cell_tmp rfl _ rfl HBX.out.box Tryz.underlying125 rfl (by kernel_rfl)) rfl ⟨⟨a,0,by rw[HOK.out];rfl,HU1.out⟩,HGL.out⟩
 obtain⟨ok,HOK⟩:∃ok,Xo (a.wr=ok):=⟨_,rfl⟩;rw[HOK.out]at e3;cases ok
 ·have HU1:Xo (Usable m (pp:Int) (nn:Int) Xc ar0 8):=HU.out 8 ar0 (.inl ⟨rfl,rfl,HOK.out⟩);clear HU
  go_wp2_with (refine wp_storeAllT rfl 125 (.tmp 8) (.tmp 55) rfl (b+1) rfl [Xe Xf 0,Xe Xf 0,Xh Xd,Xh Xd,Xh Xd,Xe Xf 0,Xe Xf 0] rfl Z3.out rfl (by kernel_rfl) (by simp[Value.oneCell']) ?_)
  intro WL hbL hgL _;have HGL:Xo (Grew w WL):=show Grew _ _ from grew_grown G3.out hgL (by have:=HB.out;omega)
  have HBX:Xo (BoxT WL (b+1) 125 [Xe Xf 0,Xe Xf 0,Xh Xd,Xh Xd,Xh Xd,Xe Xf 0,Xe Xf 0]):=hbL;clear hbL hgL e0 e1 e2 e3 e4 e5 e6;go_wp2;refine bodyPost_ret (ret_cell_tmp rfl _ rfl HBX.out.box Tryz.underlying125 rfl (by kernel_rfl)) rfl ⟨⟨ar0,8,rfl,HU1.out⟩,HGL.out⟩
 have HU1:Xo (Usable m (pp:Int) (nn:Int) Xc a 0):=HU.out 0 a (.inr ⟨rfl,rfl,HOK.out⟩);clear HU
 go_wp2_with (refine wp_storeAllT rfl 125 (.tmp 8) (.tmp 59) rfl (b+1) rfl [Xe Xf a.fr,Xe Xf a.tz,Xh a.rd,Xh Xc,Xh a.sh,Xe Xf a.file,Xe Xf a.base] rfl Z3.out rfl (by kernel_rfl) (by simp[Value.oneCell']) ?_)
 intro WL hbL hgL _;have HGL:Xo (Grew w WL):=show Grew _ _ from grew_grown G3.out hgL (by have:=HB.out;omega)
 have HBX:Xo (BoxT WL (b+1) 125 [Xe Xf a.fr,Xe Xf a.tz,Xh a.rd,Xh Xc,Xh a.sh,Xe Xf a.file,Xe Xf a.base]):=hbL;clear hbL hgL e0 e1 e2 e3 e4 e5 e6;go_wp2;refine bodyPost_ret (ret_cell_tmp rfl _ rfl HBX.out.box Tryz.underlying125 rfl (by kernel_rfl)) rfl ⟨⟨a,0,by rw[HOK.out];rfl,HU1.out⟩,HGL.out⟩
end
end Go.Proofs.YtempiodbdhiboaaGreat
