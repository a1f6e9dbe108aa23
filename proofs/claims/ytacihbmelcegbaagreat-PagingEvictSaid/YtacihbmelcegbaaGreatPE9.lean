import Derived.Test.YtacihbmelcegbaaGreatPE8
import Derived.Deep.Cut
import Derived.Deep.DeepCutAuto
namespace Go.Proofs.YtacihbmelcegbaaGreat
open Go.Value renaming slice→O,int→Xe,bool→Xh,agg→Xi,pointer→Xj,tuple→Xm
open Go.IntKind renaming i64→Xf,u8→Xg
open Go.Obj renaming cells→Xk
open Go.Ending renaming returned→Xl
open Go renaming World→Xo,Calls→Xq,Value→Xr
open Go.RowKit renaming Hid→Xp
open Option renaming some→Xa,none→Xb
open Bool renaming true→Xc,false→Xd
open List renaming replicate→Xs
open Go.Act renaming put→Xt
open _root_.List renaming getElem?_cons_succ→Xu,any_eq_true→Xv,length_take→Xw,mem_cons_self→Xx,getElem?_of_mem→Xy,mem_range→Xz,length_map→Yc,ext_getElem?→Yd,pairwise_iff_getElem→Ye,take_of_length_le→Yf,length_cons→Yh,mem_cons_of_mem→Yj,mem_filter→Yl,length_set→Yn,flatMap_append→Yo,getElem?_map→Yp,take_add_one→Yq,append_assoc→Yr,take→Ys,drop→Yt,length_drop→Yu,mem_map→Yv,take_left'→Yw,contains_iff_mem→Yx,take_append_drop→Yy,takeWhile_cons→Yz,filter_append→Oa,range→Ob,flatMap_cons→Oc,getElem?_set→Od,any_eq_false→Oe,map_nil→Og,size_toArray→Oh
open Go.Addr renaming add_lit→Ya
open _root_.Nat renaming mod_eq_of_lt→Yb,add_zero→Yg,mod_lt→Yi,mul_le_mul_right→Yk,mod_add_mod→Ym
open Go.Sem renaming run_bind→Of
set_option maxRecDepth 100000
set_option maxHeartbeats 4000000
variable{B b fi ix j:Nat} {Q:Exit->Act->Xo->Prop} {V:MaV} {m:Ma} {o:Oper} {ops:Array Oper} {t:TypeId} {w0 w1:Xo}
open Go.Proofs.Tryz
section
theorem jq {fs:List Fl} {b:Int}:zV fs b=Xc↔∃(i:Nat) (f:Fl) (j:Nat),fs[i]? =Xa f/\f.bl[j]? =Xa b:=by
 unfold zV;rw[Xv];constructor
 ·rintro⟨f,hf,h⟩;obtain⟨i,hi⟩:=Xy hf;obtain⟨j,hj⟩:=Xy (Yx.1 h);exact⟨i,f,j,hi,hj⟩
 rintro⟨i,f,j,hi,hj⟩;exact⟨f,mG hi,Yx.2 (mG hj)⟩
theorem Qk {l:List Int} {b:Int} (h:b∈l) (hb:b≠-1):b∈Zb l:=Yl.2 ⟨h,by simpa using hb⟩
theorem zbZ {b:Int} (hb:b≠-1):∀{l:List Int} {j k:Nat},(Zb l).Nodup->l[j]? =Xa b->l[k]? =Xa b->j=k
 | [],j,k,_,h,_=>by simp at h
 | a :: l,j,k,hn,h1,h2=>by
  have hn':(Zb l).Nodup:=by
   unfold Zb at hn⊢;rw[List.filter_cons]at hn
   split at hn
   ·exact(List.nodup_cons.1 hn).2
   exact hn
  have key:a=b->b∉l:=fun e hm=>by
   subst e;unfold Zb at hn;rw[List.filter_cons,kE (by simpa using hb)]at hn
   exact(List.nodup_cons.1 hn).1 (Qk hm hb)
  cases j with
  | zero=>
   cases k with
   | zero=>rfl
   | succ k=>
    rw[Xu]at h2;exact absurd (mG h2) (key (by simpa using h1))
  | succ j=>
   cases k with
   | zero=>
    rw[Xu]at h1;exact absurd (mG h1) (key (by simpa using h2))
   | succ k=>
    rw[Xu]at h1 h2;rw[zbZ hb hn' h1 h2]
theorem zcI {fs:List Fl} {i:Nat} {f:Fl} {b:Int} (h1:fs[i]? =Xa f) (h2:f.bl[j]? =Xa b):b∈Zo fs:=List.mem_flatMap.2 ⟨f,mG h1,mG h2⟩
theorem zdx {b:Int} (hb:b≠-1):∀{fs:List Fl} {i k j l:Nat} {f g:Fl},(Zb (Zo fs)).Nodup->fs[i]? =Xa f->f.bl[j]? =Xa b->fs[k]? =Xa g->g.bl[l]? =Xa b->i=k/\j=l
 | [],i,k,j,l,f,g,_,h,_,_,_=>by simp at h
 | a :: fs,i,k,j,l,f,g,hn,h1,h2,h3,h4=>by
  have hsp:Zb (Zo (a :: fs))=Zb a.bl++Zb (Zo fs):=by
   unfold Zb Zo;rw[Oc,Oa]
  rw[hsp,List.nodup_append]at hn;obtain⟨n1,n2,n3⟩:=hn
  cases i with
  | zero=>
   have ea:a=f:=by simpa using h1
   subst ea
   cases k with
   | zero=>
    have eg:a=g:=by simpa using h3
    subst eg;exact⟨rfl,zbZ hb n1 h2 h4⟩
   | succ k=>
    rw[Xu]at h3;exact absurd rfl (n3 b (Qk (mG h2) hb) b (Qk (zcI h3 h4) hb))
  | succ i=>
   rw[Xu]at h1
   cases k with
   | zero=>
    have eg:a=g:=by simpa using h3
    subst eg;exact absurd rfl (n3 b (Qk (mG h4) hb) b (Qk (zcI h1 h2) hb))
   | succ k=>
    rw[Xu]at h3;obtain⟨e1,e2⟩:=zdx hb n2 h1 h2 h3 h4;exact⟨by rw[e1],e2⟩
theorem zkT {fs:List Fl} {cnt:Int} {file idx:Nat} {f:Fl} (h:stW fs cnt=0) (hf:fs[file]? =Xa f) (hj:f.bl[idx]? =Xa (b:Int)):
  fs.set file ⟨f.size,f.bl.set idx (b:Int)⟩=fs/\(∀x,zV fs x=Xc↔(zV fs x=Xc/\x≠-1)\/x=(b:Int)\/(x=-1/\zV fs x=Xc))/\∀(i j:Nat) g,fs[i]? =Xa g->g.bl[j]? =Xa (b:Int)->i=file/\j=idx:=by
 obtain⟨_,_,h5⟩:=(qi fs cnt).1 h;have hb:(b:Int)≠-1:=by omega
 refine⟨?_,fun x=>?_,fun i j g h1 h2=>zdx hb h5 h1 h2 hf hj⟩
 ·have e1:f.bl.set idx (b:Int)=f.bl:=by
   apply Yd
   intro q;rw[Od]
   split
   ·rename_i e
    subst e;rw[kE (gS.1 hj).1,hj]
   rfl
  rw[e1]
  apply Yd
  intro q;rw[Od]
  split
  ·rename_i e
   subst e;rw[kE (gS.1 hf).1,hf]
  rfl
 constructor
 ·intro hu
  by_cases e:x=-1
  ·exact .inr (.inr ⟨e,hu⟩)
  exact .inl ⟨hu,e⟩
 rintro(⟨hu,_⟩|rfl|⟨_,hu⟩)
 ·exact hu
 ·exact jq.2 ⟨file,f,idx,hf,hj⟩
 exact hu
theorem zkU {fs:List Fl} {cnt:Int} {file idx:Nat} {f:Fl} (h:stW fs cnt=0) (hf:fs[file]? =Xa f) (hj:f.bl[idx]? =Xa (-1)) (hb:b∈Zc fs cnt):
  stW (fs.set file ⟨f.size,f.bl.set idx (b:Int)⟩) cnt=0/\(∀x,zV (fs.set file ⟨f.size,f.bl.set idx (b:Int)⟩) x=Xc↔(zV fs x=Xc/\x≠-1)\/x=(b:Int)\/(x=-1/\zV (fs.set file ⟨f.size,f.bl.set idx (b:Int)⟩) x=Xc))/\zV fs (b:Int)=Xd/\∀(i j:Nat) g,fs[i]? =Xa g->g.bl[j]? =Xa (b:Int)->i=file/\j=idx:=by
 have hu:zV fs (b:Int)=Xd:=by
  have:=(Yl.1 hb).2
  simpa using this
 have hfl:=(gS.1 hf).1;have hjl:=(gS.1 hj).1;refine⟨(ziw h hf hj hb).1,fun x=>?_,hu,fun i j g h1 h2=>?_⟩
 ·constructor
  ·intro hx
   by_cases e:x=-1
   ·exact .inr (.inr ⟨e,hx⟩)
   obtain⟨i,g,j,h1,h2⟩:=jq.1 hx
   by_cases e1:file=i
   ·subst e1;rw[sF hfl]at h1;cases h1;simp only at h2
    by_cases e2:idx=j
    ·subst e2;rw[sF hjl]at h2;cases h2;exact .inr (.inl rfl)
    rw[sN e2]at h2;exact .inl ⟨jq.2 ⟨file,f,j,hf,h2⟩,e⟩
   rw[sN e1]at h1;exact .inl ⟨jq.2 ⟨i,g,j,h1,h2⟩,e⟩
  rintro(⟨hx,e⟩|rfl|⟨_,hx⟩)
  ·obtain⟨i,g,j,h1,h2⟩:=jq.1 hx
   by_cases e1:i=file
   ·subst e1;rw[hf]at h1;cases h1;have hne:idx≠j:=fun e2=>by
     subst e2;rw[hj]at h2;cases h2;exact e rfl
    exact jq.2 ⟨i,⟨f.size,f.bl.set idx (b:Int)⟩,j,by rw[sF hfl],by simp only;rw[sN hne];exact h2⟩
   exact jq.2 ⟨i,g,j,by rw[sN (fun e2=>e1 e2.symm)];exact h1,h2⟩
  ·exact jq.2 ⟨file,⟨f.size,f.bl.set idx (b:Int)⟩,idx,by rw[sF hfl],by simp only;rw[sF hjl]⟩
  exact hx
 have:=jq.2 ⟨i,g,j,h1,h2⟩;rw[hu]at this;cases this
end
section
open Go.RowKit
theorem zn0 (h:Rt m) {F:Fl} (hF:m.fl[fi]? =Xa F) (hb:ix<F.bl.length) (h0:QY m.fl m.cnt (fi:Int) (ix:Int)=0):
  ∃b:Nat,(b:Int)<m.cnt/\zgX m.fl m.cnt (fi:Int) (ix:Int)=(b:Int)/\zja m.fl m.cnt (fi:Int) (ix:Int)=m.cnt/\zeu m.fl m.cnt (fi:Int) (ix:Int)=m.fl.set fi ⟨F.size,F.bl.set ix (b:Int)⟩/\(F.bl[ix]? =Xa (b:Int)\/(F.bl[ix]? =Xa (-1)/\b∈Zc m.fl m.cnt)):=by
 have hst:=h.inv.st;have e1:zi2 m.fl (fi:Int)=F.bl:=by unfold zi2;rw[tN,hF]
 have e2:znJ m.fl (fi:Int)=F.size:=by unfold znJ;rw[tN,hF]
 obtain⟨z,hz⟩:∃z,F.bl[ix]? =Xa z:=⟨_,gE hb⟩;have e3:F.bl.getD ix 0=z:=by rw[gD,hz];rfl
 obtain⟨c1,c2,_⟩:=(qi _ _).1 hst;have key:∃b:Nat,(b:Int)<m.cnt/\zmP m.fl m.cnt (fi:Int) (ix:Int)=(b:Int)/\(z=(b:Int)\/(z=-1/\b∈Zc m.fl m.cnt)):=by
  unfold zmP;rw[e1,tN,e3]
  by_cases ez:z=-1
  ·have hl:Zc m.fl m.cnt≠[]:=fun e=>by
    unfold QY at h0;have hfl:=(gS.1 hF).1;rw[kE hst,kE (Zu.2 ⟨by omega,by omega⟩),e1,kE (Zu.2 ⟨by omega,by omega⟩),tN,e3,kE ez,kE e]at h0
    cases h0
   cases hll:Zc m.fl m.cnt with
   | nil=>exact absurd hll hl
   | cons b l=>
    have hm:b∈Zc m.fl m.cnt:=by rw[hll];exact Xx ..
    have hbn:b<m.cnt.toNat:=Xz.1 (Yl.1 hm).1;refine⟨b,by omega,by rw[kE ez];rfl,.inr ⟨ez,Xx ..⟩⟩
  rw[kF ez];obtain⟨_,_,k3⟩:=c2 F (mG hF);have:=k3 z (mG hz);exact⟨z.toNat,by omega,by omega,.inl (by omega)⟩
 obtain⟨b,k1,k2,k3⟩:=key;refine⟨b,k1,?_,?_,?_,?_⟩
 ·unfold zgX;rw[kE h0,k2]
 ·unfold zja;rw[kE h0]
 ·unfold zeu;rw[kE h0,e1,e2,k2,tN,tN]
 rw[hz]
 rcases k3 with e|⟨e,e'⟩
 ·exact .inl (by rw[e])
 exact .inr ⟨by rw[e],e'⟩
theorem zjj (ps:List (List Int)) (qs:List (Int × List Int)) (hin:∀q∈qs,∃i:Nat,q.1=(i:Int)/\i<ps.length) (i:Nat):(jl ps qs)[i]? =ps[i]?\/∃q∈qs,q.1=(i:Int):=by
 unfold jl
 split
 ·rename_i h4
  cases qs with
  | nil=>cases h4
  | cons q l=>
   simp only[List.headD_cons];obtain⟨j,hj,_⟩:=hin q (Xx ..)
   by_cases e:i=j
   ·exact .inr ⟨q,Xx ..,by rw[e];exact hj⟩
   rw[hj,tN,sN (fun h=>e h.symm)]
   exact .inl rfl
 exact .inl rfl
def zoh (x:Nat × Nat):List Xr:=[I6 (x.1:Int),I6 (x.2:Int)]
theorem zoN:(Tryz.prog.info? 107).map (fun i=>(i.zero,i.size,i.bytes))=Xa (Xa (Xi #[I6 0,I6 0]),2,16):=by kernel_rfl
theorem zoO:Tryz.prog.underlying 180=Xa (.slice 107):=by kernel_rfl
def zcV:Elt (Nat × Nat) where
 enc:=zoh
 k:=2
 ty:=107
 st:=180
 bytes:=16
 zv:= Xi #[I6 0,I6 0]
 zero:=(0,0)
 len:=fun _=>rfl
 one:=fun a u hu=>by
  simp only[zoh,mC,nM,or_false]at hu
  rcases hu with rfl|rfl <;> rfl
 und:=zoO
 info:=zoN
 zok:=rfl
 few:=by decide
 pos:=by decide
theorem zhA (s:Sp) (kind k:Int):(zk8 s kind k).length<=64:=by
 unfold zk8;exact nT (List.length_filter_le _ _) (by simp)
theorem zcm (m:Ma) (kind k:Int):∀q,(jW m kind k q).length<=64*q
 | 0=>by simp[zit]
 | q+1=>by
  rw[zdm,lA,Yc];have h1:=zcm m kind k q;have h2:=zhA (m.sp.getD q ⟨Xd,[],[]⟩) kind k;omega
theorem zep {w:Xo} {p:Nat} (h:ChW w0 p w V m) (kind k:Int) (h4:m.sp.length<=4):
  Xq prog 143 #[Xj (Xa ⟨p,0,Xb⟩),I6 kind,I6 k] w fun e w'=>∃v,e= Xl v/\zb zcV w.heap.size w' v (jW m kind k m.sp.length)/\zc w w':=by
 obtain⟨xs,hxl,hrow,hsp⟩:=h.at.spaces;obtain⟨-,-,-,-,-,-,-,-,n9⟩:=h.at.ns;obtain⟨spa,HSA⟩:=kA V.sp.a;obtain⟨sn,HSN⟩:=kA m.sp.length;have c10:=h.box.box.c 10 rfl;simp only[Sli.x]at c10;rw[n9,HSN.out,HSA.out]at c10;have HXL:Xp (xs.length=sn):=dD<|by rw[hxl];exact HSN.out
 have HRW:Xp (∀(j:Nat) x,xs[j]? =Xa x->∃ad,spa=Xa ad/\∀W,zc w W->zjb W (ad.add (j*10)) x):=dD<|by rw[<-HSA.out];exact hrow
 have HSP:Xp (∀(i:Nat) x s,xs[i]? =Xa x->m.sp[i]? =Xa s->qN w x s):=dD<|hsp
 have hsn4:sn<=4:=by rw[<-HSN.out];exact h4
 rw[HSN.out];clear h hxl hrow hsp n9 h4
 go_enter func143,ntmps143
 go_wp2;clear c10
 go_loopg [7,18] sn (fun gg s7 s18 wr=>∃(q:Nat) (a7:Option Addr) (n7 c7:Nat),q<=sn/\sn - q<=gg/\s18=I6 q/\s7= O a7 n7 c7/\Xp (zc w wr)/\Xp (zb zcV w.heap.size wr (O a7 n7 c7) (jW m kind k q)))
 case atStart=>exact⟨0,Xb,0,0,nZ _,by omega,rfl,rfl,zc.refl _,zb.nil _ _ _⟩
 obtain⟨q,a7,n7,c7,hq,hgq,rfl,rfl,GW,OW⟩:=hrel
 by_cases hlt:q<sn
 ·have hltz:=kC hlt
  obtain⟨x,hx⟩:∃x,xs[q]? =Xa x:=⟨_,gE (by rw[HXL.out];exact hlt)⟩
  obtain⟨s,HS⟩:∃s,Xp (m.sp[q]? =Xa s):=⟨_,gE (by rw[HSN.out];exact hlt)⟩
  have HAT:Xp (qN w x s):=HSP.out q x s hx HS.out;obtain⟨ad,rfl,hl⟩:=HRW.out q x hx;obtain⟨d0,d1,d2,d3,d4,d5,d6,d7,d8,d9⟩:=hl wr GW.out;have HNX:Xp (jW m kind k (q+1)=jW m kind k q++(zk8 s kind k).map fun n=>(q,n)):=show _=_ by rw[zdm,Sp.getD_of HS.out]
  have HLE:Xp ((jW m kind k q).length<=64*q):=zcm m kind k q;have HFL:Xp ((zk8 s kind k).length<=64):=zhA s kind k;clear hl hx;go_upto_region 5 with fail;obtain⟨W5,hW5⟩:=kB (wr.alloc (Xk #[Xh x.live,x.ar.x,x.t0.x,x.t1.x,x.t2.x,x.t3.x,x.t4.x,x.t5.x,x.t6.x,x.t7.x] 63));have g5:=gP hW5
  have S5:=xA hW5
  have G5:=dD (GW.trans g5);have O5:=dD (OW.grew g5);rw[hW5];clear hW5 g5 d0 d1 d2 d3 d4 d5 d6 d7 d8 d9;have hc:Xq prog 177 #[Xi #[x.t0.x,x.t1.x,x.t2.x,x.t3.x,x.t4.x,x.t5.x,x.t6.x,x.t7.x],I6 kind,I6 k] W5 fun e w'=>∃v,e= Xl v/\zb blE W5.heap.size w' v ((zk8 s kind k).map fun(n:Nat)=>(n:Int))/\zc W5 w':=ziD x.tab s.tb kind k W5 (HAT.tb.grew G5)
  have s2:=S5.c 2 rfl;have s3:=S5.c 3 rfl;have s4:=S5.c 4 rfl;have s5:=S5.c 5 rfl;have s6:=S5.c 6 rfl;have s7:=S5.c 7 rfl;have s8:=S5.c 8 rfl;have s9:=S5.c 9 rfl;go_wp2_with fail;refine hc.mono ?_;clear hc s2 s3 s4 s5 s6 s7 s8 s9;rintro e W6 ⟨v,rfl,ow6,g6⟩;obtain⟨FN,HFN⟩:=kA (zk8 s kind k);rw[HFN.out]at ow6 HNX HFL;obtain⟨va,vc,rfl⟩:=ow6.form;rw[Yc]at ow6;have F6:Xp (zb blE W5.heap.size W6 (O va FN.length vc) (FN.map fun(n:Nat)=>(n:Int))):=ow6
  have G6:=dD (G5.trans g6);have O6:=dD (O5.grew g6);rw[Yc];obtain⟨fl,HFL2⟩:=kA FN.length;rw[HFL2.out]at F6 HFL⊢;have hfl64:fl<=64:=HFL.out;clear ow6 g6;obtain⟨b5,HB5⟩:=kA W5.heap.size;have HWB:Xp (w.heap.size<=W6.heap.size):=show _<=_ from bS G6.out
  rw[HB5.out]at F6;go_wp2
  go_loopg [7,29] fl (fun gg s7 s29 wr=>∃(j:Nat) (a7:Option Addr) (n7 c7:Nat),j<=fl/\fl - j<=gg/\s29=I6 j/\s7= O a7 n7 c7/\Xp (zc w wr)/\Xp (zb zcV w.heap.size wr (O a7 n7 c7) (jW m kind k q++(FN.take j).map fun n=>(q,n)))/\Xp (zb blE b5 wr (O va fl vc) (FN.map fun(n:Nat)=>(n:Int))))
  case atStart=>exact⟨0,a7,n7,c7,nZ _,by omega,rfl,rfl,G6,show zb _ _ _ _ _ by simpa using(show zb _ _ _ _ _ from O6.out),F6⟩
  obtain⟨j,a8,n8,c8,hj,hgj,rfl,rfl,GJ,OJ,FJ⟩:=hrel
  by_cases hlj:j<fl
  ·have hljz:=kC hlj
   obtain⟨n,hn⟩:∃n,FN[j]? =Xa n:=⟨_,gE (by rw[HFL2.out];exact hlj)⟩
   have hnm:(FN.map fun(n:Nat)=>(n:Int))[j]? =Xa (n:Int):=by rw[Yp,hn];rfl
   obtain⟨_,_,hve,hrows⟩:=FJ.at.rows;simp only[vJ]at hve;obtain⟨ad2,had2,hl2⟩:=hrows j _ hnm;rw[<-hve.1]at had2;subst had2;have e0:wr.cell? (ad2.add (j*1))=Xa (I6 (n:Int)):=by
    have:=hl2 wr (zc.refl _) 0 _ rfl;rw[Addr.add_add]at this;exact this
   rw[Nat.mul_one]at e0;have HTK:Xp ((FN.take (j+1)).map (fun n=>(q,n))=(FN.take j).map (fun n=>(q,n))++ [(q,n)]):=dD<|by rw[Yq,hn];simp
   have HBD:Xp (((jW m kind k q++(FN.take j).map fun n=>(q,n)).length+ [(q,n)].length)*16<=140737488355328):=dD<|by
    rw[lA,Yc,Xw];have:=HLE.out;simp only[Yh,List.length_nil];omega
   clear hn hnm hve hrows hl2;obtain⟨L0,HL0⟩:=kA (jW m kind k q++(FN.take j).map fun n=>(q,n))
   rw[HL0.out]at OJ HBD;have O2:=dD (OJ.grew (za wr (Xk #[I6 (q:Int),I6 (n:Int)] 107)));have HSZ:Xp (w.heap.size<=(wr.alloc (Xk #[I6 (q:Int),I6 (n:Int)] 107)).heap.size):=show _<=_ from nT (bS GJ) (bS (za _ _))
   go_wp2_with (at_builtin;refine zw (E:=zcV) rfl (.tmp 33) (.tmp 37) rfl w.heap.size (O a8 n8 c8) L0 rfl O2 _ [(q,n)] rfl (jK zcV wr (q,n) _ _ rfl (by decide)) HBD HSZ.out ?_)
   intro v9 W9 ow9 gr9;obtain⟨a9,c9,rfl⟩:=ow9.form;have O9:Xp (zb zcV w.heap.size W9 _ (jW m kind k q++(FN.take (j+1)).map fun n=>(q,n))):=dD<|by rw[HTK.out,<-Yr,HL0.out];exact ow9
   have ga:zc wr (wr.alloc (Xk #[I6 (q:Int),I6 (n:Int)] 107)):=za _ _;have F9:Xp (zb blE b5 W9 (O (Xa ad2) fl vc) (FN.map fun(n:Nat)=>(n:Int))):=dD<|(FJ.grew ga).grown gr9 (fun g hg e=>(FJ.grew ga).apart O2 (by decide) g hg e)
   have G9:Xp (zc w W9):=dD<|zU (GJ.trans ga) gr9 (fun g hg=>(O2.lt g hg).1)
   clear ow9 gr9 ga e0;try simp only[Xt]
   go_wp2
   go_roundg (fl -(j+1))
   case measure=>omega
   exact⟨j+1,_,_,_,by omega,by omega,by go_num,rfl,G9,O9,F9⟩
  have hljz:=kD hlj
  have OQ:Xp (zb zcV w.heap.size wr (O a8 n8 c8) (jW m kind k (q+1))):=dD<|by
   rw[HNX.out];have:=OJ.out;rw[Yf (by rw[HFL2.out];omega)]at this
   exact this
  go_wp2
  go_roundg (sn -(q+1))
  case measure=>omega
  exact⟨q+1,a8,n8,c8,by omega,by omega,by go_num,rfl,GJ,OQ⟩
 have hltz:=kD hlt
 obtain rfl:q=sn:=by omega
 go_wp2;go_ret;exact⟨_,rfl,OW,GW⟩
theorem zgL {w:Xo} {p:Nat} (h:ChW w0 p w V m) (q:Nat) (hq:q<m.sp.length) (n:Int) (z:En):
  Xq prog 110 #[Xj (Xa ⟨p,0,Xb⟩),Xi #[I6 (q:Int),I6 n],Xi #[I6 z.kind,I6 z.n,Xh z.wr]] w fun e w'=>(∃v,e= Xl v)/\Chg w0 p w V (Jl m q n z) w':=by
 obtain⟨s,hs⟩:∃s,m.sp[q]? =Xa s:=⟨_,gE hq⟩;obtain⟨xs,s1,s2,s3⟩:=h.sp;obtain⟨x,hx⟩:∃x,xs[q]? =Xa x:=⟨_,gE (by rw[s2];exact hq)⟩
 have HAT:Xp (qN w x s):=s3 q x s hx hs w (qW.refl _ _);obtain⟨xn,HXN⟩:=kA xs.length;obtain⟨g,c,heq⟩:=s1.formS (by omega)
 rw[HXN.out]at heq;have hqz:(q:Int)< (xn:Int):=by have:=HXN.out;omega
 have HVS:Xp (V.sp.x= O (Xa ⟨g,0,Xb⟩) xn c):=heq;have HM:Xp (ChW w0 p w V m):=h;have HX:Xp (xs[q]? =Xa x):=hx;have HS:Xp (m.sp[q]? =Xa s):=hs;have HS2:Xp (xs.length=m.sp.length):=s2;have HS3:Xp (∀(i:Nat) x s,xs[i]? =Xa x->m.sp[i]? =Xa s->∀W,qW (Dr w0.heap.size p V) w W->qN W x s):=s3;rw[heq]at s1;have HS1:Xp (zb Zh w0.heap.size w (O (Xa ⟨g,0,Xb⟩) xn c) xs):=s1;have HCE:Xp (∀W,zc w W->zjb W ⟨g,q*10,Xb⟩ x):=show∀W,_ from fun W hW=>by
  have:=((s1.grew hW).one hx).sp10;rw[Ya,zA]at this;exact this
 have HG:Xp (∀W,zc w W->Xq prog 151 #[Xi #[x.t0.x,x.t1.x,x.t2.x,x.t3.x,x.t4.x,x.t5.x,x.t6.x,x.t7.x],I6 n,Xi #[I6 z.kind,I6 z.n,Xh z.wr]] W fun e w'=>∃us,e= Xl (Xm #[Xi us.toArray,I6 (zeS s.tb n z)])/\ZS 0 W.heap.size w' us (zeR s.tb n z)/\zc W w'):=dD<|fun W hW=>zjw x.tab s.tb n z W (HAT.tb.grew hW)
 have HEM:Xp (Jl m q n z={ m with sp:=m.sp.set q { s with tb:=zeR s.tb n z } }):=dD<|by unfold Jl;rw[Sp.getD_of hs]
 rw[HEM.out];clear h hq hs s1 s2 s3 hx heq;obtain⟨W1,hW1⟩:=kB ((w.alloc (Xk #[I6 (q:Int),I6 n] 107)).alloc (Xk #[I6 z.kind,I6 z.n,Xh z.wr] 55));have G1:=gD2 hW1
 have X1:=x2a hW1
 have Y1:=x2b hW1
 have HW1:Xp (_=W1):=hW1;clear hW1;have c10:W1.cell? ⟨p,10,Xb⟩=Xa (O (Xa ⟨g,0,Xb⟩) xn c):=by rw[<-HVS.out];exact(HM.box.box.grew G1).c 10 rfl
 have x0:=X1.c 0 rfl
 go_enter func110,ntmps110
 go_upto_region 1 with fail;rw[HW1.out];obtain⟨b,HB⟩:=kA w.heap.size;rw[HB.out]at X1 Y1 x0⊢
 go_upto_region 2 with(go_quiet (fail))
 clear c10 x0;obtain⟨W2,hW2⟩:=kB (W1.drewN nq);have G2:Xp (zc w W2):=dD<|by rw[<-hW2];exact G1.trans (show Below _ _ _ from bD (bR _ _) _)
 have X2:Xp (Box W2 b [I6 (q:Int),I6 n]):=dD<|by rw[<-hW2];exact X1.grew (show Below _ _ _ from bD (bR _ _) _)
 have Y2:Xp (Box W2 (b+1) [I6 z.kind,I6 z.n,Xh z.wr]):=dD<|by rw[<-hW2];exact Y1.grew (show Below _ _ _ from bD (bR _ _) _)
 rw[hW2];clear hW2;obtain⟨I,HI⟩:∃I:Xo->Prop,Xp (∀u,I u↔Box u b [I6 (q:Int),I6 n]/\Box u (b+1) [I6 z.kind,I6 z.n,Xh z.wr]):=⟨fun u=>Box u b [I6 (q:Int),I6 n]/\Box u (b+1) [I6 z.kind,I6 z.n,Xh z.wr],fun _=>Iff.rfl⟩
 have hI0:I W2.drew:=(HI _).2 ⟨X2.grew (gW _),Y2.grew (gW _)⟩
 have hF0:zc W2 W2.drew:=show Below _ _ _ from(bR _ _).drew
 have hx1:∀y:zj I,y.world.cell? ⟨b,1,Xb⟩=Xa (I6 n):=fun y=>((HI _).1 y.holds).1.c 1 rfl
 have hy0:∀y:zj I,y.world.cell? ⟨b+1,0,Xb⟩=Xa (I6 z.kind):=fun y=>((HI _).1 y.holds).2.c 0 rfl
 have hy1:∀y:zj I,y.world.cell? ⟨b+1,1,Xb⟩=Xa (I6 z.n):=fun y=>((HI _).1 y.holds).2.c 1 rfl
 have hy2:∀y:zj I,y.world.cell? ⟨b+1,2,Xb⟩=Xa (Xh z.wr):=fun y=>((HI _).1 y.holds).2.c 2 rfl
 have hne:Nonempty (zj I):=⟨⟨_,hI0⟩⟩;refine zG (I:=I) 15 [(4,fun v=>v= Xi #[x.t0.x,x.t1.x,x.t2.x,x.t3.x,x.t4.x,x.t5.x,x.t6.x,x.t7.x]),(8,fun v=>∃us:List Xr,v= Xm #[Xi us.toArray,I6 (zeS s.tb n z)]),(14,fun _=>True)] (fun u=>zc W2 u) hI0 hF0 zW (by kernel_rfl) rfl rfl (by decide) ?hS (by kernel_rfl) ?_
 case hS=>
  intro x hx;simp only[mC,nM,or_false]at hx
  rcases hx with rfl|rfl|rfl
  ·exact⟨_,rfl⟩
  ·exact⟨_,[],rfl⟩
  exact⟨undef,trivial⟩
 simp only[Ys,Yt];iterate 2 (refine zg rfl rfl rfl (fun K hK=>?_);go_big_quiet_op;refine hK _ ?_;clear hK)
 refine zI (.tmp 17) ⟨g,q*10,Xb⟩ rfl rfl rfl rfl ?_;simp only[Xt,sB,sS,sZ];iterate 1 (refine zg rfl rfl rfl (fun K hK=>?_);go_big_quiet_op;refine hK _ ?_;clear hK)
 refine zH rfl rfl (fun _ u=>zc W2 u) (fun w' hI' hF'=>?_) (fun v1 hv=>?_)
 ·refine zcA 61 (.tmp 19) rfl g (q*10+2) rfl [x.t0.x,x.t1.x,x.t2.x,x.t3.x,x.t4.x,x.t5.x,x.t6.x,x.t7.x] ?_ underlying61 rfl (by kernel_rfl) ⟨hI',rfl,hF'⟩
  have hc:=HCE.out _ (G2.trans hF');intro j v hj;have hr:(w'.cell? ⟨g,q*10+2+j,Xb⟩)=Xa v:=by
   match j,hj with
   | 0,hj=>cases hj;exact hc.2.2.1
   | 1,hj=>cases hj;exact hc.2.2.2.1
   | 2,hj=>cases hj;exact hc.2.2.2.2.1
   | 3,hj=>cases hj;exact hc.2.2.2.2.2.1
   | 4,hj=>cases hj;exact hc.2.2.2.2.2.2.1
   | 5,hj=>cases hj;exact hc.2.2.2.2.2.2.2.1
   | 6,hj=>cases hj;exact hc.2.2.2.2.2.2.2.2.1
   | 7,hj=>cases hj;exact hc.2.2.2.2.2.2.2.2.2
  exact hr
 cases hv;simp only[Xt,sB,sS,sZ];iterate 3 (refine zg rfl rfl rfl (fun K hK=>?_);go_big_quiet_op;refine hK _ ?_;clear hK)
 refine zH rfl rfl (fun v u=>∃(us:List Xr) (Wa:Xo),v= Xm #[Xi us.toArray,I6 (zeS s.tb n z)]/\zc W2 Wa/\zc Wa u/\ZS 0 Wa.heap.size u us (zeR s.tb n z)) (fun w' hI' hF'=>?_) (fun v1 hv=>?_)
 ·refine zQ.call [Xi #[x.t0.x,x.t1.x,x.t2.x,x.t3.x,x.t4.x,x.t5.x,x.t6.x,x.t7.x],I6 n,Xi #[I6 z.kind,I6 z.n,Xh z.wr]] rfl func151 rfl rfl rfl ?_;refine(HG w' (G2.trans hF')).mono ?_;rintro e w'' ⟨us,rfl,t2,g2⟩;obtain⟨i1,i2⟩:=(HI _).1 hI';exact⟨_,rfl,(HI _).2 ⟨i1.grew g2,i2.grew g2⟩,⟨us,rfl⟩,us,w',rfl,hF',g2,t2⟩
 obtain⟨us,rfl⟩:=hv;simp only[Xt,sB,sS,sZ];iterate 3 (refine zg rfl rfl rfl (fun K hK=>?_);go_big_quiet_op;refine hK _ ?_;clear hK)
 refine zI (.tmp 16) ⟨g,q*10,Xb⟩ rfl rfl rfl rfl ?_;simp only[Xt,sB,sS,sZ];iterate 1 (refine zg rfl rfl rfl (fun K hK=>?_);go_big_quiet_op;refine hK _ ?_;clear hK)
 refine zH rfl rfl (fun _ u=>Chg w0 p w V { m with sp:=m.sp.set q { s with tb:=zeR s.tb n z } } u) (fun w' hI' hF'=>?_) (fun v1 hv=>?_)
 ·obtain⟨us',Wa,he,ga,gb,t8⟩:=hF';have hus:us'=us:=by simpa using he.symm
  subst hus;obtain⟨t0,t1,t2,t3,t4,t5,t6,t7,rfl⟩:=t8.form;have G8:zc w w':=(G2.trans ga).trans gb;refine zbt (E:=Zh) (.tmp 28) (.tmp 25) 61 rfl w0.heap.size _ xs (HS1.grew G8) g q 2 rfl x ⟨x.live,x.ar,t0,t1,t2,t3,t4,t5,t6,t7⟩ HX.out [t0.v,t1.v,t2.v,t3.v,t4.v,t5.v,t6.v,t7.v] (by kernel_rfl) rfl (by show 2+8<=10;omega) ?_ ⟨g,q*10+2,Xb⟩ rfl rfl (Xi #[t0.v,t1.v,t2.v,t3.v,t4.v,t5.v,t6.v,t7.v]) rfl rfl ?_
  ·intro u hu;simp only[mC,nM,or_false]at hu
   rcases hu with rfl|rfl|rfl|rfl|rfl|rfl|rfl|rfl <;> rfl
  intro W9 ow9 gr9 _;rw[<-HVS.out]at ow9;obtain⟨i1,i2⟩:=(HI _).1 hI';have hgl:=HS1.lt g rfl;refine⟨(HI _).2 ⟨i1.grown gr9 (by have:=HB.out;omega),i2.grown gr9 (by have:=HB.out;omega)⟩,trivial,HM.setT HS2 HS3 HX HS (by have h0:=HVS.out;simp only[Sli.x]at h0;unfold oB;simp only[Sli.x];rw[h0];rfl) G8 (t8.less (nR _) (nT (bS G2) (bS ga))) gr9 ow9 ⟨rfl,rfl,rfl⟩⟩
 clear hv;try simp only[Xt]
 refine qj fun W9 hI8 hF8=>?_
 have M9:Xp (Chg w0 p w V { m with sp:=m.sp.set q { s with tb:=zeR s.tb n z } } W9):=hF8;clear hI8 hF8 hI0 hF0 hx1 hy0 hy1 hy2 hne;go_wp2
 (first | go_end0 | ((try simp only[Exit.inBlock,Exit.then]);refine bodyPost_ret (results_none rfl _ _ _) rfl ?_))
 first | exact M9.out | exact⟨⟨_,rfl⟩,M9⟩
theorem ChW.off {w:Xo} {p:Nat} (h:ChW w0 p w V m) {g:Nat} {cs:Array Xr} (ho:w.heap[g]? =Xa (Xk cs t (0,0))) (t1:114≠t) (t2:Qj.ty≠t) (t3:qJ.ty≠t) (t4:Zh.ty≠t):¬Dw p V g:=by
 have key:∀{α:Type} {E:Elt α} {base:Nat} {v:Xr} {l:List α},zb E base w v l->E.ty≠t->v.ownBlock≠Xa g:=fun r ht e=>by
  obtain⟨ds,h1⟩:=r.obj e;rw[h1]at ho;cases ho;exact ht rfl
 rintro(e|e|e|e)
 ·subst e;have h1:w.heap[g]? =_:=h.box;rw[h1]at ho;cases ho;exact t1 rfl
 ·exact key h.fs t2 e
 ·exact key h.ca t3 e
 obtain⟨xs,s1,_⟩:=h.sp;exact key s1 t4 e
theorem ChW.offB {w:Xo} {p:Nat} {cs:List Xr} (h:ChW w0 p w V m) (ho:zt w b t cs) (t1:114≠t) (t2:Qj.ty≠t) (t3:qJ.ty≠t) (t4:Zh.ty≠t):¬Dw p V b:=h.off (show w.heap[b]? =_ from ho) t1 t2 t3 t4
theorem ChW.offR {w:Xo} {p:Nat} {α:Type} {E:Elt α} {base:Nat} {v:Xr} {l:List α} (h:ChW w0 p w V m) (r:zb E base w v l) (t1:114≠E.ty) (t2:Qj.ty≠E.ty) (t3:qJ.ty≠E.ty) (t4:Zh.ty≠E.ty):∀g,v.ownBlock=Xa g->¬Dw p V g:=fun g hg=>by
 obtain⟨ds,h1⟩:=r.obj hg;exact h.off h1 t1 t2 t3 t4
theorem zb.chg {w:Xo} {p:Nat} {α:Type} {E:Elt α} {base:Nat} {v:Xr} {l:List α} (r:zb E base w v l) (o:qW (Dw p V) w w1) (hn:∀g,v.ownBlock=Xa g->¬Dw p V g):zb E base w1 v l:=⟨ze3 r.1 o hn,r.2⟩
def Z7 (m:Ma) (e:En) (l:List (Nat × Nat)):Ma:=l.foldl (fun m x=>Jl m x.1 (x.2:Int) e) m
theorem zgH (m:Ma) (e:En) (l:List (Nat × Nat)) (x:Nat × Nat):Z7 m e (l++ [x])=Jl (Z7 m e l) x.1 (x.2:Int) e:=by simp[Z7]
theorem zaa (e:En):∀(l:List (Nat × Nat)) (m:Ma),(Z7 m e l).sp.length=m.sp.length/\(Z7 m e l).fs=m.fs/\(Z7 m e l).hand=m.hand
 | [],_=>⟨rfl,rfl,rfl⟩
 | x :: l,m=>by
  have h:=zaa e l (Jl m x.1 (x.2:Int) e);exact⟨h.1.trans (ziI _ _ _ _),h.2⟩
def JQ (m:Ma) (k:Nat) (r:Int) (e:En):Ma:={ Z7 m e (jW m 1 (k:Int) m.sp.length)with fs:=zee m.fs m.hand (k:Int) (-r),hand:=m.hand }
theorem zcC {w:Xo} {p:Nat} (h:ChW w0 p w V m) (k:Nat) (fr:Fr) (hk:m.fs[k]? =Xa fr) (z:En) (h4:m.sp.length<=4) (hr:0<=fr.r/\fr.r<=1000) (hh:zef m.fs m.hand (k:Int) (-fr.r)=0):
  Xq prog 196 #[Xj (Xa ⟨p,0,Xb⟩),I6 (k:Int),Xi #[I6 z.kind,I6 z.n,Xh z.wr]] w fun e w'=>(∃v,e= Xl v)/\Chg w0 p w V (JQ m k fr.r z) w':=by
 have HM:Xp (ChW w0 p w V m):=h;have HK:Xp (m.fs[k]? =Xa fr):=hk;have HH:Xp (zef m.fs m.hand (k:Int) (-fr.r)=0):=hh;have HRR:Xp (0<=fr.r/\fr.r<=1000):=hr;have H4:Xp (m.sp.length<=4):=h4;clear h hk h4 hh hr;obtain⟨W1,hW1⟩:=kB (w.alloc (Xk #[I6 z.kind,I6 z.n,Xh z.wr] 55));have G1:=gA hW1
 obtain⟨b,HB⟩:=kA w.heap.size;have Y1:=xPT hW1 HB
 have HW1:Xp (_=W1):=hW1;clear hW1;have hho:=zep (HM.grew G1) 1 (k:Int) H4.out;obtain⟨L,HL⟩:=kA (jW m 1 (k:Int) m.sp.length);rw[HL.out]at hho;have HLB:Xp (L.length<=256):=show _<=_ by
  rw[<-HL.out];have h1:=zcm m 1 (k:Int) m.sp.length;have h2:=H4.out;omega
 have HLS:Xp (∀x∈L,x.1<m.sp.length):=dD<|fun x hx=>by
  rw[<-HL.out]at hx;exact((zcl (by decide) (nR _)).1 hx).1
 go_enter func196,ntmps196
 go_upto_region 1 with fail;rw[HW1.out,HB.out];go_wp2_with fail;refine hho.mono ?_;clear hho;rintro e W2 ⟨v,rfl,ow2,g2⟩;obtain⟨va,vc,rfl⟩:=ow2.form;obtain⟨ln,HLN⟩:=kA L.length;rw[HLN.out]at ow2 HLB⊢;have hln:ln<=256:=HLB.out;obtain⟨b1,HB1⟩:=kA W1.heap.size;rw[HB1.out]at ow2;have R2:Xp (zb zcV b1 W2 (O va ln vc) L):=ow2;have G2:=dD (G1.trans g2);have Y2:=dD (Y1.grew g2);clear ow2 g2;go_wp2
 go_loopg [12] ln (fun gg s12 wr=>∃(j:Nat) (V':MaV),j<=ln/\ln - j<=gg/\s12=I6 j/\Xp (ChW w0 p wr V' (Z7 m z (L.take j)))/\Xp (qW (Dw p V) w wr)/\Xp (∀k,Dw p V' k->Dw p V k\/w.heap.size<=k)/\Xp (zb zcV b1 wr (O va ln vc) L)/\Xp (zt wr b 55 [I6 z.kind,I6 z.n,Xh z.wr]))
 case atStart=>exact⟨0,V,nZ _,by omega,rfl,HM.grew G2,qW.grew G2,fun k hk=> .inl hk,R2,Y2⟩
 obtain⟨j,V',hj,hgj,rfl,MW,OW,DW,RW,YW⟩:=hrel
 by_cases hlt:j<ln
 ·have hltz:=kC hlt
  obtain⟨⟨q,n⟩,hx⟩:∃x,L[j]? =Xa x:=⟨_,gE (by rw[HLN.out];exact hlt)⟩
  obtain⟨g,c9,heq⟩:=RW.formS (by rw[HLN.out];omega)
  simp only[vJ]at heq;obtain⟨rfl,-,-⟩:=heq;have hc:=RW.one hx;have e0:wr.cell? ⟨g,j*2,Xb⟩=Xa (I6 (q:Int)):=by
   have:=hc 0 _ rfl;rw[Ya,Ya,zA,Yg]at this;exact this
  have e1:wr.cell? ⟨g,j*2+1,Xb⟩=Xa (I6 (n:Int)):=by
   have:=hc 1 _ rfl;rw[Ya,Ya,zA]at this;exact this
  have HQ:Xp (q<m.sp.length):=HLS.out _ (mG hx);have HTK:Xp (L.take (j+1)=L.take j++ [(q,n)]):=show _=_ by rw[Yq,hx];rfl
  clear hc hx;go_upto_region 4 with fail;clear e0 e1;obtain⟨px,HPX⟩:=kA wr.heap.size;obtain⟨W3,hW3⟩:=kB (wr.alloc (Xk #[I6 (q:Int),I6 (n:Int)] 107));have G3:=gA hW3
  have X3:=xPT hW3 HPX
  have Y3:=dD (YW.grew G3);rw[hW3,HPX.out];clear hW3;have M3:=dD (MW.grew G3);have hen:=zgL M3 q (by rw[(zaa z _ m).1];exact HQ) (n:Int) z
  have x0:=X3.box.c 0 rfl;have x1:=X3.box.c 1 rfl;obtain⟨y0,y1,y2⟩:=Y3.box.c3;go_wp2_with fail;refine hen.mono ?_;clear hen x0 x1 y0 y1 y2;rintro e W4 ⟨⟨v4,rfl⟩,V4,m4,o4,d4⟩;have M4:Xp (ChW w0 p W4 V4 (Z7 m z (L.take (j+1)))):=dD<|by rw[HTK.out,zgH];exact m4
  have hst:=Chg.step (w0:=w0) (m':=Z7 m z (L.take (j+1))) OW DW (Chg.of_grew G3 ⟨V4,M4,o4,d4⟩);have R4:Xp (zb zcV b1 W4 (O (Xa ⟨g,0,Xb⟩) ln vc) L):=(RW.grew G3).chg o4 (M3.offR (RW.grew G3) (by decide) (by decide) (by decide) (by decide))
  have Y4:Xp (zt W4 b 55 [I6 z.kind,I6 z.n,Xh z.wr]):=Y3.outD o4 (M3.offB Y3 (by decide) (by decide) (by decide) (by decide))
  obtain⟨V5,m5,o5,d5⟩:=hst;have M5:Xp (ChW w0 p W4 V5 (Z7 m z (L.take (j+1)))):=m5;have O5:Xp (qW (Dw p V) w W4):=o5;have D5:Xp (∀k,Dw p V5 k->Dw p V k\/w.heap.size<=k):=show∀k,_ from d5
  clear m4 o4 d4 m5 o5 d5;go_wp2
  go_roundg (ln -(j+1))
  case measure=>omega
  exact⟨j+1,V5,by omega,by omega,by go_num,M5,O5,D5,R4,Y4⟩
 have hltz:=kD hlt
 have HTL:Xp (L.take j=L):=dD<|Yf (by rw[HLN.out];omega)
 rw[HTL.out]at MW;obtain⟨M1,HM1⟩:=kA (Z7 m z L);rw[HM1.out]at MW;have HFS:Xp (M1.fs=m.fs/\M1.hand=m.hand):=dD<|by rw[<-HM1.out];exact(zaa z L m).2
 obtain⟨g,c9,heq⟩:=MW.fs.formS (by rw[HFS.1];have:=(gS.1 HK).1;omega)
 obtain⟨⟨fa,fn,fc⟩,vs,vsb,vsq,vdb,vdq,vfl,vca,vsp⟩:=V';simp only[vJ]at heq;obtain⟨rfl,hfn,-⟩:=heq;have hkz:(k:Int)< (fn:Int):=by
  have h1:=(gS.1 HK).1;rw[hfn,HFS.1];omega
 have HKC:Xp (∀W,zc wr W->W.cell? ⟨g,k*13+8,Xb⟩=Xa (I6 fr.r)):=dD<|fun W hW=>by
  have:=(MW.fs.grew hW).one (i:=k) (x:=fr) (by rw[HFS.1];exact HK) 8 _ rfl
  rw[Ya,Ya,zA]at this;exact this
 have HC:Xp (∀W,zc wr W->Xq prog 149 #[Xi #[O (Xa ⟨g,0,Xb⟩) fn fc,I6 m.hand],I6 (k:Int),I6 (-fr.r)] W fun e w'=>∃s:Sli,e= Xl (Xm #[Xi #[s.x,I6 m.hand],I6 0])/\zb Qj W.heap.size w' (s.x) (zee m.fs m.hand (k:Int) (-fr.r))/\zc W w'):=dD<|fun W hW=>by
  have k1:=(MW.at.grew hW).fs;rw[HFS.1]at k1 hfn;rw[hfn]at k1⊢;refine(zlX (Xa ⟨g,0,Xb⟩) fc m.fs m.hand (k:Int) (-fr.r) W k1 HH).mono ?_;rintro e w' ⟨b,rfl,nr,g⟩;have nr':zb Qj W.heap.size w' b (zee m.fs m.hand (k:Int) (-fr.r)):=nr;obtain⟨a,c,rfl⟩:=nr'.form;exact⟨⟨a,_,c⟩,rfl,nr,g⟩
 have HBX:Xp (zt wr p 114 (chL ⟨⟨Xa ⟨g,0,Xb⟩,fn,fc⟩,vs,vsb,vsq,vdb,vdq,vfl,vca,vsp⟩ M1)):=MW.box;have HHN:Xp (M1.hand=m.hand):=HFS.2;clear hfn;obtain⟨r,HRE⟩:=kA fr.r;rw[HRE.out]at HKC HC HRR;obtain⟨hr0,hr1⟩:=HRR.out;go_upto_region 6 with fail;obtain⟨I,HI⟩:∃I:Xo->Prop,Xp (∀u,I u↔u.cell? ⟨g,k*13+8,Xb⟩=Xa (I6 r)):=⟨fun u=>u.cell? ⟨g,k*13+8,Xb⟩=Xa (I6 r),fun _=>Iff.rfl⟩
 have gd:zc wr wr.drew:=show Below _ _ _ from(bR _ _).drew
 have hI0:I wr.drew:=(HI _).2 (HKC _ gd);have hF0:zc wr wr.drew:=gd;have hy:∀y:zj I,y.world.cell? ⟨g,k*13+8,Xb⟩=Xa (I6 r):=fun y=>(HI _).1 y.holds
 have hne:Nonempty (zj I):=⟨⟨_,hI0⟩⟩;refine Q3 (I:=I) 26 [(18,fun v=>∃s:Sli,v= Xm #[Xi #[s.x,I6 m.hand],I6 0]),(25,fun _=>True)] [5,12] (fun u=>zc wr u) hI0 hF0 zW (by kernel_rfl) rfl rfl (by decide) ?hS (by kernel_rfl) (by kernel_rfl) ?_
 case hS=>
  intro x hx;simp only[mC,nM,or_false]at hx
  rcases hx with rfl|rfl
  ·exact⟨_,zy,rfl⟩
  exact⟨undef,trivial⟩
 simp only[Ys,Yt];iterate 2 (refine jU rfl rfl rfl (fun K hK=>?_);go_big_quiet_op;refine hK _ ?_;clear hK)
 refine Jb (.tmp 23) ⟨p,0,Xb⟩ rfl rfl rfl rfl ?_;simp only[Xt,sB,sS,sZ];iterate 2 (refine jU rfl rfl rfl (fun K hK=>?_);go_big_quiet_op;refine hK _ ?_;clear hK)
 refine zfh rfl rfl rfl (Xi #[O (Xa ⟨g,0,Xb⟩) fn fc,I6 m.hand]) (fun w' _ hF'=>?_) ?_
 ·exact zjz 28 (.tmp 26) rfl p 0 rfl [O (Xa ⟨g,0,Xb⟩) fn fc,I6 m.hand] ((HBX.box.grew hF').mid 0 (fun j v hj=>by
   match j,hj with
   | 0,hj=>exact hj
   | 1,hj=>rw[<-HHN.out]at hj;exact hj)) underlying28 rfl (by kernel_rfl)
 simp only[Xt,sB,sS,sZ];iterate 2 (refine jU rfl rfl rfl (fun K hK=>?_);go_big_quiet_op;refine hK _ ?_;clear hK)
 refine Jb (.tmp 29) ⟨p,0,Xb⟩ rfl rfl rfl rfl ?_;simp only[Xt,sB,sS,sZ];iterate 3 (refine jU rfl rfl rfl (fun K hK=>?_);go_big_quiet_op;refine hK _ ?_;clear hK)
 refine zfh rfl rfl rfl (O (Xa ⟨g,0,Xb⟩) fn fc) (fun w' _ hF'=>?_) ?_
 ·exact zhZ 26 (.tmp 33) rfl p 0 rfl (O (Xa ⟨g,0,Xb⟩) fn fc) ((HBX.box.grew hF').c 0 rfl) underlying26 rfl
 simp only[Xt,sB,sS,sZ];iterate 5 (refine jU rfl rfl rfl (fun K hK=>?_);go_big_quiet_op;refine hK _ ?_;clear hK)
 refine zay rfl rfl (fun v u=>∃(s:Sli) (Wa:Xo),v= Xm #[Xi #[s.x,I6 m.hand],I6 0]/\zc wr Wa/\zc Wa u/\zb Qj Wa.heap.size u (s.x) (zee m.fs m.hand (k:Int) (-r))) (fun w' hI' hF'=>?_) (fun v1 hv=>?_)
 ·refine zQ.call [Xi #[O (Xa ⟨g,0,Xb⟩) fn fc,I6 m.hand],I6 (k:Int),I6 (-r)] rfl func149 rfl rfl rfl ?_;refine(HC w' hF').mono ?_;rintro e w'' ⟨s,rfl,t2,g2⟩;exact⟨_,rfl,(HI _).2 (HKC _ (hF'.trans g2)),⟨s,rfl⟩,s,w',rfl,hF',g2,t2⟩
 obtain⟨s,rfl⟩:=hv;simp only[Xt,sB,sS,sZ];iterate 3 (refine jU rfl rfl rfl (fun K hK=>?_);go_big_quiet_op;refine hK _ ?_;clear hK)
 refine Jb (.tmp 22) ⟨p,0,Xb⟩ rfl rfl rfl rfl ?_;simp only[Xt,sB,sS,sZ];iterate 2 (refine jU rfl rfl rfl (fun K hK=>?_);go_big_quiet_op;refine hK _ ?_;clear hK)
 refine zay rfl rfl (fun _ u=>Chg w0 p w V (JQ m k r z) u) (fun w' hI' hF'=>?_) (fun v1 hv=>?_)
 ·obtain⟨s',Wa,he,ga,gb,t8⟩:=hF';have hss:s'=s:=by
   obtain⟨a1,a2,a3⟩:=s;obtain⟨b1,b2,b3⟩:=s';simp only[Value.tuple.injEq,Array.mk.injEq,List.cons.injEq,Value.agg.injEq,vJ,and_true]at he;obtain⟨rfl,rfl,rfl⟩:=he;rfl
  subst hss;have G8:zc wr w':=ga.trans gb;refine ZM 28 (.tmp 45) (.tmp 41) rfl p 0 rfl (Xi #[s'.x,I6 m.hand]) rfl [s'.x,I6 m.hand] rfl (HBX.grew G8) (by simp[chL]) (by kernel_rfl) (by simp[Value.oneCell']) ?_
  intro W9 bx9 gr9 _;have hpg:p≠g:=MW.nf g rfl;refine⟨(HI _).2 ?_,trivial,?_⟩
  ·have h1:=HKC.out _ G8;have hl:=World.block_lt_of_cell? _ _ h1;rw[World.cell?_of_block (w:=w') (gr9.block g hl (fun e=>by cases e;exact hpg rfl))]
   exact h1
  have hlm:JQ m k r z={ M1 with fs:=zee m.fs m.hand (k:Int) (-r),hand:=m.hand }:=by
   unfold JQ;rw[HL.out,HM1.out]
  rw[hlm];exact Chg.step OW DW (MW.setF G8 (t8.base (bS ga)) gr9 bx9)
 clear hv;try simp only[Xt]
 refine zd0 fun W9 hI8 hF8=>?_
 have M9:Xp (Chg w0 p w V (JQ m k fr.r z) W9):=dD<|by rw[HRE.out];exact hF8
 clear hI8 hF8 hI0 hF0 hy hne;go_wp2
 (first | go_end0 | ((try simp only[Exit.inBlock,Exit.then]);refine bodyPost_ret (results_none rfl _ _ _) rfl ?_))
 first | exact M9.out | exact⟨⟨_,rfl⟩,M9⟩
theorem ze9:∀(m:Nat) (fs:List Fr) (h:Nat),h<fs.length->(∀q∈fs,q=frF)->jC m fs h=(fs,(h+m) % fs.length,-1)
 | 0,fs,h,hh,_=>by
  rw[jC,Yg,Yb hh]
 | m+1,fs,h,hh,hf=>by
  have hq:fs.getD h fr0=frF:=by
   rw[gD,gE hh];exact hf _ (List.getElem_mem hh)
  have hs:fs.set h (frU frF)=fs:=by
   apply Yd
   intro j
   by_cases hj:j=h
   ·subst hj;rw[sF hh,gE hh,hf _ (List.getElem_mem hh)];rfl
   rw[sN (Ne.symm hj)]
  rw[jC,hq,show zht frF=Xd from rfl,hs]
  rw[kF (by decide),ze9 m fs ((h+1) % fs.length) (Yi _ (by omega)) hf]
  rw[Ym,Nat.add_assoc,Nat.add_comm 1 m]
theorem zkm {q:Fr} (h1:frW q=0) (hr:q.r=0):q=frF:=by
 unfold frW at h1
 by_cases h2:(inB q.r 1001 && inB q.x 12)=Xd
 ·rw[kE h2]at h1;omega
 rw[kF h2]at h1
 by_cases h3:(!(q.f == -1) && !inB q.f 5)=Xc
 ·rw[kE h3]at h1;omega
 rw[kF h3]at h1
 by_cases h4:(q.r == 0 && !zaF q frF || q.f == -1 && !(q.x == 0))=Xc
 ·rw[kE h4]at h1;omega
 simp[hr]at h4
 exact zen h4.1
def zeh (q:Fr):Bool:=decide (0<q.r)
theorem zia {fs:List Fr} {h:Int} (hz:ZR fs h=0) (hn:fs.any zeh=Xd):QZ fs h=(fs,h.toNat,-1):=by
 obtain⟨h1,h2,h3,h4⟩:=j2 hz;have hall:∀q∈fs,q=frF:=fun q hq=>by
  have h5:=Oe.1 hn q hq;unfold zeh at h5;have h6:=(zaD (h2 q hq)).1;exact zkm (h2 q hq) (by simp at h5;omega)
 unfold QZ
 by_cases hl:fs.length=0
 ·rw[hl];rfl
 rw[ze9 _ fs h.toNat (by omega) hall,Nat.add_comm,Nat.two_mul,Nat.add_assoc,Nat.add_mod_left,Nat.add_mod_left,Yb (by omega)]
def zaL (fs gs:List Fr):Prop:=gs.length=fs.length/\∀(i:Nat) q,fs[i]? =Xa q->∃q',gs[i]? =Xa q'/\(q'=q\/q'=frU q)
theorem zaL.refl (fs:List Fr):zaL fs fs:=⟨rfl,fun _ q h=>⟨q,h,.inl rfl⟩⟩
theorem zaL.set {fs gs:List Fr} (h:zaL fs gs) (i:Nat):zaL fs (gs.set i (frU (gs.getD i fr0))):=by
 refine⟨by rw[Yn];exact h.1,fun j q hj=>?_⟩
 obtain⟨q',h1,h2⟩:=h.2 j q hj
 by_cases e:j=i
 ·subst e;have hl:j<gs.length:=(gS.1 h1).1;refine⟨frU q',?_,?_⟩
  ·rw[sF hl,gD,h1];rfl
  right
  rcases h2 with rfl|rfl <;> rfl
 exact⟨q',by rw[sN (Ne.symm e)];exact h1,h2⟩
theorem J4:∀(m:Nat) (fs gs:List Fr) (h:Nat),zaL fs gs->h<gs.length->∀(gs':List Fr) (h':Nat) (r:Int),jC m gs h=(gs',h',r)->zaL fs gs'/\h'<gs'.length/\(r=-1\/∃(k:Nat) (q:Fr),r=(k:Int)/\fs[k]? =Xa q/\0<q.r/\gs'[k]? =Xa (frU q)/\h'=(k+1) % fs.length)
 | 0,fs,gs,h,hm,hh,gs',h',r,e=>by
  rw[jC]at e;cases e;exact⟨hm,hh,.inl rfl⟩
 | m+1,fs,gs,h,hm,hh,gs',h',r,e=>by
  rw[jC]at e;have hm':=hm.set h;have hl':(h+1) % gs.length< (gs.set h (frU (gs.getD h fr0))).length:=by
   rw[Yn];exact Yi _ (by omega)
  by_cases hi:zht (gs.getD h fr0)=Xc
  ·rw[kE hi]at e;cases e;refine⟨hm',hl',.inr ?_⟩;have hfl:h<fs.length:=by rw[<-hm.1];exact hh
   obtain⟨q',h1,h2⟩:=hm.2 h fs[h] (gE hfl);have hg:gs.getD h fr0=q':=by rw[gD,h1];rfl
   rw[hg]at hi;have hr:0<q'.r:=by unfold zht at hi;simp at hi;exact hi.1
   refine⟨h,fs[h],rfl,gE hfl,?_,?_,by rw[hm.1]⟩
   ·rcases h2 with rfl|rfl
    ·exact hr
    exact hr
   rw[sF hh,hg]
   rcases h2 with rfl|rfl <;> rfl
  rw[kF hi]at e;exact J4 m fs _ _ hm' hl' gs' h' r e
theorem zir {fs:List Fr} (h0:∀q∈fs,0<=q.r):fs.countP zeh+JJ fs=fs.length:=by
 induction fs with
 | nil=>rfl
 | cons a l ih=>
  have h1:=ih fun q hq=>h0 q (by simp[hq])
  have h2:=h0 a (by simp)
  unfold JJ at h1⊢;rw[List.countP_cons,List.countP_cons,Yh]
  by_cases h3:a.r=0
  ·rw[kF (by unfold zeh;simp;omega),kE (by simp[h3])]
   omega
  rw[kE (by unfold zeh;simp;omega),kF (by simp[h3])]
  omega
theorem zdg:∀(d m:Nat) (gs:List Fr) (h:Nat),h<gs.length->d<m->zeh (gs.getD ((h+d) % gs.length) fr0)=Xc->(gs.getD ((h+d) % gs.length) fr0).u=Xd->(jC m gs h).2.2≠-1
 | d,0,_,_,_,hm,_,_=>by omega
 | d,m+1,gs,h,hh,hm,hd,hu=>by
  rw[jC]
  by_cases hi:zht (gs.getD h fr0)=Xc
  ·rw[kE hi];simp only;omega
  rw[kF hi]
  cases d with
  | zero=>
   rw[Yg,Yb hh]at hd hu;unfold zht at hi;unfold zeh at hd;rw[hd,hu]at hi;exact absurd rfl hi
  | succ d=>
   have hl:(gs.set h (frU (gs.getD h fr0))).length=gs.length:=Yn;have hne:∀i,(gs.set h (frU (gs.getD h fr0))).getD i fr0=if i=h/\h<gs.length then frU (gs.getD h fr0)else gs.getD i fr0:=fun i=>by
    rw[gD]
    by_cases e:i=h
    ·subst e;rw[kE ⟨rfl,hh⟩,sF hh];rfl
    rw[kF (by omega),sN (Ne.symm e),<-gD]
   have e1:((h+1) % gs.length+d) % gs.length=(h+(d+1)) % gs.length:=by rw[Ym,show h+1+d=h+(d+1) by omega]
   refine zdg d m _ _ (by rw[hl];exact Yi _ (by omega)) (by omega) ?_ ?_
   ·rw[hl,e1,hne]
    split
    ·rename_i e
     rw[e.1]at hd;exact hd
    exact hd
   rw[hl,e1,hne]
   split
   ·rfl
   exact hu
theorem zb8:∀(d m:Nat) (gs:List Fr) (h:Nat),h<gs.length->d+gs.length<m->zeh (gs.getD ((h+d) % gs.length) fr0)=Xc->(jC m gs h).2.2≠-1
 | d,0,_,_,_,hm,_=>by omega
 | d,m+1,gs,h,hh,hm,hd=>by
  rw[jC]
  by_cases hi:zht (gs.getD h fr0)=Xc
  ·rw[kE hi];simp only;omega
  rw[kF hi];have hl:(gs.set h (frU (gs.getD h fr0))).length=gs.length:=Yn;have hne:∀i,(gs.set h (frU (gs.getD h fr0))).getD i fr0=if i=h/\h<gs.length then frU (gs.getD h fr0)else gs.getD i fr0:=fun i=>by
   rw[gD]
   by_cases e:i=h
   ·subst e;rw[kE ⟨rfl,hh⟩,sF hh];rfl
   rw[kF (by omega),sN (Ne.symm e),<-gD]
  cases d with
  | zero=>
   rw[Yg,Yb hh]at hd;have e1:((h+1) % gs.length+(gs.length - 1)) % gs.length=h:=by
    rw[Ym,show h+1+(gs.length - 1)=h+gs.length by omega,Nat.add_mod_right,Yb hh]
   refine zdg (gs.length - 1) m _ _ (by rw[hl];exact Yi _ (by omega)) (by omega) ?_ ?_
   ·rw[hl,e1,hne,kE ⟨rfl,hh⟩];exact hd
   rw[hl,e1,hne,kE ⟨rfl,hh⟩];rfl
  | succ d=>
   have e1:((h+1) % gs.length+d) % gs.length=(h+(d+1)) % gs.length:=by rw[Ym,show h+1+d=h+(d+1) by omega]
   refine zb8 d m _ _ (by rw[hl];exact Yi _ (by omega)) (by rw[hl];omega) ?_
   rw[hl,e1,hne]
   split
   ·rename_i e
    rw[e.1]at hd;exact hd
   exact hd
theorem zdf {fs:List Fr} {h:Int} (hz:ZR fs h=0):
  (Qn fs h=-1/\JJ fs=fs.length)\/∃(k:Nat) (q:Fr),Qn fs h=(k:Int)/\fs[k]? =Xa q/\0<q.r/\zaL fs (zat fs h)/\(zat fs h)[k]? =Xa (frU q)/\zaU fs h=(((k+1) % fs.length:Nat):Int):=by
 obtain⟨h40,hfw,hh0,hh1⟩:=j2 hz;have hI:Qn fs h=(QZ fs h).2.2:=kE hz;have hF:zat fs h=(QZ fs h).1:=kE hz;have hH:zaU fs h=((QZ fs h).2.1:Int):=kE hz
 cases hn:fs.any zeh with
 | false=>
  left;rw[hI,zia hz hn];refine⟨rfl,?_⟩;have h1:=zir (fs:=fs) (fun q hq=>(zaD (hfw q hq)).1)
  have h2:fs.countP zeh=0:=by
   rw[List.countP_eq_zero];intro a ha;have:=Oe.1 hn a ha
   simpa using this
  omega
 | true=>
  right;obtain⟨q0,hq0,hqh⟩:=Xv.1 hn;obtain⟨i,hi⟩:=Xy hq0;have hil:i<fs.length:=(gS.1 hi).1;have hht:h.toNat<fs.length:=by omega
  obtain⟨gs',h',r,e⟩:∃gs' h' r,jC (2*fs.length) fs h.toNat=(gs',h',r):=⟨_,_,_,rfl⟩;have hne:r≠-1:=by
   have hhit:=zb8 ((i+fs.length - h.toNat) % fs.length) (2*fs.length) fs h.toNat hht (by have:=Yi (i+fs.length - h.toNat) (show 0<fs.length by omega);omega) (by
    rw[Nat.add_mod_mod,show h.toNat+(i+fs.length - h.toNat)=i+fs.length by omega,Nat.add_mod_right,Yb hil,gD,hi]
    exact hqh)
   rw[e]at hhit;exact hhit
  obtain⟨hm,hl,hs⟩:=J4 (2*fs.length) fs fs h.toNat (zaL.refl fs) hht gs' h' r e
  rcases hs with hs|⟨k,q,rfl,hq,hr,hg,rfl⟩
  ·exact absurd hs hne
  refine⟨k,q,?_,hq,hr,?_,?_,?_⟩
  ·rw[hI];unfold QZ;rw[e]
  ·rw[hF];unfold QZ;rw[e];exact hm
  ·rw[hF];unfold QZ;rw[e];exact hg
  rw[hH];unfold QZ;rw[e]
theorem zds {e:En} (he:enW e=0):∀(l:List (Nat × Nat)) {m:Ma},(∀s∈m.sp,zcJ s.tb)->(∀x∈l,x.1<m.sp.length/\x.2<64)->Z7 m e l=j6 m e l
 | [],m,_,_=>rfl
 | x :: l,m,ht,hl=>by
  obtain⟨h1,h2⟩:=hl x (Xx ..)
  show Z7 (Jl m x.1 (x.2:Int) e) e l=j6 (zdP m x.1 x.2 e) e l
  rw[zky ht h1 h2 he];exact zds he l (zhf ht he) (fun y hy=>by rw[zgn];exact hl y (Yj _ hy))
theorem zeX {e:En}:∀(l:List (Nat × Nat)) {m m0:Ma},m.sp=m0.sp->(j6 m e l).sp=(j6 m0 e l).sp
 | [],_,_,h=>h
 | x :: l,m,m0,h=>zeX l (m:=zdP m x.1 x.2 e) (m0:=zdP m0 x.1 x.2 e) (by unfold zdP;simp only;rw[h])
theorem zaA (h:Rt m) {k:Nat} {fr:Fr} (hk:m.fs[k]? =Xa fr) (hr:fr.r≠0):0<=fr.r/\fr.r<=1000/\zef m.fs m.hand (k:Int) (-fr.r)=0:=by
 obtain⟨r0,r1⟩:=zaD ((j2 h.parts.1).2.1 fr (mG hk));refine⟨r0,r1,?_⟩;have hgd:m.fs.getD k fr0=fr:=by rw[gD,hk];rfl
 have hil:=(gS.1 hk).1;unfold zef;rw[kE h.parts.1,tN,hgd];have hb:(inB (k:Int) m.fs.length && !(fr.r == 0))=Xc:=by
  simp[inB,hr]
  omega
 rw[hb,kE rfl,kE (by omega)]
theorem zhr {m0:Ma} (h:Rt m0) (hs:m.sp=m0.sp) (hf:m.fs=m0.fs) (hh:m.hand=m0.hand) {k:Nat} {fr:Fr} (hk:m0.fs[k]? =Xa fr) (hr:fr.r≠0) {e:En} (he:enW e=0):
  JQ m k fr.r e={ m with fs:=m.fs.set k frF,sp:=m.sp.map (zdh (k:Int) e) }:=by
 obtain⟨_,_,h0⟩:=zaA h hk hr;have ht:∀s∈m.sp,zcJ s.tb:=fun s hs'=>h.tb (by rw[<-hs];exact hs')
 have hhd:jW m 1 (k:Int) m.sp.length=jW m0 1 (k:Int) m0.sp.length:=by unfold jW;rw[hs]
 have hmem:∀x∈jW m0 1 (k:Int) m0.sp.length,x.1<m.sp.length/\x.2<64:=fun x hx=>by
  obtain⟨a1,a2,_⟩:=(zcl (m:=m0) (by decide) (nR _)).1 hx
  exact⟨by rw[hs];exact a1,a2⟩
 have hsp:(j6 m e (jW m0 1 (k:Int) m0.sp.length)).sp=m.sp.map (zdh (k:Int) e):=by
  rw[zeX _ hs,zlS h he,hs]
 have hgd:m0.fs.getD k fr0=fr:=by rw[gD,hk];rfl
 unfold JQ;rw[hhd,zds he _ ht hmem,zb0];rw[<-hf,<-hh]at h0;unfold zee;rw[kE h0,tN,hf,hgd,hsp];have:frH fr (-fr.r)=frF:=by unfold frH;rw[kE (by omega)]
 rw[this]
def Q6 (k:Nat) (fr:Fr) (l:List (Nat × Nat)) (q:Nat) (s:Sp) (a:Ar) (n:Nat):Bool:=decide ((qp a n).file=fr.f) && decide ((qp a n).page=fr.x) && !(l.contains (q,n)) &&(decide ((zD s n).kind=0) || isE (zD s n) 1 (k:Int))
def zgi (m:Ma) (k:Nat) (fr:Fr) (l:List (Nat × Nat)):Bool:=(Ob m.sp.length).any fun q=>(m.sp.getD q ⟨Xd,[],[]⟩).ars.any fun a=>(Ob 64).any fun n=>Zf a n && Q6 k fr l q (m.sp.getD q ⟨Xd,[],[]⟩) a n
theorem zam {k:Nat} {fr:Fr} {l:List (Nat × Nat)} {q:Nat} {s:Sp} {a:Ar} {n:Nat}:Q6 k fr l q s a n=Xc↔znx k fr l q s a n:=by
 unfold Q6 znx
 simp[and_assoc]
theorem zeT {k:Nat} {fr:Fr} {l:List (Nat × Nat)}:zgi m k fr l=Xc↔∃(q:Nat) (s:Sp) (i:Nat) (a:Ar) (n:Nat),m.sp[q]? =Xa s/\s.ars[i]? =Xa a/\Zf a n=Xc/\n<64/\znx k fr l q s a n:=by
 unfold zgi;constructor
 ·intro h;obtain⟨q,hq,h⟩:=Xv.1 h;obtain⟨a,ha,h⟩:=Xv.1 h;obtain⟨n,hn,h⟩:=Xv.1 h;obtain⟨i,hi⟩:=Xy ha;have hql:=Xz.1 hq;have hs:=gE hql;rw[Sp.getD_of hs]at hi h;rw[Bool.and_eq_true]at h;exact⟨q,_,i,a,n,hs,hi,h.1,Xz.1 hn,zam.1 h.2⟩
 rintro⟨q,s,i,a,n,h1,h2,h3,h4,h5⟩;refine Xv.2 ⟨q,Xz.2 (gS.1 h1).1,?_⟩;rw[Sp.getD_of h1];refine Xv.2 ⟨a,mG h2,Xv.2 ⟨n,Xz.2 h4,?_⟩⟩;rw[Bool.and_eq_true];exact⟨h3,zam.2 h5⟩
def zmq (m:Ma) (fr:Fr):List Int:=Qr (pgL fr.p) fr.x (zcR m fr.f)
def zal (m:Ma):Nat:=m.sl.findIdx isZ
def zaP (m:Ma) (k:Nat) (fr:Fr):Bool × Ma:=if zal m<m.sl.length then(Xc,zmC m k (zal m) fr.r (jl m.sb m.sq) (jk m.sq (zal m:Int) (pgL fr.p)))else(Xd,m)
def zeo (m:Ma) (k:Nat) (fr:Fr) (l:List (Nat × Nat)):Bool × Ma:=
 if zmq m fr≠pgL fr.p/\zgi m k fr l=Xc then(Xd,m)
 else if fr.d=Xc\/Jn m fr.f fr.x≠zmq m fr then
  (if QY m.fl m.cnt fr.f fr.x=0 then(Xc,jI (wrM m (zmq m fr) fr.f fr.x) k)else if Jn m fr.f fr.x=zmq m fr then(Xc,jI m k)else(Xd,m))
 else(Xc,jI m k)
def jJ (m:Ma) (k:Nat) (fr:Fr) (l:List (Nat × Nat)):Bool × Ma:=if fr.f=-1 then zaP m k fr else zeo m k fr l
def QU:Nat->Ma->List (Nat × Nat)->Bool × Ma
 | 0,m,_=>(Xd,m)
 | n+1,m,l=>
  if Qn m.fs m.hand<0 then(Xd,jd m)
  else if(jJ (jd m) (Qn m.fs m.hand).toNat (z8 (jd m) (Qn m.fs m.hand)) l).1=Xc then jJ (jd m) (Qn m.fs m.hand).toNat (z8 (jd m) (Qn m.fs m.hand)) l
  else QU n (jd m) l
def zel (m:Ma) (l:List (Nat × Nat)):Bool × Ma:=QU (2*m.fs.length) m l
section
variable{m:Ma} {k:Nat} {fr:Fr}
theorem Rt.frw (h:Rt m) (hk:m.fs[k]? =Xa fr):frW fr=0:=(j2 h.parts.1).2.1 fr (mG hk)
theorem zig (S:Nat->Nat->Prop) (h:Rt m) {gs:List Fr} (hm:zaL m.fs gs):zg5 S m { m with fs:=gs }:=by
 have key:∀i,i<=m.fs.length->zg5 S m { m with fs:=gs.take i++m.fs.drop i }:=by
  intro i
  induction i with
  | zero=>
   intro _;have:gs.take 0++m.fs.drop 0=m.fs:=by simp
   rw[this];exact zg5.refl h
  | succ i ih=>
   intro hi;have g:=ih (by omega)
   obtain⟨q,hq⟩:∃q,m.fs[i]? =Xa q:=⟨_,gE (by omega)⟩
   obtain⟨q',hq',he⟩:=hm.2 i q hq;have hgl:=hm.1;have hti:(gs.take i).length=i:=by rw[Xw];omega
   have hL:(gs.take i++m.fs.drop i)[i]? =Xa q:=by
    rw[aR (by omega),hti,Nat.sub_self,List.getElem?_drop,Yg]
    exact hq
   have hS:gs.take (i+1)++m.fs.drop (i+1)=(gs.take i++m.fs.drop i).set i q':=by
    rw[List.set_append,kF (by omega),hti,Nat.sub_self,Yq,hq',Yr]
    congr 1
    rw[List.drop_eq_getElem_cons (by omega:i<m.fs.length),sZ]
    rfl
   rw[hS]
   by_cases hr:q.r=0
   ·have hF:q=frF:=zkm (h.frw hq) hr;have hqq:q'=q:=by
     rcases he with e|e
     ·exact e
     rw[e,hF];rfl
    have hid:(gs.take i++m.fs.drop i).set i q'=gs.take i++m.fs.drop i:=by
     rw[hqq]
     apply Yd
     intro j
     by_cases e:i=j
     ·subst e;rw[sF (gS.1 hL).1,hL]
     rw[sN e]
    rw[hid];exact g
   have hqq:q'={ q with u:=q'.u,d:=q.d }:=by
    rcases he with e|e
    ·rw[e]
    rw[e];rfl
   rw[hqq];exact g.trans (zih S g.rt hL hr q'.u q.d)
 have:=key m.fs.length (nR _);rw[List.drop_length,List.append_nil,Yf (by rw[hm.1];exact nR _)]at this
 exact this
theorem zii {fs gs:List Fr} (hm:zaL fs gs):JJ gs=JJ fs:=by
 unfold JJ;have h1:gs.map (fun f=>decide (f.r=0))=fs.map (fun f=>decide (f.r=0)):=by
  apply Yd
  intro i;rw[Yp,Yp]
  cases hq:fs[i]? with
  | none=>
   have:gs[i]? =Xb:=by rw[List.getElem?_eq_none_iff]at hq⊢;rw[hm.1];exact hq
   rw[this]
  | some q=>
   obtain⟨q',h1,h2⟩:=hm.2 i q hq;rw[h1]
   rcases h2 with e|e <;> rw[e] <;> rfl
 have h2:=congrArg (List.countP id) h1;rw[List.countP_map,List.countP_map]at h2;exact h2
theorem zjQ (S:Nat->Nat->Prop) (h:Rt m):zg5 S m (jd m)/\JJ (jd m).fs=JJ m.fs/\((Qn m.fs m.hand=-1/\JJ m.fs=m.fs.length)\/∃(k:Nat) (fr:Fr),Qn m.fs m.hand=(k:Int)/\(jd m).fs[k]? =Xa fr/\fr.r≠0):=by
 have hz:=h.parts.1;obtain⟨z1,z2,z3,z4⟩:=j2 hz;have hF:zat m.fs m.hand=(QZ m.fs m.hand).1:=kE hz;have hH:zaU m.fs m.hand=((QZ m.fs m.hand).2.1:Int):=kE hz;have hmk:zaL m.fs (zat m.fs m.hand)/\0<=zaU m.fs m.hand/\zaU m.fs m.hand<max (m.fs.length:Int) 1:=by
  rw[hF,hH]
  by_cases hl:m.fs.length=0
  ·have:QZ m.fs m.hand=(m.fs,m.hand.toNat,-1):=by unfold QZ;rw[hl];rfl
   rw[this];exact⟨zaL.refl _,by simp only;omega,by simp only;omega⟩
  obtain⟨gs,h',r,e⟩:∃gs h' r,jC (2*m.fs.length) m.fs m.hand.toNat=(gs,h',r):=⟨_,_,_,rfl⟩;obtain⟨a1,a2,_⟩:=J4 _ m.fs m.fs m.hand.toNat (zaL.refl _) (by omega) gs h' r e
  have:QZ m.fs m.hand=(gs,h',r):=e;rw[this];have:=a1.1;exact⟨a1,by simp only;omega,by simp only;omega⟩
 obtain⟨k1,k2,k3⟩:=hmk;have g1:=zig S h k1;have g2:zg5 S { m with fs:=zat m.fs m.hand } (jd m):=zka S g1.rt k2 (by show _<max ((zat m.fs m.hand).length:Int) 1;rw[k1.1];exact k3)
 refine⟨g1.trans g2,zii k1,?_⟩
 rcases zdf hz with⟨e1,e2⟩ | ⟨k,q,e1,e2,e3,e4,e5,e6⟩
 ·exact .inl ⟨e1,e2⟩
 exact .inr ⟨k,frU q,e1,e5,by show q.r≠0;omega⟩
theorem zmS (S:Nat->Nat->Prop) (h:Rt m) {c:Ca} {F:Fl} (hc:c∈m.ca) (hi:zn4 m c k fi ix fr F) (h0:QY m.fl m.cnt fr.f fr.x=0) (pg:List Int):∃b:Nat,wrM m pg fr.f fr.x=zh6 m fi ix F (b:Int) (jl m.db m.dq) (jk m.dq (b:Int) pg)/\zg5 S m (zh6 m fi ix F (b:Int) (jl m.db m.dq) (jk m.dq (b:Int) pg))/\jt (jl m.db m.dq) (jk m.dq (b:Int) pg) (b:Int)=pg/\(b:Int)<m.cnt/\(∀(i j:Nat) g,m.fl[i]? =Xa g->g.bl[j]? =Xa (b:Int)->i=fi/\j=ix):=by
 have h0':=h0;rw[hi.ff,hi.fx]at h0;obtain⟨b,b1,b2,b3,b4,b5⟩:=zn0 h hi.fl hi.bl h0;obtain⟨d1,d2,d3⟩:=j9 h.inv.dok;have hcnt:=h.inv.cnt;have hwa:zo m.db.length m.dq (b:Int)=0:=by
  unfold zo;rw[kE h.inv.dok,kE (by simp[jo];omega)]
 have hst:=h.inv.st;have hP:wrM m pg fr.f fr.x=zh6 m fi ix F (b:Int) (jl m.db m.dq) (jk m.dq (b:Int) pg):=by
  unfold wrM zh6;rw[kE h0',hi.ff,hi.fx,b2,b3,b4];unfold qZ jb;rw[kE hwa,kE hwa]
 have hub:stW (m.fl.set fi ⟨F.size,F.bl.set ix (b:Int)⟩) m.cnt=0/\(∀x,zV (m.fl.set fi ⟨F.size,F.bl.set ix (b:Int)⟩) x=Xc↔(zV m.fl x=Xc/\x≠-1)\/x=(b:Int)\/(x=-1/\zV (m.fl.set fi ⟨F.size,F.bl.set ix (b:Int)⟩) x=Xc))/\(F.bl[ix]? =Xa (b:Int)\/zV m.fl (b:Int)=Xd)/\∀(i j:Nat) g,m.fl[i]? =Xa g->g.bl[j]? =Xa (b:Int)->i=fi/\j=ix:=by
  rcases b5 with e|⟨e,e'⟩
  ·obtain⟨q1,q2,q3⟩:=zkT hst hi.fl e;rw[q1];exact⟨hst,q2,.inl e,q3⟩
  obtain⟨q1,q2,q3,q4⟩:=zkU hst hi.fl e e';exact⟨q1,q2,.inr q3,q4⟩
 obtain⟨u1,u2,u3,u4⟩:=hub;refine⟨b,hP,zi0 S h hi.fl u1 u2 (Jt _ _) (JU hwa) (zjj _ _ d3) (fun q hq=>?_) (fun i hne=>zf7 hwa hne) u3 ⟨c,hc,hi.file,hi.idx⟩ u4,(zhR hwa).2,b1,u4⟩
 unfold jk at hq
 rcases List.mem_append.1 hq with e|e
 ·refine .inr ⟨q,?_,rfl⟩
  split at e
  ·exact List.mem_of_mem_tail e
  exact e
 simp only[List.mem_singleton]at e;exact .inl (by rw[e])
theorem zem (h:Rt m) (hk:m.fs[k]? =Xa fr) (hf:fr.f≠-1):∃(i:Nat) (c:Ca) (fi ix:Nat) (F:Fl),m.ca[i]? =Xa c/\zn4 m c k fi ix fr F:=by
 have h0:0<=fr.f:=by
  have:=h.frw hk;unfold frW at this
  by_cases h2:(inB fr.r 1001 && inB fr.x 12)=Xd
  ·rw[kE h2]at this;omega
  rw[kF h2]at this
  by_cases h3:(!(fr.f == -1) && !inB fr.f 5)=Xc
  ·rw[kE h3]at this;omega
  simp[hf,inB]at h3
  omega
 obtain⟨i,c,hi,h1,h2,h3⟩:=zgS h hk h0;obtain⟨k',fi,ix,f,F,hc⟩:=zkR h.w (mG hi);have e:k'=k:=by have:=hc.fr;omega
 subst e;have:=hc.fa.symm.trans hk;cases this;exact⟨i,c,fi,ix,F,hi,hc⟩
theorem zjk (m:Ma) (pg:List Int) (file idx:Int):(wrM m pg file idx).fs=m.fs:=(znH _ _ _ _).1
theorem zml (m:Ma) (k:Nat) (fr:Fr) (l:List (Nat × Nat)):((jJ m k fr l).1=Xc/\(jJ m k fr l).2.fs=m.fs.set k frF)\/((jJ m k fr l).1=Xd/\(jJ m k fr l).2=m):=by
 unfold jJ
 split
 ·unfold zaP
  split
  ·exact .inl ⟨rfl,rfl⟩
  exact .inr ⟨rfl,rfl⟩
 unfold zeo
 split
 ·exact .inr ⟨rfl,rfl⟩
 split
 ·split
  ·refine .inl ⟨rfl,?_⟩
   show(jI _ _).fs=_
   unfold jI;simp only;rw[zjk]
  split
  ·exact .inl ⟨rfl,rfl⟩
  exact .inr ⟨rfl,rfl⟩
 exact .inl ⟨rfl,rfl⟩
end
def bkC (l:List Int):Nat:=l.countP fun b=>decide (0<=b)
def zcQ:List Fl->Nat
 | []=>0
 | f :: l=>bkC f.bl+zcQ l
theorem zeJ:∀{fs:List Fl} {i:Nat} {f:Fl},fs[i]? =Xa f->zcQ (fs.take (i+1))=zcQ (fs.take i)+bkC f.bl
 | [],_,_,h=>by simp at h
 | g :: l,0,f,h=>by
  simp only[List.getElem?_cons_zero,Option.some.injEq]at h;subst h
  simp[zcQ]
 | g :: l,i+1,f,h=>by
  simp only[Xu]at h;have:=zeJ h;simp only[List.take_succ_cons,zcQ];omega
theorem zjp:∀{fs:List Fl},(∀f∈fs,f.bl.length<=12)->zcQ fs<=12*fs.length
 | [],_=>nR _
 | f :: l,h=>by
  have h1:=zjp (fs:=l) fun g hg=>h g (Yj _ hg)
  have h2:bkC f.bl<=f.bl.length:=List.countP_le_length;have h3:=h f (Xx ..);simp only[zcQ,Yh];omega
theorem zm9 {fs:List Fl} {m:Nat} (h:Zc fs (m:Int)=[]):∀j,j<m->zV fs (j:Int)=Xc:=fun j hj=>by
 unfold Zc at h;have:=List.filter_eq_nil_iff.1 h j (Xz.2 (by omega))
 simpa using this
theorem zmw {l:List Int} (h:∀b∈l,b=-1\/0<=b):bkC l=(Zb l).length:=by
 unfold bkC Zb;rw[List.countP_eq_length_filter]
 congr 1
 refine List.filter_congr fun b hb=>?_
 have:=h b hb
 by_cases e:0<=b
 ·simp[e];omega
 simp[e];omega
theorem zeK:∀{fs:List Fl},(∀f∈fs,∀b∈f.bl,b=-1\/0<=b)->zcQ fs=(Zb (Zo fs)).length
 | [],_=>rfl
 | f :: l,h=>by
  have h1:=zeK (fs:=l) fun g hg=>h g (Yj _ hg)
  have h2:=zmw (h f (Xx ..));have h3:Zb (Zo (f :: l))=Zb f.bl++Zb (Zo l):=by
   unfold Zb Zo;rw[Oc,Oa]
  rw[h3,lA,zcQ,h1,h2]
theorem zl4 {fs:List Fl} {cnt:Int} (h:stW fs cnt=0) (hl:Zc fs cnt=[]):cnt -(zcQ fs:Int)=0:=by
 obtain⟨⟨_,c1,c2⟩,c3,c4⟩:=(qi _ _).1 h;obtain⟨n,rfl⟩:∃n:Nat,cnt=(n:Int):=⟨cnt.toNat,by omega⟩
 have hn:=zm9 hl;rw[zeK (fun f hf b hb=>by have:=(c3 f hf).2.2 b hb;omega)]
 have e1:(Zb (Zo fs)).length<=((Ob n).map fun(i:Nat)=>(i:Int)).length:=c4.length_le_of_subset (fun x hx=>by
  obtain⟨h1,h2⟩:=Yl.1 hx;obtain⟨f,hf,hb⟩:=List.mem_flatMap.1 h1;have:=(c3 f hf).2.2 x hb;have h3:x≠-1:=by simpa using h2
  exact Yv.2 ⟨x.toNat,Xz.2 (by omega),by omega⟩)
 have e2:((Ob n).map fun(i:Nat)=>(i:Int)).length<=(Zb (Zo fs)).length:=List.Nodup.length_le_of_subset (List.Pairwise.map _ (fun a b hab e=>hab (by omega)) List.nodup_range) (fun x hx=>by
  obtain⟨i,hi,rfl⟩:=Yv.1 hx;have:=hn i (Xz.1 hi);obtain⟨q,f,j,h1,h2⟩:=jq.1 this;exact Qk (zcI h1 h2) (by omega))
 simp only[Yc,List.length_range]at e1 e2;omega
theorem zkS (h:Rt m) {c:Ca} {k:Nat} {f:Fr} {F:Fl} (hi:zn4 m c k fi ix f F) (hn:m.cnt -(zcQ m.fl:Int)≠0):QY m.fl m.cnt f.f f.x=0:=by
 have hst:=h.inv.st
 cases hl:Zc m.fl m.cnt with
 | nil=>exact absurd (zl4 hst hl) hn
 | cons b l=>
  have hfl:=(gS.1 hi.fl).1;have hbl:=hi.bl;have e1:zi2 m.fl (fi:Int)=F.bl:=by unfold zi2;rw[tN,hi.fl]
  unfold QY;rw[kE hst,hi.ff,hi.fx,kE (Zu.2 ⟨by omega,by omega⟩),e1,kE (Zu.2 ⟨by omega,by omega⟩),hl]
  split
  ·rfl
  rfl
def zlc (l:List Int):Nat:=l.countP fun z=>z == 0
theorem zkx (h:Rt m) (hok:zcN m) (hh:JJ m.fs≠m.fs.length) (hs:zlc m.sl≠0) (hb:m.cnt -(zcQ m.fl:Int)≠0):(zel m []).1=Xc:=by
 have hl:m.fs.length≠0:=fun e=>hh (by rw[List.length_eq_zero_iff.1 e];rfl)
 obtain⟨n,hn⟩:∃n,2*m.fs.length=n+1:=⟨2*m.fs.length - 1,by omega⟩
 unfold zel;rw[hn];unfold QU
 rcases zdf h.parts.1 with⟨_,e2⟩ | ⟨k,q,e1,e2,e3,e4,e5,e6⟩
 ·exact absurd e2 hh
 have e5':(jd m).fs[k]? =Xa (frU q):=e5;rw[kF (by omega),e1,tN,jL e5']
 have hem:(jJ (jd m) k (frU q) []).1=Xc:=by
  unfold jJ
  by_cases hf:q.f=-1
  ·rw[kE (show(frU q).f=-1 from hf)]
   unfold zaP;have hz:zal (jd m)< (jd m).sl.length:=by
    obtain⟨z,hz,hz0⟩:=List.countP_pos_iff.1 (Nat.pos_of_ne_zero hs);exact List.findIdx_lt_length_of_exists ⟨z,hz,by unfold isZ;simpa using hz0⟩
   rw[kE hz]
  rw[kF (show¬(frU q).f=-1 from hf)]
  have hcut:zmq (jd m) (frU q)=pgL (frU q).p:=((hok q (mG e2)).2 (by omega) hf).1
  obtain⟨i,c,fi,ix,F,_,hi⟩:=zem h e2 hf;have hb2:=zkS h hi hb;have hbk:QY (jd m).fl (jd m).cnt (frU q).f (frU q).x=0:=hb2;unfold zeo;rw[kF (fun e=>e.1 hcut)]
  by_cases hd:(frU q).d=Xc\/Jn (jd m) (frU q).f (frU q).x≠zmq (jd m) (frU q)
  ·rw[kE hd,kE hbk]
  rw[kF hd]
 rw[kE hem];exact hem
def zbi (a b:Int):Int:=if a<b then -1 else if b<a then 1 else 0
def zk9 (c d:Ca):Int:=zu [zbi c.file d.file,zbi c.idx d.idx]
theorem zmt {c d:Ca} (hc:0<=c.idx/\c.idx<100) (hd:0<=d.idx/\d.idx<100):(zk9 c d<0↔qm c<qm d)/\(zk9 c d=0↔qm c=qm d):=by
 unfold zk9 zu zu zu zbi qm
 by_cases h1:c.file<d.file
 ·rw[kE h1,kF (by decide)]
  constructor
  ·constructor
   ·intro _;omega
   intro _;decide
  constructor
  ·intro h;cases h
  intro h;omega
 rw[kF h1]
 by_cases h2:d.file<c.file
 ·rw[kE h2,kF (by decide)]
  constructor
  ·constructor
   ·intro h;exact absurd h (by decide)
   intro h;omega
  constructor
  ·intro h;cases h
  intro h;omega
 rw[kF h2,kE rfl];have e:c.file=d.file:=by omega
 by_cases h3:c.idx<d.idx
 ·rw[kE h3,kF (by decide)]
  constructor
  ·constructor
   ·intro _;omega
   intro _;decide
  constructor
  ·intro h;cases h
  intro h;omega
 rw[kF h3]
 by_cases h4:d.idx<c.idx
 ·rw[kE h4,kF (by decide)]
  constructor
  ·constructor
   ·intro h;exact absurd h (by decide)
   intro h;omega
  constructor
  ·intro h;cases h
  intro h;omega
 rw[kF h4,kE rfl];constructor
 ·constructor
  ·intro h;exact absurd h (by decide)
  intro h;omega
 constructor
 ·intro _;omega
 intro _;rfl
theorem zQ.callF {P:Program} {a:Act} {w:Xo} {K:Xr->Xo->Prop} {f:FuncId} {xs:List Operand} {ts:Array TypeId} {caps:Array Xr} {fn:Func} (x:Operand) (args:List Xr)
  (ho : o.op = .call { callee := .value x, args := xs.toArray, argTypes := ts }) (hx : a.eval x = .func (.func f) #[] caps) (hf : P.funcs[f]? = some fn) (hb : fn.body.isNone = false) (hn : (fn.name == "runtime.NumGoroutine") = false)
  (ha:xs.map a.eval=args) (h:Xq P f (args.toArray++caps) w fun e w'=>∃v,e= Xl v/\K v w'):zQ P o a w K:=by
 have hr:(execOp a.eval o).run P w= .ok (.enter f (args.toArray++caps)) w:=by
  simp only [execOp, ho, resolve, hx, List.map_toArray, ha, Deferred.ofValue, pure_bind, invoke];have hn' : fn.name ≠ "runtime.NumGoroutine" := by simpa using hn
  have hb':fn.body≠Xb:=fun e=>by rw[e]at hb;cases hb
  simp[callFunc,hf,hb',hn',program,Of,Sem.run]
 unfold zQ;rw[hr];exact h
def zj5 (ca:List Ca) (t:Ca):Bool:=ca.any fun c=>decide (qm c=qm t)
theorem zgq {t:Ca}:∀{ca:List Ca} {i:Nat},i<=ca.length->(∀(j:Nat) c,j<i->ca[j]? =Xa c->qm c<qm t)->(∀c,ca[i]? =Xa c->¬qm c<qm t)->zmE ca t=i
 | [],i,hi,_,_=>by
  have:i=0:=by simpa using hi
  subst this;rfl
 | a :: l,0,_,_,h2=>by
  unfold zmE;rw[Yz,kF (by simpa using h2 a rfl)]
  rfl
 | a :: l,i+1,hi,h1,h2=>by
  have ih:=zgq (t:=t) (ca:=l) (i:=i) (by simpa using hi) (fun j c hj hc=>h1 (j+1) c (by omega) (by rw[Xu];exact hc)) (fun c hc=>h2 c (by rw[Xu];exact hc))
  unfold zmE at ih⊢;rw[Yz,kE (by simpa using h1 0 a (by omega) rfl),Yh,ih]
theorem znc {ca:List Ca} {t:Ca} {i:Nat} (hs:ca.Pairwise fun a b=>qm a<qm b) (h1:∀(j:Nat) c,j<i->ca[j]? =Xa c->qm c<qm t) (h2:∀c,ca[i]? =Xa c->¬qm c<qm t):zj5 ca t=match ca[i]? with | some c=>decide (qm c=qm t) | none=>Xd:=by
 have key:zj5 ca t=Xc↔∃c,ca[i]? =Xa c/\qm c=qm t:=by
  unfold zj5;rw[Xv];constructor
  ·rintro⟨c,hc,he⟩;have he:=of_decide_eq_true he;obtain⟨j,hj⟩:=Xy hc
   rcases Nat.lt_trichotomy j i with h3|h3|h3
   ·have:=h1 j c h3 hj;omega
   ·subst h3;exact⟨c,hj,he⟩
   obtain⟨hjl,hje⟩:=gS.1 hj;have hil:i<ca.length:=by omega
   have h4:=Ye.1 hs i j hil hjl h3;have h5:=h2 _ (gE hil);rw[hje]at h4;omega
  rintro⟨c,hc,he⟩;exact⟨c,mG hc,decide_eq_true he⟩
 cases hi:ca[i]? with
 | none=>
  cases hb:zj5 ca t with
  | false=>rfl
  | true=>
   obtain⟨c,hc,_⟩:=key.1 hb;rw[hi]at hc;cases hc
 | some c=>
  simp only
  cases hb:zj5 ca t with
  | false=>
   symm
   refine decide_eq_false fun e=>?_
   have:=key.2 ⟨c,hi,e⟩;rw[hb]at this;cases this
  | true=>
   obtain⟨d,hd,he⟩:=key.1 hb;rw[hi]at hd;cases hd;exact(decide_eq_true he).symm
theorem zjV (a:Int) (w:Xo):Xq prog 229 #[I6 a] w fun e w'=>e= Xl (Xh Xd)/\w'=w:=by
 have h:(a != a)=Xd:=by simp
 go_enter func229,ntmps229
 go_wp2;go_ret
 first | exact⟨rfl,rfl⟩ | exact⟨by rw[h],rfl⟩
theorem zcE (a b:Int) (w:Xo):Xq prog 206 #[I6 a,I6 b] w fun e w'=>e= Xl (I6 (zbi a b))/\w'=w:=by
 have h1:=zjV a w;have h2:=zjV b w
 by_cases hl:a<b
 ·have HE:Xp (zbi a b=-1):=dD<|by unfold zbi;rw[kE hl]
  have hd:decide (a<b)=Xc:=decide_eq_true hl
  go_enter func206,ntmps206
  go_wp2_with fail;refine h1.mono ?_;rintro e W ⟨rfl,hW⟩;rw[hW];clear hW h1;go_wp2_with fail;refine h2.mono ?_;rintro e W ⟨rfl,hW⟩;rw[hW];clear hW h2;go_wp2;go_ret;exact⟨by rw[HE.out];rfl,rfl⟩
 have hd:decide (a<b)=Xd:=decide_eq_false hl
 by_cases hg:b<a
 ·have HE:Xp (zbi a b=1):=dD<|by unfold zbi;rw[kF hl,kE hg]
  have hd2:decide (b<a)=Xc:=decide_eq_true hg
  go_enter func206,ntmps206
  go_wp2_with fail;refine h1.mono ?_;rintro e W ⟨rfl,hW⟩;rw[hW];clear hW h1;go_wp2_with fail;refine h2.mono ?_;rintro e W ⟨rfl,hW⟩;rw[hW];clear hW h2;go_wp2;go_ret;exact⟨by rw[HE.out];rfl,rfl⟩
 have HE:Xp (zbi a b=0):=dD<|by unfold zbi;rw[kF hl,kF hg]
 have hd2:decide (b<a)=Xd:=decide_eq_false hg
 go_enter func206,ntmps206
 go_wp2_with fail;refine h1.mono ?_;rintro e W ⟨rfl,hW⟩;rw[hW];clear hW h1;go_wp2_with fail;refine h2.mono ?_;rintro e W ⟨rfl,hW⟩;rw[hW];clear hW h2;go_wp2;go_ret;exact⟨by rw[HE.out];rfl,rfl⟩
theorem zjJ (v:Xr) (l:List Int) (w:Xo) (hv:zm blE w v l):
  Xq prog 205 #[v] w fun e w'=>e= Xl (I6 (zu l))/\w'=w:=by
 have hbig:=hv.short;obtain⟨a,c,rfl,hrow⟩:=hv.nums;have HR:Xp (zab w a l):=hrow;clear hrow hv;obtain⟨n,HN⟩:=kA l.length;rw[HN.out]at hbig⊢;obtain⟨F,HF⟩:=kA (zu l);rw[HF.out]
 go_enter func205,ntmps205
 go_wp2
 go_loopg [5,8] n (fun gg _ s8 wr=>∃kk:Nat,kk<=n/\n - kk<=gg/\s8=I6 kk/\wr=w/\Xp (∀(j:Nat) x,j<kk->l[j]? =Xa x->x=0))
 case atStart=>exact⟨0,nZ _,by omega,rfl,rfl,fun j x hj=>absurd hj (nL _)⟩
 obtain⟨kk,hkk,hgg,rfl,rfl,A⟩:=hrel
 by_cases hlt:kk<n
 ·have hltz:=kC hlt
  obtain⟨q,HQ⟩:∃q,Xp (l[kk]? =Xa q):=⟨_,gE (by rw[HN.out];exact hlt)⟩
  obtain⟨x,rfl,hl⟩:=HR.out kk q HQ.out;have d0:=hl wr (zc.refl _);clear hl
  by_cases h0:q=0
  ·have h0e:(q != 0)=Xd:=by simp[h0]
   have HA:Xp (∀(j:Nat) x,j<kk+1->l[j]? =Xa x->x=0):=dD<|fun j x hj hx=>by
    by_cases e:j=kk
    ·subst e;rw[HQ.out]at hx;cases hx;exact h0
    exact A j x (by omega) hx
   clear h0;go_wp2
   go_roundg (n -(kk+1))
   case measure=>omega
   exact⟨kk+1,by omega,by omega,by go_num,rfl,HA⟩
  have h0e:(q != 0)=Xc:=by simp[h0]
  have HE:Xp (F=q):=dD<|by rw[<-HF.out];exact zct A HQ h0
  clear h0;go_wp2;go_ret;exact⟨by rw[HE.out];rfl,rfl⟩
 have hltz:=kD hlt
 have:kk=n:=by omega
 subst this;have HE:Xp (F=0):=dD<|by
  rw[<-HF.out];exact zcu fun j x hx=>A.out j x (by rw[<-HN.out];exact(gS.1 hx).1) hx
 go_wp2;go_ret;exact⟨by rw[HE.out];rfl,rfl⟩
theorem zh7 (c d:Ca) (w:Xo):Xq prog 204 #[Xi #[I6 c.file,I6 c.idx,I6 c.fr],Xi #[I6 d.file,I6 d.idx,I6 d.fr]] w fun e w'=>e= Xl (I6 (zk9 c d))/\zc w w':=by
 obtain⟨E,HE⟩:=kA (zk9 c d);have HE2:Xp (zu [zbi c.file d.file,zbi c.idx d.idx]=E):=HE.out;rw[HE.out];obtain⟨c0,c1,c2⟩:=c;obtain⟨d0,d1,d2⟩:=d;simp only at HE2⊢;obtain⟨W0,hW0⟩:=kB ((w.alloc (Xk #[I6 c0,I6 c1,I6 c2] 120)).alloc (Xk #[I6 d0,I6 d1,I6 d2] 120));have HG0:=gD2 hW0
 have X0:=x2a hW0
 have Y0:=x2b hW0
 have HW0:Xp (_=W0):=hW0;clear hW0
 go_enter func204,ntmps204
 go_upto_region 1 with fail;rw[HW0.out];have hx0:=X0.gw 0 rfl
 have hx1:=X0.gw 1 rfl
 have hy0:=Y0.gw 0 rfl
 have hy1:=Y0.gw 1 rfl
 have hne:Nonempty (zn W0):=⟨⟨_,zc.refl _⟩⟩;refine ji [(4,⟨fun v=>v=I6 (zbi c0 d0),fun v w'=>True⟩),(9,⟨fun v=>v=I6 (zbi c1 d1),fun v w'=>True⟩),(10,⟨fun v=>∃g,v= O (Xa ⟨g,0,Xb⟩) 2 2,fun v w'=>zm blE w' v [zbi c0 d0,zbi c1 d1]⟩),(11,⟨fun v=>v=I6 E,fun v w'=>True⟩)] zW (by kernel_rfl) ?hS ?hp ?_
 case hS=>
  intro x hx;simp only[mC,nM,or_false]at hx
  rcases hx with rfl|rfl|rfl|rfl
  ·exact⟨_,rfl⟩
  ·exact⟨_,rfl⟩
  ·exact⟨_,0,rfl⟩
  exact⟨_,rfl⟩
 case hp=>
  intro x hx;simp only[mC,nM,or_false]at hx
  rcases hx with rfl|rfl|rfl|rfl
  ·exact fun _ _ _ _ h=>h
  ·exact fun _ _ _ _ h=>h
  ·exact fun _ _ _ hg h=>zm.grew h hg
  exact fun _ _ _ _ h=>h
 iterate 4 (refine zd rfl rfl rfl (fun K hK=>?_);go_big_quiet_op;refine hK _ ?_;clear hK)
 refine zE rfl rfl (fun w' hg hF=>?_) (fun v1 hv=>?_)
 ·refine zQ.call [I6 c0,I6 d0] rfl func206 rfl rfl rfl ?_;refine(zcE c0 d0 w').mono ?_;rintro e w'' ⟨rfl,rfl⟩;exact⟨_,rfl,zc.refl _,rfl,trivial⟩
 subst hv;simp only[Xt,sB,sS,sZ];iterate 4 (refine zd rfl rfl rfl (fun K hK=>?_);go_big_quiet_op;refine hK _ ?_;clear hK)
 refine zE rfl rfl (fun w' hg hF=>?_) (fun v1 hv=>?_)
 ·refine zQ.call [I6 c1,I6 d1] rfl func206 rfl rfl rfl ?_;refine(zcE c1 d1 w').mono ?_;rintro e w'' ⟨rfl,rfl⟩;exact⟨_,rfl,zc.refl _,rfl,trivial⟩
 subst hv;simp only[Xt,sB,sS,sZ];refine zE rfl rfl (fun w' hg hF=>?_) (fun v1 hv=>?_)
 ·have hnew:zm blE (w'.alloc (Xk #[I6 (zbi c0 d0),I6 (zbi c1 d1)] 3)) (O (Xa ⟨w'.heap.size,0,Xb⟩) 2 2) [zbi c0 d0,zbi c1 d1]:=zdO blE w' [zbi c0 d0,zbi c1 d1] _ rfl (show 2*8<=140737488355328 by decide)
  refine zQ.step (v:= O (Xa ⟨w'.heap.size,0,Xb⟩) 2 2) (w':=w'.alloc (Xk #[I6 (zbi c0 d0),I6 (zbi c1 d1)] 3)) (by simp only[execOp];go_simp) ⟨za _ _,⟨_,rfl⟩,hnew⟩
 obtain⟨g7,rfl⟩:=hv;simp only[Xt,sB,sS,sZ];refine zE rfl rfl (fun w' hg hF=>?_) (fun v1 hv=>?_)
 ·have h7:zm blE w' (O (Xa ⟨g7,0,Xb⟩) 2 2) [zbi c0 d0,zbi c1 d1]:=hF 10 (by kernel_rfl)
  refine zQ.call [O (Xa ⟨g7,0,Xb⟩) 2 2] rfl func205 rfl rfl rfl ?_;refine(zjJ _ _ w' h7).mono ?_;rintro e w'' ⟨rfl,rfl⟩;exact⟨_,rfl,zc.refl _,by rw[HE2.out],trivial⟩
 subst hv;simp only[Xt,sB,sS,sZ];iterate 1 (refine zd rfl rfl rfl (fun K hK=>?_);go_big_quiet_op;refine hK _ ?_;clear hK)
 refine z6 fun W3 hg1 hF=>?_
 have G3:=dD (HG0.trans hg1);clear hg1 hF hx0 hx1 hy0 hy1 hne;go_wp2;go_ret;exact⟨rfl,G3⟩
theorem zgV (v:Xr) (ca:List Ca) (t:Ca) (w:Xo) (hv:zm qJ w v ca) (hs:ca.Pairwise fun a b=>qm a<qm b) (hi:∀c∈ca,0<=c.idx/\c.idx<100) (ht:0<=t.idx/\t.idx<100) (h60:ca.length<=1000):
  Xq prog 203 #[v,Xi #[I6 t.file,I6 t.idx,I6 t.fr],.func (.func 204) #[] #[]] w fun e w'=>e= Xl (Xm #[I6 (zmE ca t:Int),Xh (zj5 ca t)])/\zc w w':=by
 obtain⟨a,c,rfl,hrow⟩:=hv.cas;have HR:Xp (zbm w a ca):=hrow;have HS:Xp (ca.Pairwise fun a b=>qm a<qm b):=hs
 have HC:Xp (∀c∈ca,(zk9 c t<0↔qm c<qm t)/\(zk9 c t=0↔qm c=qm t)):=dD<|fun c hc=>zmt (hi c hc) ht
 have eg:=enters_of func204 (by kernel_rfl) rfl
 obtain⟨n,HN⟩:=kA ca.length;rw[HN.out]at h60⊢;obtain⟨P,HP⟩:=kA (zmE ca t);obtain⟨H,HH⟩:=kA (zj5 ca t);rw[HP.out,HH.out];have HMO:Xp (∀(i j:Nat) x y,ca[i]? =Xa x->ca[j]? =Xa y->i<=j->qm x<=qm y):=dD<|fun i j x y h1 h2 hij=>by
  obtain⟨a1,a2⟩:=gS.1 h1;obtain⟨b1,b2⟩:=gS.1 h2
  rcases Nat.lt_or_eq_of_le hij with h3|h3
  ·have:=Ye.1 hs i j a1 b1 h3;rw[a2,b2]at this;omega
  subst h3;rw[h1]at h2;cases h2;exact Int.le_refl _
 obtain⟨t0,t1,t2⟩:=t;obtain⟨KT,HKT⟩:=kA (qm ⟨t0,t1,t2⟩);have hcl:∀(x:Ca) (W:Xo),Xq prog 204 #[Xi #[I6 x.file,I6 x.idx,I6 x.fr],Xi #[I6 t0,I6 t1,I6 t2]] W fun e w'=>e= Xl (I6 (zk9 x ⟨t0,t1,t2⟩))/\zc W w':=fun x W=>zh7 x ⟨t0,t1,t2⟩ W
 rw[HKT.out]at HC;have HEND:Xp (∀i,i<=n->(∀(j:Nat) x,j<i->ca[j]? =Xa x->qm x<KT)->(∀(j:Nat) x,i<=j->ca[j]? =Xa x->KT<=qm x)->P=i/\H=match ca[i]? with | some x=>decide (qm x=KT) | none=>Xd):=dD<|fun i h1 h2 h3=>by
  rw[<-HP.out,<-HH.out,<-HKT.out];rw[<-HKT.out]at h2 h3;exact⟨zgq (by rw[HN.out];exact h1) h2 (fun x hx=>by have:=h3 i x (nR _) hx;omega),znc HS h2 (fun x hx=>by have:=h3 i x (nR _) hx;omega)⟩
 clear hv hs hi ht hrow;simp only;obtain⟨b,HB⟩:=kA w.heap.size;obtain⟨W0,hW0⟩:=kB (w.alloc (Xk #[I6 t0,I6 t1,I6 t2] 120));have G0:=gA hW0
 have X0:=xP hW0 HB
 have HW0:Xp (_=W0):=hW0;clear hW0
 go_enter func203,ntmps203
 go_upto_region 1 with fail;rw[HW0.out,HB.out];go_wp2
 go_loopg [9,10] n (fun gg s9 s10 wr=>∃lo hi:Nat,s9=I6 lo/\s10=I6 hi/\lo<=hi/\hi<=n/\hi - lo<=gg/\Xp (zc w wr)/\Xp (Box wr b [I6 t0,I6 t1,I6 t2])/\Xp ((∀(j:Nat) x,j<lo->ca[j]? =Xa x->qm x<KT)/\(∀(j:Nat) x,hi<=j->ca[j]? =Xa x->KT<=qm x)))
 case atStart=>exact⟨0,n,rfl,rfl,nZ _,nR _,by omega,G0,X0,⟨fun j x hj=>absurd hj (nL _),fun j x h1 h2=>by have:=(gS.1 h2).1;have:=HN.out;omega⟩⟩
 obtain⟨lo,hi,rfl,rfl,hlh,hin,hg,G1,X1,I⟩:=hrel;obtain⟨x0,x1,x2⟩:=X1.c3
 by_cases hlt:lo<hi
 ·obtain⟨q,HQ⟩:∃q,Xp (ca[(lo+hi) / 2]? =Xa q):=⟨_,gE (by have:=HN.out;omega)⟩
  obtain⟨ad,rfl,hl⟩:=HR.out _ q HQ.out;obtain⟨d0,d1,d2⟩:=hl wr G1.out;have hc:=hcl q;have hmid:(lo+hi) / 2<n:=by omega
  obtain⟨q0,q1,q2⟩:=q;simp only at hc d0 d1 d2;obtain⟨Z,HZ⟩:=kA (zk9 ⟨q0,q1,q2⟩ ⟨t0,t1,t2⟩);rw[HZ.out]at hc;have HZI:Xp (Z<0↔qm ⟨q0,q1,q2⟩<KT):=dD<|by rw[<-HZ.out];exact(HC _ (mG HQ)).1
  obtain⟨md,HMD⟩:=kA ((lo+hi) / 2);rw[HMD.out]at d0 d1 d2 hmid HQ;have HCE:Xp (∀W,zc wr W->zg6 W (ad.add (md*3)) ⟨q0,q1,q2⟩):=dD<|fun W hW=>by have:=hl W (G1.trans hW);rw[HMD.out]at this;exact this
  clear hl d0 d1 d2 x0 x1 x2;go_upto_region 5 with fail;rw[show((lo:Int)+(hi:Int)) / 2=(md:Int) by have:=HMD.out;omega]
  have hmz:(md:Int)< (n:Int):=by omega
  have hy0:∀y:zn wr,y.world.cell? (ad.add (md*3))=Xa (I6 q0):=fun y=>(HCE _ y.grew).1
  have hy1:∀y:zn wr,y.world.cell? ⟨(ad.add (md*3)).block,(ad.add (md*3)).off+1,Xb⟩=Xa (I6 q1):=fun y=>(HCE _ y.grew).2.1
  have hy2:∀y:zn wr,y.world.cell? ⟨(ad.add (md*3)).block,(ad.add (md*3)).off+2,Xb⟩=Xa (I6 q2):=fun y=>(HCE _ y.grew).2.2
  have hx0:=X1.gw 0 rfl
  have hx1:=X1.gw 1 rfl
  have hx2:=X1.gw 2 rfl
  have hne:Nonempty (zn wr):=⟨⟨_,zc.refl _⟩⟩;refine ji [(6,⟨fun v=>v=I6 Z,fun v w'=>True⟩)] zW (by kernel_rfl) ?hS ?hp ?_
  case hS=>
   intro x hx;simp only[mC,nM,or_false]at hx;subst hx;exact⟨_,rfl⟩
  case hp=>
   intro x hx;simp only[mC,nM,or_false]at hx;subst hx;exact fun _ _ _ _ h=>h
  iterate 6 (refine zd rfl rfl rfl (fun K hK=>?_);go_big_quiet_op;refine hK _ ?_;clear hK)
  refine zE rfl rfl (fun w' hg hF=>?_) (fun v1 hv=>?_)
  ·refine zQ.callF (.tmp 24) [Xi #[I6 q0,I6 q1,I6 q2],Xi #[I6 t0,I6 t1,I6 t2]] rfl rfl func204 rfl rfl rfl ?_;refine(hc w').mono ?_;rintro e w'' ⟨rfl,g2⟩;exact⟨_,rfl,g2,rfl,trivial⟩
  subst hv;simp only[Xt,sB,sS,sZ];iterate 1 (refine zd rfl rfl rfl (fun K hK=>?_);go_big_quiet_op;refine hK _ ?_;clear hK)
  refine z6 fun W2 g2 hF=>?_
  have G2:=dD (G1.trans g2);have X2:=dD (X1.grew g2);clear g2 hc hF hy0 hy1 hy2 hx0 hx1 hx2 hne
  by_cases hyx:Z<0
  ·have HYX:Xp (Z<0):=hyx;go_wp2
   go_roundg (hi -(md+1))
   case measure=>have:=HMD.out;omega
   have I2:Xp ((∀(j:Nat) x,j<md+1->ca[j]? =Xa x->qm x<KT)/\(∀(j:Nat) x,hi<=j->ca[j]? =Xa x->KT<=qm x)):=dD<|⟨fun j x hj hx=>by
    have h1:=HMO.out j _ x _ hx HQ (by omega)
    have h2:=HZI.1 HYX.out
    omega,I.2⟩
   exact⟨md+1,hi,by go_num,rfl,by have:=HMD.out;omega,hin,nR _,G2,X2,I2⟩
  have HYX:Xp (¬Z<0):=hyx;go_wp2
  go_roundg (md - lo)
  case measure=>have:=HMD.out;omega
  have I2:Xp ((∀(j:Nat) x,j<lo->ca[j]? =Xa x->qm x<KT)/\(∀(j:Nat) x,md<=j->ca[j]? =Xa x->KT<=qm x)):=dD<|⟨I.1,fun j x hj hx=>by
   have h1:=HMO.out _ j _ x HQ hx (by omega)
   have h2:¬qm ⟨q0,q1,q2⟩<KT:=fun e=>by have h3:=HZI.2 e;have h4:=HYX.out;omega
   omega⟩
  exact⟨lo,md,rfl,by go_num,by have:=HMD.out;omega,by have:=HMD.out;omega,nR _,G2,X2,I2⟩
 obtain rfl:hi=lo:=by omega
 obtain⟨e1,e2⟩:=HEND.out hi hin I.1 I.2;have E1:Xp (P=hi):=e1;clear e1
 by_cases hn:hi<n
 ·obtain⟨q,HQ⟩:∃q,Xp (ca[hi]? =Xa q):=⟨_,gE (by have:=HN.out;omega)⟩
  obtain⟨ad,rfl,hl⟩:=HR.out _ q HQ.out;obtain⟨d0,d1,d2⟩:=hl wr G1.out;rw[HQ.out]at e2;have hc:=hcl q;obtain⟨q0,q1,q2⟩:=q;simp only at hc d0 d1 d2 e2;obtain⟨Z,HZ⟩:=kA (zk9 ⟨q0,q1,q2⟩ ⟨t0,t1,t2⟩);rw[HZ.out]at hc;have E2:Xp (H=(Z == 0)):=dD<|by
   rw[e2];have:=(HC _ (mG HQ)).2;rw[HZ.out]at this
   by_cases hz:Z=0
   ·rw[decide_eq_true (this.1 hz),hz];rfl
   rw[decide_eq_false (fun e=>hz (this.2 e))];simp[hz]
  have hnz:=kC hn
  have HCE:Xp (∀W,zc wr W->zg6 W (ad.add (hi*3)) ⟨q0,q1,q2⟩):=dD<|fun W hW=>hl W (G1.trans hW)
  clear hl e2 d0 d1 d2 x0 x1 x2;go_upto_region 8 with fail;have hy0:∀y:zn wr,y.world.cell? (ad.add (hi*3))=Xa (I6 q0):=fun y=>(HCE _ y.grew).1
  have hy1:∀y:zn wr,y.world.cell? ⟨(ad.add (hi*3)).block,(ad.add (hi*3)).off+1,Xb⟩=Xa (I6 q1):=fun y=>(HCE _ y.grew).2.1
  have hy2:∀y:zn wr,y.world.cell? ⟨(ad.add (hi*3)).block,(ad.add (hi*3)).off+2,Xb⟩=Xa (I6 q2):=fun y=>(HCE _ y.grew).2.2
  have hx0:=X1.gw 0 rfl
  have hx1:=X1.gw 1 rfl
  have hx2:=X1.gw 2 rfl
  have hne:Nonempty (zn wr):=⟨⟨_,zc.refl _⟩⟩;refine ji [(11,⟨fun v=>v=I6 Z,fun v w'=>True⟩)] zW (by kernel_rfl) ?hS ?hp ?_
  case hS=>
   intro x hx;simp only[mC,nM,or_false]at hx;subst hx;exact⟨_,rfl⟩
  case hp=>
   intro x hx;simp only[mC,nM,or_false]at hx;subst hx;exact fun _ _ _ _ h=>h
  iterate 11 (refine zd rfl rfl rfl (fun K hK=>?_);go_big_quiet_op;refine hK _ ?_;clear hK)
  refine zE rfl rfl (fun w' hg hF=>?_) (fun v1 hv=>?_)
  ·refine zQ.callF (.tmp 40) [Xi #[I6 q0,I6 q1,I6 q2],Xi #[I6 t0,I6 t1,I6 t2]] rfl rfl func204 rfl rfl rfl ?_;refine(hc w').mono ?_;rintro e w'' ⟨rfl,g2⟩;exact⟨_,rfl,g2,rfl,trivial⟩
  subst hv;simp only[Xt,sB,sS,sZ];iterate 4 (refine zd rfl rfl rfl (fun K hK=>?_);go_big_quiet_op;refine hK _ ?_;clear hK)
  refine z6 fun W2 g2 hF=>?_
  have G2:=dD (G1.trans g2);clear g2 hc hF hy0 hy1 hy2 hx0 hx1 hx2 hne;go_wp2
  go_ret2
  exact⟨by rw[E1.out,E2.out];rfl,G2⟩
 have hnz:=kD hn
 have E2:Xp (H=Xd):=dD<|by
  rw[e2,gN (by have:=HN.out;omega)]
 clear e2 x0 x1 x2;go_upto_region 8 with fail;have hne:Nonempty (zn wr):=⟨⟨_,zc.refl _⟩⟩;refine ji [] zW (by kernel_rfl) (by simp) (by simp) ?_
 iterate 5 (refine zd rfl rfl rfl (fun K hK=>?_);go_big_quiet_op;refine hK _ ?_;clear hK)
 iterate 8 (refine qa (by kernel_rfl) ?_;simp only[Xt,sB,sS,sZ])
 iterate 3 (refine zd rfl rfl rfl (fun K hK=>?_);go_big_quiet_op;refine hK _ ?_;clear hK)
 refine z6 fun W2 g2 hF=>?_
 have G2:=dD (G1.trans g2);clear g2 hF hne;go_wp2
 go_ret2
 exact⟨by rw[E1.out,E2.out];rfl,G2⟩
theorem zgI {w:Xo} {p:Nat} (h:ChW w0 p w V m) (hs:m.ca.Pairwise fun a b=>qm a<qm b) (hi:∀c∈m.ca,0<=c.idx/\c.idx<100) (h60:m.ca.length<=1000) (file idx:Int) (ht:0<=idx/\idx<100):
  Xq prog 174 #[Xj (Xa ⟨p,0,Xb⟩),I6 file,I6 idx] w fun e w'=>e= Xl (Xm #[I6 (zmE m.ca ⟨file,idx,0⟩:Int),Xh (zj5 m.ca ⟨file,idx,0⟩)])/\zc w w':=by
 have hb:=zgV _ m.ca ⟨file,idx,0⟩ w h.at.ca hs hi ht h60;simp only at hb;have x9:=h.box.box.c 9 rfl;obtain⟨P,HP⟩:=kA (zmE m.ca ⟨file,idx,0⟩);obtain⟨H,HH⟩:=kA (zj5 m.ca ⟨file,idx,0⟩);rw[HP.out,HH.out]at hb⊢;clear h hs hi h60 ht
 go_enter func174,ntmps174
 go_wp2_with fail;refine hb.mono ?_;clear hb;rintro e W2 ⟨rfl,g2⟩;have G2:Xp (zc w W2):=g2;clear g2;go_wp2
 go_ret2
 exact⟨rfl,G2⟩
theorem zb.block {α:Type} {E:Elt α} {base:Nat} {w:Xo} {g n cap:Nat} {l:List α} (h:zb E base w (O (Xa ⟨g,0,Xb⟩) n cap) l):
  n=l.length/\base<=g/\l.length<=cap/\cap<=maxLen/\∃cur,w.heap[g]? =Xa (Xk cur E.ty (0,0))/\cur.size=cap*E.k/\cur.toList.take (l.length*E.k)=l.flatMap E.enc:=by
 rcases h.1.2 with⟨h0,_⟩|⟨g',cap',cur,h0,h1,h2,h3,h4,h5,h6⟩
 ·cases h0
 cases h0;exact⟨rfl,h1,h3,h4,cur,h2,h5,h6⟩
theorem zb.mk' {α:Type} {E:Elt α} {base:Nat} {w:Xo} {g cap:Nat} {l:List α} {cur:Array Xr} (hb:base<=g) (hh:w.heap[g]? =Xa (Xk cur E.ty (0,0))) (hn:l.length<=cap) (hm:cap<=maxLen) (hs:cur.size=cap*E.k) (ht:cur.toList.take (l.length*E.k)=l.flatMap E.enc)
  (hbytes:l.length*E.bytes<=140737488355328):zb E base w (O (Xa ⟨g,0,Xb⟩) l.length cap) l:=
 ⟨⟨js E l,.inr ⟨g,cap,cur,rfl,hb,hh,hn,hm,hs,ht⟩⟩,hbytes⟩
theorem zbq {α:Type} {E:Elt α} {w:Xo} {rest:List Oper} {a:Act} (hgd:o.guard=Xb) (s x:Operand) (ho:o.op= .call { callee:= .builtin .append,args:=#[s,x],argTypes:=#[E.st,E.st] })
  (base g cap n:Nat) (l:List α) (hown:zb E base w (O (Xa ⟨g,0,Xb⟩) n cap) l) (i:Nat) (hi:i<=l.length) (hs:a.eval s= O (Xa ⟨g,0,Xb⟩) i cap) (ad:Addr) (l2:List α) (n2 c':Nat) (hx:a.eval x= O (Xa ad) n2 c') (hn2:n2=l2.length)
  (hcells:∀j u,(l2.flatMap E.enc)[j]? =Xa u->w.cell? (ad.add j)=Xa u) (hroom:i+l2.length<=cap) (hbytes:(i+l2.length)*E.bytes<=140737488355328)
  (h:∀w',zb E base w' (O (Xa ⟨g,0,Xb⟩) (i+n2) cap) (l.take i++l2)->w.grownBy w' (Xa g)->w'.heap.size=w.heap.size->wpList prog ops Q rest (a.put o.dst (O (Xa ⟨g,0,Xb⟩) (i+n2) cap)) w'):wpList prog ops Q (o :: rest) a w:=by
 subst hn2;refine wpList_plain hgd fun K hK=>?_
 obtain⟨hn,hb,hnc,hm,cur,hh,hsz,ht⟩:=hown.block;obtain⟨i0,hinf,hz0,hz1,hz2⟩:=info_parts E.info;have hl:(l2.flatMap E.enc).length=l2.length*E.k:=js E l2;have hmul:(i+l2.length)*E.k<=cap*E.k:=Yk _ hroom;rw[Nat.add_mul]at hmul;have hrun:=run_append_room (P:=prog) w E.st o.type E.ty i0 E.und hinf g i cap cur hh ad l2.length c' (l2.flatMap E.enc) (by rw[hz1];exact hl) hcells (qT E.one l2) hroom (by rw[hl,hz1,hsz];exact hmul)
 rw[hz1]at hrun;unfold Oper.wp execOp;simp only[ho,resolve,invoke,builtin,Of,Sem.run_pure,rA,List.map_toArray,mP,Og,hs,hx,hrun];have hlen:(l.take i++l2).length=i+l2.length:=by rw[lA,Xw];omega
 have hcl:cur.toList.length=cap*E.k:=by simpa using hsz
 have hik:i*E.k<=l.length*E.k:=Yk _ hi;have hlk:l.length*E.k<=cap*E.k:=Yk _ hnc;have htk:cur.toList.take (i*E.k)=(l.take i).flatMap E.enc:=by
  have h1:(cur.toList.take (l.length*E.k)).take (i*E.k)=cur.toList.take (i*E.k):=by rw[List.take_take,Nat.min_eq_left hik]
  rw[<-h1,ht]
  conv=>lhs;rw[<-Yy i l,Yo]
  exact Yw (by rw[js,Xw,Nat.min_eq_left hi])
 have hti:(cur.toList.take (i*E.k)).length=i*E.k:=by rw[Xw,hcl];omega
 have fin:=zb.mk' (E:=E) (base:=base) (w:=w.setRow g (cur.toList.take (i*E.k)++l2.flatMap E.enc++cur.toList.drop (i*E.k+(l2.flatMap E.enc).length)).toArray) (g:=g) (cap:=cap) (l:=l.take i++l2) hb (setRow_heap w g cur _ E.ty _ hh) (by rw[hlen];exact hroom) hm (by
  simp only[Oh,lA,hti,hl,Yu,hcl]
  omega) (by
  rw[hlen,Yo,<-htk,Nat.add_mul];have:(cur.toList.take (i*E.k)++l2.flatMap E.enc).length=i*E.k+l2.length*E.k:=by rw[lA,hti,hl]
  simp only;rw[Yw this]) (by rw[hlen];exact hbytes)
 rw[hlen]at fin;exact hK _ _ (h _ fin (Zj _ _ _) (by simp[World.setRow]))
theorem zey (n:Nat):∀u∈(Builtin.zeroCells #[I6 0,I6 0,I6 0] n).toList,u.oneCell'=Xc:=fun u hu=>by
 simp only[Builtin.zeroCells,Array.toList_map,Yv,Array.toList_range,Xz]at hu;obtain⟨i,_,rfl⟩:=hu;have h9:i % 3<3:=Yi _ (by decide)
 show(#[I6 0,I6 0,I6 0]:Array Xr)[i % 3]!.oneCell'=Xc
 generalize i % 3=k at h9
 match k,h9 with
 | 0,_=>rfl
 | 1,_=>rfl
 | 2,_=>rfl
theorem zbS {w:Xo} {rest:List Oper} {a:Act} (hgd:o.guard=Xb) (x:Operand) (ho:o.op= .call { callee:= .builtin .clear,args:=#[x],argTypes:=#[38] })
  (base g cap n:Nat) (l:List Ca) (hown:zb qJ base w (O (Xa ⟨g,0,Xb⟩) n cap) l) (k c':Nat) (hx:a.eval x= O (Xa ⟨g,l.length*3,Xb⟩) (k+1) c') (hk:l.length+(k+1)<=cap)
  (h:∀w',zb qJ base w' (O (Xa ⟨g,0,Xb⟩) n cap) l->w.grownBy w' (Xa g)->w'.heap.size=w.heap.size->wpList prog ops Q rest (a.put o.dst (Xm #[])) w'):wpList prog ops Q (o :: rest) a w:=by
 refine wpList_plain hgd fun K hK=>?_
 obtain⟨hn,hb,hnc,hm,cur,hh,hsz,ht⟩:=hown.block;have hk3:qJ.k=3:=rfl;rw[hk3]at hsz ht;obtain⟨Z,hZ⟩:=kB ((Builtin.zeroCells #[I6 0,I6 0,I6 0] (k+1)).toList);have hzl:Z.length=(k+1)*3:=by
  rw[<-hZ,Array.length_toList,size_zeroCells];rfl
 have hone:∀u∈Z,u.oneCell'=Xc:=by rw[<-hZ];exact zey _
 have hst:=run_storeCells_at prog g (l.length*3) 120 Z 0 cur w hh (by rw[hzl,hsz];omega) hone
 simp only[Yg]at hst;have hrun:(Builtin.clear_ #[38] o.type #[O (Xa ⟨g,l.length*3,Xb⟩) (k+1) c']).run prog w= .ok (Xm #[]) (w.setRow g (cur.toList.take (l.length*3)++Z++cur.toList.drop (l.length*3+Z.length)).toArray):=by
  simp only[Builtin.clear_]
  simp[run_underlying underlying38,Tryz.zeroValue120,Value.cells,hZ,hst]
 unfold Oper.wp execOp;simp only[ho,resolve,invoke,builtin,Of,Sem.run_pure,rA,List.map_toArray,mP,Og,hx,hrun];subst hn;have hcl:cur.toList.length=cap*3:=by simpa using hsz
 refine hK _ _ (h _ (zb.mk' hb (setRow_heap w g cur _ 120 _ hh) hnc hm ?_ ?_ hown.2) (Zj _ _ _) (by simp[World.setRow]))
 ·rw[hk3];simp only[Oh,lA,Xw,Yu,hzl,hcl];omega
 rw[hk3,Yr,Yw (by rw[Xw,hcl];omega)]
 exact ht
theorem ziH {α:Type} (l:List α) (i:Nat):l.take i++l.drop (i+1)=l.eraseIdx i:=(List.eraseIdx_eq_take_drop_succ ..).symm
theorem zfC (base g cap i:Nat) (l:List Ca) (w:Xo) (hown:zb qJ base w (O (Xa ⟨g,0,Xb⟩) l.length cap) l) (hi:i<l.length) (h1000:l.length<=1000):
  Xq prog 224 #[O (Xa ⟨g,0,Xb⟩) l.length cap,I6 i,I6 ((i:Int)+1)] w fun e w'=>e= Xl (O (Xa ⟨g,0,Xb⟩) (l.length - 1) cap)/\zb qJ base w' (O (Xa ⟨g,0,Xb⟩) (l.length - 1) cap) (l.eraseIdx i)/\w.grownBy w' (Xa g):=by
 obtain⟨_,_,hcap,hmax,_⟩:=hown.block;have hmax':cap<=9223372036854775807:=by simpa [maxLen]using hmax
 have HO:Xp (zb qJ base w (O (Xa ⟨g,0,Xb⟩) l.length cap) l):=hown;have HER:Xp (l.take i++l.drop (i+1)=l.eraseIdx i):=ziH l i;have HDL:Xp ((l.drop (i+1)).length=l.length -(i+1)):=show _=_ from Yu
 obtain⟨n,HN⟩:=kA l.length;rw[HN.out]at hcap hi h1000 HO HDL⊢;clear hown hmax;obtain⟨q,HQ⟩:∃q,Xp (n=q+1):=⟨n - 1,show _=_ by omega⟩
 have hz1:(i:Int)+1<=(n:Int):=by omega
 have hz2:(n:Int)<=(cap:Int):=by omega
 have hz3:¬((i:Int)=(i:Int)+1):=by omega
 have hz4:((i:Int) ==(i:Int)+1)=Xd:=by simpa using hz3
 have hz5:(i:Int)<=(i:Int)+1:=by omega
 have hz6:(i:Int)<=(cap:Int):=by omega
 have ht1:((i:Int)+1).toNat=i+1:=by omega
 go_enter func224,ntmps224
 go_upto_region 5 with fail;have hne:Nonempty (zn w):=⟨⟨_,zc.refl _⟩⟩;refine qR 6 [] zW (by kernel_rfl) rfl rfl (by decide) (by simp) (by simp) ?_
 simp only[Ys,Yt];iterate 6 (refine zd rfl rfl rfl (fun K hK=>?_);go_big_quiet_op;refine hK _ ?_;clear hK)
 refine z6 fun w' hg _=>?_
 obtain⟨ad,hadE,HAD⟩:∃ad:Addr,(if cap=i+1 then Xa (⟨g,0,Xb⟩:Addr)else Xa ⟨g,(i+1)*3,Xb⟩)=Xa ad/\Xp (¬cap=i+1->ad=⟨g,(i+1)*3,Xb⟩):=by
  by_cases e:cap=i+1
  ·exact⟨_,kE e,show _->_ from fun h=>absurd e h⟩
  exact⟨_,kF e,show _->_ from fun _=>rfl⟩
 rw[hadE];have HO':=dD (HO.grew hg);have HG:Xp (zc w w'):=hg;have HCL:Xp (∀j u,((l.drop (i+1)).flatMap qJ.enc)[j]? =Xa u->w'.cell? (ad.add j)=Xa u):=show∀j u,_ from fun j u hj=>by
  by_cases e:cap=i+1
  ·rw[List.drop_of_length_le (by have:=HN.out;omega)]at hj
   cases hj
  rw[HAD.out e,Ya];have h1:(l.flatMap qJ.enc)[(i+1)*3+j]? =Xa u:=by
   conv=>lhs;rw[<-Yy (i+1) l,Yo]
   rw[aR (by rw[js,Xw];show _*3<=_;have:=HN.out;omega),js,Xw,show min (i+1) l.length=i+1 by have:=HN.out;omega]
   show((l.drop (i+1)).flatMap qJ.enc)[(i+1)*3+j -(i+1)*3]? =_
   rw[Nat.add_sub_cancel_left];exact hj
  have:=HO'.1.cells rfl _ u h1;rw[Ya,zA]at this;exact this
 clear hg hne hadE;have hb1:i+(n -(i+1))=q:=by have:=HQ.out;omega
 have HQC:Xp (i+(l.drop (i+1)).length<=cap/\(i+(l.drop (i+1)).length)*24<=140737488355328):=dD<|by rw[HDL.out];omega
 have HEL:Xp ((l.eraseIdx i).length=q):=dD<|by rw[<-HER.out,lA,HDL.out,Xw];have:=HN.out;have:=HQ.out;omega
 go_wp2_with (refine zbq (E:=qJ) rfl (.tmp 22) (.tmp 25) rfl base g cap n l HO' i (by have:=HN.out;omega) rfl ad (l.drop (i+1)) (n -(i+1)) (cap -(i+1)) rfl HDL.symm HCL HQC.1 HQC.2 ?_)
 intro w2 ow2 gr2 _;rw[HER.out]at ow2;have O2:Xp (zb qJ base w2 (O (Xa ⟨g,0,Xb⟩) q cap) (l.eraseIdx i)):=ow2;have G2:Xp (w'.grownBy w2 (Xa g)):=gr2;clear ow2 gr2 hb1 ht1 hz3 hz4 hz5;have hn1:¬cap=q:=by have:=HQ.out;omega
 have hn2:(q:Int)<=(n:Int):=by have:=HQ.out;omega
 have hn3:n - q=0+1:=by have:=HQ.out;omega
 try simp only[Xt,sB,sS,sZ]
 go_wp2_with (refine zbS rfl (.tmp 31) rfl base g cap q (l.eraseIdx i) O2 0 (cap - q) (by rw[HEL.out];rfl) (by rw[HEL.out];have:=HQ.out;omega) ?_)
 intro w3 ow3 gr3 _;have O3:Xp (zb qJ base w3 (O (Xa ⟨g,0,Xb⟩) q cap) (l.eraseIdx i)):=ow3;have G3:Xp (w.grownBy w3 (Xa g)):=show World.grownBy _ _ _ from zco HG (jE G2 gr3)
 have HQ1:Xp (n - 1=q):=dD<|by have:=HQ.out;omega
 clear ow3 gr3;go_wp2;go_ret;exact⟨by rw[HQ1.out];rfl,by rw[HQ1.out];exact O3,G3⟩
theorem Rt.cache (h:Rt m):(m.ca.Pairwise fun a b=>qm a<qm b)/\(∀c∈m.ca,0<=c.idx/\c.idx<100)/\m.ca.length<=1000:=by
 obtain⟨a1,a2,a3⟩:=zL.1 h.inv.ca;have key:∀c∈m.ca,0<=c.idx/\c.idx<100/\0<=qm c/\qm c<1000:=fun c hc=>by
  obtain⟨k,fi,ix,f,F,hi⟩:=zkR h.w hc;have h1:=(gS.1 hi.fl).1;have h2:=((qi _ _).1 h.inv.st).1;have h3:=hi.idx;have h4:=hi.file;have h5:=hi.lo;unfold qm;omega
 refine⟨a3,fun c hc=>⟨(key c hc).1,(key c hc).2.1⟩,?_⟩
 have:=zda (m.ca.map qm) 0 1000 (by rw[List.pairwise_map];exact a3) (fun x hx=>by
  obtain⟨c,hc,rfl⟩:=Yv.1 hx;exact(key c hc).2.2)
 rw[Yc]at this;omega
theorem zlp (h:Rt m) {i:Nat} {c:Ca} (hc:m.ca[i]? =Xa c):zmE m.ca ⟨c.file,c.idx,0⟩=i/\zj5 m.ca ⟨c.file,c.idx,0⟩=Xc:=by
 obtain⟨s1,_,_⟩:=h.cache;obtain⟨hl,he⟩:=gS.1 hc;have hk:qm ⟨c.file,c.idx,0⟩=qm c:=rfl;refine⟨zgq (Nat.le_of_lt hl) (fun j d hj hd=>?_) (fun d hd=>?_),?_⟩
 ·obtain⟨hjl,hje⟩:=gS.1 hd;have:=Ye.1 s1 j i hjl hl hj;rw[hje,he]at this;rw[hk];exact this
 ·rw[hc]at hd;cases hd;rw[hk];omega
 unfold zj5;exact Xv.2 ⟨c,mG hc,decide_eq_true rfl⟩
theorem zfE {w:Xo} {p:Nat} (h:ChW w0 p w V m) (hR:Rt m) (k:Nat) (f:Fr) (hk:m.fs[k]? =Xa f) (hf:f.f≠-1) (hr:f.r≠0):
  Xq prog 198 #[Xj (Xa ⟨p,0,Xb⟩),I6 (k:Int)] w fun e w'=>(∃v,e= Xl v)/\Chg w0 p w V (jI m k) w':=by
 obtain⟨i,c,fi,ix,F,hci,hCI⟩:=zem hR hk hf;obtain⟨s1,s2,s3⟩:=hR.cache;obtain⟨q1,q2⟩:=zlp hR hci;rw[hCI.file,hCI.idx]at q1 q2;have hil:=(gS.1 hci).1;have hix:ix<=12:=hCI.lo;have HER:Xp (m.ca.eraseIdx i=m.ca.filter fun d=>!decide (d.fr=(k:Int))):=zgT hR hk hci hCI.fr
 obtain⟨r0,r1,hh⟩:=zaA hR hk hr;have HPL:Xp (∀W,zc w W->Xq prog 174 #[Xj (Xa ⟨p,0,Xb⟩),I6 (fi:Int),I6 (ix:Int)] W fun e w'=>e= Xl (Xm #[I6 (i:Int),Xh Xc])/\zc W w'):=dD<|fun W hW=>by
  have:=zgI (h.grew hW) s1 s2 s3 (fi:Int) (ix:Int) (by omega)
  rw[q1,q2]at this;exact this
 have HTF:Xp (jI m k=JQ { m with ca:=m.ca.eraseIdx i } k f.r ⟨0,0,Xd⟩):=dD<|by
  rw[show(⟨0,0,Xd⟩:En)=en0 from rfl,zhr (m:={ m with ca:=m.ca.eraseIdx i }) hR rfl rfl rfl hk hr zkC]
  unfold jI;rw[HER.out]
 have HLV:Xp (∀w1 V1,ChW w0 p w1 V1 { m with ca:=m.ca.eraseIdx i }->Xq prog 196 #[Xj (Xa ⟨p,0,Xb⟩),I6 (k:Int),Xi #[I6 0,I6 0,Xh Xd]] w1 fun e w'=>(∃v,e= Xl v)/\Chg w0 p w1 V1 (jI m k) w'):=dD<|fun w1 V1 h1=>by
  rw[HTF.out];exact zcC h1 k f hk ⟨0,0,Xd⟩ hR.inv.spl ⟨r0,r1⟩ hh
 have HM:Xp (ChW w0 p w V m):=h;have hpl:¬Dw p V w.heap.size:=fun e=>absurd (h.dlt _ e) (by omega)
 obtain⟨n1,-⟩:=h.at.ns;obtain⟨ad,ha,hl⟩:=h.at.frs k f hk;have HFA:Xp (V.f.a=Xa ad):=ha;have HFC:Xp (∀W,zc w W->ZQ W (ad.add (k*13)) f):=show∀W,_ from hl
 have hlt:(k:Int)< (V.f.n:Int):=by
  have:=(gS.1 hk).1;omega
 have hff:=hCI.ff;have hfx:=hCI.fx;have HIL:Xp (i<m.ca.length):=hil;have H1000:Xp (m.ca.length<=1000):=s3;obtain⟨⟨b0,b1,b2,b3,b4,b5,b6,b7⟩,fr,fu,fd,ff,fx⟩:=f;dsimp only at hff hfx;subst hff;subst hfx;obtain⟨N,HN⟩:=kA (jI m k);rw[HN.out]at HLV HTF⊢;clear h hR hk hf hr hci hCI s1 s2 s3 q1 q2 hil hix r0 r1 hh ha hl n1;have x0:=HM.box.box.c 0 rfl;simp only[Sli.x]at x0;rw[HFA.out]at x0;obtain⟨d0,d1,d2,d3,d4,d5,d6,d7,d8,d9,d10,d11,d12⟩:=HFC.out w (zc.refl _);dsimp only at d0 d1 d2 d3 d4 d5 d6 d7 d8 d9 d10 d11 d12
 go_enter func198,ntmps198
 go_upto_region 1 with fail;clear d0 d1 d2 d3 d4 d5 d6 d7 d8 d9 d10 d11 d12 x0;obtain⟨b,HB⟩:=kA w.heap.size;obtain⟨W1,hW1⟩:=kB (w.alloc (Xk #[U8 b0,U8 b1,U8 b2,U8 b3,U8 b4,U8 b5,U8 b6,U8 b7,I6 fr,Xh fu,Xh fd,I6 (fi:Int),I6 (ix:Int)] 53));have G1:=gA hW1
 have Y1:=xPT hW1 HB
 rw[hW1,HB.out];rw[HB.out]at hpl;clear hW1;have y11:=Y1.box.c 11 rfl;have y12:=Y1.box.c 12 rfl;have hpc:=HPL.out W1 G1.out;go_wp2_with fail;refine hpc.mono ?_;clear hpc y11 y12;rintro e W2 ⟨rfl,g2⟩;have G2:=dD (G1.trans g2);clear g2;have M2:=dD (HM.grew G2);obtain⟨g,cc,heq⟩:=M2.ca.formS (by have:=HIL.out;omega)
 have hdl:=zfC w0.heap.size g cc i m.ca W2 (by rw[<-heq];exact M2.ca) HIL H1000.out
 have x9:=M2.box.box.c 9 rfl;rw[heq]at x9;have HEQ:Xp (V.ca.x= O (Xa ⟨g,0,Xb⟩) m.ca.length cc):=heq;clear heq;obtain⟨cn,HCN⟩:=kA m.ca.length;rw[HCN.out]at hdl x9;have hin:i<1000:=by have:=HIL.out;have:=H1000.out;omega
 go_wp2_with fail;refine hdl.mono ?_;clear hdl x9;rintro e W3 ⟨rfl,ow3,gr3⟩;have hpg:p≠g:=M2.nc g (by have h0:=HEQ.out;simp only[Sli.x]at h0;unfold oB;(try simp only[Sli.x]);rw[h0];rfl)
 have B3:Xp (zt W3 p 114 (chL V m)):=M2.box.beside gr3 (fun k e=>by cases e;exact hpg)
 have O3:Xp (zb qJ w0.heap.size W3 (O (Xa ⟨g,0,Xb⟩) (cn - 1) cc) (m.ca.eraseIdx i)):=ow3;have GR3:Xp (W2.grownBy W3 (Xa g)):=gr3;clear ow3 gr3
 go_upto_region 3 with(refine ZF rfl 38 (.tmp 37) (.tmp 34) rfl p 9 rfl (O (Xa ⟨g,0,Xb⟩) (cn - 1) cc) rfl [O (Xa ⟨g,0,Xb⟩) (cn - 1) cc] rfl B3 (by simp[chL]) (by kernel_rfl) (by simp[Value.oneCell']) ?_)
 intro W4 bx4 gr4 _;have hch:Chg w0 p W2 V { m with ca:=m.ca.eraseIdx i } W4:=by
  refine M2.cache (w1:=W3) (b:=⟨Xa ⟨g,0,Xb⟩,cn - 1,cc⟩) (qW.grown GR3 (by have h0:=HEQ.out;simp only[Sli.x]at h0;unfold oB;(try simp only[Sli.x]);rw[h0];rfl)) (fun z hz=>?_) O3 gr4 bx4
  unfold oB at hz;cases hz;exact .inl (by have h0:=HEQ.out;simp only[Sli.x]at h0;unfold oB;(try simp only[Sli.x]);rw[h0];rfl)
 have HCH:=Chg.of_grew G2 hch;obtain⟨V4,c4,o4,d4⟩:=HCH;have M4:Xp (ChW w0 p W4 V4 { m with ca:=m.ca.eraseIdx i }):=c4;have O4:Xp (qW (Dw p V) w W4):=o4;have D4:Xp (∀k,Dw p V4 k->Dw p V k\/w.heap.size<=k):=d4;have hlv:=HLV.out W4 V4 c4;clear hch c4 o4 d4 bx4 gr4;try simp only[Xt]
 go_wp2_with fail;refine hlv.mono ?_;clear hlv;rintro e W6 ⟨⟨v6,rfl⟩,h6⟩;have M6:Xp (Chg w0 p w V N W6):=dD<|Chg.step O4 D4 h6
 clear h6;go_wp2
 (first | go_end0 | ((try simp only[Exit.inBlock,Exit.then]);refine bodyPost_ret (results_none rfl _ _ _) rfl ?_))
 first | exact M6.out | exact⟨⟨_,rfl⟩,M6⟩
section
variable{w0 w w1 w2:Xo} {p:Nat} {V:MaV} {m:Ma}
theorem ChW.setSw (h:ChW w0 p w V m) {d q:Sli} {sb:List (List Int)} {sq:List (Int × List Int)} (g1:zc w w1) (hB:w.heap.size<=B) (nr:qg B w1 (Xi #[d.x,q.x]) sb sq) (g2:w1.grownBy w2 (Xa p)) (bx:zt w2 p 114 (chL { V with sb:=d,sq:=q } { m with sb:=sb,sq:=sq })):Chg w0 p w V { m with sb:=sb,sq:=sq } w2:=
 h.field (V':={ V with sb:=d,sq:=q }) (m':={ m with sb:=sb,sq:=sq }) g1 g2 rfl rfl rfl rfl rfl rfl bx (fun W _ o r=>by
  have k:=(nr.staysD (fun k hk=>by have:=h.drt k hk;omega) o).rows
  exact⟨r.sl,k.1,k.2,r.db,r.dq,r.fl⟩)
end
theorem zjq (h:Rt m) {k:Nat} {f:Fr} (hk:m.fs[k]? =Xa f) (hr:f.r≠0):(zal m<m.sl.length->jT m.sl f.r=0/\Zy m.sl f.r=m.sl.set (zal m) f.r/\zbb m.sl f.r=(zal m:Int))/\(¬zal m<m.sl.length->jT m.sl f.r=10):=by
 obtain⟨r0,r1,_⟩:=zaA h hk hr;have hs:=h.parts.2
 rcases zbT m.sl f.r with⟨hw,_⟩|⟨_,hm,_⟩|⟨_,_,hi,e1,_⟩|⟨_,_,hi,e1,e2,e3⟩
 ·exact absurd hs hw
 ·exact absurd ⟨by omega,r1⟩ hm
 ·exact⟨fun h=>absurd h hi,fun _=>e1⟩
 exact⟨fun _=>⟨e1,e2,e3⟩,fun h=>absurd hi h⟩
theorem ziK {w:Xo} {p:Nat} (h:ChW w0 p w V m) (hR:Rt m) (k:Nat) (f:Fr) (hk:m.fs[k]? =Xa f) (hr:f.r≠0):
  Xq prog 164 #[Xj (Xa ⟨p,0,Xb⟩),I6 (k:Int)] w fun e w'=>e= Xl (Xh (zaP m k f).1)/\Chg w0 p w V (zaP m k f).2 w':=by
 obtain⟨t1,t2⟩:=zjq hR hk hr;obtain⟨r0,r1,hh⟩:=zaA hR hk hr;have h60:=hR.inv.sl60;have hsbl:=hR.inv.sbl;obtain⟨TE,HTE⟩:=kA (jT m.sl f.r);obtain⟨TI,HTI⟩:=kA (zbb m.sl f.r);have HTK:Xp (∀W,zc w W->Xq prog 194 #[V.s.x,I6 f.r] W fun e w'=>∃s:Sli,e= Xl (Xm #[s.x,I6 TI,I6 TE])/\jy slE W.heap.size w' (s.x) (Zy m.sl f.r)/\zc W w'):=dD<|fun W hW=>by
  obtain⟨-,n2,-⟩:=h.at.ns;have kk:=(h.at.grew hW).sl;(try simp only[Sli.x]at kk);(try simp only[Sli.x]);rw[n2]at kk⊢;rw[<-HTE.out,<-HTI.out];refine(zjr V.s.a V.s.c m.sl f.r W kk).mono ?_;rintro e w' ⟨a,c,rfl,nr,g⟩;exact⟨⟨a,_,c⟩,rfl,nr,g⟩
 have HNO:Xp (TE≠0->zaP m k f=(Xd,m)):=dD<|fun e=>by
  unfold zaP;rw[kF (fun hl=>e (HTE.symm.trans (t1 hl).1))]
 have hyes:TE=0->zal m<m.sl.length:=fun e=>Classical.byContradiction fun hn=>by
  have:=t2 hn;rw[HTE.out,e]at this;cases this
 have HYES:Xp (TE=0->(zaP m k f).1=Xc/\∃j:Nat,TI=(j:Int)/\j<=60/\zo m.sb.length m.sq (j:Int)=0/\(zaP m k f).2=JQ {({ m with sl:=Zy m.sl f.r }:Ma)with sb:=qZ m.sb m.sq (j:Int),sq:=jb m.sb m.sq (j:Int) (pgL f.p) } k f.r ⟨2,(j:Int),Xd⟩):=dD<|fun e=>by
  have hl:=hyes e;obtain⟨e1,e2,e3⟩:=t1 hl;have hwa:zo m.sb.length m.sq ((zal m:Nat):Int)=0:=by
   unfold zo;rw[kE hR.inv.sq,kE (by simp[jo];omega)]
  have he:enW ⟨2,(zal m:Int),Xd⟩=0:=zbg (by simp) ⟨by simp,by simp only;omega,fun h=>by simp at h⟩ (by simp)
  unfold zaP;rw[kE hl];refine⟨rfl,zal m,HTI.symm.trans e3,by omega,hwa,?_⟩
  rw[zhr (m:={({ m with sl:=Zy m.sl f.r }:Ma)with sb:=qZ m.sb m.sq (zal m:Int),sq:=jb m.sb m.sq (zal m:Int) (pgL f.p) }) hR rfl rfl rfl hk hr he];simp only;unfold zmC qZ jb;rw[kE hwa,kE hwa,e2]
 have HLV:Xp (∀(w1:Xo) V1 (j:Nat) sl sb sq,ChW w0 p w1 V1 {({ m with sl:=sl }:Ma)with sb:=sb,sq:=sq }->Xq prog 196 #[Xj (Xa ⟨p,0,Xb⟩),I6 (k:Int),Xi #[I6 2,I6 (j:Int),Xh Xd]] w1 fun e w'=>(∃v,e= Xl v)/\Chg w0 p w1 V1 (JQ {({ m with sl:=sl }:Ma)with sb:=sb,sq:=sq } k f.r ⟨2,(j:Int),Xd⟩) w'):=dD<|fun w1 V1 j sl sb sq h1=>zcC h1 k f hk ⟨2,(j:Int),Xd⟩ hR.inv.spl ⟨r0,r1⟩ hh
 have HM:Xp (ChW w0 p w V m):=h;have hpl:p<w.heap.size:=h.dlt p (.inl rfl);obtain⟨n1,-⟩:=h.at.ns;obtain⟨ad,ha,hl⟩:=h.at.frs k f hk;have HFA:Xp (V.f.a=Xa ad):=ha;have HFC:Xp (∀W,zc w W->ZQ W (ad.add (k*13)) f):=show∀W,_ from hl
 have hlt:(k:Int)< (V.f.n:Int):=by
  have:=(gS.1 hk).1;omega
 obtain⟨SW,HSW⟩:=kA (zaP m k f);rw[HSW.out]at HNO HYES⊢;obtain⟨⟨b0,b1,b2,b3,b4,b5,b6,b7⟩,fr,fu,fd,ff,fx⟩:=f;dsimp only at HTK HYES HLV;clear h hR hk hr t1 t2 r0 r1 hh h60 hsbl hyes ha hl n1;have x0:=HM.box.box.c 0 rfl;simp only[Sli.x]at x0;rw[HFA.out]at x0;obtain⟨d0,d1,d2,d3,d4,d5,d6,d7,d8,d9,d10,d11,d12⟩:=HFC.out w (zc.refl _);dsimp only at d0 d1 d2 d3 d4 d5 d6 d7 d8 d9 d10 d11 d12
 go_enter func164,ntmps164
 go_upto_region 2 with fail;clear d0 d1 d2 d3 d4 d5 d6 d7 d8 d9 d10 d11 d12 x0;obtain⟨b,HB⟩:=kA w.heap.size;obtain⟨W1,hW1⟩:=kB (w.alloc (Xk #[U8 b0,U8 b1,U8 b2,U8 b3,U8 b4,U8 b5,U8 b6,U8 b7,I6 fr,Xh fu,Xh fd,I6 ff,I6 fx] 53));have G1:=gA hW1
 have Y1:=xPT hW1 HB
 rw[hW1,HB.out];rw[HB.out]at hpl;clear hW1;have gd:zc W1 W1.drew:=show Below _ _ _ from(bR _ _).drew
 obtain⟨I,HI⟩:∃I:Xo->Prop,Xp (∀u,I u↔zc W1 u):=⟨fun u=>zc W1 u,fun _=>Iff.rfl⟩
 have hI0:I W1.drew:=(HI _).2 gd;have hF0:zc W1 W1.drew:=gd;have hx2:∀y:zj I,y.world.cell? ⟨p,2,Xb⟩=Xa (V.s.x):=fun y=>(HM.box.box.grew (G1.trans ((HI _).1 y.holds))).c 2 rfl
 have hyr:∀y:zj I,y.world.cell? ⟨b,8,Xb⟩=Xa (I6 fr):=fun y=>(Y1.box.grew ((HI _).1 y.holds)).c 8 rfl
 have hne:Nonempty (zj I):=⟨⟨_,hI0⟩⟩;refine zG (I:=I) 15 [(7,fun v=>∃s:Sli,v= Xm #[s.x,I6 TI,I6 TE])] (fun u=>zc W1 u) hI0 hF0 zW (by kernel_rfl) rfl rfl (by decide) ?hS (by kernel_rfl) ?_
 case hS=>
  intro x hx;simp only[mC,nM,or_false]at hx;subst hx;exact⟨_,zy,rfl⟩
 simp only[Ys,Yt];iterate 1 (refine zg rfl rfl rfl (fun K hK=>?_);go_big_quiet_op;refine hK _ ?_;clear hK)
 refine zI (.tmp 19) ⟨p,0,Xb⟩ rfl rfl rfl rfl ?_;simp only[Xt,sB,sS,sZ];iterate 5 (refine zg rfl rfl rfl (fun K hK=>?_);go_big_quiet_op;refine hK _ ?_;clear hK)
 refine zH rfl rfl (fun v u=>∃(s:Sli) (Wa:Xo),v= Xm #[s.x,I6 TI,I6 TE]/\zc W1 Wa/\zc Wa u/\jy slE Wa.heap.size u (s.x) (Zy m.sl fr)) (fun w' hI' hF'=>?_) (fun v1 hv=>?_)
 ·refine zQ.call [V.s.x,I6 fr] rfl func194 rfl rfl rfl ?_;refine(HTK w' (G1.trans hF')).mono ?_;rintro e w'' ⟨s,rfl,t2,g2⟩;exact⟨_,rfl,(HI _).2 (((HI _).1 hI').trans g2),⟨s,rfl⟩,s,w',rfl,hF',g2,t2⟩
 obtain⟨s,rfl⟩:=hv;simp only[Xt,sB,sS,sZ];iterate 7 (refine zg rfl rfl rfl (fun K hK=>?_);go_big_quiet_op;refine hK _ ?_;clear hK)
 refine qj fun W2 hI8 hF8=>?_
 obtain⟨s',Wa,he,ga,gb,t8⟩:=hF8;have hss:s'=s:=by
  obtain⟨a1,a2,a3⟩:=s;obtain⟨c1,c2,c3⟩:=s';simp only[Value.tuple.injEq,Array.mk.injEq,List.cons.injEq,vJ,and_true]at he;obtain⟨rfl,rfl,rfl⟩:=he;rfl
 subst hss;have NR2:Xp (jy slE w.heap.size W2 (s'.x) (Zy m.sl fr)):=dD<|t8.base (bS (G1.trans ga))
 have G2:=dD (G1.trans (ga.trans gb));have Y2:=dD (Y1.grew (ga.trans gb));clear he ga gb t8 hI8 hI0 hF0 hx2 hyr hne gd
 by_cases hz:TE=0
 rotate_left
 ·have hze:(TE != 0)=Xc:=by simp[hz]
  have HN:Xp (SW=(Xd,m)):=HNO.out hz;clear hz;go_wp2;go_ret;exact⟨by rw[HN.out];rfl,by rw[HN.out];exact Chg.refl HM G2⟩
 have hze:(TE != 0)=Xd:=by simp[hz]
 obtain⟨y1,j,y2,y3,y4,y5⟩:=HYES.out hz;subst y2;have HY1:Xp (SW.1=Xc):=y1;have HY4:Xp (zo m.sb.length m.sq (j:Int)=0):=y4;have HY5:Xp (SW.2=_):=y5;clear hz y1 y4 y5;have BX:=dD (HM.box.grew G2)
 go_upto_region 6 with(refine ZF rfl 30 (.tmp 36) (.tmp 33) rfl p 2 rfl (s'.x) rfl [s'.x] rfl BX (by simp[chL]) (by kernel_rfl) (by simp[Value.oneCell']) ?_)
 intro W4 bx4 gr4 _;have Y4:Xp (zt W4 b 53 [U8 b0,U8 b1,U8 b2,U8 b3,U8 b4,U8 b5,U8 b6,U8 b7,I6 fr,Xh fu,Xh fd,I6 ff,I6 fx]):=dD<|Y2.beside gr4 (fun k e=>by cases e;omega)
 obtain⟨V4,m4,o4,d4⟩:=HM.setS G2 NR2 gr4 bx4;have M4:Xp (ChW w0 p W4 V4 { m with sl:=Zy m.sl fr }):=m4;have O4:Xp (qW (Dw p V) w W4):=o4;have D4:Xp (∀k,Dw p V4 k->Dw p V k\/w.heap.size<=k):=d4;have HW:Xp (∀W,zc W4 W->Xq prog 195 #[Xi #[V4.sb.x,V4.sq.x],I6 (j:Int),Xi #[U8 b0,U8 b1,U8 b2,U8 b3,U8 b4,U8 b5,U8 b6,U8 b7]] W fun e w'=>∃d q:Sli,e= Xl (Xm #[Xi #[d.x,q.x],I6 0])/\qg W.heap.size w' (Xi #[d.x,q.x]) (qZ m.sb m.sq (j:Int)) (jb m.sb m.sq (j:Int) (pgL ⟨b0,b1,b2,b3,b4,b5,b6,b7⟩))/\zc W w'):=show∀W,_ from fun W hW=>by
  have kk:=zeC (Xi #[V4.sb.x,V4.sq.x]) m.sb m.sq (j:Int) (pgL ⟨b0,b1,b2,b3,b4,b5,b6,b7⟩) rfl W ⟨_,_,rfl,(m4.at.grew hW).sb,(m4.at.grew hW).sq⟩;rw[HY4.out]at kk;refine kk.mono ?_;rintro e w' ⟨dd,rfl,nd,g⟩;obtain⟨d,q,rfl,_,_⟩:=nd.form;exact⟨d,q,rfl,nd,g⟩
 have hpw:p<W4.heap.size:=m4.dlt p (.inl rfl);have HPB:Xp (p≠b):=dD<|by omega
 clear bx4 gr4 m4 o4 d4;try simp only[Xt]
 go_upto_region 6 with fail;obtain⟨I,HI⟩:∃I:Xo->Prop,Xp (∀u,I u↔zt u b 53 [U8 b0,U8 b1,U8 b2,U8 b3,U8 b4,U8 b5,U8 b6,U8 b7,I6 fr,Xh fu,Xh fd,I6 ff,I6 fx]):=⟨fun u=>_,fun _=>Iff.rfl⟩
 have hI0:I W4.drew:=(HI _).2 (Y4.grew (gW _))
 have hF0:zc W4 W4.drew:=show Below _ _ _ from(bR _ _).drew
 have hy0:∀y:zj I,y.world.cell? ⟨b,0,Xb⟩=Xa (U8 b0):=fun y=>((HI _).1 y.holds).box.c 0 rfl
 have hy1:∀y:zj I,y.world.cell? ⟨b,1,Xb⟩=Xa (U8 b1):=fun y=>((HI _).1 y.holds).box.c 1 rfl
 have hy2:∀y:zj I,y.world.cell? ⟨b,2,Xb⟩=Xa (U8 b2):=fun y=>((HI _).1 y.holds).box.c 2 rfl
 have hy3:∀y:zj I,y.world.cell? ⟨b,3,Xb⟩=Xa (U8 b3):=fun y=>((HI _).1 y.holds).box.c 3 rfl
 have hy4:∀y:zj I,y.world.cell? ⟨b,4,Xb⟩=Xa (U8 b4):=fun y=>((HI _).1 y.holds).box.c 4 rfl
 have hy5:∀y:zj I,y.world.cell? ⟨b,5,Xb⟩=Xa (U8 b5):=fun y=>((HI _).1 y.holds).box.c 5 rfl
 have hy6:∀y:zj I,y.world.cell? ⟨b,6,Xb⟩=Xa (U8 b6):=fun y=>((HI _).1 y.holds).box.c 6 rfl
 have hy7:∀y:zj I,y.world.cell? ⟨b,7,Xb⟩=Xa (U8 b7):=fun y=>((HI _).1 y.holds).box.c 7 rfl
 have hne:Nonempty (zj I):=⟨⟨_,hI0⟩⟩;refine zG (I:=I) 17 [(5,fun v=>v= Xi #[V4.sb.x,V4.sq.x]),(9,fun v=>∃d q:Sli,v= Xm #[Xi #[d.x,q.x],I6 0]),(16,fun _=>True)] (fun u=>zc W4 u) hI0 hF0 zW (by kernel_rfl) rfl rfl (by decide) ?hS (by kernel_rfl) ?_
 case hS=>
  intro x hx;simp only[mC,nM,or_false]at hx
  rcases hx with rfl|rfl|rfl
  ·exact⟨_,rfl⟩
  ·exact⟨_,zy,zy,rfl⟩
  exact⟨undef,trivial⟩
 simp only[Ys,Yt];iterate 2 (refine zg rfl rfl rfl (fun K hK=>?_);go_big_quiet_op;refine hK _ ?_;clear hK)
 refine zI (.tmp 39) ⟨p,0,Xb⟩ rfl rfl rfl rfl ?_;simp only[Xt,sB,sS,sZ];iterate 2 (refine zg rfl rfl rfl (fun K hK=>?_);go_big_quiet_op;refine hK _ ?_;clear hK)
 refine zH rfl rfl (fun _ u=>zc W4 u) (fun w' hI' hF'=>?_) (fun v1 hv=>?_)
 ·refine zcA 34 (.tmp 42) rfl p 3 rfl [V4.sb.x,V4.sq.x] ((M4.box.box.grew hF').mid 3 (fun j v hj=>by
   match j,hj with
   | 0,hj=>exact hj
   | 1,hj=>exact hj)) underlying34 rfl (by kernel_rfl) ⟨hI',rfl,hF'⟩
 cases hv;simp only[Xt,sB,sS,sZ];iterate 3 (refine zg rfl rfl rfl (fun K hK=>?_);go_big_quiet_op;refine hK _ ?_;clear hK)
 refine zH rfl rfl (fun v u=>∃(d q:Sli) (Wa:Xo),v= Xm #[Xi #[d.x,q.x],I6 0]/\zc W4 Wa/\zc Wa u/\qg Wa.heap.size u (Xi #[d.x,q.x]) (qZ m.sb m.sq (j:Int)) (jb m.sb m.sq (j:Int) (pgL ⟨b0,b1,b2,b3,b4,b5,b6,b7⟩))) (fun w' hI' hF'=>?_) (fun v1 hv=>?_)
 ·refine zQ.call [Xi #[V4.sb.x,V4.sq.x],I6 (j:Int),Xi #[U8 b0,U8 b1,U8 b2,U8 b3,U8 b4,U8 b5,U8 b6,U8 b7]] rfl func195 rfl rfl rfl ?_;refine(HW w' hF').mono ?_;rintro e w'' ⟨d,q,rfl,t2,g2⟩;exact⟨_,rfl,(HI _).2 (((HI _).1 hI').grew g2),⟨d,q,rfl⟩,d,q,w',rfl,hF',g2,t2⟩
 obtain⟨d,q,rfl⟩:=hv;simp only[Xt,sB,sS,sZ];iterate 3 (refine zg rfl rfl rfl (fun K hK=>?_);go_big_quiet_op;refine hK _ ?_;clear hK)
 refine zI (.tmp 38) ⟨p,0,Xb⟩ rfl rfl rfl rfl ?_;simp only[Xt,sB,sS,sZ];iterate 2 (refine zg rfl rfl rfl (fun K hK=>?_);go_big_quiet_op;refine hK _ ?_;clear hK)
 refine zH rfl rfl (fun _ u=>Chg w0 p W4 V4 {({ m with sl:=Zy m.sl fr }:Ma)with sb:=qZ m.sb m.sq (j:Int),sq:=jb m.sb m.sq (j:Int) (pgL ⟨b0,b1,b2,b3,b4,b5,b6,b7⟩) } u) (fun w' hI' hF'=>?_) (fun v1 hv=>?_)
 ·obtain⟨d',q',Wa,he,ga,gb,t8⟩:=hF';have hss:d'=d/\q'=q:=by
   obtain⟨a1,a2,a3⟩:=d;obtain⟨c1,c2,c3⟩:=d';obtain⟨e1,e2,e3⟩:=q;obtain⟨f1,f2,f3⟩:=q';simp only[Value.tuple.injEq,Array.mk.injEq,List.cons.injEq,Value.agg.injEq,vJ,and_true]at he;obtain⟨⟨rfl,rfl,rfl⟩,rfl,rfl,rfl⟩:=he;exact⟨rfl,rfl⟩
  obtain⟨rfl,rfl⟩:=hss;have G8:zc W4 w':=ga.trans gb;refine ZM 34 (.tmp 52) (.tmp 48) rfl p 3 rfl (Xi #[d'.x,q'.x]) rfl [d'.x,q'.x] rfl (M4.box.grew G8) (by simp[chL]) (by kernel_rfl) (by simp[Value.oneCell']) ?_
  intro W9 bx9 gr9 _;exact⟨(HI _).2 (((HI _).1 hI').beside gr9 (fun k e=>by cases e;exact fun e=>HPB.out e.symm)),trivial,M4.setSw G8 (bS ga) t8 gr9 bx9⟩
 clear hv;try simp only[Xt]
 refine qj fun W9 hI8 hF8=>?_
 obtain⟨V9,m9,o9,d9⟩:=Chg.step O4 D4 hF8;have M9:Xp (ChW w0 p W9 V9 _):=m9;have O9:Xp (qW (Dw p V) w W9):=o9;have D9:Xp (∀k,Dw p V9 k->Dw p V k\/w.heap.size<=k):=d9;have hlv:=HLV.out W9 V9 j _ _ _ m9;clear hI8 hF8 hI0 hF0 hy0 hy1 hy2 hy3 hy4 hy5 hy6 hy7 hne m9 o9 d9;go_wp2_with fail;refine hlv.mono ?_;clear hlv;rintro e W10 ⟨⟨v6,rfl⟩,h6⟩;have M10:Xp (Chg w0 p w V SW.2 W10):=show Chg _ _ _ _ _ _ by rw[HY5.out];exact Chg.step O9 D9 h6
 clear h6;go_wp2;go_ret;exact⟨by rw[HY1.out];rfl,M10⟩
theorem zmZ (x0 y0:Int) (x1 y1:Int) (w:Xo):(Op.equalIn 10000 107 (Xi #[I6 x0,I6 x1]) (Xi #[I6 y0,I6 y1])).run prog w= .ok ((x0 == y0) &&(x1 == y1)) w:=by
 have hf : (Tryz.prog.fieldsOf 107).toList.map (fun f => (f.name, f.type, f.offset)) = [("Proc", 3, 0), ("Page", 3, 1)] := by kernel_rfl
 rw[run_equalIn_struct w 9999 107 _ _ (by kernel_rfl) (by kernel_rfl)]
 obtain⟨f0,f1,hfs⟩:∃f0 f1,(Tryz.prog.fieldsOf 107).toList=[f0,f1]:=by
  have hl:(Tryz.prog.fieldsOf 107).toList.length=2:=by have:=congrArg List.length hf;simpa using this
  match hq:(Tryz.prog.fieldsOf 107).toList,hl with
  | [f0,f1],_=>exact⟨f0,f1,rfl⟩
 rw[hfs]at hf⊢
 simp at hf
 obtain⟨⟨n0,t0,o0⟩,⟨n1,t1,o1⟩⟩:=hf;have pI:∀(zs:Array Xr) (o:Nat) v,zs[o]? =Xa (I6 v)->(part 3 zs o).run prog w= .ok (I6 v) w:=fun zs o v hz=>run_part_plain w (by simp[Program.plainKey,underlying3]) hz
 simp only[Op.eqFields,n0,t0,o0,n1,t1,o1]
 simp[pI,run_equalIn_int w _ _ _ _ _ _ underlying3]
 by_cases e0:x0=y0
 case neg=>simp[e0]
 subst e0
 by_cases e1:x1=y1
 case neg=>simp[e1]
 subst e1;simp
def zcK (W:Xo) (y:Addr) (x:Nat × Nat):Prop:=W.cell? y=Xa (I6 (x.1:Int))/\W.cell? { block:=y.block,off:=y.off+1 }=Xa (I6 (x.2:Int))
theorem zm.spots {w:Xo} {v:Xr} {l:List (Nat × Nat)} (h:zm zcV w v l):∃a c,v= O a l.length c/\∀(j:Nat) x,l[j]? =Xa x->∃ad,a=Xa ad/\∀W,zc w W->zcK W (ad.add (j*2)) x:=by
 obtain⟨a,c,h1,h2⟩:=h.rows;refine⟨a,c,h1,fun j x hj=>?_⟩
 obtain⟨ad,h3,h4⟩:=h2 j x hj;exact⟨ad,h3,fun W hW=>⟨h4 W hW 0 _ rfl,h4 W hW 1 _ rfl⟩⟩
theorem zd7 (v:Xr) (l:List (Nat × Nat)) (q n:Nat) (w:Xo) (hv:zm zcV w v l):
  Xq prog 235 #[v,Xi #[I6 (q:Int),I6 (n:Int)]] w fun e w'=>(∃z:Int,e= Xl (I6 z)/\(0<=z↔(q,n)∈l))/\zc w w':=by
 have hbig:=hv.short;obtain⟨a,c,rfl,hrow⟩:=hv.spots;have HR:Xp (∀(j:Nat) x,l[j]? =Xa x->∃ad,a=Xa ad/\∀W,zc w W->zcK W (ad.add (j*2)) x):=hrow;clear hrow hv;obtain⟨L,HL⟩:=kA l.length;rw[HL.out]at hbig⊢;obtain⟨ANS,HANS⟩:∃ANS:Int->Prop,Xp (∀z,(0<=z↔(q,n)∈l)=ANS z):=⟨_,fun _=>rfl⟩
 simp only[HANS.out];obtain⟨b,HB⟩:=kA w.heap.size;obtain⟨W0,hW0⟩:=kB (w.alloc (Xk #[I6 (q:Int),I6 (n:Int)] 107));have G0:=gA hW0
 have X0:=xP hW0 HB
 have HW0:Xp (_=W0):=hW0;clear hW0;have hsq:=zmZ
 go_enter func235,ntmps235
 go_upto_region 1 with fail;rw[HW0.out,HB.out];go_wp2
 go_loopg [5,8] L (fun gg _ s8 wr=>∃kk:Nat,kk<=L/\L - kk<=gg/\s8=I6 kk/\Xp (zc w wr)/\Xp (Box wr b [I6 (q:Int),I6 (n:Int)])/\Xp (∀(j:Nat) x,j<kk->l[j]? =Xa x->x≠(q,n)))
 case atStart=>exact⟨0,nZ _,by omega,rfl,G0,X0,fun j x hj=>absurd hj (nL _)⟩
 obtain⟨kk,hkk,hgg,rfl,GW,XW,A⟩:=hrel
 by_cases hlt:kk<L
 ·have hltz:=kC hlt
  obtain⟨x,HQ⟩:∃x,Xp (l[kk]? =Xa x):=⟨_,gE (by rw[HL.out];exact hlt)⟩
  obtain⟨ad,rfl,hl⟩:=HR.out kk x HQ.out;have HCE:Xp (∀W,zc wr W->zcK W (ad.add (kk*2)) x):=dD<|fun W hW=>hl W (GW.trans hW)
  clear hl;obtain⟨x0,x1⟩:=x;go_upto_region 4 with fail;have hy0:∀y:zn wr,y.world.cell? (ad.add (kk*2))=Xa (I6 (x0:Int)):=fun y=>(HCE _ y.grew).1
  have hy1:∀y:zn wr,y.world.cell? ⟨(ad.add (kk*2)).block,(ad.add (kk*2)).off+1,Xb⟩=Xa (I6 (x1:Int)):=fun y=>(HCE _ y.grew).2
  have hx0:=XW.gw 0 rfl
  have hx1:=XW.gw 1 rfl
  have hne:Nonempty (zn wr):=⟨⟨_,zc.refl _⟩⟩
  by_cases hx:x0=q/\x1=n
  ·obtain⟨rfl,rfl⟩:=hx;have HA:Xp (ANS (kk:Int)):=dD<|by
    rw[<-HANS.out];exact⟨fun _=>mG HQ,fun _=>by omega⟩
   refine ji [] zW (by kernel_rfl) (by simp) (by simp) ?_
   iterate 6 (refine zd rfl rfl rfl (fun K hK=>?_);go_big_quiet_op;refine hK _ ?_;clear hK)
   refine z6 fun W2 g2 hF=>?_
   have G2:=dD (GW.trans g2);clear g2 hF hne hy0 hy1 hx0 hx1;have hb:(((x0:Int) ==(x0:Int)) &&((x1:Int) ==(x1:Int)))=Xc:=by simp
   go_wp2;go_ret;exact⟨⟨_,rfl,HA⟩,G2⟩
  have HA:Xp (∀(j:Nat) x,j<kk+1->l[j]? =Xa x->x≠(q,n)):=dD<|fun j x hj hxj=>by
   by_cases e:j=kk
   ·subst e;rw[HQ.out]at hxj;cases hxj;exact fun e=>hx (Prod.mk.inj e)
   exact A j x (by omega) hxj
  have hb:(((q:Int) ==(x0:Int)) &&((n:Int) ==(x1:Int)))=Xd:=by
   by_cases e:x0=q
   ·have e2:¬(n:Int)=(x1:Int):=fun e3=>hx ⟨e,by omega⟩
    simp[e2]
   have e2:¬(q:Int)=(x0:Int):=fun e3=>e (by omega)
   simp[e2]
  clear hx;refine ji [] zW (by kernel_rfl) (by simp) (by simp) ?_
  iterate 6 (refine zd rfl rfl rfl (fun K hK=>?_);go_big_quiet_op;refine hK _ ?_;clear hK)
  refine z6 fun W2 g2 hF=>?_
  have G2:=dD (GW.trans g2);have X2:=dD (XW.grew g2);clear g2 hF hne hy0 hy1 hx0 hx1;go_wp2
  go_roundg (L -(kk+1))
  case measure=>omega
  exact⟨kk+1,by omega,by omega,by go_num,G2,X2,HA⟩
 have hltz:=kD hlt
 have:kk=L:=by omega
 subst this;have HA:Xp (ANS (-1)):=dD<|by
  rw[<-HANS.out];refine⟨fun h=>absurd h (by decide),fun h=>?_⟩
  obtain⟨j,hj⟩:=Xy h;exact absurd rfl (A j _ (by rw[<-HL.out];exact(gS.1 hj).1) hj)
 go_wp2;go_ret;exact⟨⟨_,rfl,HA⟩,GW⟩
theorem zbu (v:Xr) (l:List (Nat × Nat)) (q n:Nat) (w:Xo) (hv:zm zcV w v l):
  Xq prog 223 #[v,Xi #[I6 (q:Int),I6 (n:Int)]] w fun e w'=>e= Xl (Xh (l.contains (q,n)))/\zc w w':=by
 have hi:=zd7 v l q n (w.alloc (Xk #[I6 (q:Int),I6 (n:Int)] 107)) (hv.grew (za _ _));obtain⟨R,HR⟩:=kA (l.contains (q,n));rw[HR.out];clear hv
 go_enter func223,ntmps223
 go_wp2_with fail;refine hi.mono ?_;clear hi;rintro e W2 ⟨⟨z,rfl,hz⟩,g2⟩;have G2:Xp (zc w W2):=dD<|(za _ _).trans g2
 clear g2
 by_cases h0:0<=z
 ·have HE:Xp (R=Xc):=dD<|by rw[<-HR.out];simpa using hz.1 h0
  clear hz;go_wp2;go_ret;exact⟨by rw[HE.out];rfl,G2⟩
 have HE:Xp (R=Xd):=dD<|by
  rw[<-HR.out]
  cases hb:l.contains (q,n)with
  | false=>rfl
  | true=>exact absurd (hz.2 (by simpa using hb)) h0
 have HD:Xp (decide (0<=z)=Xd):=decide_eq_false h0;clear hz;go_wp2;go_ret;exact⟨by rw[HE.out,<-HD.out];rfl,G2⟩
theorem zna {e:En} {a b:Int}:isE e a b=(decide (e.kind=a) && decide (e.n=b)):=by
 unfold isE
 cases h1:decide (e.kind=a) <;> cases h2:decide (e.n=b) <;> simp_all
theorem zjx {w:Xo} {p:Nat} (h:ChW w0 p w V m) (bf bm bp bk:Nat) (f:Fr) (k:Nat) (mv:Xr) (l:List (Nat × Nat)) (hbf:Box w bf (frv f)) (hbm:Box w bm [mv]) (hbp:Box w bp [Xj (Xa ⟨p,0,Xb⟩)]) (hbk:Box w bk [I6 (k:Int)]) (hv:zm zcV w mv l)
  (q n:Nat) (s:Sp) (a:Ar) (hs:m.sp[q]? =Xa s) (hn:n<64) (hf:0<=f.f) (ha:a.file=f.f->(0<=a.base/\a.base<=100)/\(0<=a.fr/\a.fr<=100)):
  Xq prog 222 #[Xi #[I6 (q:Int),I6 (n:Int)],Xi #[I6 a.fr,I6 a.tz,Xh a.rd,Xh a.wr,Xh a.sh,I6 a.file,I6 a.base],Xj (Xa ⟨bf,0,Xb⟩),Xj (Xa ⟨bm,0,Xb⟩),Xj (Xa ⟨bp,0,Xb⟩),Xj (Xa ⟨bk,0,Xb⟩)] w fun e w'=>e= Xl (Xh (Q6 k f l q s a n))/\zc w w':=by
 have hql:=(gS.1 hs).1;have hfl:znW m q (n:Int)=zD s n:=by unfold znW;rw[Sp.getD_of hs,zkf hn]
 have HE:Xp (∀W,zc w W->Xq prog 108 #[Xj (Xa ⟨p,0,Xb⟩),Xi #[I6 (q:Int),I6 (n:Int)]] W fun e w'=>e= Xl (enV (zD s n))/\zc W w'):=dD<|fun W hW=>by rw[<-hfl];exact zgK (h.grew hW) q hql (n:Int)
 have HX:Xp (∀W,a.file=f.f->Xq prog 135 #[Xi #[I6 a.fr,I6 a.tz,Xh a.rd,Xh a.wr,Xh a.sh,I6 a.file,I6 a.base],I6 (n:Int)] W fun e w'=>e= Xl (I6 (a.base+(n:Int) - a.fr))/\zc W w'):=dD<|fun W he=>zch a (n:Int) W (ha he).1 (ha he).2 (by omega)
 have HC:Xp (∀W,zc w W->Xq prog 223 #[mv,Xi #[I6 (q:Int),I6 (n:Int)]] W fun e w'=>e= Xl (Xh (l.contains (q,n)))/\zc W w'):=dD<|fun W hW=>zbu mv l q n W (hv.grew hW)
 have HPG:Xp (a.file=f.f->(qp a n).page=a.base+(n:Int) - a.fr):=dD<|fun he=>by
  unfold qp;simp only;rw[kE (by omega)]
  omega
 have HSB:Xp (Q6 k f l q s a n=(decide (a.file=f.f) && decide ((qp a n).page=f.x) && !(l.contains (q,n)) &&(decide ((zD s n).kind=0) || (decide ((zD s n).kind=1) && decide ((zD s n).n=(k:Int)))))):=dD<|by
  unfold Q6;rw[zna];rfl
 obtain⟨CT,HCT⟩:=kA (l.contains (q,n));rw[HCT.out]at HC HSB;obtain⟨PG,HPP⟩:=kA ((qp a n).page);rw[HPP.out]at HPG HSB;obtain⟨ek,en,ew,hfe⟩:∃ek en ew,zD s n=⟨ek,en,ew⟩:=⟨_,_,_,rfl⟩;rw[hfe]at HE HSB;obtain⟨SB,HS⟩:=kA (Q6 k f l q s a n);rw[HS.out]at HSB⊢;simp only at HSB;have HBF:Xp (Box w bf (frv f)):=hbf;have HBM:Xp (Box w bm [mv]):=hbm;have HBP:Xp (Box w bp [Xj (Xa ⟨p,0,Xb⟩)]):=hbp;have HBK:Xp (Box w bk [I6 (k:Int)]):=hbk;obtain⟨⟨b0,b1,b2,b3,b4,b5,b6,b7⟩,fr,fu,fd,ff,fx⟩:=f;obtain⟨af,at_,ard,awr,ash,afile,abase⟩:=a;simp only at HX HPG HSB hf;clear h hbf hbm hbp hbk hv hs hn ha hql hfl hfe;obtain⟨b,HB⟩:=kA w.heap.size;obtain⟨W0,hW0⟩:=kB ((w.alloc (Xk #[I6 (q:Int),I6 (n:Int)] 107)).alloc (Xk #[I6 af,I6 at_,Xh ard,Xh awr,Xh ash,I6 afile,I6 abase] 91));have G0:=gD2 hW0
 have X0:Xp (Box W0 b [I6 (q:Int),I6 (n:Int)]):=dD<|by rw[<-hW0,<-HB.out];exact(Box.top w _ _ rfl).alloc _
 have Y0:Xp (Box W0 (b+1) [I6 af,I6 at_,Xh ard,Xh awr,Xh ash,I6 afile,I6 abase]):=dD<|by rw[<-hW0];exact Box.top _ [I6 af,I6 at_,Xh ard,Xh awr,Xh ash,I6 afile,I6 abase] _ (by have:=HB.out;simp;omega)
 have HW0:Xp (_=W0):=hW0;clear hW0
 go_enter func222,ntmps222
 go_upto_region 1 with fail;rw[HW0.out,HB.out];have hy0:=Y0.gw 0 rfl
 have hy1:=Y0.gw 1 rfl
 have hy2:=Y0.gw 2 rfl
 have hy3:=Y0.gw 3 rfl
 have hy4:=Y0.gw 4 rfl
 have hy5:=Y0.gw 5 rfl
 have hy6:=Y0.gw 6 rfl
 have hx0:=X0.gw 0 rfl
 have hx1:=X0.gw 1 rfl
 have hf11:∀y:zn W0,y.world.cell? ⟨bf,11,Xb⟩=Xa (I6 ff):=fun y=>(HBF.grew (G0.trans y.grew)).c 11 rfl
 have hf12:∀y:zn W0,y.world.cell? ⟨bf,12,Xb⟩=Xa (I6 fx):=fun y=>(HBF.grew (G0.trans y.grew)).c 12 rfl
 have hm0:∀y:zn W0,y.world.cell? ⟨bm,0,Xb⟩=Xa mv:=fun y=>(HBM.grew (G0.trans y.grew)).c 0 rfl
 have hne:Nonempty (zn W0):=⟨⟨_,zc.refl _⟩⟩
 by_cases e1:afile=ff
 rotate_left
 ·have h1:(afile != ff)=Xc:=by simpa using e1
  have HR:Xp (SB=Xd):=dD<|by rw[HSB.out,decide_eq_false e1];rfl
  clear e1;refine ji [] zW (by kernel_rfl) (by simp) (by simp) ?_
  iterate 6 (refine zd rfl rfl rfl (fun K hK=>?_);go_big_quiet_op;refine hK _ ?_;clear hK)
  iterate 7 (refine qa (by kernel_rfl) ?_;simp only[Xt,sB,sS,sZ])
  iterate 2 (refine zd rfl rfl rfl (fun K hK=>?_);go_big_quiet_op;refine hK _ ?_;clear hK)
  iterate 3 (refine qa (by kernel_rfl) ?_;simp only[Xt,sB,sS,sZ])
  iterate 1 (refine zd rfl rfl rfl (fun K hK=>?_);go_big_quiet_op;refine hK _ ?_;clear hK)
  refine z6 fun W2 g2 hF=>?_
  have G2:=dD (G0.trans g2);clear g2 hF hne hy0 hy1 hy2 hy3 hy4 hy5 hy6 hx0 hx1 hf11 hf12 hm0;go_wp2;go_ret;exact⟨by rw[HR.out];rfl,G2⟩
 have h1:(afile != ff)=Xd:=by simp[e1]
 have hpg:=HPG.out e1;have hix:=fun W=>HX.out W e1
 rw[<-hpg]at hix;have HD1:Xp (decide (afile=ff)=Xc):=decide_eq_true e1;rw[HD1.out]at HSB;clear e1 hpg
 by_cases e2:PG=fx
 rotate_left
 ·have h2:(PG != fx)=Xc:=by simpa using e2
  have HR:Xp (SB=Xd):=dD<|by rw[HSB.out,decide_eq_false e2];rfl
  clear e2;refine ji [(9,⟨fun v=>v=I6 PG,fun v w'=>True⟩)] zW (by kernel_rfl) ?hS ?hp ?_
  case hS=>
   intro x hx;simp only[mC,nM,or_false]at hx;subst hx;exact⟨_,rfl⟩
  case hp=>
   intro x hx;simp only[mC,nM,or_false]at hx;subst hx;exact fun _ _ _ _ h=>h
  iterate 9 (refine zd rfl rfl rfl (fun K hK=>?_);go_big_quiet_op;refine hK _ ?_;clear hK)
  refine zE rfl rfl (fun w' hg hF=>?_) (fun v1 hv=>?_)
  ·refine zQ.call [Xi #[I6 af,I6 at_,Xh ard,Xh awr,Xh ash,I6 afile,I6 abase],I6 (n:Int)] rfl func135 rfl rfl rfl ?_;refine(hix w').mono ?_;rintro e w'' ⟨rfl,g2⟩;exact⟨_,rfl,g2,rfl,trivial⟩
  subst hv;simp only[Xt,sB,sS,sZ];iterate 5 (refine zd rfl rfl rfl (fun K hK=>?_);go_big_quiet_op;refine hK _ ?_;clear hK)
  iterate 3 (refine qa (by kernel_rfl) ?_;simp only[Xt,sB,sS,sZ])
  iterate 1 (refine zd rfl rfl rfl (fun K hK=>?_);go_big_quiet_op;refine hK _ ?_;clear hK)
  refine z6 fun W2 g2 hF=>?_
  have G2:=dD (G0.trans g2);clear g2 hF hne hy0 hy1 hy2 hy3 hy4 hy5 hy6 hx0 hx1 hf11 hf12 hm0 hix;go_wp2;go_ret;exact⟨by rw[HR.out];rfl,G2⟩
 have h2:(PG != fx)=Xd:=by simp[e2]
 have HD2:Xp (decide (PG=fx)=Xc):=decide_eq_true e2;rw[HD2.out]at HSB;clear e2;refine ji [(9,⟨fun v=>v=I6 PG,fun v w'=>True⟩),(17,⟨fun v=>v= Xh CT,fun v w'=>True⟩)] zW (by kernel_rfl) ?hS ?hp ?_
 case hS=>
  intro x hx;simp only[mC,nM,or_false]at hx
  rcases hx with rfl|rfl
  ·exact⟨_,rfl⟩
  exact⟨_,rfl⟩
 case hp=>
  intro x hx;simp only[mC,nM,or_false]at hx
  rcases hx with rfl|rfl
  ·exact fun _ _ _ _ h=>h
  exact fun _ _ _ _ h=>h
 iterate 9 (refine zd rfl rfl rfl (fun K hK=>?_);go_big_quiet_op;refine hK _ ?_;clear hK)
 refine zE rfl rfl (fun w' hg hF=>?_) (fun v1 hv=>?_)
 ·refine zQ.call [Xi #[I6 af,I6 at_,Xh ard,Xh awr,Xh ash,I6 afile,I6 abase],I6 (n:Int)] rfl func135 rfl rfl rfl ?_;refine(hix w').mono ?_;rintro e w'' ⟨rfl,g2⟩;exact⟨_,rfl,g2,rfl,trivial⟩
 subst hv;simp only[Xt,sB,sS,sZ];iterate 7 (refine zd rfl rfl rfl (fun K hK=>?_);go_big_quiet_op;refine hK _ ?_;clear hK)
 refine zE rfl rfl (fun w' hg hF=>?_) (fun v1 hv=>?_)
 ·refine zQ.call [mv,Xi #[I6 (q:Int),I6 (n:Int)]] rfl func223 rfl rfl rfl ?_;refine(HC w' (G0.trans hg)).mono ?_;rintro e w'' ⟨rfl,g2⟩;exact⟨_,rfl,g2,rfl,trivial⟩
 subst hv;simp only[Xt,sB,sS,sZ];iterate 1 (refine zd rfl rfl rfl (fun K hK=>?_);go_big_quiet_op;refine hK _ ?_;clear hK)
 refine z6 fun W2 g2 hF=>?_
 have G2:=dD (G0.trans g2);have X2:=dD (X0.grew g2);clear g2 hF hne hy0 hy1 hy2 hy3 hy4 hy5 hy6 hx0 hx1 hf11 hf12 hm0 hix h1 h2
 cases CT with
 | true=>
  have HR:Xp (SB=Xd):=dD<|by rw[HSB.out];rfl
  go_wp2;go_ret;exact⟨by rw[HR.out];rfl,G2⟩
 | false=>
  have x0:=X2.c 0 rfl;have x1:=X2.c 1 rfl;have p0:=(HBP.grew G2).c 0 rfl;have hen:=HE.out W2 G2.out;go_wp2_with fail;refine hen.mono ?_;clear hen x0 x1 p0;rintro e W3 ⟨rfl,g3⟩;have G3:=dD (G2.trans g3);clear g3;unfold enV;go_upto_region 4 with fail;obtain⟨c,HCc⟩:=kA W3.heap.size;obtain⟨W4,hW4⟩:=kB (W3.alloc (Xk #[I6 ek,I6 en,Xh ew] 55));have G4:Xp (zc w W4):=show zc _ _ from G3.trans (by rw[<-hW4];exact za _ _)
  have Z4:=xP hW4 HCc
  rw[hW4,HCc.out];clear hW4;have z0:=Z4.c 0 rfl;have z1:=Z4.c 1 rfl;have k0:=(HBK.grew G4).c 0 rfl
  by_cases k1:ek=0
  ·have hk1:(ek == 0)=Xc:=by rw[k1];rfl
   have HR:Xp (SB=Xc):=dD<|by rw[HSB.out,decide_eq_true k1];rfl
   clear k1;go_wp2;go_ret;exact⟨by rw[HR.out];rfl,G4⟩
  have hk1:(ek == 0)=Xd:=by simpa using k1
  rw[decide_eq_false k1]at HSB;clear k1
  by_cases k2:ek=1
  ·have hk2:(ek == 1)=Xc:=by rw[k2];rfl
   rw[decide_eq_true k2]at HSB;clear k2;have HR:Xp (SB=(en ==(k:Int))):=dD<|by rw[HSB.out];rfl
   go_wp2;go_ret;exact⟨by rw[HR.out];rfl,G4⟩
  have hk2:(ek == 1)=Xd:=by simpa using k2
  rw[decide_eq_false k2]at HSB;clear k2;have HR:Xp (SB=Xd):=dD<|by rw[HSB.out];rfl
  go_wp2;go_ret;exact⟨by rw[HR.out];rfl,G4⟩
theorem zQ.allocFr {a:Act} {w:Xo} {K:Xr->Xo->Prop} (ho:o.op= .alloc 53) (h:K (Xj (Xa ⟨w.heap.size,0,Xb⟩)) (w.alloc (Xk (frv fr0).toArray 53))):zQ prog o a w K:=by
 have hz:(zeroValue 53).run prog w= .ok frz w:=by
  obtain⟨i0,hi,hz0,_,_⟩:=info_parts Qj.info;have:Qj.ty=53:=rfl;rw[this]at hi;have hz0:i0.zero=Xa frz:=hz0
  simp[zeroValue,typeInfo,hi,hz0]
 unfold zQ;have:(execOp a.eval o).run prog w= .ok (.value (Xj (Xa ⟨w.heap.size,0,Xb⟩))) (w.alloc (Xk (frv fr0).toArray 53)):=by
  simp[execOp,ho,go_sem,hz]
  rfl
 rw[this];exact h
theorem ziL {w:Xo} {p:Nat} (h:ChW w0 p w V m) (hR:Rt m) (k:Nat) (f:Fr) (hk:m.fs[k]? =Xa f) (hf:0<=f.f) (mv:Xr) (l:List (Nat × Nat)) (hv:zm zcV w mv l):
  Xq prog 197 #[Xj (Xa ⟨p,0,Xb⟩),I6 (k:Int),mv] w fun e w'=>e= Xl (Xh (zgi m k f l))/\zc w w':=by
 obtain⟨ma,mc,rfl,_⟩:=hv.rows;obtain⟨mn,HMN⟩:=kA l.length;rw[HMN.out]at hv⊢;have HM:Xp (ChW w0 p w V m):=h;have HV:Xp (zm zcV w (O ma mn mc) l):=hv;have HOK:Xp (∀(q:Nat) s,m.sp[q]? =Xa s->s.ars.length<=16/\∀a∈s.ars,jA a):=show∀(q:Nat) s,_ from fun q s hs=>by
  obtain⟨h1,h2⟩:=jY.1 (hR.inv.spok s (mG hs)).1;exact⟨h1,h2.all⟩
 have HF0:Xp (0<=f.f):=hf;obtain⟨n1,-⟩:=h.at.ns;obtain⟨ad,ha,hl⟩:=h.at.frs k f hk;have HFA:Xp (V.f.a=Xa ad):=ha;have HFC:Xp (∀W,zc w W->ZQ W (ad.add (k*13)) f):=show∀W,_ from hl
 have hlt:(k:Int)< (V.f.n:Int):=by
  have:=(gS.1 hk).1;omega
 obtain⟨xs,hxl,hrow,hsp⟩:=h.at.spaces;obtain⟨-,-,-,-,-,-,-,-,n9⟩:=h.at.ns;obtain⟨spa,HSA⟩:=kA V.sp.a;obtain⟨sn,HSN⟩:=kA m.sp.length;have HN9:Xp (V.sp.n=sn):=dD<|by rw[n9];exact HSN.out
 have hsn4:sn<=4:=by rw[<-HSN.out];exact hR.inv.spl
 have HXL:Xp (xs.length=sn):=dD<|by rw[hxl];exact HSN.out
 have HRW:Xp (∀(j:Nat) x,xs[j]? =Xa x->∃ad,spa=Xa ad/\∀W,zc w W->zjb W (ad.add (j*10)) x):=dD<|by rw[<-HSA.out];exact hrow
 have HSP:Xp (∀(i:Nat) x s,xs[i]? =Xa x->m.sp[i]? =Xa s->qN w x s):=dD<|hsp
 obtain⟨SB,HSB⟩:=kA (zgi m k f l);rw[HSB.out];have HYES:Xp ((∃(q:Nat) (s:Sp) (i:Nat) (a:Ar) (n:Nat),m.sp[q]? =Xa s/\s.ars[i]? =Xa a/\Zf a n=Xc/\n<64/\Q6 k f l q s a n=Xc)->SB=Xc):=dD<|fun⟨q,s,i,a,n,h1,h2,h3,h4,h5⟩=>by
  rw[<-HSB.out];exact zeT.2 ⟨q,s,i,a,n,h1,h2,h3,h4,zam.1 h5⟩
 have HNO:Xp ((∀(q:Nat) (s:Sp) (i:Nat) (a:Ar) (n:Nat),m.sp[q]? =Xa s->s.ars[i]? =Xa a->Zf a n=Xc->n<64->Q6 k f l q s a n=Xd)->SB=Xd):=dD<|fun hno=>by
  rw[<-HSB.out]
  cases hb:zgi m k f l with
  | false=>rfl
  | true=>
   obtain⟨q,s,i,a,n,h1,h2,h3,h4,h5⟩:=zeT.1 hb;have:=hno q s i a n h1 h2 h3 h4;rw[zam.2 h5]at this;cases this
 clear h hR hk hf hv ha hl n1 n9 hxl hrow hsp;obtain⟨b,HB⟩:=kA w.heap.size;obtain⟨W0,hW0⟩:=kB (((w.alloc (Xk #[Xj (Xa ⟨p,0,Xb⟩)] 104)).alloc (Xk #[I6 (k:Int)] 3)).alloc (Xk #[O ma mn mc] 180));have G0:Xp (zc w W0):=dD<|by rw[<-hW0];exact((za _ _).trans (za _ _)).trans (za _ _)
 have P0:Xp (Box W0 b [Xj (Xa ⟨p,0,Xb⟩)]):=dD<|by rw[<-hW0,<-HB.out];exact((Box.top w [Xj (Xa ⟨p,0,Xb⟩)] _ rfl).alloc _).alloc _
 have K0:Xp (Box W0 (b+1) [I6 (k:Int)]):=dD<|by rw[<-hW0];exact(Box.top _ [I6 (k:Int)] _ (by have:=HB.out;simp;omega)).alloc _
 have M0:Xp (Box W0 (b+2) [O ma mn mc]):=dD<|by rw[<-hW0];exact Box.top _ [O ma mn mc] _ (by have:=HB.out;simp;omega)
 have HB3:Xp (W0.heap.size=b+3):=dD<|by rw[<-hW0];have:=HB.out;simp;omega
 have HW0:Xp (_=W0):=hW0;clear hW0
 go_enter func197,ntmps197
 go_upto_region 1 with fail;rw[HW0.out,HB.out];obtain⟨⟨b0,b1,b2,b3,b4,b5,b6,b7⟩,fr,fu,fd,ff,fx⟩:=f;have gd:zc W0 W0.drew:=show Below _ _ _ from(bR _ _).drew
 obtain⟨I,HI⟩:∃I:Xo->Prop,Xp (∀u,I u↔zc W0 u):=⟨fun u=>zc W0 u,fun _=>Iff.rfl⟩
 have hI0:I W0.drew:=(HI _).2 gd;have hF0:W0.drew=W0.drew:=rfl;have hp0:=P0.h HI 0 rfl
 have hk0:=K0.h HI 0 rfl
 have hx0:∀y:zj I,y.world.cell? ⟨p,0,Xb⟩=Xa (O (Xa ad) V.f.n V.f.c):=fun y=>by rw[<-HFA.out];exact(HM.box.box.grew (G0.trans ((HI _).1 y.holds))).c 0 rfl
 have hfc:∀y:zj I,ZQ y.world (ad.add (k*13)) ⟨⟨b0,b1,b2,b3,b4,b5,b6,b7⟩,fr,fu,fd,ff,fx⟩:=fun y=>HFC.out _ (G0.trans ((HI _).1 y.holds))
 have hd0:=fun y=>(hfc y).1
 have hd1:=fun y=>(hfc y).2.1
 have hd2:=fun y=>(hfc y).2.2.1
 have hd3:=fun y=>(hfc y).2.2.2.1
 have hd4:=fun y=>(hfc y).2.2.2.2.1
 have hd5:=fun y=>(hfc y).2.2.2.2.2.1
 have hd6:=fun y=>(hfc y).2.2.2.2.2.2.1
 have hd7:=fun y=>(hfc y).2.2.2.2.2.2.2.1
 have hd8:=fun y=>(hfc y).2.2.2.2.2.2.2.2.1
 have hd9:=fun y=>(hfc y).2.2.2.2.2.2.2.2.2.1
 have hd10:=fun y=>(hfc y).2.2.2.2.2.2.2.2.2.2.1
 have hd11:=fun y=>(hfc y).2.2.2.2.2.2.2.2.2.2.2.1
 have hd12:=fun y=>(hfc y).2.2.2.2.2.2.2.2.2.2.2.2
 dsimp only at hd0 hd1 hd2 hd3 hd4 hd5 hd6 hd7 hd8 hd9 hd10 hd11 hd12;clear hfc;have hne:Nonempty (zj I):=⟨⟨_,hI0⟩⟩;refine zG (I:=I) 11 [(9,fun v=>v= Xj (Xa ⟨b+3,0,Xb⟩)),(10,fun _=>True)] (fun u=>u=W0.drew) hI0 hF0 zW (by kernel_rfl) rfl rfl (by decide) ?hS (by kernel_rfl) ?_
 case hS=>
  intro x hx;simp only[mC,nM,or_false]at hx
  rcases hx with rfl|rfl
  ·exact⟨_,rfl⟩
  exact⟨undef,trivial⟩
 simp only[Ys,Yt];iterate 1 (refine zg rfl rfl rfl (fun K hK=>?_);go_big_quiet_op;refine hK _ ?_;clear hK)
 refine zI (.tmp 14) ⟨p,0,Xb⟩ rfl rfl rfl rfl ?_;simp only[Xt,sB,sS,sZ];iterate 7 (refine zg rfl rfl rfl (fun K hK=>?_);go_big_quiet_op;refine hK _ ?_;clear hK)
 refine zH rfl rfl (fun _ u=>zt u (b+3) 53 (frv fr0)/\zc W0 u) (fun w' hI' hF'=>?_) (fun v1 hv=>?_)
 ·subst hF';refine zQ.allocFr rfl ?_;have hs:W0.drew.heap.size=b+3:=HB3.out;refine⟨(HI _).2 (gd.trans (za _ _)),by rw[hs],zt.top _ (frv fr0) _ hs.symm,gd.trans (za _ _)⟩
 subst hv;simp only[Xt,sB,sS,sZ];refine zH rfl rfl (fun _ u=>zt u (b+3) 53 [U8 b0,U8 b1,U8 b2,U8 b3,U8 b4,U8 b5,U8 b6,U8 b7,I6 fr,Xh fu,Xh fd,I6 ff,I6 fx]/\zc W0 u) (fun w' hI' hF'=>?_) (fun v1 hv=>?_)
 ·refine zQ.storeAllT 53 (.tmp 7) (.tmp 22) rfl (b+3) rfl [U8 b0,U8 b1,U8 b2,U8 b3,U8 b4,U8 b5,U8 b6,U8 b7,I6 fr,Xh fu,Xh fd,I6 ff,I6 fx] rfl hF'.1 rfl (by kernel_rfl) (by simp[Value.oneCell']) ?_
  intro W9 bx9 gr9 _;have g9:zc W0 W9:=ze hF'.2 gr9 (by have:=HB3.out;omega)
  exact⟨(HI _).2 g9,trivial,bx9,g9⟩
 clear hv;try simp only[Xt]
 refine qj fun W1 hI8 hF8=>?_
 have F1:Xp (Box W1 (b+3) [U8 b0,U8 b1,U8 b2,U8 b3,U8 b4,U8 b5,U8 b6,U8 b7,I6 fr,Xh fu,Xh fd,I6 ff,I6 fx]):=hF8.1.box;have G1:Xp (zc w W1):=G0.trans hF8.2;have P1:Xp (Box W1 b [Xj (Xa ⟨p,0,Xb⟩)]):=P0.grew hF8.2;have K1:Xp (Box W1 (b+1) [I6 (k:Int)]):=K0.grew hF8.2;have M1:Xp (Box W1 (b+2) [O ma mn mc]):=M0.grew hF8.2;clear hI8 hF8 hI0 hF0 hp0 hk0 hx0 hd0 hd1 hd2 hd3 hd4 hd5 hd6 hd7 hd8 hd9 hd10 hd11 hd12 hne gd;have hmf:∀(fn:Fn) (first cap:Array Xr) (w:Xo),(Instr.makeFunc fn first cap).run prog w= .ok (.func fn first cap) w:=fun _ _ _ _=>rfl
 have eg:=enters_of func222 (by kernel_rfl) rfl
 have p0:=P1.c 0 rfl;have c10:=(HM.box.box.grew G1).c 10 rfl;simp only[Sli.x]at c10;rw[HN9.out,HSA.out]at c10;go_wp2;clear p0 c10;have HSEE:Xp (∀W,zc W1 W->∀(q n:Nat) s a,m.sp[q]? =Xa s->a∈s.ars->n<64->Xq prog 222 #[Xi #[I6 (q:Int),I6 (n:Int)],Xi #[I6 a.fr,I6 a.tz,Xh a.rd,Xh a.wr,Xh a.sh,I6 a.file,I6 a.base],Xj (Xa ⟨b+3,0,Xb⟩),Xj (Xa ⟨b+2,0,Xb⟩),Xj (Xa ⟨b,0,Xb⟩),Xj (Xa ⟨b+1,0,Xb⟩)] W fun e w'=>e= Xl (Xh (Q6 k ⟨⟨b0,b1,b2,b3,b4,b5,b6,b7⟩,fr,fu,fd,ff,fx⟩ l q s a n))/\zc W w'):=dD<|fun W hW q n s a hs ha hn=>by
  obtain⟨a1,a2,a3,a4,a5,a6,a7,a8⟩:=(HOK q s hs).2 a ha;exact zjx (HM.grew (G1.trans hW)) (b+3) (b+2) b (b+1) ⟨⟨b0,b1,b2,b3,b4,b5,b6,b7⟩,fr,fu,fd,ff,fx⟩ k (O ma mn mc) l (F1.grew hW) (M1.grew hW) (P1.grew hW) (K1.grew hW) (HV.grew (G1.trans hW)) q n s a hs hn HF0 (fun e=>⟨⟨a6,by have:a.file=ff:=e;have h0:0<=ff:=HF0.out;have:=a8 (by omega);omega⟩,a1,by omega⟩)
 go_loopg [30] sn (fun gg s30 wr=>∃q:Nat,q<=sn/\sn - q<=gg/\s30=I6 q/\Xp (zc W1 wr)/\Xp (∀(q':Nat) (s:Sp) (i:Nat) (a:Ar) (n:Nat),q'<q->m.sp[q']? =Xa s->s.ars[i]? =Xa a->Zf a n=Xc->n<64->Q6 k ⟨⟨b0,b1,b2,b3,b4,b5,b6,b7⟩,fr,fu,fd,ff,fx⟩ l q' s a n=Xd))
 case atStart=>exact⟨0,nZ _,by omega,rfl,zc.refl _,fun q' s i a n hq=>absurd hq (nL _)⟩
 obtain⟨q,hq,hgq,rfl,GW,A⟩:=hrel
 by_cases hltq:q<sn
 ·have hltz:=kC hltq
  obtain⟨x,hx⟩:∃x,xs[q]? =Xa x:=⟨_,gE (by rw[HXL.out];exact hltq)⟩
  obtain⟨s,HS⟩:∃s,Xp (m.sp[q]? =Xa s):=⟨_,gE (by rw[HSN.out];exact hltq)⟩
  have HAT:Xp (qN w x s):=HSP.out q x s hx HS.out;obtain⟨ad,rfl,hl⟩:=HRW.out q x hx;obtain⟨d0,d1,d2,d3,d4,d5,d6,d7,d8,d9⟩:=hl wr (G1.trans GW);clear hl hx;go_upto_region 6 with fail;obtain⟨g5,HG5⟩:=kA wr.heap.size;obtain⟨W5,hW5⟩:=kB (wr.alloc (Xk #[Xh x.live,x.ar.x,x.t0.x,x.t1.x,x.t2.x,x.t3.x,x.t4.x,x.t5.x,x.t6.x,x.t7.x] 63));have G5:Xp (zc W1 W5):=show zc _ _ from GW.trans (by rw[<-hW5];exact za _ _)
  have S5:=xP hW5 HG5
  rw[hW5,HG5.out];clear hW5 d0 d1 d2 d3 d4 d5 d6 d7 d8 d9;have HAN:Xp (x.ar.n=s.ars.length):=HAT.ar.n;obtain⟨an,HAL⟩:=kA s.ars.length;have han:an<=16:=by rw[<-HAL.out];exact(HOK q s HS).1
  obtain⟨ara,arc,hae,harw⟩:=HAT.ar.ars;simp only[vJ]at hae;have HAR:Xp (zbn w ara s.ars):=harw;have s1:=S5.c 1 rfl;simp only[Sli.x]at s1;rw[hae.1,HAN.out,HAL.out]at s1;clear hae harw;go_wp2;clear s1
  go_loopg [38] an (fun gg s38 wr=>∃j:Nat,j<=an/\an - j<=gg/\s38=I6 j/\Xp (zc W1 wr)/\Xp (∀(i:Nat) (a:Ar) (n:Nat),i<j->s.ars[i]? =Xa a->Zf a n=Xc->n<64->Q6 k ⟨⟨b0,b1,b2,b3,b4,b5,b6,b7⟩,fr,fu,fd,ff,fx⟩ l q s a n=Xd))
  case atStart=>exact⟨0,nZ _,by omega,rfl,G5,fun i a n hi=>absurd hi (nL _)⟩
  obtain⟨j,hj,hgj,rfl,GJ,AJ⟩:=hrel
  by_cases hltj:j<an
  ·have hljz:=kC hltj
   obtain⟨a,HA⟩:∃a,Xp (s.ars[j]? =Xa a):=⟨_,gE (by rw[HAL.out];exact hltj)⟩
   obtain⟨ad2,rfl,hl2⟩:=HAR.out j a HA.out;obtain⟨e0,e1,e2,e3,e4,e5,e6⟩:=hl2 wr (G1.trans GJ);have hok:=(HOK q s HS).2 a (mG HA);obtain⟨fa,hfa⟩:∃fa:Nat,a.fr=(fa:Int):=⟨a.fr.toNat,by have:=hok.1;omega⟩
   obtain⟨ta,hta⟩:∃ta:Nat,a.tz=(ta:Int):=⟨a.tz.toNat,by have:=hok.1;have:=hok.2.1;omega⟩
   have hft:fa<ta:=by have:=hok.2.1;omega
   have hta64:ta<=64:=by have:=hok.2.2.1;omega
   have HMEM:Xp (a∈s.ars):=mG HA.out;have HIN:Xp (∀n:Nat,Zf a n=Xc↔fa<=n/\n<ta):=show∀n:Nat,_ from fun n=>by rw[qd,hfa,hta];omega
   obtain⟨af,at_,ard,awr,ash,afile,abase⟩:=a;simp only at hfa hta e0 e1 e2 e3 e4 e5 e6;subst hfa;subst hta;clear hl2 hok;go_upto_region 9 with fail;obtain⟨g8,HG8⟩:=kA wr.heap.size;obtain⟨W8,hW8⟩:=kB (wr.alloc (Xk #[I6 (fa:Int),I6 (ta:Int),Xh ard,Xh awr,Xh ash,I6 afile,I6 abase] 91));have G8:Xp (zc W1 W8):=dD<|GJ.trans (by rw[<-hW8];exact za _ _)
   have S8:=xP hW8 HG8
   rw[hW8,HG8.out];clear hW8 e0 e1 e2 e3 e4 e5 e6;have y0:=S8.c 0 rfl;go_wp2;clear y0
   go_loopg [13] (ta - fa) (fun gg s13 wr=>∃n:Nat,fa<=n/\n<=ta/\ta - n<=gg/\s13=I6 n/\Xp (zc W1 wr)/\Xp (Box wr g8 [I6 (fa:Int),I6 (ta:Int),Xh ard,Xh awr,Xh ash,I6 afile,I6 abase])/\Xp (∀n':Nat,fa<=n'->n'<n->Q6 k ⟨⟨b0,b1,b2,b3,b4,b5,b6,b7⟩,fr,fu,fd,ff,fx⟩ l q s ⟨(fa:Int),(ta:Int),ard,awr,ash,afile,abase⟩ n'=Xd))
   case atStart=>exact⟨fa,nR _,by omega,by omega,rfl,G8,S8,fun n' h1 h2=>absurd h2 (by omega)⟩
   obtain⟨n,hn1,hn2,hgn,rfl,GN,SN,AN⟩:=hrel;obtain⟨y0,y1,y2,y3,y4,y5,y6⟩:=SN.c7
   by_cases hltn:n<ta
   ·have hlnz:=kC hltn
    have hc:=HSEE.out wr GN q n s _ HS HMEM (by omega)
    simp only at hc;obtain⟨SE,HSE⟩:=kA (Q6 k ⟨⟨b0,b1,b2,b3,b4,b5,b6,b7⟩,fr,fu,fd,ff,fx⟩ l q s ⟨(fa:Int),(ta:Int),ard,awr,ash,afile,abase⟩ n);rw[HSE.out]at hc;go_wp2_with fail;refine hc.mono ?_;rintro e W9 ⟨rfl,g9⟩;have G9:=dD (GN.trans g9);have S9:=dD (SN.grew g9);clear g9 hc y0 y1 y2 y3 y4 y5 y6
    cases SE with
    | true=>
     have HR:Xp (SB=Xc):=HYES.out ⟨q,s,j,_,n,HS,HA,(HIN n).2 ⟨hn1,hltn⟩,by omega,HSE⟩
     go_wp2;go_ret;exact⟨by rw[HR.out];rfl,G1.trans G9⟩
    | false=>
     have A9:Xp (∀n':Nat,fa<=n'->n'<n+1->Q6 k ⟨⟨b0,b1,b2,b3,b4,b5,b6,b7⟩,fr,fu,fd,ff,fx⟩ l q s ⟨(fa:Int),(ta:Int),ard,awr,ash,afile,abase⟩ n'=Xd):=dD<|fun n' h1 h2=>by
      by_cases e:n'=n
      ·subst e;exact HSE.out
      exact AN n' h1 (by omega)
     go_wp2
     go_roundg (ta -(n+1))
     case measure=>omega
     exact⟨n+1,by omega,by omega,by omega,by go_num,G9,S9,A9⟩
   have hlnz:=kD hltn
   have AJ2:Xp (∀(i:Nat) (a:Ar) (n:Nat),i<j+1->s.ars[i]? =Xa a->Zf a n=Xc->n<64->Q6 k ⟨⟨b0,b1,b2,b3,b4,b5,b6,b7⟩,fr,fu,fd,ff,fx⟩ l q s a n=Xd):=dD<|fun i a n' hi ha hin hn'=>by
    by_cases e:i=j
    ·subst e;rw[HA.out]at ha;cases ha;obtain⟨h1,h2⟩:=(HIN n').1 hin;exact AN n' h1 (by omega)
    exact AJ i a n' (by omega) ha hin hn'
   go_wp2
   go_roundg (an -(j+1))
   case measure=>omega
   exact⟨j+1,by omega,by omega,by go_num,GN,AJ2⟩
  have hljz:=kD hltj
  have A2:Xp (∀(q':Nat) (s:Sp) (i:Nat) (a:Ar) (n:Nat),q'<q+1->m.sp[q']? =Xa s->s.ars[i]? =Xa a->Zf a n=Xc->n<64->Q6 k ⟨⟨b0,b1,b2,b3,b4,b5,b6,b7⟩,fr,fu,fd,ff,fx⟩ l q' s a n=Xd):=show∀(q':Nat) (s:Sp) (i:Nat) (a:Ar) (n:Nat),_ from fun q' s' i a n hq' hs' ha hin hn=>by
   by_cases e:q'=q
   ·subst e;rw[HS.out]at hs';cases hs';exact AJ i a n (by have:=(gS.1 ha).1;have:=HAL.out;omega) ha hin hn
   exact A q' s' i a n (by omega) hs' ha hin hn
  go_wp2
  go_roundg (sn -(q+1))
  case measure=>omega
  exact⟨q+1,by omega,by omega,by go_num,GJ,A2⟩
 have hltz:=kD hltq
 have HR:Xp (SB=Xd):=HNO.out fun q' s i a n h1 h2 h3 h4=>A.out q' s i a n (by have:=(gS.1 h1).1;have:=HSN.out;omega) h1 h2 h3 h4
 go_wp2;go_ret;exact⟨by rw[HR.out];rfl,G1.trans GW⟩
theorem zjI (a0 a1 a2 a3 a4 a5 a6 a7 c0 c1 c2 c3 c4 c5 c6 c7:Int) (x:Xo):(Op.equalIn 10000 44 (Xi #[U8 a0,U8 a1,U8 a2,U8 a3,U8 a4,U8 a5,U8 a6,U8 a7]) (Xi #[U8 c0,U8 c1,U8 c2,U8 c3,U8 c4,U8 c5,U8 c6,U8 c7])).run prog x= .ok (decide ([a0,a1,a2,a3,a4,a5,a6,a7]=[c0,c1,c2,c3,c4,c5,c6,c7])) x:=by
 have hk:=zaT 9998 a0 a1 a2 a3 a4 a5 a6 a7 c0 c1 c2 c3 c4 c5 c6 c7 x;rw[show zdQ ⟨a0,a1,a2,a3,a4,a5,a6,a7⟩ ⟨c0,c1,c2,c3,c4,c5,c6,c7⟩=decide ([a0,a1,a2,a3,a4,a5,a6,a7]=[c0,c1,c2,c3,c4,c5,c6,c7])from by
  rw[Bool.eq_iff_iff,zap,decide_eq_true_iff]
  simp]at hk
 exact hk
theorem ziN {w:Xo} {p:Nat} (h:ChW w0 p w V m) (hR:Rt m) (k:Nat) (f:Fr) (hk:m.fs[k]? =Xa f) (hf:f.f≠-1) (hr:f.r≠0) (mv:Xr) (l:List (Nat × Nat)) (hv:zm zcV w mv l):
  Xq prog 165 #[Xj (Xa ⟨p,0,Xb⟩),I6 (k:Int),mv] w fun e w'=>e= Xl (Xh (zeo m k f l).1)/\Chg w0 p w V (zeo m k f l).2 w':=by
 obtain⟨i,c,fi,ix,F,hci,hCI⟩:=zem hR hk hf;have hmem:=mG hci;have hsz:zcR m f.f=F.size:=by unfold zcR;rw[hCI.ff,tN,gD,hCI.fl];rfl
 have hcut:zmq m f=Qr (pgL f.p) (ix:Int) F.size:=by unfold zmq;rw[hsz,hCI.fx]
 have h0:0<=f.f:=by rw[hCI.ff];omega
 obtain⟨bk,hbk⟩:∃bk,F.bl[ix]? =Xa bk:=⟨_,gE hCI.bl⟩;have HM:Xp (ChW w0 p w V m):=h;obtain⟨CU,HCU⟩:=kA (zmq m f);have hcu8:CU.length=8:=by rw[<-HCU.out,hcut];unfold Qr;simp[pgL]
 have HIN:Xp (∀W,zc w W->Xq prog 167 #[Xj (Xa ⟨p,0,Xb⟩),Xi (frv f).toArray] W fun e w'=>e= Xl (Xi (pgc CU).toArray)/\zc W w'):=dD<|fun W hW=>by
  rw[<-HCU.out,hcut];exact(zbh (h.grew hW) f fi ix F hCI.ff hCI.fx hCI.fl hCI.sz hCI.lo).mono fun e w' q=>⟨q.1,q.2.2⟩
 obtain⟨SN,HSN⟩:=kA (zgi m k f l);have HSE:Xp (∀W,zc w W->Xq prog 197 #[Xj (Xa ⟨p,0,Xb⟩),I6 (k:Int),mv] W fun e w'=>e= Xl (Xh SN)/\zc W w'):=dD<|fun W hW=>by
  rw[<-HSN.out];exact ziL (h.grew hW) hR k f hk h0 mv l (hv.grew hW)
 obtain⟨DK,HDK⟩:=kA (Jn m f.f f.x);have hdk8:DK.length=8:=by
  rw[<-HDK.out];have r:=h.at;exact zfB r.db.2.1 r.dq.2.1 _ _
 have HST:Xp (∀W,zc w W->Xq prog 173 #[Xi (mL V m).toArray,I6 (fi:Int),I6 (ix:Int)] W fun e w'=>e= Xl (Xi (pgc DK).toArray)/\zc W w'):=dD<|fun W hW=>by
  rw[<-HDK.out,hCI.ff,hCI.fx];have s1:=hCI.sz;have s2:=hCI.lo;exact(zgf V m fi ix F bk W (h.at.grew hW) hCI.fl hbk (by omega) (by omega)).mono fun e w' q=>⟨q.1,q.2.2⟩
 obtain⟨BE,HBE⟩:=kA (decide (QY m.fl m.cnt f.f f.x=0));have HWR:Xp (∀W,zc w W->Xq prog 119 #[Xj (Xa ⟨p,0,Xb⟩),I6 (k:Int)] W fun e w'=>e= Xl (Xh BE)/\Chg w0 p w V (wrM m CU f.f f.x) w'):=dD<|fun W hW=>by
  have kk:=zmo (h.grew hW) k f hk fi ix F hCI.ff hCI.fx hCI.fl hCI.sz hCI.lo;rw[<-hcut,HCU.out,<-hCI.ff,<-hCI.fx,HBE.out]at kk;exact kk.mono fun e w' q=>⟨q.1,Chg.of_grew hW q.2.chg⟩
 have HUN:Xp (∀W V1,ChW w0 p W V1 (wrM m CU f.f f.x)->Xq prog 198 #[Xj (Xa ⟨p,0,Xb⟩),I6 (k:Int)] W fun e w'=>(∃v,e= Xl v)/\Chg w0 p W V1 (jI (wrM m CU f.f f.x) k) w'):=dD<|fun W V1 h1=>by
  have hr1:Rt (wrM m CU f.f f.x):=by
   by_cases e:QY m.fl m.cnt f.f f.x=0
   ·obtain⟨b,e1,e2,_⟩:=zmS (fun _ _=>False) hR hmem hCI e CU
    rw[e1];exact e2.rt
   have:wrM m CU f.f f.x=m:=by unfold wrM;rw[kF e]
   rw[this];exact hR
  exact zfE h1 hr1 k f (by rw[zjk];exact hk) hf hr
 have HUN0:Xp (∀W,zc w W->Xq prog 198 #[Xj (Xa ⟨p,0,Xb⟩),I6 (k:Int)] W fun e w'=>(∃v,e= Xl v)/\Chg w0 p w V (jI m k) w'):=dD<|fun W hW=>(zfE (h.grew hW) hR k f hk hf hr).mono fun e w' q=>⟨q.1,Chg.of_grew hW q.2⟩
 obtain⟨PE,HPE⟩:=kA (decide (CU=pgL f.p));obtain⟨ST,HSTB⟩:=kA (decide (DK=CU));obtain⟨DR,HDR⟩:=kA (zeo m k f l);have HD:Xp (DR=if PE=Xd/\SN=Xc then(Xd,m)else if f.d=Xc\/ST=Xd then(if BE=Xc then(Xc,jI (wrM m CU f.f f.x) k)else if ST=Xc then(Xc,jI m k)else(Xd,m))else(Xc,jI m k)):=dD<|by
  rw[<-HDR.out];unfold zeo;rw[HCU.out,HSN.out,HDK.out,<-HPE.out,<-HSTB.out,<-HBE.out];simp only[decide_eq_false_iff_not,decide_eq_true_eq]
 have HWN:Xp (BE=Xd->wrM m CU f.f f.x=m):=dD<|fun e=>by
  unfold wrM;rw[kF (of_decide_eq_false (HBE.trans e))]
 rw[HDR.out];obtain⟨N1,HN1⟩:=kA (wrM m CU f.f f.x);rw[HN1.out]at HWR HUN HD HWN;obtain⟨n1,-⟩:=h.at.ns;obtain⟨ad,ha,hl⟩:=h.at.frs k f hk;have HFA:Xp (V.f.a=Xa ad):=ha;have HFC:Xp (∀W,zc w W->ZQ W (ad.add (k*13)) f):=show∀W,_ from hl
 have hlt:(k:Int)< (V.f.n:Int):=by
  have:=(gS.1 hk).1;omega
 have hff:=hCI.ff;have hfx:=hCI.fx;obtain⟨c0,c1,c2,c3,c4,c5,c6,c7,hce⟩:=zdZ CU hcu8;obtain⟨k0,k1,k2,k3,k4,k5,k6,k7,hke⟩:=zdZ DK hdk8;obtain⟨⟨b0,b1,b2,b3,b4,b5,b6,b7⟩,fr,fu,fd,ff,fx⟩:=f;dsimp only at hff hfx HPE HD;have hqe:∀W,(Op.equalIn 10000 44 (Xi #[U8 c0,U8 c1,U8 c2,U8 c3,U8 c4,U8 c5,U8 c6,U8 c7]) (Xi #[U8 b0,U8 b1,U8 b2,U8 b3,U8 b4,U8 b5,U8 b6,U8 b7])).run prog W= .ok PE W:=fun W=>by
  rw[zjI];have:=HPE.out;rw[hce]at this;rw[<-this];rfl
 have hqs:∀W,(Op.equalIn 10000 44 (Xi #[U8 k0,U8 k1,U8 k2,U8 k3,U8 k4,U8 k5,U8 k6,U8 k7]) (Xi #[U8 c0,U8 c1,U8 c2,U8 c3,U8 c4,U8 c5,U8 c6,U8 c7])).run prog W= .ok ST W:=fun W=>by
  rw[zjI,<-hce,<-hke,HSTB.out]
 rw[hce]at HIN;rw[hke]at HST;subst hff;subst hfx;simp only[pgc,frv,mP,Og]at HIN HST;clear h hR hk hf hr hv hci hCI hmem hsz hcut h0 hbk hcu8 hdk8 ha hl n1 hce hke;have x0:=HM.box.box.c 0 rfl;simp only[Sli.x]at x0;rw[HFA.out]at x0;obtain⟨d0,d1,d2,d3,d4,d5,d6,d7,d8,d9,d10,d11,d12⟩:=HFC.out w (zc.refl _);dsimp only at d0 d1 d2 d3 d4 d5 d6 d7 d8 d9 d10 d11 d12
 go_enter func165,ntmps165
 go_upto_region 2 with fail;clear d0 d1 d2 d3 d4 d5 d6 d7 d8 d9 d10 d11 d12 x0;obtain⟨b,HB⟩:=kA w.heap.size;obtain⟨W1,hW1⟩:=kB (w.alloc (Xk #[U8 b0,U8 b1,U8 b2,U8 b3,U8 b4,U8 b5,U8 b6,U8 b7,I6 fr,Xh fu,Xh fd,I6 (fi:Int),I6 (ix:Int)] 53));have G1:=gA hW1
 have Y1:=xP hW1 HB
 rw[hW1,HB.out];clear hW1;have hy:∀y:zn W1,Box y.world b [U8 b0,U8 b1,U8 b2,U8 b3,U8 b4,U8 b5,U8 b6,U8 b7,I6 fr,Xh fu,Xh fd,I6 (fi:Int),I6 (ix:Int)]:=fun y=>Y1.grew y.grew
 have HY:Xp (∀y:zn W1,_):=hy;clear hy;have hy0:=fun y=>(HY y).c 0 rfl
 have hy1:=fun y=>(HY y).c 1 rfl
 have hy2:=fun y=>(HY y).c 2 rfl
 have hy3:=fun y=>(HY y).c 3 rfl
 have hy4:=fun y=>(HY y).c 4 rfl
 have hy5:=fun y=>(HY y).c 5 rfl
 have hy6:=fun y=>(HY y).c 6 rfl
 have hy7:=fun y=>(HY y).c 7 rfl
 have hy8:=fun y=>(HY y).c 8 rfl
 have hy9:=fun y=>(HY y).c 9 rfl
 have hy10:=fun y=>(HY y).c 10 rfl
 have hy11:=fun y=>(HY y).c 11 rfl
 have hy12:=fun y=>(HY y).c 12 rfl
 have hne:Nonempty (zn W1):=⟨⟨_,zc.refl _⟩⟩
 go_cut [30] (fun s30 wx=>s30= Xh (!PE && SN)/\Xp (zc W1 wx))
 case first=>
  cases PE with
  | true=>
   refine ji [(2,⟨fun v=>v= Xi #[U8 c0,U8 c1,U8 c2,U8 c3,U8 c4,U8 c5,U8 c6,U8 c7],fun v w'=>True⟩)] zW (by kernel_rfl) ?hS ?hp ?_
   case hS=>
    intro x hx;simp only[mC,nM,or_false]at hx;subst hx;exact⟨_,rfl⟩
   case hp=>
    intro x hx;simp only[mC,nM,or_false]at hx;subst hx;exact fun _ _ _ _ h=>h
   iterate 2 (refine zd rfl rfl rfl (fun K hK=>?_);go_big_quiet_op;refine hK _ ?_;clear hK)
   refine zE rfl rfl (fun w' hg hF=>?_) (fun v1 hv=>?_)
   ·refine zQ.call [Xj (Xa ⟨p,0,Xb⟩),Xi #[U8 b0,U8 b1,U8 b2,U8 b3,U8 b4,U8 b5,U8 b6,U8 b7,I6 fr,Xh fu,Xh fd,I6 (fi:Int),I6 (ix:Int)]] rfl func167 rfl rfl rfl ?_;refine(HIN w' (G1.trans hg)).mono ?_;rintro e w'' ⟨rfl,g2⟩;exact⟨_,rfl,g2,rfl,trivial⟩
   subst hv;simp only[Xt,sB,sS,sZ];iterate 4 (refine zd rfl rfl rfl (fun K hK=>?_);go_big_quiet_op;refine hK _ ?_;clear hK)
   iterate 4 (refine qa (by kernel_rfl) ?_;simp only[Xt,sB,sS,sZ])
   iterate 1 (refine zd rfl rfl rfl (fun K hK=>?_);go_big_quiet_op;refine hK _ ?_;clear hK)
   refine z6 fun W2 g2 hF=>?_
   have G2:Xp (zc W1 W2):=g2;clear g2 hF hne hy0 hy1 hy2 hy3 hy4 hy5 hy6 hy7 hy8 hy9 hy10 hy11 hy12;go_wp2
   go_meet
   exact⟨rfl,G2⟩
  | false=>
   refine ji [(2,⟨fun v=>v= Xi #[U8 c0,U8 c1,U8 c2,U8 c3,U8 c4,U8 c5,U8 c6,U8 c7],fun v w'=>True⟩),(10,⟨fun v=>v= Xh SN,fun v w'=>True⟩)] zW (by kernel_rfl) ?hS ?hp ?_
   case hS=>
    intro x hx;simp only[mC,nM,or_false]at hx
    rcases hx with rfl|rfl
    ·exact⟨_,rfl⟩
    exact⟨_,rfl⟩
   case hp=>
    intro x hx;simp only[mC,nM,or_false]at hx
    rcases hx with rfl|rfl
    ·exact fun _ _ _ _ h=>h
    exact fun _ _ _ _ h=>h
   iterate 2 (refine zd rfl rfl rfl (fun K hK=>?_);go_big_quiet_op;refine hK _ ?_;clear hK)
   refine zE rfl rfl (fun w' hg hF=>?_) (fun v1 hv=>?_)
   ·refine zQ.call [Xj (Xa ⟨p,0,Xb⟩),Xi #[U8 b0,U8 b1,U8 b2,U8 b3,U8 b4,U8 b5,U8 b6,U8 b7,I6 fr,Xh fu,Xh fd,I6 (fi:Int),I6 (ix:Int)]] rfl func167 rfl rfl rfl ?_;refine(HIN w' (G1.trans hg)).mono ?_;rintro e w'' ⟨rfl,g2⟩;exact⟨_,rfl,g2,rfl,trivial⟩
   subst hv;simp only[Xt,sB,sS,sZ];iterate 7 (refine zd rfl rfl rfl (fun K hK=>?_);go_big_quiet_op;refine hK _ ?_;clear hK)
   refine zE rfl rfl (fun w' hg hF=>?_) (fun v1 hv=>?_)
   ·refine zQ.call [Xj (Xa ⟨p,0,Xb⟩),I6 (k:Int),mv] rfl func197 rfl rfl rfl ?_;refine(HSE w' (G1.trans hg)).mono ?_;rintro e w'' ⟨rfl,g2⟩;exact⟨_,rfl,g2,rfl,trivial⟩
   subst hv;simp only[Xt,sB,sS,sZ];iterate 1 (refine zd rfl rfl rfl (fun K hK=>?_);go_big_quiet_op;refine hK _ ?_;clear hK)
   refine z6 fun W2 g2 hF=>?_
   have G2:Xp (zc W1 W2):=g2;clear g2 hF hne hy0 hy1 hy2 hy3 hy4 hy5 hy6 hy7 hy8 hy9 hy10 hy11 hy12;go_wp2
   go_meet
   exact⟨rfl,G2⟩
 obtain⟨rfl,G2⟩:=hcut;clear hne hy0 hy1 hy2 hy3 hy4 hy5 hy6 hy7 hy8 hy9 hy10 hy11 hy12;obtain⟨T,HT⟩:=kA (!PE && SN);rw[HT.out]
 cases T with
 | true=>
  have HR:Xp (DR=(Xd,m)):=dD<|by
   rw[HD.out,kE];have:=HT.out
   cases PE <;> cases SN <;> simp_all
  go_wp2;go_ret;exact⟨by rw[HR.out];rfl,by rw[HR.out];exact Chg.refl HM (G1.trans G2)⟩
 | false=>
  have HD2:Xp (DR=if fd=Xc\/ST=Xd then(if BE=Xc then(Xc,jI N1 k)else if ST=Xc then(Xc,jI m k)else(Xd,m))else(Xc,jI m k)):=dD<|by
   rw[HD.out,kF];have:=HT.out
   cases PE <;> cases SN <;> simp_all
  go_upto_region 4 with fail;have HGW:=dD (G1.trans G2);have Y2:=dD (Y1.grew G2);have hy0:=fun y:zn wc=>(Y2.grew y.grew).c 0 rfl
  have hy1:=fun y:zn wc=>(Y2.grew y.grew).c 1 rfl
  have hy2:=fun y:zn wc=>(Y2.grew y.grew).c 2 rfl
  have hy3:=fun y:zn wc=>(Y2.grew y.grew).c 3 rfl
  have hy4:=fun y:zn wc=>(Y2.grew y.grew).c 4 rfl
  have hy5:=fun y:zn wc=>(Y2.grew y.grew).c 5 rfl
  have hy6:=fun y:zn wc=>(Y2.grew y.grew).c 6 rfl
  have hy7:=fun y:zn wc=>(Y2.grew y.grew).c 7 rfl
  have hy8:=fun y:zn wc=>(Y2.grew y.grew).c 8 rfl
  have hy9:=fun y:zn wc=>(Y2.grew y.grew).c 9 rfl
  have hy10:=fun y:zn wc=>(Y2.grew y.grew).c 10 rfl
  have hy11:=fun y:zn wc=>(Y2.grew y.grew).c 11 rfl
  have hy12:=fun y:zn wc=>(Y2.grew y.grew).c 12 rfl
  have hp0:=fun y:zn wc=>(HM.box.box.grew (HGW.trans y.grew)).c 0 rfl
  have hp1:=fun y:zn wc=>(HM.box.box.grew (HGW.trans y.grew)).c 1 rfl
  have hp2:=fun y:zn wc=>(HM.box.box.grew (HGW.trans y.grew)).c 2 rfl
  have hp3:=fun y:zn wc=>(HM.box.box.grew (HGW.trans y.grew)).c 3 rfl
  have hp4:=fun y:zn wc=>(HM.box.box.grew (HGW.trans y.grew)).c 4 rfl
  have hp5:=fun y:zn wc=>(HM.box.box.grew (HGW.trans y.grew)).c 5 rfl
  have hp6:=fun y:zn wc=>(HM.box.box.grew (HGW.trans y.grew)).c 6 rfl
  have hp7:=fun y:zn wc=>(HM.box.box.grew (HGW.trans y.grew)).c 7 rfl
  have hp8:=fun y:zn wc=>(HM.box.box.grew (HGW.trans y.grew)).c 8 rfl
  have hp9:=fun y:zn wc=>(HM.box.box.grew (HGW.trans y.grew)).c 9 rfl
  have hp10:=fun y:zn wc=>(HM.box.box.grew (HGW.trans y.grew)).c 10 rfl
  have hne:Nonempty (zn wc):=⟨⟨_,zc.refl _⟩⟩;refine ji [(8,⟨fun v=>v= Xi #[U8 k0,U8 k1,U8 k2,U8 k3,U8 k4,U8 k5,U8 k6,U8 k7],fun v w'=>True⟩),(11,⟨fun v=>v= Xi #[U8 c0,U8 c1,U8 c2,U8 c3,U8 c4,U8 c5,U8 c6,U8 c7],fun v w'=>True⟩)] zW (by kernel_rfl) ?hS ?hp ?_
  case hS=>
   intro x hx;simp only[mC,nM,or_false]at hx
   rcases hx with rfl|rfl
   ·exact⟨_,rfl⟩
   exact⟨_,rfl⟩
  case hp=>
   intro x hx;simp only[mC,nM,or_false]at hx
   rcases hx with rfl|rfl
   ·exact fun _ _ _ _ h=>h
   exact fun _ _ _ _ h=>h
  iterate 1 (refine zd rfl rfl rfl (fun K hK=>?_);go_big_quiet_op;refine hK _ ?_;clear hK)
  refine zlT (.tmp 31) ⟨p,0,Xb⟩ rfl rfl rfl rfl ?_;simp only[Xt,sB,sS,sZ];iterate 6 (refine zd rfl rfl rfl (fun K hK=>?_);go_big_quiet_op;refine hK _ ?_;clear hK)
  refine zE rfl rfl (fun w' hg hF=>?_) (fun v1 hv=>?_)
  ·refine zQ.call [Xi (mL V m).toArray,I6 (fi:Int),I6 (ix:Int)] rfl func173 rfl rfl rfl ?_;refine(HST w' (HGW.trans hg)).mono ?_;rintro e w'' ⟨rfl,g2⟩;exact⟨_,rfl,g2,rfl,trivial⟩
  subst hv;simp only[Xt,sB,sS,sZ];iterate 2 (refine zd rfl rfl rfl (fun K hK=>?_);go_big_quiet_op;refine hK _ ?_;clear hK)
  refine zE rfl rfl (fun w' hg hF=>?_) (fun v1 hv=>?_)
  ·refine zQ.call [Xj (Xa ⟨p,0,Xb⟩),Xi #[U8 b0,U8 b1,U8 b2,U8 b3,U8 b4,U8 b5,U8 b6,U8 b7,I6 fr,Xh fu,Xh fd,I6 (fi:Int),I6 (ix:Int)]] rfl func167 rfl rfl rfl ?_;refine(HIN w' (HGW.trans hg)).mono ?_;rintro e w'' ⟨rfl,g2⟩;exact⟨_,rfl,g2,rfl,trivial⟩
  subst hv;simp only[Xt,sB,sS,sZ];iterate 2 (refine zd rfl rfl rfl (fun K hK=>?_);go_big_quiet_op;refine hK _ ?_;clear hK)
  refine z6 fun W4 g4 hF=>?_
  have G4:=dD (HGW.trans g4);have Y4:=dD (Y2.grew g4);clear g4 hF hne hy0 hy1 hy2 hy3 hy4 hy5 hy6 hy7 hy8 hy9 hy10 hy11 hy12 hp0 hp1 hp2 hp3 hp4 hp5 hp6 hp7 hp8 hp9 hp10 hqe hqs;have y10:=Y4.c 10 rfl;go_upto_region 5 with fail
  go_cut [49] (fun s49 wx=>s49= Xh (fd || !ST)/\wx=W4)
  case first=>
   cases fd <;> cases ST
   all_goals (go_wp2;go_meet;exact⟨rfl,rfl⟩)
  obtain⟨rfl,rfl⟩:=hcut;clear y10;obtain⟨T5,HT5⟩:=kA (fd || !ST);rw[HT5.out]
  cases T5 with
  | false=>
   have HR:Xp (DR=(Xc,jI m k)):=dD<|by
    rw[HD2.out,kF];have:=HT5.out
    cases fd <;> cases ST <;> simp_all
   have hun:=HUN0.out wc G4.out;go_wp2_with fail;refine hun.mono ?_;clear hun;rintro e W6 ⟨⟨v6,rfl⟩,h6⟩;have M6:Xp (Chg w0 p w V DR.2 W6):=dD<|by rw[HR.out];exact h6
   clear h6;go_wp2;go_ret;exact⟨by rw[HR.out];rfl,M6⟩
  | true=>
   have HD3:Xp (DR=if BE=Xc then(Xc,jI N1 k)else if ST=Xc then(Xc,jI m k)else(Xd,m)):=dD<|by
    rw[HD2.out,kE];have:=HT5.out
    cases fd <;> cases ST <;> simp_all
   have hwr:=HWR.out wc G4.out;go_wp2_with fail;refine hwr.mono ?_;clear hwr;rintro e W6 ⟨rfl,V6,c6,o6,d6⟩;have M6:Xp (ChW w0 p W6 V6 N1):=c6;have O6:Xp (qW (Dw p V) w W6):=o6;have D6:Xp (∀k,Dw p V6 k->Dw p V k\/w.heap.size<=k):=d6;have hun:=HUN.out W6 V6 c6;clear c6 o6 d6;go_upto_region 7 with fail
   go_cut [58] (fun s58 wx=>s58= Xh (!BE && !ST)/\wx=W6)
   case first=>
    cases BE <;> cases ST
    all_goals (go_wp2;go_meet;exact⟨rfl,rfl⟩)
   obtain⟨rfl,rfl⟩:=hcut;obtain⟨T7,HT7⟩:=kA (!BE && !ST);rw[HT7.out]
   cases T7 with
   | true=>
    have HR:Xp (DR=(Xd,m)/\N1=m):=dD<|by
     have h1:=HT7.out;have h2:=HWN.out;rw[HD3.out]
     cases BE <;> cases ST <;> simp_all
    have M7:Xp (Chg w0 p w V DR.2 wc):=dD<|by
     rw[HR.1,<-HR.2];exact⟨V6,M6,O6,D6⟩
    clear hun;go_wp2;go_ret;exact⟨by rw[HR.1];rfl,M7⟩
   | false=>
    have HR:Xp (DR=(Xc,jI N1 k)):=dD<|by
     have h1:=HT7.out;have h2:=HWN.out;rw[HD3.out]
     cases BE <;> cases ST <;> simp_all
    go_wp2_with fail;refine hun.mono ?_;clear hun;rintro e W8 ⟨⟨v8,rfl⟩,h8⟩;have M8:Xp (Chg w0 p w V DR.2 W8):=dD<|by rw[HR.out];exact Chg.step O6 D6 h8
    clear h8;go_wp2;go_ret;exact⟨by rw[HR.out];rfl,M8⟩
theorem zgM {w:Xo} {p:Nat} (h:ChW w0 p w V m) (hR:Rt m) (k:Nat) (f:Fr) (hk:m.fs[k]? =Xa f) (hr:f.r≠0) (mv:Xr) (l:List (Nat × Nat)) (hv:zm zcV w mv l):
  Xq prog 118 #[Xj (Xa ⟨p,0,Xb⟩),I6 (k:Int),mv] w fun e w'=>e= Xl (Xh (jJ m k f l).1)/\Chg w0 p w V (jJ m k f l).2 w':=by
 obtain⟨n1,-⟩:=h.at.ns;obtain⟨ad,ha,hl⟩:=h.at.frs k f hk;have hlt:(k:Int)< (V.f.n:Int):=by
  have:=(gS.1 hk).1;omega
 have x0:=h.box.box.c 0 rfl;simp only[Sli.x]at x0;rw[ha]at x0;obtain⟨d0,d1,d2,d3,d4,d5,d6,d7,d8,d9,d10,d11,d12⟩:=hl w (zc.refl _);clear d0 d1 d2 d3 d4 d5 d6 d7 d8 d9 d10 d12 hl ha n1;obtain⟨ff,HFF⟩:=kA f.f;rw[HFF.out]at d11
 by_cases hf:f.f=-1
 ·have hc:=ziK h hR k f hk hr;have HE:Xp (jJ m k f l=zaP m k f):=dD<|by unfold jJ;rw[kE hf]
  have hz:(ff == -1)=Xc:=by rw[<-HFF.out,hf];rfl
  rw[HE.out];obtain⟨E,HEE⟩:=kA (zaP m k f);rw[HEE.out]at hc⊢;clear h hR hk hr hv hf
  go_enter func118,ntmps118
  go_wp2_with fail;refine hc.mono ?_;clear hc x0 d11;rintro e W2 ⟨rfl,h2⟩;have H2:Xp (Chg w0 p w V E.2 W2):=h2;clear h2;go_wp2;go_ret;exact⟨rfl,H2⟩
 have hc:=ziN h hR k f hk hf hr mv l hv;have HE:Xp (jJ m k f l=zeo m k f l):=dD<|by unfold jJ;rw[kF hf]
 have hz:(ff == -1)=Xd:=by rw[<-HFF.out];simpa using hf
 rw[HE.out];obtain⟨E,HEE⟩:=kA (zeo m k f l);rw[HEE.out]at hc⊢;clear h hR hk hr hv hf
 go_enter func118,ntmps118
 go_wp2_with fail;refine hc.mono ?_;clear hc x0 d11;rintro e W2 ⟨rfl,h2⟩;have H2:Xp (Chg w0 p w V E.2 W2):=h2;clear h2;go_wp2;go_ret;exact⟨rfl,H2⟩
end
end Go.Proofs.YtacihbmelcegbaaGreat
