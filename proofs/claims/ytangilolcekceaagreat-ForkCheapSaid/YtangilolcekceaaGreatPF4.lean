import Derived.Test.YtangilolcekceaaGreatPF3
import Derived.Deep.DeepCutAuto
import Derived.RangeFuncCalls
namespace Go.Proofs.YtangilolcekceaaGreat
set_option maxRecDepth 100000
set_option maxHeartbeats 4000000
section
open Go.RowKit
theorem Keeps.own {hi g:Nat} {a b c:World} (h:Keeps hi a b) (hg:b.grownBy c (some g)) (ha:a.heap.size<=g):Keeps hi a c:=⟨fun p t cs h1 h2=>(h.1 p t cs h1 h2).beside hg (fun k e=>by cases e;have:=h1.box.lt;omega),nT h.2 hg.size⟩
theorem lookup_in {α:Type} {k:Nat} {s:α}:∀{S:List (Nat × α)},S.lookup k=some s->(k,s)∈S
 | [],h=>by simp at h
 | (p,a) :: S,h=>by
  by_cases h1:k=p
  ·subst h1
   simp at h
   subst h;simp
  have e1:(k == p)=false:=by simpa using h1
  rw[List.lookup_cons,e1]at h;exact List.mem_cons_of_mem _ (lookup_in h)
theorem tw_split {α:Type} {p:α->Bool}:∀{l:List α} {k:Nat},(∀(j:Nat) x,j<k->l[j]? =some x->p x=true)->(∀x,l[k]? =some x->p x=false)->k<=l.length->l.takeWhile p=l.take k/\l.dropWhile p=l.drop k
 | [],0,_,_,_=>⟨rfl,rfl⟩
 | [],k+1,_,_,h=>by simp at h
 | x :: l,0,_,h,_=>by
  have:=h x rfl
  simp[this]
 | x :: l,k+1,h1,h2,h3=>by
  have hx:=h1 0 x (Nat.zero_lt_succ _) rfl;obtain⟨e1,e2⟩:=tw_split (l:=l) (k:=k) (fun j y hj hy=>h1 (j+1) y (by omega) (by simpa using hy)) (fun y hy=>h2 y (by simpa using hy)) (by simpa using h3)
  simp[hx,e1,e2]
theorem Tryz.sizeCached:(Tryz.prog.info? 83).map (·.size)=some 3:=by kernel_rfl
theorem size_cached (w:World):(Go.sizeOf 83).run Tryz.prog w= .ok 3 w:=by
 obtain⟨i0,h1,h2⟩:∃i0,Tryz.prog.info? 83=some i0/\i0.size=3:=by
  have:=Tryz.sizeCached
  cases hq:Tryz.prog.info? 83 with
  | none=>rw[hq]at this;cases this
  | some i0=>rw[hq]at this;exact⟨i0,rfl,by simpa using this⟩
 simp[Go.sizeOf,typeInfo,h1,h2]
theorem run_upto {w:World} {a:Option Addr} {n c k:Nat} (hk:k<=c):(Instr.sliceAt 37 (.slice a n c) none (some (.int .i64 (k:Int))) none).run Tryz.prog w= .ok (.slice a k c) w:=by
 have h1:(0:Int)<=(k:Int)/\(k:Int)<=(c:Int):=by omega
 simp only[Instr.sliceAt,Instr.slice,Instr.sliceBounds,Instr.sliceBound,asIntOf,Sem.run_bind,Sem.run_pure,rA,run_underlying Tryz.underlying37];rw[if_pos h1];simp only[Sem.run_pure,rA,size_cached,tN]
 cases a with
 | none=>simp
 | some ad=>by_cases hc:c=0 <;> simp[hc,Addr.add]
theorem run_from {w:World} {a:Option Addr} {n c k:Nat} (hk:k<=n):(Instr.sliceAt 37 (.slice a n c) (some (.int .i64 (k:Int))) none none).run Tryz.prog w= .ok (.slice (a.map fun ad=>if c=k then ad else ad.add (k*3)) (n - k) (c - k)) w:=by
 have h1:(0:Int)<=(k:Int)/\(k:Int)<=(n:Int):=by omega
 simp only[Instr.sliceAt,Instr.slice,Instr.sliceBounds,Instr.sliceBound,asIntOf,Sem.run_bind,Sem.run_pure,rA,run_underlying Tryz.underlying37];rw[if_pos h1];simp only[Sem.run_pure,rA,size_cached,tN]
 cases a with
 | none=>simp
 | some ad=>by_cases hc:c=k <;> simp[hc]
theorem RowAt.upto {w:World} {a:Option Addr} {n c k:Nat} {l:List Ca} (h:RowAt cchE w (.slice a n c) l) (hk:k<=n):RowAt cchE w (.slice a k c) (l.take k):=by
 have hn:=h.n;obtain⟨⟨xa,xc,q1,q2,q3⟩,q4⟩:=h;cases q1;refine⟨⟨a,c,by rw[List.length_take,Nat.min_eq_left (by omega)],fun e=>by rw[q2 e];simp,fun ad e=>?_⟩,?_⟩
 ·intro j u hj;refine q3 ad e j u ?_;have hs:l.flatMap cchE.enc=(l.take k).flatMap cchE.enc++(l.drop k).flatMap cchE.enc:=by rw[<-List.flatMap_append,List.take_append_drop]
  rw[hs,List.getElem?_append_left (gS.1 hj).1];exact hj
 refine nT (Nat.mul_le_mul_right _ ?_) q4;rw[List.length_take];omega
theorem RowAt.from {w:World} {a:Option Addr} {n c k:Nat} {l:List Ca} (h:RowAt cchE w (.slice a n c) l) (hk:k<=n) (hc:n<=c):RowAt cchE w (.slice (a.map fun ad=>if c=k then ad else ad.add (k*3)) (n - k) (c - k)) (l.drop k):=by
 have hn:=h.n;obtain⟨⟨xa,xc,q1,q2,q3⟩,q4⟩:=h;cases q1;refine⟨⟨_,_,by rw[List.length_drop],fun e=>?_,fun ad e=>?_⟩,?_⟩
 ·cases a with
  | none=>rw[q2 rfl];simp
  | some ad=>cases e
 ·cases a with
  | none=>cases e
  | some ad0=>
   simp only[Option.map_some,Option.some.injEq]at e;intro j u hj
   by_cases hck:c=k
   ·have:l.drop k=[]:=List.drop_eq_nil_of_le (by omega)
    rw[this]at hj
    simp at hj
   rw[if_neg hck]at e;subst e;rw[add_add'];refine q3 ad0 rfl _ u ?_;have hs:l.flatMap cchE.enc=(l.take k).flatMap cchE.enc++(l.drop k).flatMap cchE.enc:=by rw[<-List.flatMap_append,List.take_append_drop]
   have hl:((l.take k).flatMap cchE.enc).length=k*3:=by rw[row_len,List.length_take,Nat.min_eq_left (by omega)];rfl
   rw[hs,aR (by rw[hl];omega),hl,show k*3+j - k*3=j by omega]
   exact hj
 refine nT (Nat.mul_le_mul_right _ ?_) q4;rw[List.length_drop];omega
theorem own_cached (w:World) (c:Ca):OwnRow cchE w.heap.size (w.alloc (.cells #[.int .i64 c.file,.int .i64 c.idx,.int .i64 c.fr] 83)) (.slice (some ⟨w.heap.size,0,none⟩) 1 1) [c]:=by
 refine⟨⟨rfl,.inr ⟨w.heap.size,1,#[.int .i64 c.file,.int .i64 c.idx,.int .i64 c.fr],rfl,nR _,?_,nR _,maxLen_of (by omega),rfl,rfl⟩⟩,by show 1*24<=_;omega⟩
 show(w.heap.push _)[w.heap.size]? =_
 simp[cchE]
theorem BoxT.part {w:World} {b:Nat} {t:TypeId}:∀{ds cs:List Value} {o:Nat},BoxT w b t cs->o+ds.length<=cs.length->BoxT (w.setCells b o ds) b t (splice cs o ds):=by
 have key:∀(ds cs:List Value) (o:Nat) (w:World),BoxT w b t cs->o+ds.length<=cs.length->BoxT (w.setCells b o ds) b t (splice cs o ds):=fun ds=>by
  induction ds with
  | nil=>
   intro cs o w h hl;have:splice cs o []=cs:=by simp[splice]
   rw[this];exact h
  | cons d ds ih=>
   intro cs o w h hl;simp only[List.length_cons]at hl;have h1:=h.set o d;have h2:=ih (cs.set o d) (o+1) (w.setCell ⟨b,o,none⟩ d) h1 (by simp;omega)
   have h3:splice (cs.set o d) (o+1) ds=splice cs o (d :: ds):=by
    unfold splice;rw[List.take_set,List.drop_set,if_pos (by omega),List.take_add_one,gE (by omega)]
    simp only[List.length_cons,Option.toList_some];rw[List.set_append_right _ _ (by simp;omega),show o+1+ds.length=o+(ds.length+1) by omega]
    simp[List.length_take,Nat.min_eq_left (show o<=cs.length by omega)]
   rw[h3]at h2;exact h2
 exact fun{ds cs o} h hl=>key ds cs o w h hl
theorem wp_storeAllT {ops:Array Oper} {rest:List Oper} {o:Oper} {a:Act} {w:World} {Q:Exit->Act->World->Prop} (hgd:o.guard=none) (ty:TypeId) (p x:Operand) (ho:o.op= .store ty p x) (b:Nat) (hp:a.eval p= .pointer (some ⟨b,0,none⟩)) (vs:List Value) (hx:a.eval x= .agg vs.toArray)
  {cs:List Value} {t:TypeId} (hb:BoxT w b t cs) (hl:vs.length=cs.length) (hi:(Tryz.prog.info? ty).map (·.size)=some cs.length) (h1:∀v∈vs,v.oneCell'=true)
  (h:∀w',BoxT w' b t vs->w.grownBy w' (some b)->w'.heap.size=w.heap.size->wpList Tryz.prog ops Q rest (a.put o.dst undef) w'):wpList Tryz.prog ops Q (o :: rest) a w:=by
 refine wpList_store_mid hgd ty p x ho b 0 vs.toArray hp hx ?_ ?_ (all_oneCell_toArray h1) ?_
 ·simpa [hl]using hb.box.there
 ·simpa [hl]using hi
 have:=hb.part (ds:=vs) (o:=0) (by omega)
 rw[splice_all hl]at this;exact h _ this (setCells_grown b vs 0 w).1 (setCells_grown b vs 0 w).2
theorem MkE.trans {w0 w w1 w':World} {hi b:Nat} {L L1:List Int} {V':MaV} {m':Ma} {vt':Sli} {T':List (Nat->En)} (h1:Less L L1) (h2:Keeps hi w w1) (h:MkE w0 hi b w1 L1 V' m' vt' T' w'):MkE w0 hi b w L V' m' vt' T' w':=by
 obtain⟨vl',L',k1,k2,k3⟩:=h;exact⟨vl',L',k1,h1.trans k2,h2.trans k3⟩
theorem Mk.page {w0 w w':World} {hi b pp:Nat} {vl:Sli} {L:List Int} {V:MaV} {m:Ma} {vt:Sli} {T:List (Nat->En)} {cs:List Value} (h:Mk w0 hi w b vl L V m vt T) (hp:BoxT w pp 50 cs) (hh:hi<=pp) (hg:w.grownBy w' (some pp)):Mk w0 hi w' b vl L V m vt T:=by
 have hne:b≠pp:=fun e=>by
  subst e;have h1:w.heap[b]? =_:=h.box;rw[show w.heap[b]? =_ from hp]at h1
  cases h1
 exact⟨grew_grown h.gr hg (nT h.rows.bh hh),h.hb,h.box.beside hg (fun k e=>by cases e;exact hne),h.lr,h.lc,h.lb,h.rows.var hg hp hg.size (.inr ⟨rfl,hh⟩)⟩
theorem loc_page {hi pp:Nat} (h:hi<=pp):Loc hi pp 50:=⟨by decide,by decide,by decide,by decide,by decide,by decide,by decide,by decide,fun _=>h⟩
theorem MkR.setCa {base hi:Nat} {w:World} {V:MaV} {m:Ma} {vt:Sli} {T:List (Nat->En)} (h:MkR base hi w V m vt T) {s:Sli} {ca:List Ca} (ho:OwnRow cchE base w (.slice s.a s.n s.c) ca):MkR base hi w { V with ca:=s } { m with ca:=ca } vt T:=⟨h.hw,h.bh,h.fs,h.sl,h.slh,h.sb,h.sbh,h.sq,h.db,h.dbh,h.dq,h.fl,ho,h.sp,h.tt,h.ap⟩
def Came (w0:World) (hi b:Nat) (w:World) (L:List Int) (V:MaV) (m:Ma) (vt:Sli) (T:List (Nat->En)) (fi ix j:Nat) (w':World):Prop:=∃(q:Fr) (p:Pg) (u d:Bool) (s:Sli),m.fs[j]? =some q/\q.r=0/\(∀c∈m.ca,¬(c.file=(fi:Int)/\c.idx=(ix:Int)))/\MkE w0 hi b w L { V with ca:=s } { m with fs:=m.fs.set j ⟨p,1,u,d,fi,ix⟩,ca:=insCa m.ca ⟨fi,ix,j⟩ } vt T w'
theorem cached_any {w0:World} {hi:Nat} {b:Nat} {vl:Sli} {L:List Int} {V:MaV} {m:Ma} {vt:Sli} {T:List (Nat->En)} {w:World} (fi ix:Nat) (f:Fl) (bk:Int) (h:Mk w0 hi w b vl L V m vt T) (hca:∀c∈m.ca,0<=c.file/\c.file<=1000/\0<=c.idx/\c.idx<=1000/\0<=c.fr/\c.fr<m.fs.length) (hf:m.fl[fi]? =some f) (hbk:f.bl[ix]? =some bk) (hix:ix<=1000) (hfi:fi<=1000) (hcn:m.ca.length<=1000):
  Calls Tryz.prog 127 #[.pointer (some ⟨b,0,none⟩),.int .i64 (fi:Int),.int .i64 (ix:Int)] w fun e w'=>(e= .returned (.int .i64 (-1))/\MkE w0 hi b w L V m vt T w')\/(∃c,c∈m.ca/\c.file=(fi:Int)/\c.idx=(ix:Int)/\e= .returned (.int .i64 c.fr)/\MkE w0 hi b w L V m vt T w')\/∃j:Nat,e= .returned (.int .i64 (j:Int))/\Came w0 hi b w L V m vt T fi ix j w':=by
 have HM:Hid (Mk w0 hi w b vl L V m vt T):=h;have HCA:Hid (∀c∈m.ca,0<=c.file/\c.file<=1000/\0<=c.idx/\c.idx<=1000/\0<=c.fr/\c.fr<m.fs.length):=hca;have HF:Hid (m.fl[fi]? =some f):=hf;have HBK:Hid (f.bl[ix]? =some bk):=hbk;obtain⟨n,HN⟩:∃n,Hid (V.ca.n=n):=⟨_,rfl⟩;have HLN:Hid (m.ca.length=n):=show _=_ by rw[<-HN.out,h.rows.ca.n]
 have hn:n<=1000:=by rw[<-HLN.out];exact hcn
 have HCC:Hid (n<=V.ca.c):=show _<=_ by
  have:=h.rows.ca.cap;rw[HN.out]at this;exact this
 obtain⟨caa,HAA⟩:∃a,Hid (V.ca.a=a):=⟨_,rfl⟩;have HCR:Hid (∀W,(∃vl' L' m',m'.ca=m.ca/\Mk w0 hi W b vl' L' V m' vt T)->CaRows W caa m.ca):=show∀W,_ from fun W ⟨_,_,m',e,k⟩=>by
  have:=k.rows.at.cas;rw[e,HAA.out]at this;exact this
 clear h hca hf hbk hcn
 go_enter Tryz.func127,Tryz.ntmps127
 have x10:=HM.out.box.box.c 10 rfl;rw[HN.out,HAA.out]at x10;go_wp2;clear x10
 go_loopg [20] n (fun gg s20 wr=>∃kk:Nat,kk<=n/\n - kk<=gg/\s20= .int .i64 kk/\Hid (Grew w wr)/\Hid (∀(j:Nat) c,j<kk->m.ca[j]? =some c->¬(c.file=(fi:Int)/\c.idx=(ix:Int))))
 case atStart=>exact⟨0,nZ _,by omega,rfl,Grew.refl _,fun j c hj=>absurd hj (nL _)⟩
 obtain⟨kk,hkk,hgg,rfl,BW,OW⟩:=hrel
 by_cases hlt:kk<n
 ·have hltz:(kk:Int)< (n:Int):=by omega
  obtain⟨c,HC⟩:∃c,Hid (m.ca[kk]? =some c):=⟨_,gE (by rw[HLN.out];exact hlt)⟩
  obtain⟨adc,rfl,hl⟩:=HCR.out wr ⟨vl,L,m,rfl,HM.out.grew BW.out⟩ kk c HC.out;obtain⟨d0,d1,d2⟩:=hl wr (Grew.refl _);clear hl;go_upto_region 4 with fail;obtain⟨W1,hW1⟩:∃W1,wr.alloc (.cells #[.int .i64 c.file,.int .i64 c.idx,.int .i64 c.fr] 83)=W1:=⟨_,rfl⟩;have HG1:=gT hW1 BW
  have C1:=xA hW1
  rw[hW1];clear hW1 d0 d1 d2;obtain⟨c0,c1,c2⟩:=C1.out.c3;have HNX:Hid (¬(c.file=(fi:Int)/\c.idx=(ix:Int))->∀(j:Nat) c,j<kk+1->m.ca[j]? =some c->¬(c.file=(fi:Int)/\c.idx=(ix:Int))):=show _->_ from fun h0 j c' hj hc'=>by
   by_cases e:j=kk
   ·subst e;rw[HC.out]at hc';cases hc';exact h0
   exact OW.out j c' (by omega) hc'
  by_cases h1:c.file=(fi:Int)
  ·have h1e:(c.file ==(fi:Int))=true:=by simp[h1]
   by_cases h2:c.idx=(ix:Int)
   ·have h2e:(c.idx ==(ix:Int))=true:=by simp[h2]
    have HE:Hid (c.file=(fi:Int)/\c.idx=(ix:Int)):=show _/\_ from⟨h1,h2⟩
    clear h1 h2;go_wp2;go_ret;exact .inr (.inl ⟨c,mG HC.out,HE.out.1,HE.out.2,rfl,vl,L,HM.out.grew HG1.out,Less.refl L,Keeps.grew HG1.out⟩)
   have h2e:(c.idx ==(ix:Int))=false:=by simp[h2]
   have OW':Hid (∀(j:Nat) c,j<kk+1->m.ca[j]? =some c->¬(c.file=(fi:Int)/\c.idx=(ix:Int))):=HNX.out (fun h=>h2 h.2)
   clear h1 h2;go_wp2
   go_roundg (n -(kk+1))
   case measure=>omega
   exact⟨kk+1,by omega,by omega,by go_num,HG1.out,OW'.out⟩
  have h1e:(c.file ==(fi:Int))=false:=by simp[h1]
  have OW':Hid (∀(j:Nat) c,j<kk+1->m.ca[j]? =some c->¬(c.file=(fi:Int)/\c.idx=(ix:Int))):=HNX.out (fun h=>h1 h.1)
  clear h1;go_wp2
  go_roundg (n -(kk+1))
  case measure=>omega
  exact⟨kk+1,by omega,by omega,by go_num,HG1.out,OW'.out⟩
 have hltz:¬(kk:Int)< (n:Int):=by omega
 have hke:kk=n:=by omega
 have HNO:Hid (∀c∈m.ca,¬(c.file=(fi:Int)/\c.idx=(ix:Int))):=show∀c,_ from fun c hc=>by
  obtain⟨j,hj⟩:=List.getElem?_of_mem hc;exact OW.out j c (by rw[hke,<-HLN.out];exact(gS.1 hj).1) hj
 clear hke;have MW:=dD (HM.out.grew BW.out);have hbx:=MW.out.box.box;have x1:=hbx.c 1 rfl;have x2:=hbx.c 2 rfl;have x3:=hbx.c 3 rfl;have x4:=hbx.c 4 rfl;have x5:=hbx.c 5 rfl;have x6:=hbx.c 6 rfl;have x7:=hbx.c 7 rfl;have x8:=hbx.c 8 rfl;have x9:=hbx.c 9 rfl;have x10:=hbx.c 10 rfl;have x11:=hbx.c 11 rfl;clear hbx;have hct:=content_any V m fi ix f bk wr MW.out.rows.at (fun c hc _=>(HCA.out c hc).2.2.2.2) HF.out HBK.out hix
 go_wp2_with fail;refine hct.mono ?_;clear hct x1 x2 x3 x4 x5 x6 x7 x8 x9 x10 x11;rintro e W1 ⟨rfl,hl8,g1⟩;have G1:=dD (BW.out.trans g1);clear g1
 generalize contL m fi ix=q at hl8
 obtain⟨p0,p1,p2,p3,p4,p5,p6,p7,rfl⟩:=len8 q hl8;clear hl8;simp only[pgc,mP,List.map_nil];go_upto_region 8 with fail;obtain⟨pp,HPP⟩:∃pp,Hid (W1.heap.size=pp):=⟨_,rfl⟩;obtain⟨W2,hW2⟩:∃W2,W1.alloc (.cells #[.int .u8 p0,.int .u8 p1,.int .u8 p2,.int .u8 p3,.int .u8 p4,.int .u8 p5,.int .u8 p6,.int .u8 p7] 50)=W2:=⟨_,rfl⟩;have G2:=gT hW2 G1
 have P2:Hid (BoxT W2 pp 50 (pgc [p0,p1,p2,p3,p4,p5,p6,p7])):=show BoxT _ _ _ _ by rw[<-hW2];exact BoxT.top _ (pgc [p0,p1,p2,p3,p4,p5,p6,p7]) _ HPP.out.symm
 have HHP:Hid (hi<=pp):=show _<=_ by rw[<-HPP.out];exact(HM.out.grew G1.out).rows.hw
 have HWP:Hid (w.heap.size<=pp):=show _<=_ by rw[<-HPP.out];exact bS G1.out
 have HBP:Hid (b≠pp):=show _≠_ by have:=HM.out.box.box.lt;have:=HWP.out;omega
 have M2:=dD (HM.out.grew G2.out);have K2:Hid (Keeps hi w W2):=Keeps.grew G2.out;rw[hW2,HPP.out];clear hW2 MW;have hpk:=pick_any 2 M2.out;go_wp2_with fail;refine hpk.mono ?_;clear hpk;rintro e W3 ⟨vl3,L3,y,rfl,mk3,gr3,sz3,y0,y1,yn,ll⟩;have M3:Hid (Mk w0 hi W3 b vl3 L3 V m vt T):=mk3;have K3:=dD (K2.out.trans (M2.out.keeps gr3));have P3:Hid (BoxT W3 pp 50 (pgc [p0,p1,p2,p3,p4,p5,p6,p7])):=P2.out.beside gr3 (fun g e=>by cases e;exact fun h=>HBP.out h.symm)
 have L3':Hid (Less L L3):=ll;clear mk3 gr3 sz3 y0 y1 yn ll P2 K2 M2
 go_upto_if 46 with fail
 go_cut [10,11] (fun s10 s11 wx=>∃(dd:Bool) (q:List Int) (vl':Sli) (L':List Int),s10= .bool dd/\Hid (Mk w0 hi wx b vl' L' V m vt T)/\Hid (BoxT wx pp 50 (pgc q))/\Hid (q.length=8)/\Hid (Keeps hi w wx)/\Hid (Less L L'))
 case first=>
  by_cases hy:y=1
  ·have hye:(y == 1)=true:=by simp[hy]
   clear hy;have hpg:=page_any M3.out;go_wp2_with fail;refine hpg.mono ?_;clear hpg;rintro e W4 ⟨vl4,L4,q4,rfl,ql4,mk4,gr4,ll4⟩;have M4:Hid (Mk w0 hi W4 b vl4 L4 V m vt T):=mk4;have K4:=dD (K3.out.trans (M3.out.keeps gr4));have P4:Hid (BoxT W4 pp 50 (pgc [p0,p1,p2,p3,p4,p5,p6,p7])):=P3.out.beside gr4 (fun g e=>by cases e;exact fun h=>HBP.out h.symm)
   have L4':=dD (L3'.out.trans ll4);have QL:Hid (q4.length=8):=ql4;clear mk4 gr4 ll4 ql4 P3 K3 M3
   go_wp2_with (refine wp_storeAllT rfl 50 (.tmp 9) (.tmp 48) rfl pp rfl (pgc q4) rfl P4.out (by simp[pgc,QL.out]) Tryz.sizePg (pgc_one _) ?_)
   intro W5 hb5 hg5 _;have M5:Hid (Mk w0 hi W5 b vl4 L4 V m vt T):=M4.out.page P4.out HHP.out hg5;have K5:Hid (Keeps hi w W5):=K4.out.own hg5 HWP.out;have P5:Hid (BoxT W5 pp 50 (pgc q4)):=hb5;clear hb5 hg5 M4 K4 P4;go_wp2
   go_loopg [49] 8 (fun gg s49 wr=>∃(i:Nat) (q:List Int),i<=8/\8 - i<=gg/\s49= .int .i64 i/\Hid (Mk w0 hi wr b vl4 L4 V m vt T)/\Hid (BoxT wr pp 50 (pgc q))/\Hid (q.length=8)/\Hid (Keeps hi w wr))
   case atStart=>exact⟨0,q4,nZ _,by omega,rfl,M5.out,P5.out,QL.out,K5.out⟩
   obtain⟨i,q,hi8,hg3,rfl,MW5,PW5,QW5,KW5⟩:=hrel;clear M5 P5 K5 QL
   by_cases hlt3:i<8
   ·have hltz3:(i:Int)<8:=by omega
    obtain⟨z,hz⟩:∃z,q[i]? =some z:=⟨_,gE (by rw[QW5.out];exact hlt3)⟩
    have z0:=PW5.out.box.c i (pgc_at hz);have zf:=PW5.out.box.f;have hfl:=MW5.out.rows.at.fl;have x8:=MW5.out.box.box.c 8 rfl;obtain⟨_,_,hfe,_,hfr⟩:=FilesAt.rows hfl;have hrw:FlRows wr V.fl.a m.fl:=by
     simp only[vJ]at hfe;rw[hfe.1];exact hfr
    have hfn:V.fl.n=m.fl.length:=by
     simp only[vJ]at hfe;exact hfe.2.1
    obtain⟨ad,hva,ba,bc,_,hlf⟩:=hrw fi f HF.out;obtain⟨d0,-⟩:=hlf wr (Grew.refl _);obtain⟨fln,hfln⟩:∃fln,V.fl.n=fln:=⟨_,rfl⟩;have hfz:(fi:Int)< (fln:Int):=by
     have:=(gS.1 HF.out).1;omega
    rw[hva,hfln]at x8;clear hfl hfe hfr hrw hfn hva hlf hfln hz
    by_cases hc:f.size<=8*(ix:Int)+(i:Int)
    ·have hcd:decide (f.size<=8*(ix:Int)+(i:Int))=true:=by simpa using hc
     have HG6:Hid (wr.grownBy (wr.setCell ⟨pp,i,none⟩ (.int .u8 0)) (some pp)):=⟨rfl,rfl,rfl,by simp[World.setCell],fun k _ hk=>Below.heap_setCell _ _ _ _ (fun e=>hk (by rw[e]))⟩
     have P6:Hid (BoxT (wr.setCell ⟨pp,i,none⟩ (.int .u8 0)) pp 50 (pgc (q.set i 0))):=show BoxT _ _ _ _ by rw[pgc_set];exact PW5.out.set i _
     have M6:Hid (Mk w0 hi (wr.setCell ⟨pp,i,none⟩ (.int .u8 0)) b vl4 L4 V m vt T):=MW5.out.page PW5.out HHP.out HG6.out;have K6:Hid (Keeps hi w (wr.setCell ⟨pp,i,none⟩ (.int .u8 0))):=KW5.out.own HG6.out HWP.out;go_wp2
     go_roundg (8 -(i+1))
     case measure=>omega
     exact⟨i+1,q.set i 0,by omega,by omega,by go_num,M6.out,P6.out,(show(q.set i 0).length=8 by rw[List.length_set];exact QW5.out),K6.out⟩
    have hcd:decide (f.size<=8*(ix:Int)+(i:Int))=false:=by simpa using hc
    go_wp2
    go_roundg (8 -(i+1))
    case measure=>omega
    exact⟨i+1,q,by omega,by omega,by go_num,MW5.out,PW5.out,QW5.out,KW5.out⟩
   have hltz3:¬(i:Int)<8:=by omega
   go_wp2
   go_meet
   exact⟨true,q,vl4,L4,rfl,MW5.out,PW5.out,QW5.out,KW5.out,L4'.out⟩
  have hye:(y == 1)=false:=by simp[hy]
  clear hy;go_wp2
  go_meet
  exact⟨false,[p0,p1,p2,p3,p4,p5,p6,p7],vl3,L3,rfl,M3.out,P3.out,rfl,K3.out,L3'.out⟩
 obtain⟨dd,q,vl3',L3x,rfl,M3',P3',Q3',K3',L3''⟩:=hcut;clear M3 P3 K3 L3';obtain⟨p0,p1,p2,p3,p4,p5,p6,p7,rfl⟩:=len8 q Q3'.out;go_upto_region 16 with fail;obtain⟨I,hI⟩:∃I:World->Prop,I=fun u=>BoxT u pp 50 (pgc [p0,p1,p2,p3,p4,p5,p6,p7]):=⟨_,rfl⟩
 have HI:Hid (∀u,I u↔BoxT u pp 50 (pgc [p0,p1,p2,p3,p4,p5,p6,p7])):=show∀u,_ from fun u=>by rw[hI]
 clear hI;have hI0:I wc.drew:=(HI.out _).2 (P3'.out.grew (gW _))
 have hF0:MkE w0 hi b w L V m vt T wc.drew:=⟨vl3',L3x,M3'.out.grew (gW _),L3''.out,K3'.out.trans (Keeps.grew (gW _))⟩
 have hf0:∀y:HoldI I,y.world.cell? ⟨pp,0,none⟩=some (.int .u8 p0):=fun y=>((HI.out _).1 y.holds).box.c 0 rfl
 have hf1:∀y:HoldI I,y.world.cell? ⟨pp,1,none⟩=some (.int .u8 p1):=fun y=>((HI.out _).1 y.holds).box.c 1 rfl
 have hf2:∀y:HoldI I,y.world.cell? ⟨pp,2,none⟩=some (.int .u8 p2):=fun y=>((HI.out _).1 y.holds).box.c 2 rfl
 have hf3:∀y:HoldI I,y.world.cell? ⟨pp,3,none⟩=some (.int .u8 p3):=fun y=>((HI.out _).1 y.holds).box.c 3 rfl
 have hf4:∀y:HoldI I,y.world.cell? ⟨pp,4,none⟩=some (.int .u8 p4):=fun y=>((HI.out _).1 y.holds).box.c 4 rfl
 have hf5:∀y:HoldI I,y.world.cell? ⟨pp,5,none⟩=some (.int .u8 p5):=fun y=>((HI.out _).1 y.holds).box.c 5 rfl
 have hf6:∀y:HoldI I,y.world.cell? ⟨pp,6,none⟩=some (.int .u8 p6):=fun y=>((HI.out _).1 y.holds).box.c 6 rfl
 have hf7:∀y:HoldI I,y.world.cell? ⟨pp,7,none⟩=some (.int .u8 p7):=fun y=>((HI.out _).1 y.holds).box.c 7 rfl
 have hne:Nonempty (HoldI I):=⟨⟨_,hI0⟩⟩;refine wp_lax_tailD (I:=I) 10 [(3,fun v=>∃x:Int,v= .int .i64 x),(9,fun v=>v= .int .i64 (-1)\/∃j:Nat,v= .int .i64 (j:Int))] (fun u=>MkE w0 hi b w L V m vt T u) hI0 hF0 mixed (by kernel_rfl) rfl rfl (by decide) ?hS (by kernel_rfl) ?_
 case hS=>
  intro x hx;simp only[mC,nM,or_false]at hx
  rcases hx with rfl | rfl
  ·exact⟨_,0,rfl⟩
  exact⟨_,.inl rfl⟩
 simp only[List.take,List.drop];iterate 3 (refine laxD_quiet rfl rfl rfl (fun K hK=>?_);go_big_quiet_op;refine hK _ ?_;clear hK K)
 refine laxD_spec rfl rfl (fun _ u=>MkE w0 hi b w L V m vt T u) (fun w' hI' hF'=>?_) (fun v1 hv=>?_)
 ·obtain⟨vl',L',mk',ll',kp'⟩:=hF';refine Does.call [.pointer (some ⟨b,0,none⟩),.int .i64 2] rfl Tryz.func27 rfl rfl rfl ?_;refine(pick_any 2 mk').mono ?_;rintro e w'' ⟨vl2,L2,x,rfl,mk2,gr2,_,_,_,_,ll2⟩;exact⟨_,rfl,(HI.out _).2 (((HI.out _).1 hI').beside gr2 (fun g e=>by cases e;exact fun h=>HBP.out h.symm)),⟨x,rfl⟩,vl2,L2,mk2,ll'.trans ll2,kp'.trans (mk'.keeps gr2)⟩
 obtain⟨x,rfl⟩:=hv;simp only[Act.put,sB,sS,sZ];iterate 5 (refine laxD_quiet rfl rfl rfl (fun K hK=>?_);go_big_quiet_op;refine hK _ ?_;clear hK K)
 refine laxD_spec rfl rfl (fun v u=>(v= .int .i64 (-1)/\MkE w0 hi b w L V m vt T u)\/∃(j:Nat) (q:Fr),v= .int .i64 (j:Int)/\m.fs[j]? =some q/\q.r=0/\MkE w0 hi b w L V { m with fs:=m.fs.set j ⟨⟨p0,p1,p2,p3,p4,p5,p6,p7⟩,1,x == 1,dd,(fi:Int),(ix:Int)⟩ } vt T u) (fun w' hI' hF'=>?_) (fun v1 hv=>?_)
 ·obtain⟨vl',L',mk',ll',kp'⟩:=hF';refine Does.call [.pointer (some ⟨b,0,none⟩),.agg (frv ⟨⟨p0,p1,p2,p3,p4,p5,p6,p7⟩,1,x == 1,dd,(fi:Int),(ix:Int)⟩).toArray] rfl Tryz.func128 rfl rfl rfl ?_;refine(frame_any ⟨⟨p0,p1,p2,p3,p4,p5,p6,p7⟩,1,x == 1,dd,(fi:Int),(ix:Int)⟩ mk').mono ?_;rintro e w'' (⟨rfl,hE⟩ | ⟨j,q,rfl,hq,hr,hE⟩)
  ·have hkp:=hE;obtain⟨_,_,_,_,kq⟩:=hkp;exact⟨_,rfl,(HI.out _).2 (kq.1 pp _ _ ((HI.out _).1 hI') (loc_page HHP.out)),.inl rfl,.inl ⟨rfl,hE.trans ll' kp'⟩⟩
  have hkp:=hE;obtain⟨_,_,_,_,kq⟩:=hkp;exact⟨_,rfl,(HI.out _).2 (kq.1 pp _ _ ((HI.out _).1 hI') (loc_page HHP.out)),.inr ⟨j,rfl⟩,.inr ⟨j,q,rfl,hq,hr,hE.trans ll' kp'⟩⟩
 rcases hv with rfl | ⟨j,rfl⟩
 ·simp only[Act.put,sB,sS,sZ];refine laxD_nil fun W6 hI6 hF6=>?_
  have H6:Hid (MkE w0 hi b w L V m vt T W6):=show MkE _ _ _ _ _ _ _ _ _ _ by
   rcases hF6 with⟨_,h⟩ | ⟨j,q,e,_⟩
   ·exact h
   simp only[Value.int.injEq,true_and]at e;omega
  clear hF6 hI6 hI0 hF0 hne hf0 hf1 hf2 hf3 hf4 hf5 hf6 hf7;go_wp2;go_ret;exact .inl ⟨rfl,H6.out⟩
 simp only[Act.put,sB,sS,sZ];refine laxD_nil fun W6 hI6 hF6=>?_
 obtain⟨q,hq,hr,vl6,L6,mk6,ll6,kp6⟩:∃q:Fr,m.fs[j]? =some q/\q.r=0/\MkE w0 hi b w L V { m with fs:=m.fs.set j ⟨⟨p0,p1,p2,p3,p4,p5,p6,p7⟩,1,x == 1,dd,(fi:Int),(ix:Int)⟩ } vt T W6:=by
  rcases hF6 with⟨e,_⟩ | ⟨j',q,e,hq,hr,hE⟩
  ·simp only[Value.int.injEq,true_and]at e;omega
  simp only[Value.int.injEq,true_and]at e;obtain rfl:j=j':=by omega
  exact⟨q,hq,hr,hE⟩
 have HQ:Hid (m.fs[j]? =some q):=hq;have HR0:Hid (q.r=0):=hr;have M6:Hid (Mk w0 hi W6 b vl6 L6 V { m with fs:=m.fs.set j ⟨⟨p0,p1,p2,p3,p4,p5,p6,p7⟩,1,x == 1,dd,(fi:Int),(ix:Int)⟩ } vt T):=mk6;have K6:Hid (Keeps hi w W6):=kp6;have LL6:Hid (Less L L6):=ll6;clear hF6 hI6 hI0 hF0 hne HI hq hr mk6 ll6 kp6 hf0 hf1 hf2 hf3 hf4 hf5 hf6 hf7;have hj0:¬(j:Int)<0:=by omega
 go_wp2
 go_loopg [13] n (fun gg s13 wr=>∃at_:Nat,at_<=n/\n - at_<=gg/\s13= .int .i64 at_/\Hid (Mk w0 hi wr b vl6 L6 V { m with fs:=m.fs.set j ⟨⟨p0,p1,p2,p3,p4,p5,p6,p7⟩,1,x == 1,dd,(fi:Int),(ix:Int)⟩ } vt T)/\Hid (Keeps hi w wr)/\Hid (∀(i:Nat) c,i<at_->m.ca[i]? =some c->decide (keyC c<keyC ⟨(fi:Int),(ix:Int),(j:Int)⟩)=true))
 case atStart=>exact⟨0,nZ _,by omega,rfl,M6.out,K6.out,fun i c hi=>absurd hi (nL _)⟩
 obtain⟨at_,hat,hg2,rfl,MR,KR,OW2⟩:=hrel;clear M6 K6;have x10:=MR.out.box.box.c 10 rfl;rw[HN.out,HAA.out]at x10
 by_cases hlt2:at_<n
 ·have hltz2:(at_:Int)< (n:Int):=by omega
  obtain⟨c,HC⟩:∃c,Hid (m.ca[at_]? =some c):=⟨_,gE (by rw[HLN.out];exact hlt2)⟩
  obtain⟨adc,rfl,hl⟩:=HCR.out wr ⟨vl6,L6,{ m with fs:=m.fs.set j ⟨⟨p0,p1,p2,p3,p4,p5,p6,p7⟩,1,x == 1,dd,(fi:Int),(ix:Int)⟩ },rfl,MR.out⟩ at_ c HC.out;obtain⟨d0,d1,d2⟩:=hl wr (Grew.refl _);obtain⟨b1,b2,b3,b4,-⟩:=HCA.out c (mG HC.out);clear hl d2
  by_cases hk:100*c.file+c.idx<100*(fi:Int)+(ix:Int)
  ·have hkd:decide (100*c.file+c.idx<100*(fi:Int)+(ix:Int))=true:=by simpa using hk
   have hgd:decide ((at_:Int)< (n:Int))=true:=by simpa using hltz2
   have OW3:Hid (∀(i:Nat) c,i<at_+1->m.ca[i]? =some c->decide (keyC c<keyC ⟨(fi:Int),(ix:Int),(j:Int)⟩)=true):=show∀i,_ from fun i c' hi' hc'=>by
    by_cases e:i=at_
    ·subst e;rw[HC.out]at hc';cases hc';exact hkd
    exact OW2.out i c' (by omega) hc'
   clear hk;go_upto_region 20 with fail;go_quiet (fail);go_wp2
   go_roundg (n -(at_+1))
   case measure=>omega
   exact⟨at_+1,by omega,by omega,by go_num,MR.out.grew (show Below _ _ _ from bD (bR _ _) _),KR.out.trans (Keeps.grew (show Below _ _ _ from bD (bR _ _) _)),OW3.out⟩
  have hkd:decide (100*c.file+c.idx<100*(fi:Int)+(ix:Int))=false:=by simpa using hk
  have hgd:decide ((at_:Int)< (n:Int))=true:=by simpa using hltz2
  have HST:Hid (∀x,m.ca[at_]? =some x->decide (keyC x<keyC ⟨(fi:Int),(ix:Int),(j:Int)⟩)=false):=show∀x,_ from fun x hx=>by
   rw[HC.out]at hx;cases hx;exact hkd
  clear hk;go_upto_region 20 with fail;go_quiet (fail);clear x10 d0 d1;have HSP:Hid (insCa m.ca ⟨(fi:Int),(ix:Int),(j:Int)⟩=m.ca.take at_++ [⟨(fi:Int),(ix:Int),(j:Int)⟩]++m.ca.drop at_):=show _=_ by
   obtain⟨e1,e2⟩:=tw_split (p:=fun d=>decide (keyC d<keyC ⟨(fi:Int),(ix:Int),(j:Int)⟩)) (l:=m.ca) (k:=at_) OW2.out HST.out (by rw[HLN.out];exact hat)
   unfold insCa;rw[e1,e2];simp
  obtain⟨Wq,hWq⟩:∃Wq,wr.drewN nq=Wq:=⟨_,rfl⟩;have Gq:Hid (Grew wr Wq):=show Grew _ _ by rw[<-hWq];exact(show Below _ _ _ from bD (bR _ _) _)
  rw[hWq];clear hWq;have MQ:=dD (MR.out.grew Gq.out);have KQ:=dD (KR.out.trans (Keeps.grew Gq.out));clear MR KR Gq
  try clear wr
  obtain⟨wr,rfl⟩:∃wr,wr=Wq:=⟨_,rfl⟩;go_upto_region 22 with fail;obtain⟨A,HA⟩:∃A,Hid (m.ca.take at_=A):=⟨_,rfl⟩;obtain⟨D2,HD⟩:∃D2,Hid (m.ca.drop at_=D2):=⟨_,rfl⟩;rw[HA.out,HD.out]at HSP;have HLA:Hid (A.length=at_):=show _=_ by rw[<-HA.out,List.length_take,HLN.out];omega
  have HLD:Hid (D2.length=n - at_):=show _=_ by rw[<-HD.out,List.length_drop,HLN.out]
  obtain⟨cn,HCN⟩:∃cn:Ca,Hid (cn=⟨(fi:Int),(ix:Int),(j:Int)⟩):=⟨_,rfl⟩;rw[<-HCN.out]at HSP;obtain⟨N,HNN⟩:∃N,Hid ((A++ [cn]++D2).length=N):=⟨_,rfl⟩;obtain⟨I,HI⟩:∃I:World->Prop,Hid (∀u,I u↔Grew wr u):=⟨fun u=>Grew wr u,fun _=>Iff.rfl⟩
  have hI0:I wr.drew:=(HI.out _).2 (gW _)
  have hne:Nonempty (HoldI I):=⟨⟨_,hI0⟩⟩;have hx10:∀y:HoldI I,y.world.cell? ⟨b,10,none⟩=some (.slice (some adc) n V.ca.c):=fun y=>by
   have:=(MQ.out.box.box.grew ((HI.out _).1 y.holds)).c 10 rfl;rw[HN.out,HAA.out]at this;exact this
  have HRO:Hid (RowAt cchE wr (.slice (some adc) n V.ca.c) m.ca):=show RowAt _ _ _ _ by
   have:=MQ.out.rows.ca.at;rw[HN.out,HAA.out]at this;exact this
  have hup:=fun W=>run_upto (w:=W) (a:=(some adc)) (n:=n) (c:=V.ca.c) (k:=at_) (nT hat HCC.out)
  have hfr:=fun W=>run_from (w:=W) (a:=(some adc)) (n:=n) (c:=V.ca.c) (k:=at_) hat
  obtain⟨fa,hfa⟩:∃fa,(((some adc):Option Addr).map fun ad=>if V.ca.c=at_ then ad else ad.add (at_*3))=fa:=⟨_,rfl⟩
  have HRA:Hid (RowAt cchE wr (.slice (some adc) at_ V.ca.c) A):=show RowAt _ _ _ _ by rw[<-HA.out];exact HRO.out.upto hat
  have HRD:Hid (RowAt cchE wr (.slice fa (n - at_) (V.ca.c - at_)) D2):=show RowAt _ _ _ _ by rw[<-HD.out,<-hfa];exact HRO.out.from hat HCC.out
  rw[hfa]at hfr;clear hfa;obtain⟨nd,HND⟩:∃nd,Hid (n - at_=nd):=⟨_,rfl⟩;obtain⟨cd,HCD⟩:∃cd,Hid (V.ca.c - at_=cd):=⟨_,rfl⟩;rw[HND.out,HCD.out]at hfr HRD;refine wp_lax_tailI (I:=I) 27 [(1,⟨fun v=>∃g,v= .slice (some ⟨g,0,none⟩) 0 0,fun v w'=>OwnRow cchE wr.heap.size w' v [],fun p q=>Grew p q,fun _=>True⟩),(9,⟨fun v=>(∃a c,v= .slice a at_ c)/\(at_=0->∃g,v= .slice (some ⟨g,0,none⟩) 0 0),fun v w'=>OwnRow cchE wr.heap.size w' v A,fun p q=>Grew p q,fun _=>True⟩),(14,⟨fun v=>∃g,v= .slice (some ⟨g,0,none⟩) 1 1,fun v w'=>OwnRow cchE wr.heap.size w' v [cn],fun p q=>Grew p q,fun _=>True⟩),(15,⟨fun v=>∃a c,v= .slice a (at_+1) c,fun v w'=>OwnRow cchE wr.heap.size w' v (A++ [cn]),fun p q=>(∀u m,m.length<=at_\/m.length<=1->OwnRow cchE wr.heap.size p u m->OwnRow cchE wr.heap.size q u m),fun _=>True⟩),(23,⟨fun v=>∃a c,v= .slice a N c,fun v w'=>OwnRow cchE wr.heap.size w' v (A++ [cn]++D2),fun p q=>(∀u m,m.length<=at_+1->OwnRow cchE wr.heap.size p u m->OwnRow cchE wr.heap.size q u m),fun _=>True⟩)] hI0 mixed (by kernel_rfl) rfl rfl (by decide) ?hS ?hp ?hpre ?hpr0 ?_
  case hS=>
   intro x hx;simp only[mC,nM,or_false]at hx
   rcases hx with rfl | rfl | rfl | rfl | rfl
   ·exact⟨_,0,rfl⟩
   ·by_cases h0:at_=0
    ·exact⟨.slice (some ⟨0,0,none⟩) 0 0,⟨some ⟨0,0,none⟩,0,by rw[h0]⟩,fun _=>⟨0,rfl⟩⟩
    exact⟨.slice none at_ 0,⟨_,_,rfl⟩,fun h=>absurd h h0⟩
   ·exact⟨_,0,rfl⟩
   ·exact⟨_,none,0,rfl⟩
   exact⟨_,none,0,rfl⟩
  case hp=>
   intro k s j t hk hj hjk hanc v p q hst hpo;have hk':=lookup_in hk;have hj':=lookup_in hj;clear hk hj;simp only[mC,pJ,nM,or_false]at hk' hj'
   rcases hk' with⟨rfl,rfl⟩ | ⟨rfl,rfl⟩ | ⟨rfl,rfl⟩ | ⟨rfl,rfl⟩ | ⟨rfl,rfl⟩
   ·rcases hj' with⟨rfl,rfl⟩ | ⟨rfl,rfl⟩ | ⟨rfl,rfl⟩ | ⟨rfl,rfl⟩ | ⟨rfl,rfl⟩
    ·exact absurd rfl hjk
    ·exact OwnRow.grew hpo hst
    ·exact OwnRow.grew hpo hst
    ·exact hst v [] (.inl (nZ _)) hpo
    exact hst v [] (nZ _) hpo
   ·rcases hj' with⟨rfl,rfl⟩ | ⟨rfl,rfl⟩ | ⟨rfl,rfl⟩ | ⟨rfl,rfl⟩ | ⟨rfl,rfl⟩
    ·exact OwnRow.grew hpo hst
    ·exact absurd rfl hjk
    ·exact OwnRow.grew hpo hst
    ·exact hst v A (.inl (by rw[HLA.out];exact nR _)) hpo
    exact hst v A (by rw[HLA.out];omega) hpo
   ·rcases hj' with⟨rfl,rfl⟩ | ⟨rfl,rfl⟩ | ⟨rfl,rfl⟩ | ⟨rfl,rfl⟩ | ⟨rfl,rfl⟩
    ·exact OwnRow.grew hpo hst
    ·exact OwnRow.grew hpo hst
    ·exact absurd rfl hjk
    ·exact hst v [cn] (.inr (nR _)) hpo
    exact hst v [cn] (by simp) hpo
   ·rcases hj' with⟨rfl,rfl⟩ | ⟨rfl,rfl⟩ | ⟨rfl,rfl⟩ | ⟨rfl,rfl⟩ | ⟨rfl,rfl⟩
    ·exact OwnRow.grew hpo hst
    ·exact OwnRow.grew hpo hst
    ·exact OwnRow.grew hpo hst
    ·exact absurd rfl hjk
    exact hst v (A++ [cn]) (by rw[lA,HLA.out];simp) hpo
   rcases hj' with⟨rfl,rfl⟩ | ⟨rfl,rfl⟩ | ⟨rfl,rfl⟩ | ⟨rfl,rfl⟩ | ⟨rfl,rfl⟩
   ·exact OwnRow.grew hpo hst
   ·exact OwnRow.grew hpo hst
   ·exact OwnRow.grew hpo hst
   ·exact Bool.noConfusion (hanc.symm.trans (show _=true by kernel_rfl))
   exact absurd rfl hjk
  case hpre=>
   intro j t k s hj hk hjk p q hst hpr;have hj':=lookup_in hj;clear hk hj;simp only[mC,pJ,nM,or_false]at hj'
   rcases hj' with⟨rfl,rfl⟩ | ⟨rfl,rfl⟩ | ⟨rfl,rfl⟩ | ⟨rfl,rfl⟩ | ⟨rfl,rfl⟩ <;> trivial
  case hpr0=>
   intro k t hk;have hk':=lookup_in hk;clear hk;simp only[mC,pJ,nM,or_false]at hk'
   rcases hk' with⟨rfl,rfl⟩ | ⟨rfl,rfl⟩ | ⟨rfl,rfl⟩ | ⟨rfl,rfl⟩ | ⟨rfl,rfl⟩ <;> trivial
  simp only[List.take,List.drop];iterate 1 (refine laxI_quiet rfl rfl rfl (fun K hK=>?_);go_big_quiet_op;refine hK _ ?_;clear hK K)
  refine laxI_spec rfl rfl (fun w' hI' hpr hF=>?_) (fun v1 hv=>?_)
  ·have hg:=(HI.out _).1 hI';refine Does.step (v:= .slice (some ⟨w'.heap.size,0,none⟩) 0 0) (w':=w'.alloc (.cells #[] 83)) (by simp only[execOp];go_simp) ⟨(HI.out _).2 (hg.trans (grew_alloc _ _)),grew_alloc _ _,⟨_,rfl⟩,(OwnRow.made cchE w').base (bS hg)⟩
  obtain⟨g0,rfl⟩:=hv;simp only[Act.put,sB,sS,sZ];iterate 1 (refine laxI_quiet rfl rfl rfl (fun K hK=>?_);go_big_quiet_op;refine hK _ ?_;clear hK K)
  refine laxI_nilc (.tmp 121) ⟨b,0,none⟩ rfl rfl rfl rfl ?_;simp only[Act.put,sB,sS,sZ];iterate 5 (refine laxI_quiet rfl rfl rfl (fun K hK=>?_);go_big_quiet_op;refine hK _ ?_;clear hK K)
  refine laxI_spec rfl rfl (fun w' hI' hpr hF=>?_) (fun v1 hv=>?_)
  ·have hg:=(HI.out _).1 hI';have h0:OwnRow cchE wr.heap.size w' (.slice (some ⟨g0,0,none⟩) 0 0) []:=hF 1 (by kernel_rfl)
   obtain⟨v',w2,hrun,ho,hg2,hz⟩:=run_append_new (E:=cchE) (w:=w') 37 h0 (.slice (some adc) at_ V.ca.c) A (HRA.out.grew hg) (bS hg);obtain⟨a',c',rfl⟩:=ho.form;refine Does.step (v:= .slice a' A.length c') (w':=w2) ?_ ⟨(HI.out _).2 (hg.trans hg2),hg2,⟨⟨a',c',by rw[HLA.out]⟩,fun h=>⟨g0,hz (eN (by rw[HLA.out];exact h))⟩⟩,ho⟩
   clear hx10 hup hfr;simp only[execOp,resolve,invoke,builtin,pure_bind,Sem.run_bind,Sem.run_pure,List.map_toArray,mP,List.map_nil];exact Eq.trans (congrArg (fun r=>Result.andThen r (fun a w'=>Result.ok (Next.value a) w')) hrun) rfl
  obtain⟨⟨a3,c3,rfl⟩,hz3⟩:=hv;simp only[Act.put,sB,sS,sZ];iterate 4 (refine laxI_quiet rfl rfl rfl (fun K hK=>?_);go_big_quiet_op;refine hK _ ?_;clear hK K)
  refine laxI_spec rfl rfl (fun w' hI' hpr hF=>?_) (fun v1 hv=>?_)
  ·have hg:=(HI.out _).1 hI';have hoc:=(own_cached w' cn).base (bS hg);rw[HCN.out]at hoc;refine Does.step (v:= .slice (some ⟨w'.heap.size,0,none⟩) 1 1) (w':=w'.alloc (.cells #[.int .i64 (fi:Int),.int .i64 (ix:Int),.int .i64 (j:Int)] 83)) (by clear hx10 hup hfr;simp only[execOp];go_simp) ⟨(HI.out _).2 (hg.trans (grew_alloc _ _)),grew_alloc _ _,⟨_,rfl⟩,by rw[HCN.out];exact hoc⟩
  obtain⟨g5,rfl⟩:=hv;simp only[Act.put,sB,sS,sZ];refine laxI_spec rfl rfl (fun w' hI' hpr hF=>?_) (fun v1 hv=>?_)
  ·have hg:=(HI.out _).1 hI';have o3:OwnRow cchE wr.heap.size w' (.slice a3 at_ c3) A:=hF 9 (by kernel_rfl)
   have o5:OwnRow cchE wr.heap.size w' (.slice (some ⟨g5,0,none⟩) 1 1) [cn]:=hF 14 (by kernel_rfl)
   have key:∃v' w2,(Builtin.append_ #[37,37] 37 #[.slice a3 at_ c3,.slice (some ⟨g5,0,none⟩) 1 1]).run Tryz.prog w'= .ok v' w2/\OwnRow cchE wr.heap.size w2 v' (A++ [cn])/\Grew wr w2/\∀u m,m.length<=at_\/m.length<=1->OwnRow cchE wr.heap.size w' u m->OwnRow cchE wr.heap.size w2 u m:=by
    by_cases h0:at_=0
    ·have hxs:A=[]:=eN (by rw[HLA.out];exact h0)
     obtain⟨g,hgv⟩:=hz3 h0;rw[hgv,hxs]at o3;rw[hgv,hxs];obtain⟨v',w2,hrun,ho,hg2,_⟩:=run_append_new (E:=cchE) (w:=w') 37 o3 (.slice (some ⟨g5,0,none⟩) 1 1) [cn] o5.at (bS hg);exact⟨v',w2,hrun,ho,hg.trans hg2,fun u m _ h=>h.grew hg2⟩
    obtain⟨v',w2,hrun,ho,hgr,hk⟩:=run_append_keeps (E:=cchE) (w:=w') 37 o3 (.slice (some ⟨g5,0,none⟩) 1 1) [cn] o5.at (by rw[HLA.out];show(at_+1)*24<=_;omega) (bS hg)
    refine⟨v',w2,hrun,ho,grew_beside hg hgr (fun g hg'=>(o3.lt g hg').1),fun u m hm h=>hk u m ?_ h⟩
    rw[HLA.out];omega
   obtain⟨v',w2,hrun,ho,hg2,hk⟩:=key;obtain⟨a',c',rfl⟩:=ho.form;refine Does.step (v:= .slice a' (A++ [cn]).length c') (w':=w2) ?_ ⟨(HI.out _).2 hg2,hk,⟨a',c',by rw[lA,HLA.out];rfl⟩,ho⟩
   clear hx10 hup hfr;simp only[execOp,resolve,invoke,builtin,pure_bind,Sem.run_bind,Sem.run_pure,List.map_toArray,mP,List.map_nil];exact Eq.trans (congrArg (fun r=>Result.andThen r (fun a w'=>Result.ok (Next.value a) w')) hrun) rfl
  obtain⟨a6,c6,rfl⟩:=hv;simp only[Act.put,sB,sS,sZ];iterate 1 (refine laxI_quiet rfl rfl rfl (fun K hK=>?_);go_big_quiet_op;refine hK _ ?_;clear hK K)
  refine laxI_nilc (.tmp 135) ⟨b,0,none⟩ rfl rfl rfl rfl ?_;simp only[Act.put,sB,sS,sZ];iterate 5 (refine laxI_quiet rfl rfl rfl (fun K hK=>?_);go_big_quiet_op;refine hK _ ?_;clear hK K)
  refine laxI_spec rfl rfl (fun w' hI' hpr hF=>?_) (fun v1 hv=>?_)
  ·have hg:=(HI.out _).1 hI';have o6:OwnRow cchE wr.heap.size w' (.slice a6 (at_+1) c6) (A++ [cn]):=hF 15 (by kernel_rfl)
   have hl6:(A++ [cn]).length=at_+1:=by rw[lA,HLA.out];rfl
   obtain⟨v',w2,hrun,ho,hgr,hk⟩:=run_append_keeps (E:=cchE) (w:=w') 37 o6 (.slice fa nd cd) D2 (HRD.out.grew hg) (by rw[hl6,HLD.out];show(at_+1+(n - at_))*24<=_;omega) (bS hg)
   obtain⟨a',c',rfl⟩:=ho.form;refine Does.step (v:= .slice a' (A++ [cn]++D2).length c') (w':=w2) ?_ ⟨(HI.out _).2 (grew_beside hg hgr (fun g hg'=>(o6.lt g hg').1)),(fun u m hm h=>hk u m (by rw[hl6];exact hm) h),⟨a',c',by rw[HNN.out]⟩,ho⟩
   clear hx10 hup hfr;simp only[execOp,resolve,invoke,builtin,pure_bind,Sem.run_bind,Sem.run_pure,List.map_toArray,mP,List.map_nil];exact Eq.trans (congrArg (fun r=>Result.andThen r (fun a w'=>Result.ok (Next.value a) w')) hrun) rfl
  obtain⟨a7,c7,rfl⟩:=hv;simp only[Act.put,sB,sS,sZ];refine laxI_nilc (.tmp 119) ⟨b,0,none⟩ rfl rfl rfl rfl ?_;simp only[Act.put,sB,sS,sZ];iterate 2 (refine laxI_quiet rfl rfl rfl (fun K hK=>?_);go_big_quiet_op;refine hK _ ?_;clear hK K)
  refine laxI_nil fun W7 hI7 hF=>?_
  have o7:OwnRow cchE wr.heap.size W7 (.slice a7 N c7) (A++ [cn]++D2):=hF 23;have g7:=(HI.out _).1 hI7;have M7:=dD (MQ.out.grew g7);have K7:=dD (KQ.out.trans (Keeps.grew g7));have O7:Hid (OwnRow cchE wr.heap.size W7 (.slice a7 N c7) (A++ [cn]++D2)):=o7;have HB7:Hid (w0.heap.size<=wr.heap.size):=show _<=_ from bS MQ.out.gr
  have HB8:Hid (b<wr.heap.size):=show _<_ from MQ.out.box.box.lt
  clear o7 g7 hF hI7 hx10 hup hfr hne hI0 HI;have xc:=M7.out.box.box.c 10 rfl;rw[HN.out,HAA.out]at xc;have xf:=M7.out.box.box.f;have HG8:Hid (W7.grownBy (W7.setCell ⟨b,10,none⟩ (.slice a7 N c7)) (some b)):=⟨rfl,rfl,rfl,by simp[World.setCell],fun k _ hk=>Below.heap_setCell _ _ _ _ (fun e=>hk (by rw[e]))⟩
  have M8:Hid (Mk w0 hi (W7.setCell ⟨b,10,none⟩ (.slice a7 N c7)) b vl6 L6 { V with ca:=⟨a7,N,c7⟩ } { m with fs:=m.fs.set j ⟨⟨p0,p1,p2,p3,p4,p5,p6,p7⟩,1,x == 1,dd,(fi:Int),(ix:Int)⟩,ca:=insCa m.ca ⟨(fi:Int),(ix:Int),(j:Int)⟩ } vt T):=show Mk _ _ _ _ _ _ _ _ _ _ by
   have h7:=M7.out;refine⟨grew_grown h7.gr HG8.out h7.hb,h7.hb,h7.box.set 10 _,h7.lr,h7.lc,h7.lb,?_⟩;have hr:=h7.rows.var HG8.out h7.box HG8.out.size (.inl rfl);have:=hr.setCa (s:=⟨a7,N,c7⟩) (ca:=A++ [cn]++D2) ((O7.out.setCell (by have:=HB8.out;simp;omega) _).base HB7.out)
   rw[HCN.out]at this HSP;rw[HSP.out];exact this
  have K8:=dD (K7.out.trans (M7.out.keeps HG8.out));clear O7 M7;go_wp2;go_ret;exact .inr (.inr ⟨j,rfl,q,_,_,_,⟨a7,N,c7⟩,HQ.out,HR0.out,HNO.out,vl6,L6,M8.out,LL6.out,K8.out⟩)
 have hltz2:¬(at_:Int)< (n:Int):=by omega
 have hgd:decide ((at_:Int)< (n:Int))=false:=by simpa using hltz2
 have HST:Hid (∀x,m.ca[at_]? =some x->decide (keyC x<keyC ⟨(fi:Int),(ix:Int),(j:Int)⟩)=false):=show∀x,_ from fun x hx=>by
  have:=(gS.1 hx).1;have:=HLN.out;omega
 go_upto_region 20 with fail;go_quiet (fail);clear x10;have HSP:Hid (insCa m.ca ⟨(fi:Int),(ix:Int),(j:Int)⟩=m.ca.take at_++ [⟨(fi:Int),(ix:Int),(j:Int)⟩]++m.ca.drop at_):=show _=_ by
  obtain⟨e1,e2⟩:=tw_split (p:=fun d=>decide (keyC d<keyC ⟨(fi:Int),(ix:Int),(j:Int)⟩)) (l:=m.ca) (k:=at_) OW2.out HST.out (by rw[HLN.out];exact hat)
  unfold insCa;rw[e1,e2];simp
 obtain⟨Wq,hWq⟩:∃Wq,wr.drewN nq=Wq:=⟨_,rfl⟩;have Gq:Hid (Grew wr Wq):=show Grew _ _ by rw[<-hWq];exact(show Below _ _ _ from bD (bR _ _) _)
 rw[hWq];clear hWq;have MQ:=dD (MR.out.grew Gq.out);have KQ:=dD (KR.out.trans (Keeps.grew Gq.out));clear MR KR Gq
 try clear wr
 obtain⟨wr,rfl⟩:∃wr,wr=Wq:=⟨_,rfl⟩;go_upto_region 22 with fail;obtain⟨A,HA⟩:∃A,Hid (m.ca.take at_=A):=⟨_,rfl⟩;obtain⟨D2,HD⟩:∃D2,Hid (m.ca.drop at_=D2):=⟨_,rfl⟩;rw[HA.out,HD.out]at HSP;have HLA:Hid (A.length=at_):=show _=_ by rw[<-HA.out,List.length_take,HLN.out];omega
 have HLD:Hid (D2.length=n - at_):=show _=_ by rw[<-HD.out,List.length_drop,HLN.out]
 obtain⟨cn,HCN⟩:∃cn:Ca,Hid (cn=⟨(fi:Int),(ix:Int),(j:Int)⟩):=⟨_,rfl⟩;rw[<-HCN.out]at HSP;obtain⟨N,HNN⟩:∃N,Hid ((A++ [cn]++D2).length=N):=⟨_,rfl⟩;obtain⟨I,HI⟩:∃I:World->Prop,Hid (∀u,I u↔Grew wr u):=⟨fun u=>Grew wr u,fun _=>Iff.rfl⟩
 have hI0:I wr.drew:=(HI.out _).2 (gW _)
 have hne:Nonempty (HoldI I):=⟨⟨_,hI0⟩⟩;have hx10:∀y:HoldI I,y.world.cell? ⟨b,10,none⟩=some (.slice caa n V.ca.c):=fun y=>by
  have:=(MQ.out.box.box.grew ((HI.out _).1 y.holds)).c 10 rfl;rw[HN.out,HAA.out]at this;exact this
 have HRO:Hid (RowAt cchE wr (.slice caa n V.ca.c) m.ca):=show RowAt _ _ _ _ by
  have:=MQ.out.rows.ca.at;rw[HN.out,HAA.out]at this;exact this
 have hup:=fun W=>run_upto (w:=W) (a:=caa) (n:=n) (c:=V.ca.c) (k:=at_) (nT hat HCC.out)
 have hfr:=fun W=>run_from (w:=W) (a:=caa) (n:=n) (c:=V.ca.c) (k:=at_) hat
 obtain⟨fa,hfa⟩:∃fa,((caa:Option Addr).map fun ad=>if V.ca.c=at_ then ad else ad.add (at_*3))=fa:=⟨_,rfl⟩
 have HRA:Hid (RowAt cchE wr (.slice caa at_ V.ca.c) A):=show RowAt _ _ _ _ by rw[<-HA.out];exact HRO.out.upto hat
 have HRD:Hid (RowAt cchE wr (.slice fa (n - at_) (V.ca.c - at_)) D2):=show RowAt _ _ _ _ by rw[<-HD.out,<-hfa];exact HRO.out.from hat HCC.out
 rw[hfa]at hfr;clear hfa;obtain⟨nd,HND⟩:∃nd,Hid (n - at_=nd):=⟨_,rfl⟩;obtain⟨cd,HCD⟩:∃cd,Hid (V.ca.c - at_=cd):=⟨_,rfl⟩;rw[HND.out,HCD.out]at hfr HRD;refine wp_lax_tailI (I:=I) 27 [(1,⟨fun v=>∃g,v= .slice (some ⟨g,0,none⟩) 0 0,fun v w'=>OwnRow cchE wr.heap.size w' v [],fun p q=>Grew p q,fun _=>True⟩),(9,⟨fun v=>(∃a c,v= .slice a at_ c)/\(at_=0->∃g,v= .slice (some ⟨g,0,none⟩) 0 0),fun v w'=>OwnRow cchE wr.heap.size w' v A,fun p q=>Grew p q,fun _=>True⟩),(14,⟨fun v=>∃g,v= .slice (some ⟨g,0,none⟩) 1 1,fun v w'=>OwnRow cchE wr.heap.size w' v [cn],fun p q=>Grew p q,fun _=>True⟩),(15,⟨fun v=>∃a c,v= .slice a (at_+1) c,fun v w'=>OwnRow cchE wr.heap.size w' v (A++ [cn]),fun p q=>(∀u m,m.length<=at_\/m.length<=1->OwnRow cchE wr.heap.size p u m->OwnRow cchE wr.heap.size q u m),fun _=>True⟩),(23,⟨fun v=>∃a c,v= .slice a N c,fun v w'=>OwnRow cchE wr.heap.size w' v (A++ [cn]++D2),fun p q=>(∀u m,m.length<=at_+1->OwnRow cchE wr.heap.size p u m->OwnRow cchE wr.heap.size q u m),fun _=>True⟩)] hI0 mixed (by kernel_rfl) rfl rfl (by decide) ?hS ?hp ?hpre ?hpr0 ?_
 case hS=>
  intro x hx;simp only[mC,nM,or_false]at hx
  rcases hx with rfl | rfl | rfl | rfl | rfl
  ·exact⟨_,0,rfl⟩
  ·by_cases h0:at_=0
   ·exact⟨.slice (some ⟨0,0,none⟩) 0 0,⟨some ⟨0,0,none⟩,0,by rw[h0]⟩,fun _=>⟨0,rfl⟩⟩
   exact⟨.slice none at_ 0,⟨_,_,rfl⟩,fun h=>absurd h h0⟩
  ·exact⟨_,0,rfl⟩
  ·exact⟨_,none,0,rfl⟩
  exact⟨_,none,0,rfl⟩
 case hp=>
  intro k s j t hk hj hjk hanc v p q hst hpo;have hk':=lookup_in hk;have hj':=lookup_in hj;clear hk hj;simp only[mC,pJ,nM,or_false]at hk' hj'
  rcases hk' with⟨rfl,rfl⟩ | ⟨rfl,rfl⟩ | ⟨rfl,rfl⟩ | ⟨rfl,rfl⟩ | ⟨rfl,rfl⟩
  ·rcases hj' with⟨rfl,rfl⟩ | ⟨rfl,rfl⟩ | ⟨rfl,rfl⟩ | ⟨rfl,rfl⟩ | ⟨rfl,rfl⟩
   ·exact absurd rfl hjk
   ·exact OwnRow.grew hpo hst
   ·exact OwnRow.grew hpo hst
   ·exact hst v [] (.inl (nZ _)) hpo
   exact hst v [] (nZ _) hpo
  ·rcases hj' with⟨rfl,rfl⟩ | ⟨rfl,rfl⟩ | ⟨rfl,rfl⟩ | ⟨rfl,rfl⟩ | ⟨rfl,rfl⟩
   ·exact OwnRow.grew hpo hst
   ·exact absurd rfl hjk
   ·exact OwnRow.grew hpo hst
   ·exact hst v A (.inl (by rw[HLA.out];exact nR _)) hpo
   exact hst v A (by rw[HLA.out];omega) hpo
  ·rcases hj' with⟨rfl,rfl⟩ | ⟨rfl,rfl⟩ | ⟨rfl,rfl⟩ | ⟨rfl,rfl⟩ | ⟨rfl,rfl⟩
   ·exact OwnRow.grew hpo hst
   ·exact OwnRow.grew hpo hst
   ·exact absurd rfl hjk
   ·exact hst v [cn] (.inr (nR _)) hpo
   exact hst v [cn] (by simp) hpo
  ·rcases hj' with⟨rfl,rfl⟩ | ⟨rfl,rfl⟩ | ⟨rfl,rfl⟩ | ⟨rfl,rfl⟩ | ⟨rfl,rfl⟩
   ·exact OwnRow.grew hpo hst
   ·exact OwnRow.grew hpo hst
   ·exact OwnRow.grew hpo hst
   ·exact absurd rfl hjk
   exact hst v (A++ [cn]) (by rw[lA,HLA.out];simp) hpo
  rcases hj' with⟨rfl,rfl⟩ | ⟨rfl,rfl⟩ | ⟨rfl,rfl⟩ | ⟨rfl,rfl⟩ | ⟨rfl,rfl⟩
  ·exact OwnRow.grew hpo hst
  ·exact OwnRow.grew hpo hst
  ·exact OwnRow.grew hpo hst
  ·exact Bool.noConfusion (hanc.symm.trans (show _=true by kernel_rfl))
  exact absurd rfl hjk
 case hpre=>
  intro j t k s hj hk hjk p q hst hpr;have hj':=lookup_in hj;clear hk hj;simp only[mC,pJ,nM,or_false]at hj'
  rcases hj' with⟨rfl,rfl⟩ | ⟨rfl,rfl⟩ | ⟨rfl,rfl⟩ | ⟨rfl,rfl⟩ | ⟨rfl,rfl⟩ <;> trivial
 case hpr0=>
  intro k t hk;have hk':=lookup_in hk;clear hk;simp only[mC,pJ,nM,or_false]at hk'
  rcases hk' with⟨rfl,rfl⟩ | ⟨rfl,rfl⟩ | ⟨rfl,rfl⟩ | ⟨rfl,rfl⟩ | ⟨rfl,rfl⟩ <;> trivial
 simp only[List.take,List.drop];iterate 1 (refine laxI_quiet rfl rfl rfl (fun K hK=>?_);go_big_quiet_op;refine hK _ ?_;clear hK K)
 refine laxI_spec rfl rfl (fun w' hI' hpr hF=>?_) (fun v1 hv=>?_)
 ·have hg:=(HI.out _).1 hI';refine Does.step (v:= .slice (some ⟨w'.heap.size,0,none⟩) 0 0) (w':=w'.alloc (.cells #[] 83)) (by simp only[execOp];go_simp) ⟨(HI.out _).2 (hg.trans (grew_alloc _ _)),grew_alloc _ _,⟨_,rfl⟩,(OwnRow.made cchE w').base (bS hg)⟩
 obtain⟨g0,rfl⟩:=hv;simp only[Act.put,sB,sS,sZ];iterate 1 (refine laxI_quiet rfl rfl rfl (fun K hK=>?_);go_big_quiet_op;refine hK _ ?_;clear hK K)
 refine laxI_nilc (.tmp 121) ⟨b,0,none⟩ rfl rfl rfl rfl ?_;simp only[Act.put,sB,sS,sZ];iterate 5 (refine laxI_quiet rfl rfl rfl (fun K hK=>?_);go_big_quiet_op;refine hK _ ?_;clear hK K)
 refine laxI_spec rfl rfl (fun w' hI' hpr hF=>?_) (fun v1 hv=>?_)
 ·have hg:=(HI.out _).1 hI';have h0:OwnRow cchE wr.heap.size w' (.slice (some ⟨g0,0,none⟩) 0 0) []:=hF 1 (by kernel_rfl)
  obtain⟨v',w2,hrun,ho,hg2,hz⟩:=run_append_new (E:=cchE) (w:=w') 37 h0 (.slice caa at_ V.ca.c) A (HRA.out.grew hg) (bS hg);obtain⟨a',c',rfl⟩:=ho.form;refine Does.step (v:= .slice a' A.length c') (w':=w2) ?_ ⟨(HI.out _).2 (hg.trans hg2),hg2,⟨⟨a',c',by rw[HLA.out]⟩,fun h=>⟨g0,hz (eN (by rw[HLA.out];exact h))⟩⟩,ho⟩
  clear hx10 hup hfr;simp only[execOp,resolve,invoke,builtin,pure_bind,Sem.run_bind,Sem.run_pure,List.map_toArray,mP,List.map_nil];exact Eq.trans (congrArg (fun r=>Result.andThen r (fun a w'=>Result.ok (Next.value a) w')) hrun) rfl
 obtain⟨⟨a3,c3,rfl⟩,hz3⟩:=hv;simp only[Act.put,sB,sS,sZ];iterate 4 (refine laxI_quiet rfl rfl rfl (fun K hK=>?_);go_big_quiet_op;refine hK _ ?_;clear hK K)
 refine laxI_spec rfl rfl (fun w' hI' hpr hF=>?_) (fun v1 hv=>?_)
 ·have hg:=(HI.out _).1 hI';have hoc:=(own_cached w' cn).base (bS hg);rw[HCN.out]at hoc;refine Does.step (v:= .slice (some ⟨w'.heap.size,0,none⟩) 1 1) (w':=w'.alloc (.cells #[.int .i64 (fi:Int),.int .i64 (ix:Int),.int .i64 (j:Int)] 83)) (by clear hx10 hup hfr;simp only[execOp];go_simp) ⟨(HI.out _).2 (hg.trans (grew_alloc _ _)),grew_alloc _ _,⟨_,rfl⟩,by rw[HCN.out];exact hoc⟩
 obtain⟨g5,rfl⟩:=hv;simp only[Act.put,sB,sS,sZ];refine laxI_spec rfl rfl (fun w' hI' hpr hF=>?_) (fun v1 hv=>?_)
 ·have hg:=(HI.out _).1 hI';have o3:OwnRow cchE wr.heap.size w' (.slice a3 at_ c3) A:=hF 9 (by kernel_rfl)
  have o5:OwnRow cchE wr.heap.size w' (.slice (some ⟨g5,0,none⟩) 1 1) [cn]:=hF 14 (by kernel_rfl)
  have key:∃v' w2,(Builtin.append_ #[37,37] 37 #[.slice a3 at_ c3,.slice (some ⟨g5,0,none⟩) 1 1]).run Tryz.prog w'= .ok v' w2/\OwnRow cchE wr.heap.size w2 v' (A++ [cn])/\Grew wr w2/\∀u m,m.length<=at_\/m.length<=1->OwnRow cchE wr.heap.size w' u m->OwnRow cchE wr.heap.size w2 u m:=by
   by_cases h0:at_=0
   ·have hxs:A=[]:=eN (by rw[HLA.out];exact h0)
    obtain⟨g,hgv⟩:=hz3 h0;rw[hgv,hxs]at o3;rw[hgv,hxs];obtain⟨v',w2,hrun,ho,hg2,_⟩:=run_append_new (E:=cchE) (w:=w') 37 o3 (.slice (some ⟨g5,0,none⟩) 1 1) [cn] o5.at (bS hg);exact⟨v',w2,hrun,ho,hg.trans hg2,fun u m _ h=>h.grew hg2⟩
   obtain⟨v',w2,hrun,ho,hgr,hk⟩:=run_append_keeps (E:=cchE) (w:=w') 37 o3 (.slice (some ⟨g5,0,none⟩) 1 1) [cn] o5.at (by rw[HLA.out];show(at_+1)*24<=_;omega) (bS hg)
   refine⟨v',w2,hrun,ho,grew_beside hg hgr (fun g hg'=>(o3.lt g hg').1),fun u m hm h=>hk u m ?_ h⟩
   rw[HLA.out];omega
  obtain⟨v',w2,hrun,ho,hg2,hk⟩:=key;obtain⟨a',c',rfl⟩:=ho.form;refine Does.step (v:= .slice a' (A++ [cn]).length c') (w':=w2) ?_ ⟨(HI.out _).2 hg2,hk,⟨a',c',by rw[lA,HLA.out];rfl⟩,ho⟩
  clear hx10 hup hfr;simp only[execOp,resolve,invoke,builtin,pure_bind,Sem.run_bind,Sem.run_pure,List.map_toArray,mP,List.map_nil];exact Eq.trans (congrArg (fun r=>Result.andThen r (fun a w'=>Result.ok (Next.value a) w')) hrun) rfl
 obtain⟨a6,c6,rfl⟩:=hv;simp only[Act.put,sB,sS,sZ];iterate 1 (refine laxI_quiet rfl rfl rfl (fun K hK=>?_);go_big_quiet_op;refine hK _ ?_;clear hK K)
 refine laxI_nilc (.tmp 135) ⟨b,0,none⟩ rfl rfl rfl rfl ?_;simp only[Act.put,sB,sS,sZ];iterate 5 (refine laxI_quiet rfl rfl rfl (fun K hK=>?_);go_big_quiet_op;refine hK _ ?_;clear hK K)
 refine laxI_spec rfl rfl (fun w' hI' hpr hF=>?_) (fun v1 hv=>?_)
 ·have hg:=(HI.out _).1 hI';have o6:OwnRow cchE wr.heap.size w' (.slice a6 (at_+1) c6) (A++ [cn]):=hF 15 (by kernel_rfl)
  have hl6:(A++ [cn]).length=at_+1:=by rw[lA,HLA.out];rfl
  obtain⟨v',w2,hrun,ho,hgr,hk⟩:=run_append_keeps (E:=cchE) (w:=w') 37 o6 (.slice fa nd cd) D2 (HRD.out.grew hg) (by rw[hl6,HLD.out];show(at_+1+(n - at_))*24<=_;omega) (bS hg)
  obtain⟨a',c',rfl⟩:=ho.form;refine Does.step (v:= .slice a' (A++ [cn]++D2).length c') (w':=w2) ?_ ⟨(HI.out _).2 (grew_beside hg hgr (fun g hg'=>(o6.lt g hg').1)),(fun u m hm h=>hk u m (by rw[hl6];exact hm) h),⟨a',c',by rw[HNN.out]⟩,ho⟩
  clear hx10 hup hfr;simp only[execOp,resolve,invoke,builtin,pure_bind,Sem.run_bind,Sem.run_pure,List.map_toArray,mP,List.map_nil];exact Eq.trans (congrArg (fun r=>Result.andThen r (fun a w'=>Result.ok (Next.value a) w')) hrun) rfl
 obtain⟨a7,c7,rfl⟩:=hv;simp only[Act.put,sB,sS,sZ];refine laxI_nilc (.tmp 119) ⟨b,0,none⟩ rfl rfl rfl rfl ?_;simp only[Act.put,sB,sS,sZ];iterate 2 (refine laxI_quiet rfl rfl rfl (fun K hK=>?_);go_big_quiet_op;refine hK _ ?_;clear hK K)
 refine laxI_nil fun W7 hI7 hF=>?_
 have o7:OwnRow cchE wr.heap.size W7 (.slice a7 N c7) (A++ [cn]++D2):=hF 23;have g7:=(HI.out _).1 hI7;have M7:=dD (MQ.out.grew g7);have K7:=dD (KQ.out.trans (Keeps.grew g7));have O7:Hid (OwnRow cchE wr.heap.size W7 (.slice a7 N c7) (A++ [cn]++D2)):=o7;have HB7:Hid (w0.heap.size<=wr.heap.size):=show _<=_ from bS MQ.out.gr
 have HB8:Hid (b<wr.heap.size):=show _<_ from MQ.out.box.box.lt
 clear o7 g7 hF hI7 hx10 hup hfr hne hI0 HI;have xc:=M7.out.box.box.c 10 rfl;rw[HN.out,HAA.out]at xc;have xf:=M7.out.box.box.f;have HG8:Hid (W7.grownBy (W7.setCell ⟨b,10,none⟩ (.slice a7 N c7)) (some b)):=⟨rfl,rfl,rfl,by simp[World.setCell],fun k _ hk=>Below.heap_setCell _ _ _ _ (fun e=>hk (by rw[e]))⟩
 have M8:Hid (Mk w0 hi (W7.setCell ⟨b,10,none⟩ (.slice a7 N c7)) b vl6 L6 { V with ca:=⟨a7,N,c7⟩ } { m with fs:=m.fs.set j ⟨⟨p0,p1,p2,p3,p4,p5,p6,p7⟩,1,x == 1,dd,(fi:Int),(ix:Int)⟩,ca:=insCa m.ca ⟨(fi:Int),(ix:Int),(j:Int)⟩ } vt T):=show Mk _ _ _ _ _ _ _ _ _ _ by
  have h7:=M7.out;refine⟨grew_grown h7.gr HG8.out h7.hb,h7.hb,h7.box.set 10 _,h7.lr,h7.lc,h7.lb,?_⟩;have hr:=h7.rows.var HG8.out h7.box HG8.out.size (.inl rfl);have:=hr.setCa (s:=⟨a7,N,c7⟩) (ca:=A++ [cn]++D2) ((O7.out.setCell (by have:=HB8.out;simp;omega) _).base HB7.out)
  rw[HCN.out]at this HSP;rw[HSP.out];exact this
 have K8:=dD (K7.out.trans (M7.out.keeps HG8.out));clear O7 M7;go_wp2;go_ret;exact .inr (.inr ⟨j,rfl,q,_,_,_,⟨a7,N,c7⟩,HQ.out,HR0.out,HNO.out,vl6,L6,M8.out,LL6.out,K8.out⟩)
theorem tab_updF (f:Nat->En) (n:Nat) (e:En):tab (updF f n e)=(tab f).set n e:=(tab_set f n e).symm
theorem flaE_upd (f:Nat->En) {n:Nat} (hn:n<64) (e:En):flaE.enc (updF f n e)=splice (flaE.enc f) (n*3) (env e):=by
 show cellsL (tab (updF f n e))=splice (cellsL (tab f)) (n*3) (env e)
 rw[tab_updF];exact(splice_set (enc:=env) (k:=3) e rfl (tab f) n (fun _ _=>rfl) (by rw[tab_len];exact hn)).symm
theorem pair_len {key:Ca->Int}:∀{l:List Ca} {lo N:Nat},l.Pairwise (fun a b=>key a<key b)->(∀c∈l,(lo:Int)<=key c/\key c< (N:Int))->l.length<=N - lo
 | [],_,_,_,_=>nZ _
 | c :: l,lo,N,h,hb=>by
  obtain⟨h1,h2⟩:=List.pairwise_cons.1 h;have h3:=hb c (by simp)
  have ih:=pair_len (lo:=(key c).toNat+1) (N:=N) h2 (fun d hd=>by
   have:=h1 d hd;have:=hb d (by simp[hd])
   omega)
  simp only[List.length_cons];omega
section
variable{m:Ma} {T:List (Nat->En)}
theorem BInv.cached (h:BInv m T):(∀c∈m.ca,0<=c.file/\c.file<=1000/\0<=c.idx/\c.idx<=1000/\0<=c.fr/\c.fr<m.fs.length)/\m.ca.length<=1000/\∀c∈m.ca,∃(k:Nat) (fr:Fr),c.fr=(k:Int)/\m.fs[k]? =some fr/\fr.f=c.file/\fr.x=c.idx:=by
 obtain⟨a1,a2,a3⟩:=caGo_zero.1 h.ca;have key:∀c∈m.ca,(0<=c.file/\c.file<5/\0<=c.idx/\c.idx<12/\0<=c.fr/\c.fr<m.fs.length)/\(frAt m c.fr).f=c.file/\(frAt m c.fr).x=c.idx:=fun c hc=>by
  have h1:=a1 c hc;unfold caE at h1
  split at h1
  ·cases h1
  rename_i hn
  split at h1
  ·cases h1
  rename_i hn2
  have h2:=h.pages (file:=c.file) (by omega) (by omega)
  refine⟨by omega,?_,?_⟩
  ·exact Classical.byContradiction fun e=>hn2 (.inr (.inl e))
  exact Classical.byContradiction fun e=>hn2 (.inr (.inr e))
 refine⟨fun c hc=>?_,?_,fun c hc=>?_⟩
 ·have:=(key c hc).1;omega
 ·refine nT (pair_len (key:=keyC) (lo:=0) (N:=1000) a3 fun c hc=>?_) (nR _)
  have:=(key c hc).1;unfold keyC;omega
 obtain⟨k1,k2,k3⟩:=key c hc;have hlt:c.fr.toNat<m.fs.length:=by omega
 have he:frAt m c.fr=m.fs[c.fr.toNat]:=by
  unfold frAt;rw[gD,gE hlt];rfl
 rw[he]at k2 k3;exact⟨c.fr.toNat,m.fs[c.fr.toNat],by omega,gE hlt,k2,k3⟩
theorem BInv.alone (h:BInv m T) {p n:Nat} {s:Sp} (hs:m.sp[p]? =some s) (hx:(onAt s.ars n).is=true):-1<=(onAt s.ars n).file/\0<=(onAt s.ars n).page/\(onAt s.ars n).page<=1000/\((onAt s.ars n).file<0->(onAt s.ars n).sh=false):=by
 have hw:=(h.spok s (mG hs)).1;have hc:=wrL_zero.1 hw;obtain⟨i,a,h1,h2,h3⟩:=onAt_some hx;have hok:=hc.2.all a (mG h1);rw[h3];unfold ArOk at hok;unfold oneOf;have h2:=arIn_iff.1 h2;obtain⟨o1,o2,o3,o4,o5,o6,o7,o8⟩:=hok;simp only
 split <;> refine⟨by omega,by omega,by omega,fun e=>(o7 e).2⟩
end
section
variable{w0 w w':World} {hi b:Nat} {vl:Sli} {L:List Int} {V:MaV} {m:Ma} {vt:Sli} {T:List (Nat->En)}
theorem Mk.setF (h:Mk w0 hi w b vl L V m vt T) {g:Nat} (hv:(Value.slice V.f.a V.f.n V.f.c).ownBlock=some g) (hg:w.grownBy w' (some g)) (hs:w'.heap.size=w.heap.size) {fs:List Fr} (ho:OwnRow frmE w0.heap.size w' (.slice V.f.a V.f.n V.f.c) fs):Mk w0 hi w' b vl L V { m with fs:=fs } vt T/\Keeps hi w w':=by
 refine⟨⟨grew_grown h.gr hg (h.rows.fs.lt g hv).1,h.hb,h.box.beside hg (fun k e=>by cases e;exact h.rows.fs.ne h.box (by decide) g hv),h.lr,h.lc,h.lb,h.rows.setF hv hg hs ho⟩,?_⟩
 obtain⟨cs,hcs⟩:=h.rows.fs.obj hv;exact Keeps.kind hg hcs (fun _ hl=>absurd rfl hl.2.1)
theorem Mk.setS (h:Mk w0 hi w b vl L V m vt T) {g:Nat} (hv:(Value.slice V.s.a V.s.n V.s.c).ownBlock=some g) (hg:w.grownBy w' (some g)) (hs:w'.heap.size=w.heap.size) {ls:List Int} (ho:OwnRow slE w0.heap.size w' (.slice V.s.a V.s.n V.s.c) ls):Mk w0 hi w' b vl L V { m with sl:=ls } vt T/\Keeps hi w w':=by
 refine⟨⟨grew_grown h.gr hg (h.rows.sl.lt g hv).1,h.hb,h.box.beside hg (fun k e=>by cases e;exact h.rows.sl.ne h.box (by decide) g hv),h.lr,h.lc,h.lb,h.rows.setS hv hg hs ho⟩,?_⟩
 obtain⟨cs,hcs⟩:=h.rows.sl.obj hv;exact Keeps.kind hg hcs (fun _ hl=>absurd rfl hl.2.2.1)
theorem Mk.setT (h:Mk w0 hi w b vl L V m vt T) {g:Nat} (hv:(Value.slice vt.a vt.n vt.c).ownBlock=some g) (hg:w.grownBy w' (some g)) (hs:w'.heap.size=w.heap.size) {T':List (Nat->En)} (ho:OwnRow flaE w0.heap.size w' (.slice vt.a vt.n vt.c) T'):Mk w0 hi w' b vl L V m vt T'/\Keeps hi w w':=by
 refine⟨⟨grew_grown h.gr hg (h.rows.tt.lt g hv).1,h.hb,h.box.beside hg (fun k e=>by cases e;exact h.rows.tt.ne h.box (by decide) g hv),h.lr,h.lc,h.lb,h.rows.setT hv hg hs ho⟩,?_⟩
 obtain⟨cs,hcs⟩:=h.rows.tt.obj hv;exact Keeps.kind hg hcs (fun _ hl=>absurd rfl hl.2.2.2.2.2.2.2.1)
theorem ownPages_obj {base:Nat} {v:Value} {ps:List (List Int)} (h:OwnPages base w v ps) {g:Nat} (hg:v.ownBlock=some g):base<=g/\∃cs,w.heap[g]? =some (.cells cs 50 (0,0)):=by
 rcases h.1.2 with⟨rfl,_⟩ | ⟨k,cap,cur,rfl,h2,h3,_⟩
 ·cases hg
 simp only[Value.ownBlock,Option.some.injEq]at hg;subst hg;exact⟨h2,cur,h3⟩
theorem Mk.setSb (h:Mk w0 hi w b vl L V m vt T) {g:Nat} (hv:(Value.slice V.sb.a V.sb.n V.sb.c).ownBlock=some g) (hg:w.grownBy w' (some g)) (hs:w'.heap.size=w.heap.size) {ls:List (List Int)} (ho:OwnPages w0.heap.size w' (.slice V.sb.a V.sb.n V.sb.c) ls):Mk w0 hi w' b vl L V { m with sb:=ls } vt T/\Keeps hi w w':=by
 obtain⟨h1,cs,h2⟩:=ownPages_obj h.rows.sb hv;refine⟨⟨grew_grown h.gr hg h1,h.hb,h.box.beside hg (fun k e=>?_),h.lr,h.lc,h.lb,h.rows.setSb h2 hv hg hs ho⟩,Keeps.kind hg h2 (fun p hl=>?_)⟩
 ·cases e;intro e;subst e;have h3:w.heap[b]? =_:=h.box;rw[h2]at h3;cases h3
 have:=hl.2.2.2.2.2.2.2.2 rfl;have:=h.rows.sbh g hv;omega
end
theorem splice_one (l:List Value) {i:Nat} (h:i<l.length) (u:Value):splice l i [u]=l.set i u:=by
 rw[List.set_eq_take_append_cons_drop,if_pos h]
 simp[splice]
theorem OwnRow.box {α:Type} {E:Elt α} {w:World} {base g:Nat} {v:Value} {l:List α} (h:OwnRow E base w v l) (hg:v.ownBlock=some g):∃cs,BoxT w g E.ty cs:=by
 obtain⟨cs,h1⟩:=h.obj hg;exact⟨cs.toList,by unfold BoxT;rw[h1]⟩
theorem OwnRow.unfrozen {α:Type} {E:Elt α} {w:World} {base g:Nat} {v:Value} {l:List α} (h:OwnRow E base w v l) (hg:v.ownBlock=some g):∀j,w.frozen? ⟨g,j,none⟩=false:=by
 obtain⟨cs,h1⟩:=h.box hg;exact h1.box.f
theorem OwnRow.cell {α:Type} {E:Elt α} {w:World} {base g:Nat} {v:Value} {l:List α} (h:OwnRow E base w v l) {k o:Nat} (hg:v.ownBlock=some g) {x y:α} (hk:l[k]? =some x) {u:Value} (hy:E.enc y=(E.enc x).set o u) (ho:o<E.k):
  OwnRow E base (w.setCell ⟨g,k*E.k+o,none⟩ u) v (l.set k y)/\w.grownBy (w.setCell ⟨g,k*E.k+o,none⟩ u) (some g)/\(w.setCell ⟨g,k*E.k+o,none⟩ u).heap.size=w.heap.size:=by
 refine⟨⟨?_,by rw[List.length_set];exact h.2⟩,⟨rfl,rfl,rfl,by simp[World.setCell],fun j _ hj=>Below.heap_setCell _ _ _ _ (fun e=>hj (by rw[e]))⟩,by simp[World.setCell]⟩
 have hkl:=(gS.1 hk).1;refine⟨by rw[List.length_set,row_len,List.length_set],?_⟩
 rcases h.1.2 with⟨rfl,_⟩ | ⟨g',cap,cur,rfl,h2,h3,h4,h5,h6,h7⟩
 ·cases hg
 simp only[Value.ownBlock,Option.some.injEq]at hg;subst hg;have hb:BoxT w g' E.ty cur.toList:=by unfold BoxT;rw[h3]
 have hb2:=hb.set (k*E.k+o) u;refine .inr ⟨g',cap,(cur.toList.set (k*E.k+o) u).toArray,by rw[List.length_set],h2,hb2,by rw[List.length_set];exact h4,h5,by simpa using h6,?_⟩
 rw[List.length_set,List.toList_toArray,List.take_set,h7,<-splice_one _ ?_ u]
 ·refine splice_part o [u] (y:=y) ?_ (by simp;omega) l k hk
  rw[hy,splice_one _ (by rw[E.len];exact ho)]
 rw[row_len];have:(k+1)*E.k<=l.length*E.k:=Nat.mul_le_mul_right _ hkl;rw[Nat.add_mul]at this;omega
theorem loc_one {hi p:Nat}:Loc hi p 96:=⟨by decide,by decide,by decide,by decide,by decide,by decide,by decide,by decide,fun h=>absurd h (by decide)⟩
theorem BInv.refs {m:Ma} {T:List (Nat->En)} (h:BInv m T) {k:Nat} {f:Fr} (hk:m.fs[k]? =some f):0<=f.r/\f.r<=2000:=by
 have h1:=(h.cf k f hk).1;have h2:=hold_le T 1 k;have h3:cachedN m.ca k<=m.ca.length:=List.countP_le_length;have h4:=h.cached.2.1;have h5:=h.tl;have h6:=h.spl;omega
def Ent (w0:World) (hi b:Nat) (w:World) (L:List Int) (m:Ma) (vt:Sli) (T:List (Nat->En)) (p n:Nat) (f:Nat->En) (w':World):Prop:=∃vl' L' V' m' T',Mk w0 hi w' b vl' L' V' m' vt T'/\Less L L'/\Keeps hi w w'/\BInv m' T'/\(m'.sp=m.sp/\m'.fl=m.fl/\m'.hand=m.hand/\m'.fs.length=m.fs.length)/\(T'=T\/∃e,T'=T.set p (updF f n e))/\(L=[]->m'=m/\T'=T)
theorem Ent.same {w0:World} {hi b:Nat} {w:World} {L:List Int} {V:MaV} {m:Ma} {vt:Sli} {T:List (Nat->En)} (p n:Nat) (f:Nat->En) {w':World} (hb:BInv m T) (h:MkE w0 hi b w L V m vt T w'):Ent w0 hi b w L m vt T p n f w':=by
 obtain⟨vl',L',h1,h2,h3⟩:=h;exact⟨vl',L',V,m,T,h1,h2,h3,hb,⟨rfl,rfl,rfl,rfl⟩,.inl rfl,fun _=>⟨rfl,rfl⟩⟩
theorem enter_any {w0:World} {hi:Nat} {b:Nat} {vl:Sli} {L:List Int} {V:MaV} {m:Ma} {vt:Sli} {T:List (Nat->En)} {w:World} (p n:Nat) (s:Sp) (f:Nat->En) (x:On) (h:Mk w0 hi w b vl L V m vt T) (hB:BInv m T) (hs:m.sp[p]? =some s) (hT:T[p]? =some f) (hn:n<64) (h0:f n=en0) (hx:onAt s.ars n=x) (his:x.is=true) (hfi:FilesIn m.fl.length s.ars):
  Calls Tryz.prog 83 #[.pointer (some ⟨b,0,none⟩),.int .i64 (p:Int),.int .i64 (n:Int),.agg (onv x).toArray] w fun e w'=>(∃v,e= .returned v)/\Ent w0 hi b w L m vt T p n f w':=by
 have hal:=hB.alone hs (n:=n) (by rw[hx];exact his)
 have hfl:x.file< (m.fl.length:Int):=by rw[<-hx];exact hfi n hn (by rw[hx];exact his)
 rw[hx]at hal;obtain⟨al1,al2,al3,al4⟩:=hal;obtain⟨xis,xrd,xwr,xsh,xfi,xpg⟩:=x;dsimp only at his al1 al2 al3 al4 hfl;subst his;have HX:Hid (onAt s.ars n=⟨true,xrd,xwr,xsh,xfi,xpg⟩):=hx;have HM:Hid (Mk w0 hi w b vl L V m vt T):=h;have HB:Hid (BInv m T):=hB;have HS:Hid (m.sp[p]? =some s):=hs;have HT:Hid (T[p]? =some f):=hT;have H0:Hid (f n=en0):=h0;obtain⟨tn,HTL⟩:∃tn,Hid (T.length=tn):=⟨_,rfl⟩;have hpt:p<tn:=by rw[<-HTL.out];exact(gS.1 hT).1
 have HIS:Hid ((onAt s.ars n).is=true):=show _=_ by rw[hx]
 have HWR:Hid ((onAt s.ars n).wr=xwr):=show _=_ by rw[hx]
 have HSE:Hid ((onAt s.ars n).sh=xsh/\(onAt s.ars n).file=xfi/\(onAt s.ars n).page=xpg):=show _/\_ by rw[hx];exact⟨rfl,rfl,rfl⟩
 obtain⟨px,HPX⟩:∃px,Hid (w.heap.size=px):=⟨_,rfl⟩;obtain⟨W0,hW0⟩:∃W0,w.alloc (.cells #[.bool true,.bool xrd,.bool xwr,.bool xsh,.int .i64 xfi,.int .i64 xpg] 96)=W0:=⟨_,rfl⟩;have HG0:=gA hW0
 have X0:=xPT hW0 HPX
 have M0:Hid (Mk w0 hi W0 b vl L V m vt T):=h.grew HG0.out;have HBX:Hid (b<w.heap.size):=show _<_ from h.box.box.lt
 have HW0:Hid (_=W0):=hW0;clear hW0 h hB hs hT h0 hx hfi
 go_enter Tryz.func83,Tryz.ntmps83
 go_upto_region 1 with fail;have hw:w.alloc (.cells (onv ⟨true,xrd,xwr,xsh,xfi,xpg⟩).toArray 96)=W0:=HW0.out;rw[hw,HPX.out];clear hw;have hpk:=pick_any 4 M0.out;go_wp2_with fail;refine hpk.mono ?_;clear hpk;rintro e W1 ⟨vl1,L1,y,rfl,mk1,gr1,sz1,y0,y1,yn,ll⟩;have M1:Hid (Mk w0 hi W1 b vl1 L1 V m vt T):=mk1;have K1:Hid (Keeps hi w W1):=(Keeps.grew HG0.out).trans (M0.out.keeps gr1);have X1:Hid (BoxT W1 px 96 [.bool true,.bool xrd,.bool xwr,.bool xsh,.int .i64 xfi,.int .i64 xpg]):=X0.out.beside gr1 (fun g e=>by cases e;have:=HBX.out;have:=HPX.out;omega)
 have LL1:Hid (Less L L1):=ll;have hy4:y<4:=by rcases y1 with h | h <;> omega
 have HYN:Hid (L=[]->y=0):=yn;clear mk1 gr1 sz1 y1 yn ll M0 X0
 by_cases hy:y=0
 ·have hye:(y == 0)=true:=by simp[hy]
  clear hy;have HE:Hid (Ent w0 hi b w L m vt T p n f W1):=show Ent _ _ _ _ _ _ _ _ _ _ _ _ from Ent.same p n f HB.out ⟨vl1,L1,M1.out,LL1.out,K1.out⟩
  go_wp2
  (first | go_end0 | ((try simp only[Exit.inBlock,Exit.then]);refine bodyPost_ret (results_none rfl _ _ _) rfl ?_))
  first | exact HE.out | exact⟨⟨_,rfl⟩,HE.out⟩
 have hye:(y == 0)=false:=by simp[hy]
 have HLN:Hid (L≠[]):=show _≠_ from fun e=>hy (HYN.out e)
 clear hy HYN;have c3:=X1.out.box.c 3 rfl;have c4:=X1.out.box.c 4 rfl;have HA4:Hid (xfi<0->xsh=false):=show _->_ from fun h=>al4 (by omega)
 clear al4;go_upto_region 6 with fail
 go_cut [44] (fun s44 wx=>∃c1:Bool,s44= .bool c1/\wx=W1/\Hid (c1=true->0<=xfi)/\Hid (c1=false->xsh=false))
 case first=>
  by_cases hfz:0<=xfi
  ·have hfd:decide ((0:Int)<=xfi)=true:=by simpa using hfz
   cases xsh with
   | true=>
    go_wp2
    go_meet
    exact⟨true,rfl,rfl,fun _=>hfz,fun h=>(by cases h)⟩
   | false=>
    go_wp2
    go_meet
    exact⟨(y == 1),rfl,rfl,fun _=>hfz,fun _=>(by first | rfl | trivial)⟩
  have hfd:decide ((0:Int)<=xfi)=false:=by simpa using hfz
  have HSF:Hid (xsh=false):=HA4.out (by omega)
  go_wp2
  go_meet
  exact⟨false,rfl,rfl,fun h=>(by cases h),fun _=>HSF.out⟩
 obtain⟨c1,rfl,hwc,HC1,HC0⟩:=hcut;rw[hwc];clear hwc c3 c4
 cases c1 with
 | true=>
  have hfz:=HC1.out rfl;obtain⟨fi,rfl⟩:∃fi:Nat,xfi=(fi:Int):=⟨xfi.toNat,by omega⟩
  obtain⟨ix,rfl⟩:∃ix:Nat,xpg=(ix:Int):=⟨xpg.toNat,by omega⟩
  obtain⟨fl,HFL⟩:∃fl,Hid (m.fl[fi]? =some fl):=⟨_,gE (by omega)⟩
  have c3:=X1.out.box.c 3 rfl;have c4:=X1.out.box.c 4 rfl;have c5:=X1.out.box.c 5 rfl;go_upto_region 7 with fail;have x8:=M1.out.box.box.c 8 rfl;obtain⟨_,_,hfe,_,hfr⟩:=FilesAt.rows M1.out.rows.at.fl;have hrw:FlRows W1 V.fl.a m.fl:=by
   simp only[vJ]at hfe;rw[hfe.1];exact hfr
  have hfn:V.fl.n=m.fl.length:=by
   simp only[vJ]at hfe;exact hfe.2.1
  obtain⟨ad,hva,ba,bc,_,hlf⟩:=hrw fi fl HFL.out;obtain⟨-,d1⟩:=hlf W1 (Grew.refl _);obtain⟨fln,hfln⟩:∃fln,V.fl.n=fln:=⟨_,rfl⟩;have hflz:(fi:Int)< (fln:Int):=by
   have:=(gS.1 HFL.out).1;omega
  rw[hva,hfln]at x8;obtain⟨bn,HBN⟩:∃bn,Hid (fl.bl.length=bn):=⟨_,rfl⟩;rw[HBN.out]at d1;clear hfe hfr hrw hfn hva hlf hfln
  by_cases hpg:bn<=ix
  ·have hpgd:decide ((bn:Int)<=(ix:Int))=true:=by simpa using hpg
   go_quiet (fail);obtain⟨W2,hW2⟩:∃W2,W1.drewN nq=W2:=⟨_,rfl⟩;have G2:Hid (Grew W1 W2):=show Grew _ _ by rw[<-hW2];exact(show Below _ _ _ from bD (bR _ _) _)
   rw[hW2];clear hW2 x8 d1 c3 c4 c5;have HE:Hid (Ent w0 hi b w L m vt T p n f W2):=show Ent _ _ _ _ _ _ _ _ _ _ _ _ from Ent.same p n f HB.out ⟨vl1,L1,M1.out.grew G2.out,LL1.out,K1.out.trans (Keeps.grew G2.out)⟩
   go_wp2
   (first | go_end0 | ((try simp only[Exit.inBlock,Exit.then]);refine bodyPost_ret (results_none rfl _ _ _) rfl ?_))
   first | exact HE.out | exact⟨⟨_,rfl⟩,HE.out⟩
  have hpgd:decide ((bn:Int)<=(ix:Int))=false:=by simpa using hpg
  obtain⟨bk,HBK⟩:∃bk,Hid (fl.bl[ix]? =some bk):=⟨_,gE (by rw[HBN.out];omega)⟩
  go_quiet (fail);obtain⟨W2,hW2⟩:∃W2,W1.drewN nq=W2:=⟨_,rfl⟩;have G2:Hid (Grew W1 W2):=show Grew _ _ by rw[<-hW2];exact(show Below _ _ _ from bD (bR _ _) _)
  rw[hW2];clear hW2 x8 d1 c3 c4 c5;have M2:=dD (M1.out.grew G2.out);have K2:=dD (K1.out.trans (Keeps.grew G2.out));have X2:=dD (X1.out.grew G2.out);clear M1 K1 X1 G2;have c4:=X2.out.box.c 4 rfl;have c5:=X2.out.box.c 5 rfl;have hcd:=cached_any fi ix fl bk M2.out HB.out.cached.1 HFL.out HBK.out (by omega) (by have:=(HB.out.pages (file:=(fi:Int)) (by omega) hfl).2;omega) HB.out.cached.2.1
  go_wp2_with fail;refine hcd.mono ?_;clear hcd c4 c5;rintro e W3 hres;have hres2:(e= .returned (.int .i64 (-1))/\MkE w0 hi b w L V m vt T W3)\/∃(k:Nat) (V1:MaV) (m1:Ma) (fr:Fr),e= .returned (.int .i64 (k:Int))/\MkE w0 hi b w L V1 m1 vt T W3/\BInv m1 T/\m1.fs[k]? =some fr/\fr.f=(fi:Int)/\fr.x=(ix:Int)/\(m1.sp=m.sp/\m1.fl=m.fl/\m1.hand=m.hand/\m1.fs.length=m.fs.length):=by
   rcases hres with⟨he,hE⟩ | ⟨c,hc,hc1,hc2,he,hE⟩ | ⟨j,he,q,pg,u,d,sl,hj,hr,hno,hE⟩
   ·exact .inl ⟨he,hE.trans LL1.out K2.out⟩
   ·obtain⟨k,fr,k1,k2,k3,k4⟩:=HB.out.cached.2.2 c hc;exact .inr ⟨k,V,m,fr,by rw[he,k1],hE.trans LL1.out K2.out,HB.out,k2,k3.trans hc1,k4.trans hc2,rfl,rfl,rfl,rfl⟩
   refine .inr ⟨j,_,_,⟨pg,1,u,d,fi,ix⟩,he,hE.trans LL1.out K2.out,HB.out.cache hj hr ⟨by omega,hfl⟩ ⟨by omega,?_⟩ hno,?_,rfl,rfl,rfl,rfl,rfl,List.length_set⟩
   ·unfold bkN;rw[tN,gD,HFL.out];simp only[Option.getD_some];have:=HBN.out;omega
   exact sF (gS.1 hj).1
  have X3:Hid (BoxT W3 px 96 [.bool true,.bool xrd,.bool xwr,.bool xsh,.int .i64 (fi:Int),.int .i64 (ix:Int)]):=show BoxT _ _ _ _ by
   rcases hres with⟨_,_,_,_,_,hk⟩ | ⟨_,_,_,_,_,_,_,_,_,hk⟩ | ⟨_,_,_,_,_,_,_,_,_,_,_,_,_,_,hk⟩
   ·exact hk.1 _ _ _ X2.out loc_one
   ·exact hk.1 _ _ _ X2.out loc_one
   exact hk.1 _ _ _ X2.out loc_one
  clear hres M2 K2 X2
  rcases hres2 with⟨rfl,hE⟩ | ⟨k,V1,m1,fr,rfl,⟨vl3,L3,mk3,ll3,kp3⟩,hb1,hk,hkf,hkx,hsame⟩
  ·have HEE:Hid (MkE w0 hi b w L V m vt T W3):=hE;clear hE;have HE:Hid (Ent w0 hi b w L m vt T p n f W3):=show Ent _ _ _ _ _ _ _ _ _ _ _ _ from Ent.same p n f HB.out HEE.out
   go_wp2
   (first | go_end0 | ((try simp only[Exit.inBlock,Exit.then]);refine bodyPost_ret (results_none rfl _ _ _) rfl ?_))
   first | exact HE.out | exact⟨⟨_,rfl⟩,HE.out⟩
  have M3:Hid (Mk w0 hi W3 b vl3 L3 V1 m1 vt T):=mk3;have K3:Hid (Keeps hi w W3):=kp3;have LL3:Hid (Less L L3):=ll3;have HB1:Hid (BInv m1 T):=hb1;have HK:Hid (m1.fs[k]? =some fr):=hk;have HKF:Hid (fr.f=(fi:Int)/\fr.x=(ix:Int)):=show _/\_ from⟨hkf,hkx⟩
  have HSM:Hid (m1.sp=m.sp/\m1.fl=m.fl/\m1.hand=m.hand/\m1.fs.length=m.fs.length):=show _/\_ from hsame
  obtain⟨hr0,hr1⟩:=hb1.refs hk;obtain⟨nf,HNF⟩:∃nf,Hid (m1.fs.length=nf):=⟨_,rfl⟩;have hkn:k<nf:=by rw[<-HNF.out];exact(gS.1 hk).1
  have hkz:(k:Int)< (nf:Int):=by omega
  have hk0:¬(k:Int)<0:=by omega
  clear mk3 ll3 kp3 hb1 hk hkf hkx hsame;obtain⟨g,cf,heq⟩:=M3.out.rows.fs.formS (by rw[HNF.out];omega)
  rw[HNF.out]at heq;have HEQ:Hid (Value.slice V1.f.a V1.f.n V1.f.c= .slice (some ⟨g,0,none⟩) nf cf):=heq;have x1:=M3.out.box.box.c 1 rfl;rw[HEQ.out]at x1;have hrw:=M3.out.rows.fs;rw[HEQ.out]at hrw;have HRW:Hid (OwnRow frmE w0.heap.size W3 (.slice (some ⟨g,0,none⟩) nf cf) m1.fs):=hrw;have hce:=hrw.one HK.out;have d8:W3.cell? ⟨g,k*13+8,none⟩=some (.int .i64 fr.r):=by
   have:=hce 8 _ rfl;rw[add_add',Addr.add_lit,zA]at this;exact this
  clear hce hrw heq;have xf:=HRW.out.unfrozen rfl;go_upto_region 11 with fail;obtain⟨ow4,gr4,sz4⟩:=HRW.out.cell (k:=k) (o:=8) rfl HK.out (y:={ fr with r:=fr.r+1 }) (u:= .int .i64 (fr.r+1)) rfl (by decide)
  obtain⟨W4,hW4⟩:∃W4,W3.setCell ⟨g,k*13+8,none⟩ (.int .i64 (fr.r+1))=W4:=⟨_,rfl⟩;have e4:W3.setCell ⟨g,k*frmE.k+8,none⟩ (.int .i64 (fr.r+1))=W4:=hW4;rw[e4]at ow4 gr4 sz4;rw[hW4];rw[<-HEQ.out]at ow4;clear e4 hW4 xf;have hM4:=M3.out.setF (by rw[HEQ.out];rfl) gr4 sz4 ow4
  have M4:Hid (Mk w0 hi W4 b vl3 L3 V1 { m1 with fs:=m1.fs.set k { fr with r:=fr.r+1 } } vt T):=hM4.1;have K4:Hid (Keeps hi w W4):=K3.out.trans hM4.2;have X4:Hid (BoxT W4 px 96 [.bool true,.bool xrd,.bool xwr,.bool xsh,.int .i64 (fi:Int),.int .i64 (ix:Int)]):=hM4.2.1 _ _ _ X3.out loc_one;have HBF:Hid (∀wf:Bool,(wf=true->xsh=true/\xwr=true)->BInv { m1 with fs:=m1.fs.set k { fr with r:=fr.r+1 } } (T.set p (updF f n ⟨1,(k:Int),wf⟩))):=show∀wf:Bool,_ from fun wf hwf=>HB1.out.hold HK.out (by rw[HKF.out.1];omega) (by rw[HSM.out.1];exact HS.out) HT.out hn H0.out HIS.out (by rw[HKF.out.1];exact HSE.out.2.1) (by rw[HKF.out.2];exact HSE.out.2.2) (fun e=>by rw[HSE.out.1,HWR.out];exact hwf e)
  clear hM4 ow4 gr4 sz4 x1 d8 M3 K3 X3 HRW HEQ
  cases xsh with
  | false=>
   obtain⟨gt,ct,hte⟩:=M4.out.rows.tt.formS (by rw[HTL.out];omega)
   rw[HTL.out]at hte;have HTE:Hid (Value.slice vt.a vt.n vt.c= .slice (some ⟨gt,0,none⟩) tn ct):=hte;clear hte;obtain⟨I,HI⟩:∃I:World->Prop,Hid (∀u,I u↔u.cell? ⟨b,12,none⟩=some (.slice (some ⟨gt,0,none⟩) tn ct)/\BoxT u px 96 [.bool true,.bool xrd,.bool xwr,.bool false,.int .i64 (fi:Int),.int .i64 (ix:Int)]):=⟨fun u=>u.cell? ⟨b,12,none⟩=some (.slice (some ⟨gt,0,none⟩) tn ct)/\BoxT u px 96 [.bool true,.bool xrd,.bool xwr,.bool false,.int .i64 (fi:Int),.int .i64 (ix:Int)],fun _=>Iff.rfl⟩
   have HIM:Hid (∀u vl' L' V' m',Mk w0 hi u b vl' L' V' m' vt T->u.cell? ⟨b,12,none⟩=some (.slice (some ⟨gt,0,none⟩) tn ct)):=show∀u,_ from fun u vl' L' V' m' hm=>by
    have:=hm.box.box.c 12 rfl;rw[HTE.out]at this;exact this
   have hI0:I W4.drew:=(HI.out _).2 ⟨HIM.out _ _ _ _ _ (M4.out.grew (gW _)),X4.out.grew (gW _)⟩
   have hF0:MkE w0 hi b w L V1 { m1 with fs:=m1.fs.set k { fr with r:=fr.r+1 } } vt T W4.drew:=⟨vl3,L3,M4.out.grew (gW _),LL3.out,K4.out.trans (Keeps.grew (gW _))⟩
   have ht:∀y:HoldI I,y.world.cell? ⟨b,12,none⟩=some (.slice (some ⟨gt,0,none⟩) tn ct):=fun y=>((HI.out _).1 y.holds).1
   have hx2:∀y:HoldI I,y.world.cell? ⟨px,2,none⟩=some (.bool xwr):=fun y=>((HI.out _).1 y.holds).2.box.c 2 rfl
   have hx3:∀y:HoldI I,y.world.cell? ⟨px,3,none⟩=some (.bool false):=fun y=>((HI.out _).1 y.holds).2.box.c 3 rfl
   have hne:Nonempty (HoldI I):=⟨⟨_,hI0⟩⟩;have hptz:(p:Int)< (tn:Int):=by omega
   have hnz:(n:Int)<64:=by omega
   refine wp_lax_tailD (I:=I) 21 [(15,fun v=>∃x:Int,v= .int .i64 x)] (fun u=>MkE w0 hi b w L V1 { m1 with fs:=m1.fs.set k { fr with r:=fr.r+1 } } vt T u) hI0 hF0 mixed (by kernel_rfl) rfl rfl (by decide) ?hS (by kernel_rfl) ?_
   case hS=>
    intro x hx;simp only[mC,nM,or_false]at hx;subst hx;exact⟨_,0,rfl⟩
   simp only[List.take,List.drop];iterate 1 (refine laxD_quiet rfl rfl rfl (fun K hK=>?_);go_big_quiet_op;refine hK _ ?_;clear hK K)
   refine laxD_nilc (.tmp 92) ⟨b,0,none⟩ rfl rfl rfl rfl ?_;simp only[Act.put,sB,sS,sZ];iterate 8 (refine laxD_quiet rfl rfl rfl (fun K hK=>?_);go_big_quiet_op;refine hK _ ?_;clear hK K)
   refine laxD_skip ?_ ?_
   ·kernel_rfl
   simp only[Act.put,sB,sS,sZ];refine laxD_skip ?_ ?_
   ·kernel_rfl
   simp only[Act.put,sB,sS,sZ];iterate 2 (refine laxD_quiet rfl rfl rfl (fun K hK=>?_);go_big_quiet_op;refine hK _ ?_;clear hK K)
   refine laxD_skip ?_ ?_
   ·kernel_rfl
   simp only[Act.put,sB,sS,sZ];refine laxD_skip ?_ ?_
   ·kernel_rfl
   simp only[Act.put,sB,sS,sZ];refine laxD_skip ?_ ?_
   ·kernel_rfl
   simp only[Act.put,sB,sS,sZ];iterate 4 (refine laxD_quiet rfl rfl rfl (fun K hK=>?_);go_big_quiet_op;refine hK _ ?_;clear hK K)
   refine laxD_nil fun W8 hI8 hF8=>?_
   obtain⟨vl8,L8,mk8,ll8,kp8⟩:=hF8;have M8:Hid (Mk w0 hi W8 b vl8 L8 V1 { m1 with fs:=m1.fs.set k { fr with r:=fr.r+1 } } vt T):=mk8;have LL8:Hid (Less L L8):=ll8;have K8:Hid (Keeps hi w W8):=kp8;clear mk8 ll8 kp8 hI8 hI0 hF0 ht hx2 hx3 hne HI;have R8:Hid (OwnRow flaE w0.heap.size W8 (.slice (some ⟨gt,0,none⟩) tn ct) T):=show OwnRow _ _ _ _ _ by rw[<-HTE.out];exact M8.out.rows.tt
   refine wpList_store_part (E:=flaE) rfl (.tmp 112) (.tmp 110) 67 rfl w0.heap.size _ T R8.out gt p (n*3) rfl f (updF f n ⟨1,(k:Int),false⟩) HT.out (env ⟨1,(k:Int),false⟩) (by kernel_rfl) (flaE_upd f hn _) (by show n*3+3<=192;omega) (enE.one _) ⟨gt,p*192+n*3,none⟩ rfl rfl (.agg (env ⟨1,(k:Int),false⟩).toArray) rfl rfl ?_
   intro W9 ow9 gr9 sz9;rw[<-HTE.out]at ow9;have hM9:=M8.out.setT (by rw[HTE.out];rfl) gr9 sz9 ow9
   have M9:Hid (Mk w0 hi W9 b vl8 L8 V1 { m1 with fs:=m1.fs.set k { fr with r:=fr.r+1 } } vt (T.set p (updF f n ⟨1,(k:Int),false⟩))):=hM9.1;have K9:Hid (Keeps hi w W9):=K8.out.trans hM9.2;clear hM9 ow9 gr9 sz9 R8;have HE:Hid (Ent w0 hi b w L m vt T p n f W9):=show Ent _ _ _ _ _ _ _ _ _ _ _ _ from⟨vl8,L8,_,_,_,M9.out,LL8.out,K9.out,HBF.out _ (by intro e;first | exact⟨rfl,rfl⟩ | cases e),⟨HSM.out.1,HSM.out.2.1,HSM.out.2.2.1,List.length_set.trans HSM.out.2.2.2⟩,.inr ⟨_,rfl⟩,fun h=>absurd h HLN.out⟩
   go_wp2
   (first | go_end0 | ((try simp only[Exit.inBlock,Exit.then]);refine bodyPost_ret (results_none rfl _ _ _) rfl ?_))
   first | exact HE.out | exact⟨⟨_,rfl⟩,HE.out⟩
  | true=>
   cases xwr with
   | false=>
    obtain⟨gt,ct,hte⟩:=M4.out.rows.tt.formS (by rw[HTL.out];omega)
    rw[HTL.out]at hte;have HTE:Hid (Value.slice vt.a vt.n vt.c= .slice (some ⟨gt,0,none⟩) tn ct):=hte;clear hte;obtain⟨I,HI⟩:∃I:World->Prop,Hid (∀u,I u↔u.cell? ⟨b,12,none⟩=some (.slice (some ⟨gt,0,none⟩) tn ct)/\BoxT u px 96 [.bool true,.bool xrd,.bool false,.bool true,.int .i64 (fi:Int),.int .i64 (ix:Int)]):=⟨fun u=>u.cell? ⟨b,12,none⟩=some (.slice (some ⟨gt,0,none⟩) tn ct)/\BoxT u px 96 [.bool true,.bool xrd,.bool false,.bool true,.int .i64 (fi:Int),.int .i64 (ix:Int)],fun _=>Iff.rfl⟩
    have HIM:Hid (∀u vl' L' V' m',Mk w0 hi u b vl' L' V' m' vt T->u.cell? ⟨b,12,none⟩=some (.slice (some ⟨gt,0,none⟩) tn ct)):=show∀u,_ from fun u vl' L' V' m' hm=>by
     have:=hm.box.box.c 12 rfl;rw[HTE.out]at this;exact this
    have hI0:I W4.drew:=(HI.out _).2 ⟨HIM.out _ _ _ _ _ (M4.out.grew (gW _)),X4.out.grew (gW _)⟩
    have hF0:MkE w0 hi b w L V1 { m1 with fs:=m1.fs.set k { fr with r:=fr.r+1 } } vt T W4.drew:=⟨vl3,L3,M4.out.grew (gW _),LL3.out,K4.out.trans (Keeps.grew (gW _))⟩
    have ht:∀y:HoldI I,y.world.cell? ⟨b,12,none⟩=some (.slice (some ⟨gt,0,none⟩) tn ct):=fun y=>((HI.out _).1 y.holds).1
    have hx2:∀y:HoldI I,y.world.cell? ⟨px,2,none⟩=some (.bool false):=fun y=>((HI.out _).1 y.holds).2.box.c 2 rfl
    have hx3:∀y:HoldI I,y.world.cell? ⟨px,3,none⟩=some (.bool true):=fun y=>((HI.out _).1 y.holds).2.box.c 3 rfl
    have hne:Nonempty (HoldI I):=⟨⟨_,hI0⟩⟩;have hptz:(p:Int)< (tn:Int):=by omega
    have hnz:(n:Int)<64:=by omega
    refine wp_lax_tailD (I:=I) 21 [(15,fun v=>∃x:Int,v= .int .i64 x)] (fun u=>MkE w0 hi b w L V1 { m1 with fs:=m1.fs.set k { fr with r:=fr.r+1 } } vt T u) hI0 hF0 mixed (by kernel_rfl) rfl rfl (by decide) ?hS (by kernel_rfl) ?_
    case hS=>
     intro x hx;simp only[mC,nM,or_false]at hx;subst hx;exact⟨_,0,rfl⟩
    simp only[List.take,List.drop];iterate 1 (refine laxD_quiet rfl rfl rfl (fun K hK=>?_);go_big_quiet_op;refine hK _ ?_;clear hK K)
    refine laxD_nilc (.tmp 92) ⟨b,0,none⟩ rfl rfl rfl rfl ?_;simp only[Act.put,sB,sS,sZ];iterate 8 (refine laxD_quiet rfl rfl rfl (fun K hK=>?_);go_big_quiet_op;refine hK _ ?_;clear hK K)
    iterate 4 (refine laxD_quiet rfl rfl rfl (fun K hK=>?_);go_big_quiet_op;refine hK _ ?_;clear hK K)
    refine laxD_skip ?_ ?_
    ·kernel_rfl
    simp only[Act.put,sB,sS,sZ];refine laxD_skip ?_ ?_
    ·kernel_rfl
    simp only[Act.put,sB,sS,sZ];refine laxD_skip ?_ ?_
    ·kernel_rfl
    simp only[Act.put,sB,sS,sZ];iterate 4 (refine laxD_quiet rfl rfl rfl (fun K hK=>?_);go_big_quiet_op;refine hK _ ?_;clear hK K)
    refine laxD_nil fun W8 hI8 hF8=>?_
    obtain⟨vl8,L8,mk8,ll8,kp8⟩:=hF8;have M8:Hid (Mk w0 hi W8 b vl8 L8 V1 { m1 with fs:=m1.fs.set k { fr with r:=fr.r+1 } } vt T):=mk8;have LL8:Hid (Less L L8):=ll8;have K8:Hid (Keeps hi w W8):=kp8;clear mk8 ll8 kp8 hI8 hI0 hF0 ht hx2 hx3 hne HI;have R8:Hid (OwnRow flaE w0.heap.size W8 (.slice (some ⟨gt,0,none⟩) tn ct) T):=show OwnRow _ _ _ _ _ by rw[<-HTE.out];exact M8.out.rows.tt
    refine wpList_store_part (E:=flaE) rfl (.tmp 112) (.tmp 110) 67 rfl w0.heap.size _ T R8.out gt p (n*3) rfl f (updF f n ⟨1,(k:Int),false⟩) HT.out (env ⟨1,(k:Int),false⟩) (by kernel_rfl) (flaE_upd f hn _) (by show n*3+3<=192;omega) (enE.one _) ⟨gt,p*192+n*3,none⟩ rfl rfl (.agg (env ⟨1,(k:Int),false⟩).toArray) rfl rfl ?_
    intro W9 ow9 gr9 sz9;rw[<-HTE.out]at ow9;have hM9:=M8.out.setT (by rw[HTE.out];rfl) gr9 sz9 ow9
    have M9:Hid (Mk w0 hi W9 b vl8 L8 V1 { m1 with fs:=m1.fs.set k { fr with r:=fr.r+1 } } vt (T.set p (updF f n ⟨1,(k:Int),false⟩))):=hM9.1;have K9:Hid (Keeps hi w W9):=K8.out.trans hM9.2;clear hM9 ow9 gr9 sz9 R8;have HE:Hid (Ent w0 hi b w L m vt T p n f W9):=show Ent _ _ _ _ _ _ _ _ _ _ _ _ from⟨vl8,L8,_,_,_,M9.out,LL8.out,K9.out,HBF.out _ (by intro e;first | exact⟨rfl,rfl⟩ | cases e),⟨HSM.out.1,HSM.out.2.1,HSM.out.2.2.1,List.length_set.trans HSM.out.2.2.2⟩,.inr ⟨_,rfl⟩,fun h=>absurd h HLN.out⟩
    go_wp2
    (first | go_end0 | ((try simp only[Exit.inBlock,Exit.then]);refine bodyPost_ret (results_none rfl _ _ _) rfl ?_))
    first | exact HE.out | exact⟨⟨_,rfl⟩,HE.out⟩
   | true=>
    obtain⟨gt,ct,hte⟩:=M4.out.rows.tt.formS (by rw[HTL.out];omega)
    rw[HTL.out]at hte;have HTE:Hid (Value.slice vt.a vt.n vt.c= .slice (some ⟨gt,0,none⟩) tn ct):=hte;clear hte;obtain⟨I,HI⟩:∃I:World->Prop,Hid (∀u,I u↔u.cell? ⟨b,12,none⟩=some (.slice (some ⟨gt,0,none⟩) tn ct)/\BoxT u px 96 [.bool true,.bool xrd,.bool true,.bool true,.int .i64 (fi:Int),.int .i64 (ix:Int)]):=⟨fun u=>u.cell? ⟨b,12,none⟩=some (.slice (some ⟨gt,0,none⟩) tn ct)/\BoxT u px 96 [.bool true,.bool xrd,.bool true,.bool true,.int .i64 (fi:Int),.int .i64 (ix:Int)],fun _=>Iff.rfl⟩
    have HIM:Hid (∀u vl' L' V' m',Mk w0 hi u b vl' L' V' m' vt T->u.cell? ⟨b,12,none⟩=some (.slice (some ⟨gt,0,none⟩) tn ct)):=show∀u,_ from fun u vl' L' V' m' hm=>by
     have:=hm.box.box.c 12 rfl;rw[HTE.out]at this;exact this
    have hI0:I W4.drew:=(HI.out _).2 ⟨HIM.out _ _ _ _ _ (M4.out.grew (gW _)),X4.out.grew (gW _)⟩
    have hF0:MkE w0 hi b w L V1 { m1 with fs:=m1.fs.set k { fr with r:=fr.r+1 } } vt T W4.drew:=⟨vl3,L3,M4.out.grew (gW _),LL3.out,K4.out.trans (Keeps.grew (gW _))⟩
    have ht:∀y:HoldI I,y.world.cell? ⟨b,12,none⟩=some (.slice (some ⟨gt,0,none⟩) tn ct):=fun y=>((HI.out _).1 y.holds).1
    have hx2:∀y:HoldI I,y.world.cell? ⟨px,2,none⟩=some (.bool true):=fun y=>((HI.out _).1 y.holds).2.box.c 2 rfl
    have hx3:∀y:HoldI I,y.world.cell? ⟨px,3,none⟩=some (.bool true):=fun y=>((HI.out _).1 y.holds).2.box.c 3 rfl
    have hne:Nonempty (HoldI I):=⟨⟨_,hI0⟩⟩;have hptz:(p:Int)< (tn:Int):=by omega
    have hnz:(n:Int)<64:=by omega
    refine wp_lax_tailD (I:=I) 21 [(15,fun v=>∃x:Int,v= .int .i64 x)] (fun u=>MkE w0 hi b w L V1 { m1 with fs:=m1.fs.set k { fr with r:=fr.r+1 } } vt T u) hI0 hF0 mixed (by kernel_rfl) rfl rfl (by decide) ?hS (by kernel_rfl) ?_
    case hS=>
     intro x hx;simp only[mC,nM,or_false]at hx;subst hx;exact⟨_,0,rfl⟩
    simp only[List.take,List.drop];iterate 1 (refine laxD_quiet rfl rfl rfl (fun K hK=>?_);go_big_quiet_op;refine hK _ ?_;clear hK K)
    refine laxD_nilc (.tmp 92) ⟨b,0,none⟩ rfl rfl rfl rfl ?_;simp only[Act.put,sB,sS,sZ];iterate 8 (refine laxD_quiet rfl rfl rfl (fun K hK=>?_);go_big_quiet_op;refine hK _ ?_;clear hK K)
    iterate 4 (refine laxD_quiet rfl rfl rfl (fun K hK=>?_);go_big_quiet_op;refine hK _ ?_;clear hK K)
    iterate 1 (refine laxD_quiet rfl rfl rfl (fun K hK=>?_);go_big_quiet_op;refine hK _ ?_;clear hK K)
    refine laxD_spec rfl rfl (fun _ u=>MkE w0 hi b w L V1 { m1 with fs:=m1.fs.set k { fr with r:=fr.r+1 } } vt T u) (fun w' hI' hF'=>?_) (fun v1 hv=>?_)
    ·obtain⟨vl',L',mk',ll',kp'⟩:=hF';refine Does.call [.pointer (some ⟨b,0,none⟩),.int .i64 2] rfl Tryz.func27 rfl rfl rfl ?_;refine(pick_any 2 mk').mono ?_;rintro e w'' ⟨vl2,L2,x,rfl,mk2,gr2,_,_,_,_,ll2⟩;exact⟨_,rfl,(HI.out _).2 ⟨HIM.out _ _ _ _ _ mk2,(mk'.keeps gr2).1 _ _ _ ((HI.out _).1 hI').2 loc_one⟩,⟨x,rfl⟩,vl2,L2,mk2,ll'.trans ll2,kp'.trans (mk'.keeps gr2)⟩
    obtain⟨xq,rfl⟩:=hv;simp only[Act.put,sB,sS,sZ];iterate 5 (refine laxD_quiet rfl rfl rfl (fun K hK=>?_);go_big_quiet_op;refine hK _ ?_;clear hK K)
    refine laxD_nil fun W8 hI8 hF8=>?_
    obtain⟨vl8,L8,mk8,ll8,kp8⟩:=hF8;have M8:Hid (Mk w0 hi W8 b vl8 L8 V1 { m1 with fs:=m1.fs.set k { fr with r:=fr.r+1 } } vt T):=mk8;have LL8:Hid (Less L L8):=ll8;have K8:Hid (Keeps hi w W8):=kp8;clear mk8 ll8 kp8 hI8 hI0 hF0 ht hx2 hx3 hne HI;have R8:Hid (OwnRow flaE w0.heap.size W8 (.slice (some ⟨gt,0,none⟩) tn ct) T):=show OwnRow _ _ _ _ _ by rw[<-HTE.out];exact M8.out.rows.tt
    refine wpList_store_part (E:=flaE) rfl (.tmp 112) (.tmp 110) 67 rfl w0.heap.size _ T R8.out gt p (n*3) rfl f (updF f n ⟨1,(k:Int),(xq == 1)⟩) HT.out (env ⟨1,(k:Int),(xq == 1)⟩) (by kernel_rfl) (flaE_upd f hn _) (by show n*3+3<=192;omega) (enE.one _) ⟨gt,p*192+n*3,none⟩ rfl rfl (.agg (env ⟨1,(k:Int),(xq == 1)⟩).toArray) rfl rfl ?_
    intro W9 ow9 gr9 sz9;rw[<-HTE.out]at ow9;have hM9:=M8.out.setT (by rw[HTE.out];rfl) gr9 sz9 ow9
    have M9:Hid (Mk w0 hi W9 b vl8 L8 V1 { m1 with fs:=m1.fs.set k { fr with r:=fr.r+1 } } vt (T.set p (updF f n ⟨1,(k:Int),(xq == 1)⟩))):=hM9.1;have K9:Hid (Keeps hi w W9):=K8.out.trans hM9.2;clear hM9 ow9 gr9 sz9 R8;have HE:Hid (Ent w0 hi b w L m vt T p n f W9):=show Ent _ _ _ _ _ _ _ _ _ _ _ _ from⟨vl8,L8,_,_,_,M9.out,LL8.out,K9.out,HBF.out _ (by intro e;first | exact⟨rfl,rfl⟩ | cases e),⟨HSM.out.1,HSM.out.2.1,HSM.out.2.2.1,List.length_set.trans HSM.out.2.2.2⟩,.inr ⟨_,rfl⟩,fun h=>absurd h HLN.out⟩
    go_wp2
    (first | go_end0 | ((try simp only[Exit.inBlock,Exit.then]);refine bodyPost_ret (results_none rfl _ _ _) rfl ?_))
    first | exact HE.out | exact⟨⟨_,rfl⟩,HE.out⟩
 | false=>
  have hsh:=HC0.out rfl;subst hsh;have x3:=M1.out.box.box.c 3 rfl;obtain⟨sn,hsn⟩:∃sn,V.s.n=sn:=⟨_,rfl⟩;have HSL:Hid (m.sl.length=sn):=show _=_ by rw[<-hsn];exact M1.out.rows.sl.n.symm
  rw[hsn]at x3;clear hsn;go_upto_region 12 with fail
  go_cut [113] (fun s113 wx=>∃c2:Bool,s113= .bool c2/\wx=W1/\Hid (c2=true->0<sn))
  case first=>
   by_cases h2:y=2
   ·have h2e:(y == 2)=true:=by simp[h2]
    clear h2;go_wp2
    go_meet
    exact⟨_,rfl,rfl,fun h=>by simpa using h⟩
   have h2e:(y == 2)=false:=by simp[h2]
   clear h2;go_wp2
   go_meet
   exact⟨false,rfl,rfl,fun h=>(by cases h)⟩
  obtain⟨c2,rfl,hwc,HC2⟩:=hcut;rw[hwc];clear hwc
  cases c2 with
  | true=>
   have hs0:=HC2.out rfl;have hpk2:=pick_any (sn:Int) M1.out;go_wp2_with fail;refine hpk2.mono ?_;clear hpk2;rintro e W2 ⟨vl2,L2,z,rfl,mk2,gr2,sz2,z0,z1,_,ll2⟩;obtain⟨k,rfl⟩:∃k:Nat,z=(k:Int):=⟨z.toNat,by omega⟩
   have hks:k<sn:=by rcases z1 with h | h <;> omega
   have hksz:(k:Int)< (sn:Int):=by omega
   have M2:Hid (Mk w0 hi W2 b vl2 L2 V m vt T):=mk2;have K2:=dD (K1.out.trans (M1.out.keeps gr2));have LL2:=dD (LL1.out.trans ll2);clear mk2 gr2 sz2 z0 z1 ll2 x3;obtain⟨g,cs',heq⟩:=M2.out.rows.sl.formS (by rw[HSL.out];omega)
   rw[HSL.out]at heq;have HEQ:Hid (Value.slice V.s.a V.s.n V.s.c= .slice (some ⟨g,0,none⟩) sn cs'):=heq;have x3:=M2.out.box.box.c 3 rfl;rw[HEQ.out]at x3;have hrw:=M2.out.rows.sl;rw[HEQ.out]at hrw;have HRW:Hid (OwnRow slE w0.heap.size W2 (.slice (some ⟨g,0,none⟩) sn cs') m.sl):=hrw;obtain⟨zv,HZV⟩:∃zv,Hid (m.sl[k]? =some zv):=⟨_,gE (by rw[HSL.out];exact hks)⟩
   have hce:=hrw.one HZV.out;have d0:W2.cell? ⟨g,k,none⟩=some (.int .i64 zv):=by
    have:=hce 0 _ rfl;rw[add_add',Addr.add_lit,zA]at this
    simpa [slE,Nat.mul_one]using this
   clear hce hrw heq
   by_cases hz:zv=0
   ·have hze:(zv == 0)=true:=by simp[hz]
    have HZ0:Hid (m.sl[k]? =some 0):=show _=_ by rw[HZV.out,hz]
    clear hz;have xf:=HRW.out.unfrozen rfl;go_upto_region 16 with fail;obtain⟨ow3,gr3,sz3⟩:=HRW.out.cell (k:=k) (o:=0) rfl HZV.out (y:=1) (u:= .int .i64 1) rfl (by decide)
    obtain⟨W3,hW3⟩:∃W3,W2.setCell ⟨g,k,none⟩ (.int .i64 1)=W3:=⟨_,rfl⟩;have e3:W2.setCell ⟨g,k*slE.k+0,none⟩ (.int .i64 1)=W3:=by rw[<-hW3];simp[slE]
    rw[e3]at ow3 gr3 sz3;rw[hW3];rw[<-HEQ.out]at ow3;clear e3 hW3 xf;have hM3:=M2.out.setS (by rw[HEQ.out];rfl) gr3 sz3 ow3
    have M3:Hid (Mk w0 hi W3 b vl2 L2 V { m with sl:=m.sl.set k 1 } vt T):=hM3.1;have K3:Hid (Keeps hi w W3):=K2.out.trans hM3.2;clear hM3 ow3 gr3 sz3 x3 d0 M2 K2 HRW;have HSBL:Hid (m.sb.length=sn):=show _=_ by rw[HB.out.sbl,HSL.out]
    obtain⟨gb,cb,hbe⟩:∃gb cb,Value.slice V.sb.a V.sb.n V.sb.c= .slice (some ⟨gb,0,none⟩) sn cb:=by
     have h1:=M3.out.rows.sb.1;have hl:({ m with sl:=m.sl.set k 1 }:Ma).sb.length=sn:=HSBL.out;rw[hl]at h1
     rcases h1.2 with⟨_,h2⟩ | ⟨gb,cap,cur,e1,_⟩
     ·omega
     exact⟨gb,cap,e1⟩
    have HBE:Hid (Value.slice V.sb.a V.sb.n V.sb.c= .slice (some ⟨gb,0,none⟩) sn cb):=hbe;clear hbe;obtain⟨I,HI⟩:∃I:World->Prop,Hid (∀u,I u↔u.cell? ⟨b,4,none⟩=some (.slice (some ⟨gb,0,none⟩) sn cb)):=⟨fun u=>u.cell? ⟨b,4,none⟩=some (.slice (some ⟨gb,0,none⟩) sn cb),fun _=>Iff.rfl⟩
    have HIM:Hid (∀u vl' L' m',Mk w0 hi u b vl' L' V m' vt T->u.cell? ⟨b,4,none⟩=some (.slice (some ⟨gb,0,none⟩) sn cb)):=show∀u,_ from fun u vl' L' m' hm=>by
     have:=hm.box.box.c 4 rfl;rw[HBE.out]at this;exact this
    have hI0:I W3.drew:=(HI.out _).2 (HIM.out _ _ _ _ (M3.out.grew (gW _)))
    have hF0:MkE w0 hi b w L V { m with sl:=m.sl.set k 1 } vt T W3.drew:=⟨vl2,L2,M3.out.grew (gW _),LL2.out,K3.out.trans (Keeps.grew (gW _))⟩
    have ht:∀y:HoldI I,y.world.cell? ⟨b,4,none⟩=some (.slice (some ⟨gb,0,none⟩) sn cb):=fun y=>(HI.out _).1 y.holds
    have hne:Nonempty (HoldI I):=⟨⟨_,hI0⟩⟩;refine wp_lax_tailD (I:=I) 10 [(8,fun v=>∃q:List Int,v= .agg (pgc q).toArray/\q.length=8)] (fun u=>MkE w0 hi b w L V { m with sl:=m.sl.set k 1 } vt T u) hI0 hF0 mixed (by kernel_rfl) rfl rfl (by decide) ?hS (by kernel_rfl) ?_
    case hS=>
     intro x hx;simp only[mC,nM,or_false]at hx;subst hx;exact⟨_,zero8,rfl,rfl⟩
    simp only[List.take,List.drop];iterate 1 (refine laxD_quiet rfl rfl rfl (fun K hK=>?_);go_big_quiet_op;refine hK _ ?_;clear hK K)
    refine laxD_nilc (.tmp 149) ⟨b,0,none⟩ rfl rfl rfl rfl ?_;simp only[Act.put,sB,sS,sZ];iterate 6 (refine laxD_quiet rfl rfl rfl (fun K hK=>?_);go_big_quiet_op;refine hK _ ?_;clear hK K)
    refine laxD_spec rfl rfl (fun _ u=>MkE w0 hi b w L V { m with sl:=m.sl.set k 1 } vt T u) (fun w' hI' hF'=>?_) (fun v1 hv=>?_)
    ·obtain⟨vl',L',mk',ll',kp'⟩:=hF';refine Does.call [.pointer (some ⟨b,0,none⟩)] rfl Tryz.func30 rfl rfl rfl ?_;refine(page_any mk').mono ?_;rintro e w'' ⟨vl3,L3,q,rfl,ql,mk3,gr3,ll3⟩;exact⟨_,rfl,(HI.out _).2 (HIM.out _ _ _ _ mk3),⟨q,rfl,ql⟩,vl3,L3,mk3,ll'.trans ll3,kp'.trans (mk'.keeps gr3)⟩
    obtain⟨q6,rfl,ql6⟩:=hv;have HQL:Hid (q6.length=8):=ql6;clear ql6;simp only[Act.put,sB,sS,sZ];iterate 1 (refine laxD_quiet rfl rfl rfl (fun K hK=>?_);go_big_quiet_op;refine hK _ ?_;clear hK K)
    refine laxD_nil fun W6 hI6 hF6=>?_
    obtain⟨vl6,L6,mk6,ll6,kp6⟩:=hF6;have M6:Hid (Mk w0 hi W6 b vl6 L6 V { m with sl:=m.sl.set k 1 } vt T):=mk6;have LL6:Hid (Less L L6):=ll6;have K6:Hid (Keeps hi w W6):=kp6;clear mk6 ll6 kp6 hI6 hI0 hF0 ht hne HI;have R6:Hid (OwnPages w0.heap.size W6 (.slice (some ⟨gb,0,none⟩) sn cb) m.sb):=show OwnPages _ _ _ _ by rw[<-HBE.out];exact M6.out.rows.sb
    refine wpList_store_page rfl (.tmp 158) (.tmp 157) rfl w0.heap.size _ m.sb R6.out gb k rfl (by rw[HSBL.out];exact hks) q6 HQL.out ⟨gb,k*8,none⟩ rfl rfl rfl ?_
    intro W7 ow7 gr7 sz7;rw[<-HBE.out]at ow7;have hM7:=M6.out.setSb (by rw[HBE.out];rfl) gr7 sz7 ow7
    have M7:Hid (Mk w0 hi W7 b vl6 L6 V { m with sl:=m.sl.set k 1,sb:=m.sb.set k q6 } vt T):=hM7.1;have K7:Hid (Keeps hi w W7):=K6.out.trans hM7.2;clear hM7 ow7 gr7 sz7 R6 M6 K6;obtain⟨gt,ct,hte⟩:=M7.out.rows.tt.formS (by rw[HTL.out];omega)
    rw[HTL.out]at hte;have HTE:Hid (Value.slice vt.a vt.n vt.c= .slice (some ⟨gt,0,none⟩) tn ct):=hte;have R7:Hid (OwnRow flaE w0.heap.size W7 (.slice (some ⟨gt,0,none⟩) tn ct) T):=show OwnRow _ _ _ _ _ by rw[<-HTE.out];exact M7.out.rows.tt
    have x12:=M7.out.box.box.c 12 rfl;rw[HTE.out]at x12;have hptz:(p:Int)< (tn:Int):=by omega
    have hnz:(n:Int)<64:=by omega
    clear hte
    go_wp2_with (refine wpList_store_part (E:=flaE) rfl (.tmp 168) (.tmp 166) 67 rfl w0.heap.size _ T R7.out gt p (n*3) rfl f (updF f n ⟨2,(k:Int),false⟩) HT.out (env ⟨2,(k:Int),false⟩) (by kernel_rfl) (flaE_upd f hn _) (by show n*3+3<=192;omega) (enE.one _) ⟨gt,p*192+n*3,none⟩ rfl rfl (.agg (env ⟨2,(k:Int),false⟩).toArray) rfl rfl ?_)
    intro W9 ow9 gr9 sz9;rw[<-HTE.out]at ow9;have hM9:=M7.out.setT (by rw[HTE.out];rfl) gr9 sz9 ow9
    have M9:Hid (Mk w0 hi W9 b vl6 L6 V { m with sl:=m.sl.set k 1,sb:=m.sb.set k q6 } vt (T.set p (updF f n ⟨2,(k:Int),false⟩))):=hM9.1;have K9:Hid (Keeps hi w W9):=K7.out.trans hM9.2;have HBF:Hid (BInv { m with sl:=m.sl.set k 1,sb:=m.sb.set k q6 } (T.set p (updF f n ⟨2,(k:Int),false⟩))):=HB.out.swap HZ0.out HS.out HT.out hn H0.out HIS.out HSE.out.1;clear hM9 ow9 gr9 sz9 R7 x12;have HE:Hid (Ent w0 hi b w L m vt T p n f W9):=show Ent _ _ _ _ _ _ _ _ _ _ _ _ from⟨vl6,L6,_,_,_,M9.out,LL6.out,K9.out,HBF.out,⟨rfl,rfl,rfl,rfl⟩,.inr ⟨_,rfl⟩,fun h=>absurd h HLN.out⟩
    go_wp2
    (first | go_end0 | ((try simp only[Exit.inBlock,Exit.then]);refine bodyPost_ret (results_none rfl _ _ _) rfl ?_))
    first | exact HE.out | exact⟨⟨_,rfl⟩,HE.out⟩
   have hze:(zv == 0)=false:=by simp[hz]
   clear hz;have HE:Hid (Ent w0 hi b w L m vt T p n f W2):=show Ent _ _ _ _ _ _ _ _ _ _ _ _ from Ent.same p n f HB.out ⟨vl2,L2,M2.out,LL2.out,K2.out⟩
   go_wp2
   (first | go_end0 | ((try simp only[Exit.inBlock,Exit.then]);refine bodyPost_ret (results_none rfl _ _ _) rfl ?_))
   first | exact HE.out | exact⟨⟨_,rfl⟩,HE.out⟩
  | false=>
   go_upto_region 2 with fail;clear x3;have hpg2:=page_any M1.out;go_wp2_with fail;refine hpg2.mono ?_;clear hpg2;rintro e W5 ⟨vl5,L5,q5,rfl,ql5,mk5,gr5,ll5⟩;obtain⟨p0,p1,p2,p3,p4,p5,p6,p7,rfl⟩:=len8 q5 ql5;simp only[pgc,mP,List.map_nil];have M5:Hid (Mk w0 hi W5 b vl5 L5 V m vt T):=mk5;have K5:=dD (K1.out.trans (M1.out.keeps gr5));have X5:Hid (BoxT W5 px 96 [.bool true,.bool xrd,.bool xwr,.bool false,.int .i64 xfi,.int .i64 xpg]):=(M1.out.keeps gr5).1 _ _ _ X1.out loc_one;have LL5:=dD (LL1.out.trans ll5);clear ql5 mk5 gr5 ll5;have hpk2:=pick_any 2 M5.out;go_wp2_with fail;refine hpk2.mono ?_;clear hpk2;rintro e W6 ⟨vl6,L6,z,rfl,mk6,gr6,_,_,_,_,ll6⟩;have M6:Hid (Mk w0 hi W6 b vl6 L6 V m vt T):=mk6;have K6:=dD (K5.out.trans (M5.out.keeps gr6));have X6:Hid (BoxT W6 px 96 [.bool true,.bool xrd,.bool xwr,.bool false,.int .i64 xfi,.int .i64 xpg]):=(M5.out.keeps gr6).1 _ _ _ X5.out loc_one;have LL6:=dD (LL5.out.trans ll6);clear mk6 gr6 ll6 M5 K5 X5;have hfm:=frame_any ⟨⟨p0,p1,p2,p3,p4,p5,p6,p7⟩,1,z == 1,false,-1,0⟩ M6.out;go_wp2_with fail;refine hfm.mono ?_;clear hfm;rintro e W7 (⟨rfl,hE⟩ | ⟨k,q,rfl,hq,hr,vl7,L7,mk7,ll7,kp7⟩)
   ·have HEE:Hid (MkE w0 hi b w L V m vt T W7):=hE.trans LL6.out K6.out;clear hE;have HE:Hid (Ent w0 hi b w L m vt T p n f W7):=show Ent _ _ _ _ _ _ _ _ _ _ _ _ from Ent.same p n f HB.out HEE.out
    go_wp2
    (first | go_end0 | ((try simp only[Exit.inBlock,Exit.then]);refine bodyPost_ret (results_none rfl _ _ _) rfl ?_))
    first | exact HE.out | exact⟨⟨_,rfl⟩,HE.out⟩
   have HQ:Hid (m.fs[k]? =some q):=hq;have HR0:Hid (q.r=0):=hr;have M7:Hid (Mk w0 hi W7 b vl7 L7 V { m with fs:=m.fs.set k ⟨⟨p0,p1,p2,p3,p4,p5,p6,p7⟩,1,z == 1,false,-1,0⟩ } vt T):=mk7;have K7:=dD (K6.out.trans kp7);have X7:Hid (BoxT W7 px 96 [.bool true,.bool xrd,.bool xwr,.bool false,.int .i64 xfi,.int .i64 xpg]):=kp7.1 _ _ _ X6.out loc_one;have LL7:=dD (LL6.out.trans ll7);clear hq hr mk7 ll7 kp7 M6 K6 X6;have hk0:(0:Int)<=(k:Int):=by omega
   have hkd:decide ((0:Int)<=(k:Int))=true:=by simp
   have HBF:Hid (∀wf:Bool,(wf=true->xwr=true)->BInv { m with fs:=m.fs.set k ⟨⟨p0,p1,p2,p3,p4,p5,p6,p7⟩,1,z == 1,false,-1,0⟩ } (T.set p (updF f n ⟨1,(k:Int),wf⟩))):=show∀wf:Bool,_ from fun wf hwf=>HB.out.mine HQ.out HR0.out HS.out HT.out hn H0.out HIS.out HSE.out.1 (fun e=>by rw[HWR.out];exact hwf e)
   go_upto_region 4 with fail
   cases xwr with
   | false=>
    obtain⟨gt,ct,hte⟩:=M7.out.rows.tt.formS (by rw[HTL.out];omega)
    rw[HTL.out]at hte;have HTE:Hid (Value.slice vt.a vt.n vt.c= .slice (some ⟨gt,0,none⟩) tn ct):=hte;clear hte;obtain⟨I,HI⟩:∃I:World->Prop,Hid (∀u,I u↔u.cell? ⟨b,12,none⟩=some (.slice (some ⟨gt,0,none⟩) tn ct)/\BoxT u px 96 [.bool true,.bool xrd,.bool false,.bool false,.int .i64 xfi,.int .i64 xpg]):=⟨fun u=>u.cell? ⟨b,12,none⟩=some (.slice (some ⟨gt,0,none⟩) tn ct)/\BoxT u px 96 [.bool true,.bool xrd,.bool false,.bool false,.int .i64 xfi,.int .i64 xpg],fun _=>Iff.rfl⟩
    have HIM:Hid (∀u vl' L' V' m',Mk w0 hi u b vl' L' V' m' vt T->u.cell? ⟨b,12,none⟩=some (.slice (some ⟨gt,0,none⟩) tn ct)):=show∀u,_ from fun u vl' L' V' m' hm=>by
     have:=hm.box.box.c 12 rfl;rw[HTE.out]at this;exact this
    have hI0:I W7.drew:=(HI.out _).2 ⟨HIM.out _ _ _ _ _ (M7.out.grew (gW _)),X7.out.grew (gW _)⟩
    have hF0:MkE w0 hi b w L V { m with fs:=m.fs.set k ⟨⟨p0,p1,p2,p3,p4,p5,p6,p7⟩,1,z == 1,false,-1,0⟩ } vt T W7.drew:=⟨vl7,L7,M7.out.grew (gW _),LL7.out,K7.out.trans (Keeps.grew (gW _))⟩
    have ht:∀y:HoldI I,y.world.cell? ⟨b,12,none⟩=some (.slice (some ⟨gt,0,none⟩) tn ct):=fun y=>((HI.out _).1 y.holds).1
    have hx2:∀y:HoldI I,y.world.cell? ⟨px,2,none⟩=some (.bool false):=fun y=>((HI.out _).1 y.holds).2.box.c 2 rfl
    have hx3:∀y:HoldI I,y.world.cell? ⟨px,3,none⟩=some (.bool false):=fun y=>((HI.out _).1 y.holds).2.box.c 3 rfl
    have hne:Nonempty (HoldI I):=⟨⟨_,hI0⟩⟩;have hptz:(p:Int)< (tn:Int):=by omega
    have hnz:(n:Int)<64:=by omega
    refine wp_lax_tailD (I:=I) 17 [(11,fun v=>∃x:Int,v= .int .i64 x)] (fun u=>MkE w0 hi b w L V { m with fs:=m.fs.set k ⟨⟨p0,p1,p2,p3,p4,p5,p6,p7⟩,1,z == 1,false,-1,0⟩ } vt T u) hI0 hF0 mixed (by kernel_rfl) rfl rfl (by decide) ?hS (by kernel_rfl) ?_
    case hS=>
     intro x hx;simp only[mC,nM,or_false]at hx;subst hx;exact⟨_,0,rfl⟩
    simp only[List.take,List.drop];iterate 1 (refine laxD_quiet rfl rfl rfl (fun K hK=>?_);go_big_quiet_op;refine hK _ ?_;clear hK K)
    refine laxD_nilc (.tmp 24) ⟨b,0,none⟩ rfl rfl rfl rfl ?_;simp only[Act.put,sB,sS,sZ];iterate 8 (refine laxD_quiet rfl rfl rfl (fun K hK=>?_);go_big_quiet_op;refine hK _ ?_;clear hK K)
    refine laxD_skip ?_ ?_
    ·kernel_rfl
    simp only[Act.put,sB,sS,sZ];refine laxD_skip ?_ ?_
    ·kernel_rfl
    simp only[Act.put,sB,sS,sZ];refine laxD_skip ?_ ?_
    ·kernel_rfl
    simp only[Act.put,sB,sS,sZ];iterate 4 (refine laxD_quiet rfl rfl rfl (fun K hK=>?_);go_big_quiet_op;refine hK _ ?_;clear hK K)
    refine laxD_nil fun W8 hI8 hF8=>?_
    obtain⟨vl8,L8,mk8,ll8,kp8⟩:=hF8;have M8:Hid (Mk w0 hi W8 b vl8 L8 V { m with fs:=m.fs.set k ⟨⟨p0,p1,p2,p3,p4,p5,p6,p7⟩,1,z == 1,false,-1,0⟩ } vt T):=mk8;have LL8:Hid (Less L L8):=ll8;have K8:Hid (Keeps hi w W8):=kp8;clear mk8 ll8 kp8 hI8 hI0 hF0 ht hx2 hx3 hne HI;have R8:Hid (OwnRow flaE w0.heap.size W8 (.slice (some ⟨gt,0,none⟩) tn ct) T):=show OwnRow _ _ _ _ _ by rw[<-HTE.out];exact M8.out.rows.tt
    refine wpList_store_part (E:=flaE) rfl (.tmp 40) (.tmp 38) 67 rfl w0.heap.size _ T R8.out gt p (n*3) rfl f (updF f n ⟨1,(k:Int),false⟩) HT.out (env ⟨1,(k:Int),false⟩) (by kernel_rfl) (flaE_upd f hn _) (by show n*3+3<=192;omega) (enE.one _) ⟨gt,p*192+n*3,none⟩ rfl rfl (.agg (env ⟨1,(k:Int),false⟩).toArray) rfl rfl ?_
    intro W9 ow9 gr9 sz9;rw[<-HTE.out]at ow9;have hM9:=M8.out.setT (by rw[HTE.out];rfl) gr9 sz9 ow9
    have M9:Hid (Mk w0 hi W9 b vl8 L8 V { m with fs:=m.fs.set k ⟨⟨p0,p1,p2,p3,p4,p5,p6,p7⟩,1,z == 1,false,-1,0⟩ } vt (T.set p (updF f n ⟨1,(k:Int),false⟩))):=hM9.1;have K9:Hid (Keeps hi w W9):=K8.out.trans hM9.2;clear hM9 ow9 gr9 sz9 R8;have HE:Hid (Ent w0 hi b w L m vt T p n f W9):=show Ent _ _ _ _ _ _ _ _ _ _ _ _ from⟨vl8,L8,_,_,_,M9.out,LL8.out,K9.out,HBF.out _ (by intro e;first | rfl | cases e),⟨rfl,rfl,rfl,List.length_set⟩,.inr ⟨_,rfl⟩,fun h=>absurd h HLN.out⟩
    go_wp2
    (first | go_end0 | ((try simp only[Exit.inBlock,Exit.then]);refine bodyPost_ret (results_none rfl _ _ _) rfl ?_))
    first | exact HE.out | exact⟨⟨_,rfl⟩,HE.out⟩
   | true=>
    obtain⟨gt,ct,hte⟩:=M7.out.rows.tt.formS (by rw[HTL.out];omega)
    rw[HTL.out]at hte;have HTE:Hid (Value.slice vt.a vt.n vt.c= .slice (some ⟨gt,0,none⟩) tn ct):=hte;clear hte;obtain⟨I,HI⟩:∃I:World->Prop,Hid (∀u,I u↔u.cell? ⟨b,12,none⟩=some (.slice (some ⟨gt,0,none⟩) tn ct)/\BoxT u px 96 [.bool true,.bool xrd,.bool true,.bool false,.int .i64 xfi,.int .i64 xpg]):=⟨fun u=>u.cell? ⟨b,12,none⟩=some (.slice (some ⟨gt,0,none⟩) tn ct)/\BoxT u px 96 [.bool true,.bool xrd,.bool true,.bool false,.int .i64 xfi,.int .i64 xpg],fun _=>Iff.rfl⟩
    have HIM:Hid (∀u vl' L' V' m',Mk w0 hi u b vl' L' V' m' vt T->u.cell? ⟨b,12,none⟩=some (.slice (some ⟨gt,0,none⟩) tn ct)):=show∀u,_ from fun u vl' L' V' m' hm=>by
     have:=hm.box.box.c 12 rfl;rw[HTE.out]at this;exact this
    have hI0:I W7.drew:=(HI.out _).2 ⟨HIM.out _ _ _ _ _ (M7.out.grew (gW _)),X7.out.grew (gW _)⟩
    have hF0:MkE w0 hi b w L V { m with fs:=m.fs.set k ⟨⟨p0,p1,p2,p3,p4,p5,p6,p7⟩,1,z == 1,false,-1,0⟩ } vt T W7.drew:=⟨vl7,L7,M7.out.grew (gW _),LL7.out,K7.out.trans (Keeps.grew (gW _))⟩
    have ht:∀y:HoldI I,y.world.cell? ⟨b,12,none⟩=some (.slice (some ⟨gt,0,none⟩) tn ct):=fun y=>((HI.out _).1 y.holds).1
    have hx2:∀y:HoldI I,y.world.cell? ⟨px,2,none⟩=some (.bool true):=fun y=>((HI.out _).1 y.holds).2.box.c 2 rfl
    have hx3:∀y:HoldI I,y.world.cell? ⟨px,3,none⟩=some (.bool false):=fun y=>((HI.out _).1 y.holds).2.box.c 3 rfl
    have hne:Nonempty (HoldI I):=⟨⟨_,hI0⟩⟩;have hptz:(p:Int)< (tn:Int):=by omega
    have hnz:(n:Int)<64:=by omega
    refine wp_lax_tailD (I:=I) 17 [(11,fun v=>∃x:Int,v= .int .i64 x)] (fun u=>MkE w0 hi b w L V { m with fs:=m.fs.set k ⟨⟨p0,p1,p2,p3,p4,p5,p6,p7⟩,1,z == 1,false,-1,0⟩ } vt T u) hI0 hF0 mixed (by kernel_rfl) rfl rfl (by decide) ?hS (by kernel_rfl) ?_
    case hS=>
     intro x hx;simp only[mC,nM,or_false]at hx;subst hx;exact⟨_,0,rfl⟩
    simp only[List.take,List.drop];iterate 1 (refine laxD_quiet rfl rfl rfl (fun K hK=>?_);go_big_quiet_op;refine hK _ ?_;clear hK K)
    refine laxD_nilc (.tmp 24) ⟨b,0,none⟩ rfl rfl rfl rfl ?_;simp only[Act.put,sB,sS,sZ];iterate 8 (refine laxD_quiet rfl rfl rfl (fun K hK=>?_);go_big_quiet_op;refine hK _ ?_;clear hK K)
    iterate 1 (refine laxD_quiet rfl rfl rfl (fun K hK=>?_);go_big_quiet_op;refine hK _ ?_;clear hK K)
    refine laxD_spec rfl rfl (fun _ u=>MkE w0 hi b w L V { m with fs:=m.fs.set k ⟨⟨p0,p1,p2,p3,p4,p5,p6,p7⟩,1,z == 1,false,-1,0⟩ } vt T u) (fun w' hI' hF'=>?_) (fun v1 hv=>?_)
    ·obtain⟨vl',L',mk',ll',kp'⟩:=hF';refine Does.call [.pointer (some ⟨b,0,none⟩),.int .i64 2] rfl Tryz.func27 rfl rfl rfl ?_;refine(pick_any 2 mk').mono ?_;rintro e w'' ⟨vl2,L2,x,rfl,mk2,gr2,_,_,_,_,ll2⟩;exact⟨_,rfl,(HI.out _).2 ⟨HIM.out _ _ _ _ _ mk2,(mk'.keeps gr2).1 _ _ _ ((HI.out _).1 hI').2 loc_one⟩,⟨x,rfl⟩,vl2,L2,mk2,ll'.trans ll2,kp'.trans (mk'.keeps gr2)⟩
    obtain⟨xq,rfl⟩:=hv;simp only[Act.put,sB,sS,sZ];iterate 5 (refine laxD_quiet rfl rfl rfl (fun K hK=>?_);go_big_quiet_op;refine hK _ ?_;clear hK K)
    refine laxD_nil fun W8 hI8 hF8=>?_
    obtain⟨vl8,L8,mk8,ll8,kp8⟩:=hF8;have M8:Hid (Mk w0 hi W8 b vl8 L8 V { m with fs:=m.fs.set k ⟨⟨p0,p1,p2,p3,p4,p5,p6,p7⟩,1,z == 1,false,-1,0⟩ } vt T):=mk8;have LL8:Hid (Less L L8):=ll8;have K8:Hid (Keeps hi w W8):=kp8;clear mk8 ll8 kp8 hI8 hI0 hF0 ht hx2 hx3 hne HI;have R8:Hid (OwnRow flaE w0.heap.size W8 (.slice (some ⟨gt,0,none⟩) tn ct) T):=show OwnRow _ _ _ _ _ by rw[<-HTE.out];exact M8.out.rows.tt
    refine wpList_store_part (E:=flaE) rfl (.tmp 40) (.tmp 38) 67 rfl w0.heap.size _ T R8.out gt p (n*3) rfl f (updF f n ⟨1,(k:Int),(xq == 1)⟩) HT.out (env ⟨1,(k:Int),(xq == 1)⟩) (by kernel_rfl) (flaE_upd f hn _) (by show n*3+3<=192;omega) (enE.one _) ⟨gt,p*192+n*3,none⟩ rfl rfl (.agg (env ⟨1,(k:Int),(xq == 1)⟩).toArray) rfl rfl ?_
    intro W9 ow9 gr9 sz9;rw[<-HTE.out]at ow9;have hM9:=M8.out.setT (by rw[HTE.out];rfl) gr9 sz9 ow9
    have M9:Hid (Mk w0 hi W9 b vl8 L8 V { m with fs:=m.fs.set k ⟨⟨p0,p1,p2,p3,p4,p5,p6,p7⟩,1,z == 1,false,-1,0⟩ } vt (T.set p (updF f n ⟨1,(k:Int),(xq == 1)⟩))):=hM9.1;have K9:Hid (Keeps hi w W9):=K8.out.trans hM9.2;clear hM9 ow9 gr9 sz9 R8;have HE:Hid (Ent w0 hi b w L m vt T p n f W9):=show Ent _ _ _ _ _ _ _ _ _ _ _ _ from⟨vl8,L8,_,_,_,M9.out,LL8.out,K9.out,HBF.out _ (by intro e;first | rfl | cases e),⟨rfl,rfl,rfl,List.length_set⟩,.inr ⟨_,rfl⟩,fun h=>absurd h HLN.out⟩
    go_wp2
    (first | go_end0 | ((try simp only[Exit.inBlock,Exit.then]);refine bodyPost_ret (results_none rfl _ _ _) rfl ?_))
    first | exact HE.out | exact⟨⟨_,rfl⟩,HE.out⟩
end
section
def yn (b:Bool):Int:=if b=true then 121 else 110
def sumTo (g:Nat->Nat):Nat->Nat
 | 0=>0
 | n+1=>sumTo g n+g n
def areaTo (l:List Ar):Nat->Nat
 | 0=>0
 | n+1=>areaTo l n+(onAt l n).is.toNat
theorem area_map {l:List Ar} {a:Ar} (h:(mapA l a).2=0):areaTo (mapA l a).1 64<=areaTo l 64+(a.tz - a.fr).toNat:=by
 obtain⟨h1,h2,h3,h4,h5⟩:=mapA_ok h;have ha:=arW_zero.1 h2;have hg:=mapF_good (wrL_zero.1 h1).2 ha;unfold ArOk at ha;have key:∀n:Nat,n<=64->areaTo (mapA l a).1 n<=areaTo l n+(min (n:Int) a.tz - min (n:Int) a.fr).toNat:=by
  intro n
  induction n with
  | zero=>intro _;simp[areaTo]
  | succ n ih=>
   intro hn;have ih':=ih (by omega)
   unfold areaTo;have e:(onAt (mapA l a).1 n).is=(mapF l a n).is:=by rw[h5,joinL_at hg (by omega)]
   rw[e];unfold mapF
   by_cases hin:arIn a n=true
   ·have:=arIn_iff.1 hin;rw[if_pos hin,oneOf_is];simp only[Bool.toNat_true];omega
   have hin':¬(a.fr<=(n:Int)/\(n:Int)<a.tz):=fun h=>hin (arIn_iff.2 h)
   rw[if_neg hin];omega
 have:=key 64 (nR _);omega
end
section
open Go.RowKit
section
variable{base hi S0:Nat} {w w':World} {V:MaV} {m:Ma} {vt:Sli} {T:List (Nat->En)}
def SpB (base S0:Nat) (w:World) (V:MaV) (m:Ma):Prop:=∃xs:List SpV,OwnRow spcE base w (.slice V.sp.a V.sp.n V.sp.c) xs/\xs.length=m.sp.length/\∀(i:Nat) x s,xs[i]? =some x->m.sp[i]? =some s->(x.live=s.live/\OwnRow arE base w x.ar.v s.ars/\x.tab=nil8/\s.tb=none8)/\∀g,x.ar.v.ownBlock=some g->g<S0
theorem MkR.spB (h:MkR base hi w V m vt T):SpB base w.heap.size w V m:=by
 obtain⟨xs,h1,h2,h3⟩:=h.sp;exact⟨xs,h1,h2,fun i x s hx hs=>⟨h3 i x s hx hs,fun g hg=>((h3 i x s hx hs).2.1.lt g hg).2⟩⟩
theorem SpB.grew (h:SpB base S0 w V m) (k:Grew w w'):SpB base S0 w' V m:=by
 obtain⟨xs,h1,h2,h3⟩:=h;refine⟨xs,h1.grew k,h2,fun i x s hx hs=>?_⟩
 obtain⟨⟨a1,a2,a3⟩,a4⟩:=h3 i x s hx hs;exact⟨⟨a1,a2.grew k,a3⟩,a4⟩
theorem SpB.kind (h:SpB base S0 w V m) {g:Nat} {t:TypeId} {cs:Array Value} (hg:w.grownBy w' (some g)) (ho:w.heap[g]? =some (.cells cs t (0,0))) (h1:t≠65) (h2:t≠69\/S0<=g):SpB base S0 w' V m:=by
 obtain⟨xs,k1,k2,k3⟩:=h;refine⟨xs,k1.kind hg ho h1,k2,fun i x s hx hs=>?_⟩
 obtain⟨⟨a1,a2,a3⟩,a4⟩:=k3 i x s hx hs;refine⟨⟨a1,?_,a3⟩,a4⟩
 rcases h2 with h2 | h2
 ·exact a2.kind hg ho h2
 exact a2.grown hg fun k hk e=>by cases e;have:=a4 _ hk;omega
theorem MkR.area (h:MkR base hi w V m vt T) (hs:SpB base S0 w V m) {g:Nat} {cs:Array Value} (hg:w.grownBy w' (some g)) (ho:w.heap[g]? =some (.cells cs 69 (0,0))) (hb:S0<=g):MkR base hi w' V m vt T:=by
 obtain⟨k1,k2,k3,k4,k5,k6,k7,k8,k9⟩:=h.kept hg ho;obtain⟨xs,q1,q2,q3⟩:=hs.kind hg ho (by decide) (.inr hb)
 exact⟨nT h.hw hg.size,h.bh,k1 (by decide),k2 (.inl (by decide)),h.slh,k3 (.inl (by decide)),h.sbh,h.sq,k4 (.inl (by decide)),h.dbh,k5 (by decide),k6 (by decide) (.inl (by decide)),k7 (by decide),⟨xs,q1,q2,fun i x s hx hs=>(q3 i x s hx hs).1⟩,k9 (by decide),h.ap⟩
theorem grown_none (h:w.grownBy w' none):Grew w w':=grew_beside (Grew.refl _) h (fun g e=>by cases e)
theorem MkR.addSp {ys:List SpV} (h:MkR base hi w V m vt T) (s1:OwnRow spcE base w (.slice V.sp.a V.sp.n V.sp.c) ys) (s2:ys.length=m.sp.length) (s3:∀(i:Nat) x s,ys[i]? =some x->m.sp[i]? =some s->x.live=s.live/\OwnRow arE base w x.ar.v s.ars/\x.tab=nil8/\s.tb=none8)
  (hg:w.grownBy w' (Value.slice V.sp.a V.sp.n V.sp.c).ownBlock) (s xa:Sli) {l:List Ar} (hl:OwnRow arE base w xa.v l) (ho:OwnRow spcE base w' (.slice s.a s.n s.c) (ys++ [⟨true,xa,sli0,sli0,sli0,sli0,sli0,sli0,sli0,sli0⟩])):MkR base hi w' { V with sp:=s } { m with sp:=m.sp++ [⟨true,l,none8⟩] } vt T:=by
 have fin:(∀{x:SpV} {q:Sp},OwnRow arE base w x.ar.v q.ars->OwnRow arE base w' x.ar.v q.ars)->OwnRow arE base w' xa.v l->∃xs:List SpV,OwnRow spcE base w' (.slice s.a s.n s.c) xs/\xs.length=(m.sp++ [(⟨true,l,none8⟩:Sp)]).length/\∀(i:Nat) x q,xs[i]? =some x->(m.sp++ [(⟨true,l,none8⟩:Sp)])[i]? =some q->x.live=q.live/\OwnRow arE base w' x.ar.v q.ars/\x.tab=nil8/\q.tb=none8:=fun k1 k2=>by
  refine⟨_,ho,by simp[s2],fun i x q hx hq=>?_⟩
  rcases Nat.lt_or_ge i ys.length with hi | hi
  ·rw[List.getElem?_append_left hi]at hx;rw[List.getElem?_append_left (by omega)]at hq
   obtain⟨a1,a2,a3,a4⟩:=s3 i x q hx hq;exact⟨a1,k1 a2,a3,a4⟩
  rw[aR hi]at hx;rw[aR (by omega),<-s2]at hq
  have hi0:i - ys.length=0:=by
   have:=(gS.1 hx).1
   simp at this
   omega
  rw[hi0]at hx hq;cases hx;cases hq;exact⟨rfl,k2,rfl,rfl⟩
 cases hob:(Value.slice V.sp.a V.sp.n V.sp.c).ownBlock with
 | none=>
  rw[hob]at hg;have k:=grown_none hg;have h':=h.grew k;exact⟨h'.hw,h'.bh,h'.fs,h'.sl,h'.slh,h'.sb,h'.sbh,h'.sq,h'.db,h'.dbh,h'.dq,h'.fl,h'.ca,fin (fun h=>h.grew k) (hl.grew k),h'.tt,h'.ap⟩
 | some g=>
  rw[hob]at hg;obtain⟨cs,hc⟩:=s1.obj hob;obtain⟨k1,k2,k3,k4,k5,k6,k7,k8,k9⟩:=h.kept hg hc;exact⟨nT h.hw hg.size,h.bh,k1 (by decide),k2 (.inl (by decide)),h.slh,k3 (.inl (by decide)),h.sbh,h.sq,k4 (.inl (by decide)),h.dbh,k5 (by decide),k6 (by decide) (.inl (by decide)),k7 (by decide),fin (fun h=>h.kind hg hc (by decide)) (hl.kind hg hc (by decide)),k9 (by decide),h.ap⟩
theorem MkR.addT (h:MkR base hi w V m vt T) (hg:w.grownBy w' (Value.slice vt.a vt.n vt.c).ownBlock) (s:Sli) {f:Nat->En} (ho:OwnRow flaE base w' (.slice s.a s.n s.c) (T++ [f])):MkR base hi w' V m s (T++ [f]):=by
 cases hob:(Value.slice vt.a vt.n vt.c).ownBlock with
 | none=>
  rw[hob]at hg;have h':=h.grew (grown_none hg);exact⟨h'.hw,h'.bh,h'.fs,h'.sl,h'.slh,h'.sb,h'.sbh,h'.sq,h'.db,h'.dbh,h'.dq,h'.fl,h'.ca,h'.sp,ho,h'.ap⟩
 | some g=>
  rw[hob]at hg;obtain⟨cs,hc⟩:=h.tt.obj hob;obtain⟨k1,k2,k3,k4,k5,k6,k7,k8,k9⟩:=h.kept hg hc;exact⟨nT h.hw hg.size,h.bh,k1 (by decide),k2 (.inl (by decide)),h.slh,k3 (.inl (by decide)),h.sbh,h.sq,k4 (.inl (by decide)),h.dbh,k5 (by decide),k6 (by decide) (.inl (by decide)),k7 (by decide),k8 (by decide) (by decide),ho,h.ap⟩
theorem Keeps.row {α:Type} {E:Elt α} {v:Value} {l:List α} (h:OwnRow E base w v l) (hg:w.grownBy w' v.ownBlock) (hn:∀p,¬Loc hi p E.ty):Keeps hi w w':=by
 cases hob:v.ownBlock with
 | none=>
  rw[hob]at hg;exact Keeps.grew (grown_none hg)
 | some g=>
  rw[hob]at hg;obtain⟨cs,hc⟩:=h.obj hob;exact Keeps.kind hg hc (fun p hl=>absurd hl (hn p))
theorem BoxT.row {α:Type} {E:Elt α} {v:Value} {l:List α} {b:Nat} {t:TypeId} {cs:List Value} (h:OwnRow E base w v l) (hg:w.grownBy w' v.ownBlock) (hb:BoxT w b t cs) (ht:t≠E.ty):BoxT w' b t cs:=hb.beside hg fun g e=>h.ne hb ht g e
theorem Grew.row {α:Type} {E:Elt α} {v:Value} {l:List α} {w0:World} (h:OwnRow E w0.heap.size w v l) (hg:w.grownBy w' v.ownBlock) (h0:Grew w0 w):Grew w0 w':=grew_beside h0 hg fun g e=>(h.lt g e).1
end
section
variable{w0 w w':World} {hi b S0:Nat} {vl:Sli} {L:List Int} {V:MaV} {m:Ma} {vt:Sli} {T:List (Nat->En)}
theorem Mk.area (h:Mk w0 hi w b vl L V m vt T) (hs:SpB w0.heap.size S0 w V m) {g:Nat} {cs:List Value} (hg:w.grownBy w' (some g)) (ho:BoxT w g 69 cs) (hb:S0<=g) (hb2:w0.heap.size<=g):Mk w0 hi w' b vl L V m vt T/\SpB w0.heap.size S0 w' V m:=by
 refine⟨⟨grew_grown h.gr hg hb2,h.hb,h.box.beside hg (fun k e=>?_),h.lr,h.lc,h.lb,h.rows.area hs hg ho hb⟩,hs.kind hg ho (by decide) (.inr hb)⟩
 cases e;intro e;subst e;have h1:w.heap[b]? =_:=h.box;rw[show w.heap[b]? =_ from ho]at h1
 cases h1
theorem SpB.pick (hs:SpB w0.heap.size S0 w V m) (h:Mk w0 hi w b vl L V m vt T) (hg:w.grownBy w' (some b)):SpB w0.heap.size S0 w' V m:=hs.kind hg h.box (by decide) (.inl (by decide))
theorem OwnRow.pick {l:List Ar} {v:Value} (hs:OwnRow arE w0.heap.size w v l) (h:Mk w0 hi w b vl L V m vt T) (hg:w.grownBy w' (some b)):OwnRow arE w0.heap.size w' v l:=hs.kind hg h.box (by decide)
end
theorem loc_area {hi p:Nat}:Loc hi p 69:=⟨by decide,by decide,by decide,by decide,by decide,by decide,by decide,by decide,fun h=>absurd h (by decide)⟩
theorem set_grown (w:World) (g i:Nat) (u:Value):w.grownBy (w.setCell ⟨g,i,none⟩ u) (some g):=⟨rfl,rfl,rfl,by simp[World.setCell],fun k _ hk=>Below.heap_setCell _ _ _ _ (fun e=>hk (by rw[e]))⟩
def Spc (w0:World) (hi b:Nat) (w:World) (L:List Int) (m:Ma) (T:List (Nat->En)) (w':World):Prop:=∃vl' L' V' m' vt' T' l,Mk w0 hi w' b vl' L' V' m' vt' T'/\Less L L'/\Keeps hi w w'/\BInv m' T'/\(m'.sp=m.sp++ [⟨true,l,none8⟩]/\m'.fl=m.fl/\m'.hand=m.hand/\m'.fs.length=m.fs.length)/\(FilesIn m.fl.length l/\areaTo l 64<=12)/\(L=[]->m'={ m with sp:=m.sp++ [⟨true,[],none8⟩] }/\T'=T++ [fun _=>en0])
theorem updF_self (f:Nat->En) (n:Nat):updF f n (f n)=f:=by
 funext j
 unfold updF
 split
 ·rename_i e
  rw[e]
 rfl
theorem set_self {α:Type} {l:List α} {i:Nat} {x:α} (h:l[i]? =some x):l.set i x=l:=by
 apply List.ext_getElem?
 intro j
 by_cases e:j=i
 ·subst e;rw[sF (gS.1 h).1,h]
 rw[sN (fun h=>e h.symm)]
section
variable{m:Ma} {T:List (Nat->En)} {s0 s1:Sp} {fA fB:Nat->En} {n:Nat}
theorem BInv.entry0 (h:BInv m T) (hs0:m.sp[0]? =some s0) (hA:T[0]? =some fA) (hn:n<64):fA n=en0\/(∃(k:Nat) (fr:Fr),(fA n).kind=1/\(fA n).n=(k:Int)/\m.fs[k]? =some fr)\/(∃(k:Nat) (z:Int),(fA n).kind=2/\(fA n).n=(k:Int)/\m.sl[k]? =some z/\0<=z/\z<=1000):=by
 rcases h.ent 0 s0 fA hs0 hA n hn with e | e
 ·exact .inl e
 by_cases hk:(fA n).kind=2
 ·refine .inr (.inr ?_);obtain⟨h1,h2,h3⟩:=e;obtain⟨a1,a2,a3⟩:=enW_zero h1;unfold entE at h3
  by_cases h0:(onAt s0.ars n).is=false
  ·rw[if_pos h0]at h3;cases h3
  rw[if_neg h0,if_pos hk]at h3
  split at h3
  ·cases h3
  rename_i hno
  have hlt:(fA n).n.toNat<m.sl.length:=by
   have:¬(m.sl.length:Int)<=(fA n).n:=fun e=>hno (.inl e)
   omega
  have hz:=h.cs _ _ (gE hlt);have hh:=hold_le T 2 ((fA n).n.toNat:Int);have h5:=h.tl;have h6:=h.spl;exact⟨(fA n).n.toNat,m.sl[(fA n).n.toNat],hk,by omega,gE hlt,by omega,by omega⟩
 obtain⟨p1,p2,p3,_⟩:=entE_present e hk;have hlt:(fA n).n.toNat<m.fs.length:=by omega
 exact .inr (.inl ⟨(fA n).n.toNat,m.fs[(fA n).n.toNat],p1,by omega,gE hlt⟩)
theorem BInv.forkP (h:BInv m T) (hs0:m.sp[0]? =some s0) (hs1:m.sp[1]? =some s1) (har:s1.ars=s0.ars) (hA:T[0]? =some fA) (hB:T[1]? =some fB) (hn:n<64) (hBn:fB n=en0) {k:Nat} {fr:Fr} (hk:m.fs[k]? =some fr) (hkind:(fA n).kind=1) (hen:(fA n).n=(k:Int)) {e':En} (he:e'=if(onAt s0.ars n).sh=true then fA n else{ fA n with wr:=false }):
  BInv { m with fs:=m.fs.set k { fr with r:=fr.r+1 } } ((T.set 0 (updF fA n e')).set 1 (updF fB n e')):=by
 have hne:fA n≠en0:=fun e=>by rw[e]at hkind;cases hkind
 have hok:EntOk m (onAt s0.ars n) (fA n):=(h.ent 0 s0 fA hs0 hA n hn).resolve_left hne
 by_cases hsh:(onAt s0.ars n).sh=true
 ·rw[if_pos hsh]at he;subst he;rw[updF_self,set_self hA];refine h.share hk hA rfl hB (by decide) hn hBn hs1 (by rw[har];exact hok) hkind hen (fun _ hf=>?_)
  obtain⟨h1,h2,h3⟩:=hok;unfold entE at h3
  by_cases h0:(onAt s0.ars n).is=false
  ·rw[if_pos h0]at h3;cases h3
  rw[if_neg h0,if_neg (by rw[hkind];decide)]at h3
  split at h3
  ·cases h3
  split at h3
  ·cases h3
  rename_i hno
  have hfr:frAt m (fA n).n=fr:=by rw[hen];exact frAt_of hk
  have:0<=(onAt s0.ars n).file/\(frAt m (fA n).n).f=(onAt s0.ars n).file/\(frAt m (fA n).n).x=(onAt s0.ars n).page:=Classical.byContradiction fun e=>hno (.inr (.inl ⟨hsh,e⟩))
  rw[hfr]at this;omega
 rw[if_neg hsh]at he;subst he;have g:=h.guard hA hn hne;have hA':(T.set 0 (updF fA n { fA n with wr:=false }))[0]? =some (updF fA n { fA n with wr:=false }):=sF (gS.1 hA).1;have hB':(T.set 0 (updF fA n { fA n with wr:=false }))[1]? =some fB:=by rw[sN (by decide)];exact hB
 have hv:updF fA n { fA n with wr:=false } n={ fA n with wr:=false }:=by unfold updF;rw[if_pos rfl]
 refine g.share hk hA' hv hB' (by decide) hn hBn hs1 ?_ hkind hen (fun e=>by cases e)
 rw[har];have:=g.ent 0 s0 _ hs0 hA' n hn;rw[hv]at this;refine this.resolve_left fun e=>?_
 have:({ fA n with wr:=false }:En).kind=en0.kind:=by rw[e]
 rw[show({ fA n with wr:=false }:En).kind=(fA n).kind from rfl,hkind]at this
 cases this
theorem BInv.forkS (h:BInv m T) (hs0:m.sp[0]? =some s0) (hs1:m.sp[1]? =some s1) (har:s1.ars=s0.ars) (hA:T[0]? =some fA) (hB:T[1]? =some fB) (hn:n<64) (hBn:fB n=en0) {k:Nat} {z:Int} (hk:m.sl[k]? =some z) (hkind:(fA n).kind=2) (hen:(fA n).n=(k:Int)):
  BInv { m with sl:=m.sl.set k (z+1) } ((T.set 0 (updF fA n (fA n))).set 1 (updF fB n (fA n))):=by
 have hne:fA n≠en0:=fun e=>by rw[e]at hkind;cases hkind
 rw[updF_self,set_self hA];exact h.shareS hk hB hn hBn hs1 (by rw[har];exact(h.ent 0 s0 fA hs0 hA n hn).resolve_left hne) hkind hen
theorem fork_none (hA:T[0]? =some fA) (hB:T[1]? =some fB) (hAn:fA n=en0) (hBn:fB n=en0):(T.set 0 (updF fA n en0)).set 1 (updF fB n en0)=T:=by
 have h1:updF fA n en0=fA:=by
  have:=updF_self fA n;rwa [hAn]at this
 have h2:updF fB n en0=fB:=by
  have:=updF_self fB n;rwa [hBn]at this
 rw[h1,h2,set_self hA,set_self hB]
end
section
variable{α:Type} {E:Elt α}
theorem run_store_part {w:World} {o:Oper} {a:Act} (p x:Operand) (t:TypeId) (ho:o.op= .store t p x) (base:Nat) (v:Value) (l:List α) (hown:OwnRow E base w v l)
  (g i j:Nat) (hg:v.ownBlock=some g) (e y:α) (hi:l[i]? =some e) (cs:List Value) (hk:(Tryz.prog.info? t).map (·.size)=some cs.length) (hy:E.enc y=splice (E.enc e) j cs) (hj:j+cs.length<=E.k) (h1:∀u∈cs,u.oneCell'=true)
  (ad:Addr) (hp:a.eval p= .pointer (some ad)) (had:ad=⟨g,i*E.k+j,none⟩) (vx:Value) (hx:a.eval x=vx) (hvx:vx.cells=cs.toArray):
  ∃w',(execOp a.eval o).run Tryz.prog w= .ok .skip w'/\OwnRow E base w' v (l.set i y)/\w.grownBy w' (some g)/\w'.heap.size=w.heap.size:=by
 subst had;have hil:i<l.length:=(gS.1 hi).1;have hfit:i*E.k+j+cs.length<=l.length*E.k:=by
  have:(i+1)*E.k<=l.length*E.k:=Nat.mul_le_mul_right _ hil;rw[Nat.add_mul]at this;omega
 obtain⟨w',hr,h2,h3,h4⟩:=run_storeCells_row (P:=Tryz.prog) hown.1 hg (i*E.k+j) cs hfit h1;have hsz:(Go.sizeOf t).run Tryz.prog w= .ok cs.length w:=by
  cases hq:Tryz.prog.info? t with
  | none=>simp[hq]at hk
  | some i=>simp[hq]at hk;simp[Go.sizeOf,typeInfo,hq,hk]
 have hall:(Instr.storeAt t (.pointer (some ⟨g,i*E.k+j,none⟩)) vx).run Tryz.prog w= .ok () w':=by
  simp[Instr.storeAt,Instr.sureAddr,storeVar,Sem.run_bind,hsz,Result.andThen,hvx,hr]
 rw[splice_part j cs hy hj l i hi]at h2;refine⟨w',?_,⟨by rw[List.length_set];exact h2,by rw[List.length_set];exact hown.2⟩,h3,h4⟩
 simp only[execOp,ho,hp,hx,Sem.run_bind,hall,Result.andThen,Sem.run_pure]
theorem does_skip {P:Program} {o:Oper} {a:Act} {w w':World} {K:Value->World->Prop} (hr:(execOp a.eval o).run P w= .ok .skip w') (h:K undef w'):Does P o a w K:=by
 unfold Does;rw[hr];exact h
end
theorem loc_entry {hi p:Nat}:Loc hi p 67:=⟨by decide,by decide,by decide,by decide,by decide,by decide,by decide,by decide,fun h=>absurd h (by decide)⟩
theorem loc_ones {hi p:Nat}:Loc hi p 97:=⟨by decide,by decide,by decide,by decide,by decide,by decide,by decide,by decide,fun h=>absurd h (by decide)⟩
theorem does_storeT {o:Oper} {a:Act} {w:World} {K:Value->World->Prop} (ty:TypeId) (p x:Operand) (ho:o.op= .store ty p x) (b off:Nat) (hp:a.eval p= .pointer (some ⟨b,off,none⟩)) (vx:Value) (hx:a.eval x=vx) (vs:List Value) (hvx:vx.cells=vs.toArray)
  {t:TypeId} {cs:List Value} (hb:BoxT w b t cs) (hl:off+vs.length<=cs.length) (hi:(Tryz.prog.info? ty).map (·.size)=some vs.length) (h1:∀v∈vs,v.oneCell'=true)
  (h:∀w',BoxT w' b t (splice cs off vs)->w.grownBy w' (some b)->w'.heap.size=w.heap.size->K undef w'):Does Tryz.prog o a w K:=by
 have hag:(Value.agg vs.toArray).cells=vs.toArray:=by
  unfold Value.cells;simp
 have hr:(execOp a.eval o).run Tryz.prog w= .ok .skip (w.setCells b off vs):=by
  have h2:=run_storeAt_mid (P:=Tryz.prog) w b off ty vs.toArray (fun j hj=>by
   have:=hb.box.there (off+j) (by simp at hj;omega)
   rw[zA]at this;exact this) (by simpa using hi) (all_oneCell_toArray h1)
  have h3:(Instr.storeAt ty (.pointer (some ⟨b,off,none⟩)) vx).run Tryz.prog w=(Instr.storeAt ty (.pointer (some ⟨b,off,none⟩)) (.agg vs.toArray)).run Tryz.prog w:=by
   simp only[Instr.storeAt,Instr.sureAddr,storeVar,hvx,hag]
  simp only[execOp,ho,hp,hx,Sem.run_bind,h3,h2,rA,Sem.run_pure]
 exact does_skip hr (h _ (hb.part (ds:=vs) (o:=off) hl) (setCells_grown b vs off w).1 (setCells_grown b vs off w).2)
theorem wp_storeT {ops:Array Oper} {rest:List Oper} {o:Oper} {a:Act} {w:World} {Q:Exit->Act->World->Prop} (hgd:o.guard=none) (ty:TypeId) (p x:Operand) (ho:o.op= .store ty p x) (b off:Nat) (hp:a.eval p= .pointer (some ⟨b,off,none⟩)) (vx:Value) (hx:a.eval x=vx) (vs:List Value) (hvx:vx.cells=vs.toArray)
  {t:TypeId} {cs:List Value} (hb:BoxT w b t cs) (hl:off+vs.length<=cs.length) (hi:(Tryz.prog.info? ty).map (·.size)=some vs.length) (h1:∀v∈vs,v.oneCell'=true)
  (h:∀w',BoxT w' b t (splice cs off vs)->w.grownBy w' (some b)->w'.heap.size=w.heap.size->wpList Tryz.prog ops Q rest (a.put o.dst undef) w'):wpList Tryz.prog ops Q (o :: rest) a w:=
 wpList_plain hgd fun _ hK=>(does_storeT (K:=fun v w'=>v=undef/\wpList Tryz.prog ops Q rest (a.put o.dst undef) w') ty p x ho b off hp vx hx vs hvx hb hl hi h1 (fun w' k1 k2 k3=>⟨rfl,h w' k1 k2 k3⟩)).wp (fun v w' hk=>hK _ _ (by rw[hk.1];exact hk.2))
theorem does_load {o:Oper} {a:Act} {w:World} {K:Value->World->Prop} (ty:TypeId) (x:Operand) (ho:o.op= .load ty x) (b off:Nat) (hx:a.eval x= .pointer (some ⟨b,off,none⟩)) (vs:List Value) (hc:w.rangeAt b off vs) {d:TypeDesc} (hu:Tryz.prog.underlying ty=some d) (hd:d.isRow=true) (hi:(Tryz.prog.info? ty).map (·.size)=some vs.length) (h:K (.agg vs.toArray) w):Does Tryz.prog o a w K:=by
 have:=run_loadAt_mid (P:=Tryz.prog) w b off ty vs d hc hu hd hi;exact Does.step (by simp only[execOp,ho,hx,Sem.run_bind,this,rA,Sem.run_pure]) h
theorem does_load1 {o:Oper} {a:Act} {w:World} {K:Value->World->Prop} (ty:TypeId) (x:Operand) (ho:o.op= .load ty x) (b off:Nat) (hx:a.eval x= .pointer (some ⟨b,off,none⟩)) (v:Value) (hc:w.cell? ⟨b,off,none⟩=some v) {d:TypeDesc} (hu:Tryz.prog.underlying ty=some d) (hd:d.isRow=false) (h:K v w):Does Tryz.prog o a w K:=by
 have hagg:(isAgg ty).run Tryz.prog w= .ok false w:=by
  unfold isAgg;rw[Sem.run_bind,run_underlying hu w]
  cases d <;> simp_all [TypeDesc.isRow]
 have h2:(loadVar ty ⟨b,off,none⟩).run Tryz.prog w= .ok v w:=by simp[loadVar,Sem.run_bind,hagg,hc]
 exact Does.step (by simp only[execOp,ho,hx,Instr.loadAt,Instr.sureAddr,Sem.run_bind,Sem.run_pure,h2,rA]) h
theorem does_store_partC {α:Type} {E:Elt α} {w:World} {o:Oper} {a:Act} {K:Value->World->Prop} (p x:Operand) (t:TypeId) (ho:o.op= .store t p x) (base:Nat) (v:Value) (l:List α) (hown:OwnRow E base w v l)
  (g i j:Nat) (hg:v.ownBlock=some g) (e y:α) (hi:l[i]? =some e) (cs:List Value) (hk:(Tryz.prog.info? t).map (·.size)=some cs.length) (hy:E.enc y=splice (E.enc e) j cs) (hj:j+cs.length<=E.k) (h1:∀u∈cs,u.oneCell'=true)
  (ad:Addr) (hp:a.eval p= .pointer (some ad)) (had:ad=⟨g,i*E.k+j,none⟩) (vx:Value) (hx:a.eval x=vx) (hvx:vx.cells=cs.toArray)
  (h:∀w',OwnRow E base w' v (l.set i y)->w.grownBy w' (some g)->w'.heap.size=w.heap.size->K undef w'):Does Tryz.prog o a w K:=by
 obtain⟨w',h2,h3,h4,h5⟩:=run_store_part p x t ho base v l hown g i j hg e y hi cs hk hy hj h1 ad hp had vx hx hvx;exact does_skip h2 (h w' h3 h4 h5)
theorem TabS.form {B0 B1:Nat} {w:World} {us:List Value} {t:List (List En)} (h:TabS B0 B1 w us t):∃t0 t1 t2 t3 t4 t5 t6 t7:Sli,us=[t0.v,t1.v,t2.v,t3.v,t4.v,t5.v,t6.v,t7.v]:=by
 obtain⟨u0,u1,u2,u3,u4,u5,u6,u7,rfl⟩:=eight h.len;obtain⟨y0,y1,y2,y3,y4,y5,y6,y7,rfl⟩:=eight h.tlen;obtain⟨a0,c0,rfl,_⟩:=(h.row 0 _ _ rfl rfl).now.rows;obtain⟨a1,c1,rfl,_⟩:=(h.row 1 _ _ rfl rfl).now.rows;obtain⟨a2,c2,rfl,_⟩:=(h.row 2 _ _ rfl rfl).now.rows;obtain⟨a3,c3,rfl,_⟩:=(h.row 3 _ _ rfl rfl).now.rows;obtain⟨a4,c4,rfl,_⟩:=(h.row 4 _ _ rfl rfl).now.rows;obtain⟨a5,c5,rfl,_⟩:=(h.row 5 _ _ rfl rfl).now.rows;obtain⟨a6,c6,rfl,_⟩:=(h.row 6 _ _ rfl rfl).now.rows;obtain⟨a7,c7,rfl,_⟩:=(h.row 7 _ _ rfl rfl).now.rows;exact⟨⟨a0,_,c0⟩,⟨a1,_,c1⟩,⟨a2,_,c2⟩,⟨a3,_,c3⟩,⟨a4,_,c4⟩,⟨a5,_,c5⟩,⟨a6,_,c6⟩,⟨a7,_,c7⟩,rfl⟩
theorem chEnter_any {w0 w:World} {p:Nat} {V:MaV} {m:Ma} (h:ChM w0 p w V m) (q:Nat) (hq:q<m.sp.length) (n:Int) (z:En):
  Calls Tryz.prog 124 #[.pointer (some ⟨p,0,none⟩),.agg #[.int .i64 (q:Int),.int .i64 n],.agg #[.int .i64 z.kind,.int .i64 z.n,.bool z.wr]] w fun e w'=>(∃v,e= .returned v)/\Chd w0 p w V (enterM m q n z) w':=by
 obtain⟨s,hs⟩:∃s,m.sp[q]? =some s:=⟨_,gE hq⟩;obtain⟨xs,s1,s2,s3⟩:=h.sp;obtain⟨x,hx⟩:∃x,xs[q]? =some x:=⟨_,gE (by rw[s2];exact hq)⟩
 have HAT:Hid (SpaceAt w x s):=s3 q x s hx hs w (OutD.refl _ _);obtain⟨xn,HXN⟩:∃xn,Hid (xs.length=xn):=⟨_,rfl⟩;obtain⟨g,c,heq⟩:=s1.formS (by omega)
 rw[HXN.out]at heq;have hqz:(q:Int)< (xn:Int):=by have:=HXN.out;omega
 have HVS:Hid (Value.slice V.sp.a V.sp.n V.sp.c= .slice (some ⟨g,0,none⟩) xn c):=heq;have HM:Hid (ChM w0 p w V m):=h;have HX:Hid (xs[q]? =some x):=hx;have HS:Hid (m.sp[q]? =some s):=hs;have HS2:Hid (xs.length=m.sp.length):=s2;have HS3:Hid (∀(i:Nat) x s,xs[i]? =some x->m.sp[i]? =some s->∀W,OutD (Dq w0.heap.size p V.sp) w W->SpaceAt W x s):=s3;rw[heq]at s1;have HS1:Hid (OwnRow spcE w0.heap.size w (.slice (some ⟨g,0,none⟩) xn c) xs):=s1;have HCE:Hid (∀W,Grew w W->Sp10 W ⟨g,q*10,none⟩ x):=show∀W,_ from fun W hW=>by
  have:=((s1.grew hW).one hx).sp10;rw[Addr.add_lit,zA]at this;exact this
 have HG:Hid (∀W,Grew w W->Calls Tryz.prog 153 #[.agg #[.slice x.t0.a x.t0.n x.t0.c,.slice x.t1.a x.t1.n x.t1.c,.slice x.t2.a x.t2.n x.t2.c,.slice x.t3.a x.t3.n x.t3.c,.slice x.t4.a x.t4.n x.t4.c,.slice x.t5.a x.t5.n x.t5.c,.slice x.t6.a x.t6.n x.t6.c,.slice x.t7.a x.t7.n x.t7.c],.int .i64 n,.agg #[.int .i64 z.kind,.int .i64 z.n,.bool z.wr]] W fun e w'=>∃us,e= .returned (.tuple #[.agg us.toArray,.int .i64 (setE s.tb n z)])/\TabS 0 W.heap.size w' us (setR s.tb n z)/\Grew W w'):=show∀W,_ from fun W hW=>setTb_any x.tab s.tb n z W (HAT.out.tb.grew hW)
 have HEM:Hid (enterM m q n z={ m with sp:=m.sp.set q { s with tb:=setR s.tb n z } }):=show _=_ by unfold enterM;rw[Sp.getD_of hs]
 rw[HEM.out];clear h hq hs s1 s2 s3 hx heq HAT HEM;obtain⟨W1,hW1⟩:∃W1,(w.alloc (.cells #[.int .i64 (q:Int),.int .i64 n] 146)).alloc (.cells #[.int .i64 z.kind,.int .i64 z.n,.bool z.wr] 67)=W1:=⟨_,rfl⟩;have G1:=gD2 hW1
 have X1:=x2a hW1
 have Y1:=x2b hW1
 have HW1:Hid (_=W1):=hW1;clear hW1;have c10:W1.cell? ⟨p,10,none⟩=some (.slice (some ⟨g,0,none⟩) xn c):=by rw[<-HVS.out];exact(HM.out.box.box.grew G1.out).c 10 rfl
 have x0:=X1.out.c 0 rfl
 go_enter Tryz.func124,Tryz.ntmps124
 go_upto_region 1 with fail;rw[HW1.out];obtain⟨b,HB⟩:∃b,Hid (w.heap.size=b):=⟨_,rfl⟩;rw[HB.out]at X1 Y1 x0⊢
 go_upto_region 2 with(go_quiet (fail))
 clear c10 x0;obtain⟨W2,hW2⟩:∃W2,W1.drewN nq=W2:=⟨_,rfl⟩;have G2:Hid (Grew w W2):=show Grew _ _ by rw[<-hW2];exact G1.out.trans (show Below _ _ _ from bD (bR _ _) _)
 have X2:Hid (Box W2 b [.int .i64 (q:Int),.int .i64 n]):=show Box _ _ _ by rw[<-hW2];exact X1.out.grew (show Below _ _ _ from bD (bR _ _) _)
 have Y2:Hid (Box W2 (b+1) [.int .i64 z.kind,.int .i64 z.n,.bool z.wr]):=show Box _ _ _ by rw[<-hW2];exact Y1.out.grew (show Below _ _ _ from bD (bR _ _) _)
 rw[hW2];clear hW2 G1 X1 Y1;obtain⟨I,HI⟩:∃I:World->Prop,Hid (∀u,I u↔Box u b [.int .i64 (q:Int),.int .i64 n]/\Box u (b+1) [.int .i64 z.kind,.int .i64 z.n,.bool z.wr]):=⟨fun u=>Box u b [.int .i64 (q:Int),.int .i64 n]/\Box u (b+1) [.int .i64 z.kind,.int .i64 z.n,.bool z.wr],fun _=>Iff.rfl⟩
 have hI0:I W2.drew:=(HI.out _).2 ⟨X2.out.grew (gW _),Y2.out.grew (gW _)⟩
 have hF0:Grew W2 W2.drew:=show Below _ _ _ from(bR _ _).drew
 have hx1:∀y:HoldI I,y.world.cell? ⟨b,1,none⟩=some (.int .i64 n):=fun y=>((HI.out _).1 y.holds).1.c 1 rfl
 have hy0:∀y:HoldI I,y.world.cell? ⟨b+1,0,none⟩=some (.int .i64 z.kind):=fun y=>((HI.out _).1 y.holds).2.c 0 rfl
 have hy1:∀y:HoldI I,y.world.cell? ⟨b+1,1,none⟩=some (.int .i64 z.n):=fun y=>((HI.out _).1 y.holds).2.c 1 rfl
 have hy2:∀y:HoldI I,y.world.cell? ⟨b+1,2,none⟩=some (.bool z.wr):=fun y=>((HI.out _).1 y.holds).2.c 2 rfl
 have hne:Nonempty (HoldI I):=⟨⟨_,hI0⟩⟩;refine wp_lax_tailD (I:=I) 15 [(4,fun v=>v= .agg #[.slice x.t0.a x.t0.n x.t0.c,.slice x.t1.a x.t1.n x.t1.c,.slice x.t2.a x.t2.n x.t2.c,.slice x.t3.a x.t3.n x.t3.c,.slice x.t4.a x.t4.n x.t4.c,.slice x.t5.a x.t5.n x.t5.c,.slice x.t6.a x.t6.n x.t6.c,.slice x.t7.a x.t7.n x.t7.c]),(8,fun v=>∃us:List Value,v= .tuple #[.agg us.toArray,.int .i64 (setE s.tb n z)]),(14,fun _=>True)] (fun u=>Grew W2 u) hI0 hF0 mixed (by kernel_rfl) rfl rfl (by decide) ?hS (by kernel_rfl) ?_
 case hS=>
  intro x hx;simp only[mC,nM,or_false]at hx
  rcases hx with rfl | rfl | rfl
  ·exact⟨_,rfl⟩
  ·exact⟨_,[],rfl⟩
  exact⟨undef,trivial⟩
 simp only[List.take,List.drop];iterate 2 (refine laxD_quiet rfl rfl rfl (fun K hK=>?_);go_big_quiet_op;refine hK _ ?_;clear hK K)
 refine laxD_nilc (.tmp 17) ⟨g,q*10,none⟩ rfl rfl rfl rfl ?_;simp only[Act.put,sB,sS,sZ];iterate 1 (refine laxD_quiet rfl rfl rfl (fun K hK=>?_);go_big_quiet_op;refine hK _ ?_;clear hK K)
 refine laxD_spec rfl rfl (fun _ u=>Grew W2 u) (fun w' hI' hF'=>?_) (fun v1 hv=>?_)
 ·refine does_load 63 (.tmp 19) rfl g (q*10+2) rfl [.slice x.t0.a x.t0.n x.t0.c,.slice x.t1.a x.t1.n x.t1.c,.slice x.t2.a x.t2.n x.t2.c,.slice x.t3.a x.t3.n x.t3.c,.slice x.t4.a x.t4.n x.t4.c,.slice x.t5.a x.t5.n x.t5.c,.slice x.t6.a x.t6.n x.t6.c,.slice x.t7.a x.t7.n x.t7.c] ?_ Tryz.underlying63 rfl (by kernel_rfl) ⟨hI',rfl,hF'⟩
  have hc:=HCE.out _ (G2.out.trans hF');intro j v hj;have hr:(w'.cell? ⟨g,q*10+2+j,none⟩)=some v:=by
   match j,hj with
   | 0,hj=>cases hj;exact hc.2.2.1
   | 1,hj=>cases hj;exact hc.2.2.2.1
   | 2,hj=>cases hj;exact hc.2.2.2.2.1
   | 3,hj=>cases hj;exact hc.2.2.2.2.2.1
   | 4,hj=>cases hj;exact hc.2.2.2.2.2.2.1
   | 5,hj=>cases hj;exact hc.2.2.2.2.2.2.2.1
   | 6,hj=>cases hj;exact hc.2.2.2.2.2.2.2.2.1
   | 7,hj=>cases hj;exact hc.2.2.2.2.2.2.2.2.2
  exact hr
 cases hv;simp only[Act.put,sB,sS,sZ];iterate 3 (refine laxD_quiet rfl rfl rfl (fun K hK=>?_);go_big_quiet_op;refine hK _ ?_;clear hK K)
 refine laxD_spec rfl rfl (fun v u=>∃(us:List Value) (Wa:World),v= .tuple #[.agg us.toArray,.int .i64 (setE s.tb n z)]/\Grew W2 Wa/\Grew Wa u/\TabS 0 Wa.heap.size u us (setR s.tb n z)) (fun w' hI' hF'=>?_) (fun v1 hv=>?_)
 ·refine Does.call [.agg #[.slice x.t0.a x.t0.n x.t0.c,.slice x.t1.a x.t1.n x.t1.c,.slice x.t2.a x.t2.n x.t2.c,.slice x.t3.a x.t3.n x.t3.c,.slice x.t4.a x.t4.n x.t4.c,.slice x.t5.a x.t5.n x.t5.c,.slice x.t6.a x.t6.n x.t6.c,.slice x.t7.a x.t7.n x.t7.c],.int .i64 n,.agg #[.int .i64 z.kind,.int .i64 z.n,.bool z.wr]] rfl Tryz.func153 rfl rfl rfl ?_;refine(HG.out w' (G2.out.trans hF')).mono ?_;rintro e w'' ⟨us,rfl,t2,g2⟩;obtain⟨i1,i2⟩:=(HI.out _).1 hI';exact⟨_,rfl,(HI.out _).2 ⟨i1.grew g2,i2.grew g2⟩,⟨us,rfl⟩,us,w',rfl,hF',g2,t2⟩
 obtain⟨us,rfl⟩:=hv;simp only[Act.put,sB,sS,sZ];iterate 3 (refine laxD_quiet rfl rfl rfl (fun K hK=>?_);go_big_quiet_op;refine hK _ ?_;clear hK K)
 refine laxD_nilc (.tmp 16) ⟨g,q*10,none⟩ rfl rfl rfl rfl ?_;simp only[Act.put,sB,sS,sZ];iterate 1 (refine laxD_quiet rfl rfl rfl (fun K hK=>?_);go_big_quiet_op;refine hK _ ?_;clear hK K)
 refine laxD_spec rfl rfl (fun _ u=>Chd w0 p w V { m with sp:=m.sp.set q { s with tb:=setR s.tb n z } } u) (fun w' hI' hF'=>?_) (fun v1 hv=>?_)
 ·obtain⟨us',Wa,he,ga,gb,t8⟩:=hF';have hus:us'=us:=by simpa using he.symm
  subst hus;obtain⟨t0,t1,t2,t3,t4,t5,t6,t7,rfl⟩:=t8.form;have G8:Grew w w':=(G2.out.trans ga).trans gb;refine does_store_partC (E:=spcE) (.tmp 28) (.tmp 25) 63 rfl w0.heap.size _ xs (HS1.out.grew G8) g q 2 rfl x ⟨x.live,x.ar,t0,t1,t2,t3,t4,t5,t6,t7⟩ HX.out [t0.v,t1.v,t2.v,t3.v,t4.v,t5.v,t6.v,t7.v] (by kernel_rfl) rfl (by show 2+8<=10;omega) ?_ ⟨g,q*10+2,none⟩ rfl rfl (.agg #[t0.v,t1.v,t2.v,t3.v,t4.v,t5.v,t6.v,t7.v]) rfl rfl ?_
  ·intro u hu;simp only[mC,nM,or_false]at hu
   rcases hu with rfl | rfl | rfl | rfl | rfl | rfl | rfl | rfl <;> rfl
  intro W9 ow9 gr9 _;rw[<-HVS.out]at ow9;obtain⟨i1,i2⟩:=(HI.out _).1 hI';have hgl:=HS1.out.lt g rfl;refine⟨(HI.out _).2 ⟨i1.grown gr9 (by have:=HB.out;omega),i2.grown gr9 (by have:=HB.out;omega)⟩,trivial,V,rfl,HM.out.setT HS2.out HS3.out HX.out HS.out (by rw[HVS.out];rfl) G8 (t8.less (nR _) (nT (bS G2.out) (bS ga))) gr9 ow9 ⟨rfl,rfl,rfl⟩,(OutD.grew G8).trans (OutD.grown gr9 (.inr (by rw[HVS.out];rfl)))⟩
 clear hv;try simp only[Act.put]
 refine laxD_nil fun W9 hI8 hF8=>?_
 have M9:Hid (Chd w0 p w V { m with sp:=m.sp.set q { s with tb:=setR s.tb n z } } W9):=hF8;clear hI8 hF8 hI0 hF0 hx1 hy0 hy1 hy2 hne HI;go_wp2
 (first | go_end0 | ((try simp only[Exit.inBlock,Exit.then]);refine bodyPost_ret (results_none rfl _ _ _) rfl ?_))
 first | exact M9.out | exact⟨⟨_,rfl⟩,M9.out⟩
theorem chHold_any {w0 w:World} {p:Nat} {V:MaV} {m:Ma} (h:ChM w0 p w V m) (z:En) (n:Int):
  Calls Tryz.prog 123 #[.pointer (some ⟨p,0,none⟩),.agg #[.int .i64 z.kind,.int .i64 z.n,.bool z.wr],.int .i64 n] w fun e w'=>(∃v,e= .returned v)/\Chd w0 p w V (holdM m z n) w':=by
 have HM:Hid (ChM w0 p w V m):=h;obtain⟨n1,n2,-⟩:=h.at.ns;have HF:Hid (∀W,Grew w W->Calls Tryz.prog 151 #[.agg #[.slice V.f.a V.f.n V.f.c,.int .i64 m.hand],.int .i64 z.n,.int .i64 n] W fun e w'=>∃b:Sli,e= .returned (.tuple #[.agg #[.slice b.a b.n b.c,.int .i64 (holdH m.fs m.hand z.n n)],.int .i64 (holdE m.fs m.hand z.n n)])/\NewRow frmE W.heap.size w' (.slice b.a b.n b.c) (holdF m.fs m.hand z.n n)/\Grew W w'):=show∀W,_ from fun W hW=>by
  have k:=(h.at.grew hW).fs;rw[n1]at k⊢;refine(hold_any V.f.a V.f.c m.fs m.hand z.n n W k).mono ?_;rintro e w' ⟨b,rfl,nr,g⟩;have nr':NewRow frmE W.heap.size w' b (holdF m.fs m.hand z.n n):=nr;obtain⟨a,c,rfl,_⟩:=nr'.1.rows;exact⟨⟨a,_,c⟩,rfl,nr,g⟩
 have HSL:Hid (∀W,Grew w W->Calls Tryz.prog 152 #[.slice V.s.a V.s.n V.s.c,.int .i64 z.n,.int .i64 n] W fun e w'=>∃b:Sli,e= .returned (.tuple #[.slice b.a b.n b.c,.int .i64 (holdSE m.sl z.n n)])/\NewRow slE W.heap.size w' (.slice b.a b.n b.c) (holdSL m.sl z.n n)/\Grew W w'):=show∀W,_ from fun W hW=>by
  have k:=(h.at.grew hW).sl;rw[n2]at k⊢;refine(holdS_any V.s.a V.s.c m.sl z.n n W k).mono ?_;rintro e w' ⟨a,c,rfl,nr,g⟩;exact⟨⟨a,_,c⟩,rfl,nr,g⟩
 have HD:Hid (∀k,Dp p V.sp k->k<w.heap.size):=h.dlt;clear h n1 n2;obtain⟨W1,hW1⟩:∃W1,w.alloc (.cells #[.int .i64 z.kind,.int .i64 z.n,.bool z.wr] 67)=W1:=⟨_,rfl⟩;have G1:=gA hW1
 have Y1:=xA hW1
 have HW1:Hid (_=W1):=hW1;clear hW1;have y0:=Y1.out.c 0 rfl
 go_enter Tryz.func123,Tryz.ntmps123
 go_upto_region 1 with fail;rw[HW1.out];obtain⟨b,HB⟩:∃b,Hid (w.heap.size=b):=⟨_,rfl⟩;rw[HB.out]at Y1 y0⊢
 by_cases k1:z.kind=1
 ·have hk1:(z.kind == 1)=true:=by rw[k1];rfl
  have HH:Hid (holdM m z n={ m with fs:=holdF m.fs m.hand z.n n,hand:=holdH m.fs m.hand z.n n }):=show _=_ by unfold holdM;rw[if_pos k1]
  clear k1;go_upto_region 3 with fail;clear y0;obtain⟨I,HI⟩:∃I:World->Prop,Hid (∀u,I u↔Box u b [.int .i64 z.kind,.int .i64 z.n,.bool z.wr]):=⟨fun u=>Box u b [.int .i64 z.kind,.int .i64 z.n,.bool z.wr],fun _=>Iff.rfl⟩
  have hI0:I W1.drew:=(HI.out _).2 (Y1.out.grew (gW _))
  have hF0:Grew W1 W1.drew:=show Below _ _ _ from(bR _ _).drew
  have hy1:∀y:HoldI I,y.world.cell? ⟨b,1,none⟩=some (.int .i64 z.n):=fun y=>((HI.out _).1 y.holds).c 1 rfl
  have hne:Nonempty (HoldI I):=⟨⟨_,hI0⟩⟩;refine wp_lax_tailD (I:=I) 17 [(5,fun v=>v= .agg #[.slice V.f.a V.f.n V.f.c,.int .i64 m.hand]),(9,fun v=>∃s:Sli,v= .tuple #[.agg #[.slice s.a s.n s.c,.int .i64 (holdH m.fs m.hand z.n n)],.int .i64 (holdE m.fs m.hand z.n n)]),(16,fun _=>True)] (fun u=>Grew W1 u) hI0 hF0 mixed (by kernel_rfl) rfl rfl (by decide) ?hS (by kernel_rfl) ?_
  case hS=>
   intro x hx;simp only[mC,nM,or_false]at hx
   rcases hx with rfl | rfl | rfl
   ·exact⟨_,rfl⟩
   ·exact⟨_,sli0,rfl⟩
   exact⟨undef,trivial⟩
  simp only[List.take,List.drop];iterate 2 (refine laxD_quiet rfl rfl rfl (fun K hK=>?_);go_big_quiet_op;refine hK _ ?_;clear hK K)
  refine laxD_nilc (.tmp 12) ⟨p,0,none⟩ rfl rfl rfl rfl ?_;simp only[Act.put,sB,sS,sZ];iterate 2 (refine laxD_quiet rfl rfl rfl (fun K hK=>?_);go_big_quiet_op;refine hK _ ?_;clear hK K)
  refine laxD_spec rfl rfl (fun _ u=>Grew W1 u) (fun w' hI' hF'=>?_) (fun v1 hv=>?_)
  ·refine does_load 27 (.tmp 15) rfl p 0 rfl [.slice V.f.a V.f.n V.f.c,.int .i64 m.hand] ((HM.out.box.box.grew (G1.out.trans hF')).mid 0 (fun j v hj=>by
    match j,hj with
    | 0,hj=>exact hj
    | 1,hj=>exact hj)) Tryz.underlying27 rfl (by kernel_rfl) ⟨hI',rfl,hF'⟩
  cases hv;simp only[Act.put,sB,sS,sZ];iterate 3 (refine laxD_quiet rfl rfl rfl (fun K hK=>?_);go_big_quiet_op;refine hK _ ?_;clear hK K)
  refine laxD_spec rfl rfl (fun v u=>∃(s:Sli) (Wa:World),v= .tuple #[.agg #[.slice s.a s.n s.c,.int .i64 (holdH m.fs m.hand z.n n)],.int .i64 (holdE m.fs m.hand z.n n)]/\Grew W1 Wa/\Grew Wa u/\NewRow frmE Wa.heap.size u (.slice s.a s.n s.c) (holdF m.fs m.hand z.n n)) (fun w' hI' hF'=>?_) (fun v1 hv=>?_)
  ·refine Does.call [.agg #[.slice V.f.a V.f.n V.f.c,.int .i64 m.hand],.int .i64 z.n,.int .i64 n] rfl Tryz.func151 rfl rfl rfl ?_;refine(HF.out w' (G1.out.trans hF')).mono ?_;rintro e w'' ⟨s,rfl,t2,g2⟩;exact⟨_,rfl,(HI.out _).2 (((HI.out _).1 hI').grew g2),⟨s,rfl⟩,s,w',rfl,hF',g2,t2⟩
  obtain⟨s,rfl⟩:=hv;simp only[Act.put,sB,sS,sZ];iterate 3 (refine laxD_quiet rfl rfl rfl (fun K hK=>?_);go_big_quiet_op;refine hK _ ?_;clear hK K)
  refine laxD_nilc (.tmp 11) ⟨p,0,none⟩ rfl rfl rfl rfl ?_;simp only[Act.put,sB,sS,sZ];iterate 2 (refine laxD_quiet rfl rfl rfl (fun K hK=>?_);go_big_quiet_op;refine hK _ ?_;clear hK K)
  refine laxD_spec rfl rfl (fun _ u=>Chd w0 p w V { m with fs:=holdF m.fs m.hand z.n n,hand:=holdH m.fs m.hand z.n n } u) (fun w' hI' hF'=>?_) (fun v1 hv=>?_)
  ·obtain⟨s',Wa,he,ga,gb,t8⟩:=hF';have hss:s'=s:=by
    obtain⟨a1,a2,a3⟩:=s;obtain⟨b1,b2,b3⟩:=s';simp only[Value.tuple.injEq,Array.mk.injEq,List.cons.injEq,Value.agg.injEq,vJ,and_true]at he;obtain⟨rfl,rfl,rfl⟩:=he;rfl
   subst hss;have G8:Grew w w':=(G1.out.trans ga).trans gb;refine does_storeT 27 (.tmp 25) (.tmp 21) rfl p 0 rfl (.agg #[.slice s'.a s'.n s'.c,.int .i64 (holdH m.fs m.hand z.n n)]) rfl [.slice s'.a s'.n s'.c,.int .i64 (holdH m.fs m.hand z.n n)] rfl (HM.out.box.grew G8) (by simp[chL]) (by kernel_rfl) (by simp[Value.oneCell']) ?_
   intro W9 bx9 gr9 _;have hpl:=HD.out p (.inl rfl);exact⟨(HI.out _).2 (((HI.out _).1 hI').grown gr9 (by have:=HB.out;omega)),trivial,{ V with f:=s' },rfl,HM.out.setF G8 (t8.base (nT (bS G1.out) (bS ga))) gr9 bx9,(OutD.grew G8).trans (OutD.grown gr9 (.inl rfl))⟩
  clear hv;try simp only[Act.put]
  refine laxD_nil fun W9 hI8 hF8=>?_
  have M9:Hid (Chd w0 p w V (holdM m z n) W9):=show Chd _ _ _ _ _ _ by rw[HH.out];exact hF8
  clear hI8 hF8 hI0 hF0 hy1 hne HI;go_wp2
  (first | go_end0 | ((try simp only[Exit.inBlock,Exit.then]);refine bodyPost_ret (results_none rfl _ _ _) rfl ?_))
  first | exact M9.out | exact⟨⟨_,rfl⟩,M9.out⟩
 have hk1:(z.kind == 1)=false:=by simpa using k1
 by_cases k2:z.kind=2
 ·have hk2:(z.kind == 2)=true:=by rw[k2];rfl
  have HH:Hid (holdM m z n={ m with sl:=holdSL m.sl z.n n }):=show _=_ by unfold holdM;rw[if_neg k1,if_pos k2]
  clear k1 k2;go_upto_region 5 with fail;clear y0;obtain⟨I,HI⟩:∃I:World->Prop,Hid (∀u,I u↔Box u b [.int .i64 z.kind,.int .i64 z.n,.bool z.wr]):=⟨fun u=>Box u b [.int .i64 z.kind,.int .i64 z.n,.bool z.wr],fun _=>Iff.rfl⟩
  have hI0:I W1.drew:=(HI.out _).2 (Y1.out.grew (gW _))
  have hF0:Grew W1 W1.drew:=show Below _ _ _ from(bR _ _).drew
  have hy1:∀y:HoldI I,y.world.cell? ⟨b,1,none⟩=some (.int .i64 z.n):=fun y=>((HI.out _).1 y.holds).c 1 rfl
  have hne:Nonempty (HoldI I):=⟨⟨_,hI0⟩⟩;refine wp_lax_tailD (I:=I) 17 [(5,fun v=>v= .slice V.s.a V.s.n V.s.c),(9,fun v=>∃s:Sli,v= .tuple #[.slice s.a s.n s.c,.int .i64 (holdSE m.sl z.n n)]),(16,fun _=>True)] (fun u=>Grew W1 u) hI0 hF0 mixed (by kernel_rfl) rfl rfl (by decide) ?hS (by kernel_rfl) ?_
  case hS=>
   intro x hx;simp only[mC,nM,or_false]at hx
   rcases hx with rfl | rfl | rfl
   ·exact⟨_,rfl⟩
   ·exact⟨_,sli0,rfl⟩
   exact⟨undef,trivial⟩
  simp only[List.take,List.drop];iterate 2 (refine laxD_quiet rfl rfl rfl (fun K hK=>?_);go_big_quiet_op;refine hK _ ?_;clear hK K)
  refine laxD_nilc (.tmp 30) ⟨p,0,none⟩ rfl rfl rfl rfl ?_;simp only[Act.put,sB,sS,sZ];iterate 2 (refine laxD_quiet rfl rfl rfl (fun K hK=>?_);go_big_quiet_op;refine hK _ ?_;clear hK K)
  refine laxD_spec rfl rfl (fun _ u=>Grew W1 u) (fun w' hI' hF'=>?_) (fun v1 hv=>?_)
  ·exact does_load1 29 (.tmp 33) rfl p 2 rfl (.slice V.s.a V.s.n V.s.c) ((HM.out.box.box.grew (G1.out.trans hF')).c 2 rfl) Tryz.underlying29 rfl ⟨hI',rfl,hF'⟩
  cases hv;simp only[Act.put,sB,sS,sZ];iterate 3 (refine laxD_quiet rfl rfl rfl (fun K hK=>?_);go_big_quiet_op;refine hK _ ?_;clear hK K)
  refine laxD_spec rfl rfl (fun v u=>∃(s:Sli) (Wa:World),v= .tuple #[.slice s.a s.n s.c,.int .i64 (holdSE m.sl z.n n)]/\Grew W1 Wa/\Grew Wa u/\NewRow slE Wa.heap.size u (.slice s.a s.n s.c) (holdSL m.sl z.n n)) (fun w' hI' hF'=>?_) (fun v1 hv=>?_)
  ·refine Does.call [.slice V.s.a V.s.n V.s.c,.int .i64 z.n,.int .i64 n] rfl Tryz.func152 rfl rfl rfl ?_;refine(HSL.out w' (G1.out.trans hF')).mono ?_;rintro e w'' ⟨s,rfl,t2,g2⟩;exact⟨_,rfl,(HI.out _).2 (((HI.out _).1 hI').grew g2),⟨s,rfl⟩,s,w',rfl,hF',g2,t2⟩
  obtain⟨s,rfl⟩:=hv;simp only[Act.put,sB,sS,sZ];iterate 3 (refine laxD_quiet rfl rfl rfl (fun K hK=>?_);go_big_quiet_op;refine hK _ ?_;clear hK K)
  refine laxD_nilc (.tmp 29) ⟨p,0,none⟩ rfl rfl rfl rfl ?_;simp only[Act.put,sB,sS,sZ];iterate 2 (refine laxD_quiet rfl rfl rfl (fun K hK=>?_);go_big_quiet_op;refine hK _ ?_;clear hK K)
  refine laxD_spec rfl rfl (fun _ u=>Chd w0 p w V { m with sl:=holdSL m.sl z.n n } u) (fun w' hI' hF'=>?_) (fun v1 hv=>?_)
  ·obtain⟨s',Wa,he,ga,gb,t8⟩:=hF';have hss:s'=s:=by
    obtain⟨a1,a2,a3⟩:=s;obtain⟨b1,b2,b3⟩:=s';simp only[Value.tuple.injEq,Array.mk.injEq,List.cons.injEq,vJ,and_true]at he;obtain⟨rfl,rfl,rfl⟩:=he;rfl
   subst hss;have G8:Grew w w':=(G1.out.trans ga).trans gb;refine does_storeT 29 (.tmp 43) (.tmp 39) rfl p 2 rfl (.slice s'.a s'.n s'.c) rfl [.slice s'.a s'.n s'.c] rfl (HM.out.box.grew G8) (by simp[chL]) (by kernel_rfl) (by simp[Value.oneCell']) ?_
   intro W9 bx9 gr9 _;have hpl:=HD.out p (.inl rfl);exact⟨(HI.out _).2 (((HI.out _).1 hI').grown gr9 (by have:=HB.out;omega)),trivial,{ V with s:=s' },rfl,HM.out.setS G8 (t8.base (nT (bS G1.out) (bS ga))) gr9 bx9,(OutD.grew G8).trans (OutD.grown gr9 (.inl rfl))⟩
  clear hv;try simp only[Act.put]
  refine laxD_nil fun W9 hI8 hF8=>?_
  have M9:Hid (Chd w0 p w V (holdM m z n) W9):=show Chd _ _ _ _ _ _ by rw[HH.out];exact hF8
  clear hI8 hF8 hI0 hF0 hy1 hne HI;go_wp2
  (first | go_end0 | ((try simp only[Exit.inBlock,Exit.then]);refine bodyPost_ret (results_none rfl _ _ _) rfl ?_))
  first | exact M9.out | exact⟨⟨_,rfl⟩,M9.out⟩
 have hk2:(z.kind == 2)=false:=by simpa using k2
 have HH:Hid (holdM m z n=m):=show _=_ by unfold holdM;rw[if_neg k1,if_neg k2]
 clear k1 k2;have M9:Hid (Chd w0 p w V (holdM m z n) W1):=show Chd _ _ _ _ _ _ by rw[HH.out];exact⟨V,rfl,HM.out.grew G1.out,OutD.grew G1.out⟩
 go_wp2
 (first | go_end0 | ((try simp only[Exit.inBlock,Exit.then]);refine bodyPost_ret (results_none rfl _ _ _) rfl ?_))
 first | exact M9.out | exact⟨⟨_,rfl⟩,M9.out⟩
theorem Chd.trans {w0 w w1 w2:World} {p:Nat} {V V1:MaV} {m2:Ma} (hs:V1.sp=V.sp) (h1:OutD (Dp p V.sp) w w1) (h2:Chd w0 p w1 V1 m2 w2):Chd w0 p w V m2 w2:=by
 obtain⟨V2,k1,k2,k3⟩:=h2;rw[hs]at k1 k3;exact⟨V2,k1,k2,h1.trans k3⟩
theorem holdM_sp (m:Ma) (e:En) (n:Int):(holdM m e n).sp=m.sp:=by
 unfold holdM
 split
 ·rfl
 split <;> rfl
theorem enterM_len (m:Ma) (q:Nat) (n:Int) (e:En):(enterM m q n e).sp.length=m.sp.length:=by simp[enterM]
theorem chShare_any {w0 w:World} {p:Nat} {V:MaV} {m:Ma} (h:ChM w0 p w V m) (q r:Nat) (hq:q<m.sp.length) (hr:r<m.sp.length) (n:Int):
  Calls Tryz.prog 79 #[.pointer (some ⟨p,0,none⟩),.agg #[.int .i64 (q:Int),.int .i64 n],.agg #[.int .i64 (r:Int),.int .i64 n]] w fun e w'=>(∃v,e= .returned v)/\Chd w0 p w V (shareM m q r n) w':=by
 obtain⟨E,HE⟩:∃E,Hid (entM m r n=E):=⟨_,rfl⟩;have HSH:Hid (shareM m q r n=enterM (enterM (holdM m ⟨E.kind,E.n,false⟩ 1) r n ⟨E.kind,E.n,false⟩) q n ⟨E.kind,E.n,false⟩):=show _=_ by rw[<-HE.out];rfl
 have HM:Hid (ChM w0 p w V m):=h;have HQ:Hid (q<m.sp.length/\r<m.sp.length):=⟨hq,hr⟩;have HD:Hid (∀k,Dp p V.sp k->k<w.heap.size):=h.dlt;clear h hq hr;obtain⟨W1,hW1⟩:∃W1,(w.alloc (.cells #[.int .i64 (q:Int),.int .i64 n] 146)).alloc (.cells #[.int .i64 (r:Int),.int .i64 n] 146)=W1:=⟨_,rfl⟩;have G1:=gD2 hW1
 obtain⟨b,HB⟩:∃b,Hid (w.heap.size=b):=⟨_,rfl⟩;have X1:Hid (BoxT W1 b 146 [.int .i64 (q:Int),.int .i64 n]):=show BoxT _ _ _ _ by rw[<-hW1];exact(BoxT.top w [.int .i64 (q:Int),.int .i64 n] _ HB.out.symm).grew (grew_alloc _ _)
 have Y1:Hid (BoxT W1 (b+1) 146 [.int .i64 (r:Int),.int .i64 n]):=show BoxT _ _ _ _ by rw[<-hW1];exact BoxT.top _ [.int .i64 (r:Int),.int .i64 n] _ (by have:=HB.out;simp;omega)
 have HW1:Hid (_=W1):=hW1;clear hW1;have hen:=chEntry_any (HM.out.grew G1.out) r HQ.out.2 n;rw[HE.out]at hen
 go_enter Tryz.func79,Tryz.ntmps79
 go_upto_region 1 with fail;rw[HW1.out,HB.out];have y0:=Y1.out.box.c 0 rfl;have y1:=Y1.out.box.c 1 rfl;go_wp2_with fail;refine hen.mono ?_;clear hen y0 y1;rintro e W2 ⟨rfl,g2⟩;have G2:=dD (G1.out.trans g2);have X2:=dD (X1.out.grew g2);have Y2:=dD (Y1.out.grew g2);clear g2 G1 X1 Y1 HW1;unfold enV;go_upto_region 3 with fail;obtain⟨c,HC⟩:∃c,Hid (W2.heap.size=c):=⟨_,rfl⟩;obtain⟨W3,hW3⟩:∃W3,W2.alloc (.cells #[.int .i64 E.kind,.int .i64 E.n,.bool false] 67)=W3:=⟨_,rfl⟩;have g3:=gP hW3
 have G3:=dD (G2.out.trans g3);have X3:=dD (X2.out.grew g3);have Y3:=dD (Y2.out.grew g3);have Z3:=xPT hW3 HC
 have HND:Hid (¬Dp p V.sp b/\¬Dp p V.sp (b+1)/\¬Dp p V.sp c):=show _/\_ by
  have hs:=bS G2.out;have:=HB.out;have:=HC.out;exact⟨fun e=>by have:=HD.out _ e;omega,fun e=>by have:=HD.out _ e;omega,fun e=>by have:=HD.out _ e;omega⟩
 have M3:=dD (HM.out.grew G3.out);have O3:Hid (OutD (Dp p V.sp) w W3):=show OutD _ _ _ from OutD.grew G3.out
 rw[hW3,HC.out];clear hW3 g3 G3 X2 Y2 G2 HM HD;obtain⟨z0,z1,z2⟩:=Z3.out.box.c3;have hho:=chHold_any M3.out ⟨E.kind,E.n,false⟩ 1;go_wp2_with fail;refine hho.mono ?_;clear hho z0 z1 z2;rintro e W4 ⟨⟨v4,rfl⟩,V4,hs4,m4,o4⟩;have M4:Hid (ChM w0 p W4 V4 (holdM m ⟨E.kind,E.n,false⟩ 1)):=m4;have HS4:Hid (V4.sp=V.sp):=hs4;have O4:Hid (OutD (Dp p V.sp) w W4):=show OutD _ _ _ from O3.out.trans o4
 have X4:Hid (BoxT W4 b 146 [.int .i64 (q:Int),.int .i64 n]):=X3.out.outD o4 HND.out.1;have Y4:Hid (BoxT W4 (b+1) 146 [.int .i64 (r:Int),.int .i64 n]):=Y3.out.outD o4 HND.out.2.1;have Z4:Hid (BoxT W4 c 67 [.int .i64 E.kind,.int .i64 E.n,.bool false]):=Z3.out.outD o4 HND.out.2.2;clear m4 hs4 o4 M3 O3 X3 Y3 Z3;have y0:=Y4.out.box.c 0 rfl;have y1:=Y4.out.box.c 1 rfl;obtain⟨z0,z1,z2⟩:=Z4.out.box.c3;have hen:=chEnter_any M4.out r (by rw[holdM_sp];exact HQ.out.2) n ⟨E.kind,E.n,false⟩
 go_wp2_with fail;refine hen.mono ?_;clear hen y0 y1 z0 z1 z2;rintro e W5 ⟨⟨v5,rfl⟩,V5,hs5,m5,o5⟩;rw[HS4.out]at o5 hs5;have M5:Hid (ChM w0 p W5 V5 (enterM (holdM m ⟨E.kind,E.n,false⟩ 1) r n ⟨E.kind,E.n,false⟩)):=m5;have HS5:Hid (V5.sp=V.sp):=hs5;have O5:Hid (OutD (Dp p V.sp) w W5):=show OutD _ _ _ from O4.out.trans o5
 have X5:Hid (BoxT W5 b 146 [.int .i64 (q:Int),.int .i64 n]):=X4.out.outD o5 HND.out.1;have Z5:Hid (BoxT W5 c 67 [.int .i64 E.kind,.int .i64 E.n,.bool false]):=Z4.out.outD o5 HND.out.2.2;clear m5 hs5 o5 M4 O4 X4 Y4 Z4 HS4;have x0:=X5.out.box.c 0 rfl;have x1:=X5.out.box.c 1 rfl;obtain⟨z0,z1,z2⟩:=Z5.out.box.c3;have hen:=chEnter_any M5.out q (by rw[enterM_len,holdM_sp];exact HQ.out.1) n ⟨E.kind,E.n,false⟩
 go_wp2_with fail;refine hen.mono ?_;clear hen x0 x1 z0 z1 z2;rintro e W6 ⟨⟨v6,rfl⟩,h6⟩;have M6:Hid (Chd w0 p w V (shareM m q r n) W6):=show Chd _ _ _ _ _ _ by rw[HSH.out];exact Chd.trans HS5.out O5.out h6
 clear h6;go_wp2
 (first | go_end0 | ((try simp only[Exit.inBlock,Exit.then]);refine bodyPost_ret (results_none rfl _ _ _) rfl ?_))
 first | exact M6.out | exact⟨⟨_,rfl⟩,M6.out⟩
theorem chDrop_any {w0 w:World} {p:Nat} {V:MaV} {m:Ma} (h:ChM w0 p w V m) (q:Nat) (hq:q<m.sp.length) (n:Int):
  Calls Tryz.prog 81 #[.pointer (some ⟨p,0,none⟩),.agg #[.int .i64 (q:Int),.int .i64 n]] w fun e w'=>(∃v,e= .returned v)/\Chd w0 p w V (dropP m q n) w':=by
 obtain⟨E,HE⟩:∃E,Hid (entM m q n=E):=⟨_,rfl⟩;have HSH:Hid (dropP m q n=enterM (holdM m E (-1)) q n ⟨0,0,false⟩):=show _=_ by rw[<-HE.out];rfl
 have HM:Hid (ChM w0 p w V m):=h;have HQ:Hid (q<m.sp.length):=hq;have HD:Hid (∀k,Dp p V.sp k->k<w.heap.size):=h.dlt;clear h hq;obtain⟨W1,hW1⟩:∃W1,w.alloc (.cells #[.int .i64 (q:Int),.int .i64 n] 146)=W1:=⟨_,rfl⟩;have G1:=gA hW1
 obtain⟨b,HB⟩:∃b,Hid (w.heap.size=b):=⟨_,rfl⟩;have X1:=xPT hW1 HB
 have HND:Hid (¬Dp p V.sp b):=show¬_ from fun e=>by have:=HD.out _ e;have:=HB.out;omega
 have HW1:Hid (_=W1):=hW1;clear hW1;have hen:=chEntry_any (HM.out.grew G1.out) q HQ.out n;rw[HE.out]at hen
 go_enter Tryz.func81,Tryz.ntmps81
 go_upto_region 1 with fail;rw[HW1.out,HB.out];have x0:=X1.out.box.c 0 rfl;have x1:=X1.out.box.c 1 rfl;go_wp2_with fail;refine hen.mono ?_;clear hen x0 x1;rintro e W2 ⟨rfl,g2⟩;have G2:=dD (G1.out.trans g2);have X2:=dD (X1.out.grew g2);clear g2 G1 X1 HW1;unfold enV;have hho:=chHold_any (HM.out.grew G2.out) E (-1);go_wp2_with fail;refine hho.mono ?_;clear hho;rintro e W4 ⟨⟨v4,rfl⟩,V4,hs4,m4,o4⟩;have M4:Hid (ChM w0 p W4 V4 (holdM m E (-1))):=m4;have HS4:Hid (V4.sp=V.sp):=hs4;have O4:Hid (OutD (Dp p V.sp) w W4):=show OutD _ _ _ from(OutD.grew G2.out).trans o4
 have X4:Hid (BoxT W4 b 146 [.int .i64 (q:Int),.int .i64 n]):=X2.out.outD o4 HND.out;clear m4 hs4 o4 X2 G2;have x0:=X4.out.box.c 0 rfl;have x1:=X4.out.box.c 1 rfl;have hen:=chEnter_any M4.out q (by rw[holdM_sp];exact HQ.out) n ⟨0,0,false⟩
 go_wp2_with fail;refine hen.mono ?_;clear hen x0 x1;rintro e W6 ⟨⟨v6,rfl⟩,h6⟩;have M6:Hid (Chd w0 p w V (dropP m q n) W6):=show Chd _ _ _ _ _ _ by rw[HSH.out];exact Chd.trans HS4.out O4.out h6
 clear h6;go_wp2
 (first | go_end0 | ((try simp only[Exit.inBlock,Exit.then]);refine bodyPost_ret (results_none rfl _ _ _) rfl ?_))
 first | exact M6.out | exact⟨⟨_,rfl⟩,M6.out⟩
theorem eachPage_any {w0 w:World} {p:Nat} {V:MaV} {m:Ma} (h:ChM w0 p w V m) (q:Nat) (s:Sp) (hs:m.sp[q]? =some s) (F:Nat) (caps:Array Value) (J:Nat->World->Prop) (eg:Enters Tryz.prog F) (hJ0:∀W,Grew w W->J 0 W)
  (hstep:∀(k:Nat) (n:Int) W,(pagesTo s.tb anyEn 64)[k]? =some n->J k W->Calls Tryz.prog F (#[.int .i64 n]++caps) W fun e w'=>(∃v,e= .returned v)/\J (k+1) w'/\OutD (Dp p V.sp) W w'):
  Calls Tryz.prog 77 #[.pointer (some ⟨p,0,none⟩),.int .i64 (q:Int),.func (.func F) #[] caps] w fun e w'=>(∃v,e= .returned v)/\J (pagesTo s.tb anyEn 64).length w'/\OutD (Dp p V.sp) w w':=by
 obtain⟨xs,s1,s2,s3⟩:=h.sp;obtain⟨x,hx⟩:∃x,xs[q]? =some x:=⟨_,gE (by rw[s2];exact(gS.1 hs).1)⟩
 have HAT:Hid (SpaceAt w x s):=s3 q x s hx hs w (OutD.refl _ _);have hql:=(gS.1 hx).1;obtain⟨xn,HXN⟩:∃xn,Hid (xs.length=xn):=⟨_,rfl⟩;obtain⟨g,c,heq⟩:=s1.formS (by omega)
 rw[HXN.out]at heq hql;have hqz:(q:Int)< (xn:Int):=by omega
 have c10:=h.box.box.c 10 rfl;rw[heq]at c10 s1;have hce:Sp10 w ((Addr.mk g 0 none).add (q*10)) x:=(s1.one hx).sp10;rw[Addr.add_lit,zA]at hce;obtain⟨d0,d1,d2,d3,d4,d5,d6,d7,d8,d9⟩:=hce;have hpg:Calls Tryz.prog 92 #[.agg #[.slice x.t0.a x.t0.n x.t0.c,.slice x.t1.a x.t1.n x.t1.c,.slice x.t2.a x.t2.n x.t2.c,.slice x.t3.a x.t3.n x.t3.c,.slice x.t4.a x.t4.n x.t4.c,.slice x.t5.a x.t5.n x.t5.c,.slice x.t6.a x.t6.n x.t6.c,.slice x.t7.a x.t7.n x.t7.c]] w fun e w'=>∃v,e= .returned v/\OwnRow blE w.heap.size w' v (pagesTo s.tb anyEn 64)/\Grew w w':=pagesTb_any x.tab s.tb w HAT.out.tb
 have HD:Hid (∀k,Dp p V.sp k->k<w.heap.size):=h.dlt;have EG:Hid (∀(args:Array Value) (w:World),(callFunc F args).run Tryz.prog w= .ok (.enter F args) w):=eg;have HJ0:Hid (∀W,Grew w W->J 0 W):=hJ0
 generalize hPG:pagesTo s.tb anyEn 64=L at hstep hpg⊢
 have HST:Hid (∀(k:Nat) (n:Int) W,L[k]? =some n->J k W->Calls Tryz.prog F (#[.int .i64 n]++caps) W fun e w'=>(∃v,e= .returned v)/\J (k+1) w'/\OutD (Dp p V.sp) W w'):=hstep
 clear h hs s1 s2 s3 hx heq HAT eg hJ0 hstep hPG d0 d1
 go_enter Tryz.func77,Tryz.ntmps77
 go_wp2_with fail;refine hpg.mono ?_;clear hpg d2 d3 d4 d5 d6 d7 d8 d9 c10;rintro e W1 ⟨v1,rfl,ow1,g1⟩;have G1:Hid (Grew w W1):=g1;obtain⟨ra,rc,rfl⟩:=ow1.form;have R1:Hid (RowD blE (Dp p V.sp) W1 (.slice ra L.length rc) L):=show RowD _ _ _ _ _ from ow1.new.staysD HD.out
 have hbig:=ow1.at.short;clear ow1 g1;obtain⟨N,HN⟩:∃N,Hid (L.length=N):=⟨_,rfl⟩;rw[HN.out]at R1 hbig⊢;go_wp2
 go_loopg [19] N (fun gg s19 wr=>∃kk:Nat,kk<=N/\N - kk<=gg/\s19= .int .i64 kk/\Hid (OutD (Dp p V.sp) W1 wr)/\Hid (J kk wr))
 case atStart=>exact⟨0,nZ _,by omega,rfl,OutD.refl _ _,HJ0.out W1 G1.out⟩
 obtain⟨kk,hkk,hgg,rfl,OW,JW⟩:=hrel
 by_cases hlt:kk<N
 ·have hltz:(kk:Int)< (N:Int):=by omega
  obtain⟨n,HK⟩:∃n,Hid (L[kk]? =some n):=⟨_,gE (by rw[HN.out];exact hlt)⟩
  obtain⟨_,_,heq,hnr⟩:=(R1.out wr OW.out).nums;simp only[vJ]at heq;obtain⟨ad2,had2,hl2⟩:=hnr kk n HK.out;have e0:=hl2 wr (Grew.refl _);rw[<-heq.1]at had2;subst had2;clear heq hnr hl2;go_wp2_with fail;rw[EG.out];refine(HST.out kk n wr HK.out JW.out).mono ?_;clear e0;rintro e W3 ⟨⟨v3,rfl⟩,j3,o3⟩;have J3:Hid (J (kk+1) W3):=j3;have O3:Hid (OutD (Dp p V.sp) W1 W3):=show OutD _ _ _ from OW.out.trans o3
  clear j3 o3;go_wp2
  go_roundg (N -(kk+1))
  case measure=>omega
  exact⟨kk+1,by omega,by omega,by go_num,O3.out,J3.out⟩
 have hltz:¬(kk:Int)< (N:Int):=by omega
 have:kk=N:=by omega
 subst this;have HF:Hid (J L.length wr/\OutD (Dp p V.sp) w wr):=show _/\_ from⟨by rw[HN.out];exact JW.out,(OutD.grew G1.out).trans OW.out⟩
 go_wp2
 (first | go_end0 | ((try simp only[Exit.inBlock,Exit.then]);refine bodyPost_ret (results_none rfl _ _ _) rfl ?_))
 first | exact HF.out | exact⟨⟨_,rfl⟩,HF.out⟩
def RightSp (m:Ma):Prop:=∀s∈m.sp,(wrL s.ars).1=0/\tbW s.tb=0
theorem rightSp {m:Ma} (h:wSpaces m=0):RightSp m:=fun s hs=>by
 unfold wSpaces at h
 split at h
 ·cases h
 have:=firstE_zero.1 h (spE s) (List.mem_map.2 ⟨s,hs,rfl⟩);unfold spE at this
 split at this
 ·rename_i a;exact absurd this a
 rename_i a
 split at this
 ·rename_i b;exact absurd this b
 rename_i b;exact⟨by simpa using a,by simpa using b⟩
theorem flat_ok {s:Sp} (h:tbW s.tb=0) (n:Nat):enW (flatN s n)=0:=by
 unfold flatN getN;have hall:=tbW_zero.1 h;have:HaOk (s.tb[n / 8]?.getD []):=by
  cases e:s.tb[n / 8]? with
  | none=>exact .inl rfl
  | some x=>exact hall x (mG e)
 exact this.get (n % 8)
theorem get_flat {s:Sp} {n:Nat} (h:n<64):getT s.tb (n:Int)=flatN s n:=by
 unfold getT flatN;rw[if_pos (by omega),tN]
theorem pagesN_lt {s:Sp} {j n:Nat} (h:(pagesN s)[j]? =some n):n<64:=by
 have:=mG h;unfold pagesN at this;rw[List.mem_filter,List.mem_range]at this;exact this.1
theorem canP_at:∀{l:List Ar} {p:Option Ar} {k:Nat} {a:Ar},CanP p l->l[k]? =some a->ArOk a
 | [],_,_,_,_,h=>by simp at h
 | b :: l,p,0,a,hc,h=>by
  simp at h
  subst h;exact hc.1
 | b :: l,p,k+1,a,hc,h=>canP_at hc.2.2 (by simpa using h)
theorem wrongPagesM_any (V:MaV) (m:Ma) (w:World) (hm:MachAt w V m) (h1:Right1 m) (h2:RightSp m):
  Calls Tryz.prog 38 #[.agg #[.slice V.f.a V.f.n V.f.c,.int .i64 m.hand,.slice V.s.a V.s.n V.s.c,.slice V.sb.a V.sb.n V.sb.c,.slice V.sq.a V.sq.n V.sq.c,.slice V.db.a V.db.n V.db.c,.slice V.dq.a V.dq.n V.dq.c,.slice V.fl.a V.fl.n V.fl.c,.int .i64 m.cnt,.slice V.ca.a V.ca.n V.ca.c,.slice V.sp.a V.sp.n V.sp.c]] w fun e w'=>e= .returned (.int .i64 (wPages m))/\Grew w w':=by
 have HWE:Hid (∀(a:Ar) (n:Nat) (e:En) W,Grew w W->ArOk a->n<=64->0<=e.n->Calls Tryz.prog 93 #[.agg #[.slice V.f.a V.f.n V.f.c,.int .i64 m.hand,.slice V.s.a V.s.n V.s.c,.slice V.sb.a V.sb.n V.sb.c,.slice V.sq.a V.sq.n V.sq.c,.slice V.db.a V.db.n V.db.c,.slice V.dq.a V.dq.n V.dq.c,.slice V.fl.a V.fl.n V.fl.c,.int .i64 m.cnt,.slice V.ca.a V.ca.n V.ca.c,.slice V.sp.a V.sp.n V.sp.c],.agg #[.int .i64 a.fr,.int .i64 a.tz,.bool a.rd,.bool a.wr,.bool a.sh,.int .i64 a.file,.int .i64 a.base],.int .i64 (n:Int),.agg #[.int .i64 e.kind,.int .i64 e.n,.bool e.wr]] W fun e' w'=>e'= .returned (.int .i64 (wEntry m a n e))/\Grew W w'):=show∀(a:Ar) (n:Nat) (e:En) W,_ from fun a n e W hW ha hn he=>wrongEntryM_any V m a n e W (hm.grew hW) ha hn he
 have HM1:Hid (memW m.fs m.hand=0):=h1.mem;have HRS:Hid (RightSp m):=h2;obtain⟨vf,vs,vsb,vsq,vdb,vdq,vfl,vca,⟨spa,spn,spc⟩⟩:=V;dsimp only at HWE⊢;obtain⟨-,-,-,-,-,-,-,-,n9⟩:=hm.ns;dsimp only at n9;obtain⟨xs,hxl,hrow,hsp⟩:=hm.spaces;have HXL:Hid (xs.length=m.sp.length):=hxl;have HR:Hid (∀(j:Nat) x,xs[j]? =some x->∃ad,spa=some ad/\∀W,Grew w W->Sp10 W (ad.add (j*10)) x):=hrow;have HSP:Hid (∀(i:Nat) x s,xs[i]? =some x->m.sp[i]? =some s->SpaceAt w x s):=hsp;have HN:Hid (m.sp.length=spn):=n9.symm;have hbig:spn<=9223372036854775807:=by
  obtain⟨ys,k1,k2,_⟩:=hm.sp;have:=k1.short;omega
 obtain⟨Z,HZ⟩:∃Z,Hid (wPages m=Z):=⟨_,rfl⟩;rw[HZ.out];clear hm hxl hrow hsp n9 h1 h2;obtain⟨W0,hW0⟩:∃W0,w.alloc (.cells #[.slice vf.a vf.n vf.c,.int .i64 m.hand,.slice vs.a vs.n vs.c,.slice vsb.a vsb.n vsb.c,.slice vsq.a vsq.n vsq.c,.slice vdb.a vdb.n vdb.c,.slice vdq.a vdq.n vdq.c,.slice vfl.a vfl.n vfl.c,.int .i64 m.cnt,.slice vca.a vca.n vca.c,.slice spa spn spc] 40)=W0:=⟨_,rfl⟩;have HG0:=gA hW0
 have X0:=xA hW0
 have HW0:Hid (_=W0):=hW0;clear hW0
 go_enter Tryz.func38,Tryz.ntmps38
 go_upto_region 1 with fail;rw[HW0.out];have x10:=X0.out.c 10 rfl;go_wp2;clear x10
 go_loopg [12] spn (fun gg s12 wr=>∃kk:Nat,kk<=spn/\spn - kk<=gg/\s12= .int .i64 kk/\Hid (Grew w wr)/\Hid (Box wr w.heap.size [.slice vf.a vf.n vf.c,.int .i64 m.hand,.slice vs.a vs.n vs.c,.slice vsb.a vsb.n vsb.c,.slice vsq.a vsq.n vsq.c,.slice vdb.a vdb.n vdb.c,.slice vdq.a vdq.n vdq.c,.slice vfl.a vfl.n vfl.c,.int .i64 m.cnt,.slice vca.a vca.n vca.c,.slice spa spn spc])/\Hid (∀(j:Nat) s,j<kk->m.sp[j]? =some s->spEnt m s=0))
 case atStart=>exact⟨0,nZ _,by omega,rfl,HG0.out,X0.out,fun j s hj=>absurd hj (nL _)⟩
 obtain⟨kk,hkk,hgg,rfl,BW,XW,OW⟩:=hrel;clear X0 HG0
 by_cases hlt:kk<spn
 ·have hltz:(kk:Int)< (spn:Int):=by omega
  obtain⟨s,HS⟩:∃s,Hid (m.sp[kk]? =some s):=⟨_,gE (by rw[HN.out];exact hlt)⟩
  obtain⟨x,HX⟩:∃x,Hid (xs[kk]? =some x):=⟨_,gE (by rw[HXL.out,HN.out];exact hlt)⟩
  have HAT:Hid (SpaceAt w x s):=HSP.out kk x s HX.out HS.out;obtain⟨hok1,hok2⟩:=HRS.out s (mG HS.out);have HCN:Hid (CanP none s.ars):=(wrL_zero.1 hok1).2;have HTB:Hid (tbW s.tb=0):=hok2;have HAL:Hid (s.ars.length=x.ar.n):=HAT.out.ar.n.symm;have HAR:Hid (ArRows w x.ar.a s.ars):=show ArRows _ _ _ by
   obtain⟨_,_,q1,q2⟩:=HAT.out.ar.ars;simp only[vJ]at q1;rw[q1.1];exact q2
  clear hok1 hok2;obtain⟨ad,rfl,hl⟩:=HR.out kk x HX.out;obtain⟨d0,d1,d2,d3,d4,d5,d6,d7,d8,d9⟩:=hl wr BW.out;clear hl;go_upto_region 4 with fail;obtain⟨W1,hW1⟩:∃W1,wr.alloc (.cells #[.bool x.live,.slice x.ar.a x.ar.n x.ar.c,.slice x.t0.a x.t0.n x.t0.c,.slice x.t1.a x.t1.n x.t1.c,.slice x.t2.a x.t2.n x.t2.c,.slice x.t3.a x.t3.n x.t3.c,.slice x.t4.a x.t4.n x.t4.c,.slice x.t5.a x.t5.n x.t5.c,.slice x.t6.a x.t6.n x.t6.c,.slice x.t7.a x.t7.n x.t7.c] 65)=W1:=⟨_,rfl⟩;have HG1:=gT hW1 BW
  have X1:=yA hW1 XW
  have S1:=xA hW1
  rw[hW1];clear hW1 d0 d1 d2 d3 d4 d5 d6 d7 d8 d9;obtain⟨pb,HPB⟩:∃pb,Hid (wr.heap.size=pb):=⟨_,rfl⟩;rw[HPB.out]at S1⊢;have hcall:Calls Tryz.prog 92 #[.agg #[.slice x.t0.a x.t0.n x.t0.c,.slice x.t1.a x.t1.n x.t1.c,.slice x.t2.a x.t2.n x.t2.c,.slice x.t3.a x.t3.n x.t3.c,.slice x.t4.a x.t4.n x.t4.c,.slice x.t5.a x.t5.n x.t5.c,.slice x.t6.a x.t6.n x.t6.c,.slice x.t7.a x.t7.n x.t7.c]] W1 fun e w'=>∃v,e= .returned v/\OwnRow blE W1.heap.size w' v (pagesTo s.tb anyEn 64)/\Grew W1 w':=pagesTb_any x.tab s.tb W1 (HAT.out.grew HG1.out).tb
  have s2:=S1.out.c 2 rfl;have s3:=S1.out.c 3 rfl;have s4:=S1.out.c 4 rfl;have s5:=S1.out.c 5 rfl;have s6:=S1.out.c 6 rfl;have s7:=S1.out.c 7 rfl;have s8:=S1.out.c 8 rfl;have s9:=S1.out.c 9 rfl;go_wp2_with fail;refine hcall.mono ?_;clear hcall s2 s3 s4 s5 s6 s7 s8 s9;rintro e' W2 ⟨pv,rfl,ow2,hg2⟩;have HG2:=dD (HG1.out.trans hg2);have X2:=dD (X1.out.grew hg2);have S2:=dD (S1.out.grew hg2);clear hg2;obtain⟨pa,pc,rfl,hnr⟩:=ow2.at.nums;have hq0:=ow2.at.short;have HNR:Hid (NumRows W2 pa (pagesTo s.tb anyEn 64)):=hnr;rw[pagesTo_any,List.length_map]at hq0⊢;rw[pagesTo_any]at HNR;clear ow2 hnr;obtain⟨q,HQ⟩:∃q,Hid ((pagesN s).length=q):=⟨_,rfl⟩;rw[HQ.out]at hq0⊢;go_wp2;have HBW:Hid (Grew w wr):=BW;have HOW:Hid (∀(j:Nat) s,j<kk->m.sp[j]? =some s->spEnt m s=0):=OW;clear BW XW OW
  go_loopg [20] q (fun gg s20 wr=>∃i:Nat,i<=q/\q - i<=gg/\s20= .int .i64 i/\Hid (Grew W2 wr)/\Hid (∀(j:Nat) n,j<i->(pagesN s)[j]? =some n->entE m (onAt s.ars n) (flatN s n)=0))
  case atStart=>exact⟨0,nZ _,by omega,rfl,Grew.refl _,fun j s hj=>absurd hj (nL _)⟩
  obtain⟨i,hi,hg2,rfl,BW,OW⟩:=hrel
  by_cases hlt2:i<q
  ·have hltz2:(i:Int)< (q:Int):=by omega
   obtain⟨n,HNI⟩:∃n,Hid ((pagesN s)[i]? =some n):=⟨_,gE (by rw[HQ.out];exact hlt2)⟩
   have hn64:n<64:=pagesN_lt HNI.out;obtain⟨ad2,rfl,hl2⟩:=HNR.out i (n:Int) (by rw[List.getElem?_map,HNI.out];rfl)
   have e0:=hl2 wr BW.out;clear hl2;have HGW:=dD (HG2.out.trans BW.out);have hcf:=find_any (.slice x.ar.a x.ar.n x.ar.c) s.ars (n:Int) wr (HAT.out.ar.grew HGW.out);have s1:=(S2.out.grew BW.out).c 1 rfl;go_wp2_with fail;refine hcf.mono ?_;clear hcf e0 s1;rintro e' W4 ⟨⟨z,rfl,hz⟩,hg4⟩;have HFZ:Hid (FindsZ s.ars (n:Int) z):=hz;have HG4:=dD (BW.out.trans hg4);have HGw4:=dD (HG2.out.trans HG4.out);clear hg4 hz
   by_cases hz0:z<0
   ·have HZE:Hid (Z=5):=show _=_ by
     have h5:entE m (onAt s.ars n) (flatN s n)=5:=by
      have:=finds_is HFZ.out;rw[decide_eq_false (by omega)]at this
      unfold entE;rw[if_pos this.symm]
     have h6:spEnt m s=5:=by rw[spEnt_pages,firstE_at HNI.out OW.out (by rw[h5];decide),h5]
     rw[<-HZ.out];unfold wPages;rw[firstE_at HS.out HOW.out (by rw[h6];decide),h6]
    go_wp2;go_ret;exact⟨by rw[HZE.out];rfl,HGw4.out⟩
   obtain⟨k,a,rfl,HKA,HIN⟩:∃(k:Nat) (a:Ar),z=(k:Int)/\Hid (s.ars[k]? =some a)/\Hid (inZ a (n:Int)=true):=by
    rcases HFZ.out with⟨k,a,q1,q2,q3⟩ | ⟨q1,_⟩
    ·exact⟨k,a,q1,q2,q3⟩
    omega
   have HAO:Hid (ArOk a):=canP_at HCN.out HKA.out;have hkl:k<x.ar.n:=by rw[<-HAL.out];exact(gS.1 HKA.out).1
   have HEN:Hid (entE m (onAt s.ars n) (flatN s n)=wEntry m a n (flatN s n)):=show _=_ by rw[onAt_uniq HCN.out HKA.out HIN.out,wEntry_eq HM1.out HAO.out]
   have hen0:0<=(flatN s n).n:=(enW_zero (flat_ok HTB.out n)).2.1.1;have HWE':Hid (∀W,Grew w W->Calls Tryz.prog 93 #[.agg #[.slice vf.a vf.n vf.c,.int .i64 m.hand,.slice vs.a vs.n vs.c,.slice vsb.a vsb.n vsb.c,.slice vsq.a vsq.n vsq.c,.slice vdb.a vdb.n vdb.c,.slice vdq.a vdq.n vdq.c,.slice vfl.a vfl.n vfl.c,.int .i64 m.cnt,.slice vca.a vca.n vca.c,.slice (some ad) spn spc],.agg #[.int .i64 a.fr,.int .i64 a.tz,.bool a.rd,.bool a.wr,.bool a.sh,.int .i64 a.file,.int .i64 a.base],.int .i64 (n:Int),enV (flatN s n)] W fun e' w'=>e'= .returned (.int .i64 (wEntry m a n (flatN s n)))/\Grew W w'):=show∀W,_ from fun W hW=>HWE.out a n (flatN s n) W hW HAO.out (by omega) hen0
   have HGT:Hid (∀W,Grew w W->Calls Tryz.prog 65 #[.agg #[.slice x.t0.a x.t0.n x.t0.c,.slice x.t1.a x.t1.n x.t1.c,.slice x.t2.a x.t2.n x.t2.c,.slice x.t3.a x.t3.n x.t3.c,.slice x.t4.a x.t4.n x.t4.c,.slice x.t5.a x.t5.n x.t5.c,.slice x.t6.a x.t6.n x.t6.c,.slice x.t7.a x.t7.n x.t7.c],.int .i64 (n:Int)] W fun e w'=>e= .returned (enV (flatN s n))/\Grew W w'):=show∀W,_ from fun W hW=>by
    have:=getTb_any x.tab s.tb (n:Int) W (HAT.out.grew hW).tb;rw[get_flat hn64]at this;exact this
   clear hen0;go_upto_region 10 with fail;obtain⟨ada,hva,hl⟩:=HAR.out k a HKA.out;have X4:=dD (X2.out.grew HG4.out);have S4:=dD (S2.out.grew HG4.out);have hx0:=X4.out.gw 0 rfl
   have hx1:=X4.out.gw 1 rfl
   have hx2:=X4.out.gw 2 rfl
   have hx3:=X4.out.gw 3 rfl
   have hx4:=X4.out.gw 4 rfl
   have hx5:=X4.out.gw 5 rfl
   have hx6:=X4.out.gw 6 rfl
   have hx7:=X4.out.gw 7 rfl
   have hx8:=X4.out.gw 8 rfl
   have hx9:=X4.out.gw 9 rfl
   have hx10:=X4.out.gw 10 rfl
   have hs1:=S4.out.gw 1 rfl
   have hs2:=S4.out.gw 2 rfl
   have hs3:=S4.out.gw 3 rfl
   have hs4:=S4.out.gw 4 rfl
   have hs5:=S4.out.gw 5 rfl
   have hs6:=S4.out.gw 6 rfl
   have hs7:=S4.out.gw 7 rfl
   have hs8:=S4.out.gw 8 rfl
   have hs9:=S4.out.gw 9 rfl
   rw[hva]at hs1;have hy0:∀y:GrownW W4,y.world.cell? (ada.add (k*7))=some (.int .i64 a.fr):=fun y=>(hl _ (HGw4.out.trans y.grew)).1
   have hy1:∀y:GrownW W4,y.world.cell? { block:=(ada.add (k*7)).block,off:=(ada.add (k*7)).off+1 }=some (.int .i64 a.tz):=fun y=>(hl _ (HGw4.out.trans y.grew)).2.1
   have hy2:∀y:GrownW W4,y.world.cell? { block:=(ada.add (k*7)).block,off:=(ada.add (k*7)).off+2 }=some (.bool a.rd):=fun y=>(hl _ (HGw4.out.trans y.grew)).2.2.1
   have hy3:∀y:GrownW W4,y.world.cell? { block:=(ada.add (k*7)).block,off:=(ada.add (k*7)).off+3 }=some (.bool a.wr):=fun y=>(hl _ (HGw4.out.trans y.grew)).2.2.2.1
   have hy4:∀y:GrownW W4,y.world.cell? { block:=(ada.add (k*7)).block,off:=(ada.add (k*7)).off+4 }=some (.bool a.sh):=fun y=>(hl _ (HGw4.out.trans y.grew)).2.2.2.2.1
   have hy5:∀y:GrownW W4,y.world.cell? { block:=(ada.add (k*7)).block,off:=(ada.add (k*7)).off+5 }=some (.int .i64 a.file):=fun y=>(hl _ (HGw4.out.trans y.grew)).2.2.2.2.2.1
   have hy6:∀y:GrownW W4,y.world.cell? { block:=(ada.add (k*7)).block,off:=(ada.add (k*7)).off+6 }=some (.int .i64 a.base):=fun y=>(hl _ (HGw4.out.trans y.grew)).2.2.2.2.2.2
   have hne:Nonempty (GrownW W4):=⟨⟨_,Grew.refl _⟩⟩;clear hl hva;refine wp_lax [(10,⟨fun v=>v=enV (flatN s n),fun v w'=>True⟩),(11,⟨fun v=>v= .int .i64 (wEntry m a n (flatN s n)),fun v w'=>True⟩)] mixed (by kernel_rfl) ?hS ?hp ?_
   case hS=>
    intro x hx;simp only[mC,nM,or_false]at hx
    rcases hx with rfl | rfl
    ·exact⟨_,rfl⟩
    exact⟨_,rfl⟩
   case hp=>
    intro x hx;simp only[mC,nM,or_false]at hx
    rcases hx with rfl | rfl
    ·exact fun _ _ _ _ h=>h
    exact fun _ _ _ _ h=>h
   iterate 10 (refine lax_quiet rfl rfl rfl (fun K hK=>?_);go_big_quiet_op;refine hK _ ?_;clear hK K)
   refine lax_spec rfl rfl (fun w' hg hF=>?_) (fun v1 hv=>?_)
   ·refine Does.call [.agg #[.slice x.t0.a x.t0.n x.t0.c,.slice x.t1.a x.t1.n x.t1.c,.slice x.t2.a x.t2.n x.t2.c,.slice x.t3.a x.t3.n x.t3.c,.slice x.t4.a x.t4.n x.t4.c,.slice x.t5.a x.t5.n x.t5.c,.slice x.t6.a x.t6.n x.t6.c,.slice x.t7.a x.t7.n x.t7.c],.int .i64 (n:Int)] rfl Tryz.func65 rfl rfl rfl ?_;refine(HGT.out w' (HGw4.out.trans hg)).mono ?_;rintro e w'' ⟨rfl,hg3⟩;exact⟨_,rfl,hg3,rfl,trivial⟩
   subst hv;simp only[Act.put,sB,sS,sZ];refine lax_spec rfl rfl (fun w' hg hF=>?_) (fun v1 hv=>?_)
   ·refine Does.call [.agg #[.slice vf.a vf.n vf.c,.int .i64 m.hand,.slice vs.a vs.n vs.c,.slice vsb.a vsb.n vsb.c,.slice vsq.a vsq.n vsq.c,.slice vdb.a vdb.n vdb.c,.slice vdq.a vdq.n vdq.c,.slice vfl.a vfl.n vfl.c,.int .i64 m.cnt,.slice vca.a vca.n vca.c,.slice (some ad) spn spc],.agg #[.int .i64 a.fr,.int .i64 a.tz,.bool a.rd,.bool a.wr,.bool a.sh,.int .i64 a.file,.int .i64 a.base],.int .i64 (n:Int),enV (flatN s n)] rfl Tryz.func93 rfl rfl rfl ?_;refine(HWE'.out w' (HGw4.out.trans hg)).mono ?_;rintro e w'' ⟨rfl,hg3⟩;exact⟨_,rfl,hg3,rfl,trivial⟩
   subst hv;simp only[Act.put,sB,sS,sZ];iterate 1 (refine lax_quiet rfl rfl rfl (fun K hK=>?_);go_big_quiet_op;refine hK _ ?_;clear hK K)
   refine lax_nil fun W5 hg5 hF=>?_
   have HG5:=dD (HG4.out.trans hg5);have HGw5:=dD (HG2.out.trans HG5.out);clear hg5 hF hx0 hx1 hx2 hx3 hx4 hx5 hx6 hx7 hx8 hx9 hx10 hs1 hs2 hs3 hs4 hs5 hs6 hs7 hs8 hs9 hy0 hy1 hy2 hy3 hy4 hy5 hy6 hne;obtain⟨e,HEE⟩:∃e,Hid (wEntry m a n (flatN s n)=e):=⟨_,rfl⟩;rw[HEE.out];rw[HEE.out]at HEN
   by_cases h0:e=0
   ·have h0e:(e != 0)=false:=by simp[h0]
    have OW':Hid (∀(j:Nat) n,j<i+1->(pagesN s)[j]? =some n->entE m (onAt s.ars n) (flatN s n)=0):=show∀(j:Nat) n,_ from fun j n' hj hn'=>by
     by_cases ej:j=i
     ·subst ej;rw[HNI.out]at hn';cases hn';rw[HEN.out];exact h0
     exact OW.out j n' (by omega) hn'
    clear h0;go_wp2
    go_roundg (q -(i+1))
    case measure=>omega
    exact⟨i+1,by omega,by omega,by go_num,HG5.out,OW'.out⟩
   have h0e:(e != 0)=true:=by simp[h0]
   have HZE:Hid (Z=e):=show _=_ by
    have h6:spEnt m s=e:=by rw[spEnt_pages,firstE_at HNI.out OW.out (by rw[HEN.out];exact h0),HEN.out]
    rw[<-HZ.out];unfold wPages;rw[firstE_at HS.out HOW.out (by rw[h6];exact h0),h6]
   clear h0;go_wp2;go_ret;exact⟨by rw[HZE.out];rfl,HGw5.out⟩
  have hltz2:¬(i:Int)< (q:Int):=by omega
  have:i=q:=by omega
  subst this;have HSE:Hid (spEnt m s=0):=show _=_ by
   rw[spEnt_pages];exact firstE_all fun j n hn=>OW.out j n (by rw[<-HQ.out];exact(gS.1 hn).1) hn
  have OW':Hid (∀(j:Nat) s,j<kk+1->m.sp[j]? =some s->spEnt m s=0):=show∀(j:Nat) s,_ from fun j s' hj hs=>by
   by_cases ej:j=kk
   ·subst ej;rw[HS.out]at hs;cases hs;exact HSE.out
   exact HOW.out j s' (by omega) hs
  have XX:=dD (X2.out.grew BW.out);have GG:=dD (HG2.out.trans BW.out);go_wp2
  go_roundg (spn -(kk+1))
  case measure=>omega
  exact⟨kk+1,by omega,by omega,by go_num,GG.out,XX.out,OW'.out⟩
 have hltz:¬(kk:Int)< (spn:Int):=by omega
 have:kk=spn:=by omega
 subst this;have HZE:Hid (Z=0):=show _=_ by
  rw[<-HZ.out];exact firstE_all fun j s hs=>OW.out j s (by rw[<-HN.out];exact(gS.1 hs).1) hs
 go_wp2;go_ret;exact⟨by rw[HZE.out];rfl,BW.out⟩
end
end Go.Proofs.YtangilolcekceaaGreat
